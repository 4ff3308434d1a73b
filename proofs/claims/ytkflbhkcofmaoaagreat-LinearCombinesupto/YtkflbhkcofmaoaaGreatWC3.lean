/-
  Layer 6: Combine.
-/
import Derived.Test.YtkflbhkcofmaoaaGreatWN21
import Derived.Test.YtkflbhkcofmaoaaGreatWN11
import Derived.Test.YtkflbhkcofmaoaaGreatWN17
import Derived.Test.YtkflbhkcofmaoaaGreatWN15
import Derived.Test.YtkflbhkcofmaoaaGreatWN20
import Derived.Test.YtkflbhkcofmaoaaGreatWL3
namespace Go.Proofs.YtkflbhkcofmaoaaGreat
set_option linter.unusedVariables false
set_option linter.unusedSimpArgs false

/-- a form's value -/
def vl (ρ : Int → Rat) : Fo → Rat
  | [] => 0
  | p :: l => p.2 * ρ p.1 + vl ρ l
/-! ### How long -/
theorem wt_mul' (r t : Rat) : wt (r * t) ≤ wt r + wt t := by
  have e : r * t = Rat.divInt (r.num * t.num) ((r.den : Int) * (t.den : Int)) := by
    rw [← Rat.divInt_mul_divInt, Rat.num_divInt_den, Rat.num_divInt_den]
  have hl := (low_of (Int.mul_ne_zero (by have := r.den_pos; omega) (by have := t.den_pos; omega)) e).le
  have a1 := lt_prod (i := ln (am r.num)) (j := ln (am t.num)) (ln_lt (am r.num)) (ln_lt (am t.num))
  have a2 : am ((r.den : Int) * (t.den : Int)) < BB ^ (ln r.den + ln t.den) := lt_prod (by show r.den < _; exact ln_lt r.den) (by show t.den < _; exact ln_lt t.den)
  have b1 := ln_le_of_lt (Nat.lt_of_le_of_lt hl.1 a1)
  have b2 := ln_le_of_lt (Nat.lt_of_le_of_lt hl.2 a2)
  unfold wt
  omega
/-! ### The list of products -/
end Go.Proofs.YtkflbhkcofmaoaaGreat

namespace Go.Proofs.YtkflbhkcofmaoaaGreat
open Go.RowKit
set_option linter.unusedVariables false
set_option linter.unusedSimpArgs false

/-- its numbers lie in blocks from B on -/
def RatV.frm (q : RatV) (B : Nat) : Prop := (0 < q.n → ∀ ad, q.a = some ad → B ≤ ad.block) ∧ (0 < q.m → ∀ ad, q.b = some ad → B ≤ ad.block)
theorem RatV.frm.off {q : RatV} {B g : Nat} (h : q.frm B) (hg : g < B) : q.off g := ⟨fun hn ad e => by have := h.1 hn ad e; omega, fun hn ad e => by have := h.2 hn ad e; omega⟩
theorem RatV.frm.mono {q : RatV} {B C : Nat} (h : q.frm B) (hg : C ≤ B) : q.frm C := ⟨fun hn ad e => Nat.le_trans hg (h.1 hn ad e), fun hn ad e => Nat.le_trans hg (h.2 hn ad e)⟩
def TInvN (w : World) (g : Rat → Rat) (L : List Mo) (k : Nat) (vo : Value) (wr : World) : Prop :=
  ∃ R : List Mo, R.length = k ∧ wr.ownsRow w.heap.size 59 4 vo R.length (cellsF R) ∧ Below w.heap.size w wr ∧ (∀ p ∈ R, Grw vo wr p) ∧ fo R = fmap g (fo (L.take k)) ∧ ∀ p ∈ R, p.2.frm w.heap.size
/-- an answer that is a form, its numbers in new memory -/
def FAnsF (w : World) (B : Nat) (T : Fo) (e : Ending) (w' : World) : Prop :=
  ∃ (a : Option Addr) (c : Nat) (R : List Mo), e = .returned (.slice a R.length c) ∧ Below w.heap.size w w' ∧ Sl w' a c R ∧ (∀ p ∈ R, Ent w' p) ∧ fo R = T ∧ ∀ p ∈ R, p.2.frm B
set_option maxHeartbeats 4000000 in
set_option maxRecDepth 100000 in
theorem turned_timesN (cb : Nat) (g : Rat → Rat) (a : Option Addr) (c : Nat) (L : List Mo) (w : World) (hF : FAt w a L) (hok : ∀ p ∈ L, p.2.ok w) (hc : L.length ≤ c) (hm : L.length ≤ 1048576)
    (H : ∀ p ∈ L, ∀ w', Below w.heap.size w w' → Calls Tryz.prog 47 #[.agg #[.bool p.2.s, .slice p.2.a p.2.n p.2.c, .slice p.2.b p.2.m p.2.e], .pointer (some ⟨cb, 0, none⟩)] w' (RAns w' (g p.2.val)))
    (hs : ∀ p ∈ L, sz 35184372087808 (g p.2.val)) :
    Calls Tryz.prog 46 #[.slice a L.length c, .func (.func 47) #[] #[.pointer (some ⟨cb, 0, none⟩)]] w fun e w' => ∃ vo, e = .returned vo ∧ TInvN w g L L.length vo w' := by
  obtain ⟨i0, hi0, hz0, hz1, hz2⟩ := info_parts info_Mono
  obtain ⟨w1, mk, own1, gr1⟩ := run_make_own (P := Tryz.prog) w w.heap.size 25 59 i0 _ 4 Tryz.underlying25 hi0 hz0 hz1 .i64 .i64 L.length (by rw [hz2]; omega) (by simp only [maxLen]; omega) (Nat.le_refl _)
  have I0 : TInvN w g L 0 (.slice (some ⟨w.heap.size, 0, none⟩) 0 L.length) w1 := ⟨[], rfl, own1, below_grown (Nat.le_refl _) (fun k h => by cases h) gr1, fun p hp => by simp at hp, rfl, fun p hp => by simp at hp⟩
  have l0 : (0 : Int) ≤ (L.length : Int) := by omega
  clear own1 gr1
  go_enter Tryz.func46, Tryz.ntmps46
  go_wp2_with fail
  go_loopw [5, 13] (fun vo vi wr => ∃ k : Nat, k ≤ L.length ∧ vi = .int .i64 k ∧ TInvN w g L k vo wr) (fun _ vi _ => L.length - (intOf vi).toNat)
  case atStart => exact ⟨0, Nat.zero_le _, rfl, I0⟩
  case round =>
    clear I0 mk
    obtain ⟨k, hk, rfl, R, hRl, hO, hB, hR, hfo, hFr⟩ := hrel
    by_cases hlt : k < L.length
    · obtain ⟨p, hp⟩ : ∃ p, L[k]? = some p := ⟨L[k], List.getElem?_eq_getElem hlt⟩
      obtain ⟨b, off, rfl, hb, hcell⟩ := hF (by intro e; rw [e] at hlt; simp at hlt)
      obtain ⟨c0, c1, c2, c3⟩ := hcell k p hp
      replace c0 := below_cell hB c0
      replace c1 := below_cell hB c1
      replace c2 := below_cell hB c2
      replace c3 := below_cell hB c3
      have hmem := List.mem_of_getElem? hp
      have GC := hide' (fun w' hb => H p hmem w' hb)
      have hsz := hs p hmem
      obtain ⟨t1, t2⟩ := take_split hp
      have hfo' : fo (L.take (k + 1)) = fo (L.take k) ++ [(p.1, p.2.val)] := by rw [t1, fo_append]; rfl
      clear t1 t2 hp hmem
      obtain ⟨x, q⟩ := p
      simp only at c0 c1 c2 c3 GC hsz hfo'
      obtain ⟨r, hr⟩ : ∃ r, g q.val = r := ⟨_, rfl⟩
      rw [hr] at GC hsz
      have i0' : (0 : Int) ≤ (k : Int) := by omega
      have i1 : (k : Int) < (L.length : Int) := by omega
      have hrow := fun k hk => (hO.lt k hk)
      go_wp2_with fail
      obtain ⟨wA, hwA⟩ : ∃ wA, wr.alloc (.cells #[.int .i64 x, .bool q.s, .slice q.a q.n q.c, .slice q.b q.m q.e] 59) = wA := ⟨_, rfl⟩
      have bA : Below wr.heap.size wr wA := by subst hwA; exact below_alloc _
      have a0 : wA.cell? ⟨wr.heap.size, 0, none⟩ = some (.int .i64 x) := by subst hwA; go_simp
      have a1 : wA.cell? ⟨wr.heap.size, 1, none⟩ = some (.bool q.s) := by subst hwA; go_simp
      have a2 : wA.cell? ⟨wr.heap.size, 2, none⟩ = some (.slice q.a q.n q.c) := by subst hwA; go_simp
      have a3 : wA.cell? ⟨wr.heap.size, 3, none⟩ = some (.slice q.b q.m q.e) := by subst hwA; go_simp
      rw [hwA]
      clear hwA c0 c1 c2 c3
      have bD : Below wA.heap.size wA wA.drew := (Below.refl _ _).drew
      have ka0 := below_cell bD a0
      have ka1 := below_cell bD a1
      have ka2 := below_cell bD a2
      have ka3 := below_cell bD a3
      replace bA := bA.trans (bD.mono bA.size)
      refine wp_region_held_drew (S := fun w' => w'.cell? ⟨wr.heap.size, 0, none⟩ = some (.int .i64 x) ∧ w'.cell? ⟨wr.heap.size, 1, none⟩ = some (.bool q.s) ∧ w'.cell? ⟨wr.heap.size, 2, none⟩ = some (.slice q.a q.n q.c) ∧ w'.cell? ⟨wr.heap.size, 3, none⟩ = some (.slice q.b q.m q.e)) (by kernel_rfl) ⟨ka0, ka1, ka2, ka3⟩ (fun hHeld => ?_)
      clear ka0 ka1 ka2 ka3
      generalize wA.drew = w0 at bD bA hHeld ⊢
      clear a0 a1 a2 a3 bD
      refine take' 0 (v := ?_) rfl (by kernel_rfl) (by kernel_rfl) (by kernel_rfl) (fun _ _ _ h => h) (Or.inl ⟨by rfl, ?_⟩) (by assumption) ?_
      rotate_left
      · intro w9 hSw
        go_simp
        first | done | with_reducible rfl
      simp only [Act.put, List.setIfInBounds_toArray, List.set_cons_zero, List.set_cons_succ]
      refine take' 1 (v := ?_) rfl (by kernel_rfl) (by kernel_rfl) (by kernel_rfl) (fun _ _ _ h => h) (Or.inl ⟨by rfl, ?_⟩) (by assumption) ?_
      rotate_left
      · intro w9 hSw
        go_simp
        first | done | with_reducible rfl
      simp only [Act.put, List.setIfInBounds_toArray, List.set_cons_zero, List.set_cons_succ]
      refine take' 2 (v := ?_) rfl (by kernel_rfl) (by kernel_rfl) (by kernel_rfl) (fun _ _ _ h => h) (Or.inl ⟨by rfl, ?_⟩) (by assumption) ?_
      rotate_left
      · intro w9 hSw
        go_simp
        first | done | with_reducible rfl
      simp only [Act.put, List.setIfInBounds_toArray, List.set_cons_zero, List.set_cons_succ]
      refine take' 3 (v := ?_) rfl (by kernel_rfl) (by kernel_rfl) (by kernel_rfl) (fun _ _ _ h => h) (Or.inl ⟨by rfl, ?_⟩) (by assumption) ?_
      rotate_left
      · intro w9 hSw
        go_simp
        first | done | with_reducible rfl
      simp only [Act.put, List.setIfInBounds_toArray, List.set_cons_zero, List.set_cons_succ]
      refine take' 4 (v := ?_) rfl (by kernel_rfl) (by kernel_rfl) (by kernel_rfl) (fun _ _ _ h => h) (Or.inl ⟨by rfl, ?_⟩) (by assumption) ?_
      rotate_left
      · intro w9 hSw
        go_simp
        first | done | with_reducible rfl
      simp only [Act.put, List.setIfInBounds_toArray, List.set_cons_zero, List.set_cons_succ]
      refine take' 5 (v := ?_) rfl (by kernel_rfl) (by kernel_rfl) (by kernel_rfl) (fun _ _ _ h => h) (Or.inl ⟨by rfl, ?_⟩) (by assumption) ?_
      rotate_left
      · intro w9 hSw
        go_simp
        first | done | with_reducible rfl
      simp only [Act.put, List.setIfInBounds_toArray, List.set_cons_zero, List.set_cons_succ]
      refine wpAnyH_ready (rs := [6]) (by kernel_rfl) (by simp) ?_
      refine cons' rfl (fun KK hKK => ?_)
      go_simp
      refine (GC.out _ (hB.trans (bA.mono hB.size))).mono ?_
      rintro e w2 ⟨p, p', rfl, n1, n2⟩
      have b2 := n1.below
      have sA := bA.size
      replace bA := bA.trans (b2.mono bA.size)
      replace hHeld := (⟨below_cell b2 hHeld.1, below_cell b2 hHeld.2.1, below_cell b2 hHeld.2.2.1, below_cell b2 hHeld.2.2.2⟩ : _ ∧ _ ∧ _ ∧ _)
      go_wp2_with fail
      refine hKK.out _ _ hHeld ?_
      clear hHeld
      intro hHeld
      clear hKK KK
      try simp only [Act.put, List.setIfInBounds_toArray, List.set_cons_zero, List.set_cons_succ]
      refine take' 7 (v := ?_) rfl (by kernel_rfl) (by kernel_rfl) (by kernel_rfl) (fun _ _ _ h => h) (Or.inl ⟨by rfl, ?_⟩) (by assumption) ?_
      rotate_left
      · intro w9 hSw
        go_simp
        first | done | with_reducible rfl
      simp only [Act.put, List.setIfInBounds_toArray, List.set_cons_zero, List.set_cons_succ]
      refine wpAnyH_ready (rs := [8]) (by kernel_rfl) (by simp) ?_
      refine cons' rfl (fun KK hKK => ?_)
      go_simp
      have hnew := heap_alloc_new w2 (.cells #[.int .i64 x, .bool (ng r.num), .slice p (ln (am r.num)) (ln (am r.num)), .slice p' (ln r.den) (ln r.den)] 59)
      have b3 := below_alloc (w := w2) (.cells #[.int .i64 x, .bool (ng r.num), .slice p (ln (am r.num)) (ln (am r.num)), .slice p' (ln r.den) (ln r.den)] 59)
      generalize w2.alloc (.cells #[.int .i64 x, .bool (ng r.num), .slice p (ln (am r.num)) (ln (am r.num)), .slice p' (ln r.den) (ln r.den)] 59) = w3 at hnew b3 ⊢
      replace bA := bA.trans (b3.mono bA.size)
      replace hHeld := (⟨below_cell b3 hHeld.1, below_cell b3 hHeld.2.1, below_cell b3 hHeld.2.2.1, below_cell b3 hHeld.2.2.2⟩ : _ ∧ _ ∧ _ ∧ _)
      refine hKK.out _ _ hHeld ?_
      clear hHeld
      intro hHeld
      clear hKK KK
      try simp only [Act.put, List.setIfInBounds_toArray, List.set_cons_zero, List.set_cons_succ]
      have hO3 := own_below hO bA
      have s2 := b2.size
      have s3 := b3.size
      have s4 := bA.size
      have s5 := hB.size
      have gN : Grw u5 w3 (x, RatV.of r.num r.den p p') := ⟨⟨n1.seg.later b3, Nat.le_refl _, hsz.1, n2.seg.later b3, Nat.le_refl _, hsz.2⟩, ofR_low r p p', fun b e => ⟨fun hn ad e2 h => by have h1 := n1.fr hn ad e2; have h2 := (hrow b e).2; omega, fun hn ad e2 h => by have h1 := n2.fr hn ad e2; have h2 := (hrow b e).2; omega⟩⟩
      have gF := hide' (show (RatV.of r.num r.den p p').frm w.heap.size from ⟨fun hn ad e2 => by have h1 := n1.fr hn ad e2; omega, fun hn ad e2 => by have h1 := n2.fr hn ad e2; omega⟩)
      refine wpAnyH_ready (rs := [9]) (by kernel_rfl) (by simp) ?_
      refine cons' rfl (fun KK hKK => ?_)
      refine step_append_lies _ (by rfl) _ _ _ (by rfl) w.heap.size 59 i0 _ 4 64 Tryz.underlying25 hi0 hz0 hz1 hz2 rfl (by omega) u5 R.length (cellsF R) (by rfl) hO3
        ⟨w2.heap.size, 0, none⟩ 1 1 (cells4 (x, RatV.of r.num r.den p p')) (by rfl) (by rfl) (World.news_of_block (cs := #[.int .i64 x, .bool (ng r.num), .slice p (ln (am r.num)) (ln (am r.num)), .slice p' (ln r.den) (ln r.den)]) (t := 59) (fr := (0, 0)) hnew) (cells4_one _)
        (by omega) (by simp only [maxLen]; omega) (by omega) (by omega) w3.heap.size rfl ?_
      intro gb cap w9 hown4 hgrow hat hlt4
      have far : ∀ {o : Nat} {u : Value}, w3.cell? ⟨wr.heap.size, o, none⟩ = some u → w9.cell? ⟨wr.heap.size, o, none⟩ = some u := fun hu => hgrow.cell hu (fun e => by have := hrow _ e.symm; simp only at this; omega)
      refine hKK.out _ _ ⟨far hHeld.1, far hHeld.2.1, far hHeld.2.2.1, far hHeld.2.2.2⟩ ?_
      clear hHeld
      intro hHeld
      clear hKK KK
      try simp only [Act.put, List.setIfInBounds_toArray, List.set_cons_zero, List.set_cons_succ]
      have hBT := hB.trans (bA.mono hB.size)
      have I1 := hide' (And.intro (own_push hown4) (And.intro (hBT.trans (below_grown hBT.size (fun k hk => (hrow k hk).1) hgrow)) (grw_push (fun q hq => (hR q hq).later bA) gN (j := R.length + 1) (cap := cap) hgrow hat)))
      clear hown4 hgrow hat far gN hO3 hnew n1 n2
      refine take' 10 (v := ?_) rfl (by kernel_rfl) (by kernel_rfl) (by kernel_rfl) (fun _ _ _ h => h) (Or.inl ⟨by rfl, ?_⟩) (by assumption) ?_
      rotate_left
      · intro w9 hSw
        go_simp
        first | done | with_reducible rfl
      simp only [Act.put, List.setIfInBounds_toArray, List.set_cons_zero, List.set_cons_succ]
      refine wpAnyH_done (by kernel_rfl) ?_ _
      go_wp2
      go_roundw
      case rel => exact ⟨k + 1, by omega, by go_num, R ++ [(x, RatV.of r.num r.den p p')], by rw [List.length_append, hRl]; rfl, by have h := I1.out.1; rw [hRl] at h; exact h, I1.out.2.1, by have h := I1.out.2.2; rw [hRl] at h; exact h, by rw [fo_append, hfo, hfo', fmap_snoc, hr]; show _ ++ [(x, (RatV.of r.num r.den p p').val)] = _; rw [val_ofR], fun q hq => by rcases List.mem_append.1 hq with h | h; exact hFr q h; rw [List.mem_singleton.1 h]; exact gF.out⟩
      case measure => simp [intOf]; omega
    · obtain rfl : k = L.length := by omega
      have i1 : ¬ (L.length : Int) < (L.length : Int) := by omega
      go_wp2
      go_ret
      exact ⟨u5, rfl, R, hRl, hO, hB, hR, hfo, hFr⟩

set_option maxHeartbeats 2000000 in
set_option maxRecDepth 100000 in
theorem times_new (C : RatV) (a : Option Addr) (c : Nat) (L : List Mo) (K : Nat) (w : World) (hF : FAt w a L) (hok : ∀ p ∈ L, p.2.ok w) (hc : L.length ≤ c) (hm : L.length ≤ 1048576) (hC : C.ok w) (hK : ∀ p ∈ L, C.n + C.m + p.2.n + p.2.m ≤ K) (hCK : C.n + C.m ≤ K) (hKm : K ≤ 274877906944) :
    Calls Tryz.prog 17 #[.agg #[.bool C.s, .slice C.a C.n C.c, .slice C.b C.m C.e], .slice a L.length c] w (FAnsF w w.heap.size (fmap (fun r => C.val * r) (fo L))) := by
  go_enter Tryz.func17, Tryz.ntmps17
  go_wp2_with fail
  obtain ⟨wA, hwA⟩ : ∃ wA, w.alloc (.cells #[.bool C.s, .slice C.a C.n C.c, .slice C.b C.m C.e] 31) = wA := ⟨_, rfl⟩
  have bA : Below w.heap.size w wA := by subst hwA; exact below_alloc _
  have hl : C.lies wA w.heap.size 0 := by subst hwA; exact ⟨by go_simp, by go_simp, by go_simp⟩
  rw [hwA]
  clear hwA
  refine (turned_timesN w.heap.size (fun r => C.val * r) a c L wA (hF.later bA) (fun p hp => (hok p hp).later bA) hc hm (fun p hp w' hb => times1_is w.heap.size C p.2 w' (hl.later hb) ((hC.later bA).later hb) (((hok p hp).later bA).later hb) (by omega) (by omega) (by have := hK p hp; omega) (by have := hK p hp; omega)) (fun p hp => (mul_sz hC (hok p hp) (hK p hp)).mono (by omega))).mono ?_
  rintro e w1 ⟨vo, rfl, R, hRl, hO, hB, hR, hfo, hFr⟩
  rw [List.take_length] at hfo
  obtain ⟨a1, c1, rfl, hS⟩ := Sl.of hO
  have hfin := hide' (show FAnsF w w.heap.size (fmap (fun r => C.val * r) (fo L)) (.returned (.slice a1 R.length c1)) w1 from ⟨a1, c1, R, rfl, bA.trans (hB.mono bA.size), hS, fun p hp => (hR p hp).ent, hfo, fun p hp => (hFr p hp).mono bA.size⟩)
  clear hO hS hR hfo hFr
  clear hRl
  go_wp2
  go_ret
  exact hfin.out
/-! ### Sums with weights -/
structure Wtd where
  a : Option Addr
  c : Nat
  L : List Mo
  D : RatV
  C : RatV
def flat (k : Nat → Wtd) : Nat → Fo
  | 0 => []
  | n + 1 => flat k n ++ fmap (fun r => (k n).C.val * r) (fo (k n).L)
def cst (k : Nat → Wtd) : Nat → Rat
  | 0 => 0
  | n + 1 => cst k n + (k n).C.val * (k n).D.val
/-- how long they are together -/
def fb (k : Nat → Wtd) : Nat → Nat
  | 0 => 0
  | n + 1 => fb k n + (wt (k n).C.val + 2 * wts (fo (k n).L) + 3)
theorem flat_seg (k : Nat → Wtd) (x : Int) : ∀ (n i j : Nat), ∃ l : Fo, co x (((flat k n).drop i).take j) = co 0 l ∧ wts l ≤ fb k n
  | 0, i, j => ⟨[], by simp [flat, co], Nat.le_refl _⟩
  | n + 1, i, j => by
    simp only [flat, fb]
    rw [List.drop_append, List.take_append, co_append]
    obtain ⟨l, e, hl⟩ := flat_seg k x n i j
    obtain ⟨i', hi'⟩ : ∃ i', i - (flat k n).length = i' := ⟨_, rfl⟩
    obtain ⟨j', hj'⟩ : ∃ j', j - ((flat k n).drop i).length = j' := ⟨_, rfl⟩
    rw [hi', hj']
    have e2 : ((fmap (fun r => (k n).C.val * r) (fo (k n).L)).drop i').take j' = fmap (fun r => (k n).C.val * r) (((fo (k n).L).drop i').take j') := by
      unfold fmap
      rw [List.map_take, List.map_drop]
    rw [e2, co_scale]
    refine ⟨l ++ [(0, (k n).C.val * co x (((fo (k n).L).drop i').take j'))], ?_, ?_⟩
    · rw [co_append, e]
      simp only [co, if_true]
      rw [Rat.add_zero]
    · rw [wts_append]
      simp only [wts]
      have h1 := wt_mul' (k n).C.val (co x (((fo (k n).L).drop i').take j'))
      have h2 := co_sz x (((fo (k n).L).drop i').take j')
      have h3 := co_part (fo (k n).L) i' j'
      have h4 := h2.1
      have h5 := h2.2
      have h6 : wt (co x (((fo (k n).L).drop i').take j')) ≤ 2 * wts (fo (k n).L) + 3 := by
        show ln _ + ln _ + 1 ≤ _
        omega
      omega
theorem flat_fine (k : Nat → Wtd) (n : Nat) (h : fb k n + 1 ≤ 1099511627776) : fine (flat k n) := fun i j x => by
  obtain ⟨l, e, hl⟩ := flat_seg k x n i j
  rw [e]
  exact (co_sz 0 l).mono (by omega)
end Go.Proofs.YtkflbhkcofmaoaaGreat

namespace Go.Proofs.YtkflbhkcofmaoaaGreat
open Go.RowKit
set_option linter.unusedVariables false
set_option linter.unusedSimpArgs false

/-- how long the constants are together -/
def cb (k : Nat → Wtd) : Nat → Nat
  | 0 => 0
  | n + 1 => cb k n + (2 * ((k n).C.n + (k n).C.m + (k n).D.n + (k n).D.m) + 5)
/-- the parts so far, T, and j constants, in two rows -/
def CInR (w : World) (k : Nat → Wtd) (T : Fo) (j : Nat) (vo vc : Value) (wr : World) (R : List Mo) (q : Nat → RatV) : Prop :=
  wr.ownsRow w.heap.size 59 4 vo R.length (cellsF R) ∧ wr.ownsRow w.heap.size 31 3 vc j (cellsV q j) ∧ Below w.heap.size w wr ∧ (∀ b, vo.ownBlock = some b → vc.ownBlock ≠ some b) ∧
    (∀ p ∈ R, p.2.ok wr ∧ p.2.low ∧ (∀ b, vo.ownBlock = some b → p.2.off b) ∧ ∀ b, vc.ownBlock = some b → p.2.off b) ∧ (∀ i, i < j → (q i).ok wr ∧ (q i).low ∧ (∀ b, vo.ownBlock = some b → (q i).off b) ∧ ∀ b, vc.ownBlock = some b → (q i).off b) ∧
    fo R = T ∧ rs q j = cst k j ∧ bulkV q j ≤ cb k j
def CIn (w : World) (k : Nat → Wtd) (T : Fo) (j : Nat) (vo vc : Value) (wr : World) : Prop := ∃ (R : List Mo) (q : Nat → RatV), CInR w k T j vo vc wr R q
theorem CIn.nil (w : World) (k : Nat → Wtd) : CIn w k (flat k 0) 0 (.slice none 0 0) (.slice none 0 0) w :=
  ⟨[], fun _ => default, World.ownsRow_nil _ _ _ _, World.ownsRow_nil _ _ _ _, Below.refl _ _, fun b h => by simp [Value.ownBlock] at h, fun p hp => by simp at hp, fun i hi => absurd hi (by omega), rfl, rfl, Nat.le_refl _⟩
theorem CIn.below {w : World} {k : Nat → Wtd} {T : Fo} {j : Nat} {vo vc : Value} {wr : World} (h : CIn w k T j vo vc wr) : Below w.heap.size w wr := by
  obtain ⟨R, q, _, _, hB, _⟩ := h
  exact hB
theorem CIn.later {w : World} {k : Nat → Wtd} {T : Fo} {j : Nat} {vo vc : Value} {wr w' : World} (h : CIn w k T j vo vc wr) (hb : Below wr.heap.size wr w') : CIn w k T j vo vc w' := by
  obtain ⟨R, q, hO, hC, hB, hne, hR, hq, h1, h2, h3⟩ := h
  exact ⟨R, q, own_below hO hb, own_below hC hb, hB.trans (hb.mono hB.size), hne, fun p hp => ⟨(hR p hp).1.later hb, (hR p hp).2⟩, fun i hi => ⟨(hq i hi).1.later hb, (hq i hi).2⟩, h1, h2, h3⟩
/-- parts are appended -/
theorem CInR.form {w : World} {k : Nat → Wtd} {T : Fo} {j : Nat} {vo vc : Value} {wr w2 w3 : World} {R1 : List Mo} {v' : Value} {R : List Mo} {q : Nat → RatV} (h : CInR w k T j vo vc wr R q) (b2 : Below wr.heap.size wr w2) (hE : ∀ p ∈ R1, Ent w2 p) (hF : ∀ p ∈ R1, p.2.frm wr.heap.size)
    (hown : w3.ownsRow w.heap.size 59 4 v' (R ++ R1).length (cellsF (R ++ R1))) (hg : w2.grownBy w3 vo.ownBlock) (hat : v'.ownBlock = vo.ownBlock ∨ v'.ownBlock = some w2.heap.size) : CInR w k (T ++ fo R1) j v' vc w3 (R ++ R1) q := by
  obtain ⟨hO, hC, hB, hne, hR, hq, h1, h2, h3⟩ := h
  have hB2 := hB.trans (b2.mono hB.size)
  have s2 := b2.size
  have off' : ∀ x : RatV, x.ok w2 → (∀ b, vo.ownBlock = some b → x.off b) → ∀ b, v'.ownBlock = some b → x.off b := fun x hx ho b hb => by
    rcases hat with e | e
    · exact ho b (by rw [← e]; exact hb)
    · rw [e] at hb
      obtain rfl := Option.some.inj hb
      exact hx.off (Nat.le_refl _)
  refine ⟨hown, ?_, hB2.trans (below_grown hB2.size (fun g hg9 => (hO.lt g hg9).1) hg), ?_, ?_, ?_, by rw [fo_append, h1], h2, h3⟩
  · refine World.ownsRow.kept (own_below hC b2) hg ?_
    cases hu : vc.ownBlock with
    | none => exact Or.inl rfl
    | some bb => exact Or.inr fun e => hne bb e.symm hu
  · intro b hb hv
    rcases hat with e | e
    · exact hne b (by rw [← e]; exact hb) hv
    · rw [e] at hb
      have := (hC.lt b hv).2
      have : w2.heap.size = b := Option.some.inj hb
      omega
  · intro p hp
    rcases List.mem_append.1 hp with h | h
    · obtain ⟨a1, a2, a3, a4⟩ := hR p h
      exact ⟨(a1.later b2).grown hg a3, a2, off' _ (a1.later b2) a3, a4⟩
    · have hf := hF p h
      have ho : ∀ b, vo.ownBlock = some b → p.2.off b := fun b hb => hf.off (hO.lt b hb).2
      exact ⟨(hE p h).ok.grown hg ho, (hE p h).low, off' _ (hE p h).ok ho, fun b hb => hf.off (hC.lt b hb).2⟩
  · intro i hi
    obtain ⟨a1, a2, a3, a4⟩ := hq i hi
    exact ⟨(a1.later b2).grown hg a3, a2, off' _ (a1.later b2) a3, a4⟩
/-- a constant is appended -/
theorem CInR.const {w : World} {k : Nat → Wtd} {T : Fo} {j : Nat} {vo vc : Value} {wr w2 w3 : World} {gb cap : Nat} {r : RatV} {R : List Mo} {q : Nat → RatV} (h : CInR w k T j vo vc wr R q) (b2 : Below wr.heap.size wr w2) (hr : r.ok w2) (hl : r.low) (hf : r.frm wr.heap.size) (hv : r.val = (k j).C.val * (k j).D.val) (hn : r.n + r.m + 1 ≤ 2 * ((k j).C.n + (k j).C.m + (k j).D.n + (k j).D.m) + 5)
    (hown : w3.ownsRow w.heap.size 31 3 (.slice (some ⟨gb, 0, none⟩) (j + 1) cap) (j + 1) (cellsV q j ++ [.bool r.s, .slice r.a r.n r.c, .slice r.b r.m r.e])) (hg : w2.grownBy w3 vc.ownBlock) (hat : vc.ownBlock = some gb ∨ gb = w2.heap.size) : CIn w k T (j + 1) vo (.slice (some ⟨gb, 0, none⟩) (j + 1) cap) w3 := by
  obtain ⟨hO, hC, hB, hne, hR, hq, h1, h2, h3⟩ := h
  have hB2 := hB.trans (b2.mono hB.size)
  have s2 := b2.size
  have off' : ∀ x : RatV, x.ok w2 → (∀ b, vc.ownBlock = some b → x.off b) → ∀ b, (Value.slice (some ⟨gb, 0, none⟩) (j + 1) cap).ownBlock = some b → x.off b := fun x hx ho b hb => by
    have : gb = b := by simpa [Value.ownBlock] using hb
    subst this
    rcases hat with e | e
    · exact ho gb e
    · exact hx.off (by omega)
  obtain ⟨q', hq'⟩ : ∃ q' : Nat → RatV, q' = fun i => if i < j then q i else r := ⟨_, rfl⟩
  have e1 : ∀ i, i < j → q' i = q i := fun i hi => by rw [hq']; exact if_pos hi
  have e2 : q' j = r := by rw [hq']; exact if_neg (by omega)
  refine ⟨R, q', ?_, ?_, hB2.trans (below_grown hB2.size (fun g hg9 => (hC.lt g hg9).1) hg), ?_, ?_, ?_, h1, ?_, ?_⟩
  · refine World.ownsRow.kept (own_below hO b2) hg ?_
    cases hu : vo.ownBlock with
    | none => exact Or.inl rfl
    | some bb => exact Or.inr fun e => hne bb hu e.symm
  · simp only [cellsV]
    rw [cellsV_congr j e1, e2]
    exact hown
  · intro b hb hv
    have : gb = b := by simpa [Value.ownBlock] using hv
    subst this
    rcases hat with e | e
    · exact hne gb hb e
    · have := (hO.lt gb hb).2; omega
  · intro p hp
    obtain ⟨a1, a2, a3, a4⟩ := hR p hp
    exact ⟨(a1.later b2).grown hg a4, a2, a3, off' _ (a1.later b2) a4⟩
  · intro i hi
    rcases Nat.lt_or_ge i j with h5 | h5
    · rw [e1 i h5]
      obtain ⟨a1, a2, a3, a4⟩ := hq i h5
      exact ⟨(a1.later b2).grown hg a4, a2, a3, off' _ (a1.later b2) a4⟩
    · obtain rfl : i = j := by omega
      rw [e2]
      have ho : ∀ b, vc.ownBlock = some b → r.off b := fun b hb => hf.off (hC.lt b hb).2
      exact ⟨hr.grown hg ho, hl, fun b hb => hf.off (hO.lt b hb).2, off' _ hr ho⟩
  · simp only [rs, cst]
    rw [rs_congr j e1, e2, h2, hv]
  · simp only [bulkV, cb]
    rw [bulkV_congr j e1, e2]
    omega
/-- behind the loop -/
theorem CIn.open {w : World} {k : Nat → Wtd} {T : Fo} {j : Nat} {vo vc : Value} {wr : World} (h : CIn w k T j vo vc wr) : ∃ a c R a2 c2 q, vo = .slice a (R : List Mo).length c ∧ vc = .slice a2 j c2 ∧ Sl wr a c R ∧ (∀ p ∈ R, Ent wr p) ∧ fo R = T ∧ RatsAt wr a2 j q ∧ j ≤ c2 ∧ c2 ≤ 9223372036854775807 ∧ (∀ i, i < j → (q i).ok wr ∧ (q i).low) ∧ rs q j = cst k j ∧ bulkV q j ≤ cb k j := by
  obtain ⟨R, q, hO, hC, hB, hne, hR, hq, h1, h2, h3⟩ := h
  obtain ⟨a, c, e, hs⟩ := Sl.of hO
  obtain ⟨a2, c2, e2, l1, l2, hr⟩ := own_rats hC
  exact ⟨a, c, R, a2, c2, q, e, e2, hs, fun p hp => ⟨(hR p hp).1, (hR p hp).2.1⟩, h1, hr, l1, by simpa [maxLen] using l2, fun i hi => ⟨(hq i hi).1, (hq i hi).2.1⟩, h2, h3⟩
end Go.Proofs.YtkflbhkcofmaoaaGreat

namespace Go.Proofs.YtkflbhkcofmaoaaGreat
open Go.RowKit
set_option linter.unusedVariables false
set_option linter.unusedSimpArgs false
/-- the seven cells of a form with a weight -/
def Wtd.lies (W : Wtd) (w : World) (b off : Nat) : Prop :=
  w.cell? ⟨b, off + 0, none⟩ = some (.slice W.a W.L.length W.c) ∧ w.cell? ⟨b, off + 1, none⟩ = some (.bool W.D.s) ∧ w.cell? ⟨b, off + 2, none⟩ = some (.slice W.D.a W.D.n W.D.c) ∧ w.cell? ⟨b, off + 3, none⟩ = some (.slice W.D.b W.D.m W.D.e) ∧ w.cell? ⟨b, off + 4, none⟩ = some (.bool W.C.s) ∧ w.cell? ⟨b, off + 5, none⟩ = some (.slice W.C.a W.C.n W.C.c) ∧ w.cell? ⟨b, off + 6, none⟩ = some (.slice W.C.b W.C.m W.C.e)
theorem Wtd.lies.later {W : Wtd} {w w' : World} {b off : Nat} (h : W.lies w b off) (hb : Below w.heap.size w w') : W.lies w' b off := by
  obtain ⟨h0, h1, h2, h3, h4, h5, h6⟩ := h
  exact ⟨below_cell hb h0, below_cell hb h1, below_cell hb h2, below_cell hb h3, below_cell hb h4, below_cell hb h5, below_cell hb h6⟩
def WtsAt (w : World) (a : Option Addr) (n : Nat) (k : Nat → Wtd) : Prop := 0 < n → ∃ b off, a = some ⟨b, off, none⟩ ∧ b < w.heap.size ∧ ∀ i, i < n → (k i).lies w b (off + i * 7)
theorem WtsAt.later {w w' : World} {a : Option Addr} {n : Nat} {k : Nat → Wtd} (h : WtsAt w a n k) (hb : Below w.heap.size w w') : WtsAt w' a n k := fun hn => by
  obtain ⟨b, off, e, hl, hc⟩ := h hn
  exact ⟨b, off, e, Nat.lt_of_lt_of_le hl hb.size, fun i hi => (hc i hi).later hb⟩
/-- what it needs -/
structure Wtd.ok (w : World) (W : Wtd) : Prop where
  form : FAt w W.a W.L
  parts : ∀ p ∈ W.L, p.2.ok w
  len : W.L.length ≤ W.c
  con : W.D.ok w
  coef : W.C.ok w
theorem Wtd.ok.later {w w' : World} {W : Wtd} (h : W.ok w) (hb : Below w.heap.size w w') : W.ok w' := ⟨h.form.later hb, fun p hp => (h.parts p hp).later hb, h.len, h.con.later hb, h.coef.later hb⟩
def Wtd.bulk (W : Wtd) : Nat := bulkL W.L + W.D.n + W.D.m + W.C.n + W.C.m + 1
def bulkW (k : Nat → Wtd) : Nat → Nat
  | 0 => 0
  | n + 1 => bulkW k n + (k n).bulk
theorem bulkW_at {k : Nat → Wtd} : ∀ (n i : Nat), i < n → (k i).bulk ≤ bulkW k n
  | 0, i, h => absurd h (by omega)
  | n + 1, i, h => by
    simp only [bulkW]
    rcases Nat.lt_or_ge i n with h1 | h1
    · have := bulkW_at (k := k) n i h1; omega
    · obtain rfl : i = n := by omega
      omega
theorem bulkW_n {k : Nat → Wtd} : ∀ (n : Nat), n ≤ bulkW k n
  | 0 => Nat.zero_le _
  | n + 1 => by have := bulkW_n (k := k) n; simp only [bulkW, Wtd.bulk]; omega
theorem bulkW_mono {k : Nat → Wtd} {i n : Nat} (h : i ≤ n) : bulkW k i ≤ bulkW k n := by
  induction n with
  | zero => obtain rfl : i = 0 := by omega
            exact Nat.le_refl _
  | succ n ih =>
    rcases Nat.lt_or_ge i (n + 1) with h1 | h1
    · have := ih (by omega); simp only [bulkW]; omega
    · obtain rfl : i = n + 1 := by omega
      exact Nat.le_refl _
theorem bulkL_len : ∀ (L : List Mo), 2 * L.length ≤ bulkL L
  | [] => Nat.zero_le _
  | p :: L => by have := bulkL_len L; simp only [bulkL, List.length_cons]; omega
theorem flat_len {k : Nat → Wtd} : ∀ n, 2 * (flat k n).length ≤ bulkW k n
  | 0 => Nat.le_refl _
  | n + 1 => by
    have h1 := flat_len (k := k) n
    have h2 := bulkL_len (k n).L
    simp only [flat, bulkW, Wtd.bulk, List.length_append]
    rw [fmap_length, fo_length]
    omega
theorem fb_le {w : World} {k : Nat → Wtd} : ∀ n, (∀ i, i < n → (k i).ok w) → fb k n ≤ 5 * bulkW k n
  | 0, _ => Nat.le_refl _
  | n + 1, h => by
    have h1 := fb_le n fun i hi => h i (by omega)
    have h2 := wts_bulk (k n).L (h n (by omega)).parts
    obtain ⟨h3, h4⟩ := norm_sz (h n (by omega)).coef
    simp only [fb, bulkW, Wtd.bulk, wt]
    omega
theorem cb_le {k : Nat → Wtd} : ∀ n, cb k n ≤ 5 * bulkW k n
  | 0 => Nat.le_refl _
  | n + 1 => by
    have h1 := cb_le (k := k) n
    simp only [cb, bulkW, Wtd.bulk]
    omega
set_option maxHeartbeats 8000000 in
set_option maxRecDepth 100000 in
theorem lCombine_is (a : Option Addr) (n cap : Nat) (k : Nat → Wtd) (w : World) (hA : WtsAt w a n k) (hok : ∀ i, i < n → (k i).ok w) (hc : n ≤ cap) (hb : bulkW k n ≤ 2097152) :
    Calls Tryz.prog 6 #[.slice a n cap] w (AfAns w (nfm (flat k n)) (cst k n)) := by
  obtain ⟨i0, hi0, hz0, hz1, hz2⟩ := info_parts info_Rat
  have hn := bulkW_n (k := k) n
  have HB := hide' (fun i (hi : i < n) => bulkW_at (k := k) n i hi)
  have GT := hide' (fun i (hi : i < n) w' (hb9 : Below w.heap.size w w') => times_new (k i).C (k i).a (k i).c (k i).L 100000000 w' ((hok i hi).later hb9).form ((hok i hi).later hb9).parts (hok i hi).len (by have h := HB.out i hi; have h2 := bulkL_len (k i).L; unfold Wtd.bulk at h; omega) ((hok i hi).later hb9).coef (fun p hp => by have h := HB.out i hi; have h2 := bulkL_at (k i).L p hp; unfold Wtd.bulk at h; omega) (by have h := HB.out i hi; unfold Wtd.bulk at h; omega) (by omega))
  have GM := hide' (fun i (hi : i < n) w' (hb9 : Below w.heap.size w w') => qMul_is (k i).C.s (k i).C.a (k i).C.n (k i).C.c (k i).C.X (k i).C.b (k i).C.m (k i).C.e (k i).C.Y (k i).D.s (k i).D.a (k i).D.n (k i).D.c (k i).D.X (k i).D.b (k i).D.m (k i).D.e (k i).D.Y _ _ w' (hok i hi).coef.2.1 (by have h := HB.out i hi; unfold Wtd.bulk at h; omega) ((hok i hi).coef.later hb9).1 (hok i hi).coef.2.2.2.2.1 (by have h := HB.out i hi; unfold Wtd.bulk at h; omega) ((hok i hi).coef.later hb9).2.2.2.1 (hok i hi).con.2.1 (by have h := HB.out i hi; unfold Wtd.bulk at h; omega) ((hok i hi).con.later hb9).1 (hok i hi).con.2.2.2.2.1 (by have h := HB.out i hi; unfold Wtd.bulk at h; omega) ((hok i hi).con.later hb9).2.2.2.1 (low_mul (k i).C (k i).D))
  have GZ := hide' (fun i (hi : i < n) => show ln (am ((k i).C.val * (k i).D.val).num) + ln ((k i).C.val * (k i).D.val).den + 1 ≤ 2 * ((k i).C.n + (k i).C.m + (k i).D.n + (k i).D.m) + 5 from Nat.le_trans (mul_wt (hok i hi).coef (hok i hi).con) (by omega))
  have GL := hide' (fun j (hj : j ≤ n) => show 2 * (flat k j).length ≤ 2097152 from Nat.le_trans (flat_len j) (Nat.le_trans (bulkW_mono hj) hb))
  have HC := hide' (fun i (hi : i < n) => (hok i hi).len)
  have FI := hide' (flat_fine k n (by have := fb_le (w := w) n hok; omega))
  have CBn := hide' (show cb k n + 1 ≤ 1099511627776 by have := cb_le (k := k) n; omega)
  have G2' := fun w' => qWhole_is 0 w' (by omega) (by omega)
  rw [show ng 0 = false from rfl, show ln (am 0) = 0 from ln_zero, ln_one] at G2'
  have G2 := hide' G2'
  clear G2'
  have HA := hide' hA
  obtain ⟨TT, hTT⟩ : ∃ TT, AfAns w (nfm (flat k n)) (cst k n) = TT := ⟨_, rfl⟩
  rw [hTT]
  replace hTT := hide' hTT
  clear hA hok
  go_enter Tryz.func6, Tryz.ntmps6
  go_wp2_with fail
  obtain ⟨wA, hwA⟩ : ∃ wA, w.alloc (.cells #[.slice none 0 0, .bool false, .slice none 0 0, .slice none 0 0] 33) = wA := ⟨_, rfl⟩
  have bA : Below w.heap.size w wA := by subst hwA; exact below_alloc _
  have rA : Four wA w.heap.size (.slice none 0 0) (.bool false) (.slice none 0 0) (.slice none 0 0) := by subst hwA; exact four_new w _ _ _ _ 33
  have lA : w.heap.size < wA.heap.size := rA.2.lt
  rw [hwA]
  clear hwA
  go_loopw [3, 4, 9] (fun vo vc vi wr => ∃ j : Nat, j ≤ n ∧ vi = .int .i64 j ∧ CIn wA k (flat k j) j vo vc wr) (fun _ _ vi _ => n - (intOf vi).toNat)
  case atStart => exact ⟨0, Nat.zero_le _, rfl, CIn.nil _ _⟩
  case round =>
    obtain ⟨j, hj, rfl, hI⟩ := hrel
    have hBI := hI.below
    by_cases hlt : j < n
    · obtain ⟨bb, off, rfl, hbb, hcell⟩ := HA.out (by omega)
      have hBw := bA.trans (hBI.mono bA.size)
      have hcj := (hcell j hlt).later hBw
      have T1 := hide' (fun w' hb9 => GT.out j hlt w' hb9)
      have M1 := hide' (fun w' hb9 => GM.out j hlt w' hb9)
      have Z1 := GZ.out j hlt
      have L1 := GL.out (j + 1) (by omega)
      have L0 := GL.out j hj
      have HCj := HC.out j hlt
      have HBj := HB.out j hlt
      have hfl : flat k (j + 1) = flat k j ++ fmap (fun r => (k j).C.val * r) (fo (k j).L) := rfl
      obtain ⟨W, hW⟩ : ∃ W, k j = W := ⟨_, rfl⟩
      rw [hW] at hcj T1 M1 Z1 hfl HCj HBj
      obtain ⟨d0, d1, d2, d3, d4, d5, d6⟩ := hcj
      rw [Nat.add_zero] at d0
      have j0 : (0 : Int) ≤ (j : Int) := by omega
      have j1 : (j : Int) < (n : Int) := by omega
      replace hfl := hide' hfl
      replace L1 := hide' L1
      replace L0 := hide' L0
      replace Z1 := hide' Z1
      obtain ⟨R, q, hI⟩ := hI
      replace hI := hide' hI
      replace hW := hide' hW
      clear hcell GT GM GZ GL HC HB HA
      obtain ⟨wM, hwM⟩ : ∃ wM, wr.alloc (.cells #[.slice W.a W.L.length W.c, .bool W.D.s, .slice W.D.a W.D.n W.D.c, .slice W.D.b W.D.m W.D.e, .bool W.C.s, .slice W.C.a W.C.n W.C.c, .slice W.C.b W.C.m W.C.e] 49) = wM := ⟨_, rfl⟩
      have bM : Below wr.heap.size wr wM := by subst hwM; exact below_alloc _
      have m0 : wM.cell? ⟨wr.heap.size, 0, none⟩ = some (.slice W.a W.L.length W.c) := by subst hwM; go_simp
      have m1 : wM.cell? ⟨wr.heap.size, 1, none⟩ = some (.bool W.D.s) := by subst hwM; go_simp
      have m2 : wM.cell? ⟨wr.heap.size, 2, none⟩ = some (.slice W.D.a W.D.n W.D.c) := by subst hwM; go_simp
      have m3 : wM.cell? ⟨wr.heap.size, 3, none⟩ = some (.slice W.D.b W.D.m W.D.e) := by subst hwM; go_simp
      have m4 : wM.cell? ⟨wr.heap.size, 4, none⟩ = some (.bool W.C.s) := by subst hwM; go_simp
      have m5 : wM.cell? ⟨wr.heap.size, 5, none⟩ = some (.slice W.C.a W.C.n W.C.c) := by subst hwM; go_simp
      have m6 : wM.cell? ⟨wr.heap.size, 6, none⟩ = some (.slice W.C.b W.C.m W.C.e) := by subst hwM; go_simp
      go_wp2_with fail
      clear hwM d0 d1 d2 d3 d4 d5 d6
      refine (T1.out _ (hBw.trans (bM.mono hBw.size))).mono ?_
      rintro e w2 ⟨a1, c1, R1, rfl, b2, s1, E1, f1, fr1⟩
      have bT : Below wr.heap.size wr w2 := bM.trans (b2.mono bM.size)
      replace m1 := below_cell b2 m1
      replace m2 := below_cell b2 m2
      replace m3 := below_cell b2 m3
      replace m4 := below_cell b2 m4
      replace m5 := below_cell b2 m5
      replace m6 := below_cell b2 m6
      have hO := hI.out.1
      have hO2 := own_below hO bT
      have hs2 : wA.heap.size ≤ w2.heap.size := Nat.le_trans hBI.size bT.size
      have hlen : R.length + R1.length ≤ 4194304 := by
        have h := L1.out
        rw [hfl.out, List.length_append, fmap_length, fo_length] at h
        have h1 := congrArg List.length f1
        rw [fo_length, fmap_length, fo_length] at h1
        have h2 : R.length = (flat k j).length := by rw [← hI.out.2.2.2.2.2.2.1, fo_length]
        omega
      go_wp2_with (at_builtin; refine wpList_append_form (by rfl) _ _ _ (by rfl) wA.heap.size u3 R R1 a1 c1 Tryz.underlying25 (by rfl) (by rfl) hO2 s1 hlen hs2 ?_)
      intro v' w3 hown hgrow hat
      have I1 := hide' (show CInR wA k (flat k (j + 1)) j v' u4 w3 (R ++ R1) q by
        have h := hI.out.form bT E1 (fun p hp => (fr1 p hp).mono bM.size) (by rw [List.length_append]; exact hown) hgrow hat
        rw [f1] at h; rw [hfl.out]; exact h)
      replace m1 := hgrow.cell m1 (fun e => by have := (hO.lt wr.heap.size e.symm).2; omega)
      replace m2 := hgrow.cell m2 (fun e => by have := (hO.lt wr.heap.size e.symm).2; omega)
      replace m3 := hgrow.cell m3 (fun e => by have := (hO.lt wr.heap.size e.symm).2; omega)
      replace m4 := hgrow.cell m4 (fun e => by have := (hO.lt wr.heap.size e.symm).2; omega)
      replace m5 := hgrow.cell m5 (fun e => by have := (hO.lt wr.heap.size e.symm).2; omega)
      replace m6 := hgrow.cell m6 (fun e => by have := (hO.lt wr.heap.size e.symm).2; omega)
      clear hown hgrow hat hO hO2 s1 E1 fr1 f1 hI bT b2 bM hlen hs2
      have hB3 := I1.out.2.2.1
      have hBw3 : Below w.heap.size w w3 := bA.trans (hB3.mono bA.size)
      obtain ⟨r, hr⟩ : ∃ r, W.C.val * W.D.val = r := ⟨_, rfl⟩
      rw [hr] at M1 Z1
      replace hr := hide' hr
      go_wp2_with fail
      refine (M1.out _ hBw3).mono ?_
      rintro e w4 ⟨p, p', rfl, n1, n2⟩
      have b4 := n1.below
      obtain ⟨w5, hw5⟩ : ∃ w5, w4.alloc (.cells #[.bool (ng r.num), .slice p (ln (am r.num)) (ln (am r.num)), .slice p' (ln r.den) (ln r.den)] 31) = w5 := ⟨_, rfl⟩
      have hnew := heap_alloc_new w4 (.cells #[.bool (ng r.num), .slice p (ln (am r.num)) (ln (am r.num)), .slice p' (ln r.den) (ln r.den)] 31)
      have b5 := below_alloc (w := w4) (.cells #[.bool (ng r.num), .slice p (ln (am r.num)) (ln (am r.num)), .slice p' (ln r.den) (ln r.den)] 31)
      rw [hw5] at hnew b5
      have bT : Below w3.heap.size w3 w5 := b4.trans (b5.mono b4.size)
      have hO3 := own_below I1.out.2.1 bT
      have s4 := b4.size
      have s5 := b5.size
      have s3 := hB3.size
      have hbs : wA.heap.size ≤ w5.heap.size := by omega
      have hbl : (j + 1) * 56 ≤ 140737488355328 := by omega
      have hj1 : j + 1 ≤ maxLen := by simp only [maxLen]; omega
      have zr := Z1.out
      have hbu : 2 * (W.C.n + W.C.m + W.D.n + W.D.m) ≤ 4194304 := by have h := HBj; unfold Wtd.bulk at h; omega
      have gok : (RatV.of r.num r.den p p').ok w5 := ⟨n1.seg.later b5, Nat.le_refl _, by show ln (am r.num) ≤ _; omega, n2.seg.later b5, Nat.le_refl _, by show ln r.den ≤ _; omega⟩
      have gfr : (RatV.of r.num r.den p p').frm w3.heap.size := ⟨fun hn ad e => n1.fr hn ad e, fun hn ad e => n2.fr hn ad e⟩
      have gv : (RatV.of r.num r.den p p').val = (k j).C.val * (k j).D.val := by rw [hW.out, val_ofR, hr.out]
      have gn : (RatV.of r.num r.den p p').n + (RatV.of r.num r.den p p').m + 1 ≤ 2 * ((k j).C.n + (k j).C.m + (k j).D.n + (k j).D.m) + 5 := by rw [hW.out]; exact zr
      go_wp2_with (at_builtin; (try rw [hw5]); refine wpList_append_lies _ (by rfl) _ _ _ (by rfl) wA.heap.size 31 i0 _ 3 56 Tryz.underlying36 hi0 hz0 hz1 hz2 rfl (by omega) u4 j (cellsV q j) (by rfl) hO3 ⟨w4.heap.size, 0, none⟩ 1 1 [.bool (ng r.num), .slice p (ln (am r.num)) (ln (am r.num)), .slice p' (ln r.den) (ln r.den)] (by rfl) (by rfl) (World.news_of_block (cs := #[.bool (ng r.num), .slice p (ln (am r.num)) (ln (am r.num)), .slice p' (ln r.den) (ln r.den)]) (t := 31) (fr := (0, 0)) hnew) (by simp [Value.oneCell']) (by omega) hj1 hbl hbs w5.heap.size rfl ?_)
      intro gb cap9 w9 hown4 hgrow hat hlt4
      have I2 := hide' (I1.out.const bT gok (ofR_low r p p') gfr gv gn hown4 hgrow hat)
      clear hown4 hgrow hat hlt4 gok gfr gv gn hO3 hnew b4 b5 bT n1 n2 I1 hB3 hBw3 zr hbu hbs hbl hj1 s3 s4 s5 m1 m2 m3 m4 m5 m6 M1 T1
      go_wp2
      go_roundw
      case rel => exact ⟨j + 1, by omega, by go_num, I2.out⟩
      case measure => simp [intOf]; omega
    · obtain rfl : j = n := by omega
      have i1 : ¬ (j : Int) < (j : Int) := by omega
      obtain ⟨ao, co9, R, a2, c2, q, rfl, rfl, hS, hE, hfo, hRA, hjc, hcm, hq, hrs, hbk⟩ := hI.open
      have hRl : R.length ≤ 1048576 := by have h := GL.out j hj; rw [← hfo, fo_length] at h; omega
      have G1 := collectF_is R.length R ao co9 wr (Nat.le_refl _) hS hE hRl (by rw [hfo]; exact FI.out)
      rw [hfo] at G1
      replace G1 := hide' G1
      have GH := hide' (fun w' (hb9 : Below wr.heap.size wr w') p p' (h1 : Seg w' p' 1 1) => byHalves_is j j a2 c2 q p p' (rs q j).num (rs q j).den w' (Nat.le_refl _) hjc hcm (hRA.later hb9) (fun i hi => (hq i hi).1.later hb9) (fun i hi => (hq i hi).2) (by have := CBn.out; omega) h1 (rs_low q j))
      rw [hrs] at GH
      obtain ⟨s, hs⟩ : ∃ s, cst k j = s := ⟨_, rfl⟩
      rw [hs] at GH
      have rB := rA.later hBI
      have hB := bA.trans (hBI.mono bA.size)
      clear hI hS hE hfo hRA hq hrs hbk GT GM GZ GL HC HB HA FI CBn hRl rA bA hBI
      go_wp2_with fail
      refine G1.out.mono ?_
      rintro e w2 ⟨a3, c3, R3, rfl, b2, s3, E3, f3⟩
      go_wp2_with fail
      refine (G2.out _).mono ?_
      rintro e w3 ⟨p, p', rfl, n1, n2⟩
      have b3 := n1.below
      go_wp2_with fail
      refine (GH.out _ (b2.trans (b3.mono b2.size)) p p' n2.seg).mono ?_
      rintro e w4 ⟨x3, y3, rfl, b4, g1, g2⟩
      have b34 := b3.trans (b4.mono b3.size)
      replace s3 := s3.later b34
      have E4 : Ents w4 R3 := fun p hp => (E3 p hp).later b34
      have b24 := b2.trans (b34.mono b2.size)
      replace rB := rB.later b24
      replace hB := hB.trans (b24.mono hB.size)
      clear b2 b3 b4 b34 b24 n1 n2 G1 G2 GH E3
      have fz := fun o => rB.2.frozen o
      have z0 := rB.1.1
      have z1 := rB.1.2.1
      have z2 := rB.1.2.2.1
      have z3 := rB.1.2.2.2
      replace g1 := rB.seg (u0 := .slice a3 R3.length c3) (u1 := .bool (ng s.num)) (u2 := .slice x3 (ln (am s.num)) (ln (am s.num))) (u3 := .slice y3 (ln s.den) (ln s.den)) (by simp) (by simp) (by simp) (by simp) g1
      replace g2 := rB.seg (u0 := .slice a3 R3.length c3) (u1 := .bool (ng s.num)) (u2 := .slice x3 (ln (am s.num)) (ln (am s.num))) (u3 := .slice y3 (ln s.den) (ln s.den)) (by simp) (by simp) (by simp) (by simp) g2
      have s7 : Sl _ a3 c3 R3 := ⟨rB.fat (u0 := .slice a3 R3.length c3) (u1 := .bool (ng s.num)) (u2 := .slice x3 (ln (am s.num)) (ln (am s.num))) (u3 := .slice y3 (ln s.den) (ln s.den)) (by simp) (by simp) (by simp) (by simp) s3.lies, s3.len, s3.nn⟩
      have E7 : Ents _ R3 := fun p hp => rB.ok (u0 := .slice a3 R3.length c3) (u1 := .bool (ng s.num)) (u2 := .slice x3 (ln (am s.num)) (ln (am s.num))) (u3 := .slice y3 (ln s.den) (ln s.den)) (by simp) (by simp) (by simp) (by simp) (E4 p hp)
      replace hB := below_set4 (u0 := .slice a3 R3.length c3) (u1 := .bool (ng s.num)) (u2 := .slice x3 (ln (am s.num)) (ln (am s.num))) (u3 := .slice y3 (ln s.den) (ln s.den)) hB (Nat.le_refl _)
      have rD := rB.put (u0 := .slice a3 R3.length c3) (u1 := .bool (ng s.num)) (u2 := .slice x3 (ln (am s.num)) (ln (am s.num))) (u3 := .slice y3 (ln s.den) (ln s.den))
      clear rB s3 E4
      go_wp2
      obtain ⟨⟨v0, v1, v2, v3⟩, vR⟩ := rD
      refine bodyPost_ret (v := .agg #[.slice a3 R3.length c3, .bool (ng s.num), .slice x3 (ln (am s.num)) (ln (am s.num)), .slice y3 (ln s.den) (ln s.den)]) (by rw [results_cell rfl]; go_simp) rfl ?_
      rw [← hTT.out, hs]
      exact ⟨a3, c3, R3, x3, y3, rfl, hB, s7, E7, f3, g1, g2⟩
end Go.Proofs.YtkflbhkcofmaoaaGreat
