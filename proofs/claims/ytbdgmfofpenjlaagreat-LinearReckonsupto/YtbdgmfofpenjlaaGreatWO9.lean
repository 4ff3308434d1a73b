/-
  Layer 6: the reference's Add, Sub, Cmp.
-/
import Derived.Test.YtbdgmfofpenjlaaGreatWO5
import Derived.Test.YtbdgmfofpenjlaaGreatWN9
import Derived.Test.YtbdgmfofpenjlaaGreatWQ9
import Derived.Test.YtbdgmfofpenjlaaGreatNumO
import Derived.Test.YtbdgmfofpenjlaaGreatWO0
namespace Go.Proofs.YtbdgmfofpenjlaaGreat
open Go.RowKit
set_option linter.unusedVariables false
set_option linter.unusedSimpArgs false

set_option maxHeartbeats 8000000 in
set_option maxRecDepth 100000 in
theorem vlScale_is (C : RatV) (a : Option Addr) (c : Nat) (L : List Mo) (K : Nat) (w : World) (hF : FAt w a L) (hok : ∀ p ∈ L, p.2.ok w) (hc : L.length ≤ c) (hm : L.length ≤ 1048576) (hC : C.ok w) (hK : ∀ p ∈ L, C.n + C.m + p.2.n + p.2.m ≤ K) (hCK : C.n + C.m ≤ K) (hKm : K ≤ 1048576) (hnK : L.length * (2 * K + 5) + 1 ≤ 1099511627776) :
    Calls Tryz.prog 26 #[.agg #[.bool C.s, .slice C.a C.n C.c, .slice C.b C.m C.e], .slice a L.length c] w (FAns w (nfm (fmap (fun r => C.val * r) (fo L)))) := by
  obtain ⟨i0, hi0, hz0, hz1, hz2⟩ := info_parts info_Mono
  have hszL : ∀ p ∈ fmap (fun r => C.val * r) (fo L), sz (K + 2) p.2 := fun p hp => by
    obtain ⟨p1, hp1, rfl⟩ := List.mem_map.1 hp
    obtain ⟨p2, hp2, rfl⟩ := List.mem_map.1 hp1
    exact mul_sz hC (hok p2 hp2) (hK p2 hp2)
  have hwt : wts (fmap (fun r => C.val * r) (fo L)) ≤ L.length * (2 * K + 5) := by
    have h := wts_le (N := 2 * K + 5) (fmap (fun r => C.val * r) (fo L)) (fun p hp => Nat.le_trans (sz_wt (hszL p hp)) (by omega))
    rw [fmap_length, fo_length] at h
    exact h
  have GN := hide' (fun w' a2 c2 (R : List Mo) (hs : Sl w' a2 c2 R) (hE : ∀ p ∈ R, Ent w' p) (hf : fo R = fmap (fun r => C.val * r) (fo L)) => vlNorm_is a2 c2 R w' hs.lies (fun p hp => by
    have h1 : (p.1, p.2.val) ∈ fmap (fun r => C.val * r) (fo L) := by rw [← hf]; exact List.mem_map.2 ⟨p, hp, rfl⟩
    have h2 : sz (K + 2) p.2.val := hszL _ h1
    obtain ⟨e1, e2⟩ := low_ns (hE p hp).low
    exact ⟨(hE p hp).ok, by rw [e1]; have := h2.1; omega, by rw [e2]; have := h2.2; omega⟩) hs.len (by have h := congrArg List.length hf; rw [fo_length, fmap_length, fo_length] at h; omega) (by rw [hf]; omega))
  obtain ⟨TT, hTT⟩ : ∃ TT, nfm (fmap (fun r => C.val * r) (fo L)) = TT := ⟨_, rfl⟩
  rw [hTT]
  replace hTT := hide' hTT
  clear hszL hwt
  go_enter Tryz.func26, Tryz.ntmps26
  go_wp2_with fail
  obtain ⟨wA, hwA⟩ : ∃ wA, w.alloc (.cells #[.bool C.s, .slice C.a C.n C.c, .slice C.b C.m C.e] 33) = wA := ⟨_, rfl⟩
  have bA : Below w.heap.size w wA := by subst hwA; exact below_alloc _
  have a0 : wA.cell? ⟨w.heap.size, 0, none⟩ = some (.bool C.s) := by subst hwA; go_simp
  have a1 : wA.cell? ⟨w.heap.size, 1, none⟩ = some (.slice C.a C.n C.c) := by subst hwA; go_simp
  have a2 : wA.cell? ⟨w.heap.size, 2, none⟩ = some (.slice C.b C.m C.e) := by subst hwA; go_simp
  have hwz : w.heap.size < wA.heap.size := by subst hwA; simp only [World.size_alloc]; omega
  rw [hwA]
  clear hwA
  replace hF := hF.later bA
  replace hok := fun p hp => (hok p hp).later bA
  replace hC := hC.later bA
  go_loopw [5, 6] (fun vo vi wr => ∃ k : Nat, k ≤ L.length ∧ vi = .int .i64 k ∧ TInv wA (fun r => C.val * r) L k vo wr) (fun _ vi _ => L.length - (intOf vi).toNat)
  case atStart => exact ⟨0, Nat.zero_le _, rfl, [], rfl, World.ownsRow_nil _ _ _ _, Below.refl _ _, fun p hp => by simp at hp, rfl⟩
  case round =>
    obtain ⟨k, hk, rfl, R, hRl, hO, hB, hR, hfo⟩ := hrel
    by_cases hlt : k < L.length
    · obtain ⟨p, hp⟩ : ∃ p, L[k]? = some p := ⟨L[k], List.getElem?_eq_getElem hlt⟩
      obtain ⟨b, off, rfl, hb, hcell⟩ := hF (by intro e; rw [e] at hlt; simp at hlt)
      obtain ⟨c0, c1, c2, c3⟩ := hcell k p hp
      replace c0 := below_cell hB c0
      replace c1 := below_cell hB c1
      replace c2 := below_cell hB c2
      replace c3 := below_cell hB c3
      replace a0 := below_cell hB a0
      replace a1 := below_cell hB a1
      replace a2 := below_cell hB a2
      have hmem := List.mem_of_getElem? hp
      have hq := (hok p hmem).later hB
      have hC1 := hC.later hB
      have hKp := hK p hmem
      have hsz := mul_sz hC1 hq hKp
      obtain ⟨t1, t2⟩ := take_split hp
      have hfo' : fo (L.take (k + 1)) = fo (L.take k) ++ [(p.1, p.2.val)] := by rw [t1, fo_append]; rfl
      clear t1 t2 hp hmem
      obtain ⟨x, q⟩ := p
      simp only at c0 c1 c2 c3 hsz hfo' hq hKp
      have GM := hide' (fun w' k1 k2 k3 k4 => vqMul_is C.s C.a C.n C.c C.X C.b C.m C.e C.Y q.s q.a q.n q.c q.X q.b q.m q.e q.Y _ _ w' hC1.2.1 (by omega) k1 hC1.2.2.2.2.1 (by omega) k2 hq.2.1 (by omega) k3 hq.2.2.2.2.1 (by omega) k4 (low_mul C q))
      obtain ⟨r, hr⟩ : ∃ r, C.val * q.val = r := ⟨_, rfl⟩
      rw [hr] at GM hsz
      have k1 := hC1.1
      have k2 := hC1.2.2.2.1
      have k3 := hq.1
      have k4 := hq.2.2.2.1
      clear hC1 hq hcell
      have i1 : (0 : Int) ≤ (k : Int) := by omega
      have i2 : (k : Int) < (L.length : Int) := by omega
      have hrow := fun k hk => (hO.lt k hk)
      go_wp2_with fail
      have bT : Below wr.heap.size wr wr := Below.refl _ _
      have bD : Below wr.heap.size wr wr.drew := (Below.refl _ _).drew
      have kc0 := below_cell bD c0
      have kc1 := below_cell bD c1
      have kc2 := below_cell bD c2
      have kc3 := below_cell bD c3
      have ka0 := below_cell bD a0
      have ka1 := below_cell bD a1
      have ka2 := below_cell bD a2
      replace bT := bT.trans (bD.mono bT.size)
      replace k1 := k1.later bD
      replace k2 := k2.later bD
      replace k3 := k3.later bD
      replace k4 := k4.later bD
      refine wp_region_held_drew (S := fun w' => w'.cell? ⟨b, off + k * 4, none⟩ = some (.int .i64 x) ∧ w'.cell? ⟨b, off + k * 4 + 1, none⟩ = some (.bool q.s) ∧ w'.cell? ⟨b, off + k * 4 + 1 + 1, none⟩ = some (.slice q.a q.n q.c) ∧ w'.cell? ⟨b, off + k * 4 + 1 + 2, none⟩ = some (.slice q.b q.m q.e) ∧ w'.cell? ⟨w.heap.size, 0, none⟩ = some (.bool C.s) ∧ w'.cell? ⟨w.heap.size, 1, none⟩ = some (.slice C.a C.n C.c) ∧ w'.cell? ⟨w.heap.size, 2, none⟩ = some (.slice C.b C.m C.e)) (by kernel_rfl) ⟨kc0, kc1, kc2, kc3, ka0, ka1, ka2⟩ (fun hHeld => ?_)
      clear kc0 kc1 kc2 kc3 ka0 ka1 ka2
      generalize wr.drew = w0 at bD k1 k2 k3 k4 bT hHeld ⊢
      clear c0 c1 c2 c3 a0 a1 a2 bD
      refine take' 0 (v := ?_) rfl (by kernel_rfl) (by kernel_rfl) (by kernel_rfl) (fun _ _ _ h => h) (Or.inl ⟨by rfl, ?_⟩) (by assumption) ?_
      rotate_left
      · intro w9 hSw
        go_simp
        first | done | with_reducible rfl
      simp only [Act.put, List.setIfInBounds_toArray, List.set_cons_zero, List.set_cons_succ]
      refine take' 1 (v := ?_) rfl (by kernel_rfl) (by kernel_rfl) (by kernel_rfl) (fun _ _ _ h => h) (Or.inl ⟨by rfl, ?_⟩) (by assumption) ?_
      rotate_left
      · intro w9 hSw
        go_simp
        first | done | with_reducible rfl
      simp only [Act.put, List.setIfInBounds_toArray, List.set_cons_zero, List.set_cons_succ]
      refine take' 2 (v := ?_) rfl (by kernel_rfl) (by kernel_rfl) (by kernel_rfl) (fun _ _ _ h => h) (Or.inl ⟨by rfl, ?_⟩) (by assumption) ?_
      rotate_left
      · intro w9 hSw
        go_simp
        first | done | with_reducible rfl
      simp only [Act.put, List.setIfInBounds_toArray, List.set_cons_zero, List.set_cons_succ]
      refine take' 3 (v := ?_) rfl (by kernel_rfl) (by kernel_rfl) (by kernel_rfl) (fun _ _ _ h => h) (Or.inl ⟨by rfl, ?_⟩) (by assumption) ?_
      rotate_left
      · intro w9 hSw
        go_simp
        first | done | with_reducible rfl
      simp only [Act.put, List.setIfInBounds_toArray, List.set_cons_zero, List.set_cons_succ]
      refine take' 4 (v := ?_) rfl (by kernel_rfl) (by kernel_rfl) (by kernel_rfl) (fun _ _ _ h => h) (Or.inl ⟨by rfl, ?_⟩) (by assumption) ?_
      rotate_left
      · intro w9 hSw
        go_simp
        first | done | with_reducible rfl
      simp only [Act.put, List.setIfInBounds_toArray, List.set_cons_zero, List.set_cons_succ]
      refine take' 5 (v := ?_) rfl (by kernel_rfl) (by kernel_rfl) (by kernel_rfl) (fun _ _ _ h => h) (Or.inl ⟨by rfl, ?_⟩) (by assumption) ?_
      rotate_left
      · intro w9 hSw
        go_simp
        first | done | with_reducible rfl
      simp only [Act.put, List.setIfInBounds_toArray, List.set_cons_zero, List.set_cons_succ]
      refine take' 6 (v := ?_) rfl (by kernel_rfl) (by kernel_rfl) (by kernel_rfl) (fun _ _ _ h => h) (Or.inl ⟨by rfl, ?_⟩) (by assumption) ?_
      rotate_left
      · intro w9 hSw
        go_simp
        first | done | with_reducible rfl
      simp only [Act.put, List.setIfInBounds_toArray, List.set_cons_zero, List.set_cons_succ]
      refine take' 7 (v := ?_) rfl (by kernel_rfl) (by kernel_rfl) (by kernel_rfl) (fun _ _ _ h => h) (Or.inl ⟨by rfl, ?_⟩) (by assumption) ?_
      rotate_left
      · intro w9 hSw
        go_simp
        first | done | with_reducible rfl
      simp only [Act.put, List.setIfInBounds_toArray, List.set_cons_zero, List.set_cons_succ]
      refine take' 8 (v := ?_) rfl (by kernel_rfl) (by kernel_rfl) (by kernel_rfl) (fun _ _ _ h => h) (Or.inl ⟨by rfl, ?_⟩) (by assumption) ?_
      rotate_left
      · intro w9 hSw
        go_simp
        first | done | with_reducible rfl
      simp only [Act.put, List.setIfInBounds_toArray, List.set_cons_zero, List.set_cons_succ]
      refine take' 9 (v := ?_) rfl (by kernel_rfl) (by kernel_rfl) (by kernel_rfl) (fun _ _ _ h => h) (Or.inl ⟨by rfl, ?_⟩) (by assumption) ?_
      rotate_left
      · intro w9 hSw
        go_simp
        first | done | with_reducible rfl
      simp only [Act.put, List.setIfInBounds_toArray, List.set_cons_zero, List.set_cons_succ]
      refine take' 10 (v := ?_) rfl (by kernel_rfl) (by kernel_rfl) (by kernel_rfl) (fun _ _ _ h => h) (Or.inl ⟨by rfl, ?_⟩) (by assumption) ?_
      rotate_left
      · intro w9 hSw
        go_simp
        first | done | with_reducible rfl
      simp only [Act.put, List.setIfInBounds_toArray, List.set_cons_zero, List.set_cons_succ]
      refine take' 11 (v := ?_) rfl (by kernel_rfl) (by kernel_rfl) (by kernel_rfl) (fun _ _ _ h => h) (Or.inl ⟨by rfl, ?_⟩) (by assumption) ?_
      rotate_left
      · intro w9 hSw
        go_simp
        first | done | with_reducible rfl
      simp only [Act.put, List.setIfInBounds_toArray, List.set_cons_zero, List.set_cons_succ]
      refine wpAnyH_ready (rs := [12]) (by kernel_rfl) (by simp) ?_
      refine cons' rfl (fun KK hKK => ?_)
      go_simp
      refine (GM.out _ k1 k2 k3 k4).mono ?_
      rintro e w2 ⟨p, p', rfl, n1, n2⟩
      have b2 := n1.below
      have sA := bT.size
      replace bT := bT.trans (b2.mono bT.size)
      replace k1 := k1.later b2
      replace k2 := k2.later b2
      replace k3 := k3.later b2
      replace k4 := k4.later b2
      replace hHeld := (⟨below_cell b2 hHeld.1, below_cell b2 hHeld.2.1, below_cell b2 hHeld.2.2.1, below_cell b2 hHeld.2.2.2.1, below_cell b2 hHeld.2.2.2.2.1, below_cell b2 hHeld.2.2.2.2.2.1, below_cell b2 hHeld.2.2.2.2.2.2⟩ : _ ∧ _ ∧ _ ∧ _ ∧ _ ∧ _ ∧ _)
      go_wp2_with fail
      refine hKK.out _ _ hHeld ?_
      clear hHeld
      intro hHeld
      clear hKK KK
      try simp only [Act.put, List.setIfInBounds_toArray, List.set_cons_zero, List.set_cons_succ]
      refine take' 13 (v := ?_) rfl (by kernel_rfl) (by kernel_rfl) (by kernel_rfl) (fun _ _ _ h => h) (Or.inl ⟨by rfl, ?_⟩) (by assumption) ?_
      rotate_left
      · intro w9 hSw
        go_simp
        first | done | with_reducible rfl
      simp only [Act.put, List.setIfInBounds_toArray, List.set_cons_zero, List.set_cons_succ]
      refine wpAnyH_ready (rs := [14]) (by kernel_rfl) (by simp) ?_
      refine cons' rfl (fun KK hKK => ?_)
      go_simp
      have hnew := heap_alloc_new w2 (.cells #[.int .i64 x, .bool (ng r.num), .slice p (ln (am r.num)) (ln (am r.num)), .slice p' (ln r.den) (ln r.den)] 41)
      have b3 := below_alloc (w := w2) (.cells #[.int .i64 x, .bool (ng r.num), .slice p (ln (am r.num)) (ln (am r.num)), .slice p' (ln r.den) (ln r.den)] 41)
      generalize w2.alloc (.cells #[.int .i64 x, .bool (ng r.num), .slice p (ln (am r.num)) (ln (am r.num)), .slice p' (ln r.den) (ln r.den)] 41) = w3 at hnew b3 ⊢
      replace bT := bT.trans (b3.mono bT.size)
      replace k1 := k1.later b3
      replace k2 := k2.later b3
      replace k3 := k3.later b3
      replace k4 := k4.later b3
      replace hHeld := (⟨below_cell b3 hHeld.1, below_cell b3 hHeld.2.1, below_cell b3 hHeld.2.2.1, below_cell b3 hHeld.2.2.2.1, below_cell b3 hHeld.2.2.2.2.1, below_cell b3 hHeld.2.2.2.2.2.1, below_cell b3 hHeld.2.2.2.2.2.2⟩ : _ ∧ _ ∧ _ ∧ _ ∧ _ ∧ _ ∧ _)
      refine hKK.out _ _ hHeld ?_
      clear hHeld
      intro hHeld
      clear hKK KK
      try simp only [Act.put, List.setIfInBounds_toArray, List.set_cons_zero, List.set_cons_succ]
      have hO3 := own_below hO bT
      have s2 := b2.size
      have s3 := b3.size
      have s4 := bT.size
      have s5 := hB.size
      have gN : Grw u5 w3 (x, RatV.of r.num r.den p p') := ⟨⟨n1.seg.later b3, Nat.le_refl _, Nat.le_trans hsz.1 (by omega), n2.seg.later b3, Nat.le_refl _, Nat.le_trans hsz.2 (by omega)⟩, ofR_low r p p', fun b e => ⟨fun hn ad e2 h => by have h1 := n1.fr hn ad e2; have h2 := (hrow b e).2; omega, fun hn ad e2 h => by have h1 := n2.fr hn ad e2; have h2 := (hrow b e).2; omega⟩⟩
      refine wpAnyH_ready (rs := [15]) (by kernel_rfl) (by simp) ?_
      refine cons' rfl (fun KK hKK => ?_)
      refine step_append_lies _ (by rfl) _ _ _ (by rfl) wA.heap.size 41 i0 _ 4 64 Tryz.underlying23 hi0 hz0 hz1 hz2 rfl (by omega) u5 R.length (cellsF R) (by rfl) hO3
        ⟨w2.heap.size, 0, none⟩ 1 1 (cells4 (x, RatV.of r.num r.den p p')) (by rfl) (by rfl) (World.news_of_block (cs := #[.int .i64 x, .bool (ng r.num), .slice p (ln (am r.num)) (ln (am r.num)), .slice p' (ln r.den) (ln r.den)]) (t := 41) (fr := (0, 0)) hnew) (cells4_one _)
        (by omega) (by simp only [maxLen]; omega) (by omega) (by omega) w3.heap.size rfl ?_
      intro gb cap w9 hown4 hgrow hat hlt4
      have far : ∀ {c o : Nat} {u : Value}, c < wA.heap.size → w3.cell? ⟨c, o, none⟩ = some u → w9.cell? ⟨c, o, none⟩ = some u := fun hc hu => hgrow.cell hu (fun e => by have := hrow _ e.symm; simp only at this; omega)
      refine hKK.out _ _ ⟨far hb hHeld.1, far hb hHeld.2.1, far hb hHeld.2.2.1, far hb hHeld.2.2.2.1, far hwz hHeld.2.2.2.2.1, far hwz hHeld.2.2.2.2.2.1, far hwz hHeld.2.2.2.2.2.2⟩ ?_
      clear hHeld
      intro hHeld
      clear hKK KK
      try simp only [Act.put, List.setIfInBounds_toArray, List.set_cons_zero, List.set_cons_succ]
      have hBT := hB.trans (bT.mono hB.size)
      have I1 := hide' (And.intro (own_push hown4) (And.intro (hBT.trans (below_grown hBT.size (fun k hk => (hrow k hk).1) hgrow)) (grw_push (fun q hq => (hR q hq).later bT) gN (j := R.length + 1) (cap := cap) hgrow hat)))
      clear hown4 hgrow hat far gN hO3 hnew n1 n2
      refine take' 16 (v := ?_) rfl (by kernel_rfl) (by kernel_rfl) (by kernel_rfl) (fun _ _ _ h => h) (Or.inl ⟨by rfl, ?_⟩) (by assumption) ?_
      rotate_left
      · intro w9 hSw
        go_simp
        first | done | with_reducible rfl
      simp only [Act.put, List.setIfInBounds_toArray, List.set_cons_zero, List.set_cons_succ]
      refine wpAnyH_done (by kernel_rfl) ?_ _
      go_wp2
      go_roundw
      case rel => exact ⟨k + 1, by omega, by go_num, R ++ [(x, RatV.of r.num r.den p p')], by rw [List.length_append, hRl]; rfl, by have h := I1.out.1; rw [hRl] at h; exact h, I1.out.2.1, by have h := I1.out.2.2; rw [hRl] at h; exact h, by rw [fo_append, hfo, hfo', fmap_snoc, hr]; show _ ++ [(x, (RatV.of r.num r.den p p').val)] = _; rw [val_ofR]⟩
      case measure => simp [intOf]; omega
    · obtain rfl : k = L.length := by omega
      have i1 : ¬ (L.length : Int) < (L.length : Int) := by omega
      obtain ⟨a3, c3, rfl, s3⟩ := Sl.of hO
      rw [List.take_length] at hfo
      have G := hide' (GN.out wr a3 c3 R s3 (fun p hp => (hR p hp).ent) hfo)
      rw [hfo, hTT.out] at G
      clear GN hO hR s3 hfo hRl
      go_wp2_with fail
      refine G.out.mono ?_
      rintro e w9 h9
      have h8 := h9.from (bA.trans (hB.mono bA.size))
      obtain ⟨a2, c2, R2, rfl, h7⟩ := h8
      clear h9
      go_wp2
      go_ret
      exact ⟨a2, c2, R2, rfl, h7⟩
end Go.Proofs.YtbdgmfofpenjlaaGreat

namespace Go.Proofs.YtbdgmfofpenjlaaGreat
open Go.RowKit
set_option linter.unusedVariables false
set_option linter.unusedSimpArgs false

set_option maxHeartbeats 2000000 in
set_option maxRecDepth 100000 in
theorem vlAdd_is (a : Option Addr) (ca : Nat) (L : List Mo) (b : Option Addr) (cb : Nat) (M : List Mo) (w : World) (sa : Sl w a ca L) (sb : Sl w b cb M) (hL : ∀ p ∈ L, p.2.ok w ∧ p.2.n ≤ 1099511627776 ∧ p.2.m ≤ 1099511627776) (hM : ∀ p ∈ M, p.2.ok w ∧ p.2.n ≤ 1099511627776 ∧ p.2.m ≤ 1099511627776) (hm : L.length + M.length ≤ 1048576) (hw : wts (fo L ++ fo M) + 1 ≤ 1099511627776) :
    Calls Tryz.prog 8 #[.slice a L.length ca, .slice b M.length cb] w (FAns w (nfm (fo L ++ fo M))) := by
  have GN := hide' (fun w' (hb : Below w.heap.size w w') a3 c3 (s3 : Sl w' a3 c3 (L ++ M)) => vlNorm_is a3 c3 (L ++ M) w' s3.lies (fun p hp => by rcases List.mem_append.1 hp with h | h; exact ⟨(hL p h).1.later hb, (hL p h).2⟩; exact ⟨(hM p h).1.later hb, (hM p h).2⟩) s3.len (by rw [List.length_append]; omega) (by rw [fo_append]; exact hw))
  rw [← fo_append]
  obtain ⟨TT, hTT⟩ : ∃ TT, nfm (fo (L ++ M)) = TT := ⟨_, rfl⟩
  rw [hTT] at GN ⊢
  clear hL hM hw hTT
  have hm1 : ([] : List Mo).length + L.length ≤ 4194304 := by simp only [List.length_nil]; omega
  have hm2 : L.length + M.length ≤ 4194304 := by omega
  have hO0 : w.ownsRow w.heap.size 41 4 (.slice none 0 0) ([] : List Mo).length (cellsF []) := World.ownsRow_nil _ _ _ _
  have hle := Nat.le_refl w.heap.size
  go_enter Tryz.func8, Tryz.ntmps8
  go_wp2_with (at_builtin; refine wpList_append_form (by rfl) _ _ _ (by rfl) w.heap.size (.slice none 0 0) [] L a ca Tryz.underlying23 (by rfl) (by rfl) hO0 sa hm1 hle ?_)
  intro v1 w1 hO1 hg1 hat1
  have b1 : Below w.heap.size w w1 := below_grown (Nat.le_refl _) (fun k h => by simp [Value.ownBlock] at h) hg1
  have hs1 := b1.size
  have sb1 := sb.later b1
  have hrow1 : ∀ k, v1.ownBlock = some k → w.heap.size ≤ k := fun k hk => by rcases hat1 with h | h; (rw [h] at hk; simp [Value.ownBlock] at hk); (rw [h] at hk; obtain rfl := Option.some.inj hk; exact Nat.le_refl _)
  replace hO1 : w1.ownsRow w.heap.size 41 4 v1 L.length (cellsF L) := by simpa using hO1
  clear hO0 hg1 hat1 sa sb
  go_wp2_with (at_builtin; refine wpList_append_form (by rfl) _ _ _ (by rfl) w.heap.size v1 L M b cb Tryz.underlying23 (by rfl) (by rfl) hO1 sb1 hm2 hs1 ?_)
  intro v2 w2 hO2 hg2 hat2
  have b2 : Below w.heap.size w1 w2 := below_grown hs1 hrow1 hg2
  have hB := b1.trans b2
  replace hO2 : w2.ownsRow w.heap.size 41 4 v2 (L ++ M).length (cellsF (L ++ M)) := by rw [List.length_append]; first | exact hO2 | simpa using hO2
  obtain ⟨a3, c3, rfl, s3⟩ := Sl.of hO2
  have G := hide' (GN.out _ hB a3 c3 s3)
  clear GN hO2 hg2 hat2 hO1 hrow1 sb1 s3
  obtain ⟨nn, hnn⟩ : ∃ nn, (L ++ M).length = nn := ⟨_, rfl⟩
  rw [hnn] at G ⊢
  clear hnn
  go_wp2_with fail
  refine G.out.mono ?_
  rintro e w3 h3
  have h4 := h3.from hB
  obtain ⟨a4, c4, R4, rfl, h5⟩ := h4
  clear h3
  go_wp2
  go_ret
  exact ⟨a4, c4, R4, rfl, h5⟩
theorem sub_same (l m : Fo) : nfm (l ++ nfm (fmap (fun r => (-1 : Rat) * r) m)) = nfm (l ++ fmap (fun r => -r) m) := nfm_uniq (nfm_nrm _) fun x => by rw [nfm_co, co_append, nfm_co, co_append, co_scale, co_neg]; grind
set_option maxHeartbeats 2000000 in
set_option maxRecDepth 100000 in
theorem vlSub_is (a : Option Addr) (ca : Nat) (L : List Mo) (b : Option Addr) (cb : Nat) (M : List Mo) (K : Nat) (w : World) (sa : Sl w a ca L) (sb : Sl w b cb M) (hL : ∀ p ∈ L, p.2.ok w ∧ p.2.n ≤ 1099511627776 ∧ p.2.m ≤ 1099511627776) (hM : ∀ p ∈ M, p.2.ok w) (hm : L.length + M.length ≤ 1048576) (hK : ∀ p ∈ M, 2 + p.2.n + p.2.m ≤ K) (hK2 : 2 ≤ K) (hKm : K ≤ 1048576) (hnK : M.length * (2 * K + 5) + 1 ≤ 1099511627776) (hwL : wts (fo L) ≤ 4194304) (hwM : bulkL M ≤ 4194304) :
    Calls Tryz.prog 10 #[.slice a L.length ca, .slice b M.length cb] w (FAns w (nfm (fo L ++ fmap (fun r => -r) (fo M)))) := by
  have GW : ∀ w', Calls Tryz.prog 27 #[.int .i64 (-1)] w' fun e w'' => ∃ p q, e = .returned (.agg #[.bool (ng (-1 : Rat).num), .slice p (ln (am (-1 : Rat).num)) (ln (am (-1 : Rat).num)), .slice q (ln (-1 : Rat).den) (ln (-1 : Rat).den)]) ∧ New w' w'' p (am (-1 : Rat).num) (ln (am (-1 : Rat).num)) ∧ New w' w'' q (-1 : Rat).den (ln (-1 : Rat).den) := fun w' => vqWhole_is (-1) w' (by omega) (by omega)
  have l1 : ln (am (-1 : Rat).num) = 1 := by show ln (am (-1)) = _; rw [show am (-1) = 1 from rfl, ln_one]
  have l2 : ln (-1 : Rat).den = 1 := by show ln 1 = _; exact ln_one
  have GS' := fun w' (hb : Below w.heap.size w w') p q (k1 : Seg w' p (am (-1 : Rat).num) (ln (am (-1 : Rat).num))) (k2 : Seg w' q (-1 : Rat).den (ln (-1 : Rat).den)) => vlScale_is (RatV.of (-1 : Rat).num (-1 : Rat).den p q) b cb M K w' (sb.lies.later hb) (fun p hp => (hM p hp).later hb) sb.len (by omega) ⟨k1, Nat.le_refl _, by show ln (am (-1 : Rat).num) ≤ _; omega, k2, Nat.le_refl _, by show ln (-1 : Rat).den ≤ _; omega⟩ (fun p hp => by have := hK p hp; show ln (am (-1 : Rat).num) + ln (-1 : Rat).den + p.2.n + p.2.m ≤ K; omega) (by show ln (am (-1 : Rat).num) + ln (-1 : Rat).den ≤ K; omega) hKm hnK
  simp only [val_ofR] at GS'
  have hws : wts (fmap (fun r => (-1 : Rat) * r) (fo M)) ≤ bulkL M := by
    have e : fmap (fun r => (-1 : Rat) * r) (fo M) = fmap (fun r => -r) (fo M) := by unfold fmap; refine List.map_congr_left fun p _ => ?_; show (p.1, (-1 : Rat) * p.2) = (p.1, -p.2); congr 1; grind
    rw [e, wts_neg]; exact wts_bulk M hM
  have hwn := wts_nfm (fmap (fun r => (-1 : Rat) * r) (fo M))
  have hln := nfm_length (fmap (fun r => (-1 : Rat) * r) (fo M))
  rw [fmap_length, fo_length] at hln
  have GA := hide' (fun w' (hb : Below w.heap.size w w') a2 c2 (R : List Mo) (s2 : Sl w' a2 c2 R) (he : ∀ p ∈ R, Ent w' p) (hf : fo R = nfm (fmap (fun r => (-1 : Rat) * r) (fo M))) => vlAdd_is a ca L a2 c2 R w' (sa.later hb) s2 (fun p hp => ⟨(hL p hp).1.later hb, (hL p hp).2⟩) (fun p hp => by have h1 := bulkL_low R (fun p hp => (he p hp).low); rw [hf] at h1; have h2 := bulkL_at R p hp; have h3 : R.length = (nfm (fmap (fun r => (-1 : Rat) * r) (fo M))).length := (by rw [← fo_length, hf]); exact ⟨(he p hp).ok, by omega, by omega⟩) (by rw [← fo_length R, hf]; omega) (by rw [wts_append, hf]; omega))
  have HE := hide' (sub_same (fo L) (fo M))
  obtain ⟨TT, hTT⟩ : ∃ TT, nfm (fo L ++ fmap (fun r => -r) (fo M)) = TT := ⟨_, rfl⟩
  rw [hTT] at HE ⊢
  obtain ⟨m1, hm1⟩ : ∃ m1 : Rat, -1 = m1 := ⟨_, rfl⟩
  rw [hm1] at GW GS' GA HE
  have GS := hide' GS'
  replace GW := hide' GW
  clear GS' hm1 hTT l1 l2 hws hwn hln sa sb hL hM hm hK hK2 hKm hnK hwL hwM
  go_enter Tryz.func10, Tryz.ntmps10
  go_wp2_with fail
  refine (GW.out _).mono ?_
  rintro e w1 ⟨p, q, rfl, n1, n2⟩
  have b1 := n1.below
  have k1 := n1.seg
  have k2 := n2.seg
  clear n1 n2
  go_wp2_with fail
  refine (GS.out _ b1 p q k1 k2).mono ?_
  rintro e w2 ⟨a2, c2, R2, rfl, b2, s2, e2, f2⟩
  have hB := b1.trans (b2.mono b1.size)
  go_wp2_with fail
  refine (GA.out _ hB a2 c2 R2 s2 e2 f2).mono ?_
  rintro e w3 h3
  rw [f2, HE.out] at h3
  have h4 := h3.from hB
  obtain ⟨a4, c4, R4, rfl, h5⟩ := h4
  clear h3
  go_wp2
  go_ret
  exact ⟨a4, c4, R4, rfl, h5⟩
set_option maxHeartbeats 2000000 in
set_option maxRecDepth 100000 in
theorem vlCmp_is (a : Option Addr) (ca : Nat) (L : List Mo) (b : Option Addr) (cb : Nat) (M : List Mo) (w : World) (G0 : Calls Tryz.prog 10 #[.slice a L.length ca, .slice b M.length cb] w (FAns w (nfm (fo L ++ fmap (fun r => -r) (fo M))))) :
    Calls Tryz.prog 18 #[.slice a L.length ca, .slice b M.length cb] w fun e w' => e = .returned (.int .i64 (cmpF (fo L) (fo M))) ∧ Below w.heap.size w w' := by
  have G1 := hide' G0
  clear G0
  unfold cmpF
  obtain ⟨T, hT⟩ : ∃ T, nfm (fo L ++ fmap (fun r => -r) (fo M)) = T := ⟨_, rfl⟩
  rw [hT] at G1 ⊢
  obtain ⟨C, hC⟩ : ∃ C, hd T = C := ⟨_, rfl⟩
  rw [hC]
  replace hC := hide' hC
  clear hT
  go_enter Tryz.func18, Tryz.ntmps18
  go_wp2_with fail
  refine G1.out.mono ?_
  rintro e w1 ⟨a1, c1, R1, rfl, b1, s1, e1, f1⟩
  cases R1 with
  | nil =>
    obtain rfl : C = 0 := by rw [← hC.out, ← f1]; rfl
    rw [show ([] : List Mo).length = 0 from rfl]
    go_wp2
    go_ret
    exact ⟨rfl, b1⟩
  | cons p R1 =>
    obtain ⟨x, q⟩ := p
    have hq : sgn (rn q.s q.X q.Y) = C := by
      have h1 : hd T = sgn q.val.num := by rw [← f1]; rfl
      have hl := (e1 (x, q) List.mem_cons_self).low
      rw [← hC.out, h1]
      have e9 := low_val (show q.low from hl)
      have e8 : rn q.s q.X q.Y = q.val.num := by
        conv => lhs; rw [e9]
        exact rn_nf q.val.den_pos
      rw [e8]
    have ok : q.ok w1 := (e1 (x, q) List.mem_cons_self).ok
    have G2 := hide' (fun w' k1 k2 => vqSign_is q.s q.a q.n q.c q.X q.b q.m q.e q.Y C w' ok.2.1 ok.2.2.1 k1 ok.2.2.2.2.1 ok.2.2.2.2.2 k2 hq)
    have k1 := ok.1
    have k2 := ok.2.2.2.1
    obtain ⟨bb, off, rfl, hb, ⟨d0, d1, d2, d3⟩, _⟩ := s1.lies.head
    simp only at d0 d1 d2 d3
    obtain ⟨n, hn⟩ : ∃ n, ((x, q) :: R1 : List Mo).length = n := ⟨_, rfl⟩
    have hn1 : n = R1.length + 1 := by rw [← hn]; rfl
    have i1 : ¬ (n : Int) = 0 := by omega
    have i2 : (0 : Int) < (n : Int) := by omega
    have i3 : ¬ n = 0 := by omega
    have i4 : 0 < n := by omega
    rw [hn]
    clear hn hn1 s1 e1 f1 ok hq hC G1
    go_wp2_with fail
    refine (G2.out _ k1 k2).mono ?_
    rintro e w2 ⟨rfl, b2⟩
    go_wp2
    go_ret
    exact ⟨rfl, b1.trans (b2.mono b1.size)⟩
end Go.Proofs.YtbdgmfofpenjlaaGreat
