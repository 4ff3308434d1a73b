/-
  Layer 6: the reference's Add, Sub, Cmp.
-/
import Derived.Test.YtkflbhkcofmaoaaGreatWO0
import Derived.Test.YtkflbhkcofmaoaaGreatWL8
import Derived.Test.YtkflbhkcofmaoaaGreatWQ8
import Derived.Test.YtkflbhkcofmaoaaGreatWN5
import Derived.Laws.OwnMore
import Derived.Test.YtkflbhkcofmaoaaGreatWN7
import Derived.Test.YtkflbhkcofmaoaaGreatWN9
import Derived.Test.YtkflbhkcofmaoaaGreatWQ9
import Derived.Test.YtkflbhkcofmaoaaGreatWN11
namespace Go.Proofs.YtkflbhkcofmaoaaGreat
open Go.RowKit
set_option linter.unusedVariables false
set_option linter.unusedSimpArgs false

/-- an answer that is a number in lowest terms, in memory that was not there -/
def FrAns (w : World) (r : Rat) (e : Ending) (w' : World) : Prop :=
  ∃ p q, e = .returned (.agg #[.bool (ng r.num), .slice p (ln (am r.num)) (ln (am r.num)), .slice q (ln r.den) (ln r.den)]) ∧ Below w.heap.size w w' ∧ Seg w' p (am r.num) (ln (am r.num)) ∧ Seg w' q r.den (ln r.den) ∧ Fresh w p (ln (am r.num)) ∧ Fresh w q (ln r.den)

/-- what the loop keeps: the sum's variable lies in block c, the answer's in block r -/
def CInv (w : World) (rb c : Nat) (s : Rat) (wr : World) : Prop :=
  ∃ (p p' : Option Addr), Thr wr c (.bool (ng s.num)) (.slice p (ln (am s.num)) (ln (am s.num))) (.slice p' (ln s.den) (ln s.den)) ∧ Thr wr rb (.bool false) (.slice none 0 0) (.slice none 0 0) ∧
    Seg wr p (am s.num) (ln (am s.num)) ∧ Seg wr p' s.den (ln s.den) ∧ Fresh w p (ln (am s.num)) ∧ Fresh w p' (ln s.den) ∧ Below w.heap.size w wr
theorem co_snoc (x : Int) (l : Fo) (p : Int × Rat) : co x (l ++ [p]) = co x l + (if p.1 = x then p.2 else 0) := by
  rw [co_append]
  simp only [co]
  rw [Rat.add_zero]
theorem low_addN (s : Rat) (q : RatV) : Low (rn (ng s.num) (am s.num) s.den * (rd q.Y : Nat) + rn q.s q.X q.Y * (rd s.den : Nat)) ((rd s.den : Nat) * (rd q.Y : Nat)) (s + q.val).num (s + q.val).den := by
  have h := low_add (RatV.of s.num s.den none none) q
  rw [val_ofR] at h
  exact h

set_option maxHeartbeats 4000000 in
set_option maxRecDepth 100000 in
theorem vlCoefF_is (a : Option Addr) (cap : Nat) (L : List Mo) (x : Int) (w : World) (hF : FAt w a L) (hok : ∀ p ∈ L, p.2.ok w ∧ p.2.n ≤ 1099511627776 ∧ p.2.m ≤ 1099511627776) (hc : L.length ≤ cap) (hm : L.length ≤ 1048576) (hw : ∀ k, sz 1099511627776 (co x (fo (L.take k)))) :
    Calls Tryz.prog 82 #[.slice a L.length cap, .int .i64 x] w (FrAns w (co x (fo L))) := by
  obtain ⟨TT, hTT⟩ : ∃ TT, co x (fo L) = TT := ⟨_, rfl⟩
  rw [hTT]
  replace hTT := hide' hTT
  go_enter Tryz.func82, Tryz.ntmps82
  go_wp2_with fail
  obtain ⟨W, hW⟩ : ∃ W, (w.alloc (.cells #[.bool false, .slice none 0 0, .slice none 0 0] 31)) = W := ⟨_, rfl⟩
  have r00 : W.cell? ⟨w.heap.size, 0, none⟩ = some (.bool false) := by subst hW; go_simp
  have r01 : W.cell? ⟨w.heap.size, 1, none⟩ = some (.slice none 0 0) := by subst hW; go_simp
  have r02 : W.cell? ⟨w.heap.size, 2, none⟩ = some (.slice none 0 0) := by subst hW; go_simp
  have hB : Below w.heap.size w W := by subst hW; exact ((Below.refl _ _).alloc (by (try simp only [World.size_alloc]); omega) _)
  have hR0 : Row W (w.heap.size) := by
    have := row_new (w) #[.bool false, .slice none 0 0, .slice none 0 0] 31
    try simp only [World.size_alloc] at this
    subst hW; exact this
  have hz : W.heap.size = w.heap.size + 1 := by subst hW; simp only [World.size_alloc]
  rw [hW]
  clear hW
  have hBW : Below W.heap.size W W := Below.refl _ _
  refine (vlzero_is _).mono ?_
  rintro e w1 ⟨p1, q1, rfl, hp1, hq1⟩
  have b1 := hp1.below
  replace hp1 := hp1.back hBW
  replace hq1 := hq1.back hBW
  replace hBW := hBW.trans (b1.mono hBW.size)
  replace r00 := below_cell b1 r00
  replace r01 := below_cell b1 r01
  replace r02 := below_cell b1 r02
  replace hR0 := below_row b1 hR0
  go_wp2_with fail
  obtain ⟨wS, hwS⟩ : ∃ wS, w1.alloc (.cells #[.bool false, .slice p1 0 0, .slice q1 1 1] 31) = wS := ⟨_, rfl⟩
  have s : Thr wS w1.heap.size (.bool false) (.slice p1 0 0) (.slice q1 1 1) := ⟨⟨by subst hwS; go_simp, by subst hwS; go_simp, by subst hwS; go_simp⟩, by subst hwS; exact row_new w1 _ 31⟩
  have bS : Below w1.heap.size w1 wS := by subst hwS; exact below_alloc _
  rw [hwS]
  clear hwS
  have hcr : w.heap.size < w1.heap.size := hR0.lt
  have hr : Thr wS w.heap.size (.bool false) (.slice none 0 0) (.slice none 0 0) := Thr.later ⟨⟨r00, r01, r02⟩, hR0⟩ bS
  have I0 : CInv w w.heap.size w1.heap.size (co x (fo (L.take 0))) wS := by
    show CInv w w.heap.size w1.heap.size 0 wS
    refine ⟨p1, q1, ?_, hr, ?_, ?_, ?_, ?_, (hB.trans (hBW.mono hB.size)).trans (bS.mono (Nat.le_of_lt hcr))⟩
    · show Thr wS w1.heap.size (.bool (ng 0)) (.slice p1 (ln (am 0)) (ln (am 0))) (.slice q1 (ln 1) (ln 1))
      rw [show am 0 = 0 from rfl, ln_zero, ln_one]; exact s
    · show Seg wS p1 (am 0) (ln (am 0)); rw [show am 0 = 0 from rfl, ln_zero]; exact Seg.nil _ _
    · show Seg wS q1 1 (ln 1); rw [ln_one]; exact hq1.seg.later bS
    · show Fresh w p1 (ln (am 0)); rw [show am 0 = 0 from rfl, ln_zero]; exact fun h => absurd h (by omega)
    · show Fresh w q1 (ln 1); rw [ln_one]; exact hq1.fr.mono hB.size
  generalize w1.heap.size = c at *
  go_loopw [6] (fun vi wr => ∃ k : Nat, k ≤ L.length ∧ vi = .int .i64 k ∧ CInv w w.heap.size c (co x (fo (L.take k))) wr) (fun vi _ => L.length - (intOf vi).toNat)
  case atStart => exact ⟨0, Nat.zero_le _, rfl, I0⟩
  case round =>
    clear I0 s hr bS hp1 hq1 r00 r01 r02 hR0 hBW hB hz
    obtain ⟨k, hk, rfl, p, p', s, hr, hS, hT, f1, f2, hB⟩ := hrel
    by_cases hlt : k < L.length
    · obtain ⟨pk, hpk⟩ : ∃ p, L[k]? = some p := ⟨L[k], List.getElem?_eq_getElem hlt⟩
      obtain ⟨b, off, rfl, hb, hcell⟩ := hF (by intro e; rw [e] at hlt; simp at hlt)
      obtain ⟨c0, c1, c2, c3⟩ := hcell k pk hpk
      replace c0 := below_cell hB c0
      replace c1 := below_cell hB c1
      replace c2 := below_cell hB c2
      replace c3 := below_cell hB c3
      obtain ⟨hq, l1, l2⟩ := hok pk (List.mem_of_getElem? hpk)
      obtain ⟨t1, t2⟩ := take_split hpk
      have hfo : co x (fo (L.take (k + 1))) = co x (fo (L.take k)) + (if pk.1 = x then pk.2.val else 0) := by rw [t1, fo_append]; exact co_snoc x _ _
      clear t1 t2 hpk
      have hsz := hw k
      obtain ⟨y, q⟩ := pk
      simp only at c0 c1 c2 c3 hq l1 l2 hfo
      obtain ⟨sk, hsk⟩ : ∃ sk, co x (fo (L.take k)) = sk := ⟨_, rfl⟩
      rw [hsk] at s hS hT f1 f2 hfo hsz
      clear hsk
      have i0 : (0 : Int) ≤ (k : Int) := by omega
      have i1 : (k : Int) < (L.length : Int) := by omega
      by_cases hyx : y = x
      · rw [if_pos hyx] at hfo
        subst hyx
        have GA := hide' (fun w' k1 k2 k3 k4 => vqAdd_is (ng sk.num) p (ln (am sk.num)) (ln (am sk.num)) (am sk.num) p' (ln sk.den) (ln sk.den) sk.den q.s q.a q.n q.c q.X q.b q.m q.e q.Y (sk + q.val).num (sk + q.val).den w' (Nat.le_refl _) (Nat.le_trans hsz.1 (by omega)) k1 (Nat.le_refl _) (Nat.le_trans hsz.2 (by omega)) k2 hq.2.1 (by omega) k3 hq.2.2.2.2.1 (by omega) k4 (low_addN sk q))
        obtain ⟨sn, hsn⟩ : ∃ sn, sk + q.val = sn := ⟨_, rfl⟩
        rw [hsn] at GA hfo
        clear hsn
        have k3 := hq.1.later hB
        have k4 := hq.2.2.2.1.later hB
        clear hq hcell
        obtain ⟨⟨s0, s1, s2⟩, sR⟩ := s
        go_wp2_with fail
        have bD : Below wr.heap.size wr wr.drew := (Below.refl _ _).drew
        have kc1 := below_cell bD c1
        have kc2 := below_cell bD c2
        have kc3 := below_cell bD c3
        replace hB := hB.trans (bD.mono hB.size)
        replace k3 := k3.later bD
        replace k4 := k4.later bD
        replace hS := hS.later bD
        replace hT := hT.later bD
        replace hr := hr.later bD
        replace s0 := below_cell bD s0
        replace s1 := below_cell bD s1
        replace s2 := below_cell bD s2
        replace sR := below_row bD sR
        refine wp_region_held_drew (S := fun w' => w'.cell? ⟨b, off + k * 4 + 1, none⟩ = some (.bool q.s) ∧ w'.cell? ⟨b, off + k * 4 + 1 + 1, none⟩ = some (.slice q.a q.n q.c) ∧ w'.cell? ⟨b, off + k * 4 + 1 + 2, none⟩ = some (.slice q.b q.m q.e)) (by kernel_rfl) ⟨kc1, kc2, kc3⟩ (fun hHeld => ?_)
        clear kc1 kc2 kc3
        generalize wr.drew = w0 at bD k3 k4 hS hT hr s0 s1 s2 sR hB hHeld ⊢
        clear c0 c1 c2 c3 bD
        refine take' 1 (v := ?_) rfl (by kernel_rfl) (by kernel_rfl) (by kernel_rfl) (fun _ _ _ h => h) (Or.inl ⟨by rfl, ?_⟩) (by assumption) ?_
        rotate_left
        · intro w9 hSw
          go_simp
          first | done | with_reducible rfl
        simp only [Act.put, List.setIfInBounds_toArray, List.set_cons_zero, List.set_cons_succ]
        refine take' 2 (v := ?_) rfl (by kernel_rfl) (by kernel_rfl) (by kernel_rfl) (fun _ _ _ h => h) (Or.inl ⟨by rfl, ?_⟩) (by assumption) ?_
        rotate_left
        · intro w9 hSw
          go_simp
          first | done | with_reducible rfl
        simp only [Act.put, List.setIfInBounds_toArray, List.set_cons_zero, List.set_cons_succ]
        refine take' 3 (v := ?_) rfl (by kernel_rfl) (by kernel_rfl) (by kernel_rfl) (fun _ _ _ h => h) (Or.inl ⟨by rfl, ?_⟩) (by assumption) ?_
        rotate_left
        · intro w9 hSw
          go_simp
          first | done | with_reducible rfl
        simp only [Act.put, List.setIfInBounds_toArray, List.set_cons_zero, List.set_cons_succ]
        refine take' 4 (v := ?_) rfl (by kernel_rfl) (by kernel_rfl) (by kernel_rfl) (fun _ _ _ h => h) (Or.inl ⟨by rfl, ?_⟩) (by assumption) ?_
        rotate_left
        · intro w9 hSw
          go_simp
          first | done | with_reducible rfl
        simp only [Act.put, List.setIfInBounds_toArray, List.set_cons_zero, List.set_cons_succ]
        refine take' 5 (v := ?_) rfl (by kernel_rfl) (by kernel_rfl) (by kernel_rfl) (fun _ _ _ h => h) (Or.inl ⟨by rfl, ?_⟩) (by assumption) ?_
        rotate_left
        · intro w9 hSw
          go_simp
          first | done | with_reducible rfl
        simp only [Act.put, List.setIfInBounds_toArray, List.set_cons_zero, List.set_cons_succ]
        refine wpAnyH_ready (rs := [0]) (by kernel_rfl) (by simp) ?_
        refine cons' rfl (fun KK hKK => ?_)
        go_simp
        refine hKK.out _ _ hHeld ?_
        clear hHeld
        intro hHeld
        clear hKK KK
        try simp only [Act.put, List.setIfInBounds_toArray, List.set_cons_zero, List.set_cons_succ]
        refine wpAnyH_ready (rs := [6]) (by kernel_rfl) (by simp) ?_
        refine cons' rfl (fun KK hKK => ?_)
        have hsA := hB.size
        go_simp
        refine (GA.out _ hS hT k3 k4).mono ?_
        rintro e w2 ⟨x1, x2, rfl, n1, n2⟩
        have b2 := n1.below
        replace hB := hB.trans (b2.mono hB.size)
        replace k3 := k3.later b2
        replace k4 := k4.later b2
        replace hS := hS.later b2
        replace hT := hT.later b2
        replace hr := hr.later b2
        replace s0 := below_cell b2 s0
        replace s1 := below_cell b2 s1
        replace s2 := below_cell b2 s2
        replace sR := below_row b2 sR
        replace hHeld := (⟨below_cell b2 hHeld.1, below_cell b2 hHeld.2.1, below_cell b2 hHeld.2.2⟩ : _ ∧ _ ∧ _)
        go_wp2_with fail
        refine hKK.out _ _ hHeld ?_
        clear hHeld
        intro hHeld
        clear hKK KK
        try simp only [Act.put, List.setIfInBounds_toArray, List.set_cons_zero, List.set_cons_succ]
        refine wpAnyH_ready (rs := [7]) (by kernel_rfl) (by simp) ?_
        refine cons' rfl (fun KK hKK => ?_)
        have fz := fun o => sR.frozen o
        have vS : Thr w2 c (.bool (ng sk.num)) (.slice p (ln (am sk.num)) (ln (am sk.num))) (.slice p' (ln sk.den) (ln sk.den)) := ⟨⟨s0, s1, s2⟩, sR⟩
        have I1 : CInv w w.heap.size c sn (set3 w2 c (.bool (ng sn.num)) (.slice x1 (ln (am sn.num)) (ln (am sn.num))) (.slice x2 (ln sn.den) (ln sn.den))) := ⟨x1, x2, vS.put, hr.far (by omega), vS.seg (by simp) (by simp) (by simp) n1.seg, vS.seg (by simp) (by simp) (by simp) n2.seg, n1.fr.mono hsA, n2.fr.mono hsA, below_set3 hB (by omega)⟩
        replace I1 := hide' I1
        go_simp
        refine hKK.out _ _ ⟨by rw [set3_far (by omega)]; exact hHeld.1, by rw [set3_far (by omega)]; exact hHeld.2.1, by rw [set3_far (by omega)]; exact hHeld.2.2⟩ ?_
        clear hHeld
        intro hHeld
        clear hKK KK
        try simp only [Act.put, List.setIfInBounds_toArray, List.set_cons_zero, List.set_cons_succ]
        refine wpAnyH_done (by kernel_rfl) ?_ _
        go_wp2
        go_roundw
        case rel => exact ⟨k + 1, by omega, by go_num, by rw [hfo]; exact I1.out⟩
        case measure => simp [intOf]; omega
      · rw [if_neg hyx, Rat.add_zero] at hfo
        have I1 : CInv w w.heap.size c sk wr := ⟨p, p', s, hr, hS, hT, f1, f2, hB⟩
        replace I1 := hide' I1
        have hb1 : (y == x) = false := by simp [hyx]
        go_wp2
        go_roundw
        case rel => exact ⟨k + 1, by omega, by go_num, by rw [hfo]; exact I1.out⟩
        case measure => simp [intOf]; omega
    · obtain rfl : k = L.length := by omega
      have i1 : ¬ (L.length : Int) < (L.length : Int) := by omega
      rw [List.take_length] at s hS hT f1 f2
      rw [hTT.out] at s hS hT f1 f2
      generalize TT = sk at *
      obtain ⟨⟨s0, s1, s2⟩, sR⟩ := s
      obtain ⟨⟨r0, r1, r2⟩, rR⟩ := id hr
      have fz0 := fun o => rR.frozen o
      go_wp2
      all_goals refine bodyPost_ret (v := Value.agg #[Value.bool (ng sk.num), Value.slice p (ln (am sk.num)) (ln (am sk.num)), Value.slice p' (ln sk.den) (ln sk.den)]) (by rw [results_cell rfl]; go_simp) rfl ?_
      all_goals exact ⟨p, p', rfl, below_set3 hB (Nat.le_refl _), hr.seg (by simp) (by simp) (by simp) hS, hr.seg (by simp) (by simp) (by simp) hT, f1, f2⟩
end Go.Proofs.YtkflbhkcofmaoaaGreat

namespace Go.Proofs.YtkflbhkcofmaoaaGreat
open Go.RowKit
set_option linter.unusedVariables false
set_option linter.unusedSimpArgs false

/-- numbers in a row -/
def iv (zs : List Int) : List Value := zs.map (Value.int .i64)
theorem iv_append (zs ys : List Int) : iv (zs ++ ys) = iv zs ++ iv ys := List.map_append
theorem iv_at {zs : List Int} {i : Nat} {z : Int} (h : zs[i]? = some z) : (iv zs)[i]? = some (.int .i64 z) := by unfold iv; rw [List.getElem?_map, h]; rfl
theorem iv_set (zs : List Int) (i : Nat) (z : Int) : (iv zs).set i (.int .i64 z) = iv (zs.set i z) := by unfold iv; rw [List.map_set]
def IAt (W : World) (a : Option Addr) (zs : List Int) : Prop :=
  zs ≠ [] → ∃ b off, a = some ⟨b, off, none⟩ ∧ b < W.heap.size ∧ ∀ i z, zs[i]? = some z → W.cell? ⟨b, off + i, none⟩ = some (.int .i64 z)
theorem IAt.later {w w' : World} {a : Option Addr} {zs : List Int} (h : IAt w a zs) (hb : Below w.heap.size w w') : IAt w' a zs := fun hn => by
  obtain ⟨b, off, e, hl, hc⟩ := h hn
  exact ⟨b, off, e, Nat.lt_of_lt_of_le hl hb.size, fun i z hi => below_cell hb (hc i z hi)⟩
/-- a row of the call's own is a list of numbers -/
theorem own_ints {w : World} {base : Nat} {e : TypeId} {v : Value} {zs : List Int} (h : w.ownsRow base e 1 v zs.length (iv zs)) : ∃ a cap, v = .slice a zs.length cap ∧ zs.length ≤ cap ∧ IAt w a zs := by
  rcases h.2 with ⟨rfl, h0⟩ | ⟨g, cap, cur, rfl, hb, hg, hc, hm, _, _⟩
  · exact ⟨none, 0, by rw [h0], by omega, fun hn => absurd (List.eq_nil_of_length_eq_zero h0) hn⟩
  · refine ⟨_, cap, rfl, hc, fun hn => ⟨g, 0, rfl, (Array.getElem?_eq_some_iff.1 hg).1, fun i z hi => ?_⟩⟩
    have hil := (List.getElem?_eq_some_iff.1 hi).1
    have k1 := h.cellAt i (by omega)
    rw [iv_at hi] at k1
    rw [Nat.zero_add]
    exact k1

/-- the numbers so far, rising, each once -/
structure Srt (ys zs : List Int) : Prop where
  up : ys.Pairwise (· < ·)
  mem : ∀ z, z ∈ ys ↔ z ∈ zs
  len : ys.length ≤ zs.length
theorem Srt.same {ys zs : List Int} {x : Int} {j : Nat} (h : Srt ys zs) (hj : ys[j]? = some x) : Srt ys (zs ++ [x]) :=
  ⟨h.up, fun z => by
    rw [List.mem_append, List.mem_singleton, ← h.mem z]
    constructor
    · exact Or.inl
    · rintro (h1 | rfl)
      · exact h1
      · exact List.mem_of_getElem? hj, by have := h.len; rw [List.length_append]; omega⟩
theorem Srt.put {ys zs : List Int} {x : Int} {j : Nat} (h : Srt ys zs) (hj : j ≤ ys.length) (h1 : ∀ i y, i < j → ys[i]? = some y → y < x) (h2 : ∀ y, ys[j]? = some y → x < y) : Srt (ys.take j ++ x :: ys.drop j) (zs ++ [x]) := by
  have hs := h.up
  rw [← List.take_append_drop j ys] at hs
  obtain ⟨u1, u2, u3⟩ := List.pairwise_append.1 hs
  have lo : ∀ y ∈ ys.take j, y < x := fun y hy => by
    obtain ⟨i, hi⟩ := List.getElem?_of_mem hy
    rw [List.getElem?_take] at hi
    split at hi
    · exact h1 i y (by assumption) hi
    · cases hi
  have hi : ∀ y ∈ ys.drop j, x < y := by
    intro y hy
    cases hd : ys.drop j with
    | nil => rw [hd] at hy; simp at hy
    | cons y0 t =>
      have e0 : ys[j]? = some y0 := by
        have : (ys.drop j)[0]? = some y0 := by rw [hd]; rfl
        rwa [List.getElem?_drop, Nat.add_zero] at this
      have h0 := h2 y0 e0
      rw [hd] at hy u2
      rcases List.mem_cons.1 hy with rfl | hy
      · exact h0
      · have := (List.pairwise_cons.1 u2).1 y hy
        omega
  refine ⟨List.pairwise_append.2 ⟨u1, List.pairwise_cons.2 ⟨hi, u2⟩, fun a ha b hb => ?_⟩, fun z => ?_, ?_⟩
  · rcases List.mem_cons.1 hb with rfl | hb
    · exact lo a ha
    · exact u3 a ha b hb
  · rw [List.mem_append, List.mem_cons, List.mem_append, List.mem_singleton, ← h.mem z]
    have := List.take_append_drop j ys
    constructor
    · rintro (h3 | h3 | h3)
      · exact Or.inl (List.mem_of_mem_take h3)
      · exact Or.inr h3
      · exact Or.inl (List.mem_of_mem_drop h3)
    · rintro (h3 | h3)
      · rw [← this, List.mem_append] at h3
        rcases h3 with h3 | h3
        · exact Or.inl h3
        · exact Or.inr (Or.inr h3)
      · exact Or.inr (Or.inl h3)
  · have := h.len
    simp only [List.length_append, List.length_take, List.length_cons, List.length_drop, List.length_nil]
    omega

/-- what is moved up so far -/
def shf (ys : List Int) (m : Nat) : List Int := (ys ++ [0]).take (m + 1) ++ ys.drop m
theorem shf_length {ys : List Int} {m : Nat} (h : m ≤ ys.length) : (shf ys m).length = ys.length + 1 := by
  unfold shf
  simp only [List.length_append, List.length_take, List.length_drop, List.length_cons, List.length_nil]
  omega
theorem shf_top (ys : List Int) : shf ys ys.length = ys ++ [0] := by
  unfold shf
  rw [List.drop_length, List.append_nil, List.take_of_length_le (by simp)]
theorem shf_at {ys : List Int} {m : Nat} (h : m < ys.length) : (shf ys (m + 1))[m]? = ys[m]? := by
  unfold shf
  rw [List.getElem?_append_left (by simp only [List.length_take, List.length_append, List.length_cons, List.length_nil]; omega), List.getElem?_take, if_pos (by omega), List.getElem?_append_left h]
theorem shf_step {ys : List Int} {m : Nat} {z : Int} (h : m < ys.length) (hz : ys[m]? = some z) : (shf ys (m + 1)).set (m + 1) z = shf ys m := by
  refine List.ext_getElem? fun i => ?_
  rw [List.getElem?_set]
  have e1 : (shf ys (m + 1)).length = ys.length + 1 := shf_length (by omega)
  split
  · rename_i hi
    subst hi
    rw [if_pos (by omega)]
    unfold shf
    rw [List.getElem?_append_right (by simp only [List.length_take, List.length_append, List.length_cons, List.length_nil]; omega), List.getElem?_drop]
    rw [← hz]
    congr 1
    simp only [List.length_take, List.length_append, List.length_cons, List.length_nil]
    omega
  · rename_i hi
    unfold shf
    rcases Nat.lt_or_ge i (m + 1) with h1 | h1
    · rw [List.getElem?_append_left (by simp only [List.length_take, List.length_append, List.length_cons, List.length_nil]; omega), List.getElem?_append_left (by simp only [List.length_take, List.length_append, List.length_cons, List.length_nil]; omega), List.getElem?_take, List.getElem?_take, if_pos (by omega), if_pos (by omega)]
    · rw [List.getElem?_append_right (by simp only [List.length_take, List.length_append, List.length_cons, List.length_nil]; omega), List.getElem?_append_right (by simp only [List.length_take, List.length_append, List.length_cons, List.length_nil]; omega), List.getElem?_drop, List.getElem?_drop]
      congr 1
      simp only [List.length_take, List.length_append, List.length_cons, List.length_nil]
      omega
theorem shf_put {ys : List Int} {j : Nat} {x : Int} (h : j ≤ ys.length) : (shf ys j).set j x = ys.take j ++ x :: ys.drop j := by
  have e : (ys ++ [0]).take (j + 1) = ys.take j ++ ((ys ++ [0])[j]?).toList := by
    rw [List.take_add_one, List.take_append_of_le_length h]
  obtain ⟨z, hz⟩ : ∃ z, (ys ++ [0])[j]? = some z := ⟨_, List.getElem?_eq_getElem (by rw [List.length_append]; simp; omega)⟩
  unfold shf
  rw [e, hz]
  simp only [Option.toList]
  rw [List.append_assoc, List.set_append, if_neg (by rw [List.length_take]; omega)]
  rw [show j - (ys.take j).length = 0 by rw [List.length_take]; omega]
  rfl
end Go.Proofs.YtkflbhkcofmaoaaGreat

namespace Go.Proofs.YtkflbhkcofmaoaaGreat
open Go.RowKit
set_option linter.unusedVariables false
set_option linter.unusedSimpArgs false

theorem info_int : (Tryz.prog.info? 3).map (fun i => (i.zero, i.size, i.bytes)) = some (some (.int .i64 0), 1, 8) := by kernel_rfl
/-- what the outer loop keeps -/
def SInv (w : World) (zs : List Int) (k : Nat) (vo : Value) (wr : World) : Prop :=
  ∃ ys : List Int, wr.ownsRow w.heap.size 3 1 vo ys.length (iv ys) ∧ Below w.heap.size w wr ∧ Srt ys (zs.take k)
/-- an answer that is the numbers, rising, each once -/
def SAns (w : World) (zs : List Int) (e : Ending) (w' : World) : Prop := ∃ vo, e = .returned vo ∧ SInv w zs zs.length vo w'
theorem own_at {w : World} {base : Nat} {e : TypeId} {v : Value} {ys : List Int} (h : w.ownsRow base e 1 v ys.length (iv ys)) {j : Nat} {y : Int} (hj : ys[j]? = some y) : ∃ g cap, v = .slice (some ⟨g, 0, none⟩) ys.length cap ∧ ys.length ≤ cap ∧ base ≤ g ∧ g < w.heap.size ∧ w.cell? ⟨g, j, none⟩ = some (.int .i64 y) := by
  have hl := (List.getElem?_eq_some_iff.1 hj).1
  rcases h.2 with ⟨rfl, h0⟩ | ⟨g, cap, cur, rfl, hb, hg, hc, hm, _, _⟩
  · omega
  · refine ⟨g, cap, rfl, hc, hb, (Array.getElem?_eq_some_iff.1 hg).1, ?_⟩
    have k1 := h.cellAt j (by omega)
    rw [iv_at hj] at k1
    exact k1

set_option maxHeartbeats 8000000 in
set_option maxRecDepth 100000 in
theorem vsorted_is (a : Option Addr) (cap0 : Nat) (zs : List Int) (w : World) (hF : IAt w a zs) (hc : zs.length ≤ cap0) (hm : zs.length ≤ 2097152) :
    Calls Tryz.prog 97 #[.slice a zs.length cap0] w (SAns w zs) := by
  obtain ⟨i0, hi0, hz0, hz1, hz2⟩ := info_parts info_int
  go_enter Tryz.func97, Tryz.ntmps97
  go_wp2_with fail
  go_loopw [3, 4] (fun vo vi wr => ∃ k : Nat, k ≤ zs.length ∧ vi = .int .i64 k ∧ SInv w zs k vo wr) (fun _ vi _ => zs.length - (intOf vi).toNat)
  case atStart => exact ⟨0, Nat.zero_le _, rfl, [], World.ownsRow_nil _ _ _ _, Below.refl _ _, List.Pairwise.nil, fun z => by simp, Nat.le_refl _⟩
  case round =>
    obtain ⟨k, hk, rfl, ys, hO, hB, hY⟩ := hrel
    by_cases hlt : k < zs.length
    · obtain ⟨x, hx⟩ : ∃ x, zs[k]? = some x := ⟨zs[k], List.getElem?_eq_getElem hlt⟩
      obtain ⟨b, off, rfl, hb, hcell⟩ := hF (by intro e; rw [e] at hlt; simp at hlt)
      have hcx := hcell k x hx
      obtain ⟨t1, t2⟩ := take_split hx
      clear t2 hx hcell
      have hyl : ys.length ≤ k := by have := hY.len; rw [List.length_take] at this; omega
      have i0' : (0 : Int) ≤ (k : Int) := by omega
      have i1 : (k : Int) < (zs.length : Int) := by omega
      obtain ⟨n, hn⟩ : ∃ n, ys.length = n := ⟨_, rfl⟩
      have hvs : ∃ ao co, u3 = .slice ao n co := by
        obtain ⟨ao, co, e, _, _⟩ := own_ints hO
        exact ⟨ao, co, by rw [e, hn]⟩
      obtain ⟨ao, co, rfl⟩ := hvs
      have l0 : (0 : Int) ≤ (n : Int) := by omega
      have hnk : n ≤ 2097152 := by omega
      rw [hn] at hO
      have HY := hide' (And.intro hn (And.intro hY (And.intro t1 hyl)))
      clear hn hY t1 hyl
      go_wp2_with fail
      go_loopw [5] (fun vi wr => ∃ j : Nat, j ≤ n ∧ vi = .int .i64 j ∧ wr.ownsRow w.heap.size 3 1 (.slice ao n co) n (iv ys) ∧ Below w.heap.size w wr ∧ ∀ i y, i < j → ys[i]? = some y → y < x) (fun vi _ => n - (intOf vi).toNat)
      case atStart => exact ⟨0, Nat.zero_le _, rfl, hO, hB, fun i y hi => absurd hi (by omega)⟩
      case round =>
        clear hO hB
        obtain ⟨j, hj, rfl, hO, hB, hlo⟩ := hrel
        have j0 : (0 : Int) ≤ (j : Int) := by omega
        have c0 := below_cell hB hcx
        by_cases hjn : j < n
        · obtain ⟨y, hy⟩ : ∃ y, ys[j]? = some y := ⟨ys[j]'(by have := HY.out.1; omega), List.getElem?_eq_getElem _⟩
          obtain ⟨g, cp, hv, hcp, hbg, hgl, cy⟩ := own_at (ys := ys) (by rw [HY.out.1]; exact hO) hy
          rw [HY.out.1] at hv
          simp only [Value.slice.injEq, true_and] at hv
          obtain ⟨rfl, rfl⟩ := hv
          have j1 : (j : Int) < (n : Int) := by omega
          by_cases hyx : y < x
          · go_wp2_with fail
            have bD : Below wr.heap.size wr wr.drew := (Below.refl _ _).drew
            have kcy := below_cell bD cy
            have kc0 := below_cell bD c0
            replace hB := hB.trans (bD.mono hB.size)
            refine wp_region_held_drew (S := fun w' => w'.cell? ⟨g, j, none⟩ = some (.int .i64 y) ∧ w'.cell? ⟨b, off + k, none⟩ = some (.int .i64 x)) (by kernel_rfl) ⟨kcy, kc0⟩ (fun hHeld => ?_)
            clear kcy kc0
            generalize wr.drew = w5 at bD hB hHeld ⊢
            replace hO := own_below hO bD
            replace c0 := below_cell bD c0
            replace cy := below_cell bD cy
            refine take' 0 (v := ?_) rfl (by kernel_rfl) (by kernel_rfl) (by kernel_rfl) (fun _ _ _ h => h) (Or.inl ⟨by rfl, ?_⟩) (by assumption) ?_
            rotate_left
            · intro w9 hSw
              go_simp
              first | done | with_reducible rfl
            simp only [Act.put, List.setIfInBounds_toArray, List.set_cons_zero, List.set_cons_succ]
            refine take' 1 (v := ?_) rfl (by kernel_rfl) (by kernel_rfl) (by kernel_rfl) (fun _ _ _ h => h) (Or.inl ⟨by rfl, ?_⟩) (by assumption) ?_
            rotate_left
            · intro w9 hSw
              go_simp
              first | done | with_reducible rfl
            simp only [Act.put, List.setIfInBounds_toArray, List.set_cons_zero, List.set_cons_succ]
            refine take' 2 (v := ?_) rfl (by kernel_rfl) (by kernel_rfl) (by kernel_rfl) (fun _ _ _ h => h) (Or.inl ⟨by rfl, ?_⟩) (by assumption) ?_
            rotate_left
            · intro w9 hSw
              go_simp
              first | done | with_reducible rfl
            simp only [Act.put, List.setIfInBounds_toArray, List.set_cons_zero, List.set_cons_succ]
            refine take' 3 (v := ?_) rfl (by kernel_rfl) (by kernel_rfl) (by kernel_rfl) (fun _ _ _ h => h) (Or.inl ⟨by rfl, ?_⟩) (by assumption) ?_
            rotate_left
            · intro w9 hSw
              go_simp
              first | done | with_reducible rfl
            simp only [Act.put, List.setIfInBounds_toArray, List.set_cons_zero, List.set_cons_succ]
            try simp only [hjn, decide_true, decide_false, gt_iff_lt, ge_iff_le]
            refine take' 4 (v := ?_) rfl (by kernel_rfl) (by kernel_rfl) (by kernel_rfl) (fun _ _ _ h => h) (Or.inl ⟨by rfl, ?_⟩) (by assumption) ?_
            rotate_left
            · intro w9 hSw
              go_simp
              first | done | with_reducible rfl
            simp only [Act.put, List.setIfInBounds_toArray, List.set_cons_zero, List.set_cons_succ]
            refine take' 5 (v := ?_) rfl (by kernel_rfl) (by kernel_rfl) (by kernel_rfl) (fun _ _ _ h => h) (Or.inl ⟨by rfl, ?_⟩) (by assumption) ?_
            rotate_left
            · intro w9 hSw
              go_simp
              first | done | with_reducible rfl
            simp only [Act.put, List.setIfInBounds_toArray, List.set_cons_zero, List.set_cons_succ]
            refine take' 6 (v := ?_) rfl (by kernel_rfl) (by kernel_rfl) (by kernel_rfl) (fun _ _ _ h => h) (Or.inl ⟨by rfl, ?_⟩) (by assumption) ?_
            rotate_left
            · intro w9 hSw
              go_simp
              first | done | with_reducible rfl
            simp only [Act.put, List.setIfInBounds_toArray, List.set_cons_zero, List.set_cons_succ]
            refine take' 7 (v := ?_) rfl (by kernel_rfl) (by kernel_rfl) (by kernel_rfl) (fun _ _ _ h => h) (Or.inl ⟨by rfl, ?_⟩) (by assumption) ?_
            rotate_left
            · intro w9 hSw
              go_simp
              first | done | with_reducible rfl
            simp only [Act.put, List.setIfInBounds_toArray, List.set_cons_zero, List.set_cons_succ]
            refine take' 8 (v := ?_) rfl (by kernel_rfl) (by kernel_rfl) (by kernel_rfl) (fun _ _ _ h => h) (Or.inl ⟨by rfl, ?_⟩) (by assumption) ?_
            rotate_left
            · intro w9 hSw
              go_simp
              first | done | with_reducible rfl
            simp only [Act.put, List.setIfInBounds_toArray, List.set_cons_zero, List.set_cons_succ]
            refine take' 9 (v := ?_) rfl (by kernel_rfl) (by kernel_rfl) (by kernel_rfl) (fun _ _ _ h => h) (Or.inl ⟨by rfl, ?_⟩) (by assumption) ?_
            rotate_left
            · intro w9 hSw
              go_simp
              first | done | with_reducible rfl
            simp only [Act.put, List.setIfInBounds_toArray, List.set_cons_zero, List.set_cons_succ]
            refine take' 10 (v := ?_) rfl (by kernel_rfl) (by kernel_rfl) (by kernel_rfl) (fun _ _ _ h => h) (Or.inl ⟨by rfl, ?_⟩) (by assumption) ?_
            rotate_left
            · intro w9 hSw
              go_simp
              first | done | with_reducible rfl
            simp only [Act.put, List.setIfInBounds_toArray, List.set_cons_zero, List.set_cons_succ]
            refine take' 11 (v := ?_) rfl (by kernel_rfl) (by kernel_rfl) (by kernel_rfl) (fun _ _ _ h => h) (Or.inl ⟨by rfl, ?_⟩) (by assumption) ?_
            rotate_left
            · intro w9 hSw
              go_simp
              first | done | with_reducible rfl
            simp only [Act.put, List.setIfInBounds_toArray, List.set_cons_zero, List.set_cons_succ]
            refine take' 12 (v := ?_) rfl (by kernel_rfl) (by kernel_rfl) (by kernel_rfl) (fun _ _ _ h => h) (Or.inl ⟨by rfl, ?_⟩) (by assumption) ?_
            rotate_left
            · intro w9 hSw
              go_simp
              first | done | with_reducible rfl
            simp only [Act.put, List.setIfInBounds_toArray, List.set_cons_zero, List.set_cons_succ]
            refine take' 13 (v := ?_) rfl (by kernel_rfl) (by kernel_rfl) (by kernel_rfl) (fun _ _ _ h => h) (Or.inl ⟨by rfl, ?_⟩) (by assumption) ?_
            rotate_left
            · intro w9 hSw
              go_simp
              first | done | with_reducible rfl
            simp only [Act.put, List.setIfInBounds_toArray, List.set_cons_zero, List.set_cons_succ]
            try simp only [hyx, decide_true, decide_false, gt_iff_lt, ge_iff_le]
            refine take' 14 (v := ?_) rfl (by kernel_rfl) (by kernel_rfl) (by kernel_rfl) (fun _ _ _ h => h) (Or.inl ⟨by rfl, ?_⟩) (by assumption) ?_
            rotate_left
            · intro w9 hSw
              go_simp
              first | done | with_reducible rfl
            simp only [Act.put, List.setIfInBounds_toArray, List.set_cons_zero, List.set_cons_succ]
            refine wpAnyH_done (by kernel_rfl) ?_ _
            clear hHeld bD
            go_wp2
            go_roundw
            case rel => exact ⟨j + 1, by omega, by go_num, hO, hB, fun i z hi hz => by
              rcases Nat.lt_or_ge i j with h1 | h1
              · exact hlo i z h1 hz
              · obtain rfl : i = j := by omega
                rw [hy] at hz; obtain rfl := Option.some.inj hz; exact hyx⟩
            case measure => simp [intOf]; omega
          · have hyx2 : ¬ (y : Int) < x := hyx
            by_cases hye : y = x
            · have hyb : (y == x) = true := by simp [hye]
              go_wp2_with fail
              have bD : Below wr.heap.size wr wr.drew := (Below.refl _ _).drew
              have kcy := below_cell bD cy
              have kc0 := below_cell bD c0
              replace hB := hB.trans (bD.mono hB.size)
              refine wp_region_held_drew (S := fun w' => w'.cell? ⟨g, j, none⟩ = some (.int .i64 y) ∧ w'.cell? ⟨b, off + k, none⟩ = some (.int .i64 x)) (by kernel_rfl) ⟨kcy, kc0⟩ (fun hHeld => ?_)
              clear kcy kc0
              generalize wr.drew = w5 at bD hB hHeld ⊢
              replace hO := own_below hO bD
              replace c0 := below_cell bD c0
              replace cy := below_cell bD cy
              refine take' 0 (v := ?_) rfl (by kernel_rfl) (by kernel_rfl) (by kernel_rfl) (fun _ _ _ h => h) (Or.inl ⟨by rfl, ?_⟩) (by assumption) ?_
              rotate_left
              · intro w9 hSw
                go_simp
                first | done | with_reducible rfl
              simp only [Act.put, List.setIfInBounds_toArray, List.set_cons_zero, List.set_cons_succ]
              refine take' 1 (v := ?_) rfl (by kernel_rfl) (by kernel_rfl) (by kernel_rfl) (fun _ _ _ h => h) (Or.inl ⟨by rfl, ?_⟩) (by assumption) ?_
              rotate_left
              · intro w9 hSw
                go_simp
                first | done | with_reducible rfl
              simp only [Act.put, List.setIfInBounds_toArray, List.set_cons_zero, List.set_cons_succ]
              refine take' 2 (v := ?_) rfl (by kernel_rfl) (by kernel_rfl) (by kernel_rfl) (fun _ _ _ h => h) (Or.inl ⟨by rfl, ?_⟩) (by assumption) ?_
              rotate_left
              · intro w9 hSw
                go_simp
                first | done | with_reducible rfl
              simp only [Act.put, List.setIfInBounds_toArray, List.set_cons_zero, List.set_cons_succ]
              refine take' 3 (v := ?_) rfl (by kernel_rfl) (by kernel_rfl) (by kernel_rfl) (fun _ _ _ h => h) (Or.inl ⟨by rfl, ?_⟩) (by assumption) ?_
              rotate_left
              · intro w9 hSw
                go_simp
                first | done | with_reducible rfl
              simp only [Act.put, List.setIfInBounds_toArray, List.set_cons_zero, List.set_cons_succ]
              try simp only [hjn, decide_true, decide_false, gt_iff_lt, ge_iff_le]
              refine take' 4 (v := ?_) rfl (by kernel_rfl) (by kernel_rfl) (by kernel_rfl) (fun _ _ _ h => h) (Or.inl ⟨by rfl, ?_⟩) (by assumption) ?_
              rotate_left
              · intro w9 hSw
                go_simp
                first | done | with_reducible rfl
              simp only [Act.put, List.setIfInBounds_toArray, List.set_cons_zero, List.set_cons_succ]
              refine take' 5 (v := ?_) rfl (by kernel_rfl) (by kernel_rfl) (by kernel_rfl) (fun _ _ _ h => h) (Or.inl ⟨by rfl, ?_⟩) (by assumption) ?_
              rotate_left
              · intro w9 hSw
                go_simp
                first | done | with_reducible rfl
              simp only [Act.put, List.setIfInBounds_toArray, List.set_cons_zero, List.set_cons_succ]
              refine take' 6 (v := ?_) rfl (by kernel_rfl) (by kernel_rfl) (by kernel_rfl) (fun _ _ _ h => h) (Or.inl ⟨by rfl, ?_⟩) (by assumption) ?_
              rotate_left
              · intro w9 hSw
                go_simp
                first | done | with_reducible rfl
              simp only [Act.put, List.setIfInBounds_toArray, List.set_cons_zero, List.set_cons_succ]
              refine take' 7 (v := ?_) rfl (by kernel_rfl) (by kernel_rfl) (by kernel_rfl) (fun _ _ _ h => h) (Or.inl ⟨by rfl, ?_⟩) (by assumption) ?_
              rotate_left
              · intro w9 hSw
                go_simp
                first | done | with_reducible rfl
              simp only [Act.put, List.setIfInBounds_toArray, List.set_cons_zero, List.set_cons_succ]
              refine take' 8 (v := ?_) rfl (by kernel_rfl) (by kernel_rfl) (by kernel_rfl) (fun _ _ _ h => h) (Or.inl ⟨by rfl, ?_⟩) (by assumption) ?_
              rotate_left
              · intro w9 hSw
                go_simp
                first | done | with_reducible rfl
              simp only [Act.put, List.setIfInBounds_toArray, List.set_cons_zero, List.set_cons_succ]
              refine take' 9 (v := ?_) rfl (by kernel_rfl) (by kernel_rfl) (by kernel_rfl) (fun _ _ _ h => h) (Or.inl ⟨by rfl, ?_⟩) (by assumption) ?_
              rotate_left
              · intro w9 hSw
                go_simp
                first | done | with_reducible rfl
              simp only [Act.put, List.setIfInBounds_toArray, List.set_cons_zero, List.set_cons_succ]
              refine take' 10 (v := ?_) rfl (by kernel_rfl) (by kernel_rfl) (by kernel_rfl) (fun _ _ _ h => h) (Or.inl ⟨by rfl, ?_⟩) (by assumption) ?_
              rotate_left
              · intro w9 hSw
                go_simp
                first | done | with_reducible rfl
              simp only [Act.put, List.setIfInBounds_toArray, List.set_cons_zero, List.set_cons_succ]
              refine take' 11 (v := ?_) rfl (by kernel_rfl) (by kernel_rfl) (by kernel_rfl) (fun _ _ _ h => h) (Or.inl ⟨by rfl, ?_⟩) (by assumption) ?_
              rotate_left
              · intro w9 hSw
                go_simp
                first | done | with_reducible rfl
              simp only [Act.put, List.setIfInBounds_toArray, List.set_cons_zero, List.set_cons_succ]
              refine take' 12 (v := ?_) rfl (by kernel_rfl) (by kernel_rfl) (by kernel_rfl) (fun _ _ _ h => h) (Or.inl ⟨by rfl, ?_⟩) (by assumption) ?_
              rotate_left
              · intro w9 hSw
                go_simp
                first | done | with_reducible rfl
              simp only [Act.put, List.setIfInBounds_toArray, List.set_cons_zero, List.set_cons_succ]
              refine take' 13 (v := ?_) rfl (by kernel_rfl) (by kernel_rfl) (by kernel_rfl) (fun _ _ _ h => h) (Or.inl ⟨by rfl, ?_⟩) (by assumption) ?_
              rotate_left
              · intro w9 hSw
                go_simp
                first | done | with_reducible rfl
              simp only [Act.put, List.setIfInBounds_toArray, List.set_cons_zero, List.set_cons_succ]
              try simp only [hyx, decide_true, decide_false, gt_iff_lt, ge_iff_le]
              refine take' 14 (v := ?_) rfl (by kernel_rfl) (by kernel_rfl) (by kernel_rfl) (fun _ _ _ h => h) (Or.inl ⟨by rfl, ?_⟩) (by assumption) ?_
              rotate_left
              · intro w9 hSw
                go_simp
                first | done | with_reducible rfl
              simp only [Act.put, List.setIfInBounds_toArray, List.set_cons_zero, List.set_cons_succ]
              refine wpAnyH_done (by kernel_rfl) ?_ _
              clear hHeld bD
              go_wp2_with fail
              have bD : Below w5.heap.size w5 w5.drew := (Below.refl _ _).drew
              have kcy := below_cell bD cy
              have kc0 := below_cell bD c0
              replace hB := hB.trans (bD.mono hB.size)
              refine wp_region_held_drew (S := fun w' => w'.cell? ⟨g, j, none⟩ = some (.int .i64 y) ∧ w'.cell? ⟨b, off + k, none⟩ = some (.int .i64 x)) (by kernel_rfl) ⟨kcy, kc0⟩ (fun hHeld => ?_)
              clear kcy kc0
              generalize w5.drew = w6 at bD hB hHeld ⊢
              replace hO := own_below hO bD
              replace c0 := below_cell bD c0
              replace cy := below_cell bD cy
              refine take' 0 (v := ?_) rfl (by kernel_rfl) (by kernel_rfl) (by kernel_rfl) (fun _ _ _ h => h) (Or.inl ⟨by rfl, ?_⟩) (by assumption) ?_
              rotate_left
              · intro w9 hSw
                go_simp
                first | done | with_reducible rfl
              simp only [Act.put, List.setIfInBounds_toArray, List.set_cons_zero, List.set_cons_succ]
              refine take' 1 (v := ?_) rfl (by kernel_rfl) (by kernel_rfl) (by kernel_rfl) (fun _ _ _ h => h) (Or.inl ⟨by rfl, ?_⟩) (by assumption) ?_
              rotate_left
              · intro w9 hSw
                go_simp
                first | done | with_reducible rfl
              simp only [Act.put, List.setIfInBounds_toArray, List.set_cons_zero, List.set_cons_succ]
              refine take' 2 (v := ?_) rfl (by kernel_rfl) (by kernel_rfl) (by kernel_rfl) (fun _ _ _ h => h) (Or.inl ⟨by rfl, ?_⟩) (by assumption) ?_
              rotate_left
              · intro w9 hSw
                go_simp
                first | done | with_reducible rfl
              simp only [Act.put, List.setIfInBounds_toArray, List.set_cons_zero, List.set_cons_succ]
              refine take' 3 (v := ?_) rfl (by kernel_rfl) (by kernel_rfl) (by kernel_rfl) (fun _ _ _ h => h) (Or.inl ⟨by rfl, ?_⟩) (by assumption) ?_
              rotate_left
              · intro w9 hSw
                go_simp
                first | done | with_reducible rfl
              simp only [Act.put, List.setIfInBounds_toArray, List.set_cons_zero, List.set_cons_succ]
              try simp only [hjn, decide_true, decide_false, gt_iff_lt, ge_iff_le]
              refine take' 4 (v := ?_) rfl (by kernel_rfl) (by kernel_rfl) (by kernel_rfl) (fun _ _ _ h => h) (Or.inl ⟨by rfl, ?_⟩) (by assumption) ?_
              rotate_left
              · intro w9 hSw
                go_simp
                first | done | with_reducible rfl
              simp only [Act.put, List.setIfInBounds_toArray, List.set_cons_zero, List.set_cons_succ]
              refine take' 5 (v := ?_) rfl (by kernel_rfl) (by kernel_rfl) (by kernel_rfl) (fun _ _ _ h => h) (Or.inl ⟨by rfl, ?_⟩) (by assumption) ?_
              rotate_left
              · intro w9 hSw
                go_simp
                first | done | with_reducible rfl
              simp only [Act.put, List.setIfInBounds_toArray, List.set_cons_zero, List.set_cons_succ]
              refine take' 6 (v := ?_) rfl (by kernel_rfl) (by kernel_rfl) (by kernel_rfl) (fun _ _ _ h => h) (Or.inl ⟨by rfl, ?_⟩) (by assumption) ?_
              rotate_left
              · intro w9 hSw
                go_simp
                first | done | with_reducible rfl
              simp only [Act.put, List.setIfInBounds_toArray, List.set_cons_zero, List.set_cons_succ]
              refine take' 7 (v := ?_) rfl (by kernel_rfl) (by kernel_rfl) (by kernel_rfl) (fun _ _ _ h => h) (Or.inl ⟨by rfl, ?_⟩) (by assumption) ?_
              rotate_left
              · intro w9 hSw
                go_simp
                first | done | with_reducible rfl
              simp only [Act.put, List.setIfInBounds_toArray, List.set_cons_zero, List.set_cons_succ]
              refine take' 8 (v := ?_) rfl (by kernel_rfl) (by kernel_rfl) (by kernel_rfl) (fun _ _ _ h => h) (Or.inl ⟨by rfl, ?_⟩) (by assumption) ?_
              rotate_left
              · intro w9 hSw
                go_simp
                first | done | with_reducible rfl
              simp only [Act.put, List.setIfInBounds_toArray, List.set_cons_zero, List.set_cons_succ]
              refine take' 9 (v := ?_) rfl (by kernel_rfl) (by kernel_rfl) (by kernel_rfl) (fun _ _ _ h => h) (Or.inl ⟨by rfl, ?_⟩) (by assumption) ?_
              rotate_left
              · intro w9 hSw
                go_simp
                first | done | with_reducible rfl
              simp only [Act.put, List.setIfInBounds_toArray, List.set_cons_zero, List.set_cons_succ]
              refine take' 10 (v := ?_) rfl (by kernel_rfl) (by kernel_rfl) (by kernel_rfl) (fun _ _ _ h => h) (Or.inl ⟨by rfl, ?_⟩) (by assumption) ?_
              rotate_left
              · intro w9 hSw
                go_simp
                first | done | with_reducible rfl
              simp only [Act.put, List.setIfInBounds_toArray, List.set_cons_zero, List.set_cons_succ]
              refine take' 11 (v := ?_) rfl (by kernel_rfl) (by kernel_rfl) (by kernel_rfl) (fun _ _ _ h => h) (Or.inl ⟨by rfl, ?_⟩) (by assumption) ?_
              rotate_left
              · intro w9 hSw
                go_simp
                first | done | with_reducible rfl
              simp only [Act.put, List.setIfInBounds_toArray, List.set_cons_zero, List.set_cons_succ]
              refine take' 12 (v := ?_) rfl (by kernel_rfl) (by kernel_rfl) (by kernel_rfl) (fun _ _ _ h => h) (Or.inl ⟨by rfl, ?_⟩) (by assumption) ?_
              rotate_left
              · intro w9 hSw
                go_simp
                first | done | with_reducible rfl
              simp only [Act.put, List.setIfInBounds_toArray, List.set_cons_zero, List.set_cons_succ]
              refine take' 13 (v := ?_) rfl (by kernel_rfl) (by kernel_rfl) (by kernel_rfl) (fun _ _ _ h => h) (Or.inl ⟨by rfl, ?_⟩) (by assumption) ?_
              rotate_left
              · intro w9 hSw
                go_simp
                first | done | with_reducible rfl
              simp only [Act.put, List.setIfInBounds_toArray, List.set_cons_zero, List.set_cons_succ]
              try simp only [hyb, decide_true, decide_false, gt_iff_lt, ge_iff_le]
              refine take' 14 (v := ?_) rfl (by kernel_rfl) (by kernel_rfl) (by kernel_rfl) (fun _ _ _ h => h) (Or.inl ⟨by rfl, ?_⟩) (by assumption) ?_
              rotate_left
              · intro w9 hSw
                go_simp
                first | done | with_reducible rfl
              simp only [Act.put, List.setIfInBounds_toArray, List.set_cons_zero, List.set_cons_succ]
              refine wpAnyH_done (by kernel_rfl) ?_ _
              clear hHeld bD
              have I1 := hide' (show SInv w zs (k + 1) (.slice (some ⟨g, 0, none⟩) n co) w6 from ⟨ys, by rw [HY.out.1]; exact hO, hB, by rw [HY.out.2.2.1]; exact HY.out.2.1.same (by rw [← hye]; exact hy)⟩)
              go_wp2
              go_roundw
              case rel => exact ⟨k + 1, by omega, by go_num, I1.out⟩
              case measure => simp [intOf]; omega
            · have hyb : (y == x) = false := by simp [hye]
              have hhi : ∀ z, ys[j]? = some z → x < z := fun z hz => by rw [hy] at hz; obtain rfl := Option.some.inj hz; omega
              go_wp2_with fail
              have bD : Below wr.heap.size wr wr.drew := (Below.refl _ _).drew
              have kcy := below_cell bD cy
              have kc0 := below_cell bD c0
              replace hB := hB.trans (bD.mono hB.size)
              refine wp_region_held_drew (S := fun w' => w'.cell? ⟨g, j, none⟩ = some (.int .i64 y) ∧ w'.cell? ⟨b, off + k, none⟩ = some (.int .i64 x)) (by kernel_rfl) ⟨kcy, kc0⟩ (fun hHeld => ?_)
              clear kcy kc0
              generalize wr.drew = w5 at bD hB hHeld ⊢
              replace hO := own_below hO bD
              replace c0 := below_cell bD c0
              replace cy := below_cell bD cy
              refine take' 0 (v := ?_) rfl (by kernel_rfl) (by kernel_rfl) (by kernel_rfl) (fun _ _ _ h => h) (Or.inl ⟨by rfl, ?_⟩) (by assumption) ?_
              rotate_left
              · intro w9 hSw
                go_simp
                first | done | with_reducible rfl
              simp only [Act.put, List.setIfInBounds_toArray, List.set_cons_zero, List.set_cons_succ]
              refine take' 1 (v := ?_) rfl (by kernel_rfl) (by kernel_rfl) (by kernel_rfl) (fun _ _ _ h => h) (Or.inl ⟨by rfl, ?_⟩) (by assumption) ?_
              rotate_left
              · intro w9 hSw
                go_simp
                first | done | with_reducible rfl
              simp only [Act.put, List.setIfInBounds_toArray, List.set_cons_zero, List.set_cons_succ]
              refine take' 2 (v := ?_) rfl (by kernel_rfl) (by kernel_rfl) (by kernel_rfl) (fun _ _ _ h => h) (Or.inl ⟨by rfl, ?_⟩) (by assumption) ?_
              rotate_left
              · intro w9 hSw
                go_simp
                first | done | with_reducible rfl
              simp only [Act.put, List.setIfInBounds_toArray, List.set_cons_zero, List.set_cons_succ]
              refine take' 3 (v := ?_) rfl (by kernel_rfl) (by kernel_rfl) (by kernel_rfl) (fun _ _ _ h => h) (Or.inl ⟨by rfl, ?_⟩) (by assumption) ?_
              rotate_left
              · intro w9 hSw
                go_simp
                first | done | with_reducible rfl
              simp only [Act.put, List.setIfInBounds_toArray, List.set_cons_zero, List.set_cons_succ]
              try simp only [hjn, decide_true, decide_false, gt_iff_lt, ge_iff_le]
              refine take' 4 (v := ?_) rfl (by kernel_rfl) (by kernel_rfl) (by kernel_rfl) (fun _ _ _ h => h) (Or.inl ⟨by rfl, ?_⟩) (by assumption) ?_
              rotate_left
              · intro w9 hSw
                go_simp
                first | done | with_reducible rfl
              simp only [Act.put, List.setIfInBounds_toArray, List.set_cons_zero, List.set_cons_succ]
              refine take' 5 (v := ?_) rfl (by kernel_rfl) (by kernel_rfl) (by kernel_rfl) (fun _ _ _ h => h) (Or.inl ⟨by rfl, ?_⟩) (by assumption) ?_
              rotate_left
              · intro w9 hSw
                go_simp
                first | done | with_reducible rfl
              simp only [Act.put, List.setIfInBounds_toArray, List.set_cons_zero, List.set_cons_succ]
              refine take' 6 (v := ?_) rfl (by kernel_rfl) (by kernel_rfl) (by kernel_rfl) (fun _ _ _ h => h) (Or.inl ⟨by rfl, ?_⟩) (by assumption) ?_
              rotate_left
              · intro w9 hSw
                go_simp
                first | done | with_reducible rfl
              simp only [Act.put, List.setIfInBounds_toArray, List.set_cons_zero, List.set_cons_succ]
              refine take' 7 (v := ?_) rfl (by kernel_rfl) (by kernel_rfl) (by kernel_rfl) (fun _ _ _ h => h) (Or.inl ⟨by rfl, ?_⟩) (by assumption) ?_
              rotate_left
              · intro w9 hSw
                go_simp
                first | done | with_reducible rfl
              simp only [Act.put, List.setIfInBounds_toArray, List.set_cons_zero, List.set_cons_succ]
              refine take' 8 (v := ?_) rfl (by kernel_rfl) (by kernel_rfl) (by kernel_rfl) (fun _ _ _ h => h) (Or.inl ⟨by rfl, ?_⟩) (by assumption) ?_
              rotate_left
              · intro w9 hSw
                go_simp
                first | done | with_reducible rfl
              simp only [Act.put, List.setIfInBounds_toArray, List.set_cons_zero, List.set_cons_succ]
              refine take' 9 (v := ?_) rfl (by kernel_rfl) (by kernel_rfl) (by kernel_rfl) (fun _ _ _ h => h) (Or.inl ⟨by rfl, ?_⟩) (by assumption) ?_
              rotate_left
              · intro w9 hSw
                go_simp
                first | done | with_reducible rfl
              simp only [Act.put, List.setIfInBounds_toArray, List.set_cons_zero, List.set_cons_succ]
              refine take' 10 (v := ?_) rfl (by kernel_rfl) (by kernel_rfl) (by kernel_rfl) (fun _ _ _ h => h) (Or.inl ⟨by rfl, ?_⟩) (by assumption) ?_
              rotate_left
              · intro w9 hSw
                go_simp
                first | done | with_reducible rfl
              simp only [Act.put, List.setIfInBounds_toArray, List.set_cons_zero, List.set_cons_succ]
              refine take' 11 (v := ?_) rfl (by kernel_rfl) (by kernel_rfl) (by kernel_rfl) (fun _ _ _ h => h) (Or.inl ⟨by rfl, ?_⟩) (by assumption) ?_
              rotate_left
              · intro w9 hSw
                go_simp
                first | done | with_reducible rfl
              simp only [Act.put, List.setIfInBounds_toArray, List.set_cons_zero, List.set_cons_succ]
              refine take' 12 (v := ?_) rfl (by kernel_rfl) (by kernel_rfl) (by kernel_rfl) (fun _ _ _ h => h) (Or.inl ⟨by rfl, ?_⟩) (by assumption) ?_
              rotate_left
              · intro w9 hSw
                go_simp
                first | done | with_reducible rfl
              simp only [Act.put, List.setIfInBounds_toArray, List.set_cons_zero, List.set_cons_succ]
              refine take' 13 (v := ?_) rfl (by kernel_rfl) (by kernel_rfl) (by kernel_rfl) (fun _ _ _ h => h) (Or.inl ⟨by rfl, ?_⟩) (by assumption) ?_
              rotate_left
              · intro w9 hSw
                go_simp
                first | done | with_reducible rfl
              simp only [Act.put, List.setIfInBounds_toArray, List.set_cons_zero, List.set_cons_succ]
              try simp only [hyx, decide_true, decide_false, gt_iff_lt, ge_iff_le]
              refine take' 14 (v := ?_) rfl (by kernel_rfl) (by kernel_rfl) (by kernel_rfl) (fun _ _ _ h => h) (Or.inl ⟨by rfl, ?_⟩) (by assumption) ?_
              rotate_left
              · intro w9 hSw
                go_simp
                first | done | with_reducible rfl
              simp only [Act.put, List.setIfInBounds_toArray, List.set_cons_zero, List.set_cons_succ]
              refine wpAnyH_done (by kernel_rfl) ?_ _
              clear hHeld bD
              go_wp2_with fail
              have bD : Below w5.heap.size w5 w5.drew := (Below.refl _ _).drew
              have kcy := below_cell bD cy
              have kc0 := below_cell bD c0
              replace hB := hB.trans (bD.mono hB.size)
              refine wp_region_held_drew (S := fun w' => w'.cell? ⟨g, j, none⟩ = some (.int .i64 y) ∧ w'.cell? ⟨b, off + k, none⟩ = some (.int .i64 x)) (by kernel_rfl) ⟨kcy, kc0⟩ (fun hHeld => ?_)
              clear kcy kc0
              generalize w5.drew = w6 at bD hB hHeld ⊢
              replace hO := own_below hO bD
              replace c0 := below_cell bD c0
              replace cy := below_cell bD cy
              refine take' 0 (v := ?_) rfl (by kernel_rfl) (by kernel_rfl) (by kernel_rfl) (fun _ _ _ h => h) (Or.inl ⟨by rfl, ?_⟩) (by assumption) ?_
              rotate_left
              · intro w9 hSw
                go_simp
                first | done | with_reducible rfl
              simp only [Act.put, List.setIfInBounds_toArray, List.set_cons_zero, List.set_cons_succ]
              refine take' 1 (v := ?_) rfl (by kernel_rfl) (by kernel_rfl) (by kernel_rfl) (fun _ _ _ h => h) (Or.inl ⟨by rfl, ?_⟩) (by assumption) ?_
              rotate_left
              · intro w9 hSw
                go_simp
                first | done | with_reducible rfl
              simp only [Act.put, List.setIfInBounds_toArray, List.set_cons_zero, List.set_cons_succ]
              refine take' 2 (v := ?_) rfl (by kernel_rfl) (by kernel_rfl) (by kernel_rfl) (fun _ _ _ h => h) (Or.inl ⟨by rfl, ?_⟩) (by assumption) ?_
              rotate_left
              · intro w9 hSw
                go_simp
                first | done | with_reducible rfl
              simp only [Act.put, List.setIfInBounds_toArray, List.set_cons_zero, List.set_cons_succ]
              refine take' 3 (v := ?_) rfl (by kernel_rfl) (by kernel_rfl) (by kernel_rfl) (fun _ _ _ h => h) (Or.inl ⟨by rfl, ?_⟩) (by assumption) ?_
              rotate_left
              · intro w9 hSw
                go_simp
                first | done | with_reducible rfl
              simp only [Act.put, List.setIfInBounds_toArray, List.set_cons_zero, List.set_cons_succ]
              try simp only [hjn, decide_true, decide_false, gt_iff_lt, ge_iff_le]
              refine take' 4 (v := ?_) rfl (by kernel_rfl) (by kernel_rfl) (by kernel_rfl) (fun _ _ _ h => h) (Or.inl ⟨by rfl, ?_⟩) (by assumption) ?_
              rotate_left
              · intro w9 hSw
                go_simp
                first | done | with_reducible rfl
              simp only [Act.put, List.setIfInBounds_toArray, List.set_cons_zero, List.set_cons_succ]
              refine take' 5 (v := ?_) rfl (by kernel_rfl) (by kernel_rfl) (by kernel_rfl) (fun _ _ _ h => h) (Or.inl ⟨by rfl, ?_⟩) (by assumption) ?_
              rotate_left
              · intro w9 hSw
                go_simp
                first | done | with_reducible rfl
              simp only [Act.put, List.setIfInBounds_toArray, List.set_cons_zero, List.set_cons_succ]
              refine take' 6 (v := ?_) rfl (by kernel_rfl) (by kernel_rfl) (by kernel_rfl) (fun _ _ _ h => h) (Or.inl ⟨by rfl, ?_⟩) (by assumption) ?_
              rotate_left
              · intro w9 hSw
                go_simp
                first | done | with_reducible rfl
              simp only [Act.put, List.setIfInBounds_toArray, List.set_cons_zero, List.set_cons_succ]
              refine take' 7 (v := ?_) rfl (by kernel_rfl) (by kernel_rfl) (by kernel_rfl) (fun _ _ _ h => h) (Or.inl ⟨by rfl, ?_⟩) (by assumption) ?_
              rotate_left
              · intro w9 hSw
                go_simp
                first | done | with_reducible rfl
              simp only [Act.put, List.setIfInBounds_toArray, List.set_cons_zero, List.set_cons_succ]
              refine take' 8 (v := ?_) rfl (by kernel_rfl) (by kernel_rfl) (by kernel_rfl) (fun _ _ _ h => h) (Or.inl ⟨by rfl, ?_⟩) (by assumption) ?_
              rotate_left
              · intro w9 hSw
                go_simp
                first | done | with_reducible rfl
              simp only [Act.put, List.setIfInBounds_toArray, List.set_cons_zero, List.set_cons_succ]
              refine take' 9 (v := ?_) rfl (by kernel_rfl) (by kernel_rfl) (by kernel_rfl) (fun _ _ _ h => h) (Or.inl ⟨by rfl, ?_⟩) (by assumption) ?_
              rotate_left
              · intro w9 hSw
                go_simp
                first | done | with_reducible rfl
              simp only [Act.put, List.setIfInBounds_toArray, List.set_cons_zero, List.set_cons_succ]
              refine take' 10 (v := ?_) rfl (by kernel_rfl) (by kernel_rfl) (by kernel_rfl) (fun _ _ _ h => h) (Or.inl ⟨by rfl, ?_⟩) (by assumption) ?_
              rotate_left
              · intro w9 hSw
                go_simp
                first | done | with_reducible rfl
              simp only [Act.put, List.setIfInBounds_toArray, List.set_cons_zero, List.set_cons_succ]
              refine take' 11 (v := ?_) rfl (by kernel_rfl) (by kernel_rfl) (by kernel_rfl) (fun _ _ _ h => h) (Or.inl ⟨by rfl, ?_⟩) (by assumption) ?_
              rotate_left
              · intro w9 hSw
                go_simp
                first | done | with_reducible rfl
              simp only [Act.put, List.setIfInBounds_toArray, List.set_cons_zero, List.set_cons_succ]
              refine take' 12 (v := ?_) rfl (by kernel_rfl) (by kernel_rfl) (by kernel_rfl) (fun _ _ _ h => h) (Or.inl ⟨by rfl, ?_⟩) (by assumption) ?_
              rotate_left
              · intro w9 hSw
                go_simp
                first | done | with_reducible rfl
              simp only [Act.put, List.setIfInBounds_toArray, List.set_cons_zero, List.set_cons_succ]
              refine take' 13 (v := ?_) rfl (by kernel_rfl) (by kernel_rfl) (by kernel_rfl) (fun _ _ _ h => h) (Or.inl ⟨by rfl, ?_⟩) (by assumption) ?_
              rotate_left
              · intro w9 hSw
                go_simp
                first | done | with_reducible rfl
              simp only [Act.put, List.setIfInBounds_toArray, List.set_cons_zero, List.set_cons_succ]
              try simp only [hyb, decide_true, decide_false, gt_iff_lt, ge_iff_le]
              refine take' 14 (v := ?_) rfl (by kernel_rfl) (by kernel_rfl) (by kernel_rfl) (fun _ _ _ h => h) (Or.inl ⟨by rfl, ?_⟩) (by assumption) ?_
              rotate_left
              · intro w9 hSw
                go_simp
                first | done | with_reducible rfl
              simp only [Act.put, List.setIfInBounds_toArray, List.set_cons_zero, List.set_cons_succ]
              refine wpAnyH_done (by kernel_rfl) ?_ _
              clear hHeld bD
              clear cy hgl hcp hye hyb hyx2 hyx
              obtain ⟨wB, hwB⟩ : ∃ wB, w6.alloc (.cells #[.int .i64 0] 3) = wB := ⟨_, rfl⟩
              have hnew := heap_alloc_new w6 (.cells #[.int .i64 0] 3)
              have b3 := below_alloc (w := w6) (.cells #[.int .i64 0] 3)
              rw [hwB] at hnew b3
              have hO3 := own_below hO b3
              have s3 := b3.size
              have s4 := hB.size
              have hbB : w.heap.size ≤ wB.heap.size := by omega
              have hbl : (n + 1) * 8 ≤ 140737488355328 := by omega
              have hrow := fun k hk => (hO.lt k hk)
              go_wp2_with (at_builtin; (try rw [hwB]); refine wpList_append_lies _ (by rfl) _ _ _ (by rfl) w.heap.size 3 i0 _ 1 8 Tryz.underlying98 hi0 hz0 hz1 hz2 rfl (by omega) _ n (iv ys) (by rfl) hO3 ⟨w6.heap.size, 0, none⟩ 1 1 [.int .i64 0] (by rfl) (by rfl) (World.news_of_block (cs := #[.int .i64 0]) (t := 3) (fr := (0, 0)) hnew) (by simp [Value.oneCell']) (by omega) (by simp only [maxLen]; omega) hbl hbB wB.heap.size rfl ?_)
              intro gb cap w9 hown4 hgrow hat hlt4
              have hB3 := hB.trans (b3.mono hB.size)
              have b9 := below_grown hB3.size (fun k hk => (hrow k hk).1) hgrow
              have hB9 := hB3.trans b9
              have hgb : w.heap.size ≤ gb := by
                rcases hat with h | h
                · exact (hrow _ h).1
                · omega
              have hO9 : w9.ownsRow w.heap.size 3 1 (.slice (some ⟨gb, 0, none⟩) (n + 1) cap) (n + 1) (iv (shf ys n)) := by
                have e := shf_top ys
                rw [HY.out.1] at e
                rw [e, iv_append]
                exact hown4
              clear hown4 hgrow hat hwB hnew b3 hO3 hB3 b9 hrow s3 hbB hbl
              have c9 := below_cell hB9 hcx
              clear hO hB s4 c0
              obtain ⟨N1, hN1⟩ : ∃ N1, n + 1 = N1 := ⟨_, rfl⟩
              rw [hN1] at hO9 ⊢
              have q0 : (N1 : Int) - 1 = (n : Int) := by omega
              have q1 : IntKind.i64.wrap (n : Int) = (n : Int) := Go.IntWalk.i64_in _ (by omega)
              have q2 : (0 : Int) ≤ (N1 : Int) := by omega
              have q3 : (N1 : Int) ≤ 2097153 := by omega
              have HN := hide' hN1
              clear hN1
              go_wp2_with fail
              go_loopw [6] (fun vi wr => ∃ m : Nat, j ≤ m ∧ m ≤ n ∧ vi = .int .i64 m ∧ wr.ownsRow w.heap.size 3 1 (.slice (some ⟨gb, 0, none⟩) N1 cap) N1 (iv (shf ys m)) ∧ Below w.heap.size w wr) (fun vi _ => (intOf vi).toNat - j)
              case atStart => exact ⟨n, hj, Nat.le_refl _, by first | rfl | rw [q0] | go_num, hO9, hB9⟩
              case round =>
                clear hO9 hB9 c9
                obtain ⟨m, hjm, hmn, rfl, hO, hB⟩ := hrel
                have c9 := below_cell hB hcx
                by_cases hlt9 : j < m
                · obtain ⟨m9, hm9⟩ : ∃ m9, m = m9 + 1 := ⟨m - 1, by omega⟩
                  obtain ⟨z, hz⟩ : ∃ z, ys[m9]? = some z := ⟨ys[m9]'(by have := HY.out.1; omega), List.getElem?_eq_getElem _⟩
                  have hat : (shf ys m)[m9]? = some z := by rw [hm9, shf_at (by have := HY.out.1; omega)]; exact hz
                  have hc9 := hO.cellAt m9 (by have := HN.out; omega)
                  rw [iv_at hat] at hc9
                  have hfz := hO.frozenAt m
                  have hst := (hO.stored m (.int .i64 z)).1
                  rw [iv_set, hm9, shf_step (by have := HY.out.1; omega) hz, ← hm9] at hst
                  have hc8 : ∃ z8, (shf ys m)[m]? = some z8 := ⟨_, List.getElem?_eq_getElem (by rw [shf_length (by have := HY.out.1; omega)]; have := HY.out.1; omega)⟩
                  obtain ⟨z8, hz8⟩ := hc8
                  have hd9 := hO.cellAt m (by have := HN.out; omega)
                  rw [iv_at hz8] at hd9
                  have m0 : (m : Int) - 1 = (m9 : Int) := by omega
                  have m1 : (0 : Int) ≤ (m9 : Int) := by omega
                  have m2 : (m9 : Int) < (N1 : Int) := by have := HN.out; omega
                  have m3 : (m : Int) < (N1 : Int) := by have := HN.out; omega
                  have m4 : (0 : Int) ≤ (m : Int) := by omega
                  have m5 : IntKind.i64.wrap (m9 : Int) = (m9 : Int) := Go.IntWalk.i64_in _ (by omega)
                  have m6 : (j : Int) < (m : Int) := by omega
                  have I1 := hide' (And.intro hst (bset (c := gb) (o := m) (u := .int .i64 z) hB hgb))
                  have HM := hide' hm9
                  clear hm9 hst hat hz hz8
                  go_wp2
                  go_roundw
                  case rel => exact ⟨m9, by have := HM.out; omega, by have := HM.out; omega, by first | rfl | rw [m0] | go_num, I1.out.1, I1.out.2⟩
                  case measure => have := HM.out; simp [intOf]; omega
                · obtain rfl : m = j := by omega
                  have m6 : ¬ (m : Int) < (m : Int) := by omega
                  have hc8 : ∃ z8, (shf ys m)[m]? = some z8 := ⟨_, List.getElem?_eq_getElem (by rw [shf_length (by have := HY.out.1; omega)]; have := HY.out.1; omega)⟩
                  obtain ⟨z8, hz8⟩ := hc8
                  have hd9 := hO.cellAt m (by have := HN.out; omega)
                  rw [iv_at hz8] at hd9
                  have hfz := hO.frozenAt m
                  have hst := (hO.stored m (.int .i64 x)).1
                  rw [iv_set, shf_put (by have := HY.out.1; omega)] at hst
                  have m3 : (m : Int) < (N1 : Int) := by have := HN.out; omega
                  have m4 : (0 : Int) ≤ (m : Int) := by omega
                  have hY9 := HY.out.2.1.put (x := x) (j := m) (by have := HY.out.1; omega) hlo hhi
                  rw [← HY.out.2.2.1] at hY9
                  have hl9 : (ys.take m ++ x :: ys.drop m).length = N1 := by have := HY.out.1; have := HN.out; simp only [List.length_append, List.length_take, List.length_cons, List.length_drop]; omega
                  have I1 := hide' (And.intro (show _ from (by rw [hl9]; exact hst : ((wr.setCell ⟨gb, m, none⟩ (.int .i64 x)).ownsRow w.heap.size 3 1 (.slice (some ⟨gb, 0, none⟩) N1 cap) (ys.take m ++ x :: ys.drop m).length (iv (ys.take m ++ x :: ys.drop m))))) (And.intro (bset (c := gb) (o := m) (u := .int .i64 x) hB hgb) hY9))
                  clear hst hY9 hl9 hz8
                  go_wp2
                  go_roundw
                  case rel => exact ⟨k + 1, by omega, by go_num, _, I1.out.1, I1.out.2.1, I1.out.2.2⟩
                  case measure => simp [intOf]; omega
        · have hhi : ∀ z, ys[j]? = some z → x < z := fun z hz => by have h1 := (List.getElem?_eq_some_iff.1 hz).1; have := HY.out.1; omega
          go_wp2_with fail
          have bD : Below wr.heap.size wr wr.drew := (Below.refl _ _).drew
          replace hB := hB.trans (bD.mono hB.size)
          refine wp_region_held_drew (S := fun w' => True) (by kernel_rfl) trivial (fun hHeld => ?_)
          generalize wr.drew = w5 at bD hB hHeld ⊢
          replace hO := own_below hO bD
          replace c0 := below_cell bD c0
          refine take' 0 (v := ?_) rfl (by kernel_rfl) (by kernel_rfl) (by kernel_rfl) (fun _ _ _ h => h) (Or.inl ⟨by rfl, ?_⟩) (by assumption) ?_
          rotate_left
          · intro w9 hSw
            go_simp
            first | done | with_reducible rfl
          simp only [Act.put, List.setIfInBounds_toArray, List.set_cons_zero, List.set_cons_succ]
          refine take' 1 (v := ?_) rfl (by kernel_rfl) (by kernel_rfl) (by kernel_rfl) (fun _ _ _ h => h) (Or.inl ⟨by rfl, ?_⟩) (by assumption) ?_
          rotate_left
          · intro w9 hSw
            go_simp
            first | done | with_reducible rfl
          simp only [Act.put, List.setIfInBounds_toArray, List.set_cons_zero, List.set_cons_succ]
          refine take' 2 (v := ?_) rfl (by kernel_rfl) (by kernel_rfl) (by kernel_rfl) (fun _ _ _ h => h) (Or.inl ⟨by rfl, ?_⟩) (by assumption) ?_
          rotate_left
          · intro w9 hSw
            go_simp
            first | done | with_reducible rfl
          simp only [Act.put, List.setIfInBounds_toArray, List.set_cons_zero, List.set_cons_succ]
          refine take' 3 (v := ?_) rfl (by kernel_rfl) (by kernel_rfl) (by kernel_rfl) (fun _ _ _ h => h) (Or.inl ⟨by rfl, ?_⟩) (by assumption) ?_
          rotate_left
          · intro w9 hSw
            go_simp
            first | done | with_reducible rfl
          simp only [Act.put, List.setIfInBounds_toArray, List.set_cons_zero, List.set_cons_succ]
          try simp only [hjn, decide_true, decide_false, gt_iff_lt, ge_iff_le]
          refine take' 4 (v := ?_) rfl (by kernel_rfl) (by kernel_rfl) (by kernel_rfl) (fun _ _ _ h => h) (Or.inl ⟨by rfl, ?_⟩) (by assumption) ?_
          rotate_left
          · intro w9 hSw
            go_simp
            first | done | with_reducible rfl
          simp only [Act.put, List.setIfInBounds_toArray, List.set_cons_zero, List.set_cons_succ]
          refine take' 5 (v := undef) rfl (by kernel_rfl) (by kernel_rfl) (by kernel_rfl) (fun _ _ _ h => h) (Or.inr ⟨by rfl, rfl⟩) (by assumption) ?_
          simp only [Act.put, List.setIfInBounds_toArray, List.set_cons_zero, List.set_cons_succ]
          refine take' 6 (v := undef) rfl (by kernel_rfl) (by kernel_rfl) (by kernel_rfl) (fun _ _ _ h => h) (Or.inr ⟨by rfl, rfl⟩) (by assumption) ?_
          simp only [Act.put, List.setIfInBounds_toArray, List.set_cons_zero, List.set_cons_succ]
          refine take' 7 (v := undef) rfl (by kernel_rfl) (by kernel_rfl) (by kernel_rfl) (fun _ _ _ h => h) (Or.inr ⟨by rfl, rfl⟩) (by assumption) ?_
          simp only [Act.put, List.setIfInBounds_toArray, List.set_cons_zero, List.set_cons_succ]
          refine take' 8 (v := undef) rfl (by kernel_rfl) (by kernel_rfl) (by kernel_rfl) (fun _ _ _ h => h) (Or.inr ⟨by rfl, rfl⟩) (by assumption) ?_
          simp only [Act.put, List.setIfInBounds_toArray, List.set_cons_zero, List.set_cons_succ]
          refine take' 9 (v := undef) rfl (by kernel_rfl) (by kernel_rfl) (by kernel_rfl) (fun _ _ _ h => h) (Or.inr ⟨by rfl, rfl⟩) (by assumption) ?_
          simp only [Act.put, List.setIfInBounds_toArray, List.set_cons_zero, List.set_cons_succ]
          refine take' 10 (v := undef) rfl (by kernel_rfl) (by kernel_rfl) (by kernel_rfl) (fun _ _ _ h => h) (Or.inr ⟨by rfl, rfl⟩) (by assumption) ?_
          simp only [Act.put, List.setIfInBounds_toArray, List.set_cons_zero, List.set_cons_succ]
          refine take' 11 (v := undef) rfl (by kernel_rfl) (by kernel_rfl) (by kernel_rfl) (fun _ _ _ h => h) (Or.inr ⟨by rfl, rfl⟩) (by assumption) ?_
          simp only [Act.put, List.setIfInBounds_toArray, List.set_cons_zero, List.set_cons_succ]
          refine take' 12 (v := undef) rfl (by kernel_rfl) (by kernel_rfl) (by kernel_rfl) (fun _ _ _ h => h) (Or.inr ⟨by rfl, rfl⟩) (by assumption) ?_
          simp only [Act.put, List.setIfInBounds_toArray, List.set_cons_zero, List.set_cons_succ]
          refine take' 13 (v := undef) rfl (by kernel_rfl) (by kernel_rfl) (by kernel_rfl) (fun _ _ _ h => h) (Or.inr ⟨by rfl, rfl⟩) (by assumption) ?_
          simp only [Act.put, List.setIfInBounds_toArray, List.set_cons_zero, List.set_cons_succ]
          refine take' 14 (v := ?_) rfl (by kernel_rfl) (by kernel_rfl) (by kernel_rfl) (fun _ _ _ h => h) (Or.inl ⟨by rfl, ?_⟩) (by assumption) ?_
          rotate_left
          · intro w9 hSw
            go_simp
            first | done | with_reducible rfl
          simp only [Act.put, List.setIfInBounds_toArray, List.set_cons_zero, List.set_cons_succ]
          refine wpAnyH_done (by kernel_rfl) ?_ _
          clear hHeld bD
          go_wp2_with fail
          have bD : Below w5.heap.size w5 w5.drew := (Below.refl _ _).drew
          replace hB := hB.trans (bD.mono hB.size)
          refine wp_region_held_drew (S := fun w' => True) (by kernel_rfl) trivial (fun hHeld => ?_)
          generalize w5.drew = w6 at bD hB hHeld ⊢
          replace hO := own_below hO bD
          replace c0 := below_cell bD c0
          refine take' 0 (v := ?_) rfl (by kernel_rfl) (by kernel_rfl) (by kernel_rfl) (fun _ _ _ h => h) (Or.inl ⟨by rfl, ?_⟩) (by assumption) ?_
          rotate_left
          · intro w9 hSw
            go_simp
            first | done | with_reducible rfl
          simp only [Act.put, List.setIfInBounds_toArray, List.set_cons_zero, List.set_cons_succ]
          refine take' 1 (v := ?_) rfl (by kernel_rfl) (by kernel_rfl) (by kernel_rfl) (fun _ _ _ h => h) (Or.inl ⟨by rfl, ?_⟩) (by assumption) ?_
          rotate_left
          · intro w9 hSw
            go_simp
            first | done | with_reducible rfl
          simp only [Act.put, List.setIfInBounds_toArray, List.set_cons_zero, List.set_cons_succ]
          refine take' 2 (v := ?_) rfl (by kernel_rfl) (by kernel_rfl) (by kernel_rfl) (fun _ _ _ h => h) (Or.inl ⟨by rfl, ?_⟩) (by assumption) ?_
          rotate_left
          · intro w9 hSw
            go_simp
            first | done | with_reducible rfl
          simp only [Act.put, List.setIfInBounds_toArray, List.set_cons_zero, List.set_cons_succ]
          refine take' 3 (v := ?_) rfl (by kernel_rfl) (by kernel_rfl) (by kernel_rfl) (fun _ _ _ h => h) (Or.inl ⟨by rfl, ?_⟩) (by assumption) ?_
          rotate_left
          · intro w9 hSw
            go_simp
            first | done | with_reducible rfl
          simp only [Act.put, List.setIfInBounds_toArray, List.set_cons_zero, List.set_cons_succ]
          try simp only [hjn, decide_true, decide_false, gt_iff_lt, ge_iff_le]
          refine take' 4 (v := ?_) rfl (by kernel_rfl) (by kernel_rfl) (by kernel_rfl) (fun _ _ _ h => h) (Or.inl ⟨by rfl, ?_⟩) (by assumption) ?_
          rotate_left
          · intro w9 hSw
            go_simp
            first | done | with_reducible rfl
          simp only [Act.put, List.setIfInBounds_toArray, List.set_cons_zero, List.set_cons_succ]
          refine take' 5 (v := undef) rfl (by kernel_rfl) (by kernel_rfl) (by kernel_rfl) (fun _ _ _ h => h) (Or.inr ⟨by rfl, rfl⟩) (by assumption) ?_
          simp only [Act.put, List.setIfInBounds_toArray, List.set_cons_zero, List.set_cons_succ]
          refine take' 6 (v := undef) rfl (by kernel_rfl) (by kernel_rfl) (by kernel_rfl) (fun _ _ _ h => h) (Or.inr ⟨by rfl, rfl⟩) (by assumption) ?_
          simp only [Act.put, List.setIfInBounds_toArray, List.set_cons_zero, List.set_cons_succ]
          refine take' 7 (v := undef) rfl (by kernel_rfl) (by kernel_rfl) (by kernel_rfl) (fun _ _ _ h => h) (Or.inr ⟨by rfl, rfl⟩) (by assumption) ?_
          simp only [Act.put, List.setIfInBounds_toArray, List.set_cons_zero, List.set_cons_succ]
          refine take' 8 (v := undef) rfl (by kernel_rfl) (by kernel_rfl) (by kernel_rfl) (fun _ _ _ h => h) (Or.inr ⟨by rfl, rfl⟩) (by assumption) ?_
          simp only [Act.put, List.setIfInBounds_toArray, List.set_cons_zero, List.set_cons_succ]
          refine take' 9 (v := undef) rfl (by kernel_rfl) (by kernel_rfl) (by kernel_rfl) (fun _ _ _ h => h) (Or.inr ⟨by rfl, rfl⟩) (by assumption) ?_
          simp only [Act.put, List.setIfInBounds_toArray, List.set_cons_zero, List.set_cons_succ]
          refine take' 10 (v := undef) rfl (by kernel_rfl) (by kernel_rfl) (by kernel_rfl) (fun _ _ _ h => h) (Or.inr ⟨by rfl, rfl⟩) (by assumption) ?_
          simp only [Act.put, List.setIfInBounds_toArray, List.set_cons_zero, List.set_cons_succ]
          refine take' 11 (v := undef) rfl (by kernel_rfl) (by kernel_rfl) (by kernel_rfl) (fun _ _ _ h => h) (Or.inr ⟨by rfl, rfl⟩) (by assumption) ?_
          simp only [Act.put, List.setIfInBounds_toArray, List.set_cons_zero, List.set_cons_succ]
          refine take' 12 (v := undef) rfl (by kernel_rfl) (by kernel_rfl) (by kernel_rfl) (fun _ _ _ h => h) (Or.inr ⟨by rfl, rfl⟩) (by assumption) ?_
          simp only [Act.put, List.setIfInBounds_toArray, List.set_cons_zero, List.set_cons_succ]
          refine take' 13 (v := undef) rfl (by kernel_rfl) (by kernel_rfl) (by kernel_rfl) (fun _ _ _ h => h) (Or.inr ⟨by rfl, rfl⟩) (by assumption) ?_
          simp only [Act.put, List.setIfInBounds_toArray, List.set_cons_zero, List.set_cons_succ]
          refine take' 14 (v := ?_) rfl (by kernel_rfl) (by kernel_rfl) (by kernel_rfl) (fun _ _ _ h => h) (Or.inl ⟨by rfl, ?_⟩) (by assumption) ?_
          rotate_left
          · intro w9 hSw
            go_simp
            first | done | with_reducible rfl
          simp only [Act.put, List.setIfInBounds_toArray, List.set_cons_zero, List.set_cons_succ]
          refine wpAnyH_done (by kernel_rfl) ?_ _
          clear hHeld bD
          clear hjn
          obtain ⟨wB, hwB⟩ : ∃ wB, w6.alloc (.cells #[.int .i64 0] 3) = wB := ⟨_, rfl⟩
          have hnew := heap_alloc_new w6 (.cells #[.int .i64 0] 3)
          have b3 := below_alloc (w := w6) (.cells #[.int .i64 0] 3)
          rw [hwB] at hnew b3
          have hO3 := own_below hO b3
          have s3 := b3.size
          have s4 := hB.size
          have hbB : w.heap.size ≤ wB.heap.size := by omega
          have hbl : (n + 1) * 8 ≤ 140737488355328 := by omega
          have hrow := fun k hk => (hO.lt k hk)
          go_wp2_with (at_builtin; (try rw [hwB]); refine wpList_append_lies _ (by rfl) _ _ _ (by rfl) w.heap.size 3 i0 _ 1 8 Tryz.underlying98 hi0 hz0 hz1 hz2 rfl (by omega) _ n (iv ys) (by rfl) hO3 ⟨w6.heap.size, 0, none⟩ 1 1 [.int .i64 0] (by rfl) (by rfl) (World.news_of_block (cs := #[.int .i64 0]) (t := 3) (fr := (0, 0)) hnew) (by simp [Value.oneCell']) (by omega) (by simp only [maxLen]; omega) hbl hbB wB.heap.size rfl ?_)
          intro gb cap w9 hown4 hgrow hat hlt4
          have hB3 := hB.trans (b3.mono hB.size)
          have b9 := below_grown hB3.size (fun k hk => (hrow k hk).1) hgrow
          have hB9 := hB3.trans b9
          have hgb : w.heap.size ≤ gb := by
            rcases hat with h | h
            · exact (hrow _ h).1
            · omega
          have hO9 : w9.ownsRow w.heap.size 3 1 (.slice (some ⟨gb, 0, none⟩) (n + 1) cap) (n + 1) (iv (shf ys n)) := by
            have e := shf_top ys
            rw [HY.out.1] at e
            rw [e, iv_append]
            exact hown4
          clear hown4 hgrow hat hwB hnew b3 hO3 hB3 b9 hrow s3 hbB hbl
          have c9 := below_cell hB9 hcx
          clear hO hB s4 c0
          obtain ⟨N1, hN1⟩ : ∃ N1, n + 1 = N1 := ⟨_, rfl⟩
          rw [hN1] at hO9 ⊢
          have q0 : (N1 : Int) - 1 = (n : Int) := by omega
          have q1 : IntKind.i64.wrap (n : Int) = (n : Int) := Go.IntWalk.i64_in _ (by omega)
          have q2 : (0 : Int) ≤ (N1 : Int) := by omega
          have q3 : (N1 : Int) ≤ 2097153 := by omega
          have HN := hide' hN1
          clear hN1
          go_wp2_with fail
          go_loopw [6] (fun vi wr => ∃ m : Nat, j ≤ m ∧ m ≤ n ∧ vi = .int .i64 m ∧ wr.ownsRow w.heap.size 3 1 (.slice (some ⟨gb, 0, none⟩) N1 cap) N1 (iv (shf ys m)) ∧ Below w.heap.size w wr) (fun vi _ => (intOf vi).toNat - j)
          case atStart => exact ⟨n, hj, Nat.le_refl _, by first | rfl | rw [q0] | go_num, hO9, hB9⟩
          case round =>
            clear hO9 hB9 c9
            obtain ⟨m, hjm, hmn, rfl, hO, hB⟩ := hrel
            have c9 := below_cell hB hcx
            by_cases hlt9 : j < m
            · obtain ⟨m9, hm9⟩ : ∃ m9, m = m9 + 1 := ⟨m - 1, by omega⟩
              obtain ⟨z, hz⟩ : ∃ z, ys[m9]? = some z := ⟨ys[m9]'(by have := HY.out.1; omega), List.getElem?_eq_getElem _⟩
              have hat : (shf ys m)[m9]? = some z := by rw [hm9, shf_at (by have := HY.out.1; omega)]; exact hz
              have hc9 := hO.cellAt m9 (by have := HN.out; omega)
              rw [iv_at hat] at hc9
              have hfz := hO.frozenAt m
              have hst := (hO.stored m (.int .i64 z)).1
              rw [iv_set, hm9, shf_step (by have := HY.out.1; omega) hz, ← hm9] at hst
              have hc8 : ∃ z8, (shf ys m)[m]? = some z8 := ⟨_, List.getElem?_eq_getElem (by rw [shf_length (by have := HY.out.1; omega)]; have := HY.out.1; omega)⟩
              obtain ⟨z8, hz8⟩ := hc8
              have hd9 := hO.cellAt m (by have := HN.out; omega)
              rw [iv_at hz8] at hd9
              have m0 : (m : Int) - 1 = (m9 : Int) := by omega
              have m1 : (0 : Int) ≤ (m9 : Int) := by omega
              have m2 : (m9 : Int) < (N1 : Int) := by have := HN.out; omega
              have m3 : (m : Int) < (N1 : Int) := by have := HN.out; omega
              have m4 : (0 : Int) ≤ (m : Int) := by omega
              have m5 : IntKind.i64.wrap (m9 : Int) = (m9 : Int) := Go.IntWalk.i64_in _ (by omega)
              have m6 : (j : Int) < (m : Int) := by omega
              have I1 := hide' (And.intro hst (bset (c := gb) (o := m) (u := .int .i64 z) hB hgb))
              have HM := hide' hm9
              clear hm9 hst hat hz hz8
              go_wp2
              go_roundw
              case rel => exact ⟨m9, by have := HM.out; omega, by have := HM.out; omega, by first | rfl | rw [m0] | go_num, I1.out.1, I1.out.2⟩
              case measure => have := HM.out; simp [intOf]; omega
            · obtain rfl : m = j := by omega
              have m6 : ¬ (m : Int) < (m : Int) := by omega
              have hc8 : ∃ z8, (shf ys m)[m]? = some z8 := ⟨_, List.getElem?_eq_getElem (by rw [shf_length (by have := HY.out.1; omega)]; have := HY.out.1; omega)⟩
              obtain ⟨z8, hz8⟩ := hc8
              have hd9 := hO.cellAt m (by have := HN.out; omega)
              rw [iv_at hz8] at hd9
              have hfz := hO.frozenAt m
              have hst := (hO.stored m (.int .i64 x)).1
              rw [iv_set, shf_put (by have := HY.out.1; omega)] at hst
              have m3 : (m : Int) < (N1 : Int) := by have := HN.out; omega
              have m4 : (0 : Int) ≤ (m : Int) := by omega
              have hY9 := HY.out.2.1.put (x := x) (j := m) (by have := HY.out.1; omega) hlo hhi
              rw [← HY.out.2.2.1] at hY9
              have hl9 : (ys.take m ++ x :: ys.drop m).length = N1 := by have := HY.out.1; have := HN.out; simp only [List.length_append, List.length_take, List.length_cons, List.length_drop]; omega
              have I1 := hide' (And.intro (show _ from (by rw [hl9]; exact hst : ((wr.setCell ⟨gb, m, none⟩ (.int .i64 x)).ownsRow w.heap.size 3 1 (.slice (some ⟨gb, 0, none⟩) N1 cap) (ys.take m ++ x :: ys.drop m).length (iv (ys.take m ++ x :: ys.drop m))))) (And.intro (bset (c := gb) (o := m) (u := .int .i64 x) hB hgb) hY9))
              clear hst hY9 hl9 hz8
              go_wp2
              go_roundw
              case rel => exact ⟨k + 1, by omega, by go_num, _, I1.out.1, I1.out.2.1, I1.out.2.2⟩
              case measure => simp [intOf]; omega
    · obtain rfl : k = zs.length := by omega
      have i1 : ¬ (zs.length : Int) < (zs.length : Int) := by omega
      go_wp2
      go_ret
      exact ⟨u3, rfl, ys, hO, hB, hY⟩
end Go.Proofs.YtkflbhkcofmaoaaGreat

namespace Go.Proofs.YtkflbhkcofmaoaaGreat
open Go.RowKit
set_option linter.unusedVariables false
set_option linter.unusedSimpArgs false

/-- a form's variables, as they stand -/
def vs (L : List Mo) : List Int := L.map (·.1)
theorem vs_length (L : List Mo) : (vs L).length = L.length := List.length_map _
theorem own_mono {w : World} {base base' : Nat} {e : TypeId} {size : Nat} {v : Value} {n : Nat} {xs : List Value} (h : w.ownsRow base e size v n xs) (hb : base' ≤ base) : w.ownsRow base' e size v n xs := by
  refine ⟨h.1, ?_⟩
  rcases h.2 with h0 | ⟨g, cap, cur, hv, hg, rest⟩
  · exact Or.inl h0
  · exact Or.inr ⟨g, cap, cur, hv, Nat.le_trans hb hg, rest⟩
theorem SAns.from {w W : World} {zs : List Int} {e : Ending} {w' : World} (h : SAns W zs e w') (hB : Below w.heap.size w W) : SAns w zs e w' := by
  obtain ⟨vo, he, ys, hO, hb, hY⟩ := h
  exact ⟨vo, he, ys, own_mono hO hB.size, hB.trans (hb.mono hB.size), hY⟩
/-- what the loops keep: the numbers so far -/
def LInv (w : World) (zs : List Int) (vo : Value) (wr : World) : Prop := wr.ownsRow w.heap.size 3 1 vo zs.length (iv zs) ∧ Below w.heap.size w wr

set_option maxHeartbeats 8000000 in
set_option maxRecDepth 100000 in
theorem vall_is (a : Option Addr) (ca : Nat) (L : List Mo) (b : Option Addr) (cb : Nat) (M : List Mo) (w : World) (hF : FAt w a L) (hG : FAt w b M) (hca : L.length ≤ ca) (hcb : M.length ≤ cb) (hm : L.length + M.length ≤ 2097152) :
    Calls Tryz.prog 81 #[.slice a L.length ca, .slice b M.length cb] w (SAns w (vs L ++ vs M)) := by
  obtain ⟨i0, hi0, hz0, hz1, hz2⟩ := info_parts info_int
  obtain ⟨ZZ, hZZ⟩ : ∃ ZZ, vs L ++ vs M = ZZ := ⟨_, rfl⟩
  rw [hZZ]
  replace hZZ := hide' hZZ
  go_enter Tryz.func81, Tryz.ntmps81
  go_wp2_with fail
  go_loopw [5, 6] (fun vo vi wr => ∃ k : Nat, k ≤ L.length ∧ vi = .int .i64 k ∧ LInv w (vs (L.take k)) vo wr) (fun _ vi _ => L.length - (intOf vi).toNat)
  case atStart => exact ⟨0, Nat.zero_le _, rfl, World.ownsRow_nil _ _ _ _, Below.refl _ _⟩
  case round =>
    obtain ⟨k, hk, rfl, hO, hB⟩ := hrel
    by_cases hlt : k < L.length
    · skip
      obtain ⟨p, hp⟩ : ∃ p, L[k]? = some p := ⟨L[k], List.getElem?_eq_getElem hlt⟩
      obtain ⟨bb, off, rfl, hb, hcell⟩ := hF (by intro e; rw [e] at hlt; simp at hlt)
      obtain ⟨c0, _, _, _⟩ := hcell k p hp
      replace c0 := below_cell hB c0
      obtain ⟨t1, t2⟩ := take_split hp
      have hv : vs (L.take (k + 1)) = vs (L.take k) ++ [p.1] := by rw [t1]; unfold vs; rw [List.map_append]; rfl
      obtain ⟨x, q⟩ := p
      simp only at c0 hv
      clear t1 t2 hp hcell
      have i1 : (0 : Int) ≤ (k : Int) := by omega
      have i2 : (k : Int) < (L.length : Int) := by omega
      obtain ⟨zs, hzs⟩ : ∃ zs, vs (L.take k) = zs := ⟨_, rfl⟩
      rw [hzs] at hO
      have hzl : zs.length ≤ 2097152 := by rw [← hzs]; rw [vs_length, List.length_take]; omega
      obtain ⟨wB, hwB⟩ : ∃ wB, wr.alloc (.cells #[.int .i64 x] 3) = wB := ⟨_, rfl⟩
      have hnew := heap_alloc_new wr (.cells #[.int .i64 x] 3)
      have b3 := below_alloc (w := wr) (.cells #[.int .i64 x] 3)
      rw [hwB] at hnew b3
      have hO3 := own_below hO b3
      have s3 := b3.size
      have s4 := hB.size
      have hbB : w.heap.size ≤ wB.heap.size := by omega
      have hbl : (zs.length + 1) * 8 ≤ 140737488355328 := by omega
      have hrow := fun k hk => (hO.lt k hk)
      go_wp2_with (at_builtin; (try rw [hwB]); refine wpList_append_lies _ (by rfl) _ _ _ (by rfl) w.heap.size 3 i0 _ 1 8 Tryz.underlying98 hi0 hz0 hz1 hz2 rfl (by omega) u5 zs.length (iv zs) (by rfl) hO3 ⟨wr.heap.size, 0, none⟩ 1 1 [.int .i64 x] (by rfl) (by rfl) (World.news_of_block (cs := #[.int .i64 x]) (t := 3) (fr := (0, 0)) hnew) (by simp [Value.oneCell']) (by omega) (by simp only [maxLen]; omega) hbl hbB wB.heap.size rfl ?_)
      intro gb cap w9 hown4 hgrow hat hlt4
      have hB3 := hB.trans (b3.mono hB.size)
      have b9 := below_grown hB3.size (fun k hk => (hrow k hk).1) hgrow
      have I1 : LInv w (zs ++ [x]) (.slice (some ⟨gb, 0, none⟩) (zs.length + 1) cap) w9 := ⟨by rw [List.length_append, iv_append]; exact hown4, hB3.trans b9⟩
      replace I1 := hide' I1
      replace hzs := hide' hzs
      clear hown4 hgrow hat hwB hnew b3 hO3 hB3 b9 hrow s3 hbB hbl hO hB
      go_wp2
      go_roundw
      case rel => exact ⟨k + 1, by omega, by go_num, by rw [hv, hzs.out]; exact I1.out⟩
      case measure => simp [intOf]; omega
    · obtain rfl : k = L.length := by omega
      have i1 : ¬ (L.length : Int) < (L.length : Int) := by omega
      rw [List.take_length] at hO
      go_wp2_with fail
      go_loopw [5, 7] (fun vo vi wr => ∃ k : Nat, k ≤ M.length ∧ vi = .int .i64 k ∧ LInv w (vs L ++ vs (M.take k)) vo wr) (fun _ vi _ => M.length - (intOf vi).toNat)
      case atStart => exact ⟨0, Nat.zero_le _, rfl, by show LInv w (vs L ++ []) _ _; rw [List.append_nil]; exact ⟨hO, hB⟩⟩
      case round =>
        clear hO hB hk hlt i1
        obtain ⟨k, hk, rfl, hO, hB⟩ := hrel
        by_cases hlt : k < M.length
        · skip
          obtain ⟨p, hp⟩ : ∃ p, M[k]? = some p := ⟨M[k], List.getElem?_eq_getElem hlt⟩
          obtain ⟨bb, off, rfl, hb, hcell⟩ := hG (by intro e; rw [e] at hlt; simp at hlt)
          obtain ⟨c0, _, _, _⟩ := hcell k p hp
          replace c0 := below_cell hB c0
          obtain ⟨t1, t2⟩ := take_split hp
          have hv : vs (M.take (k + 1)) = vs (M.take k) ++ [p.1] := by rw [t1]; unfold vs; rw [List.map_append]; rfl
          obtain ⟨x, q⟩ := p
          simp only at c0 hv
          clear t1 t2 hp hcell
          have i1 : (0 : Int) ≤ (k : Int) := by omega
          have i2 : (k : Int) < (M.length : Int) := by omega
          obtain ⟨zs, hzs⟩ : ∃ zs, vs L ++ vs (M.take k) = zs := ⟨_, rfl⟩
          rw [hzs] at hO
          have hzl : zs.length ≤ 2097152 := by rw [← hzs]; rw [List.length_append, vs_length, vs_length, List.length_take]; omega
          obtain ⟨wB, hwB⟩ : ∃ wB, wr.alloc (.cells #[.int .i64 x] 3) = wB := ⟨_, rfl⟩
          have hnew := heap_alloc_new wr (.cells #[.int .i64 x] 3)
          have b3 := below_alloc (w := wr) (.cells #[.int .i64 x] 3)
          rw [hwB] at hnew b3
          have hO3 := own_below hO b3
          have s3 := b3.size
          have s4 := hB.size
          have hbB : w.heap.size ≤ wB.heap.size := by omega
          have hbl : (zs.length + 1) * 8 ≤ 140737488355328 := by omega
          have hrow := fun k hk => (hO.lt k hk)
          go_wp2_with (at_builtin; (try rw [hwB]); refine wpList_append_lies _ (by rfl) _ _ _ (by rfl) w.heap.size 3 i0 _ 1 8 Tryz.underlying98 hi0 hz0 hz1 hz2 rfl (by omega) u5 zs.length (iv zs) (by rfl) hO3 ⟨wr.heap.size, 0, none⟩ 1 1 [.int .i64 x] (by rfl) (by rfl) (World.news_of_block (cs := #[.int .i64 x]) (t := 3) (fr := (0, 0)) hnew) (by simp [Value.oneCell']) (by omega) (by simp only [maxLen]; omega) hbl hbB wB.heap.size rfl ?_)
          intro gb cap w9 hown4 hgrow hat hlt4
          have hB3 := hB.trans (b3.mono hB.size)
          have b9 := below_grown hB3.size (fun k hk => (hrow k hk).1) hgrow
          have I1 : LInv w (zs ++ [x]) (.slice (some ⟨gb, 0, none⟩) (zs.length + 1) cap) w9 := ⟨by rw [List.length_append, iv_append]; exact hown4, hB3.trans b9⟩
          replace I1 := hide' I1
          replace hzs := hide' hzs
          clear hown4 hgrow hat hwB hnew b3 hO3 hB3 b9 hrow s3 hbB hbl hO hB
          go_wp2
          go_roundw
          case rel => exact ⟨k + 1, by omega, by go_num, by rw [hv, ← List.append_assoc, hzs.out]; exact I1.out⟩
          case measure => simp [intOf]; omega
        · obtain rfl : k = M.length := by omega
          have i1 : ¬ (M.length : Int) < (M.length : Int) := by omega
          rw [List.take_length, hZZ.out] at hO
          have hl : ZZ.length ≤ 2097152 := by rw [← hZZ.out, List.length_append, vs_length, vs_length]; omega
          obtain ⟨ai, ci, rfl, hci, hI⟩ := own_ints hO
          have G := hide' (vsorted_is ai ci ZZ wr hI hci hl)
          clear hI hO
          go_wp2_with fail
          refine G.out.mono ?_
          rintro e w9 h9
          have h8 := h9.from hB
          obtain ⟨vo, rfl, h7⟩ := h8
          clear h9
          go_wp2
          go_ret
          exact ⟨vo, rfl, h7⟩
end Go.Proofs.YtkflbhkcofmaoaaGreat

namespace Go.Proofs.YtkflbhkcofmaoaaGreat
open Go.RowKit
set_option linter.unusedVariables false
set_option linter.unusedSimpArgs false

/-- the coefficients of some variables, without those that are 0 -/
def cl (l : Fo) : List Int → Fo
  | [] => []
  | x :: ys => (if co x l = 0 then [] else [(x, co x l)]) ++ cl l ys
theorem cl_append (l : Fo) : ∀ (ys zs : List Int), cl l (ys ++ zs) = cl l ys ++ cl l zs
  | [], zs => rfl
  | y :: ys, zs => by simp only [List.cons_append, cl, cl_append l ys zs, List.append_assoc]
theorem cl_mem (l : Fo) : ∀ (ys : List Int) (p : Int × Rat), p ∈ cl l ys → p.1 ∈ ys ∧ p.2 ≠ 0
  | [], p, h => by simp [cl] at h
  | y :: ys, p, h => by
    simp only [cl, List.mem_append] at h
    rcases h with h | h
    · split at h
      · simp at h
      · rename_i hne
        rw [List.mem_singleton] at h
        subst h
        exact ⟨List.mem_cons_self, hne⟩
    · have := cl_mem l ys p h
      exact ⟨List.mem_cons_of_mem _ this.1, this.2⟩
theorem cl_nrm (l : Fo) : ∀ (ys : List Int), ys.Pairwise (· < ·) → nrm (cl l ys)
  | [], _ => nrm.nil
  | y :: ys, h => by
    have h1 := (List.pairwise_cons.1 h).1
    have h2 := cl_nrm l ys (List.pairwise_cons.1 h).2
    simp only [cl]
    split
    · exact h2
    · rename_i hne
      exact h2.cons (fun q hq => h1 q.1 (cl_mem l ys q hq).1) hne
theorem cl_co (l : Fo) (x : Int) : ∀ (ys : List Int), ys.Pairwise (· < ·) → co x (cl l ys) = if x ∈ ys then co x l else 0
  | [], _ => by simp [cl, co]
  | y :: ys, h => by
    have h1 := (List.pairwise_cons.1 h).1
    have h2 := cl_co l x ys (List.pairwise_cons.1 h).2
    simp only [cl]
    rw [co_append, h2]
    by_cases hx : x = y
    · subst hx
      have hn : x ∉ ys := fun hm => by have := h1 x hm; omega
      rw [if_neg hn, if_pos List.mem_cons_self, Rat.add_zero]
      split
      · rename_i h0; rw [h0]; rfl
      · simp only [co, if_true]; exact Rat.add_zero _
    · have e0 : co x (if co y l = 0 then [] else [(y, co y l)]) = 0 := by
        split
        · rfl
        · simp only [co]
          rw [if_neg (fun h => hx h.symm)]
          exact Rat.add_zero _
      rw [e0, Rat.zero_add]
      simp only [List.mem_cons, hx, false_or]
theorem co_none {x : Int} {L : List Mo} (h : x ∉ vs L) : co x (fo L) = 0 := co_zero fun p hp => by
  obtain ⟨q, hq, rfl⟩ := List.mem_map.1 hp
  intro e
  exact h (List.mem_map.2 ⟨q, hq, e⟩)
theorem cl_all {L : List Mo} {ys : List Int} (h : Srt ys (vs L ++ vs [])) : cl (fo L) ys = nfm (fo L) := by
  refine nfm_uniq (cl_nrm _ _ h.up) fun x => ?_
  rw [cl_co _ _ _ h.up]
  split
  · rfl
  · rename_i hn
    refine (co_none fun hm => hn ?_).symm
    rw [h.mem]
    exact List.mem_append_left _ hm

/-- what the loop keeps -/
def NInv (w : World) (l : Fo) (ys : List Int) (k : Nat) (vo : Value) (wr : World) : Prop :=
  ∃ R : List Mo, R.length ≤ k ∧ wr.ownsRow w.heap.size 59 4 vo R.length (cellsF R) ∧ Below w.heap.size w wr ∧ (∀ p ∈ R, Grw vo wr p) ∧ fo R = cl l (ys.take k)
theorem NInv.later {w : World} {l : Fo} {ys : List Int} {k : Nat} {vo : Value} {wr w' : World} (h : NInv w l ys k vo wr) (hb : Below wr.heap.size wr w') : NInv w l ys k vo w' := by
  obtain ⟨R, h1, h2, h3, h4, h5⟩ := h
  exact ⟨R, h1, own_below h2 hb, h3.trans (hb.mono h3.size), fun p hp => (h4 p hp).later hb, h5⟩

set_option maxHeartbeats 8000000 in
set_option maxRecDepth 100000 in
theorem vlNormF_is (a : Option Addr) (ca : Nat) (L : List Mo) (w : World) (hF : FAt w a L) (hok : ∀ p ∈ L, p.2.ok w ∧ p.2.n ≤ 1099511627776 ∧ p.2.m ≤ 1099511627776) (hc : L.length ≤ ca) (hm : L.length ≤ 1048576) (hw : ∀ k x, sz 1099511627776 (co x (fo (L.take k)))) :
    Calls Tryz.prog 54 #[.slice a L.length ca] w (FAns w (nfm (fo L))) := by
  obtain ⟨i0, hi0, hz0, hz1, hz2⟩ := info_parts info_Mono
  obtain ⟨TT, hTT⟩ : ∃ TT, nfm (fo L) = TT := ⟨_, rfl⟩
  rw [hTT]
  replace hTT := hide' hTT
  have GA := hide' (vall_is a ca L none 0 [] w hF (FAt.nil _ _) hc (Nat.le_refl _) (by simp only [List.length_nil]; omega))
  have GC := hide' (fun w' x (hb : Below w.heap.size w w') => vlCoefF_is a ca L x w' (hF.later hb) (fun p hp => ⟨(hok p hp).1.later hb, (hok p hp).2⟩) hc hm (fun k => hw k x))
  clear hF hok hc
  rw [show ([] : List Mo).length = 0 from rfl] at GA
  go_enter Tryz.func54, Tryz.ntmps54
  go_wp2_with fail
  refine GA.out.mono ?_
  rintro e w2 ⟨vi, rfl, ys, hOI, hB2, hY⟩
  clear GA
  obtain ⟨ai, ci, rfl, hci, hI⟩ := own_ints hOI
  rw [List.take_length] at hY
  have HC := hide' (cl_all hY)
  have hyl : ys.length ≤ 1048576 := by have := hY.len; rw [List.length_append, vs_length] at this; simp only [vs, List.map_nil, List.length_nil] at this; omega
  clear hY hOI
  obtain ⟨l, hl⟩ : ∃ l, fo L = l := ⟨_, rfl⟩
  have HS := hide' (fun x => show sz 1099511627776 (co x l) by have h := hw L.length x; rw [List.take_length, hl] at h; exact h)
  rw [hl] at GC HC hTT
  clear hl hw
  go_wp2_with fail
  go_loopw [3, 5] (fun vo vi wr => ∃ k : Nat, k ≤ ys.length ∧ vi = .int .i64 k ∧ NInv w2 l ys k vo wr) (fun _ vi _ => ys.length - (intOf vi).toNat)
  case atStart => exact ⟨0, Nat.zero_le _, rfl, [], Nat.le_refl _, World.ownsRow_nil _ _ _ _, Below.refl _ _, fun p hp => by simp at hp, rfl⟩
  case round =>
    obtain ⟨k, hk, rfl, hN⟩ := hrel
    by_cases hlt : k < ys.length
    · obtain ⟨x, hx⟩ : ∃ x, ys[k]? = some x := ⟨ys[k], List.getElem?_eq_getElem hlt⟩
      obtain ⟨bb, off, rfl, hb, hcell⟩ := hI (by intro e; rw [e] at hlt; simp at hlt)
      have hBk : Below w2.heap.size w2 wr := by obtain ⟨R, _, _, h, _⟩ := hN; exact h
      have c0 := below_cell hBk (hcell k x hx)
      obtain ⟨t1, t2⟩ := take_split hx
      clear t2 hx hcell
      obtain ⟨s, hs⟩ : ∃ s, co x l = s := ⟨_, rfl⟩
      have G1 := hide' (GC.out wr x (hB2.trans (hBk.mono hB2.size)))
      have hsz := HS.out x
      rw [hs] at G1 hsz
      have hfo : cl l (ys.take (k + 1)) = cl l (ys.take k) ++ (if s = 0 then [] else [(x, s)]) := by rw [t1, cl_append]; simp only [cl]; rw [hs, List.append_nil]
      clear t1 hs
      have G2 := fun w' p q k1 k2 => vqSign_is (ng s.num) p (ln (am s.num)) (ln (am s.num)) (am s.num) q (ln s.den) (ln s.den) s.den (sgn s.num) w' (Nat.le_refl _) (Nat.le_trans hsz.1 (by omega)) k1 (Nat.le_refl _) (Nat.le_trans hsz.2 (by omega)) k2 (by rw [rn_nf s.den_pos])
      have i1 : (0 : Int) ≤ (k : Int) := by omega
      have i2 : (k : Int) < (ys.length : Int) := by omega
      go_wp2_with fail
      refine G1.out.mono ?_
      rintro e w3 ⟨p, q, rfl, b3, g1, g2, f1, f2⟩
      go_wp2_with fail
      obtain ⟨wA, hwA⟩ : ∃ wA, w3.alloc (.cells #[.bool (ng s.num), .slice p (ln (am s.num)) (ln (am s.num)), .slice q (ln s.den) (ln s.den)] 31) = wA := ⟨_, rfl⟩
      have bA : Below w3.heap.size w3 wA := by subst hwA; exact below_alloc _
      have a0 : wA.cell? ⟨w3.heap.size, 0, none⟩ = some (.bool (ng s.num)) := by subst hwA; go_simp
      have a1 : wA.cell? ⟨w3.heap.size, 1, none⟩ = some (.slice p (ln (am s.num)) (ln (am s.num))) := by subst hwA; go_simp
      have a2 : wA.cell? ⟨w3.heap.size, 2, none⟩ = some (.slice q (ln s.den) (ln s.den)) := by subst hwA; go_simp
      rw [hwA]
      clear hwA
      replace g1 := g1.later bA
      replace g2 := g2.later bA
      have bT := b3.trans (bA.mono b3.size)
      have hs3 := b3.size
      replace c0 := below_cell bT c0
      have hN3 := hN.later bT
      have hN0 := hide' hN
      clear hN b3 bA G1
      by_cases h0 : s = 0
      · skip
        have hC0 : sgn s.num = 0 := (sgn_num s).2 h0
        rw [hC0] at G2
        rw [if_pos h0, List.append_nil] at hfo
        replace G2 := hide' G2
        clear h0
        refine (G2.out _ p q g1 g2).mono ?_
        rintro e w4 ⟨rfl, b4⟩
        replace a0 := below_cell b4 a0
        replace a1 := below_cell b4 a1
        replace a2 := below_cell b4 a2
        replace c0 := below_cell b4 c0
        replace g1 := g1.later b4
        replace g2 := g2.later b4
        replace hN3 := hN3.later b4
        replace bT := bT.trans (b4.mono bT.size)
        clear b4 G2
        have I1 := hide' (show NInv w2 l ys (k + 1) u3 w4 from by obtain ⟨R, h1, h2, h3, h4, h5⟩ := hN3; exact ⟨R, by omega, h2, h3, h4, by rw [h5, hfo]⟩)
        clear hN3
        go_wp2
        go_roundw
        case rel => exact ⟨k + 1, by omega, by go_num, I1.out⟩
        case measure => simp [intOf]; omega
      · skip
        have hC0 : ¬ sgn s.num = 0 := fun h => h0 ((sgn_num s).1 h)
        obtain ⟨C, hC⟩ : ∃ C, sgn s.num = C := ⟨_, rfl⟩
        rw [hC] at G2 hC0
        rw [if_neg h0] at hfo
        have hCb : (C == 0) = false := by simp [hC0]
        clear hC
        replace G2 := hide' G2
        clear h0
        refine (G2.out _ p q g1 g2).mono ?_
        rintro e w4 ⟨rfl, b4⟩
        replace a0 := below_cell b4 a0
        replace a1 := below_cell b4 a1
        replace a2 := below_cell b4 a2
        replace c0 := below_cell b4 c0
        replace g1 := g1.later b4
        replace g2 := g2.later b4
        replace hN3 := hN3.later b4
        replace bT := bT.trans (b4.mono bT.size)
        clear b4 G2
        obtain ⟨R, hRl, hO, hB, hR, hfR⟩ := hN3
        have hrow := fun k hk => (hO.lt k hk)
        have hrow0 : ∀ b, u3.ownBlock = some b → b < wr.heap.size := fun b e => by obtain ⟨R0, _, hO0, _⟩ := hN0.out; exact (hO0.lt b e).2
        have gN : Grw u3 w4 (x, RatV.of s.num s.den p q) := ⟨⟨g1, Nat.le_refl _, Nat.le_trans hsz.1 (by omega), g2, Nat.le_refl _, Nat.le_trans hsz.2 (by omega)⟩, ofR_low s p q, fun b e => ⟨fun hn ad e2 h => by have h1 := f1 hn ad e2; have h2 := hrow0 b e; omega, fun hn ad e2 h => by have h1 := f2 hn ad e2; have h2 := hrow0 b e; omega⟩⟩
        have hs4 : w3.heap.size < w4.heap.size := World.block_lt_of_cell? w4 ⟨w3.heap.size, 0, none⟩ a0
        have hso : ∀ b, u3.ownBlock = some b → b < w3.heap.size := fun b e => by have := hrow0 b e; omega
        clear g1 g2 f1 f2 hN0 bT
        go_wp2_with fail
        have bD : Below w4.heap.size w4 w4.drew := (Below.refl _ _).drew
        have kc0 := below_cell bD c0
        have ka0 := below_cell bD a0
        have ka1 := below_cell bD a1
        have ka2 := below_cell bD a2
        refine wp_region_held_drew (S := fun w' => w'.cell? ⟨bb, off + k, none⟩ = some (.int .i64 x) ∧ w'.cell? ⟨w3.heap.size, 0, none⟩ = some (.bool (ng s.num)) ∧ w'.cell? ⟨w3.heap.size, 1, none⟩ = some (.slice p (ln (am s.num)) (ln (am s.num))) ∧ w'.cell? ⟨w3.heap.size, 2, none⟩ = some (.slice q (ln s.den) (ln s.den))) (by kernel_rfl) ⟨kc0, ka0, ka1, ka2⟩ (fun hHeld => ?_)
        clear kc0 ka0 ka1 ka2
        generalize w4.drew = w0 at bD  hHeld ⊢
        clear c0 a0 a1 a2
        refine take' 0 (v := ?_) rfl (by kernel_rfl) (by kernel_rfl) (by kernel_rfl) (fun _ _ _ h => h) (Or.inl ⟨by rfl, ?_⟩) (by assumption) ?_
        rotate_left
        · intro w9 hSw
          go_simp
          first | done | with_reducible rfl
        simp only [Act.put, List.setIfInBounds_toArray, List.set_cons_zero, List.set_cons_succ]
        refine take' 1 (v := ?_) rfl (by kernel_rfl) (by kernel_rfl) (by kernel_rfl) (fun _ _ _ h => h) (Or.inl ⟨by rfl, ?_⟩) (by assumption) ?_
        rotate_left
        · intro w9 hSw
          go_simp
          first | done | with_reducible rfl
        simp only [Act.put, List.setIfInBounds_toArray, List.set_cons_zero, List.set_cons_succ]
        refine take' 2 (v := ?_) rfl (by kernel_rfl) (by kernel_rfl) (by kernel_rfl) (fun _ _ _ h => h) (Or.inl ⟨by rfl, ?_⟩) (by assumption) ?_
        rotate_left
        · intro w9 hSw
          go_simp
          first | done | with_reducible rfl
        simp only [Act.put, List.setIfInBounds_toArray, List.set_cons_zero, List.set_cons_succ]
        refine take' 3 (v := ?_) rfl (by kernel_rfl) (by kernel_rfl) (by kernel_rfl) (fun _ _ _ h => h) (Or.inl ⟨by rfl, ?_⟩) (by assumption) ?_
        rotate_left
        · intro w9 hSw
          go_simp
          first | done | with_reducible rfl
        simp only [Act.put, List.setIfInBounds_toArray, List.set_cons_zero, List.set_cons_succ]
        refine take' 4 (v := ?_) rfl (by kernel_rfl) (by kernel_rfl) (by kernel_rfl) (fun _ _ _ h => h) (Or.inl ⟨by rfl, ?_⟩) (by assumption) ?_
        rotate_left
        · intro w9 hSw
          go_simp
          first | done | with_reducible rfl
        simp only [Act.put, List.setIfInBounds_toArray, List.set_cons_zero, List.set_cons_succ]
        refine take' 5 (v := ?_) rfl (by kernel_rfl) (by kernel_rfl) (by kernel_rfl) (fun _ _ _ h => h) (Or.inl ⟨by rfl, ?_⟩) (by assumption) ?_
        rotate_left
        · intro w9 hSw
          go_simp
          first | done | with_reducible rfl
        simp only [Act.put, List.setIfInBounds_toArray, List.set_cons_zero, List.set_cons_succ]
        refine take' 6 (v := ?_) rfl (by kernel_rfl) (by kernel_rfl) (by kernel_rfl) (fun _ _ _ h => h) (Or.inl ⟨by rfl, ?_⟩) (by assumption) ?_
        rotate_left
        · intro w9 hSw
          go_simp
          first | done | with_reducible rfl
        simp only [Act.put, List.setIfInBounds_toArray, List.set_cons_zero, List.set_cons_succ]
        refine wpAnyH_ready (rs := [7]) (by kernel_rfl) (by simp) ?_
        refine cons' rfl (fun KK hKK => ?_)
        go_simp
        have hnew := heap_alloc_new w0 (.cells #[.int .i64 x, .bool (ng s.num), .slice p (ln (am s.num)) (ln (am s.num)), .slice q (ln s.den) (ln s.den)] 59)
        have b3 := below_alloc (w := w0) (.cells #[.int .i64 x, .bool (ng s.num), .slice p (ln (am s.num)) (ln (am s.num)), .slice q (ln s.den) (ln s.den)] 59)
        generalize w0.alloc (.cells #[.int .i64 x, .bool (ng s.num), .slice p (ln (am s.num)) (ln (am s.num)), .slice q (ln s.den) (ln s.den)] 59) = w8 at hnew b3 ⊢
        replace hHeld := (⟨below_cell b3 hHeld.1, below_cell b3 hHeld.2.1, below_cell b3 hHeld.2.2.1, below_cell b3 hHeld.2.2.2⟩ : _ ∧ _ ∧ _ ∧ _)
        refine hKK.out _ _ hHeld ?_
        clear hHeld
        intro hHeld
        clear hKK KK
        try simp only [Act.put, List.setIfInBounds_toArray, List.set_cons_zero, List.set_cons_succ]
        have bT := bD.trans (b3.mono bD.size)
        have hO3 := own_below hO bT
        have s3 := b3.size
        have s4 := bD.size
        have s5 := hB.size
        refine wpAnyH_ready (rs := [8]) (by kernel_rfl) (by simp) ?_
        refine cons' rfl (fun KK hKK => ?_)
        refine step_append_lies _ (by rfl) _ _ _ (by rfl) w2.heap.size 59 i0 _ 4 64 Tryz.underlying25 hi0 hz0 hz1 hz2 rfl (by omega) u3 R.length (cellsF R) (by rfl) hO3
          ⟨w0.heap.size, 0, none⟩ 1 1 (cells4 (x, RatV.of s.num s.den p q)) (by rfl) (by rfl) (World.news_of_block (cs := #[.int .i64 x, .bool (ng s.num), .slice p (ln (am s.num)) (ln (am s.num)), .slice q (ln s.den) (ln s.den)]) (t := 59) (fr := (0, 0)) hnew) (cells4_one _)
          (by omega) (by simp only [maxLen]; omega) (by omega) (by omega) w8.heap.size rfl ?_
        intro gb cap w9 hown4 hgrow hat hlt4
        have far : ∀ {c o : Nat} {u : Value}, (c < w2.heap.size ∨ c = w3.heap.size) → w8.cell? ⟨c, o, none⟩ = some u → w9.cell? ⟨c, o, none⟩ = some u := fun hc hu => hgrow.cell hu (fun e => by have h1 := hrow _ e.symm; have h2 := hso _ e.symm; simp only at h1 h2; omega)
        refine hKK.out _ _ ⟨far (Or.inl hb) hHeld.1, far (Or.inr rfl) hHeld.2.1, far (Or.inr rfl) hHeld.2.2.1, far (Or.inr rfl) hHeld.2.2.2⟩ ?_
        clear hHeld
        intro hHeld
        clear hKK KK
        try simp only [Act.put, List.setIfInBounds_toArray, List.set_cons_zero, List.set_cons_succ]
        have hBT := hB.trans (bT.mono hB.size)
        have I1 := hide' (show NInv w2 l ys (k + 1) (.slice (some ⟨gb, 0, none⟩) (R.length + 1) cap) w9 from ⟨R ++ [(x, RatV.of s.num s.den p q)], by rw [List.length_append]; simp only [List.length_cons, List.length_nil]; omega, own_push hown4, hBT.trans (below_grown hBT.size (fun k hk => (hrow k hk).1) hgrow), grw_push (fun q hq => (hR q hq).later bT) (gN.later bT) (j := R.length + 1) (cap := cap) hgrow hat, by rw [fo_append, hfR, hfo]; show _ ++ [(x, (RatV.of s.num s.den p q).val)] = _; rw [val_ofR]⟩)
        clear hown4 hgrow hat far gN hO3 hnew hR hO hfR
        refine take' 9 (v := ?_) rfl (by kernel_rfl) (by kernel_rfl) (by kernel_rfl) (fun _ _ _ h => h) (Or.inl ⟨by rfl, ?_⟩) (by assumption) ?_
        rotate_left
        · intro w9 hSw
          go_simp
          first | done | with_reducible rfl
        simp only [Act.put, List.setIfInBounds_toArray, List.set_cons_zero, List.set_cons_succ]
        refine wpAnyH_done (by kernel_rfl) ?_ _
        go_wp2
        go_roundw
        case rel => exact ⟨k + 1, by omega, by go_num, I1.out⟩
        case measure => simp [intOf]; omega
    · obtain rfl : k = ys.length := by omega
      have i1 : ¬ (ys.length : Int) < (ys.length : Int) := by omega
      obtain ⟨R, hRl, hO, hB, hR, hfR⟩ := hN
      obtain ⟨a3, c3, rfl, s3⟩ := Sl.of hO
      rw [List.take_length, HC.out, hTT.out] at hfR
      have I1 := hide' (show FAns w TT (.returned (.slice a3 R.length c3)) wr from ⟨a3, c3, R, rfl, hB2.trans (hB.mono hB2.size), s3, fun p hp => (hR p hp).ent, hfR⟩)
      clear hO hR s3 hfR
      go_wp2
      go_ret
      exact I1.out
end Go.Proofs.YtkflbhkcofmaoaaGreat

namespace Go.Proofs.YtkflbhkcofmaoaaGreat
open Go.RowKit
set_option linter.unusedVariables false
set_option linter.unusedSimpArgs false

set_option maxHeartbeats 8000000 in
set_option maxRecDepth 100000 in
theorem vlScaleF_is (C : RatV) (a : Option Addr) (c : Nat) (L : List Mo) (K : Nat) (w : World) (hF : FAt w a L) (hok : ∀ p ∈ L, p.2.ok w) (hc : L.length ≤ c) (hm : L.length ≤ 1048576) (hC : C.ok w) (hK : ∀ p ∈ L, C.n + C.m + p.2.n + p.2.m ≤ K) (hCK : C.n + C.m ≤ K) (hKm : K ≤ 17179869184) (hnK : ∀ k x, sz 1099511627776 (co x ((fmap (fun r => C.val * r) (fo L)).take k))) :
    Calls Tryz.prog 25 #[.agg #[.bool C.s, .slice C.a C.n C.c, .slice C.b C.m C.e], .slice a L.length c] w (FAns w (nfm (fmap (fun r => C.val * r) (fo L)))) := by
  obtain ⟨i0, hi0, hz0, hz1, hz2⟩ := info_parts info_Mono
  have hszL : ∀ p ∈ fmap (fun r => C.val * r) (fo L), sz (K + 2) p.2 := fun p hp => by
    obtain ⟨p1, hp1, rfl⟩ := List.mem_map.1 hp
    obtain ⟨p2, hp2, rfl⟩ := List.mem_map.1 hp1
    exact mul_sz hC (hok p2 hp2) (hK p2 hp2)
  have GN := hide' (fun w' a2 c2 (R : List Mo) (hs : Sl w' a2 c2 R) (hE : ∀ p ∈ R, Ent w' p) (hf : fo R = fmap (fun r => C.val * r) (fo L)) => vlNormF_is a2 c2 R w' hs.lies (fun p hp => by
    have h1 : (p.1, p.2.val) ∈ fmap (fun r => C.val * r) (fo L) := by rw [← hf]; exact List.mem_map.2 ⟨p, hp, rfl⟩
    have h2 : sz (K + 2) p.2.val := hszL _ h1
    obtain ⟨e1, e2⟩ := low_ns (hE p hp).low
    exact ⟨(hE p hp).ok, by rw [e1]; have := h2.1; omega, by rw [e2]; have := h2.2; omega⟩) hs.len (by have h := congrArg List.length hf; rw [fo_length, fmap_length, fo_length] at h; omega) (fun k x => by rw [show fo (R.take k) = (fo R).take k by unfold fo; rw [List.map_take], hf]; exact hnK k x))
  obtain ⟨TT, hTT⟩ : ∃ TT, nfm (fmap (fun r => C.val * r) (fo L)) = TT := ⟨_, rfl⟩
  rw [hTT]
  replace hTT := hide' hTT
  clear hszL hnK
  go_enter Tryz.func25, Tryz.ntmps25
  go_wp2_with fail
  obtain ⟨wA, hwA⟩ : ∃ wA, w.alloc (.cells #[.bool C.s, .slice C.a C.n C.c, .slice C.b C.m C.e] 31) = wA := ⟨_, rfl⟩
  have bA : Below w.heap.size w wA := by subst hwA; exact below_alloc _
  have a0 : wA.cell? ⟨w.heap.size, 0, none⟩ = some (.bool C.s) := by subst hwA; go_simp
  have a1 : wA.cell? ⟨w.heap.size, 1, none⟩ = some (.slice C.a C.n C.c) := by subst hwA; go_simp
  have a2 : wA.cell? ⟨w.heap.size, 2, none⟩ = some (.slice C.b C.m C.e) := by subst hwA; go_simp
  have hwz : w.heap.size < wA.heap.size := by subst hwA; simp only [World.size_alloc]; omega
  rw [hwA]
  clear hwA
  replace hF := hF.later bA
  replace hok := fun p hp => (hok p hp).later bA
  replace hC := hC.later bA
  go_loopw [5, 6] (fun vo vi wr => ∃ k : Nat, k ≤ L.length ∧ vi = .int .i64 k ∧ TInv wA (fun r => C.val * r) L k vo wr) (fun _ vi _ => L.length - (intOf vi).toNat)
  case atStart => exact ⟨0, Nat.zero_le _, rfl, [], rfl, World.ownsRow_nil _ _ _ _, Below.refl _ _, fun p hp => by simp at hp, rfl⟩
  case round =>
    obtain ⟨k, hk, rfl, R, hRl, hO, hB, hR, hfo⟩ := hrel
    by_cases hlt : k < L.length
    · obtain ⟨p, hp⟩ : ∃ p, L[k]? = some p := ⟨L[k], List.getElem?_eq_getElem hlt⟩
      obtain ⟨b, off, rfl, hb, hcell⟩ := hF (by intro e; rw [e] at hlt; simp at hlt)
      obtain ⟨c0, c1, c2, c3⟩ := hcell k p hp
      replace c0 := below_cell hB c0
      replace c1 := below_cell hB c1
      replace c2 := below_cell hB c2
      replace c3 := below_cell hB c3
      replace a0 := below_cell hB a0
      replace a1 := below_cell hB a1
      replace a2 := below_cell hB a2
      have hmem := List.mem_of_getElem? hp
      have hq := (hok p hmem).later hB
      have hC1 := hC.later hB
      have hKp := hK p hmem
      have hsz := mul_sz hC1 hq hKp
      obtain ⟨t1, t2⟩ := take_split hp
      have hfo' : fo (L.take (k + 1)) = fo (L.take k) ++ [(p.1, p.2.val)] := by rw [t1, fo_append]; rfl
      clear t1 t2 hp hmem
      obtain ⟨x, q⟩ := p
      simp only at c0 c1 c2 c3 hsz hfo' hq hKp
      have GM := hide' (fun w' k1 k2 k3 k4 => vqMul_is C.s C.a C.n C.c C.X C.b C.m C.e C.Y q.s q.a q.n q.c q.X q.b q.m q.e q.Y _ _ w' hC1.2.1 (by omega) k1 hC1.2.2.2.2.1 (by omega) k2 hq.2.1 (by omega) k3 hq.2.2.2.2.1 (by omega) k4 (low_mul C q))
      obtain ⟨r, hr⟩ : ∃ r, C.val * q.val = r := ⟨_, rfl⟩
      rw [hr] at GM hsz
      have k1 := hC1.1
      have k2 := hC1.2.2.2.1
      have k3 := hq.1
      have k4 := hq.2.2.2.1
      clear hC1 hq hcell
      have i1 : (0 : Int) ≤ (k : Int) := by omega
      have i2 : (k : Int) < (L.length : Int) := by omega
      have hrow := fun k hk => (hO.lt k hk)
      go_wp2_with fail
      have bT : Below wr.heap.size wr wr := Below.refl _ _
      have bD : Below wr.heap.size wr wr.drew := (Below.refl _ _).drew
      have kc0 := below_cell bD c0
      have kc1 := below_cell bD c1
      have kc2 := below_cell bD c2
      have kc3 := below_cell bD c3
      have ka0 := below_cell bD a0
      have ka1 := below_cell bD a1
      have ka2 := below_cell bD a2
      replace bT := bT.trans (bD.mono bT.size)
      replace k1 := k1.later bD
      replace k2 := k2.later bD
      replace k3 := k3.later bD
      replace k4 := k4.later bD
      refine wp_region_held_drew (S := fun w' => w'.cell? ⟨b, off + k * 4, none⟩ = some (.int .i64 x) ∧ w'.cell? ⟨b, off + k * 4 + 1, none⟩ = some (.bool q.s) ∧ w'.cell? ⟨b, off + k * 4 + 1 + 1, none⟩ = some (.slice q.a q.n q.c) ∧ w'.cell? ⟨b, off + k * 4 + 1 + 2, none⟩ = some (.slice q.b q.m q.e) ∧ w'.cell? ⟨w.heap.size, 0, none⟩ = some (.bool C.s) ∧ w'.cell? ⟨w.heap.size, 1, none⟩ = some (.slice C.a C.n C.c) ∧ w'.cell? ⟨w.heap.size, 2, none⟩ = some (.slice C.b C.m C.e)) (by kernel_rfl) ⟨kc0, kc1, kc2, kc3, ka0, ka1, ka2⟩ (fun hHeld => ?_)
      clear kc0 kc1 kc2 kc3 ka0 ka1 ka2
      generalize wr.drew = w0 at bD k1 k2 k3 k4 bT hHeld ⊢
      clear c0 c1 c2 c3 a0 a1 a2 bD
      refine take' 0 (v := ?_) rfl (by kernel_rfl) (by kernel_rfl) (by kernel_rfl) (fun _ _ _ h => h) (Or.inl ⟨by rfl, ?_⟩) (by assumption) ?_
      rotate_left
      · intro w9 hSw
        go_simp
        first | done | with_reducible rfl
      simp only [Act.put, List.setIfInBounds_toArray, List.set_cons_zero, List.set_cons_succ]
      refine take' 1 (v := ?_) rfl (by kernel_rfl) (by kernel_rfl) (by kernel_rfl) (fun _ _ _ h => h) (Or.inl ⟨by rfl, ?_⟩) (by assumption) ?_
      rotate_left
      · intro w9 hSw
        go_simp
        first | done | with_reducible rfl
      simp only [Act.put, List.setIfInBounds_toArray, List.set_cons_zero, List.set_cons_succ]
      refine take' 2 (v := ?_) rfl (by kernel_rfl) (by kernel_rfl) (by kernel_rfl) (fun _ _ _ h => h) (Or.inl ⟨by rfl, ?_⟩) (by assumption) ?_
      rotate_left
      · intro w9 hSw
        go_simp
        first | done | with_reducible rfl
      simp only [Act.put, List.setIfInBounds_toArray, List.set_cons_zero, List.set_cons_succ]
      refine take' 3 (v := ?_) rfl (by kernel_rfl) (by kernel_rfl) (by kernel_rfl) (fun _ _ _ h => h) (Or.inl ⟨by rfl, ?_⟩) (by assumption) ?_
      rotate_left
      · intro w9 hSw
        go_simp
        first | done | with_reducible rfl
      simp only [Act.put, List.setIfInBounds_toArray, List.set_cons_zero, List.set_cons_succ]
      refine take' 4 (v := ?_) rfl (by kernel_rfl) (by kernel_rfl) (by kernel_rfl) (fun _ _ _ h => h) (Or.inl ⟨by rfl, ?_⟩) (by assumption) ?_
      rotate_left
      · intro w9 hSw
        go_simp
        first | done | with_reducible rfl
      simp only [Act.put, List.setIfInBounds_toArray, List.set_cons_zero, List.set_cons_succ]
      refine take' 5 (v := ?_) rfl (by kernel_rfl) (by kernel_rfl) (by kernel_rfl) (fun _ _ _ h => h) (Or.inl ⟨by rfl, ?_⟩) (by assumption) ?_
      rotate_left
      · intro w9 hSw
        go_simp
        first | done | with_reducible rfl
      simp only [Act.put, List.setIfInBounds_toArray, List.set_cons_zero, List.set_cons_succ]
      refine take' 6 (v := ?_) rfl (by kernel_rfl) (by kernel_rfl) (by kernel_rfl) (fun _ _ _ h => h) (Or.inl ⟨by rfl, ?_⟩) (by assumption) ?_
      rotate_left
      · intro w9 hSw
        go_simp
        first | done | with_reducible rfl
      simp only [Act.put, List.setIfInBounds_toArray, List.set_cons_zero, List.set_cons_succ]
      refine take' 7 (v := ?_) rfl (by kernel_rfl) (by kernel_rfl) (by kernel_rfl) (fun _ _ _ h => h) (Or.inl ⟨by rfl, ?_⟩) (by assumption) ?_
      rotate_left
      · intro w9 hSw
        go_simp
        first | done | with_reducible rfl
      simp only [Act.put, List.setIfInBounds_toArray, List.set_cons_zero, List.set_cons_succ]
      refine take' 8 (v := ?_) rfl (by kernel_rfl) (by kernel_rfl) (by kernel_rfl) (fun _ _ _ h => h) (Or.inl ⟨by rfl, ?_⟩) (by assumption) ?_
      rotate_left
      · intro w9 hSw
        go_simp
        first | done | with_reducible rfl
      simp only [Act.put, List.setIfInBounds_toArray, List.set_cons_zero, List.set_cons_succ]
      refine take' 9 (v := ?_) rfl (by kernel_rfl) (by kernel_rfl) (by kernel_rfl) (fun _ _ _ h => h) (Or.inl ⟨by rfl, ?_⟩) (by assumption) ?_
      rotate_left
      · intro w9 hSw
        go_simp
        first | done | with_reducible rfl
      simp only [Act.put, List.setIfInBounds_toArray, List.set_cons_zero, List.set_cons_succ]
      refine take' 10 (v := ?_) rfl (by kernel_rfl) (by kernel_rfl) (by kernel_rfl) (fun _ _ _ h => h) (Or.inl ⟨by rfl, ?_⟩) (by assumption) ?_
      rotate_left
      · intro w9 hSw
        go_simp
        first | done | with_reducible rfl
      simp only [Act.put, List.setIfInBounds_toArray, List.set_cons_zero, List.set_cons_succ]
      refine take' 11 (v := ?_) rfl (by kernel_rfl) (by kernel_rfl) (by kernel_rfl) (fun _ _ _ h => h) (Or.inl ⟨by rfl, ?_⟩) (by assumption) ?_
      rotate_left
      · intro w9 hSw
        go_simp
        first | done | with_reducible rfl
      simp only [Act.put, List.setIfInBounds_toArray, List.set_cons_zero, List.set_cons_succ]
      refine wpAnyH_ready (rs := [12]) (by kernel_rfl) (by simp) ?_
      refine cons' rfl (fun KK hKK => ?_)
      go_simp
      refine (GM.out _ k1 k2 k3 k4).mono ?_
      rintro e w2 ⟨p, p', rfl, n1, n2⟩
      have b2 := n1.below
      have sA := bT.size
      replace bT := bT.trans (b2.mono bT.size)
      replace k1 := k1.later b2
      replace k2 := k2.later b2
      replace k3 := k3.later b2
      replace k4 := k4.later b2
      replace hHeld := (⟨below_cell b2 hHeld.1, below_cell b2 hHeld.2.1, below_cell b2 hHeld.2.2.1, below_cell b2 hHeld.2.2.2.1, below_cell b2 hHeld.2.2.2.2.1, below_cell b2 hHeld.2.2.2.2.2.1, below_cell b2 hHeld.2.2.2.2.2.2⟩ : _ ∧ _ ∧ _ ∧ _ ∧ _ ∧ _ ∧ _)
      go_wp2_with fail
      refine hKK.out _ _ hHeld ?_
      clear hHeld
      intro hHeld
      clear hKK KK
      try simp only [Act.put, List.setIfInBounds_toArray, List.set_cons_zero, List.set_cons_succ]
      refine take' 13 (v := ?_) rfl (by kernel_rfl) (by kernel_rfl) (by kernel_rfl) (fun _ _ _ h => h) (Or.inl ⟨by rfl, ?_⟩) (by assumption) ?_
      rotate_left
      · intro w9 hSw
        go_simp
        first | done | with_reducible rfl
      simp only [Act.put, List.setIfInBounds_toArray, List.set_cons_zero, List.set_cons_succ]
      refine wpAnyH_ready (rs := [14]) (by kernel_rfl) (by simp) ?_
      refine cons' rfl (fun KK hKK => ?_)
      go_simp
      have hnew := heap_alloc_new w2 (.cells #[.int .i64 x, .bool (ng r.num), .slice p (ln (am r.num)) (ln (am r.num)), .slice p' (ln r.den) (ln r.den)] 59)
      have b3 := below_alloc (w := w2) (.cells #[.int .i64 x, .bool (ng r.num), .slice p (ln (am r.num)) (ln (am r.num)), .slice p' (ln r.den) (ln r.den)] 59)
      generalize w2.alloc (.cells #[.int .i64 x, .bool (ng r.num), .slice p (ln (am r.num)) (ln (am r.num)), .slice p' (ln r.den) (ln r.den)] 59) = w3 at hnew b3 ⊢
      replace bT := bT.trans (b3.mono bT.size)
      replace k1 := k1.later b3
      replace k2 := k2.later b3
      replace k3 := k3.later b3
      replace k4 := k4.later b3
      replace hHeld := (⟨below_cell b3 hHeld.1, below_cell b3 hHeld.2.1, below_cell b3 hHeld.2.2.1, below_cell b3 hHeld.2.2.2.1, below_cell b3 hHeld.2.2.2.2.1, below_cell b3 hHeld.2.2.2.2.2.1, below_cell b3 hHeld.2.2.2.2.2.2⟩ : _ ∧ _ ∧ _ ∧ _ ∧ _ ∧ _ ∧ _)
      refine hKK.out _ _ hHeld ?_
      clear hHeld
      intro hHeld
      clear hKK KK
      try simp only [Act.put, List.setIfInBounds_toArray, List.set_cons_zero, List.set_cons_succ]
      have hO3 := own_below hO bT
      have s2 := b2.size
      have s3 := b3.size
      have s4 := bT.size
      have s5 := hB.size
      have gN : Grw u5 w3 (x, RatV.of r.num r.den p p') := ⟨⟨n1.seg.later b3, Nat.le_refl _, Nat.le_trans hsz.1 (by omega), n2.seg.later b3, Nat.le_refl _, Nat.le_trans hsz.2 (by omega)⟩, ofR_low r p p', fun b e => ⟨fun hn ad e2 h => by have h1 := n1.fr hn ad e2; have h2 := (hrow b e).2; omega, fun hn ad e2 h => by have h1 := n2.fr hn ad e2; have h2 := (hrow b e).2; omega⟩⟩
      refine wpAnyH_ready (rs := [15]) (by kernel_rfl) (by simp) ?_
      refine cons' rfl (fun KK hKK => ?_)
      refine step_append_lies _ (by rfl) _ _ _ (by rfl) wA.heap.size 59 i0 _ 4 64 Tryz.underlying25 hi0 hz0 hz1 hz2 rfl (by omega) u5 R.length (cellsF R) (by rfl) hO3
        ⟨w2.heap.size, 0, none⟩ 1 1 (cells4 (x, RatV.of r.num r.den p p')) (by rfl) (by rfl) (World.news_of_block (cs := #[.int .i64 x, .bool (ng r.num), .slice p (ln (am r.num)) (ln (am r.num)), .slice p' (ln r.den) (ln r.den)]) (t := 59) (fr := (0, 0)) hnew) (cells4_one _)
        (by omega) (by simp only [maxLen]; omega) (by omega) (by omega) w3.heap.size rfl ?_
      intro gb cap w9 hown4 hgrow hat hlt4
      have far : ∀ {c o : Nat} {u : Value}, c < wA.heap.size → w3.cell? ⟨c, o, none⟩ = some u → w9.cell? ⟨c, o, none⟩ = some u := fun hc hu => hgrow.cell hu (fun e => by have := hrow _ e.symm; simp only at this; omega)
      refine hKK.out _ _ ⟨far hb hHeld.1, far hb hHeld.2.1, far hb hHeld.2.2.1, far hb hHeld.2.2.2.1, far hwz hHeld.2.2.2.2.1, far hwz hHeld.2.2.2.2.2.1, far hwz hHeld.2.2.2.2.2.2⟩ ?_
      clear hHeld
      intro hHeld
      clear hKK KK
      try simp only [Act.put, List.setIfInBounds_toArray, List.set_cons_zero, List.set_cons_succ]
      have hBT := hB.trans (bT.mono hB.size)
      have I1 := hide' (And.intro (own_push hown4) (And.intro (hBT.trans (below_grown hBT.size (fun k hk => (hrow k hk).1) hgrow)) (grw_push (fun q hq => (hR q hq).later bT) gN (j := R.length + 1) (cap := cap) hgrow hat)))
      clear hown4 hgrow hat far gN hO3 hnew n1 n2
      refine take' 16 (v := ?_) rfl (by kernel_rfl) (by kernel_rfl) (by kernel_rfl) (fun _ _ _ h => h) (Or.inl ⟨by rfl, ?_⟩) (by assumption) ?_
      rotate_left
      · intro w9 hSw
        go_simp
        first | done | with_reducible rfl
      simp only [Act.put, List.setIfInBounds_toArray, List.set_cons_zero, List.set_cons_succ]
      refine wpAnyH_done (by kernel_rfl) ?_ _
      go_wp2
      go_roundw
      case rel => exact ⟨k + 1, by omega, by go_num, R ++ [(x, RatV.of r.num r.den p p')], by rw [List.length_append, hRl]; rfl, by have h := I1.out.1; rw [hRl] at h; exact h, I1.out.2.1, by have h := I1.out.2.2; rw [hRl] at h; exact h, by rw [fo_append, hfo, hfo', fmap_snoc, hr]; show _ ++ [(x, (RatV.of r.num r.den p p').val)] = _; rw [val_ofR]⟩
      case measure => simp [intOf]; omega
    · obtain rfl : k = L.length := by omega
      have i1 : ¬ (L.length : Int) < (L.length : Int) := by omega
      obtain ⟨a3, c3, rfl, s3⟩ := Sl.of hO
      rw [List.take_length] at hfo
      have G := hide' (GN.out wr a3 c3 R s3 (fun p hp => (hR p hp).ent) hfo)
      rw [hfo, hTT.out] at G
      clear GN hO hR s3 hfo hRl
      go_wp2_with fail
      refine G.out.mono ?_
      rintro e w9 h9
      have h8 := h9.from (bA.trans (hB.mono bA.size))
      obtain ⟨a2, c2, R2, rfl, h7⟩ := h8
      clear h9
      go_wp2
      go_ret
      exact ⟨a2, c2, R2, rfl, h7⟩
end Go.Proofs.YtkflbhkcofmaoaaGreat

namespace Go.Proofs.YtkflbhkcofmaoaaGreat
set_option linter.unusedVariables false

/-- the sign of the first coefficient -/
def hd : Fo → Int
  | [] => 0
  | p :: _ => sgn p.2.num
/-- it is the sign of the first coefficient that is not 0 -/
def Ld (c : Int → Rat) (s : Int) : Prop := (s = 0 ∧ ∀ x, c x = 0) ∨ (s ≠ 0 ∧ ∃ x, sgn (c x).num = s ∧ ∀ y, y < x → c y = 0)
theorem Ld.uniq {c : Int → Rat} {s t : Int} (h : Ld c s) (k : Ld c t) : s = t := by
  rcases h with ⟨rfl, h⟩ | ⟨hs, x, hx, h⟩
  · rcases k with ⟨rfl, _⟩ | ⟨ht, y, hy, _⟩
    · rfl
    · rw [h y] at hy; exact hy
  · rcases k with ⟨rfl, k⟩ | ⟨ht, y, hy, k⟩
    · rw [k x] at hx; exact hx.symm
    · rcases Int.lt_trichotomy x y with e | e | e
      · rw [k x e] at hx; exact absurd hx.symm hs
      · rw [← hx, ← hy, e]
      · rw [h y e] at hy; exact absurd hy.symm ht
theorem Ld.congr {c d : Int → Rat} {s : Int} (h : Ld c s) (e : ∀ x, c x = d x) : Ld d s := by
  have : c = d := funext e
  rw [← this]; exact h
theorem sgn_le {r : Rat} : sgn r.num ≤ 0 ↔ r ≤ 0 := by
  have h1 := Rat.num_nonneg (q := r)
  have h2 := Rat.num_eq_zero (q := r)
  unfold sgn
  split
  · rename_i h
    have : ¬ 0 ≤ r := fun k => by have := h1.2 k; omega
    exact ⟨fun _ => by grind, fun _ => by omega⟩
  · split
    · rename_i h k
      have := h2.1 k
      exact ⟨fun _ => by rw [this]; exact Rat.le_refl, fun _ => by omega⟩
    · rename_i h k
      have a : 0 ≤ r := h1.1 (by omega)
      have b : r ≠ 0 := fun e => k (h2.2 e)
      exact ⟨fun e => by omega, fun e => absurd (show r = 0 by grind) b⟩
/-- two that are not above 0 -/
theorem Ld.add {c d : Int → Rat} {s t u : Int} (h : Ld c s) (k : Ld d t) (j : Ld (fun x => c x + d x) u) (hs : s ≤ 0) (ht : t ≤ 0) : u ≤ 0 := by
  rcases h with ⟨rfl, h⟩ | ⟨hs0, x, hx, h⟩
  · have : u = t := j.uniq (k.congr fun y => by rw [h y, Rat.zero_add])
    omega
  · rcases k with ⟨rfl, k⟩ | ⟨ht0, y, hy, k⟩
    · have : u = s := j.uniq ((show Ld c s from Or.inr ⟨hs0, x, hx, h⟩).congr fun y => by rw [k y, Rat.add_zero])
      omega
    · have cx : c x ≤ 0 := sgn_le.1 (by omega)
      have dy : d y ≤ 0 := sgn_le.1 (by omega)
      have cx0 : c x ≠ 0 := fun e => by rw [e] at hx; exact hs0 hx.symm
      have dy0 : d y ≠ 0 := fun e => by rw [e] at hy; exact ht0 hy.symm
      have mk : ∀ z, (∀ y', y' < z → c y' + d y' = 0) → c z + d z ≤ 0 → c z + d z ≠ 0 → u ≤ 0 := fun z h1 h2 h3 => by
        have e : u = sgn (c z + d z).num := j.uniq (Or.inr ⟨fun e => h3 ((sgn_num _).1 e), z, rfl, h1⟩)
        rw [e]
        exact sgn_le.2 h2
      rcases Int.lt_trichotomy x y with e | e | e
      · refine mk x (fun z hz => by rw [h z hz, k z (by omega)]; exact Rat.add_zero _) (by rw [k x e, Rat.add_zero]; exact cx) (by rw [k x e, Rat.add_zero]; exact cx0)
      · subst e
        exact mk x (fun z hz => by rw [h z hz, k z hz]; exact Rat.add_zero _) (by grind) (by grind)
      · refine mk y (fun z hz => by rw [h z (by omega), k z hz]; exact Rat.add_zero _) (by rw [h y e, Rat.zero_add]; exact dy) (by rw [h y e, Rat.zero_add]; exact dy0)

end Go.Proofs.YtkflbhkcofmaoaaGreat

namespace Go.Proofs.YtkflbhkcofmaoaaGreat
open Go.RowKit
set_option linter.unusedVariables false
set_option linter.unusedSimpArgs false

set_option maxHeartbeats 2000000 in
set_option maxRecDepth 100000 in
theorem vlAddF_is (a : Option Addr) (ca : Nat) (L : List Mo) (b : Option Addr) (cb : Nat) (M : List Mo) (w : World) (sa : Sl w a ca L) (sb : Sl w b cb M) (hL : ∀ p ∈ L, p.2.ok w ∧ p.2.n ≤ 1099511627776 ∧ p.2.m ≤ 1099511627776) (hM : ∀ p ∈ M, p.2.ok w ∧ p.2.n ≤ 1099511627776 ∧ p.2.m ≤ 1099511627776) (hm : L.length + M.length ≤ 1048576) (hw : ∀ k x, sz 1099511627776 (co x ((fo L ++ fo M).take k))) :
    Calls Tryz.prog 24 #[.slice a L.length ca, .slice b M.length cb] w (FAns w (nfm (fo L ++ fo M))) := by
  have GN := hide' (fun w' (hb : Below w.heap.size w w') a3 c3 (s3 : Sl w' a3 c3 (L ++ M)) => vlNormF_is a3 c3 (L ++ M) w' s3.lies (fun p hp => by rcases List.mem_append.1 hp with h | h; exact ⟨(hL p h).1.later hb, (hL p h).2⟩; exact ⟨(hM p h).1.later hb, (hM p h).2⟩) s3.len (by rw [List.length_append]; omega) (fun k x => by rw [show fo ((L ++ M).take k) = (fo L ++ fo M).take k by rw [← fo_append]; unfold fo; rw [List.map_take]]; exact hw k x))
  rw [← fo_append]
  obtain ⟨TT, hTT⟩ : ∃ TT, nfm (fo (L ++ M)) = TT := ⟨_, rfl⟩
  rw [hTT] at GN ⊢
  clear hL hM hw hTT
  have hm1 : ([] : List Mo).length + L.length ≤ 4194304 := by simp only [List.length_nil]; omega
  have hm2 : L.length + M.length ≤ 4194304 := by omega
  have hO0 : w.ownsRow w.heap.size 59 4 (.slice none 0 0) ([] : List Mo).length (cellsF []) := World.ownsRow_nil _ _ _ _
  have hle := Nat.le_refl w.heap.size
  go_enter Tryz.func24, Tryz.ntmps24
  go_wp2_with (at_builtin; refine wpList_append_form (by rfl) _ _ _ (by rfl) w.heap.size (.slice none 0 0) [] L a ca Tryz.underlying25 (by rfl) (by rfl) hO0 sa hm1 hle ?_)
  intro v1 w1 hO1 hg1 hat1
  have b1 : Below w.heap.size w w1 := below_grown (Nat.le_refl _) (fun k h => by simp [Value.ownBlock] at h) hg1
  have hs1 := b1.size
  have sb1 := sb.later b1
  have hrow1 : ∀ k, v1.ownBlock = some k → w.heap.size ≤ k := fun k hk => by rcases hat1 with h | h; (rw [h] at hk; simp [Value.ownBlock] at hk); (rw [h] at hk; obtain rfl := Option.some.inj hk; exact Nat.le_refl _)
  replace hO1 : w1.ownsRow w.heap.size 59 4 v1 L.length (cellsF L) := by simpa using hO1
  clear hO0 hg1 hat1 sa sb
  go_wp2_with (at_builtin; refine wpList_append_form (by rfl) _ _ _ (by rfl) w.heap.size v1 L M b cb Tryz.underlying25 (by rfl) (by rfl) hO1 sb1 hm2 hs1 ?_)
  intro v2 w2 hO2 hg2 hat2
  have b2 : Below w.heap.size w1 w2 := below_grown hs1 hrow1 hg2
  have hB := b1.trans b2
  replace hO2 : w2.ownsRow w.heap.size 59 4 v2 (L ++ M).length (cellsF (L ++ M)) := by rw [List.length_append]; first | exact hO2 | simpa using hO2
  obtain ⟨a3, c3, rfl, s3⟩ := Sl.of hO2
  have G := hide' (GN.out _ hB a3 c3 s3)
  clear GN hO2 hg2 hat2 hO1 hrow1 sb1 s3
  obtain ⟨nn, hnn⟩ : ∃ nn, (L ++ M).length = nn := ⟨_, rfl⟩
  rw [hnn] at G ⊢
  clear hnn
  go_wp2_with fail
  refine G.out.mono ?_
  rintro e w3 h3
  have h4 := h3.from hB
  obtain ⟨a4, c4, R4, rfl, h5⟩ := h4
  clear h3
  go_wp2
  go_ret
  exact ⟨a4, c4, R4, rfl, h5⟩
end Go.Proofs.YtkflbhkcofmaoaaGreat
