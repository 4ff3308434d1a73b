/-
  Layer 6: the reference's Prime.
-/
import Derived.Test.YtkfhllonjgcbkaaGreatWL7
import Derived.Test.YtkfhllonjgcbkaaGreatWQE
import Derived.Test.YtkfhllonjgcbkaaGreatWO0
import Derived.Test.YtkfhllonjgcbkaaGreatWQ8
import Derived.Test.YtkfhllonjgcbkaaGreatWN5
import Derived.Laws.OwnMore
import Derived.Test.YtkfhllonjgcbkaaGreatWQ9
import Derived.Test.YtkfhllonjgcbkaaGreatWN7
import Derived.Test.YtkfhllonjgcbkaaGreatWN9
import Derived.Test.YtkfhllonjgcbkaaGreatW13
import Derived.Test.YtkfhllonjgcbkaaGreatW14
import Derived.Test.YtkfhllonjgcbkaaGreatWQ0
import Derived.Test.YtkfhllonjgcbkaaGreatWN11
import Derived.Test.YtkfhllonjgcbkaaGreatWK2
import Derived.Test.YtkfhllonjgcbkaaGreatW18
namespace Go.Proofs.YtkfhllonjgcbkaaGreat
open Go.RowKit
set_option linter.unusedVariables false

set_option maxHeartbeats 2000000 in
set_option maxRecDepth 100000 in
theorem vlzero_is (w : World) : Calls Tryz.prog 73 #[] w fun e w' => ∃ p q, e = .returned (.agg #[.bool false, .slice p 0 0, .slice q 1 1]) ∧ New w w' p 0 0 ∧ New w w' q 1 1 := by
  have G2' := fun w' => vqWhole_is 0 w' (by omega) (by omega)
  have z1 : ng 0 = false := rfl
  have z2 : ln (am 0) = 0 := ln_zero
  have z3 : am 0 = 0 := rfl
  rw [z1, z2, ln_one, z3] at G2'
  have G2 := hide' G2'
  clear G2' z1 z2 z3
  go_enter Tryz.func73, Tryz.ntmps73
  go_wp2_with fail
  obtain ⟨W, hW⟩ : ∃ W, (w.alloc (.cells #[.bool false, .slice none 0 0, .slice none 0 0] 29)) = W := ⟨_, rfl⟩
  have r00 : W.cell? ⟨w.heap.size, 0, none⟩ = some (.bool false) := by subst hW; go_simp
  have r01 : W.cell? ⟨w.heap.size, 1, none⟩ = some (.slice none 0 0) := by subst hW; go_simp
  have r02 : W.cell? ⟨w.heap.size, 2, none⟩ = some (.slice none 0 0) := by subst hW; go_simp
  have hB : Below w.heap.size w W := by subst hW; exact ((Below.refl _ _).alloc (by (try simp only [World.size_alloc]); omega) _)
  have hR0 : Row W (w.heap.size) := by
    have := row_new (w) #[.bool false, .slice none 0 0, .slice none 0 0] 29
    try simp only [World.size_alloc] at this
    subst hW; exact this
  have hz : W.heap.size = w.heap.size + 1 := by subst hW; simp only [World.size_alloc]
  rw [hW]
  clear hW
  have hBW : Below W.heap.size W W := Below.refl _ _
  refine (G2.out _).mono ?_
  rintro e w1 ⟨p1, q1, rfl, hp1, hq1⟩
  have b1 := hp1.below
  replace hp1 := hp1.back hBW
  replace hq1 := hq1.back hBW
  replace hBW := hBW.trans (b1.mono hBW.size)
  replace r00 := below_cell b1 r00
  replace r01 := below_cell b1 r01
  replace r02 := below_cell b1 r02
  replace hR0 := below_row b1 hR0
  have fz0 := fun o => hR0.frozen o
  go_wp2
  all_goals refine bodyPost_ret (v := Value.agg #[Value.bool false, Value.slice p1 0 0, Value.slice q1 1 1]) (by rw [results_cell rfl]; go_simp) rfl ?_
  all_goals exact ⟨p1, q1, rfl, hp1.mid hB (((((Mid.refl _ _ _).set _ _ (by omega) (by omega) _).set _ _ (by omega) (by omega) _).set _ _ (by omega) (by omega) _)), hq1.mid hB (((((Mid.refl _ _ _).set _ _ (by omega) (by omega) _).set _ _ (by omega) (by omega) _).set _ _ (by omega) (by omega) _))⟩

end Go.Proofs.YtkfhllonjgcbkaaGreat

namespace Go.Proofs.YtkfhllonjgcbkaaGreat
open Go.RowKit
set_option linter.unusedVariables false
set_option linter.unusedSimpArgs false

/-- an answer that is a number in lowest terms, in memory that was not there -/
def FrAns (w : World) (r : Rat) (e : Ending) (w' : World) : Prop :=
  ∃ p q, e = .returned (.agg #[.bool (ng r.num), .slice p (ln (am r.num)) (ln (am r.num)), .slice q (ln r.den) (ln r.den)]) ∧ Below w.heap.size w w' ∧ Seg w' p (am r.num) (ln (am r.num)) ∧ Seg w' q r.den (ln r.den) ∧ Fresh w p (ln (am r.num)) ∧ Fresh w q (ln r.den)

/-- what the loop keeps: the sum's variable lies in block c, the answer's in block r -/
def CInv (w : World) (rb c : Nat) (s : Rat) (wr : World) : Prop :=
  ∃ (p p' : Option Addr), Thr wr c (.bool (ng s.num)) (.slice p (ln (am s.num)) (ln (am s.num))) (.slice p' (ln s.den) (ln s.den)) ∧ Thr wr rb (.bool false) (.slice none 0 0) (.slice none 0 0) ∧
    Seg wr p (am s.num) (ln (am s.num)) ∧ Seg wr p' s.den (ln s.den) ∧ Fresh w p (ln (am s.num)) ∧ Fresh w p' (ln s.den) ∧ Below w.heap.size w wr
theorem co_snoc (x : Int) (l : Fo) (p : Int × Rat) : co x (l ++ [p]) = co x l + (if p.1 = x then p.2 else 0) := by
  rw [co_append]
  simp only [co]
  rw [Rat.add_zero]
theorem wts_take (L : List Mo) (k : Nat) : wts (fo (L.take k)) ≤ wts (fo L) := by
  have h : fo L = fo (L.take k) ++ fo (L.drop k) := by rw [← fo_append, List.take_append_drop]
  rw [h, wts_append]
  omega
theorem low_addN (s : Rat) (q : RatV) : Low (rn (ng s.num) (am s.num) s.den * (rd q.Y : Nat) + rn q.s q.X q.Y * (rd s.den : Nat)) ((rd s.den : Nat) * (rd q.Y : Nat)) (s + q.val).num (s + q.val).den := by
  have h := low_add (RatV.of s.num s.den none none) q
  rw [val_ofR] at h
  exact h

set_option maxHeartbeats 4000000 in
set_option maxRecDepth 100000 in
theorem vlCoefF_is (a : Option Addr) (cap : Nat) (L : List Mo) (x : Int) (w : World) (hF : FAt w a L) (hok : ∀ p ∈ L, p.2.ok w ∧ p.2.n ≤ 1099511627776 ∧ p.2.m ≤ 1099511627776) (hc : L.length ≤ cap) (hm : L.length ≤ 1048576) (hw : ∀ k, sz 1099511627776 (co x (fo (L.take k)))) :
    Calls Tryz.prog 46 #[.slice a L.length cap, .int .i64 x] w (FrAns w (co x (fo L))) := by
  obtain ⟨TT, hTT⟩ : ∃ TT, co x (fo L) = TT := ⟨_, rfl⟩
  rw [hTT]
  replace hTT := hide' hTT
  go_enter Tryz.func46, Tryz.ntmps46
  go_wp2_with fail
  obtain ⟨W, hW⟩ : ∃ W, (w.alloc (.cells #[.bool false, .slice none 0 0, .slice none 0 0] 29)) = W := ⟨_, rfl⟩
  have r00 : W.cell? ⟨w.heap.size, 0, none⟩ = some (.bool false) := by subst hW; go_simp
  have r01 : W.cell? ⟨w.heap.size, 1, none⟩ = some (.slice none 0 0) := by subst hW; go_simp
  have r02 : W.cell? ⟨w.heap.size, 2, none⟩ = some (.slice none 0 0) := by subst hW; go_simp
  have hB : Below w.heap.size w W := by subst hW; exact ((Below.refl _ _).alloc (by (try simp only [World.size_alloc]); omega) _)
  have hR0 : Row W (w.heap.size) := by
    have := row_new (w) #[.bool false, .slice none 0 0, .slice none 0 0] 29
    try simp only [World.size_alloc] at this
    subst hW; exact this
  have hz : W.heap.size = w.heap.size + 1 := by subst hW; simp only [World.size_alloc]
  rw [hW]
  clear hW
  have hBW : Below W.heap.size W W := Below.refl _ _
  refine (vlzero_is _).mono ?_
  rintro e w1 ⟨p1, q1, rfl, hp1, hq1⟩
  have b1 := hp1.below
  replace hp1 := hp1.back hBW
  replace hq1 := hq1.back hBW
  replace hBW := hBW.trans (b1.mono hBW.size)
  replace r00 := below_cell b1 r00
  replace r01 := below_cell b1 r01
  replace r02 := below_cell b1 r02
  replace hR0 := below_row b1 hR0
  go_wp2_with fail
  obtain ⟨wS, hwS⟩ : ∃ wS, w1.alloc (.cells #[.bool false, .slice p1 0 0, .slice q1 1 1] 29) = wS := ⟨_, rfl⟩
  have s : Thr wS w1.heap.size (.bool false) (.slice p1 0 0) (.slice q1 1 1) := ⟨⟨by subst hwS; go_simp, by subst hwS; go_simp, by subst hwS; go_simp⟩, by subst hwS; exact row_new w1 _ 29⟩
  have bS : Below w1.heap.size w1 wS := by subst hwS; exact below_alloc _
  rw [hwS]
  clear hwS
  have hcr : w.heap.size < w1.heap.size := hR0.lt
  have hr : Thr wS w.heap.size (.bool false) (.slice none 0 0) (.slice none 0 0) := Thr.later ⟨⟨r00, r01, r02⟩, hR0⟩ bS
  have I0 : CInv w w.heap.size w1.heap.size (co x (fo (L.take 0))) wS := by
    show CInv w w.heap.size w1.heap.size 0 wS
    refine ⟨p1, q1, ?_, hr, ?_, ?_, ?_, ?_, (hB.trans (hBW.mono hB.size)).trans (bS.mono (Nat.le_of_lt hcr))⟩
    · show Thr wS w1.heap.size (.bool (ng 0)) (.slice p1 (ln (am 0)) (ln (am 0))) (.slice q1 (ln 1) (ln 1))
      rw [show am 0 = 0 from rfl, ln_zero, ln_one]; exact s
    · show Seg wS p1 (am 0) (ln (am 0)); rw [show am 0 = 0 from rfl, ln_zero]; exact Seg.nil _ _
    · show Seg wS q1 1 (ln 1); rw [ln_one]; exact hq1.seg.later bS
    · show Fresh w p1 (ln (am 0)); rw [show am 0 = 0 from rfl, ln_zero]; exact fun h => absurd h (by omega)
    · show Fresh w q1 (ln 1); rw [ln_one]; exact hq1.fr.mono hB.size
  generalize w1.heap.size = c at *
  go_loopw [6] (fun vi wr => ∃ k : Nat, k ≤ L.length ∧ vi = .int .i64 k ∧ CInv w w.heap.size c (co x (fo (L.take k))) wr) (fun vi _ => L.length - (intOf vi).toNat)
  case atStart => exact ⟨0, Nat.zero_le _, rfl, I0⟩
  case round =>
    clear I0 s hr bS hp1 hq1 r00 r01 r02 hR0 hBW hB hz
    obtain ⟨k, hk, rfl, p, p', s, hr, hS, hT, f1, f2, hB⟩ := hrel
    by_cases hlt : k < L.length
    · obtain ⟨pk, hpk⟩ : ∃ p, L[k]? = some p := ⟨L[k], List.getElem?_eq_getElem hlt⟩
      obtain ⟨b, off, rfl, hb, hcell⟩ := hF (by intro e; rw [e] at hlt; simp at hlt)
      obtain ⟨c0, c1, c2, c3⟩ := hcell k pk hpk
      replace c0 := below_cell hB c0
      replace c1 := below_cell hB c1
      replace c2 := below_cell hB c2
      replace c3 := below_cell hB c3
      obtain ⟨hq, l1, l2⟩ := hok pk (List.mem_of_getElem? hpk)
      obtain ⟨t1, t2⟩ := take_split hpk
      have hfo : co x (fo (L.take (k + 1))) = co x (fo (L.take k)) + (if pk.1 = x then pk.2.val else 0) := by rw [t1, fo_append]; exact co_snoc x _ _
      clear t1 t2 hpk
      have hsz := hw k
      obtain ⟨y, q⟩ := pk
      simp only at c0 c1 c2 c3 hq l1 l2 hfo
      obtain ⟨sk, hsk⟩ : ∃ sk, co x (fo (L.take k)) = sk := ⟨_, rfl⟩
      rw [hsk] at s hS hT f1 f2 hfo hsz
      clear hsk
      have i0 : (0 : Int) ≤ (k : Int) := by omega
      have i1 : (k : Int) < (L.length : Int) := by omega
      by_cases hyx : y = x
      · rw [if_pos hyx] at hfo
        subst hyx
        have GA := hide' (fun w' k1 k2 k3 k4 => vqAdd_is (ng sk.num) p (ln (am sk.num)) (ln (am sk.num)) (am sk.num) p' (ln sk.den) (ln sk.den) sk.den q.s q.a q.n q.c q.X q.b q.m q.e q.Y (sk + q.val).num (sk + q.val).den w' (Nat.le_refl _) (Nat.le_trans hsz.1 (by omega)) k1 (Nat.le_refl _) (Nat.le_trans hsz.2 (by omega)) k2 hq.2.1 (by omega) k3 hq.2.2.2.2.1 (by omega) k4 (low_addN sk q))
        obtain ⟨sn, hsn⟩ : ∃ sn, sk + q.val = sn := ⟨_, rfl⟩
        rw [hsn] at GA hfo
        clear hsn
        have k3 := hq.1.later hB
        have k4 := hq.2.2.2.1.later hB
        clear hq hcell
        obtain ⟨⟨s0, s1, s2⟩, sR⟩ := s
        go_wp2_with fail
        have bD : Below wr.heap.size wr wr.drew := (Below.refl _ _).drew
        have kc1 := below_cell bD c1
        have kc2 := below_cell bD c2
        have kc3 := below_cell bD c3
        replace hB := hB.trans (bD.mono hB.size)
        replace k3 := k3.later bD
        replace k4 := k4.later bD
        replace hS := hS.later bD
        replace hT := hT.later bD
        replace hr := hr.later bD
        replace s0 := below_cell bD s0
        replace s1 := below_cell bD s1
        replace s2 := below_cell bD s2
        replace sR := below_row bD sR
        refine wp_region_held_drew (S := fun w' => w'.cell? ⟨b, off + k * 4 + 1, none⟩ = some (.bool q.s) ∧ w'.cell? ⟨b, off + k * 4 + 1 + 1, none⟩ = some (.slice q.a q.n q.c) ∧ w'.cell? ⟨b, off + k * 4 + 1 + 2, none⟩ = some (.slice q.b q.m q.e)) (by kernel_rfl) ⟨kc1, kc2, kc3⟩ (fun hHeld => ?_)
        clear kc1 kc2 kc3
        generalize wr.drew = w0 at bD k3 k4 hS hT hr s0 s1 s2 sR hB hHeld ⊢
        clear c0 c1 c2 c3 bD
        refine take' 1 (v := ?_) rfl (by kernel_rfl) (by kernel_rfl) (by kernel_rfl) (fun _ _ _ h => h) (Or.inl ⟨by rfl, ?_⟩) (by assumption) ?_
        rotate_left
        · intro w9 hSw
          go_simp
          first | done | with_reducible rfl
        simp only [Act.put, List.setIfInBounds_toArray, List.set_cons_zero, List.set_cons_succ]
        refine take' 2 (v := ?_) rfl (by kernel_rfl) (by kernel_rfl) (by kernel_rfl) (fun _ _ _ h => h) (Or.inl ⟨by rfl, ?_⟩) (by assumption) ?_
        rotate_left
        · intro w9 hSw
          go_simp
          first | done | with_reducible rfl
        simp only [Act.put, List.setIfInBounds_toArray, List.set_cons_zero, List.set_cons_succ]
        refine take' 3 (v := ?_) rfl (by kernel_rfl) (by kernel_rfl) (by kernel_rfl) (fun _ _ _ h => h) (Or.inl ⟨by rfl, ?_⟩) (by assumption) ?_
        rotate_left
        · intro w9 hSw
          go_simp
          first | done | with_reducible rfl
        simp only [Act.put, List.setIfInBounds_toArray, List.set_cons_zero, List.set_cons_succ]
        refine take' 4 (v := ?_) rfl (by kernel_rfl) (by kernel_rfl) (by kernel_rfl) (fun _ _ _ h => h) (Or.inl ⟨by rfl, ?_⟩) (by assumption) ?_
        rotate_left
        · intro w9 hSw
          go_simp
          first | done | with_reducible rfl
        simp only [Act.put, List.setIfInBounds_toArray, List.set_cons_zero, List.set_cons_succ]
        refine take' 5 (v := ?_) rfl (by kernel_rfl) (by kernel_rfl) (by kernel_rfl) (fun _ _ _ h => h) (Or.inl ⟨by rfl, ?_⟩) (by assumption) ?_
        rotate_left
        · intro w9 hSw
          go_simp
          first | done | with_reducible rfl
        simp only [Act.put, List.setIfInBounds_toArray, List.set_cons_zero, List.set_cons_succ]
        refine wpAnyH_ready (rs := [0]) (by kernel_rfl) (by simp) ?_
        refine cons' rfl (fun KK hKK => ?_)
        go_simp
        refine hKK.out _ _ hHeld ?_
        clear hHeld
        intro hHeld
        clear hKK KK
        try simp only [Act.put, List.setIfInBounds_toArray, List.set_cons_zero, List.set_cons_succ]
        refine wpAnyH_ready (rs := [6]) (by kernel_rfl) (by simp) ?_
        refine cons' rfl (fun KK hKK => ?_)
        have hsA := hB.size
        go_simp
        refine (GA.out _ hS hT k3 k4).mono ?_
        rintro e w2 ⟨x1, x2, rfl, n1, n2⟩
        have b2 := n1.below
        replace hB := hB.trans (b2.mono hB.size)
        replace k3 := k3.later b2
        replace k4 := k4.later b2
        replace hS := hS.later b2
        replace hT := hT.later b2
        replace hr := hr.later b2
        replace s0 := below_cell b2 s0
        replace s1 := below_cell b2 s1
        replace s2 := below_cell b2 s2
        replace sR := below_row b2 sR
        replace hHeld := (⟨below_cell b2 hHeld.1, below_cell b2 hHeld.2.1, below_cell b2 hHeld.2.2⟩ : _ ∧ _ ∧ _)
        go_wp2_with fail
        refine hKK.out _ _ hHeld ?_
        clear hHeld
        intro hHeld
        clear hKK KK
        try simp only [Act.put, List.setIfInBounds_toArray, List.set_cons_zero, List.set_cons_succ]
        refine wpAnyH_ready (rs := [7]) (by kernel_rfl) (by simp) ?_
        refine cons' rfl (fun KK hKK => ?_)
        have fz := fun o => sR.frozen o
        have vS : Thr w2 c (.bool (ng sk.num)) (.slice p (ln (am sk.num)) (ln (am sk.num))) (.slice p' (ln sk.den) (ln sk.den)) := ⟨⟨s0, s1, s2⟩, sR⟩
        have I1 : CInv w w.heap.size c sn (set3 w2 c (.bool (ng sn.num)) (.slice x1 (ln (am sn.num)) (ln (am sn.num))) (.slice x2 (ln sn.den) (ln sn.den))) := ⟨x1, x2, vS.put, hr.far (by omega), vS.seg (by simp) (by simp) (by simp) n1.seg, vS.seg (by simp) (by simp) (by simp) n2.seg, n1.fr.mono hsA, n2.fr.mono hsA, below_set3 hB (by omega)⟩
        replace I1 := hide' I1
        go_simp
        refine hKK.out _ _ ⟨by rw [set3_far (by omega)]; exact hHeld.1, by rw [set3_far (by omega)]; exact hHeld.2.1, by rw [set3_far (by omega)]; exact hHeld.2.2⟩ ?_
        clear hHeld
        intro hHeld
        clear hKK KK
        try simp only [Act.put, List.setIfInBounds_toArray, List.set_cons_zero, List.set_cons_succ]
        refine wpAnyH_done (by kernel_rfl) ?_ _
        go_wp2
        go_roundw
        case rel => exact ⟨k + 1, by omega, by go_num, by rw [hfo]; exact I1.out⟩
        case measure => simp [intOf]; omega
      · rw [if_neg hyx, Rat.add_zero] at hfo
        have I1 : CInv w w.heap.size c sk wr := ⟨p, p', s, hr, hS, hT, f1, f2, hB⟩
        replace I1 := hide' I1
        have hb1 : (y == x) = false := by simp [hyx]
        go_wp2
        go_roundw
        case rel => exact ⟨k + 1, by omega, by go_num, by rw [hfo]; exact I1.out⟩
        case measure => simp [intOf]; omega
    · obtain rfl : k = L.length := by omega
      have i1 : ¬ (L.length : Int) < (L.length : Int) := by omega
      rw [List.take_length] at s hS hT f1 f2
      rw [hTT.out] at s hS hT f1 f2
      generalize TT = sk at *
      obtain ⟨⟨s0, s1, s2⟩, sR⟩ := s
      obtain ⟨⟨r0, r1, r2⟩, rR⟩ := id hr
      have fz0 := fun o => rR.frozen o
      go_wp2
      all_goals refine bodyPost_ret (v := Value.agg #[Value.bool (ng sk.num), Value.slice p (ln (am sk.num)) (ln (am sk.num)), Value.slice p' (ln sk.den) (ln sk.den)]) (by rw [results_cell rfl]; go_simp) rfl ?_
      all_goals exact ⟨p, p', rfl, below_set3 hB (Nat.le_refl _), hr.seg (by simp) (by simp) (by simp) hS, hr.seg (by simp) (by simp) (by simp) hT, f1, f2⟩
end Go.Proofs.YtkfhllonjgcbkaaGreat

namespace Go.Proofs.YtkfhllonjgcbkaaGreat
open Go.RowKit
set_option linter.unusedVariables false
set_option linter.unusedSimpArgs false

/-- numbers in a row -/
def iv (zs : List Int) : List Value := zs.map (Value.int .i64)
theorem iv_append (zs ys : List Int) : iv (zs ++ ys) = iv zs ++ iv ys := List.map_append
theorem iv_at {zs : List Int} {i : Nat} {z : Int} (h : zs[i]? = some z) : (iv zs)[i]? = some (.int .i64 z) := by unfold iv; rw [List.getElem?_map, h]; rfl
theorem iv_set (zs : List Int) (i : Nat) (z : Int) : (iv zs).set i (.int .i64 z) = iv (zs.set i z) := by unfold iv; rw [List.map_set]
def IAt (W : World) (a : Option Addr) (zs : List Int) : Prop :=
  zs ≠ [] → ∃ b off, a = some ⟨b, off, none⟩ ∧ b < W.heap.size ∧ ∀ i z, zs[i]? = some z → W.cell? ⟨b, off + i, none⟩ = some (.int .i64 z)
theorem IAt.later {w w' : World} {a : Option Addr} {zs : List Int} (h : IAt w a zs) (hb : Below w.heap.size w w') : IAt w' a zs := fun hn => by
  obtain ⟨b, off, e, hl, hc⟩ := h hn
  exact ⟨b, off, e, Nat.lt_of_lt_of_le hl hb.size, fun i z hi => below_cell hb (hc i z hi)⟩
/-- a row of the call's own is a list of numbers -/
theorem own_ints {w : World} {base : Nat} {e : TypeId} {v : Value} {zs : List Int} (h : w.ownsRow base e 1 v zs.length (iv zs)) : ∃ a cap, v = .slice a zs.length cap ∧ zs.length ≤ cap ∧ IAt w a zs := by
  rcases h.2 with ⟨rfl, h0⟩ | ⟨g, cap, cur, rfl, hb, hg, hc, hm, _, _⟩
  · exact ⟨none, 0, by rw [h0], by omega, fun hn => absurd (List.eq_nil_of_length_eq_zero h0) hn⟩
  · refine ⟨_, cap, rfl, hc, fun hn => ⟨g, 0, rfl, (Array.getElem?_eq_some_iff.1 hg).1, fun i z hi => ?_⟩⟩
    have hil := (List.getElem?_eq_some_iff.1 hi).1
    have k1 := h.cellAt i (by omega)
    rw [iv_at hi] at k1
    rw [Nat.zero_add]
    exact k1

/-- the numbers so far, rising, each once -/
structure Srt (ys zs : List Int) : Prop where
  up : ys.Pairwise (· < ·)
  mem : ∀ z, z ∈ ys ↔ z ∈ zs
  len : ys.length ≤ zs.length
theorem Srt.same {ys zs : List Int} {x : Int} {j : Nat} (h : Srt ys zs) (hj : ys[j]? = some x) : Srt ys (zs ++ [x]) :=
  ⟨h.up, fun z => by
    rw [List.mem_append, List.mem_singleton, ← h.mem z]
    constructor
    · exact Or.inl
    · rintro (h1 | rfl)
      · exact h1
      · exact List.mem_of_getElem? hj, by have := h.len; rw [List.length_append]; omega⟩
theorem Srt.put {ys zs : List Int} {x : Int} {j : Nat} (h : Srt ys zs) (hj : j ≤ ys.length) (h1 : ∀ i y, i < j → ys[i]? = some y → y < x) (h2 : ∀ y, ys[j]? = some y → x < y) : Srt (ys.take j ++ x :: ys.drop j) (zs ++ [x]) := by
  have hs := h.up
  rw [← List.take_append_drop j ys] at hs
  obtain ⟨u1, u2, u3⟩ := List.pairwise_append.1 hs
  have lo : ∀ y ∈ ys.take j, y < x := fun y hy => by
    obtain ⟨i, hi⟩ := List.getElem?_of_mem hy
    rw [List.getElem?_take] at hi
    split at hi
    · exact h1 i y (by assumption) hi
    · cases hi
  have hi : ∀ y ∈ ys.drop j, x < y := by
    intro y hy
    cases hd : ys.drop j with
    | nil => rw [hd] at hy; simp at hy
    | cons y0 t =>
      have e0 : ys[j]? = some y0 := by
        have : (ys.drop j)[0]? = some y0 := by rw [hd]; rfl
        rwa [List.getElem?_drop, Nat.add_zero] at this
      have h0 := h2 y0 e0
      rw [hd] at hy u2
      rcases List.mem_cons.1 hy with rfl | hy
      · exact h0
      · have := (List.pairwise_cons.1 u2).1 y hy
        omega
  refine ⟨List.pairwise_append.2 ⟨u1, List.pairwise_cons.2 ⟨hi, u2⟩, fun a ha b hb => ?_⟩, fun z => ?_, ?_⟩
  · rcases List.mem_cons.1 hb with rfl | hb
    · exact lo a ha
    · exact u3 a ha b hb
  · rw [List.mem_append, List.mem_cons, List.mem_append, List.mem_singleton, ← h.mem z]
    have := List.take_append_drop j ys
    constructor
    · rintro (h3 | h3 | h3)
      · exact Or.inl (List.mem_of_mem_take h3)
      · exact Or.inr h3
      · exact Or.inl (List.mem_of_mem_drop h3)
    · rintro (h3 | h3)
      · rw [← this, List.mem_append] at h3
        rcases h3 with h3 | h3
        · exact Or.inl h3
        · exact Or.inr (Or.inr h3)
      · exact Or.inr (Or.inl h3)
  · have := h.len
    simp only [List.length_append, List.length_take, List.length_cons, List.length_drop, List.length_nil]
    omega

/-- what is moved up so far -/
def shf (ys : List Int) (m : Nat) : List Int := (ys ++ [0]).take (m + 1) ++ ys.drop m
theorem shf_length {ys : List Int} {m : Nat} (h : m ≤ ys.length) : (shf ys m).length = ys.length + 1 := by
  unfold shf
  simp only [List.length_append, List.length_take, List.length_drop, List.length_cons, List.length_nil]
  omega
theorem shf_top (ys : List Int) : shf ys ys.length = ys ++ [0] := by
  unfold shf
  rw [List.drop_length, List.append_nil, List.take_of_length_le (by simp)]
theorem shf_at {ys : List Int} {m : Nat} (h : m < ys.length) : (shf ys (m + 1))[m]? = ys[m]? := by
  unfold shf
  rw [List.getElem?_append_left (by simp only [List.length_take, List.length_append, List.length_cons, List.length_nil]; omega), List.getElem?_take, if_pos (by omega), List.getElem?_append_left h]
theorem shf_step {ys : List Int} {m : Nat} {z : Int} (h : m < ys.length) (hz : ys[m]? = some z) : (shf ys (m + 1)).set (m + 1) z = shf ys m := by
  refine List.ext_getElem? fun i => ?_
  rw [List.getElem?_set]
  have e1 : (shf ys (m + 1)).length = ys.length + 1 := shf_length (by omega)
  split
  · rename_i hi
    subst hi
    rw [if_pos (by omega)]
    unfold shf
    rw [List.getElem?_append_right (by simp only [List.length_take, List.length_append, List.length_cons, List.length_nil]; omega), List.getElem?_drop]
    rw [← hz]
    congr 1
    simp only [List.length_take, List.length_append, List.length_cons, List.length_nil]
    omega
  · rename_i hi
    unfold shf
    rcases Nat.lt_or_ge i (m + 1) with h1 | h1
    · rw [List.getElem?_append_left (by simp only [List.length_take, List.length_append, List.length_cons, List.length_nil]; omega), List.getElem?_append_left (by simp only [List.length_take, List.length_append, List.length_cons, List.length_nil]; omega), List.getElem?_take, List.getElem?_take, if_pos (by omega), if_pos (by omega)]
    · rw [List.getElem?_append_right (by simp only [List.length_take, List.length_append, List.length_cons, List.length_nil]; omega), List.getElem?_append_right (by simp only [List.length_take, List.length_append, List.length_cons, List.length_nil]; omega), List.getElem?_drop, List.getElem?_drop]
      congr 1
      simp only [List.length_take, List.length_append, List.length_cons, List.length_nil]
      omega
theorem shf_put {ys : List Int} {j : Nat} {x : Int} (h : j ≤ ys.length) : (shf ys j).set j x = ys.take j ++ x :: ys.drop j := by
  have e : (ys ++ [0]).take (j + 1) = ys.take j ++ ((ys ++ [0])[j]?).toList := by
    rw [List.take_add_one, List.take_append_of_le_length h]
  obtain ⟨z, hz⟩ : ∃ z, (ys ++ [0])[j]? = some z := ⟨_, List.getElem?_eq_getElem (by rw [List.length_append]; simp; omega)⟩
  unfold shf
  rw [e, hz]
  simp only [Option.toList]
  rw [List.append_assoc, List.set_append, if_neg (by rw [List.length_take]; omega)]
  rw [show j - (ys.take j).length = 0 by rw [List.length_take]; omega]
  rfl
end Go.Proofs.YtkfhllonjgcbkaaGreat

namespace Go.Proofs.YtkfhllonjgcbkaaGreat
open Go.RowKit
set_option linter.unusedVariables false
set_option linter.unusedSimpArgs false

theorem info_int : (Tryz.prog.info? 3).map (fun i => (i.zero, i.size, i.bytes)) = some (some (.int .i64 0), 1, 8) := by kernel_rfl
/-- what the outer loop keeps -/
def SInv (w : World) (zs : List Int) (k : Nat) (vo : Value) (wr : World) : Prop :=
  ∃ ys : List Int, wr.ownsRow w.heap.size 3 1 vo ys.length (iv ys) ∧ Below w.heap.size w wr ∧ Srt ys (zs.take k)
/-- an answer that is the numbers, rising, each once -/
def SAns (w : World) (zs : List Int) (e : Ending) (w' : World) : Prop := ∃ vo, e = .returned vo ∧ SInv w zs zs.length vo w'
theorem own_at {w : World} {base : Nat} {e : TypeId} {v : Value} {ys : List Int} (h : w.ownsRow base e 1 v ys.length (iv ys)) {j : Nat} {y : Int} (hj : ys[j]? = some y) : ∃ g cap, v = .slice (some ⟨g, 0, none⟩) ys.length cap ∧ ys.length ≤ cap ∧ base ≤ g ∧ g < w.heap.size ∧ w.cell? ⟨g, j, none⟩ = some (.int .i64 y) := by
  have hl := (List.getElem?_eq_some_iff.1 hj).1
  rcases h.2 with ⟨rfl, h0⟩ | ⟨g, cap, cur, rfl, hb, hg, hc, hm, _, _⟩
  · omega
  · refine ⟨g, cap, rfl, hc, hb, (Array.getElem?_eq_some_iff.1 hg).1, ?_⟩
    have k1 := h.cellAt j (by omega)
    rw [iv_at hj] at k1
    exact k1

set_option maxHeartbeats 8000000 in
set_option maxRecDepth 100000 in
theorem vsorted_is (a : Option Addr) (cap0 : Nat) (zs : List Int) (w : World) (hF : IAt w a zs) (hc : zs.length ≤ cap0) (hm : zs.length ≤ 2097152) :
    Calls Tryz.prog 72 #[.slice a zs.length cap0] w (SAns w zs) := by
  obtain ⟨i0, hi0, hz0, hz1, hz2⟩ := info_parts info_int
  go_enter Tryz.func72, Tryz.ntmps72
  go_wp2_with fail
  go_loopw [3, 4] (fun vo vi wr => ∃ k : Nat, k ≤ zs.length ∧ vi = .int .i64 k ∧ SInv w zs k vo wr) (fun _ vi _ => zs.length - (intOf vi).toNat)
  case atStart => exact ⟨0, Nat.zero_le _, rfl, [], World.ownsRow_nil _ _ _ _, Below.refl _ _, List.Pairwise.nil, fun z => by simp, Nat.le_refl _⟩
  case round =>
    obtain ⟨k, hk, rfl, ys, hO, hB, hY⟩ := hrel
    by_cases hlt : k < zs.length
    · obtain ⟨x, hx⟩ : ∃ x, zs[k]? = some x := ⟨zs[k], List.getElem?_eq_getElem hlt⟩
      obtain ⟨b, off, rfl, hb, hcell⟩ := hF (by intro e; rw [e] at hlt; simp at hlt)
      have hcx := hcell k x hx
      obtain ⟨t1, t2⟩ := take_split hx
      clear t2 hx hcell
      have hyl : ys.length ≤ k := by have := hY.len; rw [List.length_take] at this; omega
      have i0' : (0 : Int) ≤ (k : Int) := by omega
      have i1 : (k : Int) < (zs.length : Int) := by omega
      obtain ⟨n, hn⟩ : ∃ n, ys.length = n := ⟨_, rfl⟩
      have hvs : ∃ ao co, u3 = .slice ao n co := by
        obtain ⟨ao, co, e, _, _⟩ := own_ints hO
        exact ⟨ao, co, by rw [e, hn]⟩
      obtain ⟨ao, co, rfl⟩ := hvs
      have l0 : (0 : Int) ≤ (n : Int) := by omega
      have hnk : n ≤ 2097152 := by omega
      rw [hn] at hO
      have HY := hide' (And.intro hn (And.intro hY (And.intro t1 hyl)))
      clear hn hY t1 hyl
      go_wp2_with fail
      go_loopw [5] (fun vi wr => ∃ j : Nat, j ≤ n ∧ vi = .int .i64 j ∧ wr.ownsRow w.heap.size 3 1 (.slice ao n co) n (iv ys) ∧ Below w.heap.size w wr ∧ ∀ i y, i < j → ys[i]? = some y → y < x) (fun vi _ => n - (intOf vi).toNat)
      case atStart => exact ⟨0, Nat.zero_le _, rfl, hO, hB, fun i y hi => absurd hi (by omega)⟩
      case round =>
        clear hO hB
        obtain ⟨j, hj, rfl, hO, hB, hlo⟩ := hrel
        have j0 : (0 : Int) ≤ (j : Int) := by omega
        have c0 := below_cell hB hcx
        by_cases hjn : j < n
        · obtain ⟨y, hy⟩ : ∃ y, ys[j]? = some y := ⟨ys[j]'(by have := HY.out.1; omega), List.getElem?_eq_getElem _⟩
          obtain ⟨g, cp, hv, hcp, hbg, hgl, cy⟩ := own_at (ys := ys) (by rw [HY.out.1]; exact hO) hy
          rw [HY.out.1] at hv
          simp only [Value.slice.injEq, true_and] at hv
          obtain ⟨rfl, rfl⟩ := hv
          have j1 : (j : Int) < (n : Int) := by omega
          by_cases hyx : y < x
          · go_wp2_with fail
            have bD : Below wr.heap.size wr wr.drew := (Below.refl _ _).drew
            have kcy := below_cell bD cy
            have kc0 := below_cell bD c0
            replace hB := hB.trans (bD.mono hB.size)
            refine wp_region_held_drew (S := fun w' => w'.cell? ⟨g, j, none⟩ = some (.int .i64 y) ∧ w'.cell? ⟨b, off + k, none⟩ = some (.int .i64 x)) (by kernel_rfl) ⟨kcy, kc0⟩ (fun hHeld => ?_)
            clear kcy kc0
            generalize wr.drew = w5 at bD hB hHeld ⊢
            replace hO := own_below hO bD
            replace c0 := below_cell bD c0
            replace cy := below_cell bD cy
            refine take' 0 (v := ?_) rfl (by kernel_rfl) (by kernel_rfl) (by kernel_rfl) (fun _ _ _ h => h) (Or.inl ⟨by rfl, ?_⟩) (by assumption) ?_
            rotate_left
            · intro w9 hSw
              go_simp
              first | done | with_reducible rfl
            simp only [Act.put, List.setIfInBounds_toArray, List.set_cons_zero, List.set_cons_succ]
            refine take' 1 (v := ?_) rfl (by kernel_rfl) (by kernel_rfl) (by kernel_rfl) (fun _ _ _ h => h) (Or.inl ⟨by rfl, ?_⟩) (by assumption) ?_
            rotate_left
            · intro w9 hSw
              go_simp
              first | done | with_reducible rfl
            simp only [Act.put, List.setIfInBounds_toArray, List.set_cons_zero, List.set_cons_succ]
            refine take' 2 (v := ?_) rfl (by kernel_rfl) (by kernel_rfl) (by kernel_rfl) (fun _ _ _ h => h) (Or.inl ⟨by rfl, ?_⟩) (by assumption) ?_
            rotate_left
            · intro w9 hSw
              go_simp
              first | done | with_reducible rfl
            simp only [Act.put, List.setIfInBounds_toArray, List.set_cons_zero, List.set_cons_succ]
            refine take' 3 (v := ?_) rfl (by kernel_rfl) (by kernel_rfl) (by kernel_rfl) (fun _ _ _ h => h) (Or.inl ⟨by rfl, ?_⟩) (by assumption) ?_
            rotate_left
            · intro w9 hSw
              go_simp
              first | done | with_reducible rfl
            simp only [Act.put, List.setIfInBounds_toArray, List.set_cons_zero, List.set_cons_succ]
            try simp only [hjn, decide_true, decide_false, gt_iff_lt, ge_iff_le]
            refine take' 4 (v := ?_) rfl (by kernel_rfl) (by kernel_rfl) (by kernel_rfl) (fun _ _ _ h => h) (Or.inl ⟨by rfl, ?_⟩) (by assumption) ?_
            rotate_left
            · intro w9 hSw
              go_simp
              first | done | with_reducible rfl
            simp only [Act.put, List.setIfInBounds_toArray, List.set_cons_zero, List.set_cons_succ]
            refine take' 5 (v := ?_) rfl (by kernel_rfl) (by kernel_rfl) (by kernel_rfl) (fun _ _ _ h => h) (Or.inl ⟨by rfl, ?_⟩) (by assumption) ?_
            rotate_left
            · intro w9 hSw
              go_simp
              first | done | with_reducible rfl
            simp only [Act.put, List.setIfInBounds_toArray, List.set_cons_zero, List.set_cons_succ]
            refine take' 6 (v := ?_) rfl (by kernel_rfl) (by kernel_rfl) (by kernel_rfl) (fun _ _ _ h => h) (Or.inl ⟨by rfl, ?_⟩) (by assumption) ?_
            rotate_left
            · intro w9 hSw
              go_simp
              first | done | with_reducible rfl
            simp only [Act.put, List.setIfInBounds_toArray, List.set_cons_zero, List.set_cons_succ]
            refine take' 7 (v := ?_) rfl (by kernel_rfl) (by kernel_rfl) (by kernel_rfl) (fun _ _ _ h => h) (Or.inl ⟨by rfl, ?_⟩) (by assumption) ?_
            rotate_left
            · intro w9 hSw
              go_simp
              first | done | with_reducible rfl
            simp only [Act.put, List.setIfInBounds_toArray, List.set_cons_zero, List.set_cons_succ]
            refine take' 8 (v := ?_) rfl (by kernel_rfl) (by kernel_rfl) (by kernel_rfl) (fun _ _ _ h => h) (Or.inl ⟨by rfl, ?_⟩) (by assumption) ?_
            rotate_left
            · intro w9 hSw
              go_simp
              first | done | with_reducible rfl
            simp only [Act.put, List.setIfInBounds_toArray, List.set_cons_zero, List.set_cons_succ]
            refine take' 9 (v := ?_) rfl (by kernel_rfl) (by kernel_rfl) (by kernel_rfl) (fun _ _ _ h => h) (Or.inl ⟨by rfl, ?_⟩) (by assumption) ?_
            rotate_left
            · intro w9 hSw
              go_simp
              first | done | with_reducible rfl
            simp only [Act.put, List.setIfInBounds_toArray, List.set_cons_zero, List.set_cons_succ]
            refine take' 10 (v := ?_) rfl (by kernel_rfl) (by kernel_rfl) (by kernel_rfl) (fun _ _ _ h => h) (Or.inl ⟨by rfl, ?_⟩) (by assumption) ?_
            rotate_left
            · intro w9 hSw
              go_simp
              first | done | with_reducible rfl
            simp only [Act.put, List.setIfInBounds_toArray, List.set_cons_zero, List.set_cons_succ]
            refine take' 11 (v := ?_) rfl (by kernel_rfl) (by kernel_rfl) (by kernel_rfl) (fun _ _ _ h => h) (Or.inl ⟨by rfl, ?_⟩) (by assumption) ?_
            rotate_left
            · intro w9 hSw
              go_simp
              first | done | with_reducible rfl
            simp only [Act.put, List.setIfInBounds_toArray, List.set_cons_zero, List.set_cons_succ]
            refine take' 12 (v := ?_) rfl (by kernel_rfl) (by kernel_rfl) (by kernel_rfl) (fun _ _ _ h => h) (Or.inl ⟨by rfl, ?_⟩) (by assumption) ?_
            rotate_left
            · intro w9 hSw
              go_simp
              first | done | with_reducible rfl
            simp only [Act.put, List.setIfInBounds_toArray, List.set_cons_zero, List.set_cons_succ]
            refine take' 13 (v := ?_) rfl (by kernel_rfl) (by kernel_rfl) (by kernel_rfl) (fun _ _ _ h => h) (Or.inl ⟨by rfl, ?_⟩) (by assumption) ?_
            rotate_left
            · intro w9 hSw
              go_simp
              first | done | with_reducible rfl
            simp only [Act.put, List.setIfInBounds_toArray, List.set_cons_zero, List.set_cons_succ]
            try simp only [hyx, decide_true, decide_false, gt_iff_lt, ge_iff_le]
            refine take' 14 (v := ?_) rfl (by kernel_rfl) (by kernel_rfl) (by kernel_rfl) (fun _ _ _ h => h) (Or.inl ⟨by rfl, ?_⟩) (by assumption) ?_
            rotate_left
            · intro w9 hSw
              go_simp
              first | done | with_reducible rfl
            simp only [Act.put, List.setIfInBounds_toArray, List.set_cons_zero, List.set_cons_succ]
            refine wpAnyH_done (by kernel_rfl) ?_ _
            clear hHeld bD
            go_wp2
            go_roundw
            case rel => exact ⟨j + 1, by omega, by go_num, hO, hB, fun i z hi hz => by
              rcases Nat.lt_or_ge i j with h1 | h1
              · exact hlo i z h1 hz
              · obtain rfl : i = j := by omega
                rw [hy] at hz; obtain rfl := Option.some.inj hz; exact hyx⟩
            case measure => simp [intOf]; omega
          · have hyx2 : ¬ (y : Int) < x := hyx
            by_cases hye : y = x
            · have hyb : (y == x) = true := by simp [hye]
              go_wp2_with fail
              have bD : Below wr.heap.size wr wr.drew := (Below.refl _ _).drew
              have kcy := below_cell bD cy
              have kc0 := below_cell bD c0
              replace hB := hB.trans (bD.mono hB.size)
              refine wp_region_held_drew (S := fun w' => w'.cell? ⟨g, j, none⟩ = some (.int .i64 y) ∧ w'.cell? ⟨b, off + k, none⟩ = some (.int .i64 x)) (by kernel_rfl) ⟨kcy, kc0⟩ (fun hHeld => ?_)
              clear kcy kc0
              generalize wr.drew = w5 at bD hB hHeld ⊢
              replace hO := own_below hO bD
              replace c0 := below_cell bD c0
              replace cy := below_cell bD cy
              refine take' 0 (v := ?_) rfl (by kernel_rfl) (by kernel_rfl) (by kernel_rfl) (fun _ _ _ h => h) (Or.inl ⟨by rfl, ?_⟩) (by assumption) ?_
              rotate_left
              · intro w9 hSw
                go_simp
                first | done | with_reducible rfl
              simp only [Act.put, List.setIfInBounds_toArray, List.set_cons_zero, List.set_cons_succ]
              refine take' 1 (v := ?_) rfl (by kernel_rfl) (by kernel_rfl) (by kernel_rfl) (fun _ _ _ h => h) (Or.inl ⟨by rfl, ?_⟩) (by assumption) ?_
              rotate_left
              · intro w9 hSw
                go_simp
                first | done | with_reducible rfl
              simp only [Act.put, List.setIfInBounds_toArray, List.set_cons_zero, List.set_cons_succ]
              refine take' 2 (v := ?_) rfl (by kernel_rfl) (by kernel_rfl) (by kernel_rfl) (fun _ _ _ h => h) (Or.inl ⟨by rfl, ?_⟩) (by assumption) ?_
              rotate_left
              · intro w9 hSw
                go_simp
                first | done | with_reducible rfl
              simp only [Act.put, List.setIfInBounds_toArray, List.set_cons_zero, List.set_cons_succ]
              refine take' 3 (v := ?_) rfl (by kernel_rfl) (by kernel_rfl) (by kernel_rfl) (fun _ _ _ h => h) (Or.inl ⟨by rfl, ?_⟩) (by assumption) ?_
              rotate_left
              · intro w9 hSw
                go_simp
                first | done | with_reducible rfl
              simp only [Act.put, List.setIfInBounds_toArray, List.set_cons_zero, List.set_cons_succ]
              try simp only [hjn, decide_true, decide_false, gt_iff_lt, ge_iff_le]
              refine take' 4 (v := ?_) rfl (by kernel_rfl) (by kernel_rfl) (by kernel_rfl) (fun _ _ _ h => h) (Or.inl ⟨by rfl, ?_⟩) (by assumption) ?_
              rotate_left
              · intro w9 hSw
                go_simp
                first | done | with_reducible rfl
              simp only [Act.put, List.setIfInBounds_toArray, List.set_cons_zero, List.set_cons_succ]
              refine take' 5 (v := ?_) rfl (by kernel_rfl) (by kernel_rfl) (by kernel_rfl) (fun _ _ _ h => h) (Or.inl ⟨by rfl, ?_⟩) (by assumption) ?_
              rotate_left
              · intro w9 hSw
                go_simp
                first | done | with_reducible rfl
              simp only [Act.put, List.setIfInBounds_toArray, List.set_cons_zero, List.set_cons_succ]
              refine take' 6 (v := ?_) rfl (by kernel_rfl) (by kernel_rfl) (by kernel_rfl) (fun _ _ _ h => h) (Or.inl ⟨by rfl, ?_⟩) (by assumption) ?_
              rotate_left
              · intro w9 hSw
                go_simp
                first | done | with_reducible rfl
              simp only [Act.put, List.setIfInBounds_toArray, List.set_cons_zero, List.set_cons_succ]
              refine take' 7 (v := ?_) rfl (by kernel_rfl) (by kernel_rfl) (by kernel_rfl) (fun _ _ _ h => h) (Or.inl ⟨by rfl, ?_⟩) (by assumption) ?_
              rotate_left
              · intro w9 hSw
                go_simp
                first | done | with_reducible rfl
              simp only [Act.put, List.setIfInBounds_toArray, List.set_cons_zero, List.set_cons_succ]
              refine take' 8 (v := ?_) rfl (by kernel_rfl) (by kernel_rfl) (by kernel_rfl) (fun _ _ _ h => h) (Or.inl ⟨by rfl, ?_⟩) (by assumption) ?_
              rotate_left
              · intro w9 hSw
                go_simp
                first | done | with_reducible rfl
              simp only [Act.put, List.setIfInBounds_toArray, List.set_cons_zero, List.set_cons_succ]
              refine take' 9 (v := ?_) rfl (by kernel_rfl) (by kernel_rfl) (by kernel_rfl) (fun _ _ _ h => h) (Or.inl ⟨by rfl, ?_⟩) (by assumption) ?_
              rotate_left
              · intro w9 hSw
                go_simp
                first | done | with_reducible rfl
              simp only [Act.put, List.setIfInBounds_toArray, List.set_cons_zero, List.set_cons_succ]
              refine take' 10 (v := ?_) rfl (by kernel_rfl) (by kernel_rfl) (by kernel_rfl) (fun _ _ _ h => h) (Or.inl ⟨by rfl, ?_⟩) (by assumption) ?_
              rotate_left
              · intro w9 hSw
                go_simp
                first | done | with_reducible rfl
              simp only [Act.put, List.setIfInBounds_toArray, List.set_cons_zero, List.set_cons_succ]
              refine take' 11 (v := ?_) rfl (by kernel_rfl) (by kernel_rfl) (by kernel_rfl) (fun _ _ _ h => h) (Or.inl ⟨by rfl, ?_⟩) (by assumption) ?_
              rotate_left
              · intro w9 hSw
                go_simp
                first | done | with_reducible rfl
              simp only [Act.put, List.setIfInBounds_toArray, List.set_cons_zero, List.set_cons_succ]
              refine take' 12 (v := ?_) rfl (by kernel_rfl) (by kernel_rfl) (by kernel_rfl) (fun _ _ _ h => h) (Or.inl ⟨by rfl, ?_⟩) (by assumption) ?_
              rotate_left
              · intro w9 hSw
                go_simp
                first | done | with_reducible rfl
              simp only [Act.put, List.setIfInBounds_toArray, List.set_cons_zero, List.set_cons_succ]
              refine take' 13 (v := ?_) rfl (by kernel_rfl) (by kernel_rfl) (by kernel_rfl) (fun _ _ _ h => h) (Or.inl ⟨by rfl, ?_⟩) (by assumption) ?_
              rotate_left
              · intro w9 hSw
                go_simp
                first | done | with_reducible rfl
              simp only [Act.put, List.setIfInBounds_toArray, List.set_cons_zero, List.set_cons_succ]
              try simp only [hyx, decide_true, decide_false, gt_iff_lt, ge_iff_le]
              refine take' 14 (v := ?_) rfl (by kernel_rfl) (by kernel_rfl) (by kernel_rfl) (fun _ _ _ h => h) (Or.inl ⟨by rfl, ?_⟩) (by assumption) ?_
              rotate_left
              · intro w9 hSw
                go_simp
                first | done | with_reducible rfl
              simp only [Act.put, List.setIfInBounds_toArray, List.set_cons_zero, List.set_cons_succ]
              refine wpAnyH_done (by kernel_rfl) ?_ _
              clear hHeld bD
              go_wp2_with fail
              have bD : Below w5.heap.size w5 w5.drew := (Below.refl _ _).drew
              have kcy := below_cell bD cy
              have kc0 := below_cell bD c0
              replace hB := hB.trans (bD.mono hB.size)
              refine wp_region_held_drew (S := fun w' => w'.cell? ⟨g, j, none⟩ = some (.int .i64 y) ∧ w'.cell? ⟨b, off + k, none⟩ = some (.int .i64 x)) (by kernel_rfl) ⟨kcy, kc0⟩ (fun hHeld => ?_)
              clear kcy kc0
              generalize w5.drew = w6 at bD hB hHeld ⊢
              replace hO := own_below hO bD
              replace c0 := below_cell bD c0
              replace cy := below_cell bD cy
              refine take' 0 (v := ?_) rfl (by kernel_rfl) (by kernel_rfl) (by kernel_rfl) (fun _ _ _ h => h) (Or.inl ⟨by rfl, ?_⟩) (by assumption) ?_
              rotate_left
              · intro w9 hSw
                go_simp
                first | done | with_reducible rfl
              simp only [Act.put, List.setIfInBounds_toArray, List.set_cons_zero, List.set_cons_succ]
              refine take' 1 (v := ?_) rfl (by kernel_rfl) (by kernel_rfl) (by kernel_rfl) (fun _ _ _ h => h) (Or.inl ⟨by rfl, ?_⟩) (by assumption) ?_
              rotate_left
              · intro w9 hSw
                go_simp
                first | done | with_reducible rfl
              simp only [Act.put, List.setIfInBounds_toArray, List.set_cons_zero, List.set_cons_succ]
              refine take' 2 (v := ?_) rfl (by kernel_rfl) (by kernel_rfl) (by kernel_rfl) (fun _ _ _ h => h) (Or.inl ⟨by rfl, ?_⟩) (by assumption) ?_
              rotate_left
              · intro w9 hSw
                go_simp
                first | done | with_reducible rfl
              simp only [Act.put, List.setIfInBounds_toArray, List.set_cons_zero, List.set_cons_succ]
              refine take' 3 (v := ?_) rfl (by kernel_rfl) (by kernel_rfl) (by kernel_rfl) (fun _ _ _ h => h) (Or.inl ⟨by rfl, ?_⟩) (by assumption) ?_
              rotate_left
              · intro w9 hSw
                go_simp
                first | done | with_reducible rfl
              simp only [Act.put, List.setIfInBounds_toArray, List.set_cons_zero, List.set_cons_succ]
              try simp only [hjn, decide_true, decide_false, gt_iff_lt, ge_iff_le]
              refine take' 4 (v := ?_) rfl (by kernel_rfl) (by kernel_rfl) (by kernel_rfl) (fun _ _ _ h => h) (Or.inl ⟨by rfl, ?_⟩) (by assumption) ?_
              rotate_left
              · intro w9 hSw
                go_simp
                first | done | with_reducible rfl
              simp only [Act.put, List.setIfInBounds_toArray, List.set_cons_zero, List.set_cons_succ]
              refine take' 5 (v := ?_) rfl (by kernel_rfl) (by kernel_rfl) (by kernel_rfl) (fun _ _ _ h => h) (Or.inl ⟨by rfl, ?_⟩) (by assumption) ?_
              rotate_left
              · intro w9 hSw
                go_simp
                first | done | with_reducible rfl
              simp only [Act.put, List.setIfInBounds_toArray, List.set_cons_zero, List.set_cons_succ]
              refine take' 6 (v := ?_) rfl (by kernel_rfl) (by kernel_rfl) (by kernel_rfl) (fun _ _ _ h => h) (Or.inl ⟨by rfl, ?_⟩) (by assumption) ?_
              rotate_left
              · intro w9 hSw
                go_simp
                first | done | with_reducible rfl
              simp only [Act.put, List.setIfInBounds_toArray, List.set_cons_zero, List.set_cons_succ]
              refine take' 7 (v := ?_) rfl (by kernel_rfl) (by kernel_rfl) (by kernel_rfl) (fun _ _ _ h => h) (Or.inl ⟨by rfl, ?_⟩) (by assumption) ?_
              rotate_left
              · intro w9 hSw
                go_simp
                first | done | with_reducible rfl
              simp only [Act.put, List.setIfInBounds_toArray, List.set_cons_zero, List.set_cons_succ]
              refine take' 8 (v := ?_) rfl (by kernel_rfl) (by kernel_rfl) (by kernel_rfl) (fun _ _ _ h => h) (Or.inl ⟨by rfl, ?_⟩) (by assumption) ?_
              rotate_left
              · intro w9 hSw
                go_simp
                first | done | with_reducible rfl
              simp only [Act.put, List.setIfInBounds_toArray, List.set_cons_zero, List.set_cons_succ]
              refine take' 9 (v := ?_) rfl (by kernel_rfl) (by kernel_rfl) (by kernel_rfl) (fun _ _ _ h => h) (Or.inl ⟨by rfl, ?_⟩) (by assumption) ?_
              rotate_left
              · intro w9 hSw
                go_simp
                first | done | with_reducible rfl
              simp only [Act.put, List.setIfInBounds_toArray, List.set_cons_zero, List.set_cons_succ]
              refine take' 10 (v := ?_) rfl (by kernel_rfl) (by kernel_rfl) (by kernel_rfl) (fun _ _ _ h => h) (Or.inl ⟨by rfl, ?_⟩) (by assumption) ?_
              rotate_left
              · intro w9 hSw
                go_simp
                first | done | with_reducible rfl
              simp only [Act.put, List.setIfInBounds_toArray, List.set_cons_zero, List.set_cons_succ]
              refine take' 11 (v := ?_) rfl (by kernel_rfl) (by kernel_rfl) (by kernel_rfl) (fun _ _ _ h => h) (Or.inl ⟨by rfl, ?_⟩) (by assumption) ?_
              rotate_left
              · intro w9 hSw
                go_simp
                first | done | with_reducible rfl
              simp only [Act.put, List.setIfInBounds_toArray, List.set_cons_zero, List.set_cons_succ]
              refine take' 12 (v := ?_) rfl (by kernel_rfl) (by kernel_rfl) (by kernel_rfl) (fun _ _ _ h => h) (Or.inl ⟨by rfl, ?_⟩) (by assumption) ?_
              rotate_left
              · intro w9 hSw
                go_simp
                first | done | with_reducible rfl
              simp only [Act.put, List.setIfInBounds_toArray, List.set_cons_zero, List.set_cons_succ]
              refine take' 13 (v := ?_) rfl (by kernel_rfl) (by kernel_rfl) (by kernel_rfl) (fun _ _ _ h => h) (Or.inl ⟨by rfl, ?_⟩) (by assumption) ?_
              rotate_left
              · intro w9 hSw
                go_simp
                first | done | with_reducible rfl
              simp only [Act.put, List.setIfInBounds_toArray, List.set_cons_zero, List.set_cons_succ]
              try simp only [hyb, decide_true, decide_false, gt_iff_lt, ge_iff_le]
              refine take' 14 (v := ?_) rfl (by kernel_rfl) (by kernel_rfl) (by kernel_rfl) (fun _ _ _ h => h) (Or.inl ⟨by rfl, ?_⟩) (by assumption) ?_
              rotate_left
              · intro w9 hSw
                go_simp
                first | done | with_reducible rfl
              simp only [Act.put, List.setIfInBounds_toArray, List.set_cons_zero, List.set_cons_succ]
              refine wpAnyH_done (by kernel_rfl) ?_ _
              clear hHeld bD
              have I1 := hide' (show SInv w zs (k + 1) (.slice (some ⟨g, 0, none⟩) n co) w6 from ⟨ys, by rw [HY.out.1]; exact hO, hB, by rw [HY.out.2.2.1]; exact HY.out.2.1.same (by rw [← hye]; exact hy)⟩)
              go_wp2
              go_roundw
              case rel => exact ⟨k + 1, by omega, by go_num, I1.out⟩
              case measure => simp [intOf]; omega
            · have hyb : (y == x) = false := by simp [hye]
              have hhi : ∀ z, ys[j]? = some z → x < z := fun z hz => by rw [hy] at hz; obtain rfl := Option.some.inj hz; omega
              go_wp2_with fail
              have bD : Below wr.heap.size wr wr.drew := (Below.refl _ _).drew
              have kcy := below_cell bD cy
              have kc0 := below_cell bD c0
              replace hB := hB.trans (bD.mono hB.size)
              refine wp_region_held_drew (S := fun w' => w'.cell? ⟨g, j, none⟩ = some (.int .i64 y) ∧ w'.cell? ⟨b, off + k, none⟩ = some (.int .i64 x)) (by kernel_rfl) ⟨kcy, kc0⟩ (fun hHeld => ?_)
              clear kcy kc0
              generalize wr.drew = w5 at bD hB hHeld ⊢
              replace hO := own_below hO bD
              replace c0 := below_cell bD c0
              replace cy := below_cell bD cy
              refine take' 0 (v := ?_) rfl (by kernel_rfl) (by kernel_rfl) (by kernel_rfl) (fun _ _ _ h => h) (Or.inl ⟨by rfl, ?_⟩) (by assumption) ?_
              rotate_left
              · intro w9 hSw
                go_simp
                first | done | with_reducible rfl
              simp only [Act.put, List.setIfInBounds_toArray, List.set_cons_zero, List.set_cons_succ]
              refine take' 1 (v := ?_) rfl (by kernel_rfl) (by kernel_rfl) (by kernel_rfl) (fun _ _ _ h => h) (Or.inl ⟨by rfl, ?_⟩) (by assumption) ?_
              rotate_left
              · intro w9 hSw
                go_simp
                first | done | with_reducible rfl
              simp only [Act.put, List.setIfInBounds_toArray, List.set_cons_zero, List.set_cons_succ]
              refine take' 2 (v := ?_) rfl (by kernel_rfl) (by kernel_rfl) (by kernel_rfl) (fun _ _ _ h => h) (Or.inl ⟨by rfl, ?_⟩) (by assumption) ?_
              rotate_left
              · intro w9 hSw
                go_simp
                first | done | with_reducible rfl
              simp only [Act.put, List.setIfInBounds_toArray, List.set_cons_zero, List.set_cons_succ]
              refine take' 3 (v := ?_) rfl (by kernel_rfl) (by kernel_rfl) (by kernel_rfl) (fun _ _ _ h => h) (Or.inl ⟨by rfl, ?_⟩) (by assumption) ?_
              rotate_left
              · intro w9 hSw
                go_simp
                first | done | with_reducible rfl
              simp only [Act.put, List.setIfInBounds_toArray, List.set_cons_zero, List.set_cons_succ]
              try simp only [hjn, decide_true, decide_false, gt_iff_lt, ge_iff_le]
              refine take' 4 (v := ?_) rfl (by kernel_rfl) (by kernel_rfl) (by kernel_rfl) (fun _ _ _ h => h) (Or.inl ⟨by rfl, ?_⟩) (by assumption) ?_
              rotate_left
              · intro w9 hSw
                go_simp
                first | done | with_reducible rfl
              simp only [Act.put, List.setIfInBounds_toArray, List.set_cons_zero, List.set_cons_succ]
              refine take' 5 (v := ?_) rfl (by kernel_rfl) (by kernel_rfl) (by kernel_rfl) (fun _ _ _ h => h) (Or.inl ⟨by rfl, ?_⟩) (by assumption) ?_
              rotate_left
              · intro w9 hSw
                go_simp
                first | done | with_reducible rfl
              simp only [Act.put, List.setIfInBounds_toArray, List.set_cons_zero, List.set_cons_succ]
              refine take' 6 (v := ?_) rfl (by kernel_rfl) (by kernel_rfl) (by kernel_rfl) (fun _ _ _ h => h) (Or.inl ⟨by rfl, ?_⟩) (by assumption) ?_
              rotate_left
              · intro w9 hSw
                go_simp
                first | done | with_reducible rfl
              simp only [Act.put, List.setIfInBounds_toArray, List.set_cons_zero, List.set_cons_succ]
              refine take' 7 (v := ?_) rfl (by kernel_rfl) (by kernel_rfl) (by kernel_rfl) (fun _ _ _ h => h) (Or.inl ⟨by rfl, ?_⟩) (by assumption) ?_
              rotate_left
              · intro w9 hSw
                go_simp
                first | done | with_reducible rfl
              simp only [Act.put, List.setIfInBounds_toArray, List.set_cons_zero, List.set_cons_succ]
              refine take' 8 (v := ?_) rfl (by kernel_rfl) (by kernel_rfl) (by kernel_rfl) (fun _ _ _ h => h) (Or.inl ⟨by rfl, ?_⟩) (by assumption) ?_
              rotate_left
              · intro w9 hSw
                go_simp
                first | done | with_reducible rfl
              simp only [Act.put, List.setIfInBounds_toArray, List.set_cons_zero, List.set_cons_succ]
              refine take' 9 (v := ?_) rfl (by kernel_rfl) (by kernel_rfl) (by kernel_rfl) (fun _ _ _ h => h) (Or.inl ⟨by rfl, ?_⟩) (by assumption) ?_
              rotate_left
              · intro w9 hSw
                go_simp
                first | done | with_reducible rfl
              simp only [Act.put, List.setIfInBounds_toArray, List.set_cons_zero, List.set_cons_succ]
              refine take' 10 (v := ?_) rfl (by kernel_rfl) (by kernel_rfl) (by kernel_rfl) (fun _ _ _ h => h) (Or.inl ⟨by rfl, ?_⟩) (by assumption) ?_
              rotate_left
              · intro w9 hSw
                go_simp
                first | done | with_reducible rfl
              simp only [Act.put, List.setIfInBounds_toArray, List.set_cons_zero, List.set_cons_succ]
              refine take' 11 (v := ?_) rfl (by kernel_rfl) (by kernel_rfl) (by kernel_rfl) (fun _ _ _ h => h) (Or.inl ⟨by rfl, ?_⟩) (by assumption) ?_
              rotate_left
              · intro w9 hSw
                go_simp
                first | done | with_reducible rfl
              simp only [Act.put, List.setIfInBounds_toArray, List.set_cons_zero, List.set_cons_succ]
              refine take' 12 (v := ?_) rfl (by kernel_rfl) (by kernel_rfl) (by kernel_rfl) (fun _ _ _ h => h) (Or.inl ⟨by rfl, ?_⟩) (by assumption) ?_
              rotate_left
              · intro w9 hSw
                go_simp
                first | done | with_reducible rfl
              simp only [Act.put, List.setIfInBounds_toArray, List.set_cons_zero, List.set_cons_succ]
              refine take' 13 (v := ?_) rfl (by kernel_rfl) (by kernel_rfl) (by kernel_rfl) (fun _ _ _ h => h) (Or.inl ⟨by rfl, ?_⟩) (by assumption) ?_
              rotate_left
              · intro w9 hSw
                go_simp
                first | done | with_reducible rfl
              simp only [Act.put, List.setIfInBounds_toArray, List.set_cons_zero, List.set_cons_succ]
              try simp only [hyx, decide_true, decide_false, gt_iff_lt, ge_iff_le]
              refine take' 14 (v := ?_) rfl (by kernel_rfl) (by kernel_rfl) (by kernel_rfl) (fun _ _ _ h => h) (Or.inl ⟨by rfl, ?_⟩) (by assumption) ?_
              rotate_left
              · intro w9 hSw
                go_simp
                first | done | with_reducible rfl
              simp only [Act.put, List.setIfInBounds_toArray, List.set_cons_zero, List.set_cons_succ]
              refine wpAnyH_done (by kernel_rfl) ?_ _
              clear hHeld bD
              go_wp2_with fail
              have bD : Below w5.heap.size w5 w5.drew := (Below.refl _ _).drew
              have kcy := below_cell bD cy
              have kc0 := below_cell bD c0
              replace hB := hB.trans (bD.mono hB.size)
              refine wp_region_held_drew (S := fun w' => w'.cell? ⟨g, j, none⟩ = some (.int .i64 y) ∧ w'.cell? ⟨b, off + k, none⟩ = some (.int .i64 x)) (by kernel_rfl) ⟨kcy, kc0⟩ (fun hHeld => ?_)
              clear kcy kc0
              generalize w5.drew = w6 at bD hB hHeld ⊢
              replace hO := own_below hO bD
              replace c0 := below_cell bD c0
              replace cy := below_cell bD cy
              refine take' 0 (v := ?_) rfl (by kernel_rfl) (by kernel_rfl) (by kernel_rfl) (fun _ _ _ h => h) (Or.inl ⟨by rfl, ?_⟩) (by assumption) ?_
              rotate_left
              · intro w9 hSw
                go_simp
                first | done | with_reducible rfl
              simp only [Act.put, List.setIfInBounds_toArray, List.set_cons_zero, List.set_cons_succ]
              refine take' 1 (v := ?_) rfl (by kernel_rfl) (by kernel_rfl) (by kernel_rfl) (fun _ _ _ h => h) (Or.inl ⟨by rfl, ?_⟩) (by assumption) ?_
              rotate_left
              · intro w9 hSw
                go_simp
                first | done | with_reducible rfl
              simp only [Act.put, List.setIfInBounds_toArray, List.set_cons_zero, List.set_cons_succ]
              refine take' 2 (v := ?_) rfl (by kernel_rfl) (by kernel_rfl) (by kernel_rfl) (fun _ _ _ h => h) (Or.inl ⟨by rfl, ?_⟩) (by assumption) ?_
              rotate_left
              · intro w9 hSw
                go_simp
                first | done | with_reducible rfl
              simp only [Act.put, List.setIfInBounds_toArray, List.set_cons_zero, List.set_cons_succ]
              refine take' 3 (v := ?_) rfl (by kernel_rfl) (by kernel_rfl) (by kernel_rfl) (fun _ _ _ h => h) (Or.inl ⟨by rfl, ?_⟩) (by assumption) ?_
              rotate_left
              · intro w9 hSw
                go_simp
                first | done | with_reducible rfl
              simp only [Act.put, List.setIfInBounds_toArray, List.set_cons_zero, List.set_cons_succ]
              try simp only [hjn, decide_true, decide_false, gt_iff_lt, ge_iff_le]
              refine take' 4 (v := ?_) rfl (by kernel_rfl) (by kernel_rfl) (by kernel_rfl) (fun _ _ _ h => h) (Or.inl ⟨by rfl, ?_⟩) (by assumption) ?_
              rotate_left
              · intro w9 hSw
                go_simp
                first | done | with_reducible rfl
              simp only [Act.put, List.setIfInBounds_toArray, List.set_cons_zero, List.set_cons_succ]
              refine take' 5 (v := ?_) rfl (by kernel_rfl) (by kernel_rfl) (by kernel_rfl) (fun _ _ _ h => h) (Or.inl ⟨by rfl, ?_⟩) (by assumption) ?_
              rotate_left
              · intro w9 hSw
                go_simp
                first | done | with_reducible rfl
              simp only [Act.put, List.setIfInBounds_toArray, List.set_cons_zero, List.set_cons_succ]
              refine take' 6 (v := ?_) rfl (by kernel_rfl) (by kernel_rfl) (by kernel_rfl) (fun _ _ _ h => h) (Or.inl ⟨by rfl, ?_⟩) (by assumption) ?_
              rotate_left
              · intro w9 hSw
                go_simp
                first | done | with_reducible rfl
              simp only [Act.put, List.setIfInBounds_toArray, List.set_cons_zero, List.set_cons_succ]
              refine take' 7 (v := ?_) rfl (by kernel_rfl) (by kernel_rfl) (by kernel_rfl) (fun _ _ _ h => h) (Or.inl ⟨by rfl, ?_⟩) (by assumption) ?_
              rotate_left
              · intro w9 hSw
                go_simp
                first | done | with_reducible rfl
              simp only [Act.put, List.setIfInBounds_toArray, List.set_cons_zero, List.set_cons_succ]
              refine take' 8 (v := ?_) rfl (by kernel_rfl) (by kernel_rfl) (by kernel_rfl) (fun _ _ _ h => h) (Or.inl ⟨by rfl, ?_⟩) (by assumption) ?_
              rotate_left
              · intro w9 hSw
                go_simp
                first | done | with_reducible rfl
              simp only [Act.put, List.setIfInBounds_toArray, List.set_cons_zero, List.set_cons_succ]
              refine take' 9 (v := ?_) rfl (by kernel_rfl) (by kernel_rfl) (by kernel_rfl) (fun _ _ _ h => h) (Or.inl ⟨by rfl, ?_⟩) (by assumption) ?_
              rotate_left
              · intro w9 hSw
                go_simp
                first | done | with_reducible rfl
              simp only [Act.put, List.setIfInBounds_toArray, List.set_cons_zero, List.set_cons_succ]
              refine take' 10 (v := ?_) rfl (by kernel_rfl) (by kernel_rfl) (by kernel_rfl) (fun _ _ _ h => h) (Or.inl ⟨by rfl, ?_⟩) (by assumption) ?_
              rotate_left
              · intro w9 hSw
                go_simp
                first | done | with_reducible rfl
              simp only [Act.put, List.setIfInBounds_toArray, List.set_cons_zero, List.set_cons_succ]
              refine take' 11 (v := ?_) rfl (by kernel_rfl) (by kernel_rfl) (by kernel_rfl) (fun _ _ _ h => h) (Or.inl ⟨by rfl, ?_⟩) (by assumption) ?_
              rotate_left
              · intro w9 hSw
                go_simp
                first | done | with_reducible rfl
              simp only [Act.put, List.setIfInBounds_toArray, List.set_cons_zero, List.set_cons_succ]
              refine take' 12 (v := ?_) rfl (by kernel_rfl) (by kernel_rfl) (by kernel_rfl) (fun _ _ _ h => h) (Or.inl ⟨by rfl, ?_⟩) (by assumption) ?_
              rotate_left
              · intro w9 hSw
                go_simp
                first | done | with_reducible rfl
              simp only [Act.put, List.setIfInBounds_toArray, List.set_cons_zero, List.set_cons_succ]
              refine take' 13 (v := ?_) rfl (by kernel_rfl) (by kernel_rfl) (by kernel_rfl) (fun _ _ _ h => h) (Or.inl ⟨by rfl, ?_⟩) (by assumption) ?_
              rotate_left
              · intro w9 hSw
                go_simp
                first | done | with_reducible rfl
              simp only [Act.put, List.setIfInBounds_toArray, List.set_cons_zero, List.set_cons_succ]
              try simp only [hyb, decide_true, decide_false, gt_iff_lt, ge_iff_le]
              refine take' 14 (v := ?_) rfl (by kernel_rfl) (by kernel_rfl) (by kernel_rfl) (fun _ _ _ h => h) (Or.inl ⟨by rfl, ?_⟩) (by assumption) ?_
              rotate_left
              · intro w9 hSw
                go_simp
                first | done | with_reducible rfl
              simp only [Act.put, List.setIfInBounds_toArray, List.set_cons_zero, List.set_cons_succ]
              refine wpAnyH_done (by kernel_rfl) ?_ _
              clear hHeld bD
              clear cy hgl hcp hye hyb hyx2 hyx
              obtain ⟨wB, hwB⟩ : ∃ wB, w6.alloc (.cells #[.int .i64 0] 3) = wB := ⟨_, rfl⟩
              have hnew := heap_alloc_new w6 (.cells #[.int .i64 0] 3)
              have b3 := below_alloc (w := w6) (.cells #[.int .i64 0] 3)
              rw [hwB] at hnew b3
              have hO3 := own_below hO b3
              have s3 := b3.size
              have s4 := hB.size
              have hbB : w.heap.size ≤ wB.heap.size := by omega
              have hbl : (n + 1) * 8 ≤ 140737488355328 := by omega
              have hrow := fun k hk => (hO.lt k hk)
              go_wp2_with (at_builtin; (try rw [hwB]); refine wpList_append_lies _ (by rfl) _ _ _ (by rfl) w.heap.size 3 i0 _ 1 8 Tryz.underlying68 hi0 hz0 hz1 hz2 rfl (by omega) _ n (iv ys) (by rfl) hO3 ⟨w6.heap.size, 0, none⟩ 1 1 [.int .i64 0] (by rfl) (by rfl) (World.news_of_block (cs := #[.int .i64 0]) (t := 3) (fr := (0, 0)) hnew) (by simp [Value.oneCell']) (by omega) (by simp only [maxLen]; omega) hbl hbB wB.heap.size rfl ?_)
              intro gb cap w9 hown4 hgrow hat hlt4
              have hB3 := hB.trans (b3.mono hB.size)
              have b9 := below_grown hB3.size (fun k hk => (hrow k hk).1) hgrow
              have hB9 := hB3.trans b9
              have hgb : w.heap.size ≤ gb := by
                rcases hat with h | h
                · exact (hrow _ h).1
                · omega
              have hO9 : w9.ownsRow w.heap.size 3 1 (.slice (some ⟨gb, 0, none⟩) (n + 1) cap) (n + 1) (iv (shf ys n)) := by
                have e := shf_top ys
                rw [HY.out.1] at e
                rw [e, iv_append]
                exact hown4
              clear hown4 hgrow hat hwB hnew b3 hO3 hB3 b9 hrow s3 hbB hbl
              have c9 := below_cell hB9 hcx
              clear hO hB s4 c0
              obtain ⟨N1, hN1⟩ : ∃ N1, n + 1 = N1 := ⟨_, rfl⟩
              rw [hN1] at hO9 ⊢
              have q0 : (N1 : Int) - 1 = (n : Int) := by omega
              have q1 : IntKind.i64.wrap (n : Int) = (n : Int) := Go.IntWalk.i64_in _ (by omega)
              have q2 : (0 : Int) ≤ (N1 : Int) := by omega
              have q3 : (N1 : Int) ≤ 2097153 := by omega
              have HN := hide' hN1
              clear hN1
              go_wp2_with fail
              go_loopw [6] (fun vi wr => ∃ m : Nat, j ≤ m ∧ m ≤ n ∧ vi = .int .i64 m ∧ wr.ownsRow w.heap.size 3 1 (.slice (some ⟨gb, 0, none⟩) N1 cap) N1 (iv (shf ys m)) ∧ Below w.heap.size w wr) (fun vi _ => (intOf vi).toNat - j)
              case atStart => exact ⟨n, hj, Nat.le_refl _, by first | rfl | rw [q0] | go_num, hO9, hB9⟩
              case round =>
                clear hO9 hB9 c9
                obtain ⟨m, hjm, hmn, rfl, hO, hB⟩ := hrel
                have c9 := below_cell hB hcx
                by_cases hlt9 : j < m
                · obtain ⟨m9, hm9⟩ : ∃ m9, m = m9 + 1 := ⟨m - 1, by omega⟩
                  obtain ⟨z, hz⟩ : ∃ z, ys[m9]? = some z := ⟨ys[m9]'(by have := HY.out.1; omega), List.getElem?_eq_getElem _⟩
                  have hat : (shf ys m)[m9]? = some z := by rw [hm9, shf_at (by have := HY.out.1; omega)]; exact hz
                  have hc9 := hO.cellAt m9 (by have := HN.out; omega)
                  rw [iv_at hat] at hc9
                  have hfz := hO.frozenAt m
                  have hst := (hO.stored m (.int .i64 z)).1
                  rw [iv_set, hm9, shf_step (by have := HY.out.1; omega) hz, ← hm9] at hst
                  have hc8 : ∃ z8, (shf ys m)[m]? = some z8 := ⟨_, List.getElem?_eq_getElem (by rw [shf_length (by have := HY.out.1; omega)]; have := HY.out.1; omega)⟩
                  obtain ⟨z8, hz8⟩ := hc8
                  have hd9 := hO.cellAt m (by have := HN.out; omega)
                  rw [iv_at hz8] at hd9
                  have m0 : (m : Int) - 1 = (m9 : Int) := by omega
                  have m1 : (0 : Int) ≤ (m9 : Int) := by omega
                  have m2 : (m9 : Int) < (N1 : Int) := by have := HN.out; omega
                  have m3 : (m : Int) < (N1 : Int) := by have := HN.out; omega
                  have m4 : (0 : Int) ≤ (m : Int) := by omega
                  have m5 : IntKind.i64.wrap (m9 : Int) = (m9 : Int) := Go.IntWalk.i64_in _ (by omega)
                  have m6 : (j : Int) < (m : Int) := by omega
                  have I1 := hide' (And.intro hst (bset (c := gb) (o := m) (u := .int .i64 z) hB hgb))
                  have HM := hide' hm9
                  clear hm9 hst hat hz hz8
                  go_wp2
                  go_roundw
                  case rel => exact ⟨m9, by have := HM.out; omega, by have := HM.out; omega, by first | rfl | rw [m0] | go_num, I1.out.1, I1.out.2⟩
                  case measure => have := HM.out; simp [intOf]; omega
                · obtain rfl : m = j := by omega
                  have m6 : ¬ (m : Int) < (m : Int) := by omega
                  have hc8 : ∃ z8, (shf ys m)[m]? = some z8 := ⟨_, List.getElem?_eq_getElem (by rw [shf_length (by have := HY.out.1; omega)]; have := HY.out.1; omega)⟩
                  obtain ⟨z8, hz8⟩ := hc8
                  have hd9 := hO.cellAt m (by have := HN.out; omega)
                  rw [iv_at hz8] at hd9
                  have hfz := hO.frozenAt m
                  have hst := (hO.stored m (.int .i64 x)).1
                  rw [iv_set, shf_put (by have := HY.out.1; omega)] at hst
                  have m3 : (m : Int) < (N1 : Int) := by have := HN.out; omega
                  have m4 : (0 : Int) ≤ (m : Int) := by omega
                  have hY9 := HY.out.2.1.put (x := x) (j := m) (by have := HY.out.1; omega) hlo hhi
                  rw [← HY.out.2.2.1] at hY9
                  have hl9 : (ys.take m ++ x :: ys.drop m).length = N1 := by have := HY.out.1; have := HN.out; simp only [List.length_append, List.length_take, List.length_cons, List.length_drop]; omega
                  have I1 := hide' (And.intro (show _ from (by rw [hl9]; exact hst : ((wr.setCell ⟨gb, m, none⟩ (.int .i64 x)).ownsRow w.heap.size 3 1 (.slice (some ⟨gb, 0, none⟩) N1 cap) (ys.take m ++ x :: ys.drop m).length (iv (ys.take m ++ x :: ys.drop m))))) (And.intro (bset (c := gb) (o := m) (u := .int .i64 x) hB hgb) hY9))
                  clear hst hY9 hl9 hz8
                  go_wp2
                  go_roundw
                  case rel => exact ⟨k + 1, by omega, by go_num, _, I1.out.1, I1.out.2.1, I1.out.2.2⟩
                  case measure => simp [intOf]; omega
        · have hhi : ∀ z, ys[j]? = some z → x < z := fun z hz => by have h1 := (List.getElem?_eq_some_iff.1 hz).1; have := HY.out.1; omega
          go_wp2_with fail
          have bD : Below wr.heap.size wr wr.drew := (Below.refl _ _).drew
          replace hB := hB.trans (bD.mono hB.size)
          refine wp_region_held_drew (S := fun w' => True) (by kernel_rfl) trivial (fun hHeld => ?_)
          generalize wr.drew = w5 at bD hB hHeld ⊢
          replace hO := own_below hO bD
          replace c0 := below_cell bD c0
          refine take' 0 (v := ?_) rfl (by kernel_rfl) (by kernel_rfl) (by kernel_rfl) (fun _ _ _ h => h) (Or.inl ⟨by rfl, ?_⟩) (by assumption) ?_
          rotate_left
          · intro w9 hSw
            go_simp
            first | done | with_reducible rfl
          simp only [Act.put, List.setIfInBounds_toArray, List.set_cons_zero, List.set_cons_succ]
          refine take' 1 (v := ?_) rfl (by kernel_rfl) (by kernel_rfl) (by kernel_rfl) (fun _ _ _ h => h) (Or.inl ⟨by rfl, ?_⟩) (by assumption) ?_
          rotate_left
          · intro w9 hSw
            go_simp
            first | done | with_reducible rfl
          simp only [Act.put, List.setIfInBounds_toArray, List.set_cons_zero, List.set_cons_succ]
          refine take' 2 (v := ?_) rfl (by kernel_rfl) (by kernel_rfl) (by kernel_rfl) (fun _ _ _ h => h) (Or.inl ⟨by rfl, ?_⟩) (by assumption) ?_
          rotate_left
          · intro w9 hSw
            go_simp
            first | done | with_reducible rfl
          simp only [Act.put, List.setIfInBounds_toArray, List.set_cons_zero, List.set_cons_succ]
          refine take' 3 (v := ?_) rfl (by kernel_rfl) (by kernel_rfl) (by kernel_rfl) (fun _ _ _ h => h) (Or.inl ⟨by rfl, ?_⟩) (by assumption) ?_
          rotate_left
          · intro w9 hSw
            go_simp
            first | done | with_reducible rfl
          simp only [Act.put, List.setIfInBounds_toArray, List.set_cons_zero, List.set_cons_succ]
          try simp only [hjn, decide_true, decide_false, gt_iff_lt, ge_iff_le]
          refine take' 4 (v := ?_) rfl (by kernel_rfl) (by kernel_rfl) (by kernel_rfl) (fun _ _ _ h => h) (Or.inl ⟨by rfl, ?_⟩) (by assumption) ?_
          rotate_left
          · intro w9 hSw
            go_simp
            first | done | with_reducible rfl
          simp only [Act.put, List.setIfInBounds_toArray, List.set_cons_zero, List.set_cons_succ]
          refine take' 5 (v := undef) rfl (by kernel_rfl) (by kernel_rfl) (by kernel_rfl) (fun _ _ _ h => h) (Or.inr ⟨by rfl, rfl⟩) (by assumption) ?_
          simp only [Act.put, List.setIfInBounds_toArray, List.set_cons_zero, List.set_cons_succ]
          refine take' 6 (v := undef) rfl (by kernel_rfl) (by kernel_rfl) (by kernel_rfl) (fun _ _ _ h => h) (Or.inr ⟨by rfl, rfl⟩) (by assumption) ?_
          simp only [Act.put, List.setIfInBounds_toArray, List.set_cons_zero, List.set_cons_succ]
          refine take' 7 (v := undef) rfl (by kernel_rfl) (by kernel_rfl) (by kernel_rfl) (fun _ _ _ h => h) (Or.inr ⟨by rfl, rfl⟩) (by assumption) ?_
          simp only [Act.put, List.setIfInBounds_toArray, List.set_cons_zero, List.set_cons_succ]
          refine take' 8 (v := undef) rfl (by kernel_rfl) (by kernel_rfl) (by kernel_rfl) (fun _ _ _ h => h) (Or.inr ⟨by rfl, rfl⟩) (by assumption) ?_
          simp only [Act.put, List.setIfInBounds_toArray, List.set_cons_zero, List.set_cons_succ]
          refine take' 9 (v := undef) rfl (by kernel_rfl) (by kernel_rfl) (by kernel_rfl) (fun _ _ _ h => h) (Or.inr ⟨by rfl, rfl⟩) (by assumption) ?_
          simp only [Act.put, List.setIfInBounds_toArray, List.set_cons_zero, List.set_cons_succ]
          refine take' 10 (v := undef) rfl (by kernel_rfl) (by kernel_rfl) (by kernel_rfl) (fun _ _ _ h => h) (Or.inr ⟨by rfl, rfl⟩) (by assumption) ?_
          simp only [Act.put, List.setIfInBounds_toArray, List.set_cons_zero, List.set_cons_succ]
          refine take' 11 (v := undef) rfl (by kernel_rfl) (by kernel_rfl) (by kernel_rfl) (fun _ _ _ h => h) (Or.inr ⟨by rfl, rfl⟩) (by assumption) ?_
          simp only [Act.put, List.setIfInBounds_toArray, List.set_cons_zero, List.set_cons_succ]
          refine take' 12 (v := undef) rfl (by kernel_rfl) (by kernel_rfl) (by kernel_rfl) (fun _ _ _ h => h) (Or.inr ⟨by rfl, rfl⟩) (by assumption) ?_
          simp only [Act.put, List.setIfInBounds_toArray, List.set_cons_zero, List.set_cons_succ]
          refine take' 13 (v := undef) rfl (by kernel_rfl) (by kernel_rfl) (by kernel_rfl) (fun _ _ _ h => h) (Or.inr ⟨by rfl, rfl⟩) (by assumption) ?_
          simp only [Act.put, List.setIfInBounds_toArray, List.set_cons_zero, List.set_cons_succ]
          refine take' 14 (v := ?_) rfl (by kernel_rfl) (by kernel_rfl) (by kernel_rfl) (fun _ _ _ h => h) (Or.inl ⟨by rfl, ?_⟩) (by assumption) ?_
          rotate_left
          · intro w9 hSw
            go_simp
            first | done | with_reducible rfl
          simp only [Act.put, List.setIfInBounds_toArray, List.set_cons_zero, List.set_cons_succ]
          refine wpAnyH_done (by kernel_rfl) ?_ _
          clear hHeld bD
          go_wp2_with fail
          have bD : Below w5.heap.size w5 w5.drew := (Below.refl _ _).drew
          replace hB := hB.trans (bD.mono hB.size)
          refine wp_region_held_drew (S := fun w' => True) (by kernel_rfl) trivial (fun hHeld => ?_)
          generalize w5.drew = w6 at bD hB hHeld ⊢
          replace hO := own_below hO bD
          replace c0 := below_cell bD c0
          refine take' 0 (v := ?_) rfl (by kernel_rfl) (by kernel_rfl) (by kernel_rfl) (fun _ _ _ h => h) (Or.inl ⟨by rfl, ?_⟩) (by assumption) ?_
          rotate_left
          · intro w9 hSw
            go_simp
            first | done | with_reducible rfl
          simp only [Act.put, List.setIfInBounds_toArray, List.set_cons_zero, List.set_cons_succ]
          refine take' 1 (v := ?_) rfl (by kernel_rfl) (by kernel_rfl) (by kernel_rfl) (fun _ _ _ h => h) (Or.inl ⟨by rfl, ?_⟩) (by assumption) ?_
          rotate_left
          · intro w9 hSw
            go_simp
            first | done | with_reducible rfl
          simp only [Act.put, List.setIfInBounds_toArray, List.set_cons_zero, List.set_cons_succ]
          refine take' 2 (v := ?_) rfl (by kernel_rfl) (by kernel_rfl) (by kernel_rfl) (fun _ _ _ h => h) (Or.inl ⟨by rfl, ?_⟩) (by assumption) ?_
          rotate_left
          · intro w9 hSw
            go_simp
            first | done | with_reducible rfl
          simp only [Act.put, List.setIfInBounds_toArray, List.set_cons_zero, List.set_cons_succ]
          refine take' 3 (v := ?_) rfl (by kernel_rfl) (by kernel_rfl) (by kernel_rfl) (fun _ _ _ h => h) (Or.inl ⟨by rfl, ?_⟩) (by assumption) ?_
          rotate_left
          · intro w9 hSw
            go_simp
            first | done | with_reducible rfl
          simp only [Act.put, List.setIfInBounds_toArray, List.set_cons_zero, List.set_cons_succ]
          try simp only [hjn, decide_true, decide_false, gt_iff_lt, ge_iff_le]
          refine take' 4 (v := ?_) rfl (by kernel_rfl) (by kernel_rfl) (by kernel_rfl) (fun _ _ _ h => h) (Or.inl ⟨by rfl, ?_⟩) (by assumption) ?_
          rotate_left
          · intro w9 hSw
            go_simp
            first | done | with_reducible rfl
          simp only [Act.put, List.setIfInBounds_toArray, List.set_cons_zero, List.set_cons_succ]
          refine take' 5 (v := undef) rfl (by kernel_rfl) (by kernel_rfl) (by kernel_rfl) (fun _ _ _ h => h) (Or.inr ⟨by rfl, rfl⟩) (by assumption) ?_
          simp only [Act.put, List.setIfInBounds_toArray, List.set_cons_zero, List.set_cons_succ]
          refine take' 6 (v := undef) rfl (by kernel_rfl) (by kernel_rfl) (by kernel_rfl) (fun _ _ _ h => h) (Or.inr ⟨by rfl, rfl⟩) (by assumption) ?_
          simp only [Act.put, List.setIfInBounds_toArray, List.set_cons_zero, List.set_cons_succ]
          refine take' 7 (v := undef) rfl (by kernel_rfl) (by kernel_rfl) (by kernel_rfl) (fun _ _ _ h => h) (Or.inr ⟨by rfl, rfl⟩) (by assumption) ?_
          simp only [Act.put, List.setIfInBounds_toArray, List.set_cons_zero, List.set_cons_succ]
          refine take' 8 (v := undef) rfl (by kernel_rfl) (by kernel_rfl) (by kernel_rfl) (fun _ _ _ h => h) (Or.inr ⟨by rfl, rfl⟩) (by assumption) ?_
          simp only [Act.put, List.setIfInBounds_toArray, List.set_cons_zero, List.set_cons_succ]
          refine take' 9 (v := undef) rfl (by kernel_rfl) (by kernel_rfl) (by kernel_rfl) (fun _ _ _ h => h) (Or.inr ⟨by rfl, rfl⟩) (by assumption) ?_
          simp only [Act.put, List.setIfInBounds_toArray, List.set_cons_zero, List.set_cons_succ]
          refine take' 10 (v := undef) rfl (by kernel_rfl) (by kernel_rfl) (by kernel_rfl) (fun _ _ _ h => h) (Or.inr ⟨by rfl, rfl⟩) (by assumption) ?_
          simp only [Act.put, List.setIfInBounds_toArray, List.set_cons_zero, List.set_cons_succ]
          refine take' 11 (v := undef) rfl (by kernel_rfl) (by kernel_rfl) (by kernel_rfl) (fun _ _ _ h => h) (Or.inr ⟨by rfl, rfl⟩) (by assumption) ?_
          simp only [Act.put, List.setIfInBounds_toArray, List.set_cons_zero, List.set_cons_succ]
          refine take' 12 (v := undef) rfl (by kernel_rfl) (by kernel_rfl) (by kernel_rfl) (fun _ _ _ h => h) (Or.inr ⟨by rfl, rfl⟩) (by assumption) ?_
          simp only [Act.put, List.setIfInBounds_toArray, List.set_cons_zero, List.set_cons_succ]
          refine take' 13 (v := undef) rfl (by kernel_rfl) (by kernel_rfl) (by kernel_rfl) (fun _ _ _ h => h) (Or.inr ⟨by rfl, rfl⟩) (by assumption) ?_
          simp only [Act.put, List.setIfInBounds_toArray, List.set_cons_zero, List.set_cons_succ]
          refine take' 14 (v := ?_) rfl (by kernel_rfl) (by kernel_rfl) (by kernel_rfl) (fun _ _ _ h => h) (Or.inl ⟨by rfl, ?_⟩) (by assumption) ?_
          rotate_left
          · intro w9 hSw
            go_simp
            first | done | with_reducible rfl
          simp only [Act.put, List.setIfInBounds_toArray, List.set_cons_zero, List.set_cons_succ]
          refine wpAnyH_done (by kernel_rfl) ?_ _
          clear hHeld bD
          clear hjn
          obtain ⟨wB, hwB⟩ : ∃ wB, w6.alloc (.cells #[.int .i64 0] 3) = wB := ⟨_, rfl⟩
          have hnew := heap_alloc_new w6 (.cells #[.int .i64 0] 3)
          have b3 := below_alloc (w := w6) (.cells #[.int .i64 0] 3)
          rw [hwB] at hnew b3
          have hO3 := own_below hO b3
          have s3 := b3.size
          have s4 := hB.size
          have hbB : w.heap.size ≤ wB.heap.size := by omega
          have hbl : (n + 1) * 8 ≤ 140737488355328 := by omega
          have hrow := fun k hk => (hO.lt k hk)
          go_wp2_with (at_builtin; (try rw [hwB]); refine wpList_append_lies _ (by rfl) _ _ _ (by rfl) w.heap.size 3 i0 _ 1 8 Tryz.underlying68 hi0 hz0 hz1 hz2 rfl (by omega) _ n (iv ys) (by rfl) hO3 ⟨w6.heap.size, 0, none⟩ 1 1 [.int .i64 0] (by rfl) (by rfl) (World.news_of_block (cs := #[.int .i64 0]) (t := 3) (fr := (0, 0)) hnew) (by simp [Value.oneCell']) (by omega) (by simp only [maxLen]; omega) hbl hbB wB.heap.size rfl ?_)
          intro gb cap w9 hown4 hgrow hat hlt4
          have hB3 := hB.trans (b3.mono hB.size)
          have b9 := below_grown hB3.size (fun k hk => (hrow k hk).1) hgrow
          have hB9 := hB3.trans b9
          have hgb : w.heap.size ≤ gb := by
            rcases hat with h | h
            · exact (hrow _ h).1
            · omega
          have hO9 : w9.ownsRow w.heap.size 3 1 (.slice (some ⟨gb, 0, none⟩) (n + 1) cap) (n + 1) (iv (shf ys n)) := by
            have e := shf_top ys
            rw [HY.out.1] at e
            rw [e, iv_append]
            exact hown4
          clear hown4 hgrow hat hwB hnew b3 hO3 hB3 b9 hrow s3 hbB hbl
          have c9 := below_cell hB9 hcx
          clear hO hB s4 c0
          obtain ⟨N1, hN1⟩ : ∃ N1, n + 1 = N1 := ⟨_, rfl⟩
          rw [hN1] at hO9 ⊢
          have q0 : (N1 : Int) - 1 = (n : Int) := by omega
          have q1 : IntKind.i64.wrap (n : Int) = (n : Int) := Go.IntWalk.i64_in _ (by omega)
          have q2 : (0 : Int) ≤ (N1 : Int) := by omega
          have q3 : (N1 : Int) ≤ 2097153 := by omega
          have HN := hide' hN1
          clear hN1
          go_wp2_with fail
          go_loopw [6] (fun vi wr => ∃ m : Nat, j ≤ m ∧ m ≤ n ∧ vi = .int .i64 m ∧ wr.ownsRow w.heap.size 3 1 (.slice (some ⟨gb, 0, none⟩) N1 cap) N1 (iv (shf ys m)) ∧ Below w.heap.size w wr) (fun vi _ => (intOf vi).toNat - j)
          case atStart => exact ⟨n, hj, Nat.le_refl _, by first | rfl | rw [q0] | go_num, hO9, hB9⟩
          case round =>
            clear hO9 hB9 c9
            obtain ⟨m, hjm, hmn, rfl, hO, hB⟩ := hrel
            have c9 := below_cell hB hcx
            by_cases hlt9 : j < m
            · obtain ⟨m9, hm9⟩ : ∃ m9, m = m9 + 1 := ⟨m - 1, by omega⟩
              obtain ⟨z, hz⟩ : ∃ z, ys[m9]? = some z := ⟨ys[m9]'(by have := HY.out.1; omega), List.getElem?_eq_getElem _⟩
              have hat : (shf ys m)[m9]? = some z := by rw [hm9, shf_at (by have := HY.out.1; omega)]; exact hz
              have hc9 := hO.cellAt m9 (by have := HN.out; omega)
              rw [iv_at hat] at hc9
              have hfz := hO.frozenAt m
              have hst := (hO.stored m (.int .i64 z)).1
              rw [iv_set, hm9, shf_step (by have := HY.out.1; omega) hz, ← hm9] at hst
              have hc8 : ∃ z8, (shf ys m)[m]? = some z8 := ⟨_, List.getElem?_eq_getElem (by rw [shf_length (by have := HY.out.1; omega)]; have := HY.out.1; omega)⟩
              obtain ⟨z8, hz8⟩ := hc8
              have hd9 := hO.cellAt m (by have := HN.out; omega)
              rw [iv_at hz8] at hd9
              have m0 : (m : Int) - 1 = (m9 : Int) := by omega
              have m1 : (0 : Int) ≤ (m9 : Int) := by omega
              have m2 : (m9 : Int) < (N1 : Int) := by have := HN.out; omega
              have m3 : (m : Int) < (N1 : Int) := by have := HN.out; omega
              have m4 : (0 : Int) ≤ (m : Int) := by omega
              have m5 : IntKind.i64.wrap (m9 : Int) = (m9 : Int) := Go.IntWalk.i64_in _ (by omega)
              have m6 : (j : Int) < (m : Int) := by omega
              have I1 := hide' (And.intro hst (bset (c := gb) (o := m) (u := .int .i64 z) hB hgb))
              have HM := hide' hm9
              clear hm9 hst hat hz hz8
              go_wp2
              go_roundw
              case rel => exact ⟨m9, by have := HM.out; omega, by have := HM.out; omega, by first | rfl | rw [m0] | go_num, I1.out.1, I1.out.2⟩
              case measure => have := HM.out; simp [intOf]; omega
            · obtain rfl : m = j := by omega
              have m6 : ¬ (m : Int) < (m : Int) := by omega
              have hc8 : ∃ z8, (shf ys m)[m]? = some z8 := ⟨_, List.getElem?_eq_getElem (by rw [shf_length (by have := HY.out.1; omega)]; have := HY.out.1; omega)⟩
              obtain ⟨z8, hz8⟩ := hc8
              have hd9 := hO.cellAt m (by have := HN.out; omega)
              rw [iv_at hz8] at hd9
              have hfz := hO.frozenAt m
              have hst := (hO.stored m (.int .i64 x)).1
              rw [iv_set, shf_put (by have := HY.out.1; omega)] at hst
              have m3 : (m : Int) < (N1 : Int) := by have := HN.out; omega
              have m4 : (0 : Int) ≤ (m : Int) := by omega
              have hY9 := HY.out.2.1.put (x := x) (j := m) (by have := HY.out.1; omega) hlo hhi
              rw [← HY.out.2.2.1] at hY9
              have hl9 : (ys.take m ++ x :: ys.drop m).length = N1 := by have := HY.out.1; have := HN.out; simp only [List.length_append, List.length_take, List.length_cons, List.length_drop]; omega
              have I1 := hide' (And.intro (show _ from (by rw [hl9]; exact hst : ((wr.setCell ⟨gb, m, none⟩ (.int .i64 x)).ownsRow w.heap.size 3 1 (.slice (some ⟨gb, 0, none⟩) N1 cap) (ys.take m ++ x :: ys.drop m).length (iv (ys.take m ++ x :: ys.drop m))))) (And.intro (bset (c := gb) (o := m) (u := .int .i64 x) hB hgb) hY9))
              clear hst hY9 hl9 hz8
              go_wp2
              go_roundw
              case rel => exact ⟨k + 1, by omega, by go_num, _, I1.out.1, I1.out.2.1, I1.out.2.2⟩
              case measure => simp [intOf]; omega
    · obtain rfl : k = zs.length := by omega
      have i1 : ¬ (zs.length : Int) < (zs.length : Int) := by omega
      go_wp2
      go_ret
      exact ⟨u3, rfl, ys, hO, hB, hY⟩
end Go.Proofs.YtkfhllonjgcbkaaGreat

namespace Go.Proofs.YtkfhllonjgcbkaaGreat
open Go.RowKit
set_option linter.unusedVariables false

theorem low_of2 {N D Z : Int} {V : Nat} (h : Low N D Z V) : Low (rn (ng N != ng D) (am N) (am D)) ((rd (am D) : Nat) : Int) Z V := by
  have hD : am D ≠ 0 := fun e => h.ne (am_eq_zero.1 e)
  rw [rn_of hD, rd_of hD]
  refine h.congr (by omega) ?_
  unfold sg ng am
  rcases Int.lt_or_le N 0 with h1 | h1 <;> rcases Int.lt_or_le D 0 with h2 | h2
  · rw [show decide (N < 0) = true by simpa using h1, show decide (D < 0) = true by simpa using h2]
    simp only [bne_self_eq_false, Bool.false_eq_true, if_false]
    rw [show ((N.natAbs : Nat) : Int) = -N by omega, show ((D.natAbs : Nat) : Int) = -D by omega]; grind
  · rw [show decide (N < 0) = true by simpa using h1, show decide (D < 0) = false by simpa using h2]
    simp only [show (true != false) = true from rfl, if_true]
    rw [show ((N.natAbs : Nat) : Int) = -N by omega, show ((D.natAbs : Nat) : Int) = D by omega]; grind
  · rw [show decide (N < 0) = false by simpa using h1, show decide (D < 0) = true by simpa using h2]
    simp only [show (false != true) = true from rfl, if_true]
    rw [show ((N.natAbs : Nat) : Int) = N by omega, show ((D.natAbs : Nat) : Int) = -D by omega]; grind
  · rw [show decide (N < 0) = false by simpa using h1, show decide (D < 0) = false by simpa using h2]
    simp only [bne_self_eq_false, Bool.false_eq_true, if_false]
    rw [show ((N.natAbs : Nat) : Int) = N by omega, show ((D.natAbs : Nat) : Int) = D by omega]

set_option maxHeartbeats 2000000 in
set_option maxRecDepth 100000 in
theorem vqOf_is (s : Bool) (ao : Option Addr) (n cap X : Nat) (t : Bool) (ao2 : Option Addr) (m cap2 Y V : Nat) (Z : Int) (w : World) (hm : n ≤ 35184372087808) (hS : Seg w ao X n) (hm2 : m ≤ 35184372087808) (hS2 : Seg w ao2 Y m) (hL : Low (sg s X) (sg t Y) Z V) :
    Calls Tryz.prog 57 #[.agg #[.bool s, .slice ao n cap], .agg #[.bool t, .slice ao2 m cap2]] w fun e w' => ∃ p q, e = .returned (.tuple #[.agg #[.bool (ng Z), .slice p (ln (am Z)) (ln (am Z)), .slice q (ln V) (ln V)], .int .i64 0]) ∧ New w w' p (am Z) (ln (am Z)) ∧ New w w' q V (ln V) := by
  obtain ⟨N, hN⟩ : ∃ N, sg s X = N := ⟨_, rfl⟩
  obtain ⟨D, hD⟩ : ∃ D, sg t Y = D := ⟨_, rfl⟩
  rw [hN, hD] at hL
  have lN : ln (am N) ≤ n := by rw [← hN, am_sg]; exact ln_le_of_lt hS.1
  have lD : ln (am D) ≤ m := by rw [← hD, am_sg]; exact ln_le_of_lt hS2.1
  have hb : (((ln (am D) : Nat) : Int) == 0) = false := by
    rw [beq_eq_false_iff_ne]
    have h1 : am D ≠ 0 := fun e => hL.ne (am_eq_zero.1 e)
    have := mt ln_eq_zero.1 h1
    omega
  have hL2 : Low (rn (!(ng N == ng D)) (am N) (am D)) ((rd (am D) : Nat) : Int) Z V := low_of2 hL
  have H1 := hide' (fun w' k => vNorm_is s ao n cap X N w' (by omega) k hN)
  have H2 := hide' (fun w' k => vNorm_is t ao2 m cap2 Y D w' (by omega) k hD)
  have H3 := hide' (fun w' p q k1 k2 => vqNorm_is (!(ng N == ng D)) p (ln (am N)) (ln (am N)) (am N) q (ln (am D)) (ln (am D)) (am D) V Z w' (by omega) k1 (by omega) k2 hL2)
  clear hN hD hL hL2
  go_enter Tryz.func57, Tryz.ntmps57
  go_wp2_with fail
  obtain ⟨W, hW⟩ : ∃ W, (((w.alloc (.cells #[.bool s, .slice ao n cap] 27)).alloc (.cells #[.bool t, .slice ao2 m cap2] 27)).alloc (.cells #[.bool false, .slice none 0 0, .slice none 0 0] 29)) = W := ⟨_, rfl⟩
  have q00 : W.cell? ⟨w.heap.size, 0, none⟩ = some (.bool s) := by subst hW; go_simp
  have q01 : W.cell? ⟨w.heap.size, 1, none⟩ = some (.slice ao n cap) := by subst hW; go_simp
  have q10 : W.cell? ⟨w.heap.size + 1, 0, none⟩ = some (.bool t) := by subst hW; go_simp
  have q11 : W.cell? ⟨w.heap.size + 1, 1, none⟩ = some (.slice ao2 m cap2) := by subst hW; go_simp
  have r00 : W.cell? ⟨w.heap.size + 1 + 1, 0, none⟩ = some (.bool false) := by subst hW; go_simp
  have r01 : W.cell? ⟨w.heap.size + 1 + 1, 1, none⟩ = some (.slice none 0 0) := by subst hW; go_simp
  have r02 : W.cell? ⟨w.heap.size + 1 + 1, 2, none⟩ = some (.slice none 0 0) := by subst hW; go_simp
  have hB : Below w.heap.size w W := by subst hW; exact ((((Below.refl _ _).alloc (by (try simp only [World.size_alloc]); omega) _).alloc (by (try simp only [World.size_alloc]); omega) _).alloc (by (try simp only [World.size_alloc]); omega) _)
  have hR0 : Row W (w.heap.size + 1 + 1) := by
    have := row_new (((w.alloc (.cells #[.bool s, .slice ao n cap] 27)).alloc (.cells #[.bool t, .slice ao2 m cap2] 27))) #[.bool false, .slice none 0 0, .slice none 0 0] 29
    try simp only [World.size_alloc] at this
    subst hW; exact this
  have hz : W.heap.size = w.heap.size + 1 + 1 + 1 := by subst hW; simp only [World.size_alloc]
  rw [hW]
  clear hW
  have hBW : Below W.heap.size W W := Below.refl _ _
  refine (H1.out _ (sb hS hB hBW)).mono ?_
  rintro e w1 ⟨a1, rfl, h1⟩
  have b1 := h1.below
  replace h1 := h1.back hBW
  replace hBW := hBW.trans (b1.mono hBW.size)
  replace q00 := below_cell b1 q00
  replace q01 := below_cell b1 q01
  replace q10 := below_cell b1 q10
  replace q11 := below_cell b1 q11
  replace r00 := below_cell b1 r00
  replace r01 := below_cell b1 r01
  replace r02 := below_cell b1 r02
  replace hR0 := below_row b1 hR0
  have hsz1 := hBW.size
  have hlt1hR0 := hR0.lt
  have l100 : ((w1.alloc (.cells #[.bool (ng N), .slice a1 (ln (am N)) (ln (am N))] 27))).cell? ⟨w1.heap.size, 0, none⟩ = some (.bool (ng N)) := by go_simp
  have l101 : ((w1.alloc (.cells #[.bool (ng N), .slice a1 (ln (am N)) (ln (am N))] 27))).cell? ⟨w1.heap.size, 1, none⟩ = some (.slice a1 (ln (am N)) (ln (am N))) := by go_simp
  have cb1 : Below w1.heap.size w1 ((w1.alloc (.cells #[.bool (ng N), .slice a1 (ln (am N)) (ln (am N))] 27))) := ((Below.refl _ _).alloc (by (try simp only [World.size_alloc]); omega) _)
  replace hBW := hBW.trans (cb1.mono hBW.size)
  replace q00 := below_cell cb1 q00
  replace q01 := below_cell cb1 q01
  replace q10 := below_cell cb1 q10
  replace q11 := below_cell cb1 q11
  replace r00 := below_cell cb1 r00
  replace r01 := below_cell cb1 r01
  replace r02 := below_cell cb1 r02
  replace hR0 := below_row cb1 hR0
  replace h1 := h1.later cb1
  have hL10 : Row ((w1.alloc (.cells #[.bool (ng N), .slice a1 (ln (am N)) (ln (am N))] 27))) (w1.heap.size) := by
    have := row_new (w1) #[.bool (ng N), .slice a1 (ln (am N)) (ln (am N))] 27
    try simp only [World.size_alloc] at this
    exact this
  go_wp2_with fail
  generalize (w1.alloc (.cells #[.bool (ng N), .slice a1 (ln (am N)) (ln (am N))] 27)) = w1x at q00 q01 q10 q11 r00 r01 r02 l100 l101 hR0 hL10 h1 hBW cb1 ⊢
  clear cb1
  refine (H2.out _ (sb hS2 hB hBW)).mono ?_
  rintro e w2 ⟨a2, rfl, h2⟩
  have b2 := h2.below
  replace h2 := h2.back hBW
  replace hBW := hBW.trans (b2.mono hBW.size)
  replace q00 := below_cell b2 q00
  replace q01 := below_cell b2 q01
  replace q10 := below_cell b2 q10
  replace q11 := below_cell b2 q11
  replace r00 := below_cell b2 r00
  replace r01 := below_cell b2 r01
  replace r02 := below_cell b2 r02
  replace l100 := below_cell b2 l100
  replace l101 := below_cell b2 l101
  replace hR0 := below_row b2 hR0
  replace hL10 := below_row b2 hL10
  replace h1 := h1.later b2
  have hsz2 := hBW.size
  have hlt2hR0 := hR0.lt
  have hlt2hL10 := hL10.lt
  have l200 : ((w2.alloc (.cells #[.bool (ng D), .slice a2 (ln (am D)) (ln (am D))] 27))).cell? ⟨w2.heap.size, 0, none⟩ = some (.bool (ng D)) := by go_simp
  have l201 : ((w2.alloc (.cells #[.bool (ng D), .slice a2 (ln (am D)) (ln (am D))] 27))).cell? ⟨w2.heap.size, 1, none⟩ = some (.slice a2 (ln (am D)) (ln (am D))) := by go_simp
  have cb2 : Below w2.heap.size w2 ((w2.alloc (.cells #[.bool (ng D), .slice a2 (ln (am D)) (ln (am D))] 27))) := ((Below.refl _ _).alloc (by (try simp only [World.size_alloc]); omega) _)
  replace hBW := hBW.trans (cb2.mono hBW.size)
  replace q00 := below_cell cb2 q00
  replace q01 := below_cell cb2 q01
  replace q10 := below_cell cb2 q10
  replace q11 := below_cell cb2 q11
  replace r00 := below_cell cb2 r00
  replace r01 := below_cell cb2 r01
  replace r02 := below_cell cb2 r02
  replace l100 := below_cell cb2 l100
  replace l101 := below_cell cb2 l101
  replace hR0 := below_row cb2 hR0
  replace hL10 := below_row cb2 hL10
  replace h1 := h1.later cb2
  replace h2 := h2.later cb2
  have hL20 : Row ((w2.alloc (.cells #[.bool (ng D), .slice a2 (ln (am D)) (ln (am D))] 27))) (w2.heap.size) := by
    have := row_new (w2) #[.bool (ng D), .slice a2 (ln (am D)) (ln (am D))] 27
    try simp only [World.size_alloc] at this
    exact this
  go_wp2_with fail
  generalize (w2.alloc (.cells #[.bool (ng D), .slice a2 (ln (am D)) (ln (am D))] 27)) = w2x at q00 q01 q10 q11 r00 r01 r02 l100 l101 l200 l201 hR0 hL10 hL20 h1 h2 hBW cb2 ⊢
  clear cb2
  refine (H3.out _ a1 a2 h1.seg h2.seg).mono ?_
  rintro e w3 ⟨p3, q3, rfl, hp3, hq3⟩
  have b3 := hp3.below
  replace hp3 := hp3.back hBW
  replace hq3 := hq3.back hBW
  replace hBW := hBW.trans (b3.mono hBW.size)
  replace q00 := below_cell b3 q00
  replace q01 := below_cell b3 q01
  replace q10 := below_cell b3 q10
  replace q11 := below_cell b3 q11
  replace r00 := below_cell b3 r00
  replace r01 := below_cell b3 r01
  replace r02 := below_cell b3 r02
  replace l100 := below_cell b3 l100
  replace l101 := below_cell b3 l101
  replace l200 := below_cell b3 l200
  replace l201 := below_cell b3 l201
  replace hR0 := below_row b3 hR0
  replace hL10 := below_row b3 hL10
  replace hL20 := below_row b3 hL20
  replace h1 := h1.later b3
  replace h2 := h2.later b3
  have fz0 := fun o => hR0.frozen o
  go_wp2
  all_goals refine bodyPost_ret (v := .tuple #[Value.agg #[Value.bool (ng Z), Value.slice p3 (ln (am Z)) (ln (am Z)), Value.slice q3 (ln V) (ln V)], .int .i64 0]) (by rw [results_ct rfl]; go_simp) rfl ?_
  all_goals exact ⟨p3, q3, rfl, hp3.mid hB (((((Mid.refl _ _ _).set _ _ (by omega) (by omega) _).set _ _ (by omega) (by omega) _).set _ _ (by omega) (by omega) _)), hq3.mid hB (((((Mid.refl _ _ _).set _ _ (by omega) (by omega) _).set _ _ (by omega) (by omega) _).set _ _ (by omega) (by omega) _))⟩

set_option maxHeartbeats 4000000 in
set_option maxRecDepth 100000 in
theorem vqInv_is (s0 : Bool) (a0 : Option Addr) (n0 c0 X0 : Nat) (b0 : Option Addr) (m0 d0 Y0 : Nat) (Z : Int) (V : Nat) (w : World) (hc0 : n0 ≤ c0) (hm0 : n0 ≤ 4398046511104) (hS0 : Seg w a0 X0 n0) (hd0 : m0 ≤ d0) (hk0 : m0 ≤ 4398046511104) (hT0 : Seg w b0 Y0 m0) (hL : Low (rd Y0 : Nat) (rn s0 X0 Y0) Z V) :
    Calls Tryz.prog 25 #[Value.agg #[Value.bool s0, Value.slice a0 n0 c0, Value.slice b0 m0 d0]] w fun e w' => ∃ p q, e = .returned (.tuple #[.agg #[.bool (ng Z), .slice p (ln (am Z)) (ln (am Z)), .slice q (ln V) (ln V)], .int .i64 0]) ∧ New w w' p (am Z) (ln (am Z)) ∧ New w w' q V (ln V) := by
  obtain ⟨Z1, V1, h1⟩ := low_ex (rn s0 X0 Y0) (rd Y0 : Nat) (rd_ne Y0)
  obtain ⟨lZ, lV⟩ := low_ln hS0.1 hT0.1 h1
  have G1 := hide' h1
  have h2 : Low (sg false V1) (sg (ng Z1) (am Z1)) Z V := by
    rw [sg_na]
    refine hL.congr (fun e => hL.ne ?_) ?_
    · have := h1.eq
      rw [e, Int.zero_mul] at this
      rcases Int.mul_eq_zero.1 this.symm with k | k
      · exact k
      · have := h1.pos; omega
    · have := h1.eq
      show ((rd Y0 : Nat) : Int) * Z1 = (V1 : Int) * rn s0 X0 Y0
      grind
  have HO := hide' (fun w' p q k1 k2 => vqOf_is false q (ln V1) (ln V1) V1 (ng Z1) p (ln (am Z1)) (ln (am Z1)) (am Z1) V Z w' (by omega) k1 (by omega) k2 h2)
  clear hL h1 h2
  go_enter Tryz.func25, Tryz.ntmps25
  go_wp2_with fail
  obtain ⟨W, hW⟩ : ∃ W, ((w.alloc (.cells #[.bool s0, .slice a0 n0 c0, .slice b0 m0 d0] 29)).alloc (.cells #[.bool false, .slice none 0 0, .slice none 0 0] 29)) = W := ⟨_, rfl⟩
  have q00 : W.cell? ⟨w.heap.size, 0, none⟩ = some (.bool s0) := by subst hW; go_simp
  have q01 : W.cell? ⟨w.heap.size, 1, none⟩ = some (.slice a0 n0 c0) := by subst hW; go_simp
  have q02 : W.cell? ⟨w.heap.size, 2, none⟩ = some (.slice b0 m0 d0) := by subst hW; go_simp
  have r00 : W.cell? ⟨w.heap.size + 1, 0, none⟩ = some (.bool false) := by subst hW; go_simp
  have r01 : W.cell? ⟨w.heap.size + 1, 1, none⟩ = some (.slice none 0 0) := by subst hW; go_simp
  have r02 : W.cell? ⟨w.heap.size + 1, 2, none⟩ = some (.slice none 0 0) := by subst hW; go_simp
  have hB : Below w.heap.size w W := by subst hW; exact (((Below.refl _ _).alloc (by (try simp only [World.size_alloc]); omega) _).alloc (by (try simp only [World.size_alloc]); omega) _)
  have hR0 : Row W (w.heap.size + 1) := by
    have := row_new ((w.alloc (.cells #[.bool s0, .slice a0 n0 c0, .slice b0 m0 d0] 29))) #[.bool false, .slice none 0 0, .slice none 0 0] 29
    try simp only [World.size_alloc] at this
    subst hW; exact this
  have hP0 : Row W (w.heap.size) := by
    have := row_new (w) #[.bool s0, .slice a0 n0 c0, .slice b0 m0 d0] 29
    try simp only [World.size_alloc] at this
    subst hW; exact (this.alloc _)
  have hz : W.heap.size = w.heap.size + 1 + 1 := by subst hW; simp only [World.size_alloc]
  rw [hW]
  clear hW
  have hBW : Below W.heap.size W W := Below.refl _ _
  refine (vqNorm_is s0 a0 n0 c0 X0 b0 m0 d0 Y0 V1 Z1 _ (by omega) (sb hS0 hB hBW) (by omega) (sb hT0 hB hBW) G1.out).mono ?_
  rintro e w41 ⟨p41, q41, rfl, hp41, hq41⟩
  have b41 := hp41.below
  replace hp41 := hp41.back hBW
  replace hq41 := hq41.back hBW
  replace hBW := hBW.trans (b41.mono hBW.size)
  replace q00 := below_cell b41 q00
  replace q01 := below_cell b41 q01
  replace q02 := below_cell b41 q02
  replace r00 := below_cell b41 r00
  replace r01 := below_cell b41 r01
  replace r02 := below_cell b41 r02
  replace hR0 := below_row b41 hR0
  replace hP0 := below_row b41 hP0
  have hsB := hBW.size
  have hM : Mid w.heap.size W.heap.size w41 (((w41.setCell ⟨w.heap.size, 0, none⟩ (.bool (ng Z1))).setCell ⟨w.heap.size, 1, none⟩ (.slice p41 (ln (am Z1)) (ln (am Z1)))).setCell ⟨w.heap.size, 2, none⟩ (.slice q41 (ln V1) (ln V1))) := ((((Mid.refl _ _ _).set _ _ (by omega) (by omega) _).set _ _ (by omega) (by omega) _).set _ _ (by omega) (by omega) _)
  have eM := set3_same (w := w41) (c := w.heap.size) (u0 := .bool (ng Z1)) (u1 := .slice p41 (ln (am Z1)) (ln (am Z1))) (u2 := .slice q41 (ln V1) (ln V1)) q00 q01 q02
  have q00_ : ((((w41.setCell ⟨w.heap.size, 0, none⟩ (.bool (ng Z1))).setCell ⟨w.heap.size, 1, none⟩ (.slice p41 (ln (am Z1)) (ln (am Z1)))).setCell ⟨w.heap.size, 2, none⟩ (.slice q41 (ln V1) (ln V1)))).cell? ⟨w.heap.size, 0, none⟩ = some (.bool (ng Z1)) := eM.1
  have q01_ : ((((w41.setCell ⟨w.heap.size, 0, none⟩ (.bool (ng Z1))).setCell ⟨w.heap.size, 1, none⟩ (.slice p41 (ln (am Z1)) (ln (am Z1)))).setCell ⟨w.heap.size, 2, none⟩ (.slice q41 (ln V1) (ln V1)))).cell? ⟨w.heap.size, 1, none⟩ = some (.slice p41 (ln (am Z1)) (ln (am Z1))) := eM.2.1
  have q02_ : ((((w41.setCell ⟨w.heap.size, 0, none⟩ (.bool (ng Z1))).setCell ⟨w.heap.size, 1, none⟩ (.slice p41 (ln (am Z1)) (ln (am Z1)))).setCell ⟨w.heap.size, 2, none⟩ (.slice q41 (ln V1) (ln V1)))).cell? ⟨w.heap.size, 2, none⟩ = some (.slice q41 (ln V1) (ln V1)) := eM.2.2
  have r00_ : ((((w41.setCell ⟨w.heap.size, 0, none⟩ (.bool (ng Z1))).setCell ⟨w.heap.size, 1, none⟩ (.slice p41 (ln (am Z1)) (ln (am Z1)))).setCell ⟨w.heap.size, 2, none⟩ (.slice q41 (ln V1) (ln V1)))).cell? ⟨w.heap.size + 1, 0, none⟩ = some (.bool false) := (set3_far (by omega)).trans r00
  have r01_ : ((((w41.setCell ⟨w.heap.size, 0, none⟩ (.bool (ng Z1))).setCell ⟨w.heap.size, 1, none⟩ (.slice p41 (ln (am Z1)) (ln (am Z1)))).setCell ⟨w.heap.size, 2, none⟩ (.slice q41 (ln V1) (ln V1)))).cell? ⟨w.heap.size + 1, 1, none⟩ = some (.slice none 0 0) := (set3_far (by omega)).trans r01
  have r02_ : ((((w41.setCell ⟨w.heap.size, 0, none⟩ (.bool (ng Z1))).setCell ⟨w.heap.size, 1, none⟩ (.slice p41 (ln (am Z1)) (ln (am Z1)))).setCell ⟨w.heap.size, 2, none⟩ (.slice q41 (ln V1) (ln V1)))).cell? ⟨w.heap.size + 1, 2, none⟩ = some (.slice none 0 0) := (set3_far (by omega)).trans r02
  have hR0_ := (((hR0.setCell ⟨w.heap.size, 0, none⟩ (.bool (ng Z1))).setCell ⟨w.heap.size, 1, none⟩ (.slice p41 (ln (am Z1)) (ln (am Z1)))).setCell ⟨w.heap.size, 2, none⟩ (.slice q41 (ln V1) (ln V1)))
  have fzhR0 := fun o => hR0.frozen o
  have hP0_ := (((hP0.setCell ⟨w.heap.size, 0, none⟩ (.bool (ng Z1))).setCell ⟨w.heap.size, 1, none⟩ (.slice p41 (ln (am Z1)) (ln (am Z1)))).setCell ⟨w.heap.size, 2, none⟩ (.slice q41 (ln V1) (ln V1)))
  have fzhP0 := fun o => hP0.frozen o
  have khp41 := (hp41.mid hB hM).seg
  clear hp41
  have khq41 := (hq41.mid hB hM).seg
  clear hq41
  have hBn := (hB.trans (hBW.mono hB.size)).trans (hM.below (Nat.le_trans hB.size hBW.size))
  have hsM := hM.size
  clear hM eM
  go_wp2_with fail
  clear q00 q01 q02 r00 r01 r02 hR0 hP0 fzhR0 fzhP0 hB hBW
  generalize (((w41.setCell ⟨w.heap.size, 0, none⟩ (.bool (ng Z1))).setCell ⟨w.heap.size, 1, none⟩ (.slice p41 (ln (am Z1)) (ln (am Z1)))).setCell ⟨w.heap.size, 2, none⟩ (.slice q41 (ln V1) (ln V1))) = w41y at q00_ q01_ q02_ r00_ r01_ r02_ hR0_ hP0_ khp41 khq41 hBn hsM ⊢
  have q00 := q00_
  clear q00_
  have q01 := q01_
  clear q01_
  have q02 := q02_
  clear q02_
  have r00 := r00_
  clear r00_
  have r01 := r01_
  clear r01_
  have r02 := r02_
  clear r02_
  have hR0 := hR0_
  clear hR0_
  have hP0 := hP0_
  clear hP0_
  have hB := hBn
  clear hBn
  have hBW : Below w41y.heap.size w41y w41y := Below.refl _ _
  replace hBW := hBW.drew
  replace khp41 := khp41.drew
  replace khq41 := khq41.drew
  first
    | go_region_held3 (fun w' => w'.cell? ⟨w.heap.size, 0, none⟩ = some (.bool (ng Z1)) ∧ w'.cell? ⟨w.heap.size, 1, none⟩ = some (.slice p41 (ln (am Z1)) (ln (am Z1))) ∧ w'.cell? ⟨w.heap.size, 2, none⟩ = some (.slice q41 (ln V1) (ln V1)) ∧ Below w.heap.size w w')
        (first | exact ⟨q00, q01, q02, hB.trans (hBW.mono hB.size)⟩ | exact kp3 b42 (by assumption) | exact kp3 b43 (by assumption) | exact kp3 (below_alloc _) (by assumption) | exact kp3 (below_alloc _) ⟨q00, q01, q02, hB.trans (hBW.mono hB.size)⟩ | exact kpT3_3 (by assumption) (by omega) (by omega) (by omega) (by omega))
        (first
          | (go_at_call 58; refine (positive_is q41 (ln V1) (ln V1) _).mono ?_; rintro e w42 ⟨rfl, b42⟩; replace hBW := hBW.trans (b42.mono hBW.size); replace q00 := below_cell b42 q00; replace q01 := below_cell b42 q01; replace q02 := below_cell b42 q02; replace r00 := below_cell b42 r00; replace r01 := below_cell b42 r01; replace r02 := below_cell b42 r02; replace hR0 := below_row b42 hR0; replace hP0 := below_row b42 hP0; replace khp41 := khp41.later b42; replace khq41 := khq41.later b42)
          | (go_at_call 57; (fail_if_success clear b43); refine (HO.out _ p41 q41 khq41 khp41).mono ?_; rintro e w43 ⟨p43, q43, rfl, hp43, hq43⟩; have b43 := hp43.below; replace hp43 := hp43.back hBW; replace hq43 := hq43.back hBW; replace hBW := hBW.trans (b43.mono hBW.size); replace q00 := below_cell b43 q00; replace q01 := below_cell b43 q01; replace q02 := below_cell b43 q02; replace r00 := below_cell b43 r00; replace r01 := below_cell b43 r01; replace r02 := below_cell b43 r02; replace hR0 := below_row b43 hR0; replace hP0 := below_row b43 hP0; replace khp41 := khp41.later b43; replace khq41 := khq41.later b43; have fz := fun o => hR0.frozen o))
    | fail
  have fz0 := fun o => hR0.frozen o
  go_wp2
  all_goals refine bodyPost_ret (v := .tuple #[Value.agg #[Value.bool (ng Z), Value.slice p43 (ln (am Z)) (ln (am Z)), Value.slice q43 (ln V) (ln V)], .int .i64 0]) (by rw [results_ct rfl]; go_simp) rfl ?_
  all_goals exact ⟨p43, q43, rfl, hp43.mid hB (((((Mid.refl _ _ _).set _ _ (by omega) (by omega) _).set _ _ (by omega) (by omega) _).set _ _ (by omega) (by omega) _)), hq43.mid hB (((((Mid.refl _ _ _).set _ _ (by omega) (by omega) _).set _ _ (by omega) (by omega) _).set _ _ (by omega) (by omega) _))⟩

end Go.Proofs.YtkfhllonjgcbkaaGreat

namespace Go.Proofs.YtkfhllonjgcbkaaGreat
open Go.RowKit
set_option linter.unusedVariables false
set_option linter.unusedSimpArgs false

/-- a form's variables, as they stand -/
def vs (L : List Mo) : List Int := L.map (·.1)
theorem vs_length (L : List Mo) : (vs L).length = L.length := List.length_map _
theorem own_mono {w : World} {base base' : Nat} {e : TypeId} {size : Nat} {v : Value} {n : Nat} {xs : List Value} (h : w.ownsRow base e size v n xs) (hb : base' ≤ base) : w.ownsRow base' e size v n xs := by
  refine ⟨h.1, ?_⟩
  rcases h.2 with h0 | ⟨g, cap, cur, hv, hg, rest⟩
  · exact Or.inl h0
  · exact Or.inr ⟨g, cap, cur, hv, Nat.le_trans hb hg, rest⟩
theorem SAns.from {w W : World} {zs : List Int} {e : Ending} {w' : World} (h : SAns W zs e w') (hB : Below w.heap.size w W) : SAns w zs e w' := by
  obtain ⟨vo, he, ys, hO, hb, hY⟩ := h
  exact ⟨vo, he, ys, own_mono hO hB.size, hB.trans (hb.mono hB.size), hY⟩
/-- what the loops keep: the numbers so far -/
def LInv (w : World) (zs : List Int) (vo : Value) (wr : World) : Prop := wr.ownsRow w.heap.size 3 1 vo zs.length (iv zs) ∧ Below w.heap.size w wr

set_option maxHeartbeats 8000000 in
set_option maxRecDepth 100000 in
theorem vall_is (a : Option Addr) (ca : Nat) (L : List Mo) (b : Option Addr) (cb : Nat) (M : List Mo) (w : World) (hF : FAt w a L) (hG : FAt w b M) (hca : L.length ≤ ca) (hcb : M.length ≤ cb) (hm : L.length + M.length ≤ 2097152) :
    Calls Tryz.prog 45 #[.slice a L.length ca, .slice b M.length cb] w (SAns w (vs L ++ vs M)) := by
  obtain ⟨i0, hi0, hz0, hz1, hz2⟩ := info_parts info_int
  obtain ⟨ZZ, hZZ⟩ : ∃ ZZ, vs L ++ vs M = ZZ := ⟨_, rfl⟩
  rw [hZZ]
  replace hZZ := hide' hZZ
  go_enter Tryz.func45, Tryz.ntmps45
  go_wp2_with fail
  go_loopw [5, 6] (fun vo vi wr => ∃ k : Nat, k ≤ L.length ∧ vi = .int .i64 k ∧ LInv w (vs (L.take k)) vo wr) (fun _ vi _ => L.length - (intOf vi).toNat)
  case atStart => exact ⟨0, Nat.zero_le _, rfl, World.ownsRow_nil _ _ _ _, Below.refl _ _⟩
  case round =>
    obtain ⟨k, hk, rfl, hO, hB⟩ := hrel
    by_cases hlt : k < L.length
    · skip
      obtain ⟨p, hp⟩ : ∃ p, L[k]? = some p := ⟨L[k], List.getElem?_eq_getElem hlt⟩
      obtain ⟨bb, off, rfl, hb, hcell⟩ := hF (by intro e; rw [e] at hlt; simp at hlt)
      obtain ⟨c0, _, _, _⟩ := hcell k p hp
      replace c0 := below_cell hB c0
      obtain ⟨t1, t2⟩ := take_split hp
      have hv : vs (L.take (k + 1)) = vs (L.take k) ++ [p.1] := by rw [t1]; unfold vs; rw [List.map_append]; rfl
      obtain ⟨x, q⟩ := p
      simp only at c0 hv
      clear t1 t2 hp hcell
      have i1 : (0 : Int) ≤ (k : Int) := by omega
      have i2 : (k : Int) < (L.length : Int) := by omega
      obtain ⟨zs, hzs⟩ : ∃ zs, vs (L.take k) = zs := ⟨_, rfl⟩
      rw [hzs] at hO
      have hzl : zs.length ≤ 2097152 := by rw [← hzs]; rw [vs_length, List.length_take]; omega
      obtain ⟨wB, hwB⟩ : ∃ wB, wr.alloc (.cells #[.int .i64 x] 3) = wB := ⟨_, rfl⟩
      have hnew := heap_alloc_new wr (.cells #[.int .i64 x] 3)
      have b3 := below_alloc (w := wr) (.cells #[.int .i64 x] 3)
      rw [hwB] at hnew b3
      have hO3 := own_below hO b3
      have s3 := b3.size
      have s4 := hB.size
      have hbB : w.heap.size ≤ wB.heap.size := by omega
      have hbl : (zs.length + 1) * 8 ≤ 140737488355328 := by omega
      have hrow := fun k hk => (hO.lt k hk)
      go_wp2_with (at_builtin; (try rw [hwB]); refine wpList_append_lies _ (by rfl) _ _ _ (by rfl) w.heap.size 3 i0 _ 1 8 Tryz.underlying68 hi0 hz0 hz1 hz2 rfl (by omega) u5 zs.length (iv zs) (by rfl) hO3 ⟨wr.heap.size, 0, none⟩ 1 1 [.int .i64 x] (by rfl) (by rfl) (World.news_of_block (cs := #[.int .i64 x]) (t := 3) (fr := (0, 0)) hnew) (by simp [Value.oneCell']) (by omega) (by simp only [maxLen]; omega) hbl hbB wB.heap.size rfl ?_)
      intro gb cap w9 hown4 hgrow hat hlt4
      have hB3 := hB.trans (b3.mono hB.size)
      have b9 := below_grown hB3.size (fun k hk => (hrow k hk).1) hgrow
      have I1 : LInv w (zs ++ [x]) (.slice (some ⟨gb, 0, none⟩) (zs.length + 1) cap) w9 := ⟨by rw [List.length_append, iv_append]; exact hown4, hB3.trans b9⟩
      replace I1 := hide' I1
      replace hzs := hide' hzs
      clear hown4 hgrow hat hwB hnew b3 hO3 hB3 b9 hrow s3 hbB hbl hO hB
      go_wp2
      go_roundw
      case rel => exact ⟨k + 1, by omega, by go_num, by rw [hv, hzs.out]; exact I1.out⟩
      case measure => simp [intOf]; omega
    · obtain rfl : k = L.length := by omega
      have i1 : ¬ (L.length : Int) < (L.length : Int) := by omega
      rw [List.take_length] at hO
      go_wp2_with fail
      go_loopw [5, 7] (fun vo vi wr => ∃ k : Nat, k ≤ M.length ∧ vi = .int .i64 k ∧ LInv w (vs L ++ vs (M.take k)) vo wr) (fun _ vi _ => M.length - (intOf vi).toNat)
      case atStart => exact ⟨0, Nat.zero_le _, rfl, by show LInv w (vs L ++ []) _ _; rw [List.append_nil]; exact ⟨hO, hB⟩⟩
      case round =>
        clear hO hB hk hlt i1
        obtain ⟨k, hk, rfl, hO, hB⟩ := hrel
        by_cases hlt : k < M.length
        · skip
          obtain ⟨p, hp⟩ : ∃ p, M[k]? = some p := ⟨M[k], List.getElem?_eq_getElem hlt⟩
          obtain ⟨bb, off, rfl, hb, hcell⟩ := hG (by intro e; rw [e] at hlt; simp at hlt)
          obtain ⟨c0, _, _, _⟩ := hcell k p hp
          replace c0 := below_cell hB c0
          obtain ⟨t1, t2⟩ := take_split hp
          have hv : vs (M.take (k + 1)) = vs (M.take k) ++ [p.1] := by rw [t1]; unfold vs; rw [List.map_append]; rfl
          obtain ⟨x, q⟩ := p
          simp only at c0 hv
          clear t1 t2 hp hcell
          have i1 : (0 : Int) ≤ (k : Int) := by omega
          have i2 : (k : Int) < (M.length : Int) := by omega
          obtain ⟨zs, hzs⟩ : ∃ zs, vs L ++ vs (M.take k) = zs := ⟨_, rfl⟩
          rw [hzs] at hO
          have hzl : zs.length ≤ 2097152 := by rw [← hzs]; rw [List.length_append, vs_length, vs_length, List.length_take]; omega
          obtain ⟨wB, hwB⟩ : ∃ wB, wr.alloc (.cells #[.int .i64 x] 3) = wB := ⟨_, rfl⟩
          have hnew := heap_alloc_new wr (.cells #[.int .i64 x] 3)
          have b3 := below_alloc (w := wr) (.cells #[.int .i64 x] 3)
          rw [hwB] at hnew b3
          have hO3 := own_below hO b3
          have s3 := b3.size
          have s4 := hB.size
          have hbB : w.heap.size ≤ wB.heap.size := by omega
          have hbl : (zs.length + 1) * 8 ≤ 140737488355328 := by omega
          have hrow := fun k hk => (hO.lt k hk)
          go_wp2_with (at_builtin; (try rw [hwB]); refine wpList_append_lies _ (by rfl) _ _ _ (by rfl) w.heap.size 3 i0 _ 1 8 Tryz.underlying68 hi0 hz0 hz1 hz2 rfl (by omega) u5 zs.length (iv zs) (by rfl) hO3 ⟨wr.heap.size, 0, none⟩ 1 1 [.int .i64 x] (by rfl) (by rfl) (World.news_of_block (cs := #[.int .i64 x]) (t := 3) (fr := (0, 0)) hnew) (by simp [Value.oneCell']) (by omega) (by simp only [maxLen]; omega) hbl hbB wB.heap.size rfl ?_)
          intro gb cap w9 hown4 hgrow hat hlt4
          have hB3 := hB.trans (b3.mono hB.size)
          have b9 := below_grown hB3.size (fun k hk => (hrow k hk).1) hgrow
          have I1 : LInv w (zs ++ [x]) (.slice (some ⟨gb, 0, none⟩) (zs.length + 1) cap) w9 := ⟨by rw [List.length_append, iv_append]; exact hown4, hB3.trans b9⟩
          replace I1 := hide' I1
          replace hzs := hide' hzs
          clear hown4 hgrow hat hwB hnew b3 hO3 hB3 b9 hrow s3 hbB hbl hO hB
          go_wp2
          go_roundw
          case rel => exact ⟨k + 1, by omega, by go_num, by rw [hv, ← List.append_assoc, hzs.out]; exact I1.out⟩
          case measure => simp [intOf]; omega
        · obtain rfl : k = M.length := by omega
          have i1 : ¬ (M.length : Int) < (M.length : Int) := by omega
          rw [List.take_length, hZZ.out] at hO
          have hl : ZZ.length ≤ 2097152 := by rw [← hZZ.out, List.length_append, vs_length, vs_length]; omega
          obtain ⟨ai, ci, rfl, hci, hI⟩ := own_ints hO
          have G := hide' (vsorted_is ai ci ZZ wr hI hci hl)
          clear hI hO
          go_wp2_with fail
          refine G.out.mono ?_
          rintro e w9 h9
          have h8 := h9.from hB
          obtain ⟨vo, rfl, h7⟩ := h8
          clear h9
          go_wp2
          go_ret
          exact ⟨vo, rfl, h7⟩
end Go.Proofs.YtkfhllonjgcbkaaGreat

namespace Go.Proofs.YtkfhllonjgcbkaaGreat
open Go.RowKit
set_option linter.unusedVariables false
set_option linter.unusedSimpArgs false

/-- the coefficients of some variables, without those that are 0 -/
def cl (l : Fo) : List Int → Fo
  | [] => []
  | x :: ys => (if co x l = 0 then [] else [(x, co x l)]) ++ cl l ys
theorem cl_append (l : Fo) : ∀ (ys zs : List Int), cl l (ys ++ zs) = cl l ys ++ cl l zs
  | [], zs => rfl
  | y :: ys, zs => by simp only [List.cons_append, cl, cl_append l ys zs, List.append_assoc]
theorem cl_mem (l : Fo) : ∀ (ys : List Int) (p : Int × Rat), p ∈ cl l ys → p.1 ∈ ys ∧ p.2 ≠ 0
  | [], p, h => by simp [cl] at h
  | y :: ys, p, h => by
    simp only [cl, List.mem_append] at h
    rcases h with h | h
    · split at h
      · simp at h
      · rename_i hne
        rw [List.mem_singleton] at h
        subst h
        exact ⟨List.mem_cons_self, hne⟩
    · have := cl_mem l ys p h
      exact ⟨List.mem_cons_of_mem _ this.1, this.2⟩
theorem cl_nrm (l : Fo) : ∀ (ys : List Int), ys.Pairwise (· < ·) → nrm (cl l ys)
  | [], _ => nrm.nil
  | y :: ys, h => by
    have h1 := (List.pairwise_cons.1 h).1
    have h2 := cl_nrm l ys (List.pairwise_cons.1 h).2
    simp only [cl]
    split
    · exact h2
    · rename_i hne
      exact h2.cons (fun q hq => h1 q.1 (cl_mem l ys q hq).1) hne
theorem cl_co (l : Fo) (x : Int) : ∀ (ys : List Int), ys.Pairwise (· < ·) → co x (cl l ys) = if x ∈ ys then co x l else 0
  | [], _ => by simp [cl, co]
  | y :: ys, h => by
    have h1 := (List.pairwise_cons.1 h).1
    have h2 := cl_co l x ys (List.pairwise_cons.1 h).2
    simp only [cl]
    rw [co_append, h2]
    by_cases hx : x = y
    · subst hx
      have hn : x ∉ ys := fun hm => by have := h1 x hm; omega
      rw [if_neg hn, if_pos List.mem_cons_self, Rat.add_zero]
      split
      · rename_i h0; rw [h0]; rfl
      · simp only [co, if_true]; exact Rat.add_zero _
    · have e0 : co x (if co y l = 0 then [] else [(y, co y l)]) = 0 := by
        split
        · rfl
        · simp only [co]
          rw [if_neg (fun h => hx h.symm)]
          exact Rat.add_zero _
      rw [e0, Rat.zero_add]
      simp only [List.mem_cons, hx, false_or]
theorem co_none {x : Int} {L : List Mo} (h : x ∉ vs L) : co x (fo L) = 0 := co_zero fun p hp => by
  obtain ⟨q, hq, rfl⟩ := List.mem_map.1 hp
  intro e
  exact h (List.mem_map.2 ⟨q, hq, e⟩)
theorem cl_all {L : List Mo} {ys : List Int} (h : Srt ys (vs L ++ vs [])) : cl (fo L) ys = nfm (fo L) := by
  refine nfm_uniq (cl_nrm _ _ h.up) fun x => ?_
  rw [cl_co _ _ _ h.up]
  split
  · rfl
  · rename_i hn
    refine (co_none fun hm => hn ?_).symm
    rw [h.mem]
    exact List.mem_append_left _ hm

/-- what the loop keeps -/
def NInv (w : World) (l : Fo) (ys : List Int) (k : Nat) (vo : Value) (wr : World) : Prop :=
  ∃ R : List Mo, R.length ≤ k ∧ wr.ownsRow w.heap.size 44 4 vo R.length (cellsF R) ∧ Below w.heap.size w wr ∧ (∀ p ∈ R, Grw vo wr p) ∧ fo R = cl l (ys.take k)
theorem NInv.later {w : World} {l : Fo} {ys : List Int} {k : Nat} {vo : Value} {wr w' : World} (h : NInv w l ys k vo wr) (hb : Below wr.heap.size wr w') : NInv w l ys k vo w' := by
  obtain ⟨R, h1, h2, h3, h4, h5⟩ := h
  exact ⟨R, h1, own_below h2 hb, h3.trans (hb.mono h3.size), fun p hp => (h4 p hp).later hb, h5⟩

set_option maxHeartbeats 8000000 in
set_option maxRecDepth 100000 in
theorem vlNormF_is (a : Option Addr) (ca : Nat) (L : List Mo) (w : World) (hF : FAt w a L) (hok : ∀ p ∈ L, p.2.ok w ∧ p.2.n ≤ 1099511627776 ∧ p.2.m ≤ 1099511627776) (hc : L.length ≤ ca) (hm : L.length ≤ 1048576) (hw : ∀ k x, sz 1099511627776 (co x (fo (L.take k)))) :
    Calls Tryz.prog 20 #[.slice a L.length ca] w (FAns w (nfm (fo L))) := by
  obtain ⟨i0, hi0, hz0, hz1, hz2⟩ := info_parts info_Mono
  obtain ⟨TT, hTT⟩ : ∃ TT, nfm (fo L) = TT := ⟨_, rfl⟩
  rw [hTT]
  replace hTT := hide' hTT
  have GA := hide' (vall_is a ca L none 0 [] w hF (FAt.nil _ _) hc (Nat.le_refl _) (by simp only [List.length_nil]; omega))
  have GC := hide' (fun w' x (hb : Below w.heap.size w w') => vlCoefF_is a ca L x w' (hF.later hb) (fun p hp => ⟨(hok p hp).1.later hb, (hok p hp).2⟩) hc hm (fun k => hw k x))
  clear hF hok hc
  rw [show ([] : List Mo).length = 0 from rfl] at GA
  go_enter Tryz.func20, Tryz.ntmps20
  go_wp2_with fail
  refine GA.out.mono ?_
  rintro e w2 ⟨vi, rfl, ys, hOI, hB2, hY⟩
  clear GA
  obtain ⟨ai, ci, rfl, hci, hI⟩ := own_ints hOI
  rw [List.take_length] at hY
  have HC := hide' (cl_all hY)
  have hyl : ys.length ≤ 1048576 := by have := hY.len; rw [List.length_append, vs_length] at this; simp only [vs, List.map_nil, List.length_nil] at this; omega
  clear hY hOI
  obtain ⟨l, hl⟩ : ∃ l, fo L = l := ⟨_, rfl⟩
  have HS := hide' (fun x => show sz 1099511627776 (co x l) by have h := hw L.length x; rw [List.take_length, hl] at h; exact h)
  rw [hl] at GC HC hTT
  clear hl hw
  go_wp2_with fail
  go_loopw [3, 5] (fun vo vi wr => ∃ k : Nat, k ≤ ys.length ∧ vi = .int .i64 k ∧ NInv w2 l ys k vo wr) (fun _ vi _ => ys.length - (intOf vi).toNat)
  case atStart => exact ⟨0, Nat.zero_le _, rfl, [], Nat.le_refl _, World.ownsRow_nil _ _ _ _, Below.refl _ _, fun p hp => by simp at hp, rfl⟩
  case round =>
    obtain ⟨k, hk, rfl, hN⟩ := hrel
    by_cases hlt : k < ys.length
    · obtain ⟨x, hx⟩ : ∃ x, ys[k]? = some x := ⟨ys[k], List.getElem?_eq_getElem hlt⟩
      obtain ⟨bb, off, rfl, hb, hcell⟩ := hI (by intro e; rw [e] at hlt; simp at hlt)
      have hBk : Below w2.heap.size w2 wr := by obtain ⟨R, _, _, h, _⟩ := hN; exact h
      have c0 := below_cell hBk (hcell k x hx)
      obtain ⟨t1, t2⟩ := take_split hx
      clear t2 hx hcell
      obtain ⟨s, hs⟩ : ∃ s, co x l = s := ⟨_, rfl⟩
      have G1 := hide' (GC.out wr x (hB2.trans (hBk.mono hB2.size)))
      have hsz := HS.out x
      rw [hs] at G1 hsz
      have hfo : cl l (ys.take (k + 1)) = cl l (ys.take k) ++ (if s = 0 then [] else [(x, s)]) := by rw [t1, cl_append]; simp only [cl]; rw [hs, List.append_nil]
      clear t1 hs
      have G2 := fun w' p q k1 k2 => vqSign_is (ng s.num) p (ln (am s.num)) (ln (am s.num)) (am s.num) q (ln s.den) (ln s.den) s.den (sgn s.num) w' (Nat.le_refl _) (Nat.le_trans hsz.1 (by omega)) k1 (Nat.le_refl _) (Nat.le_trans hsz.2 (by omega)) k2 (by rw [rn_nf s.den_pos])
      have i1 : (0 : Int) ≤ (k : Int) := by omega
      have i2 : (k : Int) < (ys.length : Int) := by omega
      go_wp2_with fail
      refine G1.out.mono ?_
      rintro e w3 ⟨p, q, rfl, b3, g1, g2, f1, f2⟩
      go_wp2_with fail
      obtain ⟨wA, hwA⟩ : ∃ wA, w3.alloc (.cells #[.bool (ng s.num), .slice p (ln (am s.num)) (ln (am s.num)), .slice q (ln s.den) (ln s.den)] 29) = wA := ⟨_, rfl⟩
      have bA : Below w3.heap.size w3 wA := by subst hwA; exact below_alloc _
      have a0 : wA.cell? ⟨w3.heap.size, 0, none⟩ = some (.bool (ng s.num)) := by subst hwA; go_simp
      have a1 : wA.cell? ⟨w3.heap.size, 1, none⟩ = some (.slice p (ln (am s.num)) (ln (am s.num))) := by subst hwA; go_simp
      have a2 : wA.cell? ⟨w3.heap.size, 2, none⟩ = some (.slice q (ln s.den) (ln s.den)) := by subst hwA; go_simp
      rw [hwA]
      clear hwA
      replace g1 := g1.later bA
      replace g2 := g2.later bA
      have bT := b3.trans (bA.mono b3.size)
      have hs3 := b3.size
      replace c0 := below_cell bT c0
      have hN3 := hN.later bT
      have hN0 := hide' hN
      clear hN b3 bA G1
      by_cases h0 : s = 0
      · skip
        have hC0 : sgn s.num = 0 := (sgn_num s).2 h0
        rw [hC0] at G2
        rw [if_pos h0, List.append_nil] at hfo
        replace G2 := hide' G2
        clear h0
        refine (G2.out _ p q g1 g2).mono ?_
        rintro e w4 ⟨rfl, b4⟩
        replace a0 := below_cell b4 a0
        replace a1 := below_cell b4 a1
        replace a2 := below_cell b4 a2
        replace c0 := below_cell b4 c0
        replace g1 := g1.later b4
        replace g2 := g2.later b4
        replace hN3 := hN3.later b4
        replace bT := bT.trans (b4.mono bT.size)
        clear b4 G2
        have I1 := hide' (show NInv w2 l ys (k + 1) u3 w4 from by obtain ⟨R, h1, h2, h3, h4, h5⟩ := hN3; exact ⟨R, by omega, h2, h3, h4, by rw [h5, hfo]⟩)
        clear hN3
        go_wp2
        go_roundw
        case rel => exact ⟨k + 1, by omega, by go_num, I1.out⟩
        case measure => simp [intOf]; omega
      · skip
        have hC0 : ¬ sgn s.num = 0 := fun h => h0 ((sgn_num s).1 h)
        obtain ⟨C, hC⟩ : ∃ C, sgn s.num = C := ⟨_, rfl⟩
        rw [hC] at G2 hC0
        rw [if_neg h0] at hfo
        have hCb : (C == 0) = false := by simp [hC0]
        clear hC
        replace G2 := hide' G2
        clear h0
        refine (G2.out _ p q g1 g2).mono ?_
        rintro e w4 ⟨rfl, b4⟩
        replace a0 := below_cell b4 a0
        replace a1 := below_cell b4 a1
        replace a2 := below_cell b4 a2
        replace c0 := below_cell b4 c0
        replace g1 := g1.later b4
        replace g2 := g2.later b4
        replace hN3 := hN3.later b4
        replace bT := bT.trans (b4.mono bT.size)
        clear b4 G2
        obtain ⟨R, hRl, hO, hB, hR, hfR⟩ := hN3
        have hrow := fun k hk => (hO.lt k hk)
        have hrow0 : ∀ b, u3.ownBlock = some b → b < wr.heap.size := fun b e => by obtain ⟨R0, _, hO0, _⟩ := hN0.out; exact (hO0.lt b e).2
        have gN : Grw u3 w4 (x, RatV.of s.num s.den p q) := ⟨⟨g1, Nat.le_refl _, Nat.le_trans hsz.1 (by omega), g2, Nat.le_refl _, Nat.le_trans hsz.2 (by omega)⟩, ofR_low s p q, fun b e => ⟨fun hn ad e2 h => by have h1 := f1 hn ad e2; have h2 := hrow0 b e; omega, fun hn ad e2 h => by have h1 := f2 hn ad e2; have h2 := hrow0 b e; omega⟩⟩
        have hs4 : w3.heap.size < w4.heap.size := World.block_lt_of_cell? w4 ⟨w3.heap.size, 0, none⟩ a0
        have hso : ∀ b, u3.ownBlock = some b → b < w3.heap.size := fun b e => by have := hrow0 b e; omega
        clear g1 g2 f1 f2 hN0 bT
        go_wp2_with fail
        have bD : Below w4.heap.size w4 w4.drew := (Below.refl _ _).drew
        have kc0 := below_cell bD c0
        have ka0 := below_cell bD a0
        have ka1 := below_cell bD a1
        have ka2 := below_cell bD a2
        refine wp_region_held_drew (S := fun w' => w'.cell? ⟨bb, off + k, none⟩ = some (.int .i64 x) ∧ w'.cell? ⟨w3.heap.size, 0, none⟩ = some (.bool (ng s.num)) ∧ w'.cell? ⟨w3.heap.size, 1, none⟩ = some (.slice p (ln (am s.num)) (ln (am s.num))) ∧ w'.cell? ⟨w3.heap.size, 2, none⟩ = some (.slice q (ln s.den) (ln s.den))) (by kernel_rfl) ⟨kc0, ka0, ka1, ka2⟩ (fun hHeld => ?_)
        clear kc0 ka0 ka1 ka2
        generalize w4.drew = w0 at bD  hHeld ⊢
        clear c0 a0 a1 a2
        refine take' 0 (v := ?_) rfl (by kernel_rfl) (by kernel_rfl) (by kernel_rfl) (fun _ _ _ h => h) (Or.inl ⟨by rfl, ?_⟩) (by assumption) ?_
        rotate_left
        · intro w9 hSw
          go_simp
          first | done | with_reducible rfl
        simp only [Act.put, List.setIfInBounds_toArray, List.set_cons_zero, List.set_cons_succ]
        refine take' 1 (v := ?_) rfl (by kernel_rfl) (by kernel_rfl) (by kernel_rfl) (fun _ _ _ h => h) (Or.inl ⟨by rfl, ?_⟩) (by assumption) ?_
        rotate_left
        · intro w9 hSw
          go_simp
          first | done | with_reducible rfl
        simp only [Act.put, List.setIfInBounds_toArray, List.set_cons_zero, List.set_cons_succ]
        refine take' 2 (v := ?_) rfl (by kernel_rfl) (by kernel_rfl) (by kernel_rfl) (fun _ _ _ h => h) (Or.inl ⟨by rfl, ?_⟩) (by assumption) ?_
        rotate_left
        · intro w9 hSw
          go_simp
          first | done | with_reducible rfl
        simp only [Act.put, List.setIfInBounds_toArray, List.set_cons_zero, List.set_cons_succ]
        refine take' 3 (v := ?_) rfl (by kernel_rfl) (by kernel_rfl) (by kernel_rfl) (fun _ _ _ h => h) (Or.inl ⟨by rfl, ?_⟩) (by assumption) ?_
        rotate_left
        · intro w9 hSw
          go_simp
          first | done | with_reducible rfl
        simp only [Act.put, List.setIfInBounds_toArray, List.set_cons_zero, List.set_cons_succ]
        refine take' 4 (v := ?_) rfl (by kernel_rfl) (by kernel_rfl) (by kernel_rfl) (fun _ _ _ h => h) (Or.inl ⟨by rfl, ?_⟩) (by assumption) ?_
        rotate_left
        · intro w9 hSw
          go_simp
          first | done | with_reducible rfl
        simp only [Act.put, List.setIfInBounds_toArray, List.set_cons_zero, List.set_cons_succ]
        refine take' 5 (v := ?_) rfl (by kernel_rfl) (by kernel_rfl) (by kernel_rfl) (fun _ _ _ h => h) (Or.inl ⟨by rfl, ?_⟩) (by assumption) ?_
        rotate_left
        · intro w9 hSw
          go_simp
          first | done | with_reducible rfl
        simp only [Act.put, List.setIfInBounds_toArray, List.set_cons_zero, List.set_cons_succ]
        refine take' 6 (v := ?_) rfl (by kernel_rfl) (by kernel_rfl) (by kernel_rfl) (fun _ _ _ h => h) (Or.inl ⟨by rfl, ?_⟩) (by assumption) ?_
        rotate_left
        · intro w9 hSw
          go_simp
          first | done | with_reducible rfl
        simp only [Act.put, List.setIfInBounds_toArray, List.set_cons_zero, List.set_cons_succ]
        refine wpAnyH_ready (rs := [7]) (by kernel_rfl) (by simp) ?_
        refine cons' rfl (fun KK hKK => ?_)
        go_simp
        have hnew := heap_alloc_new w0 (.cells #[.int .i64 x, .bool (ng s.num), .slice p (ln (am s.num)) (ln (am s.num)), .slice q (ln s.den) (ln s.den)] 44)
        have b3 := below_alloc (w := w0) (.cells #[.int .i64 x, .bool (ng s.num), .slice p (ln (am s.num)) (ln (am s.num)), .slice q (ln s.den) (ln s.den)] 44)
        generalize w0.alloc (.cells #[.int .i64 x, .bool (ng s.num), .slice p (ln (am s.num)) (ln (am s.num)), .slice q (ln s.den) (ln s.den)] 44) = w8 at hnew b3 ⊢
        replace hHeld := (⟨below_cell b3 hHeld.1, below_cell b3 hHeld.2.1, below_cell b3 hHeld.2.2.1, below_cell b3 hHeld.2.2.2⟩ : _ ∧ _ ∧ _ ∧ _)
        refine hKK.out _ _ hHeld ?_
        clear hHeld
        intro hHeld
        clear hKK KK
        try simp only [Act.put, List.setIfInBounds_toArray, List.set_cons_zero, List.set_cons_succ]
        have bT := bD.trans (b3.mono bD.size)
        have hO3 := own_below hO bT
        have s3 := b3.size
        have s4 := bD.size
        have s5 := hB.size
        refine wpAnyH_ready (rs := [8]) (by kernel_rfl) (by simp) ?_
        refine cons' rfl (fun KK hKK => ?_)
        refine step_append_lies _ (by rfl) _ _ _ (by rfl) w2.heap.size 44 i0 _ 4 64 Tryz.underlying23 hi0 hz0 hz1 hz2 rfl (by omega) u3 R.length (cellsF R) (by rfl) hO3
          ⟨w0.heap.size, 0, none⟩ 1 1 (cells4 (x, RatV.of s.num s.den p q)) (by rfl) (by rfl) (World.news_of_block (cs := #[.int .i64 x, .bool (ng s.num), .slice p (ln (am s.num)) (ln (am s.num)), .slice q (ln s.den) (ln s.den)]) (t := 44) (fr := (0, 0)) hnew) (cells4_one _)
          (by omega) (by simp only [maxLen]; omega) (by omega) (by omega) w8.heap.size rfl ?_
        intro gb cap w9 hown4 hgrow hat hlt4
        have far : ∀ {c o : Nat} {u : Value}, (c < w2.heap.size ∨ c = w3.heap.size) → w8.cell? ⟨c, o, none⟩ = some u → w9.cell? ⟨c, o, none⟩ = some u := fun hc hu => hgrow.cell hu (fun e => by have h1 := hrow _ e.symm; have h2 := hso _ e.symm; simp only at h1 h2; omega)
        refine hKK.out _ _ ⟨far (Or.inl hb) hHeld.1, far (Or.inr rfl) hHeld.2.1, far (Or.inr rfl) hHeld.2.2.1, far (Or.inr rfl) hHeld.2.2.2⟩ ?_
        clear hHeld
        intro hHeld
        clear hKK KK
        try simp only [Act.put, List.setIfInBounds_toArray, List.set_cons_zero, List.set_cons_succ]
        have hBT := hB.trans (bT.mono hB.size)
        have I1 := hide' (show NInv w2 l ys (k + 1) (.slice (some ⟨gb, 0, none⟩) (R.length + 1) cap) w9 from ⟨R ++ [(x, RatV.of s.num s.den p q)], by rw [List.length_append]; simp only [List.length_cons, List.length_nil]; omega, own_push hown4, hBT.trans (below_grown hBT.size (fun k hk => (hrow k hk).1) hgrow), grw_push (fun q hq => (hR q hq).later bT) (gN.later bT) (j := R.length + 1) (cap := cap) hgrow hat, by rw [fo_append, hfR, hfo]; show _ ++ [(x, (RatV.of s.num s.den p q).val)] = _; rw [val_ofR]⟩)
        clear hown4 hgrow hat far gN hO3 hnew hR hO hfR
        refine take' 9 (v := ?_) rfl (by kernel_rfl) (by kernel_rfl) (by kernel_rfl) (fun _ _ _ h => h) (Or.inl ⟨by rfl, ?_⟩) (by assumption) ?_
        rotate_left
        · intro w9 hSw
          go_simp
          first | done | with_reducible rfl
        simp only [Act.put, List.setIfInBounds_toArray, List.set_cons_zero, List.set_cons_succ]
        refine wpAnyH_done (by kernel_rfl) ?_ _
        go_wp2
        go_roundw
        case rel => exact ⟨k + 1, by omega, by go_num, I1.out⟩
        case measure => simp [intOf]; omega
    · obtain rfl : k = ys.length := by omega
      have i1 : ¬ (ys.length : Int) < (ys.length : Int) := by omega
      obtain ⟨R, hRl, hO, hB, hR, hfR⟩ := hN
      obtain ⟨a3, c3, rfl, s3⟩ := Sl.of hO
      rw [List.take_length, HC.out, hTT.out] at hfR
      have I1 := hide' (show FAns w TT (.returned (.slice a3 R.length c3)) wr from ⟨a3, c3, R, rfl, hB2.trans (hB.mono hB2.size), s3, fun p hp => (hR p hp).ent, hfR⟩)
      clear hO hR s3 hfR
      go_wp2
      go_ret
      exact I1.out
theorem vlNorm_is (a : Option Addr) (ca : Nat) (L : List Mo) (w : World) (hF : FAt w a L) (hok : ∀ p ∈ L, p.2.ok w ∧ p.2.n ≤ 1099511627776 ∧ p.2.m ≤ 1099511627776) (hc : L.length ≤ ca) (hm : L.length ≤ 1048576) (hw : wts (fo L) + 1 ≤ 1099511627776) :
    Calls Tryz.prog 20 #[.slice a L.length ca] w (FAns w (nfm (fo L))) :=
  vlNormF_is a ca L w hF hok hc hm fun k x => (co_sz x (fo (L.take k))).mono (by have := wts_take L k; omega)
end Go.Proofs.YtkfhllonjgcbkaaGreat

namespace Go.Proofs.YtkfhllonjgcbkaaGreat
open Go.RowKit
set_option linter.unusedVariables false
set_option linter.unusedSimpArgs false

set_option maxHeartbeats 8000000 in
set_option maxRecDepth 100000 in
theorem vlScaleF_is (C : RatV) (a : Option Addr) (c : Nat) (L : List Mo) (K : Nat) (w : World) (hF : FAt w a L) (hok : ∀ p ∈ L, p.2.ok w) (hc : L.length ≤ c) (hm : L.length ≤ 1048576) (hC : C.ok w) (hK : ∀ p ∈ L, C.n + C.m + p.2.n + p.2.m ≤ K) (hCK : C.n + C.m ≤ K) (hKm : K ≤ 17179869184) (hnK : ∀ k x, sz 1099511627776 (co x ((fmap (fun r => C.val * r) (fo L)).take k))) :
    Calls Tryz.prog 26 #[.agg #[.bool C.s, .slice C.a C.n C.c, .slice C.b C.m C.e], .slice a L.length c] w (FAns w (nfm (fmap (fun r => C.val * r) (fo L)))) := by
  obtain ⟨i0, hi0, hz0, hz1, hz2⟩ := info_parts info_Mono
  have hszL : ∀ p ∈ fmap (fun r => C.val * r) (fo L), sz (K + 2) p.2 := fun p hp => by
    obtain ⟨p1, hp1, rfl⟩ := List.mem_map.1 hp
    obtain ⟨p2, hp2, rfl⟩ := List.mem_map.1 hp1
    exact mul_sz hC (hok p2 hp2) (hK p2 hp2)
  have GN := hide' (fun w' a2 c2 (R : List Mo) (hs : Sl w' a2 c2 R) (hE : ∀ p ∈ R, Ent w' p) (hf : fo R = fmap (fun r => C.val * r) (fo L)) => vlNormF_is a2 c2 R w' hs.lies (fun p hp => by
    have h1 : (p.1, p.2.val) ∈ fmap (fun r => C.val * r) (fo L) := by rw [← hf]; exact List.mem_map.2 ⟨p, hp, rfl⟩
    have h2 : sz (K + 2) p.2.val := hszL _ h1
    obtain ⟨e1, e2⟩ := low_ns (hE p hp).low
    exact ⟨(hE p hp).ok, by rw [e1]; have := h2.1; omega, by rw [e2]; have := h2.2; omega⟩) hs.len (by have h := congrArg List.length hf; rw [fo_length, fmap_length, fo_length] at h; omega) (fun k x => by rw [show fo (R.take k) = (fo R).take k by unfold fo; rw [List.map_take], hf]; exact hnK k x))
  obtain ⟨TT, hTT⟩ : ∃ TT, nfm (fmap (fun r => C.val * r) (fo L)) = TT := ⟨_, rfl⟩
  rw [hTT]
  replace hTT := hide' hTT
  clear hszL hnK
  go_enter Tryz.func26, Tryz.ntmps26
  go_wp2_with fail
  obtain ⟨wA, hwA⟩ : ∃ wA, w.alloc (.cells #[.bool C.s, .slice C.a C.n C.c, .slice C.b C.m C.e] 29) = wA := ⟨_, rfl⟩
  have bA : Below w.heap.size w wA := by subst hwA; exact below_alloc _
  have a0 : wA.cell? ⟨w.heap.size, 0, none⟩ = some (.bool C.s) := by subst hwA; go_simp
  have a1 : wA.cell? ⟨w.heap.size, 1, none⟩ = some (.slice C.a C.n C.c) := by subst hwA; go_simp
  have a2 : wA.cell? ⟨w.heap.size, 2, none⟩ = some (.slice C.b C.m C.e) := by subst hwA; go_simp
  have hwz : w.heap.size < wA.heap.size := by subst hwA; simp only [World.size_alloc]; omega
  rw [hwA]
  clear hwA
  replace hF := hF.later bA
  replace hok := fun p hp => (hok p hp).later bA
  replace hC := hC.later bA
  go_loopw [5, 6] (fun vo vi wr => ∃ k : Nat, k ≤ L.length ∧ vi = .int .i64 k ∧ TInv wA (fun r => C.val * r) L k vo wr) (fun _ vi _ => L.length - (intOf vi).toNat)
  case atStart => exact ⟨0, Nat.zero_le _, rfl, [], rfl, World.ownsRow_nil _ _ _ _, Below.refl _ _, fun p hp => by simp at hp, rfl⟩
  case round =>
    obtain ⟨k, hk, rfl, R, hRl, hO, hB, hR, hfo⟩ := hrel
    by_cases hlt : k < L.length
    · obtain ⟨p, hp⟩ : ∃ p, L[k]? = some p := ⟨L[k], List.getElem?_eq_getElem hlt⟩
      obtain ⟨b, off, rfl, hb, hcell⟩ := hF (by intro e; rw [e] at hlt; simp at hlt)
      obtain ⟨c0, c1, c2, c3⟩ := hcell k p hp
      replace c0 := below_cell hB c0
      replace c1 := below_cell hB c1
      replace c2 := below_cell hB c2
      replace c3 := below_cell hB c3
      replace a0 := below_cell hB a0
      replace a1 := below_cell hB a1
      replace a2 := below_cell hB a2
      have hmem := List.mem_of_getElem? hp
      have hq := (hok p hmem).later hB
      have hC1 := hC.later hB
      have hKp := hK p hmem
      have hsz := mul_sz hC1 hq hKp
      obtain ⟨t1, t2⟩ := take_split hp
      have hfo' : fo (L.take (k + 1)) = fo (L.take k) ++ [(p.1, p.2.val)] := by rw [t1, fo_append]; rfl
      clear t1 t2 hp hmem
      obtain ⟨x, q⟩ := p
      simp only at c0 c1 c2 c3 hsz hfo' hq hKp
      have GM := hide' (fun w' k1 k2 k3 k4 => vqMul_is C.s C.a C.n C.c C.X C.b C.m C.e C.Y q.s q.a q.n q.c q.X q.b q.m q.e q.Y _ _ w' hC1.2.1 (by omega) k1 hC1.2.2.2.2.1 (by omega) k2 hq.2.1 (by omega) k3 hq.2.2.2.2.1 (by omega) k4 (low_mul C q))
      obtain ⟨r, hr⟩ : ∃ r, C.val * q.val = r := ⟨_, rfl⟩
      rw [hr] at GM hsz
      have k1 := hC1.1
      have k2 := hC1.2.2.2.1
      have k3 := hq.1
      have k4 := hq.2.2.2.1
      clear hC1 hq hcell
      have i1 : (0 : Int) ≤ (k : Int) := by omega
      have i2 : (k : Int) < (L.length : Int) := by omega
      have hrow := fun k hk => (hO.lt k hk)
      go_wp2_with fail
      have bT : Below wr.heap.size wr wr := Below.refl _ _
      have bD : Below wr.heap.size wr wr.drew := (Below.refl _ _).drew
      have kc0 := below_cell bD c0
      have kc1 := below_cell bD c1
      have kc2 := below_cell bD c2
      have kc3 := below_cell bD c3
      have ka0 := below_cell bD a0
      have ka1 := below_cell bD a1
      have ka2 := below_cell bD a2
      replace bT := bT.trans (bD.mono bT.size)
      replace k1 := k1.later bD
      replace k2 := k2.later bD
      replace k3 := k3.later bD
      replace k4 := k4.later bD
      refine wp_region_held_drew (S := fun w' => w'.cell? ⟨b, off + k * 4, none⟩ = some (.int .i64 x) ∧ w'.cell? ⟨b, off + k * 4 + 1, none⟩ = some (.bool q.s) ∧ w'.cell? ⟨b, off + k * 4 + 1 + 1, none⟩ = some (.slice q.a q.n q.c) ∧ w'.cell? ⟨b, off + k * 4 + 1 + 2, none⟩ = some (.slice q.b q.m q.e) ∧ w'.cell? ⟨w.heap.size, 0, none⟩ = some (.bool C.s) ∧ w'.cell? ⟨w.heap.size, 1, none⟩ = some (.slice C.a C.n C.c) ∧ w'.cell? ⟨w.heap.size, 2, none⟩ = some (.slice C.b C.m C.e)) (by kernel_rfl) ⟨kc0, kc1, kc2, kc3, ka0, ka1, ka2⟩ (fun hHeld => ?_)
      clear kc0 kc1 kc2 kc3 ka0 ka1 ka2
      generalize wr.drew = w0 at bD k1 k2 k3 k4 bT hHeld ⊢
      clear c0 c1 c2 c3 a0 a1 a2 bD
      refine take' 0 (v := ?_) rfl (by kernel_rfl) (by kernel_rfl) (by kernel_rfl) (fun _ _ _ h => h) (Or.inl ⟨by rfl, ?_⟩) (by assumption) ?_
      rotate_left
      · intro w9 hSw
        go_simp
        first | done | with_reducible rfl
      simp only [Act.put, List.setIfInBounds_toArray, List.set_cons_zero, List.set_cons_succ]
      refine take' 1 (v := ?_) rfl (by kernel_rfl) (by kernel_rfl) (by kernel_rfl) (fun _ _ _ h => h) (Or.inl ⟨by rfl, ?_⟩) (by assumption) ?_
      rotate_left
      · intro w9 hSw
        go_simp
        first | done | with_reducible rfl
      simp only [Act.put, List.setIfInBounds_toArray, List.set_cons_zero, List.set_cons_succ]
      refine take' 2 (v := ?_) rfl (by kernel_rfl) (by kernel_rfl) (by kernel_rfl) (fun _ _ _ h => h) (Or.inl ⟨by rfl, ?_⟩) (by assumption) ?_
      rotate_left
      · intro w9 hSw
        go_simp
        first | done | with_reducible rfl
      simp only [Act.put, List.setIfInBounds_toArray, List.set_cons_zero, List.set_cons_succ]
      refine take' 3 (v := ?_) rfl (by kernel_rfl) (by kernel_rfl) (by kernel_rfl) (fun _ _ _ h => h) (Or.inl ⟨by rfl, ?_⟩) (by assumption) ?_
      rotate_left
      · intro w9 hSw
        go_simp
        first | done | with_reducible rfl
      simp only [Act.put, List.setIfInBounds_toArray, List.set_cons_zero, List.set_cons_succ]
      refine take' 4 (v := ?_) rfl (by kernel_rfl) (by kernel_rfl) (by kernel_rfl) (fun _ _ _ h => h) (Or.inl ⟨by rfl, ?_⟩) (by assumption) ?_
      rotate_left
      · intro w9 hSw
        go_simp
        first | done | with_reducible rfl
      simp only [Act.put, List.setIfInBounds_toArray, List.set_cons_zero, List.set_cons_succ]
      refine take' 5 (v := ?_) rfl (by kernel_rfl) (by kernel_rfl) (by kernel_rfl) (fun _ _ _ h => h) (Or.inl ⟨by rfl, ?_⟩) (by assumption) ?_
      rotate_left
      · intro w9 hSw
        go_simp
        first | done | with_reducible rfl
      simp only [Act.put, List.setIfInBounds_toArray, List.set_cons_zero, List.set_cons_succ]
      refine take' 6 (v := ?_) rfl (by kernel_rfl) (by kernel_rfl) (by kernel_rfl) (fun _ _ _ h => h) (Or.inl ⟨by rfl, ?_⟩) (by assumption) ?_
      rotate_left
      · intro w9 hSw
        go_simp
        first | done | with_reducible rfl
      simp only [Act.put, List.setIfInBounds_toArray, List.set_cons_zero, List.set_cons_succ]
      refine take' 7 (v := ?_) rfl (by kernel_rfl) (by kernel_rfl) (by kernel_rfl) (fun _ _ _ h => h) (Or.inl ⟨by rfl, ?_⟩) (by assumption) ?_
      rotate_left
      · intro w9 hSw
        go_simp
        first | done | with_reducible rfl
      simp only [Act.put, List.setIfInBounds_toArray, List.set_cons_zero, List.set_cons_succ]
      refine take' 8 (v := ?_) rfl (by kernel_rfl) (by kernel_rfl) (by kernel_rfl) (fun _ _ _ h => h) (Or.inl ⟨by rfl, ?_⟩) (by assumption) ?_
      rotate_left
      · intro w9 hSw
        go_simp
        first | done | with_reducible rfl
      simp only [Act.put, List.setIfInBounds_toArray, List.set_cons_zero, List.set_cons_succ]
      refine take' 9 (v := ?_) rfl (by kernel_rfl) (by kernel_rfl) (by kernel_rfl) (fun _ _ _ h => h) (Or.inl ⟨by rfl, ?_⟩) (by assumption) ?_
      rotate_left
      · intro w9 hSw
        go_simp
        first | done | with_reducible rfl
      simp only [Act.put, List.setIfInBounds_toArray, List.set_cons_zero, List.set_cons_succ]
      refine take' 10 (v := ?_) rfl (by kernel_rfl) (by kernel_rfl) (by kernel_rfl) (fun _ _ _ h => h) (Or.inl ⟨by rfl, ?_⟩) (by assumption) ?_
      rotate_left
      · intro w9 hSw
        go_simp
        first | done | with_reducible rfl
      simp only [Act.put, List.setIfInBounds_toArray, List.set_cons_zero, List.set_cons_succ]
      refine take' 11 (v := ?_) rfl (by kernel_rfl) (by kernel_rfl) (by kernel_rfl) (fun _ _ _ h => h) (Or.inl ⟨by rfl, ?_⟩) (by assumption) ?_
      rotate_left
      · intro w9 hSw
        go_simp
        first | done | with_reducible rfl
      simp only [Act.put, List.setIfInBounds_toArray, List.set_cons_zero, List.set_cons_succ]
      refine wpAnyH_ready (rs := [12]) (by kernel_rfl) (by simp) ?_
      refine cons' rfl (fun KK hKK => ?_)
      go_simp
      refine (GM.out _ k1 k2 k3 k4).mono ?_
      rintro e w2 ⟨p, p', rfl, n1, n2⟩
      have b2 := n1.below
      have sA := bT.size
      replace bT := bT.trans (b2.mono bT.size)
      replace k1 := k1.later b2
      replace k2 := k2.later b2
      replace k3 := k3.later b2
      replace k4 := k4.later b2
      replace hHeld := (⟨below_cell b2 hHeld.1, below_cell b2 hHeld.2.1, below_cell b2 hHeld.2.2.1, below_cell b2 hHeld.2.2.2.1, below_cell b2 hHeld.2.2.2.2.1, below_cell b2 hHeld.2.2.2.2.2.1, below_cell b2 hHeld.2.2.2.2.2.2⟩ : _ ∧ _ ∧ _ ∧ _ ∧ _ ∧ _ ∧ _)
      go_wp2_with fail
      refine hKK.out _ _ hHeld ?_
      clear hHeld
      intro hHeld
      clear hKK KK
      try simp only [Act.put, List.setIfInBounds_toArray, List.set_cons_zero, List.set_cons_succ]
      refine take' 13 (v := ?_) rfl (by kernel_rfl) (by kernel_rfl) (by kernel_rfl) (fun _ _ _ h => h) (Or.inl ⟨by rfl, ?_⟩) (by assumption) ?_
      rotate_left
      · intro w9 hSw
        go_simp
        first | done | with_reducible rfl
      simp only [Act.put, List.setIfInBounds_toArray, List.set_cons_zero, List.set_cons_succ]
      refine wpAnyH_ready (rs := [14]) (by kernel_rfl) (by simp) ?_
      refine cons' rfl (fun KK hKK => ?_)
      go_simp
      have hnew := heap_alloc_new w2 (.cells #[.int .i64 x, .bool (ng r.num), .slice p (ln (am r.num)) (ln (am r.num)), .slice p' (ln r.den) (ln r.den)] 44)
      have b3 := below_alloc (w := w2) (.cells #[.int .i64 x, .bool (ng r.num), .slice p (ln (am r.num)) (ln (am r.num)), .slice p' (ln r.den) (ln r.den)] 44)
      generalize w2.alloc (.cells #[.int .i64 x, .bool (ng r.num), .slice p (ln (am r.num)) (ln (am r.num)), .slice p' (ln r.den) (ln r.den)] 44) = w3 at hnew b3 ⊢
      replace bT := bT.trans (b3.mono bT.size)
      replace k1 := k1.later b3
      replace k2 := k2.later b3
      replace k3 := k3.later b3
      replace k4 := k4.later b3
      replace hHeld := (⟨below_cell b3 hHeld.1, below_cell b3 hHeld.2.1, below_cell b3 hHeld.2.2.1, below_cell b3 hHeld.2.2.2.1, below_cell b3 hHeld.2.2.2.2.1, below_cell b3 hHeld.2.2.2.2.2.1, below_cell b3 hHeld.2.2.2.2.2.2⟩ : _ ∧ _ ∧ _ ∧ _ ∧ _ ∧ _ ∧ _)
      refine hKK.out _ _ hHeld ?_
      clear hHeld
      intro hHeld
      clear hKK KK
      try simp only [Act.put, List.setIfInBounds_toArray, List.set_cons_zero, List.set_cons_succ]
      have hO3 := own_below hO bT
      have s2 := b2.size
      have s3 := b3.size
      have s4 := bT.size
      have s5 := hB.size
      have gN : Grw u5 w3 (x, RatV.of r.num r.den p p') := ⟨⟨n1.seg.later b3, Nat.le_refl _, Nat.le_trans hsz.1 (by omega), n2.seg.later b3, Nat.le_refl _, Nat.le_trans hsz.2 (by omega)⟩, ofR_low r p p', fun b e => ⟨fun hn ad e2 h => by have h1 := n1.fr hn ad e2; have h2 := (hrow b e).2; omega, fun hn ad e2 h => by have h1 := n2.fr hn ad e2; have h2 := (hrow b e).2; omega⟩⟩
      refine wpAnyH_ready (rs := [15]) (by kernel_rfl) (by simp) ?_
      refine cons' rfl (fun KK hKK => ?_)
      refine step_append_lies _ (by rfl) _ _ _ (by rfl) wA.heap.size 44 i0 _ 4 64 Tryz.underlying23 hi0 hz0 hz1 hz2 rfl (by omega) u5 R.length (cellsF R) (by rfl) hO3
        ⟨w2.heap.size, 0, none⟩ 1 1 (cells4 (x, RatV.of r.num r.den p p')) (by rfl) (by rfl) (World.news_of_block (cs := #[.int .i64 x, .bool (ng r.num), .slice p (ln (am r.num)) (ln (am r.num)), .slice p' (ln r.den) (ln r.den)]) (t := 44) (fr := (0, 0)) hnew) (cells4_one _)
        (by omega) (by simp only [maxLen]; omega) (by omega) (by omega) w3.heap.size rfl ?_
      intro gb cap w9 hown4 hgrow hat hlt4
      have far : ∀ {c o : Nat} {u : Value}, c < wA.heap.size → w3.cell? ⟨c, o, none⟩ = some u → w9.cell? ⟨c, o, none⟩ = some u := fun hc hu => hgrow.cell hu (fun e => by have := hrow _ e.symm; simp only at this; omega)
      refine hKK.out _ _ ⟨far hb hHeld.1, far hb hHeld.2.1, far hb hHeld.2.2.1, far hb hHeld.2.2.2.1, far hwz hHeld.2.2.2.2.1, far hwz hHeld.2.2.2.2.2.1, far hwz hHeld.2.2.2.2.2.2⟩ ?_
      clear hHeld
      intro hHeld
      clear hKK KK
      try simp only [Act.put, List.setIfInBounds_toArray, List.set_cons_zero, List.set_cons_succ]
      have hBT := hB.trans (bT.mono hB.size)
      have I1 := hide' (And.intro (own_push hown4) (And.intro (hBT.trans (below_grown hBT.size (fun k hk => (hrow k hk).1) hgrow)) (grw_push (fun q hq => (hR q hq).later bT) gN (j := R.length + 1) (cap := cap) hgrow hat)))
      clear hown4 hgrow hat far gN hO3 hnew n1 n2
      refine take' 16 (v := ?_) rfl (by kernel_rfl) (by kernel_rfl) (by kernel_rfl) (fun _ _ _ h => h) (Or.inl ⟨by rfl, ?_⟩) (by assumption) ?_
      rotate_left
      · intro w9 hSw
        go_simp
        first | done | with_reducible rfl
      simp only [Act.put, List.setIfInBounds_toArray, List.set_cons_zero, List.set_cons_succ]
      refine wpAnyH_done (by kernel_rfl) ?_ _
      go_wp2
      go_roundw
      case rel => exact ⟨k + 1, by omega, by go_num, R ++ [(x, RatV.of r.num r.den p p')], by rw [List.length_append, hRl]; rfl, by have h := I1.out.1; rw [hRl] at h; exact h, I1.out.2.1, by have h := I1.out.2.2; rw [hRl] at h; exact h, by rw [fo_append, hfo, hfo', fmap_snoc, hr]; show _ ++ [(x, (RatV.of r.num r.den p p').val)] = _; rw [val_ofR]⟩
      case measure => simp [intOf]; omega
    · obtain rfl : k = L.length := by omega
      have i1 : ¬ (L.length : Int) < (L.length : Int) := by omega
      obtain ⟨a3, c3, rfl, s3⟩ := Sl.of hO
      rw [List.take_length] at hfo
      have G := hide' (GN.out wr a3 c3 R s3 (fun p hp => (hR p hp).ent) hfo)
      rw [hfo, hTT.out] at G
      clear GN hO hR s3 hfo hRl
      go_wp2_with fail
      refine G.out.mono ?_
      rintro e w9 h9
      have h8 := h9.from (bA.trans (hB.mono bA.size))
      obtain ⟨a2, c2, R2, rfl, h7⟩ := h8
      clear h9
      go_wp2
      go_ret
      exact ⟨a2, c2, R2, rfl, h7⟩
end Go.Proofs.YtkfhllonjgcbkaaGreat

namespace Go.Proofs.YtkfhllonjgcbkaaGreat
open Go.RowKit
set_option linter.unusedVariables false
set_option linter.unusedSimpArgs false

theorem Seg.injK {w : World} {a : Option Addr} {X Y n : Nat} (h : Seg w a X n) (k : Seg w a Y n) : X = Y := by
  by_cases h0 : n = 0
  · subst h0; rw [h.zero, k.zero]
  · obtain ⟨b, off, rfl, hb, hc⟩ := h.2 (by omega)
    have kc := k.cells
    refine dg_ext h.1 k.1 fun i hi => ?_
    have h1 := hc i hi
    rw [kc i hi] at h1
    simp only [Option.some.injEq, Value.int.injEq, true_and] at h1
    omega
open Classical in
/-- the number that a slice of limbs holds -/
noncomputable def numK (v : Value) (w : World) : Nat := if h : ∃ r a, v = .slice a (ln r) (ln r) ∧ Seg w a r (ln r) then h.choose else 0
theorem numK_eq {w : World} {a : Option Addr} {r : Nat} (h : Seg w a r (ln r)) : numK (.slice a (ln r) (ln r)) w = r := by
  unfold numK
  have hx : ∃ r' a', (Value.slice a (ln r) (ln r) : Value) = .slice a' (ln r') (ln r') ∧ Seg w a' r' (ln r') := ⟨r, a, rfl, h⟩
  rw [dif_pos hx]
  have sp := hx.choose_spec
  generalize hx.choose = c at sp ⊢
  obtain ⟨a', e, k⟩ := sp
  simp only [Value.slice.injEq] at e
  obtain ⟨rfl, e1, _⟩ := e
  rw [← e1] at k
  exact k.injK h
set_option maxHeartbeats 4000000 in
set_option maxRecDepth 100000 in
theorem vGcd2_is (s1 : Bool) (a1 : Option Addr) (n1 c1 X : Nat) (s2 : Bool) (a2 : Option Addr) (n2 c2 Y : Nat) (G : Nat) (w : World) (l1 : n1 ≤ 35184372087808) (S1 : Seg w a1 X n1) (l2 : n2 ≤ 35184372087808) (S2 : Seg w a2 Y n2) (hG : Nat.gcd X Y = G) :
    Calls Tryz.prog 48 #[.agg #[.bool s1, .slice a1 n1 c1], .agg #[.bool s2, .slice a2 n2 c2]] w fun e w' => ∃ a, e = .returned (.slice a (ln G) (ln G)) ∧ Below w.heap.size w w' ∧ Seg w' a G (ln G) := by
  go_enter Tryz.func48, Tryz.ntmps48
  go_wp2_with fail
  obtain ⟨wA, hwA⟩ : ∃ wA, (w.alloc (.cells #[.bool s1, .slice a1 n1 c1] 27)).alloc (.cells #[.bool s2, .slice a2 n2 c2] 27) = wA := ⟨_, rfl⟩
  have bA : Below w.heap.size w wA := by subst hwA; exact (below_alloc _).trans ((below_alloc _).mono (below_alloc _).size)
  have d0 : wA.cell? ⟨w.heap.size, 0, none⟩ = some (.bool s1) := by subst hwA; go_simp
  have d1 : wA.cell? ⟨w.heap.size, 1, none⟩ = some (.slice a1 n1 c1) := by subst hwA; go_simp
  have f0 : wA.cell? ⟨w.heap.size + 1, 0, none⟩ = some (.bool s2) := by subst hwA; go_simp
  have f1 : wA.cell? ⟨w.heap.size + 1, 1, none⟩ = some (.slice a2 n2 c2) := by subst hwA; go_simp
  rw [hwA]
  clear hwA
  replace S1 := S1.later bA
  replace S2 := S2.later bA
  refine (rNorm_any a1 n1 c1 X _ (by omega) S1).mono ?_
  rintro e w1 ⟨p, rfl, k1⟩
  have b1 := k1.below
  replace f1 := below_cell b1 f1
  replace S2 := S2.later b1
  replace bA := bA.trans (b1.mono bA.size)
  replace k1 := k1.seg
  clear b1 d0 d1 f0
  go_wp2_with fail
  refine (rNorm_any a2 n2 c2 Y _ (by omega) S2).mono ?_
  rintro e w2 ⟨q, rfl, k2⟩
  have b2 := k2.below
  replace k1 := k1.later b2
  replace bA := bA.trans (b2.mono bA.size)
  have lX : ln X ≤ 35184372087808 := Nat.le_trans (ln_le_of_lt S1.1) l1
  have lY : ln Y ≤ 35184372087808 := Nat.le_trans (ln_le_of_lt S2.1) l2
  replace k2 := k2.seg
  clear b2 f1 S1 S2
  go_wp2_with fail
  go_loopw [5, 6] (fun vx vy wr => ∃ x y a b, vx = .slice a (ln x) (ln x) ∧ vy = .slice b (ln y) (ln y) ∧ Seg wr a x (ln x) ∧ Seg wr b y (ln y) ∧ Below w.heap.size w wr ∧ Nat.gcd x y = G ∧ ln x ≤ 35184372087808 ∧ ln y ≤ 35184372087808) (fun _ vy wr => numK vy wr)
  case atStart => exact ⟨X, Y, p, q, rfl, rfl, k1, k2, bA, hG, lX, lY⟩
  case round =>
    clear k1 k2 bA hG lX lY
    obtain ⟨x, y, a, b, rfl, rfl, sx, sy, hB, hg, lx, ly⟩ := hrel
    by_cases h0 : y = 0
    · subst h0
      have e0 : ln 0 = 0 := ln_zero
      rw [Nat.gcd_zero_right] at hg
      subst hg
      have i0 : ¬ ((ln 0 : Nat) : Int) > 0 := by rw [e0]; omega
      go_wp2
      go_ret
      exact ⟨a, rfl, hB, sx⟩
    · have l0 : ln y ≠ 0 := fun e => h0 (ln_eq_zero.1 e)
      have i0 : ((ln y : Nat) : Int) > 0 := by omega
      have hr : x % y < y := Nat.mod_lt _ (by omega)
      obtain ⟨r, hre⟩ : ∃ r, x % y = r := ⟨_, rfl⟩
      obtain ⟨u, hu⟩ : ∃ u, x / y = u := ⟨_, rfl⟩
      have hx : x = u * y + r := by rw [← hre, ← hu, Nat.mul_comm]; exact (Nat.div_add_mod x y).symm
      rw [hre] at hr
      have hg2 : Nat.gcd y r = G := by rw [← hg, ← hre, Nat.gcd_comm y, ← Nat.gcd_rec, Nat.gcd_comm]
      have lr : ln r ≤ ln y := ln_mono (Nat.le_of_lt hr)
      have H1 := hide' (rDiv_is a b (ln x) (ln x) x (ln y) (ln y) y u r wr (by omega) sx (by omega) sy hx hr)
      have HX := hide' (And.intro hx (And.intro hre hu))
      clear hx hre hu
      go_wp2_with fail
      refine H1.out.mono ?_
      rintro e w3 ⟨aq, ar, rfl, q3, r3⟩
      have b3 := q3.below
      go_wp2_with fail
      refine (rNorm_any ar (ln r) (ln r) r _ (by omega) r3.seg).mono ?_
      rintro e w4 ⟨a4, rfl, k4⟩
      have b4 := k4.below
      have sy4 := (sy.later b3).later b4
      have hB4 := hB.trans ((b3.trans (b4.mono b3.size)).mono hB.size)
      have k5 := k4.seg
      clear H1 q3 r3 b3 b4 k4
      go_wp2
      go_roundw
      case rel => exact ⟨y, r, b, a4, rfl, rfl, sy4, k5, hB4, hg2, ly, by omega⟩
      case measure =>
        rw [numK_eq k5, numK_eq sy]
        exact hr
theorem lcm_div {X Y G : Nat} (hX : X ≠ 0) (hG : Nat.gcd X Y = G) : X = X / G * G + 0 ∧ X / G * Y = Nat.lcm X Y := by
  have hd : G ∣ X := by rw [← hG]; exact Nat.gcd_dvd_left _ _
  have hp : 0 < G := by rw [← hG]; exact Nat.gcd_pos_of_pos_left _ (by omega)
  obtain ⟨k, rfl⟩ := hd
  rw [Nat.mul_div_cancel_left _ hp]
  refine ⟨by rw [Nat.mul_comm]; omega, ?_⟩
  unfold Nat.lcm
  rw [hG, Nat.mul_assoc, Nat.mul_div_cancel_left _ hp]
set_option maxHeartbeats 4000000 in
set_option maxRecDepth 100000 in
theorem vLcm_is (s1 : Bool) (a1 : Option Addr) (n1 c1 X : Nat) (s2 : Bool) (a2 : Option Addr) (n2 c2 Y : Nat) (Z : Nat) (w : World) (l1 : n1 ≤ 35184372087808) (S1 : Seg w a1 X n1) (l2 : n2 ≤ 35184372087808) (S2 : Seg w a2 Y n2) (hX : X ≠ 0) (hZ : Nat.lcm X Y = Z) :
    Calls Tryz.prog 22 #[.agg #[.bool s1, .slice a1 n1 c1], .agg #[.bool s2, .slice a2 n2 c2]] w fun e w' => ∃ a, e = .returned (.slice a (ln Z) (ln Z)) ∧ Below w.heap.size w w' ∧ Seg w' a Z (ln Z) := by
  obtain ⟨G, hG⟩ : ∃ G, Nat.gcd X Y = G := ⟨_, rfl⟩
  obtain ⟨e1, e2⟩ := lcm_div hX hG
  have hp : 0 < G := by rw [← hG]; exact Nat.gcd_pos_of_pos_left _ (by omega)
  have lG : ln G ≤ n1 := Nat.le_trans (ln_mono (Nat.le_of_dvd (by omega) (by rw [← hG]; exact Nat.gcd_dvd_left _ _))) (ln_le_of_lt S1.1)
  have l0 : ln G ≠ 0 := fun e => by have := ln_eq_zero.1 e; omega
  obtain ⟨u, hu⟩ : ∃ u, X / G = u := ⟨_, rfl⟩
  rw [hu] at e1 e2
  rw [hZ] at e2
  have lu : ln u ≤ n1 := by rw [← hu]; exact Nat.le_trans (ln_mono (Nat.div_le_self _ _)) (ln_le_of_lt S1.1)
  have H1 := hide' (fun w' (k1 : Seg w' a1 X n1) (k2 : Seg w' a2 Y n2) => vGcd2_is s1 a1 n1 c1 X s2 a2 n2 c2 Y G w' l1 k1 l2 k2 hG)
  have H2 := hide' (fun w' b (k1 : Seg w' a1 X n1) (k2 : Seg w' b G (ln G)) => rDiv_is a1 b n1 c1 X (ln G) (ln G) G u 0 w' (by omega) k1 (by omega) k2 e1 hp)
  have H3 := hide' (fun w' b (k1 : Seg w' b u (ln u)) (k2 : Seg w' a2 Y n2) => rMul_is b a2 (ln u) (ln u) u n2 c2 Y Z w' (by omega) k1 k2 e2)
  have lZ : ln Z ≤ 70368744177664 := by rw [← e2]; have := ln_prod (Nat.lt_of_lt_of_le (ln_lt u) (pow_mono lu)) S2.1; omega
  clear e1 e2 hX hZ hG hu
  go_enter Tryz.func22, Tryz.ntmps22
  go_wp2_with fail
  obtain ⟨wA, hwA⟩ : ∃ wA, (w.alloc (.cells #[.bool s1, .slice a1 n1 c1] 27)).alloc (.cells #[.bool s2, .slice a2 n2 c2] 27) = wA := ⟨_, rfl⟩
  have bA : Below w.heap.size w wA := by subst hwA; exact (below_alloc _).trans ((below_alloc _).mono (below_alloc _).size)
  have d0 : wA.cell? ⟨w.heap.size, 0, none⟩ = some (.bool s1) := by subst hwA; go_simp
  have d1 : wA.cell? ⟨w.heap.size, 1, none⟩ = some (.slice a1 n1 c1) := by subst hwA; go_simp
  have f0 : wA.cell? ⟨w.heap.size + 1, 0, none⟩ = some (.bool s2) := by subst hwA; go_simp
  have f1 : wA.cell? ⟨w.heap.size + 1, 1, none⟩ = some (.slice a2 n2 c2) := by subst hwA; go_simp
  rw [hwA]
  clear hwA
  replace S1 := S1.later bA
  replace S2 := S2.later bA
  refine (H1.out _ S1 S2).mono ?_
  rintro e w1 ⟨g, rfl, b1, k1⟩
  replace d0 := below_cell b1 d0
  replace d1 := below_cell b1 d1
  replace f0 := below_cell b1 f0
  replace f1 := below_cell b1 f1
  replace S1 := S1.later b1
  replace S2 := S2.later b1
  replace bA := bA.trans (b1.mono bA.size)
  clear b1 H1
  have i0 : ¬ ((ln G : Nat) : Int) = 0 := by omega
  go_wp2_with fail
  refine (H2.out _ _ S1 k1).mono ?_
  rintro e w2 ⟨aq, ar, rfl, q3, r3⟩
  have b2 := q3.below
  replace f1 := below_cell b2 f1
  replace S2 := S2.later b2
  replace bA := bA.trans (b2.mono bA.size)
  clear b2 H2 r3 d0 d1 f0
  go_wp2_with fail
  refine (H3.out _ _ q3.seg S2).mono ?_
  rintro e w3 ⟨a3, rfl, k3⟩
  have b3 := k3.below
  replace bA := bA.trans (b3.mono bA.size)
  clear b3 H3
  go_wp2_with fail
  refine (rNorm_any a3 (ln Z) (ln Z) Z _ lZ k3.seg).mono ?_
  rintro e w4 ⟨a4, rfl, k4⟩
  have b4 := k4.below
  replace bA := bA.trans (b4.mono bA.size)
  have k5 := k4.seg
  go_wp2
  go_ret
  exact ⟨a4, rfl, bA, k5⟩
end Go.Proofs.YtkfhllonjgcbkaaGreat

namespace Go.Proofs.YtkfhllonjgcbkaaGreat
set_option linter.unusedVariables false

/-- the sign of the first coefficient -/
def hd : Fo → Int
  | [] => 0
  | p :: _ => sgn p.2.num
/-- it is the sign of the first coefficient that is not 0 -/
def Ld (c : Int → Rat) (s : Int) : Prop := (s = 0 ∧ ∀ x, c x = 0) ∨ (s ≠ 0 ∧ ∃ x, sgn (c x).num = s ∧ ∀ y, y < x → c y = 0)
theorem Ld.uniq {c : Int → Rat} {s t : Int} (h : Ld c s) (k : Ld c t) : s = t := by
  rcases h with ⟨rfl, h⟩ | ⟨hs, x, hx, h⟩
  · rcases k with ⟨rfl, _⟩ | ⟨ht, y, hy, _⟩
    · rfl
    · rw [h y] at hy; exact hy
  · rcases k with ⟨rfl, k⟩ | ⟨ht, y, hy, k⟩
    · rw [k x] at hx; exact hx.symm
    · rcases Int.lt_trichotomy x y with e | e | e
      · rw [k x e] at hx; exact absurd hx.symm hs
      · rw [← hx, ← hy, e]
      · rw [h y e] at hy; exact absurd hy.symm ht
theorem Ld.congr {c d : Int → Rat} {s : Int} (h : Ld c s) (e : ∀ x, c x = d x) : Ld d s := by
  have : c = d := funext e
  rw [← this]; exact h
theorem sgn_neg_num (r : Rat) : sgn (-r).num = -sgn r.num := by
  rw [Rat.neg_num]
  unfold sgn
  split <;> split <;> (try split) <;> omega
theorem Ld.neg {c : Int → Rat} {s : Int} (h : Ld c s) : Ld (fun x => -c x) (-s) := by
  rcases h with ⟨rfl, h⟩ | ⟨hs, x, hx, h⟩
  · exact Or.inl ⟨rfl, fun x => by show -c x = 0; rw [h x]; grind⟩
  · exact Or.inr ⟨by omega, x, by rw [sgn_neg_num, hx], fun y hy => by show -c y = 0; rw [h y hy]; grind⟩
theorem sgn_le {r : Rat} : sgn r.num ≤ 0 ↔ r ≤ 0 := by
  have h1 := Rat.num_nonneg (q := r)
  have h2 := Rat.num_eq_zero (q := r)
  unfold sgn
  split
  · rename_i h
    have : ¬ 0 ≤ r := fun k => by have := h1.2 k; omega
    exact ⟨fun _ => by grind, fun _ => by omega⟩
  · split
    · rename_i h k
      have := h2.1 k
      exact ⟨fun _ => by rw [this]; exact Rat.le_refl, fun _ => by omega⟩
    · rename_i h k
      have a : 0 ≤ r := h1.1 (by omega)
      have b : r ≠ 0 := fun e => k (h2.2 e)
      exact ⟨fun e => by omega, fun e => absurd (show r = 0 by grind) b⟩
/-- two that are not above 0 -/
theorem Ld.add {c d : Int → Rat} {s t u : Int} (h : Ld c s) (k : Ld d t) (j : Ld (fun x => c x + d x) u) (hs : s ≤ 0) (ht : t ≤ 0) : u ≤ 0 := by
  rcases h with ⟨rfl, h⟩ | ⟨hs0, x, hx, h⟩
  · have : u = t := j.uniq (k.congr fun y => by rw [h y, Rat.zero_add])
    omega
  · rcases k with ⟨rfl, k⟩ | ⟨ht0, y, hy, k⟩
    · have : u = s := j.uniq ((show Ld c s from Or.inr ⟨hs0, x, hx, h⟩).congr fun y => by rw [k y, Rat.add_zero])
      omega
    · have cx : c x ≤ 0 := sgn_le.1 (by omega)
      have dy : d y ≤ 0 := sgn_le.1 (by omega)
      have cx0 : c x ≠ 0 := fun e => by rw [e] at hx; exact hs0 hx.symm
      have dy0 : d y ≠ 0 := fun e => by rw [e] at hy; exact ht0 hy.symm
      have mk : ∀ z, (∀ y', y' < z → c y' + d y' = 0) → c z + d z ≤ 0 → c z + d z ≠ 0 → u ≤ 0 := fun z h1 h2 h3 => by
        have e : u = sgn (c z + d z).num := j.uniq (Or.inr ⟨fun e => h3 ((sgn_num _).1 e), z, rfl, h1⟩)
        rw [e]
        exact sgn_le.2 h2
      rcases Int.lt_trichotomy x y with e | e | e
      · refine mk x (fun z hz => by rw [h z hz, k z (by omega)]; exact Rat.add_zero _) (by rw [k x e, Rat.add_zero]; exact cx) (by rw [k x e, Rat.add_zero]; exact cx0)
      · subst e
        exact mk x (fun z hz => by rw [h z hz, k z hz]; exact Rat.add_zero _) (by grind) (by grind)
      · refine mk y (fun z hz => by rw [h z (by omega), k z hz]; exact Rat.add_zero _) (by rw [h y e, Rat.zero_add]; exact dy) (by rw [h y e, Rat.zero_add]; exact dy0)

end Go.Proofs.YtkfhllonjgcbkaaGreat

namespace Go.Proofs.YtkfhllonjgcbkaaGreat
open Go.RowKit
set_option linter.unusedVariables false
set_option linter.unusedSimpArgs false

/-- a number that is low, by its value -/
theorem low_parts {q : RatV} (h : q.low) : q.X = am q.val.num ∧ q.Y = q.val.den ∧ q.s = ng q.val.num ∧ q.n = ln (am q.val.num) ∧ q.m = ln q.val.den ∧ q.c = ln (am q.val.num) ∧ q.e = ln q.val.den := by
  have ev := low_val h
  have f1 : q.X = am q.val.num := congrArg RatV.X ev
  have f2 : q.Y = q.val.den := congrArg RatV.Y ev
  refine ⟨f1, f2, congrArg RatV.s ev, ?_, ?_, ?_, ?_⟩
  · rw [h.hn, f1]
  · rw [h.hm, f2]
  · rw [h.hc, f1]
  · rw [h.he, f2]
theorem seg_one {w : World} {b : Nat} (h : w.cell? ⟨b, 0, none⟩ = some (.int .u32 1)) : Seg w (some ⟨b, 0, none⟩) 1 1 := by
  refine ⟨by rw [Nat.pow_one, BB_eq]; omega, fun _ => ⟨b, 0, rfl, World.block_lt_of_cell? w _ h, fun i hi => ?_⟩⟩
  obtain rfl : i = 0 := by omega
  exact h
theorem val_nat (a p : Option Addr) (n c D : Nat) : (RatV.mk false a n c D p 1 1 1).val = (D : Rat) := by
  unfold RatV.val
  rw [rn_of (show (1 : Nat) ≠ 0 by decide), rd_of (show (1 : Nat) ≠ 0 by decide)]
  show Rat.divInt (D : Int) ((1 : Nat) : Int) = _
  rw [Rat.divInt_eq_div, Rat.intCast_natCast]
  show (D : Rat) / (((1 : Nat) : Int) : Rat) = _
  have : (((1 : Nat) : Int) : Rat) = 1 := rfl
  rw [this]
  grind
theorem sz_nat {D N : Nat} (h : ln D ≤ N) (hN : 1 ≤ N) : sz N (D : Rat) := by
  refine ⟨?_, ?_⟩
  · show ln (am ((D : Nat) : Rat).num) ≤ N
    rw [Rat.num_natCast, am_nat]
    exact h
  · show ln ((D : Nat) : Rat).den ≤ N
    rw [Rat.den_natCast, ln_one]
    exact hN
theorem sR_lt (r : Rat) : decide (sR r < 0) = decide (r < 0) := by
  have h1 : sgn (-r).num ≤ 0 ↔ -r ≤ 0 := sgn_le
  have h2 := sR_neg r
  unfold sR at h2
  rw [h2] at h1
  refine decide_eq_decide.2 ⟨fun h => ?_, fun h => ?_⟩
  · unfold sR at h
    have : ¬ (-r ≤ 0) := fun e => by have := h1.2 e; omega
    grind
  · unfold sR
    have : ¬ (-(sgn r.num) ≤ 0) := fun e => by have := h1.1 e; grind
    omega
/-- the common denominator so far -/
structure DenI (w : World) (P : Nat) (R : List Mo) (k : Nat) (vd : Value) (wr : World) (D : Nat) (a : Option Addr) (c : Nat) : Prop where
  vd : vd = .slice a (ln D) c
  bel : Below w.heap.size w wr
  seg : Seg wr a D (ln D)
  cap : ln D ≤ c
  pos : 0 < D
  dvd : D ∣ P
  all : ∀ p ∈ R.take k, p.2.val.den ∣ D
set_option maxHeartbeats 8000000 in
set_option maxRecDepth 100000 in
theorem vlPrime_is (a : Option Addr) (ca : Nat) (L : List Mo) (w : World) (hF : FAt w a L) (hok : ∀ p ∈ L, p.2.ok w ∧ p.2.n ≤ 1099511627776 ∧ p.2.m ≤ 1099511627776) (hc : L.length ≤ ca) (hm : L.length ≤ 1048576) (hw : wts (fo L) ≤ 8388608) :
    Calls Tryz.prog 6 #[.slice a L.length ca] w (PAns w (nfm (fo L))) := by
  have G1 := hide' (fun w' (hb9 : Below w.heap.size w w') => vlNorm_is a ca L w' (hF.later hb9) (fun p hp => ⟨(hok p hp).1.later hb9, (hok p hp).2⟩) hc hm (by omega))
  have hlen := nfm_length (fo L)
  rw [fo_length] at hlen
  have hwn := wts_nfm (fo L)
  have hnr := nfm_nrm (fo L)
  have HP := hide' (fun g (h : Prm (nfm (fo L)) g) => (Prm.sz h).mono (show wts (fo L) + 1 ≤ 8388609 by omega))
  have HK := hide' (fun q (hq : q ∈ nfm (fo L)) => (show sz 8388609 q.2 ∧ q.2.den ∣ dpr (fo L) ∧ q.2 ≠ 0 by have h := (co_sz q.1 (fo L)).mono (show wts (fo L) + 1 ≤ 8388609 by omega); have h2 := co_den q.1 (fo L); rw [← nfm_co, hnr.co_mem hq] at h h2; exact ⟨h, h2, hnr.2 q hq⟩))
  have HD := hide' (fun D (hD : D ∣ dpr (fo L)) => (show ln D ≤ 8388609 from Nat.le_trans (ln_le_of_lt (Nat.lt_of_le_of_lt (Nat.le_of_dvd (dpr_pos _) hD) (dpr_ln (fo L)))) (by omega)))
  obtain ⟨P, hP⟩ : ∃ P, dpr (fo L) = P := ⟨_, rfl⟩
  rw [hP] at HK HD
  clear hP
  obtain ⟨l, hl⟩ : ∃ l, nfm (fo L) = l := ⟨_, rfl⟩
  rw [hl] at G1 hlen hwn hnr HP HK ⊢
  have hwl : wts l ≤ 25000000 := by omega
  clear hl hF hok hc hw hwn
  obtain ⟨TT, hTT⟩ : ∃ TT, PAns w l = TT := ⟨_, rfl⟩
  rw [hTT]
  replace hTT := hide' hTT
  have GW' := fun w' => vqWhole_is 1 w' (by omega) (by omega)
  rw [show ng 1 = false from rfl, show am 1 = 1 from rfl, ln_one] at GW'
  have GW := hide' GW'
  clear GW'
  go_enter Tryz.func6, Tryz.ntmps6
  go_wp2_with fail
  obtain ⟨wA, hwA⟩ : ∃ wA, w.alloc (.cells #[.bool false, .slice none 0 0, .slice none 0 0] 29) = wA := ⟨_, rfl⟩
  have bA : Below w.heap.size w wA := by subst hwA; exact below_alloc _
  have rA : Thr wA w.heap.size (.bool false) (.slice none 0 0) (.slice none 0 0) := by subst hwA; exact ⟨⟨by go_simp, by go_simp, by go_simp⟩, row_new w _ 29⟩
  rw [hwA]
  clear hwA
  refine (G1.out _ bA).mono ?_
  rintro e w1 ⟨a1, c1, R, rfl, b1, s1, e1, f1⟩
  replace e1 : Ents w1 R := e1
  replace rA := rA.later b1
  replace bA := bA.trans (b1.mono bA.size)
  clear b1 G1
  have hRl : R.length ≤ 1048576 := by rw [← fo_length, f1]; omega
  have HR := hide' (fun p (hp : p ∈ R) => HK.out (p.1, p.2.val) (by rw [← f1]; exact List.mem_map.2 ⟨p, hp, rfl⟩))
  by_cases h0 : R.length = 0
  · have i0 : ((R.length : Nat) : Int) = 0 := by omega
    have hR0 : R = [] := List.length_eq_zero_iff.1 h0
    have hl0 : l = [] := by rw [← f1, hR0]; rfl
    go_wp2_with fail
    refine (GW.out _).mono ?_
    rintro e w2 ⟨p, p', rfl, n1, n2⟩
    have b2 := n1.below
    have k1 := n1.seg
    have k2 := n2.seg
    clear n1 n2
    replace rA := rA.later b2
    replace bA := bA.trans (b2.mono bA.size)
    have fz := fun o => rA.2.frozen o
    have t0 := rA.1.1
    have t1 := rA.1.2.1
    have t2 := rA.1.2.2
    have g8 := rA.seg (u0 := .bool false) (u1 := .slice p 1 1) (u2 := .slice p' 1 1) (by simp) (by simp) (by simp) k1
    have g9 := rA.seg (u0 := .bool false) (u1 := .slice p 1 1) (u2 := .slice p' 1 1) (by simp) (by simp) (by simp) k2
    have hB7 : Below w.heap.size w (set3 w2 w.heap.size (.bool false) (.slice p 1 1) (.slice p' 1 1)) := below_set3 bA (Nat.le_refl _)
    have rD := rA.put (u0 := .bool false) (u1 := .slice p 1 1) (u2 := .slice p' 1 1)
    clear rA
    go_wp2
    obtain ⟨⟨v0, v1, v2⟩, vR⟩ := rD
    refine bodyPost_ret (v := .tuple #[.slice none 0 0, .agg #[.bool false, .slice p 1 1, .slice p' 1 1]]) (by rw [results_tc rfl]; go_simp) rfl ?_
    rw [← hTT.out]
    have q1 : ln (am ((1 : Rat).num)) = 1 := by show ln (am 1) = 1; rw [show am 1 = 1 from rfl, ln_one]
    have q2 : ln ((1 : Rat).den) = 1 := by show ln 1 = 1; rw [ln_one]
    exact ⟨1, none, 0, [], p, p', by rw [q1, q2]; rfl, Or.inl ⟨hl0, rfl⟩, hB7, ⟨FAt.nil _ _, Nat.le_refl _, by simp⟩, (fun p hp => by simp at hp), by rw [hl0]; rfl, by rw [q1]; exact g8, by rw [q2]; exact g9⟩
  · have i0 : ¬ ((R.length : Nat) : Int) = 0 := by omega
    clear GW
    have i9 : (((R.length : Nat) : Int) == 0) = false := beq_eq_false_iff_ne.2 i0
    go_wp2_with fail
    clear i9
    obtain ⟨wN, hwN⟩ : ∃ wN, w1.alloc (.cells #[.int .u32 1] 51) = wN := ⟨_, rfl⟩
    have bN : Below w1.heap.size w1 wN := by subst hwN; exact below_alloc _
    have sN : Seg wN (some ⟨w1.heap.size, 0, none⟩) 1 1 := seg_one (by subst hwN; go_simp)
    rw [hwN]
    clear hwN
    go_loopw [5, 6] (fun vd vi wr => ∃ k D a c, k ≤ R.length ∧ vi = .int .i64 k ∧ DenI w1 P R k vd wr D a c) (fun _ vi _ => R.length - (intOf vi).toNat)
    case atStart => exact ⟨0, 1, _, 1, Nat.zero_le _, rfl, ⟨by rw [ln_one], bN, by rw [ln_one]; exact sN, by rw [ln_one]; omega, by omega, Nat.one_dvd _, by simp⟩⟩
    case round =>
      clear bN sN
      obtain ⟨k, D, ad, cd, hk, rfl, rfl, hB, sD, hcd, hD0, hDP, hal⟩ := hrel
      have lD := HD.out D hDP
      by_cases hlt : k < R.length
      · obtain ⟨pk, hpk⟩ : ∃ p, R[k]? = some p := ⟨R[k], List.getElem?_eq_getElem hlt⟩
        obtain ⟨b, off, rfl, hbb, hcell⟩ := s1.lies (by intro e; rw [e] at hlt; simp at hlt)
        obtain ⟨c0, c3, c4, c5⟩ := hcell k pk hpk
        have hcl := s1.len
        replace c0 := below_cell hB c0
        replace c3 := below_cell hB c3
        replace c4 := below_cell hB c4
        replace c5 := below_cell hB c5
        have hmem := List.mem_of_getElem? hpk
        have hd := (HR.out pk hmem).2.1
        have hq1 := (e1 pk hmem).ok.later hB
        obtain ⟨fX, fY, fs, fn, fm, fc, fe⟩ := low_parts (e1 pk hmem).low
        obtain ⟨t1, t2⟩ := take_split hpk
        have lm := hq1.2.2.2.2.2
        clear hpk hcell c0 c3 c4
        obtain ⟨y, q0⟩ := pk
        simp only at c5 hq1 fX fY fs fn fm fc fe lm hd
        obtain ⟨Z, hZ⟩ : ∃ Z, Nat.lcm D q0.Y = Z := ⟨_, rfl⟩
        have hY0 : 0 < q0.Y := by rw [fY]; exact q0.val.den_pos
        have H1 := hide' (vLcm_is false ad (ln D) cd D false q0.b q0.m q0.e q0.Y Z wr (by omega) sD lm hq1.2.2.2.1 (by omega) hZ)
        have hZp : 0 < Z := by rw [← hZ]; exact Nat.lcm_pos hD0 hY0
        have hZP : Z ∣ P := by rw [← hZ]; exact Nat.lcm_dvd hDP (by rw [fY]; exact hd)
        have hZa : ∀ p ∈ R.take (k + 1), p.2.val.den ∣ Z := fun p hp => by
          rw [t1] at hp
          rcases List.mem_append.1 hp with hp | hp
          · exact Nat.dvd_trans (hal p hp) (by rw [← hZ]; exact Nat.dvd_lcm_left _ _)
          · have := List.mem_singleton.1 hp
            subst this
            show q0.val.den ∣ Z
            rw [← hZ, ← fY]; exact Nat.dvd_lcm_right _ _
        have HZ := hide' (And.intro hZp (And.intro hZP hZa))
        have i1 : (0 : Int) ≤ (k : Int) := by omega
        have i2 : (k : Int) < (R.length : Int) := by omega
        clear hZp hZP hZa hal t1 t2 hq1 fX fY fs fn fm fc fe hd hZ
        go_wp2_with fail
        refine H1.out.mono ?_
        rintro e w2 ⟨az, rfl, b2, kz⟩
        have I1 := hide' (show DenI w1 P R (k + 1) (.slice az (ln Z) (ln Z)) w2 Z az (ln Z) from ⟨rfl, hB.trans (b2.mono hB.size), kz, Nat.le_refl _, HZ.out.1, HZ.out.2.1, HZ.out.2.2⟩)
        clear H1 HZ b2 kz
        go_wp2
        go_roundw
        case rel => exact ⟨k + 1, Z, az, ln Z, by omega, by go_num, I1.out⟩
        case measure => simp [intOf]; omega
      · obtain rfl : k = R.length := by omega
        have i1 : ¬ (R.length : Int) < (R.length : Int) := by omega
        rw [List.take_length] at hal
        replace rA := rA.later hB
        replace s1 := s1.later hB
        replace e1 := e1.later hB
        replace bA := bA.trans (hB.mono bA.size)
        clear hB
        generalize wr = wD at sD rA s1 e1 bA ⊢
        go_wp2_with fail
        go_loopw [7, 8] (fun vn vi wr => ∃ k G a c, k ≤ R.length ∧ vi = .int .i64 k ∧ vn = .slice a (ln G) c ∧ Below wD.heap.size wD wr ∧ Seg wr a G (ln G) ∧ ln G ≤ 100000000 ∧ ln G ≤ c ∧ gcdl ((R.take k).map (fun p => (p.2.val * (D : Rat)).num)) = G) (fun _ vi _ => R.length - (intOf vi).toNat)
        case atStart => exact ⟨0, 0, none, 0, Nat.zero_le _, rfl, by rw [ln_zero], Below.refl _ _, by rw [ln_zero]; exact Seg.nil _ _, by rw [ln_zero]; omega, by rw [ln_zero]; omega, by simp [gcdl]⟩
        case round =>
          obtain ⟨k, G, an, cn, hk, rfl, rfl, hB, sG, lG, hcn, hG⟩ := hrel
          by_cases hlt : k < R.length
          · obtain ⟨pk, hpk⟩ : ∃ p, R[k]? = some p := ⟨R[k], List.getElem?_eq_getElem hlt⟩
            obtain ⟨b, off, rfl, hbb, hcell⟩ := s1.lies (by intro e; rw [e] at hlt; simp at hlt)
            obtain ⟨c0, c3, c4, c5⟩ := hcell k pk hpk
            have hcl := s1.len
            replace c0 := below_cell hB c0
            replace c3 := below_cell hB c3
            replace c4 := below_cell hB c4
            replace c5 := below_cell hB c5
            have hmem := List.mem_of_getElem? hpk
            have hkk := HR.out pk hmem
            have hdD := hal pk hmem
            have hq1 := (e1 pk hmem).ok.later hB
            obtain ⟨fX, fY, fs, fn, fm, fc, fe⟩ := low_parts (e1 pk hmem).low
            obtain ⟨t1, t2⟩ := take_split hpk
            clear hpk hcell c0
            obtain ⟨y, q0⟩ := pk
            simp only at c3 c4 c5 hq1 fX fY fs fn fm fc fe hkk hdD
            have ht : gcdl ((R.take (k + 1)).map (fun p => (p.2.val * (D : Rat)).num)) = Nat.gcd G (am (q0.val * (D : Rat)).num) := by rw [t1, List.map_append]; show gcdl (_ ++ [(q0.val * (D : Rat)).num]) = _; rw [gcdl_snoc, hG]; rfl
            have lq1 := hkk.1.1
            have lq2 := hkk.1.2
            have hy := (sz_mulY hkk.1 (sz_nat lD (by omega))).mono (show 8388609 + 8388609 ≤ 20000000 by omega)
            have hy0 : (q0.val * (D : Rat)).num ≠ 0 := fun e => by
              have h := whole_mul hdD
              rw [e] at h
              rcases Rat.mul_eq_zero.1 (show q0.val * (D : Rat) = 0 from h.symm) with h | h
              · exact hkk.2.2 h
              · have : D = 0 := by exact_mod_cast h
                omega
            have HL' := fun p => low_mul q0 (RatV.mk false ad (ln D) cd D p 1 1 1)
            obtain ⟨v, hv⟩ : ∃ v, q0.val * (D : Rat) = v := ⟨_, rfl⟩
            have HL : Hid (∀ p, Low (rn q0.s q0.X q0.Y * rn false D 1) ((rd q0.Y : Nat) * (rd 1 : Nat)) v.num v.den) := hide' (fun p => by have h := HL' p; rw [val_nat, hv] at h; exact h)
            clear HL'
            rw [hv] at hy hy0 ht
            obtain ⟨G2, hG2⟩ : ∃ G2, Nat.gcd G (am v.num) = G2 := ⟨_, rfl⟩
            rw [hG2] at ht
            have lG2 : ln G2 ≤ 100000000 := by
              have h1 : G2 ∣ am v.num := by rw [← hG2]; exact Nat.gcd_dvd_right _ _
              have h2 : 0 < am v.num := by unfold am; omega
              exact Nat.le_trans (ln_mono (Nat.le_of_dvd h2 h1)) (Nat.le_trans hy.1 (by omega))
            replace HX := hide' (And.intro hv ht)
            clear hv ht hG hy0 hkk hdD t1 t2
            have i1 : (0 : Int) ≤ (k : Int) := by omega
            have i2 : (k : Int) < (R.length : Int) := by omega
            obtain ⟨wN, hwN⟩ : ∃ wN, wr.alloc (.cells #[.int .u32 1] 51) = wN := ⟨_, rfl⟩
            have bN : Below wr.heap.size wr wN := by subst hwN; exact below_alloc _
            have sN : Seg wN (some ⟨wr.heap.size, 0, none⟩) 1 1 := seg_one (by subst hwN; go_simp)
            have H1 := hide' (vqMul_is q0.s q0.a q0.n q0.c q0.X q0.b q0.m q0.e q0.Y false ad (ln D) cd D (some ⟨wr.heap.size, 0, none⟩) 1 1 1 v.num v.den wN hq1.2.1 (by rw [fn]; omega) (hq1.1.later bN) hq1.2.2.2.2.1 (by rw [fm]; omega) (hq1.2.2.2.1.later bN) hcd (by omega) ((sD.later hB).later bN) (Nat.le_refl _) (by omega) sN (HL.out none))
            clear fX fY fs fn fm fc fe HL
            go_wp2_with fail
            refine H1.out.mono ?_
            rintro e w2 ⟨p, q, rfl, n1, n2⟩
            have b2 := n1.below
            have k1 := n1.seg
            clear n1 n2 H1
            obtain ⟨wM, hwM⟩ : ∃ wM, w2.alloc (.cells #[.bool (ng v.num), .slice p (ln (am v.num)) (ln (am v.num)), .slice q (ln v.den) (ln v.den)] 29) = wM := ⟨_, rfl⟩
            have bM : Below w2.heap.size w2 wM := by subst hwM; exact below_alloc _
            have y1 : wM.cell? ⟨w2.heap.size, 1, none⟩ = some (.slice p (ln (am v.num)) (ln (am v.num))) := by subst hwM; go_simp
            have bT := (bN.trans (b2.mono bN.size))
            replace bT := bT.trans (bM.mono bT.size)
            have H2 := hide' (rGcd_is an p (ln G) cn G (ln (am v.num)) (ln (am v.num)) (am v.num) G2 wM (by omega) (sG.later bT) (Nat.le_trans hy.1 (by omega)) (k1.later bM) hG2)
            go_wp2_with fail
            refine H2.out.mono ?_
            rintro e w4 ⟨ag, rfl, n4⟩
            have I1 := hide' (And.intro (hB.trans ((bT.trans (n4.below.mono bT.size)).mono hB.size)) (And.intro n4.seg HX.out.2))
            clear H2 hwM bM b2 bN bT k1 n4 sN y1
            go_wp2
            go_roundw
            case rel => exact ⟨k + 1, G2, ag, ln G2, by omega, by go_num, rfl, I1.out.1, I1.out.2.1, lG2, Nat.le_refl _, I1.out.2.2⟩
            case measure => simp [intOf]; omega
          · obtain rfl : k = R.length := by omega
            have i1 : ¬ (R.length : Int) < (R.length : Int) := by omega
            rw [List.take_length] at hG
            replace rA := rA.later hB
            replace s1 := s1.later hB
            replace e1 := e1.later hB
            replace bA := bA.trans (hB.mono bA.size)
            replace sD := sD.later hB
            clear hB
            generalize wr = wE at sD sG rA s1 e1 bA ⊢
            obtain ⟨p0, R9, hR9⟩ : ∃ p R9, R = p :: R9 := by rcases R with _ | ⟨p, R9⟩; exact absurd rfl h0; exact ⟨p, R9, rfl⟩
            have hpk : R[0]? = some p0 := by rw [hR9]; rfl
            obtain ⟨b, off, rfl, hbb, hcell⟩ := s1.lies (by rw [hR9]; simp)
            obtain ⟨c0, c3, c4, c5⟩ := hcell 0 p0 hpk
            rw [Nat.zero_mul, Nat.add_zero] at c0 c3 c4 c5
            have hcl := s1.len
            have hmem := List.mem_of_getElem? hpk
            have hq1 := (e1 p0 hmem).ok
            have hprm := ref_prm (p := (p0.1, p0.2.val)) (m := fo R9) (D := D) (G := G) (by rw [← f1, hR9] at hnr; exact hnr) hD0 (fun q hq => by
              have h1 : q ∈ fo R := by rw [hR9]; exact hq
              obtain ⟨p, hp, rfl⟩ := List.mem_map.1 h1
              exact hal p hp) (by rw [← hG, hR9]; show _ = gcdl ((p0 :: R9).map _); rw [show ((p0.1, p0.2.val) :: fo R9) = fo (p0 :: R9) from rfl]; unfold fo; rw [List.map_map]; rfl) (decide (sR p0.2.val < 0)) (by rw [sR_lt])
            rw [show ((p0.1, p0.2.val) :: fo R9) = l by rw [← f1, hR9]; rfl] at hprm
            obtain ⟨y, q0⟩ := p0
            simp only at c3 c4 c5 hq1 hprm
            obtain ⟨C, hC⟩ : ∃ C, sR q0.val = C := ⟨_, rfl⟩
            rw [hC] at hprm
            obtain ⟨bb, hbb9⟩ : ∃ bb, decide (C < 0) = bb := ⟨_, rfl⟩
            rw [hbb9] at hprm
            have H1 := hide' (vqSign_is q0.s q0.a q0.n q0.c q0.X q0.b q0.m q0.e q0.Y C wE hq1.2.1 hq1.2.2.1 hq1.1 hq1.2.2.2.2.1 hq1.2.2.2.2.2 hq1.2.2.2.1 ((sR_val q0).trans hC))
            have hz := HP.out _ hprm
            have hne := hprm.ne
            have HN' := low_of (A := sg bb G) (D := (D : Int)) (r := Rat.divInt (sg bb G) (D : Int)) (by omega) rfl
            obtain ⟨g, hg⟩ : ∃ g, Rat.divInt (sg bb G) (D : Int) = g := ⟨_, rfl⟩
            rw [hg] at hprm hz hne HN'
            have H2 := hide' (fun w' (k1 : Seg w' an G (ln G)) (k2 : Seg w' ad D (ln D)) => vqNorm_is bb an (ln G) cn G ad (ln D) cd D g.den g.num w' (by omega) k1 (by omega) k2 (by rw [rn_of (by omega), rd_of (by omega)]; exact HN'))
            have hzi := szInv hz hne
            replace HX := hide' (And.intro hprm hne)
            clear HN' hprm hne hg hC hG hal hq1 hcell hpk hmem hR9 c0
            go_wp2_with fail
            refine H1.out.mono ?_
            rintro e w2 ⟨rfl, b2⟩
            replace rA := rA.later b2
            replace s1 := s1.later b2
            replace e1 := e1.later b2
            replace bA := bA.trans (b2.mono bA.size)
            replace sD := sD.later b2
            replace sG := sG.later b2
            clear b2 H1 c3 c4 c5
            go_wp2_with fail
            (try rw [hbb9])
            refine (H2.out _ sG sD).mono ?_
            rintro e w3 ⟨x3, y3, rfl, n3, n4⟩
            have b3 := n3.below
            have k3 := n3.seg
            have k4 := n4.seg
            replace rA := rA.later b3
            replace s1 := s1.later b3
            replace e1 := e1.later b3
            replace bA := bA.trans (b3.mono bA.size)
            clear b3 H2 n3 n4 sG sD
            have lt3 : w.heap.size < w3.heap.size := rA.2.lt
            obtain ⟨wC, hwC⟩ : ∃ wC, w3.alloc (.cells #[.bool (ng g.num), .slice x3 (ln (am g.num)) (ln (am g.num)), .slice y3 (ln g.den) (ln g.den)] 29) = wC := ⟨_, rfl⟩
            have bC : Below w3.heap.size w3 wC := by subst hwC; exact below_alloc _
            have y0 : wC.cell? ⟨w3.heap.size, 0, none⟩ = some (.bool (ng g.num)) := by subst hwC; go_simp
            have y1 : wC.cell? ⟨w3.heap.size, 1, none⟩ = some (.slice x3 (ln (am g.num)) (ln (am g.num))) := by subst hwC; go_simp
            have y2 : wC.cell? ⟨w3.heap.size, 2, none⟩ = some (.slice y3 (ln g.den) (ln g.den)) := by subst hwC; go_simp
            replace rA := rA.later bC
            replace s1 := s1.later bC
            replace e1 := e1.later bC
            replace k3 := k3.later bC
            replace k4 := k4.later bC
            replace bA := bA.trans (bC.mono bA.size)
            clear bC
            have GI := hide' (vqInv_is (ng g.num) x3 (ln (am g.num)) (ln (am g.num)) (am g.num) y3 (ln g.den) (ln g.den) g.den (g⁻¹).num (g⁻¹).den wC (Nat.le_refl _) (Nat.le_trans hz.1 (by omega)) k3 (Nat.le_refl _) (Nat.le_trans hz.2 (by omega)) k4 (by rw [rn_nf g.den_pos, rd_nf g.den_pos]; exact low_of (fun e => HX.out.2 (Rat.num_eq_zero.1 e)) (Rat.inv_def g)))
            obtain ⟨v, hv⟩ : ∃ v, g⁻¹ = v := ⟨_, rfl⟩
            rw [hv] at GI hzi
            go_wp2_with fail
            clear hwC
            refine GI.out.mono ?_
            rintro e w5 ⟨x5, y5, rfl, n5, n6⟩
            have b5 := n5.below
            have k5 := n5.seg
            have k6 := n6.seg
            clear n5 n6 GI
            replace rA := rA.later b5
            replace s1 := s1.later b5
            replace e1 := e1.later b5
            replace k3 := k3.later b5
            replace k4 := k4.later b5
            replace bA := bA.trans (b5.mono bA.size)
            replace y0 := below_cell b5 y0
            replace y1 := below_cell b5 y1
            replace y2 := below_cell b5 y2
            clear b5
            have lt5 : w.heap.size < w5.heap.size := rA.2.lt
            obtain ⟨wF, hwF⟩ : ∃ wF, w5.alloc (.cells #[.bool (ng v.num), .slice x5 (ln (am v.num)) (ln (am v.num)), .slice y5 (ln v.den) (ln v.den)] 29) = wF := ⟨_, rfl⟩
            have bC : Below w5.heap.size w5 wF := by subst hwF; exact below_alloc _
            have z0 : wF.cell? ⟨w5.heap.size, 0, none⟩ = some (.bool (ng v.num)) := by subst hwF; go_simp
            have z1 : wF.cell? ⟨w5.heap.size, 1, none⟩ = some (.slice x5 (ln (am v.num)) (ln (am v.num))) := by subst hwF; go_simp
            have z2 : wF.cell? ⟨w5.heap.size, 2, none⟩ = some (.slice y5 (ln v.den) (ln v.den)) := by subst hwF; go_simp
            replace rA := rA.later bC
            replace s1 := s1.later bC
            replace e1 := e1.later bC
            replace k3 := k3.later bC
            replace k4 := k4.later bC
            replace k5 := k5.later bC
            replace k6 := k6.later bC
            replace bA := bA.trans (bC.mono bA.size)
            replace y0 := below_cell bC y0
            replace y1 := below_cell bC y1
            replace y2 := below_cell bC y2
            clear bC
            have GS := hide' (fun w' (hb9 : Below wF.heap.size wF w') => vlScaleF_is (nR v x5 y5) (some ⟨b, off, none⟩) c1 R 40000000 w' (s1.lies.later hb9) (fun p hp => (e1 p hp).ok.later hb9) s1.len hRl (show (nR v x5 y5).ok w' from ⟨k5.later hb9, Nat.le_refl _, Nat.le_trans hzi.1 (by omega), k6.later hb9, Nat.le_refl _, Nat.le_trans hzi.2 (by omega)⟩)
              (fun p hp => by have h1 := (HR.out p hp).1; obtain ⟨h2, h3⟩ := low_ns (e1 p hp).low; have h4 := h1.1; have h5 := h1.2; have h6 := hzi.1; have h7 := hzi.2; rw [h2, h3]; show ln (am v.num) + ln v.den + _ + _ ≤ _; omega)
              (by have h6 := hzi.1; have h7 := hzi.2; show ln (am v.num) + ln v.den ≤ _; omega) (by omega) (by rw [nR_val, f1]; exact fun k x => (fine_scale hzi (show 8388609 + (wts l + 1) ≤ 1099511627776 by omega)) 0 k x))
            rw [nR_val, f1] at GS
            have bW : Below wF.heap.size wF wF := Below.refl _ _
            clear s1 e1 k5 k6
            go_wp2_with fail
            clear hwF
            have bD : Below wF.heap.size wF wF.drew := (Below.refl _ _).drew
            have kz0 := below_cell bD z0
            have kz1 := below_cell bD z1
            have kz2 := below_cell bD z2
            have ky0 := below_cell bD y0
            have ky1 := below_cell bD y1
            have ky2 := below_cell bD y2
            replace bW := bW.trans (bD.mono bW.size)
            replace bA := bA.trans (bD.mono bA.size)
            replace rA := rA.later bD
            replace k3 := k3.later bD
            replace k4 := k4.later bD
            refine wp_region_held_drew (S := fun w' => w'.cell? ⟨w5.heap.size, 0, none⟩ = some (.bool (ng v.num)) ∧ w'.cell? ⟨w5.heap.size, 1, none⟩ = some (.slice x5 (ln (am v.num)) (ln (am v.num))) ∧ w'.cell? ⟨w5.heap.size, 2, none⟩ = some (.slice y5 (ln v.den) (ln v.den)) ∧ w'.cell? ⟨w3.heap.size, 0, none⟩ = some (.bool (ng g.num)) ∧ w'.cell? ⟨w3.heap.size, 1, none⟩ = some (.slice x3 (ln (am g.num)) (ln (am g.num))) ∧ w'.cell? ⟨w3.heap.size, 2, none⟩ = some (.slice y3 (ln g.den) (ln g.den))) (by kernel_rfl) ⟨kz0, kz1, kz2, ky0, ky1, ky2⟩ (fun hHeld => ?_)
            clear kz0 kz1 kz2 ky0 ky1 ky2
            generalize wF.drew = w0 at bD rA k3 k4 bW bA hHeld ⊢
            clear z0 z1 z2 y0 y1 y2
            refine take' 0 (v := ?_) rfl (by kernel_rfl) (by kernel_rfl) (by kernel_rfl) (fun _ _ _ h => h) (Or.inl ⟨by rfl, ?_⟩) (by assumption) ?_
            rotate_left
            · intro w9 hSw
              go_simp
              first | done | with_reducible rfl
            simp only [Act.put, List.setIfInBounds_toArray, List.set_cons_zero, List.set_cons_succ]
            refine take' 1 (v := ?_) rfl (by kernel_rfl) (by kernel_rfl) (by kernel_rfl) (fun _ _ _ h => h) (Or.inl ⟨by rfl, ?_⟩) (by assumption) ?_
            rotate_left
            · intro w9 hSw
              go_simp
              first | done | with_reducible rfl
            simp only [Act.put, List.setIfInBounds_toArray, List.set_cons_zero, List.set_cons_succ]
            refine take' 3 (v := ?_) rfl (by kernel_rfl) (by kernel_rfl) (by kernel_rfl) (fun _ _ _ h => h) (Or.inl ⟨by rfl, ?_⟩) (by assumption) ?_
            rotate_left
            · intro w9 hSw
              go_simp
              first | done | with_reducible rfl
            simp only [Act.put, List.setIfInBounds_toArray, List.set_cons_zero, List.set_cons_succ]
            refine wpAnyH_ready (rs := [2]) (by kernel_rfl) (by simp) ?_
            refine cons' rfl (fun KK hKK => ?_)
            go_simp
            refine (GS.out _ bW).mono ?_
            rintro e w6 ⟨a6, c6, R6, rfl, b6, s6, e6, f6⟩
            have bC := b6
            replace bW := bW.trans (bC.mono bW.size)
            replace bA := bA.trans (bC.mono bA.size)
            replace rA := rA.later bC
            replace k3 := k3.later bC
            replace k4 := k4.later bC
            replace hHeld := (⟨below_cell bC hHeld.1, below_cell bC hHeld.2.1, below_cell bC hHeld.2.2.1, below_cell bC hHeld.2.2.2.1, below_cell bC hHeld.2.2.2.2.1, below_cell bC hHeld.2.2.2.2.2⟩ : _ ∧ _ ∧ _ ∧ _ ∧ _ ∧ _)
            clear bC
            go_wp2_with fail
            have E6 : Ents w6 R6 := e6
            clear e6 b6
            refine hKK.out _ _ hHeld ?_
            clear hHeld
            intro hHeld
            clear hKK KK
            try simp only [Act.put, List.setIfInBounds_toArray, List.set_cons_zero, List.set_cons_succ]
            refine take' 4 (v := ?_) rfl (by kernel_rfl) (by kernel_rfl) (by kernel_rfl) (fun _ _ _ h => h) (Or.inl ⟨by rfl, ?_⟩) (by assumption) ?_
            rotate_left
            · intro w9 hSw
              go_simp
              first | done | with_reducible rfl
            simp only [Act.put, List.setIfInBounds_toArray, List.set_cons_zero, List.set_cons_succ]
            refine wpAnyH_ready (rs := [5]) (by kernel_rfl) (by simp) ?_
            refine cons' rfl (fun KK hKK => ?_)
            have fz := fun o => rA.2.frozen o
            have t0 := rA.1.1
            have t1 := rA.1.2.1
            have t2 := rA.1.2.2
            have g8 := rA.seg (u0 := .bool (ng g.num)) (u1 := .slice x3 (ln (am g.num)) (ln (am g.num))) (u2 := .slice y3 (ln g.den) (ln g.den)) (by simp) (by simp) (by simp) k3
            have g9 := rA.seg (u0 := .bool (ng g.num)) (u1 := .slice x3 (ln (am g.num)) (ln (am g.num))) (u2 := .slice y3 (ln g.den) (ln g.den)) (by simp) (by simp) (by simp) k4
            have s6N : Sl _ _ _ _ := ⟨rA.fatB (u0 := .bool (ng g.num)) (u1 := .slice x3 (ln (am g.num)) (ln (am g.num))) (u2 := .slice y3 (ln g.den) (ln g.den)) s6.lies, s6.len, s6.nn⟩
            have E6N : Ents _ _ := rA.entsB (u0 := .bool (ng g.num)) (u1 := .slice x3 (ln (am g.num)) (ln (am g.num))) (u2 := .slice y3 (ln g.den) (ln g.den)) E6
            replace bA : Below w.heap.size w (set3 w6 (w.heap.size) (.bool (ng g.num)) (.slice x3 (ln (am g.num)) (ln (am g.num))) (.slice y3 (ln g.den) (ln g.den))) := below_set3 bA (by omega)
            have hH2 := (⟨(set3_far (w := w6) (c := w.heap.size) (b := w5.heap.size) (o := 0) (u0 := .bool (ng g.num)) (u1 := .slice x3 (ln (am g.num)) (ln (am g.num))) (u2 := .slice y3 (ln g.den) (ln g.den)) (by omega)).trans hHeld.1, (set3_far (w := w6) (c := w.heap.size) (b := w5.heap.size) (o := 1) (u0 := .bool (ng g.num)) (u1 := .slice x3 (ln (am g.num)) (ln (am g.num))) (u2 := .slice y3 (ln g.den) (ln g.den)) (by omega)).trans hHeld.2.1, (set3_far (w := w6) (c := w.heap.size) (b := w5.heap.size) (o := 2) (u0 := .bool (ng g.num)) (u1 := .slice x3 (ln (am g.num)) (ln (am g.num))) (u2 := .slice y3 (ln g.den) (ln g.den)) (by omega)).trans hHeld.2.2.1, (set3_far (w := w6) (c := w.heap.size) (b := w3.heap.size) (o := 0) (u0 := .bool (ng g.num)) (u1 := .slice x3 (ln (am g.num)) (ln (am g.num))) (u2 := .slice y3 (ln g.den) (ln g.den)) (by omega)).trans hHeld.2.2.2.1, (set3_far (w := w6) (c := w.heap.size) (b := w3.heap.size) (o := 1) (u0 := .bool (ng g.num)) (u1 := .slice x3 (ln (am g.num)) (ln (am g.num))) (u2 := .slice y3 (ln g.den) (ln g.den)) (by omega)).trans hHeld.2.2.2.2.1, (set3_far (w := w6) (c := w.heap.size) (b := w3.heap.size) (o := 2) (u0 := .bool (ng g.num)) (u1 := .slice x3 (ln (am g.num)) (ln (am g.num))) (u2 := .slice y3 (ln g.den) (ln g.den)) (by omega)).trans hHeld.2.2.2.2.2⟩ : _ ∧ _ ∧ _ ∧ _ ∧ _ ∧ _)
            have rD := rA.put (u0 := .bool (ng g.num)) (u1 := .slice x3 (ln (am g.num)) (ln (am g.num))) (u2 := .slice y3 (ln g.den) (ln g.den))
            go_simp
            clear t0 t1 t2 fz rA
            refine hKK.out _ _ hH2 ?_
            clear hHeld
            intro hHeld
            clear hKK KK
            try simp only [Act.put, List.setIfInBounds_toArray, List.set_cons_zero, List.set_cons_succ]
            clear hH2
            try unfold set3 at g8
            try unfold set3 at g9
            try unfold set3 at s6N
            try unfold set3 at E6N
            try unfold set3 at rD
            try unfold set3 at bA
            try unfold set3 at hHeld
            generalize (((w6.setCell ⟨w.heap.size, 0, none⟩ (.bool (ng g.num))).setCell ⟨w.heap.size, 1, none⟩ (.slice x3 (ln (am g.num)) (ln (am g.num)))).setCell ⟨w.heap.size, 2, none⟩ (.slice y3 (ln g.den) (ln g.den))) = w9 at g8 g9 s6N E6N rD bA hHeld ⊢
            refine wpAnyH_done (by kernel_rfl) ?_ _
            obtain ⟨⟨v0, v1, v2⟩, vR⟩ := rD
            go_wp2
            refine bodyPost_ret (v := .tuple #[.slice a6 R6.length c6, .agg #[.bool (ng g.num), .slice x3 (ln (am g.num)) (ln (am g.num)), .slice y3 (ln g.den) (ln g.den)]]) (by rw [results_tc rfl]; go_simp) rfl ?_
            rw [← hTT.out]
            exact ⟨g, a6, c6, R6, x3, y3, rfl, HX.out.1, bA, s6N, E6N, by rw [f6, hv], g8, g9⟩
end Go.Proofs.YtkfhllonjgcbkaaGreat
