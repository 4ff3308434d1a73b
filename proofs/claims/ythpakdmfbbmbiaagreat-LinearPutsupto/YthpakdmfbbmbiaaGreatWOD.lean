/-
  SameAffine; both Solves at once.
-/
import Derived.Test.YthpakdmfbbmbiaaGreatWQ0
import Derived.Test.YthpakdmfbbmbiaaGreatW3
import Derived.Test.YthpakdmfbbmbiaaGreatWL3
import Derived.Test.YthpakdmfbbmbiaaGreatWN4
import Derived.Test.YthpakdmfbbmbiaaGreatWN5
import Derived.Test.YthpakdmfbbmbiaaGreatWOB
import Derived.Test.YthpakdmfbbmbiaaGreatOpenL
namespace Go.Proofs.YthpakdmfbbmbiaaGreat
open Go.RowKit
set_option linter.unusedVariables false





end Go.Proofs.YthpakdmfbbmbiaaGreat

namespace Go.Proofs.YthpakdmfbbmbiaaGreat
open Go.RowKit
set_option linter.unusedVariables false
set_option maxHeartbeats 2000000 in
set_option maxRecDepth 100000 in
theorem SameRat_is (Z : Int) (V : Nat) (p q p1 q1 : Option Addr) (w : World) (h1 : ln (am Z) ≤ 70368744177664) (h2 : ln V ≤ 70368744177664) (hS : Seg w p (am Z) (ln (am Z))) (hT : Seg w q V (ln V)) (hS1 : Seg w p1 (am Z) (ln (am Z))) (hT1 : Seg w q1 V (ln V)) :
    Calls Tryz.prog 10 #[Value.agg #[Value.bool (ng Z), Value.slice p (ln (am Z)) (ln (am Z)), Value.slice q (ln V) (ln V)], Value.agg #[Value.bool (ng Z), Value.slice p1 (ln (am Z)) (ln (am Z)), Value.slice q1 (ln V) (ln V)]] w fun e w' => e = .returned (.bool true) ∧ Below w.heap.size w w' := by
  have HI := hide' (fun w' k1 k2 => SameInt_is Z p p1 (ln (am Z)) (ln (am Z)) w' h1 k1 k2)
  have HN' := fun w' k1 k2 => SameNat_any q q1 (ln V) (ln V) V (ln V) (ln V) V w' h2 h2 k1 k2
  rw [sameB_self] at HN'
  have HN := hide' HN'
  clear HN'
  go_enter Tryz.func10, Tryz.ntmps10
  go_wp2_with fail
  obtain ⟨W, hW⟩ : ∃ W, ((w.alloc (.cells #[.bool (ng Z), .slice p (ln (am Z)) (ln (am Z)), .slice q (ln V) (ln V)] 29)).alloc (.cells #[.bool (ng Z), .slice p1 (ln (am Z)) (ln (am Z)), .slice q1 (ln V) (ln V)] 29)) = W := ⟨_, rfl⟩
  have q00 : W.cell? ⟨w.heap.size, 0, none⟩ = some (.bool (ng Z)) := by subst hW; go_simp
  have q01 : W.cell? ⟨w.heap.size, 1, none⟩ = some (.slice p (ln (am Z)) (ln (am Z))) := by subst hW; go_simp
  have q02 : W.cell? ⟨w.heap.size, 2, none⟩ = some (.slice q (ln V) (ln V)) := by subst hW; go_simp
  have q10 : W.cell? ⟨w.heap.size + 1, 0, none⟩ = some (.bool (ng Z)) := by subst hW; go_simp
  have q11 : W.cell? ⟨w.heap.size + 1, 1, none⟩ = some (.slice p1 (ln (am Z)) (ln (am Z))) := by subst hW; go_simp
  have q12 : W.cell? ⟨w.heap.size + 1, 2, none⟩ = some (.slice q1 (ln V) (ln V)) := by subst hW; go_simp
  have hB : Below w.heap.size w W := by subst hW; exact (((Below.refl _ _).alloc (by (try simp only [World.size_alloc]); omega) _).alloc (by (try simp only [World.size_alloc]); omega) _)
  have hz : W.heap.size = w.heap.size + 1 + 1 := by subst hW; simp only [World.size_alloc]
  rw [hW]
  clear hW
  have hBW : Below W.heap.size W W := Below.refl _ _
  refine (HI.out _ (sb hS hB hBW) (sb hS1 hB hBW)).mono ?_
  rintro e w1 ⟨rfl, b1⟩
  replace hBW := hBW.trans (b1.mono hBW.size)
  replace q00 := below_cell b1 q00
  replace q01 := below_cell b1 q01
  replace q02 := below_cell b1 q02
  replace q10 := below_cell b1 q10
  replace q11 := below_cell b1 q11
  replace q12 := below_cell b1 q12
  go_wp2_with fail
  refine (HN.out _ (sb hT hB hBW) (sb hT1 hB hBW)).mono ?_
  rintro e2 w2 ⟨rfl, hd⟩
  go_wp2
  go_ret
  exact ⟨rfl, (hB.trans (hBW.mono hB.size)).trans (hd.below _)⟩
end Go.Proofs.YthpakdmfbbmbiaaGreat

namespace Go.Proofs.YthpakdmfbbmbiaaGreat
open Go.RowKit
set_option linter.unusedVariables false
set_option linter.unusedSimpArgs false

set_option maxHeartbeats 8000000 in
set_option maxRecDepth 100000 in
theorem SameForm_is (a : Option Addr) (ca : Nat) (L : List Mo) (b : Option Addr) (cb : Nat) (M : List Mo) (w : World) (hF : FAt w a L) (hG : FAt w b M) (hE : ∀ p ∈ L, Ent w p) (hE2 : ∀ p ∈ M, Ent w p) (hca : L.length ≤ ca) (hcb : M.length ≤ cb) (hm : L.length ≤ 2097152) (hfo : fo L = fo M) :
    Calls Tryz.prog 9 #[.slice a L.length ca, .slice b M.length cb] w fun e w' => e = .returned (.bool true) ∧ Below w.heap.size w w' := by
  have hl : M.length = L.length := by have h := congrArg List.length hfo; rw [fo_length, fo_length] at h; exact h.symm
  rw [hl]
  have HF := hide' hfo
  have HL := hide' hl
  rw [hl] at hcb
  clear hfo hl
  go_enter Tryz.func9, Tryz.ntmps9
  go_wp2_with fail
  go_loopw [5] (fun vi wr => ∃ k : Nat, k ≤ L.length ∧ vi = .int .i64 k ∧ Below w.heap.size w wr) (fun vi _ => L.length - (intOf vi).toNat)
  case atStart => exact ⟨0, Nat.zero_le _, rfl, Below.refl _ _⟩
  case round =>
    obtain ⟨k, hk, rfl, hB⟩ := hrel
    by_cases hlt : k < L.length
    · obtain ⟨p, hp⟩ : ∃ p, L[k]? = some p := ⟨L[k], List.getElem?_eq_getElem hlt⟩
      obtain ⟨q, hq⟩ : ∃ q, M[k]? = some q := ⟨M[k]'(by rw [HL.out]; exact hlt), List.getElem?_eq_getElem _⟩
      have hpq : (p.1, p.2.val) = (q.1, q.2.val) := by
        have h1 : (fo L)[k]? = some (p.1, p.2.val) := by unfold fo; rw [List.getElem?_map, hp]; rfl
        have h2 : (fo M)[k]? = some (q.1, q.2.val) := by unfold fo; rw [List.getElem?_map, hq]; rfl
        rw [HF.out, h2] at h1
        exact (Option.some.inj h1).symm
      obtain ⟨b1, o1, rfl, hb1, hcell⟩ := hF (by intro e; rw [e] at hlt; simp at hlt)
      obtain ⟨b2, o2, rfl, hb2, hcell2⟩ := hG (by intro e; have := HL.out; rw [e] at this; simp at this; omega)
      obtain ⟨c0, c1, c2, c3⟩ := hcell k p hp
      obtain ⟨d0, d1, d2, d3⟩ := hcell2 k q hq
      have ep := (hE p (List.mem_of_getElem? hp)).later hB
      have eq := (hE2 q (List.mem_of_getElem? hq)).later hB
      clear hp hq hcell hcell2
      obtain ⟨x, P⟩ := p
      obtain ⟨y, Q⟩ := q
      simp only [Prod.mk.injEq] at hpq
      obtain ⟨rfl, hv⟩ := hpq
      simp only at c0 c1 c2 c3 d0 d1 d2 d3
      replace c0 := below_cell hB c0
      replace c1 := below_cell hB c1
      replace c2 := below_cell hB c2
      replace c3 := below_cell hB c3
      replace d0 := below_cell hB d0
      replace d1 := below_cell hB d1
      replace d2 := below_cell hB d2
      replace d3 := below_cell hB d3
      have okP : P.ok wr := ep.ok
      have okQ : Q.ok wr := eq.ok
      have eP := low_val (show P.low from ep.low)
      have eQ := low_val (show Q.low from eq.low)
      rw [← hv] at eQ
      clear ep eq
      obtain ⟨r, hr⟩ : ∃ r, P.val = r := ⟨_, rfl⟩
      rw [hr] at eP eQ
      clear hr hv
      obtain ⟨pa, hpa⟩ : ∃ pa, P.a = pa := ⟨_, rfl⟩
      obtain ⟨pb, hpb⟩ : ∃ pb, P.b = pb := ⟨_, rfl⟩
      obtain ⟨qa, hqa⟩ : ∃ qa, Q.a = qa := ⟨_, rfl⟩
      obtain ⟨qb, hqb⟩ : ∃ qb, Q.b = qb := ⟨_, rfl⟩
      rw [hpa, hpb] at eP
      rw [hqa, hqb] at eQ
      clear hpa hpb hqa hqb
      subst eP eQ
      simp only [RatV.of] at c1 c2 c3 d1 d2 d3
      have g1 : Seg wr pa (am r.num) (ln (am r.num)) := okP.1
      have g2 : Seg wr pb r.den (ln r.den) := okP.2.2.2.1
      have g3 : Seg wr qa (am r.num) (ln (am r.num)) := okQ.1
      have g4 : Seg wr qb r.den (ln r.den) := okQ.2.2.2.1
      have l1 : ln (am r.num) ≤ 35184372087808 := okP.2.2.1
      have l2 : ln r.den ≤ 35184372087808 := okP.2.2.2.2.2
      clear okP okQ
      have GS := hide' (fun w' k1 k2 k3 k4 => SameRat_is r.num r.den pa pb qa qb w' (by omega) (by omega) k1 k2 k3 k4)
      have i1 : (0 : Int) ≤ (k : Int) := by omega
      have i2 : (k : Int) < (L.length : Int) := by omega
      go_wp2_with fail
      have bD : Below wr.heap.size wr wr.drew := (Below.refl _ _).drew
      have kc0 := below_cell bD c0
      have kc1 := below_cell bD c1
      have kc2 := below_cell bD c2
      have kc3 := below_cell bD c3
      have kd0 := below_cell bD d0
      have kd1 := below_cell bD d1
      have kd2 := below_cell bD d2
      have kd3 := below_cell bD d3
      replace hB := hB.trans (bD.mono hB.size)
      replace g1 := g1.later bD
      replace g2 := g2.later bD
      replace g3 := g3.later bD
      replace g4 := g4.later bD
      replace c0 := below_cell bD c0
      replace c1 := below_cell bD c1
      replace c2 := below_cell bD c2
      replace c3 := below_cell bD c3
      replace d0 := below_cell bD d0
      replace d1 := below_cell bD d1
      replace d2 := below_cell bD d2
      replace d3 := below_cell bD d3
      refine wp_region_held_drew (S := fun w' => w'.cell? ⟨b1, o1 + k * 4, none⟩ = some (.int .i64 x) ∧ w'.cell? ⟨b1, o1 + k * 4 + 1, none⟩ = some (.bool (ng r.num)) ∧ w'.cell? ⟨b1, o1 + k * 4 + 1 + 1, none⟩ = some (.slice pa (ln (am r.num)) (ln (am r.num))) ∧ w'.cell? ⟨b1, o1 + k * 4 + 1 + 2, none⟩ = some (.slice pb (ln r.den) (ln r.den)) ∧ w'.cell? ⟨b2, o2 + k * 4, none⟩ = some (.int .i64 x) ∧ w'.cell? ⟨b2, o2 + k * 4 + 1, none⟩ = some (.bool (ng r.num)) ∧ w'.cell? ⟨b2, o2 + k * 4 + 1 + 1, none⟩ = some (.slice qa (ln (am r.num)) (ln (am r.num))) ∧ w'.cell? ⟨b2, o2 + k * 4 + 1 + 2, none⟩ = some (.slice qb (ln r.den) (ln r.den))) (by kernel_rfl) ⟨kc0, kc1, kc2, kc3, kd0, kd1, kd2, kd3⟩ (fun hHeld => ?_)
      clear kc0 kc1 kc2 kc3 kd0 kd1 kd2 kd3
      generalize wr.drew = w0 at bD g1 g2 g3 g4 c0 c1 c2 c3 d0 d1 d2 d3 hB hHeld ⊢
      clear bD
      refine take' 0 (v := ?_) rfl (by kernel_rfl) (by kernel_rfl) (by kernel_rfl) (fun _ _ _ h => h) (Or.inl ⟨by rfl, ?_⟩) (by assumption) ?_
      rotate_left
      · intro w9 hSw
        go_simp
        first | done | with_reducible rfl
      simp only [Act.put, List.setIfInBounds_toArray, List.set_cons_zero, List.set_cons_succ]
      refine take' 1 (v := ?_) rfl (by kernel_rfl) (by kernel_rfl) (by kernel_rfl) (fun _ _ _ h => h) (Or.inl ⟨by rfl, ?_⟩) (by assumption) ?_
      rotate_left
      · intro w9 hSw
        go_simp
        first | done | with_reducible rfl
      simp only [Act.put, List.setIfInBounds_toArray, List.set_cons_zero, List.set_cons_succ]
      refine take' 2 (v := ?_) rfl (by kernel_rfl) (by kernel_rfl) (by kernel_rfl) (fun _ _ _ h => h) (Or.inl ⟨by rfl, ?_⟩) (by assumption) ?_
      rotate_left
      · intro w9 hSw
        go_simp
        first | done | with_reducible rfl
      simp only [Act.put, List.setIfInBounds_toArray, List.set_cons_zero, List.set_cons_succ]
      refine take' 3 (v := ?_) rfl (by kernel_rfl) (by kernel_rfl) (by kernel_rfl) (fun _ _ _ h => h) (Or.inl ⟨by rfl, ?_⟩) (by assumption) ?_
      rotate_left
      · intro w9 hSw
        go_simp
        first | done | with_reducible rfl
      simp only [Act.put, List.setIfInBounds_toArray, List.set_cons_zero, List.set_cons_succ]
      refine take' 4 (v := ?_) rfl (by kernel_rfl) (by kernel_rfl) (by kernel_rfl) (fun _ _ _ h => h) (Or.inl ⟨by rfl, ?_⟩) (by assumption) ?_
      rotate_left
      · intro w9 hSw
        go_simp
        first | done | with_reducible rfl
      simp only [Act.put, List.setIfInBounds_toArray, List.set_cons_zero, List.set_cons_succ]
      refine take' 5 (v := ?_) rfl (by kernel_rfl) (by kernel_rfl) (by kernel_rfl) (fun _ _ _ h => h) (Or.inl ⟨by rfl, ?_⟩) (by assumption) ?_
      rotate_left
      · intro w9 hSw
        go_simp
        first | done | with_reducible rfl
      simp only [Act.put, List.setIfInBounds_toArray, List.set_cons_zero, List.set_cons_succ]
      refine take' 6 (v := ?_) rfl (by kernel_rfl) (by kernel_rfl) (by kernel_rfl) (fun _ _ _ h => h) (Or.inl ⟨by rfl, ?_⟩) (by assumption) ?_
      rotate_left
      · intro w9 hSw
        go_simp
        first | done | with_reducible rfl
      simp only [Act.put, List.setIfInBounds_toArray, List.set_cons_zero, List.set_cons_succ]
      refine take' 7 (v := ?_) rfl (by kernel_rfl) (by kernel_rfl) (by kernel_rfl) (fun _ _ _ h => h) (Or.inl ⟨by rfl, ?_⟩) (by assumption) ?_
      rotate_left
      · intro w9 hSw
        go_simp
        first | done | with_reducible rfl
      simp only [Act.put, List.setIfInBounds_toArray, List.set_cons_zero, List.set_cons_succ]
      refine take' 8 (v := ?_) rfl (by kernel_rfl) (by kernel_rfl) (by kernel_rfl) (fun _ _ _ h => h) (Or.inl ⟨by rfl, ?_⟩) (by assumption) ?_
      rotate_left
      · intro w9 hSw
        go_simp
        first | done | with_reducible rfl
      simp only [Act.put, List.setIfInBounds_toArray, List.set_cons_zero, List.set_cons_succ]
      refine take' 9 (v := ?_) rfl (by kernel_rfl) (by kernel_rfl) (by kernel_rfl) (fun _ _ _ h => h) (Or.inl ⟨by rfl, ?_⟩) (by assumption) ?_
      rotate_left
      · intro w9 hSw
        go_simp
        first | done | with_reducible rfl
      simp only [Act.put, List.setIfInBounds_toArray, List.set_cons_zero, List.set_cons_succ]
      refine wpAnyH_ready (rs := [10]) (by kernel_rfl) (by simp) ?_
      refine cons' rfl (fun KK hKK => ?_)
      go_simp
      refine (GS.out _ g1 g2 g3 g4).mono ?_
      rintro e w2 ⟨rfl, b2⟩
      have bC := b2
      replace hB := hB.trans (bC.mono hB.size)
      replace g1 := g1.later bC
      replace g2 := g2.later bC
      replace g3 := g3.later bC
      replace g4 := g4.later bC
      replace c0 := below_cell bC c0
      replace c1 := below_cell bC c1
      replace c2 := below_cell bC c2
      replace c3 := below_cell bC c3
      replace d0 := below_cell bC d0
      replace d1 := below_cell bC d1
      replace d2 := below_cell bC d2
      replace d3 := below_cell bC d3
      replace hHeld := (⟨below_cell bC hHeld.1, below_cell bC hHeld.2.1, below_cell bC hHeld.2.2.1, below_cell bC hHeld.2.2.2.1, below_cell bC hHeld.2.2.2.2.1, below_cell bC hHeld.2.2.2.2.2.1, below_cell bC hHeld.2.2.2.2.2.2.1, below_cell bC hHeld.2.2.2.2.2.2.2⟩ : _ ∧ _ ∧ _ ∧ _ ∧ _ ∧ _ ∧ _ ∧ _)
      clear bC
      go_wp2_with fail
      refine hKK.out _ _ hHeld ?_
      clear hHeld
      intro hHeld
      clear hKK KK
      try simp only [Act.put, List.setIfInBounds_toArray, List.set_cons_zero, List.set_cons_succ]
      refine take' 11 (v := ?_) rfl (by kernel_rfl) (by kernel_rfl) (by kernel_rfl) (fun _ _ _ h => h) (Or.inl ⟨by rfl, ?_⟩) (by assumption) ?_
      rotate_left
      · intro w9 hSw
        go_simp
        first | done | with_reducible rfl
      simp only [Act.put, List.setIfInBounds_toArray, List.set_cons_zero, List.set_cons_succ]
      refine wpAnyH_done (by kernel_rfl) ?_ _
      clear hHeld b2
      go_wp2_with fail
      have bD : Below w2.heap.size w2 w2.drew := (Below.refl _ _).drew
      have kc0 := below_cell bD c0
      have kc1 := below_cell bD c1
      have kc2 := below_cell bD c2
      have kc3 := below_cell bD c3
      have kd0 := below_cell bD d0
      have kd1 := below_cell bD d1
      have kd2 := below_cell bD d2
      have kd3 := below_cell bD d3
      replace hB := hB.trans (bD.mono hB.size)
      refine wp_region_held_drew (S := fun w' => w'.cell? ⟨b1, o1 + k * 4, none⟩ = some (.int .i64 x) ∧ w'.cell? ⟨b1, o1 + k * 4 + 1, none⟩ = some (.bool (ng r.num)) ∧ w'.cell? ⟨b1, o1 + k * 4 + 1 + 1, none⟩ = some (.slice pa (ln (am r.num)) (ln (am r.num))) ∧ w'.cell? ⟨b1, o1 + k * 4 + 1 + 2, none⟩ = some (.slice pb (ln r.den) (ln r.den)) ∧ w'.cell? ⟨b2, o2 + k * 4, none⟩ = some (.int .i64 x) ∧ w'.cell? ⟨b2, o2 + k * 4 + 1, none⟩ = some (.bool (ng r.num)) ∧ w'.cell? ⟨b2, o2 + k * 4 + 1 + 1, none⟩ = some (.slice qa (ln (am r.num)) (ln (am r.num))) ∧ w'.cell? ⟨b2, o2 + k * 4 + 1 + 2, none⟩ = some (.slice qb (ln r.den) (ln r.den))) (by kernel_rfl) ⟨kc0, kc1, kc2, kc3, kd0, kd1, kd2, kd3⟩ (fun hHeld => ?_)
      clear kc0 kc1 kc2 kc3 kd0 kd1 kd2 kd3
      generalize w2.drew = w5 at bD hB hHeld ⊢
      clear c0 c1 c2 c3 d0 d1 d2 d3
      refine take' 0 (v := ?_) rfl (by kernel_rfl) (by kernel_rfl) (by kernel_rfl) (fun _ _ _ h => h) (Or.inl ⟨by rfl, ?_⟩) (by assumption) ?_
      rotate_left
      · intro w9 hSw
        go_simp
        first | done | with_reducible rfl
      simp only [Act.put, List.setIfInBounds_toArray, List.set_cons_zero, List.set_cons_succ]
      refine take' 1 (v := ?_) rfl (by kernel_rfl) (by kernel_rfl) (by kernel_rfl) (fun _ _ _ h => h) (Or.inl ⟨by rfl, ?_⟩) (by assumption) ?_
      rotate_left
      · intro w9 hSw
        go_simp
        first | done | with_reducible rfl
      simp only [Act.put, List.setIfInBounds_toArray, List.set_cons_zero, List.set_cons_succ]
      refine take' 2 (v := ?_) rfl (by kernel_rfl) (by kernel_rfl) (by kernel_rfl) (fun _ _ _ h => h) (Or.inl ⟨by rfl, ?_⟩) (by assumption) ?_
      rotate_left
      · intro w9 hSw
        go_simp
        first | done | with_reducible rfl
      simp only [Act.put, List.setIfInBounds_toArray, List.set_cons_zero, List.set_cons_succ]
      refine take' 3 (v := ?_) rfl (by kernel_rfl) (by kernel_rfl) (by kernel_rfl) (fun _ _ _ h => h) (Or.inl ⟨by rfl, ?_⟩) (by assumption) ?_
      rotate_left
      · intro w9 hSw
        go_simp
        first | done | with_reducible rfl
      simp only [Act.put, List.setIfInBounds_toArray, List.set_cons_zero, List.set_cons_succ]
      refine take' 4 (v := ?_) rfl (by kernel_rfl) (by kernel_rfl) (by kernel_rfl) (fun _ _ _ h => h) (Or.inl ⟨by rfl, ?_⟩) (by assumption) ?_
      rotate_left
      · intro w9 hSw
        go_simp
        first | done | with_reducible rfl
      simp only [Act.put, List.setIfInBounds_toArray, List.set_cons_zero, List.set_cons_succ]
      refine take' 5 (v := ?_) rfl (by kernel_rfl) (by kernel_rfl) (by kernel_rfl) (fun _ _ _ h => h) (Or.inl ⟨by rfl, ?_⟩) (by assumption) ?_
      rotate_left
      · intro w9 hSw
        go_simp
        first | done | with_reducible rfl
      simp only [Act.put, List.setIfInBounds_toArray, List.set_cons_zero, List.set_cons_succ]
      refine take' 6 (v := ?_) rfl (by kernel_rfl) (by kernel_rfl) (by kernel_rfl) (fun _ _ _ h => h) (Or.inl ⟨by rfl, ?_⟩) (by assumption) ?_
      rotate_left
      · intro w9 hSw
        go_simp
        first | done | with_reducible rfl
      simp only [Act.put, List.setIfInBounds_toArray, List.set_cons_zero, List.set_cons_succ]
      refine take' 7 (v := ?_) rfl (by kernel_rfl) (by kernel_rfl) (by kernel_rfl) (fun _ _ _ h => h) (Or.inl ⟨by rfl, ?_⟩) (by assumption) ?_
      rotate_left
      · intro w9 hSw
        go_simp
        first | done | with_reducible rfl
      simp only [Act.put, List.setIfInBounds_toArray, List.set_cons_zero, List.set_cons_succ]
      refine take' 8 (v := ?_) rfl (by kernel_rfl) (by kernel_rfl) (by kernel_rfl) (fun _ _ _ h => h) (Or.inl ⟨by rfl, ?_⟩) (by assumption) ?_
      rotate_left
      · intro w9 hSw
        go_simp
        first | done | with_reducible rfl
      simp only [Act.put, List.setIfInBounds_toArray, List.set_cons_zero, List.set_cons_succ]
      refine take' 9 (v := ?_) rfl (by kernel_rfl) (by kernel_rfl) (by kernel_rfl) (fun _ _ _ h => h) (Or.inl ⟨by rfl, ?_⟩) (by assumption) ?_
      rotate_left
      · intro w9 hSw
        go_simp
        first | done | with_reducible rfl
      simp only [Act.put, List.setIfInBounds_toArray, List.set_cons_zero, List.set_cons_succ]
      refine take' 10 (v := ?_) rfl (by kernel_rfl) (by kernel_rfl) (by kernel_rfl) (fun _ _ _ h => h) (Or.inl ⟨by rfl, ?_⟩) (by assumption) ?_
      rotate_left
      · intro w9 hSw
        go_simp
        first | done | with_reducible rfl
      simp only [Act.put, List.setIfInBounds_toArray, List.set_cons_zero, List.set_cons_succ]
      refine take' 11 (v := ?_) rfl (by kernel_rfl) (by kernel_rfl) (by kernel_rfl) (fun _ _ _ h => h) (Or.inl ⟨by rfl, ?_⟩) (by assumption) ?_
      rotate_left
      · intro w9 hSw
        go_simp
        first | done | with_reducible rfl
      simp only [Act.put, List.setIfInBounds_toArray, List.set_cons_zero, List.set_cons_succ]
      refine take' 12 (v := ?_) rfl (by kernel_rfl) (by kernel_rfl) (by kernel_rfl) (fun _ _ _ h => h) (Or.inl ⟨by rfl, ?_⟩) (by assumption) ?_
      rotate_left
      · intro w9 hSw
        go_simp
        first | done | with_reducible rfl
      simp only [Act.put, List.setIfInBounds_toArray, List.set_cons_zero, List.set_cons_succ]
      refine take' 13 (v := ?_) rfl (by kernel_rfl) (by kernel_rfl) (by kernel_rfl) (fun _ _ _ h => h) (Or.inl ⟨by rfl, ?_⟩) (by assumption) ?_
      rotate_left
      · intro w9 hSw
        go_simp
        first | done | with_reducible rfl
      simp only [Act.put, List.setIfInBounds_toArray, List.set_cons_zero, List.set_cons_succ]
      refine take' 14 (v := ?_) rfl (by kernel_rfl) (by kernel_rfl) (by kernel_rfl) (fun _ _ _ h => h) (Or.inl ⟨by rfl, ?_⟩) (by assumption) ?_
      rotate_left
      · intro w9 hSw
        go_simp
        first | done | with_reducible rfl
      simp only [Act.put, List.setIfInBounds_toArray, List.set_cons_zero, List.set_cons_succ]
      refine wpAnyH_done (by kernel_rfl) ?_ _
      go_wp2
      go_roundw
      case rel => exact ⟨k + 1, by omega, by go_num, hB⟩
      case measure => simp [intOf]; omega
    · obtain rfl : k = L.length := by omega
      have i1 : ¬ (L.length : Int) < (L.length : Int) := by omega
      go_wp2
      go_ret
      exact ⟨rfl, hB⟩
end Go.Proofs.YthpakdmfbbmbiaaGreat

namespace Go.Proofs.YthpakdmfbbmbiaaGreat
open Go.RowKit
set_option linter.unusedVariables false
set_option linter.unusedSimpArgs false

theorem sz_add {r t : Rat} {N M : Nat} (h : sz N r) (k : sz M t) : sz (2 * N + 2 * M + 3) (r + t) := by
  have e : co 0 [(0, r), (0, t)] = r + t := by simp [co]; grind
  rw [← e]
  refine (co_sz 0 _).mono ?_
  simp only [wts, wt]
  have := h.1; have := h.2; have := k.1; have := k.2
  omega
theorem nrm_take {m : Fo} {M : Nat} (hm : nrm m) (h : ∀ y, sz M (co y m)) (hM : 1 ≤ M) (k : Nat) (x : Int) : sz M (co x (m.take k)) := by
  have hsub := List.take_sublist k m
  by_cases hx : ∃ p ∈ m.take k, p.1 = x
  · obtain ⟨p, hp, rfl⟩ := hx
    rw [(hm.sub hsub).co_mem hp, ← hm.co_mem (hsub.subset hp)]
    exact h _
  · rw [co_zero fun p hp e => hx ⟨p, hp, e⟩]
    exact sz_zero M hM
theorem fine_two {l m : Fo} {N M : Nat} (hl : ∀ k x, sz N (co x (l.take k))) (hm : nrm m) (h : ∀ y, sz M (co y m)) (hM : 1 ≤ M) (k : Nat) (x : Int) : sz (2 * N + 2 * M + 3) (co x ((l ++ m).take k)) := by
  rw [List.take_append, co_append]
  exact sz_add (hl k x) (nrm_take hm h hM _ x)
theorem ent_nsP {w : World} {R : List Mo} {l : Fo} {N : Nat} (hE : ∀ p ∈ R, Ent w p) (hR : fo R = nfm l) (hs : ∀ x, sz N (co x l)) : ∀ p ∈ R, p.2.n ≤ N ∧ p.2.m ≤ N := by
  intro p hp
  have h1 : (p.1, p.2.val) ∈ fo R := List.mem_map.2 ⟨p, hp, rfl⟩
  have h2 : co p.1 (fo R) = p.2.val := (show nrm (fo R) by rw [hR]; exact nfm_nrm l).co_mem h1
  rw [hR, nfm_co] at h2
  have h3 := hs p.1
  rw [h2] at h3
  obtain ⟨e1, e2⟩ := low_ns (hE p hp).low
  exact ⟨by rw [e1]; exact h3.1, by rw [e2]; exact h3.2⟩

set_option maxHeartbeats 8000000 in
set_option maxRecDepth 100000 in
theorem vlSubst_is (a : Option Addr) (ca : Nat) (L : List Mo) (D : RatV) (x : Int) (b : Option Addr) (cb : Nat) (G : List Mo) (E : RatV) (w : World) (hF : FAt w a L) (hok : ∀ p ∈ L, p.2.ok w ∧ p.2.n ≤ 1099511627776 ∧ p.2.m ≤ 1099511627776) (hc : L.length ≤ ca) (hm : L.length + G.length ≤ 1048576) (hD : D.ok w) (hb : bulkL L + D.n + D.m ≤ 4194304)
    (hG : FAt w b G) (hkG : ∀ p ∈ G, p.2.ok w) (hcG : G.length ≤ cb) (hE : E.ok w) (hbG : bulkL G + E.n + E.m ≤ 4194304) :
    Calls Tryz.prog 6 #[.agg #[.slice a L.length ca, .bool D.s, .slice D.a D.n D.c, .slice D.b D.m D.e], .int .i64 x, .agg #[.slice b G.length cb, .bool E.s, .slice E.a E.n E.c, .slice E.b E.m E.e]] w (AfAns w (nfm (fo (oth x L) ++ nfm (fmap (fun r => co x (fo L) * r) (fo G)))) (D.val + co x (fo L) * E.val)) := by
  obtain ⟨i0, hi0, hzi0, hzi1, hzi2⟩ := info_parts info_Mono
  have hs : sz 4194305 (co x (fo L)) := (co_sz x (fo L)).mono (by have := wts_bulk L (fun p hp => (hok p hp).1); omega)
  have G1 := hide' (fun w' (hb9 : Below w.heap.size w w') => vlCoef_is a ca L x w' (hF.later hb9) (fun p hp => And.intro ((hok p hp).1.later hb9) (hok p hp).2) hc (by omega) (by have := wts_bulk L (fun p hp => (hok p hp).1); omega))
  have hbo := bulkL_oth x L
  have hwo := Nat.le_trans (wts_bulk (oth x L) (fun p hp => (hok p (oth_mem hp)).1)) hbo
  have hmo : (oth x L).length ≤ L.length := List.length_filter_le _ _
  have hko := fun p hp => hok p (oth_mem (x := x) hp)
  have hkn : ∀ p ∈ G, p.2.n + p.2.m + 2 ≤ 4194304 + 2 := fun p hp => by have := bulkL_mem hp; omega
  have hwG := wts_bulk G hkG
  obtain ⟨r, hr⟩ : ∃ r, co x (fo L) = r := ⟨_, rfl⟩
  rw [hr] at hs G1 ⊢
  replace hr := hide' hr
  have hgs : ∀ y, sz 8388610 (co y (fmap (fun r9 => r * r9) (fo G))) := fun y => by rw [co_scale]; exact (sz_mul hs (co_sz y (fo G))).mono (by omega)
  obtain ⟨e1, e2⟩ := norm_sz hE
  have hsm : sz 274877906944 (r * E.val) := (sz_mul hs (show sz 100000010 E.val from ⟨by omega, by omega⟩)).mono (by omega)
  have HS := hide' (And.intro hs (And.intro hko (And.intro hwo (And.intro hmo (And.intro hb (And.intro hD (And.intro hG (And.intro hkG (And.intro hcG (And.intro hm (And.intro hkn (And.intro hE (And.intro hbG (And.intro hwG (And.intro hgs hsm)))))))))))))))
  clear hs hko hwo hmo hb hD hG hkG hcG hkn hE hbG hwG hgs hsm e1 e2 hbo hok
  replace hm : L.length ≤ 1048576 := by omega
  obtain ⟨TT, hTT⟩ : ∃ TT, AfAns w (nfm (fo (oth x L) ++ nfm (fmap (fun r9 => r * r9) (fo G)))) (D.val + r * E.val) = TT := ⟨_, rfl⟩
  rw [hTT]
  replace hTT := hide' hTT
  go_enter Tryz.func6, Tryz.ntmps6
  go_wp2_with fail
  obtain ⟨wA, hwA⟩ : ∃ wA, ((w.alloc (.cells #[.slice a L.length ca, .bool D.s, .slice D.a D.n D.c, .slice D.b D.m D.e] 31)).alloc (.cells #[.slice b G.length cb, .bool E.s, .slice E.a E.n E.c, .slice E.b E.m E.e] 31)).alloc (.cells #[.slice none 0 0, .bool false, .slice none 0 0, .slice none 0 0] 31) = wA := ⟨_, rfl⟩
  have hB : Below w.heap.size w wA := by subst hwA; exact ((below_alloc _).trans ((below_alloc _).mono (below_alloc _).size)).trans ((below_alloc _).mono ((below_alloc _).trans ((below_alloc _).mono (below_alloc _).size)).size)
  have rB : Four wA (w.heap.size + 1 + 1) (.slice none 0 0) (.bool false) (.slice none 0 0) (.slice none 0 0) := by subst hwA; exact ⟨⟨by go_simp, by go_simp, by go_simp, by go_simp⟩, by have h := row_new ((w.alloc (.cells #[.slice a L.length ca, .bool D.s, .slice D.a D.n D.c, .slice D.b D.m D.e] 31)).alloc (.cells #[.slice b G.length cb, .bool E.s, .slice E.a E.n E.c, .slice E.b E.m E.e] 31)) #[.slice none 0 0, .bool false, .slice none 0 0, .slice none 0 0] 31; rw [show ((w.alloc (.cells #[.slice a L.length ca, .bool D.s, .slice D.a D.n D.c, .slice D.b D.m D.e] 31)).alloc (.cells #[.slice b G.length cb, .bool E.s, .slice E.a E.n E.c, .slice E.b E.m E.e] 31)).heap.size = w.heap.size + 1 + 1 from (Array.size_push _).trans (congrArg (· + 1) (Array.size_push _))] at h; exact h⟩
  have d0 : wA.cell? ⟨w.heap.size, 0, none⟩ = some (.slice a L.length ca) := by subst hwA; go_simp
  have d1 : wA.cell? ⟨w.heap.size, 1, none⟩ = some (.bool D.s) := by subst hwA; go_simp
  have d2 : wA.cell? ⟨w.heap.size, 2, none⟩ = some (.slice D.a D.n D.c) := by subst hwA; go_simp
  have d3 : wA.cell? ⟨w.heap.size, 3, none⟩ = some (.slice D.b D.m D.e) := by subst hwA; go_simp
  have f0 : wA.cell? ⟨w.heap.size + 1, 0, none⟩ = some (.slice b G.length cb) := by subst hwA; go_simp
  have f1 : wA.cell? ⟨w.heap.size + 1, 1, none⟩ = some (.bool E.s) := by subst hwA; go_simp
  have f2 : wA.cell? ⟨w.heap.size + 1, 2, none⟩ = some (.slice E.a E.n E.c) := by subst hwA; go_simp
  have f3 : wA.cell? ⟨w.heap.size + 1, 3, none⟩ = some (.slice E.b E.m E.e) := by subst hwA; go_simp
  rw [hwA]
  clear hwA
  have hz1 : w.heap.size + 1 + 1 < wA.heap.size := rB.2.lt
  refine (G1.out _ hB).mono ?_
  rintro e w1 ⟨p, q, rfl, b1, g1, g2, _, _⟩
  replace d0 := below_cell b1 d0
  replace d1 := below_cell b1 d1
  replace d2 := below_cell b1 d2
  replace d3 := below_cell b1 d3
  replace f0 := below_cell b1 f0
  replace f1 := below_cell b1 f1
  replace f2 := below_cell b1 f2
  replace f3 := below_cell b1 f3
  replace rB := rB.later b1
  replace hz1 := Nat.lt_of_lt_of_le hz1 b1.size
  replace hB := hB.trans (b1.mono hB.size)
  clear b1
  obtain ⟨wE, hwE⟩ : ∃ wE, w1.alloc (.cells #[.bool (ng r.num), .slice p (ln (am r.num)) (ln (am r.num)), .slice q (ln r.den) (ln r.den)] 29) = wE := ⟨_, rfl⟩
  have bE : Below w1.heap.size w1 wE := by subst hwE; exact below_alloc _
  have hz3 := hz1
  have y0 : wE.cell? ⟨w1.heap.size, 0, none⟩ = some (.bool (ng r.num)) := by subst hwE; go_simp
  have y1 : wE.cell? ⟨w1.heap.size, 1, none⟩ = some (.slice p (ln (am r.num)) (ln (am r.num))) := by subst hwE; go_simp
  have y2 : wE.cell? ⟨w1.heap.size, 2, none⟩ = some (.slice q (ln r.den) (ln r.den)) := by subst hwE; go_simp
  replace d0 := below_cell bE d0
  replace d1 := below_cell bE d1
  replace d2 := below_cell bE d2
  replace d3 := below_cell bE d3
  replace f0 := below_cell bE f0
  replace f1 := below_cell bE f1
  replace f2 := below_cell bE f2
  replace f3 := below_cell bE f3
  replace rB := rB.later bE
  replace g1 := g1.later bE
  replace g2 := g2.later bE
  replace hz1 := Nat.lt_of_lt_of_le hz1 bE.size
  replace hB := hB.trans (bE.mono hB.size)
  clear bE
  have hFE := hF.later hB
  go_wp2_with fail
  clear hwE
  go_loopw [8, 9] (fun vt vi wr => ∃ k : Nat, k ≤ L.length ∧ vi = .int .i64 k ∧ RInv wE L x k vt wr) (fun _ vi _ => L.length - (intOf vi).toNat)
  case atStart => exact ⟨0, Nat.zero_le _, rfl, World.ownsRow_nil _ _ _ _, Below.refl _ _⟩
  case round =>
    obtain ⟨k, hk, rfl, hT, hBr⟩ := hrel
    have d0r := below_cell hBr d0
    by_cases hlt : k < L.length
    · obtain ⟨pk, hpk⟩ : ∃ p, L[k]? = some p := ⟨L[k], List.getElem?_eq_getElem hlt⟩
      obtain ⟨b9, off, rfl, hbb, hcell⟩ := hFE (by intro e; rw [e] at hlt; simp at hlt)
      obtain ⟨c0, c1, c2, c3⟩ := hcell k pk hpk
      replace c0 := below_cell hBr c0
      replace c1 := below_cell hBr c1
      replace c2 := below_cell hBr c2
      replace c3 := below_cell hBr c3
      obtain ⟨t1, t2⟩ := take_split hpk
      have hot : oth x (L.take (k + 1)) = oth x (L.take k) ++ (if pk.1 = x then [] else [pk]) := by rw [t1]; exact oth_snoc x _ _
      clear t1 t2 hpk hcell
      obtain ⟨y, q0⟩ := pk
      simp only at c0 c1 c2 c3 hot
      have i1 : (0 : Int) ≤ (k : Int) := by omega
      have i2 : (k : Int) < (L.length : Int) := by omega
      by_cases hyx : y = x
      · rw [if_pos hyx, List.append_nil] at hot
        have hyb : (y == x) = true := by simp [hyx]
        replace hT := hide' (show RInv wE L x (k + 1) u8 wr from ⟨by rw [hot]; exact hT, hBr⟩)
        clear hot hyx G1 HS
        go_wp2
        go_roundw
        case rel => exact ⟨k + 1, by omega, by go_num, hT.out⟩
        case measure => simp [intOf]; omega
      · rw [if_neg hyx] at hot
        have hyb : (y == x) = false := by simp [hyx]
        clear hyx G1 HS
        obtain ⟨wN, hwN⟩ : ∃ wN, wr.alloc (.cells #[.int .i64 y, .bool q0.s, .slice q0.a q0.n q0.c, .slice q0.b q0.m q0.e] 48) = wN := ⟨_, rfl⟩
        have hnew := heap_alloc_new wr (.cells #[.int .i64 y, .bool q0.s, .slice q0.a q0.n q0.c, .slice q0.b q0.m q0.e] 48)
        have b3 := below_alloc (w := wr) (.cells #[.int .i64 y, .bool q0.s, .slice q0.a q0.n q0.c, .slice q0.b q0.m q0.e] 48)
        rw [hwN] at hnew b3
        obtain ⟨R, hRR⟩ : ∃ R, oth x (L.take k) = R := ⟨_, rfl⟩
        rw [hRR] at hT hot
        have hRl : R.length ≤ k := by rw [← hRR]; unfold oth; exact Nat.le_trans (List.length_filter_le _ _) (by rw [List.length_take]; omega)
        replace hRR := hide' hRR
        have hT3 := own_below hT b3
        have hB3 := hBr.trans (b3.mono hBr.size)
        have s3 := b3.size
        have s4 := hBr.size
        have hbs : wE.heap.size ≤ wN.heap.size := by omega
        have hrowt := fun k hk => (hT.lt k hk)
        have hbl : (R.length + 1) * 64 ≤ 140737488355328 := by omega
        have hj1 : R.length + 1 ≤ maxLen := by simp only [maxLen]; omega
        go_wp2_with (at_builtin; (try rw [hwN]); refine wpList_append_lies _ (by rfl) _ _ _ (by rfl) wE.heap.size 48 i0 _ 4 64 Tryz.underlying23 hi0 hzi0 hzi1 hzi2 rfl (by omega) u8 R.length (cellsF R) (by rfl) hT3 ⟨wr.heap.size, 0, none⟩ 1 1 (cells4 (y, q0)) (by rfl) (by rfl) (World.news_of_block (cs := #[.int .i64 y, .bool q0.s, .slice q0.a q0.n q0.c, .slice q0.b q0.m q0.e]) (t := 48) (fr := (0, 0)) hnew) (cells4_one _) (by omega) hj1 hbl hbs wN.heap.size rfl ?_)
        intro gb cap w9 hown4 hgrow hat hlt4
        have I1 := hide' (show RInv wE L x (k + 1) (.slice (some ⟨gb, 0, none⟩) (R.length + 1) cap) w9 from ⟨by rw [hot]; exact own_push hown4, hB3.trans (below_grown hB3.size (fun k hk => (hrowt k hk).1) hgrow)⟩)
        clear hown4 hgrow hat hT hT3 hnew b3 hBr hB3 hrowt
        go_wp2
        go_roundw
        case rel => exact ⟨k + 1, by omega, by go_num, I1.out⟩
        case measure => simp [intOf]; omega
    · obtain rfl : k = L.length := by omega
      have i1 : ¬ (L.length : Int) < (L.length : Int) := by omega
      rw [List.take_length] at hT
      obtain ⟨a1, c1, rfl, s1⟩ := Sl.of hT
      clear hT
      replace hB := hB.trans (hBr.mono hB.size)
      replace rB := rB.later hBr
      replace g1 := g1.later hBr
      replace g2 := g2.later hBr
      replace hz1 := Nat.lt_of_lt_of_le hz1 hBr.size
      replace d0 := below_cell hBr d0
      replace d1 := below_cell hBr d1
      replace d2 := below_cell hBr d2
      replace d3 := below_cell hBr d3
      replace f0 := below_cell hBr f0
      replace f1 := below_cell hBr f1
      replace f2 := below_cell hBr f2
      replace f3 := below_cell hBr f3
      replace y0 := below_cell hBr y0
      replace y1 := below_cell hBr y1
      replace y2 := below_cell hBr y2
      clear d0r hBr
      obtain ⟨hs, hko, hwo, hmo, hb, hD, hG, hkG, hcG, hmm, hkn, hE, hbG, hwG, hgs, hsm⟩ := HS.out
      have hCo : (RatV.of r.num r.den p q).ok wr := ⟨g1, Nat.le_refl _, Nat.le_trans hs.1 (by omega), g2, Nat.le_refl _, Nat.le_trans hs.2 (by omega)⟩
      have hn1 : (RatV.of r.num r.den p q).n ≤ 4194305 := hs.1
      have hn2 : (RatV.of r.num r.den p q).m ≤ 4194305 := hs.2
      have hfi : fine (fmap (fun r9 => r * r9) (fo G)) := fine_scale hs (by omega)
      have G5 := hide' (fun w' (hb9 : Below wr.heap.size wr w') => vlScaleF_is (RatV.of r.num r.den p q) b cb G 20000000 w' ((hG.later hB).later hb9) (fun p hp => ((hkG p hp).later hB).later hb9) hcG (by omega) (hCo.later hb9) (fun p hp => by have := hkn p hp; omega) (by omega) (by omega) (fun k x => by rw [val_ofR]; have h := hfi 0 k x; rwa [List.drop_zero] at h))
      rw [val_ofR] at G5
      have G6 := hide' (fun w' (hb9 : Below wr.heap.size wr w') => vqMul_is (ng r.num) p (ln (am r.num)) (ln (am r.num)) (am r.num) q (ln r.den) (ln r.den) r.den E.s E.a E.n E.c E.X E.b E.m E.e E.Y (r * E.val).num (r * E.val).den w' (Nat.le_refl _) (Nat.le_trans hs.1 (by omega)) (g1.later hb9) (Nat.le_refl _) (Nat.le_trans hs.2 (by omega)) (g2.later hb9) hE.2.1 (by omega) ((hE.later hB).1.later hb9) hE.2.2.2.2.1 (by omega) ((hE.later hB).2.2.2.1.later hb9) (by have h := low_mul (RatV.of r.num r.den p q) E; rw [val_ofR] at h; exact h))
      obtain ⟨m, hm9⟩ : ∃ m, r * E.val = m := ⟨_, rfl⟩
      rw [hm9] at G6 hsm
      have G7 := hide' (fun w' (hb9 : Below wr.heap.size wr w') p6 q6 k1 k2 => vqAdd_is D.s D.a D.n D.c D.X D.b D.m D.e D.Y (ng m.num) p6 (ln (am m.num)) (ln (am m.num)) (am m.num) q6 (ln m.den) (ln m.den) m.den (D.val + m).num (D.val + m).den w' hD.2.1 (by omega) ((hD.later hB).1.later hb9) hD.2.2.2.2.1 (by omega) ((hD.later hB).2.2.2.1.later hb9) (Nat.le_refl _) (Nat.le_trans hsm.1 (by omega)) k1 (Nat.le_refl _) (Nat.le_trans hsm.2 (by omega)) k2 (by have h := low_add D (RatV.of m.num m.den p6 q6); rw [val_ofR] at h; exact h))
      obtain ⟨s, hs9⟩ : ∃ s, D.val + m = s := ⟨_, rfl⟩
      rw [hs9] at G7
      have G8 := hide' (fun w' (hb9 : Below wr.heap.size wr w') a5 c5 (R5 : List Mo) (s5 : Sl w' a5 c5 R5) (e5 : Ents w' R5) (f5 : fo R5 = nfm (fmap (fun r9 => r * r9) (fo G))) => vlAddF_is a1 c1 (oth x L) a5 c5 R5 w' (s1.later hb9) s5 (fun p hp => And.intro (((hko p hp).1.later hB).later hb9) (hko p hp).2) (fun p hp => And.intro (e5 p hp).ok (by have := ent_nsP e5 f5 hgs p hp; omega)) (by have h := nfm_length (fmap (fun r9 => r * r9) (fo G)); rw [← f5, fo_length, fmap_length, fo_length] at h; omega) (fun k y => (fine_two (N := 4194305) (M := 8388610) (fun k y => by rw [show (fo (oth x L)).take k = fo ((oth x L).take k) by unfold fo; rw [List.map_take]]; exact (co_sz y _).mono (by have := wts_take (oth x L) k; omega)) (by rw [f5]; exact nfm_nrm _) (fun y => by rw [f5, nfm_co]; exact hgs y) (by omega) k y).mono (by omega)))
      clear g1 g2 s1 hCo hn1 hn2 hs hko hwo hmo hb hD hG hkG hcG hmm hkn hE hbG hwG hgs hsm HS hfi G1 hFE
      have bW : Below wr.heap.size wr wr := Below.refl _ _
      go_wp2_with fail
      clear d0
      have bD : Below wr.heap.size wr wr.drew := (Below.refl _ _).drew
      have ky0 := below_cell bD y0
      have ky1 := below_cell bD y1
      have ky2 := below_cell bD y2
      have kd1 := below_cell bD d1
      have kd2 := below_cell bD d2
      have kd3 := below_cell bD d3
      have kf0 := below_cell bD f0
      have kf1 := below_cell bD f1
      have kf2 := below_cell bD f2
      have kf3 := below_cell bD f3
      replace bW := bW.trans (bD.mono bW.size)
      replace hB := hB.trans (bD.mono hB.size)
      replace rB := rB.later bD
      refine wp_region_held_drew (S := fun w' => w'.cell? ⟨w1.heap.size, 0, none⟩ = some (.bool (ng r.num)) ∧ w'.cell? ⟨w1.heap.size, 1, none⟩ = some (.slice p (ln (am r.num)) (ln (am r.num))) ∧ w'.cell? ⟨w1.heap.size, 2, none⟩ = some (.slice q (ln r.den) (ln r.den)) ∧ w'.cell? ⟨w.heap.size, 1, none⟩ = some (.bool D.s) ∧ w'.cell? ⟨w.heap.size, 2, none⟩ = some (.slice D.a D.n D.c) ∧ w'.cell? ⟨w.heap.size, 3, none⟩ = some (.slice D.b D.m D.e) ∧ w'.cell? ⟨w.heap.size + 1, 0, none⟩ = some (.slice b G.length cb) ∧ w'.cell? ⟨w.heap.size + 1, 1, none⟩ = some (.bool E.s) ∧ w'.cell? ⟨w.heap.size + 1, 2, none⟩ = some (.slice E.a E.n E.c) ∧ w'.cell? ⟨w.heap.size + 1, 3, none⟩ = some (.slice E.b E.m E.e)) (by kernel_rfl) ⟨ky0, ky1, ky2, kd1, kd2, kd3, kf0, kf1, kf2, kf3⟩ (fun hHeld => ?_)
      clear ky0 ky1 ky2 kd1 kd2 kd3 kf0 kf1 kf2 kf3
      generalize wr.drew = w0 at bD rB bW hB hHeld ⊢
      clear y0 y1 y2 d1 d2 d3 f0 f1 f2 f3
      refine take' 0 (v := ?_) rfl (by kernel_rfl) (by kernel_rfl) (by kernel_rfl) (fun _ _ _ h => h) (Or.inl ⟨by rfl, ?_⟩) (by assumption) ?_
      rotate_left
      · intro w9 hSw
        go_simp
        first | done | with_reducible rfl
      simp only [Act.put, List.setIfInBounds_toArray, List.set_cons_zero, List.set_cons_succ]
      refine take' 1 (v := ?_) rfl (by kernel_rfl) (by kernel_rfl) (by kernel_rfl) (fun _ _ _ h => h) (Or.inl ⟨by rfl, ?_⟩) (by assumption) ?_
      rotate_left
      · intro w9 hSw
        go_simp
        first | done | with_reducible rfl
      simp only [Act.put, List.setIfInBounds_toArray, List.set_cons_zero, List.set_cons_succ]
      refine take' 2 (v := ?_) rfl (by kernel_rfl) (by kernel_rfl) (by kernel_rfl) (fun _ _ _ h => h) (Or.inl ⟨by rfl, ?_⟩) (by assumption) ?_
      rotate_left
      · intro w9 hSw
        go_simp
        first | done | with_reducible rfl
      simp only [Act.put, List.setIfInBounds_toArray, List.set_cons_zero, List.set_cons_succ]
      refine take' 3 (v := ?_) rfl (by kernel_rfl) (by kernel_rfl) (by kernel_rfl) (fun _ _ _ h => h) (Or.inl ⟨by rfl, ?_⟩) (by assumption) ?_
      rotate_left
      · intro w9 hSw
        go_simp
        first | done | with_reducible rfl
      simp only [Act.put, List.setIfInBounds_toArray, List.set_cons_zero, List.set_cons_succ]
      refine take' 6 (v := ?_) rfl (by kernel_rfl) (by kernel_rfl) (by kernel_rfl) (fun _ _ _ h => h) (Or.inl ⟨by rfl, ?_⟩) (by assumption) ?_
      rotate_left
      · intro w9 hSw
        go_simp
        first | done | with_reducible rfl
      simp only [Act.put, List.setIfInBounds_toArray, List.set_cons_zero, List.set_cons_succ]
      refine take' 7 (v := ?_) rfl (by kernel_rfl) (by kernel_rfl) (by kernel_rfl) (fun _ _ _ h => h) (Or.inl ⟨by rfl, ?_⟩) (by assumption) ?_
      rotate_left
      · intro w9 hSw
        go_simp
        first | done | with_reducible rfl
      simp only [Act.put, List.setIfInBounds_toArray, List.set_cons_zero, List.set_cons_succ]
      refine take' 8 (v := ?_) rfl (by kernel_rfl) (by kernel_rfl) (by kernel_rfl) (fun _ _ _ h => h) (Or.inl ⟨by rfl, ?_⟩) (by assumption) ?_
      rotate_left
      · intro w9 hSw
        go_simp
        first | done | with_reducible rfl
      simp only [Act.put, List.setIfInBounds_toArray, List.set_cons_zero, List.set_cons_succ]
      refine take' 9 (v := ?_) rfl (by kernel_rfl) (by kernel_rfl) (by kernel_rfl) (fun _ _ _ h => h) (Or.inl ⟨by rfl, ?_⟩) (by assumption) ?_
      rotate_left
      · intro w9 hSw
        go_simp
        first | done | with_reducible rfl
      simp only [Act.put, List.setIfInBounds_toArray, List.set_cons_zero, List.set_cons_succ]
      refine take' 10 (v := ?_) rfl (by kernel_rfl) (by kernel_rfl) (by kernel_rfl) (fun _ _ _ h => h) (Or.inl ⟨by rfl, ?_⟩) (by assumption) ?_
      rotate_left
      · intro w9 hSw
        go_simp
        first | done | with_reducible rfl
      simp only [Act.put, List.setIfInBounds_toArray, List.set_cons_zero, List.set_cons_succ]
      refine wpAnyH_ready (rs := [4]) (by kernel_rfl) (by simp) ?_
      refine cons' rfl (fun KK hKK => ?_)
      go_simp
      refine (G5.out _ bW).mono ?_
      rintro e w5 ⟨a5, c5, R5, rfl, b5, s5, e5, f5⟩
      have bC := b5
      replace bW := bW.trans (bC.mono bW.size)
      replace hB := hB.trans (bC.mono hB.size)
      replace rB := rB.later bC
      replace hHeld := (⟨below_cell bC hHeld.1, below_cell bC hHeld.2.1, below_cell bC hHeld.2.2.1, below_cell bC hHeld.2.2.2.1, below_cell bC hHeld.2.2.2.2.1, below_cell bC hHeld.2.2.2.2.2.1, below_cell bC hHeld.2.2.2.2.2.2.1, below_cell bC hHeld.2.2.2.2.2.2.2.1, below_cell bC hHeld.2.2.2.2.2.2.2.2.1, below_cell bC hHeld.2.2.2.2.2.2.2.2.2⟩ : _ ∧ _ ∧ _ ∧ _ ∧ _ ∧ _ ∧ _ ∧ _ ∧ _ ∧ _)
      clear bC
      go_wp2_with fail
      have E5 : Ents w5 R5 := e5
      clear e5 b5
      refine hKK.out _ _ hHeld ?_
      clear hHeld
      intro hHeld
      clear hKK KK
      try simp only [Act.put, List.setIfInBounds_toArray, List.set_cons_zero, List.set_cons_succ]
      refine wpAnyH_ready (rs := [5]) (by kernel_rfl) (by simp) ?_
      refine cons' rfl (fun KK hKK => ?_)
      go_simp
      refine (G8.out _ bW a5 c5 R5 s5 E5 f5).mono ?_
      rintro e w6 ⟨a6, c6, R6, rfl, b6, s6, e6, f6⟩
      have bC := b6
      replace bW := bW.trans (bC.mono bW.size)
      replace hB := hB.trans (bC.mono hB.size)
      replace rB := rB.later bC
      replace s5 := s5.later bC
      replace E5 := E5.later bC
      replace hHeld := (⟨below_cell bC hHeld.1, below_cell bC hHeld.2.1, below_cell bC hHeld.2.2.1, below_cell bC hHeld.2.2.2.1, below_cell bC hHeld.2.2.2.2.1, below_cell bC hHeld.2.2.2.2.2.1, below_cell bC hHeld.2.2.2.2.2.2.1, below_cell bC hHeld.2.2.2.2.2.2.2.1, below_cell bC hHeld.2.2.2.2.2.2.2.2.1, below_cell bC hHeld.2.2.2.2.2.2.2.2.2⟩ : _ ∧ _ ∧ _ ∧ _ ∧ _ ∧ _ ∧ _ ∧ _ ∧ _ ∧ _)
      clear bC
      go_wp2_with fail
      have E6 : Ents w6 R6 := e6
      clear e6 b6 s5 E5
      refine hKK.out _ _ hHeld ?_
      clear hHeld
      intro hHeld
      clear hKK KK
      try simp only [Act.put, List.setIfInBounds_toArray, List.set_cons_zero, List.set_cons_succ]
      refine wpAnyH_ready (rs := [11]) (by kernel_rfl) (by simp) ?_
      refine cons' rfl (fun KK hKK => ?_)
      go_simp
      refine (G6.out _ bW).mono ?_
      rintro e w7 ⟨p7, q7, rfl, n6, n7⟩
      have bC := n6.below
      replace bW := bW.trans (bC.mono bW.size)
      replace hB := hB.trans (bC.mono hB.size)
      replace rB := rB.later bC
      replace s6 := s6.later bC
      replace E6 := E6.later bC
      replace hHeld := (⟨below_cell bC hHeld.1, below_cell bC hHeld.2.1, below_cell bC hHeld.2.2.1, below_cell bC hHeld.2.2.2.1, below_cell bC hHeld.2.2.2.2.1, below_cell bC hHeld.2.2.2.2.2.1, below_cell bC hHeld.2.2.2.2.2.2.1, below_cell bC hHeld.2.2.2.2.2.2.2.1, below_cell bC hHeld.2.2.2.2.2.2.2.2.1, below_cell bC hHeld.2.2.2.2.2.2.2.2.2⟩ : _ ∧ _ ∧ _ ∧ _ ∧ _ ∧ _ ∧ _ ∧ _ ∧ _ ∧ _)
      clear bC
      go_wp2_with fail
      have g6 := n6.seg
      have g7 := n7.seg
      clear n6 n7
      refine hKK.out _ _ hHeld ?_
      clear hHeld
      intro hHeld
      clear hKK KK
      try simp only [Act.put, List.setIfInBounds_toArray, List.set_cons_zero, List.set_cons_succ]
      refine wpAnyH_ready (rs := [12]) (by kernel_rfl) (by simp) ?_
      refine cons' rfl (fun KK hKK => ?_)
      go_simp
      refine (G7.out _ bW p7 q7 g6 g7).mono ?_
      rintro e w8 ⟨p8, q8, rfl, n8, n9⟩
      have bC := n8.below
      replace bW := bW.trans (bC.mono bW.size)
      replace hB := hB.trans (bC.mono hB.size)
      replace rB := rB.later bC
      replace s6 := s6.later bC
      replace E6 := E6.later bC
      replace g6 := g6.later bC
      replace g7 := g7.later bC
      replace hHeld := (⟨below_cell bC hHeld.1, below_cell bC hHeld.2.1, below_cell bC hHeld.2.2.1, below_cell bC hHeld.2.2.2.1, below_cell bC hHeld.2.2.2.2.1, below_cell bC hHeld.2.2.2.2.2.1, below_cell bC hHeld.2.2.2.2.2.2.1, below_cell bC hHeld.2.2.2.2.2.2.2.1, below_cell bC hHeld.2.2.2.2.2.2.2.2.1, below_cell bC hHeld.2.2.2.2.2.2.2.2.2⟩ : _ ∧ _ ∧ _ ∧ _ ∧ _ ∧ _ ∧ _ ∧ _ ∧ _ ∧ _)
      clear bC
      go_wp2_with fail
      have g8 := n8.seg
      have g9 := n9.seg
      clear n8 n9 g6 g7
      refine hKK.out _ _ hHeld ?_
      clear hHeld
      intro hHeld
      clear hKK KK
      try simp only [Act.put, List.setIfInBounds_toArray, List.set_cons_zero, List.set_cons_succ]
      refine take' 13 (v := ?_) rfl (by kernel_rfl) (by kernel_rfl) (by kernel_rfl) (fun _ _ _ h => h) (Or.inl ⟨by rfl, ?_⟩) (by assumption) ?_
      rotate_left
      · intro w9 hSw
        go_simp
        first | done | with_reducible rfl
      simp only [Act.put, List.setIfInBounds_toArray, List.set_cons_zero, List.set_cons_succ]
      refine wpAnyH_ready (rs := [14]) (by kernel_rfl) (by simp) ?_
      refine cons' rfl (fun KK hKK => ?_)
      have fz := fun o => rB.2.frozen o
      have z0 := rB.1.1
      have z1 := rB.1.2.1
      have z2 := rB.1.2.2.1
      have z3 := rB.1.2.2.2
      replace g8 := rB.seg (u0 := .slice a6 R6.length c6) (u1 := .bool (ng s.num)) (u2 := .slice p8 (ln (am s.num)) (ln (am s.num))) (u3 := .slice q8 (ln s.den) (ln s.den)) (by simp) (by simp) (by simp) (by simp) g8
      replace g9 := rB.seg (u0 := .slice a6 R6.length c6) (u1 := .bool (ng s.num)) (u2 := .slice p8 (ln (am s.num)) (ln (am s.num))) (u3 := .slice q8 (ln s.den) (ln s.den)) (by simp) (by simp) (by simp) (by simp) g9
      have s7 : Sl _ a6 c6 R6 := ⟨rB.fat (u0 := .slice a6 R6.length c6) (u1 := .bool (ng s.num)) (u2 := .slice p8 (ln (am s.num)) (ln (am s.num))) (u3 := .slice q8 (ln s.den) (ln s.den)) (by simp) (by simp) (by simp) (by simp) s6.lies, s6.len, s6.nn⟩
      have E7 : Ents _ R6 := fun p hp => rB.ok (u0 := .slice a6 R6.length c6) (u1 := .bool (ng s.num)) (u2 := .slice p8 (ln (am s.num)) (ln (am s.num))) (u3 := .slice q8 (ln s.den) (ln s.den)) (by simp) (by simp) (by simp) (by simp) (E6 p hp)
      replace hB := below_set4 (u0 := .slice a6 R6.length c6) (u1 := .bool (ng s.num)) (u2 := .slice p8 (ln (am s.num)) (ln (am s.num))) (u3 := .slice q8 (ln s.den) (ln s.den)) hB (show w.heap.size ≤ w.heap.size + 1 + 1 by omega)
      have hH2 := (⟨(set4_far (w := w8) (c := w.heap.size + 1 + 1) (b := w1.heap.size) (o := 0) (u0 := .slice a6 R6.length c6) (u1 := .bool (ng s.num)) (u2 := .slice p8 (ln (am s.num)) (ln (am s.num))) (u3 := .slice q8 (ln s.den) (ln s.den)) (by omega)).trans hHeld.1, (set4_far (w := w8) (c := w.heap.size + 1 + 1) (b := w1.heap.size) (o := 1) (u0 := .slice a6 R6.length c6) (u1 := .bool (ng s.num)) (u2 := .slice p8 (ln (am s.num)) (ln (am s.num))) (u3 := .slice q8 (ln s.den) (ln s.den)) (by omega)).trans hHeld.2.1, (set4_far (w := w8) (c := w.heap.size + 1 + 1) (b := w1.heap.size) (o := 2) (u0 := .slice a6 R6.length c6) (u1 := .bool (ng s.num)) (u2 := .slice p8 (ln (am s.num)) (ln (am s.num))) (u3 := .slice q8 (ln s.den) (ln s.den)) (by omega)).trans hHeld.2.2.1, (set4_far (w := w8) (c := w.heap.size + 1 + 1) (b := w.heap.size) (o := 1) (u0 := .slice a6 R6.length c6) (u1 := .bool (ng s.num)) (u2 := .slice p8 (ln (am s.num)) (ln (am s.num))) (u3 := .slice q8 (ln s.den) (ln s.den)) (by omega)).trans hHeld.2.2.2.1, (set4_far (w := w8) (c := w.heap.size + 1 + 1) (b := w.heap.size) (o := 2) (u0 := .slice a6 R6.length c6) (u1 := .bool (ng s.num)) (u2 := .slice p8 (ln (am s.num)) (ln (am s.num))) (u3 := .slice q8 (ln s.den) (ln s.den)) (by omega)).trans hHeld.2.2.2.2.1, (set4_far (w := w8) (c := w.heap.size + 1 + 1) (b := w.heap.size) (o := 3) (u0 := .slice a6 R6.length c6) (u1 := .bool (ng s.num)) (u2 := .slice p8 (ln (am s.num)) (ln (am s.num))) (u3 := .slice q8 (ln s.den) (ln s.den)) (by omega)).trans hHeld.2.2.2.2.2.1, (set4_far (w := w8) (c := w.heap.size + 1 + 1) (b := w.heap.size + 1) (o := 0) (u0 := .slice a6 R6.length c6) (u1 := .bool (ng s.num)) (u2 := .slice p8 (ln (am s.num)) (ln (am s.num))) (u3 := .slice q8 (ln s.den) (ln s.den)) (by omega)).trans hHeld.2.2.2.2.2.2.1, (set4_far (w := w8) (c := w.heap.size + 1 + 1) (b := w.heap.size + 1) (o := 1) (u0 := .slice a6 R6.length c6) (u1 := .bool (ng s.num)) (u2 := .slice p8 (ln (am s.num)) (ln (am s.num))) (u3 := .slice q8 (ln s.den) (ln s.den)) (by omega)).trans hHeld.2.2.2.2.2.2.2.1, (set4_far (w := w8) (c := w.heap.size + 1 + 1) (b := w.heap.size + 1) (o := 2) (u0 := .slice a6 R6.length c6) (u1 := .bool (ng s.num)) (u2 := .slice p8 (ln (am s.num)) (ln (am s.num))) (u3 := .slice q8 (ln s.den) (ln s.den)) (by omega)).trans hHeld.2.2.2.2.2.2.2.2.1, (set4_far (w := w8) (c := w.heap.size + 1 + 1) (b := w.heap.size + 1) (o := 3) (u0 := .slice a6 R6.length c6) (u1 := .bool (ng s.num)) (u2 := .slice p8 (ln (am s.num)) (ln (am s.num))) (u3 := .slice q8 (ln s.den) (ln s.den)) (by omega)).trans hHeld.2.2.2.2.2.2.2.2.2⟩ : _ ∧ _ ∧ _ ∧ _ ∧ _ ∧ _ ∧ _ ∧ _ ∧ _ ∧ _)
      have rD := rB.put (u0 := .slice a6 R6.length c6) (u1 := .bool (ng s.num)) (u2 := .slice p8 (ln (am s.num)) (ln (am s.num))) (u3 := .slice q8 (ln s.den) (ln s.den))
      go_simp
      clear z0 z1 z2 z3 fz rB s6 E6
      refine hKK.out _ _ hH2 ?_
      clear hHeld
      intro hHeld
      clear hKK KK
      try simp only [Act.put, List.setIfInBounds_toArray, List.set_cons_zero, List.set_cons_succ]
      clear hH2
      try unfold set4 at g8
      try unfold set4 at g9
      try unfold set4 at s7
      try unfold set4 at E7
      try unfold set4 at rD
      try unfold set4 at hB
      try unfold set4 at hHeld
      generalize ((((w8.setCell ⟨w.heap.size + 1 + 1, 0, none⟩ (.slice a6 R6.length c6)).setCell ⟨w.heap.size + 1 + 1, 1, none⟩ (.bool (ng s.num))).setCell ⟨w.heap.size + 1 + 1, 2, none⟩ (.slice p8 (ln (am s.num)) (ln (am s.num)))).setCell ⟨w.heap.size + 1 + 1, 3, none⟩ (.slice q8 (ln s.den) (ln s.den))) = w9 at g8 g9 s7 E7 rD hB hHeld ⊢
      refine wpAnyH_done (by kernel_rfl) ?_ _
      obtain ⟨⟨v0, v1, v2, v3⟩, vR⟩ := rD
      go_wp2
      refine bodyPost_ret (v := .agg #[.slice a6 R6.length c6, .bool (ng s.num), .slice p8 (ln (am s.num)) (ln (am s.num)), .slice q8 (ln s.den) (ln s.den)]) (by rw [results_cell rfl]; go_simp) rfl ?_
      rw [← hTT.out, hm9, hs9]
      exact ⟨a6, c6, R6, p8, q8, rfl, hB, s7, E7, by rw [f6, f5], g8, g9⟩
end Go.Proofs.YthpakdmfbbmbiaaGreat

namespace Go.Proofs.YthpakdmfbbmbiaaGreat
open Go.ChangeShapes Go.WideShapes Go.ChangeAt Go.RowKit Go.Deep
set_option linter.unusedVariables false

/-- a form that came in, as a list of parts -/
def mos (v : Nat → Int) (f : Nat → RatV) (n : Nat) : List Mo := (List.range n).map fun i => (v i, f i)
theorem mos_length (v : Nat → Int) (f : Nat → RatV) (n : Nat) : (mos v f n).length = n := by unfold mos; rw [List.length_map, List.length_range]
theorem mos_mem {v : Nat → Int} {f : Nat → RatV} {n : Nat} {p : Mo} (h : p ∈ mos v f n) : ∃ i, i < n ∧ p = (v i, f i) := by
  obtain ⟨i, hi, rfl⟩ := List.mem_map.1 h
  exact ⟨i, List.mem_range.1 hi, rfl⟩
theorem mos_at {w : World} {a : Option Addr} {n : Nat} {v : Nat → Int} {f : Nat → RatV} (h : FormAt w a n v f) : FAt w a (mos v f n) := fun hn => by
  have h0 : 0 < n := by
    rcases Nat.eq_zero_or_pos n with e | e
    · subst e; exact absurd rfl hn
    · exact e
  obtain ⟨b, off, e, hl, hc⟩ := h h0
  refine ⟨b, off, e, hl, fun i p hi => ?_⟩
  unfold mos at hi
  rw [List.getElem?_map] at hi
  have hin : i < n := by
    rcases Nat.lt_or_ge i n with h1 | h1
    · exact h1
    · rw [List.getElem?_eq_none (by rw [List.length_range]; exact h1)] at hi; cases hi
  rw [List.getElem?_range hin] at hi
  obtain rfl := Option.some.inj hi
  exact hc i hin
theorem bulk_at {q : Nat → RatV} : ∀ (n i : Nat), i < n → (q i).n + (q i).m + n ≤ bulkV q n
  | 0, i, h => absurd h (by omega)
  | n + 1, i, h => by
    simp only [bulkV]
    rcases Nat.lt_or_ge i n with h1 | h1
    · have := bulk_at (q := q) n i h1
      omega
    · obtain rfl : i = n := by omega
      have : i ≤ bulkV q i := by
        clear h h1
        induction i with
        | zero => exact Nat.zero_le _
        | succ i ih => simp only [bulkV]; omega
      omega
theorem bulk_n {q : Nat → RatV} : ∀ (n : Nat), n ≤ bulkV q n
  | 0 => Nat.zero_le _
  | n + 1 => by have := bulk_n (q := q) n; simp only [bulkV]; omega
end Go.Proofs.YthpakdmfbbmbiaaGreat

namespace Go.Proofs.YthpakdmfbbmbiaaGreat
open Go.ChangeShapes Go.WideShapes Go.ChangeAt Go.RowKit Go.Deep
set_option linter.unusedVariables false

theorem cells_Affine : Tryz.prog.cellsOf 31 = 4 := by kernel_rfl
theorem cells_Form : Tryz.prog.cellsOf 23 = 1 := by kernel_rfl

set_option maxRecDepth 100000 in
theorem open_Affine {H : Type} {enc : TypeId × Value → H} {W : World} {r : Reach} {b0 : Nat} {v : Value} {d : DataW H} {p : List MemPlace}
    (hv : Value.okWide Tryz.prog W r b0 31 v) (h : DataW.Trod enc Tryz.prog W 0 (fun _ => true) true 31 v d p)
    (hsz : (d.weights Tryz.prog 31).all (· ≤ reachBytes) = true) :
    ∃ a len cap k q, ∃ Q : RatV, v = .agg #[.slice a len cap, .bool Q.s, .slice Q.a Q.n Q.c, .slice Q.b Q.m Q.e] ∧ FormAt W a len k q ∧ (∀ i, i < len → (Lit.int .i64 (k i)).wf = true ∧ (q i).ok W) ∧ len ≤ cap ∧ Q.ok W ∧ bulkV q len + Q.n + Q.m + 1 ≤ Rows.uptoBulk d := by
  obtain ⟨cs, rfl, hcs⟩ := okWide_struct Tryz.underlying31 hv
  obtain ⟨fuel, hf⟩ := h
  obtain ⟨y0, y1, n, hx, hl, h0, h1⟩ := trod_struct2 Tryz.underlying31 hf
  rw [cells_Affine] at hcs
  obtain ⟨c0, c1, c2, c3, rfl⟩ : ∃ c0 c1 c2 c3, cs = #[c0, c1, c2, c3] := by
    match cs, hcs with
    | ⟨[c0, c1, c2, c3]⟩, _ => exact ⟨c0, c1, c2, c3, rfl⟩
  simp only [Value.cells, List.drop_zero, cells_Rat, cells_Form] at h0 h1
  change DataW.trod enc _ _ _ _ _ n 23 [c0] = _ at h0
  change DataW.trod enc _ _ _ _ _ n 29 [c1, c2, c3] = _ at h1
  simp only [Prod.mk.injEq] at hx
  obtain ⟨rfl, rfl⟩ := hx
  obtain ⟨y0d, y0p⟩ := y0
  obtain ⟨y1d, y1p⟩ := y1
  have hu := Tryz.underlying31
  simp only [DataW.weights, hu, DataW.weightsEach, List.map] at hsz
  simp only [List.all_append, Bool.and_eq_true] at hsz
  obtain ⟨a, len, cap, k, q, hc0, hF, hok, hcap, _, hb0⟩ := open_Form h0 hsz.1
  obtain ⟨Q, rfl, rfl, rfl, hQ, hb1⟩ := open_Rat3 h1 hsz.2.1
  simp only [List.cons.injEq, and_true] at hc0
  subst hc0
  exact ⟨a, len, cap, k, q, Q, rfl, hF, hok, hcap, hQ, by simp only [Rows.uptoBulk, Rows.uptoBulkAll] at hb0 hb1 ⊢; omega⟩
end Go.Proofs.YthpakdmfbbmbiaaGreat

namespace Go.Proofs.YthpakdmfbbmbiaaGreat
open Go.RowKit
set_option linter.unusedVariables false
set_option linter.unusedSimpArgs false

set_option maxHeartbeats 4000000 in
set_option maxRecDepth 100000 in
theorem SameAffine_is (a : Option Addr) (ca : Nat) (L : List Mo) (b : Option Addr) (cb : Nat) (M : List Mo) (Z : Int) (V : Nat) (p q p1 q1 : Option Addr) (w : World) (hF : FAt w a L) (hG : FAt w b M) (hE : ∀ p ∈ L, Ent w p) (hE2 : ∀ p ∈ M, Ent w p) (hca : L.length ≤ ca) (hcb : M.length ≤ cb) (hm : L.length ≤ 2097152) (hfo : fo L = fo M)
    (h1 : ln (am Z) ≤ 70368744177664) (h2 : ln V ≤ 70368744177664) (hS : Seg w p (am Z) (ln (am Z))) (hT : Seg w q V (ln V)) (hS1 : Seg w p1 (am Z) (ln (am Z))) (hT1 : Seg w q1 V (ln V)) :
    Calls Tryz.prog 4 #[.agg #[.slice a L.length ca, .bool (ng Z), .slice p (ln (am Z)) (ln (am Z)), .slice q (ln V) (ln V)], .agg #[.slice b M.length cb, .bool (ng Z), .slice p1 (ln (am Z)) (ln (am Z)), .slice q1 (ln V) (ln V)]] w fun e w' => e = .returned (.bool true) ∧ Below w.heap.size w w' := by
  have G1 := hide' (fun w' (hb9 : Below w.heap.size w w') => SameForm_is a ca L b cb M w' (hF.later hb9) (hG.later hb9) ((show Ents w L from hE).later hb9) ((show Ents w M from hE2).later hb9) hca hcb hm hfo)
  have G2 := hide' (fun w' (hb9 : Below w.heap.size w w') => SameRat_is Z V p q p1 q1 w' h1 h2 (hS.later hb9) (hT.later hb9) (hS1.later hb9) (hT1.later hb9))
  clear hF hG hE hE2 hca hcb hm hfo h1 h2 hS hT hS1 hT1
  go_enter Tryz.func4, Tryz.ntmps4
  go_wp2_with fail
  obtain ⟨wA, hwA⟩ : ∃ wA, (w.alloc (.cells #[.slice a L.length ca, .bool (ng Z), .slice p (ln (am Z)) (ln (am Z)), .slice q (ln V) (ln V)] 31)).alloc (.cells #[.slice b M.length cb, .bool (ng Z), .slice p1 (ln (am Z)) (ln (am Z)), .slice q1 (ln V) (ln V)] 31) = wA := ⟨_, rfl⟩
  have hB : Below w.heap.size w wA := by subst hwA; exact (below_alloc _).trans ((below_alloc _).mono (below_alloc _).size)
  have d0 : wA.cell? ⟨w.heap.size, 0, none⟩ = some (.slice a L.length ca) := by subst hwA; go_simp
  have d1 : wA.cell? ⟨w.heap.size, 1, none⟩ = some (.bool (ng Z)) := by subst hwA; go_simp
  have d2 : wA.cell? ⟨w.heap.size, 2, none⟩ = some (.slice p (ln (am Z)) (ln (am Z))) := by subst hwA; go_simp
  have d3 : wA.cell? ⟨w.heap.size, 3, none⟩ = some (.slice q (ln V) (ln V)) := by subst hwA; go_simp
  have f0 : wA.cell? ⟨w.heap.size + 1, 0, none⟩ = some (.slice b M.length cb) := by subst hwA; go_simp
  have f1 : wA.cell? ⟨w.heap.size + 1, 1, none⟩ = some (.bool (ng Z)) := by subst hwA; go_simp
  have f2 : wA.cell? ⟨w.heap.size + 1, 2, none⟩ = some (.slice p1 (ln (am Z)) (ln (am Z))) := by subst hwA; go_simp
  have f3 : wA.cell? ⟨w.heap.size + 1, 3, none⟩ = some (.slice q1 (ln V) (ln V)) := by subst hwA; go_simp
  rw [hwA]
  clear hwA
  refine (G1.out _ hB).mono ?_
  rintro e w1 ⟨rfl, b1⟩
  replace d1 := below_cell b1 d1
  replace d2 := below_cell b1 d2
  replace d3 := below_cell b1 d3
  replace f1 := below_cell b1 f1
  replace f2 := below_cell b1 f2
  replace f3 := below_cell b1 f3
  replace hB := hB.trans (b1.mono hB.size)
  go_wp2_with fail
  refine (G2.out _ hB).mono ?_
  rintro e w2 ⟨rfl, b2⟩
  go_wp2
  go_ret
  exact ⟨rfl, hB.trans (b2.mono hB.size)⟩
/-- what both Solves tell -/
def SolB (w : World) (l : Fo) (Z : Int) (V : Nat) (er : Int) (e : Ending) (w' : World) : Prop :=
  ∃ a c R p q, e = .returned (.tuple #[.agg #[.slice a (R : List Mo).length c, .bool (ng Z), .slice p (ln (am Z)) (ln (am Z)), .slice q (ln V) (ln V)], .int .i64 er]) ∧ Below w.heap.size w w' ∧
    Sl w' a c R ∧ (∀ p ∈ R, Ent w' p) ∧ fo R = l ∧ Seg w' p (am Z) (ln (am Z)) ∧ Seg w' q V (ln V)
theorem solB_zero {w w' : World} {e : Ending} (h : e = .returned (.tuple #[.agg #[.slice none 0 0, .bool false, .slice none 0 0, .slice none 0 0], .int .i64 61]) ∧ Below w.heap.size w w') : SolB w [] 0 0 61 e w' := by
  obtain ⟨rfl, hb⟩ := h
  have e0 : ln 0 = 0 := ln_zero
  refine ⟨none, 0, [], none, none, ?_, hb, ⟨FAt.nil _ _, Nat.le_refl _, fun _ => rfl⟩, fun p hp => absurd hp (by simp), rfl, ?_, ?_⟩
  · rw [show am 0 = 0 from rfl, e0]; rfl
  · rw [show am 0 = 0 from rfl, e0]; exact Seg.nil _ _
  · rw [e0]; exact Seg.nil _ _
theorem solves (a : Option Addr) (ca : Nat) (L : List Mo) (D : RatV) (x : Int) (w : World) (hF : FAt w a L) (hok : ∀ p ∈ L, p.2.ok w ∧ p.2.n ≤ 4194304 ∧ p.2.m ≤ 4194304) (hc : L.length ≤ ca) (hm : L.length ≤ 1048576) (hD : D.ok w) (hb : bulkL L + D.n + D.m ≤ 4194304) :
    ∃ (l : Fo) (Z : Int) (V : Nat) (er : Int), ln (am Z) ≤ 70368744177664 ∧ ln V ≤ 70368744177664 ∧ l.length ≤ 1048576 ∧
      (∀ w', Below w.heap.size w w' → Calls Tryz.prog 7 #[.agg #[.slice a L.length ca, .bool D.s, .slice D.a D.n D.c, .slice D.b D.m D.e], .int .i64 x] w' (SolB w' l Z V er)) ∧
      ∀ w', Below w.heap.size w w' → Calls Tryz.prog 8 #[.agg #[.slice a L.length ca, .bool D.s, .slice D.a D.n D.c, .slice D.b D.m D.e], .int .i64 x] w' (SolB w' l Z V er) := by
  have hw := wts_bulk L (fun p hp => (hok p hp).1)
  by_cases h0 : co x (fo L) = 0
  · refine ⟨[], 0, 0, 61, by rw [show am 0 = 0 from rfl, ln_zero]; omega, by rw [ln_zero]; omega, Nat.zero_le _, fun w' hb9 => ?_, fun w' hb9 => ?_⟩
    · exact (lSolve_zero a ca L D x w' (hF.later hb9) (fun p hp => ⟨(hok p hp).1.later hb9, by have := (hok p hp).2; omega⟩) hc hm (by omega) ((co_sz x (fo L)).mono (by omega)) h0).mono fun e w9 h => solB_zero h
    · exact (vlSolve_zero a ca L D x w' (hF.later hb9) (fun p hp => ⟨(hok p hp).1.later hb9, by have := (hok p hp).2; omega⟩) hc hm (hD.later hb9) hb h0).mono fun e w9 h => solB_zero h
  · have hs : sz 4194305 (co x (fo L)) := (co_sz x (fo L)).mono (by omega)
    have hsu : sz 4194305 (-(co x (fo L)))⁻¹ := sz_inv (sz_neg hs) (fun e => h0 (by rw [← Rat.neg_neg (co x (fo L)), e]; rfl))
    obtain ⟨d1, d2⟩ := norm_sz hD
    have hss : sz 8388610 ((-(co x (fo L)))⁻¹ * D.val) := sz_mul hsu (show sz 4194305 D.val from ⟨by omega, by omega⟩)
    have hl := nfm_length (fmap (fun r => (-(co x (fo L)))⁻¹ * r) (fo (oth x L)))
    rw [fmap_length, fo_length] at hl
    have hl2 : (oth x L).length ≤ L.length := List.length_filter_le _ _
    refine ⟨nfm (fmap (fun r => (-(co x (fo L)))⁻¹ * r) (fo (oth x L))), ((-(co x (fo L)))⁻¹ * D.val).num, ((-(co x (fo L)))⁻¹ * D.val).den, 0, Nat.le_trans hss.1 (by omega), Nat.le_trans hss.2 (by omega), by omega, fun w' hb9 => ?_, fun w' hb9 => ?_⟩
    · exact lSolve_is a ca L D x w' (hF.later hb9) (fun p hp => ⟨(hok p hp).1.later hb9, by have := (hok p hp).2; omega⟩) hc hm (hD.later hb9) hb h0
    · exact vlSolve_is a ca L D x w' (hF.later hb9) (fun p hp => ⟨(hok p hp).1.later hb9, by have := (hok p hp).2; omega⟩) hc hm (hD.later hb9) hb h0
end Go.Proofs.YthpakdmfbbmbiaaGreat
