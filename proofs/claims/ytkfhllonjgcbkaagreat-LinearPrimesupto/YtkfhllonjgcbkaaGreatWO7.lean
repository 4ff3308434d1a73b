/-
  SameForm.
-/
import Derived.Test.YtkfhllonjgcbkaaGreatWN4
import Derived.Test.YtkfhllonjgcbkaaGreatWN5
import Derived.Test.YtkfhllonjgcbkaaGreatWLA
namespace Go.Proofs.YtkfhllonjgcbkaaGreat
open Go.RowKit
set_option linter.unusedVariables false
set_option linter.unusedSimpArgs false

set_option maxHeartbeats 8000000 in
set_option maxRecDepth 100000 in
theorem SameForm_is (a : Option Addr) (ca : Nat) (L : List Mo) (b : Option Addr) (cb : Nat) (M : List Mo) (w : World) (hF : FAt w a L) (hG : FAt w b M) (hE : ∀ p ∈ L, Ent w p) (hE2 : ∀ p ∈ M, Ent w p) (hca : L.length ≤ ca) (hcb : M.length ≤ cb) (hm : L.length ≤ 2097152) (hfo : fo L = fo M) :
    Calls Tryz.prog 7 #[.slice a L.length ca, .slice b M.length cb] w fun e w' => e = .returned (.bool true) ∧ Below w.heap.size w w' := by
  have hl : M.length = L.length := by have h := congrArg List.length hfo; rw [fo_length, fo_length] at h; exact h.symm
  rw [hl]
  have HF := hide' hfo
  have HL := hide' hl
  rw [hl] at hcb
  clear hfo hl
  go_enter Tryz.func7, Tryz.ntmps7
  go_wp2_with fail
  go_loopw [5] (fun vi wr => ∃ k : Nat, k ≤ L.length ∧ vi = .int .i64 k ∧ Below w.heap.size w wr) (fun vi _ => L.length - (intOf vi).toNat)
  case atStart => exact ⟨0, Nat.zero_le _, rfl, Below.refl _ _⟩
  case round =>
    obtain ⟨k, hk, rfl, hB⟩ := hrel
    by_cases hlt : k < L.length
    · obtain ⟨p, hp⟩ : ∃ p, L[k]? = some p := ⟨L[k], List.getElem?_eq_getElem hlt⟩
      obtain ⟨q, hq⟩ : ∃ q, M[k]? = some q := ⟨M[k]'(by rw [HL.out]; exact hlt), List.getElem?_eq_getElem _⟩
      have hpq : (p.1, p.2.val) = (q.1, q.2.val) := by
        have h1 : (fo L)[k]? = some (p.1, p.2.val) := by unfold fo; rw [List.getElem?_map, hp]; rfl
        have h2 : (fo M)[k]? = some (q.1, q.2.val) := by unfold fo; rw [List.getElem?_map, hq]; rfl
        rw [HF.out, h2] at h1
        exact (Option.some.inj h1).symm
      obtain ⟨b1, o1, rfl, hb1, hcell⟩ := hF (by intro e; rw [e] at hlt; simp at hlt)
      obtain ⟨b2, o2, rfl, hb2, hcell2⟩ := hG (by intro e; have := HL.out; rw [e] at this; simp at this; omega)
      obtain ⟨c0, c1, c2, c3⟩ := hcell k p hp
      obtain ⟨d0, d1, d2, d3⟩ := hcell2 k q hq
      have ep := (hE p (List.mem_of_getElem? hp)).later hB
      have eq := (hE2 q (List.mem_of_getElem? hq)).later hB
      clear hp hq hcell hcell2
      obtain ⟨x, P⟩ := p
      obtain ⟨y, Q⟩ := q
      simp only [Prod.mk.injEq] at hpq
      obtain ⟨rfl, hv⟩ := hpq
      simp only at c0 c1 c2 c3 d0 d1 d2 d3
      replace c0 := below_cell hB c0
      replace c1 := below_cell hB c1
      replace c2 := below_cell hB c2
      replace c3 := below_cell hB c3
      replace d0 := below_cell hB d0
      replace d1 := below_cell hB d1
      replace d2 := below_cell hB d2
      replace d3 := below_cell hB d3
      have okP : P.ok wr := ep.ok
      have okQ : Q.ok wr := eq.ok
      have eP := low_val (show P.low from ep.low)
      have eQ := low_val (show Q.low from eq.low)
      rw [← hv] at eQ
      clear ep eq
      obtain ⟨r, hr⟩ : ∃ r, P.val = r := ⟨_, rfl⟩
      rw [hr] at eP eQ
      clear hr hv
      obtain ⟨pa, hpa⟩ : ∃ pa, P.a = pa := ⟨_, rfl⟩
      obtain ⟨pb, hpb⟩ : ∃ pb, P.b = pb := ⟨_, rfl⟩
      obtain ⟨qa, hqa⟩ : ∃ qa, Q.a = qa := ⟨_, rfl⟩
      obtain ⟨qb, hqb⟩ : ∃ qb, Q.b = qb := ⟨_, rfl⟩
      rw [hpa, hpb] at eP
      rw [hqa, hqb] at eQ
      clear hpa hpb hqa hqb
      subst eP eQ
      simp only [RatV.of] at c1 c2 c3 d1 d2 d3
      have g1 : Seg wr pa (am r.num) (ln (am r.num)) := okP.1
      have g2 : Seg wr pb r.den (ln r.den) := okP.2.2.2.1
      have g3 : Seg wr qa (am r.num) (ln (am r.num)) := okQ.1
      have g4 : Seg wr qb r.den (ln r.den) := okQ.2.2.2.1
      have l1 : ln (am r.num) ≤ 35184372087808 := okP.2.2.1
      have l2 : ln r.den ≤ 35184372087808 := okP.2.2.2.2.2
      clear okP okQ
      have GS := hide' (fun w' k1 k2 k3 k4 => SameRat_is r.num r.den pa pb qa qb w' (by omega) (by omega) k1 k2 k3 k4)
      have i1 : (0 : Int) ≤ (k : Int) := by omega
      have i2 : (k : Int) < (L.length : Int) := by omega
      go_wp2_with fail
      have bD : Below wr.heap.size wr wr.drew := (Below.refl _ _).drew
      have kc0 := below_cell bD c0
      have kc1 := below_cell bD c1
      have kc2 := below_cell bD c2
      have kc3 := below_cell bD c3
      have kd0 := below_cell bD d0
      have kd1 := below_cell bD d1
      have kd2 := below_cell bD d2
      have kd3 := below_cell bD d3
      replace hB := hB.trans (bD.mono hB.size)
      replace g1 := g1.later bD
      replace g2 := g2.later bD
      replace g3 := g3.later bD
      replace g4 := g4.later bD
      replace c0 := below_cell bD c0
      replace c1 := below_cell bD c1
      replace c2 := below_cell bD c2
      replace c3 := below_cell bD c3
      replace d0 := below_cell bD d0
      replace d1 := below_cell bD d1
      replace d2 := below_cell bD d2
      replace d3 := below_cell bD d3
      refine wp_region_held_drew (S := fun w' => w'.cell? ⟨b1, o1 + k * 4, none⟩ = some (.int .i64 x) ∧ w'.cell? ⟨b1, o1 + k * 4 + 1, none⟩ = some (.bool (ng r.num)) ∧ w'.cell? ⟨b1, o1 + k * 4 + 1 + 1, none⟩ = some (.slice pa (ln (am r.num)) (ln (am r.num))) ∧ w'.cell? ⟨b1, o1 + k * 4 + 1 + 2, none⟩ = some (.slice pb (ln r.den) (ln r.den)) ∧ w'.cell? ⟨b2, o2 + k * 4, none⟩ = some (.int .i64 x) ∧ w'.cell? ⟨b2, o2 + k * 4 + 1, none⟩ = some (.bool (ng r.num)) ∧ w'.cell? ⟨b2, o2 + k * 4 + 1 + 1, none⟩ = some (.slice qa (ln (am r.num)) (ln (am r.num))) ∧ w'.cell? ⟨b2, o2 + k * 4 + 1 + 2, none⟩ = some (.slice qb (ln r.den) (ln r.den))) (by kernel_rfl) ⟨kc0, kc1, kc2, kc3, kd0, kd1, kd2, kd3⟩ (fun hHeld => ?_)
      clear kc0 kc1 kc2 kc3 kd0 kd1 kd2 kd3
      generalize wr.drew = w0 at bD g1 g2 g3 g4 c0 c1 c2 c3 d0 d1 d2 d3 hB hHeld ⊢
      clear bD
      refine take' 0 (v := ?_) rfl (by kernel_rfl) (by kernel_rfl) (by kernel_rfl) (fun _ _ _ h => h) (Or.inl ⟨by rfl, ?_⟩) (by assumption) ?_
      rotate_left
      · intro w9 hSw
        go_simp
        first | done | with_reducible rfl
      simp only [Act.put, List.setIfInBounds_toArray, List.set_cons_zero, List.set_cons_succ]
      refine take' 1 (v := ?_) rfl (by kernel_rfl) (by kernel_rfl) (by kernel_rfl) (fun _ _ _ h => h) (Or.inl ⟨by rfl, ?_⟩) (by assumption) ?_
      rotate_left
      · intro w9 hSw
        go_simp
        first | done | with_reducible rfl
      simp only [Act.put, List.setIfInBounds_toArray, List.set_cons_zero, List.set_cons_succ]
      refine take' 2 (v := ?_) rfl (by kernel_rfl) (by kernel_rfl) (by kernel_rfl) (fun _ _ _ h => h) (Or.inl ⟨by rfl, ?_⟩) (by assumption) ?_
      rotate_left
      · intro w9 hSw
        go_simp
        first | done | with_reducible rfl
      simp only [Act.put, List.setIfInBounds_toArray, List.set_cons_zero, List.set_cons_succ]
      refine take' 3 (v := ?_) rfl (by kernel_rfl) (by kernel_rfl) (by kernel_rfl) (fun _ _ _ h => h) (Or.inl ⟨by rfl, ?_⟩) (by assumption) ?_
      rotate_left
      · intro w9 hSw
        go_simp
        first | done | with_reducible rfl
      simp only [Act.put, List.setIfInBounds_toArray, List.set_cons_zero, List.set_cons_succ]
      refine take' 4 (v := ?_) rfl (by kernel_rfl) (by kernel_rfl) (by kernel_rfl) (fun _ _ _ h => h) (Or.inl ⟨by rfl, ?_⟩) (by assumption) ?_
      rotate_left
      · intro w9 hSw
        go_simp
        first | done | with_reducible rfl
      simp only [Act.put, List.setIfInBounds_toArray, List.set_cons_zero, List.set_cons_succ]
      refine take' 5 (v := ?_) rfl (by kernel_rfl) (by kernel_rfl) (by kernel_rfl) (fun _ _ _ h => h) (Or.inl ⟨by rfl, ?_⟩) (by assumption) ?_
      rotate_left
      · intro w9 hSw
        go_simp
        first | done | with_reducible rfl
      simp only [Act.put, List.setIfInBounds_toArray, List.set_cons_zero, List.set_cons_succ]
      refine take' 6 (v := ?_) rfl (by kernel_rfl) (by kernel_rfl) (by kernel_rfl) (fun _ _ _ h => h) (Or.inl ⟨by rfl, ?_⟩) (by assumption) ?_
      rotate_left
      · intro w9 hSw
        go_simp
        first | done | with_reducible rfl
      simp only [Act.put, List.setIfInBounds_toArray, List.set_cons_zero, List.set_cons_succ]
      refine take' 7 (v := ?_) rfl (by kernel_rfl) (by kernel_rfl) (by kernel_rfl) (fun _ _ _ h => h) (Or.inl ⟨by rfl, ?_⟩) (by assumption) ?_
      rotate_left
      · intro w9 hSw
        go_simp
        first | done | with_reducible rfl
      simp only [Act.put, List.setIfInBounds_toArray, List.set_cons_zero, List.set_cons_succ]
      refine take' 8 (v := ?_) rfl (by kernel_rfl) (by kernel_rfl) (by kernel_rfl) (fun _ _ _ h => h) (Or.inl ⟨by rfl, ?_⟩) (by assumption) ?_
      rotate_left
      · intro w9 hSw
        go_simp
        first | done | with_reducible rfl
      simp only [Act.put, List.setIfInBounds_toArray, List.set_cons_zero, List.set_cons_succ]
      refine take' 9 (v := ?_) rfl (by kernel_rfl) (by kernel_rfl) (by kernel_rfl) (fun _ _ _ h => h) (Or.inl ⟨by rfl, ?_⟩) (by assumption) ?_
      rotate_left
      · intro w9 hSw
        go_simp
        first | done | with_reducible rfl
      simp only [Act.put, List.setIfInBounds_toArray, List.set_cons_zero, List.set_cons_succ]
      refine wpAnyH_ready (rs := [10]) (by kernel_rfl) (by simp) ?_
      refine cons' rfl (fun KK hKK => ?_)
      go_simp
      refine (GS.out _ g1 g2 g3 g4).mono ?_
      rintro e w2 ⟨rfl, b2⟩
      have bC := b2
      replace hB := hB.trans (bC.mono hB.size)
      replace g1 := g1.later bC
      replace g2 := g2.later bC
      replace g3 := g3.later bC
      replace g4 := g4.later bC
      replace c0 := below_cell bC c0
      replace c1 := below_cell bC c1
      replace c2 := below_cell bC c2
      replace c3 := below_cell bC c3
      replace d0 := below_cell bC d0
      replace d1 := below_cell bC d1
      replace d2 := below_cell bC d2
      replace d3 := below_cell bC d3
      replace hHeld := (⟨below_cell bC hHeld.1, below_cell bC hHeld.2.1, below_cell bC hHeld.2.2.1, below_cell bC hHeld.2.2.2.1, below_cell bC hHeld.2.2.2.2.1, below_cell bC hHeld.2.2.2.2.2.1, below_cell bC hHeld.2.2.2.2.2.2.1, below_cell bC hHeld.2.2.2.2.2.2.2⟩ : _ ∧ _ ∧ _ ∧ _ ∧ _ ∧ _ ∧ _ ∧ _)
      clear bC
      go_wp2_with fail
      refine hKK.out _ _ hHeld ?_
      clear hHeld
      intro hHeld
      clear hKK KK
      try simp only [Act.put, List.setIfInBounds_toArray, List.set_cons_zero, List.set_cons_succ]
      refine take' 11 (v := ?_) rfl (by kernel_rfl) (by kernel_rfl) (by kernel_rfl) (fun _ _ _ h => h) (Or.inl ⟨by rfl, ?_⟩) (by assumption) ?_
      rotate_left
      · intro w9 hSw
        go_simp
        first | done | with_reducible rfl
      simp only [Act.put, List.setIfInBounds_toArray, List.set_cons_zero, List.set_cons_succ]
      refine wpAnyH_done (by kernel_rfl) ?_ _
      clear hHeld b2
      go_wp2_with fail
      have bD : Below w2.heap.size w2 w2.drew := (Below.refl _ _).drew
      have kc0 := below_cell bD c0
      have kc1 := below_cell bD c1
      have kc2 := below_cell bD c2
      have kc3 := below_cell bD c3
      have kd0 := below_cell bD d0
      have kd1 := below_cell bD d1
      have kd2 := below_cell bD d2
      have kd3 := below_cell bD d3
      replace hB := hB.trans (bD.mono hB.size)
      refine wp_region_held_drew (S := fun w' => w'.cell? ⟨b1, o1 + k * 4, none⟩ = some (.int .i64 x) ∧ w'.cell? ⟨b1, o1 + k * 4 + 1, none⟩ = some (.bool (ng r.num)) ∧ w'.cell? ⟨b1, o1 + k * 4 + 1 + 1, none⟩ = some (.slice pa (ln (am r.num)) (ln (am r.num))) ∧ w'.cell? ⟨b1, o1 + k * 4 + 1 + 2, none⟩ = some (.slice pb (ln r.den) (ln r.den)) ∧ w'.cell? ⟨b2, o2 + k * 4, none⟩ = some (.int .i64 x) ∧ w'.cell? ⟨b2, o2 + k * 4 + 1, none⟩ = some (.bool (ng r.num)) ∧ w'.cell? ⟨b2, o2 + k * 4 + 1 + 1, none⟩ = some (.slice qa (ln (am r.num)) (ln (am r.num))) ∧ w'.cell? ⟨b2, o2 + k * 4 + 1 + 2, none⟩ = some (.slice qb (ln r.den) (ln r.den))) (by kernel_rfl) ⟨kc0, kc1, kc2, kc3, kd0, kd1, kd2, kd3⟩ (fun hHeld => ?_)
      clear kc0 kc1 kc2 kc3 kd0 kd1 kd2 kd3
      generalize w2.drew = w5 at bD hB hHeld ⊢
      clear c0 c1 c2 c3 d0 d1 d2 d3
      refine take' 0 (v := ?_) rfl (by kernel_rfl) (by kernel_rfl) (by kernel_rfl) (fun _ _ _ h => h) (Or.inl ⟨by rfl, ?_⟩) (by assumption) ?_
      rotate_left
      · intro w9 hSw
        go_simp
        first | done | with_reducible rfl
      simp only [Act.put, List.setIfInBounds_toArray, List.set_cons_zero, List.set_cons_succ]
      refine take' 1 (v := ?_) rfl (by kernel_rfl) (by kernel_rfl) (by kernel_rfl) (fun _ _ _ h => h) (Or.inl ⟨by rfl, ?_⟩) (by assumption) ?_
      rotate_left
      · intro w9 hSw
        go_simp
        first | done | with_reducible rfl
      simp only [Act.put, List.setIfInBounds_toArray, List.set_cons_zero, List.set_cons_succ]
      refine take' 2 (v := ?_) rfl (by kernel_rfl) (by kernel_rfl) (by kernel_rfl) (fun _ _ _ h => h) (Or.inl ⟨by rfl, ?_⟩) (by assumption) ?_
      rotate_left
      · intro w9 hSw
        go_simp
        first | done | with_reducible rfl
      simp only [Act.put, List.setIfInBounds_toArray, List.set_cons_zero, List.set_cons_succ]
      refine take' 3 (v := ?_) rfl (by kernel_rfl) (by kernel_rfl) (by kernel_rfl) (fun _ _ _ h => h) (Or.inl ⟨by rfl, ?_⟩) (by assumption) ?_
      rotate_left
      · intro w9 hSw
        go_simp
        first | done | with_reducible rfl
      simp only [Act.put, List.setIfInBounds_toArray, List.set_cons_zero, List.set_cons_succ]
      refine take' 4 (v := ?_) rfl (by kernel_rfl) (by kernel_rfl) (by kernel_rfl) (fun _ _ _ h => h) (Or.inl ⟨by rfl, ?_⟩) (by assumption) ?_
      rotate_left
      · intro w9 hSw
        go_simp
        first | done | with_reducible rfl
      simp only [Act.put, List.setIfInBounds_toArray, List.set_cons_zero, List.set_cons_succ]
      refine take' 5 (v := ?_) rfl (by kernel_rfl) (by kernel_rfl) (by kernel_rfl) (fun _ _ _ h => h) (Or.inl ⟨by rfl, ?_⟩) (by assumption) ?_
      rotate_left
      · intro w9 hSw
        go_simp
        first | done | with_reducible rfl
      simp only [Act.put, List.setIfInBounds_toArray, List.set_cons_zero, List.set_cons_succ]
      refine take' 6 (v := ?_) rfl (by kernel_rfl) (by kernel_rfl) (by kernel_rfl) (fun _ _ _ h => h) (Or.inl ⟨by rfl, ?_⟩) (by assumption) ?_
      rotate_left
      · intro w9 hSw
        go_simp
        first | done | with_reducible rfl
      simp only [Act.put, List.setIfInBounds_toArray, List.set_cons_zero, List.set_cons_succ]
      refine take' 7 (v := ?_) rfl (by kernel_rfl) (by kernel_rfl) (by kernel_rfl) (fun _ _ _ h => h) (Or.inl ⟨by rfl, ?_⟩) (by assumption) ?_
      rotate_left
      · intro w9 hSw
        go_simp
        first | done | with_reducible rfl
      simp only [Act.put, List.setIfInBounds_toArray, List.set_cons_zero, List.set_cons_succ]
      refine take' 8 (v := ?_) rfl (by kernel_rfl) (by kernel_rfl) (by kernel_rfl) (fun _ _ _ h => h) (Or.inl ⟨by rfl, ?_⟩) (by assumption) ?_
      rotate_left
      · intro w9 hSw
        go_simp
        first | done | with_reducible rfl
      simp only [Act.put, List.setIfInBounds_toArray, List.set_cons_zero, List.set_cons_succ]
      refine take' 9 (v := ?_) rfl (by kernel_rfl) (by kernel_rfl) (by kernel_rfl) (fun _ _ _ h => h) (Or.inl ⟨by rfl, ?_⟩) (by assumption) ?_
      rotate_left
      · intro w9 hSw
        go_simp
        first | done | with_reducible rfl
      simp only [Act.put, List.setIfInBounds_toArray, List.set_cons_zero, List.set_cons_succ]
      refine take' 10 (v := ?_) rfl (by kernel_rfl) (by kernel_rfl) (by kernel_rfl) (fun _ _ _ h => h) (Or.inl ⟨by rfl, ?_⟩) (by assumption) ?_
      rotate_left
      · intro w9 hSw
        go_simp
        first | done | with_reducible rfl
      simp only [Act.put, List.setIfInBounds_toArray, List.set_cons_zero, List.set_cons_succ]
      refine take' 11 (v := ?_) rfl (by kernel_rfl) (by kernel_rfl) (by kernel_rfl) (fun _ _ _ h => h) (Or.inl ⟨by rfl, ?_⟩) (by assumption) ?_
      rotate_left
      · intro w9 hSw
        go_simp
        first | done | with_reducible rfl
      simp only [Act.put, List.setIfInBounds_toArray, List.set_cons_zero, List.set_cons_succ]
      refine take' 12 (v := ?_) rfl (by kernel_rfl) (by kernel_rfl) (by kernel_rfl) (fun _ _ _ h => h) (Or.inl ⟨by rfl, ?_⟩) (by assumption) ?_
      rotate_left
      · intro w9 hSw
        go_simp
        first | done | with_reducible rfl
      simp only [Act.put, List.setIfInBounds_toArray, List.set_cons_zero, List.set_cons_succ]
      refine take' 13 (v := ?_) rfl (by kernel_rfl) (by kernel_rfl) (by kernel_rfl) (fun _ _ _ h => h) (Or.inl ⟨by rfl, ?_⟩) (by assumption) ?_
      rotate_left
      · intro w9 hSw
        go_simp
        first | done | with_reducible rfl
      simp only [Act.put, List.setIfInBounds_toArray, List.set_cons_zero, List.set_cons_succ]
      refine take' 14 (v := ?_) rfl (by kernel_rfl) (by kernel_rfl) (by kernel_rfl) (fun _ _ _ h => h) (Or.inl ⟨by rfl, ?_⟩) (by assumption) ?_
      rotate_left
      · intro w9 hSw
        go_simp
        first | done | with_reducible rfl
      simp only [Act.put, List.setIfInBounds_toArray, List.set_cons_zero, List.set_cons_succ]
      refine wpAnyH_done (by kernel_rfl) ?_ _
      go_wp2
      go_roundw
      case rel => exact ⟨k + 1, by omega, by go_num, hB⟩
      case measure => simp [intOf]; omega
    · obtain rfl : k = L.length := by omega
      have i1 : ¬ (L.length : Int) < (L.length : Int) := by omega
      go_wp2
      go_ret
      exact ⟨rfl, hB⟩
end Go.Proofs.YtkfhllonjgcbkaaGreat
