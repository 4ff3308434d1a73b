import Derived.Test.YtebbehlfocpjhaaGreatWN4
import Derived.Test.YtebbehlfocpjhaaGreatWN5
import Derived.Test.YtebbehlfocpjhaaGreatWLA
import Derived.Test.YtebbehlfocpjhaaGreatWI2
set_option linter.unusedSimpArgs false
namespace Go.Proofs.YtebbehlfocpjhaaGreat
open Go.RowKit
set_option linter.unusedVariables false
set_option maxHeartbeats 8000000 in
set_option maxRecDepth 100000 in
theorem SameForm_is (a : Option Addr) (ca : Nat) (L : List Mo) (b : Option Addr) (cb : Nat) (M : List Mo) (w : World) (hF : FAt w a L) (hG : FAt w b M) (hE : ∀ p ∈ L, Ent w p) (hE2 : ∀ p ∈ M, Ent w p) (hca : L.length ≤ ca) (hcb : M.length ≤ cb) (hm : L.length ≤ 2097152) (hfo : fo L = fo M) :
    Calls Tryz.prog 5 #[.slice a L.length ca, .slice b M.length cb] w fun e w' => e = .returned (.bool true) ∧ Below w.heap.size w w' := by
  have hl : M.length = L.length := by have h := congrArg List.length hfo; rw [fo_length, fo_length] at h; exact h.symm
  rw [hl]
  have HF := hide' hfo
  have HL := hide' hl
  rw [hl] at hcb
  clear hfo hl
  go_enter Tryz.func5, Tryz.ntmps5
  go_wp2_with fail
  go_loopw [5] (fun vi wr => ∃ k : Nat, k ≤ L.length ∧ vi = .int .i64 k ∧ Below w.heap.size w wr) (fun vi _ => L.length - (intOf vi).toNat)
  case atStart => exact ⟨0, Nat.zero_le _, rfl, Below.refl _ _⟩
  case round =>
    obtain ⟨k, hk, rfl, hB⟩ := hrel
    by_cases hlt : k < L.length
    · obtain ⟨p, hp⟩ : ∃ p, L[k]? = some p := ⟨L[k], List.getElem?_eq_getElem hlt⟩
      obtain ⟨q, hq⟩ : ∃ q, M[k]? = some q := ⟨M[k]'(by rw [HL.out]; exact hlt), List.getElem?_eq_getElem _⟩
      have hpq : (p.1, p.2.val) = (q.1, q.2.val) := by
        have h1 : (fo L)[k]? = some (p.1, p.2.val) := by unfold fo; rw [List.getElem?_map, hp]; rfl
        have h2 : (fo M)[k]? = some (q.1, q.2.val) := by unfold fo; rw [List.getElem?_map, hq]; rfl
        rw [HF.out, h2] at h1
        exact (Option.some.inj h1).symm
      obtain ⟨b1, o1, rfl, hb1, hcell⟩ := hF (by intro e; rw [e] at hlt; simp at hlt)
      obtain ⟨b2, o2, rfl, hb2, hcell2⟩ := hG (by intro e; have := HL.out; rw [e] at this; simp at this; omega)
      obtain ⟨c0, c1, c2, c3⟩ := hcell k p hp
      obtain ⟨d0, d1, d2, d3⟩ := hcell2 k q hq
      have ep := (hE p (List.mem_of_getElem? hp)).later hB
      have eq := (hE2 q (List.mem_of_getElem? hq)).later hB
      clear hp hq hcell hcell2
      obtain ⟨x, P⟩ := p
      obtain ⟨y, Q⟩ := q
      simp only [Prod.mk.injEq] at hpq
      obtain ⟨rfl, hv⟩ := hpq
      simp only at c0 c1 c2 c3 d0 d1 d2 d3
      replace c0 := below_cell hB c0
      replace c1 := below_cell hB c1
      replace c2 := below_cell hB c2
      replace c3 := below_cell hB c3
      replace d0 := below_cell hB d0
      replace d1 := below_cell hB d1
      replace d2 := below_cell hB d2
      replace d3 := below_cell hB d3
      have okP : P.ok wr := ep.ok
      have okQ : Q.ok wr := eq.ok
      have eP := low_val (show P.low from ep.low)
      have eQ := low_val (show Q.low from eq.low)
      rw [← hv] at eQ
      clear ep eq
      obtain ⟨r, hr⟩ : ∃ r, P.val = r := ⟨_, rfl⟩
      rw [hr] at eP eQ
      clear hr hv
      obtain ⟨pa, hpa⟩ : ∃ pa, P.a = pa := ⟨_, rfl⟩
      obtain ⟨pb, hpb⟩ : ∃ pb, P.b = pb := ⟨_, rfl⟩
      obtain ⟨qa, hqa⟩ : ∃ qa, Q.a = qa := ⟨_, rfl⟩
      obtain ⟨qb, hqb⟩ : ∃ qb, Q.b = qb := ⟨_, rfl⟩
      rw [hpa, hpb] at eP
      rw [hqa, hqb] at eQ
      clear hpa hpb hqa hqb
      subst eP eQ
      simp only [RatV.of] at c1 c2 c3 d1 d2 d3
      have g1 : Seg wr pa (am r.num) (ln (am r.num)) := okP.1
      have g2 : Seg wr pb r.den (ln r.den) := okP.2.2.2.1
      have g3 : Seg wr qa (am r.num) (ln (am r.num)) := okQ.1
      have g4 : Seg wr qb r.den (ln r.den) := okQ.2.2.2.1
      have l1 : ln (am r.num) ≤ 35184372087808 := okP.2.2.1
      have l2 : ln r.den ≤ 35184372087808 := okP.2.2.2.2.2
      clear okP okQ
      have GS := hide' (fun w' k1 k2 k3 k4 => SameRat_is r.num r.den pa pb qa qb w' (by omega) (by omega) k1 k2 k3 k4)
      have i1 : (0 : Int) ≤ (k : Int) := by omega
      have i2 : (k : Int) < (L.length : Int) := by omega
      go_wp2_with fail
      have bD : Below wr.heap.size wr wr.drew := (Below.refl _ _).drew
      have kc0 := below_cell bD c0
      have kc1 := below_cell bD c1
      have kc2 := below_cell bD c2
      have kc3 := below_cell bD c3
      have kd0 := below_cell bD d0
      have kd1 := below_cell bD d1
      have kd2 := below_cell bD d2
      have kd3 := below_cell bD d3
      replace hB := hB.trans (bD.mono hB.size)
      replace g1 := g1.later bD
      replace g2 := g2.later bD
      replace g3 := g3.later bD
      replace g4 := g4.later bD
      replace c0 := below_cell bD c0
      replace c1 := below_cell bD c1
      replace c2 := below_cell bD c2
      replace c3 := below_cell bD c3
      replace d0 := below_cell bD d0
      replace d1 := below_cell bD d1
      replace d2 := below_cell bD d2
      replace d3 := below_cell bD d3
      refine wp_region_held_drew (S := fun w' => w'.cell? ⟨b1, o1 + k * 4, none⟩ = some (.int .i64 x) ∧ w'.cell? ⟨b1, o1 + k * 4 + 1, none⟩ = some (.bool (ng r.num)) ∧ w'.cell? ⟨b1, o1 + k * 4 + 1 + 1, none⟩ = some (.slice pa (ln (am r.num)) (ln (am r.num))) ∧ w'.cell? ⟨b1, o1 + k * 4 + 1 + 2, none⟩ = some (.slice pb (ln r.den) (ln r.den)) ∧ w'.cell? ⟨b2, o2 + k * 4, none⟩ = some (.int .i64 x) ∧ w'.cell? ⟨b2, o2 + k * 4 + 1, none⟩ = some (.bool (ng r.num)) ∧ w'.cell? ⟨b2, o2 + k * 4 + 1 + 1, none⟩ = some (.slice qa (ln (am r.num)) (ln (am r.num))) ∧ w'.cell? ⟨b2, o2 + k * 4 + 1 + 2, none⟩ = some (.slice qb (ln r.den) (ln r.den))) (by kernel_rfl) ⟨kc0, kc1, kc2, kc3, kd0, kd1, kd2, kd3⟩ (fun hHeld => ?_)
      clear kc0 kc1 kc2 kc3 kd0 kd1 kd2 kd3
      generalize wr.drew = w0 at bD g1 g2 g3 g4 c0 c1 c2 c3 d0 d1 d2 d3 hB hHeld ⊢
      clear bD
      refine tk 0 (v := ?_) rfl (Or.inl ⟨by rfl, ?_⟩) ?_
      rotate_left
      · intro w9 hSw
        go_simp
        first | done | with_reducible rfl
      simp only [pP, pN, pS, pZ, pC]
      refine tk 1 (v := ?_) rfl (Or.inl ⟨by rfl, ?_⟩) ?_
      rotate_left
      · intro w9 hSw
        go_simp
        first | done | with_reducible rfl
      simp only [pP, pN, pS, pZ, pC]
      refine tk 2 (v := ?_) rfl (Or.inl ⟨by rfl, ?_⟩) ?_
      rotate_left
      · intro w9 hSw
        go_simp
        first | done | with_reducible rfl
      simp only [pP, pN, pS, pZ, pC]
      refine tk 3 (v := ?_) rfl (Or.inl ⟨by rfl, ?_⟩) ?_
      rotate_left
      · intro w9 hSw
        go_simp
        first | done | with_reducible rfl
      simp only [pP, pN, pS, pZ, pC]
      refine tk 4 (v := ?_) rfl (Or.inl ⟨by rfl, ?_⟩) ?_
      rotate_left
      · intro w9 hSw
        go_simp
        first | done | with_reducible rfl
      simp only [pP, pN, pS, pZ, pC]
      refine tk 5 (v := ?_) rfl (Or.inl ⟨by rfl, ?_⟩) ?_
      rotate_left
      · intro w9 hSw
        go_simp
        first | done | with_reducible rfl
      simp only [pP, pN, pS, pZ, pC]
      refine tk 6 (v := ?_) rfl (Or.inl ⟨by rfl, ?_⟩) ?_
      rotate_left
      · intro w9 hSw
        go_simp
        first | done | with_reducible rfl
      simp only [pP, pN, pS, pZ, pC]
      refine tk 7 (v := ?_) rfl (Or.inl ⟨by rfl, ?_⟩) ?_
      rotate_left
      · intro w9 hSw
        go_simp
        first | done | with_reducible rfl
      simp only [pP, pN, pS, pZ, pC]
      refine tk 8 (v := ?_) rfl (Or.inl ⟨by rfl, ?_⟩) ?_
      rotate_left
      · intro w9 hSw
        go_simp
        first | done | with_reducible rfl
      simp only [pP, pN, pS, pZ, pC]
      refine tk 9 (v := ?_) rfl (Or.inl ⟨by rfl, ?_⟩) ?_
      rotate_left
      · intro w9 hSw
        go_simp
        first | done | with_reducible rfl
      simp only [pP, pN, pS, pZ, pC]
      refine wpAnyH_ready (rs := [10]) (by kernel_rfl) (by simp) ?_
      refine cons' rfl (fun KK hKK => ?_)
      go_simp
      refine (GS.out _ g1 g2 g3 g4).mono ?_
      rintro e w2 ⟨rfl, b2⟩
      have bC := b2
      replace hB := hB.trans (bC.mono hB.size)
      replace g1 := g1.later bC
      replace g2 := g2.later bC
      replace g3 := g3.later bC
      replace g4 := g4.later bC
      replace c0 := below_cell bC c0
      replace c1 := below_cell bC c1
      replace c2 := below_cell bC c2
      replace c3 := below_cell bC c3
      replace d0 := below_cell bC d0
      replace d1 := below_cell bC d1
      replace d2 := below_cell bC d2
      replace d3 := below_cell bC d3
      replace hHeld := (⟨below_cell bC hHeld.1, below_cell bC hHeld.2.1, below_cell bC hHeld.2.2.1, below_cell bC hHeld.2.2.2.1, below_cell bC hHeld.2.2.2.2.1, below_cell bC hHeld.2.2.2.2.2.1, below_cell bC hHeld.2.2.2.2.2.2.1, below_cell bC hHeld.2.2.2.2.2.2.2⟩ : _ ∧ _ ∧ _ ∧ _ ∧ _ ∧ _ ∧ _ ∧ _)
      clear bC
      go_wp2_with fail
      refine hKK.out _ _ hHeld ?_
      clear hHeld
      intro hHeld
      clear hKK KK
      try simp only [pP, pN, pS, pZ, pC]
      refine tk 11 (v := ?_) rfl (Or.inl ⟨by rfl, ?_⟩) ?_
      rotate_left
      · intro w9 hSw
        go_simp
        first | done | with_reducible rfl
      simp only [pP, pN, pS, pZ, pC]
      refine wpAnyH_done (by kernel_rfl) ?_ _
      clear hHeld b2
      go_wp2_with fail
      have bD : Below w2.heap.size w2 w2.drew := (Below.refl _ _).drew
      have kc0 := below_cell bD c0
      have kc1 := below_cell bD c1
      have kc2 := below_cell bD c2
      have kc3 := below_cell bD c3
      have kd0 := below_cell bD d0
      have kd1 := below_cell bD d1
      have kd2 := below_cell bD d2
      have kd3 := below_cell bD d3
      replace hB := hB.trans (bD.mono hB.size)
      refine wp_region_held_drew (S := fun w' => w'.cell? ⟨b1, o1 + k * 4, none⟩ = some (.int .i64 x) ∧ w'.cell? ⟨b1, o1 + k * 4 + 1, none⟩ = some (.bool (ng r.num)) ∧ w'.cell? ⟨b1, o1 + k * 4 + 1 + 1, none⟩ = some (.slice pa (ln (am r.num)) (ln (am r.num))) ∧ w'.cell? ⟨b1, o1 + k * 4 + 1 + 2, none⟩ = some (.slice pb (ln r.den) (ln r.den)) ∧ w'.cell? ⟨b2, o2 + k * 4, none⟩ = some (.int .i64 x) ∧ w'.cell? ⟨b2, o2 + k * 4 + 1, none⟩ = some (.bool (ng r.num)) ∧ w'.cell? ⟨b2, o2 + k * 4 + 1 + 1, none⟩ = some (.slice qa (ln (am r.num)) (ln (am r.num))) ∧ w'.cell? ⟨b2, o2 + k * 4 + 1 + 2, none⟩ = some (.slice qb (ln r.den) (ln r.den))) (by kernel_rfl) ⟨kc0, kc1, kc2, kc3, kd0, kd1, kd2, kd3⟩ (fun hHeld => ?_)
      clear kc0 kc1 kc2 kc3 kd0 kd1 kd2 kd3
      generalize w2.drew = w5 at bD hB hHeld ⊢
      clear c0 c1 c2 c3 d0 d1 d2 d3
      refine tk 0 (v := ?_) rfl (Or.inl ⟨by rfl, ?_⟩) ?_
      rotate_left
      · intro w9 hSw
        go_simp
        first | done | with_reducible rfl
      simp only [pP, pN, pS, pZ, pC]
      refine tk 1 (v := ?_) rfl (Or.inl ⟨by rfl, ?_⟩) ?_
      rotate_left
      · intro w9 hSw
        go_simp
        first | done | with_reducible rfl
      simp only [pP, pN, pS, pZ, pC]
      refine tk 2 (v := ?_) rfl (Or.inl ⟨by rfl, ?_⟩) ?_
      rotate_left
      · intro w9 hSw
        go_simp
        first | done | with_reducible rfl
      simp only [pP, pN, pS, pZ, pC]
      refine tk 3 (v := ?_) rfl (Or.inl ⟨by rfl, ?_⟩) ?_
      rotate_left
      · intro w9 hSw
        go_simp
        first | done | with_reducible rfl
      simp only [pP, pN, pS, pZ, pC]
      refine tk 4 (v := ?_) rfl (Or.inl ⟨by rfl, ?_⟩) ?_
      rotate_left
      · intro w9 hSw
        go_simp
        first | done | with_reducible rfl
      simp only [pP, pN, pS, pZ, pC]
      refine tk 5 (v := ?_) rfl (Or.inl ⟨by rfl, ?_⟩) ?_
      rotate_left
      · intro w9 hSw
        go_simp
        first | done | with_reducible rfl
      simp only [pP, pN, pS, pZ, pC]
      refine tk 6 (v := ?_) rfl (Or.inl ⟨by rfl, ?_⟩) ?_
      rotate_left
      · intro w9 hSw
        go_simp
        first | done | with_reducible rfl
      simp only [pP, pN, pS, pZ, pC]
      refine tk 7 (v := ?_) rfl (Or.inl ⟨by rfl, ?_⟩) ?_
      rotate_left
      · intro w9 hSw
        go_simp
        first | done | with_reducible rfl
      simp only [pP, pN, pS, pZ, pC]
      refine tk 8 (v := ?_) rfl (Or.inl ⟨by rfl, ?_⟩) ?_
      rotate_left
      · intro w9 hSw
        go_simp
        first | done | with_reducible rfl
      simp only [pP, pN, pS, pZ, pC]
      refine tk 9 (v := ?_) rfl (Or.inl ⟨by rfl, ?_⟩) ?_
      rotate_left
      · intro w9 hSw
        go_simp
        first | done | with_reducible rfl
      simp only [pP, pN, pS, pZ, pC]
      refine tk 10 (v := ?_) rfl (Or.inl ⟨by rfl, ?_⟩) ?_
      rotate_left
      · intro w9 hSw
        go_simp
        first | done | with_reducible rfl
      simp only [pP, pN, pS, pZ, pC]
      refine tk 11 (v := ?_) rfl (Or.inl ⟨by rfl, ?_⟩) ?_
      rotate_left
      · intro w9 hSw
        go_simp
        first | done | with_reducible rfl
      simp only [pP, pN, pS, pZ, pC]
      refine tk 12 (v := ?_) rfl (Or.inl ⟨by rfl, ?_⟩) ?_
      rotate_left
      · intro w9 hSw
        go_simp
        first | done | with_reducible rfl
      simp only [pP, pN, pS, pZ, pC]
      refine tk 13 (v := ?_) rfl (Or.inl ⟨by rfl, ?_⟩) ?_
      rotate_left
      · intro w9 hSw
        go_simp
        first | done | with_reducible rfl
      simp only [pP, pN, pS, pZ, pC]
      refine tk 14 (v := ?_) rfl (Or.inl ⟨by rfl, ?_⟩) ?_
      rotate_left
      · intro w9 hSw
        go_simp
        first | done | with_reducible rfl
      simp only [pP, pN, pS, pZ, pC]
      refine wpAnyH_done (by kernel_rfl) ?_ _
      go_wp2
      go_roundw
      case rel => exact ⟨k + 1, by omega, by go_num, hB⟩
      case measure => simp [intOf]; omega
    · obtain rfl : k = L.length := by omega
      have i1 : ¬ (L.length : Int) < (L.length : Int) := by omega
      go_wp2
      go_ret
      exact ⟨rfl, hB⟩
set_option maxHeartbeats 1000000 in
theorem SameInt_ne (Z V : Int) (h : Z ≠ V) (ao ao2 : Option Addr) (cap cap2 : Nat) (w : World) (hm : ln (am Z) ≤ 70368744177664) (hm2 : ln (am V) ≤ 70368744177664) (hS : Seg w ao (am Z) (ln (am Z))) (hS2 : Seg w ao2 (am V) (ln (am V))) :
    Calls Tryz.prog 37 #[.agg #[.bool (ng Z), .slice ao (ln (am Z)) cap], .agg #[.bool (ng V), .slice ao2 (ln (am V)) cap2]] w fun e w' => e = .returned (.bool false) ∧ Below w.heap.size w w' := by
  have hB : Below w.heap.size w ((w.alloc (.cells #[.bool (ng Z), .slice ao (ln (am Z)) cap] 27)).alloc (.cells #[.bool (ng V), .slice ao2 (ln (am V)) cap2] 27)) := ((Below.refl _ _).alloc (Nat.le_refl _) _).alloc (by rw [World.size_alloc]; omega) _
  by_cases e : ng Z = ng V
  · have hbb : (ng Z == ng V) = true := by rw [e]; simp
    have hs : sameB (ln (am Z)) (ln (am V)) (am Z) (am V) = false := by
      unfold sameB
      rw [decide_eq_false]
      rintro ⟨_, h2⟩
      apply h
      rw [← sg_na Z, ← sg_na V, e, h2]
    clear e h
    go_enter Tryz.func37, Tryz.ntmps37
    go_wp2_with fail
    refine (SameNat_any ao ao2 _ _ (am Z) _ _ (am V) _ hm hm2 (hS.below hB (Nat.le_refl _)) (hS2.below hB (Nat.le_refl _))).mono ?_
    rintro e w1 ⟨rfl, hd⟩
    go_wp2
    go_ret
    exact ⟨rfl, hB.trans (hd.below _)⟩
  · have hbb : (ng Z == ng V) = false := by rw [beq_eq_false_iff_ne]; exact e
    go_enter Tryz.func37, Tryz.ntmps37
    go_wp2
    go_ret
    exact ⟨rfl, hB⟩
set_option maxHeartbeats 2000000 in
set_option maxRecDepth 100000 in
theorem SameRat_ne (r t : Rat) (h : r ≠ t) (p q p1 q1 : Option Addr) (w : World) (h1 : sz 35184372087808 r) (h2 : sz 35184372087808 t) (hS : Seg w p (am r.num) (ln (am r.num))) (hT : Seg w q r.den (ln r.den)) (hS1 : Seg w p1 (am t.num) (ln (am t.num))) (hT1 : Seg w q1 t.den (ln t.den)) :
    Calls Tryz.prog 17 #[.agg #[.bool (ng r.num), .slice p (ln (am r.num)) (ln (am r.num)), .slice q (ln r.den) (ln r.den)], .agg #[.bool (ng t.num), .slice p1 (ln (am t.num)) (ln (am t.num)), .slice q1 (ln t.den) (ln t.den)]] w fun e w' => e = .returned (.bool false) ∧ Below w.heap.size w w' := by
  have hn1 := h1.1
  have hn2 := h1.2
  have hn3 := h2.1
  have hn4 := h2.2
  by_cases hnum : r.num = t.num
  · have hden : r.den ≠ t.den := fun e => h (Rat.ext hnum e)
    have HI' := fun w' k1 k2 => SameInt_is r.num p p1 (ln (am r.num)) (ln (am r.num)) w' (by omega) k1 k2
    have HN' := fun w' k1 k2 => SameNat_any q q1 (ln r.den) (ln r.den) r.den (ln t.den) (ln t.den) t.den w' (by omega) (by omega) k1 k2
    rw [show sameB (ln r.den) (ln t.den) r.den t.den = false by unfold sameB; rw [decide_eq_false]; rintro ⟨_, e⟩; exact hden e] at HN'
    have HN := hide' HN'
    clear HN'
    rw [← hnum] at hS1 ⊢
    have HI := hide' HI'
    clear HI' hnum hden h
    go_enter Tryz.func17, Tryz.ntmps17
    go_wp2_with fail
    obtain ⟨W, hW⟩ : ∃ W, ((w.alloc (.cells #[.bool (ng r.num), .slice p (ln (am r.num)) (ln (am r.num)), .slice q (ln r.den) (ln r.den)] 29)).alloc (.cells #[.bool (ng r.num), .slice p1 (ln (am r.num)) (ln (am r.num)), .slice q1 (ln t.den) (ln t.den)] 29)) = W := ⟨_, rfl⟩
    have q00 : W.cell? ⟨w.heap.size, 0, none⟩ = some (.bool (ng r.num)) := by subst hW; go_simp
    have q01 : W.cell? ⟨w.heap.size, 1, none⟩ = some (.slice p (ln (am r.num)) (ln (am r.num))) := by subst hW; go_simp
    have q02 : W.cell? ⟨w.heap.size, 2, none⟩ = some (.slice q (ln r.den) (ln r.den)) := by subst hW; go_simp
    have q10 : W.cell? ⟨w.heap.size + 1, 0, none⟩ = some (.bool (ng r.num)) := by subst hW; go_simp
    have q11 : W.cell? ⟨w.heap.size + 1, 1, none⟩ = some (.slice p1 (ln (am r.num)) (ln (am r.num))) := by subst hW; go_simp
    have q12 : W.cell? ⟨w.heap.size + 1, 2, none⟩ = some (.slice q1 (ln t.den) (ln t.den)) := by subst hW; go_simp
    have hB : Below w.heap.size w W := by subst hW; exact (((Below.refl _ _).alloc (by (try simp only [World.size_alloc]); omega) _).alloc (by (try simp only [World.size_alloc]); omega) _)
    have hz : W.heap.size = w.heap.size + 1 + 1 := by subst hW; simp only [World.size_alloc]
    rw [hW]
    clear hW
    have hBW : Below W.heap.size W W := Below.refl _ _
    refine (HI.out _ (sb hS hB hBW) (sb hS1 hB hBW)).mono ?_
    rintro e w1 ⟨rfl, b1⟩
    replace hBW := hBW.trans (b1.mono hBW.size)
    replace q00 := below_cell b1 q00
    replace q01 := below_cell b1 q01
    replace q02 := below_cell b1 q02
    replace q10 := below_cell b1 q10
    replace q11 := below_cell b1 q11
    replace q12 := below_cell b1 q12
    go_wp2_with fail
    refine (HN.out _ (sb hT hB hBW) (sb hT1 hB hBW)).mono ?_
    rintro e2 w2 ⟨rfl, hd⟩
    go_wp2
    go_ret
    exact ⟨rfl, (hB.trans (hBW.mono hB.size)).trans (hd.below _)⟩
  · have HI := hide' (fun w' k1 k2 => SameInt_ne r.num t.num hnum p p1 (ln (am r.num)) (ln (am t.num)) w' (by omega) (by omega) k1 k2)
    go_enter Tryz.func17, Tryz.ntmps17
    go_wp2_with fail
    obtain ⟨W, hW⟩ : ∃ W, ((w.alloc (.cells #[.bool (ng r.num), .slice p (ln (am r.num)) (ln (am r.num)), .slice q (ln r.den) (ln r.den)] 29)).alloc (.cells #[.bool (ng t.num), .slice p1 (ln (am t.num)) (ln (am t.num)), .slice q1 (ln t.den) (ln t.den)] 29)) = W := ⟨_, rfl⟩
    have q00 : W.cell? ⟨w.heap.size, 0, none⟩ = some (.bool (ng r.num)) := by subst hW; go_simp
    have q01 : W.cell? ⟨w.heap.size, 1, none⟩ = some (.slice p (ln (am r.num)) (ln (am r.num))) := by subst hW; go_simp
    have q02 : W.cell? ⟨w.heap.size, 2, none⟩ = some (.slice q (ln r.den) (ln r.den)) := by subst hW; go_simp
    have q10 : W.cell? ⟨w.heap.size + 1, 0, none⟩ = some (.bool (ng t.num)) := by subst hW; go_simp
    have q11 : W.cell? ⟨w.heap.size + 1, 1, none⟩ = some (.slice p1 (ln (am t.num)) (ln (am t.num))) := by subst hW; go_simp
    have q12 : W.cell? ⟨w.heap.size + 1, 2, none⟩ = some (.slice q1 (ln t.den) (ln t.den)) := by subst hW; go_simp
    have hB : Below w.heap.size w W := by subst hW; exact (((Below.refl _ _).alloc (by (try simp only [World.size_alloc]); omega) _).alloc (by (try simp only [World.size_alloc]); omega) _)
    have hz : W.heap.size = w.heap.size + 1 + 1 := by subst hW; simp only [World.size_alloc]
    rw [hW]
    clear hW
    have hBW : Below W.heap.size W W := Below.refl _ _
    refine (HI.out _ (sb hS hB hBW) (sb hS1 hB hBW)).mono ?_
    rintro e w1 ⟨rfl, b1⟩
    replace hBW := hBW.trans (b1.mono hBW.size)
    replace q00 := below_cell b1 q00
    replace q01 := below_cell b1 q01
    replace q02 := below_cell b1 q02
    replace q10 := below_cell b1 q10
    replace q11 := below_cell b1 q11
    replace q12 := below_cell b1 q12
    go_wp2
    go_ret
    exact ⟨rfl, hB.trans (hBW.mono hB.size)⟩
theorem take_eq {l m : Fo} {k : Nat} {a b : Int × Rat} (h : l.take k = m.take k) (ha : l[k]? = some a) (hb : m[k]? = some b) (e : a = b) : l.take (k + 1) = m.take (k + 1) := by
  rw [List.take_add_one, List.take_add_one, h, ha, hb, e]
set_option maxHeartbeats 8000000 in
set_option maxRecDepth 100000 in
theorem SameForm_ne (a : Option Addr) (ca : Nat) (L : List Mo) (b : Option Addr) (cb : Nat) (M : List Mo) (w : World) (hF : FAt w a L) (hG : FAt w b M) (hE : ∀ p ∈ L, Ent w p) (hE2 : ∀ p ∈ M, Ent w p) (hca : L.length ≤ ca) (hcb : M.length ≤ cb) (hm : L.length ≤ 2097152) (hfo : fo L ≠ fo M) :
    Calls Tryz.prog 5 #[.slice a L.length ca, .slice b M.length cb] w fun e w' => e = .returned (.bool false) ∧ Below w.heap.size w w' := by
  by_cases hl : M.length = L.length
  · rw [hl]
    have HF := hide' hfo
    have HL := hide' hl
    rw [hl] at hcb
    clear hfo hl
    go_enter Tryz.func5, Tryz.ntmps5
    go_wp2_with fail
    go_loopw [5] (fun vi wr => ∃ k : Nat, k ≤ L.length ∧ vi = .int .i64 k ∧ Below w.heap.size w wr ∧ (fo L).take k = (fo M).take k) (fun vi _ => L.length - (intOf vi).toNat)
    case atStart => exact ⟨0, Nat.zero_le _, rfl, Below.refl _ _, rfl⟩
    case round =>
      obtain ⟨k, hk, rfl, hB, hT⟩ := hrel
      by_cases hlt : k < L.length
      · obtain ⟨p, hp⟩ : ∃ p, L[k]? = some p := ⟨L[k], List.getElem?_eq_getElem hlt⟩
        obtain ⟨q, hq⟩ : ∃ q, M[k]? = some q := ⟨M[k]'(by rw [HL.out]; exact hlt), List.getElem?_eq_getElem _⟩
        have h1 : (fo L)[k]? = some (p.1, p.2.val) := by unfold fo; rw [List.getElem?_map, hp]; rfl
        have h2 : (fo M)[k]? = some (q.1, q.2.val) := by unfold fo; rw [List.getElem?_map, hq]; rfl
        obtain ⟨b1, o1, rfl, hb1, hcell⟩ := hF (by intro e; rw [e] at hlt; simp at hlt)
        obtain ⟨b2, o2, rfl, hb2, hcell2⟩ := hG (by intro e; have := HL.out; rw [e] at this; simp at this; omega)
        obtain ⟨c0, c1, c2, c3⟩ := hcell k p hp
        obtain ⟨d0, d1, d2, d3⟩ := hcell2 k q hq
        have ep := (hE p (List.mem_of_getElem? hp)).later hB
        have eq := (hE2 q (List.mem_of_getElem? hq)).later hB
        clear hp hq hcell hcell2
        obtain ⟨x, P⟩ := p
        obtain ⟨y, Q⟩ := q
        simp only at c0 c1 c2 c3 d0 d1 d2 d3 h1 h2
        replace c0 := below_cell hB c0
        replace c1 := below_cell hB c1
        replace c2 := below_cell hB c2
        replace c3 := below_cell hB c3
        replace d0 := below_cell hB d0
        replace d1 := below_cell hB d1
        replace d2 := below_cell hB d2
        replace d3 := below_cell hB d3
        have okP : P.ok wr := ep.ok
        have okQ : Q.ok wr := eq.ok
        have eP := low_val (show P.low from ep.low)
        have eQ := low_val (show Q.low from eq.low)
        clear ep eq
        obtain ⟨r, hr⟩ : ∃ r, P.val = r := ⟨_, rfl⟩
        obtain ⟨t, ht⟩ : ∃ t, Q.val = t := ⟨_, rfl⟩
        rw [hr] at eP h1
        rw [ht] at eQ h2
        clear hr ht
        obtain ⟨pa, hpa⟩ : ∃ pa, P.a = pa := ⟨_, rfl⟩
        obtain ⟨pb, hpb⟩ : ∃ pb, P.b = pb := ⟨_, rfl⟩
        obtain ⟨qa, hqa⟩ : ∃ qa, Q.a = qa := ⟨_, rfl⟩
        obtain ⟨qb, hqb⟩ : ∃ qb, Q.b = qb := ⟨_, rfl⟩
        rw [hpa, hpb] at eP
        rw [hqa, hqb] at eQ
        clear hpa hpb hqa hqb
        subst eP eQ
        simp only [RatV.of] at c1 c2 c3 d1 d2 d3
        have g1 : Seg wr pa (am r.num) (ln (am r.num)) := okP.1
        have g2 : Seg wr pb r.den (ln r.den) := okP.2.2.2.1
        have g3 : Seg wr qa (am t.num) (ln (am t.num)) := okQ.1
        have g4 : Seg wr qb t.den (ln t.den) := okQ.2.2.2.1
        have l1 : sz 35184372087808 r := ⟨okP.2.2.1, okP.2.2.2.2.2⟩
        have l2 : sz 35184372087808 t := ⟨okQ.2.2.1, okQ.2.2.2.2.2⟩
        clear okP okQ
        have GS : Hid (∀ w', Seg w' pa (am r.num) (ln (am r.num)) → Seg w' pb r.den (ln r.den) → Seg w' qa (am t.num) (ln (am t.num)) → Seg w' qb t.den (ln t.den) → Calls Tryz.prog 17 #[.agg #[.bool (ng r.num), .slice pa (ln (am r.num)) (ln (am r.num)), .slice pb (ln r.den) (ln r.den)], .agg #[.bool (ng t.num), .slice qa (ln (am t.num)) (ln (am t.num)), .slice qb (ln t.den) (ln t.den)]] w' fun e w'' => e = .returned (.bool (decide (r = t))) ∧ Below w'.heap.size w' w'') := by
          refine hide' (fun w' k1 k2 k3 k4 => ?_)
          by_cases e : r = t
          · subst e; rw [decide_eq_true rfl]; exact SameRat_is r.num r.den pa pb qa qb w' (Nat.le_trans l1.1 (by omega)) (Nat.le_trans l1.2 (by omega)) k1 k2 k3 k4
          · rw [decide_eq_false e]; exact SameRat_ne r t e pa pb qa qb w' l1 l2 k1 k2 k3 k4
        obtain ⟨d, hd⟩ : ∃ d, decide (r = t) = d := ⟨_, rfl⟩
        rw [hd] at GS
        have HX : Hid (x = y → d = true → (fo L).take (k + 1) = (fo M).take (k + 1)) := hide' (fun e1 e2 => take_eq hT h1 h2 (by rw [e1, of_decide_eq_true (hd.trans e2)]))
        clear hd hT h1 h2 l1 l2
        have i1 : (0 : Int) ≤ (k : Int) := by omega
        have i2 : (k : Int) < (L.length : Int) := by omega
        go_wp2_with fail
        have bD : Below wr.heap.size wr wr.drew := (Below.refl _ _).drew
        have kc0 := below_cell bD c0
        have kc1 := below_cell bD c1
        have kc2 := below_cell bD c2
        have kc3 := below_cell bD c3
        have kd0 := below_cell bD d0
        have kd1 := below_cell bD d1
        have kd2 := below_cell bD d2
        have kd3 := below_cell bD d3
        replace hB := hB.trans (bD.mono hB.size)
        replace g1 := g1.later bD
        replace g2 := g2.later bD
        replace g3 := g3.later bD
        replace g4 := g4.later bD
        replace c0 := below_cell bD c0
        replace c1 := below_cell bD c1
        replace c2 := below_cell bD c2
        replace c3 := below_cell bD c3
        replace d0 := below_cell bD d0
        replace d1 := below_cell bD d1
        replace d2 := below_cell bD d2
        replace d3 := below_cell bD d3
        refine wp_region_held_drew (S := fun w' => w'.cell? ⟨b1, o1 + k * 4, none⟩ = some (.int .i64 x) ∧ w'.cell? ⟨b1, o1 + k * 4 + 1, none⟩ = some (.bool (ng r.num)) ∧ w'.cell? ⟨b1, o1 + k * 4 + 1 + 1, none⟩ = some (.slice pa (ln (am r.num)) (ln (am r.num))) ∧ w'.cell? ⟨b1, o1 + k * 4 + 1 + 2, none⟩ = some (.slice pb (ln r.den) (ln r.den)) ∧ w'.cell? ⟨b2, o2 + k * 4, none⟩ = some (.int .i64 y) ∧ w'.cell? ⟨b2, o2 + k * 4 + 1, none⟩ = some (.bool (ng t.num)) ∧ w'.cell? ⟨b2, o2 + k * 4 + 1 + 1, none⟩ = some (.slice qa (ln (am t.num)) (ln (am t.num))) ∧ w'.cell? ⟨b2, o2 + k * 4 + 1 + 2, none⟩ = some (.slice qb (ln t.den) (ln t.den))) (by kernel_rfl) ⟨kc0, kc1, kc2, kc3, kd0, kd1, kd2, kd3⟩ (fun hHeld => ?_)
        clear kc0 kc1 kc2 kc3 kd0 kd1 kd2 kd3
        generalize wr.drew = w0 at bD g1 g2 g3 g4 c0 c1 c2 c3 d0 d1 d2 d3 hB hHeld ⊢
        clear bD
        refine tk 0 (v := ?_) rfl (Or.inl ⟨by rfl, ?_⟩) ?_
        rotate_left
        · intro w9 hSw
          go_simp
          first | done | with_reducible rfl
        simp only [pP, pN, pS, pZ, pC]
        refine tk 1 (v := ?_) rfl (Or.inl ⟨by rfl, ?_⟩) ?_
        rotate_left
        · intro w9 hSw
          go_simp
          first | done | with_reducible rfl
        simp only [pP, pN, pS, pZ, pC]
        refine tk 2 (v := ?_) rfl (Or.inl ⟨by rfl, ?_⟩) ?_
        rotate_left
        · intro w9 hSw
          go_simp
          first | done | with_reducible rfl
        simp only [pP, pN, pS, pZ, pC]
        refine tk 3 (v := ?_) rfl (Or.inl ⟨by rfl, ?_⟩) ?_
        rotate_left
        · intro w9 hSw
          go_simp
          first | done | with_reducible rfl
        simp only [pP, pN, pS, pZ, pC]
        refine tk 4 (v := ?_) rfl (Or.inl ⟨by rfl, ?_⟩) ?_
        rotate_left
        · intro w9 hSw
          go_simp
          first | done | with_reducible rfl
        simp only [pP, pN, pS, pZ, pC]
        refine tk 5 (v := ?_) rfl (Or.inl ⟨by rfl, ?_⟩) ?_
        rotate_left
        · intro w9 hSw
          go_simp
          first | done | with_reducible rfl
        simp only [pP, pN, pS, pZ, pC]
        refine tk 6 (v := ?_) rfl (Or.inl ⟨by rfl, ?_⟩) ?_
        rotate_left
        · intro w9 hSw
          go_simp
          first | done | with_reducible rfl
        simp only [pP, pN, pS, pZ, pC]
        refine tk 7 (v := ?_) rfl (Or.inl ⟨by rfl, ?_⟩) ?_
        rotate_left
        · intro w9 hSw
          go_simp
          first | done | with_reducible rfl
        simp only [pP, pN, pS, pZ, pC]
        refine tk 8 (v := ?_) rfl (Or.inl ⟨by rfl, ?_⟩) ?_
        rotate_left
        · intro w9 hSw
          go_simp
          first | done | with_reducible rfl
        simp only [pP, pN, pS, pZ, pC]
        refine tk 9 (v := ?_) rfl (Or.inl ⟨by rfl, ?_⟩) ?_
        rotate_left
        · intro w9 hSw
          go_simp
          first | done | with_reducible rfl
        simp only [pP, pN, pS, pZ, pC]
        refine wpAnyH_ready (rs := [10]) (by kernel_rfl) (by simp) ?_
        refine cons' rfl (fun KK hKK => ?_)
        go_simp
        refine (GS.out _ g1 g2 g3 g4).mono ?_
        rintro e w2 ⟨rfl, b2⟩
        have bC := b2
        replace hB := hB.trans (bC.mono hB.size)
        replace g1 := g1.later bC
        replace g2 := g2.later bC
        replace g3 := g3.later bC
        replace g4 := g4.later bC
        replace c0 := below_cell bC c0
        replace c1 := below_cell bC c1
        replace c2 := below_cell bC c2
        replace c3 := below_cell bC c3
        replace d0 := below_cell bC d0
        replace d1 := below_cell bC d1
        replace d2 := below_cell bC d2
        replace d3 := below_cell bC d3
        replace hHeld := (⟨below_cell bC hHeld.1, below_cell bC hHeld.2.1, below_cell bC hHeld.2.2.1, below_cell bC hHeld.2.2.2.1, below_cell bC hHeld.2.2.2.2.1, below_cell bC hHeld.2.2.2.2.2.1, below_cell bC hHeld.2.2.2.2.2.2.1, below_cell bC hHeld.2.2.2.2.2.2.2⟩ : _ ∧ _ ∧ _ ∧ _ ∧ _ ∧ _ ∧ _ ∧ _)
        clear bC
        go_wp2_with fail
        refine hKK.out _ _ hHeld ?_
        clear hHeld
        intro hHeld
        clear hKK KK
        try simp only [pP, pN, pS, pZ, pC]
        refine tk 11 (v := ?_) rfl (Or.inl ⟨by rfl, ?_⟩) ?_
        rotate_left
        · intro w9 hSw
          go_simp
          first | done | with_reducible rfl
        simp only [pP, pN, pS, pZ, pC]
        refine wpAnyH_done (by kernel_rfl) ?_ _
        clear hHeld b2
        go_wp2_with fail
        clear g1 g2 g3 g4 GS
        by_cases hxy : x = y
        · subst hxy
          cases d
          · have bD : Below w2.heap.size w2 w2.drew := (Below.refl _ _).drew
            have kc0 := below_cell bD c0
            have kc1 := below_cell bD c1
            have kc2 := below_cell bD c2
            have kc3 := below_cell bD c3
            have kd0 := below_cell bD d0
            have kd1 := below_cell bD d1
            have kd2 := below_cell bD d2
            have kd3 := below_cell bD d3
            replace hB := hB.trans (bD.mono hB.size)
            refine wp_region_held_drew (S := fun w' => w'.cell? ⟨b1, o1 + k * 4, none⟩ = some (.int .i64 x) ∧ w'.cell? ⟨b1, o1 + k * 4 + 1, none⟩ = some (.bool (ng r.num)) ∧ w'.cell? ⟨b1, o1 + k * 4 + 1 + 1, none⟩ = some (.slice pa (ln (am r.num)) (ln (am r.num))) ∧ w'.cell? ⟨b1, o1 + k * 4 + 1 + 2, none⟩ = some (.slice pb (ln r.den) (ln r.den)) ∧ w'.cell? ⟨b2, o2 + k * 4, none⟩ = some (.int .i64 x) ∧ w'.cell? ⟨b2, o2 + k * 4 + 1, none⟩ = some (.bool (ng t.num)) ∧ w'.cell? ⟨b2, o2 + k * 4 + 1 + 1, none⟩ = some (.slice qa (ln (am t.num)) (ln (am t.num))) ∧ w'.cell? ⟨b2, o2 + k * 4 + 1 + 2, none⟩ = some (.slice qb (ln t.den) (ln t.den))) (by kernel_rfl) ⟨kc0, kc1, kc2, kc3, kd0, kd1, kd2, kd3⟩ (fun hHeld => ?_)
            clear kc0 kc1 kc2 kc3 kd0 kd1 kd2 kd3
            generalize w2.drew = w5 at bD hB hHeld ⊢
            clear c0 c1 c2 c3 d0 d1 d2 d3
            refine tk 0 (v := ?_) rfl (Or.inl ⟨by rfl, ?_⟩) ?_
            rotate_left
            · intro w9 hSw
              go_simp
              first | done | with_reducible rfl
            simp only [pP, pN, pS, pZ, pC]
            refine tk 1 (v := ?_) rfl (Or.inl ⟨by rfl, ?_⟩) ?_
            rotate_left
            · intro w9 hSw
              go_simp
              first | done | with_reducible rfl
            simp only [pP, pN, pS, pZ, pC]
            refine tk 2 (v := ?_) rfl (Or.inl ⟨by rfl, ?_⟩) ?_
            rotate_left
            · intro w9 hSw
              go_simp
              first | done | with_reducible rfl
            simp only [pP, pN, pS, pZ, pC]
            refine tk 3 (v := ?_) rfl (Or.inl ⟨by rfl, ?_⟩) ?_
            rotate_left
            · intro w9 hSw
              go_simp
              first | done | with_reducible rfl
            simp only [pP, pN, pS, pZ, pC]
            refine tk 4 (v := ?_) rfl (Or.inl ⟨by rfl, ?_⟩) ?_
            rotate_left
            · intro w9 hSw
              go_simp
              first | done | with_reducible rfl
            simp only [pP, pN, pS, pZ, pC]
            refine tk 5 (v := ?_) rfl (Or.inl ⟨by rfl, ?_⟩) ?_
            rotate_left
            · intro w9 hSw
              go_simp
              first | done | with_reducible rfl
            simp only [pP, pN, pS, pZ, pC]
            refine tk 6 (v := ?_) rfl (Or.inl ⟨by rfl, ?_⟩) ?_
            rotate_left
            · intro w9 hSw
              go_simp
              first | done | with_reducible rfl
            simp only [pP, pN, pS, pZ, pC]
            refine tk 7 (v := ?_) rfl (Or.inl ⟨by rfl, ?_⟩) ?_
            rotate_left
            · intro w9 hSw
              go_simp
              first | done | with_reducible rfl
            simp only [pP, pN, pS, pZ, pC]
            refine tk 8 (v := ?_) rfl (Or.inl ⟨by rfl, ?_⟩) ?_
            rotate_left
            · intro w9 hSw
              go_simp
              first | done | with_reducible rfl
            simp only [pP, pN, pS, pZ, pC]
            refine tk 9 (v := ?_) rfl (Or.inl ⟨by rfl, ?_⟩) ?_
            rotate_left
            · intro w9 hSw
              go_simp
              first | done | with_reducible rfl
            simp only [pP, pN, pS, pZ, pC]
            refine tk 10 (v := ?_) rfl (Or.inl ⟨by rfl, ?_⟩) ?_
            rotate_left
            · intro w9 hSw
              go_simp
              first | done | with_reducible rfl
            simp only [pP, pN, pS, pZ, pC]
            refine tk 11 (v := ?_) rfl (Or.inl ⟨by rfl, ?_⟩) ?_
            rotate_left
            · intro w9 hSw
              go_simp
              first | done | with_reducible rfl
            simp only [pP, pN, pS, pZ, pC]
            refine tk 12 (v := ?_) rfl (Or.inl ⟨by rfl, ?_⟩) ?_
            rotate_left
            · intro w9 hSw
              go_simp
              first | done | with_reducible rfl
            simp only [pP, pN, pS, pZ, pC]
            refine tk 13 (v := ?_) rfl (Or.inl ⟨by rfl, ?_⟩) ?_
            rotate_left
            · intro w9 hSw
              go_simp
              first | done | with_reducible rfl
            simp only [pP, pN, pS, pZ, pC]
            refine tk 14 (v := ?_) rfl (Or.inl ⟨by rfl, ?_⟩) ?_
            rotate_left
            · intro w9 hSw
              go_simp
              first | done | with_reducible rfl
            simp only [pP, pN, pS, pZ, pC]
            refine wpAnyH_done (by kernel_rfl) ?_ _
            go_wp2
            go_ret
            exact ⟨rfl, hB⟩
          · have bD : Below w2.heap.size w2 w2.drew := (Below.refl _ _).drew
            have kc0 := below_cell bD c0
            have kc1 := below_cell bD c1
            have kc2 := below_cell bD c2
            have kc3 := below_cell bD c3
            have kd0 := below_cell bD d0
            have kd1 := below_cell bD d1
            have kd2 := below_cell bD d2
            have kd3 := below_cell bD d3
            replace hB := hB.trans (bD.mono hB.size)
            refine wp_region_held_drew (S := fun w' => w'.cell? ⟨b1, o1 + k * 4, none⟩ = some (.int .i64 x) ∧ w'.cell? ⟨b1, o1 + k * 4 + 1, none⟩ = some (.bool (ng r.num)) ∧ w'.cell? ⟨b1, o1 + k * 4 + 1 + 1, none⟩ = some (.slice pa (ln (am r.num)) (ln (am r.num))) ∧ w'.cell? ⟨b1, o1 + k * 4 + 1 + 2, none⟩ = some (.slice pb (ln r.den) (ln r.den)) ∧ w'.cell? ⟨b2, o2 + k * 4, none⟩ = some (.int .i64 x) ∧ w'.cell? ⟨b2, o2 + k * 4 + 1, none⟩ = some (.bool (ng t.num)) ∧ w'.cell? ⟨b2, o2 + k * 4 + 1 + 1, none⟩ = some (.slice qa (ln (am t.num)) (ln (am t.num))) ∧ w'.cell? ⟨b2, o2 + k * 4 + 1 + 2, none⟩ = some (.slice qb (ln t.den) (ln t.den))) (by kernel_rfl) ⟨kc0, kc1, kc2, kc3, kd0, kd1, kd2, kd3⟩ (fun hHeld => ?_)
            clear kc0 kc1 kc2 kc3 kd0 kd1 kd2 kd3
            generalize w2.drew = w5 at bD hB hHeld ⊢
            clear c0 c1 c2 c3 d0 d1 d2 d3
            refine tk 0 (v := ?_) rfl (Or.inl ⟨by rfl, ?_⟩) ?_
            rotate_left
            · intro w9 hSw
              go_simp
              first | done | with_reducible rfl
            simp only [pP, pN, pS, pZ, pC]
            refine tk 1 (v := ?_) rfl (Or.inl ⟨by rfl, ?_⟩) ?_
            rotate_left
            · intro w9 hSw
              go_simp
              first | done | with_reducible rfl
            simp only [pP, pN, pS, pZ, pC]
            refine tk 2 (v := ?_) rfl (Or.inl ⟨by rfl, ?_⟩) ?_
            rotate_left
            · intro w9 hSw
              go_simp
              first | done | with_reducible rfl
            simp only [pP, pN, pS, pZ, pC]
            refine tk 3 (v := ?_) rfl (Or.inl ⟨by rfl, ?_⟩) ?_
            rotate_left
            · intro w9 hSw
              go_simp
              first | done | with_reducible rfl
            simp only [pP, pN, pS, pZ, pC]
            refine tk 4 (v := ?_) rfl (Or.inl ⟨by rfl, ?_⟩) ?_
            rotate_left
            · intro w9 hSw
              go_simp
              first | done | with_reducible rfl
            simp only [pP, pN, pS, pZ, pC]
            refine tk 5 (v := ?_) rfl (Or.inl ⟨by rfl, ?_⟩) ?_
            rotate_left
            · intro w9 hSw
              go_simp
              first | done | with_reducible rfl
            simp only [pP, pN, pS, pZ, pC]
            refine tk 6 (v := ?_) rfl (Or.inl ⟨by rfl, ?_⟩) ?_
            rotate_left
            · intro w9 hSw
              go_simp
              first | done | with_reducible rfl
            simp only [pP, pN, pS, pZ, pC]
            refine tk 7 (v := ?_) rfl (Or.inl ⟨by rfl, ?_⟩) ?_
            rotate_left
            · intro w9 hSw
              go_simp
              first | done | with_reducible rfl
            simp only [pP, pN, pS, pZ, pC]
            refine tk 8 (v := ?_) rfl (Or.inl ⟨by rfl, ?_⟩) ?_
            rotate_left
            · intro w9 hSw
              go_simp
              first | done | with_reducible rfl
            simp only [pP, pN, pS, pZ, pC]
            refine tk 9 (v := ?_) rfl (Or.inl ⟨by rfl, ?_⟩) ?_
            rotate_left
            · intro w9 hSw
              go_simp
              first | done | with_reducible rfl
            simp only [pP, pN, pS, pZ, pC]
            refine tk 10 (v := ?_) rfl (Or.inl ⟨by rfl, ?_⟩) ?_
            rotate_left
            · intro w9 hSw
              go_simp
              first | done | with_reducible rfl
            simp only [pP, pN, pS, pZ, pC]
            refine tk 11 (v := ?_) rfl (Or.inl ⟨by rfl, ?_⟩) ?_
            rotate_left
            · intro w9 hSw
              go_simp
              first | done | with_reducible rfl
            simp only [pP, pN, pS, pZ, pC]
            refine tk 12 (v := ?_) rfl (Or.inl ⟨by rfl, ?_⟩) ?_
            rotate_left
            · intro w9 hSw
              go_simp
              first | done | with_reducible rfl
            simp only [pP, pN, pS, pZ, pC]
            refine tk 13 (v := ?_) rfl (Or.inl ⟨by rfl, ?_⟩) ?_
            rotate_left
            · intro w9 hSw
              go_simp
              first | done | with_reducible rfl
            simp only [pP, pN, pS, pZ, pC]
            refine tk 14 (v := ?_) rfl (Or.inl ⟨by rfl, ?_⟩) ?_
            rotate_left
            · intro w9 hSw
              go_simp
              first | done | with_reducible rfl
            simp only [pP, pN, pS, pZ, pC]
            refine wpAnyH_done (by kernel_rfl) ?_ _
            go_wp2
            go_roundw
            case rel => exact ⟨k + 1, by omega, by go_num, hB, HX.out rfl rfl⟩
            case measure => simp [intOf]; omega
        · have hxb : (x == y) = false := beq_eq_false_iff_ne.2 hxy
          have hxn : (x != y) = true := by unfold bne; rw [hxb]; rfl
          have hxd : decide (x = y) = false := decide_eq_false hxy
          have bD : Below w2.heap.size w2 w2.drew := (Below.refl _ _).drew
          have kc0 := below_cell bD c0
          have kc1 := below_cell bD c1
          have kc2 := below_cell bD c2
          have kc3 := below_cell bD c3
          have kd0 := below_cell bD d0
          have kd1 := below_cell bD d1
          have kd2 := below_cell bD d2
          have kd3 := below_cell bD d3
          replace hB := hB.trans (bD.mono hB.size)
          refine wp_region_held_drew (S := fun w' => w'.cell? ⟨b1, o1 + k * 4, none⟩ = some (.int .i64 x) ∧ w'.cell? ⟨b1, o1 + k * 4 + 1, none⟩ = some (.bool (ng r.num)) ∧ w'.cell? ⟨b1, o1 + k * 4 + 1 + 1, none⟩ = some (.slice pa (ln (am r.num)) (ln (am r.num))) ∧ w'.cell? ⟨b1, o1 + k * 4 + 1 + 2, none⟩ = some (.slice pb (ln r.den) (ln r.den)) ∧ w'.cell? ⟨b2, o2 + k * 4, none⟩ = some (.int .i64 y) ∧ w'.cell? ⟨b2, o2 + k * 4 + 1, none⟩ = some (.bool (ng t.num)) ∧ w'.cell? ⟨b2, o2 + k * 4 + 1 + 1, none⟩ = some (.slice qa (ln (am t.num)) (ln (am t.num))) ∧ w'.cell? ⟨b2, o2 + k * 4 + 1 + 2, none⟩ = some (.slice qb (ln t.den) (ln t.den))) (by kernel_rfl) ⟨kc0, kc1, kc2, kc3, kd0, kd1, kd2, kd3⟩ (fun hHeld => ?_)
          clear kc0 kc1 kc2 kc3 kd0 kd1 kd2 kd3
          generalize w2.drew = w5 at bD hB hHeld ⊢
          clear c0 c1 c2 c3 d0 d1 d2 d3
          refine tk 0 (v := ?_) rfl (Or.inl ⟨by rfl, ?_⟩) ?_
          rotate_left
          · intro w9 hSw
            go_simp
            first | done | with_reducible rfl
          simp only [pP, pN, pS, pZ, pC]
          refine tk 1 (v := ?_) rfl (Or.inl ⟨by rfl, ?_⟩) ?_
          rotate_left
          · intro w9 hSw
            go_simp
            first | done | with_reducible rfl
          simp only [pP, pN, pS, pZ, pC]
          refine tk 2 (v := ?_) rfl (Or.inl ⟨by rfl, ?_⟩) ?_
          rotate_left
          · intro w9 hSw
            go_simp
            first | done | with_reducible rfl
          simp only [pP, pN, pS, pZ, pC]
          refine tk 3 (v := ?_) rfl (Or.inl ⟨by rfl, ?_⟩) ?_
          rotate_left
          · intro w9 hSw
            go_simp
            first | done | with_reducible rfl
          simp only [pP, pN, pS, pZ, pC]
          refine tk 4 (v := ?_) rfl (Or.inl ⟨by rfl, ?_⟩) ?_
          rotate_left
          · intro w9 hSw
            go_simp
            first | done | with_reducible rfl
          simp only [pP, pN, pS, pZ, pC]
          refine tk 5 (v := ?_) rfl (Or.inl ⟨by rfl, ?_⟩) ?_
          rotate_left
          · intro w9 hSw
            go_simp
            first | done | with_reducible rfl
          simp only [pP, pN, pS, pZ, pC]
          refine tk 6 (v := ?_) rfl (Or.inl ⟨by rfl, ?_⟩) ?_
          rotate_left
          · intro w9 hSw
            go_simp
            first | done | with_reducible rfl
          simp only [pP, pN, pS, pZ, pC]
          refine tk 7 (v := ?_) rfl (Or.inl ⟨by rfl, ?_⟩) ?_
          rotate_left
          · intro w9 hSw
            go_simp
            first | done | with_reducible rfl
          simp only [pP, pN, pS, pZ, pC]
          refine tk 8 (v := ?_) rfl (Or.inl ⟨by rfl, ?_⟩) ?_
          rotate_left
          · intro w9 hSw
            go_simp
            first | done | with_reducible rfl
          simp only [pP, pN, pS, pZ, pC]
          refine tk 9 (v := ?_) rfl (Or.inl ⟨by rfl, ?_⟩) ?_
          rotate_left
          · intro w9 hSw
            go_simp
            first | done | with_reducible rfl
          simp only [pP, pN, pS, pZ, pC]
          refine tk 10 (v := ?_) rfl (Or.inl ⟨by rfl, ?_⟩) ?_
          rotate_left
          · intro w9 hSw
            go_simp
            first | done | with_reducible rfl
          simp only [pP, pN, pS, pZ, pC]
          refine tk 11 (v := ?_) rfl (Or.inl ⟨by rfl, ?_⟩) ?_
          rotate_left
          · intro w9 hSw
            go_simp
            first | done | with_reducible rfl
          simp only [pP, pN, pS, pZ, pC]
          refine tk 12 (v := undef) rfl (Or.inr ⟨by rfl, rfl⟩) ?_
          simp only [pP, pN, pS, pZ, pC]
          refine tk 13 (v := undef) rfl (Or.inr ⟨by rfl, rfl⟩) ?_
          simp only [pP, pN, pS, pZ, pC]
          refine tk 14 (v := ?_) rfl (Or.inl ⟨by rfl, ?_⟩) ?_
          rotate_left
          · intro w9 hSw
            go_simp
            first | done | with_reducible rfl
          simp only [pP, pN, pS, pZ, pC]
          refine wpAnyH_done (by kernel_rfl) ?_ _
          go_wp2
          go_ret
          exact ⟨rfl, hB⟩
      · obtain rfl : k = L.length := by omega
        exfalso
        have h1 : (fo M).length = L.length := by rw [fo_length]; exact HL.out
        rw [List.take_of_length_le (by rw [fo_length]; omega), List.take_of_length_le (by omega)] at hT
        exact HF.out hT
  · have i0 : ¬ ((L.length : Nat) : Int) = ((M.length : Nat) : Int) := by omega
    have ib : (((L.length : Nat) : Int) == ((M.length : Nat) : Int)) = false := beq_eq_false_iff_ne.2 i0
    go_enter Tryz.func5, Tryz.ntmps5
    go_wp2
    go_ret
    exact ⟨rfl, Below.refl _ _⟩
end Go.Proofs.YtebbehlfocpjhaaGreat
