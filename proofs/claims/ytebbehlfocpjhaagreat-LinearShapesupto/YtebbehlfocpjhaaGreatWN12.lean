import Derived.Test.YtebbehlfocpjhaaGreatWN11
import Derived.Test.YtebbehlfocpjhaaGreatWQ9
import Derived.Test.YtebbehlfocpjhaaGreatWQE
set_option linter.unusedSimpArgs false
namespace Go.Proofs.YtebbehlfocpjhaaGreat
open Go.RowKit
set_option linter.unusedVariables false
theorem nfm_two (x : Int) : nfm ([(x, 1)] ++ [(x, 1)]) = [(x, 2)] := by
  refine (nfm_uniq ?_ fun y => ?_).symm
  · exact nrm.nil.cons (fun q hq => absurd hq (by simp)) (by show (2 : Rat) ≠ 0; decide)
  · simp only [List.cons_append, List.nil_append, co]
    split <;> grind
set_option maxHeartbeats 2000000 in
set_option maxRecDepth 100000 in
theorem unit_is (x : Int) (w : World) : Calls Tryz.prog 29 #[.int .i64 x] w (FAns w [(x, 1)]) := by
  have G : ∀ w', Calls Tryz.prog 30 #[.int .i64 1] w' fun e w'' => ∃ p q, e = .returned (.agg #[.bool (ng (1 : Rat).num), .slice p (ln (am (1 : Rat).num)) (ln (am (1 : Rat).num)), .slice q (ln (1 : Rat).den) (ln (1 : Rat).den)]) ∧ New w' w'' p (am (1 : Rat).num) (ln (am (1 : Rat).num)) ∧ New w' w'' q (1 : Rat).den (ln (1 : Rat).den) := fun w' => vqWhole_is 1 w' (by omega) (by omega)
  have l1 : ln (am (1 : Rat).num) ≤ 35184372087808 := by show ln (am 1) ≤ _; rw [show am 1 = 1 from rfl, ln_one]; omega
  have l2 : ln (1 : Rat).den ≤ 35184372087808 := by show ln 1 ≤ _; rw [ln_one]; omega
  obtain ⟨r, hr⟩ : ∃ r : Rat, (1 : Rat) = r := ⟨_, rfl⟩
  rw [hr] at G l1 l2 ⊢
  clear hr
  replace G := hide' G
  go_enter Tryz.func29, Tryz.ntmps29
  go_wp2_with fail
  refine (G.out _).mono ?_
  rintro e w1 ⟨p, q, rfl, n1, n2⟩
  go_wp2_with fail
  have f4 := four_new w1 (.int .i64 x) (.bool (ng r.num)) (.slice p (ln (am r.num)) (ln (am r.num))) (.slice q (ln r.den) (ln r.den)) 42
  have b4 := below_alloc (w := w1) (.cells #[.int .i64 x, .bool (ng r.num), .slice p (ln (am r.num)) (ln (am r.num)), .slice q (ln r.den) (ln r.den)] 42)
  have bT := n1.below.trans (b4.mono n1.below.size)
  have I1 : FAns w [(x, r)] (.returned (.slice (some ⟨w1.heap.size, 0, none⟩) 1 1)) (w1.alloc (.cells #[.int .i64 x, .bool (ng r.num), .slice p (ln (am r.num)) (ln (am r.num)), .slice q (ln r.den) (ln r.den)] 42)) := by
    refine ⟨_, 1, [(x, RatV.of r.num r.den p q)], rfl, bT, ⟨fun _ => ⟨w1.heap.size, 0, rfl, by simp only [World.size_alloc]; omega, fun i y hi => ?_⟩, Nat.le_refl _, fun h => by cases h⟩, fun y hy => ?_, ?_⟩
    · match i, hi with
      | 0, hi => obtain rfl := Option.some.inj hi; exact ⟨f4.1.1, f4.1.2.1, f4.1.2.2.1, f4.1.2.2.2⟩
    · rw [List.mem_singleton] at hy; subst hy; exact ⟨⟨n1.seg.later b4, Nat.le_refl _, l1, n2.seg.later b4, Nat.le_refl _, l2⟩, ofR_low r p q⟩
    · show [(x, (RatV.of r.num r.den p q).val)] = _; rw [val_ofR]
  replace I1 := hide' I1
  clear f4 b4 bT n1 n2
  go_wp2
  go_ret
  exact I1.out
set_option maxHeartbeats 4000000 in
set_option maxRecDepth 100000 in
theorem awake_is (w : World) : Calls Tryz.prog 12 #[] w fun e w' => e = .returned (.bool true) ∧ Below w.heap.size w w' := by
  have ht : thin [((3 : Int), (1 : Rat))] := thin_of (by show wt 1 + 0 + 1 ≤ _; unfold wt; show ln (am 1) + ln 1 + 1 + 0 + 1 ≤ _; rw [show am 1 = 1 from rfl, ln_one]; omega)
  have hE : ∀ {w' : World} {R : List Mo}, (∀ p ∈ R, Ent w' p) → fo R = [((3 : Int), (1 : Rat))] → R.length = 1 ∧ ∀ p ∈ R, p.2.ok w' ∧ p.2.m < 35184372087808 := fun {w' R} he hf => by
    have hl : R.length = 1 := by rw [← fo_length, hf]; rfl
    refine ⟨hl, fun p hp => ⟨(he p hp).ok, ?_⟩⟩
    have h1 : (p.1, p.2.val) ∈ fo R := List.mem_map.2 ⟨p, hp, rfl⟩
    rw [hf, List.mem_singleton] at h1
    have h2 : p.2.val = 1 := congrArg Prod.snd h1
    rw [(low_ns (he p hp).low).2, h2]
    show ln 1 < _
    rw [ln_one]; omega
  have G2 := hide' (fun w' a1 c1 (R1 : List Mo) a2 c2 (R2 : List Mo) (s1 : Sl w' a1 c1 R1) (e1 : ∀ p ∈ R1, Ent w' p) (f1 : fo R1 = [((3 : Int), (1 : Rat))]) (s2 : Sl w' a2 c2 R2) (e2 : ∀ p ∈ R2, Ent w' p) (f2 : fo R2 = [((3 : Int), (1 : Rat))]) => lAdd_is a1 c1 R1 a2 c2 R2 w' s1.lies (hE e1 f1).2 s1.len (by rw [(hE e1 f1).1]; omega) (by rw [f1]; exact ht) s2.lies (hE e2 f2).2 s2.len (by rw [(hE e2 f2).1]; omega) (by rw [f2]; exact ht))
  have G3 : ∀ w', Calls Tryz.prog 30 #[.int .i64 2] w' fun e w'' => ∃ p q, e = .returned (.agg #[.bool (ng (2 : Rat).num), .slice p (ln (am (2 : Rat).num)) (ln (am (2 : Rat).num)), .slice q (ln (2 : Rat).den) (ln (2 : Rat).den)]) ∧ New w' w'' p (am (2 : Rat).num) (ln (am (2 : Rat).num)) ∧ New w' w'' q (2 : Rat).den (ln (2 : Rat).den) := fun w' => vqWhole_is 2 w' (by omega) (by omega)
  have l1 : ln (am (2 : Rat).num) ≤ 2 := by show ln (am 2) ≤ _; exact ln_le_of_lt (by rw [BB2]; show 2 < _; omega)
  have l2 : ln (2 : Rat).den ≤ 2 := by show ln 1 ≤ _; rw [ln_one]; omega
  have H2 := nfm_two 3
  obtain ⟨r, hr⟩ : ∃ r : Rat, (2 : Rat) = r := ⟨_, rfl⟩
  rw [hr] at G3 l1 l2 H2
  clear hr
  replace G3 := hide' G3
  have G4 := hide' (fun w' p q p1 q1 k1 k2 k3 k4 => vqCmp_is (ng r.num) p (ln (am r.num)) (ln (am r.num)) (am r.num) q (ln r.den) (ln r.den) r.den (ng r.num) p1 (ln (am r.num)) (ln (am r.num)) (am r.num) q1 (ln r.den) (ln r.den) r.den 0 w' (Nat.le_refl _) (by omega) k1 (Nat.le_refl _) (by omega) k2 (Nat.le_refl _) (by omega) k3 (Nat.le_refl _) (by omega) k4 (by rw [Int.sub_self]; rfl))
  replace ht := hide' ht
  clear hE
  go_enter Tryz.func12, Tryz.ntmps12
  go_wp2_with fail
  refine (unit_is 3 _).mono ?_
  rintro e w1 ⟨a1, c1, R1, rfl, b1, s1, e1, f1⟩
  go_wp2_with fail
  refine (unit_is 3 _).mono ?_
  rintro e w2 ⟨a2, c2, R2, rfl, b2, s2, e2, f2⟩
  replace s1 := s1.later b2
  replace e1 := fun p hp => (e1 p hp).later b2
  replace b1 := b1.trans (b2.mono b1.size)
  clear b2
  go_wp2_with fail
  refine (G2.out _ a1 c1 R1 a2 c2 R2 s1 e1 f1 s2 e2 f2).mono ?_
  rintro e w3 ⟨a3, c3, R3, rfl, b3, s3, e3, f3⟩
  rw [f1, f2, H2] at f3
  replace b1 := b1.trans (b3.mono b1.size)
  clear b3 s1 s2 e1 e2 f1 f2 G2 H2 ht
  obtain ⟨x, q, rfl⟩ : ∃ x q, R3 = [(x, q)] := by
    match R3, f3 with
    | [(x, q)], _ => exact ⟨x, q, rfl⟩
  have hx : x = 3 ∧ q.val = r := by have h := List.head_eq_of_cons_eq f3; simpa using h
  obtain ⟨rfl, hq⟩ := hx
  have hen := e3 (3, q) List.mem_cons_self
  have eq := low_val (show q.low from hen.low)
  rw [hq] at eq
  have ok : q.ok w3 := hen.ok
  clear hq hen e3 f3
  obtain ⟨pa, hpa⟩ : ∃ pa, q.a = pa := ⟨_, rfl⟩
  obtain ⟨pb, hpb⟩ : ∃ pb, q.b = pb := ⟨_, rfl⟩
  rw [hpa, hpb] at eq
  clear hpa hpb
  subst eq
  obtain ⟨bb, off, rfl, hb, ⟨d0, d1, d2, d3⟩, _⟩ := s3.lies.head
  have hc3 : 1 ≤ c3 := s3.len
  simp only [RatV.of] at d0 d1 d2 d3
  have g1 : Seg w3 pa (am r.num) (ln (am r.num)) := ok.1
  have g2 : Seg w3 pb r.den (ln r.den) := ok.2.2.2.1
  clear ok s3
  rw [show ([((3 : Int), RatV.of r.num r.den pa pb)] : List Mo).length = 1 from rfl]
  go_wp2_with fail
  have bD : Below w3.heap.size w3 w3.drew := (Below.refl _ _).drew
  have kd0 := below_cell bD d0
  have kd1 := below_cell bD d1
  have kd2 := below_cell bD d2
  have kd3 := below_cell bD d3
  replace b1 := b1.trans (bD.mono b1.size)
  replace g1 := g1.later bD
  replace g2 := g2.later bD
  refine wp_region_held_drew (S := fun w' => w'.cell? ⟨bb, off, none⟩ = some (.int .i64 3) ∧ w'.cell? ⟨bb, off + 1, none⟩ = some (.bool (ng r.num)) ∧ w'.cell? ⟨bb, off + 1 + 1, none⟩ = some (.slice pa (ln (am r.num)) (ln (am r.num))) ∧ w'.cell? ⟨bb, off + 1 + 2, none⟩ = some (.slice pb (ln r.den) (ln r.den))) (by kernel_rfl) ⟨kd0, kd1, kd2, kd3⟩ (fun hHeld => ?_)
  clear kd0 kd1 kd2 kd3
  generalize w3.drew = w0 at bD g1 g2 b1 hHeld ⊢
  clear d0 d1 d2 d3 bD
  refine tk 0 (v := ?_) rfl (Or.inl ⟨by rfl, ?_⟩) ?_
  rotate_left
  · intro w9 hSw
    go_simp
    first | done | with_reducible rfl
  simp only [pP, pN, pS, pZ, pC]
  refine tk 1 (v := ?_) rfl (Or.inl ⟨by rfl, ?_⟩) ?_
  rotate_left
  · intro w9 hSw
    go_simp
    first | done | with_reducible rfl
  simp only [pP, pN, pS, pZ, pC]
  refine tk 2 (v := ?_) rfl (Or.inl ⟨by rfl, ?_⟩) ?_
  rotate_left
  · intro w9 hSw
    go_simp
    first | done | with_reducible rfl
  simp only [pP, pN, pS, pZ, pC]
  refine tk 3 (v := ?_) rfl (Or.inl ⟨by rfl, ?_⟩) ?_
  rotate_left
  · intro w9 hSw
    go_simp
    first | done | with_reducible rfl
  simp only [pP, pN, pS, pZ, pC]
  refine tk 4 (v := ?_) rfl (Or.inl ⟨by rfl, ?_⟩) ?_
  rotate_left
  · intro w9 hSw
    go_simp
    first | done | with_reducible rfl
  simp only [pP, pN, pS, pZ, pC]
  refine tk 5 (v := ?_) rfl (Or.inl ⟨by rfl, ?_⟩) ?_
  rotate_left
  · intro w9 hSw
    go_simp
    first | done | with_reducible rfl
  simp only [pP, pN, pS, pZ, pC]
  refine tk 6 (v := ?_) rfl (Or.inl ⟨by rfl, ?_⟩) ?_
  rotate_left
  · intro w9 hSw
    go_simp
    first | done | with_reducible rfl
  simp only [pP, pN, pS, pZ, pC]
  refine tk 7 (v := ?_) rfl (Or.inl ⟨by rfl, ?_⟩) ?_
  rotate_left
  · intro w9 hSw
    go_simp
    first | done | with_reducible rfl
  simp only [pP, pN, pS, pZ, pC]
  refine tk 8 (v := ?_) rfl (Or.inl ⟨by rfl, ?_⟩) ?_
  rotate_left
  · intro w9 hSw
    go_simp
    first | done | with_reducible rfl
  simp only [pP, pN, pS, pZ, pC]
  refine tk 9 (v := ?_) rfl (Or.inl ⟨by rfl, ?_⟩) ?_
  rotate_left
  · intro w9 hSw
    go_simp
    first | done | with_reducible rfl
  simp only [pP, pN, pS, pZ, pC]
  refine tk 10 (v := ?_) rfl (Or.inl ⟨by rfl, ?_⟩) ?_
  rotate_left
  · intro w9 hSw
    go_simp
    first | done | with_reducible rfl
  simp only [pP, pN, pS, pZ, pC]
  refine tk 11 (v := ?_) rfl (Or.inl ⟨by rfl, ?_⟩) ?_
  rotate_left
  · intro w9 hSw
    go_simp
    first | done | with_reducible rfl
  simp only [pP, pN, pS, pZ, pC]
  refine tk 12 (v := ?_) rfl (Or.inl ⟨by rfl, ?_⟩) ?_
  rotate_left
  · intro w9 hSw
    go_simp
    first | done | with_reducible rfl
  simp only [pP, pN, pS, pZ, pC]
  refine tk 13 (v := ?_) rfl (Or.inl ⟨by rfl, ?_⟩) ?_
  rotate_left
  · intro w9 hSw
    go_simp
    first | done | with_reducible rfl
  simp only [pP, pN, pS, pZ, pC]
  refine tk 14 (v := ?_) rfl (Or.inl ⟨by rfl, ?_⟩) ?_
  rotate_left
  · intro w9 hSw
    go_simp
    first | done | with_reducible rfl
  simp only [pP, pN, pS, pZ, pC]
  refine wpAnyH_ready (rs := [15]) (by kernel_rfl) (by simp) ?_
  refine cons' rfl (fun KK hKK => ?_)
  go_simp
  refine (G3.out _).mono ?_
  rintro e w5 ⟨p5, q5, rfl, n5, n6⟩
  have bC := n5.below
  replace b1 := b1.trans (bC.mono b1.size)
  replace g1 := g1.later bC
  replace g2 := g2.later bC
  replace hHeld := (⟨below_cell bC hHeld.1, below_cell bC hHeld.2.1, below_cell bC hHeld.2.2.1, below_cell bC hHeld.2.2.2⟩ : _ ∧ _ ∧ _ ∧ _)
  clear bC
  go_wp2_with fail
  refine hKK.out _ _ hHeld ?_
  clear hHeld
  intro hHeld
  clear hKK KK
  try simp only [pP, pN, pS, pZ, pC]
  have k5 := n5.seg
  have k6 := n6.seg
  clear n5 n6
  refine wpAnyH_ready (rs := [16]) (by kernel_rfl) (by simp) ?_
  refine cons' rfl (fun KK hKK => ?_)
  go_simp
  refine (G4.out _ pa pb p5 q5 g1 g2 k5 k6).mono ?_
  rintro e w6 ⟨rfl, b6⟩
  have bC := b6
  replace b1 := b1.trans (bC.mono b1.size)
  replace g1 := g1.later bC
  replace g2 := g2.later bC
  replace hHeld := (⟨below_cell bC hHeld.1, below_cell bC hHeld.2.1, below_cell bC hHeld.2.2.1, below_cell bC hHeld.2.2.2⟩ : _ ∧ _ ∧ _ ∧ _)
  clear bC
  go_wp2_with fail
  refine hKK.out _ _ hHeld ?_
  clear hHeld
  intro hHeld
  clear hKK KK
  try simp only [pP, pN, pS, pZ, pC]
  refine tk 17 (v := ?_) rfl (Or.inl ⟨by rfl, ?_⟩) ?_
  rotate_left
  · intro w9 hSw
    go_simp
    first | done | with_reducible rfl
  simp only [pP, pN, pS, pZ, pC]
  refine tk 18 (v := ?_) rfl (Or.inl ⟨by rfl, ?_⟩) ?_
  rotate_left
  · intro w9 hSw
    go_simp
    first | done | with_reducible rfl
  simp only [pP, pN, pS, pZ, pC]
  refine tk 19 (v := ?_) rfl (Or.inl ⟨by rfl, ?_⟩) ?_
  rotate_left
  · intro w9 hSw
    go_simp
    first | done | with_reducible rfl
  simp only [pP, pN, pS, pZ, pC]
  refine wpAnyH_done (by kernel_rfl) ?_ _
  go_wp2
  go_ret
  exact ⟨rfl, b1⟩
end Go.Proofs.YtebbehlfocpjhaaGreat
