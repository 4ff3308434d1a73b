import Derived.Test.YtejlnodillnoaaaGreatDoorWSG
import Derived.Test.YtejlnodillnoaaaGreatDoorNumN3
import Derived.Test.YtejlnodillnoaaaGreatDoorWQH
set_option linter.unusedSimpArgs false
namespace Go.Proofs.YtejlnodillnoaaaGreatDoor
open Go.RowKit
set_option linter.unusedVariables false
theorem sz_div {A D : Int} {N : Nat} (hD : D ≠ 0) (hA : am A < BB ^ N) (hd : am D < BB ^ N) : sz N (Rat.divInt A D) := by
  have h := (low_of (A := A) (D := D) hD rfl).le
  exact ⟨ln_le_of_lt (Nat.lt_of_le_of_lt h.1 hA), ln_le_of_lt (Nat.lt_of_le_of_lt h.2 hd)⟩
theorem fl_rep {r e a b : Int} (he : 0 < e) (hb : 0 < b) (h : r * b = a * e) : Fl r e (a / b) (r - a / b * e) := by
  have h1 : a / b * b ≤ a := Int.ediv_mul_le a (by omega)
  have h2 := Int.emod_lt_of_pos a hb
  have h3 := Int.emod_add_mul_ediv a b
  refine ⟨by omega, ?_, ?_⟩
  · have h4 : a / b * b * e ≤ a * e := Int.mul_le_mul_of_nonneg_right h1 (by omega)
    have h5 : a / b * e * b ≤ r * b := by
      have : a / b * e * b = a / b * b * e := by grind
      omega
    have := Int.le_of_mul_le_mul_right h5 hb
    omega
  · have h4 : a * e < (b * (a / b) + b) * e := Int.mul_lt_mul_of_pos_right (by omega) he
    have h5 : r * b < (a / b * e + e) * b := by
      have : (b * (a / b) + b) * e = (a / b * e + e) * b := by grind
      omega
    have := Int.lt_of_mul_lt_mul_right h5 (by omega)
    omega
theorem val_rep {A : RatV} {a b : Int} (hb : 0 < b) (h : A.val = Rat.divInt a b) : rn A.s A.X A.Y * b = a * ((rd A.Y : Nat) : Int) := by
  unfold RatV.val at h
  exact (Rat.divInt_eq_divInt_iff (rd_ne _) (by omega)).1 h
theorem sR_diff {x y : Rat} {a b c d : Int} (hb : 0 < b) (hd : 0 < d) (hx : x = Rat.divInt a b) (hy : y = Rat.divInt c d) : sR (x - y) = sgn (a * d - c * b) := by
  rw [hx, hy, Rat.divInt_sub_divInt _ _ (by omega) (by omega)]
  exact sR_divInt (Int.mul_pos hb hd)
theorem dv1 (f : Int) : Rat.divInt f 1 = (f : Rat) := Rat.num_divInt_den (f : Rat)
theorem sub_int {x : Rat} {a b f : Int} (hb : 0 < b) (hx : x = Rat.divInt a b) : x - (f : Rat) = Rat.divInt (a - f * b) b := by
  rw [hx, show (f : Rat) = Rat.divInt f 1 from (dv1 f).symm, Rat.divInt_sub_divInt _ _ (by omega) (by omega), Int.mul_one, Int.mul_one]
theorem int_one (f : Int) : (f : Rat) + 1 = Rat.divInt (f + 1) 1 := by
  rw [dv1, Rat.intCast_add]; rfl
theorem int_add {f q p : Int} (hp : 0 < p) : (f : Rat) + Rat.divInt q p = Rat.divInt (f * p + q) p := by
  rw [show (f : Rat) = Rat.divInt f 1 from (dv1 f).symm, Rat.divInt_add_divInt _ _ (by omega) (by omega), Int.mul_one, Int.one_mul]
theorem am_ltS {z k : Int} {N : Nat} (h0 : 0 ≤ z) (h : z ≤ k) (hk : am k < BB ^ N) : am z < BB ^ N := by unfold am at *; omega
theorem am_ltT {z k l : Int} {N : Nat} (h0 : 0 ≤ z) (h : z ≤ k + l) (hk : am k < BB ^ N) (hl : am l < BB ^ N) : am z < BB ^ (N + 1) := by
  rw [Nat.pow_succ]
  have h2 : BB ^ N * 2 ≤ BB ^ N * BB := Nat.mul_le_mul_left _ (by rw [BB_eq]; omega)
  unfold am at *
  omega
theorem pw1 {x N : Nat} (h : x < BB ^ N) : x < BB ^ (N + 1) := Nat.lt_of_lt_of_le h (pow_mono (by omega))
theorem sgn_neg' {x : Int} (h : x < 0) : sgn x = -1 := by unfold sgn; rw [if_pos h]
theorem sgn_nn {x : Int} (h : 0 ≤ x) : 0 ≤ sgn x := by unfold sgn; rw [if_neg (by omega)]; split <;> omega
theorem sgn_pos' {x : Int} (h : 0 < x) : sgn x = 1 := by unfold sgn; rw [if_neg (by omega), if_neg (by omega)]
theorem one_lt {N : Nat} (h : 1 ≤ N) : am 1 < BB ^ N := by
  have h1 : BB ^ 1 ≤ BB ^ N := pow_mono h
  rw [Nat.pow_one] at h1
  show 1 < BB ^ N
  have := BB_eq
  omega
set_option maxHeartbeats 2000000 in
theorem vsim45 (N : Nat) (hN : N ≤ 35184372087808) (hN1 : 1 ≤ N) (a b c d p q : Int) (hb : 0 < b) (hd : 0 < d) (hlt : a * d < c * b) (hk : ¬ (a / b + 1) * d < c) (ht : Sbt d (c - a / b * d) b (a % b) p q) (ba : am (a / b) < BB ^ N) (bb : am b < BB ^ N) (bc : am (c - a / b * d) < BB ^ N) (bd : am d < BB ^ N) (bS : am (a / b * p + q) < BB ^ (N + 1)) (A B : RatV) (w : World) (hA : A.ok w) (hB : B.ok w) (hn : A.n ≤ 35184372087808 ∧ A.m ≤ 35184372087808 ∧ B.n ≤ 35184372087808 ∧ B.m ≤ 35184372087808) (eA : A.val = Rat.divInt a b) (eB : B.val = Rat.divInt c d)
    (hrec : 0 < a % b → ∀ (A B : RatV) w, A.ok w → B.ok w → A.n ≤ 35184372087808 ∧ A.m ≤ 35184372087808 ∧ B.n ≤ 35184372087808 ∧ B.m ≤ 35184372087808 → A.val = Rat.divInt d (c - a / b * d) → B.val = Rat.divInt b (a % b) → Calls Tryz.prog 9 #[.agg #[.bool A.s, .slice A.a A.n A.c, .slice A.b A.m A.e], .agg #[.bool B.s, .slice B.a B.n B.c, .slice B.b B.m B.e]] w (SQ w (Rat.divInt p q))) :
    Calls Tryz.prog 9 #[.agg #[.bool A.s, .slice A.a A.n A.c, .slice A.b A.m A.e], .agg #[.bool B.s, .slice B.a B.n B.c, .slice B.b B.m B.e]] w (SQ w (Rat.divInt (a / b * p + q) p)) := by
  have hm0 := Int.emod_nonneg a (show b ≠ 0 by omega)
  have hmb := Int.emod_lt_of_pos a hb
  have hem := Int.emod_add_mul_ediv a b
  have hab : 0 < c - a / b * d := by
    have h1 : a / b * b * d ≤ a * d := Int.mul_le_mul_of_nonneg_right (Int.ediv_mul_le a (by omega)) (by omega)
    have h2 : a / b * d * b < c * b := by
      have : a / b * d * b = a / b * b * d := by grind
      omega
    have := Int.lt_of_mul_lt_mul_right h2 (by omega)
    omega
  obtain ⟨v, hv⟩ : ∃ v, c - a / b * d = v := ⟨_, rfl⟩
  obtain ⟨f, hf⟩ : ∃ f, a / b = f := ⟨_, rfl⟩
  obtain ⟨m, hm⟩ : ∃ m, a % b = m := ⟨_, rfl⟩
  have hfl := fl_rep (show (0 : Int) < ((rd A.Y : Nat) : Int) by have := rd_pos A.Y; omega) hb (val_rep hb eA)
  rw [hv] at ht bc hrec hab
  rw [hm] at ht hrec hm0 hmb hem
  rw [hf] at ba hk hv hfl hem bS ⊢
  have p0 := ht.p0
  have q0 := ht.q0
  have hvd : v ≤ d := by
    have : (f + 1) * d = f * d + d := by grind
    omega
  have pb : p ≤ d + b ∧ q ≤ v + m := by
    refine ht.least (d + b) (v + m) (by omega) ?_ ?_
    · have e1 : d * (v + m) = d * v + d * m := by grind
      have e2 : (d + b) * v = d * v + b * v := by grind
      have e3 : d * m < b * v := by
        subst hv hem
        have e4 : b * (c - f * d) = c * b - b * f * d := by grind
        have e5 : (m + b * f) * d = d * m + b * f * d := by grind
        omega
      omega
    · have e1 : (d + b) * m = d * m + b * m := by grind
      have e2 : b * (v + m) = b * v + b * m := by grind
      have e3 : d * m < b * v := by
        subst hv hem
        have e4 : b * (c - f * d) = c * b - b * f * d := by grind
        have e5 : (m + b * f) * d = d * m + b * f * d := by grind
        omega
      omega
  have bm : am m < BB ^ N := am_ltS hm0 (by omega) bb
  have bp : am p < BB ^ (N + 1) := am_ltT (by omega) pb.1 bd bb
  have bq : am q < BB ^ (N + 1) := am_ltT (by omega) pb.2 bc bm
  have bf1 : am (f + 1) < BB ^ (N + 1) := by
    have h1 : am (f + 1) ≤ am f + 1 := by unfold am; omega
    rw [Nat.pow_succ]
    have h2 : BB ^ N * 2 ≤ BB ^ N * BB := Nat.mul_le_mul_left _ (by rw [BB_eq]; omega)
    have := BBp N
    omega
  have o1 : am 1 < BB ^ N := one_lt hN1
  have hcmp : sR (A.val - B.val) = -1 := by rw [sR_diff hb hd eA eB]; exact sgn_neg' (by omega)
  have h1 : sR (Rat.divInt (f + 1) 1 - B.val) = sgn ((f + 1) * d - c * 1) := sR_diff (by omega) hd rfl eB
  have hLW : A.val - (f : Rat) = Rat.divInt m b := by rw [sub_int hb eA]; congr 1; subst hem; grind
  have hHF : B.val - (f : Rat) = Rat.divInt v d := by rw [sub_int hd eB, hv]
  have ne : ∀ {x y : Int}, x ≠ 0 → y ≠ 0 → Rat.divInt x y ≠ 0 := fun {x y} h1 h2 e => by
    have e2 := (Rat.divInt_eq_divInt_iff h2 (show (1 : Int) ≠ 0 by omega)).1 (e.trans (show (0 : Rat) = Rat.divInt 0 1 from (dv1 0).symm))
    omega
  have lf : ln (am f) ≤ 35184372087900 := Nat.le_trans (ln_le_of_lt ba) (by omega)
  by_cases h0 : m = 0
  · have hs4 : Sbt d v b m (d / v + 1) 1 := by
      have hS : Sb d v b m := ⟨by omega, hab, hb, hm0, by rw [h0, Int.mul_zero]; exact Int.mul_pos hb hab⟩
      exact hS.end (by rw [h0, Int.mul_zero]; exact hb)
    obtain ⟨ep, eq⟩ := ht.uniq hs4
    have hfe := fl_rep (r := (Rat.divInt d v).num) (e := ((Rat.divInt d v).den : Int)) (a := d) (b := v) (by have := (Rat.divInt d v).den_pos; omega) hab (low_of (A := d) (D := v) (by omega) rfl).eq
    have bdv : am (d / v) < BB ^ N := am_ltS (Int.ediv_nonneg (by omega) (by omega)) (Int.ediv_le_self _ (by omega)) bd
    exact vstep4 A B f _ (f : Rat) (Rat.divInt (f + 1) 1) w hA hB hn hcmp hfl lf rfl (int_one f) (by rw [show (f : Rat) = Rat.divInt f 1 from (dv1 f).symm]; exact (sz_div (by omega) ba o1).mono (by omega)) ((sz_div (by omega) bf1 (pw1 o1)).mono (by omega)) _ h1 (sgn_nn (by omega)) (Rat.divInt m b) (Rat.divInt v d) (Rat.divInt d v) (Rat.divInt p q) (Rat.divInt q p) (Rat.divInt (f * p + q) p) hLW hHF (ne (by omega) (by omega)) (Rat.inv_divInt v d) (ne (by omega) (by omega)) (Rat.inv_divInt p q) (int_add p0) ((sz_div (by omega) bm bb).mono (by omega)) ((sz_div (by omega) bc bd).mono (by omega)) ((sz_div (by omega) bd bc).mono (by omega)) ((sz_div (by omega) bp bq).mono (by omega)) ((sz_div (by omega) bq bp).mono (by omega)) ((sz_div (by omega) bS bp).mono (by omega)) (by rw [h0]; show sgn (Rat.divInt 0 b).num = 0; simp; rfl) (d / v) _ hfe (Nat.le_trans (ln_le_of_lt bdv) (by omega)) (((d / v : Int)) : Rat) rfl (by rw [ep, eq]; exact int_one _) (by rw [show ((d / v : Int) : Rat) = Rat.divInt (d / v) 1 from (dv1 _).symm]; exact (sz_div (by omega) bdv o1).mono (by omega))
  · have hmp : 0 < m := by omega
    exact vstep5 A B f _ (f : Rat) (Rat.divInt (f + 1) 1) w hA hB hn hcmp hfl lf rfl (int_one f) (by rw [show (f : Rat) = Rat.divInt f 1 from (dv1 f).symm]; exact (sz_div (by omega) ba o1).mono (by omega)) ((sz_div (by omega) bf1 (pw1 o1)).mono (by omega)) _ h1 (sgn_nn (by omega)) (Rat.divInt m b) (Rat.divInt v d) (Rat.divInt d v) (Rat.divInt p q) (Rat.divInt q p) (Rat.divInt (f * p + q) p) hLW hHF (ne (by omega) (by omega)) (Rat.inv_divInt v d) (ne (by omega) (by omega)) (Rat.inv_divInt p q) (int_add p0) ((sz_div (by omega) bm bb).mono (by omega)) ((sz_div (by omega) bc bd).mono (by omega)) ((sz_div (by omega) bd bc).mono (by omega)) ((sz_div (by omega) bp bq).mono (by omega)) ((sz_div (by omega) bq bp).mono (by omega)) ((sz_div (by omega) bS bp).mono (by omega)) (by rw [sR_divInt hb]; exact sgn_pos' hmp) (Rat.divInt b m) (ne (by omega) (by omega)) (Rat.inv_divInt m b) ((sz_div (by omega) bb bm).mono (by omega)) (fun w' p1 q1 p2 q2 k1 k2 => hrec hmp (nR (Rat.divInt d v) p1 q1) (nR (Rat.divInt b m) p2 q2) w' k1 k2 ⟨((sz_div (by omega) bd bc).mono (show N ≤ 35184372087808 by omega)).1, ((sz_div (by omega) bd bc).mono (show N ≤ 35184372087808 by omega)).2, ((sz_div (by omega) bb bm).mono (show N ≤ 35184372087808 by omega)).1, ((sz_div (by omega) bb bm).mono (show N ≤ 35184372087808 by omega)).2⟩ (nR_val _ _ _) (nR_val _ _ _))
theorem dv_num {P Q : Int} (hQ : 0 < Q) (hg : Int.gcd P Q = 1) : (Rat.divInt P Q).num = P ∧ ((Rat.divInt P Q).den : Int) = Q := by
  have h := low_of (A := P) (D := Q) (r := Rat.divInt P Q) (by omega) rfl
  have k : Low P Q P Q.toNat := ⟨by omega, by omega, by rw [Int.toNat_of_nonneg (by omega)], by
    have : Q.natAbs = Q.toNat := by omega
    unfold Int.gcd at hg
    rw [this] at hg
    exact hg⟩
  have u := h.uniq k rfl
  exact ⟨u.1, by rw [u.2, Int.toNat_of_nonneg (by omega)]⟩
set_option maxHeartbeats 1000000 in
theorem vsimpP (N : Nat) (hN : N ≤ 35184372087808) (hN1 : 1 ≤ N) : ∀ (n : Nat) (a b c d P Q : Int), Sb a b c d → 0 < d → sbm a b c d < n → Sbt a b c d P Q → am a < BB ^ N → am b < BB ^ N → am c < BB ^ N → am d < BB ^ N → ∀ (A B : RatV) (w : World) (hA : A.ok w) (hB : B.ok w) (hn : A.n ≤ 35184372087808 ∧ A.m ≤ 35184372087808 ∧ B.n ≤ 35184372087808 ∧ B.m ≤ 35184372087808), A.val = Rat.divInt a b → B.val = Rat.divInt c d → Calls Tryz.prog 9 #[.agg #[.bool A.s, .slice A.a A.n A.c, .slice A.b A.m A.e], .agg #[.bool B.s, .slice B.a B.n B.c, .slice B.b B.m B.e]] w (SQ w (Rat.divInt P Q))
  | 0, a, b, c, d, P, Q, h, hd, hn, ht, ba, bb, bc, bd, A, B, w, hA, hB, hs, eA, eB => absurd hn (by omega)
  | n + 1, a, b, c, d, P, Q, h, hd, hn, ht, ba, bb, bc, bd, A, B, w, hA, hB, hs, eA, eB => by
    have hb := h.b0
    have hf0 : 0 ≤ a / b := Int.ediv_nonneg h.a0 (by omega)
    have bf : am (a / b) < BB ^ N := am_ltS hf0 (Int.ediv_le_self _ h.a0) ba
    have o1 : am 1 < BB ^ N := one_lt hN1
    by_cases hk : (a / b + 1) * d < c
    · obtain ⟨e1, e2⟩ := ht.uniq (h.end hk)
      rw [e1, e2]
      have hfl := fl_rep (show (0 : Int) < ((rd A.Y : Nat) : Int) by have := rd_pos A.Y; omega) hb (val_rep hb eA)
      have hcmp : sR (A.val - B.val) = -1 := by rw [sR_diff hb hd eA eB]; exact sgn_neg' (by have := h.lt; omega)
      have h1 : sR (Rat.divInt (a / b + 1) 1 - B.val) = -1 := by rw [sR_diff (a := a / b + 1) (b := 1) (by omega) hd rfl eB]; exact sgn_neg' (by omega)
      have bf1 : am (a / b + 1) < BB ^ (N + 1) := am_ltT (k := a / b) (l := 1) (by omega) (Int.le_refl _) bf o1
      exact vstep2 A B (a / b) _ ((a / b : Int) : Rat) (Rat.divInt (a / b + 1) 1) w hA hB hs hcmp hfl (Nat.le_trans (ln_le_of_lt bf) (by omega)) rfl (int_one _) (by rw [show ((a / b : Int) : Rat) = Rat.divInt (a / b) 1 from (dv1 _).symm]; exact (sz_div (by omega) bf o1).mono (by omega)) ((sz_div (by omega) bf1 (pw1 o1)).mono (by omega)) h1 (sgn a) (by rw [eA]; exact sR_divInt hb) (sgn_nn h.a0)
    · have hx := h.next hk
      have ht' := sbl_is _ _ _ _ _ hx (Nat.lt_succ_self _)
      generalize cpq (sbl (sbm d (c - a / b * d) b (a % b)).succ d (c - a / b * d) b (a % b)) = pq at ht'
      obtain ⟨p, q⟩ := pq
      simp only at ht'
      obtain ⟨e1, e2⟩ := ht.uniq (h.step ht')
      rw [e1, e2]
      have bv : am (c - a / b * d) < BB ^ N := am_ltS (Int.le_of_lt hx.b0) (by have := Int.mul_nonneg hf0 (Int.le_of_lt hd); omega) bc
      exact vsim45 N hN hN1 a b c d p q hb hd h.lt hk ht' bf bb bv bd (by have h5 := (h.step ht').small h; have h6 := (h.step ht').p0; exact am_ltT (by omega) h5.1 ba bc) A B w hA hB hs eA eB (fun hm A B w hA hB hs eA eB => vsimpP N hN hN1 n _ _ _ _ p q hx hm (by have := h.less hk; omega) ht' bd bv bb (am_ltS (Int.emod_nonneg _ (by omega)) (Int.le_of_lt (Int.emod_lt_of_pos a hb)) bb) A B w hA hB hs eA eB)
set_option maxHeartbeats 1000000 in
theorem vsimp (A B : RatV) (w : World) (hA : A.ok w) (hB : B.ok w) (hs : A.n ≤ 35184372087808 ∧ A.m ≤ 35184372087808 ∧ B.n ≤ 35184372087808 ∧ B.m ≤ 35184372087808) (hlt : (rn A.s A.X A.Y) * ((rd B.Y : Nat) : Int) < (rn B.s B.X B.Y) * ((rd A.Y : Nat) : Int)) :
    Calls Tryz.prog 9 #[.agg #[.bool A.s, .slice A.a A.n A.c, .slice A.b A.m A.e], .agg #[.bool B.s, .slice B.a B.n B.c, .slice B.b B.m B.e]] w fun e w' => ∃ S : Rat, Si (rn A.s A.X A.Y) ((rd A.Y : Nat) : Int) (rn B.s B.X B.Y) ((rd B.Y : Nat) : Int) S.num (S.den : Int) ∧ SQ w S e w' := by
  obtain ⟨N, hN⟩ : ∃ N, N = 35184372087808 := ⟨_, rfl⟩
  have hN5 : N ≤ 35184372087808 := by omega
  have hN1 : 1 ≤ N := by omega
  have ba : am (rn A.s A.X A.Y) < BB ^ N := Nat.lt_of_le_of_lt (rn_am _ _ _) (Nat.lt_of_lt_of_le hA.1.1 (pow_mono (by omega)))
  have bc : am (rn B.s B.X B.Y) < BB ^ N := Nat.lt_of_le_of_lt (rn_am _ _ _) (Nat.lt_of_lt_of_le hB.1.1 (pow_mono (by omega)))
  have bb : am ((rd A.Y : Nat) : Int) < BB ^ N := by rw [am_nat]; exact Nat.lt_of_lt_of_le (rd_ltM hA.2.2.2.1.1) (pow_mono (by omega))
  have bd : am ((rd B.Y : Nat) : Int) < BB ^ N := by rw [am_nat]; exact Nat.lt_of_lt_of_le (rd_ltM hB.2.2.2.1.1) (pow_mono (by omega))
  have hb : 0 < ((rd A.Y : Nat) : Int) := by have := rd_pos A.Y; omega
  have hd : 0 < ((rd B.Y : Nat) : Int) := by have := rd_pos B.Y; omega
  have eA : A.val = Rat.divInt (rn A.s A.X A.Y) ((rd A.Y : Nat) : Int) := rfl
  have eB : B.val = Rat.divInt (rn B.s B.X B.Y) ((rd B.Y : Nat) : Int) := rfl
  have hn : A.n ≤ 35184372087808 ∧ A.m ≤ 35184372087808 ∧ B.n ≤ 35184372087808 ∧ B.m ≤ 35184372087808 := by omega
  obtain ⟨Z, H, hce⟩ := fl_ex (-(rn B.s B.X B.Y)) hd
  generalize ha9 : (rn A.s A.X A.Y) = a at *
  generalize hb9 : ((rd A.Y : Nat) : Int) = b at *
  generalize hc9 : (rn B.s B.X B.Y) = c at *
  generalize hd9 : ((rd B.Y : Nat) : Int) = d at *
  have hm0 := Int.emod_nonneg a (show b ≠ 0 by omega)
  have hmb := Int.emod_lt_of_pos a hb
  have hem := Int.emod_add_mul_ediv a b
  rcases Int.lt_or_le a 0 with ha | ha
  · have hf0 : a / b < 0 := Int.ediv_neg_of_neg_of_pos ha hb
    have h1 : a ≤ a / b := by
      rcases Int.lt_or_le (a / b) a with h | h
      · exfalso
        have h2 : (a / b + 1) * b ≤ a * b := Int.mul_le_mul_of_nonneg_right (by omega) (by omega)
        have h4 : 0 ≤ (-a) * (b - 1) := Int.mul_nonneg (by omega) (by omega)
        have e1 : (-a) * (b - 1) = a - a * b := by grind
        have e2 : (a / b + 1) * b = b * (a / b) + b := by grind
        omega
      · exact h
    have bf : am (a / b) < BB ^ N := by unfold am at *; omega
    have o1 : am 1 < BB ^ N := one_lt hN1
    have hfl := fl_rep (show (0 : Int) < ((rd A.Y : Nat) : Int) by have := rd_pos A.Y; omega) hb (val_rep hb eA)
    have hcmp : sR (A.val - B.val) = -1 := by rw [sR_diff hb hd eA eB]; exact sgn_neg' (by omega)
    have lf : ln (am (a / b)) ≤ 35184372087900 := Nat.le_trans (ln_le_of_lt bf) (by omega)
    have zF : sz 35184372088000 ((a / b : Int) : Rat) := by rw [show ((a / b : Int) : Rat) = Rat.divInt (a / b) 1 from (dv1 _).symm]; exact (sz_div (by omega) bf o1).mono (by omega)
    have bf1 : am (a / b + 1) < BB ^ (N + 1) := pw1 (by unfold am at *; omega)
    have zU : sz 35184372088000 (Rat.divInt (a / b + 1) 1) := (sz_div (by omega) bf1 (pw1 o1)).mono (by omega)
    have h2 : sR A.val = -1 := by rw [eA, sR_divInt hb]; exact sgn_neg' ha
    by_cases hk : (a / b + 1) * d < c
    · have h1 : sR (Rat.divInt (a / b + 1) 1 - B.val) = -1 := by rw [sR_diff (a := a / b + 1) (b := 1) (by omega) hd rfl eB]; exact sgn_neg' (by omega)
      rcases Int.lt_or_le 0 c with hc | hc
      · refine (vstep1 A B (a / b) _ ((a / b : Int) : Rat) (Rat.divInt (a / b + 1) 1) w hA hB hn hcmp hfl lf rfl (int_one _) zF zU h1 h2 (by rw [eB, sR_divInt hd]; exact sgn_pos' hc) 0 rfl).mono ?_
        intro e w2 h9
        exact ⟨0, show Si a b c d 0 1 from Si.zero ha hc, h9⟩
      · obtain ⟨M, hM⟩ : ∃ M, -Z = M := ⟨_, rfl⟩
        have e1 := hce.eq
        have e2 := hce.ge
        have e3 := hce.lt
        have lZ : am Z ≤ am c + 1 := by have := hce.am hd; rw [am_neg] at this; exact this
        have bM : am M < BB ^ (N + 1) := by rw [← hM, am_neg]; rw [Nat.pow_succ]; have h3 : BB ^ N * 2 ≤ BB ^ N * BB := Nat.mul_le_mul_left _ (by rw [BB_eq]; omega); have := BBp N; omega
        have bM1 : am (M - 1) < BB ^ (N + 2) := by
          have h4 : am (M - 1) ≤ am M + 1 := by unfold am; omega
          rw [show N + 2 = N + 1 + 1 from rfl, Nat.pow_succ]
          have h3 : BB ^ (N + 1) * 2 ≤ BB ^ (N + 1) * BB := Nat.mul_le_mul_left _ (by rw [BB_eq]; omega)
          have := BBp (N + 1)
          omega
        have eS : (M : Rat) - 1 = Rat.divInt (M - 1) 1 := by rw [dv1, Rat.intCast_sub]; rfl
        have dn := dv_num (P := M - 1) (Q := 1) (by omega) (Int.gcd_one_right _)
        refine (vstep3 A B (a / b) _ ((a / b : Int) : Rat) (Rat.divInt (a / b + 1) 1) w hA hB hn hcmp hfl lf rfl (int_one _) zF zU h1 h2 (sgn c) (by rw [eB]; exact sR_divInt hd) (by unfold sgn; split; omega; split <;> omega) Z H M (by rw [hc9, hd9]; exact hce) hM (Nat.le_trans (ln_le_of_lt bM) (by omega)) (M : Rat) (Rat.divInt (M - 1) 1) rfl eS (by rw [show (M : Rat) = Rat.divInt M 1 from (dv1 _).symm]; exact (sz_div (by omega) bM (pw1 o1)).mono (by omega)) ((sz_div (by omega) bM1 (pw1 (pw1 o1))).mono (by omega))).mono ?_
        intro e w2 h9
        have e4 : M * d = -(Z * d) := by rw [← hM, Int.neg_mul]
        have e5 : (M - 1) * d = M * d - d := by grind
        exact ⟨_, by rw [dn.1, dn.2]; exact si_below hb hd hc hk (by omega) (by omega), h9⟩
    · have e4 : (a / b + 1) * d = a / b * d + d := by grind
      have e5 : a / b * b = b * (a / b) := Int.mul_comm _ _
      have hk2 : d * (a % b) < b * (c - a / b * d) := by
        have g1 : b * (c - a / b * d) = c * b - b * (a / b) * d := by grind
        have g2 : a * d = d * (a % b) + b * (a / b) * d := by
          have g3 : (a % b + b * (a / b)) * d = d * (a % b) + b * (a / b) * d := by grind
          rw [hem] at g3
          exact g3
        omega
      have hv0 : 0 < c - a / b * d := by
        have g1 := Int.mul_nonneg (Int.le_of_lt hd) hm0
        rcases Int.lt_or_le 0 (c - a / b * d) with g | g
        · exact g
        · exfalso
          have g2 : b * (c - a / b * d) ≤ b * 0 := Int.mul_le_mul_of_nonneg_left g (by omega)
          omega
      have hx : Sb d (c - a / b * d) b (a % b) := ⟨by omega, hv0, hb, hm0, hk2⟩
      have ht' := sbl_is _ _ _ _ _ hx (Nat.lt_succ_self _)
      have hg := cpq_cop (a / b :: sbl (sbm d (c - a / b * d) b (a % b)).succ d (c - a / b * d) b (a % b))
      simp only [cpq] at hg
      generalize cpq (sbl (sbm d (c - a / b * d) b (a % b)).succ d (c - a / b * d) b (a % b)) = pq at ht' hg
      obtain ⟨p, q⟩ := pq
      simp only at ht' hg
      have bv : am (c - a / b * d) < BB ^ N := am_ltS (by omega) (show _ ≤ d by omega) bd
      have bm : am (a % b) < BB ^ N := am_ltS hm0 (Int.le_of_lt hmb) bb
      have dn := dv_num ht'.p0 hg
      have hsS : Si a b c d (a / b * p + q) p := by
        refine si_shift hb hd hf0 (by omega) (by omega) ?_
        have g1 : (a % b) / b = 0 := Int.ediv_eq_zero_of_lt hm0 hmb
        have g2 : (a % b) % b = a % b := Int.emod_eq_of_lt hm0 hmb
        have S0 : Sb (a % b) b (c - a / b * d) d := ⟨hm0, hb, hv0, by omega, by have g3 : a % b * d = d * (a % b) := Int.mul_comm _ _; have g4 : (c - a / b * d) * b = b * (c - a / b * d) := Int.mul_comm _ _; omega⟩
        have s1 := S0.step (p := p) (q := q) (by rw [g1, g2, Int.zero_mul, Int.sub_zero]; exact ht')
        rw [g1, Int.zero_mul, Int.zero_add] at s1
        rw [show a - a / b * b = a % b by omega]
        exact s1
      have hc0 : c ≤ 0 := by
        have h8 : (a / b + 1) * d ≤ 0 * d := Int.mul_le_mul_of_nonneg_right (by omega) (by omega)
        omega
      have hM : Sb (-c) d (-a) b := ⟨by omega, hd, by omega, by omega, by rw [Int.neg_mul, Int.neg_mul]; omega⟩
      have hMt := sbl_is _ _ _ _ _ hM (Nat.lt_succ_self _)
      generalize cpq (sbl (sbm (-c) d (-a) b).succ (-c) d (-a) b) = pm at hMt
      obtain ⟨P9, Q9⟩ := pm
      simp only at hMt
      have hu9 := hsS.uniq (hMt.si (by omega) hd).neg hb hd
      have hsm := hMt.small hM
      have hp9 := hMt.p0
      have bS : am (a / b * p + q) < BB ^ (N + 1) := by
        rw [hu9.1, am_neg]
        exact am_ltT (k := -c) (l := -a) (by omega) hsm.1 (by rw [am_neg]; exact bc) (by rw [am_neg]; exact ba)
      refine (vsim45 N hN5 hN1 a b c d p q hb hd hlt hk ht' bf bb bv bd bS A B w hA hB hn eA eB (fun hm A B w hA hB hs eA eB => vsimpP N hN5 hN1 _ _ _ _ _ p q hx hm (Nat.lt_succ_self _) ht' bd bv bb bm A B w hA hB hs eA eB)).mono ?_
      intro e w2 h9
      exact ⟨_, by rw [dn.1, dn.2]; exact hsS, h9⟩
  · have hSb : Sb a b c d := ⟨ha, hb, by
      by_cases h0 : 0 < c
      · exact h0
      · have h1 : c * b ≤ 0 * b := Int.mul_le_mul_of_nonneg_right (by omega) (by omega)
        have h2 := Int.mul_nonneg ha (Int.le_of_lt hd)
        omega, Int.le_of_lt hd, hlt⟩
    have ht := sbl_is _ _ _ _ _ hSb (Nat.lt_succ_self _)
    have hg := cpq_cop (sbl (sbm a b c d).succ a b c d)
    generalize cpq (sbl (sbm a b c d).succ a b c d) = pq at ht hg
    obtain ⟨P, Q⟩ := pq
    simp only at ht hg
    obtain ⟨d1, d2⟩ := dv_num ht.q0 hg
    refine (vsimpP N hN5 hN1 _ a b c d P Q hSb hd (Nat.lt_succ_self _) ht ba bb bc bd A B w hA hB hn eA eB).mono ?_
    intro e w2 h2
    exact ⟨_, by rw [d1, d2]; exact ht.si ha hb, h2⟩
end Go.Proofs.YtejlnodillnoaaaGreatDoor
