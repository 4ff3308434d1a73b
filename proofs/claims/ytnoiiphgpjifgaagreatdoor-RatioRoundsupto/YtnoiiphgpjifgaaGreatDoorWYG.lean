import Derived.Test.YtnoiiphgpjifgaaGreatDoorWYF
set_option linter.unusedSimpArgs false
namespace Go.Proofs.YtnoiiphgpjifgaaGreatDoor
open Go.RowKit
set_option linter.unusedVariables false
theorem i64_and1Y (n : Int) : bits .and .i64 n 1 = n % 2 := by
  have h1 : (BitVec.ofInt 64 1).toNat = 2 ^ 1 - 1 := by decide
  have key : (BitVec.ofInt 64 n &&& BitVec.ofInt 64 1).toNat = (n % ((2 ^ 64 : Nat) : Int)).toNat % 2 ^ 1 := by
    rw [BitVec.toNat_and, BitVec.toNat_ofInt, h1, Nat.and_two_pow_sub_one_eq_mod]
  show IntKind.i64.wrap ((BitVec.ofInt 64 n &&& BitVec.ofInt 64 1).toNat : Nat) = n % 2
  rw [key, IntKind.wrap_i64]
  omega
theorem bit_i64Y (n j : Nat) : (bits BinOp.and IntKind.i64 ((n : Int) / 2 ^ j) 1 == 1) = decide (bt n j = 1) := by
  rw [i64_and1Y]
  have e : (n : Int) / 2 ^ j = ((n / 2 ^ j : Nat) : Int) := by simp
  rw [e]
  unfold bt
  generalize n / 2 ^ j = q
  by_cases h : q % 2 = 1
  · simp only [h, decide_true]; rw [beq_iff_eq]; omega
  · simp only [h, decide_false]; rw [beq_eq_false_iff_ne]; omega
theorem half_stepY (n k : Nat) : n / 2 ^ k = 2 * (n / 2 ^ (k + 1)) + bt n k := by
  unfold bt
  rw [Nat.pow_succ, ← Nat.div_div_eq_div_mul]
  have := Nat.div_add_mod (n / 2 ^ k) 2
  omega
set_option maxHeartbeats 4000000 in
set_option maxRecDepth 100000 in
theorem rPow10 (a : Option Addr) (p : Nat) (w : World) (hp : p ≤ 1000) (hS : Seg w a 10 1) :
    Calls Tryz.prog 10 #[.slice a 1 1, .int .i64 (p : Nat)] w fun e w' => ∃ a', e = .returned (.tuple #[.slice a' (ln (10 ^ p)) (ln (10 ^ p)), .int .i64 0]) ∧ New w w' a' (10 ^ p) (ln (10 ^ p)) := by
  have i1 : ¬ ((p : Int) < 0) := by omega
  have i2 : ¬ ((4096 : Int) < (p : Int)) := by omega
  have n6 := single_new w 1 38 1 (by omega) rfl
  go_enter Tryz.func10, Tryz.ntmps10
  go_wp2_with fail
  go_loopw [7, 6] (fun i v wr => ∃ (j : Nat) (b : Option Addr), j ≤ 13 ∧ i = .int .i64 ((j : Int) - 1) ∧ v = .slice b (ln (10 ^ (p / 2 ^ j))) (ln (10 ^ (p / 2 ^ j))) ∧ Seg wr b (10 ^ (p / 2 ^ j)) (ln (10 ^ (p / 2 ^ j))) ∧ Below w.heap.size w wr) (fun i _ _ => ((intOf i) + 1).toNat)
  case atStart => exact ⟨13, _, by omega, rfl, by rw [show p / 2 ^ 13 = 0 by omega, Nat.pow_zero, ln_one], by rw [show p / 2 ^ 13 = 0 by omega, Nat.pow_zero, ln_one]; exact n6.seg, n6.below⟩
  case round =>
    clear n6
    obtain ⟨j, b, hj, rfl, rfl, k6, bel⟩ := hrel
    by_cases h0 : j = 0
    · subst h0
      rw [Nat.pow_zero, Nat.div_one] at k6 ⊢
      have lp : ln (10 ^ p) ≤ 126 := ten_lnP hp
      have G1 := hide' (fun w' k1 => rNorm_any b (ln (10 ^ p)) (ln (10 ^ p)) (10 ^ p) w' (by omega) k1)
      have q0 : ¬ (((0 : Nat) : Int) - 1 ≥ 0) := by omega
      obtain ⟨P, hP⟩ : ∃ P, 10 ^ p = P := ⟨_, rfl⟩
      rw [hP] at G1 k6 lp ⊢
      replace hP := hide' hP
      go_wp2_with fail
      refine (G1.out _ k6).mono ?_
      rintro e w2 ⟨a', rfl, n2⟩
      go_wp2
      go_ret2
      rw [hP.out]
      exact ⟨a', rfl, n2.back bel⟩
    · obtain ⟨i, rfl⟩ : ∃ i, j = i + 1 := ⟨j - 1, by omega⟩
      have e1 : (((i + 1 : Nat) : Int) - 1) = (i : Int) := by omega
      rw [e1]
      have q0 : (0 : Int) ≤ (i : Int) := by omega
      have lp : ln (10 ^ (p / 2 ^ (i + 1))) ≤ 126 := ten_lnP (Nat.le_trans (Nat.div_le_self _ _) hp)
      have hs := half_stepY p i
      have hd : p / 2 ^ i ≤ p := Nat.div_le_self _ _
      have hbt : bt p i < 2 := Nat.mod_lt _ (by omega)
      obtain ⟨E, hE⟩ : ∃ E, p / 2 ^ (i + 1) = E := ⟨_, rfl⟩
      rw [hE] at k6 lp hs ⊢
      clear hE e1
      have l2 : ln (10 ^ (E + E)) ≤ 126 := ten_lnP (by omega)
      obtain ⟨P, hP⟩ : ∃ P, 10 ^ E = P := ⟨_, rfl⟩
      obtain ⟨P2, hP2⟩ : ∃ P2, 10 ^ (E + E) = P2 := ⟨_, rfl⟩
      have G1 := hide' (fun w' k1 k2 => rMul_is b b (ln (10 ^ E)) (ln (10 ^ E)) (10 ^ E) (ln (10 ^ E)) (ln (10 ^ E)) (10 ^ E) (10 ^ (E + E)) w' (by omega) k1 k2 (Nat.pow_add ..).symm)
      have G2 := hide' (fun w' c k1 k2 => rMul_is c a (ln (10 ^ (E + E))) (ln (10 ^ (E + E))) (10 ^ (E + E)) 1 1 10 (10 ^ (E + E + 1)) w' (by omega) k1 k2 (Nat.pow_succ ..).symm)
      by_cases hb : bt p i = 1
      · have hbd : (bits BinOp.and IntKind.i64 ((p : Int) / 2 ^ i) 1 == 1) = true := by rw [bit_i64Y]; exact decide_eq_true hb
        have FIN := hide' (show p / 2 ^ i = E + E + 1 by omega)
        clear hs hd hbt hb
        rw [hP] at G1 k6 lp ⊢
        go_wp2_with fail
        refine (G1.out _ k6 k6).mono ?_
        rintro e w2 ⟨c, rfl, n2⟩
        have b2 := n2.below
        replace bel := bel.trans (b2.mono bel.size)
        have k7 := n2.seg
        clear G1 k6 b2 n2
        rw [hP2] at k7 l2 G2 ⊢
        obtain ⟨P3, hP3⟩ : ∃ P3, 10 ^ (E + E + 1) = P3 := ⟨_, rfl⟩
        rw [hP3] at G2
        replace hP3 := hide' hP3
        replace hP := hide' hP
        replace hP2 := hide' hP2
        go_wp2_with fail
        refine (G2.out _ c k7 (hS.later bel)).mono ?_
        rintro e w3 ⟨d, rfl, n3⟩
        have b3 := n3.below
        replace bel := bel.trans (b3.mono bel.size)
        have k8 := n3.seg
        clear G2 k7 b3 n3
        go_wp2
        go_roundw
        case rel => exact ⟨i, d, by omega, by go_num, by rw [FIN.out, hP3.out], by rw [FIN.out, hP3.out]; exact k8, bel⟩
        case measure => simp [intOf]
      · have hbd : (bits BinOp.and IntKind.i64 ((p : Int) / 2 ^ i) 1 == 1) = false := by rw [bit_i64Y]; exact decide_eq_false hb
        have FIN := hide' (show p / 2 ^ i = E + E by omega)
        clear hs hd hbt hb
        rw [hP] at G1 k6 lp ⊢
        go_wp2_with fail
        refine (G1.out _ k6 k6).mono ?_
        rintro e w2 ⟨c, rfl, n2⟩
        have b2 := n2.below
        replace bel := bel.trans (b2.mono bel.size)
        have k7 := n2.seg
        clear G1 k6 b2 n2
        rw [hP2] at k7 l2 G2 ⊢
        replace hP := hide' hP
        replace hP2 := hide' hP2
        go_wp2
        go_roundw
        case rel => exact ⟨i, c, by omega, by go_num, by rw [FIN.out, hP2.out], by rw [FIN.out, hP2.out]; exact k7, bel⟩
        case measure => simp [intOf]
theorem absR_divInt {N D : Int} (hD : 0 < D) : absR (Rat.divInt N D) = Rat.divInt ((am N : Nat) : Int) D := by
  have h := low_of (A := N) (D := D) (r := Rat.divInt N D) (by omega) rfl
  unfold absR
  have hd := (Rat.divInt N D).den_pos
  rw [Rat.divInt_eq_divInt_iff (by omega) (by omega)]
  have e := h.eq
  have e2 : am ((Rat.divInt N D).num * D) = am (N * ((Rat.divInt N D).den : Int)) := by rw [e]
  rw [am_mul, am_mul, am_nat] at e2
  have e3 : (am D : Int) = D := by unfold am; omega
  have e4 : ((am (Rat.divInt N D).num * am D : Nat) : Int) = ((am N * (Rat.divInt N D).den : Nat) : Int) := by rw [e2]
  rw [Int.natCast_mul, Int.natCast_mul, e3] at e4
  exact e4
theorem round_math {Q D M : Int} {P : Nat} {r : Rat} (hD : 0 < D) (hP : 0 < P) (hM : rnd Q D = M) (hr : r * ((P : Int) : Rat) = Rat.divInt Q D) :
    sR (absR ((Rat.divInt M (P : Int) - r) * ((P : Int) : Rat)) - Rat.divInt 1 2) = -1 ∨ (sR (absR ((Rat.divInt M (P : Int) - r) * ((P : Int) : Rat)) - Rat.divInt 1 2) = 0 ∧ M % 2 = 0) := by
  have e1 : Rat.divInt M (P : Int) * ((P : Int) : Rat) = Rat.divInt M 1 := by
    rw [show ((P : Int) : Rat) = Rat.divInt (P : Int) 1 from (Rat.num_divInt_den _).symm, Rat.divInt_mul_divInt, Rat.divInt_eq_divInt_iff (by omega) (by omega)]
    grind
  have e2 : (Rat.divInt M (P : Int) - r) * ((P : Int) : Rat) = Rat.divInt (M * D - Q) D := by
    rw [show (Rat.divInt M (P : Int) - r) * ((P : Int) : Rat) = Rat.divInt M (P : Int) * ((P : Int) : Rat) - r * ((P : Int) : Rat) by grind, e1, hr, Rat.divInt_sub_divInt _ _ (by omega) (by omega)]
    congr 1 <;> grind
  have hn := rnd_near (A := Q) hD
  rw [hM] at hn
  rw [e2, absR_divInt hD, Rat.divInt_sub_divInt _ _ (by omega) (by omega), sR_divInt (by omega)]
  generalize M * D - Q = N at *
  have hN : (am N : Int) = N ∨ (am N : Int) = -N := by unfold am; omega
  rcases Int.lt_or_eq_of_le (show (am N : Int) * 2 ≤ 1 * D by omega) with h | h
  · exact .inl (sgn_neg (by omega))
  · refine .inr ⟨by rw [show (am N : Int) * 2 - 1 * D = 0 by omega]; rfl, hn.2.2 ?_⟩
    omega
theorem sz_abs {r : Rat} {N : Nat} (h : sz N r) : sz N (absR r) := by
  have hd := r.den_pos
  have hl : Low ((am r.num : Nat) : Int) (r.den : Int) ((am r.num : Nat) : Int) r.den := ⟨by omega, hd, rfl, by rw [am_nat]; exact r.reduced⟩
  obtain ⟨e1, e2⟩ := hl.rat
  unfold absR sz
  rw [e1, e2, am_nat]
  exact h
theorem last_dec {s : Bool} {p M : Nat} {u : ByteArray} (hu : isTx 10 M u) : byt (decT s p u) ((decT s p u).size - 1) = 48 + M % 10 := by
  have hz := pad_size p u
  have h1 : byt (padT p u) ((padT p u).size - 1) = 48 + M % 10 := by
    have hs := hu.1
    unfold padT
    rw [byt_app, ByteArray.size_append, nz_size, if_neg (by omega), show p + 1 - u.size + u.size - 1 - (p + 1 - u.size) = u.size - 1 by omega, hu.2.2.2 _ (by omega)]
    unfold dgt
    rw [Nat.sub_self, Nat.pow_zero, Nat.div_one]
    unfold dch
    rw [if_pos (Nat.mod_lt _ (by omega))]
  have h2 : byt (ptT p (padT p u)) ((ptT p (padT p u)).size - 1) = 48 + M % 10 := by
    have ps := pt_size (p := p) (z := padT p u) (by omega)
    generalize padT p u = z at *
    unfold ptT at ps ⊢
    split
    · exact h1
    · rename_i h0
      rw [if_neg h0, if_neg h0] at ps
      rw [ps, byt_app, ByteArray.size_append, ByteArray.size_extract]
      have : (⟨#[46]⟩ : ByteArray).size = 1 := rfl
      rw [this, if_neg (by omega), byt_extract (Nat.le_refl _) (by omega), ← h1]
      congr 1
      omega
  unfold decT
  have hp := pt_size (p := p) (z := padT p u) (by omega)
  split
  · rw [byt_app, ByteArray.size_append]
    have : (⟨#[45]⟩ : ByteArray).size = 1 := rfl
    rw [this, if_neg (by split at hp <;> omega), show 1 + (ptT p (padT p u)).size - 1 - 1 = (ptT p (padT p u)).size - 1 by omega]
    exact h2
  · exact h2
end Go.Proofs.YtnoiiphgpjifgaaGreatDoor
