/-
  Layer 3: floors of both.
-/
import Derived.Test.YtapjaceahifihaaWQ7
import Derived.Test.YtapjaceahifihaaWIA
import Derived.Test.YtapjaceahifihaaWIC
import Derived.Test.YtapjaceahifihaaWQA
namespace Go.Proofs.Ytapjaceahifihaa
open Go.RowKit
set_option linter.unusedVariables false

theorem uniqF {t : Bool} {Y : Nat} {u v u' v' : Int} (hY : Y ≠ 0) (h : u * sg t Y + v = u' * sg t Y + v') (h0 : 0 ≤ v) (h1 : am v < Y) (h0' : 0 ≤ v') (h1' : am v' < Y) : u = u' ∧ v = v' := by
  have hd : (u - u') * sg t Y = v' - v := by rw [Int.sub_mul]; omega
  have habs : (u - u').natAbs * Y = (v' - v).natAbs := by rw [← hd, Int.natAbs_mul, sg_abs]
  have hlt : (v' - v).natAbs < Y := by unfold am at h1 h1'; omega
  have hz : (u - u').natAbs = 0 := by
    rcases Nat.eq_zero_or_pos (u - u').natAbs with h' | h'
    · exact h'
    · have : 1 * Y ≤ (u - u').natAbs * Y := Nat.mul_le_mul_right _ h'
      omega
  have e : u = u' := by omega
  subst e
  exact ⟨rfl, by omega⟩

/-- Z is the greatest whole number not above A / D -/
structure Fl (A D Z G : Int) : Prop where
  eq : Z * D + G = A
  ge : 0 ≤ G
  lt : G < D
theorem fl_ex (A : Int) {D : Int} (h : 0 < D) : ∃ Z G, Fl A D Z G := ⟨A / D, A % D, by have := Int.mul_ediv_add_emod A D; rw [Int.mul_comm]; exact this, Int.emod_nonneg _ (by omega), Int.emod_lt_of_pos _ h⟩
theorem Fl.am {A D Z G : Int} (h : Fl A D Z G) (hD : 0 < D) : am Z ≤ am A + 1 := by
  have h1 := h.eq
  have h2 := h.ge
  have h3 := h.lt
  unfold Proofs.Ytapjaceahifihaa.am
  rcases Int.lt_or_le Z 0 with k | k
  · have e1 : Z * D ≤ Z * 1 := Int.mul_le_mul_of_nonpos_left (by omega) (by omega)
    have e2 : (Z + 1) * D ≤ (Z + 1) * 1 := Int.mul_le_mul_of_nonpos_left (by omega) (by omega)
    rw [Int.add_mul] at e2
    omega
  · have e1 : Z * 1 ≤ Z * D := Int.mul_le_mul_of_nonneg_left (by omega) k
    omega

theorem Fl.same {A D Z G A' D' Z' G' : Int} (h : Fl A D Z G) (hD : 0 < D) (h' : Fl A' D' Z' G') (hD' : 0 < D') (e : A' * D = A * D') : Z' = Z := by
  have h1 := h.eq
  have h2 := h'.eq
  have a1 := h.ge
  have a2 := h.lt
  have b1 := h'.ge
  have b2 := h'.lt
  -- both are within 1 of the same number
  have e2 : (Z' - Z) * (D * D') = G * D' - G' * D := by
    rw [← h1, ← h2] at e
    grind
  have c1 : 0 ≤ G * D' := Int.mul_nonneg a1 (by omega)
  have c2 : 0 ≤ G' * D := Int.mul_nonneg b1 (by omega)
  have c3 : G * D' < D * D' := Int.mul_lt_mul_of_pos_right a2 hD'
  have c4 : G' * D < D' * D := Int.mul_lt_mul_of_pos_right b2 hD
  have c5 : D' * D = D * D' := Int.mul_comm _ _
  have hp : 0 < D * D' := Int.mul_pos hD hD'
  rcases Int.lt_trichotomy (Z' - Z) 0 with k | k | k
  · have : (Z' - Z) * (D * D') ≤ (-1) * (D * D') := Int.mul_le_mul_of_nonneg_right (by omega) (by omega)
    omega
  · omega
  · have : 1 * (D * D') ≤ (Z' - Z) * (D * D') := Int.mul_le_mul_of_nonneg_right (by omega) (by omega)
    omega

theorem vfloor_pos (s : Bool) (ao : Option Addr) (n cap X : Nat) (ao2 : Option Addr) (m cap2 Y : Nat) (Z G : Int) (w : World) (hc : n ≤ cap) (hm : n ≤ 70368744177640) (hS : Seg w ao X n) (hc2 : m ≤ cap2) (hm2 : m ≤ 70368744177640) (hS2 : Seg w ao2 Y m) (h : Fl (sg s X) (Y : Int) Z G) :
    Calls Try.prog 39 #[.agg #[.bool s, .slice ao n cap], .agg #[.bool false, .slice ao2 m cap2]] w fun e w' => ∃ aq ar, e = .returned (.tuple #[.agg #[.bool (ng Z), .slice aq (ln (am Z)) (ln (am Z))], .agg #[.bool (ng G), .slice ar (ln (am G)) (ln (am G))], .int .i64 0]) ∧ New w w' aq (am Z) (ln (am Z)) ∧ New w w' ar (am G) (ln (am G)) := by
  have hY : Y ≠ 0 := by have := h.ge; have := h.lt; omega
  obtain ⟨P, R, Zq, Zr, hX, hR, hq, hr, hsum, hlr, hlq, _⟩ := quo_of s ao n cap X false ao2 m cap2 Y hc (by omega) hc2 (by omega) hY
  have hG : am G < Y := by have := h.lt; have := h.ge; unfold am; omega
  by_cases hlow : sgn Zr * sd false < 0
  · have hneg : Zr < 0 := by
      rcases Int.lt_or_le Zr 0 with k | k
      · exact k
      · have h2 : 0 ≤ sgn Zr := by unfold sgn; rw [if_neg (by omega)]; split <;> omega
        simp only [sd, Bool.false_eq_true, if_false] at hlow; omega
    have e : Z * sg false Y + G = (Zq - 1) * sg false Y + (Zr + sg false Y) := by
      rw [Int.sub_mul]; have := h.eq; have h3 : sg false Y = (Y : Int) := rfl; rw [h3] at hsum ⊢; omega
    obtain ⟨rfl, rfl⟩ := uniqF (t := false) hY e h.ge hG (by unfold am at hlr; simp only [sg, Bool.false_eq_true, if_false]; omega) (by unfold am at hlr ⊢; simp only [sg, Bool.false_eq_true, if_false]; omega)
    exact vFloor_low s ao n cap X false ao2 m cap2 Y P R Zq Zr _ _ w (by omega) hS (by omega) hS2 hX hR hq hr hlow rfl rfl
  · have hpos : 0 ≤ Zr := by
      rcases Int.lt_or_le Zr 0 with k | k
      · rw [sgn_neg k] at hlow; simp [sd] at hlow
      · exact k
    obtain ⟨rfl, rfl⟩ := uniqF (t := false) hY (h.eq.trans hsum.symm) h.ge hG hpos hlr
    exact vFloor_high s ao n cap X false ao2 m cap2 Y P R Z G w (by omega) hS (by omega) hS2 hX hR hq hr hlow




set_option maxHeartbeats 1000000 in
theorem sameInt_is (Z : Int) (p p2 : Option Addr) (w : World) (hm : ln (am Z) ≤ 70368744177664) (hS : Seg w p (am Z) (ln (am Z))) (hS2 : Seg w p2 (am Z) (ln (am Z))) :
    Calls Try.prog 8 #[.agg #[.bool (ng Z), .slice p (ln (am Z)) (ln (am Z))], .agg #[.bool (ng Z), .slice p2 (ln (am Z)) (ln (am Z))]] w fun e w' => e = .returned (.bool true) ∧ Below w.heap.size w w' := by
  have hs := sameB_self (ln (am Z)) (am Z)
  have hbb : (ng Z == ng Z) = true := by simp
  have H1 := hide' (fun w' k1 k2 => Same_any p p2 (ln (am Z)) (ln (am Z)) (am Z) (ln (am Z)) (ln (am Z)) (am Z) w' hm hm k1 k2)
  go_enter Try.func8, Try.ntmps8
  go_wp2_with fail
  obtain ⟨W, hW⟩ : ∃ W, ((w.alloc (.cells #[.bool (ng Z), .slice p (ln (am Z)) (ln (am Z))] 25)).alloc (.cells #[.bool (ng Z), .slice p2 (ln (am Z)) (ln (am Z))] 25)) = W := ⟨_, rfl⟩
  have q00 : W.cell? ⟨w.heap.size, 0, none⟩ = some (.bool (ng Z)) := by subst hW; go_simp
  have q01 : W.cell? ⟨w.heap.size, 1, none⟩ = some (.slice p (ln (am Z)) (ln (am Z))) := by subst hW; go_simp
  have q10 : W.cell? ⟨w.heap.size + 1, 0, none⟩ = some (.bool (ng Z)) := by subst hW; go_simp
  have q11 : W.cell? ⟨w.heap.size + 1, 1, none⟩ = some (.slice p2 (ln (am Z)) (ln (am Z))) := by subst hW; go_simp
  have hB : Below w.heap.size w W := by subst hW; exact (((Below.refl _ _).alloc (by (try simp only [World.size_alloc]); omega) _).alloc (by (try simp only [World.size_alloc]); omega) _)
  have hz : W.heap.size = w.heap.size + 1 + 1 := by subst hW; simp only [World.size_alloc]
  rw [hW]
  clear hW
  have hBW : Below W.heap.size W W := Below.refl _ _
  refine (H1.out _ (sb hS hB hBW) (sb hS2 hB hBW)).mono ?_
  rintro e w41 ⟨rfl, dd41⟩
  have b41 := dd41.below W.heap.size
  replace hBW := hBW.trans (b41.mono hBW.size)
  replace q00 := below_cell b41 q00
  replace q01 := below_cell b41 q01
  replace q10 := below_cell b41 q10
  replace q11 := below_cell b41 q11
  go_wp2
  go_ret
  exact ⟨rfl, hB.trans (hBW.mono hB.size)⟩
end Go.Proofs.Ytapjaceahifihaa
