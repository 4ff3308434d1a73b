/-
  ratio.Parse of any text: what Rd says of the text behind the sign.
-/
import Derived.Test.YticpdbnlbckbiaaGreatDoorWPQ
namespace Go.Proofs.YticpdbnlbckbiaaGreatDoor
open Go.RowKit
set_option linter.unusedVariables false
set_option linter.unusedSimpArgs false

/-- power's contract, up to a length -/
def Pow10 : Prop := ∀ (k : Nat), k ≤ 140737488351232 → ∀ w', Digs w' → Calls Tryz.prog 35 #[.int .i64 (k : Nat)] w' fun e w'' => ∃ p, e = .returned (.slice p (ln (10 ^ k)) (ln (10 ^ k))) ∧ New w' w'' p (10 ^ k) (ln (10 ^ k))
set_option maxHeartbeats 1000000 in
theorem parts_47_ok (t : ByteArray) (X Y : Nat) (hs : t.size ≤ 140737488351232) (i : Nat) (hi : i < t.size) (h1 : byt t i = 47) (h2 : ∀ k, k < i → byt t k ≠ 47) (w : World) (h : Digs w) (H2 : ∀ v, Digs v → Calls Tryz.prog 19 #[.string (t.extract 0 i), .string (t.extract (i + 1) t.size)] v fun e v' => ∃ p q, e = .returned (.tuple #[.slice p (ln X) (ln X), .slice q (ln Y) (ln Y), .int .i64 0]) ∧ New v v' p X (ln X) ∧ New v v' q Y (ln Y)) :
    Calls Tryz.prog 10 #[.string t] w fun e w' => ∃ p q, e = .returned (.tuple #[.slice p (ln X) (ln X), .slice q (ln Y) (ln Y), .int .i64 0]) ∧ New w w' p X (ln X) ∧ New w w' q Y (ln Y) := by
  have C1 := hide' (fun w' => cut_47_hit t i hi (indexByte_is (by omega) hi h1 h2) (by omega) w')
  have HD := hide' h
  have G2 := hide' H2
  clear h H2 h1 h2
  go_enter Tryz.func10, Tryz.ntmps10
  go_wp2_with fail
  refine (C1.out _).mono ?_
  rintro e w1 ⟨rfl, hd⟩
  have b1 := hd.below w.heap.size
  have b2 := b1
  go_wp2_with fail
  refine (G2.out _ (HD.out.below b2)).mono ?_
  rintro e w3 ⟨p, q, rfl, n1, n2⟩
  go_wp2
  go_ret3
  exact ⟨p, q, rfl, n1.back b2, n2.back b2⟩

set_option maxHeartbeats 1000000 in
theorem parts_46_ok (t : ByteArray) (X Y : Nat) (hs : t.size ≤ 140737488351232) (h47 : ∀ k, k < t.size → byt t k ≠ 47) (i : Nat) (hi : i < t.size) (h1 : byt t i = 46) (h2 : ∀ k, k < i → byt t k ≠ 46) (w : World) (h : Digs w) (H2 : ∀ v, Digs v → Calls Tryz.prog 20 #[.string (t.extract 0 i), .string (t.extract (i + 1) t.size)] v fun e v' => ∃ p q, e = .returned (.tuple #[.slice p (ln X) (ln X), .slice q (ln Y) (ln Y), .int .i64 0]) ∧ New v v' p X (ln X) ∧ New v v' q Y (ln Y)) :
    Calls Tryz.prog 10 #[.string t] w fun e w' => ∃ p q, e = .returned (.tuple #[.slice p (ln X) (ln X), .slice q (ln Y) (ln Y), .int .i64 0]) ∧ New w w' p X (ln X) ∧ New w w' q Y (ln Y) := by
  have C1 := hide' (fun w' => cut_47_miss t (indexByte_not (by omega) h47) w')
  have C2 := hide' (fun w' => cut_46_hit t i hi (indexByte_is (by omega) hi h1 h2) (by omega) w')
  have HD := hide' h
  have G2 := hide' H2
  clear h H2 h1 h2
  go_enter Tryz.func10, Tryz.ntmps10
  go_wp2_with fail
  refine (C1.out _).mono ?_
  rintro e w1 ⟨rfl, hd⟩
  have b1 := hd.below w.heap.size
  go_wp2_with fail
  refine (C2.out _).mono ?_
  rintro e w2 ⟨rfl, hd2⟩
  have b2 := b1.trans (hd2.below w.heap.size)
  go_wp2_with fail
  refine (G2.out _ (HD.out.below b2)).mono ?_
  rintro e w3 ⟨p, q, rfl, n1, n2⟩
  go_wp2
  go_ret3
  exact ⟨p, q, rfl, n1.back b2, n2.back b2⟩

set_option maxHeartbeats 1000000 in
theorem parts_no_ok (t : ByteArray) (X Y : Nat) (hs : t.size ≤ 140737488351232) (h47 : ∀ k, k < t.size → byt t k ≠ 47) (h46 : ∀ k, k < t.size → byt t k ≠ 46) (w : World) (h : Digs w) (H2 : ∀ v, Digs v → Calls Tryz.prog 19 #[.string t, .string ⟨#[49]⟩] v fun e v' => ∃ p q, e = .returned (.tuple #[.slice p (ln X) (ln X), .slice q (ln Y) (ln Y), .int .i64 0]) ∧ New v v' p X (ln X) ∧ New v v' q Y (ln Y)) :
    Calls Tryz.prog 10 #[.string t] w fun e w' => ∃ p q, e = .returned (.tuple #[.slice p (ln X) (ln X), .slice q (ln Y) (ln Y), .int .i64 0]) ∧ New w w' p X (ln X) ∧ New w w' q Y (ln Y) := by
  have C1 := hide' (fun w' => cut_47_miss t (indexByte_not (by omega) h47) w')
  have C2 := hide' (fun w' => cut_46_miss t (indexByte_not (by omega) h46) w')
  have HD := hide' h
  have G2 := hide' H2
  clear h H2
  go_enter Tryz.func10, Tryz.ntmps10
  go_wp2_with fail
  refine (C1.out _).mono ?_
  rintro e w1 ⟨rfl, hd⟩
  have b1 := hd.below w.heap.size
  go_wp2_with fail
  refine (C2.out _).mono ?_
  rintro e w2 ⟨rfl, hd2⟩
  have b2 := b1.trans (hd2.below w.heap.size)
  go_wp2_with fail
  refine (G2.out _ (HD.out.below b2)).mono ?_
  rintro e w3 ⟨p, q, rfl, n1, n2⟩
  go_wp2
  go_ret3
  exact ⟨p, q, rfl, n1.back b2, n2.back b2⟩

set_option maxHeartbeats 1000000 in
theorem parts_47_bad (t : ByteArray) (hs : t.size ≤ 140737488351232) (i : Nat) (hi : i < t.size) (h1 : byt t i = 47) (h2 : ∀ k, k < i → byt t k ≠ 47) (w : World) (h : Digs w) (H2 : ∀ v, Digs v → Calls Tryz.prog 19 #[.string (t.extract 0 i), .string (t.extract (i + 1) t.size)] v fun e v' => e = .returned (.tuple #[.slice none 0 0, .slice none 0 0, .int .i64 31]) ∧ Below v.heap.size v v') :
    Calls Tryz.prog 10 #[.string t] w fun e w' => e = .returned (.tuple #[.slice none 0 0, .slice none 0 0, .int .i64 31]) ∧ Below w.heap.size w w' := by
  have C1 := hide' (fun w' => cut_47_hit t i hi (indexByte_is (by omega) hi h1 h2) (by omega) w')
  have HD := hide' h
  have G2 := hide' H2
  clear h H2 h1 h2
  go_enter Tryz.func10, Tryz.ntmps10
  go_wp2_with fail
  refine (C1.out _).mono ?_
  rintro e w1 ⟨rfl, hd⟩
  have b1 := hd.below w.heap.size
  have b2 := b1
  go_wp2_with fail
  refine (G2.out _ (HD.out.below b2)).mono ?_
  rintro e w3 ⟨rfl, b9⟩
  go_wp2
  go_ret3
  exact ⟨rfl, b2.trans (b9.mono b2.size)⟩

set_option maxHeartbeats 1000000 in
theorem parts_46_bad (t : ByteArray) (hs : t.size ≤ 140737488351232) (h47 : ∀ k, k < t.size → byt t k ≠ 47) (i : Nat) (hi : i < t.size) (h1 : byt t i = 46) (h2 : ∀ k, k < i → byt t k ≠ 46) (w : World) (h : Digs w) (H2 : ∀ v, Digs v → Calls Tryz.prog 20 #[.string (t.extract 0 i), .string (t.extract (i + 1) t.size)] v fun e v' => e = .returned (.tuple #[.slice none 0 0, .slice none 0 0, .int .i64 31]) ∧ Below v.heap.size v v') :
    Calls Tryz.prog 10 #[.string t] w fun e w' => e = .returned (.tuple #[.slice none 0 0, .slice none 0 0, .int .i64 31]) ∧ Below w.heap.size w w' := by
  have C1 := hide' (fun w' => cut_47_miss t (indexByte_not (by omega) h47) w')
  have C2 := hide' (fun w' => cut_46_hit t i hi (indexByte_is (by omega) hi h1 h2) (by omega) w')
  have HD := hide' h
  have G2 := hide' H2
  clear h H2 h1 h2
  go_enter Tryz.func10, Tryz.ntmps10
  go_wp2_with fail
  refine (C1.out _).mono ?_
  rintro e w1 ⟨rfl, hd⟩
  have b1 := hd.below w.heap.size
  go_wp2_with fail
  refine (C2.out _).mono ?_
  rintro e w2 ⟨rfl, hd2⟩
  have b2 := b1.trans (hd2.below w.heap.size)
  go_wp2_with fail
  refine (G2.out _ (HD.out.below b2)).mono ?_
  rintro e w3 ⟨rfl, b9⟩
  go_wp2
  go_ret3
  exact ⟨rfl, b2.trans (b9.mono b2.size)⟩

set_option maxHeartbeats 1000000 in
theorem parts_no_bad (t : ByteArray) (hs : t.size ≤ 140737488351232) (h47 : ∀ k, k < t.size → byt t k ≠ 47) (h46 : ∀ k, k < t.size → byt t k ≠ 46) (w : World) (h : Digs w) (H2 : ∀ v, Digs v → Calls Tryz.prog 19 #[.string t, .string ⟨#[49]⟩] v fun e v' => e = .returned (.tuple #[.slice none 0 0, .slice none 0 0, .int .i64 31]) ∧ Below v.heap.size v v') :
    Calls Tryz.prog 10 #[.string t] w fun e w' => e = .returned (.tuple #[.slice none 0 0, .slice none 0 0, .int .i64 31]) ∧ Below w.heap.size w w' := by
  have C1 := hide' (fun w' => cut_47_miss t (indexByte_not (by omega) h47) w')
  have C2 := hide' (fun w' => cut_46_miss t (indexByte_not (by omega) h46) w')
  have HD := hide' h
  have G2 := hide' H2
  clear h H2
  go_enter Tryz.func10, Tryz.ntmps10
  go_wp2_with fail
  refine (C1.out _).mono ?_
  rintro e w1 ⟨rfl, hd⟩
  have b1 := hd.below w.heap.size
  go_wp2_with fail
  refine (C2.out _).mono ?_
  rintro e w2 ⟨rfl, hd2⟩
  have b2 := b1.trans (hd2.below w.heap.size)
  go_wp2_with fail
  refine (G2.out _ (HD.out.below b2)).mono ?_
  rintro e w3 ⟨rfl, b9⟩
  go_wp2
  go_ret3
  exact ⟨rfl, b2.trans (b9.mono b2.size)⟩

theorem parts_some (t : ByteArray) (X Y : Nat) (hs : t.size ≤ 140737488351232) (HP : Pow10) (hR : Rd t (some (X, Y))) (w : World) (h : Digs w) : Calls Tryz.prog 10 #[.string t] w fun e w' => ∃ p q, e = .returned (.tuple #[.slice p (ln X) (ln X), .slice q (ln Y) (ln Y), .int .i64 0]) ∧ New w w' p X (ln X) ∧ New w w' q Y (ln Y) := by
  have ez : ∀ i j, (t.extract i j).size ≤ t.size := fun i j => by simp only [ByteArray.size_extract]; omega
  cases hR with
  | @over i hi h1 h2 a b c =>
    exact parts_47_ok t _ _ hs i hi h1 h2 w h fun v k => quotient_any _ _ _ _ v k a b rfl rfl (by have := ez 0 i; omega) (by have := ez (i + 1) t.size; omega) c (by have := val_ln b.2.2; have := ez (i + 1) t.size; omega)
  | @point i h0 hi h1 h2 a b =>
    have e : (t.extract (i + 1) t.size).size = t.size - (i + 1) := by simp only [ByteArray.size_extract]; omega
    exact parts_46_ok t _ _ hs h0 i hi h1 h2 w h fun v k => decimal_ok _ _ _ _ v k (by have := ez 0 i; omega) (by omega) (HP _ (by omega)) a b (by rw [e]) (by rw [e])
  | whole h0 h1 a =>
    have hone : isT 10 ⟨#[49]⟩ := ⟨by decide, by decide, fun k hk => by
      obtain rfl : k = 0 := by have : k < 1 := hk; omega
      decide⟩
    exact parts_no_ok t _ _ hs h0 h1 w h fun v k => quotient_any _ _ _ _ v k a hone rfl (by decide) (by omega) (by decide) (by omega) (by rw [ln_one]; omega)

theorem parts_none (t : ByteArray) (hs : t.size ≤ 140737488351232) (hR : Rd t none) (w : World) (h : Digs w) : Calls Tryz.prog 10 #[.string t] w fun e w' => e = .returned (.tuple #[.slice none 0 0, .slice none 0 0, .int .i64 31]) ∧ Below w.heap.size w w' := by
  have ez : ∀ i j, (t.extract i j).size ≤ t.size := fun i j => by simp only [ByteArray.size_extract]; omega
  cases hR with
  | @overBad i hi h1 h2 hn => exact parts_47_bad t hs i hi h1 h2 w h fun v k => quotient_bad _ _ v k (by have := ez 0 i; omega) (by have := ez (i + 1) t.size; omega) hn
  | @pointBad i h0 hi h1 h2 hn => exact parts_46_bad t hs h0 i hi h1 h2 w h fun v k => decimal_bad _ _ v k (by have := ez 0 i; omega) (by have := ez (i + 1) t.size; omega) hn
  | wholeBad h0 h1 hn => exact parts_no_bad t hs h0 h1 w h fun v k => quotient_bad _ _ v k (by omega) (by decide) fun x => hn x.1

end Go.Proofs.YticpdbnlbckbiaaGreatDoor

namespace Go.Proofs.YticpdbnlbckbiaaGreatDoor
open Go.RowKit
set_option linter.unusedVariables false
set_option linter.unusedSimpArgs false

/-- the sign ahead, and what stands behind it -/
def negOf (s : ByteArray) : Bool := decide (0 < s.size ∧ byt s 0 = 45)
def bodyOf (s : ByteArray) : ByteArray := if negOf s = true then s.extract 1 s.size else s
theorem bodyOf_size (s : ByteArray) : (bodyOf s).size ≤ s.size := by
  unfold bodyOf
  split
  · simp only [ByteArray.size_extract]; omega
  · exact Nat.le_refl _
theorem Rd.good {t : ByteArray} {X Y : Nat} (h : Rd t (some (X, Y))) : 0 < Y ∧ ln X ≤ t.size / 8 + 1 ∧ ln Y ≤ t.size / 8 + 1 := by
  have ez : ∀ i j, (t.extract i j).size ≤ t.size := fun i j => by simp only [ByteArray.size_extract]; omega
  cases h with
  | @over i hi h1 h2 a b c =>
    have l1 := val_ln a.2.2
    have l2 := val_ln b.2.2
    have z1 := ez 0 i
    have z2 := ez (i + 1) t.size
    exact ⟨by omega, by omega, by omega⟩
  | @point i h0 hi h1 h2 a b =>
    have e : (t.extract (i + 1) t.size).size = t.size - (i + 1) := by simp only [ByteArray.size_extract]; omega
    have e2 : (t.extract 0 i).size = i := by simp only [ByteArray.size_extract]; omega
    have v1 := val_lt a.2.2
    have v2 := val_lt b.2
    rw [e2] at v1
    rw [e] at v2
    have hX : val 10 (t.extract 0 i) * 10 ^ (t.size - (i + 1)) + val 10 (t.extract (i + 1) t.size) < 10 ^ t.size := by
      have g1 : (val 10 (t.extract 0 i) + 1) * 10 ^ (t.size - (i + 1)) ≤ 10 ^ i * 10 ^ (t.size - (i + 1)) := Nat.mul_le_mul_right _ v1
      rw [Nat.add_mul, Nat.one_mul, ← Nat.pow_add] at g1
      have g2 : 10 ^ (i + (t.size - (i + 1))) ≤ 10 ^ t.size := Nat.pow_le_pow_right (by omega) (by omega)
      omega
    refine ⟨Nat.pow_pos (by omega), ln_le_of_lt (Nat.lt_trans hX (lt8 (by omega))), ?_⟩
    have := ten_ln (t.size - (i + 1))
    omega
  | whole h0 h1 a =>
    have l1 := val_ln a.2.2
    exact ⟨by omega, l1, by rw [ln_one]; omega⟩
theorem cutPre (s : ByteArray) (w : World) : Calls Tryz.prog 9 #[.string s, .string ⟨#[45]⟩] w fun e w' => e = .returned (.tuple #[.string (bodyOf s), .bool (negOf s)]) ∧ w' = w := by
  by_cases h : 0 < s.size ∧ byt s 0 = 45
  · have e1 : negOf s = true := by unfold negOf; exact decide_eq_true h
    have e2 : bodyOf s = s.extract 1 s.size := by unfold bodyOf; rw [if_pos e1]
    rw [e1, e2]
    exact cutMinus_yes s w h.1 h.2
  · have e1 : negOf s = false := by unfold negOf; exact decide_eq_false h
    have e2 : bodyOf s = s := by unfold bodyOf; rw [if_neg (by rw [e1]; decide)]
    rw [e1, e2]
    exact cutMinus_no s w h
theorem qParse_some (s : ByteArray) (X Y V : Nat) (Z : Int) (hs : s.size ≤ 140737488351232) (HP : Pow10) (hR : Rd (bodyOf s) (some (X, Y))) (hL : Low (sg (negOf s) X) (Y : Int) Z V) (w : World) (h : Digs w) :
    Calls Tryz.prog 4 #[.string s] w fun e w' => ∃ p q, e = .returned (.tuple #[.agg #[.bool (ng Z), .slice p (ln (am Z)) (ln (am Z)), .slice q (ln V) (ln V)], .int .i64 0]) ∧ Below w.heap.size w w' ∧ Seg w' p (am Z) (ln (am Z)) ∧ Seg w' q V (ln V) := by
  have hb := bodyOf_size s
  obtain ⟨g1, g2, g3⟩ := hR.good
  exact qParse_gen s (bodyOf s) (negOf s) X Y V Z w h (cutPre s) (fun w' k => parts_some _ X Y (by omega) HP hR w' k) (by omega) (by omega) hL
set_option maxHeartbeats 2000000 in
set_option maxRecDepth 100000 in
theorem qParse_none (s : ByteArray) (hs : s.size ≤ 140737488351232) (hR : Rd (bodyOf s) none) (w : World) (h : Digs w) : Calls Tryz.prog 4 #[.string s] w fun e w' => e = .returned (.tuple #[.agg #[.bool false, .slice none 0 0, .slice none 0 0], .int .i64 31]) ∧ Below w.heap.size w w' := by
  have hb := bodyOf_size s
  have G0 := hide' (cutPre s)
  have G1 := hide' (fun w' k => parts_none (bodyOf s) (by omega) hR w' k)
  have bA := below_alloc (w := w) (.cells #[.bool false, .slice none 0 0, .slice none 0 0] 27)
  have qR := Blk.new w #[.bool false, .slice none 0 0, .slice none 0 0] 27
  have HD := hide' (h.below bA)
  clear h hR
  go_enter Tryz.func4, Tryz.ntmps4
  go_wp2_with fail
  refine (G0.out _).mono ?_
  rintro e w1 ⟨rfl, rfl⟩
  go_wp2_with fail
  refine (G1.out _ HD.out).mono ?_
  rintro e w2 ⟨rfl, b2⟩
  have qR2 := qR.later b2
  have v0 := qR2.cell 0
  have v1 := qR2.cell 1
  have v2 := qR2.cell 2
  simp only [List.getElem?_toArray, List.getElem?_cons_zero, List.getElem?_cons_succ] at v0 v1 v2
  have fz := fun o => qR2.frozen o
  go_wp2
  obtain ⟨c9, q9⟩ := qR2.set3 (.bool false) (.slice none 0 0) (.slice none 0 0)
  have z0 := q9.cell 0
  have z1 := q9.cell 1
  have z2 := q9.cell 2
  simp only [List.getElem?_toArray, List.getElem?_cons_zero, List.getElem?_cons_succ] at z0 z1 z2
  clear v0 v1 v2
  refine bodyPost_ret (v := .tuple #[.agg #[.bool false, .slice none 0 0, .slice none 0 0], .int .i64 31]) (by rw [results_ct rfl]; go_simp) rfl ?_
  exact ⟨rfl, (bA.trans (b2.mono bA.size)).trans (c9.below (Nat.le_refl _))⟩
end Go.Proofs.YticpdbnlbckbiaaGreatDoor
