/-
  RatioReads, second form.
-/
import Derived.Test.YticpdbnlbckbiaaGreatDoorWPX
import Derived.Test.YticpdbnlbckbiaaGreatDoorWPY
import Derived.Test.YticpdbnlbckbiaaGreatDoorWPS
import Derived.Test.YticpdbnlbckbiaaGreatDoorWPT
import Derived.Shelf.Strings.Repeat
import Derived.Test.YticpdbnlbckbiaaGreatDoorWQ7
import Derived.Test.YticpdbnlbckbiaaGreatDoorWQN
import Derived.Test.YticpdbnlbckbiaaGreatDoorWQA
import Derived.Test.YticpdbnlbckbiaaGreatDoorWH3
import Derived.Test.YticpdbnlbckbiaaGreatDoorOpenQ
import Derived.Test.YticpdbnlbckbiaaGreatDoorCards
import Derived.Test.YticpdbnlbckbiaaGreatDoorTie
import Derived.Deep.DeepHandedRow
import Derived.Lib.LaidTab
import Derived.ChangeMaps5
namespace Go.Proofs.YticpdbnlbckbiaaGreatDoor
open Go.RowKit
set_option linter.unusedVariables false

theorem Rf.inv {t : ByteArray} {n : Nat} {o : Option (Nat × Nat)} (h : Rf t n o) (X Y : Nat) (ho : o = some (X, Y)) :
    isT 10 (t.extract 0 n) ∧ ((n = t.size ∧ X = val 10 (t.extract 0 n) ∧ Y = 1) ∨ (n < t.size ∧ byt t n = 47 ∧ isT 10 (t.extract (n + 1) t.size) ∧ X = val 10 (t.extract 0 n) ∧ val 10 (t.extract (n + 1) t.size) = Y ∧ Y ≠ 0) ∨ (n < t.size ∧ byt t n = 46 ∧ tl10 (t.extract (n + 1) t.size) ∧ X = val 10 (t.extract 0 n) * 10 ^ (t.size - (n + 1)) + val 10 (t.extract (n + 1) t.size) ∧ Y = 10 ^ (t.size - (n + 1)))) := by
  cases h with
  | bad _ => cases ho
  | whole a e => injection ho with ho; injection ho with h1 h2; exact ⟨a, Or.inl ⟨e, h1.symm, h2.symm⟩⟩
  | over a b c d e => injection ho with ho; injection ho with h1 h2; exact ⟨a, Or.inr (Or.inl ⟨b, c, d, h1.symm, h2, by rw [← h2]; exact e⟩)⟩
  | overBad _ _ _ _ => cases ho
  | point a b c d => injection ho with ho; injection ho with h1 h2; exact ⟨a, Or.inr (Or.inr ⟨b, c, d, h1.symm, h2.symm⟩)⟩
  | pointBad _ _ _ _ => cases ho
  | other _ _ _ _ => cases ho
theorem Rf.none_inv {t : ByteArray} {n : Nat} {o : Option (Nat × Nat)} (h : Rf t n o) (ho : o = none) :
    ¬ isT 10 (t.extract 0 n) ∨ (isT 10 (t.extract 0 n) ∧ n < t.size ∧ ((byt t n = 47 ∧ ¬ (isT 10 (t.extract (n + 1) t.size) ∧ val 10 (t.extract (n + 1) t.size) ≠ 0)) ∨ (byt t n = 46 ∧ ¬ tl10 (t.extract (n + 1) t.size)) ∨ (byt t n ≠ 47 ∧ byt t n ≠ 46))) := by
  cases h with
  | bad a => exact Or.inl a
  | whole a e => cases ho
  | over a b c d e => cases ho
  | overBad a b c d => exact Or.inr ⟨a, b, Or.inl ⟨c, d⟩⟩
  | point a b c d => cases ho
  | pointBad a b c d => exact Or.inr ⟨a, b, Or.inr (Or.inl ⟨c, d⟩)⟩
  | other a b c d => exact Or.inr ⟨a, b, Or.inr (Or.inr ⟨c, d⟩)⟩
theorem tl_two {t : ByteArray} {n : Nat} (h : tl10 (t.extract (n + 1) t.size)) : n + 1 < t.size := by
  have := h.1
  simp only [ByteArray.size_extract] at this
  omega
theorem vqParse_some (s : ByteArray) (X Y V : Nat) (Z : Int) (hs : s.size ≤ 140737488351232) (hR : Rd (bodyOf s) (some (X, Y))) (hL : Low (sg (negOf s) X) (Y : Int) Z V) (w : World) :
    Calls Tryz.prog 5 #[.string s] w fun e w' => ∃ p q, e = .returned (.tuple #[.agg #[.bool (ng Z), .slice p (ln (am Z)) (ln (am Z)), .slice q (ln V) (ln V)], .int .i64 0]) ∧ Below w.heap.size w w' ∧ Seg w' p (am Z) (ln (am Z)) ∧ Seg w' q V (ln V) := by
  obtain ⟨n, l⟩ := Lead.ex (bodyOf s)
  obtain ⟨a, hc⟩ := (hR.ref l).inv X Y rfl
  have h0 : 0 < s.size := by
    have h1 := a.1
    have h2 := bodyOf_size s
    simp only [ByteArray.size_extract] at h1
    omega
  by_cases hm : byt s 0 = 45
  · have e1 : negOf s = true := by unfold negOf; exact decide_eq_true ⟨h0, hm⟩
    have e2 : s.extract 1 s.size = bodyOf s := by unfold bodyOf; rw [if_pos e1]
    rw [e1] at hL
    rcases hc with ⟨c1, rfl, rfl⟩ | ⟨c1, c2, c3, rfl, c5, c6⟩ | ⟨c1, c2, c3, rfl, rfl⟩
    · exact vqParse_whole_ng s (bodyOf s) n _ V Z hs h0 hm e2 l a rfl c1 hL w
    · exact vqParse_over_ng s (bodyOf s) n _ Y V Z hs h0 hm e2 l a rfl c1 c2 c3 c5 c6 hL w
    · exact vqParse_point_ng s (bodyOf s) n _ V Z hs h0 hm e2 l a rfl (tl_two c3) c2 c3 hL w
  · have e1 : negOf s = false := by unfold negOf; exact decide_eq_false (fun h => hm h.2)
    have e2 : s = bodyOf s := by unfold bodyOf; rw [if_neg (by rw [e1]; decide)]
    rw [e1] at hL
    rcases hc with ⟨c1, rfl, rfl⟩ | ⟨c1, c2, c3, rfl, c5, c6⟩ | ⟨c1, c2, c3, rfl, rfl⟩
    · exact vqParse_whole_pl s (bodyOf s) n _ V Z hs h0 hm e2 l a rfl c1 hL w
    · exact vqParse_over_pl s (bodyOf s) n _ Y V Z hs h0 hm e2 l a rfl c1 c2 c3 c5 c6 hL w
    · exact vqParse_point_pl s (bodyOf s) n _ V Z hs h0 hm e2 l a rfl (tl_two c3) c2 c3 hL w

theorem vqParse_none (s : ByteArray) (hs : s.size ≤ 140737488351232) (hR : Rd (bodyOf s) none) (w : World) : Calls Tryz.prog 5 #[.string s] w fun e w' => e = .returned (.tuple #[.agg #[.bool false, .slice none 0 0, .slice none 0 0], .int .i64 31]) ∧ Below w.heap.size w w' := by
  obtain ⟨n, l⟩ := Lead.ex (bodyOf s)
  have hc := (hR.ref l).none_inv rfl
  by_cases h0 : 0 < s.size
  · by_cases hm : byt s 0 = 45
    · have e1 : negOf s = true := by unfold negOf; exact decide_eq_true ⟨h0, hm⟩
      have e2 : s.extract 1 s.size = bodyOf s := by unfold bodyOf; rw [if_pos e1]
      rcases hc with a | ⟨a, c1, ⟨c2, c3⟩ | ⟨c2, c3⟩ | ⟨c2, c3⟩⟩
      · exact vqParse_bad_ng s (bodyOf s) n hs h0 hm e2 l a w
      · by_cases b : isT 10 ((bodyOf s).extract (n + 1) (bodyOf s).size)
        · exact vqParse_overZero_ng s (bodyOf s) n _ hs h0 hm e2 l a rfl c1 c2 b (by by_cases z : val 10 ((bodyOf s).extract (n + 1) (bodyOf s).size) = 0; exact z; exact absurd ⟨b, z⟩ c3) w
        · exact vqParse_overBad_ng s (bodyOf s) n _ hs h0 hm e2 l a rfl c1 c2 b w
      · by_cases b : n + 1 = (bodyOf s).size
        · exact vqParse_pointNone_ng s (bodyOf s) n _ hs h0 hm e2 l a rfl b c2 w
        · exact vqParse_pointBad_ng s (bodyOf s) n _ hs h0 hm e2 l a rfl (by omega) c2 c3 w
      · exact vqParse_other_ng s (bodyOf s) n _ hs h0 hm e2 l a rfl c1 c2 c3 w
    · have e1 : negOf s = false := by unfold negOf; exact decide_eq_false (fun h => hm h.2)
      have e2 : s = bodyOf s := by unfold bodyOf; rw [if_neg (by rw [e1]; decide)]
      rcases hc with a | ⟨a, c1, ⟨c2, c3⟩ | ⟨c2, c3⟩ | ⟨c2, c3⟩⟩
      · exact vqParse_bad_pl s (bodyOf s) n hs h0 hm e2 l a w
      · by_cases b : isT 10 ((bodyOf s).extract (n + 1) (bodyOf s).size)
        · exact vqParse_overZero_pl s (bodyOf s) n _ hs h0 hm e2 l a rfl c1 c2 b (by by_cases z : val 10 ((bodyOf s).extract (n + 1) (bodyOf s).size) = 0; exact z; exact absurd ⟨b, z⟩ c3) w
        · exact vqParse_overBad_pl s (bodyOf s) n _ hs h0 hm e2 l a rfl c1 c2 b w
      · by_cases b : n + 1 = (bodyOf s).size
        · exact vqParse_pointNone_pl s (bodyOf s) n _ hs h0 hm e2 l a rfl b c2 w
        · exact vqParse_pointBad_pl s (bodyOf s) n _ hs h0 hm e2 l a rfl (by omega) c2 c3 w
      · exact vqParse_other_pl s (bodyOf s) n _ hs h0 hm e2 l a rfl c1 c2 c3 w
  · have e1 : negOf s = false := by unfold negOf; exact decide_eq_false (fun h => h0 h.1)
    have e2 : s = bodyOf s := by unfold bodyOf; rw [if_neg (by rw [e1]; decide)]
    have hz : s.size = 0 := by omega
    have a : ¬ isT 10 ((bodyOf s).extract 0 n) := fun a => by
      have h1 := a.1
      have h2 := bodyOf_size s
      simp only [ByteArray.size_extract] at h1
      omega
    exact vqParse_bad_em s (bodyOf s) n hs hz e2 l a w
end Go.Proofs.YticpdbnlbckbiaaGreatDoor

namespace Go.Proofs
open Go.Shelf
def Tryz.lays105_ren : Go.Shelf.Ren := ⟨fun | 105 => 58 | 212 => 76 | 99 => 77 | 165 => 78 | 166 => 79 | 170 => 80 | 169 => 81 | 263 => 93 | 264 => 94 | 206 => 31 | 240 => 95 | 241 => 96 | 276 => 103 | 277 => 104 | n => n, fun | 9 => 9 | 3 => 3 | 4 => 4 | 20 => 20 | 0 => 0 | 46 => 59 | 109 => 95 | 5 => 5 | 72 => 100 | 76 => 104 | 51 => 45 | 146 => 121 | 53 => 57 | 148 => 115 | 70 => 97 | 37 => 98 | 75 => 103 | 127 => 125 | 164 => 129 | 80 => 107 | n => n, fun | n => n⟩
theorem Tryz.lays105 : Go.Proofs.Lays.n105 Tryz.prog Tryz.lays105_ren := {
  mixed := by kernel_rfl
  f99 := Tryz.func77.trans (congrArg some (by kernel_rfl))
  f105 := Tryz.func58.trans (congrArg some (by kernel_rfl))
  f165 := Tryz.func78.trans (congrArg some (by kernel_rfl))
  f166 := Tryz.func79.trans (congrArg some (by kernel_rfl))
  f169 := Tryz.func81.trans (congrArg some (by kernel_rfl))
  f170 := Tryz.func80.trans (congrArg some (by kernel_rfl))
  f206 := Tryz.func31.trans (congrArg some (by kernel_rfl))
  f212 := Tryz.func76.trans (congrArg some (by kernel_rfl))
  f240 := Tryz.func95.trans (congrArg some (by kernel_rfl))
  f241 := Tryz.func96.trans (congrArg some (by kernel_rfl))
  f263 := Tryz.func93.trans (congrArg some (by kernel_rfl))
  f264 := Tryz.func94.trans (congrArg some (by kernel_rfl))
  f276 := Tryz.func103.trans (congrArg some (by kernel_rfl))
  f277 := Tryz.func104.trans (congrArg some (by kernel_rfl))
  t0 := Tryz.underlying0
  a0 := Tryz.isAgg0
  z0 := Tryz.sizeOf0
  v0 := Tryz.zeroValue0
  t3 := Tryz.underlying3
  a3 := Tryz.isAgg3
  z3 := Tryz.sizeOf3
  v3 := Tryz.zeroValue3
  t4 := Tryz.underlying4
  a4 := Tryz.isAgg4
  z4 := Tryz.sizeOf4
  v4 := Tryz.zeroValue4
  t5 := Tryz.underlying5
  a5 := Tryz.isAgg5
  z5 := Tryz.sizeOf5
  v5 := Tryz.zeroValue5
  t9 := Tryz.underlying9
  a9 := Tryz.isAgg9
  z9 := Tryz.sizeOf9
  v9 := Tryz.zeroValue9
  t20 := Tryz.underlying20
  a20 := Tryz.isAgg20
  z20 := Tryz.sizeOf20
  v20 := Tryz.zeroValue20
  t37 := Tryz.underlying98
  a37 := Tryz.isAgg98
  z37 := Tryz.sizeOf98
  v37 := Tryz.zeroValue98
  t46 := Tryz.underlying59
  a46 := Tryz.isAgg59
  z46 := Tryz.sizeOf59
  v46 := Tryz.zeroValue59
  t51 := Tryz.underlying45
  a51 := Tryz.isAgg45
  z51 := Tryz.sizeOf45
  v51 := Tryz.zeroValue45
  t53 := Tryz.underlying57
  a53 := Tryz.isAgg57
  z53 := Tryz.sizeOf57
  v53 := Tryz.zeroValue57
  t70 := Tryz.underlying97
  a70 := Tryz.isAgg97
  z70 := Tryz.sizeOf97
  v70 := Tryz.zeroValue97
  t72 := Tryz.underlying100
  a72 := Tryz.isAgg100
  z72 := Tryz.sizeOf100
  v72 := Tryz.zeroValue100
  t75 := Tryz.underlying103
  a75 := Tryz.isAgg103
  z75 := Tryz.sizeOf103
  v75 := Tryz.zeroValue103
  t76 := Tryz.underlying104
  a76 := Tryz.isAgg104
  z76 := Tryz.sizeOf104
  v76 := Tryz.zeroValue104
  t109 := Tryz.underlying95
  a109 := Tryz.isAgg95
  z109 := Tryz.sizeOf95
  v109 := Tryz.zeroValue95
  t127 := Tryz.underlying125
  a127 := Tryz.isAgg125
  z127 := Tryz.sizeOf125
  v127 := Tryz.zeroValue125
  t146 := Tryz.underlying121
  a146 := Tryz.isAgg121
  z146 := Tryz.sizeOf121
  v146 := Tryz.zeroValue121
  t148 := Tryz.underlying115
  a148 := Tryz.isAgg115
  z148 := Tryz.sizeOf115
  v148 := Tryz.zeroValue115
  t164 := Tryz.underlying129
  a164 := Tryz.isAgg129
  z164 := Tryz.sizeOf129
  v164 := Tryz.zeroValue129 }
theorem Tryz.Builder_Extra_105 : Builder.Extra Tryz.prog Tryz.lays105_ren := {
  sizeBuilder := by kernel_rfl
  liesBuilder := by kernel_rfl
  t5 := Tryz.underlying5
  a5 := Tryz.isAgg5
  z5 := Tryz.sizeOf5
  v5 := Tryz.zeroValue5
  infoByte := by kernel_rfl
  cellsByte := by kernel_rfl
  sizeByte := by kernel_rfl
  neB5 := by decide }
end Go.Proofs
namespace Go.Proofs.YticpdbnlbckbiaaGreatDoor
open Go.RowKit
theorem repeatL_at : ∀ (k : Nat), (Lib.repeatL [48] k).length = k ∧ ∀ x ∈ Lib.repeatL [48] k, x = 48
  | 0 => ⟨rfl, fun x hx => by simp [Lib.repeatL] at hx⟩
  | k + 1 => by
    obtain ⟨h1, h2⟩ := repeatL_at k
    refine ⟨by simp [Lib.repeatL, h1]; try omega, fun x hx => ?_⟩
    rw [Lib.repeatL, List.mem_append] at hx
    rcases hx with h | h
    · simpa using h
    · exact h2 x h
theorem noughts : Noughts := fun k hk w => by
  obtain ⟨h1, h2⟩ := repeatL_at k
  refine (Any.strings_Repeat Tryz.lays105 Tryz.Builder_Extra_105 ⟨#[48]⟩ k w (by omega) (by show 1 * k ≤ _; omega)).mono ?_
  rintro e w' ⟨he, hb⟩
  have hs : (⟨(Lib.repeatL [48] k).toArray⟩ : ByteArray).size = k := by show (Lib.repeatL [48] k).toArray.size = k; rw [List.size_toArray]; exact h1
  refine ⟨⟨(Lib.repeatL [48] k).toArray⟩, he, hs, fun j hj => ?_, hb⟩
  rw [byt_of hj]
  have : (⟨(Lib.repeatL [48] k).toArray⟩ : ByteArray)[j] = 48 := h2 _ (by
    show (Lib.repeatL [48] k).toArray[j] ∈ _
    simp)
  rw [this]
  rfl
end Go.Proofs.YticpdbnlbckbiaaGreatDoor

namespace Go.Proofs.YticpdbnlbckbiaaGreatDoor
open Go.RowKit
set_option linter.unusedVariables false

theorem Seg.set3 {w : World} {p : Option Addr} {X n c : Nat} {u0 u1 u2 : Value} {z0 : Bool} {a1 a2 : Option Addr} {n1 n2 k1 k2 : Nat} (h : Seg w p X n) (h0 : w.cell? ⟨c, 0, none⟩ = some (.bool z0)) (h1 : w.cell? ⟨c, 1, none⟩ = some (.slice a1 n1 k1)) (h2 : w.cell? ⟨c, 2, none⟩ = some (.slice a2 n2 k2)) :
    Seg (((w.setCell ⟨c, 0, none⟩ u0).setCell ⟨c, 1, none⟩ u1).setCell ⟨c, 2, none⟩ u2) p X n := by
  refine ((h.setB h0 (by simp)).setB (z := .slice a1 n1 k1) ?_ (by simp)).setB (z := .slice a2 n2 k2) ?_ (by simp)
  · rw [World.cell?_setCell_other _ _ _ _ (fun e => by simp at e)]; exact h1
  · rw [World.cell?_setCell_other _ _ _ _ (fun e => by simp at e), World.cell?_setCell_other _ _ _ _ (fun e => by simp at e)]; exact h2

end Go.Proofs.YticpdbnlbckbiaaGreatDoor

namespace Go.Proofs.YticpdbnlbckbiaaGreatDoor
open Go.RowKit
set_option linter.unusedVariables false

theorem lt_prod {a b : Int} {i j : Nat} (ha : am a < BB ^ i) (hb : am b < BB ^ j) : am (a * b) < BB ^ (i + j) := by
  rw [am_mul, Nat.pow_add]
  exact Nat.mul_lt_mul'' ha hb
theorem lt_sum {a b : Int} {i j k : Nat} (ha : am a < BB ^ i) (hb : am b < BB ^ j) (hi : i + 1 ≤ k) (hj : j + 1 ≤ k) : am (a + b) < BB ^ k :=
  Nat.lt_of_lt_of_le (Nat.lt_of_le_of_lt (am_add a b) (ln_lt (am a + am b))) (pow_mono (ln_sum ha hb hi hj))
theorem ln1 {A D Z : Int} {V i j k : Nat} (h : Low A D Z V) (hA : am A < BB ^ i) (hD : am D < BB ^ j) (hi : i ≤ k) (hj : j ≤ k) : ln (am Z) ≤ k ∧ ln V ≤ k :=
  ⟨Nat.le_trans (ln_le_of_lt (Nat.lt_of_le_of_lt h.le.1 hA)) hi, Nat.le_trans (ln_le_of_lt (Nat.lt_of_le_of_lt h.le.2 hD)) hj⟩


end Go.Proofs.YticpdbnlbckbiaaGreatDoor

namespace Go.Proofs.YticpdbnlbckbiaaGreatDoor
open Go.RowKit
set_option linter.unusedVariables false




theorem none_is (w : World) : Calls Tryz.prog 7 #[.agg #[.bool false, .slice none 0 0, .slice none 0 0]] w fun e w' => e = .returned (.bool true) ∧ Below w.heap.size w w' := by
  go_enter Tryz.func7, Tryz.ntmps7
  have hB : Below w.heap.size w (w.alloc (.cells #[.bool false, .slice none 0 0, .slice none 0 0] 27)) := below_alloc _
  go_wp2
  go_ret
  exact ⟨rfl, hB⟩
end Go.Proofs.YticpdbnlbckbiaaGreatDoor

namespace Go.Proofs.YticpdbnlbckbiaaGreatDoor.ratioReads
open Go.ChangeShapes Go.WideShapes Go.ChangeAt Go.RowKit Go.Proofs.YticpdbnlbckbiaaGreatDoor
set_option linter.unusedVariables false

theorem five {w : World} (h : Digs w) : Digits w := ⟨h 0 (by omega), h 1 (by omega), h 2 (by omega), h 3 (by omega), h 4 (by omega)⟩
theorem ln_mono {a b : Nat} (h : a ≤ b) : ln a ≤ ln b := ln_le_of_lt (Nat.lt_of_le_of_lt h (ln_lt b))
set_option maxHeartbeats 4000000 in
set_option maxRecDepth 100000 in
theorem walk_some (s : ByteArray) (X Y : Nat) (w : World) (hs : s.size ≤ 140737488351232) (hDg : Digs w) (hR : Rd (bodyOf s) (some (X, Y))) : Calls Tryz.prog 3 #[.string s] w fun e w' => e = .returned (.bool true) ∧ Below w.heap.size w w' := by
  obtain ⟨gY, gX, gY2⟩ := hR.good
  have hb := bodyOf_size s
  obtain ⟨Z, V, hL⟩ := low_ex (sg (negOf s) X) (Y : Int) (by omega)
  have hle := hL.le
  rw [am_sg, am_nat] at hle
  have lZ : ln (am Z) ≤ 35184372088000 := Nat.le_trans (ln_mono hle.1) (by omega)
  have lV : ln V ≤ 35184372088000 := Nat.le_trans (ln_mono hle.2) (by omega)
  have G1 := hide' (fun w' (k : Digs w') => qParse_some s X Y V Z hs (pow10 noughts) hR hL w' k)
  have G2 := hide' (fun w' => vqParse_some s X Y V Z hs hR hL w')
  have GS := hide' (fun w' p1 p2 p3 p4 k1 k2 k3 k4 => sameQ_is Z V p1 p2 p3 p4 w' (by omega) (by omega) k1 k2 k3 k4)
  clear hR hL hle gX gY2 gY hb
  have HD2 := hide' hDg
  clear hDg
  have bel2 := Below.refl w.heap.size w
  go_enter Tryz.func3, Tryz.ntmps3
  go_wp2_with fail
  refine (G1.out _ HD2.out).mono ?_
  rintro e w1 ⟨px, qx, rfl, b9, kpx, kqx⟩
  have bb := b9
  clear b9
  replace HD2 := hide' (HD2.out.below bb)
  replace bel2 := bel2.trans (bb.mono bel2.size)
  clear bb
  have q3 := Blk.new w1 #[.bool (ng Z), .slice px (ln (am Z)) (ln (am Z)), .slice qx (ln V) (ln V)] 27
  have bb := below_alloc (w := w1) (.cells #[.bool (ng Z), .slice px (ln (am Z)) (ln (am Z)), .slice qx (ln V) (ln V)] 27)
  replace kpx := kpx.later bb
  replace kqx := kqx.later bb
  replace HD2 := hide' (HD2.out.below bb)
  replace bel2 := bel2.trans (bb.mono bel2.size)
  clear bb
  go_wp2_with fail
  refine (G2.out _).mono ?_
  rintro e w2 ⟨py, qy, rfl, b9, kpy, kqy⟩
  have bb := b9
  clear b9
  replace kpx := kpx.later bb
  replace kqx := kqx.later bb
  replace q3 := q3.later bb
  replace HD2 := hide' (HD2.out.below bb)
  replace bel2 := bel2.trans (bb.mono bel2.size)
  clear bb
  have q5 := Blk.new w2 #[.bool (ng Z), .slice py (ln (am Z)) (ln (am Z)), .slice qy (ln V) (ln V)] 27
  have bb := below_alloc (w := w2) (.cells #[.bool (ng Z), .slice py (ln (am Z)) (ln (am Z)), .slice qy (ln V) (ln V)] 27)
  replace kpx := kpx.later bb
  replace kqx := kqx.later bb
  replace q3 := q3.later bb
  replace kpy := kpy.later bb
  replace kqy := kqy.later bb
  replace HD2 := hide' (HD2.out.below bb)
  replace bel2 := bel2.trans (bb.mono bel2.size)
  clear bb
  have x0 := q3.cell 0
  have x1 := q3.cell 1
  have x2 := q3.cell 2
  simp only [List.getElem?_toArray, List.getElem?_cons_zero, List.getElem?_cons_succ] at x0 x1 x2
  have y0 := q5.cell 0
  have y1 := q5.cell 1
  have y2 := q5.cell 2
  simp only [List.getElem?_toArray, List.getElem?_cons_zero, List.getElem?_cons_succ] at y0 y1 y2
  go_wp2_with fail
  clear x0 x1 x2 y0 y1 y2
  refine (GS.out _ px qx py qy kpx kqx kpy kqy).mono ?_
  rintro e w3 ⟨rfl, b9⟩
  have bb := b9
  clear b9
  replace kpx := kpx.later bb
  replace kqx := kqx.later bb
  replace q3 := q3.later bb
  replace kpy := kpy.later bb
  replace kqy := kqy.later bb
  replace q5 := q5.later bb
  replace HD2 := hide' (HD2.out.below bb)
  replace bel2 := bel2.trans (bb.mono bel2.size)
  clear bb
  go_wp2_with fail
  refine (half_is _ (five HD2.out)).mono ?_
  rintro e w4 ⟨rfl, b9⟩
  have bb := b9
  clear b9
  replace kpx := kpx.later bb
  replace kqx := kqx.later bb
  replace q3 := q3.later bb
  replace kpy := kpy.later bb
  replace kqy := kqy.later bb
  replace q5 := q5.later bb
  replace HD2 := hide' (HD2.out.below bb)
  replace bel2 := bel2.trans (bb.mono bel2.size)
  clear bb
  go_wp2
  go_ret
  exact ⟨rfl, bel2⟩

set_option maxHeartbeats 4000000 in
set_option maxRecDepth 100000 in
theorem walk_none (s : ByteArray) (w : World) (hs : s.size ≤ 140737488351232) (hDg : Digs w) (hR : Rd (bodyOf s) none) : Calls Tryz.prog 3 #[.string s] w fun e w' => e = .returned (.bool true) ∧ Below w.heap.size w w' := by
  have G1 := hide' (fun w' (k : Digs w') => qParse_none s hs hR w' k)
  have G2 := hide' (fun w' => vqParse_none s hs hR w')
  clear hR
  have HD2 := hide' hDg
  clear hDg
  have bel2 := Below.refl w.heap.size w
  go_enter Tryz.func3, Tryz.ntmps3
  go_wp2_with fail
  refine (G1.out _ HD2.out).mono ?_
  rintro e w1 ⟨rfl, b9⟩
  have bb := b9
  clear b9
  replace HD2 := hide' (HD2.out.below bb)
  replace bel2 := bel2.trans (bb.mono bel2.size)
  clear bb
  have q3 := Blk.new w1 #[.bool false, .slice none 0 0, .slice none 0 0] 27
  have bb := below_alloc (w := w1) (.cells #[.bool false, .slice none 0 0, .slice none 0 0] 27)
  replace HD2 := hide' (HD2.out.below bb)
  replace bel2 := bel2.trans (bb.mono bel2.size)
  clear bb
  go_wp2_with fail
  refine (G2.out _).mono ?_
  rintro e w2 ⟨rfl, b9⟩
  have bb := b9
  clear b9
  replace q3 := q3.later bb
  replace HD2 := hide' (HD2.out.below bb)
  replace bel2 := bel2.trans (bb.mono bel2.size)
  clear bb
  have q5 := Blk.new w2 #[.bool false, .slice none 0 0, .slice none 0 0] 27
  have bb := below_alloc (w := w2) (.cells #[.bool false, .slice none 0 0, .slice none 0 0] 27)
  replace q3 := q3.later bb
  replace HD2 := hide' (HD2.out.below bb)
  replace bel2 := bel2.trans (bb.mono bel2.size)
  clear bb
  have x0 := q3.cell 0
  have x1 := q3.cell 1
  have x2 := q3.cell 2
  simp only [List.getElem?_toArray, List.getElem?_cons_zero, List.getElem?_cons_succ] at x0 x1 x2
  go_wp2_with fail
  clear x0 x1 x2
  refine (none_is _).mono ?_
  rintro e w3 ⟨rfl, b9⟩
  have bb := b9
  clear b9
  replace q3 := q3.later bb
  replace q5 := q5.later bb
  replace HD2 := hide' (HD2.out.below bb)
  replace bel2 := bel2.trans (bb.mono bel2.size)
  clear bb
  go_wp2_with fail
  refine (half_is _ (five HD2.out)).mono ?_
  rintro e w4 ⟨rfl, b9⟩
  have bb := b9
  clear b9
  replace q3 := q3.later bb
  replace q5 := q5.later bb
  replace HD2 := hide' (HD2.out.below bb)
  replace bel2 := bel2.trans (bb.mono bel2.size)
  clear bb
  go_wp2
  go_ret
  exact ⟨rfl, bel2⟩

theorem walk (s : ByteArray) (w : World) (hs : s.size ≤ 140737488351232) (hDg : Digs w) : Calls Tryz.prog 3 #[.string s] w fun e w' => e = .returned (.bool true) ∧ Below w.heap.size w w' := by
  obtain ⟨o, hR⟩ := Rd.ex (bodyOf s)
  cases o with
  | none => exact walk_none s w hs hDg hR
  | some p => exact walk_some s p.1 p.2 w hs hDg hR

theorem gTab : Tryz.prog.globalNamed "fulcrum/nat.digits" = some 1 := by kernel_rfl
theorem gTabType : (Tryz.prog.globals[1]?).map (·.type) = some 92 := by kernel_rfl
theorem cellsA : Tryz.prog.cellsOf 92 = 16 := by kernel_rfl
theorem cells8 : Tryz.prog.cellsOf 5 = 1 := by kernel_rfl
theorem table {W : World} (h : laidMetH Tryz.prog Rows.ratioReadsRow.laid W) : Lib.TabIs Tryz.prog W "fulcrum/nat.digits" .u8 [48, 49, 50, 51, 52, 53, 54, 55, 56, 57, 97, 98, 99, 100, 101, 102] :=
  Lib.tabIs_of_head (rest := []) gTab gTabType Tryz.underlying92 Tryz.underlying5 cells8 cellsA h
theorem digs_of {W : World} (h : laidMetH Tryz.prog Rows.ratioReadsRow.laid W) : Digs W
  | 0, _ => (table h).cell gTab 0 (by decide)
  | 1, _ => (table h).cell gTab 1 (by decide)
  | 2, _ => (table h).cell gTab 2 (by decide)
  | 3, _ => (table h).cell gTab 3 (by decide)
  | 4, _ => (table h).cell gTab 4 (by decide)
  | 5, _ => (table h).cell gTab 5 (by decide)
  | 6, _ => (table h).cell gTab 6 (by decide)
  | 7, _ => (table h).cell gTab 7 (by decide)
  | 8, _ => (table h).cell gTab 8 (by decide)
  | 9, _ => (table h).cell gTab 9 (by decide)
  | 10, _ => (table h).cell gTab 10 (by decide)
  | 11, _ => (table h).cell gTab 11 (by decide)
  | 12, _ => (table h).cell gTab 12 (by decide)
  | 13, _ => (table h).cell gTab 13 (by decide)
  | 14, _ => (table h).cell gTab 14 (by decide)
  | 15, _ => (table h).cell gTab 15 (by decide)
  | k + 16, hk => absurd hk (by omega)

set_option maxRecDepth 100000 in
theorem contract (H : Type) (enc : TypeId × Value → H) (W : World) (base : Nat) (args : Array Value) (ds gs : List (DataW H)) (before : List MemPlace)
    (hval : ∀ (j : Nat) t v, Tryz.f3.params[j]? = some t → args[j]? = some v → Value.okWide Tryz.prog W .any base t v)
    (hW : DataW.Whole enc Tryz.prog Tryz.f3.params.toList Rows.ratioReadsSpec.vars false W args.toList ds gs before)
    (hsz : (DataW.weightsEach Tryz.prog (Tryz.f3.params.toList ++ Rows.ratioReadsSpec.plain.varTypes Tryz.prog) (ds ++ gs)).all (· ≤ reachBytes) = true) (hL : laidMetH Tryz.prog Rows.ratioReadsRow.laid W) :
    Calls Tryz.prog 3 args W fun e W' => ∃ v, e = .returned v ∧ Rows.ratioReadsSpec.post enc Tryz.prog Tryz.f3 false true false false W args v W' := by
  have hW' := hW
  obtain ⟨p, q, hA0, hV, rfl, hfz, hnd⟩ := hW
  have hA : DataW.TrodAll enc Tryz.prog W 0 (fun _ => true) true Tryz.f3.params.toList args.toList ds p := hA0
  rw [Tryz.params3] at hA hval hsz
  obtain ⟨v0, vs0, d0, ds0, p0, q0, hargs, rfl, rfl, h0, r0⟩ := trodAll_cons hA
  obtain ⟨rfl, rfl, rfl⟩ := trodAll_nil r0
  obtain rfl : args = #[v0] := by cases args; simp_all
  obtain ⟨rfl, rfl⟩ := trodVars_none hV
  obtain ⟨n0, rfl, rfl, rfl, w0⟩ := Go.ChangeMaps.open_string Tryz.underlying9 (hval 0 9 v0 rfl rfl) h0
  have sz0 : n0.size = n0.data.toList.length := by rw [Array.length_toList]; rfl
  have ss0 := sized_string hsz (j := 0) (t := 9) rfl rfl
  rw [show reachBytes = 140737488351232 from rfl] at ss0
  clear hA0
  simp only [List.append_nil] at hW'
  refine (walk n0 W (by omega) (digs_of hL)).mono fun e W' ⟨he, bel⟩ => ?_
  subst he
  exact ⟨_, rfl, _, _, _, [], _, [], hW', trodAll_mk1 (shut_bool Tryz.underlying4 _), (trodAll_cons_mk (Go.ChangeMaps.shut_string Tryz.underlying9 w0) trodAll_mk0), rfl, bel.frame _, fun h => by cases h⟩

def setCells (cs : Array Value) : Obj → Obj
  | .cells _ t frozen => .cells cs t frozen
  | o => o
set_option maxRecDepth 100000 in
noncomputable def laidWorld (os : Os) : World :=
  { World.holding Tryz.prog os ⟨#[], #[], []⟩ with heap := ((World.holding Tryz.prog os ⟨#[], #[], []⟩).heap.modify 1 (setCells #[.int .u8 48, .int .u8 49, .int .u8 50, .int .u8 51, .int .u8 52, .int .u8 53, .int .u8 54, .int .u8 55, .int .u8 56, .int .u8 57, .int .u8 97, .int .u8 98, .int .u8 99, .int .u8 100, .int .u8 101, .int .u8 102])) }
set_option maxRecDepth 100000 in
theorem laid_met (os : Os) : laidMet Tryz.prog Rows.ratioReadsRow.laid ((laidWorld os).forCall (fun _ _ => 0) ⟨#[], #[.string ByteArray.empty], []⟩).memory :=
  laidMet_of_run' 8 (by kernel_rfl) (by kernel_rfl)
theorem reads (os : Os) {H : Type} (enc : TypeId × Value → H) : ∃ places, DataW.whole enc Tryz.prog ((laidWorld os).forCall (fun _ _ => 0) ⟨#[], #[.string ByteArray.empty], []⟩).memory Tryz.f3.params.toList Rows.ratioReadsSpec.vars false [Value.string ByteArray.empty] 8 = some ([.lit (.string [])], [], places) :=
  ⟨[], by kernel_rfl⟩

set_option maxRecDepth 100000 in
theorem liftedUpto (os : Os) (started : os.Started) (H : Type) (enc : TypeId × Value → H) (F : Stop.Interp) :
    ReturnsInHanded {} Tryz.checked os 3 .any ((OpenSpec.ofChange Rows.ratioReadsSpec).preRow enc Tryz.prog Tryz.f3 Rows.ratioReadsRow.domain false Rows.ratioReadsRow.laid) (((OpenSpec.ofChange Rows.ratioReadsSpec).at F).post enc Tryz.prog Tryz.f3 false true false false) := by
  obtain ⟨places, hx⟩ := reads os enc
  refine returnsInHanded_of_row (C := Tryz.checked) (s := OpenSpec.ofChange Rows.ratioReadsSpec) own started (by kernel_rfl) Tryz.func3
    (witness_row_at (enc := enc) (C := Tryz.checked) false (laidWorld os) #[.string ByteArray.empty] rfl (by kernel_rfl) (by kernel_rfl) (by kernel_rfl)
      (OpenSpec.preRow_of_cond 8 hx (by kernel_rfl) (fun k hk => by cases hk) (by kernel_rfl) (laid_met os))) ?_
  intro W base args ds gs before hval hW _ hk hsz hL hSh _
  exact contract H enc W base args ds gs before hval hW hsz hL

theorem saidUpto : Rows.RatioReadsSaid :=
  OpenClaim.holds_of_cond 3 Tryz.f3 rfl rfl rfl rfl rfl rfl rfl ⟨rfl, rfl, rfl, rfl, rfl⟩ rfl rfl rfl rfl rfl (by kernel_rfl) Tryz.func3 (by kernel_rfl)
    (of_decide_eq_true (by kernel_rfl)) (by unfold Func.isWrapper; first | (rw [if_pos (by decide +kernel)]; kernel_rfl) | (rw [if_neg (by decide +kernel)]; exact ⟨rfl, rfl⟩))
    (fun os started H enc _ F => by rw [OpenClaim.pre_eq_preRow]; exact liftedUpto os started H enc F)

theorem plain (f : FuncId) (fn : Func) (hf : Tryz.pinned.checked.prog.funcNamed "fulcrum/fulcrumlaw03.RatioReads" = some f) (hfn : Tryz.pinned.checked.prog.funcs[f]? = some fn) :
    false = Tryz.pinned.checked.prog.looks [] ∧ ∀ (j : Nat) t, fn.params[j]? = some t → Tryz.pinned.checked.prog.wantsStandIn t = false := by
  obtain rfl : f = 3 := Option.some.inj ((show Tryz.prog.funcNamed "fulcrum/fulcrumlaw03.RatioReads" = some 3 by kernel_rfl).symm.trans hf) |>.symm
  obtain rfl : fn = Tryz.f3 := (Option.some.inj (Tryz.func3.symm.trans hfn)).symm
  refine ⟨by kernel_rfl, fun j t ht => ?_⟩
  rw [Tryz.params3] at ht
  have hm := Array.mem_of_getElem? ht
  simp only [List.mem_toArray, List.mem_cons, List.not_mem_nil, or_false] at hm
  subst hm
  · exact (show Tryz.prog.wantsStandIn 9 = false by kernel_rfl)

theorem cardUpto : Rows.RatioReadsCardSaid :=
  Claim7.holds_tied_plain_at .later [] _ _ _ _ saidUpto (fun _ h => by cases h) (by kernel_rfl) (fun _ h => by cases h) ratioReads_row_tie rfl ⟨rfl, rfl⟩ (by kernel_rfl) rfl plain (by kernel_rfl)
end Go.Proofs.YticpdbnlbckbiaaGreatDoor.ratioReads
namespace Go.Proofs.YticpdbnlbckbiaaGreatDoor
theorem ratioReads_holds : Rows.RatioReadsCardSaid := ratioReads.cardUpto
#print axioms ratioReads_holds
end Go.Proofs.YticpdbnlbckbiaaGreatDoor
