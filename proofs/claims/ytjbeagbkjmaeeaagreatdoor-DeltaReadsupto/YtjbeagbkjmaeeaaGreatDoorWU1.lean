/-
  Layer 2's Text, of any number.
-/
import Derived.Test.YtjbeagbkjmaeeaaGreatDoorWTD
import Derived.Test.YtjbeagbkjmaeeaaGreatDoorWI1
namespace Go.Proofs.YtjbeagbkjmaeeaaGreatDoor
open Go.RowKit
set_option linter.unusedVariables false

/-- a number's decimal text: its sign, and its amount's -/
def isTz (s : Bool) (X : Nat) (u : ByteArray) : Prop := ∃ t, isTx 10 X t ∧ u = if s = true ∧ X ≠ 0 then ⟨#[45]⟩ ++ t else t
theorem sgn_up (X : Nat) : ¬ (sgn (sg false X) < 0) := by
  by_cases e : X = 0
  · subst e; decide
  · rw [sgn_sg e]; decide
set_option maxHeartbeats 2000000 in
set_option maxRecDepth 100000 in
theorem wText_pos (a : Option Addr) (n cap X : Nat) (w : World) (h : Digs w) (hc : n ≤ cap) (hn : n ≤ 70368744177660) (D : Nat) (hD : D ≤ 140737488355328) (hXD : X < 10 ^ D) (hS : Seg w a X n)  : Calls Tryz.prog 52 #[.agg #[.bool false, .slice a n cap]] w fun e w' => ∃ u, e = .returned (.string u) ∧ isTz false X u ∧ Below w.heap.size w w' := by
  obtain ⟨C, hC, hC0⟩ : ∃ C : Int, sgn (sg false X) = C ∧ ¬ (C < 0) := ⟨_, rfl, sgn_up X⟩
  have H1 := hide' (fun w' k1 k2 => Text_dig a n cap X 10 D (by omega) (by omega) w' k1 hc hn hD hXD k2)
  have H2' := fun w' k => wSign_is false a n cap X _ w' hc (by omega) k rfl
  rw [hC] at H2'
  have H2 := hide' H2'
  have HD := hide' h
  clear h H2' hC hXD
  go_enter Tryz.func52, Tryz.ntmps52
  go_wp2_with fail
  obtain ⟨W, hW⟩ : ∃ W, (w.alloc (.cells #[.bool false, .slice a n cap] 25)) = W := ⟨_, rfl⟩
  have q00 : W.cell? ⟨w.heap.size, 0, none⟩ = some (.bool false) := by subst hW; go_simp
  have q01 : W.cell? ⟨w.heap.size, 1, none⟩ = some (.slice a n cap) := by subst hW; go_simp
  have hB : Below w.heap.size w W := by subst hW; exact ((Below.refl _ _).alloc (by (try simp only [World.size_alloc]); omega) _)
  have hz : W.heap.size = w.heap.size + 1 := by subst hW; simp only [World.size_alloc]
  rw [hW]
  clear hW
  have hBW : Below W.heap.size W W := Below.refl _ _
  refine (H1.out _ (HD.out.below (hB.trans (hBW.mono hB.size))) (sb hS hB hBW)).mono ?_
  rintro e w41 ⟨t, rfl, hT, b41⟩
  replace hBW := hBW.trans (b41.mono hBW.size)
  replace q00 := below_cell b41 q00
  replace q01 := below_cell b41 q01
  have hts := hT.size_le (by omega) hS.1
  have hts2 : ¬ (9223372036854775807 < 1 + t.size) := by omega
  have hts3 : 1 + t.size ≤ 9223372036854775807 := by omega
  have HT := hide' hT
  clear hT hts
  go_wp2_with fail
  refine (H2.out _ (sb hS hB hBW)).mono ?_
  rintro e w42 ⟨rfl, b42⟩
  replace hBW := hBW.trans (b42.mono hBW.size)
  replace q00 := below_cell b42 q00
  replace q01 := below_cell b42 q01
  go_wp2
  go_ret
  exact ⟨_, rfl, ⟨t, HT.out, by rw [if_neg (by simp)]⟩, hB.trans (hBW.mono hB.size)⟩

set_option maxHeartbeats 2000000 in
set_option maxRecDepth 100000 in
theorem wText_neg (a : Option Addr) (n cap X : Nat) (w : World) (h : Digs w) (hc : n ≤ cap) (hn : n ≤ 70368744177660) (D : Nat) (hD : D ≤ 140737488355328) (hXD : X < 10 ^ D) (hS : Seg w a X n) (hX : X ≠ 0) : Calls Tryz.prog 52 #[.agg #[.bool true, .slice a n cap]] w fun e w' => ∃ u, e = .returned (.string u) ∧ isTz true X u ∧ Below w.heap.size w w' := by
  obtain ⟨C, hC, hC0⟩ : ∃ C : Int, sgn (sg true X) = C ∧ C < 0 := ⟨_, rfl, by rw [sgn_sg hX]; decide⟩
  have H1 := hide' (fun w' k1 k2 => Text_dig a n cap X 10 D (by omega) (by omega) w' k1 hc hn hD hXD k2)
  have H2' := fun w' k => wSign_is true a n cap X _ w' hc (by omega) k rfl
  rw [hC] at H2'
  have H2 := hide' H2'
  have HD := hide' h
  clear h H2' hC hXD
  go_enter Tryz.func52, Tryz.ntmps52
  go_wp2_with fail
  obtain ⟨W, hW⟩ : ∃ W, (w.alloc (.cells #[.bool true, .slice a n cap] 25)) = W := ⟨_, rfl⟩
  have q00 : W.cell? ⟨w.heap.size, 0, none⟩ = some (.bool true) := by subst hW; go_simp
  have q01 : W.cell? ⟨w.heap.size, 1, none⟩ = some (.slice a n cap) := by subst hW; go_simp
  have hB : Below w.heap.size w W := by subst hW; exact ((Below.refl _ _).alloc (by (try simp only [World.size_alloc]); omega) _)
  have hz : W.heap.size = w.heap.size + 1 := by subst hW; simp only [World.size_alloc]
  rw [hW]
  clear hW
  have hBW : Below W.heap.size W W := Below.refl _ _
  refine (H1.out _ (HD.out.below (hB.trans (hBW.mono hB.size))) (sb hS hB hBW)).mono ?_
  rintro e w41 ⟨t, rfl, hT, b41⟩
  replace hBW := hBW.trans (b41.mono hBW.size)
  replace q00 := below_cell b41 q00
  replace q01 := below_cell b41 q01
  have hts := hT.size_le (by omega) hS.1
  have hts2 : ¬ (9223372036854775807 < 1 + t.size) := by omega
  have hts3 : 1 + t.size ≤ 9223372036854775807 := by omega
  have HT := hide' hT
  clear hT hts
  go_wp2_with fail
  refine (H2.out _ (sb hS hB hBW)).mono ?_
  rintro e w42 ⟨rfl, b42⟩
  replace hBW := hBW.trans (b42.mono hBW.size)
  replace q00 := below_cell b42 q00
  replace q01 := below_cell b42 q01
  go_wp2
  go_ret
  exact ⟨_, rfl, ⟨t, HT.out, by rw [if_pos ⟨rfl, hX⟩]⟩, hB.trans (hBW.mono hB.size)⟩

set_option maxHeartbeats 2000000 in
set_option maxRecDepth 100000 in
theorem wText_zero (s : Bool) (a : Option Addr) (n cap X : Nat) (w : World) (h : Digs w) (hc : n ≤ cap) (hn : n ≤ 70368744177660) (D : Nat) (hD : D ≤ 140737488355328) (hXD : X < 10 ^ D) (hS : Seg w a X n) (hX : X = 0) : Calls Tryz.prog 52 #[.agg #[.bool s, .slice a n cap]] w fun e w' => ∃ u, e = .returned (.string u) ∧ isTz s X u ∧ Below w.heap.size w w' := by
  subst hX
  obtain ⟨C, hC, hC0⟩ : ∃ C : Int, sgn (sg s 0) = C ∧ ¬ (C < 0) := ⟨_, rfl, by cases s <;> decide⟩
  have H1 := hide' (fun w' k1 k2 => Text_dig a n cap 0 10 D (by omega) (by omega) w' k1 hc hn hD hXD k2)
  have H2' := fun w' k => wSign_is s a n cap 0 _ w' hc (by omega) k rfl
  rw [hC] at H2'
  have H2 := hide' H2'
  have HD := hide' h
  clear h H2' hC hXD
  go_enter Tryz.func52, Tryz.ntmps52
  go_wp2_with fail
  obtain ⟨W, hW⟩ : ∃ W, (w.alloc (.cells #[.bool s, .slice a n cap] 25)) = W := ⟨_, rfl⟩
  have q00 : W.cell? ⟨w.heap.size, 0, none⟩ = some (.bool s) := by subst hW; go_simp
  have q01 : W.cell? ⟨w.heap.size, 1, none⟩ = some (.slice a n cap) := by subst hW; go_simp
  have hB : Below w.heap.size w W := by subst hW; exact ((Below.refl _ _).alloc (by (try simp only [World.size_alloc]); omega) _)
  have hz : W.heap.size = w.heap.size + 1 := by subst hW; simp only [World.size_alloc]
  rw [hW]
  clear hW
  have hBW : Below W.heap.size W W := Below.refl _ _
  refine (H1.out _ (HD.out.below (hB.trans (hBW.mono hB.size))) (sb hS hB hBW)).mono ?_
  rintro e w41 ⟨t, rfl, hT, b41⟩
  replace hBW := hBW.trans (b41.mono hBW.size)
  replace q00 := below_cell b41 q00
  replace q01 := below_cell b41 q01
  have hts := hT.size_le (by omega) hS.1
  have hts2 : ¬ (9223372036854775807 < 1 + t.size) := by omega
  have hts3 : 1 + t.size ≤ 9223372036854775807 := by omega
  have HT := hide' hT
  clear hT hts
  go_wp2_with fail
  refine (H2.out _ (sb hS hB hBW)).mono ?_
  rintro e w42 ⟨rfl, b42⟩
  replace hBW := hBW.trans (b42.mono hBW.size)
  replace q00 := below_cell b42 q00
  replace q01 := below_cell b42 q01
  go_wp2
  go_ret
  exact ⟨_, rfl, ⟨t, HT.out, by rw [if_neg (by simp)]⟩, hB.trans (hBW.mono hB.size)⟩

theorem wText_dig (s : Bool) (a : Option Addr) (n cap X D : Nat) (w : World) (h : Digs w) (hc : n ≤ cap) (hn : n ≤ 70368744177660) (hD : D ≤ 140737488355328) (hXD : X < 10 ^ D) (hS : Seg w a X n) : Calls Tryz.prog 52 #[.agg #[.bool s, .slice a n cap]] w fun e w' => ∃ u, e = .returned (.string u) ∧ isTz s X u ∧ Below w.heap.size w w' := by
  by_cases hX : X = 0
  · exact wText_zero s a n cap X w h hc hn D hD hXD hS hX
  · cases s
    · exact wText_pos a n cap X w h hc hn D hD hXD hS
    · exact wText_neg a n cap X w h hc hn D hD hXD hS hX
theorem wText_any (s : Bool) (a : Option Addr) (n cap X : Nat) (w : World) (h : Digs w) (hc : n ≤ cap) (hn : n ≤ 1073741824) (hS : Seg w a X n) : Calls Tryz.prog 52 #[.agg #[.bool s, .slice a n cap]] w fun e w' => ∃ u, e = .returned (.string u) ∧ isTz s X u ∧ Below w.heap.size w w' := by
  refine wText_dig s a n cap X (32 * n) w h hc (by omega) (by omega) ?_ hS
  have h1 := hS.1
  rw [show BB ^ n = 2 ^ (32 * n) by rw [Nat.pow_mul]; rfl] at h1
  exact Nat.lt_of_lt_of_le h1 (Nat.pow_le_pow_left (by omega) _)
end Go.Proofs.YtjbeagbkjmaeeaaGreatDoor
