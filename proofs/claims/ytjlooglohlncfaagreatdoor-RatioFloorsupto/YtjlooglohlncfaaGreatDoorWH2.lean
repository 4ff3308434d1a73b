/-
  half: the text '2/4' is cut, and read.
-/
import Derived.Test.YtjlooglohlncfaaGreatDoorWH1
import Derived.Test.YtjlooglohlncfaaGreatDoorWQ2
import Derived.Test.YtjlooglohlncfaaGreatDoorWQA
import Derived.Lib.Bytealg
namespace Go.Proofs.YtjlooglohlncfaaGreatDoor
open Go.RowKit
set_option linter.unusedVariables false

theorem hasPrefix_24 (w : World) : Calls Tryz.prog 83 #[.string ⟨#[50, 47, 52]⟩, .string ⟨#[45]⟩] w fun e w' => e = .returned (.bool false) ∧ w' = w := by
  have h1 : (⟨#[50, 47, 52]⟩ : ByteArray).size = 3 := rfl
  have h2 : (⟨#[45]⟩ : ByteArray).size = 1 := rfl
  have h3 : (((⟨#[50, 47, 52]⟩ : ByteArray).extract 0 1).toList == [45]) = false := by decide +kernel
  go_enter Tryz.func83, Tryz.ntmps83
  go_wp2
  go_ret
  exact ⟨rfl, rfl⟩
theorem cutPrefix1_24 (w : World) : Calls Tryz.prog 69 #[.string ⟨#[50, 47, 52]⟩, .string ⟨#[45]⟩] w fun e w' => e = .returned (.tuple #[.string ⟨#[50, 47, 52]⟩, .bool false]) ∧ w' = w := by
  go_enter Tryz.func69, Tryz.ntmps69
  go_wp2_with fail
  refine (hasPrefix_24 _).mono ?_
  rintro e w1 ⟨rfl, rfl⟩
  go_wp2
  go_ret2
  exact ⟨rfl, rfl⟩
theorem cutPrefix_24 (w : World) : Calls Tryz.prog 57 #[.string ⟨#[50, 47, 52]⟩, .string ⟨#[45]⟩] w fun e w' => e = .returned (.tuple #[.string ⟨#[50, 47, 52]⟩, .bool false]) ∧ w' = w := by
  go_enter Tryz.func57, Tryz.ntmps57
  go_wp2_with fail
  refine (cutPrefix1_24 _).mono ?_
  rintro e w1 ⟨rfl, rfl⟩
  go_wp2
  go_ret2
  exact ⟨rfl, rfl⟩

set_option maxRecDepth 100000 in
theorem indexByte_24 (w : World) : Calls Tryz.prog 113 #[.string ⟨#[50, 47, 52]⟩, .int .u8 47] w fun e w' => e = .returned (.int .i64 1) ∧ w' = w := by
  go_enter Tryz.func113, Tryz.ntmps113
  go_wp2
  rw [run_callFunc_extern Tryz.func126 (by kernel_rfl) (by kernel_rfl) (by kernel_rfl) (e := Extern.BytealgIndexByte.indexByte) (by kernel_rfl), Lib.run_indexByteString]
  simp only [Result.andThen]
  rw [Oper.upon_value]
  go_wp2
  go_ret
  exact ⟨rfl, rfl⟩
set_option maxRecDepth 100000 in
theorem index_24 (w : World) : Calls Tryz.prog 99 #[.string ⟨#[50, 47, 52]⟩, .string ⟨#[47]⟩] w fun e w' => e = .returned (.int .i64 1) ∧ w' = w := by
  have h1 : (⟨#[50, 47, 52]⟩ : ByteArray).size = 3 := rfl
  have h2 : (⟨#[47]⟩ : ByteArray).size = 1 := rfl
  have HI := hide' indexByte_24
  go_enter Tryz.func99, Tryz.ntmps99
  go_wp2_with fail
  refine (HI.out _).mono ?_
  rintro e w1 ⟨rfl, rfl⟩
  go_wp2
  go_ret
  exact ⟨rfl, rfl⟩
set_option maxRecDepth 100000 in
theorem cut1_24 (w : World) : Calls Tryz.prog 84 #[.string ⟨#[50, 47, 52]⟩, .string ⟨#[47]⟩] w fun e w' => e = .returned (.tuple #[.string ⟨#[50]⟩, .string ⟨#[52]⟩, .bool true]) ∧ Dr w w' := by
  have h1 : (⟨#[50, 47, 52]⟩ : ByteArray).size = 3 := rfl
  have h2 : (⟨#[47]⟩ : ByteArray).size = 1 := rfl
  have e1 : (⟨#[50, 47, 52]⟩ : ByteArray).extract 0 1 = ⟨#[50]⟩ := by decide +kernel
  have e2 : (⟨#[50, 47, 52]⟩ : ByteArray).extract 2 3 = ⟨#[52]⟩ := by decide +kernel
  have HI := hide' index_24
  go_enter Tryz.func84, Tryz.ntmps84
  go_wp2_with fail
  refine (HI.out _).mono ?_
  rintro e w1 ⟨rfl, rfl⟩
  go_wp2_with fail
  go_quiet (fail)
  go_wp2
  go_ret3
  exact ⟨by first | rfl | simp only [e1, e2], ⟨_, rfl⟩⟩
theorem cut_24 (w : World) : Calls Tryz.prog 70 #[.string ⟨#[50, 47, 52]⟩, .string ⟨#[47]⟩] w fun e w' => e = .returned (.tuple #[.string ⟨#[50]⟩, .string ⟨#[52]⟩, .bool true]) ∧ Dr w w' := by
  have HI := hide' (cut1_24 w)
  go_enter Tryz.func70, Tryz.ntmps70
  go_wp2_with fail
  refine HI.out.mono ?_
  rintro e w1 ⟨rfl, hd⟩
  go_wp2
  go_ret3
  exact ⟨rfl, hd⟩
end Go.Proofs.YtjlooglohlncfaaGreatDoor
