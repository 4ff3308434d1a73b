/-
  lives: the text '3-2d' is cut; its parts are cut.
-/
import Derived.Test.YtggblpbcphgnoaaGreatDoorWV1
import Derived.Lib.Bytealg
namespace Go.Proofs.YtggblpbcphgnoaaGreatDoor
open Go.RowKit
set_option linter.unusedVariables false

theorem hasPrefix_3 (w : World) : Calls Tryz.prog 102 #[.string ⟨#[51]⟩, .string ⟨#[45]⟩] w fun e w' => e = .returned (.bool false) ∧ w' = w := by
  have h1 : (⟨#[51]⟩ : ByteArray).size = 1 := rfl
  have h2 : (⟨#[45]⟩ : ByteArray).size = 1 := rfl
  have h3 : (((⟨#[51]⟩ : ByteArray).extract 0 1).toList == [45]) = false := by decide +kernel
  go_enter Tryz.func102, Tryz.ntmps102
  go_wp2
  go_ret
  exact ⟨rfl, rfl⟩
theorem cutPrefix1_3 (w : World) : Calls Tryz.prog 75 #[.string ⟨#[51]⟩, .string ⟨#[45]⟩] w fun e w' => e = .returned (.tuple #[.string ⟨#[51]⟩, .bool false]) ∧ w' = w := by
  have h1 : (⟨#[51]⟩ : ByteArray).size = 1 := rfl
  have h2 : (⟨#[45]⟩ : ByteArray).size = 1 := rfl
  have e1 : True := trivial
  go_enter Tryz.func75, Tryz.ntmps75
  go_wp2_with fail
  refine (hasPrefix_3 _).mono ?_
  rintro e w1 ⟨rfl, rfl⟩
  go_wp2
  go_ret2
  exact ⟨by first | rfl | simp only [e1], rfl⟩
theorem cutPrefix_3 (w : World) : Calls Tryz.prog 46 #[.string ⟨#[51]⟩, .string ⟨#[45]⟩] w fun e w' => e = .returned (.tuple #[.string ⟨#[51]⟩, .bool false]) ∧ w' = w := by
  go_enter Tryz.func46, Tryz.ntmps46
  go_wp2_with fail
  refine (cutPrefix1_3 _).mono ?_
  rintro e w1 ⟨rfl, rfl⟩
  go_wp2
  go_ret2
  exact ⟨rfl, rfl⟩
theorem hasPrefix_m2 (w : World) : Calls Tryz.prog 102 #[.string ⟨#[45, 50]⟩, .string ⟨#[45]⟩] w fun e w' => e = .returned (.bool true) ∧ w' = w := by
  have h1 : (⟨#[45, 50]⟩ : ByteArray).size = 2 := rfl
  have h2 : (⟨#[45]⟩ : ByteArray).size = 1 := rfl
  have h3 : (((⟨#[45, 50]⟩ : ByteArray).extract 0 1).toList == [45]) = true := by decide +kernel
  go_enter Tryz.func102, Tryz.ntmps102
  go_wp2
  go_ret
  exact ⟨rfl, rfl⟩
theorem cutPrefix1_m2 (w : World) : Calls Tryz.prog 75 #[.string ⟨#[45, 50]⟩, .string ⟨#[45]⟩] w fun e w' => e = .returned (.tuple #[.string ⟨#[50]⟩, .bool true]) ∧ w' = w := by
  have h1 : (⟨#[45, 50]⟩ : ByteArray).size = 2 := rfl
  have h2 : (⟨#[45]⟩ : ByteArray).size = 1 := rfl
  have e1 : (⟨#[45, 50]⟩ : ByteArray).extract 1 2 = ⟨#[50]⟩ := by decide +kernel
  go_enter Tryz.func75, Tryz.ntmps75
  go_wp2_with fail
  refine (hasPrefix_m2 _).mono ?_
  rintro e w1 ⟨rfl, rfl⟩
  go_wp2
  go_ret2
  exact ⟨by first | rfl | simp only [e1], rfl⟩
theorem cutPrefix_m2 (w : World) : Calls Tryz.prog 46 #[.string ⟨#[45, 50]⟩, .string ⟨#[45]⟩] w fun e w' => e = .returned (.tuple #[.string ⟨#[50]⟩, .bool true]) ∧ w' = w := by
  go_enter Tryz.func46, Tryz.ntmps46
  go_wp2_with fail
  refine (cutPrefix1_m2 _).mono ?_
  rintro e w1 ⟨rfl, rfl⟩
  go_wp2
  go_ret2
  exact ⟨rfl, rfl⟩
theorem hasPrefix_pm2 (w : World) : Calls Tryz.prog 102 #[.string ⟨#[45, 50]⟩, .string ⟨#[43]⟩] w fun e w' => e = .returned (.bool false) ∧ w' = w := by
  have h1 : (⟨#[45, 50]⟩ : ByteArray).size = 2 := rfl
  have h2 : (⟨#[43]⟩ : ByteArray).size = 1 := rfl
  have h3 : (((⟨#[45, 50]⟩ : ByteArray).extract 0 1).toList == [43]) = false := by decide +kernel
  go_enter Tryz.func102, Tryz.ntmps102
  go_wp2
  go_ret
  exact ⟨rfl, rfl⟩
theorem trimPrefix1_m2 (w : World) : Calls Tryz.prog 74 #[.string ⟨#[45, 50]⟩, .string ⟨#[43]⟩] w fun e w' => e = .returned (.string ⟨#[45, 50]⟩) ∧ w' = w := by
  go_enter Tryz.func74, Tryz.ntmps74
  go_wp2_with fail
  refine (hasPrefix_pm2 _).mono ?_
  rintro e w1 ⟨rfl, rfl⟩
  go_wp2
  go_ret
  exact ⟨rfl, rfl⟩
theorem trimPrefix_m2 (w : World) : Calls Tryz.prog 45 #[.string ⟨#[45, 50]⟩, .string ⟨#[43]⟩] w fun e w' => e = .returned (.string ⟨#[45, 50]⟩) ∧ w' = w := by
  go_enter Tryz.func45, Tryz.ntmps45
  go_wp2_with fail
  refine (trimPrefix1_m2 _).mono ?_
  rintro e w1 ⟨rfl, rfl⟩
  go_wp2
  go_ret
  exact ⟨rfl, rfl⟩
theorem hasSuffix_v (w : World) : Calls Tryz.prog 95 #[.string ⟨#[51, 45, 50, 100]⟩, .string ⟨#[100]⟩] w fun e w' => e = .returned (.bool true) ∧ w' = w := by
  have h1 : (⟨#[51, 45, 50, 100]⟩ : ByteArray).size = 4 := rfl
  have h2 : (⟨#[100]⟩ : ByteArray).size = 1 := rfl
  have h3 : (((⟨#[51, 45, 50, 100]⟩ : ByteArray).extract 3 4).toList == [100]) = true := by decide +kernel
  go_enter Tryz.func95, Tryz.ntmps95
  go_wp2
  go_ret
  exact ⟨rfl, rfl⟩
theorem cutSuffix1_v (w : World) : Calls Tryz.prog 68 #[.string ⟨#[51, 45, 50, 100]⟩, .string ⟨#[100]⟩] w fun e w' => e = .returned (.tuple #[.string ⟨#[51, 45, 50]⟩, .bool true]) ∧ w' = w := by
  have h1 : (⟨#[51, 45, 50, 100]⟩ : ByteArray).size = 4 := rfl
  have h2 : (⟨#[100]⟩ : ByteArray).size = 1 := rfl
  have e1 : (⟨#[51, 45, 50, 100]⟩ : ByteArray).extract 0 3 = ⟨#[51, 45, 50]⟩ := by decide +kernel
  go_enter Tryz.func68, Tryz.ntmps68
  go_wp2_with fail
  refine (hasSuffix_v _).mono ?_
  rintro e w1 ⟨rfl, rfl⟩
  go_wp2
  go_ret2
  exact ⟨by first | rfl | simp only [e1], rfl⟩
theorem cutSuffix_v (w : World) : Calls Tryz.prog 43 #[.string ⟨#[51, 45, 50, 100]⟩, .string ⟨#[100]⟩] w fun e w' => e = .returned (.tuple #[.string ⟨#[51, 45, 50]⟩, .bool true]) ∧ w' = w := by
  go_enter Tryz.func43, Tryz.ntmps43
  go_wp2_with fail
  refine (cutSuffix1_v _).mono ?_
  rintro e w1 ⟨rfl, rfl⟩
  go_wp2
  go_ret2
  exact ⟨rfl, rfl⟩
set_option maxRecDepth 100000 in
theorem indexByte_3s (w : World) : Calls Tryz.prog 118 #[.string ⟨#[51]⟩, .int .u8 47] w fun e w' => e = .returned (.int .i64 (-1)) ∧ w' = w := by
  go_enter Tryz.func118, Tryz.ntmps118
  go_wp2
  rw [run_callFunc_extern Tryz.func139 (by kernel_rfl) (by kernel_rfl) (by kernel_rfl) (e := Extern.BytealgIndexByte.indexByte) (by kernel_rfl), Lib.run_indexByteString]
  simp only [Result.andThen]
  rw [Oper.upon_value]
  go_wp2
  go_ret
  exact ⟨rfl, rfl⟩
set_option maxRecDepth 100000 in
theorem index_3s (w : World) : Calls Tryz.prog 120 #[.string ⟨#[51]⟩, .string ⟨#[47]⟩] w fun e w' => e = .returned (.int .i64 (-1)) ∧ w' = w := by
  have h1 : (⟨#[51]⟩ : ByteArray).size = 1 := rfl
  have h2 : (⟨#[47]⟩ : ByteArray).size = 1 := rfl
  have HI := hide' indexByte_3s
  go_enter Tryz.func120, Tryz.ntmps120
  go_wp2_with fail
  refine (HI.out _).mono ?_
  rintro e w1 ⟨rfl, rfl⟩
  go_wp2
  go_ret
  exact ⟨rfl, rfl⟩
set_option maxRecDepth 100000 in
theorem cut1_3s (w : World) : Calls Tryz.prog 103 #[.string ⟨#[51]⟩, .string ⟨#[47]⟩] w fun e w' => e = .returned (.tuple #[.string ⟨#[51]⟩, .string ⟨#[]⟩, .bool false]) ∧ w' = w := by
  have HI := hide' index_3s
  go_enter Tryz.func103, Tryz.ntmps103
  go_wp2_with fail
  refine (HI.out _).mono ?_
  rintro e w1 ⟨rfl, rfl⟩
  go_wp2
  go_ret3
  exact ⟨rfl, rfl⟩
theorem cut_3s (w : World) : Calls Tryz.prog 76 #[.string ⟨#[51]⟩, .string ⟨#[47]⟩] w fun e w' => e = .returned (.tuple #[.string ⟨#[51]⟩, .string ⟨#[]⟩, .bool false]) ∧ w' = w := by
  have HI := hide' cut1_3s
  go_enter Tryz.func76, Tryz.ntmps76
  go_wp2_with fail
  refine (HI.out _).mono ?_
  rintro e w1 ⟨rfl, rfl⟩
  go_wp2
  go_ret3
  exact ⟨rfl, rfl⟩
set_option maxRecDepth 100000 in
theorem indexByte_3p (w : World) : Calls Tryz.prog 118 #[.string ⟨#[51]⟩, .int .u8 46] w fun e w' => e = .returned (.int .i64 (-1)) ∧ w' = w := by
  go_enter Tryz.func118, Tryz.ntmps118
  go_wp2
  rw [run_callFunc_extern Tryz.func139 (by kernel_rfl) (by kernel_rfl) (by kernel_rfl) (e := Extern.BytealgIndexByte.indexByte) (by kernel_rfl), Lib.run_indexByteString]
  simp only [Result.andThen]
  rw [Oper.upon_value]
  go_wp2
  go_ret
  exact ⟨rfl, rfl⟩
set_option maxRecDepth 100000 in
theorem index_3p (w : World) : Calls Tryz.prog 120 #[.string ⟨#[51]⟩, .string ⟨#[46]⟩] w fun e w' => e = .returned (.int .i64 (-1)) ∧ w' = w := by
  have h1 : (⟨#[51]⟩ : ByteArray).size = 1 := rfl
  have h2 : (⟨#[46]⟩ : ByteArray).size = 1 := rfl
  have HI := hide' indexByte_3p
  go_enter Tryz.func120, Tryz.ntmps120
  go_wp2_with fail
  refine (HI.out _).mono ?_
  rintro e w1 ⟨rfl, rfl⟩
  go_wp2
  go_ret
  exact ⟨rfl, rfl⟩
set_option maxRecDepth 100000 in
theorem cut1_3p (w : World) : Calls Tryz.prog 103 #[.string ⟨#[51]⟩, .string ⟨#[46]⟩] w fun e w' => e = .returned (.tuple #[.string ⟨#[51]⟩, .string ⟨#[]⟩, .bool false]) ∧ w' = w := by
  have HI := hide' index_3p
  go_enter Tryz.func103, Tryz.ntmps103
  go_wp2_with fail
  refine (HI.out _).mono ?_
  rintro e w1 ⟨rfl, rfl⟩
  go_wp2
  go_ret3
  exact ⟨rfl, rfl⟩
theorem cut_3p (w : World) : Calls Tryz.prog 76 #[.string ⟨#[51]⟩, .string ⟨#[46]⟩] w fun e w' => e = .returned (.tuple #[.string ⟨#[51]⟩, .string ⟨#[]⟩, .bool false]) ∧ w' = w := by
  have HI := hide' cut1_3p
  go_enter Tryz.func76, Tryz.ntmps76
  go_wp2_with fail
  refine (HI.out _).mono ?_
  rintro e w1 ⟨rfl, rfl⟩
  go_wp2
  go_ret3
  exact ⟨rfl, rfl⟩
set_option maxRecDepth 100000 in
theorem indexByte_2s (w : World) : Calls Tryz.prog 118 #[.string ⟨#[50]⟩, .int .u8 47] w fun e w' => e = .returned (.int .i64 (-1)) ∧ w' = w := by
  go_enter Tryz.func118, Tryz.ntmps118
  go_wp2
  rw [run_callFunc_extern Tryz.func139 (by kernel_rfl) (by kernel_rfl) (by kernel_rfl) (e := Extern.BytealgIndexByte.indexByte) (by kernel_rfl), Lib.run_indexByteString]
  simp only [Result.andThen]
  rw [Oper.upon_value]
  go_wp2
  go_ret
  exact ⟨rfl, rfl⟩
set_option maxRecDepth 100000 in
theorem index_2s (w : World) : Calls Tryz.prog 120 #[.string ⟨#[50]⟩, .string ⟨#[47]⟩] w fun e w' => e = .returned (.int .i64 (-1)) ∧ w' = w := by
  have h1 : (⟨#[50]⟩ : ByteArray).size = 1 := rfl
  have h2 : (⟨#[47]⟩ : ByteArray).size = 1 := rfl
  have HI := hide' indexByte_2s
  go_enter Tryz.func120, Tryz.ntmps120
  go_wp2_with fail
  refine (HI.out _).mono ?_
  rintro e w1 ⟨rfl, rfl⟩
  go_wp2
  go_ret
  exact ⟨rfl, rfl⟩
set_option maxRecDepth 100000 in
theorem cut1_2s (w : World) : Calls Tryz.prog 103 #[.string ⟨#[50]⟩, .string ⟨#[47]⟩] w fun e w' => e = .returned (.tuple #[.string ⟨#[50]⟩, .string ⟨#[]⟩, .bool false]) ∧ w' = w := by
  have HI := hide' index_2s
  go_enter Tryz.func103, Tryz.ntmps103
  go_wp2_with fail
  refine (HI.out _).mono ?_
  rintro e w1 ⟨rfl, rfl⟩
  go_wp2
  go_ret3
  exact ⟨rfl, rfl⟩
theorem cut_2s (w : World) : Calls Tryz.prog 76 #[.string ⟨#[50]⟩, .string ⟨#[47]⟩] w fun e w' => e = .returned (.tuple #[.string ⟨#[50]⟩, .string ⟨#[]⟩, .bool false]) ∧ w' = w := by
  have HI := hide' cut1_2s
  go_enter Tryz.func76, Tryz.ntmps76
  go_wp2_with fail
  refine (HI.out _).mono ?_
  rintro e w1 ⟨rfl, rfl⟩
  go_wp2
  go_ret3
  exact ⟨rfl, rfl⟩
set_option maxRecDepth 100000 in
theorem indexByte_2p (w : World) : Calls Tryz.prog 118 #[.string ⟨#[50]⟩, .int .u8 46] w fun e w' => e = .returned (.int .i64 (-1)) ∧ w' = w := by
  go_enter Tryz.func118, Tryz.ntmps118
  go_wp2
  rw [run_callFunc_extern Tryz.func139 (by kernel_rfl) (by kernel_rfl) (by kernel_rfl) (e := Extern.BytealgIndexByte.indexByte) (by kernel_rfl), Lib.run_indexByteString]
  simp only [Result.andThen]
  rw [Oper.upon_value]
  go_wp2
  go_ret
  exact ⟨rfl, rfl⟩
set_option maxRecDepth 100000 in
theorem index_2p (w : World) : Calls Tryz.prog 120 #[.string ⟨#[50]⟩, .string ⟨#[46]⟩] w fun e w' => e = .returned (.int .i64 (-1)) ∧ w' = w := by
  have h1 : (⟨#[50]⟩ : ByteArray).size = 1 := rfl
  have h2 : (⟨#[46]⟩ : ByteArray).size = 1 := rfl
  have HI := hide' indexByte_2p
  go_enter Tryz.func120, Tryz.ntmps120
  go_wp2_with fail
  refine (HI.out _).mono ?_
  rintro e w1 ⟨rfl, rfl⟩
  go_wp2
  go_ret
  exact ⟨rfl, rfl⟩
set_option maxRecDepth 100000 in
theorem cut1_2p (w : World) : Calls Tryz.prog 103 #[.string ⟨#[50]⟩, .string ⟨#[46]⟩] w fun e w' => e = .returned (.tuple #[.string ⟨#[50]⟩, .string ⟨#[]⟩, .bool false]) ∧ w' = w := by
  have HI := hide' index_2p
  go_enter Tryz.func103, Tryz.ntmps103
  go_wp2_with fail
  refine (HI.out _).mono ?_
  rintro e w1 ⟨rfl, rfl⟩
  go_wp2
  go_ret3
  exact ⟨rfl, rfl⟩
theorem cut_2p (w : World) : Calls Tryz.prog 76 #[.string ⟨#[50]⟩, .string ⟨#[46]⟩] w fun e w' => e = .returned (.tuple #[.string ⟨#[50]⟩, .string ⟨#[]⟩, .bool false]) ∧ w' = w := by
  have HI := hide' cut1_2p
  go_enter Tryz.func76, Tryz.ntmps76
  go_wp2_with fail
  refine (HI.out _).mono ?_
  rintro e w1 ⟨rfl, rfl⟩
  go_wp2
  go_ret3
  exact ⟨rfl, rfl⟩
end Go.Proofs.YtggblpbcphgnoaaGreatDoor
