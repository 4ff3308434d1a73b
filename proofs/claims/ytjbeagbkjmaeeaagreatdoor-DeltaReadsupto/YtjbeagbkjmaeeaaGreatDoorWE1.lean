/-
  strings.LastIndexAny of "+-": where the last sign stands, if only ASCII stands behind it.
-/
import Derived.Test.YtjbeagbkjmaeeaaGreatDoorWV2
import Derived.Test.YtjbeagbkjmaeeaaGreatDoorNumT
import Derived.Shelf.Strings.IndexAny
import Derived.Shelf.Strings.IndexAnyAll
import Derived.Shelf.Strings.AsciiSet
namespace Go.Proofs
open Go.Shelf
def Tryz.lays152_ren : Go.Shelf.Ren := ⟨fun | 152 => 37 | 137 => 69 | 119 => 70 | 224 => 71 | 225 => 72 | 217 => 96 | 266 => 121 | n => n, fun | 9 => 9 | 21 => 21 | 3 => 3 | 4 => 4 | 5 => 5 | 0 => 0 | 46 => 89 | n => n, fun | n => n⟩
theorem Tryz.lays152 : Go.Proofs.Lays.n152 Tryz.prog Tryz.lays152_ren := {
  mixed := by kernel_rfl
  f119 := Tryz.func70.trans (congrArg some (by kernel_rfl))
  f137 := Tryz.func69.trans (congrArg some (by kernel_rfl))
  f152 := Tryz.func37.trans (congrArg some (by kernel_rfl))
  f217 := Tryz.func96.trans (congrArg some (by kernel_rfl))
  f224 := Tryz.func71.trans (congrArg some (by kernel_rfl))
  f225 := Tryz.func72.trans (congrArg some (by kernel_rfl))
  f266 := Tryz.func121.trans (congrArg some (by kernel_rfl))
  t0 := Tryz.underlying0
  a0 := Tryz.isAgg0
  z0 := Tryz.sizeOf0
  v0 := Tryz.zeroValue0
  t3 := Tryz.underlying3
  a3 := Tryz.isAgg3
  z3 := Tryz.sizeOf3
  v3 := Tryz.zeroValue3
  t4 := Tryz.underlying4
  a4 := Tryz.isAgg4
  z4 := Tryz.sizeOf4
  v4 := Tryz.zeroValue4
  t5 := Tryz.underlying5
  a5 := Tryz.isAgg5
  z5 := Tryz.sizeOf5
  v5 := Tryz.zeroValue5
  t9 := Tryz.underlying9
  a9 := Tryz.isAgg9
  z9 := Tryz.sizeOf9
  v9 := Tryz.zeroValue9
  t21 := Tryz.underlying21
  a21 := Tryz.isAgg21
  z21 := Tryz.sizeOf21
  v21 := Tryz.zeroValue21
  t46 := Tryz.underlying89
  a46 := Tryz.isAgg89
  z46 := Tryz.sizeOf89
  v46 := Tryz.zeroValue89 }
def Tryz.lays226_ren : Go.Shelf.Ren := ⟨fun | 226 => 38 | n => n, fun | 3 => 3 | 4 => 4 | n => n, fun | n => n⟩
theorem Tryz.lays226 : Go.Proofs.Lays.n226 Tryz.prog Tryz.lays226_ren := {
  mixed := by kernel_rfl
  f226 := Tryz.func38.trans (congrArg some (by kernel_rfl))
  t3 := Tryz.underlying3
  a3 := Tryz.isAgg3
  z3 := Tryz.sizeOf3
  v3 := Tryz.zeroValue3
  t4 := Tryz.underlying4
  a4 := Tryz.isAgg4
  z4 := Tryz.sizeOf4
  v4 := Tryz.zeroValue4 }
def Tryz.lays227_ren : Go.Shelf.Ren := ⟨fun | 227 => 39 | n => n, fun | 9 => 9 | 116 => 67 | 4 => 4 | 0 => 0 | 3 => 3 | 5 => 5 | n => n, fun | n => n⟩
theorem Tryz.lays227 : Go.Proofs.Lays.n227 Tryz.prog Tryz.lays227_ren := {
  mixed := by kernel_rfl
  f227 := Tryz.func39.trans (congrArg some (by kernel_rfl))
  t0 := Tryz.underlying0
  a0 := Tryz.isAgg0
  z0 := Tryz.sizeOf0
  v0 := Tryz.zeroValue0
  t3 := Tryz.underlying3
  a3 := Tryz.isAgg3
  z3 := Tryz.sizeOf3
  v3 := Tryz.zeroValue3
  t4 := Tryz.underlying4
  a4 := Tryz.isAgg4
  z4 := Tryz.sizeOf4
  v4 := Tryz.zeroValue4
  t5 := Tryz.underlying5
  a5 := Tryz.isAgg5
  z5 := Tryz.sizeOf5
  v5 := Tryz.zeroValue5
  t9 := Tryz.underlying9
  a9 := Tryz.isAgg9
  z9 := Tryz.sizeOf9
  v9 := Tryz.zeroValue9
  t116 := Tryz.underlying67
  a116 := Tryz.isAgg67
  z116 := Tryz.sizeOf67 }
def Tryz.lays228_ren : Go.Shelf.Ren := ⟨fun | 228 => 40 | n => n, fun | 124 => 97 | 5 => 5 | 4 => 4 | 0 => 0 | 116 => 67 | n => n, fun | n => n⟩
theorem Tryz.lays228 : Go.Proofs.Lays.n228 Tryz.prog Tryz.lays228_ren := {
  mixed := by kernel_rfl
  f228 := Tryz.func40.trans (congrArg some (by kernel_rfl))
  t0 := Tryz.underlying0
  a0 := Tryz.isAgg0
  z0 := Tryz.sizeOf0
  v0 := Tryz.zeroValue0
  t4 := Tryz.underlying4
  a4 := Tryz.isAgg4
  z4 := Tryz.sizeOf4
  v4 := Tryz.zeroValue4
  t5 := Tryz.underlying5
  a5 := Tryz.isAgg5
  z5 := Tryz.sizeOf5
  v5 := Tryz.zeroValue5
  t116 := Tryz.underlying67
  a116 := Tryz.isAgg67
  z116 := Tryz.sizeOf67
  t124 := Tryz.underlying97
  a124 := Tryz.isAgg97
  z124 := Tryz.sizeOf97
  v124 := Tryz.zeroValue97 }
theorem Tryz.setZ : (Tryz.prog.info? 67).map (fun i => (i.zero, i.size)) = some (some (.agg (Array.replicate 256 (.bool false))), 256) := by kernel_rfl
end Go.Proofs
namespace Go.Proofs.YtjbeagbkjmaeeaaGreatDoor
open Go.RowKit
set_option linter.unusedVariables false
theorem asc_pm : ∀ (j : Nat) b, ((⟨#[43, 45]⟩ : ByteArray).data.toList)[j]? = some b → b.toNat < 128 := fun j b hb => by
  have := List.mem_of_getElem? hb
  have e : ((⟨#[43, 45]⟩ : ByteArray).data.toList) = [43, 45] := rfl
  rw [e] at this
  simp only [List.mem_cons, List.not_mem_nil, or_false] at this
  rcases this with rfl | rfl <;> decide
theorem use_is (n : Int) (b : Bool) (hb : decide (8 < n) = b) (w : World) : Calls Tryz.prog 38 #[.int .i64 n] w fun e w' => e = .returned (.bool b) ∧ w' = w := by
  rw [← hb]; exact Any.strings_shouldUseASCIISet Tryz.lays226 n w
/-- the set, in memory -/
def setPM : Array Value := Lib.setCells ((⟨#[43, 45]⟩ : ByteArray).data.toList)
theorem mkset_is (w : World) : Calls Tryz.prog 39 #[.string ⟨#[43, 45]⟩] w fun e w' => e = .returned (.tuple #[.agg setPM, .bool true]) ∧ w' = w.alloc (.cells setPM 67) :=
  Any.strings_makeASCIISet Tryz.lays227 (zero_of_info Tryz.setZ).1 (zero_of_info Tryz.setZ).2 ⟨#[43, 45]⟩ w (by decide) asc_pm
theorem has_is (b : Nat) (x : UInt8) (v : Bool) (w : World) (hc : w.cell? ⟨b, x.toNat, none⟩ = some (.bool v)) :
    Calls Tryz.prog 40 #[.pointer (some ⟨b, 0, none⟩), .int .u8 x.toNat] w fun e w' => e = .returned (.bool v) ∧ w' = w :=
  Any.asciiSet_contains Tryz.lays228 b x v w hc
theorem pm_has (x : UInt8) : ((⟨#[43, 45]⟩ : ByteArray).data.toList).contains x = (decide (x.toNat = 43) || decide (x.toNat = 45)) := by
  have e : ((⟨#[43, 45]⟩ : ByteArray).data.toList) = [43, 45] := rfl
  rw [e]
  have h : ∀ y : Fin 256, ([43, 45] : List UInt8).contains (UInt8.ofNat y.val) = (decide (y.val = 43) || decide (y.val = 45)) := by decide +kernel
  have := h ⟨x.toNat, UInt8.toNat_lt x⟩
  simpa using this
theorem rune_is (c : Nat) (h : c < 128) (w : World) : Calls Tryz.prog 37 #[.string ⟨#[43, 45]⟩, .int .i32 (c : Int)] w fun e w' => e = .returned (.int .i64 (if c = 43 then 0 else if c = 45 then 1 else -1)) ∧ w' = w := by
  have e : Lib.indexByte ((⟨#[43, 45]⟩ : ByteArray).data.toList) ((c : Int)).toNat.toUInt8 = (if c = 43 then (0 : Int) else if c = 45 then 1 else -1) := by
    have h2 : ∀ y : Fin 128, Lib.indexByte ((⟨#[43, 45]⟩ : ByteArray).data.toList) ((y.val : Int)).toNat.toUInt8 = (if y.val = 43 then (0 : Int) else if y.val = 45 then 1 else -1) := by decide +kernel
    exact h2 ⟨c, h⟩
  have := Any.strings_IndexRune_ascii Tryz.lays152 ⟨#[43, 45]⟩ (c : Int) w (by omega) (by omega)
  rw [e] at this
  exact this
set_option maxHeartbeats 1000000 in
set_option maxRecDepth 100000 in
/-- the last rune, where it is a byte -/
theorem last_is (s : ByteArray) (k : Nat) (hk : s.size = k + 1) (hs : s.size ≤ 140737488355328) (hl : byt s k < 128) (w : World) :
    Calls Tryz.prog 41 #[.string s] w fun e w' => e = .returned (.tuple #[.int .i32 (byt s k : Nat), .int .i64 1]) ∧ w' = w := by
  have hlt : k < s.size := by omega
  have ek := byt_of hlt
  rw [ek] at hl ⊢
  have h0 : ((s.size : Int) == 0) = false := by rw [beq_eq_false_iff_ne]; omega
  have hx : wrap32 ((s[k]'hlt).toNat : Int) = ((s[k]'hlt).toNat : Int) := by unfold wrap32; omega
  have hki : (s.size : Int) - 1 = (k : Int) := by omega
  have hlo : (((s[k]'hlt).toNat : Int) < 128) := by omega
  go_enter Tryz.func41, Tryz.ntmps41
  go_wp2
  go_ret2
  first
    | exact ⟨rfl, rfl⟩
    | exact ⟨by show Ending.returned (.tuple #[.int .i32 (wrap32 ((s[k]'hlt).toNat : Int)), .int .i64 1]) = _; rw [hx], rfl⟩
    | (refine ⟨?_, rfl⟩; congr 4)
end Go.Proofs.YtjbeagbkjmaeeaaGreatDoor
