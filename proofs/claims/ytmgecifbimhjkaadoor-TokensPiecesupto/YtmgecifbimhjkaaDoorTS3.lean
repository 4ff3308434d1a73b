/-
  text: what a token's bytes say.
-/
import Derived.Test.YtmgecifbimhjkaaDoorTS2
import Derived.Shelf.Strings.Replace
namespace Go.Proofs
open Go.Shelf
def Tryd.lays155_ren : Go.Shelf.Ren := ⟨fun | 155 => 40 | 154 => 64 | 138 => 72 | 165 => 73 | 143 => 74 | 166 => 75 | 197 => 76 | 169 => 77 | 195 => 82 | 218 => 83 | 240 => 84 | 241 => 85 | 219 => 86 | 260 => 87 | 276 => 89 | 277 => 90 | 217 => 88 | 225 => 81 | 224 => 80 | 267 => 91 | 266 => 92 | 314 => 93 | n => n, fun | 9 => 9 | 3 => 3 | 4 => 4 | 72 => 82 | 0 => 0 | 76 => 86 | 105 => 88 | 21 => 21 | 5 => 5 | 70 => 80 | 20 => 20 | 37 => 49 | 75 => 85 | 127 => 76 | 164 => 95 | 46 => 93 | 119 => 98 | 139 => 101 | 138 => 100 | 146 => 103 | 51 => 102 | 80 => 90 | n => n, fun | 1 => 0 | 3 => 1 | 4 => 2 | n => n⟩
theorem Tryd.lays155 : Go.Proofs.Lays.n155 Tryd.prog Tryd.lays155_ren := {
  mixed := by kernel_rfl
  f138 := Tryd.func72.trans (congrArg some (by kernel_rfl))
  f143 := Tryd.func74.trans (congrArg some (by kernel_rfl))
  f154 := Tryd.func64.trans (congrArg some (by kernel_rfl))
  f155 := Tryd.func40.trans (congrArg some (by kernel_rfl))
  f165 := Tryd.func73.trans (congrArg some (by kernel_rfl))
  f166 := Tryd.func75.trans (congrArg some (by kernel_rfl))
  f169 := Tryd.func77.trans (congrArg some (by kernel_rfl))
  f195 := Tryd.func82.trans (congrArg some (by kernel_rfl))
  f197 := Tryd.func76.trans (congrArg some (by kernel_rfl))
  f217 := Tryd.func88.trans (congrArg some (by kernel_rfl))
  f218 := Tryd.func83.trans (congrArg some (by kernel_rfl))
  f219 := Tryd.func86.trans (congrArg some (by kernel_rfl))
  f224 := Tryd.func80.trans (congrArg some (by kernel_rfl))
  f225 := Tryd.func81.trans (congrArg some (by kernel_rfl))
  f240 := Tryd.func84.trans (congrArg some (by kernel_rfl))
  f241 := Tryd.func85.trans (congrArg some (by kernel_rfl))
  f260 := Tryd.func87.trans (congrArg some (by kernel_rfl))
  f266 := Tryd.func92.trans (congrArg some (by kernel_rfl))
  f267 := Tryd.func91.trans (congrArg some (by kernel_rfl))
  f276 := Tryd.func89.trans (congrArg some (by kernel_rfl))
  f277 := Tryd.func90.trans (congrArg some (by kernel_rfl))
  f314 := Tryd.func93.trans (congrArg some (by kernel_rfl))
  t0 := Tryd.underlying0
  a0 := Tryd.isAgg0
  z0 := Tryd.sizeOf0
  v0 := Tryd.zeroValue0
  t3 := Tryd.underlying3
  a3 := Tryd.isAgg3
  z3 := Tryd.sizeOf3
  v3 := Tryd.zeroValue3
  t4 := Tryd.underlying4
  a4 := Tryd.isAgg4
  z4 := Tryd.sizeOf4
  v4 := Tryd.zeroValue4
  t5 := Tryd.underlying5
  a5 := Tryd.isAgg5
  z5 := Tryd.sizeOf5
  v5 := Tryd.zeroValue5
  t9 := Tryd.underlying9
  a9 := Tryd.isAgg9
  z9 := Tryd.sizeOf9
  v9 := Tryd.zeroValue9
  t20 := Tryd.underlying20
  a20 := Tryd.isAgg20
  z20 := Tryd.sizeOf20
  v20 := Tryd.zeroValue20
  t21 := Tryd.underlying21
  a21 := Tryd.isAgg21
  z21 := Tryd.sizeOf21
  v21 := Tryd.zeroValue21
  t37 := Tryd.underlying49
  a37 := Tryd.isAgg49
  z37 := Tryd.sizeOf49
  v37 := Tryd.zeroValue49
  t46 := Tryd.underlying93
  a46 := Tryd.isAgg93
  z46 := Tryd.sizeOf93
  v46 := Tryd.zeroValue93
  t51 := Tryd.underlying102
  a51 := Tryd.isAgg102
  z51 := Tryd.sizeOf102
  v51 := Tryd.zeroValue102
  t70 := Tryd.underlying80
  a70 := Tryd.isAgg80
  z70 := Tryd.sizeOf80
  v70 := Tryd.zeroValue80
  t72 := Tryd.underlying82
  a72 := Tryd.isAgg82
  z72 := Tryd.sizeOf82
  v72 := Tryd.zeroValue82
  t75 := Tryd.underlying85
  a75 := Tryd.isAgg85
  z75 := Tryd.sizeOf85
  v75 := Tryd.zeroValue85
  t76 := Tryd.underlying86
  a76 := Tryd.isAgg86
  z76 := Tryd.sizeOf86
  v76 := Tryd.zeroValue86
  t105 := Tryd.underlying88
  a105 := Tryd.isAgg88
  z105 := Tryd.sizeOf88
  v105 := Tryd.zeroValue88
  t119 := Tryd.underlying98
  a119 := Tryd.isAgg98
  z119 := Tryd.sizeOf98
  t127 := Tryd.underlying76
  a127 := Tryd.isAgg76
  z127 := Tryd.sizeOf76
  v127 := Tryd.zeroValue76
  t138 := Tryd.underlying100
  a138 := Tryd.isAgg100
  z138 := Tryd.sizeOf100
  v138 := Tryd.zeroValue100
  t139 := Tryd.underlying101
  a139 := Tryd.isAgg101
  z139 := Tryd.sizeOf101
  v139 := Tryd.zeroValue101
  t146 := Tryd.underlying103
  a146 := Tryd.isAgg103
  z146 := Tryd.sizeOf103
  v146 := Tryd.zeroValue103
  t164 := Tryd.underlying95
  a164 := Tryd.isAgg95
  z164 := Tryd.sizeOf95
  v164 := Tryd.zeroValue95
  g1 := by kernel_rfl
  g3 := by kernel_rfl
  g4 := by kernel_rfl }
theorem Tryd.Builder_Extra_155 : Builder.Extra Tryd.prog Tryd.lays155_ren := {
  sizeBuilder := by kernel_rfl
  liesBuilder := by kernel_rfl
  t5 := Tryd.underlying5
  a5 := Tryd.isAgg5
  z5 := Tryd.sizeOf5
  v5 := Tryd.zeroValue5
  infoByte := by kernel_rfl
  cellsByte := by kernel_rfl
  sizeByte := by kernel_rfl
  neB5 := by decide }
end Go.Proofs
namespace Go.Proofs.YtmgecifbimhjkaaDoor
open Go.RowKit
set_option linter.unusedVariables false
set_option linter.unusedSimpArgs false
/-- the block of the library's variable MaxLen, which holds some number -/
abbrev mxB : Nat := 0
def MaxL (w : World) : Prop := ∃ m : Int, w.cell? ⟨mxB, 0, none⟩ = some (.int .i64 m)
theorem MaxL.on {w w' : World} (h : MaxL w) (hb : Below w.heap.size w w') : MaxL w' := by
  obtain ⟨m, hm⟩ := h
  exact ⟨m, by rw [hb.cell (World.block_lt_of_cell? w _ hm)]; exact hm⟩
/-- each two quotes as one -/
def unq (b : ByteArray) : ByteArray := ⟨(Lib.replaceAll b.data.toList [34, 34] [34]).toArray⟩
/-- what a token's bytes say -/
def txt (st : Nat) (b : ByteArray) : ByteArray :=
  if st = 11 then b.extract 1 b.size else if st = 18 ∨ st = 20 then b.extract 2 b.size else if st = 9 then b.extract 1 (b.size - 1) else if st = 22 then unq (b.extract 1 (b.size - 1)) else b
/-- there are as many bytes as its state asks -/
def longEnough (st : Nat) (b : ByteArray) : Prop := (st = 11 → 1 ≤ b.size) ∧ (st = 18 ∨ st = 20 ∨ st = 9 ∨ st = 22 → 2 ≤ b.size)
theorem replaceAll_is (s : ByteArray) (hs : s.size < 4294967281) (w : World) (hM : MaxL w) :
    Calls Tryd.prog 40 #[.string s, .string ⟨#[34, 34]⟩, .string ⟨#[34]⟩] w fun e w' => e = .returned (.string (unq s)) ∧ Below w.heap.size w w' := by
  obtain ⟨m, hm⟩ := hM
  have hc := Lib.countB_mul_le (⟨#[34, 34]⟩ : ByteArray) (by decide) s.size s (Nat.le_refl _)
  have e1 : (⟨#[34, 34]⟩ : ByteArray).size = 2 := rfl
  have e2 : (⟨#[34]⟩ : ByteArray).size = 1 := rfl
  refine (Any.strings_ReplaceAll Tryd.lays155 Tryd.Builder_Extra_155 s ⟨#[34, 34]⟩ ⟨#[34]⟩ m w hs hm (by decide) (by rw [e1] at hc; rw [e2]; omega)).mono ?_
  rintro e w' ⟨h1, h2⟩
  exact ⟨h1, h2⟩
set_option maxHeartbeats 2000000 in
theorem text_3 (b : ByteArray) (hs : b.size ≤ 4294967280) (w : World) : Calls Tryd.prog 48 #[.int .i64 3, .string b] w fun e w' => e = .returned (.string (txt 3 b)) ∧ Below w.heap.size w w' := by
  have hv : txt 3 b = b := by unfold txt; simp
  rw [hv]
  clear hv
  go_enter Tryd.func48, Tryd.ntmps48
  go_wp2
  go_ret
  exact ⟨rfl, Below.refl _ _⟩

set_option maxHeartbeats 2000000 in
theorem text_4 (b : ByteArray) (hs : b.size ≤ 4294967280) (w : World) : Calls Tryd.prog 48 #[.int .i64 4, .string b] w fun e w' => e = .returned (.string (txt 4 b)) ∧ Below w.heap.size w w' := by
  have hv : txt 4 b = b := by unfold txt; simp
  rw [hv]
  clear hv
  go_enter Tryd.func48, Tryd.ntmps48
  go_wp2
  go_ret
  exact ⟨rfl, Below.refl _ _⟩

set_option maxHeartbeats 2000000 in
theorem text_5 (b : ByteArray) (hs : b.size ≤ 4294967280) (w : World) : Calls Tryd.prog 48 #[.int .i64 5, .string b] w fun e w' => e = .returned (.string (txt 5 b)) ∧ Below w.heap.size w w' := by
  have hv : txt 5 b = b := by unfold txt; simp
  rw [hv]
  clear hv
  go_enter Tryd.func48, Tryd.ntmps48
  go_wp2
  go_ret
  exact ⟨rfl, Below.refl _ _⟩

set_option maxHeartbeats 2000000 in
theorem text_6 (b : ByteArray) (hs : b.size ≤ 4294967280) (w : World) : Calls Tryd.prog 48 #[.int .i64 6, .string b] w fun e w' => e = .returned (.string (txt 6 b)) ∧ Below w.heap.size w w' := by
  have hv : txt 6 b = b := by unfold txt; simp
  rw [hv]
  clear hv
  go_enter Tryd.func48, Tryd.ntmps48
  go_wp2
  go_ret
  exact ⟨rfl, Below.refl _ _⟩

set_option maxHeartbeats 2000000 in
theorem text_7 (b : ByteArray) (hs : b.size ≤ 4294967280) (w : World) : Calls Tryd.prog 48 #[.int .i64 7, .string b] w fun e w' => e = .returned (.string (txt 7 b)) ∧ Below w.heap.size w w' := by
  have hv : txt 7 b = b := by unfold txt; simp
  rw [hv]
  clear hv
  go_enter Tryd.func48, Tryd.ntmps48
  go_wp2
  go_ret
  exact ⟨rfl, Below.refl _ _⟩

set_option maxHeartbeats 2000000 in
theorem text_8 (b : ByteArray) (hs : b.size ≤ 4294967280) (w : World) : Calls Tryd.prog 48 #[.int .i64 8, .string b] w fun e w' => e = .returned (.string (txt 8 b)) ∧ Below w.heap.size w w' := by
  have hv : txt 8 b = b := by unfold txt; simp
  rw [hv]
  clear hv
  go_enter Tryd.func48, Tryd.ntmps48
  go_wp2
  go_ret
  exact ⟨rfl, Below.refl _ _⟩

set_option maxHeartbeats 2000000 in
theorem text_9 (b : ByteArray) (hs : b.size ≤ 4294967280) (h1 : 2 ≤ b.size) (w : World) : Calls Tryd.prog 48 #[.int .i64 9, .string b] w fun e w' => e = .returned (.string (txt 9 b)) ∧ Below w.heap.size w w' := by
  have hv : txt 9 b = b.extract 1 (b.size - 1) := by unfold txt; simp
  rw [hv]
  clear hv
  have hw : wrap64 ((b.size : Int) - 1) = ((b.size - 1 : Nat) : Int) := by
    have e : ((b.size : Int) - 1) = ((b.size - 1 : Nat) : Int) := by omega
    rw [e]; unfold wrap64; omega
  go_enter Tryd.func48, Tryd.ntmps48
  go_wp2
  go_ret
  exact ⟨rfl, Below.refl _ _⟩

set_option maxHeartbeats 2000000 in
theorem text_10 (b : ByteArray) (hs : b.size ≤ 4294967280) (w : World) : Calls Tryd.prog 48 #[.int .i64 10, .string b] w fun e w' => e = .returned (.string (txt 10 b)) ∧ Below w.heap.size w w' := by
  have hv : txt 10 b = b := by unfold txt; simp
  rw [hv]
  clear hv
  go_enter Tryd.func48, Tryd.ntmps48
  go_wp2
  go_ret
  exact ⟨rfl, Below.refl _ _⟩

set_option maxHeartbeats 2000000 in
theorem text_11 (b : ByteArray) (hs : b.size ≤ 4294967280) (h1 : 1 ≤ b.size) (w : World) : Calls Tryd.prog 48 #[.int .i64 11, .string b] w fun e w' => e = .returned (.string (txt 11 b)) ∧ Below w.heap.size w w' := by
  have hv : txt 11 b = b.extract 1 b.size := by unfold txt; simp
  rw [hv]
  clear hv
  have hsl : ∀ wx : World, (Instr.slice 9 (.string b) (some (.int .i64 1)) none none).run Tryd.prog wx = .ok (.string (b.extract 1 b.size)) wx := fun wx => by
    have h := run_slice_string_l (P := Tryd.prog) (t := 9) (s := b) (w := wx) Tryd.underlying9 .i64 1 (by omega) (by omega)
    exact h
  go_enter Tryd.func48, Tryd.ntmps48
  go_wp2
  go_ret
  exact ⟨rfl, Below.refl _ _⟩

set_option maxHeartbeats 2000000 in
theorem text_12 (b : ByteArray) (hs : b.size ≤ 4294967280) (w : World) : Calls Tryd.prog 48 #[.int .i64 12, .string b] w fun e w' => e = .returned (.string (txt 12 b)) ∧ Below w.heap.size w w' := by
  have hv : txt 12 b = b := by unfold txt; simp
  rw [hv]
  clear hv
  go_enter Tryd.func48, Tryd.ntmps48
  go_wp2
  go_ret
  exact ⟨rfl, Below.refl _ _⟩

set_option maxHeartbeats 2000000 in
theorem text_13 (b : ByteArray) (hs : b.size ≤ 4294967280) (w : World) : Calls Tryd.prog 48 #[.int .i64 13, .string b] w fun e w' => e = .returned (.string (txt 13 b)) ∧ Below w.heap.size w w' := by
  have hv : txt 13 b = b := by unfold txt; simp
  rw [hv]
  clear hv
  go_enter Tryd.func48, Tryd.ntmps48
  go_wp2
  go_ret
  exact ⟨rfl, Below.refl _ _⟩

set_option maxHeartbeats 2000000 in
theorem text_14 (b : ByteArray) (hs : b.size ≤ 4294967280) (w : World) : Calls Tryd.prog 48 #[.int .i64 14, .string b] w fun e w' => e = .returned (.string (txt 14 b)) ∧ Below w.heap.size w w' := by
  have hv : txt 14 b = b := by unfold txt; simp
  rw [hv]
  clear hv
  go_enter Tryd.func48, Tryd.ntmps48
  go_wp2
  go_ret
  exact ⟨rfl, Below.refl _ _⟩

set_option maxHeartbeats 2000000 in
theorem text_15 (b : ByteArray) (hs : b.size ≤ 4294967280) (w : World) : Calls Tryd.prog 48 #[.int .i64 15, .string b] w fun e w' => e = .returned (.string (txt 15 b)) ∧ Below w.heap.size w w' := by
  have hv : txt 15 b = b := by unfold txt; simp
  rw [hv]
  clear hv
  go_enter Tryd.func48, Tryd.ntmps48
  go_wp2
  go_ret
  exact ⟨rfl, Below.refl _ _⟩

set_option maxHeartbeats 2000000 in
theorem text_16 (b : ByteArray) (hs : b.size ≤ 4294967280) (w : World) : Calls Tryd.prog 48 #[.int .i64 16, .string b] w fun e w' => e = .returned (.string (txt 16 b)) ∧ Below w.heap.size w w' := by
  have hv : txt 16 b = b := by unfold txt; simp
  rw [hv]
  clear hv
  go_enter Tryd.func48, Tryd.ntmps48
  go_wp2
  go_ret
  exact ⟨rfl, Below.refl _ _⟩

set_option maxHeartbeats 2000000 in
theorem text_17 (b : ByteArray) (hs : b.size ≤ 4294967280) (w : World) : Calls Tryd.prog 48 #[.int .i64 17, .string b] w fun e w' => e = .returned (.string (txt 17 b)) ∧ Below w.heap.size w w' := by
  have hv : txt 17 b = b := by unfold txt; simp
  rw [hv]
  clear hv
  go_enter Tryd.func48, Tryd.ntmps48
  go_wp2
  go_ret
  exact ⟨rfl, Below.refl _ _⟩

set_option maxHeartbeats 2000000 in
theorem text_18 (b : ByteArray) (hs : b.size ≤ 4294967280) (h1 : 2 ≤ b.size) (w : World) : Calls Tryd.prog 48 #[.int .i64 18, .string b] w fun e w' => e = .returned (.string (txt 18 b)) ∧ Below w.heap.size w w' := by
  have hv : txt 18 b = b.extract 2 b.size := by unfold txt; simp
  rw [hv]
  clear hv
  have hsl : ∀ wx : World, (Instr.slice 9 (.string b) (some (.int .i64 2)) none none).run Tryd.prog wx = .ok (.string (b.extract 2 b.size)) wx := fun wx => by
    have h := run_slice_string_l (P := Tryd.prog) (t := 9) (s := b) (w := wx) Tryd.underlying9 .i64 2 (by omega) (by omega)
    exact h
  go_enter Tryd.func48, Tryd.ntmps48
  go_wp2
  go_ret
  exact ⟨rfl, Below.refl _ _⟩

set_option maxHeartbeats 2000000 in
theorem text_19 (b : ByteArray) (hs : b.size ≤ 4294967280) (w : World) : Calls Tryd.prog 48 #[.int .i64 19, .string b] w fun e w' => e = .returned (.string (txt 19 b)) ∧ Below w.heap.size w w' := by
  have hv : txt 19 b = b := by unfold txt; simp
  rw [hv]
  clear hv
  go_enter Tryd.func48, Tryd.ntmps48
  go_wp2
  go_ret
  exact ⟨rfl, Below.refl _ _⟩

set_option maxHeartbeats 2000000 in
theorem text_20 (b : ByteArray) (hs : b.size ≤ 4294967280) (h1 : 2 ≤ b.size) (w : World) : Calls Tryd.prog 48 #[.int .i64 20, .string b] w fun e w' => e = .returned (.string (txt 20 b)) ∧ Below w.heap.size w w' := by
  have hv : txt 20 b = b.extract 2 b.size := by unfold txt; simp
  rw [hv]
  clear hv
  have hsl : ∀ wx : World, (Instr.slice 9 (.string b) (some (.int .i64 2)) none none).run Tryd.prog wx = .ok (.string (b.extract 2 b.size)) wx := fun wx => by
    have h := run_slice_string_l (P := Tryd.prog) (t := 9) (s := b) (w := wx) Tryd.underlying9 .i64 2 (by omega) (by omega)
    exact h
  go_enter Tryd.func48, Tryd.ntmps48
  go_wp2
  go_ret
  exact ⟨rfl, Below.refl _ _⟩

set_option maxHeartbeats 2000000 in
theorem text_21 (b : ByteArray) (hs : b.size ≤ 4294967280) (w : World) : Calls Tryd.prog 48 #[.int .i64 21, .string b] w fun e w' => e = .returned (.string (txt 21 b)) ∧ Below w.heap.size w w' := by
  have hv : txt 21 b = b := by unfold txt; simp
  rw [hv]
  clear hv
  go_enter Tryd.func48, Tryd.ntmps48
  go_wp2
  go_ret
  exact ⟨rfl, Below.refl _ _⟩

set_option maxHeartbeats 2000000 in
theorem text_22 (b : ByteArray) (hs : b.size ≤ 4294967280) (h1 : 2 ≤ b.size) (w : World) (hM : MaxL w) : Calls Tryd.prog 48 #[.int .i64 22, .string b] w fun e w' => e = .returned (.string (txt 22 b)) ∧ Below w.heap.size w w' := by
  have hv : txt 22 b = unq (b.extract 1 (b.size - 1)) := by unfold txt; simp
  rw [hv]
  clear hv
  have hw : wrap64 ((b.size : Int) - 1) = ((b.size - 1 : Nat) : Int) := by
    have e : ((b.size : Int) - 1) = ((b.size - 1 : Nat) : Int) := by omega
    rw [e]; unfold wrap64; omega
  have H := hideT (replaceAll_is (b.extract 1 (b.size - 1)) (by simp only [ByteArray.size_extract]; omega) w hM)
  clear hM
  go_enter Tryd.func48, Tryd.ntmps48
  go_wp2_with fail
  refine H.out.mono ?_
  rintro e w1 ⟨rfl, b1⟩
  go_wp2
  go_ret
  exact ⟨rfl, b1⟩

theorem text_is (st : Nat) (b : ByteArray) (h1 : 3 ≤ st) (h2 : st ≤ 22) (hl : longEnough st b) (hs : b.size ≤ 4294967280) (w : World) (hM : MaxL w) : Calls Tryd.prog 48 #[.int .i64 st, .string b] w fun e w' => e = .returned (.string (txt st b)) ∧ Below w.heap.size w w' := by
  rcases (show st = 3 ∨ st = 4 ∨ st = 5 ∨ st = 6 ∨ st = 7 ∨ st = 8 ∨ st = 9 ∨ st = 10 ∨ st = 11 ∨ st = 12 ∨ st = 13 ∨ st = 14 ∨ st = 15 ∨ st = 16 ∨ st = 17 ∨ st = 18 ∨ st = 19 ∨ st = 20 ∨ st = 21 ∨ st = 22 by omega) with rfl | rfl | rfl | rfl | rfl | rfl | rfl | rfl | rfl | rfl | rfl | rfl | rfl | rfl | rfl | rfl | rfl | rfl | rfl | rfl
  · exact text_3 b hs w
  · exact text_4 b hs w
  · exact text_5 b hs w
  · exact text_6 b hs w
  · exact text_7 b hs w
  · exact text_8 b hs w
  · exact text_9 b hs (hl.2 (by decide)) w
  · exact text_10 b hs w
  · exact text_11 b hs (hl.1 rfl) w
  · exact text_12 b hs w
  · exact text_13 b hs w
  · exact text_14 b hs w
  · exact text_15 b hs w
  · exact text_16 b hs w
  · exact text_17 b hs w
  · exact text_18 b hs (hl.2 (by decide)) w
  · exact text_19 b hs w
  · exact text_20 b hs (hl.2 (by decide)) w
  · exact text_21 b hs w
  · exact text_22 b hs (hl.2 (by decide)) w hM
end Go.Proofs.YtmgecifbimhjkaaDoor
