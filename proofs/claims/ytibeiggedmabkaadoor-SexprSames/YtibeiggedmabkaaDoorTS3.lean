/-
  text: what a token's bytes say.
-/
import Derived.Test.YtibeiggedmabkaaDoorTS2
import Derived.Shelf.Strings.Replace
namespace Go.Proofs
open Go.Shelf
def Tryd.lays155_ren : Go.Shelf.Ren := ⟨fun | 155 => 79 | 154 => 85 | 138 => 90 | 165 => 91 | 143 => 92 | 166 => 93 | 197 => 94 | 169 => 95 | 195 => 97 | 218 => 98 | 240 => 99 | 241 => 100 | 219 => 101 | 260 => 102 | 276 => 104 | 277 => 105 | 217 => 96 | 225 => 89 | 224 => 88 | 267 => 106 | 266 => 103 | 314 => 107 | n => n, fun | 9 => 9 | 3 => 3 | 4 => 4 | 72 => 115 | 0 => 0 | 76 => 119 | 105 => 121 | 21 => 21 | 5 => 5 | 70 => 113 | 20 => 20 | 37 => 80 | 75 => 118 | 127 => 125 | 164 => 126 | 46 => 111 | 119 => 129 | 139 => 132 | 138 => 131 | 146 => 134 | 51 => 133 | 80 => 123 | n => n, fun | 1 => 0 | 3 => 1 | 4 => 2 | n => n⟩
theorem Tryd.lays155 : Go.Proofs.Lays.n155 Tryd.prog Tryd.lays155_ren := {
  mixed := by kernel_rfl
  f138 := Tryd.func90.trans (congrArg some (by kernel_rfl))
  f143 := Tryd.func92.trans (congrArg some (by kernel_rfl))
  f154 := Tryd.func85.trans (congrArg some (by kernel_rfl))
  f155 := Tryd.func79.trans (congrArg some (by kernel_rfl))
  f165 := Tryd.func91.trans (congrArg some (by kernel_rfl))
  f166 := Tryd.func93.trans (congrArg some (by kernel_rfl))
  f169 := Tryd.func95.trans (congrArg some (by kernel_rfl))
  f195 := Tryd.func97.trans (congrArg some (by kernel_rfl))
  f197 := Tryd.func94.trans (congrArg some (by kernel_rfl))
  f217 := Tryd.func96.trans (congrArg some (by kernel_rfl))
  f218 := Tryd.func98.trans (congrArg some (by kernel_rfl))
  f219 := Tryd.func101.trans (congrArg some (by kernel_rfl))
  f224 := Tryd.func88.trans (congrArg some (by kernel_rfl))
  f225 := Tryd.func89.trans (congrArg some (by kernel_rfl))
  f240 := Tryd.func99.trans (congrArg some (by kernel_rfl))
  f241 := Tryd.func100.trans (congrArg some (by kernel_rfl))
  f260 := Tryd.func102.trans (congrArg some (by kernel_rfl))
  f266 := Tryd.func103.trans (congrArg some (by kernel_rfl))
  f267 := Tryd.func106.trans (congrArg some (by kernel_rfl))
  f276 := Tryd.func104.trans (congrArg some (by kernel_rfl))
  f277 := Tryd.func105.trans (congrArg some (by kernel_rfl))
  f314 := Tryd.func107.trans (congrArg some (by kernel_rfl))
  t0 := Tryd.underlying0
  a0 := Tryd.isAgg0
  z0 := Tryd.sizeOf0
  v0 := Tryd.zeroValue0
  t3 := Tryd.underlying3
  a3 := Tryd.isAgg3
  z3 := Tryd.sizeOf3
  v3 := Tryd.zeroValue3
  t4 := Tryd.underlying4
  a4 := Tryd.isAgg4
  z4 := Tryd.sizeOf4
  v4 := Tryd.zeroValue4
  t5 := Tryd.underlying5
  a5 := Tryd.isAgg5
  z5 := Tryd.sizeOf5
  v5 := Tryd.zeroValue5
  t9 := Tryd.underlying9
  a9 := Tryd.isAgg9
  z9 := Tryd.sizeOf9
  v9 := Tryd.zeroValue9
  t20 := Tryd.underlying20
  a20 := Tryd.isAgg20
  z20 := Tryd.sizeOf20
  v20 := Tryd.zeroValue20
  t21 := Tryd.underlying21
  a21 := Tryd.isAgg21
  z21 := Tryd.sizeOf21
  v21 := Tryd.zeroValue21
  t37 := Tryd.underlying80
  a37 := Tryd.isAgg80
  z37 := Tryd.sizeOf80
  v37 := Tryd.zeroValue80
  t46 := Tryd.underlying111
  a46 := Tryd.isAgg111
  z46 := Tryd.sizeOf111
  v46 := Tryd.zeroValue111
  t51 := Tryd.underlying133
  a51 := Tryd.isAgg133
  z51 := Tryd.sizeOf133
  v51 := Tryd.zeroValue133
  t70 := Tryd.underlying113
  a70 := Tryd.isAgg113
  z70 := Tryd.sizeOf113
  v70 := Tryd.zeroValue113
  t72 := Tryd.underlying115
  a72 := Tryd.isAgg115
  z72 := Tryd.sizeOf115
  v72 := Tryd.zeroValue115
  t75 := Tryd.underlying118
  a75 := Tryd.isAgg118
  z75 := Tryd.sizeOf118
  v75 := Tryd.zeroValue118
  t76 := Tryd.underlying119
  a76 := Tryd.isAgg119
  z76 := Tryd.sizeOf119
  v76 := Tryd.zeroValue119
  t105 := Tryd.underlying121
  a105 := Tryd.isAgg121
  z105 := Tryd.sizeOf121
  v105 := Tryd.zeroValue121
  t119 := Tryd.underlying129
  a119 := Tryd.isAgg129
  z119 := Tryd.sizeOf129
  t127 := Tryd.underlying125
  a127 := Tryd.isAgg125
  z127 := Tryd.sizeOf125
  v127 := Tryd.zeroValue125
  t138 := Tryd.underlying131
  a138 := Tryd.isAgg131
  z138 := Tryd.sizeOf131
  v138 := Tryd.zeroValue131
  t139 := Tryd.underlying132
  a139 := Tryd.isAgg132
  z139 := Tryd.sizeOf132
  v139 := Tryd.zeroValue132
  t146 := Tryd.underlying134
  a146 := Tryd.isAgg134
  z146 := Tryd.sizeOf134
  v146 := Tryd.zeroValue134
  t164 := Tryd.underlying126
  a164 := Tryd.isAgg126
  z164 := Tryd.sizeOf126
  v164 := Tryd.zeroValue126
  g1 := by kernel_rfl
  g3 := by kernel_rfl
  g4 := by kernel_rfl }
theorem Tryd.Builder_Extra_155 : Builder.Extra Tryd.prog Tryd.lays155_ren := {
  sizeBuilder := by kernel_rfl
  liesBuilder := by kernel_rfl
  t5 := Tryd.underlying5
  a5 := Tryd.isAgg5
  z5 := Tryd.sizeOf5
  v5 := Tryd.zeroValue5
  infoByte := by kernel_rfl
  cellsByte := by kernel_rfl
  sizeByte := by kernel_rfl
  neB5 := by decide }
end Go.Proofs
namespace Go.Proofs.YtibeiggedmabkaaDoor
open Go.RowKit
set_option linter.unusedVariables false
set_option linter.unusedSimpArgs false
/-- the block of the library's variable MaxLen, which holds some number -/
abbrev mxB : Nat := 0
def MaxL (w : World) : Prop := ∃ m : Int, w.cell? ⟨mxB, 0, none⟩ = some (.int .i64 m)
theorem MaxL.on {w w' : World} (h : MaxL w) (hb : Below w.heap.size w w') : MaxL w' := by
  obtain ⟨m, hm⟩ := h
  exact ⟨m, by rw [hb.cell (World.block_lt_of_cell? w _ hm)]; exact hm⟩
/-- each two quotes as one -/
def unq (b : ByteArray) : ByteArray := ⟨(Lib.replaceAll b.data.toList [34, 34] [34]).toArray⟩
/-- what a token's bytes say -/
def txt (st : Nat) (b : ByteArray) : ByteArray :=
  if st = 11 then b.extract 1 b.size else if st = 18 ∨ st = 20 then b.extract 2 b.size else if st = 9 then b.extract 1 (b.size - 1) else if st = 22 then unq (b.extract 1 (b.size - 1)) else b
/-- there are as many bytes as its state asks -/
def longEnough (st : Nat) (b : ByteArray) : Prop := (st = 11 → 1 ≤ b.size) ∧ (st = 18 ∨ st = 20 ∨ st = 9 ∨ st = 22 → 2 ≤ b.size)
theorem replaceAll_is (s : ByteArray) (hs : s.size < 4294967281) (w : World) (hM : MaxL w) :
    Calls Tryd.prog 79 #[.string s, .string ⟨#[34, 34]⟩, .string ⟨#[34]⟩] w fun e w' => e = .returned (.string (unq s)) ∧ Below w.heap.size w w' := by
  obtain ⟨m, hm⟩ := hM
  have hc := Lib.countB_mul_le (⟨#[34, 34]⟩ : ByteArray) (by decide) s.size s (Nat.le_refl _)
  have e1 : (⟨#[34, 34]⟩ : ByteArray).size = 2 := rfl
  have e2 : (⟨#[34]⟩ : ByteArray).size = 1 := rfl
  refine (Any.strings_ReplaceAll Tryd.lays155 Tryd.Builder_Extra_155 s ⟨#[34, 34]⟩ ⟨#[34]⟩ m w hs hm (by decide) (by rw [e1] at hc; rw [e2]; omega)).mono ?_
  rintro e w' ⟨h1, h2⟩
  exact ⟨h1, h2⟩
set_option maxHeartbeats 2000000 in
theorem text_3 (b : ByteArray) (hs : b.size ≤ 4294967280) (w : World) : Calls Tryd.prog 61 #[.int .i64 3, .string b] w fun e w' => e = .returned (.string (txt 3 b)) ∧ Below w.heap.size w w' := by
  have hv : txt 3 b = b := by unfold txt; simp
  rw [hv]
  clear hv
  go_enter Tryd.func61, Tryd.ntmps61
  go_wp2
  go_ret
  exact ⟨rfl, Below.refl _ _⟩

set_option maxHeartbeats 2000000 in
theorem text_4 (b : ByteArray) (hs : b.size ≤ 4294967280) (w : World) : Calls Tryd.prog 61 #[.int .i64 4, .string b] w fun e w' => e = .returned (.string (txt 4 b)) ∧ Below w.heap.size w w' := by
  have hv : txt 4 b = b := by unfold txt; simp
  rw [hv]
  clear hv
  go_enter Tryd.func61, Tryd.ntmps61
  go_wp2
  go_ret
  exact ⟨rfl, Below.refl _ _⟩

set_option maxHeartbeats 2000000 in
theorem text_5 (b : ByteArray) (hs : b.size ≤ 4294967280) (w : World) : Calls Tryd.prog 61 #[.int .i64 5, .string b] w fun e w' => e = .returned (.string (txt 5 b)) ∧ Below w.heap.size w w' := by
  have hv : txt 5 b = b := by unfold txt; simp
  rw [hv]
  clear hv
  go_enter Tryd.func61, Tryd.ntmps61
  go_wp2
  go_ret
  exact ⟨rfl, Below.refl _ _⟩

set_option maxHeartbeats 2000000 in
theorem text_6 (b : ByteArray) (hs : b.size ≤ 4294967280) (w : World) : Calls Tryd.prog 61 #[.int .i64 6, .string b] w fun e w' => e = .returned (.string (txt 6 b)) ∧ Below w.heap.size w w' := by
  have hv : txt 6 b = b := by unfold txt; simp
  rw [hv]
  clear hv
  go_enter Tryd.func61, Tryd.ntmps61
  go_wp2
  go_ret
  exact ⟨rfl, Below.refl _ _⟩

set_option maxHeartbeats 2000000 in
theorem text_7 (b : ByteArray) (hs : b.size ≤ 4294967280) (w : World) : Calls Tryd.prog 61 #[.int .i64 7, .string b] w fun e w' => e = .returned (.string (txt 7 b)) ∧ Below w.heap.size w w' := by
  have hv : txt 7 b = b := by unfold txt; simp
  rw [hv]
  clear hv
  go_enter Tryd.func61, Tryd.ntmps61
  go_wp2
  go_ret
  exact ⟨rfl, Below.refl _ _⟩

set_option maxHeartbeats 2000000 in
theorem text_8 (b : ByteArray) (hs : b.size ≤ 4294967280) (w : World) : Calls Tryd.prog 61 #[.int .i64 8, .string b] w fun e w' => e = .returned (.string (txt 8 b)) ∧ Below w.heap.size w w' := by
  have hv : txt 8 b = b := by unfold txt; simp
  rw [hv]
  clear hv
  go_enter Tryd.func61, Tryd.ntmps61
  go_wp2
  go_ret
  exact ⟨rfl, Below.refl _ _⟩

set_option maxHeartbeats 2000000 in
theorem text_9 (b : ByteArray) (hs : b.size ≤ 4294967280) (h1 : 2 ≤ b.size) (w : World) : Calls Tryd.prog 61 #[.int .i64 9, .string b] w fun e w' => e = .returned (.string (txt 9 b)) ∧ Below w.heap.size w w' := by
  have hv : txt 9 b = b.extract 1 (b.size - 1) := by unfold txt; simp
  rw [hv]
  clear hv
  have hw : wrap64 ((b.size : Int) - 1) = ((b.size - 1 : Nat) : Int) := by
    have e : ((b.size : Int) - 1) = ((b.size - 1 : Nat) : Int) := by omega
    rw [e]; unfold wrap64; omega
  go_enter Tryd.func61, Tryd.ntmps61
  go_wp2
  go_ret
  exact ⟨rfl, Below.refl _ _⟩

set_option maxHeartbeats 2000000 in
theorem text_10 (b : ByteArray) (hs : b.size ≤ 4294967280) (w : World) : Calls Tryd.prog 61 #[.int .i64 10, .string b] w fun e w' => e = .returned (.string (txt 10 b)) ∧ Below w.heap.size w w' := by
  have hv : txt 10 b = b := by unfold txt; simp
  rw [hv]
  clear hv
  go_enter Tryd.func61, Tryd.ntmps61
  go_wp2
  go_ret
  exact ⟨rfl, Below.refl _ _⟩

set_option maxHeartbeats 2000000 in
theorem text_11 (b : ByteArray) (hs : b.size ≤ 4294967280) (h1 : 1 ≤ b.size) (w : World) : Calls Tryd.prog 61 #[.int .i64 11, .string b] w fun e w' => e = .returned (.string (txt 11 b)) ∧ Below w.heap.size w w' := by
  have hv : txt 11 b = b.extract 1 b.size := by unfold txt; simp
  rw [hv]
  clear hv
  have hsl : ∀ wx : World, (Instr.slice 9 (.string b) (some (.int .i64 1)) none none).run Tryd.prog wx = .ok (.string (b.extract 1 b.size)) wx := fun wx => by
    have h := run_slice_string_l (P := Tryd.prog) (t := 9) (s := b) (w := wx) Tryd.underlying9 .i64 1 (by omega) (by omega)
    exact h
  go_enter Tryd.func61, Tryd.ntmps61
  go_wp2
  go_ret
  exact ⟨rfl, Below.refl _ _⟩

set_option maxHeartbeats 2000000 in
theorem text_12 (b : ByteArray) (hs : b.size ≤ 4294967280) (w : World) : Calls Tryd.prog 61 #[.int .i64 12, .string b] w fun e w' => e = .returned (.string (txt 12 b)) ∧ Below w.heap.size w w' := by
  have hv : txt 12 b = b := by unfold txt; simp
  rw [hv]
  clear hv
  go_enter Tryd.func61, Tryd.ntmps61
  go_wp2
  go_ret
  exact ⟨rfl, Below.refl _ _⟩

set_option maxHeartbeats 2000000 in
theorem text_13 (b : ByteArray) (hs : b.size ≤ 4294967280) (w : World) : Calls Tryd.prog 61 #[.int .i64 13, .string b] w fun e w' => e = .returned (.string (txt 13 b)) ∧ Below w.heap.size w w' := by
  have hv : txt 13 b = b := by unfold txt; simp
  rw [hv]
  clear hv
  go_enter Tryd.func61, Tryd.ntmps61
  go_wp2
  go_ret
  exact ⟨rfl, Below.refl _ _⟩

set_option maxHeartbeats 2000000 in
theorem text_14 (b : ByteArray) (hs : b.size ≤ 4294967280) (w : World) : Calls Tryd.prog 61 #[.int .i64 14, .string b] w fun e w' => e = .returned (.string (txt 14 b)) ∧ Below w.heap.size w w' := by
  have hv : txt 14 b = b := by unfold txt; simp
  rw [hv]
  clear hv
  go_enter Tryd.func61, Tryd.ntmps61
  go_wp2
  go_ret
  exact ⟨rfl, Below.refl _ _⟩

set_option maxHeartbeats 2000000 in
theorem text_15 (b : ByteArray) (hs : b.size ≤ 4294967280) (w : World) : Calls Tryd.prog 61 #[.int .i64 15, .string b] w fun e w' => e = .returned (.string (txt 15 b)) ∧ Below w.heap.size w w' := by
  have hv : txt 15 b = b := by unfold txt; simp
  rw [hv]
  clear hv
  go_enter Tryd.func61, Tryd.ntmps61
  go_wp2
  go_ret
  exact ⟨rfl, Below.refl _ _⟩

set_option maxHeartbeats 2000000 in
theorem text_16 (b : ByteArray) (hs : b.size ≤ 4294967280) (w : World) : Calls Tryd.prog 61 #[.int .i64 16, .string b] w fun e w' => e = .returned (.string (txt 16 b)) ∧ Below w.heap.size w w' := by
  have hv : txt 16 b = b := by unfold txt; simp
  rw [hv]
  clear hv
  go_enter Tryd.func61, Tryd.ntmps61
  go_wp2
  go_ret
  exact ⟨rfl, Below.refl _ _⟩

set_option maxHeartbeats 2000000 in
theorem text_17 (b : ByteArray) (hs : b.size ≤ 4294967280) (w : World) : Calls Tryd.prog 61 #[.int .i64 17, .string b] w fun e w' => e = .returned (.string (txt 17 b)) ∧ Below w.heap.size w w' := by
  have hv : txt 17 b = b := by unfold txt; simp
  rw [hv]
  clear hv
  go_enter Tryd.func61, Tryd.ntmps61
  go_wp2
  go_ret
  exact ⟨rfl, Below.refl _ _⟩

set_option maxHeartbeats 2000000 in
theorem text_18 (b : ByteArray) (hs : b.size ≤ 4294967280) (h1 : 2 ≤ b.size) (w : World) : Calls Tryd.prog 61 #[.int .i64 18, .string b] w fun e w' => e = .returned (.string (txt 18 b)) ∧ Below w.heap.size w w' := by
  have hv : txt 18 b = b.extract 2 b.size := by unfold txt; simp
  rw [hv]
  clear hv
  have hsl : ∀ wx : World, (Instr.slice 9 (.string b) (some (.int .i64 2)) none none).run Tryd.prog wx = .ok (.string (b.extract 2 b.size)) wx := fun wx => by
    have h := run_slice_string_l (P := Tryd.prog) (t := 9) (s := b) (w := wx) Tryd.underlying9 .i64 2 (by omega) (by omega)
    exact h
  go_enter Tryd.func61, Tryd.ntmps61
  go_wp2
  go_ret
  exact ⟨rfl, Below.refl _ _⟩

set_option maxHeartbeats 2000000 in
theorem text_19 (b : ByteArray) (hs : b.size ≤ 4294967280) (w : World) : Calls Tryd.prog 61 #[.int .i64 19, .string b] w fun e w' => e = .returned (.string (txt 19 b)) ∧ Below w.heap.size w w' := by
  have hv : txt 19 b = b := by unfold txt; simp
  rw [hv]
  clear hv
  go_enter Tryd.func61, Tryd.ntmps61
  go_wp2
  go_ret
  exact ⟨rfl, Below.refl _ _⟩

set_option maxHeartbeats 2000000 in
theorem text_20 (b : ByteArray) (hs : b.size ≤ 4294967280) (h1 : 2 ≤ b.size) (w : World) : Calls Tryd.prog 61 #[.int .i64 20, .string b] w fun e w' => e = .returned (.string (txt 20 b)) ∧ Below w.heap.size w w' := by
  have hv : txt 20 b = b.extract 2 b.size := by unfold txt; simp
  rw [hv]
  clear hv
  have hsl : ∀ wx : World, (Instr.slice 9 (.string b) (some (.int .i64 2)) none none).run Tryd.prog wx = .ok (.string (b.extract 2 b.size)) wx := fun wx => by
    have h := run_slice_string_l (P := Tryd.prog) (t := 9) (s := b) (w := wx) Tryd.underlying9 .i64 2 (by omega) (by omega)
    exact h
  go_enter Tryd.func61, Tryd.ntmps61
  go_wp2
  go_ret
  exact ⟨rfl, Below.refl _ _⟩

set_option maxHeartbeats 2000000 in
theorem text_21 (b : ByteArray) (hs : b.size ≤ 4294967280) (w : World) : Calls Tryd.prog 61 #[.int .i64 21, .string b] w fun e w' => e = .returned (.string (txt 21 b)) ∧ Below w.heap.size w w' := by
  have hv : txt 21 b = b := by unfold txt; simp
  rw [hv]
  clear hv
  go_enter Tryd.func61, Tryd.ntmps61
  go_wp2
  go_ret
  exact ⟨rfl, Below.refl _ _⟩

set_option maxHeartbeats 2000000 in
theorem text_22 (b : ByteArray) (hs : b.size ≤ 4294967280) (h1 : 2 ≤ b.size) (w : World) (hM : MaxL w) : Calls Tryd.prog 61 #[.int .i64 22, .string b] w fun e w' => e = .returned (.string (txt 22 b)) ∧ Below w.heap.size w w' := by
  have hv : txt 22 b = unq (b.extract 1 (b.size - 1)) := by unfold txt; simp
  rw [hv]
  clear hv
  have hw : wrap64 ((b.size : Int) - 1) = ((b.size - 1 : Nat) : Int) := by
    have e : ((b.size : Int) - 1) = ((b.size - 1 : Nat) : Int) := by omega
    rw [e]; unfold wrap64; omega
  have H := hideT (replaceAll_is (b.extract 1 (b.size - 1)) (by simp only [ByteArray.size_extract]; omega) w hM)
  clear hM
  go_enter Tryd.func61, Tryd.ntmps61
  go_wp2_with fail
  refine H.out.mono ?_
  rintro e w1 ⟨rfl, b1⟩
  go_wp2
  go_ret
  exact ⟨rfl, b1⟩

theorem text_is (st : Nat) (b : ByteArray) (h1 : 3 ≤ st) (h2 : st ≤ 22) (hl : longEnough st b) (hs : b.size ≤ 4294967280) (w : World) (hM : MaxL w) : Calls Tryd.prog 61 #[.int .i64 st, .string b] w fun e w' => e = .returned (.string (txt st b)) ∧ Below w.heap.size w w' := by
  rcases (show st = 3 ∨ st = 4 ∨ st = 5 ∨ st = 6 ∨ st = 7 ∨ st = 8 ∨ st = 9 ∨ st = 10 ∨ st = 11 ∨ st = 12 ∨ st = 13 ∨ st = 14 ∨ st = 15 ∨ st = 16 ∨ st = 17 ∨ st = 18 ∨ st = 19 ∨ st = 20 ∨ st = 21 ∨ st = 22 by omega) with rfl | rfl | rfl | rfl | rfl | rfl | rfl | rfl | rfl | rfl | rfl | rfl | rfl | rfl | rfl | rfl | rfl | rfl | rfl | rfl
  · exact text_3 b hs w
  · exact text_4 b hs w
  · exact text_5 b hs w
  · exact text_6 b hs w
  · exact text_7 b hs w
  · exact text_8 b hs w
  · exact text_9 b hs (hl.2 (by decide)) w
  · exact text_10 b hs w
  · exact text_11 b hs (hl.1 rfl) w
  · exact text_12 b hs w
  · exact text_13 b hs w
  · exact text_14 b hs w
  · exact text_15 b hs w
  · exact text_16 b hs w
  · exact text_17 b hs w
  · exact text_18 b hs (hl.2 (by decide)) w
  · exact text_19 b hs w
  · exact text_20 b hs (hl.2 (by decide)) w
  · exact text_21 b hs w
  · exact text_22 b hs (hl.2 (by decide)) w hM
end Go.Proofs.YtibeiggedmabkaaDoor
