/-
  strings.LastIndexAny of "+-" in a long text.
-/
import Derived.Test.YtkfdgpidhghhdaaGreatDoorWV2
import Derived.Test.YtkfdgpidhghhdaaGreatDoorNumT
import Derived.Shelf.Strings.IndexAny
import Derived.Shelf.Strings.IndexAnyAll
import Derived.Shelf.Strings.AsciiSet
namespace Go.Proofs
open Go.Shelf
def Tryz.lays152_ren : Go.Shelf.Ren := ⟨fun | 152 => 35 | 137 => 60 | 119 => 61 | 224 => 62 | 225 => 63 | 217 => 91 | 266 => 109 | n => n, fun | 9 => 9 | 21 => 21 | 3 => 3 | 4 => 4 | 5 => 5 | 0 => 0 | 46 => 93 | n => n, fun | n => n⟩
theorem Tryz.lays152 : Go.Proofs.Lays.n152 Tryz.prog Tryz.lays152_ren := {
  mixed := by kernel_rfl
  f119 := Tryz.func61.trans (congrArg some (by kernel_rfl))
  f137 := Tryz.func60.trans (congrArg some (by kernel_rfl))
  f152 := Tryz.func35.trans (congrArg some (by kernel_rfl))
  f217 := Tryz.func91.trans (congrArg some (by kernel_rfl))
  f224 := Tryz.func62.trans (congrArg some (by kernel_rfl))
  f225 := Tryz.func63.trans (congrArg some (by kernel_rfl))
  f266 := Tryz.func109.trans (congrArg some (by kernel_rfl))
  t0 := Tryz.underlying0
  a0 := Tryz.isAgg0
  z0 := Tryz.sizeOf0
  v0 := Tryz.zeroValue0
  t3 := Tryz.underlying3
  a3 := Tryz.isAgg3
  z3 := Tryz.sizeOf3
  v3 := Tryz.zeroValue3
  t4 := Tryz.underlying4
  a4 := Tryz.isAgg4
  z4 := Tryz.sizeOf4
  v4 := Tryz.zeroValue4
  t5 := Tryz.underlying5
  a5 := Tryz.isAgg5
  z5 := Tryz.sizeOf5
  v5 := Tryz.zeroValue5
  t9 := Tryz.underlying9
  a9 := Tryz.isAgg9
  z9 := Tryz.sizeOf9
  v9 := Tryz.zeroValue9
  t21 := Tryz.underlying21
  a21 := Tryz.isAgg21
  z21 := Tryz.sizeOf21
  v21 := Tryz.zeroValue21
  t46 := Tryz.underlying93
  a46 := Tryz.isAgg93
  z46 := Tryz.sizeOf93
  v46 := Tryz.zeroValue93 }
def Tryz.lays226_ren : Go.Shelf.Ren := ⟨fun | 226 => 36 | n => n, fun | 3 => 3 | 4 => 4 | n => n, fun | n => n⟩
theorem Tryz.lays226 : Go.Proofs.Lays.n226 Tryz.prog Tryz.lays226_ren := {
  mixed := by kernel_rfl
  f226 := Tryz.func36.trans (congrArg some (by kernel_rfl))
  t3 := Tryz.underlying3
  a3 := Tryz.isAgg3
  z3 := Tryz.sizeOf3
  v3 := Tryz.zeroValue3
  t4 := Tryz.underlying4
  a4 := Tryz.isAgg4
  z4 := Tryz.sizeOf4
  v4 := Tryz.zeroValue4 }
def Tryz.lays227_ren : Go.Shelf.Ren := ⟨fun | 227 => 37 | n => n, fun | 9 => 9 | 116 => 67 | 4 => 4 | 0 => 0 | 3 => 3 | 5 => 5 | n => n, fun | n => n⟩
theorem Tryz.lays227 : Go.Proofs.Lays.n227 Tryz.prog Tryz.lays227_ren := {
  mixed := by kernel_rfl
  f227 := Tryz.func37.trans (congrArg some (by kernel_rfl))
  t0 := Tryz.underlying0
  a0 := Tryz.isAgg0
  z0 := Tryz.sizeOf0
  v0 := Tryz.zeroValue0
  t3 := Tryz.underlying3
  a3 := Tryz.isAgg3
  z3 := Tryz.sizeOf3
  v3 := Tryz.zeroValue3
  t4 := Tryz.underlying4
  a4 := Tryz.isAgg4
  z4 := Tryz.sizeOf4
  v4 := Tryz.zeroValue4
  t5 := Tryz.underlying5
  a5 := Tryz.isAgg5
  z5 := Tryz.sizeOf5
  v5 := Tryz.zeroValue5
  t9 := Tryz.underlying9
  a9 := Tryz.isAgg9
  z9 := Tryz.sizeOf9
  v9 := Tryz.zeroValue9
  t116 := Tryz.underlying67
  a116 := Tryz.isAgg67
  z116 := Tryz.sizeOf67 }
def Tryz.lays228_ren : Go.Shelf.Ren := ⟨fun | 228 => 38 | n => n, fun | 124 => 94 | 5 => 5 | 4 => 4 | 0 => 0 | 116 => 67 | n => n, fun | n => n⟩
theorem Tryz.lays228 : Go.Proofs.Lays.n228 Tryz.prog Tryz.lays228_ren := {
  mixed := by kernel_rfl
  f228 := Tryz.func38.trans (congrArg some (by kernel_rfl))
  t0 := Tryz.underlying0
  a0 := Tryz.isAgg0
  z0 := Tryz.sizeOf0
  v0 := Tryz.zeroValue0
  t4 := Tryz.underlying4
  a4 := Tryz.isAgg4
  z4 := Tryz.sizeOf4
  v4 := Tryz.zeroValue4
  t5 := Tryz.underlying5
  a5 := Tryz.isAgg5
  z5 := Tryz.sizeOf5
  v5 := Tryz.zeroValue5
  t116 := Tryz.underlying67
  a116 := Tryz.isAgg67
  z116 := Tryz.sizeOf67
  t124 := Tryz.underlying94
  a124 := Tryz.isAgg94
  z124 := Tryz.sizeOf94
  v124 := Tryz.zeroValue94 }
theorem Tryz.setZ : (Tryz.prog.info? 67).map (fun i => (i.zero, i.size)) = some (some (.agg (Array.replicate 256 (.bool false))), 256) := by kernel_rfl
end Go.Proofs
namespace Go.Proofs.YtkfdgpidhghhdaaGreatDoor
open Go.RowKit
set_option linter.unusedVariables false
theorem asc_pm : ∀ (j : Nat) b, ((⟨#[43, 45]⟩ : ByteArray).data.toList)[j]? = some b → b.toNat < 128 := fun j b hb => by
  have := List.mem_of_getElem? hb
  have e : ((⟨#[43, 45]⟩ : ByteArray).data.toList) = [43, 45] := rfl
  rw [e] at this
  simp only [List.mem_cons, List.not_mem_nil, or_false] at this
  rcases this with rfl | rfl <;> decide
theorem use_is (n : Int) (b : Bool) (hb : decide (8 < n) = b) (w : World) : Calls Tryz.prog 36 #[.int .i64 n] w fun e w' => e = .returned (.bool b) ∧ w' = w := by
  rw [← hb]; exact Any.strings_shouldUseASCIISet Tryz.lays226 n w
/-- the set, in memory -/
def setPM : Array Value := Lib.setCells ((⟨#[43, 45]⟩ : ByteArray).data.toList)
theorem mkset_is (w : World) : Calls Tryz.prog 37 #[.string ⟨#[43, 45]⟩] w fun e w' => e = .returned (.tuple #[.agg setPM, .bool true]) ∧ w' = w.alloc (.cells setPM 67) :=
  Any.strings_makeASCIISet Tryz.lays227 (zero_of_info Tryz.setZ).1 (zero_of_info Tryz.setZ).2 ⟨#[43, 45]⟩ w (by decide) asc_pm
theorem has_is (b : Nat) (x : UInt8) (v : Bool) (w : World) (hc : w.cell? ⟨b, x.toNat, none⟩ = some (.bool v)) :
    Calls Tryz.prog 38 #[.pointer (some ⟨b, 0, none⟩), .int .u8 x.toNat] w fun e w' => e = .returned (.bool v) ∧ w' = w :=
  Any.asciiSet_contains Tryz.lays228 b x v w hc
theorem pm_has (x : UInt8) : ((⟨#[43, 45]⟩ : ByteArray).data.toList).contains x = (decide (x.toNat = 43) || decide (x.toNat = 45)) := by
  have e : ((⟨#[43, 45]⟩ : ByteArray).data.toList) = [43, 45] := rfl
  rw [e]
  have h : ∀ y : Fin 256, ([43, 45] : List UInt8).contains (UInt8.ofNat y.val) = (decide (y.val = 43) || decide (y.val = 45)) := by decide +kernel
  have := h ⟨x.toNat, UInt8.toNat_lt x⟩
  simpa using this
theorem rune_is (c : Nat) (h : c < 128) (w : World) : Calls Tryz.prog 35 #[.string ⟨#[43, 45]⟩, .int .i32 (c : Int)] w fun e w' => e = .returned (.int .i64 (if c = 43 then 0 else if c = 45 then 1 else -1)) ∧ w' = w := by
  have e : Lib.indexByte ((⟨#[43, 45]⟩ : ByteArray).data.toList) ((c : Int)).toNat.toUInt8 = (if c = 43 then (0 : Int) else if c = 45 then 1 else -1) := by
    have h2 : ∀ y : Fin 128, Lib.indexByte ((⟨#[43, 45]⟩ : ByteArray).data.toList) ((y.val : Int)).toNat.toUInt8 = (if y.val = 43 then (0 : Int) else if y.val = 45 then 1 else -1) := by decide +kernel
    exact h2 ⟨c, h⟩
  have := Any.strings_IndexRune_ascii Tryz.lays152 ⟨#[43, 45]⟩ (c : Int) w (by omega) (by omega)
  rw [e] at this
  exact this
set_option maxHeartbeats 1000000 in
set_option maxRecDepth 100000 in
/-- the last rune, where it is a byte -/
theorem last_is (s : ByteArray) (k : Nat) (hk : s.size = k + 1) (hs : s.size ≤ 140737488355328) (hl : byt s k < 128) (w : World) :
    Calls Tryz.prog 39 #[.string s] w fun e w' => e = .returned (.tuple #[.int .i32 (byt s k : Nat), .int .i64 1]) ∧ w' = w := by
  have hlt : k < s.size := by omega
  have ek := byt_of hlt
  rw [ek] at hl ⊢
  have h0 : ((s.size : Int) == 0) = false := by rw [beq_eq_false_iff_ne]; omega
  have hx : wrap32 ((s[k]'hlt).toNat : Int) = ((s[k]'hlt).toNat : Int) := by unfold wrap32; omega
  have hki : (s.size : Int) - 1 = (k : Int) := by omega
  have hlo : (((s[k]'hlt).toNat : Int) < 128) := by omega
  go_enter Tryz.func39, Tryz.ntmps39
  go_wp2
  go_ret2
  first
    | exact ⟨rfl, rfl⟩
    | exact ⟨by show Ending.returned (.tuple #[.int .i32 (wrap32 ((s[k]'hlt).toNat : Int)), .int .i64 1]) = _; rw [hx], rfl⟩
    | (refine ⟨?_, rfl⟩; congr 4)
end Go.Proofs.YtkfdgpidhghhdaaGreatDoor

namespace Go.Proofs.YtkfdgpidhghhdaaGreatDoor
open Go.RowKit
set_option linter.unusedVariables false
theorem setPM_one : setPM.size = 256 := Lib.setCells_size _
theorem byt_ex {s : ByteArray} {k m : Nat} (hk : k ≤ s.size) (hm : m < k) : byt (s.extract 0 k) m = byt s m := by
  have e : (s.extract 0 k).size = k := by rw [ByteArray.size_extract]; omega
  rw [byt_of (by rw [e]; exact hm), byt_of (by omega)]
  congr 1
  rw [ByteArray.getElem_extract]
  congr 1
  omega
set_option maxHeartbeats 8000000 in
set_option maxRecDepth 1000000 in
theorem lastAny_short (s : ByteArray) (i : Nat) (hi : i < s.size) (h2 : 2 ≤ s.size) (h8 : s.size ≤ 8) (hs : s.size ≤ 140737488355328) (hat : byt s i = 43 ∨ byt s i = 45) (hb : ∀ j, i < j → j < s.size → byt s j ≠ 43 ∧ byt s j ≠ 45 ∧ byt s j < 128) (w : World) :
    Calls Tryz.prog 20 #[.string s, .string ⟨#[43, 45]⟩] w fun e w' => e = .returned (.int .i64 (i : Nat)) ∧ Below w.heap.size w w' := by
  have HAT := hide' hat
  have HB := hide' hb
  clear hat hb
  have U := hide' (fun w => use_is (s.size : Int) false (by rw [decide_eq_false_iff_not]; omega) w)
  have n1 : ((s.size : Int) == 1) = false := by rw [beq_eq_false_iff_ne]; omega
  have he : ((⟨#[43, 45]⟩ : ByteArray) == ByteArray.empty) = false := by decide
  have hp : (⟨#[43, 45]⟩ : ByteArray).size = 2 := rfl
  go_enter Tryz.func20, Tryz.ntmps20
  go_wp2_with fail
  refine (U.out _).mono ?_
  rintro e w1 ⟨rfl, rfl⟩
  go_wp2
  go_loop [13] (fun v => ∃ k : Nat, i < k ∧ k ≤ s.size ∧ v = .int .i64 (k : Nat)) (fun v => (intOf v).toNat)
  case atStart => exact ⟨s.size, hi, Nat.le_refl _, rfl⟩
  case round =>
    obtain ⟨k, h1, h3, rfl⟩ := hrel
    obtain ⟨m, rfl⟩ : ∃ m, k = m + 1 := ⟨k - 1, by omega⟩
    have hm1 : (0 : Int) < ((m + 1 : Nat) : Int) := by omega
    have hm2 : (((m + 1 : Nat) : Int) ≤ (s.size : Int)) := by omega
    have ee : (s.extract 0 (m + 1)).size = m + 1 := by rw [ByteArray.size_extract]; omega
    have lo : byt s m < 128 := by
      by_cases hmi : m = i
      · rw [hmi]; rcases HAT.out with h | h <;> omega
      · exact (HB.out m (by omega) (by omega)).2.2
    have D := fun w' => last_is (s.extract 0 (m + 1)) m ee (by omega) (by rw [byt_ex h3 (by omega)]; exact lo) w'
    rw [byt_ex h3 (by omega)] at D
    have D1 := hide' D
    have R1 := hide' (fun w' => rune_is (byt s m) lo w')
    by_cases hmi : m = i
    · subst hmi
      obtain ⟨r, hr, hr0⟩ : ∃ r : Int, (if byt s m = 43 then (0 : Int) else if byt s m = 45 then 1 else -1) = r ∧ 0 ≤ r := by
        rcases HAT.out with h | h <;> rw [h]
        · exact ⟨0, rfl, by omega⟩
        · exact ⟨1, rfl, by omega⟩
      rw [hr] at R1
      clear D lo ee hr
      go_wp2_with fail
      refine (D1.out _).mono ?_
      rintro e w1 ⟨rfl, rfl⟩
      go_wp2_with fail
      refine (R1.out _).mono ?_
      rintro e w1 ⟨rfl, rfl⟩
      go_wp2
      go_ret
      exact ⟨by first | rfl | (congr 2; go_num) | (congr 2; omega), Below.refl _ _⟩
    · have hr : (if byt s m = 43 then (0 : Int) else if byt s m = 45 then 1 else -1) = -1 := by
        have := HB.out m (by omega) (by omega)
        rw [if_neg this.1, if_neg this.2.1]
      rw [hr] at R1
      clear D lo ee hr
      go_wp2_with fail
      refine (D1.out _).mono ?_
      rintro e w1 ⟨rfl, rfl⟩
      go_wp2_with fail
      refine (R1.out _).mono ?_
      rintro e w1 ⟨rfl, rfl⟩
      go_wp2
      go_round
      case rel => exact ⟨m, by omega, by omega, by go_num⟩
      case measure => first | (simp [intOf]; done) | (simp [intOf]; omega)
end Go.Proofs.YtkfdgpidhghhdaaGreatDoor

namespace Go.Proofs.YtkfdgpidhghhdaaGreatDoor
open Go.RowKit
set_option linter.unusedVariables false
set_option maxHeartbeats 8000000 in
set_option maxRecDepth 1000000 in
theorem lastAny_long (s : ByteArray) (i : Nat) (hi : i < s.size) (h9 : 8 < s.size) (hs : s.size ≤ 140737488355328) (hat : byt s i = 43 ∨ byt s i = 45) (hb : ∀ j, i < j → j < s.size → byt s j ≠ 43 ∧ byt s j ≠ 45) (w : World) :
    Calls Tryz.prog 20 #[.string s, .string ⟨#[43, 45]⟩] w fun e w' => e = .returned (.int .i64 (i : Nat)) ∧ Below w.heap.size w w' := by
  have HAT := hide' hat
  have HB := hide' hb
  clear hat hb
  have U := hide' (fun w => use_is (s.size : Int) true (by rw [decide_eq_true_eq]; omega) w)
  have M := hide' (mkset_is w)
  have n1 : ((s.size : Int) == 1) = false := by rw [beq_eq_false_iff_ne]; omega
  have he : ((⟨#[43, 45]⟩ : ByteArray) == ByteArray.empty) = false := by decide
  have hsc : (storeCells ⟨w.heap.size + 1, 0, none⟩ setPM.toList 0).run Tryz.prog ((w.alloc (.cells setPM 67)).alloc (.cells (Array.replicate 256 (.bool false)) 67)) = .ok () ((w.alloc (.cells setPM 67)).alloc (.cells setPM 67)) := by
    have := run_storeCells_new (P := Tryz.prog) (w.alloc (.cells setPM 67)) 67 (Array.replicate 256 (.bool false)) setPM (by rw [setPM_one]; exact (zero_of_info Tryz.setZ).2) (by rw [setPM_one, Array.size_replicate]) (Lib.setCells_one _)
    simpa using this
  have hcell : ∀ x : UInt8, ((w.alloc (.cells setPM 67)).alloc (.cells setPM 67)).cell? ⟨w.heap.size + 1, x.toNat, none⟩ = some (.bool (decide (x.toNat = 43) || decide (x.toNat = 45))) := fun x => by
    rw [← pm_has]
    unfold setPM
    rw [World.cell?_alloc_at _ _ _ _ (by simp), Lib.setCells_at]
  have hbel : Below w.heap.size w ((w.alloc (.cells setPM 67)).alloc (.cells setPM 67)) := ((Below.refl _ _).alloc (Nat.le_refl _) _).alloc (by rw [World.size_alloc]; omega) _
  have HC := hide' hcell
  have HL := hide' hbel
  clear hcell hbel
  have hz := setPM_one
  have hv := (zero_of_info Tryz.setZ).1
  go_enter Tryz.func20, Tryz.ntmps20
  go_wp2_with fail
  refine (U.out _).mono ?_
  rintro e w1 ⟨rfl, hw⟩
  rw [hw]
  clear hw
  go_wp2_with fail
  refine M.out.mono ?_
  rintro e w1 ⟨rfl, rfl⟩
  go_wp2_with fail
  clear hsc
  obtain ⟨W, hW⟩ : ∃ W, ((w.alloc (.cells setPM 67)).alloc (.cells setPM 67)) = W := ⟨_, rfl⟩
  rw [hW] at HC HL ⊢
  try go_wp2
  go_loop [8] (fun v => ∃ m : Nat, i ≤ m ∧ m < s.size ∧ v = .int .i64 (m : Nat)) (fun v => (intOf v).toNat)
  case atStart => exact ⟨s.size - 1, by omega, by omega, by go_num⟩
  case round =>
    obtain ⟨m, h1, h2, rfl⟩ := hrel
    have hm0 : ¬ ((m : Int) < 0) := by omega
    have hm1 : (0 : Int) ≤ (m : Int) := by omega
    have hm2 : ((m : Int) < (s.size : Int)) := by omega
    have ek := byt_of h2
    by_cases hmi : m = i
    · subst hmi
      have hv2 : (decide ((s[m]'h2).toNat = 43) || decide ((s[m]'h2).toNat = 45)) = true := by
        rw [← ek]; rcases HAT.out with h | h <;> rw [h] <;> decide
      have H1 := hide' (has_is (w.heap.size + 1) (s[m]'h2) true W (by rw [HC.out, hv2]))
      clear ek hv2
      go_wp2_with fail
      refine H1.out.mono ?_
      rintro e w1 ⟨rfl, rfl⟩
      go_wp2
      go_ret
      exact ⟨rfl, HL.out⟩
    · have hv2 : (decide ((s[m]'h2).toNat = 43) || decide ((s[m]'h2).toNat = 45)) = false := by
        have := HB.out m (by omega) h2
        rw [← ek]
        rw [Bool.or_eq_false_iff, decide_eq_false_iff_not, decide_eq_false_iff_not]
        exact this
      have H1 := hide' (has_is (w.heap.size + 1) (s[m]'h2) false W (by rw [HC.out, hv2]))
      clear ek hv2
      go_wp2_with fail
      refine H1.out.mono ?_
      rintro e w1 ⟨rfl, rfl⟩
      go_wp2
      go_round
      case rel => exact ⟨m - 1, by omega, by omega, by go_num⟩
      case measure => first | (simp [intOf]; done) | (simp [intOf]; omega)
theorem lastAny_is (s : ByteArray) (i : Nat) (hi : i < s.size) (h2 : 2 ≤ s.size) (hs : s.size ≤ 140737488355328) (hat : byt s i = 43 ∨ byt s i = 45) (hb : ∀ j, i < j → j < s.size → byt s j ≠ 43 ∧ byt s j ≠ 45 ∧ byt s j < 128) (w : World) :
    Calls Tryz.prog 20 #[.string s, .string ⟨#[43, 45]⟩] w fun e w' => e = .returned (.int .i64 (i : Nat)) ∧ Below w.heap.size w w' := by
  by_cases h : 8 < s.size
  · exact lastAny_long s i hi h hs hat (fun j h1 h2 => ⟨(hb j h1 h2).1, (hb j h1 h2).2.1⟩) w
  · exact lastAny_short s i hi h2 (by omega) hs hat hb w
end Go.Proofs.YtkfdgpidhghhdaaGreatDoor
