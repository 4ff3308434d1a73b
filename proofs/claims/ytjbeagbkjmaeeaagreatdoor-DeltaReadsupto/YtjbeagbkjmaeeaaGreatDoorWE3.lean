/-
  strings.LastIndexAny of "+-" in a long text.
-/
import Derived.Test.YtjbeagbkjmaeeaaGreatDoorWE1
namespace Go.Proofs.YtjbeagbkjmaeeaaGreatDoor
open Go.RowKit
set_option linter.unusedVariables false
theorem setPM_one : setPM.size = 256 := Lib.setCells_size _
theorem byt_ex {s : ByteArray} {k m : Nat} (hk : k ≤ s.size) (hm : m < k) : byt (s.extract 0 k) m = byt s m := by
  have e : (s.extract 0 k).size = k := by rw [ByteArray.size_extract]; omega
  rw [byt_of (by rw [e]; exact hm), byt_of (by omega)]
  congr 1
  rw [ByteArray.getElem_extract]
  congr 1
  omega
set_option maxHeartbeats 8000000 in
set_option maxRecDepth 1000000 in
theorem lastAny_short (s : ByteArray) (i : Nat) (hi : i < s.size) (h2 : 2 ≤ s.size) (h8 : s.size ≤ 8) (hs : s.size ≤ 140737488355328) (hat : byt s i = 43 ∨ byt s i = 45) (hb : ∀ j, i < j → j < s.size → byt s j ≠ 43 ∧ byt s j ≠ 45 ∧ byt s j < 128) (w : World) :
    Calls Tryz.prog 19 #[.string s, .string ⟨#[43, 45]⟩] w fun e w' => e = .returned (.int .i64 (i : Nat)) ∧ Below w.heap.size w w' := by
  have HAT := hide' hat
  have HB := hide' hb
  clear hat hb
  have U := hide' (fun w => use_is (s.size : Int) false (by rw [decide_eq_false_iff_not]; omega) w)
  have n1 : ((s.size : Int) == 1) = false := by rw [beq_eq_false_iff_ne]; omega
  have he : ((⟨#[43, 45]⟩ : ByteArray) == ByteArray.empty) = false := by decide
  have hp : (⟨#[43, 45]⟩ : ByteArray).size = 2 := rfl
  go_enter Tryz.func19, Tryz.ntmps19
  go_wp2_with fail
  refine (U.out _).mono ?_
  rintro e w1 ⟨rfl, rfl⟩
  go_wp2
  go_loop [13] (fun v => ∃ k : Nat, i < k ∧ k ≤ s.size ∧ v = .int .i64 (k : Nat)) (fun v => (intOf v).toNat)
  case atStart => exact ⟨s.size, hi, Nat.le_refl _, rfl⟩
  case round =>
    obtain ⟨k, h1, h3, rfl⟩ := hrel
    obtain ⟨m, rfl⟩ : ∃ m, k = m + 1 := ⟨k - 1, by omega⟩
    have hm1 : (0 : Int) < ((m + 1 : Nat) : Int) := by omega
    have hm2 : (((m + 1 : Nat) : Int) ≤ (s.size : Int)) := by omega
    have ee : (s.extract 0 (m + 1)).size = m + 1 := by rw [ByteArray.size_extract]; omega
    have lo : byt s m < 128 := by
      by_cases hmi : m = i
      · rw [hmi]; rcases HAT.out with h | h <;> omega
      · exact (HB.out m (by omega) (by omega)).2.2
    have D := fun w' => last_is (s.extract 0 (m + 1)) m ee (by omega) (by rw [byt_ex h3 (by omega)]; exact lo) w'
    rw [byt_ex h3 (by omega)] at D
    have D1 := hide' D
    have R1 := hide' (fun w' => rune_is (byt s m) lo w')
    by_cases hmi : m = i
    · subst hmi
      obtain ⟨r, hr, hr0⟩ : ∃ r : Int, (if byt s m = 43 then (0 : Int) else if byt s m = 45 then 1 else -1) = r ∧ 0 ≤ r := by
        rcases HAT.out with h | h <;> rw [h]
        · exact ⟨0, rfl, by omega⟩
        · exact ⟨1, rfl, by omega⟩
      rw [hr] at R1
      clear D lo ee hr
      go_wp2_with fail
      refine (D1.out _).mono ?_
      rintro e w1 ⟨rfl, rfl⟩
      go_wp2_with fail
      refine (R1.out _).mono ?_
      rintro e w1 ⟨rfl, rfl⟩
      go_wp2
      go_ret
      exact ⟨by first | rfl | (congr 2; go_num) | (congr 2; omega), Below.refl _ _⟩
    · have hr : (if byt s m = 43 then (0 : Int) else if byt s m = 45 then 1 else -1) = -1 := by
        have := HB.out m (by omega) (by omega)
        rw [if_neg this.1, if_neg this.2.1]
      rw [hr] at R1
      clear D lo ee hr
      go_wp2_with fail
      refine (D1.out _).mono ?_
      rintro e w1 ⟨rfl, rfl⟩
      go_wp2_with fail
      refine (R1.out _).mono ?_
      rintro e w1 ⟨rfl, rfl⟩
      go_wp2
      go_round
      case rel => exact ⟨m, by omega, by omega, by go_num⟩
      case measure => first | (simp [intOf]; done) | (simp [intOf]; omega)
end Go.Proofs.YtjbeagbkjmaeeaaGreatDoor

namespace Go.Proofs.YtjbeagbkjmaeeaaGreatDoor
open Go.RowKit
set_option linter.unusedVariables false
set_option maxHeartbeats 8000000 in
set_option maxRecDepth 1000000 in
theorem lastAny_long (s : ByteArray) (i : Nat) (hi : i < s.size) (h9 : 8 < s.size) (hs : s.size ≤ 140737488355328) (hat : byt s i = 43 ∨ byt s i = 45) (hb : ∀ j, i < j → j < s.size → byt s j ≠ 43 ∧ byt s j ≠ 45) (w : World) :
    Calls Tryz.prog 19 #[.string s, .string ⟨#[43, 45]⟩] w fun e w' => e = .returned (.int .i64 (i : Nat)) ∧ Below w.heap.size w w' := by
  have HAT := hide' hat
  have HB := hide' hb
  clear hat hb
  have U := hide' (fun w => use_is (s.size : Int) true (by rw [decide_eq_true_eq]; omega) w)
  have M := hide' (mkset_is w)
  have n1 : ((s.size : Int) == 1) = false := by rw [beq_eq_false_iff_ne]; omega
  have he : ((⟨#[43, 45]⟩ : ByteArray) == ByteArray.empty) = false := by decide
  have hsc : (storeCells ⟨w.heap.size + 1, 0, none⟩ setPM.toList 0).run Tryz.prog ((w.alloc (.cells setPM 67)).alloc (.cells (Array.replicate 256 (.bool false)) 67)) = .ok () ((w.alloc (.cells setPM 67)).alloc (.cells setPM 67)) := by
    have := run_storeCells_new (P := Tryz.prog) (w.alloc (.cells setPM 67)) 67 (Array.replicate 256 (.bool false)) setPM (by rw [setPM_one]; exact (zero_of_info Tryz.setZ).2) (by rw [setPM_one, Array.size_replicate]) (Lib.setCells_one _)
    simpa using this
  have hcell : ∀ x : UInt8, ((w.alloc (.cells setPM 67)).alloc (.cells setPM 67)).cell? ⟨w.heap.size + 1, x.toNat, none⟩ = some (.bool (decide (x.toNat = 43) || decide (x.toNat = 45))) := fun x => by
    rw [← pm_has]
    unfold setPM
    rw [World.cell?_alloc_at _ _ _ _ (by simp), Lib.setCells_at]
  have hbel : Below w.heap.size w ((w.alloc (.cells setPM 67)).alloc (.cells setPM 67)) := ((Below.refl _ _).alloc (Nat.le_refl _) _).alloc (by rw [World.size_alloc]; omega) _
  have HC := hide' hcell
  have HL := hide' hbel
  clear hcell hbel
  have hz := setPM_one
  have hv := (zero_of_info Tryz.setZ).1
  go_enter Tryz.func19, Tryz.ntmps19
  go_wp2_with fail
  refine (U.out _).mono ?_
  rintro e w1 ⟨rfl, hw⟩
  rw [hw]
  clear hw
  go_wp2_with fail
  refine M.out.mono ?_
  rintro e w1 ⟨rfl, rfl⟩
  go_wp2_with fail
  clear hsc
  obtain ⟨W, hW⟩ : ∃ W, ((w.alloc (.cells setPM 67)).alloc (.cells setPM 67)) = W := ⟨_, rfl⟩
  rw [hW] at HC HL ⊢
  try go_wp2
  go_loop [8] (fun v => ∃ m : Nat, i ≤ m ∧ m < s.size ∧ v = .int .i64 (m : Nat)) (fun v => (intOf v).toNat)
  case atStart => exact ⟨s.size - 1, by omega, by omega, by go_num⟩
  case round =>
    obtain ⟨m, h1, h2, rfl⟩ := hrel
    have hm0 : ¬ ((m : Int) < 0) := by omega
    have hm1 : (0 : Int) ≤ (m : Int) := by omega
    have hm2 : ((m : Int) < (s.size : Int)) := by omega
    have ek := byt_of h2
    by_cases hmi : m = i
    · subst hmi
      have hv2 : (decide ((s[m]'h2).toNat = 43) || decide ((s[m]'h2).toNat = 45)) = true := by
        rw [← ek]; rcases HAT.out with h | h <;> rw [h] <;> decide
      have H1 := hide' (has_is (w.heap.size + 1) (s[m]'h2) true W (by rw [HC.out, hv2]))
      clear ek hv2
      go_wp2_with fail
      refine H1.out.mono ?_
      rintro e w1 ⟨rfl, rfl⟩
      go_wp2
      go_ret
      exact ⟨rfl, HL.out⟩
    · have hv2 : (decide ((s[m]'h2).toNat = 43) || decide ((s[m]'h2).toNat = 45)) = false := by
        have := HB.out m (by omega) h2
        rw [← ek]
        rw [Bool.or_eq_false_iff, decide_eq_false_iff_not, decide_eq_false_iff_not]
        exact this
      have H1 := hide' (has_is (w.heap.size + 1) (s[m]'h2) false W (by rw [HC.out, hv2]))
      clear ek hv2
      go_wp2_with fail
      refine H1.out.mono ?_
      rintro e w1 ⟨rfl, rfl⟩
      go_wp2
      go_round
      case rel => exact ⟨m - 1, by omega, by omega, by go_num⟩
      case measure => first | (simp [intOf]; done) | (simp [intOf]; omega)
theorem lastAny_is (s : ByteArray) (i : Nat) (hi : i < s.size) (h2 : 2 ≤ s.size) (hs : s.size ≤ 140737488355328) (hat : byt s i = 43 ∨ byt s i = 45) (hb : ∀ j, i < j → j < s.size → byt s j ≠ 43 ∧ byt s j ≠ 45 ∧ byt s j < 128) (w : World) :
    Calls Tryz.prog 19 #[.string s, .string ⟨#[43, 45]⟩] w fun e w' => e = .returned (.int .i64 (i : Nat)) ∧ Below w.heap.size w w' := by
  by_cases h : 8 < s.size
  · exact lastAny_long s i hi h hs hat (fun j h1 h2 => ⟨(hb j h1 h2).1, (hb j h1 h2).2.1⟩) w
  · exact lastAny_short s i hi h2 (by omega) hs hat hb w
end Go.Proofs.YtjbeagbkjmaeeaaGreatDoor
