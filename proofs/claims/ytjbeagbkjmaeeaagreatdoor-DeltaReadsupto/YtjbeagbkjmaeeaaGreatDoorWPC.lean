/-
  ratio.Parse reads what ratio.Text writes.
-/
import Derived.Test.YtjbeagbkjmaeeaaGreatDoorNumT
import Derived.Test.YtjbeagbkjmaeeaaGreatDoorW8
import Derived.Test.YtjbeagbkjmaeeaaGreatDoorWI1
import Derived.Lib.Bytealg
import Derived.Lib.IndexLaws
import Derived.Test.YtjbeagbkjmaeeaaGreatDoorWU1
import Derived.Lib.Strings
import Derived.Test.YtjbeagbkjmaeeaaGreatDoorWT6
import Derived.Test.YtjbeagbkjmaeeaaGreatDoorWTD
import Derived.Test.YtjbeagbkjmaeeaaGreatDoorWUA
import Derived.Test.YtjbeagbkjmaeeaaGreatDoorWQ2
import Derived.Test.YtjbeagbkjmaeeaaGreatDoorWQA
import Derived.Test.YtjbeagbkjmaeeaaGreatDoorW5
import Derived.Test.YtjbeagbkjmaeeaaGreatDoorWBk
import Derived.Test.YtjbeagbkjmaeeaaGreatDoorWX2
namespace Go.Proofs.YtjbeagbkjmaeeaaGreatDoor
open Go.RowKit
set_option linter.unusedVariables false
set_option linter.unusedSimpArgs false

theorem indexByte_room : ∀ (l : List UInt8) (c : UInt8) (i : Nat), Lib.indexByte l c = (i : Int) → i < l.length
  | [], c, i, h => by simp [Lib.indexByte] at h
  | b :: l, c, i, h => by
    unfold Lib.indexByte at h
    split at h
    · simp only [List.length_cons]; omega
    · split at h
      · omega
      · have hge := Lib.indexByte_ge l c
        rename_i h1 h2
        have h3 : Lib.indexByte l c ≠ -1 := by simpa using h2
        have := indexByte_room l c (i - 1) (by omega)
        simp only [List.length_cons]
        omega
theorem indexByte_is {s : ByteArray} {c i : Nat} (hc : c < 256) (hi : i < s.size) (h1 : byt s i = c) (h2 : ∀ k, k < i → byt s k ≠ c) : Lib.indexByte s.data.toList c.toUInt8 = (i : Int) := by
  have hget : ∀ k (hk : k < s.size), s.data.toList[k]? = some s[k] := fun k hk => by
    rw [List.getElem?_eq_getElem (by simpa using hk)]
    simp
    rfl
  have hge := Lib.indexByte_ge s.data.toList c.toUInt8
  by_cases hn : Lib.indexByte s.data.toList c.toUInt8 = -1
  · exfalso
    refine Lib.indexByte_none hn i ?_
    rw [hget i hi]
    congr 1
    rw [byt_of hi] at h1
    apply UInt8.toNat.inj
    rw [h1]
    simp [Nat.toUInt8, UInt8.toNat_ofNat]
    omega
  · obtain ⟨j, hj⟩ : ∃ j : Nat, Lib.indexByte s.data.toList c.toUInt8 = (j : Int) := ⟨(Lib.indexByte s.data.toList c.toUInt8).toNat, by omega⟩
    have hjr := indexByte_room _ _ _ hj
    have hjs : j < s.size := by simpa using hjr
    obtain ⟨k1, k2⟩ := Lib.indexByte_some hj
    rw [hget j hjs] at k1
    have e1 : byt s j = c := by
      rw [byt_of hjs, Option.some.inj k1]
      simp [Nat.toUInt8, UInt8.toNat_ofNat]
      omega
    rcases Nat.lt_trichotomy i j with h | h | h
    · exfalso
      refine k2 i h ?_
      rw [hget i hi]
      congr 1
      rw [byt_of hi] at h1
      apply UInt8.toNat.inj
      rw [h1]
      simp [Nat.toUInt8, UInt8.toNat_ofNat]
      omega
    · rw [hj, h]
    · exact absurd e1 (h2 j h)
theorem indexByte_not {s : ByteArray} {c : Nat} (hc : c < 256) (h2 : ∀ k, k < s.size → byt s k ≠ c) : Lib.indexByte s.data.toList c.toUInt8 = -1 := by
  have hget : ∀ k (hk : k < s.size), s.data.toList[k]? = some s[k] := fun k hk => by
    rw [List.getElem?_eq_getElem (by simpa using hk)]
    simp
    rfl
  have hge := Lib.indexByte_ge s.data.toList c.toUInt8
  by_cases hn : Lib.indexByte s.data.toList c.toUInt8 = -1
  · exact hn
  · exfalso
    obtain ⟨j, hj⟩ : ∃ j : Nat, Lib.indexByte s.data.toList c.toUInt8 = (j : Int) := ⟨(Lib.indexByte s.data.toList c.toUInt8).toNat, by omega⟩
    have hjr := indexByte_room _ _ _ hj
    have hjs : j < s.size := by simpa using hjr
    obtain ⟨k1, k2⟩ := Lib.indexByte_some hj
    rw [hget j hjs] at k1
    refine h2 j hjs ?_
    rw [byt_of hjs, Option.some.inj k1]
    simp [Nat.toUInt8, UInt8.toNat_ofNat]
    omega

set_option maxRecDepth 100000 in
theorem indexByte_47 (s : ByteArray) (j : Int) (hj : Lib.indexByte s.data.toList (47 : Nat).toUInt8 = j) (w : World) : Calls Tryz.prog 96 #[.string s, .int .u8 47] w fun e w' => e = .returned (.int .i64 j) ∧ w' = w := by
  subst hj
  go_enter Tryz.func96, Tryz.ntmps96
  go_wp2
  rw [run_callFunc_extern Tryz.func121 (by kernel_rfl) (by kernel_rfl) (by kernel_rfl) (e := Extern.BytealgIndexByte.indexByte) (by kernel_rfl), Lib.run_indexByteString]
  simp only [Result.andThen]
  rw [Oper.upon_value]
  go_wp2
  go_ret
  exact ⟨rfl, rfl⟩
set_option maxRecDepth 100000 in
theorem index_47 (s : ByteArray) (j : Int) (hj : Lib.indexByte s.data.toList (47 : Nat).toUInt8 = j) (w : World) : Calls Tryz.prog 98 #[.string s, .string ⟨#[47]⟩] w fun e w' => e = .returned (.int .i64 j) ∧ w' = w := by
  have h2 : (⟨#[47]⟩ : ByteArray).size = 1 := rfl
  have HI := hide' (indexByte_47 s j hj)
  by_cases h3 : ([47] == s.toList) = true
  · have h4 : s.data.toList = [47] := by rw [← ByteArray.toList_eq]; exact (eq_of_beq h3).symm
    have h5 : j = 0 := by rw [← hj, h4]; decide
    subst h5
    clear HI hj h4
    go_enter Tryz.func98, Tryz.ntmps98
    go_wp2
    go_ret
    exact ⟨rfl, rfl⟩
  · have h4 : ([47] == s.toList) = false := by simpa using h3
    clear h3 hj
    go_enter Tryz.func98, Tryz.ntmps98
    go_wp2_with fail
    refine (HI.out _).mono ?_
    rintro e w1 ⟨rfl, rfl⟩
    go_wp2
    go_ret
    exact ⟨rfl, rfl⟩
set_option maxRecDepth 100000 in
theorem cut1_47_hit (s : ByteArray) (i : Nat) (hi : i < s.size) (hj : Lib.indexByte s.data.toList (47 : Nat).toUInt8 = (i : Int)) (hs : s.size ≤ 140737488355328) (w : World) : Calls Tryz.prog 76 #[.string s, .string ⟨#[47]⟩] w fun e w' => e = .returned (.tuple #[.string (s.extract 0 i), .string (s.extract (i + 1) s.size), .bool true]) ∧ Dr w w' := by
  have h2 : (⟨#[47]⟩ : ByteArray).size = 1 := rfl
  have HI := hide' (index_47 s _ hj)
  have i1 : (i : Int) ≤ (s.size : Int) := by omega
  have i2 : (i : Int) + 1 ≤ (s.size : Int) := by omega
  have i3 : i + 1 ≤ s.size := hi
  have i4 : i ≤ s.size := by omega
  clear hj
  go_enter Tryz.func76, Tryz.ntmps76
  go_wp2_with fail
  refine (HI.out _).mono ?_
  rintro e w1 ⟨rfl, rfl⟩
  go_wp2_with fail
  go_quiet (fail)
  go_wp2
  go_ret3
  exact ⟨rfl, ⟨_, rfl⟩⟩
set_option maxRecDepth 100000 in
theorem cut_47_hit (s : ByteArray) (i : Nat) (hi : i < s.size) (hj : Lib.indexByte s.data.toList (47 : Nat).toUInt8 = (i : Int)) (hs : s.size ≤ 140737488355328) (w : World) : Calls Tryz.prog 44 #[.string s, .string ⟨#[47]⟩] w fun e w' => e = .returned (.tuple #[.string (s.extract 0 i), .string (s.extract (i + 1) s.size), .bool true]) ∧ Dr w w' := by
  have HI := hide' (cut1_47_hit s i hi hj hs w)
  clear hj
  go_enter Tryz.func44, Tryz.ntmps44
  go_wp2_with fail
  refine HI.out.mono ?_
  rintro e w1 ⟨rfl, hd⟩
  go_wp2
  go_ret3
  exact ⟨rfl, hd⟩
set_option maxRecDepth 100000 in
theorem cut1_47_miss (s : ByteArray) (hj : Lib.indexByte s.data.toList (47 : Nat).toUInt8 = -1) (w : World) : Calls Tryz.prog 76 #[.string s, .string ⟨#[47]⟩] w fun e w' => e = .returned (.tuple #[.string s, .string ByteArray.empty, .bool false]) ∧ Dr w w' := by
  have h2 : (⟨#[47]⟩ : ByteArray).size = 1 := rfl
  have HI := hide' (index_47 s _ hj)
  clear hj
  go_enter Tryz.func76, Tryz.ntmps76
  go_wp2_with fail
  refine (HI.out _).mono ?_
  rintro e w1 ⟨rfl, rfl⟩
  go_wp2_with fail
  go_wp2
  go_ret3
  exact ⟨rfl, ⟨0, rfl⟩⟩
set_option maxRecDepth 100000 in
theorem cut_47_miss (s : ByteArray) (hj : Lib.indexByte s.data.toList (47 : Nat).toUInt8 = -1) (w : World) : Calls Tryz.prog 44 #[.string s, .string ⟨#[47]⟩] w fun e w' => e = .returned (.tuple #[.string s, .string ByteArray.empty, .bool false]) ∧ Dr w w' := by
  have HI := hide' (cut1_47_miss s hj w)
  clear hj
  go_enter Tryz.func44, Tryz.ntmps44
  go_wp2_with fail
  refine HI.out.mono ?_
  rintro e w1 ⟨rfl, hd⟩
  go_wp2
  go_ret3
  exact ⟨rfl, hd⟩
set_option maxRecDepth 100000 in
theorem indexByte_46 (s : ByteArray) (j : Int) (hj : Lib.indexByte s.data.toList (46 : Nat).toUInt8 = j) (w : World) : Calls Tryz.prog 96 #[.string s, .int .u8 46] w fun e w' => e = .returned (.int .i64 j) ∧ w' = w := by
  subst hj
  go_enter Tryz.func96, Tryz.ntmps96
  go_wp2
  rw [run_callFunc_extern Tryz.func121 (by kernel_rfl) (by kernel_rfl) (by kernel_rfl) (e := Extern.BytealgIndexByte.indexByte) (by kernel_rfl), Lib.run_indexByteString]
  simp only [Result.andThen]
  rw [Oper.upon_value]
  go_wp2
  go_ret
  exact ⟨rfl, rfl⟩
set_option maxRecDepth 100000 in
theorem index_46 (s : ByteArray) (j : Int) (hj : Lib.indexByte s.data.toList (46 : Nat).toUInt8 = j) (w : World) : Calls Tryz.prog 98 #[.string s, .string ⟨#[46]⟩] w fun e w' => e = .returned (.int .i64 j) ∧ w' = w := by
  have h2 : (⟨#[46]⟩ : ByteArray).size = 1 := rfl
  have HI := hide' (indexByte_46 s j hj)
  by_cases h3 : ([46] == s.toList) = true
  · have h4 : s.data.toList = [46] := by rw [← ByteArray.toList_eq]; exact (eq_of_beq h3).symm
    have h5 : j = 0 := by rw [← hj, h4]; decide
    subst h5
    clear HI hj h4
    go_enter Tryz.func98, Tryz.ntmps98
    go_wp2
    go_ret
    exact ⟨rfl, rfl⟩
  · have h4 : ([46] == s.toList) = false := by simpa using h3
    clear h3 hj
    go_enter Tryz.func98, Tryz.ntmps98
    go_wp2_with fail
    refine (HI.out _).mono ?_
    rintro e w1 ⟨rfl, rfl⟩
    go_wp2
    go_ret
    exact ⟨rfl, rfl⟩
set_option maxRecDepth 100000 in
theorem cut1_46_hit (s : ByteArray) (i : Nat) (hi : i < s.size) (hj : Lib.indexByte s.data.toList (46 : Nat).toUInt8 = (i : Int)) (hs : s.size ≤ 140737488355328) (w : World) : Calls Tryz.prog 76 #[.string s, .string ⟨#[46]⟩] w fun e w' => e = .returned (.tuple #[.string (s.extract 0 i), .string (s.extract (i + 1) s.size), .bool true]) ∧ Dr w w' := by
  have h2 : (⟨#[46]⟩ : ByteArray).size = 1 := rfl
  have HI := hide' (index_46 s _ hj)
  have i1 : (i : Int) ≤ (s.size : Int) := by omega
  have i2 : (i : Int) + 1 ≤ (s.size : Int) := by omega
  have i3 : i + 1 ≤ s.size := hi
  have i4 : i ≤ s.size := by omega
  clear hj
  go_enter Tryz.func76, Tryz.ntmps76
  go_wp2_with fail
  refine (HI.out _).mono ?_
  rintro e w1 ⟨rfl, rfl⟩
  go_wp2_with fail
  go_quiet (fail)
  go_wp2
  go_ret3
  exact ⟨rfl, ⟨_, rfl⟩⟩
set_option maxRecDepth 100000 in
theorem cut_46_hit (s : ByteArray) (i : Nat) (hi : i < s.size) (hj : Lib.indexByte s.data.toList (46 : Nat).toUInt8 = (i : Int)) (hs : s.size ≤ 140737488355328) (w : World) : Calls Tryz.prog 44 #[.string s, .string ⟨#[46]⟩] w fun e w' => e = .returned (.tuple #[.string (s.extract 0 i), .string (s.extract (i + 1) s.size), .bool true]) ∧ Dr w w' := by
  have HI := hide' (cut1_46_hit s i hi hj hs w)
  clear hj
  go_enter Tryz.func44, Tryz.ntmps44
  go_wp2_with fail
  refine HI.out.mono ?_
  rintro e w1 ⟨rfl, hd⟩
  go_wp2
  go_ret3
  exact ⟨rfl, hd⟩
set_option maxRecDepth 100000 in
theorem cut1_46_miss (s : ByteArray) (hj : Lib.indexByte s.data.toList (46 : Nat).toUInt8 = -1) (w : World) : Calls Tryz.prog 76 #[.string s, .string ⟨#[46]⟩] w fun e w' => e = .returned (.tuple #[.string s, .string ByteArray.empty, .bool false]) ∧ Dr w w' := by
  have h2 : (⟨#[46]⟩ : ByteArray).size = 1 := rfl
  have HI := hide' (index_46 s _ hj)
  clear hj
  go_enter Tryz.func76, Tryz.ntmps76
  go_wp2_with fail
  refine (HI.out _).mono ?_
  rintro e w1 ⟨rfl, rfl⟩
  go_wp2_with fail
  go_wp2
  go_ret3
  exact ⟨rfl, ⟨0, rfl⟩⟩
set_option maxRecDepth 100000 in
theorem cut_46_miss (s : ByteArray) (hj : Lib.indexByte s.data.toList (46 : Nat).toUInt8 = -1) (w : World) : Calls Tryz.prog 44 #[.string s, .string ⟨#[46]⟩] w fun e w' => e = .returned (.tuple #[.string s, .string ByteArray.empty, .bool false]) ∧ Dr w w' := by
  have HI := hide' (cut1_46_miss s hj w)
  clear hj
  go_enter Tryz.func44, Tryz.ntmps44
  go_wp2_with fail
  refine HI.out.mono ?_
  rintro e w1 ⟨rfl, hd⟩
  go_wp2
  go_ret3
  exact ⟨rfl, hd⟩
end Go.Proofs.YtjbeagbkjmaeeaaGreatDoor

namespace Go.Proofs.YtjbeagbkjmaeeaaGreatDoor
open Go.RowKit
set_option linter.unusedVariables false

theorem dgt_tvr {b D j : Nat} {f : Nat → Nat} (hb : 2 ≤ b) (hf : ∀ k, k < D → f k < b) (hj : j < D) : dgt b (tvr b f 0 D) D j = f j := by
  have e : D = (j + 1) + (D - 1 - j) := by omega
  have hs := tvr_split b f 0 (j + 1) (D - 1 - j)
  rw [← e] at hs
  have hr : tvr b f (0 + (j + 1)) (D - 1 - j) < b ^ (D - 1 - j) := tvr_lt fun n hn => hf _ (by omega)
  unfold dgt
  rw [hs, Nat.add_comm, Nat.add_mul_div_right _ _ (Nat.pow_pos (by omega)), Nat.div_eq_of_lt hr, Nat.zero_add, tvr, Nat.zero_add, Nat.add_comm, Nat.add_mul_mod_self_right]
  exact Nat.mod_eq_of_lt (hf j hj)
/-- a text is the text of its value -/
theorem isT.isTx {b : Nat} {t : ByteArray} (hb0 : 2 ≤ b) (hb : b ≤ 16) (h : isT b t) : isTx b (Proofs.YtjbeagbkjmaeeaaGreatDoor.val b t) t := by
  have hd : ∀ j, j < t.size → dgt b (Proofs.YtjbeagbkjmaeeaaGreatDoor.val b t) t.size j = dval (byt t j) := fun j hj => dgt_tvr (f := fun k => dval (byt t k)) hb0 (fun k hk => h.2.2 k hk) hj
  refine ⟨h.1, val_lt h.2.2, ?_, fun j hj => ?_⟩
  · by_cases h1 : t.size = 1
    · exact .inl h1
    · right
      have hz : dgt b (Proofs.YtjbeagbkjmaeeaaGreatDoor.val b t) t.size 0 ≠ 0 := by
        rw [hd 0 h.1]
        intro e
        have h48 := h.2.1 (by have := h.1; omega)
        have h2 : dval (byt t 0) < 16 := Nat.lt_of_lt_of_le (h.2.2 0 h.1) hb
        have := dch_dval h2
        rw [e] at this
        exact h48 this.symm
      have := lead_le hz
      rw [Nat.sub_zero] at this
      exact this
  · rw [hd j hj, dch_dval (Nat.lt_of_lt_of_le (h.2.2 j hj) hb)]
theorem pre_eq {s : ByteArray} (h : 0 < s.size) : ((s.extract 0 1).toList == [45]) = decide (byt s 0 = 45) := by
  rw [Lib.extract_toList, byt_of h]
  have e : s.data.toList.drop 0 = s.data.toList := rfl
  rw [e, Nat.sub_zero]
  cases hl : s.data.toList with
  | nil =>
    have h1 : s.size = s.data.toList.length := by rw [Array.length_toList]; rfl
    rw [hl] at h1
    have h2 : s.size = 0 := h1
    omega
  | cons x l =>
    have hx : s[0]'h = x := by
      have h1 : s.data.toList[0]? = some x := by rw [hl]; rfl
      have h2 : s.data[0]? = some x := by simpa using h1
      exact (Array.getElem?_eq_some_iff.1 h2).2
    rw [hx]
    have : List.take 1 (x :: l) = [x] := rfl
    rw [this]
    by_cases e : x = 45
    · subst e; rfl
    · have e2 : ¬ (x.toNat = 45) := fun h => e (UInt8.toNat_inj.1 h)
      rw [decide_eq_false e2]
      simp [e]
end Go.Proofs.YtjbeagbkjmaeeaaGreatDoor

namespace Go.Proofs.YtjbeagbkjmaeeaaGreatDoor
open Go.RowKit
set_option linter.unusedVariables false

set_option maxHeartbeats 1000000 in
theorem cutMinus_yes (s : ByteArray) (w : World) (h : 0 < s.size) (hm : byt s 0 = 45) : Calls Tryz.prog 21 #[.string s, .string ⟨#[45]⟩] w fun e w' => e = .returned (.tuple #[.string (s.extract 1 s.size), .bool true]) ∧ w' = w := by
  have h1 : (⟨#[45]⟩ : ByteArray).size = 1 := rfl
  have hp := pre_eq h
  rw [decide_eq_true hm] at hp
  have hi : (1 : Int) ≤ (s.size : Int) := by omega
  have hi2 : 1 ≤ s.size := h
  have H1 : ∀ w, Calls Tryz.prog 75 #[.string s, .string ⟨#[45]⟩] w fun e w' => e = .returned (.bool true) ∧ w' = w := fun w => by
    go_enter Tryz.func75, Tryz.ntmps75
    go_wp2
    go_ret
    exact ⟨rfl, rfl⟩
  have H2 : ∀ w, Calls Tryz.prog 43 #[.string s, .string ⟨#[45]⟩] w fun e w' => e = .returned (.tuple #[.string (s.extract 1 s.size), .bool true]) ∧ w' = w := fun w => by
    go_enter Tryz.func43, Tryz.ntmps43
    go_wp2_with fail
    refine (H1 _).mono ?_
    rintro e w1 ⟨rfl, rfl⟩
    go_wp2
    go_ret2
    exact ⟨rfl, rfl⟩
  go_enter Tryz.func21, Tryz.ntmps21
  go_wp2_with fail
  refine (H2 _).mono ?_
  rintro e w1 ⟨rfl, rfl⟩
  go_wp2
  go_ret2
  exact ⟨rfl, rfl⟩
set_option maxHeartbeats 1000000 in
theorem cutMinus_no (s : ByteArray) (w : World) (hm : ¬ (0 < s.size ∧ byt s 0 = 45)) : Calls Tryz.prog 21 #[.string s, .string ⟨#[45]⟩] w fun e w' => e = .returned (.tuple #[.string s, .bool false]) ∧ w' = w := by
  have h1 : (⟨#[45]⟩ : ByteArray).size = 1 := rfl
  have H1 : ∀ w, Calls Tryz.prog 75 #[.string s, .string ⟨#[45]⟩] w fun e w' => e = .returned (.bool false) ∧ w' = w := fun w => by
    by_cases h : 0 < s.size
    · have hp := pre_eq h
      rw [decide_eq_false (fun e => hm ⟨h, e⟩)] at hp
      have hi : (1 : Int) ≤ (s.size : Int) := by omega
      have hi2 : 1 ≤ s.size := h
      go_enter Tryz.func75, Tryz.ntmps75
      go_wp2
      go_ret
      exact ⟨rfl, rfl⟩
    · have hi : ¬ ((1 : Int) ≤ (s.size : Int)) := by omega
      have hi2 : decide ((1 : Int) ≤ (s.size : Int)) = false := by rw [decide_eq_false_iff_not]; omega
      have hi3 : (s.size : Int) < 1 := by omega
      have hi4 : ¬ (1 ≤ s.size) := by omega
      have hi5 : s.size = 0 := by omega
      go_enter Tryz.func75, Tryz.ntmps75
      go_wp2
      go_ret
      exact ⟨rfl, rfl⟩
  have H2 : ∀ w, Calls Tryz.prog 43 #[.string s, .string ⟨#[45]⟩] w fun e w' => e = .returned (.tuple #[.string s, .bool false]) ∧ w' = w := fun w => by
    go_enter Tryz.func43, Tryz.ntmps43
    go_wp2_with fail
    refine (H1 _).mono ?_
    rintro e w1 ⟨rfl, rfl⟩
    go_wp2
    go_ret2
    exact ⟨rfl, rfl⟩
  go_enter Tryz.func21, Tryz.ntmps21
  go_wp2_with fail
  refine (H2 _).mono ?_
  rintro e w1 ⟨rfl, rfl⟩
  go_wp2
  go_ret2
  exact ⟨rfl, rfl⟩
end Go.Proofs.YtjbeagbkjmaeeaaGreatDoor

namespace Go.Proofs.YtjbeagbkjmaeeaaGreatDoor
open Go.RowKit
set_option linter.unusedVariables false
set_option linter.unusedSimpArgs false

theorem isTx.digit {X : Nat} {t : ByteArray} (h : isTx 10 X t) : ∀ j, j < t.size → 48 ≤ byt t j ∧ byt t j ≤ 57 := by
  intro j hj
  rw [h.2.2.2 j hj]
  have h1 : dgt 10 X t.size j < 10 := Nat.mod_lt _ (by omega)
  generalize dgt 10 X t.size j = d at h1
  match d, h1 with
  | 0, _ | 1, _ | 2, _ | 3, _ | 4, _ | 5, _ | 6, _ | 7, _ | 8, _ | 9, _ => decide
theorem byt_appL {a b : ByteArray} {k : Nat} (h : k < a.size) : byt (a ++ b) k = byt a k := by
  rw [byt_of h, byt_of (by rw [ByteArray.size_append]; omega), ByteArray.getElem_append_left h]
theorem size_one (c : UInt8) : (⟨#[c]⟩ : ByteArray).size = 1 := rfl
theorem frac_size (t1 t2 : ByteArray) (c : UInt8) : (t1 ++ ⟨#[c]⟩ ++ t2).size = t1.size + 1 + t2.size := by
  rw [ByteArray.size_append, ByteArray.size_append, size_one]
theorem byt_mid (t1 t2 : ByteArray) (c : UInt8) : byt (t1 ++ ⟨#[c]⟩ ++ t2) t1.size = c.toNat := by
  rw [byt_appL (by rw [ByteArray.size_append, size_one]; omega), byt_of (by rw [ByteArray.size_append, size_one]; omega), ByteArray.getElem_append_right (by omega)]
  simp
  rfl
theorem frac_left (t1 t2 : ByteArray) (c : UInt8) : (t1 ++ ⟨#[c]⟩ ++ t2).extract 0 t1.size = t1 := by
  apply ByteArray.ext
  simp [ByteArray.data_extract, ByteArray.data_append]
theorem frac_right (t1 t2 : ByteArray) (c : UInt8) : (t1 ++ ⟨#[c]⟩ ++ t2).extract (t1.size + 1) (t1 ++ ⟨#[c]⟩ ++ t2).size = t2 := by
  rw [frac_size]
  apply ByteArray.ext
  have e1 : (t1.data.push c).extract (t1.size + 1) (t1.size + 1 + t2.size) = #[] := by
    apply Array.extract_empty_of_size_le_start
    rw [Array.size_push]
    exact Nat.le_refl _
  have e2 : t2.data.extract 0 t2.size = t2.data := by rw [show t2.size = t2.data.size from rfl, Array.extract_size]
  simp [ByteArray.data_extract, ByteArray.data_append]
  rw [e1, e2]
  simp

set_option maxHeartbeats 1000000 in
theorem quotient_any (t1 t2 : ByteArray) (X Y : Nat) (w : World) (h : Digs w) (h1 : isT 10 t1) (h2 : isT 10 t2) (e1 : val 10 t1 = X) (e2 : val 10 t2 = Y) (s1 : t1.size ≤ 140737488355328) (s2 : t2.size ≤ 140737488355328) (hY : Y ≠ 0) (lY : ln Y ≤ 70368744177664) :
    Calls Tryz.prog 45 #[.string t1, .string t2] w fun e w' => ∃ p q, e = .returned (.tuple #[.slice p (ln X) (ln X), .slice q (ln Y) (ln Y), .int .i64 0]) ∧ New w w' p X (ln X) ∧ New w w' q Y (ln Y) := by
  have P2 := Parse_ok t1 10 (by omega) (by omega) s1 h1 w h
  have P4 := fun w' (k : Digs w') => Parse_ok t2 10 (by omega) (by omega) s2 h2 w' k
  rw [e1] at P2
  rw [e2] at P4
  have hb : (((bl Y : Nat) : Int) == 0) = false := by rw [bl_beq]; simpa using hY
  have Q2 := hide' P2
  have Q4 := hide' P4
  have HD := hide' h
  clear P2 P4 h h1 h2 e1 e2
  go_enter Tryz.func45, Tryz.ntmps45
  go_wp2_with fail
  refine Q2.out.mono ?_
  rintro e w1 ⟨a1, rfl, h1⟩
  go_wp2_with fail
  refine (Q4.out _ (HD.out.below h1.below)).mono ?_
  rintro e w2 ⟨a2, rfl, h2⟩
  have g1 := h1.later h2.below
  have g2 := h2.back h1.below
  go_wp2_with fail
  refine (Bits_any a2 (ln Y) (ln Y) Y _ (Nat.le_refl _) (by omega) h2.seg).mono ?_
  rintro e w3 ⟨rfl, rfl⟩
  go_wp2
  go_ret3
  exact ⟨a1, a2, rfl, g1, g2⟩

set_option maxHeartbeats 1000000 in
theorem parts_frac (t1 t2 : ByteArray) (X Y : Nat) (w : World) (h : Digs w) (h1 : isTx 10 X t1) (h2 : isTx 10 Y t2) (s1 : t1.size + t2.size ≤ 1407374883553) (hY : Y ≠ 0) (lY : ln Y ≤ 70368744177664) :
    Calls Tryz.prog 22 #[.string (t1 ++ ⟨#[47]⟩ ++ t2)] w fun e w' => ∃ p q, e = .returned (.tuple #[.slice p (ln X) (ln X), .slice q (ln Y) (ln Y), .int .i64 0]) ∧ New w w' p X (ln X) ∧ New w w' q Y (ln Y) := by
  have hsz := frac_size t1 t2 47
  have hj : Lib.indexByte (t1 ++ ⟨#[47]⟩ ++ t2).data.toList (47 : Nat).toUInt8 = (t1.size : Int) :=
    indexByte_is (by omega) (by omega) (byt_mid t1 t2 47) (fun k hk => by
      have := h1.digit k hk
      rw [byt_appL (by rw [ByteArray.size_append]; omega), byt_appL hk]
      omega)
  have H1' := cut_47_hit (t1 ++ ⟨#[47]⟩ ++ t2) t1.size (by omega) hj (by omega) w
  rw [frac_left, frac_right] at H1'
  have H1 := hide' H1'
  have H2 := hide' (fun w' k => quotient_any t1 t2 X Y w' k (h1.isT (by omega) (by omega)) (h2.isT (by omega) (by omega)) (h1.val (by omega) (by omega)) (h2.val (by omega) (by omega)) (by omega) (by omega) hY lY)
  have HD := hide' h
  clear H1' hj hsz h1 h2 h
  generalize t1 ++ ⟨#[47]⟩ ++ t2 = s at H1 ⊢
  go_enter Tryz.func22, Tryz.ntmps22
  go_wp2_with fail
  refine H1.out.mono ?_
  rintro e w1 ⟨rfl, hd⟩
  have b1 := hd.below w.heap.size
  go_wp2_with fail
  refine (H2.out _ (HD.out.below b1)).mono ?_
  rintro e w2 ⟨p, q, rfl, h1, h2⟩
  go_wp2
  go_ret3
  exact ⟨p, q, rfl, h1.back b1, h2.back b1⟩
set_option maxHeartbeats 1000000 in
theorem parts_int (t1 : ByteArray) (X : Nat) (w : World) (h : Digs w) (h1 : isTx 10 X t1) (s1 : t1.size ≤ 1407374883553) :
    Calls Tryz.prog 22 #[.string t1] w fun e w' => ∃ p q, e = .returned (.tuple #[.slice p (ln X) (ln X), .slice q (ln 1) (ln 1), .int .i64 0]) ∧ New w w' p X (ln X) ∧ New w w' q 1 (ln 1) := by
  have H1 := hide' (cut_47_miss t1 (indexByte_not (by omega) (fun k hk => by have := h1.digit k hk; omega)) w)
  have H3 := hide' (fun w' => cut_46_miss t1 (indexByte_not (by omega) (fun k hk => by have := h1.digit k hk; omega)) w')
  have hone : isTx 10 1 ⟨#[49]⟩ := ⟨by decide, by decide, Or.inl rfl, fun j hj => by
    obtain rfl : j = 0 := by have : j < 1 := hj; omega
    decide⟩
  have H2 := hide' (fun w' k => quotient_any t1 ⟨#[49]⟩ X 1 w' k (h1.isT (by omega) (by omega)) (hone.isT (by omega) (by omega)) (h1.val (by omega) (by omega)) (hone.val (by omega) (by omega)) (by omega) (by decide) (by omega) (by rw [ln_one]; omega))
  have HD := hide' h
  clear h1 h hone
  go_enter Tryz.func22, Tryz.ntmps22
  go_wp2_with fail
  refine H1.out.mono ?_
  rintro e w1 ⟨rfl, hd⟩
  have b1 := hd.below w.heap.size
  go_wp2_with fail
  refine (H3.out _).mono ?_
  rintro e w2 ⟨rfl, hd2⟩
  have b2 := b1.trans (hd2.below w.heap.size)
  go_wp2_with fail
  refine (H2.out _ (HD.out.below b2)).mono ?_
  rintro e w3 ⟨p, q, rfl, h1, h2⟩
  go_wp2
  go_ret3
  exact ⟨p, q, rfl, h1.back b2, h2.back b2⟩
end Go.Proofs.YtjbeagbkjmaeeaaGreatDoor

namespace Go.Proofs.YtjbeagbkjmaeeaaGreatDoor
open Go.RowKit
set_option linter.unusedVariables false
set_option linter.unusedSimpArgs false

set_option maxHeartbeats 2000000 in
set_option maxRecDepth 100000 in
theorem qParse_gen (text b : ByteArray) (neg : Bool) (X Y V : Nat) (Z : Int) (w : World) (h : Digs w) (H0 : ∀ w', Calls Tryz.prog 21 #[.string text, .string ⟨#[45]⟩] w' fun e w'' => e = .returned (.tuple #[.string b, .bool neg]) ∧ w'' = w') (H1 : ∀ w', Digs w' → Calls Tryz.prog 22 #[.string b] w' fun e w'' => ∃ p q, e = .returned (.tuple #[.slice p (ln X) (ln X), .slice q (ln Y) (ln Y), .int .i64 0]) ∧ New w' w'' p X (ln X) ∧ New w' w'' q Y (ln Y)) (lX : ln X ≤ 35184372088000) (lY : ln Y ≤ 35184372088000) (hL : Low (sg neg X) (Y : Int) Z V) :
    Calls Tryz.prog 10 #[.string text] w fun e w' => ∃ p q, e = .returned (.tuple #[.agg #[.bool (ng Z), .slice p (ln (am Z)) (ln (am Z)), .slice q (ln V) (ln V)], .int .i64 0]) ∧ Below w.heap.size w w' ∧ Seg w' p (am Z) (ln (am Z)) ∧ Seg w' q V (ln V) := by
  have G0 := hide' H0
  have G1 := hide' H1
  have G2 := hide' (fun w' p q k1 k2 => lowest_is neg p (ln X) (ln X) X q (ln Y) (ln Y) Y V Z w' (Nat.le_refl _) (by omega) k1 (Nat.le_refl _) (by omega) k2 hL)
  have bA := below_alloc (w := w) (.cells #[.bool false, .slice none 0 0, .slice none 0 0] 27)
  have qR := Blk.new w #[.bool false, .slice none 0 0, .slice none 0 0] 27
  have HD := hide' (h.below bA)
  clear H0 H1 h hL
  go_enter Tryz.func10, Tryz.ntmps10
  go_wp2_with fail
  refine (G0.out _).mono ?_
  rintro e w1 ⟨rfl, rfl⟩
  go_wp2_with fail
  refine (G1.out _ HD.out).mono ?_
  rintro e w2 ⟨p, q, rfl, n1, n2⟩
  have b2 := n1.below
  go_wp2_with fail
  refine (G2.out _ p q n1.seg n2.seg).mono ?_
  rintro e w3 ⟨p3, q3, rfl, n3, n4⟩
  have b3 := n3.below
  have qR3 := (qR.later b2).later b3
  have v0 := qR3.cell 0
  have v1 := qR3.cell 1
  have v2 := qR3.cell 2
  simp only [List.getElem?_toArray, List.getElem?_cons_zero, List.getElem?_cons_succ] at v0 v1 v2
  have fz := fun o => qR3.frozen o
  go_wp2
  obtain ⟨c9, q9⟩ := qR3.set3 (.bool (ng Z)) (.slice p3 (ln (am Z)) (ln (am Z))) (.slice q3 (ln V) (ln V))
  have hno := qR3.no (by simp)
  have z0 := q9.cell 0
  have z1 := q9.cell 1
  have z2 := q9.cell 2
  simp only [List.getElem?_toArray, List.getElem?_cons_zero, List.getElem?_cons_succ] at z0 z1 z2
  clear v0 v1 v2
  have b9 := (bA.trans ((b2.trans (b3.mono b2.size)).mono bA.size)).trans (c9.below (Nat.le_refl _))
  refine bodyPost_ret (v := .tuple #[.agg #[.bool (ng Z), .slice p3 (ln (am Z)) (ln (am Z)), .slice q3 (ln V) (ln V)], .int .i64 0]) (by rw [results_ct rfl]; go_simp) rfl ?_
  exact ⟨p3, q3, rfl, b9, n3.seg.ch c9 hno, n4.seg.ch c9 hno⟩
theorem low_own {Z : Int} {V : Nat} (hV : 0 < V) (hc : Nat.gcd (am Z) V = 1) : Low (sg (ng Z) (am Z)) (V : Int) Z V := by
  rw [sg_na]
  exact Low.self hV hc
/-- the text that Text writes: its body, with the sign ahead -/
theorem qParse_body (b : ByteArray) (Y V : Nat) (Z : Int) (w : World) (h : Digs w) (hb : 0 < b.size) (hb0 : byt b 0 ≠ 45)
    (H1 : ∀ w', Digs w' → Calls Tryz.prog 22 #[.string b] w' fun e w'' => ∃ p q, e = .returned (.tuple #[.slice p (ln (am Z)) (ln (am Z)), .slice q (ln V) (ln V), .int .i64 0]) ∧ New w' w'' p (am Z) (ln (am Z)) ∧ New w' w'' q V (ln V)) (lX : ln (am Z) ≤ 35184372088000) (lY : ln V ≤ 35184372088000) (hV : 0 < V) (hc : Nat.gcd (am Z) V = 1) :
    Calls Tryz.prog 10 #[.string (if ng Z = true then ⟨#[45]⟩ ++ b else b)] w fun e w' => ∃ p q, e = .returned (.tuple #[.agg #[.bool (ng Z), .slice p (ln (am Z)) (ln (am Z)), .slice q (ln V) (ln V)], .int .i64 0]) ∧ Below w.heap.size w w' ∧ Seg w' p (am Z) (ln (am Z)) ∧ Seg w' q V (ln V) := by
  by_cases hn : ng Z = true
  · rw [if_pos hn]
    refine qParse_gen _ b true (am Z) V V Z w h (fun w' => ?_) H1 lX lY (by rw [← hn]; exact low_own hV hc)
    have := cutMinus_yes ((⟨#[45]⟩ : ByteArray) ++ b) w' (by rw [ByteArray.size_append]; show 0 < 1 + _; omega) (cons_byt b)
    rw [cons_ext] at this
    exact this
  · rw [if_neg hn]
    have hf : ng Z = false := by simpa using hn
    refine qParse_gen _ b false (am Z) V V Z w h (fun w' => cutMinus_no b w' (fun h => hb0 h.2)) H1 lX lY (by rw [← hf]; exact low_own hV hc)
theorem isTz_body {Z : Int} {u : ByteArray} (hu : isTz (ng Z) (am Z) u) : ∃ t, isTx 10 (am Z) t ∧ u = if ng Z = true then ⟨#[45]⟩ ++ t else t := by
  obtain ⟨t, ht, e⟩ := hu
  refine ⟨t, ht, ?_⟩
  rw [e]
  by_cases hn : ng Z = true
  · have h0 : am Z ≠ 0 := by
      have : Z < 0 := by simpa [ng] using hn
      unfold am
      omega
    rw [if_pos ⟨hn, h0⟩, if_pos hn]
  · rw [if_neg (fun h => hn h.1), if_neg hn]
set_option maxRecDepth 100000 in
theorem qParse_own (Z : Int) (V : Nat) (u d : ByteArray) (w : World) (h : Digs w) (hu : isTz (ng Z) (am Z) u) (hd : isTx 10 V d) (lX : ln (am Z) ≤ 134217729) (lY : ln V ≤ 134217729) (hV : 0 < V) (hc : Nat.gcd (am Z) V = 1) :
    Calls Tryz.prog 10 #[.string (if V = 1 then u else u ++ ⟨#[47]⟩ ++ d)] w fun e w' => ∃ p q, e = .returned (.tuple #[.agg #[.bool (ng Z), .slice p (ln (am Z)) (ln (am Z)), .slice q (ln V) (ln V)], .int .i64 0]) ∧ Below w.heap.size w w' ∧ Seg w' p (am Z) (ln (am Z)) ∧ Seg w' q V (ln V) := by
  obtain ⟨t, ht, rfl⟩ := isTz_body hu
  have zt := ht.size_le (by omega) (ln_lt (am Z))
  have zd := hd.size_le (by omega) (ln_lt V)
  by_cases h1 : V = 1
  · subst h1
    rw [if_pos rfl]
    exact qParse_body t 1 1 Z w h ht.1 ht.head (fun w' k => parts_int t (am Z) w' k ht (by omega)) (by omega) (by omega) hV hc
  · rw [if_neg h1]
    have e : (if ng Z = true then (⟨#[45]⟩ : ByteArray) ++ t else t) ++ ⟨#[47]⟩ ++ d = if ng Z = true then (⟨#[45]⟩ : ByteArray) ++ (t ++ ⟨#[47]⟩ ++ d) else t ++ ⟨#[47]⟩ ++ d := by
      by_cases hn : ng Z = true
      · rw [if_pos hn, if_pos hn, ByteArray.append_assoc, ByteArray.append_assoc, ByteArray.append_assoc]
      · rw [if_neg hn, if_neg hn]
    rw [e]
    have hb : 0 < (t ++ (⟨#[47]⟩ : ByteArray) ++ d).size := by rw [frac_size]; omega
    have hb0 : byt (t ++ (⟨#[47]⟩ : ByteArray) ++ d) 0 ≠ 45 := by
      rw [byt_appL (by rw [ByteArray.size_append]; have := ht.1; omega), byt_appL ht.1]
      exact ht.head
    have HP := fun w' (k : Digs w') => parts_frac t d (am Z) V w' k ht hd (by omega) (by omega) (by omega)
    clear e zt zd ht hd
    generalize t ++ (⟨#[47]⟩ : ByteArray) ++ d = b at hb hb0 HP ⊢
    exact qParse_body b V V Z w h hb hb0 HP (by omega) (by omega) hV hc
end Go.Proofs.YtjbeagbkjmaeeaaGreatDoor
