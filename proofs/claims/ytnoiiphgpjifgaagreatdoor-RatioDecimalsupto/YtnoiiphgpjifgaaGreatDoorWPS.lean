import Derived.Test.YtnoiiphgpjifgaaGreatDoorNumT
import Derived.Test.YtnoiiphgpjifgaaGreatDoorW8
import Derived.Test.YtnoiiphgpjifgaaGreatDoorWI1
import Derived.Lib.Bytealg
import Derived.Lib.IndexLaws
import Derived.Test.YtnoiiphgpjifgaaGreatDoorWU1
import Derived.Lib.Strings
import Derived.Test.YtnoiiphgpjifgaaGreatDoorWT6
import Derived.Test.YtnoiiphgpjifgaaGreatDoorWTD
import Derived.Test.YtnoiiphgpjifgaaGreatDoorWUA
import Derived.Test.YtnoiiphgpjifgaaGreatDoorWQ2
import Derived.Test.YtnoiiphgpjifgaaGreatDoorWQA
import Derived.Test.YtnoiiphgpjifgaaGreatDoorW5
import Derived.Test.YtnoiiphgpjifgaaGreatDoorWTH
import Derived.Test.YtnoiiphgpjifgaaGreatDoorWI4
import Derived.Test.YtnoiiphgpjifgaaGreatDoorWX1
import Derived.Test.YtnoiiphgpjifgaaGreatDoorWQN
import Derived.Test.YtnoiiphgpjifgaaGreatDoorWQ7
import Derived.Test.YtnoiiphgpjifgaaGreatDoorWBk
import Derived.Test.YtnoiiphgpjifgaaGreatDoorWPM
set_option linter.unusedSimpArgs false
namespace Go.Proofs.YtnoiiphgpjifgaaGreatDoor
open Go.RowKit
set_option linter.unusedVariables false
theorem indexByte_room : ∀ (l : List UInt8) (c : UInt8) (i : Nat), Lib.indexByte l c = (i : Int) → i < l.length
  | [], c, i, h => by simp [Lib.indexByte] at h
  | b :: l, c, i, h => by
    unfold Lib.indexByte at h
    split at h
    · simp only [List.length_cons]; omega
    · split at h
      · omega
      · have hge := Lib.indexByte_ge l c
        rename_i h1 h2
        have h3 : Lib.indexByte l c ≠ -1 := by simpa using h2
        have := indexByte_room l c (i - 1) (by omega)
        simp only [List.length_cons]
        omega
theorem indexByte_is {s : ByteArray} {c i : Nat} (hc : c < 256) (hi : i < s.size) (h1 : byt s i = c) (h2 : ∀ k, k < i → byt s k ≠ c) : Lib.indexByte s.data.toList c.toUInt8 = (i : Int) := by
  have hget : ∀ k (hk : k < s.size), s.data.toList[k]? = some s[k] := fun k hk => by
    rw [List.getElem?_eq_getElem (by simpa using hk)]
    simp
    rfl
  have hge := Lib.indexByte_ge s.data.toList c.toUInt8
  by_cases hn : Lib.indexByte s.data.toList c.toUInt8 = -1
  · exfalso
    refine Lib.indexByte_none hn i ?_
    rw [hget i hi]
    congr 1
    rw [byt_of hi] at h1
    apply UInt8.toNat.inj
    rw [h1]
    simp [Nat.toUInt8, UInt8.toNat_ofNat]
    omega
  · obtain ⟨j, hj⟩ : ∃ j : Nat, Lib.indexByte s.data.toList c.toUInt8 = (j : Int) := ⟨(Lib.indexByte s.data.toList c.toUInt8).toNat, by omega⟩
    have hjr := indexByte_room _ _ _ hj
    have hjs : j < s.size := by simpa using hjr
    obtain ⟨k1, k2⟩ := Lib.indexByte_some hj
    rw [hget j hjs] at k1
    have e1 : byt s j = c := by
      rw [byt_of hjs, Option.some.inj k1]
      simp [Nat.toUInt8, UInt8.toNat_ofNat]
      omega
    rcases Nat.lt_trichotomy i j with h | h | h
    · exfalso
      refine k2 i h ?_
      rw [hget i hi]
      congr 1
      rw [byt_of hi] at h1
      apply UInt8.toNat.inj
      rw [h1]
      simp [Nat.toUInt8, UInt8.toNat_ofNat]
      omega
    · rw [hj, h]
    · exact absurd e1 (h2 j h)
theorem indexByte_not {s : ByteArray} {c : Nat} (hc : c < 256) (h2 : ∀ k, k < s.size → byt s k ≠ c) : Lib.indexByte s.data.toList c.toUInt8 = -1 := by
  have hget : ∀ k (hk : k < s.size), s.data.toList[k]? = some s[k] := fun k hk => by
    rw [List.getElem?_eq_getElem (by simpa using hk)]
    simp
    rfl
  have hge := Lib.indexByte_ge s.data.toList c.toUInt8
  by_cases hn : Lib.indexByte s.data.toList c.toUInt8 = -1
  · exact hn
  · exfalso
    obtain ⟨j, hj⟩ : ∃ j : Nat, Lib.indexByte s.data.toList c.toUInt8 = (j : Int) := ⟨(Lib.indexByte s.data.toList c.toUInt8).toNat, by omega⟩
    have hjr := indexByte_room _ _ _ hj
    have hjs : j < s.size := by simpa using hjr
    obtain ⟨k1, k2⟩ := Lib.indexByte_some hj
    rw [hget j hjs] at k1
    refine h2 j hjs ?_
    rw [byt_of hjs, Option.some.inj k1]
    simp [Nat.toUInt8, UInt8.toNat_ofNat]
    omega
set_option maxRecDepth 100000 in
theorem indexByte_47 (s : ByteArray) (j : Int) (hj : Lib.indexByte s.data.toList (47 : Nat).toUInt8 = j) (w : World) : Calls Tryz.prog 130 #[.string s, .int .u8 47] w fun e w' => e = .returned (.int .i64 j) ∧ w' = w := by
  subst hj
  go_enter Tryz.func130, Tryz.ntmps130
  go_wp2
  rw [run_callFunc_extern Tryz.func143 (by kernel_rfl) (by kernel_rfl) (by kernel_rfl) (e := Extern.BytealgIndexByte.indexByte) (by kernel_rfl), Lib.run_indexByteString]
  simp only [Result.andThen]
  rw [Oper.upon_value]
  go_wp2
  go_ret
  exact ⟨rfl, rfl⟩
set_option maxRecDepth 100000 in
theorem index_47 (s : ByteArray) (j : Int) (hj : Lib.indexByte s.data.toList (47 : Nat).toUInt8 = j) (w : World) : Calls Tryz.prog 118 #[.string s, .string ⟨#[47]⟩] w fun e w' => e = .returned (.int .i64 j) ∧ w' = w := by
  have h2 : (⟨#[47]⟩ : ByteArray).size = 1 := rfl
  have HI := hide' (indexByte_47 s j hj)
  by_cases h3 : ([47] == s.toList) = true
  · have h4 : s.data.toList = [47] := by rw [← ByteArray.toList_eq]; exact (eq_of_beq h3).symm
    have h5 : j = 0 := by rw [← hj, h4]; decide
    subst h5
    clear HI hj h4
    go_enter Tryz.func118, Tryz.ntmps118
    go_wp2
    go_ret
    exact ⟨rfl, rfl⟩
  · have h4 : ([47] == s.toList) = false := by simpa using h3
    clear h3 hj
    go_enter Tryz.func118, Tryz.ntmps118
    go_wp2_with fail
    refine (HI.out _).mono ?_
    rintro e w1 ⟨rfl, rfl⟩
    go_wp2
    go_ret
    exact ⟨rfl, rfl⟩
set_option maxRecDepth 100000 in
theorem cut1_47_hit (s : ByteArray) (i : Nat) (hi : i < s.size) (hj : Lib.indexByte s.data.toList (47 : Nat).toUInt8 = (i : Int)) (hs : s.size ≤ 140737488355328) (w : World) : Calls Tryz.prog 100 #[.string s, .string ⟨#[47]⟩] w fun e w' => e = .returned (.tuple #[.string (s.extract 0 i), .string (s.extract (i + 1) s.size), .bool true]) ∧ Dr w w' := by
  have h2 : (⟨#[47]⟩ : ByteArray).size = 1 := rfl
  have HI := hide' (index_47 s _ hj)
  have i1 : (i : Int) ≤ (s.size : Int) := by omega
  have i2 : (i : Int) + 1 ≤ (s.size : Int) := by omega
  have i3 : i + 1 ≤ s.size := hi
  have i4 : i ≤ s.size := by omega
  clear hj
  go_enter Tryz.func100, Tryz.ntmps100
  go_wp2_with fail
  refine (HI.out _).mono ?_
  rintro e w1 ⟨rfl, rfl⟩
  go_wp2_with fail
  go_quiet (fail)
  go_wp2
  go_ret3
  exact ⟨rfl, ⟨_, rfl⟩⟩
set_option maxRecDepth 100000 in
theorem cut_47_hit (s : ByteArray) (i : Nat) (hi : i < s.size) (hj : Lib.indexByte s.data.toList (47 : Nat).toUInt8 = (i : Int)) (hs : s.size ≤ 140737488355328) (w : World) : Calls Tryz.prog 66 #[.string s, .string ⟨#[47]⟩] w fun e w' => e = .returned (.tuple #[.string (s.extract 0 i), .string (s.extract (i + 1) s.size), .bool true]) ∧ Dr w w' := by
  have HI := hide' (cut1_47_hit s i hi hj hs w)
  clear hj
  go_enter Tryz.func66, Tryz.ntmps66
  go_wp2_with fail
  refine HI.out.mono ?_
  rintro e w1 ⟨rfl, hd⟩
  go_wp2
  go_ret3
  exact ⟨rfl, hd⟩
set_option maxRecDepth 100000 in
theorem cut1_47_miss (s : ByteArray) (hj : Lib.indexByte s.data.toList (47 : Nat).toUInt8 = -1) (w : World) : Calls Tryz.prog 100 #[.string s, .string ⟨#[47]⟩] w fun e w' => e = .returned (.tuple #[.string s, .string ByteArray.empty, .bool false]) ∧ Dr w w' := by
  have h2 : (⟨#[47]⟩ : ByteArray).size = 1 := rfl
  have HI := hide' (index_47 s _ hj)
  clear hj
  go_enter Tryz.func100, Tryz.ntmps100
  go_wp2_with fail
  refine (HI.out _).mono ?_
  rintro e w1 ⟨rfl, rfl⟩
  go_wp2_with fail
  go_wp2
  go_ret3
  exact ⟨rfl, ⟨0, rfl⟩⟩
set_option maxRecDepth 100000 in
theorem cut_47_miss (s : ByteArray) (hj : Lib.indexByte s.data.toList (47 : Nat).toUInt8 = -1) (w : World) : Calls Tryz.prog 66 #[.string s, .string ⟨#[47]⟩] w fun e w' => e = .returned (.tuple #[.string s, .string ByteArray.empty, .bool false]) ∧ Dr w w' := by
  have HI := hide' (cut1_47_miss s hj w)
  clear hj
  go_enter Tryz.func66, Tryz.ntmps66
  go_wp2_with fail
  refine HI.out.mono ?_
  rintro e w1 ⟨rfl, hd⟩
  go_wp2
  go_ret3
  exact ⟨rfl, hd⟩
set_option maxRecDepth 100000 in
theorem indexByte_46 (s : ByteArray) (j : Int) (hj : Lib.indexByte s.data.toList (46 : Nat).toUInt8 = j) (w : World) : Calls Tryz.prog 130 #[.string s, .int .u8 46] w fun e w' => e = .returned (.int .i64 j) ∧ w' = w := by
  subst hj
  go_enter Tryz.func130, Tryz.ntmps130
  go_wp2
  rw [run_callFunc_extern Tryz.func143 (by kernel_rfl) (by kernel_rfl) (by kernel_rfl) (e := Extern.BytealgIndexByte.indexByte) (by kernel_rfl), Lib.run_indexByteString]
  simp only [Result.andThen]
  rw [Oper.upon_value]
  go_wp2
  go_ret
  exact ⟨rfl, rfl⟩
set_option maxRecDepth 100000 in
theorem index_46 (s : ByteArray) (j : Int) (hj : Lib.indexByte s.data.toList (46 : Nat).toUInt8 = j) (w : World) : Calls Tryz.prog 118 #[.string s, .string ⟨#[46]⟩] w fun e w' => e = .returned (.int .i64 j) ∧ w' = w := by
  have h2 : (⟨#[46]⟩ : ByteArray).size = 1 := rfl
  have HI := hide' (indexByte_46 s j hj)
  by_cases h3 : ([46] == s.toList) = true
  · have h4 : s.data.toList = [46] := by rw [← ByteArray.toList_eq]; exact (eq_of_beq h3).symm
    have h5 : j = 0 := by rw [← hj, h4]; decide
    subst h5
    clear HI hj h4
    go_enter Tryz.func118, Tryz.ntmps118
    go_wp2
    go_ret
    exact ⟨rfl, rfl⟩
  · have h4 : ([46] == s.toList) = false := by simpa using h3
    clear h3 hj
    go_enter Tryz.func118, Tryz.ntmps118
    go_wp2_with fail
    refine (HI.out _).mono ?_
    rintro e w1 ⟨rfl, rfl⟩
    go_wp2
    go_ret
    exact ⟨rfl, rfl⟩
set_option maxRecDepth 100000 in
theorem cut1_46_hit (s : ByteArray) (i : Nat) (hi : i < s.size) (hj : Lib.indexByte s.data.toList (46 : Nat).toUInt8 = (i : Int)) (hs : s.size ≤ 140737488355328) (w : World) : Calls Tryz.prog 100 #[.string s, .string ⟨#[46]⟩] w fun e w' => e = .returned (.tuple #[.string (s.extract 0 i), .string (s.extract (i + 1) s.size), .bool true]) ∧ Dr w w' := by
  have h2 : (⟨#[46]⟩ : ByteArray).size = 1 := rfl
  have HI := hide' (index_46 s _ hj)
  have i1 : (i : Int) ≤ (s.size : Int) := by omega
  have i2 : (i : Int) + 1 ≤ (s.size : Int) := by omega
  have i3 : i + 1 ≤ s.size := hi
  have i4 : i ≤ s.size := by omega
  clear hj
  go_enter Tryz.func100, Tryz.ntmps100
  go_wp2_with fail
  refine (HI.out _).mono ?_
  rintro e w1 ⟨rfl, rfl⟩
  go_wp2_with fail
  go_quiet (fail)
  go_wp2
  go_ret3
  exact ⟨rfl, ⟨_, rfl⟩⟩
set_option maxRecDepth 100000 in
theorem cut_46_hit (s : ByteArray) (i : Nat) (hi : i < s.size) (hj : Lib.indexByte s.data.toList (46 : Nat).toUInt8 = (i : Int)) (hs : s.size ≤ 140737488355328) (w : World) : Calls Tryz.prog 66 #[.string s, .string ⟨#[46]⟩] w fun e w' => e = .returned (.tuple #[.string (s.extract 0 i), .string (s.extract (i + 1) s.size), .bool true]) ∧ Dr w w' := by
  have HI := hide' (cut1_46_hit s i hi hj hs w)
  clear hj
  go_enter Tryz.func66, Tryz.ntmps66
  go_wp2_with fail
  refine HI.out.mono ?_
  rintro e w1 ⟨rfl, hd⟩
  go_wp2
  go_ret3
  exact ⟨rfl, hd⟩
set_option maxRecDepth 100000 in
theorem cut1_46_miss (s : ByteArray) (hj : Lib.indexByte s.data.toList (46 : Nat).toUInt8 = -1) (w : World) : Calls Tryz.prog 100 #[.string s, .string ⟨#[46]⟩] w fun e w' => e = .returned (.tuple #[.string s, .string ByteArray.empty, .bool false]) ∧ Dr w w' := by
  have h2 : (⟨#[46]⟩ : ByteArray).size = 1 := rfl
  have HI := hide' (index_46 s _ hj)
  clear hj
  go_enter Tryz.func100, Tryz.ntmps100
  go_wp2_with fail
  refine (HI.out _).mono ?_
  rintro e w1 ⟨rfl, rfl⟩
  go_wp2_with fail
  go_wp2
  go_ret3
  exact ⟨rfl, ⟨0, rfl⟩⟩
set_option maxRecDepth 100000 in
theorem cut_46_miss (s : ByteArray) (hj : Lib.indexByte s.data.toList (46 : Nat).toUInt8 = -1) (w : World) : Calls Tryz.prog 66 #[.string s, .string ⟨#[46]⟩] w fun e w' => e = .returned (.tuple #[.string s, .string ByteArray.empty, .bool false]) ∧ Dr w w' := by
  have HI := hide' (cut1_46_miss s hj w)
  clear hj
  go_enter Tryz.func66, Tryz.ntmps66
  go_wp2_with fail
  refine HI.out.mono ?_
  rintro e w1 ⟨rfl, hd⟩
  go_wp2
  go_ret3
  exact ⟨rfl, hd⟩
theorem dgt_tvr {b D j : Nat} {f : Nat → Nat} (hb : 2 ≤ b) (hf : ∀ k, k < D → f k < b) (hj : j < D) : dgt b (tvr b f 0 D) D j = f j := by
  have e : D = (j + 1) + (D - 1 - j) := by omega
  have hs := tvr_split b f 0 (j + 1) (D - 1 - j)
  rw [← e] at hs
  have hr : tvr b f (0 + (j + 1)) (D - 1 - j) < b ^ (D - 1 - j) := tvr_lt fun n hn => hf _ (by omega)
  unfold dgt
  rw [hs, Nat.add_comm, Nat.add_mul_div_right _ _ (Nat.pow_pos (by omega)), Nat.div_eq_of_lt hr, Nat.zero_add, tvr, Nat.zero_add, Nat.add_comm, Nat.add_mul_mod_self_right]
  exact Nat.mod_eq_of_lt (hf j hj)
theorem isT.isTx {b : Nat} {t : ByteArray} (hb0 : 2 ≤ b) (hb : b ≤ 16) (h : isT b t) : isTx b (Proofs.YtnoiiphgpjifgaaGreatDoor.val b t) t := by
  have hd : ∀ j, j < t.size → dgt b (Proofs.YtnoiiphgpjifgaaGreatDoor.val b t) t.size j = dval (byt t j) := fun j hj => dgt_tvr (f := fun k => dval (byt t k)) hb0 (fun k hk => h.2.2 k hk) hj
  refine ⟨h.1, val_lt h.2.2, ?_, fun j hj => ?_⟩
  · by_cases h1 : t.size = 1
    · exact .inl h1
    · right
      have hz : dgt b (Proofs.YtnoiiphgpjifgaaGreatDoor.val b t) t.size 0 ≠ 0 := by
        rw [hd 0 h.1]
        intro e
        have h48 := h.2.1 (by have := h.1; omega)
        have h2 : dval (byt t 0) < 16 := Nat.lt_of_lt_of_le (h.2.2 0 h.1) hb
        have := dch_dval h2
        rw [e] at this
        exact h48 this.symm
      have := lead_le hz
      rw [Nat.sub_zero] at this
      exact this
  · rw [hd j hj, dch_dval (Nat.lt_of_lt_of_le (h.2.2 j hj) hb)]
theorem pre_eq {s : ByteArray} (h : 0 < s.size) : ((s.extract 0 1).toList == [45]) = decide (byt s 0 = 45) := by
  rw [Lib.extract_toList, byt_of h]
  have e : s.data.toList.drop 0 = s.data.toList := rfl
  rw [e, Nat.sub_zero]
  cases hl : s.data.toList with
  | nil =>
    have h1 : s.size = s.data.toList.length := by rw [Array.length_toList]; rfl
    rw [hl] at h1
    have h2 : s.size = 0 := h1
    omega
  | cons x l =>
    have hx : s[0]'h = x := by
      have h1 : s.data.toList[0]? = some x := by rw [hl]; rfl
      have h2 : s.data[0]? = some x := by simpa using h1
      exact (Array.getElem?_eq_some_iff.1 h2).2
    rw [hx]
    have : List.take 1 (x :: l) = [x] := rfl
    rw [this]
    by_cases e : x = 45
    · subst e; rfl
    · have e2 : ¬ (x.toNat = 45) := fun h => e (UInt8.toNat_inj.1 h)
      rw [decide_eq_false e2]
      simp [e]
set_option maxHeartbeats 1000000 in
theorem cutMinus_yes (s : ByteArray) (w : World) (h : 0 < s.size) (hm : byt s 0 = 45) : Calls Tryz.prog 36 #[.string s, .string ⟨#[45]⟩] w fun e w' => e = .returned (.tuple #[.string (s.extract 1 s.size), .bool true]) ∧ w' = w := by
  have h1 : (⟨#[45]⟩ : ByteArray).size = 1 := rfl
  have hp := pre_eq h
  rw [decide_eq_true hm] at hp
  have hi : (1 : Int) ≤ (s.size : Int) := by omega
  have hi2 : 1 ≤ s.size := h
  have H1 : ∀ w, Calls Tryz.prog 99 #[.string s, .string ⟨#[45]⟩] w fun e w' => e = .returned (.bool true) ∧ w' = w := fun w => by
    go_enter Tryz.func99, Tryz.ntmps99
    go_wp2
    go_ret
    exact ⟨rfl, rfl⟩
  have H2 : ∀ w, Calls Tryz.prog 65 #[.string s, .string ⟨#[45]⟩] w fun e w' => e = .returned (.tuple #[.string (s.extract 1 s.size), .bool true]) ∧ w' = w := fun w => by
    go_enter Tryz.func65, Tryz.ntmps65
    go_wp2_with fail
    refine (H1 _).mono ?_
    rintro e w1 ⟨rfl, rfl⟩
    go_wp2
    go_ret2
    exact ⟨rfl, rfl⟩
  go_enter Tryz.func36, Tryz.ntmps36
  go_wp2_with fail
  refine (H2 _).mono ?_
  rintro e w1 ⟨rfl, rfl⟩
  go_wp2
  go_ret2
  exact ⟨rfl, rfl⟩
set_option maxHeartbeats 1000000 in
theorem cutMinus_no (s : ByteArray) (w : World) (hm : ¬ (0 < s.size ∧ byt s 0 = 45)) : Calls Tryz.prog 36 #[.string s, .string ⟨#[45]⟩] w fun e w' => e = .returned (.tuple #[.string s, .bool false]) ∧ w' = w := by
  have h1 : (⟨#[45]⟩ : ByteArray).size = 1 := rfl
  have H1 : ∀ w, Calls Tryz.prog 99 #[.string s, .string ⟨#[45]⟩] w fun e w' => e = .returned (.bool false) ∧ w' = w := fun w => by
    by_cases h : 0 < s.size
    · have hp := pre_eq h
      rw [decide_eq_false (fun e => hm ⟨h, e⟩)] at hp
      have hi : (1 : Int) ≤ (s.size : Int) := by omega
      have hi2 : 1 ≤ s.size := h
      go_enter Tryz.func99, Tryz.ntmps99
      go_wp2
      go_ret
      exact ⟨rfl, rfl⟩
    · have hi : ¬ ((1 : Int) ≤ (s.size : Int)) := by omega
      have hi2 : decide ((1 : Int) ≤ (s.size : Int)) = false := by rw [decide_eq_false_iff_not]; omega
      have hi3 : (s.size : Int) < 1 := by omega
      have hi4 : ¬ (1 ≤ s.size) := by omega
      have hi5 : s.size = 0 := by omega
      go_enter Tryz.func99, Tryz.ntmps99
      go_wp2
      go_ret
      exact ⟨rfl, rfl⟩
  have H2 : ∀ w, Calls Tryz.prog 65 #[.string s, .string ⟨#[45]⟩] w fun e w' => e = .returned (.tuple #[.string s, .bool false]) ∧ w' = w := fun w => by
    go_enter Tryz.func65, Tryz.ntmps65
    go_wp2_with fail
    refine (H1 _).mono ?_
    rintro e w1 ⟨rfl, rfl⟩
    go_wp2
    go_ret2
    exact ⟨rfl, rfl⟩
  go_enter Tryz.func36, Tryz.ntmps36
  go_wp2_with fail
  refine (H2 _).mono ?_
  rintro e w1 ⟨rfl, rfl⟩
  go_wp2
  go_ret2
  exact ⟨rfl, rfl⟩
theorem isTx.digit {X : Nat} {t : ByteArray} (h : isTx 10 X t) : ∀ j, j < t.size → 48 ≤ byt t j ∧ byt t j ≤ 57 := by
  intro j hj
  rw [h.2.2.2 j hj]
  have h1 : dgt 10 X t.size j < 10 := Nat.mod_lt _ (by omega)
  generalize dgt 10 X t.size j = d at h1
  match d, h1 with
  | 0, _ | 1, _ | 2, _ | 3, _ | 4, _ | 5, _ | 6, _ | 7, _ | 8, _ | 9, _ => decide
theorem size_one (c : UInt8) : (⟨#[c]⟩ : ByteArray).size = 1 := rfl
theorem frac_size (t1 t2 : ByteArray) (c : UInt8) : (t1 ++ ⟨#[c]⟩ ++ t2).size = t1.size + 1 + t2.size := by
  rw [ByteArray.size_append, ByteArray.size_append, size_one]
theorem frac_left (t1 t2 : ByteArray) (c : UInt8) : (t1 ++ ⟨#[c]⟩ ++ t2).extract 0 t1.size = t1 := by
  apply ByteArray.ext
  simp [ByteArray.data_extract, ByteArray.data_append]
theorem frac_right (t1 t2 : ByteArray) (c : UInt8) : (t1 ++ ⟨#[c]⟩ ++ t2).extract (t1.size + 1) (t1 ++ ⟨#[c]⟩ ++ t2).size = t2 := by
  rw [frac_size]
  apply ByteArray.ext
  have e1 : (t1.data.push c).extract (t1.size + 1) (t1.size + 1 + t2.size) = #[] := by
    apply Array.extract_empty_of_size_le_start
    rw [Array.size_push]
    exact Nat.le_refl _
  have e2 : t2.data.extract 0 t2.size = t2.data := by rw [show t2.size = t2.data.size from rfl, Array.extract_size]
  simp [ByteArray.data_extract, ByteArray.data_append]
  rw [e1, e2]
  simp
set_option maxHeartbeats 1000000 in
theorem quotient_any (t1 t2 : ByteArray) (X Y : Nat) (w : World) (h : Digs w) (h1 : isT 10 t1) (h2 : isT 10 t2) (e1 : val 10 t1 = X) (e2 : val 10 t2 = Y) (s1 : t1.size ≤ 140737488355328) (s2 : t2.size ≤ 140737488355328) (hY : Y ≠ 0) (lY : ln Y ≤ 70368744177664) :
    Calls Tryz.prog 67 #[.string t1, .string t2] w fun e w' => ∃ p q, e = .returned (.tuple #[.slice p (ln X) (ln X), .slice q (ln Y) (ln Y), .int .i64 0]) ∧ New w w' p X (ln X) ∧ New w w' q Y (ln Y) := by
  have P2 := Parse_ok t1 10 (by omega) (by omega) s1 h1 w h
  have P4 := fun w' (k : Digs w') => Parse_ok t2 10 (by omega) (by omega) s2 h2 w' k
  rw [e1] at P2
  rw [e2] at P4
  have hb : (((bl Y : Nat) : Int) == 0) = false := by rw [bl_beq]; simpa using hY
  have Q2 := hide' P2
  have Q4 := hide' P4
  have HD := hide' h
  clear P2 P4 h h1 h2 e1 e2
  go_enter Tryz.func67, Tryz.ntmps67
  go_wp2_with fail
  refine Q2.out.mono ?_
  rintro e w1 ⟨a1, rfl, h1⟩
  go_wp2_with fail
  refine (Q4.out _ (HD.out.below h1.below)).mono ?_
  rintro e w2 ⟨a2, rfl, h2⟩
  have g1 := h1.later h2.below
  have g2 := h2.back h1.below
  go_wp2_with fail
  refine (Bits_any a2 (ln Y) (ln Y) Y _ (Nat.le_refl _) (by omega) h2.seg).mono ?_
  rintro e w3 ⟨rfl, rfl⟩
  go_wp2
  go_ret3
  exact ⟨a1, a2, rfl, g1, g2⟩
set_option maxHeartbeats 2000000 in
set_option maxRecDepth 100000 in
theorem qParse_gen (text b : ByteArray) (neg : Bool) (X Y V : Nat) (Z : Int) (w : World) (h : Digs w) (H0 : ∀ w', Calls Tryz.prog 36 #[.string text, .string ⟨#[45]⟩] w' fun e w'' => e = .returned (.tuple #[.string b, .bool neg]) ∧ w'' = w') (H1 : ∀ w', Digs w' → Calls Tryz.prog 37 #[.string b] w' fun e w'' => ∃ p q, e = .returned (.tuple #[.slice p (ln X) (ln X), .slice q (ln Y) (ln Y), .int .i64 0]) ∧ New w' w'' p X (ln X) ∧ New w' w'' q Y (ln Y)) (lX : ln X ≤ 35184372088000) (lY : ln Y ≤ 35184372088000) (hL : Low (sg neg X) (Y : Int) Z V) :
    Calls Tryz.prog 9 #[.string text] w fun e w' => ∃ p q, e = .returned (.tuple #[.agg #[.bool (ng Z), .slice p (ln (am Z)) (ln (am Z)), .slice q (ln V) (ln V)], .int .i64 0]) ∧ Below w.heap.size w w' ∧ Seg w' p (am Z) (ln (am Z)) ∧ Seg w' q V (ln V) := by
  have G0 := hide' H0
  have G1 := hide' H1
  have G2 := hide' (fun w' p q k1 k2 => lowest_is neg p (ln X) (ln X) X q (ln Y) (ln Y) Y V Z w' (Nat.le_refl _) (by omega) k1 (Nat.le_refl _) (by omega) k2 hL)
  have bA := below_alloc (w := w) (.cells #[.bool false, .slice none 0 0, .slice none 0 0] 27)
  have qR := Blk.new w #[.bool false, .slice none 0 0, .slice none 0 0] 27
  have HD := hide' (h.below bA)
  clear H0 H1 h hL
  go_enter Tryz.func9, Tryz.ntmps9
  go_wp2_with fail
  refine (G0.out _).mono ?_
  rintro e w1 ⟨rfl, rfl⟩
  go_wp2_with fail
  refine (G1.out _ HD.out).mono ?_
  rintro e w2 ⟨p, q, rfl, n1, n2⟩
  have b2 := n1.below
  go_wp2_with fail
  refine (G2.out _ p q n1.seg n2.seg).mono ?_
  rintro e w3 ⟨p3, q3, rfl, n3, n4⟩
  have b3 := n3.below
  have qR3 := (qR.later b2).later b3
  have v0 := qR3.cell 0
  have v1 := qR3.cell 1
  have v2 := qR3.cell 2
  simp only [List.getElem?_toArray, List.getElem?_cons_zero, List.getElem?_cons_succ] at v0 v1 v2
  have fz := fun o => qR3.frozen o
  go_wp2
  obtain ⟨c9, q9⟩ := qR3.set3 (.bool (ng Z)) (.slice p3 (ln (am Z)) (ln (am Z))) (.slice q3 (ln V) (ln V))
  have hno := qR3.no (by simp)
  have z0 := q9.cell 0
  have z1 := q9.cell 1
  have z2 := q9.cell 2
  simp only [List.getElem?_toArray, List.getElem?_cons_zero, List.getElem?_cons_succ] at z0 z1 z2
  clear v0 v1 v2
  have b9 := (bA.trans ((b2.trans (b3.mono b2.size)).mono bA.size)).trans (c9.below (Nat.le_refl _))
  refine bodyPost_ret (v := .tuple #[.agg #[.bool (ng Z), .slice p3 (ln (am Z)) (ln (am Z)), .slice q3 (ln V) (ln V)], .int .i64 0]) (by rw [results_ct rfl]; go_simp) rfl ?_
  exact ⟨p3, q3, rfl, b9, n3.seg.ch c9 hno, n4.seg.ch c9 hno⟩
theorem val_ln {s : ByteArray} (h : ∀ k, k < s.size → dval (byt s k) < 10) : ln (val 10 s) ≤ s.size / 8 + 1 :=
  ln_le_of_lt (Nat.lt_trans (val_lt h) (lt8 (by omega)))
theorem ten_ln (k : Nat) : ln (10 ^ k) ≤ k / 8 + 1 := ln_le_of_lt (lt8 (by omega))
theorem one_size (s : ByteArray) : (⟨#[49]⟩ ++ s : ByteArray).size = s.size + 1 := by rw [ByteArray.size_append, show (⟨#[49]⟩ : ByteArray).size = 1 from rfl]; omega
set_option maxHeartbeats 1000000 in
theorem decimal_ok (a b : ByteArray) (X Y : Nat) (w : World) (h : Digs w) (s1 : a.size ≤ 140737488351232) (s2 : b.size ≤ 140737488351232) (HP : ∀ w', Digs w' → Calls Tryz.prog 18 #[.int .i64 (b.size : Nat)] w' fun e w'' => ∃ p, e = .returned (.slice p (ln (10 ^ b.size)) (ln (10 ^ b.size))) ∧ New w' w'' p (10 ^ b.size) (ln (10 ^ b.size))) (h1 : isT 10 a) (h2 : tl10 b) (hX : val 10 a * 10 ^ b.size + val 10 b = X) (hY : 10 ^ b.size = Y) : Calls Tryz.prog 68 #[.string a, .string b] w fun e w' => ∃ p q, e = .returned (.tuple #[.slice p (ln X) (ln X), .slice q (ln Y) (ln Y), .int .i64 0]) ∧ New w w' p X (ln X) ∧ New w w' q Y (ln Y) := by
  have z1 := one_size b
  have i1 := one_isT.2 h2.2
  have v1 := one_val (s := b)
  have l1 := val_ln h1.2.2
  have l2 := ten_ln b.size
  have l3 := val_ln h2.2
  have l4 := val_ln i1.2.2
  rw [z1] at l4
  have e1 := ba_ne h2.1
  have e2 := ba_some h2.1
  have Q1 := hide' (Parse_ok a 10 (by omega) (by omega) (by omega) h1 w h)
  have Q2 := hide' (fun w' (k : Digs w') => Parse_ok (⟨#[49]⟩ ++ b) 10 (by omega) (by omega) (by omega) i1 w' k)
  have Q3 := hide' HP
  have HD := hide' h
  rw [hY] at Q3 l2 v1 hX
  generalize val 10 (⟨#[49]⟩ ++ b) = U at Q2 l4 v1
  generalize val 10 a = N at Q1 l1 hX
  generalize val 10 b = B at v1 l3 hX
  have l5 : ln (N * Y) ≤ 35184372087812 := Nat.le_trans (ln_prod (ln_lt N) (ln_lt Y)) (by omega)
  have Q4 := hide' (fun w' p2 p3 k2 k3 => Sub_is p2 p3 (ln U) (ln U) U (ln Y) (ln Y) Y B w' (Nat.le_refl _) (by omega) k2 (Nat.le_refl _) (by omega) k3 (by omega))
  have Q5 := hide' (fun w' p1 p3 k1 k3 => Mul_is p1 p3 (ln N) (ln N) N (ln Y) (ln Y) Y (N * Y) w' (Nat.le_refl _) (by omega) k1 (Nat.le_refl _) (by omega) k3 rfl)
  have Q6 := hide' (fun w' p5 p4 k5 k4 => Add_is p5 p4 (ln (N * Y)) (ln (N * Y)) (N * Y) (ln B) (ln B) B X w' (Nat.le_refl _) (by omega) k5 (Nat.le_refl _) (by omega) k4 hX)
  clear h h1 h2 HP hY i1 hX v1
  go_enter Tryz.func68, Tryz.ntmps68
  go_wp2_with fail
  refine Q1.out.mono ?_
  rintro e w1 ⟨p1, rfl, n1⟩
  go_wp2_with fail
  refine (Q2.out _ (HD.out.below n1.below)).mono ?_
  rintro e w2 ⟨p2, rfl, n2⟩
  have b2 := n1.below.trans (n2.below.mono n1.below.size)
  replace n1 := n1.later n2.below
  go_wp2_with fail
  refine (Q3.out _ (HD.out.below b2)).mono ?_
  rintro e w3 ⟨p3, rfl, n3⟩
  replace n1 := n1.later n3.below
  replace n2 := n2.later n3.below
  have g3 := n3.back b2
  go_wp2_with fail
  refine (Q4.out _ p2 p3 n2.seg n3.seg).mono ?_
  rintro e w4 ⟨p4, rfl, n4⟩
  replace n1 := n1.later n4.below
  replace g3 := g3.later n4.below
  go_wp2_with fail
  refine (Q5.out _ p1 p3 n1.seg g3.seg).mono ?_
  rintro e w5 ⟨p5, rfl, n5⟩
  replace n4 := n4.later n5.below
  replace g3 := g3.later n5.below
  have b5 := g3.below
  go_wp2_with fail
  refine (Q6.out _ p5 p4 n5.seg n4.seg).mono ?_
  rintro e w6 ⟨p6, rfl, n6⟩
  replace g3 := g3.later n6.below
  have g6 := n6.back b5
  go_wp2
  go_ret3
  exact ⟨p6, p3, rfl, g6, g3⟩
def Pow10 : Prop := ∀ (k : Nat), k ≤ 140737488351232 → ∀ w', Digs w' → Calls Tryz.prog 18 #[.int .i64 (k : Nat)] w' fun e w'' => ∃ p, e = .returned (.slice p (ln (10 ^ k)) (ln (10 ^ k))) ∧ New w' w'' p (10 ^ k) (ln (10 ^ k))
set_option maxHeartbeats 1000000 in
theorem parts_47_ok (t : ByteArray) (X Y : Nat) (hs : t.size ≤ 140737488351232) (i : Nat) (hi : i < t.size) (h1 : byt t i = 47) (h2 : ∀ k, k < i → byt t k ≠ 47) (w : World) (h : Digs w) (H2 : ∀ v, Digs v → Calls Tryz.prog 67 #[.string (t.extract 0 i), .string (t.extract (i + 1) t.size)] v fun e v' => ∃ p q, e = .returned (.tuple #[.slice p (ln X) (ln X), .slice q (ln Y) (ln Y), .int .i64 0]) ∧ New v v' p X (ln X) ∧ New v v' q Y (ln Y)) :
    Calls Tryz.prog 37 #[.string t] w fun e w' => ∃ p q, e = .returned (.tuple #[.slice p (ln X) (ln X), .slice q (ln Y) (ln Y), .int .i64 0]) ∧ New w w' p X (ln X) ∧ New w w' q Y (ln Y) := by
  have C1 := hide' (fun w' => cut_47_hit t i hi (indexByte_is (by omega) hi h1 h2) (by omega) w')
  have HD := hide' h
  have G2 := hide' H2
  clear h H2 h1 h2
  go_enter Tryz.func37, Tryz.ntmps37
  go_wp2_with fail
  refine (C1.out _).mono ?_
  rintro e w1 ⟨rfl, hd⟩
  have b1 := hd.below w.heap.size
  have b2 := b1
  go_wp2_with fail
  refine (G2.out _ (HD.out.below b2)).mono ?_
  rintro e w3 ⟨p, q, rfl, n1, n2⟩
  go_wp2
  go_ret3
  exact ⟨p, q, rfl, n1.back b2, n2.back b2⟩
set_option maxHeartbeats 1000000 in
theorem parts_46_ok (t : ByteArray) (X Y : Nat) (hs : t.size ≤ 140737488351232) (h47 : ∀ k, k < t.size → byt t k ≠ 47) (i : Nat) (hi : i < t.size) (h1 : byt t i = 46) (h2 : ∀ k, k < i → byt t k ≠ 46) (w : World) (h : Digs w) (H2 : ∀ v, Digs v → Calls Tryz.prog 68 #[.string (t.extract 0 i), .string (t.extract (i + 1) t.size)] v fun e v' => ∃ p q, e = .returned (.tuple #[.slice p (ln X) (ln X), .slice q (ln Y) (ln Y), .int .i64 0]) ∧ New v v' p X (ln X) ∧ New v v' q Y (ln Y)) :
    Calls Tryz.prog 37 #[.string t] w fun e w' => ∃ p q, e = .returned (.tuple #[.slice p (ln X) (ln X), .slice q (ln Y) (ln Y), .int .i64 0]) ∧ New w w' p X (ln X) ∧ New w w' q Y (ln Y) := by
  have C1 := hide' (fun w' => cut_47_miss t (indexByte_not (by omega) h47) w')
  have C2 := hide' (fun w' => cut_46_hit t i hi (indexByte_is (by omega) hi h1 h2) (by omega) w')
  have HD := hide' h
  have G2 := hide' H2
  clear h H2 h1 h2
  go_enter Tryz.func37, Tryz.ntmps37
  go_wp2_with fail
  refine (C1.out _).mono ?_
  rintro e w1 ⟨rfl, hd⟩
  have b1 := hd.below w.heap.size
  go_wp2_with fail
  refine (C2.out _).mono ?_
  rintro e w2 ⟨rfl, hd2⟩
  have b2 := b1.trans (hd2.below w.heap.size)
  go_wp2_with fail
  refine (G2.out _ (HD.out.below b2)).mono ?_
  rintro e w3 ⟨p, q, rfl, n1, n2⟩
  go_wp2
  go_ret3
  exact ⟨p, q, rfl, n1.back b2, n2.back b2⟩
set_option maxHeartbeats 1000000 in
theorem parts_no_ok (t : ByteArray) (X Y : Nat) (hs : t.size ≤ 140737488351232) (h47 : ∀ k, k < t.size → byt t k ≠ 47) (h46 : ∀ k, k < t.size → byt t k ≠ 46) (w : World) (h : Digs w) (H2 : ∀ v, Digs v → Calls Tryz.prog 67 #[.string t, .string ⟨#[49]⟩] v fun e v' => ∃ p q, e = .returned (.tuple #[.slice p (ln X) (ln X), .slice q (ln Y) (ln Y), .int .i64 0]) ∧ New v v' p X (ln X) ∧ New v v' q Y (ln Y)) :
    Calls Tryz.prog 37 #[.string t] w fun e w' => ∃ p q, e = .returned (.tuple #[.slice p (ln X) (ln X), .slice q (ln Y) (ln Y), .int .i64 0]) ∧ New w w' p X (ln X) ∧ New w w' q Y (ln Y) := by
  have C1 := hide' (fun w' => cut_47_miss t (indexByte_not (by omega) h47) w')
  have C2 := hide' (fun w' => cut_46_miss t (indexByte_not (by omega) h46) w')
  have HD := hide' h
  have G2 := hide' H2
  clear h H2
  go_enter Tryz.func37, Tryz.ntmps37
  go_wp2_with fail
  refine (C1.out _).mono ?_
  rintro e w1 ⟨rfl, hd⟩
  have b1 := hd.below w.heap.size
  go_wp2_with fail
  refine (C2.out _).mono ?_
  rintro e w2 ⟨rfl, hd2⟩
  have b2 := b1.trans (hd2.below w.heap.size)
  go_wp2_with fail
  refine (G2.out _ (HD.out.below b2)).mono ?_
  rintro e w3 ⟨p, q, rfl, n1, n2⟩
  go_wp2
  go_ret3
  exact ⟨p, q, rfl, n1.back b2, n2.back b2⟩
theorem parts_some (t : ByteArray) (X Y : Nat) (hs : t.size ≤ 140737488351232) (HP : Pow10) (hR : Rd t (some (X, Y))) (w : World) (h : Digs w) : Calls Tryz.prog 37 #[.string t] w fun e w' => ∃ p q, e = .returned (.tuple #[.slice p (ln X) (ln X), .slice q (ln Y) (ln Y), .int .i64 0]) ∧ New w w' p X (ln X) ∧ New w w' q Y (ln Y) := by
  have ez : ∀ i j, (t.extract i j).size ≤ t.size := fun i j => by simp only [ByteArray.size_extract]; omega
  cases hR with
  | @over i hi h1 h2 a b c =>
    exact parts_47_ok t _ _ hs i hi h1 h2 w h fun v k => quotient_any _ _ _ _ v k a b rfl rfl (by have := ez 0 i; omega) (by have := ez (i + 1) t.size; omega) c (by have := val_ln b.2.2; have := ez (i + 1) t.size; omega)
  | @point i h0 hi h1 h2 a b =>
    have e : (t.extract (i + 1) t.size).size = t.size - (i + 1) := by simp only [ByteArray.size_extract]; omega
    exact parts_46_ok t _ _ hs h0 i hi h1 h2 w h fun v k => decimal_ok _ _ _ _ v k (by have := ez 0 i; omega) (by omega) (HP _ (by omega)) a b (by rw [e]) (by rw [e])
  | whole h0 h1 a =>
    have hone : isT 10 ⟨#[49]⟩ := ⟨by decide, by decide, fun k hk => by
      obtain rfl : k = 0 := by have : k < 1 := hk; omega
      decide⟩
    exact parts_no_ok t _ _ hs h0 h1 w h fun v k => quotient_any _ _ _ _ v k a hone rfl (by decide) (by omega) (by decide) (by omega) (by rw [ln_one]; omega)
def negOf (s : ByteArray) : Bool := decide (0 < s.size ∧ byt s 0 = 45)
def bodyOf (s : ByteArray) : ByteArray := if negOf s = true then s.extract 1 s.size else s
theorem bodyOf_size (s : ByteArray) : (bodyOf s).size ≤ s.size := by
  unfold bodyOf
  split
  · simp only [ByteArray.size_extract]; omega
  · exact Nat.le_refl _
theorem Rd.good {t : ByteArray} {X Y : Nat} (h : Rd t (some (X, Y))) : 0 < Y ∧ ln X ≤ t.size / 8 + 1 ∧ ln Y ≤ t.size / 8 + 1 := by
  have ez : ∀ i j, (t.extract i j).size ≤ t.size := fun i j => by simp only [ByteArray.size_extract]; omega
  cases h with
  | @over i hi h1 h2 a b c =>
    have l1 := val_ln a.2.2
    have l2 := val_ln b.2.2
    have z1 := ez 0 i
    have z2 := ez (i + 1) t.size
    exact ⟨by omega, by omega, by omega⟩
  | @point i h0 hi h1 h2 a b =>
    have e : (t.extract (i + 1) t.size).size = t.size - (i + 1) := by simp only [ByteArray.size_extract]; omega
    have e2 : (t.extract 0 i).size = i := by simp only [ByteArray.size_extract]; omega
    have v1 := val_lt a.2.2
    have v2 := val_lt b.2
    rw [e2] at v1
    rw [e] at v2
    have hX : val 10 (t.extract 0 i) * 10 ^ (t.size - (i + 1)) + val 10 (t.extract (i + 1) t.size) < 10 ^ t.size := by
      have g1 : (val 10 (t.extract 0 i) + 1) * 10 ^ (t.size - (i + 1)) ≤ 10 ^ i * 10 ^ (t.size - (i + 1)) := Nat.mul_le_mul_right _ v1
      rw [Nat.add_mul, Nat.one_mul, ← Nat.pow_add] at g1
      have g2 : 10 ^ (i + (t.size - (i + 1))) ≤ 10 ^ t.size := Nat.pow_le_pow_right (by omega) (by omega)
      omega
    refine ⟨Nat.pow_pos (by omega), ln_le_of_lt (Nat.lt_trans hX (lt8 (by omega))), ?_⟩
    have := ten_ln (t.size - (i + 1))
    omega
  | whole h0 h1 a =>
    have l1 := val_ln a.2.2
    exact ⟨by omega, l1, by rw [ln_one]; omega⟩
theorem cutPre (s : ByteArray) (w : World) : Calls Tryz.prog 36 #[.string s, .string ⟨#[45]⟩] w fun e w' => e = .returned (.tuple #[.string (bodyOf s), .bool (negOf s)]) ∧ w' = w := by
  by_cases h : 0 < s.size ∧ byt s 0 = 45
  · have e1 : negOf s = true := by unfold negOf; exact decide_eq_true h
    have e2 : bodyOf s = s.extract 1 s.size := by unfold bodyOf; rw [if_pos e1]
    rw [e1, e2]
    exact cutMinus_yes s w h.1 h.2
  · have e1 : negOf s = false := by unfold negOf; exact decide_eq_false h
    have e2 : bodyOf s = s := by unfold bodyOf; rw [if_neg (by rw [e1]; decide)]
    rw [e1, e2]
    exact cutMinus_no s w h
theorem qParse_some (s : ByteArray) (X Y V : Nat) (Z : Int) (hs : s.size ≤ 140737488351232) (HP : Pow10) (hR : Rd (bodyOf s) (some (X, Y))) (hL : Low (sg (negOf s) X) (Y : Int) Z V) (w : World) (h : Digs w) :
    Calls Tryz.prog 9 #[.string s] w fun e w' => ∃ p q, e = .returned (.tuple #[.agg #[.bool (ng Z), .slice p (ln (am Z)) (ln (am Z)), .slice q (ln V) (ln V)], .int .i64 0]) ∧ Below w.heap.size w w' ∧ Seg w' p (am Z) (ln (am Z)) ∧ Seg w' q V (ln V) := by
  have hb := bodyOf_size s
  obtain ⟨g1, g2, g3⟩ := hR.good
  exact qParse_gen s (bodyOf s) (negOf s) X Y V Z w h (cutPre s) (fun w' k => parts_some _ X Y (by omega) HP hR w' k) (by omega) (by omega) hL
end Go.Proofs.YtnoiiphgpjifgaaGreatDoor
