/-
  Bytes and characters of a text: which are digits, blanks, symbol bytes, which may be quoted; what a character at a place is.
-/
import Derived.Test.YtibeiggedmabkaaDoorProg
import Derived.WalkKit
import Derived.WalkSpells
import Derived.WalkLawsBesides
import Derived.Handy
import Derived.Laws.RangeAny
import Derived.Laws.Runes
import Derived.CellFam
import Derived.BigQuiet
import Derived.Deep.QuietTactic
import Derived.Deep.OwnRows
import Derived.Deep.RegionHeld3
import Derived.Deep.RegionWith
import Derived.Lib.Bytealg
import Derived.Lib.IndexLaws
import Derived.Lib.Small
import Derived.Lib.Strings
import Derived.Lib.Walk
namespace Go.Proofs.YtibeiggedmabkaaDoor
open Go.RowKit
set_option linter.unusedVariables false
set_option linter.unusedSimpArgs false

theorem hideT {p : Prop} (h : p) : Hid p := h
/-- a text's byte -/
def byt (s : ByteArray) (k : Nat) : Nat := if h : k < s.size then s[k].toNat else 0
theorem byt_of {s : ByteArray} {k : Nat} (h : k < s.size) : byt s k = s[k].toNat := dif_pos h
theorem byt_lt (s : ByteArray) (k : Nat) : byt s k < 256 := by
  unfold byt
  split
  · exact UInt8.toNat_lt _
  · omega
def dgN (c : Nat) : Bool := decide (48 ≤ c) && decide (c ≤ 57)
def blN (c : Nat) : Bool := decide (c = 9) || decide (c = 10) || decide (c = 13) || decide (c = 32)
def ltN (c : Nat) : Bool := decide (97 ≤ c) && decide (c ≤ 122) || decide (65 ≤ c) && decide (c ≤ 90)
/-- the seventeen signs -/
def sgL : List Nat := [126, 33, 64, 36, 37, 94, 38, 42, 95, 45, 43, 61, 60, 62, 46, 63, 47]
def sgN (c : Nat) : Bool := sgL.contains c
def syN (c : Nat) : Bool := dgN c || ltN c || sgN c
/-- it may not be quoted -/
def nqN (c : Nat) : Bool := decide (c < 32) && !blN c || decide (c = 127)
/-- nor stand in bars -/
def nbN (c : Nat) : Bool := nqN c || decide (c = 124) || decide (c = 92)

theorem sgN_high {c : Nat} (h : 128 ≤ c) : sgN c = false := by
  unfold sgN sgL
  simp
  omega
theorem syN_high {c : Nat} (h : 128 ≤ c) : syN c = false := by
  unfold syN dgN ltN
  rw [sgN_high h]
  simp
  omega
theorem nqN_high {c : Nat} (h : 128 ≤ c) : nqN c = false := by unfold nqN; simp; omega
theorem nbN_high {c : Nat} (h : 128 ≤ c) : nbN c = false := by unfold nbN; rw [nqN_high h]; simp; omega

/-- the character at a place, and how many bytes it has -/
def chr (s : ByteArray) (p : Nat) : Nat := (Utf8.decode s p).1
def wid (s : ByteArray) (p : Nat) : Nat := (Utf8.decode s p).2
theorem get_byt {s : ByteArray} {k : Nat} (h : k < s.size) : (s.get! k).toNat = byt s k := by
  rw [byt_of h]
  have := get_at s k h
  rw [Nat.add_zero] at this
  rw [this]
theorem chr_low {s : ByteArray} {p : Nat} (h : p < s.size) (ha : byt s p < 128) : chr s p = byt s p ∧ wid s p = 1 := by
  rw [byt_of h] at ha ⊢
  unfold chr wid
  rw [decode_ascii s p h ha]
  exact ⟨rfl, rfl⟩
theorem chr_high {s : ByteArray} {p : Nat} (h : p < s.size) (ha : 128 ≤ byt s p) : 128 ≤ chr s p ∧ 1 ≤ wid s p := by
  rw [byt_of h] at ha
  exact decode_high s p h ha
theorem chr_le (s : ByteArray) (p : Nat) : chr s p ≤ 2147483647 := decode_le s p
theorem wid_pos {s : ByteArray} {p : Nat} (h : p < s.size) : 1 ≤ wid s p := by
  by_cases ha : byt s p < 128
  · rw [(chr_low h ha).2]; exact Nat.le_refl _
  · exact (chr_high h (by omega)).2
theorem wid_in {s : ByteArray} {p : Nat} (h : p < s.size) : p + wid s p ≤ s.size ∧ ∀ k, p < k → k < p + wid s p → 128 ≤ byt s k := by
  have hk : ∀ k, p + k < s.size → (s.get! (p + k)).toNat = byt s (p + k) := fun k hk => get_byt hk
  unfold wid
  simp only [Utf8.decode]
  split
  · exact ⟨by omega, fun k h1 h2 => by omega⟩
  split
  · rename_i h1
    simp only [Bool.and_eq_true, decide_eq_true_eq, beq_iff_eq] at h1
    split
    · refine ⟨by simp; omega, fun k h2 h3 => ?_⟩
      simp at h3
      have e : k = p + 1 := by omega
      rw [e, ← hk 1 h1.2.1]; omega
    · exact ⟨by simp; omega, fun k h2 h3 => by simp at h3; omega⟩
  split
  · rename_i h1
    simp only [Bool.and_eq_true, decide_eq_true_eq, beq_iff_eq] at h1
    split
    · refine ⟨by simp; omega, fun k h2 h3 => ?_⟩
      simp at h3
      rcases (show k = p + 1 ∨ k = p + 2 by omega) with e | e
      · rw [e, ← hk 1 h1.1.2.1]; omega
      · rw [e, ← hk 2 h1.2.1]; omega
    · exact ⟨by simp; omega, fun k h2 h3 => by simp at h3; omega⟩
  split
  · rename_i h1
    simp only [Bool.and_eq_true, decide_eq_true_eq, beq_iff_eq] at h1
    split
    · refine ⟨by simp; omega, fun k h2 h3 => ?_⟩
      simp at h3
      rcases (show k = p + 1 ∨ k = p + 2 ∨ k = p + 3 by omega) with e | e | e
      · rw [e, ← hk 1 h1.1.1.2.1]; omega
      · rw [e, ← hk 2 h1.1.2.1]; omega
      · rw [e, ← hk 3 h1.2.1]; omega
    · exact ⟨by simp; omega, fun k h2 h3 => by simp at h3; omega⟩
  · exact ⟨by simp; omega, fun k h2 h3 => by simp at h3; omega⟩
end Go.Proofs.YtibeiggedmabkaaDoor
