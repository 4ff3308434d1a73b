/-
  Digits: what a byte stands for, the value of a text.
-/
import Derived.Test.YtjbeagbkjmaeeaaGreatDoorNum
namespace Go.Proofs.YtjbeagbkjmaeeaaGreatDoor
set_option linter.unusedVariables false

/-- the digit that a byte stands for; 16: it is none -/
def dval (c : Nat) : Nat := if 48 ≤ c ∧ c ≤ 57 then c - 48 else if 97 ≤ c ∧ c ≤ 102 then c - 87 else 16
/-- a digit's byte -/
def dch (v : Nat) : Nat := if v < 10 then 48 + v else 87 + v
theorem dval_dch {v : Nat} (h : v < 16) : dval (dch v) = v := by unfold dval dch; split <;> split <;> (try split) <;> omega
theorem dch_dval {c : Nat} (h : dval c < 16) : dch (dval c) = c := by
  by_cases h1 : 48 ≤ c ∧ c ≤ 57
  · have e : dval c = c - 48 := if_pos h1
    rw [e]; unfold dch; rw [if_pos (by omega)]; omega
  · by_cases h2 : 97 ≤ c ∧ c ≤ 102
    · have e : dval c = c - 87 := by unfold dval; rw [if_neg h1, if_pos h2]
      rw [e]; unfold dch; rw [if_neg (by omega)]; omega
    · have e : dval c = 16 := by unfold dval; rw [if_neg h1, if_neg h2]
      omega
theorem dch_lt {v : Nat} (h : v < 16) : dch v < 256 := by unfold dch; split <;> omega
/-- what a digit stands for in a base; the base itself, if it is none -/
def dof (c b : Nat) : Nat := if dval c < b then dval c else b
theorem dof_of {c b : Nat} (h : dval c < b) : dof c b = dval c := if_pos h
theorem dof_hit {c b k : Nat} (hb : b ≤ 16) (hk : k < b) (h : dch k = c) : dof c b = k := by
  have e : dval c = k := by rw [← h]; exact dval_dch (by omega)
  rw [dof_of (by omega), e]
theorem dof_miss {c b : Nat} (hb : b ≤ 16) (h : ∀ j, j < b → dch j ≠ c) : dof c b = b := by
  unfold dof
  split
  · rename_i hd
    exact absurd (dch_dval (by omega)) (h _ hd)
  · rfl

/-- the value of the digits f i .. f (i + k - 1) -/
def tvr (b : Nat) (f : Nat → Nat) (i : Nat) : Nat → Nat
  | 0 => 0
  | k + 1 => tvr b f i k * b + f (i + k)
theorem tvr_split (b : Nat) (f : Nat → Nat) (i k : Nat) : ∀ m, tvr b f i (k + m) = tvr b f i k * b ^ m + tvr b f (i + k) m
  | 0 => by simp [tvr]
  | m + 1 => by
    rw [← Nat.add_assoc, tvr, tvr_split b f i k m, tvr, Nat.pow_succ, Nat.add_assoc i k m, Nat.add_mul, Nat.mul_assoc, Nat.add_assoc]
theorem tvr_congr {b : Nat} {f g : Nat → Nat} {i j : Nat} : ∀ {k : Nat}, (∀ n, n < k → f (i + n) = g (j + n)) → tvr b f i k = tvr b g j k
  | 0, _ => rfl
  | k + 1, h => by rw [tvr, tvr, tvr_congr (fun n hn => h n (by omega)), h k (by omega)]
theorem tvr_lt {b : Nat} {f : Nat → Nat} {i : Nat} : ∀ {k : Nat}, (∀ n, n < k → f (i + n) < b) → tvr b f i k < b ^ k
  | 0, _ => by simp [tvr]
  | k + 1, h => by
    have h1 := tvr_lt (k := k) (b := b) (f := f) (i := i) (fun n hn => h n (by omega))
    have h2 := h k (by omega)
    have h3 : (tvr b f i k + 1) * b ≤ b ^ k * b := Nat.mul_le_mul_right b h1
    rw [tvr, Nat.pow_succ]
    rw [Nat.add_mul] at h3
    omega

/-- a text's byte -/
def byt (s : ByteArray) (k : Nat) : Nat := if h : k < s.size then s[k].toNat else 0
theorem byt_of {s : ByteArray} {k : Nat} (h : k < s.size) : byt s k = s[k].toNat := dif_pos h
theorem byt_lt (s : ByteArray) (k : Nat) : byt s k < 256 := by
  unfold byt
  split
  · rename_i h; exact s[k].toNat_lt
  · omega
theorem byt_extract {s : ByteArray} {i j k : Nat} (hj : j ≤ s.size) (hk : i + k < j) : byt (s.extract i j) k = byt s (i + k) := by
  have h1 : (s.extract i j).size = j - i := by rw [ByteArray.size_extract]; omega
  rw [byt_of (by omega), byt_of (by omega), ByteArray.getElem_extract]
/-- a text's value in a base -/
def val (b : Nat) (s : ByteArray) : Nat := tvr b (fun k => dval (byt s k)) 0 s.size
theorem val_cut {b : Nat} {s : ByteArray} {c : Nat} (hc : c ≤ s.size) : val b s = val b (s.extract 0 c) * b ^ (s.size - c) + val b (s.extract c s.size) := by
  unfold val
  have h1 : (s.extract 0 c).size = c := by rw [ByteArray.size_extract]; omega
  have h2 : (s.extract c s.size).size = s.size - c := by rw [ByteArray.size_extract]; omega
  rw [h1, h2]
  have e : s.size = c + (s.size - c) := by omega
  conv => lhs; rw [e]
  rw [tvr_split]
  congr 1
  · congr 1
    refine tvr_congr fun n hn => ?_
    show dval (byt s (0 + n)) = dval (byt (s.extract 0 c) (0 + n))
    rw [byt_extract hc (by omega)]; simp
  · refine tvr_congr fun n hn => ?_
    show dval (byt s (0 + c + n)) = dval (byt (s.extract c s.size) (0 + n))
    rw [byt_extract (Nat.le_refl _) (by omega)]; simp
theorem val_lt {b : Nat} {s : ByteArray} (h : ∀ k, k < s.size → dval (byt s k) < b) : val b s < b ^ s.size := tvr_lt fun n hn => by simpa using h n hn
theorem lt8 {b D : Nat} (hb : b ≤ 16) : b ^ D < BB ^ (D / 8 + 1) := by
  have h1 : b ^ D ≤ 2 ^ (4 * D) := by rw [Nat.pow_mul]; exact Nat.pow_le_pow_left hb D
  refine Nat.lt_of_le_of_lt h1 ?_
  rw [show BB ^ (D / 8 + 1) = 2 ^ (32 * (D / 8 + 1)) by rw [Nat.pow_mul]; rfl]
  exact Nat.pow_lt_pow_right (by omega) (by omega)
end Go.Proofs.YtjbeagbkjmaeeaaGreatDoor
