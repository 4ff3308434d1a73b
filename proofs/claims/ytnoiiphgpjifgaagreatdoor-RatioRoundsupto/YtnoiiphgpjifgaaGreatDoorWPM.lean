import Derived.Test.YtnoiiphgpjifgaaGreatDoorWT1
set_option linter.unusedSimpArgs false
namespace Go.Proofs.YtnoiiphgpjifgaaGreatDoor
open Go.RowKit
set_option linter.unusedVariables false
theorem dval10 {c : Nat} : dval c < 10 ↔ 48 ≤ c ∧ c ≤ 57 := by unfold dval; split <;> (try split) <;> omega
def tl10 (s : ByteArray) : Prop := 0 < s.size ∧ ∀ k, k < s.size → dval (byt s k) < 10
inductive Rd (t : ByteArray) : Option (Nat × Nat) → Prop
  | over {i : Nat} : i < t.size → byt t i = 47 → (∀ k, k < i → byt t k ≠ 47) → isT 10 (t.extract 0 i) → isT 10 (t.extract (i + 1) t.size) → val 10 (t.extract (i + 1) t.size) ≠ 0 → Rd t (some (val 10 (t.extract 0 i), val 10 (t.extract (i + 1) t.size)))
  | overBad {i : Nat} : i < t.size → byt t i = 47 → (∀ k, k < i → byt t k ≠ 47) → ¬ (isT 10 (t.extract 0 i) ∧ isT 10 (t.extract (i + 1) t.size) ∧ val 10 (t.extract (i + 1) t.size) ≠ 0) → Rd t none
  | point {i : Nat} : (∀ k, k < t.size → byt t k ≠ 47) → i < t.size → byt t i = 46 → (∀ k, k < i → byt t k ≠ 46) → isT 10 (t.extract 0 i) → tl10 (t.extract (i + 1) t.size) → Rd t (some (val 10 (t.extract 0 i) * 10 ^ (t.size - (i + 1)) + val 10 (t.extract (i + 1) t.size), 10 ^ (t.size - (i + 1))))
  | pointBad {i : Nat} : (∀ k, k < t.size → byt t k ≠ 47) → i < t.size → byt t i = 46 → (∀ k, k < i → byt t k ≠ 46) → ¬ (isT 10 (t.extract 0 i) ∧ tl10 (t.extract (i + 1) t.size)) → Rd t none
  | whole : (∀ k, k < t.size → byt t k ≠ 47) → (∀ k, k < t.size → byt t k ≠ 46) → isT 10 t → Rd t (some (val 10 t, 1))
  | wholeBad : (∀ k, k < t.size → byt t k ≠ 47) → (∀ k, k < t.size → byt t k ≠ 46) → ¬ isT 10 t → Rd t none
theorem one_isT {s : ByteArray} : isT 10 (⟨#[49]⟩ ++ s) ↔ ∀ k, k < s.size → dval (byt s k) < 10 := by
  have hs : (⟨#[49]⟩ ++ s : ByteArray).size = s.size + 1 := by rw [ByteArray.size_append, show (⟨#[49]⟩ : ByteArray).size = 1 from rfl]; omega
  have h0 : byt (⟨#[49]⟩ ++ s) 0 = 49 := by rw [byt_of (by omega), ByteArray.getElem_append_left (by decide)]; rfl
  have h1 : ∀ k, k < s.size → byt (⟨#[49]⟩ ++ s) (k + 1) = byt s k := fun k hk => by
    rw [byt_of (by omega), byt_of hk, ByteArray.getElem_append_right (by show 1 ≤ k + 1; omega)]
    rfl
  constructor
  · intro h k hk
    rw [← h1 k hk]
    exact h.2.2 (k + 1) (by omega)
  · intro h
    refine ⟨by omega, fun _ => by rw [h0]; decide, fun k hk => ?_⟩
    cases k with
    | zero => rw [h0]; decide
    | succ k => rw [h1 k (by omega)]; exact h k (by omega)
theorem one_val {s : ByteArray} : val 10 (⟨#[49]⟩ ++ s) = 10 ^ s.size + val 10 s := by
  have hs : (⟨#[49]⟩ ++ s : ByteArray).size = 1 + s.size := by rw [ByteArray.size_append]; rfl
  have h0 : byt (⟨#[49]⟩ ++ s) 0 = 49 := by rw [byt_of (by omega), ByteArray.getElem_append_left (by decide)]; rfl
  have h1 : ∀ k, k < s.size → byt (⟨#[49]⟩ ++ s) (1 + k) = byt s k := fun k hk => by
    rw [byt_of (by omega), byt_of hk, ByteArray.getElem_append_right (by show 1 ≤ 1 + k; omega)]
    congr 2
    show 1 + k - 1 = k
    omega
  unfold val
  rw [hs, tvr_split]
  have e1 : tvr 10 (fun k => dval (byt (⟨#[49]⟩ ++ s) k)) 0 1 = 1 := by
    simp only [tvr, h0, Nat.add_zero]
    decide
  rw [e1, Nat.one_mul]
  congr 1
  exact tvr_congr fun n hn => by simp only [Nat.zero_add]; rw [h1 n hn]
end Go.Proofs.YtnoiiphgpjifgaaGreatDoor
