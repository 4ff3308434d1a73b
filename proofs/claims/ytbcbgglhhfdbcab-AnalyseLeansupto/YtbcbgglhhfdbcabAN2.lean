/-
  analyse: marks that may be (pure).
-/
import Derived.Test.YtbcbgglhhfdbcabAN1
namespace Go.Proofs.Ytbcbgglhhfdbcab
open Go.RowKit
set_option linter.unusedVariables false
set_option linter.unusedSimpArgs false
/-- the level ahead of a place -/
def ahd (M : List Mk) (i : Nat) : Int := if i = 0 then 0 else (M.getD (i - 1) default).v
/-- a clause has a literal, and all else of it is false -/
def forc (M : List Mk) (c : List Int) (l : Int) : Prop := l ∈ c ∧ ∀ x ∈ c, x = l ∨ (isLit x = true ∧ 0 ≤ plV M (-x))
/-- a mark has its reason -/
def Sup (C : List (List Int)) (M : List Mk) (i : Nat) : Prop := ((M.getD i default).r = -1 ∧ (M.getD i default).v = ahd M i + 1) ∨
  ((M.getD i default).r ≠ -1 ∧ 0 ≤ (M.getD i default).r ∧ (M.getD i default).r < C.length ∧ (M.getD i default).v = ahd M i ∧ forc (M.take i) (C.getD (M.getD i default).r.toNat []) (M.getD i default).l)
theorem Sup_iff (C : List (List Int)) (M : List Mk) (i : Nat) : Sup C M i ↔ ((M.getD i default).r = -1 ∧ (M.getD i default).v = ahd M i + 1) ∨
  ((M.getD i default).r ≠ -1 ∧ 0 ≤ (M.getD i default).r ∧ (M.getD i default).r < C.length ∧ (M.getD i default).v = ahd M i ∧ forc (M.take i) (C.getD (M.getD i default).r.toNat []) (M.getD i default).l) := Iff.rfl
structure OkAt (C : List (List Int)) (M : List Mk) (i : Nat) : Prop where
  lit : isLit (M.getD i default).l = true
  new : plV (M.take i) (M.getD i default).l < 0
  neg : plV (M.take i) (-(M.getD i default).l) < 0
  sup : Sup C M i
/-- the first k marks may be -/
def ChkK (C : List (List Int)) (M : List Mk) (k : Nat) : Prop := ∀ i, i < k → OkAt C M i
def Chk (C : List (List Int)) (M : List Mk) : Prop := ChkK C M M.length
open Classical in
/-- what Check answers -/
noncomputable def ckz (C : List (List Int)) (M : List Mk) : Int := if Chk C M then 0 else 200
theorem ckz_yes {C : List (List Int)} {M : List Mk} (h : Chk C M) : ckz C M = 0 := by unfold ckz; rw [if_pos h]
theorem ckz_no {C : List (List Int)} {M : List Mk} (h : ¬ Chk C M) : ckz C M = 200 := by unfold ckz; rw [if_neg h]
theorem ChkK.zero (C : List (List Int)) (M : List Mk) : ChkK C M 0 := fun i hi => absurd hi (by omega)
theorem ChkK.succ {C : List (List Int)} {M : List Mk} {k : Nat} (h : ChkK C M k) (h1 : OkAt C M k) : ChkK C M (k + 1) := fun i hi => by
  rcases Nat.lt_or_ge i k with e | e
  · exact h i e
  · obtain rfl : i = k := by omega
    exact h1
theorem ChkK.not {C : List (List Int)} {M : List Mk} {k : Nat} (hk : k < M.length) (h : ¬ OkAt C M k) : ¬ Chk C M := fun q => h (q k hk)
theorem ChkK.lvl {C : List (List Int)} {M : List Mk} {k : Nat} (h : ChkK C M k) : ∀ {i : Nat}, i ≤ k → 0 ≤ ahd M i ∧ ahd M i ≤ i
  | 0, _ => ⟨by simp [ahd], by simp [ahd]⟩
  | i + 1, hi => by
    have ih := ChkK.lvl h (i := i) (by omega)
    have h1 := (h i (by omega)).sup
    have e : ahd M (i + 1) = (M.getD i default).v := by unfold ahd; rw [if_neg (by omega), Nat.add_sub_cancel]
    rw [e]
    rcases h1 with ⟨_, h1⟩ | ⟨_, _, _, h1, _⟩
    · rw [h1]; omega
    · rw [h1]; omega
theorem Chk.lev {C : List (List Int)} {M : List Mk} (h : Chk C M) {i : Nat} (hi : i < M.length) : 0 ≤ (M.getD i default).v ∧ (M.getD i default).v ≤ i + 1 := by
  have h1 := ChkK.lvl h (i := i + 1) (by omega)
  have e : ahd M (i + 1) = (M.getD i default).v := by unfold ahd; rw [if_neg (by omega), Nat.add_sub_cancel]
  rw [e] at h1
  omega
theorem isLit_iff {x : Int} : isLit x = true ↔ x ≠ 0 ∧ x ≠ -9223372036854775808 := by unfold isLit; simp
end Go.Proofs.Ytbcbgglhhfdbcab
