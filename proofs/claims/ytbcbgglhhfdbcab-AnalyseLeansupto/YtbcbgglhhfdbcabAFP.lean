/-
  analyse: what Final tells (pure).
-/
import Derived.Test.YtbcbgglhhfdbcabAG1
namespace Go.Proofs.Ytbcbgglhhfdbcab
open Go.RowKit
set_option linter.unusedVariables false
set_option linter.unusedSimpArgs false
section
variable (cau : Nat → Nat → Bool) (rsn : Nat → Int)
/-- the decided places on which a set leans, falling -/
def finN : Nat → (Nat → Bool) → List Nat
  | 0, _ => []
  | n + 1, S => if S n then (if rsn n = -1 then n :: finN n S else finN n (uni S (cau n))) else finN n S
theorem finN_succ (n : Nat) (S : Nat → Bool) : finN cau rsn (n + 1) S = if S n then (if rsn n = -1 then n :: finN cau rsn n S else finN cau rsn n (uni S (cau n))) else finN cau rsn n S := rfl
theorem finN_skip {S : Nat → Bool} : ∀ {n m : Nat}, m ≤ n → (∀ z, m ≤ z → z < n → S z = false) → finN cau rsn n S = finN cau rsn m S
  | 0, m, h, _ => by rw [show m = 0 by omega]
  | n + 1, m, h, hz => by
    by_cases e : m = n + 1
    · rw [e]
    · rw [finN_succ, hz n (by omega) (by omega), if_neg (by simp)]
      exact finN_skip (by omega) fun z h1 h2 => hz z h1 (by omega)
theorem fin_none {S : Nat → Bool} {n : Nat} (h : top S n = none) : finN cau rsn n S = [] := by
  rw [finN_skip cau rsn (m := 0) (Nat.zero_le _) fun z _ b => top_none h z b]; rfl
theorem fin_top {S : Nat → Bool} {n q : Nat} (h : top S n = some q) : finN cau rsn n S = if rsn q = -1 then q :: finN cau rsn q S else finN cau rsn q (uni S (cau q)) := by
  obtain ⟨h1, h2, h3⟩ := top_some h
  rw [finN_skip cau rsn (m := q + 1) (by omega) fun z a b => h3 z (by omega) b, finN_succ, if_pos h2]
theorem fin_dec {S : Nat → Bool} {n q : Nat} (h : top S n = some q) (hd : rsn q = -1) : finN cau rsn n S = q :: finN cau rsn q S := by rw [fin_top cau rsn h, if_pos hd]
theorem fin_res {S : Nat → Bool} {n q : Nat} (h : top S n = some q) (hd : rsn q ≠ -1) : finN cau rsn n S = finN cau rsn q (uni S (cau q)) := by rw [fin_top cau rsn h, if_neg hd]
theorem fin_congr {S T : Nat → Bool} : ∀ {n : Nat}, (∀ z, z < n → S z = T z) → finN cau rsn n S = finN cau rsn n T
  | 0, _ => rfl
  | n + 1, h => by
    rw [finN_succ, finN_succ, h n (by omega), fin_congr (S := S) (T := T) (n := n) fun z hz => h z (by omega),
      fin_congr (S := uni S (cau n)) (T := uni T (cau n)) (n := n) fun z hz => by unfold uni; rw [h z (by omega)]]
theorem fin_len {S : Nat → Bool} : ∀ {n : Nat}, (finN cau rsn n S).length ≤ n
  | 0 => Nat.zero_le _
  | n + 1 => by
    rw [finN_succ]
    split
    · split
      · rw [List.length_cons]; have := fin_len (S := S) (n := n); omega
      · have := fin_len (S := uni S (cau n)) (n := n); omega
    · have := fin_len (S := S) (n := n); omega
theorem fin_lt {S : Nat → Bool} : ∀ {n : Nat} {z : Nat}, z ∈ finN cau rsn n S → z < n
  | 0, z, h => by simp [finN] at h
  | n + 1, z, h => by
    rw [finN_succ] at h
    split at h
    · split at h
      · rcases List.mem_cons.1 h with e | e
        · omega
        · have := fin_lt e; omega
      · have := fin_lt h; omega
    · have := fin_lt h; omega
end
def finL (C : List (List Int)) (M : List Mk) (n : Nat) (S : Nat → Bool) : List Int := (finN (cauB C M) (rsnF M) n S).map (litF M)
/-- what Final tells -/
def finA (C : List (List Int)) (M : List Mk) (x : Int) : List Int := (finL C M M.length (inL [plV M x])).reverse
open Classical in
noncomputable def ansF (C : List (List Int)) (M : List Mk) (x : Int) : List Int := if Chk C M ∧ 0 ≤ plV M x then finA C M x else []
open Classical in
noncomputable def errF (C : List (List Int)) (M : List Mk) (x : Int) : Int := if Chk C M then (if 0 ≤ plV M x then 0 else 210) else 200
theorem ansF_bad {C : List (List Int)} {M : List Mk} {x : Int} (h : ¬ Chk C M) : ansF C M x = [] ∧ errF C M x = 200 := ⟨by unfold ansF; rw [if_neg (fun q => h q.1)], by unfold errF; rw [if_neg h]⟩
theorem ansF_none {C : List (List Int)} {M : List Mk} {x : Int} (h : Chk C M) (h2 : plV M x < 0) : ansF C M x = [] ∧ errF C M x = 210 := ⟨by unfold ansF; rw [if_neg (fun q => by have := q.2; omega)], by unfold errF; rw [if_pos h, if_neg (by omega)]⟩
theorem ansF_good {C : List (List Int)} {M : List Mk} {x : Int} (h : Chk C M) (h2 : 0 ≤ plV M x) : ansF C M x = finA C M x ∧ errF C M x = 0 := ⟨by unfold ansF; rw [if_pos ⟨h, h2⟩], by unfold errF; rw [if_pos h, if_pos h2]⟩
theorem of_le {M : List Mk} (h : Dst M) {x : Int} (h1 : -9223372036854775808 < x) (h2 : x ≤ 9223372036854775807) : decide (ofF (plA M) x ≤ 0) = decide (plV M x < 0) := by
  rw [Bool.eq_iff_iff, decide_eq_true_eq, decide_eq_true_eq]
  by_cases q : 0 ≤ plV M x
  · rw [of_pos h h1 h2 q]; omega
  · by_cases q2 : 0 ≤ plV M (-x)
    · rw [of_neg h h1 h2 q2]; omega
    · rw [of_none (by omega) (by omega)]; omega
end Go.Proofs.Ytbcbgglhhfdbcab
