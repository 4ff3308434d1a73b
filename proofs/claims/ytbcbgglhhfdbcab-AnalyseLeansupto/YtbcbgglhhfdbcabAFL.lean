/-
  analyse: what Final tells, by places (pure).
-/
import Derived.Test.YtbcbgglhhfdbcabALT
namespace Go.Proofs.Ytbcbgglhhfdbcab
open Go.RowKit
set_option linter.unusedVariables false
set_option linter.unusedSimpArgs false
theorem fin_pw (cau : Nat → Nat → Bool) (rsn : Nat → Int) : ∀ (n : Nat) (S : Nat → Bool), List.Pairwise (fun a b => b < a) (finN cau rsn n S)
  | 0, _ => List.Pairwise.nil
  | n + 1, S => by
    rw [finN_succ]
    split
    · split
      · exact List.Pairwise.cons (fun z hz => fin_lt cau rsn hz) (fin_pw cau rsn n S)
      · exact fin_pw cau rsn n _
    · exact fin_pw cau rsn n S
theorem fin_rsn (cau : Nat → Nat → Bool) (rsn : Nat → Int) : ∀ {n : Nat} {S : Nat → Bool} {z : Nat}, z ∈ finN cau rsn n S → rsn z = -1
  | 0, S, z, h => by simp [finN] at h
  | n + 1, S, z, h => by
    rw [finN_succ] at h
    split at h
    · split at h
      · rename_i h2
        rcases List.mem_cons.1 h with e | e
        · rw [e]; exact h2
        · exact fin_rsn cau rsn e
      · exact fin_rsn cau rsn h
    · exact fin_rsn cau rsn h
def finP (C : List (List Int)) (M : List Mk) (x : Int) : List Nat := (finN (cauB C M) (rsnF M) M.length (inL [plV M x])).reverse
theorem finA_eq (C : List (List Int)) (M : List Mk) (x : Int) : finA C M x = (finP C M x).map (litF M) := by unfold finA finP finL; rw [List.map_reverse]
theorem finP_lt {C : List (List Int)} {M : List Mk} {x : Int} {i : Nat} (hi : i < (finP C M x).length) : (finP C M x).getD i 0 < M.length ∧ rsnF M ((finP C M x).getD i 0) = -1 := by
  have hm : (finP C M x).getD i 0 ∈ finP C M x := getD_mem hi
  unfold finP at hm ⊢
  rw [List.mem_reverse] at hm
  exact ⟨fin_lt _ _ hm, fin_rsn _ _ hm⟩
theorem finP_asc {C : List (List Int)} {M : List Mk} {x : Int} {i : Nat} (hi : i + 1 < (finP C M x).length) : (finP C M x).getD i 0 < (finP C M x).getD (i + 1) 0 := by
  have hp : List.Pairwise (fun a b => a < b) (finP C M x) := by
    unfold finP
    rw [List.pairwise_reverse]
    exact fin_pw _ _ _ _
  rw [List.pairwise_iff_getElem] at hp
  have := hp i (i + 1) (by omega) hi (by omega)
  simpa [List.getD, List.getElem?_eq_getElem hi, List.getElem?_eq_getElem (show i < (finP C M x).length by omega)] using this
theorem lit_inj {C : List (List Int)} {M : List Mk} (hc : Chk C M) {i j : Nat} (hi : i < M.length) (hj : j < M.length) (h : litF M i = litF M j) : i = j := by
  have h1 := hc.self hi
  have h2 := hc.self hj
  rw [h] at h1
  omega
/-- the law's answer -/
theorem leans_yes {C : List (List Int)} {M : List Mk} {T : List Int} {x : Int} (hc : Chk C M) (hx : 0 ≤ plV M x) (h1 : C.all (fun c => c.any (truthV T)) = true) (h2 : (finA C M x).all (truthV T) = true) : truthV T x = true := by
  rcases plV_spec M x with ⟨h3, _⟩ | ⟨m, hm, h3, h4, _⟩
  · omega
  · have h5 := lean_true hc (fun c hc => List.all_eq_true.1 h1 c hc) M.length (Nat.le_refl _) (inL [plV M x]) (fun z hz => by
      refine List.all_eq_true.1 h2 _ ?_
      rw [finA_eq]
      exact List.mem_map.2 ⟨z, by unfold finP; rw [List.mem_reverse]; exact hz, rfl⟩) m hm (by rw [inL_iff, h3]; simp)
    have h6 : litF M m = x := h4
    rwa [h6] at h5
end Go.Proofs.Ytbcbgglhhfdbcab
