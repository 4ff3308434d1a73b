/-
  What Print says of a tree, without memory: its text, its first error, how deep it is; and what its text is read as.
-/
import Derived.Test.YtpfmamimhhnbiaaGreatDoorSS0
import Derived.Test.YtpfmamimhhnbiaaGreatDoorTP6
import Derived.Test.YtpfmamimhhnbiaaGreatDoorTQ1
namespace Go.Proofs.YtpfmamimhhnbiaaGreatDoor
open Go.RowKit
set_option linter.unusedVariables false
set_option linter.unusedSimpArgs false
theorem prR_ex (k : Int) (t : ByteArray) : ∃ x : ByteArray × Int, PrR k t x.1 x.2 := by
  by_cases k3 : k = 3
  · by_cases hp : isPl t
    · exact ⟨(t, 0), fun _ => ⟨fun _ => ⟨rfl, rfl⟩, fun c => absurd hp c, fun c => absurd hp c⟩, fun e => absurd (k3.symm.trans e) (by decide), fun e => absurd (k3.symm.trans e) (by decide), fun e => absurd k3 e⟩
    · by_cases hn : hasB nbN t
      · exact ⟨(empS, 122), fun _ => ⟨fun c => absurd c hp, fun _ _ => ⟨rfl, rfl⟩, fun _ c => absurd hn c⟩, fun e => absurd (k3.symm.trans e) (by decide), fun e => absurd (k3.symm.trans e) (by decide), fun e => absurd k3 e⟩
      · exact ⟨(barS t, 0), fun _ => ⟨fun c => absurd c hp, fun _ c => absurd c hn, fun _ _ => ⟨rfl, rfl⟩⟩, fun e => absurd (k3.symm.trans e) (by decide), fun e => absurd (k3.symm.trans e) (by decide), fun e => absurd k3 e⟩
  by_cases k4 : k = 4
  · by_cases hp : isPl t
    · exact ⟨(⟨#[58]⟩ ++ t, 0), fun e => absurd e k3, fun _ => ⟨fun _ => ⟨rfl, rfl⟩, fun c => absurd hp c⟩, fun e => absurd (k4.symm.trans e) (by decide), fun _ e => absurd k4 e⟩
    · exact ⟨(empS, 122), fun e => absurd e k3, fun _ => ⟨fun c => absurd c hp, fun _ => ⟨rfl, rfl⟩⟩, fun e => absurd (k4.symm.trans e) (by decide), fun _ e => absurd k4 e⟩
  by_cases k9 : k = 9
  · by_cases hp : hasB nqN t
    · exact ⟨(empS, 122), fun e => absurd e k3, fun e => absurd e k4, fun _ => ⟨fun _ => ⟨rfl, rfl⟩, fun c => absurd hp c⟩, fun _ _ e => absurd k9 e⟩
    · exact ⟨(quoS t, 0), fun e => absurd e k3, fun e => absurd e k4, fun _ => ⟨fun c => absurd c hp, fun _ => ⟨rfl, rfl⟩⟩, fun _ _ e => absurd k9 e⟩
  by_cases hp : OkT (hdk k ++ t) k t
  · exact ⟨(hdk k ++ t, 0), fun e => absurd e k3, fun e => absurd e k4, fun e => absurd e k9, fun _ _ _ => ⟨fun _ => ⟨rfl, rfl⟩, fun c => absurd hp c⟩⟩
  · exact ⟨(empS, 120), fun e => absurd e k3, fun e => absurd e k4, fun e => absurd e k9, fun _ _ _ => ⟨fun c => absurd c hp, fun _ => ⟨rfl, rfl⟩⟩⟩
/-- what Print of a token says -/
noncomputable def pkT (k : Int) (t : ByteArray) : ByteArray × Int := Classical.choose (prR_ex k t)
theorem pkT_is (k : Int) (t : ByteArray) : PrR k t (pkT k t).1 (pkT k t).2 := Classical.choose_spec (prR_ex k t)
theorem pkT_uniq {k : Int} {t s : ByteArray} {c : Int} (h : PrR k t s c) : pkT k t = (s, c) := by
  obtain ⟨h1, h2⟩ := (pkT_is k t).uniq h
  rw [← h1, ← h2]
/-- a token's text in a tree; a bracket has none -/
noncomputable def wtS (t : TokZ) : List UInt8 := if t.k = 1 ∨ t.k = 2 then [] else lsB (pkT t.k t.t).1
noncomputable def wtC (t : TokZ) : Int := if t.k = 1 ∨ t.k = 2 then 120 else (pkT t.k t.t).2
mutual
noncomputable def erZ : NdZ → Int
  | .mk t kids => if t.k = 0 then erL kids else wtC t
noncomputable def erL : List NdZ → Int
  | [] => 0
  | x :: l => if erZ x = 0 then erL l else erZ x
end
mutual
noncomputable def txZ : NdZ → List UInt8
  | .mk t kids => if t.k = 0 then 40 :: (txL kids ++ [41]) else wtS t
noncomputable def txL : List NdZ → List UInt8
  | [] => []
  | x :: l => txZ x ++ txM l
noncomputable def txM : List NdZ → List UInt8
  | [] => []
  | x :: l => 32 :: (txZ x ++ txM l)
end
mutual
/-- no more than m lists stand in one another -/
def dok : Nat → NdZ → Bool
  | m, .mk t kids => if t.k = 0 then (if m = 0 then false else dokL (m - 1) kids) else true
def dokL : Nat → List NdZ → Bool
  | _, [] => true
  | m, x :: l => dok m x && dokL m l
end
mutual
/-- how much there is of it -/
def wgZ : NdZ → Nat
  | .mk t kids => t.t.size + 1 + wgL kids
def wgL : List NdZ → Nat
  | [] => 0
  | x :: l => wgZ x + wgL l
end
mutual
def ctZ : NdZ → Nat
  | .mk t kids => 1 + ctL kids
def ctL : List NdZ → Nat
  | [] => 0
  | x :: l => ctZ x + ctL l
end
mutual
def szZ : NdZ → Nat
  | .mk t kids => if t.k = 0 then 2 + szY kids else 1
def szY : List NdZ → Nat
  | [] => 0
  | x :: l => szZ x + szY l
end
mutual
theorem ct_wg : ∀ n : NdZ, ctZ n ≤ wgZ n
  | .mk t kids => by simp only [ctZ, wgZ]; have := ct_wgL kids; omega
theorem ct_wgL : ∀ l : List NdZ, ctL l ≤ wgL l
  | [] => Nat.le_refl _
  | x :: l => by simp only [ctL, wgL]; have := ct_wg x; have := ct_wgL l; omega
end
mutual
theorem sz_wg : ∀ n : NdZ, szZ n ≤ 2 * wgZ n
  | .mk t kids => by simp only [szZ, wgZ]; have := sz_wgL kids; split <;> omega
theorem sz_wgL : ∀ l : List NdZ, szY l ≤ 2 * wgL l
  | [] => Nat.le_refl _
  | x :: l => by simp only [szY, wgL]; have := sz_wg x; have := sz_wgL l; omega
end
theorem wtS_len (t : TokZ) : (wtS t).length ≤ 2 * t.t.size + 2 := by
  unfold wtS
  split
  · simp
  · rw [lsB_len]; exact (pkT_is t.k t.t).size
mutual
theorem tx_wg : ∀ n : NdZ, (txZ n).length + 1 ≤ 4 * wgZ n
  | .mk t kids => by
    simp only [txZ, wgZ]
    have h1 := tx_wgL kids
    have h2 := wtS_len t
    split
    · simp only [List.length_cons, List.length_append, List.length_nil]; omega
    · omega
theorem tx_wgL : ∀ l : List NdZ, (txL l).length ≤ 4 * wgL l
  | [] => by simp [txL]
  | x :: l => by simp only [txL, wgL, List.length_append]; have := tx_wg x; have := tx_wgM l; omega
theorem tx_wgM : ∀ l : List NdZ, (txM l).length ≤ 4 * wgL l
  | [] => by simp [txM]
  | x :: l => by simp only [txM, wgL, List.length_append, List.length_cons]; have := tx_wg x; have := tx_wgM l; omega
end
theorem wgL_app (a b : List NdZ) : wgL (a ++ b) = wgL a + wgL b := by
  induction a with
  | nil => simp [wgL]
  | cons x a ih => simp only [List.cons_append, wgL, ih]; omega
theorem wgL_take {l : List NdZ} {k : Nat} (h : k < l.length) : wgL (l.take (k + 1)) = wgL (l.take k) + wgZ l[k] := by
  rw [List.take_add_one, List.getElem?_eq_getElem h, wgL_app]
  simp [wgL]
theorem wgL_take_le (l : List NdZ) (k : Nat) : wgL (l.take k) ≤ wgL l := by
  have := wgL_app (l.take k) (l.drop k)
  rw [List.take_append_drop] at this
  omega
theorem wgL_mem {l : List NdZ} {k : Nat} (h : k < l.length) : wgZ l[k] ≤ wgL l := by
  have := wgL_take h
  have := wgL_take_le l (k + 1)
  omega
theorem txM_app (a b : List NdZ) : txM (a ++ b) = txM a ++ txM b := by
  induction a with
  | nil => simp [txM]
  | cons x a ih => simp only [List.cons_append, txM, ih, List.append_assoc]
theorem txL_take {l : List NdZ} {k : Nat} (h : k < l.length) : txL (l.take (k + 1)) = txL (l.take k) ++ ((if 0 < k then [32] else []) ++ txZ l[k]) := by
  cases l with
  | nil => simp at h
  | cons x l =>
    cases k with
    | zero => simp [txL, txM]
    | succ k =>
      have h2 : k < l.length := by simpa using h
      rw [List.take_succ_cons, List.take_succ_cons]
      simp only [txL]
      rw [List.take_add_one, List.getElem?_eq_getElem h2, txM_app]
      simp [txM]
theorem erL_take {l : List NdZ} {k : Nat} (h : k < l.length) (h0 : ∀ i (hi : i < l.length), i < k → erZ l[i] = 0) (hk : erZ l[k] ≠ 0) : erL l = erZ l[k] := by
  induction l generalizing k with
  | nil => simp at h
  | cons x l ih =>
    cases k with
    | zero => simp only [erL, List.getElem_cons_zero] at hk ⊢; rw [if_neg hk]
    | succ k =>
      have h1 := h0 0 (by simp) (by omega)
      simp only [List.getElem_cons_zero] at h1
      simp only [erL, List.getElem_cons_succ] at hk ⊢
      rw [if_pos h1]
      exact ih (by simpa using h) (fun i hi hik => by have := h0 (i + 1) (by simpa using hi) (by omega); simpa using this) hk
theorem erL_all {l : List NdZ} (h0 : ∀ i (hi : i < l.length), erZ l[i] = 0) : erL l = 0 := by
  induction l with
  | nil => simp [erL]
  | cons x l ih =>
    have h1 := h0 0 (by simp)
    simp only [List.getElem_cons_zero] at h1
    simp only [erL]
    rw [if_pos h1]
    exact ih (fun i hi => by have := h0 (i + 1) (by simpa using hi); simpa using this)
theorem erL_mem : ∀ {l : List NdZ}, erL l = 0 → ∀ x ∈ l, erZ x = 0
  | x :: l, h, y, hy => by
    simp only [erL] at h
    by_cases hx : erZ x = 0
    · rw [if_pos hx] at h
      rcases List.mem_cons.1 hy with e | e
      · rw [e]; exact hx
      · exact erL_mem h y e
    · rw [if_neg hx] at h; exact absurd h hx
theorem dokL_mem {m : Nat} : ∀ {l : List NdZ}, (dokL m l = true ↔ ∀ x ∈ l, dok m x = true)
  | [] => by simp [dokL]
  | x :: l => by simp only [dokL, Bool.and_eq_true, List.mem_cons, forall_eq_or_imp]; rw [dokL_mem]
mutual
theorem same_all : ∀ (a b : NdZ), sameZ a b = true → txZ a = txZ b ∧ erZ a = erZ b ∧ ∀ m, dok m a = dok m b
  | .mk t k, .mk t2 k2, h => by
    simp only [sameZ] at h
    by_cases hk : t.k = t2.k
    · rw [if_pos hk] at h
      by_cases h0 : t.k = 0
      · rw [if_pos h0] at h
        have h02 : t2.k = 0 := hk ▸ h0
        have ih := same_allL k k2 h
        refine ⟨?_, ?_, fun m => ?_⟩
        · simp only [txZ]; rw [if_pos h0, if_pos h02, ih.1]
        · simp only [erZ]; rw [if_pos h0, if_pos h02, ih.2.2.1]
        · simp only [dok]; rw [if_pos h0, if_pos h02, ih.2.2.2]
      · rw [if_neg h0] at h
        have h02 : ¬ t2.k = 0 := hk ▸ h0
        have ht : t.t = t2.t := by
          have := eq_of_beq h
          apply ByteArray.ext
          apply Array.ext'
          rw [← ByteArray.toList_eq, ← ByteArray.toList_eq]
          exact this
        refine ⟨?_, ?_, fun m => ?_⟩
        · simp only [txZ]; rw [if_neg h0, if_neg h02]; unfold wtS; rw [hk, ht]
        · simp only [erZ]; rw [if_neg h0, if_neg h02]; unfold wtC; rw [hk, ht]
        · simp only [dok]; rw [if_neg h0, if_neg h02]
    · rw [if_neg hk] at h; cases h
theorem same_allL : ∀ (a b : List NdZ), sameL a b = true → txL a = txL b ∧ txM a = txM b ∧ erL a = erL b ∧ ∀ m, dokL m a = dokL m b
  | [], [], _ => ⟨rfl, rfl, rfl, fun _ => rfl⟩
  | x :: a, y :: b, h => by
    simp only [sameL, Bool.and_eq_true] at h
    have h1 := same_all x y h.1
    have h2 := same_allL a b h.2
    refine ⟨?_, ?_, ?_, fun m => ?_⟩
    · simp only [txL]; rw [h1.1, h2.2.1]
    · simp only [txM]; rw [h1.1, h2.2.1]
    · simp only [erL]; rw [h1.2.1, h2.2.2.1]
    · simp only [dokL]; rw [h1.2.2, h2.2.2.2]
  | [], _ :: _, h => by simp [sameL] at h
  | _ :: _, [], h => by simp [sameL] at h
end
/-- an atom's text is one token -/
theorem atom_one {t : TokZ} (h0 : t.k ≠ 0) (h : wtC t = 0) : ∃ s, wtS t = lsB s ∧ OneT s t.k t.t ∧ t.k ≠ 1 ∧ t.k ≠ 2 ∧ 1 ≤ t.k ∧ t.k ≤ 9 := by
  unfold wtC at h
  unfold wtS
  by_cases h12 : t.k = 1 ∨ t.k = 2
  · rw [if_pos h12] at h; exact absurd h (by decide)
  · rw [if_neg h12] at h ⊢
    have hp := pkT_is t.k t.t
    rw [h] at hp
    have h1 := hp.one
    have := ok_kind h1.ok
    exact ⟨_, rfl, h1, fun c => h12 (Or.inl c), fun c => h12 (Or.inr c), this.1, this.2⟩
end Go.Proofs.YtpfmamimhhnbiaaGreatDoor
