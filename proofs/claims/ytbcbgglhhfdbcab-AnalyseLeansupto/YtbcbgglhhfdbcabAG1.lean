/-
  analyse: what marks that may be have (pure): levels rise, what forces stands ahead.
-/
import Derived.Test.YtbcbgglhhfdbcabAG0
import Derived.Test.YtbcbgglhhfdbcabANE
namespace Go.Proofs.Ytbcbgglhhfdbcab
open Go.RowKit
set_option linter.unusedVariables false
set_option linter.unusedSimpArgs false
theorem plV_take {M : List Mk} {k : Nat} {x : Int} (hk : k ≤ M.length) (h : 0 ≤ plV (M.take k) x) : plV M x = plV (M.take k) x ∧ plV M x < k := by
  have hl : (M.take k).length = k := by rw [List.length_take]; omega
  rcases plV_spec (M.take k) x with ⟨h1, _⟩ | ⟨m, hm, h1, h2, h3⟩
  · omega
  · rw [hl] at hm
    rw [getD_take_lt _ _ hm] at h2
    have h4 : plV M x = m := by
      unfold plV
      exact fstN_at (p := fun j => decide ((M.getD j default).l = x)) (decide_eq_true h2) (fun i hi => decide_eq_false (by have := h3 i hi; rwa [getD_take_lt _ _ (by omega)] at this)) (by omega)
    rw [h4, h1]
    exact ⟨rfl, by omega⟩
theorem ahd_succ (M : List Mk) (i : Nat) : ahd M (i + 1) = levF M i := by unfold ahd levF; rw [if_neg (by omega), Nat.add_sub_cancel]
section
variable {C : List (List Int)} {M : List Mk} (hc : Chk C M)
include hc
theorem Chk.dst : Dst M := by
  have := ChkK.dst hc (Nat.le_refl _)
  rwa [List.take_length] at this
theorem Chk.step {j : Nat} (hj : j < M.length) : ahd M j ≤ levF M j ∧ levF M j ≤ ahd M j + 1 := by
  have h := (hc j hj).sup
  unfold levF
  rcases h with ⟨_, h⟩ | ⟨_, _, _, h, _⟩ <;> omega
theorem Chk.mono {i : Nat} : ∀ {j : Nat}, i ≤ j → j < M.length → levF M i ≤ levF M j
  | 0, h, _ => by rw [show i = 0 by omega]; exact Int.le_refl _
  | j + 1, h, hj => by
    by_cases e : i = j + 1
    · rw [e]; exact Int.le_refl _
    · have h1 := Chk.mono (i := i) (j := j) (by omega) (by omega)
      have h2 := (hc.step hj).1
      rw [ahd_succ] at h2
      omega
theorem Chk.pos {j : Nat} (hj : j < M.length) : 0 ≤ levF M j ∧ levF M j ≤ M.length := by
  have := hc.lev hj
  unfold levF
  omega
theorem Chk.decided {i j : Nat} (hd : rsnF M j = -1) (hij : i < j) (hj : j < M.length) : levF M i < levF M j := by
  have h := (hc j hj).sup
  unfold rsnF at hd
  rcases h with ⟨_, h⟩ | ⟨h, _⟩
  · obtain ⟨k, rfl⟩ : ∃ k, j = k + 1 := ⟨j - 1, by omega⟩
    rw [ahd_succ] at h
    have := hc.mono (i := i) (j := k) (by omega) (by omega)
    unfold levF at *
    omega
  · exact absurd hd h
theorem Chk.decided0 {j : Nat} (hd : rsnF M j = -1) (hj : j < M.length) : 0 < levF M j := by
  have h := (hc j hj).sup
  unfold rsnF at hd
  rcases h with ⟨_, h⟩ | ⟨h, _⟩
  · have h1 := ChkK.lvl hc (i := j) (by omega)
    unfold levF
    omega
  · exact absurd hd h
theorem Chk.self {z : Nat} (hz : z < M.length) : plV M (litF M z) = z := by
  rcases plV_spec M (litF M z) with ⟨_, h2⟩ | ⟨m, hm, h1, h2, h3⟩
  · exact absurd rfl (h2 z hz)
  · rcases Nat.lt_trichotomy m z with e | e | e
    · have h4 := (hc z hz).new
      rw [plV_neg] at h4
      have h5 := h4 m (by rw [List.length_take]; omega)
      rw [getD_take_lt _ _ e] at h5
      exact absurd h2 h5
    · rw [h1, e]
    · exact absurd rfl (h3 z e)
theorem Chk.flsSelf {z : Nat} (hz : z < M.length) (h64 : i64 (litF M z)) : flsV M (-litF M z) = true := by
  have h1 := isLit_iff.1 (hc z hz).lit
  have h2 := hc.self hz
  unfold i64 at h64
  change litF M z ≠ 0 ∧ litF M z ≠ -9223372036854775808 at h1
  unfold flsV
  rw [Int.neg_neg, h2, isLit_iff.2 ⟨by omega, by omega⟩]
  simp
/-- the reason of a mark that was forced -/
theorem Chk.reason {p : Nat} (hp : p < M.length) (hd : rsnF M p ≠ -1) : ∃ ρ : Nat, rsnF M p = (ρ : Int) ∧ ρ < C.length ∧ litF M p ∈ C.getD ρ [] ∧ ∀ x ∈ C.getD ρ [], x ≠ litF M p → flsV M x = true ∧ 0 ≤ plV M (-x) ∧ plV M (-x) < p := by
  have h := (hc p hp).sup
  unfold rsnF at hd ⊢
  rcases h with ⟨h, _⟩ | ⟨_, h0, h1, _, h2, h3⟩
  · exact absurd h hd
  · refine ⟨(M.getD p default).r.toNat, by omega, by omega, h2, fun x hx hne => ?_⟩
    rcases h3 x hx with e | ⟨e1, e2⟩
    · exact absurd e hne
    · obtain ⟨a, b⟩ := plV_take (by omega) e2
      refine ⟨?_, by omega, b⟩
      unfold flsV
      rw [e1, decide_eq_true (by omega)]
      rfl
theorem Chk.cau {p : Nat} (hp : p < M.length) (hd : rsnF M p ≠ -1) {z : Int} (hz : z ∈ cauL C M p) : 0 ≤ z ∧ z < p := by
  obtain ⟨ρ, h1, h2, h3, h4⟩ := hc.reason hp hd
  unfold cauL at hz
  unfold rsnF at h1
  rw [h1, Int.toNat_natCast] at hz
  obtain ⟨x, hx, rfl⟩ := List.mem_map.1 hz
  rw [List.mem_filter] at hx
  have := h4 x hx.1 (by have := hx.2; unfold litF; simpa using this)
  exact this.2
end
/-- the set of places, as a test -/
def cauB (C : List (List Int)) (M : List Mk) (p : Nat) : Nat → Bool := inL (cauL C M p)
/-- a list of places is what a set has below n -/
def LofS (L : List Int) (n : Nat) (S : Nat → Bool) : Prop := ∀ z : Int, z ∈ L ↔ 0 ≤ z ∧ z < n ∧ S z.toNat = true
theorem LofS.none {L : List Int} {n : Nat} {S : Nat → Bool} (h : LofS L n S) : top S n = none ↔ L = [] := by
  constructor
  · intro e
    cases L with
    | nil => rfl
    | cons a r =>
      obtain ⟨h1, h2, h3⟩ := (h a).1 List.mem_cons_self
      rw [top_none e a.toNat (by omega)] at h3
      cases h3
  · intro e
    refine top_none_of fun z hz => ?_
    cases q : S z with
    | false => rfl
    | true =>
      have := (h (z : Int)).2 ⟨by omega, by omega, by rw [Int.toNat_natCast]; exact q⟩
      rw [e] at this
      cases this
theorem LofS.top {L : List Int} {n : Nat} {S : Nat → Bool} (h : LofS L n S) (hh : Hp L) (hl : 0 < L.length) : ∃ q : Nat, L.getD 0 0 = (q : Int) ∧ top S n = some q := by
  have hm : L.getD 0 0 ∈ L := getD_mem hl
  obtain ⟨h1, h2, h3⟩ := (h _).1 hm
  refine ⟨(L.getD 0 0).toNat, by omega, top_of (by omega) h3 fun z a b => ?_⟩
  cases e : S z with
  | false => rfl
  | true =>
    have h4 := (h (z : Int)).2 ⟨by omega, by omega, by rw [Int.toNat_natCast]; exact e⟩
    obtain ⟨k, hk, e2⟩ := gd_mem_iff.1 h4
    have := hh.top hk
    omega
/-- the top goes -/
theorem LofS.pop {L L' : List Int} {n q : Nat} {S : Nat → Bool} (h : LofS L n S) (ht : Proofs.Ytbcbgglhhfdbcab.top S n = some q) (h' : ∀ z, z ∈ L' ↔ z ∈ L ∧ z ≠ (q : Int)) : LofS L' q S := fun z => by
  rw [h', h z]
  obtain ⟨h1, h2, h3⟩ := top_some ht
  constructor
  · rintro ⟨⟨a, b, c⟩, d⟩
    refine ⟨a, ?_, c⟩
    rcases Int.lt_trichotomy z q with e | e | e
    · exact e
    · exact absurd e d
    · have := h3 z.toNat (by omega) (by omega)
      rw [c] at this
      cases this
  · rintro ⟨a, b, c⟩
    exact ⟨⟨a, by omega, c⟩, by omega⟩
theorem LofS.uni {L L' : List Int} {p : Nat} {S : Nat → Bool} {T : List Int} (h : LofS L p S) (hT : ∀ z ∈ T, 0 ≤ z ∧ z < (p : Int)) (h' : ∀ z, z ∈ L' ↔ z ∈ L ∨ z ∈ T) : LofS L' p (uni S (inL T)) := fun z => by
  rw [h', h z]
  unfold Proofs.Ytbcbgglhhfdbcab.uni
  rw [Bool.or_eq_true, inL_iff]
  constructor
  · rintro (⟨a, b, c⟩ | e)
    · exact ⟨a, b, Or.inl c⟩
    · have := hT z e
      exact ⟨this.1, this.2, Or.inr (by rw [Int.toNat_of_nonneg this.1]; exact e)⟩
  · rintro ⟨a, b, c | c⟩
    · exact Or.inl ⟨a, b, c⟩
    · rw [Int.toNat_of_nonneg a] at c; exact Or.inr c
end Go.Proofs.Ytbcbgglhhfdbcab
