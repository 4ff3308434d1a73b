/-
  NatOwn: sameAll; how long the fourteen are; the row of the lists.
-/
import Derived.Test.YtechjealbccpbaaOW7
namespace Go.Proofs.Ytechjealbccpbaa
open Go.RowKit
set_option linter.unusedVariables false
set_option linter.unusedSimpArgs false
theorem lnb {X N : Nat} (h : X < BB ^ N) (K : Nat) (hk : N ≤ K) : ln X ≤ K := Nat.le_trans (ln_le_of_lt h) hk
theorem ltp {X N M : Nat} (h : X < BB ^ N) (hk : N ≤ M) : X < BB ^ M := Nat.lt_of_lt_of_le h (Nat.pow_le_pow_right (by rw [BB_eq]; omega) hk)
theorem zs_ln {X Y k n m : Nat} {Z : Nat → Nat} (h : ZS X Y k Z) (hX : X < BB ^ n) (hY : Y < BB ^ m) (hn : n ≤ 1048576) (hm : m ≤ 1048576) (hk : k ≤ 255) : ∀ i, i < 14 → ln (Z i) ≤ 4194304 := by
  obtain ⟨N, hN⟩ : ∃ N, N = 1048576 := ⟨_, rfl⟩
  have hX' := ltp (M := N) hX (by omega)
  have hY' := ltp (M := N) hY (by omega)
  have hs : X + Y < BB ^ (N + 1) := by
    rw [Nat.pow_succ]
    have hb : BB ^ N * 2 ≤ BB ^ N * BB := Nat.mul_le_mul_left _ (by rw [BB_eq]; omega)
    generalize BB ^ N = P at *
    omega
  have hmul : ∀ U V, U < BB ^ N → V < BB ^ N → U * V < BB ^ (N + N) := fun U V h1 h2 => by rw [Nat.pow_add]; exact Nat.mul_lt_mul_of_lt_of_lt h1 h2
  have hle : ∀ U, U ≤ X → U < BB ^ N := fun U h => Nat.lt_of_le_of_lt h hX'
  have h8 : 2 ^ k < BB ^ 8 := by
    rw [show BB ^ 8 = 2 ^ (32 * 8) by rw [Nat.pow_mul]; rfl]
    exact Nat.pow_lt_pow_right (by omega) (by omega)
  intro i hi
  match i, hi with
  | 0, _ => rw [← h.z0]; exact lnb hX' _ (by omega)
  | 1, _ => rw [← h.z1]; exact lnb hs _ (by omega)
  | 2, _ => rw [← h.z2, Nat.add_comm]; exact lnb hs _ (by omega)
  | 3, _ => rw [← h.z3]; exact lnb (hle _ (Nat.sub_le _ _)) _ (by omega)
  | 4, _ => rw [← h.z4]; exact lnb (hmul _ _ hX' hY') _ (by omega)
  | 5, _ => rw [← h.z5]; exact lnb (hle _ (Nat.div_le_self _ _)) _ (by omega)
  | 6, _ => rw [← h.z6]; exact lnb (hle _ (by unfold rmd; split; omega; exact Nat.mod_le _ _)) _ (by omega)
  | 7, _ =>
    rw [← h.z7]
    by_cases h0 : X = 0
    · subst h0; rw [Nat.gcd_zero_left]; exact lnb hY' _ (by omega)
    · exact lnb (hle _ (Nat.le_of_dvd (by omega) (Nat.gcd_dvd_left _ _))) _ (by omega)
  | 8, _ =>
    rw [← h.z8, Nat.gcd_comm]
    by_cases h0 : X = 0
    · subst h0; rw [Nat.gcd_zero_left]; exact lnb hY' _ (by omega)
    · exact lnb (hle _ (Nat.le_of_dvd (by omega) (Nat.gcd_dvd_left _ _))) _ (by omega)
  | 9, _ =>
    rw [← h.z9]
    have h9 : X * 2 ^ k < BB ^ (N + 8) := by rw [Nat.pow_add]; exact Nat.mul_lt_mul_of_lt_of_lt hX' h8
    exact lnb h9 _ (by omega)
  | 10, _ => rw [← h.z10]; exact lnb (hle _ (Nat.div_le_self _ _)) _ (by omega)
  | 11, _ => rw [← h.z11, Nat.pow_one]; exact lnb hX' _ (by omega)
  | 12, _ => rw [← h.z12, Nat.pow_two]; exact lnb (hmul _ _ hX' hX') _ (by omega)
  | 13, _ =>
    have hr : Z 13 ≤ X := by
      rcases Nat.eq_zero_or_pos (Z 13) with h0 | h0
      · omega
      · exact Nat.le_trans (Nat.le_mul_of_pos_left _ h0) h.z13.1
    exact lnb (hle _ hr) _ (by omega)
  | i + 14, h => exact absurd h (by omega)
/-- the same lists in another row -/
theorem Ls.move {w w' : World} {lo bl bm L : Nat} {A : Nat → Option Addr} {n : Nat → Nat} {f : Nat → Nat → Int} (h : Ls w lo bl 0 L A n f) (hb : Below w.heap.size w w') (hm : w.heap.size ≤ bm) (hrow : ∀ i, i < L → w'.cell? ⟨bm, 0 + i, none⟩ = some (.slice (A i) (n i) (n i))) : Ls w' lo bm 0 L A n f :=
  ⟨hrow, fun i hi hn => by
    obtain ⟨b, off, e, h1, h2, h3, h4⟩ := (h.later hb).lst i hi hn
    obtain ⟨b', off', e', _, _, h3', _⟩ := h.lst i hi hn
    rw [e] at e'
    obtain ⟨rfl, _⟩ : b = b' ∧ off = off' := by simpa using e'
    exact ⟨b, off, e, h1, by have := h3'.lt; omega, h3, h4⟩, h.apart⟩
/-- the first i of the lists, as cells -/
def rowc (A : Nat → Option Addr) (Z : Nat → Nat) (i : Nat) : List Value := (List.range i).map fun j => .slice (A j) (ln (Z j)) (ln (Z j))
theorem rowc_succ (A : Nat → Option Addr) (Z : Nat → Nat) (i : Nat) : rowc A Z (i + 1) = rowc A Z i ++ [.slice (A i) (ln (Z i)) (ln (Z i))] := by unfold rowc; rw [List.range_succ, List.map_append]; rfl
theorem rowc_at {A : Nat → Option Addr} {Z : Nat → Nat} {i j : Nat} (h : j < i) : (rowc A Z i)[j]? = some (.slice (A j) (ln (Z j)) (ln (Z j))) := by unfold rowc; rw [List.getElem?_map, List.getElem?_range h]; rfl
set_option maxHeartbeats 4000000 in
set_option maxRecDepth 100000 in
theorem sameAll_is (bl c bm d : Nat) (A B : Nat → Option Addr) (Z : Nat → Nat) (w : World) (hA : RowZ w bl A Z) (hB : RowZ w bm B Z) (hz : ∀ i, i < 14 → ln (Z i) ≤ 4194304) :
    Calls Try.prog 7 #[.slice (some ⟨bl, 0, none⟩) 14 c, .slice (some ⟨bm, 0, none⟩) 14 d] w fun e w' => e = .returned (.bool true) ∧ Below w.heap.size w w' := by
  have HA := hide' hA
  have HB := hide' hB
  have HZ := hide' hz
  clear hA hB hz
  go_enter Try.func7, Try.ntmps7
  go_wp2_with fail
  go_loopw [5] (fun vi wr => ∃ i : Nat, i ≤ 14 ∧ vi = .int .i64 i ∧ Below w.heap.size w wr) (fun vi _ => 14 - (intOf vi).toNat)
  case atStart => exact ⟨0, Nat.zero_le _, rfl, Below.refl _ _⟩
  case round =>
    obtain ⟨i, hi, rfl, bel⟩ := hrel
    by_cases hlt : i < 14
    · have i2 : ((i : Int) < 14) := by omega
      have i1 : (0 : Int) ≤ (i : Int) := by omega
      have q0 := below_cell bel (HA.out i hlt).1
      have q1 := below_cell bel (HB.out i hlt).1
      have k0 := (HA.out i hlt).2.below bel (Nat.le_refl _)
      have k1 := (HB.out i hlt).2.below bel (Nat.le_refl _)
      have z1 := HZ.out i hlt
      obtain ⟨p, hp⟩ : ∃ p, A i = p := ⟨_, rfl⟩
      obtain ⟨q, hq⟩ : ∃ q, B i = q := ⟨_, rfl⟩
      obtain ⟨V, hV⟩ : ∃ V, Z i = V := ⟨_, rfl⟩
      rw [hp, hV] at q0 k0
      rw [hq, hV] at q1 k1
      rw [hV] at z1
      clear hp hq hV
      have GS := hide' (fun w' k1 k2 => same_any p q (ln V) (ln V) V (ln V) (ln V) V w' (by omega) (by omega) k1 k2)
      rw [sameB_self] at GS
      go_wp2_with fail
      have bD : Below wr.heap.size wr wr.drew := (Below.refl _ _).drew
      have kq0 := below_cell bD q0
      have kq1 := below_cell bD q1
      replace bel := bel.trans (bD.mono bel.size)
      replace k0 := k0.later bD
      replace k1 := k1.later bD
      refine wp_region_held_drew (S := fun w' => w'.cell? ⟨bl, i, none⟩ = some (.slice p (ln V) (ln V)) ∧ w'.cell? ⟨bm, i, none⟩ = some (.slice q (ln V) (ln V))) (by kernel_rfl) ⟨kq0, kq1⟩ (fun hHeld => ?_)
      clear kq0 kq1
      generalize wr.drew = wF at bD k0 k1 bel hHeld ⊢
      clear bD q0 q1
      refine take' 0 (v := ?_) rfl (by kernel_rfl) (by kernel_rfl) (by kernel_rfl) (fun _ _ _ h => h) (Or.inl ⟨by rfl, ?_⟩) (by assumption) ?_
      rotate_left
      · intro w9 hSw
        go_simp
        first | done | with_reducible rfl
      simp only [Act.put, List.setIfInBounds_toArray, List.set_cons_zero, List.set_cons_succ]
      refine take' 1 (v := ?_) rfl (by kernel_rfl) (by kernel_rfl) (by kernel_rfl) (fun _ _ _ h => h) (Or.inl ⟨by rfl, ?_⟩) (by assumption) ?_
      rotate_left
      · intro w9 hSw
        go_simp
        first | done | with_reducible rfl
      simp only [Act.put, List.setIfInBounds_toArray, List.set_cons_zero, List.set_cons_succ]
      refine take' 2 (v := ?_) rfl (by kernel_rfl) (by kernel_rfl) (by kernel_rfl) (fun _ _ _ h => h) (Or.inl ⟨by rfl, ?_⟩) (by assumption) ?_
      rotate_left
      · intro w9 hSw
        go_simp
        first | done | with_reducible rfl
      simp only [Act.put, List.setIfInBounds_toArray, List.set_cons_zero, List.set_cons_succ]
      refine take' 3 (v := ?_) rfl (by kernel_rfl) (by kernel_rfl) (by kernel_rfl) (fun _ _ _ h => h) (Or.inl ⟨by rfl, ?_⟩) (by assumption) ?_
      rotate_left
      · intro w9 hSw
        go_simp
        first | done | with_reducible rfl
      simp only [Act.put, List.setIfInBounds_toArray, List.set_cons_zero, List.set_cons_succ]
      refine take' 4 (v := ?_) rfl (by kernel_rfl) (by kernel_rfl) (by kernel_rfl) (fun _ _ _ h => h) (Or.inl ⟨by rfl, ?_⟩) (by assumption) ?_
      rotate_left
      · intro w9 hSw
        go_simp
        first | done | with_reducible rfl
      simp only [Act.put, List.setIfInBounds_toArray, List.set_cons_zero, List.set_cons_succ]
      refine take' 5 (v := ?_) rfl (by kernel_rfl) (by kernel_rfl) (by kernel_rfl) (fun _ _ _ h => h) (Or.inl ⟨by rfl, ?_⟩) (by assumption) ?_
      rotate_left
      · intro w9 hSw
        go_simp
        first | done | with_reducible rfl
      simp only [Act.put, List.setIfInBounds_toArray, List.set_cons_zero, List.set_cons_succ]
      refine take' 6 (v := ?_) rfl (by kernel_rfl) (by kernel_rfl) (by kernel_rfl) (fun _ _ _ h => h) (Or.inl ⟨by rfl, ?_⟩) (by assumption) ?_
      rotate_left
      · intro w9 hSw
        go_simp
        first | done | with_reducible rfl
      simp only [Act.put, List.setIfInBounds_toArray, List.set_cons_zero, List.set_cons_succ]
      refine take' 7 (v := ?_) rfl (by kernel_rfl) (by kernel_rfl) (by kernel_rfl) (fun _ _ _ h => h) (Or.inl ⟨by rfl, ?_⟩) (by assumption) ?_
      rotate_left
      · intro w9 hSw
        go_simp
        first | done | with_reducible rfl
      simp only [Act.put, List.setIfInBounds_toArray, List.set_cons_zero, List.set_cons_succ]
      refine wpAnyH_ready (rs := [8]) (by kernel_rfl) (by simp) ?_
      refine cons' rfl (fun KK hKK => ?_)
      go_simp
      refine (GS.out _ k0 k1).mono ?_
      rintro e w7 ⟨rfl, d7⟩
      have bC : Below wF.heap.size wF w7 := d7.below _
      replace bel := bel.trans (bC.mono bel.size)
      replace k0 := k0.later bC
      replace k1 := k1.later bC
      replace hHeld := (⟨below_cell bC hHeld.1, below_cell bC hHeld.2⟩ : _ ∧ _)
      clear bC
      go_wp2_with fail
      refine hKK.out _ _ hHeld ?_
      clear hHeld
      intro hHeld
      clear hKK KK
      try simp only [Act.put, List.setIfInBounds_toArray, List.set_cons_zero, List.set_cons_succ]
      refine take' 9 (v := ?_) rfl (by kernel_rfl) (by kernel_rfl) (by kernel_rfl) (fun _ _ _ h => h) (Or.inl ⟨by rfl, ?_⟩) (by assumption) ?_
      rotate_left
      · intro w9 hSw
        go_simp
        first | done | with_reducible rfl
      simp only [Act.put, List.setIfInBounds_toArray, List.set_cons_zero, List.set_cons_succ]
      refine wpAnyH_done (by kernel_rfl) ?_ _
      clear hHeld
      go_wp2
      go_roundw
      case rel => exact ⟨i + 1, by omega, by go_num, bel⟩
      case measure => simp [intOf]; omega
    · have i2 : ¬ ((i : Int) < 14) := by omega
      go_wp2
      go_ret
      exact ⟨rfl, bel⟩
end Go.Proofs.Ytechjealbccpbaa
