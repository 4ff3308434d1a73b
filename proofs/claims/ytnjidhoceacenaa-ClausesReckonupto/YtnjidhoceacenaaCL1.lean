/-
  clauses: what the program asks of all literals of a clause.
-/
import Derived.Test.YtnjidhoceacenaaCL0
namespace Go.Proofs.Ytnjidhoceacenaa
open Go.RowKit
set_option linter.unusedVariables false
set_option linter.unusedSimpArgs false
set_option maxHeartbeats 2000000 in
set_option maxRecDepth 100000 in
theorem indexF_lit (a : Option Addr) (n c : Nat) (g : Nat → Int) (p : Int → Bool)  (w : World) (h : LitsAt w a n g) (hp : ∀ w' i, Below w.heap.size w w' → i < n → Calls Try.prog 25 #[.int .i64 (g i)] w' fun e w'' => e = .returned (.bool (p (g i))) ∧ Below w'.heap.size w' w'') :
    Calls Try.prog 39 #[.slice a n c, .func (.func 25) #[] #[]] w fun e w' => e = .returned (.int .i64 (fstN (fun i => p (g i)) n)) ∧ Below w.heap.size w w' := by
  have HP := hide' hp
  have HL := hide' h
  have hn1 := h.1
  clear hp h
  go_enter Try.func39, Try.ntmps39
  go_wp2
  go_loopw [8] (fun vi wr => ∃ k : Nat, k ≤ n ∧ vi = .int .i64 k ∧ (∀ i, i < k → p (g i) = false) ∧ Below w.heap.size w wr) (fun vi _ => n - (intOf vi).toNat)
  case atStart => exact ⟨0, Nat.zero_le _, rfl, fun i hi => absurd hi (by omega), Below.refl _ _⟩
  case round =>
    obtain ⟨k, hk, rfl, hb, hB⟩ := hrel
    have HB := hide' hb
    clear hb
    by_cases hlt : k < n
    · obtain ⟨b, off, rfl, hc⟩ := HL.out.2.2 (by omega)
      have hck := below_cell hB (hc k hlt)
      clear hc
      have hki : ((k : Int) < (n : Int)) := by omega
      have HK := hide' (HP.out wr k hB hlt)
      obtain ⟨x, hx⟩ : ∃ x, g k = x := ⟨_, rfl⟩
      rw [hx] at hck HK
      cases hy : p x
      · rw [hy] at HK
        have HN := hide' (show ∀ i, i < k + 1 → p (g i) = false from fun i hi => by by_cases e : i = k; (rw [e, hx]; exact hy); exact HB.out i (by omega))
        clear hy hx
        go_wp2_with fail
        refine HK.out.mono ?_
        rintro e w1 ⟨rfl, b1⟩
        replace hB := hB.trans (b1.mono hB.size)
        clear b1
        go_wp2
        go_roundw
        case rel => exact ⟨k + 1, by omega, by go_simp, HN.out, hB⟩
        case measure => simp only [intOf]; omega
      · rw [hy] at HK
        have HN := hide' (show fstN (fun i => p (g i)) n = k from fstN_at (p := fun i => p (g i)) (by show p (g k) = true; rw [hx]; exact hy) HB.out hlt)
        clear hy hx
        go_wp2_with fail
        refine HK.out.mono ?_
        rintro e w1 ⟨rfl, b1⟩
        replace hB := hB.trans (b1.mono hB.size)
        clear b1
        go_wp2
        go_ret
        exact ⟨(by rw [HN.out]; try rfl), hB⟩
    · have hki : ¬ ((k : Int) < (n : Int)) := by omega
      have HN := hide' (show fstN (fun i => p (g i)) n = -1 from fstN_none fun i hi => HB.out i (by omega))
      go_wp2
      go_ret
      exact ⟨(by rw [HN.out]; try rfl), hB⟩
set_option maxHeartbeats 2000000 in
theorem containsF_lit (a : Option Addr) (n c : Nat) (g : Nat → Int) (p : Int → Bool)  (w : World) (h : LitsAt w a n g) (hp : ∀ w' i, Below w.heap.size w w' → i < n → Calls Try.prog 25 #[.int .i64 (g i)] w' fun e w'' => e = .returned (.bool (p (g i))) ∧ Below w'.heap.size w' w'') :
    Calls Try.prog 24 #[.slice a n c, .func (.func 25) #[] #[]] w fun e w' => e = .returned (.bool (!allN (fun x => !p x) g n)) ∧ Below w.heap.size w w' := by
  have HK := hide' (indexF_lit a n c g p  w h hp)
  have e := fstN_any (p := p) (g := g) (n := n)
  rw [← e]
  clear e hp h
  generalize fstN (fun i => p (g i)) n = j at HK ⊢
  go_enter Try.func24, Try.ntmps24
  go_wp2_with fail
  refine HK.out.mono ?_
  rintro e w1 ⟨rfl, b1⟩
  go_wp2_with fail
  go_ret
  exact ⟨rfl, b1⟩
set_option maxHeartbeats 2000000 in
set_option maxRecDepth 100000 in
theorem indexF_wo (a : Option Addr) (n c : Nat) (g : Nat → Int) (p : Int → Bool) (cb : Nat) (w : World) (h : LitsAt w a n g) (hp : ∀ w' i, Below w.heap.size w w' → i < n → Calls Try.prog 33 #[.int .i64 (g i), .pointer (some ⟨cb, 0, none⟩)] w' fun e w'' => e = .returned (.bool (p (g i))) ∧ Below w'.heap.size w' w'') :
    Calls Try.prog 39 #[.slice a n c, .func (.func 33) #[] #[.pointer (some ⟨cb, 0, none⟩)]] w fun e w' => e = .returned (.int .i64 (fstN (fun i => p (g i)) n)) ∧ Below w.heap.size w w' := by
  have HP := hide' hp
  have HL := hide' h
  have hn1 := h.1
  clear hp h
  go_enter Try.func39, Try.ntmps39
  go_wp2
  go_loopw [8] (fun vi wr => ∃ k : Nat, k ≤ n ∧ vi = .int .i64 k ∧ (∀ i, i < k → p (g i) = false) ∧ Below w.heap.size w wr) (fun vi _ => n - (intOf vi).toNat)
  case atStart => exact ⟨0, Nat.zero_le _, rfl, fun i hi => absurd hi (by omega), Below.refl _ _⟩
  case round =>
    obtain ⟨k, hk, rfl, hb, hB⟩ := hrel
    have HB := hide' hb
    clear hb
    by_cases hlt : k < n
    · obtain ⟨b, off, rfl, hc⟩ := HL.out.2.2 (by omega)
      have hck := below_cell hB (hc k hlt)
      clear hc
      have hki : ((k : Int) < (n : Int)) := by omega
      have HK := hide' (HP.out wr k hB hlt)
      obtain ⟨x, hx⟩ : ∃ x, g k = x := ⟨_, rfl⟩
      rw [hx] at hck HK
      cases hy : p x
      · rw [hy] at HK
        have HN := hide' (show ∀ i, i < k + 1 → p (g i) = false from fun i hi => by by_cases e : i = k; (rw [e, hx]; exact hy); exact HB.out i (by omega))
        clear hy hx
        go_wp2_with fail
        refine HK.out.mono ?_
        rintro e w1 ⟨rfl, b1⟩
        replace hB := hB.trans (b1.mono hB.size)
        clear b1
        go_wp2
        go_roundw
        case rel => exact ⟨k + 1, by omega, by go_simp, HN.out, hB⟩
        case measure => simp only [intOf]; omega
      · rw [hy] at HK
        have HN := hide' (show fstN (fun i => p (g i)) n = k from fstN_at (p := fun i => p (g i)) (by show p (g k) = true; rw [hx]; exact hy) HB.out hlt)
        clear hy hx
        go_wp2_with fail
        refine HK.out.mono ?_
        rintro e w1 ⟨rfl, b1⟩
        replace hB := hB.trans (b1.mono hB.size)
        clear b1
        go_wp2
        go_ret
        exact ⟨(by rw [HN.out]; try rfl), hB⟩
    · have hki : ¬ ((k : Int) < (n : Int)) := by omega
      have HN := hide' (show fstN (fun i => p (g i)) n = -1 from fstN_none fun i hi => HB.out i (by omega))
      go_wp2
      go_ret
      exact ⟨(by rw [HN.out]; try rfl), hB⟩
set_option maxHeartbeats 2000000 in
theorem containsF_wo (a : Option Addr) (n c : Nat) (g : Nat → Int) (p : Int → Bool) (cb : Nat) (w : World) (h : LitsAt w a n g) (hp : ∀ w' i, Below w.heap.size w w' → i < n → Calls Try.prog 33 #[.int .i64 (g i), .pointer (some ⟨cb, 0, none⟩)] w' fun e w'' => e = .returned (.bool (p (g i))) ∧ Below w'.heap.size w' w'') :
    Calls Try.prog 24 #[.slice a n c, .func (.func 33) #[] #[.pointer (some ⟨cb, 0, none⟩)]] w fun e w' => e = .returned (.bool (!allN (fun x => !p x) g n)) ∧ Below w.heap.size w w' := by
  have HK := hide' (indexF_wo a n c g p cb w h hp)
  have e := fstN_any (p := p) (g := g) (n := n)
  rw [← e]
  clear e hp h
  generalize fstN (fun i => p (g i)) n = j at HK ⊢
  go_enter Try.func24, Try.ntmps24
  go_wp2_with fail
  refine HK.out.mono ?_
  rintro e w1 ⟨rfl, b1⟩
  go_wp2_with fail
  go_ret
  exact ⟨rfl, b1⟩
end Go.Proofs.Ytnjidhoceacenaa
