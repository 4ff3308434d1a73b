/-
  units: at; the reference's broken, forced, Rest, SameTrue.
-/
import Derived.Test.YtfodejhipnmgnaaUH0
namespace Go.Proofs.Ytfodejhipnmgnaa
open Go.RowKit
set_option linter.unusedVariables false
set_option linter.unusedSimpArgs false
set_option maxHeartbeats 2000000 in
set_option maxRecDepth 100000 in
theorem at_is (a : Option Addr) (n c : Nat) (f : Nat → Cla) (x : Nat) (hx : x < n) (w : World) (hC : ClasAt w a n f) :
    Calls Try.prog 20 #[.slice a n c, .int .i64 x] w fun e w' => e = .returned (.slice (f x).a (f x).n (f x).c) ∧ w' = w := by
  obtain ⟨bb, off, rfl, hcell⟩ := hC.2.2 (by omega)
  have ck := hcell x hx
  have hn := hC.1
  have i0 : (0 : Int) ≤ (x : Int) := by omega
  have i1 : (x : Int) < (n : Int) := by omega
  have i2 : ¬ (x : Int) < 0 := by omega
  have i3 : decide ((x : Int) < 0) = false := decide_eq_false i2
  have i4 : decide ((n : Int) ≤ (x : Int)) = false := decide_eq_false (by omega)
  clear hcell hC
  go_enter Try.func20, Try.ntmps20
  go_wp2
  go_ret
  exact ⟨rfl, rfl⟩
set_option maxHeartbeats 2000000 in
set_option maxRecDepth 100000 in
theorem broken_no (a : Option Addr) (n c : Nat) (f : Nat → Cla) (g : Nat) (l : List Mk) (w : World) (hC : ClasAt w a n f) (hlo : ∀ i, i < n → ∀ j, j < (f i).n → -9223372036854775808 < (f i).g j) (h : MkAt w g l) (hno : ∀ i, i < n → allN (fun y => decide (0 ≤ plV l (-y))) (f i).g (f i).n = false) :
    Calls Try.prog 50 #[.slice a n c, .slice (some ⟨g, 0, none⟩) l.length l.length] w fun e w' => e = .returned (.int .i64 (-1)) ∧ w' = w := by
  have GB := hide' (fun i (hi : i < n) => show Calls Try.prog 19 #[.slice (f i).a (f i).n (f i).c, .slice (some ⟨g, 0, none⟩) l.length l.length] w fun e w' => e = .returned (.bool false) ∧ w' = w from by have h1 := Broken_is (f i).a (f i).n (f i).c (f i).g g l w (hC.2.1 i hi) (hlo i hi) h; rw [hno i hi] at h1; exact h1)
  have HC := hide' (And.intro hC hlo)
  have hn := hC.1
  clear hC hlo h hno
  obtain ⟨M, hM⟩ : ∃ M, l.length = M := ⟨_, rfl⟩
  rw [hM] at GB ⊢
  clear hM
  go_enter Try.func50, Try.ntmps50
  go_wp2_with fail
  go_loopw [5] (fun vi wr => ∃ k : Nat, k ≤ n ∧ vi = .int .i64 k ∧ wr = w) (fun vi _ => n - (intOf vi).toNat)
  case atStart => exact ⟨0, Nat.zero_le _, rfl, rfl⟩
  case round =>
    obtain ⟨k, hk, rfl, rfl⟩ := hrel
    by_cases hlt : k < n
    · skip
      obtain ⟨bb, off, rfl, hcell⟩ := HC.out.1.2.2 (by omega)
      have ck := hcell k hlt
      have i1 : (k : Int) < (n : Int) := by omega
      have i0 : (0 : Int) ≤ (k : Int) := by omega
      clear hcell
      have GB2 := hide' (GB.out k hlt)
      go_wp2_with fail
      refine GB2.out.mono ?_
      rintro e w1 ⟨rfl, hw1⟩
      rw [hw1]
      clear hw1
      go_wp2
      go_roundw
      case rel => exact ⟨k + 1, by omega, by go_num, by first | rfl | trivial⟩
      case measure => simp only [intOf]; omega
    · obtain rfl : k = n := by omega
      have i1 : ¬ (k : Int) < (k : Int) := by omega
      go_wp2
      go_ret
      exact ⟨rfl, rfl⟩
set_option maxHeartbeats 2000000 in
set_option maxRecDepth 100000 in
theorem forced_no (a : Option Addr) (n c : Nat) (f : Nat → Cla) (g : Nat) (l : List Mk) (w : World) (hC : ClasAt w a n f) (hlo : ∀ i, i < n → ∀ j, j < (f i).n → -9223372036854775808 < (f i).g j) (h : MkAt w g l) (hno : ∀ i, i < n → ∀ j, j < (f i).n → (∃ m, m < (f i).n ∧ (f i).g m ≠ (f i).g j ∧ plV l (-((f i).g m)) < 0) ∨ (decide (plV l ((f i).g j) < 0) && decide (plV l (-((f i).g j)) < 0)) = false) :
    Calls Try.prog 49 #[.slice a n c, .slice (some ⟨g, 0, none⟩) l.length l.length] w fun e w' => e = .returned (.tuple #[.int .i64 0, .int .i64 (-1)]) ∧ Below w.heap.size w w' := by
  have GF := hide' (fun w' (hb : Below w.heap.size w w') i (hi : i < n) j (hj : j < (f i).n) => Forces_no (f i).a (f i).n (f i).c (f i).g g l ((f i).g j) ⟨hlo i hi j hj, ((hC.2.1 i hi).2.1 j hj).2⟩ w' ((hC.2.1 i hi).later hb) (hlo i hi) (h.later hb) (hno i hi j hj))
  have HC := hide' (And.intro hC hlo)
  have hn := hC.1
  clear hC hlo h hno
  obtain ⟨M, hM⟩ : ∃ M, l.length = M := ⟨_, rfl⟩
  rw [hM] at GF ⊢
  clear hM
  go_enter Try.func49, Try.ntmps49
  go_wp2_with fail
  go_loopw [6] (fun vi wr => ∃ k : Nat, k ≤ n ∧ vi = .int .i64 k ∧ Below w.heap.size w wr) (fun vi _ => n - (intOf vi).toNat)
  case atStart => exact ⟨0, Nat.zero_le _, rfl, Below.refl _ _⟩
  case round =>
    obtain ⟨k, hk, rfl, hB⟩ := hrel
    by_cases hlt : k < n
    · skip
      obtain ⟨bb, off, rfl, hcell⟩ := HC.out.1.2.2 (by omega)
      have ck := hcell k hlt
      have i1 : (k : Int) < (n : Int) := by omega
      have i0 : (0 : Int) ≤ (k : Int) := by omega
      clear hcell
      have GF2 := hide' (fun w' hb j hj => GF.out w' hb k hlt j hj)
      have HL := hide' (HC.out.1.2.1 k hlt)
      obtain ⟨F, hF⟩ : ∃ F, f k = F := ⟨_, rfl⟩
      rw [hF] at ck GF2 HL
      clear hF
      have hFn := HL.out.1
      have HB0 := hide' hB
      clear hB
      go_wp2_with fail
      go_loopw [7] (fun vi ws => ∃ j : Nat, j ≤ F.n ∧ vi = .int .i64 j ∧ Below w.heap.size w ws) (fun vi _ => F.n - (intOf vi).toNat)
      case atStart => exact ⟨0, Nat.zero_le _, rfl, HB0.out⟩
      case round =>
        clear HB0
        obtain ⟨j, hj, rfl, hB⟩ := hrel
        have ckr := below_cell hB ck
        by_cases hlt2 : j < F.n
        · obtain ⟨b2, o2, eF, hcell⟩ := HL.out.2.2 (by omega)
          have cl := below_cell hB (hcell j hlt2)
          have i2 : (j : Int) < (F.n : Int) := by omega
          have i3 : (0 : Int) ≤ (j : Int) := by omega
          clear hcell
          have GF3 := hide' (fun w' hb => GF2.out w' hb j hlt2)
          rw [eF] at ckr GF3
          have eF' := hide' eF
          clear eF
          obtain ⟨y, hy⟩ : ∃ y, F.g j = y := ⟨_, rfl⟩
          rw [hy] at cl GF3
          clear hy
          replace hB := hide' hB
          go_wp2_with fail
          go_quiet ((go_at_call 40; exact Calls.quiet_of_same (GF3.out _ (below_drewN hB.out))))
          go_wp2_with fail
          go_roundw
          case rel => exact ⟨j + 1, by omega, by go_num, below_drewN hB.out⟩
          case measure => simp only [intOf]; omega
        · obtain rfl : j = F.n := by omega
          have i2 : ¬ (F.n : Int) < (F.n : Int) := by omega
          go_wp2
          go_roundw
          case rel => exact ⟨k + 1, by omega, by go_num, hB⟩
          case measure => simp only [intOf]; omega
    · obtain rfl : k = n := by omega
      have i1 : ¬ (k : Int) < (k : Int) := by omega
      go_wp2
      refine bodyPost_ret (v := .tuple #[.int .i64 0, .int .i64 (-1)]) (by rw [results_tt rfl]; go_simp) rfl ?_
      exact ⟨rfl, hB⟩
set_option maxHeartbeats 2000000 in
set_option maxRecDepth 100000 in
theorem Rest_is (a : Option Addr) (n c : Nat) (f : Nat → Cla) (g : Nat) (l : List Mk) (w : World) (hC : ClasAt w a n f) (hlo : ∀ i, i < n → ∀ j, j < (f i).n → -9223372036854775808 < (f i).g j) (h : MkAt w g l) (h1 : ∀ i, i < n → ∀ j, j < (f i).n → (∃ m, m < (f i).n ∧ (f i).g m ≠ (f i).g j ∧ plV l (-((f i).g m)) < 0) ∨ (decide (plV l ((f i).g j) < 0) && decide (plV l (-((f i).g j)) < 0)) = false) (h2 : ∀ i, i < n → allN (fun y => decide (0 ≤ plV l (-y))) (f i).g (f i).n = false) :
    Calls Try.prog 24 #[.slice a n c, .slice (some ⟨g, 0, none⟩) l.length l.length] w fun e w' => e = .returned (.bool true) ∧ Below w.heap.size w w' := by
  have G1 := hide' (forced_no a n c f g l w hC hlo h h1)
  have G2 := hide' (fun w' (hb : Below w.heap.size w w') => broken_no a n c f g l w' (hC.later hb) hlo (h.later hb) h2)
  clear hC hlo h h1 h2
  obtain ⟨M, hM⟩ : ∃ M, l.length = M := ⟨_, rfl⟩
  rw [hM] at G1 G2 ⊢
  clear hM
  go_enter Try.func24, Try.ntmps24
  go_wp2_with fail
  refine G1.out.mono ?_
  rintro e w1 ⟨rfl, b1⟩
  go_wp2_with fail
  refine (G2.out _ b1).mono ?_
  rintro e w2 ⟨rfl, hw2⟩
  rw [hw2]
  clear hw2
  go_wp2
  go_ret
  exact ⟨rfl, b1⟩
set_option maxHeartbeats 2000000 in
set_option maxRecDepth 100000 in
theorem SameTrue_is (g : Nat) (l : List Mk) (g' : Nat) (l' : List Mk) (w : World) (h : MkAt w g l) (h' : MkAt w g' l') (hl : l.length = l'.length) (hin : ∀ i, i < l.length → 0 ≤ plV l' (l.getD i default).l) :
    Calls Try.prog 23 #[.slice (some ⟨g, 0, none⟩) l.length l.length, .slice (some ⟨g', 0, none⟩) l'.length l'.length] w fun e w' => e = .returned (.bool true) ∧ w' = w := by
  have GP := hide' (fun x => Place_is g' l' x w h')
  obtain ⟨n, hn⟩ : ∃ n, l.length = n := ⟨_, rfl⟩
  have hM := h.2
  rw [hn] at hM
  have HC := hide' (show ∀ j, j < n → w.cell? ⟨g, j * 3, none⟩ = some (.int .i64 (l.getD j default).l) from fun j hj => (mk_cell h.1 (by rw [hn]; exact hj)).1)
  rw [hn] at hl hin ⊢
  rw [← hl] at GP ⊢
  have HI := hide' hin
  clear hl hn h h' hin
  go_enter Try.func23, Try.ntmps23
  go_wp2_with fail
  go_loopw [5] (fun vi wr => ∃ k : Nat, k ≤ n ∧ vi = .int .i64 k ∧ wr = w) (fun vi _ => n - (intOf vi).toNat)
  case atStart => exact ⟨0, Nat.zero_le _, rfl, rfl⟩
  case round =>
    obtain ⟨k, hk, rfl, rfl⟩ := hrel
    by_cases hlt : k < n
    · have i1 : (k : Int) < (n : Int) := by omega
      have i0 : (0 : Int) ≤ (k : Int) := by omega
      have ck := HC.out k hlt
      have hin := HI.out k hlt
      obtain ⟨y, hy⟩ : ∃ y, (l.getD k default).l = y := ⟨_, rfl⟩
      rw [hy] at ck hin
      clear hy
      have GP2 := hide' (GP.out y)
      obtain ⟨t, ht⟩ : ∃ t, plV l' y = t := ⟨_, rfl⟩
      rw [ht] at GP2 hin
      clear ht
      have htb : ¬ t < 0 := by omega
      go_wp2_with fail
      refine GP2.out.mono ?_
      rintro e w1 ⟨rfl, hw1⟩
      rw [hw1]
      clear hw1
      go_wp2
      go_roundw
      case rel => exact ⟨k + 1, by omega, by go_num, by first | rfl | trivial⟩
      case measure => simp only [intOf]; omega
    · obtain rfl : k = n := by omega
      have i1 : ¬ (k : Int) < (k : Int) := by omega
      go_wp2
      go_ret
      exact ⟨rfl, rfl⟩
end Go.Proofs.Ytfodejhipnmgnaa
