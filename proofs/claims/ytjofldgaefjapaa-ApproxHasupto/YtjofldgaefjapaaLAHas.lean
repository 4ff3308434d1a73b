/-
  ApproxHas.
-/
import Derived.Test.YtjofldgaefjapaaOpenI
import Derived.Laws.Cover2
import Derived.Test.YtjofldgaefjapaaWF4
import Derived.Test.YtjofldgaefjapaaWF0
import Derived.Test.YtjofldgaefjapaaWFB
import Derived.Test.YtjofldgaefjapaaWFC
import Derived.Test.YtjofldgaefjapaaOpenQ
namespace Go.Proofs.Ytjofldgaefjapaa
open Go.ChangeShapes Go.WideShapes Go.ChangeAt Go.RowKit
set_option linter.unusedVariables false

theorem cells_f64 : Try.prog.cellsOf 29 = 1 := by kernel_rfl
theorem cells_Span : Try.prog.cellsOf 40 = 2 := by kernel_rfl
theorem trod_f64 {H : Type} {enc : TypeId × Value → H} {W : World} {n : Nat} {c : Value} {y : DataW H × List MemPlace}
    (h : DataW.trod enc Try.prog W 0 (fun _ => true) true n 29 [c] = some y) : ∃ a, c = .float .f64 a ∧ a < 18446744073709551616 := by
  cases n with
  | zero => simp [DataW.trod] at h
  | succ n =>
    simp only [DataW.trod, Try.underlying29] at h
    cases c <;> simp at h
    rename_i k b
    obtain ⟨⟨rfl, hw⟩, _⟩ := h
    exact ⟨b, rfl, by simpa [Lit.wf] using hw⟩
set_option maxRecDepth 100000 in
theorem open_Span {H : Type} {enc : TypeId × Value → H} {W : World} {r : Reach} {b0 : Nat} {v : Value} {d : DataW H} {p : List MemPlace}
    (hv : Value.okWide Try.prog W r b0 40 v) (h : DataW.Trod enc Try.prog W 0 (fun _ => true) true 40 v d p) :
    ∃ a b, v = .agg #[.float .f64 a, .float .f64 b] ∧ a < 18446744073709551616 ∧ b < 18446744073709551616 := by
  obtain ⟨cs, rfl, hcs⟩ := okWide_struct Try.underlying40 hv
  obtain ⟨fuel, hf⟩ := h
  obtain ⟨y0, y1, n, hx, hl, h0, h1⟩ := trod_struct2 Try.underlying40 hf
  rw [cells_Span] at hcs
  obtain ⟨c0, c1, rfl⟩ : ∃ c0 c1, cs = #[c0, c1] := by
    match cs, hcs with
    | ⟨[c0, c1]⟩, _ => exact ⟨c0, c1, rfl⟩
  simp only [Value.cells, List.drop_zero, cells_f64] at h0 h1
  change DataW.trod enc _ _ _ _ _ n 29 [c0] = _ at h0
  change DataW.trod enc _ _ _ _ _ n 29 [c1] = _ at h1
  obtain ⟨a, rfl, ha⟩ := trod_f64 h0
  obtain ⟨b, rfl, hb⟩ := trod_f64 h1
  exact ⟨a, b, rfl, ha, hb⟩
end Go.Proofs.Ytjofldgaefjapaa

namespace Go.Proofs.Ytjofldgaefjapaa
open Go.RowKit
set_option linter.unusedVariables false

theorem fkey_fB {s : Bool} {j : Nat} (h : j ≤ FI) : fkey (fB s j) = if s then -(j : Int) else (j : Int) := by
  unfold fkey
  rw [fB_neg h, fB_mod h]
theorem le_run {b c : Nat} (hb : b % SB ≤ FI) (hc : c % SB ≤ FI) (h : fkey b ≤ fkey c) : (FloatKind.f64.format.order b c == some .lt || FloatKind.f64.format.order b c == some .eq) = true := by
  have e : FloatKind.f64.format.order b c = some (compare (fkey b) (fkey c)) := order_eq hb hc
  rw [e]
  rcases Int.lt_or_eq_of_le h with g | g
  · rw [fcmp_lt g]; rfl
  · rw [fcmp_eq g]; rfl
theorem cmpI_mono {a b c d : Nat} (hb : 0 < b) (hd : 0 < d) (h : a * d ≤ c * b) : cmpI a b ≤ cmpI c d := by
  rcases Nat.lt_trichotomy a b with g | g | g
  · rw [cmpI_lt g]; unfold cmpI; split
    · omega
    · split <;> omega
  · subst g
    rw [cmpI_eq rfl]
    have : d ≤ c := Nat.le_of_mul_le_mul_left (c := a) (by rw [Nat.mul_comm a c]; exact h) hb
    unfold cmpI; rw [if_neg (by omega)]; split <;> omega
  · have h1 : a * d < a * (c + 1) ∧ (c = 0 → False) := by
      refine ⟨Nat.lt_of_le_of_lt h ?_, ?_⟩
      · rw [Nat.mul_comm c b]
        exact Nat.lt_of_le_of_lt (Nat.mul_le_mul_right c (Nat.le_of_lt g)) (by rw [Nat.mul_succ]; omega)
      · rintro rfl
        rw [Nat.zero_mul] at h
        have := Nat.mul_pos (show 0 < a by omega) hd
        omega
    have h2 : d < c := by
      refine Nat.lt_of_not_le fun hcd => ?_
      have h3 : c * b < c * a := Nat.mul_lt_mul_of_pos_left g (Nat.pos_of_ne_zero h1.2)
      have h4 : a * c ≤ a * d := Nat.mul_le_mul_left _ hcd
      rw [Nat.mul_comm a c] at h4
      omega
    rw [cmpI_gt g, cmpI_gt h2]; omega
theorem cut_mono {T N1 D1 k1 N2 D2 k2 : Nat} (h1 : 0 < D1) (h2 : 0 < D2) (h : N1 * D2 ≤ N2 * D1) (C1 : Cut T N1 D1 k1) (C2 : Cut T N2 D2 k2) : k1 < k2 ∨ (k1 = k2 ∧ rst T N1 D1 k1 ≤ rst T N2 D2 k2) := by
  have hT : N1 * T * D2 ≤ N2 * T * D1 := by
    have := Nat.mul_le_mul_right T h
    rw [show N1 * T * D2 = N1 * D2 * T by grind, show N2 * T * D1 = N2 * D1 * T by grind]; exact this
  rcases Nat.lt_trichotomy k1 k2 with g | g | g
  · exact Or.inl g
  · subst g
    refine Or.inr ⟨rfl, ?_⟩
    have r2 := rst_rng T N2 D2 k1
    by_cases e1 : N1 * T = amt k1 * D1
    · rw [rst_zero.2 e1]; omega
    · have e2 : ¬ N2 * T = amt k1 * D2 := by
        intro e
        rw [e] at hT
        have h3 := C1.2.1
        have h4 : amt k1 * D1 * D2 < N1 * T * D2 := Nat.mul_lt_mul_of_pos_right (by omega) h2
        have h5 : amt k1 * D2 * D1 = amt k1 * D1 * D2 := by grind
        omega
      unfold rst
      rw [if_neg e1, if_neg e2]
      have hS : 0 < amt k1 + amt (k1 + 1) := by
        have := amt_lt (show 0 < k1 + 1 by omega)
        omega
      have := cmpI_mono (Nat.mul_pos hS h1) (Nat.mul_pos hS h2) (a := 2 * (N1 * T)) (c := 2 * (N2 * T)) (by
        rw [show 2 * (N1 * T) * ((amt k1 + amt (k1 + 1)) * D2) = 2 * (amt k1 + amt (k1 + 1)) * (N1 * T * D2) by grind, show 2 * (N2 * T) * ((amt k1 + amt (k1 + 1)) * D1) = 2 * (amt k1 + amt (k1 + 1)) * (N2 * T * D1) by grind]
        exact Nat.mul_le_mul_left _ hT)
      omega
  · exfalso
    have hne : k2 + 1 ≠ FI := by have := C1.1; omega
    have h3 := C2.2.2.resolve_left hne
    have h4 : amt (k2 + 1) * D2 ≤ amt k1 * D2 := Nat.mul_le_mul_right _ (amt_le g)
    have h5 : N2 * T * D1 < amt k1 * D2 * D1 := Nat.mul_lt_mul_of_pos_right (by omega) h1
    have h6 : amt k1 * D1 * D2 ≤ N1 * T * D2 := Nat.mul_le_mul_right _ C1.2.1
    have h7 : amt k1 * D2 * D1 = amt k1 * D1 * D2 := by grind
    omega
theorem nup_mono {T N1 D1 k1 N2 D2 k2 : Nat} (h1 : 0 < D1) (h2 : 0 < D2) (h : N1 * D2 ≤ N2 * D1) (C1 : Cut T N1 D1 k1) (C2 : Cut T N2 D2 k2) : (if nup T N1 D1 k1 then k1 + 1 else k1) ≤ (if nup T N2 D2 k2 then k2 + 1 else k2) := by
  have r2 := rst_rng T N2 D2 k2
  rcases cut_mono h1 h2 h C1 C2 with g | ⟨rfl, g⟩
  · split <;> split <;> omega
  · by_cases e : nup T N1 D1 k1 = true
    · have e2 : nup T N2 D2 k1 = true := by
        unfold nup at e ⊢
        rw [decide_eq_true_iff] at e ⊢
        omega
      rw [if_pos e, if_pos e2]; omega
    · rw [if_neg e]; split <;> omega
theorem ups_mono {T N1 D1 k1 N2 D2 k2 : Nat} (h1 : 0 < D1) (h2 : 0 < D2) (h : N1 * D2 ≤ N2 * D1) (C1 : Cut T N1 D1 k1) (C2 : Cut T N2 D2 k2) : (if rst T N1 D1 k1 ≠ 0 then k1 + 1 else k1) ≤ (if rst T N2 D2 k2 ≠ 0 then k2 + 1 else k2) := by
  have r1 := rst_rng T N1 D1 k1
  have r2 := rst_rng T N2 D2 k2
  rcases cut_mono h1 h2 h C1 C2 with g | ⟨rfl, g⟩
  · split <;> split <;> omega
  · split <;> split <;> omega
theorem cut_le {T N1 D1 k1 N2 D2 k2 : Nat} (h1 : 0 < D1) (h2 : 0 < D2) (h : N1 * D2 ≤ N2 * D1) (C1 : Cut T N1 D1 k1) (C2 : Cut T N2 D2 k2) : k1 ≤ k2 := by
  rcases cut_mono h1 h2 h C1 C2 with g | ⟨rfl, g⟩ <;> omega
/-- the order of two numbers, by their amounts -/
theorem am_le {A1 A2 : Int} {D1 D2 : Nat} (h : A1 * (D2 : Int) ≤ A2 * (D1 : Int)) (h1 : 0 < D1) (h2 : 0 < D2) :
    (¬ A1 < 0 → ¬ A2 < 0 → am A1 * D2 ≤ am A2 * D1) ∧ (A1 < 0 → A2 < 0 → am A2 * D1 ≤ am A1 * D2) ∧ (A2 < 0 → A1 < 0) := by
  have e : ∀ A : Int, ¬ A < 0 → ((am A : Nat) : Int) = A := fun A h => by unfold am; omega
  have e' : ∀ A : Int, A < 0 → ((am A : Nat) : Int) = -A := fun A h => by unfold am; omega
  refine ⟨fun g1 g2 => ?_, fun g1 g2 => ?_, fun g => ?_⟩
  · have : ((am A1 * D2 : Nat) : Int) ≤ ((am A2 * D1 : Nat) : Int) := by rw [Int.natCast_mul, Int.natCast_mul, e _ g1, e _ g2]; exact h
    omega
  · have : ((am A2 * D1 : Nat) : Int) ≤ ((am A1 * D2 : Nat) : Int) := by rw [Int.natCast_mul, Int.natCast_mul, e' _ g1, e' _ g2, Int.neg_mul, Int.neg_mul]; omega
    omega
  · have g1 := Int.mul_neg_of_neg_of_pos g (show (0 : Int) < D1 by omega)
    refine Int.lt_of_not_ge fun g2 => ?_
    have := Int.mul_nonneg g2 (show (0 : Int) ≤ D2 by omega)
    omega
/-- two roundings, by their amounts -/
theorem key_le {A1 A2 : Int} {D1 D2 j1 j2 : Nat} (h1 : 0 < D1) (h2 : 0 < D2) (f1 : j1 ≤ FI) (f2 : j2 ≤ FI) (h : A1 * (D2 : Int) ≤ A2 * (D1 : Int))
    (hp : ¬ A1 < 0 → ¬ A2 < 0 → am A1 * D2 ≤ am A2 * D1 → j1 ≤ j2) (hn : A1 < 0 → A2 < 0 → am A2 * D1 ≤ am A1 * D2 → j2 ≤ j1) :
    (FloatKind.f64.format.order (fB (decide (A1 < 0)) j1) (fB (decide (A2 < 0)) j2) == some .lt || FloatKind.f64.format.order (fB (decide (A1 < 0)) j1) (fB (decide (A2 < 0)) j2) == some .eq) = true := by
  refine le_run (by rw [fB_mod f1]; exact f1) (by rw [fB_mod f2]; exact f2) ?_
  rw [fkey_fB f1, fkey_fB f2]
  obtain ⟨a, b, c⟩ := am_le h h1 h2
  by_cases g1 : A1 < 0 <;> by_cases g2 : A2 < 0
  · have := hn g1 g2 (b g1 g2)
    rw [decide_eq_true g1, decide_eq_true g2, if_pos rfl, if_pos rfl]; omega
  · rw [decide_eq_true g1, decide_eq_false g2, if_pos rfl, if_neg (by decide)]; omega
  · exact absurd (c g2) g1
  · have := hp g1 g2 (a g1 g2)
    rw [decide_eq_false g1, decide_eq_false g2, if_neg (by decide), if_neg (by decide)]; omega
theorem if_le {p : Prop} [Decidable p] {k : Nat} (h : k < FI) : (if p then k + 1 else k) ≤ FI := by split <;> omega

section
variable {T : Nat} {s1 s2 : Bool} {X1 Y1 X2 Y2 k1 k2 : Nat}
theorem near_le (h : rn s1 X1 Y1 * ((rd Y2 : Nat) : Int) ≤ rn s2 X2 Y2 * ((rd Y1 : Nat) : Int)) (C1 : Cut T (rN X1 Y1) (rd Y1) k1) (C2 : Cut T (rN X2 Y2) (rd Y2) k2) :
    (FloatKind.f64.format.order (nearB T s1 X1 Y1 k1) (nearB T s2 X2 Y2 k2) == some .lt || FloatKind.f64.format.order (nearB T s1 X1 Y1 k1) (nearB T s2 X2 Y2 k2) == some .eq) = true := by
  refine key_le (rd_pos _) (rd_pos _) (if_le C1.1) (if_le C2.1) h (fun _ _ g => ?_) (fun _ _ g => ?_)
  · rw [rN_am, rN_am] at g; exact nup_mono (rd_pos _) (rd_pos _) g C1 C2
  · rw [rN_am, rN_am] at g; exact nup_mono (rd_pos _) (rd_pos _) g C2 C1
theorem down_le (h : rn s1 X1 Y1 * ((rd Y2 : Nat) : Int) ≤ rn s2 X2 Y2 * ((rd Y1 : Nat) : Int)) (C1 : Cut T (rN X1 Y1) (rd Y1) k1) (C2 : Cut T (rN X2 Y2) (rd Y2) k2) :
    (FloatKind.f64.format.order (downB T s1 X1 Y1 k1) (downB T s2 X2 Y2 k2) == some .lt || FloatKind.f64.format.order (downB T s1 X1 Y1 k1) (downB T s2 X2 Y2 k2) == some .eq) = true := by
  refine key_le (rd_pos _) (rd_pos _) (if_le C1.1) (if_le C2.1) h (fun a b g => ?_) (fun a b g => ?_)
  · rw [rN_am, rN_am] at g
    rw [if_neg (fun h => a h.2), if_neg (fun h => b h.2)]; exact cut_le (rd_pos _) (rd_pos _) g C1 C2
  · rw [rN_am, rN_am] at g
    have := ups_mono (rd_pos _) (rd_pos _) g C2 C1
    simpa only [a, b, and_true] using this
theorem up_le (h : rn s1 X1 Y1 * ((rd Y2 : Nat) : Int) ≤ rn s2 X2 Y2 * ((rd Y1 : Nat) : Int)) (C1 : Cut T (rN X1 Y1) (rd Y1) k1) (C2 : Cut T (rN X2 Y2) (rd Y2) k2) :
    (FloatKind.f64.format.order (upB T s1 X1 Y1 k1) (upB T s2 X2 Y2 k2) == some .lt || FloatKind.f64.format.order (upB T s1 X1 Y1 k1) (upB T s2 X2 Y2 k2) == some .eq) = true := by
  refine key_le (rd_pos _) (rd_pos _) (if_le C1.1) (if_le C2.1) h (fun a b g => ?_) (fun a b g => ?_)
  · rw [rN_am, rN_am] at g
    have := ups_mono (rd_pos _) (rd_pos _) g C1 C2
    simpa only [a, b, not_false_eq_true, and_true] using this
  · rw [rN_am, rN_am] at g
    rw [if_neg (fun h => h.2 b), if_neg (fun h => h.2 a)]; exact cut_le (rd_pos _) (rd_pos _) g C2 C1
end

theorem nup_is' {T N D k : Nat} (h : N * T = amt k * D) : nup T N D k = false := by
  unfold nup
  rw [rst_zero.2 h]; simp
/-- the bits of 1 -/
def ONE : Nat := 4607182418800017408
theorem amt_one {z T : Nat} (hz : z = 1074) (hT : T = 2 ^ z) : amt ONE = T := by
  have := @amt_at 1022 LD (Or.inr (Nat.le_refl _)) (by decide)
  rw [show 1022 * LD + LD = ONE by decide] at this
  rw [this, hT, LD_eq]
  obtain ⟨y, hy⟩ : ∃ y : Nat, y = 1022 := ⟨_, rfl⟩
  rw [← hy, ← Nat.pow_add, show 52 + y = z by omega]
theorem one_cut {z T : Nat} (hz : z = 1074) (hT : T = 2 ^ z) : Cut T (rN 1 1) (rd 1) ONE ∧ nearB T false 1 1 ONE = ONE := by
  have h := amt_one hz hT
  have e1 : rN 1 1 = 1 := rfl
  have e2 : rd 1 = 1 := rfl
  rw [e1, e2]
  have hl := amt_lt (show ONE < ONE + 1 by omega)
  refine ⟨⟨by decide, by omega, Or.inr (by omega)⟩, ?_⟩
  unfold nearB
  rw [e1, e2, nup_is' (by omega)]; rfl
end Go.Proofs.Ytjofldgaefjapaa

namespace Go.Proofs.Ytjofldgaefjapaa
open Go.RowKit
set_option linter.unusedVariables false
theorem fsame_is (b c : Nat) (w : World) :
    Calls Try.prog 6 #[.float .f64 b, .float .f64 c] w fun e w' => e = .returned (.bool (decide (b = c))) ∧ Below w.heap.size w w' := by
  have h1 := bits_run
  have h2 : ((b : Int) == (c : Int)) = decide (b = c) := by
    by_cases h : b = c
    · rw [decide_eq_true h, h, beq_iff_eq]
    · rw [decide_eq_false h, beq_eq_false_iff_ne]; omega
  go_enter Try.func6, Try.ntmps6
  go_wp2
  go_ret
  exact ⟨rfl, Below.refl _ _⟩
theorem fsame_self (b : Nat) (w : World) :
    Calls Try.prog 6 #[.float .f64 b, .float .f64 b] w fun e w' => e = .returned (.bool true) ∧ Below w.heap.size w w' := by
  have := fsame_is b b w
  rwa [decide_eq_true rfl] at this
end Go.Proofs.Ytjofldgaefjapaa

namespace Go.Proofs.Ytjofldgaefjapaa
open Go.RowKit
set_option linter.unusedVariables false

theorem store_float (a : Addr) (k : FloatKind) (b : Nat) (m : Mode) (w : World) : (store a (.float k b) m).run Try.prog w = stored Try.prog w a (.float k b) m := run_store Try.prog w a _ m rfl
set_option maxHeartbeats 4000000 in
set_option maxRecDepth 100000 in
theorem around_is (s0 : Bool) (a0 : Option Addr) (n0 c0 X0 : Nat) (b0 : Option Addr) (m0 d0 Y0 : Nat) (z T : Nat) (w : World) (hc0 : n0 ≤ c0) (hm0 : n0 ≤ 35184372087808) (hS0 : Seg w a0 X0 n0) (hd0 : m0 ≤ d0) (hk0 : m0 ≤ 35184372087808) (hT0 : Seg w b0 Y0 m0) (hz : z = 1074) (hT : T = 2 ^ z) :
    Calls Try.prog 20 #[Value.agg #[Value.bool s0, Value.slice a0 n0 c0, Value.slice b0 m0 d0]] w fun e w' => ∃ k, e = .returned (.agg #[.float .f64 (downB T s0 X0 Y0 k), .float .f64 (upB T s0 X0 Y0 k)]) ∧ Cut T (rN X0 Y0) (rd Y0) k ∧ Below w.heap.size w w' := by
  have HD := hide' (fun w' k1 k2 => down_is s0 a0 n0 c0 X0 b0 m0 d0 Y0 z T w' hc0 hm0 k1 hd0 hk0 k2 hz hT)
  have HU := hide' (fun w' k1 k2 => up_is s0 a0 n0 c0 X0 b0 m0 d0 Y0 z T w' hc0 hm0 k1 hd0 hk0 k2 hz hT)
  clear hz hT
  have hsf := store_float
  go_enter Try.func20, Try.ntmps20
  go_wp2_with fail
  have q00 : (((w.alloc (.cells #[.bool s0, .slice a0 n0 c0, .slice b0 m0 d0] 27)).alloc (.cells #[.float .f64 0, .float .f64 0] 40))).cell? ⟨w.heap.size, 0, none⟩ = some (.bool s0) := by go_simp
  have q01 : (((w.alloc (.cells #[.bool s0, .slice a0 n0 c0, .slice b0 m0 d0] 27)).alloc (.cells #[.float .f64 0, .float .f64 0] 40))).cell? ⟨w.heap.size, 1, none⟩ = some (.slice a0 n0 c0) := by go_simp
  have q02 : (((w.alloc (.cells #[.bool s0, .slice a0 n0 c0, .slice b0 m0 d0] 27)).alloc (.cells #[.float .f64 0, .float .f64 0] 40))).cell? ⟨w.heap.size, 2, none⟩ = some (.slice b0 m0 d0) := by go_simp
  have r00 : (((w.alloc (.cells #[.bool s0, .slice a0 n0 c0, .slice b0 m0 d0] 27)).alloc (.cells #[.float .f64 0, .float .f64 0] 40))).cell? ⟨w.heap.size + 1, 0, none⟩ = some (.float .f64 0) := by go_simp
  have r01 : (((w.alloc (.cells #[.bool s0, .slice a0 n0 c0, .slice b0 m0 d0] 27)).alloc (.cells #[.float .f64 0, .float .f64 0] 40))).cell? ⟨w.heap.size + 1, 1, none⟩ = some (.float .f64 0) := by go_simp
  have hB : Below w.heap.size w (((w.alloc (.cells #[.bool s0, .slice a0 n0 c0, .slice b0 m0 d0] 27)).alloc (.cells #[.float .f64 0, .float .f64 0] 40))) := (((Below.refl _ _).alloc (by (try simp only [World.size_alloc]); omega) _).alloc (by (try simp only [World.size_alloc]); omega) _)
  have hR0 : Row (((w.alloc (.cells #[.bool s0, .slice a0 n0 c0, .slice b0 m0 d0] 27)).alloc (.cells #[.float .f64 0, .float .f64 0] 40))) (w.heap.size + 1) := by
    have := row_new ((w.alloc (.cells #[.bool s0, .slice a0 n0 c0, .slice b0 m0 d0] 27))) #[.float .f64 0, .float .f64 0] 40
    try simp only [World.size_alloc] at this
    exact this
  have hz : (((w.alloc (.cells #[.bool s0, .slice a0 n0 c0, .slice b0 m0 d0] 27)).alloc (.cells #[.float .f64 0, .float .f64 0] 40))).heap.size = w.heap.size + 1 + 1 := by simp only [World.size_alloc]
  generalize ((w.alloc (.cells #[.bool s0, .slice a0 n0 c0, .slice b0 m0 d0] 27)).alloc (.cells #[.float .f64 0, .float .f64 0] 40)) = W at q00 q01 q02 r00 r01 hR0 hB hz ⊢
  have hBW : Below W.heap.size W W := Below.refl _ _
  replace hBW := hBW.drew
  first
    | go_region_held3 (fun w' => w'.cell? ⟨w.heap.size, 0, none⟩ = some (.bool s0) ∧ w'.cell? ⟨w.heap.size, 1, none⟩ = some (.slice a0 n0 c0) ∧ w'.cell? ⟨w.heap.size, 2, none⟩ = some (.slice b0 m0 d0) ∧ Below w.heap.size w w')
        (first | exact ⟨q00, q01, q02, hB.trans (hBW.mono hB.size)⟩ | exact kp3 b1 (by assumption) | exact kp3 b2 (by assumption) | exact kp3 (below_alloc _) (by assumption) | exact kp3 (below_alloc _) ⟨q00, q01, q02, hB.trans (hBW.mono hB.size)⟩ | exact kpT3_2 (by assumption) (by omega) (by omega) (by omega) (by omega))
        (first
          | (go_at_call 9; (fail_if_success clear b1); refine (HD.out _ (sb hS0 hB hBW) (sb hT0 hB hBW)).mono ?_; rintro e w1 ⟨k, rfl, hC, bb1⟩; have b1 := bb1; replace hBW := hBW.trans (b1.mono hBW.size); replace q00 := below_cell b1 q00; replace q01 := below_cell b1 q01; replace q02 := below_cell b1 q02; replace r00 := below_cell b1 r00; replace r01 := below_cell b1 r01; replace hR0 := below_row b1 hR0)
          | (go_at_call 11; (fail_if_success clear b2); refine (HU.out _ (sb hS0 hB hBW) (sb hT0 hB hBW)).mono ?_; rintro e w2 ⟨k2, rfl, hC2, bb2⟩; have b2 := bb2; replace hBW := hBW.trans (b2.mono hBW.size); replace q00 := below_cell b2 q00; replace q01 := below_cell b2 q01; replace q02 := below_cell b2 q02; replace r00 := below_cell b2 r00; replace r01 := below_cell b2 r01; replace hR0 := below_row b2 hR0; have fz := fun o => hR0.frozen o))
    | fail
  obtain rfl := hC.uniq hC2
  have fz0 := fun o => hR0.frozen o
  go_wp2
  all_goals refine bodyPost_ret (v := .agg #[.float .f64 (downB T s0 X0 Y0 k), .float .f64 (upB T s0 X0 Y0 k)]) (by rw [results_cell rfl]; go_simp) rfl ?_
  all_goals exact ⟨k, rfl, hC, ((bset (bset (hB.trans (hBW.mono hB.size)) (by omega)) (by omega)))⟩
set_option maxHeartbeats 4000000 in
set_option maxRecDepth 100000 in
theorem varound_is (s0 : Bool) (a0 : Option Addr) (n0 c0 X0 : Nat) (b0 : Option Addr) (m0 d0 Y0 : Nat) (z T : Nat) (w : World) (hc0 : n0 ≤ c0) (hm0 : n0 ≤ 35184372087808) (hS0 : Seg w a0 X0 n0) (hd0 : m0 ≤ d0) (hk0 : m0 ≤ 35184372087808) (hT0 : Seg w b0 Y0 m0) (hz : z = 1074) (hT : T = 2 ^ z) :
    Calls Try.prog 22 #[Value.agg #[Value.bool s0, Value.slice a0 n0 c0, Value.slice b0 m0 d0]] w fun e w' => ∃ k, e = .returned (.agg #[.float .f64 (downB T s0 X0 Y0 k), .float .f64 (upB T s0 X0 Y0 k)]) ∧ Cut T (rN X0 Y0) (rd Y0) k ∧ Below w.heap.size w w' := by
  have HD := hide' (fun w' k1 k2 => vdown_is s0 a0 n0 c0 X0 b0 m0 d0 Y0 z T w' hc0 hm0 k1 hd0 hk0 k2 hz hT)
  have HU := hide' (fun w' k1 k2 => vup_is s0 a0 n0 c0 X0 b0 m0 d0 Y0 z T w' hc0 hm0 k1 hd0 hk0 k2 hz hT)
  clear hz hT
  have hsf := store_float
  go_enter Try.func22, Try.ntmps22
  go_wp2_with fail
  have q00 : (((w.alloc (.cells #[.bool s0, .slice a0 n0 c0, .slice b0 m0 d0] 27)).alloc (.cells #[.float .f64 0, .float .f64 0] 40))).cell? ⟨w.heap.size, 0, none⟩ = some (.bool s0) := by go_simp
  have q01 : (((w.alloc (.cells #[.bool s0, .slice a0 n0 c0, .slice b0 m0 d0] 27)).alloc (.cells #[.float .f64 0, .float .f64 0] 40))).cell? ⟨w.heap.size, 1, none⟩ = some (.slice a0 n0 c0) := by go_simp
  have q02 : (((w.alloc (.cells #[.bool s0, .slice a0 n0 c0, .slice b0 m0 d0] 27)).alloc (.cells #[.float .f64 0, .float .f64 0] 40))).cell? ⟨w.heap.size, 2, none⟩ = some (.slice b0 m0 d0) := by go_simp
  have r00 : (((w.alloc (.cells #[.bool s0, .slice a0 n0 c0, .slice b0 m0 d0] 27)).alloc (.cells #[.float .f64 0, .float .f64 0] 40))).cell? ⟨w.heap.size + 1, 0, none⟩ = some (.float .f64 0) := by go_simp
  have r01 : (((w.alloc (.cells #[.bool s0, .slice a0 n0 c0, .slice b0 m0 d0] 27)).alloc (.cells #[.float .f64 0, .float .f64 0] 40))).cell? ⟨w.heap.size + 1, 1, none⟩ = some (.float .f64 0) := by go_simp
  have hB : Below w.heap.size w (((w.alloc (.cells #[.bool s0, .slice a0 n0 c0, .slice b0 m0 d0] 27)).alloc (.cells #[.float .f64 0, .float .f64 0] 40))) := (((Below.refl _ _).alloc (by (try simp only [World.size_alloc]); omega) _).alloc (by (try simp only [World.size_alloc]); omega) _)
  have hR0 : Row (((w.alloc (.cells #[.bool s0, .slice a0 n0 c0, .slice b0 m0 d0] 27)).alloc (.cells #[.float .f64 0, .float .f64 0] 40))) (w.heap.size + 1) := by
    have := row_new ((w.alloc (.cells #[.bool s0, .slice a0 n0 c0, .slice b0 m0 d0] 27))) #[.float .f64 0, .float .f64 0] 40
    try simp only [World.size_alloc] at this
    exact this
  have hz : (((w.alloc (.cells #[.bool s0, .slice a0 n0 c0, .slice b0 m0 d0] 27)).alloc (.cells #[.float .f64 0, .float .f64 0] 40))).heap.size = w.heap.size + 1 + 1 := by simp only [World.size_alloc]
  generalize ((w.alloc (.cells #[.bool s0, .slice a0 n0 c0, .slice b0 m0 d0] 27)).alloc (.cells #[.float .f64 0, .float .f64 0] 40)) = W at q00 q01 q02 r00 r01 hR0 hB hz ⊢
  have hBW : Below W.heap.size W W := Below.refl _ _
  replace hBW := hBW.drew
  first
    | go_region_held3 (fun w' => w'.cell? ⟨w.heap.size, 0, none⟩ = some (.bool s0) ∧ w'.cell? ⟨w.heap.size, 1, none⟩ = some (.slice a0 n0 c0) ∧ w'.cell? ⟨w.heap.size, 2, none⟩ = some (.slice b0 m0 d0) ∧ Below w.heap.size w w')
        (first | exact ⟨q00, q01, q02, hB.trans (hBW.mono hB.size)⟩ | exact kp3 b1 (by assumption) | exact kp3 b2 (by assumption) | exact kp3 (below_alloc _) (by assumption) | exact kp3 (below_alloc _) ⟨q00, q01, q02, hB.trans (hBW.mono hB.size)⟩ | exact kpT3_2 (by assumption) (by omega) (by omega) (by omega) (by omega))
        (first
          | (go_at_call 10; (fail_if_success clear b1); refine (HD.out _ (sb hS0 hB hBW) (sb hT0 hB hBW)).mono ?_; rintro e w1 ⟨k, rfl, hC, bb1⟩; have b1 := bb1; replace hBW := hBW.trans (b1.mono hBW.size); replace q00 := below_cell b1 q00; replace q01 := below_cell b1 q01; replace q02 := below_cell b1 q02; replace r00 := below_cell b1 r00; replace r01 := below_cell b1 r01; replace hR0 := below_row b1 hR0)
          | (go_at_call 12; (fail_if_success clear b2); refine (HU.out _ (sb hS0 hB hBW) (sb hT0 hB hBW)).mono ?_; rintro e w2 ⟨k2, rfl, hC2, bb2⟩; have b2 := bb2; replace hBW := hBW.trans (b2.mono hBW.size); replace q00 := below_cell b2 q00; replace q01 := below_cell b2 q01; replace q02 := below_cell b2 q02; replace r00 := below_cell b2 r00; replace r01 := below_cell b2 r01; replace hR0 := below_row b2 hR0; have fz := fun o => hR0.frozen o))
    | fail
  obtain rfl := hC.uniq hC2
  have fz0 := fun o => hR0.frozen o
  go_wp2
  all_goals refine bodyPost_ret (v := .agg #[.float .f64 (downB T s0 X0 Y0 k), .float .f64 (upB T s0 X0 Y0 k)]) (by rw [results_cell rfl]; go_simp) rfl ?_
  all_goals exact ⟨k, rfl, hC, ((bset (bset (hB.trans (hBW.mono hB.size)) (by omega)) (by omega)))⟩
set_option maxHeartbeats 4000000 in
set_option maxRecDepth 100000 in
theorem sameSpan_self (a b : Nat) (w : World) :
    Calls Try.prog 21 #[Value.agg #[Value.float .f64 a, Value.float .f64 b], Value.agg #[Value.float .f64 a, Value.float .f64 b]] w fun e w' => e = .returned (.bool true) ∧ Below w.heap.size w w' := by
  go_enter Try.func21, Try.ntmps21
  go_wp2_with fail
  have q00 : (((w.alloc (.cells #[.float .f64 a, .float .f64 b] 40)).alloc (.cells #[.float .f64 a, .float .f64 b] 40))).cell? ⟨w.heap.size, 0, none⟩ = some (.float .f64 a) := by go_simp
  have q01 : (((w.alloc (.cells #[.float .f64 a, .float .f64 b] 40)).alloc (.cells #[.float .f64 a, .float .f64 b] 40))).cell? ⟨w.heap.size, 1, none⟩ = some (.float .f64 b) := by go_simp
  have q10 : (((w.alloc (.cells #[.float .f64 a, .float .f64 b] 40)).alloc (.cells #[.float .f64 a, .float .f64 b] 40))).cell? ⟨w.heap.size + 1, 0, none⟩ = some (.float .f64 a) := by go_simp
  have q11 : (((w.alloc (.cells #[.float .f64 a, .float .f64 b] 40)).alloc (.cells #[.float .f64 a, .float .f64 b] 40))).cell? ⟨w.heap.size + 1, 1, none⟩ = some (.float .f64 b) := by go_simp
  have hB : Below w.heap.size w (((w.alloc (.cells #[.float .f64 a, .float .f64 b] 40)).alloc (.cells #[.float .f64 a, .float .f64 b] 40))) := (((Below.refl _ _).alloc (by (try simp only [World.size_alloc]); omega) _).alloc (by (try simp only [World.size_alloc]); omega) _)
  have hz : (((w.alloc (.cells #[.float .f64 a, .float .f64 b] 40)).alloc (.cells #[.float .f64 a, .float .f64 b] 40))).heap.size = w.heap.size + 1 + 1 := by simp only [World.size_alloc]
  generalize ((w.alloc (.cells #[.float .f64 a, .float .f64 b] 40)).alloc (.cells #[.float .f64 a, .float .f64 b] 40)) = W at q00 q01 q10 q11 hB hz ⊢
  have hBW : Below W.heap.size W W := Below.refl _ _
  refine (fsame_self _ _).mono ?_
  rintro e w5 ⟨rfl, b5⟩
  replace hBW := hBW.trans (b5.mono hBW.size)
  replace q00 := below_cell b5 q00
  replace q01 := below_cell b5 q01
  replace q10 := below_cell b5 q10
  replace q11 := below_cell b5 q11
  go_wp2_with fail
  refine (fsame_self _ _).mono ?_
  rintro e w6 ⟨rfl, b6⟩
  replace hBW := hBW.trans (b6.mono hBW.size)
  replace q00 := below_cell b6 q00
  replace q01 := below_cell b6 q01
  replace q10 := below_cell b6 q10
  replace q11 := below_cell b6 q11
  go_wp2
  go_ret
  exact ⟨rfl, hB.trans (hBW.mono hB.size)⟩
theorem neg_run' {b : Nat} (h : b < 18446744073709551616) (w : World) : (Op.unary UnOp.neg (Value.float FloatKind.f64 b)).run Try.prog w = .ok (.float .f64 (flp b)) w := by
  rw [← neg_float h]; rfl
theorem inf_dn (b : Nat) (w : World) (hb : b < 18446744073709551616) :
    Calls Try.prog 42 #[.float .f64 b, .int .i64 (-1)] w fun e w' => e = .returned (.bool (decide (b = SB + FI))) ∧ w = w' := by
  have hf := neg_run' hb
  have h : (FloatKind.f64.format.order (flp b) 9218868437227405311 == some .gt) = decide (b = SB + FI) := by
    refine (f_inf (flp_lt hb)).trans ?_
    rw [decide_eq_decide]
    unfold flp
    rw [FIv, SBv]
    split <;> omega
  go_enter Try.func42, Try.ntmps42
  go_wp2
  go_ret
  exact ⟨rfl, rfl⟩
/-- may the span be? -/
def vaB (a b : Nat) : Bool := decide (a % SB ≤ FI ∧ b % SB ≤ FI ∧ fkey a ≤ fkey b ∧ a ≠ FI ∧ b ≠ SB + FI)
theorem le_no {b c : Nat} (h : ¬ (b % SB ≤ FI ∧ c % SB ≤ FI ∧ fkey b ≤ fkey c)) : (FloatKind.f64.format.order b c == some .lt || FloatKind.f64.format.order b c == some .eq) = false := by
  by_cases hb : b % SB ≤ FI
  · by_cases hc : c % SB ≤ FI
    · have e : FloatKind.f64.format.order b c = some (compare (fkey b) (fkey c)) := order_eq hb hc
      rw [e, fcmp_gt (by have := h; omega)]; rfl
    · have e : FloatKind.f64.format.order b c = none := order_nan_r b (by omega)
      rw [e]; rfl
  · have e : FloatKind.f64.format.order b c = none := order_nan_l c (by omega)
    rw [e]; rfl
set_option maxHeartbeats 4000000 in
set_option maxRecDepth 100000 in
theorem Valid_is (a b : Nat) (c : Bool) (w : World) (ha : a < 18446744073709551616) (hb : b < 18446744073709551616) (hc : vaB a b = c) :
    Calls Try.prog 25 #[Value.agg #[Value.float .f64 a, Value.float .f64 b]] w fun e w' => e = .returned (.bool c) ∧ Below w.heap.size w w' := by
  have HA := hide' (fun w' => inf_up a w' ha)
  have HB := hide' (fun w' => inf_dn b w' hb)
  unfold vaB at hc
  by_cases h1 : a % SB ≤ FI ∧ b % SB ≤ FI ∧ fkey a ≤ fkey b
  · have hle := le_run h1.1 h1.2.1 h1.2.2
    by_cases h2 : a = FI
    · have d2 : decide (a = FI) = true := decide_eq_true h2
      obtain rfl : c = false := by rw [← hc]; exact decide_eq_false (fun h => h.2.2.2.1 h2)
      clear h1 h2 hc
      go_enter Try.func25, Try.ntmps25
      go_upto_region 1 with fail
      have q00 : ((w.alloc (.cells #[.float .f64 a, .float .f64 b] 40))).cell? ⟨w.heap.size, 0, none⟩ = some (.float .f64 a) := by go_simp
      have q01 : ((w.alloc (.cells #[.float .f64 a, .float .f64 b] 40))).cell? ⟨w.heap.size, 1, none⟩ = some (.float .f64 b) := by go_simp
      have hB : Below w.heap.size w ((w.alloc (.cells #[.float .f64 a, .float .f64 b] 40))) := ((Below.refl _ _).alloc (by (try simp only [World.size_alloc]); omega) _)
      have hz : ((w.alloc (.cells #[.float .f64 a, .float .f64 b] 40))).heap.size = w.heap.size + 1 := by simp only [World.size_alloc]
      generalize (w.alloc (.cells #[.float .f64 a, .float .f64 b] 40)) = W at q00 q01 hB hz ⊢
      have hBW : Below W.heap.size W W := Below.refl _ _
      go_wp2_with fail
      refine (HA.out _).mono ?_
      rintro e w1 ⟨rfl, rfl⟩
      rw [d2]
      go_wp2
      go_ret
      exact ⟨rfl, hB⟩
    · have d2 : decide (a = FI) = false := decide_eq_false h2
      by_cases h3 : b = SB + FI
      · have d3 : decide (b = SB + FI) = true := decide_eq_true h3
        obtain rfl : c = false := by rw [← hc]; exact decide_eq_false (fun h => h.2.2.2.2 h3)
        clear h1 h2 h3 hc
        go_enter Try.func25, Try.ntmps25
        go_upto_region 1 with fail
        have q00 : ((w.alloc (.cells #[.float .f64 a, .float .f64 b] 40))).cell? ⟨w.heap.size, 0, none⟩ = some (.float .f64 a) := by go_simp
        have q01 : ((w.alloc (.cells #[.float .f64 a, .float .f64 b] 40))).cell? ⟨w.heap.size, 1, none⟩ = some (.float .f64 b) := by go_simp
        have hB : Below w.heap.size w ((w.alloc (.cells #[.float .f64 a, .float .f64 b] 40))) := ((Below.refl _ _).alloc (by (try simp only [World.size_alloc]); omega) _)
        have hz : ((w.alloc (.cells #[.float .f64 a, .float .f64 b] 40))).heap.size = w.heap.size + 1 := by simp only [World.size_alloc]
        generalize (w.alloc (.cells #[.float .f64 a, .float .f64 b] 40)) = W at q00 q01 hB hz ⊢
        have hBW : Below W.heap.size W W := Below.refl _ _
        go_wp2_with fail
        refine (HA.out _).mono ?_
        rintro e w1 ⟨rfl, rfl⟩
        rw [d2]
        go_wp2_with fail
        refine (HB.out _).mono ?_
        rintro e w1 ⟨rfl, rfl⟩
        rw [d3]
        go_wp2
        go_ret
        exact ⟨rfl, hB⟩
      · have d3 : decide (b = SB + FI) = false := decide_eq_false h3
        obtain rfl : c = true := by rw [← hc]; exact decide_eq_true ⟨h1.1, h1.2.1, h1.2.2, h2, h3⟩
        clear h1 h2 h3 hc
        go_enter Try.func25, Try.ntmps25
        go_upto_region 1 with fail
        have q00 : ((w.alloc (.cells #[.float .f64 a, .float .f64 b] 40))).cell? ⟨w.heap.size, 0, none⟩ = some (.float .f64 a) := by go_simp
        have q01 : ((w.alloc (.cells #[.float .f64 a, .float .f64 b] 40))).cell? ⟨w.heap.size, 1, none⟩ = some (.float .f64 b) := by go_simp
        have hB : Below w.heap.size w ((w.alloc (.cells #[.float .f64 a, .float .f64 b] 40))) := ((Below.refl _ _).alloc (by (try simp only [World.size_alloc]); omega) _)
        have hz : ((w.alloc (.cells #[.float .f64 a, .float .f64 b] 40))).heap.size = w.heap.size + 1 := by simp only [World.size_alloc]
        generalize (w.alloc (.cells #[.float .f64 a, .float .f64 b] 40)) = W at q00 q01 hB hz ⊢
        have hBW : Below W.heap.size W W := Below.refl _ _
        go_wp2_with fail
        refine (HA.out _).mono ?_
        rintro e w1 ⟨rfl, rfl⟩
        rw [d2]
        go_wp2_with fail
        refine (HB.out _).mono ?_
        rintro e w1 ⟨rfl, rfl⟩
        rw [d3]
        go_wp2
        go_ret
        exact ⟨rfl, hB⟩
  · have hle := le_no h1
    obtain rfl : c = false := by rw [← hc]; exact decide_eq_false (fun h => h1 ⟨h.1, h.2.1, h.2.2.1⟩)
    clear h1 hc
    go_enter Try.func25, Try.ntmps25
    go_upto_region 1 with fail
    have q00 : ((w.alloc (.cells #[.float .f64 a, .float .f64 b] 40))).cell? ⟨w.heap.size, 0, none⟩ = some (.float .f64 a) := by go_simp
    have q01 : ((w.alloc (.cells #[.float .f64 a, .float .f64 b] 40))).cell? ⟨w.heap.size, 1, none⟩ = some (.float .f64 b) := by go_simp
    have hB : Below w.heap.size w ((w.alloc (.cells #[.float .f64 a, .float .f64 b] 40))) := ((Below.refl _ _).alloc (by (try simp only [World.size_alloc]); omega) _)
    have hz : ((w.alloc (.cells #[.float .f64 a, .float .f64 b] 40))).heap.size = w.heap.size + 1 := by simp only [World.size_alloc]
    generalize (w.alloc (.cells #[.float .f64 a, .float .f64 b] 40)) = W at q00 q01 hB hz ⊢
    have hBW : Below W.heap.size W W := Below.refl _ _
    go_wp2
    go_ret
    exact ⟨rfl, hB⟩
end Go.Proofs.Ytjofldgaefjapaa

namespace Go.Proofs.Ytjofldgaefjapaa
open Go.RowKit
set_option linter.unusedVariables false

/-- an infinite end's side -/
def faI (b : Nat) : Int := if b = FI then 1 else -1
set_option maxHeartbeats 4000000 in
set_option maxRecDepth 100000 in
theorem endOf_inf (b : Nat) (w : World) (hb : b < 18446744073709551616) (hf : b % SB = FI) :
    Calls Try.prog 45 #[.float .f64 b] w fun e w' => e = .returned (.agg #[.int .i64 (faI b), .bool false, .slice none 0 0, .slice none 0 0]) ∧ Below w.heap.size w w' := by
  have hbr := bits_run
  have HI := hide' (fun w' => vinf_any b w' hb)
  have hd : decide (b % SB = FI) = true := decide_eq_true hf
  unfold faI
  by_cases h : b = FI
  · rw [if_pos h]
    have hc : ((b : Int) == 9218868437227405312) = true := by rw [beq_iff_eq, h]; rfl
    clear h hf
    go_enter Try.func45, Try.ntmps45
    go_upto_region 1 with fail
    have r00 : ((w.alloc (.cells #[.int .i64 0, .bool false, .slice none 0 0, .slice none 0 0] 62))).cell? ⟨w.heap.size, 0, none⟩ = some (.int .i64 0) := by go_simp
    have r01 : ((w.alloc (.cells #[.int .i64 0, .bool false, .slice none 0 0, .slice none 0 0] 62))).cell? ⟨w.heap.size, 1, none⟩ = some (.bool false) := by go_simp
    have r02 : ((w.alloc (.cells #[.int .i64 0, .bool false, .slice none 0 0, .slice none 0 0] 62))).cell? ⟨w.heap.size, 2, none⟩ = some (.slice none 0 0) := by go_simp
    have r03 : ((w.alloc (.cells #[.int .i64 0, .bool false, .slice none 0 0, .slice none 0 0] 62))).cell? ⟨w.heap.size, 3, none⟩ = some (.slice none 0 0) := by go_simp
    have hB : Below w.heap.size w ((w.alloc (.cells #[.int .i64 0, .bool false, .slice none 0 0, .slice none 0 0] 62))) := ((Below.refl _ _).alloc (by (try simp only [World.size_alloc]); omega) _)
    have hR0 : Row ((w.alloc (.cells #[.int .i64 0, .bool false, .slice none 0 0, .slice none 0 0] 62))) (w.heap.size) := by
      have := row_new (w) #[.int .i64 0, .bool false, .slice none 0 0, .slice none 0 0] 62
      try simp only [World.size_alloc] at this
      exact this
    have hz : ((w.alloc (.cells #[.int .i64 0, .bool false, .slice none 0 0, .slice none 0 0] 62))).heap.size = w.heap.size + 1 := by simp only [World.size_alloc]
    generalize (w.alloc (.cells #[.int .i64 0, .bool false, .slice none 0 0, .slice none 0 0] 62)) = W at r00 r01 r02 r03 hR0 hB hz ⊢
    have hBW : Below W.heap.size W W := Below.refl _ _
    have fz0 := fun o => hR0.frozen o
    have fz0 := fun o => hR0.frozen o
    go_wp2
    all_goals refine bodyPost_ret (v := .agg #[.int .i64 1, .bool false, .slice none 0 0, .slice none 0 0]) (by rw [results_cell rfl]; go_simp) rfl ?_
    all_goals exact ⟨rfl, ((bset (bset (bset (bset (hB.trans (hBW.mono hB.size)) (by omega)) (by omega)) (by omega)) (by omega)))⟩
  · rw [if_neg h]
    have hc : ((b : Int) == 9218868437227405312) = false := by rw [beq_eq_false_iff_ne]; rw [FIv] at h; omega
    clear h hf
    go_enter Try.func45, Try.ntmps45
    go_upto_region 1 with fail
    have r00 : ((w.alloc (.cells #[.int .i64 0, .bool false, .slice none 0 0, .slice none 0 0] 62))).cell? ⟨w.heap.size, 0, none⟩ = some (.int .i64 0) := by go_simp
    have r01 : ((w.alloc (.cells #[.int .i64 0, .bool false, .slice none 0 0, .slice none 0 0] 62))).cell? ⟨w.heap.size, 1, none⟩ = some (.bool false) := by go_simp
    have r02 : ((w.alloc (.cells #[.int .i64 0, .bool false, .slice none 0 0, .slice none 0 0] 62))).cell? ⟨w.heap.size, 2, none⟩ = some (.slice none 0 0) := by go_simp
    have r03 : ((w.alloc (.cells #[.int .i64 0, .bool false, .slice none 0 0, .slice none 0 0] 62))).cell? ⟨w.heap.size, 3, none⟩ = some (.slice none 0 0) := by go_simp
    have hB : Below w.heap.size w ((w.alloc (.cells #[.int .i64 0, .bool false, .slice none 0 0, .slice none 0 0] 62))) := ((Below.refl _ _).alloc (by (try simp only [World.size_alloc]); omega) _)
    have hR0 : Row ((w.alloc (.cells #[.int .i64 0, .bool false, .slice none 0 0, .slice none 0 0] 62))) (w.heap.size) := by
      have := row_new (w) #[.int .i64 0, .bool false, .slice none 0 0, .slice none 0 0] 62
      try simp only [World.size_alloc] at this
      exact this
    have hz : ((w.alloc (.cells #[.int .i64 0, .bool false, .slice none 0 0, .slice none 0 0] 62))).heap.size = w.heap.size + 1 := by simp only [World.size_alloc]
    generalize (w.alloc (.cells #[.int .i64 0, .bool false, .slice none 0 0, .slice none 0 0] 62)) = W at r00 r01 r02 r03 hR0 hB hz ⊢
    have hBW : Below W.heap.size W W := Below.refl _ _
    have fz0 := fun o => hR0.frozen o
    go_wp2_with fail
    refine (HI.out _).mono ?_
    rintro e w1 ⟨rfl, rfl⟩
    rw [hd]
    have fz0 := fun o => hR0.frozen o
    go_wp2
    all_goals refine bodyPost_ret (v := .agg #[.int .i64 (-1), .bool false, .slice none 0 0, .slice none 0 0]) (by rw [results_cell rfl]; go_simp) rfl ?_
    all_goals exact ⟨rfl, ((bset (bset (bset (bset (hB.trans (hBW.mono hB.size)) (by omega)) (by omega)) (by omega)) (by omega)))⟩
set_option maxHeartbeats 4000000 in
set_option maxRecDepth 100000 in
theorem endOf_num (z T b : Nat) (Z : Int) (V : Nat) (w : World) (hz : z = 1074) (hT : T = 2 ^ z) (hb : b < 18446744073709551616) (hf : b % SB < FI) (hL : Low (fv b) (T : Int) Z V) :
    Calls Try.prog 45 #[.float .f64 b] w fun e w' => ∃ p q, e = .returned (.agg #[.int .i64 0, .bool (ng Z), .slice p (ln (am Z)) (ln (am Z)), .slice q (ln V) (ln V)]) ∧ New w w' p (am Z) (ln (am Z)) ∧ New w w' q V (ln V) := by
  have hbr := bits_run
  have HI := hide' (fun w' => vinf_any b w' hb)
  have hd : decide (b % SB = FI) = false := decide_eq_false (by omega)
  have hc : ((b : Int) == 9218868437227405312) = false := by rw [beq_eq_false_iff_ne]; intro h; have e1 := FIv; have e2 := SBv; rw [e2] at hf; omega
  have HU := hide' (fun w' => Number_is z T b Z V w' hz hT hb hf hL)
  have hV := hL.pos
  obtain ⟨l1, l2⟩ := low_fl hz hT (by unfold fv; rw [am_sg]; exact amt_ln hf) hL
  have hLL : Low (rn (ng Z) (am Z) V) ((rd V : Nat) : Int) Z V := by rw [rn_nf hV, rd_nf hV]; exact Low.self hV hL.cop
  have HM := hide' (fun w' p q k1 k2 => vqNorm_is (ng Z) p (ln (am Z)) (ln (am Z)) (am Z) q (ln V) (ln V) V V Z w' (by omega) k1 (by omega) k2 hLL)
  clear hz hT hL hf hLL hV
  go_enter Try.func45, Try.ntmps45
  go_upto_region 1 with fail
  have r00 : ((w.alloc (.cells #[.int .i64 0, .bool false, .slice none 0 0, .slice none 0 0] 62))).cell? ⟨w.heap.size, 0, none⟩ = some (.int .i64 0) := by go_simp
  have r01 : ((w.alloc (.cells #[.int .i64 0, .bool false, .slice none 0 0, .slice none 0 0] 62))).cell? ⟨w.heap.size, 1, none⟩ = some (.bool false) := by go_simp
  have r02 : ((w.alloc (.cells #[.int .i64 0, .bool false, .slice none 0 0, .slice none 0 0] 62))).cell? ⟨w.heap.size, 2, none⟩ = some (.slice none 0 0) := by go_simp
  have r03 : ((w.alloc (.cells #[.int .i64 0, .bool false, .slice none 0 0, .slice none 0 0] 62))).cell? ⟨w.heap.size, 3, none⟩ = some (.slice none 0 0) := by go_simp
  have hB : Below w.heap.size w ((w.alloc (.cells #[.int .i64 0, .bool false, .slice none 0 0, .slice none 0 0] 62))) := ((Below.refl _ _).alloc (by (try simp only [World.size_alloc]); omega) _)
  have hR0 : Row ((w.alloc (.cells #[.int .i64 0, .bool false, .slice none 0 0, .slice none 0 0] 62))) (w.heap.size) := by
    have := row_new (w) #[.int .i64 0, .bool false, .slice none 0 0, .slice none 0 0] 62
    try simp only [World.size_alloc] at this
    exact this
  have hz : ((w.alloc (.cells #[.int .i64 0, .bool false, .slice none 0 0, .slice none 0 0] 62))).heap.size = w.heap.size + 1 := by simp only [World.size_alloc]
  generalize (w.alloc (.cells #[.int .i64 0, .bool false, .slice none 0 0, .slice none 0 0] 62)) = W at r00 r01 r02 r03 hR0 hB hz ⊢
  have hBW : Below W.heap.size W W := Below.refl _ _
  go_wp2_with fail
  refine (HI.out _).mono ?_
  rintro e w1 ⟨rfl, rfl⟩
  rw [hd]
  go_wp2_with fail
  refine (HU.out _).mono ?_
  rintro e w5 ⟨p5, q5, rfl, hp5, hq5⟩
  have b5 := hp5.below
  replace hp5 := hp5.back hBW
  replace hq5 := hq5.back hBW
  replace hBW := hBW.trans (b5.mono hBW.size)
  replace r00 := below_cell b5 r00
  replace r01 := below_cell b5 r01
  replace r02 := below_cell b5 r02
  replace r03 := below_cell b5 r03
  replace hR0 := below_row b5 hR0
  go_wp2_with fail
  refine (HM.out _ _ _ hp5.seg hq5.seg).mono ?_
  rintro e w6 ⟨p6, q6, rfl, hp6, hq6⟩
  have b6 := hp6.below
  replace hp6 := hp6.back hBW
  replace hq6 := hq6.back hBW
  replace hBW := hBW.trans (b6.mono hBW.size)
  replace r00 := below_cell b6 r00
  replace r01 := below_cell b6 r01
  replace r02 := below_cell b6 r02
  replace r03 := below_cell b6 r03
  replace hR0 := below_row b6 hR0
  replace hp5 := hp5.later b6
  replace hq5 := hq5.later b6
  have fz0 := fun o => hR0.frozen o
  go_wp2
  all_goals refine bodyPost_ret (v := .agg #[.int .i64 0, .bool (ng Z), .slice p6 (ln (am Z)) (ln (am Z)), .slice q6 (ln V) (ln V)]) (by rw [results_cell rfl]; go_simp) rfl ?_
  all_goals exact ⟨p6, q6, rfl, hp6.mid hB ((((((Mid.refl _ _ _).set _ _ (by omega) (by omega) _).set _ _ (by omega) (by omega) _).set _ _ (by omega) (by omega) _).set _ _ (by omega) (by omega) _)), hq6.mid hB ((((((Mid.refl _ _ _).set _ _ (by omega) (by omega) _).set _ _ (by omega) (by omega) _).set _ _ (by omega) (by omega) _).set _ _ (by omega) (by omega) _))⟩
set_option maxHeartbeats 4000000 in
set_option maxRecDepth 100000 in
theorem under_far (f1 : Int) (s1 : Bool) (a1 : Option Addr) (n1 c1 : Nat) (b1 : Option Addr) (m1 d1 : Nat) (f2 : Int) (s2 : Bool) (a2 : Option Addr) (n2 c2 : Nat) (b2 : Option Addr) (m2 d2 : Nat) (c : Bool) (w : World) (hne : f1 ≠ f2) (hc : decide (f1 < f2) = c) :
    Calls Try.prog 44 #[Value.agg #[Value.int .i64 f1, Value.bool s1, Value.slice a1 n1 c1, Value.slice b1 m1 d1], Value.agg #[Value.int .i64 f2, Value.bool s2, Value.slice a2 n2 c2, Value.slice b2 m2 d2]] w fun e w' => e = .returned (.bool c) ∧ Below w.heap.size w w' := by
  have hn : (f1 != f2) = true := by rw [bne_iff_ne]; exact hne
  clear hne
  go_enter Try.func44, Try.ntmps44
  go_upto_region 1 with fail
  have q00 : (((w.alloc (.cells #[.int .i64 f1, .bool s1, .slice a1 n1 c1, .slice b1 m1 d1] 62)).alloc (.cells #[.int .i64 f2, .bool s2, .slice a2 n2 c2, .slice b2 m2 d2] 62))).cell? ⟨w.heap.size, 0, none⟩ = some (.int .i64 f1) := by go_simp
  have q01 : (((w.alloc (.cells #[.int .i64 f1, .bool s1, .slice a1 n1 c1, .slice b1 m1 d1] 62)).alloc (.cells #[.int .i64 f2, .bool s2, .slice a2 n2 c2, .slice b2 m2 d2] 62))).cell? ⟨w.heap.size, 1, none⟩ = some (.bool s1) := by go_simp
  have q02 : (((w.alloc (.cells #[.int .i64 f1, .bool s1, .slice a1 n1 c1, .slice b1 m1 d1] 62)).alloc (.cells #[.int .i64 f2, .bool s2, .slice a2 n2 c2, .slice b2 m2 d2] 62))).cell? ⟨w.heap.size, 2, none⟩ = some (.slice a1 n1 c1) := by go_simp
  have q03 : (((w.alloc (.cells #[.int .i64 f1, .bool s1, .slice a1 n1 c1, .slice b1 m1 d1] 62)).alloc (.cells #[.int .i64 f2, .bool s2, .slice a2 n2 c2, .slice b2 m2 d2] 62))).cell? ⟨w.heap.size, 3, none⟩ = some (.slice b1 m1 d1) := by go_simp
  have q10 : (((w.alloc (.cells #[.int .i64 f1, .bool s1, .slice a1 n1 c1, .slice b1 m1 d1] 62)).alloc (.cells #[.int .i64 f2, .bool s2, .slice a2 n2 c2, .slice b2 m2 d2] 62))).cell? ⟨w.heap.size + 1, 0, none⟩ = some (.int .i64 f2) := by go_simp
  have q11 : (((w.alloc (.cells #[.int .i64 f1, .bool s1, .slice a1 n1 c1, .slice b1 m1 d1] 62)).alloc (.cells #[.int .i64 f2, .bool s2, .slice a2 n2 c2, .slice b2 m2 d2] 62))).cell? ⟨w.heap.size + 1, 1, none⟩ = some (.bool s2) := by go_simp
  have q12 : (((w.alloc (.cells #[.int .i64 f1, .bool s1, .slice a1 n1 c1, .slice b1 m1 d1] 62)).alloc (.cells #[.int .i64 f2, .bool s2, .slice a2 n2 c2, .slice b2 m2 d2] 62))).cell? ⟨w.heap.size + 1, 2, none⟩ = some (.slice a2 n2 c2) := by go_simp
  have q13 : (((w.alloc (.cells #[.int .i64 f1, .bool s1, .slice a1 n1 c1, .slice b1 m1 d1] 62)).alloc (.cells #[.int .i64 f2, .bool s2, .slice a2 n2 c2, .slice b2 m2 d2] 62))).cell? ⟨w.heap.size + 1, 3, none⟩ = some (.slice b2 m2 d2) := by go_simp
  have hB : Below w.heap.size w (((w.alloc (.cells #[.int .i64 f1, .bool s1, .slice a1 n1 c1, .slice b1 m1 d1] 62)).alloc (.cells #[.int .i64 f2, .bool s2, .slice a2 n2 c2, .slice b2 m2 d2] 62))) := (((Below.refl _ _).alloc (by (try simp only [World.size_alloc]); omega) _).alloc (by (try simp only [World.size_alloc]); omega) _)
  have hz : (((w.alloc (.cells #[.int .i64 f1, .bool s1, .slice a1 n1 c1, .slice b1 m1 d1] 62)).alloc (.cells #[.int .i64 f2, .bool s2, .slice a2 n2 c2, .slice b2 m2 d2] 62))).heap.size = w.heap.size + 1 + 1 := by simp only [World.size_alloc]
  generalize ((w.alloc (.cells #[.int .i64 f1, .bool s1, .slice a1 n1 c1, .slice b1 m1 d1] 62)).alloc (.cells #[.int .i64 f2, .bool s2, .slice a2 n2 c2, .slice b2 m2 d2] 62)) = W at q00 q01 q02 q03 q10 q11 q12 q13 hB hz ⊢
  have hBW : Below W.heap.size W W := Below.refl _ _
  go_wp2
  go_ret
  exact ⟨rfl, hB⟩
set_option maxHeartbeats 4000000 in
set_option maxRecDepth 100000 in
theorem under_num (Z1 Z2 : Int) (V1 V2 : Nat) (p1 q1 p2 q2 : Option Addr) (C : Int) (w : World) (l1 : ln (am Z1) ≤ 1060002) (l2 : ln V1 ≤ 1060002) (l3 : ln (am Z2) ≤ 1060002) (l4 : ln V2 ≤ 1060002) (h1 : 0 < V1) (h2 : 0 < V2) (hS1 : Seg w p1 (am Z1) (ln (am Z1))) (hT1 : Seg w q1 V1 (ln V1)) (hS2 : Seg w p2 (am Z2) (ln (am Z2))) (hT2 : Seg w q2 V2 (ln V2)) (hC : sgn (Z1 * (V2 : Int) - Z2 * (V1 : Int)) = C) :
    Calls Try.prog 44 #[Value.agg #[Value.int .i64 0, Value.bool (ng Z1), Value.slice p1 (ln (am Z1)) (ln (am Z1)), Value.slice q1 (ln V1) (ln V1)], Value.agg #[Value.int .i64 0, Value.bool (ng Z2), Value.slice p2 (ln (am Z2)) (ln (am Z2)), Value.slice q2 (ln V2) (ln V2)]] w fun e w' => e = .returned (.bool (decide (C < 0))) ∧ Below w.heap.size w w' := by
  have hcd : sgn (rn (ng Z1) (am Z1) V1 * ((rd V2 : Nat) : Int) - rn (ng Z2) (am Z2) V2 * ((rd V1 : Nat) : Int)) = C := by rw [rn_nf h1, rn_nf h2, rd_nf h1, rd_nf h2]; exact hC
  have HC := hide' (fun w' k1 k2 k3 k4 => vqCmp_is (ng Z1) p1 (ln (am Z1)) (ln (am Z1)) (am Z1) q1 (ln V1) (ln V1) V1 (ng Z2) p2 (ln (am Z2)) (ln (am Z2)) (am Z2) q2 (ln V2) (ln V2) V2 C w' (Nat.le_refl _) (by omega) k1 (Nat.le_refl _) (by omega) k2 (Nat.le_refl _) (by omega) k3 (Nat.le_refl _) (by omega) k4 hcd)
  clear hcd hC h1 h2
  go_enter Try.func44, Try.ntmps44
  go_upto_region 1 with fail
  have q00 : (((w.alloc (.cells #[.int .i64 0, .bool (ng Z1), .slice p1 (ln (am Z1)) (ln (am Z1)), .slice q1 (ln V1) (ln V1)] 62)).alloc (.cells #[.int .i64 0, .bool (ng Z2), .slice p2 (ln (am Z2)) (ln (am Z2)), .slice q2 (ln V2) (ln V2)] 62))).cell? ⟨w.heap.size, 0, none⟩ = some (.int .i64 0) := by go_simp
  have q01 : (((w.alloc (.cells #[.int .i64 0, .bool (ng Z1), .slice p1 (ln (am Z1)) (ln (am Z1)), .slice q1 (ln V1) (ln V1)] 62)).alloc (.cells #[.int .i64 0, .bool (ng Z2), .slice p2 (ln (am Z2)) (ln (am Z2)), .slice q2 (ln V2) (ln V2)] 62))).cell? ⟨w.heap.size, 1, none⟩ = some (.bool (ng Z1)) := by go_simp
  have q02 : (((w.alloc (.cells #[.int .i64 0, .bool (ng Z1), .slice p1 (ln (am Z1)) (ln (am Z1)), .slice q1 (ln V1) (ln V1)] 62)).alloc (.cells #[.int .i64 0, .bool (ng Z2), .slice p2 (ln (am Z2)) (ln (am Z2)), .slice q2 (ln V2) (ln V2)] 62))).cell? ⟨w.heap.size, 2, none⟩ = some (.slice p1 (ln (am Z1)) (ln (am Z1))) := by go_simp
  have q03 : (((w.alloc (.cells #[.int .i64 0, .bool (ng Z1), .slice p1 (ln (am Z1)) (ln (am Z1)), .slice q1 (ln V1) (ln V1)] 62)).alloc (.cells #[.int .i64 0, .bool (ng Z2), .slice p2 (ln (am Z2)) (ln (am Z2)), .slice q2 (ln V2) (ln V2)] 62))).cell? ⟨w.heap.size, 3, none⟩ = some (.slice q1 (ln V1) (ln V1)) := by go_simp
  have q10 : (((w.alloc (.cells #[.int .i64 0, .bool (ng Z1), .slice p1 (ln (am Z1)) (ln (am Z1)), .slice q1 (ln V1) (ln V1)] 62)).alloc (.cells #[.int .i64 0, .bool (ng Z2), .slice p2 (ln (am Z2)) (ln (am Z2)), .slice q2 (ln V2) (ln V2)] 62))).cell? ⟨w.heap.size + 1, 0, none⟩ = some (.int .i64 0) := by go_simp
  have q11 : (((w.alloc (.cells #[.int .i64 0, .bool (ng Z1), .slice p1 (ln (am Z1)) (ln (am Z1)), .slice q1 (ln V1) (ln V1)] 62)).alloc (.cells #[.int .i64 0, .bool (ng Z2), .slice p2 (ln (am Z2)) (ln (am Z2)), .slice q2 (ln V2) (ln V2)] 62))).cell? ⟨w.heap.size + 1, 1, none⟩ = some (.bool (ng Z2)) := by go_simp
  have q12 : (((w.alloc (.cells #[.int .i64 0, .bool (ng Z1), .slice p1 (ln (am Z1)) (ln (am Z1)), .slice q1 (ln V1) (ln V1)] 62)).alloc (.cells #[.int .i64 0, .bool (ng Z2), .slice p2 (ln (am Z2)) (ln (am Z2)), .slice q2 (ln V2) (ln V2)] 62))).cell? ⟨w.heap.size + 1, 2, none⟩ = some (.slice p2 (ln (am Z2)) (ln (am Z2))) := by go_simp
  have q13 : (((w.alloc (.cells #[.int .i64 0, .bool (ng Z1), .slice p1 (ln (am Z1)) (ln (am Z1)), .slice q1 (ln V1) (ln V1)] 62)).alloc (.cells #[.int .i64 0, .bool (ng Z2), .slice p2 (ln (am Z2)) (ln (am Z2)), .slice q2 (ln V2) (ln V2)] 62))).cell? ⟨w.heap.size + 1, 3, none⟩ = some (.slice q2 (ln V2) (ln V2)) := by go_simp
  have hB : Below w.heap.size w (((w.alloc (.cells #[.int .i64 0, .bool (ng Z1), .slice p1 (ln (am Z1)) (ln (am Z1)), .slice q1 (ln V1) (ln V1)] 62)).alloc (.cells #[.int .i64 0, .bool (ng Z2), .slice p2 (ln (am Z2)) (ln (am Z2)), .slice q2 (ln V2) (ln V2)] 62))) := (((Below.refl _ _).alloc (by (try simp only [World.size_alloc]); omega) _).alloc (by (try simp only [World.size_alloc]); omega) _)
  have hz : (((w.alloc (.cells #[.int .i64 0, .bool (ng Z1), .slice p1 (ln (am Z1)) (ln (am Z1)), .slice q1 (ln V1) (ln V1)] 62)).alloc (.cells #[.int .i64 0, .bool (ng Z2), .slice p2 (ln (am Z2)) (ln (am Z2)), .slice q2 (ln V2) (ln V2)] 62))).heap.size = w.heap.size + 1 + 1 := by simp only [World.size_alloc]
  generalize ((w.alloc (.cells #[.int .i64 0, .bool (ng Z1), .slice p1 (ln (am Z1)) (ln (am Z1)), .slice q1 (ln V1) (ln V1)] 62)).alloc (.cells #[.int .i64 0, .bool (ng Z2), .slice p2 (ln (am Z2)) (ln (am Z2)), .slice q2 (ln V2) (ln V2)] 62)) = W at q00 q01 q02 q03 q10 q11 q12 q13 hB hz ⊢
  have hBW : Below W.heap.size W W := Below.refl _ _
  go_wp2_with fail
  refine (HC.out _ (sb hS1 hB hBW) (sb hT1 hB hBW) (sb hS2 hB hBW) (sb hT2 hB hBW)).mono ?_
  rintro e w5 ⟨rfl, b5⟩
  replace hBW := hBW.trans (b5.mono hBW.size)
  replace q00 := below_cell b5 q00
  replace q01 := below_cell b5 q01
  replace q02 := below_cell b5 q02
  replace q03 := below_cell b5 q03
  replace q10 := below_cell b5 q10
  replace q11 := below_cell b5 q11
  replace q12 := below_cell b5 q12
  replace q13 := below_cell b5 q13
  go_wp2
  go_ret
  exact ⟨rfl, hB.trans (hBW.mono hB.size)⟩
end Go.Proofs.Ytjofldgaefjapaa

namespace Go.Proofs.Ytjofldgaefjapaa
open Go.RowKit
set_option linter.unusedVariables false

theorem fv_lt {b c : Nat} : fv b < fv c ↔ fkey b < fkey c := sgd_lt (fneg b) (fneg c) (b % SB) (c % SB)
theorem low_cmp {z T b c : Nat} {Z1 Z2 : Int} {V1 V2 : Nat} (hT : T = 2 ^ z) (h1 : Low (fv b) (T : Int) Z1 V1) (h2 : Low (fv c) (T : Int) Z2 V2) : sgn (Z1 * (V2 : Int) - Z2 * (V1 : Int)) = sgn (fv b - fv c) := by
  have hT0 : (0 : Int) < T := by rw [hT]; have := Nat.two_pow_pos z; omega
  have p1 := h1.pos
  have p2 := h2.pos
  have e1 := h1.eq
  have e2 := h2.eq
  have a := sgn_mul_pos (a := Z1 * (V2 : Int) - Z2 * (V1 : Int)) hT0
  have b' := sgn_mul_pos (a := fv b - fv c) (b := (V1 : Int) * (V2 : Int)) (Int.mul_pos (by omega) (by omega))
  rw [← a, ← b']
  congr 1
  grind
theorem sgn_lt0 {a : Int} : sgn a < 0 ↔ a < 0 := by
  rcases Int.lt_trichotomy a 0 with g | g | g
  · rw [sgn_neg g]; omega
  · subst g; decide
  · rw [sgn_pos g]; omega
theorem inf_hi {b : Nat} (hb : b < 18446744073709551616) (h : b % SB = FI) (h2 : b ≠ SB + FI) : b = FI := by
  have e1 := FIv; have e2 := SBv
  rw [e2] at h h2; omega
theorem inf_lo {b : Nat} (hb : b < 18446744073709551616) (h : b % SB = FI) (h2 : b ≠ FI) : b = SB + FI := by
  have e1 := FIv; have e2 := SBv
  rw [e2] at h ⊢; omega
theorem key_rng {b : Nat} (h : b % SB ≤ FI) : -(FI : Int) ≤ fkey b ∧ fkey b ≤ FI := by
  unfold fkey; split <;> omega

set_option maxHeartbeats 4000000 in
set_option maxRecDepth 100000 in
theorem vValid_is (a b : Nat) (c : Bool) (w : World) (ha : a < 18446744073709551616) (hb : b < 18446744073709551616) (hc : vaB a b = c) :
    Calls Try.prog 43 #[Value.agg #[Value.float .f64 a, Value.float .f64 b]] w fun e w' => e = .returned (.bool c) ∧ Below w.heap.size w w' := by
  have hbr := bits_run
  have NA := hide' (fun w' => vnan_any a w' ha)
  have NB := hide' (fun w' => vnan_any b w' hb)
  unfold vaB at hc
  by_cases n1 : FI < a % SB
  · have d1 : decide (FI < a % SB) = true := decide_eq_true n1
    obtain rfl : c = false := by rw [← hc]; exact decide_eq_false (fun h => absurd n1 (by omega))
    clear n1 hc
    go_enter Try.func43, Try.ntmps43
    go_upto_region 1 with fail
    have q00 : ((w.alloc (.cells #[.float .f64 a, .float .f64 b] 40))).cell? ⟨w.heap.size, 0, none⟩ = some (.float .f64 a) := by go_simp
    have q01 : ((w.alloc (.cells #[.float .f64 a, .float .f64 b] 40))).cell? ⟨w.heap.size, 1, none⟩ = some (.float .f64 b) := by go_simp
    have hB : Below w.heap.size w ((w.alloc (.cells #[.float .f64 a, .float .f64 b] 40))) := ((Below.refl _ _).alloc (by (try simp only [World.size_alloc]); omega) _)
    have hz : ((w.alloc (.cells #[.float .f64 a, .float .f64 b] 40))).heap.size = w.heap.size + 1 := by simp only [World.size_alloc]
    generalize (w.alloc (.cells #[.float .f64 a, .float .f64 b] 40)) = W at q00 q01 hB hz ⊢
    have hBW : Below W.heap.size W W := Below.refl _ _
    go_wp2_with fail
    refine (NA.out _).mono ?_
    rintro e w1 ⟨rfl, rfl⟩
    rw [d1]
    go_wp2
    go_ret
    exact ⟨rfl, hB⟩
  · have d1 : decide (FI < a % SB) = false := decide_eq_false n1
    by_cases n2 : FI < b % SB
    · have d2 : decide (FI < b % SB) = true := decide_eq_true n2
      obtain rfl : c = false := by rw [← hc]; exact decide_eq_false (fun h => absurd n2 (by omega))
      clear n1 n2 hc
      go_enter Try.func43, Try.ntmps43
      go_upto_region 1 with fail
      have q00 : ((w.alloc (.cells #[.float .f64 a, .float .f64 b] 40))).cell? ⟨w.heap.size, 0, none⟩ = some (.float .f64 a) := by go_simp
      have q01 : ((w.alloc (.cells #[.float .f64 a, .float .f64 b] 40))).cell? ⟨w.heap.size, 1, none⟩ = some (.float .f64 b) := by go_simp
      have hB : Below w.heap.size w ((w.alloc (.cells #[.float .f64 a, .float .f64 b] 40))) := ((Below.refl _ _).alloc (by (try simp only [World.size_alloc]); omega) _)
      have hz : ((w.alloc (.cells #[.float .f64 a, .float .f64 b] 40))).heap.size = w.heap.size + 1 := by simp only [World.size_alloc]
      generalize (w.alloc (.cells #[.float .f64 a, .float .f64 b] 40)) = W at q00 q01 hB hz ⊢
      have hBW : Below W.heap.size W W := Below.refl _ _
      go_wp2_with fail
      refine (NA.out _).mono ?_
      rintro e w1 ⟨rfl, rfl⟩
      rw [d1]
      go_wp2_with fail
      refine (NB.out _).mono ?_
      rintro e w1 ⟨rfl, rfl⟩
      rw [d2]
      go_wp2
      go_ret
      exact ⟨rfl, hB⟩
    · have d2 : decide (FI < b % SB) = false := decide_eq_false n2
      by_cases i1 : a = FI
      · have d3 : ((a : Int) == 9218868437227405312) = true := by rw [beq_iff_eq, i1]; rfl
        obtain rfl : c = false := by rw [← hc]; exact decide_eq_false (fun h => h.2.2.2.1 i1)
        clear n1 n2 i1 hc
        go_enter Try.func43, Try.ntmps43
        go_upto_region 1 with fail
        have q00 : ((w.alloc (.cells #[.float .f64 a, .float .f64 b] 40))).cell? ⟨w.heap.size, 0, none⟩ = some (.float .f64 a) := by go_simp
        have q01 : ((w.alloc (.cells #[.float .f64 a, .float .f64 b] 40))).cell? ⟨w.heap.size, 1, none⟩ = some (.float .f64 b) := by go_simp
        have hB : Below w.heap.size w ((w.alloc (.cells #[.float .f64 a, .float .f64 b] 40))) := ((Below.refl _ _).alloc (by (try simp only [World.size_alloc]); omega) _)
        have hz : ((w.alloc (.cells #[.float .f64 a, .float .f64 b] 40))).heap.size = w.heap.size + 1 := by simp only [World.size_alloc]
        generalize (w.alloc (.cells #[.float .f64 a, .float .f64 b] 40)) = W at q00 q01 hB hz ⊢
        have hBW : Below W.heap.size W W := Below.refl _ _
        go_wp2_with fail
        refine (NA.out _).mono ?_
        rintro e w1 ⟨rfl, rfl⟩
        rw [d1]
        go_wp2_with fail
        refine (NB.out _).mono ?_
        rintro e w1 ⟨rfl, rfl⟩
        rw [d2]
        go_wp2
        go_ret
        exact ⟨rfl, hB⟩
      · have d3 : ((a : Int) == 9218868437227405312) = false := by rw [beq_eq_false_iff_ne]; rw [FIv] at i1; omega
        by_cases i2 : b = SB + FI
        · have d4 : ((b : Int) == 18442240474082181120) = true := by rw [beq_iff_eq, i2]; rfl
          obtain rfl : c = false := by rw [← hc]; exact decide_eq_false (fun h => h.2.2.2.2 i2)
          clear n1 n2 i1 i2 hc
          go_enter Try.func43, Try.ntmps43
          go_upto_region 1 with fail
          have q00 : ((w.alloc (.cells #[.float .f64 a, .float .f64 b] 40))).cell? ⟨w.heap.size, 0, none⟩ = some (.float .f64 a) := by go_simp
          have q01 : ((w.alloc (.cells #[.float .f64 a, .float .f64 b] 40))).cell? ⟨w.heap.size, 1, none⟩ = some (.float .f64 b) := by go_simp
          have hB : Below w.heap.size w ((w.alloc (.cells #[.float .f64 a, .float .f64 b] 40))) := ((Below.refl _ _).alloc (by (try simp only [World.size_alloc]); omega) _)
          have hz : ((w.alloc (.cells #[.float .f64 a, .float .f64 b] 40))).heap.size = w.heap.size + 1 := by simp only [World.size_alloc]
          generalize (w.alloc (.cells #[.float .f64 a, .float .f64 b] 40)) = W at q00 q01 hB hz ⊢
          have hBW : Below W.heap.size W W := Below.refl _ _
          go_wp2_with fail
          refine (NA.out _).mono ?_
          rintro e w1 ⟨rfl, rfl⟩
          rw [d1]
          go_wp2_with fail
          refine (NB.out _).mono ?_
          rintro e w1 ⟨rfl, rfl⟩
          rw [d2]
          go_wp2
          go_ret
          exact ⟨rfl, hB⟩
        · have d4 : ((b : Int) == 18442240474082181120) = false := by rw [beq_eq_false_iff_ne]; rw [FIv, SBv] at i2; omega
          have hcc : c = decide (fkey a ≤ fkey b) := by rw [← hc, decide_eq_decide]; exact ⟨fun h => h.2.2.1, fun h => ⟨by omega, by omega, h, i1, i2⟩⟩
          clear hc
          obtain ⟨z, hz⟩ : ∃ z : Nat, z = 1074 := ⟨_, rfl⟩
          obtain ⟨T, hT⟩ : ∃ T : Nat, T = 2 ^ z := ⟨_, rfl⟩
          have hT0 : (T : Int) ≠ 0 := by rw [hT]; have := Nat.two_pow_pos z; omega
          by_cases fa : a % SB < FI
          · by_cases fb : b % SB < FI
            · skip
              obtain ⟨Za, Va, ga⟩ := low_ex (fv a) (T : Int) hT0
              have pa := ga.pos
              obtain ⟨la, ma⟩ := low_fl hz hT (by unfold fv; rw [am_sg]; exact amt_ln fa) ga
              have Ea := hide' (fun w' => endOf_num z T a Za Va w' hz hT ha fa ga)
              obtain ⟨Zb, Vb, gb⟩ := low_ex (fv b) (T : Int) hT0
              have pb := gb.pos
              obtain ⟨lb, mb⟩ := low_fl hz hT (by unfold fv; rw [am_sg]; exact amt_ln fb) gb
              have Eb := hide' (fun w' => endOf_num z T b Zb Vb w' hz hT hb fb gb)
              obtain ⟨C, hC⟩ : ∃ C, sgn (Zb * (Va : Int) - Za * (Vb : Int)) = C := ⟨_, rfl⟩
              have hcv : c = !(decide (C < 0)) := by
                rw [hcc, ← hC, low_cmp hT gb ga]
                by_cases h : fkey a ≤ fkey b
                · rw [decide_eq_true h, decide_eq_false]; rfl
                  rw [sgn_lt0]; intro g; have := fv_lt.1 (show fv b < fv a by omega); omega
                · rw [decide_eq_false h, decide_eq_true]; rfl
                  rw [sgn_lt0]; have := fv_lt.2 (show fkey b < fkey a by omega); omega
              have U := hide' (fun w' p q p' q' k1 k2 k3 k4 => under_num Zb Za Vb Va p q p' q' C w' (by omega) (by omega) (by omega) (by omega) pb pa k1 k2 k3 k4 hC)
              clear hC
              clear hcc n1 n2 i1 i2 hz hT hT0 fa fb ga pa gb pb
              go_enter Try.func43, Try.ntmps43
              go_upto_region 1 with fail
              have q00 : ((w.alloc (.cells #[.float .f64 a, .float .f64 b] 40))).cell? ⟨w.heap.size, 0, none⟩ = some (.float .f64 a) := by go_simp
              have q01 : ((w.alloc (.cells #[.float .f64 a, .float .f64 b] 40))).cell? ⟨w.heap.size, 1, none⟩ = some (.float .f64 b) := by go_simp
              have hB : Below w.heap.size w ((w.alloc (.cells #[.float .f64 a, .float .f64 b] 40))) := ((Below.refl _ _).alloc (by (try simp only [World.size_alloc]); omega) _)
              have hz : ((w.alloc (.cells #[.float .f64 a, .float .f64 b] 40))).heap.size = w.heap.size + 1 := by simp only [World.size_alloc]
              generalize (w.alloc (.cells #[.float .f64 a, .float .f64 b] 40)) = W at q00 q01 hB hz ⊢
              have hBW : Below W.heap.size W W := Below.refl _ _
              go_wp2_with fail
              refine (NA.out _).mono ?_
              rintro e w1 ⟨rfl, rfl⟩
              rw [d1]
              go_wp2_with fail
              refine (NB.out _).mono ?_
              rintro e w1 ⟨rfl, rfl⟩
              rw [d2]
              go_wp2_with fail
              replace hBW := hBW.drew
              first
                | go_region_held3 (fun w' => w'.cell? ⟨w.heap.size, 0, none⟩ = some (.float .f64 a) ∧ w'.cell? ⟨w.heap.size, 1, none⟩ = some (.float .f64 b) ∧ Below w.heap.size w w')
                    (first | exact ⟨q00, q01, hB.trans (hBW.mono hB.size)⟩ | exact kp2 b5 (by assumption) | exact kp2 b6 (by assumption) | exact kp2 b7 (by assumption) | exact kp2 (below_alloc _) (by assumption))
                    (first
                      | (go_at_call 45; go_at_call_of 45 (Value.float .f64 b); (fail_if_success clear b5); refine (Eb.out _).mono ?_; rintro e w5 ⟨pb, qb, rfl, hpb, hqb⟩; have b5 := hpb.below; replace hpb := hpb.back hBW; replace hqb := hqb.back hBW; replace hBW := hBW.trans (b5.mono hBW.size); replace q00 := below_cell b5 q00; replace q01 := below_cell b5 q01)
                      | (go_at_call 45; go_at_call_of 45 (Value.float .f64 a); (fail_if_success clear b6); refine (Ea.out _).mono ?_; rintro e w6 ⟨pa, qa, rfl, hpa, hqa⟩; have b6 := hpa.below; replace hpa := hpa.back hBW; replace hqa := hqa.back hBW; replace hBW := hBW.trans (b6.mono hBW.size); replace q00 := below_cell b6 q00; replace q01 := below_cell b6 q01; replace hpb := hpb.later b6; replace hqb := hqb.later b6)
                      | (go_at_call 44; (fail_if_success clear b7); refine (U.out _ _ _ _ _ hpb.seg hqb.seg hpa.seg hqa.seg).mono ?_; rintro e w7 ⟨rfl, bb7⟩; have b7 := bb7; replace hBW := hBW.trans (b7.mono hBW.size); replace q00 := below_cell b7 q00; replace q01 := below_cell b7 q01; replace hpb := hpb.later b7; replace hqb := hqb.later b7; replace hpa := hpa.later b7; replace hqa := hqa.later b7))
                | fail
              go_wp2
              go_ret
              exact ⟨by rw [hcv]; rfl, hB.trans (hBW.mono hB.size)⟩
            · skip
              obtain ⟨Za, Va, ga⟩ := low_ex (fv a) (T : Int) hT0
              have pa := ga.pos
              obtain ⟨la, ma⟩ := low_fl hz hT (by unfold fv; rw [am_sg]; exact amt_ln fa) ga
              have Ea := hide' (fun w' => endOf_num z T a Za Va w' hz hT ha fa ga)
              have eb : faI b = 1 := if_pos (inf_hi hb (by omega) i2)
              have Eb := hide' (fun w' => endOf_inf b w' hb (by omega))
              rw [eb] at Eb
              have hct : c = true := by
                rw [hcc, decide_eq_true_iff]
                have r1 := key_rng (b := a) (by omega)
                have r2 := key_rng (b := b) (by omega)
                have k1 : fkey b = (FI : Int) := by rw [inf_hi hb (by omega) i2]; rfl
                omega
              have U := hide' (fun w' s1 a1 n1 c1 b1 m1 d1 s2 a2 n2 c2 b2 m2 d2 => under_far 1 s1 a1 n1 c1 b1 m1 d1 0 s2 a2 n2 c2 b2 m2 d2 false w' (by decide) (by decide))
              clear hcc n1 n2 i1 i2 hz hT hT0 fa fb ga pa eb
              go_enter Try.func43, Try.ntmps43
              go_upto_region 1 with fail
              have q00 : ((w.alloc (.cells #[.float .f64 a, .float .f64 b] 40))).cell? ⟨w.heap.size, 0, none⟩ = some (.float .f64 a) := by go_simp
              have q01 : ((w.alloc (.cells #[.float .f64 a, .float .f64 b] 40))).cell? ⟨w.heap.size, 1, none⟩ = some (.float .f64 b) := by go_simp
              have hB : Below w.heap.size w ((w.alloc (.cells #[.float .f64 a, .float .f64 b] 40))) := ((Below.refl _ _).alloc (by (try simp only [World.size_alloc]); omega) _)
              have hz : ((w.alloc (.cells #[.float .f64 a, .float .f64 b] 40))).heap.size = w.heap.size + 1 := by simp only [World.size_alloc]
              generalize (w.alloc (.cells #[.float .f64 a, .float .f64 b] 40)) = W at q00 q01 hB hz ⊢
              have hBW : Below W.heap.size W W := Below.refl _ _
              go_wp2_with fail
              refine (NA.out _).mono ?_
              rintro e w1 ⟨rfl, rfl⟩
              rw [d1]
              go_wp2_with fail
              refine (NB.out _).mono ?_
              rintro e w1 ⟨rfl, rfl⟩
              rw [d2]
              go_wp2_with fail
              replace hBW := hBW.drew
              first
                | go_region_held3 (fun w' => w'.cell? ⟨w.heap.size, 0, none⟩ = some (.float .f64 a) ∧ w'.cell? ⟨w.heap.size, 1, none⟩ = some (.float .f64 b) ∧ Below w.heap.size w w')
                    (first | exact ⟨q00, q01, hB.trans (hBW.mono hB.size)⟩ | exact kp2 b5 (by assumption) | exact kp2 b6 (by assumption) | exact kp2 b7 (by assumption) | exact kp2 (below_alloc _) (by assumption))
                    (first
                      | (go_at_call 45; go_at_call_of 45 (Value.float .f64 b); (fail_if_success clear b5); refine (Eb.out _).mono ?_; rintro e w5 ⟨rfl, bb5⟩; have b5 := bb5; replace hBW := hBW.trans (b5.mono hBW.size); replace q00 := below_cell b5 q00; replace q01 := below_cell b5 q01)
                      | (go_at_call 45; go_at_call_of 45 (Value.float .f64 a); (fail_if_success clear b6); refine (Ea.out _).mono ?_; rintro e w6 ⟨pa, qa, rfl, hpa, hqa⟩; have b6 := hpa.below; replace hpa := hpa.back hBW; replace hqa := hqa.back hBW; replace hBW := hBW.trans (b6.mono hBW.size); replace q00 := below_cell b6 q00; replace q01 := below_cell b6 q01)
                      | (go_at_call 44; (fail_if_success clear b7); refine (U.out _ _ _ _ _ _ _ _ _ _ _ _ _ _ _).mono ?_; rintro e w7 ⟨rfl, bb7⟩; have b7 := bb7; replace hBW := hBW.trans (b7.mono hBW.size); replace q00 := below_cell b7 q00; replace q01 := below_cell b7 q01; replace hpa := hpa.later b7; replace hqa := hqa.later b7))
                | fail
              go_wp2
              go_ret
              exact ⟨by rw [hct]; rfl, hB.trans (hBW.mono hB.size)⟩
          · by_cases fb : b % SB < FI
            · skip
              have ea : faI a = -1 := if_neg i1
              have Ea := hide' (fun w' => endOf_inf a w' ha (by omega))
              rw [ea] at Ea
              obtain ⟨Zb, Vb, gb⟩ := low_ex (fv b) (T : Int) hT0
              have pb := gb.pos
              obtain ⟨lb, mb⟩ := low_fl hz hT (by unfold fv; rw [am_sg]; exact amt_ln fb) gb
              have Eb := hide' (fun w' => endOf_num z T b Zb Vb w' hz hT hb fb gb)
              have hct : c = true := by
                rw [hcc, decide_eq_true_iff]
                have r1 := key_rng (b := a) (by omega)
                have r2 := key_rng (b := b) (by omega)
                have k1 : fkey a = -(FI : Int) := by rw [inf_lo ha (by omega) i1]; rfl
                omega
              have U := hide' (fun w' s1 a1 n1 c1 b1 m1 d1 s2 a2 n2 c2 b2 m2 d2 => under_far 0 s1 a1 n1 c1 b1 m1 d1 (-1) s2 a2 n2 c2 b2 m2 d2 false w' (by decide) (by decide))
              clear hcc n1 n2 i1 i2 hz hT hT0 fa fb ea gb pb
              go_enter Try.func43, Try.ntmps43
              go_upto_region 1 with fail
              have q00 : ((w.alloc (.cells #[.float .f64 a, .float .f64 b] 40))).cell? ⟨w.heap.size, 0, none⟩ = some (.float .f64 a) := by go_simp
              have q01 : ((w.alloc (.cells #[.float .f64 a, .float .f64 b] 40))).cell? ⟨w.heap.size, 1, none⟩ = some (.float .f64 b) := by go_simp
              have hB : Below w.heap.size w ((w.alloc (.cells #[.float .f64 a, .float .f64 b] 40))) := ((Below.refl _ _).alloc (by (try simp only [World.size_alloc]); omega) _)
              have hz : ((w.alloc (.cells #[.float .f64 a, .float .f64 b] 40))).heap.size = w.heap.size + 1 := by simp only [World.size_alloc]
              generalize (w.alloc (.cells #[.float .f64 a, .float .f64 b] 40)) = W at q00 q01 hB hz ⊢
              have hBW : Below W.heap.size W W := Below.refl _ _
              go_wp2_with fail
              refine (NA.out _).mono ?_
              rintro e w1 ⟨rfl, rfl⟩
              rw [d1]
              go_wp2_with fail
              refine (NB.out _).mono ?_
              rintro e w1 ⟨rfl, rfl⟩
              rw [d2]
              go_wp2_with fail
              replace hBW := hBW.drew
              first
                | go_region_held3 (fun w' => w'.cell? ⟨w.heap.size, 0, none⟩ = some (.float .f64 a) ∧ w'.cell? ⟨w.heap.size, 1, none⟩ = some (.float .f64 b) ∧ Below w.heap.size w w')
                    (first | exact ⟨q00, q01, hB.trans (hBW.mono hB.size)⟩ | exact kp2 b5 (by assumption) | exact kp2 b6 (by assumption) | exact kp2 b7 (by assumption) | exact kp2 (below_alloc _) (by assumption))
                    (first
                      | (go_at_call 45; go_at_call_of 45 (Value.float .f64 b); (fail_if_success clear b5); refine (Eb.out _).mono ?_; rintro e w5 ⟨pb, qb, rfl, hpb, hqb⟩; have b5 := hpb.below; replace hpb := hpb.back hBW; replace hqb := hqb.back hBW; replace hBW := hBW.trans (b5.mono hBW.size); replace q00 := below_cell b5 q00; replace q01 := below_cell b5 q01)
                      | (go_at_call 45; go_at_call_of 45 (Value.float .f64 a); (fail_if_success clear b6); refine (Ea.out _).mono ?_; rintro e w6 ⟨rfl, bb6⟩; have b6 := bb6; replace hBW := hBW.trans (b6.mono hBW.size); replace q00 := below_cell b6 q00; replace q01 := below_cell b6 q01; replace hpb := hpb.later b6; replace hqb := hqb.later b6)
                      | (go_at_call 44; (fail_if_success clear b7); refine (U.out _ _ _ _ _ _ _ _ _ _ _ _ _ _ _).mono ?_; rintro e w7 ⟨rfl, bb7⟩; have b7 := bb7; replace hBW := hBW.trans (b7.mono hBW.size); replace q00 := below_cell b7 q00; replace q01 := below_cell b7 q01; replace hpb := hpb.later b7; replace hqb := hqb.later b7))
                | fail
              go_wp2
              go_ret
              exact ⟨by rw [hct]; rfl, hB.trans (hBW.mono hB.size)⟩
            · skip
              have ea : faI a = -1 := if_neg i1
              have Ea := hide' (fun w' => endOf_inf a w' ha (by omega))
              rw [ea] at Ea
              have eb : faI b = 1 := if_pos (inf_hi hb (by omega) i2)
              have Eb := hide' (fun w' => endOf_inf b w' hb (by omega))
              rw [eb] at Eb
              have hct : c = true := by
                rw [hcc, decide_eq_true_iff]
                have r1 := key_rng (b := a) (by omega)
                have r2 := key_rng (b := b) (by omega)
                have k1 : fkey a = -(FI : Int) := by rw [inf_lo ha (by omega) i1]; rfl
                omega
              have U := hide' (fun w' s1 a1 n1 c1 b1 m1 d1 s2 a2 n2 c2 b2 m2 d2 => under_far 1 s1 a1 n1 c1 b1 m1 d1 (-1) s2 a2 n2 c2 b2 m2 d2 false w' (by decide) (by decide))
              clear hcc n1 n2 i1 i2 hz hT hT0 fa fb ea eb
              go_enter Try.func43, Try.ntmps43
              go_upto_region 1 with fail
              have q00 : ((w.alloc (.cells #[.float .f64 a, .float .f64 b] 40))).cell? ⟨w.heap.size, 0, none⟩ = some (.float .f64 a) := by go_simp
              have q01 : ((w.alloc (.cells #[.float .f64 a, .float .f64 b] 40))).cell? ⟨w.heap.size, 1, none⟩ = some (.float .f64 b) := by go_simp
              have hB : Below w.heap.size w ((w.alloc (.cells #[.float .f64 a, .float .f64 b] 40))) := ((Below.refl _ _).alloc (by (try simp only [World.size_alloc]); omega) _)
              have hz : ((w.alloc (.cells #[.float .f64 a, .float .f64 b] 40))).heap.size = w.heap.size + 1 := by simp only [World.size_alloc]
              generalize (w.alloc (.cells #[.float .f64 a, .float .f64 b] 40)) = W at q00 q01 hB hz ⊢
              have hBW : Below W.heap.size W W := Below.refl _ _
              go_wp2_with fail
              refine (NA.out _).mono ?_
              rintro e w1 ⟨rfl, rfl⟩
              rw [d1]
              go_wp2_with fail
              refine (NB.out _).mono ?_
              rintro e w1 ⟨rfl, rfl⟩
              rw [d2]
              go_wp2_with fail
              replace hBW := hBW.drew
              first
                | go_region_held3 (fun w' => w'.cell? ⟨w.heap.size, 0, none⟩ = some (.float .f64 a) ∧ w'.cell? ⟨w.heap.size, 1, none⟩ = some (.float .f64 b) ∧ Below w.heap.size w w')
                    (first | exact ⟨q00, q01, hB.trans (hBW.mono hB.size)⟩ | exact kp2 b5 (by assumption) | exact kp2 b6 (by assumption) | exact kp2 b7 (by assumption) | exact kp2 (below_alloc _) (by assumption))
                    (first
                      | (go_at_call 45; go_at_call_of 45 (Value.float .f64 b); (fail_if_success clear b5); refine (Eb.out _).mono ?_; rintro e w5 ⟨rfl, bb5⟩; have b5 := bb5; replace hBW := hBW.trans (b5.mono hBW.size); replace q00 := below_cell b5 q00; replace q01 := below_cell b5 q01)
                      | (go_at_call 45; go_at_call_of 45 (Value.float .f64 a); (fail_if_success clear b6); refine (Ea.out _).mono ?_; rintro e w6 ⟨rfl, bb6⟩; have b6 := bb6; replace hBW := hBW.trans (b6.mono hBW.size); replace q00 := below_cell b6 q00; replace q01 := below_cell b6 q01)
                      | (go_at_call 44; (fail_if_success clear b7); refine (U.out _ _ _ _ _ _ _ _ _ _ _ _ _ _ _).mono ?_; rintro e w7 ⟨rfl, bb7⟩; have b7 := bb7; replace hBW := hBW.trans (b7.mono hBW.size); replace q00 := below_cell b7 q00; replace q01 := below_cell b7 q01))
                | fail
              go_wp2
              go_ret
              exact ⟨by rw [hct]; rfl, hB.trans (hBW.mono hB.size)⟩
end Go.Proofs.Ytjofldgaefjapaa

namespace Go.Proofs.Ytjofldgaefjapaa
open Go.RowKit
set_option linter.unusedVariables false

/-- is the number below the span's end, above the other? -/
def loB (T : Nat) (A : Int) (D a : Nat) : Bool := decide (a % SB < FI ∧ A * (T : Int) < fv a * (D : Int))
def hiB (T : Nat) (A : Int) (D b : Nat) : Bool := decide (b % SB < FI ∧ fv b * (D : Int) < A * (T : Int))
def inB (T : Nat) (A : Int) (D a b : Nat) : Bool := vaB a b && (!(loB T A D a) && !(hiB T A D b))
theorem low_cmp2 {z T b : Nat} {Z1 Z2 A : Int} {V1 V2 D : Nat} (hT : T = 2 ^ z) (hD : 0 < D) (h1 : Low A (D : Int) Z1 V1) (h2 : Low (fv b) (T : Int) Z2 V2) : sgn (Z1 * (V2 : Int) - Z2 * (V1 : Int)) = sgn (A * (T : Int) - fv b * (D : Int)) ∧ sgn (Z2 * (V1 : Int) - Z1 * (V2 : Int)) = sgn (fv b * (D : Int) - A * (T : Int)) := by
  have hT0 : (0 : Int) < T := by rw [hT]; have := Nat.two_pow_pos z; omega
  have hP : (0 : Int) < (T : Int) * (D : Int) := Int.mul_pos hT0 (by omega)
  have p1 := h1.pos
  have p2 := h2.pos
  have e1 := h1.eq
  have e2 := h2.eq
  have hQ : (0 : Int) < (V1 : Int) * (V2 : Int) := Int.mul_pos (by omega) (by omega)
  constructor
  · rw [← sgn_mul_pos (a := Z1 * (V2 : Int) - Z2 * (V1 : Int)) hP, ← sgn_mul_pos (a := A * (T : Int) - fv b * (D : Int)) hQ]
    congr 1
    grind
  · rw [← sgn_mul_pos (a := Z2 * (V1 : Int) - Z1 * (V2 : Int)) hP, ← sgn_mul_pos (a := fv b * (D : Int) - A * (T : Int)) hQ]
    congr 1
    grind
set_option maxHeartbeats 4000000 in
set_option maxRecDepth 100000 in
theorem In_is (s0 : Bool) (a0 : Option Addr) (n0 c0 X0 : Nat) (b0 : Option Addr) (m0 d0 Y0 : Nat) (a b z T : Nat) (w : World) (hc0 : n0 ≤ c0) (hm0 : n0 ≤ 1048576) (hS0 : Seg w a0 X0 n0) (hd0 : m0 ≤ d0) (hk0 : m0 ≤ 1048576) (hT0 : Seg w b0 Y0 m0) (hz : z = 1074) (hT : T = 2 ^ z) (ha : a < 18446744073709551616) (hb : b < 18446744073709551616) :
    Calls Try.prog 23 #[Value.agg #[Value.bool s0, Value.slice a0 n0 c0, Value.slice b0 m0 d0], Value.agg #[Value.float .f64 a, Value.float .f64 b]] w fun e w' => ∃ k, e = .returned (.bool (vaB a b && (decide (fkey a ≤ fkey (downB T s0 X0 Y0 k)) && decide (fkey (upB T s0 X0 Y0 k) ≤ fkey b)))) ∧ Cut T (rN X0 Y0) (rd Y0) k ∧ Below w.heap.size w w' := by
  have HA := hide' (fun w' k1 k2 => around_is s0 a0 n0 c0 X0 b0 m0 d0 Y0 z T w' hc0 (by omega) k1 hd0 (by omega) k2 hz hT)
  obtain ⟨v, hv⟩ : ∃ v, vaB a b = v := ⟨_, rfl⟩
  have HV := hide' (fun w' => Valid_is a b v w' ha hb hv)
  rw [hv]
  have hvv : v = true → a % SB ≤ FI ∧ b % SB ≤ FI := fun h => by rw [← hv] at h; unfold vaB at h; rw [decide_eq_true_iff] at h; exact ⟨h.1, h.2.1⟩
  have HW := hide' hvv
  clear hv hvv hz hT
  have hsf := store_float
  go_enter Try.func23, Try.ntmps23
  go_wp2_with fail
  have q00 : (((w.alloc (.cells #[.bool s0, .slice a0 n0 c0, .slice b0 m0 d0] 27)).alloc (.cells #[.float .f64 a, .float .f64 b] 40))).cell? ⟨w.heap.size, 0, none⟩ = some (.bool s0) := by go_simp
  have q01 : (((w.alloc (.cells #[.bool s0, .slice a0 n0 c0, .slice b0 m0 d0] 27)).alloc (.cells #[.float .f64 a, .float .f64 b] 40))).cell? ⟨w.heap.size, 1, none⟩ = some (.slice a0 n0 c0) := by go_simp
  have q02 : (((w.alloc (.cells #[.bool s0, .slice a0 n0 c0, .slice b0 m0 d0] 27)).alloc (.cells #[.float .f64 a, .float .f64 b] 40))).cell? ⟨w.heap.size, 2, none⟩ = some (.slice b0 m0 d0) := by go_simp
  have q10 : (((w.alloc (.cells #[.bool s0, .slice a0 n0 c0, .slice b0 m0 d0] 27)).alloc (.cells #[.float .f64 a, .float .f64 b] 40))).cell? ⟨w.heap.size + 1, 0, none⟩ = some (.float .f64 a) := by go_simp
  have q11 : (((w.alloc (.cells #[.bool s0, .slice a0 n0 c0, .slice b0 m0 d0] 27)).alloc (.cells #[.float .f64 a, .float .f64 b] 40))).cell? ⟨w.heap.size + 1, 1, none⟩ = some (.float .f64 b) := by go_simp
  have hB : Below w.heap.size w (((w.alloc (.cells #[.bool s0, .slice a0 n0 c0, .slice b0 m0 d0] 27)).alloc (.cells #[.float .f64 a, .float .f64 b] 40))) := (((Below.refl _ _).alloc (by (try simp only [World.size_alloc]); omega) _).alloc (by (try simp only [World.size_alloc]); omega) _)
  have hz : (((w.alloc (.cells #[.bool s0, .slice a0 n0 c0, .slice b0 m0 d0] 27)).alloc (.cells #[.float .f64 a, .float .f64 b] 40))).heap.size = w.heap.size + 1 + 1 := by simp only [World.size_alloc]
  generalize ((w.alloc (.cells #[.bool s0, .slice a0 n0 c0, .slice b0 m0 d0] 27)).alloc (.cells #[.float .f64 a, .float .f64 b] 40)) = W at q00 q01 q02 q10 q11 hB hz ⊢
  have hBW : Below W.heap.size W W := Below.refl _ _
  refine (HA.out _ (sb hS0 hB hBW) (sb hT0 hB hBW)).mono ?_
  rintro e w5 ⟨k, rfl, hC, bb5⟩
  have b5 := bb5
  replace hBW := hBW.trans (b5.mono hBW.size)
  replace q00 := below_cell b5 q00
  replace q01 := below_cell b5 q01
  replace q02 := below_cell b5 q02
  replace q10 := below_cell b5 q10
  replace q11 := below_cell b5 q11
  have hd := if_le (p := rst T (rN X0 Y0) (rd Y0) k ≠ 0 ∧ rn s0 X0 Y0 < 0) hC.1
  have hu := if_le (p := rst T (rN X0 Y0) (rd Y0) k ≠ 0 ∧ ¬ rn s0 X0 Y0 < 0) hC.1
  have hdm : downB T s0 X0 Y0 k % SB ≤ FI := by unfold downB; rw [fB_mod hd]; exact hd
  have hum : upB T s0 X0 Y0 k % SB ≤ FI := by unfold upB; rw [fB_mod hu]; exact hu
  have HA2 : Hid (∀ e, e = Ending.returned (.bool (v && (decide (fkey a ≤ fkey (downB T s0 X0 Y0 k)) && decide (fkey (upB T s0 X0 Y0 k) ≤ fkey b)))) → ∃ k, e = Ending.returned (.bool (v && (decide (fkey a ≤ fkey (downB T s0 X0 Y0 k)) && decide (fkey (upB T s0 X0 Y0 k) ≤ fkey b)))) ∧ Cut T (rN X0 Y0) (rd Y0) k) := fun e he => ⟨k, he, hC⟩
  clear hC hd hu
  generalize downB T s0 X0 Y0 k = d at hdm HA2 ⊢
  generalize upB T s0 X0 Y0 k = u at hum HA2 ⊢
  cases v
  · have HR : Hid (Ending.returned (.bool false) = .returned (.bool (false && (decide (fkey a ≤ fkey d) && decide (fkey u ≤ fkey b))))) := rfl
    clear HW
    have hsz5 := hBW.size
    have l500 : ((w5.alloc (.cells #[.float .f64 d, .float .f64 u] 40))).cell? ⟨w5.heap.size, 0, none⟩ = some (.float .f64 d) := by go_simp
    have l501 : ((w5.alloc (.cells #[.float .f64 d, .float .f64 u] 40))).cell? ⟨w5.heap.size, 1, none⟩ = some (.float .f64 u) := by go_simp
    have cb5 : Below w5.heap.size w5 ((w5.alloc (.cells #[.float .f64 d, .float .f64 u] 40))) := ((Below.refl _ _).alloc (by (try simp only [World.size_alloc]); omega) _)
    replace hBW := hBW.trans (cb5.mono hBW.size)
    replace q00 := below_cell cb5 q00
    replace q01 := below_cell cb5 q01
    replace q02 := below_cell cb5 q02
    replace q10 := below_cell cb5 q10
    replace q11 := below_cell cb5 q11
    have hL50 : Row ((w5.alloc (.cells #[.float .f64 d, .float .f64 u] 40))) (w5.heap.size) := by
      have := row_new (w5) #[.float .f64 d, .float .f64 u] 40
      try simp only [World.size_alloc] at this
      exact this
    go_wp2_with fail
    generalize (w5.alloc (.cells #[.float .f64 d, .float .f64 u] 40)) = w5x at q00 q01 q02 q10 q11 l500 l501 hL50 hBW cb5 ⊢
    clear cb5
    refine (HV.out _).mono ?_
    rintro e w6 ⟨rfl, b6⟩
    replace hBW := hBW.trans (b6.mono hBW.size)
    replace q00 := below_cell b6 q00
    replace q01 := below_cell b6 q01
    replace q02 := below_cell b6 q02
    replace q10 := below_cell b6 q10
    replace q11 := below_cell b6 q11
    replace l500 := below_cell b6 l500
    replace l501 := below_cell b6 l501
    replace hL50 := below_row b6 hL50
    go_wp2
    go_ret
    obtain ⟨k9, hk9, hc9⟩ := HA2.out _ HR.out
    exact ⟨k9, hk9, hc9, hB.trans (hBW.mono hB.size)⟩
  · obtain ⟨ham, hbm⟩ := HW.out rfl
    clear HW
    by_cases h1 : fkey a ≤ fkey d
    · have hle1 := le_run ham hdm h1
      by_cases h2 : fkey u ≤ fkey b
      · have hle2 := le_run hum hbm h2
        have HR : Hid (Ending.returned (.bool true) = .returned (.bool (true && (decide (fkey a ≤ fkey d) && decide (fkey u ≤ fkey b))))) := by show _ = _; rw [decide_eq_true h1, decide_eq_true h2]; rfl
        clear h1 h2
        have hsz5 := hBW.size
        have l500 : ((w5.alloc (.cells #[.float .f64 d, .float .f64 u] 40))).cell? ⟨w5.heap.size, 0, none⟩ = some (.float .f64 d) := by go_simp
        have l501 : ((w5.alloc (.cells #[.float .f64 d, .float .f64 u] 40))).cell? ⟨w5.heap.size, 1, none⟩ = some (.float .f64 u) := by go_simp
        have cb5 : Below w5.heap.size w5 ((w5.alloc (.cells #[.float .f64 d, .float .f64 u] 40))) := ((Below.refl _ _).alloc (by (try simp only [World.size_alloc]); omega) _)
        replace hBW := hBW.trans (cb5.mono hBW.size)
        replace q00 := below_cell cb5 q00
        replace q01 := below_cell cb5 q01
        replace q02 := below_cell cb5 q02
        replace q10 := below_cell cb5 q10
        replace q11 := below_cell cb5 q11
        have hL50 : Row ((w5.alloc (.cells #[.float .f64 d, .float .f64 u] 40))) (w5.heap.size) := by
          have := row_new (w5) #[.float .f64 d, .float .f64 u] 40
          try simp only [World.size_alloc] at this
          exact this
        go_wp2_with fail
        generalize (w5.alloc (.cells #[.float .f64 d, .float .f64 u] 40)) = w5x at q00 q01 q02 q10 q11 l500 l501 hL50 hBW cb5 ⊢
        clear cb5
        refine (HV.out _).mono ?_
        rintro e w6 ⟨rfl, b6⟩
        replace hBW := hBW.trans (b6.mono hBW.size)
        replace q00 := below_cell b6 q00
        replace q01 := below_cell b6 q01
        replace q02 := below_cell b6 q02
        replace q10 := below_cell b6 q10
        replace q11 := below_cell b6 q11
        replace l500 := below_cell b6 l500
        replace l501 := below_cell b6 l501
        replace hL50 := below_row b6 hL50
        go_wp2
        go_ret
        obtain ⟨k9, hk9, hc9⟩ := HA2.out _ HR.out
        exact ⟨k9, hk9, hc9, hB.trans (hBW.mono hB.size)⟩
      · have hle2 := le_no (b := u) (c := b) (fun h => h2 h.2.2)
        have HR : Hid (Ending.returned (.bool false) = .returned (.bool (true && (decide (fkey a ≤ fkey d) && decide (fkey u ≤ fkey b))))) := by show _ = _; rw [decide_eq_true h1, decide_eq_false h2]; rfl
        clear h1 h2
        have hsz5 := hBW.size
        have l500 : ((w5.alloc (.cells #[.float .f64 d, .float .f64 u] 40))).cell? ⟨w5.heap.size, 0, none⟩ = some (.float .f64 d) := by go_simp
        have l501 : ((w5.alloc (.cells #[.float .f64 d, .float .f64 u] 40))).cell? ⟨w5.heap.size, 1, none⟩ = some (.float .f64 u) := by go_simp
        have cb5 : Below w5.heap.size w5 ((w5.alloc (.cells #[.float .f64 d, .float .f64 u] 40))) := ((Below.refl _ _).alloc (by (try simp only [World.size_alloc]); omega) _)
        replace hBW := hBW.trans (cb5.mono hBW.size)
        replace q00 := below_cell cb5 q00
        replace q01 := below_cell cb5 q01
        replace q02 := below_cell cb5 q02
        replace q10 := below_cell cb5 q10
        replace q11 := below_cell cb5 q11
        have hL50 : Row ((w5.alloc (.cells #[.float .f64 d, .float .f64 u] 40))) (w5.heap.size) := by
          have := row_new (w5) #[.float .f64 d, .float .f64 u] 40
          try simp only [World.size_alloc] at this
          exact this
        go_wp2_with fail
        generalize (w5.alloc (.cells #[.float .f64 d, .float .f64 u] 40)) = w5x at q00 q01 q02 q10 q11 l500 l501 hL50 hBW cb5 ⊢
        clear cb5
        refine (HV.out _).mono ?_
        rintro e w6 ⟨rfl, b6⟩
        replace hBW := hBW.trans (b6.mono hBW.size)
        replace q00 := below_cell b6 q00
        replace q01 := below_cell b6 q01
        replace q02 := below_cell b6 q02
        replace q10 := below_cell b6 q10
        replace q11 := below_cell b6 q11
        replace l500 := below_cell b6 l500
        replace l501 := below_cell b6 l501
        replace hL50 := below_row b6 hL50
        go_wp2
        go_ret
        obtain ⟨k9, hk9, hc9⟩ := HA2.out _ HR.out
        exact ⟨k9, hk9, hc9, hB.trans (hBW.mono hB.size)⟩
    · have hle1 := le_no (b := a) (c := d) (fun h => h1 h.2.2)
      have HR : Hid (Ending.returned (.bool false) = .returned (.bool (true && (decide (fkey a ≤ fkey d) && decide (fkey u ≤ fkey b))))) := by show _ = _; rw [decide_eq_false h1]; rfl
      clear h1
      have hsz5 := hBW.size
      have l500 : ((w5.alloc (.cells #[.float .f64 d, .float .f64 u] 40))).cell? ⟨w5.heap.size, 0, none⟩ = some (.float .f64 d) := by go_simp
      have l501 : ((w5.alloc (.cells #[.float .f64 d, .float .f64 u] 40))).cell? ⟨w5.heap.size, 1, none⟩ = some (.float .f64 u) := by go_simp
      have cb5 : Below w5.heap.size w5 ((w5.alloc (.cells #[.float .f64 d, .float .f64 u] 40))) := ((Below.refl _ _).alloc (by (try simp only [World.size_alloc]); omega) _)
      replace hBW := hBW.trans (cb5.mono hBW.size)
      replace q00 := below_cell cb5 q00
      replace q01 := below_cell cb5 q01
      replace q02 := below_cell cb5 q02
      replace q10 := below_cell cb5 q10
      replace q11 := below_cell cb5 q11
      have hL50 : Row ((w5.alloc (.cells #[.float .f64 d, .float .f64 u] 40))) (w5.heap.size) := by
        have := row_new (w5) #[.float .f64 d, .float .f64 u] 40
        try simp only [World.size_alloc] at this
        exact this
      go_wp2_with fail
      generalize (w5.alloc (.cells #[.float .f64 d, .float .f64 u] 40)) = w5x at q00 q01 q02 q10 q11 l500 l501 hL50 hBW cb5 ⊢
      clear cb5
      refine (HV.out _).mono ?_
      rintro e w6 ⟨rfl, b6⟩
      replace hBW := hBW.trans (b6.mono hBW.size)
      replace q00 := below_cell b6 q00
      replace q01 := below_cell b6 q01
      replace q02 := below_cell b6 q02
      replace q10 := below_cell b6 q10
      replace q11 := below_cell b6 q11
      replace l500 := below_cell b6 l500
      replace l501 := below_cell b6 l501
      replace hL50 := below_row b6 hL50
      go_wp2
      go_ret
      obtain ⟨k9, hk9, hc9⟩ := HA2.out _ HR.out
      exact ⟨k9, hk9, hc9, hB.trans (hBW.mono hB.size)⟩
end Go.Proofs.Ytjofldgaefjapaa

namespace Go.Proofs.Ytjofldgaefjapaa
open Go.RowKit
set_option linter.unusedVariables false

set_option maxHeartbeats 4000000 in
set_option maxRecDepth 100000 in
theorem vIn_is (s0 : Bool) (a0 : Option Addr) (n0 c0 X0 : Nat) (b0 : Option Addr) (m0 d0 Y0 : Nat) (a b z T : Nat) (c : Bool) (w : World) (hc0 : n0 ≤ c0) (hm0 : n0 ≤ 1048576) (hS0 : Seg w a0 X0 n0) (hd0 : m0 ≤ d0) (hk0 : m0 ≤ 1048576) (hT0 : Seg w b0 Y0 m0) (hz : z = 1074) (hT : T = 2 ^ z) (ha : a < 18446744073709551616) (hb : b < 18446744073709551616) (hc : inB T (rn s0 X0 Y0) (rd Y0) a b = c) :
    Calls Try.prog 24 #[Value.agg #[Value.bool s0, Value.slice a0 n0 c0, Value.slice b0 m0 d0], Value.agg #[Value.float .f64 a, Value.float .f64 b]] w fun e w' => e = .returned (.bool c) ∧ Below w.heap.size w w' := by
  obtain ⟨v, hv⟩ : ∃ v, vaB a b = v := ⟨_, rfl⟩
  have HV := hide' (fun w' => vValid_is a b v w' ha hb hv)
  have hvv : v = true → a % SB ≤ FI ∧ b % SB ≤ FI ∧ a ≠ FI ∧ b ≠ SB + FI := fun h => by rw [← hv] at h; unfold vaB at h; rw [decide_eq_true_iff] at h; exact ⟨h.1, h.2.1, h.2.2.2.1, h.2.2.2.2⟩
  have hD := rd_pos Y0
  have hTn : (T : Int) ≠ 0 := by rw [hT]; have := Nat.two_pow_pos z; omega
  obtain ⟨Z, V, hL⟩ := low_ex (rn s0 X0 Y0) ((rd Y0 : Nat) : Int) (rd_ne Y0)
  have hp := hL.pos
  obtain ⟨lz, lv⟩ := ln1 hL (Nat.lt_of_le_of_lt (rn_am s0 X0 Y0) hS0.1) (by rw [am_nat]; exact rd_lt hT0.1) (k := 1048577) (by omega) (by omega)
  have HM := hide' (fun w' k1 k2 => vqNorm_is s0 a0 n0 c0 X0 b0 m0 d0 Y0 V Z w' (by omega) k1 (by omega) k2 hL)
  unfold inB at hc
  rw [hv] at hc
  clear hv
  cases v
  · have hcf : c = false := hc.symm
    subst hcf
    clear hc hvv hL hp hz hT hTn hD
    go_enter Try.func24, Try.ntmps24
    go_wp2_with fail
    have q00 : (((w.alloc (.cells #[.bool s0, .slice a0 n0 c0, .slice b0 m0 d0] 27)).alloc (.cells #[.float .f64 a, .float .f64 b] 40))).cell? ⟨w.heap.size, 0, none⟩ = some (.bool s0) := by go_simp
    have q01 : (((w.alloc (.cells #[.bool s0, .slice a0 n0 c0, .slice b0 m0 d0] 27)).alloc (.cells #[.float .f64 a, .float .f64 b] 40))).cell? ⟨w.heap.size, 1, none⟩ = some (.slice a0 n0 c0) := by go_simp
    have q02 : (((w.alloc (.cells #[.bool s0, .slice a0 n0 c0, .slice b0 m0 d0] 27)).alloc (.cells #[.float .f64 a, .float .f64 b] 40))).cell? ⟨w.heap.size, 2, none⟩ = some (.slice b0 m0 d0) := by go_simp
    have q10 : (((w.alloc (.cells #[.bool s0, .slice a0 n0 c0, .slice b0 m0 d0] 27)).alloc (.cells #[.float .f64 a, .float .f64 b] 40))).cell? ⟨w.heap.size + 1, 0, none⟩ = some (.float .f64 a) := by go_simp
    have q11 : (((w.alloc (.cells #[.bool s0, .slice a0 n0 c0, .slice b0 m0 d0] 27)).alloc (.cells #[.float .f64 a, .float .f64 b] 40))).cell? ⟨w.heap.size + 1, 1, none⟩ = some (.float .f64 b) := by go_simp
    have hB : Below w.heap.size w (((w.alloc (.cells #[.bool s0, .slice a0 n0 c0, .slice b0 m0 d0] 27)).alloc (.cells #[.float .f64 a, .float .f64 b] 40))) := (((Below.refl _ _).alloc (by (try simp only [World.size_alloc]); omega) _).alloc (by (try simp only [World.size_alloc]); omega) _)
    have hz : (((w.alloc (.cells #[.bool s0, .slice a0 n0 c0, .slice b0 m0 d0] 27)).alloc (.cells #[.float .f64 a, .float .f64 b] 40))).heap.size = w.heap.size + 1 + 1 := by simp only [World.size_alloc]
    generalize ((w.alloc (.cells #[.bool s0, .slice a0 n0 c0, .slice b0 m0 d0] 27)).alloc (.cells #[.float .f64 a, .float .f64 b] 40)) = W at q00 q01 q02 q10 q11 hB hz ⊢
    have hBW : Below W.heap.size W W := Below.refl _ _
    refine (HM.out _ (sb hS0 hB hBW) (sb hT0 hB hBW)).mono ?_
    rintro e w5 ⟨p5, q5, rfl, hp5, hq5⟩
    have b5 := hp5.below
    replace hp5 := hp5.back hBW
    replace hq5 := hq5.back hBW
    replace hBW := hBW.trans (b5.mono hBW.size)
    replace q00 := below_cell b5 q00
    replace q01 := below_cell b5 q01
    replace q02 := below_cell b5 q02
    replace q10 := below_cell b5 q10
    replace q11 := below_cell b5 q11
    have hsz5 := hBW.size
    have l500 : ((w5.alloc (.cells #[.int .i64 0, .bool (ng Z), .slice p5 (ln (am Z)) (ln (am Z)), .slice q5 (ln V) (ln V)] 62))).cell? ⟨w5.heap.size, 0, none⟩ = some (.int .i64 0) := by go_simp
    have l501 : ((w5.alloc (.cells #[.int .i64 0, .bool (ng Z), .slice p5 (ln (am Z)) (ln (am Z)), .slice q5 (ln V) (ln V)] 62))).cell? ⟨w5.heap.size, 1, none⟩ = some (.bool (ng Z)) := by go_simp
    have l502 : ((w5.alloc (.cells #[.int .i64 0, .bool (ng Z), .slice p5 (ln (am Z)) (ln (am Z)), .slice q5 (ln V) (ln V)] 62))).cell? ⟨w5.heap.size, 2, none⟩ = some (.slice p5 (ln (am Z)) (ln (am Z))) := by go_simp
    have l503 : ((w5.alloc (.cells #[.int .i64 0, .bool (ng Z), .slice p5 (ln (am Z)) (ln (am Z)), .slice q5 (ln V) (ln V)] 62))).cell? ⟨w5.heap.size, 3, none⟩ = some (.slice q5 (ln V) (ln V)) := by go_simp
    have cb5 : Below w5.heap.size w5 ((w5.alloc (.cells #[.int .i64 0, .bool (ng Z), .slice p5 (ln (am Z)) (ln (am Z)), .slice q5 (ln V) (ln V)] 62))) := ((Below.refl _ _).alloc (by (try simp only [World.size_alloc]); omega) _)
    replace hBW := hBW.trans (cb5.mono hBW.size)
    replace q00 := below_cell cb5 q00
    replace q01 := below_cell cb5 q01
    replace q02 := below_cell cb5 q02
    replace q10 := below_cell cb5 q10
    replace q11 := below_cell cb5 q11
    replace hp5 := hp5.later cb5
    replace hq5 := hq5.later cb5
    have hL50 : Row ((w5.alloc (.cells #[.int .i64 0, .bool (ng Z), .slice p5 (ln (am Z)) (ln (am Z)), .slice q5 (ln V) (ln V)] 62))) (w5.heap.size) := by
      have := row_new (w5) #[.int .i64 0, .bool (ng Z), .slice p5 (ln (am Z)) (ln (am Z)), .slice q5 (ln V) (ln V)] 62
      try simp only [World.size_alloc] at this
      exact this
    go_wp2_with fail
    generalize (w5.alloc (.cells #[.int .i64 0, .bool (ng Z), .slice p5 (ln (am Z)) (ln (am Z)), .slice q5 (ln V) (ln V)] 62)) = w5x at q00 q01 q02 q10 q11 l500 l501 l502 l503 hL50 hp5 hq5 hBW cb5 ⊢
    clear cb5
    replace hBW := hBW.drew
    replace hp5 := hp5.drew
    replace hq5 := hq5.drew
    refine wp_region_held_drew (S := (fun w' => w'.cell? ⟨w.heap.size, 0, none⟩ = some (.bool s0) ∧ w'.cell? ⟨w.heap.size, 1, none⟩ = some (.slice a0 n0 c0) ∧ w'.cell? ⟨w.heap.size, 2, none⟩ = some (.slice b0 m0 d0) ∧ w'.cell? ⟨w.heap.size + 1, 0, none⟩ = some (.float .f64 a) ∧ w'.cell? ⟨w.heap.size + 1, 1, none⟩ = some (.float .f64 b) ∧ w'.cell? ⟨w5.heap.size, 0, none⟩ = some (.int .i64 0) ∧ w'.cell? ⟨w5.heap.size, 1, none⟩ = some (.bool (ng Z)) ∧ w'.cell? ⟨w5.heap.size, 2, none⟩ = some (.slice p5 (ln (am Z)) (ln (am Z))) ∧ w'.cell? ⟨w5.heap.size, 3, none⟩ = some (.slice q5 (ln V) (ln V)) ∧ Below w.heap.size w w')) (by kernel_rfl) ⟨q00, q01, q02, q10, q11, l500, l501, l502, l503, hB.trans (hBW.mono hB.size)⟩ (fun hHeld => ?_)
    refine take' 0 (v := ?_) rfl (by kernel_rfl) (by kernel_rfl) (by kernel_rfl) (fun _ _ _ h => h) (Or.inl ⟨by rfl, ?_⟩) (by assumption) ?_
    rotate_left
    · intro w9 hSw
      go_simp
      first | done | with_reducible rfl
    simp only [Act.put, List.setIfInBounds_toArray, List.set_cons_zero, List.set_cons_succ]
    refine wpAnyH_ready (rs := [1]) (by kernel_rfl) (by simp) ?_
    refine cons' rfl (fun K hK => ?_)
    go_simp
    refine (HV.out _).mono ?_
    rintro e w6 ⟨rfl, bb6⟩
    have b6 := bb6
    go_wp2_with fail
    refine hK.out _ _ (kp9 b6 hHeld) ?_
    clear hHeld
    intro hHeld
    clear hK K
    replace hBW := hBW.trans (b6.mono hBW.size)
    replace q00 := below_cell b6 q00
    replace q01 := below_cell b6 q01
    replace q02 := below_cell b6 q02
    replace q10 := below_cell b6 q10
    replace q11 := below_cell b6 q11
    replace l500 := below_cell b6 l500
    replace l501 := below_cell b6 l501
    replace l502 := below_cell b6 l502
    replace l503 := below_cell b6 l503
    replace hL50 := below_row b6 hL50
    replace hp5 := hp5.later b6
    replace hq5 := hq5.later b6
    refine take' 2 (v := ?_) rfl (by kernel_rfl) (by kernel_rfl) (by kernel_rfl) (fun _ _ _ h => h) (Or.inl ⟨by rfl, ?_⟩) (by assumption) ?_
    rotate_left
    · intro w9 hSw
      go_simp
      first | done | with_reducible rfl
    simp only [Act.put, List.setIfInBounds_toArray, List.set_cons_zero, List.set_cons_succ]
    refine take' 3 (v := undef) rfl (by kernel_rfl) (by kernel_rfl) (by kernel_rfl) (fun _ _ _ h => h) (Or.inr ⟨by rfl, rfl⟩) (by assumption) ?_
    simp only [Act.put, List.setIfInBounds_toArray, List.set_cons_zero, List.set_cons_succ]
    refine take' 4 (v := undef) rfl (by kernel_rfl) (by kernel_rfl) (by kernel_rfl) (fun _ _ _ h => h) (Or.inr ⟨by rfl, rfl⟩) (by assumption) ?_
    simp only [Act.put, List.setIfInBounds_toArray, List.set_cons_zero, List.set_cons_succ]
    refine take' 5 (v := undef) rfl (by kernel_rfl) (by kernel_rfl) (by kernel_rfl) (fun _ _ _ h => h) (Or.inr ⟨by rfl, rfl⟩) (by assumption) ?_
    simp only [Act.put, List.setIfInBounds_toArray, List.set_cons_zero, List.set_cons_succ]
    refine take' 6 (v := undef) rfl (by kernel_rfl) (by kernel_rfl) (by kernel_rfl) (fun _ _ _ h => h) (Or.inr ⟨by rfl, rfl⟩) (by assumption) ?_
    simp only [Act.put, List.setIfInBounds_toArray, List.set_cons_zero, List.set_cons_succ]
    refine take' 7 (v := undef) rfl (by kernel_rfl) (by kernel_rfl) (by kernel_rfl) (fun _ _ _ h => h) (Or.inr ⟨by rfl, rfl⟩) (by assumption) ?_
    simp only [Act.put, List.setIfInBounds_toArray, List.set_cons_zero, List.set_cons_succ]
    refine take' 8 (v := undef) rfl (by kernel_rfl) (by kernel_rfl) (by kernel_rfl) (fun _ _ _ h => h) (Or.inr ⟨by rfl, rfl⟩) (by assumption) ?_
    simp only [Act.put, List.setIfInBounds_toArray, List.set_cons_zero, List.set_cons_succ]
    refine take' 9 (v := ?_) rfl (by kernel_rfl) (by kernel_rfl) (by kernel_rfl) (fun _ _ _ h => h) (Or.inl ⟨by rfl, ?_⟩) (by assumption) ?_
    rotate_left
    · intro w9 hSw
      go_simp
      first | done | with_reducible rfl
    simp only [Act.put, List.setIfInBounds_toArray, List.set_cons_zero, List.set_cons_succ]
    refine take' 10 (v := ?_) rfl (by kernel_rfl) (by kernel_rfl) (by kernel_rfl) (fun _ _ _ h => h) (Or.inl ⟨by rfl, ?_⟩) (by assumption) ?_
    rotate_left
    · intro w9 hSw
      go_simp
      first | done | with_reducible rfl
    simp only [Act.put, List.setIfInBounds_toArray, List.set_cons_zero, List.set_cons_succ]
    refine take' 11 (v := undef) rfl (by kernel_rfl) (by kernel_rfl) (by kernel_rfl) (fun _ _ _ h => h) (Or.inr ⟨by rfl, rfl⟩) (by assumption) ?_
    simp only [Act.put, List.setIfInBounds_toArray, List.set_cons_zero, List.set_cons_succ]
    refine take' 12 (v := undef) rfl (by kernel_rfl) (by kernel_rfl) (by kernel_rfl) (fun _ _ _ h => h) (Or.inr ⟨by rfl, rfl⟩) (by assumption) ?_
    simp only [Act.put, List.setIfInBounds_toArray, List.set_cons_zero, List.set_cons_succ]
    refine take' 13 (v := undef) rfl (by kernel_rfl) (by kernel_rfl) (by kernel_rfl) (fun _ _ _ h => h) (Or.inr ⟨by rfl, rfl⟩) (by assumption) ?_
    simp only [Act.put, List.setIfInBounds_toArray, List.set_cons_zero, List.set_cons_succ]
    refine take' 14 (v := undef) rfl (by kernel_rfl) (by kernel_rfl) (by kernel_rfl) (fun _ _ _ h => h) (Or.inr ⟨by rfl, rfl⟩) (by assumption) ?_
    simp only [Act.put, List.setIfInBounds_toArray, List.set_cons_zero, List.set_cons_succ]
    refine take' 15 (v := undef) rfl (by kernel_rfl) (by kernel_rfl) (by kernel_rfl) (fun _ _ _ h => h) (Or.inr ⟨by rfl, rfl⟩) (by assumption) ?_
    simp only [Act.put, List.setIfInBounds_toArray, List.set_cons_zero, List.set_cons_succ]
    refine take' 16 (v := undef) rfl (by kernel_rfl) (by kernel_rfl) (by kernel_rfl) (fun _ _ _ h => h) (Or.inr ⟨by rfl, rfl⟩) (by assumption) ?_
    simp only [Act.put, List.setIfInBounds_toArray, List.set_cons_zero, List.set_cons_succ]
    refine take' 17 (v := ?_) rfl (by kernel_rfl) (by kernel_rfl) (by kernel_rfl) (fun _ _ _ h => h) (Or.inl ⟨by rfl, ?_⟩) (by assumption) ?_
    rotate_left
    · intro w9 hSw
      go_simp
      first | done | with_reducible rfl
    simp only [Act.put, List.setIfInBounds_toArray, List.set_cons_zero, List.set_cons_succ]
    refine take' 18 (v := ?_) rfl (by kernel_rfl) (by kernel_rfl) (by kernel_rfl) (fun _ _ _ h => h) (Or.inl ⟨by rfl, ?_⟩) (by assumption) ?_
    rotate_left
    · intro w9 hSw
      go_simp
      first | done | with_reducible rfl
    simp only [Act.put, List.setIfInBounds_toArray, List.set_cons_zero, List.set_cons_succ]
    refine wpAnyH_done (by kernel_rfl) ?_ _
    go_wp2
    go_ret
    exact ⟨rfl, hB.trans (hBW.mono hB.size)⟩
  · obtain ⟨va, vb, na, nb⟩ := hvv rfl
    clear hvv
    by_cases fa : a % SB < FI
    · skip
      obtain ⟨Za, Va, ga⟩ := low_ex (fv a) (T : Int) hTn
      have pa := ga.pos
      obtain ⟨la, ma⟩ := low_fl hz hT (by unfold fv; rw [am_sg]; exact amt_ln fa) ga
      have Ea := hide' (fun w' => endOf_num z T a Za Va w' hz hT ha fa ga)
      have hcmp := (low_cmp2 hT hD hL ga).1
      obtain ⟨C1, hC1⟩ : ∃ C, sgn (Z * (Va : Int) - Za * (V : Int)) = C := ⟨_, rfl⟩
      have U1 := hide' (fun w' p q p' q' k1 k2 k3 k4 => under_num Z Za V Va p q p' q' C1 w' (by omega) (by omega) (by omega) (by omega) hp pa k1 k2 k3 k4 hC1)
      have hlo : loB T (rn s0 X0 Y0) (rd Y0) a = decide (C1 < 0) := by unfold loB; rw [decide_eq_decide, ← hC1, hcmp, sgn_lt0]; omega
      rw [hlo] at hc
      clear hC1 hcmp hlo
      by_cases h1 : C1 < 0
      · have d1 : decide (C1 < 0) = true := decide_eq_true h1
        have hcf : c = false := by rw [← hc, d1]; rfl
        subst hcf
        rw [d1] at U1
        clear d1 h1 hc hL hp hz hT hTn hD va vb na nb fa ga pa
        go_enter Try.func24, Try.ntmps24
        go_wp2_with fail
        have q00 : (((w.alloc (.cells #[.bool s0, .slice a0 n0 c0, .slice b0 m0 d0] 27)).alloc (.cells #[.float .f64 a, .float .f64 b] 40))).cell? ⟨w.heap.size, 0, none⟩ = some (.bool s0) := by go_simp
        have q01 : (((w.alloc (.cells #[.bool s0, .slice a0 n0 c0, .slice b0 m0 d0] 27)).alloc (.cells #[.float .f64 a, .float .f64 b] 40))).cell? ⟨w.heap.size, 1, none⟩ = some (.slice a0 n0 c0) := by go_simp
        have q02 : (((w.alloc (.cells #[.bool s0, .slice a0 n0 c0, .slice b0 m0 d0] 27)).alloc (.cells #[.float .f64 a, .float .f64 b] 40))).cell? ⟨w.heap.size, 2, none⟩ = some (.slice b0 m0 d0) := by go_simp
        have q10 : (((w.alloc (.cells #[.bool s0, .slice a0 n0 c0, .slice b0 m0 d0] 27)).alloc (.cells #[.float .f64 a, .float .f64 b] 40))).cell? ⟨w.heap.size + 1, 0, none⟩ = some (.float .f64 a) := by go_simp
        have q11 : (((w.alloc (.cells #[.bool s0, .slice a0 n0 c0, .slice b0 m0 d0] 27)).alloc (.cells #[.float .f64 a, .float .f64 b] 40))).cell? ⟨w.heap.size + 1, 1, none⟩ = some (.float .f64 b) := by go_simp
        have hB : Below w.heap.size w (((w.alloc (.cells #[.bool s0, .slice a0 n0 c0, .slice b0 m0 d0] 27)).alloc (.cells #[.float .f64 a, .float .f64 b] 40))) := (((Below.refl _ _).alloc (by (try simp only [World.size_alloc]); omega) _).alloc (by (try simp only [World.size_alloc]); omega) _)
        have hz : (((w.alloc (.cells #[.bool s0, .slice a0 n0 c0, .slice b0 m0 d0] 27)).alloc (.cells #[.float .f64 a, .float .f64 b] 40))).heap.size = w.heap.size + 1 + 1 := by simp only [World.size_alloc]
        generalize ((w.alloc (.cells #[.bool s0, .slice a0 n0 c0, .slice b0 m0 d0] 27)).alloc (.cells #[.float .f64 a, .float .f64 b] 40)) = W at q00 q01 q02 q10 q11 hB hz ⊢
        have hBW : Below W.heap.size W W := Below.refl _ _
        refine (HM.out _ (sb hS0 hB hBW) (sb hT0 hB hBW)).mono ?_
        rintro e w5 ⟨p5, q5, rfl, hp5, hq5⟩
        have b5 := hp5.below
        replace hp5 := hp5.back hBW
        replace hq5 := hq5.back hBW
        replace hBW := hBW.trans (b5.mono hBW.size)
        replace q00 := below_cell b5 q00
        replace q01 := below_cell b5 q01
        replace q02 := below_cell b5 q02
        replace q10 := below_cell b5 q10
        replace q11 := below_cell b5 q11
        have hsz5 := hBW.size
        have l500 : ((w5.alloc (.cells #[.int .i64 0, .bool (ng Z), .slice p5 (ln (am Z)) (ln (am Z)), .slice q5 (ln V) (ln V)] 62))).cell? ⟨w5.heap.size, 0, none⟩ = some (.int .i64 0) := by go_simp
        have l501 : ((w5.alloc (.cells #[.int .i64 0, .bool (ng Z), .slice p5 (ln (am Z)) (ln (am Z)), .slice q5 (ln V) (ln V)] 62))).cell? ⟨w5.heap.size, 1, none⟩ = some (.bool (ng Z)) := by go_simp
        have l502 : ((w5.alloc (.cells #[.int .i64 0, .bool (ng Z), .slice p5 (ln (am Z)) (ln (am Z)), .slice q5 (ln V) (ln V)] 62))).cell? ⟨w5.heap.size, 2, none⟩ = some (.slice p5 (ln (am Z)) (ln (am Z))) := by go_simp
        have l503 : ((w5.alloc (.cells #[.int .i64 0, .bool (ng Z), .slice p5 (ln (am Z)) (ln (am Z)), .slice q5 (ln V) (ln V)] 62))).cell? ⟨w5.heap.size, 3, none⟩ = some (.slice q5 (ln V) (ln V)) := by go_simp
        have cb5 : Below w5.heap.size w5 ((w5.alloc (.cells #[.int .i64 0, .bool (ng Z), .slice p5 (ln (am Z)) (ln (am Z)), .slice q5 (ln V) (ln V)] 62))) := ((Below.refl _ _).alloc (by (try simp only [World.size_alloc]); omega) _)
        replace hBW := hBW.trans (cb5.mono hBW.size)
        replace q00 := below_cell cb5 q00
        replace q01 := below_cell cb5 q01
        replace q02 := below_cell cb5 q02
        replace q10 := below_cell cb5 q10
        replace q11 := below_cell cb5 q11
        replace hp5 := hp5.later cb5
        replace hq5 := hq5.later cb5
        have hL50 : Row ((w5.alloc (.cells #[.int .i64 0, .bool (ng Z), .slice p5 (ln (am Z)) (ln (am Z)), .slice q5 (ln V) (ln V)] 62))) (w5.heap.size) := by
          have := row_new (w5) #[.int .i64 0, .bool (ng Z), .slice p5 (ln (am Z)) (ln (am Z)), .slice q5 (ln V) (ln V)] 62
          try simp only [World.size_alloc] at this
          exact this
        go_wp2_with fail
        generalize (w5.alloc (.cells #[.int .i64 0, .bool (ng Z), .slice p5 (ln (am Z)) (ln (am Z)), .slice q5 (ln V) (ln V)] 62)) = w5x at q00 q01 q02 q10 q11 l500 l501 l502 l503 hL50 hp5 hq5 hBW cb5 ⊢
        clear cb5
        replace hBW := hBW.drew
        replace hp5 := hp5.drew
        replace hq5 := hq5.drew
        refine wp_region_held_drew (S := (fun w' => w'.cell? ⟨w.heap.size, 0, none⟩ = some (.bool s0) ∧ w'.cell? ⟨w.heap.size, 1, none⟩ = some (.slice a0 n0 c0) ∧ w'.cell? ⟨w.heap.size, 2, none⟩ = some (.slice b0 m0 d0) ∧ w'.cell? ⟨w.heap.size + 1, 0, none⟩ = some (.float .f64 a) ∧ w'.cell? ⟨w.heap.size + 1, 1, none⟩ = some (.float .f64 b) ∧ w'.cell? ⟨w5.heap.size, 0, none⟩ = some (.int .i64 0) ∧ w'.cell? ⟨w5.heap.size, 1, none⟩ = some (.bool (ng Z)) ∧ w'.cell? ⟨w5.heap.size, 2, none⟩ = some (.slice p5 (ln (am Z)) (ln (am Z))) ∧ w'.cell? ⟨w5.heap.size, 3, none⟩ = some (.slice q5 (ln V) (ln V)) ∧ Below w.heap.size w w')) (by kernel_rfl) ⟨q00, q01, q02, q10, q11, l500, l501, l502, l503, hB.trans (hBW.mono hB.size)⟩ (fun hHeld => ?_)
        refine take' 0 (v := ?_) rfl (by kernel_rfl) (by kernel_rfl) (by kernel_rfl) (fun _ _ _ h => h) (Or.inl ⟨by rfl, ?_⟩) (by assumption) ?_
        rotate_left
        · intro w9 hSw
          go_simp
          first | done | with_reducible rfl
        simp only [Act.put, List.setIfInBounds_toArray, List.set_cons_zero, List.set_cons_succ]
        refine wpAnyH_ready (rs := [1]) (by kernel_rfl) (by simp) ?_
        refine cons' rfl (fun K hK => ?_)
        go_simp
        refine (HV.out _).mono ?_
        rintro e w6 ⟨rfl, bb6⟩
        have b6 := bb6
        go_wp2_with fail
        refine hK.out _ _ (kp9 b6 hHeld) ?_
        clear hHeld
        intro hHeld
        clear hK K
        replace hBW := hBW.trans (b6.mono hBW.size)
        replace q00 := below_cell b6 q00
        replace q01 := below_cell b6 q01
        replace q02 := below_cell b6 q02
        replace q10 := below_cell b6 q10
        replace q11 := below_cell b6 q11
        replace l500 := below_cell b6 l500
        replace l501 := below_cell b6 l501
        replace l502 := below_cell b6 l502
        replace l503 := below_cell b6 l503
        replace hL50 := below_row b6 hL50
        replace hp5 := hp5.later b6
        replace hq5 := hq5.later b6
        refine take' 2 (v := ?_) rfl (by kernel_rfl) (by kernel_rfl) (by kernel_rfl) (fun _ _ _ h => h) (Or.inl ⟨by rfl, ?_⟩) (by assumption) ?_
        rotate_left
        · intro w9 hSw
          go_simp
          first | done | with_reducible rfl
        simp only [Act.put, List.setIfInBounds_toArray, List.set_cons_zero, List.set_cons_succ]
        refine take' 3 (v := ?_) rfl (by kernel_rfl) (by kernel_rfl) (by kernel_rfl) (fun _ _ _ h => h) (Or.inl ⟨by rfl, ?_⟩) (by assumption) ?_
        rotate_left
        · intro w9 hSw
          go_simp
          first | done | with_reducible rfl
        simp only [Act.put, List.setIfInBounds_toArray, List.set_cons_zero, List.set_cons_succ]
        refine take' 4 (v := ?_) rfl (by kernel_rfl) (by kernel_rfl) (by kernel_rfl) (fun _ _ _ h => h) (Or.inl ⟨by rfl, ?_⟩) (by assumption) ?_
        rotate_left
        · intro w9 hSw
          go_simp
          first | done | with_reducible rfl
        simp only [Act.put, List.setIfInBounds_toArray, List.set_cons_zero, List.set_cons_succ]
        refine take' 5 (v := ?_) rfl (by kernel_rfl) (by kernel_rfl) (by kernel_rfl) (fun _ _ _ h => h) (Or.inl ⟨by rfl, ?_⟩) (by assumption) ?_
        rotate_left
        · intro w9 hSw
          go_simp
          first | done | with_reducible rfl
        simp only [Act.put, List.setIfInBounds_toArray, List.set_cons_zero, List.set_cons_succ]
        refine wpAnyH_ready (rs := [6]) (by kernel_rfl) (by simp) ?_
        refine cons' rfl (fun K hK => ?_)
        go_simp
        refine (Ea.out _).mono ?_
        rintro e w7 ⟨pa, qa, rfl, hpa, hqa⟩
        have b7 := hpa.below
        replace hpa := hpa.back hBW
        replace hqa := hqa.back hBW
        go_wp2_with fail
        refine hK.out _ _ (kp9 b7 hHeld) ?_
        clear hHeld
        intro hHeld
        clear hK K
        replace hBW := hBW.trans (b7.mono hBW.size)
        replace q00 := below_cell b7 q00
        replace q01 := below_cell b7 q01
        replace q02 := below_cell b7 q02
        replace q10 := below_cell b7 q10
        replace q11 := below_cell b7 q11
        replace l500 := below_cell b7 l500
        replace l501 := below_cell b7 l501
        replace l502 := below_cell b7 l502
        replace l503 := below_cell b7 l503
        replace hL50 := below_row b7 hL50
        replace hp5 := hp5.later b7
        replace hq5 := hq5.later b7
        refine wpAnyH_ready (rs := [7]) (by kernel_rfl) (by simp) ?_
        refine cons' rfl (fun K hK => ?_)
        go_simp
        refine (U1.out _ _ _ _ _ hp5.seg hq5.seg hpa.seg hqa.seg).mono ?_
        rintro e w8 ⟨rfl, bb8⟩
        have b8 := bb8
        go_wp2_with fail
        refine hK.out _ _ (kp9 b8 hHeld) ?_
        clear hHeld
        intro hHeld
        clear hK K
        replace hBW := hBW.trans (b8.mono hBW.size)
        replace q00 := below_cell b8 q00
        replace q01 := below_cell b8 q01
        replace q02 := below_cell b8 q02
        replace q10 := below_cell b8 q10
        replace q11 := below_cell b8 q11
        replace l500 := below_cell b8 l500
        replace l501 := below_cell b8 l501
        replace l502 := below_cell b8 l502
        replace l503 := below_cell b8 l503
        replace hL50 := below_row b8 hL50
        replace hp5 := hp5.later b8
        replace hq5 := hq5.later b8
        replace hpa := hpa.later b8
        replace hqa := hqa.later b8
        refine take' 8 (v := ?_) rfl (by kernel_rfl) (by kernel_rfl) (by kernel_rfl) (fun _ _ _ h => h) (Or.inl ⟨by rfl, ?_⟩) (by assumption) ?_
        rotate_left
        · intro w9 hSw
          go_simp
          first | done | with_reducible rfl
        simp only [Act.put, List.setIfInBounds_toArray, List.set_cons_zero, List.set_cons_succ]
        refine take' 9 (v := ?_) rfl (by kernel_rfl) (by kernel_rfl) (by kernel_rfl) (fun _ _ _ h => h) (Or.inl ⟨by rfl, ?_⟩) (by assumption) ?_
        rotate_left
        · intro w9 hSw
          go_simp
          first | done | with_reducible rfl
        simp only [Act.put, List.setIfInBounds_toArray, List.set_cons_zero, List.set_cons_succ]
        refine take' 10 (v := ?_) rfl (by kernel_rfl) (by kernel_rfl) (by kernel_rfl) (fun _ _ _ h => h) (Or.inl ⟨by rfl, ?_⟩) (by assumption) ?_
        rotate_left
        · intro w9 hSw
          go_simp
          first | done | with_reducible rfl
        simp only [Act.put, List.setIfInBounds_toArray, List.set_cons_zero, List.set_cons_succ]
        refine take' 11 (v := undef) rfl (by kernel_rfl) (by kernel_rfl) (by kernel_rfl) (fun _ _ _ h => h) (Or.inr ⟨by rfl, rfl⟩) (by assumption) ?_
        simp only [Act.put, List.setIfInBounds_toArray, List.set_cons_zero, List.set_cons_succ]
        refine take' 12 (v := undef) rfl (by kernel_rfl) (by kernel_rfl) (by kernel_rfl) (fun _ _ _ h => h) (Or.inr ⟨by rfl, rfl⟩) (by assumption) ?_
        simp only [Act.put, List.setIfInBounds_toArray, List.set_cons_zero, List.set_cons_succ]
        refine take' 13 (v := undef) rfl (by kernel_rfl) (by kernel_rfl) (by kernel_rfl) (fun _ _ _ h => h) (Or.inr ⟨by rfl, rfl⟩) (by assumption) ?_
        simp only [Act.put, List.setIfInBounds_toArray, List.set_cons_zero, List.set_cons_succ]
        refine take' 14 (v := undef) rfl (by kernel_rfl) (by kernel_rfl) (by kernel_rfl) (fun _ _ _ h => h) (Or.inr ⟨by rfl, rfl⟩) (by assumption) ?_
        simp only [Act.put, List.setIfInBounds_toArray, List.set_cons_zero, List.set_cons_succ]
        refine take' 15 (v := undef) rfl (by kernel_rfl) (by kernel_rfl) (by kernel_rfl) (fun _ _ _ h => h) (Or.inr ⟨by rfl, rfl⟩) (by assumption) ?_
        simp only [Act.put, List.setIfInBounds_toArray, List.set_cons_zero, List.set_cons_succ]
        refine take' 16 (v := undef) rfl (by kernel_rfl) (by kernel_rfl) (by kernel_rfl) (fun _ _ _ h => h) (Or.inr ⟨by rfl, rfl⟩) (by assumption) ?_
        simp only [Act.put, List.setIfInBounds_toArray, List.set_cons_zero, List.set_cons_succ]
        refine take' 17 (v := ?_) rfl (by kernel_rfl) (by kernel_rfl) (by kernel_rfl) (fun _ _ _ h => h) (Or.inl ⟨by rfl, ?_⟩) (by assumption) ?_
        rotate_left
        · intro w9 hSw
          go_simp
          first | done | with_reducible rfl
        simp only [Act.put, List.setIfInBounds_toArray, List.set_cons_zero, List.set_cons_succ]
        refine take' 18 (v := ?_) rfl (by kernel_rfl) (by kernel_rfl) (by kernel_rfl) (fun _ _ _ h => h) (Or.inl ⟨by rfl, ?_⟩) (by assumption) ?_
        rotate_left
        · intro w9 hSw
          go_simp
          first | done | with_reducible rfl
        simp only [Act.put, List.setIfInBounds_toArray, List.set_cons_zero, List.set_cons_succ]
        refine wpAnyH_done (by kernel_rfl) ?_ _
        go_wp2
        go_ret
        exact ⟨rfl, hB.trans (hBW.mono hB.size)⟩
      · have d1 : decide (C1 < 0) = false := decide_eq_false h1
        rw [d1] at U1 hc
        clear d1 h1
        by_cases fb : b % SB < FI
        · skip
          obtain ⟨Zb, Vb, gb⟩ := low_ex (fv b) (T : Int) hTn
          have pb := gb.pos
          obtain ⟨lb, mb⟩ := low_fl hz hT (by unfold fv; rw [am_sg]; exact amt_ln fb) gb
          have Eb := hide' (fun w' => endOf_num z T b Zb Vb w' hz hT hb fb gb)
          have hcmp2 := (low_cmp2 hT hD hL gb).2
          obtain ⟨C2, hC2⟩ : ∃ C, sgn (Zb * (V : Int) - Z * (Vb : Int)) = C := ⟨_, rfl⟩
          have U2 := hide' (fun w' p q p' q' k1 k2 k3 k4 => under_num Zb Z Vb V p q p' q' C2 w' (by omega) (by omega) (by omega) (by omega) pb hp k1 k2 k3 k4 hC2)
          have hhi : hiB T (rn s0 X0 Y0) (rd Y0) b = decide (C2 < 0) := by unfold hiB; rw [decide_eq_decide, ← hC2, hcmp2, sgn_lt0]; omega
          rw [hhi] at hc
          clear hC2 hcmp2 hhi
          clear hL hp hz hT hTn hD va vb na nb fa fb ga pa gb pb
          have HC := hide' hc
          clear hc
          go_enter Try.func24, Try.ntmps24
          go_wp2_with fail
          have q00 : (((w.alloc (.cells #[.bool s0, .slice a0 n0 c0, .slice b0 m0 d0] 27)).alloc (.cells #[.float .f64 a, .float .f64 b] 40))).cell? ⟨w.heap.size, 0, none⟩ = some (.bool s0) := by go_simp
          have q01 : (((w.alloc (.cells #[.bool s0, .slice a0 n0 c0, .slice b0 m0 d0] 27)).alloc (.cells #[.float .f64 a, .float .f64 b] 40))).cell? ⟨w.heap.size, 1, none⟩ = some (.slice a0 n0 c0) := by go_simp
          have q02 : (((w.alloc (.cells #[.bool s0, .slice a0 n0 c0, .slice b0 m0 d0] 27)).alloc (.cells #[.float .f64 a, .float .f64 b] 40))).cell? ⟨w.heap.size, 2, none⟩ = some (.slice b0 m0 d0) := by go_simp
          have q10 : (((w.alloc (.cells #[.bool s0, .slice a0 n0 c0, .slice b0 m0 d0] 27)).alloc (.cells #[.float .f64 a, .float .f64 b] 40))).cell? ⟨w.heap.size + 1, 0, none⟩ = some (.float .f64 a) := by go_simp
          have q11 : (((w.alloc (.cells #[.bool s0, .slice a0 n0 c0, .slice b0 m0 d0] 27)).alloc (.cells #[.float .f64 a, .float .f64 b] 40))).cell? ⟨w.heap.size + 1, 1, none⟩ = some (.float .f64 b) := by go_simp
          have hB : Below w.heap.size w (((w.alloc (.cells #[.bool s0, .slice a0 n0 c0, .slice b0 m0 d0] 27)).alloc (.cells #[.float .f64 a, .float .f64 b] 40))) := (((Below.refl _ _).alloc (by (try simp only [World.size_alloc]); omega) _).alloc (by (try simp only [World.size_alloc]); omega) _)
          have hz : (((w.alloc (.cells #[.bool s0, .slice a0 n0 c0, .slice b0 m0 d0] 27)).alloc (.cells #[.float .f64 a, .float .f64 b] 40))).heap.size = w.heap.size + 1 + 1 := by simp only [World.size_alloc]
          generalize ((w.alloc (.cells #[.bool s0, .slice a0 n0 c0, .slice b0 m0 d0] 27)).alloc (.cells #[.float .f64 a, .float .f64 b] 40)) = W at q00 q01 q02 q10 q11 hB hz ⊢
          have hBW : Below W.heap.size W W := Below.refl _ _
          refine (HM.out _ (sb hS0 hB hBW) (sb hT0 hB hBW)).mono ?_
          rintro e w5 ⟨p5, q5, rfl, hp5, hq5⟩
          have b5 := hp5.below
          replace hp5 := hp5.back hBW
          replace hq5 := hq5.back hBW
          replace hBW := hBW.trans (b5.mono hBW.size)
          replace q00 := below_cell b5 q00
          replace q01 := below_cell b5 q01
          replace q02 := below_cell b5 q02
          replace q10 := below_cell b5 q10
          replace q11 := below_cell b5 q11
          have hsz5 := hBW.size
          have l500 : ((w5.alloc (.cells #[.int .i64 0, .bool (ng Z), .slice p5 (ln (am Z)) (ln (am Z)), .slice q5 (ln V) (ln V)] 62))).cell? ⟨w5.heap.size, 0, none⟩ = some (.int .i64 0) := by go_simp
          have l501 : ((w5.alloc (.cells #[.int .i64 0, .bool (ng Z), .slice p5 (ln (am Z)) (ln (am Z)), .slice q5 (ln V) (ln V)] 62))).cell? ⟨w5.heap.size, 1, none⟩ = some (.bool (ng Z)) := by go_simp
          have l502 : ((w5.alloc (.cells #[.int .i64 0, .bool (ng Z), .slice p5 (ln (am Z)) (ln (am Z)), .slice q5 (ln V) (ln V)] 62))).cell? ⟨w5.heap.size, 2, none⟩ = some (.slice p5 (ln (am Z)) (ln (am Z))) := by go_simp
          have l503 : ((w5.alloc (.cells #[.int .i64 0, .bool (ng Z), .slice p5 (ln (am Z)) (ln (am Z)), .slice q5 (ln V) (ln V)] 62))).cell? ⟨w5.heap.size, 3, none⟩ = some (.slice q5 (ln V) (ln V)) := by go_simp
          have cb5 : Below w5.heap.size w5 ((w5.alloc (.cells #[.int .i64 0, .bool (ng Z), .slice p5 (ln (am Z)) (ln (am Z)), .slice q5 (ln V) (ln V)] 62))) := ((Below.refl _ _).alloc (by (try simp only [World.size_alloc]); omega) _)
          replace hBW := hBW.trans (cb5.mono hBW.size)
          replace q00 := below_cell cb5 q00
          replace q01 := below_cell cb5 q01
          replace q02 := below_cell cb5 q02
          replace q10 := below_cell cb5 q10
          replace q11 := below_cell cb5 q11
          replace hp5 := hp5.later cb5
          replace hq5 := hq5.later cb5
          have hL50 : Row ((w5.alloc (.cells #[.int .i64 0, .bool (ng Z), .slice p5 (ln (am Z)) (ln (am Z)), .slice q5 (ln V) (ln V)] 62))) (w5.heap.size) := by
            have := row_new (w5) #[.int .i64 0, .bool (ng Z), .slice p5 (ln (am Z)) (ln (am Z)), .slice q5 (ln V) (ln V)] 62
            try simp only [World.size_alloc] at this
            exact this
          go_wp2_with fail
          generalize (w5.alloc (.cells #[.int .i64 0, .bool (ng Z), .slice p5 (ln (am Z)) (ln (am Z)), .slice q5 (ln V) (ln V)] 62)) = w5x at q00 q01 q02 q10 q11 l500 l501 l502 l503 hL50 hp5 hq5 hBW cb5 ⊢
          clear cb5
          replace hBW := hBW.drew
          replace hp5 := hp5.drew
          replace hq5 := hq5.drew
          first
            | go_region_held3 (fun w' => w'.cell? ⟨w.heap.size, 0, none⟩ = some (.bool s0) ∧ w'.cell? ⟨w.heap.size, 1, none⟩ = some (.slice a0 n0 c0) ∧ w'.cell? ⟨w.heap.size, 2, none⟩ = some (.slice b0 m0 d0) ∧ w'.cell? ⟨w.heap.size + 1, 0, none⟩ = some (.float .f64 a) ∧ w'.cell? ⟨w.heap.size + 1, 1, none⟩ = some (.float .f64 b) ∧ w'.cell? ⟨w5.heap.size, 0, none⟩ = some (.int .i64 0) ∧ w'.cell? ⟨w5.heap.size, 1, none⟩ = some (.bool (ng Z)) ∧ w'.cell? ⟨w5.heap.size, 2, none⟩ = some (.slice p5 (ln (am Z)) (ln (am Z))) ∧ w'.cell? ⟨w5.heap.size, 3, none⟩ = some (.slice q5 (ln V) (ln V)) ∧ Below w.heap.size w w')
                (first | exact ⟨q00, q01, q02, q10, q11, l500, l501, l502, l503, hB.trans (hBW.mono hB.size)⟩ | exact kp9 b11 (by assumption) | exact kp9 b12 (by assumption) | exact kp9 b13 (by assumption) | exact kp9 b14 (by assumption) | exact kp9 b15 (by assumption) | exact kp9 (below_alloc _) (by assumption))
                (first
                  | (go_at_call 43; (fail_if_success clear b11); refine (HV.out _).mono ?_; rintro e w11 ⟨rfl, bb11⟩; have b11 := bb11; replace hBW := hBW.trans (b11.mono hBW.size); replace q00 := below_cell b11 q00; replace q01 := below_cell b11 q01; replace q02 := below_cell b11 q02; replace q10 := below_cell b11 q10; replace q11 := below_cell b11 q11; replace l500 := below_cell b11 l500; replace l501 := below_cell b11 l501; replace l502 := below_cell b11 l502; replace l503 := below_cell b11 l503; replace hL50 := below_row b11 hL50; replace hp5 := hp5.later b11; replace hq5 := hq5.later b11)
                  | (go_at_call 45; go_at_call_of 45 (Value.float .f64 a); (fail_if_success clear b12); refine (Ea.out _).mono ?_; rintro e w12 ⟨pa, qa, rfl, hpa, hqa⟩; have b12 := hpa.below; replace hpa := hpa.back hBW; replace hqa := hqa.back hBW; replace hBW := hBW.trans (b12.mono hBW.size); replace q00 := below_cell b12 q00; replace q01 := below_cell b12 q01; replace q02 := below_cell b12 q02; replace q10 := below_cell b12 q10; replace q11 := below_cell b12 q11; replace l500 := below_cell b12 l500; replace l501 := below_cell b12 l501; replace l502 := below_cell b12 l502; replace l503 := below_cell b12 l503; replace hL50 := below_row b12 hL50; replace hp5 := hp5.later b12; replace hq5 := hq5.later b12)
                  | (go_at_call 44; (fail_if_success clear b13); refine (U1.out _ _ _ _ _ hp5.seg hq5.seg hpa.seg hqa.seg).mono ?_; rintro e w13 ⟨rfl, bb13⟩; have b13 := bb13; replace hBW := hBW.trans (b13.mono hBW.size); replace q00 := below_cell b13 q00; replace q01 := below_cell b13 q01; replace q02 := below_cell b13 q02; replace q10 := below_cell b13 q10; replace q11 := below_cell b13 q11; replace l500 := below_cell b13 l500; replace l501 := below_cell b13 l501; replace l502 := below_cell b13 l502; replace l503 := below_cell b13 l503; replace hL50 := below_row b13 hL50; replace hp5 := hp5.later b13; replace hq5 := hq5.later b13; replace hpa := hpa.later b13; replace hqa := hqa.later b13)
                  | (go_at_call 45; go_at_call_of 45 (Value.float .f64 b); (fail_if_success clear b14); refine (Eb.out _).mono ?_; rintro e w14 ⟨pb, qb, rfl, hpb, hqb⟩; have b14 := hpb.below; replace hpb := hpb.back hBW; replace hqb := hqb.back hBW; replace hBW := hBW.trans (b14.mono hBW.size); replace q00 := below_cell b14 q00; replace q01 := below_cell b14 q01; replace q02 := below_cell b14 q02; replace q10 := below_cell b14 q10; replace q11 := below_cell b14 q11; replace l500 := below_cell b14 l500; replace l501 := below_cell b14 l501; replace l502 := below_cell b14 l502; replace l503 := below_cell b14 l503; replace hL50 := below_row b14 hL50; replace hp5 := hp5.later b14; replace hq5 := hq5.later b14; replace hpa := hpa.later b14; replace hqa := hqa.later b14)
                  | (go_at_call 44; (fail_if_success clear b15); refine (U2.out _ _ _ _ _ hpb.seg hqb.seg hp5.seg hq5.seg).mono ?_; rintro e w15 ⟨rfl, bb15⟩; have b15 := bb15; replace hBW := hBW.trans (b15.mono hBW.size); replace q00 := below_cell b15 q00; replace q01 := below_cell b15 q01; replace q02 := below_cell b15 q02; replace q10 := below_cell b15 q10; replace q11 := below_cell b15 q11; replace l500 := below_cell b15 l500; replace l501 := below_cell b15 l501; replace l502 := below_cell b15 l502; replace l503 := below_cell b15 l503; replace hL50 := below_row b15 hL50; replace hp5 := hp5.later b15; replace hq5 := hq5.later b15; replace hpa := hpa.later b15; replace hqa := hqa.later b15; replace hpb := hpb.later b15; replace hqb := hqb.later b15))
            | fail
          go_wp2
          go_ret
          exact ⟨by rw [← HC.out]; rfl, hB.trans (hBW.mono hB.size)⟩
        · skip
          have eb : faI b = 1 := if_pos (inf_hi hb (by omega) nb)
          have Eb := hide' (fun w' => endOf_inf b w' hb (by omega))
          rw [eb] at Eb
          have U2 := hide' (fun w' s1 a1 n1 c1 b1 m1 d1 s2 a2 n2 c2 b2 m2 d2 => under_far 1 s1 a1 n1 c1 b1 m1 d1 0 s2 a2 n2 c2 b2 m2 d2 false w' (by decide) (by decide))
          have hhi : hiB T (rn s0 X0 Y0) (rd Y0) b = false := by unfold hiB; exact decide_eq_false (fun h => fb h.1)
          rw [hhi] at hc
          clear hhi eb
          clear hL hp hz hT hTn hD va vb na nb fa fb ga pa
          have HC := hide' hc
          clear hc
          go_enter Try.func24, Try.ntmps24
          go_wp2_with fail
          have q00 : (((w.alloc (.cells #[.bool s0, .slice a0 n0 c0, .slice b0 m0 d0] 27)).alloc (.cells #[.float .f64 a, .float .f64 b] 40))).cell? ⟨w.heap.size, 0, none⟩ = some (.bool s0) := by go_simp
          have q01 : (((w.alloc (.cells #[.bool s0, .slice a0 n0 c0, .slice b0 m0 d0] 27)).alloc (.cells #[.float .f64 a, .float .f64 b] 40))).cell? ⟨w.heap.size, 1, none⟩ = some (.slice a0 n0 c0) := by go_simp
          have q02 : (((w.alloc (.cells #[.bool s0, .slice a0 n0 c0, .slice b0 m0 d0] 27)).alloc (.cells #[.float .f64 a, .float .f64 b] 40))).cell? ⟨w.heap.size, 2, none⟩ = some (.slice b0 m0 d0) := by go_simp
          have q10 : (((w.alloc (.cells #[.bool s0, .slice a0 n0 c0, .slice b0 m0 d0] 27)).alloc (.cells #[.float .f64 a, .float .f64 b] 40))).cell? ⟨w.heap.size + 1, 0, none⟩ = some (.float .f64 a) := by go_simp
          have q11 : (((w.alloc (.cells #[.bool s0, .slice a0 n0 c0, .slice b0 m0 d0] 27)).alloc (.cells #[.float .f64 a, .float .f64 b] 40))).cell? ⟨w.heap.size + 1, 1, none⟩ = some (.float .f64 b) := by go_simp
          have hB : Below w.heap.size w (((w.alloc (.cells #[.bool s0, .slice a0 n0 c0, .slice b0 m0 d0] 27)).alloc (.cells #[.float .f64 a, .float .f64 b] 40))) := (((Below.refl _ _).alloc (by (try simp only [World.size_alloc]); omega) _).alloc (by (try simp only [World.size_alloc]); omega) _)
          have hz : (((w.alloc (.cells #[.bool s0, .slice a0 n0 c0, .slice b0 m0 d0] 27)).alloc (.cells #[.float .f64 a, .float .f64 b] 40))).heap.size = w.heap.size + 1 + 1 := by simp only [World.size_alloc]
          generalize ((w.alloc (.cells #[.bool s0, .slice a0 n0 c0, .slice b0 m0 d0] 27)).alloc (.cells #[.float .f64 a, .float .f64 b] 40)) = W at q00 q01 q02 q10 q11 hB hz ⊢
          have hBW : Below W.heap.size W W := Below.refl _ _
          refine (HM.out _ (sb hS0 hB hBW) (sb hT0 hB hBW)).mono ?_
          rintro e w5 ⟨p5, q5, rfl, hp5, hq5⟩
          have b5 := hp5.below
          replace hp5 := hp5.back hBW
          replace hq5 := hq5.back hBW
          replace hBW := hBW.trans (b5.mono hBW.size)
          replace q00 := below_cell b5 q00
          replace q01 := below_cell b5 q01
          replace q02 := below_cell b5 q02
          replace q10 := below_cell b5 q10
          replace q11 := below_cell b5 q11
          have hsz5 := hBW.size
          have l500 : ((w5.alloc (.cells #[.int .i64 0, .bool (ng Z), .slice p5 (ln (am Z)) (ln (am Z)), .slice q5 (ln V) (ln V)] 62))).cell? ⟨w5.heap.size, 0, none⟩ = some (.int .i64 0) := by go_simp
          have l501 : ((w5.alloc (.cells #[.int .i64 0, .bool (ng Z), .slice p5 (ln (am Z)) (ln (am Z)), .slice q5 (ln V) (ln V)] 62))).cell? ⟨w5.heap.size, 1, none⟩ = some (.bool (ng Z)) := by go_simp
          have l502 : ((w5.alloc (.cells #[.int .i64 0, .bool (ng Z), .slice p5 (ln (am Z)) (ln (am Z)), .slice q5 (ln V) (ln V)] 62))).cell? ⟨w5.heap.size, 2, none⟩ = some (.slice p5 (ln (am Z)) (ln (am Z))) := by go_simp
          have l503 : ((w5.alloc (.cells #[.int .i64 0, .bool (ng Z), .slice p5 (ln (am Z)) (ln (am Z)), .slice q5 (ln V) (ln V)] 62))).cell? ⟨w5.heap.size, 3, none⟩ = some (.slice q5 (ln V) (ln V)) := by go_simp
          have cb5 : Below w5.heap.size w5 ((w5.alloc (.cells #[.int .i64 0, .bool (ng Z), .slice p5 (ln (am Z)) (ln (am Z)), .slice q5 (ln V) (ln V)] 62))) := ((Below.refl _ _).alloc (by (try simp only [World.size_alloc]); omega) _)
          replace hBW := hBW.trans (cb5.mono hBW.size)
          replace q00 := below_cell cb5 q00
          replace q01 := below_cell cb5 q01
          replace q02 := below_cell cb5 q02
          replace q10 := below_cell cb5 q10
          replace q11 := below_cell cb5 q11
          replace hp5 := hp5.later cb5
          replace hq5 := hq5.later cb5
          have hL50 : Row ((w5.alloc (.cells #[.int .i64 0, .bool (ng Z), .slice p5 (ln (am Z)) (ln (am Z)), .slice q5 (ln V) (ln V)] 62))) (w5.heap.size) := by
            have := row_new (w5) #[.int .i64 0, .bool (ng Z), .slice p5 (ln (am Z)) (ln (am Z)), .slice q5 (ln V) (ln V)] 62
            try simp only [World.size_alloc] at this
            exact this
          go_wp2_with fail
          generalize (w5.alloc (.cells #[.int .i64 0, .bool (ng Z), .slice p5 (ln (am Z)) (ln (am Z)), .slice q5 (ln V) (ln V)] 62)) = w5x at q00 q01 q02 q10 q11 l500 l501 l502 l503 hL50 hp5 hq5 hBW cb5 ⊢
          clear cb5
          replace hBW := hBW.drew
          replace hp5 := hp5.drew
          replace hq5 := hq5.drew
          first
            | go_region_held3 (fun w' => w'.cell? ⟨w.heap.size, 0, none⟩ = some (.bool s0) ∧ w'.cell? ⟨w.heap.size, 1, none⟩ = some (.slice a0 n0 c0) ∧ w'.cell? ⟨w.heap.size, 2, none⟩ = some (.slice b0 m0 d0) ∧ w'.cell? ⟨w.heap.size + 1, 0, none⟩ = some (.float .f64 a) ∧ w'.cell? ⟨w.heap.size + 1, 1, none⟩ = some (.float .f64 b) ∧ w'.cell? ⟨w5.heap.size, 0, none⟩ = some (.int .i64 0) ∧ w'.cell? ⟨w5.heap.size, 1, none⟩ = some (.bool (ng Z)) ∧ w'.cell? ⟨w5.heap.size, 2, none⟩ = some (.slice p5 (ln (am Z)) (ln (am Z))) ∧ w'.cell? ⟨w5.heap.size, 3, none⟩ = some (.slice q5 (ln V) (ln V)) ∧ Below w.heap.size w w')
                (first | exact ⟨q00, q01, q02, q10, q11, l500, l501, l502, l503, hB.trans (hBW.mono hB.size)⟩ | exact kp9 b11 (by assumption) | exact kp9 b12 (by assumption) | exact kp9 b13 (by assumption) | exact kp9 b14 (by assumption) | exact kp9 b15 (by assumption) | exact kp9 (below_alloc _) (by assumption))
                (first
                  | (go_at_call 43; (fail_if_success clear b11); refine (HV.out _).mono ?_; rintro e w11 ⟨rfl, bb11⟩; have b11 := bb11; replace hBW := hBW.trans (b11.mono hBW.size); replace q00 := below_cell b11 q00; replace q01 := below_cell b11 q01; replace q02 := below_cell b11 q02; replace q10 := below_cell b11 q10; replace q11 := below_cell b11 q11; replace l500 := below_cell b11 l500; replace l501 := below_cell b11 l501; replace l502 := below_cell b11 l502; replace l503 := below_cell b11 l503; replace hL50 := below_row b11 hL50; replace hp5 := hp5.later b11; replace hq5 := hq5.later b11)
                  | (go_at_call 45; go_at_call_of 45 (Value.float .f64 a); (fail_if_success clear b12); refine (Ea.out _).mono ?_; rintro e w12 ⟨pa, qa, rfl, hpa, hqa⟩; have b12 := hpa.below; replace hpa := hpa.back hBW; replace hqa := hqa.back hBW; replace hBW := hBW.trans (b12.mono hBW.size); replace q00 := below_cell b12 q00; replace q01 := below_cell b12 q01; replace q02 := below_cell b12 q02; replace q10 := below_cell b12 q10; replace q11 := below_cell b12 q11; replace l500 := below_cell b12 l500; replace l501 := below_cell b12 l501; replace l502 := below_cell b12 l502; replace l503 := below_cell b12 l503; replace hL50 := below_row b12 hL50; replace hp5 := hp5.later b12; replace hq5 := hq5.later b12)
                  | (go_at_call 44; (fail_if_success clear b13); refine (U1.out _ _ _ _ _ hp5.seg hq5.seg hpa.seg hqa.seg).mono ?_; rintro e w13 ⟨rfl, bb13⟩; have b13 := bb13; replace hBW := hBW.trans (b13.mono hBW.size); replace q00 := below_cell b13 q00; replace q01 := below_cell b13 q01; replace q02 := below_cell b13 q02; replace q10 := below_cell b13 q10; replace q11 := below_cell b13 q11; replace l500 := below_cell b13 l500; replace l501 := below_cell b13 l501; replace l502 := below_cell b13 l502; replace l503 := below_cell b13 l503; replace hL50 := below_row b13 hL50; replace hp5 := hp5.later b13; replace hq5 := hq5.later b13; replace hpa := hpa.later b13; replace hqa := hqa.later b13)
                  | (go_at_call 45; go_at_call_of 45 (Value.float .f64 b); (fail_if_success clear b14); refine (Eb.out _).mono ?_; rintro e w14 ⟨rfl, bb14⟩; have b14 := bb14; replace hBW := hBW.trans (b14.mono hBW.size); replace q00 := below_cell b14 q00; replace q01 := below_cell b14 q01; replace q02 := below_cell b14 q02; replace q10 := below_cell b14 q10; replace q11 := below_cell b14 q11; replace l500 := below_cell b14 l500; replace l501 := below_cell b14 l501; replace l502 := below_cell b14 l502; replace l503 := below_cell b14 l503; replace hL50 := below_row b14 hL50; replace hp5 := hp5.later b14; replace hq5 := hq5.later b14; replace hpa := hpa.later b14; replace hqa := hqa.later b14)
                  | (go_at_call 44; (fail_if_success clear b15); refine (U2.out _ _ _ _ _ _ _ _ _ _ _ _ _ _ _).mono ?_; rintro e w15 ⟨rfl, bb15⟩; have b15 := bb15; replace hBW := hBW.trans (b15.mono hBW.size); replace q00 := below_cell b15 q00; replace q01 := below_cell b15 q01; replace q02 := below_cell b15 q02; replace q10 := below_cell b15 q10; replace q11 := below_cell b15 q11; replace l500 := below_cell b15 l500; replace l501 := below_cell b15 l501; replace l502 := below_cell b15 l502; replace l503 := below_cell b15 l503; replace hL50 := below_row b15 hL50; replace hp5 := hp5.later b15; replace hq5 := hq5.later b15; replace hpa := hpa.later b15; replace hqa := hqa.later b15))
            | fail
          go_wp2
          go_ret
          exact ⟨by rw [← HC.out]; rfl, hB.trans (hBW.mono hB.size)⟩
    · skip
      have ea : faI a = -1 := if_neg na
      have Ea := hide' (fun w' => endOf_inf a w' ha (by omega))
      rw [ea] at Ea
      have U1 := hide' (fun w' s1 a1 n1 c1 b1 m1 d1 s2 a2 n2 c2 b2 m2 d2 => under_far 0 s1 a1 n1 c1 b1 m1 d1 (-1) s2 a2 n2 c2 b2 m2 d2 false w' (by decide) (by decide))
      have hlo : loB T (rn s0 X0 Y0) (rd Y0) a = false := by unfold loB; exact decide_eq_false (fun h => fa h.1)
      rw [hlo] at hc
      clear hlo ea
      by_cases fb : b % SB < FI
      · skip
        obtain ⟨Zb, Vb, gb⟩ := low_ex (fv b) (T : Int) hTn
        have pb := gb.pos
        obtain ⟨lb, mb⟩ := low_fl hz hT (by unfold fv; rw [am_sg]; exact amt_ln fb) gb
        have Eb := hide' (fun w' => endOf_num z T b Zb Vb w' hz hT hb fb gb)
        have hcmp2 := (low_cmp2 hT hD hL gb).2
        obtain ⟨C2, hC2⟩ : ∃ C, sgn (Zb * (V : Int) - Z * (Vb : Int)) = C := ⟨_, rfl⟩
        have U2 := hide' (fun w' p q p' q' k1 k2 k3 k4 => under_num Zb Z Vb V p q p' q' C2 w' (by omega) (by omega) (by omega) (by omega) pb hp k1 k2 k3 k4 hC2)
        have hhi : hiB T (rn s0 X0 Y0) (rd Y0) b = decide (C2 < 0) := by unfold hiB; rw [decide_eq_decide, ← hC2, hcmp2, sgn_lt0]; omega
        rw [hhi] at hc
        clear hC2 hcmp2 hhi
        clear hL hp hz hT hTn hD va vb na nb fa fb gb pb
        have HC := hide' hc
        clear hc
        go_enter Try.func24, Try.ntmps24
        go_wp2_with fail
        have q00 : (((w.alloc (.cells #[.bool s0, .slice a0 n0 c0, .slice b0 m0 d0] 27)).alloc (.cells #[.float .f64 a, .float .f64 b] 40))).cell? ⟨w.heap.size, 0, none⟩ = some (.bool s0) := by go_simp
        have q01 : (((w.alloc (.cells #[.bool s0, .slice a0 n0 c0, .slice b0 m0 d0] 27)).alloc (.cells #[.float .f64 a, .float .f64 b] 40))).cell? ⟨w.heap.size, 1, none⟩ = some (.slice a0 n0 c0) := by go_simp
        have q02 : (((w.alloc (.cells #[.bool s0, .slice a0 n0 c0, .slice b0 m0 d0] 27)).alloc (.cells #[.float .f64 a, .float .f64 b] 40))).cell? ⟨w.heap.size, 2, none⟩ = some (.slice b0 m0 d0) := by go_simp
        have q10 : (((w.alloc (.cells #[.bool s0, .slice a0 n0 c0, .slice b0 m0 d0] 27)).alloc (.cells #[.float .f64 a, .float .f64 b] 40))).cell? ⟨w.heap.size + 1, 0, none⟩ = some (.float .f64 a) := by go_simp
        have q11 : (((w.alloc (.cells #[.bool s0, .slice a0 n0 c0, .slice b0 m0 d0] 27)).alloc (.cells #[.float .f64 a, .float .f64 b] 40))).cell? ⟨w.heap.size + 1, 1, none⟩ = some (.float .f64 b) := by go_simp
        have hB : Below w.heap.size w (((w.alloc (.cells #[.bool s0, .slice a0 n0 c0, .slice b0 m0 d0] 27)).alloc (.cells #[.float .f64 a, .float .f64 b] 40))) := (((Below.refl _ _).alloc (by (try simp only [World.size_alloc]); omega) _).alloc (by (try simp only [World.size_alloc]); omega) _)
        have hz : (((w.alloc (.cells #[.bool s0, .slice a0 n0 c0, .slice b0 m0 d0] 27)).alloc (.cells #[.float .f64 a, .float .f64 b] 40))).heap.size = w.heap.size + 1 + 1 := by simp only [World.size_alloc]
        generalize ((w.alloc (.cells #[.bool s0, .slice a0 n0 c0, .slice b0 m0 d0] 27)).alloc (.cells #[.float .f64 a, .float .f64 b] 40)) = W at q00 q01 q02 q10 q11 hB hz ⊢
        have hBW : Below W.heap.size W W := Below.refl _ _
        refine (HM.out _ (sb hS0 hB hBW) (sb hT0 hB hBW)).mono ?_
        rintro e w5 ⟨p5, q5, rfl, hp5, hq5⟩
        have b5 := hp5.below
        replace hp5 := hp5.back hBW
        replace hq5 := hq5.back hBW
        replace hBW := hBW.trans (b5.mono hBW.size)
        replace q00 := below_cell b5 q00
        replace q01 := below_cell b5 q01
        replace q02 := below_cell b5 q02
        replace q10 := below_cell b5 q10
        replace q11 := below_cell b5 q11
        have hsz5 := hBW.size
        have l500 : ((w5.alloc (.cells #[.int .i64 0, .bool (ng Z), .slice p5 (ln (am Z)) (ln (am Z)), .slice q5 (ln V) (ln V)] 62))).cell? ⟨w5.heap.size, 0, none⟩ = some (.int .i64 0) := by go_simp
        have l501 : ((w5.alloc (.cells #[.int .i64 0, .bool (ng Z), .slice p5 (ln (am Z)) (ln (am Z)), .slice q5 (ln V) (ln V)] 62))).cell? ⟨w5.heap.size, 1, none⟩ = some (.bool (ng Z)) := by go_simp
        have l502 : ((w5.alloc (.cells #[.int .i64 0, .bool (ng Z), .slice p5 (ln (am Z)) (ln (am Z)), .slice q5 (ln V) (ln V)] 62))).cell? ⟨w5.heap.size, 2, none⟩ = some (.slice p5 (ln (am Z)) (ln (am Z))) := by go_simp
        have l503 : ((w5.alloc (.cells #[.int .i64 0, .bool (ng Z), .slice p5 (ln (am Z)) (ln (am Z)), .slice q5 (ln V) (ln V)] 62))).cell? ⟨w5.heap.size, 3, none⟩ = some (.slice q5 (ln V) (ln V)) := by go_simp
        have cb5 : Below w5.heap.size w5 ((w5.alloc (.cells #[.int .i64 0, .bool (ng Z), .slice p5 (ln (am Z)) (ln (am Z)), .slice q5 (ln V) (ln V)] 62))) := ((Below.refl _ _).alloc (by (try simp only [World.size_alloc]); omega) _)
        replace hBW := hBW.trans (cb5.mono hBW.size)
        replace q00 := below_cell cb5 q00
        replace q01 := below_cell cb5 q01
        replace q02 := below_cell cb5 q02
        replace q10 := below_cell cb5 q10
        replace q11 := below_cell cb5 q11
        replace hp5 := hp5.later cb5
        replace hq5 := hq5.later cb5
        have hL50 : Row ((w5.alloc (.cells #[.int .i64 0, .bool (ng Z), .slice p5 (ln (am Z)) (ln (am Z)), .slice q5 (ln V) (ln V)] 62))) (w5.heap.size) := by
          have := row_new (w5) #[.int .i64 0, .bool (ng Z), .slice p5 (ln (am Z)) (ln (am Z)), .slice q5 (ln V) (ln V)] 62
          try simp only [World.size_alloc] at this
          exact this
        go_wp2_with fail
        generalize (w5.alloc (.cells #[.int .i64 0, .bool (ng Z), .slice p5 (ln (am Z)) (ln (am Z)), .slice q5 (ln V) (ln V)] 62)) = w5x at q00 q01 q02 q10 q11 l500 l501 l502 l503 hL50 hp5 hq5 hBW cb5 ⊢
        clear cb5
        replace hBW := hBW.drew
        replace hp5 := hp5.drew
        replace hq5 := hq5.drew
        first
          | go_region_held3 (fun w' => w'.cell? ⟨w.heap.size, 0, none⟩ = some (.bool s0) ∧ w'.cell? ⟨w.heap.size, 1, none⟩ = some (.slice a0 n0 c0) ∧ w'.cell? ⟨w.heap.size, 2, none⟩ = some (.slice b0 m0 d0) ∧ w'.cell? ⟨w.heap.size + 1, 0, none⟩ = some (.float .f64 a) ∧ w'.cell? ⟨w.heap.size + 1, 1, none⟩ = some (.float .f64 b) ∧ w'.cell? ⟨w5.heap.size, 0, none⟩ = some (.int .i64 0) ∧ w'.cell? ⟨w5.heap.size, 1, none⟩ = some (.bool (ng Z)) ∧ w'.cell? ⟨w5.heap.size, 2, none⟩ = some (.slice p5 (ln (am Z)) (ln (am Z))) ∧ w'.cell? ⟨w5.heap.size, 3, none⟩ = some (.slice q5 (ln V) (ln V)) ∧ Below w.heap.size w w')
              (first | exact ⟨q00, q01, q02, q10, q11, l500, l501, l502, l503, hB.trans (hBW.mono hB.size)⟩ | exact kp9 b11 (by assumption) | exact kp9 b12 (by assumption) | exact kp9 b13 (by assumption) | exact kp9 b14 (by assumption) | exact kp9 b15 (by assumption) | exact kp9 (below_alloc _) (by assumption))
              (first
                | (go_at_call 43; (fail_if_success clear b11); refine (HV.out _).mono ?_; rintro e w11 ⟨rfl, bb11⟩; have b11 := bb11; replace hBW := hBW.trans (b11.mono hBW.size); replace q00 := below_cell b11 q00; replace q01 := below_cell b11 q01; replace q02 := below_cell b11 q02; replace q10 := below_cell b11 q10; replace q11 := below_cell b11 q11; replace l500 := below_cell b11 l500; replace l501 := below_cell b11 l501; replace l502 := below_cell b11 l502; replace l503 := below_cell b11 l503; replace hL50 := below_row b11 hL50; replace hp5 := hp5.later b11; replace hq5 := hq5.later b11)
                | (go_at_call 45; go_at_call_of 45 (Value.float .f64 a); (fail_if_success clear b12); refine (Ea.out _).mono ?_; rintro e w12 ⟨rfl, bb12⟩; have b12 := bb12; replace hBW := hBW.trans (b12.mono hBW.size); replace q00 := below_cell b12 q00; replace q01 := below_cell b12 q01; replace q02 := below_cell b12 q02; replace q10 := below_cell b12 q10; replace q11 := below_cell b12 q11; replace l500 := below_cell b12 l500; replace l501 := below_cell b12 l501; replace l502 := below_cell b12 l502; replace l503 := below_cell b12 l503; replace hL50 := below_row b12 hL50; replace hp5 := hp5.later b12; replace hq5 := hq5.later b12)
                | (go_at_call 44; (fail_if_success clear b13); refine (U1.out _ _ _ _ _ _ _ _ _ _ _ _ _ _ _).mono ?_; rintro e w13 ⟨rfl, bb13⟩; have b13 := bb13; replace hBW := hBW.trans (b13.mono hBW.size); replace q00 := below_cell b13 q00; replace q01 := below_cell b13 q01; replace q02 := below_cell b13 q02; replace q10 := below_cell b13 q10; replace q11 := below_cell b13 q11; replace l500 := below_cell b13 l500; replace l501 := below_cell b13 l501; replace l502 := below_cell b13 l502; replace l503 := below_cell b13 l503; replace hL50 := below_row b13 hL50; replace hp5 := hp5.later b13; replace hq5 := hq5.later b13)
                | (go_at_call 45; go_at_call_of 45 (Value.float .f64 b); (fail_if_success clear b14); refine (Eb.out _).mono ?_; rintro e w14 ⟨pb, qb, rfl, hpb, hqb⟩; have b14 := hpb.below; replace hpb := hpb.back hBW; replace hqb := hqb.back hBW; replace hBW := hBW.trans (b14.mono hBW.size); replace q00 := below_cell b14 q00; replace q01 := below_cell b14 q01; replace q02 := below_cell b14 q02; replace q10 := below_cell b14 q10; replace q11 := below_cell b14 q11; replace l500 := below_cell b14 l500; replace l501 := below_cell b14 l501; replace l502 := below_cell b14 l502; replace l503 := below_cell b14 l503; replace hL50 := below_row b14 hL50; replace hp5 := hp5.later b14; replace hq5 := hq5.later b14)
                | (go_at_call 44; (fail_if_success clear b15); refine (U2.out _ _ _ _ _ hpb.seg hqb.seg hp5.seg hq5.seg).mono ?_; rintro e w15 ⟨rfl, bb15⟩; have b15 := bb15; replace hBW := hBW.trans (b15.mono hBW.size); replace q00 := below_cell b15 q00; replace q01 := below_cell b15 q01; replace q02 := below_cell b15 q02; replace q10 := below_cell b15 q10; replace q11 := below_cell b15 q11; replace l500 := below_cell b15 l500; replace l501 := below_cell b15 l501; replace l502 := below_cell b15 l502; replace l503 := below_cell b15 l503; replace hL50 := below_row b15 hL50; replace hp5 := hp5.later b15; replace hq5 := hq5.later b15; replace hpb := hpb.later b15; replace hqb := hqb.later b15))
          | fail
        go_wp2
        go_ret
        exact ⟨by rw [← HC.out]; rfl, hB.trans (hBW.mono hB.size)⟩
      · skip
        have eb : faI b = 1 := if_pos (inf_hi hb (by omega) nb)
        have Eb := hide' (fun w' => endOf_inf b w' hb (by omega))
        rw [eb] at Eb
        have U2 := hide' (fun w' s1 a1 n1 c1 b1 m1 d1 s2 a2 n2 c2 b2 m2 d2 => under_far 1 s1 a1 n1 c1 b1 m1 d1 0 s2 a2 n2 c2 b2 m2 d2 false w' (by decide) (by decide))
        have hhi : hiB T (rn s0 X0 Y0) (rd Y0) b = false := by unfold hiB; exact decide_eq_false (fun h => fb h.1)
        rw [hhi] at hc
        clear hhi eb
        clear hL hp hz hT hTn hD va vb na nb fa fb
        have HC := hide' hc
        clear hc
        go_enter Try.func24, Try.ntmps24
        go_wp2_with fail
        have q00 : (((w.alloc (.cells #[.bool s0, .slice a0 n0 c0, .slice b0 m0 d0] 27)).alloc (.cells #[.float .f64 a, .float .f64 b] 40))).cell? ⟨w.heap.size, 0, none⟩ = some (.bool s0) := by go_simp
        have q01 : (((w.alloc (.cells #[.bool s0, .slice a0 n0 c0, .slice b0 m0 d0] 27)).alloc (.cells #[.float .f64 a, .float .f64 b] 40))).cell? ⟨w.heap.size, 1, none⟩ = some (.slice a0 n0 c0) := by go_simp
        have q02 : (((w.alloc (.cells #[.bool s0, .slice a0 n0 c0, .slice b0 m0 d0] 27)).alloc (.cells #[.float .f64 a, .float .f64 b] 40))).cell? ⟨w.heap.size, 2, none⟩ = some (.slice b0 m0 d0) := by go_simp
        have q10 : (((w.alloc (.cells #[.bool s0, .slice a0 n0 c0, .slice b0 m0 d0] 27)).alloc (.cells #[.float .f64 a, .float .f64 b] 40))).cell? ⟨w.heap.size + 1, 0, none⟩ = some (.float .f64 a) := by go_simp
        have q11 : (((w.alloc (.cells #[.bool s0, .slice a0 n0 c0, .slice b0 m0 d0] 27)).alloc (.cells #[.float .f64 a, .float .f64 b] 40))).cell? ⟨w.heap.size + 1, 1, none⟩ = some (.float .f64 b) := by go_simp
        have hB : Below w.heap.size w (((w.alloc (.cells #[.bool s0, .slice a0 n0 c0, .slice b0 m0 d0] 27)).alloc (.cells #[.float .f64 a, .float .f64 b] 40))) := (((Below.refl _ _).alloc (by (try simp only [World.size_alloc]); omega) _).alloc (by (try simp only [World.size_alloc]); omega) _)
        have hz : (((w.alloc (.cells #[.bool s0, .slice a0 n0 c0, .slice b0 m0 d0] 27)).alloc (.cells #[.float .f64 a, .float .f64 b] 40))).heap.size = w.heap.size + 1 + 1 := by simp only [World.size_alloc]
        generalize ((w.alloc (.cells #[.bool s0, .slice a0 n0 c0, .slice b0 m0 d0] 27)).alloc (.cells #[.float .f64 a, .float .f64 b] 40)) = W at q00 q01 q02 q10 q11 hB hz ⊢
        have hBW : Below W.heap.size W W := Below.refl _ _
        refine (HM.out _ (sb hS0 hB hBW) (sb hT0 hB hBW)).mono ?_
        rintro e w5 ⟨p5, q5, rfl, hp5, hq5⟩
        have b5 := hp5.below
        replace hp5 := hp5.back hBW
        replace hq5 := hq5.back hBW
        replace hBW := hBW.trans (b5.mono hBW.size)
        replace q00 := below_cell b5 q00
        replace q01 := below_cell b5 q01
        replace q02 := below_cell b5 q02
        replace q10 := below_cell b5 q10
        replace q11 := below_cell b5 q11
        have hsz5 := hBW.size
        have l500 : ((w5.alloc (.cells #[.int .i64 0, .bool (ng Z), .slice p5 (ln (am Z)) (ln (am Z)), .slice q5 (ln V) (ln V)] 62))).cell? ⟨w5.heap.size, 0, none⟩ = some (.int .i64 0) := by go_simp
        have l501 : ((w5.alloc (.cells #[.int .i64 0, .bool (ng Z), .slice p5 (ln (am Z)) (ln (am Z)), .slice q5 (ln V) (ln V)] 62))).cell? ⟨w5.heap.size, 1, none⟩ = some (.bool (ng Z)) := by go_simp
        have l502 : ((w5.alloc (.cells #[.int .i64 0, .bool (ng Z), .slice p5 (ln (am Z)) (ln (am Z)), .slice q5 (ln V) (ln V)] 62))).cell? ⟨w5.heap.size, 2, none⟩ = some (.slice p5 (ln (am Z)) (ln (am Z))) := by go_simp
        have l503 : ((w5.alloc (.cells #[.int .i64 0, .bool (ng Z), .slice p5 (ln (am Z)) (ln (am Z)), .slice q5 (ln V) (ln V)] 62))).cell? ⟨w5.heap.size, 3, none⟩ = some (.slice q5 (ln V) (ln V)) := by go_simp
        have cb5 : Below w5.heap.size w5 ((w5.alloc (.cells #[.int .i64 0, .bool (ng Z), .slice p5 (ln (am Z)) (ln (am Z)), .slice q5 (ln V) (ln V)] 62))) := ((Below.refl _ _).alloc (by (try simp only [World.size_alloc]); omega) _)
        replace hBW := hBW.trans (cb5.mono hBW.size)
        replace q00 := below_cell cb5 q00
        replace q01 := below_cell cb5 q01
        replace q02 := below_cell cb5 q02
        replace q10 := below_cell cb5 q10
        replace q11 := below_cell cb5 q11
        replace hp5 := hp5.later cb5
        replace hq5 := hq5.later cb5
        have hL50 : Row ((w5.alloc (.cells #[.int .i64 0, .bool (ng Z), .slice p5 (ln (am Z)) (ln (am Z)), .slice q5 (ln V) (ln V)] 62))) (w5.heap.size) := by
          have := row_new (w5) #[.int .i64 0, .bool (ng Z), .slice p5 (ln (am Z)) (ln (am Z)), .slice q5 (ln V) (ln V)] 62
          try simp only [World.size_alloc] at this
          exact this
        go_wp2_with fail
        generalize (w5.alloc (.cells #[.int .i64 0, .bool (ng Z), .slice p5 (ln (am Z)) (ln (am Z)), .slice q5 (ln V) (ln V)] 62)) = w5x at q00 q01 q02 q10 q11 l500 l501 l502 l503 hL50 hp5 hq5 hBW cb5 ⊢
        clear cb5
        replace hBW := hBW.drew
        replace hp5 := hp5.drew
        replace hq5 := hq5.drew
        first
          | go_region_held3 (fun w' => w'.cell? ⟨w.heap.size, 0, none⟩ = some (.bool s0) ∧ w'.cell? ⟨w.heap.size, 1, none⟩ = some (.slice a0 n0 c0) ∧ w'.cell? ⟨w.heap.size, 2, none⟩ = some (.slice b0 m0 d0) ∧ w'.cell? ⟨w.heap.size + 1, 0, none⟩ = some (.float .f64 a) ∧ w'.cell? ⟨w.heap.size + 1, 1, none⟩ = some (.float .f64 b) ∧ w'.cell? ⟨w5.heap.size, 0, none⟩ = some (.int .i64 0) ∧ w'.cell? ⟨w5.heap.size, 1, none⟩ = some (.bool (ng Z)) ∧ w'.cell? ⟨w5.heap.size, 2, none⟩ = some (.slice p5 (ln (am Z)) (ln (am Z))) ∧ w'.cell? ⟨w5.heap.size, 3, none⟩ = some (.slice q5 (ln V) (ln V)) ∧ Below w.heap.size w w')
              (first | exact ⟨q00, q01, q02, q10, q11, l500, l501, l502, l503, hB.trans (hBW.mono hB.size)⟩ | exact kp9 b11 (by assumption) | exact kp9 b12 (by assumption) | exact kp9 b13 (by assumption) | exact kp9 b14 (by assumption) | exact kp9 b15 (by assumption) | exact kp9 (below_alloc _) (by assumption))
              (first
                | (go_at_call 43; (fail_if_success clear b11); refine (HV.out _).mono ?_; rintro e w11 ⟨rfl, bb11⟩; have b11 := bb11; replace hBW := hBW.trans (b11.mono hBW.size); replace q00 := below_cell b11 q00; replace q01 := below_cell b11 q01; replace q02 := below_cell b11 q02; replace q10 := below_cell b11 q10; replace q11 := below_cell b11 q11; replace l500 := below_cell b11 l500; replace l501 := below_cell b11 l501; replace l502 := below_cell b11 l502; replace l503 := below_cell b11 l503; replace hL50 := below_row b11 hL50; replace hp5 := hp5.later b11; replace hq5 := hq5.later b11)
                | (go_at_call 45; go_at_call_of 45 (Value.float .f64 a); (fail_if_success clear b12); refine (Ea.out _).mono ?_; rintro e w12 ⟨rfl, bb12⟩; have b12 := bb12; replace hBW := hBW.trans (b12.mono hBW.size); replace q00 := below_cell b12 q00; replace q01 := below_cell b12 q01; replace q02 := below_cell b12 q02; replace q10 := below_cell b12 q10; replace q11 := below_cell b12 q11; replace l500 := below_cell b12 l500; replace l501 := below_cell b12 l501; replace l502 := below_cell b12 l502; replace l503 := below_cell b12 l503; replace hL50 := below_row b12 hL50; replace hp5 := hp5.later b12; replace hq5 := hq5.later b12)
                | (go_at_call 44; (fail_if_success clear b13); refine (U1.out _ _ _ _ _ _ _ _ _ _ _ _ _ _ _).mono ?_; rintro e w13 ⟨rfl, bb13⟩; have b13 := bb13; replace hBW := hBW.trans (b13.mono hBW.size); replace q00 := below_cell b13 q00; replace q01 := below_cell b13 q01; replace q02 := below_cell b13 q02; replace q10 := below_cell b13 q10; replace q11 := below_cell b13 q11; replace l500 := below_cell b13 l500; replace l501 := below_cell b13 l501; replace l502 := below_cell b13 l502; replace l503 := below_cell b13 l503; replace hL50 := below_row b13 hL50; replace hp5 := hp5.later b13; replace hq5 := hq5.later b13)
                | (go_at_call 45; go_at_call_of 45 (Value.float .f64 b); (fail_if_success clear b14); refine (Eb.out _).mono ?_; rintro e w14 ⟨rfl, bb14⟩; have b14 := bb14; replace hBW := hBW.trans (b14.mono hBW.size); replace q00 := below_cell b14 q00; replace q01 := below_cell b14 q01; replace q02 := below_cell b14 q02; replace q10 := below_cell b14 q10; replace q11 := below_cell b14 q11; replace l500 := below_cell b14 l500; replace l501 := below_cell b14 l501; replace l502 := below_cell b14 l502; replace l503 := below_cell b14 l503; replace hL50 := below_row b14 hL50; replace hp5 := hp5.later b14; replace hq5 := hq5.later b14)
                | (go_at_call 44; (fail_if_success clear b15); refine (U2.out _ _ _ _ _ _ _ _ _ _ _ _ _ _ _).mono ?_; rintro e w15 ⟨rfl, bb15⟩; have b15 := bb15; replace hBW := hBW.trans (b15.mono hBW.size); replace q00 := below_cell b15 q00; replace q01 := below_cell b15 q01; replace q02 := below_cell b15 q02; replace q10 := below_cell b15 q10; replace q11 := below_cell b15 q11; replace l500 := below_cell b15 l500; replace l501 := below_cell b15 l501; replace l502 := below_cell b15 l502; replace l503 := below_cell b15 l503; replace hL50 := below_row b15 hL50; replace hp5 := hp5.later b15; replace hq5 := hq5.later b15))
          | fail
        go_wp2
        go_ret
        exact ⟨by rw [← HC.out]; rfl, hB.trans (hBW.mono hB.size)⟩
end Go.Proofs.Ytjofldgaefjapaa

namespace Go.Proofs.Ytjofldgaefjapaa.approxHas
open Go.ChangeShapes Go.WideShapes Go.ChangeAt Go.RowKit Go.Proofs.Ytjofldgaefjapaa
set_option linter.unusedVariables false

theorem fv_fB2 {s : Bool} {k : Nat} (h : k ≤ FI) : fv (fB s k) = sg s (amt k) := by
  unfold fv; rw [fB_neg h, fB_mod h]
theorem int_lt {a b c d : Nat} (h : a * b < c * d) : (a : Int) * (b : Int) < (c : Int) * (d : Int) := by
  have : ((a * b : Nat) : Int) < ((c * d : Nat) : Int) := by omega
  rwa [Int.natCast_mul, Int.natCast_mul] at this
theorem around_ne {T : Nat} {s : Bool} {X Y k : Nat} (C : Cut T (rN X Y) (rd Y) k) (hr : rst T (rN X Y) (rd Y) k ≠ 0) :
    fkey (upB T s X Y k) = fkey (downB T s X Y k) + 1 ∧ downB T s X Y k % SB ≤ FI ∧ upB T s X Y k % SB ≤ FI ∧
    (downB T s X Y k % SB < FI → fv (downB T s X Y k) * ((rd Y : Nat) : Int) < rn s X Y * (T : Int)) ∧ (upB T s X Y k % SB < FI → rn s X Y * (T : Int) < fv (upB T s X Y k) * ((rd Y : Nat) : Int)) ∧ downB T s X Y k ≠ FI ∧ upB T s X Y k ≠ SB + FI := by
  have hk := C.1
  have ha : am (rn s X Y) = rN X Y := rN_am s X Y
  have c1 := C.2.1
  have c2 := C.2.2
  have hne : rN X Y * T ≠ amt k * rd Y := fun h => hr (rst_zero.2 h)
  have e1 := FIv
  have e2 := SBv
  unfold downB upB
  generalize rn s X Y = A at ha
  generalize rN X Y = N at ha c1 c2 hne hr
  generalize rd Y = D at c1 c2 hne hr
  have i1 := int_lt (a := amt k) (b := D) (c := N) (d := T) (by omega)
  have i2 : k + 1 < FI → (N : Int) * (T : Int) < ((amt (k + 1) : Nat) : Int) * (D : Int) := fun h => int_lt (c2.resolve_left (by omega))
  by_cases hA : A < 0
  · have hAN : A = -(N : Int) := by unfold am at ha; omega
    simp only [hr, hA, decide_true, ne_eq, not_false_eq_true, not_true, and_true, and_false, if_true, if_false]
    refine ⟨?_, by rw [fB_mod (by omega)]; omega, by rw [fB_mod (by omega)]; omega, fun h => ?_, fun h => ?_, ?_, ?_⟩
    · rw [fkey_fB (by omega), fkey_fB (by omega)]; simp; omega
    · rw [fB_mod (by omega)] at h
      rw [fv_fB2 (by omega), hAN]
      have := i2 h
      simp only [sg, if_true, Int.neg_mul]; omega
    · rw [fv_fB2 (by omega), hAN]
      simp only [sg, if_true, Int.neg_mul]; omega
    · unfold fB; simp; omega
    · unfold fB; simp; omega
  · have hAN : A = (N : Int) := by unfold am at ha; omega
    simp only [hr, hA, decide_false, ne_eq, not_false_eq_true, and_true, and_false, if_true, if_false]
    refine ⟨?_, by rw [fB_mod (by omega)]; omega, by rw [fB_mod (by omega)]; omega, fun h => ?_, fun h => ?_, ?_, ?_⟩
    · rw [fkey_fB (by omega), fkey_fB (by omega)]; simp
    · rw [fv_fB2 (by omega), hAN]
      simp only [sg, Bool.false_eq_true, if_false]; omega
    · rw [fB_mod (by omega)] at h
      rw [fv_fB2 (by omega), hAN]
      have := i2 h
      simp only [sg, Bool.false_eq_true, if_false]; omega
    · unfold fB; simp; omega
    · unfold fB; simp; omega
theorem around_eq {T : Nat} {s : Bool} {X Y k : Nat} (C : Cut T (rN X Y) (rd Y) k) (hr : rst T (rN X Y) (rd Y) k = 0) :
    upB T s X Y k = downB T s X Y k ∧ downB T s X Y k % SB < FI ∧ fv (downB T s X Y k) * ((rd Y : Nat) : Int) = rn s X Y * (T : Int) := by
  have hk := C.1
  have ha : am (rn s X Y) = rN X Y := rN_am s X Y
  have he := rst_zero.1 hr
  unfold downB upB
  simp only [hr, ne_eq, not_true, false_and, if_false]
  refine ⟨trivial, by rw [fB_mod (by omega)]; exact hk, ?_⟩
  rw [fv_fB2 (by omega)]
  generalize rn s X Y = A at ha
  generalize rN X Y = N at ha he
  generalize rd Y = D at he
  have hi : (N : Int) * (T : Int) = ((amt k : Nat) : Int) * (D : Int) := by
    have : ((N * T : Nat) : Int) = ((amt k * D : Nat) : Int) := by omega
    rwa [Int.natCast_mul, Int.natCast_mul] at this
  by_cases hA : A < 0
  · have hAN : A = -(N : Int) := by unfold am at ha; omega
    rw [decide_eq_true hA, hAN]
    simp only [sg, if_true, Int.neg_mul]; omega
  · have hAN : A = (N : Int) := by unfold am at ha; omega
    rw [decide_eq_false hA, hAN]
    simp only [sg, Bool.false_eq_true, if_false]; omega
theorem key_fin {b : Nat} (h : b % SB < FI) : -(FI : Int) < fkey b ∧ fkey b < FI := by
  unfold fkey; split <;> omega
theorem key_inf {b : Nat} (hb : b < 18446744073709551616) (h : b % SB = FI) : (b = FI → fkey b = (FI : Int)) ∧ (b ≠ FI → fkey b = -(FI : Int)) := by
  constructor
  · intro h2; rw [h2]; rfl
  · intro h2; rw [inf_lo hb h h2]; rfl
theorem mul_le' {a b D : Int} (hD : 0 < D) (h : a ≤ b) : a * D ≤ b * D := Int.mul_le_mul_of_nonneg_right h (by omega)
theorem lo_iff {T : Nat} {s : Bool} {X Y k a : Nat} (C : Cut T (rN X Y) (rd Y) k) (ha : a < 18446744073709551616) (h1 : a % SB ≤ FI) (h2 : a ≠ FI) : decide (fkey a ≤ fkey (downB T s X Y k)) = !(loB T (rn s X Y) (rd Y) a) := by
  have hD : (0 : Int) < ((rd Y : Nat) : Int) := by have := rd_pos Y; omega
  have hdl : downB T s X Y k < 18446744073709551616 := fB_lt (if_le C.1)
  unfold loB
  rw [← decide_not, decide_eq_decide]
  by_cases hr : rst T (rN X Y) (rd Y) k = 0
  · obtain ⟨e1, e2, e3⟩ := around_eq (s := s) C hr
    by_cases fa : a % SB < FI
    · constructor
      · rintro h ⟨_, g⟩
        have hh : ¬ fv (downB T s X Y k) < fv a := fun g => by have := fv_lt.1 g; omega
        have := mul_le' hD (show fv a ≤ fv (downB T s X Y k) by omega)
        omega
      · intro h
        refine Int.le_of_not_gt fun g => h ⟨fa, ?_⟩
        have := Int.mul_lt_mul_of_pos_right (fv_lt.2 g) hD
        omega
    · have k1 := (key_inf ha (by omega)).2 h2
      have k2 := key_fin e2
      exact ⟨fun _ g => fa g.1, fun _ => by omega⟩
  · obtain ⟨e1, e2, e3, e4, e5, e6, e7⟩ := around_ne (s := s) C hr
    by_cases fa : a % SB < FI
    · have k1 := key_fin fa
      constructor
      · rintro h ⟨_, g⟩
        have fd : downB T s X Y k % SB < FI := by
          refine Nat.lt_of_le_of_ne e2 fun e => ?_
          have := (key_inf hdl e).2 e6
          omega
        have hh : ¬ fv (downB T s X Y k) < fv a := fun g => by have := fv_lt.1 g; omega
        have := mul_le' hD (show fv a ≤ fv (downB T s X Y k) by omega)
        have := e4 fd
        omega
      · intro h
        refine Int.le_of_not_gt fun g => h ⟨fa, ?_⟩
        have fu : upB T s X Y k % SB < FI := by
          refine Nat.lt_of_le_of_ne e3 fun e => ?_
          have hul : upB T s X Y k < 18446744073709551616 := fB_lt (if_le C.1)
          have := (key_inf hul e).1 (inf_hi hul e e7)
          omega
        have hh : ¬ fv a < fv (upB T s X Y k) := fun g => by have := fv_lt.1 g; omega
        have := mul_le' hD (show fv (upB T s X Y k) ≤ fv a by omega)
        have := e5 fu
        omega
    · have k1 := (key_inf ha (by omega)).2 h2
      have k2 := key_rng e2
      exact ⟨fun _ g => fa g.1, fun _ => by omega⟩
theorem hi_iff {T : Nat} {s : Bool} {X Y k b : Nat} (C : Cut T (rN X Y) (rd Y) k) (hb : b < 18446744073709551616) (h1 : b % SB ≤ FI) (h2 : b ≠ SB + FI) : decide (fkey (upB T s X Y k) ≤ fkey b) = !(hiB T (rn s X Y) (rd Y) b) := by
  have hD : (0 : Int) < ((rd Y : Nat) : Int) := by have := rd_pos Y; omega
  have hul : upB T s X Y k < 18446744073709551616 := fB_lt (if_le C.1)
  have hdl : downB T s X Y k < 18446744073709551616 := fB_lt (if_le C.1)
  unfold hiB
  rw [← decide_not, decide_eq_decide]
  by_cases hr : rst T (rN X Y) (rd Y) k = 0
  · obtain ⟨e1, e2, e3⟩ := around_eq (s := s) C hr
    rw [e1]
    by_cases fb : b % SB < FI
    · constructor
      · rintro h ⟨_, g⟩
        have hh : ¬ fv b < fv (downB T s X Y k) := fun g => by have := fv_lt.1 g; omega
        have := mul_le' hD (show fv (downB T s X Y k) ≤ fv b by omega)
        omega
      · intro h
        refine Int.le_of_not_gt fun g => h ⟨fb, ?_⟩
        have := Int.mul_lt_mul_of_pos_right (fv_lt.2 g) hD
        omega
    · have k1 := (key_inf hb (by omega)).1 (inf_hi hb (by omega) h2)
      have k2 := key_fin e2
      exact ⟨fun _ g => fb g.1, fun _ => by omega⟩
  · obtain ⟨e1, e2, e3, e4, e5, e6, e7⟩ := around_ne (s := s) C hr
    by_cases fb : b % SB < FI
    · have k1 := key_fin fb
      constructor
      · rintro h ⟨_, g⟩
        have fu : upB T s X Y k % SB < FI := by
          refine Nat.lt_of_le_of_ne e3 fun e => ?_
          have := (key_inf hul e).1 (inf_hi hul e e7)
          omega
        have hh : ¬ fv b < fv (upB T s X Y k) := fun g => by have := fv_lt.1 g; omega
        have := mul_le' hD (show fv (upB T s X Y k) ≤ fv b by omega)
        have := e5 fu
        omega
      · intro h
        refine Int.le_of_not_gt fun g => h ⟨fb, ?_⟩
        have fd : downB T s X Y k % SB < FI := by
          refine Nat.lt_of_le_of_ne e2 fun e => ?_
          have := (key_inf hdl e).2 e6
          omega
        have hh : ¬ fv (downB T s X Y k) < fv b := fun g => by have := fv_lt.1 g; omega
        have := mul_le' hD (show fv b ≤ fv (downB T s X Y k) by omega)
        have := e4 fd
        omega
    · have k1 := (key_inf hb (by omega)).1 (inf_hi hb (by omega) h2)
      have k2 := key_rng e3
      exact ⟨fun _ g => fb g.1, fun _ => by omega⟩
theorem in_same {T : Nat} {s : Bool} {X Y k a b : Nat} (C : Cut T (rN X Y) (rd Y) k) (ha : a < 18446744073709551616) (hb : b < 18446744073709551616) :
    (vaB a b && (decide (fkey a ≤ fkey (downB T s X Y k)) && decide (fkey (upB T s X Y k) ≤ fkey b))) = inB T (rn s X Y) (rd Y) a b := by
  unfold inB
  by_cases hv : vaB a b = true
  · rw [hv]
    unfold vaB at hv
    rw [decide_eq_true_iff] at hv
    rw [lo_iff C ha hv.1 hv.2.2.2.1, hi_iff C hb hv.2.1 hv.2.2.2.2]
  · rw [Bool.eq_false_iff.2 hv]; rfl
theorem own_va {T : Nat} {s : Bool} {X Y k : Nat} (C : Cut T (rN X Y) (rd Y) k) : vaB (downB T s X Y k) (upB T s X Y k) = true := by
  unfold vaB
  rw [decide_eq_true_iff]
  by_cases hr : rst T (rN X Y) (rd Y) k = 0
  · obtain ⟨e1, e2, e3⟩ := around_eq (s := s) C hr
    rw [e1]
    refine ⟨by omega, by omega, Int.le_refl _, fun h => ?_, fun h => ?_⟩
    · rw [h] at e2; exact absurd e2 (by decide)
    · rw [h] at e2; exact absurd e2 (by decide)
  · obtain ⟨e1, e2, e3, e4, e5, e6, e7⟩ := around_ne (s := s) C hr
    exact ⟨e2, e3, by omega, e6, e7⟩

set_option maxHeartbeats 8000000 in
set_option maxRecDepth 100000 in
theorem walk (s0 : Bool) (a0 : Option Addr) (n0 c0 X0 : Nat) (b0 : Option Addr) (m0 d0 Y0 : Nat) (a b : Nat) (w : World) (hc0 : n0 ≤ c0) (hm0 : n0 ≤ 1048576) (hS0 : Seg w a0 X0 n0) (hd0 : m0 ≤ d0) (hk0 : m0 ≤ 1048576) (hT0 : Seg w b0 Y0 m0) (ha : a < 18446744073709551616) (hb : b < 18446744073709551616) :
    Calls Try.prog 5 #[Value.agg #[Value.bool s0, Value.slice a0 n0 c0, Value.slice b0 m0 d0], Value.agg #[Value.float .f64 a, Value.float .f64 b]] w fun e w' => e = .returned (.bool true) ∧ Below w.heap.size w w' := by
  obtain ⟨z, hz⟩ : ∃ z : Nat, z = 1074 := ⟨_, rfl⟩
  obtain ⟨T, hT⟩ : ∃ T : Nat, T = 2 ^ z := ⟨_, rfl⟩
  have H1 := hide' (fun w' k1 k2 => around_is s0 a0 n0 c0 X0 b0 m0 d0 Y0 z T w' hc0 (by omega) k1 hd0 (by omega) k2 hz hT)
  have H2 := hide' (fun w' k1 k2 => varound_is s0 a0 n0 c0 X0 b0 m0 d0 Y0 z T w' hc0 (by omega) k1 hd0 (by omega) k2 hz hT)
  have H3 := hide' (fun w' k1 k2 => In_is s0 a0 n0 c0 X0 b0 m0 d0 Y0 a b z T w' hc0 (by omega) k1 hd0 (by omega) k2 hz hT ha hb)
  obtain ⟨c, hc⟩ : ∃ c, inB T (rn s0 X0 Y0) (rd Y0) a b = c := ⟨_, rfl⟩
  have H4 := hide' (fun w' k1 k2 => vIn_is s0 a0 n0 c0 X0 b0 m0 d0 Y0 a b z T c w' hc0 (by omega) k1 hd0 (by omega) k2 hz hT ha hb hc)
  have HX : Hid (∀ k, Cut T (rN X0 Y0) (rd Y0) k → (vaB a b && (decide (fkey a ≤ fkey (downB T s0 X0 Y0 k)) && decide (fkey (upB T s0 X0 Y0 k) ≤ fkey b))) = c) := fun k C => by rw [in_same C ha hb, hc]
  have H5 := hide' (fun w' d u (hd : d < 18446744073709551616) (hu : u < 18446744073709551616) k1 k2 => In_is s0 a0 n0 c0 X0 b0 m0 d0 Y0 d u z T w' hc0 (by omega) k1 hd0 (by omega) k2 hz hT hd hu)
  have hsf := store_float
  clear hc hz hT
  go_enter Try.func5, Try.ntmps5
  go_wp2_with fail
  have q00 : (((w.alloc (.cells #[.bool s0, .slice a0 n0 c0, .slice b0 m0 d0] 27)).alloc (.cells #[.float .f64 a, .float .f64 b] 40))).cell? ⟨w.heap.size, 0, none⟩ = some (.bool s0) := by go_simp
  have q01 : (((w.alloc (.cells #[.bool s0, .slice a0 n0 c0, .slice b0 m0 d0] 27)).alloc (.cells #[.float .f64 a, .float .f64 b] 40))).cell? ⟨w.heap.size, 1, none⟩ = some (.slice a0 n0 c0) := by go_simp
  have q02 : (((w.alloc (.cells #[.bool s0, .slice a0 n0 c0, .slice b0 m0 d0] 27)).alloc (.cells #[.float .f64 a, .float .f64 b] 40))).cell? ⟨w.heap.size, 2, none⟩ = some (.slice b0 m0 d0) := by go_simp
  have q10 : (((w.alloc (.cells #[.bool s0, .slice a0 n0 c0, .slice b0 m0 d0] 27)).alloc (.cells #[.float .f64 a, .float .f64 b] 40))).cell? ⟨w.heap.size + 1, 0, none⟩ = some (.float .f64 a) := by go_simp
  have q11 : (((w.alloc (.cells #[.bool s0, .slice a0 n0 c0, .slice b0 m0 d0] 27)).alloc (.cells #[.float .f64 a, .float .f64 b] 40))).cell? ⟨w.heap.size + 1, 1, none⟩ = some (.float .f64 b) := by go_simp
  have hB : Below w.heap.size w (((w.alloc (.cells #[.bool s0, .slice a0 n0 c0, .slice b0 m0 d0] 27)).alloc (.cells #[.float .f64 a, .float .f64 b] 40))) := (((Below.refl _ _).alloc (by (try simp only [World.size_alloc]); omega) _).alloc (by (try simp only [World.size_alloc]); omega) _)
  have hz : (((w.alloc (.cells #[.bool s0, .slice a0 n0 c0, .slice b0 m0 d0] 27)).alloc (.cells #[.float .f64 a, .float .f64 b] 40))).heap.size = w.heap.size + 1 + 1 := by simp only [World.size_alloc]
  generalize ((w.alloc (.cells #[.bool s0, .slice a0 n0 c0, .slice b0 m0 d0] 27)).alloc (.cells #[.float .f64 a, .float .f64 b] 40)) = W at q00 q01 q02 q10 q11 hB hz ⊢
  have hBW : Below W.heap.size W W := Below.refl _ _
  refine (H1.out _ (sb hS0 hB hBW) (sb hT0 hB hBW)).mono ?_
  rintro e w5 ⟨k, rfl, hC, bb5⟩
  have b5 := bb5
  replace hBW := hBW.trans (b5.mono hBW.size)
  replace q00 := below_cell b5 q00
  replace q01 := below_cell b5 q01
  replace q02 := below_cell b5 q02
  replace q10 := below_cell b5 q10
  replace q11 := below_cell b5 q11
  have HV2 := hide' (own_va (s := s0) hC)
  have hd6 : downB T s0 X0 Y0 k < 18446744073709551616 := fB_lt (if_le hC.1)
  have hu6 : upB T s0 X0 Y0 k < 18446744073709551616 := fB_lt (if_le hC.1)
  have HU2 : Hid (∀ k2, Cut T (rN X0 Y0) (rd Y0) k2 → downB T s0 X0 Y0 k2 = downB T s0 X0 Y0 k ∧ upB T s0 X0 Y0 k2 = upB T s0 X0 Y0 k) := fun k2 C2 => by obtain rfl := hC.uniq C2; exact ⟨rfl, rfl⟩
  have HX2 := hide' (HX.out k hC)
  clear hC HX H1
  generalize downB T s0 X0 Y0 k = d at *
  generalize upB T s0 X0 Y0 k = u at *
  have hsz5 := hBW.size
  have l500 : ((w5.alloc (.cells #[.float .f64 d, .float .f64 u] 40))).cell? ⟨w5.heap.size, 0, none⟩ = some (.float .f64 d) := by go_simp
  have l501 : ((w5.alloc (.cells #[.float .f64 d, .float .f64 u] 40))).cell? ⟨w5.heap.size, 1, none⟩ = some (.float .f64 u) := by go_simp
  have cb5 : Below w5.heap.size w5 ((w5.alloc (.cells #[.float .f64 d, .float .f64 u] 40))) := ((Below.refl _ _).alloc (by (try simp only [World.size_alloc]); omega) _)
  replace hBW := hBW.trans (cb5.mono hBW.size)
  replace q00 := below_cell cb5 q00
  replace q01 := below_cell cb5 q01
  replace q02 := below_cell cb5 q02
  replace q10 := below_cell cb5 q10
  replace q11 := below_cell cb5 q11
  have hL50 : Row ((w5.alloc (.cells #[.float .f64 d, .float .f64 u] 40))) (w5.heap.size) := by
    have := row_new (w5) #[.float .f64 d, .float .f64 u] 40
    try simp only [World.size_alloc] at this
    exact this
  go_wp2_with fail
  generalize (w5.alloc (.cells #[.float .f64 d, .float .f64 u] 40)) = w5x at q00 q01 q02 q10 q11 l500 l501 hL50 hBW cb5 ⊢
  clear cb5
  replace hBW := hBW.drew
  first
    | go_region_held3 (fun w' => w'.cell? ⟨w.heap.size, 0, none⟩ = some (.bool s0) ∧ w'.cell? ⟨w.heap.size, 1, none⟩ = some (.slice a0 n0 c0) ∧ w'.cell? ⟨w.heap.size, 2, none⟩ = some (.slice b0 m0 d0) ∧ w'.cell? ⟨w.heap.size + 1, 0, none⟩ = some (.float .f64 a) ∧ w'.cell? ⟨w.heap.size + 1, 1, none⟩ = some (.float .f64 b) ∧ w'.cell? ⟨w5.heap.size, 0, none⟩ = some (.float .f64 d) ∧ w'.cell? ⟨w5.heap.size, 1, none⟩ = some (.float .f64 u) ∧ Below w.heap.size w w')
        (first | exact ⟨q00, q01, q02, q10, q11, l500, l501, hB.trans (hBW.mono hB.size)⟩ | exact kp7 b11 (by assumption) | exact kp7 b12 (by assumption) | exact kp7 b13 (by assumption) | exact kp7 b14 (by assumption) | exact kp7 (below_alloc _) (by assumption))
        (first
          | (go_at_call 22; (fail_if_success clear b11); refine (H2.out _ (sb hS0 hB hBW) (sb hT0 hB hBW)).mono ?_; rintro e w11 ⟨k2, rfl, hC2, bb11⟩; have b11 := bb11; replace hBW := hBW.trans (b11.mono hBW.size); replace q00 := below_cell b11 q00; replace q01 := below_cell b11 q01; replace q02 := below_cell b11 q02; replace q10 := below_cell b11 q10; replace q11 := below_cell b11 q11; replace l500 := below_cell b11 l500; replace l501 := below_cell b11 l501; replace hL50 := below_row b11 hL50; rw [(HU2.out k2 hC2).1, (HU2.out k2 hC2).2])
          | (go_at_call 21; (fail_if_success clear b12); refine (sameSpan_self _ _ _).mono ?_; rintro e w12 ⟨rfl, bb12⟩; have b12 := bb12; replace hBW := hBW.trans (b12.mono hBW.size); replace q00 := below_cell b12 q00; replace q01 := below_cell b12 q01; replace q02 := below_cell b12 q02; replace q10 := below_cell b12 q10; replace q11 := below_cell b12 q11; replace l500 := below_cell b12 l500; replace l501 := below_cell b12 l501; replace hL50 := below_row b12 hL50)
          | (go_at_call 23; (fail_if_success clear b13); refine (H3.out _ (sb hS0 hB hBW) (sb hT0 hB hBW)).mono ?_; rintro e w13 ⟨k3, rfl, hC3, bb13⟩; have b13 := bb13; replace hBW := hBW.trans (b13.mono hBW.size); replace q00 := below_cell b13 q00; replace q01 := below_cell b13 q01; replace q02 := below_cell b13 q02; replace q10 := below_cell b13 q10; replace q11 := below_cell b13 q11; replace l500 := below_cell b13 l500; replace l501 := below_cell b13 l501; replace hL50 := below_row b13 hL50; rw [(HU2.out k3 hC3).1, (HU2.out k3 hC3).2, HX2.out])
          | (go_at_call 24; (fail_if_success clear b14); refine (H4.out _ (sb hS0 hB hBW) (sb hT0 hB hBW)).mono ?_; rintro e w14 ⟨rfl, bb14⟩; have b14 := bb14; replace hBW := hBW.trans (b14.mono hBW.size); replace q00 := below_cell b14 q00; replace q01 := below_cell b14 q01; replace q02 := below_cell b14 q02; replace q10 := below_cell b14 q10; replace q11 := below_cell b14 q11; replace l500 := below_cell b14 l500; replace l501 := below_cell b14 l501; replace hL50 := below_row b14 hL50))
    | fail
  go_wp2_with fail
  refine (H5.out _ d u hd6 hu6 (sb hS0 hB hBW) (sb hT0 hB hBW)).mono ?_
  rintro e w21 ⟨k5, rfl, hC5, bb21⟩
  have b21 := bb21
  replace hBW := hBW.trans (b21.mono hBW.size)
  replace q00 := below_cell b21 q00
  replace q01 := below_cell b21 q01
  replace q02 := below_cell b21 q02
  replace q10 := below_cell b21 q10
  replace q11 := below_cell b21 q11
  replace l500 := below_cell b21 l500
  replace l501 := below_cell b21 l501
  replace hL50 := below_row b21 hL50
  rw [(HU2.out k5 hC5).1, (HU2.out k5 hC5).2, HV2.out, decide_eq_true (Int.le_refl _), decide_eq_true (Int.le_refl _)]
  go_wp2_with fail
  refine (Valid_is d u true _ hd6 hu6 HV2.out).mono ?_
  rintro e w22 ⟨rfl, b22⟩
  replace hBW := hBW.trans (b22.mono hBW.size)
  replace q00 := below_cell b22 q00
  replace q01 := below_cell b22 q01
  replace q02 := below_cell b22 q02
  replace q10 := below_cell b22 q10
  replace q11 := below_cell b22 q11
  replace l500 := below_cell b22 l500
  replace l501 := below_cell b22 l501
  replace hL50 := below_row b22 hL50
  go_wp2
  go_ret
  exact ⟨rfl, hB.trans (hBW.mono hB.size)⟩

set_option maxRecDepth 100000 in
theorem contract (H : Type) (enc : TypeId × Value → H) (W : World) (base : Nat) (args : Array Value) (ds gs : List (DataW H)) (before : List MemPlace)
    (hval : ∀ (j : Nat) t v, Try.f5.params[j]? = some t → args[j]? = some v → Value.okWide Try.prog W .any base t v)
    (hW : DataW.Whole enc Try.prog Try.f5.params.toList Rows.approxHasSpec.vars false W args.toList ds gs before)
    (hsz : (DataW.weightsEach Try.prog (Try.f5.params.toList ++ Rows.approxHasSpec.plain.varTypes Try.prog) (ds ++ gs)).all (· ≤ reachBytes) = true) (hk : Rows.uptoSmall H (ds ++ gs) = true) :
    Calls Try.prog 5 args W fun e W' => ∃ v, e = .returned v ∧ Rows.approxHasSpec.post enc Try.prog Try.f5 false true false false W args v W' := by
  have hW' := hW
  obtain ⟨p, q, hA0, hV, rfl, hfz, hnd⟩ := hW
  have hA : DataW.TrodAll enc Try.prog W 0 (fun _ => true) true Try.f5.params.toList args.toList ds p := hA0
  rw [Try.params5] at hA hval hsz
  obtain ⟨v0, vs0, d0, ds0, p0, q0, hargs, rfl, rfl, h0, r0⟩ := trodAll_cons hA
  obtain ⟨v1, vs1, d1, ds1, p1, q1, rfl, rfl, rfl, h1, r1⟩ := trodAll_cons r0
  obtain ⟨rfl, rfl, rfl⟩ := trodAll_nil r1
  obtain rfl : args = #[v0, v1] := by cases args; simp_all
  obtain ⟨rfl, rfl⟩ := trodVars_none hV
  have lt0 : ∀ x ∈ p0, x.block < W.heap.size := by obtain ⟨m, hm⟩ := h0; exact DataW.trod_lt m _ _ _ hm
  obtain ⟨rs0, ra0, rn0, rc0, rX0, rb0, rm0, re0, rY0, rfl, hS0, hc0, hb0, hT0, hd0, hk0, hu0, hv0⟩ := open_Rat (hval 0 27 v0 rfl rfl) h0 (sized_at 0 hsz rfl rfl)
  have lt1 : ∀ x ∈ p1, x.block < W.heap.size := by obtain ⟨m, hm⟩ := h1; exact DataW.trod_lt m _ _ _ hm
  obtain ⟨fa1, fb1, rfl, hfa1, hfb1⟩ := open_Span (hval 1 40 v1 rfl rfl) h1
  clear hA0
  have hbulk := of_decide_eq_true hk
  simp only [List.append_nil, Rows.uptoBulkAll] at hbulk
  replace hb0 : rn0 ≤ 1048576 := by omega
  replace hk0 : rm0 ≤ 1048576 := by omega
  simp only [List.append_nil] at hW'
  refine (walk rs0 ra0 rn0 rc0 rX0 rb0 rm0 re0 rY0 fa1 fb1 W hc0 hb0 hS0 hd0 hk0 hT0 hfa1 hfb1).mono fun e W' ⟨he, bel⟩ => ?_
  subst he
  exact ⟨_, rfl, _, _, _, [], _, [], hW', trodAll_mk1 (shut_bool Try.underlying4 _), (trodAll_cons_mk (Below.trod laidOut (by kernel_rfl) (of_decide_eq_true (by kernel_rfl)) h0 bel lt0) (trodAll_cons_mk (Below.trod laidOut (by kernel_rfl) (of_decide_eq_true (by kernel_rfl)) h1 bel lt1) trodAll_mk0)), rfl, bel.frame _, fun h => by cases h⟩

set_option maxRecDepth 100000 in
theorem lifted (os : Os) (started : os.Started) (H : Type) (enc : TypeId × Value → H) (F : Stop.Interp) :
    ReturnsInHanded {} Try.checked os 5 .any ((Rows.OpenSpec.upto Rows.approxHasSpec).pre6 enc Try.prog Try.f5 Rows.approxHasUptoRow.domain false) (((Rows.OpenSpec.upto Rows.approxHasSpec).at F).post enc Try.prog Try.f5 false true false false) := by
  refine returnsInHanded_of_cond_sized (C := Try.checked) (s := Rows.OpenSpec.upto Rows.approxHasSpec) (k := Rows.uptoSmall) rfl own started (by kernel_rfl) Try.func5
    (OpenSpec.witness (enc := enc) (C := Try.checked) (s := Rows.OpenSpec.upto Rows.approxHasSpec) (k := Rows.uptoSmall) rfl false ⟨#[], #[.agg #[.bool false, .slice none 0 0, .slice none 0 0], .agg #[.float .f64 0, .float .f64 0]], []⟩ 8 (by kernel_rfl) (by kernel_rfl) (by kernel_rfl)
      (x := ([.agg [.agg [.lit (.bool false), .nil], .nil], .agg [.lit (.float .f64 0), .lit (.float .f64 0)]], [], [])) (by kernel_rfl) rfl (by kernel_rfl)) ?_
  intro W base args ds gs before hval hW _ hk hsz _
  exact contract H enc W base args ds gs before hval hW hsz hk

theorem over : Rows.approxHasUptoRow.holds Try.pinned (Rows.OpenSpec.upto Rows.approxHasSpec) :=
  OpenClaim.holds_of_cond 5 Try.f5 rfl rfl rfl rfl rfl rfl rfl ⟨rfl, rfl, rfl, rfl, rfl⟩ rfl rfl rfl rfl rfl (by kernel_rfl) Try.func5 (by kernel_rfl)
    (of_decide_eq_true (by kernel_rfl)) (by unfold Func.isWrapper; first | (rw [if_pos (by decide +kernel)]; kernel_rfl) | (rw [if_neg (by decide +kernel)]; exact ⟨rfl, rfl⟩))
    (fun os started H enc _ F => lifted os started H enc F)

end Go.Proofs.Ytjofldgaefjapaa.approxHas
namespace Go.Proofs.Ytjofldgaefjapaa
theorem approxHas_holds : Rows.ApproxHasUptoSaid := approxHas.over
#print axioms approxHas_holds
end Go.Proofs.Ytjofldgaefjapaa
