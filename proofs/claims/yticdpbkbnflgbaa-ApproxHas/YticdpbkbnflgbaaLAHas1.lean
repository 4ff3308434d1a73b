/-
  ApproxHas.
-/
import Derived.Test.YticdpbkbnflgbaaOpenI
import Derived.Laws.Cover2
import Derived.Test.YticdpbkbnflgbaaWFK
import Derived.Test.YticdpbkbnflgbaaOpenQ
namespace Go.Proofs.Yticdpbkbnflgbaa
open Go.ChangeShapes Go.WideShapes Go.ChangeAt Go.RowKit
set_option linter.unusedVariables false

theorem cells_f64 : Try.prog.cellsOf 28 = 1 := by kernel_rfl
theorem cells_Span : Try.prog.cellsOf 30 = 2 := by kernel_rfl
theorem trod_f64 {H : Type} {enc : TypeId × Value → H} {W : World} {n : Nat} {c : Value} {y : DataW H × List MemPlace}
    (h : DataW.trod enc Try.prog W 0 (fun _ => true) true n 28 [c] = some y) : ∃ a, c = .float .f64 a ∧ a < 18446744073709551616 := by
  cases n with
  | zero => simp [DataW.trod] at h
  | succ n =>
    simp only [DataW.trod, Try.underlying28] at h
    cases c <;> simp at h
    rename_i k b
    obtain ⟨⟨rfl, hw⟩, _⟩ := h
    exact ⟨b, rfl, by simpa [Lit.wf] using hw⟩
set_option maxRecDepth 100000 in
theorem open_Span {H : Type} {enc : TypeId × Value → H} {W : World} {r : Reach} {b0 : Nat} {v : Value} {d : DataW H} {p : List MemPlace}
    (hv : Value.okWide Try.prog W r b0 30 v) (h : DataW.Trod enc Try.prog W 0 (fun _ => true) true 30 v d p) :
    ∃ a b, v = .agg #[.float .f64 a, .float .f64 b] ∧ a < 18446744073709551616 ∧ b < 18446744073709551616 := by
  obtain ⟨cs, rfl, hcs⟩ := okWide_struct Try.underlying30 hv
  obtain ⟨fuel, hf⟩ := h
  obtain ⟨y0, y1, n, hx, hl, h0, h1⟩ := trod_struct2 Try.underlying30 hf
  rw [cells_Span] at hcs
  obtain ⟨c0, c1, rfl⟩ : ∃ c0 c1, cs = #[c0, c1] := by
    match cs, hcs with
    | ⟨[c0, c1]⟩, _ => exact ⟨c0, c1, rfl⟩
  simp only [Value.cells, List.drop_zero, cells_f64] at h0 h1
  change DataW.trod enc _ _ _ _ _ n 28 [c0] = _ at h0
  change DataW.trod enc _ _ _ _ _ n 28 [c1] = _ at h1
  obtain ⟨a, rfl, ha⟩ := trod_f64 h0
  obtain ⟨b, rfl, hb⟩ := trod_f64 h1
  exact ⟨a, b, rfl, ha, hb⟩
end Go.Proofs.Yticdpbkbnflgbaa

namespace Go.Proofs.Yticdpbkbnflgbaa.approxHas
open Go.ChangeShapes Go.WideShapes Go.ChangeAt Go.RowKit Go.Proofs.Yticdpbkbnflgbaa
set_option linter.unusedVariables false

theorem fv_fB2 {s : Bool} {k : Nat} (h : k ≤ FI) : fv (fB s k) = sg s (amt k) := by
  unfold fv; rw [fB_neg h, fB_mod h]
theorem int_lt {a b c d : Nat} (h : a * b < c * d) : (a : Int) * (b : Int) < (c : Int) * (d : Int) := by
  have : ((a * b : Nat) : Int) < ((c * d : Nat) : Int) := by omega
  rwa [Int.natCast_mul, Int.natCast_mul] at this
theorem around_ne {T : Nat} {s : Bool} {X Y k : Nat} (C : Cut T (rN X Y) (rd Y) k) (hr : rst T (rN X Y) (rd Y) k ≠ 0) :
    fkey (upB T s X Y k) = fkey (downB T s X Y k) + 1 ∧ downB T s X Y k % SB ≤ FI ∧ upB T s X Y k % SB ≤ FI ∧
    (downB T s X Y k % SB < FI → fv (downB T s X Y k) * ((rd Y : Nat) : Int) < rn s X Y * (T : Int)) ∧ (upB T s X Y k % SB < FI → rn s X Y * (T : Int) < fv (upB T s X Y k) * ((rd Y : Nat) : Int)) ∧ downB T s X Y k ≠ FI ∧ upB T s X Y k ≠ SB + FI := by
  have hk := C.1
  have ha : am (rn s X Y) = rN X Y := rN_am s X Y
  have c1 := C.2.1
  have c2 := C.2.2
  have hne : rN X Y * T ≠ amt k * rd Y := fun h => hr (rst_zero.2 h)
  have e1 := FIv
  have e2 := SBv
  unfold downB upB
  generalize rn s X Y = A at ha
  generalize rN X Y = N at ha c1 c2 hne hr
  generalize rd Y = D at c1 c2 hne hr
  have i1 := int_lt (a := amt k) (b := D) (c := N) (d := T) (by omega)
  have i2 : k + 1 < FI → (N : Int) * (T : Int) < ((amt (k + 1) : Nat) : Int) * (D : Int) := fun h => int_lt (c2.resolve_left (by omega))
  by_cases hA : A < 0
  · have hAN : A = -(N : Int) := by unfold am at ha; omega
    simp only [hr, hA, decide_true, ne_eq, not_false_eq_true, not_true, and_true, and_false, if_true, if_false]
    refine ⟨?_, by rw [fB_mod (by omega)]; omega, by rw [fB_mod (by omega)]; omega, fun h => ?_, fun h => ?_, ?_, ?_⟩
    · rw [fkey_fB (by omega), fkey_fB (by omega)]; simp; omega
    · rw [fB_mod (by omega)] at h
      rw [fv_fB2 (by omega), hAN]
      have := i2 h
      simp only [sg, if_true, Int.neg_mul]; omega
    · rw [fv_fB2 (by omega), hAN]
      simp only [sg, if_true, Int.neg_mul]; omega
    · unfold fB; simp; omega
    · unfold fB; simp; omega
  · have hAN : A = (N : Int) := by unfold am at ha; omega
    simp only [hr, hA, decide_false, ne_eq, not_false_eq_true, and_true, and_false, if_true, if_false]
    refine ⟨?_, by rw [fB_mod (by omega)]; omega, by rw [fB_mod (by omega)]; omega, fun h => ?_, fun h => ?_, ?_, ?_⟩
    · rw [fkey_fB (by omega), fkey_fB (by omega)]; simp
    · rw [fv_fB2 (by omega), hAN]
      simp only [sg, Bool.false_eq_true, if_false]; omega
    · rw [fB_mod (by omega)] at h
      rw [fv_fB2 (by omega), hAN]
      have := i2 h
      simp only [sg, Bool.false_eq_true, if_false]; omega
    · unfold fB; simp; omega
    · unfold fB; simp; omega
theorem around_eq {T : Nat} {s : Bool} {X Y k : Nat} (C : Cut T (rN X Y) (rd Y) k) (hr : rst T (rN X Y) (rd Y) k = 0) :
    upB T s X Y k = downB T s X Y k ∧ downB T s X Y k % SB < FI ∧ fv (downB T s X Y k) * ((rd Y : Nat) : Int) = rn s X Y * (T : Int) := by
  have hk := C.1
  have ha : am (rn s X Y) = rN X Y := rN_am s X Y
  have he := rst_zero.1 hr
  unfold downB upB
  simp only [hr, ne_eq, not_true, false_and, if_false]
  refine ⟨trivial, by rw [fB_mod (by omega)]; exact hk, ?_⟩
  rw [fv_fB2 (by omega)]
  generalize rn s X Y = A at ha
  generalize rN X Y = N at ha he
  generalize rd Y = D at he
  have hi : (N : Int) * (T : Int) = ((amt k : Nat) : Int) * (D : Int) := by
    have : ((N * T : Nat) : Int) = ((amt k * D : Nat) : Int) := by omega
    rwa [Int.natCast_mul, Int.natCast_mul] at this
  by_cases hA : A < 0
  · have hAN : A = -(N : Int) := by unfold am at ha; omega
    rw [decide_eq_true hA, hAN]
    simp only [sg, if_true, Int.neg_mul]; omega
  · have hAN : A = (N : Int) := by unfold am at ha; omega
    rw [decide_eq_false hA, hAN]
    simp only [sg, Bool.false_eq_true, if_false]; omega
theorem key_fin {b : Nat} (h : b % SB < FI) : -(FI : Int) < fkey b ∧ fkey b < FI := by
  unfold fkey; split <;> omega
theorem key_inf {b : Nat} (hb : b < 18446744073709551616) (h : b % SB = FI) : (b = FI → fkey b = (FI : Int)) ∧ (b ≠ FI → fkey b = -(FI : Int)) := by
  constructor
  · intro h2; rw [h2]; rfl
  · intro h2; rw [inf_lo hb h h2]; rfl
theorem mul_le' {a b D : Int} (hD : 0 < D) (h : a ≤ b) : a * D ≤ b * D := Int.mul_le_mul_of_nonneg_right h (by omega)
theorem lo_iff {T : Nat} {s : Bool} {X Y k a : Nat} (C : Cut T (rN X Y) (rd Y) k) (ha : a < 18446744073709551616) (h1 : a % SB ≤ FI) (h2 : a ≠ FI) : decide (fkey a ≤ fkey (downB T s X Y k)) = !(loB T (rn s X Y) (rd Y) a) := by
  have hD : (0 : Int) < ((rd Y : Nat) : Int) := by have := rd_pos Y; omega
  have hdl : downB T s X Y k < 18446744073709551616 := fB_lt (if_le C.1)
  unfold loB
  rw [← decide_not, decide_eq_decide]
  by_cases hr : rst T (rN X Y) (rd Y) k = 0
  · obtain ⟨e1, e2, e3⟩ := around_eq (s := s) C hr
    by_cases fa : a % SB < FI
    · constructor
      · rintro h ⟨_, g⟩
        have hh : ¬ fv (downB T s X Y k) < fv a := fun g => by have := fv_lt.1 g; omega
        have := mul_le' hD (show fv a ≤ fv (downB T s X Y k) by omega)
        omega
      · intro h
        refine Int.le_of_not_gt fun g => h ⟨fa, ?_⟩
        have := Int.mul_lt_mul_of_pos_right (fv_lt.2 g) hD
        omega
    · have k1 := (key_inf ha (by omega)).2 h2
      have k2 := key_fin e2
      exact ⟨fun _ g => fa g.1, fun _ => by omega⟩
  · obtain ⟨e1, e2, e3, e4, e5, e6, e7⟩ := around_ne (s := s) C hr
    by_cases fa : a % SB < FI
    · have k1 := key_fin fa
      constructor
      · rintro h ⟨_, g⟩
        have fd : downB T s X Y k % SB < FI := by
          refine Nat.lt_of_le_of_ne e2 fun e => ?_
          have := (key_inf hdl e).2 e6
          omega
        have hh : ¬ fv (downB T s X Y k) < fv a := fun g => by have := fv_lt.1 g; omega
        have := mul_le' hD (show fv a ≤ fv (downB T s X Y k) by omega)
        have := e4 fd
        omega
      · intro h
        refine Int.le_of_not_gt fun g => h ⟨fa, ?_⟩
        have fu : upB T s X Y k % SB < FI := by
          refine Nat.lt_of_le_of_ne e3 fun e => ?_
          have hul : upB T s X Y k < 18446744073709551616 := fB_lt (if_le C.1)
          have := (key_inf hul e).1 (inf_hi hul e e7)
          omega
        have hh : ¬ fv a < fv (upB T s X Y k) := fun g => by have := fv_lt.1 g; omega
        have := mul_le' hD (show fv (upB T s X Y k) ≤ fv a by omega)
        have := e5 fu
        omega
    · have k1 := (key_inf ha (by omega)).2 h2
      have k2 := key_rng e2
      exact ⟨fun _ g => fa g.1, fun _ => by omega⟩
theorem hi_iff {T : Nat} {s : Bool} {X Y k b : Nat} (C : Cut T (rN X Y) (rd Y) k) (hb : b < 18446744073709551616) (h1 : b % SB ≤ FI) (h2 : b ≠ SB + FI) : decide (fkey (upB T s X Y k) ≤ fkey b) = !(hiB T (rn s X Y) (rd Y) b) := by
  have hD : (0 : Int) < ((rd Y : Nat) : Int) := by have := rd_pos Y; omega
  have hul : upB T s X Y k < 18446744073709551616 := fB_lt (if_le C.1)
  have hdl : downB T s X Y k < 18446744073709551616 := fB_lt (if_le C.1)
  unfold hiB
  rw [← decide_not, decide_eq_decide]
  by_cases hr : rst T (rN X Y) (rd Y) k = 0
  · obtain ⟨e1, e2, e3⟩ := around_eq (s := s) C hr
    rw [e1]
    by_cases fb : b % SB < FI
    · constructor
      · rintro h ⟨_, g⟩
        have hh : ¬ fv b < fv (downB T s X Y k) := fun g => by have := fv_lt.1 g; omega
        have := mul_le' hD (show fv (downB T s X Y k) ≤ fv b by omega)
        omega
      · intro h
        refine Int.le_of_not_gt fun g => h ⟨fb, ?_⟩
        have := Int.mul_lt_mul_of_pos_right (fv_lt.2 g) hD
        omega
    · have k1 := (key_inf hb (by omega)).1 (inf_hi hb (by omega) h2)
      have k2 := key_fin e2
      exact ⟨fun _ g => fb g.1, fun _ => by omega⟩
  · obtain ⟨e1, e2, e3, e4, e5, e6, e7⟩ := around_ne (s := s) C hr
    by_cases fb : b % SB < FI
    · have k1 := key_fin fb
      constructor
      · rintro h ⟨_, g⟩
        have fu : upB T s X Y k % SB < FI := by
          refine Nat.lt_of_le_of_ne e3 fun e => ?_
          have := (key_inf hul e).1 (inf_hi hul e e7)
          omega
        have hh : ¬ fv b < fv (upB T s X Y k) := fun g => by have := fv_lt.1 g; omega
        have := mul_le' hD (show fv (upB T s X Y k) ≤ fv b by omega)
        have := e5 fu
        omega
      · intro h
        refine Int.le_of_not_gt fun g => h ⟨fb, ?_⟩
        have fd : downB T s X Y k % SB < FI := by
          refine Nat.lt_of_le_of_ne e2 fun e => ?_
          have := (key_inf hdl e).2 e6
          omega
        have hh : ¬ fv (downB T s X Y k) < fv b := fun g => by have := fv_lt.1 g; omega
        have := mul_le' hD (show fv b ≤ fv (downB T s X Y k) by omega)
        have := e4 fd
        omega
    · have k1 := (key_inf hb (by omega)).1 (inf_hi hb (by omega) h2)
      have k2 := key_rng e3
      exact ⟨fun _ g => fb g.1, fun _ => by omega⟩
theorem in_same {T : Nat} {s : Bool} {X Y k a b : Nat} (C : Cut T (rN X Y) (rd Y) k) (ha : a < 18446744073709551616) (hb : b < 18446744073709551616) :
    (vaB a b && (decide (fkey a ≤ fkey (downB T s X Y k)) && decide (fkey (upB T s X Y k) ≤ fkey b))) = inB T (rn s X Y) (rd Y) a b := by
  unfold inB
  by_cases hv : vaB a b = true
  · rw [hv]
    unfold vaB at hv
    rw [decide_eq_true_iff] at hv
    rw [lo_iff C ha hv.1 hv.2.2.2.1, hi_iff C hb hv.2.1 hv.2.2.2.2]
  · rw [Bool.eq_false_iff.2 hv]; rfl
theorem own_va {T : Nat} {s : Bool} {X Y k : Nat} (C : Cut T (rN X Y) (rd Y) k) : vaB (downB T s X Y k) (upB T s X Y k) = true := by
  unfold vaB
  rw [decide_eq_true_iff]
  by_cases hr : rst T (rN X Y) (rd Y) k = 0
  · obtain ⟨e1, e2, e3⟩ := around_eq (s := s) C hr
    rw [e1]
    refine ⟨by omega, by omega, Int.le_refl _, fun h => ?_, fun h => ?_⟩
    · rw [h] at e2; exact absurd e2 (by decide)
    · rw [h] at e2; exact absurd e2 (by decide)
  · obtain ⟨e1, e2, e3, e4, e5, e6, e7⟩ := around_ne (s := s) C hr
    exact ⟨e2, e3, by omega, e6, e7⟩

set_option maxHeartbeats 8000000 in
set_option maxRecDepth 100000 in
theorem walk (s0 : Bool) (a0 : Option Addr) (n0 c0 X0 : Nat) (b0 : Option Addr) (m0 d0 Y0 : Nat) (a b : Nat) (w : World) (hc0 : n0 ≤ c0) (hm0 : n0 ≤ 35184372087808) (hS0 : Seg w a0 X0 n0) (hd0 : m0 ≤ d0) (hk0 : m0 ≤ 35184372087808) (hT0 : Seg w b0 Y0 m0) (ha : a < 18446744073709551616) (hb : b < 18446744073709551616) :
    Calls Try.prog 3 #[Value.agg #[Value.bool s0, Value.slice a0 n0 c0, Value.slice b0 m0 d0], Value.agg #[Value.float .f64 a, Value.float .f64 b]] w fun e w' => e = .returned (.bool true) ∧ Below w.heap.size w w' := by
  obtain ⟨z, hz⟩ : ∃ z : Nat, z = 1074 := ⟨_, rfl⟩
  obtain ⟨T, hT⟩ : ∃ T : Nat, T = 2 ^ z := ⟨_, rfl⟩
  have H1 := hide' (fun w' k1 k2 => around_is s0 a0 n0 c0 X0 b0 m0 d0 Y0 z T w' hc0 (by omega) k1 hd0 (by omega) k2 hz hT)
  have H2 := hide' (fun w' k1 k2 => varound_is s0 a0 n0 c0 X0 b0 m0 d0 Y0 z T w' hc0 (by omega) k1 hd0 (by omega) k2 hz hT)
  have H3 := hide' (fun w' k1 k2 => In_is s0 a0 n0 c0 X0 b0 m0 d0 Y0 a b z T w' hc0 (by omega) k1 hd0 (by omega) k2 hz hT ha hb)
  obtain ⟨c, hc⟩ : ∃ c, inB T (rn s0 X0 Y0) (rd Y0) a b = c := ⟨_, rfl⟩
  have H4 := hide' (fun w' k1 k2 => vIn_is s0 a0 n0 c0 X0 b0 m0 d0 Y0 a b z T c w' hc0 (by omega) k1 hd0 (by omega) k2 hz hT ha hb hc)
  have HX : Hid (∀ k, Cut T (rN X0 Y0) (rd Y0) k → (vaB a b && (decide (fkey a ≤ fkey (downB T s0 X0 Y0 k)) && decide (fkey (upB T s0 X0 Y0 k) ≤ fkey b))) = c) := fun k C => by rw [in_same C ha hb, hc]
  have H5 := hide' (fun w' d u (hd : d < 18446744073709551616) (hu : u < 18446744073709551616) k1 k2 => In_is s0 a0 n0 c0 X0 b0 m0 d0 Y0 d u z T w' hc0 (by omega) k1 hd0 (by omega) k2 hz hT hd hu)
  have hsf := store_float
  clear hc hz hT
  go_enter Try.func3, Try.ntmps3
  go_wp2_with fail
  obtain ⟨W, hW⟩ : ∃ W, ((w.alloc (.cells #[.bool s0, .slice a0 n0 c0, .slice b0 m0 d0] 27)).alloc (.cells #[.float .f64 a, .float .f64 b] 30)) = W := ⟨_, rfl⟩
  have q00 : W.cell? ⟨w.heap.size, 0, none⟩ = some (.bool s0) := by subst hW; go_simp
  have q01 : W.cell? ⟨w.heap.size, 1, none⟩ = some (.slice a0 n0 c0) := by subst hW; go_simp
  have q02 : W.cell? ⟨w.heap.size, 2, none⟩ = some (.slice b0 m0 d0) := by subst hW; go_simp
  have q10 : W.cell? ⟨w.heap.size + 1, 0, none⟩ = some (.float .f64 a) := by subst hW; go_simp
  have q11 : W.cell? ⟨w.heap.size + 1, 1, none⟩ = some (.float .f64 b) := by subst hW; go_simp
  have hB : Below w.heap.size w W := by subst hW; exact (((Below.refl _ _).alloc (by (try simp only [World.size_alloc]); omega) _).alloc (by (try simp only [World.size_alloc]); omega) _)
  have hz : W.heap.size = w.heap.size + 1 + 1 := by subst hW; simp only [World.size_alloc]
  rw [hW]
  clear hW
  have hBW : Below W.heap.size W W := Below.refl _ _
  refine (H1.out _ (sb hS0 hB hBW) (sb hT0 hB hBW)).mono ?_
  rintro e w5 ⟨k, rfl, hC, bb5⟩
  have b5 := bb5
  replace hBW := hBW.trans (b5.mono hBW.size)
  replace q00 := below_cell b5 q00
  replace q01 := below_cell b5 q01
  replace q02 := below_cell b5 q02
  replace q10 := below_cell b5 q10
  replace q11 := below_cell b5 q11
  have HV2 := hide' (own_va (s := s0) hC)
  have hd6 : downB T s0 X0 Y0 k < 18446744073709551616 := fB_lt (if_le hC.1)
  have hu6 : upB T s0 X0 Y0 k < 18446744073709551616 := fB_lt (if_le hC.1)
  have HU2 : Hid (∀ k2, Cut T (rN X0 Y0) (rd Y0) k2 → downB T s0 X0 Y0 k2 = downB T s0 X0 Y0 k ∧ upB T s0 X0 Y0 k2 = upB T s0 X0 Y0 k) := fun k2 C2 => by obtain rfl := hC.uniq C2; exact ⟨rfl, rfl⟩
  have HX2 := hide' (HX.out k hC)
  clear hC HX H1
  generalize downB T s0 X0 Y0 k = d at *
  generalize upB T s0 X0 Y0 k = u at *
  have hsz5 := hBW.size
  have l500 : ((w5.alloc (.cells #[.float .f64 d, .float .f64 u] 30))).cell? ⟨w5.heap.size, 0, none⟩ = some (.float .f64 d) := by go_simp
  have l501 : ((w5.alloc (.cells #[.float .f64 d, .float .f64 u] 30))).cell? ⟨w5.heap.size, 1, none⟩ = some (.float .f64 u) := by go_simp
  have cb5 : Below w5.heap.size w5 ((w5.alloc (.cells #[.float .f64 d, .float .f64 u] 30))) := ((Below.refl _ _).alloc (by (try simp only [World.size_alloc]); omega) _)
  replace hBW := hBW.trans (cb5.mono hBW.size)
  replace q00 := below_cell cb5 q00
  replace q01 := below_cell cb5 q01
  replace q02 := below_cell cb5 q02
  replace q10 := below_cell cb5 q10
  replace q11 := below_cell cb5 q11
  have hL50 : Row ((w5.alloc (.cells #[.float .f64 d, .float .f64 u] 30))) (w5.heap.size) := by
    have := row_new (w5) #[.float .f64 d, .float .f64 u] 30
    try simp only [World.size_alloc] at this
    exact this
  go_wp2_with fail
  generalize (w5.alloc (.cells #[.float .f64 d, .float .f64 u] 30)) = w5x at q00 q01 q02 q10 q11 l500 l501 hL50 hBW cb5 ⊢
  clear cb5
  replace hBW := hBW.drew
  first
    | go_region_held3 (fun w' => w'.cell? ⟨w.heap.size, 0, none⟩ = some (.bool s0) ∧ w'.cell? ⟨w.heap.size, 1, none⟩ = some (.slice a0 n0 c0) ∧ w'.cell? ⟨w.heap.size, 2, none⟩ = some (.slice b0 m0 d0) ∧ w'.cell? ⟨w.heap.size + 1, 0, none⟩ = some (.float .f64 a) ∧ w'.cell? ⟨w.heap.size + 1, 1, none⟩ = some (.float .f64 b) ∧ w'.cell? ⟨w5.heap.size, 0, none⟩ = some (.float .f64 d) ∧ w'.cell? ⟨w5.heap.size, 1, none⟩ = some (.float .f64 u) ∧ Below w.heap.size w w')
        (first | exact ⟨q00, q01, q02, q10, q11, l500, l501, hB.trans (hBW.mono hB.size)⟩ | exact kp7 b11 (by assumption) | exact kp7 b12 (by assumption) | exact kp7 b13 (by assumption) | exact kp7 b14 (by assumption) | exact kp7 (below_alloc _) (by assumption))
        (first
          | (go_at_call 9; (fail_if_success clear b11); refine (H2.out _ (sb hS0 hB hBW) (sb hT0 hB hBW)).mono ?_; rintro e w11 ⟨k2, rfl, hC2, bb11⟩; have b11 := bb11; replace hBW := hBW.trans (b11.mono hBW.size); replace q00 := below_cell b11 q00; replace q01 := below_cell b11 q01; replace q02 := below_cell b11 q02; replace q10 := below_cell b11 q10; replace q11 := below_cell b11 q11; replace l500 := below_cell b11 l500; replace l501 := below_cell b11 l501; replace hL50 := below_row b11 hL50; rw [(HU2.out k2 hC2).1, (HU2.out k2 hC2).2])
          | (go_at_call 8; (fail_if_success clear b12); refine (sameSpan_self _ _ _).mono ?_; rintro e w12 ⟨rfl, bb12⟩; have b12 := bb12; replace hBW := hBW.trans (b12.mono hBW.size); replace q00 := below_cell b12 q00; replace q01 := below_cell b12 q01; replace q02 := below_cell b12 q02; replace q10 := below_cell b12 q10; replace q11 := below_cell b12 q11; replace l500 := below_cell b12 l500; replace l501 := below_cell b12 l501; replace hL50 := below_row b12 hL50)
          | (go_at_call 10; (fail_if_success clear b13); refine (H3.out _ (sb hS0 hB hBW) (sb hT0 hB hBW)).mono ?_; rintro e w13 ⟨k3, rfl, hC3, bb13⟩; have b13 := bb13; replace hBW := hBW.trans (b13.mono hBW.size); replace q00 := below_cell b13 q00; replace q01 := below_cell b13 q01; replace q02 := below_cell b13 q02; replace q10 := below_cell b13 q10; replace q11 := below_cell b13 q11; replace l500 := below_cell b13 l500; replace l501 := below_cell b13 l501; replace hL50 := below_row b13 hL50; rw [(HU2.out k3 hC3).1, (HU2.out k3 hC3).2, HX2.out])
          | (go_at_call 11; (fail_if_success clear b14); refine (H4.out _ (sb hS0 hB hBW) (sb hT0 hB hBW)).mono ?_; rintro e w14 ⟨rfl, bb14⟩; have b14 := bb14; replace hBW := hBW.trans (b14.mono hBW.size); replace q00 := below_cell b14 q00; replace q01 := below_cell b14 q01; replace q02 := below_cell b14 q02; replace q10 := below_cell b14 q10; replace q11 := below_cell b14 q11; replace l500 := below_cell b14 l500; replace l501 := below_cell b14 l501; replace hL50 := below_row b14 hL50))
    | fail
  go_wp2_with fail
  refine (H5.out _ d u hd6 hu6 (sb hS0 hB hBW) (sb hT0 hB hBW)).mono ?_
  rintro e w21 ⟨k5, rfl, hC5, bb21⟩
  have b21 := bb21
  replace hBW := hBW.trans (b21.mono hBW.size)
  replace q00 := below_cell b21 q00
  replace q01 := below_cell b21 q01
  replace q02 := below_cell b21 q02
  replace q10 := below_cell b21 q10
  replace q11 := below_cell b21 q11
  replace l500 := below_cell b21 l500
  replace l501 := below_cell b21 l501
  replace hL50 := below_row b21 hL50
  rw [(HU2.out k5 hC5).1, (HU2.out k5 hC5).2, HV2.out, decide_eq_true (Int.le_refl _), decide_eq_true (Int.le_refl _)]
  go_wp2_with fail
  refine (Valid_is d u true _ hd6 hu6 HV2.out).mono ?_
  rintro e w22 ⟨rfl, b22⟩
  replace hBW := hBW.trans (b22.mono hBW.size)
  replace q00 := below_cell b22 q00
  replace q01 := below_cell b22 q01
  replace q02 := below_cell b22 q02
  replace q10 := below_cell b22 q10
  replace q11 := below_cell b22 q11
  replace l500 := below_cell b22 l500
  replace l501 := below_cell b22 l501
  replace hL50 := below_row b22 hL50
  go_wp2
  go_ret
  exact ⟨rfl, hB.trans (hBW.mono hB.size)⟩

set_option maxRecDepth 100000 in
theorem contract (H : Type) (enc : TypeId × Value → H) (W : World) (base : Nat) (args : Array Value) (ds gs : List (DataW H)) (before : List MemPlace)
    (hval : ∀ (j : Nat) t v, Try.f3.params[j]? = some t → args[j]? = some v → Value.okWide Try.prog W .any base t v)
    (hW : DataW.Whole enc Try.prog Try.f3.params.toList Rows.approxHasSpec.vars false W args.toList ds gs before)
    (hsz : (DataW.weightsEach Try.prog (Try.f3.params.toList ++ Rows.approxHasSpec.plain.varTypes Try.prog) (ds ++ gs)).all (· ≤ reachBytes) = true) :
    Calls Try.prog 3 args W fun e W' => ∃ v, e = .returned v ∧ Rows.approxHasSpec.post enc Try.prog Try.f3 false true false false W args v W' := by
  have hW' := hW
  obtain ⟨p, q, hA0, hV, rfl, hfz, hnd⟩ := hW
  have hA : DataW.TrodAll enc Try.prog W 0 (fun _ => true) true Try.f3.params.toList args.toList ds p := hA0
  rw [Try.params3] at hA hval hsz
  obtain ⟨v0, vs0, d0, ds0, p0, q0, hargs, rfl, rfl, h0, r0⟩ := trodAll_cons hA
  obtain ⟨v1, vs1, d1, ds1, p1, q1, rfl, rfl, rfl, h1, r1⟩ := trodAll_cons r0
  obtain ⟨rfl, rfl, rfl⟩ := trodAll_nil r1
  obtain rfl : args = #[v0, v1] := by cases args; simp_all
  obtain ⟨rfl, rfl⟩ := trodVars_none hV
  have lt0 : ∀ x ∈ p0, x.block < W.heap.size := by obtain ⟨m, hm⟩ := h0; exact DataW.trod_lt m _ _ _ hm
  obtain ⟨rs0, ra0, rn0, rc0, rX0, rb0, rm0, re0, rY0, rfl, hS0, hc0, hb0, hT0, hd0, hk0, hu0, hv0⟩ := open_Rat (hval 0 27 v0 rfl rfl) h0 (sized_at 0 hsz rfl rfl)
  have lt1 : ∀ x ∈ p1, x.block < W.heap.size := by obtain ⟨m, hm⟩ := h1; exact DataW.trod_lt m _ _ _ hm
  obtain ⟨fa1, fb1, rfl, hfa1, hfb1⟩ := open_Span (hval 1 30 v1 rfl rfl) h1
  clear hA0
  simp only [List.append_nil] at hW'
  refine (walk rs0 ra0 rn0 rc0 rX0 rb0 rm0 re0 rY0 fa1 fb1 W hc0 hb0 hS0 hd0 hk0 hT0 hfa1 hfb1).mono fun e W' ⟨he, bel⟩ => ?_
  subst he
  exact ⟨_, rfl, _, _, _, [], _, [], hW', trodAll_mk1 (shut_bool Try.underlying4 _), (trodAll_cons_mk (Below.trod laidOut (by kernel_rfl) (of_decide_eq_true (by kernel_rfl)) h0 bel lt0) (trodAll_cons_mk (Below.trod laidOut (by kernel_rfl) (of_decide_eq_true (by kernel_rfl)) h1 bel lt1) trodAll_mk0)), rfl, bel.frame _, fun h => by cases h⟩

set_option maxRecDepth 100000 in
theorem lifted (os : Os) (started : os.Started) (H : Type) (enc : TypeId × Value → H) :
    ReturnsInHanded {} Try.checked os 3 .any (Rows.approxHasSpec.pre6 enc Try.prog Try.f3 Rows.approxHasRow.domain false) (Rows.approxHasSpec.post enc Try.prog Try.f3 false true false false) := by
  refine returnsInHanded_of_change_sized (C := Try.checked) own started (by kernel_rfl) Try.func3
    (ChangeSpec.witness6 (enc := enc) (C := Try.checked) false ⟨#[], #[.agg #[.bool false, .slice none 0 0, .slice none 0 0], .agg #[.float .f64 0, .float .f64 0]], []⟩ 8 (by kernel_rfl) (by kernel_rfl) (by kernel_rfl) (by kernel_rfl)) ?_
  intro W base args ds gs before hval hW _ hsz _
  exact contract H enc W base args ds gs before hval hW hsz

theorem over : Rows.approxHasRow.holds Try.pinned (OpenSpec.ofChange Rows.approxHasSpec) :=
  OpenClaim.holds_of_wide 3 Try.f3 rfl rfl rfl rfl rfl rfl rfl ⟨rfl, rfl, rfl, rfl, rfl⟩ rfl rfl rfl rfl rfl (by kernel_rfl) Try.func3 (by kernel_rfl)
    (of_decide_eq_true (by kernel_rfl)) (by unfold Func.isWrapper; first | (rw [if_pos (by decide +kernel)]; kernel_rfl) | (rw [if_neg (by decide +kernel)]; exact ⟨rfl, rfl⟩))
    (fun os started H enc _ => lifted os started H enc)

end Go.Proofs.Yticdpbkbnflgbaa.approxHas
namespace Go.Proofs.Yticdpbkbnflgbaa
theorem approxHas_holds : Rows.ApproxHasSaid := approxHas.over
#print axioms approxHas_holds
end Go.Proofs.Yticdpbkbnflgbaa
