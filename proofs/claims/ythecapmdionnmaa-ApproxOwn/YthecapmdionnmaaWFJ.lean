/-
  Spans: In of both.
-/
import Derived.Test.YthecapmdionnmaaWFI
namespace Go.Proofs.Ythecapmdionnmaa
open Go.RowKit
set_option linter.unusedVariables false

/-- is the number below the span's end, above the other? -/
def loB (T : Nat) (A : Int) (D a : Nat) : Bool := decide (a % SB < FI ∧ A * (T : Int) < fv a * (D : Int))
def hiB (T : Nat) (A : Int) (D b : Nat) : Bool := decide (b % SB < FI ∧ fv b * (D : Int) < A * (T : Int))
def inB (T : Nat) (A : Int) (D a b : Nat) : Bool := vaB a b && (!(loB T A D a) && !(hiB T A D b))
theorem low_cmp2 {z T b : Nat} {Z1 Z2 A : Int} {V1 V2 D : Nat} (hT : T = 2 ^ z) (hD : 0 < D) (h1 : Low A (D : Int) Z1 V1) (h2 : Low (fv b) (T : Int) Z2 V2) : sgn (Z1 * (V2 : Int) - Z2 * (V1 : Int)) = sgn (A * (T : Int) - fv b * (D : Int)) ∧ sgn (Z2 * (V1 : Int) - Z1 * (V2 : Int)) = sgn (fv b * (D : Int) - A * (T : Int)) := by
  have hT0 : (0 : Int) < T := by rw [hT]; have := Nat.two_pow_pos z; omega
  have hP : (0 : Int) < (T : Int) * (D : Int) := Int.mul_pos hT0 (by omega)
  have p1 := h1.pos
  have p2 := h2.pos
  have e1 := h1.eq
  have e2 := h2.eq
  have hQ : (0 : Int) < (V1 : Int) * (V2 : Int) := Int.mul_pos (by omega) (by omega)
  constructor
  · rw [← sgn_mul_pos (a := Z1 * (V2 : Int) - Z2 * (V1 : Int)) hP, ← sgn_mul_pos (a := A * (T : Int) - fv b * (D : Int)) hQ]
    congr 1
    grind
  · rw [← sgn_mul_pos (a := Z2 * (V1 : Int) - Z1 * (V2 : Int)) hP, ← sgn_mul_pos (a := fv b * (D : Int) - A * (T : Int)) hQ]
    congr 1
    grind
set_option maxHeartbeats 4000000 in
set_option maxRecDepth 100000 in
theorem In_is (s0 : Bool) (a0 : Option Addr) (n0 c0 X0 : Nat) (b0 : Option Addr) (m0 d0 Y0 : Nat) (a b z T : Nat) (w : World) (hc0 : n0 ≤ c0) (hm0 : n0 ≤ 35184372087808) (hS0 : Seg w a0 X0 n0) (hd0 : m0 ≤ d0) (hk0 : m0 ≤ 35184372087808) (hT0 : Seg w b0 Y0 m0) (hz : z = 1074) (hT : T = 2 ^ z) (ha : a < 18446744073709551616) (hb : b < 18446744073709551616) :
    Calls Try.prog 7 #[Value.agg #[Value.bool s0, Value.slice a0 n0 c0, Value.slice b0 m0 d0], Value.agg #[Value.float .f64 a, Value.float .f64 b]] w fun e w' => ∃ k, e = .returned (.bool (vaB a b && (decide (fkey a ≤ fkey (downB T s0 X0 Y0 k)) && decide (fkey (upB T s0 X0 Y0 k) ≤ fkey b)))) ∧ Cut T (rN X0 Y0) (rd Y0) k ∧ Below w.heap.size w w' := by
  have HA := hide' (fun w' k1 k2 => around_is s0 a0 n0 c0 X0 b0 m0 d0 Y0 z T w' hc0 (by omega) k1 hd0 (by omega) k2 hz hT)
  obtain ⟨v, hv⟩ : ∃ v, vaB a b = v := ⟨_, rfl⟩
  have HV := hide' (fun w' => Valid_is a b v w' ha hb hv)
  rw [hv]
  have hvv : v = true → a % SB ≤ FI ∧ b % SB ≤ FI := fun h => by rw [← hv] at h; unfold vaB at h; rw [decide_eq_true_iff] at h; exact ⟨h.1, h.2.1⟩
  have HW := hide' hvv
  clear hv hvv hz hT
  have hsf := store_float
  go_enter Try.func7, Try.ntmps7
  go_wp2_with fail
  obtain ⟨W, hW⟩ : ∃ W, ((w.alloc (.cells #[.bool s0, .slice a0 n0 c0, .slice b0 m0 d0] 27)).alloc (.cells #[.float .f64 a, .float .f64 b] 33)) = W := ⟨_, rfl⟩
  have q00 : W.cell? ⟨w.heap.size, 0, none⟩ = some (.bool s0) := by subst hW; go_simp
  have q01 : W.cell? ⟨w.heap.size, 1, none⟩ = some (.slice a0 n0 c0) := by subst hW; go_simp
  have q02 : W.cell? ⟨w.heap.size, 2, none⟩ = some (.slice b0 m0 d0) := by subst hW; go_simp
  have q10 : W.cell? ⟨w.heap.size + 1, 0, none⟩ = some (.float .f64 a) := by subst hW; go_simp
  have q11 : W.cell? ⟨w.heap.size + 1, 1, none⟩ = some (.float .f64 b) := by subst hW; go_simp
  have hB : Below w.heap.size w W := by subst hW; exact (((Below.refl _ _).alloc (by (try simp only [World.size_alloc]); omega) _).alloc (by (try simp only [World.size_alloc]); omega) _)
  have hz : W.heap.size = w.heap.size + 1 + 1 := by subst hW; simp only [World.size_alloc]
  rw [hW]
  clear hW
  have hBW : Below W.heap.size W W := Below.refl _ _
  refine (HA.out _ (sb hS0 hB hBW) (sb hT0 hB hBW)).mono ?_
  rintro e w5 ⟨k, rfl, hC, bb5⟩
  have b5 := bb5
  replace hBW := hBW.trans (b5.mono hBW.size)
  replace q00 := below_cell b5 q00
  replace q01 := below_cell b5 q01
  replace q02 := below_cell b5 q02
  replace q10 := below_cell b5 q10
  replace q11 := below_cell b5 q11
  have hd := if_le (p := rst T (rN X0 Y0) (rd Y0) k ≠ 0 ∧ rn s0 X0 Y0 < 0) hC.1
  have hu := if_le (p := rst T (rN X0 Y0) (rd Y0) k ≠ 0 ∧ ¬ rn s0 X0 Y0 < 0) hC.1
  have hdm : downB T s0 X0 Y0 k % SB ≤ FI := by unfold downB; rw [fB_mod hd]; exact hd
  have hum : upB T s0 X0 Y0 k % SB ≤ FI := by unfold upB; rw [fB_mod hu]; exact hu
  have HA2 : Hid (∀ e, e = Ending.returned (.bool (v && (decide (fkey a ≤ fkey (downB T s0 X0 Y0 k)) && decide (fkey (upB T s0 X0 Y0 k) ≤ fkey b)))) → ∃ k, e = Ending.returned (.bool (v && (decide (fkey a ≤ fkey (downB T s0 X0 Y0 k)) && decide (fkey (upB T s0 X0 Y0 k) ≤ fkey b)))) ∧ Cut T (rN X0 Y0) (rd Y0) k) := fun e he => ⟨k, he, hC⟩
  clear hC hd hu
  generalize downB T s0 X0 Y0 k = d at hdm HA2 ⊢
  generalize upB T s0 X0 Y0 k = u at hum HA2 ⊢
  cases v
  · have HR : Hid (Ending.returned (.bool false) = .returned (.bool (false && (decide (fkey a ≤ fkey d) && decide (fkey u ≤ fkey b))))) := rfl
    clear HW
    have hsz5 := hBW.size
    have l500 : ((w5.alloc (.cells #[.float .f64 d, .float .f64 u] 33))).cell? ⟨w5.heap.size, 0, none⟩ = some (.float .f64 d) := by go_simp
    have l501 : ((w5.alloc (.cells #[.float .f64 d, .float .f64 u] 33))).cell? ⟨w5.heap.size, 1, none⟩ = some (.float .f64 u) := by go_simp
    have cb5 : Below w5.heap.size w5 ((w5.alloc (.cells #[.float .f64 d, .float .f64 u] 33))) := ((Below.refl _ _).alloc (by (try simp only [World.size_alloc]); omega) _)
    replace hBW := hBW.trans (cb5.mono hBW.size)
    replace q00 := below_cell cb5 q00
    replace q01 := below_cell cb5 q01
    replace q02 := below_cell cb5 q02
    replace q10 := below_cell cb5 q10
    replace q11 := below_cell cb5 q11
    have hL50 : Row ((w5.alloc (.cells #[.float .f64 d, .float .f64 u] 33))) (w5.heap.size) := by
      have := row_new (w5) #[.float .f64 d, .float .f64 u] 33
      try simp only [World.size_alloc] at this
      exact this
    go_wp2_with fail
    generalize (w5.alloc (.cells #[.float .f64 d, .float .f64 u] 33)) = w5x at q00 q01 q02 q10 q11 l500 l501 hL50 hBW cb5 ⊢
    clear cb5
    refine (HV.out _).mono ?_
    rintro e w6 ⟨rfl, b6⟩
    replace hBW := hBW.trans (b6.mono hBW.size)
    replace q00 := below_cell b6 q00
    replace q01 := below_cell b6 q01
    replace q02 := below_cell b6 q02
    replace q10 := below_cell b6 q10
    replace q11 := below_cell b6 q11
    replace l500 := below_cell b6 l500
    replace l501 := below_cell b6 l501
    replace hL50 := below_row b6 hL50
    go_wp2
    go_ret
    obtain ⟨k9, hk9, hc9⟩ := HA2.out _ HR.out
    exact ⟨k9, hk9, hc9, hB.trans (hBW.mono hB.size)⟩
  · obtain ⟨ham, hbm⟩ := HW.out rfl
    clear HW
    by_cases h1 : fkey a ≤ fkey d
    · have hle1 := le_run ham hdm h1
      by_cases h2 : fkey u ≤ fkey b
      · have hle2 := le_run hum hbm h2
        have HR : Hid (Ending.returned (.bool true) = .returned (.bool (true && (decide (fkey a ≤ fkey d) && decide (fkey u ≤ fkey b))))) := by show _ = _; rw [decide_eq_true h1, decide_eq_true h2]; rfl
        clear h1 h2
        have hsz5 := hBW.size
        have l500 : ((w5.alloc (.cells #[.float .f64 d, .float .f64 u] 33))).cell? ⟨w5.heap.size, 0, none⟩ = some (.float .f64 d) := by go_simp
        have l501 : ((w5.alloc (.cells #[.float .f64 d, .float .f64 u] 33))).cell? ⟨w5.heap.size, 1, none⟩ = some (.float .f64 u) := by go_simp
        have cb5 : Below w5.heap.size w5 ((w5.alloc (.cells #[.float .f64 d, .float .f64 u] 33))) := ((Below.refl _ _).alloc (by (try simp only [World.size_alloc]); omega) _)
        replace hBW := hBW.trans (cb5.mono hBW.size)
        replace q00 := below_cell cb5 q00
        replace q01 := below_cell cb5 q01
        replace q02 := below_cell cb5 q02
        replace q10 := below_cell cb5 q10
        replace q11 := below_cell cb5 q11
        have hL50 : Row ((w5.alloc (.cells #[.float .f64 d, .float .f64 u] 33))) (w5.heap.size) := by
          have := row_new (w5) #[.float .f64 d, .float .f64 u] 33
          try simp only [World.size_alloc] at this
          exact this
        go_wp2_with fail
        generalize (w5.alloc (.cells #[.float .f64 d, .float .f64 u] 33)) = w5x at q00 q01 q02 q10 q11 l500 l501 hL50 hBW cb5 ⊢
        clear cb5
        refine (HV.out _).mono ?_
        rintro e w6 ⟨rfl, b6⟩
        replace hBW := hBW.trans (b6.mono hBW.size)
        replace q00 := below_cell b6 q00
        replace q01 := below_cell b6 q01
        replace q02 := below_cell b6 q02
        replace q10 := below_cell b6 q10
        replace q11 := below_cell b6 q11
        replace l500 := below_cell b6 l500
        replace l501 := below_cell b6 l501
        replace hL50 := below_row b6 hL50
        go_wp2
        go_ret
        obtain ⟨k9, hk9, hc9⟩ := HA2.out _ HR.out
        exact ⟨k9, hk9, hc9, hB.trans (hBW.mono hB.size)⟩
      · have hle2 := le_no (b := u) (c := b) (fun h => h2 h.2.2)
        have HR : Hid (Ending.returned (.bool false) = .returned (.bool (true && (decide (fkey a ≤ fkey d) && decide (fkey u ≤ fkey b))))) := by show _ = _; rw [decide_eq_true h1, decide_eq_false h2]; rfl
        clear h1 h2
        have hsz5 := hBW.size
        have l500 : ((w5.alloc (.cells #[.float .f64 d, .float .f64 u] 33))).cell? ⟨w5.heap.size, 0, none⟩ = some (.float .f64 d) := by go_simp
        have l501 : ((w5.alloc (.cells #[.float .f64 d, .float .f64 u] 33))).cell? ⟨w5.heap.size, 1, none⟩ = some (.float .f64 u) := by go_simp
        have cb5 : Below w5.heap.size w5 ((w5.alloc (.cells #[.float .f64 d, .float .f64 u] 33))) := ((Below.refl _ _).alloc (by (try simp only [World.size_alloc]); omega) _)
        replace hBW := hBW.trans (cb5.mono hBW.size)
        replace q00 := below_cell cb5 q00
        replace q01 := below_cell cb5 q01
        replace q02 := below_cell cb5 q02
        replace q10 := below_cell cb5 q10
        replace q11 := below_cell cb5 q11
        have hL50 : Row ((w5.alloc (.cells #[.float .f64 d, .float .f64 u] 33))) (w5.heap.size) := by
          have := row_new (w5) #[.float .f64 d, .float .f64 u] 33
          try simp only [World.size_alloc] at this
          exact this
        go_wp2_with fail
        generalize (w5.alloc (.cells #[.float .f64 d, .float .f64 u] 33)) = w5x at q00 q01 q02 q10 q11 l500 l501 hL50 hBW cb5 ⊢
        clear cb5
        refine (HV.out _).mono ?_
        rintro e w6 ⟨rfl, b6⟩
        replace hBW := hBW.trans (b6.mono hBW.size)
        replace q00 := below_cell b6 q00
        replace q01 := below_cell b6 q01
        replace q02 := below_cell b6 q02
        replace q10 := below_cell b6 q10
        replace q11 := below_cell b6 q11
        replace l500 := below_cell b6 l500
        replace l501 := below_cell b6 l501
        replace hL50 := below_row b6 hL50
        go_wp2
        go_ret
        obtain ⟨k9, hk9, hc9⟩ := HA2.out _ HR.out
        exact ⟨k9, hk9, hc9, hB.trans (hBW.mono hB.size)⟩
    · have hle1 := le_no (b := a) (c := d) (fun h => h1 h.2.2)
      have HR : Hid (Ending.returned (.bool false) = .returned (.bool (true && (decide (fkey a ≤ fkey d) && decide (fkey u ≤ fkey b))))) := by show _ = _; rw [decide_eq_false h1]; rfl
      clear h1
      have hsz5 := hBW.size
      have l500 : ((w5.alloc (.cells #[.float .f64 d, .float .f64 u] 33))).cell? ⟨w5.heap.size, 0, none⟩ = some (.float .f64 d) := by go_simp
      have l501 : ((w5.alloc (.cells #[.float .f64 d, .float .f64 u] 33))).cell? ⟨w5.heap.size, 1, none⟩ = some (.float .f64 u) := by go_simp
      have cb5 : Below w5.heap.size w5 ((w5.alloc (.cells #[.float .f64 d, .float .f64 u] 33))) := ((Below.refl _ _).alloc (by (try simp only [World.size_alloc]); omega) _)
      replace hBW := hBW.trans (cb5.mono hBW.size)
      replace q00 := below_cell cb5 q00
      replace q01 := below_cell cb5 q01
      replace q02 := below_cell cb5 q02
      replace q10 := below_cell cb5 q10
      replace q11 := below_cell cb5 q11
      have hL50 : Row ((w5.alloc (.cells #[.float .f64 d, .float .f64 u] 33))) (w5.heap.size) := by
        have := row_new (w5) #[.float .f64 d, .float .f64 u] 33
        try simp only [World.size_alloc] at this
        exact this
      go_wp2_with fail
      generalize (w5.alloc (.cells #[.float .f64 d, .float .f64 u] 33)) = w5x at q00 q01 q02 q10 q11 l500 l501 hL50 hBW cb5 ⊢
      clear cb5
      refine (HV.out _).mono ?_
      rintro e w6 ⟨rfl, b6⟩
      replace hBW := hBW.trans (b6.mono hBW.size)
      replace q00 := below_cell b6 q00
      replace q01 := below_cell b6 q01
      replace q02 := below_cell b6 q02
      replace q10 := below_cell b6 q10
      replace q11 := below_cell b6 q11
      replace l500 := below_cell b6 l500
      replace l501 := below_cell b6 l501
      replace hL50 := below_row b6 hL50
      go_wp2
      go_ret
      obtain ⟨k9, hk9, hc9⟩ := HA2.out _ HR.out
      exact ⟨k9, hk9, hc9, hB.trans (hBW.mono hB.size)⟩
end Go.Proofs.Ythecapmdionnmaa
