/-
  Where a number lies among the floats: the program's cutOff.
-/
import Derived.Test.YthecapmdionnmaaWF2
import Derived.Test.YthecapmdionnmaaNumE
import Derived.Test.YthecapmdionnmaaW11
namespace Go.Proofs.Ythecapmdionnmaa
open Go.RowKit
set_option linter.unusedVariables false

set_option maxHeartbeats 1000000 in
theorem measured_is (ao ao2 : Option Addr) (n cap L m cap2 U : Nat) (C : Int) (w : World) (hc : n ≤ cap) (hm : n ≤ 35184372088832) (hS : Seg w ao L n) (hc2 : m ≤ cap2) (hm2 : m ≤ 35184372088832) (hS2 : Seg w ao2 U m) (hC : (if L = 0 then 0 else 2 + cmpI (L + L) U) = C) :
    Calls Try.prog 35 #[.slice ao n cap, .slice ao2 m cap2] w fun e w' => e = .returned (.int .i64 C) ∧ Below w.heap.size w w' := by
  by_cases h0 : L = 0
  · rw [if_pos h0] at hC
    subst h0
    subst hC
    have hb : ((bl 0 : Nat) : Int) = 0 := by rw [bl_zero]; rfl
    go_enter Try.func35, Try.ntmps35
    go_wp2_with fail
    refine (Bits_any _ _ _ 0 _ hc (by omega) hS).mono ?_
    rintro e w' ⟨rfl, rfl⟩
    rw [hb]
    go_wp2
    go_ret
    exact ⟨rfl, Below.refl _ _⟩
  · rw [if_neg h0] at hC
    have hb : (((bl L : Nat) : Int) == 0) = false := by rw [beq_eq_false_iff_ne, bl_pos h0]; omega
    clear h0
    obtain ⟨Z, hZ⟩ : ∃ Z, L + L = Z := ⟨_, rfl⟩
    rw [hZ] at hC
    have hr : -1 ≤ cmpI Z U ∧ cmpI Z U ≤ 1 := by
      unfold cmpI; split
      · omega
      · split <;> omega
    have lZ : ln Z ≤ n + 1 := ln_le_of_lt (by
      rw [← hZ, Nat.pow_succ]
      have := hS.1
      have h2 : 2 ≤ BB := by rw [BB_eq]; omega
      have h3 : BB ^ n * 2 ≤ BB ^ n * BB := Nat.mul_le_mul_left _ h2
      omega)
    have HA := hide' (Add_is ao ao n cap L n cap L Z w hc (by omega) hS hc (by omega) hS hZ)
    have HC := hide' (fun w' a k => Cmp_any a ao2 (ln Z) (ln Z) Z m cap2 U w' (Nat.le_refl _) (by omega) k hc2 (by omega))
    clear hZ
    generalize cmpI Z U = c at HC hC hr
    subst hC
    go_enter Try.func35, Try.ntmps35
    go_wp2_with fail
    refine (Bits_any _ _ _ L _ hc (by omega) hS).mono ?_
    rintro e w' ⟨rfl, rfl⟩
    go_wp2_with fail
    refine HA.out.mono ?_
    rintro e w1 ⟨a1, rfl, h1⟩
    go_wp2_with fail
    refine (HC.out _ _ h1.seg (hS2.below h1.below (Nat.le_refl _))).mono ?_
    rintro e w2 ⟨rfl, hd⟩
    go_wp2
    go_ret
    exact ⟨rfl, h1.below.trans (hd.below _)⟩
set_option maxHeartbeats 1000000 in
theorem together_is (m e k : Nat) (w : World) (hm : m < 9007199254740992) (he : e ≤ 2046) (hk : e * LD + m = k) :
    Calls Try.prog 34 #[.int .u64 (m : Int), .int .i64 ((e : Int) - 1074)] w fun r w' => r = .returned (.int .u64 (k : Int)) ∧ w = w' := by
  have e0 : LD = 4503599627370496 := rfl
  rw [e0] at hk
  subst hk
  go_enter Try.func34, Try.ntmps34
  go_wp2
  go_ret
  exact ⟨ret_int (by omega), rfl⟩

/-- a number without its sign: what is above -/
def rN (X Y : Nat) : Nat := if Y = 0 then 0 else X
theorem rN_of {X Y : Nat} (h : Y ≠ 0) : rN X Y = X := if_neg h
theorem rN_am (s : Bool) (X Y : Nat) : am (rn s X Y) = rN X Y := by
  unfold rn rN; split
  · rfl
  · exact am_sg _ _
theorem rN_le (X Y : Nat) : rN X Y ≤ X := by unfold rN; split <;> omega
theorem rst_nought {T D : Nat} : rst T 0 D 0 = 0 := by rw [rst_zero, amt_zero, Nat.zero_mul, Nat.zero_mul]
theorem rn_sgn {s : Bool} {X Y : Nat} (hX : X ≠ 0) (hY : Y ≠ 0) : sgn (rn s X Y) = if s then -1 else 1 := by
  rw [rn_of hY]
  cases s
  · exact sgn_pos (by unfold sg; simp; omega)
  · exact sgn_neg (by unfold sg; simp; omega)
theorem rn_lt {s : Bool} {X Y : Nat} (hX : X ≠ 0) (hY : Y ≠ 0) : decide (rn s X Y < 0) = s := by
  rw [rn_of hY]
  cases s
  · rw [decide_eq_false_iff_not]; unfold sg; simp
  · rw [decide_eq_true_iff]; unfold sg; simp; omega
theorem rn_nought {s : Bool} {X Y : Nat} (h : X = 0 ∨ Y = 0) : rn s X Y = 0 := by
  unfold rn; split
  · rfl
  · rcases h with h | h
    · subst h; unfold sg; cases s <;> rfl
    · contradiction
theorem rN_nought {X Y : Nat} (h : X = 0 ∨ Y = 0) : rN X Y = 0 := by
  unfold rN; split
  · rfl
  · rcases h with h | h
    · exact h
    · contradiction
theorem st_lt {X Y z : Nat} (hX : X ≠ 0) (hY : Y ≠ 0) (hz : z = 1074) {e : Nat} (he : bl X + 1021 ≤ bl Y + e) : quo z X Y e < 18014398509481984 := by
  have h1 := bl_pos hY
  exact quo_lt (t := 54) (bl_lt X) (bl_le hY) (by omega) (by omega)
theorem st_ge {X Y z : Nat} (hX : X ≠ 0) (hY : Y ≠ 0) (hz : z = 1074) {e : Nat} (he : bl Y + e ≤ bl X + 1021) : LD ≤ quo z X Y e := by
  have h1 := bl_pos hX
  exact quo_ge (t := 52) (bl_le hX) (by omega) (bl_lt Y) (by omega) (by omega)
theorem ln_shift {X n s : Nat} (h : X < BB ^ n) : ln (X * 2 ^ s) ≤ n + s := by
  refine ln_le_of_lt ?_
  rw [Nat.pow_add]
  exact Nat.lt_of_lt_of_le (Nat.mul_lt_mul_of_pos_right h (Nat.two_pow_pos s)) (Nat.mul_le_mul_left _ (Nat.pow_le_pow_left (by rw [BB_eq]; omega) s))

set_option maxHeartbeats 4000000 in
set_option maxRecDepth 100000 in
theorem cutOff_is (s0 : Bool) (a0 : Option Addr) (n0 c0 X0 : Nat) (b0 : Option Addr) (m0 d0 Y0 : Nat) (z T : Nat) (w : World) (hc0 : n0 ≤ c0) (hm0 : n0 ≤ 35184372087808) (hS0 : Seg w a0 X0 n0) (hd0 : m0 ≤ d0) (hk0 : m0 ≤ 35184372087808) (hT0 : Seg w b0 Y0 m0) (hz : z = 1074) (hT : T = 2 ^ z) :
    Calls Try.prog 16 #[Value.agg #[Value.bool s0, Value.slice a0 n0 c0, Value.slice b0 m0 d0]] w fun e w' => ∃ k, e = .returned (.agg #[.bool (decide (rn s0 X0 Y0 < 0)), .int .u64 ((k : Nat) : Int), .int .i64 (rst T (rN X0 Y0) (rd Y0) k)]) ∧ Cut T (rN X0 Y0) (rd Y0) k ∧ Below w.heap.size w w' := by
  by_cases h0 : X0 = 0 ∨ Y0 = 0
  · have e1 := rn_nought (s := s0) h0
    have e2 := rN_nought h0
    have hC : sgn (rn s0 X0 Y0) = 0 := by rw [e1]; rfl
    rw [e1, e2]
    have HS := hide' (fun w' k1 k2 => qSign_is s0 a0 n0 c0 X0 b0 m0 d0 Y0 0 w' hc0 (by omega) k1 hd0 (by omega) k2 hC)
    have hD := rd_pos Y0
    clear h0 e1 e2 hC
    go_enter Try.func16, Try.ntmps16
    go_wp2_with fail
    obtain ⟨W, hW⟩ : ∃ W, ((w.alloc (.cells #[.bool s0, .slice a0 n0 c0, .slice b0 m0 d0] 27)).alloc (.cells #[.bool false, .int .u64 0, .int .i64 0] 52)) = W := ⟨_, rfl⟩
    have q00 : W.cell? ⟨w.heap.size, 0, none⟩ = some (.bool s0) := by subst hW; go_simp
    have q01 : W.cell? ⟨w.heap.size, 1, none⟩ = some (.slice a0 n0 c0) := by subst hW; go_simp
    have q02 : W.cell? ⟨w.heap.size, 2, none⟩ = some (.slice b0 m0 d0) := by subst hW; go_simp
    have r00 : W.cell? ⟨w.heap.size + 1, 0, none⟩ = some (.bool false) := by subst hW; go_simp
    have r01 : W.cell? ⟨w.heap.size + 1, 1, none⟩ = some (.int .u64 0) := by subst hW; go_simp
    have r02 : W.cell? ⟨w.heap.size + 1, 2, none⟩ = some (.int .i64 0) := by subst hW; go_simp
    have hB : Below w.heap.size w W := by subst hW; exact (((Below.refl _ _).alloc (by (try simp only [World.size_alloc]); omega) _).alloc (by (try simp only [World.size_alloc]); omega) _)
    have hR0 : Row W (w.heap.size + 1) := by
      have := row_new ((w.alloc (.cells #[.bool s0, .slice a0 n0 c0, .slice b0 m0 d0] 27))) #[.bool false, .int .u64 0, .int .i64 0] 52
      try simp only [World.size_alloc] at this
      subst hW; exact this
    have hz : W.heap.size = w.heap.size + 1 + 1 := by subst hW; simp only [World.size_alloc]
    rw [hW]
    clear hW
    have hBW : Below W.heap.size W W := Below.refl _ _
    go_wp2_with fail
    refine (HS.out _ (sb hS0 hB hBW) (sb hT0 hB hBW)).mono ?_
    rintro e w1 ⟨rfl, b1⟩
    replace hBW := hBW.trans (b1.mono hBW.size)
    replace q00 := below_cell b1 q00
    replace q01 := below_cell b1 q01
    replace q02 := below_cell b1 q02
    replace r00 := below_cell b1 r00
    replace r01 := below_cell b1 r01
    replace r02 := below_cell b1 r02
    replace hR0 := below_row b1 hR0
    have fz0 := fun o => hR0.frozen o
    go_wp2
    all_goals refine bodyPost_ret (v := .agg #[.bool false, .int .u64 0, .int .i64 0]) (by rw [results_cell rfl]; go_simp) rfl ?_
    all_goals exact ⟨0, by rw [rst_nought]; rfl, Cut.nought T hD, ((bset (bset (bset (hB.trans (hBW.mono hB.size)) (by omega)) (by omega)) (by omega)))⟩
  · obtain ⟨hX, hY⟩ : X0 ≠ 0 ∧ Y0 ≠ 0 := ⟨fun h => h0 (Or.inl h), fun h => h0 (Or.inr h)⟩
    clear h0
    rw [rn_lt hX hY, rN_of hY, rd_of hY]
    have hsg := rn_sgn (s := s0) hX hY
    have HS := hide' (fun w' k1 k2 => qSign_is s0 a0 n0 c0 X0 b0 m0 d0 Y0 (if s0 then -1 else 1) w' hc0 (by omega) k1 hd0 (by omega) k2 hsg)
    have hlt : decide ((if s0 then -1 else 1 : Int) < 0) = s0 := by cases s0 <;> rfl
    have hne : ((if s0 then -1 else 1 : Int) == 0) = false := by cases s0 <;> rfl
    have hrg : -1 ≤ (if s0 then -1 else 1 : Int) ∧ (if s0 then -1 else 1 : Int) ≤ 1 := by cases s0 <;> decide
    clear hsg
    generalize (if s0 then -1 else 1 : Int) = sd at HS hlt hne hrg
    have hx := hS0.1
    have hy := hT0.1
    have bx := bl_le_len hx
    have by_ := bl_le_len hy
    obtain ⟨e0, he0⟩ : ∃ e0 : Nat, max (((bl X0 : Nat) : Int) - ((bl Y0 : Nat) : Int) - 53) (-1074) = (e0 : Int) - 1074 := ⟨(max (((bl X0 : Nat) : Int) - ((bl Y0 : Nat) : Int) - 53) (-1074) + 1074).toNat, by omega⟩
    have hq0 := hide' (st_lt hX hY hz (e := e0) (by omega))
    have hg0 : Hid (e0 = 0 ∨ LD ≤ quo z X0 Y0 e0) := by
      by_cases h : e0 = 0
      · exact Or.inl h
      · exact Or.inr (st_ge hX hY hz (by omega))
    have hbig : e0 ≤ 1125899906850000 := by omega
    have HX := hide' hX
    have HY := hide' hY
    have HZ := hide' hz
    have HT := hide' hT
    clear hX hY hz hT
    go_enter Try.func16, Try.ntmps16
    go_wp2_with fail
    obtain ⟨W, hW⟩ : ∃ W, ((w.alloc (.cells #[.bool s0, .slice a0 n0 c0, .slice b0 m0 d0] 27)).alloc (.cells #[.bool false, .int .u64 0, .int .i64 0] 52)) = W := ⟨_, rfl⟩
    have q00 : W.cell? ⟨w.heap.size, 0, none⟩ = some (.bool s0) := by subst hW; go_simp
    have q01 : W.cell? ⟨w.heap.size, 1, none⟩ = some (.slice a0 n0 c0) := by subst hW; go_simp
    have q02 : W.cell? ⟨w.heap.size, 2, none⟩ = some (.slice b0 m0 d0) := by subst hW; go_simp
    have r00 : W.cell? ⟨w.heap.size + 1, 0, none⟩ = some (.bool false) := by subst hW; go_simp
    have r01 : W.cell? ⟨w.heap.size + 1, 1, none⟩ = some (.int .u64 0) := by subst hW; go_simp
    have r02 : W.cell? ⟨w.heap.size + 1, 2, none⟩ = some (.int .i64 0) := by subst hW; go_simp
    have hB : Below w.heap.size w W := by subst hW; exact (((Below.refl _ _).alloc (by (try simp only [World.size_alloc]); omega) _).alloc (by (try simp only [World.size_alloc]); omega) _)
    have hR0 : Row W (w.heap.size + 1) := by
      have := row_new ((w.alloc (.cells #[.bool s0, .slice a0 n0 c0, .slice b0 m0 d0] 27))) #[.bool false, .int .u64 0, .int .i64 0] 52
      try simp only [World.size_alloc] at this
      subst hW; exact this
    have hz : W.heap.size = w.heap.size + 1 + 1 := by subst hW; simp only [World.size_alloc]
    rw [hW]
    clear hW
    have hBW : Below W.heap.size W W := Below.refl _ _
    go_wp2_with fail
    refine (HS.out _ (sb hS0 hB hBW) (sb hT0 hB hBW)).mono ?_
    rintro e w1 ⟨rfl, b1⟩
    replace hBW := hBW.trans (b1.mono hBW.size)
    replace q00 := below_cell b1 q00
    replace q01 := below_cell b1 q01
    replace q02 := below_cell b1 q02
    replace r00 := below_cell b1 r00
    replace r01 := below_cell b1 r01
    replace r02 := below_cell b1 r02
    replace hR0 := below_row b1 hR0
    go_wp2_with fail
    replace hBW := hBW.drew
    first
      | go_region_held3 (fun w' => w'.cell? ⟨w.heap.size, 0, none⟩ = some (.bool s0) ∧ w'.cell? ⟨w.heap.size, 1, none⟩ = some (.slice a0 n0 c0) ∧ w'.cell? ⟨w.heap.size, 2, none⟩ = some (.slice b0 m0 d0) ∧ Below w.heap.size w w')
          (first | exact ⟨q00, q01, q02, hB.trans (hBW.mono hB.size)⟩ | exact kp3 (below_alloc _) (by assumption) | exact kp3 (below_alloc _) ⟨q00, q01, q02, hB.trans (hBW.mono hB.size)⟩ | exact kpT3_3 (by assumption) (by omega) (by omega) (by omega) (by omega))
          (first
            | fail)
      | fail
    go_wp2_with fail
    refine (Bits_any _ _ _ X0 _ hc0 (by omega) (sb hS0 hB hBW)).mono ?_
    rintro e w2 ⟨rfl, rfl⟩
    go_wp2_with fail
    refine (Bits_any _ _ _ Y0 _ hd0 (by omega) (sb hT0 hB hBW)).mono ?_
    rintro e w3 ⟨rfl, rfl⟩
    clear hx hy
    go_wp2_with fail
    have bd : Below w1.heap.size w1 w1.drew := (Below.refl _ _).drew
    replace q00 := below_cell bd q00
    replace q01 := below_cell bd q01
    replace q02 := below_cell bd q02
    replace r00 := below_cell bd r00
    replace r01 := below_cell bd r01
    replace r02 := below_cell bd r02
    replace hR0 := below_row bd hR0
    clear bd b1
    rename_i hHeld _ _
    clear hHeld
    generalize w1.drew = w4 at q00 q01 q02 r00 r01 r02 hR0 hBW ⊢
    go_loopw [7] (fun t wr => ∃ e : Nat, t = .int .i64 ((e : Int) - 1074) ∧ e ≤ 1125899906850000 ∧ Below w4.heap.size w4 wr ∧ quo z X0 Y0 e < 18014398509481984 ∧ (e = 0 ∨ LD ≤ quo z X0 Y0 e)) (fun t _ => (1000 - intOf t).toNat)
    case atStart => exact ⟨e0, rfl, hbig, Below.refl _ _, hq0.out, hg0.out⟩
    case round =>
      clear hq0 hg0 hbig he0
      obtain ⟨e, rfl, heb, hL, hq, hg⟩ := hrel
      replace hBW := hBW.trans (hL.mono hBW.size)
      replace q00 := below_cell hL q00
      replace q01 := below_cell hL q01
      replace q02 := below_cell hL q02
      replace r00 := below_cell hL r00
      replace r01 := below_cell hL r01
      replace r02 := below_cell hL r02
      replace hR0 := below_row hL hR0
      have HQ := hide' hq
      have HG := hide' hg
      clear hq hg
      by_cases hle : e ≤ 2045
      · have hU := hide' (lef_lt (D := Y0) (by have := HY.out; omega) z X0 e)
        have hE := hide' (quo_eq z X0 Y0 e)
        have hM := hide' (fun h => met_quo (N := X0) HT.out (by have := HY.out; omega) hle HG.out h)
        obtain ⟨P, hP⟩ : ∃ P, X0 * 2 ^ (z - e) = P := ⟨_, rfl⟩
        obtain ⟨U, hUd⟩ : ∃ U, Y0 * 2 ^ (e - z) = U := ⟨_, rfl⟩
        rw [hUd] at hU hE hM
        rw [hP] at hE
        obtain ⟨Q, hQd⟩ : ∃ Q, quo z X0 Y0 e = Q := ⟨_, rfl⟩
        obtain ⟨L, hLd⟩ : ∃ L, lef z X0 Y0 e = L := ⟨_, rfl⟩
        have HN := hide' (quo_succ z X0 Y0 e)
        rw [hQd] at hE hM HQ HG HN
        rw [hLd] at hE hU hM
        have lP : ln P ≤ n0 + 1074 := by rw [← hP]; have := ln_shift (s := z - e) hS0.1; have := HZ.out; omega
        have lU : ln U ≤ m0 + 971 := by rw [← hUd]; have := ln_shift (s := e - z) hT0.1; have := HZ.out; omega
        have lQ : ln Q ≤ 2 := ln_le_of_lt (by rw [BB2]; have := HQ.out; omega)
        have lL : ln L ≤ ln U := ln_mono (Nat.le_of_lt hU.out)
        have x1 : ((e : Int) - 1074).toNat = e - z := by have := HZ.out; omega
        have x2 : (-((e : Int) - 1074)).toNat = z - e := by have := HZ.out; omega
        have H1 := hide' (fun w' k => higher_is b0 m0 d0 Y0 ((e : Int) - 1074) U w' hd0 (by omega) (by omega) (by omega) k (by rw [x1]; exact hUd))
        have H2 := hide' (fun w' k => higher_is a0 n0 c0 X0 (-((e : Int) - 1074)) P w' hc0 (by omega) (by omega) (by omega) k (by rw [x2]; exact hP))
        have H3 := hide' (fun w' p q k1 k2 => Div_is p q (ln P) (ln P) P (ln U) (ln U) U Q L w' (Nat.le_refl _) (by omega) k1 (Nat.le_refl _) (by omega) k2 hE.out hU.out)
        clear hP hUd x1 x2 hE hLd
        go_wp2_with fail
        refine (H1.out _ (sb hT0 hB hBW)).mono ?_
        rintro e w2 ⟨a2, rfl, h5⟩
        have b2 := h5.below
        replace h5 := h5.back hBW
        replace hBW := hBW.trans (b2.mono hBW.size)
        replace hL := hL.trans (b2.mono hL.size)
        replace q00 := below_cell b2 q00
        replace q01 := below_cell b2 q01
        replace q02 := below_cell b2 q02
        replace r00 := below_cell b2 r00
        replace r01 := below_cell b2 r01
        replace r02 := below_cell b2 r02
        replace hR0 := below_row b2 hR0
        go_wp2_with fail
        refine (H2.out _ (sb hS0 hB hBW)).mono ?_
        rintro e w3 ⟨a3, rfl, h6⟩
        have b3 := h6.below
        replace h6 := h6.back hBW
        replace hBW := hBW.trans (b3.mono hBW.size)
        replace hL := hL.trans (b3.mono hL.size)
        replace q00 := below_cell b3 q00
        replace q01 := below_cell b3 q01
        replace q02 := below_cell b3 q02
        replace r00 := below_cell b3 r00
        replace r01 := below_cell b3 r01
        replace r02 := below_cell b3 r02
        replace hR0 := below_row b3 hR0
        replace h5 := h5.later b3
        go_wp2_with fail
        refine (H3.out _ _ _ h6.seg h5.seg).mono ?_
        rintro e w4 ⟨aq, ar, rfl, hq, hr⟩
        have b4 := hq.below
        replace hq := hq.back hBW
        replace hr := hr.back hBW
        replace hBW := hBW.trans (b4.mono hBW.size)
        replace hL := hL.trans (b4.mono hL.size)
        replace q00 := below_cell b4 q00
        replace q01 := below_cell b4 q01
        replace q02 := below_cell b4 q02
        replace r00 := below_cell b4 r00
        replace r01 := below_cell b4 r01
        replace r02 := below_cell b4 r02
        replace hR0 := below_row b4 hR0
        replace h5 := h5.later b4
        replace h6 := h6.later b4
        have hsm : smV Q = Q := smV_of (by have := HQ.out; omega)
        go_wp2_with fail
        refine (Small_any _ _ _ Q _ (Nat.le_refl _) (by omega) hq.seg).mono ?_
        rintro e7 w7 ⟨rfl, rfl⟩
        rw [hsm]
        clear hsm
        by_cases hf : Q < 9007199254740992
        · have hMet := hM.out (by rw [show 2 * LD = 9007199254740992 from rfl]; exact hf)
          have hcut := hMet.cut
          have hrst := hMet.rst.symm
          obtain ⟨k, hk⟩ : ∃ k, e * LD + Q = k := ⟨_, rfl⟩
          rw [hk] at hcut hrst
          have hrr := rst_rng T X0 Y0 k
          obtain ⟨rs, hrs⟩ : ∃ rs, rst T X0 Y0 k = rs := ⟨_, rfl⟩
          have HR := hide' hrs
          rw [hrs] at hrst hrr
          clear hrs
          have H4 := hide' (fun w' => together_is Q e k w' hf (by omega) hk)
          have H5 := hide' (fun w' p q k1 k2 => measured_is p q (ln L) (ln L) L (ln U) (ln U) U rs w' (Nat.le_refl _) (by omega) k1 (Nat.le_refl _) (by omega) k2 hrst)
          have HC := hide' hcut
          have hfc : ((Q : Int) < 9007199254740992) = True := eq_true (by omega)
          clear hMet hcut hrst hk hf hM
          go_wp2_with fail
          refine (H4.out _).mono ?_
          rintro e8 w8 ⟨rfl, rfl⟩
          go_wp2_with fail
          refine (H5.out _ _ _ hr.seg h5.seg).mono ?_
          rintro e w5 ⟨rfl, b5⟩
          replace hBW := hBW.trans (b5.mono hBW.size)
          replace hL := hL.trans (b5.mono hL.size)
          replace q00 := below_cell b5 q00
          replace q01 := below_cell b5 q01
          replace q02 := below_cell b5 q02
          replace r00 := below_cell b5 r00
          replace r01 := below_cell b5 r01
          replace r02 := below_cell b5 r02
          replace hR0 := below_row b5 hR0
          replace h5 := h5.later b5
          replace h6 := h6.later b5
          replace hq := hq.later b5
          replace hr := hr.later b5
          have fz0 := fun o => hR0.frozen o
          go_wp2
          all_goals refine bodyPost_ret (v := .agg #[.bool s0, .int .u64 (k : Int), .int .i64 rs]) (by rw [results_cell rfl]; go_simp) rfl ?_
          all_goals exact ⟨k, by rw [HR.out], HC.out, ((bset (bset (bset (hB.trans (hBW.mono hB.size)) (by omega)) (by omega)) (by omega)))⟩
        · have hfc : ((Q : Int) < 9007199254740992) = False := eq_false (by omega)
          go_wp2_with fail
          go_roundw
          case rel => exact ⟨e + 1, by go_num, by omega, hL, by rw [HN.out]; have := HQ.out; omega, Or.inr (by rw [HN.out, show LD = 4503599627370496 from rfl]; omega)⟩
          case measure => simp [intOf]; omega
      · obtain ⟨y, hyd⟩ : ∃ y : Nat, y = 1024 := ⟨_, rfl⟩
        have hfar := far_cut (N := X0) (y := y) HT.out (by have := HZ.out; omega) (by have := HY.out; omega) (quo_far (t := 52) (by have := HY.out; omega) (HG.out.resolve_left (by omega)) (by have := HZ.out; omega))
        obtain ⟨hcut, hrs, _⟩ := hfar
        have HC := hide' hcut
        have HR := hide' hrs
        clear hcut hrs
        have hfc : ((e : Int) - 1074 ≤ 971) = False := eq_false (by omega)
        have hfd : (971 < (e : Int) - 1074) = True := eq_true (by omega)
        have fz0 := fun o => hR0.frozen o
        go_wp2
        all_goals refine bodyPost_ret (v := .agg #[.bool s0, .int .u64 9218868437227405311, .int .i64 3]) (by rw [results_cell rfl]; go_simp) rfl ?_
        all_goals exact ⟨FI - 1, by rw [HR.out]; rfl, HC.out, ((bset (bset (bset (hB.trans (hBW.mono hB.size)) (by omega)) (by omega)) (by omega)))⟩
end Go.Proofs.Ythecapmdionnmaa
