/-
  SexprPrints: the reference's printed and Print; the walk.
-/
import Derived.Test.YtpfmamimhhnbiaaGreatDoorSPF
import Derived.Test.YtpfmamimhhnbiaaGreatDoorTP5
namespace Go.Proofs.YtpfmamimhhnbiaaGreatDoor
open Go.RowKit
set_option linter.unusedVariables false
set_option linter.unusedSimpArgs false
theorem szY_app (a b : List NdZ) : szY (a ++ b) = szY a + szY b := by
  induction a with
  | nil => simp [szY]
  | cons x a ih => simp only [List.cons_append, szY, ih]; omega
theorem szY_take {l : List NdZ} {k : Nat} (h : k < l.length) : szY (l.take (k + 1)) = szY (l.take k) + szZ l[k] := by
  rw [List.take_add_one, List.getElem?_eq_getElem h, szY_app]
  simp [szY]
theorem szY_take_le (l : List NdZ) (k : Nat) : szY (l.take k) ≤ szY l := by
  have := szY_app (l.take k) (l.drop k)
  rw [List.take_append_drop] at this
  omega
noncomputable def pdS (n : NdZ) : List UInt8 := if erZ n = 0 then txZ n else []
set_option maxHeartbeats 8000000 in
set_option maxRecDepth 100000 in
theorem rsizeZ {w0 : World} {v : Value} {kids : List NdZ} (h1 : ZIn w0 v kids) : ∀ (t : TokZ) (R : Nat) (w : World) (hB0 : Below w0.heap.size w0 w) (hR : szZ (.mk t kids) = R) (hl : R ≤ 4611686018427387904), Calls Tryz.prog 6 #[.agg #[.int .i64 t.k, .string t.t, .int .i64 t.b, .int .i64 t.e, .int .i64 t.l, .int .i64 t.c, v]] w fun e w' => e = .returned (.int .i64 R) ∧ Below w.heap.size w w' := by
  induction h1 with
  | mk a g off c kids vs ha hb hc hv hk ih =>
    intro t R w hB0 hR hl
    have IH := hideT ih
    have HC := hideT (And.intro hc hv)
    have HKS := hideT (fun i (h : i < kids.length) => (hk i h).sh)
    have HB0 := hideT hB0
    have HA := hideT ha
    clear ih hc hv hk hB0 ha
    have hB := below_alloc (w := w) (.cells #[.int .i64 t.k, .string t.t, .int .i64 t.b, .int .i64 t.e, .int .i64 t.l, .int .i64 t.c, .slice a kids.length c] 26)
    have qA := Blk.new w #[.int .i64 t.k, .string t.t, .int .i64 t.b, .int .i64 t.e, .int .i64 t.l, .int .i64 t.c, .slice a kids.length c] 26
    have HR := hideT hR
    have HL := hideT hl
    clear hR hl
    go_enter Tryz.func6, Tryz.ntmps6
    go_upto_region 1 with fail
    generalize w.alloc (.cells #[.int .i64 t.k, .string t.t, .int .i64 t.b, .int .i64 t.e, .int .i64 t.l, .int .i64 t.c, .slice a kids.length c] 26) = W at hB qA ⊢
    have x0 := qA.cell 0
    have x1 := qA.cell 1
    have x2 := qA.cell 2
    have x3 := qA.cell 3
    have x4 := qA.cell 4
    have x5 := qA.cell 5
    have x6 := qA.cell 6
    simp only [List.getElem?_toArray, List.getElem?_cons_zero, List.getElem?_cons_succ] at x0 x1 x2 x3 x4 x5 x6
    by_cases h0 : t.k = 0
    rotate_left
    · have y0 : (t.k != 0) = true := by simp [h0]
      have hr : R = 1 := by have := HR.out; simp only [szZ] at this; rw [if_neg h0] at this; exact this.symm
      subst hr
      clear h0
      go_wp2
      go_ret
      exact ⟨rfl, hB⟩
    have y0 : (t.k != 0) = false := by simp [h0]
    have HS := hideT (show 2 + szY kids = R by have := HR.out; simp only [szZ] at this; rw [if_pos h0] at this; exact this)
    clear h0 HR
    go_wp2_with fail
    go_loopw [3, 4] (fun s i wr => ∃ k m : Nat, k ≤ kids.length ∧ i = .int .i64 k ∧ s = .int .i64 m ∧ m = 2 + szY (kids.take k) ∧ Blk wr w.heap.size #[.int .i64 t.k, .string t.t, .int .i64 t.b, .int .i64 t.e, .int .i64 t.l, .int .i64 t.c, .slice a kids.length c] 26 ∧ Below w.heap.size w wr) (fun s i _ => kids.length - (intOf i).toNat)
    case atStart => exact ⟨0, 2, Nat.zero_le _, rfl, rfl, by simp [szY], qA, hB⟩
    case round =>
      clear qA hB x0 x1 x2 x3 x4 x5 x6
      obtain ⟨k, m, hk, rfl, rfl, hm, qA, hB⟩ := hrel
      have HM := hideT hm
      clear hm
      have x6 := qA.cell 6
      simp only [List.getElem?_toArray, List.getElem?_cons_zero, List.getElem?_cons_succ] at x6
      by_cases hlt : k < kids.length
      · have hki : ((k : Int) < (kids.length : Int)) := by omega
        have ea := HA.out (by omega)
        subst ea
        have h0 := HB0.out.trans (hB.mono HB0.out.size)
        obtain ⟨hc, hv⟩ := HC.out
        obtain ⟨T, hT⟩ : ∃ T, kids[k].t = T := ⟨_, rfl⟩
        have a0 := hc k hlt 0 (by decide)
        have a1 := hc k hlt 1 (by decide)
        have a2 := hc k hlt 2 (by decide)
        have a3 := hc k hlt 3 (by decide)
        have a4 := hc k hlt 4 (by decide)
        have a5 := hc k hlt 5 (by decide)
        rw [hT] at a0 a1 a2 a3 a4 a5
        simp only [TokZ.cells, List.getElem?_cons_zero, List.getElem?_cons_succ] at a0 a1 a2 a3 a4 a5
        rw [Nat.add_zero] at a0
        have a6 := hv k hlt
        replace a0 := below_cell h0 a0
        replace a1 := below_cell h0 a1
        replace a2 := below_cell h0 a2
        replace a3 := below_cell h0 a3
        replace a4 := below_cell h0 a4
        replace a5 := below_cell h0 a5
        replace a6 := below_cell h0 a6
        have e1 : NdZ.mk T kids[k].kids = kids[k] := by rw [← hT, ndz_eta]
        have e2 := szY_take hlt
        have e3 := szY_take_le kids (k + 1)
        have e4 := HS.out
        have e5 := HM.out
        have e6 := HL.out
        obtain ⟨sz, hsz⟩ : ∃ sz, szZ kids[k] = sz := ⟨_, rfl⟩
        have GI := hideT (IH.out k hlt T sz wr h0 (by rw [e1]; exact hsz) (by omega))
        have HN := hideT (show m + sz = 2 + szY (kids.take (k + 1)) by omega)
        have hl1 : m ≤ 4611686018427387904 := by omega
        have hl2 : sz ≤ 4611686018427387904 := by omega
        have HLL := hideT (show m + sz ≤ 4611686018427387904 by omega)
        clear hsz e2 e3 e4 e5 e6 h0
        obtain ⟨ua, uc, eu⟩ := HKS.out k hlt
        obtain ⟨un, hun⟩ : ∃ un, kids[k].kids.length = un := ⟨_, rfl⟩
        rw [hun] at eu
        rw [eu] at a6 GI
        clear eu hun hT hc hv e1
        go_wp2_with fail
        refine GI.out.mono ?_
        rintro e w5 ⟨rfl, b5⟩
        replace hB := hB.trans (b5.mono hB.size)
        replace qA := qA.later b5
        clear b5 GI x6 a6 a0 a1 a2 a3 a4 a5
        have hl3 := HLL.out
        go_wp2
        go_roundw
        case rel => exact ⟨k + 1, m + sz, by omega, by go_num, by go_num, HN.out, qA, hB⟩
        case measure => simp [intOf]; omega
      · have hki : ¬ ((k : Int) < (kids.length : Int)) := by omega
        have hmr : m = R := by have h1 := HM.out; have h2 := HS.out; rw [List.take_of_length_le (by omega)] at h1; omega
        subst hmr
        go_wp2
        go_ret
        exact ⟨rfl, hB⟩

set_option maxHeartbeats 8000000 in
set_option maxRecDepth 100000 in
theorem psizeZ {w0 : World} {v : Value} {kids : List NdZ} (h1 : ZIn w0 v kids) : ∀ (t : TokZ) (R : Nat) (w : World) (hB0 : Below w0.heap.size w0 w) (hR : szZ (.mk t kids) = R) (hl : R ≤ 4611686018427387904), Calls Tryz.prog 9 #[.agg #[.int .i64 t.k, .string t.t, .int .i64 t.b, .int .i64 t.e, .int .i64 t.l, .int .i64 t.c, v]] w fun e w' => e = .returned (.int .i64 R) ∧ Below w.heap.size w w' := by
  induction h1 with
  | mk a g off c kids vs ha hb hc hv hk ih =>
    intro t R w hB0 hR hl
    have IH := hideT ih
    have HC := hideT (And.intro hc hv)
    have HKS := hideT (fun i (h : i < kids.length) => (hk i h).sh)
    have HB0 := hideT hB0
    have HA := hideT ha
    clear ih hc hv hk hB0 ha
    have hB := below_alloc (w := w) (.cells #[.int .i64 t.k, .string t.t, .int .i64 t.b, .int .i64 t.e, .int .i64 t.l, .int .i64 t.c, .slice a kids.length c] 26)
    have qA := Blk.new w #[.int .i64 t.k, .string t.t, .int .i64 t.b, .int .i64 t.e, .int .i64 t.l, .int .i64 t.c, .slice a kids.length c] 26
    have HR := hideT hR
    have HL := hideT hl
    clear hR hl
    go_enter Tryz.func9, Tryz.ntmps9
    go_upto_region 1 with fail
    generalize w.alloc (.cells #[.int .i64 t.k, .string t.t, .int .i64 t.b, .int .i64 t.e, .int .i64 t.l, .int .i64 t.c, .slice a kids.length c] 26) = W at hB qA ⊢
    have x0 := qA.cell 0
    have x1 := qA.cell 1
    have x2 := qA.cell 2
    have x3 := qA.cell 3
    have x4 := qA.cell 4
    have x5 := qA.cell 5
    have x6 := qA.cell 6
    simp only [List.getElem?_toArray, List.getElem?_cons_zero, List.getElem?_cons_succ] at x0 x1 x2 x3 x4 x5 x6
    by_cases h0 : t.k = 0
    rotate_left
    · have HZ := hideT (decide_eq_false h0)
      have hr : R = 1 := by have := HR.out; simp only [szZ] at this; rw [if_neg h0] at this; exact this.symm
      subst hr
      clear h0
      go_wp2_with fail
      refine (isListZ t (.slice a kids.length c) false (HZ.out) W).mono ?_
      rintro e w1 ⟨rfl, b1⟩
      replace qA := qA.later b1
      replace hB := hB.trans (b1.mono hB.size)
      clear b1 x0 x1 x2 x3 x4 x5 x6
      have x6 := qA.cell 6
      simp only [List.getElem?_toArray, List.getElem?_cons_zero, List.getElem?_cons_succ] at x6
      go_wp2
      go_ret
      exact ⟨rfl, hB⟩
    have HZ := hideT (decide_eq_true h0)
    have HS := hideT (show 2 + szY kids = R by have := HR.out; simp only [szZ] at this; rw [if_pos h0] at this; exact this)
    clear h0 HR
    go_wp2_with fail
    refine (isListZ t (.slice a kids.length c) true (HZ.out) W).mono ?_
    rintro e w1 ⟨rfl, b1⟩
    replace qA := qA.later b1
    replace hB := hB.trans (b1.mono hB.size)
    clear b1 x0 x1 x2 x3 x4 x5 x6
    have x6 := qA.cell 6
    simp only [List.getElem?_toArray, List.getElem?_cons_zero, List.getElem?_cons_succ] at x6
    go_wp2_with fail
    go_loopw [3, 12] (fun s i wr => ∃ k m : Nat, k ≤ kids.length ∧ i = .int .i64 k ∧ s = .int .i64 m ∧ m = 2 + szY (kids.take k) ∧ Below w.heap.size w wr) (fun s i _ => kids.length - (intOf i).toNat)
    case atStart => exact ⟨0, 2, Nat.zero_le _, rfl, rfl, by simp [szY], hB⟩
    case round =>
      clear qA hB x6
      obtain ⟨k, m, hk, rfl, rfl, hm, hB⟩ := hrel
      have HM := hideT hm
      clear hm
      by_cases hlt : k < kids.length
      · have hki : ((k : Int) < (kids.length : Int)) := by omega
        have ea := HA.out (by omega)
        subst ea
        have h0 := HB0.out.trans (hB.mono HB0.out.size)
        obtain ⟨hc, hv⟩ := HC.out
        obtain ⟨T, hT⟩ : ∃ T, kids[k].t = T := ⟨_, rfl⟩
        have a0 := hc k hlt 0 (by decide)
        have a1 := hc k hlt 1 (by decide)
        have a2 := hc k hlt 2 (by decide)
        have a3 := hc k hlt 3 (by decide)
        have a4 := hc k hlt 4 (by decide)
        have a5 := hc k hlt 5 (by decide)
        rw [hT] at a0 a1 a2 a3 a4 a5
        simp only [TokZ.cells, List.getElem?_cons_zero, List.getElem?_cons_succ] at a0 a1 a2 a3 a4 a5
        rw [Nat.add_zero] at a0
        have a6 := hv k hlt
        replace a0 := below_cell h0 a0
        replace a1 := below_cell h0 a1
        replace a2 := below_cell h0 a2
        replace a3 := below_cell h0 a3
        replace a4 := below_cell h0 a4
        replace a5 := below_cell h0 a5
        replace a6 := below_cell h0 a6
        have e1 : NdZ.mk T kids[k].kids = kids[k] := by rw [← hT, ndz_eta]
        have e2 := szY_take hlt
        have e3 := szY_take_le kids (k + 1)
        have e4 := HS.out
        have e5 := HM.out
        have e6 := HL.out
        obtain ⟨sz, hsz⟩ : ∃ sz, szZ kids[k] = sz := ⟨_, rfl⟩
        have GI := hideT (fun W hW => IH.out k hlt T sz W hW (by rw [e1]; exact hsz) (by omega))
        have HN := hideT (show m + sz = 2 + szY (kids.take (k + 1)) by omega)
        have hl1 : m ≤ 4611686018427387904 := by omega
        have hl2 : sz ≤ 4611686018427387904 := by omega
        have HLL := hideT (show m + sz ≤ 4611686018427387904 by omega)
        clear hsz e2 e3 e4 e5 e6
        obtain ⟨ua, uc, eu⟩ := HKS.out k hlt
        obtain ⟨un, hun⟩ : ∃ un, kids[k].kids.length = un := ⟨_, rfl⟩
        rw [hun] at eu
        rw [eu] at a6 GI
        clear eu hun hT hc hv e1
        have bN := below_alloc (w := wr) (.cells #[.int .i64 T.k, .string T.t, .int .i64 T.b, .int .i64 T.e, .int .i64 T.l, .int .i64 T.c, .slice ua un uc] 26)
        have qN := Blk.new wr #[.int .i64 T.k, .string T.t, .int .i64 T.b, .int .i64 T.e, .int .i64 T.l, .int .i64 T.c, .slice ua un uc] 26
        replace hB := hB.trans (bN.mono hB.size)
        have HW := hideT (h0.trans (bN.mono h0.size))
        clear bN h0
        go_upto_region 7 with fail
        generalize wr.alloc (.cells #[.int .i64 T.k, .string T.t, .int .i64 T.b, .int .i64 T.e, .int .i64 T.l, .int .i64 T.c, .slice ua un uc] 26) = W2 at qN hB HW ⊢
        clear a6 a0 a1 a2 a3 a4 a5
        have y0 := qN.cell 0
        have y1 := qN.cell 1
        have y2 := qN.cell 2
        have y3 := qN.cell 3
        have y4 := qN.cell 4
        have y5 := qN.cell 5
        have y6 := qN.cell 6
        simp only [List.getElem?_toArray, List.getElem?_cons_zero, List.getElem?_cons_succ] at y0 y1 y2 y3 y4 y5 y6
        go_wp2_with fail
        refine (GI.out _ HW.out).mono ?_
        rintro e w5 ⟨rfl, b5⟩
        replace hB := hB.trans (b5.mono hB.size)
        clear b5 GI
        have hl3 := HLL.out
        go_wp2
        go_roundw
        case rel => exact ⟨k + 1, m + sz, by omega, by go_num, by go_num, HN.out, hB⟩
        case measure => simp [intOf]; omega
      · have hki : ¬ ((k : Int) < (kids.length : Int)) := by omega
        have hmr : m = R := by have h1 := HM.out; have h2 := HS.out; rw [List.take_of_length_le (by omega)] at h1; omega
        subst hmr
        go_wp2
        go_ret
        exact ⟨rfl, hB⟩

set_option maxHeartbeats 8000000 in
set_option maxRecDepth 100000 in
theorem rdepthZ {w0 : World} {v : Value} {kids : List NdZ} (h1 : ZIn w0 v kids) : ∀ (t : TokZ) (m : Nat) (M : Int) (hM : M = m) (w : World) (hm : m ≤ 1000) (hB0 : Below w0.heap.size w0 w), Calls Tryz.prog 11 #[.agg #[.int .i64 t.k, .string t.t, .int .i64 t.b, .int .i64 t.e, .int .i64 t.l, .int .i64 t.c, v], .int .i64 M] w fun e w' => (∃ d : Nat, e = .returned (.int .i64 d) ∧ d ≤ m + 1 ∧ (d ≤ m ↔ dok m (.mk t kids) = true)) ∧ Below w.heap.size w w' := by
  induction h1 with
  | mk a g off c kids vs ha hb hc hv hk ih =>
    intro t m M hM w hm hB0
    have IH := hideT ih
    have HC := hideT (And.intro hc hv)
    have HKS := hideT (fun i (h : i < kids.length) => (hk i h).sh)
    have HB0 := hideT hB0
    have HA := hideT ha
    clear ih hc hv hk hB0 ha
    have hB := below_alloc (w := w) (.cells #[.int .i64 t.k, .string t.t, .int .i64 t.b, .int .i64 t.e, .int .i64 t.l, .int .i64 t.c, .slice a kids.length c] 26)
    have qA := Blk.new w #[.int .i64 t.k, .string t.t, .int .i64 t.b, .int .i64 t.e, .int .i64 t.l, .int .i64 t.c, .slice a kids.length c] 26
    have HM := hideT (And.intro hM hm)
    have hM0 : 0 ≤ M := by omega
    have hM1 : M ≤ 1000 := by omega
    clear hM hm
    go_enter Tryz.func11, Tryz.ntmps11
    go_upto_region 1 with fail
    generalize w.alloc (.cells #[.int .i64 t.k, .string t.t, .int .i64 t.b, .int .i64 t.e, .int .i64 t.l, .int .i64 t.c, .slice a kids.length c] 26) = W at hB qA ⊢
    have x0 := qA.cell 0
    have x1 := qA.cell 1
    have x2 := qA.cell 2
    have x3 := qA.cell 3
    have x4 := qA.cell 4
    have x5 := qA.cell 5
    have x6 := qA.cell 6
    simp only [List.getElem?_toArray, List.getElem?_cons_zero, List.getElem?_cons_succ] at x0 x1 x2 x3 x4 x5 x6
    by_cases h0 : t.k = 0
    rotate_left
    · have y0 : (t.k != 0) = true := by simp [h0]
      have HD := hideT (show dok m (.mk t kids) = true by simp only [dok]; rw [if_neg h0])
      clear h0
      go_wp2
      go_ret
      exact ⟨⟨0, rfl, by omega, fun _ => HD.out, fun _ => Nat.zero_le _⟩, hB⟩
    have y0 : (t.k != 0) = false := by simp [h0]
    have HD := hideT (show dok m (.mk t kids) = (if m = 0 then false else dokL (m - 1) kids) by simp only [dok]; rw [if_pos h0])
    clear h0
    go_wp2_with fail
    go_loopw [5, 6] (fun d i wr => ∃ k D : Nat, k ≤ kids.length ∧ i = .int .i64 k ∧ d = .int .i64 D ∧ 1 ≤ D ∧ D ≤ m + 1 ∧ (D ≤ m ↔ m ≠ 0 ∧ ∀ i (h : i < kids.length), i < k → dok (m - 1) kids[i] = true) ∧ Blk wr w.heap.size #[.int .i64 t.k, .string t.t, .int .i64 t.b, .int .i64 t.e, .int .i64 t.l, .int .i64 t.c, .slice a kids.length c] 26 ∧ Below w.heap.size w wr) (fun d i _ => kids.length - (intOf i).toNat)
    case atStart => exact ⟨0, 1, Nat.zero_le _, rfl, rfl, Nat.le_refl _, by omega, ⟨fun h => ⟨by omega, fun i _ c => absurd c (Nat.not_lt_zero _)⟩, fun h => by have := h.1; omega⟩, qA, hB⟩
    case round =>
      clear qA hB x0 x1 x2 x3 x4 x5 x6
      obtain ⟨k, D, hk, rfl, rfl, hD1, hD2, hD3, qA, hB⟩ := hrel
      have H3 := hideT hD3
      have H2 := hideT (And.intro hD1 hD2)
      have hDl : D ≤ 1001 := by have := HM.out.2; omega
      clear hD1 hD2 hD3
      have x6 := qA.cell 6
      simp only [List.getElem?_toArray, List.getElem?_cons_zero, List.getElem?_cons_succ] at x6
      by_cases hlt : k < kids.length
      · have hki : ((k : Int) < (kids.length : Int)) := by omega
        by_cases hdm : D ≤ m
        · have hdi : ((D : Int) ≤ M) := by have := HM.out.1; omega
          have ea := HA.out (by omega)
          subst ea
          have h0 := HB0.out.trans (hB.mono HB0.out.size)
          obtain ⟨hc, hv⟩ := HC.out
          obtain ⟨T, hT⟩ : ∃ T, kids[k].t = T := ⟨_, rfl⟩
          have a0 := hc k hlt 0 (by decide)
          have a1 := hc k hlt 1 (by decide)
          have a2 := hc k hlt 2 (by decide)
          have a3 := hc k hlt 3 (by decide)
          have a4 := hc k hlt 4 (by decide)
          have a5 := hc k hlt 5 (by decide)
          rw [hT] at a0 a1 a2 a3 a4 a5
          simp only [TokZ.cells, List.getElem?_cons_zero, List.getElem?_cons_succ] at a0 a1 a2 a3 a4 a5
          rw [Nat.add_zero] at a0
          have a6 := hv k hlt
          replace a0 := below_cell h0 a0
          replace a1 := below_cell h0 a1
          replace a2 := below_cell h0 a2
          replace a3 := below_cell h0 a3
          replace a4 := below_cell h0 a4
          replace a5 := below_cell h0 a5
          replace a6 := below_cell h0 a6
          have e1 : NdZ.mk T kids[k].kids = kids[k] := by rw [← hT, ndz_eta]
          have hmm : M - 1 = ((m - 1 : Nat) : Int) := by have := HM.out.1; have := H2.out; omega
          have GI := hideT (IH.out k hlt T (m - 1) (M - 1) hmm wr (by have := HM.out.2; omega) h0)
          rw [e1] at GI
          have HDM := hideT hdm
          have hMg : 1 ≤ M := by have := H2.out; have := HM.out.1; omega
          clear hmm h0 hdm
          obtain ⟨ua, uc, eu⟩ := HKS.out k hlt
          obtain ⟨un, hun⟩ : ∃ un, kids[k].kids.length = un := ⟨_, rfl⟩
          rw [hun] at eu
          rw [eu] at a6 GI
          clear eu hun hT hc hv e1
          go_wp2_with fail
          refine GI.out.mono ?_
          rintro e w5 ⟨⟨d2, rfl, hd2, hd3⟩, b5⟩
          have hd4 : d2 ≤ 1001 := by have := HM.out.2; omega
          have HD2 := hideT (And.intro hd2 hd3)
          replace hB := hB.trans (b5.mono hB.size)
          replace qA := qA.later b5
          clear b5 GI x6 hd2 hd3 a6 a0 a1 a2 a3 a4 a5
          have key : ∀ D2 : Nat, (D2 ≤ m ↔ D ≤ m ∧ d2 + 1 ≤ m) → (D2 ≤ m ↔ m ≠ 0 ∧ ∀ i (h : i < kids.length), i < k + 1 → dok (m - 1) kids[i] = true) := fun D2 h2 => by
            have q1 := H3.out
            have q2 := HD2.out.2
            have q3 := HDM.out
            have q4 := H2.out
            rw [h2]
            refine ⟨fun h => ⟨by omega, fun i hi hik => ?_⟩, fun h => ⟨q3, ?_⟩⟩
            · rcases Nat.lt_or_ge i k with c | c
              · exact (q1.1 q3).2 i hi c
              · have e : i = k := by omega
                subst e
                exact q2.1 (by omega)
            · have := q2.2 (h.2 k hlt (by omega))
              omega
          have KEY := hideT key
          clear key
          by_cases hgt : D < d2 + 1
          · have hgi : (((d2 : Int) + 1) > (D : Int)) := by omega
            go_wp2
            go_roundw
            case rel => exact ⟨k + 1, d2 + 1, by omega, by go_num, by go_num, by omega, by have := HD2.out.1; have := H2.out; have := HDM.out; omega, KEY.out _ (by have := HDM.out; omega), qA, hB⟩
            case measure => simp [intOf]; omega
          · have hgi : ¬ (((d2 : Int) + 1) > (D : Int)) := by omega
            go_wp2
            go_roundw
            case rel => exact ⟨k + 1, D, by omega, by go_num, rfl, H2.out.1, H2.out.2, KEY.out _ (by omega), qA, hB⟩
            case measure => simp [intOf]; omega
        · have hdi : ¬ ((D : Int) ≤ M) := by have := HM.out.1; omega
          have HDM := hideT hdm
          clear hdm
          go_wp2
          go_ret
          refine ⟨⟨D, rfl, H2.out.2, fun c => absurd c HDM.out, fun c => ?_⟩, hB⟩
          rw [HD.out] at c
          by_cases hm0 : m = 0
          · rw [if_pos hm0] at c; cases c
          · rw [if_neg hm0, dokL_mem] at c; exact H3.out.2 ⟨hm0, fun i hi _ => c _ (List.getElem_mem hi)⟩
      · have hki : ¬ ((k : Int) < (kids.length : Int)) := by omega
        go_wp2
        go_ret
        refine ⟨⟨D, rfl, H2.out.2, fun c => ?_, fun c => ?_⟩, hB⟩
        · rw [HD.out, if_neg (H3.out.1 c).1]; exact dokL_yes (fun i hi => (H3.out.1 c).2 i hi (by omega))
        · rw [HD.out] at c
          by_cases hm0 : m = 0
          · rw [if_pos hm0] at c; cases c
          · rw [if_neg hm0, dokL_mem] at c; exact H3.out.2 ⟨hm0, fun i hi _ => c _ (List.getElem_mem hi)⟩

end Go.Proofs.YtpfmamimhhnbiaaGreatDoor

namespace Go.Proofs.YtpfmamimhhnbiaaGreatDoor
open Go.RowKit
set_option linter.unusedVariables false
set_option linter.unusedSimpArgs false
theorem pdS_zero {n : NdZ} (h : erZ n = 0) : pdS n = txZ n := by unfold pdS; rw [if_pos h]
theorem pdS_not {n : NdZ} (h : erZ n ≠ 0) : pdS n = [] := by unfold pdS; rw [if_neg h]
theorem bytes_eq {s : ByteArray} {l : List UInt8} (h : s.data.toList = l) : s = ⟨l.toArray⟩ := by
  apply ByteArray.ext
  apply Array.ext'
  rw [h]
set_option maxHeartbeats 8000000 in
set_option maxRecDepth 100000 in
theorem rprintedZ {w0 : World} {v : Value} {kids : List NdZ} (h1 : ZIn w0 v kids) : ∀ (t : TokZ) (w : World) (hB0 : Below w0.heap.size w0 w) (hwg : wgZ (.mk t kids) ≤ 1048576), Calls Tryz.prog 12 #[.agg #[.int .i64 t.k, .string t.t, .int .i64 t.b, .int .i64 t.e, .int .i64 t.l, .int .i64 t.c, v]] w fun e w' => (∃ s, e = .returned (.tuple #[.string s, .int .i64 (erZ (.mk t kids))]) ∧ s.data.toList = pdS (.mk t kids)) ∧ Below w.heap.size w w' := by
  induction h1 with
  | mk a g off c kids vs ha hb hc hv hk ih =>
    intro t w hB0 hwg
    have IH := hideT ih
    have HC := hideT (And.intro hc hv)
    have HKS := hideT (fun i (h : i < kids.length) => (hk i h).sh)
    have HB0 := hideT hB0
    have HA := hideT ha
    have HW := hideT (show t.t.size + 1 + wgL kids ≤ 1048576 by simp only [wgZ] at hwg; exact hwg)
    clear ih hc hv hk hB0 ha hwg
    obtain ⟨c0, hc0⟩ : ∃ c0, erZ (.mk t kids) = c0 := ⟨_, rfl⟩
    obtain ⟨S, hS⟩ : ∃ S, pdS (.mk t kids) = S := ⟨_, rfl⟩
    rw [hc0, hS]
    have HE := hideT (And.intro hc0 hS)
    clear hc0 hS
    have hB := below_alloc (w := w) (.cells #[.int .i64 t.k, .string t.t, .int .i64 t.b, .int .i64 t.e, .int .i64 t.l, .int .i64 t.c, .slice a kids.length c] 26)
    have qA := Blk.new w #[.int .i64 t.k, .string t.t, .int .i64 t.b, .int .i64 t.e, .int .i64 t.l, .int .i64 t.c, .slice a kids.length c] 26
    go_enter Tryz.func12, Tryz.ntmps12
    go_upto_region 1 with fail
    generalize w.alloc (.cells #[.int .i64 t.k, .string t.t, .int .i64 t.b, .int .i64 t.e, .int .i64 t.l, .int .i64 t.c, .slice a kids.length c] 26) = W at hB qA ⊢
    have x0 := qA.cell 0
    have x1 := qA.cell 1
    have x2 := qA.cell 2
    have x3 := qA.cell 3
    have x4 := qA.cell 4
    have x5 := qA.cell 5
    have x6 := qA.cell 6
    simp only [List.getElem?_toArray, List.getElem?_cons_zero, List.getElem?_cons_succ] at x0 x1 x2 x3 x4 x5 x6
    by_cases hk1 : t.k = 1
    · have y1 : (t.k == 1) = true := by rw [beq_iff_eq]; exact hk1
      have h12 : erZ (.mk t kids) = 120 := by simp only [erZ]; rw [if_neg (by omega)]; unfold wtC; rw [if_pos (by omega)]
      have hc : c0 = 120 := HE.out.1.symm.trans h12
      have hs : S = [] := by rw [← HE.out.2]; exact pdS_not (by rw [h12]; decide)
      subst hc hs
      clear h12 hk1
      go_wp2
      refine bodyPost_ret (v := .tuple #[.string (⟨#[]⟩), .int .i64 120]) (by rw [results_ttB rfl]; go_simp) rfl ?_
      exact ⟨⟨_, rfl, rfl⟩, hB⟩
    have y1 : (t.k == 1) = false := by rw [beq_eq_false_iff_ne]; exact hk1
    by_cases hk2 : t.k = 2
    · have y2 : (t.k == 2) = true := by rw [beq_iff_eq]; exact hk2
      have h12 : erZ (.mk t kids) = 120 := by simp only [erZ]; rw [if_neg (by omega)]; unfold wtC; rw [if_pos (by omega)]
      have hc : c0 = 120 := HE.out.1.symm.trans h12
      have hs : S = [] := by rw [← HE.out.2]; exact pdS_not (by rw [h12]; decide)
      subst hc hs
      clear h12 hk2 hk1
      go_wp2
      refine bodyPost_ret (v := .tuple #[.string (⟨#[]⟩), .int .i64 120]) (by rw [results_ttB rfl]; go_simp) rfl ?_
      exact ⟨⟨_, rfl, rfl⟩, hB⟩
    have y2 : (t.k == 2) = false := by rw [beq_eq_false_iff_ne]; exact hk2
    by_cases h0 : t.k = 0
    rotate_left
    · have y0 : (t.k != 0) = true := by simp [h0]
      have HT := hideT (show erZ (.mk t kids) = (pkT t.k t.t).2 ∧ txZ (.mk t kids) = lsB (pkT t.k t.t).1 by simp only [erZ, txZ]; rw [if_neg h0, if_neg h0]; unfold wtC wtS; rw [if_neg (by omega), if_neg (by omega)]; exact ⟨rfl, rfl⟩)
      clear h0 hk1 hk2
      have GP := hideT (fun W => rPrint_is t.k t.t t.b t.e t.l t.c W (by have := HW.out; omega))
      go_wp2_with fail
      refine (GP.out _).mono ?_
      rintro e w1 ⟨s, c2, rfl, pr, b1⟩
      have hpk := pkT_uniq pr
      have hc : c0 = c2 := by rw [← HE.out.1, HT.out.1, hpk]
      have hs : s.data.toList = S := by
        rw [← HE.out.2]
        by_cases hz : c2 = 0
        · rw [pdS_zero (by rw [HT.out.1, hpk]; exact hz), HT.out.2, hpk]; rfl
        · rw [pdS_not (by rw [HT.out.1, hpk]; exact hz), pr.err hz]; rfl
      subst hc
      have HSS := hideT hs
      clear hs hpk pr GP
      go_wp2
      refine bodyPost_ret (v := .tuple #[.string (s), .int .i64 c0]) (by rw [results_ttB rfl]; go_simp) rfl ?_
      exact ⟨⟨_, rfl, HSS.out⟩, hB.trans (b1.mono hB.size)⟩
    have y0 : (t.k != 0) = false := by simp [h0]
    have HT := hideT (show erZ (.mk t kids) = erL kids ∧ txZ (.mk t kids) = 40 :: (txL kids ++ [41]) by simp only [erZ, txZ]; rw [if_pos h0, if_pos h0]; exact ⟨rfl, rfl⟩)
    clear h0 hk1 hk2
    go_wp2_with fail
    go_loopw [4, 5] (fun o i wr => ∃ (k : Nat) (s : ByteArray), k ≤ kids.length ∧ i = .int .i64 k ∧ o = .string s ∧ s.data.toList = 40 :: txL (kids.take k) ∧ (∀ i (h : i < kids.length), i < k → erZ kids[i] = 0) ∧ Blk wr w.heap.size #[.int .i64 t.k, .string t.t, .int .i64 t.b, .int .i64 t.e, .int .i64 t.l, .int .i64 t.c, .slice a kids.length c] 26 ∧ Below w.heap.size w wr) (fun o i _ => kids.length - (intOf i).toNat)
    case atStart => exact ⟨0, ⟨#[40]⟩, Nat.zero_le _, rfl, rfl, by simp [txL], fun i _ c => absurd c (Nat.not_lt_zero _), qA, hB⟩
    case round =>
      clear qA hB x0 x1 x2 x3 x4 x5 x6
      obtain ⟨k, s, hk, rfl, rfl, hs, hall, qA, hB⟩ := hrel
      have hsz : s.size ≤ 4194305 := by have h1 := tx_wgL (kids.take k); have h2 := wgL_take_le kids k; have h3 := HW.out; have h4 := congrArg List.length hs; rw [Array.length_toList, List.length_cons] at h4; show s.data.size ≤ _; omega
      have HS := hideT hs
      have HALL := hideT hall
      clear hs hall
      have x6 := qA.cell 6
      simp only [List.getElem?_toArray, List.getElem?_cons_zero, List.getElem?_cons_succ] at x6
      by_cases hlt : k < kids.length
      · have hki : ((k : Int) < (kids.length : Int)) := by omega
        have ea := HA.out (by omega)
        subst ea
        have h0 := HB0.out.trans (hB.mono HB0.out.size)
        obtain ⟨hc, hv⟩ := HC.out
        obtain ⟨T, hT⟩ : ∃ T, kids[k].t = T := ⟨_, rfl⟩
        have a0 := hc k hlt 0 (by decide)
        have a1 := hc k hlt 1 (by decide)
        have a2 := hc k hlt 2 (by decide)
        have a3 := hc k hlt 3 (by decide)
        have a4 := hc k hlt 4 (by decide)
        have a5 := hc k hlt 5 (by decide)
        rw [hT] at a0 a1 a2 a3 a4 a5
        simp only [TokZ.cells, List.getElem?_cons_zero, List.getElem?_cons_succ] at a0 a1 a2 a3 a4 a5
        rw [Nat.add_zero] at a0
        have a6 := hv k hlt
        replace a0 := below_cell h0 a0
        replace a1 := below_cell h0 a1
        replace a2 := below_cell h0 a2
        replace a3 := below_cell h0 a3
        replace a4 := below_cell h0 a4
        replace a5 := below_cell h0 a5
        replace a6 := below_cell h0 a6
        have e1 : NdZ.mk T kids[k].kids = kids[k] := by rw [← hT, ndz_eta]
        have hwk : wgZ kids[k] ≤ 1048576 := by have := wgL_mem hlt; have := HW.out; omega
        have GI := hideT (IH.out k hlt T wr h0 (by rw [e1]; exact hwk))
        rw [e1] at GI
        have HWK := hideT hwk
        obtain ⟨er, her⟩ : ∃ er, erZ kids[k] = er := ⟨_, rfl⟩
        rw [her] at GI
        have HR := hideT her
        obtain ⟨ua, uc, eu⟩ := HKS.out k hlt
        obtain ⟨un, hun⟩ : ∃ un, kids[k].kids.length = un := ⟨_, rfl⟩
        rw [hun] at eu
        rw [eu] at a6 GI
        clear eu hun hT hc hv e1 her hwk h0
        go_wp2_with fail
        refine GI.out.mono ?_
        rintro e w5 ⟨⟨p, rfl, hp⟩, b5⟩
        have HP := hideT hp
        replace hB := hB.trans (b5.mono hB.size)
        replace qA := qA.later b5
        clear b5 GI x6 hp a6 a0 a1 a2 a3 a4 a5
        by_cases hz : er = 0
        rotate_left
        · have yz : (er != 0) = true := by simp [hz]
          have hce : c0 = er := by rw [← HE.out.1, HT.out.1, ← HR.out]; exact erL_take hlt (fun i h hi => HALL.out i h hi) (by rw [HR.out]; exact hz)
          have hSe : S = [] := by rw [← HE.out.2]; exact pdS_not (by rw [HE.out.1, hce]; exact hz)
          subst hce hSe
          clear hz
          go_wp2
          refine bodyPost_ret (v := .tuple #[.string (⟨#[]⟩), .int .i64 c0]) (by rw [results_ttB rfl]; go_simp) rfl ?_
          exact ⟨⟨_, rfl, rfl⟩, hB⟩
        have HZ := hideT hz
        subst hz
        have hps : p.size ≤ 4194304 := by have h1 := tx_wg kids[k]; have h2 := HWK.out; have h3 := HP.out; rw [pdS_zero HR.out] at h3; have h4 := congrArg List.length h3; rw [Array.length_toList] at h4; show p.data.size ≤ _; omega
        have h32 : (⟨#[32]⟩ : ByteArray).size = 1 := rfl
        by_cases hk0 : 0 < k
        · have hkz : ((k : Int) > 0) := by omega
          have HNX := hideT (show (s ++ ⟨#[32]⟩ ++ p).data.toList = 40 :: txL (kids.take (k + 1)) by have h1 := HS.out; have h2 := HP.out; rw [pdS_zero HR.out] at h2; rw [txL_take hlt, if_pos hk0]; simp [h1, h2])
          go_wp2
          go_roundw
          case rel => exact ⟨k + 1, s ++ ⟨#[32]⟩ ++ p, by omega, by go_num, rfl, HNX.out, fun i h hi => (Nat.lt_or_ge i k).elim (fun c => HALL.out i h c) (fun c => by have e : i = k := (by omega); subst e; exact HR.out), qA, hB⟩
          case measure => simp [intOf]; omega
        · have hkz : ¬ ((k : Int) > 0) := by omega
          have HNX := hideT (show (s ++ p).data.toList = 40 :: txL (kids.take (k + 1)) by have h1 := HS.out; have h2 := HP.out; rw [pdS_zero HR.out] at h2; rw [txL_take hlt, if_neg hk0]; simp [h1, h2])
          go_wp2
          go_roundw
          case rel => exact ⟨k + 1, s ++ p, by omega, by go_num, rfl, HNX.out, fun i h hi => (Nat.lt_or_ge i k).elim (fun c => HALL.out i h c) (fun c => by have e : i = k := (by omega); subst e; exact HR.out), qA, hB⟩
          case measure => simp [intOf]; omega
      · have hki : ¬ ((k : Int) < (kids.length : Int)) := by omega
        have hz : erL kids = 0 := erL_all (fun i hi => HALL.out i hi (by omega))
        have hce : c0 = 0 := by rw [← HE.out.1, HT.out.1]; exact hz
        have HF := hideT (show (s ++ ⟨#[41]⟩).data.toList = S by have h1 := HS.out; rw [List.take_of_length_le (by omega)] at h1; rw [← HE.out.2, pdS_zero (by rw [HT.out.1]; exact hz), HT.out.2]; simp [h1])
        subst hce
        clear hz
        have h41 : (⟨#[41]⟩ : ByteArray).size = 1 := rfl
        go_wp2
        refine bodyPost_ret (v := .tuple #[.string (s ++ ⟨#[41]⟩), .int .i64 0]) (by rw [results_ttB rfl]; go_simp) rfl ?_
        exact ⟨⟨_, rfl, HF.out⟩, hB⟩

set_option maxHeartbeats 8000000 in
set_option maxRecDepth 100000 in
theorem rprintZ {v : Value} {kids : List NdZ} (t : TokZ) (w : World) (h : ZIn w v kids) (hwg : wgZ (.mk t kids) ≤ 1048576) : Calls Tryz.prog 5 #[.agg #[.int .i64 t.k, .string t.t, .int .i64 t.b, .int .i64 t.e, .int .i64 t.l, .int .i64 t.c, v]] w fun e w' => e = .returned (.tuple #[.string ⟨(prS (.mk t kids)).toArray⟩, .int .i64 (prC (.mk t kids))]) ∧ Below w.heap.size w w' := by
  obtain ⟨a, c, ev⟩ := h.sh
  have GD := hideT (fun W hW => rdepthZ h t 1000 1000 rfl W (Nat.le_refl _) hW)
  have GP := hideT (fun W hW => rprintedZ h t W hW hwg)
  subst ev
  clear h hwg
  obtain ⟨PC, hPC⟩ : ∃ PC, prC (.mk t kids) = PC := ⟨_, rfl⟩
  obtain ⟨PX, hPX⟩ : ∃ PX, prS (.mk t kids) = PX := ⟨_, rfl⟩
  rw [hPC, hPX]
  have HP := hideT (And.intro hPC hPX)
  clear hPC hPX
  have hB := below_alloc (w := w) (.cells #[.int .i64 t.k, .string t.t, .int .i64 t.b, .int .i64 t.e, .int .i64 t.l, .int .i64 t.c, .slice a kids.length c] 26)
  have qA := Blk.new w #[.int .i64 t.k, .string t.t, .int .i64 t.b, .int .i64 t.e, .int .i64 t.l, .int .i64 t.c, .slice a kids.length c] 26
  go_enter Tryz.func5, Tryz.ntmps5
  go_upto_region 1 with fail
  generalize w.alloc (.cells #[.int .i64 t.k, .string t.t, .int .i64 t.b, .int .i64 t.e, .int .i64 t.l, .int .i64 t.c, .slice a kids.length c] 26) = W at hB qA ⊢
  have x0 := qA.cell 0
  have x1 := qA.cell 1
  have x2 := qA.cell 2
  have x3 := qA.cell 3
  have x4 := qA.cell 4
  have x5 := qA.cell 5
  have x6 := qA.cell 6
  simp only [List.getElem?_toArray, List.getElem?_cons_zero, List.getElem?_cons_succ] at x0 x1 x2 x3 x4 x5 x6
  go_wp2_with fail
  refine (GD.out W hB).mono ?_
  rintro e w1 ⟨⟨d, rfl, hd1, hd2⟩, b1⟩
  replace qA := qA.later b1
  replace hB := hB.trans (b1.mono hB.size)
  clear b1 GD x0 x1 x2 x3 x4 x5 x6
  have x0 := qA.cell 0
  have x1 := qA.cell 1
  have x2 := qA.cell 2
  have x3 := qA.cell 3
  have x4 := qA.cell 4
  have x5 := qA.cell 5
  have x6 := qA.cell 6
  simp only [List.getElem?_toArray, List.getElem?_cons_zero, List.getElem?_cons_succ] at x0 x1 x2 x3 x4 x5 x6
  by_cases hd : d ≤ 1000
  rotate_left
  · have hdi : ((d : Int) > 1000) := by omega
    have hnd : ¬ dok 1000 (.mk t kids) = true := fun c => hd (hd2.2 c)
    have hpc : PC = 132 := by rw [← HP.out.1]; unfold prC; rw [if_neg hnd]
    have hpx : PX = [] := by rw [← HP.out.2]; unfold prS; rw [HP.out.1, hpc, if_neg (by decide)]
    subst hpc hpx
    clear hd hd2 hnd
    go_wp2
    refine bodyPost_ret (v := .tuple #[.string (⟨#[]⟩), .int .i64 132]) (by rw [results_ttB rfl]; go_simp) rfl ?_
    exact ⟨rfl, hB⟩
  have hdi : ¬ ((d : Int) > 1000) := by omega
  have hyd := hd2.1 hd
  have hpc : PC = erZ (.mk t kids) := by rw [← HP.out.1]; unfold prC; rw [if_pos hyd]
  have hpx : PX = pdS (.mk t kids) := by rw [← HP.out.2]; unfold prS pdS; rw [HP.out.1, hpc]
  have HQ := hideT (And.intro hpc hpx)
  clear hd2 hyd hpc hpx
  go_wp2_with fail
  refine (GP.out _ hB).mono ?_
  rintro e w2 ⟨⟨s, rfl, hs⟩, b2⟩
  rw [← HQ.out.2] at hs
  have hse := bytes_eq hs
  subst hse
  rw [← HQ.out.1]
  clear hs GP HQ HP
  go_wp2
  refine bodyPost_ret (v := .tuple #[.string (⟨PX.toArray⟩), .int .i64 PC]) (by rw [results_ttB rfl]; go_simp) rfl ?_
  exact ⟨rfl, hB.trans (b2.mono hB.size)⟩

set_option maxHeartbeats 8000000 in
set_option maxRecDepth 100000 in
theorem prints_walkZ (t : TokZ) {v : Value} {kids : List NdZ} (w : World) (h : ZIn w v kids) (hM : MaxL w) (hmx : mxB < w.heap.size) (hwg : wgZ (.mk t kids) ≤ 1048576) : Calls Tryz.prog 3 #[.agg #[.int .i64 t.k, .string t.t, .int .i64 t.b, .int .i64 t.e, .int .i64 t.l, .int .i64 t.c, v]] w fun r w' => r = .returned (.bool true) ∧ Below w.heap.size w w' := by
  obtain ⟨a, c, ev⟩ := h.sh
  subst ev
  have hzz := sz_wg (.mk t kids)
  obtain ⟨R, hR⟩ : ∃ R, szZ (.mk t kids) = R := ⟨_, rfl⟩
  have G1 := hideT (fun W hW => large_is t W (h.on hW) hwg)
  have G2 := hideT (fun W hW => rprintZ t W (h.on hW) hwg)
  have G3 := hideT (fun W hW => rsizeZ h t R W hW hR (by omega))
  have G4 := hideT (fun W hW => pprint_is t W (h.on hW) (hM.on hW) (Nat.lt_of_lt_of_le hmx hW.size) (by omega))
  have G5 := hideT (fun W hW => psizeZ h t R W hW hR (by omega))
  obtain ⟨PC, hPC⟩ : ∃ PC, prC (.mk t kids) = PC := ⟨_, rfl⟩
  obtain ⟨s, hs⟩ : ∃ s, (⟨(prS (.mk t kids)).toArray⟩ : ByteArray) = s := ⟨_, rfl⟩
  rw [hPC, hs] at G2 G4
  clear hPC hs h hwg hzz hR
  have hB := below_alloc (w := w) (.cells #[.int .i64 t.k, .string t.t, .int .i64 t.b, .int .i64 t.e, .int .i64 t.l, .int .i64 t.c, .slice a kids.length c] 26)
  have qA := Blk.new w #[.int .i64 t.k, .string t.t, .int .i64 t.b, .int .i64 t.e, .int .i64 t.l, .int .i64 t.c, .slice a kids.length c] 26
  go_enter Tryz.func3, Tryz.ntmps3
  go_upto_region 1 with fail
  generalize w.alloc (.cells #[.int .i64 t.k, .string t.t, .int .i64 t.b, .int .i64 t.e, .int .i64 t.l, .int .i64 t.c, .slice a kids.length c] 26) = W at hB qA ⊢
  have x0 := qA.cell 0
  have x1 := qA.cell 1
  have x2 := qA.cell 2
  have x3 := qA.cell 3
  have x4 := qA.cell 4
  have x5 := qA.cell 5
  have x6 := qA.cell 6
  simp only [List.getElem?_toArray, List.getElem?_cons_zero, List.getElem?_cons_succ] at x0 x1 x2 x3 x4 x5 x6
  go_wp2_with fail
  refine (G1.out _ hB).mono ?_
  rintro e wa ⟨rfl, ba⟩
  replace qA := qA.later ba
  replace hB := hB.trans (ba.mono hB.size)
  clear ba x0 x1 x2 x3 x4 x5 x6
  have x0 := qA.cell 0
  have x1 := qA.cell 1
  have x2 := qA.cell 2
  have x3 := qA.cell 3
  have x4 := qA.cell 4
  have x5 := qA.cell 5
  have x6 := qA.cell 6
  simp only [List.getElem?_toArray, List.getElem?_cons_zero, List.getElem?_cons_succ] at x0 x1 x2 x3 x4 x5 x6
  go_wp2_with fail
  refine (G2.out _ hB).mono ?_
  rintro e wa ⟨rfl, ba⟩
  replace qA := qA.later ba
  replace hB := hB.trans (ba.mono hB.size)
  clear ba x0 x1 x2 x3 x4 x5 x6
  have x0 := qA.cell 0
  have x1 := qA.cell 1
  have x2 := qA.cell 2
  have x3 := qA.cell 3
  have x4 := qA.cell 4
  have x5 := qA.cell 5
  have x6 := qA.cell 6
  simp only [List.getElem?_toArray, List.getElem?_cons_zero, List.getElem?_cons_succ] at x0 x1 x2 x3 x4 x5 x6
  go_wp2_with fail
  refine (G3.out _ hB).mono ?_
  rintro e wa ⟨rfl, ba⟩
  replace qA := qA.later ba
  replace hB := hB.trans (ba.mono hB.size)
  clear ba x0 x1 x2 x3 x4 x5 x6
  have x0 := qA.cell 0
  have x1 := qA.cell 1
  have x2 := qA.cell 2
  have x3 := qA.cell 3
  have x4 := qA.cell 4
  have x5 := qA.cell 5
  have x6 := qA.cell 6
  simp only [List.getElem?_toArray, List.getElem?_cons_zero, List.getElem?_cons_succ] at x0 x1 x2 x3 x4 x5 x6
  go_wp2_with fail
  refine (G4.out _ hB).mono ?_
  rintro e wa ⟨rfl, ba⟩
  replace qA := qA.later ba
  replace hB := hB.trans (ba.mono hB.size)
  clear ba x0 x1 x2 x3 x4 x5 x6
  have x0 := qA.cell 0
  have x1 := qA.cell 1
  have x2 := qA.cell 2
  have x3 := qA.cell 3
  have x4 := qA.cell 4
  have x5 := qA.cell 5
  have x6 := qA.cell 6
  simp only [List.getElem?_toArray, List.getElem?_cons_zero, List.getElem?_cons_succ] at x0 x1 x2 x3 x4 x5 x6
  have GL := hideT (lives_is wa (hM.on hB) (Nat.lt_of_lt_of_le hmx hB.size))
  have hss : (s.toList == s.toList) = true := by simp
  have hpp : (PC == PC) = true := by simp
  go_wp2_with fail
  refine GL.out.mono ?_
  clear GL
  rintro e wa ⟨rfl, ba⟩
  replace qA := qA.later ba
  replace hB := hB.trans (ba.mono hB.size)
  clear ba x0 x1 x2 x3 x4 x5 x6
  have x0 := qA.cell 0
  have x1 := qA.cell 1
  have x2 := qA.cell 2
  have x3 := qA.cell 3
  have x4 := qA.cell 4
  have x5 := qA.cell 5
  have x6 := qA.cell 6
  simp only [List.getElem?_toArray, List.getElem?_cons_zero, List.getElem?_cons_succ] at x0 x1 x2 x3 x4 x5 x6
  go_wp2_with fail
  refine (G5.out _ hB).mono ?_
  rintro e wa ⟨rfl, ba⟩
  replace qA := qA.later ba
  replace hB := hB.trans (ba.mono hB.size)
  clear ba x0 x1 x2 x3 x4 x5 x6
  have x0 := qA.cell 0
  have x1 := qA.cell 1
  have x2 := qA.cell 2
  have x3 := qA.cell 3
  have x4 := qA.cell 4
  have x5 := qA.cell 5
  have x6 := qA.cell 6
  simp only [List.getElem?_toArray, List.getElem?_cons_zero, List.getElem?_cons_succ] at x0 x1 x2 x3 x4 x5 x6
  go_wp2
  go_ret
  exact ⟨by first | rfl | simp, hB⟩

end Go.Proofs.YtpfmamimhhnbiaaGreatDoor
