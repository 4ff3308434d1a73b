/-
  Size; lives.
-/
import Derived.Test.YtibeiggedmabkaaDoorSXL
namespace Go.Proofs.YtibeiggedmabkaaDoor
open Go.RowKit
set_option linter.unusedVariables false
set_option linter.unusedSimpArgs false
mutual
/-- how many tokens a node has -/
def szN : Nd → Nat
  | .mk t kids => if t.k = 0 then 2 + szL kids else 1
def szL : List Nd → Nat
  | [] => 0
  | n :: l => szN n + szL l
end
theorem szL_app (a b : List Nd) : szL (a ++ b) = szL a + szL b := by
  induction a with
  | nil => simp [szL]
  | cons n a ih => simp only [List.cons_append, szL, ih]; omega
theorem szL_take {l : List Nd} {k : Nat} (h : k < l.length) : szL (l.take (k + 1)) = szL (l.take k) + szN l[k] := by
  rw [List.take_add_one, List.getElem?_eq_getElem h, szL_app]
  simp [szL]
theorem szL_take_le (l : List Nd) (k : Nat) : szL (l.take k) ≤ szL l := by
  have := szL_app (l.take k) (l.drop k)
  rw [List.take_append_drop] at this
  omega
theorem nd_eta (n : Nd) : Nd.mk n.t n.kids = n := by cases n; rfl
set_option maxHeartbeats 2000000 in
theorem isList_is (t : Tok) (v : Value) (hv : ∃ a n c, v = .slice a n c) (w : World) : Calls Tryd.prog 24 #[.agg #[.int .i64 t.k, .string t.t, .int .i64 t.b, .int .i64 t.e, .int .i64 t.l, .int .i64 t.c, v]] w fun e w' => e = .returned (.bool ((t.k : Int) == 0)) ∧ Below w.heap.size w w' := by
  obtain ⟨a, m, c, rfl⟩ := hv
  have b1 := below_alloc (w := w) (.cells #[.int .i64 t.k, .string t.t, .int .i64 t.b, .int .i64 t.e, .int .i64 t.l, .int .i64 t.c, .slice a m c] 34)
  have qA := Blk.new w #[.int .i64 t.k, .string t.t, .int .i64 t.b, .int .i64 t.e, .int .i64 t.l, .int .i64 t.c, .slice a m c] 34
  go_enter Tryd.func24, Tryd.ntmps24
  go_upto_region 1 with fail
  generalize w.alloc (.cells #[.int .i64 t.k, .string t.t, .int .i64 t.b, .int .i64 t.e, .int .i64 t.l, .int .i64 t.c, .slice a m c] 34) = W at b1 qA ⊢
  have x0 := qA.cell 0
  simp only [List.getElem?_toArray, List.getElem?_cons_zero, List.getElem?_cons_succ] at x0
  go_wp2
  go_ret
  exact ⟨rfl, b1⟩

set_option maxHeartbeats 8000000 in
set_option maxRecDepth 100000 in
theorem size1 {w0 : World} {P : Nat → Prop} {v : Value} {kids : List Nd} (h1 : NdIn w0 P v kids) : ∀ (t : Tok) (w : World) (hB0 : Below w0.heap.size w0 w) (hz : szN (.mk t kids) ≤ 4611686018427387904), Calls Tryd.prog 22 #[.agg #[.int .i64 t.k, .string t.t, .int .i64 t.b, .int .i64 t.e, .int .i64 t.l, .int .i64 t.c, v]] w fun e w' => e = .returned (.int .i64 (szN (.mk t kids) : Nat)) ∧ Below w.heap.size w w' := by
  induction h1 with
  | nil a c =>
    intro t w hB0 hz
    clear hz
    have hB := below_alloc (w := w) (.cells #[.int .i64 t.k, .string t.t, .int .i64 t.b, .int .i64 t.e, .int .i64 t.l, .int .i64 t.c, .slice a 0 c] 34)
    have qA := Blk.new w #[.int .i64 t.k, .string t.t, .int .i64 t.b, .int .i64 t.e, .int .i64 t.l, .int .i64 t.c, .slice a 0 c] 34
    go_enter Tryd.func22, Tryd.ntmps22
    go_upto_region 1 with fail
    generalize w.alloc (.cells #[.int .i64 t.k, .string t.t, .int .i64 t.b, .int .i64 t.e, .int .i64 t.l, .int .i64 t.c, .slice a 0 c] 34) = W at hB qA ⊢
    have x0 := qA.cell 0
    have x1 := qA.cell 1
    have x2 := qA.cell 2
    have x3 := qA.cell 3
    have x4 := qA.cell 4
    have x5 := qA.cell 5
    have x6 := qA.cell 6
    simp only [List.getElem?_toArray, List.getElem?_cons_zero, List.getElem?_cons_succ] at x0 x1 x2 x3 x4 x5 x6
    go_wp2_with fail
    refine (isList_is t (.slice a 0 c) ⟨_, _, _, rfl⟩ W).mono ?_
    rintro e w1 ⟨rfl, b1⟩
    replace qA := qA.later b1
    replace hB := hB.trans (b1.mono hB.size)
    clear b1 x0 x1 x2 x3 x4 x5 x6
    have x6 := qA.cell 6
    simp only [List.getElem?_toArray, List.getElem?_cons_zero, List.getElem?_cons_succ] at x6
    by_cases hk0 : t.k = 0
    rotate_left
    · have xk : ((t.k : Int) == 0) = false := by rw [beq_eq_false_iff_ne]; omega
      have es : szN (.mk t []) = 1 := by simp [szN, hk0]
      have HS := hideT es
      clear es
      rw [xk]
      go_wp2
      go_ret
      exact ⟨by rw [HS.out]; rfl, hB⟩
    have xk : ((t.k : Int) == 0) = true := by rw [beq_iff_eq]; omega
    have HS := hideT (show szN (.mk t []) = 2 by simp [szN, szL, hk0])
    rw [xk]
    clear hk0
    go_wp2_with fail
    go_loopw [3, 12] (fun s i wr => s = .int .i64 2 ∧ i = .int .i64 0 ∧ Below w.heap.size w wr) (fun s i _ => 0)
    case atStart => exact ⟨rfl, rfl, hB⟩
    case round =>
      clear qA hB x6
      obtain ⟨rfl, rfl, hB⟩ := hrel
      go_wp2
      go_ret
      exact ⟨by rw [HS.out]; rfl, hB⟩
  | row g off c kids vs hn hb hP hc hv hk ih =>
    intro t w hB0 hz
    have IH := hideT ih
    have HC := hideT (And.intro hc hv)
    have HKS := hideT (fun i (h : i < kids.length) => (hk i h).sl)
    have HB0 := hideT hB0
    have HZ := hideT hz
    clear ih hc hv hk hP hB0 hz
    have hB := below_alloc (w := w) (.cells #[.int .i64 t.k, .string t.t, .int .i64 t.b, .int .i64 t.e, .int .i64 t.l, .int .i64 t.c, .slice (some ⟨g, off, none⟩) kids.length c] 34)
    have qA := Blk.new w #[.int .i64 t.k, .string t.t, .int .i64 t.b, .int .i64 t.e, .int .i64 t.l, .int .i64 t.c, .slice (some ⟨g, off, none⟩) kids.length c] 34
    go_enter Tryd.func22, Tryd.ntmps22
    go_upto_region 1 with fail
    generalize w.alloc (.cells #[.int .i64 t.k, .string t.t, .int .i64 t.b, .int .i64 t.e, .int .i64 t.l, .int .i64 t.c, .slice (some ⟨g, off, none⟩) kids.length c] 34) = W at hB qA ⊢
    have x0 := qA.cell 0
    have x1 := qA.cell 1
    have x2 := qA.cell 2
    have x3 := qA.cell 3
    have x4 := qA.cell 4
    have x5 := qA.cell 5
    have x6 := qA.cell 6
    simp only [List.getElem?_toArray, List.getElem?_cons_zero, List.getElem?_cons_succ] at x0 x1 x2 x3 x4 x5 x6
    go_wp2_with fail
    refine (isList_is t (.slice (some ⟨g, off, none⟩) kids.length c) ⟨_, _, _, rfl⟩ W).mono ?_
    rintro e w1 ⟨rfl, b1⟩
    replace qA := qA.later b1
    replace hB := hB.trans (b1.mono hB.size)
    clear b1 x0 x1 x2 x3 x4 x5 x6
    have x6 := qA.cell 6
    simp only [List.getElem?_toArray, List.getElem?_cons_zero, List.getElem?_cons_succ] at x6
    by_cases hk0 : t.k = 0
    rotate_left
    · have xk : ((t.k : Int) == 0) = false := by rw [beq_eq_false_iff_ne]; omega
      have es : szN (.mk t kids) = 1 := by simp [szN, hk0]
      have HS := hideT es
      clear es
      rw [xk]
      go_wp2
      go_ret
      exact ⟨by rw [HS.out]; rfl, hB⟩
    have xk : ((t.k : Int) == 0) = true := by rw [beq_iff_eq]; omega
    have HS := hideT (show szN (.mk t kids) = 2 + szL kids by simp [szN, hk0])
    have HZ2 := hideT (show 2 + szL kids ≤ 4611686018427387904 by rw [← HS.out]; exact HZ.out)
    rw [xk]
    clear hk0 HZ
    go_wp2_with fail
    go_loopw [3, 12] (fun s i wr => ∃ k m : Nat, k ≤ kids.length ∧ i = .int .i64 k ∧ s = .int .i64 m ∧ m = 2 + szL (kids.take k) ∧ Below w.heap.size w wr) (fun s i _ => kids.length - (intOf i).toNat)
    case atStart => exact ⟨0, 2, Nat.zero_le _, rfl, rfl, by simp [szL], hB⟩
    case round =>
      clear qA hB x6
      obtain ⟨k, m, hk, rfl, rfl, hm, hB⟩ := hrel
      have HM := hideT hm
      clear hm
      by_cases hlt : k < kids.length
      · have hki : ((k : Int) < (kids.length : Int)) := by omega
        have h0 := HB0.out.trans (hB.mono HB0.out.size)
        obtain ⟨hc, hv⟩ := HC.out
        obtain ⟨T, hT⟩ : ∃ T, kids[k].t = T := ⟨_, rfl⟩
        have a0 := hc k hlt 0 (by decide)
        have a1 := hc k hlt 1 (by decide)
        have a2 := hc k hlt 2 (by decide)
        have a3 := hc k hlt 3 (by decide)
        have a4 := hc k hlt 4 (by decide)
        have a5 := hc k hlt 5 (by decide)
        rw [hT] at a0 a1 a2 a3 a4 a5
        simp only [Tok.cells, List.getElem?_cons_zero, List.getElem?_cons_succ] at a0 a1 a2 a3 a4 a5
        rw [Nat.add_zero] at a0
        have a6 := hv k hlt
        replace a0 := below_cell h0 a0
        replace a1 := below_cell h0 a1
        replace a2 := below_cell h0 a2
        replace a3 := below_cell h0 a3
        replace a4 := below_cell h0 a4
        replace a5 := below_cell h0 a5
        replace a6 := below_cell h0 a6
        have e1 : szN kids[k] = szN (.mk T kids[k].kids) := by rw [← hT, nd_eta]
        have e2 := szL_take hlt
        have e3 := szL_take_le kids (k + 1)
        have e4 := HZ2.out
        have e5 := HM.out
        have GI := hideT (fun W h => IH.out k hlt T W h (by omega))
        obtain ⟨sz, hsz⟩ : ∃ sz, szN (.mk T kids[k].kids) = sz := ⟨_, rfl⟩
        rw [hsz] at GI e1
        have HN := hideT (show m + sz = 2 + szL (kids.take (k + 1)) by omega)
        have HL := hideT (show m + sz ≤ 4611686018427387904 by omega)
        have hl1 : m ≤ 4611686018427387904 := by omega
        have hl2 : sz ≤ 4611686018427387904 := by omega
        clear hsz e1 e2 e3 e4 e5 hT hc hv
        obtain ⟨ua, uc, eu⟩ := HKS.out k hlt
        obtain ⟨un, hun⟩ : ∃ un, kids[k].kids.length = un := ⟨_, rfl⟩
        rw [hun] at eu
        rw [eu] at a6 GI
        clear eu hun
        have bN := below_alloc (w := wr) (.cells #[.int .i64 T.k, .string T.t, .int .i64 T.b, .int .i64 T.e, .int .i64 T.l, .int .i64 T.c, .slice ua un uc] 34)
        have qN := Blk.new wr #[.int .i64 T.k, .string T.t, .int .i64 T.b, .int .i64 T.e, .int .i64 T.l, .int .i64 T.c, .slice ua un uc] 34
        replace hB := hB.trans (bN.mono hB.size)
        have HW := hideT (h0.trans (bN.mono h0.size))
        clear bN h0
        go_upto_region 7 with fail
        generalize wr.alloc (.cells #[.int .i64 T.k, .string T.t, .int .i64 T.b, .int .i64 T.e, .int .i64 T.l, .int .i64 T.c, .slice ua un uc] 34) = W2 at qN hB HW ⊢
        clear a0 a1 a2 a3 a4 a5 a6
        have y0 := qN.cell 0
        have y1 := qN.cell 1
        have y2 := qN.cell 2
        have y3 := qN.cell 3
        have y4 := qN.cell 4
        have y5 := qN.cell 5
        have y6 := qN.cell 6
        simp only [List.getElem?_toArray, List.getElem?_cons_zero, List.getElem?_cons_succ] at y0 y1 y2 y3 y4 y5 y6
        go_wp2_with fail
        refine (GI.out _ HW.out).mono ?_
        rintro e w5 ⟨rfl, b5⟩
        replace hB := hB.trans (b5.mono hB.size)
        have hl3 := HL.out
        go_wp2
        go_roundw
        case rel => exact ⟨k + 1, m + sz, by omega, by go_num, by go_num, HN.out, hB⟩
        case measure => simp [intOf]; omega
      · have hki : ¬ ((k : Int) < (kids.length : Int)) := by omega
        have ek : k = kids.length := by omega
        have HR := hideT (show szN (.mk t kids) = m by rw [HS.out, HM.out, ek, List.take_length])
        clear ek
        go_wp2
        go_ret
        exact ⟨by rw [HR.out]; rfl, hB⟩

end Go.Proofs.YtibeiggedmabkaaDoor
