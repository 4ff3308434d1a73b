/-
  SexprSames: the walk.
-/
import Derived.Test.YtibeiggedmabkaaDoorSS1
import Derived.Test.YtibeiggedmabkaaDoorSXP
namespace Go.Proofs.YtibeiggedmabkaaDoor
open Go.RowKit
set_option linter.unusedVariables false
set_option linter.unusedSimpArgs false
theorem ZIn.sl {w : World} {v : Value} {l : List NdZ} (h : ZIn w v l) : ∃ a c, v = .slice a l.length c := by
  cases h with
  | mk a g off c => exact ⟨_, _, rfl⟩
set_option maxHeartbeats 8000000 in
set_option maxRecDepth 100000 in
theorem sames_walk (t t2 : TokZ) {v1 v2 : Value} {k1 k2 : List NdZ} (w : World) (h1 : ZIn w v1 k1) (h2 : ZIn w v2 k2) (hM : MaxL w) (hmx : mxB < w.heap.size) : Calls Tryd.prog 5 #[.agg #[.int .i64 t.k, .string t.t, .int .i64 t.b, .int .i64 t.e, .int .i64 t.l, .int .i64 t.c, v1], .agg #[.int .i64 t2.k, .string t2.t, .int .i64 t2.b, .int .i64 t2.e, .int .i64 t2.l, .int .i64 t2.c, v2]] w fun r w' => r = .returned (.bool true) ∧ Below w.heap.size w w' := by
  have G1 := hideT (fun W hW => rsame h1 h2 t t2 W hW)
  have G2 := hideT (fun W hW => psame h1 h2 t t2 W hW)
  have G3 := hideT (fun W hW => psame h2 h1 t2 t W hW)
  rw [sameZ_comm] at G3
  generalize sameZ (.mk t k1) (.mk t2 k2) = res at G1 G2 G3
  obtain ⟨a1, c1, e1⟩ := h1.sl
  obtain ⟨a2, c2, e2⟩ := h2.sl
  subst e1 e2
  clear h1 h2
  have b1 := below_alloc (w := w) (.cells #[.int .i64 t.k, .string t.t, .int .i64 t.b, .int .i64 t.e, .int .i64 t.l, .int .i64 t.c, .slice a1 k1.length c1] 34)
  have qA := Blk.new w #[.int .i64 t.k, .string t.t, .int .i64 t.b, .int .i64 t.e, .int .i64 t.l, .int .i64 t.c, .slice a1 k1.length c1] 34
  have e1 : (w.alloc (.cells #[.int .i64 t.k, .string t.t, .int .i64 t.b, .int .i64 t.e, .int .i64 t.l, .int .i64 t.c, .slice a1 k1.length c1] 34)).heap.size = w.heap.size + 1 := by simp
  have b2 := below_alloc (w := w.alloc (.cells #[.int .i64 t.k, .string t.t, .int .i64 t.b, .int .i64 t.e, .int .i64 t.l, .int .i64 t.c, .slice a1 k1.length c1] 34)) (.cells #[.int .i64 t2.k, .string t2.t, .int .i64 t2.b, .int .i64 t2.e, .int .i64 t2.l, .int .i64 t2.c, .slice a2 k2.length c2] 34)
  have qB := Blk.new (w.alloc (.cells #[.int .i64 t.k, .string t.t, .int .i64 t.b, .int .i64 t.e, .int .i64 t.l, .int .i64 t.c, .slice a1 k1.length c1] 34)) #[.int .i64 t2.k, .string t2.t, .int .i64 t2.b, .int .i64 t2.e, .int .i64 t2.l, .int .i64 t2.c, .slice a2 k2.length c2] 34
  rw [e1] at qB
  replace qA := qA.later b2
  have hB := b1.trans (b2.mono b1.size)
  clear b1 b2
  go_enter Tryd.func5, Tryd.ntmps5
  go_upto_region 1 with fail
  try rw [e1]
  generalize (w.alloc (.cells #[.int .i64 t.k, .string t.t, .int .i64 t.b, .int .i64 t.e, .int .i64 t.l, .int .i64 t.c, .slice a1 k1.length c1] 34)).alloc (.cells #[.int .i64 t2.k, .string t2.t, .int .i64 t2.b, .int .i64 t2.e, .int .i64 t2.l, .int .i64 t2.c, .slice a2 k2.length c2] 34) = W at qA qB hB ⊢
  clear e1
  have x0 := qA.cell 0
  have y0 := qB.cell 0
  have x1 := qA.cell 1
  have y1 := qB.cell 1
  have x2 := qA.cell 2
  have y2 := qB.cell 2
  have x3 := qA.cell 3
  have y3 := qB.cell 3
  have x4 := qA.cell 4
  have y4 := qB.cell 4
  have x5 := qA.cell 5
  have y5 := qB.cell 5
  have x6 := qA.cell 6
  have y6 := qB.cell 6
  simp only [List.getElem?_toArray, List.getElem?_cons_zero, List.getElem?_cons_succ] at x0 y0 x1 y1 x2 y2 x3 y3 x4 y4 x5 y5 x6 y6
  go_wp2_with fail
  refine (G1.out _ hB).mono ?_
  rintro e wa ⟨rfl, ba⟩
  replace qA := qA.later ba
  replace qB := qB.later ba
  replace hB := hB.trans (ba.mono hB.size)
  clear ba x0 y0 x1 y1 x2 y2 x3 y3 x4 y4 x5 y5 x6 y6
  have x0 := qA.cell 0
  have y0 := qB.cell 0
  have x1 := qA.cell 1
  have y1 := qB.cell 1
  have x2 := qA.cell 2
  have y2 := qB.cell 2
  have x3 := qA.cell 3
  have y3 := qB.cell 3
  have x4 := qA.cell 4
  have y4 := qB.cell 4
  have x5 := qA.cell 5
  have y5 := qB.cell 5
  have x6 := qA.cell 6
  have y6 := qB.cell 6
  simp only [List.getElem?_toArray, List.getElem?_cons_zero, List.getElem?_cons_succ] at x0 y0 x1 y1 x2 y2 x3 y3 x4 y4 x5 y5 x6 y6
  have GL := hideT (lives_is wa (hM.on hB) (Nat.lt_of_lt_of_le hmx hB.size))
  go_wp2_with fail
  refine GL.out.mono ?_
  clear GL
  rintro e wa ⟨rfl, ba⟩
  replace qA := qA.later ba
  replace qB := qB.later ba
  replace hB := hB.trans (ba.mono hB.size)
  clear ba x0 y0 x1 y1 x2 y2 x3 y3 x4 y4 x5 y5 x6 y6
  have x0 := qA.cell 0
  have y0 := qB.cell 0
  have x1 := qA.cell 1
  have y1 := qB.cell 1
  have x2 := qA.cell 2
  have y2 := qB.cell 2
  have x3 := qA.cell 3
  have y3 := qB.cell 3
  have x4 := qA.cell 4
  have y4 := qB.cell 4
  have x5 := qA.cell 5
  have y5 := qB.cell 5
  have x6 := qA.cell 6
  have y6 := qB.cell 6
  simp only [List.getElem?_toArray, List.getElem?_cons_zero, List.getElem?_cons_succ] at x0 y0 x1 y1 x2 y2 x3 y3 x4 y4 x5 y5 x6 y6
  go_wp2_with fail
  refine (G2.out _ hB).mono ?_
  rintro e wa ⟨rfl, ba⟩
  replace qA := qA.later ba
  replace qB := qB.later ba
  replace hB := hB.trans (ba.mono hB.size)
  clear ba x0 y0 x1 y1 x2 y2 x3 y3 x4 y4 x5 y5 x6 y6
  have x0 := qA.cell 0
  have y0 := qB.cell 0
  have x1 := qA.cell 1
  have y1 := qB.cell 1
  have x2 := qA.cell 2
  have y2 := qB.cell 2
  have x3 := qA.cell 3
  have y3 := qB.cell 3
  have x4 := qA.cell 4
  have y4 := qB.cell 4
  have x5 := qA.cell 5
  have y5 := qB.cell 5
  have x6 := qA.cell 6
  have y6 := qB.cell 6
  simp only [List.getElem?_toArray, List.getElem?_cons_zero, List.getElem?_cons_succ] at x0 y0 x1 y1 x2 y2 x3 y3 x4 y4 x5 y5 x6 y6
  have hres : (res == res) = true := by simp
  go_wp2_with fail
  refine (G3.out _ hB).mono ?_
  rintro e wa ⟨rfl, ba⟩
  replace qA := qA.later ba
  replace qB := qB.later ba
  replace hB := hB.trans (ba.mono hB.size)
  clear ba x0 y0 x1 y1 x2 y2 x3 y3 x4 y4 x5 y5 x6 y6
  have x0 := qA.cell 0
  have y0 := qB.cell 0
  have x1 := qA.cell 1
  have y1 := qB.cell 1
  have x2 := qA.cell 2
  have y2 := qB.cell 2
  have x3 := qA.cell 3
  have y3 := qB.cell 3
  have x4 := qA.cell 4
  have y4 := qB.cell 4
  have x5 := qA.cell 5
  have y5 := qB.cell 5
  have x6 := qA.cell 6
  have y6 := qB.cell 6
  simp only [List.getElem?_toArray, List.getElem?_cons_zero, List.getElem?_cons_succ] at x0 y0 x1 y1 x2 y2 x3 y3 x4 y4 x5 y5 x6 y6
  go_wp2
  go_ret
  exact ⟨rfl, hB⟩

end Go.Proofs.YtibeiggedmabkaaDoor
