/-
  A bank that nobody made.
-/
import Derived.Test.YtajoffppkemnmaaGreatDoorTKB
import Derived.Deep.Cut
namespace Go.Proofs.YtajoffppkemnmaaGreatDoor
open Go.RowKit
set_option linter.unusedVariables false
set_option linter.unusedSimpArgs false
theorem results_ttcN {fn : Func} {p u t : Tmp} {ty : TypeId} (h : fn.results = #[.tmp p, .tmp u, .cell t ty]) (tmps : Array Value) (P : Program) (w : World) :
    (results fn tmps).run P w = ((asAddr (tmps.getD t undef)).run P w).andThen fun a w1 => ((loadVar ty a).run P w1).andThen fun v w2 => .ok (.tuple #[tmps.getD p undef, tmps.getD u undef, v]) w2 := by
  simp only [results, h]
  simp [Sem.run_bind]
theorem results_tcN {fn : Func} {p t : Tmp} {ty : TypeId} (h : fn.results = #[.tmp p, .cell t ty]) (tmps : Array Value) (P : Program) (w : World) :
    (results fn tmps).run P w = ((asAddr (tmps.getD t undef)).run P w).andThen fun a w1 => ((loadVar ty a).run P w1).andThen fun v w2 => .ok (.tuple #[tmps.getD p undef, v]) w2 := by
  simp only [results, h]
  simp [Sem.run_bind]
theorem results_ctN {fn : Func} {p t : Tmp} {ty : TypeId} (h : fn.results = #[.cell t ty, .tmp p]) (tmps : Array Value) (P : Program) (w : World) :
    (results fn tmps).run P w = ((asAddr (tmps.getD t undef)).run P w).andThen fun a w1 => ((loadVar ty a).run P w1).andThen fun v w2 => .ok (.tuple #[v, tmps.getD p undef]) w2 := by
  simp only [results, h]
  simp [Sem.run_bind]
/-- nobody's bank: nil, or a plain one -/
def NobB (w : World) (v : Value) : Prop := v = .pointer none ∨ ∃ b, v = .pointer (some ⟨b, 0, none⟩) ∧ w.cell? ⟨b, 1, none⟩ = some (.map none)
theorem NobB.later {w w' : World} {v : Value} (h : NobB w v) (hb : Below w.heap.size w w') : NobB w' v := by
  rcases h with h | ⟨b, h, hc⟩
  · exact Or.inl h
  · exact Or.inr ⟨b, h, below_cell hb hc⟩
set_option maxHeartbeats 2000000 in
set_option maxRecDepth 100000 in
theorem isMade_no (v : Value) (w : World) (h : NobB w v) : Calls Tryz.prog 15 #[v] w fun e w' => e = .returned (.bool false) ∧ Below w.heap.size w w' := by
  rcases h with rfl | ⟨b, rfl, hc⟩
  · go_enter Tryz.func15, Tryz.ntmps15
    go_wp2
    go_ret
    exact ⟨rfl, Below.refl _ _⟩
  · have hne : ∀ wx : World, (binOp BinOp.neq 41 (Value.map none) (Value.map none)).run Tryz.prog wx = .ok (.bool false) wx := fun wx => by kernel_rfl
    go_enter Tryz.func15, Tryz.ntmps15
    go_wp2
    go_ret
    exact ⟨rfl, Below.refl _ _⟩
set_option maxHeartbeats 2000000 in
set_option maxRecDepth 100000 in
theorem want_no (v : Value) (x : Value) (w : World) (h : NobB w v) : Calls Tryz.prog 25 #[v, x] w fun e w' => e = .returned (.int .i64 1) ∧ Below w.heap.size w w' := by
  have G := hideT (isMade_no v w h)
  clear h
  go_enter Tryz.func25, Tryz.ntmps25
  go_wp2_with fail
  refine G.out.mono ?_
  rintro e w1 ⟨rfl, b1⟩
  go_wp2
  go_ret
  exact ⟨rfl, b1⟩

set_option maxHeartbeats 2000000 in
set_option maxRecDepth 100000 in
theorem len_no (v : Value) (w : World) (h : NobB w v) : Calls Tryz.prog 12 #[v] w fun e w' => e = .returned (.int .i64 0) ∧ Below w.heap.size w w' := by
  have G := hideT (isMade_no v w h)
  clear h
  go_enter Tryz.func12, Tryz.ntmps12
  go_wp2_with fail
  refine G.out.mono ?_
  rintro e w1 ⟨rfl, b1⟩
  go_wp2
  go_ret
  exact ⟨rfl, b1⟩

set_option maxHeartbeats 2000000 in
set_option maxRecDepth 100000 in
theorem names_no (v : Value) (w : World) (h : NobB w v) : Calls Tryz.prog 13 #[v] w fun e w' => e = .returned (.int .i64 0) ∧ Below w.heap.size w w' := by
  have G := hideT (isMade_no v w h)
  clear h
  go_enter Tryz.func13, Tryz.ntmps13
  go_wp2_with fail
  refine G.out.mono ?_
  rintro e w1 ⟨rfl, b1⟩
  go_wp2
  go_ret
  exact ⟨rfl, b1⟩

set_option maxHeartbeats 2000000 in
set_option maxRecDepth 100000 in
theorem declared_no (v : Value) (w : World) (h : NobB w v) : Calls Tryz.prog 14 #[v] w fun e w' => e = .returned (.slice none 0 0) ∧ Below w.heap.size w w' := by
  have G := hideT (isMade_no v w h)
  clear h
  go_enter Tryz.func14, Tryz.ntmps14
  go_wp2_with fail
  refine G.out.mono ?_
  rintro e w1 ⟨rfl, b1⟩
  go_wp2
  go_ret
  exact ⟨rfl, b1⟩

set_option maxHeartbeats 2000000 in
set_option maxRecDepth 100000 in
theorem forget_no (v : Value) (x : Value) (w : World) (h : NobB w v) : Calls Tryz.prog 11 #[v, x] w fun e w' => e = .returned (.int .i64 1) ∧ Below w.heap.size w w' := by
  have G := hideT (isMade_no v w h)
  clear h
  go_enter Tryz.func11, Tryz.ntmps11
  go_wp2_with fail
  refine G.out.mono ?_
  rintro e w1 ⟨rfl, b1⟩
  go_wp2
  go_ret
  exact ⟨rfl, b1⟩

set_option maxHeartbeats 2000000 in
set_option maxRecDepth 100000 in
theorem declare_no (v : Value) (x y : Value) (w : World) (h : NobB w v) : Calls Tryz.prog 5 #[v, x, y] w fun e w' => e = .returned (.tuple #[.int .i64 0, .int .i64 1]) ∧ Below w.heap.size w w' := by
  have G := hideT (isMade_no v w h)
  clear h
  go_enter Tryz.func5, Tryz.ntmps5
  go_wp2_with fail
  refine G.out.mono ?_
  rintro e w1 ⟨rfl, b1⟩
  go_wp2
  refine bodyPost_ret (v := .tuple #[.int .i64 0, .int .i64 1]) (by rw [results_ttB rfl]; rfl) rfl ?_
  exact ⟨rfl, b1⟩

set_option maxHeartbeats 2000000 in
set_option maxRecDepth 100000 in
theorem print_no (v : Value) (x : Value) (w : World) (h : NobB w v) : Calls Tryz.prog 9 #[v, x] w fun e w' => e = .returned (.tuple #[.string ⟨#[]⟩, .int .i64 1]) ∧ Below w.heap.size w w' := by
  have G := hideT (want_no v x w h)
  clear h
  go_enter Tryz.func9, Tryz.ntmps9
  go_wp2_with fail
  refine G.out.mono ?_
  rintro e w1 ⟨rfl, b1⟩
  go_wp2
  refine bodyPost_ret (v := .tuple #[.string ⟨#[]⟩, .int .i64 1]) (by rw [results_ttB rfl]; rfl) rfl ?_
  exact ⟨rfl, b1⟩

set_option maxHeartbeats 2000000 in
set_option maxRecDepth 100000 in
theorem stand_no (v : Value) (x : Value) (w : World) (h : NobB w v) : Calls Tryz.prog 10 #[v, x] w fun e w' => e = .returned (.tuple #[.int .i64 0, .int .i64 1]) ∧ Below w.heap.size w w' := by
  have G := hideT (want_no v x w h)
  clear h
  go_enter Tryz.func10, Tryz.ntmps10
  go_wp2_with fail
  refine G.out.mono ?_
  rintro e w1 ⟨rfl, b1⟩
  go_wp2
  refine bodyPost_ret (v := .tuple #[.int .i64 0, .int .i64 1]) (by rw [results_ttB rfl]; rfl) rfl ?_
  exact ⟨rfl, b1⟩

set_option maxHeartbeats 2000000 in
set_option maxRecDepth 100000 in
theorem add_no (v : Value) (c0 c1 c2 c3 c4 c5 c6 : Value) (w : World) (h : NobB w v) : Calls Tryz.prog 4 #[v, .agg #[c0, c1, c2, c3, c4, c5, c6]] w fun e w' => e = .returned (.tuple #[.int .i64 0, .int .i64 1]) ∧ Below w.heap.size w w' := by
  have bA := below_alloc (w := w) (.cells #[c0, c1, c2, c3, c4, c5, c6] 30)
  have G := hideT (isMade_no v _ (h.later bA))
  clear h
  go_enter Tryz.func4, Tryz.ntmps4
  go_wp2_with fail
  refine G.out.mono ?_
  rintro e w1 ⟨rfl, b1⟩
  go_wp2
  refine bodyPost_ret (v := .tuple #[.int .i64 0, .int .i64 1]) (by rw [results_ttB rfl]; rfl) rfl ?_
  exact ⟨rfl, bA.trans (b1.mono bA.size)⟩

set_option maxHeartbeats 2000000 in
set_option maxRecDepth 100000 in
theorem define_no (v : Value) (x y z : Value) (c0 c1 c2 c3 c4 c5 c6 : Value) (w : World) (h : NobB w v) : Calls Tryz.prog 6 #[v, x, y, z, .agg #[c0, c1, c2, c3, c4, c5, c6]] w fun e w' => e = .returned (.tuple #[.int .i64 1, .agg #[.int .i64 0, .string ⟨#[]⟩, .int .i64 0, .int .i64 0, .int .i64 0, .int .i64 0, .slice none 0 0]]) ∧ Below w.heap.size w w' := by
  have b00 := below_alloc (w := w) (.cells #[c0, c1, c2, c3, c4, c5, c6] 36)
  have bZ := below_alloc (w := (w.alloc (.cells #[c0, c1, c2, c3, c4, c5, c6] 36))) (.cells #[.int .i64 0, .string ⟨#[]⟩, .int .i64 0, .int .i64 0, .int .i64 0, .int .i64 0, .slice none 0 0] 36)
  have qZ := Blk.new (w.alloc (.cells #[c0, c1, c2, c3, c4, c5, c6] 36)) #[.int .i64 0, .string ⟨#[]⟩, .int .i64 0, .int .i64 0, .int .i64 0, .int .i64 0, .slice none 0 0] 36
  have bT0 := b00.trans (bZ.mono b00.size)
  have eZ : (w.alloc (.cells #[c0, c1, c2, c3, c4, c5, c6] 36)).heap.size = w.heap.size + 1 := by simp
  rw [eZ] at qZ
  have G := hideT (isMade_no v _ (h.later bT0))
  have hB := bT0
  have h0 : w.heap.size ≤ ((w.alloc (.cells #[c0, c1, c2, c3, c4, c5, c6] 36)).alloc (.cells #[.int .i64 0, .string ⟨#[]⟩, .int .i64 0, .int .i64 0, .int .i64 0, .int .i64 0, .slice none 0 0] 36)).heap.size := hB.size
  clear h
  go_enter Tryz.func6, Tryz.ntmps6
  go_upto_region 1 with fail
  try rw [eZ]
  generalize ((w.alloc (.cells #[c0, c1, c2, c3, c4, c5, c6] 36)).alloc (.cells #[.int .i64 0, .string ⟨#[]⟩, .int .i64 0, .int .i64 0, .int .i64 0, .int .i64 0, .slice none 0 0] 36)) = W at qZ G hB h0 ⊢
  clear eZ bZ b00 bT0
  go_wp2_with fail
  refine G.out.mono ?_
  rintro e w1 ⟨rfl, b1⟩
  replace qZ := qZ.later b1
  replace hB := hB.trans (b1.mono hB.size)
  clear b1 G
  have t0 := qZ.cell 0
  have t1 := qZ.cell 1
  have t2 := qZ.cell 2
  have t3 := qZ.cell 3
  have t4 := qZ.cell 4
  have t5 := qZ.cell 5
  have t6 := qZ.cell 6
  simp only [List.getElem?_toArray, List.getElem?_cons_zero, List.getElem?_cons_succ] at t0 t1 t2 t3 t4 t5 t6
  have fz := fun o => qZ.frozen o
  go_wp2
  clear fz t0 t1 t2 t3 t4 t5 t6
  have q0 := qZ
  obtain ⟨k0, q1⟩ := q0.set (o := 0) (.int .i64 0)
  obtain ⟨k1, q2⟩ := q1.set (o := 1) (.string ⟨#[]⟩)
  obtain ⟨k2, q3⟩ := q2.set (o := 2) (.int .i64 0)
  obtain ⟨k3, q4⟩ := q3.set (o := 3) (.int .i64 0)
  obtain ⟨k4, q5⟩ := q4.set (o := 4) (.int .i64 0)
  obtain ⟨k5, q6⟩ := q5.set (o := 5) (.int .i64 0)
  obtain ⟨k6, q7⟩ := q6.set (o := 6) (.slice none 0 0)
  have q9 : Blk (((((((w1.setCell ⟨w.heap.size + 1, 0, none⟩ (.int .i64 0)).setCell ⟨w.heap.size + 1, 1, none⟩ (.string ⟨#[]⟩)).setCell ⟨w.heap.size + 1, 2, none⟩ (.int .i64 0)).setCell ⟨w.heap.size + 1, 3, none⟩ (.int .i64 0)).setCell ⟨w.heap.size + 1, 4, none⟩ (.int .i64 0)).setCell ⟨w.heap.size + 1, 5, none⟩ (.int .i64 0)).setCell ⟨w.heap.size + 1, 6, none⟩ (.slice none 0 0)) (w.heap.size + 1) #[.int .i64 0, .string ⟨#[]⟩, .int .i64 0, .int .i64 0, .int .i64 0, .int .i64 0, .slice none 0 0] 36 := by simpa using q7
  have hB9 : Below w.heap.size w (((((((w1.setCell ⟨w.heap.size + 1, 0, none⟩ (.int .i64 0)).setCell ⟨w.heap.size + 1, 1, none⟩ (.string ⟨#[]⟩)).setCell ⟨w.heap.size + 1, 2, none⟩ (.int .i64 0)).setCell ⟨w.heap.size + 1, 3, none⟩ (.int .i64 0)).setCell ⟨w.heap.size + 1, 4, none⟩ (.int .i64 0)).setCell ⟨w.heap.size + 1, 5, none⟩ (.int .i64 0)).setCell ⟨w.heap.size + 1, 6, none⟩ (.slice none 0 0)) := by
    have a := hB
    replace a := a.trans (k0.below (B := w.heap.size) (by omega))
    replace a := a.trans (k1.below (B := w.heap.size) (by omega))
    replace a := a.trans (k2.below (B := w.heap.size) (by omega))
    replace a := a.trans (k3.below (B := w.heap.size) (by omega))
    replace a := a.trans (k4.below (B := w.heap.size) (by omega))
    replace a := a.trans (k5.below (B := w.heap.size) (by omega))
    replace a := a.trans (k6.below (B := w.heap.size) (by omega))
    exact a
  have u0 := q9.cell 0
  have u1 := q9.cell 1
  have u2 := q9.cell 2
  have u3 := q9.cell 3
  have u4 := q9.cell 4
  have u5 := q9.cell 5
  have u6 := q9.cell 6
  simp only [List.getElem?_toArray, List.getElem?_cons_zero, List.getElem?_cons_succ] at u0 u1 u2 u3 u4 u5 u6
  clear qZ q0 q1 q2 q3 q4 q5 q6 q7 q9 k0 k1 k2 k3 k4 k5 k6
  generalize (((((((w1.setCell ⟨w.heap.size + 1, 0, none⟩ (.int .i64 0)).setCell ⟨w.heap.size + 1, 1, none⟩ (.string ⟨#[]⟩)).setCell ⟨w.heap.size + 1, 2, none⟩ (.int .i64 0)).setCell ⟨w.heap.size + 1, 3, none⟩ (.int .i64 0)).setCell ⟨w.heap.size + 1, 4, none⟩ (.int .i64 0)).setCell ⟨w.heap.size + 1, 5, none⟩ (.int .i64 0)).setCell ⟨w.heap.size + 1, 6, none⟩ (.slice none 0 0)) = w9 at hB9 u0 u1 u2 u3 u4 u5 u6 ⊢
  refine bodyPost_ret (v := .tuple #[.int .i64 1, .agg #[.int .i64 0, .string ⟨#[]⟩, .int .i64 0, .int .i64 0, .int .i64 0, .int .i64 0, .slice none 0 0]]) (by rw [results_tcN rfl]; go_simp) rfl ?_
  exact ⟨rfl, hB9⟩

set_option maxHeartbeats 2000000 in
set_option maxRecDepth 100000 in
theorem read_no (v : Value) (c0 c1 c2 c3 c4 c5 c6 : Value) (w : World) (h : NobB w v) : Calls Tryz.prog 8 #[v, .agg #[c0, c1, c2, c3, c4, c5, c6]] w fun e w' => e = .returned (.tuple #[.int .i64 0, .int .i64 1, .agg #[.int .i64 0, .string ⟨#[]⟩, .int .i64 0, .int .i64 0, .int .i64 0, .int .i64 0, .slice none 0 0]]) ∧ Below w.heap.size w w' := by
  have b00 := below_alloc (w := w) (.cells #[c0, c1, c2, c3, c4, c5, c6] 36)
  have bZ := below_alloc (w := (w.alloc (.cells #[c0, c1, c2, c3, c4, c5, c6] 36))) (.cells #[.int .i64 0, .string ⟨#[]⟩, .int .i64 0, .int .i64 0, .int .i64 0, .int .i64 0, .slice none 0 0] 36)
  have qZ := Blk.new (w.alloc (.cells #[c0, c1, c2, c3, c4, c5, c6] 36)) #[.int .i64 0, .string ⟨#[]⟩, .int .i64 0, .int .i64 0, .int .i64 0, .int .i64 0, .slice none 0 0] 36
  have bT0 := b00.trans (bZ.mono b00.size)
  have eZ : (w.alloc (.cells #[c0, c1, c2, c3, c4, c5, c6] 36)).heap.size = w.heap.size + 1 := by simp
  rw [eZ] at qZ
  have G := hideT (isMade_no v _ (h.later bT0))
  have hB := bT0
  have h0 : w.heap.size ≤ ((w.alloc (.cells #[c0, c1, c2, c3, c4, c5, c6] 36)).alloc (.cells #[.int .i64 0, .string ⟨#[]⟩, .int .i64 0, .int .i64 0, .int .i64 0, .int .i64 0, .slice none 0 0] 36)).heap.size := hB.size
  clear h
  go_enter Tryz.func8, Tryz.ntmps8
  go_upto_region 1 with fail
  try rw [eZ]
  generalize ((w.alloc (.cells #[c0, c1, c2, c3, c4, c5, c6] 36)).alloc (.cells #[.int .i64 0, .string ⟨#[]⟩, .int .i64 0, .int .i64 0, .int .i64 0, .int .i64 0, .slice none 0 0] 36)) = W at qZ G hB h0 ⊢
  clear eZ bZ b00 bT0
  go_wp2_with fail
  refine G.out.mono ?_
  rintro e w1 ⟨rfl, b1⟩
  replace qZ := qZ.later b1
  replace hB := hB.trans (b1.mono hB.size)
  clear b1 G
  have t0 := qZ.cell 0
  have t1 := qZ.cell 1
  have t2 := qZ.cell 2
  have t3 := qZ.cell 3
  have t4 := qZ.cell 4
  have t5 := qZ.cell 5
  have t6 := qZ.cell 6
  simp only [List.getElem?_toArray, List.getElem?_cons_zero, List.getElem?_cons_succ] at t0 t1 t2 t3 t4 t5 t6
  have fz := fun o => qZ.frozen o
  go_wp2
  clear fz t0 t1 t2 t3 t4 t5 t6
  have q0 := qZ
  obtain ⟨k0, q1⟩ := q0.set (o := 0) (.int .i64 0)
  obtain ⟨k1, q2⟩ := q1.set (o := 1) (.string ⟨#[]⟩)
  obtain ⟨k2, q3⟩ := q2.set (o := 2) (.int .i64 0)
  obtain ⟨k3, q4⟩ := q3.set (o := 3) (.int .i64 0)
  obtain ⟨k4, q5⟩ := q4.set (o := 4) (.int .i64 0)
  obtain ⟨k5, q6⟩ := q5.set (o := 5) (.int .i64 0)
  obtain ⟨k6, q7⟩ := q6.set (o := 6) (.slice none 0 0)
  have q9 : Blk (((((((w1.setCell ⟨w.heap.size + 1, 0, none⟩ (.int .i64 0)).setCell ⟨w.heap.size + 1, 1, none⟩ (.string ⟨#[]⟩)).setCell ⟨w.heap.size + 1, 2, none⟩ (.int .i64 0)).setCell ⟨w.heap.size + 1, 3, none⟩ (.int .i64 0)).setCell ⟨w.heap.size + 1, 4, none⟩ (.int .i64 0)).setCell ⟨w.heap.size + 1, 5, none⟩ (.int .i64 0)).setCell ⟨w.heap.size + 1, 6, none⟩ (.slice none 0 0)) (w.heap.size + 1) #[.int .i64 0, .string ⟨#[]⟩, .int .i64 0, .int .i64 0, .int .i64 0, .int .i64 0, .slice none 0 0] 36 := by simpa using q7
  have hB9 : Below w.heap.size w (((((((w1.setCell ⟨w.heap.size + 1, 0, none⟩ (.int .i64 0)).setCell ⟨w.heap.size + 1, 1, none⟩ (.string ⟨#[]⟩)).setCell ⟨w.heap.size + 1, 2, none⟩ (.int .i64 0)).setCell ⟨w.heap.size + 1, 3, none⟩ (.int .i64 0)).setCell ⟨w.heap.size + 1, 4, none⟩ (.int .i64 0)).setCell ⟨w.heap.size + 1, 5, none⟩ (.int .i64 0)).setCell ⟨w.heap.size + 1, 6, none⟩ (.slice none 0 0)) := by
    have a := hB
    replace a := a.trans (k0.below (B := w.heap.size) (by omega))
    replace a := a.trans (k1.below (B := w.heap.size) (by omega))
    replace a := a.trans (k2.below (B := w.heap.size) (by omega))
    replace a := a.trans (k3.below (B := w.heap.size) (by omega))
    replace a := a.trans (k4.below (B := w.heap.size) (by omega))
    replace a := a.trans (k5.below (B := w.heap.size) (by omega))
    replace a := a.trans (k6.below (B := w.heap.size) (by omega))
    exact a
  have u0 := q9.cell 0
  have u1 := q9.cell 1
  have u2 := q9.cell 2
  have u3 := q9.cell 3
  have u4 := q9.cell 4
  have u5 := q9.cell 5
  have u6 := q9.cell 6
  simp only [List.getElem?_toArray, List.getElem?_cons_zero, List.getElem?_cons_succ] at u0 u1 u2 u3 u4 u5 u6
  clear qZ q0 q1 q2 q3 q4 q5 q6 q7 q9 k0 k1 k2 k3 k4 k5 k6
  generalize (((((((w1.setCell ⟨w.heap.size + 1, 0, none⟩ (.int .i64 0)).setCell ⟨w.heap.size + 1, 1, none⟩ (.string ⟨#[]⟩)).setCell ⟨w.heap.size + 1, 2, none⟩ (.int .i64 0)).setCell ⟨w.heap.size + 1, 3, none⟩ (.int .i64 0)).setCell ⟨w.heap.size + 1, 4, none⟩ (.int .i64 0)).setCell ⟨w.heap.size + 1, 5, none⟩ (.int .i64 0)).setCell ⟨w.heap.size + 1, 6, none⟩ (.slice none 0 0)) = w9 at hB9 u0 u1 u2 u3 u4 u5 u6 ⊢
  refine bodyPost_ret (v := .tuple #[.int .i64 0, .int .i64 1, .agg #[.int .i64 0, .string ⟨#[]⟩, .int .i64 0, .int .i64 0, .int .i64 0, .int .i64 0, .slice none 0 0]]) (by rw [results_ttcN rfl]; go_simp) rfl ?_
  exact ⟨rfl, hB9⟩

set_option maxHeartbeats 2000000 in
set_option maxRecDepth 100000 in
theorem get_no (v : Value) (x : Value) (w : World) (h : NobB w v) : Calls Tryz.prog 7 #[v, x] w fun e w' => e = .returned (.tuple #[.agg #[.int .i64 0, .int .i64 0, .string ⟨#[]⟩, .bool false, .slice none 0 0, .slice none 0 0, .slice none 0 0], .int .i64 1]) ∧ Below w.heap.size w w' := by
  have bZ := below_alloc (w := w) (.cells #[.int .i64 0, .int .i64 0, .string ⟨#[]⟩, .bool false, .slice none 0 0, .slice none 0 0, .slice none 0 0] 30)
  have qZ := Blk.new w #[.int .i64 0, .int .i64 0, .string ⟨#[]⟩, .bool false, .slice none 0 0, .slice none 0 0, .slice none 0 0] 30
  have eZ : w.heap.size = w.heap.size := by simp
  rw [eZ] at qZ
  have G := hideT (want_no v x _ (h.later bZ))
  have hB := bZ
  have h0 : w.heap.size ≤ (w.alloc (.cells #[.int .i64 0, .int .i64 0, .string ⟨#[]⟩, .bool false, .slice none 0 0, .slice none 0 0, .slice none 0 0] 30)).heap.size := hB.size
  clear h
  go_enter Tryz.func7, Tryz.ntmps7
  go_upto_region 1 with fail
  try rw [eZ]
  generalize (w.alloc (.cells #[.int .i64 0, .int .i64 0, .string ⟨#[]⟩, .bool false, .slice none 0 0, .slice none 0 0, .slice none 0 0] 30)) = W at qZ G hB h0 ⊢
  clear eZ bZ
  go_wp2_with fail
  refine G.out.mono ?_
  rintro e w1 ⟨rfl, b1⟩
  replace qZ := qZ.later b1
  replace hB := hB.trans (b1.mono hB.size)
  clear b1 G
  have t0 := qZ.cell 0
  have t1 := qZ.cell 1
  have t2 := qZ.cell 2
  have t3 := qZ.cell 3
  have t4 := qZ.cell 4
  have t5 := qZ.cell 5
  have t6 := qZ.cell 6
  simp only [List.getElem?_toArray, List.getElem?_cons_zero, List.getElem?_cons_succ] at t0 t1 t2 t3 t4 t5 t6
  have fz := fun o => qZ.frozen o
  go_wp2
  clear fz t0 t1 t2 t3 t4 t5 t6
  have q0 := qZ
  obtain ⟨k0, q1⟩ := q0.set (o := 0) (.int .i64 0)
  obtain ⟨k1, q2⟩ := q1.set (o := 1) (.int .i64 0)
  obtain ⟨k2, q3⟩ := q2.set (o := 2) (.string ⟨#[]⟩)
  obtain ⟨k3, q4⟩ := q3.set (o := 3) (.bool false)
  obtain ⟨k4, q5⟩ := q4.set (o := 4) (.slice none 0 0)
  obtain ⟨k5, q6⟩ := q5.set (o := 5) (.slice none 0 0)
  obtain ⟨k6, q7⟩ := q6.set (o := 6) (.slice none 0 0)
  have q9 : Blk (((((((w1.setCell ⟨w.heap.size, 0, none⟩ (.int .i64 0)).setCell ⟨w.heap.size, 1, none⟩ (.int .i64 0)).setCell ⟨w.heap.size, 2, none⟩ (.string ⟨#[]⟩)).setCell ⟨w.heap.size, 3, none⟩ (.bool false)).setCell ⟨w.heap.size, 4, none⟩ (.slice none 0 0)).setCell ⟨w.heap.size, 5, none⟩ (.slice none 0 0)).setCell ⟨w.heap.size, 6, none⟩ (.slice none 0 0)) (w.heap.size) #[.int .i64 0, .int .i64 0, .string ⟨#[]⟩, .bool false, .slice none 0 0, .slice none 0 0, .slice none 0 0] 30 := by simpa using q7
  have hB9 : Below w.heap.size w (((((((w1.setCell ⟨w.heap.size, 0, none⟩ (.int .i64 0)).setCell ⟨w.heap.size, 1, none⟩ (.int .i64 0)).setCell ⟨w.heap.size, 2, none⟩ (.string ⟨#[]⟩)).setCell ⟨w.heap.size, 3, none⟩ (.bool false)).setCell ⟨w.heap.size, 4, none⟩ (.slice none 0 0)).setCell ⟨w.heap.size, 5, none⟩ (.slice none 0 0)).setCell ⟨w.heap.size, 6, none⟩ (.slice none 0 0)) := by
    have a := hB
    replace a := a.trans (k0.below (B := w.heap.size) (by omega))
    replace a := a.trans (k1.below (B := w.heap.size) (by omega))
    replace a := a.trans (k2.below (B := w.heap.size) (by omega))
    replace a := a.trans (k3.below (B := w.heap.size) (by omega))
    replace a := a.trans (k4.below (B := w.heap.size) (by omega))
    replace a := a.trans (k5.below (B := w.heap.size) (by omega))
    replace a := a.trans (k6.below (B := w.heap.size) (by omega))
    exact a
  have u0 := q9.cell 0
  have u1 := q9.cell 1
  have u2 := q9.cell 2
  have u3 := q9.cell 3
  have u4 := q9.cell 4
  have u5 := q9.cell 5
  have u6 := q9.cell 6
  simp only [List.getElem?_toArray, List.getElem?_cons_zero, List.getElem?_cons_succ] at u0 u1 u2 u3 u4 u5 u6
  clear qZ q0 q1 q2 q3 q4 q5 q6 q7 q9 k0 k1 k2 k3 k4 k5 k6
  generalize (((((((w1.setCell ⟨w.heap.size, 0, none⟩ (.int .i64 0)).setCell ⟨w.heap.size, 1, none⟩ (.int .i64 0)).setCell ⟨w.heap.size, 2, none⟩ (.string ⟨#[]⟩)).setCell ⟨w.heap.size, 3, none⟩ (.bool false)).setCell ⟨w.heap.size, 4, none⟩ (.slice none 0 0)).setCell ⟨w.heap.size, 5, none⟩ (.slice none 0 0)).setCell ⟨w.heap.size, 6, none⟩ (.slice none 0 0)) = w9 at hB9 u0 u1 u2 u3 u4 u5 u6 ⊢
  refine bodyPost_ret (v := .tuple #[.agg #[.int .i64 0, .int .i64 0, .string ⟨#[]⟩, .bool false, .slice none 0 0, .slice none 0 0, .slice none 0 0], .int .i64 1]) (by rw [results_ctN rfl]; go_simp) rfl ?_
  exact ⟨rfl, hB9⟩

end Go.Proofs.YtajoffppkemnmaaGreatDoor
