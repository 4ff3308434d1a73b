/-
  Layer 8: New, of both.
-/
import Derived.Test.YtechalahaapgiaaMemB
namespace Go.Proofs.Ytechalahaapgiaa
open Go.RowKit
set_option linter.unusedVariables false
set_option linter.unusedSimpArgs false

/-- no bounds -/
def zlim : Array Value := #[.bool false, .bool false, .slice none 0 0, .slice none 0 0, .bool false, .slice none 0 0, .slice none 0 0, .int .i64 0, .bool false, .bool false, .slice none 0 0, .slice none 0 0, .bool false, .slice none 0 0, .slice none 0 0, .int .i64 0]
theorem info_Limit : (Try.prog.info? 54).map (fun i => (i.zero, i.size, i.bytes)) = some (some (.agg #[.bool false, .bool false, .slice none 0 0, .slice none 0 0, .bool false, .slice none 0 0, .slice none 0 0, .int .i64 0, .bool false, .bool false, .slice none 0 0, .slice none 0 0, .bool false, .slice none 0 0, .slice none 0 0, .int .i64 0]), 16, 256) := by kernel_rfl
theorem zlim_one : ∀ u ∈ zlim.toList, u.oneCell' = true := by
  intro u hu
  simp only [zlim, List.mem_cons, List.not_mem_nil, or_false] at hu
  rcases hu with rfl | rfl | rfl | rfl | rfl | rfl | rfl | rfl | rfl | rfl | rfl | rfl | rfl | rfl | rfl | rfl <;> rfl
theorem mk_lim {ops : Array Oper} {rest : List Oper} {o : Oper} {a : Act} {Q : Exit → Act → World → Prop} (w : World)
    (hg : o.guard = none) (l c : Operand) (hop : o.op = Op.makeSlice 26 l c) (n : Nat) (hl : a.eval l = .int .i64 n) (hc : a.eval c = .int .i64 n) (hn : n ≤ 65536) (base : Nat) (hb : base ≤ w.heap.size)
    (hK : ∀ w', w'.ownsRow base 54 16 (.slice (some ⟨w.heap.size, 0, none⟩) n n) n (madeCells zlim (n * 16)).toList → w.grownBy w' none → w'.heap.size = w.heap.size + 1 → wpList Try.prog ops Q rest (a.put o.dst (.slice (some ⟨w.heap.size, 0, none⟩) n n)) w') :
    wpList Try.prog ops Q (o :: rest) a w := by
  refine wpList_plain hg fun K hK' => ?_
  obtain ⟨i0, hi0, hz0, hz1, hz2⟩ := info_parts info_Limit
  have hr := run_make (P := Try.prog) w 26 54 i0 _ Try.underlying26 hi0 hz0 .i64 .i64 n n (by omega) (Int.le_refl _) (by rw [hz2]; omega) (by omega)
  simp only [Int.toNat_natCast] at hr
  rw [hz1] at hr
  have ho := World.ownsRow_lit (e := 54) (size := 16) w (madeCells zlim (n * 16)) n hb (by simp [maxLen]; omega) (size_madeCells _ _)
  unfold Oper.wp
  simp [execOp, hop, hl, hc, hr, Result.andThen]
  exact hK' _ _ (hK _ ho (World.grownBy_alloc w _ none) (Array.size_push _))
/-- a store that New gave: its cells -/
structure Sto (w : World) (base b : Nat) (v : Value) (n : Nat) : Prop where
  at0 : base ≤ b
  row : Row w b
  c0 : w.cell? ⟨b, 0, none⟩ = some (.int .i64 0)
  c2 : w.cell? ⟨b, 2, none⟩ = some (.bool true)
  c3 : w.cell? ⟨b, 3, none⟩ = some v
  own : ∃ xs, w.ownsRow base 54 16 v n xs
  off : v.ownBlock ≠ some b
theorem Sto.later {w w' : World} {base b n : Nat} {v : Value} (h : Sto w base b v n) (hb : Below w.heap.size w w') : Sto w' base b v n :=
  ⟨h.at0, below_row hb h.row, below_cell hb h.c0, below_cell hb h.c2, below_cell hb h.c3, by obtain ⟨xs, hx⟩ := h.own; exact ⟨xs, own_below hx hb⟩, h.off⟩
set_option maxHeartbeats 1000000 in
set_option maxRecDepth 100000 in
theorem newP_is (n : Nat) (hn : n ≤ 65536) (w : World) :
    Calls Try.prog 4 #[.int .i64 n] w fun e w' => ∃ b g, e = .returned (.tuple #[.pointer (some ⟨b, 0, none⟩), .int .i64 0]) ∧ Below w.heap.size w w' ∧ Sto w' w.heap.size b (.slice (some ⟨g, 0, none⟩) n n) n := by
  have i1 : ¬ (n : Int) < 0 := by omega
  have i2 : ¬ (n : Int) > 65536 := by omega
  go_enter Try.func4, Try.ntmps4
  go_wp2_with (refine mk_lim _ (by rfl) _ _ (by rfl) n (by rfl) (by rfl) hn w.heap.size (Nat.le_refl _) ?_)
  intro w1 ho hg hs
  have hB1 : Below w.heap.size w w1 := below_grown (Nat.le_refl _) (fun k hk => by cases hk) hg
  have hlt : w.heap.size < w1.heap.size := by omega
  go_wp2
  refine bodyPost_ret (v := .tuple #[.pointer (some ⟨w1.heap.size, 0, none⟩), .int .i64 0]) (by rw [results_tt rfl]; go_simp) rfl ?_
  refine ⟨w1.heap.size, w.heap.size, rfl, hB1.trans ((below_alloc _).mono hB1.size), ?_⟩
  exact ⟨hB1.size, row_new _ _ _, by go_simp, by go_simp, by go_simp, ⟨_, own_below ho (below_alloc _)⟩, by simp [Value.ownBlock]; omega⟩
set_option maxHeartbeats 1000000 in
set_option maxRecDepth 100000 in
theorem newP_no (x : Int) (hx : x < 0 ∨ 65536 < x) (w : World) :
    Calls Try.prog 4 #[.int .i64 x] w fun e w' => e = .returned (.tuple #[.pointer none, .int .i64 1]) ∧ Below w.heap.size w w' := by
  by_cases h1 : x < 0
  · go_enter Try.func4, Try.ntmps4
    go_wp2
    refine bodyPost_ret (v := .tuple #[.pointer none, .int .i64 1]) (by rw [results_tt rfl]; go_simp) rfl ?_
    exact ⟨rfl, Below.refl _ _⟩
  · have h2 : x > 65536 := by omega
    go_enter Try.func4, Try.ntmps4
    go_wp2
    refine bodyPost_ret (v := .tuple #[.pointer none, .int .i64 1]) (by rw [results_tt rfl]; go_simp) rfl ?_
    exact ⟨rfl, Below.refl _ _⟩
set_option maxHeartbeats 1000000 in
set_option maxRecDepth 100000 in
theorem newR_no (x : Int) (hx : x < 0 ∨ 65536 < x) (w : World) :
    Calls Try.prog 5 #[.int .i64 x] w fun e w' => e = .returned (.tuple #[.agg #[.slice none 0 0, .int .i64 0, .slice none 0 0], .int .i64 1]) ∧ Below w.heap.size w w' := by
  by_cases h1 : x < 0
  · go_enter Try.func5, Try.ntmps5
    go_wp2
    refine bodyPost_ret (v := .tuple #[.agg #[.slice none 0 0, .int .i64 0, .slice none 0 0], .int .i64 1]) (by rw [results_ct rfl]; go_simp) rfl ?_
    exact ⟨rfl, below_alloc _⟩
  · have h2 : x > 65536 := by omega
    go_enter Try.func5, Try.ntmps5
    go_wp2
    refine bodyPost_ret (v := .tuple #[.agg #[.slice none 0 0, .int .i64 0, .slice none 0 0], .int .i64 1]) (by rw [results_ct rfl]; go_simp) rfl ?_
    exact ⟨rfl, below_alloc _⟩
/-- n variables without bounds lie there -/
def LimZ (w : World) (g n : Nat) : Prop := g < w.heap.size ∧ ∀ i j, i < n → j < 16 → w.cell? ⟨g, i * 16 + j, none⟩ = zlim[j]?
theorem LimZ.later {w w' : World} {g n : Nat} (h : LimZ w g n) (hb : Below w.heap.size w w') : LimZ w' g n :=
  ⟨Nat.lt_of_lt_of_le h.1 hb.size, fun i j hi hj => by rw [hb.cell h.1]; exact h.2 i j hi hj⟩
theorem LimZ.set {w : World} {g n c o : Nat} {u : Value} (h : LimZ w g n) (hne : c ≠ g) : LimZ (w.setCell ⟨c, o, none⟩ u) g n :=
  ⟨by rw [World.size_setCell]; exact h.1, fun i j hi hj => by rw [World.cell?_setCell_far _ _ _ _ (by exact hne)]; exact h.2 i j hi hj⟩
theorem LimZ.same {w w' : World} {g n : Nat} (h : LimZ w g n) (hs : w.heap.size ≤ w'.heap.size) (hb : w'.heap[g]? = w.heap[g]?) : LimZ w' g n :=
  ⟨Nat.lt_of_lt_of_le h.1 hs, fun i j hi hj => by rw [World.cell?_of_block hb]; exact h.2 i j hi hj⟩
theorem made_at (z : Array Value) (m i j : Nat) (h : i * z.size + j < m) (hj : j < z.size) : (madeCells z m)[i * z.size + j]? = z[j]? := by
  have e : (i * z.size + j) % z.size = j := by rw [Nat.add_comm, Nat.add_mul_mod_self_right, Nat.mod_eq_of_lt hj]
  unfold madeCells
  rw [Array.getElem?_map, Array.getElem?_range, if_pos h]
  simp only [Option.map_some, e]
  rw [Array.getElem?_eq_getElem hj, getElem!_pos z j hj]
set_option maxHeartbeats 1000000 in
set_option maxRecDepth 100000 in
theorem newR_is (n : Nat) (hn : n ≤ 65536) (w : World) :
    Calls Try.prog 5 #[.int .i64 n] w fun e w' => ∃ g, e = .returned (.tuple #[.agg #[.slice (some ⟨g, 0, none⟩) n n, .int .i64 0, .slice none 0 0], .int .i64 0]) ∧ Below w.heap.size w w' ∧ LimZ w' g n ∧ w.heap.size ≤ g := by
  have i1 : ¬ (n : Int) < 0 := by omega
  have i2 : ¬ (n : Int) > 65536 := by omega
  go_enter Try.func5, Try.ntmps5
  go_wp2_with (refine mk_lim _ (by rfl) _ _ (by rfl) n (by rfl) (by rfl) hn (w.heap.size + 1) (by rw [size_alloc]; exact Nat.le_refl _) ?_)
  intro w1 ho hg hs
  have hB0 : Below w.heap.size w (w.alloc (.cells #[.slice none 0 0, .int .i64 0, .slice none 0 0] 29)) := below_alloc _
  have hB1 := hB0.trans ((below_grown (Nat.le_refl _) (fun k hk => by cases hk) hg).mono hB0.size)
  have c0 := below_cell (below_grown (Nat.le_refl _) (fun k hk => by cases hk) hg) (show (w.alloc (.cells #[.slice none 0 0, .int .i64 0, .slice none 0 0] 29)).cell? ⟨w.heap.size, 0, none⟩ = some (.slice none 0 0) by go_simp)
  have c1 := below_cell (below_grown (Nat.le_refl _) (fun k hk => by cases hk) hg) (show (w.alloc (.cells #[.slice none 0 0, .int .i64 0, .slice none 0 0] 29)).cell? ⟨w.heap.size, 1, none⟩ = some (.int .i64 0) by go_simp)
  have c2 := below_cell (below_grown (Nat.le_refl _) (fun k hk => by cases hk) hg) (show (w.alloc (.cells #[.slice none 0 0, .int .i64 0, .slice none 0 0] 29)).cell? ⟨w.heap.size, 2, none⟩ = some (.slice none 0 0) by go_simp)
  have hR := below_row (below_grown (Nat.le_refl _) (fun k hk => by cases hk) hg) (row_new w #[.slice none 0 0, .int .i64 0, .slice none 0 0] 29)
  have fz := fun o => hR.frozen o
  have hL : LimZ w1 (w.heap.size + 1) n := by
    refine ⟨by omega, fun i j hi hj => ?_⟩
    have h := ho.cellAt (i * 16 + j) (by omega)
    rw [h]
    show (madeCells zlim (n * 16)).toList[i * 16 + j]? = _
    rw [Array.getElem?_toList]
    exact made_at zlim (n * 16) i j (by show i * 16 + j < _; omega) hj
  have hh := hL.1
  go_wp2
  refine bodyPost_ret (v := .tuple #[.agg #[.slice (some ⟨w.heap.size + 1, 0, none⟩) n n, .int .i64 0, .slice none 0 0], .int .i64 0]) (by rw [results_ct rfl]; go_simp) rfl ?_
  exact ⟨w.heap.size + 1, rfl, bset (bset (bset hB1 (Nat.le_refl _)) (Nat.le_refl _)) (Nat.le_refl _), ((hL.set (by omega)).set (by omega)).set (by omega), by omega⟩
set_option maxHeartbeats 1000000 in
set_option maxRecDepth 100000 in
theorem isNone_no (b : Nat) (w : World) (h : w.cell? ⟨b, 2, none⟩ = some (.bool true)) :
    Calls Try.prog 10 #[.pointer (some ⟨b, 0, none⟩)] w fun e w' => e = .returned (.bool false) ∧ Below w.heap.size w w' := by
  go_enter Try.func10, Try.ntmps10
  go_wp2
  go_ret
  exact ⟨rfl, Below.refl _ _⟩
set_option maxHeartbeats 1000000 in
set_option maxRecDepth 100000 in
theorem growP_full (base b : Nat) (v : Value) (g cap n : Nat) (w : World) (h : Sto w base b (.slice (some ⟨g, 0, none⟩) n cap) n) (hn : ¬ n < 65536) :
    Calls Try.prog 6 #[.pointer (some ⟨b, 0, none⟩)] w fun e w' => e = .returned (.tuple #[.int .i64 0, .int .i64 2]) ∧ Below w.heap.size w w' := by
  have c3 := h.c3
  have G := hide' (fun w' (hb : Below w.heap.size w w') => isNone_no b w' (below_cell hb h.c2))
  have i1 : (n : Int) ≥ 65536 := by omega
  clear h
  go_enter Try.func6, Try.ntmps6
  go_wp2_with fail
  refine (G.out _ (Below.refl _ _)).mono ?_
  rintro e w1 ⟨rfl, b1⟩
  replace c3 := below_cell b1 c3
  go_wp2
  refine bodyPost_ret (v := .tuple #[.int .i64 0, .int .i64 2]) (by rw [results_tt rfl]; go_simp) rfl ?_
  exact ⟨rfl, b1⟩
set_option maxHeartbeats 1000000 in
set_option maxRecDepth 100000 in
theorem growP_is (base b : Nat) (g cap n : Nat) (w : World) (h : Sto w base b (.slice (some ⟨g, 0, none⟩) n cap) n) (hn : n < 65536) (hbs : base ≤ w.heap.size) :
    Calls Try.prog 6 #[.pointer (some ⟨b, 0, none⟩)] w fun e w' => ∃ g' cap', e = .returned (.tuple #[.int .i64 n, .int .i64 0]) ∧ Below base w w' ∧ Sto w' base b (.slice (some ⟨g', 0, none⟩) (n + 1) cap') (n + 1) ∧ w.heap.size ≤ w'.heap.size ∧ ∀ k, k < w.heap.size → k ≠ b → k ≠ g → w'.heap[k]? = w.heap[k]? := by
  have c3 := h.c3
  have G := hide' (fun w' (hb : Below w.heap.size w w') => isNone_no b w' (below_cell hb h.c2))
  have i1 : decide ((n : Int) ≥ 65536) = false := decide_eq_false (by omega)
  replace i1 := hide' i1
  obtain ⟨i0, hi0, hz0, hz1, hz2⟩ := info_parts info_Limit
  go_enter Try.func6, Try.ntmps6
  go_wp2_with fail
  refine (G.out _ (Below.refl _ _)).mono ?_
  rintro e w1 ⟨rfl, b1⟩
  replace h := h.later b1
  replace c3 := h.c3
  obtain ⟨xs, ho⟩ := h.own
  obtain ⟨wN, hwN⟩ : ∃ wN, w1.alloc (.cells zlim 54) = wN := ⟨_, rfl⟩
  have hnew := heap_alloc_new w1 (.cells zlim 54)
  have b3 := below_alloc (w := w1) (.cells zlim 54)
  have sN : wN.heap.size = w1.heap.size + 1 := by rw [← hwN]; exact size_alloc _ _
  rw [hwN] at hnew b3
  unfold zlim at hwN
  have s1 := b1.size
  have hlt : b < w1.heap.size := h.row.lt
  have hT3 := own_below ho b3
  have hj1 : n + 1 ≤ maxLen := by simp only [maxLen]; omega
  have hbl : (n + 1) * 256 ≤ 140737488355328 := by omega
  have hbb : base ≤ wN.heap.size := by omega
  replace sN := hide' sN
  go_wp2_with (first | (refine geq_law _ (by rfl) _ _ _ _ (by rfl) .i64 (n : Int) 65536 false (by rfl) (by rfl) i1.out ?_) | (at_builtin; (try rw [hwN]); refine wpList_append_lies _ (by rfl) _ _ _ (by rfl) base 54 i0 _ 16 256 Try.underlying26 hi0 hz0 hz1 hz2 rfl (by omega) (.slice (some ⟨g, 0, none⟩) n cap) n xs (by rfl) hT3 ⟨w1.heap.size, 0, none⟩ 1 1 zlim.toList (by rfl) (by rfl) (World.news_of_block (cs := zlim) (t := 54) (fr := (0, 0)) hnew) zlim_one (by omega) hj1 hbl hbb wN.heap.size rfl ?_))
  intro gb cap' w9 hown4 hgrow hat hlt4
  have hne : some b ≠ (Value.slice (some ⟨g, 0, none⟩) n cap).ownBlock := fun e => h.off e.symm
  have hgb : (Value.slice (some ⟨gb, 0, none⟩) (n + 1) cap').ownBlock ≠ some b := by
    intro e
    have e2 : gb = b := by simpa [Value.ownBlock] using e
    rcases hat with h1 | h1
    · exact h.off (by rw [h1, e2])
    · have := sN.out; omega
  have hb9 : Below base wN w9 := below_grown hbb (fun k hk => (ho.lt k hk).1) hgrow
  have hR := row_grown (below_row b3 h.row) hgrow hne
  have k0 := (hgrow.cell_far ⟨b, 0, none⟩ (by have := sN.out; show b < _; omega) hne).trans (below_cell b3 h.c0)
  have k2 := (hgrow.cell_far ⟨b, 2, none⟩ (by have := sN.out; show b < _; omega) hne).trans (below_cell b3 h.c2)
  have k3 := (hgrow.cell_far ⟨b, 3, none⟩ (by have := sN.out; show b < _; omega) hne).trans (below_cell b3 h.c3)
  have fz := fun o => hR.frozen o
  have hB := ((b1.mono hbs).trans (b3.mono (by omega))).trans hb9
  have hat0 := h.at0
  have hfr : w.heap.size ≤ w9.heap.size ∧ ∀ k, k < w.heap.size → k ≠ b → k ≠ g → w9.heap[k]? = w.heap[k]? := by
    refine ⟨Nat.le_trans (by have := b3.size; omega) hgrow.size, fun k hk h1 h2 => ?_⟩
    rw [hgrow.block k (by have := b3.size; omega) (fun e => h2 (by simpa [Value.ownBlock] using e)), b3.block k (by omega), b1.block k hk]
  replace hfr := hide' hfr
  clear h c3 hgrow hat ho hT3 hnew b3 hb9
  go_wp2
  refine bodyPost_ret (v := .tuple #[.int .i64 n, .int .i64 0]) (by rw [results_tt rfl]; go_simp) rfl ?_
  exact ⟨gb, cap', rfl, hB.setCell hat0 _, ⟨hat0, hR.setCell _ _, by go_simp, by go_simp, by go_simp, ⟨_, own_set hown4 hgb⟩, hgb⟩, by rw [World.size_setCell]; exact hfr.out.1, fun k hk h1 h2 => by rw [heap_setCell_other _ _ k _ h1]; exact hfr.out.2 k hk h1 h2⟩
set_option maxHeartbeats 1000000 in
set_option maxRecDepth 100000 in
theorem vars_is (base b : Nat) (g cap n : Nat) (w : World) (h : Sto w base b (.slice (some ⟨g, 0, none⟩) n cap) n) :
    Calls Try.prog 8 #[.pointer (some ⟨b, 0, none⟩)] w fun e w' => e = .returned (.int .i64 n) ∧ Below w.heap.size w w' := by
  have c3 := h.c3
  have G := hide' (fun w' (hb : Below w.heap.size w w') => isNone_no b w' (below_cell hb h.c2))
  clear h
  go_enter Try.func8, Try.ntmps8
  go_wp2_with fail
  refine (G.out _ (Below.refl _ _)).mono ?_
  rintro e w1 ⟨rfl, b1⟩
  replace c3 := below_cell b1 c3
  go_wp2
  go_ret
  exact ⟨rfl, b1⟩
set_option maxHeartbeats 1000000 in
set_option maxRecDepth 100000 in
theorem level_is (base b : Nat) (v : Value) (n : Nat) (w : World) (h : Sto w base b v n) :
    Calls Try.prog 9 #[.pointer (some ⟨b, 0, none⟩)] w fun e w' => e = .returned (.int .i64 0) ∧ Below w.heap.size w w' := by
  have c0 := h.c0
  have G := hide' (fun w' (hb : Below w.heap.size w w') => isNone_no b w' (below_cell hb h.c2))
  clear h
  go_enter Try.func9, Try.ntmps9
  go_wp2_with fail
  refine (G.out _ (Below.refl _ _)).mono ?_
  rintro e w1 ⟨rfl, b1⟩
  replace c0 := below_cell b1 c0
  go_wp2
  go_ret
  exact ⟨rfl, b1⟩
set_option maxHeartbeats 1000000 in
set_option maxRecDepth 100000 in
theorem boundR_none (v1 v2 v3 v4 v5 v6 v7 : Value) (w : World) :
    Calls Try.prog 12 #[.agg #[.bool false, v1, v2, v3, v4, v5, v6, v7]] w fun e w' => e = .returned (.agg #[.bool false, .bool false, .slice none 0 0, .slice none 0 0, .bool false, .slice none 0 0, .slice none 0 0, .int .i64 0]) ∧ Below w.heap.size w w' := by
  go_enter Try.func12, Try.ntmps12
  go_wp2
  refine bodyPost_ret (v := .agg #[.bool false, .bool false, .slice none 0 0, .slice none 0 0, .bool false, .slice none 0 0, .slice none 0 0, .int .i64 0]) (by rw [results_cell rfl]; go_simp) rfl ?_
  exact ⟨rfl, (below_alloc _).trans ((below_alloc _).mono (below_alloc _).size)⟩
end Go.Proofs.Ytechalahaapgiaa
