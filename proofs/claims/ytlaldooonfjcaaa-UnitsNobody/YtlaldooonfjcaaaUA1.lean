/-
  units: a store that nobody made.
-/
import Derived.Test.YtlaldooonfjcaaaUA0
namespace Go.Proofs.Ytlaldooonfjcaaa
open Go.RowKit
set_option linter.unusedVariables false
set_option linter.unusedSimpArgs false
/-- nobody's store: nil, or a plain one -/
def NobU (w : World) (v : Value) : Prop := v = .pointer none ∨ ∃ b, v = .pointer (some ⟨b, 0, none⟩) ∧ w.cell? ⟨b, 0, none⟩ = some (.slice none 0 0)
theorem NobU.later {w w' : World} {v : Value} (h : NobU w v) (hb : Below w.heap.size w w') : NobU w' v := by
  rcases h with h | ⟨b, h, hc⟩
  · exact Or.inl h
  · exact Or.inr ⟨b, h, below_cell hb hc⟩
set_option maxHeartbeats 1000000 in
set_option maxRecDepth 100000 in
theorem nobNone (v : Value) (w : World) (h : NobU w v) :
    Calls Try.prog 20 #[v] w fun e w' => e = .returned (.bool true) ∧ Below w.heap.size w w' := by
  rcases h with rfl | ⟨b, rfl, hc⟩
  · go_enter Try.func20, Try.ntmps20
    go_wp2
    refine bodyPost_ret (v := .bool true) (by rw [results_tmp rfl]; first | done | go_simp) rfl ?_
    exact ⟨rfl, Below.refl _ _⟩
  · have hsn := fun w : World => nil_sl w none 0 0
    go_enter Try.func20, Try.ntmps20
    go_wp2
    refine bodyPost_ret (v := .bool true) (by rw [results_tmp rfl]; first | done | go_simp) rfl ?_
    exact ⟨rfl, Below.refl _ _⟩
set_option maxHeartbeats 1000000 in
set_option maxRecDepth 100000 in
theorem nobAtoms (v : Value) (w : World) (h : NobU w v) :
    Calls Try.prog 8 #[v] w fun e w' => e = .returned (.int .i64 0) ∧ Below w.heap.size w w' := by
  have G := hide' (fun w' (hb : Below w.heap.size w w') => nobNone v w' (h.later hb))
  have hB : Below w.heap.size w w := Below.refl _ _
  clear h
  go_enter Try.func8, Try.ntmps8
  go_wp2_with fail
  refine (G.out _ hB).mono ?_
  rintro e w1 ⟨rfl, b1⟩
  replace hB := hB.trans (b1.mono hB.size)
  clear b1
  try replace G := G
  go_wp2
  go_ret
  exact ⟨rfl, hB⟩
set_option maxHeartbeats 1000000 in
set_option maxRecDepth 100000 in
theorem nobGrow (v : Value) (w : World) (h : NobU w v) :
    Calls Try.prog 7 #[v] w fun e w' => e = .returned (.tuple #[.int .i64 0, .int .i64 1]) ∧ Below w.heap.size w w' := by
  have G := hide' (fun w' (hb : Below w.heap.size w w') => nobNone v w' (h.later hb))
  have hB : Below w.heap.size w w := Below.refl _ _
  clear h
  go_enter Try.func7, Try.ntmps7
  go_wp2_with fail
  refine (G.out _ hB).mono ?_
  rintro e w1 ⟨rfl, b1⟩
  replace hB := hB.trans (b1.mono hB.size)
  clear b1
  try replace G := G
  go_wp2
  refine bodyPost_ret (v := .tuple #[.int .i64 0, .int .i64 1]) (by rw [results_tt rfl]; go_simp) rfl ?_
  exact ⟨rfl, hB⟩
set_option maxHeartbeats 1000000 in
set_option maxRecDepth 100000 in
theorem nobAdd (v : Value) (x : Value) (w : World) (h : NobU w v) :
    Calls Try.prog 11 #[v, x] w fun e w' => e = .returned (.tuple #[.int .i64 0, .int .i64 1]) ∧ Below w.heap.size w w' := by
  have G := hide' (fun w' (hb : Below w.heap.size w w') => nobNone v w' (h.later hb))
  have hB : Below w.heap.size w w := Below.refl _ _
  clear h
  go_enter Try.func11, Try.ntmps11
  go_wp2_with fail
  refine (G.out _ hB).mono ?_
  rintro e w1 ⟨rfl, b1⟩
  replace hB := hB.trans (b1.mono hB.size)
  clear b1
  try replace G := G
  go_wp2
  refine bodyPost_ret (v := .tuple #[.int .i64 0, .int .i64 1]) (by rw [results_tt rfl]; go_simp) rfl ?_
  exact ⟨rfl, hB⟩
set_option maxHeartbeats 1000000 in
set_option maxRecDepth 100000 in
theorem nobValue (v : Value) (x : Value) (w : World) (h : NobU w v) :
    Calls Try.prog 12 #[v, x] w fun e w' => e = .returned (.tuple #[.int .i64 0, .int .i64 1]) ∧ Below w.heap.size w w' := by
  have G := hide' (fun w' (hb : Below w.heap.size w w') => nobNone v w' (h.later hb))
  have hB : Below w.heap.size w w := Below.refl _ _
  clear h
  go_enter Try.func12, Try.ntmps12
  go_wp2_with fail
  refine (G.out _ hB).mono ?_
  rintro e w1 ⟨rfl, b1⟩
  replace hB := hB.trans (b1.mono hB.size)
  clear b1
  try replace G := G
  go_wp2
  refine bodyPost_ret (v := .tuple #[.int .i64 0, .int .i64 1]) (by rw [results_tt rfl]; go_simp) rfl ?_
  exact ⟨rfl, hB⟩
set_option maxHeartbeats 1000000 in
set_option maxRecDepth 100000 in
theorem nobBack (v : Value) (x : Value) (w : World) (h : NobU w v) :
    Calls Try.prog 15 #[v, x] w fun e w' => e = .returned (.int .i64 1) ∧ Below w.heap.size w w' := by
  have G := hide' (fun w' (hb : Below w.heap.size w w') => nobNone v w' (h.later hb))
  have hB : Below w.heap.size w w := Below.refl _ _
  clear h
  go_enter Try.func15, Try.ntmps15
  go_wp2_with fail
  refine (G.out _ hB).mono ?_
  rintro e w1 ⟨rfl, b1⟩
  replace hB := hB.trans (b1.mono hB.size)
  clear b1
  try replace G := G
  go_wp2
  go_ret
  exact ⟨rfl, hB⟩
set_option maxHeartbeats 1000000 in
set_option maxRecDepth 100000 in
theorem nobLevel (v : Value) (w : World) (h : NobU w v) :
    Calls Try.prog 9 #[v] w fun e w' => e = .returned (.int .i64 0) ∧ Below w.heap.size w w' := by
  have G := hide' (fun w' (hb : Below w.heap.size w w') => nobNone v w' (h.later hb))
  have hB : Below w.heap.size w w := Below.refl _ _
  clear h
  go_enter Try.func9, Try.ntmps9
  go_wp2_with fail
  refine (G.out _ hB).mono ?_
  rintro e w1 ⟨rfl, b1⟩
  replace hB := hB.trans (b1.mono hB.size)
  clear b1
  try replace G := G
  go_wp2
  go_ret
  exact ⟨rfl, hB⟩
set_option maxHeartbeats 1000000 in
set_option maxRecDepth 100000 in
theorem nobPropagate (v : Value) (w : World) (h : NobU w v) :
    Calls Try.prog 10 #[v] w fun e w' => e = .returned (.int .i64 (-1)) ∧ Below w.heap.size w w' := by
  have G := hide' (fun w' (hb : Below w.heap.size w w') => nobNone v w' (h.later hb))
  have hB : Below w.heap.size w w := Below.refl _ _
  clear h
  go_enter Try.func10, Try.ntmps10
  go_wp2_with fail
  refine (G.out _ hB).mono ?_
  rintro e w1 ⟨rfl, b1⟩
  replace hB := hB.trans (b1.mono hB.size)
  clear b1
  try replace G := G
  go_wp2
  go_ret
  exact ⟨rfl, hB⟩
set_option maxHeartbeats 1000000 in
set_option maxRecDepth 100000 in
theorem nobClauses (v : Value) (w : World) (h : NobU w v) :
    Calls Try.prog 16 #[v] w fun e w' => e = .returned (.slice none 0 0) ∧ Below w.heap.size w w' := by
  have G := hide' (fun w' (hb : Below w.heap.size w w') => nobNone v w' (h.later hb))
  have hB : Below w.heap.size w w := Below.refl _ _
  clear h
  go_enter Try.func16, Try.ntmps16
  go_wp2_with fail
  refine (G.out _ hB).mono ?_
  rintro e w1 ⟨rfl, b1⟩
  replace hB := hB.trans (b1.mono hB.size)
  clear b1
  try replace G := G
  go_wp2
  go_ret
  exact ⟨rfl, hB⟩
set_option maxHeartbeats 1000000 in
set_option maxRecDepth 100000 in
theorem nobMarks (v : Value) (w : World) (h : NobU w v) :
    Calls Try.prog 17 #[v] w fun e w' => e = .returned (.slice none 0 0) ∧ Below w.heap.size w w' := by
  have G := hide' (fun w' (hb : Below w.heap.size w w') => nobNone v w' (h.later hb))
  have hB : Below w.heap.size w w := Below.refl _ _
  clear h
  go_enter Try.func17, Try.ntmps17
  go_wp2_with fail
  refine (G.out _ hB).mono ?_
  rintro e w1 ⟨rfl, b1⟩
  replace hB := hB.trans (b1.mono hB.size)
  clear b1
  try replace G := G
  go_wp2
  go_ret
  exact ⟨rfl, hB⟩
set_option maxHeartbeats 1000000 in
set_option maxRecDepth 100000 in
theorem nobIsLit (v : Value) (x : Int) (w : World) (h : NobU w v) :
    Calls Try.prog 23 #[v, .int .i64 x] w fun e w' => e = .returned (.bool false) ∧ Below w.heap.size w w' := by
  have G := hide' (fun w' (hb : Below w.heap.size w w') => nobAtoms v w' (h.later hb))
  have hB : Below w.heap.size w w := Below.refl _ _
  clear h
  by_cases h0 : x = 0
  · subst h0
    go_enter Try.func23, Try.ntmps23
    go_wp2
    go_ret
    exact ⟨rfl, hB⟩
  · by_cases h1 : x ≥ 0
    · have h2 : ¬ (x ≤ 0) := by omega
      go_enter Try.func23, Try.ntmps23
      go_wp2_with fail
      refine (G.out _ hB).mono ?_
      rintro e w1 ⟨rfl, b1⟩
      replace hB := hB.trans (b1.mono hB.size)
      clear b1
      try replace G := G
      go_wp2_with fail
      refine (G.out _ hB).mono ?_
      rintro e w1 ⟨rfl, b1⟩
      replace hB := hB.trans (b1.mono hB.size)
      clear b1
      try replace G := G
      go_wp2
      go_ret
      refine ⟨?_, hB⟩
      simp [h0, h2]
    · skip
      go_enter Try.func23, Try.ntmps23
      go_wp2_with fail
      refine (G.out _ hB).mono ?_
      rintro e w1 ⟨rfl, b1⟩
      replace hB := hB.trans (b1.mono hB.size)
      clear b1
      try replace G := G
      go_wp2
      go_ret
      refine ⟨?_, hB⟩
      simp [h0, h1]
set_option maxHeartbeats 1000000 in
set_option maxRecDepth 100000 in
theorem nobDecide (v : Value) (x : Int) (w : World) (h : NobU w v) :
    Calls Try.prog 13 #[v, .int .i64 x] w fun e w' => e = .returned (.int .i64 1) ∧ Below w.heap.size w w' := by
  have G := hide' (fun w' (hb : Below w.heap.size w w') => nobIsLit v x w' (h.later hb))
  have hB : Below w.heap.size w w := Below.refl _ _
  clear h
  go_enter Try.func13, Try.ntmps13
  go_wp2_with fail
  refine (G.out _ hB).mono ?_
  rintro e w1 ⟨rfl, b1⟩
  replace hB := hB.trans (b1.mono hB.size)
  clear b1
  try replace G := G
  go_wp2
  go_ret
  exact ⟨rfl, hB⟩
set_option maxHeartbeats 1000000 in
set_option maxRecDepth 100000 in
theorem nobForce (v : Value) (x : Int) (y : Value) (w : World) (h : NobU w v) :
    Calls Try.prog 14 #[v, .int .i64 x, y] w fun e w' => e = .returned (.int .i64 1) ∧ Below w.heap.size w w' := by
  have G := hide' (fun w' (hb : Below w.heap.size w w') => nobIsLit v x w' (h.later hb))
  have hB : Below w.heap.size w w := Below.refl _ _
  clear h
  go_enter Try.func14, Try.ntmps14
  go_wp2_with fail
  refine (G.out _ hB).mono ?_
  rintro e w1 ⟨rfl, b1⟩
  replace hB := hB.trans (b1.mono hB.size)
  clear b1
  try replace G := G
  go_wp2
  go_ret
  exact ⟨rfl, hB⟩
end Go.Proofs.Ytlaldooonfjcaaa
