/-
  units: isNone, Atoms, Level, New, Grow.
-/
import Derived.Test.YtfodejhipnmgnaaUB1
namespace Go.Proofs.Ytfodejhipnmgnaa
open Go.RowKit
set_option linter.unusedVariables false
set_option linter.unusedSimpArgs false
set_option maxHeartbeats 2000000 in
set_option maxRecDepth 100000 in
theorem isNoneM (b g n c : Nat) (w : World) (c0 : w.cell? ⟨b, 0, none⟩ = some (.slice (some ⟨g, 0, none⟩) (n + 1) c)) :
    Calls Try.prog 34 #[.pointer (some ⟨b, 0, none⟩)] w fun e w' => e = .returned (.bool false) ∧ Below w.heap.size w w' := by
  have hsn := fun w : World => nil_sl w (some ⟨g, 0, none⟩) (n + 1) c
  go_enter Try.func34, Try.ntmps34
  go_wp2
  go_ret
  exact ⟨rfl, Below.refl _ _⟩
set_option maxHeartbeats 2000000 in
set_option maxRecDepth 100000 in
theorem atomsM (b g n c : Nat) (w : World) (c0 : w.cell? ⟨b, 0, none⟩ = some (.slice (some ⟨g, 0, none⟩) (n + 1) c)) (hn : n ≤ 4611686018427387904) :
    Calls Try.prog 12 #[.pointer (some ⟨b, 0, none⟩)] w fun e w' => e = .returned (.int .i64 n) ∧ Below w.heap.size w w' := by
  have G := hide' (isNoneM b g n c w c0)
  go_enter Try.func12, Try.ntmps12
  go_wp2_with fail
  refine G.out.mono ?_
  rintro e w1 ⟨rfl, b1⟩
  replace c0 := below_cell b1 c0
  go_wp2
  go_ret
  exact ⟨rfl, b1⟩
set_option maxHeartbeats 2000000 in
set_option maxRecDepth 100000 in
theorem levelM0 (b g n c : Nat) (a : Option Addr) (d : Nat) (w : World) (c0 : w.cell? ⟨b, 0, none⟩ = some (.slice (some ⟨g, 0, none⟩) (n + 1) c)) (c1 : w.cell? ⟨b, 1, none⟩ = some (.slice a 0 d)) :
    Calls Try.prog 13 #[.pointer (some ⟨b, 0, none⟩)] w fun e w' => e = .returned (.int .i64 0) ∧ Below w.heap.size w w' := by
  have G := hide' (isNoneM b g n c w c0)
  go_enter Try.func13, Try.ntmps13
  go_wp2_with fail
  refine G.out.mono ?_
  rintro e w1 ⟨rfl, b1⟩
  replace c1 := below_cell b1 c1
  go_wp2
  go_ret
  exact ⟨rfl, b1⟩
set_option maxHeartbeats 2000000 in
set_option maxRecDepth 100000 in
theorem levelM (b g n c m q d : Nat) (v : Int) (w : World) (c0 : w.cell? ⟨b, 0, none⟩ = some (.slice (some ⟨g, 0, none⟩) (n + 1) c)) (c1 : w.cell? ⟨b, 1, none⟩ = some (.slice (some ⟨q, 0, none⟩) (m + 1) d)) (k1 : w.cell? ⟨q, m * 3 + 1, none⟩ = some (.int .i64 v)) (hm : m ≤ 4611686018427387904) :
    Calls Try.prog 13 #[.pointer (some ⟨b, 0, none⟩)] w fun e w' => e = .returned (.int .i64 v) ∧ Below w.heap.size w w' := by
  have G := hide' (isNoneM b g n c w c0)
  have hne : ¬ (m : Int) + 1 = 0 := by omega
  go_enter Try.func13, Try.ntmps13
  go_wp2_with fail
  refine G.out.mono ?_
  rintro e w1 ⟨rfl, b1⟩
  replace c1 := below_cell b1 c1
  replace k1 := below_cell b1 k1
  go_wp2_with fail
  go_quiet (fail)
  go_wp2
  go_ret
  exact ⟨rfl, below_drewN b1⟩
theorem info_s : (Try.prog.info? 40).bind (fun i => i.zero.map fun z => (z, i.size, i.bytes)) = some (.slice none 0 0, 1, 24) := by kernel_rfl
/-- the first state -/
def us0 (n : Nat) : US := ⟨List.replicate (n + 1) 0, [], [], List.replicate (2 * (n + 1)) [], 0, [], []⟩
theorem made_one (z : Value) (n : Nat) : (madeCells #[z] n).toList = List.replicate n z := by
  apply List.ext_getElem
  · simp [madeCells]
  · intro i h1 h2
    simp [madeCells, Nat.mod_one]
theorem wsC_nil : ∀ m : Nat, wsC (List.replicate m default) (List.replicate m []) = List.replicate m (.slice none 0 0)
  | 0 => rfl
  | m + 1 => by simp only [List.replicate_succ, wsC, wsC_nil m]; rfl
theorem al3 (w : World) (X Y Z : Obj) : ((((w.alloc X).alloc Y).alloc Z).drew).heap[w.heap.size]? = some X ∧ ((((w.alloc X).alloc Y).alloc Z).drew).heap[w.heap.size + 1]? = some Y ∧ ((((w.alloc X).alloc Y).alloc Z).drew).heap[w.heap.size + 1 + 1]? = some Z := by
  have s1 := size_alloc w X
  have s2 := size_alloc (w.alloc X) Y
  refine ⟨?_, ?_, ?_⟩
  · show (((w.alloc X).alloc Y).alloc Z).heap[_]? = _
    rw [(below_alloc Z).block _ (by omega), (below_alloc Y).block _ (by omega)]
    exact World.alloc_heap_new w X
  · show (((w.alloc X).alloc Y).alloc Z).heap[_]? = _
    rw [(below_alloc Z).block _ (by omega), ← s1]
    exact World.alloc_heap_new _ Y
  · show (((w.alloc X).alloc Y).alloc Z).heap[_]? = _
    rw [← s1, ← s2]
    exact World.alloc_heap_new _ Z
def own3 (g1 g2 b : Nat) : Nat → Tg := fun x => if x = g1 then .tr else if x = g2 then .ws else if x = b then .st else .oth
theorem new_at {w' : World} {n g1 g2 b : Nat} (h1 : w'.heap[g1]? = some (.cells (madeCells #[.int .i64 0] (n + 1)) 3 (0, 0))) (h2 : w'.heap[g2]? = some (.cells (madeCells #[.slice none 0 0] (2 * (n + 1))) 40 (0, 0)))
    (h3 : w'.heap[b]? = some (.cells #[.slice (some ⟨g1, 0, none⟩) (n + 1) (n + 1), .slice none 0 0, .slice none 0 0, .slice (some ⟨g2, 0, none⟩) (2 * (n + 1)) (2 * (n + 1)), .int .i64 0, .slice none 0 0, .slice none 0 0] 68 (0, 0)))
    (h12 : g1 ≠ g2) (h13 : g1 ≠ b) (h23 : g2 ≠ b) (hn : n ≤ 262144) :
    UM w' (own3 g1 g2 b) b ⟨⟨some g1, n + 1⟩, default, default, ⟨some g2, 2 * (n + 1)⟩, default, default, [], List.replicate (2 * (n + 1)) default⟩ (us0 n) := by
  have l1 := (Array.getElem?_eq_some_iff.1 h1).1
  have l2 := (Array.getElem?_eq_some_iff.1 h2).1
  have l3 := (Array.getElem?_eq_some_iff.1 h3).1
  have hm : maxLen = 9223372036854775807 := rfl
  have cb := fun o => show w'.cell? ⟨b, o, none⟩ = _ from cell_of_row w' b o _ _ (0, 0) h3
  refine ⟨fun x hx => ?_, rfl, by simp [us0], fun t => ?_⟩
  · have e1 : x ≠ g1 := by omega
    have e2 : x ≠ g2 := by omega
    have e3 : x ≠ b := by omega
    simp [own3, e1, e2, e3]
  cases t with
  | oth => trivial
  | st =>
    refine ⟨by simp [own3, Ne.symm h13, Ne.symm h23], ⟨_, _, h3⟩, ?_, ?_, ?_, ?_, ?_, ?_, ?_⟩
    · rw [cb]; simp [us0, SlV.val, SlV.at']
    · rw [cb]; rfl
    · rw [cb]; rfl
    · rw [cb]; simp [us0, SlV.val, SlV.at']
    · rw [cb]; rfl
    · rw [cb]; rfl
    · rw [cb]; rfl
  | tr =>
    refine ⟨⟨by simp [iv_length], Or.inr ⟨g1, n + 1, _, by simp [us0, SlV.val, SlV.at'], Nat.zero_le _, h1, by simp [us0], by omega, by rw [size_madeCells]; omega, ?_⟩⟩, fun g hg => by cases hg; simp [own3]⟩
    rw [made_one]
    simp [us0, iv]
  | ws =>
    refine ⟨⟨by rw [wsC_length _ _ (by simp [us0])]; simp, Or.inr ⟨g2, 2 * (n + 1), _, by simp [us0, SlV.val, SlV.at'], Nat.zero_le _, h2, by simp [us0], by omega, by rw [size_madeCells]; omega, ?_⟩⟩, fun g hg => by cases hg; simp [own3, Ne.symm h12]⟩
    rw [made_one]
    show _ = wsC (List.replicate (2 * (n + 1)) default) (List.replicate (2 * (n + 1)) [])
    rw [wsC_nil, List.take_of_length_le (by simp [us0])]
  | row i =>
    intro hi
    have e1 : (List.replicate (2 * (n + 1)) (default : SlV)).getD i default = default := by simp [List.getD, List.getElem?_replicate]; split <;> rfl
    have e2 : (List.replicate (2 * (n + 1)) ([] : List Int)).getD i [] = [] := by simp [List.getD, List.getElem?_replicate]; split <;> rfl
    show RowAt _ _ _ _ _ ((List.replicate (2 * (n + 1)) (default : SlV)).getD i default) ((List.replicate (2 * (n + 1)) ([] : List Int)).getD i []).length (iv ((List.replicate (2 * (n + 1)) ([] : List Int)).getD i []))
    rw [e1, e2]
    exact RowAt.nil
  | lit i => exact fun hi => absurd hi (by simp [us0])
  | _ => exact RowAt.nil
set_option maxHeartbeats 2000000 in
set_option maxRecDepth 100000 in
theorem new_ok (n : Nat) (hn : n ≤ 262144) (w : World) :
    Calls Try.prog 9 #[.int .i64 n] w fun e w' => ∃ b ow V, e = .returned (.tuple #[.pointer (some ⟨b, 0, none⟩), .int .i64 0]) ∧ UM w' ow b V (us0 n) ∧ Below w.heap.size w w' ∧ w.heap.size ≤ b ∧ (∀ x, x < w.heap.size → ow x = .oth) := by
  obtain ⟨Xa, hXa, hma⟩ : ∃ X : Array Value, X = madeCells (.int .i64 0 : Value).cells ((n + 1) * 1) ∧ ∀ w : World, (Instr.makeSlice 40 (.int .i64 ((n : Int) + 1)) (.int .i64 ((n : Int) + 1))).run Try.prog w = .ok (.slice (some ⟨w.heap.size, 0, none⟩) (n + 1) (n + 1)) (w.alloc (.cells X 3)) := by
    obtain ⟨i0, hi0, hz0, hz1, hz2⟩ := info_parts info_i
    refine ⟨_, rfl, fun w => ?_⟩
    have hr := run_make (P := Try.prog) w 40 3 i0 _ Try.underlying40 hi0 hz0 .i64 .i64 ((n : Int) + 1) ((n : Int) + 1) (by omega) (Int.le_refl _) (by rw [hz2]; omega) (by omega)
    have e : ((n : Int) + 1 : Int).toNat = n + 1 := by omega
    rw [hz1, e] at hr
    exact hr
  obtain ⟨Xc, hXc, hmc⟩ : ∃ X : Array Value, X = madeCells (.slice none 0 0 : Value).cells ((2 * (n + 1)) * 1) ∧ ∀ w : World, (Instr.makeSlice 65 (.int .i64 (2 * ((n : Int) + 1))) (.int .i64 (2 * ((n : Int) + 1)))).run Try.prog w = .ok (.slice (some ⟨w.heap.size, 0, none⟩) (2 * (n + 1)) (2 * (n + 1))) (w.alloc (.cells X 40)) := by
    obtain ⟨i0, hi0, hz0, hz1, hz2⟩ := info_parts info_s
    refine ⟨_, rfl, fun w => ?_⟩
    have hr := run_make (P := Try.prog) w 65 40 i0 _ Try.underlying65 hi0 hz0 .i64 .i64 (2 * ((n : Int) + 1)) (2 * ((n : Int) + 1)) (by omega) (Int.le_refl _) (by rw [hz2]; omega) (by omega)
    have e : (2 * ((n : Int) + 1) : Int).toNat = 2 * (n + 1) := by omega
    rw [hz1, e] at hr
    exact hr
  go_enter Try.func9, Try.ntmps9
  go_wp2_with fail
  go_region
  · go_wp2
    refine bodyPost_ret (v := .tuple #[.pointer (some ⟨w.heap.size + 1 + 1, 0, none⟩), .int .i64 0]) (by rw [results_tt rfl]; go_simp) rfl ?_
    refine ⟨w.heap.size + 1 + 1, own3 (w.heap.size) (w.heap.size + 1) (w.heap.size + 1 + 1), _, rfl, new_at (g1 := w.heap.size) (g2 := w.heap.size + 1) (al3 w _ _ _).1 (al3 w _ _ _).2.1 (al3 w _ _ _).2.2 (by omega) (by omega) (by omega) hn, ((((Below.refl _ w).alloc (Nat.le_refl _) _).alloc (by simp) _).alloc (by simp; omega) _).drew, by omega, fun x hx => ?_⟩
    have e1 : x ≠ w.heap.size := by omega
    have e2 : x ≠ w.heap.size + 1 := by omega
    have e3 : x ≠ w.heap.size + 1 + 1 := by omega
    simp [own3, e1, e2, e3]
  · go_wp2
    refine bodyPost_ret (v := .tuple #[.pointer (some ⟨w.heap.size + 1 + 1, 0, none⟩), .int .i64 0]) (by rw [results_tt rfl]; go_simp) rfl ?_
    refine ⟨w.heap.size + 1 + 1, own3 (w.heap.size + 1) (w.heap.size) (w.heap.size + 1 + 1), _, rfl, new_at (g1 := w.heap.size + 1) (g2 := w.heap.size) (al3 w _ _ _).2.1 (al3 w _ _ _).1 (al3 w _ _ _).2.2 (by omega) (by omega) (by omega) hn, ((((Below.refl _ w).alloc (Nat.le_refl _) _).alloc (by simp) _).alloc (by simp; omega) _).drew, by omega, fun x hx => ?_⟩
    have e1 : x ≠ w.heap.size + 1 := by omega
    have e2 : x ≠ w.heap.size := by omega
    have e3 : x ≠ w.heap.size + 1 + 1 := by omega
    simp [own3, e1, e2, e3]
end Go.Proofs.Ytfodejhipnmgnaa
