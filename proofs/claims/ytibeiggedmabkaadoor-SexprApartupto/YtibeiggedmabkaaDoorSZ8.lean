/-
  The reference's reader: Feed and End.
-/
import Derived.Test.YtibeiggedmabkaaDoorSZ7
namespace Go.Proofs.YtibeiggedmabkaaDoor
open Go.RowKit
set_option linter.unusedVariables false
set_option linter.unusedSimpArgs false
theorem results_ct3 {fn : Func} {p u t : Tmp} {ty : TypeId} (h : fn.results = #[.cell p ty, .tmp u, .tmp t]) (tmps : Array Value) (P : Program) (w : World) :
    (results fn tmps).run P w = ((asAddr (tmps.getD p undef)).run P w).andThen fun a w1 => ((loadVar ty a).run P w1).andThen fun v w2 => .ok (.tuple #[v, tmps.getD u undef, tmps.getD t undef]) w2 := by
  simp only [results, h]
  simp [Sem.run_bind]
def wF (fin : Bool) (S : List UInt8) : BS × Int × Int := wholeB fin (buildB b0 (rdF fin S 0).1) (rdF fin S 0).2.1 (rdF fin S 0).2.2
theorem feed_rel {S y : List UInt8} {N0 : List Nd} {o : List Opn} {p : PS} (h : feedF rs0 S = (N0, 0, .go o p)) :
    (wF false (S ++ y)).1.nodes.drop N0.length = (feedF (.go o p) y).1 ∧ N0.length ≤ (wF false (S ++ y)).1.nodes.length ∧ (wF false (S ++ y)).2.1 = (feedF (.go o p) y).2.1 ∧
    (match (feedF (.go o p) y).2.2 with
      | .go o2 p2 => (wF false (S ++ y)).1.opn.length = o2.length ∧ (wF false (S ++ y)).2.1 = 0 ∧ feedF rs0 (S ++ y) = ((wF false (S ++ y)).1.nodes, 0, .go o2 p2)
      | .over d e q => (wF false (S ++ y)).1.opn.length = d ∧ (wF false (S ++ y)).2 = (e, q) ∧ e ≠ 0) := by
  have ha := feedF_app rs0 S y (fun d e q c => by cases c)
  obtain ⟨w1, w2, w3⟩ := whole_false (S ++ y)
  rw [h] at ha
  simp only at ha
  have hov := feedF_over (.go o p) y (fun d e q c => by cases c)
  have hgo := feedF_go (.go o p) y
  unfold wF
  rw [w1, w2, ha]
  refine ⟨List.drop_left, by rw [List.length_append]; omega, rfl, ?_⟩
  rw [ha] at w3
  simp only at w3
  rcases hr : (feedF (.go o p) y).2.2 with ⟨o2, p2⟩ | ⟨d, e, q⟩
  · rw [hr] at w3
    simp only at w3 ⊢
    have h0 := hgo o2 p2 hr
    refine ⟨by rw [w3], h0, ?_⟩
    rw [← hr, ← h0]
  · rw [hr] at w3
    simp only at w3 ⊢
    exact ⟨w3.1, w3.2, (hov d e q hr).1⟩
set_option maxHeartbeats 8000000 in
set_option maxRecDepth 100000 in
theorem vfeed_over0 (tx : ByteArray) (told : Nat) (dep e q : Int) (pc : ByteArray) (w : World) (hc : e = 0) : Calls Tryd.prog 17 #[.agg #[.string tx, .int .i64 (told : Nat), .int .i64 dep, .bool true, .int .i64 e, .int .i64 q], .string pc] w fun r w' => r = .returned (.tuple #[.agg #[.string tx, .int .i64 (told : Nat), .int .i64 dep, .bool true, .int .i64 e, .int .i64 q], .slice none 0 0, .int .i64 131]) ∧ Below w.heap.size w w' := by
  subst hc
  have b2 := below_alloc (w := w) (.cells #[.string tx, .int .i64 (told : Nat), .int .i64 dep, .bool true, .int .i64 0, .int .i64 q] 40)
  have q2 := Blk.new w #[.string tx, .int .i64 (told : Nat), .int .i64 dep, .bool true, .int .i64 0, .int .i64 q] 40
  have e2 : (w.alloc (.cells #[.string tx, .int .i64 (told : Nat), .int .i64 dep, .bool true, .int .i64 0, .int .i64 q] 40)).heap.size = w.heap.size + 1 := by simp
  have b4 := below_alloc (w := w.alloc (.cells #[.string tx, .int .i64 (told : Nat), .int .i64 dep, .bool true, .int .i64 0, .int .i64 q] 40)) (.cells #[.string ⟨#[]⟩, .int .i64 0, .int .i64 0, .bool false, .int .i64 0, .int .i64 0] 40)
  have q4 := Blk.new (w.alloc (.cells #[.string tx, .int .i64 (told : Nat), .int .i64 dep, .bool true, .int .i64 0, .int .i64 q] 40)) #[.string ⟨#[]⟩, .int .i64 0, .int .i64 0, .bool false, .int .i64 0, .int .i64 0] 40
  have e4 : ((w.alloc (.cells #[.string tx, .int .i64 (told : Nat), .int .i64 dep, .bool true, .int .i64 0, .int .i64 q] 40)).alloc (.cells #[.string ⟨#[]⟩, .int .i64 0, .int .i64 0, .bool false, .int .i64 0, .int .i64 0] 40)).heap.size = w.heap.size + 2 := by simp
  rw [e2] at q4
  replace q2 := q2.later b4
  have hB := b2.trans (b4.mono b2.size)
  clear b2 b4
  go_enter Tryd.func17, Tryd.ntmps17
  go_upto_region 1 with fail
  try rw [e2]
  generalize (w.alloc (.cells #[.string tx, .int .i64 (told : Nat), .int .i64 dep, .bool true, .int .i64 0, .int .i64 q] 40)).alloc (.cells #[.string ⟨#[]⟩, .int .i64 0, .int .i64 0, .bool false, .int .i64 0, .int .i64 0] 40) = W at hB q2 q4 e4 ⊢
  have e4i : w.heap.size + 2 ≤ W.heap.size := by omega
  clear e2 e4
  have y0 := q2.cell 0
  have y1 := q2.cell 1
  have y2 := q2.cell 2
  have y3 := q2.cell 3
  have y4 := q2.cell 4
  have y5 := q2.cell 5
  simp only [List.getElem?_toArray, List.getElem?_cons_zero, List.getElem?_cons_succ] at y0 y1 y2 y3 y4 y5
  have z0 := q4.cell 0
  have z1 := q4.cell 1
  have z2 := q4.cell 2
  have z3 := q4.cell 3
  have z4 := q4.cell 4
  have z5 := q4.cell 5
  simp only [List.getElem?_toArray, List.getElem?_cons_zero, List.getElem?_cons_succ] at z0 z1 z2 z3 z4 z5
  have fz := fun o => q4.frozen o
  go_wp2
  clear fz y0 z0 y1 z1 y2 z2 y3 z3 y4 z4 y5 z5
  obtain ⟨k9, q9⟩ := q4.set6 (.string tx) (.int .i64 (told : Nat)) (.int .i64 dep) (.bool true) (.int .i64 0) (.int .i64 q)
  unfold set6 at k9 q9
  have t0 := q9.cell 0
  have t1 := q9.cell 1
  have t2 := q9.cell 2
  have t3 := q9.cell 3
  have t4 := q9.cell 4
  have t5 := q9.cell 5
  simp only [List.getElem?_toArray, List.getElem?_cons_zero, List.getElem?_cons_succ] at t0 t1 t2 t3 t4 t5
  have hB9 := hB.trans (k9.below (B := w.heap.size) (by omega))
  clear k9 q9
  generalize ((((((W.setCell ⟨w.heap.size + 1, 0, none⟩ (.string tx)).setCell ⟨w.heap.size + 1, 1, none⟩ (.int .i64 (told : Nat))).setCell ⟨w.heap.size + 1, 2, none⟩ (.int .i64 dep)).setCell ⟨w.heap.size + 1, 3, none⟩ (.bool true)).setCell ⟨w.heap.size + 1, 4, none⟩ (.int .i64 0)).setCell ⟨w.heap.size + 1, 5, none⟩ (.int .i64 q)) = w9 at hB9 t0 t1 t2 t3 t4 t5 ⊢
  refine bodyPost_ret (v := .tuple #[.agg #[.string tx, .int .i64 (told : Nat), .int .i64 dep, .bool true, .int .i64 0, .int .i64 q], .slice none 0 0, .int .i64 131]) (by rw [results_ct3 rfl]; go_simp) rfl ?_
  exact ⟨rfl, hB9⟩

set_option maxHeartbeats 8000000 in
set_option maxRecDepth 100000 in
theorem vfeed_over (tx : ByteArray) (told : Nat) (dep e q : Int) (pc : ByteArray) (w : World) (hc : e ≠ 0) : Calls Tryd.prog 17 #[.agg #[.string tx, .int .i64 (told : Nat), .int .i64 dep, .bool true, .int .i64 e, .int .i64 q], .string pc] w fun r w' => r = .returned (.tuple #[.agg #[.string tx, .int .i64 (told : Nat), .int .i64 dep, .bool true, .int .i64 e, .int .i64 q], .slice none 0 0, .int .i64 e]) ∧ Below w.heap.size w w' := by
  have xe : (e == 0) = false := by rw [beq_eq_false_iff_ne]; exact hc
  clear hc
  have b2 := below_alloc (w := w) (.cells #[.string tx, .int .i64 (told : Nat), .int .i64 dep, .bool true, .int .i64 e, .int .i64 q] 40)
  have q2 := Blk.new w #[.string tx, .int .i64 (told : Nat), .int .i64 dep, .bool true, .int .i64 e, .int .i64 q] 40
  have e2 : (w.alloc (.cells #[.string tx, .int .i64 (told : Nat), .int .i64 dep, .bool true, .int .i64 e, .int .i64 q] 40)).heap.size = w.heap.size + 1 := by simp
  have b4 := below_alloc (w := w.alloc (.cells #[.string tx, .int .i64 (told : Nat), .int .i64 dep, .bool true, .int .i64 e, .int .i64 q] 40)) (.cells #[.string ⟨#[]⟩, .int .i64 0, .int .i64 0, .bool false, .int .i64 0, .int .i64 0] 40)
  have q4 := Blk.new (w.alloc (.cells #[.string tx, .int .i64 (told : Nat), .int .i64 dep, .bool true, .int .i64 e, .int .i64 q] 40)) #[.string ⟨#[]⟩, .int .i64 0, .int .i64 0, .bool false, .int .i64 0, .int .i64 0] 40
  have e4 : ((w.alloc (.cells #[.string tx, .int .i64 (told : Nat), .int .i64 dep, .bool true, .int .i64 e, .int .i64 q] 40)).alloc (.cells #[.string ⟨#[]⟩, .int .i64 0, .int .i64 0, .bool false, .int .i64 0, .int .i64 0] 40)).heap.size = w.heap.size + 2 := by simp
  rw [e2] at q4
  replace q2 := q2.later b4
  have hB := b2.trans (b4.mono b2.size)
  clear b2 b4
  go_enter Tryd.func17, Tryd.ntmps17
  go_upto_region 1 with fail
  try rw [e2]
  generalize (w.alloc (.cells #[.string tx, .int .i64 (told : Nat), .int .i64 dep, .bool true, .int .i64 e, .int .i64 q] 40)).alloc (.cells #[.string ⟨#[]⟩, .int .i64 0, .int .i64 0, .bool false, .int .i64 0, .int .i64 0] 40) = W at hB q2 q4 e4 ⊢
  have e4i : w.heap.size + 2 ≤ W.heap.size := by omega
  clear e2 e4
  have y3 := q2.cell 3
  have y4 := q2.cell 4
  simp only [List.getElem?_toArray, List.getElem?_cons_zero, List.getElem?_cons_succ] at y3 y4
  go_wp2_with fail
  clear y3 y4
  have y0 := q2.cell 0
  have y1 := q2.cell 1
  have y2 := q2.cell 2
  have y3 := q2.cell 3
  have y4 := q2.cell 4
  have y5 := q2.cell 5
  simp only [List.getElem?_toArray, List.getElem?_cons_zero, List.getElem?_cons_succ] at y0 y1 y2 y3 y4 y5
  have bD : Below W.heap.size W W.drew := (Below.refl _ _).drew
  have ky0 := below_cell bD y0
  have ky1 := below_cell bD y1
  have ky2 := below_cell bD y2
  have ky3 := below_cell bD y3
  have ky4 := below_cell bD y4
  have ky5 := below_cell bD y5
  replace hB := hB.trans (bD.mono hB.size)
  replace q2 := q2.later bD
  replace q4 := q4.later bD
  refine wp_region_held_drew (S := fun w' => w'.cell? ⟨w.heap.size, 0, none⟩ = some (.string tx) ∧ w'.cell? ⟨w.heap.size, 1, none⟩ = some (.int .i64 (told : Nat)) ∧ w'.cell? ⟨w.heap.size, 2, none⟩ = some (.int .i64 dep) ∧ w'.cell? ⟨w.heap.size, 3, none⟩ = some (.bool true) ∧ w'.cell? ⟨w.heap.size, 4, none⟩ = some (.int .i64 e) ∧ w'.cell? ⟨w.heap.size, 5, none⟩ = some (.int .i64 q)) (by kernel_rfl) ⟨ky0, ky1, ky2, ky3, ky4, ky5⟩ (fun hHeld => ?_)
  clear ky0 ky1 ky2 ky3 ky4 ky5
  generalize W.drew = w20 at bD q2 q4 hB hHeld ⊢
  clear bD y0 y1 y2 y3 y4 y5
  refine take' 0 (v := ?_) rfl (by kernel_rfl) (by kernel_rfl) (by kernel_rfl) (fun _ _ _ h => h) (Or.inl ⟨by rfl, ?_⟩) (by assumption) ?_
  rotate_left
  · intro w9 hSw
    go_simp
    first | done | with_reducible rfl
  simp only [Act.put, List.setIfInBounds_toArray, List.set_cons_zero, List.set_cons_succ]
  refine take' 1 (v := ?_) rfl (by kernel_rfl) (by kernel_rfl) (by kernel_rfl) (fun _ _ _ h => h) (Or.inl ⟨by rfl, ?_⟩) (by assumption) ?_
  rotate_left
  · intro w9 hSw
    go_simp
    first | done | with_reducible rfl
  simp only [Act.put, List.setIfInBounds_toArray, List.set_cons_zero, List.set_cons_succ]
  refine take' 2 (v := ?_) rfl (by kernel_rfl) (by kernel_rfl) (by kernel_rfl) (fun _ _ _ h => h) (Or.inl ⟨by rfl, ?_⟩) (by assumption) ?_
  rotate_left
  · intro w9 hSw
    go_simp
    first | done | with_reducible rfl
  simp only [Act.put, List.setIfInBounds_toArray, List.set_cons_zero, List.set_cons_succ]
  refine wpAnyH_ready (rs := [3]) (by kernel_rfl) (by simp) ?_
  refine cons' rfl (fun KK hKK => ?_)
  have fz := fun o => q4.frozen o
  have t0 := q4.cell 0
  have t1 := q4.cell 1
  have t2 := q4.cell 2
  have t3 := q4.cell 3
  have t4 := q4.cell 4
  have t5 := q4.cell 5
  simp only [List.getElem?_toArray, List.getElem?_cons_zero, List.getElem?_cons_succ] at t0 t1 t2 t3 t4 t5
  go_simp
  clear fz t0 t1 t2 t3 t4 t5
  obtain ⟨ks, q9⟩ := q4.set6 (.string tx) (.int .i64 (told : Nat)) (.int .i64 dep) (.bool true) (.int .i64 e) (.int .i64 q)
  unfold set6 at ks q9
  have hH2 := (⟨ks.cell (by omega) hHeld.1, ks.cell (by omega) hHeld.2.1, ks.cell (by omega) hHeld.2.2.1, ks.cell (by omega) hHeld.2.2.2.1, ks.cell (by omega) hHeld.2.2.2.2.1, ks.cell (by omega) hHeld.2.2.2.2.2⟩ : _ ∧ _ ∧ _ ∧ _ ∧ _ ∧ _)
  replace hB := hB.trans (ks.below (B := w.heap.size) (by omega))
  clear ks q4 q2
  generalize ((((((w20.setCell ⟨w.heap.size + 1, 0, none⟩ (.string tx)).setCell ⟨w.heap.size + 1, 1, none⟩ (.int .i64 (told : Nat))).setCell ⟨w.heap.size + 1, 2, none⟩ (.int .i64 dep)).setCell ⟨w.heap.size + 1, 3, none⟩ (.bool true)).setCell ⟨w.heap.size + 1, 4, none⟩ (.int .i64 e)).setCell ⟨w.heap.size + 1, 5, none⟩ (.int .i64 q)) = w21 at hH2 q9 hB ⊢
  refine hKK.out _ _ hH2 ?_
  clear hHeld
  intro hHeld
  clear hKK KK
  try simp only [Act.put, List.setIfInBounds_toArray, List.set_cons_zero, List.set_cons_succ]
  clear hH2
  refine take' 4 (v := ?_) rfl (by kernel_rfl) (by kernel_rfl) (by kernel_rfl) (fun _ _ _ h => h) (Or.inl ⟨by rfl, ?_⟩) (by assumption) ?_
  rotate_left
  · intro w9 hSw
    go_simp
    first | done | with_reducible rfl
  simp only [Act.put, List.setIfInBounds_toArray, List.set_cons_zero, List.set_cons_succ]
  refine take' 5 (v := ?_) rfl (by kernel_rfl) (by kernel_rfl) (by kernel_rfl) (fun _ _ _ h => h) (Or.inl ⟨by rfl, ?_⟩) (by assumption) ?_
  rotate_left
  · intro w9 hSw
    go_simp
    first | done | with_reducible rfl
  simp only [Act.put, List.setIfInBounds_toArray, List.set_cons_zero, List.set_cons_succ]
  refine wpAnyH_done (by kernel_rfl) ?_ _
  clear hHeld
  have t0 := q9.cell 0
  have t1 := q9.cell 1
  have t2 := q9.cell 2
  have t3 := q9.cell 3
  have t4 := q9.cell 4
  have t5 := q9.cell 5
  simp only [List.getElem?_toArray, List.getElem?_cons_zero, List.getElem?_cons_succ] at t0 t1 t2 t3 t4 t5
  go_wp2
  refine bodyPost_ret (v := .tuple #[.agg #[.string tx, .int .i64 (told : Nat), .int .i64 dep, .bool true, .int .i64 e, .int .i64 q], .slice none 0 0, .int .i64 e]) (by rw [results_ct3 rfl]; go_simp) rfl ?_
  exact ⟨rfl, hB⟩

end Go.Proofs.YtibeiggedmabkaaDoor
