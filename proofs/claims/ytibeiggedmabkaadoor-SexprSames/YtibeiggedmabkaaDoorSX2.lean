/-
  The reader's small parts: caught, isReading, Depth, last, refusal, tell, stop.
-/
import Derived.Test.YtibeiggedmabkaaDoorSX1
namespace Go.Proofs.YtibeiggedmabkaaDoor
open Go.RowKit
set_option linter.unusedVariables false
set_option linter.unusedSimpArgs false

/-- a reader's cells -/
def rdC (p : Option Addr) (v : Value) (d : Int) (en : Bool) (e pl : Int) : Array Value := #[.pointer p, v, .int .i64 d, .bool en, .int .i64 e, .int .i64 pl]
theorem Blk.set2 {c : Nat} {W : World} {u0 u1 : Value} {t : TypeId} (h : Blk W c #[u0, u1] t) (v0 v1 : Value) : Ch c W ((W.setCell ⟨c, 0, none⟩ v0).setCell ⟨c, 1, none⟩ v1) ∧ Blk ((W.setCell ⟨c, 0, none⟩ v0).setCell ⟨c, 1, none⟩ v1) c #[v0, v1] t := by
  obtain ⟨k1, q1⟩ := h.set (o := 0) v0
  obtain ⟨k2, q2⟩ := q1.set (o := 1) v1
  exact ⟨k1.trans k2, by simpa using q2⟩
set_option maxHeartbeats 2000000 in
set_option maxRecDepth 100000 in
theorem caught_nil (w : World) : Calls Tryd.prog 29 #[.nilIface] w fun r w' => r = .returned (.agg #[.int .i64 0, .int .i64 0]) ∧ Below w.heap.size w w' := by
  have hB := below_alloc (w := w) (.cells #[.int .i64 0, .int .i64 0] 61)
  have qT := Blk.new w #[.int .i64 0, .int .i64 0] 61
  go_enter Tryd.func29, Tryd.ntmps29
  go_upto_region 1 with fail
  generalize w.alloc (.cells #[.int .i64 0, .int .i64 0] 61) = W at hB qT ⊢
  have fz := fun o => qT.frozen o
  have t0 := qT.cell 0
  have t1 := qT.cell 1
  simp only [rdC, List.getElem?_toArray, List.getElem?_cons_zero, List.getElem?_cons_succ] at t0 t1
  go_wp2
  clear fz t0 t1
  obtain ⟨k2, q2⟩ := qT.set2 (.int .i64 0) (.int .i64 0)
  have x0 := q2.cell 0
  have x1 := q2.cell 1
  simp only [rdC, List.getElem?_toArray, List.getElem?_cons_zero, List.getElem?_cons_succ] at x0 x1
  replace hB := hB.trans ((k2.below (Nat.le_refl _)).mono (Nat.le_refl _))
  clear k2 q2 qT
  generalize (W.setCell ⟨w.heap.size, 0, none⟩ (.int .i64 0)).setCell ⟨w.heap.size, 1, none⟩ (.int .i64 0) = w9 at x0 x1 hB ⊢
  refine bodyPost_ret (v := .agg #[.int .i64 0, .int .i64 0]) (by rw [results_c rfl]; go_simp) rfl ?_
  exact ⟨rfl, hB⟩

set_option maxHeartbeats 2000000 in
set_option maxRecDepth 100000 in
theorem caught_some (e p : Int) (w : World) : Calls Tryd.prog 29 #[.iface 61 (.agg #[.int .i64 e, .int .i64 p])] w fun r w' => r = .returned (.agg #[.int .i64 e, .int .i64 p]) ∧ Below w.heap.size w w' := by
  have hta : ∀ wx : World, (Instr.typeAssert (.iface 61 (.agg #[.int .i64 e, .int .i64 p])) 20 61 false).run Tryd.prog wx = .ok (.agg #[.int .i64 e, .int .i64 p]) wx := fun wx => by
    have hu := Tryd.underlying61
    simp [Instr.typeAssert, run_underlying hu, Sem.run_bind, Result.andThen]
  have hB := below_alloc (w := w) (.cells #[.int .i64 0, .int .i64 0] 61)
  have qT := Blk.new w #[.int .i64 0, .int .i64 0] 61
  go_enter Tryd.func29, Tryd.ntmps29
  go_upto_region 1 with fail
  generalize w.alloc (.cells #[.int .i64 0, .int .i64 0] 61) = W at hB qT ⊢
  have fz := fun o => qT.frozen o
  have t0 := qT.cell 0
  have t1 := qT.cell 1
  simp only [rdC, List.getElem?_toArray, List.getElem?_cons_zero, List.getElem?_cons_succ] at t0 t1
  go_wp2
  clear fz t0 t1
  obtain ⟨k2, q2⟩ := qT.set2 (.int .i64 e) (.int .i64 p)
  have x0 := q2.cell 0
  have x1 := q2.cell 1
  simp only [rdC, List.getElem?_toArray, List.getElem?_cons_zero, List.getElem?_cons_succ] at x0 x1
  replace hB := hB.trans ((k2.below (Nat.le_refl _)).mono (Nat.le_refl _))
  clear k2 q2 qT
  generalize (W.setCell ⟨w.heap.size, 0, none⟩ (.int .i64 e)).setCell ⟨w.heap.size, 1, none⟩ (.int .i64 p) = w9 at x0 x1 hB ⊢
  refine bodyPost_ret (v := .agg #[.int .i64 e, .int .i64 p]) (by rw [results_c rfl]; go_simp) rfl ?_
  exact ⟨rfl, hB⟩

set_option maxHeartbeats 2000000 in
set_option maxRecDepth 100000 in
theorem isReading_is (b : Nat) (p : Addr) (v : Value) (d : Int) (en : Bool) (e pl : Int) (w : World) (h : Blk w b (rdC (some p) v d en e pl) 63) : Calls Tryd.prog 26 #[.pointer (some ⟨b, 0, none⟩)] w fun r w' => r = .returned (.bool true) ∧ w' = w := by
  have y0 := h.cell 0
  simp only [rdC, List.getElem?_toArray, List.getElem?_cons_zero, List.getElem?_cons_succ] at y0
  go_enter Tryd.func26, Tryd.ntmps26
  go_wp2
  go_ret
  exact ⟨rfl, rfl⟩

set_option maxHeartbeats 2000000 in
set_option maxRecDepth 100000 in
theorem isReading_no (b : Nat) (v : Value) (d : Int) (en : Bool) (e pl : Int) (w : World) (h : Blk w b (rdC none v d en e pl) 63) : Calls Tryd.prog 26 #[.pointer (some ⟨b, 0, none⟩)] w fun r w' => r = .returned (.bool false) ∧ w' = w := by
  have y0 := h.cell 0
  simp only [rdC, List.getElem?_toArray, List.getElem?_cons_zero, List.getElem?_cons_succ] at y0
  go_enter Tryd.func26, Tryd.ntmps26
  go_wp2
  go_ret
  exact ⟨rfl, rfl⟩

set_option maxHeartbeats 2000000 in
set_option maxRecDepth 100000 in
theorem rlast_is (b : Nat) (p : Option Addr) (v : Value) (d : Int) (e pl : Int) (w : World) (h : Blk w b (rdC p v d true e pl) 63) : Calls Tryd.prog 35 #[.pointer (some ⟨b, 0, none⟩)] w fun r w' => r = .returned (.agg #[.int .i64 e, .int .i64 pl]) ∧ Below w.heap.size w w' := by
  have hb0 := below_alloc (w := w) (.cells #[.int .i64 0, .int .i64 0] 61)
  replace h := h.later hb0
  have y3 := h.cell 3
  have y4 := h.cell 4
  have y5 := h.cell 5
  simp only [rdC, List.getElem?_toArray, List.getElem?_cons_zero, List.getElem?_cons_succ] at y3 y4 y5
  clear hb0
  have hB := below_alloc (w := w) (.cells #[.int .i64 0, .int .i64 0] 61)
  have qT := Blk.new w #[.int .i64 0, .int .i64 0] 61
  go_enter Tryd.func35, Tryd.ntmps35
  go_upto_region 1 with fail
  generalize w.alloc (.cells #[.int .i64 0, .int .i64 0] 61) = W at hB qT h y3 y4 y5 ⊢
  have fz := fun o => qT.frozen o
  have t0 := qT.cell 0
  have t1 := qT.cell 1
  simp only [rdC, List.getElem?_toArray, List.getElem?_cons_zero, List.getElem?_cons_succ] at t0 t1
  go_wp2
  clear fz t0 t1
  obtain ⟨k2, q2⟩ := qT.set2 (.int .i64 e) (.int .i64 pl)
  have x0 := q2.cell 0
  have x1 := q2.cell 1
  simp only [rdC, List.getElem?_toArray, List.getElem?_cons_zero, List.getElem?_cons_succ] at x0 x1
  replace hB := hB.trans ((k2.below (Nat.le_refl _)).mono (Nat.le_refl _))
  clear k2 q2 qT
  generalize (W.setCell ⟨w.heap.size, 0, none⟩ (.int .i64 e)).setCell ⟨w.heap.size, 1, none⟩ (.int .i64 pl) = w9 at x0 x1 hB ⊢
  refine bodyPost_ret (v := .agg #[.int .i64 e, .int .i64 pl]) (by rw [results_c rfl]; go_simp) rfl ?_
  exact ⟨rfl, hB⟩

set_option maxHeartbeats 2000000 in
set_option maxRecDepth 100000 in
theorem rstop_is (b : Nat) (p : Option Addr) (v : Value) (d : Int) (en : Bool) (e0 pl0 e pl : Int) (w : World) (h : Blk w b (rdC p v d en e0 pl0) 63) : Calls Tryd.prog 31 #[.pointer (some ⟨b, 0, none⟩), .agg #[.int .i64 e, .int .i64 pl]] w fun r w' => r = .returned (.tuple #[]) ∧ Blk w' b (rdC none (.slice none 0 0) d true e pl) 63 ∧ w.heap.size ≤ w'.heap.size ∧ (∀ k, k < w.heap.size → k ≠ b → w'.heap[k]? = w.heap[k]?) ∧ w'.os = w.os ∧ w'.tape = w.tape ∧ w'.output = w.output := by
  have b0 := below_alloc (w := w) (.cells #[.int .i64 e, .int .i64 pl] 61)
  have qT := Blk.new w #[.int .i64 e, .int .i64 pl] 61
  have hlt := h.lt
  replace h := h.later b0
  have e1 : (w.alloc (.cells #[.int .i64 e, .int .i64 pl] 61)).heap.size = w.heap.size + 1 := by simp
  go_enter Tryd.func31, Tryd.ntmps31
  go_upto_region 1 with fail
  generalize w.alloc (.cells #[.int .i64 e, .int .i64 pl] 61) = W at b0 qT h e1 ⊢
  have y2 := h.cell 2
  have z0 := qT.cell 0
  have z1 := qT.cell 1
  simp only [rdC, List.getElem?_toArray, List.getElem?_cons_zero, List.getElem?_cons_succ] at y2 z0 z1
  have bD : Below W.heap.size W W.drew := (Below.refl _ _).drew
  have ky2 := below_cell bD y2
  have kz0 := below_cell bD z0
  have kz1 := below_cell bD z1
  replace b0 := b0.trans (bD.mono b0.size)
  replace h := h.later bD
  replace qT := qT.later bD
  refine wp_region_held_drew (S := fun w' => w'.cell? ⟨b, 2, none⟩ = some (.int .i64 d) ∧ w'.cell? ⟨w.heap.size, 0, none⟩ = some (.int .i64 e) ∧ w'.cell? ⟨w.heap.size, 1, none⟩ = some (.int .i64 pl)) (by kernel_rfl) ⟨ky2, kz0, kz1⟩ (fun hHeld => ?_)
  clear ky2 kz0 kz1
  generalize W.drew = w0 at bD h qT b0 hHeld ⊢
  clear y2 z0 z1
  refine take' 0 (v := ?_) rfl (by kernel_rfl) (by kernel_rfl) (by kernel_rfl) (fun _ _ _ h => h) (Or.inl ⟨by rfl, ?_⟩) (by assumption) ?_
  rotate_left
  · intro w9 hSw
    go_simp
    first | done | with_reducible rfl
  simp only [Act.put, List.setIfInBounds_toArray, List.set_cons_zero, List.set_cons_succ]
  refine take' 1 (v := ?_) rfl (by kernel_rfl) (by kernel_rfl) (by kernel_rfl) (fun _ _ _ h => h) (Or.inl ⟨by rfl, ?_⟩) (by assumption) ?_
  rotate_left
  · intro w9 hSw
    go_simp
    first | done | with_reducible rfl
  simp only [Act.put, List.setIfInBounds_toArray, List.set_cons_zero, List.set_cons_succ]
  refine take' 2 (v := ?_) rfl (by kernel_rfl) (by kernel_rfl) (by kernel_rfl) (fun _ _ _ h => h) (Or.inl ⟨by rfl, ?_⟩) (by assumption) ?_
  rotate_left
  · intro w9 hSw
    go_simp
    first | done | with_reducible rfl
  simp only [Act.put, List.setIfInBounds_toArray, List.set_cons_zero, List.set_cons_succ]
  refine take' 3 (v := ?_) rfl (by kernel_rfl) (by kernel_rfl) (by kernel_rfl) (fun _ _ _ h => h) (Or.inl ⟨by rfl, ?_⟩) (by assumption) ?_
  rotate_left
  · intro w9 hSw
    go_simp
    first | done | with_reducible rfl
  simp only [Act.put, List.setIfInBounds_toArray, List.set_cons_zero, List.set_cons_succ]
  refine take' 4 (v := ?_) rfl (by kernel_rfl) (by kernel_rfl) (by kernel_rfl) (fun _ _ _ h => h) (Or.inl ⟨by rfl, ?_⟩) (by assumption) ?_
  rotate_left
  · intro w9 hSw
    go_simp
    first | done | with_reducible rfl
  simp only [Act.put, List.setIfInBounds_toArray, List.set_cons_zero, List.set_cons_succ]
  refine take' 5 (v := ?_) rfl (by kernel_rfl) (by kernel_rfl) (by kernel_rfl) (fun _ _ _ h => h) (Or.inl ⟨by rfl, ?_⟩) (by assumption) ?_
  rotate_left
  · intro w9 hSw
    go_simp
    first | done | with_reducible rfl
  simp only [Act.put, List.setIfInBounds_toArray, List.set_cons_zero, List.set_cons_succ]
  refine take' 6 (v := ?_) rfl (by kernel_rfl) (by kernel_rfl) (by kernel_rfl) (fun _ _ _ h => h) (Or.inl ⟨by rfl, ?_⟩) (by assumption) ?_
  rotate_left
  · intro w9 hSw
    go_simp
    first | done | with_reducible rfl
  simp only [Act.put, List.setIfInBounds_toArray, List.set_cons_zero, List.set_cons_succ]
  refine take' 7 (v := ?_) rfl (by kernel_rfl) (by kernel_rfl) (by kernel_rfl) (fun _ _ _ h => h) (Or.inl ⟨by rfl, ?_⟩) (by assumption) ?_
  rotate_left
  · intro w9 hSw
    go_simp
    first | done | with_reducible rfl
  simp only [Act.put, List.setIfInBounds_toArray, List.set_cons_zero, List.set_cons_succ]
  refine wpAnyH_ready (rs := [8]) (by kernel_rfl) (by simp) ?_
  refine cons' rfl (fun KK hKK => ?_)
  have fz := fun o => h.frozen o
  have t0 := h.cell 0
  have t1 := h.cell 1
  have t2 := h.cell 2
  have t3 := h.cell 3
  have t4 := h.cell 4
  have t5 := h.cell 5
  simp only [rdC, List.getElem?_toArray, List.getElem?_cons_zero, List.getElem?_cons_succ] at t0 t1 t2 t3 t4 t5
  have HH := hideT h
  clear h
  go_simp
  have h := HH.out
  clear HH fz t0 t1 t2 t3 t4 t5
  unfold rdC at h
  obtain ⟨k6, q6⟩ := h.set6 (.pointer none) (.slice none 0 0) (.int .i64 d) (.bool true) (.int .i64 e) (.int .i64 pl)
  unfold set6 at k6 q6
  have nb : w.heap.size ≠ b := by omega
  have u2 := q6.cell 2
  simp only [rdC, List.getElem?_toArray, List.getElem?_cons_zero, List.getElem?_cons_succ] at u2
  have hH2 := And.intro u2 (And.intro (k6.cell nb hHeld.2.1) (k6.cell nb hHeld.2.2))
  refine hKK.out _ _ hH2 ?_
  clear hHeld
  intro hHeld
  clear hKK KK
  try simp only [Act.put, List.setIfInBounds_toArray, List.set_cons_zero, List.set_cons_succ]
  clear hH2 u2
  refine wpAnyH_done (by kernel_rfl) ?_ _
  clear hHeld
  have hbb : ∀ k, k < w.heap.size → k ≠ b → ((((((w0.setCell ⟨b, 0, none⟩ (.pointer none)).setCell ⟨b, 1, none⟩ (.slice none 0 0)).setCell ⟨b, 2, none⟩ (.int .i64 d)).setCell ⟨b, 3, none⟩ (.bool true)).setCell ⟨b, 4, none⟩ (.int .i64 e)).setCell ⟨b, 5, none⟩ (.int .i64 pl)).heap[k]? = w.heap[k]? := fun k hk hne => (k6.other k hne).trans (b0.block k hk)
  have hsz : w.heap.size ≤ ((((((w0.setCell ⟨b, 0, none⟩ (.pointer none)).setCell ⟨b, 1, none⟩ (.slice none 0 0)).setCell ⟨b, 2, none⟩ (.int .i64 d)).setCell ⟨b, 3, none⟩ (.bool true)).setCell ⟨b, 4, none⟩ (.int .i64 e)).setCell ⟨b, 5, none⟩ (.int .i64 pl)).heap.size := by rw [k6.size]; exact b0.size
  have hso : ((((((w0.setCell ⟨b, 0, none⟩ (.pointer none)).setCell ⟨b, 1, none⟩ (.slice none 0 0)).setCell ⟨b, 2, none⟩ (.int .i64 d)).setCell ⟨b, 3, none⟩ (.bool true)).setCell ⟨b, 4, none⟩ (.int .i64 e)).setCell ⟨b, 5, none⟩ (.int .i64 pl)).os = w.os ∧ ((((((w0.setCell ⟨b, 0, none⟩ (.pointer none)).setCell ⟨b, 1, none⟩ (.slice none 0 0)).setCell ⟨b, 2, none⟩ (.int .i64 d)).setCell ⟨b, 3, none⟩ (.bool true)).setCell ⟨b, 4, none⟩ (.int .i64 e)).setCell ⟨b, 5, none⟩ (.int .i64 pl)).tape = w.tape ∧ ((((((w0.setCell ⟨b, 0, none⟩ (.pointer none)).setCell ⟨b, 1, none⟩ (.slice none 0 0)).setCell ⟨b, 2, none⟩ (.int .i64 d)).setCell ⟨b, 3, none⟩ (.bool true)).setCell ⟨b, 4, none⟩ (.int .i64 e)).setCell ⟨b, 5, none⟩ (.int .i64 pl)).output = w.output := ⟨k6.os.trans b0.os, k6.tape.trans b0.tape, k6.output.trans b0.output⟩
  generalize ((((((w0.setCell ⟨b, 0, none⟩ (.pointer none)).setCell ⟨b, 1, none⟩ (.slice none 0 0)).setCell ⟨b, 2, none⟩ (.int .i64 d)).setCell ⟨b, 3, none⟩ (.bool true)).setCell ⟨b, 4, none⟩ (.int .i64 e)).setCell ⟨b, 5, none⟩ (.int .i64 pl)) = w9 at q6 hbb hsz hso ⊢
  clear k6 h qT
  go_wp2
  first | go_end0 | skip
  exact ⟨rfl, q6, hsz, hbb, hso⟩

set_option maxHeartbeats 2000000 in
set_option maxRecDepth 100000 in
theorem rtell_is (b : Nat) (p : Option Addr) (gl n c : Nat) (d : Int) (en : Bool) (e pl : Int) (vk : Value) (w : World) (h : Blk w b (rdC p (.slice (some ⟨gl, 0, none⟩) n c) d en e pl) 63) (hn : 0 < n) (hk : w.cell? ⟨gl, 6, none⟩ = some vk) (hf : w.frozen? ⟨gl, 6, none⟩ = false) : Calls Tryd.prog 30 #[.pointer (some ⟨b, 0, none⟩)] w fun r w' => r = .returned vk ∧ w' = w.setCell ⟨gl, 6, none⟩ (.slice none 0 0) := by
  have y1 := h.cell 1
  simp only [rdC, List.getElem?_toArray, List.getElem?_cons_zero, List.getElem?_cons_succ] at y1
  have hn1 : (0 : Int) < (n : Int) := by omega
  go_enter Tryd.func30, Tryd.ntmps30
  go_wp2
  go_ret
  exact ⟨rfl, rfl⟩

end Go.Proofs.YtibeiggedmabkaaDoor
