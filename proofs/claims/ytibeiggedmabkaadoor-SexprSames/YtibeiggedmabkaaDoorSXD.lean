/-
  NewReader.
-/
import Derived.Test.YtibeiggedmabkaaDoorSXC
namespace Go.Proofs.YtibeiggedmabkaaDoor
open Go.RowKit
set_option linter.unusedVariables false
set_option linter.unusedSimpArgs false
theorem mk1 (w : World) : (Instr.makeSlice 22 (.int .i64 1) (.int .i64 1)).run Tryd.prog w = .ok (.slice (some ⟨w.heap.size, 0, none⟩) 1 1) (w.alloc (.cells #[.int .i64 0, .string ⟨#[]⟩, .int .i64 0, .int .i64 0, .int .i64 0, .int .i64 0, .slice none 0 0] 34)) := by
  first | kernel_rfl | rfl
theorem newS_is (w : World) : Calls Tryd.prog 25 #[] w fun r w' => r = .returned (.pointer (some ⟨w.heap.size, 0, none⟩)) ∧ w' = w.alloc (.cells sI.cells 82) := by
  go_enter Tryd.func25, Tryd.ntmps25
  go_wp2
  go_ret
  exact ⟨rfl, rfl⟩
set_option maxHeartbeats 4000000 in
set_option maxRecDepth 100000 in
theorem newR_is (w : World) : Calls Tryd.prog 15 #[] w fun r w' => ∃ b sc gl, r = .returned (.pointer (some ⟨b, 0, none⟩)) ∧ Blk w' b (rdC (some ⟨sc, 0, none⟩) (.slice (some ⟨gl, 0, none⟩) 1 1) 0 false 0 0) 63 ∧ Blk w' sc sI.cells 82 ∧ Blk w' gl #[.int .i64 0, .string ⟨#[]⟩, .int .i64 0, .int .i64 0, .int .i64 0, .int .i64 0, .slice none 0 0] 34 ∧ b ≠ sc ∧ b ≠ gl ∧ sc ≠ gl ∧ w.heap.size ≤ b ∧ w.heap.size ≤ sc ∧ w.heap.size ≤ gl ∧ Below w.heap.size w w' := by
  have hmk := mk1
  go_enter Tryd.func15, Tryd.ntmps15
  go_wp2_with fail
  have bD : Below w.heap.size w w.drew := (Below.refl _ _).drew
  refine wp_region_held_drew (S := fun w' => True) (by kernel_rfl) trivial (fun hHeld => ?_)
  generalize w.drew = w0 at bD  hHeld ⊢
  have hz := bD.size
  have hB := bD
  clear bD
  refine wpAnyH_ready (rs := [0, 1]) (by kernel_rfl) (by simp) ?_
  refine consTX rfl (fun KK hKK => ?_) ?_
  · skip
    go_simp
    refine (newS_is w0).mono ?_
    rintro r2 w2 ⟨rfl, rfl⟩
    have qS := Blk.new w0 sI.cells 82
    have bS := below_alloc (w := w0) (.cells sI.cells 82)
    have eS : w0.heap.size + 1 ≤ (w0.alloc (.cells sI.cells 82)).heap.size := by simp
    replace hB := hB.trans (bS.mono hB.size)
    clear bS
    generalize w0.alloc (.cells sI.cells 82) = w3 at qS eS hB ⊢
    generalize w0.heap.size = sc at qS eS hz ⊢
    go_wp2_with fail
    refine hKK.out _ _ hHeld ?_
    clear hHeld
    intro hHeld
    clear hKK KK
    try simp only [Act.put, List.setIfInBounds_toArray, List.set_cons_zero, List.set_cons_succ]
    refine wpAnyH_ready (rs := [1]) (by kernel_rfl) (by simp) ?_
    refine cons' rfl (fun KK hKK => ?_)
    go_simp
    have qG := Blk.new w3 #[.int .i64 0, .string ⟨#[]⟩, .int .i64 0, .int .i64 0, .int .i64 0, .int .i64 0, .slice none 0 0] 34
    have bG := below_alloc (w := w3) (.cells #[.int .i64 0, .string ⟨#[]⟩, .int .i64 0, .int .i64 0, .int .i64 0, .int .i64 0, .slice none 0 0] 34)
    have eG : w3.heap.size + 1 ≤ (w3.alloc (.cells #[.int .i64 0, .string ⟨#[]⟩, .int .i64 0, .int .i64 0, .int .i64 0, .int .i64 0, .slice none 0 0] 34)).heap.size := by simp
    replace qS := qS.later bG
    replace hB := hB.trans (bG.mono hB.size)
    clear bG
    generalize w3.alloc (.cells #[.int .i64 0, .string ⟨#[]⟩, .int .i64 0, .int .i64 0, .int .i64 0, .int .i64 0, .slice none 0 0] 34) = w4 at qS qG eG hB ⊢
    generalize w3.heap.size = gl at qG eG eS ⊢
    refine hKK.out _ _ hHeld ?_
    clear hHeld
    intro hHeld
    clear hKK KK
    try simp only [Act.put, List.setIfInBounds_toArray, List.set_cons_zero, List.set_cons_succ]
    refine take' 2 (v := ?_) rfl (by kernel_rfl) (by kernel_rfl) (by kernel_rfl) (fun _ _ _ h => h) (Or.inl ⟨by rfl, ?_⟩) (by assumption) ?_
    rotate_left
    · intro w9 hSw
      go_simp
      first | done | with_reducible rfl
    simp only [Act.put, List.setIfInBounds_toArray, List.set_cons_zero, List.set_cons_succ]
    refine wpAnyH_ready (rs := [3]) (by kernel_rfl) (by simp) ?_
    refine cons' rfl (fun KK hKK => ?_)
    go_simp
    have qR := Blk.new w4 #[.pointer (some ⟨sc, 0, none⟩), .slice (some ⟨gl, 0, none⟩) 1 1, .int .i64 0, .bool false, .int .i64 0, .int .i64 0] 63
    have bR := below_alloc (w := w4) (.cells #[.pointer (some ⟨sc, 0, none⟩), .slice (some ⟨gl, 0, none⟩) 1 1, .int .i64 0, .bool false, .int .i64 0, .int .i64 0] 63)
    replace qS := qS.later bR
    replace qG := qG.later bR
    replace hB := hB.trans (bR.mono hB.size)
    clear bR
    generalize hzz : w4.alloc (.cells #[.pointer (some ⟨sc, 0, none⟩), .slice (some ⟨gl, 0, none⟩) 1 1, .int .i64 0, .bool false, .int .i64 0, .int .i64 0] 63) = w9 at qR qS qG hB ⊢
    clear hzz
    refine hKK.out _ _ hHeld ?_
    clear hHeld
    intro hHeld
    clear hKK KK
    try simp only [Act.put, List.setIfInBounds_toArray, List.set_cons_zero, List.set_cons_succ]
    refine take' 4 (v := ?_) rfl (by kernel_rfl) (by kernel_rfl) (by kernel_rfl) (fun _ _ _ h => h) (Or.inl ⟨by rfl, ?_⟩) (by assumption) ?_
    rotate_left
    · intro w9 hSw
      go_simp
      first | done | with_reducible rfl
    simp only [Act.put, List.setIfInBounds_toArray, List.set_cons_zero, List.set_cons_succ]
    refine wpAnyH_done (by kernel_rfl) ?_ _
    go_wp2
    go_ret
    exact ⟨_, sc, gl, rfl, qR, qS, qG, by omega, by omega, by omega, by omega, by omega, by omega, hB⟩
  refine consTX rfl (fun KK hKK => ?_) ?_
  · skip
    go_simp
    have qG := Blk.new w0 #[.int .i64 0, .string ⟨#[]⟩, .int .i64 0, .int .i64 0, .int .i64 0, .int .i64 0, .slice none 0 0] 34
    have bG := below_alloc (w := w0) (.cells #[.int .i64 0, .string ⟨#[]⟩, .int .i64 0, .int .i64 0, .int .i64 0, .int .i64 0, .slice none 0 0] 34)
    have eG : w0.heap.size + 1 ≤ (w0.alloc (.cells #[.int .i64 0, .string ⟨#[]⟩, .int .i64 0, .int .i64 0, .int .i64 0, .int .i64 0, .slice none 0 0] 34)).heap.size := by simp
    replace hB := hB.trans (bG.mono hB.size)
    clear bG
    generalize w0.alloc (.cells #[.int .i64 0, .string ⟨#[]⟩, .int .i64 0, .int .i64 0, .int .i64 0, .int .i64 0, .slice none 0 0] 34) = w3 at qG eG hB ⊢
    generalize w0.heap.size = gl at qG eG hz ⊢
    refine hKK.out _ _ hHeld ?_
    clear hHeld
    intro hHeld
    clear hKK KK
    try simp only [Act.put, List.setIfInBounds_toArray, List.set_cons_zero, List.set_cons_succ]
    refine wpAnyH_ready (rs := [0]) (by kernel_rfl) (by simp) ?_
    refine cons' rfl (fun KK hKK => ?_)
    go_simp
    refine (newS_is w3).mono ?_
    rintro r2 w2 ⟨rfl, rfl⟩
    have qS := Blk.new w3 sI.cells 82
    have bS := below_alloc (w := w3) (.cells sI.cells 82)
    have eS : w3.heap.size + 1 ≤ (w3.alloc (.cells sI.cells 82)).heap.size := by simp
    replace qG := qG.later bS
    replace hB := hB.trans (bS.mono hB.size)
    clear bS
    generalize w3.alloc (.cells sI.cells 82) = w4 at qS qG eS hB ⊢
    generalize w3.heap.size = sc at qS eS eG ⊢
    go_wp2_with fail
    refine hKK.out _ _ hHeld ?_
    clear hHeld
    intro hHeld
    clear hKK KK
    try simp only [Act.put, List.setIfInBounds_toArray, List.set_cons_zero, List.set_cons_succ]
    refine take' 2 (v := ?_) rfl (by kernel_rfl) (by kernel_rfl) (by kernel_rfl) (fun _ _ _ h => h) (Or.inl ⟨by rfl, ?_⟩) (by assumption) ?_
    rotate_left
    · intro w9 hSw
      go_simp
      first | done | with_reducible rfl
    simp only [Act.put, List.setIfInBounds_toArray, List.set_cons_zero, List.set_cons_succ]
    refine wpAnyH_ready (rs := [3]) (by kernel_rfl) (by simp) ?_
    refine cons' rfl (fun KK hKK => ?_)
    go_simp
    have qR := Blk.new w4 #[.pointer (some ⟨sc, 0, none⟩), .slice (some ⟨gl, 0, none⟩) 1 1, .int .i64 0, .bool false, .int .i64 0, .int .i64 0] 63
    have bR := below_alloc (w := w4) (.cells #[.pointer (some ⟨sc, 0, none⟩), .slice (some ⟨gl, 0, none⟩) 1 1, .int .i64 0, .bool false, .int .i64 0, .int .i64 0] 63)
    replace qS := qS.later bR
    replace qG := qG.later bR
    replace hB := hB.trans (bR.mono hB.size)
    clear bR
    generalize hzz : w4.alloc (.cells #[.pointer (some ⟨sc, 0, none⟩), .slice (some ⟨gl, 0, none⟩) 1 1, .int .i64 0, .bool false, .int .i64 0, .int .i64 0] 63) = w9 at qR qS qG hB ⊢
    clear hzz
    refine hKK.out _ _ hHeld ?_
    clear hHeld
    intro hHeld
    clear hKK KK
    try simp only [Act.put, List.setIfInBounds_toArray, List.set_cons_zero, List.set_cons_succ]
    refine take' 4 (v := ?_) rfl (by kernel_rfl) (by kernel_rfl) (by kernel_rfl) (fun _ _ _ h => h) (Or.inl ⟨by rfl, ?_⟩) (by assumption) ?_
    rotate_left
    · intro w9 hSw
      go_simp
      first | done | with_reducible rfl
    simp only [Act.put, List.setIfInBounds_toArray, List.set_cons_zero, List.set_cons_succ]
    refine wpAnyH_done (by kernel_rfl) ?_ _
    go_wp2
    go_ret
    exact ⟨_, sc, gl, rfl, qR, qS, qG, by omega, by omega, by omega, by omega, by omega, by omega, hB⟩
  exact AllReadyH.nil

end Go.Proofs.YtibeiggedmabkaaDoor
