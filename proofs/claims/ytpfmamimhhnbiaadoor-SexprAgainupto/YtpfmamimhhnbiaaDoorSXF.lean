/-
  Feed.
-/
import Derived.Test.YtpfmamimhhnbiaaDoorSXC
namespace Go.Proofs.YtpfmamimhhnbiaaDoor
open Go.RowKit
set_option linter.unusedVariables false
set_option linter.unusedSimpArgs false
theorem mk1 (w : World) : (Instr.makeSlice 24 (.int .i64 1) (.int .i64 1)).run Tryd.prog w = .ok (.slice (some ⟨w.heap.size, 0, none⟩) 1 1) (w.alloc (.cells #[.int .i64 0, .string ⟨#[]⟩, .int .i64 0, .int .i64 0, .int .i64 0, .int .i64 0, .slice none 0 0] 26)) := by
  first | kernel_rfl | rfl
theorem newS_is (w : World) : Calls Tryd.prog 29 #[] w fun r w' => r = .returned (.pointer (some ⟨w.heap.size, 0, none⟩)) ∧ w' = w.alloc (.cells sI.cells 86) := by
  go_enter Tryd.func29, Tryd.ntmps29
  go_wp2
  go_ret
  exact ⟨rfl, rfl⟩
set_option maxHeartbeats 4000000 in
set_option maxRecDepth 100000 in
theorem newR_is (w : World) : Calls Tryd.prog 13 #[] w fun r w' => ∃ b sc gl, r = .returned (.pointer (some ⟨b, 0, none⟩)) ∧ Blk w' b (rdC (some ⟨sc, 0, none⟩) (.slice (some ⟨gl, 0, none⟩) 1 1) 0 false 0 0) 64 ∧ Blk w' sc sI.cells 86 ∧ Blk w' gl #[.int .i64 0, .string ⟨#[]⟩, .int .i64 0, .int .i64 0, .int .i64 0, .int .i64 0, .slice none 0 0] 26 ∧ b ≠ sc ∧ b ≠ gl ∧ sc ≠ gl ∧ w.heap.size ≤ b ∧ w.heap.size ≤ sc ∧ w.heap.size ≤ gl ∧ Below w.heap.size w w' := by
  have hmk := mk1
  go_enter Tryd.func13, Tryd.ntmps13
  go_wp2_with fail
  have bD : Below w.heap.size w w.drew := (Below.refl _ _).drew
  refine wp_region_held_drew (S := fun w' => True) (by kernel_rfl) trivial (fun hHeld => ?_)
  generalize w.drew = w0 at bD  hHeld ⊢
  have hz := bD.size
  have hB := bD
  clear bD
  refine wpAnyH_ready (rs := [0, 1]) (by kernel_rfl) (by simp) ?_
  refine consTX rfl (fun KK hKK => ?_) ?_
  · skip
    go_simp
    refine (newS_is w0).mono ?_
    rintro r2 w2 ⟨rfl, rfl⟩
    have qS := Blk.new w0 sI.cells 86
    have bS := below_alloc (w := w0) (.cells sI.cells 86)
    have eS : w0.heap.size + 1 ≤ (w0.alloc (.cells sI.cells 86)).heap.size := by simp
    replace hB := hB.trans (bS.mono hB.size)
    clear bS
    generalize w0.alloc (.cells sI.cells 86) = w3 at qS eS hB ⊢
    generalize w0.heap.size = sc at qS eS hz ⊢
    go_wp2_with fail
    refine hKK.out _ _ hHeld ?_
    clear hHeld
    intro hHeld
    clear hKK KK
    try simp only [Act.put, List.setIfInBounds_toArray, List.set_cons_zero, List.set_cons_succ]
    refine wpAnyH_ready (rs := [1]) (by kernel_rfl) (by simp) ?_
    refine cons' rfl (fun KK hKK => ?_)
    go_simp
    have qG := Blk.new w3 #[.int .i64 0, .string ⟨#[]⟩, .int .i64 0, .int .i64 0, .int .i64 0, .int .i64 0, .slice none 0 0] 26
    have bG := below_alloc (w := w3) (.cells #[.int .i64 0, .string ⟨#[]⟩, .int .i64 0, .int .i64 0, .int .i64 0, .int .i64 0, .slice none 0 0] 26)
    have eG : w3.heap.size + 1 ≤ (w3.alloc (.cells #[.int .i64 0, .string ⟨#[]⟩, .int .i64 0, .int .i64 0, .int .i64 0, .int .i64 0, .slice none 0 0] 26)).heap.size := by simp
    replace qS := qS.later bG
    replace hB := hB.trans (bG.mono hB.size)
    clear bG
    generalize w3.alloc (.cells #[.int .i64 0, .string ⟨#[]⟩, .int .i64 0, .int .i64 0, .int .i64 0, .int .i64 0, .slice none 0 0] 26) = w4 at qS qG eG hB ⊢
    generalize w3.heap.size = gl at qG eG eS ⊢
    refine hKK.out _ _ hHeld ?_
    clear hHeld
    intro hHeld
    clear hKK KK
    try simp only [Act.put, List.setIfInBounds_toArray, List.set_cons_zero, List.set_cons_succ]
    refine take' 2 (v := ?_) rfl (by kernel_rfl) (by kernel_rfl) (by kernel_rfl) (fun _ _ _ h => h) (Or.inl ⟨by rfl, ?_⟩) (by assumption) ?_
    rotate_left
    · intro w9 hSw
      go_simp
      first | done | with_reducible rfl
    simp only [Act.put, List.setIfInBounds_toArray, List.set_cons_zero, List.set_cons_succ]
    refine wpAnyH_ready (rs := [3]) (by kernel_rfl) (by simp) ?_
    refine cons' rfl (fun KK hKK => ?_)
    go_simp
    have qR := Blk.new w4 #[.pointer (some ⟨sc, 0, none⟩), .slice (some ⟨gl, 0, none⟩) 1 1, .int .i64 0, .bool false, .int .i64 0, .int .i64 0] 64
    have bR := below_alloc (w := w4) (.cells #[.pointer (some ⟨sc, 0, none⟩), .slice (some ⟨gl, 0, none⟩) 1 1, .int .i64 0, .bool false, .int .i64 0, .int .i64 0] 64)
    replace qS := qS.later bR
    replace qG := qG.later bR
    replace hB := hB.trans (bR.mono hB.size)
    clear bR
    generalize hzz : w4.alloc (.cells #[.pointer (some ⟨sc, 0, none⟩), .slice (some ⟨gl, 0, none⟩) 1 1, .int .i64 0, .bool false, .int .i64 0, .int .i64 0] 64) = w9 at qR qS qG hB ⊢
    clear hzz
    refine hKK.out _ _ hHeld ?_
    clear hHeld
    intro hHeld
    clear hKK KK
    try simp only [Act.put, List.setIfInBounds_toArray, List.set_cons_zero, List.set_cons_succ]
    refine take' 4 (v := ?_) rfl (by kernel_rfl) (by kernel_rfl) (by kernel_rfl) (fun _ _ _ h => h) (Or.inl ⟨by rfl, ?_⟩) (by assumption) ?_
    rotate_left
    · intro w9 hSw
      go_simp
      first | done | with_reducible rfl
    simp only [Act.put, List.setIfInBounds_toArray, List.set_cons_zero, List.set_cons_succ]
    refine wpAnyH_done (by kernel_rfl) ?_ _
    go_wp2
    go_ret
    exact ⟨_, sc, gl, rfl, qR, qS, qG, by omega, by omega, by omega, by omega, by omega, by omega, hB⟩
  refine consTX rfl (fun KK hKK => ?_) ?_
  · skip
    go_simp
    have qG := Blk.new w0 #[.int .i64 0, .string ⟨#[]⟩, .int .i64 0, .int .i64 0, .int .i64 0, .int .i64 0, .slice none 0 0] 26
    have bG := below_alloc (w := w0) (.cells #[.int .i64 0, .string ⟨#[]⟩, .int .i64 0, .int .i64 0, .int .i64 0, .int .i64 0, .slice none 0 0] 26)
    have eG : w0.heap.size + 1 ≤ (w0.alloc (.cells #[.int .i64 0, .string ⟨#[]⟩, .int .i64 0, .int .i64 0, .int .i64 0, .int .i64 0, .slice none 0 0] 26)).heap.size := by simp
    replace hB := hB.trans (bG.mono hB.size)
    clear bG
    generalize w0.alloc (.cells #[.int .i64 0, .string ⟨#[]⟩, .int .i64 0, .int .i64 0, .int .i64 0, .int .i64 0, .slice none 0 0] 26) = w3 at qG eG hB ⊢
    generalize w0.heap.size = gl at qG eG hz ⊢
    refine hKK.out _ _ hHeld ?_
    clear hHeld
    intro hHeld
    clear hKK KK
    try simp only [Act.put, List.setIfInBounds_toArray, List.set_cons_zero, List.set_cons_succ]
    refine wpAnyH_ready (rs := [0]) (by kernel_rfl) (by simp) ?_
    refine cons' rfl (fun KK hKK => ?_)
    go_simp
    refine (newS_is w3).mono ?_
    rintro r2 w2 ⟨rfl, rfl⟩
    have qS := Blk.new w3 sI.cells 86
    have bS := below_alloc (w := w3) (.cells sI.cells 86)
    have eS : w3.heap.size + 1 ≤ (w3.alloc (.cells sI.cells 86)).heap.size := by simp
    replace qG := qG.later bS
    replace hB := hB.trans (bS.mono hB.size)
    clear bS
    generalize w3.alloc (.cells sI.cells 86) = w4 at qS qG eS hB ⊢
    generalize w3.heap.size = sc at qS eS eG ⊢
    go_wp2_with fail
    refine hKK.out _ _ hHeld ?_
    clear hHeld
    intro hHeld
    clear hKK KK
    try simp only [Act.put, List.setIfInBounds_toArray, List.set_cons_zero, List.set_cons_succ]
    refine take' 2 (v := ?_) rfl (by kernel_rfl) (by kernel_rfl) (by kernel_rfl) (fun _ _ _ h => h) (Or.inl ⟨by rfl, ?_⟩) (by assumption) ?_
    rotate_left
    · intro w9 hSw
      go_simp
      first | done | with_reducible rfl
    simp only [Act.put, List.setIfInBounds_toArray, List.set_cons_zero, List.set_cons_succ]
    refine wpAnyH_ready (rs := [3]) (by kernel_rfl) (by simp) ?_
    refine cons' rfl (fun KK hKK => ?_)
    go_simp
    have qR := Blk.new w4 #[.pointer (some ⟨sc, 0, none⟩), .slice (some ⟨gl, 0, none⟩) 1 1, .int .i64 0, .bool false, .int .i64 0, .int .i64 0] 64
    have bR := below_alloc (w := w4) (.cells #[.pointer (some ⟨sc, 0, none⟩), .slice (some ⟨gl, 0, none⟩) 1 1, .int .i64 0, .bool false, .int .i64 0, .int .i64 0] 64)
    replace qS := qS.later bR
    replace qG := qG.later bR
    replace hB := hB.trans (bR.mono hB.size)
    clear bR
    generalize hzz : w4.alloc (.cells #[.pointer (some ⟨sc, 0, none⟩), .slice (some ⟨gl, 0, none⟩) 1 1, .int .i64 0, .bool false, .int .i64 0, .int .i64 0] 64) = w9 at qR qS qG hB ⊢
    clear hzz
    refine hKK.out _ _ hHeld ?_
    clear hHeld
    intro hHeld
    clear hKK KK
    try simp only [Act.put, List.setIfInBounds_toArray, List.set_cons_zero, List.set_cons_succ]
    refine take' 4 (v := ?_) rfl (by kernel_rfl) (by kernel_rfl) (by kernel_rfl) (fun _ _ _ h => h) (Or.inl ⟨by rfl, ?_⟩) (by assumption) ?_
    rotate_left
    · intro w9 hSw
      go_simp
      first | done | with_reducible rfl
    simp only [Act.put, List.setIfInBounds_toArray, List.set_cons_zero, List.set_cons_succ]
    refine wpAnyH_done (by kernel_rfl) ?_ _
    go_wp2
    go_ret
    exact ⟨_, sc, gl, rfl, qR, qS, qG, by omega, by omega, by omega, by omega, by omega, by omega, hB⟩
  exact AllReadyH.nil

end Go.Proofs.YtpfmamimhhnbiaaDoor

namespace Go.Proofs.YtpfmamimhhnbiaaDoor
open Go.RowKit
set_option linter.unusedVariables false
set_option linter.unusedSimpArgs false
def lv00 : Lv := ⟨⟨0, ⟨#[]⟩, 0, 0, 0, 0⟩, .slice none 0 0, [], []⟩
theorem relB_00 : RelB [lv00] b0 := .one lv00
theorem newR_at (w : World) (hM : mxB < w.heap.size) : Calls Tryd.prog 13 #[] w fun r w' => ∃ b sc gl, r = .returned (.pointer (some ⟨b, 0, none⟩)) ∧ RdAt w' w.heap.size b (some ⟨sc, 0, none⟩) false 0 0 gl 1 (fun _ => False) [lv00] ∧ ScAt w' w'.heap.size sc sI ∧ sc ≠ b ∧ sc ≠ gl ∧ w.heap.size ≤ b ∧ w.heap.size ≤ sc ∧ w.heap.size ≤ gl ∧ Below w.heap.size w w' := by
  refine (newR_is w).mono ?_
  rintro e w' ⟨b, sc, gl, rfl, qR, qS, qG, n1, n2, n3, l1, l2, l3, hB⟩
  refine ⟨b, sc, gl, rfl, ⟨qR, ?_, ?_, ?_, ?_, ?_, ?_, Ne.symm n2, by decide, hB.size, fun g hg => hg.elim⟩, ⟨qS, qS.lt, by omega, World.ownsRow_nil _ _ _ _⟩, Ne.symm n1, n3, l1, l2, l3, hB⟩
  · exact ⟨rfl, Or.inr ⟨gl, 1, _, rfl, l3, qG, Nat.le_refl _, by decide, rfl, rfl⟩⟩
  · intro x hx
    rw [List.mem_singleton.1 hx]
    exact World.ownsRow_nil _ _ _ _
  · intro x hx
    rw [List.mem_singleton.1 hx]
    exact ⟨rfl, fun i hi => absurd hi (Nat.not_lt_zero _)⟩
  · exact List.pairwise_singleton _ _
  · intro x hx g hg
    rw [List.mem_singleton.1 hx] at hg
    simp [lv00, Value.ownBlock] at hg
  · exact fun g hg => hg.elim
end Go.Proofs.YtpfmamimhhnbiaaDoor

namespace Go.Proofs.YtpfmamimhhnbiaaDoor
open Go.RowKit
set_option linter.unusedVariables false
set_option linter.unusedSimpArgs false
theorem RdAt.kp {w w' : World} {base b : Nat} {p : Option Addr} {en : Bool} {er pl : Int} {gl c : Nat} {P Y : Nat → Prop} {lv : List Lv} (h : RdAt w base b p en er pl gl c P lv) (k : Kp Y w w') (hY : ∀ i, RdX b gl lv i → ¬ Y i) (hP : ∀ g, P g → ¬ Y g) : RdAt w' base b p en er pl gl c P lv :=
  ⟨k.blk h.blk (hY b (Or.inl rfl)), own_kp h.own k (fun g hg => hY g (Or.inr (Or.inl (by injection hg with hg; exact hg.symm)))), fun x hx => own_kp (h.ok x hx) k (fun g hg => hY g (Or.inr (Or.inr ⟨x, hx, hg⟩))), fun x hx => (h.kn x hx).kept (fun g hg hl => k.block g hl (hP g hg)) (fun _ c => c), h.ap, h.far, fun g hg => ⟨(h.pf g hg).1, (h.pf g hg).2.1, Nat.lt_of_lt_of_le (h.pf g hg).2.2 k.size⟩, h.gb, h.few, Nat.le_trans h.low k.size, fun g hg => (h.ty g hg).of (k.block g (h.pf g hg).2.2 (hP g hg))⟩
theorem Leaves.congr {P : Program} {fn : Func} {T T' : Array Value} {R : Ending → World → Prop} (hr : results fn T = results fn T') : ∀ {ds : List Deferred} {u : FrameMode} {w : World}, Leaves P fn T R ds u w → Leaves P fn T' R ds u w := by
  intro ds
  induction ds with
  | nil =>
    intro u w h
    cases u with
    | returning => simp only [Leaves] at h ⊢; rw [← hr]; exact h
    | panicking c => exact h
    | run => exact h
  | cons d ds ih =>
    intro u w h
    simp only [Leaves] at h ⊢
    obtain ⟨h1, fv, cap, f, args, ht, hi, hc⟩ := h
    refine ⟨h1, fv, cap, f, args, ht, hi, hc.mono ?_⟩
    intro e u' w' he
    cases e with
    | returned v => exact ih he
    | panicked c => exact ih he
    | outgrown => exact he
theorem bodyD_put {P : Program} {fn : Func} {R : Ending → World → Prop} {K : Act → World → Prop} {a : Act} {d : Nat} {v : Value} {c : List PanicEntry} {w : World} (hr : ∀ T : Array Value, results fn (T.setIfInBounds d v) = results fn T) (h : Exit.then K (bodyPostD P fn R) (.panic c) (a.put (some d) v) w) : Exit.then K (bodyPostD P fn R) (.panic c) a w :=
  Leaves.congr (hr a.tmps) h
end Go.Proofs.YtpfmamimhhnbiaaDoor
