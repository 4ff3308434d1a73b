/-
  The deferred part of Feed.
-/
import Derived.Test.YtibeiggedmabkaaDoorSXA
import Derived.Defers
import Derived.Recover
namespace Go.Proofs.YtibeiggedmabkaaDoor
open Go.RowKit
set_option linter.unusedVariables false
set_option linter.unusedSimpArgs false
theorem wp_tmps {P : Program} {c : Code} {Q : Exit → Act → World → Prop} {T T' : Array Value} {w : World} (h : T = T') (hw : Code.wp P c Q { tmps := T', defers := [] } w) : Code.wp P c Q { tmps := T, defers := [] } w := by
  subst h
  exact hw
set_option maxHeartbeats 8000000 in
set_option maxRecDepth 100000 in
theorem feed_catch (y0 y1 y2 : TypeId) (c0 c1 c2 b gl n c : Nat) (p : Option Addr) (d : Int) (en : Bool) (er pl : Int) (ka : Option Addr) (kn kc : Nat) (x1 x2 : Value) (e q : Int) (w : World) (h0 : Blk w c0 #[.pointer (some ⟨b, 0, none⟩)] y0) (h1 : Blk w c1 #[x1] y1) (h2 : Blk w c2 #[x2] y2) (h : Blk w b (rdC p (.slice (some ⟨gl, 0, none⟩) n c) d en er pl) 63) (hn : 0 < n) (hk : w.cell? ⟨gl, 6, none⟩ = some (.slice ka kn kc)) (hf : w.frozen? ⟨gl, 6, none⟩ = false) (n0b : c0 ≠ b) (n0g : c0 ≠ gl) (n01 : c0 ≠ c1) (n02 : c0 ≠ c2) (n12 : c1 ≠ c2) (n1b : c1 ≠ b) (n1g : c1 ≠ gl) (n2b : c2 ≠ b) (n2g : c2 ≠ gl) (ngb : gl ≠ b) (he : e ≠ 0) : CallsD Tryd.prog 28 #[.pointer (some ⟨c0, 0, none⟩), .pointer (some ⟨c1, 0, none⟩), .pointer (some ⟨c2, 0, none⟩)] (.panicking (flt e q)) w fun r u' w' => r = .returned (.tuple #[]) ∧ u' = .panicking [{ v := .iface 61 (.agg #[.int .i64 e, .int .i64 q]), recovered := true }] ∧ Blk w' c1 #[.slice ka kn kc] y1 ∧ Blk w' c2 #[.int .i64 e] y2 ∧ Blk w' b (rdC none (.slice none 0 0) d true e q) 63 ∧ Kp (fun k => k = b ∨ k = gl ∨ k = c1 ∨ k = c2) w w' := by
  unfold flt
  refine callsD_of_wpS Tryd.func28 rfl fun c₀ cs hu => ?_
  apply wpS_seq
  apply wpS_region
  simp [wpOpsS, go_sem, recoverD, hu, Tryd.ntmps28, Exit.thenS]
  refine (caught_some e q w).mono ?_
  rintro r w1 ⟨rfl, b1⟩
  simp [wpOpsS, go_sem]
  refine wpS_of_wp ?_
  refine wp_tmps (T' := #[.pointer (some ⟨c0, 0, none⟩), .pointer (some ⟨c1, 0, none⟩), .pointer (some ⟨c2, 0, none⟩), .pointer (some ⟨w1.heap.size, 0, none⟩), .iface 61 (.agg #[.int .i64 e, .int .i64 q]), .agg #[.int .i64 e, .int .i64 q], undef, undef, undef, undef, undef, undef, undef, undef, undef]) (by rfl) ?_
  have bA := below_alloc (w := w1) (.cells #[.int .i64 e, .int .i64 q] 61)
  have qF := Blk.new w1 #[.int .i64 e, .int .i64 q] 61
  have bT := b1.trans (bA.mono b1.size)
  have hgl := World.block_lt_of_cell? w _ hk
  have hf1 : w.heap.size ≤ w1.heap.size := b1.size
  have l0 := h0.lt
  have l1 := h1.lt
  have l2 := h2.lt
  have lb := h.lt
  replace h0 := h0.later bT
  replace h1 := h1.later bT
  replace h2 := h2.later bT
  replace h := h.later bT
  replace hk := below_cell bT hk
  replace hf := (World.frozen?_of_block (w := w) (a := ⟨gl, 6, none⟩) (bT.block gl hgl)).trans hf
  have kz : Kp (fun k => k = b ∨ k = gl ∨ k = c1 ∨ k = c2) w (w1.alloc (.cells #[.int .i64 e, .int .i64 q] 61)) := Kp.of bT
  have hgg := bT.block gl hgl
  clear bT bA b1
  generalize w1.alloc (.cells #[.int .i64 e, .int .i64 q] 61) = W at qF h0 h1 h2 h hk hf kz hgg ⊢
  generalize w1.heap.size = f at qF hf1 ⊢
  have HG := hideT hgg
  clear hgg
  go_wp2_with fail
  have u0 := h0.cell 0
  have z0 := qF.cell 0
  simp only [rdC, List.getElem?_toArray, List.getElem?_cons_zero, List.getElem?_cons_succ] at u0 z0
  have bD : Below W.heap.size W W.drew := (Below.refl _ _).drew
  have ku0 := below_cell bD u0
  have kz0 := below_cell bD z0
  replace hf := (World.frozen?_of_block (w := _) (a := ⟨gl, 6, none⟩) (bD.block gl (World.block_lt_of_cell? _ _ hk))).trans hf
  replace HG := hideT ((bD.block gl (World.block_lt_of_cell? _ _ hk)).trans HG.out)
  replace h0 := h0.later bD
  replace h1 := h1.later bD
  replace h2 := h2.later bD
  replace h := h.later bD
  replace qF := qF.later bD
  replace hk := below_cell bD hk
  replace kz := kz.trans (Kp.of (X := (fun k => k = b ∨ k = gl ∨ k = c1 ∨ k = c2)) bD) (fun _ _ c => c)
  refine wp_region_held_drew (S := fun w' => w'.cell? ⟨c0, 0, none⟩ = some (.pointer (some ⟨b, 0, none⟩)) ∧ w'.cell? ⟨f, 0, none⟩ = some (.int .i64 e)) (by kernel_rfl) ⟨ku0, kz0⟩ (fun hHeld => ?_)
  clear ku0 kz0
  generalize W.drew = w0 at bD hk hf kz HG h0 h1 h2 h qF hHeld ⊢
  clear bD
  clear u0 z0
  refine take' 0 (v := ?_) rfl (by kernel_rfl) (by kernel_rfl) (by kernel_rfl) (fun _ _ _ h => h) (Or.inl ⟨by rfl, ?_⟩) (by assumption) ?_
  rotate_left
  · intro w9 hSw
    go_simp
    first | done | with_reducible rfl
  simp only [Act.put, List.setIfInBounds_toArray, List.set_cons_zero, List.set_cons_succ]
  refine take' 2 (v := ?_) rfl (by kernel_rfl) (by kernel_rfl) (by kernel_rfl) (fun _ _ _ h => h) (Or.inl ⟨by rfl, ?_⟩) (by assumption) ?_
  rotate_left
  · intro w9 hSw
    go_simp
    first | done | with_reducible rfl
  simp only [Act.put, List.setIfInBounds_toArray, List.set_cons_zero, List.set_cons_succ]
  refine take' 3 (v := ?_) rfl (by kernel_rfl) (by kernel_rfl) (by kernel_rfl) (fun _ _ _ h => h) (Or.inl ⟨by rfl, ?_⟩) (by assumption) ?_
  rotate_left
  · intro w9 hSw
    go_simp
    first | done | with_reducible rfl
  simp only [Act.put, List.setIfInBounds_toArray, List.set_cons_zero, List.set_cons_succ]
  refine wpAnyH_ready (rs := [1]) (by kernel_rfl) (by simp) ?_
  refine cons' rfl (fun KK hKK => ?_)
  go_simp
  refine (rtell_is b p gl n c d en er pl (.slice ka kn kc) w0 h hn hk hf).mono ?_
  rintro r2 w2 ⟨rfl, rfl⟩
  have ks := Ch.set (c := gl) (o := 6) (W := w0) (.slice none 0 0)
  have hH2 := (⟨ks.cell n0g hHeld.1, ks.cell (by omega) hHeld.2⟩ : _ ∧ _)
  replace h0 := h0.ch ks n0g
  replace h1 := h1.ch ks n1g
  replace h2 := h2.ch ks n2g
  replace h := h.ch ks (Ne.symm ngb)
  replace qF := qF.ch ks (by omega)
  replace kz := kz.trans (Kp.ch (X := fun i => i = gl) ks rfl) (fun i hi e => Or.inr (Or.inl e))
  replace HG := hideT (heap_set_congr (o := 6) HG.out (.slice none 0 0))
  clear ks hk hf
  generalize w0.setCell ⟨gl, 6, none⟩ (.slice none 0 0) = w3 at hH2 h0 h1 h2 h qF kz HG ⊢
  go_wp2_with fail
  refine hKK.out _ _ hH2 ?_
  clear hHeld
  intro hHeld
  clear hKK KK
  try simp only [Act.put, List.setIfInBounds_toArray, List.set_cons_zero, List.set_cons_succ]
  clear hH2
  refine wpAnyH_ready (rs := [4]) (by kernel_rfl) (by simp) ?_
  refine cons' rfl (fun KK hKK => ?_)
  have fz := fun o => h1.frozen o
  have u1 := h1.cell 0
  simp only [rdC, List.getElem?_toArray, List.getElem?_cons_zero, List.getElem?_cons_succ] at u1
  go_simp
  clear fz u1
  obtain ⟨ks, q8⟩ := h1.set (o := 0) (.slice ka kn kc)
  have h1b : Blk (w3.setCell ⟨c1, 0, none⟩ (.slice ka kn kc)) c1 #[.slice ka kn kc] y1 := by simpa using q8
  clear h1 q8
  have h1 := h1b
  clear h1b
  have hH2 := (⟨ks.cell n01 hHeld.1, ks.cell (by omega) hHeld.2⟩ : _ ∧ _)
  replace h0 := h0.ch ks n01
  replace h2 := h2.ch ks (Ne.symm n12)
  replace h := h.ch ks (Ne.symm n1b)
  replace qF := qF.ch ks (by omega)
  replace kz := kz.trans (Kp.ch (X := fun i => i = c1) ks rfl) (fun i hi e => Or.inr (Or.inr (Or.inl e)))
  replace HG := hideT ((ks.other gl (Ne.symm n1g)).trans HG.out)
  clear ks
  generalize w3.setCell ⟨c1, 0, none⟩ (.slice ka kn kc) = w4 at hH2 h0 h1 h2 h qF kz HG ⊢
  refine hKK.out _ _ hH2 ?_
  clear hHeld
  intro hHeld
  clear hKK KK
  try simp only [Act.put, List.setIfInBounds_toArray, List.set_cons_zero, List.set_cons_succ]
  clear hH2
  refine wpAnyH_ready (rs := [5]) (by kernel_rfl) (by simp) ?_
  refine cons' rfl (fun KK hKK => ?_)
  have fz := fun o => h2.frozen o
  have u1 := h2.cell 0
  simp only [rdC, List.getElem?_toArray, List.getElem?_cons_zero, List.getElem?_cons_succ] at u1
  go_simp
  clear fz u1
  obtain ⟨ks, q8⟩ := h2.set (o := 0) (.int .i64 e)
  have h2b : Blk (w4.setCell ⟨c2, 0, none⟩ (.int .i64 e)) c2 #[.int .i64 e] y2 := by simpa using q8
  clear h2 q8
  have h2 := h2b
  clear h2b
  have hH2 := (⟨ks.cell n02 hHeld.1, ks.cell (by omega) hHeld.2⟩ : _ ∧ _)
  replace h0 := h0.ch ks n02
  replace h1 := h1.ch ks n12
  replace h := h.ch ks (Ne.symm n2b)
  replace qF := qF.ch ks (by omega)
  replace kz := kz.trans (Kp.ch (X := fun i => i = c2) ks rfl) (fun i hi e => Or.inr (Or.inr (Or.inr e)))
  replace HG := hideT ((ks.other gl (Ne.symm n2g)).trans HG.out)
  clear ks
  generalize w4.setCell ⟨c2, 0, none⟩ (.int .i64 e) = w5 at hH2 h0 h1 h2 h qF kz HG ⊢
  refine hKK.out _ _ hH2 ?_
  clear hHeld
  intro hHeld
  clear hKK KK
  try simp only [Act.put, List.setIfInBounds_toArray, List.set_cons_zero, List.set_cons_succ]
  clear hH2
  refine wpAnyH_done (by kernel_rfl) ?_ _
  clear hHeld
  have t0 := h0.cell 0
  have t1 := qF.cell 0
  have t2 := qF.cell 1
  have t3 := h2.cell 0
  simp only [rdC, List.getElem?_toArray, List.getElem?_cons_zero, List.getElem?_cons_succ] at t0 t1 t2 t3
  have xe : (e == 0) = false := by rw [beq_eq_false_iff_ne]; exact he
  have HE := hideT he
  clear he
  go_wp2_with fail
  refine (rstop_is b p _ d en er pl e q w5 h).mono ?_
  rintro r2 w6 ⟨rfl, q6, hsz, hbb, o1, o2, o3⟩
  have k6 : Kp (fun k => k = b) w5 w6 := ⟨o1, o2, o3, hsz, hbb⟩
  go_wp2
  exact ⟨rfl, _, rfl, _, by simp [results, Tryd.results28, go_sem], rfl, rfl, k6.blk h1 n1b, k6.blk h2 n2b, q6, kz.trans k6 (fun i hi e => Or.inl e)⟩

set_option maxHeartbeats 8000000 in
set_option maxRecDepth 100000 in
theorem feed_idle (y0 y1 y2 : TypeId) (c0 c1 c2 b gl n c : Nat) (p : Option Addr) (d : Int) (en : Bool) (er pl : Int) (ka : Option Addr) (kn kc : Nat) (x1 x2 : Value) (e q : Int) (w : World) (h0 : Blk w c0 #[.pointer (some ⟨b, 0, none⟩)] y0) (h1 : Blk w c1 #[x1] y1) (h2 : Blk w c2 #[x2] y2) (h : Blk w b (rdC p (.slice (some ⟨gl, 0, none⟩) n c) d en er pl) 63) (hn : 0 < n) (hk : w.cell? ⟨gl, 6, none⟩ = some (.slice ka kn kc)) (hf : w.frozen? ⟨gl, 6, none⟩ = false) (n0b : c0 ≠ b) (n0g : c0 ≠ gl) (n01 : c0 ≠ c1) (n02 : c0 ≠ c2) (n12 : c1 ≠ c2) (n1b : c1 ≠ b) (n1g : c1 ≠ gl) (n2b : c2 ≠ b) (n2g : c2 ≠ gl) (ngb : gl ≠ b) : CallsD Tryd.prog 28 #[.pointer (some ⟨c0, 0, none⟩), .pointer (some ⟨c1, 0, none⟩), .pointer (some ⟨c2, 0, none⟩)] (.returning) w fun r u' w' => r = .returned (.tuple #[]) ∧ u' = .returning ∧ Blk w' c1 #[.slice ka kn kc] y1 ∧ Blk w' c2 #[.int .i64 0] y2 ∧ Blk w' b (rdC p (.slice (some ⟨gl, 0, none⟩) n c) d en er pl) 63 ∧ w'.heap[gl]? = (w.setCell ⟨gl, 6, none⟩ (.slice none 0 0)).heap[gl]? ∧ Kp (fun k => k = b ∨ k = gl ∨ k = c1 ∨ k = c2) w w' := by
  refine callsD_of_wpS Tryd.func28 rfl fun c₀ cs hu => ?_
  apply wpS_seq
  apply wpS_region
  simp [wpOpsS, go_sem, recoverD, hu, Tryd.ntmps28, Exit.thenS]
  refine (caught_nil w).mono ?_
  rintro r w1 ⟨rfl, b1⟩
  simp [wpOpsS, go_sem]
  refine wpS_of_wp ?_
  refine wp_tmps (T' := #[.pointer (some ⟨c0, 0, none⟩), .pointer (some ⟨c1, 0, none⟩), .pointer (some ⟨c2, 0, none⟩), .pointer (some ⟨w1.heap.size, 0, none⟩), .nilIface, .agg #[.int .i64 0, .int .i64 0], undef, undef, undef, undef, undef, undef, undef, undef, undef]) (by rfl) ?_
  have bA := below_alloc (w := w1) (.cells #[.int .i64 0, .int .i64 0] 61)
  have qF := Blk.new w1 #[.int .i64 0, .int .i64 0] 61
  have bT := b1.trans (bA.mono b1.size)
  have hgl := World.block_lt_of_cell? w _ hk
  have hf1 : w.heap.size ≤ w1.heap.size := b1.size
  have l0 := h0.lt
  have l1 := h1.lt
  have l2 := h2.lt
  have lb := h.lt
  replace h0 := h0.later bT
  replace h1 := h1.later bT
  replace h2 := h2.later bT
  replace h := h.later bT
  replace hk := below_cell bT hk
  replace hf := (World.frozen?_of_block (w := w) (a := ⟨gl, 6, none⟩) (bT.block gl hgl)).trans hf
  have kz : Kp (fun k => k = b ∨ k = gl ∨ k = c1 ∨ k = c2) w (w1.alloc (.cells #[.int .i64 0, .int .i64 0] 61)) := Kp.of bT
  have hgg := bT.block gl hgl
  clear bT bA b1
  generalize w1.alloc (.cells #[.int .i64 0, .int .i64 0] 61) = W at qF h0 h1 h2 h hk hf kz hgg ⊢
  generalize w1.heap.size = f at qF hf1 ⊢
  have HG := hideT hgg
  clear hgg
  go_wp2_with fail
  have u0 := h0.cell 0
  have z0 := qF.cell 0
  simp only [rdC, List.getElem?_toArray, List.getElem?_cons_zero, List.getElem?_cons_succ] at u0 z0
  have bD : Below W.heap.size W W.drew := (Below.refl _ _).drew
  have ku0 := below_cell bD u0
  have kz0 := below_cell bD z0
  replace hf := (World.frozen?_of_block (w := _) (a := ⟨gl, 6, none⟩) (bD.block gl (World.block_lt_of_cell? _ _ hk))).trans hf
  replace HG := hideT ((bD.block gl (World.block_lt_of_cell? _ _ hk)).trans HG.out)
  replace h0 := h0.later bD
  replace h1 := h1.later bD
  replace h2 := h2.later bD
  replace h := h.later bD
  replace qF := qF.later bD
  replace hk := below_cell bD hk
  replace kz := kz.trans (Kp.of (X := (fun k => k = b ∨ k = gl ∨ k = c1 ∨ k = c2)) bD) (fun _ _ c => c)
  refine wp_region_held_drew (S := fun w' => w'.cell? ⟨c0, 0, none⟩ = some (.pointer (some ⟨b, 0, none⟩)) ∧ w'.cell? ⟨f, 0, none⟩ = some (.int .i64 0)) (by kernel_rfl) ⟨ku0, kz0⟩ (fun hHeld => ?_)
  clear ku0 kz0
  generalize W.drew = w0 at bD hk hf kz HG h0 h1 h2 h qF hHeld ⊢
  clear bD
  clear u0 z0
  refine take' 0 (v := ?_) rfl (by kernel_rfl) (by kernel_rfl) (by kernel_rfl) (fun _ _ _ h => h) (Or.inl ⟨by rfl, ?_⟩) (by assumption) ?_
  rotate_left
  · intro w9 hSw
    go_simp
    first | done | with_reducible rfl
  simp only [Act.put, List.setIfInBounds_toArray, List.set_cons_zero, List.set_cons_succ]
  refine take' 2 (v := ?_) rfl (by kernel_rfl) (by kernel_rfl) (by kernel_rfl) (fun _ _ _ h => h) (Or.inl ⟨by rfl, ?_⟩) (by assumption) ?_
  rotate_left
  · intro w9 hSw
    go_simp
    first | done | with_reducible rfl
  simp only [Act.put, List.setIfInBounds_toArray, List.set_cons_zero, List.set_cons_succ]
  refine take' 3 (v := ?_) rfl (by kernel_rfl) (by kernel_rfl) (by kernel_rfl) (fun _ _ _ h => h) (Or.inl ⟨by rfl, ?_⟩) (by assumption) ?_
  rotate_left
  · intro w9 hSw
    go_simp
    first | done | with_reducible rfl
  simp only [Act.put, List.setIfInBounds_toArray, List.set_cons_zero, List.set_cons_succ]
  refine wpAnyH_ready (rs := [1]) (by kernel_rfl) (by simp) ?_
  refine cons' rfl (fun KK hKK => ?_)
  go_simp
  refine (rtell_is b p gl n c d en er pl (.slice ka kn kc) w0 h hn hk hf).mono ?_
  rintro r2 w2 ⟨rfl, rfl⟩
  have ks := Ch.set (c := gl) (o := 6) (W := w0) (.slice none 0 0)
  have hH2 := (⟨ks.cell n0g hHeld.1, ks.cell (by omega) hHeld.2⟩ : _ ∧ _)
  replace h0 := h0.ch ks n0g
  replace h1 := h1.ch ks n1g
  replace h2 := h2.ch ks n2g
  replace h := h.ch ks (Ne.symm ngb)
  replace qF := qF.ch ks (by omega)
  replace kz := kz.trans (Kp.ch (X := fun i => i = gl) ks rfl) (fun i hi e => Or.inr (Or.inl e))
  replace HG := hideT (heap_set_congr (o := 6) HG.out (.slice none 0 0))
  clear ks hk hf
  generalize w0.setCell ⟨gl, 6, none⟩ (.slice none 0 0) = w3 at hH2 h0 h1 h2 h qF kz HG ⊢
  go_wp2_with fail
  refine hKK.out _ _ hH2 ?_
  clear hHeld
  intro hHeld
  clear hKK KK
  try simp only [Act.put, List.setIfInBounds_toArray, List.set_cons_zero, List.set_cons_succ]
  clear hH2
  refine wpAnyH_ready (rs := [4]) (by kernel_rfl) (by simp) ?_
  refine cons' rfl (fun KK hKK => ?_)
  have fz := fun o => h1.frozen o
  have u1 := h1.cell 0
  simp only [rdC, List.getElem?_toArray, List.getElem?_cons_zero, List.getElem?_cons_succ] at u1
  go_simp
  clear fz u1
  obtain ⟨ks, q8⟩ := h1.set (o := 0) (.slice ka kn kc)
  have h1b : Blk (w3.setCell ⟨c1, 0, none⟩ (.slice ka kn kc)) c1 #[.slice ka kn kc] y1 := by simpa using q8
  clear h1 q8
  have h1 := h1b
  clear h1b
  have hH2 := (⟨ks.cell n01 hHeld.1, ks.cell (by omega) hHeld.2⟩ : _ ∧ _)
  replace h0 := h0.ch ks n01
  replace h2 := h2.ch ks (Ne.symm n12)
  replace h := h.ch ks (Ne.symm n1b)
  replace qF := qF.ch ks (by omega)
  replace kz := kz.trans (Kp.ch (X := fun i => i = c1) ks rfl) (fun i hi e => Or.inr (Or.inr (Or.inl e)))
  replace HG := hideT ((ks.other gl (Ne.symm n1g)).trans HG.out)
  clear ks
  generalize w3.setCell ⟨c1, 0, none⟩ (.slice ka kn kc) = w4 at hH2 h0 h1 h2 h qF kz HG ⊢
  refine hKK.out _ _ hH2 ?_
  clear hHeld
  intro hHeld
  clear hKK KK
  try simp only [Act.put, List.setIfInBounds_toArray, List.set_cons_zero, List.set_cons_succ]
  clear hH2
  refine wpAnyH_ready (rs := [5]) (by kernel_rfl) (by simp) ?_
  refine cons' rfl (fun KK hKK => ?_)
  have fz := fun o => h2.frozen o
  have u1 := h2.cell 0
  simp only [rdC, List.getElem?_toArray, List.getElem?_cons_zero, List.getElem?_cons_succ] at u1
  go_simp
  clear fz u1
  obtain ⟨ks, q8⟩ := h2.set (o := 0) (.int .i64 0)
  have h2b : Blk (w4.setCell ⟨c2, 0, none⟩ (.int .i64 0)) c2 #[.int .i64 0] y2 := by simpa using q8
  clear h2 q8
  have h2 := h2b
  clear h2b
  have hH2 := (⟨ks.cell n02 hHeld.1, ks.cell (by omega) hHeld.2⟩ : _ ∧ _)
  replace h0 := h0.ch ks n02
  replace h1 := h1.ch ks n12
  replace h := h.ch ks (Ne.symm n2b)
  replace qF := qF.ch ks (by omega)
  replace kz := kz.trans (Kp.ch (X := fun i => i = c2) ks rfl) (fun i hi e => Or.inr (Or.inr (Or.inr e)))
  replace HG := hideT ((ks.other gl (Ne.symm n2g)).trans HG.out)
  clear ks
  generalize w4.setCell ⟨c2, 0, none⟩ (.int .i64 0) = w5 at hH2 h0 h1 h2 h qF kz HG ⊢
  refine hKK.out _ _ hH2 ?_
  clear hHeld
  intro hHeld
  clear hKK KK
  try simp only [Act.put, List.setIfInBounds_toArray, List.set_cons_zero, List.set_cons_succ]
  clear hH2
  refine wpAnyH_done (by kernel_rfl) ?_ _
  clear hHeld
  have t0 := h0.cell 0
  have t1 := qF.cell 0
  have t2 := qF.cell 1
  have t3 := h2.cell 0
  simp only [rdC, List.getElem?_toArray, List.getElem?_cons_zero, List.getElem?_cons_succ] at t0 t1 t2 t3
  go_wp2
  refine ⟨rfl, .returning, by cases c₀; simp_all, _, by simp [results, Tryd.results28, go_sem], rfl, rfl, h1, h2, h, HG.out, kz⟩

end Go.Proofs.YtibeiggedmabkaaDoor
