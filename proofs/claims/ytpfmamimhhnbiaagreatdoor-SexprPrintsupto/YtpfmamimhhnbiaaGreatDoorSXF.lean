/-
  Feed.
-/
import Derived.Test.YtpfmamimhhnbiaaGreatDoorSXB
namespace Go.Proofs.YtpfmamimhhnbiaaGreatDoor
open Go.RowKit
set_option linter.unusedVariables false
set_option linter.unusedSimpArgs false
set_option maxHeartbeats 8000000 in
set_option maxRecDepth 100000 in
theorem end_catch (y0 y1 y2 y3 : TypeId) (c0 c1 c2 c3 b gl n c : Nat) (p : Option Addr) (d : Int) (en : Bool) (er pl : Int) (ka : Option Addr) (kn kc : Nat) (x1 x2 x3 : Value) (e q : Int) (w : World) (h0 : Blk w c0 #[.pointer (some ⟨b, 0, none⟩)] y0) (h1 : Blk w c1 #[x1] y1) (h2 : Blk w c2 #[x2] y2) (h3 : Blk w c3 #[x3] y3) (h : Blk w b (rdC p (.slice (some ⟨gl, 0, none⟩) n c) d en er pl) 65) (hn : 0 < n) (hk : w.cell? ⟨gl, 6, none⟩ = some (.slice ka kn kc)) (hf : w.frozen? ⟨gl, 6, none⟩ = false) (n0b : c0 ≠ b) (n0g : c0 ≠ gl) (n01 : c0 ≠ c1) (n02 : c0 ≠ c2) (n12 : c1 ≠ c2) (n1b : c1 ≠ b) (n1g : c1 ≠ gl) (n2b : c2 ≠ b) (n2g : c2 ≠ gl) (ngb : gl ≠ b) (n03 : c0 ≠ c3) (n13 : c1 ≠ c3) (n23 : c2 ≠ c3) (n3b : c3 ≠ b) (n3g : c3 ≠ gl) : CallsD Tryz.prog 40 #[.pointer (some ⟨c0, 0, none⟩), .pointer (some ⟨c1, 0, none⟩), .pointer (some ⟨c2, 0, none⟩), .pointer (some ⟨c3, 0, none⟩)] (.panicking (flt e q)) w fun r u' w' => r = .returned (.tuple #[]) ∧ u' = .panicking [{ v := .iface 35 (.agg #[.int .i64 e, .int .i64 q]), recovered := true }] ∧ Blk w' c1 #[.slice ka kn kc] y1 ∧ Blk w' c2 #[.int .i64 e] y2 ∧ Blk w' c3 #[.int .i64 q] y3 ∧ Blk w' b (rdC none (.slice none 0 0) d true e q) 65 ∧ Kp (fun k => k = b ∨ k = gl ∨ k = c1 ∨ k = c2 ∨ k = c3) w w' := by
  unfold flt
  refine callsD_of_wpS Tryz.func40 rfl fun c₀ cs hu => ?_
  apply wpS_seq
  apply wpS_region
  simp [wpOpsS, go_sem, recoverD, hu, Tryz.ntmps40, Exit.thenS]
  refine (caught_some e q w).mono ?_
  rintro r w1 ⟨rfl, b1⟩
  simp [wpOpsS, go_sem]
  refine wpS_of_wp ?_
  refine wp_tmps (T' := #[.pointer (some ⟨c0, 0, none⟩), .pointer (some ⟨c1, 0, none⟩), .pointer (some ⟨c2, 0, none⟩), .pointer (some ⟨c3, 0, none⟩), .pointer (some ⟨w1.heap.size, 0, none⟩), .iface 35 (.agg #[.int .i64 e, .int .i64 q]), .agg #[.int .i64 e, .int .i64 q], undef, undef, undef, undef, undef, undef, undef, undef, undef]) (by rfl) ?_
  have bA := below_alloc (w := w1) (.cells #[.int .i64 e, .int .i64 q] 35)
  have qF := Blk.new w1 #[.int .i64 e, .int .i64 q] 35
  have bT := b1.trans (bA.mono b1.size)
  have hgl := World.block_lt_of_cell? w _ hk
  have hf1 : w.heap.size ≤ w1.heap.size := b1.size
  have l0 := h0.lt
  have l1 := h1.lt
  have l2 := h2.lt
  have l3 := h3.lt
  replace h3 := h3.later bT
  have lb := h.lt
  replace h0 := h0.later bT
  replace h1 := h1.later bT
  replace h2 := h2.later bT
  replace h := h.later bT
  replace hk := below_cell bT hk
  replace hf := (World.frozen?_of_block (w := w) (a := ⟨gl, 6, none⟩) (bT.block gl hgl)).trans hf
  have kz : Kp (fun k => k = b ∨ k = gl ∨ k = c1 ∨ k = c2 ∨ k = c3) w (w1.alloc (.cells #[.int .i64 e, .int .i64 q] 35)) := Kp.of bT
  have hgg := bT.block gl hgl
  clear bT bA b1
  generalize w1.alloc (.cells #[.int .i64 e, .int .i64 q] 35) = W at qF h0 h1 h2 h3 h hk hf kz hgg ⊢
  generalize w1.heap.size = f at qF hf1 ⊢
  have HG := hideT hgg
  clear hgg
  go_wp2_with fail
  have u0 := h0.cell 0
  have z0 := qF.cell 0
  have z1 := qF.cell 1
  simp only [rdC, List.getElem?_toArray, List.getElem?_cons_zero, List.getElem?_cons_succ] at u0 z0 z1
  have bD : Below W.heap.size W W.drew := (Below.refl _ _).drew
  have ku0 := below_cell bD u0
  have kz0 := below_cell bD z0
  have kz1 := below_cell bD z1
  replace hf := (World.frozen?_of_block (w := _) (a := ⟨gl, 6, none⟩) (bD.block gl (World.block_lt_of_cell? _ _ hk))).trans hf
  replace HG := hideT ((bD.block gl (World.block_lt_of_cell? _ _ hk)).trans HG.out)
  replace h0 := h0.later bD
  replace h1 := h1.later bD
  replace h2 := h2.later bD
  replace h3 := h3.later bD
  replace h := h.later bD
  replace qF := qF.later bD
  replace hk := below_cell bD hk
  replace kz := kz.trans (Kp.of (X := (fun k => k = b ∨ k = gl ∨ k = c1 ∨ k = c2 ∨ k = c3)) bD) (fun _ _ c => c)
  refine wp_region_held_drew (S := fun w' => w'.cell? ⟨c0, 0, none⟩ = some (.pointer (some ⟨b, 0, none⟩)) ∧ w'.cell? ⟨f, 0, none⟩ = some (.int .i64 e) ∧ w'.cell? ⟨f, 1, none⟩ = some (.int .i64 q)) (by kernel_rfl) ⟨ku0, kz0, kz1⟩ (fun hHeld => ?_)
  clear ku0 kz0 kz1
  generalize W.drew = w0 at bD hk hf kz HG h0 h1 h2 h3 h qF hHeld ⊢
  clear bD
  clear u0 z0 z1
  refine take' 0 (v := ?_) rfl (by kernel_rfl) (by kernel_rfl) (by kernel_rfl) (fun _ _ _ h => h) (Or.inl ⟨by rfl, ?_⟩) (by assumption) ?_
  rotate_left
  · intro w9 hSw
    go_simp
    first | done | with_reducible rfl
  simp only [Act.put, List.setIfInBounds_toArray, List.set_cons_zero, List.set_cons_succ]
  refine take' 2 (v := ?_) rfl (by kernel_rfl) (by kernel_rfl) (by kernel_rfl) (fun _ _ _ h => h) (Or.inl ⟨by rfl, ?_⟩) (by assumption) ?_
  rotate_left
  · intro w9 hSw
    go_simp
    first | done | with_reducible rfl
  simp only [Act.put, List.setIfInBounds_toArray, List.set_cons_zero, List.set_cons_succ]
  refine take' 3 (v := ?_) rfl (by kernel_rfl) (by kernel_rfl) (by kernel_rfl) (fun _ _ _ h => h) (Or.inl ⟨by rfl, ?_⟩) (by assumption) ?_
  rotate_left
  · intro w9 hSw
    go_simp
    first | done | with_reducible rfl
  simp only [Act.put, List.setIfInBounds_toArray, List.set_cons_zero, List.set_cons_succ]
  refine take' 4 (v := ?_) rfl (by kernel_rfl) (by kernel_rfl) (by kernel_rfl) (fun _ _ _ h => h) (Or.inl ⟨by rfl, ?_⟩) (by assumption) ?_
  rotate_left
  · intro w9 hSw
    go_simp
    first | done | with_reducible rfl
  simp only [Act.put, List.setIfInBounds_toArray, List.set_cons_zero, List.set_cons_succ]
  refine take' 5 (v := ?_) rfl (by kernel_rfl) (by kernel_rfl) (by kernel_rfl) (fun _ _ _ h => h) (Or.inl ⟨by rfl, ?_⟩) (by assumption) ?_
  rotate_left
  · intro w9 hSw
    go_simp
    first | done | with_reducible rfl
  simp only [Act.put, List.setIfInBounds_toArray, List.set_cons_zero, List.set_cons_succ]
  refine wpAnyH_ready (rs := [1]) (by kernel_rfl) (by simp) ?_
  refine cons' rfl (fun KK hKK => ?_)
  go_simp
  refine (rtell_is b p gl n c d en er pl (.slice ka kn kc) w0 h hn hk hf).mono ?_
  rintro r2 w2 ⟨rfl, rfl⟩
  have ks := Ch.set (c := gl) (o := 6) (W := w0) (.slice none 0 0)
  have hH2 := (⟨ks.cell n0g hHeld.1, ks.cell (by omega) hHeld.2.1, ks.cell (by omega) hHeld.2.2⟩ : _ ∧ _ ∧ _)
  replace h0 := h0.ch ks n0g
  replace h1 := h1.ch ks n1g
  replace h2 := h2.ch ks n2g
  replace h3 := h3.ch ks n3g
  replace h := h.ch ks (Ne.symm ngb)
  replace qF := qF.ch ks (by omega)
  replace kz := kz.trans (Kp.ch (X := fun i => i = gl) ks rfl) (fun i hi e => Or.inr (Or.inl e))
  replace HG := hideT (heap_set_congr (o := 6) HG.out (.slice none 0 0))
  clear ks hk hf
  generalize w0.setCell ⟨gl, 6, none⟩ (.slice none 0 0) = w3 at hH2 h0 h1 h2 h3 h qF kz HG ⊢
  go_wp2_with fail
  refine hKK.out _ _ hH2 ?_
  clear hHeld
  intro hHeld
  clear hKK KK
  try simp only [Act.put, List.setIfInBounds_toArray, List.set_cons_zero, List.set_cons_succ]
  clear hH2
  refine wpAnyH_ready (rs := [6]) (by kernel_rfl) (by simp) ?_
  refine cons' rfl (fun KK hKK => ?_)
  have fz := fun o => h1.frozen o
  have u1 := h1.cell 0
  simp only [rdC, List.getElem?_toArray, List.getElem?_cons_zero, List.getElem?_cons_succ] at u1
  go_simp
  clear fz u1
  obtain ⟨ks, q8⟩ := h1.set (o := 0) (.slice ka kn kc)
  have h1b : Blk (w3.setCell ⟨c1, 0, none⟩ (.slice ka kn kc)) c1 #[.slice ka kn kc] y1 := by simpa using q8
  clear h1 q8
  have h1 := h1b
  clear h1b
  have hH2 := (⟨ks.cell n01 hHeld.1, ks.cell (by omega) hHeld.2.1, ks.cell (by omega) hHeld.2.2⟩ : _ ∧ _ ∧ _)
  replace h0 := h0.ch ks n01
  replace h2 := h2.ch ks (Ne.symm n12)
  replace h3 := h3.ch ks (Ne.symm n13)
  replace h := h.ch ks (Ne.symm n1b)
  replace qF := qF.ch ks (by omega)
  replace kz := kz.trans (Kp.ch (X := fun i => i = c1) ks rfl) (fun i hi e => Or.inr (Or.inr (Or.inl e)))
  replace HG := hideT ((ks.other gl (Ne.symm n1g)).trans HG.out)
  clear ks
  generalize w3.setCell ⟨c1, 0, none⟩ (.slice ka kn kc) = w4 at hH2 h0 h1 h2 h3 h qF kz HG ⊢
  refine hKK.out _ _ hH2 ?_
  clear hHeld
  intro hHeld
  clear hKK KK
  try simp only [Act.put, List.setIfInBounds_toArray, List.set_cons_zero, List.set_cons_succ]
  clear hH2
  refine wpAnyH_ready (rs := [7]) (by kernel_rfl) (by simp) ?_
  refine cons' rfl (fun KK hKK => ?_)
  have fz := fun o => h2.frozen o
  have u1 := h2.cell 0
  simp only [rdC, List.getElem?_toArray, List.getElem?_cons_zero, List.getElem?_cons_succ] at u1
  go_simp
  clear fz u1
  obtain ⟨ks, q8⟩ := h2.set (o := 0) (.int .i64 e)
  have h2b : Blk (w4.setCell ⟨c2, 0, none⟩ (.int .i64 e)) c2 #[.int .i64 e] y2 := by simpa using q8
  clear h2 q8
  have h2 := h2b
  clear h2b
  have hH2 := (⟨ks.cell n02 hHeld.1, ks.cell (by omega) hHeld.2.1, ks.cell (by omega) hHeld.2.2⟩ : _ ∧ _ ∧ _)
  replace h0 := h0.ch ks n02
  replace h1 := h1.ch ks n12
  replace h3 := h3.ch ks (Ne.symm n23)
  replace h := h.ch ks (Ne.symm n2b)
  replace qF := qF.ch ks (by omega)
  replace kz := kz.trans (Kp.ch (X := fun i => i = c2) ks rfl) (fun i hi e => Or.inr (Or.inr (Or.inr (Or.inl e))))
  replace HG := hideT ((ks.other gl (Ne.symm n2g)).trans HG.out)
  clear ks
  generalize w4.setCell ⟨c2, 0, none⟩ (.int .i64 e) = w5 at hH2 h0 h1 h2 h3 h qF kz HG ⊢
  refine hKK.out _ _ hH2 ?_
  clear hHeld
  intro hHeld
  clear hKK KK
  try simp only [Act.put, List.setIfInBounds_toArray, List.set_cons_zero, List.set_cons_succ]
  clear hH2
  refine wpAnyH_ready (rs := [8]) (by kernel_rfl) (by simp) ?_
  refine cons' rfl (fun KK hKK => ?_)
  have fz := fun o => h3.frozen o
  have u1 := h3.cell 0
  simp only [rdC, List.getElem?_toArray, List.getElem?_cons_zero, List.getElem?_cons_succ] at u1
  go_simp
  clear fz u1
  obtain ⟨ks, q8⟩ := h3.set (o := 0) (.int .i64 q)
  have h3b : Blk (w5.setCell ⟨c3, 0, none⟩ (.int .i64 q)) c3 #[.int .i64 q] y3 := by simpa using q8
  clear h3 q8
  have h3 := h3b
  clear h3b
  have hH2 := (⟨ks.cell n03 hHeld.1, ks.cell (by omega) hHeld.2.1, ks.cell (by omega) hHeld.2.2⟩ : _ ∧ _ ∧ _)
  replace h0 := h0.ch ks n03
  replace h1 := h1.ch ks n13
  replace h2 := h2.ch ks n23
  replace h := h.ch ks (Ne.symm n3b)
  replace qF := qF.ch ks (by omega)
  replace kz := kz.trans (Kp.ch (X := fun i => i = c3) ks rfl) (fun i hi e => Or.inr (Or.inr (Or.inr (Or.inr e))))
  replace HG := hideT ((ks.other gl (Ne.symm n3g)).trans HG.out)
  clear ks
  generalize w5.setCell ⟨c3, 0, none⟩ (.int .i64 q) = w7 at hH2 h0 h1 h2 h3 h qF kz HG ⊢
  refine hKK.out _ _ hH2 ?_
  clear hHeld
  intro hHeld
  clear hKK KK
  try simp only [Act.put, List.setIfInBounds_toArray, List.set_cons_zero, List.set_cons_succ]
  clear hH2
  refine wpAnyH_done (by kernel_rfl) ?_ _
  clear hHeld
  have t0 := h0.cell 0
  have t1 := qF.cell 0
  have t2 := qF.cell 1
  simp only [rdC, List.getElem?_toArray, List.getElem?_cons_zero, List.getElem?_cons_succ] at t0 t1 t2
  go_wp2_with fail
  refine (rstop_is b p _ d en er pl e q w7 h).mono ?_
  rintro r2 w6 ⟨rfl, q6, hsz, hbb, o1, o2, o3⟩
  have k6 : Kp (fun k => k = b) w7 w6 := ⟨o1, o2, o3, hsz, hbb⟩
  go_wp2
  exact ⟨rfl, _, rfl, _, by simp [results, Tryz.results40, go_sem], rfl, rfl, k6.blk h1 n1b, k6.blk h2 n2b, k6.blk h3 n3b, q6, kz.trans k6 (fun i hi e => Or.inl e)⟩

set_option maxHeartbeats 8000000 in
set_option maxRecDepth 100000 in
theorem end_idle (y0 y1 y2 y3 : TypeId) (c0 c1 c2 c3 b gl n c : Nat) (p : Option Addr) (d : Int) (en : Bool) (er pl : Int) (ka : Option Addr) (kn kc : Nat) (x1 x2 x3 : Value) (e q : Int) (w : World) (h0 : Blk w c0 #[.pointer (some ⟨b, 0, none⟩)] y0) (h1 : Blk w c1 #[x1] y1) (h2 : Blk w c2 #[x2] y2) (h3 : Blk w c3 #[x3] y3) (h : Blk w b (rdC p (.slice (some ⟨gl, 0, none⟩) n c) d en er pl) 65) (hn : 0 < n) (hk : w.cell? ⟨gl, 6, none⟩ = some (.slice ka kn kc)) (hf : w.frozen? ⟨gl, 6, none⟩ = false) (n0b : c0 ≠ b) (n0g : c0 ≠ gl) (n01 : c0 ≠ c1) (n02 : c0 ≠ c2) (n12 : c1 ≠ c2) (n1b : c1 ≠ b) (n1g : c1 ≠ gl) (n2b : c2 ≠ b) (n2g : c2 ≠ gl) (ngb : gl ≠ b) (n03 : c0 ≠ c3) (n13 : c1 ≠ c3) (n23 : c2 ≠ c3) (n3b : c3 ≠ b) (n3g : c3 ≠ gl) : CallsD Tryz.prog 40 #[.pointer (some ⟨c0, 0, none⟩), .pointer (some ⟨c1, 0, none⟩), .pointer (some ⟨c2, 0, none⟩), .pointer (some ⟨c3, 0, none⟩)] (.returning) w fun r u' w' => r = .returned (.tuple #[]) ∧ u' = .returning ∧ Blk w' c1 #[.slice ka kn kc] y1 ∧ Blk w' c2 #[.int .i64 0] y2 ∧ Blk w' c3 #[.int .i64 0] y3 ∧ Blk w' b (rdC none (.slice none 0 0) d true 0 0) 65 ∧ Kp (fun k => k = b ∨ k = gl ∨ k = c1 ∨ k = c2 ∨ k = c3) w w' := by
  refine callsD_of_wpS Tryz.func40 rfl fun c₀ cs hu => ?_
  apply wpS_seq
  apply wpS_region
  simp [wpOpsS, go_sem, recoverD, hu, Tryz.ntmps40, Exit.thenS]
  refine (caught_nil w).mono ?_
  rintro r w1 ⟨rfl, b1⟩
  simp [wpOpsS, go_sem]
  refine wpS_of_wp ?_
  refine wp_tmps (T' := #[.pointer (some ⟨c0, 0, none⟩), .pointer (some ⟨c1, 0, none⟩), .pointer (some ⟨c2, 0, none⟩), .pointer (some ⟨c3, 0, none⟩), .pointer (some ⟨w1.heap.size, 0, none⟩), .nilIface, .agg #[.int .i64 0, .int .i64 0], undef, undef, undef, undef, undef, undef, undef, undef, undef]) (by rfl) ?_
  have bA := below_alloc (w := w1) (.cells #[.int .i64 0, .int .i64 0] 35)
  have qF := Blk.new w1 #[.int .i64 0, .int .i64 0] 35
  have bT := b1.trans (bA.mono b1.size)
  have hgl := World.block_lt_of_cell? w _ hk
  have hf1 : w.heap.size ≤ w1.heap.size := b1.size
  have l0 := h0.lt
  have l1 := h1.lt
  have l2 := h2.lt
  have l3 := h3.lt
  replace h3 := h3.later bT
  have lb := h.lt
  replace h0 := h0.later bT
  replace h1 := h1.later bT
  replace h2 := h2.later bT
  replace h := h.later bT
  replace hk := below_cell bT hk
  replace hf := (World.frozen?_of_block (w := w) (a := ⟨gl, 6, none⟩) (bT.block gl hgl)).trans hf
  have kz : Kp (fun k => k = b ∨ k = gl ∨ k = c1 ∨ k = c2 ∨ k = c3) w (w1.alloc (.cells #[.int .i64 0, .int .i64 0] 35)) := Kp.of bT
  have hgg := bT.block gl hgl
  clear bT bA b1
  generalize w1.alloc (.cells #[.int .i64 0, .int .i64 0] 35) = W at qF h0 h1 h2 h3 h hk hf kz hgg ⊢
  generalize w1.heap.size = f at qF hf1 ⊢
  have HG := hideT hgg
  clear hgg
  go_wp2_with fail
  have u0 := h0.cell 0
  have z0 := qF.cell 0
  have z1 := qF.cell 1
  simp only [rdC, List.getElem?_toArray, List.getElem?_cons_zero, List.getElem?_cons_succ] at u0 z0 z1
  have bD : Below W.heap.size W W.drew := (Below.refl _ _).drew
  have ku0 := below_cell bD u0
  have kz0 := below_cell bD z0
  have kz1 := below_cell bD z1
  replace hf := (World.frozen?_of_block (w := _) (a := ⟨gl, 6, none⟩) (bD.block gl (World.block_lt_of_cell? _ _ hk))).trans hf
  replace HG := hideT ((bD.block gl (World.block_lt_of_cell? _ _ hk)).trans HG.out)
  replace h0 := h0.later bD
  replace h1 := h1.later bD
  replace h2 := h2.later bD
  replace h3 := h3.later bD
  replace h := h.later bD
  replace qF := qF.later bD
  replace hk := below_cell bD hk
  replace kz := kz.trans (Kp.of (X := (fun k => k = b ∨ k = gl ∨ k = c1 ∨ k = c2 ∨ k = c3)) bD) (fun _ _ c => c)
  refine wp_region_held_drew (S := fun w' => w'.cell? ⟨c0, 0, none⟩ = some (.pointer (some ⟨b, 0, none⟩)) ∧ w'.cell? ⟨f, 0, none⟩ = some (.int .i64 0) ∧ w'.cell? ⟨f, 1, none⟩ = some (.int .i64 0)) (by kernel_rfl) ⟨ku0, kz0, kz1⟩ (fun hHeld => ?_)
  clear ku0 kz0 kz1
  generalize W.drew = w0 at bD hk hf kz HG h0 h1 h2 h3 h qF hHeld ⊢
  clear bD
  clear u0 z0 z1
  refine take' 0 (v := ?_) rfl (by kernel_rfl) (by kernel_rfl) (by kernel_rfl) (fun _ _ _ h => h) (Or.inl ⟨by rfl, ?_⟩) (by assumption) ?_
  rotate_left
  · intro w9 hSw
    go_simp
    first | done | with_reducible rfl
  simp only [Act.put, List.setIfInBounds_toArray, List.set_cons_zero, List.set_cons_succ]
  refine take' 2 (v := ?_) rfl (by kernel_rfl) (by kernel_rfl) (by kernel_rfl) (fun _ _ _ h => h) (Or.inl ⟨by rfl, ?_⟩) (by assumption) ?_
  rotate_left
  · intro w9 hSw
    go_simp
    first | done | with_reducible rfl
  simp only [Act.put, List.setIfInBounds_toArray, List.set_cons_zero, List.set_cons_succ]
  refine take' 3 (v := ?_) rfl (by kernel_rfl) (by kernel_rfl) (by kernel_rfl) (fun _ _ _ h => h) (Or.inl ⟨by rfl, ?_⟩) (by assumption) ?_
  rotate_left
  · intro w9 hSw
    go_simp
    first | done | with_reducible rfl
  simp only [Act.put, List.setIfInBounds_toArray, List.set_cons_zero, List.set_cons_succ]
  refine take' 4 (v := ?_) rfl (by kernel_rfl) (by kernel_rfl) (by kernel_rfl) (fun _ _ _ h => h) (Or.inl ⟨by rfl, ?_⟩) (by assumption) ?_
  rotate_left
  · intro w9 hSw
    go_simp
    first | done | with_reducible rfl
  simp only [Act.put, List.setIfInBounds_toArray, List.set_cons_zero, List.set_cons_succ]
  refine take' 5 (v := ?_) rfl (by kernel_rfl) (by kernel_rfl) (by kernel_rfl) (fun _ _ _ h => h) (Or.inl ⟨by rfl, ?_⟩) (by assumption) ?_
  rotate_left
  · intro w9 hSw
    go_simp
    first | done | with_reducible rfl
  simp only [Act.put, List.setIfInBounds_toArray, List.set_cons_zero, List.set_cons_succ]
  refine wpAnyH_ready (rs := [1]) (by kernel_rfl) (by simp) ?_
  refine cons' rfl (fun KK hKK => ?_)
  go_simp
  refine (rtell_is b p gl n c d en er pl (.slice ka kn kc) w0 h hn hk hf).mono ?_
  rintro r2 w2 ⟨rfl, rfl⟩
  have ks := Ch.set (c := gl) (o := 6) (W := w0) (.slice none 0 0)
  have hH2 := (⟨ks.cell n0g hHeld.1, ks.cell (by omega) hHeld.2.1, ks.cell (by omega) hHeld.2.2⟩ : _ ∧ _ ∧ _)
  replace h0 := h0.ch ks n0g
  replace h1 := h1.ch ks n1g
  replace h2 := h2.ch ks n2g
  replace h3 := h3.ch ks n3g
  replace h := h.ch ks (Ne.symm ngb)
  replace qF := qF.ch ks (by omega)
  replace kz := kz.trans (Kp.ch (X := fun i => i = gl) ks rfl) (fun i hi e => Or.inr (Or.inl e))
  replace HG := hideT (heap_set_congr (o := 6) HG.out (.slice none 0 0))
  clear ks hk hf
  generalize w0.setCell ⟨gl, 6, none⟩ (.slice none 0 0) = w3 at hH2 h0 h1 h2 h3 h qF kz HG ⊢
  go_wp2_with fail
  refine hKK.out _ _ hH2 ?_
  clear hHeld
  intro hHeld
  clear hKK KK
  try simp only [Act.put, List.setIfInBounds_toArray, List.set_cons_zero, List.set_cons_succ]
  clear hH2
  refine wpAnyH_ready (rs := [6]) (by kernel_rfl) (by simp) ?_
  refine cons' rfl (fun KK hKK => ?_)
  have fz := fun o => h1.frozen o
  have u1 := h1.cell 0
  simp only [rdC, List.getElem?_toArray, List.getElem?_cons_zero, List.getElem?_cons_succ] at u1
  go_simp
  clear fz u1
  obtain ⟨ks, q8⟩ := h1.set (o := 0) (.slice ka kn kc)
  have h1b : Blk (w3.setCell ⟨c1, 0, none⟩ (.slice ka kn kc)) c1 #[.slice ka kn kc] y1 := by simpa using q8
  clear h1 q8
  have h1 := h1b
  clear h1b
  have hH2 := (⟨ks.cell n01 hHeld.1, ks.cell (by omega) hHeld.2.1, ks.cell (by omega) hHeld.2.2⟩ : _ ∧ _ ∧ _)
  replace h0 := h0.ch ks n01
  replace h2 := h2.ch ks (Ne.symm n12)
  replace h3 := h3.ch ks (Ne.symm n13)
  replace h := h.ch ks (Ne.symm n1b)
  replace qF := qF.ch ks (by omega)
  replace kz := kz.trans (Kp.ch (X := fun i => i = c1) ks rfl) (fun i hi e => Or.inr (Or.inr (Or.inl e)))
  replace HG := hideT ((ks.other gl (Ne.symm n1g)).trans HG.out)
  clear ks
  generalize w3.setCell ⟨c1, 0, none⟩ (.slice ka kn kc) = w4 at hH2 h0 h1 h2 h3 h qF kz HG ⊢
  refine hKK.out _ _ hH2 ?_
  clear hHeld
  intro hHeld
  clear hKK KK
  try simp only [Act.put, List.setIfInBounds_toArray, List.set_cons_zero, List.set_cons_succ]
  clear hH2
  refine wpAnyH_ready (rs := [7]) (by kernel_rfl) (by simp) ?_
  refine cons' rfl (fun KK hKK => ?_)
  have fz := fun o => h2.frozen o
  have u1 := h2.cell 0
  simp only [rdC, List.getElem?_toArray, List.getElem?_cons_zero, List.getElem?_cons_succ] at u1
  go_simp
  clear fz u1
  obtain ⟨ks, q8⟩ := h2.set (o := 0) (.int .i64 0)
  have h2b : Blk (w4.setCell ⟨c2, 0, none⟩ (.int .i64 0)) c2 #[.int .i64 0] y2 := by simpa using q8
  clear h2 q8
  have h2 := h2b
  clear h2b
  have hH2 := (⟨ks.cell n02 hHeld.1, ks.cell (by omega) hHeld.2.1, ks.cell (by omega) hHeld.2.2⟩ : _ ∧ _ ∧ _)
  replace h0 := h0.ch ks n02
  replace h1 := h1.ch ks n12
  replace h3 := h3.ch ks (Ne.symm n23)
  replace h := h.ch ks (Ne.symm n2b)
  replace qF := qF.ch ks (by omega)
  replace kz := kz.trans (Kp.ch (X := fun i => i = c2) ks rfl) (fun i hi e => Or.inr (Or.inr (Or.inr (Or.inl e))))
  replace HG := hideT ((ks.other gl (Ne.symm n2g)).trans HG.out)
  clear ks
  generalize w4.setCell ⟨c2, 0, none⟩ (.int .i64 0) = w5 at hH2 h0 h1 h2 h3 h qF kz HG ⊢
  refine hKK.out _ _ hH2 ?_
  clear hHeld
  intro hHeld
  clear hKK KK
  try simp only [Act.put, List.setIfInBounds_toArray, List.set_cons_zero, List.set_cons_succ]
  clear hH2
  refine wpAnyH_ready (rs := [8]) (by kernel_rfl) (by simp) ?_
  refine cons' rfl (fun KK hKK => ?_)
  have fz := fun o => h3.frozen o
  have u1 := h3.cell 0
  simp only [rdC, List.getElem?_toArray, List.getElem?_cons_zero, List.getElem?_cons_succ] at u1
  go_simp
  clear fz u1
  obtain ⟨ks, q8⟩ := h3.set (o := 0) (.int .i64 0)
  have h3b : Blk (w5.setCell ⟨c3, 0, none⟩ (.int .i64 0)) c3 #[.int .i64 0] y3 := by simpa using q8
  clear h3 q8
  have h3 := h3b
  clear h3b
  have hH2 := (⟨ks.cell n03 hHeld.1, ks.cell (by omega) hHeld.2.1, ks.cell (by omega) hHeld.2.2⟩ : _ ∧ _ ∧ _)
  replace h0 := h0.ch ks n03
  replace h1 := h1.ch ks n13
  replace h2 := h2.ch ks n23
  replace h := h.ch ks (Ne.symm n3b)
  replace qF := qF.ch ks (by omega)
  replace kz := kz.trans (Kp.ch (X := fun i => i = c3) ks rfl) (fun i hi e => Or.inr (Or.inr (Or.inr (Or.inr e))))
  replace HG := hideT ((ks.other gl (Ne.symm n3g)).trans HG.out)
  clear ks
  generalize w5.setCell ⟨c3, 0, none⟩ (.int .i64 0) = w7 at hH2 h0 h1 h2 h3 h qF kz HG ⊢
  refine hKK.out _ _ hH2 ?_
  clear hHeld
  intro hHeld
  clear hKK KK
  try simp only [Act.put, List.setIfInBounds_toArray, List.set_cons_zero, List.set_cons_succ]
  clear hH2
  refine wpAnyH_done (by kernel_rfl) ?_ _
  clear hHeld
  have t0 := h0.cell 0
  have t1 := qF.cell 0
  have t2 := qF.cell 1
  simp only [rdC, List.getElem?_toArray, List.getElem?_cons_zero, List.getElem?_cons_succ] at t0 t1 t2
  go_wp2_with fail
  refine (rstop_is b p _ d en er pl 0 0 w7 h).mono ?_
  rintro r2 w6 ⟨rfl, q6, hsz, hbb, o1, o2, o3⟩
  have k6 : Kp (fun k => k = b) w7 w6 := ⟨o1, o2, o3, hsz, hbb⟩
  go_wp2
  exact ⟨rfl, .returning, by cases c₀; simp_all, _, by simp [results, Tryz.results40, go_sem], rfl, rfl, k6.blk h1 n1b, k6.blk h2 n2b, k6.blk h3 n3b, q6, kz.trans k6 (fun i hi e => Or.inl e)⟩

end Go.Proofs.YtpfmamimhhnbiaaGreatDoor

namespace Go.Proofs.YtpfmamimhhnbiaaGreatDoor
open Go.RowKit
set_option linter.unusedVariables false
set_option linter.unusedSimpArgs false
theorem mk1 (w : World) : (Instr.makeSlice 24 (.int .i64 1) (.int .i64 1)).run Tryz.prog w = .ok (.slice (some ⟨w.heap.size, 0, none⟩) 1 1) (w.alloc (.cells #[.int .i64 0, .string ⟨#[]⟩, .int .i64 0, .int .i64 0, .int .i64 0, .int .i64 0, .slice none 0 0] 26)) := by
  first | kernel_rfl | rfl
theorem newS_is (w : World) : Calls Tryz.prog 31 #[] w fun r w' => r = .returned (.pointer (some ⟨w.heap.size, 0, none⟩)) ∧ w' = w.alloc (.cells sI.cells 86) := by
  go_enter Tryz.func31, Tryz.ntmps31
  go_wp2
  go_ret
  exact ⟨rfl, rfl⟩
set_option maxHeartbeats 4000000 in
set_option maxRecDepth 100000 in
theorem newR_is (w : World) : Calls Tryz.prog 24 #[] w fun r w' => ∃ b sc gl, r = .returned (.pointer (some ⟨b, 0, none⟩)) ∧ Blk w' b (rdC (some ⟨sc, 0, none⟩) (.slice (some ⟨gl, 0, none⟩) 1 1) 0 false 0 0) 65 ∧ Blk w' sc sI.cells 86 ∧ Blk w' gl #[.int .i64 0, .string ⟨#[]⟩, .int .i64 0, .int .i64 0, .int .i64 0, .int .i64 0, .slice none 0 0] 26 ∧ b ≠ sc ∧ b ≠ gl ∧ sc ≠ gl ∧ w.heap.size ≤ b ∧ w.heap.size ≤ sc ∧ w.heap.size ≤ gl ∧ Below w.heap.size w w' := by
  have hmk := mk1
  go_enter Tryz.func24, Tryz.ntmps24
  go_wp2_with fail
  have bD : Below w.heap.size w w.drew := (Below.refl _ _).drew
  refine wp_region_held_drew (S := fun w' => True) (by kernel_rfl) trivial (fun hHeld => ?_)
  generalize w.drew = w0 at bD  hHeld ⊢
  have hz := bD.size
  have hB := bD
  clear bD
  refine wpAnyH_ready (rs := [0, 1]) (by kernel_rfl) (by simp) ?_
  refine consTX rfl (fun KK hKK => ?_) ?_
  · skip
    go_simp
    refine (newS_is w0).mono ?_
    rintro r2 w2 ⟨rfl, rfl⟩
    have qS := Blk.new w0 sI.cells 86
    have bS := below_alloc (w := w0) (.cells sI.cells 86)
    have eS : w0.heap.size + 1 ≤ (w0.alloc (.cells sI.cells 86)).heap.size := by simp
    replace hB := hB.trans (bS.mono hB.size)
    clear bS
    generalize w0.alloc (.cells sI.cells 86) = w3 at qS eS hB ⊢
    generalize w0.heap.size = sc at qS eS hz ⊢
    go_wp2_with fail
    refine hKK.out _ _ hHeld ?_
    clear hHeld
    intro hHeld
    clear hKK KK
    try simp only [Act.put, List.setIfInBounds_toArray, List.set_cons_zero, List.set_cons_succ]
    refine wpAnyH_ready (rs := [1]) (by kernel_rfl) (by simp) ?_
    refine cons' rfl (fun KK hKK => ?_)
    go_simp
    have qG := Blk.new w3 #[.int .i64 0, .string ⟨#[]⟩, .int .i64 0, .int .i64 0, .int .i64 0, .int .i64 0, .slice none 0 0] 26
    have bG := below_alloc (w := w3) (.cells #[.int .i64 0, .string ⟨#[]⟩, .int .i64 0, .int .i64 0, .int .i64 0, .int .i64 0, .slice none 0 0] 26)
    have eG : w3.heap.size + 1 ≤ (w3.alloc (.cells #[.int .i64 0, .string ⟨#[]⟩, .int .i64 0, .int .i64 0, .int .i64 0, .int .i64 0, .slice none 0 0] 26)).heap.size := by simp
    replace qS := qS.later bG
    replace hB := hB.trans (bG.mono hB.size)
    clear bG
    generalize w3.alloc (.cells #[.int .i64 0, .string ⟨#[]⟩, .int .i64 0, .int .i64 0, .int .i64 0, .int .i64 0, .slice none 0 0] 26) = w4 at qS qG eG hB ⊢
    generalize w3.heap.size = gl at qG eG eS ⊢
    refine hKK.out _ _ hHeld ?_
    clear hHeld
    intro hHeld
    clear hKK KK
    try simp only [Act.put, List.setIfInBounds_toArray, List.set_cons_zero, List.set_cons_succ]
    refine take' 2 (v := ?_) rfl (by kernel_rfl) (by kernel_rfl) (by kernel_rfl) (fun _ _ _ h => h) (Or.inl ⟨by rfl, ?_⟩) (by assumption) ?_
    rotate_left
    · intro w9 hSw
      go_simp
      first | done | with_reducible rfl
    simp only [Act.put, List.setIfInBounds_toArray, List.set_cons_zero, List.set_cons_succ]
    refine wpAnyH_ready (rs := [3]) (by kernel_rfl) (by simp) ?_
    refine cons' rfl (fun KK hKK => ?_)
    go_simp
    have qR := Blk.new w4 #[.pointer (some ⟨sc, 0, none⟩), .slice (some ⟨gl, 0, none⟩) 1 1, .int .i64 0, .bool false, .int .i64 0, .int .i64 0] 65
    have bR := below_alloc (w := w4) (.cells #[.pointer (some ⟨sc, 0, none⟩), .slice (some ⟨gl, 0, none⟩) 1 1, .int .i64 0, .bool false, .int .i64 0, .int .i64 0] 65)
    replace qS := qS.later bR
    replace qG := qG.later bR
    replace hB := hB.trans (bR.mono hB.size)
    clear bR
    generalize hzz : w4.alloc (.cells #[.pointer (some ⟨sc, 0, none⟩), .slice (some ⟨gl, 0, none⟩) 1 1, .int .i64 0, .bool false, .int .i64 0, .int .i64 0] 65) = w9 at qR qS qG hB ⊢
    clear hzz
    refine hKK.out _ _ hHeld ?_
    clear hHeld
    intro hHeld
    clear hKK KK
    try simp only [Act.put, List.setIfInBounds_toArray, List.set_cons_zero, List.set_cons_succ]
    refine take' 4 (v := ?_) rfl (by kernel_rfl) (by kernel_rfl) (by kernel_rfl) (fun _ _ _ h => h) (Or.inl ⟨by rfl, ?_⟩) (by assumption) ?_
    rotate_left
    · intro w9 hSw
      go_simp
      first | done | with_reducible rfl
    simp only [Act.put, List.setIfInBounds_toArray, List.set_cons_zero, List.set_cons_succ]
    refine wpAnyH_done (by kernel_rfl) ?_ _
    go_wp2
    go_ret
    exact ⟨_, sc, gl, rfl, qR, qS, qG, by omega, by omega, by omega, by omega, by omega, by omega, hB⟩
  refine consTX rfl (fun KK hKK => ?_) ?_
  · skip
    go_simp
    have qG := Blk.new w0 #[.int .i64 0, .string ⟨#[]⟩, .int .i64 0, .int .i64 0, .int .i64 0, .int .i64 0, .slice none 0 0] 26
    have bG := below_alloc (w := w0) (.cells #[.int .i64 0, .string ⟨#[]⟩, .int .i64 0, .int .i64 0, .int .i64 0, .int .i64 0, .slice none 0 0] 26)
    have eG : w0.heap.size + 1 ≤ (w0.alloc (.cells #[.int .i64 0, .string ⟨#[]⟩, .int .i64 0, .int .i64 0, .int .i64 0, .int .i64 0, .slice none 0 0] 26)).heap.size := by simp
    replace hB := hB.trans (bG.mono hB.size)
    clear bG
    generalize w0.alloc (.cells #[.int .i64 0, .string ⟨#[]⟩, .int .i64 0, .int .i64 0, .int .i64 0, .int .i64 0, .slice none 0 0] 26) = w3 at qG eG hB ⊢
    generalize w0.heap.size = gl at qG eG hz ⊢
    refine hKK.out _ _ hHeld ?_
    clear hHeld
    intro hHeld
    clear hKK KK
    try simp only [Act.put, List.setIfInBounds_toArray, List.set_cons_zero, List.set_cons_succ]
    refine wpAnyH_ready (rs := [0]) (by kernel_rfl) (by simp) ?_
    refine cons' rfl (fun KK hKK => ?_)
    go_simp
    refine (newS_is w3).mono ?_
    rintro r2 w2 ⟨rfl, rfl⟩
    have qS := Blk.new w3 sI.cells 86
    have bS := below_alloc (w := w3) (.cells sI.cells 86)
    have eS : w3.heap.size + 1 ≤ (w3.alloc (.cells sI.cells 86)).heap.size := by simp
    replace qG := qG.later bS
    replace hB := hB.trans (bS.mono hB.size)
    clear bS
    generalize w3.alloc (.cells sI.cells 86) = w4 at qS qG eS hB ⊢
    generalize w3.heap.size = sc at qS eS eG ⊢
    go_wp2_with fail
    refine hKK.out _ _ hHeld ?_
    clear hHeld
    intro hHeld
    clear hKK KK
    try simp only [Act.put, List.setIfInBounds_toArray, List.set_cons_zero, List.set_cons_succ]
    refine take' 2 (v := ?_) rfl (by kernel_rfl) (by kernel_rfl) (by kernel_rfl) (fun _ _ _ h => h) (Or.inl ⟨by rfl, ?_⟩) (by assumption) ?_
    rotate_left
    · intro w9 hSw
      go_simp
      first | done | with_reducible rfl
    simp only [Act.put, List.setIfInBounds_toArray, List.set_cons_zero, List.set_cons_succ]
    refine wpAnyH_ready (rs := [3]) (by kernel_rfl) (by simp) ?_
    refine cons' rfl (fun KK hKK => ?_)
    go_simp
    have qR := Blk.new w4 #[.pointer (some ⟨sc, 0, none⟩), .slice (some ⟨gl, 0, none⟩) 1 1, .int .i64 0, .bool false, .int .i64 0, .int .i64 0] 65
    have bR := below_alloc (w := w4) (.cells #[.pointer (some ⟨sc, 0, none⟩), .slice (some ⟨gl, 0, none⟩) 1 1, .int .i64 0, .bool false, .int .i64 0, .int .i64 0] 65)
    replace qS := qS.later bR
    replace qG := qG.later bR
    replace hB := hB.trans (bR.mono hB.size)
    clear bR
    generalize hzz : w4.alloc (.cells #[.pointer (some ⟨sc, 0, none⟩), .slice (some ⟨gl, 0, none⟩) 1 1, .int .i64 0, .bool false, .int .i64 0, .int .i64 0] 65) = w9 at qR qS qG hB ⊢
    clear hzz
    refine hKK.out _ _ hHeld ?_
    clear hHeld
    intro hHeld
    clear hKK KK
    try simp only [Act.put, List.setIfInBounds_toArray, List.set_cons_zero, List.set_cons_succ]
    refine take' 4 (v := ?_) rfl (by kernel_rfl) (by kernel_rfl) (by kernel_rfl) (fun _ _ _ h => h) (Or.inl ⟨by rfl, ?_⟩) (by assumption) ?_
    rotate_left
    · intro w9 hSw
      go_simp
      first | done | with_reducible rfl
    simp only [Act.put, List.setIfInBounds_toArray, List.set_cons_zero, List.set_cons_succ]
    refine wpAnyH_done (by kernel_rfl) ?_ _
    go_wp2
    go_ret
    exact ⟨_, sc, gl, rfl, qR, qS, qG, by omega, by omega, by omega, by omega, by omega, by omega, hB⟩
  exact AllReadyH.nil

end Go.Proofs.YtpfmamimhhnbiaaGreatDoor

namespace Go.Proofs.YtpfmamimhhnbiaaGreatDoor
open Go.RowKit
set_option linter.unusedVariables false
set_option linter.unusedSimpArgs false
def lv00 : Lv := ⟨⟨0, ⟨#[]⟩, 0, 0, 0, 0⟩, .slice none 0 0, [], []⟩
theorem relB_00 : RelB [lv00] b0 := .one lv00
theorem newR_at (w : World) (hM : mxB < w.heap.size) : Calls Tryz.prog 24 #[] w fun r w' => ∃ b sc gl, r = .returned (.pointer (some ⟨b, 0, none⟩)) ∧ RdAt w' w.heap.size b (some ⟨sc, 0, none⟩) false 0 0 gl 1 (fun _ => False) [lv00] ∧ ScAt w' w'.heap.size sc sI ∧ sc ≠ b ∧ sc ≠ gl ∧ w.heap.size ≤ b ∧ w.heap.size ≤ sc ∧ w.heap.size ≤ gl ∧ Below w.heap.size w w' := by
  refine (newR_is w).mono ?_
  rintro e w' ⟨b, sc, gl, rfl, qR, qS, qG, n1, n2, n3, l1, l2, l3, hB⟩
  refine ⟨b, sc, gl, rfl, ⟨qR, ?_, ?_, ?_, ?_, ?_, ?_, Ne.symm n2, by decide, hB.size, fun g hg => hg.elim⟩, ⟨qS, qS.lt, by omega, World.ownsRow_nil _ _ _ _⟩, Ne.symm n1, n3, l1, l2, l3, hB⟩
  · exact ⟨rfl, Or.inr ⟨gl, 1, _, rfl, l3, qG, Nat.le_refl _, by decide, rfl, rfl⟩⟩
  · intro x hx
    rw [List.mem_singleton.1 hx]
    exact World.ownsRow_nil _ _ _ _
  · intro x hx
    rw [List.mem_singleton.1 hx]
    exact ⟨rfl, fun i hi => absurd hi (Nat.not_lt_zero _)⟩
  · exact List.pairwise_singleton _ _
  · intro x hx g hg
    rw [List.mem_singleton.1 hx] at hg
    simp [lv00, Value.ownBlock] at hg
  · exact fun g hg => hg.elim
end Go.Proofs.YtpfmamimhhnbiaaGreatDoor

namespace Go.Proofs.YtpfmamimhhnbiaaGreatDoor
open Go.RowKit
set_option linter.unusedVariables false
set_option linter.unusedSimpArgs false
theorem RdAt.kp {w w' : World} {base b : Nat} {p : Option Addr} {en : Bool} {er pl : Int} {gl c : Nat} {P Y : Nat → Prop} {lv : List Lv} (h : RdAt w base b p en er pl gl c P lv) (k : Kp Y w w') (hY : ∀ i, RdX b gl lv i → ¬ Y i) (hP : ∀ g, P g → ¬ Y g) : RdAt w' base b p en er pl gl c P lv :=
  ⟨k.blk h.blk (hY b (Or.inl rfl)), own_kp h.own k (fun g hg => hY g (Or.inr (Or.inl (by injection hg with hg; exact hg.symm)))), fun x hx => own_kp (h.ok x hx) k (fun g hg => hY g (Or.inr (Or.inr ⟨x, hx, hg⟩))), fun x hx => (h.kn x hx).kept (fun g hg hl => k.block g hl (hP g hg)) (fun _ c => c), h.ap, h.far, fun g hg => ⟨(h.pf g hg).1, (h.pf g hg).2.1, Nat.lt_of_lt_of_le (h.pf g hg).2.2 k.size⟩, h.gb, h.few, Nat.le_trans h.low k.size, fun g hg => (h.ty g hg).of (k.block g (h.pf g hg).2.2 (hP g hg))⟩
theorem Leaves.congr {P : Program} {fn : Func} {T T' : Array Value} {R : Ending → World → Prop} (hr : results fn T = results fn T') : ∀ {ds : List Deferred} {u : FrameMode} {w : World}, Leaves P fn T R ds u w → Leaves P fn T' R ds u w := by
  intro ds
  induction ds with
  | nil =>
    intro u w h
    cases u with
    | returning => simp only [Leaves] at h ⊢; rw [← hr]; exact h
    | panicking c => exact h
    | run => exact h
  | cons d ds ih =>
    intro u w h
    simp only [Leaves] at h ⊢
    obtain ⟨h1, fv, cap, f, args, ht, hi, hc⟩ := h
    refine ⟨h1, fv, cap, f, args, ht, hi, hc.mono ?_⟩
    intro e u' w' he
    cases e with
    | returned v => exact ih he
    | panicked c => exact ih he
    | outgrown => exact he
theorem bodyD_put {P : Program} {fn : Func} {R : Ending → World → Prop} {K : Act → World → Prop} {a : Act} {d : Nat} {v : Value} {c : List PanicEntry} {w : World} (hr : ∀ T : Array Value, results fn (T.setIfInBounds d v) = results fn T) (h : Exit.then K (bodyPostD P fn R) (.panic c) (a.put (some d) v) w) : Exit.then K (bodyPostD P fn R) (.panic c) a w :=
  Leaves.congr (hr a.tmps) h
end Go.Proofs.YtpfmamimhhnbiaaGreatDoor
