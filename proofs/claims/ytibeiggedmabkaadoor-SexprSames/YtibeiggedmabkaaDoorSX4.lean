/-
  The reader's open.
-/
import Derived.Test.YtibeiggedmabkaaDoorSX3
namespace Go.Proofs.YtibeiggedmabkaaDoor
open Go.RowKit
set_option linter.unusedVariables false
set_option linter.unusedSimpArgs false
/-- a list's token, at its opening bracket -/
def opT (T : Tok) : Tok := ⟨0, ⟨#[]⟩, T.b, T.e, T.l, T.c⟩
set_option maxHeartbeats 8000000 in
set_option maxRecDepth 100000 in
theorem ropen_is (b d base : Nat) (p : Option Addr) (en : Bool) (er pl : Int) (a0 : Option Addr) (cp : Nat) (L : List (Tok × Value)) (t : Tok) (w : World) (h : Blk w b (rdC p (.slice a0 L.length cp) d en er pl) 63) (hK : w.ownsRow base 34 7 (.slice a0 L.length cp) L.length (nvCells L)) (hvb : (Value.slice a0 L.length cp).ownBlock ≠ some b) (hd : d < 1000) (hkl : L.length ≤ 1001) (hbase : base ≤ w.heap.size) :
    Calls Tryd.prog 40 #[.pointer (some ⟨b, 0, none⟩), .agg #[.int .i64 t.k, .string t.t, .int .i64 t.b, .int .i64 t.e, .int .i64 t.l, .int .i64 t.c]] w fun r w' => ∃ v', r = .returned (.tuple #[]) ∧ w'.ownsRow base 34 7 v' (L.length + 1) (nvCells (L ++ [(opT t, .slice none 0 0)])) ∧ Blk w' b (rdC p v' ((d : Int) + 1) en er pl) 63 ∧ Kp (fun k => k = b ∨ (Value.slice a0 L.length cp).ownBlock = some k) w w' ∧ (v'.ownBlock = (Value.slice a0 L.length cp).ownBlock ∨ ∃ g, v'.ownBlock = some g ∧ w.heap.size ≤ g) := by
  have b0 := below_alloc (w := w) (.cells #[.int .i64 t.k, .string t.t, .int .i64 t.b, .int .i64 t.e, .int .i64 t.l, .int .i64 t.c] 32)
  have qN := Blk.new w #[.int .i64 t.k, .string t.t, .int .i64 t.b, .int .i64 t.e, .int .i64 t.l, .int .i64 t.c] 32
  have e1 : (w.alloc (.cells #[.int .i64 t.k, .string t.t, .int .i64 t.b, .int .i64 t.e, .int .i64 t.l, .int .i64 t.c] 32)).heap.size = w.heap.size + 1 := by simp
  have hlt := h.lt
  have hvlt := fun g hg => (own_lt hK (g := g) hg).2
  replace h := h.later b0
  replace hK := own_kp hK (Kp.of (X := fun _ => False) b0) (fun _ _ c => c)
  have kz : Kp (fun k => k = b ∨ (Value.slice a0 L.length cp).ownBlock = some k) w (w.alloc (.cells #[.int .i64 t.k, .string t.t, .int .i64 t.b, .int .i64 t.e, .int .i64 t.l, .int .i64 t.c] 32)) := Kp.of b0
  have xd : ((d : Int) == 1000) = false := by rw [beq_eq_false_iff_ne]; omega
  go_enter Tryd.func40, Tryd.ntmps40
  go_upto_region 1 with fail
  generalize w.alloc (.cells #[.int .i64 t.k, .string t.t, .int .i64 t.b, .int .i64 t.e, .int .i64 t.l, .int .i64 t.c] 32) = W at b0 qN e1 h hK kz ⊢
  have y2 := h.cell 2
  simp only [rdC, List.getElem?_toArray, List.getElem?_cons_zero, List.getElem?_cons_succ] at y2
  have fz := fun o => qN.frozen o
  have t0 := qN.cell 0
  have t1 := qN.cell 1
  simp only [rdC, List.getElem?_toArray, List.getElem?_cons_zero, List.getElem?_cons_succ] at t0 t1
  have nb : b ≠ w.heap.size := by omega
  go_wp2_with fail
  clear y2 fz t0 t1
  obtain ⟨k1, q1⟩ := qN.set (o := 0) (.int .i64 0)
  obtain ⟨k2, q2⟩ := q1.set (o := 1) (.string ⟨#[]⟩)
  have k12 := k1.trans k2
  have qN2 : Blk ((W.setCell ⟨w.heap.size, 0, none⟩ (.int .i64 0)).setCell ⟨w.heap.size, 1, none⟩ (.string ⟨#[]⟩)) w.heap.size #[.int .i64 0, .string ⟨#[]⟩, .int .i64 t.b, .int .i64 t.e, .int .i64 t.l, .int .i64 t.c] 32 := by simpa using q2
  clear k1 q1 k2 q2 qN
  replace h := h.ch k12 nb
  replace hK := own_kp hK (Kp.ch (X := fun i => i = w.heap.size) k12 rfl) (fun g hg e => by have := hvlt g hg; omega)
  replace kz := kz.trans (Kp.ch (X := fun i => i = w.heap.size) k12 rfl) (fun i hi e => by omega)
  have hs1 : w.heap.size + 1 ≤ ((W.setCell ⟨w.heap.size, 0, none⟩ (.int .i64 0)).setCell ⟨w.heap.size, 1, none⟩ (.string ⟨#[]⟩)).heap.size := by rw [k12.size]; omega
  clear k12
  generalize (W.setCell ⟨w.heap.size, 0, none⟩ (.int .i64 0)).setCell ⟨w.heap.size, 1, none⟩ (.string ⟨#[]⟩) = W1 at qN2 h hK kz hs1 ⊢
  clear b0 e1 W
  have x0 := qN2.cell 0
  have x1 := qN2.cell 1
  have x2 := qN2.cell 2
  have x3 := qN2.cell 3
  have x4 := qN2.cell 4
  have x5 := qN2.cell 5
  simp only [rdC, List.getElem?_toArray, List.getElem?_cons_zero, List.getElem?_cons_succ] at x0 x1 x2 x3 x4 x5
  clear qN2
  have bD : Below W1.heap.size W1 W1.drew := (Below.refl _ _).drew
  have kx0 := below_cell bD x0
  have kx1 := below_cell bD x1
  have kx2 := below_cell bD x2
  have kx3 := below_cell bD x3
  have kx4 := below_cell bD x4
  have kx5 := below_cell bD x5
  replace h := h.later bD
  replace hK := own_kp hK (Kp.of (X := fun _ => False) bD) (fun _ _ c => c)
  replace kz := kz.trans (Kp.of (X := fun k => k = b ∨ (Value.slice a0 L.length cp).ownBlock = some k) bD) (fun _ _ c => c)
  replace hs1 := Nat.le_trans hs1 bD.size
  refine wp_region_held_drew (S := fun w' => w'.cell? ⟨w.heap.size, 0, none⟩ = some (.int .i64 0) ∧ w'.cell? ⟨w.heap.size, 1, none⟩ = some (.string ⟨#[]⟩) ∧ w'.cell? ⟨w.heap.size, 2, none⟩ = some (.int .i64 t.b) ∧ w'.cell? ⟨w.heap.size, 3, none⟩ = some (.int .i64 t.e) ∧ w'.cell? ⟨w.heap.size, 4, none⟩ = some (.int .i64 t.l) ∧ w'.cell? ⟨w.heap.size, 5, none⟩ = some (.int .i64 t.c)) (by kernel_rfl) ⟨kx0, kx1, kx2, kx3, kx4, kx5⟩ (fun hHeld => ?_)
  clear kx0 kx1 kx2 kx3 kx4 kx5
  generalize W1.drew = w0 at bD hK kz hs1 h hHeld ⊢
  clear x0 x1 x2 x3 x4 x5
  refine take' 0 (v := ?_) rfl (by kernel_rfl) (by kernel_rfl) (by kernel_rfl) (fun _ _ _ h => h) (Or.inl ⟨by rfl, ?_⟩) (by assumption) ?_
  rotate_left
  · intro w9 hSw
    go_simp
    first | done | with_reducible rfl
  simp only [Act.put, List.setIfInBounds_toArray, List.set_cons_zero, List.set_cons_succ]
  refine take' 1 (v := ?_) rfl (by kernel_rfl) (by kernel_rfl) (by kernel_rfl) (fun _ _ _ h => h) (Or.inl ⟨by rfl, ?_⟩) (by assumption) ?_
  rotate_left
  · intro w9 hSw
    go_simp
    first | done | with_reducible rfl
  simp only [Act.put, List.setIfInBounds_toArray, List.set_cons_zero, List.set_cons_succ]
  refine take' 2 (v := ?_) rfl (by kernel_rfl) (by kernel_rfl) (by kernel_rfl) (fun _ _ _ h => h) (Or.inl ⟨by rfl, ?_⟩) (by assumption) ?_
  rotate_left
  · intro w9 hSw
    go_simp
    first | done | with_reducible rfl
  simp only [Act.put, List.setIfInBounds_toArray, List.set_cons_zero, List.set_cons_succ]
  refine take' 4 (v := ?_) rfl (by kernel_rfl) (by kernel_rfl) (by kernel_rfl) (fun _ _ _ h => h) (Or.inl ⟨by rfl, ?_⟩) (by assumption) ?_
  rotate_left
  · intro w9 hSw
    go_simp
    first | done | with_reducible rfl
  simp only [Act.put, List.setIfInBounds_toArray, List.set_cons_zero, List.set_cons_succ]
  refine take' 5 (v := ?_) rfl (by kernel_rfl) (by kernel_rfl) (by kernel_rfl) (fun _ _ _ h => h) (Or.inl ⟨by rfl, ?_⟩) (by assumption) ?_
  rotate_left
  · intro w9 hSw
    go_simp
    first | done | with_reducible rfl
  simp only [Act.put, List.setIfInBounds_toArray, List.set_cons_zero, List.set_cons_succ]
  refine wpAnyH_ready (rs := [3, 7]) (by kernel_rfl) (by simp) ?_
  refine consTX rfl (fun KK hKK => ?_) ?_
  · skip
    have y1 := h.cell 1
    simp only [rdC, List.getElem?_toArray, List.getElem?_cons_zero, List.getElem?_cons_succ] at y1
    go_simp
    clear y1
    refine hKK.out _ _ hHeld ?_
    clear hHeld
    intro hHeld
    clear hKK KK
    try simp only [Act.put, List.setIfInBounds_toArray, List.set_cons_zero, List.set_cons_succ]
    refine take' 6 (v := ?_) rfl (by kernel_rfl) (by kernel_rfl) (by kernel_rfl) (fun _ _ _ h => h) (Or.inl ⟨by rfl, ?_⟩) (by assumption) ?_
    rotate_left
    · intro w9 hSw
      go_simp
      first | done | with_reducible rfl
    simp only [Act.put, List.setIfInBounds_toArray, List.set_cons_zero, List.set_cons_succ]
    refine wpAnyH_ready (rs := [7]) (by kernel_rfl) (by simp) ?_
    refine cons' rfl (fun KK hKK => ?_)
    go_simp
    have b3 := below_alloc (w := w0) (.cells #[.int .i64 0, .string ⟨#[]⟩, .int .i64 0, .int .i64 0, .int .i64 0, .int .i64 0, .slice none 0 0] 34)
    have hnew := heap_alloc_new w0 (.cells #[.int .i64 0, .string ⟨#[]⟩, .int .i64 0, .int .i64 0, .int .i64 0, .int .i64 0, .slice none 0 0] 34)
    have hxs : (w0.alloc (.cells #[.int .i64 0, .string ⟨#[]⟩, .int .i64 0, .int .i64 0, .int .i64 0, .int .i64 0, .slice none 0 0] 34)).heap.size = w0.heap.size + 1 := by simp
    replace h := h.later b3
    replace hHeld := (⟨below_cell b3 hHeld.1, below_cell b3 hHeld.2.1, below_cell b3 hHeld.2.2.1, below_cell b3 hHeld.2.2.2.1, below_cell b3 hHeld.2.2.2.2.1, below_cell b3 hHeld.2.2.2.2.2⟩ : _ ∧ _ ∧ _ ∧ _ ∧ _ ∧ _)
    replace hK := own_kp hK (Kp.of (X := fun _ => False) b3) (fun _ _ c => c)
    replace kz := kz.trans (Kp.of (X := fun k => k = b ∨ (Value.slice a0 L.length cp).ownBlock = some k) b3) (fun _ _ c => c)
    replace hs1 := Nat.le_trans hs1 b3.size
    generalize w0.alloc (.cells #[.int .i64 0, .string ⟨#[]⟩, .int .i64 0, .int .i64 0, .int .i64 0, .int .i64 0, .slice none 0 0] 34) = wx at b3 hnew hxs h hK kz hs1 hHeld ⊢
    clear b3
    refine hKK.out _ _ hHeld ?_
    clear hHeld
    intro hHeld
    clear hKK KK
    try simp only [Act.put, List.setIfInBounds_toArray, List.set_cons_zero, List.set_cons_succ]
    obtain ⟨i0, hi0, hz0, hz1, hz2⟩ := info_parts info_Node
    have hkz := kz.size
    refine wpAnyH_ready (rs := [8]) (by kernel_rfl) (by simp) ?_
    refine cons' rfl (fun KK hKK => ?_)
    refine step_append_lies _ (by rfl) _ _ _ (by rfl) base 34 i0 _ 7 80 Tryd.underlying22 hi0 hz0 hz1 hz2 rfl (by omega) (.slice a0 L.length cp) L.length (nvCells L) (by rfl) hK ⟨w0.heap.size, 0, none⟩ 1 1 [.int .i64 0, .string ⟨#[]⟩, .int .i64 0, .int .i64 0, .int .i64 0, .int .i64 0, .slice none 0 0] (by rfl) (by rfl) (World.news_of_block (cs := #[.int .i64 0, .string ⟨#[]⟩, .int .i64 0, .int .i64 0, .int .i64 0, .int .i64 0, .slice none 0 0]) (t := 34) (fr := (0, 0)) hnew) (by simp [Value.oneCell']) (by omega) (by simp only [maxLen]; omega) (by omega) (by omega) wx.heap.size rfl ?_
    intro gb cap w3 hown4 hgrow hat hlt4
    have kg := Kp.grown hgrow (fun k e => e)
    have n2 : gb ≠ b := fun e => by rw [e] at hat; rcases hat with c | c; exact hvb c; omega
    have n3 : gb ≠ w.heap.size := fun e => by rw [e] at hat; rcases hat with c | c; (have := hvlt _ c; omega); omega
    have hH2 := (⟨cell_kp kg (fun c => by have := hvlt _ c; omega) hHeld.1, cell_kp kg (fun c => by have := hvlt _ c; omega) hHeld.2.1, cell_kp kg (fun c => by have := hvlt _ c; omega) hHeld.2.2.1, cell_kp kg (fun c => by have := hvlt _ c; omega) hHeld.2.2.2.1, cell_kp kg (fun c => by have := hvlt _ c; omega) hHeld.2.2.2.2.1, cell_kp kg (fun c => by have := hvlt _ c; omega) hHeld.2.2.2.2.2⟩ : _ ∧ _ ∧ _ ∧ _ ∧ _ ∧ _)
    replace h := kg.blk h (fun c => hvb c)
    replace kz := kz.trans kg (fun _ _ c => Or.inr c)
    clear hK hnew kg hgrow
    refine hKK.out _ _ hH2 ?_
    clear hHeld
    intro hHeld
    clear hKK KK
    try simp only [Act.put, List.setIfInBounds_toArray, List.set_cons_zero, List.set_cons_succ]
    clear hH2
    have hix : ((L.length : Int) < (L.length : Int) + 1) := by omega
    refine take' 9 (v := ?_) rfl (by kernel_rfl) (by kernel_rfl) (by kernel_rfl) (fun _ _ _ h => h) (Or.inl ⟨by rfl, ?_⟩) (by assumption) ?_
    rotate_left
    · intro w9 hSw
      go_simp
      first | done | with_reducible rfl
    simp only [Act.put, List.setIfInBounds_toArray, List.set_cons_zero, List.set_cons_succ]
    refine take' 11 (v := ?_) rfl (by kernel_rfl) (by kernel_rfl) (by kernel_rfl) (fun _ _ _ h => h) (Or.inl ⟨by rfl, ?_⟩) (by assumption) ?_
    rotate_left
    · intro w9 hSw
      go_simp
      first | done | with_reducible rfl
    simp only [Act.put, List.setIfInBounds_toArray, List.set_cons_zero, List.set_cons_succ]
    refine take' 12 (v := ?_) rfl (by kernel_rfl) (by kernel_rfl) (by kernel_rfl) (fun _ _ _ h => h) (Or.inl ⟨by rfl, ?_⟩) (by assumption) ?_
    rotate_left
    · intro w9 hSw
      go_simp
      first | done | with_reducible rfl
    simp only [Act.put, List.setIfInBounds_toArray, List.set_cons_zero, List.set_cons_succ]
    change w3.ownsRow base 34 7 _ _ (nvCells L ++ zero7) at hown4
    refine wpAnyH_ready (rs := [10, 13]) (by kernel_rfl) (by simp) ?_
    refine consTX rfl (fun KK hKK => ?_) ?_
    · skip
      have z0 : w3.cell? ⟨gb, L.length * 7, none⟩ = zero7[0]? := by rw [hown4.cellAt (L.length * 7) (by omega), List.getElem?_append_right (by rw [nvCells_len]; omega), nvCells_len]; congr 1; omega
      have z1 : w3.cell? ⟨gb, L.length * 7 + 1, none⟩ = zero7[1]? := by rw [hown4.cellAt (L.length * 7 + 1) (by omega), List.getElem?_append_right (by rw [nvCells_len]; omega), nvCells_len]; congr 1; omega
      have z2 : w3.cell? ⟨gb, L.length * 7 + 2, none⟩ = zero7[2]? := by rw [hown4.cellAt (L.length * 7 + 2) (by omega), List.getElem?_append_right (by rw [nvCells_len]; omega), nvCells_len]; congr 1; omega
      have z3 : w3.cell? ⟨gb, L.length * 7 + 3, none⟩ = zero7[3]? := by rw [hown4.cellAt (L.length * 7 + 3) (by omega), List.getElem?_append_right (by rw [nvCells_len]; omega), nvCells_len]; congr 1; omega
      have z4 : w3.cell? ⟨gb, L.length * 7 + 4, none⟩ = zero7[4]? := by rw [hown4.cellAt (L.length * 7 + 4) (by omega), List.getElem?_append_right (by rw [nvCells_len]; omega), nvCells_len]; congr 1; omega
      have z5 : w3.cell? ⟨gb, L.length * 7 + 5, none⟩ = zero7[5]? := by rw [hown4.cellAt (L.length * 7 + 5) (by omega), List.getElem?_append_right (by rw [nvCells_len]; omega), nvCells_len]; congr 1; omega
      have z6 : w3.cell? ⟨gb, L.length * 7 + 6, none⟩ = zero7[6]? := by rw [hown4.cellAt (L.length * 7 + 6) (by omega), List.getElem?_append_right (by rw [nvCells_len]; omega), nvCells_len]; congr 1; omega
      simp only [zero7, List.getElem?_cons_zero, List.getElem?_cons_succ] at z0 z1 z2 z3 z4 z5 z6
      have fz := fun o => hown4.frozenAt o
      have OW := hideT hown4
      clear hown4
      go_simp
      have hown4 := OW.out
      clear OW fz z0 z1 z2 z3 z4 z5 z6
      obtain ⟨own5, k7⟩ := own_store7 hown4 rfl (opT t) (.slice none 0 0)
      unfold set7 opT at own5 k7
      have hH2 := (⟨k7.cell (Ne.symm n3) hHeld.1, k7.cell (Ne.symm n3) hHeld.2.1, k7.cell (Ne.symm n3) hHeld.2.2.1, k7.cell (Ne.symm n3) hHeld.2.2.2.1, k7.cell (Ne.symm n3) hHeld.2.2.2.2.1, k7.cell (Ne.symm n3) hHeld.2.2.2.2.2⟩ : _ ∧ _ ∧ _ ∧ _ ∧ _ ∧ _)
      replace h := h.ch k7 (Ne.symm n2)
      replace kz := kz.trans (Kp.ch (X := fun i => i = gb) k7 rfl) (fun i hi e => by rw [e] at hi ⊢; rcases hat with c | c; exact Or.inr c; omega)
      clear hown4 k7
      generalize hw_ : (((((((w3.setCell ⟨gb, L.length * 7, none⟩ (.int .i64 0)).setCell ⟨gb, L.length * 7 + 1, none⟩ (.string ⟨#[]⟩)).setCell ⟨gb, L.length * 7 + 2, none⟩ (.int .i64 t.b)).setCell ⟨gb, L.length * 7 + 3, none⟩ (.int .i64 t.e)).setCell ⟨gb, L.length * 7 + 4, none⟩ (.int .i64 t.l)).setCell ⟨gb, L.length * 7 + 5, none⟩ (.int .i64 t.c)).setCell ⟨gb, L.length * 7 + 6, none⟩ (.slice none 0 0)) = w4 at own5 hH2 h kz ⊢
      clear hw_
      refine hKK.out _ _ hH2 ?_
      clear hHeld
      intro hHeld
      clear hKK KK
      try simp only [Act.put, List.setIfInBounds_toArray, List.set_cons_zero, List.set_cons_succ]
      clear hH2
      refine wpAnyH_ready (rs := [13]) (by kernel_rfl) (by simp) ?_
      refine cons' rfl (fun KK hKK => ?_)
      have fz := fun o => h.frozen o
      have y1 := h.cell 1
      simp only [rdC, List.getElem?_toArray, List.getElem?_cons_zero, List.getElem?_cons_succ] at y1
      have HB := hideT h
      clear h
      go_simp
      have h := HB.out
      clear HB fz y1
      obtain ⟨k8, q8⟩ := h.set (o := 1) (.slice (some ⟨gb, 0, none⟩) (L.length + 1) cap)
      have h2 : Blk (w4.setCell ⟨b, 1, none⟩ (.slice (some ⟨gb, 0, none⟩) (L.length + 1) cap)) b (rdC p (.slice (some ⟨gb, 0, none⟩) (L.length + 1) cap) d en er pl) 63 := by simpa [rdC] using q8
      clear h q8
      have h := h2
      clear h2
      have hH2 := (⟨k8.cell (Ne.symm nb) hHeld.1, k8.cell (Ne.symm nb) hHeld.2.1, k8.cell (Ne.symm nb) hHeld.2.2.1, k8.cell (Ne.symm nb) hHeld.2.2.2.1, k8.cell (Ne.symm nb) hHeld.2.2.2.2.1, k8.cell (Ne.symm nb) hHeld.2.2.2.2.2⟩ : _ ∧ _ ∧ _ ∧ _ ∧ _ ∧ _)
      replace own5 := own_kp own5 (Kp.ch (X := fun i => i = b) k8 rfl) (fun g hg e => by have hg2 : gb = g := (by injection hg); exact n2 (hg2.trans e))
      replace kz := kz.trans (Kp.ch (X := fun i => i = b) k8 rfl) (fun i hi e => Or.inl e)
      clear k8
      generalize w4.setCell ⟨b, 1, none⟩ (.slice (some ⟨gb, 0, none⟩) (L.length + 1) cap) = w5 at own5 hH2 h kz ⊢
      refine hKK.out _ _ hH2 ?_
      clear hHeld
      intro hHeld
      clear hKK KK
      try simp only [Act.put, List.setIfInBounds_toArray, List.set_cons_zero, List.set_cons_succ]
      clear hH2
      refine wpAnyH_done (by kernel_rfl) ?_ _
      clear hHeld
      have y2 := h.cell 2
      simp only [rdC, List.getElem?_toArray, List.getElem?_cons_zero, List.getElem?_cons_succ] at y2
      have fz := fun o => h.frozen o
      go_wp2
      clear fz y2
      obtain ⟨k9, q9⟩ := h.set (o := 2) (.int .i64 ((d : Int) + 1))
      have h9 : Blk (w5.setCell ⟨b, 2, none⟩ (.int .i64 ((d : Int) + 1))) b (rdC p (.slice (some ⟨gb, 0, none⟩) (L.length + 1) cap) ((d : Int) + 1) en er pl) 63 := by simpa [rdC] using q9
      replace own5 := own_kp own5 (Kp.ch (X := fun i => i = b) k9 rfl) (fun g hg e => by have hg2 : gb = g := (by injection hg); exact n2 (hg2.trans e))
      replace kz := kz.trans (Kp.ch (X := fun i => i = b) k9 rfl) (fun i hi e => Or.inl e)
      first | go_end0 | skip
      exact ⟨_, rfl, own5, h9, kz, by rcases hat with c | c; exact Or.inl (by rw [c]; rfl); exact Or.inr ⟨gb, rfl, by omega⟩⟩
    refine consTX rfl (fun KK hKK => ?_) ?_
    · skip
      have fz := fun o => h.frozen o
      have y1 := h.cell 1
      simp only [rdC, List.getElem?_toArray, List.getElem?_cons_zero, List.getElem?_cons_succ] at y1
      have HB := hideT h
      clear h
      go_simp
      have h := HB.out
      clear HB fz y1
      obtain ⟨k8, q8⟩ := h.set (o := 1) (.slice (some ⟨gb, 0, none⟩) (L.length + 1) cap)
      have h2 : Blk (w3.setCell ⟨b, 1, none⟩ (.slice (some ⟨gb, 0, none⟩) (L.length + 1) cap)) b (rdC p (.slice (some ⟨gb, 0, none⟩) (L.length + 1) cap) d en er pl) 63 := by simpa [rdC] using q8
      clear h q8
      have h := h2
      clear h2
      have hH2 := (⟨k8.cell (Ne.symm nb) hHeld.1, k8.cell (Ne.symm nb) hHeld.2.1, k8.cell (Ne.symm nb) hHeld.2.2.1, k8.cell (Ne.symm nb) hHeld.2.2.2.1, k8.cell (Ne.symm nb) hHeld.2.2.2.2.1, k8.cell (Ne.symm nb) hHeld.2.2.2.2.2⟩ : _ ∧ _ ∧ _ ∧ _ ∧ _ ∧ _)
      replace hown4 := own_kp hown4 (Kp.ch (X := fun i => i = b) k8 rfl) (fun g hg e => by have hg2 : gb = g := (by injection hg); exact n2 (hg2.trans e))
      replace kz := kz.trans (Kp.ch (X := fun i => i = b) k8 rfl) (fun i hi e => Or.inl e)
      clear k8
      generalize w3.setCell ⟨b, 1, none⟩ (.slice (some ⟨gb, 0, none⟩) (L.length + 1) cap) = w4 at hown4 hH2 h kz ⊢
      refine hKK.out _ _ hH2 ?_
      clear hHeld
      intro hHeld
      clear hKK KK
      try simp only [Act.put, List.setIfInBounds_toArray, List.set_cons_zero, List.set_cons_succ]
      clear hH2
      refine wpAnyH_ready (rs := [10]) (by kernel_rfl) (by simp) ?_
      refine cons' rfl (fun KK hKK => ?_)
      have z0 : w4.cell? ⟨gb, L.length * 7, none⟩ = zero7[0]? := by rw [hown4.cellAt (L.length * 7) (by omega), List.getElem?_append_right (by rw [nvCells_len]; omega), nvCells_len]; congr 1; omega
      have z1 : w4.cell? ⟨gb, L.length * 7 + 1, none⟩ = zero7[1]? := by rw [hown4.cellAt (L.length * 7 + 1) (by omega), List.getElem?_append_right (by rw [nvCells_len]; omega), nvCells_len]; congr 1; omega
      have z2 : w4.cell? ⟨gb, L.length * 7 + 2, none⟩ = zero7[2]? := by rw [hown4.cellAt (L.length * 7 + 2) (by omega), List.getElem?_append_right (by rw [nvCells_len]; omega), nvCells_len]; congr 1; omega
      have z3 : w4.cell? ⟨gb, L.length * 7 + 3, none⟩ = zero7[3]? := by rw [hown4.cellAt (L.length * 7 + 3) (by omega), List.getElem?_append_right (by rw [nvCells_len]; omega), nvCells_len]; congr 1; omega
      have z4 : w4.cell? ⟨gb, L.length * 7 + 4, none⟩ = zero7[4]? := by rw [hown4.cellAt (L.length * 7 + 4) (by omega), List.getElem?_append_right (by rw [nvCells_len]; omega), nvCells_len]; congr 1; omega
      have z5 : w4.cell? ⟨gb, L.length * 7 + 5, none⟩ = zero7[5]? := by rw [hown4.cellAt (L.length * 7 + 5) (by omega), List.getElem?_append_right (by rw [nvCells_len]; omega), nvCells_len]; congr 1; omega
      have z6 : w4.cell? ⟨gb, L.length * 7 + 6, none⟩ = zero7[6]? := by rw [hown4.cellAt (L.length * 7 + 6) (by omega), List.getElem?_append_right (by rw [nvCells_len]; omega), nvCells_len]; congr 1; omega
      simp only [zero7, List.getElem?_cons_zero, List.getElem?_cons_succ] at z0 z1 z2 z3 z4 z5 z6
      have fz := fun o => hown4.frozenAt o
      have OW := hideT hown4
      clear hown4
      go_simp
      have hown4 := OW.out
      clear OW fz z0 z1 z2 z3 z4 z5 z6
      obtain ⟨own5, k7⟩ := own_store7 hown4 rfl (opT t) (.slice none 0 0)
      unfold set7 opT at own5 k7
      have hH2 := (⟨k7.cell (Ne.symm n3) hHeld.1, k7.cell (Ne.symm n3) hHeld.2.1, k7.cell (Ne.symm n3) hHeld.2.2.1, k7.cell (Ne.symm n3) hHeld.2.2.2.1, k7.cell (Ne.symm n3) hHeld.2.2.2.2.1, k7.cell (Ne.symm n3) hHeld.2.2.2.2.2⟩ : _ ∧ _ ∧ _ ∧ _ ∧ _ ∧ _)
      replace h := h.ch k7 (Ne.symm n2)
      replace kz := kz.trans (Kp.ch (X := fun i => i = gb) k7 rfl) (fun i hi e => by rw [e] at hi ⊢; rcases hat with c | c; exact Or.inr c; omega)
      clear hown4 k7
      generalize hw_ : (((((((w4.setCell ⟨gb, L.length * 7, none⟩ (.int .i64 0)).setCell ⟨gb, L.length * 7 + 1, none⟩ (.string ⟨#[]⟩)).setCell ⟨gb, L.length * 7 + 2, none⟩ (.int .i64 t.b)).setCell ⟨gb, L.length * 7 + 3, none⟩ (.int .i64 t.e)).setCell ⟨gb, L.length * 7 + 4, none⟩ (.int .i64 t.l)).setCell ⟨gb, L.length * 7 + 5, none⟩ (.int .i64 t.c)).setCell ⟨gb, L.length * 7 + 6, none⟩ (.slice none 0 0)) = w5 at own5 hH2 h kz ⊢
      clear hw_
      refine hKK.out _ _ hH2 ?_
      clear hHeld
      intro hHeld
      clear hKK KK
      try simp only [Act.put, List.setIfInBounds_toArray, List.set_cons_zero, List.set_cons_succ]
      clear hH2
      refine wpAnyH_done (by kernel_rfl) ?_ _
      clear hHeld
      have y2 := h.cell 2
      simp only [rdC, List.getElem?_toArray, List.getElem?_cons_zero, List.getElem?_cons_succ] at y2
      have fz := fun o => h.frozen o
      go_wp2
      clear fz y2
      obtain ⟨k9, q9⟩ := h.set (o := 2) (.int .i64 ((d : Int) + 1))
      have h9 : Blk (w5.setCell ⟨b, 2, none⟩ (.int .i64 ((d : Int) + 1))) b (rdC p (.slice (some ⟨gb, 0, none⟩) (L.length + 1) cap) ((d : Int) + 1) en er pl) 63 := by simpa [rdC] using q9
      replace own5 := own_kp own5 (Kp.ch (X := fun i => i = b) k9 rfl) (fun g hg e => by have hg2 : gb = g := (by injection hg); exact n2 (hg2.trans e))
      replace kz := kz.trans (Kp.ch (X := fun i => i = b) k9 rfl) (fun i hi e => Or.inl e)
      first | go_end0 | skip
      exact ⟨_, rfl, own5, h9, kz, by rcases hat with c | c; exact Or.inl (by rw [c]; rfl); exact Or.inr ⟨gb, rfl, by omega⟩⟩
    exact AllReadyH.nil
  refine consTX rfl (fun KK hKK => ?_) ?_
  · skip
    go_simp
    have b3 := below_alloc (w := w0) (.cells #[.int .i64 0, .string ⟨#[]⟩, .int .i64 0, .int .i64 0, .int .i64 0, .int .i64 0, .slice none 0 0] 34)
    have hnew := heap_alloc_new w0 (.cells #[.int .i64 0, .string ⟨#[]⟩, .int .i64 0, .int .i64 0, .int .i64 0, .int .i64 0, .slice none 0 0] 34)
    have hxs : (w0.alloc (.cells #[.int .i64 0, .string ⟨#[]⟩, .int .i64 0, .int .i64 0, .int .i64 0, .int .i64 0, .slice none 0 0] 34)).heap.size = w0.heap.size + 1 := by simp
    replace h := h.later b3
    replace hHeld := (⟨below_cell b3 hHeld.1, below_cell b3 hHeld.2.1, below_cell b3 hHeld.2.2.1, below_cell b3 hHeld.2.2.2.1, below_cell b3 hHeld.2.2.2.2.1, below_cell b3 hHeld.2.2.2.2.2⟩ : _ ∧ _ ∧ _ ∧ _ ∧ _ ∧ _)
    replace hK := own_kp hK (Kp.of (X := fun _ => False) b3) (fun _ _ c => c)
    replace kz := kz.trans (Kp.of (X := fun k => k = b ∨ (Value.slice a0 L.length cp).ownBlock = some k) b3) (fun _ _ c => c)
    replace hs1 := Nat.le_trans hs1 b3.size
    generalize w0.alloc (.cells #[.int .i64 0, .string ⟨#[]⟩, .int .i64 0, .int .i64 0, .int .i64 0, .int .i64 0, .slice none 0 0] 34) = wx at b3 hnew hxs h hK kz hs1 hHeld ⊢
    clear b3
    refine hKK.out _ _ hHeld ?_
    clear hHeld
    intro hHeld
    clear hKK KK
    try simp only [Act.put, List.setIfInBounds_toArray, List.set_cons_zero, List.set_cons_succ]
    refine wpAnyH_ready (rs := [3]) (by kernel_rfl) (by simp) ?_
    refine cons' rfl (fun KK hKK => ?_)
    have y1 := h.cell 1
    simp only [rdC, List.getElem?_toArray, List.getElem?_cons_zero, List.getElem?_cons_succ] at y1
    go_simp
    clear y1
    refine hKK.out _ _ hHeld ?_
    clear hHeld
    intro hHeld
    clear hKK KK
    try simp only [Act.put, List.setIfInBounds_toArray, List.set_cons_zero, List.set_cons_succ]
    refine take' 6 (v := ?_) rfl (by kernel_rfl) (by kernel_rfl) (by kernel_rfl) (fun _ _ _ h => h) (Or.inl ⟨by rfl, ?_⟩) (by assumption) ?_
    rotate_left
    · intro w9 hSw
      go_simp
      first | done | with_reducible rfl
    simp only [Act.put, List.setIfInBounds_toArray, List.set_cons_zero, List.set_cons_succ]
    obtain ⟨i0, hi0, hz0, hz1, hz2⟩ := info_parts info_Node
    have hkz := kz.size
    refine wpAnyH_ready (rs := [8]) (by kernel_rfl) (by simp) ?_
    refine cons' rfl (fun KK hKK => ?_)
    refine step_append_lies _ (by rfl) _ _ _ (by rfl) base 34 i0 _ 7 80 Tryd.underlying22 hi0 hz0 hz1 hz2 rfl (by omega) (.slice a0 L.length cp) L.length (nvCells L) (by rfl) hK ⟨w0.heap.size, 0, none⟩ 1 1 [.int .i64 0, .string ⟨#[]⟩, .int .i64 0, .int .i64 0, .int .i64 0, .int .i64 0, .slice none 0 0] (by rfl) (by rfl) (World.news_of_block (cs := #[.int .i64 0, .string ⟨#[]⟩, .int .i64 0, .int .i64 0, .int .i64 0, .int .i64 0, .slice none 0 0]) (t := 34) (fr := (0, 0)) hnew) (by simp [Value.oneCell']) (by omega) (by simp only [maxLen]; omega) (by omega) (by omega) wx.heap.size rfl ?_
    intro gb cap w3 hown4 hgrow hat hlt4
    have kg := Kp.grown hgrow (fun k e => e)
    have n2 : gb ≠ b := fun e => by rw [e] at hat; rcases hat with c | c; exact hvb c; omega
    have n3 : gb ≠ w.heap.size := fun e => by rw [e] at hat; rcases hat with c | c; (have := hvlt _ c; omega); omega
    have hH2 := (⟨cell_kp kg (fun c => by have := hvlt _ c; omega) hHeld.1, cell_kp kg (fun c => by have := hvlt _ c; omega) hHeld.2.1, cell_kp kg (fun c => by have := hvlt _ c; omega) hHeld.2.2.1, cell_kp kg (fun c => by have := hvlt _ c; omega) hHeld.2.2.2.1, cell_kp kg (fun c => by have := hvlt _ c; omega) hHeld.2.2.2.2.1, cell_kp kg (fun c => by have := hvlt _ c; omega) hHeld.2.2.2.2.2⟩ : _ ∧ _ ∧ _ ∧ _ ∧ _ ∧ _)
    replace h := kg.blk h (fun c => hvb c)
    replace kz := kz.trans kg (fun _ _ c => Or.inr c)
    clear hK hnew kg hgrow
    refine hKK.out _ _ hH2 ?_
    clear hHeld
    intro hHeld
    clear hKK KK
    try simp only [Act.put, List.setIfInBounds_toArray, List.set_cons_zero, List.set_cons_succ]
    clear hH2
    have hix : ((L.length : Int) < (L.length : Int) + 1) := by omega
    refine take' 9 (v := ?_) rfl (by kernel_rfl) (by kernel_rfl) (by kernel_rfl) (fun _ _ _ h => h) (Or.inl ⟨by rfl, ?_⟩) (by assumption) ?_
    rotate_left
    · intro w9 hSw
      go_simp
      first | done | with_reducible rfl
    simp only [Act.put, List.setIfInBounds_toArray, List.set_cons_zero, List.set_cons_succ]
    refine take' 11 (v := ?_) rfl (by kernel_rfl) (by kernel_rfl) (by kernel_rfl) (fun _ _ _ h => h) (Or.inl ⟨by rfl, ?_⟩) (by assumption) ?_
    rotate_left
    · intro w9 hSw
      go_simp
      first | done | with_reducible rfl
    simp only [Act.put, List.setIfInBounds_toArray, List.set_cons_zero, List.set_cons_succ]
    refine take' 12 (v := ?_) rfl (by kernel_rfl) (by kernel_rfl) (by kernel_rfl) (fun _ _ _ h => h) (Or.inl ⟨by rfl, ?_⟩) (by assumption) ?_
    rotate_left
    · intro w9 hSw
      go_simp
      first | done | with_reducible rfl
    simp only [Act.put, List.setIfInBounds_toArray, List.set_cons_zero, List.set_cons_succ]
    change w3.ownsRow base 34 7 _ _ (nvCells L ++ zero7) at hown4
    refine wpAnyH_ready (rs := [10, 13]) (by kernel_rfl) (by simp) ?_
    refine consTX rfl (fun KK hKK => ?_) ?_
    · skip
      have z0 : w3.cell? ⟨gb, L.length * 7, none⟩ = zero7[0]? := by rw [hown4.cellAt (L.length * 7) (by omega), List.getElem?_append_right (by rw [nvCells_len]; omega), nvCells_len]; congr 1; omega
      have z1 : w3.cell? ⟨gb, L.length * 7 + 1, none⟩ = zero7[1]? := by rw [hown4.cellAt (L.length * 7 + 1) (by omega), List.getElem?_append_right (by rw [nvCells_len]; omega), nvCells_len]; congr 1; omega
      have z2 : w3.cell? ⟨gb, L.length * 7 + 2, none⟩ = zero7[2]? := by rw [hown4.cellAt (L.length * 7 + 2) (by omega), List.getElem?_append_right (by rw [nvCells_len]; omega), nvCells_len]; congr 1; omega
      have z3 : w3.cell? ⟨gb, L.length * 7 + 3, none⟩ = zero7[3]? := by rw [hown4.cellAt (L.length * 7 + 3) (by omega), List.getElem?_append_right (by rw [nvCells_len]; omega), nvCells_len]; congr 1; omega
      have z4 : w3.cell? ⟨gb, L.length * 7 + 4, none⟩ = zero7[4]? := by rw [hown4.cellAt (L.length * 7 + 4) (by omega), List.getElem?_append_right (by rw [nvCells_len]; omega), nvCells_len]; congr 1; omega
      have z5 : w3.cell? ⟨gb, L.length * 7 + 5, none⟩ = zero7[5]? := by rw [hown4.cellAt (L.length * 7 + 5) (by omega), List.getElem?_append_right (by rw [nvCells_len]; omega), nvCells_len]; congr 1; omega
      have z6 : w3.cell? ⟨gb, L.length * 7 + 6, none⟩ = zero7[6]? := by rw [hown4.cellAt (L.length * 7 + 6) (by omega), List.getElem?_append_right (by rw [nvCells_len]; omega), nvCells_len]; congr 1; omega
      simp only [zero7, List.getElem?_cons_zero, List.getElem?_cons_succ] at z0 z1 z2 z3 z4 z5 z6
      have fz := fun o => hown4.frozenAt o
      have OW := hideT hown4
      clear hown4
      go_simp
      have hown4 := OW.out
      clear OW fz z0 z1 z2 z3 z4 z5 z6
      obtain ⟨own5, k7⟩ := own_store7 hown4 rfl (opT t) (.slice none 0 0)
      unfold set7 opT at own5 k7
      have hH2 := (⟨k7.cell (Ne.symm n3) hHeld.1, k7.cell (Ne.symm n3) hHeld.2.1, k7.cell (Ne.symm n3) hHeld.2.2.1, k7.cell (Ne.symm n3) hHeld.2.2.2.1, k7.cell (Ne.symm n3) hHeld.2.2.2.2.1, k7.cell (Ne.symm n3) hHeld.2.2.2.2.2⟩ : _ ∧ _ ∧ _ ∧ _ ∧ _ ∧ _)
      replace h := h.ch k7 (Ne.symm n2)
      replace kz := kz.trans (Kp.ch (X := fun i => i = gb) k7 rfl) (fun i hi e => by rw [e] at hi ⊢; rcases hat with c | c; exact Or.inr c; omega)
      clear hown4 k7
      generalize hw_ : (((((((w3.setCell ⟨gb, L.length * 7, none⟩ (.int .i64 0)).setCell ⟨gb, L.length * 7 + 1, none⟩ (.string ⟨#[]⟩)).setCell ⟨gb, L.length * 7 + 2, none⟩ (.int .i64 t.b)).setCell ⟨gb, L.length * 7 + 3, none⟩ (.int .i64 t.e)).setCell ⟨gb, L.length * 7 + 4, none⟩ (.int .i64 t.l)).setCell ⟨gb, L.length * 7 + 5, none⟩ (.int .i64 t.c)).setCell ⟨gb, L.length * 7 + 6, none⟩ (.slice none 0 0)) = w4 at own5 hH2 h kz ⊢
      clear hw_
      refine hKK.out _ _ hH2 ?_
      clear hHeld
      intro hHeld
      clear hKK KK
      try simp only [Act.put, List.setIfInBounds_toArray, List.set_cons_zero, List.set_cons_succ]
      clear hH2
      refine wpAnyH_ready (rs := [13]) (by kernel_rfl) (by simp) ?_
      refine cons' rfl (fun KK hKK => ?_)
      have fz := fun o => h.frozen o
      have y1 := h.cell 1
      simp only [rdC, List.getElem?_toArray, List.getElem?_cons_zero, List.getElem?_cons_succ] at y1
      have HB := hideT h
      clear h
      go_simp
      have h := HB.out
      clear HB fz y1
      obtain ⟨k8, q8⟩ := h.set (o := 1) (.slice (some ⟨gb, 0, none⟩) (L.length + 1) cap)
      have h2 : Blk (w4.setCell ⟨b, 1, none⟩ (.slice (some ⟨gb, 0, none⟩) (L.length + 1) cap)) b (rdC p (.slice (some ⟨gb, 0, none⟩) (L.length + 1) cap) d en er pl) 63 := by simpa [rdC] using q8
      clear h q8
      have h := h2
      clear h2
      have hH2 := (⟨k8.cell (Ne.symm nb) hHeld.1, k8.cell (Ne.symm nb) hHeld.2.1, k8.cell (Ne.symm nb) hHeld.2.2.1, k8.cell (Ne.symm nb) hHeld.2.2.2.1, k8.cell (Ne.symm nb) hHeld.2.2.2.2.1, k8.cell (Ne.symm nb) hHeld.2.2.2.2.2⟩ : _ ∧ _ ∧ _ ∧ _ ∧ _ ∧ _)
      replace own5 := own_kp own5 (Kp.ch (X := fun i => i = b) k8 rfl) (fun g hg e => by have hg2 : gb = g := (by injection hg); exact n2 (hg2.trans e))
      replace kz := kz.trans (Kp.ch (X := fun i => i = b) k8 rfl) (fun i hi e => Or.inl e)
      clear k8
      generalize w4.setCell ⟨b, 1, none⟩ (.slice (some ⟨gb, 0, none⟩) (L.length + 1) cap) = w5 at own5 hH2 h kz ⊢
      refine hKK.out _ _ hH2 ?_
      clear hHeld
      intro hHeld
      clear hKK KK
      try simp only [Act.put, List.setIfInBounds_toArray, List.set_cons_zero, List.set_cons_succ]
      clear hH2
      refine wpAnyH_done (by kernel_rfl) ?_ _
      clear hHeld
      have y2 := h.cell 2
      simp only [rdC, List.getElem?_toArray, List.getElem?_cons_zero, List.getElem?_cons_succ] at y2
      have fz := fun o => h.frozen o
      go_wp2
      clear fz y2
      obtain ⟨k9, q9⟩ := h.set (o := 2) (.int .i64 ((d : Int) + 1))
      have h9 : Blk (w5.setCell ⟨b, 2, none⟩ (.int .i64 ((d : Int) + 1))) b (rdC p (.slice (some ⟨gb, 0, none⟩) (L.length + 1) cap) ((d : Int) + 1) en er pl) 63 := by simpa [rdC] using q9
      replace own5 := own_kp own5 (Kp.ch (X := fun i => i = b) k9 rfl) (fun g hg e => by have hg2 : gb = g := (by injection hg); exact n2 (hg2.trans e))
      replace kz := kz.trans (Kp.ch (X := fun i => i = b) k9 rfl) (fun i hi e => Or.inl e)
      first | go_end0 | skip
      exact ⟨_, rfl, own5, h9, kz, by rcases hat with c | c; exact Or.inl (by rw [c]; rfl); exact Or.inr ⟨gb, rfl, by omega⟩⟩
    refine consTX rfl (fun KK hKK => ?_) ?_
    · skip
      have fz := fun o => h.frozen o
      have y1 := h.cell 1
      simp only [rdC, List.getElem?_toArray, List.getElem?_cons_zero, List.getElem?_cons_succ] at y1
      have HB := hideT h
      clear h
      go_simp
      have h := HB.out
      clear HB fz y1
      obtain ⟨k8, q8⟩ := h.set (o := 1) (.slice (some ⟨gb, 0, none⟩) (L.length + 1) cap)
      have h2 : Blk (w3.setCell ⟨b, 1, none⟩ (.slice (some ⟨gb, 0, none⟩) (L.length + 1) cap)) b (rdC p (.slice (some ⟨gb, 0, none⟩) (L.length + 1) cap) d en er pl) 63 := by simpa [rdC] using q8
      clear h q8
      have h := h2
      clear h2
      have hH2 := (⟨k8.cell (Ne.symm nb) hHeld.1, k8.cell (Ne.symm nb) hHeld.2.1, k8.cell (Ne.symm nb) hHeld.2.2.1, k8.cell (Ne.symm nb) hHeld.2.2.2.1, k8.cell (Ne.symm nb) hHeld.2.2.2.2.1, k8.cell (Ne.symm nb) hHeld.2.2.2.2.2⟩ : _ ∧ _ ∧ _ ∧ _ ∧ _ ∧ _)
      replace hown4 := own_kp hown4 (Kp.ch (X := fun i => i = b) k8 rfl) (fun g hg e => by have hg2 : gb = g := (by injection hg); exact n2 (hg2.trans e))
      replace kz := kz.trans (Kp.ch (X := fun i => i = b) k8 rfl) (fun i hi e => Or.inl e)
      clear k8
      generalize w3.setCell ⟨b, 1, none⟩ (.slice (some ⟨gb, 0, none⟩) (L.length + 1) cap) = w4 at hown4 hH2 h kz ⊢
      refine hKK.out _ _ hH2 ?_
      clear hHeld
      intro hHeld
      clear hKK KK
      try simp only [Act.put, List.setIfInBounds_toArray, List.set_cons_zero, List.set_cons_succ]
      clear hH2
      refine wpAnyH_ready (rs := [10]) (by kernel_rfl) (by simp) ?_
      refine cons' rfl (fun KK hKK => ?_)
      have z0 : w4.cell? ⟨gb, L.length * 7, none⟩ = zero7[0]? := by rw [hown4.cellAt (L.length * 7) (by omega), List.getElem?_append_right (by rw [nvCells_len]; omega), nvCells_len]; congr 1; omega
      have z1 : w4.cell? ⟨gb, L.length * 7 + 1, none⟩ = zero7[1]? := by rw [hown4.cellAt (L.length * 7 + 1) (by omega), List.getElem?_append_right (by rw [nvCells_len]; omega), nvCells_len]; congr 1; omega
      have z2 : w4.cell? ⟨gb, L.length * 7 + 2, none⟩ = zero7[2]? := by rw [hown4.cellAt (L.length * 7 + 2) (by omega), List.getElem?_append_right (by rw [nvCells_len]; omega), nvCells_len]; congr 1; omega
      have z3 : w4.cell? ⟨gb, L.length * 7 + 3, none⟩ = zero7[3]? := by rw [hown4.cellAt (L.length * 7 + 3) (by omega), List.getElem?_append_right (by rw [nvCells_len]; omega), nvCells_len]; congr 1; omega
      have z4 : w4.cell? ⟨gb, L.length * 7 + 4, none⟩ = zero7[4]? := by rw [hown4.cellAt (L.length * 7 + 4) (by omega), List.getElem?_append_right (by rw [nvCells_len]; omega), nvCells_len]; congr 1; omega
      have z5 : w4.cell? ⟨gb, L.length * 7 + 5, none⟩ = zero7[5]? := by rw [hown4.cellAt (L.length * 7 + 5) (by omega), List.getElem?_append_right (by rw [nvCells_len]; omega), nvCells_len]; congr 1; omega
      have z6 : w4.cell? ⟨gb, L.length * 7 + 6, none⟩ = zero7[6]? := by rw [hown4.cellAt (L.length * 7 + 6) (by omega), List.getElem?_append_right (by rw [nvCells_len]; omega), nvCells_len]; congr 1; omega
      simp only [zero7, List.getElem?_cons_zero, List.getElem?_cons_succ] at z0 z1 z2 z3 z4 z5 z6
      have fz := fun o => hown4.frozenAt o
      have OW := hideT hown4
      clear hown4
      go_simp
      have hown4 := OW.out
      clear OW fz z0 z1 z2 z3 z4 z5 z6
      obtain ⟨own5, k7⟩ := own_store7 hown4 rfl (opT t) (.slice none 0 0)
      unfold set7 opT at own5 k7
      have hH2 := (⟨k7.cell (Ne.symm n3) hHeld.1, k7.cell (Ne.symm n3) hHeld.2.1, k7.cell (Ne.symm n3) hHeld.2.2.1, k7.cell (Ne.symm n3) hHeld.2.2.2.1, k7.cell (Ne.symm n3) hHeld.2.2.2.2.1, k7.cell (Ne.symm n3) hHeld.2.2.2.2.2⟩ : _ ∧ _ ∧ _ ∧ _ ∧ _ ∧ _)
      replace h := h.ch k7 (Ne.symm n2)
      replace kz := kz.trans (Kp.ch (X := fun i => i = gb) k7 rfl) (fun i hi e => by rw [e] at hi ⊢; rcases hat with c | c; exact Or.inr c; omega)
      clear hown4 k7
      generalize hw_ : (((((((w4.setCell ⟨gb, L.length * 7, none⟩ (.int .i64 0)).setCell ⟨gb, L.length * 7 + 1, none⟩ (.string ⟨#[]⟩)).setCell ⟨gb, L.length * 7 + 2, none⟩ (.int .i64 t.b)).setCell ⟨gb, L.length * 7 + 3, none⟩ (.int .i64 t.e)).setCell ⟨gb, L.length * 7 + 4, none⟩ (.int .i64 t.l)).setCell ⟨gb, L.length * 7 + 5, none⟩ (.int .i64 t.c)).setCell ⟨gb, L.length * 7 + 6, none⟩ (.slice none 0 0)) = w5 at own5 hH2 h kz ⊢
      clear hw_
      refine hKK.out _ _ hH2 ?_
      clear hHeld
      intro hHeld
      clear hKK KK
      try simp only [Act.put, List.setIfInBounds_toArray, List.set_cons_zero, List.set_cons_succ]
      clear hH2
      refine wpAnyH_done (by kernel_rfl) ?_ _
      clear hHeld
      have y2 := h.cell 2
      simp only [rdC, List.getElem?_toArray, List.getElem?_cons_zero, List.getElem?_cons_succ] at y2
      have fz := fun o => h.frozen o
      go_wp2
      clear fz y2
      obtain ⟨k9, q9⟩ := h.set (o := 2) (.int .i64 ((d : Int) + 1))
      have h9 : Blk (w5.setCell ⟨b, 2, none⟩ (.int .i64 ((d : Int) + 1))) b (rdC p (.slice (some ⟨gb, 0, none⟩) (L.length + 1) cap) ((d : Int) + 1) en er pl) 63 := by simpa [rdC] using q9
      replace own5 := own_kp own5 (Kp.ch (X := fun i => i = b) k9 rfl) (fun g hg e => by have hg2 : gb = g := (by injection hg); exact n2 (hg2.trans e))
      replace kz := kz.trans (Kp.ch (X := fun i => i = b) k9 rfl) (fun i hi e => Or.inl e)
      first | go_end0 | skip
      exact ⟨_, rfl, own5, h9, kz, by rcases hat with c | c; exact Or.inl (by rw [c]; rfl); exact Or.inr ⟨gb, rfl, by omega⟩⟩
    exact AllReadyH.nil
  exact AllReadyH.nil

end Go.Proofs.YtibeiggedmabkaaDoor
