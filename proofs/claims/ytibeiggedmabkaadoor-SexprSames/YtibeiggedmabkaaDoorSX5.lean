/-
  The reader's shut.
-/
import Derived.Test.YtibeiggedmabkaaDoorSX4
namespace Go.Proofs.YtibeiggedmabkaaDoor
open Go.RowKit
set_option linter.unusedVariables false
set_option linter.unusedSimpArgs false
/-- a list's token, ended at its closing bracket -/
def shT (T : Tok) (e : Int) : Tok := ⟨T.k, T.t, T.b, e, T.l, T.c⟩
theorem Blk.set7 {c : Nat} {W : World} {u0 u1 u2 u3 u4 u5 u6 : Value} {t : TypeId} (h : Blk W c #[u0, u1, u2, u3, u4, u5, u6] t) (v0 v1 v2 v3 v4 v5 v6 : Value) :
    Ch c W (((((((W.setCell ⟨c, 0, none⟩ v0).setCell ⟨c, 1, none⟩ v1).setCell ⟨c, 2, none⟩ v2).setCell ⟨c, 3, none⟩ v3).setCell ⟨c, 4, none⟩ v4).setCell ⟨c, 5, none⟩ v5).setCell ⟨c, 6, none⟩ v6) ∧ Blk (((((((W.setCell ⟨c, 0, none⟩ v0).setCell ⟨c, 1, none⟩ v1).setCell ⟨c, 2, none⟩ v2).setCell ⟨c, 3, none⟩ v3).setCell ⟨c, 4, none⟩ v4).setCell ⟨c, 5, none⟩ v5).setCell ⟨c, 6, none⟩ v6) c #[v0, v1, v2, v3, v4, v5, v6] t := by
  refine ⟨((((((Ch.set v0).trans (Ch.set v1)).trans (Ch.set v2)).trans (Ch.set v3)).trans (Ch.set v4)).trans (Ch.set v5)).trans (Ch.set v6), ?_⟩
  simp [Blk, World.setCell, Array.getElem?_modify, show W.heap[c]? = _ from h]
theorem own_over7 {w : World} {base g n m cap : Nat} {ty : TypeId} {K : List (Tok × Value)} {x : Tok × Value} (h : w.ownsRow base ty 7 (.slice (some ⟨g, 0, none⟩) m cap) m (nvCells (K ++ [x]))) (hn : K.length = n) (v0 v1 v2 v3 v4 v5 v6 : Value) :
    (set7 w g (n * 7) v0 v1 v2 v3 v4 v5 v6).ownsRow base ty 7 (.slice (some ⟨g, 0, none⟩) m cap) m (nvCells K ++ [v0, v1, v2, v3, v4, v5, v6]) ∧ Ch g w (set7 w g (n * 7) v0 v1 v2 v3 v4 v5 v6) := by
  have hl : (nvCells K).length = n * 7 := by rw [nvCells_len, hn]
  rw [nvCells_app] at h
  have h0 := (h.stored (n * 7) v0).1
  have h1 := (h0.stored (n * 7 + 1) v1).1
  have h2 := (h1.stored (n * 7 + 2) v2).1
  have h3 := (h2.stored (n * 7 + 3) v3).1
  have h4 := (h3.stored (n * 7 + 4) v4).1
  have h5 := (h4.stored (n * 7 + 5) v5).1
  have h6 := (h5.stored (n * 7 + 6) v6).1
  have e0 := set_right (ys := nvCells [x]) hl 0 v0
  rw [Nat.add_zero] at e0
  rw [e0, set_right hl, set_right hl, set_right hl, set_right hl, set_right hl, set_right hl] at h6
  refine ⟨h6, ?_⟩
  exact ((((((Ch.set _).trans (Ch.set _)).trans (Ch.set _)).trans (Ch.set _)).trans (Ch.set _)).trans (Ch.set _)).trans (Ch.set _)
theorem own_cut {w : World} {base g n m cap size : Nat} {ty : TypeId} {xs ys : List Value} (h : w.ownsRow base ty size (.slice (some ⟨g, 0, none⟩) m cap) m (xs ++ ys)) (hn : n ≤ m) (hx : xs.length = n * size) : w.ownsRow base ty size (.slice (some ⟨g, 0, none⟩) n cap) n xs := by
  obtain ⟨h1, h2⟩ := h
  refine ⟨hx, Or.inr ?_⟩
  rcases h2 with ⟨e, _⟩ | ⟨g', cap', cur, e, hb, hg, hc, hm, hs, ht⟩
  · cases e
  · cases e
    refine ⟨g, cap, cur, rfl, hb, hg, Nat.le_trans hn hc, hm, hs, ?_⟩
    have hle : n * size ≤ m * size := Nat.mul_le_mul_right _ hn
    have : (cur.toList.take (m * size)).take (n * size) = cur.toList.take (n * size) := by rw [List.take_take, Nat.min_eq_left hle]
    rw [← this, ht, ← hx, List.take_left']
    rfl
theorem own_heap {w w' : World} {base g n m cap size : Nat} {ty : TypeId} {xs : List Value} (h : w.ownsRow base ty size (.slice (some ⟨g, 0, none⟩) m cap) n xs) (he : w'.heap[g]? = w.heap[g]?) : w'.ownsRow base ty size (.slice (some ⟨g, 0, none⟩) m cap) n xs := by
  obtain ⟨h1, h2⟩ := h
  refine ⟨h1, ?_⟩
  rcases h2 with ⟨e, _⟩ | ⟨g', cap', cur, e, hb, hg, hr⟩
  · cases e
  · cases e
    exact Or.inr ⟨g, cap, cur, rfl, hb, he.trans hg, hr⟩
theorem nv_last (L : List (Tok × Value)) (t : Tok) (v v' : Value) : (nvCells (L ++ [(t, v)])).set (L.length * 7 + 6) v' = nvCells (L ++ [(t, v')]) := by
  rw [nvCells_app, nvCells_app, set_right (nvCells_len L)]
  rfl
theorem nv_at (L : List (Tok × Value)) (x : Tok × Value) (j : Nat) (hj : j < 7) : (nvCells (L ++ [x]))[L.length * 7 + j]? = (x.1.cells ++ [x.2])[j]? := by
  rw [nvCells_app, List.getElem?_append_right (by rw [nvCells_len]; omega), nvCells_len, Nat.add_sub_cancel_left]
  simp [nvCells]
theorem slice_h (a : Option Addr) (m c d : Nat) (h : d ≤ c) (wx : World) : (Instr.slice 22 (.slice a m c) none (some (.int .i64 (d : Nat))) none).run Tryd.prog wx = .ok (.slice a d c) wx := by
  rw [run_slice_h wx 22 a m c (by kernel_rfl) .i64 (d : Nat) (by omega) (by omega), Int.toNat_natCast]
  have hs : (sizeOf (Tryd.prog.elem 22)).run Tryd.prog wx = .ok 7 wx := by
    have e : Tryd.prog.elem 22 = 34 := by kernel_rfl
    rw [e]
    go_simp
  rw [hs]
  rcases a with _ | ⟨x, y, z⟩ <;> simp [sliced, Result.andThen, Addr.add]
set_option maxHeartbeats 8000000 in
set_option maxRecDepth 100000 in
theorem rshut_is (b gl d m c base : Nat) (p : Option Addr) (en : Bool) (er pl : Int) (L : List (Tok × Value)) (tp : Tok) (v : Value) (s : Tok) (ua : Option Addr) (un uc : Nat) (K : List (Tok × Value)) (t : Tok) (w : World) (h : Blk w b (rdC p (.slice (some ⟨gl, 0, none⟩) m c) d en er pl) 63) (hL : w.ownsRow base 34 7 (.slice (some ⟨gl, 0, none⟩) m c) m (nvCells ((L ++ [(tp, v)]) ++ [(s, .slice ua un uc)]))) (hd : d = L.length + 1) (hm : m = d + 1) (hdm : d ≤ 1000) (hmc : m ≤ c) (hK : w.ownsRow base 34 7 v K.length (nvCells K)) (hgb : gl ≠ b) (hvg : v.ownBlock ≠ some gl) (hvb : v.ownBlock ≠ some b) (hkl : K.length ≤ 1000000000) (hbase : base ≤ w.heap.size) :
    Calls Tryd.prog 41 #[.pointer (some ⟨b, 0, none⟩), .agg #[.int .i64 t.k, .string t.t, .int .i64 t.b, .int .i64 t.e, .int .i64 t.l, .int .i64 t.c]] w fun r w' => ∃ v', r = .returned (.tuple #[]) ∧ w'.ownsRow base 34 7 v' (K.length + 1) (nvCells (K ++ [(shT s t.e, .slice ua un uc)])) ∧ w'.ownsRow base 34 7 (.slice (some ⟨gl, 0, none⟩) d c) d (nvCells (L ++ [(tp, v')])) ∧ Blk w' b (rdC p (.slice (some ⟨gl, 0, none⟩) d c) (L.length : Nat) en er pl) 63 ∧ Kp (fun k => k = b ∨ k = gl ∨ v.ownBlock = some k) w w' ∧ (v'.ownBlock = v.ownBlock ∨ ∃ g, v'.ownBlock = some g ∧ w.heap.size ≤ g) := by
  have b0 := below_alloc (w := w) (.cells #[.int .i64 t.k, .string t.t, .int .i64 t.b, .int .i64 t.e, .int .i64 t.l, .int .i64 t.c] 32)
  have qN := Blk.new w #[.int .i64 t.k, .string t.t, .int .i64 t.b, .int .i64 t.e, .int .i64 t.l, .int .i64 t.c] 32
  have e1 : (w.alloc (.cells #[.int .i64 t.k, .string t.t, .int .i64 t.b, .int .i64 t.e, .int .i64 t.l, .int .i64 t.c] 32)).heap.size = w.heap.size + 1 := by simp
  have hlt := h.lt
  have hgl := (own_lt hL (g := gl) rfl).2
  have hvlt := fun g hg => (own_lt hK (g := g) hg).2
  replace h := h.later b0
  replace hL := own_kp hL (Kp.of (X := fun _ => False) b0) (fun _ _ c => c)
  replace hK := own_kp hK (Kp.of (X := fun _ => False) b0) (fun _ _ c => c)
  have kz : Kp (fun k => k = b ∨ k = gl ∨ v.ownBlock = some k) w (w.alloc (.cells #[.int .i64 t.k, .string t.t, .int .i64 t.b, .int .i64 t.e, .int .i64 t.l, .int .i64 t.c] 32)) := Kp.of b0
  have xd : ((d : Int) == 0) = false := by rw [beq_eq_false_iff_ne]; omega
  have hdi : ((d : Int) < (m : Int)) := by omega
  have hLl : (L ++ [(tp, v)]).length = d := by simp; omega
  have HSL := slice_h (some ⟨gl, 0, none⟩) m c d (by omega)
  have HE := hideT hd
  clear hd
  have hm1 : d + 1 ≤ m := by omega
  have hm2 : m ≤ d + 1 := by omega
  clear hm
  go_enter Tryd.func41, Tryd.ntmps41
  go_upto_region 1 with fail
  generalize w.alloc (.cells #[.int .i64 t.k, .string t.t, .int .i64 t.b, .int .i64 t.e, .int .i64 t.l, .int .i64 t.c] 32) = W at b0 qN e1 h hL hK kz ⊢
  have y2 := h.cell 2
  simp only [rdC, List.getElem?_toArray, List.getElem?_cons_zero, List.getElem?_cons_succ] at y2
  go_wp2_with fail
  clear y2
  have hs1 : w.heap.size + 1 ≤ W.heap.size := by omega
  clear b0 e1
  have y1 := h.cell 1
  have y2 := h.cell 2
  simp only [rdC, List.getElem?_toArray, List.getElem?_cons_zero, List.getElem?_cons_succ] at y1 y2
  have z0 : W.cell? ⟨gl, d * 7, none⟩ = some (.int .i64 s.k) := by rw [hL.cellAt (d * 7) (by omega), ← hLl, show (L ++ [(tp, v)]).length * 7 = (L ++ [(tp, v)]).length * 7 + 0 by omega, nv_at _ _ _ (by omega)]; rfl
  have z1 : W.cell? ⟨gl, d * 7 + 1, none⟩ = some (.string s.t) := by rw [hL.cellAt (d * 7 + 1) (by omega), ← hLl, show (L ++ [(tp, v)]).length * 7 + 1 = (L ++ [(tp, v)]).length * 7 + 1 by omega, nv_at _ _ _ (by omega)]; rfl
  have z2 : W.cell? ⟨gl, d * 7 + 2, none⟩ = some (.int .i64 s.b) := by rw [hL.cellAt (d * 7 + 2) (by omega), ← hLl, show (L ++ [(tp, v)]).length * 7 + 2 = (L ++ [(tp, v)]).length * 7 + 2 by omega, nv_at _ _ _ (by omega)]; rfl
  have z3 : W.cell? ⟨gl, d * 7 + 3, none⟩ = some (.int .i64 s.e) := by rw [hL.cellAt (d * 7 + 3) (by omega), ← hLl, show (L ++ [(tp, v)]).length * 7 + 3 = (L ++ [(tp, v)]).length * 7 + 3 by omega, nv_at _ _ _ (by omega)]; rfl
  have z4 : W.cell? ⟨gl, d * 7 + 4, none⟩ = some (.int .i64 s.l) := by rw [hL.cellAt (d * 7 + 4) (by omega), ← hLl, show (L ++ [(tp, v)]).length * 7 + 4 = (L ++ [(tp, v)]).length * 7 + 4 by omega, nv_at _ _ _ (by omega)]; rfl
  have z5 : W.cell? ⟨gl, d * 7 + 5, none⟩ = some (.int .i64 s.c) := by rw [hL.cellAt (d * 7 + 5) (by omega), ← hLl, show (L ++ [(tp, v)]).length * 7 + 5 = (L ++ [(tp, v)]).length * 7 + 5 by omega, nv_at _ _ _ (by omega)]; rfl
  have z6 : W.cell? ⟨gl, d * 7 + 6, none⟩ = some (.slice ua un uc) := by rw [hL.cellAt (d * 7 + 6) (by omega), ← hLl, show (L ++ [(tp, v)]).length * 7 + 6 = (L ++ [(tp, v)]).length * 7 + 6 by omega, nv_at _ _ _ (by omega)]; rfl
  have bD : Below W.heap.size W W.drew := (Below.refl _ _).drew
  have ky1 := below_cell bD y1
  have ky2 := below_cell bD y2
  have kz0 := below_cell bD z0
  have kz1 := below_cell bD z1
  have kz2 := below_cell bD z2
  have kz3 := below_cell bD z3
  have kz4 := below_cell bD z4
  have kz5 := below_cell bD z5
  have kz6 := below_cell bD z6
  replace h := h.later bD
  replace qN := qN.later bD
  replace hL := own_kp hL (Kp.of (X := fun _ => False) bD) (fun _ _ c => c)
  replace hK := own_kp hK (Kp.of (X := fun _ => False) bD) (fun _ _ c => c)
  replace kz := kz.trans (Kp.of (X := (fun k => k = b ∨ k = gl ∨ v.ownBlock = some k)) bD) (fun _ _ c => c)
  replace hs1 := Nat.le_trans hs1 bD.size
  refine wp_region_held_drew (S := fun w' => w'.cell? ⟨b, 1, none⟩ = some (.slice (some ⟨gl, 0, none⟩) m c) ∧ w'.cell? ⟨b, 2, none⟩ = some (.int .i64 d) ∧ w'.cell? ⟨gl, d * 7, none⟩ = some (.int .i64 s.k) ∧ w'.cell? ⟨gl, d * 7 + 1, none⟩ = some (.string s.t) ∧ w'.cell? ⟨gl, d * 7 + 2, none⟩ = some (.int .i64 s.b) ∧ w'.cell? ⟨gl, d * 7 + 3, none⟩ = some (.int .i64 s.e) ∧ w'.cell? ⟨gl, d * 7 + 4, none⟩ = some (.int .i64 s.l) ∧ w'.cell? ⟨gl, d * 7 + 5, none⟩ = some (.int .i64 s.c) ∧ w'.cell? ⟨gl, d * 7 + 6, none⟩ = some (.slice ua un uc)) (by kernel_rfl) ⟨ky1, ky2, kz0, kz1, kz2, kz3, kz4, kz5, kz6⟩ (fun hHeld => ?_)
  clear ky1 ky2 kz0 kz1 kz2 kz3 kz4 kz5 kz6
  generalize W.drew = w0 at bD hL hK kz hs1 h qN hHeld ⊢
  clear bD
  clear y1 y2 z0 z1 z2 z3 z4 z5 z6
  refine take' 0 (v := ?_) rfl (by kernel_rfl) (by kernel_rfl) (by kernel_rfl) (fun _ _ _ h => h) (Or.inl ⟨by rfl, ?_⟩) (by assumption) ?_
  rotate_left
  · intro w9 hSw
    go_simp
    first | done | with_reducible rfl
  simp only [Act.put, List.setIfInBounds_toArray, List.set_cons_zero, List.set_cons_succ]
  refine take' 1 (v := ?_) rfl (by kernel_rfl) (by kernel_rfl) (by kernel_rfl) (fun _ _ _ h => h) (Or.inl ⟨by rfl, ?_⟩) (by assumption) ?_
  rotate_left
  · intro w9 hSw
    go_simp
    first | done | with_reducible rfl
  simp only [Act.put, List.setIfInBounds_toArray, List.set_cons_zero, List.set_cons_succ]
  refine take' 2 (v := ?_) rfl (by kernel_rfl) (by kernel_rfl) (by kernel_rfl) (fun _ _ _ h => h) (Or.inl ⟨by rfl, ?_⟩) (by assumption) ?_
  rotate_left
  · intro w9 hSw
    go_simp
    first | done | with_reducible rfl
  simp only [Act.put, List.setIfInBounds_toArray, List.set_cons_zero, List.set_cons_succ]
  refine take' 3 (v := ?_) rfl (by kernel_rfl) (by kernel_rfl) (by kernel_rfl) (fun _ _ _ h => h) (Or.inl ⟨by rfl, ?_⟩) (by assumption) ?_
  rotate_left
  · intro w9 hSw
    go_simp
    first | done | with_reducible rfl
  simp only [Act.put, List.setIfInBounds_toArray, List.set_cons_zero, List.set_cons_succ]
  refine take' 4 (v := ?_) rfl (by kernel_rfl) (by kernel_rfl) (by kernel_rfl) (fun _ _ _ h => h) (Or.inl ⟨by rfl, ?_⟩) (by assumption) ?_
  rotate_left
  · intro w9 hSw
    go_simp
    first | done | with_reducible rfl
  simp only [Act.put, List.setIfInBounds_toArray, List.set_cons_zero, List.set_cons_succ]
  refine take' 5 (v := ?_) rfl (by kernel_rfl) (by kernel_rfl) (by kernel_rfl) (fun _ _ _ h => h) (Or.inl ⟨by rfl, ?_⟩) (by assumption) ?_
  rotate_left
  · intro w9 hSw
    go_simp
    first | done | with_reducible rfl
  simp only [Act.put, List.setIfInBounds_toArray, List.set_cons_zero, List.set_cons_succ]
  refine take' 6 (v := ?_) rfl (by kernel_rfl) (by kernel_rfl) (by kernel_rfl) (fun _ _ _ h => h) (Or.inl ⟨by rfl, ?_⟩) (by assumption) ?_
  rotate_left
  · intro w9 hSw
    go_simp
    first | done | with_reducible rfl
  simp only [Act.put, List.setIfInBounds_toArray, List.set_cons_zero, List.set_cons_succ]
  refine take' 7 (v := ?_) rfl (by kernel_rfl) (by kernel_rfl) (by kernel_rfl) (fun _ _ _ h => h) (Or.inl ⟨by rfl, ?_⟩) (by assumption) ?_
  rotate_left
  · intro w9 hSw
    go_simp
    first | done | with_reducible rfl
  simp only [Act.put, List.setIfInBounds_toArray, List.set_cons_zero, List.set_cons_succ]
  refine take' 8 (v := ?_) rfl (by kernel_rfl) (by kernel_rfl) (by kernel_rfl) (fun _ _ _ h => h) (Or.inl ⟨by rfl, ?_⟩) (by assumption) ?_
  rotate_left
  · intro w9 hSw
    go_simp
    first | done | with_reducible rfl
  simp only [Act.put, List.setIfInBounds_toArray, List.set_cons_zero, List.set_cons_succ]
  refine take' 9 (v := ?_) rfl (by kernel_rfl) (by kernel_rfl) (by kernel_rfl) (fun _ _ _ h => h) (Or.inl ⟨by rfl, ?_⟩) (by assumption) ?_
  rotate_left
  · intro w9 hSw
    go_simp
    first | done | with_reducible rfl
  simp only [Act.put, List.setIfInBounds_toArray, List.set_cons_zero, List.set_cons_succ]
  refine wpAnyH_ready (rs := [10]) (by kernel_rfl) (by simp) ?_
  refine cons' rfl (fun KK hKK => ?_)
  go_simp
  have b3 := below_alloc (w := w0) (.cells #[.int .i64 0, .string ⟨#[]⟩, .int .i64 0, .int .i64 0, .int .i64 0, .int .i64 0, .slice none 0 0] 34)
  have qL := Blk.new w0 #[.int .i64 0, .string ⟨#[]⟩, .int .i64 0, .int .i64 0, .int .i64 0, .int .i64 0, .slice none 0 0] 34
  have hq1 : w.heap.size + 1 ≤ w0.heap.size := hs1
  replace h := h.later b3
  replace qN := qN.later b3
  replace hHeld := (⟨below_cell b3 hHeld.1, below_cell b3 hHeld.2.1, below_cell b3 hHeld.2.2.1, below_cell b3 hHeld.2.2.2.1, below_cell b3 hHeld.2.2.2.2.1, below_cell b3 hHeld.2.2.2.2.2.1, below_cell b3 hHeld.2.2.2.2.2.2.1, below_cell b3 hHeld.2.2.2.2.2.2.2.1, below_cell b3 hHeld.2.2.2.2.2.2.2.2⟩ : _ ∧ _ ∧ _ ∧ _ ∧ _ ∧ _ ∧ _ ∧ _ ∧ _)
  replace hL := own_kp hL (Kp.of (X := fun _ => False) b3) (fun _ _ c => c)
  replace hK := own_kp hK (Kp.of (X := fun _ => False) b3) (fun _ _ c => c)
  replace kz := kz.trans (Kp.of (X := (fun k => k = b ∨ k = gl ∨ v.ownBlock = some k)) b3) (fun _ _ c => c)
  replace hs1 := Nat.le_trans hs1 b3.size
  generalize w0.alloc (.cells #[.int .i64 0, .string ⟨#[]⟩, .int .i64 0, .int .i64 0, .int .i64 0, .int .i64 0, .slice none 0 0] 34) = wx at b3 qL h qN hL hK kz hs1 hHeld ⊢
  clear b3
  generalize w0.heap.size = q at qL hq1 ⊢
  refine hKK.out _ _ hHeld ?_
  clear hHeld
  intro hHeld
  clear hKK KK
  try simp only [Act.put, List.setIfInBounds_toArray, List.set_cons_zero, List.set_cons_succ]
  refine wpAnyH_ready (rs := [11]) (by kernel_rfl) (by simp) ?_
  refine cons' rfl (fun KK hKK => ?_)
  have fz := fun o => qL.frozen o
  have t0 := qL.cell 0
  have t1 := qL.cell 1
  have t2 := qL.cell 2
  have t3 := qL.cell 3
  have t4 := qL.cell 4
  have t5 := qL.cell 5
  have t6 := qL.cell 6
  simp only [rdC, List.getElem?_toArray, List.getElem?_cons_zero, List.getElem?_cons_succ] at t0 t1 t2 t3 t4 t5 t6
  go_simp
  clear fz t0 t1 t2 t3 t4 t5 t6
  obtain ⟨k7, q7⟩ := qL.set7 (.int .i64 s.k) (.string s.t) (.int .i64 s.b) (.int .i64 s.e) (.int .i64 s.l) (.int .i64 s.c) (.slice ua un uc)
  clear qL
  have nqb : b ≠ q := by omega
  have nqg : gl ≠ q := by omega
  have hH2 := (⟨k7.cell nqb hHeld.1, k7.cell nqb hHeld.2.1, k7.cell nqg hHeld.2.2.1, k7.cell nqg hHeld.2.2.2.1, k7.cell nqg hHeld.2.2.2.2.1, k7.cell nqg hHeld.2.2.2.2.2.1, k7.cell nqg hHeld.2.2.2.2.2.2.1, k7.cell nqg hHeld.2.2.2.2.2.2.2.1, k7.cell nqg hHeld.2.2.2.2.2.2.2.2⟩ : _ ∧ _ ∧ _ ∧ _ ∧ _ ∧ _ ∧ _ ∧ _ ∧ _)
  replace h := h.ch k7 nqb
  replace qN := qN.ch k7 (by omega)
  replace hL := own_kp hL (Kp.ch (X := fun i => i = q) k7 rfl) (fun g hg e => by have hg2 : gl = g := (by injection hg); omega)
  replace hK := own_kp hK (Kp.ch (X := fun i => i = q) k7 rfl) (fun g hg e => by have := hvlt g hg; omega)
  replace kz := kz.trans (Kp.ch (X := fun i => i = q) k7 rfl) (fun i hi e => by omega)
  replace hs1 := Nat.le_trans hs1 (Nat.le_of_eq k7.size.symm)
  clear k7
  generalize (((((((wx.setCell ⟨q, 0, none⟩ (.int .i64 s.k)).setCell ⟨q, 1, none⟩ (.string s.t)).setCell ⟨q, 2, none⟩ (.int .i64 s.b)).setCell ⟨q, 3, none⟩ (.int .i64 s.e)).setCell ⟨q, 4, none⟩ (.int .i64 s.l)).setCell ⟨q, 5, none⟩ (.int .i64 s.c)).setCell ⟨q, 6, none⟩ (.slice ua un uc)) = w1 at q7 h qN hL hK kz hs1 hH2 ⊢
  refine hKK.out _ _ hH2 ?_
  clear hHeld
  intro hHeld
  clear hKK KK
  try simp only [Act.put, List.setIfInBounds_toArray, List.set_cons_zero, List.set_cons_succ]
  clear hH2
  refine wpAnyH_done (by kernel_rfl) ?_ _
  clear hHeld
  have fz := fun o => q7.frozen o
  have t3 := q7.cell 3
  have u3 := qN.cell 3
  simp only [rdC, List.getElem?_toArray, List.getElem?_cons_zero, List.getElem?_cons_succ] at t3 u3
  go_wp2_with fail
  clear fz t3 u3
  obtain ⟨k8, q8⟩ := q7.set (o := 3) (.int .i64 t.e)
  have qM : Blk (w1.setCell ⟨q, 3, none⟩ (.int .i64 t.e)) q #[.int .i64 s.k, .string s.t, .int .i64 s.b, .int .i64 t.e, .int .i64 s.l, .int .i64 s.c, .slice ua un uc] 34 := by simpa using q8
  clear q7 q8 qN
  replace h := h.ch k8 nqb
  replace hL := own_kp hL (Kp.ch (X := fun i => i = q) k8 rfl) (fun g hg e => by have hg2 : gl = g := (by injection hg); omega)
  replace hK := own_kp hK (Kp.ch (X := fun i => i = q) k8 rfl) (fun g hg e => by have := hvlt g hg; omega)
  replace kz := kz.trans (Kp.ch (X := fun i => i = q) k8 rfl) (fun i hi e => by omega)
  replace hs1 := Nat.le_trans hs1 (Nat.le_of_eq k8.size.symm)
  clear k8
  generalize w1.setCell ⟨q, 3, none⟩ (.int .i64 t.e) = w2 at qM h hL hK kz hs1 ⊢
  have y1 := h.cell 1
  have y2 := h.cell 2
  simp only [rdC, List.getElem?_toArray, List.getElem?_cons_zero, List.getElem?_cons_succ] at y1 y2
  have bD : Below w2.heap.size w2 w2.drew := (Below.refl _ _).drew
  have ky1 := below_cell bD y1
  have ky2 := below_cell bD y2
  replace h := h.later bD
  replace qM := qM.later bD
  replace hL := own_kp hL (Kp.of (X := fun _ => False) bD) (fun _ _ c => c)
  replace hK := own_kp hK (Kp.of (X := fun _ => False) bD) (fun _ _ c => c)
  replace kz := kz.trans (Kp.of (X := (fun k => k = b ∨ k = gl ∨ v.ownBlock = some k)) bD) (fun _ _ c => c)
  replace hs1 := Nat.le_trans hs1 bD.size
  refine wp_region_held_drew (S := fun w' => w'.cell? ⟨b, 1, none⟩ = some (.slice (some ⟨gl, 0, none⟩) m c) ∧ w'.cell? ⟨b, 2, none⟩ = some (.int .i64 d)) (by kernel_rfl) ⟨ky1, ky2⟩ (fun hHeld => ?_)
  clear ky1 ky2
  generalize w2.drew = w3 at bD hL hK kz hs1 h qM hHeld ⊢
  clear bD
  clear y1 y2
  refine take' 0 (v := ?_) rfl (by kernel_rfl) (by kernel_rfl) (by kernel_rfl) (fun _ _ _ h => h) (Or.inl ⟨by rfl, ?_⟩) (by assumption) ?_
  rotate_left
  · intro w9 hSw
    go_simp
    first | done | with_reducible rfl
  simp only [Act.put, List.setIfInBounds_toArray, List.set_cons_zero, List.set_cons_succ]
  refine take' 1 (v := ?_) rfl (by kernel_rfl) (by kernel_rfl) (by kernel_rfl) (fun _ _ _ h => h) (Or.inl ⟨by rfl, ?_⟩) (by assumption) ?_
  rotate_left
  · intro w9 hSw
    go_simp
    first | done | with_reducible rfl
  simp only [Act.put, List.setIfInBounds_toArray, List.set_cons_zero, List.set_cons_succ]
  refine take' 2 (v := ?_) rfl (by kernel_rfl) (by kernel_rfl) (by kernel_rfl) (fun _ _ _ h => h) (Or.inl ⟨by rfl, ?_⟩) (by assumption) ?_
  rotate_left
  · intro w9 hSw
    go_simp
    first | done | with_reducible rfl
  simp only [Act.put, List.setIfInBounds_toArray, List.set_cons_zero, List.set_cons_succ]
  refine take' 3 (v := ?_) rfl (by kernel_rfl) (by kernel_rfl) (by kernel_rfl) (fun _ _ _ h => h) (Or.inl ⟨by rfl, ?_⟩) (by assumption) ?_
  rotate_left
  · intro w9 hSw
    go_simp
    first | done | with_reducible rfl
  simp only [Act.put, List.setIfInBounds_toArray, List.set_cons_zero, List.set_cons_succ]
  refine take' 4 (v := ?_) rfl (by kernel_rfl) (by kernel_rfl) (by kernel_rfl) (fun _ _ _ h => h) (Or.inl ⟨by rfl, ?_⟩) (by assumption) ?_
  rotate_left
  · intro w9 hSw
    go_simp
    first | done | with_reducible rfl
  simp only [Act.put, List.setIfInBounds_toArray, List.set_cons_zero, List.set_cons_succ]
  refine take' 5 (v := ?_) rfl (by kernel_rfl) (by kernel_rfl) (by kernel_rfl) (fun _ _ _ h => h) (Or.inl ⟨by rfl, ?_⟩) (by assumption) ?_
  rotate_left
  · intro w9 hSw
    go_simp
    first | done | with_reducible rfl
  simp only [Act.put, List.setIfInBounds_toArray, List.set_cons_zero, List.set_cons_succ]
  refine take' 6 (v := ?_) rfl (by kernel_rfl) (by kernel_rfl) (by kernel_rfl) (fun _ _ _ h => h) (Or.inl ⟨by rfl, ?_⟩) (by assumption) ?_
  rotate_left
  · intro w9 hSw
    go_simp
    first | done | with_reducible rfl
  simp only [Act.put, List.setIfInBounds_toArray, List.set_cons_zero, List.set_cons_succ]
  refine take' 7 (v := ?_) rfl (by kernel_rfl) (by kernel_rfl) (by kernel_rfl) (fun _ _ _ h => h) (Or.inl ⟨by rfl, ?_⟩) (by assumption) ?_
  rotate_left
  · intro w9 hSw
    go_simp
    first | done | with_reducible rfl
  simp only [Act.put, List.setIfInBounds_toArray, List.set_cons_zero, List.set_cons_succ]
  refine take' 8 (v := ?_) rfl (by kernel_rfl) (by kernel_rfl) (by kernel_rfl) (fun _ _ _ h => h) (Or.inl ⟨by rfl, ?_⟩) (by assumption) ?_
  rotate_left
  · intro w9 hSw
    go_simp
    first | done | with_reducible rfl
  simp only [Act.put, List.setIfInBounds_toArray, List.set_cons_zero, List.set_cons_succ]
  refine take' 9 (v := ?_) rfl (by kernel_rfl) (by kernel_rfl) (by kernel_rfl) (fun _ _ _ h => h) (Or.inl ⟨by rfl, ?_⟩) (by assumption) ?_
  rotate_left
  · intro w9 hSw
    go_simp
    first | done | with_reducible rfl
  simp only [Act.put, List.setIfInBounds_toArray, List.set_cons_zero, List.set_cons_succ]
  refine wpAnyH_ready (rs := [10]) (by kernel_rfl) (by simp) ?_
  refine cons' rfl (fun KK hKK => ?_)
  have z0 : w3.cell? ⟨gl, d * 7, none⟩ = some (.int .i64 s.k) := by rw [hL.cellAt (d * 7) (by omega), ← hLl, show (L ++ [(tp, v)]).length * 7 = (L ++ [(tp, v)]).length * 7 + 0 by omega, nv_at _ _ _ (by omega)]; rfl
  have z1 : w3.cell? ⟨gl, d * 7 + 1, none⟩ = some (.string s.t) := by rw [hL.cellAt (d * 7 + 1) (by omega), ← hLl, show (L ++ [(tp, v)]).length * 7 + 1 = (L ++ [(tp, v)]).length * 7 + 1 by omega, nv_at _ _ _ (by omega)]; rfl
  have z2 : w3.cell? ⟨gl, d * 7 + 2, none⟩ = some (.int .i64 s.b) := by rw [hL.cellAt (d * 7 + 2) (by omega), ← hLl, show (L ++ [(tp, v)]).length * 7 + 2 = (L ++ [(tp, v)]).length * 7 + 2 by omega, nv_at _ _ _ (by omega)]; rfl
  have z3 : w3.cell? ⟨gl, d * 7 + 3, none⟩ = some (.int .i64 s.e) := by rw [hL.cellAt (d * 7 + 3) (by omega), ← hLl, show (L ++ [(tp, v)]).length * 7 + 3 = (L ++ [(tp, v)]).length * 7 + 3 by omega, nv_at _ _ _ (by omega)]; rfl
  have z4 : w3.cell? ⟨gl, d * 7 + 4, none⟩ = some (.int .i64 s.l) := by rw [hL.cellAt (d * 7 + 4) (by omega), ← hLl, show (L ++ [(tp, v)]).length * 7 + 4 = (L ++ [(tp, v)]).length * 7 + 4 by omega, nv_at _ _ _ (by omega)]; rfl
  have z5 : w3.cell? ⟨gl, d * 7 + 5, none⟩ = some (.int .i64 s.c) := by rw [hL.cellAt (d * 7 + 5) (by omega), ← hLl, show (L ++ [(tp, v)]).length * 7 + 5 = (L ++ [(tp, v)]).length * 7 + 5 by omega, nv_at _ _ _ (by omega)]; rfl
  have z6 : w3.cell? ⟨gl, d * 7 + 6, none⟩ = some (.slice ua un uc) := by rw [hL.cellAt (d * 7 + 6) (by omega), ← hLl, show (L ++ [(tp, v)]).length * 7 + 6 = (L ++ [(tp, v)]).length * 7 + 6 by omega, nv_at _ _ _ (by omega)]; rfl
  have fz := fun o => hL.frozenAt o
  have OW := hideT hL
  clear hL
  go_simp
  have hL := OW.out
  clear OW fz z0 z1 z2 z3 z4 z5 z6
  obtain ⟨hL2, k9⟩ := own_over7 hL hLl (.int .i64 0) (.string ⟨#[]⟩) (.int .i64 0) (.int .i64 0) (.int .i64 0) (.int .i64 0) (.slice none 0 0)
  unfold set7 at hL2 k9
  clear hL
  have hH2 := (⟨k9.cell (Ne.symm hgb) hHeld.1, k9.cell (Ne.symm hgb) hHeld.2⟩ : _ ∧ _)
  replace h := h.ch k9 (Ne.symm hgb)
  replace qM := qM.ch k9 (Ne.symm nqg)
  replace hK := own_kp hK (Kp.ch (X := fun i => i = gl) k9 rfl) (fun g hg e => by rw [e] at hg; exact hvg hg)
  replace kz := kz.trans (Kp.ch (X := fun i => i = gl) k9 rfl) (fun i hi e => Or.inr (Or.inl e))
  replace hs1 := Nat.le_trans hs1 (Nat.le_of_eq k9.size.symm)
  clear k9
  generalize (((((((w3.setCell ⟨gl, d * 7, none⟩ (.int .i64 0)).setCell ⟨gl, d * 7 + 1, none⟩ (.string ⟨#[]⟩)).setCell ⟨gl, d * 7 + 2, none⟩ (.int .i64 0)).setCell ⟨gl, d * 7 + 3, none⟩ (.int .i64 0)).setCell ⟨gl, d * 7 + 4, none⟩ (.int .i64 0)).setCell ⟨gl, d * 7 + 5, none⟩ (.int .i64 0)).setCell ⟨gl, d * 7 + 6, none⟩ (.slice none 0 0)) = w4 at hL2 h qM hK kz hs1 hH2 ⊢
  refine hKK.out _ _ hH2 ?_
  clear hHeld
  intro hHeld
  clear hKK KK
  try simp only [Act.put, List.setIfInBounds_toArray, List.set_cons_zero, List.set_cons_succ]
  clear hH2
  refine wpAnyH_done (by kernel_rfl) ?_ _
  clear hHeld
  go_wp2_with fail
  have hL := own_cut (n := d) hL2 (by omega) (by rw [nvCells_len, hLl])
  clear hL2
  have y2 := h.cell 2
  simp only [rdC, List.getElem?_toArray, List.getElem?_cons_zero, List.getElem?_cons_succ] at y2
  have bD : Below w4.heap.size w4 w4.drew := (Below.refl _ _).drew
  have ky2 := below_cell bD y2
  replace h := h.later bD
  replace qM := qM.later bD
  replace hL := own_kp hL (Kp.of (X := fun _ => False) bD) (fun _ _ c => c)
  replace hK := own_kp hK (Kp.of (X := fun _ => False) bD) (fun _ _ c => c)
  replace kz := kz.trans (Kp.of (X := (fun k => k = b ∨ k = gl ∨ v.ownBlock = some k)) bD) (fun _ _ c => c)
  replace hs1 := Nat.le_trans hs1 bD.size
  refine wp_region_held_drew (S := fun w' => w'.cell? ⟨b, 2, none⟩ = some (.int .i64 d)) (by kernel_rfl) ky2 (fun hHeld => ?_)
  clear ky2
  generalize w4.drew = w5 at bD hL hK kz hs1 h qM hHeld ⊢
  clear bD
  clear y2
  refine take' 0 (v := ?_) rfl (by kernel_rfl) (by kernel_rfl) (by kernel_rfl) (fun _ _ _ h => h) (Or.inl ⟨by rfl, ?_⟩) (by assumption) ?_
  rotate_left
  · intro w9 hSw
    go_simp
    first | done | with_reducible rfl
  simp only [Act.put, List.setIfInBounds_toArray, List.set_cons_zero, List.set_cons_succ]
  refine take' 1 (v := ?_) rfl (by kernel_rfl) (by kernel_rfl) (by kernel_rfl) (fun _ _ _ h => h) (Or.inl ⟨by rfl, ?_⟩) (by assumption) ?_
  rotate_left
  · intro w9 hSw
    go_simp
    first | done | with_reducible rfl
  simp only [Act.put, List.setIfInBounds_toArray, List.set_cons_zero, List.set_cons_succ]
  refine take' 2 (v := ?_) rfl (by kernel_rfl) (by kernel_rfl) (by kernel_rfl) (fun _ _ _ h => h) (Or.inl ⟨by rfl, ?_⟩) (by assumption) ?_
  rotate_left
  · intro w9 hSw
    go_simp
    first | done | with_reducible rfl
  simp only [Act.put, List.setIfInBounds_toArray, List.set_cons_zero, List.set_cons_succ]
  refine take' 3 (v := ?_) rfl (by kernel_rfl) (by kernel_rfl) (by kernel_rfl) (fun _ _ _ h => h) (Or.inl ⟨by rfl, ?_⟩) (by assumption) ?_
  rotate_left
  · intro w9 hSw
    go_simp
    first | done | with_reducible rfl
  simp only [Act.put, List.setIfInBounds_toArray, List.set_cons_zero, List.set_cons_succ]
  refine take' 5 (v := ?_) rfl (by kernel_rfl) (by kernel_rfl) (by kernel_rfl) (fun _ _ _ h => h) (Or.inl ⟨by rfl, ?_⟩) (by assumption) ?_
  rotate_left
  · intro w9 hSw
    go_simp
    first | done | with_reducible rfl
  simp only [Act.put, List.setIfInBounds_toArray, List.set_cons_zero, List.set_cons_succ]
  refine take' 6 (v := ?_) rfl (by kernel_rfl) (by kernel_rfl) (by kernel_rfl) (fun _ _ _ h => h) (Or.inl ⟨by rfl, ?_⟩) (by assumption) ?_
  rotate_left
  · intro w9 hSw
    go_simp
    first | done | with_reducible rfl
  simp only [Act.put, List.setIfInBounds_toArray, List.set_cons_zero, List.set_cons_succ]
  refine take' 7 (v := ?_) rfl (by kernel_rfl) (by kernel_rfl) (by kernel_rfl) (fun _ _ _ h => h) (Or.inl ⟨by rfl, ?_⟩) (by assumption) ?_
  rotate_left
  · intro w9 hSw
    go_simp
    first | done | with_reducible rfl
  simp only [Act.put, List.setIfInBounds_toArray, List.set_cons_zero, List.set_cons_succ]
  refine take' 8 (v := ?_) rfl (by kernel_rfl) (by kernel_rfl) (by kernel_rfl) (fun _ _ _ h => h) (Or.inl ⟨by rfl, ?_⟩) (by assumption) ?_
  rotate_left
  · intro w9 hSw
    go_simp
    first | done | with_reducible rfl
  simp only [Act.put, List.setIfInBounds_toArray, List.set_cons_zero, List.set_cons_succ]
  refine wpAnyH_ready (rs := [4]) (by kernel_rfl) (by simp) ?_
  refine cons' rfl (fun KK hKK => ?_)
  have y1 := h.cell 1
  simp only [rdC, List.getElem?_toArray, List.getElem?_cons_zero, List.getElem?_cons_succ] at y1
  go_simp
  clear y1
  refine hKK.out _ _ hHeld ?_
  clear hHeld
  intro hHeld
  clear hKK KK
  try simp only [Act.put, List.setIfInBounds_toArray, List.set_cons_zero, List.set_cons_succ]
  refine take' 9 (v := ?_) rfl (by kernel_rfl) (by kernel_rfl) (by kernel_rfl) (fun _ _ _ h => h) (Or.inl ⟨by rfl, ?_⟩) (by assumption) ?_
  rotate_left
  · intro w9 hSw
    go_simp
    first | done | with_reducible rfl
  simp only [Act.put, List.setIfInBounds_toArray, List.set_cons_zero, List.set_cons_succ]
  refine take' 10 (v := ?_) rfl (by kernel_rfl) (by kernel_rfl) (by kernel_rfl) (fun _ _ _ h => h) (Or.inl ⟨by rfl, ?_⟩) (by assumption) ?_
  rotate_left
  · intro w9 hSw
    go_simp
    first | done | with_reducible rfl
  simp only [Act.put, List.setIfInBounds_toArray, List.set_cons_zero, List.set_cons_succ]
  refine take' 11 (v := ?_) rfl (by kernel_rfl) (by kernel_rfl) (by kernel_rfl) (fun _ _ _ h => h) (Or.inl ⟨by rfl, ?_⟩) (by assumption) ?_
  rotate_left
  · intro w9 hSw
    go_simp
    first | done | with_reducible rfl
  simp only [Act.put, List.setIfInBounds_toArray, List.set_cons_zero, List.set_cons_succ]
  refine wpAnyH_ready (rs := [12]) (by kernel_rfl) (by simp) ?_
  refine cons' rfl (fun KK hKK => ?_)
  have fz := fun o => h.frozen o
  have y1 := h.cell 1
  simp only [rdC, List.getElem?_toArray, List.getElem?_cons_zero, List.getElem?_cons_succ] at y1
  have HB := hideT h
  clear h
  go_simp
  have h := HB.out
  clear HB fz y1
  obtain ⟨k8, q8⟩ := h.set (o := 1) (.slice (some ⟨gl, 0, none⟩) d c)
  have h2 : Blk (w5.setCell ⟨b, 1, none⟩ (.slice (some ⟨gl, 0, none⟩) d c)) b (rdC p (.slice (some ⟨gl, 0, none⟩) d c) d en er pl) 63 := by simpa [rdC] using q8
  clear h q8
  have h := h2
  clear h2
  have hH2 := h.cell 2
  simp only [rdC, List.getElem?_toArray, List.getElem?_cons_zero, List.getElem?_cons_succ] at hH2
  replace qM := qM.ch k8 (Ne.symm nqb)
  replace hL := own_kp hL (Kp.ch (X := fun i => i = b) k8 rfl) (fun g hg e => by have hg2 : gl = g := (by injection hg); exact hgb (hg2.trans e))
  replace hK := own_kp hK (Kp.ch (X := fun i => i = b) k8 rfl) (fun g hg e => by rw [e] at hg; exact hvb hg)
  replace kz := kz.trans (Kp.ch (X := fun i => i = b) k8 rfl) (fun i hi e => Or.inl e)
  replace hs1 := Nat.le_trans hs1 (Nat.le_of_eq k8.size.symm)
  clear k8
  generalize w5.setCell ⟨b, 1, none⟩ (.slice (some ⟨gl, 0, none⟩) d c) = w6 at h qM hL hK kz hs1 hH2 ⊢
  refine hKK.out _ _ hH2 ?_
  clear hHeld
  intro hHeld
  clear hKK KK
  try simp only [Act.put, List.setIfInBounds_toArray, List.set_cons_zero, List.set_cons_succ]
  clear hH2
  refine wpAnyH_done (by kernel_rfl) ?_ _
  clear hHeld
  have y2 := h.cell 2
  simp only [rdC, List.getElem?_toArray, List.getElem?_cons_zero, List.getElem?_cons_succ] at y2
  have fz := fun o => h.frozen o
  have HB := hideT h
  clear h
  have t0 := qM.cell 0
  have t1 := qM.cell 1
  have t2 := qM.cell 2
  have t3 := qM.cell 3
  have t4 := qM.cell 4
  have t5 := qM.cell 5
  have t6 := qM.cell 6
  simp only [rdC, List.getElem?_toArray, List.getElem?_cons_zero, List.getElem?_cons_succ] at t0 t1 t2 t3 t4 t5 t6
  go_upto_region 8 with fail
  have h := HB.out
  clear HB fz y2 t0 t1 t2 t3 t4 t5 t6
  obtain ⟨k9, q9⟩ := h.set (o := 2) (.int .i64 ((d : Int) - 1))
  have h9 : Blk (w6.setCell ⟨b, 2, none⟩ (.int .i64 ((d : Int) - 1))) b (rdC p (.slice (some ⟨gl, 0, none⟩) d c) (L.length : Nat) en er pl) 63 := by have ed : ((d : Int) - 1) = ((L.length : Nat) : Int) := (by have := HE.out; omega); rw [← ed]; simpa [rdC] using q9
  clear h q9
  replace qM := qM.ch k9 (Ne.symm nqb)
  replace hL := own_kp hL (Kp.ch (X := fun i => i = b) k9 rfl) (fun g hg e => by have hg2 : gl = g := (by injection hg); exact hgb (hg2.trans e))
  replace hK := own_kp hK (Kp.ch (X := fun i => i = b) k9 rfl) (fun g hg e => by rw [e] at hg; exact hvb hg)
  replace kz := kz.trans (Kp.ch (X := fun i => i = b) k9 rfl) (fun i hi e => Or.inl e)
  replace hs1 := Nat.le_trans hs1 (Nat.le_of_eq k9.size.symm)
  clear k9
  generalize w6.setCell ⟨b, 2, none⟩ (.int .i64 ((d : Int) - 1)) = w7 at h9 qM hL hK kz hs1 ⊢
  have t0 := qM.cell 0
  have t1 := qM.cell 1
  have t2 := qM.cell 2
  have t3 := qM.cell 3
  have t4 := qM.cell 4
  have t5 := qM.cell 5
  have t6 := qM.cell 6
  simp only [rdC, List.getElem?_toArray, List.getElem?_cons_zero, List.getElem?_cons_succ] at t0 t1 t2 t3 t4 t5 t6
  go_wp2_with fail
  clear t0 t1 t2 t3 t4 t5 t6
  have hc : w7.cell? ⟨gl, L.length * 7 + 6, none⟩ = some v := by rw [hL.cellAt _ (by have := HE.out; omega), nv_at _ _ _ (by omega)]; rfl
  have GP := put_is b gl d c L.length base p en er pl v K (shT s t.e) ua un uc w7 h9 (by have := HE.out; omega) (by omega) hc (hL.frozenAt _) hK hgb hvg hvb hkl (by have := kz.size; omega)
  simp only [shT] at GP
  refine GP.mono ?_
  rintro e w8 ⟨v', rfl, o8, g8, k8, a8⟩
  go_wp2
  first | go_end0 | skip
  have hL3 := own_heap ((hL.stored (L.length * 7 + 6) v').1) g8
  rw [nv_last] at hL3
  exact ⟨v', rfl, o8, hL3, k8.blk h9 (fun e => by rcases e with e | e; exact hgb e.symm; exact hvb e), kz.trans k8 (fun i hi e => Or.inr e), by rcases a8 with a | ⟨g, a, a2⟩; exact Or.inl a; exact Or.inr ⟨g, a, by have := kz.size; omega⟩⟩

end Go.Proofs.YtibeiggedmabkaaDoor
