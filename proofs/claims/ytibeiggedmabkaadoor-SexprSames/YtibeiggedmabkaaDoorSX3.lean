/-
  Rows of nodes; the reader's put.
-/
import Derived.Test.YtibeiggedmabkaaDoorSX2
import Derived.Test.YtibeiggedmabkaaDoorTS8
import Derived.Deep.AppendLies
namespace Go.Proofs.YtibeiggedmabkaaDoor
open Go.RowKit
set_option linter.unusedVariables false
set_option linter.unusedSimpArgs false

/-- a row of nodes: each one's token and the slice of what stands in it -/
def nvCells (L : List (Tok × Value)) : List Value := L.flatMap fun x => x.1.cells ++ [x.2]
theorem nvCells_len (L : List (Tok × Value)) : (nvCells L).length = L.length * 7 := by
  induction L with
  | nil => rfl
  | cons a l ih => simp only [nvCells, List.flatMap_cons, List.length_append, List.length_cons] at *; rw [ih]; simp [Tok.cells]; omega
theorem nvCells_app (a b : List (Tok × Value)) : nvCells (a ++ b) = nvCells a ++ nvCells b := by simp [nvCells]
def zero7 : List Value := [.int .i64 0, .string ⟨#[]⟩, .int .i64 0, .int .i64 0, .int .i64 0, .int .i64 0, .slice none 0 0]
theorem set_right {α : Type} {xs ys : List α} {m : Nat} (h : xs.length = m) (j : Nat) (a : α) : (xs ++ ys).set (m + j) a = xs ++ ys.set j a := by
  rw [List.set_append_right _ _ (by omega)]
  congr 2
  omega
def set7 (W : World) (c o : Nat) (v0 v1 v2 v3 v4 v5 v6 : Value) : World :=
  ((((((W.setCell ⟨c, o, none⟩ v0).setCell ⟨c, o + 1, none⟩ v1).setCell ⟨c, o + 2, none⟩ v2).setCell ⟨c, o + 3, none⟩ v3).setCell ⟨c, o + 4, none⟩ v4).setCell ⟨c, o + 5, none⟩ v5).setCell ⟨c, o + 6, none⟩ v6
theorem own_store7 {w : World} {base g n m cap : Nat} {ty : TypeId} {K : List (Tok × Value)} (h : w.ownsRow base ty 7 (.slice (some ⟨g, 0, none⟩) m cap) m (nvCells K ++ zero7)) (hn : K.length = n) (t : Tok) (u : Value) :
    (set7 w g (n * 7) (.int .i64 t.k) (.string t.t) (.int .i64 t.b) (.int .i64 t.e) (.int .i64 t.l) (.int .i64 t.c) u).ownsRow base ty 7 (.slice (some ⟨g, 0, none⟩) m cap) m (nvCells (K ++ [(t, u)])) ∧
      Ch g w (set7 w g (n * 7) (.int .i64 t.k) (.string t.t) (.int .i64 t.b) (.int .i64 t.e) (.int .i64 t.l) (.int .i64 t.c) u) := by
  have hl : (nvCells K).length = n * 7 := by rw [nvCells_len, hn]
  have h0 := (h.stored (n * 7) (.int .i64 t.k)).1
  have h1 := (h0.stored (n * 7 + 1) (.string t.t)).1
  have h2 := (h1.stored (n * 7 + 2) (.int .i64 t.b)).1
  have h3 := (h2.stored (n * 7 + 3) (.int .i64 t.e)).1
  have h4 := (h3.stored (n * 7 + 4) (.int .i64 t.l)).1
  have h5 := (h4.stored (n * 7 + 5) (.int .i64 t.c)).1
  have h6 := (h5.stored (n * 7 + 6) u).1
  have e0 := set_right (ys := zero7) hl 0 (.int .i64 t.k)
  rw [Nat.add_zero] at e0
  rw [e0, set_right hl, set_right hl, set_right hl, set_right hl, set_right hl, set_right hl] at h6
  refine ⟨?_, ?_⟩
  · rw [nvCells_app]
    exact h6
  · exact ((((((Ch.set _).trans (Ch.set _)).trans (Ch.set _)).trans (Ch.set _)).trans (Ch.set _)).trans (Ch.set _)).trans (Ch.set _)
theorem consTX {P : Program} {ops : Array Oper} {Q : Exit → Act → World → Prop} {md : Region.Mode} {S : World → Prop} {n : Nat} {L : Array Bool} {a : Act} {w : World} {i : Nat} {rs : List Nat} {d : Option Tmp} {op : Op} {ty : TypeId} {pos : String} {af : Array Edge} {g : Option (Nat × Bool)}
    (ho : ops[i]? = some ⟨d, op, ty, pos, af, g⟩) (h : ∀ K' : Act → World → Prop, Shut (∀ a w, S w → (S w → wpAnyH P md ops Q S n (L.setIfInBounds i true) a w) → K' a w) → if Region.wanted ⟨d, op, ty, pos, af, g⟩ (yielded ops a.tmps) = true then Oper.wp P ⟨d, op, ty, pos, af, g⟩ a w K' Q else K' (a.put d undef) w)
    (h2 : AllReadyH P md ops Q S n L a w rs) : AllReadyH P md ops Q S n L a w (i :: rs) := AllReadyH.cons ho h h2
theorem heap_set_congr {w w' : World} {g o : Nat} (h : w'.heap[g]? = w.heap[g]?) (v : Value) : (w'.setCell ⟨g, o, none⟩ v).heap[g]? = (w.setCell ⟨g, o, none⟩ v).heap[g]? := by
  simp [World.setCell, Array.getElem?_modify, h]
theorem cell_kp {X : Nat → Prop} {w w' : World} (k : Kp X w w') {b o : Nat} {v : Value} (hn : ¬ X b) (h : w.cell? ⟨b, o, none⟩ = some v) : w'.cell? ⟨b, o, none⟩ = some v := by
  rw [World.cell?_of_block (w := w) (a := ⟨b, o, none⟩) (k.block b (World.block_lt_of_cell? w _ h) hn)]; exact h
theorem info_Node : (Tryd.prog.info? 34).map (fun i => (i.zero, i.size, i.bytes)) = some (some (.agg #[.int .i64 0, .string ⟨#[]⟩, .int .i64 0, .int .i64 0, .int .i64 0, .int .i64 0, .slice none 0 0]), 7, 80) := by kernel_rfl
set_option maxHeartbeats 8000000 in
set_option maxRecDepth 100000 in
theorem put_is (b gl m c d base : Nat) (p : Option Addr) (en : Bool) (er pl : Int) (v : Value) (K : List (Tok × Value)) (t : Tok) (ua : Option Addr) (un uc : Nat) (w : World) (h : Blk w b (rdC p (.slice (some ⟨gl, 0, none⟩) m c) d en er pl) 63) (hd : d < m) (hm : m ≤ 1001) (hc : w.cell? ⟨gl, d * 7 + 6, none⟩ = some v) (hf : w.frozen? ⟨gl, d * 7 + 6, none⟩ = false) (hK : w.ownsRow base 34 7 v K.length (nvCells K)) (hgb : gl ≠ b) (hvg : v.ownBlock ≠ some gl) (hvb : v.ownBlock ≠ some b) (hkl : K.length ≤ 1000000000) (hbase : base ≤ w.heap.size) :
    Calls Tryd.prog 42 #[.pointer (some ⟨b, 0, none⟩), .agg #[.int .i64 t.k, .string t.t, .int .i64 t.b, .int .i64 t.e, .int .i64 t.l, .int .i64 t.c, .slice ua un uc]] w fun r w' => ∃ v', r = .returned (.tuple #[]) ∧ w'.ownsRow base 34 7 v' (K.length + 1) (nvCells (K ++ [(t, .slice ua un uc)])) ∧ w'.heap[gl]? = (w.setCell ⟨gl, d * 7 + 6, none⟩ v').heap[gl]? ∧ Kp (fun k => k = gl ∨ v.ownBlock = some k) w w' ∧ (v'.ownBlock = v.ownBlock ∨ ∃ g, v'.ownBlock = some g ∧ w.heap.size ≤ g) := by
  have b0 := below_alloc (w := w) (.cells #[.int .i64 t.k, .string t.t, .int .i64 t.b, .int .i64 t.e, .int .i64 t.l, .int .i64 t.c, .slice ua un uc] 34)
  have qN := Blk.new w #[.int .i64 t.k, .string t.t, .int .i64 t.b, .int .i64 t.e, .int .i64 t.l, .int .i64 t.c, .slice ua un uc] 34
  have e1 : (w.alloc (.cells #[.int .i64 t.k, .string t.t, .int .i64 t.b, .int .i64 t.e, .int .i64 t.l, .int .i64 t.c, .slice ua un uc] 34)).heap.size = w.heap.size + 1 := by simp
  have hlt := h.lt
  have hgl := World.block_lt_of_cell? w _ hc
  have hK0 := hK
  replace h := h.later b0
  replace hc := below_cell b0 hc
  replace hK := own_kp hK (Kp.of (X := fun _ => False) b0) (fun _ _ c => c)
  have hvlt := fun g hg => (own_lt hK0 (g := g) hg).2
  obtain ⟨a0, cp, ev⟩ := own_sl hK
  subst ev
  have kz : Kp (fun k => (Value.slice a0 K.length cp).ownBlock = some k) w (w.alloc (.cells #[.int .i64 t.k, .string t.t, .int .i64 t.b, .int .i64 t.e, .int .i64 t.l, .int .i64 t.c, .slice ua un uc] 34)) := Kp.of b0
  have hf1 : (w.alloc (.cells #[.int .i64 t.k, .string t.t, .int .i64 t.b, .int .i64 t.e, .int .i64 t.l, .int .i64 t.c, .slice ua un uc] 34)).frozen? ⟨gl, d * 7 + 6, none⟩ = false := by rw [show (w.alloc (.cells #[.int .i64 t.k, .string t.t, .int .i64 t.b, .int .i64 t.e, .int .i64 t.l, .int .i64 t.c, .slice ua un uc] 34)).frozen? ⟨gl, d * 7 + 6, none⟩ = w.frozen? ⟨gl, d * 7 + 6, none⟩ from World.frozen?_of_block (b0.block gl hgl)]; exact hf
  have y1 := h.cell 1
  have y2 := h.cell 2
  simp only [rdC, List.getElem?_toArray, List.getElem?_cons_zero, List.getElem?_cons_succ] at y1 y2
  have hdi : ((d : Int) < (m : Int)) := by omega
  go_enter Tryd.func42, Tryd.ntmps42
  go_upto_region 1 with fail
  generalize w.alloc (.cells #[.int .i64 t.k, .string t.t, .int .i64 t.b, .int .i64 t.e, .int .i64 t.l, .int .i64 t.c, .slice ua un uc] 34) = W at b0 qN e1 h hc hK kz hf1 y1 y2 ⊢
  have hB0 := b0.size
  go_wp2_with fail
  go_quiet (fail)
  go_wp2_with fail
  clear y1 y2
  obtain ⟨W1, hW1⟩ : ∃ W1, W.drewN nq = W1 := ⟨_, rfl⟩
  rw [hW1]
  have bq : Below W.heap.size W W1 := by rw [← hW1]; exact ⟨rfl, rfl, rfl, Nat.le_refl _, fun _ _ => rfl⟩
  clear hW1
  replace hf1 : W1.frozen? ⟨gl, d * 7 + 6, none⟩ = false := by rw [World.frozen?_of_block (w := W) (bq.block gl (by omega))]; exact hf1
  replace h := h.later bq
  replace qN := qN.later bq
  replace hc := below_cell bq hc
  replace hK := own_kp hK (Kp.of (X := fun _ => False) bq) (fun _ _ c => c)
  replace kz := kz.trans (Kp.of (X := fun k => (Value.slice a0 K.length cp).ownBlock = some k) bq) (fun _ _ c => c)
  have hs1 : w.heap.size + 1 ≤ W1.heap.size := by have := bq.size; omega
  clear bq b0 e1 hB0 W
  have x0 := qN.cell 0
  have x1 := qN.cell 1
  have x2 := qN.cell 2
  have x3 := qN.cell 3
  have x4 := qN.cell 4
  have x5 := qN.cell 5
  have x6 := qN.cell 6
  simp only [rdC, List.getElem?_toArray, List.getElem?_cons_zero, List.getElem?_cons_succ] at x0 x1 x2 x3 x4 x5 x6
  have bD : Below W1.heap.size W1 W1.drew := (Below.refl _ _).drew
  have kx0 := below_cell bD x0
  have kx1 := below_cell bD x1
  have kx2 := below_cell bD x2
  have kx3 := below_cell bD x3
  have kx4 := below_cell bD x4
  have kx5 := below_cell bD x5
  have kx6 := below_cell bD x6
  replace hf1 := (World.frozen?_of_block (w := _) (a := ⟨gl, d * 7 + 6, none⟩) (bD.block gl (World.block_lt_of_cell? _ _ hc))).trans hf1
  replace h := h.later bD
  replace qN := qN.later bD
  replace hc := below_cell bD hc
  replace hK := own_kp hK (Kp.of (X := fun _ => False) bD) (fun _ _ c => c)
  replace kz := kz.trans (Kp.of (X := fun k => (Value.slice a0 K.length cp).ownBlock = some k) bD) (fun _ _ c => c)
  replace hs1 := Nat.le_trans hs1 bD.size
  refine wp_region_held_drew (S := fun w' => w'.cell? ⟨w.heap.size, 0, none⟩ = some (.int .i64 t.k) ∧ w'.cell? ⟨w.heap.size, 1, none⟩ = some (.string t.t) ∧ w'.cell? ⟨w.heap.size, 2, none⟩ = some (.int .i64 t.b) ∧ w'.cell? ⟨w.heap.size, 3, none⟩ = some (.int .i64 t.e) ∧ w'.cell? ⟨w.heap.size, 4, none⟩ = some (.int .i64 t.l) ∧ w'.cell? ⟨w.heap.size, 5, none⟩ = some (.int .i64 t.c) ∧ w'.cell? ⟨w.heap.size, 6, none⟩ = some (.slice ua un uc)) (by kernel_rfl) ⟨kx0, kx1, kx2, kx3, kx4, kx5, kx6⟩ (fun hHeld => ?_)
  clear kx0 kx1 kx2 kx3 kx4 kx5 kx6
  generalize W1.drew = w0 at bD hK kz hf1 hs1 hc h qN hHeld ⊢
  clear x0 x1 x2 x3 x4 x5 x6
  refine take' 0 (v := ?_) rfl (by kernel_rfl) (by kernel_rfl) (by kernel_rfl) (fun _ _ _ h => h) (Or.inl ⟨by rfl, ?_⟩) (by assumption) ?_
  rotate_left
  · intro w9 hSw
    go_simp
    first | done | with_reducible rfl
  simp only [Act.put, List.setIfInBounds_toArray, List.set_cons_zero, List.set_cons_succ]
  refine take' 1 (v := ?_) rfl (by kernel_rfl) (by kernel_rfl) (by kernel_rfl) (fun _ _ _ h => h) (Or.inl ⟨by rfl, ?_⟩) (by assumption) ?_
  rotate_left
  · intro w9 hSw
    go_simp
    first | done | with_reducible rfl
  simp only [Act.put, List.setIfInBounds_toArray, List.set_cons_zero, List.set_cons_succ]
  refine take' 2 (v := ?_) rfl (by kernel_rfl) (by kernel_rfl) (by kernel_rfl) (fun _ _ _ h => h) (Or.inl ⟨by rfl, ?_⟩) (by assumption) ?_
  rotate_left
  · intro w9 hSw
    go_simp
    first | done | with_reducible rfl
  simp only [Act.put, List.setIfInBounds_toArray, List.set_cons_zero, List.set_cons_succ]
  refine take' 4 (v := ?_) rfl (by kernel_rfl) (by kernel_rfl) (by kernel_rfl) (fun _ _ _ h => h) (Or.inl ⟨by rfl, ?_⟩) (by assumption) ?_
  rotate_left
  · intro w9 hSw
    go_simp
    first | done | with_reducible rfl
  simp only [Act.put, List.setIfInBounds_toArray, List.set_cons_zero, List.set_cons_succ]
  refine wpAnyH_ready (rs := [3, 6]) (by kernel_rfl) (by simp) ?_
  refine consTX rfl (fun KK hKK => ?_) ?_
  · skip
    go_simp
    refine hKK.out _ _ hHeld ?_
    clear hHeld
    intro hHeld
    clear hKK KK
    try simp only [Act.put, List.setIfInBounds_toArray, List.set_cons_zero, List.set_cons_succ]
    refine take' 5 (v := ?_) rfl (by kernel_rfl) (by kernel_rfl) (by kernel_rfl) (fun _ _ _ h => h) (Or.inl ⟨by rfl, ?_⟩) (by assumption) ?_
    rotate_left
    · intro w9 hSw
      go_simp
      first | done | with_reducible rfl
    simp only [Act.put, List.setIfInBounds_toArray, List.set_cons_zero, List.set_cons_succ]
    refine wpAnyH_ready (rs := [6]) (by kernel_rfl) (by simp) ?_
    refine cons' rfl (fun KK hKK => ?_)
    go_simp
    have b3 := below_alloc (w := w0) (.cells #[.int .i64 0, .string ⟨#[]⟩, .int .i64 0, .int .i64 0, .int .i64 0, .int .i64 0, .slice none 0 0] 34)
    have hnew := heap_alloc_new w0 (.cells #[.int .i64 0, .string ⟨#[]⟩, .int .i64 0, .int .i64 0, .int .i64 0, .int .i64 0, .slice none 0 0] 34)
    have hxs : (w0.alloc (.cells #[.int .i64 0, .string ⟨#[]⟩, .int .i64 0, .int .i64 0, .int .i64 0, .int .i64 0, .slice none 0 0] 34)).heap.size = w0.heap.size + 1 := by simp
    replace hf1 := (World.frozen?_of_block (w := _) (a := ⟨gl, d * 7 + 6, none⟩) (b3.block gl (World.block_lt_of_cell? _ _ hc))).trans hf1
    replace h := h.later b3
    replace qN := qN.later b3
    replace hHeld := (⟨below_cell b3 hHeld.1, below_cell b3 hHeld.2.1, below_cell b3 hHeld.2.2.1, below_cell b3 hHeld.2.2.2.1, below_cell b3 hHeld.2.2.2.2.1, below_cell b3 hHeld.2.2.2.2.2.1, below_cell b3 hHeld.2.2.2.2.2.2⟩ : _ ∧ _ ∧ _ ∧ _ ∧ _ ∧ _ ∧ _)
    replace hc := below_cell b3 hc
    replace hK := own_kp hK (Kp.of (X := fun _ => False) b3) (fun _ _ c => c)
    replace kz := kz.trans (Kp.of (X := fun k => (Value.slice a0 K.length cp).ownBlock = some k) b3) (fun _ _ c => c)
    replace hs1 := Nat.le_trans hs1 b3.size
    generalize w0.alloc (.cells #[.int .i64 0, .string ⟨#[]⟩, .int .i64 0, .int .i64 0, .int .i64 0, .int .i64 0, .slice none 0 0] 34) = wx at b3 hnew hxs h qN hc hK kz hf1 hs1 hHeld ⊢
    clear b3
    refine hKK.out _ _ hHeld ?_
    clear hHeld
    intro hHeld
    clear hKK KK
    try simp only [Act.put, List.setIfInBounds_toArray, List.set_cons_zero, List.set_cons_succ]
    obtain ⟨i0, hi0, hz0, hz1, hz2⟩ := info_parts info_Node
    have hkz := kz.size
    refine wpAnyH_ready (rs := [7]) (by kernel_rfl) (by simp) ?_
    refine cons' rfl (fun KK hKK => ?_)
    refine step_append_lies _ (by rfl) _ _ _ (by rfl) base 34 i0 _ 7 80 Tryd.underlying22 hi0 hz0 hz1 hz2 rfl (by omega) (.slice a0 K.length cp) K.length (nvCells K) (by rfl) hK ⟨w0.heap.size, 0, none⟩ 1 1 [.int .i64 0, .string ⟨#[]⟩, .int .i64 0, .int .i64 0, .int .i64 0, .int .i64 0, .slice none 0 0] (by rfl) (by rfl) (World.news_of_block (cs := #[.int .i64 0, .string ⟨#[]⟩, .int .i64 0, .int .i64 0, .int .i64 0, .int .i64 0, .slice none 0 0]) (t := 34) (fr := (0, 0)) hnew) (by simp [Value.oneCell']) (by omega) (by simp only [maxLen]; omega) (by omega) (by omega) wx.heap.size rfl ?_
    intro gb cap w3 hown4 hgrow hat hlt4
    have kg := Kp.grown hgrow (fun k e => e)
    have n1 : gb ≠ gl := fun e => by rw [e] at hat; rcases hat with c | c; exact hvg c; omega
    have n2 : gb ≠ b := fun e => by rw [e] at hat; rcases hat with c | c; exact hvb c; omega
    have n3 : gb ≠ w.heap.size := fun e => by rw [e] at hat; rcases hat with c | c; (have := hvlt _ c; omega); omega
    have hH2 := (⟨cell_kp kg (fun c => by have := hvlt _ c; omega) hHeld.1, cell_kp kg (fun c => by have := hvlt _ c; omega) hHeld.2.1, cell_kp kg (fun c => by have := hvlt _ c; omega) hHeld.2.2.1, cell_kp kg (fun c => by have := hvlt _ c; omega) hHeld.2.2.2.1, cell_kp kg (fun c => by have := hvlt _ c; omega) hHeld.2.2.2.2.1, cell_kp kg (fun c => by have := hvlt _ c; omega) hHeld.2.2.2.2.2.1, cell_kp kg (fun c => by have := hvlt _ c; omega) hHeld.2.2.2.2.2.2⟩ : _ ∧ _ ∧ _ ∧ _ ∧ _ ∧ _ ∧ _)
    replace hf1 := (World.frozen?_of_block (w := wx) (a := ⟨gl, d * 7 + 6, none⟩) (kg.block gl (World.block_lt_of_cell? _ _ hc) (fun c => hvg c))).trans hf1
    replace h := kg.blk h (fun c => hvb c)
    replace qN := kg.blk qN (fun c => by have := hvlt _ c; omega)
    replace hc := cell_kp kg (fun c => hvg c) hc
    replace kz := kz.trans kg (fun _ _ c => c)
    clear hK hnew kg hgrow
    refine hKK.out _ _ hH2 ?_
    clear hHeld
    intro hHeld
    clear hKK KK
    try simp only [Act.put, List.setIfInBounds_toArray, List.set_cons_zero, List.set_cons_succ]
    clear hH2
    have hix : ((K.length : Int) < (K.length : Int) + 1) := by omega
    refine take' 8 (v := ?_) rfl (by kernel_rfl) (by kernel_rfl) (by kernel_rfl) (fun _ _ _ h => h) (Or.inl ⟨by rfl, ?_⟩) (by assumption) ?_
    rotate_left
    · intro w9 hSw
      go_simp
      first | done | with_reducible rfl
    simp only [Act.put, List.setIfInBounds_toArray, List.set_cons_zero, List.set_cons_succ]
    refine take' 10 (v := ?_) rfl (by kernel_rfl) (by kernel_rfl) (by kernel_rfl) (fun _ _ _ h => h) (Or.inl ⟨by rfl, ?_⟩) (by assumption) ?_
    rotate_left
    · intro w9 hSw
      go_simp
      first | done | with_reducible rfl
    simp only [Act.put, List.setIfInBounds_toArray, List.set_cons_zero, List.set_cons_succ]
    refine take' 11 (v := ?_) rfl (by kernel_rfl) (by kernel_rfl) (by kernel_rfl) (fun _ _ _ h => h) (Or.inl ⟨by rfl, ?_⟩) (by assumption) ?_
    rotate_left
    · intro w9 hSw
      go_simp
      first | done | with_reducible rfl
    simp only [Act.put, List.setIfInBounds_toArray, List.set_cons_zero, List.set_cons_succ]
    change w3.ownsRow base 34 7 _ _ (nvCells K ++ zero7) at hown4
    have hgX := kz.block gl hgl (fun c => hvg c)
    have kz2 : Kp (fun k => k = gl ∨ (Value.slice a0 K.length cp).ownBlock = some k) w w3 := ⟨kz.os, kz.tape, kz.output, kz.size, fun k hk hn => kz.block k hk (fun c => hn (Or.inr c))⟩
    have n4 : w.heap.size ≠ gl := by omega
    clear kz h qN
    refine wpAnyH_ready (rs := [9, 12]) (by kernel_rfl) (by simp) ?_
    refine consTX rfl (fun KK hKK => ?_) ?_
    · skip
      have z0 : w3.cell? ⟨gb, K.length * 7, none⟩ = zero7[0]? := by rw [hown4.cellAt (K.length * 7) (by omega), List.getElem?_append_right (by rw [nvCells_len]; omega), nvCells_len]; congr 1; omega
      have z1 : w3.cell? ⟨gb, K.length * 7 + 1, none⟩ = zero7[1]? := by rw [hown4.cellAt (K.length * 7 + 1) (by omega), List.getElem?_append_right (by rw [nvCells_len]; omega), nvCells_len]; congr 1; omega
      have z2 : w3.cell? ⟨gb, K.length * 7 + 2, none⟩ = zero7[2]? := by rw [hown4.cellAt (K.length * 7 + 2) (by omega), List.getElem?_append_right (by rw [nvCells_len]; omega), nvCells_len]; congr 1; omega
      have z3 : w3.cell? ⟨gb, K.length * 7 + 3, none⟩ = zero7[3]? := by rw [hown4.cellAt (K.length * 7 + 3) (by omega), List.getElem?_append_right (by rw [nvCells_len]; omega), nvCells_len]; congr 1; omega
      have z4 : w3.cell? ⟨gb, K.length * 7 + 4, none⟩ = zero7[4]? := by rw [hown4.cellAt (K.length * 7 + 4) (by omega), List.getElem?_append_right (by rw [nvCells_len]; omega), nvCells_len]; congr 1; omega
      have z5 : w3.cell? ⟨gb, K.length * 7 + 5, none⟩ = zero7[5]? := by rw [hown4.cellAt (K.length * 7 + 5) (by omega), List.getElem?_append_right (by rw [nvCells_len]; omega), nvCells_len]; congr 1; omega
      have z6 : w3.cell? ⟨gb, K.length * 7 + 6, none⟩ = zero7[6]? := by rw [hown4.cellAt (K.length * 7 + 6) (by omega), List.getElem?_append_right (by rw [nvCells_len]; omega), nvCells_len]; congr 1; omega
      simp only [zero7, List.getElem?_cons_zero, List.getElem?_cons_succ] at z0 z1 z2 z3 z4 z5 z6
      have fz := fun o => hown4.frozenAt o
      have OW := hideT hown4
      clear hown4
      go_simp
      have hown4 := OW.out
      clear OW fz z0 z1 z2 z3 z4 z5 z6
      obtain ⟨own5, k7⟩ := own_store7 hown4 rfl t (.slice ua un uc)
      unfold set7 at own5 k7
      have hH2 := (⟨k7.cell (Ne.symm n3) hHeld.1, k7.cell (Ne.symm n3) hHeld.2.1, k7.cell (Ne.symm n3) hHeld.2.2.1, k7.cell (Ne.symm n3) hHeld.2.2.2.1, k7.cell (Ne.symm n3) hHeld.2.2.2.2.1, k7.cell (Ne.symm n3) hHeld.2.2.2.2.2.1, k7.cell (Ne.symm n3) hHeld.2.2.2.2.2.2⟩ : _ ∧ _ ∧ _ ∧ _ ∧ _ ∧ _ ∧ _)
      replace hf1 := (World.frozen?_of_block (w := w3) (a := ⟨gl, d * 7 + 6, none⟩) (k7.other gl (Ne.symm n1))).trans hf1
      replace hc := k7.cell (Ne.symm n1) hc
      replace hgX := (k7.other gl (Ne.symm n1)).trans hgX
      replace kz2 := kz2.trans (Kp.ch (X := fun i => i = gb) k7 rfl) (fun i hi e => by rw [e] at hi ⊢; rcases hat with c | c; exact Or.inr c; omega)
      clear hown4 k7
      generalize (((((((w3.setCell ⟨gb, K.length * 7, none⟩ (.int .i64 t.k)).setCell ⟨gb, K.length * 7 + 1, none⟩ (.string t.t)).setCell ⟨gb, K.length * 7 + 2, none⟩ (.int .i64 t.b)).setCell ⟨gb, K.length * 7 + 3, none⟩ (.int .i64 t.e)).setCell ⟨gb, K.length * 7 + 4, none⟩ (.int .i64 t.l)).setCell ⟨gb, K.length * 7 + 5, none⟩ (.int .i64 t.c)).setCell ⟨gb, K.length * 7 + 6, none⟩ (.slice ua un uc)) = w4 at own5 hH2 hf1 hc hgX kz2 ⊢
      refine hKK.out _ _ hH2 ?_
      clear hHeld
      intro hHeld
      clear hKK KK
      try simp only [Act.put, List.setIfInBounds_toArray, List.set_cons_zero, List.set_cons_succ]
      clear hH2
      refine wpAnyH_ready (rs := [12]) (by kernel_rfl) (by simp) ?_
      refine cons' rfl (fun KK hKK => ?_)
      go_simp
      have k8 := Ch.set (c := gl) (o := d * 7 + 6) (W := w4) (.slice (some ⟨gb, 0, none⟩) (K.length + 1) cap)
      have hH2 := (⟨k8.cell n4 hHeld.1, k8.cell n4 hHeld.2.1, k8.cell n4 hHeld.2.2.1, k8.cell n4 hHeld.2.2.2.1, k8.cell n4 hHeld.2.2.2.2.1, k8.cell n4 hHeld.2.2.2.2.2.1, k8.cell n4 hHeld.2.2.2.2.2.2⟩ : _ ∧ _ ∧ _ ∧ _ ∧ _ ∧ _ ∧ _)
      replace own5 := own_kp own5 (Kp.ch (X := fun i => i = gl) k8 rfl) (fun g hg e => by have hg2 : gb = g := (by injection hg); exact n1 (hg2.trans e))
      replace hgX := heap_set_congr (o := d * 7 + 6) hgX (.slice (some ⟨gb, 0, none⟩) (K.length + 1) cap)
      replace kz2 := kz2.trans (Kp.ch (X := fun i => i = gl) k8 rfl) (fun i hi e => Or.inl e)
      clear k8 hc hf1
      generalize w4.setCell ⟨gl, d * 7 + 6, none⟩ (.slice (some ⟨gb, 0, none⟩) (K.length + 1) cap) = w5 at own5 hH2 hgX kz2 ⊢
      refine hKK.out _ _ hH2 ?_
      clear hHeld
      intro hHeld
      clear hKK KK
      try simp only [Act.put, List.setIfInBounds_toArray, List.set_cons_zero, List.set_cons_succ]
      clear hH2
      refine wpAnyH_done (by kernel_rfl) ?_ _
      clear hHeld
      go_wp2
      first | go_end0 | skip
      exact ⟨_, rfl, own5, hgX, kz2, by rcases hat with c | c; exact Or.inl (by rw [c]; rfl); exact Or.inr ⟨gb, rfl, by omega⟩⟩
    refine consTX rfl (fun KK hKK => ?_) ?_
    · skip
      go_simp
      have k8 := Ch.set (c := gl) (o := d * 7 + 6) (W := w3) (.slice (some ⟨gb, 0, none⟩) (K.length + 1) cap)
      have hH2 := (⟨k8.cell n4 hHeld.1, k8.cell n4 hHeld.2.1, k8.cell n4 hHeld.2.2.1, k8.cell n4 hHeld.2.2.2.1, k8.cell n4 hHeld.2.2.2.2.1, k8.cell n4 hHeld.2.2.2.2.2.1, k8.cell n4 hHeld.2.2.2.2.2.2⟩ : _ ∧ _ ∧ _ ∧ _ ∧ _ ∧ _ ∧ _)
      replace hown4 := own_kp hown4 (Kp.ch (X := fun i => i = gl) k8 rfl) (fun g hg e => by have hg2 : gb = g := (by injection hg); exact n1 (hg2.trans e))
      replace hgX := heap_set_congr (o := d * 7 + 6) hgX (.slice (some ⟨gb, 0, none⟩) (K.length + 1) cap)
      replace kz2 := kz2.trans (Kp.ch (X := fun i => i = gl) k8 rfl) (fun i hi e => Or.inl e)
      clear k8 hc hf1
      generalize w3.setCell ⟨gl, d * 7 + 6, none⟩ (.slice (some ⟨gb, 0, none⟩) (K.length + 1) cap) = w4 at hown4 hH2 hgX kz2 ⊢
      refine hKK.out _ _ hH2 ?_
      clear hHeld
      intro hHeld
      clear hKK KK
      try simp only [Act.put, List.setIfInBounds_toArray, List.set_cons_zero, List.set_cons_succ]
      clear hH2
      refine wpAnyH_ready (rs := [9]) (by kernel_rfl) (by simp) ?_
      refine cons' rfl (fun KK hKK => ?_)
      have z0 : w4.cell? ⟨gb, K.length * 7, none⟩ = zero7[0]? := by rw [hown4.cellAt (K.length * 7) (by omega), List.getElem?_append_right (by rw [nvCells_len]; omega), nvCells_len]; congr 1; omega
      have z1 : w4.cell? ⟨gb, K.length * 7 + 1, none⟩ = zero7[1]? := by rw [hown4.cellAt (K.length * 7 + 1) (by omega), List.getElem?_append_right (by rw [nvCells_len]; omega), nvCells_len]; congr 1; omega
      have z2 : w4.cell? ⟨gb, K.length * 7 + 2, none⟩ = zero7[2]? := by rw [hown4.cellAt (K.length * 7 + 2) (by omega), List.getElem?_append_right (by rw [nvCells_len]; omega), nvCells_len]; congr 1; omega
      have z3 : w4.cell? ⟨gb, K.length * 7 + 3, none⟩ = zero7[3]? := by rw [hown4.cellAt (K.length * 7 + 3) (by omega), List.getElem?_append_right (by rw [nvCells_len]; omega), nvCells_len]; congr 1; omega
      have z4 : w4.cell? ⟨gb, K.length * 7 + 4, none⟩ = zero7[4]? := by rw [hown4.cellAt (K.length * 7 + 4) (by omega), List.getElem?_append_right (by rw [nvCells_len]; omega), nvCells_len]; congr 1; omega
      have z5 : w4.cell? ⟨gb, K.length * 7 + 5, none⟩ = zero7[5]? := by rw [hown4.cellAt (K.length * 7 + 5) (by omega), List.getElem?_append_right (by rw [nvCells_len]; omega), nvCells_len]; congr 1; omega
      have z6 : w4.cell? ⟨gb, K.length * 7 + 6, none⟩ = zero7[6]? := by rw [hown4.cellAt (K.length * 7 + 6) (by omega), List.getElem?_append_right (by rw [nvCells_len]; omega), nvCells_len]; congr 1; omega
      simp only [zero7, List.getElem?_cons_zero, List.getElem?_cons_succ] at z0 z1 z2 z3 z4 z5 z6
      have fz := fun o => hown4.frozenAt o
      have OW := hideT hown4
      clear hown4
      go_simp
      have hown4 := OW.out
      clear OW fz z0 z1 z2 z3 z4 z5 z6
      obtain ⟨own5, k7⟩ := own_store7 hown4 rfl t (.slice ua un uc)
      unfold set7 at own5 k7
      have hH2 := (⟨k7.cell (Ne.symm n3) hHeld.1, k7.cell (Ne.symm n3) hHeld.2.1, k7.cell (Ne.symm n3) hHeld.2.2.1, k7.cell (Ne.symm n3) hHeld.2.2.2.1, k7.cell (Ne.symm n3) hHeld.2.2.2.2.1, k7.cell (Ne.symm n3) hHeld.2.2.2.2.2.1, k7.cell (Ne.symm n3) hHeld.2.2.2.2.2.2⟩ : _ ∧ _ ∧ _ ∧ _ ∧ _ ∧ _ ∧ _)
      replace hgX := (k7.other gl (Ne.symm n1)).trans hgX
      replace kz2 := kz2.trans (Kp.ch (X := fun i => i = gb) k7 rfl) (fun i hi e => by rw [e] at hi ⊢; rcases hat with c | c; exact Or.inr c; omega)
      clear hown4 k7
      generalize (((((((w4.setCell ⟨gb, K.length * 7, none⟩ (.int .i64 t.k)).setCell ⟨gb, K.length * 7 + 1, none⟩ (.string t.t)).setCell ⟨gb, K.length * 7 + 2, none⟩ (.int .i64 t.b)).setCell ⟨gb, K.length * 7 + 3, none⟩ (.int .i64 t.e)).setCell ⟨gb, K.length * 7 + 4, none⟩ (.int .i64 t.l)).setCell ⟨gb, K.length * 7 + 5, none⟩ (.int .i64 t.c)).setCell ⟨gb, K.length * 7 + 6, none⟩ (.slice ua un uc)) = w5 at own5 hH2 hgX kz2 ⊢
      refine hKK.out _ _ hH2 ?_
      clear hHeld
      intro hHeld
      clear hKK KK
      try simp only [Act.put, List.setIfInBounds_toArray, List.set_cons_zero, List.set_cons_succ]
      clear hH2
      refine wpAnyH_done (by kernel_rfl) ?_ _
      clear hHeld
      go_wp2
      first | go_end0 | skip
      exact ⟨_, rfl, own5, hgX, kz2, by rcases hat with c | c; exact Or.inl (by rw [c]; rfl); exact Or.inr ⟨gb, rfl, by omega⟩⟩
    exact AllReadyH.nil
  refine consTX rfl (fun KK hKK => ?_) ?_
  · skip
    go_simp
    have b3 := below_alloc (w := w0) (.cells #[.int .i64 0, .string ⟨#[]⟩, .int .i64 0, .int .i64 0, .int .i64 0, .int .i64 0, .slice none 0 0] 34)
    have hnew := heap_alloc_new w0 (.cells #[.int .i64 0, .string ⟨#[]⟩, .int .i64 0, .int .i64 0, .int .i64 0, .int .i64 0, .slice none 0 0] 34)
    have hxs : (w0.alloc (.cells #[.int .i64 0, .string ⟨#[]⟩, .int .i64 0, .int .i64 0, .int .i64 0, .int .i64 0, .slice none 0 0] 34)).heap.size = w0.heap.size + 1 := by simp
    replace hf1 := (World.frozen?_of_block (w := _) (a := ⟨gl, d * 7 + 6, none⟩) (b3.block gl (World.block_lt_of_cell? _ _ hc))).trans hf1
    replace h := h.later b3
    replace qN := qN.later b3
    replace hHeld := (⟨below_cell b3 hHeld.1, below_cell b3 hHeld.2.1, below_cell b3 hHeld.2.2.1, below_cell b3 hHeld.2.2.2.1, below_cell b3 hHeld.2.2.2.2.1, below_cell b3 hHeld.2.2.2.2.2.1, below_cell b3 hHeld.2.2.2.2.2.2⟩ : _ ∧ _ ∧ _ ∧ _ ∧ _ ∧ _ ∧ _)
    replace hc := below_cell b3 hc
    replace hK := own_kp hK (Kp.of (X := fun _ => False) b3) (fun _ _ c => c)
    replace kz := kz.trans (Kp.of (X := fun k => (Value.slice a0 K.length cp).ownBlock = some k) b3) (fun _ _ c => c)
    replace hs1 := Nat.le_trans hs1 b3.size
    generalize w0.alloc (.cells #[.int .i64 0, .string ⟨#[]⟩, .int .i64 0, .int .i64 0, .int .i64 0, .int .i64 0, .slice none 0 0] 34) = wx at b3 hnew hxs h qN hc hK kz hf1 hs1 hHeld ⊢
    clear b3
    refine hKK.out _ _ hHeld ?_
    clear hHeld
    intro hHeld
    clear hKK KK
    try simp only [Act.put, List.setIfInBounds_toArray, List.set_cons_zero, List.set_cons_succ]
    refine wpAnyH_ready (rs := [3]) (by kernel_rfl) (by simp) ?_
    refine cons' rfl (fun KK hKK => ?_)
    go_simp
    refine hKK.out _ _ hHeld ?_
    clear hHeld
    intro hHeld
    clear hKK KK
    try simp only [Act.put, List.setIfInBounds_toArray, List.set_cons_zero, List.set_cons_succ]
    refine take' 5 (v := ?_) rfl (by kernel_rfl) (by kernel_rfl) (by kernel_rfl) (fun _ _ _ h => h) (Or.inl ⟨by rfl, ?_⟩) (by assumption) ?_
    rotate_left
    · intro w9 hSw
      go_simp
      first | done | with_reducible rfl
    simp only [Act.put, List.setIfInBounds_toArray, List.set_cons_zero, List.set_cons_succ]
    obtain ⟨i0, hi0, hz0, hz1, hz2⟩ := info_parts info_Node
    have hkz := kz.size
    refine wpAnyH_ready (rs := [7]) (by kernel_rfl) (by simp) ?_
    refine cons' rfl (fun KK hKK => ?_)
    refine step_append_lies _ (by rfl) _ _ _ (by rfl) base 34 i0 _ 7 80 Tryd.underlying22 hi0 hz0 hz1 hz2 rfl (by omega) (.slice a0 K.length cp) K.length (nvCells K) (by rfl) hK ⟨w0.heap.size, 0, none⟩ 1 1 [.int .i64 0, .string ⟨#[]⟩, .int .i64 0, .int .i64 0, .int .i64 0, .int .i64 0, .slice none 0 0] (by rfl) (by rfl) (World.news_of_block (cs := #[.int .i64 0, .string ⟨#[]⟩, .int .i64 0, .int .i64 0, .int .i64 0, .int .i64 0, .slice none 0 0]) (t := 34) (fr := (0, 0)) hnew) (by simp [Value.oneCell']) (by omega) (by simp only [maxLen]; omega) (by omega) (by omega) wx.heap.size rfl ?_
    intro gb cap w3 hown4 hgrow hat hlt4
    have kg := Kp.grown hgrow (fun k e => e)
    have n1 : gb ≠ gl := fun e => by rw [e] at hat; rcases hat with c | c; exact hvg c; omega
    have n2 : gb ≠ b := fun e => by rw [e] at hat; rcases hat with c | c; exact hvb c; omega
    have n3 : gb ≠ w.heap.size := fun e => by rw [e] at hat; rcases hat with c | c; (have := hvlt _ c; omega); omega
    have hH2 := (⟨cell_kp kg (fun c => by have := hvlt _ c; omega) hHeld.1, cell_kp kg (fun c => by have := hvlt _ c; omega) hHeld.2.1, cell_kp kg (fun c => by have := hvlt _ c; omega) hHeld.2.2.1, cell_kp kg (fun c => by have := hvlt _ c; omega) hHeld.2.2.2.1, cell_kp kg (fun c => by have := hvlt _ c; omega) hHeld.2.2.2.2.1, cell_kp kg (fun c => by have := hvlt _ c; omega) hHeld.2.2.2.2.2.1, cell_kp kg (fun c => by have := hvlt _ c; omega) hHeld.2.2.2.2.2.2⟩ : _ ∧ _ ∧ _ ∧ _ ∧ _ ∧ _ ∧ _)
    replace hf1 := (World.frozen?_of_block (w := wx) (a := ⟨gl, d * 7 + 6, none⟩) (kg.block gl (World.block_lt_of_cell? _ _ hc) (fun c => hvg c))).trans hf1
    replace h := kg.blk h (fun c => hvb c)
    replace qN := kg.blk qN (fun c => by have := hvlt _ c; omega)
    replace hc := cell_kp kg (fun c => hvg c) hc
    replace kz := kz.trans kg (fun _ _ c => c)
    clear hK hnew kg hgrow
    refine hKK.out _ _ hH2 ?_
    clear hHeld
    intro hHeld
    clear hKK KK
    try simp only [Act.put, List.setIfInBounds_toArray, List.set_cons_zero, List.set_cons_succ]
    clear hH2
    have hix : ((K.length : Int) < (K.length : Int) + 1) := by omega
    refine take' 8 (v := ?_) rfl (by kernel_rfl) (by kernel_rfl) (by kernel_rfl) (fun _ _ _ h => h) (Or.inl ⟨by rfl, ?_⟩) (by assumption) ?_
    rotate_left
    · intro w9 hSw
      go_simp
      first | done | with_reducible rfl
    simp only [Act.put, List.setIfInBounds_toArray, List.set_cons_zero, List.set_cons_succ]
    refine take' 10 (v := ?_) rfl (by kernel_rfl) (by kernel_rfl) (by kernel_rfl) (fun _ _ _ h => h) (Or.inl ⟨by rfl, ?_⟩) (by assumption) ?_
    rotate_left
    · intro w9 hSw
      go_simp
      first | done | with_reducible rfl
    simp only [Act.put, List.setIfInBounds_toArray, List.set_cons_zero, List.set_cons_succ]
    refine take' 11 (v := ?_) rfl (by kernel_rfl) (by kernel_rfl) (by kernel_rfl) (fun _ _ _ h => h) (Or.inl ⟨by rfl, ?_⟩) (by assumption) ?_
    rotate_left
    · intro w9 hSw
      go_simp
      first | done | with_reducible rfl
    simp only [Act.put, List.setIfInBounds_toArray, List.set_cons_zero, List.set_cons_succ]
    change w3.ownsRow base 34 7 _ _ (nvCells K ++ zero7) at hown4
    have hgX := kz.block gl hgl (fun c => hvg c)
    have kz2 : Kp (fun k => k = gl ∨ (Value.slice a0 K.length cp).ownBlock = some k) w w3 := ⟨kz.os, kz.tape, kz.output, kz.size, fun k hk hn => kz.block k hk (fun c => hn (Or.inr c))⟩
    have n4 : w.heap.size ≠ gl := by omega
    clear kz h qN
    refine wpAnyH_ready (rs := [9, 12]) (by kernel_rfl) (by simp) ?_
    refine consTX rfl (fun KK hKK => ?_) ?_
    · skip
      have z0 : w3.cell? ⟨gb, K.length * 7, none⟩ = zero7[0]? := by rw [hown4.cellAt (K.length * 7) (by omega), List.getElem?_append_right (by rw [nvCells_len]; omega), nvCells_len]; congr 1; omega
      have z1 : w3.cell? ⟨gb, K.length * 7 + 1, none⟩ = zero7[1]? := by rw [hown4.cellAt (K.length * 7 + 1) (by omega), List.getElem?_append_right (by rw [nvCells_len]; omega), nvCells_len]; congr 1; omega
      have z2 : w3.cell? ⟨gb, K.length * 7 + 2, none⟩ = zero7[2]? := by rw [hown4.cellAt (K.length * 7 + 2) (by omega), List.getElem?_append_right (by rw [nvCells_len]; omega), nvCells_len]; congr 1; omega
      have z3 : w3.cell? ⟨gb, K.length * 7 + 3, none⟩ = zero7[3]? := by rw [hown4.cellAt (K.length * 7 + 3) (by omega), List.getElem?_append_right (by rw [nvCells_len]; omega), nvCells_len]; congr 1; omega
      have z4 : w3.cell? ⟨gb, K.length * 7 + 4, none⟩ = zero7[4]? := by rw [hown4.cellAt (K.length * 7 + 4) (by omega), List.getElem?_append_right (by rw [nvCells_len]; omega), nvCells_len]; congr 1; omega
      have z5 : w3.cell? ⟨gb, K.length * 7 + 5, none⟩ = zero7[5]? := by rw [hown4.cellAt (K.length * 7 + 5) (by omega), List.getElem?_append_right (by rw [nvCells_len]; omega), nvCells_len]; congr 1; omega
      have z6 : w3.cell? ⟨gb, K.length * 7 + 6, none⟩ = zero7[6]? := by rw [hown4.cellAt (K.length * 7 + 6) (by omega), List.getElem?_append_right (by rw [nvCells_len]; omega), nvCells_len]; congr 1; omega
      simp only [zero7, List.getElem?_cons_zero, List.getElem?_cons_succ] at z0 z1 z2 z3 z4 z5 z6
      have fz := fun o => hown4.frozenAt o
      have OW := hideT hown4
      clear hown4
      go_simp
      have hown4 := OW.out
      clear OW fz z0 z1 z2 z3 z4 z5 z6
      obtain ⟨own5, k7⟩ := own_store7 hown4 rfl t (.slice ua un uc)
      unfold set7 at own5 k7
      have hH2 := (⟨k7.cell (Ne.symm n3) hHeld.1, k7.cell (Ne.symm n3) hHeld.2.1, k7.cell (Ne.symm n3) hHeld.2.2.1, k7.cell (Ne.symm n3) hHeld.2.2.2.1, k7.cell (Ne.symm n3) hHeld.2.2.2.2.1, k7.cell (Ne.symm n3) hHeld.2.2.2.2.2.1, k7.cell (Ne.symm n3) hHeld.2.2.2.2.2.2⟩ : _ ∧ _ ∧ _ ∧ _ ∧ _ ∧ _ ∧ _)
      replace hf1 := (World.frozen?_of_block (w := w3) (a := ⟨gl, d * 7 + 6, none⟩) (k7.other gl (Ne.symm n1))).trans hf1
      replace hc := k7.cell (Ne.symm n1) hc
      replace hgX := (k7.other gl (Ne.symm n1)).trans hgX
      replace kz2 := kz2.trans (Kp.ch (X := fun i => i = gb) k7 rfl) (fun i hi e => by rw [e] at hi ⊢; rcases hat with c | c; exact Or.inr c; omega)
      clear hown4 k7
      generalize (((((((w3.setCell ⟨gb, K.length * 7, none⟩ (.int .i64 t.k)).setCell ⟨gb, K.length * 7 + 1, none⟩ (.string t.t)).setCell ⟨gb, K.length * 7 + 2, none⟩ (.int .i64 t.b)).setCell ⟨gb, K.length * 7 + 3, none⟩ (.int .i64 t.e)).setCell ⟨gb, K.length * 7 + 4, none⟩ (.int .i64 t.l)).setCell ⟨gb, K.length * 7 + 5, none⟩ (.int .i64 t.c)).setCell ⟨gb, K.length * 7 + 6, none⟩ (.slice ua un uc)) = w4 at own5 hH2 hf1 hc hgX kz2 ⊢
      refine hKK.out _ _ hH2 ?_
      clear hHeld
      intro hHeld
      clear hKK KK
      try simp only [Act.put, List.setIfInBounds_toArray, List.set_cons_zero, List.set_cons_succ]
      clear hH2
      refine wpAnyH_ready (rs := [12]) (by kernel_rfl) (by simp) ?_
      refine cons' rfl (fun KK hKK => ?_)
      go_simp
      have k8 := Ch.set (c := gl) (o := d * 7 + 6) (W := w4) (.slice (some ⟨gb, 0, none⟩) (K.length + 1) cap)
      have hH2 := (⟨k8.cell n4 hHeld.1, k8.cell n4 hHeld.2.1, k8.cell n4 hHeld.2.2.1, k8.cell n4 hHeld.2.2.2.1, k8.cell n4 hHeld.2.2.2.2.1, k8.cell n4 hHeld.2.2.2.2.2.1, k8.cell n4 hHeld.2.2.2.2.2.2⟩ : _ ∧ _ ∧ _ ∧ _ ∧ _ ∧ _ ∧ _)
      replace own5 := own_kp own5 (Kp.ch (X := fun i => i = gl) k8 rfl) (fun g hg e => by have hg2 : gb = g := (by injection hg); exact n1 (hg2.trans e))
      replace hgX := heap_set_congr (o := d * 7 + 6) hgX (.slice (some ⟨gb, 0, none⟩) (K.length + 1) cap)
      replace kz2 := kz2.trans (Kp.ch (X := fun i => i = gl) k8 rfl) (fun i hi e => Or.inl e)
      clear k8 hc hf1
      generalize w4.setCell ⟨gl, d * 7 + 6, none⟩ (.slice (some ⟨gb, 0, none⟩) (K.length + 1) cap) = w5 at own5 hH2 hgX kz2 ⊢
      refine hKK.out _ _ hH2 ?_
      clear hHeld
      intro hHeld
      clear hKK KK
      try simp only [Act.put, List.setIfInBounds_toArray, List.set_cons_zero, List.set_cons_succ]
      clear hH2
      refine wpAnyH_done (by kernel_rfl) ?_ _
      clear hHeld
      go_wp2
      first | go_end0 | skip
      exact ⟨_, rfl, own5, hgX, kz2, by rcases hat with c | c; exact Or.inl (by rw [c]; rfl); exact Or.inr ⟨gb, rfl, by omega⟩⟩
    refine consTX rfl (fun KK hKK => ?_) ?_
    · skip
      go_simp
      have k8 := Ch.set (c := gl) (o := d * 7 + 6) (W := w3) (.slice (some ⟨gb, 0, none⟩) (K.length + 1) cap)
      have hH2 := (⟨k8.cell n4 hHeld.1, k8.cell n4 hHeld.2.1, k8.cell n4 hHeld.2.2.1, k8.cell n4 hHeld.2.2.2.1, k8.cell n4 hHeld.2.2.2.2.1, k8.cell n4 hHeld.2.2.2.2.2.1, k8.cell n4 hHeld.2.2.2.2.2.2⟩ : _ ∧ _ ∧ _ ∧ _ ∧ _ ∧ _ ∧ _)
      replace hown4 := own_kp hown4 (Kp.ch (X := fun i => i = gl) k8 rfl) (fun g hg e => by have hg2 : gb = g := (by injection hg); exact n1 (hg2.trans e))
      replace hgX := heap_set_congr (o := d * 7 + 6) hgX (.slice (some ⟨gb, 0, none⟩) (K.length + 1) cap)
      replace kz2 := kz2.trans (Kp.ch (X := fun i => i = gl) k8 rfl) (fun i hi e => Or.inl e)
      clear k8 hc hf1
      generalize w3.setCell ⟨gl, d * 7 + 6, none⟩ (.slice (some ⟨gb, 0, none⟩) (K.length + 1) cap) = w4 at hown4 hH2 hgX kz2 ⊢
      refine hKK.out _ _ hH2 ?_
      clear hHeld
      intro hHeld
      clear hKK KK
      try simp only [Act.put, List.setIfInBounds_toArray, List.set_cons_zero, List.set_cons_succ]
      clear hH2
      refine wpAnyH_ready (rs := [9]) (by kernel_rfl) (by simp) ?_
      refine cons' rfl (fun KK hKK => ?_)
      have z0 : w4.cell? ⟨gb, K.length * 7, none⟩ = zero7[0]? := by rw [hown4.cellAt (K.length * 7) (by omega), List.getElem?_append_right (by rw [nvCells_len]; omega), nvCells_len]; congr 1; omega
      have z1 : w4.cell? ⟨gb, K.length * 7 + 1, none⟩ = zero7[1]? := by rw [hown4.cellAt (K.length * 7 + 1) (by omega), List.getElem?_append_right (by rw [nvCells_len]; omega), nvCells_len]; congr 1; omega
      have z2 : w4.cell? ⟨gb, K.length * 7 + 2, none⟩ = zero7[2]? := by rw [hown4.cellAt (K.length * 7 + 2) (by omega), List.getElem?_append_right (by rw [nvCells_len]; omega), nvCells_len]; congr 1; omega
      have z3 : w4.cell? ⟨gb, K.length * 7 + 3, none⟩ = zero7[3]? := by rw [hown4.cellAt (K.length * 7 + 3) (by omega), List.getElem?_append_right (by rw [nvCells_len]; omega), nvCells_len]; congr 1; omega
      have z4 : w4.cell? ⟨gb, K.length * 7 + 4, none⟩ = zero7[4]? := by rw [hown4.cellAt (K.length * 7 + 4) (by omega), List.getElem?_append_right (by rw [nvCells_len]; omega), nvCells_len]; congr 1; omega
      have z5 : w4.cell? ⟨gb, K.length * 7 + 5, none⟩ = zero7[5]? := by rw [hown4.cellAt (K.length * 7 + 5) (by omega), List.getElem?_append_right (by rw [nvCells_len]; omega), nvCells_len]; congr 1; omega
      have z6 : w4.cell? ⟨gb, K.length * 7 + 6, none⟩ = zero7[6]? := by rw [hown4.cellAt (K.length * 7 + 6) (by omega), List.getElem?_append_right (by rw [nvCells_len]; omega), nvCells_len]; congr 1; omega
      simp only [zero7, List.getElem?_cons_zero, List.getElem?_cons_succ] at z0 z1 z2 z3 z4 z5 z6
      have fz := fun o => hown4.frozenAt o
      have OW := hideT hown4
      clear hown4
      go_simp
      have hown4 := OW.out
      clear OW fz z0 z1 z2 z3 z4 z5 z6
      obtain ⟨own5, k7⟩ := own_store7 hown4 rfl t (.slice ua un uc)
      unfold set7 at own5 k7
      have hH2 := (⟨k7.cell (Ne.symm n3) hHeld.1, k7.cell (Ne.symm n3) hHeld.2.1, k7.cell (Ne.symm n3) hHeld.2.2.1, k7.cell (Ne.symm n3) hHeld.2.2.2.1, k7.cell (Ne.symm n3) hHeld.2.2.2.2.1, k7.cell (Ne.symm n3) hHeld.2.2.2.2.2.1, k7.cell (Ne.symm n3) hHeld.2.2.2.2.2.2⟩ : _ ∧ _ ∧ _ ∧ _ ∧ _ ∧ _ ∧ _)
      replace hgX := (k7.other gl (Ne.symm n1)).trans hgX
      replace kz2 := kz2.trans (Kp.ch (X := fun i => i = gb) k7 rfl) (fun i hi e => by rw [e] at hi ⊢; rcases hat with c | c; exact Or.inr c; omega)
      clear hown4 k7
      generalize (((((((w4.setCell ⟨gb, K.length * 7, none⟩ (.int .i64 t.k)).setCell ⟨gb, K.length * 7 + 1, none⟩ (.string t.t)).setCell ⟨gb, K.length * 7 + 2, none⟩ (.int .i64 t.b)).setCell ⟨gb, K.length * 7 + 3, none⟩ (.int .i64 t.e)).setCell ⟨gb, K.length * 7 + 4, none⟩ (.int .i64 t.l)).setCell ⟨gb, K.length * 7 + 5, none⟩ (.int .i64 t.c)).setCell ⟨gb, K.length * 7 + 6, none⟩ (.slice ua un uc)) = w5 at own5 hH2 hgX kz2 ⊢
      refine hKK.out _ _ hH2 ?_
      clear hHeld
      intro hHeld
      clear hKK KK
      try simp only [Act.put, List.setIfInBounds_toArray, List.set_cons_zero, List.set_cons_succ]
      clear hH2
      refine wpAnyH_done (by kernel_rfl) ?_ _
      clear hHeld
      go_wp2
      first | go_end0 | skip
      exact ⟨_, rfl, own5, hgX, kz2, by rcases hat with c | c; exact Or.inl (by rw [c]; rfl); exact Or.inr ⟨gb, rfl, by omega⟩⟩
    exact AllReadyH.nil
  exact AllReadyH.nil

end Go.Proofs.YtibeiggedmabkaaDoor
