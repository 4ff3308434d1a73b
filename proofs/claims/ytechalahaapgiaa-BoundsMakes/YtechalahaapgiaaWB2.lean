/-
  Layer 8: the reference's Copy and Grow.
-/
import Derived.Test.YtechalahaapgiaaWB1
namespace Go.Proofs.Ytechalahaapgiaa
open Go.RowKit
set_option linter.unusedVariables false
set_option linter.unusedSimpArgs false

/-- what Copy's loop keeps -/
structure CI (w : World) (g n k : Nat) (v : Value) (wr : World) : Prop where
  own : ∃ xs, wr.ownsRow (w.heap.size + 3) 54 16 v k xs
  bel : Below w.heap.size w wr
  size : w.heap.size + 3 ≤ wr.heap.size
  cR : Row wr (w.heap.size + 2)
  rR : Row wr (w.heap.size + 1)
  p0 : wr.cell? ⟨w.heap.size, 0, none⟩ = some (.slice (some ⟨g, 0, none⟩) n n)
  p2 : wr.cell? ⟨w.heap.size, 2, none⟩ = some (.slice none 0 0)
  r0 : wr.cell? ⟨w.heap.size + 1, 0, none⟩ = some (.slice none 0 0)
  r1 : wr.cell? ⟨w.heap.size + 1, 1, none⟩ = some (.int .i64 0)
  r2 : wr.cell? ⟨w.heap.size + 1, 2, none⟩ = some (.slice none 0 0)
  c0 : wr.cell? ⟨w.heap.size + 2, 0, none⟩ = some v
  c1 : wr.cell? ⟨w.heap.size + 2, 1, none⟩ = some (.int .i64 0)
  c2 : wr.cell? ⟨w.heap.size + 2, 2, none⟩ = some (.slice none 0 0)
theorem set_far {w : World} {c o b q : Nat} {u x : Value} (h : w.cell? ⟨b, q, none⟩ = some x) (hne : c ≠ b) : (w.setCell ⟨c, o, none⟩ u).cell? ⟨b, q, none⟩ = some x := by
  rw [World.cell?_setCell_far _ _ _ _ (by exact hne)]; exact h
theorem set_by {w : World} {c o q : Nat} {u x : Value} (h : w.cell? ⟨c, q, none⟩ = some x) (hne : o ≠ q) : (w.setCell ⟨c, o, none⟩ u).cell? ⟨c, q, none⟩ = some x := by
  rw [World.cell?_setCell_other]
  · exact h
  · intro e; exact hne (by injection e)
theorem set_at {w : World} {c o : Nat} {u x : Value} (h : w.cell? ⟨c, o, none⟩ = some x) : (w.setCell ⟨c, o, none⟩ u).cell? ⟨c, o, none⟩ = some u := by
  exact World.cell?_setCell_same _ _ _ h
/-- the list has grown, and is stored -/
theorem CI.push {w : World} {g n k : Nat} {v : Value} {w3 w4 : World} {xs news : List Value} {gb cap : Nat} (h : CI w g n k v w3) (hO : w3.ownsRow (w.heap.size + 3) 54 16 v k xs)
    (hown : w4.ownsRow (w.heap.size + 3) 54 16 (.slice (some ⟨gb, 0, none⟩) (k + 1) cap) (k + 1) (xs ++ news)) (hg : w3.grownBy w4 v.ownBlock) :
    Row w4 (w.heap.size + 2) ∧ w4.cell? ⟨w.heap.size + 2, 0, none⟩ = some v ∧ CI w g n (k + 1) (.slice (some ⟨gb, 0, none⟩) (k + 1) cap) (w4.setCell ⟨w.heap.size + 2, 0, none⟩ (.slice (some ⟨gb, 0, none⟩) (k + 1) cap)) := by
  have far : ∀ b, b < w.heap.size + 3 → some b ≠ v.ownBlock := fun b hb e => by have := (hO.lt b e.symm).1; omega
  have ce : ∀ {b o : Nat} {x : Value}, b < w.heap.size + 3 → w3.cell? ⟨b, o, none⟩ = some x → w4.cell? ⟨b, o, none⟩ = some x := fun hb hx => hg.cell hx (far _ hb)
  have hR := row_grown h.cR hg (far _ (by omega))
  have hgb : (Value.slice (some ⟨gb, 0, none⟩) (k + 1) cap).ownBlock ≠ some (w.heap.size + 2) := fun e => by have := (hown.lt _ e).1; omega
  refine ⟨hR, ce (by omega) h.c0, ⟨_, own_set hown hgb⟩, ?_, ?_, hR.setCell _ _, (row_grown h.rR hg (far _ (by omega))).setCell _ _, ?_, ?_, ?_, ?_, ?_, ?_, ?_, ?_⟩
  · exact (h.bel.trans (below_grown h.bel.size (fun b e => by have := (hO.lt b e).1; omega) hg)).setCell (by show w.heap.size ≤ w.heap.size + 2; omega) _
  · rw [World.size_setCell]; exact Nat.le_trans h.size hg.size
  · exact set_far (ce (by omega) h.p0) (by omega)
  · exact set_far (ce (by omega) h.p2) (by omega)
  · exact set_far (ce (by omega) h.r0) (by omega)
  · exact set_far (ce (by omega) h.r1) (by omega)
  · exact set_far (ce (by omega) h.r2) (by omega)
  · exact set_at (ce (by omega) h.c0)
  · exact set_by (ce (by omega) h.c1) (by omega)
  · exact set_by (ce (by omega) h.c2) (by omega)
theorem CI.later {w : World} {g n k : Nat} {v : Value} {wr w' : World} (h : CI w g n k v wr) (b : Below wr.heap.size wr w') : CI w g n k v w' :=
  ⟨by obtain ⟨xs, hx⟩ := h.own; exact ⟨xs, own_below hx b⟩, h.bel.trans (b.mono h.bel.size), Nat.le_trans h.size b.size, below_row b h.cR, below_row b h.rR, below_cell b h.p0, below_cell b h.p2, below_cell b h.r0, below_cell b h.r1, below_cell b h.r2, below_cell b h.c0, below_cell b h.c1, below_cell b h.c2⟩
set_option maxHeartbeats 8000000 in
set_option maxRecDepth 100000 in
theorem copyR_is (g n : Nat) (hn : n ≤ 65536) (w : World) (hL : LimZ w g n) :
    Calls Try.prog 11 #[.agg #[.slice (some ⟨g, 0, none⟩) n n, .int .i64 0, .slice none 0 0]] w fun e w' => ∃ v xs, e = .returned (.agg #[v, .int .i64 0, .slice none 0 0]) ∧ Below w.heap.size w w' ∧ w'.ownsRow (w.heap.size + 3) 54 16 v n xs ∧ w.heap.size + 3 ≤ w'.heap.size := by
  obtain ⟨i0, hi0, hz0, hz1, hz2⟩ := info_parts info_Limit
  go_enter Try.func11, Try.ntmps11
  go_wp2_with fail
  have hI0 : CI w g n 0 (.slice none 0 0) (((w.alloc (.cells #[.slice (some ⟨g, 0, none⟩) n n, .int .i64 0, .slice none 0 0] 29)).alloc (.cells #[.slice none 0 0, .int .i64 0, .slice none 0 0] 29)).alloc (.cells #[.slice none 0 0, .int .i64 0, .slice none 0 0] 29)) := by
    refine ⟨⟨[], World.ownsRow_nil _ _ _ _⟩, ?_, ?_, ?_, ?_, by go_simp, by go_simp, by go_simp, by go_simp, by go_simp, by go_simp, by go_simp, by go_simp⟩
    · exact ((below_alloc _).trans ((below_alloc _).mono (below_alloc _).size)).trans ((below_alloc _).mono ((below_alloc _).trans ((below_alloc _).mono (below_alloc _).size)).size)
    · rw [size_alloc, size_alloc, size_alloc]; omega
    · have h := row_new ((w.alloc (.cells #[.slice (some ⟨g, 0, none⟩) n n, .int .i64 0, .slice none 0 0] 29)).alloc (.cells #[.slice none 0 0, .int .i64 0, .slice none 0 0] 29)) #[.slice none 0 0, .int .i64 0, .slice none 0 0] 29; rw [size_alloc, size_alloc] at h; exact h
    · have h := row_new (w.alloc (.cells #[.slice (some ⟨g, 0, none⟩) n n, .int .i64 0, .slice none 0 0] 29)) #[.slice none 0 0, .int .i64 0, .slice none 0 0] 29; rw [size_alloc] at h; exact below_row (below_alloc _) h
  go_loopw [4] (fun vi wr => ∃ k v, k ≤ n ∧ vi = .int .i64 (k : Nat) ∧ CI w g n k v wr) (fun vi _ => n - (intOf vi).toNat)
  case atStart => exact ⟨0, _, Nat.zero_le _, rfl, hI0⟩
  case round =>
    clear hI0
    obtain ⟨k, v, hk, rfl, hI⟩ := hrel
    have p0 := hI.p0
    by_cases hlt : k < n
    · have i1 : (0 : Int) ≤ (k : Int) := by omega
      have i2 : (k : Int) < (n : Int) := by omega
      have hLr := hL.later hI.bel
      have hgw := hL.1
      have e0 : wr.cell? ⟨g, k * 16, none⟩ = some (.bool false) := hLr.2 k 0 hlt (by omega)
      have e1 : wr.cell? ⟨g, k * 16 + 1, none⟩ = some (.bool false) := hLr.2 k 1 hlt (by omega)
      have e2 : wr.cell? ⟨g, k * 16 + 2, none⟩ = some (.slice none 0 0) := hLr.2 k 2 hlt (by omega)
      have e3 : wr.cell? ⟨g, k * 16 + 3, none⟩ = some (.slice none 0 0) := hLr.2 k 3 hlt (by omega)
      have e4 : wr.cell? ⟨g, k * 16 + 4, none⟩ = some (.bool false) := hLr.2 k 4 hlt (by omega)
      have e5 : wr.cell? ⟨g, k * 16 + 5, none⟩ = some (.slice none 0 0) := hLr.2 k 5 hlt (by omega)
      have e6 : wr.cell? ⟨g, k * 16 + 6, none⟩ = some (.slice none 0 0) := hLr.2 k 6 hlt (by omega)
      have e7 : wr.cell? ⟨g, k * 16 + 7, none⟩ = some (.int .i64 0) := hLr.2 k 7 hlt (by omega)
      have e8 : wr.cell? ⟨g, k * 16 + 8, none⟩ = some (.bool false) := hLr.2 k 8 hlt (by omega)
      have e9 : wr.cell? ⟨g, k * 16 + 9, none⟩ = some (.bool false) := hLr.2 k 9 hlt (by omega)
      have e10 : wr.cell? ⟨g, k * 16 + 10, none⟩ = some (.slice none 0 0) := hLr.2 k 10 hlt (by omega)
      have e11 : wr.cell? ⟨g, k * 16 + 11, none⟩ = some (.slice none 0 0) := hLr.2 k 11 hlt (by omega)
      have e12 : wr.cell? ⟨g, k * 16 + 12, none⟩ = some (.bool false) := hLr.2 k 12 hlt (by omega)
      have e13 : wr.cell? ⟨g, k * 16 + 13, none⟩ = some (.slice none 0 0) := hLr.2 k 13 hlt (by omega)
      have e14 : wr.cell? ⟨g, k * 16 + 14, none⟩ = some (.slice none 0 0) := hLr.2 k 14 hlt (by omega)
      have e15 : wr.cell? ⟨g, k * 16 + 15, none⟩ = some (.int .i64 0) := hLr.2 k 15 hlt (by omega)
      have hgl := hLr.1
      clear hLr
      have c0 := hI.c0
      go_wp2_with fail
      clear p0
      have p0 := hI.p0
      have bD : Below wr.heap.size wr wr.drew := (Below.refl _ _).drew
      have kp0 := below_cell bD p0
      have ke0 := below_cell bD e0
      have ke1 := below_cell bD e1
      have ke2 := below_cell bD e2
      have ke3 := below_cell bD e3
      have ke4 := below_cell bD e4
      have ke5 := below_cell bD e5
      have ke6 := below_cell bD e6
      have ke7 := below_cell bD e7
      have ke8 := below_cell bD e8
      have ke9 := below_cell bD e9
      have ke10 := below_cell bD e10
      have ke11 := below_cell bD e11
      have ke12 := below_cell bD e12
      have ke13 := below_cell bD e13
      have ke14 := below_cell bD e14
      have ke15 := below_cell bD e15
      replace hI := hI.later bD
      replace c0 := below_cell bD c0
      refine wp_region_held_drew (S := fun w' => w'.cell? ⟨w.heap.size, 0, none⟩ = some (.slice (some ⟨g, 0, none⟩) n n) ∧ w'.cell? ⟨g, k * 16, none⟩ = some (.bool false) ∧ w'.cell? ⟨g, k * 16 + 1, none⟩ = some (.bool false) ∧ w'.cell? ⟨g, k * 16 + 2, none⟩ = some (.slice none 0 0) ∧ w'.cell? ⟨g, k * 16 + 3, none⟩ = some (.slice none 0 0) ∧ w'.cell? ⟨g, k * 16 + 4, none⟩ = some (.bool false) ∧ w'.cell? ⟨g, k * 16 + 5, none⟩ = some (.slice none 0 0) ∧ w'.cell? ⟨g, k * 16 + 6, none⟩ = some (.slice none 0 0) ∧ w'.cell? ⟨g, k * 16 + 7, none⟩ = some (.int .i64 0) ∧ w'.cell? ⟨g, k * 16 + 8, none⟩ = some (.bool false) ∧ w'.cell? ⟨g, k * 16 + 9, none⟩ = some (.bool false) ∧ w'.cell? ⟨g, k * 16 + 10, none⟩ = some (.slice none 0 0) ∧ w'.cell? ⟨g, k * 16 + 11, none⟩ = some (.slice none 0 0) ∧ w'.cell? ⟨g, k * 16 + 12, none⟩ = some (.bool false) ∧ w'.cell? ⟨g, k * 16 + 13, none⟩ = some (.slice none 0 0) ∧ w'.cell? ⟨g, k * 16 + 14, none⟩ = some (.slice none 0 0) ∧ w'.cell? ⟨g, k * 16 + 15, none⟩ = some (.int .i64 0)) (by kernel_rfl) ⟨kp0, ke0, ke1, ke2, ke3, ke4, ke5, ke6, ke7, ke8, ke9, ke10, ke11, ke12, ke13, ke14, ke15⟩ (fun hHeld => ?_)
      clear kp0 ke0 ke1 ke2 ke3 ke4 ke5 ke6 ke7 ke8 ke9 ke10 ke11 ke12 ke13 ke14 ke15
      generalize wr.drew = w0 at bD hI c0 hHeld ⊢
      clear p0 e0 e1 e2 e3 e4 e5 e6 e7 e8 e9 e10 e11 e12 e13 e14 e15
      refine take' 0 (v := ?_) rfl (by kernel_rfl) (by kernel_rfl) (by kernel_rfl) (fun _ _ _ h => h) (Or.inl ⟨by rfl, ?_⟩) (by assumption) ?_
      rotate_left
      · intro w9 hSw
        go_simp
        first | done | with_reducible rfl
      simp only [Act.put, List.setIfInBounds_toArray, List.set_cons_zero, List.set_cons_succ]
      refine take' 2 (v := ?_) rfl (by kernel_rfl) (by kernel_rfl) (by kernel_rfl) (fun _ _ _ h => h) (Or.inl ⟨by rfl, ?_⟩) (by assumption) ?_
      rotate_left
      · intro w9 hSw
        go_simp
        first | done | with_reducible rfl
      simp only [Act.put, List.setIfInBounds_toArray, List.set_cons_zero, List.set_cons_succ]
      refine take' 3 (v := ?_) rfl (by kernel_rfl) (by kernel_rfl) (by kernel_rfl) (fun _ _ _ h => h) (Or.inl ⟨by rfl, ?_⟩) (by assumption) ?_
      rotate_left
      · intro w9 hSw
        go_simp
        first | done | with_reducible rfl
      simp only [Act.put, List.setIfInBounds_toArray, List.set_cons_zero, List.set_cons_succ]
      refine take' 4 (v := ?_) rfl (by kernel_rfl) (by kernel_rfl) (by kernel_rfl) (fun _ _ _ h => h) (Or.inl ⟨by rfl, ?_⟩) (by assumption) ?_
      rotate_left
      · intro w9 hSw
        go_simp
        first | done | with_reducible rfl
      simp only [Act.put, List.setIfInBounds_toArray, List.set_cons_zero, List.set_cons_succ]
      refine take' 5 (v := ?_) rfl (by kernel_rfl) (by kernel_rfl) (by kernel_rfl) (fun _ _ _ h => h) (Or.inl ⟨by rfl, ?_⟩) (by assumption) ?_
      rotate_left
      · intro w9 hSw
        go_simp
        first | done | with_reducible rfl
      simp only [Act.put, List.setIfInBounds_toArray, List.set_cons_zero, List.set_cons_succ]
      refine take' 6 (v := ?_) rfl (by kernel_rfl) (by kernel_rfl) (by kernel_rfl) (fun _ _ _ h => h) (Or.inl ⟨by rfl, ?_⟩) (by assumption) ?_
      rotate_left
      · intro w9 hSw
        go_simp
        first | done | with_reducible rfl
      simp only [Act.put, List.setIfInBounds_toArray, List.set_cons_zero, List.set_cons_succ]
      refine take' 7 (v := ?_) rfl (by kernel_rfl) (by kernel_rfl) (by kernel_rfl) (fun _ _ _ h => h) (Or.inl ⟨by rfl, ?_⟩) (by assumption) ?_
      rotate_left
      · intro w9 hSw
        go_simp
        first | done | with_reducible rfl
      simp only [Act.put, List.setIfInBounds_toArray, List.set_cons_zero, List.set_cons_succ]
      refine take' 9 (v := ?_) rfl (by kernel_rfl) (by kernel_rfl) (by kernel_rfl) (fun _ _ _ h => h) (Or.inl ⟨by rfl, ?_⟩) (by assumption) ?_
      rotate_left
      · intro w9 hSw
        go_simp
        first | done | with_reducible rfl
      simp only [Act.put, List.setIfInBounds_toArray, List.set_cons_zero, List.set_cons_succ]
      refine take' 10 (v := ?_) rfl (by kernel_rfl) (by kernel_rfl) (by kernel_rfl) (fun _ _ _ h => h) (Or.inl ⟨by rfl, ?_⟩) (by assumption) ?_
      rotate_left
      · intro w9 hSw
        go_simp
        first | done | with_reducible rfl
      simp only [Act.put, List.setIfInBounds_toArray, List.set_cons_zero, List.set_cons_succ]
      refine take' 11 (v := ?_) rfl (by kernel_rfl) (by kernel_rfl) (by kernel_rfl) (fun _ _ _ h => h) (Or.inl ⟨by rfl, ?_⟩) (by assumption) ?_
      rotate_left
      · intro w9 hSw
        go_simp
        first | done | with_reducible rfl
      simp only [Act.put, List.setIfInBounds_toArray, List.set_cons_zero, List.set_cons_succ]
      refine take' 12 (v := ?_) rfl (by kernel_rfl) (by kernel_rfl) (by kernel_rfl) (fun _ _ _ h => h) (Or.inl ⟨by rfl, ?_⟩) (by assumption) ?_
      rotate_left
      · intro w9 hSw
        go_simp
        first | done | with_reducible rfl
      simp only [Act.put, List.setIfInBounds_toArray, List.set_cons_zero, List.set_cons_succ]
      refine take' 13 (v := ?_) rfl (by kernel_rfl) (by kernel_rfl) (by kernel_rfl) (fun _ _ _ h => h) (Or.inl ⟨by rfl, ?_⟩) (by assumption) ?_
      rotate_left
      · intro w9 hSw
        go_simp
        first | done | with_reducible rfl
      simp only [Act.put, List.setIfInBounds_toArray, List.set_cons_zero, List.set_cons_succ]
      refine take' 14 (v := ?_) rfl (by kernel_rfl) (by kernel_rfl) (by kernel_rfl) (fun _ _ _ h => h) (Or.inl ⟨by rfl, ?_⟩) (by assumption) ?_
      rotate_left
      · intro w9 hSw
        go_simp
        first | done | with_reducible rfl
      simp only [Act.put, List.setIfInBounds_toArray, List.set_cons_zero, List.set_cons_succ]
      refine wpAnyH_ready (rs := [1, 8]) (by kernel_rfl) (by simp) ?_
      refine consT rfl (fun KK hKK => ?_) ?_
      · skip
        go_simp
        refine hKK.out _ _ hHeld ?_
        clear hHeld
        intro hHeld
        clear hKK KK
        try simp only [Act.put, List.setIfInBounds_toArray, List.set_cons_zero, List.set_cons_succ]
        refine wpAnyH_ready (rs := [8]) (by kernel_rfl) (by simp) ?_
        refine cons' rfl (fun KK hKK => ?_)
        go_simp
        refine (boundR_none _ _ _ _ _ _ _ _).mono ?_
        rintro e wx1 ⟨rfl, bx1⟩
        have bC := bx1
        replace hI := hI.later bC
        replace c0 := below_cell bC c0
        replace hHeld := (⟨below_cell bC hHeld.1, below_cell bC hHeld.2.1, below_cell bC hHeld.2.2.1, below_cell bC hHeld.2.2.2.1, below_cell bC hHeld.2.2.2.2.1, below_cell bC hHeld.2.2.2.2.2.1, below_cell bC hHeld.2.2.2.2.2.2.1, below_cell bC hHeld.2.2.2.2.2.2.2.1, below_cell bC hHeld.2.2.2.2.2.2.2.2.1, below_cell bC hHeld.2.2.2.2.2.2.2.2.2.1, below_cell bC hHeld.2.2.2.2.2.2.2.2.2.2.1, below_cell bC hHeld.2.2.2.2.2.2.2.2.2.2.2.1, below_cell bC hHeld.2.2.2.2.2.2.2.2.2.2.2.2.1, below_cell bC hHeld.2.2.2.2.2.2.2.2.2.2.2.2.2.1, below_cell bC hHeld.2.2.2.2.2.2.2.2.2.2.2.2.2.2.1, below_cell bC hHeld.2.2.2.2.2.2.2.2.2.2.2.2.2.2.2.1, below_cell bC hHeld.2.2.2.2.2.2.2.2.2.2.2.2.2.2.2.2⟩ : _ ∧ _ ∧ _ ∧ _ ∧ _ ∧ _ ∧ _ ∧ _ ∧ _ ∧ _ ∧ _ ∧ _ ∧ _ ∧ _ ∧ _ ∧ _ ∧ _)
        clear bC
        go_wp2_with fail
        clear bx1
        refine hKK.out _ _ hHeld ?_
        clear hHeld
        intro hHeld
        clear hKK KK
        try simp only [Act.put, List.setIfInBounds_toArray, List.set_cons_zero, List.set_cons_succ]
        refine wpAnyH_ready (rs := [15]) (by kernel_rfl) (by simp) ?_
        refine cons' rfl (fun KK hKK => ?_)
        go_simp
        refine (boundR_none _ _ _ _ _ _ _ _).mono ?_
        rintro e wx2 ⟨rfl, bx2⟩
        have bC := bx2
        replace hI := hI.later bC
        replace c0 := below_cell bC c0
        replace hHeld := (⟨below_cell bC hHeld.1, below_cell bC hHeld.2.1, below_cell bC hHeld.2.2.1, below_cell bC hHeld.2.2.2.1, below_cell bC hHeld.2.2.2.2.1, below_cell bC hHeld.2.2.2.2.2.1, below_cell bC hHeld.2.2.2.2.2.2.1, below_cell bC hHeld.2.2.2.2.2.2.2.1, below_cell bC hHeld.2.2.2.2.2.2.2.2.1, below_cell bC hHeld.2.2.2.2.2.2.2.2.2.1, below_cell bC hHeld.2.2.2.2.2.2.2.2.2.2.1, below_cell bC hHeld.2.2.2.2.2.2.2.2.2.2.2.1, below_cell bC hHeld.2.2.2.2.2.2.2.2.2.2.2.2.1, below_cell bC hHeld.2.2.2.2.2.2.2.2.2.2.2.2.2.1, below_cell bC hHeld.2.2.2.2.2.2.2.2.2.2.2.2.2.2.1, below_cell bC hHeld.2.2.2.2.2.2.2.2.2.2.2.2.2.2.2.1, below_cell bC hHeld.2.2.2.2.2.2.2.2.2.2.2.2.2.2.2.2⟩ : _ ∧ _ ∧ _ ∧ _ ∧ _ ∧ _ ∧ _ ∧ _ ∧ _ ∧ _ ∧ _ ∧ _ ∧ _ ∧ _ ∧ _ ∧ _ ∧ _)
        clear bC
        go_wp2_with fail
        clear bx2
        refine hKK.out _ _ hHeld ?_
        clear hHeld
        intro hHeld
        clear hKK KK
        try simp only [Act.put, List.setIfInBounds_toArray, List.set_cons_zero, List.set_cons_succ]
        refine take' 16 (v := ?_) rfl (by kernel_rfl) (by kernel_rfl) (by kernel_rfl) (fun _ _ _ h => h) (Or.inl ⟨by rfl, ?_⟩) (by assumption) ?_
        rotate_left
        · intro w9 hSw
          go_simp
          first | done | with_reducible rfl
        simp only [Act.put, List.setIfInBounds_toArray, List.set_cons_zero, List.set_cons_succ]
        refine wpAnyH_ready (rs := [17]) (by kernel_rfl) (by simp) ?_
        refine cons' rfl (fun KK hKK => ?_)
        go_simp
        have hnew := heap_alloc_new wx2 (.cells #[.bool false, .bool false, .slice none 0 0, .slice none 0 0, .bool false, .slice none 0 0, .slice none 0 0, .int .i64 0, .bool false, .bool false, .slice none 0 0, .slice none 0 0, .bool false, .slice none 0 0, .slice none 0 0, .int .i64 0] 54)
        have b3 := below_alloc (w := wx2) (.cells #[.bool false, .bool false, .slice none 0 0, .slice none 0 0, .bool false, .slice none 0 0, .slice none 0 0, .int .i64 0, .bool false, .bool false, .slice none 0 0, .slice none 0 0, .bool false, .slice none 0 0, .slice none 0 0, .int .i64 0] 54)
        generalize wx2.alloc (.cells #[.bool false, .bool false, .slice none 0 0, .slice none 0 0, .bool false, .slice none 0 0, .slice none 0 0, .int .i64 0, .bool false, .bool false, .slice none 0 0, .slice none 0 0, .bool false, .slice none 0 0, .slice none 0 0, .int .i64 0] 54) = w3 at hnew b3 ⊢
        replace hI := hI.later b3
        replace c0 := below_cell b3 c0
        replace hHeld := (⟨below_cell b3 hHeld.1, below_cell b3 hHeld.2.1, below_cell b3 hHeld.2.2.1, below_cell b3 hHeld.2.2.2.1, below_cell b3 hHeld.2.2.2.2.1, below_cell b3 hHeld.2.2.2.2.2.1, below_cell b3 hHeld.2.2.2.2.2.2.1, below_cell b3 hHeld.2.2.2.2.2.2.2.1, below_cell b3 hHeld.2.2.2.2.2.2.2.2.1, below_cell b3 hHeld.2.2.2.2.2.2.2.2.2.1, below_cell b3 hHeld.2.2.2.2.2.2.2.2.2.2.1, below_cell b3 hHeld.2.2.2.2.2.2.2.2.2.2.2.1, below_cell b3 hHeld.2.2.2.2.2.2.2.2.2.2.2.2.1, below_cell b3 hHeld.2.2.2.2.2.2.2.2.2.2.2.2.2.1, below_cell b3 hHeld.2.2.2.2.2.2.2.2.2.2.2.2.2.2.1, below_cell b3 hHeld.2.2.2.2.2.2.2.2.2.2.2.2.2.2.2.1, below_cell b3 hHeld.2.2.2.2.2.2.2.2.2.2.2.2.2.2.2.2⟩ : _ ∧ _ ∧ _ ∧ _ ∧ _ ∧ _ ∧ _ ∧ _ ∧ _ ∧ _ ∧ _ ∧ _ ∧ _ ∧ _ ∧ _ ∧ _ ∧ _)
        clear b3
        refine hKK.out _ _ hHeld ?_
        clear hHeld
        intro hHeld
        clear hKK KK
        try simp only [Act.put, List.setIfInBounds_toArray, List.set_cons_zero, List.set_cons_succ]
        refine wpAnyH_ready (rs := [18]) (by kernel_rfl) (by simp) ?_
        refine cons' rfl (fun KK hKK => ?_)
        obtain ⟨xs, hO⟩ := hI.own
        have sz := hI.size
        refine step_append_lies _ (by rfl) _ _ _ (by rfl) (w.heap.size + 3) 54 i0 _ 16 256 Try.underlying26 hi0 hz0 hz1 hz2 rfl (by omega) v k xs (by rfl) hO ⟨wx2.heap.size, 0, none⟩ 1 1 zlim.toList (by rfl) (by rfl) (World.news_of_block (cs := zlim) (t := 54) (fr := (0, 0)) hnew) zlim_one (by omega) (by simp only [maxLen]; omega) (by omega) (by omega) w3.heap.size rfl ?_
        intro gb cap w4 hown4 hgrow hat hlt4
        have far : ∀ b, b < w.heap.size + 3 → some b ≠ v.ownBlock := fun b hb e => by have := (hO.lt b e.symm).1; omega
        replace hHeld := (⟨hgrow.cell hHeld.1 (far _ (by show w.heap.size < _; omega)), hgrow.cell hHeld.2.1 (far _ (by show g < _; omega)), hgrow.cell hHeld.2.2.1 (far _ (by show g < _; omega)), hgrow.cell hHeld.2.2.2.1 (far _ (by show g < _; omega)), hgrow.cell hHeld.2.2.2.2.1 (far _ (by show g < _; omega)), hgrow.cell hHeld.2.2.2.2.2.1 (far _ (by show g < _; omega)), hgrow.cell hHeld.2.2.2.2.2.2.1 (far _ (by show g < _; omega)), hgrow.cell hHeld.2.2.2.2.2.2.2.1 (far _ (by show g < _; omega)), hgrow.cell hHeld.2.2.2.2.2.2.2.2.1 (far _ (by show g < _; omega)), hgrow.cell hHeld.2.2.2.2.2.2.2.2.2.1 (far _ (by show g < _; omega)), hgrow.cell hHeld.2.2.2.2.2.2.2.2.2.2.1 (far _ (by show g < _; omega)), hgrow.cell hHeld.2.2.2.2.2.2.2.2.2.2.2.1 (far _ (by show g < _; omega)), hgrow.cell hHeld.2.2.2.2.2.2.2.2.2.2.2.2.1 (far _ (by show g < _; omega)), hgrow.cell hHeld.2.2.2.2.2.2.2.2.2.2.2.2.2.1 (far _ (by show g < _; omega)), hgrow.cell hHeld.2.2.2.2.2.2.2.2.2.2.2.2.2.2.1 (far _ (by show g < _; omega)), hgrow.cell hHeld.2.2.2.2.2.2.2.2.2.2.2.2.2.2.2.1 (far _ (by show g < _; omega)), hgrow.cell hHeld.2.2.2.2.2.2.2.2.2.2.2.2.2.2.2.2 (far _ (by show g < _; omega))⟩ : _ ∧ _ ∧ _ ∧ _ ∧ _ ∧ _ ∧ _ ∧ _ ∧ _ ∧ _ ∧ _ ∧ _ ∧ _ ∧ _ ∧ _ ∧ _ ∧ _)
        obtain ⟨kR, kc, I1⟩ := hI.push hO hown4 hgrow
        replace I1 := hide' I1
        clear hI hO hown4 hgrow hat far hnew
        refine hKK.out _ _ hHeld ?_
        clear hHeld
        intro hHeld
        clear hKK KK
        try simp only [Act.put, List.setIfInBounds_toArray, List.set_cons_zero, List.set_cons_succ]
        refine take' 19 (v := ?_) rfl (by kernel_rfl) (by kernel_rfl) (by kernel_rfl) (fun _ _ _ h => h) (Or.inl ⟨by rfl, ?_⟩) (by assumption) ?_
        rotate_left
        · intro w9 hSw
          go_simp
          first | done | with_reducible rfl
        simp only [Act.put, List.setIfInBounds_toArray, List.set_cons_zero, List.set_cons_succ]
        refine wpAnyH_ready (rs := [20]) (by kernel_rfl) (by simp) ?_
        refine cons' rfl (fun KK hKK => ?_)
        have fz := fun o => kR.frozen o
        go_simp
        replace hHeld := (⟨set_far (c := w.heap.size + 2) (o := 0) (u := .slice (some ⟨gb, 0, none⟩) (k + 1) cap) hHeld.1 (by omega), set_far (c := w.heap.size + 2) (o := 0) (u := .slice (some ⟨gb, 0, none⟩) (k + 1) cap) hHeld.2.1 (by omega), set_far (c := w.heap.size + 2) (o := 0) (u := .slice (some ⟨gb, 0, none⟩) (k + 1) cap) hHeld.2.2.1 (by omega), set_far (c := w.heap.size + 2) (o := 0) (u := .slice (some ⟨gb, 0, none⟩) (k + 1) cap) hHeld.2.2.2.1 (by omega), set_far (c := w.heap.size + 2) (o := 0) (u := .slice (some ⟨gb, 0, none⟩) (k + 1) cap) hHeld.2.2.2.2.1 (by omega), set_far (c := w.heap.size + 2) (o := 0) (u := .slice (some ⟨gb, 0, none⟩) (k + 1) cap) hHeld.2.2.2.2.2.1 (by omega), set_far (c := w.heap.size + 2) (o := 0) (u := .slice (some ⟨gb, 0, none⟩) (k + 1) cap) hHeld.2.2.2.2.2.2.1 (by omega), set_far (c := w.heap.size + 2) (o := 0) (u := .slice (some ⟨gb, 0, none⟩) (k + 1) cap) hHeld.2.2.2.2.2.2.2.1 (by omega), set_far (c := w.heap.size + 2) (o := 0) (u := .slice (some ⟨gb, 0, none⟩) (k + 1) cap) hHeld.2.2.2.2.2.2.2.2.1 (by omega), set_far (c := w.heap.size + 2) (o := 0) (u := .slice (some ⟨gb, 0, none⟩) (k + 1) cap) hHeld.2.2.2.2.2.2.2.2.2.1 (by omega), set_far (c := w.heap.size + 2) (o := 0) (u := .slice (some ⟨gb, 0, none⟩) (k + 1) cap) hHeld.2.2.2.2.2.2.2.2.2.2.1 (by omega), set_far (c := w.heap.size + 2) (o := 0) (u := .slice (some ⟨gb, 0, none⟩) (k + 1) cap) hHeld.2.2.2.2.2.2.2.2.2.2.2.1 (by omega), set_far (c := w.heap.size + 2) (o := 0) (u := .slice (some ⟨gb, 0, none⟩) (k + 1) cap) hHeld.2.2.2.2.2.2.2.2.2.2.2.2.1 (by omega), set_far (c := w.heap.size + 2) (o := 0) (u := .slice (some ⟨gb, 0, none⟩) (k + 1) cap) hHeld.2.2.2.2.2.2.2.2.2.2.2.2.2.1 (by omega), set_far (c := w.heap.size + 2) (o := 0) (u := .slice (some ⟨gb, 0, none⟩) (k + 1) cap) hHeld.2.2.2.2.2.2.2.2.2.2.2.2.2.2.1 (by omega), set_far (c := w.heap.size + 2) (o := 0) (u := .slice (some ⟨gb, 0, none⟩) (k + 1) cap) hHeld.2.2.2.2.2.2.2.2.2.2.2.2.2.2.2.1 (by omega), set_far (c := w.heap.size + 2) (o := 0) (u := .slice (some ⟨gb, 0, none⟩) (k + 1) cap) hHeld.2.2.2.2.2.2.2.2.2.2.2.2.2.2.2.2 (by omega)⟩ : _ ∧ _ ∧ _ ∧ _ ∧ _ ∧ _ ∧ _ ∧ _ ∧ _ ∧ _ ∧ _ ∧ _ ∧ _ ∧ _ ∧ _ ∧ _ ∧ _)
        refine hKK.out _ _ hHeld ?_
        clear hHeld
        intro hHeld
        clear hKK KK
        try simp only [Act.put, List.setIfInBounds_toArray, List.set_cons_zero, List.set_cons_succ]
        refine wpAnyH_done (by kernel_rfl) ?_ _
        go_wp2
        go_roundw
        case rel => exact ⟨k + 1, _, by omega, by go_num, I1.out⟩
        case measure => simp [intOf]; omega
      refine consT rfl (fun KK hKK => ?_) ?_
      · skip
        go_simp
        refine (boundR_none _ _ _ _ _ _ _ _).mono ?_
        rintro e wx3 ⟨rfl, bx3⟩
        have bC := bx3
        replace hI := hI.later bC
        replace c0 := below_cell bC c0
        replace hHeld := (⟨below_cell bC hHeld.1, below_cell bC hHeld.2.1, below_cell bC hHeld.2.2.1, below_cell bC hHeld.2.2.2.1, below_cell bC hHeld.2.2.2.2.1, below_cell bC hHeld.2.2.2.2.2.1, below_cell bC hHeld.2.2.2.2.2.2.1, below_cell bC hHeld.2.2.2.2.2.2.2.1, below_cell bC hHeld.2.2.2.2.2.2.2.2.1, below_cell bC hHeld.2.2.2.2.2.2.2.2.2.1, below_cell bC hHeld.2.2.2.2.2.2.2.2.2.2.1, below_cell bC hHeld.2.2.2.2.2.2.2.2.2.2.2.1, below_cell bC hHeld.2.2.2.2.2.2.2.2.2.2.2.2.1, below_cell bC hHeld.2.2.2.2.2.2.2.2.2.2.2.2.2.1, below_cell bC hHeld.2.2.2.2.2.2.2.2.2.2.2.2.2.2.1, below_cell bC hHeld.2.2.2.2.2.2.2.2.2.2.2.2.2.2.2.1, below_cell bC hHeld.2.2.2.2.2.2.2.2.2.2.2.2.2.2.2.2⟩ : _ ∧ _ ∧ _ ∧ _ ∧ _ ∧ _ ∧ _ ∧ _ ∧ _ ∧ _ ∧ _ ∧ _ ∧ _ ∧ _ ∧ _ ∧ _ ∧ _)
        clear bC
        go_wp2_with fail
        clear bx3
        refine hKK.out _ _ hHeld ?_
        clear hHeld
        intro hHeld
        clear hKK KK
        try simp only [Act.put, List.setIfInBounds_toArray, List.set_cons_zero, List.set_cons_succ]
        refine wpAnyH_ready (rs := [1, 15]) (by kernel_rfl) (by simp) ?_
        refine consT rfl (fun KK hKK => ?_) ?_
        · skip
          go_simp
          refine hKK.out _ _ hHeld ?_
          clear hHeld
          intro hHeld
          clear hKK KK
          try simp only [Act.put, List.setIfInBounds_toArray, List.set_cons_zero, List.set_cons_succ]
          refine wpAnyH_ready (rs := [15]) (by kernel_rfl) (by simp) ?_
          refine cons' rfl (fun KK hKK => ?_)
          go_simp
          refine (boundR_none _ _ _ _ _ _ _ _).mono ?_
          rintro e wx4 ⟨rfl, bx4⟩
          have bC := bx4
          replace hI := hI.later bC
          replace c0 := below_cell bC c0
          replace hHeld := (⟨below_cell bC hHeld.1, below_cell bC hHeld.2.1, below_cell bC hHeld.2.2.1, below_cell bC hHeld.2.2.2.1, below_cell bC hHeld.2.2.2.2.1, below_cell bC hHeld.2.2.2.2.2.1, below_cell bC hHeld.2.2.2.2.2.2.1, below_cell bC hHeld.2.2.2.2.2.2.2.1, below_cell bC hHeld.2.2.2.2.2.2.2.2.1, below_cell bC hHeld.2.2.2.2.2.2.2.2.2.1, below_cell bC hHeld.2.2.2.2.2.2.2.2.2.2.1, below_cell bC hHeld.2.2.2.2.2.2.2.2.2.2.2.1, below_cell bC hHeld.2.2.2.2.2.2.2.2.2.2.2.2.1, below_cell bC hHeld.2.2.2.2.2.2.2.2.2.2.2.2.2.1, below_cell bC hHeld.2.2.2.2.2.2.2.2.2.2.2.2.2.2.1, below_cell bC hHeld.2.2.2.2.2.2.2.2.2.2.2.2.2.2.2.1, below_cell bC hHeld.2.2.2.2.2.2.2.2.2.2.2.2.2.2.2.2⟩ : _ ∧ _ ∧ _ ∧ _ ∧ _ ∧ _ ∧ _ ∧ _ ∧ _ ∧ _ ∧ _ ∧ _ ∧ _ ∧ _ ∧ _ ∧ _ ∧ _)
          clear bC
          go_wp2_with fail
          clear bx4
          refine hKK.out _ _ hHeld ?_
          clear hHeld
          intro hHeld
          clear hKK KK
          try simp only [Act.put, List.setIfInBounds_toArray, List.set_cons_zero, List.set_cons_succ]
          refine take' 16 (v := ?_) rfl (by kernel_rfl) (by kernel_rfl) (by kernel_rfl) (fun _ _ _ h => h) (Or.inl ⟨by rfl, ?_⟩) (by assumption) ?_
          rotate_left
          · intro w9 hSw
            go_simp
            first | done | with_reducible rfl
          simp only [Act.put, List.setIfInBounds_toArray, List.set_cons_zero, List.set_cons_succ]
          refine wpAnyH_ready (rs := [17]) (by kernel_rfl) (by simp) ?_
          refine cons' rfl (fun KK hKK => ?_)
          go_simp
          have hnew := heap_alloc_new wx4 (.cells #[.bool false, .bool false, .slice none 0 0, .slice none 0 0, .bool false, .slice none 0 0, .slice none 0 0, .int .i64 0, .bool false, .bool false, .slice none 0 0, .slice none 0 0, .bool false, .slice none 0 0, .slice none 0 0, .int .i64 0] 54)
          have b3 := below_alloc (w := wx4) (.cells #[.bool false, .bool false, .slice none 0 0, .slice none 0 0, .bool false, .slice none 0 0, .slice none 0 0, .int .i64 0, .bool false, .bool false, .slice none 0 0, .slice none 0 0, .bool false, .slice none 0 0, .slice none 0 0, .int .i64 0] 54)
          generalize wx4.alloc (.cells #[.bool false, .bool false, .slice none 0 0, .slice none 0 0, .bool false, .slice none 0 0, .slice none 0 0, .int .i64 0, .bool false, .bool false, .slice none 0 0, .slice none 0 0, .bool false, .slice none 0 0, .slice none 0 0, .int .i64 0] 54) = w3 at hnew b3 ⊢
          replace hI := hI.later b3
          replace c0 := below_cell b3 c0
          replace hHeld := (⟨below_cell b3 hHeld.1, below_cell b3 hHeld.2.1, below_cell b3 hHeld.2.2.1, below_cell b3 hHeld.2.2.2.1, below_cell b3 hHeld.2.2.2.2.1, below_cell b3 hHeld.2.2.2.2.2.1, below_cell b3 hHeld.2.2.2.2.2.2.1, below_cell b3 hHeld.2.2.2.2.2.2.2.1, below_cell b3 hHeld.2.2.2.2.2.2.2.2.1, below_cell b3 hHeld.2.2.2.2.2.2.2.2.2.1, below_cell b3 hHeld.2.2.2.2.2.2.2.2.2.2.1, below_cell b3 hHeld.2.2.2.2.2.2.2.2.2.2.2.1, below_cell b3 hHeld.2.2.2.2.2.2.2.2.2.2.2.2.1, below_cell b3 hHeld.2.2.2.2.2.2.2.2.2.2.2.2.2.1, below_cell b3 hHeld.2.2.2.2.2.2.2.2.2.2.2.2.2.2.1, below_cell b3 hHeld.2.2.2.2.2.2.2.2.2.2.2.2.2.2.2.1, below_cell b3 hHeld.2.2.2.2.2.2.2.2.2.2.2.2.2.2.2.2⟩ : _ ∧ _ ∧ _ ∧ _ ∧ _ ∧ _ ∧ _ ∧ _ ∧ _ ∧ _ ∧ _ ∧ _ ∧ _ ∧ _ ∧ _ ∧ _ ∧ _)
          clear b3
          refine hKK.out _ _ hHeld ?_
          clear hHeld
          intro hHeld
          clear hKK KK
          try simp only [Act.put, List.setIfInBounds_toArray, List.set_cons_zero, List.set_cons_succ]
          refine wpAnyH_ready (rs := [18]) (by kernel_rfl) (by simp) ?_
          refine cons' rfl (fun KK hKK => ?_)
          obtain ⟨xs, hO⟩ := hI.own
          have sz := hI.size
          refine step_append_lies _ (by rfl) _ _ _ (by rfl) (w.heap.size + 3) 54 i0 _ 16 256 Try.underlying26 hi0 hz0 hz1 hz2 rfl (by omega) v k xs (by rfl) hO ⟨wx4.heap.size, 0, none⟩ 1 1 zlim.toList (by rfl) (by rfl) (World.news_of_block (cs := zlim) (t := 54) (fr := (0, 0)) hnew) zlim_one (by omega) (by simp only [maxLen]; omega) (by omega) (by omega) w3.heap.size rfl ?_
          intro gb cap w4 hown4 hgrow hat hlt4
          have far : ∀ b, b < w.heap.size + 3 → some b ≠ v.ownBlock := fun b hb e => by have := (hO.lt b e.symm).1; omega
          replace hHeld := (⟨hgrow.cell hHeld.1 (far _ (by show w.heap.size < _; omega)), hgrow.cell hHeld.2.1 (far _ (by show g < _; omega)), hgrow.cell hHeld.2.2.1 (far _ (by show g < _; omega)), hgrow.cell hHeld.2.2.2.1 (far _ (by show g < _; omega)), hgrow.cell hHeld.2.2.2.2.1 (far _ (by show g < _; omega)), hgrow.cell hHeld.2.2.2.2.2.1 (far _ (by show g < _; omega)), hgrow.cell hHeld.2.2.2.2.2.2.1 (far _ (by show g < _; omega)), hgrow.cell hHeld.2.2.2.2.2.2.2.1 (far _ (by show g < _; omega)), hgrow.cell hHeld.2.2.2.2.2.2.2.2.1 (far _ (by show g < _; omega)), hgrow.cell hHeld.2.2.2.2.2.2.2.2.2.1 (far _ (by show g < _; omega)), hgrow.cell hHeld.2.2.2.2.2.2.2.2.2.2.1 (far _ (by show g < _; omega)), hgrow.cell hHeld.2.2.2.2.2.2.2.2.2.2.2.1 (far _ (by show g < _; omega)), hgrow.cell hHeld.2.2.2.2.2.2.2.2.2.2.2.2.1 (far _ (by show g < _; omega)), hgrow.cell hHeld.2.2.2.2.2.2.2.2.2.2.2.2.2.1 (far _ (by show g < _; omega)), hgrow.cell hHeld.2.2.2.2.2.2.2.2.2.2.2.2.2.2.1 (far _ (by show g < _; omega)), hgrow.cell hHeld.2.2.2.2.2.2.2.2.2.2.2.2.2.2.2.1 (far _ (by show g < _; omega)), hgrow.cell hHeld.2.2.2.2.2.2.2.2.2.2.2.2.2.2.2.2 (far _ (by show g < _; omega))⟩ : _ ∧ _ ∧ _ ∧ _ ∧ _ ∧ _ ∧ _ ∧ _ ∧ _ ∧ _ ∧ _ ∧ _ ∧ _ ∧ _ ∧ _ ∧ _ ∧ _)
          obtain ⟨kR, kc, I1⟩ := hI.push hO hown4 hgrow
          replace I1 := hide' I1
          clear hI hO hown4 hgrow hat far hnew
          refine hKK.out _ _ hHeld ?_
          clear hHeld
          intro hHeld
          clear hKK KK
          try simp only [Act.put, List.setIfInBounds_toArray, List.set_cons_zero, List.set_cons_succ]
          refine take' 19 (v := ?_) rfl (by kernel_rfl) (by kernel_rfl) (by kernel_rfl) (fun _ _ _ h => h) (Or.inl ⟨by rfl, ?_⟩) (by assumption) ?_
          rotate_left
          · intro w9 hSw
            go_simp
            first | done | with_reducible rfl
          simp only [Act.put, List.setIfInBounds_toArray, List.set_cons_zero, List.set_cons_succ]
          refine wpAnyH_ready (rs := [20]) (by kernel_rfl) (by simp) ?_
          refine cons' rfl (fun KK hKK => ?_)
          have fz := fun o => kR.frozen o
          go_simp
          replace hHeld := (⟨set_far (c := w.heap.size + 2) (o := 0) (u := .slice (some ⟨gb, 0, none⟩) (k + 1) cap) hHeld.1 (by omega), set_far (c := w.heap.size + 2) (o := 0) (u := .slice (some ⟨gb, 0, none⟩) (k + 1) cap) hHeld.2.1 (by omega), set_far (c := w.heap.size + 2) (o := 0) (u := .slice (some ⟨gb, 0, none⟩) (k + 1) cap) hHeld.2.2.1 (by omega), set_far (c := w.heap.size + 2) (o := 0) (u := .slice (some ⟨gb, 0, none⟩) (k + 1) cap) hHeld.2.2.2.1 (by omega), set_far (c := w.heap.size + 2) (o := 0) (u := .slice (some ⟨gb, 0, none⟩) (k + 1) cap) hHeld.2.2.2.2.1 (by omega), set_far (c := w.heap.size + 2) (o := 0) (u := .slice (some ⟨gb, 0, none⟩) (k + 1) cap) hHeld.2.2.2.2.2.1 (by omega), set_far (c := w.heap.size + 2) (o := 0) (u := .slice (some ⟨gb, 0, none⟩) (k + 1) cap) hHeld.2.2.2.2.2.2.1 (by omega), set_far (c := w.heap.size + 2) (o := 0) (u := .slice (some ⟨gb, 0, none⟩) (k + 1) cap) hHeld.2.2.2.2.2.2.2.1 (by omega), set_far (c := w.heap.size + 2) (o := 0) (u := .slice (some ⟨gb, 0, none⟩) (k + 1) cap) hHeld.2.2.2.2.2.2.2.2.1 (by omega), set_far (c := w.heap.size + 2) (o := 0) (u := .slice (some ⟨gb, 0, none⟩) (k + 1) cap) hHeld.2.2.2.2.2.2.2.2.2.1 (by omega), set_far (c := w.heap.size + 2) (o := 0) (u := .slice (some ⟨gb, 0, none⟩) (k + 1) cap) hHeld.2.2.2.2.2.2.2.2.2.2.1 (by omega), set_far (c := w.heap.size + 2) (o := 0) (u := .slice (some ⟨gb, 0, none⟩) (k + 1) cap) hHeld.2.2.2.2.2.2.2.2.2.2.2.1 (by omega), set_far (c := w.heap.size + 2) (o := 0) (u := .slice (some ⟨gb, 0, none⟩) (k + 1) cap) hHeld.2.2.2.2.2.2.2.2.2.2.2.2.1 (by omega), set_far (c := w.heap.size + 2) (o := 0) (u := .slice (some ⟨gb, 0, none⟩) (k + 1) cap) hHeld.2.2.2.2.2.2.2.2.2.2.2.2.2.1 (by omega), set_far (c := w.heap.size + 2) (o := 0) (u := .slice (some ⟨gb, 0, none⟩) (k + 1) cap) hHeld.2.2.2.2.2.2.2.2.2.2.2.2.2.2.1 (by omega), set_far (c := w.heap.size + 2) (o := 0) (u := .slice (some ⟨gb, 0, none⟩) (k + 1) cap) hHeld.2.2.2.2.2.2.2.2.2.2.2.2.2.2.2.1 (by omega), set_far (c := w.heap.size + 2) (o := 0) (u := .slice (some ⟨gb, 0, none⟩) (k + 1) cap) hHeld.2.2.2.2.2.2.2.2.2.2.2.2.2.2.2.2 (by omega)⟩ : _ ∧ _ ∧ _ ∧ _ ∧ _ ∧ _ ∧ _ ∧ _ ∧ _ ∧ _ ∧ _ ∧ _ ∧ _ ∧ _ ∧ _ ∧ _ ∧ _)
          refine hKK.out _ _ hHeld ?_
          clear hHeld
          intro hHeld
          clear hKK KK
          try simp only [Act.put, List.setIfInBounds_toArray, List.set_cons_zero, List.set_cons_succ]
          refine wpAnyH_done (by kernel_rfl) ?_ _
          go_wp2
          go_roundw
          case rel => exact ⟨k + 1, _, by omega, by go_num, I1.out⟩
          case measure => simp [intOf]; omega
        refine consT rfl (fun KK hKK => ?_) ?_
        · skip
          go_simp
          refine (boundR_none _ _ _ _ _ _ _ _).mono ?_
          rintro e wx5 ⟨rfl, bx5⟩
          have bC := bx5
          replace hI := hI.later bC
          replace c0 := below_cell bC c0
          replace hHeld := (⟨below_cell bC hHeld.1, below_cell bC hHeld.2.1, below_cell bC hHeld.2.2.1, below_cell bC hHeld.2.2.2.1, below_cell bC hHeld.2.2.2.2.1, below_cell bC hHeld.2.2.2.2.2.1, below_cell bC hHeld.2.2.2.2.2.2.1, below_cell bC hHeld.2.2.2.2.2.2.2.1, below_cell bC hHeld.2.2.2.2.2.2.2.2.1, below_cell bC hHeld.2.2.2.2.2.2.2.2.2.1, below_cell bC hHeld.2.2.2.2.2.2.2.2.2.2.1, below_cell bC hHeld.2.2.2.2.2.2.2.2.2.2.2.1, below_cell bC hHeld.2.2.2.2.2.2.2.2.2.2.2.2.1, below_cell bC hHeld.2.2.2.2.2.2.2.2.2.2.2.2.2.1, below_cell bC hHeld.2.2.2.2.2.2.2.2.2.2.2.2.2.2.1, below_cell bC hHeld.2.2.2.2.2.2.2.2.2.2.2.2.2.2.2.1, below_cell bC hHeld.2.2.2.2.2.2.2.2.2.2.2.2.2.2.2.2⟩ : _ ∧ _ ∧ _ ∧ _ ∧ _ ∧ _ ∧ _ ∧ _ ∧ _ ∧ _ ∧ _ ∧ _ ∧ _ ∧ _ ∧ _ ∧ _ ∧ _)
          clear bC
          go_wp2_with fail
          clear bx5
          refine hKK.out _ _ hHeld ?_
          clear hHeld
          intro hHeld
          clear hKK KK
          try simp only [Act.put, List.setIfInBounds_toArray, List.set_cons_zero, List.set_cons_succ]
          refine take' 16 (v := ?_) rfl (by kernel_rfl) (by kernel_rfl) (by kernel_rfl) (fun _ _ _ h => h) (Or.inl ⟨by rfl, ?_⟩) (by assumption) ?_
          rotate_left
          · intro w9 hSw
            go_simp
            first | done | with_reducible rfl
          simp only [Act.put, List.setIfInBounds_toArray, List.set_cons_zero, List.set_cons_succ]
          refine wpAnyH_ready (rs := [1, 17]) (by kernel_rfl) (by simp) ?_
          refine consT rfl (fun KK hKK => ?_) ?_
          · skip
            go_simp
            refine hKK.out _ _ hHeld ?_
            clear hHeld
            intro hHeld
            clear hKK KK
            try simp only [Act.put, List.setIfInBounds_toArray, List.set_cons_zero, List.set_cons_succ]
            refine wpAnyH_ready (rs := [17]) (by kernel_rfl) (by simp) ?_
            refine cons' rfl (fun KK hKK => ?_)
            go_simp
            have hnew := heap_alloc_new wx5 (.cells #[.bool false, .bool false, .slice none 0 0, .slice none 0 0, .bool false, .slice none 0 0, .slice none 0 0, .int .i64 0, .bool false, .bool false, .slice none 0 0, .slice none 0 0, .bool false, .slice none 0 0, .slice none 0 0, .int .i64 0] 54)
            have b3 := below_alloc (w := wx5) (.cells #[.bool false, .bool false, .slice none 0 0, .slice none 0 0, .bool false, .slice none 0 0, .slice none 0 0, .int .i64 0, .bool false, .bool false, .slice none 0 0, .slice none 0 0, .bool false, .slice none 0 0, .slice none 0 0, .int .i64 0] 54)
            generalize wx5.alloc (.cells #[.bool false, .bool false, .slice none 0 0, .slice none 0 0, .bool false, .slice none 0 0, .slice none 0 0, .int .i64 0, .bool false, .bool false, .slice none 0 0, .slice none 0 0, .bool false, .slice none 0 0, .slice none 0 0, .int .i64 0] 54) = w3 at hnew b3 ⊢
            replace hI := hI.later b3
            replace c0 := below_cell b3 c0
            replace hHeld := (⟨below_cell b3 hHeld.1, below_cell b3 hHeld.2.1, below_cell b3 hHeld.2.2.1, below_cell b3 hHeld.2.2.2.1, below_cell b3 hHeld.2.2.2.2.1, below_cell b3 hHeld.2.2.2.2.2.1, below_cell b3 hHeld.2.2.2.2.2.2.1, below_cell b3 hHeld.2.2.2.2.2.2.2.1, below_cell b3 hHeld.2.2.2.2.2.2.2.2.1, below_cell b3 hHeld.2.2.2.2.2.2.2.2.2.1, below_cell b3 hHeld.2.2.2.2.2.2.2.2.2.2.1, below_cell b3 hHeld.2.2.2.2.2.2.2.2.2.2.2.1, below_cell b3 hHeld.2.2.2.2.2.2.2.2.2.2.2.2.1, below_cell b3 hHeld.2.2.2.2.2.2.2.2.2.2.2.2.2.1, below_cell b3 hHeld.2.2.2.2.2.2.2.2.2.2.2.2.2.2.1, below_cell b3 hHeld.2.2.2.2.2.2.2.2.2.2.2.2.2.2.2.1, below_cell b3 hHeld.2.2.2.2.2.2.2.2.2.2.2.2.2.2.2.2⟩ : _ ∧ _ ∧ _ ∧ _ ∧ _ ∧ _ ∧ _ ∧ _ ∧ _ ∧ _ ∧ _ ∧ _ ∧ _ ∧ _ ∧ _ ∧ _ ∧ _)
            clear b3
            refine hKK.out _ _ hHeld ?_
            clear hHeld
            intro hHeld
            clear hKK KK
            try simp only [Act.put, List.setIfInBounds_toArray, List.set_cons_zero, List.set_cons_succ]
            refine wpAnyH_ready (rs := [18]) (by kernel_rfl) (by simp) ?_
            refine cons' rfl (fun KK hKK => ?_)
            obtain ⟨xs, hO⟩ := hI.own
            have sz := hI.size
            refine step_append_lies _ (by rfl) _ _ _ (by rfl) (w.heap.size + 3) 54 i0 _ 16 256 Try.underlying26 hi0 hz0 hz1 hz2 rfl (by omega) v k xs (by rfl) hO ⟨wx5.heap.size, 0, none⟩ 1 1 zlim.toList (by rfl) (by rfl) (World.news_of_block (cs := zlim) (t := 54) (fr := (0, 0)) hnew) zlim_one (by omega) (by simp only [maxLen]; omega) (by omega) (by omega) w3.heap.size rfl ?_
            intro gb cap w4 hown4 hgrow hat hlt4
            have far : ∀ b, b < w.heap.size + 3 → some b ≠ v.ownBlock := fun b hb e => by have := (hO.lt b e.symm).1; omega
            replace hHeld := (⟨hgrow.cell hHeld.1 (far _ (by show w.heap.size < _; omega)), hgrow.cell hHeld.2.1 (far _ (by show g < _; omega)), hgrow.cell hHeld.2.2.1 (far _ (by show g < _; omega)), hgrow.cell hHeld.2.2.2.1 (far _ (by show g < _; omega)), hgrow.cell hHeld.2.2.2.2.1 (far _ (by show g < _; omega)), hgrow.cell hHeld.2.2.2.2.2.1 (far _ (by show g < _; omega)), hgrow.cell hHeld.2.2.2.2.2.2.1 (far _ (by show g < _; omega)), hgrow.cell hHeld.2.2.2.2.2.2.2.1 (far _ (by show g < _; omega)), hgrow.cell hHeld.2.2.2.2.2.2.2.2.1 (far _ (by show g < _; omega)), hgrow.cell hHeld.2.2.2.2.2.2.2.2.2.1 (far _ (by show g < _; omega)), hgrow.cell hHeld.2.2.2.2.2.2.2.2.2.2.1 (far _ (by show g < _; omega)), hgrow.cell hHeld.2.2.2.2.2.2.2.2.2.2.2.1 (far _ (by show g < _; omega)), hgrow.cell hHeld.2.2.2.2.2.2.2.2.2.2.2.2.1 (far _ (by show g < _; omega)), hgrow.cell hHeld.2.2.2.2.2.2.2.2.2.2.2.2.2.1 (far _ (by show g < _; omega)), hgrow.cell hHeld.2.2.2.2.2.2.2.2.2.2.2.2.2.2.1 (far _ (by show g < _; omega)), hgrow.cell hHeld.2.2.2.2.2.2.2.2.2.2.2.2.2.2.2.1 (far _ (by show g < _; omega)), hgrow.cell hHeld.2.2.2.2.2.2.2.2.2.2.2.2.2.2.2.2 (far _ (by show g < _; omega))⟩ : _ ∧ _ ∧ _ ∧ _ ∧ _ ∧ _ ∧ _ ∧ _ ∧ _ ∧ _ ∧ _ ∧ _ ∧ _ ∧ _ ∧ _ ∧ _ ∧ _)
            obtain ⟨kR, kc, I1⟩ := hI.push hO hown4 hgrow
            replace I1 := hide' I1
            clear hI hO hown4 hgrow hat far hnew
            refine hKK.out _ _ hHeld ?_
            clear hHeld
            intro hHeld
            clear hKK KK
            try simp only [Act.put, List.setIfInBounds_toArray, List.set_cons_zero, List.set_cons_succ]
            refine take' 19 (v := ?_) rfl (by kernel_rfl) (by kernel_rfl) (by kernel_rfl) (fun _ _ _ h => h) (Or.inl ⟨by rfl, ?_⟩) (by assumption) ?_
            rotate_left
            · intro w9 hSw
              go_simp
              first | done | with_reducible rfl
            simp only [Act.put, List.setIfInBounds_toArray, List.set_cons_zero, List.set_cons_succ]
            refine wpAnyH_ready (rs := [20]) (by kernel_rfl) (by simp) ?_
            refine cons' rfl (fun KK hKK => ?_)
            have fz := fun o => kR.frozen o
            go_simp
            replace hHeld := (⟨set_far (c := w.heap.size + 2) (o := 0) (u := .slice (some ⟨gb, 0, none⟩) (k + 1) cap) hHeld.1 (by omega), set_far (c := w.heap.size + 2) (o := 0) (u := .slice (some ⟨gb, 0, none⟩) (k + 1) cap) hHeld.2.1 (by omega), set_far (c := w.heap.size + 2) (o := 0) (u := .slice (some ⟨gb, 0, none⟩) (k + 1) cap) hHeld.2.2.1 (by omega), set_far (c := w.heap.size + 2) (o := 0) (u := .slice (some ⟨gb, 0, none⟩) (k + 1) cap) hHeld.2.2.2.1 (by omega), set_far (c := w.heap.size + 2) (o := 0) (u := .slice (some ⟨gb, 0, none⟩) (k + 1) cap) hHeld.2.2.2.2.1 (by omega), set_far (c := w.heap.size + 2) (o := 0) (u := .slice (some ⟨gb, 0, none⟩) (k + 1) cap) hHeld.2.2.2.2.2.1 (by omega), set_far (c := w.heap.size + 2) (o := 0) (u := .slice (some ⟨gb, 0, none⟩) (k + 1) cap) hHeld.2.2.2.2.2.2.1 (by omega), set_far (c := w.heap.size + 2) (o := 0) (u := .slice (some ⟨gb, 0, none⟩) (k + 1) cap) hHeld.2.2.2.2.2.2.2.1 (by omega), set_far (c := w.heap.size + 2) (o := 0) (u := .slice (some ⟨gb, 0, none⟩) (k + 1) cap) hHeld.2.2.2.2.2.2.2.2.1 (by omega), set_far (c := w.heap.size + 2) (o := 0) (u := .slice (some ⟨gb, 0, none⟩) (k + 1) cap) hHeld.2.2.2.2.2.2.2.2.2.1 (by omega), set_far (c := w.heap.size + 2) (o := 0) (u := .slice (some ⟨gb, 0, none⟩) (k + 1) cap) hHeld.2.2.2.2.2.2.2.2.2.2.1 (by omega), set_far (c := w.heap.size + 2) (o := 0) (u := .slice (some ⟨gb, 0, none⟩) (k + 1) cap) hHeld.2.2.2.2.2.2.2.2.2.2.2.1 (by omega), set_far (c := w.heap.size + 2) (o := 0) (u := .slice (some ⟨gb, 0, none⟩) (k + 1) cap) hHeld.2.2.2.2.2.2.2.2.2.2.2.2.1 (by omega), set_far (c := w.heap.size + 2) (o := 0) (u := .slice (some ⟨gb, 0, none⟩) (k + 1) cap) hHeld.2.2.2.2.2.2.2.2.2.2.2.2.2.1 (by omega), set_far (c := w.heap.size + 2) (o := 0) (u := .slice (some ⟨gb, 0, none⟩) (k + 1) cap) hHeld.2.2.2.2.2.2.2.2.2.2.2.2.2.2.1 (by omega), set_far (c := w.heap.size + 2) (o := 0) (u := .slice (some ⟨gb, 0, none⟩) (k + 1) cap) hHeld.2.2.2.2.2.2.2.2.2.2.2.2.2.2.2.1 (by omega), set_far (c := w.heap.size + 2) (o := 0) (u := .slice (some ⟨gb, 0, none⟩) (k + 1) cap) hHeld.2.2.2.2.2.2.2.2.2.2.2.2.2.2.2.2 (by omega)⟩ : _ ∧ _ ∧ _ ∧ _ ∧ _ ∧ _ ∧ _ ∧ _ ∧ _ ∧ _ ∧ _ ∧ _ ∧ _ ∧ _ ∧ _ ∧ _ ∧ _)
            refine hKK.out _ _ hHeld ?_
            clear hHeld
            intro hHeld
            clear hKK KK
            try simp only [Act.put, List.setIfInBounds_toArray, List.set_cons_zero, List.set_cons_succ]
            refine wpAnyH_done (by kernel_rfl) ?_ _
            go_wp2
            go_roundw
            case rel => exact ⟨k + 1, _, by omega, by go_num, I1.out⟩
            case measure => simp [intOf]; omega
          refine consT rfl (fun KK hKK => ?_) ?_
          · skip
            go_simp
            have hnew := heap_alloc_new wx5 (.cells #[.bool false, .bool false, .slice none 0 0, .slice none 0 0, .bool false, .slice none 0 0, .slice none 0 0, .int .i64 0, .bool false, .bool false, .slice none 0 0, .slice none 0 0, .bool false, .slice none 0 0, .slice none 0 0, .int .i64 0] 54)
            have b3 := below_alloc (w := wx5) (.cells #[.bool false, .bool false, .slice none 0 0, .slice none 0 0, .bool false, .slice none 0 0, .slice none 0 0, .int .i64 0, .bool false, .bool false, .slice none 0 0, .slice none 0 0, .bool false, .slice none 0 0, .slice none 0 0, .int .i64 0] 54)
            generalize wx5.alloc (.cells #[.bool false, .bool false, .slice none 0 0, .slice none 0 0, .bool false, .slice none 0 0, .slice none 0 0, .int .i64 0, .bool false, .bool false, .slice none 0 0, .slice none 0 0, .bool false, .slice none 0 0, .slice none 0 0, .int .i64 0] 54) = w3 at hnew b3 ⊢
            replace hI := hI.later b3
            replace c0 := below_cell b3 c0
            replace hHeld := (⟨below_cell b3 hHeld.1, below_cell b3 hHeld.2.1, below_cell b3 hHeld.2.2.1, below_cell b3 hHeld.2.2.2.1, below_cell b3 hHeld.2.2.2.2.1, below_cell b3 hHeld.2.2.2.2.2.1, below_cell b3 hHeld.2.2.2.2.2.2.1, below_cell b3 hHeld.2.2.2.2.2.2.2.1, below_cell b3 hHeld.2.2.2.2.2.2.2.2.1, below_cell b3 hHeld.2.2.2.2.2.2.2.2.2.1, below_cell b3 hHeld.2.2.2.2.2.2.2.2.2.2.1, below_cell b3 hHeld.2.2.2.2.2.2.2.2.2.2.2.1, below_cell b3 hHeld.2.2.2.2.2.2.2.2.2.2.2.2.1, below_cell b3 hHeld.2.2.2.2.2.2.2.2.2.2.2.2.2.1, below_cell b3 hHeld.2.2.2.2.2.2.2.2.2.2.2.2.2.2.1, below_cell b3 hHeld.2.2.2.2.2.2.2.2.2.2.2.2.2.2.2.1, below_cell b3 hHeld.2.2.2.2.2.2.2.2.2.2.2.2.2.2.2.2⟩ : _ ∧ _ ∧ _ ∧ _ ∧ _ ∧ _ ∧ _ ∧ _ ∧ _ ∧ _ ∧ _ ∧ _ ∧ _ ∧ _ ∧ _ ∧ _ ∧ _)
            clear b3
            refine hKK.out _ _ hHeld ?_
            clear hHeld
            intro hHeld
            clear hKK KK
            try simp only [Act.put, List.setIfInBounds_toArray, List.set_cons_zero, List.set_cons_succ]
            refine wpAnyH_ready (rs := [1]) (by kernel_rfl) (by simp) ?_
            refine cons' rfl (fun KK hKK => ?_)
            go_simp
            refine hKK.out _ _ hHeld ?_
            clear hHeld
            intro hHeld
            clear hKK KK
            try simp only [Act.put, List.setIfInBounds_toArray, List.set_cons_zero, List.set_cons_succ]
            refine wpAnyH_ready (rs := [18]) (by kernel_rfl) (by simp) ?_
            refine cons' rfl (fun KK hKK => ?_)
            obtain ⟨xs, hO⟩ := hI.own
            have sz := hI.size
            refine step_append_lies _ (by rfl) _ _ _ (by rfl) (w.heap.size + 3) 54 i0 _ 16 256 Try.underlying26 hi0 hz0 hz1 hz2 rfl (by omega) v k xs (by rfl) hO ⟨wx5.heap.size, 0, none⟩ 1 1 zlim.toList (by rfl) (by rfl) (World.news_of_block (cs := zlim) (t := 54) (fr := (0, 0)) hnew) zlim_one (by omega) (by simp only [maxLen]; omega) (by omega) (by omega) w3.heap.size rfl ?_
            intro gb cap w4 hown4 hgrow hat hlt4
            have far : ∀ b, b < w.heap.size + 3 → some b ≠ v.ownBlock := fun b hb e => by have := (hO.lt b e.symm).1; omega
            replace hHeld := (⟨hgrow.cell hHeld.1 (far _ (by show w.heap.size < _; omega)), hgrow.cell hHeld.2.1 (far _ (by show g < _; omega)), hgrow.cell hHeld.2.2.1 (far _ (by show g < _; omega)), hgrow.cell hHeld.2.2.2.1 (far _ (by show g < _; omega)), hgrow.cell hHeld.2.2.2.2.1 (far _ (by show g < _; omega)), hgrow.cell hHeld.2.2.2.2.2.1 (far _ (by show g < _; omega)), hgrow.cell hHeld.2.2.2.2.2.2.1 (far _ (by show g < _; omega)), hgrow.cell hHeld.2.2.2.2.2.2.2.1 (far _ (by show g < _; omega)), hgrow.cell hHeld.2.2.2.2.2.2.2.2.1 (far _ (by show g < _; omega)), hgrow.cell hHeld.2.2.2.2.2.2.2.2.2.1 (far _ (by show g < _; omega)), hgrow.cell hHeld.2.2.2.2.2.2.2.2.2.2.1 (far _ (by show g < _; omega)), hgrow.cell hHeld.2.2.2.2.2.2.2.2.2.2.2.1 (far _ (by show g < _; omega)), hgrow.cell hHeld.2.2.2.2.2.2.2.2.2.2.2.2.1 (far _ (by show g < _; omega)), hgrow.cell hHeld.2.2.2.2.2.2.2.2.2.2.2.2.2.1 (far _ (by show g < _; omega)), hgrow.cell hHeld.2.2.2.2.2.2.2.2.2.2.2.2.2.2.1 (far _ (by show g < _; omega)), hgrow.cell hHeld.2.2.2.2.2.2.2.2.2.2.2.2.2.2.2.1 (far _ (by show g < _; omega)), hgrow.cell hHeld.2.2.2.2.2.2.2.2.2.2.2.2.2.2.2.2 (far _ (by show g < _; omega))⟩ : _ ∧ _ ∧ _ ∧ _ ∧ _ ∧ _ ∧ _ ∧ _ ∧ _ ∧ _ ∧ _ ∧ _ ∧ _ ∧ _ ∧ _ ∧ _ ∧ _)
            obtain ⟨kR, kc, I1⟩ := hI.push hO hown4 hgrow
            replace I1 := hide' I1
            clear hI hO hown4 hgrow hat far hnew
            refine hKK.out _ _ hHeld ?_
            clear hHeld
            intro hHeld
            clear hKK KK
            try simp only [Act.put, List.setIfInBounds_toArray, List.set_cons_zero, List.set_cons_succ]
            refine take' 19 (v := ?_) rfl (by kernel_rfl) (by kernel_rfl) (by kernel_rfl) (fun _ _ _ h => h) (Or.inl ⟨by rfl, ?_⟩) (by assumption) ?_
            rotate_left
            · intro w9 hSw
              go_simp
              first | done | with_reducible rfl
            simp only [Act.put, List.setIfInBounds_toArray, List.set_cons_zero, List.set_cons_succ]
            refine wpAnyH_ready (rs := [20]) (by kernel_rfl) (by simp) ?_
            refine cons' rfl (fun KK hKK => ?_)
            have fz := fun o => kR.frozen o
            go_simp
            replace hHeld := (⟨set_far (c := w.heap.size + 2) (o := 0) (u := .slice (some ⟨gb, 0, none⟩) (k + 1) cap) hHeld.1 (by omega), set_far (c := w.heap.size + 2) (o := 0) (u := .slice (some ⟨gb, 0, none⟩) (k + 1) cap) hHeld.2.1 (by omega), set_far (c := w.heap.size + 2) (o := 0) (u := .slice (some ⟨gb, 0, none⟩) (k + 1) cap) hHeld.2.2.1 (by omega), set_far (c := w.heap.size + 2) (o := 0) (u := .slice (some ⟨gb, 0, none⟩) (k + 1) cap) hHeld.2.2.2.1 (by omega), set_far (c := w.heap.size + 2) (o := 0) (u := .slice (some ⟨gb, 0, none⟩) (k + 1) cap) hHeld.2.2.2.2.1 (by omega), set_far (c := w.heap.size + 2) (o := 0) (u := .slice (some ⟨gb, 0, none⟩) (k + 1) cap) hHeld.2.2.2.2.2.1 (by omega), set_far (c := w.heap.size + 2) (o := 0) (u := .slice (some ⟨gb, 0, none⟩) (k + 1) cap) hHeld.2.2.2.2.2.2.1 (by omega), set_far (c := w.heap.size + 2) (o := 0) (u := .slice (some ⟨gb, 0, none⟩) (k + 1) cap) hHeld.2.2.2.2.2.2.2.1 (by omega), set_far (c := w.heap.size + 2) (o := 0) (u := .slice (some ⟨gb, 0, none⟩) (k + 1) cap) hHeld.2.2.2.2.2.2.2.2.1 (by omega), set_far (c := w.heap.size + 2) (o := 0) (u := .slice (some ⟨gb, 0, none⟩) (k + 1) cap) hHeld.2.2.2.2.2.2.2.2.2.1 (by omega), set_far (c := w.heap.size + 2) (o := 0) (u := .slice (some ⟨gb, 0, none⟩) (k + 1) cap) hHeld.2.2.2.2.2.2.2.2.2.2.1 (by omega), set_far (c := w.heap.size + 2) (o := 0) (u := .slice (some ⟨gb, 0, none⟩) (k + 1) cap) hHeld.2.2.2.2.2.2.2.2.2.2.2.1 (by omega), set_far (c := w.heap.size + 2) (o := 0) (u := .slice (some ⟨gb, 0, none⟩) (k + 1) cap) hHeld.2.2.2.2.2.2.2.2.2.2.2.2.1 (by omega), set_far (c := w.heap.size + 2) (o := 0) (u := .slice (some ⟨gb, 0, none⟩) (k + 1) cap) hHeld.2.2.2.2.2.2.2.2.2.2.2.2.2.1 (by omega), set_far (c := w.heap.size + 2) (o := 0) (u := .slice (some ⟨gb, 0, none⟩) (k + 1) cap) hHeld.2.2.2.2.2.2.2.2.2.2.2.2.2.2.1 (by omega), set_far (c := w.heap.size + 2) (o := 0) (u := .slice (some ⟨gb, 0, none⟩) (k + 1) cap) hHeld.2.2.2.2.2.2.2.2.2.2.2.2.2.2.2.1 (by omega), set_far (c := w.heap.size + 2) (o := 0) (u := .slice (some ⟨gb, 0, none⟩) (k + 1) cap) hHeld.2.2.2.2.2.2.2.2.2.2.2.2.2.2.2.2 (by omega)⟩ : _ ∧ _ ∧ _ ∧ _ ∧ _ ∧ _ ∧ _ ∧ _ ∧ _ ∧ _ ∧ _ ∧ _ ∧ _ ∧ _ ∧ _ ∧ _ ∧ _)
            refine hKK.out _ _ hHeld ?_
            clear hHeld
            intro hHeld
            clear hKK KK
            try simp only [Act.put, List.setIfInBounds_toArray, List.set_cons_zero, List.set_cons_succ]
            refine wpAnyH_done (by kernel_rfl) ?_ _
            go_wp2
            go_roundw
            case rel => exact ⟨k + 1, _, by omega, by go_num, I1.out⟩
            case measure => simp [intOf]; omega
          exact AllReadyH.nil
        exact AllReadyH.nil
      exact AllReadyH.nil
    · obtain rfl : k = n := by omega
      have i1 : ¬ (k : Int) < (k : Int) := by omega
      have q2 := hI.p2
      go_wp2_with fail
      go_loopw [5] (fun vi w9 => vi = .int .i64 0 ∧ w9 = wr) (fun _ _ => 0)
      case atStart => exact ⟨rfl, rfl⟩
      case round =>
        obtain ⟨rfl, rfl⟩ := hrel
        have i2 : ¬ (0 : Int) < (0 : Int) := by omega
        have c0 := hI.c0
        have c1 := hI.c1
        have c2 := hI.c2
        have r0 := hI.r0
        have r1 := hI.r1
        have r2 := hI.r2
        have fz := fun o => hI.rR.frozen o
        obtain ⟨xs, hO⟩ := hI.own
        have hB := hI.bel
        have hsz := hI.size
        have hne : v.ownBlock ≠ some (w.heap.size + 1) := fun e => by have := (hO.lt _ e).1; omega
        clear hI
        obtain ⟨va, vc, rfl⟩ := own_sl hO
        go_wp2
        refine bodyPost_ret (v := .agg #[.slice va k vc, .int .i64 0, .slice none 0 0]) (by rw [results_cell rfl]; go_simp) rfl ?_
        exact ⟨_, rfl, bset (bset (bset hB (show w.heap.size ≤ w.heap.size + 1 by omega)) (show w.heap.size ≤ w.heap.size + 1 by omega)) (show w.heap.size ≤ w.heap.size + 1 by omega), ⟨xs, own_set (own_set (own_set hO hne) hne) hne⟩, by rw [World.size_setCell, World.size_setCell, World.size_setCell]; exact hsz⟩
set_option maxHeartbeats 2000000 in
set_option maxRecDepth 100000 in
theorem growR_full (g n : Nat) (hn : ¬ n < 65536) (w : World) :
    Calls Try.prog 7 #[.agg #[.slice (some ⟨g, 0, none⟩) n n, .int .i64 0, .slice none 0 0]] w fun e w' => e = .returned (.tuple #[.agg #[.slice (some ⟨g, 0, none⟩) n n, .int .i64 0, .slice none 0 0], .int .i64 0, .int .i64 2]) ∧ Below w.heap.size w w' := by
  have i1 : decide ((n : Int) ≥ 65536) = true := decide_eq_true (by omega)
  replace i1 := hide' i1
  go_enter Try.func7, Try.ntmps7
  go_wp2_with (refine geq_law _ (by rfl) _ _ _ _ (by rfl) .i64 (n : Int) 65536 true (by rfl) (by rfl) i1.out ?_)
  refine bodyPost_ret (v := .tuple #[.agg #[.slice (some ⟨g, 0, none⟩) n n, .int .i64 0, .slice none 0 0], .int .i64 0, .int .i64 2]) (by rw [results_ctt rfl]; go_simp) rfl ?_
  exact ⟨rfl, (below_alloc _).trans ((below_alloc _).mono (below_alloc _).size)⟩
set_option maxHeartbeats 4000000 in
set_option maxRecDepth 100000 in
theorem growR_is (g n : Nat) (hn : n < 65536) (w : World) (hL : LimZ w g n) :
    Calls Try.prog 7 #[.agg #[.slice (some ⟨g, 0, none⟩) n n, .int .i64 0, .slice none 0 0]] w fun e w' => ∃ gb cap, e = .returned (.tuple #[.agg #[.slice (some ⟨gb, 0, none⟩) (n + 1) cap, .int .i64 0, .slice none 0 0], .int .i64 n, .int .i64 0]) ∧ Below w.heap.size w w' := by
  have i1 : decide ((n : Int) ≥ 65536) = false := decide_eq_false (by omega)
  replace i1 := hide' i1
  obtain ⟨i0, hi0, hz0, hz1, hz2⟩ := info_parts info_Limit
  have G := hide' (fun w' (hb : Below w.heap.size w w') => copyR_is g n (by omega) w' (hL.later hb))
  clear hL
  go_enter Try.func7, Try.ntmps7
  go_wp2_with (refine geq_law _ (by rfl) _ _ _ _ (by rfl) .i64 (n : Int) 65536 false (by rfl) (by rfl) i1.out ?_)
  obtain ⟨wA, hwA⟩ : ∃ wA, (w.alloc (.cells #[.slice (some ⟨g, 0, none⟩) n n, .int .i64 0, .slice none 0 0] 29)).alloc (.cells #[.slice none 0 0, .int .i64 0, .slice none 0 0] 29) = wA := ⟨_, rfl⟩
  have hB : Below w.heap.size w wA := by subst hwA; exact (below_alloc _).trans ((below_alloc _).mono (below_alloc _).size)
  have d0 : wA.cell? ⟨w.heap.size, 0, none⟩ = some (.slice (some ⟨g, 0, none⟩) n n) := by subst hwA; go_simp
  have d1 : wA.cell? ⟨w.heap.size, 1, none⟩ = some (.int .i64 0) := by subst hwA; go_simp
  have d2 : wA.cell? ⟨w.heap.size, 2, none⟩ = some (.slice none 0 0) := by subst hwA; go_simp
  have z0 : wA.cell? ⟨w.heap.size + 1, 0, none⟩ = some (.slice none 0 0) := by subst hwA; go_simp
  have z1 : wA.cell? ⟨w.heap.size + 1, 1, none⟩ = some (.int .i64 0) := by subst hwA; go_simp
  have z2 : wA.cell? ⟨w.heap.size + 1, 2, none⟩ = some (.slice none 0 0) := by subst hwA; go_simp
  have zR : Row wA (w.heap.size + 1) := by subst hwA; have h := row_new (w.alloc (.cells #[.slice (some ⟨g, 0, none⟩) n n, .int .i64 0, .slice none 0 0] 29)) #[.slice none 0 0, .int .i64 0, .slice none 0 0] 29; rw [size_alloc] at h; exact h
  rw [hwA]
  clear hwA
  refine (G.out _ hB).mono ?_
  rintro e w1 ⟨v, xs, rfl, b1, hO, hsz⟩
  clear G
  have sA := zR.lt
  obtain ⟨va, vc, rfl⟩ := own_sl hO
  replace d0 := below_cell b1 d0
  replace z0 := below_cell b1 z0
  replace z1 := below_cell b1 z1
  replace z2 := below_cell b1 z2
  replace zR := below_row b1 zR
  replace hB := hB.trans (b1.mono hB.size)
  have s1 := b1.size
  have hWN : ∃ wN : World, (w1.alloc (.cells #[.slice va n vc, .int .i64 0, .slice none 0 0] 29)).alloc (.cells #[.bool false, .bool false, .slice none 0 0, .slice none 0 0, .bool false, .slice none 0 0, .slice none 0 0, .int .i64 0, .bool false, .bool false, .slice none 0 0, .slice none 0 0, .bool false, .slice none 0 0, .slice none 0 0, .int .i64 0] 54) = wN ∧ Below w1.heap.size w1 wN ∧ wN.heap[w1.heap.size + 1]? = some (.cells zlim 54) ∧ wN.heap.size = w1.heap.size + 2 ∧ Row wN w1.heap.size ∧ wN.cell? ⟨w1.heap.size, 0, none⟩ = some (.slice va n vc) ∧ wN.cell? ⟨w1.heap.size, 1, none⟩ = some (.int .i64 0) ∧ wN.cell? ⟨w1.heap.size, 2, none⟩ = some (.slice none 0 0) := by
    refine ⟨_, rfl, (below_alloc _).trans ((below_alloc _).mono (below_alloc _).size), ?_, by rw [size_alloc, size_alloc], below_row (below_alloc _) (row_new _ _ _), by go_simp, by go_simp, by go_simp⟩
    have h := heap_alloc_new (w1.alloc (.cells #[.slice va n vc, .int .i64 0, .slice none 0 0] 29)) (.cells zlim 54)
    rw [size_alloc] at h
    exact h
  obtain ⟨wN, hwN, b3, hnew, sN, yR, y0, y1, y2⟩ := hWN
  replace d0 := below_cell b3 d0
  replace z0 := below_cell b3 z0
  replace z1 := below_cell b3 z1
  replace z2 := below_cell b3 z2
  replace zR := below_row b3 zR
  replace hB := hB.trans (b3.mono hB.size)
  have hO9 := own_below hO b3
  have s3 := b3.size
  have hj1 : n + 1 ≤ maxLen := by simp only [maxLen]; omega
  have hbl : (n + 1) * 256 ≤ 140737488355328 := by omega
  have hbb : wA.heap.size + 3 ≤ wN.heap.size := by omega
  replace sN := hide' sN
  have hd0 := d0
  clear d0
  have hd1 := d1
  clear d1 d2
  go_wp2_with (at_builtin; (try rw [hwN]); refine wpList_append_lies _ (by rfl) _ _ _ (by rfl) (wA.heap.size + 3) 54 i0 _ 16 256 Try.underlying26 hi0 hz0 hz1 hz2 rfl (by omega) (.slice va n vc) n xs (by rfl) hO9 ⟨w1.heap.size + 1, 0, none⟩ 1 1 zlim.toList (by rfl) (by rfl) (World.news_of_block (cs := zlim) (t := 54) (fr := (0, 0)) hnew) zlim_one (by omega) hj1 hbl hbb wN.heap.size rfl ?_)
  intro gb cap w9 hown4 hgrow hat hlt4
  have sNo := sN.out
  have far : ∀ b, b < wA.heap.size → some b ≠ (Value.slice va n vc).ownBlock := fun b hb e => by have := (hO.lt b e.symm).1; omega
  have fay : some w1.heap.size ≠ (Value.slice va n vc).ownBlock := fun e => by have := (hO.lt _ e.symm).2; omega
  have k0 := hgrow.cell hd0 (far _ (by show w.heap.size < _; omega))
  have x0 := hgrow.cell z0 (far _ (by show w.heap.size + 1 < _; omega))
  have x1 := hgrow.cell z1 (far _ (by show w.heap.size + 1 < _; omega))
  have x2 := hgrow.cell z2 (far _ (by show w.heap.size + 1 < _; omega))
  have u0 := hgrow.cell y0 (show some w1.heap.size ≠ _ from fay)
  have u1 := hgrow.cell y1 (show some w1.heap.size ≠ _ from fay)
  have u2 := hgrow.cell y2 (show some w1.heap.size ≠ _ from fay)
  have uR := row_grown yR hgrow fay
  have xR := row_grown zR hgrow (far _ (by omega))
  replace hB := hB.trans (below_grown (Nat.le_trans hB.size (Nat.le_refl _)) (fun b e => by have := (hO.lt b e).1; have := hB.size; omega) hgrow)
  clear hgrow hat hown4 hnew hO hO9 hd0 hd1 z0 z1 z2 y0 y1 y2 yR zR far fay b3 b1 hwN
  have uz := fun o => uR.frozen o
  obtain ⟨wD, hwD⟩ : ∃ wD, w9.setCell ⟨w1.heap.size, 0, none⟩ (.slice (some ⟨gb, 0, none⟩) (n + 1) cap) = wD := ⟨_, rfl⟩
  have v0 : wD.cell? ⟨w1.heap.size, 0, none⟩ = some (.slice (some ⟨gb, 0, none⟩) (n + 1) cap) := by subst hwD; exact set_at u0
  have v1 : wD.cell? ⟨w1.heap.size, 1, none⟩ = some (.int .i64 0) := by subst hwD; exact set_by u1 (by omega)
  have v2 : wD.cell? ⟨w1.heap.size, 2, none⟩ = some (.slice none 0 0) := by subst hwD; exact set_by u2 (by omega)
  have l0 : wD.cell? ⟨w.heap.size, 0, none⟩ = some (.slice (some ⟨g, 0, none⟩) n n) := by subst hwD; exact set_far k0 (by omega)
  have t0 : wD.cell? ⟨w.heap.size + 1, 0, none⟩ = some (.slice none 0 0) := by subst hwD; exact set_far x0 (by omega)
  have t1 : wD.cell? ⟨w.heap.size + 1, 1, none⟩ = some (.int .i64 0) := by subst hwD; exact set_far x1 (by omega)
  have t2 : wD.cell? ⟨w.heap.size + 1, 2, none⟩ = some (.slice none 0 0) := by subst hwD; exact set_far x2 (by omega)
  have tR : Row wD (w.heap.size + 1) := by subst hwD; exact xR.setCell _ _
  have hD : Below w.heap.size w wD := by subst hwD; exact bset hB (by omega)
  clear x0 x1 x2 xR uR hB k0
  go_wp2_with fail
  (try rw [hwD])
  clear hwD u0 u1 u2 uz
  have bD : Below wD.heap.size wD wD.drew := (Below.refl _ _).drew
  have kv0 := below_cell bD v0
  have kv1 := below_cell bD v1
  have kv2 := below_cell bD v2
  have kl0 := below_cell bD l0
  replace hD := hD.trans (bD.mono hD.size)
  replace t0 := below_cell bD t0
  replace t1 := below_cell bD t1
  replace t2 := below_cell bD t2
  replace tR := below_row bD tR
  refine wp_region_held_drew (S := fun w' => w'.cell? ⟨w1.heap.size, 0, none⟩ = some (.slice (some ⟨gb, 0, none⟩) (n + 1) cap) ∧ w'.cell? ⟨w1.heap.size, 1, none⟩ = some (.int .i64 0) ∧ w'.cell? ⟨w1.heap.size, 2, none⟩ = some (.slice none 0 0) ∧ w'.cell? ⟨w.heap.size, 0, none⟩ = some (.slice (some ⟨g, 0, none⟩) n n)) (by kernel_rfl) ⟨kv0, kv1, kv2, kl0⟩ (fun hHeld => ?_)
  clear kv0 kv1 kv2 kl0
  generalize wD.drew = wF at bD t0 t1 t2 tR hD hHeld ⊢
  clear v0 v1 v2 l0
  refine take' 0 (v := ?_) rfl (by kernel_rfl) (by kernel_rfl) (by kernel_rfl) (fun _ _ _ h => h) (Or.inl ⟨by rfl, ?_⟩) (by assumption) ?_
  rotate_left
  · intro w9 hSw
    go_simp
    first | done | with_reducible rfl
  simp only [Act.put, List.setIfInBounds_toArray, List.set_cons_zero, List.set_cons_succ]
  refine take' 1 (v := ?_) rfl (by kernel_rfl) (by kernel_rfl) (by kernel_rfl) (fun _ _ _ h => h) (Or.inl ⟨by rfl, ?_⟩) (by assumption) ?_
  rotate_left
  · intro w9 hSw
    go_simp
    first | done | with_reducible rfl
  simp only [Act.put, List.setIfInBounds_toArray, List.set_cons_zero, List.set_cons_succ]
  refine take' 2 (v := ?_) rfl (by kernel_rfl) (by kernel_rfl) (by kernel_rfl) (fun _ _ _ h => h) (Or.inl ⟨by rfl, ?_⟩) (by assumption) ?_
  rotate_left
  · intro w9 hSw
    go_simp
    first | done | with_reducible rfl
  simp only [Act.put, List.setIfInBounds_toArray, List.set_cons_zero, List.set_cons_succ]
  refine take' 3 (v := ?_) rfl (by kernel_rfl) (by kernel_rfl) (by kernel_rfl) (fun _ _ _ h => h) (Or.inl ⟨by rfl, ?_⟩) (by assumption) ?_
  rotate_left
  · intro w9 hSw
    go_simp
    first | done | with_reducible rfl
  simp only [Act.put, List.setIfInBounds_toArray, List.set_cons_zero, List.set_cons_succ]
  refine wpAnyH_ready (rs := [4]) (by kernel_rfl) (by simp) ?_
  refine cons' rfl (fun KK hKK => ?_)
  have fz := fun o => tR.frozen o
  have m0 := set_at (u := .slice (some ⟨gb, 0, none⟩) (n + 1) cap) t0
  go_simp
  replace hHeld := (⟨set_far (c := w.heap.size + 1) (o := 2) (u := .slice none 0 0) (set_far (c := w.heap.size + 1) (o := 1) (u := .int .i64 0) (set_far (c := w.heap.size + 1) (o := 0) (u := .slice (some ⟨gb, 0, none⟩) (n + 1) cap) hHeld.1 (by omega)) (by omega)) (by omega), set_far (c := w.heap.size + 1) (o := 2) (u := .slice none 0 0) (set_far (c := w.heap.size + 1) (o := 1) (u := .int .i64 0) (set_far (c := w.heap.size + 1) (o := 0) (u := .slice (some ⟨gb, 0, none⟩) (n + 1) cap) hHeld.2.1 (by omega)) (by omega)) (by omega), set_far (c := w.heap.size + 1) (o := 2) (u := .slice none 0 0) (set_far (c := w.heap.size + 1) (o := 1) (u := .int .i64 0) (set_far (c := w.heap.size + 1) (o := 0) (u := .slice (some ⟨gb, 0, none⟩) (n + 1) cap) hHeld.2.2.1 (by omega)) (by omega)) (by omega), set_far (c := w.heap.size + 1) (o := 2) (u := .slice none 0 0) (set_far (c := w.heap.size + 1) (o := 1) (u := .int .i64 0) (set_far (c := w.heap.size + 1) (o := 0) (u := .slice (some ⟨gb, 0, none⟩) (n + 1) cap) hHeld.2.2.2 (by omega)) (by omega)) (by omega)⟩ : _ ∧ _ ∧ _ ∧ _)
  refine hKK.out _ _ hHeld ?_
  clear hHeld
  intro hHeld
  clear hKK KK
  try simp only [Act.put, List.setIfInBounds_toArray, List.set_cons_zero, List.set_cons_succ]
  refine take' 5 (v := ?_) rfl (by kernel_rfl) (by kernel_rfl) (by kernel_rfl) (fun _ _ _ h => h) (Or.inl ⟨by rfl, ?_⟩) (by assumption) ?_
  rotate_left
  · intro w9 hSw
    go_simp
    first | done | with_reducible rfl
  simp only [Act.put, List.setIfInBounds_toArray, List.set_cons_zero, List.set_cons_succ]
  refine take' 6 (v := ?_) rfl (by kernel_rfl) (by kernel_rfl) (by kernel_rfl) (fun _ _ _ h => h) (Or.inl ⟨by rfl, ?_⟩) (by assumption) ?_
  rotate_left
  · intro w9 hSw
    go_simp
    first | done | with_reducible rfl
  simp only [Act.put, List.setIfInBounds_toArray, List.set_cons_zero, List.set_cons_succ]
  refine wpAnyH_done (by kernel_rfl) ?_ _
  go_wp2
  refine bodyPost_ret (v := .tuple #[.agg #[.slice (some ⟨gb, 0, none⟩) (n + 1) cap, .int .i64 0, .slice none 0 0], .int .i64 n, .int .i64 0]) (by rw [results_ctt rfl]; go_simp) rfl ?_
  exact ⟨gb, cap, rfl, bset (bset (bset hD (by omega)) (by omega)) (by omega)⟩
end Go.Proofs.Ytechalahaapgiaa
