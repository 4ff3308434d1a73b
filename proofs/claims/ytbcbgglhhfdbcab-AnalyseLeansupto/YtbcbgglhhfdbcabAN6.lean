/-
  analyse: the queue of places in memory: has, isEmpty, greatest, swap, below.
-/
import Derived.Test.YtbcbgglhhfdbcabAM0
import Derived.Test.YtbcbgglhhfdbcabAN5
import Derived.Deep.QuietTactic
namespace Go.Proofs.Ytbcbgglhhfdbcab
open Go.RowKit
set_option linter.unusedVariables false
set_option linter.unusedSimpArgs false
/-- what the map of a list has -/
def seenF (L : List Int) : Int → Option Value := fun z => if hasL L z then some (.agg #[]) else none
theorem seenF_congr {L L' : List Int} (h : ∀ z, z ∈ L ↔ z ∈ L') : seenF L = seenF L' := by
  funext z
  unfold seenF
  have : hasL L z = hasL L' z := by rw [Bool.eq_iff_iff, hasL_iff, hasL_iff]; exact h z
  rw [this]
/-- the queue in memory -/
structure FaR (w : World) (ow : Nat → Nat) (t q m : Nat) (s : SlV) (N : Nat) (f : Int → Option Value) (L : List Int) : Prop where
  blk : w.heap[q]? = some (.cells #[.map (some m), s.val L.length] 94 (0, 0))
  mp : MapI Try.prog 3 w m N f
  row : RowAt w ow t 3 1 s L.length (iv L)
  oq : ow q = t
  om : ow m = t
section
variable {w w' : World} {ow ow' : Nat → Nat} {t t' q m N : Nat} {s : SlV} {f : Int → Option Value} {L : List Int}
theorem FaR.lt (h : FaR w ow t q m s N f L) : q < w.heap.size := (Array.getElem?_eq_some_iff.1 h.blk).1
theorem FaR.keep (h : FaR w ow t q m s N f L) (hk : ∀ x, x < w.heap.size → ow x = t → w'.heap[x]? = w.heap[x]?) (ho : ∀ x, x < w.heap.size → ow' x = ow x) : FaR w' ow' t q m s N f L :=
  ⟨(hk q h.lt h.oq).trans h.blk, h.mp.block (hk m h.mp.lt h.om), h.row.keep (fun g hg => hk g (h.row.lt hg) (h.row.2 g hg)) (fun g hg => ho g (h.row.lt hg)), (ho q h.lt).trans h.oq, (ho m h.mp.lt).trans h.om⟩
theorem FaR.later (h : FaR w ow t q m s N f L) (hb : Below w.heap.size w w') : FaR w' ow t q m s N f L := h.keep (fun x hx _ => hb.block x hx) fun _ _ => rfl
theorem FaR.far (h : FaR w ow t q m s N f L) (k : App ow ow' t' w w') (hne : t ≠ t') : FaR w' ow' t q m s N f L := h.keep (fun x hx e => k.block x hx (by rw [e]; exact hne)) k.same
theorem FaR.nq (h : FaR w ow t q m s N f L) (cs : Array Value) : w.heap[q]? ≠ some (Obj.cells cs 46 (0, 0)) := fun e => by
  rw [h.blk] at e
  injection e with e
  injection e with _ e _
  cases e
theorem FaR.c0 (h : FaR w ow t q m s N f L) : w.cell? ⟨q, 0, none⟩ = some (.map (some m)) := cell_of_row w q 0 _ _ _ h.blk
theorem FaR.c1 (h : FaR w ow t q m s N f L) : w.cell? ⟨q, 1, none⟩ = some (s.val L.length) := cell_of_row w q 1 _ _ _ h.blk
theorem FaR.fq (h : FaR w ow t q m s N f L) (o : Nat) : w.frozen? ⟨q, o, none⟩ = false := frozen_of_row w q o _ _ h.blk
theorem FaR.ci (h : FaR w ow t q m s N f L) {g : Nat} (hg : s.g = some g) {i : Nat} (hi : i < L.length) : w.cell? ⟨g, i, none⟩ = some (.int .i64 (L.getD i 0)) := by
  rw [h.row.cell hg (by omega)]
  exact iv_at (by simp [List.getD, List.getElem?_eq_getElem hi])
theorem FaR.gq (h : FaR w ow t q m s N f L) {g : Nat} (hg : s.g = some g) : g ≠ q := fun e => by
  obtain ⟨cur, h1, _⟩ := h.row.raw hg
  subst e
  rw [h.blk] at h1
  injection h1 with h1
  injection h1 with h1 h2
  cases h2
theorem FaR.gm (h : FaR w ow t q m s N f L) {g : Nat} (hg : s.g = some g) : g ≠ m := fun e => by
  obtain ⟨cur, h1, _⟩ := h.row.raw hg
  subst e
  exact h.mp.nocells h1
theorem FaR.qm (h : FaR w ow t q m s N f L) : q ≠ m := fun e => by
  have h1 := h.blk
  rw [e] at h1
  exact h.mp.nocells h1
/-- a place of the row stored anew -/
theorem FaR.set (h : FaR w ow t q m s N f L) {g i : Nat} (hg : s.g = some g) (hi : i < L.length) (z : Int) : FaR (w.setCell ⟨g, i, none⟩ (.int .i64 z)) ow t q m s N f (L.set i z) := by
  refine ⟨?_, h.mp.block (heap_setCell_other _ _ _ _ (fun e => h.gm hg e.symm)), ?_, h.oq, h.om⟩
  · rw [List.length_set]
    exact (heap_setCell_other _ _ _ _ (fun e => h.gq hg e.symm)).trans h.blk
  · have := h.row.set hg (j := i) (by omega) (.int .i64 z)
    rw [iv_set] at this
    rw [List.length_set]
    exact this
end
set_option maxHeartbeats 2000000 in
set_option maxRecDepth 100000 in
theorem fempty_is (ow : Nat → Nat) (t q m N : Nat) (s : SlV) (f : Int → Option Value) (L : List Int) (w : World) (h : FaR w ow t q m s N f L)  :
    Calls Try.prog 28 #[.pointer (some ⟨q, 0, none⟩)] w fun e w' => e = .returned (.bool (decide (L.length = 0))) ∧ w' = w := by
  have c1 := h.c1
  unfold SlV.val at c1
  obtain ⟨n, hn⟩ : ∃ n, L.length = n := ⟨_, rfl⟩
  rw [hn] at c1 ⊢
  clear h hn
  go_enter Try.func28, Try.ntmps28
  go_wp2
  go_ret
  exact ⟨by simp; try (rw [Bool.eq_iff_iff]; simp), rfl⟩
set_option maxHeartbeats 2000000 in
set_option maxRecDepth 100000 in
theorem fgreat_is (ow : Nat → Nat) (t q m N : Nat) (s : SlV) (f : Int → Option Value) (L : List Int) (w : World) (h : FaR w ow t q m s N f L) (hl : 0 < L.length) :
    Calls Try.prog 38 #[.pointer (some ⟨q, 0, none⟩)] w fun e w' => e = .returned (.int .i64 (L.getD 0 0)) ∧ w' = w := by
  obtain ⟨g, hg⟩ := h.row.got hl
  have c1 := h.c1
  rw [SlV.val_some hg] at c1
  have ci := h.ci hg hl
  obtain ⟨n, hn⟩ : ∃ n, L.length = n := ⟨_, rfl⟩
  rw [hn] at c1 hl
  generalize L.getD 0 0 = x at ci ⊢
  clear h hn
  have i1 : (0 : Int) < (n : Int) := by omega
  go_enter Try.func38, Try.ntmps38
  go_wp2
  go_ret
  exact ⟨rfl, rfl⟩
set_option maxHeartbeats 2000000 in
set_option maxRecDepth 100000 in
theorem fhas_is (ow : Nat → Nat) (t q m N : Nat) (s : SlV) (L : List Int) (x : Int) (hx : i64 x) (w : World) (h : FaR w ow t q m s N (seenF L) L)  :
    Calls Try.prog 62 #[.pointer (some ⟨q, 0, none⟩), .int .i64 x] w fun e w' => e = .returned (.bool (hasL L x)) ∧ Below w.heap.size w w' := by
  have c0 := h.c0
  have HP := hide' h.mp
  have hk : Try.prog.underlying 3 = some (.int .i64) := by kernel_rfl
  have ht : Try.prog.underlying 92 = some (.map 3 95) := by kernel_rfl
  have hz : ∀ w, (zeroValue 95).run Try.prog w = .ok (.agg #[]) w := fun w => rfl
  have HK := hide' (And.intro hk (And.intro ht hz))
  clear hk ht hz
  have hwf := wfI_of hx.1 hx.2
  replace hwf := hide' hwf
  obtain ⟨o, ho⟩ : ∃ o, seenF L x = o := ⟨_, rfl⟩
  have ho9 := hide' ho
  clear h hx
  unfold seenF at ho
  cases hb : hasL L x
  · rw [hb, if_neg (by simp)] at ho
    subst ho
    clear hb
    go_enter Try.func62, Try.ntmps62
    go_wp2_with (refine wpList_look _ (by rfl) _ _ _ _ (by rfl) HK.out.1 HK.out.2.1 (HK.out.2.2 _) _ _ _ (by rfl) HP.out x (by rfl) hwf.out _ ho9.out ?_)
    go_ret
    exact ⟨rfl, by repeat (first | exact Below.refl _ _ | refine Below.setCell ?_ (Nat.le_refl _) _ | refine Below.alloc ?_ (Nat.le_refl _) _)⟩
  · rw [hb, if_pos rfl] at ho
    subst ho
    clear hb
    go_enter Try.func62, Try.ntmps62
    go_wp2_with (refine wpList_look _ (by rfl) _ _ _ _ (by rfl) HK.out.1 HK.out.2.1 (HK.out.2.2 _) _ _ _ (by rfl) HP.out x (by rfl) hwf.out _ ho9.out ?_)
    go_ret
    exact ⟨rfl, by repeat (first | exact Below.refl _ _ | refine Below.setCell ?_ (Nat.le_refl _) _ | refine Below.alloc ?_ (Nat.le_refl _) _)⟩
set_option maxHeartbeats 2000000 in
set_option maxRecDepth 100000 in
theorem fswap_is (ow : Nat → Nat) (t q m N : Nat) (s : SlV) (f : Int → Option Value) (L : List Int) (i j : Nat) (hi : i < L.length) (hj : j < L.length) (hL : L.length ≤ 17592186044416) (w : World) (h : FaR w ow t q m s N f L)  :
    Calls Try.prog 63 #[.pointer (some ⟨q, 0, none⟩), .int .i64 i, .int .i64 j] w fun e w' => (∃ v, e = .returned v) ∧ FaR w' ow t q m s N f (swp L i j) ∧ App ow ow t w w' := by
  obtain ⟨g, hg⟩ := h.row.got (by omega)
  have c1 := h.c1
  rw [SlV.val_some hg] at c1
  have ci := h.ci hg hi
  have cj := h.ci hg hj
  have fz := fun o => (h.row.row hg).frozen o
  obtain ⟨n, hn⟩ : ∃ n, L.length = n := ⟨_, rfl⟩
  rw [hn] at c1 hi hj hL
  obtain ⟨x, hx⟩ : ∃ x, L.getD i 0 = x := ⟨_, rfl⟩
  obtain ⟨y, hy⟩ : ∃ y, L.getD j 0 = y := ⟨_, rfl⟩
  rw [hx] at ci
  rw [hy] at cj
  have HH := hide' (And.intro h (And.intro hn (And.intro hx hy)))
  have og : ow g = t := h.row.2 g hg
  replace og := hide' og
  clear h hn hx hy
  have i1 : (i : Int) < (n : Int) := by omega
  have j1 : (j : Int) < (n : Int) := by omega
  generalize s.c = sc at c1
  go_enter Try.func63, Try.ntmps63
  go_wp2_with fail
  have bT : Below w.heap.size w w := Below.refl _ _
  have bD : Below w.heap.size w w.drew := (Below.refl _ _).drew
  have kc1 := below_cell bD c1
  replace bT := bT.trans (bD.mono bT.size)
  replace ci := below_cell bD ci
  replace cj := below_cell bD cj
  refine wp_region_held_drew (S := fun w' => w'.cell? ⟨q, 1, none⟩ = some (.slice (some ⟨g, 0, none⟩) n sc)) (by kernel_rfl) kc1 (fun hHeld => ?_)
  clear kc1
  generalize w.drew = w1 at bD ci cj bT hHeld ⊢
  clear bD
  refine take' 0 (v := ?_) rfl (by kernel_rfl) (by kernel_rfl) (by kernel_rfl) (fun _ _ _ h => h) (Or.inl ⟨by rfl, ?_⟩) (by assumption) ?_
  rotate_left
  · intro w9 hSw
    go_simp
    first | done | with_reducible rfl
  simp only [Act.put, List.setIfInBounds_toArray, List.set_cons_zero, List.set_cons_succ]
  refine take' 1 (v := ?_) rfl (by kernel_rfl) (by kernel_rfl) (by kernel_rfl) (fun _ _ _ h => h) (Or.inl ⟨by rfl, ?_⟩) (by assumption) ?_
  rotate_left
  · intro w9 hSw
    go_simp
    first | done | with_reducible rfl
  simp only [Act.put, List.setIfInBounds_toArray, List.set_cons_zero, List.set_cons_succ]
  refine take' 2 (v := ?_) rfl (by kernel_rfl) (by kernel_rfl) (by kernel_rfl) (fun _ _ _ h => h) (Or.inl ⟨by rfl, ?_⟩) (by assumption) ?_
  rotate_left
  · intro w9 hSw
    go_simp
    first | done | with_reducible rfl
  simp only [Act.put, List.setIfInBounds_toArray, List.set_cons_zero, List.set_cons_succ]
  refine take' 3 (v := ?_) rfl (by kernel_rfl) (by kernel_rfl) (by kernel_rfl) (fun _ _ _ h => h) (Or.inl ⟨by rfl, ?_⟩) (by assumption) ?_
  rotate_left
  · intro w9 hSw
    go_simp
    first | done | with_reducible rfl
  simp only [Act.put, List.setIfInBounds_toArray, List.set_cons_zero, List.set_cons_succ]
  refine take' 4 (v := ?_) rfl (by kernel_rfl) (by kernel_rfl) (by kernel_rfl) (fun _ _ _ h => h) (Or.inl ⟨by rfl, ?_⟩) (by assumption) ?_
  rotate_left
  · intro w9 hSw
    go_simp
    first | done | with_reducible rfl
  simp only [Act.put, List.setIfInBounds_toArray, List.set_cons_zero, List.set_cons_succ]
  refine take' 5 (v := ?_) rfl (by kernel_rfl) (by kernel_rfl) (by kernel_rfl) (fun _ _ _ h => h) (Or.inl ⟨by rfl, ?_⟩) (by assumption) ?_
  rotate_left
  · intro w9 hSw
    go_simp
    first | done | with_reducible rfl
  simp only [Act.put, List.setIfInBounds_toArray, List.set_cons_zero, List.set_cons_succ]
  refine take' 6 (v := ?_) rfl (by kernel_rfl) (by kernel_rfl) (by kernel_rfl) (fun _ _ _ h => h) (Or.inl ⟨by rfl, ?_⟩) (by assumption) ?_
  rotate_left
  · intro w9 hSw
    go_simp
    first | done | with_reducible rfl
  simp only [Act.put, List.setIfInBounds_toArray, List.set_cons_zero, List.set_cons_succ]
  refine take' 7 (v := ?_) rfl (by kernel_rfl) (by kernel_rfl) (by kernel_rfl) (fun _ _ _ h => h) (Or.inl ⟨by rfl, ?_⟩) (by assumption) ?_
  rotate_left
  · intro w9 hSw
    go_simp
    first | done | with_reducible rfl
  simp only [Act.put, List.setIfInBounds_toArray, List.set_cons_zero, List.set_cons_succ]
  refine take' 8 (v := ?_) rfl (by kernel_rfl) (by kernel_rfl) (by kernel_rfl) (fun _ _ _ h => h) (Or.inl ⟨by rfl, ?_⟩) (by assumption) ?_
  rotate_left
  · intro w9 hSw
    go_simp
    first | done | with_reducible rfl
  simp only [Act.put, List.setIfInBounds_toArray, List.set_cons_zero, List.set_cons_succ]
  refine take' 9 (v := ?_) rfl (by kernel_rfl) (by kernel_rfl) (by kernel_rfl) (fun _ _ _ h => h) (Or.inl ⟨by rfl, ?_⟩) (by assumption) ?_
  rotate_left
  · intro w9 hSw
    go_simp
    first | done | with_reducible rfl
  simp only [Act.put, List.setIfInBounds_toArray, List.set_cons_zero, List.set_cons_succ]
  refine take' 10 (v := ?_) rfl (by kernel_rfl) (by kernel_rfl) (by kernel_rfl) (fun _ _ _ h => h) (Or.inl ⟨by rfl, ?_⟩) (by assumption) ?_
  rotate_left
  · intro w9 hSw
    go_simp
    first | done | with_reducible rfl
  simp only [Act.put, List.setIfInBounds_toArray, List.set_cons_zero, List.set_cons_succ]
  refine take' 11 (v := ?_) rfl (by kernel_rfl) (by kernel_rfl) (by kernel_rfl) (fun _ _ _ h => h) (Or.inl ⟨by rfl, ?_⟩) (by assumption) ?_
  rotate_left
  · intro w9 hSw
    go_simp
    first | done | with_reducible rfl
  simp only [Act.put, List.setIfInBounds_toArray, List.set_cons_zero, List.set_cons_succ]
  refine take' 12 (v := ?_) rfl (by kernel_rfl) (by kernel_rfl) (by kernel_rfl) (fun _ _ _ h => h) (Or.inl ⟨by rfl, ?_⟩) (by assumption) ?_
  rotate_left
  · intro w9 hSw
    go_simp
    first | done | with_reducible rfl
  simp only [Act.put, List.setIfInBounds_toArray, List.set_cons_zero, List.set_cons_succ]
  refine take' 13 (v := ?_) rfl (by kernel_rfl) (by kernel_rfl) (by kernel_rfl) (fun _ _ _ h => h) (Or.inl ⟨by rfl, ?_⟩) (by assumption) ?_
  rotate_left
  · intro w9 hSw
    go_simp
    first | done | with_reducible rfl
  simp only [Act.put, List.setIfInBounds_toArray, List.set_cons_zero, List.set_cons_succ]
  refine take' 14 (v := ?_) rfl (by kernel_rfl) (by kernel_rfl) (by kernel_rfl) (fun _ _ _ h => h) (Or.inl ⟨by rfl, ?_⟩) (by assumption) ?_
  rotate_left
  · intro w9 hSw
    go_simp
    first | done | with_reducible rfl
  simp only [Act.put, List.setIfInBounds_toArray, List.set_cons_zero, List.set_cons_succ]
  refine take' 15 (v := ?_) rfl (by kernel_rfl) (by kernel_rfl) (by kernel_rfl) (fun _ _ _ h => h) (Or.inl ⟨by rfl, ?_⟩) (by assumption) ?_
  rotate_left
  · intro w9 hSw
    go_simp
    first | done | with_reducible rfl
  simp only [Act.put, List.setIfInBounds_toArray, List.set_cons_zero, List.set_cons_succ]
  refine take' 17 (v := ?_) rfl (by kernel_rfl) (by kernel_rfl) (by kernel_rfl) (fun _ _ _ h => h) (Or.inl ⟨by rfl, ?_⟩) (by assumption) ?_
  rotate_left
  · intro w9 hSw
    go_simp
    first | done | with_reducible rfl
  simp only [Act.put, List.setIfInBounds_toArray, List.set_cons_zero, List.set_cons_succ]
  refine take' 18 (v := ?_) rfl (by kernel_rfl) (by kernel_rfl) (by kernel_rfl) (fun _ _ _ h => h) (Or.inl ⟨by rfl, ?_⟩) (by assumption) ?_
  rotate_left
  · intro w9 hSw
    go_simp
    first | done | with_reducible rfl
  simp only [Act.put, List.setIfInBounds_toArray, List.set_cons_zero, List.set_cons_succ]
  refine take' 19 (v := ?_) rfl (by kernel_rfl) (by kernel_rfl) (by kernel_rfl) (fun _ _ _ h => h) (Or.inl ⟨by rfl, ?_⟩) (by assumption) ?_
  rotate_left
  · intro w9 hSw
    go_simp
    first | done | with_reducible rfl
  simp only [Act.put, List.setIfInBounds_toArray, List.set_cons_zero, List.set_cons_succ]
  refine take' 20 (v := ?_) rfl (by kernel_rfl) (by kernel_rfl) (by kernel_rfl) (fun _ _ _ h => h) (Or.inl ⟨by rfl, ?_⟩) (by assumption) ?_
  rotate_left
  · intro w9 hSw
    go_simp
    first | done | with_reducible rfl
  simp only [Act.put, List.setIfInBounds_toArray, List.set_cons_zero, List.set_cons_succ]
  refine take' 21 (v := ?_) rfl (by kernel_rfl) (by kernel_rfl) (by kernel_rfl) (fun _ _ _ h => h) (Or.inl ⟨by rfl, ?_⟩) (by assumption) ?_
  rotate_left
  · intro w9 hSw
    go_simp
    first | done | with_reducible rfl
  simp only [Act.put, List.setIfInBounds_toArray, List.set_cons_zero, List.set_cons_succ]
  refine take' 22 (v := ?_) rfl (by kernel_rfl) (by kernel_rfl) (by kernel_rfl) (fun _ _ _ h => h) (Or.inl ⟨by rfl, ?_⟩) (by assumption) ?_
  rotate_left
  · intro w9 hSw
    go_simp
    first | done | with_reducible rfl
  simp only [Act.put, List.setIfInBounds_toArray, List.set_cons_zero, List.set_cons_succ]
  refine wpAnyH_ready (rs := [16, 23]) (by kernel_rfl) (by simp) ?_
  refine consT rfl (fun KK hKK => ?_) ?_
  · skip
    go_simp
    refine hKK.out _ _ hHeld ?_
    clear hHeld
    intro hHeld
    clear hKK KK
    try simp only [Act.put, List.setIfInBounds_toArray, List.set_cons_zero, List.set_cons_succ]
    refine wpAnyH_ready (rs := [23]) (by kernel_rfl) (by simp) ?_
    refine cons' rfl (fun KK hKK => ?_)
    go_simp
    refine hKK.out _ _ hHeld ?_
    clear hHeld
    intro hHeld
    clear hKK KK
    try simp only [Act.put, List.setIfInBounds_toArray, List.set_cons_zero, List.set_cons_succ]
    refine take' 24 (v := ?_) rfl (by kernel_rfl) (by kernel_rfl) (by kernel_rfl) (fun _ _ _ h => h) (Or.inl ⟨by rfl, ?_⟩) (by assumption) ?_
    rotate_left
    · intro w9 hSw
      go_simp
      first | done | with_reducible rfl
    simp only [Act.put, List.setIfInBounds_toArray, List.set_cons_zero, List.set_cons_succ]
    refine wpAnyH_ready (rs := [25]) (by kernel_rfl) (by simp) ?_
    refine cons' rfl (fun KK hKK => ?_)
    have fz1 : ∀ o, w1.frozen? ⟨g, o, none⟩ = false := fun o => (HH.out.1.later bT).row.row hg |>.frozen o
    have hq2 : (w1.setCell ⟨g, i, none⟩ (.int .i64 y)).cell? ⟨q, 1, none⟩ = some (.slice (some ⟨g, 0, none⟩) n sc) := (World.cell?_of_block (w := w1) (a := ⟨q, 1, none⟩) (heap_setCell_other _ _ _ _ (fun e => HH.out.1.gq hg e.symm))).trans hHeld
    go_simp
    refine hKK.out _ _ hq2 ?_
    clear hHeld
    intro hHeld
    clear hKK KK
    try simp only [Act.put, List.setIfInBounds_toArray, List.set_cons_zero, List.set_cons_succ]
    clear hq2 fz1
    refine take' 26 (v := ?_) rfl (by kernel_rfl) (by kernel_rfl) (by kernel_rfl) (fun _ _ _ h => h) (Or.inl ⟨by rfl, ?_⟩) (by assumption) ?_
    rotate_left
    · intro w9 hSw
      go_simp
      first | done | with_reducible rfl
    simp only [Act.put, List.setIfInBounds_toArray, List.set_cons_zero, List.set_cons_succ]
    refine wpAnyH_ready (rs := [27]) (by kernel_rfl) (by simp) ?_
    refine cons' rfl (fun KK hKK => ?_)
    have h2 := (HH.out.1.later bT).set hg (i := i) (by rw [HH.out.2.1]; exact hi) y
    obtain ⟨w2, hw2⟩ : ∃ w2, w1.setCell ⟨g, i, none⟩ (.int .i64 y) = w2 := ⟨_, rfl⟩
    rw [hw2] at h2 hHeld ⊢
    have fz2 : ∀ o, w2.frozen? ⟨g, o, none⟩ = false := fun o => h2.row.row hg |>.frozen o
    have cj2 : w2.cell? ⟨g, j, none⟩ = some (.int .i64 ((L.set i y).getD j 0)) := h2.ci hg (by rw [List.length_set, HH.out.2.1]; exact hj)
    have hq2 : (w2.setCell ⟨g, j, none⟩ (.int .i64 x)).cell? ⟨q, 1, none⟩ = some (.slice (some ⟨g, 0, none⟩) n sc) := (World.cell?_of_block (w := w2) (a := ⟨q, 1, none⟩) (heap_setCell_other _ _ _ _ (fun e => HH.out.1.gq hg e.symm))).trans hHeld
    have h3 := h2.set hg (i := j) (by rw [List.length_set, HH.out.2.1]; exact hj) x
    have HE := hide' (And.intro h3 (show w2 = w1.setCell ⟨g, i, none⟩ (.int .i64 y) from hw2.symm))
    clear h3 h2 hw2
    go_simp
    refine hKK.out _ _ hq2 ?_
    clear hHeld
    intro hHeld
    clear hKK KK
    try simp only [Act.put, List.setIfInBounds_toArray, List.set_cons_zero, List.set_cons_succ]
    clear hq2 fz2 cj2
    refine wpAnyH_done (by kernel_rfl) ?_ _
    go_wp2_with fail
    refine bodyPost_end (v := .tuple #[]) (by kernel_rfl) rfl ?_
    refine ⟨⟨_, rfl⟩, ?_, ?_⟩
    · have h9 := HE.out.1; unfold swp; rw [HH.out.2.2.1, HH.out.2.2.2]; exact h9
    · rw [HE.out.2]; exact ((App.of_below bT).trans (App.set ow t w1 g i _ og.out ((HH.out.1.later bT).row.nk hg (by decide)))).trans (App.set ow t _ g j _ og.out (((HH.out.1.later bT).set hg (i := i) (by rw [HH.out.2.1]; exact hi) y).row.nk hg (by decide)))
  refine consT rfl (fun KK hKK => ?_) ?_
  · skip
    go_simp
    refine hKK.out _ _ hHeld ?_
    clear hHeld
    intro hHeld
    clear hKK KK
    try simp only [Act.put, List.setIfInBounds_toArray, List.set_cons_zero, List.set_cons_succ]
    refine wpAnyH_ready (rs := [16]) (by kernel_rfl) (by simp) ?_
    refine cons' rfl (fun KK hKK => ?_)
    go_simp
    refine hKK.out _ _ hHeld ?_
    clear hHeld
    intro hHeld
    clear hKK KK
    try simp only [Act.put, List.setIfInBounds_toArray, List.set_cons_zero, List.set_cons_succ]
    refine take' 24 (v := ?_) rfl (by kernel_rfl) (by kernel_rfl) (by kernel_rfl) (fun _ _ _ h => h) (Or.inl ⟨by rfl, ?_⟩) (by assumption) ?_
    rotate_left
    · intro w9 hSw
      go_simp
      first | done | with_reducible rfl
    simp only [Act.put, List.setIfInBounds_toArray, List.set_cons_zero, List.set_cons_succ]
    refine wpAnyH_ready (rs := [25]) (by kernel_rfl) (by simp) ?_
    refine cons' rfl (fun KK hKK => ?_)
    have fz1 : ∀ o, w1.frozen? ⟨g, o, none⟩ = false := fun o => (HH.out.1.later bT).row.row hg |>.frozen o
    have hq2 : (w1.setCell ⟨g, i, none⟩ (.int .i64 y)).cell? ⟨q, 1, none⟩ = some (.slice (some ⟨g, 0, none⟩) n sc) := (World.cell?_of_block (w := w1) (a := ⟨q, 1, none⟩) (heap_setCell_other _ _ _ _ (fun e => HH.out.1.gq hg e.symm))).trans hHeld
    go_simp
    refine hKK.out _ _ hq2 ?_
    clear hHeld
    intro hHeld
    clear hKK KK
    try simp only [Act.put, List.setIfInBounds_toArray, List.set_cons_zero, List.set_cons_succ]
    clear hq2 fz1
    refine take' 26 (v := ?_) rfl (by kernel_rfl) (by kernel_rfl) (by kernel_rfl) (fun _ _ _ h => h) (Or.inl ⟨by rfl, ?_⟩) (by assumption) ?_
    rotate_left
    · intro w9 hSw
      go_simp
      first | done | with_reducible rfl
    simp only [Act.put, List.setIfInBounds_toArray, List.set_cons_zero, List.set_cons_succ]
    refine wpAnyH_ready (rs := [27]) (by kernel_rfl) (by simp) ?_
    refine cons' rfl (fun KK hKK => ?_)
    have h2 := (HH.out.1.later bT).set hg (i := i) (by rw [HH.out.2.1]; exact hi) y
    obtain ⟨w2, hw2⟩ : ∃ w2, w1.setCell ⟨g, i, none⟩ (.int .i64 y) = w2 := ⟨_, rfl⟩
    rw [hw2] at h2 hHeld ⊢
    have fz2 : ∀ o, w2.frozen? ⟨g, o, none⟩ = false := fun o => h2.row.row hg |>.frozen o
    have cj2 : w2.cell? ⟨g, j, none⟩ = some (.int .i64 ((L.set i y).getD j 0)) := h2.ci hg (by rw [List.length_set, HH.out.2.1]; exact hj)
    have hq2 : (w2.setCell ⟨g, j, none⟩ (.int .i64 x)).cell? ⟨q, 1, none⟩ = some (.slice (some ⟨g, 0, none⟩) n sc) := (World.cell?_of_block (w := w2) (a := ⟨q, 1, none⟩) (heap_setCell_other _ _ _ _ (fun e => HH.out.1.gq hg e.symm))).trans hHeld
    have h3 := h2.set hg (i := j) (by rw [List.length_set, HH.out.2.1]; exact hj) x
    have HE := hide' (And.intro h3 (show w2 = w1.setCell ⟨g, i, none⟩ (.int .i64 y) from hw2.symm))
    clear h3 h2 hw2
    go_simp
    refine hKK.out _ _ hq2 ?_
    clear hHeld
    intro hHeld
    clear hKK KK
    try simp only [Act.put, List.setIfInBounds_toArray, List.set_cons_zero, List.set_cons_succ]
    clear hq2 fz2 cj2
    refine wpAnyH_done (by kernel_rfl) ?_ _
    go_wp2_with fail
    refine bodyPost_end (v := .tuple #[]) (by kernel_rfl) rfl ?_
    refine ⟨⟨_, rfl⟩, ?_, ?_⟩
    · have h9 := HE.out.1; unfold swp; rw [HH.out.2.2.1, HH.out.2.2.2]; exact h9
    · rw [HE.out.2]; exact ((App.of_below bT).trans (App.set ow t w1 g i _ og.out ((HH.out.1.later bT).row.nk hg (by decide)))).trans (App.set ow t _ g j _ og.out (((HH.out.1.later bT).set hg (i := i) (by rw [HH.out.2.1]; exact hi) y).row.nk hg (by decide)))
  exact AllReadyH.nil
end Go.Proofs.Ytbcbgglhhfdbcab
