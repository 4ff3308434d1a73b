/-
  The reference's push, where a list is open.
-/
import Derived.Test.YtibeiggedmabkaaDoorSZ1
namespace Go.Proofs.YtibeiggedmabkaaDoor
open Go.RowKit
set_option linter.unusedVariables false
set_option linter.unusedSimpArgs false
set_option maxHeartbeats 16000000 in
set_option maxRecDepth 100000 in
theorem rpush1 (na : Option Addr) (nn nc gl c d : Nat) (base : Nat) (v : Value) (K : List (Tok × Value)) (t : Tok) (ua : Option Addr) (un uc : Nat) (code pl : Int) (w : World) (hK : w.ownsRow base 34 7 v K.length (nvCells K)) (hkl : K.length ≤ 1000000000) (hbase : base ≤ w.heap.size) (hd : d ≤ 1000) (hc : w.cell? ⟨gl, d * 7 + 6, none⟩ = some v) (hf : w.frozen? ⟨gl, d * 7 + 6, none⟩ = false) (hvg : v.ownBlock ≠ some gl) :
    Calls Tryd.prog 54 #[.agg #[.slice na nn nc, .slice (some ⟨gl, 0, none⟩) (d + 1) c, .int .i64 code, .int .i64 pl], .agg #[.int .i64 t.k, .string t.t, .int .i64 t.b, .int .i64 t.e, .int .i64 t.l, .int .i64 t.c, .slice ua un uc]] w fun r w' => ∃ v', r = .returned (.agg #[.slice na nn nc, .slice (some ⟨gl, 0, none⟩) (d + 1) c, .int .i64 code, .int .i64 pl]) ∧ w'.ownsRow base 34 7 v' (K.length + 1) (nvCells (K ++ [(t, .slice ua un uc)])) ∧ w'.heap[gl]? = (w.setCell ⟨gl, d * 7 + 6, none⟩ v').heap[gl]? ∧ Kp (fun k => k = gl ∨ v.ownBlock = some k) w w' ∧ (v'.ownBlock = v.ownBlock ∨ ∃ g, v'.ownBlock = some g ∧ w.heap.size ≤ g) := by
  obtain ⟨a0, cp, ev⟩ := own_sl hK
  subst ev
  have hgl := World.block_lt_of_cell? w _ hc
  have b2 := below_alloc (w := w) (.cells #[.slice na nn nc, .slice (some ⟨gl, 0, none⟩) (d + 1) c, .int .i64 code, .int .i64 pl] 54)
  have q2 := Blk.new w #[.slice na nn nc, .slice (some ⟨gl, 0, none⟩) (d + 1) c, .int .i64 code, .int .i64 pl] 54
  have e2 : (w.alloc (.cells #[.slice na nn nc, .slice (some ⟨gl, 0, none⟩) (d + 1) c, .int .i64 code, .int .i64 pl] 54)).heap.size = w.heap.size + 1 := by simp
  have b3 := below_alloc (w := w.alloc (.cells #[.slice na nn nc, .slice (some ⟨gl, 0, none⟩) (d + 1) c, .int .i64 code, .int .i64 pl] 54)) (.cells #[.int .i64 t.k, .string t.t, .int .i64 t.b, .int .i64 t.e, .int .i64 t.l, .int .i64 t.c, .slice ua un uc] 34)
  have qN := Blk.new (w.alloc (.cells #[.slice na nn nc, .slice (some ⟨gl, 0, none⟩) (d + 1) c, .int .i64 code, .int .i64 pl] 54)) #[.int .i64 t.k, .string t.t, .int .i64 t.b, .int .i64 t.e, .int .i64 t.l, .int .i64 t.c, .slice ua un uc] 34
  have e3 : ((w.alloc (.cells #[.slice na nn nc, .slice (some ⟨gl, 0, none⟩) (d + 1) c, .int .i64 code, .int .i64 pl] 54)).alloc (.cells #[.int .i64 t.k, .string t.t, .int .i64 t.b, .int .i64 t.e, .int .i64 t.l, .int .i64 t.c, .slice ua un uc] 34)).heap.size = w.heap.size + 2 := by simp
  have b4 := below_alloc (w := (w.alloc (.cells #[.slice na nn nc, .slice (some ⟨gl, 0, none⟩) (d + 1) c, .int .i64 code, .int .i64 pl] 54)).alloc (.cells #[.int .i64 t.k, .string t.t, .int .i64 t.b, .int .i64 t.e, .int .i64 t.l, .int .i64 t.c, .slice ua un uc] 34)) (.cells #[.slice none 0 0, .slice none 0 0, .int .i64 0, .int .i64 0] 54)
  have q4 := Blk.new ((w.alloc (.cells #[.slice na nn nc, .slice (some ⟨gl, 0, none⟩) (d + 1) c, .int .i64 code, .int .i64 pl] 54)).alloc (.cells #[.int .i64 t.k, .string t.t, .int .i64 t.b, .int .i64 t.e, .int .i64 t.l, .int .i64 t.c, .slice ua un uc] 34)) #[.slice none 0 0, .slice none 0 0, .int .i64 0, .int .i64 0] 54
  have e4 : (((w.alloc (.cells #[.slice na nn nc, .slice (some ⟨gl, 0, none⟩) (d + 1) c, .int .i64 code, .int .i64 pl] 54)).alloc (.cells #[.int .i64 t.k, .string t.t, .int .i64 t.b, .int .i64 t.e, .int .i64 t.l, .int .i64 t.c, .slice ua un uc] 34)).alloc (.cells #[.slice none 0 0, .slice none 0 0, .int .i64 0, .int .i64 0] 54)).heap.size = w.heap.size + 3 := by simp
  rw [e2] at qN
  rw [e3] at q4
  replace q2 := (q2.later b3).later b4
  replace qN := qN.later b4
  have b23 := b2.trans (b3.mono b2.size)
  have b0 := b23.trans (b4.mono b23.size)
  clear b2 b3 b4 b23
  have hvlt := fun g hg => (own_lt hK (g := g) hg).2
  replace hK := own_kp hK (Kp.of (X := fun _ => False) b0) (fun _ _ c => c)
  replace hc := below_cell b0 hc
  have hf1 : (((w.alloc (.cells #[.slice na nn nc, .slice (some ⟨gl, 0, none⟩) (d + 1) c, .int .i64 code, .int .i64 pl] 54)).alloc (.cells #[.int .i64 t.k, .string t.t, .int .i64 t.b, .int .i64 t.e, .int .i64 t.l, .int .i64 t.c, .slice ua un uc] 34)).alloc (.cells #[.slice none 0 0, .slice none 0 0, .int .i64 0, .int .i64 0] 54)).frozen? ⟨gl, d * 7 + 6, none⟩ = false := (World.frozen?_of_block (w := w) (a := ⟨gl, d * 7 + 6, none⟩) (b0.block gl hgl)).trans hf
  have kz : Kp (fun k => (Value.slice a0 K.length cp).ownBlock = some k) w (((w.alloc (.cells #[.slice na nn nc, .slice (some ⟨gl, 0, none⟩) (d + 1) c, .int .i64 code, .int .i64 pl] 54)).alloc (.cells #[.int .i64 t.k, .string t.t, .int .i64 t.b, .int .i64 t.e, .int .i64 t.l, .int .i64 t.c, .slice ua un uc] 34)).alloc (.cells #[.slice none 0 0, .slice none 0 0, .int .i64 0, .int .i64 0] 54)) := Kp.of b0
  clear hf
  have x0 : (((d : Int) + 1) == 0) = false := by rw [beq_eq_false_iff_ne]; omega
  have hdi : (d : Int) < (d : Int) + 1 := by omega
  have hdn : d < d + 1 := by omega
  go_enter Tryd.func54, Tryd.ntmps54
  go_upto_region 1 with fail
  try rw [e2]
  try rw [e3]
  generalize ((w.alloc (.cells #[.slice na nn nc, .slice (some ⟨gl, 0, none⟩) (d + 1) c, .int .i64 code, .int .i64 pl] 54)).alloc (.cells #[.int .i64 t.k, .string t.t, .int .i64 t.b, .int .i64 t.e, .int .i64 t.l, .int .i64 t.c, .slice ua un uc] 34)).alloc (.cells #[.slice none 0 0, .slice none 0 0, .int .i64 0, .int .i64 0] 54) = W at b0 q2 qN q4 e4 hK hc hf1 kz ⊢
  have e4i : w.heap.size + 3 ≤ W.heap.size := by omega
  clear e2 e3 e4
  have y1 := q2.cell 1
  simp only [List.getElem?_toArray, List.getElem?_cons_zero, List.getElem?_cons_succ] at y1
  go_wp2_with fail
  clear y1
  have bX := Below.refl W.heap.size W
  have bD : Below W.heap.size W W.drew := (Below.refl _ _).drew
  replace bX := bX.trans (bD.mono bX.size)
  refine wp_region_held_drew (S := fun w' => True) (by kernel_rfl) trivial (fun hHeld => ?_)
  generalize W.drew = w0 at bD bX hHeld ⊢
  clear bD
  refine wpAnyH_ready (rs := [0]) (by kernel_rfl) (by simp) ?_
  refine cons' rfl (fun KK hKK => ?_)
  go_simp
  have b5 := below_alloc (w := w0) (.cells #[.bool false] 4)
  have q5 := Blk.new w0 #[.bool false] 4
  have hn5 : W.heap.size ≤ w0.heap.size := bX.size
  replace bX := bX.trans (b5.mono bX.size)
  clear b5
  generalize w0.alloc (.cells #[.bool false] 4) = w5 at q5 bX ⊢
  generalize w0.heap.size = nb at q5 hn5 ⊢
  refine hKK.out _ _ hHeld ?_
  clear hHeld
  intro hHeld
  clear hKK KK
  try simp only [Act.put, List.setIfInBounds_toArray, List.set_cons_zero, List.set_cons_succ]
  refine wpAnyH_ready (rs := [1, 2]) (by kernel_rfl) (by simp) ?_
  refine consTX rfl (fun KK hKK => ?_) ?_
  · skip
    have fz := fun o => q5.frozen o
    have u0 := q5.cell 0
    simp only [List.getElem?_toArray, List.getElem?_cons_zero, List.getElem?_cons_succ] at u0
    go_simp
    clear fz u0
    obtain ⟨k5, q6⟩ := q5.set (o := 0) (.bool true)
    have q7 : Blk (w5.setCell ⟨nb, 0, none⟩ (.bool true)) nb #[.bool true] 4 := by simpa using q6
    clear q5 q6
    have q5 := q7
    clear q7
    replace bX := bX.trans (k5.below (B := W.heap.size) hn5)
    clear k5
    generalize w5.setCell ⟨nb, 0, none⟩ (.bool true) = w6 at q5 bX ⊢
    refine hKK.out _ _ hHeld ?_
    clear hHeld
    intro hHeld
    clear hKK KK
    try simp only [Act.put, List.setIfInBounds_toArray, List.set_cons_zero, List.set_cons_succ]
    refine wpAnyH_ready (rs := [2]) (by kernel_rfl) (by simp) ?_
    refine cons' rfl (fun KK hKK => ?_)
    have fz := fun o => q5.frozen o
    have u0 := q5.cell 0
    simp only [List.getElem?_toArray, List.getElem?_cons_zero, List.getElem?_cons_succ] at u0
    go_simp
    clear fz u0
    obtain ⟨k5, q6⟩ := q5.set (o := 0) (.bool false)
    have q7 : Blk (w6.setCell ⟨nb, 0, none⟩ (.bool false)) nb #[.bool false] 4 := by simpa using q6
    clear q5 q6
    have q5 := q7
    clear q7
    replace bX := bX.trans (k5.below (B := W.heap.size) hn5)
    clear k5
    generalize w6.setCell ⟨nb, 0, none⟩ (.bool false) = w7 at q5 bX ⊢
    refine hKK.out _ _ hHeld ?_
    clear hHeld
    intro hHeld
    clear hKK KK
    try simp only [Act.put, List.setIfInBounds_toArray, List.set_cons_zero, List.set_cons_succ]
    refine wpAnyH_ready (rs := [3]) (by kernel_rfl) (by simp) ?_
    refine cons' rfl (fun KK hKK => ?_)
    have u0 := q5.cell 0
    simp only [List.getElem?_toArray, List.getElem?_cons_zero, List.getElem?_cons_succ] at u0
    go_simp
    clear u0
    refine hKK.out _ _ hHeld ?_
    clear hHeld
    intro hHeld
    clear hKK KK
    try simp only [Act.put, List.setIfInBounds_toArray, List.set_cons_zero, List.set_cons_succ]
    refine wpAnyH_done (by kernel_rfl) ?_ _
    clear hHeld q5
    go_wp2_with fail
    replace q2 := q2.later bX
    replace qN := qN.later bX
    replace q4 := q4.later bX
    replace hf1 := (World.frozen?_of_block (w := W) (a := ⟨gl, d * 7 + 6, none⟩) (bX.block gl (World.block_lt_of_cell? _ _ hc))).trans hf1
    replace hc := below_cell bX hc
    replace hK := own_kp hK (Kp.of (X := fun _ => False) bX) (fun _ _ c => c)
    replace kz := kz.trans (Kp.of (X := fun k => (Value.slice a0 K.length cp).ownBlock = some k) bX) (fun _ _ c => c)
    have hs1 : w.heap.size + 3 ≤ w7.heap.size := Nat.le_trans e4i bX.size
    clear bX
    have y1 := q2.cell 1
    have x0 := qN.cell 0
    have x1 := qN.cell 1
    have x2 := qN.cell 2
    have x3 := qN.cell 3
    have x4 := qN.cell 4
    have x5 := qN.cell 5
    have x6 := qN.cell 6
    simp only [List.getElem?_toArray, List.getElem?_cons_zero, List.getElem?_cons_succ] at y1 x0 x1 x2 x3 x4 x5 x6
    have bD : Below w7.heap.size w7 w7.drew := (Below.refl _ _).drew
    have ky1 := below_cell bD y1
    have kx0 := below_cell bD x0
    have kx1 := below_cell bD x1
    have kx2 := below_cell bD x2
    have kx3 := below_cell bD x3
    have kx4 := below_cell bD x4
    have kx5 := below_cell bD x5
    have kx6 := below_cell bD x6
    replace hf1 := (World.frozen?_of_block (w := _) (a := ⟨gl, d * 7 + 6, none⟩) (bD.block gl (World.block_lt_of_cell? _ _ hc))).trans hf1
    replace q2 := q2.later bD
    replace qN := qN.later bD
    replace q4 := q4.later bD
    replace hc := below_cell bD hc
    replace hK := own_kp hK (Kp.of (X := fun _ => False) bD) (fun _ _ c => c)
    replace kz := kz.trans (Kp.of (X := fun k => (Value.slice a0 K.length cp).ownBlock = some k) bD) (fun _ _ c => c)
    replace hs1 := Nat.le_trans hs1 bD.size
    refine wp_region_held_drew (S := fun w' => w'.cell? ⟨w.heap.size, 1, none⟩ = some (.slice (some ⟨gl, 0, none⟩) (d + 1) c) ∧ w'.cell? ⟨w.heap.size + 1, 0, none⟩ = some (.int .i64 t.k) ∧ w'.cell? ⟨w.heap.size + 1, 1, none⟩ = some (.string t.t) ∧ w'.cell? ⟨w.heap.size + 1, 2, none⟩ = some (.int .i64 t.b) ∧ w'.cell? ⟨w.heap.size + 1, 3, none⟩ = some (.int .i64 t.e) ∧ w'.cell? ⟨w.heap.size + 1, 4, none⟩ = some (.int .i64 t.l) ∧ w'.cell? ⟨w.heap.size + 1, 5, none⟩ = some (.int .i64 t.c) ∧ w'.cell? ⟨w.heap.size + 1, 6, none⟩ = some (.slice ua un uc)) (by kernel_rfl) ⟨ky1, kx0, kx1, kx2, kx3, kx4, kx5, kx6⟩ (fun hHeld => ?_)
    clear ky1 kx0 kx1 kx2 kx3 kx4 kx5 kx6
    generalize w7.drew = w8 at bD hK kz hf1 hs1 hc q2 qN q4 hHeld ⊢
    clear bD y1 x0 x1 x2 x3 x4 x5 x6
    refine take' 0 (v := ?_) rfl (by kernel_rfl) (by kernel_rfl) (by kernel_rfl) (fun _ _ _ h => h) (Or.inl ⟨by rfl, ?_⟩) (by assumption) ?_
    rotate_left
    · intro w9 hSw
      go_simp
      first | done | with_reducible rfl
    simp only [Act.put, List.setIfInBounds_toArray, List.set_cons_zero, List.set_cons_succ]
    refine take' 1 (v := ?_) rfl (by kernel_rfl) (by kernel_rfl) (by kernel_rfl) (fun _ _ _ h => h) (Or.inl ⟨by rfl, ?_⟩) (by assumption) ?_
    rotate_left
    · intro w9 hSw
      go_simp
      first | done | with_reducible rfl
    simp only [Act.put, List.setIfInBounds_toArray, List.set_cons_zero, List.set_cons_succ]
    refine take' 2 (v := ?_) rfl (by kernel_rfl) (by kernel_rfl) (by kernel_rfl) (fun _ _ _ h => h) (Or.inl ⟨by rfl, ?_⟩) (by assumption) ?_
    rotate_left
    · intro w9 hSw
      go_simp
      first | done | with_reducible rfl
    simp only [Act.put, List.setIfInBounds_toArray, List.set_cons_zero, List.set_cons_succ]
    refine take' 3 (v := ?_) rfl (by kernel_rfl) (by kernel_rfl) (by kernel_rfl) (fun _ _ _ h => h) (Or.inl ⟨by rfl, ?_⟩) (by assumption) ?_
    rotate_left
    · intro w9 hSw
      go_simp
      first | done | with_reducible rfl
    simp only [Act.put, List.setIfInBounds_toArray, List.set_cons_zero, List.set_cons_succ]
    refine take' 4 (v := ?_) rfl (by kernel_rfl) (by kernel_rfl) (by kernel_rfl) (fun _ _ _ h => h) (Or.inl ⟨by rfl, ?_⟩) (by assumption) ?_
    rotate_left
    · intro w9 hSw
      go_simp
      first | done | with_reducible rfl
    simp only [Act.put, List.setIfInBounds_toArray, List.set_cons_zero, List.set_cons_succ]
    refine take' 5 (v := ?_) rfl (by kernel_rfl) (by kernel_rfl) (by kernel_rfl) (fun _ _ _ h => h) (Or.inl ⟨by rfl, ?_⟩) (by assumption) ?_
    rotate_left
    · intro w9 hSw
      go_simp
      first | done | with_reducible rfl
    simp only [Act.put, List.setIfInBounds_toArray, List.set_cons_zero, List.set_cons_succ]
    refine take' 6 (v := ?_) rfl (by kernel_rfl) (by kernel_rfl) (by kernel_rfl) (fun _ _ _ h => h) (Or.inl ⟨by rfl, ?_⟩) (by assumption) ?_
    rotate_left
    · intro w9 hSw
      go_simp
      first | done | with_reducible rfl
    simp only [Act.put, List.setIfInBounds_toArray, List.set_cons_zero, List.set_cons_succ]
    refine take' 7 (v := ?_) rfl (by kernel_rfl) (by kernel_rfl) (by kernel_rfl) (fun _ _ _ h => h) (Or.inl ⟨by rfl, ?_⟩) (by assumption) ?_
    rotate_left
    · intro w9 hSw
      go_simp
      first | done | with_reducible rfl
    simp only [Act.put, List.setIfInBounds_toArray, List.set_cons_zero, List.set_cons_succ]
    refine take' 9 (v := ?_) rfl (by kernel_rfl) (by kernel_rfl) (by kernel_rfl) (fun _ _ _ h => h) (Or.inl ⟨by rfl, ?_⟩) (by assumption) ?_
    rotate_left
    · intro w9 hSw
      go_simp
      first | done | with_reducible rfl
    simp only [Act.put, List.setIfInBounds_toArray, List.set_cons_zero, List.set_cons_succ]
    refine wpAnyH_ready (rs := [8, 10]) (by kernel_rfl) (by simp) ?_
    refine consTX rfl (fun KK hKK => ?_) ?_
    · skip
      go_simp
      refine hKK.out _ _ hHeld ?_
      clear hHeld
      intro hHeld
      clear hKK KK
      try simp only [Act.put, List.setIfInBounds_toArray, List.set_cons_zero, List.set_cons_succ]
      refine wpAnyH_ready (rs := [10]) (by kernel_rfl) (by simp) ?_
      refine cons' rfl (fun KK hKK => ?_)
      go_simp
      have b3 := below_alloc (w := w8) (.cells #[.int .i64 t.k, .string t.t, .int .i64 t.b, .int .i64 t.e, .int .i64 t.l, .int .i64 t.c, .slice ua un uc] 34)
      have hnew := heap_alloc_new w8 (.cells #[.int .i64 t.k, .string t.t, .int .i64 t.b, .int .i64 t.e, .int .i64 t.l, .int .i64 t.c, .slice ua un uc] 34)
      have hxs : w8.heap.size + 1 ≤ (w8.alloc (.cells #[.int .i64 t.k, .string t.t, .int .i64 t.b, .int .i64 t.e, .int .i64 t.l, .int .i64 t.c, .slice ua un uc] 34)).heap.size := by simp
      replace hf1 := (World.frozen?_of_block (w := _) (a := ⟨gl, d * 7 + 6, none⟩) (b3.block gl (World.block_lt_of_cell? _ _ hc))).trans hf1
      replace q2 := q2.later b3
      replace qN := qN.later b3
      replace q4 := q4.later b3
      replace hHeld := (⟨below_cell b3 hHeld.1, below_cell b3 hHeld.2.1, below_cell b3 hHeld.2.2.1, below_cell b3 hHeld.2.2.2.1, below_cell b3 hHeld.2.2.2.2.1, below_cell b3 hHeld.2.2.2.2.2.1, below_cell b3 hHeld.2.2.2.2.2.2.1, below_cell b3 hHeld.2.2.2.2.2.2.2⟩ : _ ∧ _ ∧ _ ∧ _ ∧ _ ∧ _ ∧ _ ∧ _)
      replace hc := below_cell b3 hc
      replace hK := own_kp hK (Kp.of (X := fun _ => False) b3) (fun _ _ c => c)
      replace kz := kz.trans (Kp.of (X := fun k => (Value.slice a0 K.length cp).ownBlock = some k) b3) (fun _ _ c => c)
      replace hs1 := Nat.le_trans hs1 b3.size
      generalize w8.alloc (.cells #[.int .i64 t.k, .string t.t, .int .i64 t.b, .int .i64 t.e, .int .i64 t.l, .int .i64 t.c, .slice ua un uc] 34) = wx at b3 hnew hxs q2 qN q4 hc hK kz hf1 hs1 hHeld ⊢
      clear b3
      refine hKK.out _ _ hHeld ?_
      clear hHeld
      intro hHeld
      clear hKK KK
      try simp only [Act.put, List.setIfInBounds_toArray, List.set_cons_zero, List.set_cons_succ]
      obtain ⟨i0, hi0, hz0, hz1, hz2⟩ := info_parts info_Node
      have hkz := kz.size
      refine wpAnyH_ready (rs := [11]) (by kernel_rfl) (by simp) ?_
      refine cons' rfl (fun KK hKK => ?_)
      refine step_append_lies _ (by rfl) _ _ _ (by rfl) base 34 i0 _ 7 80 Tryd.underlying22 hi0 hz0 hz1 hz2 rfl (by omega) (.slice a0 K.length cp) K.length (nvCells K) (by rfl) hK ⟨w8.heap.size, 0, none⟩ 1 1 [.int .i64 t.k, .string t.t, .int .i64 t.b, .int .i64 t.e, .int .i64 t.l, .int .i64 t.c, .slice ua un uc] (by rfl) (by rfl) (World.news_of_block (cs := #[.int .i64 t.k, .string t.t, .int .i64 t.b, .int .i64 t.e, .int .i64 t.l, .int .i64 t.c, .slice ua un uc]) (t := 34) (fr := (0, 0)) hnew) (by simp [Value.oneCell']) (by omega) (by simp only [maxLen]; omega) (by omega) (by omega) wx.heap.size rfl ?_
      intro gb cap w3 hown4 hgrow hat hlt4
      have kg := Kp.grown hgrow (fun k e => e)
      have n1 : gb ≠ gl := fun e => by rw [e] at hat; rcases hat with c | c; exact hvg c; omega
      have n3 : w.heap.size + 3 ≤ gb ∨ gb < w.heap.size := by rcases hat with c | c; (have := hvlt _ c; omega); omega
      have hH2 := (⟨cell_kp kg (fun c => by have := hvlt _ c; omega) hHeld.1, cell_kp kg (fun c => by have := hvlt _ c; omega) hHeld.2.1, cell_kp kg (fun c => by have := hvlt _ c; omega) hHeld.2.2.1, cell_kp kg (fun c => by have := hvlt _ c; omega) hHeld.2.2.2.1, cell_kp kg (fun c => by have := hvlt _ c; omega) hHeld.2.2.2.2.1, cell_kp kg (fun c => by have := hvlt _ c; omega) hHeld.2.2.2.2.2.1, cell_kp kg (fun c => by have := hvlt _ c; omega) hHeld.2.2.2.2.2.2.1, cell_kp kg (fun c => by have := hvlt _ c; omega) hHeld.2.2.2.2.2.2.2⟩ : _ ∧ _ ∧ _ ∧ _ ∧ _ ∧ _ ∧ _ ∧ _)
      replace hf1 := (World.frozen?_of_block (w := wx) (a := ⟨gl, d * 7 + 6, none⟩) (kg.block gl (World.block_lt_of_cell? _ _ hc) (fun c => hvg c))).trans hf1
      replace q2 := kg.blk q2 (fun c => by have := hvlt _ c; omega)
      replace qN := kg.blk qN (fun c => by have := hvlt _ c; omega)
      replace q4 := kg.blk q4 (fun c => by have := hvlt _ c; omega)
      replace hc := cell_kp kg (fun c => hvg c) hc
      replace kz := kz.trans kg (fun _ _ c => c)
      clear hK hnew kg hgrow
      refine hKK.out _ _ hH2 ?_
      clear hHeld
      intro hHeld
      clear hKK KK
      try simp only [Act.put, List.setIfInBounds_toArray, List.set_cons_zero, List.set_cons_succ]
      clear hH2
      have hix : ((K.length : Int) < (K.length : Int) + 1) := by omega
      refine take' 12 (v := ?_) rfl (by kernel_rfl) (by kernel_rfl) (by kernel_rfl) (fun _ _ _ h => h) (Or.inl ⟨by rfl, ?_⟩) (by assumption) ?_
      rotate_left
      · intro w9 hSw
        go_simp
        first | done | with_reducible rfl
      simp only [Act.put, List.setIfInBounds_toArray, List.set_cons_zero, List.set_cons_succ]
      refine take' 13 (v := ?_) rfl (by kernel_rfl) (by kernel_rfl) (by kernel_rfl) (fun _ _ _ h => h) (Or.inl ⟨by rfl, ?_⟩) (by assumption) ?_
      rotate_left
      · intro w9 hSw
        go_simp
        first | done | with_reducible rfl
      simp only [Act.put, List.setIfInBounds_toArray, List.set_cons_zero, List.set_cons_succ]
      have hgX := kz.block gl hgl (fun c => hvg c)
      have kz2 : Kp (fun k => k = gl ∨ (Value.slice a0 K.length cp).ownBlock = some k) w w3 := ⟨kz.os, kz.tape, kz.output, kz.size, fun k hk hn => kz.block k hk (fun c => hn (Or.inr c))⟩
      clear kz
      replace hown4 : w3.ownsRow base 34 7 (.slice (some ⟨gb, 0, none⟩) (K.length + 1) cap) (K.length + 1) (nvCells (K ++ [(t, .slice ua un uc)])) := by rw [nvCells_app]; exact hown4
      refine wpAnyH_ready (rs := [14]) (by kernel_rfl) (by simp) ?_
      refine cons' rfl (fun KK hKK => ?_)
      go_simp
      have k8 := Ch.set (c := gl) (o := d * 7 + 6) (W := w3) (.slice (some ⟨gb, 0, none⟩) (K.length + 1) cap)
      have hH2 := (⟨k8.cell (by omega) hHeld.1, k8.cell (by omega) hHeld.2.1, k8.cell (by omega) hHeld.2.2.1, k8.cell (by omega) hHeld.2.2.2.1, k8.cell (by omega) hHeld.2.2.2.2.1, k8.cell (by omega) hHeld.2.2.2.2.2.1, k8.cell (by omega) hHeld.2.2.2.2.2.2.1, k8.cell (by omega) hHeld.2.2.2.2.2.2.2⟩ : _ ∧ _ ∧ _ ∧ _ ∧ _ ∧ _ ∧ _ ∧ _)
      replace hown4 := own_kp hown4 (Kp.ch (X := fun i => i = gl) k8 rfl) (fun g hg e => by have hg2 : gb = g := (by injection hg); exact n1 (hg2.trans e))
      replace hgX := heap_set_congr (o := d * 7 + 6) hgX (.slice (some ⟨gb, 0, none⟩) (K.length + 1) cap)
      replace kz2 := kz2.trans (Kp.ch (X := fun i => i = gl) k8 rfl) (fun i hi e => Or.inl e)
      replace q2 := q2.ch k8 (by omega)
      replace qN := qN.ch k8 (by omega)
      replace q4 := q4.ch k8 (by omega)
      clear k8 hc hf1
      generalize w3.setCell ⟨gl, d * 7 + 6, none⟩ (.slice (some ⟨gb, 0, none⟩) (K.length + 1) cap) = w4 at hown4 hH2 hgX kz2 q2 qN q4 ⊢
      refine hKK.out _ _ hH2 ?_
      clear hHeld
      intro hHeld
      clear hKK KK
      try simp only [Act.put, List.setIfInBounds_toArray, List.set_cons_zero, List.set_cons_succ]
      clear hH2
      refine wpAnyH_done (by kernel_rfl) ?_ _
      clear hHeld
      go_upto_region 9 with fail
      have own5 := hown4
      clear hown4 qN
      obtain ⟨w6, rfl⟩ : ∃ w6, w6 = w4 := ⟨_, rfl⟩
      have y0 := q2.cell 0
      have y1 := q2.cell 1
      have y2 := q2.cell 2
      have y3 := q2.cell 3
      have z0 := q4.cell 0
      have z1 := q4.cell 1
      have z2 := q4.cell 2
      have z3 := q4.cell 3
      simp only [List.getElem?_toArray, List.getElem?_cons_zero, List.getElem?_cons_succ] at y0 z0 y1 z1 y2 z2 y3 z3
      have fz := fun o => q4.frozen o
      have OW := hideT own5
      clear own5
      go_wp2
      have own5 := OW.out
      clear OW fz y0 z0 y1 z1 y2 z2 y3 z3
      obtain ⟨k9, q9⟩ := q4.set4s (.slice na nn nc) (.slice (some ⟨gl, 0, none⟩) (d + 1) c) (.int .i64 code) (.int .i64 pl)
      have u0 := q9.cell 0
      have u1 := q9.cell 1
      have u2 := q9.cell 2
      have u3 := q9.cell 3
      simp only [List.getElem?_toArray, List.getElem?_cons_zero, List.getElem?_cons_succ] at u0 u1 u2 u3
      have own9 := own_kp own5 (Kp.ch (X := fun i => i = w.heap.size + 2) k9 rfl) (fun g hg e => by have hg2 : gb = g := (by injection hg); omega)
      have kz9 := kz2.trans (Kp.ch (X := fun i => i = w.heap.size + 2) k9 rfl) (fun i hi e => by omega)
      replace hgX := (k9.other gl (by omega)).trans hgX
      clear k9 q9
      generalize ((((w6.setCell ⟨w.heap.size + 2, 0, none⟩ (.slice na nn nc)).setCell ⟨w.heap.size + 2, 1, none⟩ (.slice (some ⟨gl, 0, none⟩) (d + 1) c)).setCell ⟨w.heap.size + 2, 2, none⟩ (.int .i64 code)).setCell ⟨w.heap.size + 2, 3, none⟩ (.int .i64 pl)) = w9 at own9 kz9 hgX u0 u1 u2 u3 ⊢
      refine bodyPost_ret (v := .agg #[.slice na nn nc, .slice (some ⟨gl, 0, none⟩) (d + 1) c, .int .i64 code, .int .i64 pl]) (by rw [results_c rfl]; go_simp) rfl ?_
      exact ⟨_, rfl, own9, hgX, kz9, by rcases hat with c | c; exact Or.inl (by rw [c]; rfl); exact Or.inr ⟨gb, rfl, by omega⟩⟩
    refine consTX rfl (fun KK hKK => ?_) ?_
    · skip
      go_simp
      have b3 := below_alloc (w := w8) (.cells #[.int .i64 t.k, .string t.t, .int .i64 t.b, .int .i64 t.e, .int .i64 t.l, .int .i64 t.c, .slice ua un uc] 34)
      have hnew := heap_alloc_new w8 (.cells #[.int .i64 t.k, .string t.t, .int .i64 t.b, .int .i64 t.e, .int .i64 t.l, .int .i64 t.c, .slice ua un uc] 34)
      have hxs : w8.heap.size + 1 ≤ (w8.alloc (.cells #[.int .i64 t.k, .string t.t, .int .i64 t.b, .int .i64 t.e, .int .i64 t.l, .int .i64 t.c, .slice ua un uc] 34)).heap.size := by simp
      replace hf1 := (World.frozen?_of_block (w := _) (a := ⟨gl, d * 7 + 6, none⟩) (b3.block gl (World.block_lt_of_cell? _ _ hc))).trans hf1
      replace q2 := q2.later b3
      replace qN := qN.later b3
      replace q4 := q4.later b3
      replace hHeld := (⟨below_cell b3 hHeld.1, below_cell b3 hHeld.2.1, below_cell b3 hHeld.2.2.1, below_cell b3 hHeld.2.2.2.1, below_cell b3 hHeld.2.2.2.2.1, below_cell b3 hHeld.2.2.2.2.2.1, below_cell b3 hHeld.2.2.2.2.2.2.1, below_cell b3 hHeld.2.2.2.2.2.2.2⟩ : _ ∧ _ ∧ _ ∧ _ ∧ _ ∧ _ ∧ _ ∧ _)
      replace hc := below_cell b3 hc
      replace hK := own_kp hK (Kp.of (X := fun _ => False) b3) (fun _ _ c => c)
      replace kz := kz.trans (Kp.of (X := fun k => (Value.slice a0 K.length cp).ownBlock = some k) b3) (fun _ _ c => c)
      replace hs1 := Nat.le_trans hs1 b3.size
      generalize w8.alloc (.cells #[.int .i64 t.k, .string t.t, .int .i64 t.b, .int .i64 t.e, .int .i64 t.l, .int .i64 t.c, .slice ua un uc] 34) = wx at b3 hnew hxs q2 qN q4 hc hK kz hf1 hs1 hHeld ⊢
      clear b3
      refine hKK.out _ _ hHeld ?_
      clear hHeld
      intro hHeld
      clear hKK KK
      try simp only [Act.put, List.setIfInBounds_toArray, List.set_cons_zero, List.set_cons_succ]
      refine wpAnyH_ready (rs := [8]) (by kernel_rfl) (by simp) ?_
      refine cons' rfl (fun KK hKK => ?_)
      go_simp
      refine hKK.out _ _ hHeld ?_
      clear hHeld
      intro hHeld
      clear hKK KK
      try simp only [Act.put, List.setIfInBounds_toArray, List.set_cons_zero, List.set_cons_succ]
      obtain ⟨i0, hi0, hz0, hz1, hz2⟩ := info_parts info_Node
      have hkz := kz.size
      refine wpAnyH_ready (rs := [11]) (by kernel_rfl) (by simp) ?_
      refine cons' rfl (fun KK hKK => ?_)
      refine step_append_lies _ (by rfl) _ _ _ (by rfl) base 34 i0 _ 7 80 Tryd.underlying22 hi0 hz0 hz1 hz2 rfl (by omega) (.slice a0 K.length cp) K.length (nvCells K) (by rfl) hK ⟨w8.heap.size, 0, none⟩ 1 1 [.int .i64 t.k, .string t.t, .int .i64 t.b, .int .i64 t.e, .int .i64 t.l, .int .i64 t.c, .slice ua un uc] (by rfl) (by rfl) (World.news_of_block (cs := #[.int .i64 t.k, .string t.t, .int .i64 t.b, .int .i64 t.e, .int .i64 t.l, .int .i64 t.c, .slice ua un uc]) (t := 34) (fr := (0, 0)) hnew) (by simp [Value.oneCell']) (by omega) (by simp only [maxLen]; omega) (by omega) (by omega) wx.heap.size rfl ?_
      intro gb cap w3 hown4 hgrow hat hlt4
      have kg := Kp.grown hgrow (fun k e => e)
      have n1 : gb ≠ gl := fun e => by rw [e] at hat; rcases hat with c | c; exact hvg c; omega
      have n3 : w.heap.size + 3 ≤ gb ∨ gb < w.heap.size := by rcases hat with c | c; (have := hvlt _ c; omega); omega
      have hH2 := (⟨cell_kp kg (fun c => by have := hvlt _ c; omega) hHeld.1, cell_kp kg (fun c => by have := hvlt _ c; omega) hHeld.2.1, cell_kp kg (fun c => by have := hvlt _ c; omega) hHeld.2.2.1, cell_kp kg (fun c => by have := hvlt _ c; omega) hHeld.2.2.2.1, cell_kp kg (fun c => by have := hvlt _ c; omega) hHeld.2.2.2.2.1, cell_kp kg (fun c => by have := hvlt _ c; omega) hHeld.2.2.2.2.2.1, cell_kp kg (fun c => by have := hvlt _ c; omega) hHeld.2.2.2.2.2.2.1, cell_kp kg (fun c => by have := hvlt _ c; omega) hHeld.2.2.2.2.2.2.2⟩ : _ ∧ _ ∧ _ ∧ _ ∧ _ ∧ _ ∧ _ ∧ _)
      replace hf1 := (World.frozen?_of_block (w := wx) (a := ⟨gl, d * 7 + 6, none⟩) (kg.block gl (World.block_lt_of_cell? _ _ hc) (fun c => hvg c))).trans hf1
      replace q2 := kg.blk q2 (fun c => by have := hvlt _ c; omega)
      replace qN := kg.blk qN (fun c => by have := hvlt _ c; omega)
      replace q4 := kg.blk q4 (fun c => by have := hvlt _ c; omega)
      replace hc := cell_kp kg (fun c => hvg c) hc
      replace kz := kz.trans kg (fun _ _ c => c)
      clear hK hnew kg hgrow
      refine hKK.out _ _ hH2 ?_
      clear hHeld
      intro hHeld
      clear hKK KK
      try simp only [Act.put, List.setIfInBounds_toArray, List.set_cons_zero, List.set_cons_succ]
      clear hH2
      have hix : ((K.length : Int) < (K.length : Int) + 1) := by omega
      refine take' 12 (v := ?_) rfl (by kernel_rfl) (by kernel_rfl) (by kernel_rfl) (fun _ _ _ h => h) (Or.inl ⟨by rfl, ?_⟩) (by assumption) ?_
      rotate_left
      · intro w9 hSw
        go_simp
        first | done | with_reducible rfl
      simp only [Act.put, List.setIfInBounds_toArray, List.set_cons_zero, List.set_cons_succ]
      refine take' 13 (v := ?_) rfl (by kernel_rfl) (by kernel_rfl) (by kernel_rfl) (fun _ _ _ h => h) (Or.inl ⟨by rfl, ?_⟩) (by assumption) ?_
      rotate_left
      · intro w9 hSw
        go_simp
        first | done | with_reducible rfl
      simp only [Act.put, List.setIfInBounds_toArray, List.set_cons_zero, List.set_cons_succ]
      have hgX := kz.block gl hgl (fun c => hvg c)
      have kz2 : Kp (fun k => k = gl ∨ (Value.slice a0 K.length cp).ownBlock = some k) w w3 := ⟨kz.os, kz.tape, kz.output, kz.size, fun k hk hn => kz.block k hk (fun c => hn (Or.inr c))⟩
      clear kz
      replace hown4 : w3.ownsRow base 34 7 (.slice (some ⟨gb, 0, none⟩) (K.length + 1) cap) (K.length + 1) (nvCells (K ++ [(t, .slice ua un uc)])) := by rw [nvCells_app]; exact hown4
      refine wpAnyH_ready (rs := [14]) (by kernel_rfl) (by simp) ?_
      refine cons' rfl (fun KK hKK => ?_)
      go_simp
      have k8 := Ch.set (c := gl) (o := d * 7 + 6) (W := w3) (.slice (some ⟨gb, 0, none⟩) (K.length + 1) cap)
      have hH2 := (⟨k8.cell (by omega) hHeld.1, k8.cell (by omega) hHeld.2.1, k8.cell (by omega) hHeld.2.2.1, k8.cell (by omega) hHeld.2.2.2.1, k8.cell (by omega) hHeld.2.2.2.2.1, k8.cell (by omega) hHeld.2.2.2.2.2.1, k8.cell (by omega) hHeld.2.2.2.2.2.2.1, k8.cell (by omega) hHeld.2.2.2.2.2.2.2⟩ : _ ∧ _ ∧ _ ∧ _ ∧ _ ∧ _ ∧ _ ∧ _)
      replace hown4 := own_kp hown4 (Kp.ch (X := fun i => i = gl) k8 rfl) (fun g hg e => by have hg2 : gb = g := (by injection hg); exact n1 (hg2.trans e))
      replace hgX := heap_set_congr (o := d * 7 + 6) hgX (.slice (some ⟨gb, 0, none⟩) (K.length + 1) cap)
      replace kz2 := kz2.trans (Kp.ch (X := fun i => i = gl) k8 rfl) (fun i hi e => Or.inl e)
      replace q2 := q2.ch k8 (by omega)
      replace qN := qN.ch k8 (by omega)
      replace q4 := q4.ch k8 (by omega)
      clear k8 hc hf1
      generalize w3.setCell ⟨gl, d * 7 + 6, none⟩ (.slice (some ⟨gb, 0, none⟩) (K.length + 1) cap) = w4 at hown4 hH2 hgX kz2 q2 qN q4 ⊢
      refine hKK.out _ _ hH2 ?_
      clear hHeld
      intro hHeld
      clear hKK KK
      try simp only [Act.put, List.setIfInBounds_toArray, List.set_cons_zero, List.set_cons_succ]
      clear hH2
      refine wpAnyH_done (by kernel_rfl) ?_ _
      clear hHeld
      go_upto_region 9 with fail
      have own5 := hown4
      clear hown4 qN
      obtain ⟨w6, rfl⟩ : ∃ w6, w6 = w4 := ⟨_, rfl⟩
      have y0 := q2.cell 0
      have y1 := q2.cell 1
      have y2 := q2.cell 2
      have y3 := q2.cell 3
      have z0 := q4.cell 0
      have z1 := q4.cell 1
      have z2 := q4.cell 2
      have z3 := q4.cell 3
      simp only [List.getElem?_toArray, List.getElem?_cons_zero, List.getElem?_cons_succ] at y0 z0 y1 z1 y2 z2 y3 z3
      have fz := fun o => q4.frozen o
      have OW := hideT own5
      clear own5
      go_wp2
      have own5 := OW.out
      clear OW fz y0 z0 y1 z1 y2 z2 y3 z3
      obtain ⟨k9, q9⟩ := q4.set4s (.slice na nn nc) (.slice (some ⟨gl, 0, none⟩) (d + 1) c) (.int .i64 code) (.int .i64 pl)
      have u0 := q9.cell 0
      have u1 := q9.cell 1
      have u2 := q9.cell 2
      have u3 := q9.cell 3
      simp only [List.getElem?_toArray, List.getElem?_cons_zero, List.getElem?_cons_succ] at u0 u1 u2 u3
      have own9 := own_kp own5 (Kp.ch (X := fun i => i = w.heap.size + 2) k9 rfl) (fun g hg e => by have hg2 : gb = g := (by injection hg); omega)
      have kz9 := kz2.trans (Kp.ch (X := fun i => i = w.heap.size + 2) k9 rfl) (fun i hi e => by omega)
      replace hgX := (k9.other gl (by omega)).trans hgX
      clear k9 q9
      generalize ((((w6.setCell ⟨w.heap.size + 2, 0, none⟩ (.slice na nn nc)).setCell ⟨w.heap.size + 2, 1, none⟩ (.slice (some ⟨gl, 0, none⟩) (d + 1) c)).setCell ⟨w.heap.size + 2, 2, none⟩ (.int .i64 code)).setCell ⟨w.heap.size + 2, 3, none⟩ (.int .i64 pl)) = w9 at own9 kz9 hgX u0 u1 u2 u3 ⊢
      refine bodyPost_ret (v := .agg #[.slice na nn nc, .slice (some ⟨gl, 0, none⟩) (d + 1) c, .int .i64 code, .int .i64 pl]) (by rw [results_c rfl]; go_simp) rfl ?_
      exact ⟨_, rfl, own9, hgX, kz9, by rcases hat with c | c; exact Or.inl (by rw [c]; rfl); exact Or.inr ⟨gb, rfl, by omega⟩⟩
    exact AllReadyH.nil
  refine consTX rfl (fun KK hKK => ?_) ?_
  · skip
    have fz := fun o => q5.frozen o
    have u0 := q5.cell 0
    simp only [List.getElem?_toArray, List.getElem?_cons_zero, List.getElem?_cons_succ] at u0
    go_simp
    clear fz u0
    obtain ⟨k5, q6⟩ := q5.set (o := 0) (.bool false)
    have q7 : Blk (w5.setCell ⟨nb, 0, none⟩ (.bool false)) nb #[.bool false] 4 := by simpa using q6
    clear q5 q6
    have q5 := q7
    clear q7
    replace bX := bX.trans (k5.below (B := W.heap.size) hn5)
    clear k5
    generalize w5.setCell ⟨nb, 0, none⟩ (.bool false) = w6 at q5 bX ⊢
    refine hKK.out _ _ hHeld ?_
    clear hHeld
    intro hHeld
    clear hKK KK
    try simp only [Act.put, List.setIfInBounds_toArray, List.set_cons_zero, List.set_cons_succ]
    refine wpAnyH_ready (rs := [1]) (by kernel_rfl) (by simp) ?_
    refine cons' rfl (fun KK hKK => ?_)
    have fz := fun o => q5.frozen o
    have u0 := q5.cell 0
    simp only [List.getElem?_toArray, List.getElem?_cons_zero, List.getElem?_cons_succ] at u0
    go_simp
    clear fz u0
    obtain ⟨k5, q6⟩ := q5.set (o := 0) (.bool true)
    have q7 : Blk (w6.setCell ⟨nb, 0, none⟩ (.bool true)) nb #[.bool true] 4 := by simpa using q6
    clear q5 q6
    have q5 := q7
    clear q7
    replace bX := bX.trans (k5.below (B := W.heap.size) hn5)
    clear k5
    generalize w6.setCell ⟨nb, 0, none⟩ (.bool true) = w7 at q5 bX ⊢
    refine hKK.out _ _ hHeld ?_
    clear hHeld
    intro hHeld
    clear hKK KK
    try simp only [Act.put, List.setIfInBounds_toArray, List.set_cons_zero, List.set_cons_succ]
    refine wpAnyH_ready (rs := [3]) (by kernel_rfl) (by simp) ?_
    refine cons' rfl (fun KK hKK => ?_)
    have u0 := q5.cell 0
    simp only [List.getElem?_toArray, List.getElem?_cons_zero, List.getElem?_cons_succ] at u0
    go_simp
    clear u0
    refine hKK.out _ _ hHeld ?_
    clear hHeld
    intro hHeld
    clear hKK KK
    try simp only [Act.put, List.setIfInBounds_toArray, List.set_cons_zero, List.set_cons_succ]
    refine wpAnyH_done (by kernel_rfl) ?_ _
    clear hHeld q5
    go_wp2_with fail
    replace q2 := q2.later bX
    replace qN := qN.later bX
    replace q4 := q4.later bX
    replace hf1 := (World.frozen?_of_block (w := W) (a := ⟨gl, d * 7 + 6, none⟩) (bX.block gl (World.block_lt_of_cell? _ _ hc))).trans hf1
    replace hc := below_cell bX hc
    replace hK := own_kp hK (Kp.of (X := fun _ => False) bX) (fun _ _ c => c)
    replace kz := kz.trans (Kp.of (X := fun k => (Value.slice a0 K.length cp).ownBlock = some k) bX) (fun _ _ c => c)
    have hs1 : w.heap.size + 3 ≤ w7.heap.size := Nat.le_trans e4i bX.size
    clear bX
    have y1 := q2.cell 1
    have x0 := qN.cell 0
    have x1 := qN.cell 1
    have x2 := qN.cell 2
    have x3 := qN.cell 3
    have x4 := qN.cell 4
    have x5 := qN.cell 5
    have x6 := qN.cell 6
    simp only [List.getElem?_toArray, List.getElem?_cons_zero, List.getElem?_cons_succ] at y1 x0 x1 x2 x3 x4 x5 x6
    have bD : Below w7.heap.size w7 w7.drew := (Below.refl _ _).drew
    have ky1 := below_cell bD y1
    have kx0 := below_cell bD x0
    have kx1 := below_cell bD x1
    have kx2 := below_cell bD x2
    have kx3 := below_cell bD x3
    have kx4 := below_cell bD x4
    have kx5 := below_cell bD x5
    have kx6 := below_cell bD x6
    replace hf1 := (World.frozen?_of_block (w := _) (a := ⟨gl, d * 7 + 6, none⟩) (bD.block gl (World.block_lt_of_cell? _ _ hc))).trans hf1
    replace q2 := q2.later bD
    replace qN := qN.later bD
    replace q4 := q4.later bD
    replace hc := below_cell bD hc
    replace hK := own_kp hK (Kp.of (X := fun _ => False) bD) (fun _ _ c => c)
    replace kz := kz.trans (Kp.of (X := fun k => (Value.slice a0 K.length cp).ownBlock = some k) bD) (fun _ _ c => c)
    replace hs1 := Nat.le_trans hs1 bD.size
    refine wp_region_held_drew (S := fun w' => w'.cell? ⟨w.heap.size, 1, none⟩ = some (.slice (some ⟨gl, 0, none⟩) (d + 1) c) ∧ w'.cell? ⟨w.heap.size + 1, 0, none⟩ = some (.int .i64 t.k) ∧ w'.cell? ⟨w.heap.size + 1, 1, none⟩ = some (.string t.t) ∧ w'.cell? ⟨w.heap.size + 1, 2, none⟩ = some (.int .i64 t.b) ∧ w'.cell? ⟨w.heap.size + 1, 3, none⟩ = some (.int .i64 t.e) ∧ w'.cell? ⟨w.heap.size + 1, 4, none⟩ = some (.int .i64 t.l) ∧ w'.cell? ⟨w.heap.size + 1, 5, none⟩ = some (.int .i64 t.c) ∧ w'.cell? ⟨w.heap.size + 1, 6, none⟩ = some (.slice ua un uc)) (by kernel_rfl) ⟨ky1, kx0, kx1, kx2, kx3, kx4, kx5, kx6⟩ (fun hHeld => ?_)
    clear ky1 kx0 kx1 kx2 kx3 kx4 kx5 kx6
    generalize w7.drew = w8 at bD hK kz hf1 hs1 hc q2 qN q4 hHeld ⊢
    clear bD y1 x0 x1 x2 x3 x4 x5 x6
    refine take' 0 (v := ?_) rfl (by kernel_rfl) (by kernel_rfl) (by kernel_rfl) (fun _ _ _ h => h) (Or.inl ⟨by rfl, ?_⟩) (by assumption) ?_
    rotate_left
    · intro w9 hSw
      go_simp
      first | done | with_reducible rfl
    simp only [Act.put, List.setIfInBounds_toArray, List.set_cons_zero, List.set_cons_succ]
    refine take' 1 (v := ?_) rfl (by kernel_rfl) (by kernel_rfl) (by kernel_rfl) (fun _ _ _ h => h) (Or.inl ⟨by rfl, ?_⟩) (by assumption) ?_
    rotate_left
    · intro w9 hSw
      go_simp
      first | done | with_reducible rfl
    simp only [Act.put, List.setIfInBounds_toArray, List.set_cons_zero, List.set_cons_succ]
    refine take' 2 (v := ?_) rfl (by kernel_rfl) (by kernel_rfl) (by kernel_rfl) (fun _ _ _ h => h) (Or.inl ⟨by rfl, ?_⟩) (by assumption) ?_
    rotate_left
    · intro w9 hSw
      go_simp
      first | done | with_reducible rfl
    simp only [Act.put, List.setIfInBounds_toArray, List.set_cons_zero, List.set_cons_succ]
    refine take' 3 (v := ?_) rfl (by kernel_rfl) (by kernel_rfl) (by kernel_rfl) (fun _ _ _ h => h) (Or.inl ⟨by rfl, ?_⟩) (by assumption) ?_
    rotate_left
    · intro w9 hSw
      go_simp
      first | done | with_reducible rfl
    simp only [Act.put, List.setIfInBounds_toArray, List.set_cons_zero, List.set_cons_succ]
    refine take' 4 (v := ?_) rfl (by kernel_rfl) (by kernel_rfl) (by kernel_rfl) (fun _ _ _ h => h) (Or.inl ⟨by rfl, ?_⟩) (by assumption) ?_
    rotate_left
    · intro w9 hSw
      go_simp
      first | done | with_reducible rfl
    simp only [Act.put, List.setIfInBounds_toArray, List.set_cons_zero, List.set_cons_succ]
    refine take' 6 (v := ?_) rfl (by kernel_rfl) (by kernel_rfl) (by kernel_rfl) (fun _ _ _ h => h) (Or.inl ⟨by rfl, ?_⟩) (by assumption) ?_
    rotate_left
    · intro w9 hSw
      go_simp
      first | done | with_reducible rfl
    simp only [Act.put, List.setIfInBounds_toArray, List.set_cons_zero, List.set_cons_succ]
    refine wpAnyH_ready (rs := [5, 8]) (by kernel_rfl) (by simp) ?_
    refine consTX rfl (fun KK hKK => ?_) ?_
    · skip
      go_simp
      refine hKK.out _ _ hHeld ?_
      clear hHeld
      intro hHeld
      clear hKK KK
      try simp only [Act.put, List.setIfInBounds_toArray, List.set_cons_zero, List.set_cons_succ]
      refine take' 7 (v := ?_) rfl (by kernel_rfl) (by kernel_rfl) (by kernel_rfl) (fun _ _ _ h => h) (Or.inl ⟨by rfl, ?_⟩) (by assumption) ?_
      rotate_left
      · intro w9 hSw
        go_simp
        first | done | with_reducible rfl
      simp only [Act.put, List.setIfInBounds_toArray, List.set_cons_zero, List.set_cons_succ]
      refine wpAnyH_ready (rs := [8]) (by kernel_rfl) (by simp) ?_
      refine cons' rfl (fun KK hKK => ?_)
      go_simp
      have b3 := below_alloc (w := w8) (.cells #[.int .i64 0, .string ⟨#[]⟩, .int .i64 0, .int .i64 0, .int .i64 0, .int .i64 0, .slice none 0 0] 34)
      have hnew := heap_alloc_new w8 (.cells #[.int .i64 0, .string ⟨#[]⟩, .int .i64 0, .int .i64 0, .int .i64 0, .int .i64 0, .slice none 0 0] 34)
      have hxs : w8.heap.size + 1 ≤ (w8.alloc (.cells #[.int .i64 0, .string ⟨#[]⟩, .int .i64 0, .int .i64 0, .int .i64 0, .int .i64 0, .slice none 0 0] 34)).heap.size := by simp
      replace hf1 := (World.frozen?_of_block (w := _) (a := ⟨gl, d * 7 + 6, none⟩) (b3.block gl (World.block_lt_of_cell? _ _ hc))).trans hf1
      replace q2 := q2.later b3
      replace qN := qN.later b3
      replace q4 := q4.later b3
      replace hHeld := (⟨below_cell b3 hHeld.1, below_cell b3 hHeld.2.1, below_cell b3 hHeld.2.2.1, below_cell b3 hHeld.2.2.2.1, below_cell b3 hHeld.2.2.2.2.1, below_cell b3 hHeld.2.2.2.2.2.1, below_cell b3 hHeld.2.2.2.2.2.2.1, below_cell b3 hHeld.2.2.2.2.2.2.2⟩ : _ ∧ _ ∧ _ ∧ _ ∧ _ ∧ _ ∧ _ ∧ _)
      replace hc := below_cell b3 hc
      replace hK := own_kp hK (Kp.of (X := fun _ => False) b3) (fun _ _ c => c)
      replace kz := kz.trans (Kp.of (X := fun k => (Value.slice a0 K.length cp).ownBlock = some k) b3) (fun _ _ c => c)
      replace hs1 := Nat.le_trans hs1 b3.size
      generalize w8.alloc (.cells #[.int .i64 0, .string ⟨#[]⟩, .int .i64 0, .int .i64 0, .int .i64 0, .int .i64 0, .slice none 0 0] 34) = wx at b3 hnew hxs q2 qN q4 hc hK kz hf1 hs1 hHeld ⊢
      clear b3
      refine hKK.out _ _ hHeld ?_
      clear hHeld
      intro hHeld
      clear hKK KK
      try simp only [Act.put, List.setIfInBounds_toArray, List.set_cons_zero, List.set_cons_succ]
      obtain ⟨i0, hi0, hz0, hz1, hz2⟩ := info_parts info_Node
      have hkz := kz.size
      refine wpAnyH_ready (rs := [9]) (by kernel_rfl) (by simp) ?_
      refine cons' rfl (fun KK hKK => ?_)
      refine step_append_lies _ (by rfl) _ _ _ (by rfl) base 34 i0 _ 7 80 Tryd.underlying22 hi0 hz0 hz1 hz2 rfl (by omega) (.slice a0 K.length cp) K.length (nvCells K) (by rfl) hK ⟨w8.heap.size, 0, none⟩ 1 1 [.int .i64 0, .string ⟨#[]⟩, .int .i64 0, .int .i64 0, .int .i64 0, .int .i64 0, .slice none 0 0] (by rfl) (by rfl) (World.news_of_block (cs := #[.int .i64 0, .string ⟨#[]⟩, .int .i64 0, .int .i64 0, .int .i64 0, .int .i64 0, .slice none 0 0]) (t := 34) (fr := (0, 0)) hnew) (by simp [Value.oneCell']) (by omega) (by simp only [maxLen]; omega) (by omega) (by omega) wx.heap.size rfl ?_
      intro gb cap w3 hown4 hgrow hat hlt4
      have kg := Kp.grown hgrow (fun k e => e)
      have n1 : gb ≠ gl := fun e => by rw [e] at hat; rcases hat with c | c; exact hvg c; omega
      have n3 : w.heap.size + 3 ≤ gb ∨ gb < w.heap.size := by rcases hat with c | c; (have := hvlt _ c; omega); omega
      have hH2 := (⟨cell_kp kg (fun c => by have := hvlt _ c; omega) hHeld.1, cell_kp kg (fun c => by have := hvlt _ c; omega) hHeld.2.1, cell_kp kg (fun c => by have := hvlt _ c; omega) hHeld.2.2.1, cell_kp kg (fun c => by have := hvlt _ c; omega) hHeld.2.2.2.1, cell_kp kg (fun c => by have := hvlt _ c; omega) hHeld.2.2.2.2.1, cell_kp kg (fun c => by have := hvlt _ c; omega) hHeld.2.2.2.2.2.1, cell_kp kg (fun c => by have := hvlt _ c; omega) hHeld.2.2.2.2.2.2.1, cell_kp kg (fun c => by have := hvlt _ c; omega) hHeld.2.2.2.2.2.2.2⟩ : _ ∧ _ ∧ _ ∧ _ ∧ _ ∧ _ ∧ _ ∧ _)
      replace hf1 := (World.frozen?_of_block (w := wx) (a := ⟨gl, d * 7 + 6, none⟩) (kg.block gl (World.block_lt_of_cell? _ _ hc) (fun c => hvg c))).trans hf1
      replace q2 := kg.blk q2 (fun c => by have := hvlt _ c; omega)
      replace qN := kg.blk qN (fun c => by have := hvlt _ c; omega)
      replace q4 := kg.blk q4 (fun c => by have := hvlt _ c; omega)
      replace hc := cell_kp kg (fun c => hvg c) hc
      replace kz := kz.trans kg (fun _ _ c => c)
      clear hK hnew kg hgrow
      refine hKK.out _ _ hH2 ?_
      clear hHeld
      intro hHeld
      clear hKK KK
      try simp only [Act.put, List.setIfInBounds_toArray, List.set_cons_zero, List.set_cons_succ]
      clear hH2
      have hix : ((K.length : Int) < (K.length : Int) + 1) := by omega
      refine take' 10 (v := ?_) rfl (by kernel_rfl) (by kernel_rfl) (by kernel_rfl) (fun _ _ _ h => h) (Or.inl ⟨by rfl, ?_⟩) (by assumption) ?_
      rotate_left
      · intro w9 hSw
        go_simp
        first | done | with_reducible rfl
      simp only [Act.put, List.setIfInBounds_toArray, List.set_cons_zero, List.set_cons_succ]
      refine take' 11 (v := ?_) rfl (by kernel_rfl) (by kernel_rfl) (by kernel_rfl) (fun _ _ _ h => h) (Or.inl ⟨by rfl, ?_⟩) (by assumption) ?_
      rotate_left
      · intro w9 hSw
        go_simp
        first | done | with_reducible rfl
      simp only [Act.put, List.setIfInBounds_toArray, List.set_cons_zero, List.set_cons_succ]
      have hgX := kz.block gl hgl (fun c => hvg c)
      have kz2 : Kp (fun k => k = gl ∨ (Value.slice a0 K.length cp).ownBlock = some k) w w3 := ⟨kz.os, kz.tape, kz.output, kz.size, fun k hk hn => kz.block k hk (fun c => hn (Or.inr c))⟩
      clear kz
      change w3.ownsRow base 34 7 _ _ (nvCells K ++ zero7) at hown4
      refine wpAnyH_ready (rs := [12]) (by kernel_rfl) (by simp) ?_
      refine cons' rfl (fun KK hKK => ?_)
      go_simp
      have k8 := Ch.set (c := gl) (o := d * 7 + 6) (W := w3) (.slice (some ⟨gb, 0, none⟩) (K.length + 1) cap)
      have hH2 := (⟨k8.cell (by omega) hHeld.1, k8.cell (by omega) hHeld.2.1, k8.cell (by omega) hHeld.2.2.1, k8.cell (by omega) hHeld.2.2.2.1, k8.cell (by omega) hHeld.2.2.2.2.1, k8.cell (by omega) hHeld.2.2.2.2.2.1, k8.cell (by omega) hHeld.2.2.2.2.2.2.1, k8.cell (by omega) hHeld.2.2.2.2.2.2.2⟩ : _ ∧ _ ∧ _ ∧ _ ∧ _ ∧ _ ∧ _ ∧ _)
      replace hown4 := own_kp hown4 (Kp.ch (X := fun i => i = gl) k8 rfl) (fun g hg e => by have hg2 : gb = g := (by injection hg); exact n1 (hg2.trans e))
      replace hgX := heap_set_congr (o := d * 7 + 6) hgX (.slice (some ⟨gb, 0, none⟩) (K.length + 1) cap)
      replace kz2 := kz2.trans (Kp.ch (X := fun i => i = gl) k8 rfl) (fun i hi e => Or.inl e)
      replace q2 := q2.ch k8 (by omega)
      replace qN := qN.ch k8 (by omega)
      replace q4 := q4.ch k8 (by omega)
      clear k8 hc hf1
      generalize w3.setCell ⟨gl, d * 7 + 6, none⟩ (.slice (some ⟨gb, 0, none⟩) (K.length + 1) cap) = w4 at hown4 hH2 hgX kz2 q2 qN q4 ⊢
      refine hKK.out _ _ hH2 ?_
      clear hHeld
      intro hHeld
      clear hKK KK
      try simp only [Act.put, List.setIfInBounds_toArray, List.set_cons_zero, List.set_cons_succ]
      clear hH2
      refine wpAnyH_done (by kernel_rfl) ?_ _
      clear hHeld
      have z0 : w4.cell? ⟨gb, K.length * 7, none⟩ = zero7[0]? := by rw [hown4.cellAt (K.length * 7) (by omega), List.getElem?_append_right (by rw [nvCells_len]; omega), nvCells_len]; congr 1; omega
      have z1 : w4.cell? ⟨gb, K.length * 7 + 1, none⟩ = zero7[1]? := by rw [hown4.cellAt (K.length * 7 + 1) (by omega), List.getElem?_append_right (by rw [nvCells_len]; omega), nvCells_len]; congr 1; omega
      have z2 : w4.cell? ⟨gb, K.length * 7 + 2, none⟩ = zero7[2]? := by rw [hown4.cellAt (K.length * 7 + 2) (by omega), List.getElem?_append_right (by rw [nvCells_len]; omega), nvCells_len]; congr 1; omega
      have z3 : w4.cell? ⟨gb, K.length * 7 + 3, none⟩ = zero7[3]? := by rw [hown4.cellAt (K.length * 7 + 3) (by omega), List.getElem?_append_right (by rw [nvCells_len]; omega), nvCells_len]; congr 1; omega
      have z4 : w4.cell? ⟨gb, K.length * 7 + 4, none⟩ = zero7[4]? := by rw [hown4.cellAt (K.length * 7 + 4) (by omega), List.getElem?_append_right (by rw [nvCells_len]; omega), nvCells_len]; congr 1; omega
      have z5 : w4.cell? ⟨gb, K.length * 7 + 5, none⟩ = zero7[5]? := by rw [hown4.cellAt (K.length * 7 + 5) (by omega), List.getElem?_append_right (by rw [nvCells_len]; omega), nvCells_len]; congr 1; omega
      have z6 : w4.cell? ⟨gb, K.length * 7 + 6, none⟩ = zero7[6]? := by rw [hown4.cellAt (K.length * 7 + 6) (by omega), List.getElem?_append_right (by rw [nvCells_len]; omega), nvCells_len]; congr 1; omega
      simp only [zero7, List.getElem?_cons_zero, List.getElem?_cons_succ] at z0 z1 z2 z3 z4 z5 z6
      have fz := fun o => hown4.frozenAt o
      have OW := hideT hown4
      clear hown4
      go_upto_region 9 with fail
      have hown4 := OW.out
      clear OW fz z0 z1 z2 z3 z4 z5 z6
      obtain ⟨own5, k7⟩ := own_store7 hown4 rfl t (.slice ua un uc)
      unfold set7 at own5 k7
      replace hgX := (k7.other gl (Ne.symm n1)).trans hgX
      replace kz2 := kz2.trans (Kp.ch (X := fun i => i = gb) k7 rfl) (fun i hi e => by rw [e] at hi ⊢; rcases hat with c | c; exact Or.inr c; omega)
      replace q2 := q2.ch k7 (by omega)
      replace q4 := q4.ch k7 (by omega)
      clear hown4 k7 qN
      generalize (((((((w4.setCell ⟨gb, K.length * 7, none⟩ (.int .i64 t.k)).setCell ⟨gb, K.length * 7 + 1, none⟩ (.string t.t)).setCell ⟨gb, K.length * 7 + 2, none⟩ (.int .i64 t.b)).setCell ⟨gb, K.length * 7 + 3, none⟩ (.int .i64 t.e)).setCell ⟨gb, K.length * 7 + 4, none⟩ (.int .i64 t.l)).setCell ⟨gb, K.length * 7 + 5, none⟩ (.int .i64 t.c)).setCell ⟨gb, K.length * 7 + 6, none⟩ (.slice ua un uc)) = w6 at own5 hgX kz2 q2 q4 ⊢
      have y0 := q2.cell 0
      have y1 := q2.cell 1
      have y2 := q2.cell 2
      have y3 := q2.cell 3
      have z0 := q4.cell 0
      have z1 := q4.cell 1
      have z2 := q4.cell 2
      have z3 := q4.cell 3
      simp only [List.getElem?_toArray, List.getElem?_cons_zero, List.getElem?_cons_succ] at y0 z0 y1 z1 y2 z2 y3 z3
      have fz := fun o => q4.frozen o
      have OW := hideT own5
      clear own5
      go_wp2
      have own5 := OW.out
      clear OW fz y0 z0 y1 z1 y2 z2 y3 z3
      obtain ⟨k9, q9⟩ := q4.set4s (.slice na nn nc) (.slice (some ⟨gl, 0, none⟩) (d + 1) c) (.int .i64 code) (.int .i64 pl)
      have u0 := q9.cell 0
      have u1 := q9.cell 1
      have u2 := q9.cell 2
      have u3 := q9.cell 3
      simp only [List.getElem?_toArray, List.getElem?_cons_zero, List.getElem?_cons_succ] at u0 u1 u2 u3
      have own9 := own_kp own5 (Kp.ch (X := fun i => i = w.heap.size + 2) k9 rfl) (fun g hg e => by have hg2 : gb = g := (by injection hg); omega)
      have kz9 := kz2.trans (Kp.ch (X := fun i => i = w.heap.size + 2) k9 rfl) (fun i hi e => by omega)
      replace hgX := (k9.other gl (by omega)).trans hgX
      clear k9 q9
      generalize ((((w6.setCell ⟨w.heap.size + 2, 0, none⟩ (.slice na nn nc)).setCell ⟨w.heap.size + 2, 1, none⟩ (.slice (some ⟨gl, 0, none⟩) (d + 1) c)).setCell ⟨w.heap.size + 2, 2, none⟩ (.int .i64 code)).setCell ⟨w.heap.size + 2, 3, none⟩ (.int .i64 pl)) = w9 at own9 kz9 hgX u0 u1 u2 u3 ⊢
      refine bodyPost_ret (v := .agg #[.slice na nn nc, .slice (some ⟨gl, 0, none⟩) (d + 1) c, .int .i64 code, .int .i64 pl]) (by rw [results_c rfl]; go_simp) rfl ?_
      exact ⟨_, rfl, own9, hgX, kz9, by rcases hat with c | c; exact Or.inl (by rw [c]; rfl); exact Or.inr ⟨gb, rfl, by omega⟩⟩
    refine consTX rfl (fun KK hKK => ?_) ?_
    · skip
      go_simp
      have b3 := below_alloc (w := w8) (.cells #[.int .i64 0, .string ⟨#[]⟩, .int .i64 0, .int .i64 0, .int .i64 0, .int .i64 0, .slice none 0 0] 34)
      have hnew := heap_alloc_new w8 (.cells #[.int .i64 0, .string ⟨#[]⟩, .int .i64 0, .int .i64 0, .int .i64 0, .int .i64 0, .slice none 0 0] 34)
      have hxs : w8.heap.size + 1 ≤ (w8.alloc (.cells #[.int .i64 0, .string ⟨#[]⟩, .int .i64 0, .int .i64 0, .int .i64 0, .int .i64 0, .slice none 0 0] 34)).heap.size := by simp
      replace hf1 := (World.frozen?_of_block (w := _) (a := ⟨gl, d * 7 + 6, none⟩) (b3.block gl (World.block_lt_of_cell? _ _ hc))).trans hf1
      replace q2 := q2.later b3
      replace qN := qN.later b3
      replace q4 := q4.later b3
      replace hHeld := (⟨below_cell b3 hHeld.1, below_cell b3 hHeld.2.1, below_cell b3 hHeld.2.2.1, below_cell b3 hHeld.2.2.2.1, below_cell b3 hHeld.2.2.2.2.1, below_cell b3 hHeld.2.2.2.2.2.1, below_cell b3 hHeld.2.2.2.2.2.2.1, below_cell b3 hHeld.2.2.2.2.2.2.2⟩ : _ ∧ _ ∧ _ ∧ _ ∧ _ ∧ _ ∧ _ ∧ _)
      replace hc := below_cell b3 hc
      replace hK := own_kp hK (Kp.of (X := fun _ => False) b3) (fun _ _ c => c)
      replace kz := kz.trans (Kp.of (X := fun k => (Value.slice a0 K.length cp).ownBlock = some k) b3) (fun _ _ c => c)
      replace hs1 := Nat.le_trans hs1 b3.size
      generalize w8.alloc (.cells #[.int .i64 0, .string ⟨#[]⟩, .int .i64 0, .int .i64 0, .int .i64 0, .int .i64 0, .slice none 0 0] 34) = wx at b3 hnew hxs q2 qN q4 hc hK kz hf1 hs1 hHeld ⊢
      clear b3
      refine hKK.out _ _ hHeld ?_
      clear hHeld
      intro hHeld
      clear hKK KK
      try simp only [Act.put, List.setIfInBounds_toArray, List.set_cons_zero, List.set_cons_succ]
      refine wpAnyH_ready (rs := [5]) (by kernel_rfl) (by simp) ?_
      refine cons' rfl (fun KK hKK => ?_)
      go_simp
      refine hKK.out _ _ hHeld ?_
      clear hHeld
      intro hHeld
      clear hKK KK
      try simp only [Act.put, List.setIfInBounds_toArray, List.set_cons_zero, List.set_cons_succ]
      refine take' 7 (v := ?_) rfl (by kernel_rfl) (by kernel_rfl) (by kernel_rfl) (fun _ _ _ h => h) (Or.inl ⟨by rfl, ?_⟩) (by assumption) ?_
      rotate_left
      · intro w9 hSw
        go_simp
        first | done | with_reducible rfl
      simp only [Act.put, List.setIfInBounds_toArray, List.set_cons_zero, List.set_cons_succ]
      obtain ⟨i0, hi0, hz0, hz1, hz2⟩ := info_parts info_Node
      have hkz := kz.size
      refine wpAnyH_ready (rs := [9]) (by kernel_rfl) (by simp) ?_
      refine cons' rfl (fun KK hKK => ?_)
      refine step_append_lies _ (by rfl) _ _ _ (by rfl) base 34 i0 _ 7 80 Tryd.underlying22 hi0 hz0 hz1 hz2 rfl (by omega) (.slice a0 K.length cp) K.length (nvCells K) (by rfl) hK ⟨w8.heap.size, 0, none⟩ 1 1 [.int .i64 0, .string ⟨#[]⟩, .int .i64 0, .int .i64 0, .int .i64 0, .int .i64 0, .slice none 0 0] (by rfl) (by rfl) (World.news_of_block (cs := #[.int .i64 0, .string ⟨#[]⟩, .int .i64 0, .int .i64 0, .int .i64 0, .int .i64 0, .slice none 0 0]) (t := 34) (fr := (0, 0)) hnew) (by simp [Value.oneCell']) (by omega) (by simp only [maxLen]; omega) (by omega) (by omega) wx.heap.size rfl ?_
      intro gb cap w3 hown4 hgrow hat hlt4
      have kg := Kp.grown hgrow (fun k e => e)
      have n1 : gb ≠ gl := fun e => by rw [e] at hat; rcases hat with c | c; exact hvg c; omega
      have n3 : w.heap.size + 3 ≤ gb ∨ gb < w.heap.size := by rcases hat with c | c; (have := hvlt _ c; omega); omega
      have hH2 := (⟨cell_kp kg (fun c => by have := hvlt _ c; omega) hHeld.1, cell_kp kg (fun c => by have := hvlt _ c; omega) hHeld.2.1, cell_kp kg (fun c => by have := hvlt _ c; omega) hHeld.2.2.1, cell_kp kg (fun c => by have := hvlt _ c; omega) hHeld.2.2.2.1, cell_kp kg (fun c => by have := hvlt _ c; omega) hHeld.2.2.2.2.1, cell_kp kg (fun c => by have := hvlt _ c; omega) hHeld.2.2.2.2.2.1, cell_kp kg (fun c => by have := hvlt _ c; omega) hHeld.2.2.2.2.2.2.1, cell_kp kg (fun c => by have := hvlt _ c; omega) hHeld.2.2.2.2.2.2.2⟩ : _ ∧ _ ∧ _ ∧ _ ∧ _ ∧ _ ∧ _ ∧ _)
      replace hf1 := (World.frozen?_of_block (w := wx) (a := ⟨gl, d * 7 + 6, none⟩) (kg.block gl (World.block_lt_of_cell? _ _ hc) (fun c => hvg c))).trans hf1
      replace q2 := kg.blk q2 (fun c => by have := hvlt _ c; omega)
      replace qN := kg.blk qN (fun c => by have := hvlt _ c; omega)
      replace q4 := kg.blk q4 (fun c => by have := hvlt _ c; omega)
      replace hc := cell_kp kg (fun c => hvg c) hc
      replace kz := kz.trans kg (fun _ _ c => c)
      clear hK hnew kg hgrow
      refine hKK.out _ _ hH2 ?_
      clear hHeld
      intro hHeld
      clear hKK KK
      try simp only [Act.put, List.setIfInBounds_toArray, List.set_cons_zero, List.set_cons_succ]
      clear hH2
      have hix : ((K.length : Int) < (K.length : Int) + 1) := by omega
      refine take' 10 (v := ?_) rfl (by kernel_rfl) (by kernel_rfl) (by kernel_rfl) (fun _ _ _ h => h) (Or.inl ⟨by rfl, ?_⟩) (by assumption) ?_
      rotate_left
      · intro w9 hSw
        go_simp
        first | done | with_reducible rfl
      simp only [Act.put, List.setIfInBounds_toArray, List.set_cons_zero, List.set_cons_succ]
      refine take' 11 (v := ?_) rfl (by kernel_rfl) (by kernel_rfl) (by kernel_rfl) (fun _ _ _ h => h) (Or.inl ⟨by rfl, ?_⟩) (by assumption) ?_
      rotate_left
      · intro w9 hSw
        go_simp
        first | done | with_reducible rfl
      simp only [Act.put, List.setIfInBounds_toArray, List.set_cons_zero, List.set_cons_succ]
      have hgX := kz.block gl hgl (fun c => hvg c)
      have kz2 : Kp (fun k => k = gl ∨ (Value.slice a0 K.length cp).ownBlock = some k) w w3 := ⟨kz.os, kz.tape, kz.output, kz.size, fun k hk hn => kz.block k hk (fun c => hn (Or.inr c))⟩
      clear kz
      change w3.ownsRow base 34 7 _ _ (nvCells K ++ zero7) at hown4
      refine wpAnyH_ready (rs := [12]) (by kernel_rfl) (by simp) ?_
      refine cons' rfl (fun KK hKK => ?_)
      go_simp
      have k8 := Ch.set (c := gl) (o := d * 7 + 6) (W := w3) (.slice (some ⟨gb, 0, none⟩) (K.length + 1) cap)
      have hH2 := (⟨k8.cell (by omega) hHeld.1, k8.cell (by omega) hHeld.2.1, k8.cell (by omega) hHeld.2.2.1, k8.cell (by omega) hHeld.2.2.2.1, k8.cell (by omega) hHeld.2.2.2.2.1, k8.cell (by omega) hHeld.2.2.2.2.2.1, k8.cell (by omega) hHeld.2.2.2.2.2.2.1, k8.cell (by omega) hHeld.2.2.2.2.2.2.2⟩ : _ ∧ _ ∧ _ ∧ _ ∧ _ ∧ _ ∧ _ ∧ _)
      replace hown4 := own_kp hown4 (Kp.ch (X := fun i => i = gl) k8 rfl) (fun g hg e => by have hg2 : gb = g := (by injection hg); exact n1 (hg2.trans e))
      replace hgX := heap_set_congr (o := d * 7 + 6) hgX (.slice (some ⟨gb, 0, none⟩) (K.length + 1) cap)
      replace kz2 := kz2.trans (Kp.ch (X := fun i => i = gl) k8 rfl) (fun i hi e => Or.inl e)
      replace q2 := q2.ch k8 (by omega)
      replace qN := qN.ch k8 (by omega)
      replace q4 := q4.ch k8 (by omega)
      clear k8 hc hf1
      generalize w3.setCell ⟨gl, d * 7 + 6, none⟩ (.slice (some ⟨gb, 0, none⟩) (K.length + 1) cap) = w4 at hown4 hH2 hgX kz2 q2 qN q4 ⊢
      refine hKK.out _ _ hH2 ?_
      clear hHeld
      intro hHeld
      clear hKK KK
      try simp only [Act.put, List.setIfInBounds_toArray, List.set_cons_zero, List.set_cons_succ]
      clear hH2
      refine wpAnyH_done (by kernel_rfl) ?_ _
      clear hHeld
      have z0 : w4.cell? ⟨gb, K.length * 7, none⟩ = zero7[0]? := by rw [hown4.cellAt (K.length * 7) (by omega), List.getElem?_append_right (by rw [nvCells_len]; omega), nvCells_len]; congr 1; omega
      have z1 : w4.cell? ⟨gb, K.length * 7 + 1, none⟩ = zero7[1]? := by rw [hown4.cellAt (K.length * 7 + 1) (by omega), List.getElem?_append_right (by rw [nvCells_len]; omega), nvCells_len]; congr 1; omega
      have z2 : w4.cell? ⟨gb, K.length * 7 + 2, none⟩ = zero7[2]? := by rw [hown4.cellAt (K.length * 7 + 2) (by omega), List.getElem?_append_right (by rw [nvCells_len]; omega), nvCells_len]; congr 1; omega
      have z3 : w4.cell? ⟨gb, K.length * 7 + 3, none⟩ = zero7[3]? := by rw [hown4.cellAt (K.length * 7 + 3) (by omega), List.getElem?_append_right (by rw [nvCells_len]; omega), nvCells_len]; congr 1; omega
      have z4 : w4.cell? ⟨gb, K.length * 7 + 4, none⟩ = zero7[4]? := by rw [hown4.cellAt (K.length * 7 + 4) (by omega), List.getElem?_append_right (by rw [nvCells_len]; omega), nvCells_len]; congr 1; omega
      have z5 : w4.cell? ⟨gb, K.length * 7 + 5, none⟩ = zero7[5]? := by rw [hown4.cellAt (K.length * 7 + 5) (by omega), List.getElem?_append_right (by rw [nvCells_len]; omega), nvCells_len]; congr 1; omega
      have z6 : w4.cell? ⟨gb, K.length * 7 + 6, none⟩ = zero7[6]? := by rw [hown4.cellAt (K.length * 7 + 6) (by omega), List.getElem?_append_right (by rw [nvCells_len]; omega), nvCells_len]; congr 1; omega
      simp only [zero7, List.getElem?_cons_zero, List.getElem?_cons_succ] at z0 z1 z2 z3 z4 z5 z6
      have fz := fun o => hown4.frozenAt o
      have OW := hideT hown4
      clear hown4
      go_upto_region 9 with fail
      have hown4 := OW.out
      clear OW fz z0 z1 z2 z3 z4 z5 z6
      obtain ⟨own5, k7⟩ := own_store7 hown4 rfl t (.slice ua un uc)
      unfold set7 at own5 k7
      replace hgX := (k7.other gl (Ne.symm n1)).trans hgX
      replace kz2 := kz2.trans (Kp.ch (X := fun i => i = gb) k7 rfl) (fun i hi e => by rw [e] at hi ⊢; rcases hat with c | c; exact Or.inr c; omega)
      replace q2 := q2.ch k7 (by omega)
      replace q4 := q4.ch k7 (by omega)
      clear hown4 k7 qN
      generalize (((((((w4.setCell ⟨gb, K.length * 7, none⟩ (.int .i64 t.k)).setCell ⟨gb, K.length * 7 + 1, none⟩ (.string t.t)).setCell ⟨gb, K.length * 7 + 2, none⟩ (.int .i64 t.b)).setCell ⟨gb, K.length * 7 + 3, none⟩ (.int .i64 t.e)).setCell ⟨gb, K.length * 7 + 4, none⟩ (.int .i64 t.l)).setCell ⟨gb, K.length * 7 + 5, none⟩ (.int .i64 t.c)).setCell ⟨gb, K.length * 7 + 6, none⟩ (.slice ua un uc)) = w6 at own5 hgX kz2 q2 q4 ⊢
      have y0 := q2.cell 0
      have y1 := q2.cell 1
      have y2 := q2.cell 2
      have y3 := q2.cell 3
      have z0 := q4.cell 0
      have z1 := q4.cell 1
      have z2 := q4.cell 2
      have z3 := q4.cell 3
      simp only [List.getElem?_toArray, List.getElem?_cons_zero, List.getElem?_cons_succ] at y0 z0 y1 z1 y2 z2 y3 z3
      have fz := fun o => q4.frozen o
      have OW := hideT own5
      clear own5
      go_wp2
      have own5 := OW.out
      clear OW fz y0 z0 y1 z1 y2 z2 y3 z3
      obtain ⟨k9, q9⟩ := q4.set4s (.slice na nn nc) (.slice (some ⟨gl, 0, none⟩) (d + 1) c) (.int .i64 code) (.int .i64 pl)
      have u0 := q9.cell 0
      have u1 := q9.cell 1
      have u2 := q9.cell 2
      have u3 := q9.cell 3
      simp only [List.getElem?_toArray, List.getElem?_cons_zero, List.getElem?_cons_succ] at u0 u1 u2 u3
      have own9 := own_kp own5 (Kp.ch (X := fun i => i = w.heap.size + 2) k9 rfl) (fun g hg e => by have hg2 : gb = g := (by injection hg); omega)
      have kz9 := kz2.trans (Kp.ch (X := fun i => i = w.heap.size + 2) k9 rfl) (fun i hi e => by omega)
      replace hgX := (k9.other gl (by omega)).trans hgX
      clear k9 q9
      generalize ((((w6.setCell ⟨w.heap.size + 2, 0, none⟩ (.slice na nn nc)).setCell ⟨w.heap.size + 2, 1, none⟩ (.slice (some ⟨gl, 0, none⟩) (d + 1) c)).setCell ⟨w.heap.size + 2, 2, none⟩ (.int .i64 code)).setCell ⟨w.heap.size + 2, 3, none⟩ (.int .i64 pl)) = w9 at own9 kz9 hgX u0 u1 u2 u3 ⊢
      refine bodyPost_ret (v := .agg #[.slice na nn nc, .slice (some ⟨gl, 0, none⟩) (d + 1) c, .int .i64 code, .int .i64 pl]) (by rw [results_c rfl]; go_simp) rfl ?_
      exact ⟨_, rfl, own9, hgX, kz9, by rcases hat with c | c; exact Or.inl (by rw [c]; rfl); exact Or.inr ⟨gb, rfl, by omega⟩⟩
    exact AllReadyH.nil
  exact AllReadyH.nil

end Go.Proofs.YtibeiggedmabkaaDoor
