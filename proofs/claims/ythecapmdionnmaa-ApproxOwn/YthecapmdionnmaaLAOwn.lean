/-
  ApproxOwn: what is handed in, and the room behind it, stays; what Exact tells is new memory.
-/
import Derived.Test.YthecapmdionnmaaOWQ
import Derived.Test.YthecapmdionnmaaOpenQ
namespace Go.Proofs.Ythecapmdionnmaa.approxOwn
open Go.ChangeShapes Go.WideShapes Go.ChangeAt Go.RowKit Go.Proofs.Ythecapmdionnmaa
set_option linter.unusedVariables false
set_option linter.unusedSimpArgs false
set_option maxHeartbeats 8000000 in
set_option maxRecDepth 100000 in
theorem walk (s0 : Bool) (a0 : Option Addr) (n0 c0 X0 : Nat) (b0 : Option Addr) (m0 d0 Y0 : Nat) (b : Nat) (w : World) (hc0 : n0 ≤ c0) (hm0 : n0 ≤ 35184372087808) (hS0 : Seg w a0 X0 n0) (hd0 : m0 ≤ d0) (hk0 : m0 ≤ 35184372087808) (hT0 : Seg w b0 Y0 m0) (hb : b < 18446744073709551616) :
    Calls Try.prog 3 #[Value.agg #[Value.bool s0, Value.slice a0 n0 c0, Value.slice b0 m0 d0], .float .f64 b] w fun e w' => e = .returned (.bool true) ∧ Below w.heap.size w w' := by
  obtain ⟨z, hz⟩ : ∃ z : Nat, z = 1074 := ⟨_, rfl⟩
  obtain ⟨T, hT⟩ : ∃ T : Nat, T = 2 ^ z := ⟨_, rfl⟩
  obtain ⟨Z, V, c, lZ, lV, hE⟩ := exact_all b hb
  have GE := hide' hE
  clear hE
  have hX0 := hide' hS0.1
  have hY0 := hide' hT0.1
  have G1 := hide' (fun w' k1 => room_is a0 n0 c0 X0 w' (by omega) k1)
  have G2 := hide' (fun w' k1 => room_is b0 m0 d0 Y0 w' (by omega) k1)
  have GN := hide' (fun w' g0 r0 g1 r1 (h0 : n0 ≤ r0) (h1 : m0 ≤ r1) k1 k2 => near_is s0 (some ⟨g0, 0, none⟩) n0 r0 X0 (some ⟨g1, 0, none⟩) m0 r1 Y0 z T w' h0 hm0 k1 h1 hk0 k2 hz hT)
  have GA := hide' (fun w' g0 r0 g1 r1 (h0 : n0 ≤ r0) (h1 : m0 ≤ r1) k1 k2 => around_is s0 (some ⟨g0, 0, none⟩) n0 r0 X0 (some ⟨g1, 0, none⟩) m0 r1 Y0 z T w' h0 hm0 k1 h1 hk0 k2 hz hT)
  have GI := hide' (fun w' g0 r0 g1 r1 (h0 : n0 ≤ r0) (h1 : m0 ≤ r1) k1 k2 a b ha hb => In_is s0 (some ⟨g0, 0, none⟩) n0 r0 X0 (some ⟨g1, 0, none⟩) m0 r1 Y0 a b z T w' h0 hm0 k1 h1 hk0 k2 hz hT ha hb)
  have G7 := hide' (fun w' g c k1 k2 => kept_is a0 n0 c0 X0 g c w' (by omega) k1 k2)
  have G8 := hide' (fun w' g c k1 k2 => kept_is b0 m0 d0 Y0 g c w' (by omega) k1 k2)
  have GM := hide' (fun w' p q k1 k2 => memRat_is (ng Z) p (ln (am Z)) (ln (am Z)) (am Z) q (ln V) (ln V) V w' (Nat.le_refl _) (by omega) k1 (Nat.le_refl _) (by omega) k2)
  have GS := hide' (fun w' p q p1 q1 c1 d1 k1 k2 k3 k4 => SameRat_room Z V p q p1 q1 c1 d1 w' (by omega) (by omega) k1 k2 k3 k4)
  have hsf := store_float
  clear hz hT
  have bel : Below w.heap.size w w := Below.refl _ _
  have bb := below_alloc (w := w) (.cells #[.bool s0, .slice a0 n0 c0, .slice b0 m0 d0] 27)
  replace hS0 := hS0.later bb
  replace hT0 := hT0.later bb
  replace bel := bel.trans (bb.mono bel.size)
  clear bb
  have qr := Blk.new w #[.bool s0, .slice a0 n0 c0, .slice b0 m0 d0] 27
  go_enter Try.func3, Try.ntmps3
  go_wp2_with fail
  obtain ⟨W0, hW⟩ : ∃ W, (w.alloc (.cells #[.bool s0, .slice a0 n0 c0, .slice b0 m0 d0] 27)) = W := ⟨_, rfl⟩
  rw [hW] at bel hS0 hT0 qr ⊢
  clear hW
  refine (G1.out _ hS0).mono ?_
  rintro e w1 ⟨g0, r0, rfl, hr0, hg0, q0, b1⟩
  have bb := b1
  replace hS0 := hS0.later bb
  replace hT0 := hT0.later bb
  replace qr := qr.later bb
  replace bel := bel.trans (bb.mono bel.size)
  clear bb
  clear b1
  have qr_0 := qr.cell 0
  have qr_1 := qr.cell 1
  have qr_2 := qr.cell 2
  simp only [List.getElem?_toArray, List.getElem?_cons_zero, List.getElem?_cons_succ] at qr_0 qr_1 qr_2
  go_wp2_with fail
  clear qr_0 qr_1 qr_2
  refine (G2.out _ hT0).mono ?_
  rintro e w2 ⟨g1, r1, rfl, hr1, hg1, q1, b2⟩
  have bb := b2
  replace hS0 := hS0.later bb
  replace hT0 := hT0.later bb
  replace qr := qr.later bb
  replace q0 := q0.later bb
  replace bel := bel.trans (bb.mono bel.size)
  clear bb
  clear b2
  have hh : n0 ≤ r0 ∧ m0 ≤ r1 := ⟨by omega, by omega⟩
  have qr_0 := qr.cell 0
  have qr_1 := qr.cell 1
  have qr_2 := qr.cell 2
  simp only [List.getElem?_toArray, List.getElem?_cons_zero, List.getElem?_cons_succ] at qr_0 qr_1 qr_2
  have lqxqr := qr.lt
  have bb := below_alloc (w := w2) (.cells #[.bool s0, .slice (some ⟨g0, 0, none⟩) n0 r0, .slice (some ⟨g1, 0, none⟩) m0 r1] 27)
  replace hS0 := hS0.later bb
  replace hT0 := hT0.later bb
  replace qr := qr.later bb
  replace q0 := q0.later bb
  replace q1 := q1.later bb
  replace bel := bel.trans (bb.mono bel.size)
  clear bb
  have qx := Blk.new w2 #[.bool s0, .slice (some ⟨g0, 0, none⟩) n0 r0, .slice (some ⟨g1, 0, none⟩) m0 r1] 27
  go_wp2_with fail
  clear qr_0 qr_1 qr_2
  obtain ⟨wX, hW⟩ : ∃ W, (w2.alloc (.cells #[.bool s0, .slice (some ⟨g0, 0, none⟩) n0 r0, .slice (some ⟨g1, 0, none⟩) m0 r1] 27)) = W := ⟨_, rfl⟩
  rw [hW] at bel hS0 hT0 qr q0 q1 qx ⊢
  clear hW
  refine (GN.out _ g0 r0 g1 r1 hh.1 hh.2 (q0.seg hX0.out) (q1.seg hY0.out)).mono ?_
  rintro e w3 ⟨k, rfl, hC, b3⟩
  have bb := b3
  replace hS0 := hS0.later bb
  replace hT0 := hT0.later bb
  replace qr := qr.later bb
  replace q0 := q0.later bb
  replace q1 := q1.later bb
  replace qx := qx.later bb
  replace bel := bel.trans (bb.mono bel.size)
  clear bb
  clear b3
  have GN2 : Hid (∀ w' g0 r0 g1 r1, n0 ≤ r0 → m0 ≤ r1 → Seg w' (some ⟨g0, 0, none⟩) X0 n0 → Seg w' (some ⟨g1, 0, none⟩) Y0 m0 → Calls Try.prog 5 #[Value.agg #[Value.bool s0, Value.slice (some ⟨g0, 0, none⟩) n0 r0, Value.slice (some ⟨g1, 0, none⟩) m0 r1]] w' fun e w'' => e = .returned (.float .f64 (nearB T s0 X0 Y0 k)) ∧ Below w'.heap.size w' w'') := fun w' g0 r0 g1 r1 h0 h1 k1 k2 => by
    refine (GN.out w' g0 r0 g1 r1 h0 h1 k1 k2).mono ?_
    rintro e w'' ⟨k2, rfl, hC2, b⟩
    obtain rfl := hC.uniq hC2
    exact ⟨rfl, b⟩
  have GA2 : Hid (∀ w' g0 r0 g1 r1, n0 ≤ r0 → m0 ≤ r1 → Seg w' (some ⟨g0, 0, none⟩) X0 n0 → Seg w' (some ⟨g1, 0, none⟩) Y0 m0 → Calls Try.prog 6 #[Value.agg #[Value.bool s0, Value.slice (some ⟨g0, 0, none⟩) n0 r0, Value.slice (some ⟨g1, 0, none⟩) m0 r1]] w' fun e w'' => e = .returned (.agg #[.float .f64 (downB T s0 X0 Y0 k), .float .f64 (upB T s0 X0 Y0 k)]) ∧ Below w'.heap.size w' w'') := fun w' g0 r0 g1 r1 h0 h1 k1 k2 => by
    refine (GA.out w' g0 r0 g1 r1 h0 h1 k1 k2).mono ?_
    rintro e w'' ⟨k2, rfl, hC2, b⟩
    obtain rfl := hC.uniq hC2
    exact ⟨rfl, b⟩
  have GI2 : Hid (∀ w' g0 r0 g1 r1, n0 ≤ r0 → m0 ≤ r1 → Seg w' (some ⟨g0, 0, none⟩) X0 n0 → Seg w' (some ⟨g1, 0, none⟩) Y0 m0 → Calls Try.prog 7 #[Value.agg #[Value.bool s0, Value.slice (some ⟨g0, 0, none⟩) n0 r0, Value.slice (some ⟨g1, 0, none⟩) m0 r1], .agg #[.float .f64 (downB T s0 X0 Y0 k), .float .f64 (upB T s0 X0 Y0 k)]] w' fun e w'' => e = .returned (.bool true) ∧ Below w'.heap.size w' w'') := fun w' g0 r0 g1 r1 h0 h1 k1 k2 => by
    refine (GI.out w' g0 r0 g1 r1 h0 h1 k1 k2 (downB T s0 X0 Y0 k) (upB T s0 X0 Y0 k) (fB_lt (if_le hC.1)) (fB_lt (if_le hC.1))).mono ?_
    rintro e w'' ⟨k2, rfl, hC2, b⟩
    obtain rfl := hC.uniq hC2
    refine ⟨?_, b⟩
    rw [va_around hC, decide_eq_true (Int.le_refl _), decide_eq_true (Int.le_refl _)]
    rfl
  clear hC GN GA GI
  obtain ⟨nB, hnB⟩ : ∃ x, nearB T s0 X0 Y0 k = x := ⟨_, rfl⟩
  rw [hnB] at GN2 ⊢
  clear hnB
  obtain ⟨dB, hdB⟩ : ∃ x, downB T s0 X0 Y0 k = x := ⟨_, rfl⟩
  rw [hdB] at GA2 GI2
  clear hdB
  obtain ⟨uB, huB⟩ : ∃ x, upB T s0 X0 Y0 k = x := ⟨_, rfl⟩
  rw [huB] at GA2 GI2
  clear huB
  have qx_0 := qx.cell 0
  have qx_1 := qx.cell 1
  have qx_2 := qx.cell 2
  simp only [List.getElem?_toArray, List.getElem?_cons_zero, List.getElem?_cons_succ] at qx_0 qx_1 qx_2
  go_wp2_with fail
  clear qx_0 qx_1 qx_2
  refine (GA2.out _ g0 r0 g1 r1 hh.1 hh.2 (q0.seg hX0.out) (q1.seg hY0.out)).mono ?_
  rintro e w4 ⟨rfl, b4⟩
  have bb := b4
  replace hS0 := hS0.later bb
  replace hT0 := hT0.later bb
  replace qr := qr.later bb
  replace q0 := q0.later bb
  replace q1 := q1.later bb
  replace qx := qx.later bb
  replace bel := bel.trans (bb.mono bel.size)
  clear bb
  clear b4
  have qx_0 := qx.cell 0
  have qx_1 := qx.cell 1
  have qx_2 := qx.cell 2
  simp only [List.getElem?_toArray, List.getElem?_cons_zero, List.getElem?_cons_succ] at qx_0 qx_1 qx_2
  have lqbqr := qr.lt
  have lqbqx := qx.lt
  have bb := below_alloc (w := w4) (.cells #[.float .f64 dB, .float .f64 uB] 33)
  replace hS0 := hS0.later bb
  replace hT0 := hT0.later bb
  replace qr := qr.later bb
  replace q0 := q0.later bb
  replace q1 := q1.later bb
  replace qx := qx.later bb
  replace bel := bel.trans (bb.mono bel.size)
  clear bb
  have qb := Blk.new w4 #[.float .f64 dB, .float .f64 uB] 33
  go_wp2_with fail
  clear qx_0 qx_1 qx_2
  obtain ⟨wY, hW⟩ : ∃ W, (w4.alloc (.cells #[.float .f64 dB, .float .f64 uB] 33)) = W := ⟨_, rfl⟩
  rw [hW] at bel hS0 hT0 qr q0 q1 qx qb ⊢
  clear hW
  refine (GI2.out _ g0 r0 g1 r1 hh.1 hh.2 (q0.seg hX0.out) (q1.seg hY0.out)).mono ?_
  rintro e w5 ⟨rfl, b5⟩
  have bb := b5
  replace hS0 := hS0.later bb
  replace hT0 := hT0.later bb
  replace qr := qr.later bb
  replace q0 := q0.later bb
  replace q1 := q1.later bb
  replace qx := qx.later bb
  replace qb := qb.later bb
  replace bel := bel.trans (bb.mono bel.size)
  clear bb
  clear b5
  have qr_0 := qr.cell 0
  have qr_1 := qr.cell 1
  have qr_2 := qr.cell 2
  simp only [List.getElem?_toArray, List.getElem?_cons_zero, List.getElem?_cons_succ] at qr_0 qr_1 qr_2
  go_wp2_with fail
  clear qr_0 qr_1 qr_2
  refine (G7.out _ g0 _ hS0 q0).mono ?_
  rintro e w6 ⟨rfl, b6⟩
  have bb := b6
  replace hS0 := hS0.later bb
  replace hT0 := hT0.later bb
  replace qr := qr.later bb
  replace q0 := q0.later bb
  replace q1 := q1.later bb
  replace qx := qx.later bb
  replace qb := qb.later bb
  replace bel := bel.trans (bb.mono bel.size)
  clear bb
  clear b6
  have qr_0 := qr.cell 0
  have qr_1 := qr.cell 1
  have qr_2 := qr.cell 2
  simp only [List.getElem?_toArray, List.getElem?_cons_zero, List.getElem?_cons_succ] at qr_0 qr_1 qr_2
  go_wp2_with fail
  clear qr_0 qr_1 qr_2
  refine (G8.out _ g1 _ hT0 q1).mono ?_
  rintro e w7 ⟨rfl, b7⟩
  have bb := b7
  replace hS0 := hS0.later bb
  replace hT0 := hT0.later bb
  replace qr := qr.later bb
  replace q0 := q0.later bb
  replace q1 := q1.later bb
  replace qx := qx.later bb
  replace qb := qb.later bb
  replace bel := bel.trans (bb.mono bel.size)
  clear bb
  clear b7
  go_wp2_with fail
  clear qr hS0 hT0
  have qx_0 := qx.cell 0
  have qx_1 := qx.cell 1
  have qx_2 := qx.cell 2
  have qb_0 := qb.cell 0
  have qb_1 := qb.cell 1
  simp only [List.getElem?_toArray, List.getElem?_cons_zero, List.getElem?_cons_succ] at qx_0 qx_1 qx_2 qb_0 qb_1
  have bD : Below w7.heap.size w7 w7.drew := (Below.refl _ _).drew
  have kqx_0 := below_cell bD qx_0
  have kqx_1 := below_cell bD qx_1
  have kqx_2 := below_cell bD qx_2
  have kqb_0 := below_cell bD qb_0
  have kqb_1 := below_cell bD qb_1
  replace bel := bel.trans (bD.mono bel.size)
  replace q0 := q0.later bD
  replace q1 := q1.later bD
  replace qx := qx.later bD
  replace qb := qb.later bD
  refine wp_region_held_drew (S := fun w' => w'.cell? ⟨w2.heap.size, 0, none⟩ = some (.bool s0) ∧ w'.cell? ⟨w2.heap.size, 1, none⟩ = some (.slice (some ⟨g0, 0, none⟩) n0 r0) ∧ w'.cell? ⟨w2.heap.size, 2, none⟩ = some (.slice (some ⟨g1, 0, none⟩) m0 r1) ∧ w'.cell? ⟨w4.heap.size, 0, none⟩ = some (.float .f64 dB) ∧ w'.cell? ⟨w4.heap.size, 1, none⟩ = some (.float .f64 uB)) (by kernel_rfl) ⟨kqx_0, kqx_1, kqx_2, kqb_0, kqb_1⟩ (fun hHeld => ?_)
  clear kqx_0 kqx_1 kqx_2 kqb_0 kqb_1
  generalize w7.drew = wF0 at bD q0 q1 qx qb bel hHeld ⊢
  clear bD qx_0 qx_1 qx_2 qb_0 qb_1
  refine take' 0 (v := ?_) rfl (by kernel_rfl) (by kernel_rfl) (by kernel_rfl) (fun _ _ _ h => h) (Or.inl ⟨by rfl, ?_⟩) (by assumption) ?_
  rotate_left
  · intro w9 hSw
    go_simp
    first | done | with_reducible rfl
  simp only [Act.put, List.setIfInBounds_toArray, List.set_cons_zero, List.set_cons_succ]
  refine take' 2 (v := ?_) rfl (by kernel_rfl) (by kernel_rfl) (by kernel_rfl) (fun _ _ _ h => h) (Or.inl ⟨by rfl, ?_⟩) (by assumption) ?_
  rotate_left
  · intro w9 hSw
    go_simp
    first | done | with_reducible rfl
  simp only [Act.put, List.setIfInBounds_toArray, List.set_cons_zero, List.set_cons_succ]
  refine wpAnyH_ready (rs := [1]) (by kernel_rfl) (by simp) ?_
  refine cons' rfl (fun KK hKK => ?_)
  go_simp
  refine (GN2.out _ g0 r0 g1 r1 hh.1 hh.2 (q0.seg hX0.out) (q1.seg hY0.out)).mono ?_
  rintro e w8 ⟨rfl, b8⟩
  have bC := b8
  replace bel := bel.trans (bC.mono bel.size)
  replace q0 := q0.later bC
  replace q1 := q1.later bC
  replace qx := qx.later bC
  replace qb := qb.later bC
  replace hHeld := (⟨below_cell bC hHeld.1, below_cell bC hHeld.2.1, below_cell bC hHeld.2.2.1, below_cell bC hHeld.2.2.2.1, below_cell bC hHeld.2.2.2.2⟩ : _ ∧ _ ∧ _ ∧ _ ∧ _)
  clear bC
  go_wp2_with fail
  clear b8
  refine hKK.out _ _ hHeld ?_
  clear hHeld
  intro hHeld
  clear hKK KK
  try simp only [Act.put, List.setIfInBounds_toArray, List.set_cons_zero, List.set_cons_succ]
  refine wpAnyH_ready (rs := [3]) (by kernel_rfl) (by simp) ?_
  refine cons' rfl (fun KK hKK => ?_)
  go_simp
  refine (fsame_self _ _).mono ?_
  rintro e w9 ⟨rfl, b8⟩
  have bC := b8
  replace bel := bel.trans (bC.mono bel.size)
  replace q0 := q0.later bC
  replace q1 := q1.later bC
  replace qx := qx.later bC
  replace qb := qb.later bC
  replace hHeld := (⟨below_cell bC hHeld.1, below_cell bC hHeld.2.1, below_cell bC hHeld.2.2.1, below_cell bC hHeld.2.2.2.1, below_cell bC hHeld.2.2.2.2⟩ : _ ∧ _ ∧ _ ∧ _ ∧ _)
  clear bC
  go_wp2_with fail
  clear b8
  refine hKK.out _ _ hHeld ?_
  clear hHeld
  intro hHeld
  clear hKK KK
  try simp only [Act.put, List.setIfInBounds_toArray, List.set_cons_zero, List.set_cons_succ]
  refine take' 4 (v := ?_) rfl (by kernel_rfl) (by kernel_rfl) (by kernel_rfl) (fun _ _ _ h => h) (Or.inl ⟨by rfl, ?_⟩) (by assumption) ?_
  rotate_left
  · intro w9 hSw
    go_simp
    first | done | with_reducible rfl
  simp only [Act.put, List.setIfInBounds_toArray, List.set_cons_zero, List.set_cons_succ]
  refine take' 5 (v := ?_) rfl (by kernel_rfl) (by kernel_rfl) (by kernel_rfl) (fun _ _ _ h => h) (Or.inl ⟨by rfl, ?_⟩) (by assumption) ?_
  rotate_left
  · intro w9 hSw
    go_simp
    first | done | with_reducible rfl
  simp only [Act.put, List.setIfInBounds_toArray, List.set_cons_zero, List.set_cons_succ]
  refine take' 6 (v := ?_) rfl (by kernel_rfl) (by kernel_rfl) (by kernel_rfl) (fun _ _ _ h => h) (Or.inl ⟨by rfl, ?_⟩) (by assumption) ?_
  rotate_left
  · intro w9 hSw
    go_simp
    first | done | with_reducible rfl
  simp only [Act.put, List.setIfInBounds_toArray, List.set_cons_zero, List.set_cons_succ]
  refine take' 8 (v := ?_) rfl (by kernel_rfl) (by kernel_rfl) (by kernel_rfl) (fun _ _ _ h => h) (Or.inl ⟨by rfl, ?_⟩) (by assumption) ?_
  rotate_left
  · intro w9 hSw
    go_simp
    first | done | with_reducible rfl
  simp only [Act.put, List.setIfInBounds_toArray, List.set_cons_zero, List.set_cons_succ]
  refine wpAnyH_ready (rs := [7]) (by kernel_rfl) (by simp) ?_
  refine cons' rfl (fun KK hKK => ?_)
  go_simp
  refine (GA2.out _ g0 r0 g1 r1 hh.1 hh.2 (q0.seg hX0.out) (q1.seg hY0.out)).mono ?_
  rintro e w10 ⟨rfl, b8⟩
  have bC := b8
  replace bel := bel.trans (bC.mono bel.size)
  replace q0 := q0.later bC
  replace q1 := q1.later bC
  replace qx := qx.later bC
  replace qb := qb.later bC
  replace hHeld := (⟨below_cell bC hHeld.1, below_cell bC hHeld.2.1, below_cell bC hHeld.2.2.1, below_cell bC hHeld.2.2.2.1, below_cell bC hHeld.2.2.2.2⟩ : _ ∧ _ ∧ _ ∧ _ ∧ _)
  clear bC
  go_wp2_with fail
  clear b8
  refine hKK.out _ _ hHeld ?_
  clear hHeld
  intro hHeld
  clear hKK KK
  try simp only [Act.put, List.setIfInBounds_toArray, List.set_cons_zero, List.set_cons_succ]
  refine wpAnyH_ready (rs := [9]) (by kernel_rfl) (by simp) ?_
  refine cons' rfl (fun KK hKK => ?_)
  go_simp
  refine (sameSpan_self _ _ _).mono ?_
  rintro e w11 ⟨rfl, b8⟩
  have bC := b8
  replace bel := bel.trans (bC.mono bel.size)
  replace q0 := q0.later bC
  replace q1 := q1.later bC
  replace qx := qx.later bC
  replace qb := qb.later bC
  replace hHeld := (⟨below_cell bC hHeld.1, below_cell bC hHeld.2.1, below_cell bC hHeld.2.2.1, below_cell bC hHeld.2.2.2.1, below_cell bC hHeld.2.2.2.2⟩ : _ ∧ _ ∧ _ ∧ _ ∧ _)
  clear bC
  go_wp2_with fail
  clear b8
  refine hKK.out _ _ hHeld ?_
  clear hHeld
  intro hHeld
  clear hKK KK
  try simp only [Act.put, List.setIfInBounds_toArray, List.set_cons_zero, List.set_cons_succ]
  refine take' 10 (v := ?_) rfl (by kernel_rfl) (by kernel_rfl) (by kernel_rfl) (fun _ _ _ h => h) (Or.inl ⟨by rfl, ?_⟩) (by assumption) ?_
  rotate_left
  · intro w9 hSw
    go_simp
    first | done | with_reducible rfl
  simp only [Act.put, List.setIfInBounds_toArray, List.set_cons_zero, List.set_cons_succ]
  refine take' 11 (v := ?_) rfl (by kernel_rfl) (by kernel_rfl) (by kernel_rfl) (fun _ _ _ h => h) (Or.inl ⟨by rfl, ?_⟩) (by assumption) ?_
  rotate_left
  · intro w9 hSw
    go_simp
    first | done | with_reducible rfl
  simp only [Act.put, List.setIfInBounds_toArray, List.set_cons_zero, List.set_cons_succ]
  refine wpAnyH_done (by kernel_rfl) ?_ _
  go_wp2_with fail
  clear q0 q1 qx qb
  have hWB := bel.size
  refine (GE.out _).mono ?_
  rintro e wE ⟨p, q, rfl, hp, hq, hap⟩
  have bb := hp.below
  replace bel := bel.trans (bb.mono bel.size)
  clear bb
  have sB := hp.below.size
  have kp := hp.seg
  have kq := hq.seg
  have bE : Below wE.heap.size wE wE := Below.refl _ _
  have bb := below_alloc (w := wE) (.cells #[.bool (ng Z), .slice p (ln (am Z)) (ln (am Z)), .slice q (ln V) (ln V)] 27)
  replace kp := kp.later bb
  replace kq := kq.later bb
  replace bel := bel.trans (bb.mono bel.size)
  replace bE := bE.trans (bb.mono bE.size)
  clear bb
  have qp := Blk.new wE #[.bool (ng Z), .slice p (ln (am Z)) (ln (am Z)), .slice q (ln V) (ln V)] 27
  go_wp2_with fail
  obtain ⟨wP, hW⟩ : ∃ W, (wE.alloc (.cells #[.bool (ng Z), .slice p (ln (am Z)) (ln (am Z)), .slice q (ln V) (ln V)] 27)) = W := ⟨_, rfl⟩
  rw [hW] at bel bE kp kq qp ⊢
  clear hW
  have sP := bE.size
  refine (GM.out _ p q kp kq).mono ?_
  rintro e wM ⟨p1, c1, q1, d1, rfl, hc1, hd1, np, nq⟩
  have bb := np.below
  replace kp := kp.later bb
  replace kq := kq.later bb
  replace qp := qp.later bb
  replace bel := bel.trans (bb.mono bel.size)
  replace bE := bE.trans (bb.mono bE.size)
  clear bb
  have sM := bE.size
  have qp_0 := qp.cell 0
  have qp_1 := qp.cell 1
  have qp_2 := qp.cell 2
  simp only [List.getElem?_toArray, List.getElem?_cons_zero, List.getElem?_cons_succ] at qp_0 qp_1 qp_2
  have lqwqp := qp.lt
  have bb := below_alloc (w := wM) (.cells #[.bool (ng Z), .slice p1 (ln (am Z)) c1, .slice q1 (ln V) d1] 27)
  replace kp := kp.later bb
  replace kq := kq.later bb
  replace qp := qp.later bb
  replace np := np.later bb
  replace nq := nq.later bb
  replace bel := bel.trans (bb.mono bel.size)
  replace bE := bE.trans (bb.mono bE.size)
  clear bb
  have qw := Blk.new wM #[.bool (ng Z), .slice p1 (ln (am Z)) c1, .slice q1 (ln V) d1] 27
  go_wp2_with fail
  clear qp_0 qp_1 qp_2
  obtain ⟨wW, hW⟩ : ∃ W, (wM.alloc (.cells #[.bool (ng Z), .slice p1 (ln (am Z)) c1, .slice q1 (ln V) d1] 27)) = W := ⟨_, rfl⟩
  rw [hW] at bel bE kp kq qp np nq qw ⊢
  clear hW
  have sW := bE.size
  refine (OfRat_is (ng Z) p q (ln (am Z)) (ln (am Z)) (ln V) (ln V) _).mono ?_
  rintro e wO ⟨bl, rfl, hbl, qL, b9⟩
  have bb := b9
  replace kp := kp.later bb
  replace kq := kq.later bb
  replace qp := qp.later bb
  replace np := np.later bb
  replace nq := nq.later bb
  replace qw := qw.later bb
  replace bel := bel.trans (bb.mono bel.size)
  replace bE := bE.trans (bb.mono bE.size)
  clear bb
  clear b9
  have sO := bE.size
  obtain ⟨hLs, hfar⟩ := ls_two hp hq hap bE (by omega) qL
  have HLs := hide' hLs
  have HF := hide' hfar
  clear hLs hfar qL
  have hn2 : ∀ i, i < 2 → (fun i : Nat => if i = 0 then ln (am Z) else ln V) i ≤ 1073741824 := fun i hi => by show (if i = 0 then ln (am Z) else ln V) ≤ 1073741824; split <;> omega
  have HS := hide' (spoil_ox w11.heap.size bl 0 2 2 _ _ _ _ (by omega) hn2 (by omega) HLs.out)
  clear HLs
  go_wp2_with fail
  refine HS.out.mono ?_
  rintro e wS ⟨rfl, bx⟩
  replace qw := bx.blk HF.out sM qw
  have kp1 := bx.new HF.out sP np
  have kq1 := bx.new HF.out sP nq
  replace bel := bel.trans (bx.bel.mono hWB)
  clear HS bx HF np nq kp kq qp bE hp hq hap
  go_wp2_with fail
  refine (GE.out _).mono ?_
  rintro e wT ⟨p2, q2, rfl, hp2, hq2, hap2⟩
  have bb := hp2.below
  replace qw := qw.later bb
  replace kp1 := kp1.later bb
  replace kq1 := kq1.later bb
  replace bel := bel.trans (bb.mono bel.size)
  clear bb
  have kp2 := hp2.seg
  have kq2 := hq2.seg
  clear hp2 hq2
  have qw_0 := qw.cell 0
  have qw_1 := qw.cell 1
  have qw_2 := qw.cell 2
  simp only [List.getElem?_toArray, List.getElem?_cons_zero, List.getElem?_cons_succ] at qw_0 qw_1 qw_2
  have lq5qw := qw.lt
  have bb := below_alloc (w := wT) (.cells #[.bool (ng Z), .slice p2 (ln (am Z)) (ln (am Z)), .slice q2 (ln V) (ln V)] 27)
  replace qw := qw.later bb
  replace kp1 := kp1.later bb
  replace kq1 := kq1.later bb
  replace kp2 := kp2.later bb
  replace kq2 := kq2.later bb
  replace bel := bel.trans (bb.mono bel.size)
  clear bb
  have q5 := Blk.new wT #[.bool (ng Z), .slice p2 (ln (am Z)) (ln (am Z)), .slice q2 (ln V) (ln V)] 27
  go_wp2_with fail
  clear qw_0 qw_1 qw_2
  obtain ⟨wU, hW⟩ : ∃ W, (wT.alloc (.cells #[.bool (ng Z), .slice p2 (ln (am Z)) (ln (am Z)), .slice q2 (ln V) (ln V)] 27)) = W := ⟨_, rfl⟩
  rw [hW] at bel qw kp1 kq1 kp2 kq2 q5 ⊢
  clear hW
  refine (GS.out _ p2 q2 p1 q1 c1 d1 kp2 kq2 kp1 kq1).mono ?_
  rintro e w16 ⟨rfl, b10⟩
  have bb := b10
  replace qw := qw.later bb
  replace kp1 := kp1.later bb
  replace kq1 := kq1.later bb
  replace kp2 := kp2.later bb
  replace kq2 := kq2.later bb
  replace q5 := q5.later bb
  replace bel := bel.trans (bb.mono bel.size)
  clear bb
  clear b10
  go_wp2
  go_ret
  exact ⟨rfl, bel⟩
set_option maxRecDepth 100000 in
theorem contract (H : Type) (enc : TypeId × Value → H) (W : World) (base : Nat) (args : Array Value) (ds gs : List (DataW H)) (before : List MemPlace)
    (hval : ∀ (j : Nat) t v, Try.f3.params[j]? = some t → args[j]? = some v → Value.okWide Try.prog W .any base t v)
    (hW : DataW.Whole enc Try.prog Try.f3.params.toList Rows.approxOwnSpec.vars false W args.toList ds gs before)
    (hsz : (DataW.weightsEach Try.prog (Try.f3.params.toList ++ Rows.approxOwnSpec.plain.varTypes Try.prog) (ds ++ gs)).all (· ≤ reachBytes) = true) :
    Calls Try.prog 3 args W fun e W' => ∃ v, e = .returned v ∧ Rows.approxOwnSpec.post enc Try.prog Try.f3 false true false false W args v W' := by
  have hW' := hW
  obtain ⟨p, q, hA0, hV, rfl, hfz, hnd⟩ := hW
  have hA : DataW.TrodAll enc Try.prog W 0 (fun _ => true) true Try.f3.params.toList args.toList ds p := hA0
  rw [Try.params3] at hA hval hsz
  obtain ⟨v0, vs0, d0, ds0, p0, q0, hargs, rfl, rfl, h0, r0⟩ := trodAll_cons hA
  obtain ⟨v1, vs1, d1, ds1, p1, q1, rfl, rfl, rfl, h1, r1⟩ := trodAll_cons r0
  obtain ⟨rfl, rfl, rfl⟩ := trodAll_nil r1
  obtain rfl : args = #[v0, v1] := by cases args; simp_all
  obtain ⟨rfl, rfl⟩ := trodVars_none hV
  have lt0 : ∀ x ∈ p0, x.block < W.heap.size := by obtain ⟨m, hm⟩ := h0; exact DataW.trod_lt m _ _ _ hm
  obtain ⟨rs0, ra0, rn0, rc0, rX0, rb0, rm0, re0, rY0, rfl, hS0, hc0, hb0, hT0, hd0, hk0, hu0, hv0⟩ := open_Rat (hval 0 27 v0 rfl rfl) h0 (sized_at 0 hsz rfl rfl)
  obtain ⟨n1, rfl, rfl, rfl, w1⟩ := open_float Try.underlying28 (hval 1 28 v1 rfl rfl) h1
  have hn1 : n1 < 18446744073709551616 := by simpa [Lit.wf] using w1
  clear hA0
  simp only [List.append_nil] at hW'
  refine (walk rs0 ra0 rn0 rc0 rX0 rb0 rm0 re0 rY0 n1 W hc0 hb0 hS0 hd0 hk0 hT0 hn1).mono fun e W' ⟨he, bel⟩ => ?_
  subst he
  exact ⟨_, rfl, _, _, _, [], _, [], hW', trodAll_mk1 (shut_bool Try.underlying4 _), (trodAll_cons_mk (Below.trod laidOut (by kernel_rfl) (of_decide_eq_true (by kernel_rfl)) h0 bel lt0) (trodAll_cons_mk (shut_float Try.underlying28 w1) trodAll_mk0)), rfl, bel.frame _, fun h => by cases h⟩

set_option maxRecDepth 100000 in
theorem lifted (os : Os) (started : os.Started) (H : Type) (enc : TypeId × Value → H) :
    ReturnsInHanded {} Try.checked os 3 .any (Rows.approxOwnSpec.pre6 enc Try.prog Try.f3 Rows.approxOwnRow.domain false) (Rows.approxOwnSpec.post enc Try.prog Try.f3 false true false false) := by
  refine returnsInHanded_of_change_sized (C := Try.checked) own started (by kernel_rfl) Try.func3
    (ChangeSpec.witness6 (enc := enc) (C := Try.checked) false ⟨#[], #[.agg #[.bool false, .slice none 0 0, .slice none 0 0], .float .f64 0], []⟩ 8 (by kernel_rfl) (by kernel_rfl) (by kernel_rfl) (by kernel_rfl)) ?_
  intro W base args ds gs before hval hW _ hsz _
  exact contract H enc W base args ds gs before hval hW hsz

theorem over : Rows.approxOwnRow.holds Try.pinned (OpenSpec.ofChange Rows.approxOwnSpec) :=
  OpenClaim.holds_of_wide 3 Try.f3 rfl rfl rfl rfl rfl rfl rfl ⟨rfl, rfl, rfl, rfl, rfl⟩ rfl rfl rfl rfl rfl (by kernel_rfl) Try.func3 (by kernel_rfl)
    (of_decide_eq_true (by kernel_rfl)) (by unfold Func.isWrapper; first | (rw [if_pos (by decide +kernel)]; kernel_rfl) | (rw [if_neg (by decide +kernel)]; exact ⟨rfl, rfl⟩))
    (fun os started H enc _ => lifted os started H enc)

end Go.Proofs.Ythecapmdionnmaa.approxOwn
namespace Go.Proofs.Ythecapmdionnmaa
theorem approxOwn_holds : Rows.ApproxOwnSaid := approxOwn.over
#print axioms approxOwn_holds
end Go.Proofs.Ythecapmdionnmaa
