/-
  SexprBack: the walk.
-/
import Derived.Test.YtpfmamimhhnbiaaDoorSPF
namespace Go.Proofs.YtpfmamimhhnbiaaDoor
open Go.RowKit
set_option linter.unusedVariables false
set_option linter.unusedSimpArgs false
theorem prC_zero {n : NdZ} (h : prC n = 0) : dok 1000 n = true ∧ erZ n = 0 ∧ prS n = txZ n := by
  have h2 := h
  unfold prC at h2
  by_cases hd : dok 1000 n = true
  · rw [if_pos hd] at h2
    exact ⟨hd, h2, by unfold prS; rw [if_pos h]⟩
  · rw [if_neg hd] at h2
    exact absurd h2 (by decide)
theorem prC_of {n : NdZ} (h1 : dok 1000 n = true) (h2 : erZ n = 0) : prC n = 0 ∧ prS n = txZ n := by
  have h : prC n = 0 := by unfold prC; rw [if_pos h1]; exact h2
  exact ⟨h, (prC_zero h).2.2⟩
theorem ReadA.one {w w0 : World} {v : Value} {m : Nd} (h : ReadA w w0 v [m]) : ∃ g c ua uc, v = .slice (some ⟨g, 0, none⟩) 1 c ∧ (∀ j, j < 6 → w.cell? ⟨g, j, none⟩ = (m.t.cells)[j]?) ∧ w.cell? ⟨g, 6, none⟩ = some (.slice ua m.kids.length uc) ∧ ∃ P, NdIn w P (.slice ua m.kids.length uc) m.kids := by
  obtain ⟨K, Q, tl, tq⟩ := h
  have hk1 := tl.kn.1
  simp only [List.length_cons, List.length_nil] at hk1
  obtain ⟨g, c, ev, hcc⟩ := own_form tl.own (by omega)
  obtain ⟨k1, k2⟩ := tl.kn.2 0 (by omega) (by simp)
  simp only [List.getElem_cons_zero] at k1 k2
  obtain ⟨ua, uc, eu⟩ := k2.sl
  have own := (ev ▸ tl.own : w.ownsRow w0.heap.size 26 7 (.slice (some ⟨g, 0, none⟩) K.length c) K.length (nvCells K))
  refine ⟨g, c, ua, uc, by rw [ev, hk1], fun j hj => ?_, ?_, Q, eu ▸ k2⟩
  · have h := own.cellAt j (by omega)
    rw [h, show j = 0 * 7 + j by omega, nv_get K 0 j (by omega) (by omega), k1, show 0 * 7 + j = j by omega]
    have : j = 0 ∨ j = 1 ∨ j = 2 ∨ j = 3 ∨ j = 4 ∨ j = 5 := by omega
    rcases this with e | e | e | e | e | e <;> subst e <;> rfl
  · have h := own.cellAt 6 (by omega)
    rw [h, show 6 = 0 * 7 + 6 from rfl, nv_get K 0 6 (by omega) (by omega), ← eu]
    rfl
set_option maxHeartbeats 8000000 in
set_option maxRecDepth 100000 in
theorem back_walk (t : TokZ) {v : Value} {kids : List NdZ} (w : World) (h : ZIn w v kids) (hM : MaxL w) (hmx : mxB < w.heap.size) (hwg : wgZ (.mk t kids) ≤ 1048576) : Calls Tryd.prog 3 #[.agg #[.int .i64 t.k, .string t.t, .int .i64 t.b, .int .i64 t.e, .int .i64 t.l, .int .i64 t.c, v]] w fun r w' => r = .returned (.bool true) ∧ Below w.heap.size w w' := by
  obtain ⟨a, c, ev⟩ := h.sh
  subst ev
  have G1 := hideT (fun W hW => large_is t W (h.on hW) hwg)
  have G2 := hideT (fun W hW => pprint_is t W (h.on hW) (hM.on hW) (Nat.lt_of_lt_of_le hmx hW.size) (by omega))
  obtain ⟨PC, hPC⟩ : ∃ PC, prC (.mk t kids) = PC := ⟨_, rfl⟩
  obtain ⟨s, hs⟩ : ∃ s, (⟨(prS (.mk t kids)).toArray⟩ : ByteArray) = s := ⟨_, rfl⟩
  rw [hPC, hs] at G2
  have HPC := hideT hPC
  have HS := hideT hs
  have HH := hideT (And.intro h (And.intro hM (And.intro hmx hwg)))
  clear hPC hs h hwg
  have hB := below_alloc (w := w) (.cells #[.int .i64 t.k, .string t.t, .int .i64 t.b, .int .i64 t.e, .int .i64 t.l, .int .i64 t.c, .slice a kids.length c] 26)
  have qA := Blk.new w #[.int .i64 t.k, .string t.t, .int .i64 t.b, .int .i64 t.e, .int .i64 t.l, .int .i64 t.c, .slice a kids.length c] 26
  go_enter Tryd.func3, Tryd.ntmps3
  go_upto_region 1 with fail
  generalize w.alloc (.cells #[.int .i64 t.k, .string t.t, .int .i64 t.b, .int .i64 t.e, .int .i64 t.l, .int .i64 t.c, .slice a kids.length c] 26) = W at hB qA ⊢
  have x0 := qA.cell 0
  have x1 := qA.cell 1
  have x2 := qA.cell 2
  have x3 := qA.cell 3
  have x4 := qA.cell 4
  have x5 := qA.cell 5
  have x6 := qA.cell 6
  simp only [List.getElem?_toArray, List.getElem?_cons_zero, List.getElem?_cons_succ] at x0 x1 x2 x3 x4 x5 x6
  go_wp2_with fail
  refine (G1.out _ hB).mono ?_
  rintro e wa ⟨rfl, ba⟩
  replace qA := qA.later ba
  replace hB := hB.trans (ba.mono hB.size)
  clear ba x0 x1 x2 x3 x4 x5 x6
  have x0 := qA.cell 0
  have x1 := qA.cell 1
  have x2 := qA.cell 2
  have x3 := qA.cell 3
  have x4 := qA.cell 4
  have x5 := qA.cell 5
  have x6 := qA.cell 6
  simp only [List.getElem?_toArray, List.getElem?_cons_zero, List.getElem?_cons_succ] at x0 x1 x2 x3 x4 x5 x6
  go_wp2_with fail
  refine (G2.out _ hB).mono ?_
  rintro e wa ⟨rfl, ba⟩
  replace qA := qA.later ba
  replace hB := hB.trans (ba.mono hB.size)
  clear ba x0 x1 x2 x3 x4 x5 x6
  have x0 := qA.cell 0
  have x1 := qA.cell 1
  have x2 := qA.cell 2
  have x3 := qA.cell 3
  have x4 := qA.cell 4
  have x5 := qA.cell 5
  have x6 := qA.cell 6
  simp only [List.getElem?_toArray, List.getElem?_cons_zero, List.getElem?_cons_succ] at x0 x1 x2 x3 x4 x5 x6
  have GL := hideT (lives_is wa (hM.on hB) (Nat.lt_of_lt_of_le hmx hB.size))
  go_wp2_with fail
  refine GL.out.mono ?_
  clear GL
  rintro e wa ⟨rfl, ba⟩
  replace qA := qA.later ba
  replace hB := hB.trans (ba.mono hB.size)
  clear ba x0 x1 x2 x3 x4 x5 x6
  have x0 := qA.cell 0
  have x1 := qA.cell 1
  have x2 := qA.cell 2
  have x3 := qA.cell 3
  have x4 := qA.cell 4
  have x5 := qA.cell 5
  have x6 := qA.cell 6
  simp only [List.getElem?_toArray, List.getElem?_cons_zero, List.getElem?_cons_succ] at x0 x1 x2 x3 x4 x5 x6
  by_cases hz : PC = 0
  rotate_left
  · have yc : (PC != 0) = true := by simp [hz]
    have hse : s = ⟨#[]⟩ := by rw [← HS.out]; unfold prS; rw [HPC.out, if_neg hz]
    subst hse
    clear hz
    go_wp2
    go_ret
    exact ⟨by first | rfl | simp, hB⟩
  subst hz
  obtain ⟨hh, hM, hmx, hwg⟩ := HH.out
  obtain ⟨hd, her, htx⟩ := prC_zero HPC.out
  obtain ⟨m, hrd, hrz⟩ := read_print _ her hd
  have hsl : s.data.toList = txZ (.mk t kids) := by rw [← HS.out, htx]
  have hsz : s.size ≤ 400000000 := by have h1 := tx_wg (.mk t kids); rw [← hsl, Array.length_toList] at h1; show s.data.size ≤ _; omega
  have GR := hideT (read_is s wa hsz (hM.on hB) (Nat.lt_of_lt_of_le hmx hB.size))
  rw [hsl, readG_F, hrd] at GR
  simp only at GR
  have RS := hideT (rd_same _ _ hrz)
  have HX := hideT (And.intro htx (And.intro hd her))
  clear hrd hrz hsl hsz htx hd her hh hM hmx hwg
  go_wp2_with fail
  refine GR.out.mono ?_
  rintro e w4 ⟨v4, rfl, ra, b4⟩
  clear GR
  replace qA := qA.later b4
  replace hB := hB.trans (b4.mono hB.size)
  clear b4 x0 x1 x2 x3 x4 x5 x6
  have x0 := qA.cell 0
  have x1 := qA.cell 1
  have x2 := qA.cell 2
  have x3 := qA.cell 3
  have x4 := qA.cell 4
  have x5 := qA.cell 5
  have x6 := qA.cell 6
  simp only [List.getElem?_toArray, List.getElem?_cons_zero, List.getElem?_cons_succ] at x0 x1 x2 x3 x4 x5 x6
  obtain ⟨g, c4, ua, uc, ev4, aj, a6, P, hnd⟩ := ra.one
  subst ev4
  clear ra
  obtain ⟨T, hT⟩ : ∃ T, toT m.t = T := ⟨_, rfl⟩
  have a0 := aj 0 (by decide)
  have a1 := aj 1 (by decide)
  have a2 := aj 2 (by decide)
  have a3 := aj 3 (by decide)
  have a4 := aj 4 (by decide)
  have a5 := aj 5 (by decide)
  rw [← toT_cells, hT] at a0 a1 a2 a3 a4 a5
  simp only [TokZ.cells, List.getElem?_cons_zero, List.getElem?_cons_succ] at a0 a1 a2 a3 a4 a5
  have Z4 := hnd.toZ
  have h4 := HH.out.1.on hB
  have hmz : toZ m = .mk T (toZL m.kids) := by rw [toZ_eq, hT]
  have hsm := RS.out.1
  rw [hmz] at hsm
  have GS1 := hideT (fun W hW => psame Z4 h4 T t W hW)
  have GS2 := hideT (fun W hW => rsame Z4 h4 T t W hW)
  rw [hsm] at GS1 GS2
  have hq := same_all _ _ hsm
  have hpc := prC_of (n := .mk T (toZL m.kids)) ((hq.2.2 1000).trans HX.out.2.1) (hq.2.1.trans HX.out.2.2)
  have GP := hideT (fun W hW => pprint_is T W (Z4.on hW) ((HH.out.2.1.on hB).on hW) (Nat.lt_of_lt_of_le HH.out.2.2.1 (Nat.le_trans hB.size hW.size)) (by have h1 := RS.out.2; rw [hmz] at h1; have := HH.out.2.2.2; omega))
  rw [hpc.1, hpc.2, hq.1, ← HX.out.1, HS.out] at GP
  clear hpc hq hsm hmz hT aj hnd Z4 h4 RS HX
  generalize m.kids.length = ml at a6 GS1 GS2 GP
  go_wp2_with fail
  have b4 := Below.refl w4.heap.size w4
  have bD : Below w4.heap.size w4 w4.drew := (Below.refl _ _).drew
  have kx0 := below_cell bD x0
  have kx1 := below_cell bD x1
  have kx2 := below_cell bD x2
  have kx3 := below_cell bD x3
  have kx4 := below_cell bD x4
  have kx5 := below_cell bD x5
  have kx6 := below_cell bD x6
  have ka0 := below_cell bD a0
  have ka1 := below_cell bD a1
  have ka2 := below_cell bD a2
  have ka3 := below_cell bD a3
  have ka4 := below_cell bD a4
  have ka5 := below_cell bD a5
  have ka6 := below_cell bD a6
  replace hB := hB.trans (bD.mono hB.size)
  replace b4 := b4.trans (bD.mono b4.size)
  replace qA := qA.later bD
  refine wp_region_held_drew (S := fun w' => w'.cell? ⟨w.heap.size, 0, none⟩ = some (.int .i64 t.k) ∧ w'.cell? ⟨w.heap.size, 1, none⟩ = some (.string t.t) ∧ w'.cell? ⟨w.heap.size, 2, none⟩ = some (.int .i64 t.b) ∧ w'.cell? ⟨w.heap.size, 3, none⟩ = some (.int .i64 t.e) ∧ w'.cell? ⟨w.heap.size, 4, none⟩ = some (.int .i64 t.l) ∧ w'.cell? ⟨w.heap.size, 5, none⟩ = some (.int .i64 t.c) ∧ w'.cell? ⟨w.heap.size, 6, none⟩ = some (.slice a kids.length c) ∧ w'.cell? ⟨g, 0, none⟩ = some (.int .i64 T.k) ∧ w'.cell? ⟨g, 1, none⟩ = some (.string T.t) ∧ w'.cell? ⟨g, 2, none⟩ = some (.int .i64 T.b) ∧ w'.cell? ⟨g, 3, none⟩ = some (.int .i64 T.e) ∧ w'.cell? ⟨g, 4, none⟩ = some (.int .i64 T.l) ∧ w'.cell? ⟨g, 5, none⟩ = some (.int .i64 T.c) ∧ w'.cell? ⟨g, 6, none⟩ = some (.slice ua ml uc)) (by kernel_rfl) ⟨kx0, kx1, kx2, kx3, kx4, kx5, kx6, ka0, ka1, ka2, ka3, ka4, ka5, ka6⟩ (fun hHeld => ?_)
  clear kx0 kx1 kx2 kx3 kx4 kx5 kx6 ka0 ka1 ka2 ka3 ka4 ka5 ka6
  generalize w4.drew = w0 at bD qA hB b4 hHeld ⊢
  clear x0 x1 x2 x3 x4 x5 x6 a0 a1 a2 a3 a4 a5 a6
  refine take' 0 (v := ?_) rfl (by kernel_rfl) (by kernel_rfl) (by kernel_rfl) (fun _ _ _ h => h) (Or.inl ⟨by rfl, ?_⟩) (by assumption) ?_
  rotate_left
  · intro w9 hSw
    go_simp
    first | done | with_reducible rfl
  simp only [Act.put, List.setIfInBounds_toArray, List.set_cons_zero, List.set_cons_succ]
  refine take' 1 (v := ?_) rfl (by kernel_rfl) (by kernel_rfl) (by kernel_rfl) (fun _ _ _ h => h) (Or.inl ⟨by rfl, ?_⟩) (by assumption) ?_
  rotate_left
  · intro w9 hSw
    go_simp
    first | done | with_reducible rfl
  simp only [Act.put, List.setIfInBounds_toArray, List.set_cons_zero, List.set_cons_succ]
  refine take' 2 (v := ?_) rfl (by kernel_rfl) (by kernel_rfl) (by kernel_rfl) (fun _ _ _ h => h) (Or.inl ⟨by rfl, ?_⟩) (by assumption) ?_
  rotate_left
  · intro w9 hSw
    go_simp
    first | done | with_reducible rfl
  simp only [Act.put, List.setIfInBounds_toArray, List.set_cons_zero, List.set_cons_succ]
  refine take' 3 (v := ?_) rfl (by kernel_rfl) (by kernel_rfl) (by kernel_rfl) (fun _ _ _ h => h) (Or.inl ⟨by rfl, ?_⟩) (by assumption) ?_
  rotate_left
  · intro w9 hSw
    go_simp
    first | done | with_reducible rfl
  simp only [Act.put, List.setIfInBounds_toArray, List.set_cons_zero, List.set_cons_succ]
  refine take' 4 (v := ?_) rfl (by kernel_rfl) (by kernel_rfl) (by kernel_rfl) (fun _ _ _ h => h) (Or.inl ⟨by rfl, ?_⟩) (by assumption) ?_
  rotate_left
  · intro w9 hSw
    go_simp
    first | done | with_reducible rfl
  simp only [Act.put, List.setIfInBounds_toArray, List.set_cons_zero, List.set_cons_succ]
  refine take' 5 (v := ?_) rfl (by kernel_rfl) (by kernel_rfl) (by kernel_rfl) (fun _ _ _ h => h) (Or.inl ⟨by rfl, ?_⟩) (by assumption) ?_
  rotate_left
  · intro w9 hSw
    go_simp
    first | done | with_reducible rfl
  simp only [Act.put, List.setIfInBounds_toArray, List.set_cons_zero, List.set_cons_succ]
  refine take' 6 (v := ?_) rfl (by kernel_rfl) (by kernel_rfl) (by kernel_rfl) (fun _ _ _ h => h) (Or.inl ⟨by rfl, ?_⟩) (by assumption) ?_
  rotate_left
  · intro w9 hSw
    go_simp
    first | done | with_reducible rfl
  simp only [Act.put, List.setIfInBounds_toArray, List.set_cons_zero, List.set_cons_succ]
  refine take' 7 (v := ?_) rfl (by kernel_rfl) (by kernel_rfl) (by kernel_rfl) (fun _ _ _ h => h) (Or.inl ⟨by rfl, ?_⟩) (by assumption) ?_
  rotate_left
  · intro w9 hSw
    go_simp
    first | done | with_reducible rfl
  simp only [Act.put, List.setIfInBounds_toArray, List.set_cons_zero, List.set_cons_succ]
  refine take' 8 (v := ?_) rfl (by kernel_rfl) (by kernel_rfl) (by kernel_rfl) (fun _ _ _ h => h) (Or.inl ⟨by rfl, ?_⟩) (by assumption) ?_
  rotate_left
  · intro w9 hSw
    go_simp
    first | done | with_reducible rfl
  simp only [Act.put, List.setIfInBounds_toArray, List.set_cons_zero, List.set_cons_succ]
  refine take' 9 (v := ?_) rfl (by kernel_rfl) (by kernel_rfl) (by kernel_rfl) (fun _ _ _ h => h) (Or.inl ⟨by rfl, ?_⟩) (by assumption) ?_
  rotate_left
  · intro w9 hSw
    go_simp
    first | done | with_reducible rfl
  simp only [Act.put, List.setIfInBounds_toArray, List.set_cons_zero, List.set_cons_succ]
  refine take' 10 (v := ?_) rfl (by kernel_rfl) (by kernel_rfl) (by kernel_rfl) (fun _ _ _ h => h) (Or.inl ⟨by rfl, ?_⟩) (by assumption) ?_
  rotate_left
  · intro w9 hSw
    go_simp
    first | done | with_reducible rfl
  simp only [Act.put, List.setIfInBounds_toArray, List.set_cons_zero, List.set_cons_succ]
  refine take' 11 (v := ?_) rfl (by kernel_rfl) (by kernel_rfl) (by kernel_rfl) (fun _ _ _ h => h) (Or.inl ⟨by rfl, ?_⟩) (by assumption) ?_
  rotate_left
  · intro w9 hSw
    go_simp
    first | done | with_reducible rfl
  simp only [Act.put, List.setIfInBounds_toArray, List.set_cons_zero, List.set_cons_succ]
  refine wpAnyH_ready (rs := [12]) (by kernel_rfl) (by simp) ?_
  refine cons' rfl (fun KK hKK => ?_)
  go_simp
  refine (GS1.out _ b4).mono ?_
  rintro e w5 ⟨rfl, b5⟩
  replace hB := hB.trans (b5.mono hB.size)
  replace b4 := b4.trans (b5.mono b4.size)
  replace qA := qA.later b5
  replace hHeld := (⟨below_cell b5 hHeld.1, below_cell b5 hHeld.2.1, below_cell b5 hHeld.2.2.1, below_cell b5 hHeld.2.2.2.1, below_cell b5 hHeld.2.2.2.2.1, below_cell b5 hHeld.2.2.2.2.2.1, below_cell b5 hHeld.2.2.2.2.2.2.1, below_cell b5 hHeld.2.2.2.2.2.2.2.1, below_cell b5 hHeld.2.2.2.2.2.2.2.2.1, below_cell b5 hHeld.2.2.2.2.2.2.2.2.2.1, below_cell b5 hHeld.2.2.2.2.2.2.2.2.2.2.1, below_cell b5 hHeld.2.2.2.2.2.2.2.2.2.2.2.1, below_cell b5 hHeld.2.2.2.2.2.2.2.2.2.2.2.2.1, below_cell b5 hHeld.2.2.2.2.2.2.2.2.2.2.2.2.2⟩ : _ ∧ _ ∧ _ ∧ _ ∧ _ ∧ _ ∧ _ ∧ _ ∧ _ ∧ _ ∧ _ ∧ _ ∧ _ ∧ _)
  clear b5
  go_wp2_with fail
  refine hKK.out _ _ hHeld ?_
  clear hHeld
  intro hHeld
  clear hKK KK
  try simp only [Act.put, List.setIfInBounds_toArray, List.set_cons_zero, List.set_cons_succ]
  refine take' 13 (v := ?_) rfl (by kernel_rfl) (by kernel_rfl) (by kernel_rfl) (fun _ _ _ h => h) (Or.inl ⟨by rfl, ?_⟩) (by assumption) ?_
  rotate_left
  · intro w9 hSw
    go_simp
    first | done | with_reducible rfl
  simp only [Act.put, List.setIfInBounds_toArray, List.set_cons_zero, List.set_cons_succ]
  refine take' 14 (v := ?_) rfl (by kernel_rfl) (by kernel_rfl) (by kernel_rfl) (fun _ _ _ h => h) (Or.inl ⟨by rfl, ?_⟩) (by assumption) ?_
  rotate_left
  · intro w9 hSw
    go_simp
    first | done | with_reducible rfl
  simp only [Act.put, List.setIfInBounds_toArray, List.set_cons_zero, List.set_cons_succ]
  refine take' 15 (v := ?_) rfl (by kernel_rfl) (by kernel_rfl) (by kernel_rfl) (fun _ _ _ h => h) (Or.inl ⟨by rfl, ?_⟩) (by assumption) ?_
  rotate_left
  · intro w9 hSw
    go_simp
    first | done | with_reducible rfl
  simp only [Act.put, List.setIfInBounds_toArray, List.set_cons_zero, List.set_cons_succ]
  refine take' 16 (v := ?_) rfl (by kernel_rfl) (by kernel_rfl) (by kernel_rfl) (fun _ _ _ h => h) (Or.inl ⟨by rfl, ?_⟩) (by assumption) ?_
  rotate_left
  · intro w9 hSw
    go_simp
    first | done | with_reducible rfl
  simp only [Act.put, List.setIfInBounds_toArray, List.set_cons_zero, List.set_cons_succ]
  refine take' 17 (v := ?_) rfl (by kernel_rfl) (by kernel_rfl) (by kernel_rfl) (fun _ _ _ h => h) (Or.inl ⟨by rfl, ?_⟩) (by assumption) ?_
  rotate_left
  · intro w9 hSw
    go_simp
    first | done | with_reducible rfl
  simp only [Act.put, List.setIfInBounds_toArray, List.set_cons_zero, List.set_cons_succ]
  refine take' 18 (v := ?_) rfl (by kernel_rfl) (by kernel_rfl) (by kernel_rfl) (fun _ _ _ h => h) (Or.inl ⟨by rfl, ?_⟩) (by assumption) ?_
  rotate_left
  · intro w9 hSw
    go_simp
    first | done | with_reducible rfl
  simp only [Act.put, List.setIfInBounds_toArray, List.set_cons_zero, List.set_cons_succ]
  refine take' 19 (v := ?_) rfl (by kernel_rfl) (by kernel_rfl) (by kernel_rfl) (fun _ _ _ h => h) (Or.inl ⟨by rfl, ?_⟩) (by assumption) ?_
  rotate_left
  · intro w9 hSw
    go_simp
    first | done | with_reducible rfl
  simp only [Act.put, List.setIfInBounds_toArray, List.set_cons_zero, List.set_cons_succ]
  refine wpAnyH_ready (rs := [20]) (by kernel_rfl) (by simp) ?_
  refine cons' rfl (fun KK hKK => ?_)
  go_simp
  refine (GS2.out _ b4).mono ?_
  rintro e w6 ⟨rfl, b6⟩
  replace hB := hB.trans (b6.mono hB.size)
  replace b4 := b4.trans (b6.mono b4.size)
  replace qA := qA.later b6
  replace hHeld := (⟨below_cell b6 hHeld.1, below_cell b6 hHeld.2.1, below_cell b6 hHeld.2.2.1, below_cell b6 hHeld.2.2.2.1, below_cell b6 hHeld.2.2.2.2.1, below_cell b6 hHeld.2.2.2.2.2.1, below_cell b6 hHeld.2.2.2.2.2.2.1, below_cell b6 hHeld.2.2.2.2.2.2.2.1, below_cell b6 hHeld.2.2.2.2.2.2.2.2.1, below_cell b6 hHeld.2.2.2.2.2.2.2.2.2.1, below_cell b6 hHeld.2.2.2.2.2.2.2.2.2.2.1, below_cell b6 hHeld.2.2.2.2.2.2.2.2.2.2.2.1, below_cell b6 hHeld.2.2.2.2.2.2.2.2.2.2.2.2.1, below_cell b6 hHeld.2.2.2.2.2.2.2.2.2.2.2.2.2⟩ : _ ∧ _ ∧ _ ∧ _ ∧ _ ∧ _ ∧ _ ∧ _ ∧ _ ∧ _ ∧ _ ∧ _ ∧ _ ∧ _)
  clear b6
  go_wp2_with fail
  refine hKK.out _ _ hHeld ?_
  clear hHeld
  intro hHeld
  clear hKK KK
  try simp only [Act.put, List.setIfInBounds_toArray, List.set_cons_zero, List.set_cons_succ]
  refine take' 21 (v := ?_) rfl (by kernel_rfl) (by kernel_rfl) (by kernel_rfl) (fun _ _ _ h => h) (Or.inl ⟨by rfl, ?_⟩) (by assumption) ?_
  rotate_left
  · intro w9 hSw
    go_simp
    first | done | with_reducible rfl
  simp only [Act.put, List.setIfInBounds_toArray, List.set_cons_zero, List.set_cons_succ]
  refine take' 22 (v := ?_) rfl (by kernel_rfl) (by kernel_rfl) (by kernel_rfl) (fun _ _ _ h => h) (Or.inl ⟨by rfl, ?_⟩) (by assumption) ?_
  rotate_left
  · intro w9 hSw
    go_simp
    first | done | with_reducible rfl
  simp only [Act.put, List.setIfInBounds_toArray, List.set_cons_zero, List.set_cons_succ]
  refine wpAnyH_done (by kernel_rfl) ?_ _
  obtain ⟨x0, x1, x2, x3, x4, x5, x6, a0, a1, a2, a3, a4, a5, a6⟩ := hHeld
  have hss : (s.toList == s.toList) = true := by simp
  go_wp2_with fail
  refine (GP.out _ b4).mono ?_
  rintro e w7 ⟨rfl, b7⟩
  go_wp2
  go_ret
  exact ⟨by first | rfl | simp, hB.trans (b7.mono hB.size)⟩

end Go.Proofs.YtpfmamimhhnbiaaDoor
