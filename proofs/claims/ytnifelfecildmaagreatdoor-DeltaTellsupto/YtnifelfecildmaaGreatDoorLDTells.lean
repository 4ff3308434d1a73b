/-
  DeltaTells.
-/
import Derived.Test.YtnifelfecildmaaGreatDoorWV8
import Derived.Test.YtnifelfecildmaaGreatDoorWG9
import Derived.Test.YtnifelfecildmaaGreatDoorOpenT
import Derived.Test.YtnifelfecildmaaGreatDoorOpenD
import Derived.Test.YtnifelfecildmaaGreatDoorCards
import Derived.Test.YtnifelfecildmaaGreatDoorTie
import Derived.Deep.DeepHandedRow
import Derived.Lib.LaidTab
namespace Go.Proofs.YtnifelfecildmaaGreatDoor.deltaTells
open Go.ChangeShapes Go.WideShapes Go.ChangeAt Go.RowKit Go.Proofs.YtnifelfecildmaaGreatDoor
set_option linter.unusedVariables false
set_option linter.unusedSimpArgs false

theorem seg_oneT {w : World} {b X : Nat} (h : w.cell? ⟨b, 0, none⟩ = some (.int .u32 (X : Int))) (hX : X < 4294967296) : Seg w (some ⟨b, 0, none⟩) X 1 := by
  refine ⟨by rw [Nat.pow_one, BB_eq]; exact hX, fun _ => ⟨b, 0, rfl, World.block_lt_of_cell? w ⟨b, 0, none⟩ h, fun i hi => ?_⟩⟩
  obtain rfl : i = 0 := by omega
  have e : dg X 0 = X := by unfold dg; rw [Nat.pow_zero, Nat.div_one, BB_eq]; omega
  rw [e]
  exact h
set_option maxHeartbeats 16000000 in
set_option maxRecDepth 100000 in
theorem walkM (x y : DelV) (u v : Nat) (w : World) (hx : x.ok w) (hy : y.ok w) (kx : x.tiny) (ky : y.tiny) (hu : u < 4294967296) (hv : v < 4294967296) (hDg : Digits w) :
    Calls Tryz.prog 6 #[.agg #[.bool x.a.s, .slice x.a.a x.a.n x.a.c, .slice x.a.b x.a.m x.a.e, .bool x.b.s, .slice x.b.a x.b.n x.b.c, .slice x.b.b x.b.m x.b.e, .bool y.a.s, .slice y.a.a y.a.n y.a.c, .slice y.a.b y.a.m y.a.e, .bool y.b.s, .slice y.b.a y.b.n y.b.c, .slice y.b.b y.b.m y.b.e], .agg #[.int .u32 (u : Int), .int .u32 (v : Int)]] w fun e w' => e = .returned (.bool true) ∧ Below w.heap.size w w' := by
  have GT1 := hide' (fun w' (hb : Below w.heap.size w w') => twinD x w' (hx.on hb))
  have GT2 := hide' (fun w' (hb : Below w.heap.size w w') => twinD y w' (hy.on hb))
  have GM := hide' (fun w' p q r t p1 q1 r1 t1 (h1 : (twD x p q r t).ok w') (h2 : (twD y p1 q1 r1 t1).ok w') => show Calls Tryz.prog 20 #[.agg #[.bool x.a.s, .slice p x.a.n x.a.n, .slice q x.a.m x.a.m, .bool x.b.s, .slice r x.b.n x.b.n, .slice t x.b.m x.b.m], .agg #[.bool y.a.s, .slice p1 y.a.n y.a.n, .slice q1 y.a.m y.a.m, .bool y.b.s, .slice r1 y.b.n y.b.n, .slice t1 y.b.m y.b.m]] w' (fun e w1 => e = .returned (.int .i64 (cmpD x.val y.val)) ∧ Below w'.heap.size w' w1) from cmpDq (twD x p q r t) (twD y p1 q1 r1 t1) w' h1 h2 kx.short ky.short)
  have GL := hide' (fun w' (hb : Below w.heap.size w w') => lives_is w' (hDg.below hb))
  have hq9 : u % (v + 2) ≤ v + 1 := by have := Nat.mod_lt u (show 0 < v + 2 by omega); omega
  obtain ⟨qa, qb⟩ := part_in (u % (v + 2)) v hq9
  obtain ⟨Q, hQ⟩ : ∃ Q, Rat.divInt ((u % (v + 2) : Nat) : Int) ((v + 1 : Nat) : Int) = Q := ⟨_, rfl⟩
  rw [hQ] at qa qb
  have sQ : sz 3 Q := by
    rw [← hQ]
    exact ln1 (low_of (by omega) rfl) (i := 2) (j := 2) (by rw [am_nat, BB_eq]; omega) (by rw [am_nat, BB_eq]; omega) (by omega) (by omega)
  have sh : sz 3 (1 / 2 : Rat) := by
    rw [show (1 / 2 : Rat) = Rat.divInt 1 2 by rw [Rat.divInt_eq_div]; simp]
    exact ln1 (low_of (by omega) rfl) (i := 1) (j := 1) (by show (1 : Nat) < _; rw [BB_eq]; omega) (by show (2 : Nat) < _; rw [BB_eq]; omega) (by omega) (by omega)
  have GG := hide' (fun (g : GapV) w' b (h : GapsAt w' (some ⟨b, 0, none⟩) 1 (fun _ => g)) (hg : g.ok w') (hk : g.tiny) => gaps_is (some ⟨b, 0, none⟩) 1 1 (fun _ => g) w' h (fun i hi => ⟨hg, hk⟩) (Nat.le_refl _) (by omega))
  have GS := hide' (fun (g : GapV) (hnb : ¬ badG g.val) w' a' k' (hA' : GapsAt w' a' 1 k') (h' : ∀ i, i < 1 → (k' i).ok w' ∧ (k' i).tiny ∧ (k' i).val = g.val) => show Calls Tryz.prog 7 #[.slice a' 1 1] w' (fun e w1 => ∃ p q, e = .returned (.tuple #[.agg #[.bool (ng (smallG [g.val]).num), .slice p (ln (am (smallG [g.val]).num)) (ln (am (smallG [g.val]).num)), .slice q (ln (smallG [g.val]).den) (ln (smallG [g.val]).den)], .int .i64 0]) ∧ Below w'.heap.size w' w1 ∧ (nR (smallG [g.val]) p q).ok w1) by
    have h := Small_is a' 1 1 k' w' hA' (fun i hi => ⟨(h' i hi).1, (h' i hi).2.1⟩) (Nat.le_refl _) (by omega)
    rw [show gl k' 1 = [g.val] by rw [← (h' 0 (by omega)).2.2]; rfl] at h
    refine h.mono ?_
    rintro e w1 (⟨h1, h2⟩ | ⟨⟨i, hi, h1⟩, h2⟩)
    · exact h2
    · exact absurd h1 (by rw [(h' i hi).2.2]; exact hnb))
  have SZ := hide' (fun (g : GapV) (hg : g.ok w) (hk : g.tiny) => show sz 8388622 (smallG [g.val]) from small_sz (k := fun _ => g) (w := w) 1 fun i hi => ⟨hg, hk⟩)
  have GP := hide' (fun (S : Rat) (sS : sz 8388622 S) w' p q (h9 : (nR S p q).ok w') => show Calls Tryz.prog 17 #[.agg #[.bool (ng S.num), .slice p (ln (am S.num)) (ln (am S.num)), .slice q (ln S.den) (ln S.den)], .int .u32 (u : Int), .int .u32 (v : Int)] w' (QA w' (S * Q)) by have h := part_is (nR S p q) u v w' h9 ⟨Nat.le_trans sS.1 (by omega), Nat.le_trans sS.2 (by omega)⟩ hu hv; rw [nR_val, hQ] at h; exact h)
  have GH := hide' (fun (S : Rat) (sS : sz 8388622 S) w' p q pa pb (h9 : (nR (S * Q) p q).ok w') (k1 : Seg w' (some ⟨pa, 0, none⟩) 1 1) (k2 : Seg w' (some ⟨pb, 0, none⟩) 2 1) => vmulQ (nR (S * Q) p q) ⟨false, some ⟨pa, 0, none⟩, 1, 1, 1, some ⟨pb, 0, none⟩, 1, 1, 2⟩ (S * Q * (1 / 2)) w' h9 ⟨k1, Nat.le_refl _, by show (1 : Nat) ≤ _; omega, k2, Nat.le_refl _, by show (1 : Nat) ≤ _; omega⟩ ⟨Nat.le_trans (sz_mulY sS sQ).1 (by omega), Nat.le_trans (sz_mulY sS sQ).2 (by omega), by show (1 : Nat) ≤ _; omega, by show (1 : Nat) ≤ _; omega⟩ (by rw [nR_val, half_val]) ((sz_mulY (sz_mulY sS sQ) sh).mono (by omega)))
  have ZT := hide' (fun (S : Rat) (sS : sz 8388622 S) => show sz 20000000 (S * Q * (1 / 2)) from (sz_mulY (sz_mulY sS sQ) sh).mono (by omega))
  have GN := hide' (fun (T : Rat) w' p q (h9 : (nR T p q).ok w') => show Calls Tryz.prog 14 #[.agg #[.bool (ng T.num), .slice p (ln (am T.num)) (ln (am T.num)), .slice q (ln T.den) (ln T.den)]] w' (fun e w1 => e = .returned (.int .i64 (sR T)) ∧ Below w'.heap.size w' w1) from vsignQ (nR T p q) w' h9 _ (by rw [nR_val]))
  have GA1 := hide' (fun (T : Rat) (sT : sz 20000000 T) w' p q r t p1 q1 (h1 : (twD x p q r t).ok w') (h2 : (nR T p1 q1).ok w') => show Calls Tryz.prog 23 #[.agg #[.bool x.a.s, .slice p x.a.n x.a.n, .slice q x.a.m x.a.m, .bool x.b.s, .slice r x.b.n x.b.n, .slice t x.b.m x.b.m], .agg #[.bool (ng T.num), .slice p1 (ln (am T.num)) (ln (am T.num)), .slice q1 (ln T.den) (ln T.den)]] w' (QA w' (atR x.val T)) from atQ (twD x p q r t) (nR T p1 q1) (atR x.val T) w' h1 h2 kx ⟨Nat.le_trans sT.1 (by omega), Nat.le_trans sT.2 (by omega)⟩ (by rw [nR_val]; rfl) ((at_sz hx kx sT).mono (by omega)))
  have GA2 := hide' (fun (T : Rat) (sT : sz 20000000 T) w' p q r t p1 q1 (h1 : (twD y p q r t).ok w') (h2 : (nR T p1 q1).ok w') => show Calls Tryz.prog 23 #[.agg #[.bool y.a.s, .slice p y.a.n y.a.n, .slice q y.a.m y.a.m, .bool y.b.s, .slice r y.b.n y.b.n, .slice t y.b.m y.b.m], .agg #[.bool (ng T.num), .slice p1 (ln (am T.num)) (ln (am T.num)), .slice q1 (ln T.den) (ln T.den)]] w' (QA w' (atR y.val T)) from atQ (twD y p q r t) (nR T p1 q1) (atR y.val T) w' h1 h2 ky ⟨Nat.le_trans sT.1 (by omega), Nat.le_trans sT.2 (by omega)⟩ (by rw [nR_val]; rfl) ((at_sz hy ky sT).mono (by omega)))
  have GC := hide' (fun (T : Rat) (sT : sz 20000000 T) w' p q p1 q1 (h9 : (nR (atR x.val T) p q).ok w') (h8 : (nR (atR y.val T) p1 q1).ok w') => show Calls Tryz.prog 15 #[.agg #[.bool (ng (atR x.val T).num), .slice p (ln (am (atR x.val T).num)) (ln (am (atR x.val T).num)), .slice q (ln (atR x.val T).den) (ln (atR x.val T).den)], .agg #[.bool (ng (atR y.val T).num), .slice p1 (ln (am (atR y.val T).num)) (ln (am (atR y.val T).num)), .slice q1 (ln (atR y.val T).den) (ln (atR y.val T).den)]] w' (fun e w1 => e = .returned (.int .i64 (sR (atR x.val T - atR y.val T))) ∧ Below w'.heap.size w' w1) from vcmpQ (nR (atR x.val T) p q) (nR (atR y.val T) p1 q1) w' h9 h8 ⟨Nat.le_trans (at_sz hx kx sT).1 (by omega), Nat.le_trans (at_sz hx kx sT).2 (by omega), Nat.le_trans (at_sz hy ky sT).1 (by omega), Nat.le_trans (at_sz hy ky sT).2 (by omega)⟩ _ (by rw [nR_val, nR_val]))
  have OR := hide' (fun (lo hi : DelV) (he : (lo, hi) = (if 0 < cmpD x.val y.val then (y, x) else (x, y))) => show ¬ badG (GapV.mk lo hi).val ∧ (∀ T, 0 < T → T < smallG [(GapV.mk lo hi).val] → sR (atR x.val T - atR y.val T) = cmpD x.val y.val) ∧ 0 < smallG [(GapV.mk lo hi).val] by
    have h0 : ¬ badG (GapV.mk lo hi).val := by
      show ¬ ltD hi.val lo.val
      split at he <;> rename_i hc <;> simp only [Prod.mk.injEq] at he <;> obtain ⟨f1, f2⟩ := he <;> rw [f1, f2]
      · have h1 := (cmpD_gt x.val y.val).1 hc
        exact fun h2 => ltD.irrefl (h1.trans h2)
      · exact fun h2 => hc ((cmpD_gt x.val y.val).2 h2)
    refine ⟨h0, fun T hT hl => order_at hT fun lo' hi' he' => ?_, small_pos fun g hg => by rw [List.mem_singleton.1 hg]; exact h0⟩
    have e9 : (lo', hi') = (GapV.mk lo hi).val := by
      rw [he']
      show _ = (lo.val, hi.val)
      split at he <;> rename_i hc <;> simp only [Prod.mk.injEq] at he <;> obtain ⟨f1, f2⟩ := he <;> rw [f1, f2]
      · rw [if_pos hc]
      · rw [if_neg hc]
    rw [e9]; exact hl)
  have HX := hide' (And.intro hx (And.intro hy (And.intro kx ky)))
  have HQ := hide' (And.intro qa qb)
  obtain ⟨C, hC⟩ : ∃ C, cmpD x.val y.val = C := ⟨_, rfl⟩
  rw [hC] at GM OR
  clear hC hQ qa qb sQ sh hq9 hu hv hDg hx hy kx ky
  go_enter Tryz.func6, Tryz.ntmps6
  go_upto_region 1 with fail
  have hB : Below w.heap.size w ((w.alloc (.cells #[.bool x.a.s, .slice x.a.a x.a.n x.a.c, .slice x.a.b x.a.m x.a.e, .bool x.b.s, .slice x.b.a x.b.n x.b.c, .slice x.b.b x.b.m x.b.e, .bool y.a.s, .slice y.a.a y.a.n y.a.c, .slice y.a.b y.a.m y.a.e, .bool y.b.s, .slice y.b.a y.b.n y.b.c, .slice y.b.b y.b.m y.b.e] 51)).alloc (.cells #[.int .u32 (u : Int), .int .u32 (v : Int)] 52)) := (below_alloc _).trans ((below_alloc _).mono (below_alloc _).size)
  obtain ⟨wA, hwA⟩ : ∃ wA, (w.alloc (.cells #[.bool x.a.s, .slice x.a.a x.a.n x.a.c, .slice x.a.b x.a.m x.a.e, .bool x.b.s, .slice x.b.a x.b.n x.b.c, .slice x.b.b x.b.m x.b.e, .bool y.a.s, .slice y.a.a y.a.n y.a.c, .slice y.a.b y.a.m y.a.e, .bool y.b.s, .slice y.b.a y.b.n y.b.c, .slice y.b.b y.b.m y.b.e] 51)).alloc (.cells #[.int .u32 (u : Int), .int .u32 (v : Int)] 52) = wA := ⟨_, rfl⟩
  have d0 : wA.cell? ⟨w.heap.size, 0, none⟩ = some (.bool x.a.s) := by subst hwA; go_simp
  have d1 : wA.cell? ⟨w.heap.size, 1, none⟩ = some (.slice x.a.a x.a.n x.a.c) := by subst hwA; go_simp
  have d2 : wA.cell? ⟨w.heap.size, 2, none⟩ = some (.slice x.a.b x.a.m x.a.e) := by subst hwA; go_simp
  have d3 : wA.cell? ⟨w.heap.size, 3, none⟩ = some (.bool x.b.s) := by subst hwA; go_simp
  have d4 : wA.cell? ⟨w.heap.size, 4, none⟩ = some (.slice x.b.a x.b.n x.b.c) := by subst hwA; go_simp
  have d5 : wA.cell? ⟨w.heap.size, 5, none⟩ = some (.slice x.b.b x.b.m x.b.e) := by subst hwA; go_simp
  have d6 : wA.cell? ⟨w.heap.size, 6, none⟩ = some (.bool y.a.s) := by subst hwA; go_simp
  have d7 : wA.cell? ⟨w.heap.size, 7, none⟩ = some (.slice y.a.a y.a.n y.a.c) := by subst hwA; go_simp
  have d8 : wA.cell? ⟨w.heap.size, 8, none⟩ = some (.slice y.a.b y.a.m y.a.e) := by subst hwA; go_simp
  have d9 : wA.cell? ⟨w.heap.size, 9, none⟩ = some (.bool y.b.s) := by subst hwA; go_simp
  have d10 : wA.cell? ⟨w.heap.size, 10, none⟩ = some (.slice y.b.a y.b.n y.b.c) := by subst hwA; go_simp
  have d11 : wA.cell? ⟨w.heap.size, 11, none⟩ = some (.slice y.b.b y.b.m y.b.e) := by subst hwA; go_simp
  have m0 : wA.cell? ⟨w.heap.size + 1, 0, none⟩ = some (.int .u32 (u : Int)) := by subst hwA; go_simp
  have m1 : wA.cell? ⟨w.heap.size + 1, 1, none⟩ = some (.int .u32 (v : Int)) := by subst hwA; go_simp
  rw [hwA] at hB ⊢
  clear hwA
  go_cut [5, 6] from 13 to 16 (fun p8 p9 wx => ∃ wh9 c8 c9, wh9 = wx ∧ p8 = .pointer (some ⟨c8, 0, none⟩) ∧ p9 = .pointer (some ⟨c9, 0, none⟩) ∧ wA.heap.size ≤ c8 ∧ wA.heap.size ≤ c9 ∧ c8 ≠ c9 ∧ Sx wx c8 x ∧ Sx wx c9 y ∧ Below wA.heap.size wA wx)
  case first =>
    have hl_0 : w.heap.size < wA.heap.size := World.block_lt_of_cell? wA ⟨w.heap.size, 0, none⟩ d0
    have bT : Below wA.heap.size wA wA := Below.refl _ _
    have bD : Below wA.heap.size wA wA.drew := (Below.refl _ _).drew
    have kd0 := below_cell bD d0
    have kd1 := below_cell bD d1
    have kd2 := below_cell bD d2
    have kd3 := below_cell bD d3
    have kd4 := below_cell bD d4
    have kd5 := below_cell bD d5
    have kd6 := below_cell bD d6
    have kd7 := below_cell bD d7
    have kd8 := below_cell bD d8
    have kd9 := below_cell bD d9
    have kd10 := below_cell bD d10
    have kd11 := below_cell bD d11
    replace bT := bT.trans (bD.mono bT.size)
    refine wp_region_held_drew (S := fun w' => w'.cell? ⟨w.heap.size, 0, none⟩ = some (.bool x.a.s) ∧ w'.cell? ⟨w.heap.size, 1, none⟩ = some (.slice x.a.a x.a.n x.a.c) ∧ w'.cell? ⟨w.heap.size, 2, none⟩ = some (.slice x.a.b x.a.m x.a.e) ∧ w'.cell? ⟨w.heap.size, 3, none⟩ = some (.bool x.b.s) ∧ w'.cell? ⟨w.heap.size, 4, none⟩ = some (.slice x.b.a x.b.n x.b.c) ∧ w'.cell? ⟨w.heap.size, 5, none⟩ = some (.slice x.b.b x.b.m x.b.e) ∧ w'.cell? ⟨w.heap.size, 6, none⟩ = some (.bool y.a.s) ∧ w'.cell? ⟨w.heap.size, 7, none⟩ = some (.slice y.a.a y.a.n y.a.c) ∧ w'.cell? ⟨w.heap.size, 8, none⟩ = some (.slice y.a.b y.a.m y.a.e) ∧ w'.cell? ⟨w.heap.size, 9, none⟩ = some (.bool y.b.s) ∧ w'.cell? ⟨w.heap.size, 10, none⟩ = some (.slice y.b.a y.b.n y.b.c) ∧ w'.cell? ⟨w.heap.size, 11, none⟩ = some (.slice y.b.b y.b.m y.b.e)) (by kernel_rfl) ⟨kd0, kd1, kd2, kd3, kd4, kd5, kd6, kd7, kd8, kd9, kd10, kd11⟩ (fun hHeld => ?_)
    clear kd0 kd1 kd2 kd3 kd4 kd5 kd6 kd7 kd8 kd9 kd10 kd11
    generalize wA.drew = wF0 at bD bT hHeld ⊢
    clear bD d0 d1 d2 d3 d4 d5 d6 d7 d8 d9 d10 d11
    refine take' 0 (v := ?_) rfl (by kernel_rfl) (by kernel_rfl) (by kernel_rfl) (fun _ _ _ h => h) (Or.inl ⟨by rfl, ?_⟩) (by assumption) ?_
    rotate_left
    · intro w9 hSw
      go_simp
      first | done | with_reducible rfl
    simp only [Act.put, List.setIfInBounds_toArray, List.set_cons_zero, List.set_cons_succ]
    refine take' 1 (v := ?_) rfl (by kernel_rfl) (by kernel_rfl) (by kernel_rfl) (fun _ _ _ h => h) (Or.inl ⟨by rfl, ?_⟩) (by assumption) ?_
    rotate_left
    · intro w9 hSw
      go_simp
      first | done | with_reducible rfl
    simp only [Act.put, List.setIfInBounds_toArray, List.set_cons_zero, List.set_cons_succ]
    refine take' 2 (v := ?_) rfl (by kernel_rfl) (by kernel_rfl) (by kernel_rfl) (fun _ _ _ h => h) (Or.inl ⟨by rfl, ?_⟩) (by assumption) ?_
    rotate_left
    · intro w9 hSw
      go_simp
      first | done | with_reducible rfl
    simp only [Act.put, List.setIfInBounds_toArray, List.set_cons_zero, List.set_cons_succ]
    refine take' 3 (v := ?_) rfl (by kernel_rfl) (by kernel_rfl) (by kernel_rfl) (fun _ _ _ h => h) (Or.inl ⟨by rfl, ?_⟩) (by assumption) ?_
    rotate_left
    · intro w9 hSw
      go_simp
      first | done | with_reducible rfl
    simp only [Act.put, List.setIfInBounds_toArray, List.set_cons_zero, List.set_cons_succ]
    refine wpAnyH_ready (rs := [4, 5]) (by kernel_rfl) (by simp) ?_
    refine consT rfl (fun KK hKK => ?_) ?_
    · skip
      go_simp
      have vA : Sx (wF0.alloc (.cells #[.bool false, .slice none 0 0, .slice none 0 0, .bool false, .slice none 0 0, .slice none 0 0] 40)) wF0.heap.size zeroD := ⟨fun i z hz => by
        match i, hz with
        | 0, hz => obtain rfl := Option.some.inj hz; go_simp; try first | done | rfl | exact ⟨rfl, rfl⟩ | exact ⟨rfl, rfl, rfl⟩
        | 1, hz => obtain rfl := Option.some.inj hz; go_simp; try first | done | rfl | exact ⟨rfl, rfl⟩ | exact ⟨rfl, rfl, rfl⟩
        | 2, hz => obtain rfl := Option.some.inj hz; go_simp; try first | done | rfl | exact ⟨rfl, rfl⟩ | exact ⟨rfl, rfl, rfl⟩
        | 3, hz => obtain rfl := Option.some.inj hz; go_simp; try first | done | rfl | exact ⟨rfl, rfl⟩ | exact ⟨rfl, rfl, rfl⟩
        | 4, hz => obtain rfl := Option.some.inj hz; go_simp; try first | done | rfl | exact ⟨rfl, rfl⟩ | exact ⟨rfl, rfl, rfl⟩
        | 5, hz => obtain rfl := Option.some.inj hz; go_simp; try first | done | rfl | exact ⟨rfl, rfl⟩ | exact ⟨rfl, rfl, rfl⟩
        | i + 6, hz => simp [DelV.cells6] at hz, row_new wF0 _ 40⟩
      have bA := below_alloc (w := wF0) (.cells #[.bool false, .slice none 0 0, .slice none 0 0, .bool false, .slice none 0 0, .slice none 0 0] 40)
      have hcA : wA.heap.size ≤ wF0.heap.size := bT.size
      generalize wF0.alloc (.cells #[.bool false, .slice none 0 0, .slice none 0 0, .bool false, .slice none 0 0, .slice none 0 0] 40) = wF1 at vA bA ⊢
      replace bT := bT.trans (bA.mono bT.size)
      replace hHeld := (⟨below_cell bA hHeld.1, below_cell bA hHeld.2.1, below_cell bA hHeld.2.2.1, below_cell bA hHeld.2.2.2.1, below_cell bA hHeld.2.2.2.2.1, below_cell bA hHeld.2.2.2.2.2.1, below_cell bA hHeld.2.2.2.2.2.2.1, below_cell bA hHeld.2.2.2.2.2.2.2.1, below_cell bA hHeld.2.2.2.2.2.2.2.2.1, below_cell bA hHeld.2.2.2.2.2.2.2.2.2.1, below_cell bA hHeld.2.2.2.2.2.2.2.2.2.2.1, below_cell bA hHeld.2.2.2.2.2.2.2.2.2.2.2⟩ : _ ∧ _ ∧ _ ∧ _ ∧ _ ∧ _ ∧ _ ∧ _ ∧ _ ∧ _ ∧ _ ∧ _)
      clear bA
      refine hKK.out _ _ hHeld ?_
      clear hHeld
      intro hHeld
      clear hKK KK
      try simp only [Act.put, List.setIfInBounds_toArray, List.set_cons_zero, List.set_cons_succ]
      obtain ⟨cA, hcc⟩ : ∃ cc, wF0.heap.size = cc := ⟨_, rfl⟩
      rw [hcc] at vA hcA
      try rw [hcc] at hne
      try rw [hcc]
      clear hcc
      refine wpAnyH_ready (rs := [5]) (by kernel_rfl) (by simp) ?_
      refine cons' rfl (fun KK hKK => ?_)
      go_simp
      have vB : Sx (wF1.alloc (.cells #[.bool false, .slice none 0 0, .slice none 0 0, .bool false, .slice none 0 0, .slice none 0 0] 40)) wF1.heap.size zeroD := ⟨fun i z hz => by
        match i, hz with
        | 0, hz => obtain rfl := Option.some.inj hz; go_simp; try first | done | rfl | exact ⟨rfl, rfl⟩ | exact ⟨rfl, rfl, rfl⟩
        | 1, hz => obtain rfl := Option.some.inj hz; go_simp; try first | done | rfl | exact ⟨rfl, rfl⟩ | exact ⟨rfl, rfl, rfl⟩
        | 2, hz => obtain rfl := Option.some.inj hz; go_simp; try first | done | rfl | exact ⟨rfl, rfl⟩ | exact ⟨rfl, rfl, rfl⟩
        | 3, hz => obtain rfl := Option.some.inj hz; go_simp; try first | done | rfl | exact ⟨rfl, rfl⟩ | exact ⟨rfl, rfl, rfl⟩
        | 4, hz => obtain rfl := Option.some.inj hz; go_simp; try first | done | rfl | exact ⟨rfl, rfl⟩ | exact ⟨rfl, rfl, rfl⟩
        | 5, hz => obtain rfl := Option.some.inj hz; go_simp; try first | done | rfl | exact ⟨rfl, rfl⟩ | exact ⟨rfl, rfl, rfl⟩
        | i + 6, hz => simp [DelV.cells6] at hz, row_new wF1 _ 40⟩
      have bA := below_alloc (w := wF1) (.cells #[.bool false, .slice none 0 0, .slice none 0 0, .bool false, .slice none 0 0, .slice none 0 0] 40)
      have hcB : wA.heap.size ≤ wF1.heap.size := bT.size
      have hne : cA ≠ wF1.heap.size := by have := vA.2.lt; omega
      generalize wF1.alloc (.cells #[.bool false, .slice none 0 0, .slice none 0 0, .bool false, .slice none 0 0, .slice none 0 0] 40) = wF2 at vB bA ⊢
      replace bT := bT.trans (bA.mono bT.size)
      replace vA := vA.later bA
      replace hHeld := (⟨below_cell bA hHeld.1, below_cell bA hHeld.2.1, below_cell bA hHeld.2.2.1, below_cell bA hHeld.2.2.2.1, below_cell bA hHeld.2.2.2.2.1, below_cell bA hHeld.2.2.2.2.2.1, below_cell bA hHeld.2.2.2.2.2.2.1, below_cell bA hHeld.2.2.2.2.2.2.2.1, below_cell bA hHeld.2.2.2.2.2.2.2.2.1, below_cell bA hHeld.2.2.2.2.2.2.2.2.2.1, below_cell bA hHeld.2.2.2.2.2.2.2.2.2.2.1, below_cell bA hHeld.2.2.2.2.2.2.2.2.2.2.2⟩ : _ ∧ _ ∧ _ ∧ _ ∧ _ ∧ _ ∧ _ ∧ _ ∧ _ ∧ _ ∧ _ ∧ _)
      clear bA
      refine hKK.out _ _ hHeld ?_
      clear hHeld
      intro hHeld
      clear hKK KK
      try simp only [Act.put, List.setIfInBounds_toArray, List.set_cons_zero, List.set_cons_succ]
      obtain ⟨cB, hcc⟩ : ∃ cc, wF1.heap.size = cc := ⟨_, rfl⟩
      rw [hcc] at vB hcB
      try rw [hcc] at hne
      try rw [hcc]
      clear hcc
      refine wpAnyH_ready (rs := [6]) (by kernel_rfl) (by simp) ?_
      refine cons' rfl (fun KK hKK => ?_)
      have fz := fun o => vA.2.frozen o
      have z0 := vA.1 0 _ rfl
      have z1 := vA.1 1 _ rfl
      have z2 := vA.1 2 _ rfl
      have z3 := vA.1 3 _ rfl
      have z4 := vA.1 4 _ rfl
      have z5 := vA.1 5 _ rfl
      replace z0 : wF2.cell? ⟨cA, 0, none⟩ = some (.bool false) := z0
      replace z1 : wF2.cell? ⟨cA, 1, none⟩ = some (.slice none 0 0) := z1
      replace z2 : wF2.cell? ⟨cA, 2, none⟩ = some (.slice none 0 0) := z2
      replace z3 : wF2.cell? ⟨cA, 3, none⟩ = some (.bool false) := z3
      replace z4 : wF2.cell? ⟨cA, 4, none⟩ = some (.slice none 0 0) := z4
      replace z5 : wF2.cell? ⟨cA, 5, none⟩ = some (.slice none 0 0) := z5
      replace bT := stM_bel x.cells6 wA wF2 wA.heap.size cA 0 bT hcA
      have hH2 := (⟨stM_out x.cells6 wF2 cA 0 _ _ _ (fun e => by omega) hHeld.1, stM_out x.cells6 wF2 cA 0 _ _ _ (fun e => by omega) hHeld.2.1, stM_out x.cells6 wF2 cA 0 _ _ _ (fun e => by omega) hHeld.2.2.1, stM_out x.cells6 wF2 cA 0 _ _ _ (fun e => by omega) hHeld.2.2.2.1, stM_out x.cells6 wF2 cA 0 _ _ _ (fun e => by omega) hHeld.2.2.2.2.1, stM_out x.cells6 wF2 cA 0 _ _ _ (fun e => by omega) hHeld.2.2.2.2.2.1, stM_out x.cells6 wF2 cA 0 _ _ _ (fun e => by omega) hHeld.2.2.2.2.2.2.1, stM_out x.cells6 wF2 cA 0 _ _ _ (fun e => by omega) hHeld.2.2.2.2.2.2.2.1, stM_out x.cells6 wF2 cA 0 _ _ _ (fun e => by omega) hHeld.2.2.2.2.2.2.2.2.1, stM_out x.cells6 wF2 cA 0 _ _ _ (fun e => by omega) hHeld.2.2.2.2.2.2.2.2.2.1, stM_out x.cells6 wF2 cA 0 _ _ _ (fun e => by omega) hHeld.2.2.2.2.2.2.2.2.2.2.1, stM_out x.cells6 wF2 cA 0 _ _ _ (fun e => by omega) hHeld.2.2.2.2.2.2.2.2.2.2.2⟩ : _ ∧ _ ∧ _ ∧ _ ∧ _ ∧ _ ∧ _ ∧ _ ∧ _ ∧ _ ∧ _ ∧ _)
      have fB := vB.far x.cells6 (c := cA) (by omega)
      have pA := vA.put x
      clear vA vB
      have vB := fB
      have vA := pA
      clear fB pA
      obtain ⟨wF3, hw9⟩ : ∃ w9, stM wF2 cA 0 x.cells6 = w9 := ⟨_, rfl⟩
      rw [hw9] at bT hH2 vA vB
      have hch : ((((((wF2.setCell ⟨cA, 0, none⟩ (.bool x.a.s)).setCell ⟨cA, 1, none⟩ (.slice x.a.a x.a.n x.a.c)).setCell ⟨cA, 2, none⟩ (.slice x.a.b x.a.m x.a.e)).setCell ⟨cA, 3, none⟩ (.bool x.b.s)).setCell ⟨cA, 4, none⟩ (.slice x.b.a x.b.n x.b.c)).setCell ⟨cA, 5, none⟩ (.slice x.b.b x.b.m x.b.e)) = wF3 := hw9
      clear hw9
      go_simp
      try rw [hch]
      clear hch fz z0 z1 z2 z3 z4 z5
      refine hKK.out _ _ hH2 ?_
      clear hHeld
      intro hHeld
      clear hKK KK
      try simp only [Act.put, List.setIfInBounds_toArray, List.set_cons_zero, List.set_cons_succ]
      clear hH2
      refine wpAnyH_ready (rs := [7]) (by kernel_rfl) (by simp) ?_
      refine cons' rfl (fun KK hKK => ?_)
      have fz := fun o => vB.2.frozen o
      have z0 := vB.1 0 _ rfl
      have z1 := vB.1 1 _ rfl
      have z2 := vB.1 2 _ rfl
      have z3 := vB.1 3 _ rfl
      have z4 := vB.1 4 _ rfl
      have z5 := vB.1 5 _ rfl
      replace z0 : wF3.cell? ⟨cB, 0, none⟩ = some (.bool false) := z0
      replace z1 : wF3.cell? ⟨cB, 1, none⟩ = some (.slice none 0 0) := z1
      replace z2 : wF3.cell? ⟨cB, 2, none⟩ = some (.slice none 0 0) := z2
      replace z3 : wF3.cell? ⟨cB, 3, none⟩ = some (.bool false) := z3
      replace z4 : wF3.cell? ⟨cB, 4, none⟩ = some (.slice none 0 0) := z4
      replace z5 : wF3.cell? ⟨cB, 5, none⟩ = some (.slice none 0 0) := z5
      replace bT := stM_bel y.cells6 wA wF3 wA.heap.size cB 0 bT hcB
      have hH2 := (⟨stM_out y.cells6 wF3 cB 0 _ _ _ (fun e => by omega) hHeld.1, stM_out y.cells6 wF3 cB 0 _ _ _ (fun e => by omega) hHeld.2.1, stM_out y.cells6 wF3 cB 0 _ _ _ (fun e => by omega) hHeld.2.2.1, stM_out y.cells6 wF3 cB 0 _ _ _ (fun e => by omega) hHeld.2.2.2.1, stM_out y.cells6 wF3 cB 0 _ _ _ (fun e => by omega) hHeld.2.2.2.2.1, stM_out y.cells6 wF3 cB 0 _ _ _ (fun e => by omega) hHeld.2.2.2.2.2.1, stM_out y.cells6 wF3 cB 0 _ _ _ (fun e => by omega) hHeld.2.2.2.2.2.2.1, stM_out y.cells6 wF3 cB 0 _ _ _ (fun e => by omega) hHeld.2.2.2.2.2.2.2.1, stM_out y.cells6 wF3 cB 0 _ _ _ (fun e => by omega) hHeld.2.2.2.2.2.2.2.2.1, stM_out y.cells6 wF3 cB 0 _ _ _ (fun e => by omega) hHeld.2.2.2.2.2.2.2.2.2.1, stM_out y.cells6 wF3 cB 0 _ _ _ (fun e => by omega) hHeld.2.2.2.2.2.2.2.2.2.2.1, stM_out y.cells6 wF3 cB 0 _ _ _ (fun e => by omega) hHeld.2.2.2.2.2.2.2.2.2.2.2⟩ : _ ∧ _ ∧ _ ∧ _ ∧ _ ∧ _ ∧ _ ∧ _ ∧ _ ∧ _ ∧ _ ∧ _)
      have fA := vA.far y.cells6 (c := cB) (by omega)
      have pB := vB.put y
      clear vB vA
      have vA := fA
      have vB := pB
      clear fA pB
      obtain ⟨wF4, hw9⟩ : ∃ w9, stM wF3 cB 0 y.cells6 = w9 := ⟨_, rfl⟩
      rw [hw9] at bT hH2 vA vB
      have hch : ((((((wF3.setCell ⟨cB, 0, none⟩ (.bool y.a.s)).setCell ⟨cB, 1, none⟩ (.slice y.a.a y.a.n y.a.c)).setCell ⟨cB, 2, none⟩ (.slice y.a.b y.a.m y.a.e)).setCell ⟨cB, 3, none⟩ (.bool y.b.s)).setCell ⟨cB, 4, none⟩ (.slice y.b.a y.b.n y.b.c)).setCell ⟨cB, 5, none⟩ (.slice y.b.b y.b.m y.b.e)) = wF4 := hw9
      clear hw9
      go_simp
      try rw [hch]
      clear hch fz z0 z1 z2 z3 z4 z5
      refine hKK.out _ _ hH2 ?_
      clear hHeld
      intro hHeld
      clear hKK KK
      try simp only [Act.put, List.setIfInBounds_toArray, List.set_cons_zero, List.set_cons_succ]
      clear hH2
      refine wpAnyH_done (by kernel_rfl) ?_ _
      go_wp2_with fail
      go_meet
      exact ⟨_, cA, cB, rfl, rfl, rfl, by omega, by omega, by omega, vA, vB, bT⟩
    refine consT rfl (fun KK hKK => ?_) ?_
    · skip
      go_simp
      have vB : Sx (wF0.alloc (.cells #[.bool false, .slice none 0 0, .slice none 0 0, .bool false, .slice none 0 0, .slice none 0 0] 40)) wF0.heap.size zeroD := ⟨fun i z hz => by
        match i, hz with
        | 0, hz => obtain rfl := Option.some.inj hz; go_simp; try first | done | rfl | exact ⟨rfl, rfl⟩ | exact ⟨rfl, rfl, rfl⟩
        | 1, hz => obtain rfl := Option.some.inj hz; go_simp; try first | done | rfl | exact ⟨rfl, rfl⟩ | exact ⟨rfl, rfl, rfl⟩
        | 2, hz => obtain rfl := Option.some.inj hz; go_simp; try first | done | rfl | exact ⟨rfl, rfl⟩ | exact ⟨rfl, rfl, rfl⟩
        | 3, hz => obtain rfl := Option.some.inj hz; go_simp; try first | done | rfl | exact ⟨rfl, rfl⟩ | exact ⟨rfl, rfl, rfl⟩
        | 4, hz => obtain rfl := Option.some.inj hz; go_simp; try first | done | rfl | exact ⟨rfl, rfl⟩ | exact ⟨rfl, rfl, rfl⟩
        | 5, hz => obtain rfl := Option.some.inj hz; go_simp; try first | done | rfl | exact ⟨rfl, rfl⟩ | exact ⟨rfl, rfl, rfl⟩
        | i + 6, hz => simp [DelV.cells6] at hz, row_new wF0 _ 40⟩
      have bA := below_alloc (w := wF0) (.cells #[.bool false, .slice none 0 0, .slice none 0 0, .bool false, .slice none 0 0, .slice none 0 0] 40)
      have hcB : wA.heap.size ≤ wF0.heap.size := bT.size
      generalize wF0.alloc (.cells #[.bool false, .slice none 0 0, .slice none 0 0, .bool false, .slice none 0 0, .slice none 0 0] 40) = wF1 at vB bA ⊢
      replace bT := bT.trans (bA.mono bT.size)
      replace hHeld := (⟨below_cell bA hHeld.1, below_cell bA hHeld.2.1, below_cell bA hHeld.2.2.1, below_cell bA hHeld.2.2.2.1, below_cell bA hHeld.2.2.2.2.1, below_cell bA hHeld.2.2.2.2.2.1, below_cell bA hHeld.2.2.2.2.2.2.1, below_cell bA hHeld.2.2.2.2.2.2.2.1, below_cell bA hHeld.2.2.2.2.2.2.2.2.1, below_cell bA hHeld.2.2.2.2.2.2.2.2.2.1, below_cell bA hHeld.2.2.2.2.2.2.2.2.2.2.1, below_cell bA hHeld.2.2.2.2.2.2.2.2.2.2.2⟩ : _ ∧ _ ∧ _ ∧ _ ∧ _ ∧ _ ∧ _ ∧ _ ∧ _ ∧ _ ∧ _ ∧ _)
      clear bA
      refine hKK.out _ _ hHeld ?_
      clear hHeld
      intro hHeld
      clear hKK KK
      try simp only [Act.put, List.setIfInBounds_toArray, List.set_cons_zero, List.set_cons_succ]
      obtain ⟨cB, hcc⟩ : ∃ cc, wF0.heap.size = cc := ⟨_, rfl⟩
      rw [hcc] at vB hcB
      try rw [hcc] at hne
      try rw [hcc]
      clear hcc
      refine wpAnyH_ready (rs := [4]) (by kernel_rfl) (by simp) ?_
      refine cons' rfl (fun KK hKK => ?_)
      go_simp
      have vA : Sx (wF1.alloc (.cells #[.bool false, .slice none 0 0, .slice none 0 0, .bool false, .slice none 0 0, .slice none 0 0] 40)) wF1.heap.size zeroD := ⟨fun i z hz => by
        match i, hz with
        | 0, hz => obtain rfl := Option.some.inj hz; go_simp; try first | done | rfl | exact ⟨rfl, rfl⟩ | exact ⟨rfl, rfl, rfl⟩
        | 1, hz => obtain rfl := Option.some.inj hz; go_simp; try first | done | rfl | exact ⟨rfl, rfl⟩ | exact ⟨rfl, rfl, rfl⟩
        | 2, hz => obtain rfl := Option.some.inj hz; go_simp; try first | done | rfl | exact ⟨rfl, rfl⟩ | exact ⟨rfl, rfl, rfl⟩
        | 3, hz => obtain rfl := Option.some.inj hz; go_simp; try first | done | rfl | exact ⟨rfl, rfl⟩ | exact ⟨rfl, rfl, rfl⟩
        | 4, hz => obtain rfl := Option.some.inj hz; go_simp; try first | done | rfl | exact ⟨rfl, rfl⟩ | exact ⟨rfl, rfl, rfl⟩
        | 5, hz => obtain rfl := Option.some.inj hz; go_simp; try first | done | rfl | exact ⟨rfl, rfl⟩ | exact ⟨rfl, rfl, rfl⟩
        | i + 6, hz => simp [DelV.cells6] at hz, row_new wF1 _ 40⟩
      have bA := below_alloc (w := wF1) (.cells #[.bool false, .slice none 0 0, .slice none 0 0, .bool false, .slice none 0 0, .slice none 0 0] 40)
      have hcA : wA.heap.size ≤ wF1.heap.size := bT.size
      have hne : cB ≠ wF1.heap.size := by have := vB.2.lt; omega
      generalize wF1.alloc (.cells #[.bool false, .slice none 0 0, .slice none 0 0, .bool false, .slice none 0 0, .slice none 0 0] 40) = wF2 at vA bA ⊢
      replace bT := bT.trans (bA.mono bT.size)
      replace vB := vB.later bA
      replace hHeld := (⟨below_cell bA hHeld.1, below_cell bA hHeld.2.1, below_cell bA hHeld.2.2.1, below_cell bA hHeld.2.2.2.1, below_cell bA hHeld.2.2.2.2.1, below_cell bA hHeld.2.2.2.2.2.1, below_cell bA hHeld.2.2.2.2.2.2.1, below_cell bA hHeld.2.2.2.2.2.2.2.1, below_cell bA hHeld.2.2.2.2.2.2.2.2.1, below_cell bA hHeld.2.2.2.2.2.2.2.2.2.1, below_cell bA hHeld.2.2.2.2.2.2.2.2.2.2.1, below_cell bA hHeld.2.2.2.2.2.2.2.2.2.2.2⟩ : _ ∧ _ ∧ _ ∧ _ ∧ _ ∧ _ ∧ _ ∧ _ ∧ _ ∧ _ ∧ _ ∧ _)
      clear bA
      refine hKK.out _ _ hHeld ?_
      clear hHeld
      intro hHeld
      clear hKK KK
      try simp only [Act.put, List.setIfInBounds_toArray, List.set_cons_zero, List.set_cons_succ]
      obtain ⟨cA, hcc⟩ : ∃ cc, wF1.heap.size = cc := ⟨_, rfl⟩
      rw [hcc] at vA hcA
      try rw [hcc] at hne
      try rw [hcc]
      clear hcc
      refine wpAnyH_ready (rs := [6]) (by kernel_rfl) (by simp) ?_
      refine cons' rfl (fun KK hKK => ?_)
      have fz := fun o => vA.2.frozen o
      have z0 := vA.1 0 _ rfl
      have z1 := vA.1 1 _ rfl
      have z2 := vA.1 2 _ rfl
      have z3 := vA.1 3 _ rfl
      have z4 := vA.1 4 _ rfl
      have z5 := vA.1 5 _ rfl
      replace z0 : wF2.cell? ⟨cA, 0, none⟩ = some (.bool false) := z0
      replace z1 : wF2.cell? ⟨cA, 1, none⟩ = some (.slice none 0 0) := z1
      replace z2 : wF2.cell? ⟨cA, 2, none⟩ = some (.slice none 0 0) := z2
      replace z3 : wF2.cell? ⟨cA, 3, none⟩ = some (.bool false) := z3
      replace z4 : wF2.cell? ⟨cA, 4, none⟩ = some (.slice none 0 0) := z4
      replace z5 : wF2.cell? ⟨cA, 5, none⟩ = some (.slice none 0 0) := z5
      replace bT := stM_bel x.cells6 wA wF2 wA.heap.size cA 0 bT hcA
      have hH2 := (⟨stM_out x.cells6 wF2 cA 0 _ _ _ (fun e => by omega) hHeld.1, stM_out x.cells6 wF2 cA 0 _ _ _ (fun e => by omega) hHeld.2.1, stM_out x.cells6 wF2 cA 0 _ _ _ (fun e => by omega) hHeld.2.2.1, stM_out x.cells6 wF2 cA 0 _ _ _ (fun e => by omega) hHeld.2.2.2.1, stM_out x.cells6 wF2 cA 0 _ _ _ (fun e => by omega) hHeld.2.2.2.2.1, stM_out x.cells6 wF2 cA 0 _ _ _ (fun e => by omega) hHeld.2.2.2.2.2.1, stM_out x.cells6 wF2 cA 0 _ _ _ (fun e => by omega) hHeld.2.2.2.2.2.2.1, stM_out x.cells6 wF2 cA 0 _ _ _ (fun e => by omega) hHeld.2.2.2.2.2.2.2.1, stM_out x.cells6 wF2 cA 0 _ _ _ (fun e => by omega) hHeld.2.2.2.2.2.2.2.2.1, stM_out x.cells6 wF2 cA 0 _ _ _ (fun e => by omega) hHeld.2.2.2.2.2.2.2.2.2.1, stM_out x.cells6 wF2 cA 0 _ _ _ (fun e => by omega) hHeld.2.2.2.2.2.2.2.2.2.2.1, stM_out x.cells6 wF2 cA 0 _ _ _ (fun e => by omega) hHeld.2.2.2.2.2.2.2.2.2.2.2⟩ : _ ∧ _ ∧ _ ∧ _ ∧ _ ∧ _ ∧ _ ∧ _ ∧ _ ∧ _ ∧ _ ∧ _)
      have fB := vB.far x.cells6 (c := cA) (by omega)
      have pA := vA.put x
      clear vA vB
      have vB := fB
      have vA := pA
      clear fB pA
      obtain ⟨wF3, hw9⟩ : ∃ w9, stM wF2 cA 0 x.cells6 = w9 := ⟨_, rfl⟩
      rw [hw9] at bT hH2 vA vB
      have hch : ((((((wF2.setCell ⟨cA, 0, none⟩ (.bool x.a.s)).setCell ⟨cA, 1, none⟩ (.slice x.a.a x.a.n x.a.c)).setCell ⟨cA, 2, none⟩ (.slice x.a.b x.a.m x.a.e)).setCell ⟨cA, 3, none⟩ (.bool x.b.s)).setCell ⟨cA, 4, none⟩ (.slice x.b.a x.b.n x.b.c)).setCell ⟨cA, 5, none⟩ (.slice x.b.b x.b.m x.b.e)) = wF3 := hw9
      clear hw9
      go_simp
      try rw [hch]
      clear hch fz z0 z1 z2 z3 z4 z5
      refine hKK.out _ _ hH2 ?_
      clear hHeld
      intro hHeld
      clear hKK KK
      try simp only [Act.put, List.setIfInBounds_toArray, List.set_cons_zero, List.set_cons_succ]
      clear hH2
      refine wpAnyH_ready (rs := [7]) (by kernel_rfl) (by simp) ?_
      refine cons' rfl (fun KK hKK => ?_)
      have fz := fun o => vB.2.frozen o
      have z0 := vB.1 0 _ rfl
      have z1 := vB.1 1 _ rfl
      have z2 := vB.1 2 _ rfl
      have z3 := vB.1 3 _ rfl
      have z4 := vB.1 4 _ rfl
      have z5 := vB.1 5 _ rfl
      replace z0 : wF3.cell? ⟨cB, 0, none⟩ = some (.bool false) := z0
      replace z1 : wF3.cell? ⟨cB, 1, none⟩ = some (.slice none 0 0) := z1
      replace z2 : wF3.cell? ⟨cB, 2, none⟩ = some (.slice none 0 0) := z2
      replace z3 : wF3.cell? ⟨cB, 3, none⟩ = some (.bool false) := z3
      replace z4 : wF3.cell? ⟨cB, 4, none⟩ = some (.slice none 0 0) := z4
      replace z5 : wF3.cell? ⟨cB, 5, none⟩ = some (.slice none 0 0) := z5
      replace bT := stM_bel y.cells6 wA wF3 wA.heap.size cB 0 bT hcB
      have hH2 := (⟨stM_out y.cells6 wF3 cB 0 _ _ _ (fun e => by omega) hHeld.1, stM_out y.cells6 wF3 cB 0 _ _ _ (fun e => by omega) hHeld.2.1, stM_out y.cells6 wF3 cB 0 _ _ _ (fun e => by omega) hHeld.2.2.1, stM_out y.cells6 wF3 cB 0 _ _ _ (fun e => by omega) hHeld.2.2.2.1, stM_out y.cells6 wF3 cB 0 _ _ _ (fun e => by omega) hHeld.2.2.2.2.1, stM_out y.cells6 wF3 cB 0 _ _ _ (fun e => by omega) hHeld.2.2.2.2.2.1, stM_out y.cells6 wF3 cB 0 _ _ _ (fun e => by omega) hHeld.2.2.2.2.2.2.1, stM_out y.cells6 wF3 cB 0 _ _ _ (fun e => by omega) hHeld.2.2.2.2.2.2.2.1, stM_out y.cells6 wF3 cB 0 _ _ _ (fun e => by omega) hHeld.2.2.2.2.2.2.2.2.1, stM_out y.cells6 wF3 cB 0 _ _ _ (fun e => by omega) hHeld.2.2.2.2.2.2.2.2.2.1, stM_out y.cells6 wF3 cB 0 _ _ _ (fun e => by omega) hHeld.2.2.2.2.2.2.2.2.2.2.1, stM_out y.cells6 wF3 cB 0 _ _ _ (fun e => by omega) hHeld.2.2.2.2.2.2.2.2.2.2.2⟩ : _ ∧ _ ∧ _ ∧ _ ∧ _ ∧ _ ∧ _ ∧ _ ∧ _ ∧ _ ∧ _ ∧ _)
      have fA := vA.far y.cells6 (c := cB) (by omega)
      have pB := vB.put y
      clear vB vA
      have vA := fA
      have vB := pB
      clear fA pB
      obtain ⟨wF4, hw9⟩ : ∃ w9, stM wF3 cB 0 y.cells6 = w9 := ⟨_, rfl⟩
      rw [hw9] at bT hH2 vA vB
      have hch : ((((((wF3.setCell ⟨cB, 0, none⟩ (.bool y.a.s)).setCell ⟨cB, 1, none⟩ (.slice y.a.a y.a.n y.a.c)).setCell ⟨cB, 2, none⟩ (.slice y.a.b y.a.m y.a.e)).setCell ⟨cB, 3, none⟩ (.bool y.b.s)).setCell ⟨cB, 4, none⟩ (.slice y.b.a y.b.n y.b.c)).setCell ⟨cB, 5, none⟩ (.slice y.b.b y.b.m y.b.e)) = wF4 := hw9
      clear hw9
      go_simp
      try rw [hch]
      clear hch fz z0 z1 z2 z3 z4 z5
      refine hKK.out _ _ hH2 ?_
      clear hHeld
      intro hHeld
      clear hKK KK
      try simp only [Act.put, List.setIfInBounds_toArray, List.set_cons_zero, List.set_cons_succ]
      clear hH2
      refine wpAnyH_done (by kernel_rfl) ?_ _
      go_wp2_with fail
      go_meet
      exact ⟨_, cA, cB, rfl, rfl, rfl, by omega, by omega, by omega, vA, vB, bT⟩
    exact AllReadyH.nil
  case rest =>
    obtain ⟨wB, c5, c6, hwB, rfl, rfl, n5, n6, n56, v5, v6, bT⟩ := hcut
    subst hwB
    replace m0 := below_cell bT m0
    replace m1 := below_cell bT m1
    have lAw := hB.size
    replace hB := hB.trans (bT.mono hB.size)
    clear bT d0 d1 d2 d3 d4 d5 d6 d7 d8 d9 d10 d11
    have x0 : wB.cell? ⟨c5, 0, none⟩ = some (.bool x.a.s) := v5.1 0 _ rfl
    have y0 : wB.cell? ⟨c6, 0, none⟩ = some (.bool y.a.s) := v6.1 0 _ rfl
    have x1 : wB.cell? ⟨c5, 1, none⟩ = some (.slice x.a.a x.a.n x.a.c) := v5.1 1 _ rfl
    have y1 : wB.cell? ⟨c6, 1, none⟩ = some (.slice y.a.a y.a.n y.a.c) := v6.1 1 _ rfl
    have x2 : wB.cell? ⟨c5, 2, none⟩ = some (.slice x.a.b x.a.m x.a.e) := v5.1 2 _ rfl
    have y2 : wB.cell? ⟨c6, 2, none⟩ = some (.slice y.a.b y.a.m y.a.e) := v6.1 2 _ rfl
    have x3 : wB.cell? ⟨c5, 3, none⟩ = some (.bool x.b.s) := v5.1 3 _ rfl
    have y3 : wB.cell? ⟨c6, 3, none⟩ = some (.bool y.b.s) := v6.1 3 _ rfl
    have x4 : wB.cell? ⟨c5, 4, none⟩ = some (.slice x.b.a x.b.n x.b.c) := v5.1 4 _ rfl
    have y4 : wB.cell? ⟨c6, 4, none⟩ = some (.slice y.b.a y.b.n y.b.c) := v6.1 4 _ rfl
    have x5 : wB.cell? ⟨c5, 5, none⟩ = some (.slice x.b.b x.b.m x.b.e) := v5.1 5 _ rfl
    have y5 : wB.cell? ⟨c6, 5, none⟩ = some (.slice y.b.b y.b.m y.b.e) := v6.1 5 _ rfl
    have l5 := v5.2.lt
    have l6 := v6.2.lt
    clear v5 v6
    go_wp2_with fail
    have bD : Below wB.heap.size wB wB.drew := (Below.refl _ _).drew
    have kx0 := below_cell bD x0
    have kx1 := below_cell bD x1
    have kx2 := below_cell bD x2
    have kx3 := below_cell bD x3
    have kx4 := below_cell bD x4
    have kx5 := below_cell bD x5
    have ky0 := below_cell bD y0
    have ky1 := below_cell bD y1
    have ky2 := below_cell bD y2
    have ky3 := below_cell bD y3
    have ky4 := below_cell bD y4
    have ky5 := below_cell bD y5
    replace hB := hB.trans (bD.mono hB.size)
    replace m0 := below_cell bD m0
    replace m1 := below_cell bD m1
    refine wp_region_held_drew (S := fun w' => w'.cell? ⟨c5, 0, none⟩ = some (.bool x.a.s) ∧ w'.cell? ⟨c5, 1, none⟩ = some (.slice x.a.a x.a.n x.a.c) ∧ w'.cell? ⟨c5, 2, none⟩ = some (.slice x.a.b x.a.m x.a.e) ∧ w'.cell? ⟨c5, 3, none⟩ = some (.bool x.b.s) ∧ w'.cell? ⟨c5, 4, none⟩ = some (.slice x.b.a x.b.n x.b.c) ∧ w'.cell? ⟨c5, 5, none⟩ = some (.slice x.b.b x.b.m x.b.e) ∧ w'.cell? ⟨c6, 0, none⟩ = some (.bool y.a.s) ∧ w'.cell? ⟨c6, 1, none⟩ = some (.slice y.a.a y.a.n y.a.c) ∧ w'.cell? ⟨c6, 2, none⟩ = some (.slice y.a.b y.a.m y.a.e) ∧ w'.cell? ⟨c6, 3, none⟩ = some (.bool y.b.s) ∧ w'.cell? ⟨c6, 4, none⟩ = some (.slice y.b.a y.b.n y.b.c) ∧ w'.cell? ⟨c6, 5, none⟩ = some (.slice y.b.b y.b.m y.b.e)) (by kernel_rfl) ⟨kx0, kx1, kx2, kx3, kx4, kx5, ky0, ky1, ky2, ky3, ky4, ky5⟩ (fun hHeld => ?_)
    clear kx0 kx1 kx2 kx3 kx4 kx5 ky0 ky1 ky2 ky3 ky4 ky5
    generalize wB.drew = w11 at bD m0 m1 hB hHeld ⊢
    clear bD x0 x1 x2 x3 x4 x5 y0 y1 y2 y3 y4 y5
    refine take' 0 (v := ?_) rfl (by kernel_rfl) (by kernel_rfl) (by kernel_rfl) (fun _ _ _ h => h) (Or.inl ⟨by rfl, ?_⟩) (by assumption) ?_
    rotate_left
    · intro w9 hSw
      go_simp
      first | done | with_reducible rfl
    simp only [Act.put, List.setIfInBounds_toArray, List.set_cons_zero, List.set_cons_succ]
    refine take' 2 (v := ?_) rfl (by kernel_rfl) (by kernel_rfl) (by kernel_rfl) (fun _ _ _ h => h) (Or.inl ⟨by rfl, ?_⟩) (by assumption) ?_
    rotate_left
    · intro w9 hSw
      go_simp
      first | done | with_reducible rfl
    simp only [Act.put, List.setIfInBounds_toArray, List.set_cons_zero, List.set_cons_succ]
    refine wpAnyH_ready (rs := [1]) (by kernel_rfl) (by simp) ?_
    refine cons' rfl (fun KK hKK => ?_)
    go_simp
    refine (GT1.out _ hB).mono ?_
    rintro e w12 ⟨p1, q1, r1, t1, rfl, b1, h1⟩
    have bC := b1
    replace hB := hB.trans (bC.mono hB.size)
    replace m0 := below_cell bC m0
    replace m1 := below_cell bC m1
    replace hHeld := (⟨below_cell bC hHeld.1, below_cell bC hHeld.2.1, below_cell bC hHeld.2.2.1, below_cell bC hHeld.2.2.2.1, below_cell bC hHeld.2.2.2.2.1, below_cell bC hHeld.2.2.2.2.2.1, below_cell bC hHeld.2.2.2.2.2.2.1, below_cell bC hHeld.2.2.2.2.2.2.2.1, below_cell bC hHeld.2.2.2.2.2.2.2.2.1, below_cell bC hHeld.2.2.2.2.2.2.2.2.2.1, below_cell bC hHeld.2.2.2.2.2.2.2.2.2.2.1, below_cell bC hHeld.2.2.2.2.2.2.2.2.2.2.2⟩ : _ ∧ _ ∧ _ ∧ _ ∧ _ ∧ _ ∧ _ ∧ _ ∧ _ ∧ _ ∧ _ ∧ _)
    clear bC
    go_wp2_with fail
    clear b1
    refine hKK.out _ _ hHeld ?_
    clear hHeld
    intro hHeld
    clear hKK KK
    try simp only [Act.put, List.setIfInBounds_toArray, List.set_cons_zero, List.set_cons_succ]
    refine wpAnyH_ready (rs := [3]) (by kernel_rfl) (by simp) ?_
    refine cons' rfl (fun KK hKK => ?_)
    go_simp
    refine (GT2.out _ hB).mono ?_
    rintro e w13 ⟨p2, q2, r2, t2, rfl, b2, h2⟩
    have bC := b2
    replace hB := hB.trans (bC.mono hB.size)
    replace m0 := below_cell bC m0
    replace m1 := below_cell bC m1
    replace hHeld := (⟨below_cell bC hHeld.1, below_cell bC hHeld.2.1, below_cell bC hHeld.2.2.1, below_cell bC hHeld.2.2.2.1, below_cell bC hHeld.2.2.2.2.1, below_cell bC hHeld.2.2.2.2.2.1, below_cell bC hHeld.2.2.2.2.2.2.1, below_cell bC hHeld.2.2.2.2.2.2.2.1, below_cell bC hHeld.2.2.2.2.2.2.2.2.1, below_cell bC hHeld.2.2.2.2.2.2.2.2.2.1, below_cell bC hHeld.2.2.2.2.2.2.2.2.2.2.1, below_cell bC hHeld.2.2.2.2.2.2.2.2.2.2.2⟩ : _ ∧ _ ∧ _ ∧ _ ∧ _ ∧ _ ∧ _ ∧ _ ∧ _ ∧ _ ∧ _ ∧ _)
    clear bC
    go_wp2_with fail
    replace h1 := h1.on b2
    clear b2
    refine hKK.out _ _ hHeld ?_
    clear hHeld
    intro hHeld
    clear hKK KK
    try simp only [Act.put, List.setIfInBounds_toArray, List.set_cons_zero, List.set_cons_succ]
    refine wpAnyH_ready (rs := [4]) (by kernel_rfl) (by simp) ?_
    refine cons' rfl (fun KK hKK => ?_)
    go_simp
    refine (GM.out _ p1 q1 r1 t1 p2 q2 r2 t2 h1 h2).mono ?_
    rintro e w14 ⟨rfl, b3⟩
    have bC := b3
    replace hB := hB.trans (bC.mono hB.size)
    replace m0 := below_cell bC m0
    replace m1 := below_cell bC m1
    replace hHeld := (⟨below_cell bC hHeld.1, below_cell bC hHeld.2.1, below_cell bC hHeld.2.2.1, below_cell bC hHeld.2.2.2.1, below_cell bC hHeld.2.2.2.2.1, below_cell bC hHeld.2.2.2.2.2.1, below_cell bC hHeld.2.2.2.2.2.2.1, below_cell bC hHeld.2.2.2.2.2.2.2.1, below_cell bC hHeld.2.2.2.2.2.2.2.2.1, below_cell bC hHeld.2.2.2.2.2.2.2.2.2.1, below_cell bC hHeld.2.2.2.2.2.2.2.2.2.2.1, below_cell bC hHeld.2.2.2.2.2.2.2.2.2.2.2⟩ : _ ∧ _ ∧ _ ∧ _ ∧ _ ∧ _ ∧ _ ∧ _ ∧ _ ∧ _ ∧ _ ∧ _)
    clear bC
    go_wp2_with fail
    clear b3 h1 h2
    refine hKK.out _ _ hHeld ?_
    clear hHeld
    intro hHeld
    clear hKK KK
    try simp only [Act.put, List.setIfInBounds_toArray, List.set_cons_zero, List.set_cons_succ]
    refine take' 5 (v := ?_) rfl (by kernel_rfl) (by kernel_rfl) (by kernel_rfl) (fun _ _ _ h => h) (Or.inl ⟨by rfl, ?_⟩) (by assumption) ?_
    rotate_left
    · intro w9 hSw
      go_simp
      first | done | with_reducible rfl
    simp only [Act.put, List.setIfInBounds_toArray, List.set_cons_zero, List.set_cons_succ]
    refine wpAnyH_done (by kernel_rfl) ?_ _
    have x0 := hHeld.1
    have x1 := hHeld.2.1
    have x2 := hHeld.2.2.1
    have x3 := hHeld.2.2.2.1
    have x4 := hHeld.2.2.2.2.1
    have x5 := hHeld.2.2.2.2.2.1
    have y0 := hHeld.2.2.2.2.2.2.1
    have y1 := hHeld.2.2.2.2.2.2.2.1
    have y2 := hHeld.2.2.2.2.2.2.2.2.1
    have y3 := hHeld.2.2.2.2.2.2.2.2.2.1
    have y4 := hHeld.2.2.2.2.2.2.2.2.2.2.1
    have y5 := hHeld.2.2.2.2.2.2.2.2.2.2.2
    clear hHeld GM
    have lB := hB.size
    have l5b : c5 < w14.heap.size := World.block_lt_of_cell? w14 ⟨c5, 0, none⟩ x0
    have l6b : c6 < w14.heap.size := World.block_lt_of_cell? w14 ⟨c6, 0, none⟩ y0
    have lmb : w.heap.size + 1 < w14.heap.size := World.block_lt_of_cell? w14 ⟨w.heap.size + 1, 0, none⟩ m0
    go_upto_region 3 with fail
    go_cut [8, 9] from 22 to 23 (fun p8 p9 wx => ∃ wh9 c8 c9, wh9 = wx ∧ p8 = .pointer (some ⟨c8, 0, none⟩) ∧ p9 = .pointer (some ⟨c9, 0, none⟩) ∧ w14.heap.size ≤ c8 ∧ w14.heap.size ≤ c9 ∧ c8 ≠ c9 ∧ Sx wx c8 x ∧ Sx wx c9 y ∧ Below w14.heap.size w14 wx)
    case first =>
      have hl_0 : c5 < w14.heap.size := World.block_lt_of_cell? w14 ⟨c5, 0, none⟩ x0
      have hl_1 : c6 < w14.heap.size := World.block_lt_of_cell? w14 ⟨c6, 0, none⟩ y0
      have bT : Below w14.heap.size w14 w14 := Below.refl _ _
      have bD : Below w14.heap.size w14 w14.drew := (Below.refl _ _).drew
      have kx0 := below_cell bD x0
      have kx1 := below_cell bD x1
      have kx2 := below_cell bD x2
      have kx3 := below_cell bD x3
      have kx4 := below_cell bD x4
      have kx5 := below_cell bD x5
      have ky0 := below_cell bD y0
      have ky1 := below_cell bD y1
      have ky2 := below_cell bD y2
      have ky3 := below_cell bD y3
      have ky4 := below_cell bD y4
      have ky5 := below_cell bD y5
      replace bT := bT.trans (bD.mono bT.size)
      refine wp_region_held_drew (S := fun w' => w'.cell? ⟨c5, 0, none⟩ = some (.bool x.a.s) ∧ w'.cell? ⟨c5, 1, none⟩ = some (.slice x.a.a x.a.n x.a.c) ∧ w'.cell? ⟨c5, 2, none⟩ = some (.slice x.a.b x.a.m x.a.e) ∧ w'.cell? ⟨c5, 3, none⟩ = some (.bool x.b.s) ∧ w'.cell? ⟨c5, 4, none⟩ = some (.slice x.b.a x.b.n x.b.c) ∧ w'.cell? ⟨c5, 5, none⟩ = some (.slice x.b.b x.b.m x.b.e) ∧ w'.cell? ⟨c6, 0, none⟩ = some (.bool y.a.s) ∧ w'.cell? ⟨c6, 1, none⟩ = some (.slice y.a.a y.a.n y.a.c) ∧ w'.cell? ⟨c6, 2, none⟩ = some (.slice y.a.b y.a.m y.a.e) ∧ w'.cell? ⟨c6, 3, none⟩ = some (.bool y.b.s) ∧ w'.cell? ⟨c6, 4, none⟩ = some (.slice y.b.a y.b.n y.b.c) ∧ w'.cell? ⟨c6, 5, none⟩ = some (.slice y.b.b y.b.m y.b.e)) (by kernel_rfl) ⟨kx0, kx1, kx2, kx3, kx4, kx5, ky0, ky1, ky2, ky3, ky4, ky5⟩ (fun hHeld => ?_)
      clear kx0 kx1 kx2 kx3 kx4 kx5 ky0 ky1 ky2 ky3 ky4 ky5
      generalize w14.drew = wG0 at bD bT hHeld ⊢
      clear bD x0 x1 x2 x3 x4 x5 y0 y1 y2 y3 y4 y5
      refine take' 0 (v := ?_) rfl (by kernel_rfl) (by kernel_rfl) (by kernel_rfl) (fun _ _ _ h => h) (Or.inl ⟨by rfl, ?_⟩) (by assumption) ?_
      rotate_left
      · intro w9 hSw
        go_simp
        first | done | with_reducible rfl
      simp only [Act.put, List.setIfInBounds_toArray, List.set_cons_zero, List.set_cons_succ]
      refine take' 1 (v := ?_) rfl (by kernel_rfl) (by kernel_rfl) (by kernel_rfl) (fun _ _ _ h => h) (Or.inl ⟨by rfl, ?_⟩) (by assumption) ?_
      rotate_left
      · intro w9 hSw
        go_simp
        first | done | with_reducible rfl
      simp only [Act.put, List.setIfInBounds_toArray, List.set_cons_zero, List.set_cons_succ]
      refine wpAnyH_ready (rs := [2, 3]) (by kernel_rfl) (by simp) ?_
      refine consT rfl (fun KK hKK => ?_) ?_
      · skip
        go_simp
        have vA : Sx (wG0.alloc (.cells #[.bool false, .slice none 0 0, .slice none 0 0, .bool false, .slice none 0 0, .slice none 0 0] 40)) wG0.heap.size zeroD := ⟨fun i z hz => by
          match i, hz with
          | 0, hz => obtain rfl := Option.some.inj hz; go_simp; try first | done | rfl | exact ⟨rfl, rfl⟩ | exact ⟨rfl, rfl, rfl⟩
          | 1, hz => obtain rfl := Option.some.inj hz; go_simp; try first | done | rfl | exact ⟨rfl, rfl⟩ | exact ⟨rfl, rfl, rfl⟩
          | 2, hz => obtain rfl := Option.some.inj hz; go_simp; try first | done | rfl | exact ⟨rfl, rfl⟩ | exact ⟨rfl, rfl, rfl⟩
          | 3, hz => obtain rfl := Option.some.inj hz; go_simp; try first | done | rfl | exact ⟨rfl, rfl⟩ | exact ⟨rfl, rfl, rfl⟩
          | 4, hz => obtain rfl := Option.some.inj hz; go_simp; try first | done | rfl | exact ⟨rfl, rfl⟩ | exact ⟨rfl, rfl, rfl⟩
          | 5, hz => obtain rfl := Option.some.inj hz; go_simp; try first | done | rfl | exact ⟨rfl, rfl⟩ | exact ⟨rfl, rfl, rfl⟩
          | i + 6, hz => simp [DelV.cells6] at hz, row_new wG0 _ 40⟩
        have bA := below_alloc (w := wG0) (.cells #[.bool false, .slice none 0 0, .slice none 0 0, .bool false, .slice none 0 0, .slice none 0 0] 40)
        have hcA : w14.heap.size ≤ wG0.heap.size := bT.size
        generalize wG0.alloc (.cells #[.bool false, .slice none 0 0, .slice none 0 0, .bool false, .slice none 0 0, .slice none 0 0] 40) = wG1 at vA bA ⊢
        replace bT := bT.trans (bA.mono bT.size)
        replace hHeld := (⟨below_cell bA hHeld.1, below_cell bA hHeld.2.1, below_cell bA hHeld.2.2.1, below_cell bA hHeld.2.2.2.1, below_cell bA hHeld.2.2.2.2.1, below_cell bA hHeld.2.2.2.2.2.1, below_cell bA hHeld.2.2.2.2.2.2.1, below_cell bA hHeld.2.2.2.2.2.2.2.1, below_cell bA hHeld.2.2.2.2.2.2.2.2.1, below_cell bA hHeld.2.2.2.2.2.2.2.2.2.1, below_cell bA hHeld.2.2.2.2.2.2.2.2.2.2.1, below_cell bA hHeld.2.2.2.2.2.2.2.2.2.2.2⟩ : _ ∧ _ ∧ _ ∧ _ ∧ _ ∧ _ ∧ _ ∧ _ ∧ _ ∧ _ ∧ _ ∧ _)
        clear bA
        refine hKK.out _ _ hHeld ?_
        clear hHeld
        intro hHeld
        clear hKK KK
        try simp only [Act.put, List.setIfInBounds_toArray, List.set_cons_zero, List.set_cons_succ]
        obtain ⟨cA, hcc⟩ : ∃ cc, wG0.heap.size = cc := ⟨_, rfl⟩
        rw [hcc] at vA hcA
        try rw [hcc] at hne
        try rw [hcc]
        clear hcc
        refine wpAnyH_ready (rs := [3]) (by kernel_rfl) (by simp) ?_
        refine cons' rfl (fun KK hKK => ?_)
        go_simp
        have vB : Sx (wG1.alloc (.cells #[.bool false, .slice none 0 0, .slice none 0 0, .bool false, .slice none 0 0, .slice none 0 0] 40)) wG1.heap.size zeroD := ⟨fun i z hz => by
          match i, hz with
          | 0, hz => obtain rfl := Option.some.inj hz; go_simp; try first | done | rfl | exact ⟨rfl, rfl⟩ | exact ⟨rfl, rfl, rfl⟩
          | 1, hz => obtain rfl := Option.some.inj hz; go_simp; try first | done | rfl | exact ⟨rfl, rfl⟩ | exact ⟨rfl, rfl, rfl⟩
          | 2, hz => obtain rfl := Option.some.inj hz; go_simp; try first | done | rfl | exact ⟨rfl, rfl⟩ | exact ⟨rfl, rfl, rfl⟩
          | 3, hz => obtain rfl := Option.some.inj hz; go_simp; try first | done | rfl | exact ⟨rfl, rfl⟩ | exact ⟨rfl, rfl, rfl⟩
          | 4, hz => obtain rfl := Option.some.inj hz; go_simp; try first | done | rfl | exact ⟨rfl, rfl⟩ | exact ⟨rfl, rfl, rfl⟩
          | 5, hz => obtain rfl := Option.some.inj hz; go_simp; try first | done | rfl | exact ⟨rfl, rfl⟩ | exact ⟨rfl, rfl, rfl⟩
          | i + 6, hz => simp [DelV.cells6] at hz, row_new wG1 _ 40⟩
        have bA := below_alloc (w := wG1) (.cells #[.bool false, .slice none 0 0, .slice none 0 0, .bool false, .slice none 0 0, .slice none 0 0] 40)
        have hcB : w14.heap.size ≤ wG1.heap.size := bT.size
        have hne : cA ≠ wG1.heap.size := by have := vA.2.lt; omega
        generalize wG1.alloc (.cells #[.bool false, .slice none 0 0, .slice none 0 0, .bool false, .slice none 0 0, .slice none 0 0] 40) = wG2 at vB bA ⊢
        replace bT := bT.trans (bA.mono bT.size)
        replace vA := vA.later bA
        replace hHeld := (⟨below_cell bA hHeld.1, below_cell bA hHeld.2.1, below_cell bA hHeld.2.2.1, below_cell bA hHeld.2.2.2.1, below_cell bA hHeld.2.2.2.2.1, below_cell bA hHeld.2.2.2.2.2.1, below_cell bA hHeld.2.2.2.2.2.2.1, below_cell bA hHeld.2.2.2.2.2.2.2.1, below_cell bA hHeld.2.2.2.2.2.2.2.2.1, below_cell bA hHeld.2.2.2.2.2.2.2.2.2.1, below_cell bA hHeld.2.2.2.2.2.2.2.2.2.2.1, below_cell bA hHeld.2.2.2.2.2.2.2.2.2.2.2⟩ : _ ∧ _ ∧ _ ∧ _ ∧ _ ∧ _ ∧ _ ∧ _ ∧ _ ∧ _ ∧ _ ∧ _)
        clear bA
        refine hKK.out _ _ hHeld ?_
        clear hHeld
        intro hHeld
        clear hKK KK
        try simp only [Act.put, List.setIfInBounds_toArray, List.set_cons_zero, List.set_cons_succ]
        obtain ⟨cB, hcc⟩ : ∃ cc, wG1.heap.size = cc := ⟨_, rfl⟩
        rw [hcc] at vB hcB
        try rw [hcc] at hne
        try rw [hcc]
        clear hcc
        refine wpAnyH_ready (rs := [4]) (by kernel_rfl) (by simp) ?_
        refine cons' rfl (fun KK hKK => ?_)
        have fz := fun o => vA.2.frozen o
        have z0 := vA.1 0 _ rfl
        have z1 := vA.1 1 _ rfl
        have z2 := vA.1 2 _ rfl
        have z3 := vA.1 3 _ rfl
        have z4 := vA.1 4 _ rfl
        have z5 := vA.1 5 _ rfl
        replace z0 : wG2.cell? ⟨cA, 0, none⟩ = some (.bool false) := z0
        replace z1 : wG2.cell? ⟨cA, 1, none⟩ = some (.slice none 0 0) := z1
        replace z2 : wG2.cell? ⟨cA, 2, none⟩ = some (.slice none 0 0) := z2
        replace z3 : wG2.cell? ⟨cA, 3, none⟩ = some (.bool false) := z3
        replace z4 : wG2.cell? ⟨cA, 4, none⟩ = some (.slice none 0 0) := z4
        replace z5 : wG2.cell? ⟨cA, 5, none⟩ = some (.slice none 0 0) := z5
        replace bT := stM_bel x.cells6 w14 wG2 w14.heap.size cA 0 bT hcA
        have hH2 := (⟨stM_out x.cells6 wG2 cA 0 _ _ _ (fun e => by omega) hHeld.1, stM_out x.cells6 wG2 cA 0 _ _ _ (fun e => by omega) hHeld.2.1, stM_out x.cells6 wG2 cA 0 _ _ _ (fun e => by omega) hHeld.2.2.1, stM_out x.cells6 wG2 cA 0 _ _ _ (fun e => by omega) hHeld.2.2.2.1, stM_out x.cells6 wG2 cA 0 _ _ _ (fun e => by omega) hHeld.2.2.2.2.1, stM_out x.cells6 wG2 cA 0 _ _ _ (fun e => by omega) hHeld.2.2.2.2.2.1, stM_out x.cells6 wG2 cA 0 _ _ _ (fun e => by omega) hHeld.2.2.2.2.2.2.1, stM_out x.cells6 wG2 cA 0 _ _ _ (fun e => by omega) hHeld.2.2.2.2.2.2.2.1, stM_out x.cells6 wG2 cA 0 _ _ _ (fun e => by omega) hHeld.2.2.2.2.2.2.2.2.1, stM_out x.cells6 wG2 cA 0 _ _ _ (fun e => by omega) hHeld.2.2.2.2.2.2.2.2.2.1, stM_out x.cells6 wG2 cA 0 _ _ _ (fun e => by omega) hHeld.2.2.2.2.2.2.2.2.2.2.1, stM_out x.cells6 wG2 cA 0 _ _ _ (fun e => by omega) hHeld.2.2.2.2.2.2.2.2.2.2.2⟩ : _ ∧ _ ∧ _ ∧ _ ∧ _ ∧ _ ∧ _ ∧ _ ∧ _ ∧ _ ∧ _ ∧ _)
        have fB := vB.far x.cells6 (c := cA) (by omega)
        have pA := vA.put x
        clear vA vB
        have vB := fB
        have vA := pA
        clear fB pA
        obtain ⟨wG3, hw9⟩ : ∃ w9, stM wG2 cA 0 x.cells6 = w9 := ⟨_, rfl⟩
        rw [hw9] at bT hH2 vA vB
        have hch : ((((((wG2.setCell ⟨cA, 0, none⟩ (.bool x.a.s)).setCell ⟨cA, 1, none⟩ (.slice x.a.a x.a.n x.a.c)).setCell ⟨cA, 2, none⟩ (.slice x.a.b x.a.m x.a.e)).setCell ⟨cA, 3, none⟩ (.bool x.b.s)).setCell ⟨cA, 4, none⟩ (.slice x.b.a x.b.n x.b.c)).setCell ⟨cA, 5, none⟩ (.slice x.b.b x.b.m x.b.e)) = wG3 := hw9
        clear hw9
        go_simp
        try rw [hch]
        clear hch fz z0 z1 z2 z3 z4 z5
        refine hKK.out _ _ hH2 ?_
        clear hHeld
        intro hHeld
        clear hKK KK
        try simp only [Act.put, List.setIfInBounds_toArray, List.set_cons_zero, List.set_cons_succ]
        clear hH2
        refine wpAnyH_ready (rs := [5]) (by kernel_rfl) (by simp) ?_
        refine cons' rfl (fun KK hKK => ?_)
        have fz := fun o => vB.2.frozen o
        have z0 := vB.1 0 _ rfl
        have z1 := vB.1 1 _ rfl
        have z2 := vB.1 2 _ rfl
        have z3 := vB.1 3 _ rfl
        have z4 := vB.1 4 _ rfl
        have z5 := vB.1 5 _ rfl
        replace z0 : wG3.cell? ⟨cB, 0, none⟩ = some (.bool false) := z0
        replace z1 : wG3.cell? ⟨cB, 1, none⟩ = some (.slice none 0 0) := z1
        replace z2 : wG3.cell? ⟨cB, 2, none⟩ = some (.slice none 0 0) := z2
        replace z3 : wG3.cell? ⟨cB, 3, none⟩ = some (.bool false) := z3
        replace z4 : wG3.cell? ⟨cB, 4, none⟩ = some (.slice none 0 0) := z4
        replace z5 : wG3.cell? ⟨cB, 5, none⟩ = some (.slice none 0 0) := z5
        replace bT := stM_bel y.cells6 w14 wG3 w14.heap.size cB 0 bT hcB
        have hH2 := (⟨stM_out y.cells6 wG3 cB 0 _ _ _ (fun e => by omega) hHeld.1, stM_out y.cells6 wG3 cB 0 _ _ _ (fun e => by omega) hHeld.2.1, stM_out y.cells6 wG3 cB 0 _ _ _ (fun e => by omega) hHeld.2.2.1, stM_out y.cells6 wG3 cB 0 _ _ _ (fun e => by omega) hHeld.2.2.2.1, stM_out y.cells6 wG3 cB 0 _ _ _ (fun e => by omega) hHeld.2.2.2.2.1, stM_out y.cells6 wG3 cB 0 _ _ _ (fun e => by omega) hHeld.2.2.2.2.2.1, stM_out y.cells6 wG3 cB 0 _ _ _ (fun e => by omega) hHeld.2.2.2.2.2.2.1, stM_out y.cells6 wG3 cB 0 _ _ _ (fun e => by omega) hHeld.2.2.2.2.2.2.2.1, stM_out y.cells6 wG3 cB 0 _ _ _ (fun e => by omega) hHeld.2.2.2.2.2.2.2.2.1, stM_out y.cells6 wG3 cB 0 _ _ _ (fun e => by omega) hHeld.2.2.2.2.2.2.2.2.2.1, stM_out y.cells6 wG3 cB 0 _ _ _ (fun e => by omega) hHeld.2.2.2.2.2.2.2.2.2.2.1, stM_out y.cells6 wG3 cB 0 _ _ _ (fun e => by omega) hHeld.2.2.2.2.2.2.2.2.2.2.2⟩ : _ ∧ _ ∧ _ ∧ _ ∧ _ ∧ _ ∧ _ ∧ _ ∧ _ ∧ _ ∧ _ ∧ _)
        have fA := vA.far y.cells6 (c := cB) (by omega)
        have pB := vB.put y
        clear vB vA
        have vA := fA
        have vB := pB
        clear fA pB
        obtain ⟨wG4, hw9⟩ : ∃ w9, stM wG3 cB 0 y.cells6 = w9 := ⟨_, rfl⟩
        rw [hw9] at bT hH2 vA vB
        have hch : ((((((wG3.setCell ⟨cB, 0, none⟩ (.bool y.a.s)).setCell ⟨cB, 1, none⟩ (.slice y.a.a y.a.n y.a.c)).setCell ⟨cB, 2, none⟩ (.slice y.a.b y.a.m y.a.e)).setCell ⟨cB, 3, none⟩ (.bool y.b.s)).setCell ⟨cB, 4, none⟩ (.slice y.b.a y.b.n y.b.c)).setCell ⟨cB, 5, none⟩ (.slice y.b.b y.b.m y.b.e)) = wG4 := hw9
        clear hw9
        go_simp
        try rw [hch]
        clear hch fz z0 z1 z2 z3 z4 z5
        refine hKK.out _ _ hH2 ?_
        clear hHeld
        intro hHeld
        clear hKK KK
        try simp only [Act.put, List.setIfInBounds_toArray, List.set_cons_zero, List.set_cons_succ]
        clear hH2
        refine wpAnyH_done (by kernel_rfl) ?_ _
        go_wp2_with fail
        go_meet
        exact ⟨_, cA, cB, rfl, rfl, rfl, by omega, by omega, by omega, vA, vB, bT⟩
      refine consT rfl (fun KK hKK => ?_) ?_
      · skip
        go_simp
        have vB : Sx (wG0.alloc (.cells #[.bool false, .slice none 0 0, .slice none 0 0, .bool false, .slice none 0 0, .slice none 0 0] 40)) wG0.heap.size zeroD := ⟨fun i z hz => by
          match i, hz with
          | 0, hz => obtain rfl := Option.some.inj hz; go_simp; try first | done | rfl | exact ⟨rfl, rfl⟩ | exact ⟨rfl, rfl, rfl⟩
          | 1, hz => obtain rfl := Option.some.inj hz; go_simp; try first | done | rfl | exact ⟨rfl, rfl⟩ | exact ⟨rfl, rfl, rfl⟩
          | 2, hz => obtain rfl := Option.some.inj hz; go_simp; try first | done | rfl | exact ⟨rfl, rfl⟩ | exact ⟨rfl, rfl, rfl⟩
          | 3, hz => obtain rfl := Option.some.inj hz; go_simp; try first | done | rfl | exact ⟨rfl, rfl⟩ | exact ⟨rfl, rfl, rfl⟩
          | 4, hz => obtain rfl := Option.some.inj hz; go_simp; try first | done | rfl | exact ⟨rfl, rfl⟩ | exact ⟨rfl, rfl, rfl⟩
          | 5, hz => obtain rfl := Option.some.inj hz; go_simp; try first | done | rfl | exact ⟨rfl, rfl⟩ | exact ⟨rfl, rfl, rfl⟩
          | i + 6, hz => simp [DelV.cells6] at hz, row_new wG0 _ 40⟩
        have bA := below_alloc (w := wG0) (.cells #[.bool false, .slice none 0 0, .slice none 0 0, .bool false, .slice none 0 0, .slice none 0 0] 40)
        have hcB : w14.heap.size ≤ wG0.heap.size := bT.size
        generalize wG0.alloc (.cells #[.bool false, .slice none 0 0, .slice none 0 0, .bool false, .slice none 0 0, .slice none 0 0] 40) = wG1 at vB bA ⊢
        replace bT := bT.trans (bA.mono bT.size)
        replace hHeld := (⟨below_cell bA hHeld.1, below_cell bA hHeld.2.1, below_cell bA hHeld.2.2.1, below_cell bA hHeld.2.2.2.1, below_cell bA hHeld.2.2.2.2.1, below_cell bA hHeld.2.2.2.2.2.1, below_cell bA hHeld.2.2.2.2.2.2.1, below_cell bA hHeld.2.2.2.2.2.2.2.1, below_cell bA hHeld.2.2.2.2.2.2.2.2.1, below_cell bA hHeld.2.2.2.2.2.2.2.2.2.1, below_cell bA hHeld.2.2.2.2.2.2.2.2.2.2.1, below_cell bA hHeld.2.2.2.2.2.2.2.2.2.2.2⟩ : _ ∧ _ ∧ _ ∧ _ ∧ _ ∧ _ ∧ _ ∧ _ ∧ _ ∧ _ ∧ _ ∧ _)
        clear bA
        refine hKK.out _ _ hHeld ?_
        clear hHeld
        intro hHeld
        clear hKK KK
        try simp only [Act.put, List.setIfInBounds_toArray, List.set_cons_zero, List.set_cons_succ]
        obtain ⟨cB, hcc⟩ : ∃ cc, wG0.heap.size = cc := ⟨_, rfl⟩
        rw [hcc] at vB hcB
        try rw [hcc] at hne
        try rw [hcc]
        clear hcc
        refine wpAnyH_ready (rs := [2]) (by kernel_rfl) (by simp) ?_
        refine cons' rfl (fun KK hKK => ?_)
        go_simp
        have vA : Sx (wG1.alloc (.cells #[.bool false, .slice none 0 0, .slice none 0 0, .bool false, .slice none 0 0, .slice none 0 0] 40)) wG1.heap.size zeroD := ⟨fun i z hz => by
          match i, hz with
          | 0, hz => obtain rfl := Option.some.inj hz; go_simp; try first | done | rfl | exact ⟨rfl, rfl⟩ | exact ⟨rfl, rfl, rfl⟩
          | 1, hz => obtain rfl := Option.some.inj hz; go_simp; try first | done | rfl | exact ⟨rfl, rfl⟩ | exact ⟨rfl, rfl, rfl⟩
          | 2, hz => obtain rfl := Option.some.inj hz; go_simp; try first | done | rfl | exact ⟨rfl, rfl⟩ | exact ⟨rfl, rfl, rfl⟩
          | 3, hz => obtain rfl := Option.some.inj hz; go_simp; try first | done | rfl | exact ⟨rfl, rfl⟩ | exact ⟨rfl, rfl, rfl⟩
          | 4, hz => obtain rfl := Option.some.inj hz; go_simp; try first | done | rfl | exact ⟨rfl, rfl⟩ | exact ⟨rfl, rfl, rfl⟩
          | 5, hz => obtain rfl := Option.some.inj hz; go_simp; try first | done | rfl | exact ⟨rfl, rfl⟩ | exact ⟨rfl, rfl, rfl⟩
          | i + 6, hz => simp [DelV.cells6] at hz, row_new wG1 _ 40⟩
        have bA := below_alloc (w := wG1) (.cells #[.bool false, .slice none 0 0, .slice none 0 0, .bool false, .slice none 0 0, .slice none 0 0] 40)
        have hcA : w14.heap.size ≤ wG1.heap.size := bT.size
        have hne : cB ≠ wG1.heap.size := by have := vB.2.lt; omega
        generalize wG1.alloc (.cells #[.bool false, .slice none 0 0, .slice none 0 0, .bool false, .slice none 0 0, .slice none 0 0] 40) = wG2 at vA bA ⊢
        replace bT := bT.trans (bA.mono bT.size)
        replace vB := vB.later bA
        replace hHeld := (⟨below_cell bA hHeld.1, below_cell bA hHeld.2.1, below_cell bA hHeld.2.2.1, below_cell bA hHeld.2.2.2.1, below_cell bA hHeld.2.2.2.2.1, below_cell bA hHeld.2.2.2.2.2.1, below_cell bA hHeld.2.2.2.2.2.2.1, below_cell bA hHeld.2.2.2.2.2.2.2.1, below_cell bA hHeld.2.2.2.2.2.2.2.2.1, below_cell bA hHeld.2.2.2.2.2.2.2.2.2.1, below_cell bA hHeld.2.2.2.2.2.2.2.2.2.2.1, below_cell bA hHeld.2.2.2.2.2.2.2.2.2.2.2⟩ : _ ∧ _ ∧ _ ∧ _ ∧ _ ∧ _ ∧ _ ∧ _ ∧ _ ∧ _ ∧ _ ∧ _)
        clear bA
        refine hKK.out _ _ hHeld ?_
        clear hHeld
        intro hHeld
        clear hKK KK
        try simp only [Act.put, List.setIfInBounds_toArray, List.set_cons_zero, List.set_cons_succ]
        obtain ⟨cA, hcc⟩ : ∃ cc, wG1.heap.size = cc := ⟨_, rfl⟩
        rw [hcc] at vA hcA
        try rw [hcc] at hne
        try rw [hcc]
        clear hcc
        refine wpAnyH_ready (rs := [4]) (by kernel_rfl) (by simp) ?_
        refine cons' rfl (fun KK hKK => ?_)
        have fz := fun o => vA.2.frozen o
        have z0 := vA.1 0 _ rfl
        have z1 := vA.1 1 _ rfl
        have z2 := vA.1 2 _ rfl
        have z3 := vA.1 3 _ rfl
        have z4 := vA.1 4 _ rfl
        have z5 := vA.1 5 _ rfl
        replace z0 : wG2.cell? ⟨cA, 0, none⟩ = some (.bool false) := z0
        replace z1 : wG2.cell? ⟨cA, 1, none⟩ = some (.slice none 0 0) := z1
        replace z2 : wG2.cell? ⟨cA, 2, none⟩ = some (.slice none 0 0) := z2
        replace z3 : wG2.cell? ⟨cA, 3, none⟩ = some (.bool false) := z3
        replace z4 : wG2.cell? ⟨cA, 4, none⟩ = some (.slice none 0 0) := z4
        replace z5 : wG2.cell? ⟨cA, 5, none⟩ = some (.slice none 0 0) := z5
        replace bT := stM_bel x.cells6 w14 wG2 w14.heap.size cA 0 bT hcA
        have hH2 := (⟨stM_out x.cells6 wG2 cA 0 _ _ _ (fun e => by omega) hHeld.1, stM_out x.cells6 wG2 cA 0 _ _ _ (fun e => by omega) hHeld.2.1, stM_out x.cells6 wG2 cA 0 _ _ _ (fun e => by omega) hHeld.2.2.1, stM_out x.cells6 wG2 cA 0 _ _ _ (fun e => by omega) hHeld.2.2.2.1, stM_out x.cells6 wG2 cA 0 _ _ _ (fun e => by omega) hHeld.2.2.2.2.1, stM_out x.cells6 wG2 cA 0 _ _ _ (fun e => by omega) hHeld.2.2.2.2.2.1, stM_out x.cells6 wG2 cA 0 _ _ _ (fun e => by omega) hHeld.2.2.2.2.2.2.1, stM_out x.cells6 wG2 cA 0 _ _ _ (fun e => by omega) hHeld.2.2.2.2.2.2.2.1, stM_out x.cells6 wG2 cA 0 _ _ _ (fun e => by omega) hHeld.2.2.2.2.2.2.2.2.1, stM_out x.cells6 wG2 cA 0 _ _ _ (fun e => by omega) hHeld.2.2.2.2.2.2.2.2.2.1, stM_out x.cells6 wG2 cA 0 _ _ _ (fun e => by omega) hHeld.2.2.2.2.2.2.2.2.2.2.1, stM_out x.cells6 wG2 cA 0 _ _ _ (fun e => by omega) hHeld.2.2.2.2.2.2.2.2.2.2.2⟩ : _ ∧ _ ∧ _ ∧ _ ∧ _ ∧ _ ∧ _ ∧ _ ∧ _ ∧ _ ∧ _ ∧ _)
        have fB := vB.far x.cells6 (c := cA) (by omega)
        have pA := vA.put x
        clear vA vB
        have vB := fB
        have vA := pA
        clear fB pA
        obtain ⟨wG3, hw9⟩ : ∃ w9, stM wG2 cA 0 x.cells6 = w9 := ⟨_, rfl⟩
        rw [hw9] at bT hH2 vA vB
        have hch : ((((((wG2.setCell ⟨cA, 0, none⟩ (.bool x.a.s)).setCell ⟨cA, 1, none⟩ (.slice x.a.a x.a.n x.a.c)).setCell ⟨cA, 2, none⟩ (.slice x.a.b x.a.m x.a.e)).setCell ⟨cA, 3, none⟩ (.bool x.b.s)).setCell ⟨cA, 4, none⟩ (.slice x.b.a x.b.n x.b.c)).setCell ⟨cA, 5, none⟩ (.slice x.b.b x.b.m x.b.e)) = wG3 := hw9
        clear hw9
        go_simp
        try rw [hch]
        clear hch fz z0 z1 z2 z3 z4 z5
        refine hKK.out _ _ hH2 ?_
        clear hHeld
        intro hHeld
        clear hKK KK
        try simp only [Act.put, List.setIfInBounds_toArray, List.set_cons_zero, List.set_cons_succ]
        clear hH2
        refine wpAnyH_ready (rs := [5]) (by kernel_rfl) (by simp) ?_
        refine cons' rfl (fun KK hKK => ?_)
        have fz := fun o => vB.2.frozen o
        have z0 := vB.1 0 _ rfl
        have z1 := vB.1 1 _ rfl
        have z2 := vB.1 2 _ rfl
        have z3 := vB.1 3 _ rfl
        have z4 := vB.1 4 _ rfl
        have z5 := vB.1 5 _ rfl
        replace z0 : wG3.cell? ⟨cB, 0, none⟩ = some (.bool false) := z0
        replace z1 : wG3.cell? ⟨cB, 1, none⟩ = some (.slice none 0 0) := z1
        replace z2 : wG3.cell? ⟨cB, 2, none⟩ = some (.slice none 0 0) := z2
        replace z3 : wG3.cell? ⟨cB, 3, none⟩ = some (.bool false) := z3
        replace z4 : wG3.cell? ⟨cB, 4, none⟩ = some (.slice none 0 0) := z4
        replace z5 : wG3.cell? ⟨cB, 5, none⟩ = some (.slice none 0 0) := z5
        replace bT := stM_bel y.cells6 w14 wG3 w14.heap.size cB 0 bT hcB
        have hH2 := (⟨stM_out y.cells6 wG3 cB 0 _ _ _ (fun e => by omega) hHeld.1, stM_out y.cells6 wG3 cB 0 _ _ _ (fun e => by omega) hHeld.2.1, stM_out y.cells6 wG3 cB 0 _ _ _ (fun e => by omega) hHeld.2.2.1, stM_out y.cells6 wG3 cB 0 _ _ _ (fun e => by omega) hHeld.2.2.2.1, stM_out y.cells6 wG3 cB 0 _ _ _ (fun e => by omega) hHeld.2.2.2.2.1, stM_out y.cells6 wG3 cB 0 _ _ _ (fun e => by omega) hHeld.2.2.2.2.2.1, stM_out y.cells6 wG3 cB 0 _ _ _ (fun e => by omega) hHeld.2.2.2.2.2.2.1, stM_out y.cells6 wG3 cB 0 _ _ _ (fun e => by omega) hHeld.2.2.2.2.2.2.2.1, stM_out y.cells6 wG3 cB 0 _ _ _ (fun e => by omega) hHeld.2.2.2.2.2.2.2.2.1, stM_out y.cells6 wG3 cB 0 _ _ _ (fun e => by omega) hHeld.2.2.2.2.2.2.2.2.2.1, stM_out y.cells6 wG3 cB 0 _ _ _ (fun e => by omega) hHeld.2.2.2.2.2.2.2.2.2.2.1, stM_out y.cells6 wG3 cB 0 _ _ _ (fun e => by omega) hHeld.2.2.2.2.2.2.2.2.2.2.2⟩ : _ ∧ _ ∧ _ ∧ _ ∧ _ ∧ _ ∧ _ ∧ _ ∧ _ ∧ _ ∧ _ ∧ _)
        have fA := vA.far y.cells6 (c := cB) (by omega)
        have pB := vB.put y
        clear vB vA
        have vA := fA
        have vB := pB
        clear fA pB
        obtain ⟨wG4, hw9⟩ : ∃ w9, stM wG3 cB 0 y.cells6 = w9 := ⟨_, rfl⟩
        rw [hw9] at bT hH2 vA vB
        have hch : ((((((wG3.setCell ⟨cB, 0, none⟩ (.bool y.a.s)).setCell ⟨cB, 1, none⟩ (.slice y.a.a y.a.n y.a.c)).setCell ⟨cB, 2, none⟩ (.slice y.a.b y.a.m y.a.e)).setCell ⟨cB, 3, none⟩ (.bool y.b.s)).setCell ⟨cB, 4, none⟩ (.slice y.b.a y.b.n y.b.c)).setCell ⟨cB, 5, none⟩ (.slice y.b.b y.b.m y.b.e)) = wG4 := hw9
        clear hw9
        go_simp
        try rw [hch]
        clear hch fz z0 z1 z2 z3 z4 z5
        refine hKK.out _ _ hH2 ?_
        clear hHeld
        intro hHeld
        clear hKK KK
        try simp only [Act.put, List.setIfInBounds_toArray, List.set_cons_zero, List.set_cons_succ]
        clear hH2
        refine wpAnyH_done (by kernel_rfl) ?_ _
        go_wp2_with fail
        go_meet
        exact ⟨_, cA, cB, rfl, rfl, rfl, by omega, by omega, by omega, vA, vB, bT⟩
      exact AllReadyH.nil
    case rest =>
      obtain ⟨wC, c8, c9, hwC, rfl, rfl, n8, n9, n89, v8, v9, bT⟩ := hcut
      subst hwC
      replace x0 := below_cell bT x0
      replace x1 := below_cell bT x1
      replace x2 := below_cell bT x2
      replace x3 := below_cell bT x3
      replace x4 := below_cell bT x4
      replace x5 := below_cell bT x5
      replace y0 := below_cell bT y0
      replace y1 := below_cell bT y1
      replace y2 := below_cell bT y2
      replace y3 := below_cell bT y3
      replace y4 := below_cell bT y4
      replace y5 := below_cell bT y5
      replace m0 := below_cell bT m0
      replace m1 := below_cell bT m1
      replace hB := hB.trans (bT.mono hB.size)
      clear bT
      by_cases hC : 0 < C
      · skip
        go_wp2_with fail
        have bD : Below wC.heap.size wC wC.drew := (Below.refl _ _).drew
        have kx0 := below_cell bD x0
        have kx1 := below_cell bD x1
        have kx2 := below_cell bD x2
        have kx3 := below_cell bD x3
        have kx4 := below_cell bD x4
        have kx5 := below_cell bD x5
        have ky0 := below_cell bD y0
        have ky1 := below_cell bD y1
        have ky2 := below_cell bD y2
        have ky3 := below_cell bD y3
        have ky4 := below_cell bD y4
        have ky5 := below_cell bD y5
        replace hB := hB.trans (bD.mono hB.size)
        replace v8 := v8.later bD
        replace v9 := v9.later bD
        replace m0 := below_cell bD m0
        replace m1 := below_cell bD m1
        refine wp_region_held_drew (S := fun w' => w'.cell? ⟨c5, 0, none⟩ = some (.bool x.a.s) ∧ w'.cell? ⟨c5, 1, none⟩ = some (.slice x.a.a x.a.n x.a.c) ∧ w'.cell? ⟨c5, 2, none⟩ = some (.slice x.a.b x.a.m x.a.e) ∧ w'.cell? ⟨c5, 3, none⟩ = some (.bool x.b.s) ∧ w'.cell? ⟨c5, 4, none⟩ = some (.slice x.b.a x.b.n x.b.c) ∧ w'.cell? ⟨c5, 5, none⟩ = some (.slice x.b.b x.b.m x.b.e) ∧ w'.cell? ⟨c6, 0, none⟩ = some (.bool y.a.s) ∧ w'.cell? ⟨c6, 1, none⟩ = some (.slice y.a.a y.a.n y.a.c) ∧ w'.cell? ⟨c6, 2, none⟩ = some (.slice y.a.b y.a.m y.a.e) ∧ w'.cell? ⟨c6, 3, none⟩ = some (.bool y.b.s) ∧ w'.cell? ⟨c6, 4, none⟩ = some (.slice y.b.a y.b.n y.b.c) ∧ w'.cell? ⟨c6, 5, none⟩ = some (.slice y.b.b y.b.m y.b.e)) (by kernel_rfl) ⟨kx0, kx1, kx2, kx3, kx4, kx5, ky0, ky1, ky2, ky3, ky4, ky5⟩ (fun hHeld => ?_)
        clear kx0 kx1 kx2 kx3 kx4 kx5 ky0 ky1 ky2 ky3 ky4 ky5
        generalize wC.drew = w21 at bD v8 v9 m0 m1 hB hHeld ⊢
        clear bD x0 x1 x2 x3 x4 x5 y0 y1 y2 y3 y4 y5
        refine take' 0 (v := ?_) rfl (by kernel_rfl) (by kernel_rfl) (by kernel_rfl) (fun _ _ _ h => h) (Or.inl ⟨by rfl, ?_⟩) (by assumption) ?_
        rotate_left
        · intro w9 hSw
          go_simp
          first | done | with_reducible rfl
        simp only [Act.put, List.setIfInBounds_toArray, List.set_cons_zero, List.set_cons_succ]
        refine take' 1 (v := ?_) rfl (by kernel_rfl) (by kernel_rfl) (by kernel_rfl) (fun _ _ _ h => h) (Or.inl ⟨by rfl, ?_⟩) (by assumption) ?_
        rotate_left
        · intro w9 hSw
          go_simp
          first | done | with_reducible rfl
        simp only [Act.put, List.setIfInBounds_toArray, List.set_cons_zero, List.set_cons_succ]
        refine wpAnyH_ready (rs := [2]) (by kernel_rfl) (by simp) ?_
        refine cons' rfl (fun KK hKK => ?_)
        have fz := fun o => v8.2.frozen o
        have z0 : w21.cell? ⟨c8, 0, none⟩ = some (.bool x.a.s) := v8.1 0 _ rfl
        have z1 : w21.cell? ⟨c8, 1, none⟩ = some (.slice x.a.a x.a.n x.a.c) := v8.1 1 _ rfl
        have z2 : w21.cell? ⟨c8, 2, none⟩ = some (.slice x.a.b x.a.m x.a.e) := v8.1 2 _ rfl
        have z3 : w21.cell? ⟨c8, 3, none⟩ = some (.bool x.b.s) := v8.1 3 _ rfl
        have z4 : w21.cell? ⟨c8, 4, none⟩ = some (.slice x.b.a x.b.n x.b.c) := v8.1 4 _ rfl
        have z5 : w21.cell? ⟨c8, 5, none⟩ = some (.slice x.b.b x.b.m x.b.e) := v8.1 5 _ rfl
        replace hB := stM_bel y.cells6 w w21 w.heap.size c8 0 hB (by omega)
        have hH2 := (⟨stM_out y.cells6 w21 c8 0 _ _ _ (fun e => by omega) hHeld.1, stM_out y.cells6 w21 c8 0 _ _ _ (fun e => by omega) hHeld.2.1, stM_out y.cells6 w21 c8 0 _ _ _ (fun e => by omega) hHeld.2.2.1, stM_out y.cells6 w21 c8 0 _ _ _ (fun e => by omega) hHeld.2.2.2.1, stM_out y.cells6 w21 c8 0 _ _ _ (fun e => by omega) hHeld.2.2.2.2.1, stM_out y.cells6 w21 c8 0 _ _ _ (fun e => by omega) hHeld.2.2.2.2.2.1, stM_out y.cells6 w21 c8 0 _ _ _ (fun e => by omega) hHeld.2.2.2.2.2.2.1, stM_out y.cells6 w21 c8 0 _ _ _ (fun e => by omega) hHeld.2.2.2.2.2.2.2.1, stM_out y.cells6 w21 c8 0 _ _ _ (fun e => by omega) hHeld.2.2.2.2.2.2.2.2.1, stM_out y.cells6 w21 c8 0 _ _ _ (fun e => by omega) hHeld.2.2.2.2.2.2.2.2.2.1, stM_out y.cells6 w21 c8 0 _ _ _ (fun e => by omega) hHeld.2.2.2.2.2.2.2.2.2.2.1, stM_out y.cells6 w21 c8 0 _ _ _ (fun e => by omega) hHeld.2.2.2.2.2.2.2.2.2.2.2⟩ : _ ∧ _ ∧ _ ∧ _ ∧ _ ∧ _ ∧ _ ∧ _ ∧ _ ∧ _ ∧ _ ∧ _)
        replace m0 := stM_out y.cells6 w21 c8 0 _ _ _ (fun e => by omega) m0
        replace m1 := stM_out y.cells6 w21 c8 0 _ _ _ (fun e => by omega) m1
        have f1 := v9.far y.cells6 (c := c8) (by omega)
        have f2 := v8.put y
        clear v8 v9
        have v9 := f1
        have v8 := f2
        clear f1 f2
        obtain ⟨w22, hw9⟩ : ∃ w9, stM w21 c8 0 y.cells6 = w9 := ⟨_, rfl⟩
        rw [hw9] at hB hH2 v8 v9 m0 m1
        have hch : ((((((w21.setCell ⟨c8, 0, none⟩ (.bool y.a.s)).setCell ⟨c8, 1, none⟩ (.slice y.a.a y.a.n y.a.c)).setCell ⟨c8, 2, none⟩ (.slice y.a.b y.a.m y.a.e)).setCell ⟨c8, 3, none⟩ (.bool y.b.s)).setCell ⟨c8, 4, none⟩ (.slice y.b.a y.b.n y.b.c)).setCell ⟨c8, 5, none⟩ (.slice y.b.b y.b.m y.b.e)) = w22 := hw9
        clear hw9
        go_simp
        try rw [hch]
        clear hch fz z0 z1 z2 z3 z4 z5
        refine hKK.out _ _ hH2 ?_
        clear hHeld
        intro hHeld
        clear hKK KK
        try simp only [Act.put, List.setIfInBounds_toArray, List.set_cons_zero, List.set_cons_succ]
        clear hH2
        refine wpAnyH_ready (rs := [3]) (by kernel_rfl) (by simp) ?_
        refine cons' rfl (fun KK hKK => ?_)
        have fz := fun o => v9.2.frozen o
        have z0 : w22.cell? ⟨c9, 0, none⟩ = some (.bool y.a.s) := v9.1 0 _ rfl
        have z1 : w22.cell? ⟨c9, 1, none⟩ = some (.slice y.a.a y.a.n y.a.c) := v9.1 1 _ rfl
        have z2 : w22.cell? ⟨c9, 2, none⟩ = some (.slice y.a.b y.a.m y.a.e) := v9.1 2 _ rfl
        have z3 : w22.cell? ⟨c9, 3, none⟩ = some (.bool y.b.s) := v9.1 3 _ rfl
        have z4 : w22.cell? ⟨c9, 4, none⟩ = some (.slice y.b.a y.b.n y.b.c) := v9.1 4 _ rfl
        have z5 : w22.cell? ⟨c9, 5, none⟩ = some (.slice y.b.b y.b.m y.b.e) := v9.1 5 _ rfl
        replace hB := stM_bel x.cells6 w w22 w.heap.size c9 0 hB (by omega)
        have hH2 := (⟨stM_out x.cells6 w22 c9 0 _ _ _ (fun e => by omega) hHeld.1, stM_out x.cells6 w22 c9 0 _ _ _ (fun e => by omega) hHeld.2.1, stM_out x.cells6 w22 c9 0 _ _ _ (fun e => by omega) hHeld.2.2.1, stM_out x.cells6 w22 c9 0 _ _ _ (fun e => by omega) hHeld.2.2.2.1, stM_out x.cells6 w22 c9 0 _ _ _ (fun e => by omega) hHeld.2.2.2.2.1, stM_out x.cells6 w22 c9 0 _ _ _ (fun e => by omega) hHeld.2.2.2.2.2.1, stM_out x.cells6 w22 c9 0 _ _ _ (fun e => by omega) hHeld.2.2.2.2.2.2.1, stM_out x.cells6 w22 c9 0 _ _ _ (fun e => by omega) hHeld.2.2.2.2.2.2.2.1, stM_out x.cells6 w22 c9 0 _ _ _ (fun e => by omega) hHeld.2.2.2.2.2.2.2.2.1, stM_out x.cells6 w22 c9 0 _ _ _ (fun e => by omega) hHeld.2.2.2.2.2.2.2.2.2.1, stM_out x.cells6 w22 c9 0 _ _ _ (fun e => by omega) hHeld.2.2.2.2.2.2.2.2.2.2.1, stM_out x.cells6 w22 c9 0 _ _ _ (fun e => by omega) hHeld.2.2.2.2.2.2.2.2.2.2.2⟩ : _ ∧ _ ∧ _ ∧ _ ∧ _ ∧ _ ∧ _ ∧ _ ∧ _ ∧ _ ∧ _ ∧ _)
        replace m0 := stM_out x.cells6 w22 c9 0 _ _ _ (fun e => by omega) m0
        replace m1 := stM_out x.cells6 w22 c9 0 _ _ _ (fun e => by omega) m1
        have f1 := v8.far x.cells6 (c := c9) (by omega)
        have f2 := v9.put x
        clear v9 v8
        have v8 := f1
        have v9 := f2
        clear f1 f2
        obtain ⟨w23, hw9⟩ : ∃ w9, stM w22 c9 0 x.cells6 = w9 := ⟨_, rfl⟩
        rw [hw9] at hB hH2 v8 v9 m0 m1
        have hch : ((((((w22.setCell ⟨c9, 0, none⟩ (.bool x.a.s)).setCell ⟨c9, 1, none⟩ (.slice x.a.a x.a.n x.a.c)).setCell ⟨c9, 2, none⟩ (.slice x.a.b x.a.m x.a.e)).setCell ⟨c9, 3, none⟩ (.bool x.b.s)).setCell ⟨c9, 4, none⟩ (.slice x.b.a x.b.n x.b.c)).setCell ⟨c9, 5, none⟩ (.slice x.b.b x.b.m x.b.e)) = w23 := hw9
        clear hw9
        go_simp
        try rw [hch]
        clear hch fz z0 z1 z2 z3 z4 z5
        refine hKK.out _ _ hH2 ?_
        clear hHeld
        intro hHeld
        clear hKK KK
        try simp only [Act.put, List.setIfInBounds_toArray, List.set_cons_zero, List.set_cons_succ]
        clear hH2
        refine wpAnyH_done (by kernel_rfl) ?_ _
        have x0 := hHeld.1
        have x1 := hHeld.2.1
        have x2 := hHeld.2.2.1
        have x3 := hHeld.2.2.2.1
        have x4 := hHeld.2.2.2.2.1
        have x5 := hHeld.2.2.2.2.2.1
        have y0 := hHeld.2.2.2.2.2.2.1
        have y1 := hHeld.2.2.2.2.2.2.2.1
        have y2 := hHeld.2.2.2.2.2.2.2.2.1
        have y3 := hHeld.2.2.2.2.2.2.2.2.2.1
        have y4 := hHeld.2.2.2.2.2.2.2.2.2.2.1
        have y5 := hHeld.2.2.2.2.2.2.2.2.2.2.2
        clear hHeld
        have a0 : w23.cell? ⟨c8, 0, none⟩ = some (.bool y.a.s) := v8.1 0 _ rfl
        have e0 : w23.cell? ⟨c9, 0, none⟩ = some (.bool x.a.s) := v9.1 0 _ rfl
        have a1 : w23.cell? ⟨c8, 1, none⟩ = some (.slice y.a.a y.a.n y.a.c) := v8.1 1 _ rfl
        have e1 : w23.cell? ⟨c9, 1, none⟩ = some (.slice x.a.a x.a.n x.a.c) := v9.1 1 _ rfl
        have a2 : w23.cell? ⟨c8, 2, none⟩ = some (.slice y.a.b y.a.m y.a.e) := v8.1 2 _ rfl
        have e2 : w23.cell? ⟨c9, 2, none⟩ = some (.slice x.a.b x.a.m x.a.e) := v9.1 2 _ rfl
        have a3 : w23.cell? ⟨c8, 3, none⟩ = some (.bool y.b.s) := v8.1 3 _ rfl
        have e3 : w23.cell? ⟨c9, 3, none⟩ = some (.bool x.b.s) := v9.1 3 _ rfl
        have a4 : w23.cell? ⟨c8, 4, none⟩ = some (.slice y.b.a y.b.n y.b.c) := v8.1 4 _ rfl
        have e4 : w23.cell? ⟨c9, 4, none⟩ = some (.slice x.b.a x.b.n x.b.c) := v9.1 4 _ rfl
        have a5 : w23.cell? ⟨c8, 5, none⟩ = some (.slice y.b.b y.b.m y.b.e) := v8.1 5 _ rfl
        have e5 : w23.cell? ⟨c9, 5, none⟩ = some (.slice x.b.b x.b.m x.b.e) := v9.1 5 _ rfl
        clear v8 v9
        obtain ⟨hnb, hor, hpos⟩ := OR.out y x (by rw [if_pos hC])
        have sS := SZ.out ⟨y, x⟩ ⟨HX.out.2.1, HX.out.1⟩ ⟨HX.out.2.2.2, HX.out.2.2.1⟩
        have G9 := hide' (fun w' a' k' hA' h' => GS.out ⟨y, x⟩ hnb w' a' k' hA' h')
        have hlt := half_lt hpos HQ.out.1 HQ.out.2
        have hge := (part_le hpos HQ.out.1 HQ.out.2).1
        obtain ⟨S, hS9⟩ : ∃ S, smallG [(GapV.mk y x).val] = S := ⟨_, rfl⟩
        rw [hS9] at hor hpos sS G9 hlt hge
        clear hS9 GS SZ OR hnb hpos
        replace hor := hide' hor
        obtain ⟨wI, hwC⟩ : ∃ wz9, w23.alloc (.cells #[.bool y.a.s, .slice y.a.a y.a.n y.a.c, .slice y.a.b y.a.m y.a.e, .bool y.b.s, .slice y.b.a y.b.n y.b.c, .slice y.b.b y.b.m y.b.e, .bool x.a.s, .slice x.a.a x.a.n x.a.c, .slice x.a.b x.a.m x.a.e, .bool x.b.s, .slice x.b.a x.b.n x.b.c, .slice x.b.b x.b.m x.b.e] 42) = wz9 := ⟨_, rfl⟩
        have bC : Below w23.heap.size w23 wI := by subst hwC; exact below_alloc _
        have g0 : wI.cell? ⟨w23.heap.size, 0, none⟩ = some (.bool y.a.s) := by subst hwC; go_simp
        have g1 : wI.cell? ⟨w23.heap.size, 1, none⟩ = some (.slice y.a.a y.a.n y.a.c) := by subst hwC; go_simp
        have g2 : wI.cell? ⟨w23.heap.size, 2, none⟩ = some (.slice y.a.b y.a.m y.a.e) := by subst hwC; go_simp
        have g3 : wI.cell? ⟨w23.heap.size, 3, none⟩ = some (.bool y.b.s) := by subst hwC; go_simp
        have g4 : wI.cell? ⟨w23.heap.size, 4, none⟩ = some (.slice y.b.a y.b.n y.b.c) := by subst hwC; go_simp
        have g5 : wI.cell? ⟨w23.heap.size, 5, none⟩ = some (.slice y.b.b y.b.m y.b.e) := by subst hwC; go_simp
        have g6 : wI.cell? ⟨w23.heap.size, 6, none⟩ = some (.bool x.a.s) := by subst hwC; go_simp
        have g7 : wI.cell? ⟨w23.heap.size, 7, none⟩ = some (.slice x.a.a x.a.n x.a.c) := by subst hwC; go_simp
        have g8 : wI.cell? ⟨w23.heap.size, 8, none⟩ = some (.slice x.a.b x.a.m x.a.e) := by subst hwC; go_simp
        have g9 : wI.cell? ⟨w23.heap.size, 9, none⟩ = some (.bool x.b.s) := by subst hwC; go_simp
        have g10 : wI.cell? ⟨w23.heap.size, 10, none⟩ = some (.slice x.b.a x.b.n x.b.c) := by subst hwC; go_simp
        have g11 : wI.cell? ⟨w23.heap.size, 11, none⟩ = some (.slice x.b.b x.b.m x.b.e) := by subst hwC; go_simp
        have hGA : GapsAt wI (some ⟨w23.heap.size, 0, none⟩) 1 (fun _ => ⟨y, x⟩) := one_gap (((GapV.mk y x).lies_iff wI w23.heap.size 0).1 ⟨g0, g1, g2, g3, g4, g5, g6, g7, g8, g9, g10, g11⟩) (World.block_lt_of_cell? wI ⟨w23.heap.size, 0, none⟩ g0)
        clear g0 g1 g2 g3 g4 g5 g6 g7 g8 g9 g10 g11
        replace x0 := below_cell bC x0
        replace x1 := below_cell bC x1
        replace x2 := below_cell bC x2
        replace x3 := below_cell bC x3
        replace x4 := below_cell bC x4
        replace x5 := below_cell bC x5
        replace y0 := below_cell bC y0
        replace y1 := below_cell bC y1
        replace y2 := below_cell bC y2
        replace y3 := below_cell bC y3
        replace y4 := below_cell bC y4
        replace y5 := below_cell bC y5
        replace m0 := below_cell bC m0
        replace m1 := below_cell bC m1
        replace hB := hB.trans (bC.mono hB.size)
        clear bC
        have GG9 := GG.out ⟨y, x⟩ wI w23.heap.size hGA ⟨HX.out.2.1.on hB, HX.out.1.on hB⟩ ⟨HX.out.2.2.2, HX.out.2.2.1⟩
        replace GG9 := hide' GG9
        clear hGA GG
        go_wp2_with fail
        clear hwC
        refine GG9.out.mono ?_
        rintro e w31 ⟨a', k', rfl, b1, hA1, hk1⟩
        replace x0 := below_cell b1 x0
        replace x1 := below_cell b1 x1
        replace x2 := below_cell b1 x2
        replace x3 := below_cell b1 x3
        replace x4 := below_cell b1 x4
        replace x5 := below_cell b1 x5
        replace y0 := below_cell b1 y0
        replace y1 := below_cell b1 y1
        replace y2 := below_cell b1 y2
        replace y3 := below_cell b1 y3
        replace y4 := below_cell b1 y4
        replace y5 := below_cell b1 y5
        replace m0 := below_cell b1 m0
        replace m1 := below_cell b1 m1
        replace hB := hB.trans (b1.mono hB.size)
        clear b1
        clear GG9 a0 a1 a2 a3 a4 a5 e0 e1 e2 e3 e4 e5
        go_wp2_with fail
        refine (G9.out _ a' k' hA1 hk1).mono ?_
        clear hA1 hk1
        rintro e w32 ⟨p, q, rfl, b2, hS⟩
        replace x0 := below_cell b2 x0
        replace x1 := below_cell b2 x1
        replace x2 := below_cell b2 x2
        replace x3 := below_cell b2 x3
        replace x4 := below_cell b2 x4
        replace x5 := below_cell b2 x5
        replace y0 := below_cell b2 y0
        replace y1 := below_cell b2 y1
        replace y2 := below_cell b2 y2
        replace y3 := below_cell b2 y3
        replace y4 := below_cell b2 y4
        replace y5 := below_cell b2 y5
        replace m0 := below_cell b2 m0
        replace m1 := below_cell b2 m1
        replace hB := hB.trans (b2.mono hB.size)
        clear b2
        obtain ⟨wJ, hwC⟩ : ∃ wz9, w32.alloc (.cells #[.bool (ng S.num), .slice p (ln (am S.num)) (ln (am S.num)), .slice q (ln S.den) (ln S.den)] 28) = wz9 := ⟨_, rfl⟩
        have bC : Below w32.heap.size w32 wJ := by subst hwC; exact below_alloc _
        have s0 : wJ.cell? ⟨w32.heap.size, 0, none⟩ = some (.bool (ng S.num)) := by subst hwC; go_simp
        have s1 : wJ.cell? ⟨w32.heap.size, 1, none⟩ = some (.slice p (ln (am S.num)) (ln (am S.num))) := by subst hwC; go_simp
        have s2 : wJ.cell? ⟨w32.heap.size, 2, none⟩ = some (.slice q (ln S.den) (ln S.den)) := by subst hwC; go_simp
        replace x0 := below_cell bC x0
        replace x1 := below_cell bC x1
        replace x2 := below_cell bC x2
        replace x3 := below_cell bC x3
        replace x4 := below_cell bC x4
        replace x5 := below_cell bC x5
        replace y0 := below_cell bC y0
        replace y1 := below_cell bC y1
        replace y2 := below_cell bC y2
        replace y3 := below_cell bC y3
        replace y4 := below_cell bC y4
        replace y5 := below_cell bC y5
        replace m0 := below_cell bC m0
        replace m1 := below_cell bC m1
        replace hS := hS.on bC
        replace hB := hB.trans (bC.mono hB.size)
        clear bC
        go_wp2_with fail
        clear hwC G9
        refine (GL.out _ hB).mono ?_
        rintro e w33 ⟨rfl, b3⟩
        replace x0 := below_cell b3 x0
        replace x1 := below_cell b3 x1
        replace x2 := below_cell b3 x2
        replace x3 := below_cell b3 x3
        replace x4 := below_cell b3 x4
        replace x5 := below_cell b3 x5
        replace y0 := below_cell b3 y0
        replace y1 := below_cell b3 y1
        replace y2 := below_cell b3 y2
        replace y3 := below_cell b3 y3
        replace y4 := below_cell b3 y4
        replace y5 := below_cell b3 y5
        replace m0 := below_cell b3 m0
        replace m1 := below_cell b3 m1
        replace s0 := below_cell b3 s0
        replace s1 := below_cell b3 s1
        replace s2 := below_cell b3 s2
        replace hS := hS.on b3
        replace hB := hB.trans (b3.mono hB.size)
        clear b3
        go_wp2_with fail
        refine (GP.out S sS _ p q hS).mono ?_
        rintro e w34 ⟨p4, q4, rfl, b4, h4⟩
        replace x0 := below_cell b4 x0
        replace x1 := below_cell b4 x1
        replace x2 := below_cell b4 x2
        replace x3 := below_cell b4 x3
        replace x4 := below_cell b4 x4
        replace x5 := below_cell b4 x5
        replace y0 := below_cell b4 y0
        replace y1 := below_cell b4 y1
        replace y2 := below_cell b4 y2
        replace y3 := below_cell b4 y3
        replace y4 := below_cell b4 y4
        replace y5 := below_cell b4 y5
        replace hB := hB.trans (b4.mono hB.size)
        clear b4
        clear hS s0 s1 s2 m0 m1 GL GP
        obtain ⟨wK, hwC⟩ : ∃ wC, (w34.alloc (.cells #[.int .u32 1] 37)).alloc (.cells #[.int .u32 2] 37) = wC := ⟨_, rfl⟩
        have bC : Below w34.heap.size w34 wK := by subst hwC; exact (below_alloc _).trans ((below_alloc _).mono (below_alloc _).size)
        have k1 : Seg wK (some ⟨w34.heap.size, 0, none⟩) 1 1 := seg_oneT (by subst hwC; go_simp) (by omega)
        have k2 : Seg wK (some ⟨w34.heap.size + 1, 0, none⟩) 2 1 := seg_oneT (by subst hwC; go_simp) (by omega)
        replace x0 := below_cell bC x0
        replace x1 := below_cell bC x1
        replace x2 := below_cell bC x2
        replace x3 := below_cell bC x3
        replace x4 := below_cell bC x4
        replace x5 := below_cell bC x5
        replace y0 := below_cell bC y0
        replace y1 := below_cell bC y1
        replace y2 := below_cell bC y2
        replace y3 := below_cell bC y3
        replace y4 := below_cell bC y4
        replace y5 := below_cell bC y5
        replace h4 := h4.on bC
        replace hB := hB.trans (bC.mono hB.size)
        clear bC
        go_wp2_with fail
        clear hwC
        refine (GH.out S sS _ p4 q4 _ _ h4 k1 k2).mono ?_
        rintro e w35 ⟨p5, q5, rfl, b5, h5⟩
        replace x0 := below_cell b5 x0
        replace x1 := below_cell b5 x1
        replace x2 := below_cell b5 x2
        replace x3 := below_cell b5 x3
        replace x4 := below_cell b5 x4
        replace x5 := below_cell b5 x5
        replace y0 := below_cell b5 y0
        replace y1 := below_cell b5 y1
        replace y2 := below_cell b5 y2
        replace y3 := below_cell b5 y3
        replace y4 := below_cell b5 y4
        replace y5 := below_cell b5 y5
        replace hB := hB.trans (b5.mono hB.size)
        clear b5
        clear h4 k1 k2 GH
        have sT := ZT.out S sS
        obtain ⟨U, hU⟩ : ∃ U, S * Q * (1 / 2) = U := ⟨_, rfl⟩
        rw [hU] at h5 hlt sT ⊢
        have hU0 : 0 ≤ U := by rw [← hU]; grind
        clear hU hge ZT sS
        obtain ⟨wL, hwC⟩ : ∃ wz9, w35.alloc (.cells #[.bool (ng U.num), .slice p5 (ln (am U.num)) (ln (am U.num)), .slice q5 (ln U.den) (ln U.den)] 28) = wz9 := ⟨_, rfl⟩
        have bC : Below w35.heap.size w35 wL := by subst hwC; exact below_alloc _
        have t0 : wL.cell? ⟨w35.heap.size, 0, none⟩ = some (.bool (ng U.num)) := by subst hwC; go_simp
        have t1 : wL.cell? ⟨w35.heap.size, 1, none⟩ = some (.slice p5 (ln (am U.num)) (ln (am U.num))) := by subst hwC; go_simp
        have t2 : wL.cell? ⟨w35.heap.size, 2, none⟩ = some (.slice q5 (ln U.den) (ln U.den)) := by subst hwC; go_simp
        replace x0 := below_cell bC x0
        replace x1 := below_cell bC x1
        replace x2 := below_cell bC x2
        replace x3 := below_cell bC x3
        replace x4 := below_cell bC x4
        replace x5 := below_cell bC x5
        replace y0 := below_cell bC y0
        replace y1 := below_cell bC y1
        replace y2 := below_cell bC y2
        replace y3 := below_cell bC y3
        replace y4 := below_cell bC y4
        replace y5 := below_cell bC y5
        replace h5 := h5.on bC
        replace hB := hB.trans (bC.mono hB.size)
        clear bC
        have GN1 := hide' (fun w' h => GN.out U w' p5 q5 h)
        obtain ⟨C4, hC4⟩ : ∃ C, sR U = C := ⟨_, rfl⟩
        rw [hC4] at GN1
        go_wp2_with fail
        clear hwC
        refine (GN1.out _ h5).mono ?_
        rintro e w36 ⟨rfl, b6⟩
        replace x0 := below_cell b6 x0
        replace x1 := below_cell b6 x1
        replace x2 := below_cell b6 x2
        replace x3 := below_cell b6 x3
        replace x4 := below_cell b6 x4
        replace x5 := below_cell b6 x5
        replace y0 := below_cell b6 y0
        replace y1 := below_cell b6 y1
        replace y2 := below_cell b6 y2
        replace y3 := below_cell b6 y3
        replace y4 := below_cell b6 y4
        replace y5 := below_cell b6 y5
        replace t0 := below_cell b6 t0
        replace t1 := below_cell b6 t1
        replace t2 := below_cell b6 t2
        replace h5 := h5.on b6
        replace hB := hB.trans (b6.mono hB.size)
        clear b6
        clear GN GN1
        obtain ⟨c12, hc12⟩ : ∃ c, w35.heap.size = c := ⟨_, rfl⟩
        rw [hc12] at t0 t1 t2 ⊢
        clear hc12
        by_cases hz : C4 = 0
        · subst hz
          go_wp2
          go_ret
          exact ⟨rfl, hB⟩
        · have hUp : 0 < U := by rcases sR_cases U with ⟨h, e⟩ | ⟨h, e⟩ | ⟨h, e⟩ <;> first | exact h | (exfalso; rw [e] at hC4; exact hz hC4.symm) | grind
          have hfin := hor.out U hUp hlt
          have HC := hide' (fun w' p q p1 q1 h9 h8 => GC.out U sT w' p q p1 q1 h9 h8)
          rw [hfin] at HC
          have H1 := hide' (fun w' p q r t h1 h2 => GA1.out U sT w' p q r t p5 q5 h1 h2)
          have H2 := hide' (fun w' p q r t h1 h2 => GA2.out U sT w' p q r t p5 q5 h1 h2)
          obtain ⟨AX, hAX⟩ : ∃ X, atR x.val U = X := ⟨_, rfl⟩
          obtain ⟨AY, hAY⟩ : ∃ X, atR y.val U = X := ⟨_, rfl⟩
          rw [hAX] at H1 HC
          rw [hAY] at H2 HC
          clear hfin hor hC4 hUp hlt hU0 sT GC GA1 GA2 hAX hAY HX HQ
          go_wp2_with fail
          have bD : Below w36.heap.size w36 w36.drew := (Below.refl _ _).drew
          have kx0 := below_cell bD x0
          have kx1 := below_cell bD x1
          have kx2 := below_cell bD x2
          have kx3 := below_cell bD x3
          have kx4 := below_cell bD x4
          have kx5 := below_cell bD x5
          have ky0 := below_cell bD y0
          have ky1 := below_cell bD y1
          have ky2 := below_cell bD y2
          have ky3 := below_cell bD y3
          have ky4 := below_cell bD y4
          have ky5 := below_cell bD y5
          have kt0 := below_cell bD t0
          have kt1 := below_cell bD t1
          have kt2 := below_cell bD t2
          replace hB := hB.trans (bD.mono hB.size)
          refine wp_region_held_drew (S := fun w' => w'.cell? ⟨c5, 0, none⟩ = some (.bool x.a.s) ∧ w'.cell? ⟨c5, 1, none⟩ = some (.slice x.a.a x.a.n x.a.c) ∧ w'.cell? ⟨c5, 2, none⟩ = some (.slice x.a.b x.a.m x.a.e) ∧ w'.cell? ⟨c5, 3, none⟩ = some (.bool x.b.s) ∧ w'.cell? ⟨c5, 4, none⟩ = some (.slice x.b.a x.b.n x.b.c) ∧ w'.cell? ⟨c5, 5, none⟩ = some (.slice x.b.b x.b.m x.b.e) ∧ w'.cell? ⟨c6, 0, none⟩ = some (.bool y.a.s) ∧ w'.cell? ⟨c6, 1, none⟩ = some (.slice y.a.a y.a.n y.a.c) ∧ w'.cell? ⟨c6, 2, none⟩ = some (.slice y.a.b y.a.m y.a.e) ∧ w'.cell? ⟨c6, 3, none⟩ = some (.bool y.b.s) ∧ w'.cell? ⟨c6, 4, none⟩ = some (.slice y.b.a y.b.n y.b.c) ∧ w'.cell? ⟨c6, 5, none⟩ = some (.slice y.b.b y.b.m y.b.e) ∧ w'.cell? ⟨c12, 0, none⟩ = some (.bool (ng U.num)) ∧ w'.cell? ⟨c12, 1, none⟩ = some (.slice p5 (ln (am U.num)) (ln (am U.num))) ∧ w'.cell? ⟨c12, 2, none⟩ = some (.slice q5 (ln U.den) (ln U.den))) (by kernel_rfl) ⟨kx0, kx1, kx2, kx3, kx4, kx5, ky0, ky1, ky2, ky3, ky4, ky5, kt0, kt1, kt2⟩ (fun hHeld => ?_)
          clear kx0 kx1 kx2 kx3 kx4 kx5 ky0 ky1 ky2 ky3 ky4 ky5 kt0 kt1 kt2
          generalize w36.drew = w41 at bD hB hHeld ⊢
          replace h5 := h5.on bD
          clear bD t0 t1 t2 x0 x1 x2 x3 x4 x5 y0 y1 y2 y3 y4 y5
          refine take' 0 (v := ?_) rfl (by kernel_rfl) (by kernel_rfl) (by kernel_rfl) (fun _ _ _ h => h) (Or.inl ⟨by rfl, ?_⟩) (by assumption) ?_
          rotate_left
          · intro w9 hSw
            go_simp
            first | done | with_reducible rfl
          simp only [Act.put, List.setIfInBounds_toArray, List.set_cons_zero, List.set_cons_succ]
          refine take' 2 (v := ?_) rfl (by kernel_rfl) (by kernel_rfl) (by kernel_rfl) (fun _ _ _ h => h) (Or.inl ⟨by rfl, ?_⟩) (by assumption) ?_
          rotate_left
          · intro w9 hSw
            go_simp
            first | done | with_reducible rfl
          simp only [Act.put, List.setIfInBounds_toArray, List.set_cons_zero, List.set_cons_succ]
          refine take' 4 (v := ?_) rfl (by kernel_rfl) (by kernel_rfl) (by kernel_rfl) (fun _ _ _ h => h) (Or.inl ⟨by rfl, ?_⟩) (by assumption) ?_
          rotate_left
          · intro w9 hSw
            go_simp
            first | done | with_reducible rfl
          simp only [Act.put, List.setIfInBounds_toArray, List.set_cons_zero, List.set_cons_succ]
          refine take' 6 (v := ?_) rfl (by kernel_rfl) (by kernel_rfl) (by kernel_rfl) (fun _ _ _ h => h) (Or.inl ⟨by rfl, ?_⟩) (by assumption) ?_
          rotate_left
          · intro w9 hSw
            go_simp
            first | done | with_reducible rfl
          simp only [Act.put, List.setIfInBounds_toArray, List.set_cons_zero, List.set_cons_succ]
          refine take' 9 (v := ?_) rfl (by kernel_rfl) (by kernel_rfl) (by kernel_rfl) (fun _ _ _ h => h) (Or.inl ⟨by rfl, ?_⟩) (by assumption) ?_
          rotate_left
          · intro w9 hSw
            go_simp
            first | done | with_reducible rfl
          simp only [Act.put, List.setIfInBounds_toArray, List.set_cons_zero, List.set_cons_succ]
          refine wpAnyH_ready (rs := [1]) (by kernel_rfl) (by simp) ?_
          refine cons' rfl (fun KK hKK => ?_)
          go_simp
          refine (GT1.out _ hB).mono ?_
          rintro e w42 ⟨p6, q6, r6, t6, rfl, b6, h6⟩
          have bC := b6
          replace hB := hB.trans (bC.mono hB.size)
          replace hHeld := (⟨below_cell bC hHeld.1, below_cell bC hHeld.2.1, below_cell bC hHeld.2.2.1, below_cell bC hHeld.2.2.2.1, below_cell bC hHeld.2.2.2.2.1, below_cell bC hHeld.2.2.2.2.2.1, below_cell bC hHeld.2.2.2.2.2.2.1, below_cell bC hHeld.2.2.2.2.2.2.2.1, below_cell bC hHeld.2.2.2.2.2.2.2.2.1, below_cell bC hHeld.2.2.2.2.2.2.2.2.2.1, below_cell bC hHeld.2.2.2.2.2.2.2.2.2.2.1, below_cell bC hHeld.2.2.2.2.2.2.2.2.2.2.2.1, below_cell bC hHeld.2.2.2.2.2.2.2.2.2.2.2.2.1, below_cell bC hHeld.2.2.2.2.2.2.2.2.2.2.2.2.2.1, below_cell bC hHeld.2.2.2.2.2.2.2.2.2.2.2.2.2.2⟩ : _ ∧ _ ∧ _ ∧ _ ∧ _ ∧ _ ∧ _ ∧ _ ∧ _ ∧ _ ∧ _ ∧ _ ∧ _ ∧ _ ∧ _)
          clear bC
          go_wp2_with fail
          replace h5 := h5.on b6
          clear b6
          refine hKK.out _ _ hHeld ?_
          clear hHeld
          intro hHeld
          clear hKK KK
          try simp only [Act.put, List.setIfInBounds_toArray, List.set_cons_zero, List.set_cons_succ]
          refine wpAnyH_ready (rs := [3]) (by kernel_rfl) (by simp) ?_
          refine cons' rfl (fun KK hKK => ?_)
          go_simp
          refine (H1.out _ p6 q6 r6 t6 h6 h5).mono ?_
          rintro e w43 ⟨p7, q7, rfl, b7, h7⟩
          have bC := b7
          replace hB := hB.trans (bC.mono hB.size)
          replace hHeld := (⟨below_cell bC hHeld.1, below_cell bC hHeld.2.1, below_cell bC hHeld.2.2.1, below_cell bC hHeld.2.2.2.1, below_cell bC hHeld.2.2.2.2.1, below_cell bC hHeld.2.2.2.2.2.1, below_cell bC hHeld.2.2.2.2.2.2.1, below_cell bC hHeld.2.2.2.2.2.2.2.1, below_cell bC hHeld.2.2.2.2.2.2.2.2.1, below_cell bC hHeld.2.2.2.2.2.2.2.2.2.1, below_cell bC hHeld.2.2.2.2.2.2.2.2.2.2.1, below_cell bC hHeld.2.2.2.2.2.2.2.2.2.2.2.1, below_cell bC hHeld.2.2.2.2.2.2.2.2.2.2.2.2.1, below_cell bC hHeld.2.2.2.2.2.2.2.2.2.2.2.2.2.1, below_cell bC hHeld.2.2.2.2.2.2.2.2.2.2.2.2.2.2⟩ : _ ∧ _ ∧ _ ∧ _ ∧ _ ∧ _ ∧ _ ∧ _ ∧ _ ∧ _ ∧ _ ∧ _ ∧ _ ∧ _ ∧ _)
          clear bC
          go_wp2_with fail
          replace h5 := h5.on b7
          clear b7 h6
          refine hKK.out _ _ hHeld ?_
          clear hHeld
          intro hHeld
          clear hKK KK
          try simp only [Act.put, List.setIfInBounds_toArray, List.set_cons_zero, List.set_cons_succ]
          refine wpAnyH_ready (rs := [5]) (by kernel_rfl) (by simp) ?_
          refine cons' rfl (fun KK hKK => ?_)
          go_simp
          refine (GT2.out _ hB).mono ?_
          rintro e w44 ⟨p8, q8, r8, t8, rfl, b8, h8⟩
          have bC := b8
          replace hB := hB.trans (bC.mono hB.size)
          replace hHeld := (⟨below_cell bC hHeld.1, below_cell bC hHeld.2.1, below_cell bC hHeld.2.2.1, below_cell bC hHeld.2.2.2.1, below_cell bC hHeld.2.2.2.2.1, below_cell bC hHeld.2.2.2.2.2.1, below_cell bC hHeld.2.2.2.2.2.2.1, below_cell bC hHeld.2.2.2.2.2.2.2.1, below_cell bC hHeld.2.2.2.2.2.2.2.2.1, below_cell bC hHeld.2.2.2.2.2.2.2.2.2.1, below_cell bC hHeld.2.2.2.2.2.2.2.2.2.2.1, below_cell bC hHeld.2.2.2.2.2.2.2.2.2.2.2.1, below_cell bC hHeld.2.2.2.2.2.2.2.2.2.2.2.2.1, below_cell bC hHeld.2.2.2.2.2.2.2.2.2.2.2.2.2.1, below_cell bC hHeld.2.2.2.2.2.2.2.2.2.2.2.2.2.2⟩ : _ ∧ _ ∧ _ ∧ _ ∧ _ ∧ _ ∧ _ ∧ _ ∧ _ ∧ _ ∧ _ ∧ _ ∧ _ ∧ _ ∧ _)
          clear bC
          go_wp2_with fail
          replace h5 := h5.on b8
          replace h7 := h7.on b8
          clear b8
          refine hKK.out _ _ hHeld ?_
          clear hHeld
          intro hHeld
          clear hKK KK
          try simp only [Act.put, List.setIfInBounds_toArray, List.set_cons_zero, List.set_cons_succ]
          refine wpAnyH_ready (rs := [7]) (by kernel_rfl) (by simp) ?_
          refine cons' rfl (fun KK hKK => ?_)
          go_simp
          refine (H2.out _ p8 q8 r8 t8 h8 h5).mono ?_
          rintro e w45 ⟨p9, q9, rfl, b9, h9⟩
          have bC := b9
          replace hB := hB.trans (bC.mono hB.size)
          replace hHeld := (⟨below_cell bC hHeld.1, below_cell bC hHeld.2.1, below_cell bC hHeld.2.2.1, below_cell bC hHeld.2.2.2.1, below_cell bC hHeld.2.2.2.2.1, below_cell bC hHeld.2.2.2.2.2.1, below_cell bC hHeld.2.2.2.2.2.2.1, below_cell bC hHeld.2.2.2.2.2.2.2.1, below_cell bC hHeld.2.2.2.2.2.2.2.2.1, below_cell bC hHeld.2.2.2.2.2.2.2.2.2.1, below_cell bC hHeld.2.2.2.2.2.2.2.2.2.2.1, below_cell bC hHeld.2.2.2.2.2.2.2.2.2.2.2.1, below_cell bC hHeld.2.2.2.2.2.2.2.2.2.2.2.2.1, below_cell bC hHeld.2.2.2.2.2.2.2.2.2.2.2.2.2.1, below_cell bC hHeld.2.2.2.2.2.2.2.2.2.2.2.2.2.2⟩ : _ ∧ _ ∧ _ ∧ _ ∧ _ ∧ _ ∧ _ ∧ _ ∧ _ ∧ _ ∧ _ ∧ _ ∧ _ ∧ _ ∧ _)
          clear bC
          go_wp2_with fail
          replace h7 := h7.on b9
          clear b9 h8 h5
          refine hKK.out _ _ hHeld ?_
          clear hHeld
          intro hHeld
          clear hKK KK
          try simp only [Act.put, List.setIfInBounds_toArray, List.set_cons_zero, List.set_cons_succ]
          refine wpAnyH_ready (rs := [8]) (by kernel_rfl) (by simp) ?_
          refine cons' rfl (fun KK hKK => ?_)
          go_simp
          refine (HC.out _ p7 q7 p9 q9 h7 h9).mono ?_
          rintro e w46 ⟨rfl, b10⟩
          have bC := b10
          replace hB := hB.trans (bC.mono hB.size)
          replace hHeld := (⟨below_cell bC hHeld.1, below_cell bC hHeld.2.1, below_cell bC hHeld.2.2.1, below_cell bC hHeld.2.2.2.1, below_cell bC hHeld.2.2.2.2.1, below_cell bC hHeld.2.2.2.2.2.1, below_cell bC hHeld.2.2.2.2.2.2.1, below_cell bC hHeld.2.2.2.2.2.2.2.1, below_cell bC hHeld.2.2.2.2.2.2.2.2.1, below_cell bC hHeld.2.2.2.2.2.2.2.2.2.1, below_cell bC hHeld.2.2.2.2.2.2.2.2.2.2.1, below_cell bC hHeld.2.2.2.2.2.2.2.2.2.2.2.1, below_cell bC hHeld.2.2.2.2.2.2.2.2.2.2.2.2.1, below_cell bC hHeld.2.2.2.2.2.2.2.2.2.2.2.2.2.1, below_cell bC hHeld.2.2.2.2.2.2.2.2.2.2.2.2.2.2⟩ : _ ∧ _ ∧ _ ∧ _ ∧ _ ∧ _ ∧ _ ∧ _ ∧ _ ∧ _ ∧ _ ∧ _ ∧ _ ∧ _ ∧ _)
          clear bC
          go_wp2_with fail
          clear b10 h7 h9
          refine hKK.out _ _ hHeld ?_
          clear hHeld
          intro hHeld
          clear hKK KK
          try simp only [Act.put, List.setIfInBounds_toArray, List.set_cons_zero, List.set_cons_succ]
          refine take' 10 (v := ?_) rfl (by kernel_rfl) (by kernel_rfl) (by kernel_rfl) (fun _ _ _ h => h) (Or.inl ⟨by rfl, ?_⟩) (by assumption) ?_
          rotate_left
          · intro w9 hSw
            go_simp
            first | done | with_reducible rfl
          simp only [Act.put, List.setIfInBounds_toArray, List.set_cons_zero, List.set_cons_succ]
          refine take' 11 (v := ?_) rfl (by kernel_rfl) (by kernel_rfl) (by kernel_rfl) (fun _ _ _ h => h) (Or.inl ⟨by rfl, ?_⟩) (by assumption) ?_
          rotate_left
          · intro w9 hSw
            go_simp
            first | done | with_reducible rfl
          simp only [Act.put, List.setIfInBounds_toArray, List.set_cons_zero, List.set_cons_succ]
          refine wpAnyH_done (by kernel_rfl) ?_ _
          go_wp2
          go_ret
          exact ⟨by simp, hB⟩
      · skip
        have a0 : wC.cell? ⟨c8, 0, none⟩ = some (.bool x.a.s) := v8.1 0 _ rfl
        have e0 : wC.cell? ⟨c9, 0, none⟩ = some (.bool y.a.s) := v9.1 0 _ rfl
        have a1 : wC.cell? ⟨c8, 1, none⟩ = some (.slice x.a.a x.a.n x.a.c) := v8.1 1 _ rfl
        have e1 : wC.cell? ⟨c9, 1, none⟩ = some (.slice y.a.a y.a.n y.a.c) := v9.1 1 _ rfl
        have a2 : wC.cell? ⟨c8, 2, none⟩ = some (.slice x.a.b x.a.m x.a.e) := v8.1 2 _ rfl
        have e2 : wC.cell? ⟨c9, 2, none⟩ = some (.slice y.a.b y.a.m y.a.e) := v9.1 2 _ rfl
        have a3 : wC.cell? ⟨c8, 3, none⟩ = some (.bool x.b.s) := v8.1 3 _ rfl
        have e3 : wC.cell? ⟨c9, 3, none⟩ = some (.bool y.b.s) := v9.1 3 _ rfl
        have a4 : wC.cell? ⟨c8, 4, none⟩ = some (.slice x.b.a x.b.n x.b.c) := v8.1 4 _ rfl
        have e4 : wC.cell? ⟨c9, 4, none⟩ = some (.slice y.b.a y.b.n y.b.c) := v9.1 4 _ rfl
        have a5 : wC.cell? ⟨c8, 5, none⟩ = some (.slice x.b.b x.b.m x.b.e) := v8.1 5 _ rfl
        have e5 : wC.cell? ⟨c9, 5, none⟩ = some (.slice y.b.b y.b.m y.b.e) := v9.1 5 _ rfl
        clear v8 v9
        obtain ⟨hnb, hor, hpos⟩ := OR.out x y (by rw [if_neg hC])
        have sS := SZ.out ⟨x, y⟩ ⟨HX.out.1, HX.out.2.1⟩ ⟨HX.out.2.2.1, HX.out.2.2.2⟩
        have G9 := hide' (fun w' a' k' hA' h' => GS.out ⟨x, y⟩ hnb w' a' k' hA' h')
        have hlt := half_lt hpos HQ.out.1 HQ.out.2
        have hge := (part_le hpos HQ.out.1 HQ.out.2).1
        obtain ⟨S, hS9⟩ : ∃ S, smallG [(GapV.mk x y).val] = S := ⟨_, rfl⟩
        rw [hS9] at hor hpos sS G9 hlt hge
        clear hS9 GS SZ OR hnb hpos
        replace hor := hide' hor
        obtain ⟨wI, hwC⟩ : ∃ wz9, wC.alloc (.cells #[.bool x.a.s, .slice x.a.a x.a.n x.a.c, .slice x.a.b x.a.m x.a.e, .bool x.b.s, .slice x.b.a x.b.n x.b.c, .slice x.b.b x.b.m x.b.e, .bool y.a.s, .slice y.a.a y.a.n y.a.c, .slice y.a.b y.a.m y.a.e, .bool y.b.s, .slice y.b.a y.b.n y.b.c, .slice y.b.b y.b.m y.b.e] 42) = wz9 := ⟨_, rfl⟩
        have bC : Below wC.heap.size wC wI := by subst hwC; exact below_alloc _
        have g0 : wI.cell? ⟨wC.heap.size, 0, none⟩ = some (.bool x.a.s) := by subst hwC; go_simp
        have g1 : wI.cell? ⟨wC.heap.size, 1, none⟩ = some (.slice x.a.a x.a.n x.a.c) := by subst hwC; go_simp
        have g2 : wI.cell? ⟨wC.heap.size, 2, none⟩ = some (.slice x.a.b x.a.m x.a.e) := by subst hwC; go_simp
        have g3 : wI.cell? ⟨wC.heap.size, 3, none⟩ = some (.bool x.b.s) := by subst hwC; go_simp
        have g4 : wI.cell? ⟨wC.heap.size, 4, none⟩ = some (.slice x.b.a x.b.n x.b.c) := by subst hwC; go_simp
        have g5 : wI.cell? ⟨wC.heap.size, 5, none⟩ = some (.slice x.b.b x.b.m x.b.e) := by subst hwC; go_simp
        have g6 : wI.cell? ⟨wC.heap.size, 6, none⟩ = some (.bool y.a.s) := by subst hwC; go_simp
        have g7 : wI.cell? ⟨wC.heap.size, 7, none⟩ = some (.slice y.a.a y.a.n y.a.c) := by subst hwC; go_simp
        have g8 : wI.cell? ⟨wC.heap.size, 8, none⟩ = some (.slice y.a.b y.a.m y.a.e) := by subst hwC; go_simp
        have g9 : wI.cell? ⟨wC.heap.size, 9, none⟩ = some (.bool y.b.s) := by subst hwC; go_simp
        have g10 : wI.cell? ⟨wC.heap.size, 10, none⟩ = some (.slice y.b.a y.b.n y.b.c) := by subst hwC; go_simp
        have g11 : wI.cell? ⟨wC.heap.size, 11, none⟩ = some (.slice y.b.b y.b.m y.b.e) := by subst hwC; go_simp
        have hGA : GapsAt wI (some ⟨wC.heap.size, 0, none⟩) 1 (fun _ => ⟨x, y⟩) := one_gap (((GapV.mk x y).lies_iff wI wC.heap.size 0).1 ⟨g0, g1, g2, g3, g4, g5, g6, g7, g8, g9, g10, g11⟩) (World.block_lt_of_cell? wI ⟨wC.heap.size, 0, none⟩ g0)
        clear g0 g1 g2 g3 g4 g5 g6 g7 g8 g9 g10 g11
        replace x0 := below_cell bC x0
        replace x1 := below_cell bC x1
        replace x2 := below_cell bC x2
        replace x3 := below_cell bC x3
        replace x4 := below_cell bC x4
        replace x5 := below_cell bC x5
        replace y0 := below_cell bC y0
        replace y1 := below_cell bC y1
        replace y2 := below_cell bC y2
        replace y3 := below_cell bC y3
        replace y4 := below_cell bC y4
        replace y5 := below_cell bC y5
        replace m0 := below_cell bC m0
        replace m1 := below_cell bC m1
        replace hB := hB.trans (bC.mono hB.size)
        clear bC
        have GG9 := GG.out ⟨x, y⟩ wI wC.heap.size hGA ⟨HX.out.1.on hB, HX.out.2.1.on hB⟩ ⟨HX.out.2.2.1, HX.out.2.2.2⟩
        replace GG9 := hide' GG9
        clear hGA GG
        go_wp2_with fail
        clear hwC
        refine GG9.out.mono ?_
        rintro e w31 ⟨a', k', rfl, b1, hA1, hk1⟩
        replace x0 := below_cell b1 x0
        replace x1 := below_cell b1 x1
        replace x2 := below_cell b1 x2
        replace x3 := below_cell b1 x3
        replace x4 := below_cell b1 x4
        replace x5 := below_cell b1 x5
        replace y0 := below_cell b1 y0
        replace y1 := below_cell b1 y1
        replace y2 := below_cell b1 y2
        replace y3 := below_cell b1 y3
        replace y4 := below_cell b1 y4
        replace y5 := below_cell b1 y5
        replace m0 := below_cell b1 m0
        replace m1 := below_cell b1 m1
        replace hB := hB.trans (b1.mono hB.size)
        clear b1
        clear GG9 a0 a1 a2 a3 a4 a5 e0 e1 e2 e3 e4 e5
        go_wp2_with fail
        refine (G9.out _ a' k' hA1 hk1).mono ?_
        clear hA1 hk1
        rintro e w32 ⟨p, q, rfl, b2, hS⟩
        replace x0 := below_cell b2 x0
        replace x1 := below_cell b2 x1
        replace x2 := below_cell b2 x2
        replace x3 := below_cell b2 x3
        replace x4 := below_cell b2 x4
        replace x5 := below_cell b2 x5
        replace y0 := below_cell b2 y0
        replace y1 := below_cell b2 y1
        replace y2 := below_cell b2 y2
        replace y3 := below_cell b2 y3
        replace y4 := below_cell b2 y4
        replace y5 := below_cell b2 y5
        replace m0 := below_cell b2 m0
        replace m1 := below_cell b2 m1
        replace hB := hB.trans (b2.mono hB.size)
        clear b2
        obtain ⟨wJ, hwC⟩ : ∃ wz9, w32.alloc (.cells #[.bool (ng S.num), .slice p (ln (am S.num)) (ln (am S.num)), .slice q (ln S.den) (ln S.den)] 28) = wz9 := ⟨_, rfl⟩
        have bC : Below w32.heap.size w32 wJ := by subst hwC; exact below_alloc _
        have s0 : wJ.cell? ⟨w32.heap.size, 0, none⟩ = some (.bool (ng S.num)) := by subst hwC; go_simp
        have s1 : wJ.cell? ⟨w32.heap.size, 1, none⟩ = some (.slice p (ln (am S.num)) (ln (am S.num))) := by subst hwC; go_simp
        have s2 : wJ.cell? ⟨w32.heap.size, 2, none⟩ = some (.slice q (ln S.den) (ln S.den)) := by subst hwC; go_simp
        replace x0 := below_cell bC x0
        replace x1 := below_cell bC x1
        replace x2 := below_cell bC x2
        replace x3 := below_cell bC x3
        replace x4 := below_cell bC x4
        replace x5 := below_cell bC x5
        replace y0 := below_cell bC y0
        replace y1 := below_cell bC y1
        replace y2 := below_cell bC y2
        replace y3 := below_cell bC y3
        replace y4 := below_cell bC y4
        replace y5 := below_cell bC y5
        replace m0 := below_cell bC m0
        replace m1 := below_cell bC m1
        replace hS := hS.on bC
        replace hB := hB.trans (bC.mono hB.size)
        clear bC
        go_wp2_with fail
        clear hwC G9
        refine (GL.out _ hB).mono ?_
        rintro e w33 ⟨rfl, b3⟩
        replace x0 := below_cell b3 x0
        replace x1 := below_cell b3 x1
        replace x2 := below_cell b3 x2
        replace x3 := below_cell b3 x3
        replace x4 := below_cell b3 x4
        replace x5 := below_cell b3 x5
        replace y0 := below_cell b3 y0
        replace y1 := below_cell b3 y1
        replace y2 := below_cell b3 y2
        replace y3 := below_cell b3 y3
        replace y4 := below_cell b3 y4
        replace y5 := below_cell b3 y5
        replace m0 := below_cell b3 m0
        replace m1 := below_cell b3 m1
        replace s0 := below_cell b3 s0
        replace s1 := below_cell b3 s1
        replace s2 := below_cell b3 s2
        replace hS := hS.on b3
        replace hB := hB.trans (b3.mono hB.size)
        clear b3
        go_wp2_with fail
        refine (GP.out S sS _ p q hS).mono ?_
        rintro e w34 ⟨p4, q4, rfl, b4, h4⟩
        replace x0 := below_cell b4 x0
        replace x1 := below_cell b4 x1
        replace x2 := below_cell b4 x2
        replace x3 := below_cell b4 x3
        replace x4 := below_cell b4 x4
        replace x5 := below_cell b4 x5
        replace y0 := below_cell b4 y0
        replace y1 := below_cell b4 y1
        replace y2 := below_cell b4 y2
        replace y3 := below_cell b4 y3
        replace y4 := below_cell b4 y4
        replace y5 := below_cell b4 y5
        replace hB := hB.trans (b4.mono hB.size)
        clear b4
        clear hS s0 s1 s2 m0 m1 GL GP
        obtain ⟨wK, hwC⟩ : ∃ wC, (w34.alloc (.cells #[.int .u32 1] 37)).alloc (.cells #[.int .u32 2] 37) = wC := ⟨_, rfl⟩
        have bC : Below w34.heap.size w34 wK := by subst hwC; exact (below_alloc _).trans ((below_alloc _).mono (below_alloc _).size)
        have k1 : Seg wK (some ⟨w34.heap.size, 0, none⟩) 1 1 := seg_oneT (by subst hwC; go_simp) (by omega)
        have k2 : Seg wK (some ⟨w34.heap.size + 1, 0, none⟩) 2 1 := seg_oneT (by subst hwC; go_simp) (by omega)
        replace x0 := below_cell bC x0
        replace x1 := below_cell bC x1
        replace x2 := below_cell bC x2
        replace x3 := below_cell bC x3
        replace x4 := below_cell bC x4
        replace x5 := below_cell bC x5
        replace y0 := below_cell bC y0
        replace y1 := below_cell bC y1
        replace y2 := below_cell bC y2
        replace y3 := below_cell bC y3
        replace y4 := below_cell bC y4
        replace y5 := below_cell bC y5
        replace h4 := h4.on bC
        replace hB := hB.trans (bC.mono hB.size)
        clear bC
        go_wp2_with fail
        clear hwC
        refine (GH.out S sS _ p4 q4 _ _ h4 k1 k2).mono ?_
        rintro e w35 ⟨p5, q5, rfl, b5, h5⟩
        replace x0 := below_cell b5 x0
        replace x1 := below_cell b5 x1
        replace x2 := below_cell b5 x2
        replace x3 := below_cell b5 x3
        replace x4 := below_cell b5 x4
        replace x5 := below_cell b5 x5
        replace y0 := below_cell b5 y0
        replace y1 := below_cell b5 y1
        replace y2 := below_cell b5 y2
        replace y3 := below_cell b5 y3
        replace y4 := below_cell b5 y4
        replace y5 := below_cell b5 y5
        replace hB := hB.trans (b5.mono hB.size)
        clear b5
        clear h4 k1 k2 GH
        have sT := ZT.out S sS
        obtain ⟨U, hU⟩ : ∃ U, S * Q * (1 / 2) = U := ⟨_, rfl⟩
        rw [hU] at h5 hlt sT ⊢
        have hU0 : 0 ≤ U := by rw [← hU]; grind
        clear hU hge ZT sS
        obtain ⟨wL, hwC⟩ : ∃ wz9, w35.alloc (.cells #[.bool (ng U.num), .slice p5 (ln (am U.num)) (ln (am U.num)), .slice q5 (ln U.den) (ln U.den)] 28) = wz9 := ⟨_, rfl⟩
        have bC : Below w35.heap.size w35 wL := by subst hwC; exact below_alloc _
        have t0 : wL.cell? ⟨w35.heap.size, 0, none⟩ = some (.bool (ng U.num)) := by subst hwC; go_simp
        have t1 : wL.cell? ⟨w35.heap.size, 1, none⟩ = some (.slice p5 (ln (am U.num)) (ln (am U.num))) := by subst hwC; go_simp
        have t2 : wL.cell? ⟨w35.heap.size, 2, none⟩ = some (.slice q5 (ln U.den) (ln U.den)) := by subst hwC; go_simp
        replace x0 := below_cell bC x0
        replace x1 := below_cell bC x1
        replace x2 := below_cell bC x2
        replace x3 := below_cell bC x3
        replace x4 := below_cell bC x4
        replace x5 := below_cell bC x5
        replace y0 := below_cell bC y0
        replace y1 := below_cell bC y1
        replace y2 := below_cell bC y2
        replace y3 := below_cell bC y3
        replace y4 := below_cell bC y4
        replace y5 := below_cell bC y5
        replace h5 := h5.on bC
        replace hB := hB.trans (bC.mono hB.size)
        clear bC
        have GN1 := hide' (fun w' h => GN.out U w' p5 q5 h)
        obtain ⟨C4, hC4⟩ : ∃ C, sR U = C := ⟨_, rfl⟩
        rw [hC4] at GN1
        go_wp2_with fail
        clear hwC
        refine (GN1.out _ h5).mono ?_
        rintro e w36 ⟨rfl, b6⟩
        replace x0 := below_cell b6 x0
        replace x1 := below_cell b6 x1
        replace x2 := below_cell b6 x2
        replace x3 := below_cell b6 x3
        replace x4 := below_cell b6 x4
        replace x5 := below_cell b6 x5
        replace y0 := below_cell b6 y0
        replace y1 := below_cell b6 y1
        replace y2 := below_cell b6 y2
        replace y3 := below_cell b6 y3
        replace y4 := below_cell b6 y4
        replace y5 := below_cell b6 y5
        replace t0 := below_cell b6 t0
        replace t1 := below_cell b6 t1
        replace t2 := below_cell b6 t2
        replace h5 := h5.on b6
        replace hB := hB.trans (b6.mono hB.size)
        clear b6
        clear GN GN1
        obtain ⟨c12, hc12⟩ : ∃ c, w35.heap.size = c := ⟨_, rfl⟩
        rw [hc12] at t0 t1 t2 ⊢
        clear hc12
        by_cases hz : C4 = 0
        · subst hz
          go_wp2
          go_ret
          exact ⟨rfl, hB⟩
        · have hUp : 0 < U := by rcases sR_cases U with ⟨h, e⟩ | ⟨h, e⟩ | ⟨h, e⟩ <;> first | exact h | (exfalso; rw [e] at hC4; exact hz hC4.symm) | grind
          have hfin := hor.out U hUp hlt
          have HC := hide' (fun w' p q p1 q1 h9 h8 => GC.out U sT w' p q p1 q1 h9 h8)
          rw [hfin] at HC
          have H1 := hide' (fun w' p q r t h1 h2 => GA1.out U sT w' p q r t p5 q5 h1 h2)
          have H2 := hide' (fun w' p q r t h1 h2 => GA2.out U sT w' p q r t p5 q5 h1 h2)
          obtain ⟨AX, hAX⟩ : ∃ X, atR x.val U = X := ⟨_, rfl⟩
          obtain ⟨AY, hAY⟩ : ∃ X, atR y.val U = X := ⟨_, rfl⟩
          rw [hAX] at H1 HC
          rw [hAY] at H2 HC
          clear hfin hor hC4 hUp hlt hU0 sT GC GA1 GA2 hAX hAY HX HQ
          go_wp2_with fail
          have bD : Below w36.heap.size w36 w36.drew := (Below.refl _ _).drew
          have kx0 := below_cell bD x0
          have kx1 := below_cell bD x1
          have kx2 := below_cell bD x2
          have kx3 := below_cell bD x3
          have kx4 := below_cell bD x4
          have kx5 := below_cell bD x5
          have ky0 := below_cell bD y0
          have ky1 := below_cell bD y1
          have ky2 := below_cell bD y2
          have ky3 := below_cell bD y3
          have ky4 := below_cell bD y4
          have ky5 := below_cell bD y5
          have kt0 := below_cell bD t0
          have kt1 := below_cell bD t1
          have kt2 := below_cell bD t2
          replace hB := hB.trans (bD.mono hB.size)
          refine wp_region_held_drew (S := fun w' => w'.cell? ⟨c5, 0, none⟩ = some (.bool x.a.s) ∧ w'.cell? ⟨c5, 1, none⟩ = some (.slice x.a.a x.a.n x.a.c) ∧ w'.cell? ⟨c5, 2, none⟩ = some (.slice x.a.b x.a.m x.a.e) ∧ w'.cell? ⟨c5, 3, none⟩ = some (.bool x.b.s) ∧ w'.cell? ⟨c5, 4, none⟩ = some (.slice x.b.a x.b.n x.b.c) ∧ w'.cell? ⟨c5, 5, none⟩ = some (.slice x.b.b x.b.m x.b.e) ∧ w'.cell? ⟨c6, 0, none⟩ = some (.bool y.a.s) ∧ w'.cell? ⟨c6, 1, none⟩ = some (.slice y.a.a y.a.n y.a.c) ∧ w'.cell? ⟨c6, 2, none⟩ = some (.slice y.a.b y.a.m y.a.e) ∧ w'.cell? ⟨c6, 3, none⟩ = some (.bool y.b.s) ∧ w'.cell? ⟨c6, 4, none⟩ = some (.slice y.b.a y.b.n y.b.c) ∧ w'.cell? ⟨c6, 5, none⟩ = some (.slice y.b.b y.b.m y.b.e) ∧ w'.cell? ⟨c12, 0, none⟩ = some (.bool (ng U.num)) ∧ w'.cell? ⟨c12, 1, none⟩ = some (.slice p5 (ln (am U.num)) (ln (am U.num))) ∧ w'.cell? ⟨c12, 2, none⟩ = some (.slice q5 (ln U.den) (ln U.den))) (by kernel_rfl) ⟨kx0, kx1, kx2, kx3, kx4, kx5, ky0, ky1, ky2, ky3, ky4, ky5, kt0, kt1, kt2⟩ (fun hHeld => ?_)
          clear kx0 kx1 kx2 kx3 kx4 kx5 ky0 ky1 ky2 ky3 ky4 ky5 kt0 kt1 kt2
          generalize w36.drew = w41 at bD hB hHeld ⊢
          replace h5 := h5.on bD
          clear bD t0 t1 t2 x0 x1 x2 x3 x4 x5 y0 y1 y2 y3 y4 y5
          refine take' 0 (v := ?_) rfl (by kernel_rfl) (by kernel_rfl) (by kernel_rfl) (fun _ _ _ h => h) (Or.inl ⟨by rfl, ?_⟩) (by assumption) ?_
          rotate_left
          · intro w9 hSw
            go_simp
            first | done | with_reducible rfl
          simp only [Act.put, List.setIfInBounds_toArray, List.set_cons_zero, List.set_cons_succ]
          refine take' 2 (v := ?_) rfl (by kernel_rfl) (by kernel_rfl) (by kernel_rfl) (fun _ _ _ h => h) (Or.inl ⟨by rfl, ?_⟩) (by assumption) ?_
          rotate_left
          · intro w9 hSw
            go_simp
            first | done | with_reducible rfl
          simp only [Act.put, List.setIfInBounds_toArray, List.set_cons_zero, List.set_cons_succ]
          refine take' 4 (v := ?_) rfl (by kernel_rfl) (by kernel_rfl) (by kernel_rfl) (fun _ _ _ h => h) (Or.inl ⟨by rfl, ?_⟩) (by assumption) ?_
          rotate_left
          · intro w9 hSw
            go_simp
            first | done | with_reducible rfl
          simp only [Act.put, List.setIfInBounds_toArray, List.set_cons_zero, List.set_cons_succ]
          refine take' 6 (v := ?_) rfl (by kernel_rfl) (by kernel_rfl) (by kernel_rfl) (fun _ _ _ h => h) (Or.inl ⟨by rfl, ?_⟩) (by assumption) ?_
          rotate_left
          · intro w9 hSw
            go_simp
            first | done | with_reducible rfl
          simp only [Act.put, List.setIfInBounds_toArray, List.set_cons_zero, List.set_cons_succ]
          refine take' 9 (v := ?_) rfl (by kernel_rfl) (by kernel_rfl) (by kernel_rfl) (fun _ _ _ h => h) (Or.inl ⟨by rfl, ?_⟩) (by assumption) ?_
          rotate_left
          · intro w9 hSw
            go_simp
            first | done | with_reducible rfl
          simp only [Act.put, List.setIfInBounds_toArray, List.set_cons_zero, List.set_cons_succ]
          refine wpAnyH_ready (rs := [1]) (by kernel_rfl) (by simp) ?_
          refine cons' rfl (fun KK hKK => ?_)
          go_simp
          refine (GT1.out _ hB).mono ?_
          rintro e w42 ⟨p6, q6, r6, t6, rfl, b6, h6⟩
          have bC := b6
          replace hB := hB.trans (bC.mono hB.size)
          replace hHeld := (⟨below_cell bC hHeld.1, below_cell bC hHeld.2.1, below_cell bC hHeld.2.2.1, below_cell bC hHeld.2.2.2.1, below_cell bC hHeld.2.2.2.2.1, below_cell bC hHeld.2.2.2.2.2.1, below_cell bC hHeld.2.2.2.2.2.2.1, below_cell bC hHeld.2.2.2.2.2.2.2.1, below_cell bC hHeld.2.2.2.2.2.2.2.2.1, below_cell bC hHeld.2.2.2.2.2.2.2.2.2.1, below_cell bC hHeld.2.2.2.2.2.2.2.2.2.2.1, below_cell bC hHeld.2.2.2.2.2.2.2.2.2.2.2.1, below_cell bC hHeld.2.2.2.2.2.2.2.2.2.2.2.2.1, below_cell bC hHeld.2.2.2.2.2.2.2.2.2.2.2.2.2.1, below_cell bC hHeld.2.2.2.2.2.2.2.2.2.2.2.2.2.2⟩ : _ ∧ _ ∧ _ ∧ _ ∧ _ ∧ _ ∧ _ ∧ _ ∧ _ ∧ _ ∧ _ ∧ _ ∧ _ ∧ _ ∧ _)
          clear bC
          go_wp2_with fail
          replace h5 := h5.on b6
          clear b6
          refine hKK.out _ _ hHeld ?_
          clear hHeld
          intro hHeld
          clear hKK KK
          try simp only [Act.put, List.setIfInBounds_toArray, List.set_cons_zero, List.set_cons_succ]
          refine wpAnyH_ready (rs := [3]) (by kernel_rfl) (by simp) ?_
          refine cons' rfl (fun KK hKK => ?_)
          go_simp
          refine (H1.out _ p6 q6 r6 t6 h6 h5).mono ?_
          rintro e w43 ⟨p7, q7, rfl, b7, h7⟩
          have bC := b7
          replace hB := hB.trans (bC.mono hB.size)
          replace hHeld := (⟨below_cell bC hHeld.1, below_cell bC hHeld.2.1, below_cell bC hHeld.2.2.1, below_cell bC hHeld.2.2.2.1, below_cell bC hHeld.2.2.2.2.1, below_cell bC hHeld.2.2.2.2.2.1, below_cell bC hHeld.2.2.2.2.2.2.1, below_cell bC hHeld.2.2.2.2.2.2.2.1, below_cell bC hHeld.2.2.2.2.2.2.2.2.1, below_cell bC hHeld.2.2.2.2.2.2.2.2.2.1, below_cell bC hHeld.2.2.2.2.2.2.2.2.2.2.1, below_cell bC hHeld.2.2.2.2.2.2.2.2.2.2.2.1, below_cell bC hHeld.2.2.2.2.2.2.2.2.2.2.2.2.1, below_cell bC hHeld.2.2.2.2.2.2.2.2.2.2.2.2.2.1, below_cell bC hHeld.2.2.2.2.2.2.2.2.2.2.2.2.2.2⟩ : _ ∧ _ ∧ _ ∧ _ ∧ _ ∧ _ ∧ _ ∧ _ ∧ _ ∧ _ ∧ _ ∧ _ ∧ _ ∧ _ ∧ _)
          clear bC
          go_wp2_with fail
          replace h5 := h5.on b7
          clear b7 h6
          refine hKK.out _ _ hHeld ?_
          clear hHeld
          intro hHeld
          clear hKK KK
          try simp only [Act.put, List.setIfInBounds_toArray, List.set_cons_zero, List.set_cons_succ]
          refine wpAnyH_ready (rs := [5]) (by kernel_rfl) (by simp) ?_
          refine cons' rfl (fun KK hKK => ?_)
          go_simp
          refine (GT2.out _ hB).mono ?_
          rintro e w44 ⟨p8, q8, r8, t8, rfl, b8, h8⟩
          have bC := b8
          replace hB := hB.trans (bC.mono hB.size)
          replace hHeld := (⟨below_cell bC hHeld.1, below_cell bC hHeld.2.1, below_cell bC hHeld.2.2.1, below_cell bC hHeld.2.2.2.1, below_cell bC hHeld.2.2.2.2.1, below_cell bC hHeld.2.2.2.2.2.1, below_cell bC hHeld.2.2.2.2.2.2.1, below_cell bC hHeld.2.2.2.2.2.2.2.1, below_cell bC hHeld.2.2.2.2.2.2.2.2.1, below_cell bC hHeld.2.2.2.2.2.2.2.2.2.1, below_cell bC hHeld.2.2.2.2.2.2.2.2.2.2.1, below_cell bC hHeld.2.2.2.2.2.2.2.2.2.2.2.1, below_cell bC hHeld.2.2.2.2.2.2.2.2.2.2.2.2.1, below_cell bC hHeld.2.2.2.2.2.2.2.2.2.2.2.2.2.1, below_cell bC hHeld.2.2.2.2.2.2.2.2.2.2.2.2.2.2⟩ : _ ∧ _ ∧ _ ∧ _ ∧ _ ∧ _ ∧ _ ∧ _ ∧ _ ∧ _ ∧ _ ∧ _ ∧ _ ∧ _ ∧ _)
          clear bC
          go_wp2_with fail
          replace h5 := h5.on b8
          replace h7 := h7.on b8
          clear b8
          refine hKK.out _ _ hHeld ?_
          clear hHeld
          intro hHeld
          clear hKK KK
          try simp only [Act.put, List.setIfInBounds_toArray, List.set_cons_zero, List.set_cons_succ]
          refine wpAnyH_ready (rs := [7]) (by kernel_rfl) (by simp) ?_
          refine cons' rfl (fun KK hKK => ?_)
          go_simp
          refine (H2.out _ p8 q8 r8 t8 h8 h5).mono ?_
          rintro e w45 ⟨p9, q9, rfl, b9, h9⟩
          have bC := b9
          replace hB := hB.trans (bC.mono hB.size)
          replace hHeld := (⟨below_cell bC hHeld.1, below_cell bC hHeld.2.1, below_cell bC hHeld.2.2.1, below_cell bC hHeld.2.2.2.1, below_cell bC hHeld.2.2.2.2.1, below_cell bC hHeld.2.2.2.2.2.1, below_cell bC hHeld.2.2.2.2.2.2.1, below_cell bC hHeld.2.2.2.2.2.2.2.1, below_cell bC hHeld.2.2.2.2.2.2.2.2.1, below_cell bC hHeld.2.2.2.2.2.2.2.2.2.1, below_cell bC hHeld.2.2.2.2.2.2.2.2.2.2.1, below_cell bC hHeld.2.2.2.2.2.2.2.2.2.2.2.1, below_cell bC hHeld.2.2.2.2.2.2.2.2.2.2.2.2.1, below_cell bC hHeld.2.2.2.2.2.2.2.2.2.2.2.2.2.1, below_cell bC hHeld.2.2.2.2.2.2.2.2.2.2.2.2.2.2⟩ : _ ∧ _ ∧ _ ∧ _ ∧ _ ∧ _ ∧ _ ∧ _ ∧ _ ∧ _ ∧ _ ∧ _ ∧ _ ∧ _ ∧ _)
          clear bC
          go_wp2_with fail
          replace h7 := h7.on b9
          clear b9 h8 h5
          refine hKK.out _ _ hHeld ?_
          clear hHeld
          intro hHeld
          clear hKK KK
          try simp only [Act.put, List.setIfInBounds_toArray, List.set_cons_zero, List.set_cons_succ]
          refine wpAnyH_ready (rs := [8]) (by kernel_rfl) (by simp) ?_
          refine cons' rfl (fun KK hKK => ?_)
          go_simp
          refine (HC.out _ p7 q7 p9 q9 h7 h9).mono ?_
          rintro e w46 ⟨rfl, b10⟩
          have bC := b10
          replace hB := hB.trans (bC.mono hB.size)
          replace hHeld := (⟨below_cell bC hHeld.1, below_cell bC hHeld.2.1, below_cell bC hHeld.2.2.1, below_cell bC hHeld.2.2.2.1, below_cell bC hHeld.2.2.2.2.1, below_cell bC hHeld.2.2.2.2.2.1, below_cell bC hHeld.2.2.2.2.2.2.1, below_cell bC hHeld.2.2.2.2.2.2.2.1, below_cell bC hHeld.2.2.2.2.2.2.2.2.1, below_cell bC hHeld.2.2.2.2.2.2.2.2.2.1, below_cell bC hHeld.2.2.2.2.2.2.2.2.2.2.1, below_cell bC hHeld.2.2.2.2.2.2.2.2.2.2.2.1, below_cell bC hHeld.2.2.2.2.2.2.2.2.2.2.2.2.1, below_cell bC hHeld.2.2.2.2.2.2.2.2.2.2.2.2.2.1, below_cell bC hHeld.2.2.2.2.2.2.2.2.2.2.2.2.2.2⟩ : _ ∧ _ ∧ _ ∧ _ ∧ _ ∧ _ ∧ _ ∧ _ ∧ _ ∧ _ ∧ _ ∧ _ ∧ _ ∧ _ ∧ _)
          clear bC
          go_wp2_with fail
          clear b10 h7 h9
          refine hKK.out _ _ hHeld ?_
          clear hHeld
          intro hHeld
          clear hKK KK
          try simp only [Act.put, List.setIfInBounds_toArray, List.set_cons_zero, List.set_cons_succ]
          refine take' 10 (v := ?_) rfl (by kernel_rfl) (by kernel_rfl) (by kernel_rfl) (fun _ _ _ h => h) (Or.inl ⟨by rfl, ?_⟩) (by assumption) ?_
          rotate_left
          · intro w9 hSw
            go_simp
            first | done | with_reducible rfl
          simp only [Act.put, List.setIfInBounds_toArray, List.set_cons_zero, List.set_cons_succ]
          refine take' 11 (v := ?_) rfl (by kernel_rfl) (by kernel_rfl) (by kernel_rfl) (fun _ _ _ h => h) (Or.inl ⟨by rfl, ?_⟩) (by assumption) ?_
          rotate_left
          · intro w9 hSw
            go_simp
            first | done | with_reducible rfl
          simp only [Act.put, List.setIfInBounds_toArray, List.set_cons_zero, List.set_cons_succ]
          refine wpAnyH_done (by kernel_rfl) ?_ _
          go_wp2
          go_ret
          exact ⟨by simp, hB⟩
theorem walk (x y : DelV) (u v : Nat) (w : World) (hx : x.ok w) (hy : y.ok w) (hu : u < 4294967296) (hv : v < 4294967296) (hb : x.bulk + y.bulk ≤ 1048576) (hDg : Digits w) :
    Calls Tryz.prog 6 #[.agg #[.bool x.a.s, .slice x.a.a x.a.n x.a.c, .slice x.a.b x.a.m x.a.e, .bool x.b.s, .slice x.b.a x.b.n x.b.c, .slice x.b.b x.b.m x.b.e, .bool y.a.s, .slice y.a.a y.a.n y.a.c, .slice y.a.b y.a.m y.a.e, .bool y.b.s, .slice y.b.a y.b.n y.b.c, .slice y.b.b y.b.m y.b.e], .agg #[.int .u32 (u : Int), .int .u32 (v : Int)]] w fun e w' => e = .returned (.bool true) ∧ Below w.heap.size w w' :=
  walkM x y u v w hx hy (by unfold DelV.bulk at hb; exact ⟨by omega, by omega, by omega, by omega⟩) (by unfold DelV.bulk at hb; exact ⟨by omega, by omega, by omega, by omega⟩) hu hv hDg

theorem gTab : Tryz.prog.globalNamed "fulcrum/nat.digits" = some 3 := by kernel_rfl
theorem gTabType : (Tryz.prog.globals[3]?).map (·.type) = some 174 := by kernel_rfl
theorem cellsA : Tryz.prog.cellsOf 174 = 16 := by kernel_rfl
theorem cells8 : Tryz.prog.cellsOf 5 = 1 := by kernel_rfl
theorem table {W : World} (h : laidMetH Tryz.prog Rows.deltaTellsUptoRow.laid W) : Lib.TabIs Tryz.prog W "fulcrum/nat.digits" .u8 [48, 49, 50, 51, 52, 53, 54, 55, 56, 57, 97, 98, 99, 100, 101, 102] :=
  Lib.tabIs_of_head (rest := [("unicode/utf8.acceptRanges", Rows.laid_unicode_utf8_acceptRanges), ("unicode/utf8.first", Rows.laid_unicode_utf8_first)]) gTab gTabType Tryz.underlying174 Tryz.underlying5 cells8 cellsA h
theorem digits_of {W : World} (h : laidMetH Tryz.prog Rows.deltaTellsUptoRow.laid W) : Digits W :=
  ⟨(table h).cell gTab 0 (by decide), (table h).cell gTab 1 (by decide), (table h).cell gTab 2 (by decide), (table h).cell gTab 3 (by decide), (table h).cell gTab 4 (by decide)⟩

set_option maxRecDepth 100000 in
theorem contract (H : Type) (enc : TypeId × Value → H) (W : World) (base : Nat) (args : Array Value) (ds gs : List (DataW H)) (before : List MemPlace)
    (hval : ∀ (j : Nat) t v, Tryz.f6.params[j]? = some t → args[j]? = some v → Value.okWide Tryz.prog W .any base t v)
    (hW : DataW.Whole enc Tryz.prog Tryz.f6.params.toList Rows.deltaTellsSpec.vars false W args.toList ds gs before)
    (hsz : (DataW.weightsEach Tryz.prog (Tryz.f6.params.toList ++ Rows.deltaTellsSpec.plain.varTypes Tryz.prog) (ds ++ gs)).all (· ≤ reachBytes) = true) (hk : Rows.uptoSmall H (ds ++ gs) = true) (hL : laidMetH Tryz.prog Rows.deltaTellsUptoRow.laid W) :
    Calls Tryz.prog 6 args W fun e W' => ∃ v, e = .returned v ∧ Rows.deltaTellsSpec.post enc Tryz.prog Tryz.f6 false true false false W args v W' := by
  have hW' := hW
  obtain ⟨p, q, hA0, hV, rfl, hfz, hnd⟩ := hW
  have hA : DataW.TrodAll enc Tryz.prog W 0 (fun _ => true) true Tryz.f6.params.toList args.toList ds p := hA0
  rw [Tryz.params6] at hA hval hsz
  obtain ⟨v0, vs0, d0, ds0, p0, q0, hargs, rfl, rfl, h0, r0⟩ := trodAll_cons hA
  obtain ⟨v1, vs1, d1, ds1, p1, q1, rfl, rfl, rfl, h1, r1⟩ := trodAll_cons r0
  obtain ⟨rfl, rfl, rfl⟩ := trodAll_nil r1
  obtain rfl : args = #[v0, v1] := by cases args; simp_all
  obtain ⟨rfl, rfl⟩ := trodVars_none hV
  have lt0 : ∀ x ∈ p0, x.block < W.heap.size := by obtain ⟨m, hm⟩ := h0; exact DataW.trod_lt m _ _ _ hm
  obtain ⟨dv0, ev0, rfl, hdo0, heo0, hfu0⟩ := open_Del2 (hval 0 51 v0 rfl rfl) h0 (sized_at 0 hsz rfl rfl)
  have lt1 : ∀ x ∈ p1, x.block < W.heap.size := by obtain ⟨m, hm⟩ := h1; exact DataW.trod_lt m _ _ _ hm
  obtain ⟨ux1, uy1, rfl, hux1, huy1⟩ := open_U2 (hval 1 52 v1 rfl rfl) h1
  clear hA0
  have hbulk := of_decide_eq_true hk
  simp only [List.append_nil, Rows.uptoBulkAll] at hbulk
  simp only [List.append_nil] at hW'
  refine (walk dv0 ev0 ux1 uy1 W hdo0 heo0 hux1 huy1 (by omega) (digits_of hL)).mono fun e W' ⟨he, bel⟩ => ?_
  subst he
  exact ⟨_, rfl, _, _, _, [], _, [], hW', trodAll_mk1 (shut_bool Tryz.underlying4 _), (trodAll_cons_mk (Below.trod laidOut (by kernel_rfl) (of_decide_eq_true (by kernel_rfl)) h0 bel lt0) (trodAll_cons_mk (Below.trod laidOut (by kernel_rfl) (of_decide_eq_true (by kernel_rfl)) h1 bel lt1) trodAll_mk0)), rfl, bel.frame _, fun h => by cases h⟩

def setCells (cs : Array Value) : Obj → Obj
  | .cells _ t frozen => .cells cs t frozen
  | o => o
set_option maxRecDepth 100000 in
noncomputable def laidWorld (os : Os) : World :=
  { World.holding Tryz.prog os ⟨#[], #[], []⟩ with heap := ((((World.holding Tryz.prog os ⟨#[], #[], []⟩).heap.modify 3 (setCells #[.int .u8 48, .int .u8 49, .int .u8 50, .int .u8 51, .int .u8 52, .int .u8 53, .int .u8 54, .int .u8 55, .int .u8 56, .int .u8 57, .int .u8 97, .int .u8 98, .int .u8 99, .int .u8 100, .int .u8 101, .int .u8 102])).modify 2 (setCells #[.int .u8 128, .int .u8 191, .int .u8 160, .int .u8 191, .int .u8 128, .int .u8 159, .int .u8 144, .int .u8 191, .int .u8 128, .int .u8 143, .int .u8 0, .int .u8 0, .int .u8 0, .int .u8 0, .int .u8 0, .int .u8 0, .int .u8 0, .int .u8 0, .int .u8 0, .int .u8 0, .int .u8 0, .int .u8 0, .int .u8 0, .int .u8 0, .int .u8 0, .int .u8 0, .int .u8 0, .int .u8 0, .int .u8 0, .int .u8 0, .int .u8 0, .int .u8 0])).modify 1 (setCells #[.int .u8 240, .int .u8 240, .int .u8 240, .int .u8 240, .int .u8 240, .int .u8 240, .int .u8 240, .int .u8 240, .int .u8 240, .int .u8 240, .int .u8 240, .int .u8 240, .int .u8 240, .int .u8 240, .int .u8 240, .int .u8 240, .int .u8 240, .int .u8 240, .int .u8 240, .int .u8 240, .int .u8 240, .int .u8 240, .int .u8 240, .int .u8 240, .int .u8 240, .int .u8 240, .int .u8 240, .int .u8 240, .int .u8 240, .int .u8 240, .int .u8 240, .int .u8 240, .int .u8 240, .int .u8 240, .int .u8 240, .int .u8 240, .int .u8 240, .int .u8 240, .int .u8 240, .int .u8 240, .int .u8 240, .int .u8 240, .int .u8 240, .int .u8 240, .int .u8 240, .int .u8 240, .int .u8 240, .int .u8 240, .int .u8 240, .int .u8 240, .int .u8 240, .int .u8 240, .int .u8 240, .int .u8 240, .int .u8 240, .int .u8 240, .int .u8 240, .int .u8 240, .int .u8 240, .int .u8 240, .int .u8 240, .int .u8 240, .int .u8 240, .int .u8 240, .int .u8 240, .int .u8 240, .int .u8 240, .int .u8 240, .int .u8 240, .int .u8 240, .int .u8 240, .int .u8 240, .int .u8 240, .int .u8 240, .int .u8 240, .int .u8 240, .int .u8 240, .int .u8 240, .int .u8 240, .int .u8 240, .int .u8 240, .int .u8 240, .int .u8 240, .int .u8 240, .int .u8 240, .int .u8 240, .int .u8 240, .int .u8 240, .int .u8 240, .int .u8 240, .int .u8 240, .int .u8 240, .int .u8 240, .int .u8 240, .int .u8 240, .int .u8 240, .int .u8 240, .int .u8 240, .int .u8 240, .int .u8 240, .int .u8 240, .int .u8 240, .int .u8 240, .int .u8 240, .int .u8 240, .int .u8 240, .int .u8 240, .int .u8 240, .int .u8 240, .int .u8 240, .int .u8 240, .int .u8 240, .int .u8 240, .int .u8 240, .int .u8 240, .int .u8 240, .int .u8 240, .int .u8 240, .int .u8 240, .int .u8 240, .int .u8 240, .int .u8 240, .int .u8 240, .int .u8 240, .int .u8 240, .int .u8 240, .int .u8 240, .int .u8 240, .int .u8 241, .int .u8 241, .int .u8 241, .int .u8 241, .int .u8 241, .int .u8 241, .int .u8 241, .int .u8 241, .int .u8 241, .int .u8 241, .int .u8 241, .int .u8 241, .int .u8 241, .int .u8 241, .int .u8 241, .int .u8 241, .int .u8 241, .int .u8 241, .int .u8 241, .int .u8 241, .int .u8 241, .int .u8 241, .int .u8 241, .int .u8 241, .int .u8 241, .int .u8 241, .int .u8 241, .int .u8 241, .int .u8 241, .int .u8 241, .int .u8 241, .int .u8 241, .int .u8 241, .int .u8 241, .int .u8 241, .int .u8 241, .int .u8 241, .int .u8 241, .int .u8 241, .int .u8 241, .int .u8 241, .int .u8 241, .int .u8 241, .int .u8 241, .int .u8 241, .int .u8 241, .int .u8 241, .int .u8 241, .int .u8 241, .int .u8 241, .int .u8 241, .int .u8 241, .int .u8 241, .int .u8 241, .int .u8 241, .int .u8 241, .int .u8 241, .int .u8 241, .int .u8 241, .int .u8 241, .int .u8 241, .int .u8 241, .int .u8 241, .int .u8 241, .int .u8 241, .int .u8 241, .int .u8 2, .int .u8 2, .int .u8 2, .int .u8 2, .int .u8 2, .int .u8 2, .int .u8 2, .int .u8 2, .int .u8 2, .int .u8 2, .int .u8 2, .int .u8 2, .int .u8 2, .int .u8 2, .int .u8 2, .int .u8 2, .int .u8 2, .int .u8 2, .int .u8 2, .int .u8 2, .int .u8 2, .int .u8 2, .int .u8 2, .int .u8 2, .int .u8 2, .int .u8 2, .int .u8 2, .int .u8 2, .int .u8 2, .int .u8 2, .int .u8 19, .int .u8 3, .int .u8 3, .int .u8 3, .int .u8 3, .int .u8 3, .int .u8 3, .int .u8 3, .int .u8 3, .int .u8 3, .int .u8 3, .int .u8 3, .int .u8 3, .int .u8 35, .int .u8 3, .int .u8 3, .int .u8 52, .int .u8 4, .int .u8 4, .int .u8 4, .int .u8 68, .int .u8 241, .int .u8 241, .int .u8 241, .int .u8 241, .int .u8 241, .int .u8 241, .int .u8 241, .int .u8 241, .int .u8 241, .int .u8 241, .int .u8 241])) }
set_option maxRecDepth 100000 in
theorem laid_met (os : Os) : laidMet Tryz.prog Rows.deltaTellsUptoRow.laid ((laidWorld os).forCall (fun _ _ => 0) ⟨#[], #[.agg #[.bool false, .slice none 0 0, .slice none 0 0, .bool false, .slice none 0 0, .slice none 0 0, .bool false, .slice none 0 0, .slice none 0 0, .bool false, .slice none 0 0, .slice none 0 0], .agg #[.int .u32 0, .int .u32 0]], []⟩).memory :=
  laidMet_of_run' 8 (by kernel_rfl) (by kernel_rfl)
theorem reads (os : Os) {H : Type} (enc : TypeId × Value → H) : ∃ places, DataW.whole enc Tryz.prog ((laidWorld os).forCall (fun _ _ => 0) ⟨#[], #[.agg #[.bool false, .slice none 0 0, .slice none 0 0, .bool false, .slice none 0 0, .slice none 0 0, .bool false, .slice none 0 0, .slice none 0 0, .bool false, .slice none 0 0, .slice none 0 0], .agg #[.int .u32 0, .int .u32 0]], []⟩).memory Tryz.f6.params.toList Rows.deltaTellsSpec.vars false [Value.agg #[.bool false, .slice none 0 0, .slice none 0 0, .bool false, .slice none 0 0, .slice none 0 0, .bool false, .slice none 0 0, .slice none 0 0, .bool false, .slice none 0 0, .slice none 0 0], Value.agg #[.int .u32 0, .int .u32 0]] 8 = some ([.agg [.agg [.agg [.agg [.lit (.bool false), .nil], .nil], .agg [.agg [.lit (.bool false), .nil], .nil]], .agg [.agg [.agg [.lit (.bool false), .nil], .nil], .agg [.agg [.lit (.bool false), .nil], .nil]]], .agg [.lit (.int .u32 0), .lit (.int .u32 0)]], [], places) :=
  ⟨[], by kernel_rfl⟩

set_option maxRecDepth 100000 in
theorem liftedUpto (os : Os) (started : os.Started) (H : Type) (enc : TypeId × Value → H) (F : Stop.Interp) :
    ReturnsInHanded {} Tryz.checked os 6 .any ((Rows.OpenSpec.upto Rows.deltaTellsSpec).preRow enc Tryz.prog Tryz.f6 Rows.deltaTellsUptoRow.domain false Rows.deltaTellsUptoRow.laid) (((Rows.OpenSpec.upto Rows.deltaTellsSpec).at F).post enc Tryz.prog Tryz.f6 false true false false) := by
  obtain ⟨places, hx⟩ := reads os enc
  refine returnsInHanded_of_row (C := Tryz.checked) (s := Rows.OpenSpec.upto Rows.deltaTellsSpec) own started (by kernel_rfl) Tryz.func6
    (witness_row_at (enc := enc) (C := Tryz.checked) false (laidWorld os) #[.agg #[.bool false, .slice none 0 0, .slice none 0 0, .bool false, .slice none 0 0, .slice none 0 0, .bool false, .slice none 0 0, .slice none 0 0, .bool false, .slice none 0 0, .slice none 0 0], .agg #[.int .u32 0, .int .u32 0]] rfl (by kernel_rfl) (by kernel_rfl) (by kernel_rfl)
      (OpenSpec.preRow_of_cond 8 hx (by kernel_rfl) (fun k hk => by cases hk; kernel_rfl) (by kernel_rfl) (laid_met os))) ?_
  intro W base args ds gs before hval hW _ hk hsz hL _ _
  exact contract H enc W base args ds gs before hval hW hsz (hk _ rfl) hL

theorem saidUpto : Rows.DeltaTellsUptoSaid :=
  OpenClaim.holds_of_cond 6 Tryz.f6 rfl rfl rfl rfl rfl rfl rfl ⟨rfl, rfl, rfl, rfl, rfl⟩ rfl rfl rfl rfl rfl (by kernel_rfl) Tryz.func6 (by kernel_rfl)
    (of_decide_eq_true (by kernel_rfl)) (by unfold Func.isWrapper; first | (rw [if_pos (by decide +kernel)]; kernel_rfl) | (rw [if_neg (by decide +kernel)]; exact ⟨rfl, rfl⟩))
    (fun os started H enc _ F => by rw [OpenClaim.pre_eq_preRow]; exact liftedUpto os started H enc F)

theorem plain (f : FuncId) (fn : Func) (hf : Tryz.pinned.checked.prog.funcNamed "fulcrum/fulcrumlaw05.DeltaTells" = some f) (hfn : Tryz.pinned.checked.prog.funcs[f]? = some fn) :
    false = Tryz.pinned.checked.prog.looks [] ∧ ∀ (j : Nat) t, fn.params[j]? = some t → Tryz.pinned.checked.prog.wantsStandIn t = false := by
  obtain rfl : f = 6 := Option.some.inj ((show Tryz.prog.funcNamed "fulcrum/fulcrumlaw05.DeltaTells" = some 6 by kernel_rfl).symm.trans hf) |>.symm
  obtain rfl : fn = Tryz.f6 := (Option.some.inj (Tryz.func6.symm.trans hfn)).symm
  refine ⟨by kernel_rfl, fun j t ht => ?_⟩
  rw [Tryz.params6] at ht
  have hm := Array.mem_of_getElem? ht
  simp only [List.mem_toArray, List.mem_cons, List.not_mem_nil, or_false] at hm
  rcases hm with rfl | rfl
  · exact (show Tryz.prog.wantsStandIn 51 = false by kernel_rfl)
  · exact (show Tryz.prog.wantsStandIn 52 = false by kernel_rfl)

theorem cardUpto : Rows.DeltaTellsUptoCardSaid :=
  Claim7.holds_tied_plain_at .later [] _ _ _ _ saidUpto (fun _ h => by cases h) (by kernel_rfl) (fun _ h => by cases h) deltaTellsUpto_row_tie rfl ⟨rfl, rfl⟩ (by kernel_rfl) rfl plain (by kernel_rfl)
end Go.Proofs.YtnifelfecildmaaGreatDoor.deltaTells
namespace Go.Proofs.YtnifelfecildmaaGreatDoor
theorem deltaTells_holds : Rows.DeltaTellsUptoCardSaid := deltaTells.cardUpto
#print axioms deltaTells_holds
end Go.Proofs.YtnifelfecildmaaGreatDoor
