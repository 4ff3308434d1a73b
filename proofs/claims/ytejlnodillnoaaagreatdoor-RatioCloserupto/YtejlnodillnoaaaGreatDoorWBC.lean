import Derived.Test.YtejlnodillnoaaaGreatDoorWQ7
import Derived.Test.YtejlnodillnoaaaGreatDoorWGR
import Derived.Test.YtejlnodillnoaaaGreatDoorRegS
import Derived.Test.YtejlnodillnoaaaGreatDoorWJ7
import Derived.Test.YtejlnodillnoaaaGreatDoorNumN4
set_option linter.unusedSimpArgs false
namespace Go.Proofs.YtejlnodillnoaaaGreatDoor
open Go.RowKit
set_option linter.unusedVariables false
theorem RatV.ok.ch {x : RatV} {c : Nat} {W W' : World} (h : x.ok W) (k : Ch c W W') (hno : ∀ o i, W.cell? ⟨c, o, none⟩ ≠ some (.int .u32 i)) : x.ok W' := ⟨h.1.ch k hno, h.2.1, h.2.2.1, h.2.2.2.1.ch k hno, h.2.2.2.2⟩
theorem cell_ltB {w : World} {c o : Nat} {v : Value} (h : w.cell? ⟨c, o, none⟩ = some v) : c < w.heap.size := World.block_lt_of_cell? w _ h
theorem sR_tri (x y : Rat) : (x < y ∧ sR (x - y) = -1) ∨ (x = y ∧ sR (x - y) = 0) ∨ (y < x ∧ sR (x - y) = 1) := by
  have e : ∀ z : Rat, (z < 0 ∧ sR z = -1) ∨ (z = 0 ∧ sR z = 0) ∨ (0 < z ∧ sR z = 1) := fun z => by
    have h1 : z < 0 ↔ z.num < 0 := by rw [Rat.lt_iff]; simp
    have h2 : 0 < z ↔ 0 < z.num := by rw [Rat.lt_iff]; simp
    unfold sR sgn
    rcases Int.lt_trichotomy z.num 0 with h | h | h
    · exact Or.inl ⟨h1.2 h, if_pos h⟩
    · exact Or.inr (Or.inl ⟨Rat.num_eq_zero.1 h, by rw [if_neg (by omega), if_pos h]⟩)
    · exact Or.inr (Or.inr ⟨h2.2 h, by rw [if_neg (by omega), if_neg (by omega)]⟩)
  rcases e (x - y) with ⟨h, k⟩ | ⟨h, k⟩ | ⟨h, k⟩
  · exact Or.inl ⟨by grind, k⟩
  · exact Or.inr (Or.inl ⟨by grind, k⟩)
  · exact Or.inr (Or.inr ⟨by grind, k⟩)
def orI (a b c : Int) : Int := if a = 0 then (if b = 0 then c else b) else a
theorem absR_eq (y : Rat) : absR y = if y < 0 then -y else y := by
  have h1 : y < 0 ↔ y.num < 0 := by rw [Rat.lt_iff]; simp
  unfold absR
  split
  · have h := h1.1 (by assumption)
    rw [show ((am y.num : Nat) : Int) = -y.num by unfold am; omega, ← Rat.neg_divInt, Rat.num_divInt_den]
  · rename_i h
    have h2 : ¬ y.num < 0 := fun k => h (h1.2 k)
    rw [show ((am y.num : Nat) : Int) = y.num by unfold am; omega, Rat.num_divInt_den]
theorem absR_dsR (r x : Rat) : absR (x - r) = dsR r x := by
  rw [absR_eq]
  unfold dsR
  split <;> split <;> grind
theorem absR_dsR2 (r x : Rat) : absR (r - x) = dsR r x := by
  rw [absR_eq]
  unfold dsR
  split <;> split <;> grind
theorem sz_absR {y : Rat} {N : Nat} (h : sz N y) : sz N (absR y) := by
  rw [absR_eq]
  split
  · exact sz_negY h
  · exact h
theorem sz_subY {r t : Rat} {N M : Nat} (h : sz N r) (k : sz M t) : sz (2 * N + 2 * M + 3) (r - t) := by
  rw [Rat.sub_eq_add_neg]
  exact sz_addY h (sz_negY k)
theorem sz_ds {r t : Rat} {N M : Nat} (h : sz N r) (k : sz M t) : sz (2 * N + 2 * M + 3) (dsR r t) := by
  rw [← absR_dsR2]
  exact sz_absR (sz_subY h k)
theorem cmpI_tri (X Y : Nat) : (X < Y ∧ cmpI X Y = -1) ∨ (X = Y ∧ cmpI X Y = 0) ∨ (Y < X ∧ cmpI X Y = 1) := by
  rcases Nat.lt_trichotomy X Y with h | h | h
  · exact Or.inl ⟨h, cmpI_lt h⟩
  · exact Or.inr (Or.inl ⟨h, cmpI_eq h⟩)
  · exact Or.inr (Or.inr ⟨h, cmpI_gt h⟩)
theorem orI_ahd (r a b : Rat) : orI (sR (dsR r a - dsR r b)) (cmpI a.den b.den) (sR (a - b)) < 0 ↔ ahd r a b := by
  unfold orI ahd
  rcases sR_tri (dsR r a) (dsR r b) with ⟨h, k⟩ | ⟨h, k⟩ | ⟨h, k⟩
  · rw [k, if_neg (by decide)]
    exact ⟨fun _ => Or.inl h, fun _ => by decide⟩
  · rw [k, if_pos rfl]
    have h0 : ¬ dsR r a < dsR r b := by rw [h]; grind
    rcases cmpI_tri a.den b.den with ⟨h1, k1⟩ | ⟨h1, k1⟩ | ⟨h1, k1⟩
    · rw [k1, if_neg (by decide)]
      exact ⟨fun _ => Or.inr ⟨h, Or.inl h1⟩, fun _ => by decide⟩
    · rw [k1, if_pos rfl]
      rcases sR_tri a b with ⟨h2, k2⟩ | ⟨h2, k2⟩ | ⟨h2, k2⟩
      · rw [k2]
        exact ⟨fun _ => Or.inr ⟨h, Or.inr ⟨h1, h2⟩⟩, fun _ => by decide⟩
      · rw [k2]
        refine ⟨fun h9 => absurd h9 (by decide), ?_⟩
        rintro (h9 | ⟨_, h9 | ⟨_, h9⟩⟩)
        · exact absurd h9 h0
        · omega
        · rw [h2] at h9; grind
      · rw [k2]
        refine ⟨fun h9 => absurd h9 (by decide), ?_⟩
        rintro (h9 | ⟨_, h9 | ⟨_, h9⟩⟩)
        · exact absurd h9 h0
        · omega
        · grind
    · rw [k1, if_neg (by decide)]
      refine ⟨fun h9 => absurd h9 (by decide), ?_⟩
      rintro (h9 | ⟨_, h9 | ⟨h9, _⟩⟩)
      · exact absurd h9 h0
      · omega
      · omega
  · rw [k, if_neg (by decide)]
    refine ⟨fun h9 => absurd h9 (by decide), ?_⟩
    rintro (h9 | ⟨h9, _⟩)
    · grind
    · rw [h9] at h; grind
def NearA (w : World) (A : RatV) (a b : Rat) (e : Ending) (w' : World) : Prop := ∃ c p q, ((ahd A.val a b ∧ c = a) ∨ (¬ ahd A.val a b ∧ c = b)) ∧ e = .returned (.agg #[.bool (ng c.num), .slice p (ln (am c.num)) (ln (am c.num)), .slice q (ln c.den) (ln c.den)]) ∧ Below w.heap.size w w' ∧ (nR c p q).ok w'
set_option maxHeartbeats 1000000 in
theorem or_is (g : Nat) (C1 C2 C3 : Int) (w : World) (hq : Blk w g #[.int .i64 C1, .int .i64 C2, .int .i64 C3] 3) :
    Calls Tryz.prog 87 #[.slice (some ⟨g, 0, none⟩) 3 3] w fun e w' => e = .returned (.int .i64 (orI C1 C2 C3)) ∧ w' = w := by
  have y0 := hq.cell 0
  have y1 := hq.cell 1
  have y2 := hq.cell 2
  simp only [List.getElem?_toArray, List.getElem?_cons_zero, List.getElem?_cons_succ] at y0 y1 y2
  have HO := hide' (show orI C1 C2 C3 = if C1 = 0 then (if C2 = 0 then C3 else C2) else C1 from rfl)
  generalize orI C1 C2 C3 = O at HO ⊢
  go_enter Tryz.func87, Tryz.ntmps87
  go_wp2
  go_loop [8] (fun i => ∃ k : Nat, k ≤ 3 ∧ i = .int .i64 k ∧ (1 ≤ k → C1 = 0) ∧ (2 ≤ k → C2 = 0) ∧ (3 ≤ k → C3 = 0)) (fun i => 3 - (intOf i).toNat)
  case atStart => exact ⟨0, by omega, rfl, fun h => by omega, fun h => by omega, fun h => by omega⟩
  case round =>
    obtain ⟨k, hk, rfl, h1, h2, h3⟩ := hrel
    have H1 := hide' h1
    have H2 := hide' h2
    have H3 := hide' h3
    clear h1 h2 h3
    rcases (show k = 0 ∨ k = 1 ∨ k = 2 ∨ k = 3 by omega) with rfl | rfl | rfl | rfl
    · by_cases hc : C1 = 0
      · have hx : (C1 == 0) = true := by rw [hc]; rfl
        have hx2 : (C1 != 0) = false := by rw [hc]; rfl
        have HC := hide' hc
        clear hc
        go_wp2
        go_round
        case rel => exact ⟨1, by omega, by go_num, fun _ => HC.out, fun h => by omega, fun h => by omega⟩
        case measure => simp [intOf]
      · have hx : (C1 == 0) = false := beq_eq_false_iff_ne.2 hc
        have hx2 : (C1 != 0) = true := by simp [hc]
        have HC := hide' hc
        clear hc
        go_wp2
        go_ret
        exact ⟨by rw [HO.out, if_neg HC.out]; first | done | rfl, rfl⟩
    · by_cases hc : C2 = 0
      · have hx : (C2 == 0) = true := by rw [hc]; rfl
        have hx2 : (C2 != 0) = false := by rw [hc]; rfl
        have HC := hide' hc
        clear hc
        go_wp2
        go_round
        case rel => exact ⟨2, by omega, by go_num, fun _ => H1.out (by omega), fun _ => HC.out, fun h => by omega⟩
        case measure => simp [intOf]
      · have hx : (C2 == 0) = false := beq_eq_false_iff_ne.2 hc
        have hx2 : (C2 != 0) = true := by simp [hc]
        have HC := hide' hc
        clear hc
        go_wp2
        go_ret
        exact ⟨by rw [HO.out, if_pos (H1.out (by omega)), if_neg HC.out]; first | done | rfl, rfl⟩
    · by_cases hc : C3 = 0
      · have hx : (C3 == 0) = true := by rw [hc]; rfl
        have hx2 : (C3 != 0) = false := by rw [hc]; rfl
        have HC := hide' hc
        clear hc
        go_wp2
        go_round
        case rel => exact ⟨3, by omega, by go_num, fun _ => H1.out (by omega), fun _ => H2.out (by omega), fun _ => HC.out⟩
        case measure => simp [intOf]
      · have hx : (C3 == 0) = false := beq_eq_false_iff_ne.2 hc
        have hx2 : (C3 != 0) = true := by simp [hc]
        have HC := hide' hc
        clear hc
        go_wp2
        go_ret
        exact ⟨by rw [HO.out, if_pos (H1.out (by omega)), if_pos (H2.out (by omega))]; first | done | rfl, rfl⟩
    · go_wp2
      go_ret
      exact ⟨by rw [HO.out, if_pos (H1.out (by omega)), if_pos (H2.out (by omega)), H3.out (by omega)]; first | done | rfl, rfl⟩
theorem absQ (A : RatV) (S : Rat) (w : World) (hA : A.ok w) (hS : absR A.val = S) (hz : sz 100000000 S) (hn : A.n ≤ 100000000 ∧ A.m ≤ 100000000) : Calls Tryz.prog 88 #[.agg #[.bool A.s, .slice A.a A.n A.c, .slice A.b A.m A.e]] w (QA w S) := by
  subst hS
  refine (qAbs_is A.s A.a A.n A.c A.X A.b A.m A.e A.Y _ _ w hA.2.1 (by omega) hA.1 hA.2.2.2.2.1 (by omega) hA.2.2.2.1 (low_of (rd_ne _) (absR_val A))).mono ?_
  rintro e w1 ⟨p, q, rfl, n1, n2⟩
  exact ⟨p, q, rfl, n1.below, ok_nR hz n1 n2⟩
set_option maxHeartbeats 8000000 in
set_option maxRecDepth 100000 in
theorem nearer_is (A : RatV) (a b : Rat) (pa qa pb qb : Option Addr) (w : World) (hA : A.ok w) (ha : (nR a pa qa).ok w) (hb : (nR b pb qb).ok w) (hn : A.n ≤ 2000000 ∧ A.m ≤ 2000000) (sA : sz 2000001 A.val) (sa : sz 2000000 a) (sb : sz 2000000 b) :
    Calls Tryz.prog 50 #[.agg #[.bool A.s, .slice A.a A.n A.c, .slice A.b A.m A.e], .agg #[.bool (ng a.num), .slice pa (ln (am a.num)) (ln (am a.num)), .slice qa (ln a.den) (ln a.den)], .agg #[.bool (ng b.num), .slice pb (ln (am b.num)) (ln (am b.num)), .slice qb (ln b.den) (ln b.den)]] w (NearA w A a b) := by
  obtain ⟨Sa, hSa⟩ : ∃ S, a - A.val = S := ⟨_, rfl⟩
  obtain ⟨DA, hDA⟩ : ∃ S, dsR A.val a = S := ⟨_, rfl⟩
  have za : sz 100000000 Sa := by rw [← hSa]; exact (sz_subY sa sA).mono (by omega)
  have zDA : sz 100000000 DA := by rw [← hDA]; exact (sz_ds sA sa).mono (by omega)
  have GSa := hide' (fun w' (k1 : (nR a pa qa).ok w') (k2 : A.ok w') => subQ (nR a pa qa) A Sa w' k1 k2 ⟨Nat.le_trans sa.1 (by omega), Nat.le_trans sa.2 (by omega), by omega, by omega⟩ (by rw [nR_val]; exact hSa) za)
  have GAa := hide' (fun w' p q (k1 : (nR Sa p q).ok w') => absQ (nR Sa p q) DA w' k1 (by rw [nR_val, ← hSa, absR_dsR]; exact hDA) zDA ⟨za.1, za.2⟩)
  obtain ⟨Sb, hSb⟩ : ∃ S, b - A.val = S := ⟨_, rfl⟩
  obtain ⟨DB, hDB⟩ : ∃ S, dsR A.val b = S := ⟨_, rfl⟩
  have zb : sz 100000000 Sb := by rw [← hSb]; exact (sz_subY sb sA).mono (by omega)
  have zDB : sz 100000000 DB := by rw [← hDB]; exact (sz_ds sA sb).mono (by omega)
  have GSb := hide' (fun w' (k1 : (nR b pb qb).ok w') (k2 : A.ok w') => subQ (nR b pb qb) A Sb w' k1 k2 ⟨Nat.le_trans sb.1 (by omega), Nat.le_trans sb.2 (by omega), by omega, by omega⟩ (by rw [nR_val]; exact hSb) zb)
  have GAb := hide' (fun w' p q (k1 : (nR Sb p q).ok w') => absQ (nR Sb p q) DB w' k1 (by rw [nR_val, ← hSb, absR_dsR]; exact hDB) zDB ⟨zb.1, zb.2⟩)
  obtain ⟨C1, hC1⟩ : ∃ C, sR (DA - DB) = C := ⟨_, rfl⟩
  obtain ⟨C2, hC2⟩ : ∃ C, cmpI a.den b.den = C := ⟨_, rfl⟩
  obtain ⟨C3, hC3⟩ : ∃ C, sR (a - b) = C := ⟨_, rfl⟩
  have GC1 := hide' (fun w' p q p1 q1 (k1 : (nR DA p q).ok w') (k2 : (nR DB p1 q1).ok w') => cmpQ (nR DA p q) (nR DB p1 q1) w' k1 k2 ⟨zDA.1, zDA.2, zDB.1, zDB.2⟩ C1 (by rw [nR_val, nR_val]; exact hC1))
  have GC2 := hide' (fun w' (k1 : Seg w' qa a.den (ln a.den)) (k2 : Seg w' qb b.den (ln b.den)) => (Cmp_any qa qb (ln a.den) (ln a.den) a.den (ln b.den) (ln b.den) b.den w' (Nat.le_refl _) (Nat.le_trans sa.2 (by omega)) k1 (Nat.le_refl _) (Nat.le_trans sb.2 (by omega)) k2).mono (fun e w2 h => (show e = .returned (.int .i64 (cmpI a.den b.den)) ∧ Below w'.heap.size w' w2 from ⟨h.1, h.2.below _⟩)))
  rw [hC2] at GC2
  have GC3 := hide' (fun w' (k1 : (nR a pa qa).ok w') (k2 : (nR b pb qb).ok w') => cmpQ (nR a pa qa) (nR b pb qb) w' k1 k2 ⟨Nat.le_trans sa.1 (by omega), Nat.le_trans sa.2 (by omega), Nat.le_trans sb.1 (by omega), Nat.le_trans sb.2 (by omega)⟩ C3 (by rw [nR_val, nR_val]; exact hC3))
  obtain ⟨O, hO⟩ : ∃ O, orI C1 C2 C3 = O := ⟨_, rfl⟩
  have GO := hide' (fun g w' hq => (or_is g C1 C2 C3 w' hq).mono (fun e w2 h => (show e = .returned (.int .i64 (orI C1 C2 C3)) ∧ Below w'.heap.size w' w2 from ⟨h.1, h.2 ▸ Below.refl _ _⟩)))
  rw [hO] at GO
  have HO := hide' (show O < 0 ↔ ahd A.val a b by rw [← hO, ← hC1, ← hC2, ← hC3, ← hDA, ← hDB]; exact orI_ahd _ _ _)
  clear hO hC1 hC2 hC3 hDA hDB hSa hSb
  have bel : Below w.heap.size w w := Below.refl _ _
  have bb := below_alloc (w := w) (.cells #[.bool A.s, .slice A.a A.n A.c, .slice A.b A.m A.e] 27)
  replace hA := hA.on bb
  replace ha := ha.on bb
  replace hb := hb.on bb
  replace bel := bel.trans (bb.mono bel.size)
  clear bb
  have qr := Blk.new w #[.bool A.s, .slice A.a A.n A.c, .slice A.b A.m A.e] 27
  have bb := below_alloc (w := (w.alloc (.cells #[.bool A.s, .slice A.a A.n A.c, .slice A.b A.m A.e] 27))) (.cells #[.bool (ng a.num), .slice pa (ln (am a.num)) (ln (am a.num)), .slice qa (ln a.den) (ln a.den)] 27)
  replace qr := qr.later bb
  replace hA := hA.on bb
  replace ha := ha.on bb
  replace hb := hb.on bb
  replace bel := bel.trans (bb.mono bel.size)
  clear bb
  have qx := Blk.new (w.alloc (.cells #[.bool A.s, .slice A.a A.n A.c, .slice A.b A.m A.e] 27)) #[.bool (ng a.num), .slice pa (ln (am a.num)) (ln (am a.num)), .slice qa (ln a.den) (ln a.den)] 27
  simp only [World.size_alloc] at qx
  have bb := below_alloc (w := ((w.alloc (.cells #[.bool A.s, .slice A.a A.n A.c, .slice A.b A.m A.e] 27)).alloc (.cells #[.bool (ng a.num), .slice pa (ln (am a.num)) (ln (am a.num)), .slice qa (ln a.den) (ln a.den)] 27))) (.cells #[.bool (ng b.num), .slice pb (ln (am b.num)) (ln (am b.num)), .slice qb (ln b.den) (ln b.den)] 27)
  replace qr := qr.later bb
  replace qx := qx.later bb
  replace hA := hA.on bb
  replace ha := ha.on bb
  replace hb := hb.on bb
  replace bel := bel.trans (bb.mono bel.size)
  clear bb
  have qy := Blk.new ((w.alloc (.cells #[.bool A.s, .slice A.a A.n A.c, .slice A.b A.m A.e] 27)).alloc (.cells #[.bool (ng a.num), .slice pa (ln (am a.num)) (ln (am a.num)), .slice qa (ln a.den) (ln a.den)] 27)) #[.bool (ng b.num), .slice pb (ln (am b.num)) (ln (am b.num)), .slice qb (ln b.den) (ln b.den)] 27
  simp only [World.size_alloc] at qy
  have bb := below_alloc (w := (((w.alloc (.cells #[.bool A.s, .slice A.a A.n A.c, .slice A.b A.m A.e] 27)).alloc (.cells #[.bool (ng a.num), .slice pa (ln (am a.num)) (ln (am a.num)), .slice qa (ln a.den) (ln a.den)] 27)).alloc (.cells #[.bool (ng b.num), .slice pb (ln (am b.num)) (ln (am b.num)), .slice qb (ln b.den) (ln b.den)] 27))) (.cells #[.bool false, .slice none 0 0, .slice none 0 0] 27)
  replace qr := qr.later bb
  replace qx := qx.later bb
  replace qy := qy.later bb
  replace hA := hA.on bb
  replace ha := ha.on bb
  replace hb := hb.on bb
  replace bel := bel.trans (bb.mono bel.size)
  clear bb
  have qo := Blk.new (((w.alloc (.cells #[.bool A.s, .slice A.a A.n A.c, .slice A.b A.m A.e] 27)).alloc (.cells #[.bool (ng a.num), .slice pa (ln (am a.num)) (ln (am a.num)), .slice qa (ln a.den) (ln a.den)] 27)).alloc (.cells #[.bool (ng b.num), .slice pb (ln (am b.num)) (ln (am b.num)), .slice qb (ln b.den) (ln b.den)] 27)) #[.bool false, .slice none 0 0, .slice none 0 0] 27
  simp only [World.size_alloc] at qo
  go_enter Tryz.func50, Tryz.ntmps50
  go_wp2_with fail
  obtain ⟨W0, hW⟩ : ∃ W, ((((w.alloc (.cells #[.bool A.s, .slice A.a A.n A.c, .slice A.b A.m A.e] 27)).alloc (.cells #[.bool (ng a.num), .slice pa (ln (am a.num)) (ln (am a.num)), .slice qa (ln a.den) (ln a.den)] 27)).alloc (.cells #[.bool (ng b.num), .slice pb (ln (am b.num)) (ln (am b.num)), .slice qb (ln b.den) (ln b.den)] 27)).alloc (.cells #[.bool false, .slice none 0 0, .slice none 0 0] 27)) = W := ⟨_, rfl⟩
  rw [hW] at bel qr qx qy qo hA ha hb ⊢
  clear hW
  have lqo := qo.lt
  have qr_0 := qr.cell 0
  have qr_1 := qr.cell 1
  have qr_2 := qr.cell 2
  have qx_0 := qx.cell 0
  have qx_1 := qx.cell 1
  have qx_2 := qx.cell 2
  have qy_0 := qy.cell 0
  have qy_1 := qy.cell 1
  have qy_2 := qy.cell 2
  simp only [List.getElem?_toArray, List.getElem?_cons_zero, List.getElem?_cons_succ] at qr_0 qr_1 qr_2 qx_0 qx_1 qx_2 qy_0 qy_1 qy_2
  have bD : Below W0.heap.size W0 W0.drew := (Below.refl _ _).drew
  have kqr_0 := below_cell bD qr_0
  have kqr_1 := below_cell bD qr_1
  have kqr_2 := below_cell bD qr_2
  have kqx_0 := below_cell bD qx_0
  have kqx_1 := below_cell bD qx_1
  have kqx_2 := below_cell bD qx_2
  have kqy_0 := below_cell bD qy_0
  have kqy_1 := below_cell bD qy_1
  have kqy_2 := below_cell bD qy_2
  replace hA := hA.on bD
  replace ha := ha.on bD
  replace hb := hb.on bD
  replace bel := bel.trans (bD.mono bel.size)
  replace qr := qr.later bD
  replace qx := qx.later bD
  replace qy := qy.later bD
  replace qo := qo.later bD
  refine wp_region_held_drew (S := fun w' => w'.cell? ⟨w.heap.size, 0, none⟩ = some (.bool A.s) ∧ w'.cell? ⟨w.heap.size, 1, none⟩ = some (.slice A.a A.n A.c) ∧ w'.cell? ⟨w.heap.size, 2, none⟩ = some (.slice A.b A.m A.e) ∧ w'.cell? ⟨w.heap.size + 1, 0, none⟩ = some (.bool (ng a.num)) ∧ w'.cell? ⟨w.heap.size + 1, 1, none⟩ = some (.slice pa (ln (am a.num)) (ln (am a.num))) ∧ w'.cell? ⟨w.heap.size + 1, 2, none⟩ = some (.slice qa (ln a.den) (ln a.den)) ∧ w'.cell? ⟨w.heap.size + 1 + 1, 0, none⟩ = some (.bool (ng b.num)) ∧ w'.cell? ⟨w.heap.size + 1 + 1, 1, none⟩ = some (.slice pb (ln (am b.num)) (ln (am b.num))) ∧ w'.cell? ⟨w.heap.size + 1 + 1, 2, none⟩ = some (.slice qb (ln b.den) (ln b.den))) (by kernel_rfl) ⟨kqr_0, kqr_1, kqr_2, kqx_0, kqx_1, kqx_2, kqy_0, kqy_1, kqy_2⟩ (fun hHeld => ?_)
  clear kqr_0 kqr_1 kqr_2 kqx_0 kqx_1 kqx_2 kqy_0 kqy_1 kqy_2
  generalize W0.drew = w0F at bD hA ha hb qr qx qy qo bel hHeld ⊢
  clear bD qr_0 qr_1 qr_2 qx_0 qx_1 qx_2 qy_0 qy_1 qy_2
  refine tk 0 (v := ?_) rfl (Or.inl ⟨by rfl, ?_⟩) ?_
  rotate_left
  · intro w9 hSw
    go_simp
    first | done | with_reducible rfl
  simp only [pP, pN, pS, pZ, pC]
  refine tk 1 (v := ?_) rfl (Or.inl ⟨by rfl, ?_⟩) ?_
  rotate_left
  · intro w9 hSw
    go_simp
    first | done | with_reducible rfl
  simp only [pP, pN, pS, pZ, pC]
  refine tk 4 (v := ?_) rfl (Or.inl ⟨by rfl, ?_⟩) ?_
  rotate_left
  · intro w9 hSw
    go_simp
    first | done | with_reducible rfl
  simp only [pP, pN, pS, pZ, pC]
  refine tk 5 (v := ?_) rfl (Or.inl ⟨by rfl, ?_⟩) ?_
  rotate_left
  · intro w9 hSw
    go_simp
    first | done | with_reducible rfl
  simp only [pP, pN, pS, pZ, pC]
  refine tk 9 (v := ?_) rfl (Or.inl ⟨by rfl, ?_⟩) ?_
  rotate_left
  · intro w9 hSw
    go_simp
    first | done | with_reducible rfl
  simp only [pP, pN, pS, pZ, pC]
  refine tk 10 (v := ?_) rfl (Or.inl ⟨by rfl, ?_⟩) ?_
  rotate_left
  · intro w9 hSw
    go_simp
    first | done | with_reducible rfl
  simp only [pP, pN, pS, pZ, pC]
  refine tk 11 (v := ?_) rfl (Or.inl ⟨by rfl, ?_⟩) ?_
  rotate_left
  · intro w9 hSw
    go_simp
    first | done | with_reducible rfl
  simp only [pP, pN, pS, pZ, pC]
  refine tk 12 (v := ?_) rfl (Or.inl ⟨by rfl, ?_⟩) ?_
  rotate_left
  · intro w9 hSw
    go_simp
    first | done | with_reducible rfl
  simp only [pP, pN, pS, pZ, pC]
  refine tk 14 (v := ?_) rfl (Or.inl ⟨by rfl, ?_⟩) ?_
  rotate_left
  · intro w9 hSw
    go_simp
    first | done | with_reducible rfl
  simp only [pP, pN, pS, pZ, pC]
  refine tk 15 (v := ?_) rfl (Or.inl ⟨by rfl, ?_⟩) ?_
  rotate_left
  · intro w9 hSw
    go_simp
    first | done | with_reducible rfl
  simp only [pP, pN, pS, pZ, pC]
  refine wpAnyH_ready (rs := [2]) (by kernel_rfl) (by simp) ?_
  refine cons' rfl (fun KK hKK => ?_)
  go_simp
  refine (GSa.out _ ha hA).mono ?_
  rintro e w1 ⟨p1, q1, rfl, b1, o1⟩
  have bC := b1
  replace hA := hA.on bC
  replace ha := ha.on bC
  replace hb := hb.on bC
  replace bel := bel.trans (bC.mono bel.size)
  replace qr := qr.later bC
  replace qx := qx.later bC
  replace qy := qy.later bC
  replace qo := qo.later bC
  replace hHeld := (⟨below_cell bC hHeld.1, below_cell bC hHeld.2.1, below_cell bC hHeld.2.2.1, below_cell bC hHeld.2.2.2.1, below_cell bC hHeld.2.2.2.2.1, below_cell bC hHeld.2.2.2.2.2.1, below_cell bC hHeld.2.2.2.2.2.2.1, below_cell bC hHeld.2.2.2.2.2.2.2.1, below_cell bC hHeld.2.2.2.2.2.2.2.2⟩ : _ ∧ _ ∧ _ ∧ _ ∧ _ ∧ _ ∧ _ ∧ _ ∧ _)
  clear bC
  go_wp2_with fail
  clear b1
  refine hKK.out _ _ hHeld ?_
  clear hHeld
  intro hHeld
  clear hKK KK
  try simp only [pP, pN, pS, pZ, pC]
  refine wpAnyH_ready (rs := [3]) (by kernel_rfl) (by simp) ?_
  refine cons' rfl (fun KK hKK => ?_)
  go_simp
  refine (GAa.out _ p1 q1 o1).mono ?_
  rintro e w2 ⟨p2, q2, rfl, b1, o2⟩
  have bC := b1
  replace hA := hA.on bC
  replace ha := ha.on bC
  replace hb := hb.on bC
  replace o1 := o1.on bC
  replace bel := bel.trans (bC.mono bel.size)
  replace qr := qr.later bC
  replace qx := qx.later bC
  replace qy := qy.later bC
  replace qo := qo.later bC
  replace hHeld := (⟨below_cell bC hHeld.1, below_cell bC hHeld.2.1, below_cell bC hHeld.2.2.1, below_cell bC hHeld.2.2.2.1, below_cell bC hHeld.2.2.2.2.1, below_cell bC hHeld.2.2.2.2.2.1, below_cell bC hHeld.2.2.2.2.2.2.1, below_cell bC hHeld.2.2.2.2.2.2.2.1, below_cell bC hHeld.2.2.2.2.2.2.2.2⟩ : _ ∧ _ ∧ _ ∧ _ ∧ _ ∧ _ ∧ _ ∧ _ ∧ _)
  clear bC
  go_wp2_with fail
  clear b1
  refine hKK.out _ _ hHeld ?_
  clear hHeld
  intro hHeld
  clear hKK KK
  try simp only [pP, pN, pS, pZ, pC]
  refine wpAnyH_ready (rs := [6]) (by kernel_rfl) (by simp) ?_
  refine cons' rfl (fun KK hKK => ?_)
  go_simp
  refine (GSb.out _ hb hA).mono ?_
  rintro e w3 ⟨p3, q3, rfl, b1, o3⟩
  have bC := b1
  replace hA := hA.on bC
  replace ha := ha.on bC
  replace hb := hb.on bC
  replace o1 := o1.on bC
  replace o2 := o2.on bC
  replace bel := bel.trans (bC.mono bel.size)
  replace qr := qr.later bC
  replace qx := qx.later bC
  replace qy := qy.later bC
  replace qo := qo.later bC
  replace hHeld := (⟨below_cell bC hHeld.1, below_cell bC hHeld.2.1, below_cell bC hHeld.2.2.1, below_cell bC hHeld.2.2.2.1, below_cell bC hHeld.2.2.2.2.1, below_cell bC hHeld.2.2.2.2.2.1, below_cell bC hHeld.2.2.2.2.2.2.1, below_cell bC hHeld.2.2.2.2.2.2.2.1, below_cell bC hHeld.2.2.2.2.2.2.2.2⟩ : _ ∧ _ ∧ _ ∧ _ ∧ _ ∧ _ ∧ _ ∧ _ ∧ _)
  clear bC
  go_wp2_with fail
  clear b1
  refine hKK.out _ _ hHeld ?_
  clear hHeld
  intro hHeld
  clear hKK KK
  try simp only [pP, pN, pS, pZ, pC]
  refine wpAnyH_ready (rs := [7]) (by kernel_rfl) (by simp) ?_
  refine cons' rfl (fun KK hKK => ?_)
  go_simp
  refine (GAb.out _ p3 q3 o3).mono ?_
  rintro e w4 ⟨p4, q4, rfl, b1, o4⟩
  have bC := b1
  replace hA := hA.on bC
  replace ha := ha.on bC
  replace hb := hb.on bC
  replace o1 := o1.on bC
  replace o2 := o2.on bC
  replace o3 := o3.on bC
  replace bel := bel.trans (bC.mono bel.size)
  replace qr := qr.later bC
  replace qx := qx.later bC
  replace qy := qy.later bC
  replace qo := qo.later bC
  replace hHeld := (⟨below_cell bC hHeld.1, below_cell bC hHeld.2.1, below_cell bC hHeld.2.2.1, below_cell bC hHeld.2.2.2.1, below_cell bC hHeld.2.2.2.2.1, below_cell bC hHeld.2.2.2.2.2.1, below_cell bC hHeld.2.2.2.2.2.2.1, below_cell bC hHeld.2.2.2.2.2.2.2.1, below_cell bC hHeld.2.2.2.2.2.2.2.2⟩ : _ ∧ _ ∧ _ ∧ _ ∧ _ ∧ _ ∧ _ ∧ _ ∧ _)
  clear bC
  go_wp2_with fail
  clear b1
  refine hKK.out _ _ hHeld ?_
  clear hHeld
  intro hHeld
  clear hKK KK
  try simp only [pP, pN, pS, pZ, pC]
  refine wpAnyH_ready (rs := [8]) (by kernel_rfl) (by simp) ?_
  refine cons' rfl (fun KK hKK => ?_)
  go_simp
  refine (GC1.out _ p2 q2 p4 q4 o2 o4).mono ?_
  rintro e w5 ⟨rfl, b1⟩
  have bC := b1
  replace hA := hA.on bC
  replace ha := ha.on bC
  replace hb := hb.on bC
  replace o1 := o1.on bC
  replace o2 := o2.on bC
  replace o3 := o3.on bC
  replace o4 := o4.on bC
  replace bel := bel.trans (bC.mono bel.size)
  replace qr := qr.later bC
  replace qx := qx.later bC
  replace qy := qy.later bC
  replace qo := qo.later bC
  replace hHeld := (⟨below_cell bC hHeld.1, below_cell bC hHeld.2.1, below_cell bC hHeld.2.2.1, below_cell bC hHeld.2.2.2.1, below_cell bC hHeld.2.2.2.2.1, below_cell bC hHeld.2.2.2.2.2.1, below_cell bC hHeld.2.2.2.2.2.2.1, below_cell bC hHeld.2.2.2.2.2.2.2.1, below_cell bC hHeld.2.2.2.2.2.2.2.2⟩ : _ ∧ _ ∧ _ ∧ _ ∧ _ ∧ _ ∧ _ ∧ _ ∧ _)
  clear bC
  go_wp2_with fail
  clear b1
  refine hKK.out _ _ hHeld ?_
  clear hHeld
  intro hHeld
  clear hKK KK
  try simp only [pP, pN, pS, pZ, pC]
  refine wpAnyH_ready (rs := [13]) (by kernel_rfl) (by simp) ?_
  refine cons' rfl (fun KK hKK => ?_)
  go_simp
  refine (GC2.out _ ha.2.2.2.1 hb.2.2.2.1).mono ?_
  rintro e w6 ⟨rfl, b1⟩
  have bC := b1
  replace hA := hA.on bC
  replace ha := ha.on bC
  replace hb := hb.on bC
  replace o1 := o1.on bC
  replace o2 := o2.on bC
  replace o3 := o3.on bC
  replace o4 := o4.on bC
  replace bel := bel.trans (bC.mono bel.size)
  replace qr := qr.later bC
  replace qx := qx.later bC
  replace qy := qy.later bC
  replace qo := qo.later bC
  replace hHeld := (⟨below_cell bC hHeld.1, below_cell bC hHeld.2.1, below_cell bC hHeld.2.2.1, below_cell bC hHeld.2.2.2.1, below_cell bC hHeld.2.2.2.2.1, below_cell bC hHeld.2.2.2.2.2.1, below_cell bC hHeld.2.2.2.2.2.2.1, below_cell bC hHeld.2.2.2.2.2.2.2.1, below_cell bC hHeld.2.2.2.2.2.2.2.2⟩ : _ ∧ _ ∧ _ ∧ _ ∧ _ ∧ _ ∧ _ ∧ _ ∧ _)
  clear bC
  go_wp2_with fail
  clear b1
  refine hKK.out _ _ hHeld ?_
  clear hHeld
  intro hHeld
  clear hKK KK
  try simp only [pP, pN, pS, pZ, pC]
  refine wpAnyH_ready (rs := [16]) (by kernel_rfl) (by simp) ?_
  refine cons' rfl (fun KK hKK => ?_)
  go_simp
  refine (GC3.out _ ha hb).mono ?_
  rintro e w7 ⟨rfl, b1⟩
  have bC := b1
  replace hA := hA.on bC
  replace ha := ha.on bC
  replace hb := hb.on bC
  replace o1 := o1.on bC
  replace o2 := o2.on bC
  replace o3 := o3.on bC
  replace o4 := o4.on bC
  replace bel := bel.trans (bC.mono bel.size)
  replace qr := qr.later bC
  replace qx := qx.later bC
  replace qy := qy.later bC
  replace qo := qo.later bC
  replace hHeld := (⟨below_cell bC hHeld.1, below_cell bC hHeld.2.1, below_cell bC hHeld.2.2.1, below_cell bC hHeld.2.2.2.1, below_cell bC hHeld.2.2.2.2.1, below_cell bC hHeld.2.2.2.2.2.1, below_cell bC hHeld.2.2.2.2.2.2.1, below_cell bC hHeld.2.2.2.2.2.2.2.1, below_cell bC hHeld.2.2.2.2.2.2.2.2⟩ : _ ∧ _ ∧ _ ∧ _ ∧ _ ∧ _ ∧ _ ∧ _ ∧ _)
  clear bC
  go_wp2_with fail
  clear b1
  refine hKK.out _ _ hHeld ?_
  clear hHeld
  intro hHeld
  clear hKK KK
  try simp only [pP, pN, pS, pZ, pC]
  refine wpAnyH_ready (rs := [17]) (by kernel_rfl) (by simp) ?_
  refine cons' rfl (fun KK hKK => ?_)
  go_simp
  have q3b := Blk.new w7 #[.int .i64 C1, .int .i64 C2, .int .i64 C3] 3
  have bA := below_alloc (w := w7) (.cells #[.int .i64 C1, .int .i64 C2, .int .i64 C3] 3)
  have hq3bge := bel.size
  have hq3bqr := qr.lt
  have hq3bqx := qx.lt
  have hq3bqy := qy.lt
  have hq3bqo := qo.lt
  have hq3bc0 := cell_ltB hHeld.1
  have hq3bc1 := cell_ltB hHeld.2.1
  have hq3bc2 := cell_ltB hHeld.2.2.1
  have hq3bc3 := cell_ltB hHeld.2.2.2.1
  have hq3bc4 := cell_ltB hHeld.2.2.2.2.1
  have hq3bc5 := cell_ltB hHeld.2.2.2.2.2.1
  have hq3bc6 := cell_ltB hHeld.2.2.2.2.2.2.1
  have hq3bc7 := cell_ltB hHeld.2.2.2.2.2.2.2.1
  have hq3bc8 := cell_ltB hHeld.2.2.2.2.2.2.2.2
  generalize w7.alloc (.cells #[.int .i64 C1, .int .i64 C2, .int .i64 C3] 3) = w8 at q3b bA ⊢
  replace hA := hA.on bA
  replace ha := ha.on bA
  replace hb := hb.on bA
  replace o1 := o1.on bA
  replace o2 := o2.on bA
  replace o3 := o3.on bA
  replace o4 := o4.on bA
  replace bel := bel.trans (bA.mono bel.size)
  replace qr := qr.later bA
  replace qx := qx.later bA
  replace qy := qy.later bA
  replace qo := qo.later bA
  replace hHeld := (⟨below_cell bA hHeld.1, below_cell bA hHeld.2.1, below_cell bA hHeld.2.2.1, below_cell bA hHeld.2.2.2.1, below_cell bA hHeld.2.2.2.2.1, below_cell bA hHeld.2.2.2.2.2.1, below_cell bA hHeld.2.2.2.2.2.2.1, below_cell bA hHeld.2.2.2.2.2.2.2.1, below_cell bA hHeld.2.2.2.2.2.2.2.2⟩ : _ ∧ _ ∧ _ ∧ _ ∧ _ ∧ _ ∧ _ ∧ _ ∧ _)
  clear bA
  refine hKK.out _ _ hHeld ?_
  clear hHeld
  intro hHeld
  clear hKK KK
  try simp only [pP, pN, pS, pZ, pC]
  obtain ⟨cq3b, hcc⟩ : ∃ cc, w7.heap.size = cc := ⟨_, rfl⟩
  rw [hcc] at q3b hq3bge hq3bqr hq3bqx hq3bqy hq3bqo hq3bc0 hq3bc1 hq3bc2 hq3bc3 hq3bc4 hq3bc5 hq3bc6 hq3bc7 hq3bc8
  try rw [hcc]
  clear hcc
  refine wpAnyH_ready (rs := [18]) (by kernel_rfl) (by simp) ?_
  refine cons' rfl (fun KK hKK => ?_)
  go_simp
  refine (GO.out _ _ q3b).mono ?_
  rintro e w9 ⟨rfl, b1⟩
  have bC := b1
  replace hA := hA.on bC
  replace ha := ha.on bC
  replace hb := hb.on bC
  replace o1 := o1.on bC
  replace o2 := o2.on bC
  replace o3 := o3.on bC
  replace o4 := o4.on bC
  replace bel := bel.trans (bC.mono bel.size)
  replace qr := qr.later bC
  replace qx := qx.later bC
  replace qy := qy.later bC
  replace qo := qo.later bC
  replace q3b := q3b.later bC
  replace hHeld := (⟨below_cell bC hHeld.1, below_cell bC hHeld.2.1, below_cell bC hHeld.2.2.1, below_cell bC hHeld.2.2.2.1, below_cell bC hHeld.2.2.2.2.1, below_cell bC hHeld.2.2.2.2.2.1, below_cell bC hHeld.2.2.2.2.2.2.1, below_cell bC hHeld.2.2.2.2.2.2.2.1, below_cell bC hHeld.2.2.2.2.2.2.2.2⟩ : _ ∧ _ ∧ _ ∧ _ ∧ _ ∧ _ ∧ _ ∧ _ ∧ _)
  clear bC
  go_wp2_with fail
  clear b1
  refine hKK.out _ _ hHeld ?_
  clear hHeld
  intro hHeld
  clear hKK KK
  try simp only [pP, pN, pS, pZ, pC]
  refine tk 19 (v := ?_) rfl (Or.inl ⟨by rfl, ?_⟩) ?_
  rotate_left
  · intro w9 hSw
    go_simp
    first | done | with_reducible rfl
  simp only [pP, pN, pS, pZ, pC]
  refine wpAnyH_done (by kernel_rfl) ?_ _
  skip
  clear GSa GAa GSb GAb GC1 GC2 GC3 GO o1 o2 o3 o4 q3b
  by_cases hO0 : O < 0
  · skip
    have HA := hide' (HO.out.1 hO0)
    have qx_0 := qx.cell 0
    have qx_1 := qx.cell 1
    have qx_2 := qx.cell 2
    simp only [List.getElem?_toArray, List.getElem?_cons_zero, List.getElem?_cons_succ] at qx_0 qx_1 qx_2
    have qo_0 := qo.cell 0
    have qo_1 := qo.cell 1
    have qo_2 := qo.cell 2
    simp only [List.getElem?_toArray, List.getElem?_cons_zero, List.getElem?_cons_succ] at qo_0 qo_1 qo_2
    have fz := fun o => qo.frozen o
    go_wp2
    obtain ⟨c9, q9⟩ := qo.set3 (.bool (ng a.num)) (.slice pa (ln (am a.num)) (ln (am a.num))) (.slice qa (ln a.den) (ln a.den))
    have hno := qo.no (by simp)
    replace qr := qr.ch c9 (by omega)
    replace qx := qx.ch c9 (by omega)
    replace qy := qy.ch c9 (by omega)
    replace hA := hA.ch c9 hno
    replace ha := ha.ch c9 hno
    replace hb := hb.ch c9 hno
    replace bel := bel.trans (c9.below (by omega))
    clear qo_0 qo_1 qo_2
    clear fz hno
    replace qo := q9
    have qo_0 := qo.cell 0
    have qo_1 := qo.cell 1
    have qo_2 := qo.cell 2
    simp only [List.getElem?_toArray, List.getElem?_cons_zero, List.getElem?_cons_succ] at qo_0 qo_1 qo_2
    refine bodyPost_ret (v := .agg #[.bool (ng a.num), .slice pa (ln (am a.num)) (ln (am a.num)), .slice qa (ln a.den) (ln a.den)]) (by rw [results_cell rfl]; go_simp) rfl ?_
    exact ⟨a, pa, qa, Or.inl ⟨HA.out, rfl⟩, rfl, bel, ha⟩
  · skip
    have HA := hide' (fun h => hO0 (HO.out.2 h))
    have qy_0 := qy.cell 0
    have qy_1 := qy.cell 1
    have qy_2 := qy.cell 2
    simp only [List.getElem?_toArray, List.getElem?_cons_zero, List.getElem?_cons_succ] at qy_0 qy_1 qy_2
    have qo_0 := qo.cell 0
    have qo_1 := qo.cell 1
    have qo_2 := qo.cell 2
    simp only [List.getElem?_toArray, List.getElem?_cons_zero, List.getElem?_cons_succ] at qo_0 qo_1 qo_2
    have fz := fun o => qo.frozen o
    go_wp2
    obtain ⟨c9, q9⟩ := qo.set3 (.bool (ng b.num)) (.slice pb (ln (am b.num)) (ln (am b.num))) (.slice qb (ln b.den) (ln b.den))
    have hno := qo.no (by simp)
    replace qr := qr.ch c9 (by omega)
    replace qx := qx.ch c9 (by omega)
    replace qy := qy.ch c9 (by omega)
    replace hA := hA.ch c9 hno
    replace ha := ha.ch c9 hno
    replace hb := hb.ch c9 hno
    replace bel := bel.trans (c9.below (by omega))
    clear qo_0 qo_1 qo_2
    clear fz hno
    replace qo := q9
    have qo_0 := qo.cell 0
    have qo_1 := qo.cell 1
    have qo_2 := qo.cell 2
    simp only [List.getElem?_toArray, List.getElem?_cons_zero, List.getElem?_cons_succ] at qo_0 qo_1 qo_2
    refine bodyPost_ret (v := .agg #[.bool (ng b.num), .slice pb (ln (am b.num)) (ln (am b.num)), .slice qb (ln b.den) (ln b.den)]) (by rw [results_cell rfl]; go_simp) rfl ?_
    exact ⟨b, pb, qb, Or.inr ⟨HA.out, rfl⟩, rfl, bel, hb⟩
end Go.Proofs.YtejlnodillnoaaaGreatDoor
