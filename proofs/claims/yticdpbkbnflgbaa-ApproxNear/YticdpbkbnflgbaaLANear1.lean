/-
  ApproxNear.
-/
import Derived.Test.YticdpbkbnflgbaaWFE
import Derived.Test.YticdpbkbnflgbaaWFP
import Derived.Test.YticdpbkbnflgbaaWFB
import Derived.Test.YticdpbkbnflgbaaOpenQ
import Derived.Laws.Cover2
namespace Go.Proofs.Yticdpbkbnflgbaa.approxNear
open Go.ChangeShapes Go.WideShapes Go.ChangeAt Go.RowKit Go.Proofs.Yticdpbkbnflgbaa
set_option linter.unusedVariables false

theorem cell_lt {w : World} {c o : Nat} {v : Value} (h : w.cell? ⟨c, o, none⟩ = some v) : c < w.heap.size := by
  obtain ⟨cur, e, fr, hb, _⟩ := Sort.cells_of_cell? h
  exact (Array.getElem?_eq_some_iff.1 hb).1
theorem al3 {X w1 : World} {u0 u1 u2 : Value} {t : TypeId} (b : Below (X.alloc (.cells #[u0, u1, u2] t)).heap.size (X.alloc (.cells #[u0, u1, u2] t)) w1) : w1.cell? ⟨X.heap.size, 0, none⟩ = some u0 ∧ w1.cell? ⟨X.heap.size, 1, none⟩ = some u1 ∧ w1.cell? ⟨X.heap.size, 2, none⟩ = some u2 ∧ Row w1 X.heap.size :=
  ⟨below_cell b (by go_simp), below_cell b (by go_simp), below_cell b (by go_simp), below_row b (row_new X _ t)⟩
theorem _root_.Go.Proofs.Yticdpbkbnflgbaa.New.seg3 {w1 w3 : World} {p : Option Addr} {Z n c : Nat} (h : New w1 w3 p Z n) (hc : c < w1.heap.size) (u v x : Value) : Seg (((w3.setCell ⟨c, 0, none⟩ u).setCell ⟨c, 1, none⟩ v).setCell ⟨c, 2, none⟩ x) p Z n :=
  (h.fre.mid ((((Mid.refl 0 w1.heap.size w3).set c 0 (Nat.zero_le _) hc u).set c 1 (Nat.zero_le _) hc v).set c 2 (Nat.zero_le _) hc x)).seg

theorem rd_ltM2 {Y m : Nat} (h : Y < BB ^ m) : rd Y < BB ^ (max m 1) := by
  unfold rd
  split
  · exact Nat.lt_of_lt_of_le (show 1 < BB ^ 1 by rw [Nat.pow_one, BB_eq]; omega) (pow_mono (by omega))
  · exact Nat.lt_of_lt_of_le h (pow_mono (by omega))
set_option maxHeartbeats 8000000 in
set_option maxRecDepth 100000 in
theorem walk_is (s0 : Bool) (a0 : Option Addr) (n0 c0 X0 : Nat) (b0 : Option Addr) (m0 d0 Y0 : Nat) (b : Nat) (w : World) (hc0 : n0 ≤ c0) (hm0 : n0 ≤ 35184372087808) (hS0 : Seg w a0 X0 n0) (hd0 : m0 ≤ d0) (hk0 : m0 ≤ 35184372087808) (hT0 : Seg w b0 Y0 m0) (hb : b < 18446744073709551616) (hf : b % SB < FI) :
    Calls Try.prog 4 #[Value.agg #[Value.bool s0, Value.slice a0 n0 c0, Value.slice b0 m0 d0], .float .f64 b] w fun e w' => e = .returned (.bool true) ∧ Below w.heap.size w w' := by
  obtain ⟨z, hz⟩ : ∃ z : Nat, z = 1074 := ⟨_, rfl⟩
  obtain ⟨T, hT⟩ : ∃ T : Nat, T = 2 ^ z := ⟨_, rfl⟩
  have Hnear := hide' (fun w' k1 k2 => near_is s0 a0 n0 c0 X0 b0 m0 d0 Y0 z T w' hc0 (by omega) k1 hd0 (by omega) k2 hz hT)
  have HF := hide' (fun w' => lfinite_is b true w' hb (decide_eq_true hf))
  have hcF := hf
  have HZ := hide' hz
  have HT := hide' hT
  clear hz hT hf
  go_enter Try.func4, Try.ntmps4
  go_wp2_with fail
  obtain ⟨W, hW⟩ : ∃ W, (w.alloc (.cells #[.bool s0, .slice a0 n0 c0, .slice b0 m0 d0] 27)) = W := ⟨_, rfl⟩
  have q00 : W.cell? ⟨w.heap.size, 0, none⟩ = some (.bool s0) := by subst hW; go_simp
  have q01 : W.cell? ⟨w.heap.size, 1, none⟩ = some (.slice a0 n0 c0) := by subst hW; go_simp
  have q02 : W.cell? ⟨w.heap.size, 2, none⟩ = some (.slice b0 m0 d0) := by subst hW; go_simp
  have hB : Below w.heap.size w W := by subst hW; exact ((Below.refl _ _).alloc (by (try simp only [World.size_alloc]); omega) _)
  have hz : W.heap.size = w.heap.size + 1 := by subst hW; simp only [World.size_alloc]
  rw [hW]
  clear hW
  have hBW : Below W.heap.size W W := Below.refl _ _
  refine (HF.out _).mono ?_
  rintro e w5 ⟨rfl, b5⟩
  replace hBW := hBW.trans (b5.mono hBW.size)
  replace q00 := below_cell b5 q00
  replace q01 := below_cell b5 q01
  replace q02 := below_cell b5 q02
  go_wp2_with fail
  refine (Hnear.out _ (sb hS0 hB hBW) (sb hT0 hB hBW)).mono ?_
  rintro e w6 ⟨k, rfl, hC, bb6⟩
  have b6 := bb6
  replace hBW := hBW.trans (b6.mono hBW.size)
  replace q00 := below_cell b6 q00
  replace q01 := below_cell b6 q01
  replace q02 := below_cell b6 q02
  have hn6 : nearB T s0 X0 Y0 k < 18446744073709551616 := fB_lt (if_le hC.1)
  clear HF Hnear
  by_cases hnf : nearB T s0 X0 Y0 k % SB < FI
  · have HD := near_all (c := b) (s := s0) hC hnf hcF
    clear hC
    generalize nearB T s0 X0 Y0 k = n at *
    have HN := hide' (fun w' => lfinite_is n true w' hn6 (decide_eq_true hnf))
    have hTp : (0 : Int) < T := by rw [HT.out]; have := Nat.two_pow_pos z; omega
    have hPP : (0 : Int) < (T : Int) * ((rd Y0 : Nat) : Int) := Int.mul_pos hTp (by have := rd_pos Y0; omega)
    obtain ⟨Z1, V1, g1⟩ := low_ex (fv n) (T : Int) (by omega)
    have p1 := g1.pos
    obtain ⟨l1, m1⟩ := low_fl HZ.out HT.out (by unfold fv; rw [am_sg]; exact amt_ln hnf) g1
    obtain ⟨S1, U1, s1⟩ := low_ex (fv n * ((rd Y0 : Nat) : Int) - rn s0 X0 Y0 * (T : Int)) ((T : Int) * ((rd Y0 : Nat) : Int)) (by omega)
    obtain ⟨M1, N1, m_1⟩ := low_ex (((fv n * ((rd Y0 : Nat) : Int) - rn s0 X0 Y0 * (T : Int)).natAbs : Nat) : Int) ((T : Int) * ((rd Y0 : Nat) : Int)) (by omega)
    have q1 := s1.pos
    have hs1 : Low (rn (ng Z1) (am Z1) V1 * ((rd Y0 : Nat) : Int) + -(rn s0 X0 Y0) * ((rd V1 : Nat) : Int)) (((rd V1 : Nat) : Int) * ((rd Y0 : Nat) : Int)) S1 U1 := by
      rw [rn_nf p1, rd_nf p1]
      refine s1.congr (Int.mul_ne_zero (by omega) (rd_ne Y0)) ?_
      have a1 := g1.eq
      grind
    have hm1 := abs_low hPP s1 m_1
    have ls1 := s_len HZ.out HT.out (amt_fv hnf) hS0.1 hT0.1 s1 hm0 hk0
    have lm1 := m_len hm1 ls1.1 ls1.2
    obtain ⟨la1, lb1⟩ := ls1
    obtain ⟨lc1, ld1⟩ := lm1
    have HU1 := hide' (fun w' => lnumber_is z T n Z1 V1 w' HZ.out HT.out hn6 hnf g1)
    have HS1 := hide' (fun w' p q k1 k2 k3 k4 => vqSub_is (ng Z1) p (ln (am Z1)) (ln (am Z1)) (am Z1) q (ln V1) (ln V1) V1 s0 a0 n0 c0 X0 b0 m0 d0 Y0 S1 U1 w' (Nat.le_refl _) (by omega) k1 (Nat.le_refl _) (by omega) k2 hc0 (by omega) k3 hd0 (by omega) k4 hs1)
    have HA1 := hide' (fun w' p q k1 k2 => vqAbs_is (ng S1) p (ln (am S1)) (ln (am S1)) (am S1) q (ln U1) (ln U1) U1 M1 N1 w' (Nat.le_refl _) (by omega) k1 (Nat.le_refl _) (by omega) k2 hm1)
    obtain ⟨Z2, V2, g2⟩ := low_ex (fv b) (T : Int) (by omega)
    have p2 := g2.pos
    obtain ⟨l2, m2⟩ := low_fl HZ.out HT.out (by unfold fv; rw [am_sg]; exact amt_ln hcF) g2
    obtain ⟨S2, U2, s2⟩ := low_ex (fv b * ((rd Y0 : Nat) : Int) - rn s0 X0 Y0 * (T : Int)) ((T : Int) * ((rd Y0 : Nat) : Int)) (by omega)
    obtain ⟨M2, N2, m_2⟩ := low_ex (((fv b * ((rd Y0 : Nat) : Int) - rn s0 X0 Y0 * (T : Int)).natAbs : Nat) : Int) ((T : Int) * ((rd Y0 : Nat) : Int)) (by omega)
    have q2 := s2.pos
    have hs2 : Low (rn (ng Z2) (am Z2) V2 * ((rd Y0 : Nat) : Int) + -(rn s0 X0 Y0) * ((rd V2 : Nat) : Int)) (((rd V2 : Nat) : Int) * ((rd Y0 : Nat) : Int)) S2 U2 := by
      rw [rn_nf p2, rd_nf p2]
      refine s2.congr (Int.mul_ne_zero (by omega) (rd_ne Y0)) ?_
      have a1 := g2.eq
      grind
    have hm2 := abs_low hPP s2 m_2
    have ls2 := s_len HZ.out HT.out (amt_fv hcF) hS0.1 hT0.1 s2 hm0 hk0
    have lm2 := m_len hm2 ls2.1 ls2.2
    obtain ⟨la2, lb2⟩ := ls2
    obtain ⟨lc2, ld2⟩ := lm2
    have HU2 := hide' (fun w' => lnumber_is z T b Z2 V2 w' HZ.out HT.out hb hcF g2)
    have HS2 := hide' (fun w' p q k1 k2 k3 k4 => vqSub_is (ng Z2) p (ln (am Z2)) (ln (am Z2)) (am Z2) q (ln V2) (ln V2) V2 s0 a0 n0 c0 X0 b0 m0 d0 Y0 S2 U2 w' (Nat.le_refl _) (by omega) k1 (Nat.le_refl _) (by omega) k2 hc0 (by omega) k3 hd0 (by omega) k4 hs2)
    have HA2 := hide' (fun w' p q k1 k2 => vqAbs_is (ng S2) p (ln (am S2)) (ln (am S2)) (am S2) q (ln U2) (ln U2) U2 M2 N2 w' (Nat.le_refl _) (by omega) k1 (Nat.le_refl _) (by omega) k2 hm2)
    have hcd := dist_cmp (Z := 0) (V1 := 0) m_1 m_2 hPP
    obtain ⟨C, hCC⟩ : ∃ C, sgn (((fv n * ((rd Y0 : Nat) : Int) - rn s0 X0 Y0 * (T : Int)).natAbs : Int) - ((fv b * ((rd Y0 : Nat) : Int) - rn s0 X0 Y0 * (T : Int)).natAbs : Int)) = C := ⟨_, rfl⟩
    rw [hCC] at hcd
    have HC := hide' (fun w' p q p' q' k1 k2 k3 k4 => vqCmp_is (ng M1) p (ln (am M1)) (ln (am M1)) (am M1) q (ln N1) (ln N1) N1 (ng M2) p' (ln (am M2)) (ln (am M2)) (am M2) q' (ln N2) (ln N2) N2 C w' (Nat.le_refl _) (by omega) k1 (Nat.le_refl _) (by omega) k2 (Nat.le_refl _) (by omega) k3 (Nat.le_refl _) (by omega) k4 hcd)
    have hfin : C = -1 ∨ (C = 0 ∧ (fkey n = fkey b ∨ n % 2 = 0)) := by
      rw [← hCC]
      rcases HD with h | ⟨h, h2⟩
      · exact Or.inl (sgn_neg (by omega))
      · refine Or.inr ⟨?_, h2⟩
        rw [show ∀ a b : Nat, a = b → ((a : Int) - (b : Int)) = 0 from fun a b e => by omega]
        · rfl
        · exact h
    have HFIN := hide' hfin
    have hnm : n % SB ≤ FI := by omega
    have hcm : b % SB ≤ FI := by omega
    have HLE := hide' hcm
    have HLN := hide' hnm
    clear hfin hCC hcd HD hm1 hm2 hs1 hs2 m_1 m_2 g1 g2 p1 p2 q1 q2 hPP hTp hnm hcm HZ HT
    have hnf2 := hnf
    clear hnf hcF hnf2
    go_wp2_with fail
    refine (HN.out _).mono ?_
    rintro e w7 ⟨rfl, b7⟩
    replace hBW := hBW.trans (b7.mono hBW.size)
    replace q00 := below_cell b7 q00
    replace q01 := below_cell b7 q01
    replace q02 := below_cell b7 q02
    go_upto_region 7 with fail
    have hsW1 := hBW.size
    replace hB := hB.trans (hBW.mono hB.size)
    clear hBW
    have hBW : Below w7.heap.size w7 w7 := Below.refl _ _
    go_cut [7] from 38 to 42 (fun s7 wx => ∃ wv c p q, wv = wx ∧ s7 = .pointer (some ⟨c, 0, none⟩) ∧ w7.heap.size ≤ c ∧ wx.cell? ⟨c, 0, none⟩ = some (.bool (ng M1)) ∧ wx.cell? ⟨c, 1, none⟩ = some (.slice p (ln (am M1)) (ln (am M1))) ∧ wx.cell? ⟨c, 2, none⟩ = some (.slice q (ln N1) (ln N1)) ∧ Seg wx p (am M1) (ln (am M1)) ∧ Seg wx q N1 (ln N1) ∧ Below w7.heap.size w7 wx)
    case first =>
      replace hBW := hBW.drew
      first
        | go_region_held3 (fun w' => w'.cell? ⟨w.heap.size, 0, none⟩ = some (.bool s0) ∧ w'.cell? ⟨w.heap.size, 1, none⟩ = some (.slice a0 n0 c0) ∧ w'.cell? ⟨w.heap.size, 2, none⟩ = some (.slice b0 m0 d0) ∧ Below w.heap.size w w')
            (first | exact ⟨q00, q01, q02, hB.trans (hBW.mono hB.size)⟩ | exact kp3 b61 (by assumption) | exact kp3 b62 (by assumption) | exact kp3 b63 (by assumption) | exact kp3 (below_alloc _) (by assumption) | exact kp3 (below_alloc _) ⟨q00, q01, q02, hB.trans (hBW.mono hB.size)⟩ | exact kpT3_3 (by assumption) (by omega) (by omega) (by omega) (by omega))
            (first
              | (go_at_call 21; (fail_if_success clear b61); refine Calls.mono (HU1.out _) ?_; rintro e w61 ⟨p61, q61, rfl, hp61, hq61⟩; have b61 := hp61.below; (try replace b61 := un_drew b61); (try ((fail_if_success (have hh := laR)); obtain ⟨la0, la1, la2, laR⟩ := al3 b61; have lage := hBW.size; have lac := lt_al (w := _) (o := _) (Nat.le_refl _) b61; (try simp only [size_drew] at la0 la1 la2 laR lage lac); replace b61 := below_al b61)); (try (have lac := laR.lt; replace la0 := below_cell b61 la0; replace la1 := below_cell b61 la1; replace la2 := below_cell b61 la2; replace laR := below_row b61 laR)); (try (have laf := fun o => laR.frozen o)); replace hBW := hBW.trans (b61.mono hBW.size); replace q00 := below_cell b61 q00; replace q01 := below_cell b61 q01; replace q02 := below_cell b61 q02; have kP61 := hp61.seg; have kQ61 := hq61.seg; clear hp61 hq61)
              | (go_at_call 20; (fail_if_success clear b62); refine Calls.mono (HS1.out _ p61 q61 (by first | exact kP61 | exact (kP61).later (below_alloc _)) (by first | exact kQ61 | exact (kQ61).later (below_alloc _)) (by first | exact (sb hS0 hB hBW) | exact ((sb hS0 hB hBW)).later (below_alloc _)) (by first | exact (sb hT0 hB hBW) | exact ((sb hT0 hB hBW)).later (below_alloc _))) ?_; rintro e w62 ⟨p62, q62, rfl, hp62, hq62⟩; have b62 := hp62.below; (try replace b62 := un_drew b62); (try ((fail_if_success (have hh := laR)); obtain ⟨la0, la1, la2, laR⟩ := al3 b62; have lage := hBW.size; have lac := lt_al (w := _) (o := _) (Nat.le_refl _) b62; (try simp only [size_drew] at la0 la1 la2 laR lage lac); replace b62 := below_al b62)); (try (have lac := laR.lt; replace la0 := below_cell b62 la0; replace la1 := below_cell b62 la1; replace la2 := below_cell b62 la2; replace laR := below_row b62 laR)); (try (have laf := fun o => laR.frozen o)); replace hBW := hBW.trans (b62.mono hBW.size); replace q00 := below_cell b62 q00; replace q01 := below_cell b62 q01; replace q02 := below_cell b62 q02; replace kP61 := kP61.later b62; replace kQ61 := kQ61.later b62; have kP62 := hp62.seg; have kQ62 := hq62.seg; clear hp62 hq62)
              | (go_at_call 16; (fail_if_success clear b63); refine Calls.mono (HA1.out _ p62 q62 (by first | exact kP62 | exact (kP62).later (below_alloc _)) (by first | exact kQ62 | exact (kQ62).later (below_alloc _))) ?_; rintro e w63 ⟨p63, q63, rfl, hp63, hq63⟩; have b63 := hp63.below; (try replace b63 := un_drew b63); (try ((fail_if_success (have hh := laR)); obtain ⟨la0, la1, la2, laR⟩ := al3 b63; have lage := hBW.size; have lac := lt_al (w := _) (o := _) (Nat.le_refl _) b63; (try simp only [size_drew] at la0 la1 la2 laR lage lac); replace b63 := below_al b63)); (try (have lac := laR.lt; replace la0 := below_cell b63 la0; replace la1 := below_cell b63 la1; replace la2 := below_cell b63 la2; replace laR := below_row b63 laR)); (try (have laf := fun o => laR.frozen o)); replace hBW := hBW.trans (b63.mono hBW.size); replace q00 := below_cell b63 q00; replace q01 := below_cell b63 q01; replace q02 := below_cell b63 q02; replace kP61 := kP61.later b63; replace kQ61 := kQ61.later b63; replace kP62 := kP62.later b63; replace kQ62 := kQ62.later b63))
        | fail
      all_goals go_wp2_with fail
      all_goals go_meet
      all_goals first
        | exact ⟨_, _, _, _, rfl, rfl, lage, (set3_same la0 la1 la2).1, (set3_same la0 la1 la2).2.1, (set3_same la0 la1 la2).2.2, hp63.seg3 lac _ _ _, hq63.seg3 lac _ _ _, ((hBW.setCell lage _).setCell lage _).setCell lage _⟩
        | exact ⟨_, _, _, _, rfl, rfl, hBW.size, by go_simp, by go_simp, by go_simp, hp63.seg.later (below_alloc _), hq63.seg.later (below_alloc _), hBW.trans ((below_alloc _).mono hBW.size)⟩
    case rest =>
    clear hBW
    obtain ⟨wz1, c1, pp1, qq1, hwz, rfl, hge1, lc10, lc11, lc12, kP1, kQ1, hBW⟩ := hcut
    subst hwz
    have hlt1 := cell_lt lc10
    replace q00 := below_cell hBW q00
    replace q01 := below_cell hBW q01
    replace q02 := below_cell hBW q02
    go_upto_region 8 with fail
    have hsW2 := hBW.size
    replace hB := hB.trans (hBW.mono hB.size)
    clear hBW
    have hBW : Below wz1.heap.size wz1 wz1 := Below.refl _ _
    go_cut [8] from 43 to 47 (fun s7 wx => ∃ wv c p q, wv = wx ∧ s7 = .pointer (some ⟨c, 0, none⟩) ∧ wz1.heap.size ≤ c ∧ wx.cell? ⟨c, 0, none⟩ = some (.bool (ng M2)) ∧ wx.cell? ⟨c, 1, none⟩ = some (.slice p (ln (am M2)) (ln (am M2))) ∧ wx.cell? ⟨c, 2, none⟩ = some (.slice q (ln N2) (ln N2)) ∧ Seg wx p (am M2) (ln (am M2)) ∧ Seg wx q N2 (ln N2) ∧ Below wz1.heap.size wz1 wx)
    case first =>
      replace hBW := hBW.drew
      first
        | go_region_held3 (fun w' => w'.cell? ⟨w.heap.size, 0, none⟩ = some (.bool s0) ∧ w'.cell? ⟨w.heap.size, 1, none⟩ = some (.slice a0 n0 c0) ∧ w'.cell? ⟨w.heap.size, 2, none⟩ = some (.slice b0 m0 d0) ∧ w'.cell? ⟨c1, 0, none⟩ = some (.bool (ng M1)) ∧ w'.cell? ⟨c1, 1, none⟩ = some (.slice pp1 (ln (am M1)) (ln (am M1))) ∧ w'.cell? ⟨c1, 2, none⟩ = some (.slice qq1 (ln N1) (ln N1)) ∧ Below w.heap.size w w')
            (first | exact ⟨q00, q01, q02, lc10, lc11, lc12, hB.trans (hBW.mono hB.size)⟩ | exact kp6 b81 (by assumption) | exact kp6 b82 (by assumption) | exact kp6 b83 (by assumption) | exact kp6 (below_alloc _) (by assumption) | exact kp6 (below_alloc _) ⟨q00, q01, q02, lc10, lc11, lc12, hB.trans (hBW.mono hB.size)⟩ | exact kpT6_3 (by assumption) (by omega) (by omega) (by omega) (by omega) (by omega) (by omega) (by omega))
            (first
              | (go_at_call 21; (fail_if_success clear b81); refine Calls.mono (HU2.out _) ?_; rintro e w81 ⟨p81, q81, rfl, hp81, hq81⟩; have b81 := hp81.below; (try replace b81 := un_drew b81); (try ((fail_if_success (have hh := laR)); obtain ⟨la0, la1, la2, laR⟩ := al3 b81; have lage := hBW.size; have lac := lt_al (w := _) (o := _) (Nat.le_refl _) b81; (try simp only [size_drew] at la0 la1 la2 laR lage lac); replace b81 := below_al b81)); (try (have lac := laR.lt; replace la0 := below_cell b81 la0; replace la1 := below_cell b81 la1; replace la2 := below_cell b81 la2; replace laR := below_row b81 laR)); (try (have laf := fun o => laR.frozen o)); replace hBW := hBW.trans (b81.mono hBW.size); replace q00 := below_cell b81 q00; replace q01 := below_cell b81 q01; replace q02 := below_cell b81 q02; replace lc10 := below_cell b81 lc10; replace lc11 := below_cell b81 lc11; replace lc12 := below_cell b81 lc12; have kP81 := hp81.seg; have kQ81 := hq81.seg; clear hp81 hq81)
              | (go_at_call 20; (fail_if_success clear b82); refine Calls.mono (HS2.out _ p81 q81 (by first | exact kP81 | exact (kP81).later (below_alloc _)) (by first | exact kQ81 | exact (kQ81).later (below_alloc _)) (by first | exact (sb hS0 hB hBW) | exact ((sb hS0 hB hBW)).later (below_alloc _)) (by first | exact (sb hT0 hB hBW) | exact ((sb hT0 hB hBW)).later (below_alloc _))) ?_; rintro e w82 ⟨p82, q82, rfl, hp82, hq82⟩; have b82 := hp82.below; (try replace b82 := un_drew b82); (try ((fail_if_success (have hh := laR)); obtain ⟨la0, la1, la2, laR⟩ := al3 b82; have lage := hBW.size; have lac := lt_al (w := _) (o := _) (Nat.le_refl _) b82; (try simp only [size_drew] at la0 la1 la2 laR lage lac); replace b82 := below_al b82)); (try (have lac := laR.lt; replace la0 := below_cell b82 la0; replace la1 := below_cell b82 la1; replace la2 := below_cell b82 la2; replace laR := below_row b82 laR)); (try (have laf := fun o => laR.frozen o)); replace hBW := hBW.trans (b82.mono hBW.size); replace q00 := below_cell b82 q00; replace q01 := below_cell b82 q01; replace q02 := below_cell b82 q02; replace lc10 := below_cell b82 lc10; replace lc11 := below_cell b82 lc11; replace lc12 := below_cell b82 lc12; replace kP81 := kP81.later b82; replace kQ81 := kQ81.later b82; have kP82 := hp82.seg; have kQ82 := hq82.seg; clear hp82 hq82)
              | (go_at_call 16; (fail_if_success clear b83); refine Calls.mono (HA2.out _ p82 q82 (by first | exact kP82 | exact (kP82).later (below_alloc _)) (by first | exact kQ82 | exact (kQ82).later (below_alloc _))) ?_; rintro e w83 ⟨p83, q83, rfl, hp83, hq83⟩; have b83 := hp83.below; (try replace b83 := un_drew b83); (try ((fail_if_success (have hh := laR)); obtain ⟨la0, la1, la2, laR⟩ := al3 b83; have lage := hBW.size; have lac := lt_al (w := _) (o := _) (Nat.le_refl _) b83; (try simp only [size_drew] at la0 la1 la2 laR lage lac); replace b83 := below_al b83)); (try (have lac := laR.lt; replace la0 := below_cell b83 la0; replace la1 := below_cell b83 la1; replace la2 := below_cell b83 la2; replace laR := below_row b83 laR)); (try (have laf := fun o => laR.frozen o)); replace hBW := hBW.trans (b83.mono hBW.size); replace q00 := below_cell b83 q00; replace q01 := below_cell b83 q01; replace q02 := below_cell b83 q02; replace lc10 := below_cell b83 lc10; replace lc11 := below_cell b83 lc11; replace lc12 := below_cell b83 lc12; replace kP81 := kP81.later b83; replace kQ81 := kQ81.later b83; replace kP82 := kP82.later b83; replace kQ82 := kQ82.later b83))
        | fail
      all_goals go_wp2_with fail
      all_goals go_meet
      all_goals first
        | exact ⟨_, _, _, _, rfl, rfl, lage, (set3_same la0 la1 la2).1, (set3_same la0 la1 la2).2.1, (set3_same la0 la1 la2).2.2, hp83.seg3 lac _ _ _, hq83.seg3 lac _ _ _, ((hBW.setCell lage _).setCell lage _).setCell lage _⟩
        | exact ⟨_, _, _, _, rfl, rfl, hBW.size, by go_simp, by go_simp, by go_simp, hp83.seg.later (below_alloc _), hq83.seg.later (below_alloc _), hBW.trans ((below_alloc _).mono hBW.size)⟩
    case rest =>
    clear hBW
    obtain ⟨wz2, c2, pp2, qq2, hwz, rfl, hge2, lc20, lc21, lc22, kP2, kQ2, hBW⟩ := hcut
    subst hwz
    have hlt2 := cell_lt lc20
    replace q00 := below_cell hBW q00
    replace q01 := below_cell hBW q01
    replace q02 := below_cell hBW q02
    replace lc10 := below_cell hBW lc10
    replace lc11 := below_cell hBW lc11
    replace lc12 := below_cell hBW lc12
    replace kP1 := kP1.later hBW
    replace kQ1 := kQ1.later hBW
    go_wp2_with fail
    refine (HC.out _ _ _ _ _ kP1 kQ1 kP2 kQ2).mono ?_
    rintro e w91 ⟨rfl, b91⟩
    replace hBW := hBW.trans (b91.mono hBW.size)
    replace q00 := below_cell b91 q00
    replace q01 := below_cell b91 q01
    replace q02 := below_cell b91 q02
    replace lc10 := below_cell b91 lc10
    replace lc11 := below_cell b91 lc11
    replace lc12 := below_cell b91 lc12
    replace lc20 := below_cell b91 lc20
    replace lc21 := below_cell b91 lc21
    replace lc22 := below_cell b91 lc22
    replace kP1 := kP1.later b91
    replace kQ1 := kQ1.later b91
    replace kP2 := kP2.later b91
    replace kQ2 := kQ2.later b91
    rcases HFIN.out with rfl | ⟨rfl, h⟩
    · skip
      clear HFIN HLE HLN
      go_wp2
      go_ret
      exact ⟨rfl, hB.trans (hBW.mono hB.size)⟩
    · by_cases hk : fkey n = fkey b
      · have hE := ord_same HLN.out HLE.out hk
        clear HFIN HLE HLN hk h
        go_wp2
        go_ret
        exact ⟨rfl, hB.trans (hBW.mono hB.size)⟩
      · have hE := ord_diff HLN.out HLE.out hk
        have hev : ((n : Int) % 2 == 0) = true := by rw [beq_iff_eq]; have := h.resolve_left hk; omega
        have hbr := bits_run
        clear HFIN HLE HLN hk h
        go_wp2
        go_ret
        exact ⟨rfl, hB.trans (hBW.mono hB.size)⟩
  · obtain ⟨eN, eK, eR, eA⟩ := over_all hC hnf
    have HN := hide' (fun w' => lfinite_is _ false w' hn6 (decide_eq_false hnf))
    rw [eN] at HN hn6 ⊢
    clear eN hnf
    obtain ⟨ZA, VA, gA⟩ := low_ex ((am (rn s0 X0 Y0) : Nat) : Int) ((rd Y0 : Nat) : Int) (rd_ne Y0)
    have lA := gA.le
    rw [am_nat, am_nat] at lA
    have lA1 : ln (am ZA) ≤ n0 := ln_le_of_lt (Nat.lt_of_le_of_lt (Nat.le_trans lA.1 (rn_am s0 X0 Y0)) hS0.1)
    have lA2 : ln VA ≤ max m0 1 := ln_le_of_lt (Nat.lt_of_le_of_lt lA.2 (rd_ltM2 hT0.1))
    clear lA
    have HA := hide' (fun w' k1 k2 => vqAbs_is s0 a0 n0 c0 X0 b0 m0 d0 Y0 ZA VA w' hc0 (by omega) k1 hd0 (by omega) k2 gA)
    have HUp := hide' (fun w' p q k1 k2 => vup_is (ng ZA) p (ln (am ZA)) (ln (am ZA)) (am ZA) q (ln VA) (ln VA) VA z T w' (Nat.le_refl _) (by omega) k1 (Nat.le_refl _) (by omega) k2 HZ.out HT.out)
    have HOV := hide' (fun k2 => up_over (rN_am s0 X0 Y0) hC eK eR gA (k2 := k2))
    have HFI := hide' (fun w' => lfinite_is FI false w' (by decide) (by decide))
    obtain ⟨C, hCC⟩ : ∃ C, sgn (rn s0 X0 Y0) = C := ⟨_, rfl⟩
    have HSg := hide' (fun w' k1 k2 => vqSign_is s0 a0 n0 c0 X0 b0 m0 d0 Y0 C w' hc0 (by omega) k1 hd0 (by omega) k2 hCC)
    have hbr := bits_run
    have hmod := fB_mod (s := decide (rn s0 X0 Y0 < 0)) (Nat.le_refl FI)
    have hgt : (FloatKind.f64.format.order (fB (decide (rn s0 X0 Y0 < 0)) FI) 0 == some .gt) = decide (0 < C) := by
      rw [show FloatKind.f64.format = Ieee.double from rfl, f_above hn6 (by rw [hmod]; exact Nat.le_refl _), decide_eq_decide, ← hCC]
      have e1 := FIv
      have e2 := SBv
      by_cases hA : rn s0 X0 Y0 < 0
      · rw [decide_eq_true hA, sgn_neg hA]; unfold fB; simp; try omega
      · rw [decide_eq_false hA, sgn_pos (by omega)]; unfold fB; simp; try omega
    have HNN' := fun w' => vnan_any (fB (decide (rn s0 X0 Y0 < 0)) FI) w' hn6
    rw [hmod, decide_eq_false (Nat.lt_irrefl FI)] at HNN'
    have HNN := hide' HNN'
    clear HNN' hmod gA hCC hC eK eR eA HZ HT
    generalize fB (decide (rn s0 X0 Y0 < 0)) FI = n at *
    go_wp2_with fail
    refine (HN.out _).mono ?_
    rintro e w7 ⟨rfl, b7⟩
    replace hBW := hBW.trans (b7.mono hBW.size)
    replace q00 := below_cell b7 q00
    replace q01 := below_cell b7 q01
    replace q02 := below_cell b7 q02
    go_wp2_with fail
    refine (HA.out _ (sb hS0 hB hBW) (sb hT0 hB hBW)).mono ?_
    rintro e w8 ⟨p8, q8, rfl, hp8, hq8⟩
    have b8 := hp8.below
    replace hp8 := hp8.back hBW
    replace hq8 := hq8.back hBW
    replace hBW := hBW.trans (b8.mono hBW.size)
    replace q00 := below_cell b8 q00
    replace q01 := below_cell b8 q01
    replace q02 := below_cell b8 q02
    go_wp2_with fail
    refine (HUp.out _ _ _ hp8.seg hq8.seg).mono ?_
    rintro e w9 ⟨k2, rfl, hC2, bb9⟩
    have b9 := bb9
    replace hBW := hBW.trans (b9.mono hBW.size)
    replace q00 := below_cell b9 q00
    replace q01 := below_cell b9 q01
    replace q02 := below_cell b9 q02
    replace hp8 := hp8.later b9
    replace hq8 := hq8.later b9
    rw [HOV.out _ hC2]
    clear HOV hC2
    go_wp2_with fail
    refine (HFI.out _).mono ?_
    rintro e w10 ⟨rfl, b10⟩
    replace hBW := hBW.trans (b10.mono hBW.size)
    replace q00 := below_cell b10 q00
    replace q01 := below_cell b10 q01
    replace q02 := below_cell b10 q02
    replace hp8 := hp8.later b10
    replace hq8 := hq8.later b10
    go_wp2_with fail
    refine (HNN.out _).mono ?_
    rintro e w19 ⟨rfl, rfl⟩
    go_wp2_with fail
    refine (HSg.out _ (sb hS0 hB hBW) (sb hT0 hB hBW)).mono ?_
    rintro e w11 ⟨rfl, b11⟩
    replace hBW := hBW.trans (b11.mono hBW.size)
    replace q00 := below_cell b11 q00
    replace q01 := below_cell b11 q01
    replace q02 := below_cell b11 q02
    replace hp8 := hp8.later b11
    replace hq8 := hq8.later b11
    by_cases hc0C : 0 < C
    · rw [decide_eq_true hc0C] at hgt
      go_wp2
      go_ret
      exact ⟨rfl, hB.trans (hBW.mono hB.size)⟩
    · rw [decide_eq_false hc0C] at hgt
      go_wp2
      go_ret
      exact ⟨rfl, hB.trans (hBW.mono hB.size)⟩
set_option maxHeartbeats 8000000 in
set_option maxRecDepth 100000 in
theorem walk_no (s0 : Bool) (a0 : Option Addr) (n0 c0 X0 : Nat) (b0 : Option Addr) (m0 d0 Y0 : Nat) (b : Nat) (w : World) (hc0 : n0 ≤ c0) (hm0 : n0 ≤ 35184372087808) (hS0 : Seg w a0 X0 n0) (hd0 : m0 ≤ d0) (hk0 : m0 ≤ 35184372087808) (hT0 : Seg w b0 Y0 m0) (hb : b < 18446744073709551616) (hf : ¬ b % SB < FI) :
    Calls Try.prog 4 #[Value.agg #[Value.bool s0, Value.slice a0 n0 c0, Value.slice b0 m0 d0], .float .f64 b] w fun e w' => e = .returned (.bool true) ∧ Below w.heap.size w w' := by
  obtain ⟨z, hz⟩ : ∃ z : Nat, z = 1074 := ⟨_, rfl⟩
  obtain ⟨T, hT⟩ : ∃ T : Nat, T = 2 ^ z := ⟨_, rfl⟩
  have Hnear := hide' (fun w' k1 k2 => near_is s0 a0 n0 c0 X0 b0 m0 d0 Y0 z T w' hc0 (by omega) k1 hd0 (by omega) k2 hz hT)
  have HF := hide' (fun w' => lfinite_is b false w' hb (decide_eq_false hf))
  have hcF : 0 % SB < FI := by decide
  have hb0 : (0 : Nat) < 18446744073709551616 := by omega
  have HZ := hide' hz
  have HT := hide' hT
  clear hz hT hf
  go_enter Try.func4, Try.ntmps4
  go_wp2_with fail
  obtain ⟨W, hW⟩ : ∃ W, (w.alloc (.cells #[.bool s0, .slice a0 n0 c0, .slice b0 m0 d0] 27)) = W := ⟨_, rfl⟩
  have q00 : W.cell? ⟨w.heap.size, 0, none⟩ = some (.bool s0) := by subst hW; go_simp
  have q01 : W.cell? ⟨w.heap.size, 1, none⟩ = some (.slice a0 n0 c0) := by subst hW; go_simp
  have q02 : W.cell? ⟨w.heap.size, 2, none⟩ = some (.slice b0 m0 d0) := by subst hW; go_simp
  have hB : Below w.heap.size w W := by subst hW; exact ((Below.refl _ _).alloc (by (try simp only [World.size_alloc]); omega) _)
  have hz : W.heap.size = w.heap.size + 1 := by subst hW; simp only [World.size_alloc]
  rw [hW]
  clear hW
  have hBW : Below W.heap.size W W := Below.refl _ _
  refine (HF.out _).mono ?_
  rintro e w5 ⟨rfl, b5⟩
  replace hBW := hBW.trans (b5.mono hBW.size)
  replace q00 := below_cell b5 q00
  replace q01 := below_cell b5 q01
  replace q02 := below_cell b5 q02
  go_wp2_with fail
  refine (Hnear.out _ (sb hS0 hB hBW) (sb hT0 hB hBW)).mono ?_
  rintro e w6 ⟨k, rfl, hC, bb6⟩
  have b6 := bb6
  replace hBW := hBW.trans (b6.mono hBW.size)
  replace q00 := below_cell b6 q00
  replace q01 := below_cell b6 q01
  replace q02 := below_cell b6 q02
  have hn6 : nearB T s0 X0 Y0 k < 18446744073709551616 := fB_lt (if_le hC.1)
  clear HF Hnear
  by_cases hnf : nearB T s0 X0 Y0 k % SB < FI
  · have HD := near_all (c := 0) (s := s0) hC hnf hcF
    clear hC
    generalize nearB T s0 X0 Y0 k = n at *
    have HN := hide' (fun w' => lfinite_is n true w' hn6 (decide_eq_true hnf))
    have hTp : (0 : Int) < T := by rw [HT.out]; have := Nat.two_pow_pos z; omega
    have hPP : (0 : Int) < (T : Int) * ((rd Y0 : Nat) : Int) := Int.mul_pos hTp (by have := rd_pos Y0; omega)
    obtain ⟨Z1, V1, g1⟩ := low_ex (fv n) (T : Int) (by omega)
    have p1 := g1.pos
    obtain ⟨l1, m1⟩ := low_fl HZ.out HT.out (by unfold fv; rw [am_sg]; exact amt_ln hnf) g1
    obtain ⟨S1, U1, s1⟩ := low_ex (fv n * ((rd Y0 : Nat) : Int) - rn s0 X0 Y0 * (T : Int)) ((T : Int) * ((rd Y0 : Nat) : Int)) (by omega)
    obtain ⟨M1, N1, m_1⟩ := low_ex (((fv n * ((rd Y0 : Nat) : Int) - rn s0 X0 Y0 * (T : Int)).natAbs : Nat) : Int) ((T : Int) * ((rd Y0 : Nat) : Int)) (by omega)
    have q1 := s1.pos
    have hs1 : Low (rn (ng Z1) (am Z1) V1 * ((rd Y0 : Nat) : Int) + -(rn s0 X0 Y0) * ((rd V1 : Nat) : Int)) (((rd V1 : Nat) : Int) * ((rd Y0 : Nat) : Int)) S1 U1 := by
      rw [rn_nf p1, rd_nf p1]
      refine s1.congr (Int.mul_ne_zero (by omega) (rd_ne Y0)) ?_
      have a1 := g1.eq
      grind
    have hm1 := abs_low hPP s1 m_1
    have ls1 := s_len HZ.out HT.out (amt_fv hnf) hS0.1 hT0.1 s1 hm0 hk0
    have lm1 := m_len hm1 ls1.1 ls1.2
    obtain ⟨la1, lb1⟩ := ls1
    obtain ⟨lc1, ld1⟩ := lm1
    have HU1 := hide' (fun w' => lnumber_is z T n Z1 V1 w' HZ.out HT.out hn6 hnf g1)
    have HS1 := hide' (fun w' p q k1 k2 k3 k4 => vqSub_is (ng Z1) p (ln (am Z1)) (ln (am Z1)) (am Z1) q (ln V1) (ln V1) V1 s0 a0 n0 c0 X0 b0 m0 d0 Y0 S1 U1 w' (Nat.le_refl _) (by omega) k1 (Nat.le_refl _) (by omega) k2 hc0 (by omega) k3 hd0 (by omega) k4 hs1)
    have HA1 := hide' (fun w' p q k1 k2 => vqAbs_is (ng S1) p (ln (am S1)) (ln (am S1)) (am S1) q (ln U1) (ln U1) U1 M1 N1 w' (Nat.le_refl _) (by omega) k1 (Nat.le_refl _) (by omega) k2 hm1)
    obtain ⟨Z2, V2, g2⟩ := low_ex (fv 0) (T : Int) (by omega)
    have p2 := g2.pos
    obtain ⟨l2, m2⟩ := low_fl HZ.out HT.out (by unfold fv; rw [am_sg]; exact amt_ln hcF) g2
    obtain ⟨S2, U2, s2⟩ := low_ex (fv 0 * ((rd Y0 : Nat) : Int) - rn s0 X0 Y0 * (T : Int)) ((T : Int) * ((rd Y0 : Nat) : Int)) (by omega)
    obtain ⟨M2, N2, m_2⟩ := low_ex (((fv 0 * ((rd Y0 : Nat) : Int) - rn s0 X0 Y0 * (T : Int)).natAbs : Nat) : Int) ((T : Int) * ((rd Y0 : Nat) : Int)) (by omega)
    have q2 := s2.pos
    have hs2 : Low (rn (ng Z2) (am Z2) V2 * ((rd Y0 : Nat) : Int) + -(rn s0 X0 Y0) * ((rd V2 : Nat) : Int)) (((rd V2 : Nat) : Int) * ((rd Y0 : Nat) : Int)) S2 U2 := by
      rw [rn_nf p2, rd_nf p2]
      refine s2.congr (Int.mul_ne_zero (by omega) (rd_ne Y0)) ?_
      have a1 := g2.eq
      grind
    have hm2 := abs_low hPP s2 m_2
    have ls2 := s_len HZ.out HT.out (amt_fv hcF) hS0.1 hT0.1 s2 hm0 hk0
    have lm2 := m_len hm2 ls2.1 ls2.2
    obtain ⟨la2, lb2⟩ := ls2
    obtain ⟨lc2, ld2⟩ := lm2
    have HU2 := hide' (fun w' => lnumber_is z T 0 Z2 V2 w' HZ.out HT.out hb0 hcF g2)
    have HS2 := hide' (fun w' p q k1 k2 k3 k4 => vqSub_is (ng Z2) p (ln (am Z2)) (ln (am Z2)) (am Z2) q (ln V2) (ln V2) V2 s0 a0 n0 c0 X0 b0 m0 d0 Y0 S2 U2 w' (Nat.le_refl _) (by omega) k1 (Nat.le_refl _) (by omega) k2 hc0 (by omega) k3 hd0 (by omega) k4 hs2)
    have HA2 := hide' (fun w' p q k1 k2 => vqAbs_is (ng S2) p (ln (am S2)) (ln (am S2)) (am S2) q (ln U2) (ln U2) U2 M2 N2 w' (Nat.le_refl _) (by omega) k1 (Nat.le_refl _) (by omega) k2 hm2)
    have hcd := dist_cmp (Z := 0) (V1 := 0) m_1 m_2 hPP
    obtain ⟨C, hCC⟩ : ∃ C, sgn (((fv n * ((rd Y0 : Nat) : Int) - rn s0 X0 Y0 * (T : Int)).natAbs : Int) - ((fv 0 * ((rd Y0 : Nat) : Int) - rn s0 X0 Y0 * (T : Int)).natAbs : Int)) = C := ⟨_, rfl⟩
    rw [hCC] at hcd
    have HC := hide' (fun w' p q p' q' k1 k2 k3 k4 => vqCmp_is (ng M1) p (ln (am M1)) (ln (am M1)) (am M1) q (ln N1) (ln N1) N1 (ng M2) p' (ln (am M2)) (ln (am M2)) (am M2) q' (ln N2) (ln N2) N2 C w' (Nat.le_refl _) (by omega) k1 (Nat.le_refl _) (by omega) k2 (Nat.le_refl _) (by omega) k3 (Nat.le_refl _) (by omega) k4 hcd)
    have hfin : C = -1 ∨ (C = 0 ∧ (fkey n = fkey 0 ∨ n % 2 = 0)) := by
      rw [← hCC]
      rcases HD with h | ⟨h, h2⟩
      · exact Or.inl (sgn_neg (by omega))
      · refine Or.inr ⟨?_, h2⟩
        rw [show ∀ a b : Nat, a = b → ((a : Int) - (b : Int)) = 0 from fun a b e => by omega]
        · rfl
        · exact h
    have HFIN := hide' hfin
    have hnm : n % SB ≤ FI := by omega
    have hcm : 0 % SB ≤ FI := by omega
    have HLE := hide' hcm
    have HLN := hide' hnm
    clear hfin hCC hcd HD hm1 hm2 hs1 hs2 m_1 m_2 g1 g2 p1 p2 q1 q2 hPP hTp hnm hcm HZ HT
    have hnf2 := hnf
    clear hnf hcF hnf2
    go_wp2_with fail
    refine (HN.out _).mono ?_
    rintro e w7 ⟨rfl, b7⟩
    replace hBW := hBW.trans (b7.mono hBW.size)
    replace q00 := below_cell b7 q00
    replace q01 := below_cell b7 q01
    replace q02 := below_cell b7 q02
    go_upto_region 7 with fail
    have hsW1 := hBW.size
    replace hB := hB.trans (hBW.mono hB.size)
    clear hBW
    have hBW : Below w7.heap.size w7 w7 := Below.refl _ _
    go_cut [7] from 38 to 42 (fun s7 wx => ∃ wv c p q, wv = wx ∧ s7 = .pointer (some ⟨c, 0, none⟩) ∧ w7.heap.size ≤ c ∧ wx.cell? ⟨c, 0, none⟩ = some (.bool (ng M1)) ∧ wx.cell? ⟨c, 1, none⟩ = some (.slice p (ln (am M1)) (ln (am M1))) ∧ wx.cell? ⟨c, 2, none⟩ = some (.slice q (ln N1) (ln N1)) ∧ Seg wx p (am M1) (ln (am M1)) ∧ Seg wx q N1 (ln N1) ∧ Below w7.heap.size w7 wx)
    case first =>
      replace hBW := hBW.drew
      first
        | go_region_held3 (fun w' => w'.cell? ⟨w.heap.size, 0, none⟩ = some (.bool s0) ∧ w'.cell? ⟨w.heap.size, 1, none⟩ = some (.slice a0 n0 c0) ∧ w'.cell? ⟨w.heap.size, 2, none⟩ = some (.slice b0 m0 d0) ∧ Below w.heap.size w w')
            (first | exact ⟨q00, q01, q02, hB.trans (hBW.mono hB.size)⟩ | exact kp3 b61 (by assumption) | exact kp3 b62 (by assumption) | exact kp3 b63 (by assumption) | exact kp3 (below_alloc _) (by assumption) | exact kp3 (below_alloc _) ⟨q00, q01, q02, hB.trans (hBW.mono hB.size)⟩ | exact kpT3_3 (by assumption) (by omega) (by omega) (by omega) (by omega))
            (first
              | (go_at_call 21; (fail_if_success clear b61); refine Calls.mono (HU1.out _) ?_; rintro e w61 ⟨p61, q61, rfl, hp61, hq61⟩; have b61 := hp61.below; (try replace b61 := un_drew b61); (try ((fail_if_success (have hh := laR)); obtain ⟨la0, la1, la2, laR⟩ := al3 b61; have lage := hBW.size; have lac := lt_al (w := _) (o := _) (Nat.le_refl _) b61; (try simp only [size_drew] at la0 la1 la2 laR lage lac); replace b61 := below_al b61)); (try (have lac := laR.lt; replace la0 := below_cell b61 la0; replace la1 := below_cell b61 la1; replace la2 := below_cell b61 la2; replace laR := below_row b61 laR)); (try (have laf := fun o => laR.frozen o)); replace hBW := hBW.trans (b61.mono hBW.size); replace q00 := below_cell b61 q00; replace q01 := below_cell b61 q01; replace q02 := below_cell b61 q02; have kP61 := hp61.seg; have kQ61 := hq61.seg; clear hp61 hq61)
              | (go_at_call 20; (fail_if_success clear b62); refine Calls.mono (HS1.out _ p61 q61 (by first | exact kP61 | exact (kP61).later (below_alloc _)) (by first | exact kQ61 | exact (kQ61).later (below_alloc _)) (by first | exact (sb hS0 hB hBW) | exact ((sb hS0 hB hBW)).later (below_alloc _)) (by first | exact (sb hT0 hB hBW) | exact ((sb hT0 hB hBW)).later (below_alloc _))) ?_; rintro e w62 ⟨p62, q62, rfl, hp62, hq62⟩; have b62 := hp62.below; (try replace b62 := un_drew b62); (try ((fail_if_success (have hh := laR)); obtain ⟨la0, la1, la2, laR⟩ := al3 b62; have lage := hBW.size; have lac := lt_al (w := _) (o := _) (Nat.le_refl _) b62; (try simp only [size_drew] at la0 la1 la2 laR lage lac); replace b62 := below_al b62)); (try (have lac := laR.lt; replace la0 := below_cell b62 la0; replace la1 := below_cell b62 la1; replace la2 := below_cell b62 la2; replace laR := below_row b62 laR)); (try (have laf := fun o => laR.frozen o)); replace hBW := hBW.trans (b62.mono hBW.size); replace q00 := below_cell b62 q00; replace q01 := below_cell b62 q01; replace q02 := below_cell b62 q02; replace kP61 := kP61.later b62; replace kQ61 := kQ61.later b62; have kP62 := hp62.seg; have kQ62 := hq62.seg; clear hp62 hq62)
              | (go_at_call 16; (fail_if_success clear b63); refine Calls.mono (HA1.out _ p62 q62 (by first | exact kP62 | exact (kP62).later (below_alloc _)) (by first | exact kQ62 | exact (kQ62).later (below_alloc _))) ?_; rintro e w63 ⟨p63, q63, rfl, hp63, hq63⟩; have b63 := hp63.below; (try replace b63 := un_drew b63); (try ((fail_if_success (have hh := laR)); obtain ⟨la0, la1, la2, laR⟩ := al3 b63; have lage := hBW.size; have lac := lt_al (w := _) (o := _) (Nat.le_refl _) b63; (try simp only [size_drew] at la0 la1 la2 laR lage lac); replace b63 := below_al b63)); (try (have lac := laR.lt; replace la0 := below_cell b63 la0; replace la1 := below_cell b63 la1; replace la2 := below_cell b63 la2; replace laR := below_row b63 laR)); (try (have laf := fun o => laR.frozen o)); replace hBW := hBW.trans (b63.mono hBW.size); replace q00 := below_cell b63 q00; replace q01 := below_cell b63 q01; replace q02 := below_cell b63 q02; replace kP61 := kP61.later b63; replace kQ61 := kQ61.later b63; replace kP62 := kP62.later b63; replace kQ62 := kQ62.later b63))
        | fail
      all_goals go_wp2_with fail
      all_goals go_meet
      all_goals first
        | exact ⟨_, _, _, _, rfl, rfl, lage, (set3_same la0 la1 la2).1, (set3_same la0 la1 la2).2.1, (set3_same la0 la1 la2).2.2, hp63.seg3 lac _ _ _, hq63.seg3 lac _ _ _, ((hBW.setCell lage _).setCell lage _).setCell lage _⟩
        | exact ⟨_, _, _, _, rfl, rfl, hBW.size, by go_simp, by go_simp, by go_simp, hp63.seg.later (below_alloc _), hq63.seg.later (below_alloc _), hBW.trans ((below_alloc _).mono hBW.size)⟩
    case rest =>
    clear hBW
    obtain ⟨wz1, c1, pp1, qq1, hwz, rfl, hge1, lc10, lc11, lc12, kP1, kQ1, hBW⟩ := hcut
    subst hwz
    have hlt1 := cell_lt lc10
    replace q00 := below_cell hBW q00
    replace q01 := below_cell hBW q01
    replace q02 := below_cell hBW q02
    go_upto_region 8 with fail
    have hsW2 := hBW.size
    replace hB := hB.trans (hBW.mono hB.size)
    clear hBW
    have hBW : Below wz1.heap.size wz1 wz1 := Below.refl _ _
    go_cut [8] from 43 to 47 (fun s7 wx => ∃ wv c p q, wv = wx ∧ s7 = .pointer (some ⟨c, 0, none⟩) ∧ wz1.heap.size ≤ c ∧ wx.cell? ⟨c, 0, none⟩ = some (.bool (ng M2)) ∧ wx.cell? ⟨c, 1, none⟩ = some (.slice p (ln (am M2)) (ln (am M2))) ∧ wx.cell? ⟨c, 2, none⟩ = some (.slice q (ln N2) (ln N2)) ∧ Seg wx p (am M2) (ln (am M2)) ∧ Seg wx q N2 (ln N2) ∧ Below wz1.heap.size wz1 wx)
    case first =>
      replace hBW := hBW.drew
      first
        | go_region_held3 (fun w' => w'.cell? ⟨w.heap.size, 0, none⟩ = some (.bool s0) ∧ w'.cell? ⟨w.heap.size, 1, none⟩ = some (.slice a0 n0 c0) ∧ w'.cell? ⟨w.heap.size, 2, none⟩ = some (.slice b0 m0 d0) ∧ w'.cell? ⟨c1, 0, none⟩ = some (.bool (ng M1)) ∧ w'.cell? ⟨c1, 1, none⟩ = some (.slice pp1 (ln (am M1)) (ln (am M1))) ∧ w'.cell? ⟨c1, 2, none⟩ = some (.slice qq1 (ln N1) (ln N1)) ∧ Below w.heap.size w w')
            (first | exact ⟨q00, q01, q02, lc10, lc11, lc12, hB.trans (hBW.mono hB.size)⟩ | exact kp6 b81 (by assumption) | exact kp6 b82 (by assumption) | exact kp6 b83 (by assumption) | exact kp6 (below_alloc _) (by assumption) | exact kp6 (below_alloc _) ⟨q00, q01, q02, lc10, lc11, lc12, hB.trans (hBW.mono hB.size)⟩ | exact kpT6_3 (by assumption) (by omega) (by omega) (by omega) (by omega) (by omega) (by omega) (by omega))
            (first
              | (go_at_call 21; (fail_if_success clear b81); refine Calls.mono (HU2.out _) ?_; rintro e w81 ⟨p81, q81, rfl, hp81, hq81⟩; have b81 := hp81.below; (try replace b81 := un_drew b81); (try ((fail_if_success (have hh := laR)); obtain ⟨la0, la1, la2, laR⟩ := al3 b81; have lage := hBW.size; have lac := lt_al (w := _) (o := _) (Nat.le_refl _) b81; (try simp only [size_drew] at la0 la1 la2 laR lage lac); replace b81 := below_al b81)); (try (have lac := laR.lt; replace la0 := below_cell b81 la0; replace la1 := below_cell b81 la1; replace la2 := below_cell b81 la2; replace laR := below_row b81 laR)); (try (have laf := fun o => laR.frozen o)); replace hBW := hBW.trans (b81.mono hBW.size); replace q00 := below_cell b81 q00; replace q01 := below_cell b81 q01; replace q02 := below_cell b81 q02; replace lc10 := below_cell b81 lc10; replace lc11 := below_cell b81 lc11; replace lc12 := below_cell b81 lc12; have kP81 := hp81.seg; have kQ81 := hq81.seg; clear hp81 hq81)
              | (go_at_call 20; (fail_if_success clear b82); refine Calls.mono (HS2.out _ p81 q81 (by first | exact kP81 | exact (kP81).later (below_alloc _)) (by first | exact kQ81 | exact (kQ81).later (below_alloc _)) (by first | exact (sb hS0 hB hBW) | exact ((sb hS0 hB hBW)).later (below_alloc _)) (by first | exact (sb hT0 hB hBW) | exact ((sb hT0 hB hBW)).later (below_alloc _))) ?_; rintro e w82 ⟨p82, q82, rfl, hp82, hq82⟩; have b82 := hp82.below; (try replace b82 := un_drew b82); (try ((fail_if_success (have hh := laR)); obtain ⟨la0, la1, la2, laR⟩ := al3 b82; have lage := hBW.size; have lac := lt_al (w := _) (o := _) (Nat.le_refl _) b82; (try simp only [size_drew] at la0 la1 la2 laR lage lac); replace b82 := below_al b82)); (try (have lac := laR.lt; replace la0 := below_cell b82 la0; replace la1 := below_cell b82 la1; replace la2 := below_cell b82 la2; replace laR := below_row b82 laR)); (try (have laf := fun o => laR.frozen o)); replace hBW := hBW.trans (b82.mono hBW.size); replace q00 := below_cell b82 q00; replace q01 := below_cell b82 q01; replace q02 := below_cell b82 q02; replace lc10 := below_cell b82 lc10; replace lc11 := below_cell b82 lc11; replace lc12 := below_cell b82 lc12; replace kP81 := kP81.later b82; replace kQ81 := kQ81.later b82; have kP82 := hp82.seg; have kQ82 := hq82.seg; clear hp82 hq82)
              | (go_at_call 16; (fail_if_success clear b83); refine Calls.mono (HA2.out _ p82 q82 (by first | exact kP82 | exact (kP82).later (below_alloc _)) (by first | exact kQ82 | exact (kQ82).later (below_alloc _))) ?_; rintro e w83 ⟨p83, q83, rfl, hp83, hq83⟩; have b83 := hp83.below; (try replace b83 := un_drew b83); (try ((fail_if_success (have hh := laR)); obtain ⟨la0, la1, la2, laR⟩ := al3 b83; have lage := hBW.size; have lac := lt_al (w := _) (o := _) (Nat.le_refl _) b83; (try simp only [size_drew] at la0 la1 la2 laR lage lac); replace b83 := below_al b83)); (try (have lac := laR.lt; replace la0 := below_cell b83 la0; replace la1 := below_cell b83 la1; replace la2 := below_cell b83 la2; replace laR := below_row b83 laR)); (try (have laf := fun o => laR.frozen o)); replace hBW := hBW.trans (b83.mono hBW.size); replace q00 := below_cell b83 q00; replace q01 := below_cell b83 q01; replace q02 := below_cell b83 q02; replace lc10 := below_cell b83 lc10; replace lc11 := below_cell b83 lc11; replace lc12 := below_cell b83 lc12; replace kP81 := kP81.later b83; replace kQ81 := kQ81.later b83; replace kP82 := kP82.later b83; replace kQ82 := kQ82.later b83))
        | fail
      all_goals go_wp2_with fail
      all_goals go_meet
      all_goals first
        | exact ⟨_, _, _, _, rfl, rfl, lage, (set3_same la0 la1 la2).1, (set3_same la0 la1 la2).2.1, (set3_same la0 la1 la2).2.2, hp83.seg3 lac _ _ _, hq83.seg3 lac _ _ _, ((hBW.setCell lage _).setCell lage _).setCell lage _⟩
        | exact ⟨_, _, _, _, rfl, rfl, hBW.size, by go_simp, by go_simp, by go_simp, hp83.seg.later (below_alloc _), hq83.seg.later (below_alloc _), hBW.trans ((below_alloc _).mono hBW.size)⟩
    case rest =>
    clear hBW
    obtain ⟨wz2, c2, pp2, qq2, hwz, rfl, hge2, lc20, lc21, lc22, kP2, kQ2, hBW⟩ := hcut
    subst hwz
    have hlt2 := cell_lt lc20
    replace q00 := below_cell hBW q00
    replace q01 := below_cell hBW q01
    replace q02 := below_cell hBW q02
    replace lc10 := below_cell hBW lc10
    replace lc11 := below_cell hBW lc11
    replace lc12 := below_cell hBW lc12
    replace kP1 := kP1.later hBW
    replace kQ1 := kQ1.later hBW
    go_wp2_with fail
    refine (HC.out _ _ _ _ _ kP1 kQ1 kP2 kQ2).mono ?_
    rintro e w91 ⟨rfl, b91⟩
    replace hBW := hBW.trans (b91.mono hBW.size)
    replace q00 := below_cell b91 q00
    replace q01 := below_cell b91 q01
    replace q02 := below_cell b91 q02
    replace lc10 := below_cell b91 lc10
    replace lc11 := below_cell b91 lc11
    replace lc12 := below_cell b91 lc12
    replace lc20 := below_cell b91 lc20
    replace lc21 := below_cell b91 lc21
    replace lc22 := below_cell b91 lc22
    replace kP1 := kP1.later b91
    replace kQ1 := kQ1.later b91
    replace kP2 := kP2.later b91
    replace kQ2 := kQ2.later b91
    rcases HFIN.out with rfl | ⟨rfl, h⟩
    · skip
      clear HFIN HLE HLN
      go_wp2
      go_ret
      exact ⟨rfl, hB.trans (hBW.mono hB.size)⟩
    · by_cases hk : fkey n = fkey 0
      · have hE := ord_same HLN.out HLE.out hk
        clear HFIN HLE HLN hk h
        go_wp2
        go_ret
        exact ⟨rfl, hB.trans (hBW.mono hB.size)⟩
      · have hE := ord_diff HLN.out HLE.out hk
        have hev : ((n : Int) % 2 == 0) = true := by rw [beq_iff_eq]; have := h.resolve_left hk; omega
        have hbr := bits_run
        clear HFIN HLE HLN hk h
        go_wp2
        go_ret
        exact ⟨rfl, hB.trans (hBW.mono hB.size)⟩
  · obtain ⟨eN, eK, eR, eA⟩ := over_all hC hnf
    have HN := hide' (fun w' => lfinite_is _ false w' hn6 (decide_eq_false hnf))
    rw [eN] at HN hn6 ⊢
    clear eN hnf
    obtain ⟨ZA, VA, gA⟩ := low_ex ((am (rn s0 X0 Y0) : Nat) : Int) ((rd Y0 : Nat) : Int) (rd_ne Y0)
    have lA := gA.le
    rw [am_nat, am_nat] at lA
    have lA1 : ln (am ZA) ≤ n0 := ln_le_of_lt (Nat.lt_of_le_of_lt (Nat.le_trans lA.1 (rn_am s0 X0 Y0)) hS0.1)
    have lA2 : ln VA ≤ max m0 1 := ln_le_of_lt (Nat.lt_of_le_of_lt lA.2 (rd_ltM2 hT0.1))
    clear lA
    have HA := hide' (fun w' k1 k2 => vqAbs_is s0 a0 n0 c0 X0 b0 m0 d0 Y0 ZA VA w' hc0 (by omega) k1 hd0 (by omega) k2 gA)
    have HUp := hide' (fun w' p q k1 k2 => vup_is (ng ZA) p (ln (am ZA)) (ln (am ZA)) (am ZA) q (ln VA) (ln VA) VA z T w' (Nat.le_refl _) (by omega) k1 (Nat.le_refl _) (by omega) k2 HZ.out HT.out)
    have HOV := hide' (fun k2 => up_over (rN_am s0 X0 Y0) hC eK eR gA (k2 := k2))
    have HFI := hide' (fun w' => lfinite_is FI false w' (by decide) (by decide))
    obtain ⟨C, hCC⟩ : ∃ C, sgn (rn s0 X0 Y0) = C := ⟨_, rfl⟩
    have HSg := hide' (fun w' k1 k2 => vqSign_is s0 a0 n0 c0 X0 b0 m0 d0 Y0 C w' hc0 (by omega) k1 hd0 (by omega) k2 hCC)
    have hbr := bits_run
    have hmod := fB_mod (s := decide (rn s0 X0 Y0 < 0)) (Nat.le_refl FI)
    have hgt : (FloatKind.f64.format.order (fB (decide (rn s0 X0 Y0 < 0)) FI) 0 == some .gt) = decide (0 < C) := by
      rw [show FloatKind.f64.format = Ieee.double from rfl, f_above hn6 (by rw [hmod]; exact Nat.le_refl _), decide_eq_decide, ← hCC]
      have e1 := FIv
      have e2 := SBv
      by_cases hA : rn s0 X0 Y0 < 0
      · rw [decide_eq_true hA, sgn_neg hA]; unfold fB; simp; try omega
      · rw [decide_eq_false hA, sgn_pos (by omega)]; unfold fB; simp; try omega
    have HNN' := fun w' => vnan_any (fB (decide (rn s0 X0 Y0 < 0)) FI) w' hn6
    rw [hmod, decide_eq_false (Nat.lt_irrefl FI)] at HNN'
    have HNN := hide' HNN'
    clear HNN' hmod gA hCC hC eK eR eA HZ HT
    generalize fB (decide (rn s0 X0 Y0 < 0)) FI = n at *
    go_wp2_with fail
    refine (HN.out _).mono ?_
    rintro e w7 ⟨rfl, b7⟩
    replace hBW := hBW.trans (b7.mono hBW.size)
    replace q00 := below_cell b7 q00
    replace q01 := below_cell b7 q01
    replace q02 := below_cell b7 q02
    go_wp2_with fail
    refine (HA.out _ (sb hS0 hB hBW) (sb hT0 hB hBW)).mono ?_
    rintro e w8 ⟨p8, q8, rfl, hp8, hq8⟩
    have b8 := hp8.below
    replace hp8 := hp8.back hBW
    replace hq8 := hq8.back hBW
    replace hBW := hBW.trans (b8.mono hBW.size)
    replace q00 := below_cell b8 q00
    replace q01 := below_cell b8 q01
    replace q02 := below_cell b8 q02
    go_wp2_with fail
    refine (HUp.out _ _ _ hp8.seg hq8.seg).mono ?_
    rintro e w9 ⟨k2, rfl, hC2, bb9⟩
    have b9 := bb9
    replace hBW := hBW.trans (b9.mono hBW.size)
    replace q00 := below_cell b9 q00
    replace q01 := below_cell b9 q01
    replace q02 := below_cell b9 q02
    replace hp8 := hp8.later b9
    replace hq8 := hq8.later b9
    rw [HOV.out _ hC2]
    clear HOV hC2
    go_wp2_with fail
    refine (HFI.out _).mono ?_
    rintro e w10 ⟨rfl, b10⟩
    replace hBW := hBW.trans (b10.mono hBW.size)
    replace q00 := below_cell b10 q00
    replace q01 := below_cell b10 q01
    replace q02 := below_cell b10 q02
    replace hp8 := hp8.later b10
    replace hq8 := hq8.later b10
    go_wp2_with fail
    refine (HNN.out _).mono ?_
    rintro e w19 ⟨rfl, rfl⟩
    go_wp2_with fail
    refine (HSg.out _ (sb hS0 hB hBW) (sb hT0 hB hBW)).mono ?_
    rintro e w11 ⟨rfl, b11⟩
    replace hBW := hBW.trans (b11.mono hBW.size)
    replace q00 := below_cell b11 q00
    replace q01 := below_cell b11 q01
    replace q02 := below_cell b11 q02
    replace hp8 := hp8.later b11
    replace hq8 := hq8.later b11
    by_cases hc0C : 0 < C
    · rw [decide_eq_true hc0C] at hgt
      go_wp2
      go_ret
      exact ⟨rfl, hB.trans (hBW.mono hB.size)⟩
    · rw [decide_eq_false hc0C] at hgt
      go_wp2
      go_ret
      exact ⟨rfl, hB.trans (hBW.mono hB.size)⟩
theorem walk (s0 : Bool) (a0 : Option Addr) (n0 c0 X0 : Nat) (b0 : Option Addr) (m0 d0 Y0 : Nat) (b : Nat) (w : World) (hc0 : n0 ≤ c0) (hm0 : n0 ≤ 35184372087808) (hS0 : Seg w a0 X0 n0) (hd0 : m0 ≤ d0) (hk0 : m0 ≤ 35184372087808) (hT0 : Seg w b0 Y0 m0) (hb : b < 18446744073709551616) :
    Calls Try.prog 4 #[Value.agg #[Value.bool s0, Value.slice a0 n0 c0, Value.slice b0 m0 d0], .float .f64 b] w fun e w' => e = .returned (.bool true) ∧ Below w.heap.size w w' := by
  by_cases hf : b % SB < FI
  · exact walk_is s0 a0 n0 c0 X0 b0 m0 d0 Y0 b w hc0 hm0 hS0 hd0 hk0 hT0 hb hf
  · exact walk_no s0 a0 n0 c0 X0 b0 m0 d0 Y0 b w hc0 hm0 hS0 hd0 hk0 hT0 hb hf

set_option maxRecDepth 100000 in
theorem contract (H : Type) (enc : TypeId × Value → H) (W : World) (base : Nat) (args : Array Value) (ds gs : List (DataW H)) (before : List MemPlace)
    (hval : ∀ (j : Nat) t v, Try.f4.params[j]? = some t → args[j]? = some v → Value.okWide Try.prog W .any base t v)
    (hW : DataW.Whole enc Try.prog Try.f4.params.toList Rows.approxNearSpec.vars false W args.toList ds gs before)
    (hsz : (DataW.weightsEach Try.prog (Try.f4.params.toList ++ Rows.approxNearSpec.plain.varTypes Try.prog) (ds ++ gs)).all (· ≤ reachBytes) = true) :
    Calls Try.prog 4 args W fun e W' => ∃ v, e = .returned v ∧ Rows.approxNearSpec.post enc Try.prog Try.f4 false true false false W args v W' := by
  have hW' := hW
  obtain ⟨p, q, hA0, hV, rfl, hfz, hnd⟩ := hW
  have hA : DataW.TrodAll enc Try.prog W 0 (fun _ => true) true Try.f4.params.toList args.toList ds p := hA0
  rw [Try.params4] at hA hval hsz
  obtain ⟨v0, vs0, d0, ds0, p0, q0, hargs, rfl, rfl, h0, r0⟩ := trodAll_cons hA
  obtain ⟨v1, vs1, d1, ds1, p1, q1, rfl, rfl, rfl, h1, r1⟩ := trodAll_cons r0
  obtain ⟨rfl, rfl, rfl⟩ := trodAll_nil r1
  obtain rfl : args = #[v0, v1] := by cases args; simp_all
  obtain ⟨rfl, rfl⟩ := trodVars_none hV
  have lt0 : ∀ x ∈ p0, x.block < W.heap.size := by obtain ⟨m, hm⟩ := h0; exact DataW.trod_lt m _ _ _ hm
  obtain ⟨rs0, ra0, rn0, rc0, rX0, rb0, rm0, re0, rY0, rfl, hS0, hc0, hb0, hT0, hd0, hk0, hu0, hv0⟩ := open_Rat (hval 0 27 v0 rfl rfl) h0 (sized_at 0 hsz rfl rfl)
  obtain ⟨n1, rfl, rfl, rfl, w1⟩ := open_float Try.underlying28 (hval 1 28 v1 rfl rfl) h1
  have hn1 : n1 < 18446744073709551616 := by simpa [Lit.wf] using w1
  clear hA0
  simp only [List.append_nil] at hW'
  refine (walk rs0 ra0 rn0 rc0 rX0 rb0 rm0 re0 rY0 n1 W hc0 hb0 hS0 hd0 hk0 hT0 hn1).mono fun e W' ⟨he, bel⟩ => ?_
  subst he
  exact ⟨_, rfl, _, _, _, [], _, [], hW', trodAll_mk1 (shut_bool Try.underlying4 _), (trodAll_cons_mk (Below.trod laidOut (by kernel_rfl) (of_decide_eq_true (by kernel_rfl)) h0 bel lt0) (trodAll_cons_mk (shut_float Try.underlying28 w1) trodAll_mk0)), rfl, bel.frame _, fun h => by cases h⟩

set_option maxRecDepth 100000 in
theorem lifted (os : Os) (started : os.Started) (H : Type) (enc : TypeId × Value → H) :
    ReturnsInHanded {} Try.checked os 4 .any (Rows.approxNearSpec.pre6 enc Try.prog Try.f4 Rows.approxNearRow.domain false) (Rows.approxNearSpec.post enc Try.prog Try.f4 false true false false) := by
  refine returnsInHanded_of_change_sized (C := Try.checked) own started (by kernel_rfl) Try.func4
    (ChangeSpec.witness6 (enc := enc) (C := Try.checked) false ⟨#[], #[.agg #[.bool false, .slice none 0 0, .slice none 0 0], .float .f64 0], []⟩ 8 (by kernel_rfl) (by kernel_rfl) (by kernel_rfl) (by kernel_rfl)) ?_
  intro W base args ds gs before hval hW _ hsz _
  exact contract H enc W base args ds gs before hval hW hsz

theorem over : Rows.approxNearRow.holds Try.pinned (OpenSpec.ofChange Rows.approxNearSpec) :=
  OpenClaim.holds_of_wide 4 Try.f4 rfl rfl rfl rfl rfl rfl rfl ⟨rfl, rfl, rfl, rfl, rfl⟩ rfl rfl rfl rfl rfl (by kernel_rfl) Try.func4 (by kernel_rfl)
    (of_decide_eq_true (by kernel_rfl)) (by unfold Func.isWrapper; first | (rw [if_pos (by decide +kernel)]; kernel_rfl) | (rw [if_neg (by decide +kernel)]; exact ⟨rfl, rfl⟩))
    (fun os started H enc _ => lifted os started H enc)

end Go.Proofs.Yticdpbkbnflgbaa.approxNear
namespace Go.Proofs.Yticdpbkbnflgbaa
theorem approxNear_holds : Rows.ApproxNearSaid := approxNear.over
#print axioms approxNear_holds
end Go.Proofs.Yticdpbkbnflgbaa
