import Derived.Test.YtejlnodillnoaaaGreatDoorWSB
import Derived.Test.YtejlnodillnoaaaGreatDoorNumN3
import Derived.Test.YtejlnodillnoaaaGreatDoorWQB
set_option linter.unusedSimpArgs false
namespace Go.Proofs.YtejlnodillnoaaaGreatDoor
open Go.RowKit Go.Shelf
set_option linter.unusedVariables false
theorem blk_putLoop {W : World} {D c : Nat} {r : Loop} {cur : Array Value} {t : TypeId} (h : Blk W c cur t) (hk : Bk D r W) (r' : Loop) : Blk (W.putObj (D + 1) (.loop r')) c cur t := cells_putLoop h hk r'
theorem blk_putDfr {W : World} {D c : Nat} {r : Loop} {cur : Array Value} {t : TypeId} (h : Blk W c cur t) (hk : Bk D r W) (o : Obj) : Blk (W.putObj D o) c cur t := cells_putDfr h hk o
theorem KpB.put {base D : Nat} {W : World} {r : Loop} (hk : Bk D r W) (r' : Loop) : KpB base W (W.putObj (D + 1) (.loop r')) := ⟨fun c cur t _ h => blk_putLoop h hk r', fun a X n h => h.putLoop hk r', by simp⟩
theorem KpB.below {base : Nat} {W W' : World} (h : Below W.heap.size W W') : KpB base W W' := ⟨fun c cur t _ k => k.later h, fun a X n k => k.later h, h.size⟩
theorem KpB.ch {base c : Nat} {W W' : World} (k : Ch c W W') (hc : c < base) (hno : ∀ o i, W.cell? ⟨c, o, none⟩ ≠ some (.int .u32 i)) : KpB base W W' := ⟨fun e cur t he h => h.ch k (by omega), fun a X n h => h.ch k hno, Nat.le_of_eq k.size.symm⟩
attribute [local go_sem] Oper.semAt_some
structure JW (T B n₀ : Nat) (w0 : World) (s : List NV) (W : World) : Prop where
  ex : ∃ (Z0 Z1 Z2 Z3 : Int) (p0 p1 p2 p3 : Option Addr), cvg (s.map NV.val) ((0, 1), (1, 0)) = ((Z0, Z1), (Z2, Z3)) ∧
    Blk W B #[.bool (ng Z0), .slice p0 (ln (am Z0)) (ln (am Z0)), .bool (ng Z1), .slice p1 (ln (am Z1)) (ln (am Z1)), .bool (ng Z2), .slice p2 (ln (am Z2)) (ln (am Z2)), .bool (ng Z3), .slice p3 (ln (am Z3)) (ln (am Z3))] 68 ∧
    Seg W p0 (am Z0) (ln (am Z0)) ∧ Seg W p1 (am Z1) (ln (am Z1)) ∧ Seg W p2 (am Z2) (ln (am Z2)) ∧ Seg W p3 (am Z3) (ln (am Z3)) ∧
    am Z0 ≤ T ∧ am Z1 ≤ T ∧ am Z2 ≤ T ∧ am Z3 ≤ T
  res : Blk W n₀ #[.bool false, .slice none 0 0, .slice none 0 0] 27
  bel : Below n₀ w0 W
  le : n₀ < B
theorem JW.lt {T B n₀ : Nat} {w0 W : World} {s : List NV} (h : JW T B n₀ w0 s W) : B < W.heap.size := by
  obtain ⟨_, _, _, _, _, _, _, _, _, hb, _⟩ := h.ex
  exact hb.lt
theorem JW.below {T B n₀ : Nat} {w0 W W' : World} {s : List NV} (h : JW T B n₀ w0 s W) (hb : Below W.heap.size W W') : JW T B n₀ w0 s W' := by
  obtain ⟨Z0, Z1, Z2, Z3, p0, p1, p2, p3, e, hB, s0, s1, s2, s3, bd⟩ := h.ex
  refine ⟨⟨Z0, Z1, Z2, Z3, p0, p1, p2, p3, e, hB.later hb, s0.later hb, s1.later hb, s2.later hb, s3.later hb, bd⟩, h.res.later hb, h.bel.trans (hb.mono ?_), h.le⟩
  have := h.lt
  have := h.le
  omega
theorem JW.ch {T B n₀ c : Nat} {w0 W W' : World} {s : List NV} (h : JW T B n₀ w0 s W) (k : Ch c W W') (hc : B < c) (hno : ∀ o i, W.cell? ⟨c, o, none⟩ ≠ some (.int .u32 i)) : JW T B n₀ w0 s W' := by
  obtain ⟨Z0, Z1, Z2, Z3, p0, p1, p2, p3, e, hB, s0, s1, s2, s3, bd⟩ := h.ex
  have := h.le
  exact ⟨⟨Z0, Z1, Z2, Z3, p0, p1, p2, p3, e, hB.ch k (by omega), s0.ch k hno, s1.ch k hno, s2.ch k hno, s3.ch k hno, bd⟩, h.res.ch k (by omega), h.bel.trans (k.below (by omega)), h.le⟩
theorem JW.put {T B n₀ D : Nat} {w0 W : World} {s : List NV} {r : Loop} (h : JW T B n₀ w0 s W) (hk : Bk D r W) (hD : n₀ ≤ D + 1) (r' : Loop) : JW T B n₀ w0 s (W.putObj (D + 1) (.loop r')) := by
  obtain ⟨Z0, Z1, Z2, Z3, p0, p1, p2, p3, e, hB, s0, s1, s2, s3, bd⟩ := h.ex
  exact ⟨⟨Z0, Z1, Z2, Z3, p0, p1, p2, p3, e, cells_putLoop hB hk r', s0.putLoop hk r', s1.putLoop hk r', s2.putLoop hk r', s3.putLoop hk r', bd⟩, cells_putLoop h.res hk r', below_putLoop h.bel hk hD _, h.le⟩
set_option maxRecDepth 100000 in
set_option maxHeartbeats 8000000 in
theorem valueB_is (w : World) (cL cH : Nat) (a b c d : NV) (L : List Int) (m T : Nat) (hqL : Blk w cL #[.bool a.s, .slice a.a a.n a.c, .bool false, .slice b.a b.n b.c] 43) (hqH : Blk w cH #[.bool c.s, .slice c.a c.n c.c, .bool false, .slice d.a d.n d.c] 43) (ha : a.ok w) (hb : b.ok w) (hc : c.ok w) (hd : d.ok w) (hSb : Sb a.val b.X c.val d.X) (hm : sbm a.val b.X c.val d.X < m) (hL : sbl m a.val b.X c.val d.X = L) (hsz : a.n ≤ 35184372087808 ∧ b.n ≤ 35184372087808 ∧ c.n ≤ 35184372087808 ∧ d.n ≤ 35184372087808) (h1T : 1 ≤ T) (hT : T < BB ^ 35184372088000) (hLT : ∀ l x rest, l ++ x :: rest = L → am (cvg (l ++ [x]) ((0, 1), (1, 0))).2.1 ≤ T ∧ am (cvg (l ++ [x]) ((0, 1), (1, 0))).2.2 ≤ T) :
    Calls Tryz.prog 25 #[.func (.func 65) #[] #[.pointer (some ⟨cL, 0, none⟩), .pointer (some ⟨cH, 0, none⟩)]] w fun e w' => ∃ P Q pa pb, cpq L = (P, Q) ∧ e = .returned (.agg #[.bool (ng P), .slice pa (ln (am P)) (ln (am P)), .slice pb (ln (am Q)) (ln (am Q))]) ∧ Below w.heap.size w w' ∧ Seg w' pa (am P) (ln (am P)) ∧ Seg w' pb (am Q) (ln (am Q)) := by
  obtain ⟨O, hO⟩ : ∃ O : Int, O = 0 := ⟨_, rfl⟩
  obtain ⟨I, hI1⟩ : ∃ I : Int, I = 1 := ⟨_, rfl⟩
  have GB := hide' (beginning_is O I hO hI1 (w.alloc (.cells #[.bool false, .slice none 0 0, .slice none 0 0] 27)))
  have bA := below_alloc (w := w) (.cells #[.bool false, .slice none 0 0, .slice none 0 0] 27)
  have qR := Blk.new w #[.bool false, .slice none 0 0, .slice none 0 0] 27
  have HA := hide' (And.intro hqL (And.intro hqH (And.intro ha (And.intro hb (And.intro hc hd)))))
  have HB := hide' (And.intro hSb (And.intro hm (And.intro hL hsz)))
  have HLT := hide' hLT
  have HTT := hide' hT
  have HO := hide' (And.intro hO hI1)
  clear hqL hqH ha hb hc hd hSb hm hL hsz hLT hT hO hI1
  refine (callsIn_wide (n := 3)).1 ?_
  refine callsIn_of_wp_marks Tryz.func25 rfl trivial ?_ rfl
  simp only [Tryz.ntmps25, List.size_toArray, List.length_cons, List.length_nil, Nat.reduceAdd, Nat.reduceSub, Array.replicate_succ, Array.replicate_zero, List.push_toArray, List.append_toArray, List.nil_append, List.cons_append]
  gi_wp2_with (refine ⟨trivial, ?_⟩; gi_at_call 46; refine (callsIn_wide.2 GB.out).mono ?_; rintro e w1 ⟨p0, p1, p2, p3, rfl, b1, k0, k1, k2, k3⟩)
  have b2 := below_alloc (w := w1) (.cells #[.bool (ng O), .slice p0 (ln (am O)) (ln (am O)), .bool (ng I), .slice p1 (ln (am I)) (ln (am I)), .bool (ng I), .slice p2 (ln (am I)) (ln (am I)), .bool (ng O), .slice p3 (ln (am O)) (ln (am O))] 68)
  have bW := (bA.trans (b1.mono bA.size))
  have bX := bW.trans (b2.mono bW.size)
  have hJ0 : JW T w1.heap.size w.heap.size w [] (w1.alloc (.cells #[.bool (ng O), .slice p0 (ln (am O)) (ln (am O)), .bool (ng I), .slice p1 (ln (am I)) (ln (am I)), .bool (ng I), .slice p2 (ln (am I)) (ln (am I)), .bool (ng O), .slice p3 (ln (am O)) (ln (am O))] 68)) := by
    obtain ⟨hO, hI1⟩ := HO.out
    refine ⟨⟨O, I, I, O, p0, p1, p2, p3, by rw [hO, hI1]; rfl, Blk.new w1 _ _, k0.later b2, k1.later b2, k2.later b2, k3.later b2, ?_⟩, (qR.later b1).later b2, bX, Nat.lt_of_lt_of_le (by simp) b1.size⟩
    subst hO
    subst hI1
    have e1 : (am 1 : Nat) = 1 := rfl
    have e0 : (am 0 : Nat) = 0 := rfl
    rw [e1, e0]
    omega
  obtain ⟨W0, hW0⟩ : ∃ W0, w1.alloc (.cells #[.bool (ng O), .slice p0 (ln (am O)) (ln (am O)), .bool (ng I), .slice p1 (ln (am I)) (ln (am I)), .bool (ng I), .slice p2 (ln (am I)) (ln (am I)), .bool (ng O), .slice p3 (ln (am O)) (ln (am O))] 68) = W0 := ⟨_, rfl⟩
  have hsz : W0.heap.size = w1.heap.size + 1 := by rw [← hW0]; simp
  rw [hW0] at hJ0 bX ⊢
  have hle := hJ0.le
  clear hW0 b2 k0 k1 k2 k3 GB qR bA b1 bW
  refine range_all (gf := 65) (lb := #[.pointer (some ⟨cL, 0, none⟩), .pointer (some ⟨cH, 0, none⟩)]) rfl (enters_of Tryz.func65 (by kernel_rfl) rfl) (fun x : NV => #[.agg #[.bool x.s, .slice x.a x.n x.c]]) (fun _ => rfl)
    (JW T w1.heap.size w.heap.size w) (fun s x W => x.ok W ∧ ∃ rest, s.map NV.val ++ x.val :: rest = L) (KpB (W0.heap.size + 2))
    (fun s x a' V => JW T w1.heap.size w.heap.size w s V ∧ x.ok V ∧ (∃ rest, s.map NV.val ++ x.val :: rest = L) ∧ ∃ Bx, Blk V Bx #[.bool x.s, .slice x.a x.n x.c] 25 ∧ a' = { tmps := #[.func (.func 65) #[] #[.pointer (some ⟨cL, 0, none⟩), .pointer (some ⟨cH, 0, none⟩)], undef, .pointer (some ⟨w.heap.size, 0, none⟩), .pointer (some ⟨w1.heap.size, 0, none⟩), .pointer (some ⟨Bx, 0, none⟩), .agg #[.bool (ng O), .slice p0 (ln (am O)) (ln (am O)), .bool (ng I), .slice p1 (ln (am I)) (ln (am I)), .bool (ng I), .slice p2 (ln (am I)) (ln (am I)), .bool (ng O), .slice p3 (ln (am O)) (ln (am O))], .func (.func 65) #[] #[.pointer (some ⟨cL, 0, none⟩), .pointer (some ⟨cH, 0, none⟩)], .agg #[.bool x.s, .slice x.a x.n x.c], undef, undef, undef, undef, undef, undef], defers := [] })
    (fun s W r r' hk h => h.put hk (by omega) r') ?hA (fun W r r' hk => KpB.put hk r') (fun A B C h k => h.trans k) ?assign ?body ?iter
  case hA =>
    rintro s x a' W r r' hk ⟨hj, hs, hl, Bx, hb, rfl⟩
    exact ⟨hj.put hk (by omega) r', ⟨hs.1.putLoop hk r', hs.2⟩, hl, Bx, blk_putLoop hb hk r', rfl⟩
  case assign =>
    rintro s x W r K hk hj ⟨hs, hl⟩ hK
    have b1 := (Below.refl W.heap.size W).alloc (Nat.le_refl _) (.cells #[.bool x.s, .slice x.a x.n x.c] 25)
    have hK' := hK _ _ b1 (KpB.below b1) ⟨hj.below b1, ⟨hs.1.later b1, hs.2⟩, hl, W.heap.size, Blk.new W _ _, rfl⟩
    clear hK
    gi_wp2
    exact hK'
  case body =>
    rintro s x a' V r hk ⟨hj, hs, hl, Bx, hb, rfl⟩
    obtain ⟨Z0, Z1, Z2, Z3, p0, p1, p2, p3, e, hB, s0, s1, s2, s3, d0, d1, d2, d3⟩ := hj.ex
    obtain ⟨rest, hrest⟩ := hl
    obtain ⟨f2, f3⟩ := HLT.out _ _ _ hrest
    have hTT := HTT.out
    have l0 := ln_le_of_lt (Nat.lt_of_le_of_lt d0 hTT)
    have l1 := ln_le_of_lt (Nat.lt_of_le_of_lt d1 hTT)
    have l2 := ln_le_of_lt (Nat.lt_of_le_of_lt d2 hTT)
    have l3 := ln_le_of_lt (Nat.lt_of_le_of_lt d3 hTT)
    clear hTT
    have GL := hide' (longer_is Z0 Z1 Z2 Z3 p0 p1 p2 p3 x.s x.a x.n x.c x.X _ _ V s0 (by omega) s1 (by omega) s2 (by omega) s3 (by omega) hs.2.1 (by have := hs.2.2; omega) hs.1 rfl rfl)
    obtain ⟨M2, hM2⟩ : ∃ M, Z2 * sg x.s x.X + Z0 = M := ⟨_, rfl⟩
    obtain ⟨M3, hM3⟩ : ∃ M, Z3 * sg x.s x.X + Z1 = M := ⟨_, rfl⟩
    have e8 : cvg (s.map NV.val ++ [x.val]) ((0, 1), (1, 0)) = ((Z2, Z3), (M2, M3)) := by
      unfold cvg at e ⊢
      rw [List.foldl_append, e]
      simp only [List.foldl_cons, List.foldl_nil, cst2, NV.val]
      rw [hM2, hM3]
    rw [e8] at f2 f3
    simp only at f2 f3
    rw [hM2] at GL
    rw [hM3] at GL
    have HF := hide' (And.intro f2 f3)
    have HD := hide' (And.intro d2 d3)
    have HE := hide' e8
    have HM := hide' (And.intro hM2 hM3)
    clear f2 f3 d0 d1 d2 d3 e e8 hM2 hM3 l0 l1 l2 l3 hrest
    have x0 := hB.cell 0
    have x1 := hB.cell 1
    have x2 := hB.cell 2
    have x3 := hB.cell 3
    have x4 := hB.cell 4
    have x5 := hB.cell 5
    have x6 := hB.cell 6
    have x7 := hB.cell 7
    have y0 := hb.cell 0
    have y1 := hb.cell 1
    simp only [List.getElem?_toArray, List.getElem?_cons_zero, List.getElem?_cons_succ] at x0 x1 x2 x3 x4 x5 x6 x7 y0 y1
    gi_wp2_with (refine ⟨trivial, ?_⟩; gi_at_call 48; refine (CallsIn.inRound (W0.heap.size + 1) (callsIn_wide.2 GL.out)).mono ?_; rintro e w5 ⟨pa, pb, rfl, b5, ka, kb⟩; have hB5 := hB.later b5; have v0 := hB5.cell 0; have v1 := hB5.cell 1; have v2 := hB5.cell 2; have v3 := hB5.cell 3; have v4 := hB5.cell 4; have v5 := hB5.cell 5; have v6 := hB5.cell 6; have v7 := hB5.cell 7; have fz := fun o => hB5.frozen o; simp only [List.getElem?_toArray, List.getElem?_cons_zero, List.getElem?_cons_succ] at v0 v1 v2 v3 v4 v5 v6 v7)
    obtain ⟨c9, q9⟩ := hB5.set8 (.bool (ng Z2)) (.slice p2 (ln (am Z2)) (ln (am Z2))) (.bool (ng Z3)) (.slice p3 (ln (am Z3)) (ln (am Z3))) (.bool (ng M2)) (.slice pa (ln (am M2)) (ln (am M2))) (.bool (ng M3)) (.slice pb (ln (am M3)) (ln (am M3)))
    have hno := hB5.no (by simp)
    obtain ⟨hM2, hM3⟩ := HM.out
    obtain ⟨f2, f3⟩ := HF.out
    obtain ⟨d2, d3⟩ := HD.out
    have hjl := hj.lt
    have b5n := b5.mono (show w.heap.size ≤ V.heap.size by omega)
    refine ⟨fun r h => (h.below b5).ch c9 hB5, (KpB.below b5).trans (KpB.ch c9 (by omega) hno), ⟨⟨Z2, Z3, M2, M3, p2, p3, pa, pb, ?_, q9, (s2.later b5).ch c9 hno, (s3.later b5).ch c9 hno, ka.ch c9 hno, kb.ch c9 hno, ?_, ?_, ?_, ?_⟩, (hj.res.later b5).ch c9 (by omega), hj.bel.trans (b5n.trans (c9.below (by omega))), hle⟩⟩
    · rw [List.map_append]
      exact HE.out
    · exact d2
    · exact d3
    · exact f2
    · exact f3
  case iter =>
    intro r W1 hk hW1 hY
    have b1 : Below W0.heap.size W0 W1 := by
      rw [hW1]
      exact ((Below.refl W0.heap.size W0).alloc (Nat.le_refl _) _).alloc (by simp) _
    obtain ⟨hqL, hqH, ha, hb, hc, hd⟩ := HA.out
    obtain ⟨hSb, hm, hL, hss⟩ := HB.out
    have bw := (hJ0.below b1).bel
    have bw2 : Below w.heap.size w W1 := bw
    have hW1s : W1.heap.size = W0.heap.size + 2 := by rw [hW1]; simp
    rw [← hW1s] at hY
    refine (between1_is W0.heap.size r W1 cL cH a b c d (JW T w1.heap.size w.heap.size w) L m (fun s W W' h hb => h.below hb) (fun s W W' e h he k hno => h.ch k (by omega) hno) (hqL.later bw2) (hqH.later bw2) (ha.later bw2) (hb.later bw2) (hc.later bw2) (hd.later bw2) hSb hm hL (hJ0.below b1) hk hss (fun s x W h1 h2 h3 h4 => hY s x W h1 h2 ⟨h3, h4⟩)).mono ?_
    rintro e W2 ⟨he, hk2, s, hsL, hj⟩
    refine ⟨he, hk2, fun r' => ?_⟩
    have hj2 := hj.put hk2 (by omega) r'
    have hk3 := hk2.put r'
    generalize W2.putObj (W0.heap.size + 1) (.loop r') = W3 at hj2 hk3
    obtain ⟨Z0, Z1, Z2, Z3, q0, q1, q2, q3, e9, hB, s0, s1, s2, s3, _⟩ := hj2.ex
    have GR := hide' (frat_is Z2 Z3 q2 q3 W3)
    have HE := hide' e9
    clear e9 hj hY
    have x0 := hB.cell 0
    have x1 := hB.cell 1
    have x2 := hB.cell 2
    have x3 := hB.cell 3
    have x4 := hB.cell 4
    have x5 := hB.cell 5
    have x6 := hB.cell 6
    have x7 := hB.cell 7
    simp only [List.getElem?_toArray, List.getElem?_cons_zero, List.getElem?_cons_succ] at x0 x1 x2 x3 x4 x5 x6 x7
    gi_wp2_with (refine ⟨trivial, ?_⟩; gi_at_call 51; refine (callsIn_wide.2 GR.out).mono ?_; rintro e w6 ⟨rfl, b6⟩; have hR6 := hj2.res.later b6; have v0 := hR6.cell 0; have v1 := hR6.cell 1; have v2 := hR6.cell 2; have fz := fun o => hR6.frozen o; simp only [List.getElem?_toArray, List.getElem?_cons_zero, List.getElem?_cons_succ] at v0 v1 v2)
    obtain ⟨c9, q9⟩ := hR6.set3 (.bool (ng Z2)) (.slice q2 (ln (am Z2)) (ln (am Z2))) (.slice q3 (ln (am Z3)) (ln (am Z3)))
    have hno := hR6.no (by simp)
    rw [hsz] at hk3
    have hk7 := (hk3.below b6).ch c9 hR6
    have t2 := ((s2.later b6).ch c9 hno).putDfr hk7 (.deferred none)
    have t3 := ((s3.later b6).ch c9 hno).putDfr hk7 (.deferred none)
    have hjl := hj2.lt
    have b6n := b6.mono (show w.heap.size ≤ W3.heap.size by omega)
    have b7 := below_putDfr (hj2.bel.trans (b6n.trans (c9.below (Nat.le_refl _)))) (show w.heap.size ≤ w1.heap.size + 1 by omega) (.deferred none)
    have q8 := blk_putDfr q9 hk7 (.deferred none)
    have z0 := q8.cell 0
    have z1 := q8.cell 1
    have z2 := q8.cell 2
    simp only [List.getElem?_toArray, List.getElem?_cons_zero, List.getElem?_cons_succ] at z0 z1 z2
    refine ⟨by simp, .inl ⟨_, _, rfl, run_takeDeferred hk7.dfr, ?_⟩⟩
    refine ⟨.agg #[.bool (ng Z2), .slice q2 (ln (am Z2)) (ln (am Z2)), .slice q3 (ln (am Z3)) (ln (am Z3))], ?_, Z2, Z3, q2, q3, ?_, rfl, b7, t2, t3⟩
    · rw [results_cell rfl]
      clear v0 v1 v2 fz
      go_simp
    · rw [← cvg_begun, ← hsL, HE.out]
set_option maxHeartbeats 2000000 in
set_option maxRecDepth 100000 in
theorem between_is (a b c d : NV) (w : World) :
    Calls Tryz.prog 26 #[.agg #[.bool a.s, .slice a.a a.n a.c, .bool false, .slice b.a b.n b.c], .agg #[.bool c.s, .slice c.a c.n c.c, .bool false, .slice d.a d.n d.c]] w fun e w' => ∃ cL cH, e = .returned (.func (.func 65) #[] #[.pointer (some ⟨cL, 0, none⟩), .pointer (some ⟨cH, 0, none⟩)]) ∧ Blk w' cL #[.bool a.s, .slice a.a a.n a.c, .bool false, .slice b.a b.n b.c] 43 ∧ Blk w' cH #[.bool c.s, .slice c.a c.n c.c, .bool false, .slice d.a d.n d.c] 43 ∧ Below w.heap.size w w' := by
  have q1 := (Blk.new w #[.bool a.s, .slice a.a a.n a.c, .bool false, .slice b.a b.n b.c] 43).later (below_alloc (.cells #[.bool c.s, .slice c.a c.n c.c, .bool false, .slice d.a d.n d.c] 43))
  have q2 := Blk.new (w.alloc (.cells #[.bool a.s, .slice a.a a.n a.c, .bool false, .slice b.a b.n b.c] 43)) #[.bool c.s, .slice c.a c.n c.c, .bool false, .slice d.a d.n d.c] 43
  simp only [World.size_alloc] at q2
  have hB : Below w.heap.size w ((w.alloc (.cells #[.bool a.s, .slice a.a a.n a.c, .bool false, .slice b.a b.n b.c] 43)).alloc (.cells #[.bool c.s, .slice c.a c.n c.c, .bool false, .slice d.a d.n d.c] 43)) := ((Below.refl _ _).alloc (Nat.le_refl _) _).alloc (by rw [World.size_alloc]; omega) _
  go_enter Tryz.func26, Tryz.ntmps26
  go_wp2
  go_ret
  exact ⟨w.heap.size, w.heap.size + 1, rfl, q1, q2, hB⟩
theorem t_bd {A B C D N : Nat} (hA : A < BB ^ N) (hB : B < BB ^ N) (hC : C < BB ^ N) (hD : D < BB ^ N) : A + C + (B + D) + 1 < BB ^ (N + 1) := by
  rw [Nat.pow_succ]
  have h2 : BB ^ N * 8 ≤ BB ^ N * BB := Nat.mul_le_mul_left _ (by rw [BB_eq]; omega)
  have := BBp N
  omega
set_option maxHeartbeats 1000000 in
theorem svalue (w : World) (cL cH : Nat) (a b c d : NV) (hqL : Blk w cL #[.bool a.s, .slice a.a a.n a.c, .bool false, .slice b.a b.n b.c] 43) (hqH : Blk w cH #[.bool c.s, .slice c.a c.n c.c, .bool false, .slice d.a d.n d.c] 43) (ha : a.ok w) (hb : b.ok w) (hc : c.ok w) (hd : d.ok w) (hSb : Sb a.val b.X c.val d.X) (hsz : a.n ≤ 35184372087808 ∧ b.n ≤ 35184372087808 ∧ c.n ≤ 35184372087808 ∧ d.n ≤ 35184372087808) :
    Calls Tryz.prog 25 #[.func (.func 65) #[] #[.pointer (some ⟨cL, 0, none⟩), .pointer (some ⟨cH, 0, none⟩)]] w fun e w' => ∃ (P : Int) (Q : Nat) (pa pb : Option Addr), Sbt a.val b.X c.val d.X P Q ∧ Nat.gcd (am P) Q = 1 ∧ am P ≤ a.X + c.X ∧ Q ≤ b.X + d.X ∧ e = .returned (.agg #[.bool (ng P), .slice pa (ln (am P)) (ln (am P)), .slice pb (ln Q) (ln Q)]) ∧ Below w.heap.size w w' ∧ Seg w' pa (am P) (ln (am P)) ∧ Seg w' pb Q (ln Q) := by
  obtain ⟨m, hm⟩ : ∃ m, sbm a.val b.X c.val d.X < m := ⟨_, Nat.lt_succ_self _⟩
  obtain ⟨L, hL⟩ : ∃ L, sbl m a.val b.X c.val d.X = L := ⟨_, rfl⟩
  have hs := sbl_is m _ _ _ _ hSb hm
  have hp := fun (l rest : List Int) (x : Int) (e : l ++ x :: rest = sbl m a.val b.X c.val d.X) => sbl_pre hSb hm e
  have hg := cpq_cop (sbl m a.val b.X c.val d.X)
  rw [hL] at hs hp hg
  obtain ⟨P, Q, hPQ⟩ : ∃ P Q, cpq L = (P, Q) := ⟨_, _, rfl⟩
  rw [hPQ] at hs hp hg
  simp only at hs hp hg
  have hsm := hs.small hSb
  have p0 := hs.p0
  have q0 := hs.q0
  have ba := (sg_bounds a.s a.X).2
  have bc := (sg_bounds c.s c.X).2
  have hPa : am P ≤ a.X + c.X := by have h1 : a.val ≤ (a.X : Int) := ba; have h2 : c.val ≤ (c.X : Int) := bc; unfold am; omega
  have hQa : am Q ≤ b.X + d.X := by unfold am; omega
  obtain ⟨N, hN⟩ : ∃ N, N = 35184372087808 := ⟨_, rfl⟩
  have hlt := t_bd (N := N) (Nat.lt_of_lt_of_le ha.1.1 (pow_mono (by omega))) (Nat.lt_of_lt_of_le hb.1.1 (pow_mono (by omega))) (Nat.lt_of_lt_of_le hc.1.1 (pow_mono (by omega))) (Nat.lt_of_lt_of_le hd.1.1 (pow_mono (by omega)))
  have hT : am P + am Q + 1 < BB ^ 35184372088000 := by
    obtain ⟨M, hM⟩ : ∃ M, M = 35184372088000 := ⟨_, rfl⟩
    rw [← hM]
    exact Nat.lt_of_le_of_lt (by omega) (Nat.lt_of_lt_of_le hlt (pow_mono (by omega)))
  refine (valueB_is w cL cH a b c d L m (am P + am Q + 1) hqL hqH ha hb hc hd hSb hm hL hsz (by omega) hT (fun l x rest e => ?_)).mono ?_
  · obtain ⟨h1, h2, h3, h4⟩ := hp l rest x e
    exact ⟨by unfold am; omega, by unfold am; omega⟩
  · rintro e w' ⟨P', Q', pa, pb, hPQ', rfl, hB, k1, k2⟩
    rw [hPQ] at hPQ'
    obtain ⟨rfl, rfl⟩ : P = P' ∧ Q = Q' := by simpa using hPQ'
    have eQ : ((am Q : Nat) : Int) = Q := by unfold am; omega
    exact ⟨P, am Q, pa, pb, by rw [eQ]; exact hs, hg, hPa, hQa, rfl, hB, k1, k2⟩
end Go.Proofs.YtejlnodillnoaaaGreatDoor
