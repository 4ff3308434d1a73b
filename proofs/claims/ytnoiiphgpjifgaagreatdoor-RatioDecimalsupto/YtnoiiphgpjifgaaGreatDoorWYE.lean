import Derived.Test.YtnoiiphgpjifgaaGreatDoorWYD
import Derived.Test.YtnoiiphgpjifgaaGreatDoorWGR
import Derived.Test.YtnoiiphgpjifgaaGreatDoorWH3
set_option linter.unusedSimpArgs false
namespace Go.Proofs.YtnoiiphgpjifgaaGreatDoor
open Go.RowKit
set_option linter.unusedVariables false
theorem RatV.ok.ch {c : Nat} {w w' : World} {q : RatV} (h : q.ok w) (k : Ch c w w') (hno : ∀ o i, w.cell? ⟨c, o, none⟩ ≠ some (.int .u32 i)) : q.ok w' := ⟨h.1.ch k hno, h.2.1, h.2.2.1, h.2.2.2.1.ch k hno, h.2.2.2.2.1, h.2.2.2.2.2⟩
theorem run_field1 (v0 v1 v2 : Value) (w : World) : (Instr.field 27 (.agg #[v0, v1, v2]) 1).run Tryz.prog w = .ok v2 w := by kernel_rfl
theorem ref_fin {Q D M m G : Int} {x : Rat} (hD : 0 < D) (hx : x = Rat.divInt Q D) (hf : Fl (x + Rat.divInt 1 2).num ((x + Rat.divInt 1 2).den : Int) m G) (hM : rnd Q D = M) :
    (((m : Rat) - x).den = 2 ∧ am m % 2 = 1 ∧ m - 1 = M) ∨ (((m : Rat) - x).den = 2 ∧ am m % 2 = 0 ∧ m = M) ∨ (((m : Rat) - x).den ≠ 2 ∧ m = M) := by
  obtain ⟨h1, h2⟩ := ref_rnd hD hx hf
  unfold rnd at hM
  generalize Q / D = Z at *
  generalize Q % D = L at *
  by_cases hd : ((m : Rat) - x).den = 2
  · have h3 := h1.1 hd
    rw [if_pos (by omega)] at h2
    by_cases hz : Z % 2 = 1
    · rw [if_pos (.inr ⟨h3, hz⟩)] at hM
      exact .inr (.inl ⟨hd, by unfold am; omega, by omega⟩)
    · rw [if_neg (by omega)] at hM
      exact .inl ⟨hd, by unfold am; omega, by omega⟩
  · have h3 : ¬ (2 * L = D) := fun e => hd (h1.2 e)
    refine .inr (.inr ⟨hd, ?_⟩)
    rw [h2]
    by_cases hl : D < 2 * L
    · rw [if_pos (by omega)]; rw [if_pos (.inl hl)] at hM; exact hM
    · rw [if_neg (by omega)]; rw [if_neg (by omega)] at hM; exact hM
theorem sz_int {z : Int} {N : Nat} (h : ln (am z) ≤ N) (h1 : 1 ≤ N) : sz N (z : Rat) := ⟨h, by show ln 1 ≤ N; rw [ln_one]; exact h1⟩
theorem sz_half : sz 2 (Rat.divInt 1 2) := by
  have h : (Rat.divInt 1 2).num = 1 ∧ (Rat.divInt 1 2).den = 2 := ⟨rfl, rfl⟩
  refine ⟨?_, ?_⟩
  · rw [h.1, show am 1 = 1 from rfl, ln_one]; omega
  · rw [h.2]; exact Nat.le_trans (ln_le_of_lt (n := 1) (by rw [Nat.pow_one, BB_eq]; omega)) (by omega)
theorem sz_subY {r t : Rat} {N M : Nat} (h : sz N r) (k : sz M t) : sz (2 * N + 2 * M + 3) (r - t) := by
  rw [Rat.sub_eq_add_neg]
  exact sz_addY h (sz_negY k)
theorem Blk.seg1 {W : World} {c X : Nat} {t : TypeId} {a : Int} (h : Blk W c #[.int .u32 a] t) (hX : X < 4294967296) (ha : a = (X : Nat)) : Seg W (some ⟨c, 0, none⟩) X 1 :=
  Seg.mk' (by rw [Nat.pow_one, BB_eq]; exact hX) h.lt fun i hi => by
    obtain rfl : i = 0 := by omega
    rw [h.cell]
    show some (Value.int .u32 a) = _
    rw [ha, show dg X 0 = X by unfold dg; rw [Nat.pow_zero, Nat.div_one, BB_eq]; omega]
theorem dr_below {w w' : World} (h : Dr w w') : Below w.heap.size w w' := h.below _
theorem below_eq {w w' : World} (h : w = w') : Below w.heap.size w w' := by subst h; exact Below.refl _ _
theorem bP (a : Act) (d : Tmp) (v : Value) : a.put (some d) v = ⟨a.tmps.setIfInBounds d v, a.defers⟩ := rfl
theorem bN (a : Act) (v : Value) : a.put none v = a := rfl
theorem bS {α : Type} (l : List α) (i : Nat) (a : α) : l.toArray.setIfInBounds i a = (l.set i a).toArray := List.setIfInBounds_toArray ..
theorem bZ {α : Type} (a b : α) (l : List α) : (a :: l).set 0 b = b :: l := rfl
theorem bC {α : Type} (a b : α) (l : List α) (n : Nat) : (a :: l).set (n + 1) b = a :: l.set n b := rfl
theorem tkb {P : Program} {ops : Array Oper} {Q : Exit → Act → World → Prop} {md : Region.Mode} {S : World → Prop} (i : Nat) {d : Option Tmp} {op : Op} {ty : TypeId} {pos : String} {af : Array Edge} {g : Option (Nat × Bool)} {v : Value} {n : Nat} {L : Array Bool} {a : Act} {w : World}
    (hi : ops[i]? = some ⟨d, op, ty, pos, af, g⟩) (hy : YieldsIf P ops S ⟨d, op, ty, pos, af, g⟩ v a) (h : wpAnyH P md ops Q S n (L.setIfInBounds i true) (a.put d v) w) (hs : Region.noSelect ops = true := by kernel_rfl) (hf : Region.free md ops L i = true := by kernel_rfl) (hr : (Region.ready md ops L).contains i = true := by kernel_rfl)
    (hQ : ∀ c a w, Q (.panic c) (a.put d v) w → Q (.panic c) a w := by exact fun _ _ _ h => h) (hS : S w := by assumption) : wpAnyH P md ops Q S (n + 1) L a w := take' i hi hs hf hr hQ hy hS h
theorem hc3 {w w' : World} {a b c i j k : Nat} {x y z : Value} (h : Below w.heap.size w w') (g : w.cell? ⟨a, i, none⟩ = some x ∧ w.cell? ⟨b, j, none⟩ = some y ∧ w.cell? ⟨c, k, none⟩ = some z) : w'.cell? ⟨a, i, none⟩ = some x ∧ w'.cell? ⟨b, j, none⟩ = some y ∧ w'.cell? ⟨c, k, none⟩ = some z := ⟨below_cell h g.1, below_cell h g.2.1, below_cell h g.2.2⟩
theorem hc5 {w w' : World} {a b c d e i j k l m : Nat} {x y z u v : Value} (h : Below w.heap.size w w') (g : w.cell? ⟨a, i, none⟩ = some x ∧ w.cell? ⟨b, j, none⟩ = some y ∧ w.cell? ⟨c, k, none⟩ = some z ∧ w.cell? ⟨d, l, none⟩ = some u ∧ w.cell? ⟨e, m, none⟩ = some v) : w'.cell? ⟨a, i, none⟩ = some x ∧ w'.cell? ⟨b, j, none⟩ = some y ∧ w'.cell? ⟨c, k, none⟩ = some z ∧ w'.cell? ⟨d, l, none⟩ = some u ∧ w'.cell? ⟨e, m, none⟩ = some v := ⟨below_cell h g.1, below_cell h g.2.1, below_cell h g.2.2.1, below_cell h g.2.2.2.1, below_cell h g.2.2.2.2⟩
set_option maxHeartbeats 8000000 in
set_option maxRecDepth 100000 in
theorem vdec_is (A : RatV) (p : Nat) (M Q : Int) (u : ByteArray) (w : World) (hA : A.ok w) (hn : A.n ≤ 1048576 ∧ A.m ≤ 1048576) (hp : p ≤ 1000) (hQ : rn A.s A.X A.Y * ((10 ^ p : Nat) : Int) = Q) (hM : rnd Q ((rd A.Y : Nat) : Int) = M) (hu : isTx 10 (am M) u) :
    Calls Tryz.prog 7 #[.agg #[.bool A.s, .slice A.a A.n A.c, .slice A.b A.m A.e], .int .i64 (p : Nat)] w fun e w' => e = .returned (.tuple #[.string (decT (ng M) p u), .int .i64 0]) ∧ Below w.heap.size w w' := by
  have lp := ten_lnP hp
  obtain ⟨X1, eX⟩ : ∃ X1 : Rat, A.val * (((10 ^ p : Nat) : Int) : Rat) = X1 := ⟨_, rfl⟩
  have hx1 : X1 = Rat.divInt Q ((rd A.Y : Nat) : Int) := by
    rw [← eX, ← hQ, show (((10 ^ p : Nat) : Int) : Rat) = Rat.divInt ((10 ^ p : Nat) : Int) 1 from (Rat.num_divInt_den _).symm]
    unfold RatV.val
    rw [Rat.divInt_mul_divInt, Int.mul_one]
  obtain ⟨Y1, eY⟩ : ∃ Y1 : Rat, X1 + Rat.divInt 1 2 = Y1 := ⟨_, rfl⟩
  have yA : sz 1048577 A.val := szV hA (by omega) (by omega)
  have yT : sz 126 (((10 ^ p : Nat) : Int) : Rat) := sz_int (by rw [am_nat]; exact lp) (by omega)
  have yX := sz_mulY yA yT
  rw [eX] at yX
  have yY := sz_addY yX sz_half
  rw [eY] at yY
  obtain ⟨m, G, hF⟩ := fl_ex Y1.num (D := (Y1.den : Int)) (by have := Y1.den_pos; omega)
  have hcase := ref_fin (by have := rd_pos A.Y; omega) hx1 (by rw [eY]; exact hF) hM
  have lm : ln (am m) ≤ 2097500 := by
    have h1 := hF.am (by have := Y1.den_pos; omega)
    exact Nat.le_trans (ln_succ (n := ln (am Y1.num)) h1 (ln_lt _) (by omega)) (by have := yY.1; omega)
  obtain ⟨D1, eD⟩ : ∃ D1 : Rat, (m : Rat) - X1 = D1 := ⟨_, rfl⟩
  have yD := sz_subY (sz_int lm (by omega)) yX
  rw [eD] at yD hcase
  have zX := hide' (yX.mono (show _ ≤ 100000000 by omega))
  have zY := hide' (yY.mono (show _ ≤ 100000000 by omega))
  have zD := hide' (yD.mono (show _ ≤ 100000000 by omega))
  have G0 := hide' (fun w' k a pb (k1 : Seg w' a (10 ^ k) (ln (10 ^ k))) (k2 : Seg w' pb 10 1) (hk : k < p) => rMul_is a pb (ln (10 ^ k)) (ln (10 ^ k)) (10 ^ k) 1 1 10 (10 ^ (k + 1)) w' (by have := ten_lnP (p := k) (by omega); omega) k1 k2 (Nat.pow_succ ..).symm)
  have G2 := hide' (fun w' a k => vintN (10 ^ p) a w' (by omega) k)
  have G3 := hide' (fun w' p1 q1 (k1 : A.ok w') (k2 : (nR (((10 ^ p : Nat) : Int) : Rat) p1 q1).ok w') => vmulQ A (nR (((10 ^ p : Nat) : Int) : Rat) p1 q1) X1 w' k1 k2 ⟨by omega, by omega, Nat.le_trans yT.1 (by omega), Nat.le_trans yT.2 (by omega)⟩ (by rw [nR_val]; exact eX) zX.out)
  have G4 := hide' (fun w' pa pb (k1 : Seg w' (some ⟨pa, 0, none⟩) 1 1) (k2 : Seg w' (some ⟨pb, 0, none⟩) 2 1) => vnormQ ⟨false, some ⟨pa, 0, none⟩, 1, 1, 1, some ⟨pb, 0, none⟩, 1, 1, 2⟩ (Rat.divInt 1 2) w' ⟨k1, Nat.le_refl _, by show (1 : Nat) ≤ _; omega, k2, Nat.le_refl _, by show (1 : Nat) ≤ _; omega⟩ rfl (sz_half.mono (by omega)))
  have G5 := hide' (fun w' p1 q1 p2 q2 (k1 : (nR X1 p1 q1).ok w') (k2 : (nR (Rat.divInt 1 2) p2 q2).ok w') => vaddQ (nR X1 p1 q1) (nR (Rat.divInt 1 2) p2 q2) Y1 w' k1 k2 ⟨zX.out.1, zX.out.2, Nat.le_trans sz_half.1 (by omega), Nat.le_trans sz_half.2 (by omega)⟩ (by rw [nR_val, nR_val]; exact eY) zY.out)
  have G6 := hide' (fun w' p1 q1 (k1 : (nR Y1 p1 q1).ok w') => vfloorQ Y1 p1 q1 m G w' k1 zY.out hF)
  have G7 := hide' (fun w' p1 (k1 : Seg w' p1 (am m) (ln (am m))) => vintQ m p1 w' (by omega) k1)
  have G8 := hide' (fun w' p1 q1 p2 q2 (k1 : (nR (m : Rat) p1 q1).ok w') (k2 : (nR X1 p2 q2).ok w') => vsubQ (nR (m : Rat) p1 q1) (nR X1 p2 q2) D1 w' k1 k2 ⟨by show ln (am m) ≤ _; omega, by show ln 1 ≤ _; rw [ln_one]; omega, zX.out.1, zX.out.2⟩ (by rw [nR_val, nR_val]; exact eD) zD.out)
  have G9 := hide' (fun w' p1 q1 (k1 : (nR D1 p1 q1).ok w') => vnormQ (nR D1 p1 q1) D1 w' k1 (nR_val _ _ _) zD.out)
  have GA := hide' (fun w' q1 q2 (k1 : Seg w' q1 D1.den (ln D1.den)) (k2 : Seg w' q2 2 1) => rSame_any q1 q2 (ln D1.den) (ln D1.den) D1.den 1 1 2 w' (by have := zD.out.2; omega) (by omega) k1 k2)
  have GB := hide' (fun w' p1 (k1 : Seg w' p1 (am m) (ln (am m))) (b : Bool) hb => rBit0 p1 (ln (am m)) (ln (am m)) (am m) w' (by omega) k1 b hb)
  have lM : ln (am M) ≤ 2097600 := by
    have h0 : am M ≤ am m + 1 := by rcases hcase with h | h | h <;> (unfold am; omega)
    exact Nat.le_trans (ln_succ (n := ln (am m)) h0 (ln_lt _) (by omega)) (by omega)
  have us := hu.size_le (by omega) (ln_lt (am M))
  have GE := hide' (fun w' p1 k1 => vdigits_is p1 (ln (am M)) (ln (am M)) (am M) u w' (by omega) k1 hu)
  have GS := hide' (fun w' p1 k1 => vSign_is (ng M) p1 (ln (am M)) (ln (am M)) (am M) M w' (by omega) k1 (sg_na M))
  have us2 : u.size ≤ 67123300 := by omega
  clear us lM
  replace lm := hide' lm
  replace hcase := hide' hcase
  replace hu := hide' hu
  replace lp := hide' lp
  replace hn := hide' hn
  have i1 : ¬ ((p : Int) < 0) := by omega
  have i2 : ¬ ((1000 : Int) < (p : Int)) := by omega
  clear eX hx1 eY yA yT yX yY hF eD yD hQ hM
  have bel : Below w.heap.size w w := Below.refl _ _
  have bb := below_alloc (w := w) (.cells #[.bool A.s, .slice A.a A.n A.c, .slice A.b A.m A.e] 27)
  replace hA := hA.on bb
  replace bel := bel.trans (bb.mono bel.size)
  clear bb
  have qP := Blk.new w #[.bool A.s, .slice A.a A.n A.c, .slice A.b A.m A.e] 27
  have bb := below_alloc (w := (w.alloc (.cells #[.bool A.s, .slice A.a A.n A.c, .slice A.b A.m A.e] 27))) (.cells #[.int .u32 1] 38)
  replace qP := qP.later bb
  replace hA := hA.on bb
  replace bel := bel.trans (bb.mono bel.size)
  clear bb
  have q6 := Blk.new (w.alloc (.cells #[.bool A.s, .slice A.a A.n A.c, .slice A.b A.m A.e] 27)) #[.int .u32 1] 38
  simp only [World.size_alloc] at q6
  go_enter Tryz.func7, Tryz.ntmps7
  go_wp2_with fail
  obtain ⟨W0, hW⟩ : ∃ W, ((w.alloc (.cells #[.bool A.s, .slice A.a A.n A.c, .slice A.b A.m A.e] 27)).alloc (.cells #[.int .u32 1] 38)) = W := ⟨_, rfl⟩
  rw [hW] at bel qP q6 hA ⊢
  clear hW
  have k6 := q6.seg1 (X := 1) (by omega) rfl
  clear q6
  go_loopw [7, 6] (fun i v wr => ∃ (k : Nat) (a : Option Addr), k ≤ p ∧ i = .int .i64 k ∧ v = .slice a (ln (10 ^ k)) (ln (10 ^ k)) ∧ Seg wr a (10 ^ k) (ln (10 ^ k)) ∧ Blk wr w.heap.size #[.bool A.s, .slice A.a A.n A.c, .slice A.b A.m A.e] 27 ∧ A.ok wr ∧ Below w.heap.size w wr) (fun i _ _ => p - (intOf i).toNat)
  case atStart => exact ⟨0, _, Nat.zero_le _, rfl, by rw [Nat.pow_zero, ln_one], by rw [Nat.pow_zero, ln_one]; exact k6, qP, hA, bel⟩
  case round =>
    clear k6 qP hA bel
    obtain ⟨k, a, hk, rfl, rfl, k6, qP, hA, bel⟩ := hrel
    by_cases hlt : k < p
    · have hki : ((k : Int) < (p : Int)) := by omega
      go_wp2_with fail
      have n7 := single_new wr 10 38 10 (by omega) rfl
      have k7 := n7.seg
      have bb := n7.below
      clear n7
      replace qP := qP.later bb
      replace k6 := k6.later bb
      replace hA := hA.on bb
      replace bel := bel.trans (bb.mono bel.size)
      clear bb
      refine (G0.out _ k a _ k6 k7 hlt).mono ?_
      rintro e w2 ⟨a2, rfl, n2⟩
      have bb := n2.below
      replace qP := qP.later bb
      replace k6 := k6.later bb
      replace hA := hA.on bb
      replace bel := bel.trans (bb.mono bel.size)
      clear bb
      have k8 := n2.seg
      clear n2 k6 k7
      go_wp2
      go_roundw
      case rel => exact ⟨k + 1, a2, by omega, by go_num, rfl, k8, qP, hA, bel⟩
      case measure => simp [intOf]; omega
    · obtain rfl : k = p := by omega
      clear hlt hk
      have hki : ¬ ((k : Int) < (k : Int)) := by omega
      go_wp2_with fail
      have hbs := bel.size
      have bT : Below wr.heap.size wr wr := Below.refl _ _
      go_cut [8] from 27 to 32 (fun s8_ wx => ∃ wh9 c8 p8 q8, wh9 = wx ∧ s8_ = .pointer (some ⟨c8, 0, none⟩) ∧ wr.heap.size ≤ c8 ∧ Blk wx c8 #[.bool (ng X1.num), .slice p8 (ln (am X1.num)) (ln (am X1.num)), .slice q8 (ln X1.den) (ln X1.den)] 27 ∧ (nR X1 p8 q8).ok wx ∧ Below wr.heap.size wr wx)
      case first =>
        have qP_0 := qP.cell 0
        have qP_1 := qP.cell 1
        have qP_2 := qP.cell 2
        simp only [List.getElem?_toArray, List.getElem?_cons_zero, List.getElem?_cons_succ] at qP_0 qP_1 qP_2
        have bD : Below wr.heap.size wr wr.drew := (Below.refl _ _).drew
        have kqP_0 := below_cell bD qP_0
        have kqP_1 := below_cell bD qP_1
        have kqP_2 := below_cell bD qP_2
        replace hA := hA.on bD
        replace bT := bT.trans (bD.mono bT.size)
        replace qP := qP.later bD
        replace k6 := k6.later bD
        refine wp_region_held_drew (S := fun w' => w'.cell? ⟨w.heap.size, 0, none⟩ = some (.bool A.s) ∧ w'.cell? ⟨w.heap.size, 1, none⟩ = some (.slice A.a A.n A.c) ∧ w'.cell? ⟨w.heap.size, 2, none⟩ = some (.slice A.b A.m A.e)) (by kernel_rfl) ⟨kqP_0, kqP_1, kqP_2⟩ (fun hHeld => ?_)
        clear kqP_0 kqP_1 kqP_2
        generalize wr.drew = wF0 at bD hA qP k6 bT hHeld ⊢
        clear bD qP_0 qP_1 qP_2
        refine tkb 0 (v := ?_) rfl (Or.inl ⟨by rfl, ?_⟩) ?_
        rotate_left
        · intro w9 hSw
          go_simp
          first | done | with_reducible rfl
        simp only [bP, bN, bS, bZ, bC]
        refine tkb 1 (v := ?_) rfl (Or.inl ⟨by rfl, ?_⟩) ?_
        rotate_left
        · intro w9 hSw
          go_simp
          first | done | with_reducible rfl
        simp only [bP, bN, bS, bZ, bC]
        refine wpAnyH_ready (rs := [2, 5]) (by kernel_rfl) (by simp) ?_
        refine consT rfl (fun KK hKK => ?_) ?_
        · skip
          go_simp
          refine (positive_is a (ln (10 ^ k)) (ln (10 ^ k)) _).mono ?_
          rintro e w1 ⟨rfl, b2⟩
          have bC := b2
          replace hA := hA.on bC
          replace bT := bT.trans (bC.mono bT.size)
          replace qP := qP.later bC
          replace k6 := k6.later bC
          replace hHeld := hc3 bC hHeld
          clear bC
          go_wp2_with fail
          clear b2
          refine hKK.out _ _ hHeld ?_
          clear hHeld
          intro hHeld
          clear hKK KK
          try simp only [bP, bN, bS, bZ, bC]
          refine wpAnyH_ready (rs := [3, 5]) (by kernel_rfl) (by simp) ?_
          refine consT rfl (fun KK hKK => ?_) ?_
          · skip
            go_simp
            refine (G2.out _ a k6).mono ?_
            rintro e w2 ⟨p3, q3, rfl, b3, ok3⟩
            have bC := b3
            replace hA := hA.on bC
            replace bT := bT.trans (bC.mono bT.size)
            replace qP := qP.later bC
            replace k6 := k6.later bC
            replace hHeld := hc3 bC hHeld
            clear bC
            go_wp2_with fail
            clear b3
            refine hKK.out _ _ hHeld ?_
            clear hHeld
            intro hHeld
            clear hKK KK
            try simp only [bP, bN, bS, bZ, bC]
            refine wpAnyH_ready (rs := [4, 5]) (by kernel_rfl) (by simp) ?_
            refine consT rfl (fun KK hKK => ?_) ?_
            · skip
              go_simp
              refine (G3.out _ p3 q3 hA ok3).mono ?_
              rintro e w3 ⟨p4, q4, rfl, b4, ok4⟩
              have bC := b4
              replace hA := hA.on bC
              replace ok3 := ok3.on bC
              replace bT := bT.trans (bC.mono bT.size)
              replace qP := qP.later bC
              replace k6 := k6.later bC
              replace hHeld := hc3 bC hHeld
              clear bC
              go_wp2_with fail
              clear b4
              refine hKK.out _ _ hHeld ?_
              clear hHeld
              intro hHeld
              clear hKK KK
              try simp only [bP, bN, bS, bZ, bC]
              refine wpAnyH_ready (rs := [5]) (by kernel_rfl) (by simp) ?_
              refine cons' rfl (fun KK hKK => ?_)
              go_simp
              have q8 := Blk.new w3 #[.bool false, .slice none 0 0, .slice none 0 0] 27
              have bA := below_alloc (w := w3) (.cells #[.bool false, .slice none 0 0, .slice none 0 0] 27)
              have hq8ge := bT.size
              have hq8qP := qP.lt
              have hq8c0 := cell_ltB hHeld.1
              have hq8c1 := cell_ltB hHeld.2.1
              have hq8c2 := cell_ltB hHeld.2.2
              generalize w3.alloc (.cells #[.bool false, .slice none 0 0, .slice none 0 0] 27) = w4 at q8 bA ⊢
              replace hA := hA.on bA
              replace ok3 := ok3.on bA
              replace ok4 := ok4.on bA
              replace bT := bT.trans (bA.mono bT.size)
              replace qP := qP.later bA
              replace k6 := k6.later bA
              replace hHeld := hc3 bA hHeld
              clear bA
              refine hKK.out _ _ hHeld ?_
              clear hHeld
              intro hHeld
              clear hKK KK
              try simp only [bP, bN, bS, bZ, bC]
              obtain ⟨cq8, hcc⟩ : ∃ cc, w3.heap.size = cc := ⟨_, rfl⟩
              rw [hcc] at q8 hq8ge hq8qP hq8c0 hq8c1 hq8c2
              try rw [hcc]
              clear hcc
              refine wpAnyH_ready (rs := [6]) (by kernel_rfl) (by simp) ?_
              refine cons' rfl (fun KK hKK => ?_)
              have z0 := q8.cell 0
              have z1 := q8.cell 1
              have z2 := q8.cell 2
              simp only [List.getElem?_toArray, List.getElem?_cons_zero, List.getElem?_cons_succ] at z0 z1 z2
              have fz := fun o => q8.frozen o
              obtain ⟨c9, q9⟩ := q8.set3 (.bool (ng X1.num)) (.slice p4 (ln (am X1.num)) (ln (am X1.num))) (.slice q4 (ln X1.den) (ln X1.den))
              have hno := q8.no (by simp)
              replace qP := qP.ch c9 (by omega)
              replace k6 := k6.ch c9 hno
              replace hA := hA.ch c9 hno
              replace ok3 := ok3.ch c9 hno
              replace ok4 := ok4.ch c9 hno
              replace bT := bT.trans (c9.below (by omega))
              have hH2 := (⟨(World.cell?_of_block (w := w4) (a := ⟨w.heap.size, 0, none⟩) (c9.other (w.heap.size) (by omega))).trans hHeld.1, (World.cell?_of_block (w := w4) (a := ⟨w.heap.size, 1, none⟩) (c9.other (w.heap.size) (by omega))).trans hHeld.2.1, (World.cell?_of_block (w := w4) (a := ⟨w.heap.size, 2, none⟩) (c9.other (w.heap.size) (by omega))).trans hHeld.2.2⟩ : _ ∧ _ ∧ _)
              go_simp
              clear z0 z1 z2 fz hno c9
              replace q8 := q9
              refine hKK.out _ _ hH2 ?_
              clear hHeld
              intro hHeld
              clear hKK KK
              try simp only [bP, bN, bS, bZ, bC]
              clear hH2
              generalize (((w4.setCell ⟨cq8, 0, none⟩ (.bool (ng X1.num))).setCell ⟨cq8, 1, none⟩ (.slice p4 (ln (am X1.num)) (ln (am X1.num)))).setCell ⟨cq8, 2, none⟩ (.slice q4 (ln X1.den) (ln X1.den))) = w5 at bT qP k6 q8 hA ok3 ok4 hHeld ⊢
              refine wpAnyH_done (by kernel_rfl) ?_ _
              go_wp2_with fail
              go_meet
              exact ⟨_, _, p4, q4, rfl, rfl, hq8ge, q8, ok4, bT⟩
            refine consT rfl (fun KK hKK => ?_) ?_
            · skip
              go_simp
              have q8 := Blk.new w2 #[.bool false, .slice none 0 0, .slice none 0 0] 27
              have bA := below_alloc (w := w2) (.cells #[.bool false, .slice none 0 0, .slice none 0 0] 27)
              have hq8ge := bT.size
              have hq8qP := qP.lt
              have hq8c0 := cell_ltB hHeld.1
              have hq8c1 := cell_ltB hHeld.2.1
              have hq8c2 := cell_ltB hHeld.2.2
              generalize w2.alloc (.cells #[.bool false, .slice none 0 0, .slice none 0 0] 27) = w6 at q8 bA ⊢
              replace hA := hA.on bA
              replace ok3 := ok3.on bA
              replace bT := bT.trans (bA.mono bT.size)
              replace qP := qP.later bA
              replace k6 := k6.later bA
              replace hHeld := hc3 bA hHeld
              clear bA
              refine hKK.out _ _ hHeld ?_
              clear hHeld
              intro hHeld
              clear hKK KK
              try simp only [bP, bN, bS, bZ, bC]
              obtain ⟨cq8, hcc⟩ : ∃ cc, w2.heap.size = cc := ⟨_, rfl⟩
              rw [hcc] at q8 hq8ge hq8qP hq8c0 hq8c1 hq8c2
              try rw [hcc]
              clear hcc
              refine wpAnyH_ready (rs := [4]) (by kernel_rfl) (by simp) ?_
              refine cons' rfl (fun KK hKK => ?_)
              go_simp
              refine (G3.out _ p3 q3 hA ok3).mono ?_
              rintro e w7 ⟨p4, q4, rfl, b4, ok4⟩
              have bC := b4
              replace hA := hA.on bC
              replace ok3 := ok3.on bC
              replace bT := bT.trans (bC.mono bT.size)
              replace qP := qP.later bC
              replace k6 := k6.later bC
              replace q8 := q8.later bC
              replace hHeld := hc3 bC hHeld
              clear bC
              go_wp2_with fail
              clear b4
              refine hKK.out _ _ hHeld ?_
              clear hHeld
              intro hHeld
              clear hKK KK
              try simp only [bP, bN, bS, bZ, bC]
              refine wpAnyH_ready (rs := [6]) (by kernel_rfl) (by simp) ?_
              refine cons' rfl (fun KK hKK => ?_)
              have z0 := q8.cell 0
              have z1 := q8.cell 1
              have z2 := q8.cell 2
              simp only [List.getElem?_toArray, List.getElem?_cons_zero, List.getElem?_cons_succ] at z0 z1 z2
              have fz := fun o => q8.frozen o
              obtain ⟨c9, q9⟩ := q8.set3 (.bool (ng X1.num)) (.slice p4 (ln (am X1.num)) (ln (am X1.num))) (.slice q4 (ln X1.den) (ln X1.den))
              have hno := q8.no (by simp)
              replace qP := qP.ch c9 (by omega)
              replace k6 := k6.ch c9 hno
              replace hA := hA.ch c9 hno
              replace ok3 := ok3.ch c9 hno
              replace ok4 := ok4.ch c9 hno
              replace bT := bT.trans (c9.below (by omega))
              have hH2 := (⟨(World.cell?_of_block (w := w7) (a := ⟨w.heap.size, 0, none⟩) (c9.other (w.heap.size) (by omega))).trans hHeld.1, (World.cell?_of_block (w := w7) (a := ⟨w.heap.size, 1, none⟩) (c9.other (w.heap.size) (by omega))).trans hHeld.2.1, (World.cell?_of_block (w := w7) (a := ⟨w.heap.size, 2, none⟩) (c9.other (w.heap.size) (by omega))).trans hHeld.2.2⟩ : _ ∧ _ ∧ _)
              go_simp
              clear z0 z1 z2 fz hno c9
              replace q8 := q9
              refine hKK.out _ _ hH2 ?_
              clear hHeld
              intro hHeld
              clear hKK KK
              try simp only [bP, bN, bS, bZ, bC]
              clear hH2
              generalize (((w7.setCell ⟨cq8, 0, none⟩ (.bool (ng X1.num))).setCell ⟨cq8, 1, none⟩ (.slice p4 (ln (am X1.num)) (ln (am X1.num)))).setCell ⟨cq8, 2, none⟩ (.slice q4 (ln X1.den) (ln X1.den))) = w8 at bT qP k6 q8 hA ok3 ok4 hHeld ⊢
              refine wpAnyH_done (by kernel_rfl) ?_ _
              go_wp2_with fail
              go_meet
              exact ⟨_, _, p4, q4, rfl, rfl, hq8ge, q8, ok4, bT⟩
            exact AllReadyH.nil
          refine consT rfl (fun KK hKK => ?_) ?_
          · skip
            go_simp
            have q8 := Blk.new w1 #[.bool false, .slice none 0 0, .slice none 0 0] 27
            have bA := below_alloc (w := w1) (.cells #[.bool false, .slice none 0 0, .slice none 0 0] 27)
            have hq8ge := bT.size
            have hq8qP := qP.lt
            have hq8c0 := cell_ltB hHeld.1
            have hq8c1 := cell_ltB hHeld.2.1
            have hq8c2 := cell_ltB hHeld.2.2
            generalize w1.alloc (.cells #[.bool false, .slice none 0 0, .slice none 0 0] 27) = w9 at q8 bA ⊢
            replace hA := hA.on bA
            replace bT := bT.trans (bA.mono bT.size)
            replace qP := qP.later bA
            replace k6 := k6.later bA
            replace hHeld := hc3 bA hHeld
            clear bA
            refine hKK.out _ _ hHeld ?_
            clear hHeld
            intro hHeld
            clear hKK KK
            try simp only [bP, bN, bS, bZ, bC]
            obtain ⟨cq8, hcc⟩ : ∃ cc, w1.heap.size = cc := ⟨_, rfl⟩
            rw [hcc] at q8 hq8ge hq8qP hq8c0 hq8c1 hq8c2
            try rw [hcc]
            clear hcc
            refine wpAnyH_ready (rs := [3]) (by kernel_rfl) (by simp) ?_
            refine cons' rfl (fun KK hKK => ?_)
            go_simp
            refine (G2.out _ a k6).mono ?_
            rintro e w10 ⟨p3, q3, rfl, b3, ok3⟩
            have bC := b3
            replace hA := hA.on bC
            replace bT := bT.trans (bC.mono bT.size)
            replace qP := qP.later bC
            replace k6 := k6.later bC
            replace q8 := q8.later bC
            replace hHeld := hc3 bC hHeld
            clear bC
            go_wp2_with fail
            clear b3
            refine hKK.out _ _ hHeld ?_
            clear hHeld
            intro hHeld
            clear hKK KK
            try simp only [bP, bN, bS, bZ, bC]
            refine wpAnyH_ready (rs := [4]) (by kernel_rfl) (by simp) ?_
            refine cons' rfl (fun KK hKK => ?_)
            go_simp
            refine (G3.out _ p3 q3 hA ok3).mono ?_
            rintro e w11 ⟨p4, q4, rfl, b4, ok4⟩
            have bC := b4
            replace hA := hA.on bC
            replace ok3 := ok3.on bC
            replace bT := bT.trans (bC.mono bT.size)
            replace qP := qP.later bC
            replace k6 := k6.later bC
            replace q8 := q8.later bC
            replace hHeld := hc3 bC hHeld
            clear bC
            go_wp2_with fail
            clear b4
            refine hKK.out _ _ hHeld ?_
            clear hHeld
            intro hHeld
            clear hKK KK
            try simp only [bP, bN, bS, bZ, bC]
            refine wpAnyH_ready (rs := [6]) (by kernel_rfl) (by simp) ?_
            refine cons' rfl (fun KK hKK => ?_)
            have z0 := q8.cell 0
            have z1 := q8.cell 1
            have z2 := q8.cell 2
            simp only [List.getElem?_toArray, List.getElem?_cons_zero, List.getElem?_cons_succ] at z0 z1 z2
            have fz := fun o => q8.frozen o
            obtain ⟨c9, q9⟩ := q8.set3 (.bool (ng X1.num)) (.slice p4 (ln (am X1.num)) (ln (am X1.num))) (.slice q4 (ln X1.den) (ln X1.den))
            have hno := q8.no (by simp)
            replace qP := qP.ch c9 (by omega)
            replace k6 := k6.ch c9 hno
            replace hA := hA.ch c9 hno
            replace ok3 := ok3.ch c9 hno
            replace ok4 := ok4.ch c9 hno
            replace bT := bT.trans (c9.below (by omega))
            have hH2 := (⟨(World.cell?_of_block (w := w11) (a := ⟨w.heap.size, 0, none⟩) (c9.other (w.heap.size) (by omega))).trans hHeld.1, (World.cell?_of_block (w := w11) (a := ⟨w.heap.size, 1, none⟩) (c9.other (w.heap.size) (by omega))).trans hHeld.2.1, (World.cell?_of_block (w := w11) (a := ⟨w.heap.size, 2, none⟩) (c9.other (w.heap.size) (by omega))).trans hHeld.2.2⟩ : _ ∧ _ ∧ _)
            go_simp
            clear z0 z1 z2 fz hno c9
            replace q8 := q9
            refine hKK.out _ _ hH2 ?_
            clear hHeld
            intro hHeld
            clear hKK KK
            try simp only [bP, bN, bS, bZ, bC]
            clear hH2
            generalize (((w11.setCell ⟨cq8, 0, none⟩ (.bool (ng X1.num))).setCell ⟨cq8, 1, none⟩ (.slice p4 (ln (am X1.num)) (ln (am X1.num)))).setCell ⟨cq8, 2, none⟩ (.slice q4 (ln X1.den) (ln X1.den))) = w12 at bT qP k6 q8 hA ok3 ok4 hHeld ⊢
            refine wpAnyH_done (by kernel_rfl) ?_ _
            go_wp2_with fail
            go_meet
            exact ⟨_, _, p4, q4, rfl, rfl, hq8ge, q8, ok4, bT⟩
          exact AllReadyH.nil
        refine consT rfl (fun KK hKK => ?_) ?_
        · skip
          go_simp
          have q8 := Blk.new wF0 #[.bool false, .slice none 0 0, .slice none 0 0] 27
          have bA := below_alloc (w := wF0) (.cells #[.bool false, .slice none 0 0, .slice none 0 0] 27)
          have hq8ge := bT.size
          have hq8qP := qP.lt
          have hq8c0 := cell_ltB hHeld.1
          have hq8c1 := cell_ltB hHeld.2.1
          have hq8c2 := cell_ltB hHeld.2.2
          generalize wF0.alloc (.cells #[.bool false, .slice none 0 0, .slice none 0 0] 27) = w13 at q8 bA ⊢
          replace hA := hA.on bA
          replace bT := bT.trans (bA.mono bT.size)
          replace qP := qP.later bA
          replace k6 := k6.later bA
          replace hHeld := hc3 bA hHeld
          clear bA
          refine hKK.out _ _ hHeld ?_
          clear hHeld
          intro hHeld
          clear hKK KK
          try simp only [bP, bN, bS, bZ, bC]
          obtain ⟨cq8, hcc⟩ : ∃ cc, wF0.heap.size = cc := ⟨_, rfl⟩
          rw [hcc] at q8 hq8ge hq8qP hq8c0 hq8c1 hq8c2
          try rw [hcc]
          clear hcc
          refine wpAnyH_ready (rs := [2]) (by kernel_rfl) (by simp) ?_
          refine cons' rfl (fun KK hKK => ?_)
          go_simp
          refine (positive_is a (ln (10 ^ k)) (ln (10 ^ k)) _).mono ?_
          rintro e w14 ⟨rfl, b2⟩
          have bC := b2
          replace hA := hA.on bC
          replace bT := bT.trans (bC.mono bT.size)
          replace qP := qP.later bC
          replace k6 := k6.later bC
          replace q8 := q8.later bC
          replace hHeld := hc3 bC hHeld
          clear bC
          go_wp2_with fail
          clear b2
          refine hKK.out _ _ hHeld ?_
          clear hHeld
          intro hHeld
          clear hKK KK
          try simp only [bP, bN, bS, bZ, bC]
          refine wpAnyH_ready (rs := [3]) (by kernel_rfl) (by simp) ?_
          refine cons' rfl (fun KK hKK => ?_)
          go_simp
          refine (G2.out _ a k6).mono ?_
          rintro e w15 ⟨p3, q3, rfl, b3, ok3⟩
          have bC := b3
          replace hA := hA.on bC
          replace bT := bT.trans (bC.mono bT.size)
          replace qP := qP.later bC
          replace k6 := k6.later bC
          replace q8 := q8.later bC
          replace hHeld := hc3 bC hHeld
          clear bC
          go_wp2_with fail
          clear b3
          refine hKK.out _ _ hHeld ?_
          clear hHeld
          intro hHeld
          clear hKK KK
          try simp only [bP, bN, bS, bZ, bC]
          refine wpAnyH_ready (rs := [4]) (by kernel_rfl) (by simp) ?_
          refine cons' rfl (fun KK hKK => ?_)
          go_simp
          refine (G3.out _ p3 q3 hA ok3).mono ?_
          rintro e w16 ⟨p4, q4, rfl, b4, ok4⟩
          have bC := b4
          replace hA := hA.on bC
          replace ok3 := ok3.on bC
          replace bT := bT.trans (bC.mono bT.size)
          replace qP := qP.later bC
          replace k6 := k6.later bC
          replace q8 := q8.later bC
          replace hHeld := hc3 bC hHeld
          clear bC
          go_wp2_with fail
          clear b4
          refine hKK.out _ _ hHeld ?_
          clear hHeld
          intro hHeld
          clear hKK KK
          try simp only [bP, bN, bS, bZ, bC]
          refine wpAnyH_ready (rs := [6]) (by kernel_rfl) (by simp) ?_
          refine cons' rfl (fun KK hKK => ?_)
          have z0 := q8.cell 0
          have z1 := q8.cell 1
          have z2 := q8.cell 2
          simp only [List.getElem?_toArray, List.getElem?_cons_zero, List.getElem?_cons_succ] at z0 z1 z2
          have fz := fun o => q8.frozen o
          obtain ⟨c9, q9⟩ := q8.set3 (.bool (ng X1.num)) (.slice p4 (ln (am X1.num)) (ln (am X1.num))) (.slice q4 (ln X1.den) (ln X1.den))
          have hno := q8.no (by simp)
          replace qP := qP.ch c9 (by omega)
          replace k6 := k6.ch c9 hno
          replace hA := hA.ch c9 hno
          replace ok3 := ok3.ch c9 hno
          replace ok4 := ok4.ch c9 hno
          replace bT := bT.trans (c9.below (by omega))
          have hH2 := (⟨(World.cell?_of_block (w := w16) (a := ⟨w.heap.size, 0, none⟩) (c9.other (w.heap.size) (by omega))).trans hHeld.1, (World.cell?_of_block (w := w16) (a := ⟨w.heap.size, 1, none⟩) (c9.other (w.heap.size) (by omega))).trans hHeld.2.1, (World.cell?_of_block (w := w16) (a := ⟨w.heap.size, 2, none⟩) (c9.other (w.heap.size) (by omega))).trans hHeld.2.2⟩ : _ ∧ _ ∧ _)
          go_simp
          clear z0 z1 z2 fz hno c9
          replace q8 := q9
          refine hKK.out _ _ hH2 ?_
          clear hHeld
          intro hHeld
          clear hKK KK
          try simp only [bP, bN, bS, bZ, bC]
          clear hH2
          generalize (((w16.setCell ⟨cq8, 0, none⟩ (.bool (ng X1.num))).setCell ⟨cq8, 1, none⟩ (.slice p4 (ln (am X1.num)) (ln (am X1.num)))).setCell ⟨cq8, 2, none⟩ (.slice q4 (ln X1.den) (ln X1.den))) = w17 at bT qP k6 q8 hA ok3 ok4 hHeld ⊢
          refine wpAnyH_done (by kernel_rfl) ?_ _
          go_wp2_with fail
          go_meet
          exact ⟨_, _, p4, q4, rfl, rfl, hq8ge, q8, ok4, bT⟩
        exact AllReadyH.nil
      case rest =>
        obtain ⟨wc18, c8, p8, q8, hwv, rfl, hge8, qx, ok8, bT⟩ := hcut
        subst hwv
        replace qP := qP.later bT
        replace k6 := k6.later bT
        replace hA := hA.on bT
        replace bel := bel.trans (bT.mono bel.size)
        clear bT
        clear qP hA k6
        go_wp2_with fail
        have hbs := bel.size
        have bT : Below wc18.heap.size wc18 wc18 := Below.refl _ _
        go_cut [9] from 32 to 40 (fun s9_ wx => ∃ wh9 cm p9, wh9 = wx ∧ s9_ = .pointer (some ⟨cm, 0, none⟩) ∧ wc18.heap.size ≤ cm ∧ Blk wx cm #[.bool (ng m), .slice p9 (ln (am m)) (ln (am m))] 25 ∧ Seg wx p9 (am m) (ln (am m)) ∧ Below wc18.heap.size wc18 wx)
        case first =>
          have qx_0 := qx.cell 0
          have qx_1 := qx.cell 1
          have qx_2 := qx.cell 2
          simp only [List.getElem?_toArray, List.getElem?_cons_zero, List.getElem?_cons_succ] at qx_0 qx_1 qx_2
          have bD : Below wc18.heap.size wc18 wc18.drew := (Below.refl _ _).drew
          have kqx_0 := below_cell bD qx_0
          have kqx_1 := below_cell bD qx_1
          have kqx_2 := below_cell bD qx_2
          replace ok8 := ok8.on bD
          replace bT := bT.trans (bD.mono bT.size)
          replace qx := qx.later bD
          refine wp_region_held_drew (S := fun w' => w'.cell? ⟨c8, 0, none⟩ = some (.bool (ng X1.num)) ∧ w'.cell? ⟨c8, 1, none⟩ = some (.slice p8 (ln (am X1.num)) (ln (am X1.num))) ∧ w'.cell? ⟨c8, 2, none⟩ = some (.slice q8 (ln X1.den) (ln X1.den))) (by kernel_rfl) ⟨kqx_0, kqx_1, kqx_2⟩ (fun hHeld => ?_)
          clear kqx_0 kqx_1 kqx_2
          generalize wc18.drew = wF0 at bD ok8 qx bT hHeld ⊢
          clear bD qx_0 qx_1 qx_2
          refine tkb 0 (v := ?_) rfl (Or.inl ⟨by rfl, ?_⟩) ?_
          rotate_left
          · intro w9 hSw
            go_simp
            first | done | with_reducible rfl
          simp only [bP, bN, bS, bZ, bC]
          refine wpAnyH_ready (rs := [1, 3, 8]) (by kernel_rfl) (by simp) ?_
          refine consT rfl (fun KK hKK => ?_) ?_
          · skip
            go_simp
            have n9 := single_new wF0 1 38 1 (by omega) rfl
            have gpa := n9.seg
            have bA := n9.below
            clear n9
            generalize wF0.alloc (.cells #[.int .u32 1] 38) = w19 at gpa bA ⊢
            replace ok8 := ok8.on bA
            replace bT := bT.trans (bA.mono bT.size)
            replace qx := qx.later bA
            replace hHeld := hc3 bA hHeld
            clear bA
            refine hKK.out _ _ hHeld ?_
            clear hHeld
            intro hHeld
            clear hKK KK
            try simp only [bP, bN, bS, bZ, bC]
            obtain ⟨pa, hcc⟩ : ∃ cc, wF0.heap.size = cc := ⟨_, rfl⟩
            rw [hcc] at gpa
            try rw [hcc]
            clear hcc
            refine wpAnyH_ready (rs := [2, 3, 8]) (by kernel_rfl) (by simp) ?_
            refine consT rfl (fun KK hKK => ?_) ?_
            · skip
              go_simp
              refine (positive_is (some ⟨pa, 0, none⟩) 1 1 _).mono ?_
              rintro e w20 ⟨rfl, b2⟩
              have bC := b2
              replace ok8 := ok8.on bC
              replace bT := bT.trans (bC.mono bT.size)
              replace qx := qx.later bC
              replace gpa := gpa.later bC
              replace hHeld := hc3 bC hHeld
              clear bC
              go_wp2_with fail
              clear b2
              refine hKK.out _ _ hHeld ?_
              clear hHeld
              intro hHeld
              clear hKK KK
              try simp only [bP, bN, bS, bZ, bC]
              refine wpAnyH_ready (rs := [3, 8]) (by kernel_rfl) (by simp) ?_
              refine consT rfl (fun KK hKK => ?_) ?_
              · skip
                go_simp
                have n9 := single_new w20 2 38 2 (by omega) rfl
                have gpb := n9.seg
                have bA := n9.below
                clear n9
                generalize w20.alloc (.cells #[.int .u32 2] 38) = w21 at gpb bA ⊢
                replace ok8 := ok8.on bA
                replace bT := bT.trans (bA.mono bT.size)
                replace qx := qx.later bA
                replace gpa := gpa.later bA
                replace hHeld := hc3 bA hHeld
                clear bA
                refine hKK.out _ _ hHeld ?_
                clear hHeld
                intro hHeld
                clear hKK KK
                try simp only [bP, bN, bS, bZ, bC]
                obtain ⟨pb, hcc⟩ : ∃ cc, w20.heap.size = cc := ⟨_, rfl⟩
                rw [hcc] at gpb
                try rw [hcc]
                clear hcc
                refine tkb 4 (v := ?_) rfl (Or.inl ⟨by rfl, ?_⟩) ?_
                rotate_left
                · intro w9 hSw
                  go_simp
                  first | done | with_reducible rfl
                simp only [bP, bN, bS, bZ, bC]
                refine wpAnyH_ready (rs := [5, 8]) (by kernel_rfl) (by simp) ?_
                refine consT rfl (fun KK hKK => ?_) ?_
                · skip
                  go_simp
                  refine (G4.out _ pa pb gpa gpb).mono ?_
                  rintro e w22 ⟨p5, q5, rfl, b5, ok5⟩
                  have bC := b5
                  replace ok8 := ok8.on bC
                  replace bT := bT.trans (bC.mono bT.size)
                  replace qx := qx.later bC
                  replace gpa := gpa.later bC
                  replace gpb := gpb.later bC
                  replace hHeld := hc3 bC hHeld
                  clear bC
                  go_wp2_with fail
                  clear b5
                  refine hKK.out _ _ hHeld ?_
                  clear hHeld
                  intro hHeld
                  clear hKK KK
                  try simp only [bP, bN, bS, bZ, bC]
                  refine wpAnyH_ready (rs := [6, 8]) (by kernel_rfl) (by simp) ?_
                  refine consT rfl (fun KK hKK => ?_) ?_
                  · skip
                    go_simp
                    refine (G5.out _ p8 q8 p5 q5 ok8 ok5).mono ?_
                    rintro e w23 ⟨p6, q6, rfl, b6, ok6⟩
                    have bC := b6
                    replace ok8 := ok8.on bC
                    replace ok5 := ok5.on bC
                    replace bT := bT.trans (bC.mono bT.size)
                    replace qx := qx.later bC
                    replace gpa := gpa.later bC
                    replace gpb := gpb.later bC
                    replace hHeld := hc3 bC hHeld
                    clear bC
                    go_wp2_with fail
                    clear b6
                    refine hKK.out _ _ hHeld ?_
                    clear hHeld
                    intro hHeld
                    clear hKK KK
                    try simp only [bP, bN, bS, bZ, bC]
                    refine wpAnyH_ready (rs := [7, 8]) (by kernel_rfl) (by simp) ?_
                    refine consT rfl (fun KK hKK => ?_) ?_
                    · skip
                      go_simp
                      refine (G6.out _ p6 q6 ok6).mono ?_
                      rintro e w24 ⟨p7, rfl, n7⟩
                      have bC := n7.below
                      replace ok8 := ok8.on bC
                      replace ok5 := ok5.on bC
                      replace ok6 := ok6.on bC
                      replace bT := bT.trans (bC.mono bT.size)
                      replace qx := qx.later bC
                      replace gpa := gpa.later bC
                      replace gpb := gpb.later bC
                      replace hHeld := hc3 bC hHeld
                      clear bC
                      go_wp2_with fail
                      have k7 := n7.seg
                      clear n7
                      refine hKK.out _ _ hHeld ?_
                      clear hHeld
                      intro hHeld
                      clear hKK KK
                      try simp only [bP, bN, bS, bZ, bC]
                      refine wpAnyH_ready (rs := [8]) (by kernel_rfl) (by simp) ?_
                      refine cons' rfl (fun KK hKK => ?_)
                      go_simp
                      have qm := Blk.new w24 #[.bool false, .slice none 0 0] 25
                      have bA := below_alloc (w := w24) (.cells #[.bool false, .slice none 0 0] 25)
                      have hqmge := bT.size
                      have hqmqx := qx.lt
                      have hqmc0 := cell_ltB hHeld.1
                      have hqmc1 := cell_ltB hHeld.2.1
                      have hqmc2 := cell_ltB hHeld.2.2
                      generalize w24.alloc (.cells #[.bool false, .slice none 0 0] 25) = w25 at qm bA ⊢
                      replace ok8 := ok8.on bA
                      replace ok5 := ok5.on bA
                      replace ok6 := ok6.on bA
                      replace bT := bT.trans (bA.mono bT.size)
                      replace qx := qx.later bA
                      replace gpa := gpa.later bA
                      replace gpb := gpb.later bA
                      replace k7 := k7.later bA
                      replace hHeld := hc3 bA hHeld
                      clear bA
                      refine hKK.out _ _ hHeld ?_
                      clear hHeld
                      intro hHeld
                      clear hKK KK
                      try simp only [bP, bN, bS, bZ, bC]
                      obtain ⟨cqm, hcc⟩ : ∃ cc, w24.heap.size = cc := ⟨_, rfl⟩
                      rw [hcc] at qm hqmge hqmqx hqmc0 hqmc1 hqmc2
                      try rw [hcc]
                      clear hcc
                      refine wpAnyH_ready (rs := [9]) (by kernel_rfl) (by simp) ?_
                      refine cons' rfl (fun KK hKK => ?_)
                      have z0 := qm.cell 0
                      have z1 := qm.cell 1
                      simp only [List.getElem?_toArray, List.getElem?_cons_zero, List.getElem?_cons_succ] at z0 z1
                      have fz := fun o => qm.frozen o
                      obtain ⟨c9, q9⟩ := qm.set2 (.bool (ng m)) (.slice p7 (ln (am m)) (ln (am m)))
                      have hno := qm.no (by simp)
                      replace qx := qx.ch c9 (by omega)
                      replace gpa := gpa.ch c9 hno
                      replace gpb := gpb.ch c9 hno
                      replace k7 := k7.ch c9 hno
                      replace ok8 := ok8.ch c9 hno
                      replace ok5 := ok5.ch c9 hno
                      replace ok6 := ok6.ch c9 hno
                      replace bT := bT.trans (c9.below (by omega))
                      have hH2 := (⟨(World.cell?_of_block (w := w25) (a := ⟨c8, 0, none⟩) (c9.other (c8) (by omega))).trans hHeld.1, (World.cell?_of_block (w := w25) (a := ⟨c8, 1, none⟩) (c9.other (c8) (by omega))).trans hHeld.2.1, (World.cell?_of_block (w := w25) (a := ⟨c8, 2, none⟩) (c9.other (c8) (by omega))).trans hHeld.2.2⟩ : _ ∧ _ ∧ _)
                      go_simp
                      clear z0 z1 fz hno c9
                      replace qm := q9
                      refine hKK.out _ _ hH2 ?_
                      clear hHeld
                      intro hHeld
                      clear hKK KK
                      try simp only [bP, bN, bS, bZ, bC]
                      clear hH2
                      generalize ((w25.setCell ⟨cqm, 0, none⟩ (.bool (ng m))).setCell ⟨cqm, 1, none⟩ (.slice p7 (ln (am m)) (ln (am m)))) = w26 at bT qx gpa gpb k7 qm ok8 ok5 ok6 hHeld ⊢
                      refine wpAnyH_done (by kernel_rfl) ?_ _
                      go_wp2_with fail
                      go_meet
                      exact ⟨_, _, p7, rfl, rfl, hqmge, qm, k7, bT⟩
                    refine consT rfl (fun KK hKK => ?_) ?_
                    · skip
                      go_simp
                      have qm := Blk.new w23 #[.bool false, .slice none 0 0] 25
                      have bA := below_alloc (w := w23) (.cells #[.bool false, .slice none 0 0] 25)
                      have hqmge := bT.size
                      have hqmqx := qx.lt
                      have hqmc0 := cell_ltB hHeld.1
                      have hqmc1 := cell_ltB hHeld.2.1
                      have hqmc2 := cell_ltB hHeld.2.2
                      generalize w23.alloc (.cells #[.bool false, .slice none 0 0] 25) = w27 at qm bA ⊢
                      replace ok8 := ok8.on bA
                      replace ok5 := ok5.on bA
                      replace ok6 := ok6.on bA
                      replace bT := bT.trans (bA.mono bT.size)
                      replace qx := qx.later bA
                      replace gpa := gpa.later bA
                      replace gpb := gpb.later bA
                      replace hHeld := hc3 bA hHeld
                      clear bA
                      refine hKK.out _ _ hHeld ?_
                      clear hHeld
                      intro hHeld
                      clear hKK KK
                      try simp only [bP, bN, bS, bZ, bC]
                      obtain ⟨cqm, hcc⟩ : ∃ cc, w23.heap.size = cc := ⟨_, rfl⟩
                      rw [hcc] at qm hqmge hqmqx hqmc0 hqmc1 hqmc2
                      try rw [hcc]
                      clear hcc
                      refine wpAnyH_ready (rs := [7]) (by kernel_rfl) (by simp) ?_
                      refine cons' rfl (fun KK hKK => ?_)
                      go_simp
                      refine (G6.out _ p6 q6 ok6).mono ?_
                      rintro e w28 ⟨p7, rfl, n7⟩
                      have bC := n7.below
                      replace ok8 := ok8.on bC
                      replace ok5 := ok5.on bC
                      replace ok6 := ok6.on bC
                      replace bT := bT.trans (bC.mono bT.size)
                      replace qx := qx.later bC
                      replace gpa := gpa.later bC
                      replace gpb := gpb.later bC
                      replace qm := qm.later bC
                      replace hHeld := hc3 bC hHeld
                      clear bC
                      go_wp2_with fail
                      have k7 := n7.seg
                      clear n7
                      refine hKK.out _ _ hHeld ?_
                      clear hHeld
                      intro hHeld
                      clear hKK KK
                      try simp only [bP, bN, bS, bZ, bC]
                      refine wpAnyH_ready (rs := [9]) (by kernel_rfl) (by simp) ?_
                      refine cons' rfl (fun KK hKK => ?_)
                      have z0 := qm.cell 0
                      have z1 := qm.cell 1
                      simp only [List.getElem?_toArray, List.getElem?_cons_zero, List.getElem?_cons_succ] at z0 z1
                      have fz := fun o => qm.frozen o
                      obtain ⟨c9, q9⟩ := qm.set2 (.bool (ng m)) (.slice p7 (ln (am m)) (ln (am m)))
                      have hno := qm.no (by simp)
                      replace qx := qx.ch c9 (by omega)
                      replace gpa := gpa.ch c9 hno
                      replace gpb := gpb.ch c9 hno
                      replace k7 := k7.ch c9 hno
                      replace ok8 := ok8.ch c9 hno
                      replace ok5 := ok5.ch c9 hno
                      replace ok6 := ok6.ch c9 hno
                      replace bT := bT.trans (c9.below (by omega))
                      have hH2 := (⟨(World.cell?_of_block (w := w28) (a := ⟨c8, 0, none⟩) (c9.other (c8) (by omega))).trans hHeld.1, (World.cell?_of_block (w := w28) (a := ⟨c8, 1, none⟩) (c9.other (c8) (by omega))).trans hHeld.2.1, (World.cell?_of_block (w := w28) (a := ⟨c8, 2, none⟩) (c9.other (c8) (by omega))).trans hHeld.2.2⟩ : _ ∧ _ ∧ _)
                      go_simp
                      clear z0 z1 fz hno c9
                      replace qm := q9
                      refine hKK.out _ _ hH2 ?_
                      clear hHeld
                      intro hHeld
                      clear hKK KK
                      try simp only [bP, bN, bS, bZ, bC]
                      clear hH2
                      generalize ((w28.setCell ⟨cqm, 0, none⟩ (.bool (ng m))).setCell ⟨cqm, 1, none⟩ (.slice p7 (ln (am m)) (ln (am m)))) = w29 at bT qx gpa gpb qm k7 ok8 ok5 ok6 hHeld ⊢
                      refine wpAnyH_done (by kernel_rfl) ?_ _
                      go_wp2_with fail
                      go_meet
                      exact ⟨_, _, p7, rfl, rfl, hqmge, qm, k7, bT⟩
                    exact AllReadyH.nil
                  refine consT rfl (fun KK hKK => ?_) ?_
                  · skip
                    go_simp
                    have qm := Blk.new w22 #[.bool false, .slice none 0 0] 25
                    have bA := below_alloc (w := w22) (.cells #[.bool false, .slice none 0 0] 25)
                    have hqmge := bT.size
                    have hqmqx := qx.lt
                    have hqmc0 := cell_ltB hHeld.1
                    have hqmc1 := cell_ltB hHeld.2.1
                    have hqmc2 := cell_ltB hHeld.2.2
                    generalize w22.alloc (.cells #[.bool false, .slice none 0 0] 25) = w30 at qm bA ⊢
                    replace ok8 := ok8.on bA
                    replace ok5 := ok5.on bA
                    replace bT := bT.trans (bA.mono bT.size)
                    replace qx := qx.later bA
                    replace gpa := gpa.later bA
                    replace gpb := gpb.later bA
                    replace hHeld := hc3 bA hHeld
                    clear bA
                    refine hKK.out _ _ hHeld ?_
                    clear hHeld
                    intro hHeld
                    clear hKK KK
                    try simp only [bP, bN, bS, bZ, bC]
                    obtain ⟨cqm, hcc⟩ : ∃ cc, w22.heap.size = cc := ⟨_, rfl⟩
                    rw [hcc] at qm hqmge hqmqx hqmc0 hqmc1 hqmc2
                    try rw [hcc]
                    clear hcc
                    refine wpAnyH_ready (rs := [6]) (by kernel_rfl) (by simp) ?_
                    refine cons' rfl (fun KK hKK => ?_)
                    go_simp
                    refine (G5.out _ p8 q8 p5 q5 ok8 ok5).mono ?_
                    rintro e w31 ⟨p6, q6, rfl, b6, ok6⟩
                    have bC := b6
                    replace ok8 := ok8.on bC
                    replace ok5 := ok5.on bC
                    replace bT := bT.trans (bC.mono bT.size)
                    replace qx := qx.later bC
                    replace gpa := gpa.later bC
                    replace gpb := gpb.later bC
                    replace qm := qm.later bC
                    replace hHeld := hc3 bC hHeld
                    clear bC
                    go_wp2_with fail
                    clear b6
                    refine hKK.out _ _ hHeld ?_
                    clear hHeld
                    intro hHeld
                    clear hKK KK
                    try simp only [bP, bN, bS, bZ, bC]
                    refine wpAnyH_ready (rs := [7]) (by kernel_rfl) (by simp) ?_
                    refine cons' rfl (fun KK hKK => ?_)
                    go_simp
                    refine (G6.out _ p6 q6 ok6).mono ?_
                    rintro e w32 ⟨p7, rfl, n7⟩
                    have bC := n7.below
                    replace ok8 := ok8.on bC
                    replace ok5 := ok5.on bC
                    replace ok6 := ok6.on bC
                    replace bT := bT.trans (bC.mono bT.size)
                    replace qx := qx.later bC
                    replace gpa := gpa.later bC
                    replace gpb := gpb.later bC
                    replace qm := qm.later bC
                    replace hHeld := hc3 bC hHeld
                    clear bC
                    go_wp2_with fail
                    have k7 := n7.seg
                    clear n7
                    refine hKK.out _ _ hHeld ?_
                    clear hHeld
                    intro hHeld
                    clear hKK KK
                    try simp only [bP, bN, bS, bZ, bC]
                    refine wpAnyH_ready (rs := [9]) (by kernel_rfl) (by simp) ?_
                    refine cons' rfl (fun KK hKK => ?_)
                    have z0 := qm.cell 0
                    have z1 := qm.cell 1
                    simp only [List.getElem?_toArray, List.getElem?_cons_zero, List.getElem?_cons_succ] at z0 z1
                    have fz := fun o => qm.frozen o
                    obtain ⟨c9, q9⟩ := qm.set2 (.bool (ng m)) (.slice p7 (ln (am m)) (ln (am m)))
                    have hno := qm.no (by simp)
                    replace qx := qx.ch c9 (by omega)
                    replace gpa := gpa.ch c9 hno
                    replace gpb := gpb.ch c9 hno
                    replace k7 := k7.ch c9 hno
                    replace ok8 := ok8.ch c9 hno
                    replace ok5 := ok5.ch c9 hno
                    replace ok6 := ok6.ch c9 hno
                    replace bT := bT.trans (c9.below (by omega))
                    have hH2 := (⟨(World.cell?_of_block (w := w32) (a := ⟨c8, 0, none⟩) (c9.other (c8) (by omega))).trans hHeld.1, (World.cell?_of_block (w := w32) (a := ⟨c8, 1, none⟩) (c9.other (c8) (by omega))).trans hHeld.2.1, (World.cell?_of_block (w := w32) (a := ⟨c8, 2, none⟩) (c9.other (c8) (by omega))).trans hHeld.2.2⟩ : _ ∧ _ ∧ _)
                    go_simp
                    clear z0 z1 fz hno c9
                    replace qm := q9
                    refine hKK.out _ _ hH2 ?_
                    clear hHeld
                    intro hHeld
                    clear hKK KK
                    try simp only [bP, bN, bS, bZ, bC]
                    clear hH2
                    generalize ((w32.setCell ⟨cqm, 0, none⟩ (.bool (ng m))).setCell ⟨cqm, 1, none⟩ (.slice p7 (ln (am m)) (ln (am m)))) = w33 at bT qx gpa gpb qm k7 ok8 ok5 ok6 hHeld ⊢
                    refine wpAnyH_done (by kernel_rfl) ?_ _
                    go_wp2_with fail
                    go_meet
                    exact ⟨_, _, p7, rfl, rfl, hqmge, qm, k7, bT⟩
                  exact AllReadyH.nil
                refine consT rfl (fun KK hKK => ?_) ?_
                · skip
                  go_simp
                  have qm := Blk.new w21 #[.bool false, .slice none 0 0] 25
                  have bA := below_alloc (w := w21) (.cells #[.bool false, .slice none 0 0] 25)
                  have hqmge := bT.size
                  have hqmqx := qx.lt
                  have hqmc0 := cell_ltB hHeld.1
                  have hqmc1 := cell_ltB hHeld.2.1
                  have hqmc2 := cell_ltB hHeld.2.2
                  generalize w21.alloc (.cells #[.bool false, .slice none 0 0] 25) = w34 at qm bA ⊢
                  replace ok8 := ok8.on bA
                  replace bT := bT.trans (bA.mono bT.size)
                  replace qx := qx.later bA
                  replace gpa := gpa.later bA
                  replace gpb := gpb.later bA
                  replace hHeld := hc3 bA hHeld
                  clear bA
                  refine hKK.out _ _ hHeld ?_
                  clear hHeld
                  intro hHeld
                  clear hKK KK
                  try simp only [bP, bN, bS, bZ, bC]
                  obtain ⟨cqm, hcc⟩ : ∃ cc, w21.heap.size = cc := ⟨_, rfl⟩
                  rw [hcc] at qm hqmge hqmqx hqmc0 hqmc1 hqmc2
                  try rw [hcc]
                  clear hcc
                  refine wpAnyH_ready (rs := [5]) (by kernel_rfl) (by simp) ?_
                  refine cons' rfl (fun KK hKK => ?_)
                  go_simp
                  refine (G4.out _ pa pb gpa gpb).mono ?_
                  rintro e w35 ⟨p5, q5, rfl, b5, ok5⟩
                  have bC := b5
                  replace ok8 := ok8.on bC
                  replace bT := bT.trans (bC.mono bT.size)
                  replace qx := qx.later bC
                  replace gpa := gpa.later bC
                  replace gpb := gpb.later bC
                  replace qm := qm.later bC
                  replace hHeld := hc3 bC hHeld
                  clear bC
                  go_wp2_with fail
                  clear b5
                  refine hKK.out _ _ hHeld ?_
                  clear hHeld
                  intro hHeld
                  clear hKK KK
                  try simp only [bP, bN, bS, bZ, bC]
                  refine wpAnyH_ready (rs := [6]) (by kernel_rfl) (by simp) ?_
                  refine cons' rfl (fun KK hKK => ?_)
                  go_simp
                  refine (G5.out _ p8 q8 p5 q5 ok8 ok5).mono ?_
                  rintro e w36 ⟨p6, q6, rfl, b6, ok6⟩
                  have bC := b6
                  replace ok8 := ok8.on bC
                  replace ok5 := ok5.on bC
                  replace bT := bT.trans (bC.mono bT.size)
                  replace qx := qx.later bC
                  replace gpa := gpa.later bC
                  replace gpb := gpb.later bC
                  replace qm := qm.later bC
                  replace hHeld := hc3 bC hHeld
                  clear bC
                  go_wp2_with fail
                  clear b6
                  refine hKK.out _ _ hHeld ?_
                  clear hHeld
                  intro hHeld
                  clear hKK KK
                  try simp only [bP, bN, bS, bZ, bC]
                  refine wpAnyH_ready (rs := [7]) (by kernel_rfl) (by simp) ?_
                  refine cons' rfl (fun KK hKK => ?_)
                  go_simp
                  refine (G6.out _ p6 q6 ok6).mono ?_
                  rintro e w37 ⟨p7, rfl, n7⟩
                  have bC := n7.below
                  replace ok8 := ok8.on bC
                  replace ok5 := ok5.on bC
                  replace ok6 := ok6.on bC
                  replace bT := bT.trans (bC.mono bT.size)
                  replace qx := qx.later bC
                  replace gpa := gpa.later bC
                  replace gpb := gpb.later bC
                  replace qm := qm.later bC
                  replace hHeld := hc3 bC hHeld
                  clear bC
                  go_wp2_with fail
                  have k7 := n7.seg
                  clear n7
                  refine hKK.out _ _ hHeld ?_
                  clear hHeld
                  intro hHeld
                  clear hKK KK
                  try simp only [bP, bN, bS, bZ, bC]
                  refine wpAnyH_ready (rs := [9]) (by kernel_rfl) (by simp) ?_
                  refine cons' rfl (fun KK hKK => ?_)
                  have z0 := qm.cell 0
                  have z1 := qm.cell 1
                  simp only [List.getElem?_toArray, List.getElem?_cons_zero, List.getElem?_cons_succ] at z0 z1
                  have fz := fun o => qm.frozen o
                  obtain ⟨c9, q9⟩ := qm.set2 (.bool (ng m)) (.slice p7 (ln (am m)) (ln (am m)))
                  have hno := qm.no (by simp)
                  replace qx := qx.ch c9 (by omega)
                  replace gpa := gpa.ch c9 hno
                  replace gpb := gpb.ch c9 hno
                  replace k7 := k7.ch c9 hno
                  replace ok8 := ok8.ch c9 hno
                  replace ok5 := ok5.ch c9 hno
                  replace ok6 := ok6.ch c9 hno
                  replace bT := bT.trans (c9.below (by omega))
                  have hH2 := (⟨(World.cell?_of_block (w := w37) (a := ⟨c8, 0, none⟩) (c9.other (c8) (by omega))).trans hHeld.1, (World.cell?_of_block (w := w37) (a := ⟨c8, 1, none⟩) (c9.other (c8) (by omega))).trans hHeld.2.1, (World.cell?_of_block (w := w37) (a := ⟨c8, 2, none⟩) (c9.other (c8) (by omega))).trans hHeld.2.2⟩ : _ ∧ _ ∧ _)
                  go_simp
                  clear z0 z1 fz hno c9
                  replace qm := q9
                  refine hKK.out _ _ hH2 ?_
                  clear hHeld
                  intro hHeld
                  clear hKK KK
                  try simp only [bP, bN, bS, bZ, bC]
                  clear hH2
                  generalize ((w37.setCell ⟨cqm, 0, none⟩ (.bool (ng m))).setCell ⟨cqm, 1, none⟩ (.slice p7 (ln (am m)) (ln (am m)))) = w38 at bT qx gpa gpb qm k7 ok8 ok5 ok6 hHeld ⊢
                  refine wpAnyH_done (by kernel_rfl) ?_ _
                  go_wp2_with fail
                  go_meet
                  exact ⟨_, _, p7, rfl, rfl, hqmge, qm, k7, bT⟩
                exact AllReadyH.nil
              refine consT rfl (fun KK hKK => ?_) ?_
              · skip
                go_simp
                have qm := Blk.new w20 #[.bool false, .slice none 0 0] 25
                have bA := below_alloc (w := w20) (.cells #[.bool false, .slice none 0 0] 25)
                have hqmge := bT.size
                have hqmqx := qx.lt
                have hqmc0 := cell_ltB hHeld.1
                have hqmc1 := cell_ltB hHeld.2.1
                have hqmc2 := cell_ltB hHeld.2.2
                generalize w20.alloc (.cells #[.bool false, .slice none 0 0] 25) = w39 at qm bA ⊢
                replace ok8 := ok8.on bA
                replace bT := bT.trans (bA.mono bT.size)
                replace qx := qx.later bA
                replace gpa := gpa.later bA
                replace hHeld := hc3 bA hHeld
                clear bA
                refine hKK.out _ _ hHeld ?_
                clear hHeld
                intro hHeld
                clear hKK KK
                try simp only [bP, bN, bS, bZ, bC]
                obtain ⟨cqm, hcc⟩ : ∃ cc, w20.heap.size = cc := ⟨_, rfl⟩
                rw [hcc] at qm hqmge hqmqx hqmc0 hqmc1 hqmc2
                try rw [hcc]
                clear hcc
                refine wpAnyH_ready (rs := [3]) (by kernel_rfl) (by simp) ?_
                refine cons' rfl (fun KK hKK => ?_)
                go_simp
                have n9 := single_new w39 2 38 2 (by omega) rfl
                have gpb := n9.seg
                have bA := n9.below
                clear n9
                generalize w39.alloc (.cells #[.int .u32 2] 38) = w40 at gpb bA ⊢
                replace ok8 := ok8.on bA
                replace bT := bT.trans (bA.mono bT.size)
                replace qx := qx.later bA
                replace gpa := gpa.later bA
                replace qm := qm.later bA
                replace hHeld := hc3 bA hHeld
                clear bA
                refine hKK.out _ _ hHeld ?_
                clear hHeld
                intro hHeld
                clear hKK KK
                try simp only [bP, bN, bS, bZ, bC]
                obtain ⟨pb, hcc⟩ : ∃ cc, w39.heap.size = cc := ⟨_, rfl⟩
                rw [hcc] at gpb
                try rw [hcc]
                clear hcc
                refine tkb 4 (v := ?_) rfl (Or.inl ⟨by rfl, ?_⟩) ?_
                rotate_left
                · intro w9 hSw
                  go_simp
                  first | done | with_reducible rfl
                simp only [bP, bN, bS, bZ, bC]
                refine wpAnyH_ready (rs := [5]) (by kernel_rfl) (by simp) ?_
                refine cons' rfl (fun KK hKK => ?_)
                go_simp
                refine (G4.out _ pa pb gpa gpb).mono ?_
                rintro e w41 ⟨p5, q5, rfl, b5, ok5⟩
                have bC := b5
                replace ok8 := ok8.on bC
                replace bT := bT.trans (bC.mono bT.size)
                replace qx := qx.later bC
                replace gpa := gpa.later bC
                replace qm := qm.later bC
                replace gpb := gpb.later bC
                replace hHeld := hc3 bC hHeld
                clear bC
                go_wp2_with fail
                clear b5
                refine hKK.out _ _ hHeld ?_
                clear hHeld
                intro hHeld
                clear hKK KK
                try simp only [bP, bN, bS, bZ, bC]
                refine wpAnyH_ready (rs := [6]) (by kernel_rfl) (by simp) ?_
                refine cons' rfl (fun KK hKK => ?_)
                go_simp
                refine (G5.out _ p8 q8 p5 q5 ok8 ok5).mono ?_
                rintro e w42 ⟨p6, q6, rfl, b6, ok6⟩
                have bC := b6
                replace ok8 := ok8.on bC
                replace ok5 := ok5.on bC
                replace bT := bT.trans (bC.mono bT.size)
                replace qx := qx.later bC
                replace gpa := gpa.later bC
                replace qm := qm.later bC
                replace gpb := gpb.later bC
                replace hHeld := hc3 bC hHeld
                clear bC
                go_wp2_with fail
                clear b6
                refine hKK.out _ _ hHeld ?_
                clear hHeld
                intro hHeld
                clear hKK KK
                try simp only [bP, bN, bS, bZ, bC]
                refine wpAnyH_ready (rs := [7]) (by kernel_rfl) (by simp) ?_
                refine cons' rfl (fun KK hKK => ?_)
                go_simp
                refine (G6.out _ p6 q6 ok6).mono ?_
                rintro e w43 ⟨p7, rfl, n7⟩
                have bC := n7.below
                replace ok8 := ok8.on bC
                replace ok5 := ok5.on bC
                replace ok6 := ok6.on bC
                replace bT := bT.trans (bC.mono bT.size)
                replace qx := qx.later bC
                replace gpa := gpa.later bC
                replace qm := qm.later bC
                replace gpb := gpb.later bC
                replace hHeld := hc3 bC hHeld
                clear bC
                go_wp2_with fail
                have k7 := n7.seg
                clear n7
                refine hKK.out _ _ hHeld ?_
                clear hHeld
                intro hHeld
                clear hKK KK
                try simp only [bP, bN, bS, bZ, bC]
                refine wpAnyH_ready (rs := [9]) (by kernel_rfl) (by simp) ?_
                refine cons' rfl (fun KK hKK => ?_)
                have z0 := qm.cell 0
                have z1 := qm.cell 1
                simp only [List.getElem?_toArray, List.getElem?_cons_zero, List.getElem?_cons_succ] at z0 z1
                have fz := fun o => qm.frozen o
                obtain ⟨c9, q9⟩ := qm.set2 (.bool (ng m)) (.slice p7 (ln (am m)) (ln (am m)))
                have hno := qm.no (by simp)
                replace qx := qx.ch c9 (by omega)
                replace gpa := gpa.ch c9 hno
                replace gpb := gpb.ch c9 hno
                replace k7 := k7.ch c9 hno
                replace ok8 := ok8.ch c9 hno
                replace ok5 := ok5.ch c9 hno
                replace ok6 := ok6.ch c9 hno
                replace bT := bT.trans (c9.below (by omega))
                have hH2 := (⟨(World.cell?_of_block (w := w43) (a := ⟨c8, 0, none⟩) (c9.other (c8) (by omega))).trans hHeld.1, (World.cell?_of_block (w := w43) (a := ⟨c8, 1, none⟩) (c9.other (c8) (by omega))).trans hHeld.2.1, (World.cell?_of_block (w := w43) (a := ⟨c8, 2, none⟩) (c9.other (c8) (by omega))).trans hHeld.2.2⟩ : _ ∧ _ ∧ _)
                go_simp
                clear z0 z1 fz hno c9
                replace qm := q9
                refine hKK.out _ _ hH2 ?_
                clear hHeld
                intro hHeld
                clear hKK KK
                try simp only [bP, bN, bS, bZ, bC]
                clear hH2
                generalize ((w43.setCell ⟨cqm, 0, none⟩ (.bool (ng m))).setCell ⟨cqm, 1, none⟩ (.slice p7 (ln (am m)) (ln (am m)))) = w44 at bT qx gpa qm gpb k7 ok8 ok5 ok6 hHeld ⊢
                refine wpAnyH_done (by kernel_rfl) ?_ _
                go_wp2_with fail
                go_meet
                exact ⟨_, _, p7, rfl, rfl, hqmge, qm, k7, bT⟩
              exact AllReadyH.nil
            refine consT rfl (fun KK hKK => ?_) ?_
            · skip
              go_simp
              have n9 := single_new w19 2 38 2 (by omega) rfl
              have gpb := n9.seg
              have bA := n9.below
              clear n9
              generalize w19.alloc (.cells #[.int .u32 2] 38) = w45 at gpb bA ⊢
              replace ok8 := ok8.on bA
              replace bT := bT.trans (bA.mono bT.size)
              replace qx := qx.later bA
              replace gpa := gpa.later bA
              replace hHeld := hc3 bA hHeld
              clear bA
              refine hKK.out _ _ hHeld ?_
              clear hHeld
              intro hHeld
              clear hKK KK
              try simp only [bP, bN, bS, bZ, bC]
              obtain ⟨pb, hcc⟩ : ∃ cc, w19.heap.size = cc := ⟨_, rfl⟩
              rw [hcc] at gpb
              try rw [hcc]
              clear hcc
              refine wpAnyH_ready (rs := [2, 8]) (by kernel_rfl) (by simp) ?_
              refine consT rfl (fun KK hKK => ?_) ?_
              · skip
                go_simp
                refine (positive_is (some ⟨pa, 0, none⟩) 1 1 _).mono ?_
                rintro e w46 ⟨rfl, b2⟩
                have bC := b2
                replace ok8 := ok8.on bC
                replace bT := bT.trans (bC.mono bT.size)
                replace qx := qx.later bC
                replace gpa := gpa.later bC
                replace gpb := gpb.later bC
                replace hHeld := hc3 bC hHeld
                clear bC
                go_wp2_with fail
                clear b2
                refine hKK.out _ _ hHeld ?_
                clear hHeld
                intro hHeld
                clear hKK KK
                try simp only [bP, bN, bS, bZ, bC]
                refine tkb 4 (v := ?_) rfl (Or.inl ⟨by rfl, ?_⟩) ?_
                rotate_left
                · intro w9 hSw
                  go_simp
                  first | done | with_reducible rfl
                simp only [bP, bN, bS, bZ, bC]
                refine wpAnyH_ready (rs := [5, 8]) (by kernel_rfl) (by simp) ?_
                refine consT rfl (fun KK hKK => ?_) ?_
                · skip
                  go_simp
                  refine (G4.out _ pa pb gpa gpb).mono ?_
                  rintro e w47 ⟨p5, q5, rfl, b5, ok5⟩
                  have bC := b5
                  replace ok8 := ok8.on bC
                  replace bT := bT.trans (bC.mono bT.size)
                  replace qx := qx.later bC
                  replace gpa := gpa.later bC
                  replace gpb := gpb.later bC
                  replace hHeld := hc3 bC hHeld
                  clear bC
                  go_wp2_with fail
                  clear b5
                  refine hKK.out _ _ hHeld ?_
                  clear hHeld
                  intro hHeld
                  clear hKK KK
                  try simp only [bP, bN, bS, bZ, bC]
                  refine wpAnyH_ready (rs := [6, 8]) (by kernel_rfl) (by simp) ?_
                  refine consT rfl (fun KK hKK => ?_) ?_
                  · skip
                    go_simp
                    refine (G5.out _ p8 q8 p5 q5 ok8 ok5).mono ?_
                    rintro e w48 ⟨p6, q6, rfl, b6, ok6⟩
                    have bC := b6
                    replace ok8 := ok8.on bC
                    replace ok5 := ok5.on bC
                    replace bT := bT.trans (bC.mono bT.size)
                    replace qx := qx.later bC
                    replace gpa := gpa.later bC
                    replace gpb := gpb.later bC
                    replace hHeld := hc3 bC hHeld
                    clear bC
                    go_wp2_with fail
                    clear b6
                    refine hKK.out _ _ hHeld ?_
                    clear hHeld
                    intro hHeld
                    clear hKK KK
                    try simp only [bP, bN, bS, bZ, bC]
                    refine wpAnyH_ready (rs := [7, 8]) (by kernel_rfl) (by simp) ?_
                    refine consT rfl (fun KK hKK => ?_) ?_
                    · skip
                      go_simp
                      refine (G6.out _ p6 q6 ok6).mono ?_
                      rintro e w49 ⟨p7, rfl, n7⟩
                      have bC := n7.below
                      replace ok8 := ok8.on bC
                      replace ok5 := ok5.on bC
                      replace ok6 := ok6.on bC
                      replace bT := bT.trans (bC.mono bT.size)
                      replace qx := qx.later bC
                      replace gpa := gpa.later bC
                      replace gpb := gpb.later bC
                      replace hHeld := hc3 bC hHeld
                      clear bC
                      go_wp2_with fail
                      have k7 := n7.seg
                      clear n7
                      refine hKK.out _ _ hHeld ?_
                      clear hHeld
                      intro hHeld
                      clear hKK KK
                      try simp only [bP, bN, bS, bZ, bC]
                      refine wpAnyH_ready (rs := [8]) (by kernel_rfl) (by simp) ?_
                      refine cons' rfl (fun KK hKK => ?_)
                      go_simp
                      have qm := Blk.new w49 #[.bool false, .slice none 0 0] 25
                      have bA := below_alloc (w := w49) (.cells #[.bool false, .slice none 0 0] 25)
                      have hqmge := bT.size
                      have hqmqx := qx.lt
                      have hqmc0 := cell_ltB hHeld.1
                      have hqmc1 := cell_ltB hHeld.2.1
                      have hqmc2 := cell_ltB hHeld.2.2
                      generalize w49.alloc (.cells #[.bool false, .slice none 0 0] 25) = w50 at qm bA ⊢
                      replace ok8 := ok8.on bA
                      replace ok5 := ok5.on bA
                      replace ok6 := ok6.on bA
                      replace bT := bT.trans (bA.mono bT.size)
                      replace qx := qx.later bA
                      replace gpa := gpa.later bA
                      replace gpb := gpb.later bA
                      replace k7 := k7.later bA
                      replace hHeld := hc3 bA hHeld
                      clear bA
                      refine hKK.out _ _ hHeld ?_
                      clear hHeld
                      intro hHeld
                      clear hKK KK
                      try simp only [bP, bN, bS, bZ, bC]
                      obtain ⟨cqm, hcc⟩ : ∃ cc, w49.heap.size = cc := ⟨_, rfl⟩
                      rw [hcc] at qm hqmge hqmqx hqmc0 hqmc1 hqmc2
                      try rw [hcc]
                      clear hcc
                      refine wpAnyH_ready (rs := [9]) (by kernel_rfl) (by simp) ?_
                      refine cons' rfl (fun KK hKK => ?_)
                      have z0 := qm.cell 0
                      have z1 := qm.cell 1
                      simp only [List.getElem?_toArray, List.getElem?_cons_zero, List.getElem?_cons_succ] at z0 z1
                      have fz := fun o => qm.frozen o
                      obtain ⟨c9, q9⟩ := qm.set2 (.bool (ng m)) (.slice p7 (ln (am m)) (ln (am m)))
                      have hno := qm.no (by simp)
                      replace qx := qx.ch c9 (by omega)
                      replace gpa := gpa.ch c9 hno
                      replace gpb := gpb.ch c9 hno
                      replace k7 := k7.ch c9 hno
                      replace ok8 := ok8.ch c9 hno
                      replace ok5 := ok5.ch c9 hno
                      replace ok6 := ok6.ch c9 hno
                      replace bT := bT.trans (c9.below (by omega))
                      have hH2 := (⟨(World.cell?_of_block (w := w50) (a := ⟨c8, 0, none⟩) (c9.other (c8) (by omega))).trans hHeld.1, (World.cell?_of_block (w := w50) (a := ⟨c8, 1, none⟩) (c9.other (c8) (by omega))).trans hHeld.2.1, (World.cell?_of_block (w := w50) (a := ⟨c8, 2, none⟩) (c9.other (c8) (by omega))).trans hHeld.2.2⟩ : _ ∧ _ ∧ _)
                      go_simp
                      clear z0 z1 fz hno c9
                      replace qm := q9
                      refine hKK.out _ _ hH2 ?_
                      clear hHeld
                      intro hHeld
                      clear hKK KK
                      try simp only [bP, bN, bS, bZ, bC]
                      clear hH2
                      generalize ((w50.setCell ⟨cqm, 0, none⟩ (.bool (ng m))).setCell ⟨cqm, 1, none⟩ (.slice p7 (ln (am m)) (ln (am m)))) = w51 at bT qx gpa gpb k7 qm ok8 ok5 ok6 hHeld ⊢
                      refine wpAnyH_done (by kernel_rfl) ?_ _
                      go_wp2_with fail
                      go_meet
                      exact ⟨_, _, p7, rfl, rfl, hqmge, qm, k7, bT⟩
                    refine consT rfl (fun KK hKK => ?_) ?_
                    · skip
                      go_simp
                      have qm := Blk.new w48 #[.bool false, .slice none 0 0] 25
                      have bA := below_alloc (w := w48) (.cells #[.bool false, .slice none 0 0] 25)
                      have hqmge := bT.size
                      have hqmqx := qx.lt
                      have hqmc0 := cell_ltB hHeld.1
                      have hqmc1 := cell_ltB hHeld.2.1
                      have hqmc2 := cell_ltB hHeld.2.2
                      generalize w48.alloc (.cells #[.bool false, .slice none 0 0] 25) = w52 at qm bA ⊢
                      replace ok8 := ok8.on bA
                      replace ok5 := ok5.on bA
                      replace ok6 := ok6.on bA
                      replace bT := bT.trans (bA.mono bT.size)
                      replace qx := qx.later bA
                      replace gpa := gpa.later bA
                      replace gpb := gpb.later bA
                      replace hHeld := hc3 bA hHeld
                      clear bA
                      refine hKK.out _ _ hHeld ?_
                      clear hHeld
                      intro hHeld
                      clear hKK KK
                      try simp only [bP, bN, bS, bZ, bC]
                      obtain ⟨cqm, hcc⟩ : ∃ cc, w48.heap.size = cc := ⟨_, rfl⟩
                      rw [hcc] at qm hqmge hqmqx hqmc0 hqmc1 hqmc2
                      try rw [hcc]
                      clear hcc
                      refine wpAnyH_ready (rs := [7]) (by kernel_rfl) (by simp) ?_
                      refine cons' rfl (fun KK hKK => ?_)
                      go_simp
                      refine (G6.out _ p6 q6 ok6).mono ?_
                      rintro e w53 ⟨p7, rfl, n7⟩
                      have bC := n7.below
                      replace ok8 := ok8.on bC
                      replace ok5 := ok5.on bC
                      replace ok6 := ok6.on bC
                      replace bT := bT.trans (bC.mono bT.size)
                      replace qx := qx.later bC
                      replace gpa := gpa.later bC
                      replace gpb := gpb.later bC
                      replace qm := qm.later bC
                      replace hHeld := hc3 bC hHeld
                      clear bC
                      go_wp2_with fail
                      have k7 := n7.seg
                      clear n7
                      refine hKK.out _ _ hHeld ?_
                      clear hHeld
                      intro hHeld
                      clear hKK KK
                      try simp only [bP, bN, bS, bZ, bC]
                      refine wpAnyH_ready (rs := [9]) (by kernel_rfl) (by simp) ?_
                      refine cons' rfl (fun KK hKK => ?_)
                      have z0 := qm.cell 0
                      have z1 := qm.cell 1
                      simp only [List.getElem?_toArray, List.getElem?_cons_zero, List.getElem?_cons_succ] at z0 z1
                      have fz := fun o => qm.frozen o
                      obtain ⟨c9, q9⟩ := qm.set2 (.bool (ng m)) (.slice p7 (ln (am m)) (ln (am m)))
                      have hno := qm.no (by simp)
                      replace qx := qx.ch c9 (by omega)
                      replace gpa := gpa.ch c9 hno
                      replace gpb := gpb.ch c9 hno
                      replace k7 := k7.ch c9 hno
                      replace ok8 := ok8.ch c9 hno
                      replace ok5 := ok5.ch c9 hno
                      replace ok6 := ok6.ch c9 hno
                      replace bT := bT.trans (c9.below (by omega))
                      have hH2 := (⟨(World.cell?_of_block (w := w53) (a := ⟨c8, 0, none⟩) (c9.other (c8) (by omega))).trans hHeld.1, (World.cell?_of_block (w := w53) (a := ⟨c8, 1, none⟩) (c9.other (c8) (by omega))).trans hHeld.2.1, (World.cell?_of_block (w := w53) (a := ⟨c8, 2, none⟩) (c9.other (c8) (by omega))).trans hHeld.2.2⟩ : _ ∧ _ ∧ _)
                      go_simp
                      clear z0 z1 fz hno c9
                      replace qm := q9
                      refine hKK.out _ _ hH2 ?_
                      clear hHeld
                      intro hHeld
                      clear hKK KK
                      try simp only [bP, bN, bS, bZ, bC]
                      clear hH2
                      generalize ((w53.setCell ⟨cqm, 0, none⟩ (.bool (ng m))).setCell ⟨cqm, 1, none⟩ (.slice p7 (ln (am m)) (ln (am m)))) = w54 at bT qx gpa gpb qm k7 ok8 ok5 ok6 hHeld ⊢
                      refine wpAnyH_done (by kernel_rfl) ?_ _
                      go_wp2_with fail
                      go_meet
                      exact ⟨_, _, p7, rfl, rfl, hqmge, qm, k7, bT⟩
                    exact AllReadyH.nil
                  refine consT rfl (fun KK hKK => ?_) ?_
                  · skip
                    go_simp
                    have qm := Blk.new w47 #[.bool false, .slice none 0 0] 25
                    have bA := below_alloc (w := w47) (.cells #[.bool false, .slice none 0 0] 25)
                    have hqmge := bT.size
                    have hqmqx := qx.lt
                    have hqmc0 := cell_ltB hHeld.1
                    have hqmc1 := cell_ltB hHeld.2.1
                    have hqmc2 := cell_ltB hHeld.2.2
                    generalize w47.alloc (.cells #[.bool false, .slice none 0 0] 25) = w55 at qm bA ⊢
                    replace ok8 := ok8.on bA
                    replace ok5 := ok5.on bA
                    replace bT := bT.trans (bA.mono bT.size)
                    replace qx := qx.later bA
                    replace gpa := gpa.later bA
                    replace gpb := gpb.later bA
                    replace hHeld := hc3 bA hHeld
                    clear bA
                    refine hKK.out _ _ hHeld ?_
                    clear hHeld
                    intro hHeld
                    clear hKK KK
                    try simp only [bP, bN, bS, bZ, bC]
                    obtain ⟨cqm, hcc⟩ : ∃ cc, w47.heap.size = cc := ⟨_, rfl⟩
                    rw [hcc] at qm hqmge hqmqx hqmc0 hqmc1 hqmc2
                    try rw [hcc]
                    clear hcc
                    refine wpAnyH_ready (rs := [6]) (by kernel_rfl) (by simp) ?_
                    refine cons' rfl (fun KK hKK => ?_)
                    go_simp
                    refine (G5.out _ p8 q8 p5 q5 ok8 ok5).mono ?_
                    rintro e w56 ⟨p6, q6, rfl, b6, ok6⟩
                    have bC := b6
                    replace ok8 := ok8.on bC
                    replace ok5 := ok5.on bC
                    replace bT := bT.trans (bC.mono bT.size)
                    replace qx := qx.later bC
                    replace gpa := gpa.later bC
                    replace gpb := gpb.later bC
                    replace qm := qm.later bC
                    replace hHeld := hc3 bC hHeld
                    clear bC
                    go_wp2_with fail
                    clear b6
                    refine hKK.out _ _ hHeld ?_
                    clear hHeld
                    intro hHeld
                    clear hKK KK
                    try simp only [bP, bN, bS, bZ, bC]
                    refine wpAnyH_ready (rs := [7]) (by kernel_rfl) (by simp) ?_
                    refine cons' rfl (fun KK hKK => ?_)
                    go_simp
                    refine (G6.out _ p6 q6 ok6).mono ?_
                    rintro e w57 ⟨p7, rfl, n7⟩
                    have bC := n7.below
                    replace ok8 := ok8.on bC
                    replace ok5 := ok5.on bC
                    replace ok6 := ok6.on bC
                    replace bT := bT.trans (bC.mono bT.size)
                    replace qx := qx.later bC
                    replace gpa := gpa.later bC
                    replace gpb := gpb.later bC
                    replace qm := qm.later bC
                    replace hHeld := hc3 bC hHeld
                    clear bC
                    go_wp2_with fail
                    have k7 := n7.seg
                    clear n7
                    refine hKK.out _ _ hHeld ?_
                    clear hHeld
                    intro hHeld
                    clear hKK KK
                    try simp only [bP, bN, bS, bZ, bC]
                    refine wpAnyH_ready (rs := [9]) (by kernel_rfl) (by simp) ?_
                    refine cons' rfl (fun KK hKK => ?_)
                    have z0 := qm.cell 0
                    have z1 := qm.cell 1
                    simp only [List.getElem?_toArray, List.getElem?_cons_zero, List.getElem?_cons_succ] at z0 z1
                    have fz := fun o => qm.frozen o
                    obtain ⟨c9, q9⟩ := qm.set2 (.bool (ng m)) (.slice p7 (ln (am m)) (ln (am m)))
                    have hno := qm.no (by simp)
                    replace qx := qx.ch c9 (by omega)
                    replace gpa := gpa.ch c9 hno
                    replace gpb := gpb.ch c9 hno
                    replace k7 := k7.ch c9 hno
                    replace ok8 := ok8.ch c9 hno
                    replace ok5 := ok5.ch c9 hno
                    replace ok6 := ok6.ch c9 hno
                    replace bT := bT.trans (c9.below (by omega))
                    have hH2 := (⟨(World.cell?_of_block (w := w57) (a := ⟨c8, 0, none⟩) (c9.other (c8) (by omega))).trans hHeld.1, (World.cell?_of_block (w := w57) (a := ⟨c8, 1, none⟩) (c9.other (c8) (by omega))).trans hHeld.2.1, (World.cell?_of_block (w := w57) (a := ⟨c8, 2, none⟩) (c9.other (c8) (by omega))).trans hHeld.2.2⟩ : _ ∧ _ ∧ _)
                    go_simp
                    clear z0 z1 fz hno c9
                    replace qm := q9
                    refine hKK.out _ _ hH2 ?_
                    clear hHeld
                    intro hHeld
                    clear hKK KK
                    try simp only [bP, bN, bS, bZ, bC]
                    clear hH2
                    generalize ((w57.setCell ⟨cqm, 0, none⟩ (.bool (ng m))).setCell ⟨cqm, 1, none⟩ (.slice p7 (ln (am m)) (ln (am m)))) = w58 at bT qx gpa gpb qm k7 ok8 ok5 ok6 hHeld ⊢
                    refine wpAnyH_done (by kernel_rfl) ?_ _
                    go_wp2_with fail
                    go_meet
                    exact ⟨_, _, p7, rfl, rfl, hqmge, qm, k7, bT⟩
                  exact AllReadyH.nil
                refine consT rfl (fun KK hKK => ?_) ?_
                · skip
                  go_simp
                  have qm := Blk.new w46 #[.bool false, .slice none 0 0] 25
                  have bA := below_alloc (w := w46) (.cells #[.bool false, .slice none 0 0] 25)
                  have hqmge := bT.size
                  have hqmqx := qx.lt
                  have hqmc0 := cell_ltB hHeld.1
                  have hqmc1 := cell_ltB hHeld.2.1
                  have hqmc2 := cell_ltB hHeld.2.2
                  generalize w46.alloc (.cells #[.bool false, .slice none 0 0] 25) = w59 at qm bA ⊢
                  replace ok8 := ok8.on bA
                  replace bT := bT.trans (bA.mono bT.size)
                  replace qx := qx.later bA
                  replace gpa := gpa.later bA
                  replace gpb := gpb.later bA
                  replace hHeld := hc3 bA hHeld
                  clear bA
                  refine hKK.out _ _ hHeld ?_
                  clear hHeld
                  intro hHeld
                  clear hKK KK
                  try simp only [bP, bN, bS, bZ, bC]
                  obtain ⟨cqm, hcc⟩ : ∃ cc, w46.heap.size = cc := ⟨_, rfl⟩
                  rw [hcc] at qm hqmge hqmqx hqmc0 hqmc1 hqmc2
                  try rw [hcc]
                  clear hcc
                  refine wpAnyH_ready (rs := [5]) (by kernel_rfl) (by simp) ?_
                  refine cons' rfl (fun KK hKK => ?_)
                  go_simp
                  refine (G4.out _ pa pb gpa gpb).mono ?_
                  rintro e w60 ⟨p5, q5, rfl, b5, ok5⟩
                  have bC := b5
                  replace ok8 := ok8.on bC
                  replace bT := bT.trans (bC.mono bT.size)
                  replace qx := qx.later bC
                  replace gpa := gpa.later bC
                  replace gpb := gpb.later bC
                  replace qm := qm.later bC
                  replace hHeld := hc3 bC hHeld
                  clear bC
                  go_wp2_with fail
                  clear b5
                  refine hKK.out _ _ hHeld ?_
                  clear hHeld
                  intro hHeld
                  clear hKK KK
                  try simp only [bP, bN, bS, bZ, bC]
                  refine wpAnyH_ready (rs := [6]) (by kernel_rfl) (by simp) ?_
                  refine cons' rfl (fun KK hKK => ?_)
                  go_simp
                  refine (G5.out _ p8 q8 p5 q5 ok8 ok5).mono ?_
                  rintro e w61 ⟨p6, q6, rfl, b6, ok6⟩
                  have bC := b6
                  replace ok8 := ok8.on bC
                  replace ok5 := ok5.on bC
                  replace bT := bT.trans (bC.mono bT.size)
                  replace qx := qx.later bC
                  replace gpa := gpa.later bC
                  replace gpb := gpb.later bC
                  replace qm := qm.later bC
                  replace hHeld := hc3 bC hHeld
                  clear bC
                  go_wp2_with fail
                  clear b6
                  refine hKK.out _ _ hHeld ?_
                  clear hHeld
                  intro hHeld
                  clear hKK KK
                  try simp only [bP, bN, bS, bZ, bC]
                  refine wpAnyH_ready (rs := [7]) (by kernel_rfl) (by simp) ?_
                  refine cons' rfl (fun KK hKK => ?_)
                  go_simp
                  refine (G6.out _ p6 q6 ok6).mono ?_
                  rintro e w62 ⟨p7, rfl, n7⟩
                  have bC := n7.below
                  replace ok8 := ok8.on bC
                  replace ok5 := ok5.on bC
                  replace ok6 := ok6.on bC
                  replace bT := bT.trans (bC.mono bT.size)
                  replace qx := qx.later bC
                  replace gpa := gpa.later bC
                  replace gpb := gpb.later bC
                  replace qm := qm.later bC
                  replace hHeld := hc3 bC hHeld
                  clear bC
                  go_wp2_with fail
                  have k7 := n7.seg
                  clear n7
                  refine hKK.out _ _ hHeld ?_
                  clear hHeld
                  intro hHeld
                  clear hKK KK
                  try simp only [bP, bN, bS, bZ, bC]
                  refine wpAnyH_ready (rs := [9]) (by kernel_rfl) (by simp) ?_
                  refine cons' rfl (fun KK hKK => ?_)
                  have z0 := qm.cell 0
                  have z1 := qm.cell 1
                  simp only [List.getElem?_toArray, List.getElem?_cons_zero, List.getElem?_cons_succ] at z0 z1
                  have fz := fun o => qm.frozen o
                  obtain ⟨c9, q9⟩ := qm.set2 (.bool (ng m)) (.slice p7 (ln (am m)) (ln (am m)))
                  have hno := qm.no (by simp)
                  replace qx := qx.ch c9 (by omega)
                  replace gpa := gpa.ch c9 hno
                  replace gpb := gpb.ch c9 hno
                  replace k7 := k7.ch c9 hno
                  replace ok8 := ok8.ch c9 hno
                  replace ok5 := ok5.ch c9 hno
                  replace ok6 := ok6.ch c9 hno
                  replace bT := bT.trans (c9.below (by omega))
                  have hH2 := (⟨(World.cell?_of_block (w := w62) (a := ⟨c8, 0, none⟩) (c9.other (c8) (by omega))).trans hHeld.1, (World.cell?_of_block (w := w62) (a := ⟨c8, 1, none⟩) (c9.other (c8) (by omega))).trans hHeld.2.1, (World.cell?_of_block (w := w62) (a := ⟨c8, 2, none⟩) (c9.other (c8) (by omega))).trans hHeld.2.2⟩ : _ ∧ _ ∧ _)
                  go_simp
                  clear z0 z1 fz hno c9
                  replace qm := q9
                  refine hKK.out _ _ hH2 ?_
                  clear hHeld
                  intro hHeld
                  clear hKK KK
                  try simp only [bP, bN, bS, bZ, bC]
                  clear hH2
                  generalize ((w62.setCell ⟨cqm, 0, none⟩ (.bool (ng m))).setCell ⟨cqm, 1, none⟩ (.slice p7 (ln (am m)) (ln (am m)))) = w63 at bT qx gpa gpb qm k7 ok8 ok5 ok6 hHeld ⊢
                  refine wpAnyH_done (by kernel_rfl) ?_ _
                  go_wp2_with fail
                  go_meet
                  exact ⟨_, _, p7, rfl, rfl, hqmge, qm, k7, bT⟩
                exact AllReadyH.nil
              refine consT rfl (fun KK hKK => ?_) ?_
              · skip
                go_simp
                have qm := Blk.new w45 #[.bool false, .slice none 0 0] 25
                have bA := below_alloc (w := w45) (.cells #[.bool false, .slice none 0 0] 25)
                have hqmge := bT.size
                have hqmqx := qx.lt
                have hqmc0 := cell_ltB hHeld.1
                have hqmc1 := cell_ltB hHeld.2.1
                have hqmc2 := cell_ltB hHeld.2.2
                generalize w45.alloc (.cells #[.bool false, .slice none 0 0] 25) = w64 at qm bA ⊢
                replace ok8 := ok8.on bA
                replace bT := bT.trans (bA.mono bT.size)
                replace qx := qx.later bA
                replace gpa := gpa.later bA
                replace gpb := gpb.later bA
                replace hHeld := hc3 bA hHeld
                clear bA
                refine hKK.out _ _ hHeld ?_
                clear hHeld
                intro hHeld
                clear hKK KK
                try simp only [bP, bN, bS, bZ, bC]
                obtain ⟨cqm, hcc⟩ : ∃ cc, w45.heap.size = cc := ⟨_, rfl⟩
                rw [hcc] at qm hqmge hqmqx hqmc0 hqmc1 hqmc2
                try rw [hcc]
                clear hcc
                refine wpAnyH_ready (rs := [2]) (by kernel_rfl) (by simp) ?_
                refine cons' rfl (fun KK hKK => ?_)
                go_simp
                refine (positive_is (some ⟨pa, 0, none⟩) 1 1 _).mono ?_
                rintro e w65 ⟨rfl, b2⟩
                have bC := b2
                replace ok8 := ok8.on bC
                replace bT := bT.trans (bC.mono bT.size)
                replace qx := qx.later bC
                replace gpa := gpa.later bC
                replace gpb := gpb.later bC
                replace qm := qm.later bC
                replace hHeld := hc3 bC hHeld
                clear bC
                go_wp2_with fail
                clear b2
                refine hKK.out _ _ hHeld ?_
                clear hHeld
                intro hHeld
                clear hKK KK
                try simp only [bP, bN, bS, bZ, bC]
                refine tkb 4 (v := ?_) rfl (Or.inl ⟨by rfl, ?_⟩) ?_
                rotate_left
                · intro w9 hSw
                  go_simp
                  first | done | with_reducible rfl
                simp only [bP, bN, bS, bZ, bC]
                refine wpAnyH_ready (rs := [5]) (by kernel_rfl) (by simp) ?_
                refine cons' rfl (fun KK hKK => ?_)
                go_simp
                refine (G4.out _ pa pb gpa gpb).mono ?_
                rintro e w66 ⟨p5, q5, rfl, b5, ok5⟩
                have bC := b5
                replace ok8 := ok8.on bC
                replace bT := bT.trans (bC.mono bT.size)
                replace qx := qx.later bC
                replace gpa := gpa.later bC
                replace gpb := gpb.later bC
                replace qm := qm.later bC
                replace hHeld := hc3 bC hHeld
                clear bC
                go_wp2_with fail
                clear b5
                refine hKK.out _ _ hHeld ?_
                clear hHeld
                intro hHeld
                clear hKK KK
                try simp only [bP, bN, bS, bZ, bC]
                refine wpAnyH_ready (rs := [6]) (by kernel_rfl) (by simp) ?_
                refine cons' rfl (fun KK hKK => ?_)
                go_simp
                refine (G5.out _ p8 q8 p5 q5 ok8 ok5).mono ?_
                rintro e w67 ⟨p6, q6, rfl, b6, ok6⟩
                have bC := b6
                replace ok8 := ok8.on bC
                replace ok5 := ok5.on bC
                replace bT := bT.trans (bC.mono bT.size)
                replace qx := qx.later bC
                replace gpa := gpa.later bC
                replace gpb := gpb.later bC
                replace qm := qm.later bC
                replace hHeld := hc3 bC hHeld
                clear bC
                go_wp2_with fail
                clear b6
                refine hKK.out _ _ hHeld ?_
                clear hHeld
                intro hHeld
                clear hKK KK
                try simp only [bP, bN, bS, bZ, bC]
                refine wpAnyH_ready (rs := [7]) (by kernel_rfl) (by simp) ?_
                refine cons' rfl (fun KK hKK => ?_)
                go_simp
                refine (G6.out _ p6 q6 ok6).mono ?_
                rintro e w68 ⟨p7, rfl, n7⟩
                have bC := n7.below
                replace ok8 := ok8.on bC
                replace ok5 := ok5.on bC
                replace ok6 := ok6.on bC
                replace bT := bT.trans (bC.mono bT.size)
                replace qx := qx.later bC
                replace gpa := gpa.later bC
                replace gpb := gpb.later bC
                replace qm := qm.later bC
                replace hHeld := hc3 bC hHeld
                clear bC
                go_wp2_with fail
                have k7 := n7.seg
                clear n7
                refine hKK.out _ _ hHeld ?_
                clear hHeld
                intro hHeld
                clear hKK KK
                try simp only [bP, bN, bS, bZ, bC]
                refine wpAnyH_ready (rs := [9]) (by kernel_rfl) (by simp) ?_
                refine cons' rfl (fun KK hKK => ?_)
                have z0 := qm.cell 0
                have z1 := qm.cell 1
                simp only [List.getElem?_toArray, List.getElem?_cons_zero, List.getElem?_cons_succ] at z0 z1
                have fz := fun o => qm.frozen o
                obtain ⟨c9, q9⟩ := qm.set2 (.bool (ng m)) (.slice p7 (ln (am m)) (ln (am m)))
                have hno := qm.no (by simp)
                replace qx := qx.ch c9 (by omega)
                replace gpa := gpa.ch c9 hno
                replace gpb := gpb.ch c9 hno
                replace k7 := k7.ch c9 hno
                replace ok8 := ok8.ch c9 hno
                replace ok5 := ok5.ch c9 hno
                replace ok6 := ok6.ch c9 hno
                replace bT := bT.trans (c9.below (by omega))
                have hH2 := (⟨(World.cell?_of_block (w := w68) (a := ⟨c8, 0, none⟩) (c9.other (c8) (by omega))).trans hHeld.1, (World.cell?_of_block (w := w68) (a := ⟨c8, 1, none⟩) (c9.other (c8) (by omega))).trans hHeld.2.1, (World.cell?_of_block (w := w68) (a := ⟨c8, 2, none⟩) (c9.other (c8) (by omega))).trans hHeld.2.2⟩ : _ ∧ _ ∧ _)
                go_simp
                clear z0 z1 fz hno c9
                replace qm := q9
                refine hKK.out _ _ hH2 ?_
                clear hHeld
                intro hHeld
                clear hKK KK
                try simp only [bP, bN, bS, bZ, bC]
                clear hH2
                generalize ((w68.setCell ⟨cqm, 0, none⟩ (.bool (ng m))).setCell ⟨cqm, 1, none⟩ (.slice p7 (ln (am m)) (ln (am m)))) = w69 at bT qx gpa gpb qm k7 ok8 ok5 ok6 hHeld ⊢
                refine wpAnyH_done (by kernel_rfl) ?_ _
                go_wp2_with fail
                go_meet
                exact ⟨_, _, p7, rfl, rfl, hqmge, qm, k7, bT⟩
              exact AllReadyH.nil
            refine consT rfl (fun KK hKK => ?_) ?_
            · skip
              go_simp
              have qm := Blk.new w19 #[.bool false, .slice none 0 0] 25
              have bA := below_alloc (w := w19) (.cells #[.bool false, .slice none 0 0] 25)
              have hqmge := bT.size
              have hqmqx := qx.lt
              have hqmc0 := cell_ltB hHeld.1
              have hqmc1 := cell_ltB hHeld.2.1
              have hqmc2 := cell_ltB hHeld.2.2
              generalize w19.alloc (.cells #[.bool false, .slice none 0 0] 25) = w70 at qm bA ⊢
              replace ok8 := ok8.on bA
              replace bT := bT.trans (bA.mono bT.size)
              replace qx := qx.later bA
              replace gpa := gpa.later bA
              replace hHeld := hc3 bA hHeld
              clear bA
              refine hKK.out _ _ hHeld ?_
              clear hHeld
              intro hHeld
              clear hKK KK
              try simp only [bP, bN, bS, bZ, bC]
              obtain ⟨cqm, hcc⟩ : ∃ cc, w19.heap.size = cc := ⟨_, rfl⟩
              rw [hcc] at qm hqmge hqmqx hqmc0 hqmc1 hqmc2
              try rw [hcc]
              clear hcc
              refine wpAnyH_ready (rs := [2, 3]) (by kernel_rfl) (by simp) ?_
              refine consT rfl (fun KK hKK => ?_) ?_
              · skip
                go_simp
                refine (positive_is (some ⟨pa, 0, none⟩) 1 1 _).mono ?_
                rintro e w71 ⟨rfl, b2⟩
                have bC := b2
                replace ok8 := ok8.on bC
                replace bT := bT.trans (bC.mono bT.size)
                replace qx := qx.later bC
                replace gpa := gpa.later bC
                replace qm := qm.later bC
                replace hHeld := hc3 bC hHeld
                clear bC
                go_wp2_with fail
                clear b2
                refine hKK.out _ _ hHeld ?_
                clear hHeld
                intro hHeld
                clear hKK KK
                try simp only [bP, bN, bS, bZ, bC]
                refine wpAnyH_ready (rs := [3]) (by kernel_rfl) (by simp) ?_
                refine cons' rfl (fun KK hKK => ?_)
                go_simp
                have n9 := single_new w71 2 38 2 (by omega) rfl
                have gpb := n9.seg
                have bA := n9.below
                clear n9
                generalize w71.alloc (.cells #[.int .u32 2] 38) = w72 at gpb bA ⊢
                replace ok8 := ok8.on bA
                replace bT := bT.trans (bA.mono bT.size)
                replace qx := qx.later bA
                replace gpa := gpa.later bA
                replace qm := qm.later bA
                replace hHeld := hc3 bA hHeld
                clear bA
                refine hKK.out _ _ hHeld ?_
                clear hHeld
                intro hHeld
                clear hKK KK
                try simp only [bP, bN, bS, bZ, bC]
                obtain ⟨pb, hcc⟩ : ∃ cc, w71.heap.size = cc := ⟨_, rfl⟩
                rw [hcc] at gpb
                try rw [hcc]
                clear hcc
                refine tkb 4 (v := ?_) rfl (Or.inl ⟨by rfl, ?_⟩) ?_
                rotate_left
                · intro w9 hSw
                  go_simp
                  first | done | with_reducible rfl
                simp only [bP, bN, bS, bZ, bC]
                refine wpAnyH_ready (rs := [5]) (by kernel_rfl) (by simp) ?_
                refine cons' rfl (fun KK hKK => ?_)
                go_simp
                refine (G4.out _ pa pb gpa gpb).mono ?_
                rintro e w73 ⟨p5, q5, rfl, b5, ok5⟩
                have bC := b5
                replace ok8 := ok8.on bC
                replace bT := bT.trans (bC.mono bT.size)
                replace qx := qx.later bC
                replace gpa := gpa.later bC
                replace qm := qm.later bC
                replace gpb := gpb.later bC
                replace hHeld := hc3 bC hHeld
                clear bC
                go_wp2_with fail
                clear b5
                refine hKK.out _ _ hHeld ?_
                clear hHeld
                intro hHeld
                clear hKK KK
                try simp only [bP, bN, bS, bZ, bC]
                refine wpAnyH_ready (rs := [6]) (by kernel_rfl) (by simp) ?_
                refine cons' rfl (fun KK hKK => ?_)
                go_simp
                refine (G5.out _ p8 q8 p5 q5 ok8 ok5).mono ?_
                rintro e w74 ⟨p6, q6, rfl, b6, ok6⟩
                have bC := b6
                replace ok8 := ok8.on bC
                replace ok5 := ok5.on bC
                replace bT := bT.trans (bC.mono bT.size)
                replace qx := qx.later bC
                replace gpa := gpa.later bC
                replace qm := qm.later bC
                replace gpb := gpb.later bC
                replace hHeld := hc3 bC hHeld
                clear bC
                go_wp2_with fail
                clear b6
                refine hKK.out _ _ hHeld ?_
                clear hHeld
                intro hHeld
                clear hKK KK
                try simp only [bP, bN, bS, bZ, bC]
                refine wpAnyH_ready (rs := [7]) (by kernel_rfl) (by simp) ?_
                refine cons' rfl (fun KK hKK => ?_)
                go_simp
                refine (G6.out _ p6 q6 ok6).mono ?_
                rintro e w75 ⟨p7, rfl, n7⟩
                have bC := n7.below
                replace ok8 := ok8.on bC
                replace ok5 := ok5.on bC
                replace ok6 := ok6.on bC
                replace bT := bT.trans (bC.mono bT.size)
                replace qx := qx.later bC
                replace gpa := gpa.later bC
                replace qm := qm.later bC
                replace gpb := gpb.later bC
                replace hHeld := hc3 bC hHeld
                clear bC
                go_wp2_with fail
                have k7 := n7.seg
                clear n7
                refine hKK.out _ _ hHeld ?_
                clear hHeld
                intro hHeld
                clear hKK KK
                try simp only [bP, bN, bS, bZ, bC]
                refine wpAnyH_ready (rs := [9]) (by kernel_rfl) (by simp) ?_
                refine cons' rfl (fun KK hKK => ?_)
                have z0 := qm.cell 0
                have z1 := qm.cell 1
                simp only [List.getElem?_toArray, List.getElem?_cons_zero, List.getElem?_cons_succ] at z0 z1
                have fz := fun o => qm.frozen o
                obtain ⟨c9, q9⟩ := qm.set2 (.bool (ng m)) (.slice p7 (ln (am m)) (ln (am m)))
                have hno := qm.no (by simp)
                replace qx := qx.ch c9 (by omega)
                replace gpa := gpa.ch c9 hno
                replace gpb := gpb.ch c9 hno
                replace k7 := k7.ch c9 hno
                replace ok8 := ok8.ch c9 hno
                replace ok5 := ok5.ch c9 hno
                replace ok6 := ok6.ch c9 hno
                replace bT := bT.trans (c9.below (by omega))
                have hH2 := (⟨(World.cell?_of_block (w := w75) (a := ⟨c8, 0, none⟩) (c9.other (c8) (by omega))).trans hHeld.1, (World.cell?_of_block (w := w75) (a := ⟨c8, 1, none⟩) (c9.other (c8) (by omega))).trans hHeld.2.1, (World.cell?_of_block (w := w75) (a := ⟨c8, 2, none⟩) (c9.other (c8) (by omega))).trans hHeld.2.2⟩ : _ ∧ _ ∧ _)
                go_simp
                clear z0 z1 fz hno c9
                replace qm := q9
                refine hKK.out _ _ hH2 ?_
                clear hHeld
                intro hHeld
                clear hKK KK
                try simp only [bP, bN, bS, bZ, bC]
                clear hH2
                generalize ((w75.setCell ⟨cqm, 0, none⟩ (.bool (ng m))).setCell ⟨cqm, 1, none⟩ (.slice p7 (ln (am m)) (ln (am m)))) = w76 at bT qx gpa qm gpb k7 ok8 ok5 ok6 hHeld ⊢
                refine wpAnyH_done (by kernel_rfl) ?_ _
                go_wp2_with fail
                go_meet
                exact ⟨_, _, p7, rfl, rfl, hqmge, qm, k7, bT⟩
              refine consT rfl (fun KK hKK => ?_) ?_
              · skip
                go_simp
                have n9 := single_new w70 2 38 2 (by omega) rfl
                have gpb := n9.seg
                have bA := n9.below
                clear n9
                generalize w70.alloc (.cells #[.int .u32 2] 38) = w77 at gpb bA ⊢
                replace ok8 := ok8.on bA
                replace bT := bT.trans (bA.mono bT.size)
                replace qx := qx.later bA
                replace gpa := gpa.later bA
                replace qm := qm.later bA
                replace hHeld := hc3 bA hHeld
                clear bA
                refine hKK.out _ _ hHeld ?_
                clear hHeld
                intro hHeld
                clear hKK KK
                try simp only [bP, bN, bS, bZ, bC]
                obtain ⟨pb, hcc⟩ : ∃ cc, w70.heap.size = cc := ⟨_, rfl⟩
                rw [hcc] at gpb
                try rw [hcc]
                clear hcc
                refine wpAnyH_ready (rs := [2]) (by kernel_rfl) (by simp) ?_
                refine cons' rfl (fun KK hKK => ?_)
                go_simp
                refine (positive_is (some ⟨pa, 0, none⟩) 1 1 _).mono ?_
                rintro e w78 ⟨rfl, b2⟩
                have bC := b2
                replace ok8 := ok8.on bC
                replace bT := bT.trans (bC.mono bT.size)
                replace qx := qx.later bC
                replace gpa := gpa.later bC
                replace qm := qm.later bC
                replace gpb := gpb.later bC
                replace hHeld := hc3 bC hHeld
                clear bC
                go_wp2_with fail
                clear b2
                refine hKK.out _ _ hHeld ?_
                clear hHeld
                intro hHeld
                clear hKK KK
                try simp only [bP, bN, bS, bZ, bC]
                refine tkb 4 (v := ?_) rfl (Or.inl ⟨by rfl, ?_⟩) ?_
                rotate_left
                · intro w9 hSw
                  go_simp
                  first | done | with_reducible rfl
                simp only [bP, bN, bS, bZ, bC]
                refine wpAnyH_ready (rs := [5]) (by kernel_rfl) (by simp) ?_
                refine cons' rfl (fun KK hKK => ?_)
                go_simp
                refine (G4.out _ pa pb gpa gpb).mono ?_
                rintro e w79 ⟨p5, q5, rfl, b5, ok5⟩
                have bC := b5
                replace ok8 := ok8.on bC
                replace bT := bT.trans (bC.mono bT.size)
                replace qx := qx.later bC
                replace gpa := gpa.later bC
                replace qm := qm.later bC
                replace gpb := gpb.later bC
                replace hHeld := hc3 bC hHeld
                clear bC
                go_wp2_with fail
                clear b5
                refine hKK.out _ _ hHeld ?_
                clear hHeld
                intro hHeld
                clear hKK KK
                try simp only [bP, bN, bS, bZ, bC]
                refine wpAnyH_ready (rs := [6]) (by kernel_rfl) (by simp) ?_
                refine cons' rfl (fun KK hKK => ?_)
                go_simp
                refine (G5.out _ p8 q8 p5 q5 ok8 ok5).mono ?_
                rintro e w80 ⟨p6, q6, rfl, b6, ok6⟩
                have bC := b6
                replace ok8 := ok8.on bC
                replace ok5 := ok5.on bC
                replace bT := bT.trans (bC.mono bT.size)
                replace qx := qx.later bC
                replace gpa := gpa.later bC
                replace qm := qm.later bC
                replace gpb := gpb.later bC
                replace hHeld := hc3 bC hHeld
                clear bC
                go_wp2_with fail
                clear b6
                refine hKK.out _ _ hHeld ?_
                clear hHeld
                intro hHeld
                clear hKK KK
                try simp only [bP, bN, bS, bZ, bC]
                refine wpAnyH_ready (rs := [7]) (by kernel_rfl) (by simp) ?_
                refine cons' rfl (fun KK hKK => ?_)
                go_simp
                refine (G6.out _ p6 q6 ok6).mono ?_
                rintro e w81 ⟨p7, rfl, n7⟩
                have bC := n7.below
                replace ok8 := ok8.on bC
                replace ok5 := ok5.on bC
                replace ok6 := ok6.on bC
                replace bT := bT.trans (bC.mono bT.size)
                replace qx := qx.later bC
                replace gpa := gpa.later bC
                replace qm := qm.later bC
                replace gpb := gpb.later bC
                replace hHeld := hc3 bC hHeld
                clear bC
                go_wp2_with fail
                have k7 := n7.seg
                clear n7
                refine hKK.out _ _ hHeld ?_
                clear hHeld
                intro hHeld
                clear hKK KK
                try simp only [bP, bN, bS, bZ, bC]
                refine wpAnyH_ready (rs := [9]) (by kernel_rfl) (by simp) ?_
                refine cons' rfl (fun KK hKK => ?_)
                have z0 := qm.cell 0
                have z1 := qm.cell 1
                simp only [List.getElem?_toArray, List.getElem?_cons_zero, List.getElem?_cons_succ] at z0 z1
                have fz := fun o => qm.frozen o
                obtain ⟨c9, q9⟩ := qm.set2 (.bool (ng m)) (.slice p7 (ln (am m)) (ln (am m)))
                have hno := qm.no (by simp)
                replace qx := qx.ch c9 (by omega)
                replace gpa := gpa.ch c9 hno
                replace gpb := gpb.ch c9 hno
                replace k7 := k7.ch c9 hno
                replace ok8 := ok8.ch c9 hno
                replace ok5 := ok5.ch c9 hno
                replace ok6 := ok6.ch c9 hno
                replace bT := bT.trans (c9.below (by omega))
                have hH2 := (⟨(World.cell?_of_block (w := w81) (a := ⟨c8, 0, none⟩) (c9.other (c8) (by omega))).trans hHeld.1, (World.cell?_of_block (w := w81) (a := ⟨c8, 1, none⟩) (c9.other (c8) (by omega))).trans hHeld.2.1, (World.cell?_of_block (w := w81) (a := ⟨c8, 2, none⟩) (c9.other (c8) (by omega))).trans hHeld.2.2⟩ : _ ∧ _ ∧ _)
                go_simp
                clear z0 z1 fz hno c9
                replace qm := q9
                refine hKK.out _ _ hH2 ?_
                clear hHeld
                intro hHeld
                clear hKK KK
                try simp only [bP, bN, bS, bZ, bC]
                clear hH2
                generalize ((w81.setCell ⟨cqm, 0, none⟩ (.bool (ng m))).setCell ⟨cqm, 1, none⟩ (.slice p7 (ln (am m)) (ln (am m)))) = w82 at bT qx gpa qm gpb k7 ok8 ok5 ok6 hHeld ⊢
                refine wpAnyH_done (by kernel_rfl) ?_ _
                go_wp2_with fail
                go_meet
                exact ⟨_, _, p7, rfl, rfl, hqmge, qm, k7, bT⟩
              exact AllReadyH.nil
            exact AllReadyH.nil
          refine consT rfl (fun KK hKK => ?_) ?_
          · skip
            go_simp
            have n9 := single_new wF0 2 38 2 (by omega) rfl
            have gpb := n9.seg
            have bA := n9.below
            clear n9
            generalize wF0.alloc (.cells #[.int .u32 2] 38) = w83 at gpb bA ⊢
            replace ok8 := ok8.on bA
            replace bT := bT.trans (bA.mono bT.size)
            replace qx := qx.later bA
            replace hHeld := hc3 bA hHeld
            clear bA
            refine hKK.out _ _ hHeld ?_
            clear hHeld
            intro hHeld
            clear hKK KK
            try simp only [bP, bN, bS, bZ, bC]
            obtain ⟨pb, hcc⟩ : ∃ cc, wF0.heap.size = cc := ⟨_, rfl⟩
            rw [hcc] at gpb
            try rw [hcc]
            clear hcc
            refine wpAnyH_ready (rs := [1, 8]) (by kernel_rfl) (by simp) ?_
            refine consT rfl (fun KK hKK => ?_) ?_
            · skip
              go_simp
              have n9 := single_new w83 1 38 1 (by omega) rfl
              have gpa := n9.seg
              have bA := n9.below
              clear n9
              generalize w83.alloc (.cells #[.int .u32 1] 38) = w84 at gpa bA ⊢
              replace ok8 := ok8.on bA
              replace bT := bT.trans (bA.mono bT.size)
              replace qx := qx.later bA
              replace gpb := gpb.later bA
              replace hHeld := hc3 bA hHeld
              clear bA
              refine hKK.out _ _ hHeld ?_
              clear hHeld
              intro hHeld
              clear hKK KK
              try simp only [bP, bN, bS, bZ, bC]
              obtain ⟨pa, hcc⟩ : ∃ cc, w83.heap.size = cc := ⟨_, rfl⟩
              rw [hcc] at gpa
              try rw [hcc]
              clear hcc
              refine wpAnyH_ready (rs := [2, 8]) (by kernel_rfl) (by simp) ?_
              refine consT rfl (fun KK hKK => ?_) ?_
              · skip
                go_simp
                refine (positive_is (some ⟨pa, 0, none⟩) 1 1 _).mono ?_
                rintro e w85 ⟨rfl, b2⟩
                have bC := b2
                replace ok8 := ok8.on bC
                replace bT := bT.trans (bC.mono bT.size)
                replace qx := qx.later bC
                replace gpb := gpb.later bC
                replace gpa := gpa.later bC
                replace hHeld := hc3 bC hHeld
                clear bC
                go_wp2_with fail
                clear b2
                refine hKK.out _ _ hHeld ?_
                clear hHeld
                intro hHeld
                clear hKK KK
                try simp only [bP, bN, bS, bZ, bC]
                refine tkb 4 (v := ?_) rfl (Or.inl ⟨by rfl, ?_⟩) ?_
                rotate_left
                · intro w9 hSw
                  go_simp
                  first | done | with_reducible rfl
                simp only [bP, bN, bS, bZ, bC]
                refine wpAnyH_ready (rs := [5, 8]) (by kernel_rfl) (by simp) ?_
                refine consT rfl (fun KK hKK => ?_) ?_
                · skip
                  go_simp
                  refine (G4.out _ pa pb gpa gpb).mono ?_
                  rintro e w86 ⟨p5, q5, rfl, b5, ok5⟩
                  have bC := b5
                  replace ok8 := ok8.on bC
                  replace bT := bT.trans (bC.mono bT.size)
                  replace qx := qx.later bC
                  replace gpb := gpb.later bC
                  replace gpa := gpa.later bC
                  replace hHeld := hc3 bC hHeld
                  clear bC
                  go_wp2_with fail
                  clear b5
                  refine hKK.out _ _ hHeld ?_
                  clear hHeld
                  intro hHeld
                  clear hKK KK
                  try simp only [bP, bN, bS, bZ, bC]
                  refine wpAnyH_ready (rs := [6, 8]) (by kernel_rfl) (by simp) ?_
                  refine consT rfl (fun KK hKK => ?_) ?_
                  · skip
                    go_simp
                    refine (G5.out _ p8 q8 p5 q5 ok8 ok5).mono ?_
                    rintro e w87 ⟨p6, q6, rfl, b6, ok6⟩
                    have bC := b6
                    replace ok8 := ok8.on bC
                    replace ok5 := ok5.on bC
                    replace bT := bT.trans (bC.mono bT.size)
                    replace qx := qx.later bC
                    replace gpb := gpb.later bC
                    replace gpa := gpa.later bC
                    replace hHeld := hc3 bC hHeld
                    clear bC
                    go_wp2_with fail
                    clear b6
                    refine hKK.out _ _ hHeld ?_
                    clear hHeld
                    intro hHeld
                    clear hKK KK
                    try simp only [bP, bN, bS, bZ, bC]
                    refine wpAnyH_ready (rs := [7, 8]) (by kernel_rfl) (by simp) ?_
                    refine consT rfl (fun KK hKK => ?_) ?_
                    · skip
                      go_simp
                      refine (G6.out _ p6 q6 ok6).mono ?_
                      rintro e w88 ⟨p7, rfl, n7⟩
                      have bC := n7.below
                      replace ok8 := ok8.on bC
                      replace ok5 := ok5.on bC
                      replace ok6 := ok6.on bC
                      replace bT := bT.trans (bC.mono bT.size)
                      replace qx := qx.later bC
                      replace gpb := gpb.later bC
                      replace gpa := gpa.later bC
                      replace hHeld := hc3 bC hHeld
                      clear bC
                      go_wp2_with fail
                      have k7 := n7.seg
                      clear n7
                      refine hKK.out _ _ hHeld ?_
                      clear hHeld
                      intro hHeld
                      clear hKK KK
                      try simp only [bP, bN, bS, bZ, bC]
                      refine wpAnyH_ready (rs := [8]) (by kernel_rfl) (by simp) ?_
                      refine cons' rfl (fun KK hKK => ?_)
                      go_simp
                      have qm := Blk.new w88 #[.bool false, .slice none 0 0] 25
                      have bA := below_alloc (w := w88) (.cells #[.bool false, .slice none 0 0] 25)
                      have hqmge := bT.size
                      have hqmqx := qx.lt
                      have hqmc0 := cell_ltB hHeld.1
                      have hqmc1 := cell_ltB hHeld.2.1
                      have hqmc2 := cell_ltB hHeld.2.2
                      generalize w88.alloc (.cells #[.bool false, .slice none 0 0] 25) = w89 at qm bA ⊢
                      replace ok8 := ok8.on bA
                      replace ok5 := ok5.on bA
                      replace ok6 := ok6.on bA
                      replace bT := bT.trans (bA.mono bT.size)
                      replace qx := qx.later bA
                      replace gpb := gpb.later bA
                      replace gpa := gpa.later bA
                      replace k7 := k7.later bA
                      replace hHeld := hc3 bA hHeld
                      clear bA
                      refine hKK.out _ _ hHeld ?_
                      clear hHeld
                      intro hHeld
                      clear hKK KK
                      try simp only [bP, bN, bS, bZ, bC]
                      obtain ⟨cqm, hcc⟩ : ∃ cc, w88.heap.size = cc := ⟨_, rfl⟩
                      rw [hcc] at qm hqmge hqmqx hqmc0 hqmc1 hqmc2
                      try rw [hcc]
                      clear hcc
                      refine wpAnyH_ready (rs := [9]) (by kernel_rfl) (by simp) ?_
                      refine cons' rfl (fun KK hKK => ?_)
                      have z0 := qm.cell 0
                      have z1 := qm.cell 1
                      simp only [List.getElem?_toArray, List.getElem?_cons_zero, List.getElem?_cons_succ] at z0 z1
                      have fz := fun o => qm.frozen o
                      obtain ⟨c9, q9⟩ := qm.set2 (.bool (ng m)) (.slice p7 (ln (am m)) (ln (am m)))
                      have hno := qm.no (by simp)
                      replace qx := qx.ch c9 (by omega)
                      replace gpb := gpb.ch c9 hno
                      replace gpa := gpa.ch c9 hno
                      replace k7 := k7.ch c9 hno
                      replace ok8 := ok8.ch c9 hno
                      replace ok5 := ok5.ch c9 hno
                      replace ok6 := ok6.ch c9 hno
                      replace bT := bT.trans (c9.below (by omega))
                      have hH2 := (⟨(World.cell?_of_block (w := w89) (a := ⟨c8, 0, none⟩) (c9.other (c8) (by omega))).trans hHeld.1, (World.cell?_of_block (w := w89) (a := ⟨c8, 1, none⟩) (c9.other (c8) (by omega))).trans hHeld.2.1, (World.cell?_of_block (w := w89) (a := ⟨c8, 2, none⟩) (c9.other (c8) (by omega))).trans hHeld.2.2⟩ : _ ∧ _ ∧ _)
                      go_simp
                      clear z0 z1 fz hno c9
                      replace qm := q9
                      refine hKK.out _ _ hH2 ?_
                      clear hHeld
                      intro hHeld
                      clear hKK KK
                      try simp only [bP, bN, bS, bZ, bC]
                      clear hH2
                      generalize ((w89.setCell ⟨cqm, 0, none⟩ (.bool (ng m))).setCell ⟨cqm, 1, none⟩ (.slice p7 (ln (am m)) (ln (am m)))) = w90 at bT qx gpb gpa k7 qm ok8 ok5 ok6 hHeld ⊢
                      refine wpAnyH_done (by kernel_rfl) ?_ _
                      go_wp2_with fail
                      go_meet
                      exact ⟨_, _, p7, rfl, rfl, hqmge, qm, k7, bT⟩
                    refine consT rfl (fun KK hKK => ?_) ?_
                    · skip
                      go_simp
                      have qm := Blk.new w87 #[.bool false, .slice none 0 0] 25
                      have bA := below_alloc (w := w87) (.cells #[.bool false, .slice none 0 0] 25)
                      have hqmge := bT.size
                      have hqmqx := qx.lt
                      have hqmc0 := cell_ltB hHeld.1
                      have hqmc1 := cell_ltB hHeld.2.1
                      have hqmc2 := cell_ltB hHeld.2.2
                      generalize w87.alloc (.cells #[.bool false, .slice none 0 0] 25) = w91 at qm bA ⊢
                      replace ok8 := ok8.on bA
                      replace ok5 := ok5.on bA
                      replace ok6 := ok6.on bA
                      replace bT := bT.trans (bA.mono bT.size)
                      replace qx := qx.later bA
                      replace gpb := gpb.later bA
                      replace gpa := gpa.later bA
                      replace hHeld := hc3 bA hHeld
                      clear bA
                      refine hKK.out _ _ hHeld ?_
                      clear hHeld
                      intro hHeld
                      clear hKK KK
                      try simp only [bP, bN, bS, bZ, bC]
                      obtain ⟨cqm, hcc⟩ : ∃ cc, w87.heap.size = cc := ⟨_, rfl⟩
                      rw [hcc] at qm hqmge hqmqx hqmc0 hqmc1 hqmc2
                      try rw [hcc]
                      clear hcc
                      refine wpAnyH_ready (rs := [7]) (by kernel_rfl) (by simp) ?_
                      refine cons' rfl (fun KK hKK => ?_)
                      go_simp
                      refine (G6.out _ p6 q6 ok6).mono ?_
                      rintro e w92 ⟨p7, rfl, n7⟩
                      have bC := n7.below
                      replace ok8 := ok8.on bC
                      replace ok5 := ok5.on bC
                      replace ok6 := ok6.on bC
                      replace bT := bT.trans (bC.mono bT.size)
                      replace qx := qx.later bC
                      replace gpb := gpb.later bC
                      replace gpa := gpa.later bC
                      replace qm := qm.later bC
                      replace hHeld := hc3 bC hHeld
                      clear bC
                      go_wp2_with fail
                      have k7 := n7.seg
                      clear n7
                      refine hKK.out _ _ hHeld ?_
                      clear hHeld
                      intro hHeld
                      clear hKK KK
                      try simp only [bP, bN, bS, bZ, bC]
                      refine wpAnyH_ready (rs := [9]) (by kernel_rfl) (by simp) ?_
                      refine cons' rfl (fun KK hKK => ?_)
                      have z0 := qm.cell 0
                      have z1 := qm.cell 1
                      simp only [List.getElem?_toArray, List.getElem?_cons_zero, List.getElem?_cons_succ] at z0 z1
                      have fz := fun o => qm.frozen o
                      obtain ⟨c9, q9⟩ := qm.set2 (.bool (ng m)) (.slice p7 (ln (am m)) (ln (am m)))
                      have hno := qm.no (by simp)
                      replace qx := qx.ch c9 (by omega)
                      replace gpb := gpb.ch c9 hno
                      replace gpa := gpa.ch c9 hno
                      replace k7 := k7.ch c9 hno
                      replace ok8 := ok8.ch c9 hno
                      replace ok5 := ok5.ch c9 hno
                      replace ok6 := ok6.ch c9 hno
                      replace bT := bT.trans (c9.below (by omega))
                      have hH2 := (⟨(World.cell?_of_block (w := w92) (a := ⟨c8, 0, none⟩) (c9.other (c8) (by omega))).trans hHeld.1, (World.cell?_of_block (w := w92) (a := ⟨c8, 1, none⟩) (c9.other (c8) (by omega))).trans hHeld.2.1, (World.cell?_of_block (w := w92) (a := ⟨c8, 2, none⟩) (c9.other (c8) (by omega))).trans hHeld.2.2⟩ : _ ∧ _ ∧ _)
                      go_simp
                      clear z0 z1 fz hno c9
                      replace qm := q9
                      refine hKK.out _ _ hH2 ?_
                      clear hHeld
                      intro hHeld
                      clear hKK KK
                      try simp only [bP, bN, bS, bZ, bC]
                      clear hH2
                      generalize ((w92.setCell ⟨cqm, 0, none⟩ (.bool (ng m))).setCell ⟨cqm, 1, none⟩ (.slice p7 (ln (am m)) (ln (am m)))) = w93 at bT qx gpb gpa qm k7 ok8 ok5 ok6 hHeld ⊢
                      refine wpAnyH_done (by kernel_rfl) ?_ _
                      go_wp2_with fail
                      go_meet
                      exact ⟨_, _, p7, rfl, rfl, hqmge, qm, k7, bT⟩
                    exact AllReadyH.nil
                  refine consT rfl (fun KK hKK => ?_) ?_
                  · skip
                    go_simp
                    have qm := Blk.new w86 #[.bool false, .slice none 0 0] 25
                    have bA := below_alloc (w := w86) (.cells #[.bool false, .slice none 0 0] 25)
                    have hqmge := bT.size
                    have hqmqx := qx.lt
                    have hqmc0 := cell_ltB hHeld.1
                    have hqmc1 := cell_ltB hHeld.2.1
                    have hqmc2 := cell_ltB hHeld.2.2
                    generalize w86.alloc (.cells #[.bool false, .slice none 0 0] 25) = w94 at qm bA ⊢
                    replace ok8 := ok8.on bA
                    replace ok5 := ok5.on bA
                    replace bT := bT.trans (bA.mono bT.size)
                    replace qx := qx.later bA
                    replace gpb := gpb.later bA
                    replace gpa := gpa.later bA
                    replace hHeld := hc3 bA hHeld
                    clear bA
                    refine hKK.out _ _ hHeld ?_
                    clear hHeld
                    intro hHeld
                    clear hKK KK
                    try simp only [bP, bN, bS, bZ, bC]
                    obtain ⟨cqm, hcc⟩ : ∃ cc, w86.heap.size = cc := ⟨_, rfl⟩
                    rw [hcc] at qm hqmge hqmqx hqmc0 hqmc1 hqmc2
                    try rw [hcc]
                    clear hcc
                    refine wpAnyH_ready (rs := [6]) (by kernel_rfl) (by simp) ?_
                    refine cons' rfl (fun KK hKK => ?_)
                    go_simp
                    refine (G5.out _ p8 q8 p5 q5 ok8 ok5).mono ?_
                    rintro e w95 ⟨p6, q6, rfl, b6, ok6⟩
                    have bC := b6
                    replace ok8 := ok8.on bC
                    replace ok5 := ok5.on bC
                    replace bT := bT.trans (bC.mono bT.size)
                    replace qx := qx.later bC
                    replace gpb := gpb.later bC
                    replace gpa := gpa.later bC
                    replace qm := qm.later bC
                    replace hHeld := hc3 bC hHeld
                    clear bC
                    go_wp2_with fail
                    clear b6
                    refine hKK.out _ _ hHeld ?_
                    clear hHeld
                    intro hHeld
                    clear hKK KK
                    try simp only [bP, bN, bS, bZ, bC]
                    refine wpAnyH_ready (rs := [7]) (by kernel_rfl) (by simp) ?_
                    refine cons' rfl (fun KK hKK => ?_)
                    go_simp
                    refine (G6.out _ p6 q6 ok6).mono ?_
                    rintro e w96 ⟨p7, rfl, n7⟩
                    have bC := n7.below
                    replace ok8 := ok8.on bC
                    replace ok5 := ok5.on bC
                    replace ok6 := ok6.on bC
                    replace bT := bT.trans (bC.mono bT.size)
                    replace qx := qx.later bC
                    replace gpb := gpb.later bC
                    replace gpa := gpa.later bC
                    replace qm := qm.later bC
                    replace hHeld := hc3 bC hHeld
                    clear bC
                    go_wp2_with fail
                    have k7 := n7.seg
                    clear n7
                    refine hKK.out _ _ hHeld ?_
                    clear hHeld
                    intro hHeld
                    clear hKK KK
                    try simp only [bP, bN, bS, bZ, bC]
                    refine wpAnyH_ready (rs := [9]) (by kernel_rfl) (by simp) ?_
                    refine cons' rfl (fun KK hKK => ?_)
                    have z0 := qm.cell 0
                    have z1 := qm.cell 1
                    simp only [List.getElem?_toArray, List.getElem?_cons_zero, List.getElem?_cons_succ] at z0 z1
                    have fz := fun o => qm.frozen o
                    obtain ⟨c9, q9⟩ := qm.set2 (.bool (ng m)) (.slice p7 (ln (am m)) (ln (am m)))
                    have hno := qm.no (by simp)
                    replace qx := qx.ch c9 (by omega)
                    replace gpb := gpb.ch c9 hno
                    replace gpa := gpa.ch c9 hno
                    replace k7 := k7.ch c9 hno
                    replace ok8 := ok8.ch c9 hno
                    replace ok5 := ok5.ch c9 hno
                    replace ok6 := ok6.ch c9 hno
                    replace bT := bT.trans (c9.below (by omega))
                    have hH2 := (⟨(World.cell?_of_block (w := w96) (a := ⟨c8, 0, none⟩) (c9.other (c8) (by omega))).trans hHeld.1, (World.cell?_of_block (w := w96) (a := ⟨c8, 1, none⟩) (c9.other (c8) (by omega))).trans hHeld.2.1, (World.cell?_of_block (w := w96) (a := ⟨c8, 2, none⟩) (c9.other (c8) (by omega))).trans hHeld.2.2⟩ : _ ∧ _ ∧ _)
                    go_simp
                    clear z0 z1 fz hno c9
                    replace qm := q9
                    refine hKK.out _ _ hH2 ?_
                    clear hHeld
                    intro hHeld
                    clear hKK KK
                    try simp only [bP, bN, bS, bZ, bC]
                    clear hH2
                    generalize ((w96.setCell ⟨cqm, 0, none⟩ (.bool (ng m))).setCell ⟨cqm, 1, none⟩ (.slice p7 (ln (am m)) (ln (am m)))) = w97 at bT qx gpb gpa qm k7 ok8 ok5 ok6 hHeld ⊢
                    refine wpAnyH_done (by kernel_rfl) ?_ _
                    go_wp2_with fail
                    go_meet
                    exact ⟨_, _, p7, rfl, rfl, hqmge, qm, k7, bT⟩
                  exact AllReadyH.nil
                refine consT rfl (fun KK hKK => ?_) ?_
                · skip
                  go_simp
                  have qm := Blk.new w85 #[.bool false, .slice none 0 0] 25
                  have bA := below_alloc (w := w85) (.cells #[.bool false, .slice none 0 0] 25)
                  have hqmge := bT.size
                  have hqmqx := qx.lt
                  have hqmc0 := cell_ltB hHeld.1
                  have hqmc1 := cell_ltB hHeld.2.1
                  have hqmc2 := cell_ltB hHeld.2.2
                  generalize w85.alloc (.cells #[.bool false, .slice none 0 0] 25) = w98 at qm bA ⊢
                  replace ok8 := ok8.on bA
                  replace bT := bT.trans (bA.mono bT.size)
                  replace qx := qx.later bA
                  replace gpb := gpb.later bA
                  replace gpa := gpa.later bA
                  replace hHeld := hc3 bA hHeld
                  clear bA
                  refine hKK.out _ _ hHeld ?_
                  clear hHeld
                  intro hHeld
                  clear hKK KK
                  try simp only [bP, bN, bS, bZ, bC]
                  obtain ⟨cqm, hcc⟩ : ∃ cc, w85.heap.size = cc := ⟨_, rfl⟩
                  rw [hcc] at qm hqmge hqmqx hqmc0 hqmc1 hqmc2
                  try rw [hcc]
                  clear hcc
                  refine wpAnyH_ready (rs := [5]) (by kernel_rfl) (by simp) ?_
                  refine cons' rfl (fun KK hKK => ?_)
                  go_simp
                  refine (G4.out _ pa pb gpa gpb).mono ?_
                  rintro e w99 ⟨p5, q5, rfl, b5, ok5⟩
                  have bC := b5
                  replace ok8 := ok8.on bC
                  replace bT := bT.trans (bC.mono bT.size)
                  replace qx := qx.later bC
                  replace gpb := gpb.later bC
                  replace gpa := gpa.later bC
                  replace qm := qm.later bC
                  replace hHeld := hc3 bC hHeld
                  clear bC
                  go_wp2_with fail
                  clear b5
                  refine hKK.out _ _ hHeld ?_
                  clear hHeld
                  intro hHeld
                  clear hKK KK
                  try simp only [bP, bN, bS, bZ, bC]
                  refine wpAnyH_ready (rs := [6]) (by kernel_rfl) (by simp) ?_
                  refine cons' rfl (fun KK hKK => ?_)
                  go_simp
                  refine (G5.out _ p8 q8 p5 q5 ok8 ok5).mono ?_
                  rintro e w100 ⟨p6, q6, rfl, b6, ok6⟩
                  have bC := b6
                  replace ok8 := ok8.on bC
                  replace ok5 := ok5.on bC
                  replace bT := bT.trans (bC.mono bT.size)
                  replace qx := qx.later bC
                  replace gpb := gpb.later bC
                  replace gpa := gpa.later bC
                  replace qm := qm.later bC
                  replace hHeld := hc3 bC hHeld
                  clear bC
                  go_wp2_with fail
                  clear b6
                  refine hKK.out _ _ hHeld ?_
                  clear hHeld
                  intro hHeld
                  clear hKK KK
                  try simp only [bP, bN, bS, bZ, bC]
                  refine wpAnyH_ready (rs := [7]) (by kernel_rfl) (by simp) ?_
                  refine cons' rfl (fun KK hKK => ?_)
                  go_simp
                  refine (G6.out _ p6 q6 ok6).mono ?_
                  rintro e w101 ⟨p7, rfl, n7⟩
                  have bC := n7.below
                  replace ok8 := ok8.on bC
                  replace ok5 := ok5.on bC
                  replace ok6 := ok6.on bC
                  replace bT := bT.trans (bC.mono bT.size)
                  replace qx := qx.later bC
                  replace gpb := gpb.later bC
                  replace gpa := gpa.later bC
                  replace qm := qm.later bC
                  replace hHeld := hc3 bC hHeld
                  clear bC
                  go_wp2_with fail
                  have k7 := n7.seg
                  clear n7
                  refine hKK.out _ _ hHeld ?_
                  clear hHeld
                  intro hHeld
                  clear hKK KK
                  try simp only [bP, bN, bS, bZ, bC]
                  refine wpAnyH_ready (rs := [9]) (by kernel_rfl) (by simp) ?_
                  refine cons' rfl (fun KK hKK => ?_)
                  have z0 := qm.cell 0
                  have z1 := qm.cell 1
                  simp only [List.getElem?_toArray, List.getElem?_cons_zero, List.getElem?_cons_succ] at z0 z1
                  have fz := fun o => qm.frozen o
                  obtain ⟨c9, q9⟩ := qm.set2 (.bool (ng m)) (.slice p7 (ln (am m)) (ln (am m)))
                  have hno := qm.no (by simp)
                  replace qx := qx.ch c9 (by omega)
                  replace gpb := gpb.ch c9 hno
                  replace gpa := gpa.ch c9 hno
                  replace k7 := k7.ch c9 hno
                  replace ok8 := ok8.ch c9 hno
                  replace ok5 := ok5.ch c9 hno
                  replace ok6 := ok6.ch c9 hno
                  replace bT := bT.trans (c9.below (by omega))
                  have hH2 := (⟨(World.cell?_of_block (w := w101) (a := ⟨c8, 0, none⟩) (c9.other (c8) (by omega))).trans hHeld.1, (World.cell?_of_block (w := w101) (a := ⟨c8, 1, none⟩) (c9.other (c8) (by omega))).trans hHeld.2.1, (World.cell?_of_block (w := w101) (a := ⟨c8, 2, none⟩) (c9.other (c8) (by omega))).trans hHeld.2.2⟩ : _ ∧ _ ∧ _)
                  go_simp
                  clear z0 z1 fz hno c9
                  replace qm := q9
                  refine hKK.out _ _ hH2 ?_
                  clear hHeld
                  intro hHeld
                  clear hKK KK
                  try simp only [bP, bN, bS, bZ, bC]
                  clear hH2
                  generalize ((w101.setCell ⟨cqm, 0, none⟩ (.bool (ng m))).setCell ⟨cqm, 1, none⟩ (.slice p7 (ln (am m)) (ln (am m)))) = w102 at bT qx gpb gpa qm k7 ok8 ok5 ok6 hHeld ⊢
                  refine wpAnyH_done (by kernel_rfl) ?_ _
                  go_wp2_with fail
                  go_meet
                  exact ⟨_, _, p7, rfl, rfl, hqmge, qm, k7, bT⟩
                exact AllReadyH.nil
              refine consT rfl (fun KK hKK => ?_) ?_
              · skip
                go_simp
                have qm := Blk.new w84 #[.bool false, .slice none 0 0] 25
                have bA := below_alloc (w := w84) (.cells #[.bool false, .slice none 0 0] 25)
                have hqmge := bT.size
                have hqmqx := qx.lt
                have hqmc0 := cell_ltB hHeld.1
                have hqmc1 := cell_ltB hHeld.2.1
                have hqmc2 := cell_ltB hHeld.2.2
                generalize w84.alloc (.cells #[.bool false, .slice none 0 0] 25) = w103 at qm bA ⊢
                replace ok8 := ok8.on bA
                replace bT := bT.trans (bA.mono bT.size)
                replace qx := qx.later bA
                replace gpb := gpb.later bA
                replace gpa := gpa.later bA
                replace hHeld := hc3 bA hHeld
                clear bA
                refine hKK.out _ _ hHeld ?_
                clear hHeld
                intro hHeld
                clear hKK KK
                try simp only [bP, bN, bS, bZ, bC]
                obtain ⟨cqm, hcc⟩ : ∃ cc, w84.heap.size = cc := ⟨_, rfl⟩
                rw [hcc] at qm hqmge hqmqx hqmc0 hqmc1 hqmc2
                try rw [hcc]
                clear hcc
                refine wpAnyH_ready (rs := [2]) (by kernel_rfl) (by simp) ?_
                refine cons' rfl (fun KK hKK => ?_)
                go_simp
                refine (positive_is (some ⟨pa, 0, none⟩) 1 1 _).mono ?_
                rintro e w104 ⟨rfl, b2⟩
                have bC := b2
                replace ok8 := ok8.on bC
                replace bT := bT.trans (bC.mono bT.size)
                replace qx := qx.later bC
                replace gpb := gpb.later bC
                replace gpa := gpa.later bC
                replace qm := qm.later bC
                replace hHeld := hc3 bC hHeld
                clear bC
                go_wp2_with fail
                clear b2
                refine hKK.out _ _ hHeld ?_
                clear hHeld
                intro hHeld
                clear hKK KK
                try simp only [bP, bN, bS, bZ, bC]
                refine tkb 4 (v := ?_) rfl (Or.inl ⟨by rfl, ?_⟩) ?_
                rotate_left
                · intro w9 hSw
                  go_simp
                  first | done | with_reducible rfl
                simp only [bP, bN, bS, bZ, bC]
                refine wpAnyH_ready (rs := [5]) (by kernel_rfl) (by simp) ?_
                refine cons' rfl (fun KK hKK => ?_)
                go_simp
                refine (G4.out _ pa pb gpa gpb).mono ?_
                rintro e w105 ⟨p5, q5, rfl, b5, ok5⟩
                have bC := b5
                replace ok8 := ok8.on bC
                replace bT := bT.trans (bC.mono bT.size)
                replace qx := qx.later bC
                replace gpb := gpb.later bC
                replace gpa := gpa.later bC
                replace qm := qm.later bC
                replace hHeld := hc3 bC hHeld
                clear bC
                go_wp2_with fail
                clear b5
                refine hKK.out _ _ hHeld ?_
                clear hHeld
                intro hHeld
                clear hKK KK
                try simp only [bP, bN, bS, bZ, bC]
                refine wpAnyH_ready (rs := [6]) (by kernel_rfl) (by simp) ?_
                refine cons' rfl (fun KK hKK => ?_)
                go_simp
                refine (G5.out _ p8 q8 p5 q5 ok8 ok5).mono ?_
                rintro e w106 ⟨p6, q6, rfl, b6, ok6⟩
                have bC := b6
                replace ok8 := ok8.on bC
                replace ok5 := ok5.on bC
                replace bT := bT.trans (bC.mono bT.size)
                replace qx := qx.later bC
                replace gpb := gpb.later bC
                replace gpa := gpa.later bC
                replace qm := qm.later bC
                replace hHeld := hc3 bC hHeld
                clear bC
                go_wp2_with fail
                clear b6
                refine hKK.out _ _ hHeld ?_
                clear hHeld
                intro hHeld
                clear hKK KK
                try simp only [bP, bN, bS, bZ, bC]
                refine wpAnyH_ready (rs := [7]) (by kernel_rfl) (by simp) ?_
                refine cons' rfl (fun KK hKK => ?_)
                go_simp
                refine (G6.out _ p6 q6 ok6).mono ?_
                rintro e w107 ⟨p7, rfl, n7⟩
                have bC := n7.below
                replace ok8 := ok8.on bC
                replace ok5 := ok5.on bC
                replace ok6 := ok6.on bC
                replace bT := bT.trans (bC.mono bT.size)
                replace qx := qx.later bC
                replace gpb := gpb.later bC
                replace gpa := gpa.later bC
                replace qm := qm.later bC
                replace hHeld := hc3 bC hHeld
                clear bC
                go_wp2_with fail
                have k7 := n7.seg
                clear n7
                refine hKK.out _ _ hHeld ?_
                clear hHeld
                intro hHeld
                clear hKK KK
                try simp only [bP, bN, bS, bZ, bC]
                refine wpAnyH_ready (rs := [9]) (by kernel_rfl) (by simp) ?_
                refine cons' rfl (fun KK hKK => ?_)
                have z0 := qm.cell 0
                have z1 := qm.cell 1
                simp only [List.getElem?_toArray, List.getElem?_cons_zero, List.getElem?_cons_succ] at z0 z1
                have fz := fun o => qm.frozen o
                obtain ⟨c9, q9⟩ := qm.set2 (.bool (ng m)) (.slice p7 (ln (am m)) (ln (am m)))
                have hno := qm.no (by simp)
                replace qx := qx.ch c9 (by omega)
                replace gpb := gpb.ch c9 hno
                replace gpa := gpa.ch c9 hno
                replace k7 := k7.ch c9 hno
                replace ok8 := ok8.ch c9 hno
                replace ok5 := ok5.ch c9 hno
                replace ok6 := ok6.ch c9 hno
                replace bT := bT.trans (c9.below (by omega))
                have hH2 := (⟨(World.cell?_of_block (w := w107) (a := ⟨c8, 0, none⟩) (c9.other (c8) (by omega))).trans hHeld.1, (World.cell?_of_block (w := w107) (a := ⟨c8, 1, none⟩) (c9.other (c8) (by omega))).trans hHeld.2.1, (World.cell?_of_block (w := w107) (a := ⟨c8, 2, none⟩) (c9.other (c8) (by omega))).trans hHeld.2.2⟩ : _ ∧ _ ∧ _)
                go_simp
                clear z0 z1 fz hno c9
                replace qm := q9
                refine hKK.out _ _ hH2 ?_
                clear hHeld
                intro hHeld
                clear hKK KK
                try simp only [bP, bN, bS, bZ, bC]
                clear hH2
                generalize ((w107.setCell ⟨cqm, 0, none⟩ (.bool (ng m))).setCell ⟨cqm, 1, none⟩ (.slice p7 (ln (am m)) (ln (am m)))) = w108 at bT qx gpb gpa qm k7 ok8 ok5 ok6 hHeld ⊢
                refine wpAnyH_done (by kernel_rfl) ?_ _
                go_wp2_with fail
                go_meet
                exact ⟨_, _, p7, rfl, rfl, hqmge, qm, k7, bT⟩
              exact AllReadyH.nil
            refine consT rfl (fun KK hKK => ?_) ?_
            · skip
              go_simp
              have qm := Blk.new w83 #[.bool false, .slice none 0 0] 25
              have bA := below_alloc (w := w83) (.cells #[.bool false, .slice none 0 0] 25)
              have hqmge := bT.size
              have hqmqx := qx.lt
              have hqmc0 := cell_ltB hHeld.1
              have hqmc1 := cell_ltB hHeld.2.1
              have hqmc2 := cell_ltB hHeld.2.2
              generalize w83.alloc (.cells #[.bool false, .slice none 0 0] 25) = w109 at qm bA ⊢
              replace ok8 := ok8.on bA
              replace bT := bT.trans (bA.mono bT.size)
              replace qx := qx.later bA
              replace gpb := gpb.later bA
              replace hHeld := hc3 bA hHeld
              clear bA
              refine hKK.out _ _ hHeld ?_
              clear hHeld
              intro hHeld
              clear hKK KK
              try simp only [bP, bN, bS, bZ, bC]
              obtain ⟨cqm, hcc⟩ : ∃ cc, w83.heap.size = cc := ⟨_, rfl⟩
              rw [hcc] at qm hqmge hqmqx hqmc0 hqmc1 hqmc2
              try rw [hcc]
              clear hcc
              refine wpAnyH_ready (rs := [1]) (by kernel_rfl) (by simp) ?_
              refine cons' rfl (fun KK hKK => ?_)
              go_simp
              have n9 := single_new w109 1 38 1 (by omega) rfl
              have gpa := n9.seg
              have bA := n9.below
              clear n9
              generalize w109.alloc (.cells #[.int .u32 1] 38) = w110 at gpa bA ⊢
              replace ok8 := ok8.on bA
              replace bT := bT.trans (bA.mono bT.size)
              replace qx := qx.later bA
              replace gpb := gpb.later bA
              replace qm := qm.later bA
              replace hHeld := hc3 bA hHeld
              clear bA
              refine hKK.out _ _ hHeld ?_
              clear hHeld
              intro hHeld
              clear hKK KK
              try simp only [bP, bN, bS, bZ, bC]
              obtain ⟨pa, hcc⟩ : ∃ cc, w109.heap.size = cc := ⟨_, rfl⟩
              rw [hcc] at gpa
              try rw [hcc]
              clear hcc
              refine wpAnyH_ready (rs := [2]) (by kernel_rfl) (by simp) ?_
              refine cons' rfl (fun KK hKK => ?_)
              go_simp
              refine (positive_is (some ⟨pa, 0, none⟩) 1 1 _).mono ?_
              rintro e w111 ⟨rfl, b2⟩
              have bC := b2
              replace ok8 := ok8.on bC
              replace bT := bT.trans (bC.mono bT.size)
              replace qx := qx.later bC
              replace gpb := gpb.later bC
              replace qm := qm.later bC
              replace gpa := gpa.later bC
              replace hHeld := hc3 bC hHeld
              clear bC
              go_wp2_with fail
              clear b2
              refine hKK.out _ _ hHeld ?_
              clear hHeld
              intro hHeld
              clear hKK KK
              try simp only [bP, bN, bS, bZ, bC]
              refine tkb 4 (v := ?_) rfl (Or.inl ⟨by rfl, ?_⟩) ?_
              rotate_left
              · intro w9 hSw
                go_simp
                first | done | with_reducible rfl
              simp only [bP, bN, bS, bZ, bC]
              refine wpAnyH_ready (rs := [5]) (by kernel_rfl) (by simp) ?_
              refine cons' rfl (fun KK hKK => ?_)
              go_simp
              refine (G4.out _ pa pb gpa gpb).mono ?_
              rintro e w112 ⟨p5, q5, rfl, b5, ok5⟩
              have bC := b5
              replace ok8 := ok8.on bC
              replace bT := bT.trans (bC.mono bT.size)
              replace qx := qx.later bC
              replace gpb := gpb.later bC
              replace qm := qm.later bC
              replace gpa := gpa.later bC
              replace hHeld := hc3 bC hHeld
              clear bC
              go_wp2_with fail
              clear b5
              refine hKK.out _ _ hHeld ?_
              clear hHeld
              intro hHeld
              clear hKK KK
              try simp only [bP, bN, bS, bZ, bC]
              refine wpAnyH_ready (rs := [6]) (by kernel_rfl) (by simp) ?_
              refine cons' rfl (fun KK hKK => ?_)
              go_simp
              refine (G5.out _ p8 q8 p5 q5 ok8 ok5).mono ?_
              rintro e w113 ⟨p6, q6, rfl, b6, ok6⟩
              have bC := b6
              replace ok8 := ok8.on bC
              replace ok5 := ok5.on bC
              replace bT := bT.trans (bC.mono bT.size)
              replace qx := qx.later bC
              replace gpb := gpb.later bC
              replace qm := qm.later bC
              replace gpa := gpa.later bC
              replace hHeld := hc3 bC hHeld
              clear bC
              go_wp2_with fail
              clear b6
              refine hKK.out _ _ hHeld ?_
              clear hHeld
              intro hHeld
              clear hKK KK
              try simp only [bP, bN, bS, bZ, bC]
              refine wpAnyH_ready (rs := [7]) (by kernel_rfl) (by simp) ?_
              refine cons' rfl (fun KK hKK => ?_)
              go_simp
              refine (G6.out _ p6 q6 ok6).mono ?_
              rintro e w114 ⟨p7, rfl, n7⟩
              have bC := n7.below
              replace ok8 := ok8.on bC
              replace ok5 := ok5.on bC
              replace ok6 := ok6.on bC
              replace bT := bT.trans (bC.mono bT.size)
              replace qx := qx.later bC
              replace gpb := gpb.later bC
              replace qm := qm.later bC
              replace gpa := gpa.later bC
              replace hHeld := hc3 bC hHeld
              clear bC
              go_wp2_with fail
              have k7 := n7.seg
              clear n7
              refine hKK.out _ _ hHeld ?_
              clear hHeld
              intro hHeld
              clear hKK KK
              try simp only [bP, bN, bS, bZ, bC]
              refine wpAnyH_ready (rs := [9]) (by kernel_rfl) (by simp) ?_
              refine cons' rfl (fun KK hKK => ?_)
              have z0 := qm.cell 0
              have z1 := qm.cell 1
              simp only [List.getElem?_toArray, List.getElem?_cons_zero, List.getElem?_cons_succ] at z0 z1
              have fz := fun o => qm.frozen o
              obtain ⟨c9, q9⟩ := qm.set2 (.bool (ng m)) (.slice p7 (ln (am m)) (ln (am m)))
              have hno := qm.no (by simp)
              replace qx := qx.ch c9 (by omega)
              replace gpb := gpb.ch c9 hno
              replace gpa := gpa.ch c9 hno
              replace k7 := k7.ch c9 hno
              replace ok8 := ok8.ch c9 hno
              replace ok5 := ok5.ch c9 hno
              replace ok6 := ok6.ch c9 hno
              replace bT := bT.trans (c9.below (by omega))
              have hH2 := (⟨(World.cell?_of_block (w := w114) (a := ⟨c8, 0, none⟩) (c9.other (c8) (by omega))).trans hHeld.1, (World.cell?_of_block (w := w114) (a := ⟨c8, 1, none⟩) (c9.other (c8) (by omega))).trans hHeld.2.1, (World.cell?_of_block (w := w114) (a := ⟨c8, 2, none⟩) (c9.other (c8) (by omega))).trans hHeld.2.2⟩ : _ ∧ _ ∧ _)
              go_simp
              clear z0 z1 fz hno c9
              replace qm := q9
              refine hKK.out _ _ hH2 ?_
              clear hHeld
              intro hHeld
              clear hKK KK
              try simp only [bP, bN, bS, bZ, bC]
              clear hH2
              generalize ((w114.setCell ⟨cqm, 0, none⟩ (.bool (ng m))).setCell ⟨cqm, 1, none⟩ (.slice p7 (ln (am m)) (ln (am m)))) = w115 at bT qx gpb qm gpa k7 ok8 ok5 ok6 hHeld ⊢
              refine wpAnyH_done (by kernel_rfl) ?_ _
              go_wp2_with fail
              go_meet
              exact ⟨_, _, p7, rfl, rfl, hqmge, qm, k7, bT⟩
            exact AllReadyH.nil
          refine consT rfl (fun KK hKK => ?_) ?_
          · skip
            go_simp
            have qm := Blk.new wF0 #[.bool false, .slice none 0 0] 25
            have bA := below_alloc (w := wF0) (.cells #[.bool false, .slice none 0 0] 25)
            have hqmge := bT.size
            have hqmqx := qx.lt
            have hqmc0 := cell_ltB hHeld.1
            have hqmc1 := cell_ltB hHeld.2.1
            have hqmc2 := cell_ltB hHeld.2.2
            generalize wF0.alloc (.cells #[.bool false, .slice none 0 0] 25) = w116 at qm bA ⊢
            replace ok8 := ok8.on bA
            replace bT := bT.trans (bA.mono bT.size)
            replace qx := qx.later bA
            replace hHeld := hc3 bA hHeld
            clear bA
            refine hKK.out _ _ hHeld ?_
            clear hHeld
            intro hHeld
            clear hKK KK
            try simp only [bP, bN, bS, bZ, bC]
            obtain ⟨cqm, hcc⟩ : ∃ cc, wF0.heap.size = cc := ⟨_, rfl⟩
            rw [hcc] at qm hqmge hqmqx hqmc0 hqmc1 hqmc2
            try rw [hcc]
            clear hcc
            refine wpAnyH_ready (rs := [1, 3]) (by kernel_rfl) (by simp) ?_
            refine consT rfl (fun KK hKK => ?_) ?_
            · skip
              go_simp
              have n9 := single_new w116 1 38 1 (by omega) rfl
              have gpa := n9.seg
              have bA := n9.below
              clear n9
              generalize w116.alloc (.cells #[.int .u32 1] 38) = w117 at gpa bA ⊢
              replace ok8 := ok8.on bA
              replace bT := bT.trans (bA.mono bT.size)
              replace qx := qx.later bA
              replace qm := qm.later bA
              replace hHeld := hc3 bA hHeld
              clear bA
              refine hKK.out _ _ hHeld ?_
              clear hHeld
              intro hHeld
              clear hKK KK
              try simp only [bP, bN, bS, bZ, bC]
              obtain ⟨pa, hcc⟩ : ∃ cc, w116.heap.size = cc := ⟨_, rfl⟩
              rw [hcc] at gpa
              try rw [hcc]
              clear hcc
              refine wpAnyH_ready (rs := [2, 3]) (by kernel_rfl) (by simp) ?_
              refine consT rfl (fun KK hKK => ?_) ?_
              · skip
                go_simp
                refine (positive_is (some ⟨pa, 0, none⟩) 1 1 _).mono ?_
                rintro e w118 ⟨rfl, b2⟩
                have bC := b2
                replace ok8 := ok8.on bC
                replace bT := bT.trans (bC.mono bT.size)
                replace qx := qx.later bC
                replace qm := qm.later bC
                replace gpa := gpa.later bC
                replace hHeld := hc3 bC hHeld
                clear bC
                go_wp2_with fail
                clear b2
                refine hKK.out _ _ hHeld ?_
                clear hHeld
                intro hHeld
                clear hKK KK
                try simp only [bP, bN, bS, bZ, bC]
                refine wpAnyH_ready (rs := [3]) (by kernel_rfl) (by simp) ?_
                refine cons' rfl (fun KK hKK => ?_)
                go_simp
                have n9 := single_new w118 2 38 2 (by omega) rfl
                have gpb := n9.seg
                have bA := n9.below
                clear n9
                generalize w118.alloc (.cells #[.int .u32 2] 38) = w119 at gpb bA ⊢
                replace ok8 := ok8.on bA
                replace bT := bT.trans (bA.mono bT.size)
                replace qx := qx.later bA
                replace qm := qm.later bA
                replace gpa := gpa.later bA
                replace hHeld := hc3 bA hHeld
                clear bA
                refine hKK.out _ _ hHeld ?_
                clear hHeld
                intro hHeld
                clear hKK KK
                try simp only [bP, bN, bS, bZ, bC]
                obtain ⟨pb, hcc⟩ : ∃ cc, w118.heap.size = cc := ⟨_, rfl⟩
                rw [hcc] at gpb
                try rw [hcc]
                clear hcc
                refine tkb 4 (v := ?_) rfl (Or.inl ⟨by rfl, ?_⟩) ?_
                rotate_left
                · intro w9 hSw
                  go_simp
                  first | done | with_reducible rfl
                simp only [bP, bN, bS, bZ, bC]
                refine wpAnyH_ready (rs := [5]) (by kernel_rfl) (by simp) ?_
                refine cons' rfl (fun KK hKK => ?_)
                go_simp
                refine (G4.out _ pa pb gpa gpb).mono ?_
                rintro e w120 ⟨p5, q5, rfl, b5, ok5⟩
                have bC := b5
                replace ok8 := ok8.on bC
                replace bT := bT.trans (bC.mono bT.size)
                replace qx := qx.later bC
                replace qm := qm.later bC
                replace gpa := gpa.later bC
                replace gpb := gpb.later bC
                replace hHeld := hc3 bC hHeld
                clear bC
                go_wp2_with fail
                clear b5
                refine hKK.out _ _ hHeld ?_
                clear hHeld
                intro hHeld
                clear hKK KK
                try simp only [bP, bN, bS, bZ, bC]
                refine wpAnyH_ready (rs := [6]) (by kernel_rfl) (by simp) ?_
                refine cons' rfl (fun KK hKK => ?_)
                go_simp
                refine (G5.out _ p8 q8 p5 q5 ok8 ok5).mono ?_
                rintro e w121 ⟨p6, q6, rfl, b6, ok6⟩
                have bC := b6
                replace ok8 := ok8.on bC
                replace ok5 := ok5.on bC
                replace bT := bT.trans (bC.mono bT.size)
                replace qx := qx.later bC
                replace qm := qm.later bC
                replace gpa := gpa.later bC
                replace gpb := gpb.later bC
                replace hHeld := hc3 bC hHeld
                clear bC
                go_wp2_with fail
                clear b6
                refine hKK.out _ _ hHeld ?_
                clear hHeld
                intro hHeld
                clear hKK KK
                try simp only [bP, bN, bS, bZ, bC]
                refine wpAnyH_ready (rs := [7]) (by kernel_rfl) (by simp) ?_
                refine cons' rfl (fun KK hKK => ?_)
                go_simp
                refine (G6.out _ p6 q6 ok6).mono ?_
                rintro e w122 ⟨p7, rfl, n7⟩
                have bC := n7.below
                replace ok8 := ok8.on bC
                replace ok5 := ok5.on bC
                replace ok6 := ok6.on bC
                replace bT := bT.trans (bC.mono bT.size)
                replace qx := qx.later bC
                replace qm := qm.later bC
                replace gpa := gpa.later bC
                replace gpb := gpb.later bC
                replace hHeld := hc3 bC hHeld
                clear bC
                go_wp2_with fail
                have k7 := n7.seg
                clear n7
                refine hKK.out _ _ hHeld ?_
                clear hHeld
                intro hHeld
                clear hKK KK
                try simp only [bP, bN, bS, bZ, bC]
                refine wpAnyH_ready (rs := [9]) (by kernel_rfl) (by simp) ?_
                refine cons' rfl (fun KK hKK => ?_)
                have z0 := qm.cell 0
                have z1 := qm.cell 1
                simp only [List.getElem?_toArray, List.getElem?_cons_zero, List.getElem?_cons_succ] at z0 z1
                have fz := fun o => qm.frozen o
                obtain ⟨c9, q9⟩ := qm.set2 (.bool (ng m)) (.slice p7 (ln (am m)) (ln (am m)))
                have hno := qm.no (by simp)
                replace qx := qx.ch c9 (by omega)
                replace gpa := gpa.ch c9 hno
                replace gpb := gpb.ch c9 hno
                replace k7 := k7.ch c9 hno
                replace ok8 := ok8.ch c9 hno
                replace ok5 := ok5.ch c9 hno
                replace ok6 := ok6.ch c9 hno
                replace bT := bT.trans (c9.below (by omega))
                have hH2 := (⟨(World.cell?_of_block (w := w122) (a := ⟨c8, 0, none⟩) (c9.other (c8) (by omega))).trans hHeld.1, (World.cell?_of_block (w := w122) (a := ⟨c8, 1, none⟩) (c9.other (c8) (by omega))).trans hHeld.2.1, (World.cell?_of_block (w := w122) (a := ⟨c8, 2, none⟩) (c9.other (c8) (by omega))).trans hHeld.2.2⟩ : _ ∧ _ ∧ _)
                go_simp
                clear z0 z1 fz hno c9
                replace qm := q9
                refine hKK.out _ _ hH2 ?_
                clear hHeld
                intro hHeld
                clear hKK KK
                try simp only [bP, bN, bS, bZ, bC]
                clear hH2
                generalize ((w122.setCell ⟨cqm, 0, none⟩ (.bool (ng m))).setCell ⟨cqm, 1, none⟩ (.slice p7 (ln (am m)) (ln (am m)))) = w123 at bT qx qm gpa gpb k7 ok8 ok5 ok6 hHeld ⊢
                refine wpAnyH_done (by kernel_rfl) ?_ _
                go_wp2_with fail
                go_meet
                exact ⟨_, _, p7, rfl, rfl, hqmge, qm, k7, bT⟩
              refine consT rfl (fun KK hKK => ?_) ?_
              · skip
                go_simp
                have n9 := single_new w117 2 38 2 (by omega) rfl
                have gpb := n9.seg
                have bA := n9.below
                clear n9
                generalize w117.alloc (.cells #[.int .u32 2] 38) = w124 at gpb bA ⊢
                replace ok8 := ok8.on bA
                replace bT := bT.trans (bA.mono bT.size)
                replace qx := qx.later bA
                replace qm := qm.later bA
                replace gpa := gpa.later bA
                replace hHeld := hc3 bA hHeld
                clear bA
                refine hKK.out _ _ hHeld ?_
                clear hHeld
                intro hHeld
                clear hKK KK
                try simp only [bP, bN, bS, bZ, bC]
                obtain ⟨pb, hcc⟩ : ∃ cc, w117.heap.size = cc := ⟨_, rfl⟩
                rw [hcc] at gpb
                try rw [hcc]
                clear hcc
                refine wpAnyH_ready (rs := [2]) (by kernel_rfl) (by simp) ?_
                refine cons' rfl (fun KK hKK => ?_)
                go_simp
                refine (positive_is (some ⟨pa, 0, none⟩) 1 1 _).mono ?_
                rintro e w125 ⟨rfl, b2⟩
                have bC := b2
                replace ok8 := ok8.on bC
                replace bT := bT.trans (bC.mono bT.size)
                replace qx := qx.later bC
                replace qm := qm.later bC
                replace gpa := gpa.later bC
                replace gpb := gpb.later bC
                replace hHeld := hc3 bC hHeld
                clear bC
                go_wp2_with fail
                clear b2
                refine hKK.out _ _ hHeld ?_
                clear hHeld
                intro hHeld
                clear hKK KK
                try simp only [bP, bN, bS, bZ, bC]
                refine tkb 4 (v := ?_) rfl (Or.inl ⟨by rfl, ?_⟩) ?_
                rotate_left
                · intro w9 hSw
                  go_simp
                  first | done | with_reducible rfl
                simp only [bP, bN, bS, bZ, bC]
                refine wpAnyH_ready (rs := [5]) (by kernel_rfl) (by simp) ?_
                refine cons' rfl (fun KK hKK => ?_)
                go_simp
                refine (G4.out _ pa pb gpa gpb).mono ?_
                rintro e w126 ⟨p5, q5, rfl, b5, ok5⟩
                have bC := b5
                replace ok8 := ok8.on bC
                replace bT := bT.trans (bC.mono bT.size)
                replace qx := qx.later bC
                replace qm := qm.later bC
                replace gpa := gpa.later bC
                replace gpb := gpb.later bC
                replace hHeld := hc3 bC hHeld
                clear bC
                go_wp2_with fail
                clear b5
                refine hKK.out _ _ hHeld ?_
                clear hHeld
                intro hHeld
                clear hKK KK
                try simp only [bP, bN, bS, bZ, bC]
                refine wpAnyH_ready (rs := [6]) (by kernel_rfl) (by simp) ?_
                refine cons' rfl (fun KK hKK => ?_)
                go_simp
                refine (G5.out _ p8 q8 p5 q5 ok8 ok5).mono ?_
                rintro e w127 ⟨p6, q6, rfl, b6, ok6⟩
                have bC := b6
                replace ok8 := ok8.on bC
                replace ok5 := ok5.on bC
                replace bT := bT.trans (bC.mono bT.size)
                replace qx := qx.later bC
                replace qm := qm.later bC
                replace gpa := gpa.later bC
                replace gpb := gpb.later bC
                replace hHeld := hc3 bC hHeld
                clear bC
                go_wp2_with fail
                clear b6
                refine hKK.out _ _ hHeld ?_
                clear hHeld
                intro hHeld
                clear hKK KK
                try simp only [bP, bN, bS, bZ, bC]
                refine wpAnyH_ready (rs := [7]) (by kernel_rfl) (by simp) ?_
                refine cons' rfl (fun KK hKK => ?_)
                go_simp
                refine (G6.out _ p6 q6 ok6).mono ?_
                rintro e w128 ⟨p7, rfl, n7⟩
                have bC := n7.below
                replace ok8 := ok8.on bC
                replace ok5 := ok5.on bC
                replace ok6 := ok6.on bC
                replace bT := bT.trans (bC.mono bT.size)
                replace qx := qx.later bC
                replace qm := qm.later bC
                replace gpa := gpa.later bC
                replace gpb := gpb.later bC
                replace hHeld := hc3 bC hHeld
                clear bC
                go_wp2_with fail
                have k7 := n7.seg
                clear n7
                refine hKK.out _ _ hHeld ?_
                clear hHeld
                intro hHeld
                clear hKK KK
                try simp only [bP, bN, bS, bZ, bC]
                refine wpAnyH_ready (rs := [9]) (by kernel_rfl) (by simp) ?_
                refine cons' rfl (fun KK hKK => ?_)
                have z0 := qm.cell 0
                have z1 := qm.cell 1
                simp only [List.getElem?_toArray, List.getElem?_cons_zero, List.getElem?_cons_succ] at z0 z1
                have fz := fun o => qm.frozen o
                obtain ⟨c9, q9⟩ := qm.set2 (.bool (ng m)) (.slice p7 (ln (am m)) (ln (am m)))
                have hno := qm.no (by simp)
                replace qx := qx.ch c9 (by omega)
                replace gpa := gpa.ch c9 hno
                replace gpb := gpb.ch c9 hno
                replace k7 := k7.ch c9 hno
                replace ok8 := ok8.ch c9 hno
                replace ok5 := ok5.ch c9 hno
                replace ok6 := ok6.ch c9 hno
                replace bT := bT.trans (c9.below (by omega))
                have hH2 := (⟨(World.cell?_of_block (w := w128) (a := ⟨c8, 0, none⟩) (c9.other (c8) (by omega))).trans hHeld.1, (World.cell?_of_block (w := w128) (a := ⟨c8, 1, none⟩) (c9.other (c8) (by omega))).trans hHeld.2.1, (World.cell?_of_block (w := w128) (a := ⟨c8, 2, none⟩) (c9.other (c8) (by omega))).trans hHeld.2.2⟩ : _ ∧ _ ∧ _)
                go_simp
                clear z0 z1 fz hno c9
                replace qm := q9
                refine hKK.out _ _ hH2 ?_
                clear hHeld
                intro hHeld
                clear hKK KK
                try simp only [bP, bN, bS, bZ, bC]
                clear hH2
                generalize ((w128.setCell ⟨cqm, 0, none⟩ (.bool (ng m))).setCell ⟨cqm, 1, none⟩ (.slice p7 (ln (am m)) (ln (am m)))) = w129 at bT qx qm gpa gpb k7 ok8 ok5 ok6 hHeld ⊢
                refine wpAnyH_done (by kernel_rfl) ?_ _
                go_wp2_with fail
                go_meet
                exact ⟨_, _, p7, rfl, rfl, hqmge, qm, k7, bT⟩
              exact AllReadyH.nil
            refine consT rfl (fun KK hKK => ?_) ?_
            · skip
              go_simp
              have n9 := single_new w116 2 38 2 (by omega) rfl
              have gpb := n9.seg
              have bA := n9.below
              clear n9
              generalize w116.alloc (.cells #[.int .u32 2] 38) = w130 at gpb bA ⊢
              replace ok8 := ok8.on bA
              replace bT := bT.trans (bA.mono bT.size)
              replace qx := qx.later bA
              replace qm := qm.later bA
              replace hHeld := hc3 bA hHeld
              clear bA
              refine hKK.out _ _ hHeld ?_
              clear hHeld
              intro hHeld
              clear hKK KK
              try simp only [bP, bN, bS, bZ, bC]
              obtain ⟨pb, hcc⟩ : ∃ cc, w116.heap.size = cc := ⟨_, rfl⟩
              rw [hcc] at gpb
              try rw [hcc]
              clear hcc
              refine wpAnyH_ready (rs := [1]) (by kernel_rfl) (by simp) ?_
              refine cons' rfl (fun KK hKK => ?_)
              go_simp
              have n9 := single_new w130 1 38 1 (by omega) rfl
              have gpa := n9.seg
              have bA := n9.below
              clear n9
              generalize w130.alloc (.cells #[.int .u32 1] 38) = w131 at gpa bA ⊢
              replace ok8 := ok8.on bA
              replace bT := bT.trans (bA.mono bT.size)
              replace qx := qx.later bA
              replace qm := qm.later bA
              replace gpb := gpb.later bA
              replace hHeld := hc3 bA hHeld
              clear bA
              refine hKK.out _ _ hHeld ?_
              clear hHeld
              intro hHeld
              clear hKK KK
              try simp only [bP, bN, bS, bZ, bC]
              obtain ⟨pa, hcc⟩ : ∃ cc, w130.heap.size = cc := ⟨_, rfl⟩
              rw [hcc] at gpa
              try rw [hcc]
              clear hcc
              refine wpAnyH_ready (rs := [2]) (by kernel_rfl) (by simp) ?_
              refine cons' rfl (fun KK hKK => ?_)
              go_simp
              refine (positive_is (some ⟨pa, 0, none⟩) 1 1 _).mono ?_
              rintro e w132 ⟨rfl, b2⟩
              have bC := b2
              replace ok8 := ok8.on bC
              replace bT := bT.trans (bC.mono bT.size)
              replace qx := qx.later bC
              replace qm := qm.later bC
              replace gpb := gpb.later bC
              replace gpa := gpa.later bC
              replace hHeld := hc3 bC hHeld
              clear bC
              go_wp2_with fail
              clear b2
              refine hKK.out _ _ hHeld ?_
              clear hHeld
              intro hHeld
              clear hKK KK
              try simp only [bP, bN, bS, bZ, bC]
              refine tkb 4 (v := ?_) rfl (Or.inl ⟨by rfl, ?_⟩) ?_
              rotate_left
              · intro w9 hSw
                go_simp
                first | done | with_reducible rfl
              simp only [bP, bN, bS, bZ, bC]
              refine wpAnyH_ready (rs := [5]) (by kernel_rfl) (by simp) ?_
              refine cons' rfl (fun KK hKK => ?_)
              go_simp
              refine (G4.out _ pa pb gpa gpb).mono ?_
              rintro e w133 ⟨p5, q5, rfl, b5, ok5⟩
              have bC := b5
              replace ok8 := ok8.on bC
              replace bT := bT.trans (bC.mono bT.size)
              replace qx := qx.later bC
              replace qm := qm.later bC
              replace gpb := gpb.later bC
              replace gpa := gpa.later bC
              replace hHeld := hc3 bC hHeld
              clear bC
              go_wp2_with fail
              clear b5
              refine hKK.out _ _ hHeld ?_
              clear hHeld
              intro hHeld
              clear hKK KK
              try simp only [bP, bN, bS, bZ, bC]
              refine wpAnyH_ready (rs := [6]) (by kernel_rfl) (by simp) ?_
              refine cons' rfl (fun KK hKK => ?_)
              go_simp
              refine (G5.out _ p8 q8 p5 q5 ok8 ok5).mono ?_
              rintro e w134 ⟨p6, q6, rfl, b6, ok6⟩
              have bC := b6
              replace ok8 := ok8.on bC
              replace ok5 := ok5.on bC
              replace bT := bT.trans (bC.mono bT.size)
              replace qx := qx.later bC
              replace qm := qm.later bC
              replace gpb := gpb.later bC
              replace gpa := gpa.later bC
              replace hHeld := hc3 bC hHeld
              clear bC
              go_wp2_with fail
              clear b6
              refine hKK.out _ _ hHeld ?_
              clear hHeld
              intro hHeld
              clear hKK KK
              try simp only [bP, bN, bS, bZ, bC]
              refine wpAnyH_ready (rs := [7]) (by kernel_rfl) (by simp) ?_
              refine cons' rfl (fun KK hKK => ?_)
              go_simp
              refine (G6.out _ p6 q6 ok6).mono ?_
              rintro e w135 ⟨p7, rfl, n7⟩
              have bC := n7.below
              replace ok8 := ok8.on bC
              replace ok5 := ok5.on bC
              replace ok6 := ok6.on bC
              replace bT := bT.trans (bC.mono bT.size)
              replace qx := qx.later bC
              replace qm := qm.later bC
              replace gpb := gpb.later bC
              replace gpa := gpa.later bC
              replace hHeld := hc3 bC hHeld
              clear bC
              go_wp2_with fail
              have k7 := n7.seg
              clear n7
              refine hKK.out _ _ hHeld ?_
              clear hHeld
              intro hHeld
              clear hKK KK
              try simp only [bP, bN, bS, bZ, bC]
              refine wpAnyH_ready (rs := [9]) (by kernel_rfl) (by simp) ?_
              refine cons' rfl (fun KK hKK => ?_)
              have z0 := qm.cell 0
              have z1 := qm.cell 1
              simp only [List.getElem?_toArray, List.getElem?_cons_zero, List.getElem?_cons_succ] at z0 z1
              have fz := fun o => qm.frozen o
              obtain ⟨c9, q9⟩ := qm.set2 (.bool (ng m)) (.slice p7 (ln (am m)) (ln (am m)))
              have hno := qm.no (by simp)
              replace qx := qx.ch c9 (by omega)
              replace gpb := gpb.ch c9 hno
              replace gpa := gpa.ch c9 hno
              replace k7 := k7.ch c9 hno
              replace ok8 := ok8.ch c9 hno
              replace ok5 := ok5.ch c9 hno
              replace ok6 := ok6.ch c9 hno
              replace bT := bT.trans (c9.below (by omega))
              have hH2 := (⟨(World.cell?_of_block (w := w135) (a := ⟨c8, 0, none⟩) (c9.other (c8) (by omega))).trans hHeld.1, (World.cell?_of_block (w := w135) (a := ⟨c8, 1, none⟩) (c9.other (c8) (by omega))).trans hHeld.2.1, (World.cell?_of_block (w := w135) (a := ⟨c8, 2, none⟩) (c9.other (c8) (by omega))).trans hHeld.2.2⟩ : _ ∧ _ ∧ _)
              go_simp
              clear z0 z1 fz hno c9
              replace qm := q9
              refine hKK.out _ _ hH2 ?_
              clear hHeld
              intro hHeld
              clear hKK KK
              try simp only [bP, bN, bS, bZ, bC]
              clear hH2
              generalize ((w135.setCell ⟨cqm, 0, none⟩ (.bool (ng m))).setCell ⟨cqm, 1, none⟩ (.slice p7 (ln (am m)) (ln (am m)))) = w136 at bT qx qm gpb gpa k7 ok8 ok5 ok6 hHeld ⊢
              refine wpAnyH_done (by kernel_rfl) ?_ _
              go_wp2_with fail
              go_meet
              exact ⟨_, _, p7, rfl, rfl, hqmge, qm, k7, bT⟩
            exact AllReadyH.nil
          exact AllReadyH.nil
        case rest =>
          obtain ⟨wc137, cm, p9, hwv, rfl, hge9, qy, k9, bT⟩ := hcut
          subst hwv
          replace qx := qx.later bT
          replace ok8 := ok8.on bT
          replace bel := bel.trans (bT.mono bel.size)
          clear bT
          go_wp2_with fail
          have hf1 := run_field1
          obtain ⟨B9, hB9⟩ : ∃ B9 : Bool, B9 = decide (D1.den = 2 ∧ am m % 2 = 1) := ⟨_, rfl⟩
          have hB9' := hide' hB9
          clear hB9
          go_cut [52] from 40 to 52 (fun s52_ wx => ∃ wh9, wh9 = wx ∧ s52_ = .bool B9 ∧ Blk wx cm #[.bool (ng m), .slice p9 (ln (am m)) (ln (am m))] 25 ∧ Seg wx p9 (am m) (ln (am m)) ∧ Below w.heap.size w wx)
          case first =>
            rcases hcase.out with ⟨h1, h2, h3⟩ | ⟨h1, h2, h3⟩ | ⟨h1, h3⟩
            · skip
              obtain rfl : B9 = true := by rw [hB9'.out]; exact decide_eq_true ⟨h1, h2⟩
              have hs : sameB (ln D1.den) 1 D1.den 2 = true := by unfold sameB; rw [h1]; exact decide_eq_true ⟨ln_two, rfl⟩
              have GA' := GA.out
              rw [hs] at GA'
              replace GA := hide' GA'
              clear GA' hs
              have GB' := hide' (fun w' p1 k1 => GB.out w' p1 k1 true (by exact decide_eq_true h2))
              clear h1 h3 h2 GB hB9' hcase
              have qx_0 := qx.cell 0
              have qx_1 := qx.cell 1
              have qx_2 := qx.cell 2
              have qy_0 := qy.cell 0
              have qy_1 := qy.cell 1
              simp only [List.getElem?_toArray, List.getElem?_cons_zero, List.getElem?_cons_succ] at qx_0 qx_1 qx_2 qy_0 qy_1
              have bD : Below wc137.heap.size wc137 wc137.drew := (Below.refl _ _).drew
              have kqx_0 := below_cell bD qx_0
              have kqx_1 := below_cell bD qx_1
              have kqx_2 := below_cell bD qx_2
              have kqy_0 := below_cell bD qy_0
              have kqy_1 := below_cell bD qy_1
              replace ok8 := ok8.on bD
              replace bel := bel.trans (bD.mono bel.size)
              replace qx := qx.later bD
              replace k9 := k9.later bD
              replace qy := qy.later bD
              refine wp_region_held_drew (S := fun w' => w'.cell? ⟨c8, 0, none⟩ = some (.bool (ng X1.num)) ∧ w'.cell? ⟨c8, 1, none⟩ = some (.slice p8 (ln (am X1.num)) (ln (am X1.num))) ∧ w'.cell? ⟨c8, 2, none⟩ = some (.slice q8 (ln X1.den) (ln X1.den)) ∧ w'.cell? ⟨cm, 0, none⟩ = some (.bool (ng m)) ∧ w'.cell? ⟨cm, 1, none⟩ = some (.slice p9 (ln (am m)) (ln (am m)))) (by kernel_rfl) ⟨kqx_0, kqx_1, kqx_2, kqy_0, kqy_1⟩ (fun hHeld => ?_)
              clear kqx_0 kqx_1 kqx_2 kqy_0 kqy_1
              generalize wc137.drew = wF0 at bD ok8 qx k9 qy bel hHeld ⊢
              clear bD qx_0 qx_1 qx_2 qy_0 qy_1
              refine tkb 0 (v := ?_) rfl (Or.inl ⟨by rfl, ?_⟩) ?_
              rotate_left
              · intro w9 hSw
                go_simp
                first | done | with_reducible rfl
              simp only [bP, bN, bS, bZ, bC]
              refine tkb 2 (v := ?_) rfl (Or.inl ⟨by rfl, ?_⟩) ?_
              rotate_left
              · intro w9 hSw
                go_simp
                first | done | with_reducible rfl
              simp only [bP, bN, bS, bZ, bC]
              refine wpAnyH_ready (rs := [1, 6]) (by kernel_rfl) (by simp) ?_
              refine consT rfl (fun KK hKK => ?_) ?_
              · skip
                go_simp
                refine (G7.out _ p9 k9).mono ?_
                rintro e w138 ⟨p1, q1, rfl, b1, ok1⟩
                have bC := b1
                replace ok8 := ok8.on bC
                replace bel := bel.trans (bC.mono bel.size)
                replace qx := qx.later bC
                replace k9 := k9.later bC
                replace qy := qy.later bC
                replace hHeld := hc5 bC hHeld
                clear bC
                go_wp2_with fail
                clear b1
                refine hKK.out _ _ hHeld ?_
                clear hHeld
                intro hHeld
                clear hKK KK
                try simp only [bP, bN, bS, bZ, bC]
                refine wpAnyH_ready (rs := [3, 6]) (by kernel_rfl) (by simp) ?_
                refine consT rfl (fun KK hKK => ?_) ?_
                · skip
                  go_simp
                  refine (G8.out _ p1 q1 p8 q8 ok1 ok8).mono ?_
                  rintro e w139 ⟨p3, q3, rfl, b3, ok3⟩
                  have bC := b3
                  replace ok8 := ok8.on bC
                  replace ok1 := ok1.on bC
                  replace bel := bel.trans (bC.mono bel.size)
                  replace qx := qx.later bC
                  replace k9 := k9.later bC
                  replace qy := qy.later bC
                  replace hHeld := hc5 bC hHeld
                  clear bC
                  go_wp2_with fail
                  clear b3
                  refine hKK.out _ _ hHeld ?_
                  clear hHeld
                  intro hHeld
                  clear hKK KK
                  try simp only [bP, bN, bS, bZ, bC]
                  clear ok1
                  refine wpAnyH_ready (rs := [4, 6]) (by kernel_rfl) (by simp) ?_
                  refine consT rfl (fun KK hKK => ?_) ?_
                  · skip
                    go_simp
                    refine (G9.out _ p3 q3 ok3).mono ?_
                    rintro e w140 ⟨p4, q4, rfl, b4, ok4⟩
                    have bC := b4
                    replace ok8 := ok8.on bC
                    replace ok3 := ok3.on bC
                    replace bel := bel.trans (bC.mono bel.size)
                    replace qx := qx.later bC
                    replace k9 := k9.later bC
                    replace qy := qy.later bC
                    replace hHeld := hc5 bC hHeld
                    clear bC
                    go_wp2_with fail
                    clear b4
                    refine hKK.out _ _ hHeld ?_
                    clear hHeld
                    intro hHeld
                    clear hKK KK
                    try simp only [bP, bN, bS, bZ, bC]
                    have sg4 : Seg _ q4 D1.den (ln D1.den) := ok4.2.2.2.1
                    clear ok4 ok3 ok8
                    refine tkb 5 (v := ?_) rfl (Or.inl ⟨by rfl, ?_⟩) ?_
                    rotate_left
                    · intro w9 hSw
                      go_simp
                      first | done | with_reducible rfl
                    simp only [bP, bN, bS, bZ, bC]
                    refine wpAnyH_ready (rs := [6]) (by kernel_rfl) (by simp) ?_
                    refine cons' rfl (fun KK hKK => ?_)
                    go_simp
                    have n9 := single_new w140 2 38 2 (by omega) rfl
                    have gpc := n9.seg
                    have bA := n9.below
                    clear n9
                    generalize w140.alloc (.cells #[.int .u32 2] 38) = w141 at gpc bA ⊢
                    replace bel := bel.trans (bA.mono bel.size)
                    replace qx := qx.later bA
                    replace k9 := k9.later bA
                    replace qy := qy.later bA
                    replace sg4 := sg4.later bA
                    replace hHeld := hc5 bA hHeld
                    clear bA
                    refine hKK.out _ _ hHeld ?_
                    clear hHeld
                    intro hHeld
                    clear hKK KK
                    try simp only [bP, bN, bS, bZ, bC]
                    obtain ⟨pc, hcc⟩ : ∃ cc, w140.heap.size = cc := ⟨_, rfl⟩
                    rw [hcc] at gpc
                    try rw [hcc]
                    clear hcc
                    refine wpAnyH_ready (rs := [7]) (by kernel_rfl) (by simp) ?_
                    refine cons' rfl (fun KK hKK => ?_)
                    go_simp
                    refine (GA.out _ q4 (some ⟨pc, 0, none⟩) sg4 gpc).mono ?_
                    rintro e w142 ⟨rfl, d7⟩
                    have bC := dr_below d7
                    replace bel := bel.trans (bC.mono bel.size)
                    replace qx := qx.later bC
                    replace k9 := k9.later bC
                    replace qy := qy.later bC
                    replace sg4 := sg4.later bC
                    replace gpc := gpc.later bC
                    replace hHeld := hc5 bC hHeld
                    clear bC
                    go_wp2_with fail
                    refine hKK.out _ _ hHeld ?_
                    clear hHeld
                    intro hHeld
                    clear hKK KK
                    try simp only [bP, bN, bS, bZ, bC]
                    refine tkb 8 (v := ?_) rfl (Or.inl ⟨by rfl, ?_⟩) ?_
                    rotate_left
                    · intro w9 hSw
                      go_simp
                      first | done | with_reducible rfl
                    simp only [bP, bN, bS, bZ, bC]
                    refine tkb 9 (v := ?_) rfl (Or.inl ⟨by rfl, ?_⟩) ?_
                    rotate_left
                    · intro w9 hSw
                      go_simp
                      first | done | with_reducible rfl
                    simp only [bP, bN, bS, bZ, bC]
                    refine tkb 10 (v := ?_) rfl (Or.inl ⟨by rfl, ?_⟩) ?_
                    rotate_left
                    · intro w9 hSw
                      go_simp
                      first | done | with_reducible rfl
                    simp only [bP, bN, bS, bZ, bC]
                    refine wpAnyH_ready (rs := [11]) (by kernel_rfl) (by simp) ?_
                    refine cons' rfl (fun KK hKK => ?_)
                    go_simp
                    refine (GB'.out _ p9 k9).mono ?_
                    rintro e w143 ⟨rfl, e11⟩
                    have bC := below_eq e11
                    replace bel := bel.trans (bC.mono bel.size)
                    replace qx := qx.later bC
                    replace k9 := k9.later bC
                    replace qy := qy.later bC
                    replace sg4 := sg4.later bC
                    replace gpc := gpc.later bC
                    replace hHeld := hc5 bC hHeld
                    clear bC
                    go_wp2_with fail
                    refine hKK.out _ _ hHeld ?_
                    clear hHeld
                    intro hHeld
                    clear hKK KK
                    try simp only [bP, bN, bS, bZ, bC]
                    refine tkb 12 (v := ?_) rfl (Or.inl ⟨by rfl, ?_⟩) ?_
                    rotate_left
                    · intro w9 hSw
                      go_simp
                      first | done | with_reducible rfl
                    simp only [bP, bN, bS, bZ, bC]
                    refine wpAnyH_done (by kernel_rfl) ?_ _
                    go_wp2_with fail
                    go_meet
                    exact ⟨_, rfl, rfl, qy, k9, bel⟩
                  refine consT rfl (fun KK hKK => ?_) ?_
                  · skip
                    go_simp
                    have n9 := single_new w139 2 38 2 (by omega) rfl
                    have gpc := n9.seg
                    have bA := n9.below
                    clear n9
                    generalize w139.alloc (.cells #[.int .u32 2] 38) = w144 at gpc bA ⊢
                    replace ok8 := ok8.on bA
                    replace ok3 := ok3.on bA
                    replace bel := bel.trans (bA.mono bel.size)
                    replace qx := qx.later bA
                    replace k9 := k9.later bA
                    replace qy := qy.later bA
                    replace hHeld := hc5 bA hHeld
                    clear bA
                    refine hKK.out _ _ hHeld ?_
                    clear hHeld
                    intro hHeld
                    clear hKK KK
                    try simp only [bP, bN, bS, bZ, bC]
                    obtain ⟨pc, hcc⟩ : ∃ cc, w139.heap.size = cc := ⟨_, rfl⟩
                    rw [hcc] at gpc
                    try rw [hcc]
                    clear hcc
                    refine wpAnyH_ready (rs := [4]) (by kernel_rfl) (by simp) ?_
                    refine cons' rfl (fun KK hKK => ?_)
                    go_simp
                    refine (G9.out _ p3 q3 ok3).mono ?_
                    rintro e w145 ⟨p4, q4, rfl, b4, ok4⟩
                    have bC := b4
                    replace ok8 := ok8.on bC
                    replace ok3 := ok3.on bC
                    replace bel := bel.trans (bC.mono bel.size)
                    replace qx := qx.later bC
                    replace k9 := k9.later bC
                    replace qy := qy.later bC
                    replace gpc := gpc.later bC
                    replace hHeld := hc5 bC hHeld
                    clear bC
                    go_wp2_with fail
                    clear b4
                    refine hKK.out _ _ hHeld ?_
                    clear hHeld
                    intro hHeld
                    clear hKK KK
                    try simp only [bP, bN, bS, bZ, bC]
                    have sg4 : Seg _ q4 D1.den (ln D1.den) := ok4.2.2.2.1
                    clear ok4 ok3 ok8
                    refine tkb 5 (v := ?_) rfl (Or.inl ⟨by rfl, ?_⟩) ?_
                    rotate_left
                    · intro w9 hSw
                      go_simp
                      first | done | with_reducible rfl
                    simp only [bP, bN, bS, bZ, bC]
                    refine wpAnyH_ready (rs := [7]) (by kernel_rfl) (by simp) ?_
                    refine cons' rfl (fun KK hKK => ?_)
                    go_simp
                    refine (GA.out _ q4 (some ⟨pc, 0, none⟩) sg4 gpc).mono ?_
                    rintro e w146 ⟨rfl, d7⟩
                    have bC := dr_below d7
                    replace bel := bel.trans (bC.mono bel.size)
                    replace qx := qx.later bC
                    replace k9 := k9.later bC
                    replace qy := qy.later bC
                    replace gpc := gpc.later bC
                    replace sg4 := sg4.later bC
                    replace hHeld := hc5 bC hHeld
                    clear bC
                    go_wp2_with fail
                    refine hKK.out _ _ hHeld ?_
                    clear hHeld
                    intro hHeld
                    clear hKK KK
                    try simp only [bP, bN, bS, bZ, bC]
                    refine tkb 8 (v := ?_) rfl (Or.inl ⟨by rfl, ?_⟩) ?_
                    rotate_left
                    · intro w9 hSw
                      go_simp
                      first | done | with_reducible rfl
                    simp only [bP, bN, bS, bZ, bC]
                    refine tkb 9 (v := ?_) rfl (Or.inl ⟨by rfl, ?_⟩) ?_
                    rotate_left
                    · intro w9 hSw
                      go_simp
                      first | done | with_reducible rfl
                    simp only [bP, bN, bS, bZ, bC]
                    refine tkb 10 (v := ?_) rfl (Or.inl ⟨by rfl, ?_⟩) ?_
                    rotate_left
                    · intro w9 hSw
                      go_simp
                      first | done | with_reducible rfl
                    simp only [bP, bN, bS, bZ, bC]
                    refine wpAnyH_ready (rs := [11]) (by kernel_rfl) (by simp) ?_
                    refine cons' rfl (fun KK hKK => ?_)
                    go_simp
                    refine (GB'.out _ p9 k9).mono ?_
                    rintro e w147 ⟨rfl, e11⟩
                    have bC := below_eq e11
                    replace bel := bel.trans (bC.mono bel.size)
                    replace qx := qx.later bC
                    replace k9 := k9.later bC
                    replace qy := qy.later bC
                    replace gpc := gpc.later bC
                    replace sg4 := sg4.later bC
                    replace hHeld := hc5 bC hHeld
                    clear bC
                    go_wp2_with fail
                    refine hKK.out _ _ hHeld ?_
                    clear hHeld
                    intro hHeld
                    clear hKK KK
                    try simp only [bP, bN, bS, bZ, bC]
                    refine tkb 12 (v := ?_) rfl (Or.inl ⟨by rfl, ?_⟩) ?_
                    rotate_left
                    · intro w9 hSw
                      go_simp
                      first | done | with_reducible rfl
                    simp only [bP, bN, bS, bZ, bC]
                    refine wpAnyH_done (by kernel_rfl) ?_ _
                    go_wp2_with fail
                    go_meet
                    exact ⟨_, rfl, rfl, qy, k9, bel⟩
                  exact AllReadyH.nil
                refine consT rfl (fun KK hKK => ?_) ?_
                · skip
                  go_simp
                  have n9 := single_new w138 2 38 2 (by omega) rfl
                  have gpc := n9.seg
                  have bA := n9.below
                  clear n9
                  generalize w138.alloc (.cells #[.int .u32 2] 38) = w148 at gpc bA ⊢
                  replace ok8 := ok8.on bA
                  replace ok1 := ok1.on bA
                  replace bel := bel.trans (bA.mono bel.size)
                  replace qx := qx.later bA
                  replace k9 := k9.later bA
                  replace qy := qy.later bA
                  replace hHeld := hc5 bA hHeld
                  clear bA
                  refine hKK.out _ _ hHeld ?_
                  clear hHeld
                  intro hHeld
                  clear hKK KK
                  try simp only [bP, bN, bS, bZ, bC]
                  obtain ⟨pc, hcc⟩ : ∃ cc, w138.heap.size = cc := ⟨_, rfl⟩
                  rw [hcc] at gpc
                  try rw [hcc]
                  clear hcc
                  refine wpAnyH_ready (rs := [3]) (by kernel_rfl) (by simp) ?_
                  refine cons' rfl (fun KK hKK => ?_)
                  go_simp
                  refine (G8.out _ p1 q1 p8 q8 ok1 ok8).mono ?_
                  rintro e w149 ⟨p3, q3, rfl, b3, ok3⟩
                  have bC := b3
                  replace ok8 := ok8.on bC
                  replace ok1 := ok1.on bC
                  replace bel := bel.trans (bC.mono bel.size)
                  replace qx := qx.later bC
                  replace k9 := k9.later bC
                  replace qy := qy.later bC
                  replace gpc := gpc.later bC
                  replace hHeld := hc5 bC hHeld
                  clear bC
                  go_wp2_with fail
                  clear b3
                  refine hKK.out _ _ hHeld ?_
                  clear hHeld
                  intro hHeld
                  clear hKK KK
                  try simp only [bP, bN, bS, bZ, bC]
                  clear ok1
                  refine wpAnyH_ready (rs := [4]) (by kernel_rfl) (by simp) ?_
                  refine cons' rfl (fun KK hKK => ?_)
                  go_simp
                  refine (G9.out _ p3 q3 ok3).mono ?_
                  rintro e w150 ⟨p4, q4, rfl, b4, ok4⟩
                  have bC := b4
                  replace ok8 := ok8.on bC
                  replace ok3 := ok3.on bC
                  replace bel := bel.trans (bC.mono bel.size)
                  replace qx := qx.later bC
                  replace k9 := k9.later bC
                  replace qy := qy.later bC
                  replace gpc := gpc.later bC
                  replace hHeld := hc5 bC hHeld
                  clear bC
                  go_wp2_with fail
                  clear b4
                  refine hKK.out _ _ hHeld ?_
                  clear hHeld
                  intro hHeld
                  clear hKK KK
                  try simp only [bP, bN, bS, bZ, bC]
                  have sg4 : Seg _ q4 D1.den (ln D1.den) := ok4.2.2.2.1
                  clear ok4 ok3 ok8
                  refine tkb 5 (v := ?_) rfl (Or.inl ⟨by rfl, ?_⟩) ?_
                  rotate_left
                  · intro w9 hSw
                    go_simp
                    first | done | with_reducible rfl
                  simp only [bP, bN, bS, bZ, bC]
                  refine wpAnyH_ready (rs := [7]) (by kernel_rfl) (by simp) ?_
                  refine cons' rfl (fun KK hKK => ?_)
                  go_simp
                  refine (GA.out _ q4 (some ⟨pc, 0, none⟩) sg4 gpc).mono ?_
                  rintro e w151 ⟨rfl, d7⟩
                  have bC := dr_below d7
                  replace bel := bel.trans (bC.mono bel.size)
                  replace qx := qx.later bC
                  replace k9 := k9.later bC
                  replace qy := qy.later bC
                  replace gpc := gpc.later bC
                  replace sg4 := sg4.later bC
                  replace hHeld := hc5 bC hHeld
                  clear bC
                  go_wp2_with fail
                  refine hKK.out _ _ hHeld ?_
                  clear hHeld
                  intro hHeld
                  clear hKK KK
                  try simp only [bP, bN, bS, bZ, bC]
                  refine tkb 8 (v := ?_) rfl (Or.inl ⟨by rfl, ?_⟩) ?_
                  rotate_left
                  · intro w9 hSw
                    go_simp
                    first | done | with_reducible rfl
                  simp only [bP, bN, bS, bZ, bC]
                  refine tkb 9 (v := ?_) rfl (Or.inl ⟨by rfl, ?_⟩) ?_
                  rotate_left
                  · intro w9 hSw
                    go_simp
                    first | done | with_reducible rfl
                  simp only [bP, bN, bS, bZ, bC]
                  refine tkb 10 (v := ?_) rfl (Or.inl ⟨by rfl, ?_⟩) ?_
                  rotate_left
                  · intro w9 hSw
                    go_simp
                    first | done | with_reducible rfl
                  simp only [bP, bN, bS, bZ, bC]
                  refine wpAnyH_ready (rs := [11]) (by kernel_rfl) (by simp) ?_
                  refine cons' rfl (fun KK hKK => ?_)
                  go_simp
                  refine (GB'.out _ p9 k9).mono ?_
                  rintro e w152 ⟨rfl, e11⟩
                  have bC := below_eq e11
                  replace bel := bel.trans (bC.mono bel.size)
                  replace qx := qx.later bC
                  replace k9 := k9.later bC
                  replace qy := qy.later bC
                  replace gpc := gpc.later bC
                  replace sg4 := sg4.later bC
                  replace hHeld := hc5 bC hHeld
                  clear bC
                  go_wp2_with fail
                  refine hKK.out _ _ hHeld ?_
                  clear hHeld
                  intro hHeld
                  clear hKK KK
                  try simp only [bP, bN, bS, bZ, bC]
                  refine tkb 12 (v := ?_) rfl (Or.inl ⟨by rfl, ?_⟩) ?_
                  rotate_left
                  · intro w9 hSw
                    go_simp
                    first | done | with_reducible rfl
                  simp only [bP, bN, bS, bZ, bC]
                  refine wpAnyH_done (by kernel_rfl) ?_ _
                  go_wp2_with fail
                  go_meet
                  exact ⟨_, rfl, rfl, qy, k9, bel⟩
                exact AllReadyH.nil
              refine consT rfl (fun KK hKK => ?_) ?_
              · skip
                go_simp
                have n9 := single_new wF0 2 38 2 (by omega) rfl
                have gpc := n9.seg
                have bA := n9.below
                clear n9
                generalize wF0.alloc (.cells #[.int .u32 2] 38) = w153 at gpc bA ⊢
                replace ok8 := ok8.on bA
                replace bel := bel.trans (bA.mono bel.size)
                replace qx := qx.later bA
                replace k9 := k9.later bA
                replace qy := qy.later bA
                replace hHeld := hc5 bA hHeld
                clear bA
                refine hKK.out _ _ hHeld ?_
                clear hHeld
                intro hHeld
                clear hKK KK
                try simp only [bP, bN, bS, bZ, bC]
                obtain ⟨pc, hcc⟩ : ∃ cc, wF0.heap.size = cc := ⟨_, rfl⟩
                rw [hcc] at gpc
                try rw [hcc]
                clear hcc
                refine wpAnyH_ready (rs := [1]) (by kernel_rfl) (by simp) ?_
                refine cons' rfl (fun KK hKK => ?_)
                go_simp
                refine (G7.out _ p9 k9).mono ?_
                rintro e w154 ⟨p1, q1, rfl, b1, ok1⟩
                have bC := b1
                replace ok8 := ok8.on bC
                replace bel := bel.trans (bC.mono bel.size)
                replace qx := qx.later bC
                replace k9 := k9.later bC
                replace qy := qy.later bC
                replace gpc := gpc.later bC
                replace hHeld := hc5 bC hHeld
                clear bC
                go_wp2_with fail
                clear b1
                refine hKK.out _ _ hHeld ?_
                clear hHeld
                intro hHeld
                clear hKK KK
                try simp only [bP, bN, bS, bZ, bC]
                refine wpAnyH_ready (rs := [3]) (by kernel_rfl) (by simp) ?_
                refine cons' rfl (fun KK hKK => ?_)
                go_simp
                refine (G8.out _ p1 q1 p8 q8 ok1 ok8).mono ?_
                rintro e w155 ⟨p3, q3, rfl, b3, ok3⟩
                have bC := b3
                replace ok8 := ok8.on bC
                replace ok1 := ok1.on bC
                replace bel := bel.trans (bC.mono bel.size)
                replace qx := qx.later bC
                replace k9 := k9.later bC
                replace qy := qy.later bC
                replace gpc := gpc.later bC
                replace hHeld := hc5 bC hHeld
                clear bC
                go_wp2_with fail
                clear b3
                refine hKK.out _ _ hHeld ?_
                clear hHeld
                intro hHeld
                clear hKK KK
                try simp only [bP, bN, bS, bZ, bC]
                clear ok1
                refine wpAnyH_ready (rs := [4]) (by kernel_rfl) (by simp) ?_
                refine cons' rfl (fun KK hKK => ?_)
                go_simp
                refine (G9.out _ p3 q3 ok3).mono ?_
                rintro e w156 ⟨p4, q4, rfl, b4, ok4⟩
                have bC := b4
                replace ok8 := ok8.on bC
                replace ok3 := ok3.on bC
                replace bel := bel.trans (bC.mono bel.size)
                replace qx := qx.later bC
                replace k9 := k9.later bC
                replace qy := qy.later bC
                replace gpc := gpc.later bC
                replace hHeld := hc5 bC hHeld
                clear bC
                go_wp2_with fail
                clear b4
                refine hKK.out _ _ hHeld ?_
                clear hHeld
                intro hHeld
                clear hKK KK
                try simp only [bP, bN, bS, bZ, bC]
                have sg4 : Seg _ q4 D1.den (ln D1.den) := ok4.2.2.2.1
                clear ok4 ok3 ok8
                refine tkb 5 (v := ?_) rfl (Or.inl ⟨by rfl, ?_⟩) ?_
                rotate_left
                · intro w9 hSw
                  go_simp
                  first | done | with_reducible rfl
                simp only [bP, bN, bS, bZ, bC]
                refine wpAnyH_ready (rs := [7]) (by kernel_rfl) (by simp) ?_
                refine cons' rfl (fun KK hKK => ?_)
                go_simp
                refine (GA.out _ q4 (some ⟨pc, 0, none⟩) sg4 gpc).mono ?_
                rintro e w157 ⟨rfl, d7⟩
                have bC := dr_below d7
                replace bel := bel.trans (bC.mono bel.size)
                replace qx := qx.later bC
                replace k9 := k9.later bC
                replace qy := qy.later bC
                replace gpc := gpc.later bC
                replace sg4 := sg4.later bC
                replace hHeld := hc5 bC hHeld
                clear bC
                go_wp2_with fail
                refine hKK.out _ _ hHeld ?_
                clear hHeld
                intro hHeld
                clear hKK KK
                try simp only [bP, bN, bS, bZ, bC]
                refine tkb 8 (v := ?_) rfl (Or.inl ⟨by rfl, ?_⟩) ?_
                rotate_left
                · intro w9 hSw
                  go_simp
                  first | done | with_reducible rfl
                simp only [bP, bN, bS, bZ, bC]
                refine tkb 9 (v := ?_) rfl (Or.inl ⟨by rfl, ?_⟩) ?_
                rotate_left
                · intro w9 hSw
                  go_simp
                  first | done | with_reducible rfl
                simp only [bP, bN, bS, bZ, bC]
                refine tkb 10 (v := ?_) rfl (Or.inl ⟨by rfl, ?_⟩) ?_
                rotate_left
                · intro w9 hSw
                  go_simp
                  first | done | with_reducible rfl
                simp only [bP, bN, bS, bZ, bC]
                refine wpAnyH_ready (rs := [11]) (by kernel_rfl) (by simp) ?_
                refine cons' rfl (fun KK hKK => ?_)
                go_simp
                refine (GB'.out _ p9 k9).mono ?_
                rintro e w158 ⟨rfl, e11⟩
                have bC := below_eq e11
                replace bel := bel.trans (bC.mono bel.size)
                replace qx := qx.later bC
                replace k9 := k9.later bC
                replace qy := qy.later bC
                replace gpc := gpc.later bC
                replace sg4 := sg4.later bC
                replace hHeld := hc5 bC hHeld
                clear bC
                go_wp2_with fail
                refine hKK.out _ _ hHeld ?_
                clear hHeld
                intro hHeld
                clear hKK KK
                try simp only [bP, bN, bS, bZ, bC]
                refine tkb 12 (v := ?_) rfl (Or.inl ⟨by rfl, ?_⟩) ?_
                rotate_left
                · intro w9 hSw
                  go_simp
                  first | done | with_reducible rfl
                simp only [bP, bN, bS, bZ, bC]
                refine wpAnyH_done (by kernel_rfl) ?_ _
                go_wp2_with fail
                go_meet
                exact ⟨_, rfl, rfl, qy, k9, bel⟩
              exact AllReadyH.nil
            · skip
              obtain rfl : B9 = false := by rw [hB9'.out]; exact decide_eq_false fun c => by omega
              have hs : sameB (ln D1.den) 1 D1.den 2 = true := by unfold sameB; rw [h1]; exact decide_eq_true ⟨ln_two, rfl⟩
              have GA' := GA.out
              rw [hs] at GA'
              replace GA := hide' GA'
              clear GA' hs
              have GB' := hide' (fun w' p1 k1 => GB.out w' p1 k1 false (by exact decide_eq_false (by omega)))
              clear h1 h3 h2 GB hB9' hcase
              have qx_0 := qx.cell 0
              have qx_1 := qx.cell 1
              have qx_2 := qx.cell 2
              have qy_0 := qy.cell 0
              have qy_1 := qy.cell 1
              simp only [List.getElem?_toArray, List.getElem?_cons_zero, List.getElem?_cons_succ] at qx_0 qx_1 qx_2 qy_0 qy_1
              have bD : Below wc137.heap.size wc137 wc137.drew := (Below.refl _ _).drew
              have kqx_0 := below_cell bD qx_0
              have kqx_1 := below_cell bD qx_1
              have kqx_2 := below_cell bD qx_2
              have kqy_0 := below_cell bD qy_0
              have kqy_1 := below_cell bD qy_1
              replace ok8 := ok8.on bD
              replace bel := bel.trans (bD.mono bel.size)
              replace qx := qx.later bD
              replace k9 := k9.later bD
              replace qy := qy.later bD
              refine wp_region_held_drew (S := fun w' => w'.cell? ⟨c8, 0, none⟩ = some (.bool (ng X1.num)) ∧ w'.cell? ⟨c8, 1, none⟩ = some (.slice p8 (ln (am X1.num)) (ln (am X1.num))) ∧ w'.cell? ⟨c8, 2, none⟩ = some (.slice q8 (ln X1.den) (ln X1.den)) ∧ w'.cell? ⟨cm, 0, none⟩ = some (.bool (ng m)) ∧ w'.cell? ⟨cm, 1, none⟩ = some (.slice p9 (ln (am m)) (ln (am m)))) (by kernel_rfl) ⟨kqx_0, kqx_1, kqx_2, kqy_0, kqy_1⟩ (fun hHeld => ?_)
              clear kqx_0 kqx_1 kqx_2 kqy_0 kqy_1
              generalize wc137.drew = wF0 at bD ok8 qx k9 qy bel hHeld ⊢
              clear bD qx_0 qx_1 qx_2 qy_0 qy_1
              refine tkb 0 (v := ?_) rfl (Or.inl ⟨by rfl, ?_⟩) ?_
              rotate_left
              · intro w9 hSw
                go_simp
                first | done | with_reducible rfl
              simp only [bP, bN, bS, bZ, bC]
              refine tkb 2 (v := ?_) rfl (Or.inl ⟨by rfl, ?_⟩) ?_
              rotate_left
              · intro w9 hSw
                go_simp
                first | done | with_reducible rfl
              simp only [bP, bN, bS, bZ, bC]
              refine wpAnyH_ready (rs := [1, 6]) (by kernel_rfl) (by simp) ?_
              refine consT rfl (fun KK hKK => ?_) ?_
              · skip
                go_simp
                refine (G7.out _ p9 k9).mono ?_
                rintro e w159 ⟨p1, q1, rfl, b1, ok1⟩
                have bC := b1
                replace ok8 := ok8.on bC
                replace bel := bel.trans (bC.mono bel.size)
                replace qx := qx.later bC
                replace k9 := k9.later bC
                replace qy := qy.later bC
                replace hHeld := hc5 bC hHeld
                clear bC
                go_wp2_with fail
                clear b1
                refine hKK.out _ _ hHeld ?_
                clear hHeld
                intro hHeld
                clear hKK KK
                try simp only [bP, bN, bS, bZ, bC]
                refine wpAnyH_ready (rs := [3, 6]) (by kernel_rfl) (by simp) ?_
                refine consT rfl (fun KK hKK => ?_) ?_
                · skip
                  go_simp
                  refine (G8.out _ p1 q1 p8 q8 ok1 ok8).mono ?_
                  rintro e w160 ⟨p3, q3, rfl, b3, ok3⟩
                  have bC := b3
                  replace ok8 := ok8.on bC
                  replace ok1 := ok1.on bC
                  replace bel := bel.trans (bC.mono bel.size)
                  replace qx := qx.later bC
                  replace k9 := k9.later bC
                  replace qy := qy.later bC
                  replace hHeld := hc5 bC hHeld
                  clear bC
                  go_wp2_with fail
                  clear b3
                  refine hKK.out _ _ hHeld ?_
                  clear hHeld
                  intro hHeld
                  clear hKK KK
                  try simp only [bP, bN, bS, bZ, bC]
                  clear ok1
                  refine wpAnyH_ready (rs := [4, 6]) (by kernel_rfl) (by simp) ?_
                  refine consT rfl (fun KK hKK => ?_) ?_
                  · skip
                    go_simp
                    refine (G9.out _ p3 q3 ok3).mono ?_
                    rintro e w161 ⟨p4, q4, rfl, b4, ok4⟩
                    have bC := b4
                    replace ok8 := ok8.on bC
                    replace ok3 := ok3.on bC
                    replace bel := bel.trans (bC.mono bel.size)
                    replace qx := qx.later bC
                    replace k9 := k9.later bC
                    replace qy := qy.later bC
                    replace hHeld := hc5 bC hHeld
                    clear bC
                    go_wp2_with fail
                    clear b4
                    refine hKK.out _ _ hHeld ?_
                    clear hHeld
                    intro hHeld
                    clear hKK KK
                    try simp only [bP, bN, bS, bZ, bC]
                    have sg4 : Seg _ q4 D1.den (ln D1.den) := ok4.2.2.2.1
                    clear ok4 ok3 ok8
                    refine tkb 5 (v := ?_) rfl (Or.inl ⟨by rfl, ?_⟩) ?_
                    rotate_left
                    · intro w9 hSw
                      go_simp
                      first | done | with_reducible rfl
                    simp only [bP, bN, bS, bZ, bC]
                    refine wpAnyH_ready (rs := [6]) (by kernel_rfl) (by simp) ?_
                    refine cons' rfl (fun KK hKK => ?_)
                    go_simp
                    have n9 := single_new w161 2 38 2 (by omega) rfl
                    have gpc := n9.seg
                    have bA := n9.below
                    clear n9
                    generalize w161.alloc (.cells #[.int .u32 2] 38) = w162 at gpc bA ⊢
                    replace bel := bel.trans (bA.mono bel.size)
                    replace qx := qx.later bA
                    replace k9 := k9.later bA
                    replace qy := qy.later bA
                    replace sg4 := sg4.later bA
                    replace hHeld := hc5 bA hHeld
                    clear bA
                    refine hKK.out _ _ hHeld ?_
                    clear hHeld
                    intro hHeld
                    clear hKK KK
                    try simp only [bP, bN, bS, bZ, bC]
                    obtain ⟨pc, hcc⟩ : ∃ cc, w161.heap.size = cc := ⟨_, rfl⟩
                    rw [hcc] at gpc
                    try rw [hcc]
                    clear hcc
                    refine wpAnyH_ready (rs := [7]) (by kernel_rfl) (by simp) ?_
                    refine cons' rfl (fun KK hKK => ?_)
                    go_simp
                    refine (GA.out _ q4 (some ⟨pc, 0, none⟩) sg4 gpc).mono ?_
                    rintro e w163 ⟨rfl, d7⟩
                    have bC := dr_below d7
                    replace bel := bel.trans (bC.mono bel.size)
                    replace qx := qx.later bC
                    replace k9 := k9.later bC
                    replace qy := qy.later bC
                    replace sg4 := sg4.later bC
                    replace gpc := gpc.later bC
                    replace hHeld := hc5 bC hHeld
                    clear bC
                    go_wp2_with fail
                    refine hKK.out _ _ hHeld ?_
                    clear hHeld
                    intro hHeld
                    clear hKK KK
                    try simp only [bP, bN, bS, bZ, bC]
                    refine tkb 8 (v := ?_) rfl (Or.inl ⟨by rfl, ?_⟩) ?_
                    rotate_left
                    · intro w9 hSw
                      go_simp
                      first | done | with_reducible rfl
                    simp only [bP, bN, bS, bZ, bC]
                    refine tkb 9 (v := ?_) rfl (Or.inl ⟨by rfl, ?_⟩) ?_
                    rotate_left
                    · intro w9 hSw
                      go_simp
                      first | done | with_reducible rfl
                    simp only [bP, bN, bS, bZ, bC]
                    refine tkb 10 (v := ?_) rfl (Or.inl ⟨by rfl, ?_⟩) ?_
                    rotate_left
                    · intro w9 hSw
                      go_simp
                      first | done | with_reducible rfl
                    simp only [bP, bN, bS, bZ, bC]
                    refine wpAnyH_ready (rs := [11]) (by kernel_rfl) (by simp) ?_
                    refine cons' rfl (fun KK hKK => ?_)
                    go_simp
                    refine (GB'.out _ p9 k9).mono ?_
                    rintro e w164 ⟨rfl, e11⟩
                    have bC := below_eq e11
                    replace bel := bel.trans (bC.mono bel.size)
                    replace qx := qx.later bC
                    replace k9 := k9.later bC
                    replace qy := qy.later bC
                    replace sg4 := sg4.later bC
                    replace gpc := gpc.later bC
                    replace hHeld := hc5 bC hHeld
                    clear bC
                    go_wp2_with fail
                    refine hKK.out _ _ hHeld ?_
                    clear hHeld
                    intro hHeld
                    clear hKK KK
                    try simp only [bP, bN, bS, bZ, bC]
                    refine tkb 12 (v := ?_) rfl (Or.inl ⟨by rfl, ?_⟩) ?_
                    rotate_left
                    · intro w9 hSw
                      go_simp
                      first | done | with_reducible rfl
                    simp only [bP, bN, bS, bZ, bC]
                    refine wpAnyH_done (by kernel_rfl) ?_ _
                    go_wp2_with fail
                    go_meet
                    exact ⟨_, rfl, rfl, qy, k9, bel⟩
                  refine consT rfl (fun KK hKK => ?_) ?_
                  · skip
                    go_simp
                    have n9 := single_new w160 2 38 2 (by omega) rfl
                    have gpc := n9.seg
                    have bA := n9.below
                    clear n9
                    generalize w160.alloc (.cells #[.int .u32 2] 38) = w165 at gpc bA ⊢
                    replace ok8 := ok8.on bA
                    replace ok3 := ok3.on bA
                    replace bel := bel.trans (bA.mono bel.size)
                    replace qx := qx.later bA
                    replace k9 := k9.later bA
                    replace qy := qy.later bA
                    replace hHeld := hc5 bA hHeld
                    clear bA
                    refine hKK.out _ _ hHeld ?_
                    clear hHeld
                    intro hHeld
                    clear hKK KK
                    try simp only [bP, bN, bS, bZ, bC]
                    obtain ⟨pc, hcc⟩ : ∃ cc, w160.heap.size = cc := ⟨_, rfl⟩
                    rw [hcc] at gpc
                    try rw [hcc]
                    clear hcc
                    refine wpAnyH_ready (rs := [4]) (by kernel_rfl) (by simp) ?_
                    refine cons' rfl (fun KK hKK => ?_)
                    go_simp
                    refine (G9.out _ p3 q3 ok3).mono ?_
                    rintro e w166 ⟨p4, q4, rfl, b4, ok4⟩
                    have bC := b4
                    replace ok8 := ok8.on bC
                    replace ok3 := ok3.on bC
                    replace bel := bel.trans (bC.mono bel.size)
                    replace qx := qx.later bC
                    replace k9 := k9.later bC
                    replace qy := qy.later bC
                    replace gpc := gpc.later bC
                    replace hHeld := hc5 bC hHeld
                    clear bC
                    go_wp2_with fail
                    clear b4
                    refine hKK.out _ _ hHeld ?_
                    clear hHeld
                    intro hHeld
                    clear hKK KK
                    try simp only [bP, bN, bS, bZ, bC]
                    have sg4 : Seg _ q4 D1.den (ln D1.den) := ok4.2.2.2.1
                    clear ok4 ok3 ok8
                    refine tkb 5 (v := ?_) rfl (Or.inl ⟨by rfl, ?_⟩) ?_
                    rotate_left
                    · intro w9 hSw
                      go_simp
                      first | done | with_reducible rfl
                    simp only [bP, bN, bS, bZ, bC]
                    refine wpAnyH_ready (rs := [7]) (by kernel_rfl) (by simp) ?_
                    refine cons' rfl (fun KK hKK => ?_)
                    go_simp
                    refine (GA.out _ q4 (some ⟨pc, 0, none⟩) sg4 gpc).mono ?_
                    rintro e w167 ⟨rfl, d7⟩
                    have bC := dr_below d7
                    replace bel := bel.trans (bC.mono bel.size)
                    replace qx := qx.later bC
                    replace k9 := k9.later bC
                    replace qy := qy.later bC
                    replace gpc := gpc.later bC
                    replace sg4 := sg4.later bC
                    replace hHeld := hc5 bC hHeld
                    clear bC
                    go_wp2_with fail
                    refine hKK.out _ _ hHeld ?_
                    clear hHeld
                    intro hHeld
                    clear hKK KK
                    try simp only [bP, bN, bS, bZ, bC]
                    refine tkb 8 (v := ?_) rfl (Or.inl ⟨by rfl, ?_⟩) ?_
                    rotate_left
                    · intro w9 hSw
                      go_simp
                      first | done | with_reducible rfl
                    simp only [bP, bN, bS, bZ, bC]
                    refine tkb 9 (v := ?_) rfl (Or.inl ⟨by rfl, ?_⟩) ?_
                    rotate_left
                    · intro w9 hSw
                      go_simp
                      first | done | with_reducible rfl
                    simp only [bP, bN, bS, bZ, bC]
                    refine tkb 10 (v := ?_) rfl (Or.inl ⟨by rfl, ?_⟩) ?_
                    rotate_left
                    · intro w9 hSw
                      go_simp
                      first | done | with_reducible rfl
                    simp only [bP, bN, bS, bZ, bC]
                    refine wpAnyH_ready (rs := [11]) (by kernel_rfl) (by simp) ?_
                    refine cons' rfl (fun KK hKK => ?_)
                    go_simp
                    refine (GB'.out _ p9 k9).mono ?_
                    rintro e w168 ⟨rfl, e11⟩
                    have bC := below_eq e11
                    replace bel := bel.trans (bC.mono bel.size)
                    replace qx := qx.later bC
                    replace k9 := k9.later bC
                    replace qy := qy.later bC
                    replace gpc := gpc.later bC
                    replace sg4 := sg4.later bC
                    replace hHeld := hc5 bC hHeld
                    clear bC
                    go_wp2_with fail
                    refine hKK.out _ _ hHeld ?_
                    clear hHeld
                    intro hHeld
                    clear hKK KK
                    try simp only [bP, bN, bS, bZ, bC]
                    refine tkb 12 (v := ?_) rfl (Or.inl ⟨by rfl, ?_⟩) ?_
                    rotate_left
                    · intro w9 hSw
                      go_simp
                      first | done | with_reducible rfl
                    simp only [bP, bN, bS, bZ, bC]
                    refine wpAnyH_done (by kernel_rfl) ?_ _
                    go_wp2_with fail
                    go_meet
                    exact ⟨_, rfl, rfl, qy, k9, bel⟩
                  exact AllReadyH.nil
                refine consT rfl (fun KK hKK => ?_) ?_
                · skip
                  go_simp
                  have n9 := single_new w159 2 38 2 (by omega) rfl
                  have gpc := n9.seg
                  have bA := n9.below
                  clear n9
                  generalize w159.alloc (.cells #[.int .u32 2] 38) = w169 at gpc bA ⊢
                  replace ok8 := ok8.on bA
                  replace ok1 := ok1.on bA
                  replace bel := bel.trans (bA.mono bel.size)
                  replace qx := qx.later bA
                  replace k9 := k9.later bA
                  replace qy := qy.later bA
                  replace hHeld := hc5 bA hHeld
                  clear bA
                  refine hKK.out _ _ hHeld ?_
                  clear hHeld
                  intro hHeld
                  clear hKK KK
                  try simp only [bP, bN, bS, bZ, bC]
                  obtain ⟨pc, hcc⟩ : ∃ cc, w159.heap.size = cc := ⟨_, rfl⟩
                  rw [hcc] at gpc
                  try rw [hcc]
                  clear hcc
                  refine wpAnyH_ready (rs := [3]) (by kernel_rfl) (by simp) ?_
                  refine cons' rfl (fun KK hKK => ?_)
                  go_simp
                  refine (G8.out _ p1 q1 p8 q8 ok1 ok8).mono ?_
                  rintro e w170 ⟨p3, q3, rfl, b3, ok3⟩
                  have bC := b3
                  replace ok8 := ok8.on bC
                  replace ok1 := ok1.on bC
                  replace bel := bel.trans (bC.mono bel.size)
                  replace qx := qx.later bC
                  replace k9 := k9.later bC
                  replace qy := qy.later bC
                  replace gpc := gpc.later bC
                  replace hHeld := hc5 bC hHeld
                  clear bC
                  go_wp2_with fail
                  clear b3
                  refine hKK.out _ _ hHeld ?_
                  clear hHeld
                  intro hHeld
                  clear hKK KK
                  try simp only [bP, bN, bS, bZ, bC]
                  clear ok1
                  refine wpAnyH_ready (rs := [4]) (by kernel_rfl) (by simp) ?_
                  refine cons' rfl (fun KK hKK => ?_)
                  go_simp
                  refine (G9.out _ p3 q3 ok3).mono ?_
                  rintro e w171 ⟨p4, q4, rfl, b4, ok4⟩
                  have bC := b4
                  replace ok8 := ok8.on bC
                  replace ok3 := ok3.on bC
                  replace bel := bel.trans (bC.mono bel.size)
                  replace qx := qx.later bC
                  replace k9 := k9.later bC
                  replace qy := qy.later bC
                  replace gpc := gpc.later bC
                  replace hHeld := hc5 bC hHeld
                  clear bC
                  go_wp2_with fail
                  clear b4
                  refine hKK.out _ _ hHeld ?_
                  clear hHeld
                  intro hHeld
                  clear hKK KK
                  try simp only [bP, bN, bS, bZ, bC]
                  have sg4 : Seg _ q4 D1.den (ln D1.den) := ok4.2.2.2.1
                  clear ok4 ok3 ok8
                  refine tkb 5 (v := ?_) rfl (Or.inl ⟨by rfl, ?_⟩) ?_
                  rotate_left
                  · intro w9 hSw
                    go_simp
                    first | done | with_reducible rfl
                  simp only [bP, bN, bS, bZ, bC]
                  refine wpAnyH_ready (rs := [7]) (by kernel_rfl) (by simp) ?_
                  refine cons' rfl (fun KK hKK => ?_)
                  go_simp
                  refine (GA.out _ q4 (some ⟨pc, 0, none⟩) sg4 gpc).mono ?_
                  rintro e w172 ⟨rfl, d7⟩
                  have bC := dr_below d7
                  replace bel := bel.trans (bC.mono bel.size)
                  replace qx := qx.later bC
                  replace k9 := k9.later bC
                  replace qy := qy.later bC
                  replace gpc := gpc.later bC
                  replace sg4 := sg4.later bC
                  replace hHeld := hc5 bC hHeld
                  clear bC
                  go_wp2_with fail
                  refine hKK.out _ _ hHeld ?_
                  clear hHeld
                  intro hHeld
                  clear hKK KK
                  try simp only [bP, bN, bS, bZ, bC]
                  refine tkb 8 (v := ?_) rfl (Or.inl ⟨by rfl, ?_⟩) ?_
                  rotate_left
                  · intro w9 hSw
                    go_simp
                    first | done | with_reducible rfl
                  simp only [bP, bN, bS, bZ, bC]
                  refine tkb 9 (v := ?_) rfl (Or.inl ⟨by rfl, ?_⟩) ?_
                  rotate_left
                  · intro w9 hSw
                    go_simp
                    first | done | with_reducible rfl
                  simp only [bP, bN, bS, bZ, bC]
                  refine tkb 10 (v := ?_) rfl (Or.inl ⟨by rfl, ?_⟩) ?_
                  rotate_left
                  · intro w9 hSw
                    go_simp
                    first | done | with_reducible rfl
                  simp only [bP, bN, bS, bZ, bC]
                  refine wpAnyH_ready (rs := [11]) (by kernel_rfl) (by simp) ?_
                  refine cons' rfl (fun KK hKK => ?_)
                  go_simp
                  refine (GB'.out _ p9 k9).mono ?_
                  rintro e w173 ⟨rfl, e11⟩
                  have bC := below_eq e11
                  replace bel := bel.trans (bC.mono bel.size)
                  replace qx := qx.later bC
                  replace k9 := k9.later bC
                  replace qy := qy.later bC
                  replace gpc := gpc.later bC
                  replace sg4 := sg4.later bC
                  replace hHeld := hc5 bC hHeld
                  clear bC
                  go_wp2_with fail
                  refine hKK.out _ _ hHeld ?_
                  clear hHeld
                  intro hHeld
                  clear hKK KK
                  try simp only [bP, bN, bS, bZ, bC]
                  refine tkb 12 (v := ?_) rfl (Or.inl ⟨by rfl, ?_⟩) ?_
                  rotate_left
                  · intro w9 hSw
                    go_simp
                    first | done | with_reducible rfl
                  simp only [bP, bN, bS, bZ, bC]
                  refine wpAnyH_done (by kernel_rfl) ?_ _
                  go_wp2_with fail
                  go_meet
                  exact ⟨_, rfl, rfl, qy, k9, bel⟩
                exact AllReadyH.nil
              refine consT rfl (fun KK hKK => ?_) ?_
              · skip
                go_simp
                have n9 := single_new wF0 2 38 2 (by omega) rfl
                have gpc := n9.seg
                have bA := n9.below
                clear n9
                generalize wF0.alloc (.cells #[.int .u32 2] 38) = w174 at gpc bA ⊢
                replace ok8 := ok8.on bA
                replace bel := bel.trans (bA.mono bel.size)
                replace qx := qx.later bA
                replace k9 := k9.later bA
                replace qy := qy.later bA
                replace hHeld := hc5 bA hHeld
                clear bA
                refine hKK.out _ _ hHeld ?_
                clear hHeld
                intro hHeld
                clear hKK KK
                try simp only [bP, bN, bS, bZ, bC]
                obtain ⟨pc, hcc⟩ : ∃ cc, wF0.heap.size = cc := ⟨_, rfl⟩
                rw [hcc] at gpc
                try rw [hcc]
                clear hcc
                refine wpAnyH_ready (rs := [1]) (by kernel_rfl) (by simp) ?_
                refine cons' rfl (fun KK hKK => ?_)
                go_simp
                refine (G7.out _ p9 k9).mono ?_
                rintro e w175 ⟨p1, q1, rfl, b1, ok1⟩
                have bC := b1
                replace ok8 := ok8.on bC
                replace bel := bel.trans (bC.mono bel.size)
                replace qx := qx.later bC
                replace k9 := k9.later bC
                replace qy := qy.later bC
                replace gpc := gpc.later bC
                replace hHeld := hc5 bC hHeld
                clear bC
                go_wp2_with fail
                clear b1
                refine hKK.out _ _ hHeld ?_
                clear hHeld
                intro hHeld
                clear hKK KK
                try simp only [bP, bN, bS, bZ, bC]
                refine wpAnyH_ready (rs := [3]) (by kernel_rfl) (by simp) ?_
                refine cons' rfl (fun KK hKK => ?_)
                go_simp
                refine (G8.out _ p1 q1 p8 q8 ok1 ok8).mono ?_
                rintro e w176 ⟨p3, q3, rfl, b3, ok3⟩
                have bC := b3
                replace ok8 := ok8.on bC
                replace ok1 := ok1.on bC
                replace bel := bel.trans (bC.mono bel.size)
                replace qx := qx.later bC
                replace k9 := k9.later bC
                replace qy := qy.later bC
                replace gpc := gpc.later bC
                replace hHeld := hc5 bC hHeld
                clear bC
                go_wp2_with fail
                clear b3
                refine hKK.out _ _ hHeld ?_
                clear hHeld
                intro hHeld
                clear hKK KK
                try simp only [bP, bN, bS, bZ, bC]
                clear ok1
                refine wpAnyH_ready (rs := [4]) (by kernel_rfl) (by simp) ?_
                refine cons' rfl (fun KK hKK => ?_)
                go_simp
                refine (G9.out _ p3 q3 ok3).mono ?_
                rintro e w177 ⟨p4, q4, rfl, b4, ok4⟩
                have bC := b4
                replace ok8 := ok8.on bC
                replace ok3 := ok3.on bC
                replace bel := bel.trans (bC.mono bel.size)
                replace qx := qx.later bC
                replace k9 := k9.later bC
                replace qy := qy.later bC
                replace gpc := gpc.later bC
                replace hHeld := hc5 bC hHeld
                clear bC
                go_wp2_with fail
                clear b4
                refine hKK.out _ _ hHeld ?_
                clear hHeld
                intro hHeld
                clear hKK KK
                try simp only [bP, bN, bS, bZ, bC]
                have sg4 : Seg _ q4 D1.den (ln D1.den) := ok4.2.2.2.1
                clear ok4 ok3 ok8
                refine tkb 5 (v := ?_) rfl (Or.inl ⟨by rfl, ?_⟩) ?_
                rotate_left
                · intro w9 hSw
                  go_simp
                  first | done | with_reducible rfl
                simp only [bP, bN, bS, bZ, bC]
                refine wpAnyH_ready (rs := [7]) (by kernel_rfl) (by simp) ?_
                refine cons' rfl (fun KK hKK => ?_)
                go_simp
                refine (GA.out _ q4 (some ⟨pc, 0, none⟩) sg4 gpc).mono ?_
                rintro e w178 ⟨rfl, d7⟩
                have bC := dr_below d7
                replace bel := bel.trans (bC.mono bel.size)
                replace qx := qx.later bC
                replace k9 := k9.later bC
                replace qy := qy.later bC
                replace gpc := gpc.later bC
                replace sg4 := sg4.later bC
                replace hHeld := hc5 bC hHeld
                clear bC
                go_wp2_with fail
                refine hKK.out _ _ hHeld ?_
                clear hHeld
                intro hHeld
                clear hKK KK
                try simp only [bP, bN, bS, bZ, bC]
                refine tkb 8 (v := ?_) rfl (Or.inl ⟨by rfl, ?_⟩) ?_
                rotate_left
                · intro w9 hSw
                  go_simp
                  first | done | with_reducible rfl
                simp only [bP, bN, bS, bZ, bC]
                refine tkb 9 (v := ?_) rfl (Or.inl ⟨by rfl, ?_⟩) ?_
                rotate_left
                · intro w9 hSw
                  go_simp
                  first | done | with_reducible rfl
                simp only [bP, bN, bS, bZ, bC]
                refine tkb 10 (v := ?_) rfl (Or.inl ⟨by rfl, ?_⟩) ?_
                rotate_left
                · intro w9 hSw
                  go_simp
                  first | done | with_reducible rfl
                simp only [bP, bN, bS, bZ, bC]
                refine wpAnyH_ready (rs := [11]) (by kernel_rfl) (by simp) ?_
                refine cons' rfl (fun KK hKK => ?_)
                go_simp
                refine (GB'.out _ p9 k9).mono ?_
                rintro e w179 ⟨rfl, e11⟩
                have bC := below_eq e11
                replace bel := bel.trans (bC.mono bel.size)
                replace qx := qx.later bC
                replace k9 := k9.later bC
                replace qy := qy.later bC
                replace gpc := gpc.later bC
                replace sg4 := sg4.later bC
                replace hHeld := hc5 bC hHeld
                clear bC
                go_wp2_with fail
                refine hKK.out _ _ hHeld ?_
                clear hHeld
                intro hHeld
                clear hKK KK
                try simp only [bP, bN, bS, bZ, bC]
                refine tkb 12 (v := ?_) rfl (Or.inl ⟨by rfl, ?_⟩) ?_
                rotate_left
                · intro w9 hSw
                  go_simp
                  first | done | with_reducible rfl
                simp only [bP, bN, bS, bZ, bC]
                refine wpAnyH_done (by kernel_rfl) ?_ _
                go_wp2_with fail
                go_meet
                exact ⟨_, rfl, rfl, qy, k9, bel⟩
              exact AllReadyH.nil
            · skip
              obtain rfl : B9 = false := by rw [hB9'.out]; exact decide_eq_false fun c => by exact h1 c.1
              have hs : sameB (ln D1.den) 1 D1.den 2 = false := by unfold sameB; exact decide_eq_false fun c => h1 c.2
              have GA' := GA.out
              rw [hs] at GA'
              replace GA := hide' GA'
              clear GA' hs
              clear h1 h3 GB hB9' hcase
              have qx_0 := qx.cell 0
              have qx_1 := qx.cell 1
              have qx_2 := qx.cell 2
              have qy_0 := qy.cell 0
              have qy_1 := qy.cell 1
              simp only [List.getElem?_toArray, List.getElem?_cons_zero, List.getElem?_cons_succ] at qx_0 qx_1 qx_2 qy_0 qy_1
              have bD : Below wc137.heap.size wc137 wc137.drew := (Below.refl _ _).drew
              have kqx_0 := below_cell bD qx_0
              have kqx_1 := below_cell bD qx_1
              have kqx_2 := below_cell bD qx_2
              have kqy_0 := below_cell bD qy_0
              have kqy_1 := below_cell bD qy_1
              replace ok8 := ok8.on bD
              replace bel := bel.trans (bD.mono bel.size)
              replace qx := qx.later bD
              replace k9 := k9.later bD
              replace qy := qy.later bD
              refine wp_region_held_drew (S := fun w' => w'.cell? ⟨c8, 0, none⟩ = some (.bool (ng X1.num)) ∧ w'.cell? ⟨c8, 1, none⟩ = some (.slice p8 (ln (am X1.num)) (ln (am X1.num))) ∧ w'.cell? ⟨c8, 2, none⟩ = some (.slice q8 (ln X1.den) (ln X1.den)) ∧ w'.cell? ⟨cm, 0, none⟩ = some (.bool (ng m)) ∧ w'.cell? ⟨cm, 1, none⟩ = some (.slice p9 (ln (am m)) (ln (am m)))) (by kernel_rfl) ⟨kqx_0, kqx_1, kqx_2, kqy_0, kqy_1⟩ (fun hHeld => ?_)
              clear kqx_0 kqx_1 kqx_2 kqy_0 kqy_1
              generalize wc137.drew = wF0 at bD ok8 qx k9 qy bel hHeld ⊢
              clear bD qx_0 qx_1 qx_2 qy_0 qy_1
              refine tkb 0 (v := ?_) rfl (Or.inl ⟨by rfl, ?_⟩) ?_
              rotate_left
              · intro w9 hSw
                go_simp
                first | done | with_reducible rfl
              simp only [bP, bN, bS, bZ, bC]
              refine tkb 2 (v := ?_) rfl (Or.inl ⟨by rfl, ?_⟩) ?_
              rotate_left
              · intro w9 hSw
                go_simp
                first | done | with_reducible rfl
              simp only [bP, bN, bS, bZ, bC]
              refine wpAnyH_ready (rs := [1, 6]) (by kernel_rfl) (by simp) ?_
              refine consT rfl (fun KK hKK => ?_) ?_
              · skip
                go_simp
                refine (G7.out _ p9 k9).mono ?_
                rintro e w180 ⟨p1, q1, rfl, b1, ok1⟩
                have bC := b1
                replace ok8 := ok8.on bC
                replace bel := bel.trans (bC.mono bel.size)
                replace qx := qx.later bC
                replace k9 := k9.later bC
                replace qy := qy.later bC
                replace hHeld := hc5 bC hHeld
                clear bC
                go_wp2_with fail
                clear b1
                refine hKK.out _ _ hHeld ?_
                clear hHeld
                intro hHeld
                clear hKK KK
                try simp only [bP, bN, bS, bZ, bC]
                refine wpAnyH_ready (rs := [3, 6]) (by kernel_rfl) (by simp) ?_
                refine consT rfl (fun KK hKK => ?_) ?_
                · skip
                  go_simp
                  refine (G8.out _ p1 q1 p8 q8 ok1 ok8).mono ?_
                  rintro e w181 ⟨p3, q3, rfl, b3, ok3⟩
                  have bC := b3
                  replace ok8 := ok8.on bC
                  replace ok1 := ok1.on bC
                  replace bel := bel.trans (bC.mono bel.size)
                  replace qx := qx.later bC
                  replace k9 := k9.later bC
                  replace qy := qy.later bC
                  replace hHeld := hc5 bC hHeld
                  clear bC
                  go_wp2_with fail
                  clear b3
                  refine hKK.out _ _ hHeld ?_
                  clear hHeld
                  intro hHeld
                  clear hKK KK
                  try simp only [bP, bN, bS, bZ, bC]
                  clear ok1
                  refine wpAnyH_ready (rs := [4, 6]) (by kernel_rfl) (by simp) ?_
                  refine consT rfl (fun KK hKK => ?_) ?_
                  · skip
                    go_simp
                    refine (G9.out _ p3 q3 ok3).mono ?_
                    rintro e w182 ⟨p4, q4, rfl, b4, ok4⟩
                    have bC := b4
                    replace ok8 := ok8.on bC
                    replace ok3 := ok3.on bC
                    replace bel := bel.trans (bC.mono bel.size)
                    replace qx := qx.later bC
                    replace k9 := k9.later bC
                    replace qy := qy.later bC
                    replace hHeld := hc5 bC hHeld
                    clear bC
                    go_wp2_with fail
                    clear b4
                    refine hKK.out _ _ hHeld ?_
                    clear hHeld
                    intro hHeld
                    clear hKK KK
                    try simp only [bP, bN, bS, bZ, bC]
                    have sg4 : Seg _ q4 D1.den (ln D1.den) := ok4.2.2.2.1
                    clear ok4 ok3 ok8
                    refine tkb 5 (v := ?_) rfl (Or.inl ⟨by rfl, ?_⟩) ?_
                    rotate_left
                    · intro w9 hSw
                      go_simp
                      first | done | with_reducible rfl
                    simp only [bP, bN, bS, bZ, bC]
                    refine wpAnyH_ready (rs := [6]) (by kernel_rfl) (by simp) ?_
                    refine cons' rfl (fun KK hKK => ?_)
                    go_simp
                    have n9 := single_new w182 2 38 2 (by omega) rfl
                    have gpc := n9.seg
                    have bA := n9.below
                    clear n9
                    generalize w182.alloc (.cells #[.int .u32 2] 38) = w183 at gpc bA ⊢
                    replace bel := bel.trans (bA.mono bel.size)
                    replace qx := qx.later bA
                    replace k9 := k9.later bA
                    replace qy := qy.later bA
                    replace sg4 := sg4.later bA
                    replace hHeld := hc5 bA hHeld
                    clear bA
                    refine hKK.out _ _ hHeld ?_
                    clear hHeld
                    intro hHeld
                    clear hKK KK
                    try simp only [bP, bN, bS, bZ, bC]
                    obtain ⟨pc, hcc⟩ : ∃ cc, w182.heap.size = cc := ⟨_, rfl⟩
                    rw [hcc] at gpc
                    try rw [hcc]
                    clear hcc
                    refine wpAnyH_ready (rs := [7]) (by kernel_rfl) (by simp) ?_
                    refine cons' rfl (fun KK hKK => ?_)
                    go_simp
                    refine (GA.out _ q4 (some ⟨pc, 0, none⟩) sg4 gpc).mono ?_
                    rintro e w184 ⟨rfl, d7⟩
                    have bC := dr_below d7
                    replace bel := bel.trans (bC.mono bel.size)
                    replace qx := qx.later bC
                    replace k9 := k9.later bC
                    replace qy := qy.later bC
                    replace sg4 := sg4.later bC
                    replace gpc := gpc.later bC
                    replace hHeld := hc5 bC hHeld
                    clear bC
                    go_wp2_with fail
                    refine hKK.out _ _ hHeld ?_
                    clear hHeld
                    intro hHeld
                    clear hKK KK
                    try simp only [bP, bN, bS, bZ, bC]
                    refine tkb 8 (v := ?_) rfl (Or.inl ⟨by rfl, ?_⟩) ?_
                    rotate_left
                    · intro w9 hSw
                      go_simp
                      first | done | with_reducible rfl
                    simp only [bP, bN, bS, bZ, bC]
                    refine tkb 9 (v := undef) rfl (Or.inr ⟨by rfl, rfl⟩) ?_
                    simp only [bP, bN, bS, bZ, bC]
                    refine tkb 10 (v := undef) rfl (Or.inr ⟨by rfl, rfl⟩) ?_
                    simp only [bP, bN, bS, bZ, bC]
                    refine tkb 11 (v := undef) rfl (Or.inr ⟨by rfl, rfl⟩) ?_
                    simp only [bP, bN, bS, bZ, bC]
                    refine tkb 12 (v := ?_) rfl (Or.inl ⟨by rfl, ?_⟩) ?_
                    rotate_left
                    · intro w9 hSw
                      go_simp
                      first | done | with_reducible rfl
                    simp only [bP, bN, bS, bZ, bC]
                    refine wpAnyH_done (by kernel_rfl) ?_ _
                    go_wp2_with fail
                    go_meet
                    exact ⟨_, rfl, rfl, qy, k9, bel⟩
                  refine consT rfl (fun KK hKK => ?_) ?_
                  · skip
                    go_simp
                    have n9 := single_new w181 2 38 2 (by omega) rfl
                    have gpc := n9.seg
                    have bA := n9.below
                    clear n9
                    generalize w181.alloc (.cells #[.int .u32 2] 38) = w185 at gpc bA ⊢
                    replace ok8 := ok8.on bA
                    replace ok3 := ok3.on bA
                    replace bel := bel.trans (bA.mono bel.size)
                    replace qx := qx.later bA
                    replace k9 := k9.later bA
                    replace qy := qy.later bA
                    replace hHeld := hc5 bA hHeld
                    clear bA
                    refine hKK.out _ _ hHeld ?_
                    clear hHeld
                    intro hHeld
                    clear hKK KK
                    try simp only [bP, bN, bS, bZ, bC]
                    obtain ⟨pc, hcc⟩ : ∃ cc, w181.heap.size = cc := ⟨_, rfl⟩
                    rw [hcc] at gpc
                    try rw [hcc]
                    clear hcc
                    refine wpAnyH_ready (rs := [4]) (by kernel_rfl) (by simp) ?_
                    refine cons' rfl (fun KK hKK => ?_)
                    go_simp
                    refine (G9.out _ p3 q3 ok3).mono ?_
                    rintro e w186 ⟨p4, q4, rfl, b4, ok4⟩
                    have bC := b4
                    replace ok8 := ok8.on bC
                    replace ok3 := ok3.on bC
                    replace bel := bel.trans (bC.mono bel.size)
                    replace qx := qx.later bC
                    replace k9 := k9.later bC
                    replace qy := qy.later bC
                    replace gpc := gpc.later bC
                    replace hHeld := hc5 bC hHeld
                    clear bC
                    go_wp2_with fail
                    clear b4
                    refine hKK.out _ _ hHeld ?_
                    clear hHeld
                    intro hHeld
                    clear hKK KK
                    try simp only [bP, bN, bS, bZ, bC]
                    have sg4 : Seg _ q4 D1.den (ln D1.den) := ok4.2.2.2.1
                    clear ok4 ok3 ok8
                    refine tkb 5 (v := ?_) rfl (Or.inl ⟨by rfl, ?_⟩) ?_
                    rotate_left
                    · intro w9 hSw
                      go_simp
                      first | done | with_reducible rfl
                    simp only [bP, bN, bS, bZ, bC]
                    refine wpAnyH_ready (rs := [7]) (by kernel_rfl) (by simp) ?_
                    refine cons' rfl (fun KK hKK => ?_)
                    go_simp
                    refine (GA.out _ q4 (some ⟨pc, 0, none⟩) sg4 gpc).mono ?_
                    rintro e w187 ⟨rfl, d7⟩
                    have bC := dr_below d7
                    replace bel := bel.trans (bC.mono bel.size)
                    replace qx := qx.later bC
                    replace k9 := k9.later bC
                    replace qy := qy.later bC
                    replace gpc := gpc.later bC
                    replace sg4 := sg4.later bC
                    replace hHeld := hc5 bC hHeld
                    clear bC
                    go_wp2_with fail
                    refine hKK.out _ _ hHeld ?_
                    clear hHeld
                    intro hHeld
                    clear hKK KK
                    try simp only [bP, bN, bS, bZ, bC]
                    refine tkb 8 (v := ?_) rfl (Or.inl ⟨by rfl, ?_⟩) ?_
                    rotate_left
                    · intro w9 hSw
                      go_simp
                      first | done | with_reducible rfl
                    simp only [bP, bN, bS, bZ, bC]
                    refine tkb 9 (v := undef) rfl (Or.inr ⟨by rfl, rfl⟩) ?_
                    simp only [bP, bN, bS, bZ, bC]
                    refine tkb 10 (v := undef) rfl (Or.inr ⟨by rfl, rfl⟩) ?_
                    simp only [bP, bN, bS, bZ, bC]
                    refine tkb 11 (v := undef) rfl (Or.inr ⟨by rfl, rfl⟩) ?_
                    simp only [bP, bN, bS, bZ, bC]
                    refine tkb 12 (v := ?_) rfl (Or.inl ⟨by rfl, ?_⟩) ?_
                    rotate_left
                    · intro w9 hSw
                      go_simp
                      first | done | with_reducible rfl
                    simp only [bP, bN, bS, bZ, bC]
                    refine wpAnyH_done (by kernel_rfl) ?_ _
                    go_wp2_with fail
                    go_meet
                    exact ⟨_, rfl, rfl, qy, k9, bel⟩
                  exact AllReadyH.nil
                refine consT rfl (fun KK hKK => ?_) ?_
                · skip
                  go_simp
                  have n9 := single_new w180 2 38 2 (by omega) rfl
                  have gpc := n9.seg
                  have bA := n9.below
                  clear n9
                  generalize w180.alloc (.cells #[.int .u32 2] 38) = w188 at gpc bA ⊢
                  replace ok8 := ok8.on bA
                  replace ok1 := ok1.on bA
                  replace bel := bel.trans (bA.mono bel.size)
                  replace qx := qx.later bA
                  replace k9 := k9.later bA
                  replace qy := qy.later bA
                  replace hHeld := hc5 bA hHeld
                  clear bA
                  refine hKK.out _ _ hHeld ?_
                  clear hHeld
                  intro hHeld
                  clear hKK KK
                  try simp only [bP, bN, bS, bZ, bC]
                  obtain ⟨pc, hcc⟩ : ∃ cc, w180.heap.size = cc := ⟨_, rfl⟩
                  rw [hcc] at gpc
                  try rw [hcc]
                  clear hcc
                  refine wpAnyH_ready (rs := [3]) (by kernel_rfl) (by simp) ?_
                  refine cons' rfl (fun KK hKK => ?_)
                  go_simp
                  refine (G8.out _ p1 q1 p8 q8 ok1 ok8).mono ?_
                  rintro e w189 ⟨p3, q3, rfl, b3, ok3⟩
                  have bC := b3
                  replace ok8 := ok8.on bC
                  replace ok1 := ok1.on bC
                  replace bel := bel.trans (bC.mono bel.size)
                  replace qx := qx.later bC
                  replace k9 := k9.later bC
                  replace qy := qy.later bC
                  replace gpc := gpc.later bC
                  replace hHeld := hc5 bC hHeld
                  clear bC
                  go_wp2_with fail
                  clear b3
                  refine hKK.out _ _ hHeld ?_
                  clear hHeld
                  intro hHeld
                  clear hKK KK
                  try simp only [bP, bN, bS, bZ, bC]
                  clear ok1
                  refine wpAnyH_ready (rs := [4]) (by kernel_rfl) (by simp) ?_
                  refine cons' rfl (fun KK hKK => ?_)
                  go_simp
                  refine (G9.out _ p3 q3 ok3).mono ?_
                  rintro e w190 ⟨p4, q4, rfl, b4, ok4⟩
                  have bC := b4
                  replace ok8 := ok8.on bC
                  replace ok3 := ok3.on bC
                  replace bel := bel.trans (bC.mono bel.size)
                  replace qx := qx.later bC
                  replace k9 := k9.later bC
                  replace qy := qy.later bC
                  replace gpc := gpc.later bC
                  replace hHeld := hc5 bC hHeld
                  clear bC
                  go_wp2_with fail
                  clear b4
                  refine hKK.out _ _ hHeld ?_
                  clear hHeld
                  intro hHeld
                  clear hKK KK
                  try simp only [bP, bN, bS, bZ, bC]
                  have sg4 : Seg _ q4 D1.den (ln D1.den) := ok4.2.2.2.1
                  clear ok4 ok3 ok8
                  refine tkb 5 (v := ?_) rfl (Or.inl ⟨by rfl, ?_⟩) ?_
                  rotate_left
                  · intro w9 hSw
                    go_simp
                    first | done | with_reducible rfl
                  simp only [bP, bN, bS, bZ, bC]
                  refine wpAnyH_ready (rs := [7]) (by kernel_rfl) (by simp) ?_
                  refine cons' rfl (fun KK hKK => ?_)
                  go_simp
                  refine (GA.out _ q4 (some ⟨pc, 0, none⟩) sg4 gpc).mono ?_
                  rintro e w191 ⟨rfl, d7⟩
                  have bC := dr_below d7
                  replace bel := bel.trans (bC.mono bel.size)
                  replace qx := qx.later bC
                  replace k9 := k9.later bC
                  replace qy := qy.later bC
                  replace gpc := gpc.later bC
                  replace sg4 := sg4.later bC
                  replace hHeld := hc5 bC hHeld
                  clear bC
                  go_wp2_with fail
                  refine hKK.out _ _ hHeld ?_
                  clear hHeld
                  intro hHeld
                  clear hKK KK
                  try simp only [bP, bN, bS, bZ, bC]
                  refine tkb 8 (v := ?_) rfl (Or.inl ⟨by rfl, ?_⟩) ?_
                  rotate_left
                  · intro w9 hSw
                    go_simp
                    first | done | with_reducible rfl
                  simp only [bP, bN, bS, bZ, bC]
                  refine tkb 9 (v := undef) rfl (Or.inr ⟨by rfl, rfl⟩) ?_
                  simp only [bP, bN, bS, bZ, bC]
                  refine tkb 10 (v := undef) rfl (Or.inr ⟨by rfl, rfl⟩) ?_
                  simp only [bP, bN, bS, bZ, bC]
                  refine tkb 11 (v := undef) rfl (Or.inr ⟨by rfl, rfl⟩) ?_
                  simp only [bP, bN, bS, bZ, bC]
                  refine tkb 12 (v := ?_) rfl (Or.inl ⟨by rfl, ?_⟩) ?_
                  rotate_left
                  · intro w9 hSw
                    go_simp
                    first | done | with_reducible rfl
                  simp only [bP, bN, bS, bZ, bC]
                  refine wpAnyH_done (by kernel_rfl) ?_ _
                  go_wp2_with fail
                  go_meet
                  exact ⟨_, rfl, rfl, qy, k9, bel⟩
                exact AllReadyH.nil
              refine consT rfl (fun KK hKK => ?_) ?_
              · skip
                go_simp
                have n9 := single_new wF0 2 38 2 (by omega) rfl
                have gpc := n9.seg
                have bA := n9.below
                clear n9
                generalize wF0.alloc (.cells #[.int .u32 2] 38) = w192 at gpc bA ⊢
                replace ok8 := ok8.on bA
                replace bel := bel.trans (bA.mono bel.size)
                replace qx := qx.later bA
                replace k9 := k9.later bA
                replace qy := qy.later bA
                replace hHeld := hc5 bA hHeld
                clear bA
                refine hKK.out _ _ hHeld ?_
                clear hHeld
                intro hHeld
                clear hKK KK
                try simp only [bP, bN, bS, bZ, bC]
                obtain ⟨pc, hcc⟩ : ∃ cc, wF0.heap.size = cc := ⟨_, rfl⟩
                rw [hcc] at gpc
                try rw [hcc]
                clear hcc
                refine wpAnyH_ready (rs := [1]) (by kernel_rfl) (by simp) ?_
                refine cons' rfl (fun KK hKK => ?_)
                go_simp
                refine (G7.out _ p9 k9).mono ?_
                rintro e w193 ⟨p1, q1, rfl, b1, ok1⟩
                have bC := b1
                replace ok8 := ok8.on bC
                replace bel := bel.trans (bC.mono bel.size)
                replace qx := qx.later bC
                replace k9 := k9.later bC
                replace qy := qy.later bC
                replace gpc := gpc.later bC
                replace hHeld := hc5 bC hHeld
                clear bC
                go_wp2_with fail
                clear b1
                refine hKK.out _ _ hHeld ?_
                clear hHeld
                intro hHeld
                clear hKK KK
                try simp only [bP, bN, bS, bZ, bC]
                refine wpAnyH_ready (rs := [3]) (by kernel_rfl) (by simp) ?_
                refine cons' rfl (fun KK hKK => ?_)
                go_simp
                refine (G8.out _ p1 q1 p8 q8 ok1 ok8).mono ?_
                rintro e w194 ⟨p3, q3, rfl, b3, ok3⟩
                have bC := b3
                replace ok8 := ok8.on bC
                replace ok1 := ok1.on bC
                replace bel := bel.trans (bC.mono bel.size)
                replace qx := qx.later bC
                replace k9 := k9.later bC
                replace qy := qy.later bC
                replace gpc := gpc.later bC
                replace hHeld := hc5 bC hHeld
                clear bC
                go_wp2_with fail
                clear b3
                refine hKK.out _ _ hHeld ?_
                clear hHeld
                intro hHeld
                clear hKK KK
                try simp only [bP, bN, bS, bZ, bC]
                clear ok1
                refine wpAnyH_ready (rs := [4]) (by kernel_rfl) (by simp) ?_
                refine cons' rfl (fun KK hKK => ?_)
                go_simp
                refine (G9.out _ p3 q3 ok3).mono ?_
                rintro e w195 ⟨p4, q4, rfl, b4, ok4⟩
                have bC := b4
                replace ok8 := ok8.on bC
                replace ok3 := ok3.on bC
                replace bel := bel.trans (bC.mono bel.size)
                replace qx := qx.later bC
                replace k9 := k9.later bC
                replace qy := qy.later bC
                replace gpc := gpc.later bC
                replace hHeld := hc5 bC hHeld
                clear bC
                go_wp2_with fail
                clear b4
                refine hKK.out _ _ hHeld ?_
                clear hHeld
                intro hHeld
                clear hKK KK
                try simp only [bP, bN, bS, bZ, bC]
                have sg4 : Seg _ q4 D1.den (ln D1.den) := ok4.2.2.2.1
                clear ok4 ok3 ok8
                refine tkb 5 (v := ?_) rfl (Or.inl ⟨by rfl, ?_⟩) ?_
                rotate_left
                · intro w9 hSw
                  go_simp
                  first | done | with_reducible rfl
                simp only [bP, bN, bS, bZ, bC]
                refine wpAnyH_ready (rs := [7]) (by kernel_rfl) (by simp) ?_
                refine cons' rfl (fun KK hKK => ?_)
                go_simp
                refine (GA.out _ q4 (some ⟨pc, 0, none⟩) sg4 gpc).mono ?_
                rintro e w196 ⟨rfl, d7⟩
                have bC := dr_below d7
                replace bel := bel.trans (bC.mono bel.size)
                replace qx := qx.later bC
                replace k9 := k9.later bC
                replace qy := qy.later bC
                replace gpc := gpc.later bC
                replace sg4 := sg4.later bC
                replace hHeld := hc5 bC hHeld
                clear bC
                go_wp2_with fail
                refine hKK.out _ _ hHeld ?_
                clear hHeld
                intro hHeld
                clear hKK KK
                try simp only [bP, bN, bS, bZ, bC]
                refine tkb 8 (v := ?_) rfl (Or.inl ⟨by rfl, ?_⟩) ?_
                rotate_left
                · intro w9 hSw
                  go_simp
                  first | done | with_reducible rfl
                simp only [bP, bN, bS, bZ, bC]
                refine tkb 9 (v := undef) rfl (Or.inr ⟨by rfl, rfl⟩) ?_
                simp only [bP, bN, bS, bZ, bC]
                refine tkb 10 (v := undef) rfl (Or.inr ⟨by rfl, rfl⟩) ?_
                simp only [bP, bN, bS, bZ, bC]
                refine tkb 11 (v := undef) rfl (Or.inr ⟨by rfl, rfl⟩) ?_
                simp only [bP, bN, bS, bZ, bC]
                refine tkb 12 (v := ?_) rfl (Or.inl ⟨by rfl, ?_⟩) ?_
                rotate_left
                · intro w9 hSw
                  go_simp
                  first | done | with_reducible rfl
                simp only [bP, bN, bS, bZ, bC]
                refine wpAnyH_done (by kernel_rfl) ?_ _
                go_wp2_with fail
                go_meet
                exact ⟨_, rfl, rfl, qy, k9, bel⟩
              exact AllReadyH.nil
          case rest =>
            clear bel k9 qx qy ok8
            obtain ⟨wy, hwv, rfl, qy, k9, bel⟩ := hcut
            subst hwv
            have hbs := bel.size
            go_upto_if 52 with fail
            go_cut [] from 53 to 56 (fun wx => ∃ wh9 pM, wh9 = wx ∧ Blk wx cm #[.bool (ng M), .slice pM (ln (am M)) (ln (am M))] 25 ∧ Seg wx pM (am M) (ln (am M)) ∧ Below w.heap.size w wx)
            case first =>
              cases B9
              · have h3 : m = M := by
                  rcases hcase.out with ⟨h1, h2, h3⟩ | ⟨h1, h2, h3⟩ | ⟨h1, h3⟩
                  · exact absurd (hB9'.out.trans (decide_eq_true ⟨h1, h2⟩)) (by decide)
                  · exact h3
                  · exact h3
                subst h3
                go_wp2_with fail
                go_meet
                exact ⟨_, p9, rfl, qy, k9, bel⟩
              · have h3 : m - 1 = M := by
                  have hq := of_decide_eq_true hB9'.out.symm
                  rcases hcase.out with ⟨h1, h2, h3⟩ | ⟨h1, h2, h3⟩ | ⟨h1, h3⟩
                  · exact h3
                  · omega
                  · exact absurd hq.1 h1
                obtain ⟨I, hI⟩ : ∃ I : Int, I = 1 := ⟨_, rfl⟩
                have lI : ln (am I) ≤ 1 := by rw [hI, show am 1 = 1 from rfl, ln_one]; omega
                have GC' : ∀ w', Calls Tryz.prog 32 #[.int .i64 1] w' fun e w'' => ∃ p, e = .returned (.agg #[.bool (ng I), .slice p (ln (am I)) (ln (am I))]) ∧ New w' w'' p (am I) (ln (am I)) := fun w' => by subst hI; exact vOf_is 1 w' (by omega) (by omega)
                have GC := hide' GC'
                clear GC'
                have GD := hide' (fun w' p1 p2 k1 k2 => vSub_is (ng m) p1 (ln (am m)) (ln (am m)) (am m) (ng I) p2 (ln (am I)) (ln (am I)) (am I) M w' (by have := lm.out; omega) k1 (by omega) k2 (by rw [sg_na, sg_na, hI]; exact h3))
                clear hI lI h3 hcase
                go_wp2_with fail
                have bD : Below wy.heap.size wy wy.drew := (Below.refl _ _).drew
                replace bel := bel.trans (bD.mono bel.size)
                replace qy := qy.later bD
                replace k9 := k9.later bD
                refine wp_region_held_drew (S := fun w' => True) (by kernel_rfl) trivial (fun hHeld => ?_)
                generalize wy.drew = wG0 at bD qy k9 bel hHeld ⊢
                clear bD
                refine wpAnyH_ready (rs := [0, 1]) (by kernel_rfl) (by simp) ?_
                refine consT rfl (fun KK hKK => ?_) ?_
                · skip
                  have z0 := qy.cell 0
                  have z1 := qy.cell 1
                  simp only [List.getElem?_toArray, List.getElem?_cons_zero, List.getElem?_cons_succ] at z0 z1
                  go_simp
                  clear z0 z1
                  refine hKK.out _ _ hHeld ?_
                  clear hHeld
                  intro hHeld
                  clear hKK KK
                  try simp only [bP, bN, bS, bZ, bC]
                  refine wpAnyH_ready (rs := [1]) (by kernel_rfl) (by simp) ?_
                  refine cons' rfl (fun KK hKK => ?_)
                  go_simp
                  refine (GC.out _).mono ?_
                  rintro e w197 ⟨pi, rfl, ni⟩
                  have bC := ni.below
                  replace bel := bel.trans (bC.mono bel.size)
                  replace qy := qy.later bC
                  replace k9 := k9.later bC
                  clear bC
                  go_wp2_with fail
                  have ki := ni.seg
                  clear ni
                  refine hKK.out _ _ hHeld ?_
                  clear hHeld
                  intro hHeld
                  clear hKK KK
                  try simp only [bP, bN, bS, bZ, bC]
                  refine wpAnyH_ready (rs := [2]) (by kernel_rfl) (by simp) ?_
                  refine cons' rfl (fun KK hKK => ?_)
                  go_simp
                  refine (GD.out _ p9 pi k9 ki).mono ?_
                  rintro e w198 ⟨pM, rfl, nM⟩
                  have bC := nM.below
                  replace bel := bel.trans (bC.mono bel.size)
                  replace qy := qy.later bC
                  replace k9 := k9.later bC
                  replace ki := ki.later bC
                  clear bC
                  go_wp2_with fail
                  have kM := nM.seg
                  clear nM
                  refine hKK.out _ _ hHeld ?_
                  clear hHeld
                  intro hHeld
                  clear hKK KK
                  try simp only [bP, bN, bS, bZ, bC]
                  refine wpAnyH_ready (rs := [3]) (by kernel_rfl) (by simp) ?_
                  refine cons' rfl (fun KK hKK => ?_)
                  have z0 := qy.cell 0
                  have z1 := qy.cell 1
                  simp only [List.getElem?_toArray, List.getElem?_cons_zero, List.getElem?_cons_succ] at z0 z1
                  have fz := fun o => qy.frozen o
                  obtain ⟨c9, q9⟩ := qy.set2 (.bool (ng M)) (.slice pM (ln (am M)) (ln (am M)))
                  have hno := qy.no (by simp)
                  replace k9 := k9.ch c9 hno
                  replace ki := ki.ch c9 hno
                  replace kM := kM.ch c9 hno
                  replace bel := bel.trans (c9.below (by omega))
                  go_simp
                  clear z0 z1 fz hno c9
                  replace qy := q9
                  refine hKK.out _ _ trivial ?_
                  clear hHeld
                  intro hHeld
                  clear hKK KK
                  try simp only [bP, bN, bS, bZ, bC]
                  generalize ((w198.setCell ⟨cm, 0, none⟩ (.bool (ng M))).setCell ⟨cm, 1, none⟩ (.slice pM (ln (am M)) (ln (am M)))) = w199 at bel qy k9 ki kM hHeld ⊢
                  refine wpAnyH_done (by kernel_rfl) ?_ _
                  go_wp2_with fail
                  go_meet
                  exact ⟨_, pM, rfl, qy, kM, bel⟩
                refine consT rfl (fun KK hKK => ?_) ?_
                · skip
                  go_simp
                  refine (GC.out _).mono ?_
                  rintro e w200 ⟨pi, rfl, ni⟩
                  have bC := ni.below
                  replace bel := bel.trans (bC.mono bel.size)
                  replace qy := qy.later bC
                  replace k9 := k9.later bC
                  clear bC
                  go_wp2_with fail
                  have ki := ni.seg
                  clear ni
                  refine hKK.out _ _ hHeld ?_
                  clear hHeld
                  intro hHeld
                  clear hKK KK
                  try simp only [bP, bN, bS, bZ, bC]
                  refine wpAnyH_ready (rs := [0]) (by kernel_rfl) (by simp) ?_
                  refine cons' rfl (fun KK hKK => ?_)
                  have z0 := qy.cell 0
                  have z1 := qy.cell 1
                  simp only [List.getElem?_toArray, List.getElem?_cons_zero, List.getElem?_cons_succ] at z0 z1
                  go_simp
                  clear z0 z1
                  refine hKK.out _ _ hHeld ?_
                  clear hHeld
                  intro hHeld
                  clear hKK KK
                  try simp only [bP, bN, bS, bZ, bC]
                  refine wpAnyH_ready (rs := [2]) (by kernel_rfl) (by simp) ?_
                  refine cons' rfl (fun KK hKK => ?_)
                  go_simp
                  refine (GD.out _ p9 pi k9 ki).mono ?_
                  rintro e w201 ⟨pM, rfl, nM⟩
                  have bC := nM.below
                  replace bel := bel.trans (bC.mono bel.size)
                  replace qy := qy.later bC
                  replace k9 := k9.later bC
                  replace ki := ki.later bC
                  clear bC
                  go_wp2_with fail
                  have kM := nM.seg
                  clear nM
                  refine hKK.out _ _ hHeld ?_
                  clear hHeld
                  intro hHeld
                  clear hKK KK
                  try simp only [bP, bN, bS, bZ, bC]
                  refine wpAnyH_ready (rs := [3]) (by kernel_rfl) (by simp) ?_
                  refine cons' rfl (fun KK hKK => ?_)
                  have z0 := qy.cell 0
                  have z1 := qy.cell 1
                  simp only [List.getElem?_toArray, List.getElem?_cons_zero, List.getElem?_cons_succ] at z0 z1
                  have fz := fun o => qy.frozen o
                  obtain ⟨c9, q9⟩ := qy.set2 (.bool (ng M)) (.slice pM (ln (am M)) (ln (am M)))
                  have hno := qy.no (by simp)
                  replace k9 := k9.ch c9 hno
                  replace ki := ki.ch c9 hno
                  replace kM := kM.ch c9 hno
                  replace bel := bel.trans (c9.below (by omega))
                  go_simp
                  clear z0 z1 fz hno c9
                  replace qy := q9
                  refine hKK.out _ _ trivial ?_
                  clear hHeld
                  intro hHeld
                  clear hKK KK
                  try simp only [bP, bN, bS, bZ, bC]
                  generalize ((w201.setCell ⟨cm, 0, none⟩ (.bool (ng M))).setCell ⟨cm, 1, none⟩ (.slice pM (ln (am M)) (ln (am M)))) = w202 at bel qy k9 ki kM hHeld ⊢
                  refine wpAnyH_done (by kernel_rfl) ?_ _
                  go_wp2_with fail
                  go_meet
                  exact ⟨_, pM, rfl, qy, kM, bel⟩
                exact AllReadyH.nil
            case rest =>
              clear bel k9 qy
              obtain ⟨wz, pM, hwv, qM, kM, bel⟩ := hcut
              subst hwv
              have qM_0 := qM.cell 0
              have qM_1 := qM.cell 1
              simp only [List.getElem?_toArray, List.getElem?_cons_zero, List.getElem?_cons_succ] at qM_0 qM_1
              go_wp2_with fail
              clear qM_0 qM_1
              refine (GE.out _ pM kM).mono ?_
              rintro e wd ⟨rfl, b1⟩
              have bb := b1
              replace qM := qM.later bb
              replace kM := kM.later bb
              replace bel := bel.trans (bb.mono bel.size)
              clear bb
              clear b1
              go_wp2_with fail
              go_loopw [10] (fun v wr => ∃ j : Nat, v = .string (nz j ++ u) ∧ (j = 0 ∨ j + u.size ≤ k + 1) ∧ Blk wr cm #[.bool (ng M), .slice pM (ln (am M)) (ln (am M))] 25 ∧ Seg wr pM (am M) (ln (am M)) ∧ Below w.heap.size w wr) (fun v _ => match v with | .string s => k + 1 - s.size | _ => 0)
              case atStart => exact ⟨0, by rw [nz_zero], .inl rfl, qM, kM, bel⟩
              case round =>
                clear qM kM bel
                obtain ⟨j, rfl, hj, qM, kM, bel⟩ := hrel
                obtain ⟨z, hz⟩ : ∃ z, nz j ++ u = z := ⟨_, rfl⟩
                have zs : z.size = j + u.size := by rw [← hz, ByteArray.size_append, nz_size]
                rw [hz]
                replace hz := hide' hz
                replace hj := hide' hj
                by_cases hlt : j + u.size ≤ k
                · have hki : ((z.size : Int) ≤ (k : Int)) := by omega
                  have x1 : ¬ (9223372036854775807 < 1 + z.size) := by omega
                  have zz : (⟨#[48]⟩ ++ z : ByteArray) = nz (j + 1) ++ u := by rw [← hz.out, ← ByteArray.append_assoc, nz_succ]
                  have zz2 : (⟨#[48]⟩ ++ z : ByteArray).size = 1 + z.size := by rw [ByteArray.size_append]; rfl
                  replace zz := hide' zz
                  replace zz2 := hide' zz2
                  replace zs := hide' zs
                  go_wp2
                  go_roundw
                  case rel => exact ⟨j + 1, by rw [← zz.out], .inr (by omega), qM, kM, bel⟩
                  case measure => show k + 1 - _ < k + 1 - _; rw [zz2.out]; have := zs.out; omega
                · have hki : ¬ ((z.size : Int) ≤ (k : Int)) := by omega
                  have hzp : z = padT k u := by
                      rw [← hz.out]; unfold padT; congr 2; have := hj.out; omega
                  have c1 : (z.size : Int) - (k : Int) = ((z.size - k : Nat) : Int) := by omega
                  have c2 : z.size - k ≤ z.size := by omega
                  obtain ⟨c, hc⟩ : ∃ c, z.size - k = c := ⟨_, rfl⟩
                  rw [hc] at c1 c2
                  replace hzp := hide' hzp
                  replace hc := hide' hc
                  have zb : z.size ≤ 67124400 := by have := hj.out; omega
                  replace zs := hide' zs
                  clear hlt
                  have x2 : ¬ (9223372036854775807 < 1 + (z.size - c)) := by omega
                  have x3 : ¬ (9223372036854775807 < c + (1 + (z.size - c))) := by omega
                  have x4 : ¬ (9223372036854775807 < min c z.size + (1 + (z.size - c))) := by omega
                  by_cases hk0 : k = 0
                  · skip
                    have hkz : ¬ ((k : Int) > 0) := by omega
                    replace hk0 := hide' hk0
                    have qM_0 := qM.cell 0
                    have qM_1 := qM.cell 1
                    simp only [List.getElem?_toArray, List.getElem?_cons_zero, List.getElem?_cons_succ] at qM_0 qM_1
                    go_wp2_with fail
                    clear qM_0 qM_1
                    obtain ⟨v, hv⟩ : ∃ v, z.extract 0 c = v := ⟨_, rfl⟩
                    have hpt : ptT k (padT k u) = v := by rw [← hzp.out, ← hv, ← hc.out]; unfold ptT; rw [if_pos hk0.out, hk0.out]; simp
                    have vs : v.size ≤ 67124402 := by rw [← hpt, pt_size (by rw [pad_size]; omega), ← hzp.out]; split <;> omega
                    rw [hv]
                    clear hv
                    replace hpt := hide' hpt
                    have x5 : ¬ (9223372036854775807 < 1 + v.size) := by omega
                    by_cases hs : M < 0
                    · skip
                      have hg : ng M = true := decide_eq_true hs
                      have GS' := GS.out
                      rw [sgn_neg hs] at GS'
                      replace GS := hide' GS'
                      clear GS'
                      have i0 : ((-1 : Int) < 0) := by omega
                      replace hg := hide' hg
                      replace hs := hide' hs
                      refine (GS.out _ pM kM).mono ?_
                      rintro e w9 ⟨rfl, b9⟩
                      replace bel := bel.trans (b9.mono bel.size)
                      clear GS
                      go_wp2
                      go_ret2
                      refine ⟨?_, bel⟩
                      unfold decT
                      rw [hg.out, hpt.out]
                      rfl
                    · skip
                      have hg : ng M = false := decide_eq_false hs
                      have i0 : ¬ (sgn M < 0) := by rcases Int.lt_or_eq_of_le (Int.not_lt.1 hs) with h | h; rw [sgn_pos h]; omega; rw [← h]; decide
                      replace hg := hide' hg
                      replace hs := hide' hs
                      refine (GS.out _ pM kM).mono ?_
                      rintro e w9 ⟨rfl, b9⟩
                      replace bel := bel.trans (b9.mono bel.size)
                      clear GS
                      go_wp2
                      go_ret2
                      refine ⟨?_, bel⟩
                      unfold decT
                      rw [hg.out, hpt.out]
                      rfl
                  · skip
                    have hkz : ((k : Int) > 0) := by omega
                    replace hk0 := hide' hk0
                    have qM_0 := qM.cell 0
                    have qM_1 := qM.cell 1
                    simp only [List.getElem?_toArray, List.getElem?_cons_zero, List.getElem?_cons_succ] at qM_0 qM_1
                    go_wp2_with fail
                    clear qM_0 qM_1
                    obtain ⟨v, hv⟩ : ∃ v, z.extract 0 c ++ (⟨#[46]⟩ ++ z.extract c z.size) = v := ⟨_, rfl⟩
                    have hpt : ptT k (padT k u) = v := by rw [← hzp.out, ← hv, ← hc.out]; unfold ptT; rw [if_neg hk0.out, ByteArray.append_assoc]
                    have vs : v.size ≤ 67124402 := by rw [← hpt, pt_size (by rw [pad_size]; omega), ← hzp.out]; split <;> omega
                    rw [hv]
                    clear hv
                    replace hpt := hide' hpt
                    have x5 : ¬ (9223372036854775807 < 1 + v.size) := by omega
                    by_cases hs : M < 0
                    · skip
                      have hg : ng M = true := decide_eq_true hs
                      have GS' := GS.out
                      rw [sgn_neg hs] at GS'
                      replace GS := hide' GS'
                      clear GS'
                      have i0 : ((-1 : Int) < 0) := by omega
                      replace hg := hide' hg
                      replace hs := hide' hs
                      refine (GS.out _ pM kM).mono ?_
                      rintro e w9 ⟨rfl, b9⟩
                      replace bel := bel.trans (b9.mono bel.size)
                      clear GS
                      go_wp2
                      go_ret2
                      refine ⟨?_, bel⟩
                      unfold decT
                      rw [hg.out, hpt.out]
                      rfl
                    · skip
                      have hg : ng M = false := decide_eq_false hs
                      have i0 : ¬ (sgn M < 0) := by rcases Int.lt_or_eq_of_le (Int.not_lt.1 hs) with h | h; rw [sgn_pos h]; omega; rw [← h]; decide
                      replace hg := hide' hg
                      replace hs := hide' hs
                      refine (GS.out _ pM kM).mono ?_
                      rintro e w9 ⟨rfl, b9⟩
                      replace bel := bel.trans (b9.mono bel.size)
                      clear GS
                      go_wp2
                      go_ret2
                      refine ⟨?_, bel⟩
                      unfold decT
                      rw [hg.out, hpt.out]
                      rfl
end Go.Proofs.YtnoiiphgpjifgaaGreatDoor
