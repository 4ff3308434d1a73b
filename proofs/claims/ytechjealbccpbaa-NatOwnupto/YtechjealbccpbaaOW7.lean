/-
  NatOwn: answers, wanted, sameAll.
-/
import Derived.Test.YtechjealbccpbaaOW6
namespace Go.Proofs.Ytechjealbccpbaa
open Go.RowKit
set_option linter.unusedVariables false
set_option linter.unusedSimpArgs false
theorem Seg.later {w1 w' : World} {a : Option Addr} {Z n : Nat} (h : Seg w1 a Z n) (hb : Below w1.heap.size w1 w') : Seg w' a Z n := h.below hb (Nat.le_refl _)
/-- when each of the fourteen was made -/
def PP : Nat → Nat := fun i => [6, 7, 8, 0, 9, 1, 1, 10, 11, 2, 3, 4, 5, 12].getD i 0
set_option maxHeartbeats 4000000 in
set_option maxRecDepth 100000 in
theorem answers_is (a : Option Addr) (n c X : Nat) (b : Option Addr) (m d Y : Nat) (k : Nat) (Z : Nat → Nat) (w : World) (hc : n ≤ c) (hn : n ≤ 1048576) (hS : Seg w a X n) (hd : m ≤ d) (hm : m ≤ 1048576) (hT : Seg w b Y m) (hk : k ≤ 255) (hZ : ZS X Y k Z) : Calls Try.prog 6 #[.slice a n c, .slice b m d, .int .i64 (k : Nat)] w fun e w' => ∃ bl A, e = .returned (.slice (some ⟨bl, 0, none⟩) 14 14) ∧ Below w.heap.size w w' ∧ w.heap.size ≤ bl ∧ bl < w'.heap.size ∧ RowZ w' bl A Z ∧ Ls w' w.heap.size bl 0 14 A (fun i => ln (Z i)) (fun i j => ((dg (Z i) j : Nat) : Int)) := by
  have GSub' := fun w' (k1 : Seg w' a X n) (k2 : Seg w' b Y m) => uSub a n c X b m d Y w' hc hn k1 hd hm k2
  rw [hZ.z3] at GSub'
  have GSub := hide' GSub'
  clear GSub'
  have GDiv' := fun w' (k1 : Seg w' a X n) (k2 : Seg w' b Y m) => uDiv a n c X b m d Y w' hc hn k1 hd hm k2
  rw [hZ.z5] at GDiv'
  rw [hZ.z6] at GDiv'
  have GDiv := hide' GDiv'
  clear GDiv'
  have GUp' := fun w' (k1 : Seg w' a X n) (k2 : Seg w' b Y m) => uUp a n c X b m d Y w' hc hn k1 hd hm k2 k hk
  rw [hZ.z9] at GUp'
  have GUp := hide' GUp'
  clear GUp'
  have GDn' := fun w' (k1 : Seg w' a X n) (k2 : Seg w' b Y m) => uDn a n c X b m d Y w' hc hn k1 hd hm k2 k hk
  rw [hZ.z10] at GDn'
  have GDn := hide' GDn'
  clear GDn'
  have GP1' := fun w' (k1 : Seg w' a X n) (k2 : Seg w' b Y m) => Pow_any a n c X 1 w' hc (by omega) (by omega) (by omega) k1
  rw [hZ.z11] at GP1'
  have GP1 := hide' GP1'
  clear GP1'
  have GP2' := fun w' (k1 : Seg w' a X n) (k2 : Seg w' b Y m) => Pow_any a n c X 2 w' hc (by omega) (by omega) (by omega) k1
  rw [hZ.z12] at GP2'
  have GP2 := hide' GP2'
  clear GP2'
  have GNorm' := fun w' (k1 : Seg w' a X n) (k2 : Seg w' b Y m) => Norm_any a n c X w' hc (by omega) k1
  have GNorm := hide' GNorm'
  clear GNorm'
  have GA1' := fun w' (k1 : Seg w' a X n) (k2 : Seg w' b Y m) => Add_any a b n c X m d Y w' hc (by omega) k1 hd (by omega) k2
  rw [hZ.z1] at GA1'
  have GA1 := hide' GA1'
  clear GA1'
  have GA2' := fun w' (k1 : Seg w' a X n) (k2 : Seg w' b Y m) => Add_any b a m d Y n c X w' hd (by omega) k2 hc (by omega) k1
  rw [hZ.z2] at GA2'
  have GA2 := hide' GA2'
  clear GA2'
  have GM' := fun w' (k1 : Seg w' a X n) (k2 : Seg w' b Y m) => Mul_any a b n c X m d Y w' hc (by omega) k1 hd (by omega) k2
  rw [hZ.z4] at GM'
  have GM := hide' GM'
  clear GM'
  have GG1' := fun w' (k1 : Seg w' a X n) (k2 : Seg w' b Y m) => Gcd_any a b n c X m d Y w' hc (by omega) k1 hd (by omega) k2
  rw [hZ.z7] at GG1'
  have GG1 := hide' GG1'
  clear GG1'
  have GG2' := fun w' (k1 : Seg w' a X n) (k2 : Seg w' b Y m) => Gcd_any b a m d Y n c X w' hd (by omega) k2 hc (by omega) k1
  rw [hZ.z8] at GG2'
  have GG2 := hide' GG2'
  clear GG2'
  have GR' := fun w' (k1 : Seg w' a X n) (k2 : Seg w' b Y m) => Root_is X (Z 13) a n c w' hZ.z13 hc (by omega) k1
  have GR := hide' GR'
  clear GR'
  have GN0 := GNorm.out
  have e0 := hide' hZ.z0
  have e11 := hide' (show X = Z 11 by rw [← hZ.z11, Nat.pow_one])
  clear GN0 hZ
  have ek : (0 : Int) - (k : Int) = -(k : Int) := by omega
  have bel : Below w.heap.size w w := Below.refl _ _
  go_enter Try.func6, Try.ntmps6
  go_wp2_with fail
  refine (GSub.out _ hS hT).mono ?_
  rintro e w1 ⟨p3, x3, rfl, n3⟩
  have bb := n3.below
  replace hS := hS.later bb
  replace hT := hT.later bb
  replace bel := bel.trans (bb.mono bel.size)
  clear bb
  have s1 : w.heap.size ≤ w1.heap.size := n3.below.size
  have v3 := Iv.of_new n3
  clear n3
  go_wp2_with fail
  refine (GDiv.out _ hS hT).mono ?_
  rintro e w2 ⟨p5, p6, x5, rfl, n5, n6, hap⟩
  have bb := n5.below
  replace hS := hS.later bb
  replace hT := hT.later bb
  replace v3 := v3.later bb
  replace bel := bel.trans (bb.mono bel.size)
  clear bb
  have s2 : w1.heap.size ≤ w2.heap.size := n5.below.size
  have v5 := Iv.of_new n5
  have v6 := Iv.of_new n6
  clear n5 n6
  go_wp2_with fail
  refine (GUp.out _ hS hT).mono ?_
  rintro e w3 ⟨p9, x9, rfl, n9⟩
  have bb := n9.below
  replace hS := hS.later bb
  replace hT := hT.later bb
  replace v3 := v3.later bb
  replace v5 := v5.later bb
  replace v6 := v6.later bb
  replace bel := bel.trans (bb.mono bel.size)
  clear bb
  have s3 : w2.heap.size ≤ w3.heap.size := n9.below.size
  have v9 := Iv.of_new n9
  clear n9
  go_wp2_with fail
  refine (GDn.out _ hS hT).mono ?_
  rintro e w4 ⟨p10, x10, rfl, n10⟩
  have bb := n10.below
  replace hS := hS.later bb
  replace hT := hT.later bb
  replace v3 := v3.later bb
  replace v5 := v5.later bb
  replace v6 := v6.later bb
  replace v9 := v9.later bb
  replace bel := bel.trans (bb.mono bel.size)
  clear bb
  have s4 : w3.heap.size ≤ w4.heap.size := n10.below.size
  have v10 := Iv.of_new n10
  clear n10
  go_wp2_with fail
  refine (GP1.out _ hS hT).mono ?_
  rintro e w5 ⟨p11, rfl, n11⟩
  have bb := n11.below
  replace hS := hS.later bb
  replace hT := hT.later bb
  replace v3 := v3.later bb
  replace v5 := v5.later bb
  replace v6 := v6.later bb
  replace v9 := v9.later bb
  replace v10 := v10.later bb
  replace bel := bel.trans (bb.mono bel.size)
  clear bb
  have s5 : w4.heap.size ≤ w5.heap.size := n11.below.size
  have v11 := Iv.of_new n11
  clear n11
  go_wp2_with fail
  refine (GP2.out _ hS hT).mono ?_
  rintro e w6 ⟨p12, rfl, n12⟩
  have bb := n12.below
  replace hS := hS.later bb
  replace hT := hT.later bb
  replace v3 := v3.later bb
  replace v5 := v5.later bb
  replace v6 := v6.later bb
  replace v9 := v9.later bb
  replace v10 := v10.later bb
  replace v11 := v11.later bb
  replace bel := bel.trans (bb.mono bel.size)
  clear bb
  have s6 : w5.heap.size ≤ w6.heap.size := n12.below.size
  have v12 := Iv.of_new n12
  clear n12
  go_wp2_with fail
  refine (GNorm.out _ hS hT).mono ?_
  rintro e w7 ⟨p0, rfl, n0⟩
  have bb := n0.below
  replace hS := hS.later bb
  replace hT := hT.later bb
  replace v3 := v3.later bb
  replace v5 := v5.later bb
  replace v6 := v6.later bb
  replace v9 := v9.later bb
  replace v10 := v10.later bb
  replace v11 := v11.later bb
  replace v12 := v12.later bb
  replace bel := bel.trans (bb.mono bel.size)
  clear bb
  have s7 : w6.heap.size ≤ w7.heap.size := n0.below.size
  have v0 := Iv.of_new n0
  clear n0
  go_wp2_with fail
  refine (GA1.out _ hS hT).mono ?_
  rintro e w8 ⟨p1, rfl, n1⟩
  have bb := n1.below
  replace hS := hS.later bb
  replace hT := hT.later bb
  replace v3 := v3.later bb
  replace v5 := v5.later bb
  replace v6 := v6.later bb
  replace v9 := v9.later bb
  replace v10 := v10.later bb
  replace v11 := v11.later bb
  replace v12 := v12.later bb
  replace v0 := v0.later bb
  replace bel := bel.trans (bb.mono bel.size)
  clear bb
  have s8 : w7.heap.size ≤ w8.heap.size := n1.below.size
  have v1 := Iv.of_new n1
  clear n1
  go_wp2_with fail
  refine (GA2.out _ hS hT).mono ?_
  rintro e w9 ⟨p2, rfl, n2⟩
  have bb := n2.below
  replace hS := hS.later bb
  replace hT := hT.later bb
  replace v3 := v3.later bb
  replace v5 := v5.later bb
  replace v6 := v6.later bb
  replace v9 := v9.later bb
  replace v10 := v10.later bb
  replace v11 := v11.later bb
  replace v12 := v12.later bb
  replace v0 := v0.later bb
  replace v1 := v1.later bb
  replace bel := bel.trans (bb.mono bel.size)
  clear bb
  have s9 : w8.heap.size ≤ w9.heap.size := n2.below.size
  have v2 := Iv.of_new n2
  clear n2
  go_wp2_with fail
  refine (GM.out _ hS hT).mono ?_
  rintro e w10 ⟨p4, rfl, n4⟩
  have bb := n4.below
  replace hS := hS.later bb
  replace hT := hT.later bb
  replace v3 := v3.later bb
  replace v5 := v5.later bb
  replace v6 := v6.later bb
  replace v9 := v9.later bb
  replace v10 := v10.later bb
  replace v11 := v11.later bb
  replace v12 := v12.later bb
  replace v0 := v0.later bb
  replace v1 := v1.later bb
  replace v2 := v2.later bb
  replace bel := bel.trans (bb.mono bel.size)
  clear bb
  have s10 : w9.heap.size ≤ w10.heap.size := n4.below.size
  have v4 := Iv.of_new n4
  clear n4
  go_wp2_with fail
  refine (GG1.out _ hS hT).mono ?_
  rintro e w11 ⟨p7, rfl, n7⟩
  have bb := n7.below
  replace hS := hS.later bb
  replace hT := hT.later bb
  replace v3 := v3.later bb
  replace v5 := v5.later bb
  replace v6 := v6.later bb
  replace v9 := v9.later bb
  replace v10 := v10.later bb
  replace v11 := v11.later bb
  replace v12 := v12.later bb
  replace v0 := v0.later bb
  replace v1 := v1.later bb
  replace v2 := v2.later bb
  replace v4 := v4.later bb
  replace bel := bel.trans (bb.mono bel.size)
  clear bb
  have s11 : w10.heap.size ≤ w11.heap.size := n7.below.size
  have v7 := Iv.of_new n7
  clear n7
  go_wp2_with fail
  refine (GG2.out _ hS hT).mono ?_
  rintro e w12 ⟨p8, rfl, n8⟩
  have bb := n8.below
  replace hS := hS.later bb
  replace hT := hT.later bb
  replace v3 := v3.later bb
  replace v5 := v5.later bb
  replace v6 := v6.later bb
  replace v9 := v9.later bb
  replace v10 := v10.later bb
  replace v11 := v11.later bb
  replace v12 := v12.later bb
  replace v0 := v0.later bb
  replace v1 := v1.later bb
  replace v2 := v2.later bb
  replace v4 := v4.later bb
  replace v7 := v7.later bb
  replace bel := bel.trans (bb.mono bel.size)
  clear bb
  have s12 : w11.heap.size ≤ w12.heap.size := n8.below.size
  have v8 := Iv.of_new n8
  clear n8
  go_wp2_with fail
  refine (GR.out _ hS hT).mono ?_
  rintro e w13 ⟨p13, rfl, n13⟩
  have bb := n13.below
  replace hS := hS.later bb
  replace hT := hT.later bb
  replace v3 := v3.later bb
  replace v5 := v5.later bb
  replace v6 := v6.later bb
  replace v9 := v9.later bb
  replace v10 := v10.later bb
  replace v11 := v11.later bb
  replace v12 := v12.later bb
  replace v0 := v0.later bb
  replace v1 := v1.later bb
  replace v2 := v2.later bb
  replace v4 := v4.later bb
  replace v7 := v7.later bb
  replace v8 := v8.later bb
  replace bel := bel.trans (bb.mono bel.size)
  clear bb
  have s13 : w12.heap.size ≤ w13.heap.size := n13.below.size
  have v13 := Iv.of_new n13
  clear n13
  skip
  have hsz0 := bel.size
  have bb := below_alloc (w := w13) (.cells #[.slice p0 (ln (X)) (ln (X)), .slice p1 (ln (Z 1)) (ln (Z 1)), .slice p2 (ln (Z 2)) (ln (Z 2)), .slice p3 (ln (Z 3)) (ln (Z 3)), .slice p4 (ln (Z 4)) (ln (Z 4)), .slice p5 (ln (Z 5)) (ln (Z 5)), .slice p6 (ln (Z 6)) (ln (Z 6)), .slice p7 (ln (Z 7)) (ln (Z 7)), .slice p8 (ln (Z 8)) (ln (Z 8)), .slice p9 (ln (Z 9)) (ln (Z 9)), .slice p10 (ln (Z 10)) (ln (Z 10)), .slice p11 (ln (Z 11)) (ln (Z 11)), .slice p12 (ln (Z 12)) (ln (Z 12)), .slice p13 (ln (Z 13)) (ln (Z 13))] 23)
  replace hS := hS.later bb
  replace hT := hT.later bb
  replace v3 := v3.later bb
  replace v5 := v5.later bb
  replace v6 := v6.later bb
  replace v9 := v9.later bb
  replace v10 := v10.later bb
  replace v11 := v11.later bb
  replace v12 := v12.later bb
  replace v0 := v0.later bb
  replace v1 := v1.later bb
  replace v2 := v2.later bb
  replace v4 := v4.later bb
  replace v7 := v7.later bb
  replace v8 := v8.later bb
  replace v13 := v13.later bb
  replace bel := bel.trans (bb.mono bel.size)
  clear bb
  have qR := Blk.new w13 #[.slice p0 (ln (X)) (ln (X)), .slice p1 (ln (Z 1)) (ln (Z 1)), .slice p2 (ln (Z 2)) (ln (Z 2)), .slice p3 (ln (Z 3)) (ln (Z 3)), .slice p4 (ln (Z 4)) (ln (Z 4)), .slice p5 (ln (Z 5)) (ln (Z 5)), .slice p6 (ln (Z 6)) (ln (Z 6)), .slice p7 (ln (Z 7)) (ln (Z 7)), .slice p8 (ln (Z 8)) (ln (Z 8)), .slice p9 (ln (Z 9)) (ln (Z 9)), .slice p10 (ln (Z 10)) (ln (Z 10)), .slice p11 (ln (Z 11)) (ln (Z 11)), .slice p12 (ln (Z 12)) (ln (Z 12)), .slice p13 (ln (Z 13)) (ln (Z 13))] 23
  have hsz : w.heap.size ≤ w13.heap.size := hsz0
  have hlt := qR.lt
  have hbs := bel.size
  go_wp2
  go_ret
  have hA : RowZ _ w13.heap.size (fun i => [p0, p1, p2, p3, p4, p5, p6, p7, p8, p9, p10, p11, p12, p13].getD i none) Z := fun i hi => by
    match i, hi with
    | 0, _ => exact ⟨by rw [qR.cell 0]; show some (Value.slice p0 _ _) = _; rw [e0.out]; rfl, by show Seg _ p0 (Z 0) (ln (Z 0)); rw [← e0.out]; exact v0.1⟩
    | 1, _ => exact ⟨by rw [qR.cell 1]; show some (Value.slice p1 _ _) = _; rfl, by show Seg _ p1 (Z 1) (ln (Z 1)); exact v1.1⟩
    | 2, _ => exact ⟨by rw [qR.cell 2]; show some (Value.slice p2 _ _) = _; rfl, by show Seg _ p2 (Z 2) (ln (Z 2)); exact v2.1⟩
    | 3, _ => exact ⟨by rw [qR.cell 3]; show some (Value.slice p3 _ _) = _; rfl, by show Seg _ p3 (Z 3) (ln (Z 3)); exact v3.1⟩
    | 4, _ => exact ⟨by rw [qR.cell 4]; show some (Value.slice p4 _ _) = _; rfl, by show Seg _ p4 (Z 4) (ln (Z 4)); exact v4.1⟩
    | 5, _ => exact ⟨by rw [qR.cell 5]; show some (Value.slice p5 _ _) = _; rfl, by show Seg _ p5 (Z 5) (ln (Z 5)); exact v5.1⟩
    | 6, _ => exact ⟨by rw [qR.cell 6]; show some (Value.slice p6 _ _) = _; rfl, by show Seg _ p6 (Z 6) (ln (Z 6)); exact v6.1⟩
    | 7, _ => exact ⟨by rw [qR.cell 7]; show some (Value.slice p7 _ _) = _; rfl, by show Seg _ p7 (Z 7) (ln (Z 7)); exact v7.1⟩
    | 8, _ => exact ⟨by rw [qR.cell 8]; show some (Value.slice p8 _ _) = _; rfl, by show Seg _ p8 (Z 8) (ln (Z 8)); exact v8.1⟩
    | 9, _ => exact ⟨by rw [qR.cell 9]; show some (Value.slice p9 _ _) = _; rfl, by show Seg _ p9 (Z 9) (ln (Z 9)); exact v9.1⟩
    | 10, _ => exact ⟨by rw [qR.cell 10]; show some (Value.slice p10 _ _) = _; rfl, by show Seg _ p10 (Z 10) (ln (Z 10)); exact v10.1⟩
    | 11, _ => exact ⟨by rw [qR.cell 11]; show some (Value.slice p11 _ _) = _; rfl, by show Seg _ p11 (Z 11) (ln (Z 11)); exact v11.1⟩
    | 12, _ => exact ⟨by rw [qR.cell 12]; show some (Value.slice p12 _ _) = _; rfl, by show Seg _ p12 (Z 12) (ln (Z 12)); exact v12.1⟩
    | 13, _ => exact ⟨by rw [qR.cell 13]; show some (Value.slice p13 _ _) = _; rfl, by show Seg _ p13 (Z 13) (ln (Z 13)); exact v13.1⟩
    | i + 14, h => exact absurd h (by omega)
  refine ⟨w13.heap.size, _, rfl, bel, hsz, hlt, hA, ?_⟩
  refine ls_of (N := 13) (S := fun p => [w.heap.size, w1.heap.size, w2.heap.size, w3.heap.size, w4.heap.size, w5.heap.size, w6.heap.size, w7.heap.size, w8.heap.size, w9.heap.size, w10.heap.size, w11.heap.size, w12.heap.size, w13.heap.size].getD p 0) (P := PP) (fun i hi => by rw [Nat.zero_add]; exact (hA i hi).1) (fun p hp => ?_) (fun i hi => ?_) (fun i hi => ?_) (Nat.le_refl _) (Nat.le_refl _) ?_
  · match p, hp with
    | 0, _ => exact s1
    | 1, _ => exact s2
    | 2, _ => exact s3
    | 3, _ => exact s4
    | 4, _ => exact s5
    | 5, _ => exact s6
    | 6, _ => exact s7
    | 7, _ => exact s8
    | 8, _ => exact s9
    | 9, _ => exact s10
    | 10, _ => exact s11
    | 11, _ => exact s12
    | 12, _ => exact s13
    | p + 13, h => exact absurd h (by omega)
  · revert i; decide
  · match i, hi with
    | 0, _ => show Iv _ _ _ p0 (Z 0); rw [← e0.out]; exact v0
    | 1, _ => exact v1
    | 2, _ => exact v2
    | 3, _ => exact v3
    | 4, _ => exact v4
    | 5, _ => exact v5
    | 6, _ => exact v6
    | 7, _ => exact v7
    | 8, _ => exact v8
    | 9, _ => exact v9
    | 10, _ => exact v10
    | 11, _ => exact v11
    | 12, _ => exact v12
    | 13, _ => exact v13
    | i + 14, h => exact absurd h (by omega)
  · have hpp : ∀ i k : Fin 14, i.1 ≠ k.1 → PP i.1 = PP k.1 → (i.1 = 5 ∧ k.1 = 6) ∨ (i.1 = 6 ∧ k.1 = 5) := by decide
    intro i k hi hk hne hp
    rcases hpp ⟨i, hi⟩ ⟨k, hk⟩ hne hp with ⟨rfl, rfl⟩ | ⟨rfl, rfl⟩
    · exact hap
    · exact fun h1 h2 x i y j e1 e2 => (hap h2 h1 y j x i e2 e1).symm
set_option maxHeartbeats 4000000 in
set_option maxRecDepth 100000 in
theorem wanted_is (a : Option Addr) (n c X : Nat) (b : Option Addr) (m d Y : Nat) (k : Nat) (Z : Nat → Nat) (w : World) (hc : n ≤ c) (hn : n ≤ 1048576) (hS : Seg w a X n) (hd : m ≤ d) (hm : m ≤ 1048576) (hT : Seg w b Y m) (hk : k ≤ 255) (hZ : ZS X Y k Z) : Calls Try.prog 5 #[.slice a n c, .slice b m d, .int .i64 (k : Nat)] w fun e w' => ∃ bl A, e = .returned (.slice (some ⟨bl, 0, none⟩) 14 14) ∧ Below w.heap.size w w' ∧ w.heap.size ≤ bl ∧ bl < w'.heap.size ∧ RowZ w' bl A Z := by
  have GSub' := fun w' (k1 : Seg w' a X n) (k2 : Seg w' b Y m) => vSub a n c X b m d Y w' hc hn k1 hd hm k2
  rw [hZ.z3] at GSub'
  have GSub := hide' GSub'
  clear GSub'
  have GDiv' := fun w' (k1 : Seg w' a X n) (k2 : Seg w' b Y m) => vDiv a n c X b m d Y w' hc hn k1 hd hm k2
  rw [hZ.z5] at GDiv'
  rw [hZ.z6] at GDiv'
  have GDiv := hide' GDiv'
  clear GDiv'
  have GUp' := fun w' (k1 : Seg w' a X n) (k2 : Seg w' b Y m) => vUp a n c X b m d Y w' hc hn k1 hd hm k2 k hk
  rw [hZ.z9] at GUp'
  have GUp := hide' GUp'
  clear GUp'
  have GDn' := fun w' (k1 : Seg w' a X n) (k2 : Seg w' b Y m) => vDn a n c X b m d Y w' hc hn k1 hd hm k2 k hk
  rw [hZ.z10] at GDn'
  have GDn := hide' GDn'
  clear GDn'
  have GNorm' := fun w' (k1 : Seg w' a X n) (k2 : Seg w' b Y m) => rNorm_any a n c X w' (by omega) k1
  have GNorm := hide' GNorm'
  clear GNorm'
  have GA1' := fun w' (k1 : Seg w' a X n) (k2 : Seg w' b Y m) => rAdd_any a b n c X m d Y w' (by omega) k1 (by omega) k2
  rw [hZ.z1] at GA1'
  have GA1 := hide' GA1'
  clear GA1'
  have GA2' := fun w' (k1 : Seg w' a X n) (k2 : Seg w' b Y m) => rAdd_any b a m d Y n c X w' (by omega) k2 (by omega) k1
  rw [hZ.z2] at GA2'
  have GA2 := hide' GA2'
  clear GA2'
  have GM' := fun w' (k1 : Seg w' a X n) (k2 : Seg w' b Y m) => rMul_any a b n c X m d Y w' (by omega) k1 k2
  rw [hZ.z4] at GM'
  have GM := hide' GM'
  clear GM'
  have GG1' := fun w' (k1 : Seg w' a X n) (k2 : Seg w' b Y m) => rGcd_any a b n c X m d Y w' (by omega) k1 (by omega) k2
  rw [hZ.z7] at GG1'
  have GG1 := hide' GG1'
  clear GG1'
  have GG2' := fun w' (k1 : Seg w' a X n) (k2 : Seg w' b Y m) => rGcd_any b a m d Y n c X w' (by omega) k2 (by omega) k1
  rw [hZ.z8] at GG2'
  have GG2 := hide' GG2'
  clear GG2'
  have GMM' := fun w' (k1 : Seg w' a X n) (k2 : Seg w' b Y m) => rMul_any a a n c X n c X w' (by omega) k1 k1
  rw [show X * X = Z 12 by rw [← hZ.z12, Nat.pow_two]] at GMM'
  have GMM := hide' GMM'
  clear GMM'
  have GR' := fun w' (k1 : Seg w' a X n) (k2 : Seg w' b Y m) => rRoot_is a n c X (Z 13) w' (by omega) k1 hZ.z13
  have GR := hide' GR'
  clear GR'
  have GN0 := GNorm.out
  have e0 := hide' hZ.z0
  have e11 := hide' (show X = Z 11 by rw [← hZ.z11, Nat.pow_one])
  clear GN0 hZ
  have ek : (0 : Int) - (k : Int) = -(k : Int) := by omega
  have bel : Below w.heap.size w w := Below.refl _ _
  go_enter Try.func5, Try.ntmps5
  go_wp2_with fail
  refine (GSub.out _ hS hT).mono ?_
  rintro e w1 ⟨p3, x3, rfl, n3⟩
  have bb := n3.below
  replace hS := hS.later bb
  replace hT := hT.later bb
  replace bel := bel.trans (bb.mono bel.size)
  clear bb
  have v3 := Iv.of_new n3
  clear n3
  go_wp2_with fail
  refine (GDiv.out _ hS hT).mono ?_
  rintro e w2 ⟨p5, p6, x5, rfl, n5, n6⟩
  have bb := n5.below
  replace hS := hS.later bb
  replace hT := hT.later bb
  replace v3 := v3.later bb
  replace bel := bel.trans (bb.mono bel.size)
  clear bb
  have v5 := Iv.of_new n5
  have v6 := Iv.of_new n6
  clear n5 n6
  go_wp2_with fail
  refine (GUp.out _ hS hT).mono ?_
  rintro e w3 ⟨p9, x9, rfl, n9⟩
  have bb := n9.below
  replace hS := hS.later bb
  replace hT := hT.later bb
  replace v3 := v3.later bb
  replace v5 := v5.later bb
  replace v6 := v6.later bb
  replace bel := bel.trans (bb.mono bel.size)
  clear bb
  have v9 := Iv.of_new n9
  clear n9
  go_wp2_with fail
  refine (GDn.out _ hS hT).mono ?_
  rintro e w4 ⟨p10, x10, rfl, n10⟩
  have bb := n10.below
  replace hS := hS.later bb
  replace hT := hT.later bb
  replace v3 := v3.later bb
  replace v5 := v5.later bb
  replace v6 := v6.later bb
  replace v9 := v9.later bb
  replace bel := bel.trans (bb.mono bel.size)
  clear bb
  have v10 := Iv.of_new n10
  clear n10
  go_wp2_with fail
  refine (GNorm.out _ hS hT).mono ?_
  rintro e w5 ⟨p0, rfl, n0⟩
  have bb := n0.below
  replace hS := hS.later bb
  replace hT := hT.later bb
  replace v3 := v3.later bb
  replace v5 := v5.later bb
  replace v6 := v6.later bb
  replace v9 := v9.later bb
  replace v10 := v10.later bb
  replace bel := bel.trans (bb.mono bel.size)
  clear bb
  have v0 := Iv.of_new n0
  clear n0
  go_wp2_with fail
  refine (GA1.out _ hS hT).mono ?_
  rintro e w6 ⟨p1, rfl, n1⟩
  have bb := n1.below
  replace hS := hS.later bb
  replace hT := hT.later bb
  replace v3 := v3.later bb
  replace v5 := v5.later bb
  replace v6 := v6.later bb
  replace v9 := v9.later bb
  replace v10 := v10.later bb
  replace v0 := v0.later bb
  replace bel := bel.trans (bb.mono bel.size)
  clear bb
  have v1 := Iv.of_new n1
  clear n1
  go_wp2_with fail
  refine (GA2.out _ hS hT).mono ?_
  rintro e w7 ⟨p2, rfl, n2⟩
  have bb := n2.below
  replace hS := hS.later bb
  replace hT := hT.later bb
  replace v3 := v3.later bb
  replace v5 := v5.later bb
  replace v6 := v6.later bb
  replace v9 := v9.later bb
  replace v10 := v10.later bb
  replace v0 := v0.later bb
  replace v1 := v1.later bb
  replace bel := bel.trans (bb.mono bel.size)
  clear bb
  have v2 := Iv.of_new n2
  clear n2
  go_wp2_with fail
  refine (GM.out _ hS hT).mono ?_
  rintro e w8 ⟨p4, rfl, n4⟩
  have bb := n4.below
  replace hS := hS.later bb
  replace hT := hT.later bb
  replace v3 := v3.later bb
  replace v5 := v5.later bb
  replace v6 := v6.later bb
  replace v9 := v9.later bb
  replace v10 := v10.later bb
  replace v0 := v0.later bb
  replace v1 := v1.later bb
  replace v2 := v2.later bb
  replace bel := bel.trans (bb.mono bel.size)
  clear bb
  have v4 := Iv.of_new n4
  clear n4
  go_wp2_with fail
  refine (GG1.out _ hS hT).mono ?_
  rintro e w9 ⟨p7, rfl, n7⟩
  have bb := n7.below
  replace hS := hS.later bb
  replace hT := hT.later bb
  replace v3 := v3.later bb
  replace v5 := v5.later bb
  replace v6 := v6.later bb
  replace v9 := v9.later bb
  replace v10 := v10.later bb
  replace v0 := v0.later bb
  replace v1 := v1.later bb
  replace v2 := v2.later bb
  replace v4 := v4.later bb
  replace bel := bel.trans (bb.mono bel.size)
  clear bb
  have v7 := Iv.of_new n7
  clear n7
  go_wp2_with fail
  refine (GG2.out _ hS hT).mono ?_
  rintro e w10 ⟨p8, rfl, n8⟩
  have bb := n8.below
  replace hS := hS.later bb
  replace hT := hT.later bb
  replace v3 := v3.later bb
  replace v5 := v5.later bb
  replace v6 := v6.later bb
  replace v9 := v9.later bb
  replace v10 := v10.later bb
  replace v0 := v0.later bb
  replace v1 := v1.later bb
  replace v2 := v2.later bb
  replace v4 := v4.later bb
  replace v7 := v7.later bb
  replace bel := bel.trans (bb.mono bel.size)
  clear bb
  have v8 := Iv.of_new n8
  clear n8
  go_wp2_with fail
  refine (GNorm.out _ hS hT).mono ?_
  rintro e w11 ⟨p11, rfl, n11⟩
  have bb := n11.below
  replace hS := hS.later bb
  replace hT := hT.later bb
  replace v3 := v3.later bb
  replace v5 := v5.later bb
  replace v6 := v6.later bb
  replace v9 := v9.later bb
  replace v10 := v10.later bb
  replace v0 := v0.later bb
  replace v1 := v1.later bb
  replace v2 := v2.later bb
  replace v4 := v4.later bb
  replace v7 := v7.later bb
  replace v8 := v8.later bb
  replace bel := bel.trans (bb.mono bel.size)
  clear bb
  have v11 := Iv.of_new n11
  clear n11
  go_wp2_with fail
  refine (GMM.out _ hS hT).mono ?_
  rintro e w12 ⟨p12, rfl, n12⟩
  have bb := n12.below
  replace hS := hS.later bb
  replace hT := hT.later bb
  replace v3 := v3.later bb
  replace v5 := v5.later bb
  replace v6 := v6.later bb
  replace v9 := v9.later bb
  replace v10 := v10.later bb
  replace v0 := v0.later bb
  replace v1 := v1.later bb
  replace v2 := v2.later bb
  replace v4 := v4.later bb
  replace v7 := v7.later bb
  replace v8 := v8.later bb
  replace v11 := v11.later bb
  replace bel := bel.trans (bb.mono bel.size)
  clear bb
  have v12 := Iv.of_new n12
  clear n12
  go_wp2_with fail
  refine (GR.out _ hS hT).mono ?_
  rintro e w13 ⟨p13, rfl, n13⟩
  have bb := n13.below
  replace hS := hS.later bb
  replace hT := hT.later bb
  replace v3 := v3.later bb
  replace v5 := v5.later bb
  replace v6 := v6.later bb
  replace v9 := v9.later bb
  replace v10 := v10.later bb
  replace v0 := v0.later bb
  replace v1 := v1.later bb
  replace v2 := v2.later bb
  replace v4 := v4.later bb
  replace v7 := v7.later bb
  replace v8 := v8.later bb
  replace v11 := v11.later bb
  replace v12 := v12.later bb
  replace bel := bel.trans (bb.mono bel.size)
  clear bb
  have v13 := Iv.of_new n13
  clear n13
  skip
  have hsz0 := bel.size
  have bb := below_alloc (w := w13) (.cells #[.slice p0 (ln (X)) (ln (X)), .slice p1 (ln (Z 1)) (ln (Z 1)), .slice p2 (ln (Z 2)) (ln (Z 2)), .slice p3 (ln (Z 3)) (ln (Z 3)), .slice p4 (ln (Z 4)) (ln (Z 4)), .slice p5 (ln (Z 5)) (ln (Z 5)), .slice p6 (ln (Z 6)) (ln (Z 6)), .slice p7 (ln (Z 7)) (ln (Z 7)), .slice p8 (ln (Z 8)) (ln (Z 8)), .slice p9 (ln (Z 9)) (ln (Z 9)), .slice p10 (ln (Z 10)) (ln (Z 10)), .slice p11 (ln (X)) (ln (X)), .slice p12 (ln (Z 12)) (ln (Z 12)), .slice p13 (ln (Z 13)) (ln (Z 13))] 23)
  replace hS := hS.later bb
  replace hT := hT.later bb
  replace v3 := v3.later bb
  replace v5 := v5.later bb
  replace v6 := v6.later bb
  replace v9 := v9.later bb
  replace v10 := v10.later bb
  replace v0 := v0.later bb
  replace v1 := v1.later bb
  replace v2 := v2.later bb
  replace v4 := v4.later bb
  replace v7 := v7.later bb
  replace v8 := v8.later bb
  replace v11 := v11.later bb
  replace v12 := v12.later bb
  replace v13 := v13.later bb
  replace bel := bel.trans (bb.mono bel.size)
  clear bb
  have qR := Blk.new w13 #[.slice p0 (ln (X)) (ln (X)), .slice p1 (ln (Z 1)) (ln (Z 1)), .slice p2 (ln (Z 2)) (ln (Z 2)), .slice p3 (ln (Z 3)) (ln (Z 3)), .slice p4 (ln (Z 4)) (ln (Z 4)), .slice p5 (ln (Z 5)) (ln (Z 5)), .slice p6 (ln (Z 6)) (ln (Z 6)), .slice p7 (ln (Z 7)) (ln (Z 7)), .slice p8 (ln (Z 8)) (ln (Z 8)), .slice p9 (ln (Z 9)) (ln (Z 9)), .slice p10 (ln (Z 10)) (ln (Z 10)), .slice p11 (ln (X)) (ln (X)), .slice p12 (ln (Z 12)) (ln (Z 12)), .slice p13 (ln (Z 13)) (ln (Z 13))] 23
  have hsz : w.heap.size ≤ w13.heap.size := hsz0
  have hlt := qR.lt
  have hbs := bel.size
  go_wp2
  go_ret
  have hA : RowZ _ w13.heap.size (fun i => [p0, p1, p2, p3, p4, p5, p6, p7, p8, p9, p10, p11, p12, p13].getD i none) Z := fun i hi => by
    match i, hi with
    | 0, _ => exact ⟨by rw [qR.cell 0]; show some (Value.slice p0 _ _) = _; rw [e0.out]; rfl, by show Seg _ p0 (Z 0) (ln (Z 0)); rw [← e0.out]; exact v0.1⟩
    | 1, _ => exact ⟨by rw [qR.cell 1]; show some (Value.slice p1 _ _) = _; rfl, by show Seg _ p1 (Z 1) (ln (Z 1)); exact v1.1⟩
    | 2, _ => exact ⟨by rw [qR.cell 2]; show some (Value.slice p2 _ _) = _; rfl, by show Seg _ p2 (Z 2) (ln (Z 2)); exact v2.1⟩
    | 3, _ => exact ⟨by rw [qR.cell 3]; show some (Value.slice p3 _ _) = _; rfl, by show Seg _ p3 (Z 3) (ln (Z 3)); exact v3.1⟩
    | 4, _ => exact ⟨by rw [qR.cell 4]; show some (Value.slice p4 _ _) = _; rfl, by show Seg _ p4 (Z 4) (ln (Z 4)); exact v4.1⟩
    | 5, _ => exact ⟨by rw [qR.cell 5]; show some (Value.slice p5 _ _) = _; rfl, by show Seg _ p5 (Z 5) (ln (Z 5)); exact v5.1⟩
    | 6, _ => exact ⟨by rw [qR.cell 6]; show some (Value.slice p6 _ _) = _; rfl, by show Seg _ p6 (Z 6) (ln (Z 6)); exact v6.1⟩
    | 7, _ => exact ⟨by rw [qR.cell 7]; show some (Value.slice p7 _ _) = _; rfl, by show Seg _ p7 (Z 7) (ln (Z 7)); exact v7.1⟩
    | 8, _ => exact ⟨by rw [qR.cell 8]; show some (Value.slice p8 _ _) = _; rfl, by show Seg _ p8 (Z 8) (ln (Z 8)); exact v8.1⟩
    | 9, _ => exact ⟨by rw [qR.cell 9]; show some (Value.slice p9 _ _) = _; rfl, by show Seg _ p9 (Z 9) (ln (Z 9)); exact v9.1⟩
    | 10, _ => exact ⟨by rw [qR.cell 10]; show some (Value.slice p10 _ _) = _; rfl, by show Seg _ p10 (Z 10) (ln (Z 10)); exact v10.1⟩
    | 11, _ => exact ⟨by rw [qR.cell 11]; show some (Value.slice p11 _ _) = _; rw [e11.out]; rfl, by show Seg _ p11 (Z 11) (ln (Z 11)); rw [← e11.out]; exact v11.1⟩
    | 12, _ => exact ⟨by rw [qR.cell 12]; show some (Value.slice p12 _ _) = _; rfl, by show Seg _ p12 (Z 12) (ln (Z 12)); exact v12.1⟩
    | 13, _ => exact ⟨by rw [qR.cell 13]; show some (Value.slice p13 _ _) = _; rfl, by show Seg _ p13 (Z 13) (ln (Z 13)); exact v13.1⟩
    | i + 14, h => exact absurd h (by omega)
  exact ⟨w13.heap.size, _, rfl, bel, hsz, hlt, hA⟩
end Go.Proofs.Ytechjealbccpbaa
