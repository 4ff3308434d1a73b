/-
  Layer 3: lowest with what is below 0 below; Of, Whole.
-/
import Derived.Test.YtkdmciiighjffaaWQ5
namespace Go.Proofs.Ytkdmciiighjffaa
open Go.RowKit
set_option linter.unusedVariables false

theorem Seg.set2 {w : World} {p : Option Addr} {X n c : Nat} {u0 u1 : Value} {z0 : Bool} {a1 : Option Addr} {n1 k1 : Nat} (h : Seg w p X n) (h0 : w.cell? ⟨c, 0, none⟩ = some (.bool z0)) (h1 : w.cell? ⟨c, 1, none⟩ = some (.slice a1 n1 k1)) :
    Seg ((w.setCell ⟨c, 0, none⟩ u0).setCell ⟨c, 1, none⟩ u1) p X n := by
  refine (h.setB h0 (by simp)).setB (z := .slice a1 n1 k1) ?_ (by simp)
  rw [World.cell?_setCell_other _ _ _ _ (fun e => by simp at e)]; exact h1

set_option maxHeartbeats 2000000 in
set_option maxRecDepth 100000 in
theorem lowest_neg (s : Bool) (ao : Option Addr) (n cap X : Nat) (ao2 : Option Addr) (m cap2 Y P Q : Nat) (Z Z2 : Int) (w : World) (hc : n ≤ cap) (hm : n ≤ 70368744177660) (hS : Seg w ao X n) (hc2 : m ≤ cap2) (hm2 : m ≤ 70368744177660) (hS2 : Seg w ao2 Y m)
    (hY : Y ≠ 0) (hP : X = P * Nat.gcd X Y) (hQ : Y = Q * Nat.gcd X Y) (hZ : sg s P = Z) (hZ2 : -Z = Z2) :
    Calls Try.prog 32 #[.agg #[.bool s, .slice ao n cap, .bool true, .slice ao2 m cap2]] w fun e w' => ∃ p q, e = .returned (.agg #[.bool (ng Z2), .slice p (ln (am Z2)) (ln (am Z2)), .slice q (ln Q) (ln Q)]) ∧ New w w' p (am Z2) (ln (am Z2)) ∧ New w w' q Q (ln Q) := by
  obtain ⟨G, hG⟩ : ∃ G, Nat.gcd X Y = G := ⟨_, rfl⟩
  have hG0 : 0 < G := by rw [← hG]; exact Nat.gcd_pos_of_pos_right _ (by omega)
  have hlG : ln G ≤ 70368744177660 := by
    have : G ≤ Y := by rw [← hG]; exact Nat.gcd_le_right _ (by omega)
    have := ln_le_of_lt (Nat.lt_of_le_of_lt this hS2.1); omega
  rw [hG] at hP hQ
  have hlP : ln (am Z) ≤ 70368744177660 := by
    have h1 : P ≤ X := by rw [hP]; exact Nat.le_mul_of_pos_right _ hG0
    rw [← hZ, am_sg]
    have := ln_le_of_lt (Nat.lt_of_le_of_lt h1 hS.1); omega
  have hQ0 : 0 < Q := Nat.pos_of_ne_zero fun e => hY (by rw [hQ, e, Nat.zero_mul])
  obtain ⟨V, hV⟩ : ∃ V : Int, -((Q : Nat) : Int) = V := ⟨_, rfl⟩
  have hQV : Q = am V := by rw [← hV, am_neg]; exact (am_nat Q).symm
  have hng : ng V = true := by rw [ng_true, ← hV]; omega
  obtain ⟨O, hO⟩ : ∃ O : Int, (0 : Int) = O := ⟨_, rfl⟩
  have HG := hide' (fun w' k1 k2 => wGcd_is s ao n cap X true ao2 m cap2 Y G w' hc (by omega) k1 hc2 (by omega) k2 hG)
  have H1 := hide' (fun w' ag k1 k2 => wQuo_is s ao n cap X false ag (ln G) (ln G) G P 0 Z O w' hc (by omega) k1 (Nat.le_refl _) (by omega) k2 (by omega) hG0 (by rw [← hZ]; cases s <;> rfl) ((sg_zero s).trans hO))
  have H2' := fun w' ag k1 k2 => wQuo_is true ao2 m cap2 Y false ag (ln G) (ln G) G Q 0 V O w' hc2 (by omega) k1 (Nat.le_refl _) (by omega) k2 (by omega) hG0 (by rw [← hV]; rfl) ((sg_zero true).trans hO)
  rw [hng, ← hQV] at H2'
  have H2 := hide' H2'
  have H3 := hide' (fun w' p k => wNeg_is (ng Z) p (ln (am Z)) (ln (am Z)) (am Z) Z2 w' (Nat.le_refl _) (by omega) k (by rw [sg_na]; exact hZ2))
  clear hP hQ hG hG0 hZ hQV hV hY hO H2' hng hQ0 hZ2
  go_enter Try.func32, Try.ntmps32
  go_wp2_with fail
  obtain ⟨W, hW⟩ : ∃ W, ((w.alloc (.cells #[.bool s, .slice ao n cap, .bool true, .slice ao2 m cap2] 41)).alloc (.cells #[.bool false, .slice none 0 0, .slice none 0 0] 27)) = W := ⟨_, rfl⟩
  have q00 : W.cell? ⟨w.heap.size, 0, none⟩ = some (.bool s) := by subst hW; go_simp
  have q01 : W.cell? ⟨w.heap.size, 1, none⟩ = some (.slice ao n cap) := by subst hW; go_simp
  have q02 : W.cell? ⟨w.heap.size, 2, none⟩ = some (.bool true) := by subst hW; go_simp
  have q03 : W.cell? ⟨w.heap.size, 3, none⟩ = some (.slice ao2 m cap2) := by subst hW; go_simp
  have r00 : W.cell? ⟨w.heap.size + 1, 0, none⟩ = some (.bool false) := by subst hW; go_simp
  have r01 : W.cell? ⟨w.heap.size + 1, 1, none⟩ = some (.slice none 0 0) := by subst hW; go_simp
  have r02 : W.cell? ⟨w.heap.size + 1, 2, none⟩ = some (.slice none 0 0) := by subst hW; go_simp
  have hB : Below w.heap.size w W := by subst hW; exact (((Below.refl _ _).alloc (by (try simp only [World.size_alloc]); omega) _).alloc (by (try simp only [World.size_alloc]); omega) _)
  have hR0 : Row W (w.heap.size + 1) := by
    have := row_new ((w.alloc (.cells #[.bool s, .slice ao n cap, .bool true, .slice ao2 m cap2] 41))) #[.bool false, .slice none 0 0, .slice none 0 0] 27
    try simp only [World.size_alloc] at this
    subst hW; exact this
  have hz : W.heap.size = w.heap.size + 1 + 1 := by subst hW; simp only [World.size_alloc]
  rw [hW]
  clear hW
  have hBW : Below W.heap.size W W := Below.refl _ _
  refine (HG.out _ (sb hS hB hBW) (sb hS2 hB hBW)).mono ?_
  rintro e w1 ⟨a1, rfl, hg⟩
  have b1 := hg.below
  replace hg := hg.back hBW
  replace hBW := hBW.trans (b1.mono hBW.size)
  replace q00 := below_cell b1 q00
  replace q01 := below_cell b1 q01
  replace q02 := below_cell b1 q02
  replace q03 := below_cell b1 q03
  replace r00 := below_cell b1 r00
  replace r01 := below_cell b1 r01
  replace r02 := below_cell b1 r02
  replace hR0 := below_row b1 hR0
  have hsz1 := hBW.size
  have hlt1hR0 := hR0.lt
  have l100 : ((w1.alloc (.cells #[.bool false, .slice a1 (ln G) (ln G)] 25))).cell? ⟨w1.heap.size, 0, none⟩ = some (.bool false) := by go_simp
  have l101 : ((w1.alloc (.cells #[.bool false, .slice a1 (ln G) (ln G)] 25))).cell? ⟨w1.heap.size, 1, none⟩ = some (.slice a1 (ln G) (ln G)) := by go_simp
  have cb1 : Below w1.heap.size w1 ((w1.alloc (.cells #[.bool false, .slice a1 (ln G) (ln G)] 25))) := ((Below.refl _ _).alloc (by (try simp only [World.size_alloc]); omega) _)
  replace hBW := hBW.trans (cb1.mono hBW.size)
  replace q00 := below_cell cb1 q00
  replace q01 := below_cell cb1 q01
  replace q02 := below_cell cb1 q02
  replace q03 := below_cell cb1 q03
  replace r00 := below_cell cb1 r00
  replace r01 := below_cell cb1 r01
  replace r02 := below_cell cb1 r02
  replace hR0 := below_row cb1 hR0
  replace hg := hg.later cb1
  have hL10 : Row ((w1.alloc (.cells #[.bool false, .slice a1 (ln G) (ln G)] 25))) (w1.heap.size) := by
    have := row_new (w1) #[.bool false, .slice a1 (ln G) (ln G)] 25
    try simp only [World.size_alloc] at this
    exact this
  go_wp2_with fail
  generalize (w1.alloc (.cells #[.bool false, .slice a1 (ln G) (ln G)] 25)) = w1x at q00 q01 q02 q03 r00 r01 r02 l100 l101 hR0 hL10 hg hBW cb1 ⊢
  clear cb1
  refine (H1.out _ a1 (sb hS hB hBW) hg.seg).mono ?_
  rintro e w2 ⟨a2, c2, rfl, hq2, hr2⟩
  have b2 := hq2.below
  replace hq2 := hq2.back hBW
  replace hr2 := hr2.back hBW
  replace hBW := hBW.trans (b2.mono hBW.size)
  replace q00 := below_cell b2 q00
  replace q01 := below_cell b2 q01
  replace q02 := below_cell b2 q02
  replace q03 := below_cell b2 q03
  replace r00 := below_cell b2 r00
  replace r01 := below_cell b2 r01
  replace r02 := below_cell b2 r02
  replace l100 := below_cell b2 l100
  replace l101 := below_cell b2 l101
  replace hR0 := below_row b2 hR0
  replace hL10 := below_row b2 hL10
  replace hg := hg.later b2
  have hsz2 := hBW.size
  have hlt2hR0 := hR0.lt
  have hlt2hL10 := hL10.lt
  have l200 : (((w2.alloc (.cells #[.bool (ng Z), .slice a2 (ln (am Z)) (ln (am Z))] 25)).alloc (.cells #[.bool (ng O), .slice c2 (ln (am O)) (ln (am O))] 25))).cell? ⟨w2.heap.size, 0, none⟩ = some (.bool (ng Z)) := by go_simp
  have l201 : (((w2.alloc (.cells #[.bool (ng Z), .slice a2 (ln (am Z)) (ln (am Z))] 25)).alloc (.cells #[.bool (ng O), .slice c2 (ln (am O)) (ln (am O))] 25))).cell? ⟨w2.heap.size, 1, none⟩ = some (.slice a2 (ln (am Z)) (ln (am Z))) := by go_simp
  have l210 : (((w2.alloc (.cells #[.bool (ng Z), .slice a2 (ln (am Z)) (ln (am Z))] 25)).alloc (.cells #[.bool (ng O), .slice c2 (ln (am O)) (ln (am O))] 25))).cell? ⟨w2.heap.size + 1, 0, none⟩ = some (.bool (ng O)) := by go_simp
  have l211 : (((w2.alloc (.cells #[.bool (ng Z), .slice a2 (ln (am Z)) (ln (am Z))] 25)).alloc (.cells #[.bool (ng O), .slice c2 (ln (am O)) (ln (am O))] 25))).cell? ⟨w2.heap.size + 1, 1, none⟩ = some (.slice c2 (ln (am O)) (ln (am O))) := by go_simp
  have cb2 : Below w2.heap.size w2 (((w2.alloc (.cells #[.bool (ng Z), .slice a2 (ln (am Z)) (ln (am Z))] 25)).alloc (.cells #[.bool (ng O), .slice c2 (ln (am O)) (ln (am O))] 25))) := (((Below.refl _ _).alloc (by (try simp only [World.size_alloc]); omega) _).alloc (by (try simp only [World.size_alloc]); omega) _)
  replace hBW := hBW.trans (cb2.mono hBW.size)
  replace q00 := below_cell cb2 q00
  replace q01 := below_cell cb2 q01
  replace q02 := below_cell cb2 q02
  replace q03 := below_cell cb2 q03
  replace r00 := below_cell cb2 r00
  replace r01 := below_cell cb2 r01
  replace r02 := below_cell cb2 r02
  replace l100 := below_cell cb2 l100
  replace l101 := below_cell cb2 l101
  replace hR0 := below_row cb2 hR0
  replace hL10 := below_row cb2 hL10
  replace hg := hg.later cb2
  replace hq2 := hq2.later cb2
  replace hr2 := hr2.later cb2
  have hL20 : Row (((w2.alloc (.cells #[.bool (ng Z), .slice a2 (ln (am Z)) (ln (am Z))] 25)).alloc (.cells #[.bool (ng O), .slice c2 (ln (am O)) (ln (am O))] 25))) (w2.heap.size) := by
    have := row_new (w2) #[.bool (ng Z), .slice a2 (ln (am Z)) (ln (am Z))] 25
    try simp only [World.size_alloc] at this
    exact (this.alloc _)
  have hL21 : Row (((w2.alloc (.cells #[.bool (ng Z), .slice a2 (ln (am Z)) (ln (am Z))] 25)).alloc (.cells #[.bool (ng O), .slice c2 (ln (am O)) (ln (am O))] 25))) (w2.heap.size + 1) := by
    have := row_new ((w2.alloc (.cells #[.bool (ng Z), .slice a2 (ln (am Z)) (ln (am Z))] 25))) #[.bool (ng O), .slice c2 (ln (am O)) (ln (am O))] 25
    try simp only [World.size_alloc] at this
    exact this
  go_wp2_with fail
  generalize ((w2.alloc (.cells #[.bool (ng Z), .slice a2 (ln (am Z)) (ln (am Z))] 25)).alloc (.cells #[.bool (ng O), .slice c2 (ln (am O)) (ln (am O))] 25)) = w2x at q00 q01 q02 q03 r00 r01 r02 l100 l101 l200 l201 l210 l211 hR0 hL10 hL20 hL21 hg hq2 hr2 hBW cb2 ⊢
  clear cb2
  have hsB := hBW.size
  replace hB := hB.trans (hBW.mono hB.size)
  have hltBhR0 := hR0.lt
  have hltBhL10 := hL10.lt
  have hltBhL20 := hL20.lt
  have hltBhL21 := hL21.lt
  clear hBW
  have hBW : Below w2x.heap.size w2x w2x := Below.refl _ _
  have khg := hg.seg
  clear hg
  have khq2 := hq2.seg
  clear hq2
  have khr2 := hr2.seg
  clear hr2
  refine (H2.out _ a1 (sb hS2 hB hBW) khg).mono ?_
  rintro e w3 ⟨a3, c3, rfl, hq3, hr3⟩
  have b3 := hq3.below
  replace hq3 := hq3.back hBW
  replace hr3 := hr3.back hBW
  replace hBW := hBW.trans (b3.mono hBW.size)
  replace q00 := below_cell b3 q00
  replace q01 := below_cell b3 q01
  replace q02 := below_cell b3 q02
  replace q03 := below_cell b3 q03
  replace r00 := below_cell b3 r00
  replace r01 := below_cell b3 r01
  replace r02 := below_cell b3 r02
  replace l100 := below_cell b3 l100
  replace l101 := below_cell b3 l101
  replace l200 := below_cell b3 l200
  replace l201 := below_cell b3 l201
  replace l210 := below_cell b3 l210
  replace l211 := below_cell b3 l211
  replace hR0 := below_row b3 hR0
  replace hL10 := below_row b3 hL10
  replace hL20 := below_row b3 hL20
  replace hL21 := below_row b3 hL21
  replace khg := khg.later b3
  replace khq2 := khq2.later b3
  replace khr2 := khr2.later b3
  have hsz3 := hBW.size
  have hlt3hR0 := hR0.lt
  have hlt3hL10 := hL10.lt
  have hlt3hL20 := hL20.lt
  have hlt3hL21 := hL21.lt
  have l300 : (((w3.alloc (.cells #[.bool true, .slice a3 (ln Q) (ln Q)] 25)).alloc (.cells #[.bool (ng O), .slice c3 (ln (am O)) (ln (am O))] 25))).cell? ⟨w3.heap.size, 0, none⟩ = some (.bool true) := by go_simp
  have l301 : (((w3.alloc (.cells #[.bool true, .slice a3 (ln Q) (ln Q)] 25)).alloc (.cells #[.bool (ng O), .slice c3 (ln (am O)) (ln (am O))] 25))).cell? ⟨w3.heap.size, 1, none⟩ = some (.slice a3 (ln Q) (ln Q)) := by go_simp
  have l310 : (((w3.alloc (.cells #[.bool true, .slice a3 (ln Q) (ln Q)] 25)).alloc (.cells #[.bool (ng O), .slice c3 (ln (am O)) (ln (am O))] 25))).cell? ⟨w3.heap.size + 1, 0, none⟩ = some (.bool (ng O)) := by go_simp
  have l311 : (((w3.alloc (.cells #[.bool true, .slice a3 (ln Q) (ln Q)] 25)).alloc (.cells #[.bool (ng O), .slice c3 (ln (am O)) (ln (am O))] 25))).cell? ⟨w3.heap.size + 1, 1, none⟩ = some (.slice c3 (ln (am O)) (ln (am O))) := by go_simp
  have cb3 : Below w3.heap.size w3 (((w3.alloc (.cells #[.bool true, .slice a3 (ln Q) (ln Q)] 25)).alloc (.cells #[.bool (ng O), .slice c3 (ln (am O)) (ln (am O))] 25))) := (((Below.refl _ _).alloc (by (try simp only [World.size_alloc]); omega) _).alloc (by (try simp only [World.size_alloc]); omega) _)
  replace hBW := hBW.trans (cb3.mono hBW.size)
  replace q00 := below_cell cb3 q00
  replace q01 := below_cell cb3 q01
  replace q02 := below_cell cb3 q02
  replace q03 := below_cell cb3 q03
  replace r00 := below_cell cb3 r00
  replace r01 := below_cell cb3 r01
  replace r02 := below_cell cb3 r02
  replace l100 := below_cell cb3 l100
  replace l101 := below_cell cb3 l101
  replace l200 := below_cell cb3 l200
  replace l201 := below_cell cb3 l201
  replace l210 := below_cell cb3 l210
  replace l211 := below_cell cb3 l211
  replace hR0 := below_row cb3 hR0
  replace hL10 := below_row cb3 hL10
  replace hL20 := below_row cb3 hL20
  replace hL21 := below_row cb3 hL21
  replace khg := khg.later cb3
  replace khq2 := khq2.later cb3
  replace khr2 := khr2.later cb3
  replace hq3 := hq3.later cb3
  replace hr3 := hr3.later cb3
  have hL30 : Row (((w3.alloc (.cells #[.bool true, .slice a3 (ln Q) (ln Q)] 25)).alloc (.cells #[.bool (ng O), .slice c3 (ln (am O)) (ln (am O))] 25))) (w3.heap.size) := by
    have := row_new (w3) #[.bool true, .slice a3 (ln Q) (ln Q)] 25
    try simp only [World.size_alloc] at this
    exact (this.alloc _)
  have hL31 : Row (((w3.alloc (.cells #[.bool true, .slice a3 (ln Q) (ln Q)] 25)).alloc (.cells #[.bool (ng O), .slice c3 (ln (am O)) (ln (am O))] 25))) (w3.heap.size + 1) := by
    have := row_new ((w3.alloc (.cells #[.bool true, .slice a3 (ln Q) (ln Q)] 25))) #[.bool (ng O), .slice c3 (ln (am O)) (ln (am O))] 25
    try simp only [World.size_alloc] at this
    exact this
  go_wp2_with fail
  generalize ((w3.alloc (.cells #[.bool true, .slice a3 (ln Q) (ln Q)] 25)).alloc (.cells #[.bool (ng O), .slice c3 (ln (am O)) (ln (am O))] 25)) = w3x at q00 q01 q02 q03 r00 r01 r02 l100 l101 l200 l201 l210 l211 l300 l301 l310 l311 hR0 hL10 hL20 hL21 hL30 hL31 khg khq2 khr2 hq3 hr3 hBW cb3 ⊢
  clear cb3
  refine (H3.out _ a2 khq2).mono ?_
  rintro e w4 ⟨a4, rfl, hn⟩
  have b4 := hn.below
  replace hn := hn.back hBW
  replace hBW := hBW.trans (b4.mono hBW.size)
  replace q00 := below_cell b4 q00
  replace q01 := below_cell b4 q01
  replace q02 := below_cell b4 q02
  replace q03 := below_cell b4 q03
  replace r00 := below_cell b4 r00
  replace r01 := below_cell b4 r01
  replace r02 := below_cell b4 r02
  replace l100 := below_cell b4 l100
  replace l101 := below_cell b4 l101
  replace l200 := below_cell b4 l200
  replace l201 := below_cell b4 l201
  replace l210 := below_cell b4 l210
  replace l211 := below_cell b4 l211
  replace l300 := below_cell b4 l300
  replace l301 := below_cell b4 l301
  replace l310 := below_cell b4 l310
  replace l311 := below_cell b4 l311
  replace hR0 := below_row b4 hR0
  replace hL10 := below_row b4 hL10
  replace hL20 := below_row b4 hL20
  replace hL21 := below_row b4 hL21
  replace hL30 := below_row b4 hL30
  replace hL31 := below_row b4 hL31
  replace khg := khg.later b4
  replace khq2 := khq2.later b4
  replace khr2 := khr2.later b4
  replace hq3 := hq3.later b4
  replace hr3 := hr3.later b4
  have hsB := hBW.size
  have hM : Mid w.heap.size w2x.heap.size w4 ((w4.setCell ⟨w2.heap.size, 0, none⟩ (.bool (ng Z2))).setCell ⟨w2.heap.size, 1, none⟩ (.slice a4 (ln (am Z2)) (ln (am Z2)))) := (((Mid.refl _ _ _).set _ _ (by omega) (by omega) _).set _ _ (by omega) (by omega) _)
  have eM := set2_same (w := w4) (c := w2.heap.size) (u := .bool (ng Z2)) (v := .slice a4 (ln (am Z2)) (ln (am Z2))) l200 l201
  have q00_ : (((w4.setCell ⟨w2.heap.size, 0, none⟩ (.bool (ng Z2))).setCell ⟨w2.heap.size, 1, none⟩ (.slice a4 (ln (am Z2)) (ln (am Z2))))).cell? ⟨w.heap.size, 0, none⟩ = some (.bool s) := (set2_far (by omega)).trans q00
  have q01_ : (((w4.setCell ⟨w2.heap.size, 0, none⟩ (.bool (ng Z2))).setCell ⟨w2.heap.size, 1, none⟩ (.slice a4 (ln (am Z2)) (ln (am Z2))))).cell? ⟨w.heap.size, 1, none⟩ = some (.slice ao n cap) := (set2_far (by omega)).trans q01
  have q02_ : (((w4.setCell ⟨w2.heap.size, 0, none⟩ (.bool (ng Z2))).setCell ⟨w2.heap.size, 1, none⟩ (.slice a4 (ln (am Z2)) (ln (am Z2))))).cell? ⟨w.heap.size, 2, none⟩ = some (.bool true) := (set2_far (by omega)).trans q02
  have q03_ : (((w4.setCell ⟨w2.heap.size, 0, none⟩ (.bool (ng Z2))).setCell ⟨w2.heap.size, 1, none⟩ (.slice a4 (ln (am Z2)) (ln (am Z2))))).cell? ⟨w.heap.size, 3, none⟩ = some (.slice ao2 m cap2) := (set2_far (by omega)).trans q03
  have r00_ : (((w4.setCell ⟨w2.heap.size, 0, none⟩ (.bool (ng Z2))).setCell ⟨w2.heap.size, 1, none⟩ (.slice a4 (ln (am Z2)) (ln (am Z2))))).cell? ⟨w.heap.size + 1, 0, none⟩ = some (.bool false) := (set2_far (by omega)).trans r00
  have r01_ : (((w4.setCell ⟨w2.heap.size, 0, none⟩ (.bool (ng Z2))).setCell ⟨w2.heap.size, 1, none⟩ (.slice a4 (ln (am Z2)) (ln (am Z2))))).cell? ⟨w.heap.size + 1, 1, none⟩ = some (.slice none 0 0) := (set2_far (by omega)).trans r01
  have r02_ : (((w4.setCell ⟨w2.heap.size, 0, none⟩ (.bool (ng Z2))).setCell ⟨w2.heap.size, 1, none⟩ (.slice a4 (ln (am Z2)) (ln (am Z2))))).cell? ⟨w.heap.size + 1, 2, none⟩ = some (.slice none 0 0) := (set2_far (by omega)).trans r02
  have l100_ : (((w4.setCell ⟨w2.heap.size, 0, none⟩ (.bool (ng Z2))).setCell ⟨w2.heap.size, 1, none⟩ (.slice a4 (ln (am Z2)) (ln (am Z2))))).cell? ⟨w1.heap.size, 0, none⟩ = some (.bool false) := (set2_far (by omega)).trans l100
  have l101_ : (((w4.setCell ⟨w2.heap.size, 0, none⟩ (.bool (ng Z2))).setCell ⟨w2.heap.size, 1, none⟩ (.slice a4 (ln (am Z2)) (ln (am Z2))))).cell? ⟨w1.heap.size, 1, none⟩ = some (.slice a1 (ln G) (ln G)) := (set2_far (by omega)).trans l101
  have l200_ : (((w4.setCell ⟨w2.heap.size, 0, none⟩ (.bool (ng Z2))).setCell ⟨w2.heap.size, 1, none⟩ (.slice a4 (ln (am Z2)) (ln (am Z2))))).cell? ⟨w2.heap.size, 0, none⟩ = some (.bool (ng Z2)) := eM.1
  have l201_ : (((w4.setCell ⟨w2.heap.size, 0, none⟩ (.bool (ng Z2))).setCell ⟨w2.heap.size, 1, none⟩ (.slice a4 (ln (am Z2)) (ln (am Z2))))).cell? ⟨w2.heap.size, 1, none⟩ = some (.slice a4 (ln (am Z2)) (ln (am Z2))) := eM.2
  have l210_ : (((w4.setCell ⟨w2.heap.size, 0, none⟩ (.bool (ng Z2))).setCell ⟨w2.heap.size, 1, none⟩ (.slice a4 (ln (am Z2)) (ln (am Z2))))).cell? ⟨w2.heap.size + 1, 0, none⟩ = some (.bool (ng O)) := (set2_far (by omega)).trans l210
  have l211_ : (((w4.setCell ⟨w2.heap.size, 0, none⟩ (.bool (ng Z2))).setCell ⟨w2.heap.size, 1, none⟩ (.slice a4 (ln (am Z2)) (ln (am Z2))))).cell? ⟨w2.heap.size + 1, 1, none⟩ = some (.slice c2 (ln (am O)) (ln (am O))) := (set2_far (by omega)).trans l211
  have l300_ : (((w4.setCell ⟨w2.heap.size, 0, none⟩ (.bool (ng Z2))).setCell ⟨w2.heap.size, 1, none⟩ (.slice a4 (ln (am Z2)) (ln (am Z2))))).cell? ⟨w3.heap.size, 0, none⟩ = some (.bool true) := (set2_far (by omega)).trans l300
  have l301_ : (((w4.setCell ⟨w2.heap.size, 0, none⟩ (.bool (ng Z2))).setCell ⟨w2.heap.size, 1, none⟩ (.slice a4 (ln (am Z2)) (ln (am Z2))))).cell? ⟨w3.heap.size, 1, none⟩ = some (.slice a3 (ln Q) (ln Q)) := (set2_far (by omega)).trans l301
  have l310_ : (((w4.setCell ⟨w2.heap.size, 0, none⟩ (.bool (ng Z2))).setCell ⟨w2.heap.size, 1, none⟩ (.slice a4 (ln (am Z2)) (ln (am Z2))))).cell? ⟨w3.heap.size + 1, 0, none⟩ = some (.bool (ng O)) := (set2_far (by omega)).trans l310
  have l311_ : (((w4.setCell ⟨w2.heap.size, 0, none⟩ (.bool (ng Z2))).setCell ⟨w2.heap.size, 1, none⟩ (.slice a4 (ln (am Z2)) (ln (am Z2))))).cell? ⟨w3.heap.size + 1, 1, none⟩ = some (.slice c3 (ln (am O)) (ln (am O))) := (set2_far (by omega)).trans l311
  have hR0_ := ((hR0.setCell ⟨w2.heap.size, 0, none⟩ (.bool (ng Z2))).setCell ⟨w2.heap.size, 1, none⟩ (.slice a4 (ln (am Z2)) (ln (am Z2))))
  have fzhR0 := fun o => hR0.frozen o
  have hL10_ := ((hL10.setCell ⟨w2.heap.size, 0, none⟩ (.bool (ng Z2))).setCell ⟨w2.heap.size, 1, none⟩ (.slice a4 (ln (am Z2)) (ln (am Z2))))
  have fzhL10 := fun o => hL10.frozen o
  have hL20_ := ((hL20.setCell ⟨w2.heap.size, 0, none⟩ (.bool (ng Z2))).setCell ⟨w2.heap.size, 1, none⟩ (.slice a4 (ln (am Z2)) (ln (am Z2))))
  have fzhL20 := fun o => hL20.frozen o
  have hL21_ := ((hL21.setCell ⟨w2.heap.size, 0, none⟩ (.bool (ng Z2))).setCell ⟨w2.heap.size, 1, none⟩ (.slice a4 (ln (am Z2)) (ln (am Z2))))
  have fzhL21 := fun o => hL21.frozen o
  have hL30_ := ((hL30.setCell ⟨w2.heap.size, 0, none⟩ (.bool (ng Z2))).setCell ⟨w2.heap.size, 1, none⟩ (.slice a4 (ln (am Z2)) (ln (am Z2))))
  have fzhL30 := fun o => hL30.frozen o
  have hL31_ := ((hL31.setCell ⟨w2.heap.size, 0, none⟩ (.bool (ng Z2))).setCell ⟨w2.heap.size, 1, none⟩ (.slice a4 (ln (am Z2)) (ln (am Z2))))
  have fzhL31 := fun o => hL31.frozen o
  replace khg := khg.set2 (u0 := .bool (ng Z2)) (u1 := .slice a4 (ln (am Z2)) (ln (am Z2))) l200 l201
  replace khq2 := khq2.set2 (u0 := .bool (ng Z2)) (u1 := .slice a4 (ln (am Z2)) (ln (am Z2))) l200 l201
  replace khr2 := khr2.set2 (u0 := .bool (ng Z2)) (u1 := .slice a4 (ln (am Z2)) (ln (am Z2))) l200 l201
  replace hq3 := (hq3.fre).mid hM
  replace hr3 := (hr3.fre).mid hM
  replace hn := (hn.fre).mid hM
  have hBn := (hB.trans (hBW.mono hB.size)).trans (hM.below (Nat.le_trans hB.size hBW.size))
  have hsM := hM.size
  clear hM eM
  have fzhR0_ := fun o => hR0_.frozen o
  have fzhL10_ := fun o => hL10_.frozen o
  have fzhL20_ := fun o => hL20_.frozen o
  have fzhL21_ := fun o => hL21_.frozen o
  have fzhL30_ := fun o => hL30_.frozen o
  have fzhL31_ := fun o => hL31_.frozen o
  go_wp2
  all_goals refine bodyPost_ret (v := .agg #[.bool (ng Z2), .slice a4 (ln (am Z2)) (ln (am Z2)), .slice a3 (ln Q) (ln Q)]) (by rw [results_cell rfl]; go_simp) rfl ?_
  all_goals exact ⟨a4, a3, rfl, hn.fin hBn hB.size (((((Mid.refl _ _ _).set _ _ (by omega) (by omega) _).set _ _ (by omega) (by omega) _).set _ _ (by omega) (by omega) _)), hq3.fin hBn hB.size (((((Mid.refl _ _ _).set _ _ (by omega) (by omega) _).set _ _ (by omega) (by omega) _).set _ _ (by omega) (by omega) _))⟩

theorem lowest_any (s : Bool) (ao : Option Addr) (n cap X : Nat) (t : Bool) (ao2 : Option Addr) (m cap2 Y V : Nat) (Z : Int) (w : World) (hc : n ≤ cap) (hm : n ≤ 70368744177660) (hS : Seg w ao X n) (hc2 : m ≤ cap2) (hm2 : m ≤ 70368744177660) (hS2 : Seg w ao2 Y m) (hL : Low (sg s X) (sg t Y) Z V) :
    Calls Try.prog 32 #[.agg #[.bool s, .slice ao n cap, .bool t, .slice ao2 m cap2]] w fun e w' => ∃ p q, e = .returned (.agg #[.bool (ng Z), .slice p (ln (am Z)) (ln (am Z)), .slice q (ln V) (ln V)]) ∧ New w w' p (am Z) (ln (am Z)) ∧ New w w' q V (ln V) := by
  cases t
  · exact lowest_is s ao n cap X ao2 m cap2 Y V Z w hc hm hS hc2 hm2 hS2 hL
  · have hY : Y ≠ 0 := fun e => hL.ne (by rw [e]; rfl)
    obtain ⟨P, Q, hP, hQ⟩ := gcd_parts X Y
    have h := low_made s true hY rfl hP hQ
    simp only [if_true] at h
    obtain ⟨rfl, rfl⟩ := hL.uniq h rfl
    exact lowest_neg s ao n cap X ao2 m cap2 Y P V _ _ w hc hm hS hc2 hm2 hS2 hY hP hQ rfl rfl

set_option maxHeartbeats 2000000 in
theorem qOf_zero (s : Bool) (ao : Option Addr) (n cap : Nat) (t : Bool) (ao2 : Option Addr) (m cap2 : Nat) (w : World) (hc2 : m ≤ cap2) (hm2 : m ≤ 70368744177660) (hS2 : Seg w ao2 0 m) :
    Calls Try.prog 41 #[.agg #[.bool s, .slice ao n cap], .agg #[.bool t, .slice ao2 m cap2]] w fun e w' => e = .returned (.tuple #[.agg #[.bool false, .slice none 0 0, .slice none 0 0], .int .i64 11]) ∧ Below w.heap.size w w' := by
  go_enter Try.func41, Try.ntmps41
  go_wp2_with fail
  obtain ⟨W, hW⟩ : ∃ W, (((w.alloc (.cells #[.bool s, .slice ao n cap] 25)).alloc (.cells #[.bool t, .slice ao2 m cap2] 25)).alloc (.cells #[.bool false, .slice none 0 0, .slice none 0 0] 27)) = W := ⟨_, rfl⟩
  have q00 : W.cell? ⟨w.heap.size, 0, none⟩ = some (.bool s) := by subst hW; go_simp
  have q01 : W.cell? ⟨w.heap.size, 1, none⟩ = some (.slice ao n cap) := by subst hW; go_simp
  have q10 : W.cell? ⟨w.heap.size + 1, 0, none⟩ = some (.bool t) := by subst hW; go_simp
  have q11 : W.cell? ⟨w.heap.size + 1, 1, none⟩ = some (.slice ao2 m cap2) := by subst hW; go_simp
  have r00 : W.cell? ⟨w.heap.size + 1 + 1, 0, none⟩ = some (.bool false) := by subst hW; go_simp
  have r01 : W.cell? ⟨w.heap.size + 1 + 1, 1, none⟩ = some (.slice none 0 0) := by subst hW; go_simp
  have r02 : W.cell? ⟨w.heap.size + 1 + 1, 2, none⟩ = some (.slice none 0 0) := by subst hW; go_simp
  have hB : Below w.heap.size w W := by subst hW; exact ((((Below.refl _ _).alloc (by (try simp only [World.size_alloc]); omega) _).alloc (by (try simp only [World.size_alloc]); omega) _).alloc (by (try simp only [World.size_alloc]); omega) _)
  have hR0 : Row W (w.heap.size + 1 + 1) := by
    have := row_new (((w.alloc (.cells #[.bool s, .slice ao n cap] 25)).alloc (.cells #[.bool t, .slice ao2 m cap2] 25))) #[.bool false, .slice none 0 0, .slice none 0 0] 27
    try simp only [World.size_alloc] at this
    subst hW; exact this
  have hz : W.heap.size = w.heap.size + 1 + 1 + 1 := by subst hW; simp only [World.size_alloc]
  rw [hW]
  clear hW
  have hBW : Below W.heap.size W W := Below.refl _ _
  refine (wSign_is t ao2 m cap2 0 0 _ hc2 (by omega) (sb hS2 hB hBW) (sg_zero t)).mono ?_
  rintro e w1 ⟨rfl, b1⟩
  replace hBW := hBW.trans (b1.mono hBW.size)
  replace q00 := below_cell b1 q00
  replace q01 := below_cell b1 q01
  replace q10 := below_cell b1 q10
  replace q11 := below_cell b1 q11
  replace r00 := below_cell b1 r00
  replace r01 := below_cell b1 r01
  replace r02 := below_cell b1 r02
  replace hR0 := below_row b1 hR0
  rw [sgn_zero]
  have fz0 := fun o => hR0.frozen o
  go_wp2
  all_goals refine bodyPost_ret (v := .tuple #[.agg #[.bool false, .slice none 0 0, .slice none 0 0], .int .i64 11]) (by rw [results_ct rfl]; go_simp) rfl ?_
  all_goals exact ⟨rfl, ((bset (bset (bset (hB.trans (hBW.mono hB.size)) (by omega)) (by omega)) (by omega)))⟩

set_option maxHeartbeats 2000000 in
theorem qOf_is (s : Bool) (ao : Option Addr) (n cap X : Nat) (t : Bool) (ao2 : Option Addr) (m cap2 Y V : Nat) (Z : Int) (w : World) (hc : n ≤ cap) (hm : n ≤ 70368744177660) (hS : Seg w ao X n) (hc2 : m ≤ cap2) (hm2 : m ≤ 70368744177660) (hS2 : Seg w ao2 Y m) (hL : Low (sg s X) (sg t Y) Z V) :
    Calls Try.prog 41 #[.agg #[.bool s, .slice ao n cap], .agg #[.bool t, .slice ao2 m cap2]] w fun e w' => ∃ p q, e = .returned (.tuple #[.agg #[.bool (ng Z), .slice p (ln (am Z)) (ln (am Z)), .slice q (ln V) (ln V)], .int .i64 0]) ∧ New w w' p (am Z) (ln (am Z)) ∧ New w w' q V (ln V) := by
  obtain ⟨C, hC⟩ : ∃ C, sgn (sg t Y) = C := ⟨_, rfl⟩
  have hb : (C == 0) = false := by
    have hne := hL.ne
    rw [← hC, beq_eq_false_iff_ne]
    have hY : Y ≠ 0 := fun e => hne (by rw [e]; exact sg_zero t)
    rw [sgn_sg hY]
    have := sd_range t
    omega
  have HS' := fun w' k => wSign_is t ao2 m cap2 Y (sg t Y) w' hc2 (by omega) k rfl
  rw [hC] at HS'
  have HS := hide' HS'
  have HL := hide' hL
  clear HS' hL hC
  go_enter Try.func41, Try.ntmps41
  go_wp2_with fail
  obtain ⟨W, hW⟩ : ∃ W, (((w.alloc (.cells #[.bool s, .slice ao n cap] 25)).alloc (.cells #[.bool t, .slice ao2 m cap2] 25)).alloc (.cells #[.bool false, .slice none 0 0, .slice none 0 0] 27)) = W := ⟨_, rfl⟩
  have q00 : W.cell? ⟨w.heap.size, 0, none⟩ = some (.bool s) := by subst hW; go_simp
  have q01 : W.cell? ⟨w.heap.size, 1, none⟩ = some (.slice ao n cap) := by subst hW; go_simp
  have q10 : W.cell? ⟨w.heap.size + 1, 0, none⟩ = some (.bool t) := by subst hW; go_simp
  have q11 : W.cell? ⟨w.heap.size + 1, 1, none⟩ = some (.slice ao2 m cap2) := by subst hW; go_simp
  have r00 : W.cell? ⟨w.heap.size + 1 + 1, 0, none⟩ = some (.bool false) := by subst hW; go_simp
  have r01 : W.cell? ⟨w.heap.size + 1 + 1, 1, none⟩ = some (.slice none 0 0) := by subst hW; go_simp
  have r02 : W.cell? ⟨w.heap.size + 1 + 1, 2, none⟩ = some (.slice none 0 0) := by subst hW; go_simp
  have hB : Below w.heap.size w W := by subst hW; exact ((((Below.refl _ _).alloc (by (try simp only [World.size_alloc]); omega) _).alloc (by (try simp only [World.size_alloc]); omega) _).alloc (by (try simp only [World.size_alloc]); omega) _)
  have hR0 : Row W (w.heap.size + 1 + 1) := by
    have := row_new (((w.alloc (.cells #[.bool s, .slice ao n cap] 25)).alloc (.cells #[.bool t, .slice ao2 m cap2] 25))) #[.bool false, .slice none 0 0, .slice none 0 0] 27
    try simp only [World.size_alloc] at this
    subst hW; exact this
  have hz : W.heap.size = w.heap.size + 1 + 1 + 1 := by subst hW; simp only [World.size_alloc]
  rw [hW]
  clear hW
  have hBW : Below W.heap.size W W := Below.refl _ _
  refine (HS.out _ (sb hS2 hB hBW)).mono ?_
  rintro e w1 ⟨rfl, b1⟩
  replace hBW := hBW.trans (b1.mono hBW.size)
  replace q00 := below_cell b1 q00
  replace q01 := below_cell b1 q01
  replace q10 := below_cell b1 q10
  replace q11 := below_cell b1 q11
  replace r00 := below_cell b1 r00
  replace r01 := below_cell b1 r01
  replace r02 := below_cell b1 r02
  replace hR0 := below_row b1 hR0
  go_wp2_with fail
  refine (lowest_any s ao n cap X t ao2 m cap2 Y V Z _ hc hm (sb hS hB hBW) hc2 hm2 (sb hS2 hB hBW) HL.out).mono ?_
  rintro e w2 ⟨p2, q2, rfl, hp2, hq2⟩
  have b2 := hp2.below
  replace hp2 := hp2.back hBW
  replace hq2 := hq2.back hBW
  replace hBW := hBW.trans (b2.mono hBW.size)
  replace q00 := below_cell b2 q00
  replace q01 := below_cell b2 q01
  replace q10 := below_cell b2 q10
  replace q11 := below_cell b2 q11
  replace r00 := below_cell b2 r00
  replace r01 := below_cell b2 r01
  replace r02 := below_cell b2 r02
  replace hR0 := below_row b2 hR0
  have fz0 := fun o => hR0.frozen o
  go_wp2
  all_goals refine bodyPost_ret (v := .tuple #[Value.agg #[Value.bool (ng Z), Value.slice p2 (ln (am Z)) (ln (am Z)), Value.slice q2 (ln V) (ln V)], .int .i64 0]) (by rw [results_ct rfl]; go_simp) rfl ?_
  all_goals exact ⟨p2, q2, rfl, hp2.mid hB (((((Mid.refl _ _ _).set _ _ (by omega) (by omega) _).set _ _ (by omega) (by omega) _).set _ _ (by omega) (by omega) _)), hq2.mid hB (((((Mid.refl _ _ _).set _ _ (by omega) (by omega) _).set _ _ (by omega) (by omega) _).set _ _ (by omega) (by omega) _))⟩

set_option maxHeartbeats 2000000 in
theorem qWhole_is (z : Int) (w : World) (h1 : -9223372036854775808 ≤ z) (h2 : z ≤ 9223372036854775807) :
    Calls Try.prog 24 #[.int .i64 z] w fun e w' => ∃ p q, e = .returned (.agg #[.bool (ng z), .slice p (ln (am z)) (ln (am z)), .slice q (ln 1) (ln 1)]) ∧ New w w' p (am z) (ln (am z)) ∧ New w w' q 1 (ln 1) := by
  have lz : ln (am z) ≤ 2 := ln_le_of_lt (by rw [BB2]; unfold am; omega)
  have l1 : ln 1 ≤ 2 := by rw [ln_one]; omega
  have H0 := hide' (fun w' => wOf_is z w' h1 h2)
  obtain ⟨V, hV⟩ : ∃ V : Nat, 1 = V := ⟨_, rfl⟩
  have hL : Low (sg (ng z) (am z)) (V : Int) z V := by rw [sg_na, ← hV]; exact Low.self (by omega) (by simp)
  have H1' := fun w' => wOf_is 1 w' (by omega) (by omega)
  rw [show ng 1 = false from rfl, show am 1 = 1 from rfl] at H1'
  rw [hV] at l1
  have H1 : ∀ w', Calls Try.prog 43 #[.int .i64 1] w' fun e w'' => ∃ ao', e = .returned (.agg #[.bool false, .slice ao' (ln V) (ln V)]) ∧ New w' w'' ao' V (ln V) := by rw [← hV]; exact H1'
  have G1 := hide' H1
  have H2 := hide' (fun w' p q k1 k2 => lowest_is (ng z) p (ln (am z)) (ln (am z)) (am z) q (ln V) (ln V) V V z w' (Nat.le_refl _) (by omega) k1 (Nat.le_refl _) (by omega) k2 hL)
  rw [show ln 1 = ln V by rw [hV]]
  have e1 : ∀ w' q, New w w' q 1 (ln V) ↔ New w w' q V (ln V) := fun w' q => by rw [← hV]
  simp only [e1]
  clear H1' H1 hL hV h1 h2 e1
  go_enter Try.func24, Try.ntmps24
  go_wp2_with fail
  obtain ⟨W, hW⟩ : ∃ W, (w.alloc (.cells #[.bool false, .slice none 0 0, .slice none 0 0] 27)) = W := ⟨_, rfl⟩
  have r00 : W.cell? ⟨w.heap.size, 0, none⟩ = some (.bool false) := by subst hW; go_simp
  have r01 : W.cell? ⟨w.heap.size, 1, none⟩ = some (.slice none 0 0) := by subst hW; go_simp
  have r02 : W.cell? ⟨w.heap.size, 2, none⟩ = some (.slice none 0 0) := by subst hW; go_simp
  have hB : Below w.heap.size w W := by subst hW; exact ((Below.refl _ _).alloc (by (try simp only [World.size_alloc]); omega) _)
  have hR0 : Row W (w.heap.size) := by
    have := row_new (w) #[.bool false, .slice none 0 0, .slice none 0 0] 27
    try simp only [World.size_alloc] at this
    subst hW; exact this
  have hz : W.heap.size = w.heap.size + 1 := by subst hW; simp only [World.size_alloc]
  rw [hW]
  clear hW
  have hBW : Below W.heap.size W W := Below.refl _ _
  refine (H0.out _).mono ?_
  rintro e w1 ⟨a1, rfl, h1⟩
  have b1 := h1.below
  replace h1 := h1.back hBW
  replace hBW := hBW.trans (b1.mono hBW.size)
  replace r00 := below_cell b1 r00
  replace r01 := below_cell b1 r01
  replace r02 := below_cell b1 r02
  replace hR0 := below_row b1 hR0
  go_wp2_with fail
  refine (G1.out _).mono ?_
  rintro e w2 ⟨a2, rfl, h2⟩
  have b2 := h2.below
  replace h2 := h2.back hBW
  replace hBW := hBW.trans (b2.mono hBW.size)
  replace r00 := below_cell b2 r00
  replace r01 := below_cell b2 r01
  replace r02 := below_cell b2 r02
  replace hR0 := below_row b2 hR0
  replace h1 := h1.later b2
  go_wp2_with fail
  refine (H2.out _ a1 a2 h1.seg h2.seg).mono ?_
  rintro e w3 ⟨p3, q3, rfl, hp3, hq3⟩
  have b3 := hp3.below
  replace hp3 := hp3.back hBW
  replace hq3 := hq3.back hBW
  replace hBW := hBW.trans (b3.mono hBW.size)
  replace r00 := below_cell b3 r00
  replace r01 := below_cell b3 r01
  replace r02 := below_cell b3 r02
  replace hR0 := below_row b3 hR0
  replace h1 := h1.later b3
  replace h2 := h2.later b3
  have fz0 := fun o => hR0.frozen o
  go_wp2
  all_goals refine bodyPost_ret (v := Value.agg #[Value.bool (ng z), Value.slice p3 (ln (am z)) (ln (am z)), Value.slice q3 (ln V) (ln V)]) (by rw [results_cell rfl]; go_simp) rfl ?_
  all_goals exact ⟨p3, q3, rfl, hp3.mid hB (((((Mid.refl _ _ _).set _ _ (by omega) (by omega) _).set _ _ (by omega) (by omega) _).set _ _ (by omega) (by omega) _)), hq3.mid hB (((((Mid.refl _ _ _).set _ _ (by omega) (by omega) _).set _ _ (by omega) (by omega) _).set _ _ (by omega) (by omega) _))⟩
end Go.Proofs.Ytkdmciiighjffaa
