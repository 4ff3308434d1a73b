import Derived.Test.YtejlnodillnoaaaGreatDoorWQ1
import Derived.Test.YtejlnodillnoaaaGreatDoorW18
import Derived.Test.YtejlnodillnoaaaGreatDoorWI2
set_option linter.unusedSimpArgs false
namespace Go.Proofs.YtejlnodillnoaaaGreatDoor
open Go.RowKit
set_option linter.unusedVariables false
theorem positive_is (ao : Option Addr) (n cap : Nat) (w : World) :
    Calls Tryz.prog 60 #[.slice ao n cap] w fun e w' => e = .returned (.agg #[.bool false, .slice ao n cap]) ∧ Below w.heap.size w w' := by
  go_enter Tryz.func60, Tryz.ntmps60
  have hB : Below w.heap.size w (w.alloc (.cells #[.bool false, .slice ao n cap] 25)) := below_alloc _
  go_wp2
  refine bodyPost_ret (v := .agg #[.bool false, .slice ao n cap]) (by rw [results_cell rfl]; go_simp) rfl ?_
  exact ⟨rfl, hB⟩
set_option maxHeartbeats 2000000 in
set_option maxRecDepth 100000 in
theorem vqNorm_zero (s : Bool) (ao : Option Addr) (n cap X : Nat) (ao2 : Option Addr) (m cap2 Y : Nat) (w : World) (hm : n ≤ 70368744177400) (hS : Seg w ao X n) (hm2 : m ≤ 70368744177400) (hS2 : Seg w ao2 Y m) (h0 : Y = 0 ∨ X = 0) :
    Calls Tryz.prog 14 #[.agg #[.bool s, .slice ao n cap, .slice ao2 m cap2]] w fun e w' => ∃ q, e = .returned (.agg #[.bool false, .slice none 0 0, .slice q 1 1]) ∧ New w w' q 1 1 := by
  obtain ⟨Z, hZ⟩ : ∃ Z, sg s X = Z := ⟨_, rfl⟩
  have hl := ln_le_of_lt hS.1
  have hl2 := ln_le_of_lt hS2.1
  have lZ : ln (am Z) ≤ 70368744177400 := by rw [← hZ, am_sg]; omega
  have HN := hide' (fun w' k => vNorm_is s ao n cap X Z w' (by omega) k hZ)
  by_cases hY : Y = 0
  · have hb : (((ln Y : Nat) : Int) == 0) = true := by rw [hY, ln_zero]; rfl
    clear h0 hZ hY
    go_enter Tryz.func14, Tryz.ntmps14
    go_wp2_with fail
    obtain ⟨W, hW⟩ : ∃ W, ((w.alloc (.cells #[.bool s, .slice ao n cap, .slice ao2 m cap2] 27)).alloc (.cells #[.bool false, .slice none 0 0, .slice none 0 0] 27)) = W := ⟨_, rfl⟩
    have q00 : W.cell? ⟨w.heap.size, 0, none⟩ = some (.bool s) := by subst hW; go_simp
    have q01 : W.cell? ⟨w.heap.size, 1, none⟩ = some (.slice ao n cap) := by subst hW; go_simp
    have q02 : W.cell? ⟨w.heap.size, 2, none⟩ = some (.slice ao2 m cap2) := by subst hW; go_simp
    have r00 : W.cell? ⟨w.heap.size + 1, 0, none⟩ = some (.bool false) := by subst hW; go_simp
    have r01 : W.cell? ⟨w.heap.size + 1, 1, none⟩ = some (.slice none 0 0) := by subst hW; go_simp
    have r02 : W.cell? ⟨w.heap.size + 1, 2, none⟩ = some (.slice none 0 0) := by subst hW; go_simp
    have hB : Below w.heap.size w W := by subst hW; exact (((Below.refl _ _).alloc (by (try simp only [World.size_alloc]); omega) _).alloc (by (try simp only [World.size_alloc]); omega) _)
    have hR0 : Row W (w.heap.size + 1) := by
      have := row_new ((w.alloc (.cells #[.bool s, .slice ao n cap, .slice ao2 m cap2] 27))) #[.bool false, .slice none 0 0, .slice none 0 0] 27
      try simp only [World.size_alloc] at this
      subst hW; exact this
    have hz : W.heap.size = w.heap.size + 1 + 1 := by subst hW; simp only [World.size_alloc]
    rw [hW]
    clear hW
    have hBW : Below W.heap.size W W := Below.refl _ _
    refine (HN.out _ (sb hS hB hBW)).mono ?_
    rintro e w1 ⟨a1, rfl, hn⟩
    have b1 := hn.below
    replace hn := hn.back hBW
    replace hBW := hBW.trans (b1.mono hBW.size)
    replace q00 := below_cell b1 q00
    replace q01 := below_cell b1 q01
    replace q02 := below_cell b1 q02
    replace r00 := below_cell b1 r00
    replace r01 := below_cell b1 r01
    replace r02 := below_cell b1 r02
    replace hR0 := below_row b1 hR0
    have hsz1 := hBW.size
    have hlt1hR0 := hR0.lt
    have l100 : ((w1.alloc (.cells #[.bool (ng Z), .slice a1 (ln (am Z)) (ln (am Z))] 25))).cell? ⟨w1.heap.size, 0, none⟩ = some (.bool (ng Z)) := by go_simp
    have l101 : ((w1.alloc (.cells #[.bool (ng Z), .slice a1 (ln (am Z)) (ln (am Z))] 25))).cell? ⟨w1.heap.size, 1, none⟩ = some (.slice a1 (ln (am Z)) (ln (am Z))) := by go_simp
    have cb1 : Below w1.heap.size w1 ((w1.alloc (.cells #[.bool (ng Z), .slice a1 (ln (am Z)) (ln (am Z))] 25))) := ((Below.refl _ _).alloc (by (try simp only [World.size_alloc]); omega) _)
    replace hBW := hBW.trans (cb1.mono hBW.size)
    replace q00 := below_cell cb1 q00
    replace q01 := below_cell cb1 q01
    replace q02 := below_cell cb1 q02
    replace r00 := below_cell cb1 r00
    replace r01 := below_cell cb1 r01
    replace r02 := below_cell cb1 r02
    replace hR0 := below_row cb1 hR0
    replace hn := hn.later cb1
    have hL10 : Row ((w1.alloc (.cells #[.bool (ng Z), .slice a1 (ln (am Z)) (ln (am Z))] 25))) (w1.heap.size) := by
      have := row_new (w1) #[.bool (ng Z), .slice a1 (ln (am Z)) (ln (am Z))] 25
      try simp only [World.size_alloc] at this
      exact this
    go_wp2_with fail
    generalize (w1.alloc (.cells #[.bool (ng Z), .slice a1 (ln (am Z)) (ln (am Z))] 25)) = w1x at q00 q01 q02 r00 r01 r02 l100 l101 hR0 hL10 hn hBW cb1 ⊢
    clear cb1
    refine (rNorm_any ao2 m cap2 Y _ (by omega) (sb hS2 hB hBW)).mono ?_
    rintro e w2 ⟨a2, rfl, hd⟩
    have b2 := hd.below
    replace hd := hd.back hBW
    replace hBW := hBW.trans (b2.mono hBW.size)
    replace q00 := below_cell b2 q00
    replace q01 := below_cell b2 q01
    replace q02 := below_cell b2 q02
    replace r00 := below_cell b2 r00
    replace r01 := below_cell b2 r01
    replace r02 := below_cell b2 r02
    replace l100 := below_cell b2 l100
    replace l101 := below_cell b2 l101
    replace hR0 := below_row b2 hR0
    replace hL10 := below_row b2 hL10
    replace hn := hn.later b2
    have hn9 := single_new w2 1 60 1 (by omega) rfl
    have b9 := hn9.below
    replace hn9 := hn9.back hBW
    have L0 := l100
    have L1 := l101
    replace hBW := hBW.trans (b9.mono hBW.size)
    replace q00 := below_cell b9 q00
    replace q01 := below_cell b9 q01
    replace q02 := below_cell b9 q02
    replace r00 := below_cell b9 r00
    replace r01 := below_cell b9 r01
    replace r02 := below_cell b9 r02
    replace l100 := below_cell b9 l100
    replace l101 := below_cell b9 l101
    replace hR0 := below_row b9 hR0
    replace hL10 := below_row b9 hL10
    replace hn := hn.later b9
    replace hd := hd.later b9
    have fz0 := fun o => hR0.frozen o
    go_wp2
    all_goals refine bodyPost_ret (v := .agg #[.bool false, .slice none 0 0, .slice (some ⟨w2.heap.size, 0, none⟩) 1 1]) (by rw [results_cell rfl]; go_simp) rfl ?_
    all_goals exact ⟨_, rfl, hn9.mid hB (((((Mid.refl _ _ _).set _ _ (by omega) (by omega) _).set _ _ (by omega) (by omega) _).set _ _ (by omega) (by omega) _))⟩
  · have hX : X = 0 := by omega
    have hb : (((ln Y : Nat) : Int) == 0) = false := by rw [beq_eq_false_iff_ne]; have := mt ln_eq_zero.1 hY; omega
    have hb2 : (((ln (am Z) : Nat) : Int) == 0) = true := by rw [← hZ, am_sg, hX, ln_zero]; rfl
    clear h0 hZ hX hY
    go_enter Tryz.func14, Tryz.ntmps14
    go_wp2_with fail
    obtain ⟨W, hW⟩ : ∃ W, ((w.alloc (.cells #[.bool s, .slice ao n cap, .slice ao2 m cap2] 27)).alloc (.cells #[.bool false, .slice none 0 0, .slice none 0 0] 27)) = W := ⟨_, rfl⟩
    have q00 : W.cell? ⟨w.heap.size, 0, none⟩ = some (.bool s) := by subst hW; go_simp
    have q01 : W.cell? ⟨w.heap.size, 1, none⟩ = some (.slice ao n cap) := by subst hW; go_simp
    have q02 : W.cell? ⟨w.heap.size, 2, none⟩ = some (.slice ao2 m cap2) := by subst hW; go_simp
    have r00 : W.cell? ⟨w.heap.size + 1, 0, none⟩ = some (.bool false) := by subst hW; go_simp
    have r01 : W.cell? ⟨w.heap.size + 1, 1, none⟩ = some (.slice none 0 0) := by subst hW; go_simp
    have r02 : W.cell? ⟨w.heap.size + 1, 2, none⟩ = some (.slice none 0 0) := by subst hW; go_simp
    have hB : Below w.heap.size w W := by subst hW; exact (((Below.refl _ _).alloc (by (try simp only [World.size_alloc]); omega) _).alloc (by (try simp only [World.size_alloc]); omega) _)
    have hR0 : Row W (w.heap.size + 1) := by
      have := row_new ((w.alloc (.cells #[.bool s, .slice ao n cap, .slice ao2 m cap2] 27))) #[.bool false, .slice none 0 0, .slice none 0 0] 27
      try simp only [World.size_alloc] at this
      subst hW; exact this
    have hz : W.heap.size = w.heap.size + 1 + 1 := by subst hW; simp only [World.size_alloc]
    rw [hW]
    clear hW
    have hBW : Below W.heap.size W W := Below.refl _ _
    refine (HN.out _ (sb hS hB hBW)).mono ?_
    rintro e w1 ⟨a1, rfl, hn⟩
    have b1 := hn.below
    replace hn := hn.back hBW
    replace hBW := hBW.trans (b1.mono hBW.size)
    replace q00 := below_cell b1 q00
    replace q01 := below_cell b1 q01
    replace q02 := below_cell b1 q02
    replace r00 := below_cell b1 r00
    replace r01 := below_cell b1 r01
    replace r02 := below_cell b1 r02
    replace hR0 := below_row b1 hR0
    have hsz1 := hBW.size
    have hlt1hR0 := hR0.lt
    have l100 : ((w1.alloc (.cells #[.bool (ng Z), .slice a1 (ln (am Z)) (ln (am Z))] 25))).cell? ⟨w1.heap.size, 0, none⟩ = some (.bool (ng Z)) := by go_simp
    have l101 : ((w1.alloc (.cells #[.bool (ng Z), .slice a1 (ln (am Z)) (ln (am Z))] 25))).cell? ⟨w1.heap.size, 1, none⟩ = some (.slice a1 (ln (am Z)) (ln (am Z))) := by go_simp
    have cb1 : Below w1.heap.size w1 ((w1.alloc (.cells #[.bool (ng Z), .slice a1 (ln (am Z)) (ln (am Z))] 25))) := ((Below.refl _ _).alloc (by (try simp only [World.size_alloc]); omega) _)
    replace hBW := hBW.trans (cb1.mono hBW.size)
    replace q00 := below_cell cb1 q00
    replace q01 := below_cell cb1 q01
    replace q02 := below_cell cb1 q02
    replace r00 := below_cell cb1 r00
    replace r01 := below_cell cb1 r01
    replace r02 := below_cell cb1 r02
    replace hR0 := below_row cb1 hR0
    replace hn := hn.later cb1
    have hL10 : Row ((w1.alloc (.cells #[.bool (ng Z), .slice a1 (ln (am Z)) (ln (am Z))] 25))) (w1.heap.size) := by
      have := row_new (w1) #[.bool (ng Z), .slice a1 (ln (am Z)) (ln (am Z))] 25
      try simp only [World.size_alloc] at this
      exact this
    go_wp2_with fail
    generalize (w1.alloc (.cells #[.bool (ng Z), .slice a1 (ln (am Z)) (ln (am Z))] 25)) = w1x at q00 q01 q02 r00 r01 r02 l100 l101 hR0 hL10 hn hBW cb1 ⊢
    clear cb1
    refine (rNorm_any ao2 m cap2 Y _ (by omega) (sb hS2 hB hBW)).mono ?_
    rintro e w2 ⟨a2, rfl, hd⟩
    have b2 := hd.below
    replace hd := hd.back hBW
    replace hBW := hBW.trans (b2.mono hBW.size)
    replace q00 := below_cell b2 q00
    replace q01 := below_cell b2 q01
    replace q02 := below_cell b2 q02
    replace r00 := below_cell b2 r00
    replace r01 := below_cell b2 r01
    replace r02 := below_cell b2 r02
    replace l100 := below_cell b2 l100
    replace l101 := below_cell b2 l101
    replace hR0 := below_row b2 hR0
    replace hL10 := below_row b2 hL10
    replace hn := hn.later b2
    have hn9 := single_new w2 1 60 1 (by omega) rfl
    have b9 := hn9.below
    replace hn9 := hn9.back hBW
    have L0 := l100
    have L1 := l101
    replace hBW := hBW.trans (b9.mono hBW.size)
    replace q00 := below_cell b9 q00
    replace q01 := below_cell b9 q01
    replace q02 := below_cell b9 q02
    replace r00 := below_cell b9 r00
    replace r01 := below_cell b9 r01
    replace r02 := below_cell b9 r02
    replace l100 := below_cell b9 l100
    replace l101 := below_cell b9 l101
    replace hR0 := below_row b9 hR0
    replace hL10 := below_row b9 hL10
    replace hn := hn.later b9
    replace hd := hd.later b9
    have fz0 := fun o => hR0.frozen o
    go_wp2
    all_goals refine bodyPost_ret (v := .agg #[.bool false, .slice none 0 0, .slice (some ⟨w2.heap.size, 0, none⟩) 1 1]) (by rw [results_cell rfl]; go_simp) rfl ?_
    all_goals exact ⟨_, rfl, hn9.mid hB (((((Mid.refl _ _ _).set _ _ (by omega) (by omega) _).set _ _ (by omega) (by omega) _).set _ _ (by omega) (by omega) _))⟩
set_option maxHeartbeats 2000000 in
set_option maxRecDepth 100000 in
theorem vqNorm_nz (s : Bool) (ao : Option Addr) (n cap X : Nat) (ao2 : Option Addr) (m cap2 Y P Q : Nat) (Z : Int) (w : World) (hm : n ≤ 70368744177400) (hS : Seg w ao X n) (hm2 : m ≤ 70368744177400) (hS2 : Seg w ao2 Y m) (hX : X ≠ 0) (hY : Y ≠ 0) (hP : X = P * Nat.gcd X Y) (hQ : Y = Q * Nat.gcd X Y) (hZ : sg s P = Z) :
    Calls Tryz.prog 14 #[.agg #[.bool s, .slice ao n cap, .slice ao2 m cap2]] w fun e w' => ∃ p q, e = .returned (.agg #[.bool (ng Z), .slice p (ln (am Z)) (ln (am Z)), .slice q (ln Q) (ln Q)]) ∧ New w w' p (am Z) (ln (am Z)) ∧ New w w' q Q (ln Q) := by
  have hl := ln_le_of_lt hS.1
  have hl2 := ln_le_of_lt hS2.1
  obtain ⟨G, hG⟩ : ∃ G, Nat.gcd X Y = G := ⟨_, rfl⟩
  have hG0 : 0 < G := by rw [← hG]; exact Nat.gcd_pos_of_pos_right _ (by omega)
  have hlG : ln G ≤ 70368744177400 := by
    have : G ≤ Y := by rw [← hG]; exact Nat.gcd_le_right _ (by omega)
    have := ln_mono this; omega
  rw [hG] at hP hQ
  have hP0 : P ≠ 0 := fun e => hX (by rw [hP, e, Nat.zero_mul])
  obtain ⟨t, ht⟩ : ∃ t, ng (sg s X) = t := ⟨_, rfl⟩
  have hts : ng Z = t := by
    rw [← ht, ← hZ, ng_sg, ng_sg]
    have h1 : 0 < ln P := Nat.pos_of_ne_zero (mt ln_eq_zero.1 hP0)
    have h2 : 0 < ln X := Nat.pos_of_ne_zero (mt ln_eq_zero.1 hX)
    simp [h1, h2]
  have haZ : am Z = P := by rw [← hZ, am_sg]
  have hb : (((ln Y : Nat) : Int) == 0) = false := by rw [beq_eq_false_iff_ne]; have := mt ln_eq_zero.1 hY; omega
  have hb2 : (((ln X : Nat) : Int) == 0) = false := by rw [beq_eq_false_iff_ne]; have := mt ln_eq_zero.1 hX; omega
  have HN' := fun w' k => vNorm_is s ao n cap X (sg s X) w' (by omega) k rfl
  rw [am_sg, ht] at HN'
  have HN := hide' HN'
  have HG := hide' (fun w' p q k1 k2 => rGcd_is p q (ln X) (ln X) X (ln Y) (ln Y) Y G w' (by omega) k1 (by omega) k2 hG)
  have H1 := hide' (fun w' p q k1 k2 => rDiv_is p q (ln X) (ln X) X (ln G) (ln G) G P 0 w' (by omega) k1 (by omega) k2 (by omega) hG0)
  have H2 := hide' (fun w' p q k1 k2 => rDiv_is p q (ln Y) (ln Y) Y (ln G) (ln G) G Q 0 w' (by omega) k1 (by omega) k2 (by omega) hG0)
  rw [hts, haZ]
  obtain ⟨O, hO⟩ : ∃ O : Nat, 0 = O := ⟨_, rfl⟩
  clear hP hQ hG hG0 hZ hX hY HN' ht hts haZ hP0 hO
  go_enter Tryz.func14, Tryz.ntmps14
  go_wp2_with fail
  obtain ⟨W, hW⟩ : ∃ W, ((w.alloc (.cells #[.bool s, .slice ao n cap, .slice ao2 m cap2] 27)).alloc (.cells #[.bool false, .slice none 0 0, .slice none 0 0] 27)) = W := ⟨_, rfl⟩
  have q00 : W.cell? ⟨w.heap.size, 0, none⟩ = some (.bool s) := by subst hW; go_simp
  have q01 : W.cell? ⟨w.heap.size, 1, none⟩ = some (.slice ao n cap) := by subst hW; go_simp
  have q02 : W.cell? ⟨w.heap.size, 2, none⟩ = some (.slice ao2 m cap2) := by subst hW; go_simp
  have r00 : W.cell? ⟨w.heap.size + 1, 0, none⟩ = some (.bool false) := by subst hW; go_simp
  have r01 : W.cell? ⟨w.heap.size + 1, 1, none⟩ = some (.slice none 0 0) := by subst hW; go_simp
  have r02 : W.cell? ⟨w.heap.size + 1, 2, none⟩ = some (.slice none 0 0) := by subst hW; go_simp
  have hB : Below w.heap.size w W := by subst hW; exact (((Below.refl _ _).alloc (by (try simp only [World.size_alloc]); omega) _).alloc (by (try simp only [World.size_alloc]); omega) _)
  have hR0 : Row W (w.heap.size + 1) := by
    have := row_new ((w.alloc (.cells #[.bool s, .slice ao n cap, .slice ao2 m cap2] 27))) #[.bool false, .slice none 0 0, .slice none 0 0] 27
    try simp only [World.size_alloc] at this
    subst hW; exact this
  have hz : W.heap.size = w.heap.size + 1 + 1 := by subst hW; simp only [World.size_alloc]
  rw [hW]
  clear hW
  have hBW : Below W.heap.size W W := Below.refl _ _
  refine (HN.out _ (sb hS hB hBW)).mono ?_
  rintro e w1 ⟨a1, rfl, hn⟩
  have b1 := hn.below
  replace hn := hn.back hBW
  replace hBW := hBW.trans (b1.mono hBW.size)
  replace q00 := below_cell b1 q00
  replace q01 := below_cell b1 q01
  replace q02 := below_cell b1 q02
  replace r00 := below_cell b1 r00
  replace r01 := below_cell b1 r01
  replace r02 := below_cell b1 r02
  replace hR0 := below_row b1 hR0
  have hsz1 := hBW.size
  have hlt1hR0 := hR0.lt
  have l100 : ((w1.alloc (.cells #[.bool t, .slice a1 (ln X) (ln X)] 25))).cell? ⟨w1.heap.size, 0, none⟩ = some (.bool t) := by go_simp
  have l101 : ((w1.alloc (.cells #[.bool t, .slice a1 (ln X) (ln X)] 25))).cell? ⟨w1.heap.size, 1, none⟩ = some (.slice a1 (ln X) (ln X)) := by go_simp
  have cb1 : Below w1.heap.size w1 ((w1.alloc (.cells #[.bool t, .slice a1 (ln X) (ln X)] 25))) := ((Below.refl _ _).alloc (by (try simp only [World.size_alloc]); omega) _)
  replace hBW := hBW.trans (cb1.mono hBW.size)
  replace q00 := below_cell cb1 q00
  replace q01 := below_cell cb1 q01
  replace q02 := below_cell cb1 q02
  replace r00 := below_cell cb1 r00
  replace r01 := below_cell cb1 r01
  replace r02 := below_cell cb1 r02
  replace hR0 := below_row cb1 hR0
  replace hn := hn.later cb1
  have hL10 : Row ((w1.alloc (.cells #[.bool t, .slice a1 (ln X) (ln X)] 25))) (w1.heap.size) := by
    have := row_new (w1) #[.bool t, .slice a1 (ln X) (ln X)] 25
    try simp only [World.size_alloc] at this
    exact this
  go_wp2_with fail
  generalize (w1.alloc (.cells #[.bool t, .slice a1 (ln X) (ln X)] 25)) = w1x at q00 q01 q02 r00 r01 r02 l100 l101 hR0 hL10 hn hBW cb1 ⊢
  clear cb1
  refine (rNorm_any ao2 m cap2 Y _ (by omega) (sb hS2 hB hBW)).mono ?_
  rintro e w2 ⟨a2, rfl, hd⟩
  have b2 := hd.below
  replace hd := hd.back hBW
  replace hBW := hBW.trans (b2.mono hBW.size)
  replace q00 := below_cell b2 q00
  replace q01 := below_cell b2 q01
  replace q02 := below_cell b2 q02
  replace r00 := below_cell b2 r00
  replace r01 := below_cell b2 r01
  replace r02 := below_cell b2 r02
  replace l100 := below_cell b2 l100
  replace l101 := below_cell b2 l101
  replace hR0 := below_row b2 hR0
  replace hL10 := below_row b2 hL10
  replace hn := hn.later b2
  go_wp2_with fail
  refine (HG.out _ a1 a2 hn.seg hd.seg).mono ?_
  rintro e w3 ⟨a3, rfl, hg⟩
  have b3 := hg.below
  replace hg := hg.back hBW
  replace hBW := hBW.trans (b3.mono hBW.size)
  replace q00 := below_cell b3 q00
  replace q01 := below_cell b3 q01
  replace q02 := below_cell b3 q02
  replace r00 := below_cell b3 r00
  replace r01 := below_cell b3 r01
  replace r02 := below_cell b3 r02
  replace l100 := below_cell b3 l100
  replace l101 := below_cell b3 l101
  replace hR0 := below_row b3 hR0
  replace hL10 := below_row b3 hL10
  replace hn := hn.later b3
  replace hd := hd.later b3
  go_wp2_with fail
  refine (H1.out _ a1 a3 hn.seg hg.seg).mono ?_
  rintro e w4 ⟨p4, q4, rfl, hp4, hq4⟩
  have b4 := hp4.below
  replace hp4 := hp4.back hBW
  replace hq4 := hq4.back hBW
  replace hBW := hBW.trans (b4.mono hBW.size)
  replace q00 := below_cell b4 q00
  replace q01 := below_cell b4 q01
  replace q02 := below_cell b4 q02
  replace r00 := below_cell b4 r00
  replace r01 := below_cell b4 r01
  replace r02 := below_cell b4 r02
  replace l100 := below_cell b4 l100
  replace l101 := below_cell b4 l101
  replace hR0 := below_row b4 hR0
  replace hL10 := below_row b4 hL10
  replace hn := hn.later b4
  replace hd := hd.later b4
  replace hg := hg.later b4
  go_wp2_with fail
  refine (H2.out _ a2 a3 hd.seg hg.seg).mono ?_
  rintro e w5 ⟨p5, q5, rfl, hp5, hq5⟩
  have b5 := hp5.below
  replace hp5 := hp5.back hBW
  replace hq5 := hq5.back hBW
  replace hBW := hBW.trans (b5.mono hBW.size)
  replace q00 := below_cell b5 q00
  replace q01 := below_cell b5 q01
  replace q02 := below_cell b5 q02
  replace r00 := below_cell b5 r00
  replace r01 := below_cell b5 r01
  replace r02 := below_cell b5 r02
  replace l100 := below_cell b5 l100
  replace l101 := below_cell b5 l101
  replace hR0 := below_row b5 hR0
  replace hL10 := below_row b5 hL10
  replace hn := hn.later b5
  replace hd := hd.later b5
  replace hg := hg.later b5
  replace hp4 := hp4.later b5
  replace hq4 := hq4.later b5
  have fz0 := fun o => hR0.frozen o
  go_wp2
  all_goals refine bodyPost_ret (v := .agg #[.bool t, .slice p4 (ln P) (ln P), .slice p5 (ln Q) (ln Q)]) (by rw [results_cell rfl]; go_simp) rfl ?_
  all_goals exact ⟨p4, p5, rfl, hp4.mid hB (((((Mid.refl _ _ _).set _ _ (by omega) (by omega) _).set _ _ (by omega) (by omega) _).set _ _ (by omega) (by omega) _)), hp5.mid hB (((((Mid.refl _ _ _).set _ _ (by omega) (by omega) _).set _ _ (by omega) (by omega) _).set _ _ (by omega) (by omega) _))⟩
theorem vqNorm_is (s : Bool) (ao : Option Addr) (n cap X : Nat) (ao2 : Option Addr) (m cap2 Y V : Nat) (Z : Int) (w : World) (hm : n ≤ 70368744177400) (hS : Seg w ao X n) (hm2 : m ≤ 70368744177400) (hS2 : Seg w ao2 Y m) (hL : Low (rn s X Y) (rd Y : Nat) Z V) :
    Calls Tryz.prog 14 #[.agg #[.bool s, .slice ao n cap, .slice ao2 m cap2]] w fun e w' => ∃ p q, e = .returned (.agg #[.bool (ng Z), .slice p (ln (am Z)) (ln (am Z)), .slice q (ln V) (ln V)]) ∧ New w w' p (am Z) (ln (am Z)) ∧ New w w' q V (ln V) := by
  by_cases h0 : Y = 0 ∨ X = 0
  · have hz : rn s X Y = 0 := by
      unfold rn; split
      · rfl
      · rcases h0 with h | h
        · exact absurd h (by assumption)
        · rw [h]; exact sg_zero s
    rw [hz] at hL
    obtain ⟨rfl, rfl⟩ := hL.zero
    refine (vqNorm_zero s ao n cap X ao2 m cap2 Y w hm hS hm2 hS2 h0).mono ?_
    rintro e w' ⟨q, rfl, hq⟩
    refine ⟨none, q, by rw [show ng 0 = false from rfl, show am 0 = 0 from rfl, ln_zero, ln_one], ?_, by rw [ln_one]; exact hq⟩
    rw [show am 0 = 0 from rfl, ln_zero]
    exact New.nil _ hq.below
  · have hY : Y ≠ 0 := fun e => h0 (Or.inl e)
    have hX : X ≠ 0 := fun e => h0 (Or.inr e)
    obtain ⟨P, Q, hP, hQ⟩ := gcd_parts X Y
    have h := low_made s false hY rfl hP hQ
    simp only [Bool.false_eq_true, if_false] at h
    rw [rn_of hY, rd_of hY] at hL
    obtain ⟨rfl, rfl⟩ := hL.uniq h rfl
    exact vqNorm_nz s ao n cap X ao2 m cap2 Y P V _ w hm hS hm2 hS2 hX hY hP hQ rfl
end Go.Proofs.YtejlnodillnoaaaGreatDoor
