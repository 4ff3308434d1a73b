/-
  Layer 3: Text, of both sides.
-/
import Derived.Test.YtamkdnogkeilnaaGreatDoorWU1
import Derived.Test.YtamkdnogkeilnaaGreatDoorWTH
import Derived.Test.YtamkdnogkeilnaaGreatDoorWI4
import Derived.Test.YtamkdnogkeilnaaGreatDoorWTD
import Derived.Test.YtamkdnogkeilnaaGreatDoorW3
import Derived.Test.YtamkdnogkeilnaaGreatDoorWQN
import Derived.Test.YtamkdnogkeilnaaGreatDoorWQ7
namespace Go.Proofs.YtamkdnogkeilnaaGreatDoor
open Go.RowKit
set_option linter.unusedVariables false

set_option maxHeartbeats 2000000 in
set_option maxRecDepth 100000 in
theorem vText_pos (a : Option Addr) (n cap X : Nat) (w : World) (hn : n ≤ 1073741824) (hS : Seg w a X n)  : Calls Tryz.prog 30 #[.agg #[.bool false, .slice a n cap]] w fun e w' => ∃ u, e = .returned (.string u) ∧ isTz false X u ∧ Below w.heap.size w w' := by
  obtain ⟨C, hC, hC0⟩ : ∃ C : Int, sgn (sg false X) = C ∧ ¬ (C < 0) := ⟨_, rfl, sgn_up X⟩
  have hl := ln_le_of_lt hS.1
  have H0 := hide' (fun w' k => rNorm_any a n cap X w' (by omega) k)
  have H1 := hide' (fun a' w' k => rText_any a' (ln X) (ln X) X 10 (by omega) (by omega) w' (by omega) k)
  have H2' := fun w' k => vSign_is false a n cap X _ w' (by omega) k rfl
  rw [hC] at H2'
  have H2 := hide' H2'
  clear H2' hC
  go_enter Tryz.func30, Tryz.ntmps30
  go_wp2_with fail
  obtain ⟨W, hW⟩ : ∃ W, (w.alloc (.cells #[.bool false, .slice a n cap] 25)) = W := ⟨_, rfl⟩
  have q00 : W.cell? ⟨w.heap.size, 0, none⟩ = some (.bool false) := by subst hW; go_simp
  have q01 : W.cell? ⟨w.heap.size, 1, none⟩ = some (.slice a n cap) := by subst hW; go_simp
  have hB : Below w.heap.size w W := by subst hW; exact ((Below.refl _ _).alloc (by (try simp only [World.size_alloc]); omega) _)
  have hz : W.heap.size = w.heap.size + 1 := by subst hW; simp only [World.size_alloc]
  rw [hW]
  clear hW
  have hBW : Below W.heap.size W W := Below.refl _ _
  refine (H0.out _ (sb hS hB hBW)).mono ?_
  rintro e w41 ⟨a41, rfl, h41⟩
  have b41 := h41.below
  have g41 := h41.seg
  replace hBW := hBW.trans (b41.mono hBW.size)
  replace q00 := below_cell b41 q00
  replace q01 := below_cell b41 q01
  go_wp2_with fail
  refine (H1.out _ _ g41).mono ?_
  rintro e w42 ⟨t, rfl, hT, b42⟩
  replace hBW := hBW.trans (b42.mono hBW.size)
  replace q00 := below_cell b42 q00
  replace q01 := below_cell b42 q01
  have hts := hT.size_le (by omega) hS.1
  have hts2 : ¬ (9223372036854775807 < 1 + t.size) := by omega
  have hts3 : 1 + t.size ≤ 9223372036854775807 := by omega
  have HT := hide' hT
  clear hT hts
  go_wp2_with fail
  refine (H2.out _ (sb hS hB hBW)).mono ?_
  rintro e w43 ⟨rfl, b43⟩
  replace hBW := hBW.trans (b43.mono hBW.size)
  replace q00 := below_cell b43 q00
  replace q01 := below_cell b43 q01
  go_wp2
  go_ret
  exact ⟨_, rfl, ⟨t, HT.out, by rw [if_neg (by simp)]⟩, hB.trans (hBW.mono hB.size)⟩

set_option maxHeartbeats 2000000 in
set_option maxRecDepth 100000 in
theorem vText_neg (a : Option Addr) (n cap X : Nat) (w : World) (hn : n ≤ 1073741824) (hS : Seg w a X n) (hX : X ≠ 0) : Calls Tryz.prog 30 #[.agg #[.bool true, .slice a n cap]] w fun e w' => ∃ u, e = .returned (.string u) ∧ isTz true X u ∧ Below w.heap.size w w' := by
  obtain ⟨C, hC, hC0⟩ : ∃ C : Int, sgn (sg true X) = C ∧ C < 0 := ⟨_, rfl, by rw [sgn_sg hX]; decide⟩
  have hl := ln_le_of_lt hS.1
  have H0 := hide' (fun w' k => rNorm_any a n cap X w' (by omega) k)
  have H1 := hide' (fun a' w' k => rText_any a' (ln X) (ln X) X 10 (by omega) (by omega) w' (by omega) k)
  have H2' := fun w' k => vSign_is true a n cap X _ w' (by omega) k rfl
  rw [hC] at H2'
  have H2 := hide' H2'
  clear H2' hC
  go_enter Tryz.func30, Tryz.ntmps30
  go_wp2_with fail
  obtain ⟨W, hW⟩ : ∃ W, (w.alloc (.cells #[.bool true, .slice a n cap] 25)) = W := ⟨_, rfl⟩
  have q00 : W.cell? ⟨w.heap.size, 0, none⟩ = some (.bool true) := by subst hW; go_simp
  have q01 : W.cell? ⟨w.heap.size, 1, none⟩ = some (.slice a n cap) := by subst hW; go_simp
  have hB : Below w.heap.size w W := by subst hW; exact ((Below.refl _ _).alloc (by (try simp only [World.size_alloc]); omega) _)
  have hz : W.heap.size = w.heap.size + 1 := by subst hW; simp only [World.size_alloc]
  rw [hW]
  clear hW
  have hBW : Below W.heap.size W W := Below.refl _ _
  refine (H0.out _ (sb hS hB hBW)).mono ?_
  rintro e w41 ⟨a41, rfl, h41⟩
  have b41 := h41.below
  have g41 := h41.seg
  replace hBW := hBW.trans (b41.mono hBW.size)
  replace q00 := below_cell b41 q00
  replace q01 := below_cell b41 q01
  go_wp2_with fail
  refine (H1.out _ _ g41).mono ?_
  rintro e w42 ⟨t, rfl, hT, b42⟩
  replace hBW := hBW.trans (b42.mono hBW.size)
  replace q00 := below_cell b42 q00
  replace q01 := below_cell b42 q01
  have hts := hT.size_le (by omega) hS.1
  have hts2 : ¬ (9223372036854775807 < 1 + t.size) := by omega
  have hts3 : 1 + t.size ≤ 9223372036854775807 := by omega
  have HT := hide' hT
  clear hT hts
  go_wp2_with fail
  refine (H2.out _ (sb hS hB hBW)).mono ?_
  rintro e w43 ⟨rfl, b43⟩
  replace hBW := hBW.trans (b43.mono hBW.size)
  replace q00 := below_cell b43 q00
  replace q01 := below_cell b43 q01
  go_wp2
  go_ret
  exact ⟨_, rfl, ⟨t, HT.out, by rw [if_pos ⟨rfl, hX⟩]⟩, hB.trans (hBW.mono hB.size)⟩

set_option maxHeartbeats 2000000 in
set_option maxRecDepth 100000 in
theorem vText_zero (s : Bool) (a : Option Addr) (n cap X : Nat) (w : World) (hn : n ≤ 1073741824) (hS : Seg w a X n) (hX : X = 0) : Calls Tryz.prog 30 #[.agg #[.bool s, .slice a n cap]] w fun e w' => ∃ u, e = .returned (.string u) ∧ isTz s X u ∧ Below w.heap.size w w' := by
  subst hX
  obtain ⟨C, hC, hC0⟩ : ∃ C : Int, sgn (sg s 0) = C ∧ ¬ (C < 0) := ⟨_, rfl, by cases s <;> decide⟩
  have hl := ln_le_of_lt hS.1
  have H0 := hide' (fun w' k => rNorm_any a n cap 0 w' (by omega) k)
  have H1 := hide' (fun a' w' k => rText_any a' (ln 0) (ln 0) 0 10 (by omega) (by omega) w' (by omega) k)
  have H2' := fun w' k => vSign_is s a n cap 0 _ w' (by omega) k rfl
  rw [hC] at H2'
  have H2 := hide' H2'
  clear H2' hC
  go_enter Tryz.func30, Tryz.ntmps30
  go_wp2_with fail
  obtain ⟨W, hW⟩ : ∃ W, (w.alloc (.cells #[.bool s, .slice a n cap] 25)) = W := ⟨_, rfl⟩
  have q00 : W.cell? ⟨w.heap.size, 0, none⟩ = some (.bool s) := by subst hW; go_simp
  have q01 : W.cell? ⟨w.heap.size, 1, none⟩ = some (.slice a n cap) := by subst hW; go_simp
  have hB : Below w.heap.size w W := by subst hW; exact ((Below.refl _ _).alloc (by (try simp only [World.size_alloc]); omega) _)
  have hz : W.heap.size = w.heap.size + 1 := by subst hW; simp only [World.size_alloc]
  rw [hW]
  clear hW
  have hBW : Below W.heap.size W W := Below.refl _ _
  refine (H0.out _ (sb hS hB hBW)).mono ?_
  rintro e w41 ⟨a41, rfl, h41⟩
  have b41 := h41.below
  have g41 := h41.seg
  replace hBW := hBW.trans (b41.mono hBW.size)
  replace q00 := below_cell b41 q00
  replace q01 := below_cell b41 q01
  go_wp2_with fail
  refine (H1.out _ _ g41).mono ?_
  rintro e w42 ⟨t, rfl, hT, b42⟩
  replace hBW := hBW.trans (b42.mono hBW.size)
  replace q00 := below_cell b42 q00
  replace q01 := below_cell b42 q01
  have hts := hT.size_le (by omega) hS.1
  have hts2 : ¬ (9223372036854775807 < 1 + t.size) := by omega
  have hts3 : 1 + t.size ≤ 9223372036854775807 := by omega
  have HT := hide' hT
  clear hT hts
  go_wp2_with fail
  refine (H2.out _ (sb hS hB hBW)).mono ?_
  rintro e w43 ⟨rfl, b43⟩
  replace hBW := hBW.trans (b43.mono hBW.size)
  replace q00 := below_cell b43 q00
  replace q01 := below_cell b43 q01
  go_wp2
  go_ret
  exact ⟨_, rfl, ⟨t, HT.out, by rw [if_neg (by simp)]⟩, hB.trans (hBW.mono hB.size)⟩

theorem vText_any (s : Bool) (a : Option Addr) (n cap X : Nat) (w : World) (hn : n ≤ 1073741824) (hS : Seg w a X n) : Calls Tryz.prog 30 #[.agg #[.bool s, .slice a n cap]] w fun e w' => ∃ u, e = .returned (.string u) ∧ isTz s X u ∧ Below w.heap.size w w' := by
  by_cases hX : X = 0
  · exact vText_zero s a n cap X w hn hS hX
  · cases s
    · exact vText_pos a n cap X w hn hS
    · exact vText_neg a n cap X w hn hS hX
end Go.Proofs.YtamkdnogkeilnaaGreatDoor

namespace Go.Proofs.YtamkdnogkeilnaaGreatDoor
open Go.RowKit
set_option linter.unusedVariables false

theorem lead_ex {b X Q : Nat} (k : Nat) : k < Q → (∀ j, j < k → dgt b X Q j = 0) ∨ ∃ c, c < k ∧ (∀ j, j < c → dgt b X Q j = 0) ∧ dgt b X Q c ≠ 0 := by
  induction k with
  | zero => exact fun _ => .inl fun j hj => absurd hj (by omega)
  | succ k ih =>
    intro h
    rcases ih (by omega) with h1 | ⟨c, h1, h2, h3⟩
    · by_cases e : dgt b X Q k = 0
      · exact .inl fun j hj => by
          rcases Nat.lt_or_ge j k with h2 | h2
          · exact h1 j h2
          · have : j = k := by omega
            rw [this]; exact e
      · exact .inr ⟨k, by omega, h1, e⟩
    · exact .inr ⟨c, by omega, h2, h3⟩
/-- every number has a text -/
theorem isTx_ex {b : Nat} (hb0 : 2 ≤ b) (hb : b ≤ 16) (X : Nat) : ∃ t, isTx b X t := by
  have hX : X < b ^ (X + 1) := Nat.lt_of_lt_of_le (Nat.lt_pow_self (by omega : 1 < b)) (Nat.pow_le_pow_right (by omega) (by omega))
  rcases lead_ex (b := b) (X := X) (Q := X + 1) X (by omega) with h | ⟨c, h1, h2, h3⟩
  · exact ⟨_, tl_isTx hb0 hb hX (by omega) h (.inl rfl)⟩
  · exact ⟨_, tl_isTx hb0 hb hX (by omega) h2 (.inr h3)⟩
theorem isTz_ex (s : Bool) (X : Nat) : ∃ u, isTz s X u := by
  obtain ⟨t, h⟩ := isTx_ex (b := 10) (by omega) (by omega) X
  exact ⟨_, t, h, rfl⟩
theorem isTz.uniq {s : Bool} {X : Nat} {u v : ByteArray} (h : isTz s X u) (k : isTz s X v) : u = v := by
  obtain ⟨t, ht, rfl⟩ := h
  obtain ⟨t', ht', rfl⟩ := k
  rw [ht.uniq (by omega) ht']
theorem isTx.head {X : Nat} {t : ByteArray} (h : isTx 10 X t) : byt t 0 ≠ 45 := by
  rw [h.2.2.2 0 h.1]
  have h1 : dgt 10 X t.size 0 < 10 := Nat.mod_lt _ (by omega)
  generalize dgt 10 X t.size 0 = d at h1
  match d, h1 with
  | 0, _ => decide
  | 1, _ => decide
  | 2, _ => decide
  | 3, _ => decide
  | 4, _ => decide
  | 5, _ => decide
  | 6, _ => decide
  | 7, _ => decide
  | 8, _ => decide
  | 9, _ => decide
theorem cons_byt (t : ByteArray) : byt ((⟨#[45]⟩ : ByteArray) ++ t) 0 = 45 := by
  rw [byt_of (by rw [ByteArray.size_append]; show 0 < 1 + _; omega), ByteArray.getElem_append_left (by decide)]
  rfl
theorem cons_ext (t : ByteArray) : ((⟨#[45]⟩ : ByteArray) ++ t).extract 1 ((⟨#[45]⟩ : ByteArray) ++ t).size = t := by
  have e1 : (⟨#[45]⟩ : ByteArray).size = 1 := rfl
  have e2 : ((⟨#[45]⟩ : ByteArray) ++ t).size = 1 + t.size := by rw [ByteArray.size_append, e1]
  have e3 : (((⟨#[45]⟩ : ByteArray) ++ t).extract 1 ((⟨#[45]⟩ : ByteArray) ++ t).size).size = t.size := by rw [ByteArray.size_extract, e2]; omega
  refine ba_ext e3 fun j hj => ?_
  rw [e3] at hj
  rw [byt_extract (Nat.le_refl _) (by rw [e2]; omega), byt_of (by rw [e2]; omega), ByteArray.getElem_append_right (by rw [e1]; omega), ← byt_of (by rw [e1]; omega), e1, show 1 + j - 1 = j by omega]
theorem isTz.size_le {s : Bool} {X n : Nat} {u : ByteArray} (h : isTz s X u) (hX : X < BB ^ n) : u.size ≤ 32 * n + 2 := by
  obtain ⟨t, ht, rfl⟩ := h
  have h1 := ht.size_le (by omega) hX
  split
  · rw [ByteArray.size_append]; show 1 + _ ≤ _; omega
  · omega
theorem isTz.pos {s : Bool} {X : Nat} {u : ByteArray} (h : isTz s X u) : 1 ≤ u.size := by
  obtain ⟨t, ht, rfl⟩ := h
  have h1 := ht.1
  split
  · rw [ByteArray.size_append]; show 1 ≤ 1 + _; omega
  · exact h1
/-- two numbers with one text are one number -/
theorem isTz.inj {s t : Bool} {X Y : Nat} {u : ByteArray} (h : isTz s X u) (k : isTz t Y u) : sg s X = sg t Y := by
  obtain ⟨v, hv, rfl⟩ := h
  obtain ⟨v', hv', e⟩ := k
  have h1 := hv.val (by omega) (by omega)
  have h2 := hv'.val (by omega) (by omega)
  by_cases c : s = true ∧ X ≠ 0
  · by_cases d : t = true ∧ Y ≠ 0
    · rw [if_pos c, if_pos d] at e
      have : v = v' := by have e2 := cons_ext v; rw [e, cons_ext] at e2; exact e2.symm
      subst this
      rw [← h1, ← h2, c.1, d.1]
    · rw [if_pos c, if_neg d] at e
      exact absurd (by rw [← e]; exact cons_byt v) hv'.head
  · by_cases d : t = true ∧ Y ≠ 0
    · rw [if_neg c, if_pos d] at e
      exact absurd (by rw [e]; exact cons_byt v') hv.head
    · rw [if_neg c, if_neg d] at e
      subst e
      have hXY : X = Y := by rw [← h1, ← h2]
      subst hXY
      by_cases hX : X = 0
      · subst hX; cases s <;> cases t <;> rfl
      · have c1 : s = false := by cases s; rfl; exact absurd ⟨rfl, hX⟩ c
        have d1 : t = false := by cases t; rfl; exact absurd ⟨rfl, hX⟩ d
        rw [c1, d1]
end Go.Proofs.YtamkdnogkeilnaaGreatDoor

namespace Go.Proofs.YtamkdnogkeilnaaGreatDoor
open Go.RowKit
set_option linter.unusedVariables false

theorem one_ln {V : Nat} (h : ln V ≠ 1) : V ≠ 1 := fun e => h (by rw [e]; exact ln_one)
set_option maxHeartbeats 1000000 in
theorem isOne_is (q : Option Addr) (V : Nat) (w : World) (hm : ln V ≤ 70368744177664) (hS : Seg w q V (ln V)) :
    Calls Tryz.prog 24 #[.slice q (ln V) (ln V)] w fun e w' => e = .returned (.bool (decide (V = 1))) ∧ w' = w := by
  by_cases h1 : ln V = 1
  · have hV := ln_lt V
    rw [h1, Nat.pow_one, BB_eq] at hV
    rw [h1] at hS ⊢
    obtain ⟨b, off, rfl, hb, hc⟩ := hS.2 (by omega)
    have hc0 := hc 0 (by omega)
    rw [dg0, Nat.mod_eq_of_lt hV, Nat.add_zero] at hc0
    have hx : ((V : Int) == 1) = decide (V = 1) := by
      rw [Bool.eq_iff_iff, beq_iff_eq, decide_eq_true_eq]; omega
    go_enter Tryz.func24, Tryz.ntmps24
    go_wp2
    go_ret
    exact ⟨by first | rfl | simp [hx], rfl⟩
  · have hb : ((ln V : Int) == 1) = false := by rw [beq_eq_false_iff_ne]; omega
    have hd : decide (V = 1) = false := decide_eq_false (one_ln h1)
    rw [hd]
    go_enter Tryz.func24, Tryz.ntmps24
    go_wp2
    go_ret
    exact ⟨rfl, rfl⟩
set_option maxHeartbeats 1000000 in
theorem digits_is (a : Option Addr) (n cap X : Nat) (t : ByteArray) (w : World) (h : Digs w) (hc : n ≤ cap) (hn : n ≤ 1073741824) (hS : Seg w a X n) (ht : isTx 10 X t) :
    Calls Tryz.prog 26 #[.slice a n cap] w fun e w' => e = .returned (.string t) ∧ Below w.heap.size w w' := by
  have HT := hide' ht
  clear ht
  go_enter Tryz.func26, Tryz.ntmps26
  go_wp2_with fail
  refine (Text_any a n cap X 10 (by omega) (by omega) w h hc hn hS).mono ?_
  rintro e w1 ⟨u, rfl, hu, b1⟩
  obtain rfl := hu.uniq (by omega) HT.out
  go_wp2
  go_ret
  exact ⟨rfl, b1⟩
set_option maxHeartbeats 1000000 in
theorem vdigits_is (a : Option Addr) (n cap X : Nat) (t : ByteArray) (w : World) (hn : n ≤ 1073741824) (hS : Seg w a X n) (ht : isTx 10 X t) :
    Calls Tryz.prog 32 #[.slice a n cap] w fun e w' => e = .returned (.string t) ∧ Below w.heap.size w w' := by
  have HT := hide' ht
  clear ht
  go_enter Tryz.func32, Tryz.ntmps32
  go_wp2_with fail
  refine (rText_any a n cap X 10 (by omega) (by omega) w hn hS).mono ?_
  rintro e w1 ⟨u, rfl, hu, b1⟩
  obtain rfl := hu.uniq (by omega) HT.out
  go_wp2
  go_ret
  exact ⟨rfl, b1⟩
set_option maxHeartbeats 1000000 in
theorem rSame_any (ao ao2 : Option Addr) (n cap X m cap2 Y : Nat) (w : World) (hm : n ≤ 70368744177664) (hm2 : m ≤ 70368744177664) (hS : Seg w ao X n) (hS2 : Seg w ao2 Y m) :
    Calls Tryz.prog 31 #[.slice ao n cap, .slice ao2 m cap2] w fun e w' => e = .returned (.bool (sameB n m X Y)) ∧ Dr w w' := by
  by_cases hnm : n = m
  · subst hnm
    go_enter Tryz.func31, Tryz.ntmps31
    go_wp2
    go_loopw [5] (fun i wr => ∃ k : Nat, k ≤ n ∧ i = .int .i64 k ∧ Dr w wr ∧ ∀ j, j < k → dg X j = dg Y j) (fun i _ => n - (intOf i).toNat)
    case atStart => exact ⟨0, Nat.zero_le _, rfl, Dr.refl _, fun j hj => absurd hj (by omega)⟩
    case round =>
      obtain ⟨k, hk, rfl, hdr, hd⟩ := hrel
      have HD : Hid (∀ j, j < k → dg X j = dg Y j) := hd
      clear hd
      by_cases hlt : k < n
      · have hTr := hS.dr hdr
        have hTr2 := hS2.dr hdr
        obtain ⟨b, off, rfl, hb', hcell⟩ := hTr.2 (by omega)
        obtain ⟨b2, off2, rfl, hb2', hcell2⟩ := hTr2.2 (by omega)
        have h1 := dg_lt X k
        have h2 := dg_lt Y k
        by_cases hx : dg X k = dg Y k
        · have hxb : (((dg X k : Nat) : Int) != ((dg Y k : Nat) : Int)) = false := by rw [hx]; simp
          have HX : Hid (dg X k = dg Y k) := hx
          clear hx
          go_wp2
          go_quiet (fail)
          go_wp2
          go_roundw
          case rel => exact ⟨k + 1, by omega, by go_num, hdr.drewN _, fun j hj => by
            by_cases e : j = k
            · rw [e]; exact HX.out
            · exact HD.out j (by omega)⟩
          case measure => simp [intOf]; omega
        · have hxb : (((dg X k : Nat) : Int) != ((dg Y k : Nat) : Int)) = true := by rw [bne_iff_ne]; omega
          have e : sameB n n X Y = false := by
            unfold sameB; rw [decide_eq_false]; rintro ⟨_, rfl⟩; exact hx rfl
          go_wp2
          go_quiet (fail)
          go_wp2
          go_ret
          exact ⟨by rw [e]; rfl, hdr.drewN _⟩
      · go_wp2
        go_ret
        have e : X = Y := dg_ext hS.1 hS2.1 fun i hi => HD.out i (by omega)
        exact ⟨by simp [sameB, e], hdr⟩
  · have hb : (((n : Nat) : Int) != ((m : Nat) : Int)) = true := by rw [bne_iff_ne]; omega
    have e : sameB n m X Y = false := by simp [sameB, hnm]
    go_enter Tryz.func31, Tryz.ntmps31
    go_wp2
    go_ret
    exact ⟨by rw [e]; rfl, Dr.refl _⟩
theorem rSame_one (q a1 : Option Addr) (V : Nat) (w : World) (hm : ln V ≤ 70368744177664) (hS : Seg w q V (ln V)) (h1 : Seg w a1 1 1) :
    Calls Tryz.prog 31 #[.slice q (ln V) (ln V), .slice a1 1 1] w fun e w' => e = .returned (.bool (decide (V = 1))) ∧ Below w.heap.size w w' := by
  refine (rSame_any q a1 (ln V) (ln V) V 1 1 1 w hm (by omega) hS h1).mono fun e w' ⟨he, hd⟩ => ⟨?_, hd.below _⟩
  rw [he]
  unfold sameB
  congr 2
  rw [decide_eq_decide]
  exact ⟨fun h => h.2, fun h => ⟨by rw [h]; exact ln_one, h⟩⟩
end Go.Proofs.YtamkdnogkeilnaaGreatDoor

namespace Go.Proofs.YtamkdnogkeilnaaGreatDoor
open Go.RowKit
set_option linter.unusedVariables false

set_option maxHeartbeats 4000000 in
set_option maxRecDepth 100000 in
theorem qText_one (s0 : Bool) (a0 : Option Addr) (n0 c0 X0 : Nat) (b0 : Option Addr) (m0 d0 Y0 : Nat) (Z : Int) (V : Nat) (u d : ByteArray) (w : World) (hc0 : n0 ≤ c0) (hm0 : n0 ≤ 134217728) (hS0 : Seg w a0 X0 n0) (hd0 : m0 ≤ d0) (hk0 : m0 ≤ 134217728) (hT0 : Seg w b0 Y0 m0) (hL : Low (rn s0 X0 Y0) (rd Y0 : Nat) Z V) (hu : isTz (ng Z) (am Z) u) (hd : isTx 10 V d) (h : Digs w) (h1 : V = 1) :
    Calls Tryz.prog 12 #[Value.agg #[Value.bool s0, Value.slice a0 n0 c0, Value.slice b0 m0 d0]] w fun e w' => e = .returned (.string (u)) ∧ Below w.heap.size w w' := by
  obtain ⟨lZ, lV⟩ := low_ln hS0.1 hT0.1 hL
  have zu := hu.size_le (ln_lt (am Z))
  have zd := hd.size_le (by omega) (ln_lt V)
  have x1 : ¬ (9223372036854775807 < u.size + 1) := by omega
  have x2 : u.size + 1 ≤ 9223372036854775807 := by omega
  have x3 : ¬ (9223372036854775807 < u.size + 1 + d.size) := by omega
  have x4 : u.size + 1 + d.size ≤ 9223372036854775807 := by omega
  have x5 : ¬ (9223372036854775807 < 1 + d.size) := by omega
  have x6 : 1 + d.size ≤ 9223372036854775807 := by omega
  have x7 : ¬ (9223372036854775807 < u.size + (1 + d.size)) := by omega
  have x8 : u.size + (1 + d.size) ≤ 9223372036854775807 := by omega
  have x9 : (⟨#[47]⟩ : ByteArray).size = 1 := rfl
  have G1 := hide' hL
  have I1 := hide' (fun w' p k => isOne_is p V w' (by omega) k)
  rw [decide_eq_true h1] at I1
  have T1 := hide' (fun w' a (k : Digs w') (g : Seg w' a (am Z) (ln (am Z))) => (wText_any (ng Z) a (ln (am Z)) (ln (am Z)) (am Z) w' k (Nat.le_refl _) (by omega) g).mono fun e w'' ⟨x, he, hx, hb⟩ => (⟨by rw [he, hx.uniq hu], hb⟩ : e = Ending.returned (Value.string u) ∧ Below w'.heap.size w' w''))
  have D1 := hide' (fun w' a (k : Digs w') (g : Seg w' a V (ln V)) => digits_is a (ln V) (ln V) V d w' k (Nat.le_refl _) (by omega) g hd)
  have HH := hide' h
  clear hL hu hd h h1 zu zd
  go_enter Tryz.func12, Tryz.ntmps12
  go_wp2_with fail
  obtain ⟨W, hW⟩ : ∃ W, (w.alloc (.cells #[.bool s0, .slice a0 n0 c0, .slice b0 m0 d0] 27)) = W := ⟨_, rfl⟩
  have q00 : W.cell? ⟨w.heap.size, 0, none⟩ = some (.bool s0) := by subst hW; go_simp
  have q01 : W.cell? ⟨w.heap.size, 1, none⟩ = some (.slice a0 n0 c0) := by subst hW; go_simp
  have q02 : W.cell? ⟨w.heap.size, 2, none⟩ = some (.slice b0 m0 d0) := by subst hW; go_simp
  have hB : Below w.heap.size w W := by subst hW; exact ((Below.refl _ _).alloc (by (try simp only [World.size_alloc]); omega) _)
  have hz : W.heap.size = w.heap.size + 1 := by subst hW; simp only [World.size_alloc]
  rw [hW]
  clear hW
  have hBW : Below W.heap.size W W := Below.refl _ _
  refine (qNorm_is s0 a0 n0 c0 X0 b0 m0 d0 Y0 Z V _ hc0 (by omega) (sb hS0 hB hBW) hd0 (by omega) (sb hT0 hB hBW) G1.out).mono ?_
  rintro e w41 ⟨p41, q41, rfl, hp41, hq41⟩
  have b41 := hp41.below
  replace hp41 := hp41.back hBW
  replace hq41 := hq41.back hBW
  replace hBW := hBW.trans (b41.mono hBW.size)
  replace q00 := below_cell b41 q00
  replace q01 := below_cell b41 q01
  replace q02 := below_cell b41 q02
  have hsz41 := hBW.size
  have l4100 : ((w41.alloc (.cells #[.bool (ng Z), .slice p41 (ln (am Z)) (ln (am Z)), .slice q41 (ln V) (ln V)] 27))).cell? ⟨w41.heap.size, 0, none⟩ = some (.bool (ng Z)) := by go_simp
  have l4101 : ((w41.alloc (.cells #[.bool (ng Z), .slice p41 (ln (am Z)) (ln (am Z)), .slice q41 (ln V) (ln V)] 27))).cell? ⟨w41.heap.size, 1, none⟩ = some (.slice p41 (ln (am Z)) (ln (am Z))) := by go_simp
  have l4102 : ((w41.alloc (.cells #[.bool (ng Z), .slice p41 (ln (am Z)) (ln (am Z)), .slice q41 (ln V) (ln V)] 27))).cell? ⟨w41.heap.size, 2, none⟩ = some (.slice q41 (ln V) (ln V)) := by go_simp
  have cb41 : Below w41.heap.size w41 ((w41.alloc (.cells #[.bool (ng Z), .slice p41 (ln (am Z)) (ln (am Z)), .slice q41 (ln V) (ln V)] 27))) := ((Below.refl _ _).alloc (by (try simp only [World.size_alloc]); omega) _)
  replace hBW := hBW.trans (cb41.mono hBW.size)
  replace q00 := below_cell cb41 q00
  replace q01 := below_cell cb41 q01
  replace q02 := below_cell cb41 q02
  replace hp41 := hp41.later cb41
  replace hq41 := hq41.later cb41
  have hL410 : Row ((w41.alloc (.cells #[.bool (ng Z), .slice p41 (ln (am Z)) (ln (am Z)), .slice q41 (ln V) (ln V)] 27))) (w41.heap.size) := by
    have := row_new (w41) #[.bool (ng Z), .slice p41 (ln (am Z)) (ln (am Z)), .slice q41 (ln V) (ln V)] 27
    try simp only [World.size_alloc] at this
    exact this
  go_wp2_with fail
  generalize (w41.alloc (.cells #[.bool (ng Z), .slice p41 (ln (am Z)) (ln (am Z)), .slice q41 (ln V) (ln V)] 27)) = w41x at q00 q01 q02 l4100 l4101 l4102 hL410 hp41 hq41 hBW cb41 ⊢
  clear cb41
  refine (I1.out _ _ hq41.seg).mono ?_
  rintro e w42 ⟨rfl, rfl⟩
  go_wp2_with fail
  refine (T1.out _ _ (HH.out.below (hB.trans (hBW.mono hB.size))) hp41.seg).mono ?_
  rintro e w43 ⟨rfl, b43⟩
  replace hBW := hBW.trans (b43.mono hBW.size)
  replace q00 := below_cell b43 q00
  replace q01 := below_cell b43 q01
  replace q02 := below_cell b43 q02
  replace l4100 := below_cell b43 l4100
  replace l4101 := below_cell b43 l4101
  replace l4102 := below_cell b43 l4102
  replace hL410 := below_row b43 hL410
  replace hp41 := hp41.later b43
  replace hq41 := hq41.later b43
  go_wp2
  go_ret
  exact ⟨rfl, (hB.trans (hBW.mono hB.size))⟩

set_option maxHeartbeats 4000000 in
set_option maxRecDepth 100000 in
theorem qText_more (s0 : Bool) (a0 : Option Addr) (n0 c0 X0 : Nat) (b0 : Option Addr) (m0 d0 Y0 : Nat) (Z : Int) (V : Nat) (u d : ByteArray) (w : World) (hc0 : n0 ≤ c0) (hm0 : n0 ≤ 134217728) (hS0 : Seg w a0 X0 n0) (hd0 : m0 ≤ d0) (hk0 : m0 ≤ 134217728) (hT0 : Seg w b0 Y0 m0) (hL : Low (rn s0 X0 Y0) (rd Y0 : Nat) Z V) (hu : isTz (ng Z) (am Z) u) (hd : isTx 10 V d) (h : Digs w) (h1 : V ≠ 1) :
    Calls Tryz.prog 12 #[Value.agg #[Value.bool s0, Value.slice a0 n0 c0, Value.slice b0 m0 d0]] w fun e w' => e = .returned (.string (u ++ (⟨#[47]⟩ : ByteArray) ++ d)) ∧ Below w.heap.size w w' := by
  obtain ⟨lZ, lV⟩ := low_ln hS0.1 hT0.1 hL
  have zu := hu.size_le (ln_lt (am Z))
  have zd := hd.size_le (by omega) (ln_lt V)
  have x1 : ¬ (9223372036854775807 < u.size + 1) := by omega
  have x2 : u.size + 1 ≤ 9223372036854775807 := by omega
  have x3 : ¬ (9223372036854775807 < u.size + 1 + d.size) := by omega
  have x4 : u.size + 1 + d.size ≤ 9223372036854775807 := by omega
  have x5 : ¬ (9223372036854775807 < 1 + d.size) := by omega
  have x6 : 1 + d.size ≤ 9223372036854775807 := by omega
  have x7 : ¬ (9223372036854775807 < u.size + (1 + d.size)) := by omega
  have x8 : u.size + (1 + d.size) ≤ 9223372036854775807 := by omega
  have x9 : (⟨#[47]⟩ : ByteArray).size = 1 := rfl
  have G1 := hide' hL
  have I1 := hide' (fun w' p k => isOne_is p V w' (by omega) k)
  rw [decide_eq_false h1] at I1
  have T1 := hide' (fun w' a (k : Digs w') (g : Seg w' a (am Z) (ln (am Z))) => (wText_any (ng Z) a (ln (am Z)) (ln (am Z)) (am Z) w' k (Nat.le_refl _) (by omega) g).mono fun e w'' ⟨x, he, hx, hb⟩ => (⟨by rw [he, hx.uniq hu], hb⟩ : e = Ending.returned (Value.string u) ∧ Below w'.heap.size w' w''))
  have D1 := hide' (fun w' a (k : Digs w') (g : Seg w' a V (ln V)) => digits_is a (ln V) (ln V) V d w' k (Nat.le_refl _) (by omega) g hd)
  have HH := hide' h
  clear hL hu hd h h1 zu zd
  go_enter Tryz.func12, Tryz.ntmps12
  go_wp2_with fail
  obtain ⟨W, hW⟩ : ∃ W, (w.alloc (.cells #[.bool s0, .slice a0 n0 c0, .slice b0 m0 d0] 27)) = W := ⟨_, rfl⟩
  have q00 : W.cell? ⟨w.heap.size, 0, none⟩ = some (.bool s0) := by subst hW; go_simp
  have q01 : W.cell? ⟨w.heap.size, 1, none⟩ = some (.slice a0 n0 c0) := by subst hW; go_simp
  have q02 : W.cell? ⟨w.heap.size, 2, none⟩ = some (.slice b0 m0 d0) := by subst hW; go_simp
  have hB : Below w.heap.size w W := by subst hW; exact ((Below.refl _ _).alloc (by (try simp only [World.size_alloc]); omega) _)
  have hz : W.heap.size = w.heap.size + 1 := by subst hW; simp only [World.size_alloc]
  rw [hW]
  clear hW
  have hBW : Below W.heap.size W W := Below.refl _ _
  refine (qNorm_is s0 a0 n0 c0 X0 b0 m0 d0 Y0 Z V _ hc0 (by omega) (sb hS0 hB hBW) hd0 (by omega) (sb hT0 hB hBW) G1.out).mono ?_
  rintro e w41 ⟨p41, q41, rfl, hp41, hq41⟩
  have b41 := hp41.below
  replace hp41 := hp41.back hBW
  replace hq41 := hq41.back hBW
  replace hBW := hBW.trans (b41.mono hBW.size)
  replace q00 := below_cell b41 q00
  replace q01 := below_cell b41 q01
  replace q02 := below_cell b41 q02
  have hsz41 := hBW.size
  have l4100 : ((w41.alloc (.cells #[.bool (ng Z), .slice p41 (ln (am Z)) (ln (am Z)), .slice q41 (ln V) (ln V)] 27))).cell? ⟨w41.heap.size, 0, none⟩ = some (.bool (ng Z)) := by go_simp
  have l4101 : ((w41.alloc (.cells #[.bool (ng Z), .slice p41 (ln (am Z)) (ln (am Z)), .slice q41 (ln V) (ln V)] 27))).cell? ⟨w41.heap.size, 1, none⟩ = some (.slice p41 (ln (am Z)) (ln (am Z))) := by go_simp
  have l4102 : ((w41.alloc (.cells #[.bool (ng Z), .slice p41 (ln (am Z)) (ln (am Z)), .slice q41 (ln V) (ln V)] 27))).cell? ⟨w41.heap.size, 2, none⟩ = some (.slice q41 (ln V) (ln V)) := by go_simp
  have cb41 : Below w41.heap.size w41 ((w41.alloc (.cells #[.bool (ng Z), .slice p41 (ln (am Z)) (ln (am Z)), .slice q41 (ln V) (ln V)] 27))) := ((Below.refl _ _).alloc (by (try simp only [World.size_alloc]); omega) _)
  replace hBW := hBW.trans (cb41.mono hBW.size)
  replace q00 := below_cell cb41 q00
  replace q01 := below_cell cb41 q01
  replace q02 := below_cell cb41 q02
  replace hp41 := hp41.later cb41
  replace hq41 := hq41.later cb41
  have hL410 : Row ((w41.alloc (.cells #[.bool (ng Z), .slice p41 (ln (am Z)) (ln (am Z)), .slice q41 (ln V) (ln V)] 27))) (w41.heap.size) := by
    have := row_new (w41) #[.bool (ng Z), .slice p41 (ln (am Z)) (ln (am Z)), .slice q41 (ln V) (ln V)] 27
    try simp only [World.size_alloc] at this
    exact this
  go_wp2_with fail
  generalize (w41.alloc (.cells #[.bool (ng Z), .slice p41 (ln (am Z)) (ln (am Z)), .slice q41 (ln V) (ln V)] 27)) = w41x at q00 q01 q02 l4100 l4101 l4102 hL410 hp41 hq41 hBW cb41 ⊢
  clear cb41
  refine (I1.out _ _ hq41.seg).mono ?_
  rintro e w42 ⟨rfl, rfl⟩
  go_wp2_with fail
  replace hBW := hBW.drew
  replace hp41 := hp41.drew
  replace hq41 := hq41.drew
  first
    | go_region_held3 (fun w' => w'.cell? ⟨w.heap.size, 0, none⟩ = some (.bool s0) ∧ w'.cell? ⟨w.heap.size, 1, none⟩ = some (.slice a0 n0 c0) ∧ w'.cell? ⟨w.heap.size, 2, none⟩ = some (.slice b0 m0 d0) ∧ w'.cell? ⟨w41.heap.size, 0, none⟩ = some (.bool (ng Z)) ∧ w'.cell? ⟨w41.heap.size, 1, none⟩ = some (.slice p41 (ln (am Z)) (ln (am Z))) ∧ w'.cell? ⟨w41.heap.size, 2, none⟩ = some (.slice q41 (ln V) (ln V)) ∧ Below w.heap.size w w')
        (first | exact ⟨q00, q01, q02, l4100, l4101, l4102, hB.trans (hBW.mono hB.size)⟩ | exact kp6 b43 (by assumption) | exact kp6 b44 (by assumption) | exact kp6 (below_alloc _) (by assumption))
        (first
          | (go_at_call 25; refine (T1.out _ _ (HH.out.below (hB.trans (hBW.mono hB.size))) hp41.seg).mono ?_; rintro e w43 ⟨rfl, b43⟩; replace hBW := hBW.trans (b43.mono hBW.size); replace q00 := below_cell b43 q00; replace q01 := below_cell b43 q01; replace q02 := below_cell b43 q02; replace l4100 := below_cell b43 l4100; replace l4101 := below_cell b43 l4101; replace l4102 := below_cell b43 l4102; replace hL410 := below_row b43 hL410; replace hp41 := hp41.later b43; replace hq41 := hq41.later b43)
          | (go_at_call 26; refine (D1.out _ _ (HH.out.below (hB.trans (hBW.mono hB.size))) hq41.seg).mono ?_; rintro e w44 ⟨rfl, b44⟩; replace hBW := hBW.trans (b44.mono hBW.size); replace q00 := below_cell b44 q00; replace q01 := below_cell b44 q01; replace q02 := below_cell b44 q02; replace l4100 := below_cell b44 l4100; replace l4101 := below_cell b44 l4101; replace l4102 := below_cell b44 l4102; replace hL410 := below_row b44 hL410; replace hp41 := hp41.later b44; replace hq41 := hq41.later b44))
    | fail
  go_wp2
  go_ret
  exact ⟨rfl, (hB.trans (hBW.mono hB.size))⟩

set_option maxHeartbeats 4000000 in
set_option maxRecDepth 100000 in
theorem vqText_one (s0 : Bool) (a0 : Option Addr) (n0 c0 X0 : Nat) (b0 : Option Addr) (m0 d0 Y0 : Nat) (Z : Int) (V : Nat) (u d : ByteArray) (w : World) (hc0 : n0 ≤ c0) (hm0 : n0 ≤ 134217728) (hS0 : Seg w a0 X0 n0) (hd0 : m0 ≤ d0) (hk0 : m0 ≤ 134217728) (hT0 : Seg w b0 Y0 m0) (hL : Low (rn s0 X0 Y0) (rd Y0 : Nat) Z V) (hu : isTz (ng Z) (am Z) u) (hd : isTx 10 V d) (h1 : V = 1) :
    Calls Tryz.prog 15 #[Value.agg #[Value.bool s0, Value.slice a0 n0 c0, Value.slice b0 m0 d0]] w fun e w' => e = .returned (.string (u)) ∧ Below w.heap.size w w' := by
  obtain ⟨lZ, lV⟩ := low_ln hS0.1 hT0.1 hL
  have zu := hu.size_le (ln_lt (am Z))
  have zd := hd.size_le (by omega) (ln_lt V)
  have x1 : ¬ (9223372036854775807 < u.size + 1) := by omega
  have x2 : u.size + 1 ≤ 9223372036854775807 := by omega
  have x3 : ¬ (9223372036854775807 < u.size + 1 + d.size) := by omega
  have x4 : u.size + 1 + d.size ≤ 9223372036854775807 := by omega
  have x5 : ¬ (9223372036854775807 < 1 + d.size) := by omega
  have x6 : 1 + d.size ≤ 9223372036854775807 := by omega
  have x7 : ¬ (9223372036854775807 < u.size + (1 + d.size)) := by omega
  have x8 : u.size + (1 + d.size) ≤ 9223372036854775807 := by omega
  have x9 : (⟨#[47]⟩ : ByteArray).size = 1 := rfl
  have G1 := hide' hL
  have I1 := hide' (fun w' p a1 k g => rSame_one p a1 V w' (by omega) k g)
  rw [decide_eq_true h1] at I1
  have T1 := hide' (fun w' a (g : Seg w' a (am Z) (ln (am Z))) => (vText_any (ng Z) a (ln (am Z)) (ln (am Z)) (am Z) w' (by omega) g).mono fun e w'' ⟨x, he, hx, hb⟩ => (⟨by rw [he, hx.uniq hu], hb⟩ : e = Ending.returned (Value.string u) ∧ Below w'.heap.size w' w''))
  have D1 := hide' (fun w' a (g : Seg w' a V (ln V)) => vdigits_is a (ln V) (ln V) V d w' (by omega) g hd)
  clear hL hu hd h1 zu zd
  go_enter Tryz.func15, Tryz.ntmps15
  go_wp2_with fail
  obtain ⟨W, hW⟩ : ∃ W, (w.alloc (.cells #[.bool s0, .slice a0 n0 c0, .slice b0 m0 d0] 27)) = W := ⟨_, rfl⟩
  have q00 : W.cell? ⟨w.heap.size, 0, none⟩ = some (.bool s0) := by subst hW; go_simp
  have q01 : W.cell? ⟨w.heap.size, 1, none⟩ = some (.slice a0 n0 c0) := by subst hW; go_simp
  have q02 : W.cell? ⟨w.heap.size, 2, none⟩ = some (.slice b0 m0 d0) := by subst hW; go_simp
  have hB : Below w.heap.size w W := by subst hW; exact ((Below.refl _ _).alloc (by (try simp only [World.size_alloc]); omega) _)
  have hP0 : Row W (w.heap.size) := by
    have := row_new (w) #[.bool s0, .slice a0 n0 c0, .slice b0 m0 d0] 27
    try simp only [World.size_alloc] at this
    subst hW; exact this
  have hz : W.heap.size = w.heap.size + 1 := by subst hW; simp only [World.size_alloc]
  rw [hW]
  clear hW
  have hBW : Below W.heap.size W W := Below.refl _ _
  refine (vqNorm_is s0 a0 n0 c0 X0 b0 m0 d0 Y0 V Z _ (by omega) (sb hS0 hB hBW) (by omega) (sb hT0 hB hBW) G1.out).mono ?_
  rintro e w41 ⟨p41, q41, rfl, hp41, hq41⟩
  have b41 := hp41.below
  replace hp41 := hp41.back hBW
  replace hq41 := hq41.back hBW
  replace hBW := hBW.trans (b41.mono hBW.size)
  replace q00 := below_cell b41 q00
  replace q01 := below_cell b41 q01
  replace q02 := below_cell b41 q02
  replace hP0 := below_row b41 hP0
  have hsB := hBW.size
  have hM : Mid w.heap.size W.heap.size w41 (((w41.setCell ⟨w.heap.size, 0, none⟩ (.bool (ng Z))).setCell ⟨w.heap.size, 1, none⟩ (.slice p41 (ln (am Z)) (ln (am Z)))).setCell ⟨w.heap.size, 2, none⟩ (.slice q41 (ln V) (ln V))) := ((((Mid.refl _ _ _).set _ _ (by omega) (by omega) _).set _ _ (by omega) (by omega) _).set _ _ (by omega) (by omega) _)
  have eM := set3_same (w := w41) (c := w.heap.size) (u0 := .bool (ng Z)) (u1 := .slice p41 (ln (am Z)) (ln (am Z))) (u2 := .slice q41 (ln V) (ln V)) q00 q01 q02
  have q00_ : ((((w41.setCell ⟨w.heap.size, 0, none⟩ (.bool (ng Z))).setCell ⟨w.heap.size, 1, none⟩ (.slice p41 (ln (am Z)) (ln (am Z)))).setCell ⟨w.heap.size, 2, none⟩ (.slice q41 (ln V) (ln V)))).cell? ⟨w.heap.size, 0, none⟩ = some (.bool (ng Z)) := eM.1
  have q01_ : ((((w41.setCell ⟨w.heap.size, 0, none⟩ (.bool (ng Z))).setCell ⟨w.heap.size, 1, none⟩ (.slice p41 (ln (am Z)) (ln (am Z)))).setCell ⟨w.heap.size, 2, none⟩ (.slice q41 (ln V) (ln V)))).cell? ⟨w.heap.size, 1, none⟩ = some (.slice p41 (ln (am Z)) (ln (am Z))) := eM.2.1
  have q02_ : ((((w41.setCell ⟨w.heap.size, 0, none⟩ (.bool (ng Z))).setCell ⟨w.heap.size, 1, none⟩ (.slice p41 (ln (am Z)) (ln (am Z)))).setCell ⟨w.heap.size, 2, none⟩ (.slice q41 (ln V) (ln V)))).cell? ⟨w.heap.size, 2, none⟩ = some (.slice q41 (ln V) (ln V)) := eM.2.2
  have hP0_ := (((hP0.setCell ⟨w.heap.size, 0, none⟩ (.bool (ng Z))).setCell ⟨w.heap.size, 1, none⟩ (.slice p41 (ln (am Z)) (ln (am Z)))).setCell ⟨w.heap.size, 2, none⟩ (.slice q41 (ln V) (ln V)))
  have fzhP0 := fun o => hP0.frozen o
  have khp41 := (hp41.mid hB hM).seg
  clear hp41
  have khq41 := (hq41.mid hB hM).seg
  clear hq41
  have hBn := (hB.trans (hBW.mono hB.size)).trans (hM.below (Nat.le_trans hB.size hBW.size))
  have hsM := hM.size
  clear hM eM
  go_wp2_with fail
  clear q00 q01 q02 hP0 fzhP0 hB hBW
  generalize (((w41.setCell ⟨w.heap.size, 0, none⟩ (.bool (ng Z))).setCell ⟨w.heap.size, 1, none⟩ (.slice p41 (ln (am Z)) (ln (am Z)))).setCell ⟨w.heap.size, 2, none⟩ (.slice q41 (ln V) (ln V))) = w41y at q00_ q01_ q02_ hP0_ khp41 khq41 hBn hsM ⊢
  have q00 := q00_
  clear q00_
  have q01 := q01_
  clear q01_
  have q02 := q02_
  clear q02_
  have hP0 := hP0_
  clear hP0_
  have hB := hBn
  clear hBn
  have hBW : Below w41y.heap.size w41y w41y := Below.refl _ _
  refine (T1.out _ _ khp41).mono ?_
  rintro e w42 ⟨rfl, b42⟩
  replace hBW := hBW.trans (b42.mono hBW.size)
  replace q00 := below_cell b42 q00
  replace q01 := below_cell b42 q01
  replace q02 := below_cell b42 q02
  replace hP0 := below_row b42 hP0
  replace khp41 := khp41.later b42
  replace khq41 := khq41.later b42
  go_wp2_with fail
  have nb := single_new w42 1 47 1 (by omega) rfl
  refine (I1.out _ _ _ (khq41.later nb.below) nb.seg).mono ?_
  rintro e w43 ⟨rfl, b43⟩
  replace b43 := nb.below.trans (b43.mono nb.below.size)
  clear nb
  replace hBW := hBW.trans (b43.mono hBW.size)
  replace q00 := below_cell b43 q00
  replace q01 := below_cell b43 q01
  replace q02 := below_cell b43 q02
  replace hP0 := below_row b43 hP0
  replace khp41 := khp41.later b43
  replace khq41 := khq41.later b43
  go_wp2
  go_ret
  exact ⟨rfl, (hB.trans (hBW.mono hB.size))⟩

set_option maxHeartbeats 4000000 in
set_option maxRecDepth 100000 in
theorem vqText_more (s0 : Bool) (a0 : Option Addr) (n0 c0 X0 : Nat) (b0 : Option Addr) (m0 d0 Y0 : Nat) (Z : Int) (V : Nat) (u d : ByteArray) (w : World) (hc0 : n0 ≤ c0) (hm0 : n0 ≤ 134217728) (hS0 : Seg w a0 X0 n0) (hd0 : m0 ≤ d0) (hk0 : m0 ≤ 134217728) (hT0 : Seg w b0 Y0 m0) (hL : Low (rn s0 X0 Y0) (rd Y0 : Nat) Z V) (hu : isTz (ng Z) (am Z) u) (hd : isTx 10 V d) (h1 : V ≠ 1) :
    Calls Tryz.prog 15 #[Value.agg #[Value.bool s0, Value.slice a0 n0 c0, Value.slice b0 m0 d0]] w fun e w' => e = .returned (.string (u ++ ((⟨#[47]⟩ : ByteArray) ++ d))) ∧ Below w.heap.size w w' := by
  obtain ⟨lZ, lV⟩ := low_ln hS0.1 hT0.1 hL
  have zu := hu.size_le (ln_lt (am Z))
  have zd := hd.size_le (by omega) (ln_lt V)
  have x1 : ¬ (9223372036854775807 < u.size + 1) := by omega
  have x2 : u.size + 1 ≤ 9223372036854775807 := by omega
  have x3 : ¬ (9223372036854775807 < u.size + 1 + d.size) := by omega
  have x4 : u.size + 1 + d.size ≤ 9223372036854775807 := by omega
  have x5 : ¬ (9223372036854775807 < 1 + d.size) := by omega
  have x6 : 1 + d.size ≤ 9223372036854775807 := by omega
  have x7 : ¬ (9223372036854775807 < u.size + (1 + d.size)) := by omega
  have x8 : u.size + (1 + d.size) ≤ 9223372036854775807 := by omega
  have x9 : (⟨#[47]⟩ : ByteArray).size = 1 := rfl
  have G1 := hide' hL
  have I1 := hide' (fun w' p a1 k g => rSame_one p a1 V w' (by omega) k g)
  rw [decide_eq_false h1] at I1
  have T1 := hide' (fun w' a (g : Seg w' a (am Z) (ln (am Z))) => (vText_any (ng Z) a (ln (am Z)) (ln (am Z)) (am Z) w' (by omega) g).mono fun e w'' ⟨x, he, hx, hb⟩ => (⟨by rw [he, hx.uniq hu], hb⟩ : e = Ending.returned (Value.string u) ∧ Below w'.heap.size w' w''))
  have D1 := hide' (fun w' a (g : Seg w' a V (ln V)) => vdigits_is a (ln V) (ln V) V d w' (by omega) g hd)
  clear hL hu hd h1 zu zd
  go_enter Tryz.func15, Tryz.ntmps15
  go_wp2_with fail
  obtain ⟨W, hW⟩ : ∃ W, (w.alloc (.cells #[.bool s0, .slice a0 n0 c0, .slice b0 m0 d0] 27)) = W := ⟨_, rfl⟩
  have q00 : W.cell? ⟨w.heap.size, 0, none⟩ = some (.bool s0) := by subst hW; go_simp
  have q01 : W.cell? ⟨w.heap.size, 1, none⟩ = some (.slice a0 n0 c0) := by subst hW; go_simp
  have q02 : W.cell? ⟨w.heap.size, 2, none⟩ = some (.slice b0 m0 d0) := by subst hW; go_simp
  have hB : Below w.heap.size w W := by subst hW; exact ((Below.refl _ _).alloc (by (try simp only [World.size_alloc]); omega) _)
  have hP0 : Row W (w.heap.size) := by
    have := row_new (w) #[.bool s0, .slice a0 n0 c0, .slice b0 m0 d0] 27
    try simp only [World.size_alloc] at this
    subst hW; exact this
  have hz : W.heap.size = w.heap.size + 1 := by subst hW; simp only [World.size_alloc]
  rw [hW]
  clear hW
  have hBW : Below W.heap.size W W := Below.refl _ _
  refine (vqNorm_is s0 a0 n0 c0 X0 b0 m0 d0 Y0 V Z _ (by omega) (sb hS0 hB hBW) (by omega) (sb hT0 hB hBW) G1.out).mono ?_
  rintro e w41 ⟨p41, q41, rfl, hp41, hq41⟩
  have b41 := hp41.below
  replace hp41 := hp41.back hBW
  replace hq41 := hq41.back hBW
  replace hBW := hBW.trans (b41.mono hBW.size)
  replace q00 := below_cell b41 q00
  replace q01 := below_cell b41 q01
  replace q02 := below_cell b41 q02
  replace hP0 := below_row b41 hP0
  have hsB := hBW.size
  have hM : Mid w.heap.size W.heap.size w41 (((w41.setCell ⟨w.heap.size, 0, none⟩ (.bool (ng Z))).setCell ⟨w.heap.size, 1, none⟩ (.slice p41 (ln (am Z)) (ln (am Z)))).setCell ⟨w.heap.size, 2, none⟩ (.slice q41 (ln V) (ln V))) := ((((Mid.refl _ _ _).set _ _ (by omega) (by omega) _).set _ _ (by omega) (by omega) _).set _ _ (by omega) (by omega) _)
  have eM := set3_same (w := w41) (c := w.heap.size) (u0 := .bool (ng Z)) (u1 := .slice p41 (ln (am Z)) (ln (am Z))) (u2 := .slice q41 (ln V) (ln V)) q00 q01 q02
  have q00_ : ((((w41.setCell ⟨w.heap.size, 0, none⟩ (.bool (ng Z))).setCell ⟨w.heap.size, 1, none⟩ (.slice p41 (ln (am Z)) (ln (am Z)))).setCell ⟨w.heap.size, 2, none⟩ (.slice q41 (ln V) (ln V)))).cell? ⟨w.heap.size, 0, none⟩ = some (.bool (ng Z)) := eM.1
  have q01_ : ((((w41.setCell ⟨w.heap.size, 0, none⟩ (.bool (ng Z))).setCell ⟨w.heap.size, 1, none⟩ (.slice p41 (ln (am Z)) (ln (am Z)))).setCell ⟨w.heap.size, 2, none⟩ (.slice q41 (ln V) (ln V)))).cell? ⟨w.heap.size, 1, none⟩ = some (.slice p41 (ln (am Z)) (ln (am Z))) := eM.2.1
  have q02_ : ((((w41.setCell ⟨w.heap.size, 0, none⟩ (.bool (ng Z))).setCell ⟨w.heap.size, 1, none⟩ (.slice p41 (ln (am Z)) (ln (am Z)))).setCell ⟨w.heap.size, 2, none⟩ (.slice q41 (ln V) (ln V)))).cell? ⟨w.heap.size, 2, none⟩ = some (.slice q41 (ln V) (ln V)) := eM.2.2
  have hP0_ := (((hP0.setCell ⟨w.heap.size, 0, none⟩ (.bool (ng Z))).setCell ⟨w.heap.size, 1, none⟩ (.slice p41 (ln (am Z)) (ln (am Z)))).setCell ⟨w.heap.size, 2, none⟩ (.slice q41 (ln V) (ln V)))
  have fzhP0 := fun o => hP0.frozen o
  have khp41 := (hp41.mid hB hM).seg
  clear hp41
  have khq41 := (hq41.mid hB hM).seg
  clear hq41
  have hBn := (hB.trans (hBW.mono hB.size)).trans (hM.below (Nat.le_trans hB.size hBW.size))
  have hsM := hM.size
  clear hM eM
  go_wp2_with fail
  clear q00 q01 q02 hP0 fzhP0 hB hBW
  generalize (((w41.setCell ⟨w.heap.size, 0, none⟩ (.bool (ng Z))).setCell ⟨w.heap.size, 1, none⟩ (.slice p41 (ln (am Z)) (ln (am Z)))).setCell ⟨w.heap.size, 2, none⟩ (.slice q41 (ln V) (ln V))) = w41y at q00_ q01_ q02_ hP0_ khp41 khq41 hBn hsM ⊢
  have q00 := q00_
  clear q00_
  have q01 := q01_
  clear q01_
  have q02 := q02_
  clear q02_
  have hP0 := hP0_
  clear hP0_
  have hB := hBn
  clear hBn
  have hBW : Below w41y.heap.size w41y w41y := Below.refl _ _
  refine (T1.out _ _ khp41).mono ?_
  rintro e w42 ⟨rfl, b42⟩
  replace hBW := hBW.trans (b42.mono hBW.size)
  replace q00 := below_cell b42 q00
  replace q01 := below_cell b42 q01
  replace q02 := below_cell b42 q02
  replace hP0 := below_row b42 hP0
  replace khp41 := khp41.later b42
  replace khq41 := khq41.later b42
  go_wp2_with fail
  have nb := single_new w42 1 47 1 (by omega) rfl
  refine (I1.out _ _ _ (khq41.later nb.below) nb.seg).mono ?_
  rintro e w43 ⟨rfl, b43⟩
  replace b43 := nb.below.trans (b43.mono nb.below.size)
  clear nb
  replace hBW := hBW.trans (b43.mono hBW.size)
  replace q00 := below_cell b43 q00
  replace q01 := below_cell b43 q01
  replace q02 := below_cell b43 q02
  replace hP0 := below_row b43 hP0
  replace khp41 := khp41.later b43
  replace khq41 := khq41.later b43
  go_wp2_with fail
  refine (D1.out _ _ khq41).mono ?_
  rintro e w44 ⟨rfl, b44⟩
  replace hBW := hBW.trans (b44.mono hBW.size)
  replace q00 := below_cell b44 q00
  replace q01 := below_cell b44 q01
  replace q02 := below_cell b44 q02
  replace hP0 := below_row b44 hP0
  replace khp41 := khp41.later b44
  replace khq41 := khq41.later b44
  go_wp2
  go_ret
  exact ⟨rfl, (hB.trans (hBW.mono hB.size))⟩

end Go.Proofs.YtamkdnogkeilnaaGreatDoor
