/-
  NatOwn: what each function tells of two numbers: fourteen lists, each in a block of its own.
-/
import Derived.Test.YtechjealbccpbaaOW5
import Derived.Test.YtechjealbccpbaaWR2
import Derived.Test.YtechjealbccpbaaW12
import Derived.Test.YtechjealbccpbaaW17
import Derived.Test.YtechjealbccpbaaW18
namespace Go.Proofs.Ytechjealbccpbaa
open Go.RowKit
set_option linter.unusedVariables false
set_option linter.unusedSimpArgs false
/-- a list in a block that was made between two worlds -/
def Iv (w : World) (lo hi : Nat) (a : Option Addr) (Z : Nat) : Prop := Seg w a Z (ln Z) ∧ (0 < ln Z → ∃ b off, a = some ⟨b, off, none⟩ ∧ lo ≤ b ∧ b < hi ∧ Row w b)
theorem Iv.of_new {w w' : World} {a : Option Addr} {Z : Nat} (h : New w w' a Z (ln Z)) : Iv w' w.heap.size w'.heap.size a Z := ⟨h.seg, fun hn => by
  obtain ⟨b, off, e, h1, h2⟩ := h.fresh hn
  exact ⟨b, off, e, h1, h2.lt, h2⟩⟩
theorem Iv.later {w w' : World} {lo hi Z : Nat} {a : Option Addr} (h : Iv w lo hi a Z) (hb : Below w.heap.size w w') : Iv w' lo hi a Z := ⟨h.1.below hb (Nat.le_refl _), fun hn => by
  obtain ⟨b, off, e, h1, h2, h3⟩ := h.2 hn
  exact ⟨b, off, e, h1, h2, h3.below hb h3.lt⟩⟩
theorem steps_mono {S : Nat → Nat} {N : Nat} (h : ∀ p, p < N → S p ≤ S (p + 1)) : ∀ d p, p + d ≤ N → S p ≤ S (p + d)
  | 0, p, _ => Nat.le_refl _
  | d + 1, p, hp => Nat.le_trans (steps_mono h d p (by omega)) (h (p + d) (by omega))
theorem ls_of {w : World} {lo bl L N : Nat} {A : Nat → Option Addr} {Z S P : Nat → Nat} (hrow : ∀ i, i < L → w.cell? ⟨bl, 0 + i, none⟩ = some (.slice (A i) (ln (Z i)) (ln (Z i)))) (hs : ∀ p, p < N → S p ≤ S (p + 1)) (hP : ∀ i, i < L → P i < N)
    (hv : ∀ i, i < L → Iv w (S (P i)) (S (P i + 1)) (A i) (Z i)) (hlo : lo ≤ S 0) (hbl : S N ≤ bl) (hap : ∀ i k, i < L → k < L → i ≠ k → P i = P k → Ap (A i) (ln (Z i)) (A k) (ln (Z k))) :
    Ls w lo bl 0 L A (fun i => ln (Z i)) (fun i j => ((dg (Z i) j : Nat) : Int)) := by
  have mono : ∀ p q, p ≤ q → q ≤ N → S p ≤ S q := fun p q h1 h2 => by have := steps_mono hs (q - p) p (by omega); rwa [show p + (q - p) = q by omega] at this
  refine ⟨hrow, fun i hi hn => ?_, fun i k hi hk hne hni hnk b off c off' e1 e2 => ?_⟩
  · obtain ⟨b, off, e, h1, h2, h3⟩ := (hv i hi).2 hn
    have m1 := mono 0 (P i) (Nat.zero_le _) (by have := hP i hi; omega)
    have m2 := mono (P i + 1) N (hP i hi) (Nat.le_refl _)
    refine ⟨b, off, e, by omega, by omega, h3, fun j hj => ?_⟩
    obtain ⟨b', off', e', _, hc⟩ := (hv i hi).1.2 hn
    rw [e] at e'
    obtain ⟨rfl, rfl⟩ : b = b' ∧ off = off' := by simpa using e'
    exact hc j hj
  · by_cases hp : P i = P k
    · exact hap i k hi hk hne hp hni hnk b off c off' e1 e2
    · obtain ⟨b1, o1, f1, h1, h2, _⟩ := (hv i hi).2 hni
      obtain ⟨c1, o2, f2, k1, k2, _⟩ := (hv k hk).2 hnk
      rw [e1] at f1
      rw [e2] at f2
      obtain ⟨rfl, _⟩ : b = b1 ∧ off = o1 := by simpa using f1
      obtain ⟨rfl, _⟩ : c = c1 ∧ off' = o2 := by simpa using f2
      have p1 := hP i hi
      have p2 := hP k hk
      rcases Nat.lt_or_gt_of_ne hp with h | h
      · have := mono (P i + 1) (P k) h (by omega); omega
      · have := mono (P k + 1) (P i) h (by omega); omega
/-- what is left of X by Y; 0, if Y is 0 -/
def rmd (X Y : Nat) : Nat := if Y = 0 then 0 else X % Y
/-- the fourteen numbers -/
structure ZS (X Y k : Nat) (Z : Nat → Nat) : Prop where
  z0 : X = Z 0
  z1 : X + Y = Z 1
  z2 : Y + X = Z 2
  z3 : X - Y = Z 3
  z4 : X * Y = Z 4
  z5 : X / Y = Z 5
  z6 : rmd X Y = Z 6
  z7 : Nat.gcd X Y = Z 7
  z8 : Nat.gcd Y X = Z 8
  z9 : X * 2 ^ k = Z 9
  z10 : X / 2 ^ k = Z 10
  z11 : X ^ 1 = Z 11
  z12 : X ^ 2 = Z 12
  z13 : isq X (Z 13)
/-- what they lie in -/
def RowZ (w : World) (bl : Nat) (A : Nat → Option Addr) (Z : Nat → Nat) : Prop := ∀ i, i < 14 → w.cell? ⟨bl, i, none⟩ = some (.slice (A i) (ln (Z i)) (ln (Z i))) ∧ Seg w (A i) (Z i) (ln (Z i))
theorem RowZ.later {w w' : World} {bl : Nat} {A : Nat → Option Addr} {Z : Nat → Nat} (h : RowZ w bl A Z) (hb : Below w.heap.size w w') : RowZ w' bl A Z := fun i hi => ⟨below_cell hb (h i hi).1, (h i hi).2.below hb (Nat.le_refl _)⟩
theorem uSub (a : Option Addr) (n c X : Nat) (b : Option Addr) (m d Y : Nat) (w : World) (hc : n ≤ c) (hn : n ≤ 1048576) (hS : Seg w a X n) (hd : m ≤ d) (hm : m ≤ 1048576) (hT : Seg w b Y m) : Calls Try.prog 18 #[.slice a n c, .slice b m d] w fun e w' => ∃ p x, e = .returned (.tuple #[.slice p (ln (X - Y)) (ln (X - Y)), .int .i64 x]) ∧ New w w' p (X - Y) (ln (X - Y)) := by
  by_cases h : Y ≤ X
  · refine (Sub_any a b n c X m d Y w hc (by omega) hS hd (by omega) hT h).mono ?_
    rintro e w1 ⟨p, rfl, n1⟩
    exact ⟨p, 0, rfl, n1⟩
  · refine (Sub_below a b n c X m d Y w hc (by omega) hS hd (by omega) hT (by omega)).mono ?_
    rintro e w1 ⟨rfl, dr⟩
    rw [show X - Y = 0 by omega, ln_zero]
    exact ⟨none, 10, rfl, New.nil _ (dr.below _)⟩
theorem uUp (a : Option Addr) (n c X : Nat) (b : Option Addr) (m d Y : Nat) (w : World) (hc : n ≤ c) (hn : n ≤ 1048576) (hS : Seg w a X n) (hd : m ≤ d) (hm : m ≤ 1048576) (hT : Seg w b Y m) (k : Nat) (hk : k ≤ 255) : Calls Try.prog 20 #[.slice a n c, .int .i64 (k : Nat)] w fun e w' => ∃ p x, e = .returned (.tuple #[.slice p (ln (X * 2 ^ k)) (ln (X * 2 ^ k)), .int .i64 x]) ∧ New w w' p (X * 2 ^ k) (ln (X * 2 ^ k)) := by
  refine (Shift_up a n c X k w hc (by omega) (by omega) hS).mono ?_
  rintro e w1 ⟨p, rfl, n1⟩
  exact ⟨p, 0, rfl, n1⟩
theorem uDn (a : Option Addr) (n c X : Nat) (b : Option Addr) (m d Y : Nat) (w : World) (hc : n ≤ c) (hn : n ≤ 1048576) (hS : Seg w a X n) (hd : m ≤ d) (hm : m ≤ 1048576) (hT : Seg w b Y m) (k : Nat) (hk : k ≤ 255) : Calls Try.prog 20 #[.slice a n c, .int .i64 (-(k : Int))] w fun e w' => ∃ p x, e = .returned (.tuple #[.slice p (ln (X / 2 ^ k)) (ln (X / 2 ^ k)), .int .i64 x]) ∧ New w w' p (X / 2 ^ k) (ln (X / 2 ^ k)) := by
  by_cases h0 : k = 0
  · subst h0
    have h := uUp a n c X b m d Y w hc hn hS hd hm hT 0 (by omega)
    rw [Nat.pow_zero, Nat.mul_one] at h
    rw [Nat.pow_zero, Nat.div_one]
    exact h
  · refine (Shift_down a n c X k w hc (by omega) (by omega) (by omega) hS).mono ?_
    rintro e w1 ⟨p, rfl, n1⟩
    exact ⟨p, 0, rfl, n1⟩
theorem uDiv (a : Option Addr) (n c X : Nat) (b : Option Addr) (m d Y : Nat) (w : World) (hc : n ≤ c) (hn : n ≤ 1048576) (hS : Seg w a X n) (hd : m ≤ d) (hm : m ≤ 1048576) (hT : Seg w b Y m) : Calls Try.prog 19 #[.slice a n c, .slice b m d] w fun e w' => ∃ p q x, e = .returned (.tuple #[.slice p (ln (X / Y)) (ln (X / Y)), .slice q (ln (rmd X Y)) (ln (rmd X Y)), .int .i64 x]) ∧ New w w' p (X / Y) (ln (X / Y)) ∧ New w w' q (rmd X Y) (ln (rmd X Y)) ∧ Ap p (ln (X / Y)) q (ln (rmd X Y)) := by
  by_cases h : Y = 0
  · subst h
    rw [show rmd X 0 = 0 from if_pos rfl, Nat.div_zero, ln_zero]
    refine (Div_zero a b n c X m d w hc (by omega) hS hd (by omega) hT).mono ?_
    rintro e w1 ⟨rfl, dr⟩
    have hb : Below w.heap.size w w1 := by subst dr; exact Below.refl _ _
    exact ⟨none, none, 11, rfl, New.nil _ hb, New.nil _ hb, fun h => absurd h (by omega)⟩
  · rw [show rmd X Y = X % Y from if_neg h]
    refine (Div_ap a b n c X m d Y w hc (by omega) hS hd (by omega) hT h).mono ?_
    rintro e w1 ⟨p, q, rfl, n1, n2, h3⟩
    exact ⟨p, q, 0, rfl, n1, n2, h3⟩
theorem vSub (a : Option Addr) (n c X : Nat) (b : Option Addr) (m d Y : Nat) (w : World) (hc : n ≤ c) (hn : n ≤ 1048576) (hS : Seg w a X n) (hd : m ≤ d) (hm : m ≤ 1048576) (hT : Seg w b Y m) : Calls Try.prog 10 #[.slice a n c, .slice b m d] w fun e w' => ∃ p x, e = .returned (.tuple #[.slice p (ln (X - Y)) (ln (X - Y)), .int .i64 x]) ∧ New w w' p (X - Y) (ln (X - Y)) := by
  by_cases h : Y ≤ X
  · refine (rSub_any a b n c X m d Y w (by omega) hS (by omega) hT h).mono ?_
    rintro e w1 ⟨p, rfl, n1⟩
    exact ⟨p, 0, rfl, n1⟩
  · refine (rSub_below a b n c X m d Y w (by omega) hS (by omega) hT (by omega)).mono ?_
    rintro e w1 ⟨rfl, dr⟩
    rw [show X - Y = 0 by omega, ln_zero]
    exact ⟨none, 10, rfl, New.nil _ (by subst dr; exact Below.refl _ _)⟩
theorem vUp (a : Option Addr) (n c X : Nat) (b : Option Addr) (m d Y : Nat) (w : World) (hc : n ≤ c) (hn : n ≤ 1048576) (hS : Seg w a X n) (hd : m ≤ d) (hm : m ≤ 1048576) (hT : Seg w b Y m) (k : Nat) (hk : k ≤ 255) : Calls Try.prog 12 #[.slice a n c, .int .i64 (k : Nat)] w fun e w' => ∃ p x, e = .returned (.tuple #[.slice p (ln (X * 2 ^ k)) (ln (X * 2 ^ k)), .int .i64 x]) ∧ New w w' p (X * 2 ^ k) (ln (X * 2 ^ k)) := by
  by_cases h : X = 0
  · subst h
    rw [Nat.zero_mul, ln_zero]
    refine (rShift_zero a n c (k : Int) w (by omega) (by omega) (by omega) hS).mono ?_
    rintro e w1 ⟨p, rfl, b1⟩
    exact ⟨p, 0, rfl, New.nil _ b1⟩
  · refine (rShift_up a n c X k w (by omega) (by omega) hS h).mono ?_
    rintro e w1 ⟨p, rfl, n1⟩
    exact ⟨p, 0, rfl, n1⟩
theorem vDn (a : Option Addr) (n c X : Nat) (b : Option Addr) (m d Y : Nat) (w : World) (hc : n ≤ c) (hn : n ≤ 1048576) (hS : Seg w a X n) (hd : m ≤ d) (hm : m ≤ 1048576) (hT : Seg w b Y m) (k : Nat) (hk : k ≤ 255) : Calls Try.prog 12 #[.slice a n c, .int .i64 (-(k : Int))] w fun e w' => ∃ p x, e = .returned (.tuple #[.slice p (ln (X / 2 ^ k)) (ln (X / 2 ^ k)), .int .i64 x]) ∧ New w w' p (X / 2 ^ k) (ln (X / 2 ^ k)) := by
  by_cases h0 : k = 0
  · subst h0
    have h := vUp a n c X b m d Y w hc hn hS hd hm hT 0 (by omega)
    rw [Nat.pow_zero, Nat.mul_one] at h
    rw [Nat.pow_zero, Nat.div_one]
    exact h
  · by_cases h : X = 0
    · subst h
      rw [Nat.zero_div, ln_zero]
      refine (rShift_zero a n c (-(k : Int)) w (by omega) (by omega) (by omega) hS).mono ?_
      rintro e w1 ⟨p, rfl, b1⟩
      exact ⟨p, 0, rfl, New.nil _ b1⟩
    · refine (rShift_down a n c X k w (by omega) (by omega) (by omega) hS h).mono ?_
      rintro e w1 ⟨p, rfl, n1⟩
      exact ⟨p, 0, rfl, n1⟩
theorem vDiv (a : Option Addr) (n c X : Nat) (b : Option Addr) (m d Y : Nat) (w : World) (hc : n ≤ c) (hn : n ≤ 1048576) (hS : Seg w a X n) (hd : m ≤ d) (hm : m ≤ 1048576) (hT : Seg w b Y m) : Calls Try.prog 11 #[.slice a n c, .slice b m d] w fun e w' => ∃ p q x, e = .returned (.tuple #[.slice p (ln (X / Y)) (ln (X / Y)), .slice q (ln (rmd X Y)) (ln (rmd X Y)), .int .i64 x]) ∧ New w w' p (X / Y) (ln (X / Y)) ∧ New w w' q (rmd X Y) (ln (rmd X Y)) := by
  by_cases h : Y = 0
  · subst h
    rw [show rmd X 0 = 0 from if_pos rfl, Nat.div_zero, ln_zero]
    refine (rDiv_zero a b n c X m d w (by omega) hT).mono ?_
    rintro e w1 ⟨rfl, dr⟩
    have hb : Below w.heap.size w w1 := dr
    exact ⟨none, none, 11, rfl, New.nil _ hb, New.nil _ hb⟩
  · rw [show rmd X Y = X % Y from if_neg h]
    refine (rDiv_any a b n c X m d Y w (by omega) hS (by omega) hT h).mono ?_
    rintro e w1 ⟨p, q, rfl, n1, n2⟩
    exact ⟨p, q, 0, rfl, n1, n2⟩
end Go.Proofs.Ytechjealbccpbaa
