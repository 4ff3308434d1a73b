/-
  What a statement of own memory asks of Exact: two lists in two blocks (ls_two), what Spoil leaves alone, OfRat, SameRat of any room.
-/
import Derived.Test.YthecapmdionnmaaOWP
import Derived.Test.YthecapmdionnmaaOWM
import Derived.Test.YthecapmdionnmaaWFJ
namespace Go.Proofs.Ythecapmdionnmaa
open Go.RowKit
set_option linter.unusedVariables false
set_option linter.unusedSimpArgs false
theorem amt_ln {k : Nat} (h : k < FI) : amt k < BB ^ 3000 := by
  rw [← fm_fe k]
  have h1 := fm_lt k
  have h2 := fe_lt h
  obtain ⟨c, hc⟩ : ∃ c : Nat, c = 3000 := ⟨_, rfl⟩
  rw [← hc]
  have h3 : fm k * 2 ^ fe k < 2 ^ 53 * 2 ^ fe k := Nat.mul_lt_mul_of_pos_right (by omega) (Nat.two_pow_pos _)
  refine Nat.lt_of_lt_of_le h3 ?_
  rw [← Nat.pow_add, BB_two]
  exact Nat.pow_le_pow_right (by omega) (by omega)
theorem T_ln {z T : Nat} (hz : z = 1074) (hT : T = 2 ^ z) : T < BB ^ 3000 := by
  obtain ⟨c, hc⟩ : ∃ c : Nat, c = 3000 := ⟨_, rfl⟩
  rw [← hc, hT, BB_two]
  exact Nat.pow_lt_pow_right (by omega) (by omega)
theorem low_fl {z T : Nat} {A Z : Int} {V : Nat} (hz : z = 1074) (hT : T = 2 ^ z) (hA : am A < BB ^ 3000) (hL : Low A (T : Int) Z V) : ln (am Z) ≤ 3000 ∧ ln V ≤ 3000 := by
  have h := hL.le
  rw [am_nat] at h
  exact ⟨ln_le_of_lt (Nat.lt_of_le_of_lt h.1 hA), ln_le_of_lt (Nat.lt_of_le_of_lt h.2 (T_ln hz hT))⟩
theorem fv_fB2 {s : Bool} {k : Nat} (h : k ≤ FI) : fv (fB s k) = sg s (amt k) := by
  unfold fv; rw [fB_neg h, fB_mod h]
theorem int_lt {a b c d : Nat} (h : a * b < c * d) : (a : Int) * (b : Int) < (c : Int) * (d : Int) := by
  have : ((a * b : Nat) : Int) < ((c * d : Nat) : Int) := by omega
  rwa [Int.natCast_mul, Int.natCast_mul] at this
theorem around_ne {T : Nat} {s : Bool} {X Y k : Nat} (C : Cut T (rN X Y) (rd Y) k) (hr : rst T (rN X Y) (rd Y) k ≠ 0) :
    fkey (upB T s X Y k) = fkey (downB T s X Y k) + 1 ∧ downB T s X Y k % SB ≤ FI ∧ upB T s X Y k % SB ≤ FI ∧
    (downB T s X Y k % SB < FI → fv (downB T s X Y k) * ((rd Y : Nat) : Int) < rn s X Y * (T : Int)) ∧ (upB T s X Y k % SB < FI → rn s X Y * (T : Int) < fv (upB T s X Y k) * ((rd Y : Nat) : Int)) ∧ downB T s X Y k ≠ FI ∧ upB T s X Y k ≠ SB + FI := by
  have hk := C.1
  have ha : am (rn s X Y) = rN X Y := rN_am s X Y
  have c1 := C.2.1
  have c2 := C.2.2
  have hne : rN X Y * T ≠ amt k * rd Y := fun h => hr (rst_zero.2 h)
  have e1 := FIv
  have e2 := SBv
  unfold downB upB
  generalize rn s X Y = A at ha
  generalize rN X Y = N at ha c1 c2 hne hr
  generalize rd Y = D at c1 c2 hne hr
  have i1 := int_lt (a := amt k) (b := D) (c := N) (d := T) (by omega)
  have i2 : k + 1 < FI → (N : Int) * (T : Int) < ((amt (k + 1) : Nat) : Int) * (D : Int) := fun h => int_lt (c2.resolve_left (by omega))
  by_cases hA : A < 0
  · have hAN : A = -(N : Int) := by unfold am at ha; omega
    simp only [hr, hA, decide_true, ne_eq, not_false_eq_true, not_true, and_true, and_false, if_true, if_false]
    refine ⟨?_, by rw [fB_mod (by omega)]; omega, by rw [fB_mod (by omega)]; omega, fun h => ?_, fun h => ?_, ?_, ?_⟩
    · rw [fkey_fB (by omega), fkey_fB (by omega)]; simp; omega
    · rw [fB_mod (by omega)] at h
      rw [fv_fB2 (by omega), hAN]
      have := i2 h
      simp only [sg, if_true, Int.neg_mul]; omega
    · rw [fv_fB2 (by omega), hAN]
      simp only [sg, if_true, Int.neg_mul]; omega
    · unfold fB; simp; omega
    · unfold fB; simp; omega
  · have hAN : A = (N : Int) := by unfold am at ha; omega
    simp only [hr, hA, decide_false, ne_eq, not_false_eq_true, and_true, and_false, if_true, if_false]
    refine ⟨?_, by rw [fB_mod (by omega)]; omega, by rw [fB_mod (by omega)]; omega, fun h => ?_, fun h => ?_, ?_, ?_⟩
    · rw [fkey_fB (by omega), fkey_fB (by omega)]; simp
    · rw [fv_fB2 (by omega), hAN]
      simp only [sg, Bool.false_eq_true, if_false]; omega
    · rw [fB_mod (by omega)] at h
      rw [fv_fB2 (by omega), hAN]
      have := i2 h
      simp only [sg, Bool.false_eq_true, if_false]; omega
    · unfold fB; simp; omega
    · unfold fB; simp; omega
theorem around_eq {T : Nat} {s : Bool} {X Y k : Nat} (C : Cut T (rN X Y) (rd Y) k) (hr : rst T (rN X Y) (rd Y) k = 0) :
    upB T s X Y k = downB T s X Y k ∧ downB T s X Y k % SB < FI ∧ fv (downB T s X Y k) * ((rd Y : Nat) : Int) = rn s X Y * (T : Int) := by
  have hk := C.1
  have ha : am (rn s X Y) = rN X Y := rN_am s X Y
  have he := rst_zero.1 hr
  unfold downB upB
  simp only [hr, ne_eq, not_true, false_and, if_false]
  refine ⟨trivial, by rw [fB_mod (by omega)]; exact hk, ?_⟩
  rw [fv_fB2 (by omega)]
  generalize rn s X Y = A at ha
  generalize rN X Y = N at ha he
  generalize rd Y = D at he
  have hi : (N : Int) * (T : Int) = ((amt k : Nat) : Int) * (D : Int) := by
    have : ((N * T : Nat) : Int) = ((amt k * D : Nat) : Int) := by omega
    rwa [Int.natCast_mul, Int.natCast_mul] at this
  by_cases hA : A < 0
  · have hAN : A = -(N : Int) := by unfold am at ha; omega
    rw [decide_eq_true hA, hAN]
    simp only [sg, if_true, Int.neg_mul]; omega
  · have hAN : A = (N : Int) := by unfold am at ha; omega
    rw [decide_eq_false hA, hAN]
    simp only [sg, Bool.false_eq_true, if_false]; omega
theorem va_around {T : Nat} {s : Bool} {X Y k : Nat} (C : Cut T (rN X Y) (rd Y) k) : vaB (downB T s X Y k) (upB T s X Y k) = true := by
  unfold vaB
  rw [decide_eq_true_iff]
  by_cases hr : rst T (rN X Y) (rd Y) k = 0
  · obtain ⟨e1, e2, _⟩ := around_eq (s := s) C hr
    rw [e1]
    refine ⟨by omega, by omega, Int.le_refl _, fun h => ?_, fun h => ?_⟩
    · rw [h, FIv, SBv] at e2; omega
    · rw [h, FIv, SBv] at e2; omega
  · obtain ⟨e1, e2, e3, _, _, e6, e7⟩ := around_ne (s := s) C hr
    exact ⟨e2, e3, by omega, e6, e7⟩
theorem ls_two {w0 w1 w' : World} {bl t : Nat} {p q : Option Addr} {X Y n m : Nat} (hp : New w0 w1 p X n) (hq : New w0 w1 q Y m) (ha : Ap p n q m) (hb : Below w1.heap.size w1 w') (hbl : w1.heap.size ≤ bl) (hk : Blk w' bl #[.slice p n n, .slice q m m] t) :
    Ls w' w0.heap.size bl 0 2 (fun i => if i = 0 then p else q) (fun i => if i = 0 then n else m) (fun i j => if i = 0 then ((dg X j : Nat) : Int) else ((dg Y j : Nat) : Int)) ∧ ∀ i, i < 2 → 0 < (if i = 0 then n else m) → ∀ b o, (if i = 0 then p else q) = some ⟨b, o, none⟩ → b < w1.heap.size := by
  have key : ∀ {a : Option Addr} {Z k : Nat}, New w0 w1 a Z k → 0 < k → ∃ b off, a = some ⟨b, off, none⟩ ∧ w0.heap.size ≤ b ∧ b < w1.heap.size ∧ Row w' b ∧ ∀ j, j < k → w'.cell? ⟨b, off + j, none⟩ = some (.int .u32 ((dg Z j : Nat) : Int)) := by
    intro a Z k h hk
    obtain ⟨b, off, e, h1, h2⟩ := h.seg.2 hk
    obtain ⟨b', off', e', h3, h4⟩ := h.fresh hk
    rw [e] at e'
    obtain ⟨rfl, rfl⟩ : b = b' ∧ off = off' := by simpa using e'
    exact ⟨b, off, e, h3, h1, below_row hb h4, fun j hj => below_cell hb (h2 j hj)⟩
  have two : ∀ i : Nat, i < 2 → i = 0 ∨ i = 1 := fun i hi => by omega
  refine ⟨⟨fun i hi => ?_, fun i hi hn => ?_, fun i k hi hk' hik hn hm b off c off' e1 e2 => ?_⟩, fun i hi hn b o e => ?_⟩
  · rcases two i hi with rfl | rfl
    · have := hk.cell 0; simpa using this
    · have := hk.cell 1; simpa using this
  · rcases two i hi with rfl | rfl
    · obtain ⟨b, off, e, h1, h2, h3, h4⟩ := key hp (by simpa using hn)
      exact ⟨b, off, by simpa using e, h1, by omega, h3, by simpa using h4⟩
    · obtain ⟨b, off, e, h1, h2, h3, h4⟩ := key hq (by simpa using hn)
      exact ⟨b, off, by simpa using e, h1, by omega, h3, by simpa using h4⟩
  · rcases two i hi with rfl | rfl
    · obtain rfl : k = 1 := by omega
      exact ha (by simpa using hn) (by simpa using hm) b off c off' (by simpa using e1) (by simpa using e2)
    · obtain rfl : k = 0 := by omega
      exact fun h => ha (by simpa using hm) (by simpa using hn) c off' b off (by simpa using e2) (by simpa using e1) h.symm
  · rcases two i hi with rfl | rfl
    · obtain ⟨b', off, e', h1, h2, _⟩ := key hp (by simpa using hn)
      have e2 : p = some ⟨b, o, none⟩ := by simpa using e
      rw [e2] at e'
      obtain ⟨rfl, _⟩ : b = b' ∧ o = off := by simpa using e'
      exact h2
    · obtain ⟨b', off, e', h1, h2, _⟩ := key hq (by simpa using hn)
      have e2 : q = some ⟨b, o, none⟩ := by simpa using e
      rw [e2] at e'
      obtain ⟨rfl, _⟩ : b = b' ∧ o = off := by simpa using e'
      exact h2
theorem Bx.blk {lo L B c : Nat} {A : Nat → Option Addr} {n : Nat → Nat} {w w' : World} {cur : Array Value} {t : TypeId} (h : Bx lo L A n w w') (hf : ∀ i, i < L → 0 < n i → ∀ b o, A i = some ⟨b, o, none⟩ → b < B) (hc : B ≤ c) (k : Blk w c cur t) : Blk w' c cur t :=
  (h.ox c k.lt (fun i hi hn o e => by have := hf i hi hn c o e; omega)).trans k
theorem Bx.new {lo L B N X : Nat} {A : Nat → Option Addr} {n : Nat → Nat} {w0 w w' : World} {a : Option Addr} (h : Bx lo L A n w w') (hf : ∀ i, i < L → 0 < n i → ∀ b o, A i = some ⟨b, o, none⟩ → b < B) (hc : B ≤ w0.heap.size) (k : New w0 w a X N) : Seg w' a X N := by
  refine ⟨k.seg.1, fun hN => ?_⟩
  obtain ⟨b, off, e, h1, h2⟩ := k.seg.2 hN
  obtain ⟨b', off', e', h3, h4⟩ := k.fresh hN
  rw [e] at e'
  obtain ⟨rfl, rfl⟩ : b = b' ∧ off = off' := by simpa using e'
  exact ⟨b, off, e, Nat.lt_of_lt_of_le h1 h.size, fun i hi => (World.cell?_of_block (w := w) (a := ⟨b, off + i, none⟩) (h.ox b h1 (fun i hi hn o e => by have := hf i hi hn b o e; omega))).trans (h2 i hi)⟩
theorem exact_all (b : Nat) (hb : b < 18446744073709551616) : ∃ (Z : Int) (V : Nat) (c : Int), ln (am Z) ≤ 3000 ∧ ln V ≤ 3000 ∧ ∀ w, Calls Try.prog 11 #[.float .f64 b] w fun e w' => ∃ p q, e = .returned (.tuple #[.agg #[.bool (ng Z), .slice p (ln (am Z)) (ln (am Z)), .slice q (ln V) (ln V)], .int .i64 c]) ∧ New w w' p (am Z) (ln (am Z)) ∧ New w w' q V (ln V) ∧ Ap p (ln (am Z)) q (ln V) := by
  by_cases hf : b % SB < FI
  · obtain ⟨z, hz⟩ : ∃ z : Nat, z = 1074 := ⟨_, rfl⟩
    obtain ⟨T, hT⟩ : ∃ T : Nat, T = 2 ^ z := ⟨_, rfl⟩
    have hT0 : (T : Int) ≠ 0 := by have := Nat.two_pow_pos z; omega
    obtain ⟨Z, V, hL⟩ := low_ex (fv b) (T : Int) hT0
    obtain ⟨l1, l2⟩ := low_fl hz hT (by unfold fv; rw [am_sg]; exact amt_ln hf) hL
    exact ⟨Z, V, 0, l1, l2, fun w => Exact_ap z T b Z V w hz hT hb hf hL⟩
  · have e1 : ln (am 0) = 0 := ln_zero
    have e3 : ln 0 = 0 := ln_zero
    have e2 : ng 0 = false := rfl
    refine ⟨0, 0, fiE b, by omega, by omega, fun w => (Exact_no b w hb hf).mono ?_⟩
    rintro e w' ⟨rfl, h⟩
    rw [e1, e2, e3]
    exact ⟨none, none, rfl, New.nil none h, New.nil none h, fun h => absurd h (by omega)⟩
set_option maxHeartbeats 2000000 in
theorem OfRat_is (s : Bool) (p q : Option Addr) (n c m d : Nat) (w : World) :
    Calls Try.prog 14 #[.agg #[.bool s, .slice p n c, .slice q m d]] w fun e w' => ∃ bl, e = .returned (.slice (some ⟨bl, 0, none⟩) 2 2) ∧ w.heap.size ≤ bl ∧ Blk w' bl #[.slice p n c, .slice q m d] 22 ∧ Below w.heap.size w w' := by
  have h1 := Blk.new (w.alloc (.cells #[.bool s, .slice p n c, .slice q m d] 27)) #[.slice p n c, .slice q m d] 22
  have h2 : Below w.heap.size w ((w.alloc (.cells #[.bool s, .slice p n c, .slice q m d] 27)).alloc (.cells #[.slice p n c, .slice q m d] 22)) := ((Below.refl _ _).alloc (Nat.le_refl _) _).alloc (by rw [World.size_alloc]; omega) _
  simp only [World.size_alloc] at h1
  go_enter Try.func14, Try.ntmps14
  go_wp2
  go_ret
  exact ⟨w.heap.size + 1, rfl, by omega, h1, h2⟩
set_option maxHeartbeats 2000000 in
set_option maxRecDepth 100000 in
theorem SameRat_room (Z : Int) (V : Nat) (p q p1 q1 : Option Addr) (c1 d1 : Nat) (w : World) (h1 : ln (am Z) ≤ 70368744177664) (h2 : ln V ≤ 70368744177664) (hS : Seg w p (am Z) (ln (am Z))) (hT : Seg w q V (ln V)) (hS1 : Seg w p1 (am Z) (ln (am Z))) (hT1 : Seg w q1 V (ln V)) :
    Calls Try.prog 15 #[Value.agg #[Value.bool (ng Z), Value.slice p (ln (am Z)) (ln (am Z)), Value.slice q (ln V) (ln V)], Value.agg #[Value.bool (ng Z), Value.slice p1 (ln (am Z)) c1, Value.slice q1 (ln V) d1]] w fun e w' => e = .returned (.bool true) ∧ Below w.heap.size w w' := by
  have HI := hide' (fun w' k1 k2 => SameInt_is Z p p1 (ln (am Z)) c1 w' h1 k1 k2)
  have HN' := fun w' k1 k2 => SameNat_any q q1 (ln V) (ln V) V (ln V) d1 V w' h2 h2 k1 k2
  rw [sameB_self] at HN'
  have HN := hide' HN'
  clear HN'
  go_enter Try.func15, Try.ntmps15
  go_wp2_with fail
  obtain ⟨W, hW⟩ : ∃ W, ((w.alloc (.cells #[.bool (ng Z), .slice p (ln (am Z)) (ln (am Z)), .slice q (ln V) (ln V)] 27)).alloc (.cells #[.bool (ng Z), .slice p1 (ln (am Z)) c1, .slice q1 (ln V) d1] 27)) = W := ⟨_, rfl⟩
  have q00 : W.cell? ⟨w.heap.size, 0, none⟩ = some (.bool (ng Z)) := by subst hW; go_simp
  have q01 : W.cell? ⟨w.heap.size, 1, none⟩ = some (.slice p (ln (am Z)) (ln (am Z))) := by subst hW; go_simp
  have q02 : W.cell? ⟨w.heap.size, 2, none⟩ = some (.slice q (ln V) (ln V)) := by subst hW; go_simp
  have q10 : W.cell? ⟨w.heap.size + 1, 0, none⟩ = some (.bool (ng Z)) := by subst hW; go_simp
  have q11 : W.cell? ⟨w.heap.size + 1, 1, none⟩ = some (.slice p1 (ln (am Z)) c1) := by subst hW; go_simp
  have q12 : W.cell? ⟨w.heap.size + 1, 2, none⟩ = some (.slice q1 (ln V) d1) := by subst hW; go_simp
  have hB : Below w.heap.size w W := by subst hW; exact (((Below.refl _ _).alloc (by (try simp only [World.size_alloc]); omega) _).alloc (by (try simp only [World.size_alloc]); omega) _)
  have hz : W.heap.size = w.heap.size + 1 + 1 := by subst hW; simp only [World.size_alloc]
  rw [hW]
  clear hW
  have hBW : Below W.heap.size W W := Below.refl _ _
  refine (HI.out _ (sb hS hB hBW) (sb hS1 hB hBW)).mono ?_
  rintro e w1 ⟨rfl, b1⟩
  replace hBW := hBW.trans (b1.mono hBW.size)
  replace q00 := below_cell b1 q00
  replace q01 := below_cell b1 q01
  replace q02 := below_cell b1 q02
  replace q10 := below_cell b1 q10
  replace q11 := below_cell b1 q11
  replace q12 := below_cell b1 q12
  go_wp2_with fail
  refine (HN.out _ (sb hT hB hBW) (sb hT1 hB hBW)).mono ?_
  rintro e2 w2 ⟨rfl, hd⟩
  go_wp2
  go_ret
  exact ⟨rfl, (hB.trans (hBW.mono hB.size)).trans (hd.below _)⟩
end Go.Proofs.Ythecapmdionnmaa
