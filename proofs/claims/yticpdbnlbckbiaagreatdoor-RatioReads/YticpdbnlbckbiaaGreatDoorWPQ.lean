/-
  The other ways of ratio's quotient and parts: texts that are none.
-/
import Derived.Test.YticpdbnlbckbiaaGreatDoorMem
import Derived.RangeFuncRecord
import Derived.Test.YticpdbnlbckbiaaGreatDoorWPB
import Derived.Test.YticpdbnlbckbiaaGreatDoorWX2
import Derived.Test.YticpdbnlbckbiaaGreatDoorWT1
namespace Go.Proofs.YticpdbnlbckbiaaGreatDoor
open Go.RowKit
set_option linter.unusedVariables false
set_option linter.unusedSimpArgs false

/-- w' is w but for one block that is the iterator's own -/
structure Ch (c : Nat) (W W' : World) : Prop where
  os : W'.os = W.os
  tape : W'.tape = W.tape
  output : W'.output = W.output
  size : W'.heap.size = W.heap.size
  other : ∀ k, k ≠ c → W'.heap[k]? = W.heap[k]?
theorem Ch.set {c o : Nat} {W : World} (u : Value) : Ch c W (W.setCell ⟨c, o, none⟩ u) := ⟨rfl, rfl, rfl, by simp [World.setCell], fun k hk => Below.heap_setCell _ _ _ _ hk⟩
theorem Ch.trans {c : Nat} {W W1 W2 : World} (h : Ch c W W1) (k : Ch c W1 W2) : Ch c W W2 :=
  ⟨k.os.trans h.os, k.tape.trans h.tape, k.output.trans h.output, k.size.trans h.size, fun i hi => (k.other i hi).trans (h.other i hi)⟩
theorem Ch.below {c B : Nat} {W W' : World} (h : Ch c W W') (hB : B ≤ c) : Below B W W' := ⟨h.os, h.tape, h.output, Nat.le_of_eq h.size.symm, fun k hk => h.other k (by omega)⟩
/-- the four cells of a block, stored anew -/
theorem set4_is {c : Nat} {W : World} {u0 u1 u2 u3 : Value} {t : TypeId} (h : W.heap[c]? = some (.cells #[u0, u1, u2, u3] t (0, 0))) (v0 v1 v2 v3 : Value) :
    Ch c W ((((W.setCell ⟨c, 0, none⟩ v0).setCell ⟨c, 1, none⟩ v1).setCell ⟨c, 2, none⟩ v2).setCell ⟨c, 3, none⟩ v3) ∧
      ((((W.setCell ⟨c, 0, none⟩ v0).setCell ⟨c, 1, none⟩ v1).setCell ⟨c, 2, none⟩ v2).setCell ⟨c, 3, none⟩ v3).heap[c]? = some (.cells #[v0, v1, v2, v3] t (0, 0)) := by
  refine ⟨(((Ch.set v0).trans (Ch.set v1)).trans (Ch.set v2)).trans (Ch.set v3), ?_⟩
  simp [World.setCell, Array.getElem?_modify, h]
/-- a block of cells that can be stored into -/
def Blk (W : World) (c : Nat) (cur : Array Value) (t : TypeId) : Prop := W.heap[c]? = some (.cells cur t (0, 0))
theorem Blk.lt {W : World} {c : Nat} {cur : Array Value} {t : TypeId} (h : Blk W c cur t) : c < W.heap.size := (Array.getElem?_eq_some_iff.1 h).1
theorem Blk.later {W W' : World} {c : Nat} {cur : Array Value} {t : TypeId} (h : Blk W c cur t) (hb : Below W.heap.size W W') : Blk W' c cur t := (hb.block c h.lt).trans h
theorem Blk.cell {W : World} {c : Nat} {cur : Array Value} {t : TypeId} (h : Blk W c cur t) (o : Nat) : W.cell? ⟨c, o, none⟩ = cur[o]? := by simp [World.cell?, show W.heap[c]? = _ from h]
theorem Blk.frozen {W : World} {c : Nat} {cur : Array Value} {t : TypeId} (h : Blk W c cur t) (o : Nat) : W.frozen? ⟨c, o, none⟩ = false := frozen_of_row W c o cur t h
theorem Blk.new (W : World) (cur : Array Value) (t : TypeId) : Blk (W.alloc (.cells cur t)) W.heap.size cur t := World.alloc_heap_new W _
theorem Seg.ch {c : Nat} {W W' : World} {ao : Option Addr} {X n : Nat} (h : Seg W ao X n) (k : Ch c W W') (hno : ∀ o i, W.cell? ⟨c, o, none⟩ ≠ some (.int .u32 i)) : Seg W' ao X n := by
  refine ⟨h.1, fun hn => ?_⟩
  obtain ⟨b, off, e, hl, hc⟩ := h.2 hn
  refine ⟨b, off, e, by rw [k.size]; exact hl, fun i hi => ?_⟩
  have h1 := hc i hi
  rw [World.cell?_of_block (w := W) (a := ⟨b, off + i, none⟩) (k.other b fun e => hno (off + i) _ (by rw [← e]; exact h1))]
  exact h1
theorem Blk.ch {c d : Nat} {W W' : World} {cur : Array Value} {t : TypeId} (h : Blk W d cur t) (k : Ch c W W') (hne : d ≠ c) : Blk W' d cur t := (k.other d hne).trans h
/-- all cells are what a whole number's cells are -/
theorem Blk.no {W : World} {c : Nat} {cur : Array Value} {t : TypeId} (h : Blk W c cur t) (hc : ∀ u ∈ cur.toList, ∀ i, u ≠ .int .u32 i) : ∀ o i, W.cell? ⟨c, o, none⟩ ≠ some (.int .u32 i) := fun o i e => by
  rw [h.cell o] at e
  obtain ⟨hl, he⟩ := Array.getElem?_eq_some_iff.1 e
  exact hc _ (by rw [← he]; simp) i rfl
theorem Blk.set4 {c : Nat} {W : World} {u0 u1 u2 u3 : Value} {t : TypeId} (h : Blk W c #[u0, u1, u2, u3] t) (v0 v1 v2 v3 : Value) :
    Ch c W ((((W.setCell ⟨c, 0, none⟩ v0).setCell ⟨c, 1, none⟩ v1).setCell ⟨c, 2, none⟩ v2).setCell ⟨c, 3, none⟩ v3) ∧ Blk ((((W.setCell ⟨c, 0, none⟩ v0).setCell ⟨c, 1, none⟩ v1).setCell ⟨c, 2, none⟩ v2).setCell ⟨c, 3, none⟩ v3) c #[v0, v1, v2, v3] t := set4_is h v0 v1 v2 v3
theorem Blk.set8 {c : Nat} {W : World} {u0 u1 u2 u3 u4 u5 u6 u7 : Value} {t : TypeId} (h : Blk W c #[u0, u1, u2, u3, u4, u5, u6, u7] t) (v0 v1 v2 v3 v4 v5 v6 v7 : Value) :
    Ch c W ((((((((W.setCell ⟨c, 0, none⟩ v0).setCell ⟨c, 1, none⟩ v1).setCell ⟨c, 2, none⟩ v2).setCell ⟨c, 3, none⟩ v3).setCell ⟨c, 4, none⟩ v4).setCell ⟨c, 5, none⟩ v5).setCell ⟨c, 6, none⟩ v6).setCell ⟨c, 7, none⟩ v7) ∧
      Blk ((((((((W.setCell ⟨c, 0, none⟩ v0).setCell ⟨c, 1, none⟩ v1).setCell ⟨c, 2, none⟩ v2).setCell ⟨c, 3, none⟩ v3).setCell ⟨c, 4, none⟩ v4).setCell ⟨c, 5, none⟩ v5).setCell ⟨c, 6, none⟩ v6).setCell ⟨c, 7, none⟩ v7) c #[v0, v1, v2, v3, v4, v5, v6, v7] t := by
  refine ⟨(((((((Ch.set v0).trans (Ch.set v1)).trans (Ch.set v2)).trans (Ch.set v3)).trans (Ch.set v4)).trans (Ch.set v5)).trans (Ch.set v6)).trans (Ch.set v7), ?_⟩
  simp [Blk, World.setCell, Array.getElem?_modify, show W.heap[c]? = _ from h]

theorem Blk.set3 {c : Nat} {W : World} {u0 u1 u2 : Value} {t : TypeId} (h : Blk W c #[u0, u1, u2] t) (v0 v1 v2 : Value) :
    Ch c W (((W.setCell ⟨c, 0, none⟩ v0).setCell ⟨c, 1, none⟩ v1).setCell ⟨c, 2, none⟩ v2) ∧ Blk (((W.setCell ⟨c, 0, none⟩ v0).setCell ⟨c, 1, none⟩ v1).setCell ⟨c, 2, none⟩ v2) c #[v0, v1, v2] t := by
  refine ⟨((Ch.set v0).trans (Ch.set v1)).trans (Ch.set v2), ?_⟩
  simp [Blk, World.setCell, Array.getElem?_modify, show W.heap[c]? = _ from h]
end Go.Proofs.YticpdbnlbckbiaaGreatDoor

namespace Go.Proofs.YticpdbnlbckbiaaGreatDoor
open Go.RowKit
set_option linter.unusedVariables false
set_option linter.unusedSimpArgs false

set_option maxHeartbeats 2000000 in
set_option maxRecDepth 100000 in
theorem qParse_gen (text b : ByteArray) (neg : Bool) (X Y V : Nat) (Z : Int) (w : World) (h : Digs w) (H0 : ∀ w', Calls Tryz.prog 9 #[.string text, .string ⟨#[45]⟩] w' fun e w'' => e = .returned (.tuple #[.string b, .bool neg]) ∧ w'' = w') (H1 : ∀ w', Digs w' → Calls Tryz.prog 10 #[.string b] w' fun e w'' => ∃ p q, e = .returned (.tuple #[.slice p (ln X) (ln X), .slice q (ln Y) (ln Y), .int .i64 0]) ∧ New w' w'' p X (ln X) ∧ New w' w'' q Y (ln Y)) (lX : ln X ≤ 35184372088000) (lY : ln Y ≤ 35184372088000) (hL : Low (sg neg X) (Y : Int) Z V) :
    Calls Tryz.prog 4 #[.string text] w fun e w' => ∃ p q, e = .returned (.tuple #[.agg #[.bool (ng Z), .slice p (ln (am Z)) (ln (am Z)), .slice q (ln V) (ln V)], .int .i64 0]) ∧ Below w.heap.size w w' ∧ Seg w' p (am Z) (ln (am Z)) ∧ Seg w' q V (ln V) := by
  have G0 := hide' H0
  have G1 := hide' H1
  have G2 := hide' (fun w' p q k1 k2 => lowest_is neg p (ln X) (ln X) X q (ln Y) (ln Y) Y V Z w' (Nat.le_refl _) (by omega) k1 (Nat.le_refl _) (by omega) k2 hL)
  have bA := below_alloc (w := w) (.cells #[.bool false, .slice none 0 0, .slice none 0 0] 27)
  have qR := Blk.new w #[.bool false, .slice none 0 0, .slice none 0 0] 27
  have HD := hide' (h.below bA)
  clear H0 H1 h hL
  go_enter Tryz.func4, Tryz.ntmps4
  go_wp2_with fail
  refine (G0.out _).mono ?_
  rintro e w1 ⟨rfl, rfl⟩
  go_wp2_with fail
  refine (G1.out _ HD.out).mono ?_
  rintro e w2 ⟨p, q, rfl, n1, n2⟩
  have b2 := n1.below
  go_wp2_with fail
  refine (G2.out _ p q n1.seg n2.seg).mono ?_
  rintro e w3 ⟨p3, q3, rfl, n3, n4⟩
  have b3 := n3.below
  have qR3 := (qR.later b2).later b3
  have v0 := qR3.cell 0
  have v1 := qR3.cell 1
  have v2 := qR3.cell 2
  simp only [List.getElem?_toArray, List.getElem?_cons_zero, List.getElem?_cons_succ] at v0 v1 v2
  have fz := fun o => qR3.frozen o
  go_wp2
  obtain ⟨c9, q9⟩ := qR3.set3 (.bool (ng Z)) (.slice p3 (ln (am Z)) (ln (am Z))) (.slice q3 (ln V) (ln V))
  have hno := qR3.no (by simp)
  have z0 := q9.cell 0
  have z1 := q9.cell 1
  have z2 := q9.cell 2
  simp only [List.getElem?_toArray, List.getElem?_cons_zero, List.getElem?_cons_succ] at z0 z1 z2
  clear v0 v1 v2
  have b9 := (bA.trans ((b2.trans (b3.mono b2.size)).mono bA.size)).trans (c9.below (Nat.le_refl _))
  refine bodyPost_ret (v := .tuple #[.agg #[.bool (ng Z), .slice p3 (ln (am Z)) (ln (am Z)), .slice q3 (ln V) (ln V)], .int .i64 0]) (by rw [results_ct rfl]; go_simp) rfl ?_
  exact ⟨p3, q3, rfl, b9, n3.seg.ch c9 hno, n4.seg.ch c9 hno⟩
theorem low_own {Z : Int} {V : Nat} (hV : 0 < V) (hc : Nat.gcd (am Z) V = 1) : Low (sg (ng Z) (am Z)) (V : Int) Z V := by
  rw [sg_na]
  exact Low.self hV hc
/-- the text that Text writes: its body, with the sign ahead -/
theorem qParse_body (b : ByteArray) (Y V : Nat) (Z : Int) (w : World) (h : Digs w) (hb : 0 < b.size) (hb0 : byt b 0 ≠ 45)
    (H1 : ∀ w', Digs w' → Calls Tryz.prog 10 #[.string b] w' fun e w'' => ∃ p q, e = .returned (.tuple #[.slice p (ln (am Z)) (ln (am Z)), .slice q (ln V) (ln V), .int .i64 0]) ∧ New w' w'' p (am Z) (ln (am Z)) ∧ New w' w'' q V (ln V)) (lX : ln (am Z) ≤ 35184372088000) (lY : ln V ≤ 35184372088000) (hV : 0 < V) (hc : Nat.gcd (am Z) V = 1) :
    Calls Tryz.prog 4 #[.string (if ng Z = true then ⟨#[45]⟩ ++ b else b)] w fun e w' => ∃ p q, e = .returned (.tuple #[.agg #[.bool (ng Z), .slice p (ln (am Z)) (ln (am Z)), .slice q (ln V) (ln V)], .int .i64 0]) ∧ Below w.heap.size w w' ∧ Seg w' p (am Z) (ln (am Z)) ∧ Seg w' q V (ln V) := by
  by_cases hn : ng Z = true
  · rw [if_pos hn]
    refine qParse_gen _ b true (am Z) V V Z w h (fun w' => ?_) H1 lX lY (by rw [← hn]; exact low_own hV hc)
    have := cutMinus_yes ((⟨#[45]⟩ : ByteArray) ++ b) w' (by rw [ByteArray.size_append]; show 0 < 1 + _; omega) (cons_byt b)
    rw [cons_ext] at this
    exact this
  · rw [if_neg hn]
    have hf : ng Z = false := by simpa using hn
    refine qParse_gen _ b false (am Z) V V Z w h (fun w' => cutMinus_no b w' (fun h => hb0 h.2)) H1 lX lY (by rw [← hf]; exact low_own hV hc)
theorem isTz_body {Z : Int} {u : ByteArray} (hu : isTz (ng Z) (am Z) u) : ∃ t, isTx 10 (am Z) t ∧ u = if ng Z = true then ⟨#[45]⟩ ++ t else t := by
  obtain ⟨t, ht, e⟩ := hu
  refine ⟨t, ht, ?_⟩
  rw [e]
  by_cases hn : ng Z = true
  · have h0 : am Z ≠ 0 := by
      have : Z < 0 := by simpa [ng] using hn
      unfold am
      omega
    rw [if_pos ⟨hn, h0⟩, if_pos hn]
  · rw [if_neg (fun h => hn h.1), if_neg hn]
set_option maxRecDepth 100000 in
theorem qParse_own (Z : Int) (V : Nat) (u d : ByteArray) (w : World) (h : Digs w) (hu : isTz (ng Z) (am Z) u) (hd : isTx 10 V d) (lX : ln (am Z) ≤ 134217729) (lY : ln V ≤ 134217729) (hV : 0 < V) (hc : Nat.gcd (am Z) V = 1) :
    Calls Tryz.prog 4 #[.string (if V = 1 then u else u ++ ⟨#[47]⟩ ++ d)] w fun e w' => ∃ p q, e = .returned (.tuple #[.agg #[.bool (ng Z), .slice p (ln (am Z)) (ln (am Z)), .slice q (ln V) (ln V)], .int .i64 0]) ∧ Below w.heap.size w w' ∧ Seg w' p (am Z) (ln (am Z)) ∧ Seg w' q V (ln V) := by
  obtain ⟨t, ht, rfl⟩ := isTz_body hu
  have zt := ht.size_le (by omega) (ln_lt (am Z))
  have zd := hd.size_le (by omega) (ln_lt V)
  by_cases h1 : V = 1
  · subst h1
    rw [if_pos rfl]
    exact qParse_body t 1 1 Z w h ht.1 ht.head (fun w' k => parts_int t (am Z) w' k ht (by omega)) (by omega) (by omega) hV hc
  · rw [if_neg h1]
    have e : (if ng Z = true then (⟨#[45]⟩ : ByteArray) ++ t else t) ++ ⟨#[47]⟩ ++ d = if ng Z = true then (⟨#[45]⟩ : ByteArray) ++ (t ++ ⟨#[47]⟩ ++ d) else t ++ ⟨#[47]⟩ ++ d := by
      by_cases hn : ng Z = true
      · rw [if_pos hn, if_pos hn, ByteArray.append_assoc, ByteArray.append_assoc, ByteArray.append_assoc]
      · rw [if_neg hn, if_neg hn]
    rw [e]
    have hb : 0 < (t ++ (⟨#[47]⟩ : ByteArray) ++ d).size := by rw [frac_size]; omega
    have hb0 : byt (t ++ (⟨#[47]⟩ : ByteArray) ++ d) 0 ≠ 45 := by
      rw [byt_appL (by rw [ByteArray.size_append]; have := ht.1; omega), byt_appL ht.1]
      exact ht.head
    have HP := fun w' (k : Digs w') => parts_frac t d (am Z) V w' k ht hd (by omega) (by omega) (by omega)
    clear e zt zd ht hd
    generalize t ++ (⟨#[47]⟩ : ByteArray) ++ d = b at hb hb0 HP ⊢
    exact qParse_body b V V Z w h hb hb0 HP (by omega) (by omega) hV hc
end Go.Proofs.YticpdbnlbckbiaaGreatDoor

namespace Go.Proofs.YticpdbnlbckbiaaGreatDoor
open Go.RowKit
set_option linter.unusedVariables false

theorem dval10 {c : Nat} : dval c < 10 ↔ 48 ≤ c ∧ c ≤ 57 := by unfold dval; split <;> (try split) <;> omega
/-- what stands behind a point: digits, one at least -/
def tl10 (s : ByteArray) : Prop := 0 < s.size ∧ ∀ k, k < s.size → dval (byt s k) < 10
/-- by the first '/', else by the first '.', else whole -/
inductive Rd (t : ByteArray) : Option (Nat × Nat) → Prop
  | over {i : Nat} : i < t.size → byt t i = 47 → (∀ k, k < i → byt t k ≠ 47) → isT 10 (t.extract 0 i) → isT 10 (t.extract (i + 1) t.size) → val 10 (t.extract (i + 1) t.size) ≠ 0 → Rd t (some (val 10 (t.extract 0 i), val 10 (t.extract (i + 1) t.size)))
  | overBad {i : Nat} : i < t.size → byt t i = 47 → (∀ k, k < i → byt t k ≠ 47) → ¬ (isT 10 (t.extract 0 i) ∧ isT 10 (t.extract (i + 1) t.size) ∧ val 10 (t.extract (i + 1) t.size) ≠ 0) → Rd t none
  | point {i : Nat} : (∀ k, k < t.size → byt t k ≠ 47) → i < t.size → byt t i = 46 → (∀ k, k < i → byt t k ≠ 46) → isT 10 (t.extract 0 i) → tl10 (t.extract (i + 1) t.size) → Rd t (some (val 10 (t.extract 0 i) * 10 ^ (t.size - (i + 1)) + val 10 (t.extract (i + 1) t.size), 10 ^ (t.size - (i + 1))))
  | pointBad {i : Nat} : (∀ k, k < t.size → byt t k ≠ 47) → i < t.size → byt t i = 46 → (∀ k, k < i → byt t k ≠ 46) → ¬ (isT 10 (t.extract 0 i) ∧ tl10 (t.extract (i + 1) t.size)) → Rd t none
  | whole : (∀ k, k < t.size → byt t k ≠ 47) → (∀ k, k < t.size → byt t k ≠ 46) → isT 10 t → Rd t (some (val 10 t, 1))
  | wholeBad : (∀ k, k < t.size → byt t k ≠ 47) → (∀ k, k < t.size → byt t k ≠ 46) → ¬ isT 10 t → Rd t none
/-- n digits stand ahead, no more -/
structure Lead (t : ByteArray) (n : Nat) : Prop where
  le : n ≤ t.size
  dig : ∀ k, k < n → dval (byt t k) < 10
  no : n < t.size → ¬ dval (byt t n) < 10
/-- by the digits ahead -/
inductive Rf (t : ByteArray) (n : Nat) : Option (Nat × Nat) → Prop
  | bad : ¬ isT 10 (t.extract 0 n) → Rf t n none
  | whole : isT 10 (t.extract 0 n) → n = t.size → Rf t n (some (val 10 (t.extract 0 n), 1))
  | over : isT 10 (t.extract 0 n) → n < t.size → byt t n = 47 → isT 10 (t.extract (n + 1) t.size) → val 10 (t.extract (n + 1) t.size) ≠ 0 → Rf t n (some (val 10 (t.extract 0 n), val 10 (t.extract (n + 1) t.size)))
  | overBad : isT 10 (t.extract 0 n) → n < t.size → byt t n = 47 → ¬ (isT 10 (t.extract (n + 1) t.size) ∧ val 10 (t.extract (n + 1) t.size) ≠ 0) → Rf t n none
  | point : isT 10 (t.extract 0 n) → n < t.size → byt t n = 46 → tl10 (t.extract (n + 1) t.size) → Rf t n (some (val 10 (t.extract 0 n) * 10 ^ (t.size - (n + 1)) + val 10 (t.extract (n + 1) t.size), 10 ^ (t.size - (n + 1))))
  | pointBad : isT 10 (t.extract 0 n) → n < t.size → byt t n = 46 → ¬ tl10 (t.extract (n + 1) t.size) → Rf t n none
  | other : isT 10 (t.extract 0 n) → n < t.size → byt t n ≠ 47 → byt t n ≠ 46 → Rf t n none
theorem Lead.stop {t : ByteArray} {n i : Nat} (h : Lead t n) (hi : i < t.size) (hd : ¬ dval (byt t i) < 10) (hb : ∀ k, k < i → dval (byt t k) < 10) : n = i := by
  have h1 : ¬ i < n := fun c => hd (h.dig i c)
  have h2 : ¬ n < i := fun c => h.no (by omega) (hb n c)
  omega
theorem Lead.le_of {t : ByteArray} {n i : Nat} (h : Lead t n) (hi : i < t.size) (hd : ¬ dval (byt t i) < 10) : n ≤ i := by
  have h1 : ¬ i < n := fun c => hd (h.dig i c)
  omega
theorem isT_ahead {t : ByteArray} {i : Nat} (hi : i ≤ t.size) (h : isT 10 (t.extract 0 i)) : ∀ k, k < i → dval (byt t k) < 10 := fun k hk => by
  have h1 := h.2.2 k (by simp only [ByteArray.size_extract]; omega)
  rw [byt_extract hi (by omega), Nat.zero_add] at h1
  exact h1
theorem Rd.ref {t : ByteArray} {o : Option (Nat × Nat)} {n : Nat} (h : Rd t o) (l : Lead t n) : Rf t n o := by
  have n47 : ¬ dval 47 < 10 := by decide
  have n46 : ¬ dval 46 < 10 := by decide
  cases h with
  | over hi h1 h2 a b c =>
    obtain rfl := l.stop hi (by rw [h1]; exact n47) (isT_ahead (by omega) a)
    exact .over a hi h1 b c
  | @overBad i hi h1 h2 hn =>
    have hle := l.le_of hi (by rw [h1]; exact n47)
    by_cases a : isT 10 (t.extract 0 n)
    · by_cases e : n = i
      · subst e
        exact .overBad a hi h1 fun x => hn ⟨a, x⟩
      · have hlt : n < t.size := by omega
        have g1 := h2 n (by omega)
        by_cases g2 : byt t n = 46
        · refine .pointBad a hlt g2 fun x => ?_
          have := x.2 (i - (n + 1)) (by simp only [ByteArray.size_extract]; omega)
          rw [byt_extract (Nat.le_refl _) (by omega), show n + 1 + (i - (n + 1)) = i by omega, h1] at this
          exact n47 this
        · exact .other a hlt g1 g2
    · exact .bad a
  | point h0 hi h1 h2 a b =>
    obtain rfl := l.stop hi (by rw [h1]; exact n46) (isT_ahead (by omega) a)
    exact .point a hi h1 b
  | @pointBad i h0 hi h1 h2 hn =>
    have hle := l.le_of hi (by rw [h1]; exact n46)
    by_cases a : isT 10 (t.extract 0 n)
    · by_cases e : n = i
      · subst e
        exact .pointBad a hi h1 fun x => hn ⟨a, x⟩
      · have hlt : n < t.size := by omega
        exact .other a hlt (h0 n hlt) (h2 n (by omega))
    · exact .bad a
  | whole h0 h1 a =>
    have hn : n = t.size := by
      have h3 : ¬ n < t.size := fun c => l.no c (a.2.2 n c)
      have := l.le
      omega
    subst hn
    have e : t.extract 0 t.size = t := by simp
    have := Rf.whole (t := t) (n := t.size) (by rw [e]; exact a) rfl
    rw [e] at this
    exact this
  | wholeBad h0 h1 hn =>
    by_cases a : isT 10 (t.extract 0 n)
    · by_cases e : n = t.size
      · subst e
        rw [show t.extract 0 t.size = t by simp] at a
        exact absurd a hn
      · have hlt : n < t.size := by have := l.le; omega
        exact .other a hlt (h0 n hlt) (h1 n hlt)
    · exact .bad a
/-- the first place of a byte, or none -/
theorem first_byte (t : ByteArray) (c : Nat) : (∃ i, i < t.size ∧ byt t i = c ∧ ∀ k, k < i → byt t k ≠ c) ∨ ∀ k, k < t.size → byt t k ≠ c := by
  have key : ∀ m, m ≤ t.size → (∃ i, i < t.size ∧ byt t i = c ∧ ∀ k, k < i → byt t k ≠ c) ∨ ∀ k, k < m → byt t k ≠ c := by
    intro m
    induction m with
    | zero => intro _; exact .inr fun k hk => absurd hk (by omega)
    | succ m ih =>
      intro hm
      rcases ih (by omega) with h | h
      · exact .inl h
      · by_cases e : byt t m = c
        · exact .inl ⟨m, by omega, e, h⟩
        · refine .inr fun k hk => ?_
          by_cases e2 : k = m
          · subst e2; exact e
          · exact h k (by omega)
  exact key _ (Nat.le_refl _)
theorem Rd.ex (t : ByteArray) : ∃ o, Rd t o := by
  rcases first_byte t 47 with ⟨i, hi, h1, h2⟩ | h47
  · by_cases h : isT 10 (t.extract 0 i) ∧ isT 10 (t.extract (i + 1) t.size) ∧ val 10 (t.extract (i + 1) t.size) ≠ 0
    · exact ⟨_, .over hi h1 h2 h.1 h.2.1 h.2.2⟩
    · exact ⟨_, .overBad hi h1 h2 h⟩
  · rcases first_byte t 46 with ⟨i, hi, h1, h2⟩ | h46
    · by_cases h : isT 10 (t.extract 0 i) ∧ tl10 (t.extract (i + 1) t.size)
      · exact ⟨_, .point h47 hi h1 h2 h.1 h.2⟩
      · exact ⟨_, .pointBad h47 hi h1 h2 h⟩
    · by_cases h : isT 10 t
      · exact ⟨_, .whole h47 h46 h⟩
      · exact ⟨_, .wholeBad h47 h46 h⟩
theorem Lead.ex (t : ByteArray) : ∃ n, Lead t n := by
  have key : ∀ m, m ≤ t.size → (∃ n, Lead t n) ∨ ∀ k, k < m → dval (byt t k) < 10 := by
    intro m
    induction m with
    | zero => intro _; exact .inr fun k hk => absurd hk (by omega)
    | succ m ih =>
      intro hm
      rcases ih (by omega) with h | h
      · exact .inl h
      · by_cases e : dval (byt t m) < 10
        · refine .inr fun k hk => ?_
          by_cases e2 : k = m
          · subst e2; exact e
          · exact h k (by omega)
        · exact .inl ⟨m, by omega, h, fun _ => e⟩
  rcases key _ (Nat.le_refl _) with h | h
  · exact h
  · exact ⟨t.size, Nat.le_refl _, h, fun c => absurd c (by omega)⟩
/-- a digit ahead: '1' and the digits behind the point are a text, whatever they begin with -/
theorem one_isT {s : ByteArray} : isT 10 (⟨#[49]⟩ ++ s) ↔ ∀ k, k < s.size → dval (byt s k) < 10 := by
  have hs : (⟨#[49]⟩ ++ s : ByteArray).size = s.size + 1 := by rw [ByteArray.size_append, show (⟨#[49]⟩ : ByteArray).size = 1 from rfl]; omega
  have h0 : byt (⟨#[49]⟩ ++ s) 0 = 49 := by rw [byt_of (by omega), ByteArray.getElem_append_left (by decide)]; rfl
  have h1 : ∀ k, k < s.size → byt (⟨#[49]⟩ ++ s) (k + 1) = byt s k := fun k hk => by
    rw [byt_of (by omega), byt_of hk, ByteArray.getElem_append_right (by show 1 ≤ k + 1; omega)]
    rfl
  constructor
  · intro h k hk
    rw [← h1 k hk]
    exact h.2.2 (k + 1) (by omega)
  · intro h
    refine ⟨by omega, fun _ => by rw [h0]; decide, fun k hk => ?_⟩
    cases k with
    | zero => rw [h0]; decide
    | succ k => rw [h1 k (by omega)]; exact h k (by omega)
theorem one_val {s : ByteArray} : val 10 (⟨#[49]⟩ ++ s) = 10 ^ s.size + val 10 s := by
  have hs : (⟨#[49]⟩ ++ s : ByteArray).size = 1 + s.size := by rw [ByteArray.size_append]; rfl
  have h0 : byt (⟨#[49]⟩ ++ s) 0 = 49 := by rw [byt_of (by omega), ByteArray.getElem_append_left (by decide)]; rfl
  have h1 : ∀ k, k < s.size → byt (⟨#[49]⟩ ++ s) (1 + k) = byt s k := fun k hk => by
    rw [byt_of (by omega), byt_of hk, ByteArray.getElem_append_right (by show 1 ≤ 1 + k; omega)]
    congr 2
    show 1 + k - 1 = k
    omega
  unfold val
  rw [hs, tvr_split]
  have e1 : tvr 10 (fun k => dval (byt (⟨#[49]⟩ ++ s) k)) 0 1 = 1 := by
    simp only [tvr, h0, Nat.add_zero]
    decide
  rw [e1, Nat.one_mul]
  congr 1
  exact tvr_congr fun n hn => by simp only [Nat.zero_add]; rw [h1 n hn]
/-- the reference's step: one digit more -/
theorem val_step {s : ByteArray} {i : Nat} (hi : i < s.size) : val 10 (s.extract 0 (i + 1)) = val 10 (s.extract 0 i) * 10 + dval (byt s i) := by
  have e1 : (s.extract 0 (i + 1)).size = i + 1 := by simp only [ByteArray.size_extract]; omega
  have e2 : (s.extract 0 i).size = i := by simp only [ByteArray.size_extract]; omega
  have a1 : tvr 10 (fun k => dval (byt (s.extract 0 (i + 1)) k)) 0 i = tvr 10 (fun k => dval (byt (s.extract 0 i) k)) 0 i := tvr_congr fun n hn => by
    show dval (byt (s.extract 0 (i + 1)) (0 + n)) = dval (byt (s.extract 0 i) (0 + n))
    rw [byt_extract (by omega) (by omega), byt_extract (by omega) (by omega)]
  have a2 : tvr 10 (fun k => dval (byt (s.extract 0 (i + 1)) k)) (0 + i) 1 = dval (byt s i) := by
    simp only [tvr, Nat.zero_add, Nat.add_zero, Nat.zero_mul]
    rw [byt_extract (by omega) (by omega), Nat.zero_add]
  unfold val
  rw [e1, e2, tvr_split 10 _ 0 i 1, a1, a2, Nat.pow_one]
end Go.Proofs.YticpdbnlbckbiaaGreatDoor

namespace Go.Proofs.YticpdbnlbckbiaaGreatDoor
open Go.RowKit
set_option linter.unusedVariables false
set_option linter.unusedSimpArgs false

set_option maxHeartbeats 1000000 in
theorem quotient_bb (t1 t2 : ByteArray) (w : World) (h : Digs w) (s1 : t1.size ≤ 140737488355328) (s2 : t2.size ≤ 140737488355328) (h1 : ¬ isT 10 t1) (h2 : ¬ isT 10 t2) : Calls Tryz.prog 19 #[.string t1, .string t2] w fun e w' => e = .returned (.tuple #[.slice none 0 0, .slice none 0 0, .int .i64 31]) ∧ Below w.heap.size w w' := by
  have Q2 := hide' (Parse_bad t1 10 (by omega) (by omega) (by omega) h1 w h)
  have Q4 := hide' (fun w' (k : Digs w') => Parse_bad t2 10 (by omega) (by omega) (by omega) h2 w' k)
  have HD := hide' h
  clear h h1 h2
  go_enter Tryz.func19, Tryz.ntmps19
  go_wp2_with fail
  refine Q2.out.mono ?_
  rintro e w1 ⟨rfl, b1⟩
  go_wp2_with fail
  refine (Q4.out _ (HD.out.below b1)).mono ?_
  rintro e w2 ⟨rfl, b2⟩
  go_wp2
  go_ret3
  exact ⟨rfl, b1.trans (b2.mono b1.size)⟩

set_option maxHeartbeats 1000000 in
theorem quotient_bo (t1 t2 : ByteArray) (w : World) (h : Digs w) (s1 : t1.size ≤ 140737488355328) (s2 : t2.size ≤ 140737488355328) (h1 : ¬ isT 10 t1) (h2 : isT 10 t2) : Calls Tryz.prog 19 #[.string t1, .string t2] w fun e w' => e = .returned (.tuple #[.slice none 0 0, .slice none 0 0, .int .i64 31]) ∧ Below w.heap.size w w' := by
  have Q2 := hide' (Parse_bad t1 10 (by omega) (by omega) (by omega) h1 w h)
  have Q4 := hide' (fun w' (k : Digs w') => Parse_ok t2 10 (by omega) (by omega) s2 h2 w' k)
  have HD := hide' h
  clear h h1 h2
  go_enter Tryz.func19, Tryz.ntmps19
  go_wp2_with fail
  refine Q2.out.mono ?_
  rintro e w1 ⟨rfl, b1⟩
  go_wp2_with fail
  refine (Q4.out _ (HD.out.below b1)).mono ?_
  rintro e w2 ⟨a2, rfl, n2⟩
  have b2 := n2.below
  go_wp2
  go_ret3
  exact ⟨rfl, b1.trans (b2.mono b1.size)⟩

set_option maxHeartbeats 1000000 in
theorem quotient_ob (t1 t2 : ByteArray) (w : World) (h : Digs w) (s1 : t1.size ≤ 140737488355328) (s2 : t2.size ≤ 140737488355328) (h1 : isT 10 t1) (h2 : ¬ isT 10 t2) : Calls Tryz.prog 19 #[.string t1, .string t2] w fun e w' => e = .returned (.tuple #[.slice none 0 0, .slice none 0 0, .int .i64 31]) ∧ Below w.heap.size w w' := by
  have Q2 := hide' (Parse_ok t1 10 (by omega) (by omega) s1 h1 w h)
  have Q4 := hide' (fun w' (k : Digs w') => Parse_bad t2 10 (by omega) (by omega) (by omega) h2 w' k)
  have HD := hide' h
  clear h h1 h2
  go_enter Tryz.func19, Tryz.ntmps19
  go_wp2_with fail
  refine Q2.out.mono ?_
  rintro e w1 ⟨a1, rfl, n1⟩
  have b1 := n1.below
  go_wp2_with fail
  refine (Q4.out _ (HD.out.below b1)).mono ?_
  rintro e w2 ⟨rfl, b2⟩
  go_wp2
  go_ret3
  exact ⟨rfl, b1.trans (b2.mono b1.size)⟩

set_option maxHeartbeats 1000000 in
theorem quotient_oo (t1 t2 : ByteArray) (w : World) (h : Digs w) (s1 : t1.size ≤ 140737488355328) (s2 : t2.size ≤ 140737488355328) (h1 : isT 10 t1) (h2 : isT 10 t2) (hz : val 10 t2 = 0) : Calls Tryz.prog 19 #[.string t1, .string t2] w fun e w' => e = .returned (.tuple #[.slice none 0 0, .slice none 0 0, .int .i64 31]) ∧ Below w.heap.size w w' := by
  have Q2 := hide' (Parse_ok t1 10 (by omega) (by omega) s1 h1 w h)
  have Q4 := hide' (fun w' (k : Digs w') => Parse_ok t2 10 (by omega) (by omega) s2 h2 w' k)
  have HD := hide' h
  have hb : (((bl 0 : Nat) : Int) == 0) = true := by rw [bl_beq]; rfl
  rw [hz] at Q4
  clear h h1 h2
  go_enter Tryz.func19, Tryz.ntmps19
  go_wp2_with fail
  refine Q2.out.mono ?_
  rintro e w1 ⟨a1, rfl, n1⟩
  have b1 := n1.below
  go_wp2_with fail
  refine (Q4.out _ (HD.out.below b1)).mono ?_
  rintro e w2 ⟨a2, rfl, n2⟩
  have b2 := n2.below
  go_wp2_with fail
  refine (Bits_any a2 (ln 0) (ln 0) 0 _ (Nat.le_refl _) (by rw [ln_zero]; omega) n2.seg).mono ?_
  rintro e w3 ⟨rfl, rfl⟩
  go_wp2
  go_ret3
  exact ⟨rfl, b1.trans (b2.mono b1.size)⟩

theorem quotient_bad (t1 t2 : ByteArray) (w : World) (h : Digs w) (s1 : t1.size ≤ 140737488355328) (s2 : t2.size ≤ 140737488355328) (hn : ¬ (isT 10 t1 ∧ isT 10 t2 ∧ val 10 t2 ≠ 0)) : Calls Tryz.prog 19 #[.string t1, .string t2] w fun e w' => e = .returned (.tuple #[.slice none 0 0, .slice none 0 0, .int .i64 31]) ∧ Below w.heap.size w w' := by
  by_cases h1 : isT 10 t1
  · by_cases h2 : isT 10 t2
    · exact quotient_oo t1 t2 w h s1 s2 h1 h2 (by
        by_cases hz : val 10 t2 = 0
        · exact hz
        · exact absurd ⟨h1, h2, hz⟩ hn)
    · exact quotient_ob t1 t2 w h s1 s2 h1 h2
  · by_cases h2 : isT 10 t2
    · exact quotient_bo t1 t2 w h s1 s2 h1 h2
    · exact quotient_bb t1 t2 w h s1 s2 h1 h2

theorem val_ln {s : ByteArray} (h : ∀ k, k < s.size → dval (byt s k) < 10) : ln (val 10 s) ≤ s.size / 8 + 1 :=
  ln_le_of_lt (Nat.lt_trans (val_lt h) (lt8 (by omega)))
theorem ten_ln (k : Nat) : ln (10 ^ k) ≤ k / 8 + 1 := ln_le_of_lt (lt8 (by omega))
theorem one_size (s : ByteArray) : (⟨#[49]⟩ ++ s : ByteArray).size = s.size + 1 := by rw [ByteArray.size_append, show (⟨#[49]⟩ : ByteArray).size = 1 from rfl]; omega

set_option maxHeartbeats 1000000 in
theorem decimal_ok (a b : ByteArray) (X Y : Nat) (w : World) (h : Digs w) (s1 : a.size ≤ 140737488351232) (s2 : b.size ≤ 140737488351232) (HP : ∀ w', Digs w' → Calls Tryz.prog 35 #[.int .i64 (b.size : Nat)] w' fun e w'' => ∃ p, e = .returned (.slice p (ln (10 ^ b.size)) (ln (10 ^ b.size))) ∧ New w' w'' p (10 ^ b.size) (ln (10 ^ b.size))) (h1 : isT 10 a) (h2 : tl10 b) (hX : val 10 a * 10 ^ b.size + val 10 b = X) (hY : 10 ^ b.size = Y) : Calls Tryz.prog 20 #[.string a, .string b] w fun e w' => ∃ p q, e = .returned (.tuple #[.slice p (ln X) (ln X), .slice q (ln Y) (ln Y), .int .i64 0]) ∧ New w w' p X (ln X) ∧ New w w' q Y (ln Y) := by
  have z1 := one_size b
  have i1 := one_isT.2 h2.2
  have v1 := one_val (s := b)
  have l1 := val_ln h1.2.2
  have l2 := ten_ln b.size
  have l3 := val_ln h2.2
  have l4 := val_ln i1.2.2
  rw [z1] at l4
  have e1 := ba_ne h2.1
  have e2 := ba_some h2.1
  have Q1 := hide' (Parse_ok a 10 (by omega) (by omega) (by omega) h1 w h)
  have Q2 := hide' (fun w' (k : Digs w') => Parse_ok (⟨#[49]⟩ ++ b) 10 (by omega) (by omega) (by omega) i1 w' k)
  have Q3 := hide' HP
  have HD := hide' h
  rw [hY] at Q3 l2 v1 hX
  generalize val 10 (⟨#[49]⟩ ++ b) = U at Q2 l4 v1
  generalize val 10 a = N at Q1 l1 hX
  generalize val 10 b = B at v1 l3 hX
  have l5 : ln (N * Y) ≤ 35184372087812 := Nat.le_trans (ln_prod (ln_lt N) (ln_lt Y)) (by omega)
  have Q4 := hide' (fun w' p2 p3 k2 k3 => Sub_is p2 p3 (ln U) (ln U) U (ln Y) (ln Y) Y B w' (Nat.le_refl _) (by omega) k2 (Nat.le_refl _) (by omega) k3 (by omega))
  have Q5 := hide' (fun w' p1 p3 k1 k3 => Mul_is p1 p3 (ln N) (ln N) N (ln Y) (ln Y) Y (N * Y) w' (Nat.le_refl _) (by omega) k1 (Nat.le_refl _) (by omega) k3 rfl)
  have Q6 := hide' (fun w' p5 p4 k5 k4 => Add_is p5 p4 (ln (N * Y)) (ln (N * Y)) (N * Y) (ln B) (ln B) B X w' (Nat.le_refl _) (by omega) k5 (Nat.le_refl _) (by omega) k4 hX)
  clear h h1 h2 HP hY i1 hX v1
  go_enter Tryz.func20, Tryz.ntmps20
  go_wp2_with fail
  refine Q1.out.mono ?_
  rintro e w1 ⟨p1, rfl, n1⟩
  go_wp2_with fail
  refine (Q2.out _ (HD.out.below n1.below)).mono ?_
  rintro e w2 ⟨p2, rfl, n2⟩
  have b2 := n1.below.trans (n2.below.mono n1.below.size)
  replace n1 := n1.later n2.below
  go_wp2_with fail
  refine (Q3.out _ (HD.out.below b2)).mono ?_
  rintro e w3 ⟨p3, rfl, n3⟩
  replace n1 := n1.later n3.below
  replace n2 := n2.later n3.below
  have g3 := n3.back b2
  go_wp2_with fail
  refine (Q4.out _ p2 p3 n2.seg n3.seg).mono ?_
  rintro e w4 ⟨p4, rfl, n4⟩
  replace n1 := n1.later n4.below
  replace g3 := g3.later n4.below
  go_wp2_with fail
  refine (Q5.out _ p1 p3 n1.seg g3.seg).mono ?_
  rintro e w5 ⟨p5, rfl, n5⟩
  replace n4 := n4.later n5.below
  replace g3 := g3.later n5.below
  have b5 := g3.below
  go_wp2_with fail
  refine (Q6.out _ p5 p4 n5.seg n4.seg).mono ?_
  rintro e w6 ⟨p6, rfl, n6⟩
  replace g3 := g3.later n6.below
  have g6 := n6.back b5
  go_wp2
  go_ret3
  exact ⟨p6, p3, rfl, g6, g3⟩

set_option maxHeartbeats 1000000 in
theorem decimal_bb (a b : ByteArray) (w : World) (h : Digs w) (s1 : a.size ≤ 140737488351232) (s2 : b.size ≤ 140737488351232) (h1 : ¬ isT 10 a) (h2 : ¬ isT 10 (⟨#[49]⟩ ++ b)) : Calls Tryz.prog 20 #[.string a, .string b] w fun e w' => e = .returned (.tuple #[.slice none 0 0, .slice none 0 0, .int .i64 31]) ∧ Below w.heap.size w w' := by
  have z1 := one_size b
  have Q2 := hide' (Parse_bad a 10 (by omega) (by omega) (by omega) h1 w h)
  have Q4 := hide' (fun w' (k : Digs w') => Parse_bad (⟨#[49]⟩ ++ b) 10 (by omega) (by omega) (by omega) h2 w' k)
  have HD := hide' h
  clear h h1 h2
  go_enter Tryz.func20, Tryz.ntmps20
  go_wp2_with fail
  refine Q2.out.mono ?_
  rintro e w1 ⟨rfl, b1⟩
  go_wp2_with fail
  refine (Q4.out _ (HD.out.below b1)).mono ?_
  rintro e w2 ⟨rfl, b2⟩
  go_wp2
  go_ret3
  exact ⟨rfl, b1.trans (b2.mono b1.size)⟩

set_option maxHeartbeats 1000000 in
theorem decimal_bo (a b : ByteArray) (w : World) (h : Digs w) (s1 : a.size ≤ 140737488351232) (s2 : b.size ≤ 140737488351232) (h1 : ¬ isT 10 a) (h2 : isT 10 (⟨#[49]⟩ ++ b)) : Calls Tryz.prog 20 #[.string a, .string b] w fun e w' => e = .returned (.tuple #[.slice none 0 0, .slice none 0 0, .int .i64 31]) ∧ Below w.heap.size w w' := by
  have z1 := one_size b
  have Q2 := hide' (Parse_bad a 10 (by omega) (by omega) (by omega) h1 w h)
  have Q4 := hide' (fun w' (k : Digs w') => Parse_ok (⟨#[49]⟩ ++ b) 10 (by omega) (by omega) (by omega) h2 w' k)
  have HD := hide' h
  clear h h1 h2
  go_enter Tryz.func20, Tryz.ntmps20
  go_wp2_with fail
  refine Q2.out.mono ?_
  rintro e w1 ⟨rfl, b1⟩
  go_wp2_with fail
  refine (Q4.out _ (HD.out.below b1)).mono ?_
  rintro e w2 ⟨a2, rfl, n2⟩
  have b2 := n2.below
  go_wp2
  go_ret3
  exact ⟨rfl, b1.trans (b2.mono b1.size)⟩

set_option maxHeartbeats 1000000 in
theorem decimal_ob (a b : ByteArray) (w : World) (h : Digs w) (s1 : a.size ≤ 140737488351232) (s2 : b.size ≤ 140737488351232) (h1 : isT 10 a) (h2 : ¬ isT 10 (⟨#[49]⟩ ++ b)) : Calls Tryz.prog 20 #[.string a, .string b] w fun e w' => e = .returned (.tuple #[.slice none 0 0, .slice none 0 0, .int .i64 31]) ∧ Below w.heap.size w w' := by
  have z1 := one_size b
  have Q2 := hide' (Parse_ok a 10 (by omega) (by omega) (by omega) h1 w h)
  have Q4 := hide' (fun w' (k : Digs w') => Parse_bad (⟨#[49]⟩ ++ b) 10 (by omega) (by omega) (by omega) h2 w' k)
  have HD := hide' h
  clear h h1 h2
  go_enter Tryz.func20, Tryz.ntmps20
  go_wp2_with fail
  refine Q2.out.mono ?_
  rintro e w1 ⟨a1, rfl, n1⟩
  have b1 := n1.below
  go_wp2_with fail
  refine (Q4.out _ (HD.out.below b1)).mono ?_
  rintro e w2 ⟨rfl, b2⟩
  go_wp2
  go_ret3
  exact ⟨rfl, b1.trans (b2.mono b1.size)⟩

set_option maxHeartbeats 1000000 in
theorem decimal_oo (a b : ByteArray) (w : World) (h : Digs w) (s1 : a.size ≤ 140737488351232) (s2 : b.size ≤ 140737488351232) (h1 : isT 10 a) (h2 : isT 10 (⟨#[49]⟩ ++ b)) (hz : b = ByteArray.empty) : Calls Tryz.prog 20 #[.string a, .string b] w fun e w' => e = .returned (.tuple #[.slice none 0 0, .slice none 0 0, .int .i64 31]) ∧ Below w.heap.size w w' := by
  have z1 := one_size b
  have Q2 := hide' (Parse_ok a 10 (by omega) (by omega) (by omega) h1 w h)
  have Q4 := hide' (fun w' (k : Digs w') => Parse_ok (⟨#[49]⟩ ++ b) 10 (by omega) (by omega) (by omega) h2 w' k)
  have HD := hide' h
  subst hz
  clear h h1 h2
  go_enter Tryz.func20, Tryz.ntmps20
  go_wp2_with fail
  refine Q2.out.mono ?_
  rintro e w1 ⟨a1, rfl, n1⟩
  have b1 := n1.below
  go_wp2_with fail
  refine (Q4.out _ (HD.out.below b1)).mono ?_
  rintro e w2 ⟨a2, rfl, n2⟩
  have b2 := n2.below
  go_wp2
  go_ret3
  exact ⟨rfl, b1.trans (b2.mono b1.size)⟩

theorem decimal_bad (a b : ByteArray) (w : World) (h : Digs w) (s1 : a.size ≤ 140737488351232) (s2 : b.size ≤ 140737488351232) (hn : ¬ (isT 10 a ∧ tl10 b)) : Calls Tryz.prog 20 #[.string a, .string b] w fun e w' => e = .returned (.tuple #[.slice none 0 0, .slice none 0 0, .int .i64 31]) ∧ Below w.heap.size w w' := by
  by_cases h1 : isT 10 a
  · by_cases h2 : isT 10 (⟨#[49]⟩ ++ b)
    · refine decimal_oo a b w h s1 s2 h1 h2 ?_
      have h3 : ¬ 0 < b.size := fun c => hn ⟨h1, c, one_isT.1 h2⟩
      exact ByteArray.ext (Array.eq_empty_of_size_eq_zero (by have : b.size = 0 := by omega
                                                              exact this))
    · exact decimal_ob a b w h s1 s2 h1 h2
  · by_cases h2 : isT 10 (⟨#[49]⟩ ++ b)
    · exact decimal_bo a b w h s1 s2 h1 h2
    · exact decimal_bb a b w h s1 s2 h1 h2

end Go.Proofs.YticpdbnlbckbiaaGreatDoor
