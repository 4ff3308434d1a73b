/-
  delta.Parse of what delta.Text writes.
-/
import Derived.Test.YtkfdgpidhghhdaaGreatDoorMem
import Derived.RangeFuncRecord
import Derived.Test.YtkfdgpidhghhdaaGreatDoorWPB
import Derived.Test.YtkfdgpidhghhdaaGreatDoorWX2
import Derived.Test.YtkfdgpidhghhdaaGreatDoorWE3
import Derived.Test.YtkfdgpidhghhdaaGreatDoorWX4
import Derived.Shelf.Strings.Prefix
namespace Go.Proofs.YtkfdgpidhghhdaaGreatDoor
open Go.RowKit
set_option linter.unusedVariables false
set_option linter.unusedSimpArgs false

/-- w' is w but for one block that is the iterator's own -/
structure Ch (c : Nat) (W W' : World) : Prop where
  os : W'.os = W.os
  tape : W'.tape = W.tape
  output : W'.output = W.output
  size : W'.heap.size = W.heap.size
  other : ∀ k, k ≠ c → W'.heap[k]? = W.heap[k]?
theorem Ch.set {c o : Nat} {W : World} (u : Value) : Ch c W (W.setCell ⟨c, o, none⟩ u) := ⟨rfl, rfl, rfl, by simp [World.setCell], fun k hk => Below.heap_setCell _ _ _ _ hk⟩
theorem Ch.trans {c : Nat} {W W1 W2 : World} (h : Ch c W W1) (k : Ch c W1 W2) : Ch c W W2 :=
  ⟨k.os.trans h.os, k.tape.trans h.tape, k.output.trans h.output, k.size.trans h.size, fun i hi => (k.other i hi).trans (h.other i hi)⟩
theorem Ch.below {c B : Nat} {W W' : World} (h : Ch c W W') (hB : B ≤ c) : Below B W W' := ⟨h.os, h.tape, h.output, Nat.le_of_eq h.size.symm, fun k hk => h.other k (by omega)⟩
/-- the four cells of a block, stored anew -/
theorem set4_is {c : Nat} {W : World} {u0 u1 u2 u3 : Value} {t : TypeId} (h : W.heap[c]? = some (.cells #[u0, u1, u2, u3] t (0, 0))) (v0 v1 v2 v3 : Value) :
    Ch c W ((((W.setCell ⟨c, 0, none⟩ v0).setCell ⟨c, 1, none⟩ v1).setCell ⟨c, 2, none⟩ v2).setCell ⟨c, 3, none⟩ v3) ∧
      ((((W.setCell ⟨c, 0, none⟩ v0).setCell ⟨c, 1, none⟩ v1).setCell ⟨c, 2, none⟩ v2).setCell ⟨c, 3, none⟩ v3).heap[c]? = some (.cells #[v0, v1, v2, v3] t (0, 0)) := by
  refine ⟨(((Ch.set v0).trans (Ch.set v1)).trans (Ch.set v2)).trans (Ch.set v3), ?_⟩
  simp [World.setCell, Array.getElem?_modify, h]
/-- a block of cells that can be stored into -/
def Blk (W : World) (c : Nat) (cur : Array Value) (t : TypeId) : Prop := W.heap[c]? = some (.cells cur t (0, 0))
theorem Blk.lt {W : World} {c : Nat} {cur : Array Value} {t : TypeId} (h : Blk W c cur t) : c < W.heap.size := (Array.getElem?_eq_some_iff.1 h).1
theorem Blk.later {W W' : World} {c : Nat} {cur : Array Value} {t : TypeId} (h : Blk W c cur t) (hb : Below W.heap.size W W') : Blk W' c cur t := (hb.block c h.lt).trans h
theorem Blk.cell {W : World} {c : Nat} {cur : Array Value} {t : TypeId} (h : Blk W c cur t) (o : Nat) : W.cell? ⟨c, o, none⟩ = cur[o]? := by simp [World.cell?, show W.heap[c]? = _ from h]
theorem Blk.frozen {W : World} {c : Nat} {cur : Array Value} {t : TypeId} (h : Blk W c cur t) (o : Nat) : W.frozen? ⟨c, o, none⟩ = false := frozen_of_row W c o cur t h
theorem Blk.new (W : World) (cur : Array Value) (t : TypeId) : Blk (W.alloc (.cells cur t)) W.heap.size cur t := World.alloc_heap_new W _
theorem Seg.ch {c : Nat} {W W' : World} {ao : Option Addr} {X n : Nat} (h : Seg W ao X n) (k : Ch c W W') (hno : ∀ o i, W.cell? ⟨c, o, none⟩ ≠ some (.int .u32 i)) : Seg W' ao X n := by
  refine ⟨h.1, fun hn => ?_⟩
  obtain ⟨b, off, e, hl, hc⟩ := h.2 hn
  refine ⟨b, off, e, by rw [k.size]; exact hl, fun i hi => ?_⟩
  have h1 := hc i hi
  rw [World.cell?_of_block (w := W) (a := ⟨b, off + i, none⟩) (k.other b fun e => hno (off + i) _ (by rw [← e]; exact h1))]
  exact h1
theorem Blk.ch {c d : Nat} {W W' : World} {cur : Array Value} {t : TypeId} (h : Blk W d cur t) (k : Ch c W W') (hne : d ≠ c) : Blk W' d cur t := (k.other d hne).trans h
/-- all cells are what a whole number's cells are -/
theorem Blk.no {W : World} {c : Nat} {cur : Array Value} {t : TypeId} (h : Blk W c cur t) (hc : ∀ u ∈ cur.toList, ∀ i, u ≠ .int .u32 i) : ∀ o i, W.cell? ⟨c, o, none⟩ ≠ some (.int .u32 i) := fun o i e => by
  rw [h.cell o] at e
  obtain ⟨hl, he⟩ := Array.getElem?_eq_some_iff.1 e
  exact hc _ (by rw [← he]; simp) i rfl
theorem Blk.set4 {c : Nat} {W : World} {u0 u1 u2 u3 : Value} {t : TypeId} (h : Blk W c #[u0, u1, u2, u3] t) (v0 v1 v2 v3 : Value) :
    Ch c W ((((W.setCell ⟨c, 0, none⟩ v0).setCell ⟨c, 1, none⟩ v1).setCell ⟨c, 2, none⟩ v2).setCell ⟨c, 3, none⟩ v3) ∧ Blk ((((W.setCell ⟨c, 0, none⟩ v0).setCell ⟨c, 1, none⟩ v1).setCell ⟨c, 2, none⟩ v2).setCell ⟨c, 3, none⟩ v3) c #[v0, v1, v2, v3] t := set4_is h v0 v1 v2 v3
theorem Blk.set8 {c : Nat} {W : World} {u0 u1 u2 u3 u4 u5 u6 u7 : Value} {t : TypeId} (h : Blk W c #[u0, u1, u2, u3, u4, u5, u6, u7] t) (v0 v1 v2 v3 v4 v5 v6 v7 : Value) :
    Ch c W ((((((((W.setCell ⟨c, 0, none⟩ v0).setCell ⟨c, 1, none⟩ v1).setCell ⟨c, 2, none⟩ v2).setCell ⟨c, 3, none⟩ v3).setCell ⟨c, 4, none⟩ v4).setCell ⟨c, 5, none⟩ v5).setCell ⟨c, 6, none⟩ v6).setCell ⟨c, 7, none⟩ v7) ∧
      Blk ((((((((W.setCell ⟨c, 0, none⟩ v0).setCell ⟨c, 1, none⟩ v1).setCell ⟨c, 2, none⟩ v2).setCell ⟨c, 3, none⟩ v3).setCell ⟨c, 4, none⟩ v4).setCell ⟨c, 5, none⟩ v5).setCell ⟨c, 6, none⟩ v6).setCell ⟨c, 7, none⟩ v7) c #[v0, v1, v2, v3, v4, v5, v6, v7] t := by
  refine ⟨(((((((Ch.set v0).trans (Ch.set v1)).trans (Ch.set v2)).trans (Ch.set v3)).trans (Ch.set v4)).trans (Ch.set v5)).trans (Ch.set v6)).trans (Ch.set v7), ?_⟩
  simp [Blk, World.setCell, Array.getElem?_modify, show W.heap[c]? = _ from h]

theorem Blk.set3 {c : Nat} {W : World} {u0 u1 u2 : Value} {t : TypeId} (h : Blk W c #[u0, u1, u2] t) (v0 v1 v2 : Value) :
    Ch c W (((W.setCell ⟨c, 0, none⟩ v0).setCell ⟨c, 1, none⟩ v1).setCell ⟨c, 2, none⟩ v2) ∧ Blk (((W.setCell ⟨c, 0, none⟩ v0).setCell ⟨c, 1, none⟩ v1).setCell ⟨c, 2, none⟩ v2) c #[v0, v1, v2] t := by
  refine ⟨((Ch.set v0).trans (Ch.set v1)).trans (Ch.set v2), ?_⟩
  simp [Blk, World.setCell, Array.getElem?_modify, show W.heap[c]? = _ from h]
end Go.Proofs.YtkfdgpidhghhdaaGreatDoor

namespace Go.Proofs.YtkfdgpidhghhdaaGreatDoor
open Go.RowKit
set_option linter.unusedVariables false
set_option linter.unusedSimpArgs false

set_option maxHeartbeats 2000000 in
set_option maxRecDepth 100000 in
theorem qParse_gen (text b : ByteArray) (neg : Bool) (X Y V : Nat) (Z : Int) (w : World) (h : Digs w) (H0 : ∀ w', Calls Tryz.prog 22 #[.string text, .string ⟨#[45]⟩] w' fun e w'' => e = .returned (.tuple #[.string b, .bool neg]) ∧ w'' = w') (H1 : ∀ w', Digs w' → Calls Tryz.prog 23 #[.string b] w' fun e w'' => ∃ p q, e = .returned (.tuple #[.slice p (ln X) (ln X), .slice q (ln Y) (ln Y), .int .i64 0]) ∧ New w' w'' p X (ln X) ∧ New w' w'' q Y (ln Y)) (lX : ln X ≤ 35184372088000) (lY : ln Y ≤ 35184372088000) (hL : Low (sg neg X) (Y : Int) Z V) :
    Calls Tryz.prog 12 #[.string text] w fun e w' => ∃ p q, e = .returned (.tuple #[.agg #[.bool (ng Z), .slice p (ln (am Z)) (ln (am Z)), .slice q (ln V) (ln V)], .int .i64 0]) ∧ Below w.heap.size w w' ∧ Seg w' p (am Z) (ln (am Z)) ∧ Seg w' q V (ln V) := by
  have G0 := hide' H0
  have G1 := hide' H1
  have G2 := hide' (fun w' p q k1 k2 => lowest_is neg p (ln X) (ln X) X q (ln Y) (ln Y) Y V Z w' (Nat.le_refl _) (by omega) k1 (Nat.le_refl _) (by omega) k2 hL)
  have bA := below_alloc (w := w) (.cells #[.bool false, .slice none 0 0, .slice none 0 0] 27)
  have qR := Blk.new w #[.bool false, .slice none 0 0, .slice none 0 0] 27
  have HD := hide' (h.below bA)
  clear H0 H1 h hL
  go_enter Tryz.func12, Tryz.ntmps12
  go_wp2_with fail
  refine (G0.out _).mono ?_
  rintro e w1 ⟨rfl, rfl⟩
  go_wp2_with fail
  refine (G1.out _ HD.out).mono ?_
  rintro e w2 ⟨p, q, rfl, n1, n2⟩
  have b2 := n1.below
  go_wp2_with fail
  refine (G2.out _ p q n1.seg n2.seg).mono ?_
  rintro e w3 ⟨p3, q3, rfl, n3, n4⟩
  have b3 := n3.below
  have qR3 := (qR.later b2).later b3
  have v0 := qR3.cell 0
  have v1 := qR3.cell 1
  have v2 := qR3.cell 2
  simp only [List.getElem?_toArray, List.getElem?_cons_zero, List.getElem?_cons_succ] at v0 v1 v2
  have fz := fun o => qR3.frozen o
  go_wp2
  obtain ⟨c9, q9⟩ := qR3.set3 (.bool (ng Z)) (.slice p3 (ln (am Z)) (ln (am Z))) (.slice q3 (ln V) (ln V))
  have hno := qR3.no (by simp)
  have z0 := q9.cell 0
  have z1 := q9.cell 1
  have z2 := q9.cell 2
  simp only [List.getElem?_toArray, List.getElem?_cons_zero, List.getElem?_cons_succ] at z0 z1 z2
  clear v0 v1 v2
  have b9 := (bA.trans ((b2.trans (b3.mono b2.size)).mono bA.size)).trans (c9.below (Nat.le_refl _))
  refine bodyPost_ret (v := .tuple #[.agg #[.bool (ng Z), .slice p3 (ln (am Z)) (ln (am Z)), .slice q3 (ln V) (ln V)], .int .i64 0]) (by rw [results_ct rfl]; go_simp) rfl ?_
  exact ⟨p3, q3, rfl, b9, n3.seg.ch c9 hno, n4.seg.ch c9 hno⟩
theorem low_own {Z : Int} {V : Nat} (hV : 0 < V) (hc : Nat.gcd (am Z) V = 1) : Low (sg (ng Z) (am Z)) (V : Int) Z V := by
  rw [sg_na]
  exact Low.self hV hc
/-- the text that Text writes: its body, with the sign ahead -/
theorem qParse_body (b : ByteArray) (Y V : Nat) (Z : Int) (w : World) (h : Digs w) (hb : 0 < b.size) (hb0 : byt b 0 ≠ 45)
    (H1 : ∀ w', Digs w' → Calls Tryz.prog 23 #[.string b] w' fun e w'' => ∃ p q, e = .returned (.tuple #[.slice p (ln (am Z)) (ln (am Z)), .slice q (ln V) (ln V), .int .i64 0]) ∧ New w' w'' p (am Z) (ln (am Z)) ∧ New w' w'' q V (ln V)) (lX : ln (am Z) ≤ 35184372088000) (lY : ln V ≤ 35184372088000) (hV : 0 < V) (hc : Nat.gcd (am Z) V = 1) :
    Calls Tryz.prog 12 #[.string (if ng Z = true then ⟨#[45]⟩ ++ b else b)] w fun e w' => ∃ p q, e = .returned (.tuple #[.agg #[.bool (ng Z), .slice p (ln (am Z)) (ln (am Z)), .slice q (ln V) (ln V)], .int .i64 0]) ∧ Below w.heap.size w w' ∧ Seg w' p (am Z) (ln (am Z)) ∧ Seg w' q V (ln V) := by
  by_cases hn : ng Z = true
  · rw [if_pos hn]
    refine qParse_gen _ b true (am Z) V V Z w h (fun w' => ?_) H1 lX lY (by rw [← hn]; exact low_own hV hc)
    have := cutMinus_yes ((⟨#[45]⟩ : ByteArray) ++ b) w' (by rw [ByteArray.size_append]; show 0 < 1 + _; omega) (cons_byt b)
    rw [cons_ext] at this
    exact this
  · rw [if_neg hn]
    have hf : ng Z = false := by simpa using hn
    refine qParse_gen _ b false (am Z) V V Z w h (fun w' => cutMinus_no b w' (fun h => hb0 h.2)) H1 lX lY (by rw [← hf]; exact low_own hV hc)
theorem isTz_body {Z : Int} {u : ByteArray} (hu : isTz (ng Z) (am Z) u) : ∃ t, isTx 10 (am Z) t ∧ u = if ng Z = true then ⟨#[45]⟩ ++ t else t := by
  obtain ⟨t, ht, e⟩ := hu
  refine ⟨t, ht, ?_⟩
  rw [e]
  by_cases hn : ng Z = true
  · have h0 : am Z ≠ 0 := by
      have : Z < 0 := by simpa [ng] using hn
      unfold am
      omega
    rw [if_pos ⟨hn, h0⟩, if_pos hn]
  · rw [if_neg (fun h => hn h.1), if_neg hn]
set_option maxRecDepth 100000 in
theorem qParse_own (Z : Int) (V : Nat) (u d : ByteArray) (w : World) (h : Digs w) (hu : isTz (ng Z) (am Z) u) (hd : isTx 10 V d) (lX : ln (am Z) ≤ 134217729) (lY : ln V ≤ 134217729) (hV : 0 < V) (hc : Nat.gcd (am Z) V = 1) :
    Calls Tryz.prog 12 #[.string (if V = 1 then u else u ++ ⟨#[47]⟩ ++ d)] w fun e w' => ∃ p q, e = .returned (.tuple #[.agg #[.bool (ng Z), .slice p (ln (am Z)) (ln (am Z)), .slice q (ln V) (ln V)], .int .i64 0]) ∧ Below w.heap.size w w' ∧ Seg w' p (am Z) (ln (am Z)) ∧ Seg w' q V (ln V) := by
  obtain ⟨t, ht, rfl⟩ := isTz_body hu
  have zt := ht.size_le (by omega) (ln_lt (am Z))
  have zd := hd.size_le (by omega) (ln_lt V)
  by_cases h1 : V = 1
  · subst h1
    rw [if_pos rfl]
    exact qParse_body t 1 1 Z w h ht.1 ht.head (fun w' k => parts_int t (am Z) w' k ht (by omega)) (by omega) (by omega) hV hc
  · rw [if_neg h1]
    have e : (if ng Z = true then (⟨#[45]⟩ : ByteArray) ++ t else t) ++ ⟨#[47]⟩ ++ d = if ng Z = true then (⟨#[45]⟩ : ByteArray) ++ (t ++ ⟨#[47]⟩ ++ d) else t ++ ⟨#[47]⟩ ++ d := by
      by_cases hn : ng Z = true
      · rw [if_pos hn, if_pos hn, ByteArray.append_assoc, ByteArray.append_assoc, ByteArray.append_assoc]
      · rw [if_neg hn, if_neg hn]
    rw [e]
    have hb : 0 < (t ++ (⟨#[47]⟩ : ByteArray) ++ d).size := by rw [frac_size]; omega
    have hb0 : byt (t ++ (⟨#[47]⟩ : ByteArray) ++ d) 0 ≠ 45 := by
      rw [byt_appL (by rw [ByteArray.size_append]; have := ht.1; omega), byt_appL ht.1]
      exact ht.head
    have HP := fun w' (k : Digs w') => parts_frac t d (am Z) V w' k ht hd (by omega) (by omega) (by omega)
    clear e zt zd ht hd
    generalize t ++ (⟨#[47]⟩ : ByteArray) ++ d = b at hb hb0 HP ⊢
    exact qParse_body b V V Z w h hb hb0 HP (by omega) (by omega) hV hc
end Go.Proofs.YtkfdgpidhghhdaaGreatDoor

namespace Go.Proofs
open Go.Shelf
def Tryz.lays207_ren : Go.Shelf.Ren := ⟨fun | 207 => 59 | n => n, fun | 9 => 9 | 4 => 4 | 3 => 3 | n => n, fun | n => n⟩
theorem Tryz.lays207 : Go.Proofs.Lays.n207 Tryz.prog Tryz.lays207_ren := {
  mixed := by kernel_rfl
  f207 := Tryz.func59.trans (congrArg some (by kernel_rfl))
  t3 := Tryz.underlying3
  a3 := Tryz.isAgg3
  z3 := Tryz.sizeOf3
  v3 := Tryz.zeroValue3
  t4 := Tryz.underlying4
  a4 := Tryz.isAgg4
  z4 := Tryz.sizeOf4
  v4 := Tryz.zeroValue4
  t9 := Tryz.underlying9
  a9 := Tryz.isAgg9
  z9 := Tryz.sizeOf9
  v9 := Tryz.zeroValue9 }
def Tryz.lays101_ren : Go.Shelf.Ren := ⟨fun | 101 => 21 | 208 => 40 | 206 => 66 | n => n, fun | 9 => 9 | 4 => 4 | 3 => 3 | n => n, fun | n => n⟩
theorem Tryz.lays101 : Go.Proofs.Lays.n101 Tryz.prog Tryz.lays101_ren := {
  mixed := by kernel_rfl
  f101 := Tryz.func21.trans (congrArg some (by kernel_rfl))
  f206 := Tryz.func66.trans (congrArg some (by kernel_rfl))
  f208 := Tryz.func40.trans (congrArg some (by kernel_rfl))
  t3 := Tryz.underlying3
  a3 := Tryz.isAgg3
  z3 := Tryz.sizeOf3
  v3 := Tryz.zeroValue3
  t4 := Tryz.underlying4
  a4 := Tryz.isAgg4
  z4 := Tryz.sizeOf4
  v4 := Tryz.zeroValue4
  t9 := Tryz.underlying9
  a9 := Tryz.isAgg9
  z9 := Tryz.sizeOf9
  v9 := Tryz.zeroValue9 }
end Go.Proofs
namespace Go.Proofs.YtkfdgpidhghhdaaGreatDoor
open Go.RowKit
set_option linter.unusedVariables false
theorem app_list (a b : ByteArray) : (a ++ b).data.toList = a.data.toList ++ b.data.toList := by rw [ByteArray.data_append, Array.toList_append]
theorem byt_left {a b : ByteArray} {j : Nat} (h : j < a.size) : byt (a ++ b) j = byt a j := by
  rw [byt_of (by rw [ByteArray.size_append]; omega), byt_of h, ByteArray.getElem_append_left h]
theorem byt_right {a b : ByteArray} {j : Nat} (h : j < b.size) : byt (a ++ b) (a.size + j) = byt b j := by
  rw [byt_of (by rw [ByteArray.size_append]; omega), byt_of h, ByteArray.getElem_append_right (by omega)]
  congr 2
  omega
theorem ex_left (a b : ByteArray) : (a ++ b).extract 0 a.size = a := by
  refine ba_ext (by rw [ByteArray.size_extract, ByteArray.size_append]; omega) fun j hj => ?_
  have hj2 : j < a.size := by rw [ByteArray.size_extract, ByteArray.size_append] at hj; omega
  rw [byt_ex (by rw [ByteArray.size_append]; omega) hj2, byt_left hj2]
theorem ex_right (a b : ByteArray) : (a ++ b).extract a.size (a.size + b.size) = b := by
  refine ba_ext (by rw [ByteArray.size_extract, ByteArray.size_append]; omega) fun j hj => ?_
  have hs : ((a ++ b).extract a.size (a.size + b.size)).size = b.size := by rw [ByteArray.size_extract, ByteArray.size_append]; omega
  rw [hs] at hj
  rw [byt_of (by rw [hs]; exact hj), ByteArray.getElem_extract, ← byt_of (by rw [ByteArray.size_append]; omega), byt_right hj]
theorem hasSuf_is (s : ByteArray) (b : Bool) (hb : Lib.hasSuffix s.data.toList ((⟨#[100]⟩ : ByteArray).data.toList) = b) (hs : s.size ≤ 140737488355328) (w : World) :
    Calls Tryz.prog 59 #[.string s, .string ⟨#[100]⟩] w fun e w' => e = .returned (.bool b) ∧ w' = w := by
  rw [← hb]; exact Any.stringslite_HasSuffix Tryz.lays207 s ⟨#[100]⟩ w (by omega)
theorem suf_yes (s : ByteArray) : Lib.hasSuffix (s ++ ⟨#[100]⟩).data.toList ((⟨#[100]⟩ : ByteArray).data.toList) = true := by
  rw [app_list]; unfold Lib.hasSuffix
  rw [List.isSuffixOf_iff_suffix]
  exact ⟨_, rfl⟩
theorem suf_no {s : ByteArray} (h0 : 0 < s.size) (h : byt s (s.size - 1) ≠ 100) : Lib.hasSuffix s.data.toList ((⟨#[100]⟩ : ByteArray).data.toList) = false := by
  cases hc : Lib.hasSuffix s.data.toList ((⟨#[100]⟩ : ByteArray).data.toList) with
  | false => rfl
  | true =>
    exfalso
    unfold Lib.hasSuffix at hc
    rw [List.isSuffixOf_iff_suffix] at hc
    obtain ⟨t, ht⟩ := hc
    have e : s = (⟨t.toArray⟩ : ByteArray) ++ ⟨#[100]⟩ := by
      cases s with
      | mk d =>
        apply ByteArray.ext
        rw [ByteArray.data_append]
        apply Array.toList_inj.1
        rw [Array.toList_append]
        exact ht.symm
    rw [e] at h
    have e1 : ((⟨t.toArray⟩ : ByteArray) ++ (⟨#[100]⟩ : ByteArray)).size - 1 = (⟨t.toArray⟩ : ByteArray).size + 0 := by
      rw [ByteArray.size_append, show (⟨#[100]⟩ : ByteArray).size = 1 from rfl]; omega
    rw [e1, byt_right (by decide)] at h
    exact h (by decide)
set_option maxHeartbeats 1000000 in
theorem cutSuf_yes (s : ByteArray) (hs : s.size < 140737488355328) (w : World) :
    Calls Tryz.prog 19 #[.string (s ++ ⟨#[100]⟩), .string ⟨#[100]⟩] w fun e w' => e = .returned (.tuple #[.string s, .bool true]) ∧ w' = w := by
  have e0 : (⟨#[100]⟩ : ByteArray).size = 1 := rfl
  have ez : (s ++ (⟨#[100]⟩ : ByteArray)).size = s.size + 1 := by rw [ByteArray.size_append, e0]
  have H := hide' (fun w => hasSuf_is (s ++ ⟨#[100]⟩) true (suf_yes s) (by rw [ez]; omega) w)
  have ex := ex_left s ⟨#[100]⟩
  obtain ⟨S, hS⟩ : ∃ S, s ++ (⟨#[100]⟩ : ByteArray) = S := ⟨_, rfl⟩
  rw [hS] at ez H ex ⊢
  have wr : IntKind.i64.wrap ((S.size : Int) - 1) = (s.size : Int) := by rw [IntKind.wrap_i64]; omega
  have H2 : ∀ w, Calls Tryz.prog 34 #[.string S, .string ⟨#[100]⟩] w fun e w' => e = .returned (.tuple #[.string s, .bool true]) ∧ w' = w := fun w => by
    clear hS
    go_enter Tryz.func34, Tryz.ntmps34
    go_wp2_with fail
    refine (H.out _).mono ?_
    rintro e w1 ⟨rfl, rfl⟩
    go_wp2
    go_ret2
    exact ⟨by first | rfl | simp only [ex], rfl⟩
  have H3 := hide' H2
  clear H2 H ex ez hS wr
  go_enter Tryz.func19, Tryz.ntmps19
  go_wp2_with fail
  refine (H3.out _).mono ?_
  rintro e w1 ⟨rfl, rfl⟩
  go_wp2
  go_ret2
  exact ⟨rfl, rfl⟩
set_option maxHeartbeats 1000000 in
theorem cutSuf_no (s : ByteArray) (hs : s.size ≤ 140737488355328) (h0 : 0 < s.size) (h : byt s (s.size - 1) ≠ 100) (w : World) :
    Calls Tryz.prog 19 #[.string s, .string ⟨#[100]⟩] w fun e w' => e = .returned (.tuple #[.string s, .bool false]) ∧ w' = w := by
  have H := hide' (fun w => hasSuf_is s false (suf_no h0 h) hs w)
  clear h h0
  have H2 : ∀ w, Calls Tryz.prog 34 #[.string s, .string ⟨#[100]⟩] w fun e w' => e = .returned (.tuple #[.string s, .bool false]) ∧ w' = w := fun w => by
    go_enter Tryz.func34, Tryz.ntmps34
    go_wp2_with fail
    refine (H.out _).mono ?_
    rintro e w1 ⟨rfl, rfl⟩
    go_wp2
    go_ret2
    exact ⟨rfl, rfl⟩
  have H3 := hide' H2
  clear H2 H
  go_enter Tryz.func19, Tryz.ntmps19
  go_wp2_with fail
  refine (H3.out _).mono ?_
  rintro e w1 ⟨rfl, rfl⟩
  go_wp2
  go_ret2
  exact ⟨rfl, rfl⟩
theorem trim_plus (u : ByteArray) (w : World) : Calls Tryz.prog 21 #[.string (⟨#[43]⟩ ++ u), .string ⟨#[43]⟩] w fun e w' => e = .returned (.string u) ∧ w' = w := by
  have := Any.strings_TrimPrefix Tryz.lays101 (⟨#[43]⟩ ++ u) ⟨#[43]⟩ w
  have e : (⟨(Lib.trimPrefix ((⟨#[43]⟩ : ByteArray) ++ u).data.toList ((⟨#[43]⟩ : ByteArray).data.toList)).toArray⟩ : ByteArray) = u := by
    rw [app_list]; unfold Lib.trimPrefix Lib.hasPrefix
    rw [if_pos (List.isPrefixOf_iff_prefix.2 ⟨_, rfl⟩), List.drop_left]
  rw [e] at this
  exact this
theorem trim_minus (u : ByteArray) (w : World) : Calls Tryz.prog 21 #[.string (⟨#[45]⟩ ++ u), .string ⟨#[43]⟩] w fun e w' => e = .returned (.string (⟨#[45]⟩ ++ u)) ∧ w' = w := by
  have := Any.strings_TrimPrefix Tryz.lays101 (⟨#[45]⟩ ++ u) ⟨#[43]⟩ w
  have e : (⟨(Lib.trimPrefix ((⟨#[45]⟩ : ByteArray) ++ u).data.toList ((⟨#[43]⟩ : ByteArray).data.toList)).toArray⟩ : ByteArray) = ⟨#[45]⟩ ++ u := by
    rw [app_list]; unfold Lib.trimPrefix Lib.hasPrefix
    rw [if_neg (fun h => by
      rw [List.isPrefixOf_iff_prefix] at h
      obtain ⟨t, ht⟩ := h
      have e1 : ((⟨#[43]⟩ : ByteArray).data.toList) = [43] := rfl
      have e2 : ((⟨#[45]⟩ : ByteArray).data.toList) = [45] := rfl
      rw [e1, e2] at ht
      simp at ht), ← app_list]
  rw [e] at this
  exact this
end Go.Proofs.YtkfdgpidhghhdaaGreatDoor

namespace Go.Proofs.YtkfdgpidhghhdaaGreatDoor
open Go.RowKit
set_option linter.unusedVariables false
set_option maxHeartbeats 2000000 in
set_option maxRecDepth 100000 in
theorem cut_z (s : ByteArray) (hs : s.size ≤ 140737488355328) (h0 : 0 < s.size) (h : byt s (s.size - 1) ≠ 100) (w : World) :
    Calls Tryz.prog 11 #[.string s] w fun e w' => e = .returned (.tuple #[.string s, .string ⟨#[48]⟩]) ∧ Below w.heap.size w w' := by
  have C1 := hide' (fun w => cutSuf_no s hs h0 h w)
  clear h h0
  go_enter Tryz.func11, Tryz.ntmps11
  go_wp2_with fail
  refine (C1.out _).mono ?_
  rintro e w1 ⟨rfl, hw⟩
  rw [hw]
  clear hw
  go_wp2
  go_ret2
  exact ⟨rfl, Below.refl _ _⟩
set_option maxHeartbeats 2000000 in
set_option maxRecDepth 100000 in
theorem cut_p (a u : ByteArray) (ha : 1 ≤ a.size) (hs : a.size + u.size + 2 ≤ 140737488355328) (hu : ∀ j, j < u.size → byt u j ≠ 43 ∧ byt u j ≠ 45 ∧ byt u j < 128) (w : World) :
    Calls Tryz.prog 11 #[.string (a ++ (⟨#[43]⟩ ++ u ++ ⟨#[100]⟩))] w fun e w' => e = .returned (.tuple #[.string a, .string u]) ∧ Below w.heap.size w w' := by
  have e1 : (⟨#[43]⟩ : ByteArray).size = 1 := rfl
  obtain ⟨B, hB⟩ : ∃ B, a ++ (⟨#[43]⟩ ++ u) = B := ⟨_, rfl⟩
  have hsz : B.size = a.size + (1 + u.size) := by rw [← hB, ByteArray.size_append, ByteArray.size_append, e1]
  have hS : a ++ (⟨#[43]⟩ ++ u ++ ⟨#[100]⟩) = B ++ ⟨#[100]⟩ := by rw [← hB, assocB a]
  have x1 : B.extract 0 a.size = a := by rw [← hB]; exact ex_left _ _
  have x2 : B.extract a.size B.size = ⟨#[43]⟩ ++ u := by
    have h := ex_right a (⟨#[43]⟩ ++ u)
    rw [hB, ByteArray.size_append, e1, ← hsz] at h
    exact h
  have hat : byt B a.size = 43 := by
    have h := byt_right (a := a) (b := (⟨#[43]⟩ : ByteArray) ++ u) (j := 0) (by rw [ByteArray.size_append, e1]; omega)
    rw [hB, Nat.add_zero, byt_left (by rw [e1]; omega)] at h
    rw [h]; decide
  have hb : ∀ j, a.size < j → j < B.size → byt B j ≠ 43 ∧ byt B j ≠ 45 ∧ byt B j < 128 := fun j h1 h2 => by
    obtain ⟨t, rfl⟩ : ∃ t, j = a.size + (1 + t) := ⟨j - a.size - 1, by omega⟩
    have h := byt_right (a := a) (b := (⟨#[43]⟩ : ByteArray) ++ u) (j := 1 + t) (by rw [ByteArray.size_append, e1]; omega)
    have h3 := byt_right (a := (⟨#[43]⟩ : ByteArray)) (b := u) (j := t) (by omega)
    rw [e1] at h3
    rw [hB, h3] at h
    rw [h]
    exact hu t (by omega)
  have C1 := hide' (fun w => cutSuf_yes B (by omega) w)
  have L1 := hide' (fun w => lastAny_is B a.size (by omega) (by omega) (by omega) (by first | exact Or.inl hat | exact Or.inr hat) hb w)
  have T1' : ∀ w, Calls Tryz.prog 21 #[.string (B.extract a.size B.size), .string ⟨#[43]⟩] w fun e w' => e = .returned (.string u) ∧ w' = w := fun w => by rw [x2]; exact trim_plus u w
  have T1 := hide' T1'
  have mx : max ((a.size : Nat) : Int) 0 = (a.size : Nat) := by omega
  have lz : ((a.size : Nat) : Int) ≤ (B.size : Int) := by omega
  have l0 : ¬ (((a.size : Nat) : Int) < 0) := by omega
  rw [hS]
  obtain ⟨X, hX⟩ : ∃ X, B ++ (⟨#[100]⟩ : ByteArray) = X := ⟨_, rfl⟩
  rw [hX] at C1 ⊢
  clear hS hX hB hat hb hu T1' x2 hsz
  go_enter Tryz.func11, Tryz.ntmps11
  go_wp2_with fail
  refine (C1.out _).mono ?_
  rintro e w1 ⟨rfl, hw⟩
  rw [hw]
  clear hw
  go_wp2_with fail
  refine (L1.out _).mono ?_
  rintro e w2 ⟨rfl, b2⟩
  go_wp2_with fail
  try simp only [mx]
  go_quiet ((go_at_call 21; exact Calls.quiet_of_same (T1.out _)))
  go_wp2
  go_ret2
  exact ⟨by first | rfl | simp only [x1], b2.trans (Dr.below (w := w2) ⟨_, rfl⟩ w.heap.size)⟩
set_option maxHeartbeats 2000000 in
set_option maxRecDepth 100000 in
theorem cut_n (a u : ByteArray) (ha : 1 ≤ a.size) (hs : a.size + u.size + 2 ≤ 140737488355328) (hu : ∀ j, j < u.size → byt u j ≠ 43 ∧ byt u j ≠ 45 ∧ byt u j < 128) (w : World) :
    Calls Tryz.prog 11 #[.string (a ++ (⟨#[45]⟩ ++ u ++ ⟨#[100]⟩))] w fun e w' => e = .returned (.tuple #[.string a, .string (⟨#[45]⟩ ++ u)]) ∧ Below w.heap.size w w' := by
  have e1 : (⟨#[45]⟩ : ByteArray).size = 1 := rfl
  obtain ⟨B, hB⟩ : ∃ B, a ++ (⟨#[45]⟩ ++ u) = B := ⟨_, rfl⟩
  have hsz : B.size = a.size + (1 + u.size) := by rw [← hB, ByteArray.size_append, ByteArray.size_append, e1]
  have hS : a ++ (⟨#[45]⟩ ++ u ++ ⟨#[100]⟩) = B ++ ⟨#[100]⟩ := by rw [← hB, assocB a]
  have x1 : B.extract 0 a.size = a := by rw [← hB]; exact ex_left _ _
  have x2 : B.extract a.size B.size = ⟨#[45]⟩ ++ u := by
    have h := ex_right a (⟨#[45]⟩ ++ u)
    rw [hB, ByteArray.size_append, e1, ← hsz] at h
    exact h
  have hat : byt B a.size = 45 := by
    have h := byt_right (a := a) (b := (⟨#[45]⟩ : ByteArray) ++ u) (j := 0) (by rw [ByteArray.size_append, e1]; omega)
    rw [hB, Nat.add_zero, byt_left (by rw [e1]; omega)] at h
    rw [h]; decide
  have hb : ∀ j, a.size < j → j < B.size → byt B j ≠ 43 ∧ byt B j ≠ 45 ∧ byt B j < 128 := fun j h1 h2 => by
    obtain ⟨t, rfl⟩ : ∃ t, j = a.size + (1 + t) := ⟨j - a.size - 1, by omega⟩
    have h := byt_right (a := a) (b := (⟨#[45]⟩ : ByteArray) ++ u) (j := 1 + t) (by rw [ByteArray.size_append, e1]; omega)
    have h3 := byt_right (a := (⟨#[45]⟩ : ByteArray)) (b := u) (j := t) (by omega)
    rw [e1] at h3
    rw [hB, h3] at h
    rw [h]
    exact hu t (by omega)
  have C1 := hide' (fun w => cutSuf_yes B (by omega) w)
  have L1 := hide' (fun w => lastAny_is B a.size (by omega) (by omega) (by omega) (by first | exact Or.inl hat | exact Or.inr hat) hb w)
  have T1' : ∀ w, Calls Tryz.prog 21 #[.string (B.extract a.size B.size), .string ⟨#[43]⟩] w fun e w' => e = .returned (.string (⟨#[45]⟩ ++ u)) ∧ w' = w := fun w => by rw [x2]; exact trim_minus u w
  have T1 := hide' T1'
  have mx : max ((a.size : Nat) : Int) 0 = (a.size : Nat) := by omega
  have lz : ((a.size : Nat) : Int) ≤ (B.size : Int) := by omega
  have l0 : ¬ (((a.size : Nat) : Int) < 0) := by omega
  rw [hS]
  obtain ⟨X, hX⟩ : ∃ X, B ++ (⟨#[100]⟩ : ByteArray) = X := ⟨_, rfl⟩
  rw [hX] at C1 ⊢
  clear hS hX hB hat hb hu T1' x2 hsz
  go_enter Tryz.func11, Tryz.ntmps11
  go_wp2_with fail
  refine (C1.out _).mono ?_
  rintro e w1 ⟨rfl, hw⟩
  rw [hw]
  clear hw
  go_wp2_with fail
  refine (L1.out _).mono ?_
  rintro e w2 ⟨rfl, b2⟩
  go_wp2_with fail
  try simp only [mx]
  go_quiet ((go_at_call 21; exact Calls.quiet_of_same (T1.out _)))
  go_wp2
  go_ret2
  exact ⟨by first | rfl | simp only [x1], b2.trans (Dr.below (w := w2) ⟨_, rfl⟩ w.heap.size)⟩
end Go.Proofs.YtkfdgpidhghhdaaGreatDoor

namespace Go.Proofs.YtkfdgpidhghhdaaGreatDoor
open Go.RowKit
set_option linter.unusedVariables false
theorem byt_app {a b : ByteArray} {j : Nat} (h : j < (a ++ b).size) : (j < a.size ∧ byt (a ++ b) j = byt a j) ∨ (∃ t, j = a.size + t ∧ t < b.size ∧ byt (a ++ b) j = byt b t) := by
  by_cases h1 : j < a.size
  · exact Or.inl ⟨h1, byt_left h1⟩
  · rw [ByteArray.size_append] at h
    refine Or.inr ⟨j - a.size, by omega, by omega, ?_⟩
    have h2 := byt_right (a := a) (b := b) (j := j - a.size) (by omega)
    rw [show a.size + (j - a.size) = j by omega] at h2
    exact h2
theorem tq_pos {s : Bool} {X V : Nat} {u d : ByteArray} (hu : isTz s X u) : 1 ≤ (tq u d V).size := by
  have h := hu.pos
  unfold tq
  split
  · exact h
  · rw [ByteArray.size_append, ByteArray.size_append]; omega
theorem last_app {a b : ByteArray} (h : 1 ≤ b.size) : byt (a ++ b) ((a ++ b).size - 1) = byt b (b.size - 1) := by
  have h2 := byt_right (a := a) (b := b) (j := b.size - 1) (by omega)
  rw [ByteArray.size_append, ← h2]
  congr 1
  omega
theorem isTx.last {X : Nat} {t : ByteArray} (h : isTx 10 X t) : byt t (t.size - 1) ≠ 100 := by
  have h1 := h.1
  have := h.digit (t.size - 1) (by omega)
  omega
theorem tq_last {Z : Int} {V : Nat} {u d : ByteArray} (hu : isTz (ng Z) (am Z) u) (hd : isTx 10 V d) : byt (tq u d V) ((tq u d V).size - 1) ≠ 100 := by
  unfold tq
  split
  · obtain ⟨t, ht, rfl⟩ := isTz_body hu
    split
    · rw [last_app ht.1]; exact ht.last
    · exact ht.last
  · rw [last_app hd.1]; exact hd.last
theorem tq_clean {Z : Int} {V : Nat} {u d : ByteArray} (hn : ng Z = false) (hu : isTz (ng Z) (am Z) u) (hd : isTx 10 V d) : ∀ j, j < (tq u d V).size → byt (tq u d V) j ≠ 43 ∧ byt (tq u d V) j ≠ 45 ∧ byt (tq u d V) j < 128 := by
  obtain ⟨t, ht, rfl⟩ := isTz_body hu
  rw [if_neg (by rw [hn]; decide)]
  have d1 := ht.digit
  have d2 := hd.digit
  unfold tq
  split
  · intro j hj
    have := d1 j hj
    omega
  · intro j hj
    rcases byt_app hj with ⟨h, e⟩ | ⟨k, rfl, h, e⟩
    · rcases byt_app h with ⟨h', e'⟩ | ⟨k, rfl, h', e'⟩
      · have := d1 _ h'; rw [e, e']; omega
      · have hk : k = 0 := by have : (⟨#[47]⟩ : ByteArray).size = 1 := rfl; omega
        have e0 : byt (⟨#[47]⟩ : ByteArray) 0 = 47 := by decide
        rw [e, e', hk, e0]; omega
    · have := d2 _ h; rw [e]; omega
theorem zero_tx : isTx 10 0 (⟨#[48]⟩ : ByteArray) := by
  refine ⟨by decide, by decide, Or.inl rfl, fun j hj => ?_⟩
  have : (⟨#[48]⟩ : ByteArray).size = 1 := rfl
  obtain rfl : j = 0 := by omega
  rw [this]
  unfold dgt
  decide
theorem zero_tz : isTz (ng 0) (am 0) (⟨#[48]⟩ : ByteArray) := ⟨_, zero_tx, by rw [if_neg (fun h => h.2 rfl)]⟩
end Go.Proofs.YtkfdgpidhghhdaaGreatDoor

namespace Go.Proofs.YtkfdgpidhghhdaaGreatDoor
open Go.RowKit
set_option linter.unusedVariables false
set_option linter.unusedSimpArgs false
theorem Blk.set6 {c : Nat} {W : World} {u0 u1 u2 u3 u4 u5 : Value} {t : TypeId} (h : Blk W c #[u0, u1, u2, u3, u4, u5] t) (v0 v1 v2 v3 v4 v5 : Value) :
    Ch c W ((((((W.setCell ⟨c, 0, none⟩ v0).setCell ⟨c, 1, none⟩ v1).setCell ⟨c, 2, none⟩ v2).setCell ⟨c, 3, none⟩ v3).setCell ⟨c, 4, none⟩ v4).setCell ⟨c, 5, none⟩ v5) ∧
      Blk ((((((W.setCell ⟨c, 0, none⟩ v0).setCell ⟨c, 1, none⟩ v1).setCell ⟨c, 2, none⟩ v2).setCell ⟨c, 3, none⟩ v3).setCell ⟨c, 4, none⟩ v4).setCell ⟨c, 5, none⟩ v5) c #[v0, v1, v2, v3, v4, v5] t := by
  refine ⟨(((((Ch.set v0).trans (Ch.set v1)).trans (Ch.set v2)).trans (Ch.set v3)).trans (Ch.set v4)).trans (Ch.set v5), ?_⟩
  simp [Blk, World.setCell, Array.getElem?_modify, show W.heap[c]? = _ from h]
set_option maxHeartbeats 4000000 in
set_option maxRecDepth 100000 in
theorem dParse_gen (s a b : ByteArray) (ZA : Int) (VA : Nat) (ZB : Int) (VB : Nat) (w : World) (h : Digs w) (H0 : ∀ w', Calls Tryz.prog 11 #[.string s] w' fun e w'' => e = .returned (.tuple #[.string a, .string b]) ∧ Below w'.heap.size w' w'') (H1 : ∀ w', Digs w' → Calls Tryz.prog 12 #[.string a] w' fun e w'' => ∃ p q, e = .returned (.tuple #[.agg #[.bool (ng ZA), .slice p (ln (am ZA)) (ln (am ZA)), .slice q (ln VA) (ln VA)], .int .i64 0]) ∧ Below w'.heap.size w' w'' ∧ Seg w'' p (am ZA) (ln (am ZA)) ∧ Seg w'' q VA (ln VA)) (H2 : ∀ w', Digs w' → Calls Tryz.prog 12 #[.string b] w' fun e w'' => ∃ p q, e = .returned (.tuple #[.agg #[.bool (ng ZB), .slice p (ln (am ZB)) (ln (am ZB)), .slice q (ln VB) (ln VB)], .int .i64 0]) ∧ Below w'.heap.size w' w'' ∧ Seg w'' p (am ZB) (ln (am ZB)) ∧ Seg w'' q VB (ln VB))
    (H3 : ∀ p q r t w', Digs w' → Seg w' p (am ZA) (ln (am ZA)) → Seg w' q VA (ln VA) → Seg w' r (am ZB) (ln (am ZB)) → Seg w' t VB (ln VB) → Calls Tryz.prog 6 #[.agg #[.bool (ng ZA), .slice p (ln (am ZA)) (ln (am ZA)), .slice q (ln VA) (ln VA), .bool (ng ZB), .slice r (ln (am ZB)) (ln (am ZB)), .slice t (ln VB) (ln VB)]] w' fun e w'' => e = .returned (.string s) ∧ Below w'.heap.size w' w'') :
    Calls Tryz.prog 5 #[.string s] w fun e w' => ∃ p q r t, e = .returned (.tuple #[.agg #[.bool (ng ZA), .slice p (ln (am ZA)) (ln (am ZA)), .slice q (ln VA) (ln VA), .bool (ng ZB), .slice r (ln (am ZB)) (ln (am ZB)), .slice t (ln VB) (ln VB)], .int .i64 0]) ∧ Below w.heap.size w w' ∧ Seg w' p (am ZA) (ln (am ZA)) ∧ Seg w' q VA (ln VA) ∧ Seg w' r (am ZB) (ln (am ZB)) ∧ Seg w' t VB (ln VB) := by
  have G0 := hide' H0
  have G1 := hide' H1
  have G2 := hide' H2
  have G3 := hide' H3
  have hne2 : (s.toList != s.toList) = false := by simp
  have bel := below_alloc (w := w) (.cells #[.bool false, .slice none 0 0, .slice none 0 0, .bool false, .slice none 0 0, .slice none 0 0] 29)
  have qR := Blk.new w #[.bool false, .slice none 0 0, .slice none 0 0, .bool false, .slice none 0 0, .slice none 0 0] 29
  have HD := hide' (h.below bel)
  clear H0 H1 H2 H3 h
  go_enter Tryz.func5, Tryz.ntmps5
  go_wp2_with fail
  refine (G0.out _).mono ?_
  rintro e w1 ⟨rfl, bb⟩
  replace qR := qR.later bb
  replace HD := hide' (HD.out.below bb)
  replace bel := bel.trans (bb.mono bel.size)
  clear bb
  go_wp2_with fail
  refine (G1.out _ HD.out).mono ?_
  rintro e w2 ⟨p, q, rfl, bb, kp, kq⟩
  replace qR := qR.later bb
  replace HD := hide' (HD.out.below bb)
  replace bel := bel.trans (bb.mono bel.size)
  clear bb
  have qA := Blk.new w2 #[.bool (ng ZA), .slice p (ln (am ZA)) (ln (am ZA)), .slice q (ln VA) (ln VA)] 27
  have bb := below_alloc (w := w2) (.cells #[.bool (ng ZA), .slice p (ln (am ZA)) (ln (am ZA)), .slice q (ln VA) (ln VA)] 27)
  replace qR := qR.later bb
  replace kp := kp.later bb
  replace kq := kq.later bb
  replace HD := hide' (HD.out.below bb)
  replace bel := bel.trans (bb.mono bel.size)
  clear bb
  go_wp2_with fail
  refine (G2.out _ HD.out).mono ?_
  rintro e w3 ⟨r, t, rfl, bb, kr, kt⟩
  replace qR := qR.later bb
  replace kp := kp.later bb
  replace kq := kq.later bb
  replace qA := qA.later bb
  replace HD := hide' (HD.out.below bb)
  replace bel := bel.trans (bb.mono bel.size)
  clear bb
  have qB := Blk.new w3 #[.bool (ng ZB), .slice r (ln (am ZB)) (ln (am ZB)), .slice t (ln VB) (ln VB)] 27
  have bb := below_alloc (w := w3) (.cells #[.bool (ng ZB), .slice r (ln (am ZB)) (ln (am ZB)), .slice t (ln VB) (ln VB)] 27)
  replace qR := qR.later bb
  replace kp := kp.later bb
  replace kq := kq.later bb
  replace qA := qA.later bb
  replace kr := kr.later bb
  replace kt := kt.later bb
  replace HD := hide' (HD.out.below bb)
  replace bel := bel.trans (bb.mono bel.size)
  clear bb
  have x0 := qA.cell 0
  have x1 := qA.cell 1
  have x2 := qA.cell 2
  simp only [List.getElem?_toArray, List.getElem?_cons_zero, List.getElem?_cons_succ] at x0 x1 x2
  have y0 := qB.cell 0
  have y1 := qB.cell 1
  have y2 := qB.cell 2
  simp only [List.getElem?_toArray, List.getElem?_cons_zero, List.getElem?_cons_succ] at y0 y1 y2
  go_wp2_with fail
  clear x0 x1 x2 y0 y1 y2
  have qD := Blk.new (w3.alloc (.cells #[.bool (ng ZB), .slice r (ln (am ZB)) (ln (am ZB)), .slice t (ln VB) (ln VB)] 27)) #[.bool (ng ZA), .slice p (ln (am ZA)) (ln (am ZA)), .slice q (ln VA) (ln VA), .bool (ng ZB), .slice r (ln (am ZB)) (ln (am ZB)), .slice t (ln VB) (ln VB)] 29
  have bb := below_alloc (w := (w3.alloc (.cells #[.bool (ng ZB), .slice r (ln (am ZB)) (ln (am ZB)), .slice t (ln VB) (ln VB)] 27))) (.cells #[.bool (ng ZA), .slice p (ln (am ZA)) (ln (am ZA)), .slice q (ln VA) (ln VA), .bool (ng ZB), .slice r (ln (am ZB)) (ln (am ZB)), .slice t (ln VB) (ln VB)] 29)
  replace qR := qR.later bb
  replace kp := kp.later bb
  replace kq := kq.later bb
  replace qA := qA.later bb
  replace kr := kr.later bb
  replace kt := kt.later bb
  replace qB := qB.later bb
  replace HD := hide' (HD.out.below bb)
  replace bel := bel.trans (bb.mono bel.size)
  clear bb
  rw [World.size_alloc] at qD
  refine (G3.out p q r t _ HD.out kp kq kr kt).mono ?_
  rintro e w4 ⟨rfl, bb⟩
  replace qR := qR.later bb
  replace kp := kp.later bb
  replace kq := kq.later bb
  replace qA := qA.later bb
  replace kr := kr.later bb
  replace kt := kt.later bb
  replace qB := qB.later bb
  replace qD := qD.later bb
  replace HD := hide' (HD.out.below bb)
  replace bel := bel.trans (bb.mono bel.size)
  clear bb
  have x0 := qD.cell 0
  have x1 := qD.cell 1
  have x2 := qD.cell 2
  have x3 := qD.cell 3
  have x4 := qD.cell 4
  have x5 := qD.cell 5
  simp only [List.getElem?_toArray, List.getElem?_cons_zero, List.getElem?_cons_succ] at x0 x1 x2 x3 x4 x5
  have v0 := qR.cell 0
  have v1 := qR.cell 1
  have v2 := qR.cell 2
  have v3 := qR.cell 3
  have v4 := qR.cell 4
  have v5 := qR.cell 5
  simp only [List.getElem?_toArray, List.getElem?_cons_zero, List.getElem?_cons_succ] at v0 v1 v2 v3 v4 v5
  have fz := fun o => qR.frozen o
  go_wp2
  obtain ⟨c9, q9⟩ := qR.set6 (.bool (ng ZA)) (.slice p (ln (am ZA)) (ln (am ZA))) (.slice q (ln VA) (ln VA)) (.bool (ng ZB)) (.slice r (ln (am ZB)) (ln (am ZB))) (.slice t (ln VB) (ln VB))
  have hno := qR.no (by simp)
  have z0 := q9.cell 0
  have z1 := q9.cell 1
  have z2 := q9.cell 2
  have z3 := q9.cell 3
  have z4 := q9.cell 4
  have z5 := q9.cell 5
  simp only [List.getElem?_toArray, List.getElem?_cons_zero, List.getElem?_cons_succ] at z0 z1 z2 z3 z4 z5
  clear v0 v1 v2 v3 v4 v5 x0 x1 x2 x3 x4 x5
  refine bodyPost_ret (v := .tuple #[.agg #[.bool (ng ZA), .slice p (ln (am ZA)) (ln (am ZA)), .slice q (ln VA) (ln VA), .bool (ng ZB), .slice r (ln (am ZB)) (ln (am ZB)), .slice t (ln VB) (ln VB)], .int .i64 0]) (by rw [results_ct rfl]; go_simp) rfl ?_
  exact ⟨p, q, r, t, rfl, bel.trans (c9.below (Nat.le_refl _)), kp.ch c9 hno, kq.ch c9 hno, kr.ch c9 hno, kt.ch c9 hno⟩
end Go.Proofs.YtkfdgpidhghhdaaGreatDoor

namespace Go.Proofs.YtkfdgpidhghhdaaGreatDoor
open Go.RowKit
set_option linter.unusedVariables false
set_option linter.unusedSimpArgs false
set_option maxHeartbeats 1000000 in
theorem own_z (ZA : Int) (VA : Nat) (uA dA : ByteArray) (ZB : Int) (VB : Nat) (uB dB : ByteArray) (lA : ln (am ZA) ≤ 67108864) (lVA : ln VA ≤ 67108864) (lB : ln (am ZB) ≤ 67108864) (lVB : ln VB ≤ 67108864) (hVA : 0 < VA) (hcA : Nat.gcd (am ZA) VA = 1) (hVB : 0 < VB) (hcB : Nat.gcd (am ZB) VB = 1) (huA : isTz (ng ZA) (am ZA) uA) (hdA : isTx 10 VA dA) (huB : isTz (ng ZB) (am ZB) uB) (hdB : isTx 10 VB dB) (hz : ZB = 0) (w : World) (h : Digs w) :
    Calls Tryz.prog 5 #[.string (tq uA dA VA)] w fun e w' => ∃ p q r t, e = .returned (.tuple #[.agg #[.bool (ng ZA), .slice p (ln (am ZA)) (ln (am ZA)), .slice q (ln VA) (ln VA), .bool (ng ZB), .slice r (ln (am ZB)) (ln (am ZB)), .slice t (ln VB) (ln VB)], .int .i64 0]) ∧ Below w.heap.size w w' ∧ Seg w' p (am ZA) (ln (am ZA)) ∧ Seg w' q VA (ln VA) ∧ Seg w' r (am ZB) (ln (am ZB)) ∧ Seg w' t VB (ln VB) := by
  have z1 := huA.size_le (ln_lt (am ZA))
  have z2 := hdA.size_le (by omega) (ln_lt VA)
  have z3 := huB.size_le (ln_lt (am ZB))
  have z4 := hdB.size_le (by omega) (ln_lt VB)
  have zA := tq_size uA dA VA
  have zB := tq_size uB dB VB
  have pA := tq_pos (d := dA) (V := VA) huA
  have hLA := (Low.self hVA hcA).nf hVA
  have hLB := (Low.self hVB hcB).nf hVB
  have hC := hLB.sgn (by have := rd_pos VB; omega)
  have hC2 : sgn ZB = 0 := by rw [hz]; rfl
  have hv : VB = 1 := by rw [hz] at hcB; simpa [am] using hcB
  obtain ⟨d1, hd1⟩ := isTx_ex (b := 10) (by omega) (by omega) 1
  have H2 := fun w' hD => qParse_own 0 1 ⟨#[48]⟩ d1 w' hD zero_tz hd1 (by rw [← hz]; omega) (by rw [← hv]; omega) (by omega) (by decide)
  rw [if_pos rfl] at H2
  refine dParse_gen _ _ _ ZA VA ZB VB w h (fun w' => cut_z _ (by omega) (by omega) (tq_last huA hdA) w') (fun w' hD => qParse_own ZA VA uA dA w' hD huA hdA (by omega) (by omega) hVA hcA) (by rw [hz, hv]; exact H2) (fun p q r t w' hD k1 k2 k3 k4 => ddText_z (ng ZA) p (ln (am ZA)) (ln (am ZA)) (am ZA) q (ln VA) (ln VA) VA (ng ZB) r (ln (am ZB)) (ln (am ZB)) (am ZB) t (ln VB) (ln VB) VB ZA VA uA dA ZB VB uB dB w' (Nat.le_refl _) (by omega) k1 (Nat.le_refl _) (by omega) k2 (Nat.le_refl _) (by omega) k3 (Nat.le_refl _) (by omega) k4 hLA huA hdA hLB huB hdB (by rw [← hC]; exact hC2) hD)
set_option maxHeartbeats 1000000 in
theorem own_p (ZA : Int) (VA : Nat) (uA dA : ByteArray) (ZB : Int) (VB : Nat) (uB dB : ByteArray) (lA : ln (am ZA) ≤ 67108864) (lVA : ln VA ≤ 67108864) (lB : ln (am ZB) ≤ 67108864) (lVB : ln VB ≤ 67108864) (hVA : 0 < VA) (hcA : Nat.gcd (am ZA) VA = 1) (hVB : 0 < VB) (hcB : Nat.gcd (am ZB) VB = 1) (huA : isTz (ng ZA) (am ZA) uA) (hdA : isTx 10 VA dA) (huB : isTz (ng ZB) (am ZB) uB) (hdB : isTx 10 VB dB) (hz : 0 < ZB) (w : World) (h : Digs w) :
    Calls Tryz.prog 5 #[.string (tq uA dA VA ++ ((⟨#[43]⟩ : ByteArray) ++ tq uB dB VB ++ ⟨#[100]⟩))] w fun e w' => ∃ p q r t, e = .returned (.tuple #[.agg #[.bool (ng ZA), .slice p (ln (am ZA)) (ln (am ZA)), .slice q (ln VA) (ln VA), .bool (ng ZB), .slice r (ln (am ZB)) (ln (am ZB)), .slice t (ln VB) (ln VB)], .int .i64 0]) ∧ Below w.heap.size w w' ∧ Seg w' p (am ZA) (ln (am ZA)) ∧ Seg w' q VA (ln VA) ∧ Seg w' r (am ZB) (ln (am ZB)) ∧ Seg w' t VB (ln VB) := by
  have z1 := huA.size_le (ln_lt (am ZA))
  have z2 := hdA.size_le (by omega) (ln_lt VA)
  have z3 := huB.size_le (ln_lt (am ZB))
  have z4 := hdB.size_le (by omega) (ln_lt VB)
  have zA := tq_size uA dA VA
  have zB := tq_size uB dB VB
  have pA := tq_pos (d := dA) (V := VA) huA
  have hLA := (Low.self hVA hcA).nf hVA
  have hLB := (Low.self hVB hcB).nf hVB
  have hC := hLB.sgn (by have := rd_pos VB; omega)
  have hC2 : sgn ZB = 1 := sgn_pos hz
  have hn : ng ZB = false := by unfold ng; rw [decide_eq_false_iff_not]; omega
  refine dParse_gen _ _ _ ZA VA ZB VB w h (fun w' => cut_p _ _ pA (by omega) (tq_clean hn huB hdB) w') (fun w' hD => qParse_own ZA VA uA dA w' hD huA hdA (by omega) (by omega) hVA hcA) (fun w' hD => qParse_own ZB VB uB dB w' hD huB hdB (by omega) (by omega) hVB hcB) (fun p q r t w' hD k1 k2 k3 k4 => ddText_p (ng ZA) p (ln (am ZA)) (ln (am ZA)) (am ZA) q (ln VA) (ln VA) VA (ng ZB) r (ln (am ZB)) (ln (am ZB)) (am ZB) t (ln VB) (ln VB) VB ZA VA uA dA ZB VB uB dB w' (Nat.le_refl _) (by omega) k1 (Nat.le_refl _) (by omega) k2 (Nat.le_refl _) (by omega) k3 (Nat.le_refl _) (by omega) k4 hLA huA hdA hLB huB hdB (by rw [← hC]; exact hC2) hD)
set_option maxHeartbeats 1000000 in
theorem own_n (ZA : Int) (VA : Nat) (uA dA : ByteArray) (ZB : Int) (VB : Nat) (uB dB : ByteArray) (lA : ln (am ZA) ≤ 67108864) (lVA : ln VA ≤ 67108864) (lB : ln (am ZB) ≤ 67108864) (lVB : ln VB ≤ 67108864) (hVA : 0 < VA) (hcA : Nat.gcd (am ZA) VA = 1) (hVB : 0 < VB) (hcB : Nat.gcd (am ZB) VB = 1) (huA : isTz (ng ZA) (am ZA) uA) (hdA : isTx 10 VA dA) (huB : isTz (ng ZB) (am ZB) uB) (hdB : isTx 10 VB dB) (hz : ZB < 0) (w : World) (h : Digs w) :
    Calls Tryz.prog 5 #[.string (tq uA dA VA ++ (tq uB dB VB ++ ⟨#[100]⟩))] w fun e w' => ∃ p q r t, e = .returned (.tuple #[.agg #[.bool (ng ZA), .slice p (ln (am ZA)) (ln (am ZA)), .slice q (ln VA) (ln VA), .bool (ng ZB), .slice r (ln (am ZB)) (ln (am ZB)), .slice t (ln VB) (ln VB)], .int .i64 0]) ∧ Below w.heap.size w w' ∧ Seg w' p (am ZA) (ln (am ZA)) ∧ Seg w' q VA (ln VA) ∧ Seg w' r (am ZB) (ln (am ZB)) ∧ Seg w' t VB (ln VB) := by
  have z1 := huA.size_le (ln_lt (am ZA))
  have z2 := hdA.size_le (by omega) (ln_lt VA)
  have z3 := huB.size_le (ln_lt (am ZB))
  have z4 := hdB.size_le (by omega) (ln_lt VB)
  have zA := tq_size uA dA VA
  have zB := tq_size uB dB VB
  have pA := tq_pos (d := dA) (V := VA) huA
  have hLA := (Low.self hVA hcA).nf hVA
  have hLB := (Low.self hVB hcB).nf hVB
  have hC := hLB.sgn (by have := rd_pos VB; omega)
  have hC2 : sgn ZB = (-1) := sgn_neg hz
  have hng : ng ZB = true := by unfold ng; rw [decide_eq_true_eq]; exact hz
  obtain ⟨uN, huN⟩ := isTz_ex (ng (-ZB)) (am (-ZB))
  have hU := tq_neg (d := dB) (V := VB) hng huB huN
  have hn : ng (-ZB) = false := by unfold ng; rw [decide_eq_false_iff_not]; omega
  have eS : tq uA dA VA ++ (tq uB dB VB ++ ⟨#[100]⟩) = tq uA dA VA ++ ((⟨#[45]⟩ : ByteArray) ++ tq uN dB VB ++ ⟨#[100]⟩) := by rw [hU]
  have zN : (tq uB dB VB).size = 1 + (tq uN dB VB).size := by rw [hU, ByteArray.size_append]; rfl
  have H0 := fun w' => cut_n (tq uA dA VA) (tq uN dB VB) pA (by omega) (tq_clean hn huN hdB) w'
  rw [← hU] at H0
  refine dParse_gen _ _ _ ZA VA ZB VB w h H0 (fun w' hD => qParse_own ZA VA uA dA w' hD huA hdA (by omega) (by omega) hVA hcA) (fun w' hD => qParse_own ZB VB uB dB w' hD huB hdB (by omega) (by omega) hVB hcB) (fun p q r t w' hD k1 k2 k3 k4 => ddText_n (ng ZA) p (ln (am ZA)) (ln (am ZA)) (am ZA) q (ln VA) (ln VA) VA (ng ZB) r (ln (am ZB)) (ln (am ZB)) (am ZB) t (ln VB) (ln VB) VB ZA VA uA dA ZB VB uB dB w' (Nat.le_refl _) (by omega) k1 (Nat.le_refl _) (by omega) k2 (Nat.le_refl _) (by omega) k3 (Nat.le_refl _) (by omega) k4 hLA huA hdA hLB huB hdB (by rw [← hC]; exact hC2) hD)
end Go.Proofs.YtkfdgpidhghhdaaGreatDoor
