/-
  Text of both sides, by TxD; delta.Parse of a text that is no number's.
-/
import Derived.Test.YtjbeagbkjmaeeaaGreatDoorWE5
import Derived.Test.YtjbeagbkjmaeeaaGreatDoorWPC
import Derived.Test.YtjbeagbkjmaeeaaGreatDoorWPX
import Derived.Test.YtjbeagbkjmaeeaaGreatDoorWPY
import Derived.Test.YtjbeagbkjmaeeaaGreatDoorWPS
import Derived.Test.YtjbeagbkjmaeeaaGreatDoorWE1
import Derived.Laws.RangeAny
import Derived.Laws.Runes
import Derived.Lib.Walk
import Derived.Shelf.Small.Utf8
import Derived.WalkMore
import Derived.Shelf.Small.Strs
import Derived.Shelf.Strings.Search1
import Derived.Test.YtjbeagbkjmaeeaaGreatDoorWE3
import Derived.Shelf.Unicode.DecodeLast
import Derived.Test.YtjbeagbkjmaeeaaGreatDoorWPT
import Derived.Shelf.Strings.Repeat
namespace Go.Proofs.YtjbeagbkjmaeeaaGreatDoor
open Go.RowKit
set_option linter.unusedVariables false
theorem byt_app {a b : ByteArray} {j : Nat} (h : j < (a ++ b).size) : (j < a.size ∧ byt (a ++ b) j = byt a j) ∨ (∃ t, j = a.size + t ∧ t < b.size ∧ byt (a ++ b) j = byt b t) := by
  by_cases h1 : j < a.size
  · exact Or.inl ⟨h1, byt_left h1⟩
  · rw [ByteArray.size_append] at h
    refine Or.inr ⟨j - a.size, by omega, by omega, ?_⟩
    have h2 := byt_right (a := a) (b := b) (j := j - a.size) (by omega)
    rw [show a.size + (j - a.size) = j by omega] at h2
    exact h2
theorem tq_pos {s : Bool} {X V : Nat} {u d : ByteArray} (hu : isTz s X u) : 1 ≤ (tq u d V).size := by
  have h := hu.pos
  unfold tq
  split
  · exact h
  · rw [ByteArray.size_append, ByteArray.size_append]; omega
theorem last_app {a b : ByteArray} (h : 1 ≤ b.size) : byt (a ++ b) ((a ++ b).size - 1) = byt b (b.size - 1) := by
  have h2 := byt_right (a := a) (b := b) (j := b.size - 1) (by omega)
  rw [ByteArray.size_append, ← h2]
  congr 1
  omega
theorem isTx.last {X : Nat} {t : ByteArray} (h : isTx 10 X t) : byt t (t.size - 1) ≠ 100 := by
  have h1 := h.1
  have := h.digit (t.size - 1) (by omega)
  omega
theorem tq_last {Z : Int} {V : Nat} {u d : ByteArray} (hu : isTz (ng Z) (am Z) u) (hd : isTx 10 V d) : byt (tq u d V) ((tq u d V).size - 1) ≠ 100 := by
  unfold tq
  split
  · obtain ⟨t, ht, rfl⟩ := isTz_body hu
    split
    · rw [last_app ht.1]; exact ht.last
    · exact ht.last
  · rw [last_app hd.1]; exact hd.last
theorem tq_clean {Z : Int} {V : Nat} {u d : ByteArray} (hn : ng Z = false) (hu : isTz (ng Z) (am Z) u) (hd : isTx 10 V d) : ∀ j, j < (tq u d V).size → byt (tq u d V) j ≠ 43 ∧ byt (tq u d V) j ≠ 45 ∧ byt (tq u d V) j < 128 := by
  obtain ⟨t, ht, rfl⟩ := isTz_body hu
  rw [if_neg (by rw [hn]; decide)]
  have d1 := ht.digit
  have d2 := hd.digit
  unfold tq
  split
  · intro j hj
    have := d1 j hj
    omega
  · intro j hj
    rcases byt_app hj with ⟨h, e⟩ | ⟨k, rfl, h, e⟩
    · rcases byt_app h with ⟨h', e'⟩ | ⟨k, rfl, h', e'⟩
      · have := d1 _ h'; rw [e, e']; omega
      · have hk : k = 0 := by have : (⟨#[47]⟩ : ByteArray).size = 1 := rfl; omega
        have e0 : byt (⟨#[47]⟩ : ByteArray) 0 = 47 := by decide
        rw [e, e', hk, e0]; omega
    · have := d2 _ h; rw [e]; omega
theorem zero_tx : isTx 10 0 (⟨#[48]⟩ : ByteArray) := by
  refine ⟨by decide, by decide, Or.inl rfl, fun j hj => ?_⟩
  have : (⟨#[48]⟩ : ByteArray).size = 1 := rfl
  obtain rfl : j = 0 := by omega
  rw [this]
  unfold dgt
  decide
theorem zero_tz : isTz (ng 0) (am 0) (⟨#[48]⟩ : ByteArray) := ⟨_, zero_tx, by rw [if_neg (fun h => h.2 rfl)]⟩
end Go.Proofs.YtjbeagbkjmaeeaaGreatDoor

namespace Go.Proofs.YtjbeagbkjmaeeaaGreatDoor
open Go.RowKit
set_option linter.unusedVariables false
set_option linter.unusedSimpArgs false
theorem Blk.set6 {c : Nat} {W : World} {u0 u1 u2 u3 u4 u5 : Value} {t : TypeId} (h : Blk W c #[u0, u1, u2, u3, u4, u5] t) (v0 v1 v2 v3 v4 v5 : Value) :
    Ch c W ((((((W.setCell ⟨c, 0, none⟩ v0).setCell ⟨c, 1, none⟩ v1).setCell ⟨c, 2, none⟩ v2).setCell ⟨c, 3, none⟩ v3).setCell ⟨c, 4, none⟩ v4).setCell ⟨c, 5, none⟩ v5) ∧
      Blk ((((((W.setCell ⟨c, 0, none⟩ v0).setCell ⟨c, 1, none⟩ v1).setCell ⟨c, 2, none⟩ v2).setCell ⟨c, 3, none⟩ v3).setCell ⟨c, 4, none⟩ v4).setCell ⟨c, 5, none⟩ v5) c #[v0, v1, v2, v3, v4, v5] t := by
  refine ⟨(((((Ch.set v0).trans (Ch.set v1)).trans (Ch.set v2)).trans (Ch.set v3)).trans (Ch.set v4)).trans (Ch.set v5), ?_⟩
  simp [Blk, World.setCell, Array.getElem?_modify, show W.heap[c]? = _ from h]
set_option maxHeartbeats 4000000 in
set_option maxRecDepth 100000 in
theorem dParse_gen (s a b : ByteArray) (ZA : Int) (VA : Nat) (ZB : Int) (VB : Nat) (w : World) (h : Digs w) (H0 : ∀ w', Calls Tryz.prog 9 #[.string s] w' fun e w'' => e = .returned (.tuple #[.string a, .string b]) ∧ Below w'.heap.size w' w'') (H1 : ∀ w', Digs w' → Calls Tryz.prog 10 #[.string a] w' fun e w'' => ∃ p q, e = .returned (.tuple #[.agg #[.bool (ng ZA), .slice p (ln (am ZA)) (ln (am ZA)), .slice q (ln VA) (ln VA)], .int .i64 0]) ∧ Below w'.heap.size w' w'' ∧ Seg w'' p (am ZA) (ln (am ZA)) ∧ Seg w'' q VA (ln VA)) (H2 : ∀ w', Digs w' → Calls Tryz.prog 10 #[.string b] w' fun e w'' => ∃ p q, e = .returned (.tuple #[.agg #[.bool (ng ZB), .slice p (ln (am ZB)) (ln (am ZB)), .slice q (ln VB) (ln VB)], .int .i64 0]) ∧ Below w'.heap.size w' w'' ∧ Seg w'' p (am ZB) (ln (am ZB)) ∧ Seg w'' q VB (ln VB))
    (H3 : ∀ p q r t w', Digs w' → Seg w' p (am ZA) (ln (am ZA)) → Seg w' q VA (ln VA) → Seg w' r (am ZB) (ln (am ZB)) → Seg w' t VB (ln VB) → Calls Tryz.prog 11 #[.agg #[.bool (ng ZA), .slice p (ln (am ZA)) (ln (am ZA)), .slice q (ln VA) (ln VA), .bool (ng ZB), .slice r (ln (am ZB)) (ln (am ZB)), .slice t (ln VB) (ln VB)]] w' fun e w'' => e = .returned (.string s) ∧ Below w'.heap.size w' w'') :
    Calls Tryz.prog 4 #[.string s] w fun e w' => ∃ p q r t, e = .returned (.tuple #[.agg #[.bool (ng ZA), .slice p (ln (am ZA)) (ln (am ZA)), .slice q (ln VA) (ln VA), .bool (ng ZB), .slice r (ln (am ZB)) (ln (am ZB)), .slice t (ln VB) (ln VB)], .int .i64 0]) ∧ Below w.heap.size w w' ∧ Seg w' p (am ZA) (ln (am ZA)) ∧ Seg w' q VA (ln VA) ∧ Seg w' r (am ZB) (ln (am ZB)) ∧ Seg w' t VB (ln VB) := by
  have G0 := hide' H0
  have G1 := hide' H1
  have G2 := hide' H2
  have G3 := hide' H3
  have hne2 : (s.toList != s.toList) = false := by simp
  have bel := below_alloc (w := w) (.cells #[.bool false, .slice none 0 0, .slice none 0 0, .bool false, .slice none 0 0, .slice none 0 0] 29)
  have qR := Blk.new w #[.bool false, .slice none 0 0, .slice none 0 0, .bool false, .slice none 0 0, .slice none 0 0] 29
  have HD := hide' (h.below bel)
  clear H0 H1 H2 H3 h
  go_enter Tryz.func4, Tryz.ntmps4
  go_wp2_with fail
  refine (G0.out _).mono ?_
  rintro e w1 ⟨rfl, bb⟩
  replace qR := qR.later bb
  replace HD := hide' (HD.out.below bb)
  replace bel := bel.trans (bb.mono bel.size)
  clear bb
  go_wp2_with fail
  refine (G1.out _ HD.out).mono ?_
  rintro e w2 ⟨p, q, rfl, bb, kp, kq⟩
  replace qR := qR.later bb
  replace HD := hide' (HD.out.below bb)
  replace bel := bel.trans (bb.mono bel.size)
  clear bb
  have qA := Blk.new w2 #[.bool (ng ZA), .slice p (ln (am ZA)) (ln (am ZA)), .slice q (ln VA) (ln VA)] 27
  have bb := below_alloc (w := w2) (.cells #[.bool (ng ZA), .slice p (ln (am ZA)) (ln (am ZA)), .slice q (ln VA) (ln VA)] 27)
  replace qR := qR.later bb
  replace kp := kp.later bb
  replace kq := kq.later bb
  replace HD := hide' (HD.out.below bb)
  replace bel := bel.trans (bb.mono bel.size)
  clear bb
  go_wp2_with fail
  refine (G2.out _ HD.out).mono ?_
  rintro e w3 ⟨r, t, rfl, bb, kr, kt⟩
  replace qR := qR.later bb
  replace kp := kp.later bb
  replace kq := kq.later bb
  replace qA := qA.later bb
  replace HD := hide' (HD.out.below bb)
  replace bel := bel.trans (bb.mono bel.size)
  clear bb
  have qB := Blk.new w3 #[.bool (ng ZB), .slice r (ln (am ZB)) (ln (am ZB)), .slice t (ln VB) (ln VB)] 27
  have bb := below_alloc (w := w3) (.cells #[.bool (ng ZB), .slice r (ln (am ZB)) (ln (am ZB)), .slice t (ln VB) (ln VB)] 27)
  replace qR := qR.later bb
  replace kp := kp.later bb
  replace kq := kq.later bb
  replace qA := qA.later bb
  replace kr := kr.later bb
  replace kt := kt.later bb
  replace HD := hide' (HD.out.below bb)
  replace bel := bel.trans (bb.mono bel.size)
  clear bb
  have x0 := qA.cell 0
  have x1 := qA.cell 1
  have x2 := qA.cell 2
  simp only [List.getElem?_toArray, List.getElem?_cons_zero, List.getElem?_cons_succ] at x0 x1 x2
  have y0 := qB.cell 0
  have y1 := qB.cell 1
  have y2 := qB.cell 2
  simp only [List.getElem?_toArray, List.getElem?_cons_zero, List.getElem?_cons_succ] at y0 y1 y2
  go_wp2_with fail
  clear x0 x1 x2 y0 y1 y2
  have qD := Blk.new (w3.alloc (.cells #[.bool (ng ZB), .slice r (ln (am ZB)) (ln (am ZB)), .slice t (ln VB) (ln VB)] 27)) #[.bool (ng ZA), .slice p (ln (am ZA)) (ln (am ZA)), .slice q (ln VA) (ln VA), .bool (ng ZB), .slice r (ln (am ZB)) (ln (am ZB)), .slice t (ln VB) (ln VB)] 29
  have bb := below_alloc (w := (w3.alloc (.cells #[.bool (ng ZB), .slice r (ln (am ZB)) (ln (am ZB)), .slice t (ln VB) (ln VB)] 27))) (.cells #[.bool (ng ZA), .slice p (ln (am ZA)) (ln (am ZA)), .slice q (ln VA) (ln VA), .bool (ng ZB), .slice r (ln (am ZB)) (ln (am ZB)), .slice t (ln VB) (ln VB)] 29)
  replace qR := qR.later bb
  replace kp := kp.later bb
  replace kq := kq.later bb
  replace qA := qA.later bb
  replace kr := kr.later bb
  replace kt := kt.later bb
  replace qB := qB.later bb
  replace HD := hide' (HD.out.below bb)
  replace bel := bel.trans (bb.mono bel.size)
  clear bb
  rw [World.size_alloc] at qD
  refine (G3.out p q r t _ HD.out kp kq kr kt).mono ?_
  rintro e w4 ⟨rfl, bb⟩
  replace qR := qR.later bb
  replace kp := kp.later bb
  replace kq := kq.later bb
  replace qA := qA.later bb
  replace kr := kr.later bb
  replace kt := kt.later bb
  replace qB := qB.later bb
  replace qD := qD.later bb
  replace HD := hide' (HD.out.below bb)
  replace bel := bel.trans (bb.mono bel.size)
  clear bb
  have x0 := qD.cell 0
  have x1 := qD.cell 1
  have x2 := qD.cell 2
  have x3 := qD.cell 3
  have x4 := qD.cell 4
  have x5 := qD.cell 5
  simp only [List.getElem?_toArray, List.getElem?_cons_zero, List.getElem?_cons_succ] at x0 x1 x2 x3 x4 x5
  have v0 := qR.cell 0
  have v1 := qR.cell 1
  have v2 := qR.cell 2
  have v3 := qR.cell 3
  have v4 := qR.cell 4
  have v5 := qR.cell 5
  simp only [List.getElem?_toArray, List.getElem?_cons_zero, List.getElem?_cons_succ] at v0 v1 v2 v3 v4 v5
  have fz := fun o => qR.frozen o
  go_wp2
  obtain ⟨c9, q9⟩ := qR.set6 (.bool (ng ZA)) (.slice p (ln (am ZA)) (ln (am ZA))) (.slice q (ln VA) (ln VA)) (.bool (ng ZB)) (.slice r (ln (am ZB)) (ln (am ZB))) (.slice t (ln VB) (ln VB))
  have hno := qR.no (by simp)
  have z0 := q9.cell 0
  have z1 := q9.cell 1
  have z2 := q9.cell 2
  have z3 := q9.cell 3
  have z4 := q9.cell 4
  have z5 := q9.cell 5
  simp only [List.getElem?_toArray, List.getElem?_cons_zero, List.getElem?_cons_succ] at z0 z1 z2 z3 z4 z5
  clear v0 v1 v2 v3 v4 v5 x0 x1 x2 x3 x4 x5
  refine bodyPost_ret (v := .tuple #[.agg #[.bool (ng ZA), .slice p (ln (am ZA)) (ln (am ZA)), .slice q (ln VA) (ln VA), .bool (ng ZB), .slice r (ln (am ZB)) (ln (am ZB)), .slice t (ln VB) (ln VB)], .int .i64 0]) (by rw [results_ct rfl]; go_simp) rfl ?_
  exact ⟨p, q, r, t, rfl, bel.trans (c9.below (Nat.le_refl _)), kp.ch c9 hno, kq.ch c9 hno, kr.ch c9 hno, kt.ch c9 hno⟩
end Go.Proofs.YtjbeagbkjmaeeaaGreatDoor

namespace Go.Proofs.YtjbeagbkjmaeeaaGreatDoor
open Go.RowKit
set_option linter.unusedVariables false
set_option linter.unusedSimpArgs false
set_option maxHeartbeats 1000000 in
theorem own_z (ZA : Int) (VA : Nat) (uA dA : ByteArray) (ZB : Int) (VB : Nat) (uB dB : ByteArray) (lA : ln (am ZA) ≤ 67108864) (lVA : ln VA ≤ 67108864) (lB : ln (am ZB) ≤ 67108864) (lVB : ln VB ≤ 67108864) (hVA : 0 < VA) (hcA : Nat.gcd (am ZA) VA = 1) (hVB : 0 < VB) (hcB : Nat.gcd (am ZB) VB = 1) (huA : isTz (ng ZA) (am ZA) uA) (hdA : isTx 10 VA dA) (huB : isTz (ng ZB) (am ZB) uB) (hdB : isTx 10 VB dB) (hz : ZB = 0) (w : World) (h : Digs w) :
    Calls Tryz.prog 4 #[.string (tq uA dA VA)] w fun e w' => ∃ p q r t, e = .returned (.tuple #[.agg #[.bool (ng ZA), .slice p (ln (am ZA)) (ln (am ZA)), .slice q (ln VA) (ln VA), .bool (ng ZB), .slice r (ln (am ZB)) (ln (am ZB)), .slice t (ln VB) (ln VB)], .int .i64 0]) ∧ Below w.heap.size w w' ∧ Seg w' p (am ZA) (ln (am ZA)) ∧ Seg w' q VA (ln VA) ∧ Seg w' r (am ZB) (ln (am ZB)) ∧ Seg w' t VB (ln VB) := by
  have z1 := huA.size_le (ln_lt (am ZA))
  have z2 := hdA.size_le (by omega) (ln_lt VA)
  have z3 := huB.size_le (ln_lt (am ZB))
  have z4 := hdB.size_le (by omega) (ln_lt VB)
  have zA := tq_size uA dA VA
  have zB := tq_size uB dB VB
  have pA := tq_pos (d := dA) (V := VA) huA
  have hLA := (Low.self hVA hcA).nf hVA
  have hLB := (Low.self hVB hcB).nf hVB
  have hC := hLB.sgn (by have := rd_pos VB; omega)
  have hC2 : sgn ZB = 0 := by rw [hz]; rfl
  have hv : VB = 1 := by rw [hz] at hcB; simpa [am] using hcB
  obtain ⟨d1, hd1⟩ := isTx_ex (b := 10) (by omega) (by omega) 1
  have H2 := fun w' hD => qParse_own 0 1 ⟨#[48]⟩ d1 w' hD zero_tz hd1 (by rw [← hz]; omega) (by rw [← hv]; omega) (by omega) (by decide)
  rw [if_pos rfl] at H2
  refine dParse_gen _ _ _ ZA VA ZB VB w h (fun w' => cut_z _ (by omega) (by omega) (tq_last huA hdA) w') (fun w' hD => qParse_own ZA VA uA dA w' hD huA hdA (by omega) (by omega) hVA hcA) (by rw [hz, hv]; exact H2) (fun p q r t w' hD k1 k2 k3 k4 => ddText_z (ng ZA) p (ln (am ZA)) (ln (am ZA)) (am ZA) q (ln VA) (ln VA) VA (ng ZB) r (ln (am ZB)) (ln (am ZB)) (am ZB) t (ln VB) (ln VB) VB ZA VA uA dA ZB VB uB dB w' (Nat.le_refl _) (by omega) k1 (Nat.le_refl _) (by omega) k2 (Nat.le_refl _) (by omega) k3 (Nat.le_refl _) (by omega) k4 hLA huA hdA hLB huB hdB (by rw [← hC]; exact hC2) hD)
set_option maxHeartbeats 1000000 in
theorem own_p (ZA : Int) (VA : Nat) (uA dA : ByteArray) (ZB : Int) (VB : Nat) (uB dB : ByteArray) (lA : ln (am ZA) ≤ 67108864) (lVA : ln VA ≤ 67108864) (lB : ln (am ZB) ≤ 67108864) (lVB : ln VB ≤ 67108864) (hVA : 0 < VA) (hcA : Nat.gcd (am ZA) VA = 1) (hVB : 0 < VB) (hcB : Nat.gcd (am ZB) VB = 1) (huA : isTz (ng ZA) (am ZA) uA) (hdA : isTx 10 VA dA) (huB : isTz (ng ZB) (am ZB) uB) (hdB : isTx 10 VB dB) (hz : 0 < ZB) (w : World) (h : Digs w) :
    Calls Tryz.prog 4 #[.string (tq uA dA VA ++ ((⟨#[43]⟩ : ByteArray) ++ tq uB dB VB ++ ⟨#[100]⟩))] w fun e w' => ∃ p q r t, e = .returned (.tuple #[.agg #[.bool (ng ZA), .slice p (ln (am ZA)) (ln (am ZA)), .slice q (ln VA) (ln VA), .bool (ng ZB), .slice r (ln (am ZB)) (ln (am ZB)), .slice t (ln VB) (ln VB)], .int .i64 0]) ∧ Below w.heap.size w w' ∧ Seg w' p (am ZA) (ln (am ZA)) ∧ Seg w' q VA (ln VA) ∧ Seg w' r (am ZB) (ln (am ZB)) ∧ Seg w' t VB (ln VB) := by
  have z1 := huA.size_le (ln_lt (am ZA))
  have z2 := hdA.size_le (by omega) (ln_lt VA)
  have z3 := huB.size_le (ln_lt (am ZB))
  have z4 := hdB.size_le (by omega) (ln_lt VB)
  have zA := tq_size uA dA VA
  have zB := tq_size uB dB VB
  have pA := tq_pos (d := dA) (V := VA) huA
  have hLA := (Low.self hVA hcA).nf hVA
  have hLB := (Low.self hVB hcB).nf hVB
  have hC := hLB.sgn (by have := rd_pos VB; omega)
  have hC2 : sgn ZB = 1 := sgn_pos hz
  have hn : ng ZB = false := by unfold ng; rw [decide_eq_false_iff_not]; omega
  refine dParse_gen _ _ _ ZA VA ZB VB w h (fun w' => cut_p _ _ pA (by omega) (tq_clean hn huB hdB) w') (fun w' hD => qParse_own ZA VA uA dA w' hD huA hdA (by omega) (by omega) hVA hcA) (fun w' hD => qParse_own ZB VB uB dB w' hD huB hdB (by omega) (by omega) hVB hcB) (fun p q r t w' hD k1 k2 k3 k4 => ddText_p (ng ZA) p (ln (am ZA)) (ln (am ZA)) (am ZA) q (ln VA) (ln VA) VA (ng ZB) r (ln (am ZB)) (ln (am ZB)) (am ZB) t (ln VB) (ln VB) VB ZA VA uA dA ZB VB uB dB w' (Nat.le_refl _) (by omega) k1 (Nat.le_refl _) (by omega) k2 (Nat.le_refl _) (by omega) k3 (Nat.le_refl _) (by omega) k4 hLA huA hdA hLB huB hdB (by rw [← hC]; exact hC2) hD)
set_option maxHeartbeats 1000000 in
theorem own_n (ZA : Int) (VA : Nat) (uA dA : ByteArray) (ZB : Int) (VB : Nat) (uB dB : ByteArray) (lA : ln (am ZA) ≤ 67108864) (lVA : ln VA ≤ 67108864) (lB : ln (am ZB) ≤ 67108864) (lVB : ln VB ≤ 67108864) (hVA : 0 < VA) (hcA : Nat.gcd (am ZA) VA = 1) (hVB : 0 < VB) (hcB : Nat.gcd (am ZB) VB = 1) (huA : isTz (ng ZA) (am ZA) uA) (hdA : isTx 10 VA dA) (huB : isTz (ng ZB) (am ZB) uB) (hdB : isTx 10 VB dB) (hz : ZB < 0) (w : World) (h : Digs w) :
    Calls Tryz.prog 4 #[.string (tq uA dA VA ++ (tq uB dB VB ++ ⟨#[100]⟩))] w fun e w' => ∃ p q r t, e = .returned (.tuple #[.agg #[.bool (ng ZA), .slice p (ln (am ZA)) (ln (am ZA)), .slice q (ln VA) (ln VA), .bool (ng ZB), .slice r (ln (am ZB)) (ln (am ZB)), .slice t (ln VB) (ln VB)], .int .i64 0]) ∧ Below w.heap.size w w' ∧ Seg w' p (am ZA) (ln (am ZA)) ∧ Seg w' q VA (ln VA) ∧ Seg w' r (am ZB) (ln (am ZB)) ∧ Seg w' t VB (ln VB) := by
  have z1 := huA.size_le (ln_lt (am ZA))
  have z2 := hdA.size_le (by omega) (ln_lt VA)
  have z3 := huB.size_le (ln_lt (am ZB))
  have z4 := hdB.size_le (by omega) (ln_lt VB)
  have zA := tq_size uA dA VA
  have zB := tq_size uB dB VB
  have pA := tq_pos (d := dA) (V := VA) huA
  have hLA := (Low.self hVA hcA).nf hVA
  have hLB := (Low.self hVB hcB).nf hVB
  have hC := hLB.sgn (by have := rd_pos VB; omega)
  have hC2 : sgn ZB = (-1) := sgn_neg hz
  have hng : ng ZB = true := by unfold ng; rw [decide_eq_true_eq]; exact hz
  obtain ⟨uN, huN⟩ := isTz_ex (ng (-ZB)) (am (-ZB))
  have hU := tq_neg (d := dB) (V := VB) hng huB huN
  have hn : ng (-ZB) = false := by unfold ng; rw [decide_eq_false_iff_not]; omega
  have eS : tq uA dA VA ++ (tq uB dB VB ++ ⟨#[100]⟩) = tq uA dA VA ++ ((⟨#[45]⟩ : ByteArray) ++ tq uN dB VB ++ ⟨#[100]⟩) := by rw [hU]
  have zN : (tq uB dB VB).size = 1 + (tq uN dB VB).size := by rw [hU, ByteArray.size_append]; rfl
  have H0 := fun w' => cut_n (tq uA dA VA) (tq uN dB VB) pA (by omega) (tq_clean hn huN hdB) w'
  rw [← hU] at H0
  refine dParse_gen _ _ _ ZA VA ZB VB w h H0 (fun w' hD => qParse_own ZA VA uA dA w' hD huA hdA (by omega) (by omega) hVA hcA) (fun w' hD => qParse_own ZB VB uB dB w' hD huB hdB (by omega) (by omega) hVB hcB) (fun p q r t w' hD k1 k2 k3 k4 => ddText_n (ng ZA) p (ln (am ZA)) (ln (am ZA)) (am ZA) q (ln VA) (ln VA) VA (ng ZB) r (ln (am ZB)) (ln (am ZB)) (am ZB) t (ln VB) (ln VB) VB ZA VA uA dA ZB VB uB dB w' (Nat.le_refl _) (by omega) k1 (Nat.le_refl _) (by omega) k2 (Nat.le_refl _) (by omega) k3 (Nat.le_refl _) (by omega) k4 hLA huA hdA hLB huB hdB (by rw [← hC]; exact hC2) hD)
end Go.Proofs.YtjbeagbkjmaeeaaGreatDoor

namespace Go.Proofs.YtjbeagbkjmaeeaaGreatDoor
open Go.RowKit
set_option linter.unusedVariables false

theorem Rf.inv {t : ByteArray} {n : Nat} {o : Option (Nat × Nat)} (h : Rf t n o) (X Y : Nat) (ho : o = some (X, Y)) :
    isT 10 (t.extract 0 n) ∧ ((n = t.size ∧ X = val 10 (t.extract 0 n) ∧ Y = 1) ∨ (n < t.size ∧ byt t n = 47 ∧ isT 10 (t.extract (n + 1) t.size) ∧ X = val 10 (t.extract 0 n) ∧ val 10 (t.extract (n + 1) t.size) = Y ∧ Y ≠ 0) ∨ (n < t.size ∧ byt t n = 46 ∧ tl10 (t.extract (n + 1) t.size) ∧ X = val 10 (t.extract 0 n) * 10 ^ (t.size - (n + 1)) + val 10 (t.extract (n + 1) t.size) ∧ Y = 10 ^ (t.size - (n + 1)))) := by
  cases h with
  | bad _ => cases ho
  | whole a e => injection ho with ho; injection ho with h1 h2; exact ⟨a, Or.inl ⟨e, h1.symm, h2.symm⟩⟩
  | over a b c d e => injection ho with ho; injection ho with h1 h2; exact ⟨a, Or.inr (Or.inl ⟨b, c, d, h1.symm, h2, by rw [← h2]; exact e⟩)⟩
  | overBad _ _ _ _ => cases ho
  | point a b c d => injection ho with ho; injection ho with h1 h2; exact ⟨a, Or.inr (Or.inr ⟨b, c, d, h1.symm, h2.symm⟩)⟩
  | pointBad _ _ _ _ => cases ho
  | other _ _ _ _ => cases ho
theorem Rf.none_inv {t : ByteArray} {n : Nat} {o : Option (Nat × Nat)} (h : Rf t n o) (ho : o = none) :
    ¬ isT 10 (t.extract 0 n) ∨ (isT 10 (t.extract 0 n) ∧ n < t.size ∧ ((byt t n = 47 ∧ ¬ (isT 10 (t.extract (n + 1) t.size) ∧ val 10 (t.extract (n + 1) t.size) ≠ 0)) ∨ (byt t n = 46 ∧ ¬ tl10 (t.extract (n + 1) t.size)) ∨ (byt t n ≠ 47 ∧ byt t n ≠ 46))) := by
  cases h with
  | bad a => exact Or.inl a
  | whole a e => cases ho
  | over a b c d e => cases ho
  | overBad a b c d => exact Or.inr ⟨a, b, Or.inl ⟨c, d⟩⟩
  | point a b c d => cases ho
  | pointBad a b c d => exact Or.inr ⟨a, b, Or.inr (Or.inl ⟨c, d⟩)⟩
  | other a b c d => exact Or.inr ⟨a, b, Or.inr (Or.inr ⟨c, d⟩)⟩
theorem tl_two {t : ByteArray} {n : Nat} (h : tl10 (t.extract (n + 1) t.size)) : n + 1 < t.size := by
  have := h.1
  simp only [ByteArray.size_extract] at this
  omega
theorem vqParse_some (s : ByteArray) (X Y V : Nat) (Z : Int) (hs : s.size ≤ 140737488351232) (hR : Rd (bodyOf s) (some (X, Y))) (hL : Low (sg (negOf s) X) (Y : Int) Z V) (w : World) :
    Calls Tryz.prog 12 #[.string s] w fun e w' => ∃ p q, e = .returned (.tuple #[.agg #[.bool (ng Z), .slice p (ln (am Z)) (ln (am Z)), .slice q (ln V) (ln V)], .int .i64 0]) ∧ Below w.heap.size w w' ∧ Seg w' p (am Z) (ln (am Z)) ∧ Seg w' q V (ln V) := by
  obtain ⟨n, l⟩ := Lead.ex (bodyOf s)
  obtain ⟨a, hc⟩ := (hR.ref l).inv X Y rfl
  have h0 : 0 < s.size := by
    have h1 := a.1
    have h2 := bodyOf_size s
    simp only [ByteArray.size_extract] at h1
    omega
  by_cases hm : byt s 0 = 45
  · have e1 : negOf s = true := by unfold negOf; exact decide_eq_true ⟨h0, hm⟩
    have e2 : s.extract 1 s.size = bodyOf s := by unfold bodyOf; rw [if_pos e1]
    rw [e1] at hL
    rcases hc with ⟨c1, rfl, rfl⟩ | ⟨c1, c2, c3, rfl, c5, c6⟩ | ⟨c1, c2, c3, rfl, rfl⟩
    · exact vqParse_whole_ng s (bodyOf s) n _ V Z hs h0 hm e2 l a rfl c1 hL w
    · exact vqParse_over_ng s (bodyOf s) n _ Y V Z hs h0 hm e2 l a rfl c1 c2 c3 c5 c6 hL w
    · exact vqParse_point_ng s (bodyOf s) n _ V Z hs h0 hm e2 l a rfl (tl_two c3) c2 c3 hL w
  · have e1 : negOf s = false := by unfold negOf; exact decide_eq_false (fun h => hm h.2)
    have e2 : s = bodyOf s := by unfold bodyOf; rw [if_neg (by rw [e1]; decide)]
    rw [e1] at hL
    rcases hc with ⟨c1, rfl, rfl⟩ | ⟨c1, c2, c3, rfl, c5, c6⟩ | ⟨c1, c2, c3, rfl, rfl⟩
    · exact vqParse_whole_pl s (bodyOf s) n _ V Z hs h0 hm e2 l a rfl c1 hL w
    · exact vqParse_over_pl s (bodyOf s) n _ Y V Z hs h0 hm e2 l a rfl c1 c2 c3 c5 c6 hL w
    · exact vqParse_point_pl s (bodyOf s) n _ V Z hs h0 hm e2 l a rfl (tl_two c3) c2 c3 hL w

theorem vqParse_none (s : ByteArray) (hs : s.size ≤ 140737488351232) (hR : Rd (bodyOf s) none) (w : World) : Calls Tryz.prog 12 #[.string s] w fun e w' => e = .returned (.tuple #[.agg #[.bool false, .slice none 0 0, .slice none 0 0], .int .i64 31]) ∧ Below w.heap.size w w' := by
  obtain ⟨n, l⟩ := Lead.ex (bodyOf s)
  have hc := (hR.ref l).none_inv rfl
  by_cases h0 : 0 < s.size
  · by_cases hm : byt s 0 = 45
    · have e1 : negOf s = true := by unfold negOf; exact decide_eq_true ⟨h0, hm⟩
      have e2 : s.extract 1 s.size = bodyOf s := by unfold bodyOf; rw [if_pos e1]
      rcases hc with a | ⟨a, c1, ⟨c2, c3⟩ | ⟨c2, c3⟩ | ⟨c2, c3⟩⟩
      · exact vqParse_bad_ng s (bodyOf s) n hs h0 hm e2 l a w
      · by_cases b : isT 10 ((bodyOf s).extract (n + 1) (bodyOf s).size)
        · exact vqParse_overZero_ng s (bodyOf s) n _ hs h0 hm e2 l a rfl c1 c2 b (by by_cases z : val 10 ((bodyOf s).extract (n + 1) (bodyOf s).size) = 0; exact z; exact absurd ⟨b, z⟩ c3) w
        · exact vqParse_overBad_ng s (bodyOf s) n _ hs h0 hm e2 l a rfl c1 c2 b w
      · by_cases b : n + 1 = (bodyOf s).size
        · exact vqParse_pointNone_ng s (bodyOf s) n _ hs h0 hm e2 l a rfl b c2 w
        · exact vqParse_pointBad_ng s (bodyOf s) n _ hs h0 hm e2 l a rfl (by omega) c2 c3 w
      · exact vqParse_other_ng s (bodyOf s) n _ hs h0 hm e2 l a rfl c1 c2 c3 w
    · have e1 : negOf s = false := by unfold negOf; exact decide_eq_false (fun h => hm h.2)
      have e2 : s = bodyOf s := by unfold bodyOf; rw [if_neg (by rw [e1]; decide)]
      rcases hc with a | ⟨a, c1, ⟨c2, c3⟩ | ⟨c2, c3⟩ | ⟨c2, c3⟩⟩
      · exact vqParse_bad_pl s (bodyOf s) n hs h0 hm e2 l a w
      · by_cases b : isT 10 ((bodyOf s).extract (n + 1) (bodyOf s).size)
        · exact vqParse_overZero_pl s (bodyOf s) n _ hs h0 hm e2 l a rfl c1 c2 b (by by_cases z : val 10 ((bodyOf s).extract (n + 1) (bodyOf s).size) = 0; exact z; exact absurd ⟨b, z⟩ c3) w
        · exact vqParse_overBad_pl s (bodyOf s) n _ hs h0 hm e2 l a rfl c1 c2 b w
      · by_cases b : n + 1 = (bodyOf s).size
        · exact vqParse_pointNone_pl s (bodyOf s) n _ hs h0 hm e2 l a rfl b c2 w
        · exact vqParse_pointBad_pl s (bodyOf s) n _ hs h0 hm e2 l a rfl (by omega) c2 c3 w
      · exact vqParse_other_pl s (bodyOf s) n _ hs h0 hm e2 l a rfl c1 c2 c3 w
  · have e1 : negOf s = false := by unfold negOf; exact decide_eq_false (fun h => h0 h.1)
    have e2 : s = bodyOf s := by unfold bodyOf; rw [if_neg (by rw [e1]; decide)]
    have hz : s.size = 0 := by omega
    have a : ¬ isT 10 ((bodyOf s).extract 0 n) := fun a => by
      have h1 := a.1
      have h2 := bodyOf_size s
      simp only [ByteArray.size_extract] at h1
      omega
    exact vqParse_bad_em s (bodyOf s) n hs hz e2 l a w
end Go.Proofs.YtjbeagbkjmaeeaaGreatDoor

namespace Go.Proofs.YtjbeagbkjmaeeaaGreatDoor
open Go.RowKit
set_option linter.unusedVariables false
set_option linter.unusedSimpArgs false

theorem bytes_ext {a b : ByteArray} (hz : a.size = b.size) (h : ∀ k, k < a.size → byt a k = byt b k) : a = b := by
  apply ByteArray.ext
  apply Array.ext hz
  intro i h1 h2
  have := h i h1
  rw [byt_of h1, byt_of h2] at this
  exact UInt8.toNat_inj.1 this
theorem Rf.uniq {t : ByteArray} {n : Nat} {o o' : Option (Nat × Nat)} (h : Rf t n o) (k : Rf t n o') : o = o' := by
  cases h <;> cases k <;> first | rfl | (exfalso; simp_all; done) | (exfalso; omega)
theorem Rd.uniq {t : ByteArray} {o o' : Option (Nat × Nat)} (h : Rd t o) (k : Rd t o') : o = o' := by
  obtain ⟨n, l⟩ := Lead.ex t
  exact (h.ref l).uniq (k.ref l)
/-- what a text of a fraction says -/
def RQ (s : ByteArray) (Z : Int) (V : Nat) : Prop := ∃ X Y, Rd (bodyOf s) (some (X, Y)) ∧ Low (sg (negOf s) X) (Y : Int) Z V
theorem RQ.uniq {s : ByteArray} {Z Z' : Int} {V V' : Nat} (h : RQ s Z V) (k : RQ s Z' V') : Z = Z' ∧ V = V' := by
  obtain ⟨X, Y, h1, h2⟩ := h
  obtain ⟨X', Y', k1, k2⟩ := k
  have e := h1.uniq k1
  injection e with e
  injection e with e1 e2
  subst e1 e2
  exact h2.uniq k2 rfl
theorem RQ.low {s : ByteArray} {Z : Int} {V : Nat} (h : RQ s Z V) : 0 < V ∧ Nat.gcd (am Z) V = 1 ∧ ln (am Z) ≤ s.size / 8 + 1 ∧ ln V ≤ s.size / 8 + 1 := by
  obtain ⟨X, Y, h1, h2⟩ := h
  obtain ⟨g1, g2, g3⟩ := h1.good
  have hb := bodyOf_size s
  have hle := h2.le
  rw [am_sg, am_nat] at hle
  have l1 : ln (am Z) ≤ ln X := ln_le_of_lt (Nat.lt_of_le_of_lt hle.1 (ln_lt X))
  have l2 : ln V ≤ ln Y := ln_le_of_lt (Nat.lt_of_le_of_lt hle.2 (ln_lt Y))
  have : (bodyOf s).size / 8 ≤ s.size / 8 := Nat.div_le_div_right hb
  exact ⟨h2.pos, h2.cop, by omega, by omega⟩
theorem isTx.clean {X : Nat} {t : ByteArray} (h : isTx 10 X t) : ∀ k, k < t.size → 48 ≤ byt t k ∧ byt t k ≤ 57 := fun k hk =>
  dval10.1 ((h.isT (by omega) (by omega)).2.2 k hk)
/-- a fraction's own text says the fraction -/
theorem rq_own {Z : Int} {V : Nat} {u d : ByteArray} (hu : isTz (ng Z) (am Z) u) (hd : isTx 10 V d) (hV : 0 < V) (hc : Nat.gcd (am Z) V = 1) : RQ (tq u d V) Z V := by
  obtain ⟨t, ht, rfl⟩ := isTz_body hu
  have key : ∀ b : ByteArray, b = (if V = 1 then t else t ++ ⟨#[47]⟩ ++ d) → Rd b (some (am Z, V)) := fun b hb => by
    have ct := ht.clean
    have cd := hd.clean
    by_cases h1 : V = 1
    · rw [if_pos h1] at hb
      subst hb
      have := Rd.whole (t := b) (fun k hk => by have := ct k hk; omega) (fun k hk => by have := ct k hk; omega) (ht.isT (by omega) (by omega))
      rw [ht.val (by omega) (by omega)] at this
      rw [h1]; exact this
    · rw [if_neg h1] at hb
      have e1 : (⟨#[47]⟩ : ByteArray).size = 1 := rfl
      have hz : b.size = t.size + 1 + d.size := by rw [hb, ByteArray.size_append, ByteArray.size_append, e1]
      have x1 : b.extract 0 t.size = t := by rw [hb, assocB]; exact ex_left _ _
      have x2 : b.extract (t.size + 1) b.size = d := by
        have h := ex_right (t ++ ⟨#[47]⟩) d
        rw [← hb, ByteArray.size_append, e1, ← hz] at h
        exact h
      have hat : byt b t.size = 47 := by
        have h := byt_right (a := t) (b := (⟨#[47]⟩ : ByteArray) ++ d) (j := 0) (by rw [ByteArray.size_append, e1]; omega)
        rw [← assocB, ← hb, Nat.add_zero, byt_left (by rw [e1]; omega)] at h
        rw [h]; decide
      have hbe : ∀ k, k < t.size → byt b k ≠ 47 := fun k hk => by
        have := byt_left (a := t) (b := (⟨#[47]⟩ : ByteArray) ++ d) hk
        rw [← assocB, ← hb] at this
        have := ct k hk
        omega
      have := Rd.over (t := b) (i := t.size) (by omega) hat hbe (by rw [x1]; exact ht.isT (by omega) (by omega)) (by rw [x2]; exact hd.isT (by omega) (by omega)) (by rw [x2, hd.val (by omega) (by omega)]; omega)
      rw [x1, x2, ht.val (by omega) (by omega), hd.val (by omega) (by omega)] at this
      exact this
  have hsg : sg (ng Z) (am Z) = Z := by unfold sg ng am; by_cases h : Z < 0 <;> simp [h] <;> omega
  by_cases hn : ng Z = true
  · have e : tq (if ng Z = true then ⟨#[45]⟩ ++ t else t) d V = ⟨#[45]⟩ ++ (if V = 1 then t else t ++ ⟨#[47]⟩ ++ d) := by
      rw [if_pos hn]; unfold tq
      split
      · rfl
      · rw [assocB, assocB, assocB]
    rw [e]
    have e1 : (⟨#[45]⟩ : ByteArray).size = 1 := rfl
    generalize hB : (if V = 1 then t else t ++ ⟨#[47]⟩ ++ d) = B
    have n1 : negOf (⟨#[45]⟩ ++ B) = true := by
      unfold negOf
      exact decide_eq_true ⟨by rw [ByteArray.size_append, e1]; omega, by rw [byt_left (by rw [e1]; omega)]; decide⟩
    have b1 : bodyOf (⟨#[45]⟩ ++ B) = B := by
      unfold bodyOf
      rw [if_pos n1]
      have := ex_right ⟨#[45]⟩ B
      rw [e1] at this
      rw [ByteArray.size_append, e1]
      exact this
    refine ⟨am Z, V, ?_, ?_⟩
    · rw [b1]; exact key B hB.symm
    · rw [n1, ← hn, hsg]; exact Low.self hV hc
  · have hn' : ng Z = false := by cases h : ng Z; rfl; exact absurd h hn
    have e : tq (if ng Z = true then ⟨#[45]⟩ ++ t else t) d V = (if V = 1 then t else t ++ ⟨#[47]⟩ ++ d) := by
      rw [if_neg hn]; rfl
    rw [e]
    have h0 : byt (if V = 1 then t else t ++ ⟨#[47]⟩ ++ d) 0 = byt t 0 := by
      split
      · rfl
      · rw [assocB, byt_left (by have := ht.1; omega)]
    generalize hB : (if V = 1 then t else t ++ ⟨#[47]⟩ ++ d) = B at h0 ⊢
    have n1 : negOf B = false := by
      unfold negOf
      exact decide_eq_false fun h => ht.head (by rw [← h0]; exact h.2)
    have b1 : bodyOf B = B := by unfold bodyOf; rw [if_neg (by rw [n1]; decide)]
    refine ⟨am Z, V, ?_, ?_⟩
    · rw [b1]; exact key B hB.symm
    · rw [n1, ← hn', hsg]; exact Low.self hV hc
/-- a number of both parts, each lowest -/
structure NmD (ZA : Int) (VA : Nat) (ZB : Int) (VB : Nat) : Prop where
  pA : 0 < VA
  cA : Nat.gcd (am ZA) VA = 1
  pB : 0 < VB
  cB : Nat.gcd (am ZB) VB = 1
/-- a number's text -/
def TxD (ZA : Int) (VA : Nat) (ZB : Int) (VB : Nat) (s : ByteArray) : Prop :=
  ∃ uA dA uB dB, isTz (ng ZA) (am ZA) uA ∧ isTx 10 VA dA ∧ isTz (ng ZB) (am ZB) uB ∧ isTx 10 VB dB ∧
    s = if ZB = 0 then tq uA dA VA else if 0 < ZB then tq uA dA VA ++ ((⟨#[43]⟩ : ByteArray) ++ tq uB dB VB ++ ⟨#[100]⟩) else tq uA dA VA ++ (tq uB dB VB ++ ⟨#[100]⟩)
theorem TxD.ex (ZA : Int) (VA : Nat) (ZB : Int) (VB : Nat) : ∃ s, TxD ZA VA ZB VB s := by
  obtain ⟨uA, huA⟩ := isTz_ex (ng ZA) (am ZA)
  obtain ⟨uB, huB⟩ := isTz_ex (ng ZB) (am ZB)
  obtain ⟨dA, hdA⟩ := isTx_ex (b := 10) (by omega) (by omega) VA
  obtain ⟨dB, hdB⟩ := isTx_ex (b := 10) (by omega) (by omega) VB
  exact ⟨_, uA, dA, uB, dB, huA, hdA, huB, hdB, rfl⟩
theorem TxD.one {ZA : Int} {VA : Nat} {ZB : Int} {VB : Nat} {s s' : ByteArray} (h : TxD ZA VA ZB VB s) (k : TxD ZA VA ZB VB s') : s = s' := by
  obtain ⟨uA, dA, uB, dB, h1, h2, h3, h4, rfl⟩ := h
  obtain ⟨uA', dA', uB', dB', k1, k2, k3, k4, rfl⟩ := k
  rw [h1.uniq k1, h2.uniq (by omega) k2, h3.uniq k3, h4.uniq (by omega) k4]
/-- the text of a number with a second part: what stands where -/
theorem TxD.parts {ZA : Int} {VA : Nat} {ZB : Int} {VB : Nat} {s : ByteArray} (h : TxD ZA VA ZB VB s) (hN : NmD ZA VA ZB VB) (hz : ZB ≠ 0) :
    ∃ i, 1 ≤ i ∧ i + 1 < s.size ∧ byt s (s.size - 1) = 100 ∧ (byt s i = if 0 < ZB then 43 else 45) ∧ RQ (s.extract 0 i) ZA VA ∧ (∃ Z2, RQ (s.extract (i + 1) (s.size - 1)) Z2 VB ∧ ZB = if 0 < ZB then Z2 else -Z2) ∧ (∀ j, i < j → j < s.size → byt s j ≠ 43 ∧ byt s j ≠ 45) := by
  obtain ⟨uA, dA, uB, dB, h1, h2, h3, h4, hs⟩ := h
  rw [if_neg hz] at hs
  have pA := tq_pos (d := dA) (V := VA) h1
  obtain ⟨c, Z2, u2, hc, hZ, hu2, hs2⟩ : ∃ (c : UInt8) (Z2 : Int) (u2 : ByteArray), (c.toNat = if 0 < ZB then 43 else 45) ∧ (0 ≤ Z2 ∧ am Z2 = am ZB ∧ ZB = if 0 < ZB then Z2 else -Z2) ∧ isTz (ng Z2) (am Z2) u2 ∧ s = tq uA dA VA ++ ((⟨#[c]⟩ : ByteArray) ++ tq u2 dB VB ++ ⟨#[100]⟩) := by
    by_cases hp : 0 < ZB
    · rw [if_pos hp] at hs
      exact ⟨43, ZB, uB, by rw [if_pos hp]; rfl, ⟨by omega, rfl, by rw [if_pos hp]⟩, h3, hs⟩
    · rw [if_neg hp] at hs
      obtain ⟨uN, huN⟩ := isTz_ex (ng (-ZB)) (am (-ZB))
      have hng : ng ZB = true := by unfold ng; rw [decide_eq_true_eq]; omega
      have hU := tq_neg (d := dB) (V := VB) hng h3 huN
      refine ⟨45, -ZB, uN, by rw [if_neg hp]; rfl, ⟨by omega, by rw [am_neg], by rw [if_neg hp]; omega⟩, huN, ?_⟩
      rw [hs, hU]
  have hn2 : ng Z2 = false := by unfold ng; rw [decide_eq_false_iff_not]; omega
  have cl := tq_clean hn2 hu2 h4
  have p2 := tq_pos (d := dB) (V := VB) hu2
  have r1 := rq_own h1 h2 hN.pA hN.cA
  have r2 := rq_own hu2 h4 hN.pB (by rw [hZ.2.1]; exact hN.cB)
  generalize tq uA dA VA = a at *
  generalize tq u2 dB VB = u at *
  have e1 : (⟨#[c]⟩ : ByteArray).size = 1 := rfl
  have e2 : (⟨#[100]⟩ : ByteArray).size = 1 := rfl
  have hsz : s.size = a.size + (1 + u.size + 1) := by rw [hs2, ByteArray.size_append, ByteArray.size_append, ByteArray.size_append, e1, e2]
  have at1 : ∀ j, j < 1 + u.size + 1 → byt s (a.size + j) = byt ((⟨#[c]⟩ : ByteArray) ++ u ++ ⟨#[100]⟩) j := fun j hj => by
    rw [hs2]; exact byt_right (by rw [ByteArray.size_append, ByteArray.size_append, e1, e2]; exact hj)
  have hL : byt s (s.size - 1) = 100 := by
    rw [show s.size - 1 = a.size + (1 + u.size) by omega, at1 _ (by omega)]
    have := byt_right (a := (⟨#[c]⟩ : ByteArray) ++ u) (b := ⟨#[100]⟩) (j := 0) (by rw [e2]; omega)
    rw [ByteArray.size_append, e1, Nat.add_zero] at this
    rw [this]; decide
  have mid : ∀ j, j < u.size → byt s (a.size + (1 + j)) = byt u j := fun j hj => by
    rw [at1 _ (by omega), byt_left (by rw [ByteArray.size_append, e1]; omega)]
    have := byt_right (a := (⟨#[c]⟩ : ByteArray)) (b := u) (j := j) hj
    rw [e1] at this
    exact this
  refine ⟨a.size, pA, by omega, hL, ?_, ?_, ⟨Z2, ?_, hZ.2.2⟩, fun j j1 j2 => ?_⟩
  · have := at1 0 (by omega)
    rw [Nat.add_zero] at this
    rw [this, assocB, byt_left (by rw [e1]; omega), ← hc]
    rfl
  · rw [hs2, ex_left]; exact r1
  · have x := ex_right (a ++ ⟨#[c]⟩) (u ++ ⟨#[100]⟩)
    have eS : s = a ++ ⟨#[c]⟩ ++ (u ++ ⟨#[100]⟩) := by rw [hs2, assocB, assocB]
    have x2 : s.extract (a.size + 1) (s.size - 1) = u := by
      apply bytes_ext
      · simp only [ByteArray.size_extract]; omega
      · intro k hk
        simp only [ByteArray.size_extract] at hk
        rw [byt_extract (by omega) (by omega), show a.size + 1 + k = a.size + (1 + k) by omega, mid k (by omega)]
    rw [x2]; exact r2
  · by_cases hj : j = s.size - 1
    · rw [hj, hL]; omega
    · obtain ⟨k, rfl⟩ : ∃ k, j = a.size + (1 + k) := ⟨j - a.size - 1, by omega⟩
      rw [mid k (by omega)]
      have := cl k (by omega)
      exact ⟨this.1, this.2.1⟩
theorem TxD.first {ZA : Int} {VA : Nat} {ZB : Int} {VB : Nat} {s : ByteArray} (h : TxD ZA VA ZB VB s) (hN : NmD ZA VA ZB VB) (hz : ZB = 0) :
    byt s (s.size - 1) ≠ 100 ∧ RQ s ZA VA ∧ VB = 1 := by
  obtain ⟨uA, dA, uB, dB, h1, h2, h3, h4, hs⟩ := h
  rw [if_pos hz] at hs
  have := hN.cB
  rw [hz] at this
  refine ⟨by rw [hs]; exact tq_last h1 h2, by rw [hs]; exact rq_own h1 h2 hN.pA hN.cA, by simpa [am] using this⟩
theorem TxD.uniq {ZA : Int} {VA : Nat} {ZB : Int} {VB : Nat} {ZA' : Int} {VA' : Nat} {ZB' : Int} {VB' : Nat} {s : ByteArray} (h : TxD ZA VA ZB VB s) (hN : NmD ZA VA ZB VB) (k : TxD ZA' VA' ZB' VB' s) (kN : NmD ZA' VA' ZB' VB') : ZA = ZA' ∧ VA = VA' ∧ ZB = ZB' ∧ VB = VB' := by
  by_cases hz : ZB = 0
  · obtain ⟨a1, a2, a3⟩ := h.first hN hz
    by_cases kz : ZB' = 0
    · obtain ⟨c1, c2, c3⟩ := k.first kN kz
      obtain ⟨r1, r2⟩ := a2.uniq c2
      exact ⟨r1, r2, by omega, by omega⟩
    · obtain ⟨i, _, _, c1, _⟩ := k.parts kN kz
      exact absurd c1 a1
  · obtain ⟨i, i1, i2, a1, a2, a3, ⟨Z2, a4, a5⟩, a6⟩ := h.parts hN hz
    by_cases kz : ZB' = 0
    · exact absurd a1 (k.first kN kz).1
    · obtain ⟨j, j1, j2, c1, c2, c3, ⟨Z3, c4, c5⟩, c6⟩ := k.parts kN kz
      have s1 : byt s i = 43 ∨ byt s i = 45 := by rw [a2]; split <;> simp
      have s2 : byt s j = 43 ∨ byt s j = 45 := by rw [c2]; split <;> simp
      have ij : i = j := by
        rcases Nat.lt_trichotomy i j with g | g | g
        · have := a6 j g (by omega); omega
        · exact g
        · have := c6 i g (by omega); omega
      subst ij
      obtain ⟨r1, r2⟩ := a3.uniq c3
      obtain ⟨r3, r4⟩ := a4.uniq c4
      rw [a2] at c2
      refine ⟨r1, r2, ?_, r4⟩
      rw [a5, c5, r3]
      by_cases g1 : 0 < ZB <;> by_cases g2 : 0 < ZB' <;> simp only [g1, g2, if_true, if_false] at c2 ⊢ <;> omega
end Go.Proofs.YtjbeagbkjmaeeaaGreatDoor

namespace Go.Proofs.YtjbeagbkjmaeeaaGreatDoor
open Go.RowKit
set_option linter.unusedVariables false
set_option linter.unusedSimpArgs false
set_option maxHeartbeats 2000000 in
set_option maxRecDepth 100000 in
theorem rune_err (w : World) : Calls Tryz.prog 37 #[.string ⟨#[43, 45]⟩, .int .i32 65533] w fun e w' => e = .returned (.int .i64 (-1)) ∧ Below w.heap.size w w' := by
  have hlow : ∀ k, k < (⟨#[43, 45]⟩ : ByteArray).size → byt ⟨#[43, 45]⟩ k < 128 := fun k hk => by
    have : (⟨#[43, 45]⟩ : ByteArray).size = 2 := rfl
    rcases (show k = 0 ∨ k = 1 by omega) with rfl | rfl <;> decide
  have HL := hide' hlow
  clear hlow
  generalize (⟨#[43, 45]⟩ : ByteArray) = s at HL ⊢
  go_enter Tryz.func37, Tryz.ntmps37
  go_wp2
  go_loopw [] (fun wr => ∃ pos : Nat, wr.heap[w.heap.size]? = some (.stringIter s pos) ∧ Below w.heap.size w wr) (fun wr => s.size - wr.iterPos w.heap.size)
  case atStart => exact ⟨0, World.iter_heap _ _ _, (Below.refl _ w).alloc (Nat.le_refl _) _⟩
  case round =>
    obtain ⟨pos, hit, hb⟩ := hrel
    by_cases hp : pos < s.size
    · have hnx : ∀ ty, (Instr.next (.pointer (some ⟨w.heap.size, 0, none⟩)) true ty).run Tryz.prog wr = _ := fun ty => Lib.run_next_any_at wr w.heap.size s pos ty hit hp
      have hl := HL.out pos hp
      have ed : Utf8.decode s pos = (byt s pos, 1) := by
        rw [byt_of hp] at hl ⊢
        rw [decode_ascii s pos hp hl]
      rw [ed] at hnx
      have hx : ((byt s pos : Int) == 65533) = false := by rw [beq_eq_false_iff_ne]; omega
      clear ed
      go_wp2
      go_roundw
      case rel => exact ⟨pos + 1, Lib.iterAt_heap wr _ s pos _ hit, Lib.below_iterAt hb (Nat.le_refl _) s _⟩
      case measure => simp only [World.iterPos, Lib.iterAt_heap wr _ s pos _ hit, hit]; omega
    · have hnx : ∀ ty, (Instr.next (.pointer (some ⟨w.heap.size, 0, none⟩)) true ty).run Tryz.prog wr = _ := fun ty => Lib.run_next_end_at wr w.heap.size s pos ty hit hp
      go_wp2
      go_ret
      exact ⟨rfl, hb⟩
end Go.Proofs.YtjbeagbkjmaeeaaGreatDoor

namespace Go.Proofs
open Go.Shelf
def Tryz.lays119_ren : Go.Shelf.Ren := ⟨fun | 119 => 70 | n => n, fun | 21 => 21 | 4 => 4 | n => n, fun | n => n⟩
theorem Tryz.lays119 : Go.Proofs.Lays.n119 Tryz.prog Tryz.lays119_ren := {
  mixed := by kernel_rfl
  f119 := Tryz.func70.trans (congrArg some (by kernel_rfl))
  t4 := Tryz.underlying4
  a4 := Tryz.isAgg4
  z4 := Tryz.sizeOf4
  v4 := Tryz.zeroValue4
  t21 := Tryz.underlying21
  a21 := Tryz.isAgg21
  z21 := Tryz.sizeOf21
  v21 := Tryz.zeroValue21 }
end Go.Proofs
namespace Go.Proofs.YtjbeagbkjmaeeaaGreatDoor
open Go.RowKit
set_option linter.unusedVariables false
set_option linter.unusedSimpArgs false
theorem valid_is (r : Int) (b : Bool) (hb : Lib.validRune r = b) (w : World) : Calls Tryz.prog 70 #[.int .i32 r] w fun e w' => e = .returned (.bool b) ∧ w' = w := by
  rw [← hb]; exact Any.utf8_ValidRune Tryz.lays119 r w
set_option maxHeartbeats 2000000 in
set_option maxRecDepth 100000 in
theorem rune_bad (r : Int) (h : 128 ≤ r) (h2 : r ≠ 65533) (hv : Lib.validRune r = false) (w : World) : Calls Tryz.prog 37 #[.string ⟨#[43, 45]⟩, .int .i32 r] w fun e w' => e = .returned (.int .i64 (-1)) ∧ w' = w := by
  have V := hide' (fun w => valid_is r false hv w)
  have g1 : (0 : Int) ≤ r := by omega
  have g2 : ¬ (r < 128) := by omega
  have g3 : (r == 65533) = false := by rw [beq_eq_false_iff_ne]; exact h2
  go_enter Tryz.func37, Tryz.ntmps37
  go_wp2_with fail
  refine (V.out _).mono ?_
  rintro e w1 ⟨rfl, rfl⟩
  go_wp2
  go_ret
  exact ⟨rfl, rfl⟩
end Go.Proofs.YtjbeagbkjmaeeaaGreatDoor

namespace Go.Proofs.YtjbeagbkjmaeeaaGreatDoor
open Go.RowKit
set_option linter.unusedVariables false
set_option linter.unusedSimpArgs false
set_option maxHeartbeats 4000000 in
set_option maxRecDepth 100000 in
/-- its encoding has three bytes or four -/
theorem rune_long (r : Int) (h : 128 ≤ r) (h2 : r ≠ 65533) (hv : Lib.validRune r = true) (hz : 3 ≤ (Utf8.encode r).size) (hz4 : (Utf8.encode r).size ≤ 4) (w : World) : Calls Tryz.prog 37 #[.string ⟨#[43, 45]⟩, .int .i32 r] w fun e w' => e = .returned (.int .i64 (-1)) ∧ w' = w := by
  have V := hide' (fun w => valid_is r true hv w)
  have g1 : (0 : Int) ≤ r := by omega
  have g2 : ¬ (r < 128) := by omega
  have g3 : (r == 65533) = false := by rw [beq_eq_false_iff_ne]; exact h2
  have g4 : (⟨#[43, 45]⟩ : ByteArray).size = 2 := rfl
  have g5 : ¬ (((Utf8.encode r).size : Int) - 1 < 2) := by omega
  go_enter Tryz.func37, Tryz.ntmps37
  go_wp2_with fail
  refine (V.out _).mono ?_
  rintro e w1 ⟨rfl, rfl⟩
  go_wp2
  go_step3
  go_wp2
  refine wp_loop_rounds 1 ?_
  rw [rounds_succ]
  go_wp2
  try rw [Exit.noGoto_ret]
  go_ret
  exact ⟨rfl, rfl⟩
end Go.Proofs.YtjbeagbkjmaeeaaGreatDoor

namespace Go.Proofs
open Go.Shelf
def Tryz.lays137_ren : Go.Shelf.Ren := ⟨fun | 137 => 69 | 217 => 96 | 266 => 121 | n => n, fun | 9 => 9 | 5 => 5 | 3 => 3 | n => n, fun | n => n⟩
theorem Tryz.lays137 : Go.Proofs.Lays.n137 Tryz.prog Tryz.lays137_ren := {
  mixed := by kernel_rfl
  f137 := Tryz.func69.trans (congrArg some (by kernel_rfl))
  f217 := Tryz.func96.trans (congrArg some (by kernel_rfl))
  f266 := Tryz.func121.trans (congrArg some (by kernel_rfl))
  t3 := Tryz.underlying3
  a3 := Tryz.isAgg3
  z3 := Tryz.sizeOf3
  v3 := Tryz.zeroValue3
  t5 := Tryz.underlying5
  a5 := Tryz.isAgg5
  z5 := Tryz.sizeOf5
  v5 := Tryz.zeroValue5
  t9 := Tryz.underlying9
  a9 := Tryz.isAgg9
  z9 := Tryz.sizeOf9
  v9 := Tryz.zeroValue9 }
end Go.Proofs
namespace Go.Proofs.YtjbeagbkjmaeeaaGreatDoor
open Go.RowKit
set_option linter.unusedVariables false
set_option linter.unusedSimpArgs false
set_option maxHeartbeats 4000000 in
set_option maxRecDepth 100000 in
theorem rune_two (r : Int) (h : 128 ≤ r) (h2 : r ≠ 65533) (hv : Lib.validRune r = true) (hz : (Utf8.encode r).size = 2) (h128 : 128 ≤ byt (Utf8.encode r) 1) (w : World) : Calls Tryz.prog 37 #[.string ⟨#[43, 45]⟩, .int .i32 r] w fun e w' => e = .returned (.int .i64 (-1)) ∧ Below w.heap.size w w' := by
  have V := hide' (fun w => valid_is r true hv w)
  have g1 : (0 : Int) ≤ r := by omega
  have g2 : ¬ (r < 128) := by omega
  have g3 : (r == 65533) = false := by rw [beq_eq_false_iff_ne]; exact h2
  have g4 : (⟨#[43, 45]⟩ : ByteArray).size = 2 := rfl
  have g5 : (((Utf8.encode r).size : Int) - 1 < 2) := by omega
  go_enter Tryz.func37, Tryz.ntmps37
  go_wp2_with fail
  refine (V.out _).mono ?_
  rintro e w1 ⟨rfl, rfl⟩
  go_wp2
  go_step3
  go_wp2
  refine wp_loop_rounds 1 ?_
  rw [rounds_succ]
  go_wp2_with fail
  go_step3
  go_wp2_with fail
  have g6 : (((Utf8.encode r).size : Int) - 1) = 1 := by omega
  have bel : Below w1.heap.size w1 w1 := Below.refl _ _
  have hl1 : 1 < (Utf8.encode r).size := by omega
  have hx : ((((⟨#[43, 45]⟩ : ByteArray)[1]'(by decide)).toNat : Int) != (((Utf8.encode r)[1]'hl1).toNat : Int)) = true := by
    rw [bne_iff_ne]
    have h9 := byt_of hl1
    have h8 : ((⟨#[43, 45]⟩ : ByteArray)[1]'(by decide)).toNat = 45 := rfl
    omega
  have hw2 : IntKind.i64.wrap 2 = 2 := by decide
  have GI := hide' (fun (s : ByteArray) (c : Int) w => Any.strings_IndexByte Tryz.lays137 s c w)
  have bD : Below w1.heap.size w1 w1.drew := (Below.refl _ _).drew
  replace bel := bel.trans (bD.mono bel.size)
  refine wp_region_held_drew (S := fun w' => True) (by kernel_rfl) trivial (fun hHeld => ?_)
  generalize w1.drew = w2 at bD bel hHeld ⊢
  clear bD
  refine take' 0 (v := ?_) rfl (by kernel_rfl) (by kernel_rfl) (by kernel_rfl) (fun _ _ _ h => h) (Or.inl ⟨by rfl, ?_⟩) (by assumption) ?_
  rotate_left
  · intro w9 hSw
    go_simp
    first | done | with_reducible rfl
  simp only [Act.put, List.setIfInBounds_toArray, List.set_cons_zero, List.set_cons_succ]
  refine take' 1 (v := ?_) rfl (by kernel_rfl) (by kernel_rfl) (by kernel_rfl) (fun _ _ _ h => h) (Or.inl ⟨by rfl, ?_⟩) (by assumption) ?_
  rotate_left
  · intro w9 hSw
    go_simp
    first | done | with_reducible rfl
  simp only [Act.put, List.setIfInBounds_toArray, List.set_cons_zero, List.set_cons_succ]
  refine take' 2 (v := ?_) rfl (by kernel_rfl) (by kernel_rfl) (by kernel_rfl) (fun _ _ _ h => h) (Or.inl ⟨by rfl, ?_⟩) (by assumption) ?_
  rotate_left
  · intro w9 hSw
    go_simp
    first | done | with_reducible rfl
  simp only [Act.put, List.setIfInBounds_toArray, List.set_cons_zero, List.set_cons_succ]
  refine take' 3 (v := ?_) rfl (by kernel_rfl) (by kernel_rfl) (by kernel_rfl) (fun _ _ _ h => h) (Or.inl ⟨by rfl, ?_⟩) (by assumption) ?_
  rotate_left
  · intro w9 hSw
    go_simp
    first | done | with_reducible rfl
  simp only [Act.put, List.setIfInBounds_toArray, List.set_cons_zero, List.set_cons_succ]
  refine take' 4 (v := ?_) rfl (by kernel_rfl) (by kernel_rfl) (by kernel_rfl) (fun _ _ _ h => h) (Or.inl ⟨by rfl, ?_⟩) (by assumption) ?_
  rotate_left
  · intro w9 hSw
    go_simp
    first | done | with_reducible rfl
  simp only [Act.put, List.setIfInBounds_toArray, List.set_cons_zero, List.set_cons_succ]
  refine take' 5 (v := ?_) rfl (by kernel_rfl) (by kernel_rfl) (by kernel_rfl) (fun _ _ _ h => h) (Or.inl ⟨by rfl, ?_⟩) (by assumption) ?_
  rotate_left
  · intro w9 hSw
    go_simp
    first | done | with_reducible rfl
  simp only [Act.put, List.setIfInBounds_toArray, List.set_cons_zero, List.set_cons_succ]
  refine take' 6 (v := ?_) rfl (by kernel_rfl) (by kernel_rfl) (by kernel_rfl) (fun _ _ _ h => h) (Or.inl ⟨by rfl, ?_⟩) (by assumption) ?_
  rotate_left
  · intro w9 hSw
    go_simp
    first | done | with_reducible rfl
  simp only [Act.put, List.setIfInBounds_toArray, List.set_cons_zero, List.set_cons_succ]
  refine wpAnyH_done (by kernel_rfl) ?_ _
  go_wp2_with fail
  have bD : Below w2.heap.size w2 w2.drew := (Below.refl _ _).drew
  replace bel := bel.trans (bD.mono bel.size)
  refine wp_region_held_drew (S := fun w' => True) (by kernel_rfl) trivial (fun hHeld => ?_)
  generalize w2.drew = w3 at bD bel hHeld ⊢
  clear bD
  refine take' 0 (v := ?_) rfl (by kernel_rfl) (by kernel_rfl) (by kernel_rfl) (fun _ _ _ h => h) (Or.inl ⟨by rfl, ?_⟩) (by assumption) ?_
  rotate_left
  · intro w9 hSw
    go_simp
    first | done | with_reducible rfl
  simp only [Act.put, List.setIfInBounds_toArray, List.set_cons_zero, List.set_cons_succ]
  refine take' 1 (v := ?_) rfl (by kernel_rfl) (by kernel_rfl) (by kernel_rfl) (fun _ _ _ h => h) (Or.inl ⟨by rfl, ?_⟩) (by assumption) ?_
  rotate_left
  · intro w9 hSw
    go_simp
    first | done | with_reducible rfl
  simp only [Act.put, List.setIfInBounds_toArray, List.set_cons_zero, List.set_cons_succ]
  refine take' 2 (v := ?_) rfl (by kernel_rfl) (by kernel_rfl) (by kernel_rfl) (fun _ _ _ h => h) (Or.inl ⟨by rfl, ?_⟩) (by assumption) ?_
  rotate_left
  · intro w9 hSw
    go_simp
    first | done | with_reducible rfl
  simp only [Act.put, List.setIfInBounds_toArray, List.set_cons_zero, List.set_cons_succ]
  refine take' 3 (v := ?_) rfl (by kernel_rfl) (by kernel_rfl) (by kernel_rfl) (fun _ _ _ h => h) (Or.inl ⟨by rfl, ?_⟩) (by assumption) ?_
  rotate_left
  · intro w9 hSw
    go_simp
    first | done | with_reducible rfl
  simp only [Act.put, List.setIfInBounds_toArray, List.set_cons_zero, List.set_cons_succ]
  refine take' 4 (v := ?_) rfl (by kernel_rfl) (by kernel_rfl) (by kernel_rfl) (fun _ _ _ h => h) (Or.inl ⟨by rfl, ?_⟩) (by assumption) ?_
  rotate_left
  · intro w9 hSw
    go_simp
    first | done | with_reducible rfl
  simp only [Act.put, List.setIfInBounds_toArray, List.set_cons_zero, List.set_cons_succ]
  refine take' 5 (v := ?_) rfl (by kernel_rfl) (by kernel_rfl) (by kernel_rfl) (fun _ _ _ h => h) (Or.inl ⟨by rfl, ?_⟩) (by assumption) ?_
  rotate_left
  · intro w9 hSw
    go_simp
    first | done | with_reducible rfl
  simp only [Act.put, List.setIfInBounds_toArray, List.set_cons_zero, List.set_cons_succ]
  refine take' 6 (v := ?_) rfl (by kernel_rfl) (by kernel_rfl) (by kernel_rfl) (fun _ _ _ h => h) (Or.inl ⟨by rfl, ?_⟩) (by assumption) ?_
  rotate_left
  · intro w9 hSw
    go_simp
    first | done | with_reducible rfl
  simp only [Act.put, List.setIfInBounds_toArray, List.set_cons_zero, List.set_cons_succ]
  refine wpAnyH_ready (rs := [7]) (by kernel_rfl) (by simp) ?_
  refine cons' rfl (fun KK hKK => ?_)
  go_simp
  refine (GI.out _ _ _).mono ?_
  rintro e w4 ⟨rfl, rfl⟩
  rw [show ∀ c, Lib.indexByte ByteArray.empty.data.toList c = -1 from fun _ => rfl]
  go_wp2_with fail
  refine hKK.out _ _ trivial ?_
  clear hHeld
  intro hHeld
  clear hKK KK
  try simp only [Act.put, List.setIfInBounds_toArray, List.set_cons_zero, List.set_cons_succ]
  refine take' 8 (v := ?_) rfl (by kernel_rfl) (by kernel_rfl) (by kernel_rfl) (fun _ _ _ h => h) (Or.inl ⟨by rfl, ?_⟩) (by assumption) ?_
  rotate_left
  · intro w9 hSw
    go_simp
    first | done | with_reducible rfl
  simp only [Act.put, List.setIfInBounds_toArray, List.set_cons_zero, List.set_cons_succ]
  refine wpAnyH_done (by kernel_rfl) ?_ _
  go_wp2
  try rw [Exit.noGoto_ret]
  simp only [Exit.inBlock, Exit.then]
  try rw [Exit.noGoto_ret]
  try simp only [Exit.inBlock, Exit.then]
  go_ret
  exact ⟨rfl, bel⟩
end Go.Proofs.YtjbeagbkjmaeeaaGreatDoor

namespace Go.Proofs
open Go.Shelf
def Tryz.lays271_ren : Go.Shelf.Ren := ⟨fun | 271 => 41 | 120 => 73 | 197 => 74 | 260 => 97 | n => n, fun | 9 => 9 | 21 => 21 | 3 => 3 | 4 => 4 | 5 => 5 | 105 => 71 | 119 => 128 | 0 => 0 | 46 => 89 | 139 => 131 | 138 => 130 | n => n, fun | 3 => 1 | 4 => 2 | n => n⟩
theorem Tryz.lays271 : Go.Proofs.Lays.n271 Tryz.prog Tryz.lays271_ren := {
  mixed := by kernel_rfl
  f120 := Tryz.func73.trans (congrArg some (by kernel_rfl))
  f197 := Tryz.func74.trans (congrArg some (by kernel_rfl))
  f260 := Tryz.func97.trans (congrArg some (by kernel_rfl))
  f271 := Tryz.func41.trans (congrArg some (by kernel_rfl))
  t0 := Tryz.underlying0
  a0 := Tryz.isAgg0
  z0 := Tryz.sizeOf0
  v0 := Tryz.zeroValue0
  t3 := Tryz.underlying3
  a3 := Tryz.isAgg3
  z3 := Tryz.sizeOf3
  v3 := Tryz.zeroValue3
  t4 := Tryz.underlying4
  a4 := Tryz.isAgg4
  z4 := Tryz.sizeOf4
  v4 := Tryz.zeroValue4
  t5 := Tryz.underlying5
  a5 := Tryz.isAgg5
  z5 := Tryz.sizeOf5
  v5 := Tryz.zeroValue5
  t9 := Tryz.underlying9
  a9 := Tryz.isAgg9
  z9 := Tryz.sizeOf9
  v9 := Tryz.zeroValue9
  t21 := Tryz.underlying21
  a21 := Tryz.isAgg21
  z21 := Tryz.sizeOf21
  v21 := Tryz.zeroValue21
  t46 := Tryz.underlying89
  a46 := Tryz.isAgg89
  z46 := Tryz.sizeOf89
  v46 := Tryz.zeroValue89
  t105 := Tryz.underlying71
  a105 := Tryz.isAgg71
  z105 := Tryz.sizeOf71
  v105 := Tryz.zeroValue71
  t119 := Tryz.underlying128
  a119 := Tryz.isAgg128
  z119 := Tryz.sizeOf128
  t138 := Tryz.underlying130
  a138 := Tryz.isAgg130
  z138 := Tryz.sizeOf130
  v138 := Tryz.zeroValue130
  t139 := Tryz.underlying131
  a139 := Tryz.isAgg131
  z139 := Tryz.sizeOf131
  v139 := Tryz.zeroValue131
  g3 := by kernel_rfl
  g4 := by kernel_rfl }
end Go.Proofs
namespace Go.Proofs.YtjbeagbkjmaeeaaGreatDoor
open Go.RowKit
set_option linter.unusedVariables false
set_option linter.unusedSimpArgs false
/-- unicode/utf8's two tables lie where the library lays them -/
def UTab (w : World) : Prop := Lib.Utf8Tabs 1 2 w
theorem UTab.below {w w' : World} (h : UTab w) (hb : Below w.heap.size w w') : UTab w' :=
  ⟨fun c hc => below_cell hb (h.1 c hc), fun i hi => ⟨below_cell hb (h.2 i hi).1, below_cell hb (h.2 i hi).2⟩⟩
theorem enc2 {r : Nat} (h : 128 ≤ r) (h2 : r < 2048) : Utf8.encode (r : Int) = ⟨#[UInt8.ofNat (192 + r / 64), UInt8.ofNat (128 + r % 64)]⟩ := by
  have hv : Utf8.valid (r : Int) = true := by unfold Utf8.valid; simp; omega
  unfold Utf8.encode
  simp only [hv, if_true, Int.toNat_natCast]
  rw [if_neg (by omega), if_pos (by omega)]
theorem enc3 {r : Nat} (h : 2048 ≤ r) : 3 ≤ (Utf8.encode (r : Int)).size ∧ (Utf8.encode (r : Int)).size ≤ 4 := by
  unfold Utf8.encode
  simp only []
  have hc : 2048 ≤ (if Utf8.valid (r : Int) = true then (r : Int).toNat else Utf8.runeError) := by
    split
    · rw [Int.toNat_natCast]; exact h
    · decide
  generalize (if Utf8.valid (r : Int) = true then (r : Int).toNat else Utf8.runeError) = c at hc ⊢
  rw [if_neg (by omega), if_neg (by omega)]
  split <;> exact ⟨Nat.le_of_ble_eq_true rfl, Nat.le_of_ble_eq_true rfl⟩
theorem rune_any (r : Nat) (w : World) : Calls Tryz.prog 37 #[.string ⟨#[43, 45]⟩, .int .i32 (r : Int)] w fun e w' => ∃ x : Int, e = .returned (.int .i64 x) ∧ -1 ≤ x ∧ x ≤ 1 ∧ Below w.heap.size w w' := by
  by_cases h1 : r < 128
  · refine (rune_is r h1 w).mono ?_
    rintro e w' ⟨rfl, rfl⟩
    refine ⟨_, rfl, ?_, ?_, Below.refl _ _⟩ <;> (repeat' split) <;> omega
  by_cases h2 : r = 65533
  · subst h2
    refine (rune_err w).mono ?_
    rintro e w' ⟨rfl, hb⟩
    exact ⟨-1, rfl, by omega, by omega, hb⟩
  cases hv : Lib.validRune (r : Int)
  · refine (rune_bad r (by omega) (by omega) hv w).mono ?_
    rintro e w' ⟨rfl, rfl⟩
    exact ⟨-1, rfl, by omega, by omega, Below.refl _ _⟩
  by_cases h3 : r < 2048
  · have e2 := enc2 (r := r) (by omega) h3
    refine (rune_two r (by omega) (by omega) hv (by rw [e2]; rfl) ?_ w).mono ?_
    · rw [e2, byt_of (show 1 < (⟨#[UInt8.ofNat (192 + r / 64), UInt8.ofNat (128 + r % 64)]⟩ : ByteArray).size from Nat.lt_succ_self 1)]
      show 128 ≤ (UInt8.ofNat (128 + r % 64)).toNat
      rw [UInt8.toNat_ofNat']
      omega
    · rintro e w' ⟨rfl, hb⟩
      exact ⟨-1, rfl, by omega, by omega, hb⟩
  · obtain ⟨k1, k2⟩ := enc3 (r := r) (by omega)
    refine (rune_long r (by omega) (by omega) hv k1 k2 w).mono ?_
    rintro e w' ⟨rfl, rfl⟩
    exact ⟨-1, rfl, by omega, by omega, Below.refl _ _⟩
theorem wide_one (l : List UInt8) (h : 0 < l.length) : 1 ≤ (Lib.decodeLastL l).2 ∧ (Lib.decodeLastL l).2 ≤ l.length := by
  have hd : ∀ m : List UInt8, 1 ≤ (Lib.decodeL m).2 := fun m => by
    unfold Lib.decodeL Utf8.decode
    simp only []
    repeat' split
    all_goals simp
  have hne : l ≠ [] := List.length_pos_iff.1 h
  unfold Lib.decodeLastL
  simp only [if_neg hne]
  have := hd (l.drop (Lib.lastStart l))
  repeat' split
  all_goals (first | omega | (simp only []; omega))
theorem decLast_is (s : ByteArray) (w : World) (h0 : 0 < s.size) (hs : s.size ≤ 9223372036854775807) (hT : UTab w) :
    Calls Tryz.prog 41 #[.string s] w fun e w' => ∃ r k : Nat, e = .returned (.tuple #[.int .i32 (r : Int), .int .i64 (k : Int)]) ∧ 1 ≤ k ∧ k ≤ s.size ∧ Below w.heap.size w w' := by
  have hl : s.data.toList.length = s.size := (Lib.size_eq s).symm
  have hw := wide_one s.data.toList (by omega)
  refine (Any.utf8_DecodeLastRuneInString Tryz.lays271 s w hs hT).mono ?_
  rintro e w' ⟨rfl, hb⟩
  exact ⟨_, _, rfl, hw.1, by omega, hb⟩
set_option maxHeartbeats 8000000 in
set_option maxRecDepth 1000000 in
theorem lastAny_one (s : ByteArray) (h1 : s.size = 1) (w : World) :
    Calls Tryz.prog 19 #[.string s, .string ⟨#[43, 45]⟩] w fun e w' => ∃ x : Int, e = .returned (.int .i64 x) ∧ -1 ≤ x ∧ x < (s.size : Int) ∧ Below w.heap.size w w' := by
  have he : ((⟨#[43, 45]⟩ : ByteArray) == ByteArray.empty) = false := by decide
  have n1 : ((s.size : Int) == 1) = true := by rw [beq_iff_eq]; omega
  have hz : (0 : Int) < (s.size : Int) := by omega
  have R := hide' (fun (r : Nat) w => rune_any r w)
  have R3 := hide' (fun w => rune_any 65533 w)
  have h0 : (0 : Int) ≤ ((s[0]'(by omega)).toNat : Int) := by omega
  have hu : ((s[0]'(by omega)).toNat : Int) < 256 := by have := (s[0]'(by omega)).toNat_lt; omega
  by_cases hc : (128 : Int) ≤ ((s[0]'(by omega)).toNat : Int)
  · go_enter Tryz.func19, Tryz.ntmps19
    go_wp2_with fail
    refine (R3.out _).mono ?_
    rintro e w1 ⟨x, rfl, x1, x2, hb⟩
    by_cases hx : (0 : Int) ≤ x
    · go_wp2
      go_ret
      exact ⟨_, rfl, by omega, by omega, hb⟩
    · go_wp2
      go_ret
      exact ⟨_, rfl, by omega, by omega, hb⟩
  · go_enter Tryz.func19, Tryz.ntmps19
    go_wp2_with fail
    refine (R.out _ _).mono ?_
    rintro e w1 ⟨x, rfl, x1, x2, hb⟩
    by_cases hx : (0 : Int) ≤ x
    · go_wp2
      go_ret
      exact ⟨_, rfl, by omega, by omega, hb⟩
    · go_wp2
      go_ret
      exact ⟨_, rfl, by omega, by omega, hb⟩
set_option maxHeartbeats 8000000 in
set_option maxRecDepth 1000000 in
theorem lastAny_few (s : ByteArray) (h1 : s.size ≠ 1) (h8 : s.size ≤ 8) (w : World) (hT : UTab w) :
    Calls Tryz.prog 19 #[.string s, .string ⟨#[43, 45]⟩] w fun e w' => ∃ x : Int, e = .returned (.int .i64 x) ∧ -1 ≤ x ∧ x < (s.size : Int) ∧ Below w.heap.size w w' := by
  have U := hide' (fun w => use_is (s.size : Int) false (by rw [decide_eq_false_iff_not]; omega) w)
  have HT := hide' hT
  clear hT
  have n1 : ((s.size : Int) == 1) = false := by rw [beq_eq_false_iff_ne]; omega
  have he : ((⟨#[43, 45]⟩ : ByteArray) == ByteArray.empty) = false := by decide
  have hp : (⟨#[43, 45]⟩ : ByteArray).size = 2 := rfl
  have R := hide' (fun (r : Nat) w => rune_any r w)
  go_enter Tryz.func19, Tryz.ntmps19
  go_wp2_with fail
  refine (U.out _).mono ?_
  rintro e w1 ⟨rfl, rfl⟩
  go_wp2
  go_loopw [13] (fun v wr => ∃ k : Nat, k ≤ s.size ∧ v = .int .i64 (k : Nat) ∧ Below w1.heap.size w1 wr) (fun v _ => (intOf v).toNat)
  case atStart => exact ⟨s.size, Nat.le_refl _, rfl, Below.refl _ _⟩
  case round =>
    obtain ⟨k, h3, rfl, hb⟩ := hrel
    by_cases hk : k = 0
    · subst hk
      go_wp2
      go_ret
      exact ⟨-1, rfl, by omega, by omega, hb⟩
    have hm1 : (0 : Int) < (k : Int) := by omega
    have hm2 : ((k : Int) ≤ (s.size : Int)) := by omega
    have ee : (s.extract 0 k).size = k := by rw [ByteArray.size_extract]; omega
    have D1 := hide' (decLast_is (s.extract 0 k) wr (by omega) (by omega) (HT.out.below hb))
    go_wp2_with fail
    refine D1.out.mono ?_
    rintro e w2 ⟨r, j, rfl, hj1, hj2, hb2⟩
    rw [ee] at hj2
    go_wp2_with fail
    refine (R.out _ _).mono ?_
    rintro e w3 ⟨x, rfl, x1, x2, hb3⟩
    have hb4 := (hb.trans (hb2.mono hb.size)).trans (hb3.mono (Nat.le_trans hb.size hb2.size))
    by_cases hx : (0 : Int) ≤ x
    · go_wp2
      go_ret
      exact ⟨_, rfl, by go_num, by go_num, hb4⟩
    · go_wp2
      go_roundw
      case rel => exact ⟨k - j, by omega, by go_num, hb4⟩
      case measure => first | (simp [intOf]; done) | (simp [intOf]; omega)
set_option maxHeartbeats 8000000 in
set_option maxRecDepth 1000000 in
theorem lastAny_much (s : ByteArray) (h9 : 8 < s.size) (hs : s.size ≤ 140737488355328) (w : World) :
    Calls Tryz.prog 19 #[.string s, .string ⟨#[43, 45]⟩] w fun e w' => ∃ x : Int, e = .returned (.int .i64 x) ∧ -1 ≤ x ∧ x < (s.size : Int) ∧ Below w.heap.size w w' := by
  have U := hide' (fun w => use_is (s.size : Int) true (by rw [decide_eq_true_eq]; omega) w)
  have M := hide' (mkset_is w)
  have n1 : ((s.size : Int) == 1) = false := by rw [beq_eq_false_iff_ne]; omega
  have he : ((⟨#[43, 45]⟩ : ByteArray) == ByteArray.empty) = false := by decide
  have hsc : (storeCells ⟨w.heap.size + 1, 0, none⟩ setPM.toList 0).run Tryz.prog ((w.alloc (.cells setPM 67)).alloc (.cells (Array.replicate 256 (.bool false)) 67)) = .ok () ((w.alloc (.cells setPM 67)).alloc (.cells setPM 67)) := by
    have := run_storeCells_new (P := Tryz.prog) (w.alloc (.cells setPM 67)) 67 (Array.replicate 256 (.bool false)) setPM (by rw [setPM_one]; exact (zero_of_info Tryz.setZ).2) (by rw [setPM_one, Array.size_replicate]) (Lib.setCells_one _)
    simpa using this
  have hcell : ∀ x : UInt8, ((w.alloc (.cells setPM 67)).alloc (.cells setPM 67)).cell? ⟨w.heap.size + 1, x.toNat, none⟩ = some (.bool (decide (x.toNat = 43) || decide (x.toNat = 45))) := fun x => by
    rw [← pm_has]
    unfold setPM
    rw [World.cell?_alloc_at _ _ _ _ (by simp), Lib.setCells_at]
  have hbel : Below w.heap.size w ((w.alloc (.cells setPM 67)).alloc (.cells setPM 67)) := ((Below.refl _ _).alloc (Nat.le_refl _) _).alloc (by rw [World.size_alloc]; omega) _
  have HC := hide' hcell
  have HL := hide' hbel
  clear hcell hbel
  have hz := setPM_one
  have hv := (zero_of_info Tryz.setZ).1
  go_enter Tryz.func19, Tryz.ntmps19
  go_wp2_with fail
  refine (U.out _).mono ?_
  rintro e w1 ⟨rfl, hw⟩
  rw [hw]
  clear hw
  go_wp2_with fail
  refine M.out.mono ?_
  rintro e w1 ⟨rfl, rfl⟩
  go_wp2_with fail
  clear hsc
  obtain ⟨W, hW⟩ : ∃ W, ((w.alloc (.cells setPM 67)).alloc (.cells setPM 67)) = W := ⟨_, rfl⟩
  rw [hW] at HC HL ⊢
  try go_wp2
  go_loop [8] (fun v => ∃ m : Nat, m ≤ s.size ∧ v = .int .i64 ((m : Int) - 1)) (fun v => (intOf v + 1).toNat)
  case atStart => exact ⟨s.size, Nat.le_refl _, by go_num⟩
  case round =>
    obtain ⟨k, h2, rfl⟩ := hrel
    by_cases hk : k = 0
    · subst hk
      go_wp2
      go_ret
      exact ⟨-1, rfl, by omega, by omega, HL.out⟩
    obtain ⟨m, rfl⟩ : ∃ m, k = m + 1 := ⟨k - 1, by omega⟩
    rw [show ((m + 1 : Nat) : Int) - 1 = (m : Int) by omega]
    have h2 : m < s.size := by omega
    have hm0 : ¬ ((m : Int) < 0) := by omega
    have hm1 : (0 : Int) ≤ (m : Int) := by omega
    have hm2 : ((m : Int) < (s.size : Int)) := by omega
    cases hv2 : (decide ((s[m]'h2).toNat = 43) || decide ((s[m]'h2).toNat = 45))
    · have H1 := hide' (has_is (w.heap.size + 1) (s[m]'h2) false W (by rw [HC.out, hv2]))
      clear hv2
      go_wp2_with fail
      refine H1.out.mono ?_
      rintro e w1 ⟨rfl, rfl⟩
      go_wp2
      go_round
      case rel => exact ⟨m, by omega, by go_num⟩
      case measure => first | (simp [intOf]; done) | (simp [intOf]; omega)
    · have H1 := hide' (has_is (w.heap.size + 1) (s[m]'h2) true W (by rw [HC.out, hv2]))
      clear hv2
      go_wp2_with fail
      refine H1.out.mono ?_
      rintro e w1 ⟨rfl, rfl⟩
      go_wp2
      go_ret
      exact ⟨_, rfl, by omega, by omega, HL.out⟩
theorem lastAny_any (s : ByteArray) (hs : s.size ≤ 140737488355328) (w : World) (hT : UTab w) :
    Calls Tryz.prog 19 #[.string s, .string ⟨#[43, 45]⟩] w fun e w' => ∃ x : Int, e = .returned (.int .i64 x) ∧ -1 ≤ x ∧ x < (s.size : Int) ∧ Below w.heap.size w w' := by
  by_cases h9 : 8 < s.size
  · exact lastAny_much s h9 hs w
  · by_cases h1 : s.size = 1
    · exact lastAny_one s h1 w
    · exact lastAny_few s h1 (by omega) w hT
end Go.Proofs.YtjbeagbkjmaeeaaGreatDoor

namespace Go.Proofs.YtjbeagbkjmaeeaaGreatDoor
open Go.RowKit
set_option linter.unusedVariables false
theorem suf_of {s : ByteArray} (hc : Lib.hasSuffix s.data.toList ((⟨#[100]⟩ : ByteArray).data.toList) = true) : ∃ t : ByteArray, s = t ++ ⟨#[100]⟩ := by
  unfold Lib.hasSuffix at hc
  rw [List.isSuffixOf_iff_suffix] at hc
  obtain ⟨t, ht⟩ := hc
  refine ⟨⟨t.toArray⟩, ?_⟩
  cases s with
  | mk d =>
    apply ByteArray.ext
    rw [ByteArray.data_append]
    apply Array.toList_inj.1
    rw [Array.toList_append]
    exact ht.symm
set_option maxHeartbeats 1000000 in
theorem cutSuf_none (s : ByteArray) (hs : s.size ≤ 140737488355328) (h : Lib.hasSuffix s.data.toList ((⟨#[100]⟩ : ByteArray).data.toList) = false) (w : World) :
    Calls Tryz.prog 18 #[.string s, .string ⟨#[100]⟩] w fun e w' => e = .returned (.tuple #[.string s, .bool false]) ∧ w' = w := by
  have H := hide' (fun w => hasSuf_is s false h hs w)
  clear h
  have H2 : ∀ w, Calls Tryz.prog 36 #[.string s, .string ⟨#[100]⟩] w fun e w' => e = .returned (.tuple #[.string s, .bool false]) ∧ w' = w := fun w => by
    go_enter Tryz.func36, Tryz.ntmps36
    go_wp2_with fail
    refine (H.out _).mono ?_
    rintro e w1 ⟨rfl, rfl⟩
    go_wp2
    go_ret2
    exact ⟨rfl, rfl⟩
  have H3 := hide' H2
  clear H2 H
  go_enter Tryz.func18, Tryz.ntmps18
  go_wp2_with fail
  refine (H3.out _).mono ?_
  rintro e w1 ⟨rfl, rfl⟩
  go_wp2
  go_ret2
  exact ⟨rfl, rfl⟩
theorem trimP_any (u : ByteArray) : ∃ v : ByteArray, v.size ≤ u.size ∧ ∀ w, Calls Tryz.prog 20 #[.string u, .string ⟨#[43]⟩] w fun e w' => e = .returned (.string v) ∧ w' = w := by
  refine ⟨_, ?_, fun w => Any.strings_TrimPrefix Tryz.lays101 u ⟨#[43]⟩ w⟩
  show (Lib.trimPrefix u.data.toList ((⟨#[43]⟩ : ByteArray).data.toList)).toArray.size ≤ u.size
  rw [List.size_toArray]
  have hl : u.data.toList.length = u.size := (Lib.size_eq u).symm
  unfold Lib.trimPrefix
  split
  · rw [List.length_drop]; omega
  · omega
set_option maxHeartbeats 2000000 in
set_option maxRecDepth 100000 in
theorem cut_any (s : ByteArray) (hs : s.size ≤ 140737488355328) (w : World) (hT : UTab w) :
    Calls Tryz.prog 9 #[.string s] w fun e w' => ∃ a b : ByteArray, e = .returned (.tuple #[.string a, .string b]) ∧ a.size ≤ s.size ∧ b.size ≤ s.size + 1 ∧ Below w.heap.size w w' := by
  cases hc : Lib.hasSuffix s.data.toList ((⟨#[100]⟩ : ByteArray).data.toList)
  · have C1 := hide' (fun w => cutSuf_none s hs hc w)
    clear hc
    go_enter Tryz.func9, Tryz.ntmps9
    go_wp2_with fail
    refine (C1.out _).mono ?_
    rintro e w1 ⟨rfl, hw⟩
    rw [hw]
    clear hw
    go_wp2
    go_ret2
    exact ⟨_, _, rfl, Nat.le_refl _, by rw [show (⟨#[48]⟩ : ByteArray).size = 1 from rfl]; omega, Below.refl _ _⟩
  · obtain ⟨B, hB⟩ := suf_of hc
    clear hc
    have hz : s.size = B.size + 1 := by rw [hB, ByteArray.size_append]; rfl
    have C1 := hide' (fun w => cutSuf_yes B (by omega) w)
    rw [← hB] at C1
    have L1 := hide' (fun w hT => lastAny_any B (by omega) w hT)
    clear hB
    have HT := hide' hT
    clear hT
    go_enter Tryz.func9, Tryz.ntmps9
    go_wp2_with fail
    refine (C1.out _).mono ?_
    rintro e w1 ⟨rfl, hw⟩
    rw [hw]
    clear hw
    go_wp2_with fail
    refine (L1.out _ HT.out).mono ?_
    rintro e w2 ⟨x, rfl, x1, x2, b2⟩
    obtain ⟨M, hM⟩ : ∃ M : Nat, max x 0 = (M : Int) := ⟨(max x 0).toNat, by omega⟩
    have hMz : M ≤ B.size := by omega
    have lz : (M : Int) ≤ (B.size : Int) := by omega
    have l0 : ¬ ((M : Int) < 0) := by omega
    obtain ⟨v, hv, T1'⟩ := trimP_any (B.extract M B.size)
    have T1 := hide' T1'
    clear T1'
    have z1 : (B.extract 0 M).size ≤ s.size := by rw [ByteArray.size_extract]; omega
    have z2 : v.size ≤ s.size + 1 := by rw [ByteArray.size_extract] at hv; omega
    go_wp2_with fail
    try simp only [hM]
    go_quiet ((go_at_call 20; exact Calls.quiet_of_same (T1.out _)))
    go_wp2
    go_ret2
    exact ⟨_, _, rfl, z1, z2, b2.trans (Dr.below (w := w2) ⟨_, rfl⟩ w.heap.size)⟩
end Go.Proofs.YtjbeagbkjmaeeaaGreatDoor

namespace Go.Proofs
open Go.Shelf
def Tryz.lays105_ren : Go.Shelf.Ren := ⟨fun | 105 => 106 | 212 => 125 | 99 => 126 | 165 => 127 | 166 => 128 | 170 => 129 | 169 => 130 | 263 => 142 | 264 => 143 | 206 => 75 | 240 => 144 | 241 => 145 | 276 => 152 | 277 => 153 | n => n, fun | 9 => 9 | 3 => 3 | 4 => 4 | 20 => 20 | 0 => 0 | 46 => 89 | 109 => 135 | 5 => 5 | 72 => 139 | 76 => 143 | 51 => 58 | 146 => 161 | 53 => 87 | 148 => 154 | 70 => 137 | 37 => 123 | 75 => 142 | 127 => 165 | 164 => 169 | 80 => 146 | n => n, fun | n => n⟩
theorem Tryz.lays105 : Go.Proofs.Lays.n105 Tryz.prog Tryz.lays105_ren := {
  mixed := by kernel_rfl
  f99 := Tryz.func126.trans (congrArg some (by kernel_rfl))
  f105 := Tryz.func106.trans (congrArg some (by kernel_rfl))
  f165 := Tryz.func127.trans (congrArg some (by kernel_rfl))
  f166 := Tryz.func128.trans (congrArg some (by kernel_rfl))
  f169 := Tryz.func130.trans (congrArg some (by kernel_rfl))
  f170 := Tryz.func129.trans (congrArg some (by kernel_rfl))
  f206 := Tryz.func75.trans (congrArg some (by kernel_rfl))
  f212 := Tryz.func125.trans (congrArg some (by kernel_rfl))
  f240 := Tryz.func144.trans (congrArg some (by kernel_rfl))
  f241 := Tryz.func145.trans (congrArg some (by kernel_rfl))
  f263 := Tryz.func142.trans (congrArg some (by kernel_rfl))
  f264 := Tryz.func143.trans (congrArg some (by kernel_rfl))
  f276 := Tryz.func152.trans (congrArg some (by kernel_rfl))
  f277 := Tryz.func153.trans (congrArg some (by kernel_rfl))
  t0 := Tryz.underlying0
  a0 := Tryz.isAgg0
  z0 := Tryz.sizeOf0
  v0 := Tryz.zeroValue0
  t3 := Tryz.underlying3
  a3 := Tryz.isAgg3
  z3 := Tryz.sizeOf3
  v3 := Tryz.zeroValue3
  t4 := Tryz.underlying4
  a4 := Tryz.isAgg4
  z4 := Tryz.sizeOf4
  v4 := Tryz.zeroValue4
  t5 := Tryz.underlying5
  a5 := Tryz.isAgg5
  z5 := Tryz.sizeOf5
  v5 := Tryz.zeroValue5
  t9 := Tryz.underlying9
  a9 := Tryz.isAgg9
  z9 := Tryz.sizeOf9
  v9 := Tryz.zeroValue9
  t20 := Tryz.underlying20
  a20 := Tryz.isAgg20
  z20 := Tryz.sizeOf20
  v20 := Tryz.zeroValue20
  t37 := Tryz.underlying123
  a37 := Tryz.isAgg123
  z37 := Tryz.sizeOf123
  v37 := Tryz.zeroValue123
  t46 := Tryz.underlying89
  a46 := Tryz.isAgg89
  z46 := Tryz.sizeOf89
  v46 := Tryz.zeroValue89
  t51 := Tryz.underlying58
  a51 := Tryz.isAgg58
  z51 := Tryz.sizeOf58
  v51 := Tryz.zeroValue58
  t53 := Tryz.underlying87
  a53 := Tryz.isAgg87
  z53 := Tryz.sizeOf87
  v53 := Tryz.zeroValue87
  t70 := Tryz.underlying137
  a70 := Tryz.isAgg137
  z70 := Tryz.sizeOf137
  v70 := Tryz.zeroValue137
  t72 := Tryz.underlying139
  a72 := Tryz.isAgg139
  z72 := Tryz.sizeOf139
  v72 := Tryz.zeroValue139
  t75 := Tryz.underlying142
  a75 := Tryz.isAgg142
  z75 := Tryz.sizeOf142
  v75 := Tryz.zeroValue142
  t76 := Tryz.underlying143
  a76 := Tryz.isAgg143
  z76 := Tryz.sizeOf143
  v76 := Tryz.zeroValue143
  t109 := Tryz.underlying135
  a109 := Tryz.isAgg135
  z109 := Tryz.sizeOf135
  v109 := Tryz.zeroValue135
  t127 := Tryz.underlying165
  a127 := Tryz.isAgg165
  z127 := Tryz.sizeOf165
  v127 := Tryz.zeroValue165
  t146 := Tryz.underlying161
  a146 := Tryz.isAgg161
  z146 := Tryz.sizeOf161
  v146 := Tryz.zeroValue161
  t148 := Tryz.underlying154
  a148 := Tryz.isAgg154
  z148 := Tryz.sizeOf154
  v148 := Tryz.zeroValue154
  t164 := Tryz.underlying169
  a164 := Tryz.isAgg169
  z164 := Tryz.sizeOf169
  v164 := Tryz.zeroValue169 }
theorem Tryz.Builder_Extra_105 : Builder.Extra Tryz.prog Tryz.lays105_ren := {
  sizeBuilder := by kernel_rfl
  liesBuilder := by kernel_rfl
  t5 := Tryz.underlying5
  a5 := Tryz.isAgg5
  z5 := Tryz.sizeOf5
  v5 := Tryz.zeroValue5
  infoByte := by kernel_rfl
  cellsByte := by kernel_rfl
  sizeByte := by kernel_rfl
  neB5 := by decide }
end Go.Proofs
namespace Go.Proofs.YtjbeagbkjmaeeaaGreatDoor
open Go.RowKit
theorem repeatL_at : ∀ (k : Nat), (Lib.repeatL [48] k).length = k ∧ ∀ x ∈ Lib.repeatL [48] k, x = 48
  | 0 => ⟨rfl, fun x hx => by simp [Lib.repeatL] at hx⟩
  | k + 1 => by
    obtain ⟨h1, h2⟩ := repeatL_at k
    refine ⟨by simp [Lib.repeatL, h1]; try omega, fun x hx => ?_⟩
    rw [Lib.repeatL, List.mem_append] at hx
    rcases hx with h | h
    · simpa using h
    · exact h2 x h
theorem noughts : Noughts := fun k hk w => by
  obtain ⟨h1, h2⟩ := repeatL_at k
  refine (Any.strings_Repeat Tryz.lays105 Tryz.Builder_Extra_105 ⟨#[48]⟩ k w (by omega) (by show 1 * k ≤ _; omega)).mono ?_
  rintro e w' ⟨he, hb⟩
  have hs : (⟨(Lib.repeatL [48] k).toArray⟩ : ByteArray).size = k := by show (Lib.repeatL [48] k).toArray.size = k; rw [List.size_toArray]; exact h1
  refine ⟨⟨(Lib.repeatL [48] k).toArray⟩, he, hs, fun j hj => ?_, hb⟩
  rw [byt_of hj]
  have : (⟨(Lib.repeatL [48] k).toArray⟩ : ByteArray)[j] = 48 := h2 _ (by
    show (Lib.repeatL [48] k).toArray[j] ∈ _
    simp)
  rw [this]
  rfl
end Go.Proofs.YtjbeagbkjmaeeaaGreatDoor

namespace Go.Proofs.YtjbeagbkjmaeeaaGreatDoor
open Go.RowKit
set_option linter.unusedVariables false
set_option linter.unusedSimpArgs false
theorem bytes_list {a b : ByteArray} (h : a.toList = b.toList) : a = b := by
  rw [ByteArray.toList_eq, ByteArray.toList_eq] at h
  cases a; cases b
  simpa using h
set_option maxHeartbeats 1000000 in
theorem dTextT (ZA : Int) (VA : Nat) (ZB : Int) (VB : Nat) (S : ByteArray) (hN : NmD ZA VA ZB VB) (hX : TxD ZA VA ZB VB S) (lA : ln (am ZA) ≤ 67108864) (lVA : ln VA ≤ 67108864) (lB : ln (am ZB) ≤ 67108864) (lVB : ln VB ≤ 67108864) (p q r t : Option Addr) (w : World) (hD : Digs w) (k1 : Seg w p (am ZA) (ln (am ZA))) (k2 : Seg w q VA (ln VA)) (k3 : Seg w r (am ZB) (ln (am ZB))) (k4 : Seg w t VB (ln VB)) :
    Calls Tryz.prog 11 #[.agg #[.bool (ng ZA), .slice p (ln (am ZA)) (ln (am ZA)), .slice q (ln VA) (ln VA), .bool (ng ZB), .slice r (ln (am ZB)) (ln (am ZB)), .slice t (ln VB) (ln VB)]] w fun e w' => e = .returned (.string S) ∧ Below w.heap.size w w' := by
  obtain ⟨uA, dA, uB, dB, huA, hdA, huB, hdB, hS⟩ := hX
  have hLA := (Low.self hN.pA hN.cA).nf hN.pA
  have hLB := (Low.self hN.pB hN.cB).nf hN.pB
  have hC := hLB.sgn (by have := rd_pos VB; omega)
  by_cases hz : ZB = 0
  · have hC2 : sgn ZB = 0 := by rw [hz]; rfl
    rw [if_pos hz] at hS
    rw [hS]
    exact ddText_z (ng ZA) p (ln (am ZA)) (ln (am ZA)) (am ZA) q (ln VA) (ln VA) VA (ng ZB) r (ln (am ZB)) (ln (am ZB)) (am ZB) t (ln VB) (ln VB) VB ZA VA uA dA ZB VB uB dB w (Nat.le_refl _) (by omega) k1 (Nat.le_refl _) (by omega) k2 (Nat.le_refl _) (by omega) k3 (Nat.le_refl _) (by omega) k4 hLA huA hdA hLB huB hdB (by rw [← hC]; exact hC2) hD
  by_cases hp : 0 < ZB
  · have hC2 : sgn ZB = 1 := sgn_pos hp
    rw [if_neg hz, if_pos hp] at hS
    rw [hS]
    exact ddText_p (ng ZA) p (ln (am ZA)) (ln (am ZA)) (am ZA) q (ln VA) (ln VA) VA (ng ZB) r (ln (am ZB)) (ln (am ZB)) (am ZB) t (ln VB) (ln VB) VB ZA VA uA dA ZB VB uB dB w (Nat.le_refl _) (by omega) k1 (Nat.le_refl _) (by omega) k2 (Nat.le_refl _) (by omega) k3 (Nat.le_refl _) (by omega) k4 hLA huA hdA hLB huB hdB (by rw [← hC]; exact hC2) hD
  have hC2 : sgn ZB = (-1) := sgn_neg (by omega)
  rw [if_neg hz, if_neg hp] at hS
  rw [hS]
  exact ddText_n (ng ZA) p (ln (am ZA)) (ln (am ZA)) (am ZA) q (ln VA) (ln VA) VA (ng ZB) r (ln (am ZB)) (ln (am ZB)) (am ZB) t (ln VB) (ln VB) VB ZA VA uA dA ZB VB uB dB w (Nat.le_refl _) (by omega) k1 (Nat.le_refl _) (by omega) k2 (Nat.le_refl _) (by omega) k3 (Nat.le_refl _) (by omega) k4 hLA huA hdA hLB huB hdB (by rw [← hC]; exact hC2) hD

set_option maxHeartbeats 1000000 in
theorem vTextT (ZA : Int) (VA : Nat) (ZB : Int) (VB : Nat) (S : ByteArray) (hN : NmD ZA VA ZB VB) (hX : TxD ZA VA ZB VB S) (lA : ln (am ZA) ≤ 67108864) (lVA : ln VA ≤ 67108864) (lB : ln (am ZB) ≤ 67108864) (lVB : ln VB ≤ 67108864) (p q r t : Option Addr) (w : World) (k1 : Seg w p (am ZA) (ln (am ZA))) (k2 : Seg w q VA (ln VA)) (k3 : Seg w r (am ZB) (ln (am ZB))) (k4 : Seg w t VB (ln VB)) :
    Calls Tryz.prog 13 #[.agg #[.bool (ng ZA), .slice p (ln (am ZA)) (ln (am ZA)), .slice q (ln VA) (ln VA), .bool (ng ZB), .slice r (ln (am ZB)) (ln (am ZB)), .slice t (ln VB) (ln VB)]] w fun e w' => e = .returned (.string S) ∧ Below w.heap.size w w' := by
  obtain ⟨uA, dA, uB, dB, huA, hdA, huB, hdB, hS⟩ := hX
  have hLA := (Low.self hN.pA hN.cA).nf hN.pA
  have hLB := (Low.self hN.pB hN.cB).nf hN.pB
  have hC := hLB.sgn (by have := rd_pos VB; omega)
  by_cases hz : ZB = 0
  · have hC2 : sgn ZB = 0 := by rw [hz]; rfl
    rw [if_pos hz] at hS
    rw [hS]
    exact vdText_z (ng ZA) p (ln (am ZA)) (ln (am ZA)) (am ZA) q (ln VA) (ln VA) VA (ng ZB) r (ln (am ZB)) (ln (am ZB)) (am ZB) t (ln VB) (ln VB) VB ZA VA uA dA ZB VB uB dB w (Nat.le_refl _) (by omega) k1 (Nat.le_refl _) (by omega) k2 (Nat.le_refl _) (by omega) k3 (Nat.le_refl _) (by omega) k4 hLA huA hdA hLB huB hdB (by rw [← hC]; exact hC2)
  by_cases hp : 0 < ZB
  · have hC2 : sgn ZB = 1 := sgn_pos hp
    rw [if_neg hz, if_pos hp] at hS
    rw [hS]
    exact vdText_p (ng ZA) p (ln (am ZA)) (ln (am ZA)) (am ZA) q (ln VA) (ln VA) VA (ng ZB) r (ln (am ZB)) (ln (am ZB)) (am ZB) t (ln VB) (ln VB) VB ZA VA uA dA ZB VB uB dB w (Nat.le_refl _) (by omega) k1 (Nat.le_refl _) (by omega) k2 (Nat.le_refl _) (by omega) k3 (Nat.le_refl _) (by omega) k4 hLA huA hdA hLB huB hdB (by rw [← hC]; exact hC2)
  have hC2 : sgn ZB = (-1) := sgn_neg (by omega)
  rw [if_neg hz, if_neg hp] at hS
  rw [hS]
  exact vdText_n (ng ZA) p (ln (am ZA)) (ln (am ZA)) (am ZA) q (ln VA) (ln VA) VA (ng ZB) r (ln (am ZB)) (ln (am ZB)) (am ZB) t (ln VB) (ln VB) VB ZA VA uA dA ZB VB uB dB w (Nat.le_refl _) (by omega) k1 (Nat.le_refl _) (by omega) k2 (Nat.le_refl _) (by omega) k3 (Nat.le_refl _) (by omega) k4 hLA huA hdA hLB huB hdB (by rw [← hC]; exact hC2)

set_option maxHeartbeats 4000000 in
set_option maxRecDepth 100000 in
theorem dParse_none (s : ByteArray) (hs : s.size ≤ 16777216) (hNo : ∀ ZA VA ZB VB, NmD ZA VA ZB VB → ¬ TxD ZA VA ZB VB s) (w : World) (h : Digs w) (hT : UTab w) :
    Calls Tryz.prog 4 #[.string s] w fun e w' => e = .returned (.tuple #[.agg #[.bool false, .slice none 0 0, .slice none 0 0, .bool false, .slice none 0 0, .slice none 0 0], .int .i64 50]) ∧ Below w.heap.size w w' := by
  have HN := hide' hNo
  clear hNo
  have bel := below_alloc (w := w) (.cells #[.bool false, .slice none 0 0, .slice none 0 0, .bool false, .slice none 0 0, .slice none 0 0] 29)
  have qR := Blk.new w #[.bool false, .slice none 0 0, .slice none 0 0, .bool false, .slice none 0 0, .slice none 0 0] 29
  have HD := hide' (h.below bel)
  have HT := hide' (hT.below bel)
  clear h hT
  have G0 := hide' (fun w k => cut_any s (by omega) w k)
  go_enter Tryz.func4, Tryz.ntmps4
  go_wp2_with fail
  refine (G0.out _ HT.out).mono ?_
  rintro e w1 ⟨a, b, rfl, za, zb, bb⟩
  replace qR := qR.later bb
  replace HD := hide' (HD.out.below bb)
  replace bel := bel.trans (bb.mono bel.size)
  clear bb HT G0
  obtain ⟨oa, hoa⟩ := Rd.ex (bodyOf a)
  obtain ⟨ob, hob⟩ := Rd.ex (bodyOf b)
  rcases oa with _ | ⟨Xa, Ya⟩ <;> rcases ob with _ | ⟨Xb, Yb⟩
  · have hx := trivial
    have G1 := hide' (fun w' (k : Digs w') => qParse_none a (by omega) hoa w' k)
    have G2 := hide' (fun w' (k : Digs w') => qParse_none b (by omega) hob w' k)
    clear hoa hob HN hs za zb
    go_wp2_with fail
    refine (G1.out _ HD.out).mono ?_
    rintro e w2 ⟨rfl, bb⟩
    replace qR := qR.later bb
    replace HD := hide' (HD.out.below bb)
    replace bel := bel.trans (bb.mono bel.size)
    clear bb
    have qA := Blk.new w2 #[.bool false, .slice none 0 0, .slice none 0 0] 27
    have bb := below_alloc (w := w2) (.cells #[.bool false, .slice none 0 0, .slice none 0 0] 27)
    replace qR := qR.later bb
    replace HD := hide' (HD.out.below bb)
    replace bel := bel.trans (bb.mono bel.size)
    clear bb
    go_wp2_with fail
    refine (G2.out _ HD.out).mono ?_
    rintro e w3 ⟨rfl, bb⟩
    replace qR := qR.later bb
    replace qA := qA.later bb
    replace HD := hide' (HD.out.below bb)
    replace bel := bel.trans (bb.mono bel.size)
    clear bb
    have qB := Blk.new w3 #[.bool false, .slice none 0 0, .slice none 0 0] 27
    have bb := below_alloc (w := w3) (.cells #[.bool false, .slice none 0 0, .slice none 0 0] 27)
    replace qR := qR.later bb
    replace qA := qA.later bb
    replace HD := hide' (HD.out.below bb)
    replace bel := bel.trans (bb.mono bel.size)
    clear bb
    have x0 := qA.cell 0
    have x1 := qA.cell 1
    have x2 := qA.cell 2
    simp only [List.getElem?_toArray, List.getElem?_cons_zero, List.getElem?_cons_succ] at x0 x1 x2
    have y0 := qB.cell 0
    have y1 := qB.cell 1
    have y2 := qB.cell 2
    simp only [List.getElem?_toArray, List.getElem?_cons_zero, List.getElem?_cons_succ] at y0 y1 y2
    have qD := Blk.new (w3.alloc (.cells #[.bool false, .slice none 0 0, .slice none 0 0] 27)) #[.bool false, .slice none 0 0, .slice none 0 0, .bool false, .slice none 0 0, .slice none 0 0] 29
    have bb := below_alloc (w := (w3.alloc (.cells #[.bool false, .slice none 0 0, .slice none 0 0] 27))) (.cells #[.bool false, .slice none 0 0, .slice none 0 0, .bool false, .slice none 0 0, .slice none 0 0] 29)
    replace qR := qR.later bb
    replace qA := qA.later bb
    replace qB := qB.later bb
    replace HD := hide' (HD.out.below bb)
    replace bel := bel.trans (bb.mono bel.size)
    clear bb
    rw [World.size_alloc] at qD
    have v0 := qR.cell 0
    have v1 := qR.cell 1
    have v2 := qR.cell 2
    have v3 := qR.cell 3
    have v4 := qR.cell 4
    have v5 := qR.cell 5
    simp only [List.getElem?_toArray, List.getElem?_cons_zero, List.getElem?_cons_succ] at v0 v1 v2 v3 v4 v5
    have fz := fun o => qR.frozen o
    go_wp2
    obtain ⟨c9, q9⟩ := qR.set6 (.bool false) (.slice none 0 0) (.slice none 0 0) (.bool false) (.slice none 0 0) (.slice none 0 0)
    have z0 := q9.cell 0
    have z1 := q9.cell 1
    have z2 := q9.cell 2
    have z3 := q9.cell 3
    have z4 := q9.cell 4
    have z5 := q9.cell 5
    simp only [List.getElem?_toArray, List.getElem?_cons_zero, List.getElem?_cons_succ] at z0 z1 z2 z3 z4 z5
    refine bodyPost_ret (v := .tuple #[.agg #[.bool false, .slice none 0 0, .slice none 0 0, .bool false, .slice none 0 0, .slice none 0 0], .int .i64 50]) (by rw [results_ct rfl]; go_simp) rfl ?_
    exact ⟨rfl, bel.trans (c9.below (Nat.le_refl _))⟩
  · have hx := trivial
    have G1 := hide' (fun w' (k : Digs w') => qParse_none a (by omega) hoa w' k)
    obtain ⟨gb, _, _⟩ := hob.good
    obtain ⟨ZB, VB, hLB⟩ := low_ex (sg (negOf b) Xb) (Yb : Int) (by omega)
    have lB := (show RQ b ZB VB from ⟨_, _, hob, hLB⟩).low
    have G2 := hide' (fun w' (k : Digs w') => qParse_some b Xb Yb VB ZB (by omega) (pow10 noughts) hob hLB w' k)
    clear hoa hob gb hLB lB HN hs za zb
    go_wp2_with fail
    refine (G1.out _ HD.out).mono ?_
    rintro e w2 ⟨rfl, bb⟩
    replace qR := qR.later bb
    replace HD := hide' (HD.out.below bb)
    replace bel := bel.trans (bb.mono bel.size)
    clear bb
    have qA := Blk.new w2 #[.bool false, .slice none 0 0, .slice none 0 0] 27
    have bb := below_alloc (w := w2) (.cells #[.bool false, .slice none 0 0, .slice none 0 0] 27)
    replace qR := qR.later bb
    replace HD := hide' (HD.out.below bb)
    replace bel := bel.trans (bb.mono bel.size)
    clear bb
    go_wp2_with fail
    refine (G2.out _ HD.out).mono ?_
    rintro e w3 ⟨r, t, rfl, bb, kr, kt⟩
    replace qR := qR.later bb
    replace qA := qA.later bb
    replace HD := hide' (HD.out.below bb)
    replace bel := bel.trans (bb.mono bel.size)
    clear bb
    have qB := Blk.new w3 #[.bool (ng ZB), .slice r (ln (am ZB)) (ln (am ZB)), .slice t (ln VB) (ln VB)] 27
    have bb := below_alloc (w := w3) (.cells #[.bool (ng ZB), .slice r (ln (am ZB)) (ln (am ZB)), .slice t (ln VB) (ln VB)] 27)
    replace qR := qR.later bb
    replace qA := qA.later bb
    replace kr := kr.later bb
    replace kt := kt.later bb
    replace HD := hide' (HD.out.below bb)
    replace bel := bel.trans (bb.mono bel.size)
    clear bb
    have x0 := qA.cell 0
    have x1 := qA.cell 1
    have x2 := qA.cell 2
    simp only [List.getElem?_toArray, List.getElem?_cons_zero, List.getElem?_cons_succ] at x0 x1 x2
    have y0 := qB.cell 0
    have y1 := qB.cell 1
    have y2 := qB.cell 2
    simp only [List.getElem?_toArray, List.getElem?_cons_zero, List.getElem?_cons_succ] at y0 y1 y2
    have qD := Blk.new (w3.alloc (.cells #[.bool (ng ZB), .slice r (ln (am ZB)) (ln (am ZB)), .slice t (ln VB) (ln VB)] 27)) #[.bool false, .slice none 0 0, .slice none 0 0, .bool (ng ZB), .slice r (ln (am ZB)) (ln (am ZB)), .slice t (ln VB) (ln VB)] 29
    have bb := below_alloc (w := (w3.alloc (.cells #[.bool (ng ZB), .slice r (ln (am ZB)) (ln (am ZB)), .slice t (ln VB) (ln VB)] 27))) (.cells #[.bool false, .slice none 0 0, .slice none 0 0, .bool (ng ZB), .slice r (ln (am ZB)) (ln (am ZB)), .slice t (ln VB) (ln VB)] 29)
    replace qR := qR.later bb
    replace qA := qA.later bb
    replace kr := kr.later bb
    replace kt := kt.later bb
    replace qB := qB.later bb
    replace HD := hide' (HD.out.below bb)
    replace bel := bel.trans (bb.mono bel.size)
    clear bb
    rw [World.size_alloc] at qD
    have v0 := qR.cell 0
    have v1 := qR.cell 1
    have v2 := qR.cell 2
    have v3 := qR.cell 3
    have v4 := qR.cell 4
    have v5 := qR.cell 5
    simp only [List.getElem?_toArray, List.getElem?_cons_zero, List.getElem?_cons_succ] at v0 v1 v2 v3 v4 v5
    have fz := fun o => qR.frozen o
    go_wp2
    obtain ⟨c9, q9⟩ := qR.set6 (.bool false) (.slice none 0 0) (.slice none 0 0) (.bool false) (.slice none 0 0) (.slice none 0 0)
    have z0 := q9.cell 0
    have z1 := q9.cell 1
    have z2 := q9.cell 2
    have z3 := q9.cell 3
    have z4 := q9.cell 4
    have z5 := q9.cell 5
    simp only [List.getElem?_toArray, List.getElem?_cons_zero, List.getElem?_cons_succ] at z0 z1 z2 z3 z4 z5
    refine bodyPost_ret (v := .tuple #[.agg #[.bool false, .slice none 0 0, .slice none 0 0, .bool false, .slice none 0 0, .slice none 0 0], .int .i64 50]) (by rw [results_ct rfl]; go_simp) rfl ?_
    exact ⟨rfl, bel.trans (c9.below (Nat.le_refl _))⟩
  · have hx := trivial
    obtain ⟨ga, _, _⟩ := hoa.good
    obtain ⟨ZA, VA, hLA⟩ := low_ex (sg (negOf a) Xa) (Ya : Int) (by omega)
    have lA := (show RQ a ZA VA from ⟨_, _, hoa, hLA⟩).low
    have G1 := hide' (fun w' (k : Digs w') => qParse_some a Xa Ya VA ZA (by omega) (pow10 noughts) hoa hLA w' k)
    have G2 := hide' (fun w' (k : Digs w') => qParse_none b (by omega) hob w' k)
    clear hoa hob ga hLA lA HN hs za zb
    go_wp2_with fail
    refine (G1.out _ HD.out).mono ?_
    rintro e w2 ⟨p, q, rfl, bb, kp, kq⟩
    replace qR := qR.later bb
    replace HD := hide' (HD.out.below bb)
    replace bel := bel.trans (bb.mono bel.size)
    clear bb
    have qA := Blk.new w2 #[.bool (ng ZA), .slice p (ln (am ZA)) (ln (am ZA)), .slice q (ln VA) (ln VA)] 27
    have bb := below_alloc (w := w2) (.cells #[.bool (ng ZA), .slice p (ln (am ZA)) (ln (am ZA)), .slice q (ln VA) (ln VA)] 27)
    replace qR := qR.later bb
    replace kp := kp.later bb
    replace kq := kq.later bb
    replace HD := hide' (HD.out.below bb)
    replace bel := bel.trans (bb.mono bel.size)
    clear bb
    go_wp2_with fail
    refine (G2.out _ HD.out).mono ?_
    rintro e w3 ⟨rfl, bb⟩
    replace qR := qR.later bb
    replace kp := kp.later bb
    replace kq := kq.later bb
    replace qA := qA.later bb
    replace HD := hide' (HD.out.below bb)
    replace bel := bel.trans (bb.mono bel.size)
    clear bb
    have qB := Blk.new w3 #[.bool false, .slice none 0 0, .slice none 0 0] 27
    have bb := below_alloc (w := w3) (.cells #[.bool false, .slice none 0 0, .slice none 0 0] 27)
    replace qR := qR.later bb
    replace kp := kp.later bb
    replace kq := kq.later bb
    replace qA := qA.later bb
    replace HD := hide' (HD.out.below bb)
    replace bel := bel.trans (bb.mono bel.size)
    clear bb
    have x0 := qA.cell 0
    have x1 := qA.cell 1
    have x2 := qA.cell 2
    simp only [List.getElem?_toArray, List.getElem?_cons_zero, List.getElem?_cons_succ] at x0 x1 x2
    have y0 := qB.cell 0
    have y1 := qB.cell 1
    have y2 := qB.cell 2
    simp only [List.getElem?_toArray, List.getElem?_cons_zero, List.getElem?_cons_succ] at y0 y1 y2
    have qD := Blk.new (w3.alloc (.cells #[.bool false, .slice none 0 0, .slice none 0 0] 27)) #[.bool (ng ZA), .slice p (ln (am ZA)) (ln (am ZA)), .slice q (ln VA) (ln VA), .bool false, .slice none 0 0, .slice none 0 0] 29
    have bb := below_alloc (w := (w3.alloc (.cells #[.bool false, .slice none 0 0, .slice none 0 0] 27))) (.cells #[.bool (ng ZA), .slice p (ln (am ZA)) (ln (am ZA)), .slice q (ln VA) (ln VA), .bool false, .slice none 0 0, .slice none 0 0] 29)
    replace qR := qR.later bb
    replace kp := kp.later bb
    replace kq := kq.later bb
    replace qA := qA.later bb
    replace qB := qB.later bb
    replace HD := hide' (HD.out.below bb)
    replace bel := bel.trans (bb.mono bel.size)
    clear bb
    rw [World.size_alloc] at qD
    have v0 := qR.cell 0
    have v1 := qR.cell 1
    have v2 := qR.cell 2
    have v3 := qR.cell 3
    have v4 := qR.cell 4
    have v5 := qR.cell 5
    simp only [List.getElem?_toArray, List.getElem?_cons_zero, List.getElem?_cons_succ] at v0 v1 v2 v3 v4 v5
    have fz := fun o => qR.frozen o
    go_wp2
    obtain ⟨c9, q9⟩ := qR.set6 (.bool false) (.slice none 0 0) (.slice none 0 0) (.bool false) (.slice none 0 0) (.slice none 0 0)
    have z0 := q9.cell 0
    have z1 := q9.cell 1
    have z2 := q9.cell 2
    have z3 := q9.cell 3
    have z4 := q9.cell 4
    have z5 := q9.cell 5
    simp only [List.getElem?_toArray, List.getElem?_cons_zero, List.getElem?_cons_succ] at z0 z1 z2 z3 z4 z5
    refine bodyPost_ret (v := .tuple #[.agg #[.bool false, .slice none 0 0, .slice none 0 0, .bool false, .slice none 0 0, .slice none 0 0], .int .i64 50]) (by rw [results_ct rfl]; go_simp) rfl ?_
    exact ⟨rfl, bel.trans (c9.below (Nat.le_refl _))⟩
  · have hx := trivial
    obtain ⟨ga, _, _⟩ := hoa.good
    obtain ⟨ZA, VA, hLA⟩ := low_ex (sg (negOf a) Xa) (Ya : Int) (by omega)
    have lA := (show RQ a ZA VA from ⟨_, _, hoa, hLA⟩).low
    have G1 := hide' (fun w' (k : Digs w') => qParse_some a Xa Ya VA ZA (by omega) (pow10 noughts) hoa hLA w' k)
    obtain ⟨gb, _, _⟩ := hob.good
    obtain ⟨ZB, VB, hLB⟩ := low_ex (sg (negOf b) Xb) (Yb : Int) (by omega)
    have lB := (show RQ b ZB VB from ⟨_, _, hob, hLB⟩).low
    have G2 := hide' (fun w' (k : Digs w') => qParse_some b Xb Yb VB ZB (by omega) (pow10 noughts) hob hLB w' k)
    have hN : NmD ZA VA ZB VB := ⟨lA.1, lA.2.1, lB.1, lB.2.1⟩
    obtain ⟨S, hS⟩ := TxD.ex ZA VA ZB VB
    have hne : S ≠ s := fun e => HN.out _ _ _ _ hN (e ▸ hS)
    have b1 : ln (am ZA) ≤ 67108864 := by omega
    have b2 : ln VA ≤ 67108864 := by omega
    have b3 : ln (am ZB) ≤ 67108864 := by omega
    have b4 : ln VB ≤ 67108864 := by omega
    have G3 := hide' (fun p q r t w' k0 k1 k2 k3 k4 => dTextT ZA VA ZB VB S hN hS b1 b2 b3 b4 p q r t w' k0 k1 k2 k3 k4)
    have hne3 : (S.toList == s.toList) = false := by rw [beq_eq_false_iff_ne]; exact fun e => hne (bytes_list e)
    clear hN hS hne b1 b2 b3 b4
    clear hoa hob ga hLA lA gb hLB lB HN hs za zb
    go_wp2_with fail
    refine (G1.out _ HD.out).mono ?_
    rintro e w2 ⟨p, q, rfl, bb, kp, kq⟩
    replace qR := qR.later bb
    replace HD := hide' (HD.out.below bb)
    replace bel := bel.trans (bb.mono bel.size)
    clear bb
    have qA := Blk.new w2 #[.bool (ng ZA), .slice p (ln (am ZA)) (ln (am ZA)), .slice q (ln VA) (ln VA)] 27
    have bb := below_alloc (w := w2) (.cells #[.bool (ng ZA), .slice p (ln (am ZA)) (ln (am ZA)), .slice q (ln VA) (ln VA)] 27)
    replace qR := qR.later bb
    replace kp := kp.later bb
    replace kq := kq.later bb
    replace HD := hide' (HD.out.below bb)
    replace bel := bel.trans (bb.mono bel.size)
    clear bb
    go_wp2_with fail
    refine (G2.out _ HD.out).mono ?_
    rintro e w3 ⟨r, t, rfl, bb, kr, kt⟩
    replace qR := qR.later bb
    replace kp := kp.later bb
    replace kq := kq.later bb
    replace qA := qA.later bb
    replace HD := hide' (HD.out.below bb)
    replace bel := bel.trans (bb.mono bel.size)
    clear bb
    have qB := Blk.new w3 #[.bool (ng ZB), .slice r (ln (am ZB)) (ln (am ZB)), .slice t (ln VB) (ln VB)] 27
    have bb := below_alloc (w := w3) (.cells #[.bool (ng ZB), .slice r (ln (am ZB)) (ln (am ZB)), .slice t (ln VB) (ln VB)] 27)
    replace qR := qR.later bb
    replace kp := kp.later bb
    replace kq := kq.later bb
    replace qA := qA.later bb
    replace kr := kr.later bb
    replace kt := kt.later bb
    replace HD := hide' (HD.out.below bb)
    replace bel := bel.trans (bb.mono bel.size)
    clear bb
    have x0 := qA.cell 0
    have x1 := qA.cell 1
    have x2 := qA.cell 2
    simp only [List.getElem?_toArray, List.getElem?_cons_zero, List.getElem?_cons_succ] at x0 x1 x2
    have y0 := qB.cell 0
    have y1 := qB.cell 1
    have y2 := qB.cell 2
    simp only [List.getElem?_toArray, List.getElem?_cons_zero, List.getElem?_cons_succ] at y0 y1 y2
    go_wp2_with fail
    clear x0 x1 x2 y0 y1 y2
    have qD := Blk.new (w3.alloc (.cells #[.bool (ng ZB), .slice r (ln (am ZB)) (ln (am ZB)), .slice t (ln VB) (ln VB)] 27)) #[.bool (ng ZA), .slice p (ln (am ZA)) (ln (am ZA)), .slice q (ln VA) (ln VA), .bool (ng ZB), .slice r (ln (am ZB)) (ln (am ZB)), .slice t (ln VB) (ln VB)] 29
    have bb := below_alloc (w := (w3.alloc (.cells #[.bool (ng ZB), .slice r (ln (am ZB)) (ln (am ZB)), .slice t (ln VB) (ln VB)] 27))) (.cells #[.bool (ng ZA), .slice p (ln (am ZA)) (ln (am ZA)), .slice q (ln VA) (ln VA), .bool (ng ZB), .slice r (ln (am ZB)) (ln (am ZB)), .slice t (ln VB) (ln VB)] 29)
    replace qR := qR.later bb
    replace kp := kp.later bb
    replace kq := kq.later bb
    replace qA := qA.later bb
    replace kr := kr.later bb
    replace kt := kt.later bb
    replace qB := qB.later bb
    replace HD := hide' (HD.out.below bb)
    replace bel := bel.trans (bb.mono bel.size)
    clear bb
    rw [World.size_alloc] at qD
    refine (G3.out p q r t _ HD.out kp kq kr kt).mono ?_
    rintro e w4 ⟨rfl, bb⟩
    replace qR := qR.later bb
    replace kp := kp.later bb
    replace kq := kq.later bb
    replace qA := qA.later bb
    replace kr := kr.later bb
    replace kt := kt.later bb
    replace qB := qB.later bb
    replace qD := qD.later bb
    replace HD := hide' (HD.out.below bb)
    replace bel := bel.trans (bb.mono bel.size)
    clear bb
    have v0 := qR.cell 0
    have v1 := qR.cell 1
    have v2 := qR.cell 2
    have v3 := qR.cell 3
    have v4 := qR.cell 4
    have v5 := qR.cell 5
    simp only [List.getElem?_toArray, List.getElem?_cons_zero, List.getElem?_cons_succ] at v0 v1 v2 v3 v4 v5
    have fz := fun o => qR.frozen o
    go_wp2
    obtain ⟨c9, q9⟩ := qR.set6 (.bool false) (.slice none 0 0) (.slice none 0 0) (.bool false) (.slice none 0 0) (.slice none 0 0)
    have z0 := q9.cell 0
    have z1 := q9.cell 1
    have z2 := q9.cell 2
    have z3 := q9.cell 3
    have z4 := q9.cell 4
    have z5 := q9.cell 5
    simp only [List.getElem?_toArray, List.getElem?_cons_zero, List.getElem?_cons_succ] at z0 z1 z2 z3 z4 z5
    refine bodyPost_ret (v := .tuple #[.agg #[.bool false, .slice none 0 0, .slice none 0 0, .bool false, .slice none 0 0, .slice none 0 0], .int .i64 50]) (by rw [results_ct rfl]; go_simp) rfl ?_
    exact ⟨rfl, bel.trans (c9.below (Nat.le_refl _))⟩
end Go.Proofs.YtjbeagbkjmaeeaaGreatDoor
