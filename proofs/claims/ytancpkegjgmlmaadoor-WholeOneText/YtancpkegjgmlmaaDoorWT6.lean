/-
  Layer 1's texts: Parse.
-/
import Derived.Test.YtancpkegjgmlmaaDoorWT5
namespace Go.Proofs.YtancpkegjgmlmaaDoor
open Go.RowKit
set_option linter.unusedVariables false

theorem Sc.form {w : World} {B p b n k : Nat} {v : Value} {xs : List Value} {an : Option Addr} (h : Sc w B p b n k v xs an) : ∃ ao cap, v = .slice ao k cap ∧ k ≤ cap ∧ Pw w ao b n k := by
  have hlen : xs.length = k := by have := h.own.1; omega
  rcases h.own.2 with ⟨rfl, rfl⟩ | ⟨g, cap, cur, rfl, hb, hg, hc, _, hs, ht⟩
  · exact ⟨none, 0, rfl, Nat.le_refl _, fun i hi => absurd hi (by omega)⟩
  · refine ⟨_, cap, rfl, hc, fun i hi => ?_⟩
    obtain ⟨a, e1, e2, e3, e4⟩ := h.olds i hi
    refine ⟨g, 0, a, rfl, (Array.getElem?_eq_some_iff.1 hg).1, ?_, e2⟩
    rw [cell_of_row w g (0 + i) cur _ _ hg, Nat.zero_add]
    rw [← ht, List.getElem?_take_of_lt (by omega)] at e1
    simpa using e1
theorem ln_pow {b m : Nat} (hb : b ≤ 16) : ln (b ^ m) ≤ m + 1 :=
  ln_le_of_lt (Nat.lt_of_le_of_lt (Nat.pow_le_pow_left (show b ≤ BB by rw [BB_eq]; omega) m) (Nat.pow_lt_pow_right (by rw [BB_eq]; omega) (by omega)))
/-- how many powers there are -/
def lenAt (p : Nat) (w : World) : Nat := match w.cell? ⟨p, 2, none⟩ with | some (.slice _ l _) => l | _ => 0
theorem lenAt_of {p : Nat} {w : World} {a : Option Addr} {l c : Nat} (h : w.cell? ⟨p, 2, none⟩ = some (.slice a l c)) : lenAt p w = l := by unfold lenAt; rw [h]
theorem isBase_ok (b : Nat) (h0 : 2 ≤ b) (h1 : b ≤ 16) (w : World) : Calls Tryd.prog 32 #[.int .i64 b] w fun e w' => e = .returned (.bool true) ∧ w' = w := by
  have e1 : (2 : Int) ≤ (b : Int) := by omega
  have e2 : (b : Int) ≤ 16 := by omega
  go_enter Tryd.func32, Tryd.ntmps32
  go_wp2
  all_goals go_ret
  all_goals exact ⟨by simp_all, rfl⟩
theorem isBase_not (z : Int) (h : z < 2 ∨ 16 < z) (w : World) : Calls Tryd.prog 32 #[.int .i64 z] w fun e w' => e = .returned (.bool false) ∧ w' = w := by
  by_cases h2 : z < 2
  · have e1 : decide ((2 : Int) ≤ z) = false := by rw [decide_eq_false_iff_not]; omega
    have e2 : ¬ ((2 : Int) ≤ z) := by omega
    go_enter Tryd.func32, Tryd.ntmps32
    go_wp2
    all_goals go_ret
    all_goals exact ⟨by first | rfl | simp_all, rfl⟩
  · have e1 : (2 : Int) ≤ z := by omega
    have e2 : decide (z ≤ (16 : Int)) = false := by rw [decide_eq_false_iff_not]; omega
    have e3 : ¬ (z ≤ (16 : Int)) := by omega
    go_enter Tryd.func32, Tryd.ntmps32
    go_wp2
    all_goals go_ret
    all_goals exact ⟨by first | rfl | simp_all, rfl⟩
set_option maxHeartbeats 1000000 in
theorem Parse_base (s : ByteArray) (z : Int) (h : z < 2 ∨ 16 < z) (w : World) : Calls Tryd.prog 17 #[.string s, .int .i64 z] w fun e w' => e = .returned (.tuple #[.slice none 0 0, .int .i64 14]) ∧ w' = w := by
  have H := hide' (isBase_not z h)
  go_enter Tryd.func17, Tryd.ntmps17
  go_wp2_with fail
  refine (H.out _).mono ?_
  rintro e w0 ⟨rfl, rfl⟩
  go_wp2
  go_ret2
  exact ⟨rfl, rfl⟩
set_option maxHeartbeats 1000000 in
theorem Parse_bad (s : ByteArray) (b : Nat) (hb0 : 2 ≤ b) (hb : b ≤ 16) (hs : s.size ≤ 9223372036854775807) (hT : ¬ isT b s) (w : World) (h : Digs w) : Calls Tryd.prog 17 #[.string s, .int .i64 b] w fun e w' => e = .returned (.tuple #[.slice none 0 0, .int .i64 15]) ∧ Below w.heap.size w w' := by
  have H := hide' (isBase_ok b hb0 hb)
  have H2 := hide' (isText_any s b hb hb0 hs w h)
  have HT := hide' hT
  clear hT
  go_enter Tryd.func17, Tryd.ntmps17
  go_wp2_with fail
  refine (H.out _).mono ?_
  rintro e w0 ⟨rfl, rfl⟩
  go_wp2_with fail
  refine H2.out.mono ?_
  rintro e w1 ⟨_, e2, hd⟩
  obtain rfl := e2 HT.out
  go_wp2
  go_ret2
  exact ⟨rfl, hd.below _⟩
set_option maxHeartbeats 4000000 in
theorem Parse_ok (s : ByteArray) (b : Nat) (hb0 : 2 ≤ b) (hb : b ≤ 16) (hs : s.size ≤ 140737488355328) (hT : isT b s) (w : World) (h : Digs w) : Calls Tryd.prog 17 #[.string s, .int .i64 b] w fun e w' => ∃ a, e = .returned (.tuple #[.slice a (ln (val b s)) (ln (val b s)), .int .i64 0]) ∧ New w w' a (val b s) (ln (val b s)) := by
  have H := hide' (isBase_ok b hb0 hb)
  have H2 := hide' (isText_any s b hb hb0 (by omega) w h)
  have H3 := hide' (scaleOf_any b hb0 hb)
  have HT := hide' hT
  have HH := hide' h
  clear hT
  go_enter Tryd.func17, Tryd.ntmps17
  go_wp2_with fail
  refine (H.out _).mono ?_
  rintro e w0 ⟨rfl, rfl⟩
  go_wp2_with fail
  refine H2.out.mono ?_
  rintro e w1 ⟨e1, _, hd⟩
  obtain rfl := e1 HT.out
  go_wp2_with fail
  refine (H3.out _).mono ?_
  rintro e w2 ⟨n, a2, rfl, h2, hn1, hn31, hlt⟩
  have hB := (hd.below w0.heap.size).trans (h2.below.mono (hd.below w0.heap.size).size)
  have ba := below_alloc (w := w2) (.cells #[.int .i64 b, .int .i64 n, .slice none 0 0, .slice a2 (ln (b ^ n)) (ln (b ^ n))] 54)
  have hBa := hB.trans (ba.mono hB.size)
  have hSc : Sc (w2.alloc (.cells #[.int .i64 b, .int .i64 n, .slice none 0 0, .slice a2 (ln (b ^ n)) (ln (b ^ n))] 54)) w0.heap.size w2.heap.size b n 0 (.slice none 0 0) [] a2 := by
    refine ⟨row_new _ _ _, hB.size, by go_simp, by go_simp, by go_simp, ?_, World.ownsRow_nil _ _ _ _, by simp [Value.ownBlock], fun i hi => absurd hi (by omega), ?_, ?_, fun g hg => by cases hg⟩
    · rw [Nat.pow_zero, Nat.mul_one]; go_simp
    · rw [Nat.pow_zero, Nat.mul_one]; exact segL ba h2.seg
    · exact h2.seg.ne_new (ln_pw hb0) (Nat.le_refl _)
  have hlt' := hide' hlt
  clear hlt
  go_wp2_with fail
  generalize w2.alloc (.cells #[.int .i64 b, .int .i64 n, .slice none 0 0, .slice a2 (ln (b ^ n)) (ln (b ^ n))] 54) = W at hBa hSc ⊢
  go_loopw [16] (fun _ wr => ∃ k v xs an, Sc wr w0.heap.size w2.heap.size b n k v xs an ∧ Below w0.heap.size w0 wr ∧ k ≤ 48 ∧ n * 2 ^ k ≤ 281474976710656) (fun _ wr => 49 - lenAt w2.heap.size wr)
  case atStart => exact ⟨0, _, _, _, hSc, hBa, by omega, by rw [Nat.pow_zero]; omega⟩
  case round =>
    obtain ⟨k, v, xs, an, hS, hbel, hk, hk2⟩ := hrel
    obtain ⟨ao, cap, rfl, hcap, hpw⟩ := hS.form
    obtain ⟨Q, hQ⟩ : ∃ Q, n * 2 ^ k = Q := ⟨_, rfl⟩
    have hQ4 : Q ≤ 281474976710656 := by rw [← hQ]; exact hk2
    have hsh : wrap64 ((n : Int) * 2 ^ k) = (Q : Int) := shl_is hQ hQ4
    have HQ := hide' hQ
    have HK2 := hide' hk2
    have c0 := hS.c0
    have c1 := hS.c1
    have c2 := hS.c2
    have hl0 := lenAt_of c2
    clear hQ hk2
    by_cases hq : Q < s.size
    · have hqi : (Q : Int) < (s.size : Int) := by omega
      have HG := hide' (grow_any w0.heap.size w2.heap.size b n k (b ^ Q) _ xs an wr hS hbel.size hb0 hk (by rw [HQ.out]) (Nat.le_trans (ln_le_of_lt (lt8 hb)) (by omega)))
      have hk39 : k + 1 ≤ 48 := by
        have h1 : 2 ^ k ≤ n * 2 ^ k := Nat.le_mul_of_pos_left _ (by omega)
        rw [HQ.out] at h1
        have h2 : 2 ^ k < 2 ^ 47 := Nat.lt_of_le_of_lt h1 (Nat.lt_of_lt_of_le hq hs)
        have h3 := (Nat.pow_lt_pow_iff_right (a := 2) (by decide)).1 h2
        clear h1 h2
        omega
      have hn2 : n * 2 ^ (k + 1) ≤ 281474976710656 := by
        rw [Nat.pow_succ, ← Nat.mul_assoc, HQ.out]; omega
      have HN2 := hide' hn2
      clear hn2
      go_wp2_with fail
      refine HG.out.mono ?_
      rintro e w3 ⟨rfl, bel3, v', an', hS'⟩
      go_wp2
      go_roundw
      case rel => exact ⟨k + 1, v', _, an', hS', hbel.trans bel3, hk39, HN2.out⟩
      case measure =>
        obtain ⟨ao', cap', rfl, _, _⟩ := hS'.form
        have hl1 := lenAt_of hS'.c2
        rw [hl0, hl1]
        omega
    · have hqi : ¬ ((Q : Int) < (s.size : Int)) := by omega
      have hqi2 : ((s.size : Int) ≤ (Q : Int)) := by omega
      have HR := hide' (read_any w2.heap.size b n k cap ao hb0 hb (Nat.le_of_lt hlt'.out) hn1 hk hcap HK2.out k s wr (Nat.le_refl _) hs (HH.out.below hbel) c0 c1 c2 hpw (by rw [HQ.out]; omega) HT.out.2.2)
      go_wp2_with fail
      refine HR.out.mono ?_
      rintro e w3 ⟨a3, rfl, h3⟩
      go_wp2
      go_ret2
      exact ⟨a3, rfl, h3.back hbel⟩
end Go.Proofs.YtancpkegjgmlmaaDoor
