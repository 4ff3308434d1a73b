/-
  ratio.Parse of any text: what Rd says of the text behind the sign.
-/
import Derived.Test.YtjbeagbkjmaeeaaGreatDoorWT1
import Derived.Test.YtjbeagbkjmaeeaaGreatDoorWPC
namespace Go.Proofs.YtjbeagbkjmaeeaaGreatDoor
open Go.RowKit
set_option linter.unusedVariables false

theorem dval10 {c : Nat} : dval c < 10 ↔ 48 ≤ c ∧ c ≤ 57 := by unfold dval; split <;> (try split) <;> omega
/-- what stands behind a point: digits, one at least -/
def tl10 (s : ByteArray) : Prop := 0 < s.size ∧ ∀ k, k < s.size → dval (byt s k) < 10
/-- by the first '/', else by the first '.', else whole -/
inductive Rd (t : ByteArray) : Option (Nat × Nat) → Prop
  | over {i : Nat} : i < t.size → byt t i = 47 → (∀ k, k < i → byt t k ≠ 47) → isT 10 (t.extract 0 i) → isT 10 (t.extract (i + 1) t.size) → val 10 (t.extract (i + 1) t.size) ≠ 0 → Rd t (some (val 10 (t.extract 0 i), val 10 (t.extract (i + 1) t.size)))
  | overBad {i : Nat} : i < t.size → byt t i = 47 → (∀ k, k < i → byt t k ≠ 47) → ¬ (isT 10 (t.extract 0 i) ∧ isT 10 (t.extract (i + 1) t.size) ∧ val 10 (t.extract (i + 1) t.size) ≠ 0) → Rd t none
  | point {i : Nat} : (∀ k, k < t.size → byt t k ≠ 47) → i < t.size → byt t i = 46 → (∀ k, k < i → byt t k ≠ 46) → isT 10 (t.extract 0 i) → tl10 (t.extract (i + 1) t.size) → Rd t (some (val 10 (t.extract 0 i) * 10 ^ (t.size - (i + 1)) + val 10 (t.extract (i + 1) t.size), 10 ^ (t.size - (i + 1))))
  | pointBad {i : Nat} : (∀ k, k < t.size → byt t k ≠ 47) → i < t.size → byt t i = 46 → (∀ k, k < i → byt t k ≠ 46) → ¬ (isT 10 (t.extract 0 i) ∧ tl10 (t.extract (i + 1) t.size)) → Rd t none
  | whole : (∀ k, k < t.size → byt t k ≠ 47) → (∀ k, k < t.size → byt t k ≠ 46) → isT 10 t → Rd t (some (val 10 t, 1))
  | wholeBad : (∀ k, k < t.size → byt t k ≠ 47) → (∀ k, k < t.size → byt t k ≠ 46) → ¬ isT 10 t → Rd t none
/-- n digits stand ahead, no more -/
structure Lead (t : ByteArray) (n : Nat) : Prop where
  le : n ≤ t.size
  dig : ∀ k, k < n → dval (byt t k) < 10
  no : n < t.size → ¬ dval (byt t n) < 10
/-- by the digits ahead -/
inductive Rf (t : ByteArray) (n : Nat) : Option (Nat × Nat) → Prop
  | bad : ¬ isT 10 (t.extract 0 n) → Rf t n none
  | whole : isT 10 (t.extract 0 n) → n = t.size → Rf t n (some (val 10 (t.extract 0 n), 1))
  | over : isT 10 (t.extract 0 n) → n < t.size → byt t n = 47 → isT 10 (t.extract (n + 1) t.size) → val 10 (t.extract (n + 1) t.size) ≠ 0 → Rf t n (some (val 10 (t.extract 0 n), val 10 (t.extract (n + 1) t.size)))
  | overBad : isT 10 (t.extract 0 n) → n < t.size → byt t n = 47 → ¬ (isT 10 (t.extract (n + 1) t.size) ∧ val 10 (t.extract (n + 1) t.size) ≠ 0) → Rf t n none
  | point : isT 10 (t.extract 0 n) → n < t.size → byt t n = 46 → tl10 (t.extract (n + 1) t.size) → Rf t n (some (val 10 (t.extract 0 n) * 10 ^ (t.size - (n + 1)) + val 10 (t.extract (n + 1) t.size), 10 ^ (t.size - (n + 1))))
  | pointBad : isT 10 (t.extract 0 n) → n < t.size → byt t n = 46 → ¬ tl10 (t.extract (n + 1) t.size) → Rf t n none
  | other : isT 10 (t.extract 0 n) → n < t.size → byt t n ≠ 47 → byt t n ≠ 46 → Rf t n none
theorem Lead.stop {t : ByteArray} {n i : Nat} (h : Lead t n) (hi : i < t.size) (hd : ¬ dval (byt t i) < 10) (hb : ∀ k, k < i → dval (byt t k) < 10) : n = i := by
  have h1 : ¬ i < n := fun c => hd (h.dig i c)
  have h2 : ¬ n < i := fun c => h.no (by omega) (hb n c)
  omega
theorem Lead.le_of {t : ByteArray} {n i : Nat} (h : Lead t n) (hi : i < t.size) (hd : ¬ dval (byt t i) < 10) : n ≤ i := by
  have h1 : ¬ i < n := fun c => hd (h.dig i c)
  omega
theorem isT_ahead {t : ByteArray} {i : Nat} (hi : i ≤ t.size) (h : isT 10 (t.extract 0 i)) : ∀ k, k < i → dval (byt t k) < 10 := fun k hk => by
  have h1 := h.2.2 k (by simp only [ByteArray.size_extract]; omega)
  rw [byt_extract hi (by omega), Nat.zero_add] at h1
  exact h1
theorem Rd.ref {t : ByteArray} {o : Option (Nat × Nat)} {n : Nat} (h : Rd t o) (l : Lead t n) : Rf t n o := by
  have n47 : ¬ dval 47 < 10 := by decide
  have n46 : ¬ dval 46 < 10 := by decide
  cases h with
  | over hi h1 h2 a b c =>
    obtain rfl := l.stop hi (by rw [h1]; exact n47) (isT_ahead (by omega) a)
    exact .over a hi h1 b c
  | @overBad i hi h1 h2 hn =>
    have hle := l.le_of hi (by rw [h1]; exact n47)
    by_cases a : isT 10 (t.extract 0 n)
    · by_cases e : n = i
      · subst e
        exact .overBad a hi h1 fun x => hn ⟨a, x⟩
      · have hlt : n < t.size := by omega
        have g1 := h2 n (by omega)
        by_cases g2 : byt t n = 46
        · refine .pointBad a hlt g2 fun x => ?_
          have := x.2 (i - (n + 1)) (by simp only [ByteArray.size_extract]; omega)
          rw [byt_extract (Nat.le_refl _) (by omega), show n + 1 + (i - (n + 1)) = i by omega, h1] at this
          exact n47 this
        · exact .other a hlt g1 g2
    · exact .bad a
  | point h0 hi h1 h2 a b =>
    obtain rfl := l.stop hi (by rw [h1]; exact n46) (isT_ahead (by omega) a)
    exact .point a hi h1 b
  | @pointBad i h0 hi h1 h2 hn =>
    have hle := l.le_of hi (by rw [h1]; exact n46)
    by_cases a : isT 10 (t.extract 0 n)
    · by_cases e : n = i
      · subst e
        exact .pointBad a hi h1 fun x => hn ⟨a, x⟩
      · have hlt : n < t.size := by omega
        exact .other a hlt (h0 n hlt) (h2 n (by omega))
    · exact .bad a
  | whole h0 h1 a =>
    have hn : n = t.size := by
      have h3 : ¬ n < t.size := fun c => l.no c (a.2.2 n c)
      have := l.le
      omega
    subst hn
    have e : t.extract 0 t.size = t := by simp
    have := Rf.whole (t := t) (n := t.size) (by rw [e]; exact a) rfl
    rw [e] at this
    exact this
  | wholeBad h0 h1 hn =>
    by_cases a : isT 10 (t.extract 0 n)
    · by_cases e : n = t.size
      · subst e
        rw [show t.extract 0 t.size = t by simp] at a
        exact absurd a hn
      · have hlt : n < t.size := by have := l.le; omega
        exact .other a hlt (h0 n hlt) (h1 n hlt)
    · exact .bad a
/-- the first place of a byte, or none -/
theorem first_byte (t : ByteArray) (c : Nat) : (∃ i, i < t.size ∧ byt t i = c ∧ ∀ k, k < i → byt t k ≠ c) ∨ ∀ k, k < t.size → byt t k ≠ c := by
  have key : ∀ m, m ≤ t.size → (∃ i, i < t.size ∧ byt t i = c ∧ ∀ k, k < i → byt t k ≠ c) ∨ ∀ k, k < m → byt t k ≠ c := by
    intro m
    induction m with
    | zero => intro _; exact .inr fun k hk => absurd hk (by omega)
    | succ m ih =>
      intro hm
      rcases ih (by omega) with h | h
      · exact .inl h
      · by_cases e : byt t m = c
        · exact .inl ⟨m, by omega, e, h⟩
        · refine .inr fun k hk => ?_
          by_cases e2 : k = m
          · subst e2; exact e
          · exact h k (by omega)
  exact key _ (Nat.le_refl _)
theorem Rd.ex (t : ByteArray) : ∃ o, Rd t o := by
  rcases first_byte t 47 with ⟨i, hi, h1, h2⟩ | h47
  · by_cases h : isT 10 (t.extract 0 i) ∧ isT 10 (t.extract (i + 1) t.size) ∧ val 10 (t.extract (i + 1) t.size) ≠ 0
    · exact ⟨_, .over hi h1 h2 h.1 h.2.1 h.2.2⟩
    · exact ⟨_, .overBad hi h1 h2 h⟩
  · rcases first_byte t 46 with ⟨i, hi, h1, h2⟩ | h46
    · by_cases h : isT 10 (t.extract 0 i) ∧ tl10 (t.extract (i + 1) t.size)
      · exact ⟨_, .point h47 hi h1 h2 h.1 h.2⟩
      · exact ⟨_, .pointBad h47 hi h1 h2 h⟩
    · by_cases h : isT 10 t
      · exact ⟨_, .whole h47 h46 h⟩
      · exact ⟨_, .wholeBad h47 h46 h⟩
theorem Lead.ex (t : ByteArray) : ∃ n, Lead t n := by
  have key : ∀ m, m ≤ t.size → (∃ n, Lead t n) ∨ ∀ k, k < m → dval (byt t k) < 10 := by
    intro m
    induction m with
    | zero => intro _; exact .inr fun k hk => absurd hk (by omega)
    | succ m ih =>
      intro hm
      rcases ih (by omega) with h | h
      · exact .inl h
      · by_cases e : dval (byt t m) < 10
        · refine .inr fun k hk => ?_
          by_cases e2 : k = m
          · subst e2; exact e
          · exact h k (by omega)
        · exact .inl ⟨m, by omega, h, fun _ => e⟩
  rcases key _ (Nat.le_refl _) with h | h
  · exact h
  · exact ⟨t.size, Nat.le_refl _, h, fun c => absurd c (by omega)⟩
/-- a digit ahead: '1' and the digits behind the point are a text, whatever they begin with -/
theorem one_isT {s : ByteArray} : isT 10 (⟨#[49]⟩ ++ s) ↔ ∀ k, k < s.size → dval (byt s k) < 10 := by
  have hs : (⟨#[49]⟩ ++ s : ByteArray).size = s.size + 1 := by rw [ByteArray.size_append, show (⟨#[49]⟩ : ByteArray).size = 1 from rfl]; omega
  have h0 : byt (⟨#[49]⟩ ++ s) 0 = 49 := by rw [byt_of (by omega), ByteArray.getElem_append_left (by decide)]; rfl
  have h1 : ∀ k, k < s.size → byt (⟨#[49]⟩ ++ s) (k + 1) = byt s k := fun k hk => by
    rw [byt_of (by omega), byt_of hk, ByteArray.getElem_append_right (by show 1 ≤ k + 1; omega)]
    rfl
  constructor
  · intro h k hk
    rw [← h1 k hk]
    exact h.2.2 (k + 1) (by omega)
  · intro h
    refine ⟨by omega, fun _ => by rw [h0]; decide, fun k hk => ?_⟩
    cases k with
    | zero => rw [h0]; decide
    | succ k => rw [h1 k (by omega)]; exact h k (by omega)
theorem one_val {s : ByteArray} : val 10 (⟨#[49]⟩ ++ s) = 10 ^ s.size + val 10 s := by
  have hs : (⟨#[49]⟩ ++ s : ByteArray).size = 1 + s.size := by rw [ByteArray.size_append]; rfl
  have h0 : byt (⟨#[49]⟩ ++ s) 0 = 49 := by rw [byt_of (by omega), ByteArray.getElem_append_left (by decide)]; rfl
  have h1 : ∀ k, k < s.size → byt (⟨#[49]⟩ ++ s) (1 + k) = byt s k := fun k hk => by
    rw [byt_of (by omega), byt_of hk, ByteArray.getElem_append_right (by show 1 ≤ 1 + k; omega)]
    congr 2
    show 1 + k - 1 = k
    omega
  unfold val
  rw [hs, tvr_split]
  have e1 : tvr 10 (fun k => dval (byt (⟨#[49]⟩ ++ s) k)) 0 1 = 1 := by
    simp only [tvr, h0, Nat.add_zero]
    decide
  rw [e1, Nat.one_mul]
  congr 1
  exact tvr_congr fun n hn => by simp only [Nat.zero_add]; rw [h1 n hn]
/-- the reference's step: one digit more -/
theorem val_step {s : ByteArray} {i : Nat} (hi : i < s.size) : val 10 (s.extract 0 (i + 1)) = val 10 (s.extract 0 i) * 10 + dval (byt s i) := by
  have e1 : (s.extract 0 (i + 1)).size = i + 1 := by simp only [ByteArray.size_extract]; omega
  have e2 : (s.extract 0 i).size = i := by simp only [ByteArray.size_extract]; omega
  have a1 : tvr 10 (fun k => dval (byt (s.extract 0 (i + 1)) k)) 0 i = tvr 10 (fun k => dval (byt (s.extract 0 i) k)) 0 i := tvr_congr fun n hn => by
    show dval (byt (s.extract 0 (i + 1)) (0 + n)) = dval (byt (s.extract 0 i) (0 + n))
    rw [byt_extract (by omega) (by omega), byt_extract (by omega) (by omega)]
  have a2 : tvr 10 (fun k => dval (byt (s.extract 0 (i + 1)) k)) (0 + i) 1 = dval (byt s i) := by
    simp only [tvr, Nat.zero_add, Nat.add_zero, Nat.zero_mul]
    rw [byt_extract (by omega) (by omega), Nat.zero_add]
  unfold val
  rw [e1, e2, tvr_split 10 _ 0 i 1, a1, a2, Nat.pow_one]
end Go.Proofs.YtjbeagbkjmaeeaaGreatDoor

namespace Go.Proofs.YtjbeagbkjmaeeaaGreatDoor
open Go.RowKit
set_option linter.unusedVariables false
set_option linter.unusedSimpArgs false

set_option maxHeartbeats 1000000 in
theorem quotient_bb (t1 t2 : ByteArray) (w : World) (h : Digs w) (s1 : t1.size ≤ 140737488355328) (s2 : t2.size ≤ 140737488355328) (h1 : ¬ isT 10 t1) (h2 : ¬ isT 10 t2) : Calls Tryz.prog 45 #[.string t1, .string t2] w fun e w' => e = .returned (.tuple #[.slice none 0 0, .slice none 0 0, .int .i64 31]) ∧ Below w.heap.size w w' := by
  have Q2 := hide' (Parse_bad t1 10 (by omega) (by omega) (by omega) h1 w h)
  have Q4 := hide' (fun w' (k : Digs w') => Parse_bad t2 10 (by omega) (by omega) (by omega) h2 w' k)
  have HD := hide' h
  clear h h1 h2
  go_enter Tryz.func45, Tryz.ntmps45
  go_wp2_with fail
  refine Q2.out.mono ?_
  rintro e w1 ⟨rfl, b1⟩
  go_wp2_with fail
  refine (Q4.out _ (HD.out.below b1)).mono ?_
  rintro e w2 ⟨rfl, b2⟩
  go_wp2
  go_ret3
  exact ⟨rfl, b1.trans (b2.mono b1.size)⟩

set_option maxHeartbeats 1000000 in
theorem quotient_bo (t1 t2 : ByteArray) (w : World) (h : Digs w) (s1 : t1.size ≤ 140737488355328) (s2 : t2.size ≤ 140737488355328) (h1 : ¬ isT 10 t1) (h2 : isT 10 t2) : Calls Tryz.prog 45 #[.string t1, .string t2] w fun e w' => e = .returned (.tuple #[.slice none 0 0, .slice none 0 0, .int .i64 31]) ∧ Below w.heap.size w w' := by
  have Q2 := hide' (Parse_bad t1 10 (by omega) (by omega) (by omega) h1 w h)
  have Q4 := hide' (fun w' (k : Digs w') => Parse_ok t2 10 (by omega) (by omega) s2 h2 w' k)
  have HD := hide' h
  clear h h1 h2
  go_enter Tryz.func45, Tryz.ntmps45
  go_wp2_with fail
  refine Q2.out.mono ?_
  rintro e w1 ⟨rfl, b1⟩
  go_wp2_with fail
  refine (Q4.out _ (HD.out.below b1)).mono ?_
  rintro e w2 ⟨a2, rfl, n2⟩
  have b2 := n2.below
  go_wp2
  go_ret3
  exact ⟨rfl, b1.trans (b2.mono b1.size)⟩

set_option maxHeartbeats 1000000 in
theorem quotient_ob (t1 t2 : ByteArray) (w : World) (h : Digs w) (s1 : t1.size ≤ 140737488355328) (s2 : t2.size ≤ 140737488355328) (h1 : isT 10 t1) (h2 : ¬ isT 10 t2) : Calls Tryz.prog 45 #[.string t1, .string t2] w fun e w' => e = .returned (.tuple #[.slice none 0 0, .slice none 0 0, .int .i64 31]) ∧ Below w.heap.size w w' := by
  have Q2 := hide' (Parse_ok t1 10 (by omega) (by omega) s1 h1 w h)
  have Q4 := hide' (fun w' (k : Digs w') => Parse_bad t2 10 (by omega) (by omega) (by omega) h2 w' k)
  have HD := hide' h
  clear h h1 h2
  go_enter Tryz.func45, Tryz.ntmps45
  go_wp2_with fail
  refine Q2.out.mono ?_
  rintro e w1 ⟨a1, rfl, n1⟩
  have b1 := n1.below
  go_wp2_with fail
  refine (Q4.out _ (HD.out.below b1)).mono ?_
  rintro e w2 ⟨rfl, b2⟩
  go_wp2
  go_ret3
  exact ⟨rfl, b1.trans (b2.mono b1.size)⟩

set_option maxHeartbeats 1000000 in
theorem quotient_oo (t1 t2 : ByteArray) (w : World) (h : Digs w) (s1 : t1.size ≤ 140737488355328) (s2 : t2.size ≤ 140737488355328) (h1 : isT 10 t1) (h2 : isT 10 t2) (hz : val 10 t2 = 0) : Calls Tryz.prog 45 #[.string t1, .string t2] w fun e w' => e = .returned (.tuple #[.slice none 0 0, .slice none 0 0, .int .i64 31]) ∧ Below w.heap.size w w' := by
  have Q2 := hide' (Parse_ok t1 10 (by omega) (by omega) s1 h1 w h)
  have Q4 := hide' (fun w' (k : Digs w') => Parse_ok t2 10 (by omega) (by omega) s2 h2 w' k)
  have HD := hide' h
  have hb : (((bl 0 : Nat) : Int) == 0) = true := by rw [bl_beq]; rfl
  rw [hz] at Q4
  clear h h1 h2
  go_enter Tryz.func45, Tryz.ntmps45
  go_wp2_with fail
  refine Q2.out.mono ?_
  rintro e w1 ⟨a1, rfl, n1⟩
  have b1 := n1.below
  go_wp2_with fail
  refine (Q4.out _ (HD.out.below b1)).mono ?_
  rintro e w2 ⟨a2, rfl, n2⟩
  have b2 := n2.below
  go_wp2_with fail
  refine (Bits_any a2 (ln 0) (ln 0) 0 _ (Nat.le_refl _) (by rw [ln_zero]; omega) n2.seg).mono ?_
  rintro e w3 ⟨rfl, rfl⟩
  go_wp2
  go_ret3
  exact ⟨rfl, b1.trans (b2.mono b1.size)⟩

theorem quotient_bad (t1 t2 : ByteArray) (w : World) (h : Digs w) (s1 : t1.size ≤ 140737488355328) (s2 : t2.size ≤ 140737488355328) (hn : ¬ (isT 10 t1 ∧ isT 10 t2 ∧ val 10 t2 ≠ 0)) : Calls Tryz.prog 45 #[.string t1, .string t2] w fun e w' => e = .returned (.tuple #[.slice none 0 0, .slice none 0 0, .int .i64 31]) ∧ Below w.heap.size w w' := by
  by_cases h1 : isT 10 t1
  · by_cases h2 : isT 10 t2
    · exact quotient_oo t1 t2 w h s1 s2 h1 h2 (by
        by_cases hz : val 10 t2 = 0
        · exact hz
        · exact absurd ⟨h1, h2, hz⟩ hn)
    · exact quotient_ob t1 t2 w h s1 s2 h1 h2
  · by_cases h2 : isT 10 t2
    · exact quotient_bo t1 t2 w h s1 s2 h1 h2
    · exact quotient_bb t1 t2 w h s1 s2 h1 h2

theorem val_ln {s : ByteArray} (h : ∀ k, k < s.size → dval (byt s k) < 10) : ln (val 10 s) ≤ s.size / 8 + 1 :=
  ln_le_of_lt (Nat.lt_trans (val_lt h) (lt8 (by omega)))
theorem ten_ln (k : Nat) : ln (10 ^ k) ≤ k / 8 + 1 := ln_le_of_lt (lt8 (by omega))
theorem one_size (s : ByteArray) : (⟨#[49]⟩ ++ s : ByteArray).size = s.size + 1 := by rw [ByteArray.size_append, show (⟨#[49]⟩ : ByteArray).size = 1 from rfl]; omega

set_option maxHeartbeats 1000000 in
theorem decimal_ok (a b : ByteArray) (X Y : Nat) (w : World) (h : Digs w) (s1 : a.size ≤ 140737488351232) (s2 : b.size ≤ 140737488351232) (HP : ∀ w', Digs w' → Calls Tryz.prog 79 #[.int .i64 (b.size : Nat)] w' fun e w'' => ∃ p, e = .returned (.slice p (ln (10 ^ b.size)) (ln (10 ^ b.size))) ∧ New w' w'' p (10 ^ b.size) (ln (10 ^ b.size))) (h1 : isT 10 a) (h2 : tl10 b) (hX : val 10 a * 10 ^ b.size + val 10 b = X) (hY : 10 ^ b.size = Y) : Calls Tryz.prog 46 #[.string a, .string b] w fun e w' => ∃ p q, e = .returned (.tuple #[.slice p (ln X) (ln X), .slice q (ln Y) (ln Y), .int .i64 0]) ∧ New w w' p X (ln X) ∧ New w w' q Y (ln Y) := by
  have z1 := one_size b
  have i1 := one_isT.2 h2.2
  have v1 := one_val (s := b)
  have l1 := val_ln h1.2.2
  have l2 := ten_ln b.size
  have l3 := val_ln h2.2
  have l4 := val_ln i1.2.2
  rw [z1] at l4
  have e1 := ba_ne h2.1
  have e2 := ba_some h2.1
  have Q1 := hide' (Parse_ok a 10 (by omega) (by omega) (by omega) h1 w h)
  have Q2 := hide' (fun w' (k : Digs w') => Parse_ok (⟨#[49]⟩ ++ b) 10 (by omega) (by omega) (by omega) i1 w' k)
  have Q3 := hide' HP
  have HD := hide' h
  rw [hY] at Q3 l2 v1 hX
  generalize val 10 (⟨#[49]⟩ ++ b) = U at Q2 l4 v1
  generalize val 10 a = N at Q1 l1 hX
  generalize val 10 b = B at v1 l3 hX
  have l5 : ln (N * Y) ≤ 35184372087812 := Nat.le_trans (ln_prod (ln_lt N) (ln_lt Y)) (by omega)
  have Q4 := hide' (fun w' p2 p3 k2 k3 => Sub_is p2 p3 (ln U) (ln U) U (ln Y) (ln Y) Y B w' (Nat.le_refl _) (by omega) k2 (Nat.le_refl _) (by omega) k3 (by omega))
  have Q5 := hide' (fun w' p1 p3 k1 k3 => Mul_is p1 p3 (ln N) (ln N) N (ln Y) (ln Y) Y (N * Y) w' (Nat.le_refl _) (by omega) k1 (Nat.le_refl _) (by omega) k3 rfl)
  have Q6 := hide' (fun w' p5 p4 k5 k4 => Add_is p5 p4 (ln (N * Y)) (ln (N * Y)) (N * Y) (ln B) (ln B) B X w' (Nat.le_refl _) (by omega) k5 (Nat.le_refl _) (by omega) k4 hX)
  clear h h1 h2 HP hY i1 hX v1
  go_enter Tryz.func46, Tryz.ntmps46
  go_wp2_with fail
  refine Q1.out.mono ?_
  rintro e w1 ⟨p1, rfl, n1⟩
  go_wp2_with fail
  refine (Q2.out _ (HD.out.below n1.below)).mono ?_
  rintro e w2 ⟨p2, rfl, n2⟩
  have b2 := n1.below.trans (n2.below.mono n1.below.size)
  replace n1 := n1.later n2.below
  go_wp2_with fail
  refine (Q3.out _ (HD.out.below b2)).mono ?_
  rintro e w3 ⟨p3, rfl, n3⟩
  replace n1 := n1.later n3.below
  replace n2 := n2.later n3.below
  have g3 := n3.back b2
  go_wp2_with fail
  refine (Q4.out _ p2 p3 n2.seg n3.seg).mono ?_
  rintro e w4 ⟨p4, rfl, n4⟩
  replace n1 := n1.later n4.below
  replace g3 := g3.later n4.below
  go_wp2_with fail
  refine (Q5.out _ p1 p3 n1.seg g3.seg).mono ?_
  rintro e w5 ⟨p5, rfl, n5⟩
  replace n4 := n4.later n5.below
  replace g3 := g3.later n5.below
  have b5 := g3.below
  go_wp2_with fail
  refine (Q6.out _ p5 p4 n5.seg n4.seg).mono ?_
  rintro e w6 ⟨p6, rfl, n6⟩
  replace g3 := g3.later n6.below
  have g6 := n6.back b5
  go_wp2
  go_ret3
  exact ⟨p6, p3, rfl, g6, g3⟩

set_option maxHeartbeats 1000000 in
theorem decimal_bb (a b : ByteArray) (w : World) (h : Digs w) (s1 : a.size ≤ 140737488351232) (s2 : b.size ≤ 140737488351232) (h1 : ¬ isT 10 a) (h2 : ¬ isT 10 (⟨#[49]⟩ ++ b)) : Calls Tryz.prog 46 #[.string a, .string b] w fun e w' => e = .returned (.tuple #[.slice none 0 0, .slice none 0 0, .int .i64 31]) ∧ Below w.heap.size w w' := by
  have z1 := one_size b
  have Q2 := hide' (Parse_bad a 10 (by omega) (by omega) (by omega) h1 w h)
  have Q4 := hide' (fun w' (k : Digs w') => Parse_bad (⟨#[49]⟩ ++ b) 10 (by omega) (by omega) (by omega) h2 w' k)
  have HD := hide' h
  clear h h1 h2
  go_enter Tryz.func46, Tryz.ntmps46
  go_wp2_with fail
  refine Q2.out.mono ?_
  rintro e w1 ⟨rfl, b1⟩
  go_wp2_with fail
  refine (Q4.out _ (HD.out.below b1)).mono ?_
  rintro e w2 ⟨rfl, b2⟩
  go_wp2
  go_ret3
  exact ⟨rfl, b1.trans (b2.mono b1.size)⟩

set_option maxHeartbeats 1000000 in
theorem decimal_bo (a b : ByteArray) (w : World) (h : Digs w) (s1 : a.size ≤ 140737488351232) (s2 : b.size ≤ 140737488351232) (h1 : ¬ isT 10 a) (h2 : isT 10 (⟨#[49]⟩ ++ b)) : Calls Tryz.prog 46 #[.string a, .string b] w fun e w' => e = .returned (.tuple #[.slice none 0 0, .slice none 0 0, .int .i64 31]) ∧ Below w.heap.size w w' := by
  have z1 := one_size b
  have Q2 := hide' (Parse_bad a 10 (by omega) (by omega) (by omega) h1 w h)
  have Q4 := hide' (fun w' (k : Digs w') => Parse_ok (⟨#[49]⟩ ++ b) 10 (by omega) (by omega) (by omega) h2 w' k)
  have HD := hide' h
  clear h h1 h2
  go_enter Tryz.func46, Tryz.ntmps46
  go_wp2_with fail
  refine Q2.out.mono ?_
  rintro e w1 ⟨rfl, b1⟩
  go_wp2_with fail
  refine (Q4.out _ (HD.out.below b1)).mono ?_
  rintro e w2 ⟨a2, rfl, n2⟩
  have b2 := n2.below
  go_wp2
  go_ret3
  exact ⟨rfl, b1.trans (b2.mono b1.size)⟩

set_option maxHeartbeats 1000000 in
theorem decimal_ob (a b : ByteArray) (w : World) (h : Digs w) (s1 : a.size ≤ 140737488351232) (s2 : b.size ≤ 140737488351232) (h1 : isT 10 a) (h2 : ¬ isT 10 (⟨#[49]⟩ ++ b)) : Calls Tryz.prog 46 #[.string a, .string b] w fun e w' => e = .returned (.tuple #[.slice none 0 0, .slice none 0 0, .int .i64 31]) ∧ Below w.heap.size w w' := by
  have z1 := one_size b
  have Q2 := hide' (Parse_ok a 10 (by omega) (by omega) (by omega) h1 w h)
  have Q4 := hide' (fun w' (k : Digs w') => Parse_bad (⟨#[49]⟩ ++ b) 10 (by omega) (by omega) (by omega) h2 w' k)
  have HD := hide' h
  clear h h1 h2
  go_enter Tryz.func46, Tryz.ntmps46
  go_wp2_with fail
  refine Q2.out.mono ?_
  rintro e w1 ⟨a1, rfl, n1⟩
  have b1 := n1.below
  go_wp2_with fail
  refine (Q4.out _ (HD.out.below b1)).mono ?_
  rintro e w2 ⟨rfl, b2⟩
  go_wp2
  go_ret3
  exact ⟨rfl, b1.trans (b2.mono b1.size)⟩

set_option maxHeartbeats 1000000 in
theorem decimal_oo (a b : ByteArray) (w : World) (h : Digs w) (s1 : a.size ≤ 140737488351232) (s2 : b.size ≤ 140737488351232) (h1 : isT 10 a) (h2 : isT 10 (⟨#[49]⟩ ++ b)) (hz : b = ByteArray.empty) : Calls Tryz.prog 46 #[.string a, .string b] w fun e w' => e = .returned (.tuple #[.slice none 0 0, .slice none 0 0, .int .i64 31]) ∧ Below w.heap.size w w' := by
  have z1 := one_size b
  have Q2 := hide' (Parse_ok a 10 (by omega) (by omega) (by omega) h1 w h)
  have Q4 := hide' (fun w' (k : Digs w') => Parse_ok (⟨#[49]⟩ ++ b) 10 (by omega) (by omega) (by omega) h2 w' k)
  have HD := hide' h
  subst hz
  clear h h1 h2
  go_enter Tryz.func46, Tryz.ntmps46
  go_wp2_with fail
  refine Q2.out.mono ?_
  rintro e w1 ⟨a1, rfl, n1⟩
  have b1 := n1.below
  go_wp2_with fail
  refine (Q4.out _ (HD.out.below b1)).mono ?_
  rintro e w2 ⟨a2, rfl, n2⟩
  have b2 := n2.below
  go_wp2
  go_ret3
  exact ⟨rfl, b1.trans (b2.mono b1.size)⟩

theorem decimal_bad (a b : ByteArray) (w : World) (h : Digs w) (s1 : a.size ≤ 140737488351232) (s2 : b.size ≤ 140737488351232) (hn : ¬ (isT 10 a ∧ tl10 b)) : Calls Tryz.prog 46 #[.string a, .string b] w fun e w' => e = .returned (.tuple #[.slice none 0 0, .slice none 0 0, .int .i64 31]) ∧ Below w.heap.size w w' := by
  by_cases h1 : isT 10 a
  · by_cases h2 : isT 10 (⟨#[49]⟩ ++ b)
    · refine decimal_oo a b w h s1 s2 h1 h2 ?_
      have h3 : ¬ 0 < b.size := fun c => hn ⟨h1, c, one_isT.1 h2⟩
      exact ByteArray.ext (Array.eq_empty_of_size_eq_zero (by have : b.size = 0 := by omega
                                                              exact this))
    · exact decimal_ob a b w h s1 s2 h1 h2
  · by_cases h2 : isT 10 (⟨#[49]⟩ ++ b)
    · exact decimal_bo a b w h s1 s2 h1 h2
    · exact decimal_bb a b w h s1 s2 h1 h2

end Go.Proofs.YtjbeagbkjmaeeaaGreatDoor

namespace Go.Proofs.YtjbeagbkjmaeeaaGreatDoor
open Go.RowKit
set_option linter.unusedVariables false
set_option linter.unusedSimpArgs false

/-- power's contract, up to a length -/
def Pow10 : Prop := ∀ (k : Nat), k ≤ 140737488351232 → ∀ w', Digs w' → Calls Tryz.prog 79 #[.int .i64 (k : Nat)] w' fun e w'' => ∃ p, e = .returned (.slice p (ln (10 ^ k)) (ln (10 ^ k))) ∧ New w' w'' p (10 ^ k) (ln (10 ^ k))
set_option maxHeartbeats 1000000 in
theorem parts_47_ok (t : ByteArray) (X Y : Nat) (hs : t.size ≤ 140737488351232) (i : Nat) (hi : i < t.size) (h1 : byt t i = 47) (h2 : ∀ k, k < i → byt t k ≠ 47) (w : World) (h : Digs w) (H2 : ∀ v, Digs v → Calls Tryz.prog 45 #[.string (t.extract 0 i), .string (t.extract (i + 1) t.size)] v fun e v' => ∃ p q, e = .returned (.tuple #[.slice p (ln X) (ln X), .slice q (ln Y) (ln Y), .int .i64 0]) ∧ New v v' p X (ln X) ∧ New v v' q Y (ln Y)) :
    Calls Tryz.prog 22 #[.string t] w fun e w' => ∃ p q, e = .returned (.tuple #[.slice p (ln X) (ln X), .slice q (ln Y) (ln Y), .int .i64 0]) ∧ New w w' p X (ln X) ∧ New w w' q Y (ln Y) := by
  have C1 := hide' (fun w' => cut_47_hit t i hi (indexByte_is (by omega) hi h1 h2) (by omega) w')
  have HD := hide' h
  have G2 := hide' H2
  clear h H2 h1 h2
  go_enter Tryz.func22, Tryz.ntmps22
  go_wp2_with fail
  refine (C1.out _).mono ?_
  rintro e w1 ⟨rfl, hd⟩
  have b1 := hd.below w.heap.size
  have b2 := b1
  go_wp2_with fail
  refine (G2.out _ (HD.out.below b2)).mono ?_
  rintro e w3 ⟨p, q, rfl, n1, n2⟩
  go_wp2
  go_ret3
  exact ⟨p, q, rfl, n1.back b2, n2.back b2⟩

set_option maxHeartbeats 1000000 in
theorem parts_46_ok (t : ByteArray) (X Y : Nat) (hs : t.size ≤ 140737488351232) (h47 : ∀ k, k < t.size → byt t k ≠ 47) (i : Nat) (hi : i < t.size) (h1 : byt t i = 46) (h2 : ∀ k, k < i → byt t k ≠ 46) (w : World) (h : Digs w) (H2 : ∀ v, Digs v → Calls Tryz.prog 46 #[.string (t.extract 0 i), .string (t.extract (i + 1) t.size)] v fun e v' => ∃ p q, e = .returned (.tuple #[.slice p (ln X) (ln X), .slice q (ln Y) (ln Y), .int .i64 0]) ∧ New v v' p X (ln X) ∧ New v v' q Y (ln Y)) :
    Calls Tryz.prog 22 #[.string t] w fun e w' => ∃ p q, e = .returned (.tuple #[.slice p (ln X) (ln X), .slice q (ln Y) (ln Y), .int .i64 0]) ∧ New w w' p X (ln X) ∧ New w w' q Y (ln Y) := by
  have C1 := hide' (fun w' => cut_47_miss t (indexByte_not (by omega) h47) w')
  have C2 := hide' (fun w' => cut_46_hit t i hi (indexByte_is (by omega) hi h1 h2) (by omega) w')
  have HD := hide' h
  have G2 := hide' H2
  clear h H2 h1 h2
  go_enter Tryz.func22, Tryz.ntmps22
  go_wp2_with fail
  refine (C1.out _).mono ?_
  rintro e w1 ⟨rfl, hd⟩
  have b1 := hd.below w.heap.size
  go_wp2_with fail
  refine (C2.out _).mono ?_
  rintro e w2 ⟨rfl, hd2⟩
  have b2 := b1.trans (hd2.below w.heap.size)
  go_wp2_with fail
  refine (G2.out _ (HD.out.below b2)).mono ?_
  rintro e w3 ⟨p, q, rfl, n1, n2⟩
  go_wp2
  go_ret3
  exact ⟨p, q, rfl, n1.back b2, n2.back b2⟩

set_option maxHeartbeats 1000000 in
theorem parts_no_ok (t : ByteArray) (X Y : Nat) (hs : t.size ≤ 140737488351232) (h47 : ∀ k, k < t.size → byt t k ≠ 47) (h46 : ∀ k, k < t.size → byt t k ≠ 46) (w : World) (h : Digs w) (H2 : ∀ v, Digs v → Calls Tryz.prog 45 #[.string t, .string ⟨#[49]⟩] v fun e v' => ∃ p q, e = .returned (.tuple #[.slice p (ln X) (ln X), .slice q (ln Y) (ln Y), .int .i64 0]) ∧ New v v' p X (ln X) ∧ New v v' q Y (ln Y)) :
    Calls Tryz.prog 22 #[.string t] w fun e w' => ∃ p q, e = .returned (.tuple #[.slice p (ln X) (ln X), .slice q (ln Y) (ln Y), .int .i64 0]) ∧ New w w' p X (ln X) ∧ New w w' q Y (ln Y) := by
  have C1 := hide' (fun w' => cut_47_miss t (indexByte_not (by omega) h47) w')
  have C2 := hide' (fun w' => cut_46_miss t (indexByte_not (by omega) h46) w')
  have HD := hide' h
  have G2 := hide' H2
  clear h H2
  go_enter Tryz.func22, Tryz.ntmps22
  go_wp2_with fail
  refine (C1.out _).mono ?_
  rintro e w1 ⟨rfl, hd⟩
  have b1 := hd.below w.heap.size
  go_wp2_with fail
  refine (C2.out _).mono ?_
  rintro e w2 ⟨rfl, hd2⟩
  have b2 := b1.trans (hd2.below w.heap.size)
  go_wp2_with fail
  refine (G2.out _ (HD.out.below b2)).mono ?_
  rintro e w3 ⟨p, q, rfl, n1, n2⟩
  go_wp2
  go_ret3
  exact ⟨p, q, rfl, n1.back b2, n2.back b2⟩

set_option maxHeartbeats 1000000 in
theorem parts_47_bad (t : ByteArray) (hs : t.size ≤ 140737488351232) (i : Nat) (hi : i < t.size) (h1 : byt t i = 47) (h2 : ∀ k, k < i → byt t k ≠ 47) (w : World) (h : Digs w) (H2 : ∀ v, Digs v → Calls Tryz.prog 45 #[.string (t.extract 0 i), .string (t.extract (i + 1) t.size)] v fun e v' => e = .returned (.tuple #[.slice none 0 0, .slice none 0 0, .int .i64 31]) ∧ Below v.heap.size v v') :
    Calls Tryz.prog 22 #[.string t] w fun e w' => e = .returned (.tuple #[.slice none 0 0, .slice none 0 0, .int .i64 31]) ∧ Below w.heap.size w w' := by
  have C1 := hide' (fun w' => cut_47_hit t i hi (indexByte_is (by omega) hi h1 h2) (by omega) w')
  have HD := hide' h
  have G2 := hide' H2
  clear h H2 h1 h2
  go_enter Tryz.func22, Tryz.ntmps22
  go_wp2_with fail
  refine (C1.out _).mono ?_
  rintro e w1 ⟨rfl, hd⟩
  have b1 := hd.below w.heap.size
  have b2 := b1
  go_wp2_with fail
  refine (G2.out _ (HD.out.below b2)).mono ?_
  rintro e w3 ⟨rfl, b9⟩
  go_wp2
  go_ret3
  exact ⟨rfl, b2.trans (b9.mono b2.size)⟩

set_option maxHeartbeats 1000000 in
theorem parts_46_bad (t : ByteArray) (hs : t.size ≤ 140737488351232) (h47 : ∀ k, k < t.size → byt t k ≠ 47) (i : Nat) (hi : i < t.size) (h1 : byt t i = 46) (h2 : ∀ k, k < i → byt t k ≠ 46) (w : World) (h : Digs w) (H2 : ∀ v, Digs v → Calls Tryz.prog 46 #[.string (t.extract 0 i), .string (t.extract (i + 1) t.size)] v fun e v' => e = .returned (.tuple #[.slice none 0 0, .slice none 0 0, .int .i64 31]) ∧ Below v.heap.size v v') :
    Calls Tryz.prog 22 #[.string t] w fun e w' => e = .returned (.tuple #[.slice none 0 0, .slice none 0 0, .int .i64 31]) ∧ Below w.heap.size w w' := by
  have C1 := hide' (fun w' => cut_47_miss t (indexByte_not (by omega) h47) w')
  have C2 := hide' (fun w' => cut_46_hit t i hi (indexByte_is (by omega) hi h1 h2) (by omega) w')
  have HD := hide' h
  have G2 := hide' H2
  clear h H2 h1 h2
  go_enter Tryz.func22, Tryz.ntmps22
  go_wp2_with fail
  refine (C1.out _).mono ?_
  rintro e w1 ⟨rfl, hd⟩
  have b1 := hd.below w.heap.size
  go_wp2_with fail
  refine (C2.out _).mono ?_
  rintro e w2 ⟨rfl, hd2⟩
  have b2 := b1.trans (hd2.below w.heap.size)
  go_wp2_with fail
  refine (G2.out _ (HD.out.below b2)).mono ?_
  rintro e w3 ⟨rfl, b9⟩
  go_wp2
  go_ret3
  exact ⟨rfl, b2.trans (b9.mono b2.size)⟩

set_option maxHeartbeats 1000000 in
theorem parts_no_bad (t : ByteArray) (hs : t.size ≤ 140737488351232) (h47 : ∀ k, k < t.size → byt t k ≠ 47) (h46 : ∀ k, k < t.size → byt t k ≠ 46) (w : World) (h : Digs w) (H2 : ∀ v, Digs v → Calls Tryz.prog 45 #[.string t, .string ⟨#[49]⟩] v fun e v' => e = .returned (.tuple #[.slice none 0 0, .slice none 0 0, .int .i64 31]) ∧ Below v.heap.size v v') :
    Calls Tryz.prog 22 #[.string t] w fun e w' => e = .returned (.tuple #[.slice none 0 0, .slice none 0 0, .int .i64 31]) ∧ Below w.heap.size w w' := by
  have C1 := hide' (fun w' => cut_47_miss t (indexByte_not (by omega) h47) w')
  have C2 := hide' (fun w' => cut_46_miss t (indexByte_not (by omega) h46) w')
  have HD := hide' h
  have G2 := hide' H2
  clear h H2
  go_enter Tryz.func22, Tryz.ntmps22
  go_wp2_with fail
  refine (C1.out _).mono ?_
  rintro e w1 ⟨rfl, hd⟩
  have b1 := hd.below w.heap.size
  go_wp2_with fail
  refine (C2.out _).mono ?_
  rintro e w2 ⟨rfl, hd2⟩
  have b2 := b1.trans (hd2.below w.heap.size)
  go_wp2_with fail
  refine (G2.out _ (HD.out.below b2)).mono ?_
  rintro e w3 ⟨rfl, b9⟩
  go_wp2
  go_ret3
  exact ⟨rfl, b2.trans (b9.mono b2.size)⟩

theorem parts_some (t : ByteArray) (X Y : Nat) (hs : t.size ≤ 140737488351232) (HP : Pow10) (hR : Rd t (some (X, Y))) (w : World) (h : Digs w) : Calls Tryz.prog 22 #[.string t] w fun e w' => ∃ p q, e = .returned (.tuple #[.slice p (ln X) (ln X), .slice q (ln Y) (ln Y), .int .i64 0]) ∧ New w w' p X (ln X) ∧ New w w' q Y (ln Y) := by
  have ez : ∀ i j, (t.extract i j).size ≤ t.size := fun i j => by simp only [ByteArray.size_extract]; omega
  cases hR with
  | @over i hi h1 h2 a b c =>
    exact parts_47_ok t _ _ hs i hi h1 h2 w h fun v k => quotient_any _ _ _ _ v k a b rfl rfl (by have := ez 0 i; omega) (by have := ez (i + 1) t.size; omega) c (by have := val_ln b.2.2; have := ez (i + 1) t.size; omega)
  | @point i h0 hi h1 h2 a b =>
    have e : (t.extract (i + 1) t.size).size = t.size - (i + 1) := by simp only [ByteArray.size_extract]; omega
    exact parts_46_ok t _ _ hs h0 i hi h1 h2 w h fun v k => decimal_ok _ _ _ _ v k (by have := ez 0 i; omega) (by omega) (HP _ (by omega)) a b (by rw [e]) (by rw [e])
  | whole h0 h1 a =>
    have hone : isT 10 ⟨#[49]⟩ := ⟨by decide, by decide, fun k hk => by
      obtain rfl : k = 0 := by have : k < 1 := hk; omega
      decide⟩
    exact parts_no_ok t _ _ hs h0 h1 w h fun v k => quotient_any _ _ _ _ v k a hone rfl (by decide) (by omega) (by decide) (by omega) (by rw [ln_one]; omega)

theorem parts_none (t : ByteArray) (hs : t.size ≤ 140737488351232) (hR : Rd t none) (w : World) (h : Digs w) : Calls Tryz.prog 22 #[.string t] w fun e w' => e = .returned (.tuple #[.slice none 0 0, .slice none 0 0, .int .i64 31]) ∧ Below w.heap.size w w' := by
  have ez : ∀ i j, (t.extract i j).size ≤ t.size := fun i j => by simp only [ByteArray.size_extract]; omega
  cases hR with
  | @overBad i hi h1 h2 hn => exact parts_47_bad t hs i hi h1 h2 w h fun v k => quotient_bad _ _ v k (by have := ez 0 i; omega) (by have := ez (i + 1) t.size; omega) hn
  | @pointBad i h0 hi h1 h2 hn => exact parts_46_bad t hs h0 i hi h1 h2 w h fun v k => decimal_bad _ _ v k (by have := ez 0 i; omega) (by have := ez (i + 1) t.size; omega) hn
  | wholeBad h0 h1 hn => exact parts_no_bad t hs h0 h1 w h fun v k => quotient_bad _ _ v k (by omega) (by decide) fun x => hn x.1

end Go.Proofs.YtjbeagbkjmaeeaaGreatDoor

namespace Go.Proofs.YtjbeagbkjmaeeaaGreatDoor
open Go.RowKit
set_option linter.unusedVariables false
set_option linter.unusedSimpArgs false

/-- the sign ahead, and what stands behind it -/
def negOf (s : ByteArray) : Bool := decide (0 < s.size ∧ byt s 0 = 45)
def bodyOf (s : ByteArray) : ByteArray := if negOf s = true then s.extract 1 s.size else s
theorem bodyOf_size (s : ByteArray) : (bodyOf s).size ≤ s.size := by
  unfold bodyOf
  split
  · simp only [ByteArray.size_extract]; omega
  · exact Nat.le_refl _
theorem Rd.good {t : ByteArray} {X Y : Nat} (h : Rd t (some (X, Y))) : 0 < Y ∧ ln X ≤ t.size / 8 + 1 ∧ ln Y ≤ t.size / 8 + 1 := by
  have ez : ∀ i j, (t.extract i j).size ≤ t.size := fun i j => by simp only [ByteArray.size_extract]; omega
  cases h with
  | @over i hi h1 h2 a b c =>
    have l1 := val_ln a.2.2
    have l2 := val_ln b.2.2
    have z1 := ez 0 i
    have z2 := ez (i + 1) t.size
    exact ⟨by omega, by omega, by omega⟩
  | @point i h0 hi h1 h2 a b =>
    have e : (t.extract (i + 1) t.size).size = t.size - (i + 1) := by simp only [ByteArray.size_extract]; omega
    have e2 : (t.extract 0 i).size = i := by simp only [ByteArray.size_extract]; omega
    have v1 := val_lt a.2.2
    have v2 := val_lt b.2
    rw [e2] at v1
    rw [e] at v2
    have hX : val 10 (t.extract 0 i) * 10 ^ (t.size - (i + 1)) + val 10 (t.extract (i + 1) t.size) < 10 ^ t.size := by
      have g1 : (val 10 (t.extract 0 i) + 1) * 10 ^ (t.size - (i + 1)) ≤ 10 ^ i * 10 ^ (t.size - (i + 1)) := Nat.mul_le_mul_right _ v1
      rw [Nat.add_mul, Nat.one_mul, ← Nat.pow_add] at g1
      have g2 : 10 ^ (i + (t.size - (i + 1))) ≤ 10 ^ t.size := Nat.pow_le_pow_right (by omega) (by omega)
      omega
    refine ⟨Nat.pow_pos (by omega), ln_le_of_lt (Nat.lt_trans hX (lt8 (by omega))), ?_⟩
    have := ten_ln (t.size - (i + 1))
    omega
  | whole h0 h1 a =>
    have l1 := val_ln a.2.2
    exact ⟨by omega, l1, by rw [ln_one]; omega⟩
theorem cutPre (s : ByteArray) (w : World) : Calls Tryz.prog 21 #[.string s, .string ⟨#[45]⟩] w fun e w' => e = .returned (.tuple #[.string (bodyOf s), .bool (negOf s)]) ∧ w' = w := by
  by_cases h : 0 < s.size ∧ byt s 0 = 45
  · have e1 : negOf s = true := by unfold negOf; exact decide_eq_true h
    have e2 : bodyOf s = s.extract 1 s.size := by unfold bodyOf; rw [if_pos e1]
    rw [e1, e2]
    exact cutMinus_yes s w h.1 h.2
  · have e1 : negOf s = false := by unfold negOf; exact decide_eq_false h
    have e2 : bodyOf s = s := by unfold bodyOf; rw [if_neg (by rw [e1]; decide)]
    rw [e1, e2]
    exact cutMinus_no s w h
theorem qParse_some (s : ByteArray) (X Y V : Nat) (Z : Int) (hs : s.size ≤ 140737488351232) (HP : Pow10) (hR : Rd (bodyOf s) (some (X, Y))) (hL : Low (sg (negOf s) X) (Y : Int) Z V) (w : World) (h : Digs w) :
    Calls Tryz.prog 10 #[.string s] w fun e w' => ∃ p q, e = .returned (.tuple #[.agg #[.bool (ng Z), .slice p (ln (am Z)) (ln (am Z)), .slice q (ln V) (ln V)], .int .i64 0]) ∧ Below w.heap.size w w' ∧ Seg w' p (am Z) (ln (am Z)) ∧ Seg w' q V (ln V) := by
  have hb := bodyOf_size s
  obtain ⟨g1, g2, g3⟩ := hR.good
  exact qParse_gen s (bodyOf s) (negOf s) X Y V Z w h (cutPre s) (fun w' k => parts_some _ X Y (by omega) HP hR w' k) (by omega) (by omega) hL
set_option maxHeartbeats 2000000 in
set_option maxRecDepth 100000 in
theorem qParse_none (s : ByteArray) (hs : s.size ≤ 140737488351232) (hR : Rd (bodyOf s) none) (w : World) (h : Digs w) : Calls Tryz.prog 10 #[.string s] w fun e w' => e = .returned (.tuple #[.agg #[.bool false, .slice none 0 0, .slice none 0 0], .int .i64 31]) ∧ Below w.heap.size w w' := by
  have hb := bodyOf_size s
  have G0 := hide' (cutPre s)
  have G1 := hide' (fun w' k => parts_none (bodyOf s) (by omega) hR w' k)
  have bA := below_alloc (w := w) (.cells #[.bool false, .slice none 0 0, .slice none 0 0] 27)
  have qR := Blk.new w #[.bool false, .slice none 0 0, .slice none 0 0] 27
  have HD := hide' (h.below bA)
  clear h hR
  go_enter Tryz.func10, Tryz.ntmps10
  go_wp2_with fail
  refine (G0.out _).mono ?_
  rintro e w1 ⟨rfl, rfl⟩
  go_wp2_with fail
  refine (G1.out _ HD.out).mono ?_
  rintro e w2 ⟨rfl, b2⟩
  have qR2 := qR.later b2
  have v0 := qR2.cell 0
  have v1 := qR2.cell 1
  have v2 := qR2.cell 2
  simp only [List.getElem?_toArray, List.getElem?_cons_zero, List.getElem?_cons_succ] at v0 v1 v2
  have fz := fun o => qR2.frozen o
  go_wp2
  obtain ⟨c9, q9⟩ := qR2.set3 (.bool false) (.slice none 0 0) (.slice none 0 0)
  have z0 := q9.cell 0
  have z1 := q9.cell 1
  have z2 := q9.cell 2
  simp only [List.getElem?_toArray, List.getElem?_cons_zero, List.getElem?_cons_succ] at z0 z1 z2
  clear v0 v1 v2
  refine bodyPost_ret (v := .tuple #[.agg #[.bool false, .slice none 0 0, .slice none 0 0], .int .i64 31]) (by rw [results_ct rfl]; go_simp) rfl ?_
  exact ⟨rfl, (bA.trans (b2.mono bA.size)).trans (c9.below (Nat.le_refl _))⟩
end Go.Proofs.YtjbeagbkjmaeeaaGreatDoor
