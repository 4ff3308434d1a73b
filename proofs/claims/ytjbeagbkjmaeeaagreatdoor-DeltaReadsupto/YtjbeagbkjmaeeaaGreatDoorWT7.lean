/-
  Layer 1's texts: the reference's Parse.
-/
import Derived.Test.YtjbeagbkjmaeeaaGreatDoorWT1
import Derived.Test.YtjbeagbkjmaeeaaGreatDoorW13
import Derived.Test.YtjbeagbkjmaeeaaGreatDoorW4
import Derived.Test.YtjbeagbkjmaeeaaGreatDoorWI1
namespace Go.Proofs.YtjbeagbkjmaeeaaGreatDoor
open Go.RowKit
set_option linter.unusedVariables false

theorem DS_at : ∀ (k : Nat) (h : k < 16), ((⟨#[48, 49, 50, 51, 52, 53, 54, 55, 56, 57, 97, 98, 99, 100, 101, 102]⟩ : ByteArray)[k]'h).toNat = dch k
  | 0, _ => rfl | 1, _ => rfl | 2, _ => rfl | 3, _ => rfl | 4, _ => rfl | 5, _ => rfl | 6, _ => rfl | 7, _ => rfl
  | 8, _ => rfl | 9, _ => rfl | 10, _ => rfl | 11, _ => rfl | 12, _ => rfl | 13, _ => rfl | 14, _ => rfl | 15, _ => rfl
  | k + 16, h => absurd h (by omega)
/-- what the reference's digit tells -/
def rdg (c b : Nat) : Int := if dval c < b then (dval c : Int) else -1
set_option maxHeartbeats 1000000 in
theorem rdigit_any (c b : Nat) (hc : c < 256) (hb : b ≤ 16) (w : World) :
    Calls Tryz.prog 56 #[.int .u8 c, .int .i64 b] w fun e w' => e = .returned (.int .i64 (rdg c b)) ∧ w' = w := by
  have hsz : (⟨#[48, 49, 50, 51, 52, 53, 54, 55, 56, 57, 97, 98, 99, 100, 101, 102]⟩ : ByteArray).size = 16 := rfl
  go_enter Tryz.func56, Tryz.ntmps56
  go_wp2
  go_loop [5] (fun i => ∃ k : Nat, k ≤ b ∧ i = .int .i64 k ∧ ∀ j, j < k → dch j ≠ c) (fun i => b - (intOf i).toNat)
  case atStart => exact ⟨0, Nat.zero_le _, rfl, fun j hj => by omega⟩
  case round =>
    obtain ⟨k, hk, rfl, hj⟩ := hrel
    have HJ := hide' hj
    clear hj
    by_cases hlt : k < b
    · have h16 : k < 16 := by omega
      have h16i : (k : Int) < 16 := by omega
      have hat := DS_at k h16
      by_cases he : dch k = c
      · have hx : (((dch k : Nat) : Int) == (c : Int)) = true := by rw [he]; simp
        go_wp2
        go_ret
        refine ⟨?_, rfl⟩
        have e : rdg c b = (k : Int) := by
          unfold rdg
          have e : dval c = k := by rw [← he]; exact dval_dch h16
          rw [if_pos (by omega), e]
        rw [e]; rfl
      · have hx : (((dch k : Nat) : Int) == (c : Int)) = false := by rw [beq_eq_false_iff_ne]; omega
        go_wp2
        go_round
        case rel => exact ⟨k + 1, by omega, by go_num, fun j hj => by
          by_cases e : j = k
          · rw [e]; exact he
          · exact HJ.out j (by omega)⟩
        case measure => simp [intOf]; omega
    · have e : k = b := by omega
      subst e
      go_wp2
      go_ret
      refine ⟨?_, rfl⟩
      have e : rdg c k = -1 := by
        unfold rdg
        rw [if_neg]
        intro h
        exact HJ.out _ h (dch_dval (by omega))
      rw [e]; rfl

def RP (b : Nat) (s : ByteArray) (w : World) (e : Ending) (w' : World) : Prop := (isT b s → ∃ a, e = .returned (.tuple #[.slice a (ln (val b s)) (ln (val b s)), .int .i64 0]) ∧ Seg w' a (val b s) (ln (val b s))) ∧ (¬ isT b s → e = .returned (.tuple #[.slice none 0 0, .int .i64 15])) ∧ Below w.heap.size w w'
set_option maxHeartbeats 2000000 in
theorem rParse_short (s : ByteArray) (b : Nat) (hb : b ≤ 16) (hb0 : 2 ≤ b) (hs : s.size ≤ 140737488355328) (w : World) (h : s.size = 0 ∨ (1 < s.size ∧ byt s 0 = 48)) :
    Calls Tryz.prog 26 #[.string s, .int .i64 b] w (RP b s w) := by
  have e1 : ¬ ((b : Int) < 2) := by omega
  have e2 : ¬ ((16 : Int) < (b : Int)) := by omega
  have hn : ¬ isT b s := fun hT => by
    rcases h with h | h
    · have := hT.1; omega
    · exact hT.2.1 h.1 h.2
  have HN := hide' hn
  clear hn
  rcases h with h | ⟨h1, h2⟩
  · have hz : (s.size : Int) = 0 := by omega
    have hz2 : ((s.size : Int) == 0) = true := by rw [hz]; rfl
    go_enter Tryz.func26, Tryz.ntmps26
    go_wp2_with fail
    go_ret2
    exact ⟨fun hT => absurd hT HN.out, fun _ => rfl, Below.refl _ _⟩
  · have h0 : 0 < s.size := by omega
    have eb := byt_of h0
    have hx : (((s[0]'h0).toNat : Int) == 48) = true := by rw [← eb, h2]; rfl
    have hz : ((s.size : Int) == 0) = false := by rw [beq_eq_false_iff_ne]; omega
    have h1i : (1 : Int) < (s.size : Int) := by omega
    have h0i : (0 : Int) < (s.size : Int) := by omega
    go_enter Tryz.func26, Tryz.ntmps26
    go_wp2_with fail
    go_ret2
    exact ⟨fun hT => absurd hT HN.out, fun _ => rfl, Below.refl _ _⟩
set_option maxHeartbeats 4000000 in
theorem rParse_one (s : ByteArray) (b : Nat) (hb : b ≤ 16) (hb0 : 2 ≤ b) (hs : s.size ≤ 140737488355328) (w : World) (h1 : s.size = 1) :
    Calls Tryz.prog 26 #[.string s, .int .i64 b] w (RP b s w) := by
  have e1 : ¬ ((b : Int) < 2) := by omega
  have e2 : ¬ ((16 : Int) < (b : Int)) := by omega
  have h0 : 0 < s.size := by omega
  have eb := byt_of h0
  have hz : ((s.size : Int) == 0) = false := by rw [beq_eq_false_iff_ne]; omega
  have h0i : (0 : Int) < (s.size : Int) := by omega
  have h1i : ¬ ((1 : Int) < (s.size : Int)) := by omega
  have h1d : decide ((1 : Int) < (s.size : Int)) = false := by rw [decide_eq_false_iff_not]; omega
  have hlead : 1 < s.size → byt s 0 ≠ 48 := fun h => by omega
  have HL := hide' hlead
  have HD := hide' (fun c w' (hc : c < 256) => rdigit_any c b hc hb w')
  clear hlead
  go_enter Tryz.func26, Tryz.ntmps26
  go_wp2_with fail
  have ba := below_alloc (w := w) (.cells #[] 58)
  have sg0 : Seg (w.alloc (.cells #[] 58)) (some ⟨w.heap.size, 0, none⟩) 0 0 := ⟨by simp, fun h => absurd h (by omega)⟩
  generalize w.alloc (.cells #[] 58) = W at ba sg0 ⊢
  clear h1i h1d
  go_loopw [6, 7] (fun a i wr => ∃ (k : Nat) (ao : Option Addr) (X : Nat), k ≤ s.size ∧ i = .int .i64 k ∧ a = .slice ao (ln X) (ln X) ∧ X = tvr b (fun j => dval (byt s j)) 0 k ∧ Seg wr ao X (ln X) ∧ Below w.heap.size w wr ∧ ∀ j, j < k → dval (byt s j) < b) (fun _ i _ => s.size - (intOf i).toNat)
  case atStart => exact ⟨0, _, 0, Nat.zero_le _, rfl, by first | rfl | (rw [ln_zero]) | simp [ln], rfl, by first | exact sg0 | (rw [ln_zero]; exact sg0), ba, fun j hj => by omega⟩
  case round =>
    obtain ⟨k, ao, X, hk, rfl, rfl, hX, hseg, hbel, hj⟩ := hrel
    have HJ := hide' hj
    have HX := hide' hX
    clear hj
    have hXl : ln X ≤ k / 8 + 1 := by
      rw [hX]
      exact ln_le_of_lt (Nat.lt_trans (tvr_lt fun j hj => by simpa using HJ.out j hj) (lt8 hb))
    clear hX
    by_cases hlt : k < s.size
    · have hki : ((k : Int) < (s.size : Int)) := by omega
      have ek := byt_of hlt
      have hD1 := HD.out (s[k]'hlt).toNat
      by_cases hv : dval (byt s k) < b
      · have hrd : rdg (s[k]'hlt).toNat b = ((dval (byt s k) : Nat) : Int) := by rw [← ek]; unfold rdg; rw [if_pos hv]
        rw [hrd] at hD1
        obtain ⟨D, hDe⟩ : ∃ D, dval (byt s k) = D := ⟨_, rfl⟩
        rw [hDe] at hD1 hv hrd
        have hD2 := hide' hD1
        have hneg : ¬ ((D : Int) < 0) := by omega
        have wb : IntKind.u32.wrap (b : Int) = (b : Int) := by rw [IntKind.wrap_u32]; omega
        have wD : IntKind.u32.wrap (D : Int) = (D : Int) := by rw [IntKind.wrap_u32]; omega
        have HDe := hide' hDe
        clear hD1 hDe hrd
        go_wp2_with fail
        refine (hD2.out _ (by rw [← ek]; exact byt_lt s k)).mono ?_
        rintro e w1 ⟨rfl, rfl⟩
        have nb := single_new w1 b 58 b (by omega) rfl
        have sg1 := segL nb.below hseg
        have HM := hide' (rMul_is ao (some ⟨w1.heap.size, 0, none⟩) (ln X) (ln X) X 1 1 b (X * b) _ (by omega) sg1 nb.seg rfl)
        have bel1 := hbel.trans (nb.below.mono hbel.size)
        go_wp2_with fail
        refine HM.out.mono ?_
        rintro e w2 ⟨a2, rfl, h2⟩
        have bel2 := bel1.trans (h2.below.mono bel1.size)
        have nd := single_new w2 D 58 D (by omega) rfl
        have sg2 := segL nd.below h2.seg
        have l2 : ln (X * b) ≤ ln X + 1 := ln_prod (ln_lt X) (show b < BB ^ 1 by rw [Nat.pow_one, BB_eq]; omega)
        have HA := hide' (rAdd_any a2 (some ⟨w2.heap.size, 0, none⟩) (ln (X * b)) (ln (X * b)) (X * b) 1 1 D _ (by omega) sg2 (by omega) nd.seg)
        have bel3 := bel2.trans (nd.below.mono bel2.size)
        go_wp2_with fail
        refine HA.out.mono ?_
        rintro e w3 ⟨a3, rfl, h3⟩
        go_wp2
        go_roundw
        case rel => exact ⟨k + 1, a3, X * b + D, by omega, by go_num, rfl, by rw [tvr, ← HX.out, Nat.zero_add, HDe.out], h3.seg, bel3.trans (h3.below.mono bel3.size), fun j hj => by
          by_cases e : j = k
          · rw [e, HDe.out]; exact hv
          · exact HJ.out j (by omega)⟩
        case measure => simp [intOf]; omega
      · have hrd : rdg (s[k]'hlt).toNat b = -1 := by rw [← ek]; unfold rdg; rw [if_neg hv]
        rw [hrd] at hD1
        have hD2 := hide' hD1
        clear hD1 hrd
        go_wp2_with fail
        refine (hD2.out _ (by rw [← ek]; exact byt_lt s k)).mono ?_
        rintro e w1 ⟨rfl, rfl⟩
        go_wp2
        go_ret2
        exact ⟨fun hT => absurd (hT.2.2 k hlt) hv, fun _ => rfl, hbel⟩
    · have e : k = s.size := by omega
      subst e
      have eX : X = val b s := HX.out
      subst eX
      go_wp2
      go_ret2
      exact ⟨fun _ => ⟨ao, rfl, hseg⟩, fun hn => absurd ⟨h0, HL.out, HJ.out⟩ hn, hbel⟩

set_option maxHeartbeats 4000000 in
theorem rParse_more (s : ByteArray) (b : Nat) (hb : b ≤ 16) (hb0 : 2 ≤ b) (hs : s.size ≤ 140737488355328) (w : World) (h1 : 1 < s.size) (h2 : byt s 0 ≠ 48) :
    Calls Tryz.prog 26 #[.string s, .int .i64 b] w (RP b s w) := by
  have e1 : ¬ ((b : Int) < 2) := by omega
  have e2 : ¬ ((16 : Int) < (b : Int)) := by omega
  have h0 : 0 < s.size := by omega
  have eb := byt_of h0
  have hz : ((s.size : Int) == 0) = false := by rw [beq_eq_false_iff_ne]; omega
  have h0i : (0 : Int) < (s.size : Int) := by omega
  have hx : (((s[0]'h0).toNat : Int) == 48) = false := by rw [← eb, beq_eq_false_iff_ne]; omega
  have h1i : (1 : Int) < (s.size : Int) := by omega
  have hlead : 1 < s.size → byt s 0 ≠ 48 := fun _ => h2
  have HL := hide' hlead
  have HD := hide' (fun c w' (hc : c < 256) => rdigit_any c b hc hb w')
  clear hlead
  go_enter Tryz.func26, Tryz.ntmps26
  go_wp2_with fail
  have ba := below_alloc (w := w) (.cells #[] 58)
  have sg0 : Seg (w.alloc (.cells #[] 58)) (some ⟨w.heap.size, 0, none⟩) 0 0 := ⟨by simp, fun h => absurd h (by omega)⟩
  generalize w.alloc (.cells #[] 58) = W at ba sg0 ⊢
  clear hx h1i
  go_loopw [6, 7] (fun a i wr => ∃ (k : Nat) (ao : Option Addr) (X : Nat), k ≤ s.size ∧ i = .int .i64 k ∧ a = .slice ao (ln X) (ln X) ∧ X = tvr b (fun j => dval (byt s j)) 0 k ∧ Seg wr ao X (ln X) ∧ Below w.heap.size w wr ∧ ∀ j, j < k → dval (byt s j) < b) (fun _ i _ => s.size - (intOf i).toNat)
  case atStart => exact ⟨0, _, 0, Nat.zero_le _, rfl, by first | rfl | (rw [ln_zero]) | simp [ln], rfl, by first | exact sg0 | (rw [ln_zero]; exact sg0), ba, fun j hj => by omega⟩
  case round =>
    obtain ⟨k, ao, X, hk, rfl, rfl, hX, hseg, hbel, hj⟩ := hrel
    have HJ := hide' hj
    have HX := hide' hX
    clear hj
    have hXl : ln X ≤ k / 8 + 1 := by
      rw [hX]
      exact ln_le_of_lt (Nat.lt_trans (tvr_lt fun j hj => by simpa using HJ.out j hj) (lt8 hb))
    clear hX
    by_cases hlt : k < s.size
    · have hki : ((k : Int) < (s.size : Int)) := by omega
      have ek := byt_of hlt
      have hD1 := HD.out (s[k]'hlt).toNat
      by_cases hv : dval (byt s k) < b
      · have hrd : rdg (s[k]'hlt).toNat b = ((dval (byt s k) : Nat) : Int) := by rw [← ek]; unfold rdg; rw [if_pos hv]
        rw [hrd] at hD1
        obtain ⟨D, hDe⟩ : ∃ D, dval (byt s k) = D := ⟨_, rfl⟩
        rw [hDe] at hD1 hv hrd
        have hD2 := hide' hD1
        have hneg : ¬ ((D : Int) < 0) := by omega
        have wb : IntKind.u32.wrap (b : Int) = (b : Int) := by rw [IntKind.wrap_u32]; omega
        have wD : IntKind.u32.wrap (D : Int) = (D : Int) := by rw [IntKind.wrap_u32]; omega
        have HDe := hide' hDe
        clear hD1 hDe hrd
        go_wp2_with fail
        refine (hD2.out _ (by rw [← ek]; exact byt_lt s k)).mono ?_
        rintro e w1 ⟨rfl, rfl⟩
        have nb := single_new w1 b 58 b (by omega) rfl
        have sg1 := segL nb.below hseg
        have HM := hide' (rMul_is ao (some ⟨w1.heap.size, 0, none⟩) (ln X) (ln X) X 1 1 b (X * b) _ (by omega) sg1 nb.seg rfl)
        have bel1 := hbel.trans (nb.below.mono hbel.size)
        go_wp2_with fail
        refine HM.out.mono ?_
        rintro e w2 ⟨a2, rfl, h2⟩
        have bel2 := bel1.trans (h2.below.mono bel1.size)
        have nd := single_new w2 D 58 D (by omega) rfl
        have sg2 := segL nd.below h2.seg
        have l2 : ln (X * b) ≤ ln X + 1 := ln_prod (ln_lt X) (show b < BB ^ 1 by rw [Nat.pow_one, BB_eq]; omega)
        have HA := hide' (rAdd_any a2 (some ⟨w2.heap.size, 0, none⟩) (ln (X * b)) (ln (X * b)) (X * b) 1 1 D _ (by omega) sg2 (by omega) nd.seg)
        have bel3 := bel2.trans (nd.below.mono bel2.size)
        go_wp2_with fail
        refine HA.out.mono ?_
        rintro e w3 ⟨a3, rfl, h3⟩
        go_wp2
        go_roundw
        case rel => exact ⟨k + 1, a3, X * b + D, by omega, by go_num, rfl, by rw [tvr, ← HX.out, Nat.zero_add, HDe.out], h3.seg, bel3.trans (h3.below.mono bel3.size), fun j hj => by
          by_cases e : j = k
          · rw [e, HDe.out]; exact hv
          · exact HJ.out j (by omega)⟩
        case measure => simp [intOf]; omega
      · have hrd : rdg (s[k]'hlt).toNat b = -1 := by rw [← ek]; unfold rdg; rw [if_neg hv]
        rw [hrd] at hD1
        have hD2 := hide' hD1
        clear hD1 hrd
        go_wp2_with fail
        refine (hD2.out _ (by rw [← ek]; exact byt_lt s k)).mono ?_
        rintro e w1 ⟨rfl, rfl⟩
        go_wp2
        go_ret2
        exact ⟨fun hT => absurd (hT.2.2 k hlt) hv, fun _ => rfl, hbel⟩
    · have e : k = s.size := by omega
      subst e
      have eX : X = val b s := HX.out
      subst eX
      go_wp2
      go_ret2
      exact ⟨fun _ => ⟨ao, rfl, hseg⟩, fun hn => absurd ⟨h0, HL.out, HJ.out⟩ hn, hbel⟩

theorem rParse_any (s : ByteArray) (b : Nat) (hb : b ≤ 16) (hb0 : 2 ≤ b) (hs : s.size ≤ 140737488355328) (w : World) :
    Calls Tryz.prog 26 #[.string s, .int .i64 b] w (RP b s w) := by
  by_cases h0 : s.size = 0
  · exact rParse_short s b hb hb0 hs w (.inl h0)
  · by_cases h1 : s.size = 1
    · exact rParse_one s b hb hb0 hs w h1
    · by_cases h2 : byt s 0 = 48
      · exact rParse_short s b hb hb0 hs w (.inr ⟨by omega, h2⟩)
      · exact rParse_more s b hb hb0 hs w (by omega) h2
end Go.Proofs.YtjbeagbkjmaeeaaGreatDoor
