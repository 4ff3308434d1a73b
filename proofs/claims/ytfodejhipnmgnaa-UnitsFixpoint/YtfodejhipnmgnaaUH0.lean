/-
  units: the reference's Place, Broken, Open, Forces.
-/
import Derived.Test.YtfodejhipnmgnaaUG5
namespace Go.Proofs.Ytfodejhipnmgnaa
open Go.RowKit
set_option linter.unusedVariables false
set_option linter.unusedSimpArgs false
/-- marks that were told -/
def MkAt (w : World) (g : Nat) (l : List Mk) : Prop := w.heap[g]? = some (.cells (mkC l).toArray 61 (0, 0)) ∧ l.length ≤ 262144
theorem MkAt.later {w w' : World} {g : Nat} {l : List Mk} (h : MkAt w g l) (hb : Below w.heap.size w w') : MkAt w' g l := ⟨(hb.block g (Array.getElem?_eq_some_iff.1 h.1).1).trans h.1, h.2⟩
/-- the place of a literal's mark, or -1 -/
def plV (l : List Mk) (x : Int) : Int := fstN (fun j => decide ((l.getD j default).l = x)) l.length
theorem plV_neg {l : List Mk} {x : Int} : plV l x < 0 ↔ ∀ j, j < l.length → (l.getD j default).l ≠ x := by
  unfold plV
  constructor
  · intro h j hj e
    have h1 : ¬ ∀ i, i < l.length → decide ((l.getD i default).l = x) = false := fun h2 => by have h9 := h2 j hj; rw [decide_eq_false_iff_not] at h9; exact h9 e
    have h2 : ∃ m, m < l.length ∧ decide ((l.getD m default).l = x) = true ∧ ∀ i, i < m → decide ((l.getD i default).l = x) = false := by
      clear h h1
      induction j using Nat.strongRecOn with
      | ind j ih =>
        by_cases hx : ∃ i, i < j ∧ (l.getD i default).l = x
        · obtain ⟨i, hi, ei⟩ := hx
          exact ih i hi (by omega) ei
        · exact ⟨j, hj, decide_eq_true e, fun i hi => decide_eq_false fun q => hx ⟨i, hi, q⟩⟩
    obtain ⟨m, hm, e1, e2⟩ := h2
    rw [fstN_at (p := fun j => decide ((l.getD j default).l = x)) e1 e2 hm] at h
    omega
  · intro h
    rw [fstN_none fun i hi => decide_eq_false (h i hi)]
    decide
set_option maxHeartbeats 2000000 in
set_option maxRecDepth 100000 in
theorem Place_is (g : Nat) (l : List Mk) (x : Int) (w : World) (h : MkAt w g l) :
    Calls Try.prog 47 #[.slice (some ⟨g, 0, none⟩) l.length l.length, .int .i64 x] w fun e w' => e = .returned (.int .i64 (plV l x)) ∧ w' = w := by
  obtain ⟨n, hn⟩ : ∃ n, l.length = n := ⟨_, rfl⟩
  have hM := h.2
  rw [hn] at hM
  have HC := hide' (show ∀ j, j < n → w.cell? ⟨g, j * 3, none⟩ = some (.int .i64 (l.getD j default).l) from fun j hj => (mk_cell h.1 (by rw [hn]; exact hj)).1)
  have hP : plV l x = fstN (fun j => decide ((l.getD j default).l = x)) n := by unfold plV; rw [hn]
  rw [hn]
  have HP := hide' hP
  clear hP hn h
  go_enter Try.func47, Try.ntmps47
  go_wp2_with fail
  go_loopw [5] (fun vi wr => ∃ k : Nat, k ≤ n ∧ vi = .int .i64 k ∧ (∀ i, i < k → (l.getD i default).l ≠ x) ∧ wr = w) (fun vi _ => n - (intOf vi).toNat)
  case atStart => exact ⟨0, Nat.zero_le _, rfl, fun i hi => absurd hi (by omega), rfl⟩
  case round =>
    obtain ⟨k, hk, rfl, hb, rfl⟩ := hrel
    have HB := hide' hb
    clear hb
    by_cases hlt : k < n
    · have i1 : (k : Int) < (n : Int) := by omega
      have i0 : (0 : Int) ≤ (k : Int) := by omega
      have ck := HC.out k hlt
      obtain ⟨y, hy⟩ : ∃ y, (l.getD k default).l = y := ⟨_, rfl⟩
      rw [hy] at ck
      have HY := hide' hy
      clear hy
      by_cases hyx : y = x
      · have HF := hide' (show plV l x = (k : Int) from HP.out.trans <| fstN_at (p := fun j => decide ((l.getD j default).l = x)) (by show decide ((l.getD k default).l = x) = true; rw [HY.out]; simp [hyx]) (fun i hi => decide_eq_false (HB.out i hi)) hlt)
        subst hyx
        clear HB
        go_wp2
        go_ret
        exact ⟨(by rw [HF.out]; try rfl), rfl⟩
      · have HN := hide' (show ∀ i, i < k + 1 → (l.getD i default).l ≠ x from fun i hi => by rcases Nat.lt_or_ge i k with e | e; exact HB.out i e; (obtain rfl : i = k := by omega); rw [HY.out]; exact hyx)
        have hb9 : (y == x) = false := by simp [hyx]
        have hyx' := hide' hyx
        clear hyx HB
        go_wp2
        go_roundw
        case rel => exact ⟨k + 1, by omega, by go_num, HN.out, by first | rfl | trivial⟩
        case measure => simp only [intOf]; omega
    · obtain rfl : k = n := by omega
      have i1 : ¬ (k : Int) < (k : Int) := by omega
      have HF := hide' (show plV l x = -1 from HP.out.trans <| fstN_none fun i hi => decide_eq_false (HB.out i hi))
      clear HB
      go_wp2
      go_ret
      exact ⟨(by rw [HF.out]; try rfl), rfl⟩
set_option maxHeartbeats 2000000 in
set_option maxRecDepth 100000 in
theorem Broken_is (a : Option Addr) (n c : Nat) (f : Nat → Int) (g : Nat) (l : List Mk) (w : World) (hA : LitsAt w a n f) (hlo : ∀ i, i < n → -9223372036854775808 < f i) (h : MkAt w g l) :
    Calls Try.prog 19 #[.slice a n c, .slice (some ⟨g, 0, none⟩) l.length l.length] w fun e w' => e = .returned (.bool (allN (fun y => decide (0 ≤ plV l (-y))) f n)) ∧ w' = w := by
  have GP := hide' (fun x => Place_is g l x w h)
  have HA := hide' (And.intro hA hlo)
  have hn := hA.1
  clear hA hlo h
  obtain ⟨M, hM⟩ : ∃ M, l.length = M := ⟨_, rfl⟩
  rw [hM] at GP ⊢
  clear hM
  go_enter Try.func19, Try.ntmps19
  go_wp2_with fail
  go_loopw [5] (fun vi wr => ∃ k : Nat, k ≤ n ∧ vi = .int .i64 k ∧ (∀ i, i < k → 0 ≤ plV l (-(f i))) ∧ wr = w) (fun vi _ => n - (intOf vi).toNat)
  case atStart => exact ⟨0, Nat.zero_le _, rfl, fun i hi => absurd hi (by omega), rfl⟩
  case round =>
    obtain ⟨k, hk, rfl, hb, rfl⟩ := hrel
    have HB := hide' hb
    clear hb
    by_cases hlt : k < n
    · skip
      obtain ⟨bb, off, rfl, hcell⟩ := HA.out.1.2.2 (by omega)
      have ck := hcell k hlt
      have i1 : (k : Int) < (n : Int) := by omega
      have i0 : (0 : Int) ≤ (k : Int) := by omega
      clear hcell
      have hlo := HA.out.2 k hlt
      have hhi := (HA.out.1.2.1 k hlt).2
      obtain ⟨y, hy⟩ : ∃ y, f k = y := ⟨_, rfl⟩
      rw [hy] at ck hlo hhi
      have HY := hide' hy
      clear hy
      have hw9 : IntKind.i64.wrap (-y) = -y := by rw [IntKind.wrap_i64]; omega
      have hw8 : IntKind.i64.wrap (0 - y) = -y := by rw [IntKind.wrap_i64]; omega
      have GP2 := hide' (GP.out (-y))
      obtain ⟨t, ht⟩ : ∃ t, plV l (-y) = t := ⟨_, rfl⟩
      rw [ht] at GP2
      have HT := hide' ht
      clear ht
      by_cases htn : t < 0
      · have HF := hide' (show allN (fun y => decide (0 ≤ plV l (-y))) f n = false from allN_false hlt (by rw [HY.out, HT.out]; simp; omega))
        clear HB
        go_wp2_with fail
        refine GP2.out.mono ?_
        rintro e w1 ⟨rfl, hw1⟩
        rw [hw1]
        clear hw1
        go_wp2
        go_ret
        exact ⟨(by rw [HF.out]; try rfl), rfl⟩
      · have HN := hide' (show ∀ i, i < k + 1 → 0 ≤ plV l (-(f i)) from fun i hi => by rcases Nat.lt_or_ge i k with e | e; exact HB.out i e; (obtain rfl : i = k := by omega); rw [HY.out, HT.out]; omega)
        clear HB
        go_wp2_with fail
        refine GP2.out.mono ?_
        rintro e w1 ⟨rfl, hw1⟩
        rw [hw1]
        clear hw1
        go_wp2
        go_roundw
        case rel => exact ⟨k + 1, by omega, by go_num, HN.out, by first | rfl | trivial⟩
        case measure => simp only [intOf]; omega
    · obtain rfl : k = n := by omega
      have i1 : ¬ (k : Int) < (k : Int) := by omega
      have HF := hide' (show allN (fun y => decide (0 ≤ plV l (-y))) f k = true from allN_true.2 fun i hi => decide_eq_true (HB.out i hi))
      clear HB
      go_wp2
      go_ret
      exact ⟨(by rw [HF.out]; try rfl), rfl⟩
set_option maxHeartbeats 2000000 in
set_option maxRecDepth 100000 in
theorem Open_is (g : Nat) (l : List Mk) (x : Int) (hx : -9223372036854775808 < x ∧ x ≤ 9223372036854775807) (w : World) (h : MkAt w g l) :
    Calls Try.prog 38 #[.slice (some ⟨g, 0, none⟩) l.length l.length, .int .i64 x] w fun e w' => e = .returned (.bool (decide (plV l x < 0) && decide (plV l (-x) < 0))) ∧ w' = w := by
  have G0 := hide' (Place_is g l x w h)
  have G1 := hide' (Place_is g l (-x) w h)
  obtain ⟨M, hM⟩ : ∃ M, l.length = M := ⟨_, rfl⟩
  rw [hM] at G0 G1 ⊢
  clear hM h
  have hw9 : IntKind.i64.wrap (-x) = -x := by rw [IntKind.wrap_i64]; omega
  have hw8 : IntKind.i64.wrap (0 - x) = -x := by rw [IntKind.wrap_i64]; omega
  replace hx := hide' hx
  generalize plV l x = s at *
  generalize plV l (-x) = t at *
  by_cases hs : s < 0
  · skip
    go_enter Try.func38, Try.ntmps38
    go_wp2_with fail
    refine G0.out.mono ?_
    rintro e w1 ⟨rfl, hw1⟩
    rw [hw1]
    clear hw1
    go_wp2_with fail
    refine G1.out.mono ?_
    rintro e w2 ⟨rfl, hw2⟩
    rw [hw2]
    clear hw2
    go_wp2
    go_ret
    exact ⟨by simp [hs], rfl⟩
  · have hsb : decide (s < 0) = false := decide_eq_false hs
    go_enter Try.func38, Try.ntmps38
    go_wp2_with fail
    refine G0.out.mono ?_
    rintro e w1 ⟨rfl, hw1⟩
    rw [hw1]
    clear hw1
    go_wp2
    go_ret
    exact ⟨(by simp; intros; omega), rfl⟩
set_option maxHeartbeats 2000000 in
set_option maxRecDepth 100000 in
theorem Forces_no (a : Option Addr) (n c : Nat) (f : Nat → Int) (g : Nat) (l : List Mk) (x : Int) (hx : -9223372036854775808 < x ∧ x ≤ 9223372036854775807) (w : World) (hA : LitsAt w a n f) (hlo : ∀ i, i < n → -9223372036854775808 < f i) (h : MkAt w g l) (hno : (∃ i, i < n ∧ f i ≠ x ∧ plV l (-(f i)) < 0) ∨ (decide (plV l x < 0) && decide (plV l (-x) < 0)) = false) :
    Calls Try.prog 40 #[.slice a n c, .slice (some ⟨g, 0, none⟩) l.length l.length, .int .i64 x] w fun e w' => e = .returned (.bool false) ∧ w' = w := by
  have GP := hide' (fun x => Place_is g l x w h)
  have GO := hide' (Open_is g l x hx w h)
  have HA := hide' (And.intro hA hlo)
  have hn := hA.1
  have HNO := hide' hno
  clear hA hlo h hno
  obtain ⟨M, hM⟩ : ∃ M, l.length = M := ⟨_, rfl⟩
  rw [hM] at GP GO ⊢
  clear hM
  go_enter Try.func40, Try.ntmps40
  go_wp2_with fail
  go_loopw [7, 8] (fun vh vi wr => ∃ (k : Nat) (s : Bool), k ≤ n ∧ vi = .int .i64 k ∧ vh = .bool s ∧ (∀ i, i < k → f i = x ∨ 0 ≤ plV l (-(f i))) ∧ wr = w) (fun _ vi _ => n - (intOf vi).toNat)
  case atStart => exact ⟨0, false, Nat.zero_le _, rfl, rfl, fun i hi => absurd hi (by omega), rfl⟩
  case round =>
    obtain ⟨k, s, hk, rfl, rfl, hb, rfl⟩ := hrel
    have HB := hide' hb
    clear hb
    by_cases hlt : k < n
    · skip
      obtain ⟨bb, off, rfl, hcell⟩ := HA.out.1.2.2 (by omega)
      have ck := hcell k hlt
      have i1 : (k : Int) < (n : Int) := by omega
      have i0 : (0 : Int) ≤ (k : Int) := by omega
      clear hcell
      have hlo := HA.out.2 k hlt
      have hhi := (HA.out.1.2.1 k hlt).2
      obtain ⟨y, hy⟩ : ∃ y, f k = y := ⟨_, rfl⟩
      rw [hy] at ck hlo hhi
      have HY := hide' hy
      clear hy
      have hw9 : IntKind.i64.wrap (-y) = -y := by rw [IntKind.wrap_i64]; omega
      have hw8 : IntKind.i64.wrap (0 - y) = -y := by rw [IntKind.wrap_i64]; omega
      by_cases hyx : y = x
      · have HN := hide' (show ∀ i, i < k + 1 → f i = x ∨ 0 ≤ plV l (-(f i)) from fun i hi => by rcases Nat.lt_or_ge i k with e | e; exact HB.out i e; (obtain rfl : i = k := by omega); left; rw [HY.out]; exact hyx)
        subst hyx
        clear HB
        go_wp2
        go_roundw
        case rel => exact ⟨k + 1, true, by omega, by go_num, rfl, HN.out, by first | rfl | trivial⟩
        case measure => simp only [intOf]; omega
      · have hb9 : (y == x) = false := by simp [hyx]
        have hyx' := hide' hyx
        clear hyx
        have GP2 := hide' (GP.out (-y))
        obtain ⟨t, ht⟩ : ∃ t, plV l (-y) = t := ⟨_, rfl⟩
        rw [ht] at GP2
        have HT := hide' ht
        clear ht
        by_cases htn : t < 0
        · go_wp2_with fail
          refine GP2.out.mono ?_
          rintro e w1 ⟨rfl, hw1⟩
          rw [hw1]
          clear hw1
          go_wp2
          go_ret
          exact ⟨rfl, rfl⟩
        · have HN := hide' (show ∀ i, i < k + 1 → f i = x ∨ 0 ≤ plV l (-(f i)) from fun i hi => by rcases Nat.lt_or_ge i k with e | e; exact HB.out i e; (obtain rfl : i = k := by omega); right; rw [HY.out, HT.out]; omega)
          clear HB
          go_wp2_with fail
          refine GP2.out.mono ?_
          rintro e w1 ⟨rfl, hw1⟩
          rw [hw1]
          clear hw1
          go_wp2
          go_roundw
          case rel => exact ⟨k + 1, s, by omega, by go_num, rfl, HN.out, by first | rfl | trivial⟩
          case measure => simp only [intOf]; omega
    · obtain rfl : k = n := by omega
      have i1 : ¬ (k : Int) < (k : Int) := by omega
      have hno := HNO.out.resolve_left (fun ⟨i, hi, h1, h2⟩ => by rcases HB.out i hi with e | e; exact h1 e; omega)
      rw [hno] at GO
      replace hno := hide' hno
      clear HB
      cases s
      · go_wp2
        go_ret
        exact ⟨rfl, rfl⟩
      · go_wp2_with fail
        refine GO.out.mono ?_
        rintro e w1 ⟨rfl, hw1⟩
        rw [hw1]
        clear hw1
        go_wp2
        go_ret
        exact ⟨rfl, rfl⟩
end Go.Proofs.Ytfodejhipnmgnaa
