/-
  analyse: the trail: isFalse, Contains, forces.
-/
import Derived.Test.YtbcbgglhhfdbcabANA
namespace Go.Proofs.Ytbcbgglhhfdbcab
open Go.RowKit
set_option linter.unusedVariables false
set_option linter.unusedSimpArgs false
/-- marks of literals, no atom twice with unlike signs -/
def Dst (M : List Mk) : Prop := (∀ m ∈ M, isLit m.l = true) ∧ ∀ i j, i < M.length → j < M.length → (M.getD i default).l ≠ -(M.getD j default).l
/-- what is known of atoms -/
def plA (M : List Mk) (a : Int) : Int := if a ≤ 0 ∨ 9223372036854775807 < a then 0 else if 0 ≤ plV M a then plV M a + 1 else if 0 ≤ plV M (-a) then -(plV M (-a)) - 1 else 0
/-- is a literal false -/
def flsV (M : List Mk) (x : Int) : Bool := isLit x && decide (0 ≤ plV M (-x))
theorem plV_le (M : List Mk) (x : Int) : -1 ≤ plV M x ∧ plV M x < M.length ∨ plV M x = -1 := by
  rcases plV_spec M x with ⟨h, _⟩ | ⟨m, hm, h, _⟩
  · exact Or.inr h
  · left; omega
theorem plV_none {M : List Mk} {x : Int} (h : ∀ m ∈ M, m.l ≠ x) : plV M x = -1 := by
  rcases plV_spec M x with ⟨h1, _⟩ | ⟨m, hm, h1, h2, _⟩
  · exact h1
  · exact absurd h2 (h _ (getD_mem hm))
theorem Dst.zero {M : List Mk} (h : Dst M) : plV M 0 = -1 := plV_none fun m hm e => by have := h.1 m hm; rw [e] at this; exact absurd this (by decide)
theorem Dst.both {M : List Mk} (h : Dst M) {x : Int} (h1 : 0 ≤ plV M x) (h2 : 0 ≤ plV M (-x)) : False := by
  rcases plV_spec M x with ⟨h3, _⟩ | ⟨m, hm, _, h3, _⟩
  · omega
  rcases plV_spec M (-x) with ⟨h4, _⟩ | ⟨k, hk, _, h4, _⟩
  · omega
  exact h.2 m k hm hk (by rw [h3, h4]; omega)
theorem of_neg {M : List Mk} (h : Dst M) {x : Int} (h1 : -9223372036854775808 < x) (h2 : x ≤ 9223372036854775807) (hp : 0 ≤ plV M (-x)) : ofF (plA M) x = -(plV M (-x)) - 1 := by
  have h0 : x ≠ 0 := fun e => by rw [e] at hp; have := h.zero; rw [show (-0 : Int) = 0 from rfl] at hp; omega
  unfold ofF
  by_cases q : x < 0
  · rw [if_pos q]; unfold plA; rw [if_neg (by omega), if_pos hp]; omega
  · rw [if_neg q]; unfold plA; rw [if_neg (by omega), if_neg (fun q => h.both q hp), if_pos hp]
theorem of_pos {M : List Mk} (h : Dst M) {x : Int} (h1 : -9223372036854775808 < x) (h2 : x ≤ 9223372036854775807) (hp : 0 ≤ plV M x) : ofF (plA M) x = plV M x + 1 := by
  have h0 : x ≠ 0 := fun e => by rw [e] at hp; have := h.zero; omega
  unfold ofF
  by_cases q : x < 0
  · rw [if_pos q]; unfold plA; rw [if_neg (by omega), Int.neg_neg, if_neg (fun q => h.both hp q), if_pos hp]; omega
  · rw [if_neg q]; unfold plA; rw [if_neg (by omega), if_pos hp]
theorem of_none {M : List Mk} {x : Int} (h1 : plV M x < 0) (h2 : plV M (-x) < 0) : ofF (plA M) x = 0 := by
  unfold ofF
  by_cases q : x < 0
  · rw [if_pos q]; unfold plA; rw [Int.neg_neg]; split; rfl; rw [if_neg (by omega), if_neg (by omega)]; rfl
  · rw [if_neg q]; unfold plA; split; rfl; rw [if_neg (by omega), if_neg (by omega)]
theorem of_false {M : List Mk} (h : Dst M) {x : Int} (h1 : -9223372036854775808 < x) (h2 : x ≤ 9223372036854775807) : decide (ofF (plA M) x < 0) = flsV M x := by
  unfold flsV
  rw [Bool.eq_iff_iff]
  simp only [decide_eq_true_eq, Bool.and_eq_true]
  rw [isLit_iff]
  by_cases q : 0 ≤ plV M (-x)
  · rw [of_neg h h1 h2 q]
    have h0 : x ≠ 0 := fun e => by rw [e] at q; have := h.zero; rw [show (-0 : Int) = 0 from rfl] at q; omega
    exact ⟨fun _ => ⟨⟨h0, by omega⟩, q⟩, fun _ => by omega⟩
  · by_cases q2 : 0 ≤ plV M x
    · rw [of_pos h h1 h2 q2]; exact ⟨fun e => by omega, fun e => absurd e.2 q⟩
    · rw [of_none (by omega) (by omega)]; exact ⟨fun e => by omega, fun e => absurd e.2 q⟩
theorem plA_zero (M : List Mk) : ∀ a, a ≤ 0 → plA M a = 0 := fun a h => by unfold plA; rw [if_pos (Or.inl h)]
theorem plA_top (M : List Mk) : ∀ a, 9223372036854775807 < a → plA M a = 0 := fun a h => by unfold plA; rw [if_pos (Or.inr h)]
theorem plV_snoc (M : List Mk) (m : Mk) (x : Int) : plV (M ++ [m]) x = if 0 ≤ plV M x then plV M x else if m.l = x then (M.length : Int) else -1 := by
  have hgd : ∀ j, j < M.length → ((M ++ [m]).getD j default) = M.getD j default := fun j hj => by simp [List.getD, List.getElem?_append_left hj]
  have hgl : ((M ++ [m]).getD M.length default) = m := by simp [List.getD]
  have hl : (M ++ [m]).length = M.length + 1 := by simp
  rcases plV_spec M x with ⟨h1, h2⟩ | ⟨k, hk, h1, h2, h3⟩
  · rw [if_neg (by omega)]
    by_cases e : m.l = x
    · rw [if_pos e]
      unfold plV
      rw [hl]
      exact fstN_at (p := fun j => decide (((M ++ [m]).getD j default).l = x)) (by show decide (((M ++ [m]).getD M.length default).l = x) = true; rw [hgl]; exact decide_eq_true e) (fun i hi => decide_eq_false (by rw [hgd i hi]; exact h2 i hi)) (by omega)
    · rw [if_neg e]
      unfold plV
      rw [hl]
      exact fstN_none fun i hi => decide_eq_false (by
        by_cases q : i < M.length
        · rw [hgd i q]; exact h2 i q
        · rw [show i = M.length by omega, hgl]; exact e)
  · rw [if_pos (by omega), h1]
    unfold plV
    rw [hl]
    exact fstN_at (p := fun j => decide (((M ++ [m]).getD j default).l = x)) (by show decide (((M ++ [m]).getD k default).l = x) = true; rw [hgd k hk]; exact decide_eq_true h2) (fun i hi => decide_eq_false (by rw [hgd i (by omega)]; exact h3 i hi)) (by omega)
theorem plA_snoc {M : List Mk} {m : Mk} (hl : isLit m.l = true) (h64 : i64 m.l) (h1 : plV M m.l < 0) (h2 : plV M (-m.l) < 0) : plA (M ++ [m]) = pfn (plA M) m.l (M.length + 1) := by
  have hl := isLit_iff.1 hl
  unfold i64 at h64
  funext a
  unfold pfn
  have hlen : (0 : Int) ≤ (M.length : Int) := by omega
  have hp1 : plV (M ++ [m]) m.l = (M.length : Int) := by rw [plV_snoc, if_neg (by omega), if_pos rfl]
  have hp2 : plV (M ++ [m]) (-m.l) = -1 := by rw [plV_snoc, if_neg (by omega), if_neg (by omega)]
  by_cases e : a = atm m.l
  · rw [if_pos e]
    by_cases q : m.l < 0
    · rw [if_pos q]
      have e2 : a = -m.l := by rw [e]; unfold atm; rw [if_pos q]
      subst e2
      unfold plA
      rw [if_neg (by omega), Int.neg_neg, hp1, hp2, if_neg (by omega), if_pos hlen]
      omega
    · rw [if_neg q]
      have e2 : a = m.l := by rw [e]; unfold atm; rw [if_neg q]
      subst e2
      unfold plA
      rw [if_neg (by omega), hp1, if_pos hlen]
      omega
  · rw [if_neg e]
    unfold plA
    by_cases q : a ≤ 0 ∨ 9223372036854775807 < a
    · rw [if_pos q, if_pos q]
    · rw [if_neg q, if_neg q]
      have e1 : m.l ≠ a := fun e1 => e (by unfold atm; split <;> omega)
      have e2 : m.l ≠ -a := fun e2 => e (by unfold atm; split <;> omega)
      rw [plV_snoc, plV_snoc, if_neg e1, if_neg e2]
      by_cases r : 0 ≤ plV M a
      · rw [if_pos r, if_pos r, if_pos r]
      · rw [if_neg r, if_neg r]
        by_cases r2 : 0 ≤ plV M (-a)
        · rw [if_pos r2, if_neg (by omega)]
        · rw [if_neg r2, if_neg (by omega), if_neg (by omega), if_neg r2]
theorem ChkK.dst {C : List (List Int)} {M : List Mk} {k : Nat} (h : ChkK C M k) (hk : k ≤ M.length) : Dst (M.take k) := by
  have hl : (M.take k).length = k := by rw [List.length_take]; omega
  refine ⟨fun m hm => ?_, fun i j hi hj e => ?_⟩
  · obtain ⟨i, hi, rfl⟩ := List.mem_iff_getElem.1 hm
    have h1 := (h i (by omega)).lit
    rw [List.getElem_take]
    simpa [List.getD, List.getElem?_eq_getElem (show i < M.length by omega)] using h1
  · rw [hl] at hi hj
    rw [getD_take_lt _ _ hi, getD_take_lt _ _ hj] at e
    have hne : ∀ i j, i < j → j < k → (M.getD i default).l = -(M.getD j default).l → False := fun i j hij hjk e => by
      have h2 := (h j hjk).neg
      rw [plV_neg] at h2
      refine h2 i (by rw [List.length_take]; omega) ?_
      rw [getD_take_lt _ _ hij, e]
    rcases Nat.lt_trichotomy i j with q | q | q
    · exact hne i j q hj e
    · subst q
      have h1 := isLit_iff.1 (h i hi).lit
      omega
    · exact hne j i q hi (by omega)
/-- the trail in memory -/
structure TrR (w : World) (base b G N : Nat) (va vm : Value) (fn : Int → Int) : Prop where
  c0 : w.cell? ⟨b, 0, none⟩ = some va
  c1 : w.cell? ⟨b, 1, none⟩ = some vm
  pl : PlR w base b G N fn
  bl : ∃ cur, w.heap[b]? = some (.cells cur 57 (0, 0))
theorem TrR.later {w w' : World} {base b G N : Nat} {va vm : Value} {fn : Int → Int} (h : TrR w base b G N va vm fn) (hb : Below w.heap.size w w') : TrR w' base b G N va vm fn := ⟨below_cell hb h.c0, below_cell hb h.c1, h.pl.later hb, by obtain ⟨cur, h9⟩ := h.bl; exact ⟨cur, (hb.block b h.pl.row.lt).trans h9⟩⟩
set_option maxHeartbeats 2000000 in
set_option maxRecDepth 100000 in
theorem isFalse_is (base b G N : Nat) (va vm : Value) (M : List Mk) (x : Int) (hx : i64 x) (w : World) (h : TrR w base b G N va vm (plA M)) (hd : Dst M)  :
    Calls Try.prog 68 #[.pointer (some ⟨b, 0, none⟩), .int .i64 x] w fun e w' => e = .returned (.bool (flsV M x)) ∧ w' = w := by
  unfold i64 at hx
  by_cases hm : x = -9223372036854775808
  · have GO := hide' (of_min base b G N (plA M) w h.pl)
    subst hm
    have e : flsV M (-9223372036854775808) = false := by unfold flsV; rfl
    rw [e]
    clear h hd e
    go_enter Try.func68, Try.ntmps68
    go_wp2_with fail
    refine (GO.out).mono ?_
    rintro e w1 ⟨rfl, hw9⟩
    rw [hw9]
    clear hw9
    go_wp2
    go_ret
    exact ⟨rfl, rfl⟩
  · have GO := hide' (of_is base b G N (plA M) x (by omega) hx.2 w h.pl)
    have e := of_false hd (x := x) (by omega) hx.2
    rw [← e]
    obtain ⟨z, hz⟩ : ∃ z, ofF (plA M) x = z := ⟨_, rfl⟩
    rw [hz] at GO ⊢
    clear h hd e hz
    go_enter Try.func68, Try.ntmps68
    go_wp2_with fail
    refine (GO.out).mono ?_
    rintro e w1 ⟨rfl, hw9⟩
    rw [hw9]
    clear hw9
    go_wp2
    go_ret
    exact ⟨rfl, rfl⟩
set_option maxHeartbeats 2000000 in
set_option maxRecDepth 100000 in
theorem index_is (a : Option Addr) (c : Nat) (l : List Int) (x : Int) (w : World) (h : LsAt w a l) :
    Calls Try.prog 89 #[.slice a l.length c, .int .i64 x] w fun e w' => ∃ z, e = .returned (.int .i64 z) ∧ w' = w ∧ decide (0 ≤ z) = hasL l x := by
  obtain ⟨n, hn⟩ : ∃ n, l.length = n := ⟨_, rfl⟩
  have hM := h.1
  have HA := hide' h
  rw [hn] at hM ⊢
  replace hn := hide' hn
  clear h
  go_enter Try.func89, Try.ntmps89
  go_wp2_with fail
  go_loopw [8] (fun vi wr => ∃ k : Nat, k ≤ n ∧ vi = .int .i64 k ∧ x ∉ l.take k ∧ wr = w) (fun vi _ => n - (intOf vi).toNat)
  case atStart => exact ⟨0, Nat.zero_le _, rfl, by simp, rfl⟩
  case round =>
    obtain ⟨k, hk, rfl, hb, rfl⟩ := hrel
    have HB := hide' hb
    clear hb
    by_cases hlt : k < n
    · skip
      obtain ⟨bb, off, rfl, ck, hlo, hhi⟩ := HA.out.el hn.out hlt
      obtain ⟨y, hy⟩ : ∃ y, l.getD k 0 = y := ⟨_, rfl⟩
      rw [hy] at ck hlo hhi
      have HY := hide' hy
      clear hy
      have i1 : (k : Int) < (n : Int) := by omega
      have i0 : (0 : Int) ≤ (k : Int) := by omega
      by_cases hyx : x = y
      · have HF := hide' (show decide (0 ≤ (k : Int)) = hasL l x from by rw [hasL_iff.2 (by rw [hyx, ← HY.out]; exact getD_mem (by have := hn.out; omega))]; simp)
        subst hyx
        clear HB
        go_wp2
        go_ret
        exact ⟨_, rfl, rfl, HF.out⟩
      · have HN := hide' (show x ∉ l.take (k + 1) from by rw [take_snoc l 0 hn.out hlt, HY.out, List.mem_append, List.mem_singleton]; exact fun e => e.elim HB.out (fun e => hyx e))
        have hb9 : (x == y) = false := by simp [hyx]
        have hyx' := hide' hyx
        clear hyx HB
        go_wp2
        go_roundw
        case rel => exact ⟨k + 1, by omega, by go_num, HN.out, by first | rfl | trivial⟩
        case measure => simp only [intOf]; omega
    · obtain rfl : k = n := by omega
      have i1 : ¬ (k : Int) < (k : Int) := by omega
      have HF := hide' (show decide (0 ≤ (-1 : Int)) = hasL l x from by rw [show hasL l x = false from by rw [Bool.eq_false_iff]; exact fun e => HB.out (by rw [take_all l hn.out]; exact hasL_iff.1 e)]; decide)
      clear HB
      go_wp2
      go_ret
      exact ⟨_, rfl, rfl, HF.out⟩
set_option maxHeartbeats 2000000 in
set_option maxRecDepth 100000 in
theorem contains_is (a : Option Addr) (c : Nat) (l : List Int) (x : Int) (w : World) (h : LsAt w a l) :
    Calls Try.prog 84 #[.slice a l.length c, .int .i64 x] w fun e w' => e = .returned (.bool (hasL l x)) ∧ w' = w := by
  have GI := hide' (index_is a c l x w h)
  generalize l.length = n at GI ⊢
  generalize hasL l x = z9 at GI ⊢
  clear h
  go_enter Try.func84, Try.ntmps84
  go_wp2_with fail
  refine GI.out.mono ?_
  rintro e w1 ⟨z, rfl, rfl, hz⟩
  have HZ := hide' hz
  clear hz
  go_wp2
  go_ret
  exact ⟨by rw [← HZ.out]; try rfl, rfl⟩
set_option maxHeartbeats 2000000 in
set_option maxRecDepth 100000 in
theorem forces_is (base b G N : Nat) (va vm : Value) (M : List Mk) (a : Option Addr) (cc : Nat) (c : List Int) (x : Int) (w : World) (h : TrR w base b G N va vm (plA M)) (hd : Dst M) (hc : LsAt w a c) (z : Bool) (hz : z = true ↔ forc M c x) :
    Calls Try.prog 76 #[.pointer (some ⟨b, 0, none⟩), .slice a c.length cc, .int .i64 x] w fun e w' => e = .returned (.bool z) ∧ w' = w := by
  have GF := hide' (fun y hy => isFalse_is base b G N va vm M y hy w h hd)
  have GC := hide' (contains_is a cc c x w hc)
  have HZ := hide' hz
  clear h hd hz
  obtain ⟨n, hn⟩ : ∃ n, c.length = n := ⟨_, rfl⟩
  have hM := hc.1
  have HA := hide' hc
  rw [hn] at hM GC ⊢
  replace hn := hide' hn
  clear hc
  go_enter Try.func76, Try.ntmps76
  go_wp2_with fail
  go_loopw [11] (fun vi wr => ∃ k : Nat, k ≤ n ∧ vi = .int .i64 k ∧ (∀ y ∈ c.take k, y = x ∨ flsV M y = true) ∧ wr = w) (fun vi _ => n - (intOf vi).toNat)
  case atStart => exact ⟨0, Nat.zero_le _, rfl, by simp, rfl⟩
  case round =>
    obtain ⟨k, hk, rfl, hb, rfl⟩ := hrel
    have HB := hide' hb
    clear hb
    by_cases hlt : k < n
    · skip
      obtain ⟨bb, off, rfl, ck, hlo, hhi⟩ := HA.out.el hn.out hlt
      obtain ⟨y, hy⟩ : ∃ y, c.getD k 0 = y := ⟨_, rfl⟩
      rw [hy] at ck hlo hhi
      have HY := hide' hy
      clear hy
      have i1 : (k : Int) < (n : Int) := by omega
      have i0 : (0 : Int) ≤ (k : Int) := by omega
      have HST := hide' (take_snoc c 0 hn.out hlt)
      have GF1 := hide' (GF.out y ⟨hlo, hhi⟩)
      by_cases hyx : y = x
      · skip
        have HN := hide' (show ∀ y ∈ c.take (k + 1), y = x ∨ flsV M y = true from fun q hq => by rw [HST.out, HY.out, List.mem_append, List.mem_singleton] at hq; rcases hq with hq | hq; exact HB.out q hq; subst hq; exact Or.inl hyx)
        clear HB
        have hb9 : (y != x) = false := by simp [hyx]
        clear hyx
        go_wp2
        go_roundw
        case rel => exact ⟨k + 1, by omega, by go_num, HN.out, by first | rfl | trivial⟩
        case measure => simp only [intOf]; omega
      · have hb9 : (y != x) = true := by simp [hyx]
        replace hyx := hide' hyx
        cases hf : flsV M y
        · have HF := hide' (show z = false from by rw [Bool.eq_false_iff]; intro e9; have h8 := (HZ.out.1 e9).2 (c.getD k 0) (getD_mem (by have := hn.out; omega)); rw [HY.out] at h8; rcases h8 with h8 | h8; exact hyx.out h8; unfold flsV at hf; rw [h8.1, decide_eq_true h8.2] at hf; cases hf)
          rw [hf] at GF1
          clear hf HB
          go_wp2_with fail
          refine (GF1.out).mono ?_
          rintro e w1 ⟨rfl, hw9⟩
          rw [hw9]
          clear hw9
          go_wp2
          go_ret
          exact ⟨(by rw [HF.out]; try rfl), rfl⟩
        · skip
          have HN := hide' (show ∀ y ∈ c.take (k + 1), y = x ∨ flsV M y = true from fun q hq => by rw [HST.out, HY.out, List.mem_append, List.mem_singleton] at hq; rcases hq with hq | hq; exact HB.out q hq; subst hq; exact Or.inr hf)
          clear HB
          rw [hf] at GF1
          clear hf
          go_wp2_with fail
          refine (GF1.out).mono ?_
          rintro e w1 ⟨rfl, hw9⟩
          rw [hw9]
          clear hw9
          go_wp2
          go_roundw
          case rel => exact ⟨k + 1, by omega, by go_num, HN.out, by first | rfl | trivial⟩
          case measure => simp only [intOf]; omega
    · obtain rfl : k = n := by omega
      have i1 : ¬ (k : Int) < (k : Int) := by omega
      have HF := hide' (show hasL c x = z from by have hb := HB.out; rw [take_all c hn.out] at hb; rw [Bool.eq_iff_iff, hasL_iff, HZ.out]; exact ⟨fun e => ⟨e, fun y hy => (hb y hy).imp id fun q => by unfold flsV at q; rw [Bool.and_eq_true, decide_eq_true_eq] at q; exact q⟩, fun e => e.1⟩)
      clear HB
      rw [HF.out] at GC
      go_wp2_with fail
      refine (GC.out).mono ?_
      rintro e w1 ⟨rfl, hw9⟩
      rw [hw9]
      clear hw9
      go_wp2
      go_ret
      exact ⟨rfl, rfl⟩
end Go.Proofs.Ytbcbgglhhfdbcab
