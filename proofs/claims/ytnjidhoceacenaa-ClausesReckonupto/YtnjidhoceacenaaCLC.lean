/-
  clauses: rows of literals of a call's own; the reference's without, Norm, Resolve.
-/
import Derived.Test.YtnjidhoceacenaaCLB
import Derived.RegionTactic
import Derived.ChangeAlike
import Derived.BigRegion
import Derived.Laws.AppendOwnNone
namespace Go.Proofs.Ytnjidhoceacenaa
open Go.RowKit
set_option linter.unusedVariables false
set_option linter.unusedSimpArgs false
theorem own_below {w w' : World} {base : Nat} {e : TypeId} {size : Nat} {v : Value} {n : Nat} {xs : List Value} (h : w.ownsRow base e size v n xs) (hb : Below w.heap.size w w') : w'.ownsRow base e size v n xs := by
  refine ⟨h.1, ?_⟩
  rcases h.2 with h0 | ⟨g, cap, cur, hv, hg, hc, rest⟩
  · exact Or.inl h0
  · refine Or.inr ⟨g, cap, cur, hv, hg, ?_, rest⟩
    rw [hb.block g (Array.getElem?_eq_some_iff.1 hc).1]
    exact hc
theorem below_grown {base : Nat} {w w' : World} {row : Option Nat} (hb : base ≤ w.heap.size) (hrow : ∀ k, row = some k → base ≤ k) (hg : w.grownBy w' row) : Below base w w' :=
  ⟨hg.os, hg.tape, hg.output, hg.size, fun k hk => hg.block k (by omega) (fun e => by have := hrow k e.symm; omega)⟩
/-- literals in a row -/
def iv (zs : List Int) : List Value := zs.map (Value.int .i64)
theorem iv_length (zs : List Int) : (iv zs).length = zs.length := List.length_map _
theorem iv_append (zs ys : List Int) : iv (zs ++ ys) = iv zs ++ iv ys := List.map_append
theorem iv_at {zs : List Int} {i : Nat} {z : Int} (h : zs[i]? = some z) : (iv zs)[i]? = some (.int .i64 z) := by unfold iv; rw [List.getElem?_map, h]; rfl
theorem iv_set (zs : List Int) (i : Nat) (z : Int) : (iv zs).set i (.int .i64 z) = iv (zs.set i z) := by unfold iv; rw [List.map_set]
theorem iv_one (zs : List Int) : ∀ u ∈ iv zs, u.oneCell' = true := fun u hu => by
  obtain ⟨z, _, rfl⟩ := List.mem_map.1 hu
  simp [Value.oneCell']
/-- all are int64 -/
def okL (zs : List Int) : Prop := ∀ z ∈ zs, -9223372036854775808 ≤ z ∧ z ≤ 9223372036854775807
theorem own_lits {w : World} {base : Nat} {e : TypeId} {v : Value} {zs : List Int} (h : w.ownsRow base e 1 v zs.length (iv zs)) (ho : okL zs) : ∃ a cap, v = .slice a zs.length cap ∧ zs.length ≤ cap ∧ LitsAt w a zs.length (fun i => zs.getD i 0) := by
  have hb : ∀ i, i < zs.length → -9223372036854775808 ≤ zs.getD i 0 ∧ zs.getD i 0 ≤ 9223372036854775807 := fun i hi => by
    have e : zs.getD i 0 = zs[i] := by simp [List.getD, List.getElem?_eq_getElem hi]
    rw [e]
    exact ho _ (List.getElem_mem _)
  rcases h.2 with ⟨rfl, h0⟩ | ⟨g, cap, cur, rfl, hb', hg, hc, hm, _, _⟩
  · exact ⟨none, 0, by rw [h0], by omega, by omega, hb, fun hn => absurd hn (by omega)⟩
  · unfold maxLen at hm
    refine ⟨_, cap, rfl, hc, by omega, hb, fun hn => ⟨g, 0, rfl, fun i hi => ?_⟩⟩
    have k1 := h.cellAt i (by omega)
    rw [iv_at (z := zs.getD i 0) (by simp [List.getD, List.getElem?_eq_getElem hi])] at k1
    rw [Nat.zero_add]
    exact k1
/-- a clause that a call made -/
def Own (w w' : World) (v : Value) (s : List Int) : Prop := w'.ownsRow w.heap.size 3 1 v s.length (iv s) ∧ Below w.heap.size w w'
theorem Own.later {w w1 w2 : World} {v : Value} {s : List Int} (h : Own w w1 v s) (hb : Below w1.heap.size w1 w2) : Own w w2 v s := ⟨own_below h.1 hb, h.2.trans (hb.mono h.2.size)⟩
theorem info_i : (Try.prog.info? 3).bind (fun i => i.zero.map fun z => (z, i.size, i.bytes)) = some (.int .i64 0, 1, 8) := by kernel_rfl
theorem info_parts {P : Program} {e : TypeId} {z : Value} {s b : Nat} (h : (P.info? e).bind (fun i => i.zero.map fun z => (z, i.size, i.bytes)) = some (z, s, b)) : ∃ i, P.info? e = some i ∧ i.zero = some z ∧ i.size = s ∧ i.bytes = b := by
  cases hi : P.info? e with
  | none => rw [hi] at h; cases h
  | some i =>
    rw [hi] at h
    cases hz : i.zero with
    | none => simp [hz] at h
    | some z' =>
      simp [hz] at h
      exact ⟨i, rfl, by rw [hz, h.1], h.2.1, h.2.2⟩
/-- a list without a literal -/
def woL (x : Int) (l : List Int) : List Int := l.filter (fun y => decide (y ≠ x))
theorem lst_filter (g : Nat → Int) (n : Nat) (p : Int → Bool) : (lst g (n + 1)).filter p = (lst g n).filter p ++ (if p (g n) then [g n] else []) := by
  rw [lst_succ, List.filter_append]
  by_cases h : p (g n) <;> simp [h]
theorem filt_le (g : Nat → Int) (n : Nat) (p : Int → Bool) : ((lst g n).filter p).length ≤ n := by
  have := List.length_filter_le p (lst g n)
  rwa [lst_length] at this
set_option maxHeartbeats 2000000 in
set_option maxRecDepth 100000 in
theorem rWithout_is (a : Option Addr) (n c : Nat) (g : Nat → Int) (x : Int) (w : World) (h : LitsAt w a n g) (hn : n ≤ 4194304) :
    Calls Try.prog 20 #[.slice a n c, .int .i64 x] w fun e w' => ∃ v, e = .returned v ∧ Own w w' v (woL x (lst g n)) := by
  obtain ⟨i0, hi0, hz0, hz1, hz2⟩ := info_parts info_i
  have HL := hide' h
  clear h
  go_enter Try.func20, Try.ntmps20
  go_wp2
  go_loopw [5, 6] (fun vo vi wr => ∃ k : Nat, k ≤ n ∧ vi = .int .i64 k ∧ Own w wr vo (woL x (lst g k))) (fun _ vi _ => n - (intOf vi).toNat)
  case atStart => exact ⟨0, Nat.zero_le _, rfl, World.ownsRow_nil _ _ _ _, Below.refl _ _⟩
  case round =>
    obtain ⟨k, hk, rfl, hO, hB⟩ := hrel
    by_cases hlt : k < n
    · obtain ⟨b, off, rfl, hcb⟩ := HL.out.2.2 (by omega)
      have hck := below_cell hB (hcb k hlt)
      clear hcb
      have hki : ((k : Int) < (n : Int)) := by omega
      have e9 : woL x (lst g (k + 1)) = woL x (lst g k) ++ _ := lst_filter g k (fun y => decide (y ≠ x))
      have hm9 : (woL x (lst g k)).length ≤ k := filt_le g k (fun y => decide (y ≠ x))
      obtain ⟨y, hy⟩ : ∃ y, g k = y := ⟨_, rfl⟩
      rw [hy] at hck e9
      obtain ⟨s, hs⟩ : ∃ s, woL x (lst g k) = s := ⟨_, rfl⟩
      rw [hs] at hO e9 hm9
      clear hs hy
      by_cases e : y = x
      · rw [if_neg (by simp [e]), List.append_nil] at e9
        have e1 : (y != x) = false := by simp [e]
        clear e
        have HN := hide' e9
        clear e9
        go_wp2
        go_roundw
        case rel => exact ⟨k + 1, by omega, by go_simp, by rw [HN.out]; exact ⟨hO, hB⟩⟩
        case measure => simp only [intOf]; omega
      · rw [if_pos (by simp [e])] at e9
        have e1 : (y != x) = true := by simp [e]
        clear e
        have HN := hide' e9
        clear e9
        obtain ⟨m, hm⟩ : ∃ m, s.length = m := ⟨_, rfl⟩
        rw [hm] at hO hm9
        have HM := hide' hm
        clear hm
        obtain ⟨wB, hwB⟩ : ∃ wB, wr.alloc (.cells #[.int .i64 y] 3) = wB := ⟨_, rfl⟩
        have hnew := heap_alloc_new wr (.cells #[.int .i64 y] 3)
        have b3 := below_alloc (w := wr) (.cells #[.int .i64 y] 3)
        rw [hwB] at hnew b3
        have hO3 := own_below hO b3
        have s3 := b3.size
        have s4 := hB.size
        have hbB : w.heap.size ≤ wB.heap.size := by omega
        have hbl : (m + 1) * 8 ≤ 140737488355328 := by omega
        have hrow := fun k hk => (hO.lt k hk)
        go_wp2_with (at_builtin; (try rw [hwB]); refine wpList_append_lies _ (by rfl) _ _ _ (by rfl) w.heap.size 3 i0 _ 1 8 Try.underlying23 hi0 hz0 hz1 hz2 rfl (by omega) _ m (iv s) (by rfl) hO3 ⟨wr.heap.size, 0, none⟩ 1 1 [.int .i64 y] (by rfl) (by rfl) (World.news_of_block (cs := #[.int .i64 y]) (t := 3) (fr := (0, 0)) hnew) (by simp [Value.oneCell']) (by omega) (by simp only [maxLen]; omega) hbl hbB wB.heap.size rfl ?_)
        intro gb cap w9 hown4 hgrow hat hlt4
        have hB3 := hB.trans (b3.mono hB.size)
        have hB9 := hB3.trans (below_grown hB3.size (fun k hk => (hrow k hk).1) hgrow)
        have hgb : w.heap.size ≤ gb := by rcases hat with h | h; (exact (hrow _ h).1); omega
        clear hgrow hat hnew b3 hO3 hB3 hrow s3 hbB hbl hO hB
        have I1 := hide' (show Own w w9 (.slice (some ⟨gb, 0, none⟩) (m + 1) cap) (s ++ [y]) from ⟨by rw [List.length_append, HM.out, iv_append]; exact hown4, hB9⟩)
        clear hown4 hB9
        go_wp2
        go_roundw
        case rel => exact ⟨k + 1, by omega, by go_simp, by rw [HN.out]; exact I1.out⟩
        case measure => simp only [intOf]; omega
    · obtain rfl : k = n := by omega
      have hki : ¬ ((k : Int) < (k : Int)) := by omega
      have I1 := hide' (show Own w wr _ _ from ⟨hO, hB⟩)
      clear hO
      go_wp2
      go_ret
      exact ⟨u5, rfl, I1.out⟩
set_option maxHeartbeats 2000000 in
set_option maxRecDepth 100000 in
theorem rNorm_no (a : Option Addr) (n c : Nat) (g : Nat → Int) (w : World) (h : LitsAt w a n g) (hl : allN isLit g n = false) :
    Calls Try.prog 5 #[.slice a n c] w fun e w' => e = .returned (.tuple #[.slice none 0 0, .bool false, .int .i64 180]) ∧ Below w.heap.size w w' := by
  have G1 := hide' (Literals_is a n c g w h)
  rw [hl] at G1
  clear h hl
  go_enter Try.func5, Try.ntmps5
  go_wp2_with fail
  refine G1.out.mono ?_
  rintro e w1 ⟨rfl, b1⟩
  go_wp2
  refine bodyPost_ret (v := .tuple #[.slice none 0 0, .bool false, .int .i64 180]) (by rw [results_ttt rfl]; rfl) rfl ?_
  exact ⟨rfl, b1⟩
theorem nrm_in {g : Nat → Int} {k : Nat} {s : List Int} (h : Nrm (lst g k) s) (hx : g k ∈ s) : Nrm (lst g (k + 1)) s := by
  refine h.congr fun y => ?_
  rw [lst_succ, List.mem_append, List.mem_singleton]
  constructor
  · exact Or.inl
  · rintro (h1 | rfl)
    · exact h1
    · exact (h.2 _).1 hx
theorem hasB_in {g : Nat → Int} {k : Nat} (hx : g k ∈ lst g k) : hasB (lst g (k + 1)) ↔ hasB (lst g k) := by
  refine hasB_congr fun y => ?_
  rw [lst_succ, List.mem_append, List.mem_singleton]
  constructor
  · rintro (h1 | rfl)
    · exact h1
    · exact hx
  · exact Or.inl
theorem hasB_out {g : Nat → Int} {k : Nat} (h0 : g k ≠ 0) : hasB (lst g (k + 1)) ↔ (hasB (lst g k) ∨ -g k ∈ lst g k) := by
  unfold hasB
  simp only [lst_succ, List.mem_append, List.mem_singleton]
  constructor
  · rintro ⟨x, h1 | rfl, h2 | h2⟩
    · exact Or.inl ⟨x, h1, h2⟩
    · right; rw [← h2, Int.neg_neg]; exact h1
    · exact Or.inr h2
    · omega
  · rintro (⟨x, h1, h2⟩ | h)
    · exact ⟨x, Or.inl h1, Or.inl h2⟩
    · exact ⟨g k, Or.inr rfl, Or.inl h⟩
theorem nrm_put {g : Nat → Int} {k : Nat} {s B C : List Int} {x : Int} (h : Nrm (lst g k) s) (hs : s = B ++ C) (hx : g k = x) (hC : ∀ y ∈ C, ahd x y) (hB : ∀ y ∈ B, ahd y x) : Nrm (lst g (k + 1)) (B ++ x :: C) := by
  subst hs
  refine ⟨pw_mid h.1 hC hB, fun y => ?_⟩
  rw [lst_succ, hx]
  have h9 := h.2 y
  simp only [List.mem_append, List.mem_cons, List.not_mem_nil, or_false] at h9 ⊢
  rw [← h9]
  constructor
  · rintro (h1 | rfl | h1)
    · exact Or.inl (Or.inl h1)
    · exact Or.inr rfl
    · exact Or.inl (Or.inr h1)
  · rintro ((h1 | h1) | rfl)
    · exact Or.inl h1
    · exact Or.inr (Or.inr h1)
    · exact Or.inr (Or.inl rfl)
theorem nrm_lits {g : Nat → Int} {k n : Nat} {s : List Int} (h : Nrm (lst g k) s) (hk : k ≤ n) (hl : ∀ i, i < n → isLit (g i) = true) : ∀ y ∈ s, isLit y = true := fun y hy => by
  obtain ⟨i, hi, e⟩ := mem_lst.1 ((h.2 y).1 hy)
  rw [← e]
  exact hl i (by omega)
theorem nrm_ok {g : Nat → Int} {k n : Nat} {s : List Int} (h : Nrm (lst g k) s) (hk : k ≤ n) (hl : ∀ i, i < n → -9223372036854775808 ≤ g i ∧ g i ≤ 9223372036854775807) : okL s := fun y hy => by
  obtain ⟨i, hi, e⟩ := mem_lst.1 ((h.2 y).1 hy)
  rw [← e]
  exact hl i (by omega)
end Go.Proofs.Ytnjidhoceacenaa
