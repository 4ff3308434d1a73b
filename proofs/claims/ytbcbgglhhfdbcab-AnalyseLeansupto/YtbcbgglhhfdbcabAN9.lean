/-
  analyse: where each atom has its mark: places in memory; atom, of, put, newPlaces.
-/
import Derived.Test.YtbcbgglhhfdbcabAM0
import Derived.Test.YtbcbgglhhfdbcabAN2
import Derived.Deep.QuietTactic
namespace Go.Proofs.Ytbcbgglhhfdbcab
open Go.RowKit
set_option linter.unusedVariables false
set_option linter.unusedSimpArgs false
/-- the map's side of it -/
def ffn (fn : Int → Int) : Int → Option Value := fun a => if fn a = 0 then none else some (.int .i64 (fn a))
/-- the places of atoms in memory, in the cells 2 and 3 of a block -/
structure PlR (w : World) (base b G N : Nat) (fn : Int → Int) : Prop where
  row : Row w b
  low : base ≤ b
  zero : ∀ a, a ≤ 0 → fn a = 0
  top : ∀ a, 9223372036854775807 < a → fn a = 0
  bound : ∀ a, -1048576 ≤ fn a ∧ fn a ≤ 1048576
  mode : (∃ g V, w.cell? ⟨b, 2, none⟩ = some (.slice (some ⟨g, 0, none⟩) (G + 1) (G + 1)) ∧ w.cell? ⟨b, 3, none⟩ = some (.map none) ∧ base ≤ g ∧ g ≠ b ∧ w.heap[g]? = some (.cells (iv V).toArray 3 (0, 0)) ∧ V.length = G + 1 ∧ ∀ a, 0 ≤ a → fn a = V.getD a.toNat 0) ∨
    (∃ m, w.cell? ⟨b, 2, none⟩ = some (.slice none 0 0) ∧ w.cell? ⟨b, 3, none⟩ = some (.map (some m)) ∧ base ≤ m ∧ MapI Try.prog 3 w m N (ffn fn))
theorem PlR.later {w w' : World} {base b G N : Nat} {fn : Int → Int} (h : PlR w base b G N fn) (hb : Below w.heap.size w w') : PlR w' base b G N fn := by
  refine ⟨h.row.below hb h.row.lt, h.low, h.zero, h.top, h.bound, ?_⟩
  rcases h.mode with ⟨g, V, h1, h2, h3, h4, h5, h6⟩ | ⟨m, h1, h2, h3, h4⟩
  · exact Or.inl ⟨g, V, below_cell hb h1, below_cell hb h2, h3, h4, (hb.block g (Array.getElem?_eq_some_iff.1 h5).1).trans h5, h6⟩
  · exact Or.inr ⟨m, below_cell hb h1, below_cell hb h2, h3, h4.later hb⟩
/-- what 'of' tells -/
def ofF (fn : Int → Int) (x : Int) : Int := if x < 0 then -(fn (-x)) else fn x
theorem iv_cell {w : World} {q : Nat} {l : List Int} {t : TypeId} (h : w.heap[q]? = some (.cells (iv l).toArray t (0, 0))) {j : Nat} (hj : j < l.length) : w.cell? ⟨q, j, none⟩ = some (.int .i64 (l.getD j 0)) := by
  rw [cell_of_row w q j _ _ _ h]
  simp only [List.getElem?_toArray]
  exact iv_at (by simp [List.getD, List.getElem?_eq_getElem hj])
set_option maxHeartbeats 2000000 in
set_option maxRecDepth 100000 in
theorem isNone_is (x : Int) (w : World) :
    Calls Try.prog 58 #[.int .i64 x] w fun e w' => e = .returned (.bool (!isLit x)) ∧ w' = w := by
  unfold isLit
  by_cases h0 : x = 0
  · subst h0
    go_enter Try.func58, Try.ntmps58
    go_wp2
    go_ret
    exact ⟨by simp, rfl⟩
  · have e0 : (x == 0) = false := by simp [h0]
    replace h0 := hide' h0
    go_enter Try.func58, Try.ntmps58
    go_wp2
    go_ret
    exact ⟨by have := h0.out; simp [this]; try rfl, rfl⟩
set_option maxHeartbeats 2000000 in
set_option maxRecDepth 100000 in
theorem atom_is (x : Int) (h1 : -9223372036854775808 < x) (h2 : x ≤ 9223372036854775807) (w : World) :
    Calls Try.prog 61 #[.int .i64 x] w fun e w' => e = .returned (.int .i64 (atm x)) ∧ w' = w := by
  unfold atm
  have hw9 := wrap_neg h1 h2
  have hw8 := wrap_neg0 h1 h2
  by_cases h0 : x < 0
  · rw [if_pos h0]
    have e1 : max x (-x) = -x := by omega
    go_enter Try.func61, Try.ntmps61
    go_wp2
    go_ret
    exact ⟨by first | rfl | (simp; omega), rfl⟩
  · rw [if_neg h0]
    have e1 : max x (-x) = x := by omega
    go_enter Try.func61, Try.ntmps61
    go_wp2
    go_ret
    exact ⟨by first | rfl | (simp; omega), rfl⟩
set_option maxHeartbeats 2000000 in
set_option maxRecDepth 100000 in
theorem atom_min (w : World) :
    Calls Try.prog 61 #[.int .i64 (-9223372036854775808)] w fun e w' => e = .returned (.int .i64 (-9223372036854775808)) ∧ w' = w := by
  have hm9 : wrap64 9223372036854775808 = -9223372036854775808 := by unfold wrap64; omega
  go_enter Try.func61, Try.ntmps61
  go_wp2
  go_ret
  exact ⟨by first | rfl | decide | (simp; decide), rfl⟩
set_option maxHeartbeats 2000000 in
set_option maxRecDepth 100000 in
theorem isPlace_is (x : Int) (a : Option Addr) (n c : Nat) (w : World) :
    Calls Try.prog 36 #[.int .i64 x, .slice a n c] w fun e w' => e = .returned (.bool (decide (0 ≤ x) && decide (x < (n : Int)))) ∧ w' = w := by
  by_cases h0 : 0 ≤ x
  · have e0 : decide (0 ≤ x) = true := by simp [h0]
    rw [e0, Bool.true_and]
    go_enter Try.func36, Try.ntmps36
    go_wp2
    go_ret
    exact ⟨by first | rfl | simp, rfl⟩
  · have e0 : decide (0 ≤ x) = false := by simp; omega
    have e1 : decide (x ≥ 0) = false := e0
    rw [e0, Bool.false_and]
    go_enter Try.func36, Try.ntmps36
    go_wp2
    go_ret
    exact ⟨by first | rfl | simp, rfl⟩
set_option maxHeartbeats 2000000 in
set_option maxRecDepth 100000 in
theorem of_is (base b G N : Nat) (fn : Int → Int) (x : Int) (h1 : -9223372036854775808 < x) (h2 : x ≤ 9223372036854775807) (w : World) (h : PlR w base b G N fn) :
    Calls Try.prog 24 #[.pointer (some ⟨b, 2, none⟩), .int .i64 x] w fun e w' => e = .returned (.int .i64 (ofF fn x)) ∧ w' = w := by
  have GA := hide' (atom_is x h1 h2 w)
  have hneq := fun w r => run_neq_map_nil (P := Try.prog) w 53 3 3 r (by kernel_rfl)
  have ha : 0 ≤ atm x ∧ atm x ≤ 9223372036854775807 := by unfold atm; split <;> omega
  have hof : ofF fn x = if x < 0 then -(fn (atm x)) else fn (atm x) := by unfold ofF atm; split <;> rfl
  rw [hof]
  clear hof
  obtain ⟨a, hae⟩ : ∃ a, atm x = a := ⟨_, rfl⟩
  rw [hae] at GA ha ⊢
  clear hae
  obtain ⟨v, hv⟩ : ∃ v, fn a = v := ⟨_, rfl⟩
  have hvb := h.bound a
  have hz := h.zero a
  rw [hv] at hvb hz ⊢
  rcases h.mode with ⟨g, V, c2, c3, _, _, hg, hV, hfv⟩ | ⟨m, c2, c3, _, hM⟩
  · by_cases hz0 : 0 < a
    · by_cases hzG : a < ((G + 1 : Nat) : Int)
      · obtain ⟨k, rfl⟩ : ∃ k : Nat, a = (k : Int) := ⟨a.toNat, by omega⟩
        have ck := iv_cell hg (j := k) (by omega)
        have h9 := hfv k (by omega)
        rw [hv, Int.toNat_natCast] at h9
        rw [← h9] at ck
        clear h9 hfv hV hg h hz
        have hzk : 0 < k := by omega
        have d1 : (k : Int) > 0 := by omega
        have d2 : decide ((k : Int) > 0) = true := decide_eq_true d1
        have d3 : decide (0 < k) = true := decide_eq_true hzk
        have hzG2 : (k : Int) < (G : Int) + 1 := by omega
        by_cases h0 : x < 0
        · rw [if_pos h0]
          go_enter Try.func24, Try.ntmps24
          go_wp2_with fail
          refine GA.out.mono ?_
          rintro e w1 ⟨rfl, rfl⟩
          go_wp2
          go_ret
          exact ⟨rfl, rfl⟩
        · rw [if_neg h0]
          go_enter Try.func24, Try.ntmps24
          go_wp2_with fail
          refine GA.out.mono ?_
          rintro e w1 ⟨rfl, rfl⟩
          go_wp2
          go_ret
          exact ⟨rfl, rfl⟩
      · have hv0 : v = 0 := by have h9 := hfv a (by omega); rw [hv] at h9; rw [h9, List.getD_eq_getElem?_getD, List.getElem?_eq_none (by omega)]; rfl
        subst hv0
        clear hfv hV hg h hz hv
        have d2 : decide (a > 0) = true := decide_eq_true (by omega)
        have d4 : ¬ (a < (G : Int) + 1) := by omega
        have d5 : decide (0 < a) = true := decide_eq_true hz0
        by_cases h0 : x < 0
        · rw [if_pos h0]
          go_enter Try.func24, Try.ntmps24
          go_wp2_with fail
          refine GA.out.mono ?_
          rintro e w1 ⟨rfl, rfl⟩
          go_wp2
          go_ret
          exact ⟨rfl, rfl⟩
        · rw [if_neg h0]
          go_enter Try.func24, Try.ntmps24
          go_wp2_with fail
          refine GA.out.mono ?_
          rintro e w1 ⟨rfl, rfl⟩
          go_wp2
          go_ret
          exact ⟨rfl, rfl⟩
    · have hv0 : v = 0 := hz (by omega)
      subst hv0
      clear hfv hV hg h hz hv
      have d2 : decide (a > 0) = false := decide_eq_false (by omega)
      have d5 : decide (0 < a) = false := decide_eq_false (by omega)
      by_cases h0 : x < 0
      · rw [if_pos h0]
        go_enter Try.func24, Try.ntmps24
        go_wp2_with fail
        refine GA.out.mono ?_
        rintro e w1 ⟨rfl, rfl⟩
        go_wp2
        go_ret
        exact ⟨rfl, rfl⟩
      · rw [if_neg h0]
        go_enter Try.func24, Try.ntmps24
        go_wp2_with fail
        refine GA.out.mono ?_
        rintro e w1 ⟨rfl, rfl⟩
        go_wp2
        go_ret
        exact ⟨rfl, rfl⟩
  · have hk : Try.prog.underlying 3 = some (.int .i64) := by kernel_rfl
    have ht : Try.prog.underlying 53 = some (.map 3 3) := by kernel_rfl
    have hz9 : ∀ w, (zeroValue 3).run Try.prog w = .ok (.int .i64 0) w := fun w => rfl
    have HK := hide' (And.intro hk (And.intro ht (And.intro hz9 hM)))
    clear hk ht hz9 hM
    have hwf := hide' (wfI_of (v := a) (by omega) (by omega))
    by_cases hv0 : v = 0
    · subst hv0; have ho := hide' (show ffn fn a = none from by unfold ffn; rw [hv, if_pos rfl])
      clear h hz hv
      by_cases h0 : x < 0
      · rw [if_pos h0]
        go_enter Try.func24, Try.ntmps24
        go_wp2_with fail
        refine GA.out.mono ?_
        rintro e w1 ⟨rfl, rfl⟩
        go_wp2_with (refine wpList_look _ (by rfl) _ _ _ _ (by rfl) HK.out.1 HK.out.2.1 (HK.out.2.2.1 _) _ _ _ (by rfl) HK.out.2.2.2 a (by rfl) hwf.out _ ho.out ?_)
        go_wp2
        go_ret
        exact ⟨rfl, rfl⟩
      · rw [if_neg h0]
        go_enter Try.func24, Try.ntmps24
        go_wp2_with fail
        refine GA.out.mono ?_
        rintro e w1 ⟨rfl, rfl⟩
        go_wp2_with (refine wpList_look _ (by rfl) _ _ _ _ (by rfl) HK.out.1 HK.out.2.1 (HK.out.2.2.1 _) _ _ _ (by rfl) HK.out.2.2.2 a (by rfl) hwf.out _ ho.out ?_)
        go_wp2
        go_ret
        exact ⟨rfl, rfl⟩
    · have ho := hide' (show ffn fn a = some (.int .i64 v) from by unfold ffn; rw [hv, if_neg hv0])
      clear h hz hv
      by_cases h0 : x < 0
      · rw [if_pos h0]
        go_enter Try.func24, Try.ntmps24
        go_wp2_with fail
        refine GA.out.mono ?_
        rintro e w1 ⟨rfl, rfl⟩
        go_wp2_with (refine wpList_look _ (by rfl) _ _ _ _ (by rfl) HK.out.1 HK.out.2.1 (HK.out.2.2.1 _) _ _ _ (by rfl) HK.out.2.2.2 a (by rfl) hwf.out _ ho.out ?_)
        go_wp2
        go_ret
        exact ⟨rfl, rfl⟩
      · rw [if_neg h0]
        go_enter Try.func24, Try.ntmps24
        go_wp2_with fail
        refine GA.out.mono ?_
        rintro e w1 ⟨rfl, rfl⟩
        go_wp2_with (refine wpList_look _ (by rfl) _ _ _ _ (by rfl) HK.out.1 HK.out.2.1 (HK.out.2.2.1 _) _ _ _ (by rfl) HK.out.2.2.2 a (by rfl) hwf.out _ ho.out ?_)
        go_wp2
        go_ret
        exact ⟨rfl, rfl⟩
set_option maxHeartbeats 2000000 in
set_option maxRecDepth 100000 in
theorem of_min (base b G N : Nat) (fn : Int → Int) (w : World) (h : PlR w base b G N fn) :
    Calls Try.prog 24 #[.pointer (some ⟨b, 2, none⟩), .int .i64 (-9223372036854775808)] w fun e w' => e = .returned (.int .i64 0) ∧ w' = w := by
  have GA := hide' (atom_min w)
  have hneq := fun w r => run_neq_map_nil (P := Try.prog) w 53 3 3 r (by kernel_rfl)
  have hz := h.zero (-9223372036854775808) (by omega)
  rcases h.mode with ⟨g, V, c2, c3, _⟩ | ⟨m, c2, c3, _, hM⟩
  · clear h hz
    go_enter Try.func24, Try.ntmps24
    go_wp2_with fail
    refine GA.out.mono ?_
    rintro e w1 ⟨rfl, rfl⟩
    go_wp2
    go_ret
    exact ⟨rfl, rfl⟩
  · have hk : Try.prog.underlying 3 = some (.int .i64) := by kernel_rfl
    have ht : Try.prog.underlying 53 = some (.map 3 3) := by kernel_rfl
    have hz9 : ∀ w, (zeroValue 3).run Try.prog w = .ok (.int .i64 0) w := fun w => rfl
    have HK := hide' (And.intro hk (And.intro ht (And.intro hz9 hM)))
    clear hk ht hz9 hM
    have hwf := hide' (wfI_of (v := -9223372036854775808) (by omega) (by omega))
    have ho := hide' (show ffn fn (-9223372036854775808) = none from by unfold ffn; rw [hz, if_pos rfl])
    clear h hz
    go_enter Try.func24, Try.ntmps24
    go_wp2_with fail
    refine GA.out.mono ?_
    rintro e w1 ⟨rfl, rfl⟩
    go_wp2_with (refine wpList_look _ (by rfl) _ _ _ _ (by rfl) HK.out.1 HK.out.2.1 (HK.out.2.2.1 _) _ _ _ (by rfl) HK.out.2.2.2 (-9223372036854775808) (by rfl) hwf.out _ ho.out ?_)
    go_wp2
    go_ret
    exact ⟨rfl, rfl⟩
/-- a place told anew -/
def pfn (fn : Int → Int) (x : Int) (p : Nat) : Int → Int := fun a => if a = atm x then (if x < 0 then -(p : Int) else (p : Int)) else fn a
set_option maxHeartbeats 2000000 in
set_option maxRecDepth 100000 in
theorem pput_is (base b G N : Nat) (fn : Int → Int) (x : Int) (h1 : -9223372036854775808 < x) (h2 : x ≤ 9223372036854775807) (hx0 : x ≠ 0) (hxG : atm x ≤ (G : Int)) (hGm : (G : Int) ≤ 9223372036854775807) (p : Nat) (hp : p ≤ 1048576) (hp0 : 0 < p) (hN : N < 4611686018427387904) (w : World) (h : PlR w base b G N fn) :
    Calls Try.prog 60 #[.pointer (some ⟨b, 2, none⟩), .int .i64 x, .int .i64 (p : Int)] w fun e w' => (∃ v, e = .returned v) ∧ PlR w' base b G (N + 1) (pfn fn x p) ∧ Below base w w' ∧ ∀ (y : Nat) (cs : Array Value) (t : TypeId), w.heap[y]? = some (Obj.cells cs t (0, 0)) → t ≠ 3 → w'.heap[y]? = w.heap[y]? := by
  have hneq := fun w r => run_neq_map_nil (P := Try.prog) w 53 3 3 r (by kernel_rfl)
  have ha : 0 < atm x ∧ atm x ≤ 9223372036854775807 := by unfold atm; split <;> omega
  obtain ⟨k, hk⟩ : ∃ k : Nat, atm x = (k : Int) := ⟨(atm x).toNat, by omega⟩
  obtain ⟨v, hv⟩ : ∃ v : Int, (if x < 0 then -(p : Int) else (p : Int)) = v := ⟨_, rfl⟩
  have hvb : -1048576 ≤ v ∧ v ≤ 1048576 ∧ v ≠ 0 := by rw [← hv]; split <;> omega
  have hpf : pfn fn x p = fun a => if a = (k : Int) then v else fn a := by funext a; unfold pfn; rw [hk, hv]
  have hz9 : ∀ a, a ≤ 0 → pfn fn x p a = 0 := fun a h9 => by rw [hpf]; simp only; rw [if_neg (by omega)]; exact h.zero a h9
  have ht9 : ∀ a, 9223372036854775807 < a → pfn fn x p a = 0 := fun a h9 => by rw [hpf]; simp only; rw [if_neg (by omega)]; exact h.top a h9
  have hb9 : ∀ a, -1048576 ≤ pfn fn x p a ∧ pfn fn x p a ≤ 1048576 := fun a => by rw [hpf]; simp only; split; exact ⟨hvb.1, hvb.2.1⟩; exact h.bound a
  have HW := hide' (And.intro hz9 (And.intro ht9 (And.intro hb9 hpf)))
  clear hz9 ht9 hb9 hpf
  have hkG : k < G + 1 := by omega
  have hkI : (k : Int) < ((G + 1 : Nat) : Int) := by omega
  have hkI2 : (k : Int) < (G : Int) + 1 := by omega
  have hw9 := wrap_neg h1 h2
  have hw8 := wrap_neg0 h1 h2
  have hxs : (x < 0 ∧ x = -(k : Int) ∧ v = -(p : Int)) ∨ (¬ x < 0 ∧ x = (k : Int) ∧ v = (p : Int)) := by
    by_cases q : x < 0
    · left; refine ⟨q, ?_, ?_⟩; (unfold atm at hk; rw [if_pos q] at hk; omega); (rw [if_pos q] at hv; exact hv.symm)
    · right; refine ⟨q, ?_, ?_⟩; (unfold atm at hk; rw [if_neg q] at hk; omega); (rw [if_neg q] at hv; exact hv.symm)
  replace hv := hide' hv
  replace hk := hide' hk
  have hrow := h.row
  have hlow := h.low
  rcases h.mode with ⟨g, V, c2, c3, hgb, hgne, hg, hV, hfv⟩ | ⟨m, c2, c3, hmb, hM⟩
  · have ck := iv_cell hg (j := k) (by omega)
    obtain ⟨y, hy⟩ : ∃ y, V.getD k 0 = y := ⟨_, rfl⟩
    rw [hy] at ck
    clear hy
    have fz := fun o => frozen_of_row w g o _ _ hg
    have hg9 : (w.setCell ⟨g, k, none⟩ (.int .i64 v)).heap[g]? = some (.cells (iv (V.set k v)).toArray 3 (0, 0)) := by
      rw [← iv_set]
      simp [World.setCell, Array.getElem?_modify, hg]
    have HP := hide' (show PlR (w.setCell ⟨g, k, none⟩ (.int .i64 v)) base b G (N + 1) (pfn fn x p) from ⟨hrow.setCell _ _, hlow, HW.out.1, HW.out.2.1, HW.out.2.2.1, Or.inl ⟨g, V.set k v, (World.cell?_of_block (w := w) (a := ⟨b, 2, none⟩) (heap_setCell_other _ _ _ _ (Ne.symm hgne))).trans c2, (World.cell?_of_block (w := w) (a := ⟨b, 3, none⟩) (heap_setCell_other _ _ _ _ (Ne.symm hgne))).trans c3, hgb, hgne, hg9, by rw [List.length_set]; exact hV, fun a h9 => by
        rw [HW.out.2.2.2]
        simp only
        by_cases q : a = (k : Int)
        · rw [if_pos q, q, Int.toNat_natCast]; simp [List.getD, List.getElem?_set, hV, hkG]
        · rw [if_neg q, hfv a h9]; have q2 : k ≠ a.toNat := by omega
          simp [List.getD, List.getElem?_set, q2]⟩⟩)
    have HTY := hide' (show ∀ (y : Nat) (cs : Array Value) (t : TypeId), w.heap[y]? = some (Obj.cells cs t (0, 0)) → t ≠ 3 → (w.setCell ⟨g, k, none⟩ (.int .i64 v)).heap[y]? = w.heap[y]? from fun y cs t h9 h8 => heap_setCell_other _ _ _ _ (fun e => by subst e; rw [hg] at h9; injection h9 with h9; injection h9 with _ h7 _; exact h8 h7.symm))
    have HB := hide' (show Below base w (w.setCell ⟨g, k, none⟩ (.int .i64 v)) from ⟨rfl, rfl, rfl, by rw [World.size_setCell]; exact Nat.le_refl _, fun i hi => heap_setCell_other _ _ _ _ (show i ≠ g by omega)⟩)
    clear h hg hV hfv hrow hlow hg9 HW hgne
    rcases hxs with ⟨q, rfl, rfl⟩ | ⟨q, rfl, rfl⟩
    · skip
      go_enter Try.func60, Try.ntmps60
      go_wp2
      refine bodyPost_end (v := .tuple #[]) (by kernel_rfl) rfl ?_
      exact ⟨⟨_, rfl⟩, HP.out, HB.out, HTY.out⟩
    · skip
      go_enter Try.func60, Try.ntmps60
      go_wp2
      refine bodyPost_end (v := .tuple #[]) (by kernel_rfl) rfl ?_
      exact ⟨⟨_, rfl⟩, HP.out, HB.out, HTY.out⟩
  · have hk9 : Try.prog.underlying 3 = some (.int .i64) := by kernel_rfl
    have ht : Try.prog.underlying 53 = some (.map 3 3) := by kernel_rfl
    have HK := hide' (And.intro hk9 (And.intro ht hM))
    have HC := hide' (And.intro c2 c3)
    clear hk9 ht hM h
    have hwf := hide' (wfI_of (v := (k : Int)) (by omega) (by omega))
    have HF := hide' (show fput (ffn fn) (k : Int) (.int .i64 v) = ffn (pfn fn x p) from by
        funext a; unfold fput ffn; rw [HW.out.2.2.2]; simp only
        by_cases q : a = (k : Int)
        · rw [if_pos q, if_pos q, if_neg hvb.2.2]
        · rw [if_neg q, if_neg q])
    have HW2 := hide' (And.intro HW.out.1 (And.intro HW.out.2.1 HW.out.2.2.1))
    clear HW
    rcases hxs with ⟨q, rfl, rfl⟩ | ⟨q, rfl, rfl⟩
    · skip
      go_enter Try.func60, Try.ntmps60
      go_wp2_with (refine wpList_put _ (by rfl) _ _ _ _ (by rfl) HK.out.1 HK.out.2.1 _ _ _ (by rfl) HK.out.2.2 (by simp only [maxLen]; omega) (k : Int) (by rfl) hwf.out _ (by rfl) ?_)
      intro w2 hM2 hT2
      rw [HF.out] at hM2
      go_wp2_with fail
      refine bodyPost_ret (v := .tuple #[]) (by kernel_rfl) rfl ?_
      have hrow2 : Row w2 b := by obtain ⟨cur, t9, h9⟩ := hrow; exact ⟨cur, t9, (hT2.block b (fun e => HK.out.2.2.nocells (e ▸ h9))).trans h9⟩
      exact ⟨⟨_, rfl⟩, ⟨hrow2, hlow, HW2.out.1, HW2.out.2.1, HW2.out.2.2, Or.inr ⟨m, hT2.cell HC.out.1, hT2.cell HC.out.2, hmb, hM2⟩⟩, hT2.below hmb, fun y cs t h9 h8 => hT2.block y (fun e => HK.out.2.2.nocells (e ▸ h9))⟩
    · skip
      go_enter Try.func60, Try.ntmps60
      go_wp2_with (refine wpList_put _ (by rfl) _ _ _ _ (by rfl) HK.out.1 HK.out.2.1 _ _ _ (by rfl) HK.out.2.2 (by simp only [maxLen]; omega) (k : Int) (by rfl) hwf.out _ (by rfl) ?_)
      intro w2 hM2 hT2
      rw [HF.out] at hM2
      go_wp2_with fail
      refine bodyPost_ret (v := .tuple #[]) (by kernel_rfl) rfl ?_
      have hrow2 : Row w2 b := by obtain ⟨cur, t9, h9⟩ := hrow; exact ⟨cur, t9, (hT2.block b (fun e => HK.out.2.2.nocells (e ▸ h9))).trans h9⟩
      exact ⟨⟨_, rfl⟩, ⟨hrow2, hlow, HW2.out.1, HW2.out.2.1, HW2.out.2.2, Or.inr ⟨m, hT2.cell HC.out.1, hT2.cell HC.out.2, hmb, hM2⟩⟩, hT2.below hmb, fun y cs t h9 h8 => hT2.block y (fun e => HK.out.2.2.nocells (e ▸ h9))⟩
end Go.Proofs.Ytbcbgglhhfdbcab
