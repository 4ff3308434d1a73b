/-
  analyse: newPlaces.
-/
import Derived.Test.YtbcbgglhhfdbcabAN9
namespace Go.Proofs.Ytbcbgglhhfdbcab
open Go.RowKit
set_option linter.unusedVariables false
set_option linter.unusedSimpArgs false
/-- what newPlaces tells -/
def NpA (w : World) (base G : Nat) (v1 v2 : Value) : Prop :=
  (∃ g, v1 = .slice (some ⟨g, 0, none⟩) (G + 1) (G + 1) ∧ v2 = .map none ∧ base ≤ g ∧ w.heap[g]? = some (.cells (iv (List.replicate (G + 1) 0)).toArray 3 (0, 0))) ∨
  (∃ m, v1 = .slice none 0 0 ∧ v2 = .map (some m) ∧ base ≤ m ∧ MapI Try.prog 3 w m 0 (fun _ => none))
theorem NpA.later {w w' : World} {base G : Nat} {v1 v2 : Value} (h : NpA w base G v1 v2) (hb : Below w.heap.size w w') : NpA w' base G v1 v2 := by
  rcases h with ⟨g, h1, h2, h3, h4⟩ | ⟨m, h1, h2, h3, h4⟩
  · exact Or.inl ⟨g, h1, h2, h3, (hb.block g (Array.getElem?_eq_some_iff.1 h4).1).trans h4⟩
  · exact Or.inr ⟨m, h1, h2, h3, h4.later hb⟩
theorem results_cell {fn : Func} {p : Tmp} {ty : TypeId} (h : fn.results = #[.cell p ty]) (tmps : Array Value) (P : Program) (w : World) :
    (results fn tmps).run P w = ((asAddr (tmps.getD p undef)).run P w).andThen fun a w1 => (loadVar ty a).run P w1 := by
  simp only [results, h]
  simp [Sem.run_bind]
theorem made_zero (n : Nat) : madeCells #[.int .i64 0] n = (iv (List.replicate n 0)).toArray := by
  apply Array.ext'
  have h : (madeCells #[.int .i64 0] n).toList = List.replicate n (.int .i64 0) := by
    apply List.ext_getElem
    · simp [madeCells]
    · intro i h1 h2
      simp [madeCells, Nat.mod_one]
  rw [h]
  simp [iv]
set_option maxHeartbeats 2000000 in
set_option maxRecDepth 100000 in
theorem newPlaces_is (ma : Option Addr) (mc : Nat) (M : List Mk) (w : World) (h : MsAt w ma M) (hn9 : M.length ≤ 1048576) :
    Calls Try.prog 57 #[.slice ma M.length mc] w fun e w' => ∃ G v1 v2, e = .returned (.agg #[v1, v2]) ∧ NpA w' w.heap.size G v1 v2 ∧ (∀ m ∈ M, isLit m.l = true → atm m.l ≤ (G : Int)) ∧ G ≤ 9223372036854775807 ∧ Below w.heap.size w w' := by
  obtain ⟨n, hn⟩ : ∃ n, M.length = n := ⟨_, rfl⟩
  have HA := hide' h
  rw [hn] at hn9 ⊢
  replace hn := hide' hn
  clear h
  have GA := hide' atom_is
  have GM := hide' atom_min
  have hmm2 : ∀ w : World, (Instr.makeMap 53 (some (.int .i64 (n : Int)))).run Try.prog w = .ok (.map (some w.heap.size)) (w.alloc (.map #[] 0)) := fun w => by first | rfl | simp [Instr.makeMap, go_sem]
  obtain ⟨wA, hwA⟩ : ∃ wA, w.alloc (.cells #[.slice none 0 0, .map none] 55) = wA := ⟨_, rfl⟩
  have bA := below_alloc (w := w) (.cells #[.slice none 0 0, .map none] 55)
  have nA := heap_alloc_new w (.cells #[.slice none 0 0, .map none] 55)
  have sA := size_alloc w (.cells #[.slice none 0 0, .map none] 55)
  rw [hwA] at bA nA sA
  have HNA := hide' nA
  clear nA
  go_enter Try.func57, Try.ntmps57
  go_wp2_with fail
  go_loopw [3, 8] (fun vg vi wr => ∃ (k G : Nat), k ≤ n ∧ vi = .int .i64 k ∧ vg = .int .i64 (G : Int) ∧ G ≤ 9223372036854775807 ∧ (∀ m ∈ M.take k, isLit m.l = true → atm m.l ≤ (G : Int)) ∧ Below wA.heap.size wA wr) (fun _ vi _ => n - (intOf vi).toNat)
  case atStart => exact ⟨0, 0, Nat.zero_le _, rfl, rfl, by omega, by simp, by first | exact Below.refl _ _ | (rw [hwA]; exact Below.refl _ _)⟩
  case round =>
    obtain ⟨k, G, hk, rfl, rfl, hG, hb, hB⟩ := hrel
    have HB := hide' hb
    clear hb
    by_cases hlt : k < n
    · have i1 : (k : Int) < (n : Int) := by omega
      have i0 : (0 : Int) ≤ (k : Int) := by omega
      obtain ⟨bq, off, rfl, ⟨ck, ck1, ck2⟩, ho⟩ := HA.out.el hn.out hlt
      have bb := bA.trans (hB.mono bA.size)
      replace ck := below_at bb (World.block_lt_of_cell? w _ ck) ck
      replace ck1 := below_at bb (World.block_lt_of_cell? w _ ck1) ck1
      replace ck2 := below_at bb (World.block_lt_of_cell? w _ ck2) ck2
      clear bb
      have HST := hide' (take_snoc M default hn.out hlt)
      unfold okM i64 at ho
      obtain ⟨y, hy⟩ : ∃ y, (M.getD k default).l = y := ⟨_, rfl⟩
      rw [hy] at ck ho
      have HY := hide' hy
      clear hy
      have ho1 := ho.1.1
      have ho2 := ho.1.2
      clear ho
      generalize (M.getD k default).v = y1 at ck1
      generalize (M.getD k default).r = y2 at ck2
      have bN := below_alloc (w := wr) (.cells #[.int .i64 y, .int .i64 y1, .int .i64 y2] 46)
      have nN := heap_alloc_new wr (.cells #[.int .i64 y, .int .i64 y1, .int .i64 y2] 46)
      obtain ⟨wB, hwB⟩ : ∃ wB, wr.alloc (.cells #[.int .i64 y, .int .i64 y1, .int .i64 y2] 46) = wB := ⟨_, rfl⟩
      rw [hwB] at bN nN
      have c9 := cell_of_row wB wr.heap.size 0 _ _ _ nN
      simp only [List.getElem?_toArray, List.getElem?_cons_zero, List.getElem?_cons_succ] at c9
      clear nN
      have HB9 := hide' (hB.trans (bN.mono hB.size))
      clear bN hB
      by_cases hmin : y = -9223372036854775808
      · skip
        have HN := hide' (show ∀ m ∈ M.take (k + 1), isLit m.l = true → atm m.l ≤ ((G : Nat) : Int) from fun m hm hl => by rw [HST.out, List.mem_append, List.mem_singleton] at hm; rcases hm with hm | hm; (have := HB.out m hm hl; omega); (subst hm; rw [HY.out] at hl ⊢; rw [hmin] at hl; exact absurd hl (by decide)))
        subst hmin
        have e9 : max (G : Int) (-9223372036854775808) = (G : Int) := by omega
        go_wp2_with fail
        try rw [hwB]
        refine (GM.out _).mono ?_
        rintro e w9 ⟨rfl, rfl⟩
        go_wp2
        go_roundw
        case rel => exact ⟨k + 1, G, by omega, by go_num, by first | rfl | go_num | (simp; omega), by omega, HN.out, HB9.out⟩
        case measure => simp only [intOf]; omega
      · have hlo : -9223372036854775808 < y := by omega
        have ha : 0 ≤ atm y ∧ atm y ≤ 9223372036854775807 := by unfold atm; split <;> omega
        obtain ⟨a, hae⟩ : ∃ a : Nat, atm y = (a : Int) := ⟨(atm y).toNat, by omega⟩
        have GA1 := hide' (fun w => GA.out y hlo ho2 w)
        rw [hae] at GA1 ha
        by_cases haG : a ≤ G
        · skip
          have HN := hide' (show ∀ m ∈ M.take (k + 1), isLit m.l = true → atm m.l ≤ ((G : Nat) : Int) from fun m hm hl => by rw [HST.out, List.mem_append, List.mem_singleton] at hm; rcases hm with hm | hm; (have := HB.out m hm hl; omega); (subst hm; rw [HY.out] at hl ⊢; rw [hae]; omega))
          have e9 : max (G : Int) (a : Int) = (G : Int) := by omega
          clear hae
          go_wp2_with fail
          try rw [hwB]
          refine (GA1.out _).mono ?_
          rintro e w9 ⟨rfl, rfl⟩
          go_wp2
          go_roundw
          case rel => exact ⟨k + 1, G, by omega, by go_num, by first | rfl | go_num | (simp; omega), by omega, HN.out, HB9.out⟩
          case measure => simp only [intOf]; omega
        · skip
          have HN := hide' (show ∀ m ∈ M.take (k + 1), isLit m.l = true → atm m.l ≤ ((a : Nat) : Int) from fun m hm hl => by rw [HST.out, List.mem_append, List.mem_singleton] at hm; rcases hm with hm | hm; (have := HB.out m hm hl; omega); (subst hm; rw [HY.out] at hl ⊢; rw [hae]; exact Int.le_refl _))
          have e9 : max (G : Int) (a : Int) = (a : Int) := by omega
          clear hae
          go_wp2_with fail
          try rw [hwB]
          refine (GA1.out _).mono ?_
          rintro e w9 ⟨rfl, rfl⟩
          go_wp2
          go_roundw
          case rel => exact ⟨k + 1, a, by omega, by go_num, by first | rfl | go_num | (simp; omega), by omega, HN.out, HB9.out⟩
          case measure => simp only [intOf]; omega
    · obtain rfl : k = n := by omega
      have i1 : ¬ (k : Int) < (k : Int) := by omega
      have HBN := HB.out
      rw [take_all M hn.out] at HBN
      replace HBN := hide' HBN
      clear HB
      have HBB := hide' (And.intro (bA.trans (hB.mono bA.size)) (show wr.heap[w.heap.size]? = _ from (hB.block w.heap.size (by omega)).trans HNA.out))
      have ht9 : (G : Int).tdiv 16 = ((G / 16 : Nat) : Int) := by rw [Int.tdiv_eq_ediv_of_nonneg (by omega)]; omega
      have ht8 : (G : Int) / 16 = ((G / 16 : Nat) : Int) := by omega
      obtain ⟨q, hq⟩ : ∃ q, G / 16 = q := ⟨_, rfl⟩
      rw [hq] at ht8 ht9
      have hlw : w.heap.size < wr.heap.size := by have := hB.size; omega
      clear hB sA bA
      by_cases hqn : (q : Int) > (k : Int)
      · skip
        obtain ⟨wM, hwM⟩ : ∃ wM, wr.alloc (.map #[] 0) = wM := ⟨_, rfl⟩
        have bM := below_alloc (w := wr) (.map #[] 0)
        have sM := size_alloc wr (.map #[] 0)
        have hX := MapI.made wr Try.prog 3
        rw [hwM] at bM sM hX
        have hM2 := (bM.block w.heap.size hlw).trans HBB.out.2
        have cB0 := cell_of_row wM w.heap.size 0 _ _ _ hM2
        have cB1 := cell_of_row wM w.heap.size 1 _ _ _ hM2
        simp only [List.getElem?_toArray, List.getElem?_cons_zero, List.getElem?_cons_succ] at cB0 cB1
        have fz := fun o => frozen_of_row wM w.heap.size o _ _ hM2
        have HX := hide' (And.intro hX (And.intro (HBB.out.1.trans (bM.mono HBB.out.1.size)) hM2))
        clear hX bM hM2
        have sM9 := hide' (And.intro sM hlw)
        clear sM hlw
        go_wp2
        obtain ⟨wS, hwS⟩ : ∃ wS, (wM.setCell ⟨w.heap.size, 0, none⟩ (.slice none 0 0)).setCell ⟨w.heap.size, 1, none⟩ (.map (some wr.heap.size)) = wS := ⟨_, rfl⟩
        have hc0 : wS.cell? ⟨w.heap.size, 0, none⟩ = some (.slice none 0 0) := by rw [← hwS, cell_set_other (by omega)]; exact cell_set_same cB0
        have hc1 : wS.cell? ⟨w.heap.size, 1, none⟩ = some (.map (some wr.heap.size)) := by rw [← hwS]; exact cell_set_same (by rw [cell_set_other (by omega)]; exact cB1)
        have hoth : ∀ x, x ≠ w.heap.size → wS.heap[x]? = wM.heap[x]? := fun x hx => by rw [← hwS]; exact (heap_setCell_other _ _ _ _ hx).trans (heap_setCell_other _ _ _ _ hx)
        have hfin : Below w.heap.size w wS := HX.out.2.1.trans ⟨by rw [← hwS]; rfl, by rw [← hwS]; rfl, by rw [← hwS]; rfl, by rw [← hwS, World.size_setCell, World.size_setCell]; exact Nat.le_refl _, fun x hx => hoth x (by omega)⟩
        try rw [hwS]
        refine bodyPost_ret (v := .agg #[.slice none 0 0, .map (some wr.heap.size)]) (by rw [results_cell rfl]; go_simp) rfl ?_
        exact ⟨G, _, _, rfl, Or.inr ⟨wr.heap.size, rfl, rfl, by have := sM9.out.2; omega, HX.out.1.block (hoth _ (by have := sM9.out.2; omega))⟩, HBN.out, hG, hfin⟩
      · have hG2 : G ≤ 33554432 := by omega
        obtain ⟨XN, hXN, hmN⟩ : ∃ X : Array Value, X = (iv (List.replicate (G + 1) 0)).toArray ∧ ∀ w : World, (Instr.makeSlice 26 (.int .i64 ((G : Int) + 1)) (.int .i64 ((G : Int) + 1))).run Try.prog w = .ok (.slice (some ⟨w.heap.size, 0, none⟩) (G + 1) (G + 1)) (w.alloc (.cells X 3)) := by
          obtain ⟨i0, hi0, hz0, hz1, hz2⟩ := info_parts info_i
          refine ⟨_, rfl, fun w => ?_⟩
          have hr := run_make (P := Try.prog) w 26 3 i0 _ Try.underlying26 hi0 hz0 .i64 .i64 ((G : Int) + 1) ((G : Int) + 1) (by omega) (Int.le_refl _) (by rw [hz2]; omega) (by omega)
          have e : ((G : Int) + 1).toNat = G + 1 := by omega
          rw [hz1, e, Nat.mul_one] at hr
          rw [show (Value.int .i64 0).cells = #[.int .i64 0] from rfl, made_zero] at hr
          exact hr
        replace hXN := hide' hXN
        obtain ⟨wM, hwM⟩ : ∃ wM, wr.alloc (.cells XN 3) = wM := ⟨_, rfl⟩
        have bM := below_alloc (w := wr) (.cells XN 3)
        have sM := size_alloc wr (.cells XN 3)
        have hX := heap_alloc_new wr (.cells XN 3)
        rw [hwM] at bM sM hX
        have hM2 := (bM.block w.heap.size hlw).trans HBB.out.2
        have cB0 := cell_of_row wM w.heap.size 0 _ _ _ hM2
        have cB1 := cell_of_row wM w.heap.size 1 _ _ _ hM2
        simp only [List.getElem?_toArray, List.getElem?_cons_zero, List.getElem?_cons_succ] at cB0 cB1
        have fz := fun o => frozen_of_row wM w.heap.size o _ _ hM2
        have HX := hide' (And.intro hX (And.intro (HBB.out.1.trans (bM.mono HBB.out.1.size)) hM2))
        clear hX bM hM2
        have sM9 := hide' (And.intro sM hlw)
        clear sM hlw
        go_wp2
        obtain ⟨wS, hwS⟩ : ∃ wS, (wM.setCell ⟨w.heap.size, 0, none⟩ (.slice (some ⟨wr.heap.size, 0, none⟩) (G + 1) (G + 1))).setCell ⟨w.heap.size, 1, none⟩ (.map none) = wS := ⟨_, rfl⟩
        have hc0 : wS.cell? ⟨w.heap.size, 0, none⟩ = some (.slice (some ⟨wr.heap.size, 0, none⟩) (G + 1) (G + 1)) := by rw [← hwS, cell_set_other (by omega)]; exact cell_set_same cB0
        have hc1 : wS.cell? ⟨w.heap.size, 1, none⟩ = some (.map none) := by rw [← hwS]; exact cell_set_same (by rw [cell_set_other (by omega)]; exact cB1)
        have hoth : ∀ x, x ≠ w.heap.size → wS.heap[x]? = wM.heap[x]? := fun x hx => by rw [← hwS]; exact (heap_setCell_other _ _ _ _ hx).trans (heap_setCell_other _ _ _ _ hx)
        have hfin : Below w.heap.size w wS := HX.out.2.1.trans ⟨by rw [← hwS]; rfl, by rw [← hwS]; rfl, by rw [← hwS]; rfl, by rw [← hwS, World.size_setCell, World.size_setCell]; exact Nat.le_refl _, fun x hx => hoth x (by omega)⟩
        try rw [hwS]
        refine bodyPost_ret (v := .agg #[.slice (some ⟨wr.heap.size, 0, none⟩) (G + 1) (G + 1), .map none]) (by rw [results_cell rfl]; go_simp) rfl ?_
        exact ⟨G, _, _, rfl, Or.inl ⟨wr.heap.size, rfl, rfl, by have := sM9.out.2; omega, by rw [← hXN.out]; exact (hoth _ (by have := sM9.out.2; omega)).trans HX.out.1⟩, HBN.out, hG, hfin⟩
end Go.Proofs.Ytbcbgglhhfdbcab
