/-
  clauses: the program's Norm, without, Resolve.
-/
import Derived.Test.YtnjidhoceacenaaCLF
namespace Go.Proofs.Ytnjidhoceacenaa
open Go.RowKit
set_option linter.unusedVariables false
set_option linter.unusedSimpArgs false
theorem own_base {w w1 w2 : World} {v : Value} {s : List Int} (h : Own w1 w2 v s) (hb : Below w.heap.size w w1) : Own w w2 v s := by
  obtain ⟨h1, h2⟩ := h
  have hs := hb.size
  refine ⟨⟨h1.1, ?_⟩, hb.trans (h2.mono hs)⟩
  rcases h1.2 with h' | ⟨g, cap, cur, h', hg, rest⟩
  · exact Or.inl h'
  · exact Or.inr ⟨g, cap, cur, h', by omega, rest⟩
theorem woL_mem {x : Int} {l : List Int} {z : Int} (h : z ∈ woL x l) : z ∈ l := (List.mem_filter.1 h).1
theorem woL_len (x : Int) (l : List Int) : (woL x l).length ≤ l.length := List.length_filter_le _ _
theorem woL_eq (x : Int) (l : List Int) : (l.filter fun y => !(y == x)) = woL x l := by
  unfold woL
  congr 1
  funext y
  by_cases h : y = x <;> simp [h]
theorem lst_lit {g : Nat → Int} {n : Nat} (h : allN isLit g n = true) : ∀ z ∈ lst g n, isLit z = true := fun z hz => by
  obtain ⟨i, hi, e⟩ := mem_lst.1 hz
  rw [← e]
  exact allN_true.1 h i hi
theorem lst_ok {w : World} {a : Option Addr} {g : Nat → Int} {n : Nat} (h : LitsAt w a n g) : okL (lst g n) := fun z hz => by
  obtain ⟨i, hi, e⟩ := mem_lst.1 hz
  rw [← e]
  exact h.2.1 i hi
set_option maxHeartbeats 4000000 in
set_option maxRecDepth 100000 in
theorem pNorm_no (a : Option Addr) (n c : Nat) (g : Nat → Int) (w : World) (h : LitsAt w a n g) (hl : allN isLit g n = false) :
    Calls Try.prog 4 #[.slice a n c] w fun e w' => e = .returned (.tuple #[.slice none 0 0, .bool false, .int .i64 180]) ∧ Below w.heap.size w w' := by
  have G1 := hide' (areLiterals_is a n c g w h)
  rw [hl] at G1
  clear h hl
  go_enter Try.func4, Try.ntmps4
  go_wp2_with fail
  refine G1.out.mono ?_
  rintro e w1 ⟨rfl, b1⟩
  go_wp2
  refine bodyPost_ret (v := .tuple #[.slice none 0 0, .bool false, .int .i64 180]) (by rw [results_ttt rfl]; rfl) rfl ?_
  exact ⟨rfl, b1⟩
set_option maxHeartbeats 4000000 in
set_option maxRecDepth 100000 in
theorem pNorm_is (a : Option Addr) (n c : Nat) (g : Nat → Int) (w : World) (h : LitsAt w a n g) (hl : allN isLit g n = true) (hn : n ≤ 4194304) :
    Calls Try.prog 4 #[.slice a n c] w fun e w' => ∃ v s, e = .returned (.tuple #[v, .bool (decide (hasB (lst g n))), .int .i64 0]) ∧ Nrm (lst g n) s ∧ Own w w' v s := by
  have G1 := hide' (areLiterals_is a n c g w h)
  rw [hl] at G1
  have G2 := hide' (fun w1 (b1 : Below w.heap.size w w1) => clone_is a n c g w1 (h.later b1) hn)
  have G3 := hide' (fun w1 v w2 (b1 : Below w.heap.size w w1) (hO : Own w1 w2 v (lst g n)) => tidy_is w v (lst g n) w2 (own_base hO b1) (lst_lit hl) (lst_ok h) (by rw [lst_length]; omega))
  have G4 := hide' (fun v s w3 (hN : Nrm (lst g n) s) (hO : Own w w3 v s) => show Calls Try.prog 14 #[v] w3 fun e w' => e = .returned (.bool (decide (hasB (lst g n)))) ∧ Below w3.heap.size w3 w' from by
    have okS : okL s := fun z hz => lst_ok h z ((hN.2 z).1 hz)
    have liS : ∀ z ∈ s, isLit z = true := fun z hz => lst_lit hl z ((hN.2 z).1 hz)
    obtain ⟨va, cap, rfl, hcap, hL⟩ := own_lits hO.1 okS
    have h9 := hasBoth_is va s.length cap _ w3 hL (fun i hi => liS _ (by simp [List.getD, List.getElem?_eq_getElem hi])) (by rw [lst_of]; exact hN.1)
    rw [lst_of] at h9
    rw [decide_eq_decide.2 (hasB_congr fun x => (hN.2 x).symm)]
    exact h9)
  clear h hl
  generalize decide (hasB (lst g n)) = r at G4 ⊢
  go_enter Try.func4, Try.ntmps4
  go_wp2_with fail
  refine G1.out.mono ?_
  rintro e w1 ⟨rfl, b1⟩
  have G5 := hide' (G2.out w1 b1)
  have G6 := hide' (fun v w2 hO => G3.out w1 v w2 b1 hO)
  clear G2 G3 G1 b1
  go_wp2_with fail
  refine G5.out.mono ?_
  rintro e w2 ⟨v, rfl, hO⟩
  have G7 := hide' (G6.out v w2 hO)
  clear hO G6 G5
  go_wp2_with fail
  refine G7.out.mono ?_
  rintro e w3 ⟨v', s', rfl, hN, hO⟩
  have G8 := hide' (G4.out v' s' w3 hN hO)
  have HN := hide' hN
  have HO := hide' hO
  clear hN hO G4 G7
  go_wp2_with fail
  refine G8.out.mono ?_
  rintro e w4 ⟨rfl, b4⟩
  have HO2 := hide' (HO.out.later b4)
  clear b4 HO G8
  go_wp2
  refine bodyPost_ret (v := .tuple #[v', .bool r, .int .i64 0]) (by rw [results_ttt rfl]; rfl) rfl ?_
  first | exact ⟨v', rfl, s', HN.out, HO2.out⟩ | exact ⟨v', s', rfl, HN.out, HO2.out⟩
set_option maxHeartbeats 4000000 in
set_option maxRecDepth 100000 in
theorem wo1_is (y x : Int) (bx : Nat) (w : World) (hc : w.cell? ⟨bx, 0, none⟩ = some (.int .i64 x)) :
    Calls Try.prog 33 #[.int .i64 y, .pointer (some ⟨bx, 0, none⟩)] w fun e w' => e = .returned (.bool (y == x)) ∧ w' = w := by
  go_enter Try.func33, Try.ntmps33
  go_wp2
  go_ret
  exact ⟨rfl, rfl⟩
set_option maxHeartbeats 4000000 in
set_option maxRecDepth 100000 in
theorem del_none (x : Int) (bx : Nat) (w : World) (hc : w.cell? ⟨bx, 0, none⟩ = some (.int .i64 x)) :
    Calls Try.prog 32 #[.slice none 0 0, .func (.func 33) #[] #[.pointer (some ⟨bx, 0, none⟩)]] w fun e w' => e = .returned (.slice none 0 0) ∧ Below w.heap.size w w' := by
  have G := hide' (indexF_wo none 0 0 (fun _ => 0) (fun y => y == x) bx w ⟨by omega, fun i hi => absurd hi (by omega), fun h => absurd h (by omega)⟩ (fun w' i _ hi => absurd hi (by omega)))
  have G : Hid (Calls Try.prog 39 #[.slice none 0 0, .func (.func 33) #[] #[.pointer (some ⟨bx, 0, none⟩)]] w fun e w' => e = .returned (.int .i64 (-1)) ∧ Below w.heap.size w w') := G
  go_enter Try.func32, Try.ntmps32
  go_wp2_with fail
  refine G.out.mono ?_
  rintro e w1 ⟨rfl, b1⟩
  go_wp2
  go_ret
  exact ⟨rfl, b1⟩
set_option maxHeartbeats 4000000 in
set_option maxRecDepth 100000 in
theorem del_is (w0 : World) (v : Value) (s : List Int) (x : Int) (bx : Nat) (w : World) (hO : Own w0 w v s) (hb : bx < w0.heap.size) (hc : w.cell? ⟨bx, 0, none⟩ = some (.int .i64 x)) (hn : s.length ≤ 9223372036854) :
    Calls Try.prog 32 #[v, .func (.func 33) #[] #[.pointer (some ⟨bx, 0, none⟩)]] w fun e w' => ∃ v', e = .returned v' ∧ Own w0 w' v' (woL x s) := by
  have hcases := hO.1.2
  rcases hcases with ⟨rfl, h0⟩ | ⟨gb, cap, cur, rfl, hgb, hg, hnc, hcm, hcs, htake⟩
  · obtain rfl := List.length_eq_zero_iff.1 h0
    refine (del_none x bx w hc).mono ?_
    rintro e w' ⟨rfl, b1⟩
    exact ⟨_, rfl, hO.later b1⟩
  have hgl : gb < w.heap.size := (Array.getElem?_eq_some_iff.1 hg).1
  have hbw : bx < w.heap.size := by have := hO.2.size; omega
  have eg : ∀ args w, (callFunc 33 args).run Try.prog w = .ok (.enter 33 args) w := enters_of Try.func33 (by kernel_rfl) rfl
  have hA : PredAt Try.prog 33 #[.pointer (some ⟨bx, 0, none⟩)] (Value.int .i64) (fun y => y == x) w := fun W y hB => (wo1_is y x bx W (by rw [hB.cell (p := ⟨bx, 0, none⟩) hbw]; exact hc)).mono fun e w' h => ⟨h.1, 0, h.2⟩
  have hV : PredOver Try.prog 33 #[.pointer (some ⟨bx, 0, none⟩)] (Value.int .i64) (fun y => y == x) gb 0 s.length w := fun n os dk y _ => (wo1_is y x bx _ (by
    show (Sort.grow (Sort.putRow (Value.int .i64) (Sort.ahead w n) gb 0 dk) os).cell? _ = _
    rw [Sort.cell?_grow _ _ _ (by show bx < (Sort.putRow _ _ _ _ _).heap.size; rw [size_putRow]; exact hbw), Sort.cell?_putRow_other _ _ gb 0 _ _ (Or.inl (by show bx ≠ gb; omega))]
    exact hc)).mono fun e w' h => ⟨h.1, 0, h.2⟩
  have h3 := AnyE.slices_DeleteFunc Try.laysDelete (Value.int .i64) (fun _ => rfl) (fun y => y == x) 33 #[.pointer (some ⟨bx, 0, none⟩)] eg 0 (fun w => Try.zeroValue3 w) gb 0 cap s.toArray w hA (by rw [List.size_toArray]; exact hV) (holds_own hO rfl) (by simp; omega) (by simp; omega)
  change Calls Try.prog 32 _ _ _ at h3
  simp only [List.size_toArray, List.toList_toArray, woL_eq] at h3
  refine h3.mono ?_
  rintro e w' ⟨rfl, q, rfl⟩
  have hwl := woL_len x s
  refine ⟨_, rfl, ?_⟩
  have h9 := own_sorted (m := q) (os := #[]) (ts := woL x s ++ List.replicate (s.length - (woL x s).length) 0) hO rfl (by rw [List.length_append, List.length_replicate]; omega)
  rw [Sort.grow_empty] at h9
  exact own_cut h9 (by rw [List.length_append, List.length_replicate]; omega)
set_option maxHeartbeats 4000000 in
set_option maxRecDepth 100000 in
theorem without_is (a : Option Addr) (n c : Nat) (g : Nat → Int) (x : Int) (w : World) (h : LitsAt w a n g) (hn : n ≤ 4194304) :
    Calls Try.prog 19 #[.slice a n c, .int .i64 x] w fun e w' => ∃ v, e = .returned v ∧ Own w w' v (woL x (lst g n)) := by
  have bA := below_alloc (w := w) (.cells #[.int .i64 x] 3)
  have d0 : (w.alloc (.cells #[.int .i64 x] 3)).cell? ⟨w.heap.size, 0, none⟩ = some (.int .i64 x) := by go_simp
  have hz : (w.alloc (.cells #[.int .i64 x] 3)).heap.size = w.heap.size + 1 := by go_simp
  have G1 := hide' (clone_is a n c g (w.alloc (.cells #[.int .i64 x] 3)) (h.later bA) hn)
  have G2 := hide' (fun v w2 (hO : Own (w.alloc (.cells #[.int .i64 x] 3)) w2 v (lst g n)) => del_is (w.alloc (.cells #[.int .i64 x] 3)) v (lst g n) x w.heap.size w2 hO (by omega) (below_cell hO.2 d0) (by rw [lst_length]; omega))
  have G3 := hide' (fun v w2 s (hO : Own (w.alloc (.cells #[.int .i64 x] 3)) w2 v s) => own_base hO bA)
  clear h d0 hz
  go_enter Try.func19, Try.ntmps19
  go_wp2_with fail
  refine G1.out.mono ?_
  rintro e w2 ⟨v, rfl, hO⟩
  have G4 := hide' (G2.out v w2 hO)
  clear hO G1 G2
  go_wp2_with fail
  refine G4.out.mono ?_
  rintro e w3 ⟨v', rfl, hO⟩
  have G5 := hide' (G3.out v' w3 _ hO)
  clear hO G3 G4
  go_wp2
  go_ret
  exact ⟨v', rfl, G5.out⟩
end Go.Proofs.Ytnjidhoceacenaa
