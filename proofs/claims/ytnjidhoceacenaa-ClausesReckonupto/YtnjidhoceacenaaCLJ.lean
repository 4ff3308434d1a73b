/-
  clauses: Sorted, BinarySearch; the program's Covers.
-/
import Derived.Test.YtnjidhoceacenaaCLI
import Derived.Shelf.SortM.SortNone
namespace Go.Proofs.Ytnjidhoceacenaa
open Go.RowKit
set_option linter.unusedVariables false
set_option linter.unusedSimpArgs false
/-- s has what l has, rising -/
def Srt (l s : List Int) : Prop := s.Pairwise (· ≤ ·) ∧ ∀ x, x ∈ s ↔ x ∈ l
theorem srt_merge (l : List Int) : Srt l (l.mergeSort fun x y => decide (x ≤ y)) := by
  refine ⟨?_, fun x => (List.mergeSort_perm l _).mem_iff⟩
  have h := List.pairwise_mergeSort (le := fun x y : Int => decide (x ≤ y)) (fun a b c h1 h2 => by simp at *; omega) (fun a b => by simp; omega) l
  exact h.imp fun {a b} hab => by simpa using hab
set_option maxHeartbeats 4000000 in
set_option maxRecDepth 100000 in
theorem collectL_is (w : World) (Bs : Nat) (a : Option Addr) (n c : Nat) (g : Nat → Int) (hBs : w.cell? ⟨Bs, 0, none⟩ = some (.slice a n c)) (hI : LitsAt w a n g) (hn : n ≤ 4194304) :
    Calls Try.prog 34 #[.func (.func 36) #[] #[.pointer (some ⟨Bs, 0, none⟩)]] w fun e w' => ∃ v, e = .returned v ∧ Own w w' v (lst g n) := by
  have H := hide' (appendSeqL_is w Bs a n c g hBs hI hn)
  clear hBs hI
  go_enter Try.func34, Try.ntmps34
  go_wp2_with fail
  refine H.out.mono ?_
  rintro e w1 ⟨v, rfl, hO⟩
  have HO := hide' hO
  clear hO
  go_wp2
  go_ret
  exact ⟨v, rfl, HO.out⟩
set_option maxHeartbeats 4000000 in
set_option maxRecDepth 100000 in
theorem sortL_is (w0 : World) (v : Value) (s : List Int) (w : World) (hO : Own w0 w v s) (hn : s.length ≤ 9223372036854) :
    Calls Try.prog 35 #[v] w fun e w' => e = .returned (.tuple #[]) ∧ ∃ t, Srt s t ∧ t.length = s.length ∧ Own w0 w' v t := by
  have hcases := hO.1.2
  rcases hcases with ⟨rfl, h0⟩ | ⟨gb, cap, cur, rfl, hgb, hg, hnc, hcm, hcs, htake⟩
  · obtain rfl := List.length_eq_zero_iff.1 h0
    have h3 := AnyM.slices_Sort_int_none Try.laysSorts none 0 w
    change Calls Try.prog 35 _ _ _ at h3
    refine h3.mono ?_
    rintro e w' ⟨rfl, rfl⟩
    exact ⟨rfl, [], ⟨List.Pairwise.nil, fun x => Iff.rfl⟩, rfl, hO⟩
  have hgl : gb < w.heap.size := (Array.getElem?_eq_some_iff.1 hg).1
  have h3 := AnyM.slices_Sort_int Try.laysSorts gb 0 cap s w (holds_own hO rfl) hgl (by omega)
  change Calls Try.prog 35 _ _ _ at h3
  refine h3.mono ?_
  rintro e w' ⟨rfl, m, os, rfl⟩
  exact ⟨rfl, _, srt_merge s, (List.mergeSort_perm s _).length_eq, own_sorted hO rfl (List.mergeSort_perm s _).length_eq⟩
set_option maxHeartbeats 4000000 in
set_option maxRecDepth 100000 in
theorem sorted_is (w : World) (Bs : Nat) (a : Option Addr) (n c : Nat) (g : Nat → Int) (hBs : w.cell? ⟨Bs, 0, none⟩ = some (.slice a n c)) (hI : LitsAt w a n g) (hn : n ≤ 4194304) :
    Calls Try.prog 21 #[.func (.func 36) #[] #[.pointer (some ⟨Bs, 0, none⟩)]] w fun e w' => ∃ v s, e = .returned v ∧ Srt (lst g n) s ∧ s.length = n ∧ Own w w' v s := by
  have H := hide' (collectL_is w Bs a n c g hBs hI hn)
  have H2 := hide' (fun v w1 (hO : Own w w1 v (lst g n)) => sortL_is w v (lst g n) w1 hO (by rw [lst_length]; omega))
  clear hBs hI
  go_enter Try.func21, Try.ntmps21
  go_wp2_with fail
  refine H.out.mono ?_
  rintro e w1 ⟨v, rfl, hO⟩
  have H3 := hide' (H2.out v w1 hO)
  clear hO H H2
  go_wp2_with fail
  refine H3.out.mono ?_
  rintro e w2 ⟨rfl, t, hS, ht, hO⟩
  rw [lst_length] at ht
  have HT := hide' ht
  clear ht
  have HO := hide' hO
  have HS := hide' hS
  clear hO hS H3
  go_wp2
  go_ret
  first | exact ⟨v, rfl, t, HS.out, HT.out, HO.out⟩ | exact ⟨v, t, rfl, HS.out, HT.out, HO.out⟩
set_option maxHeartbeats 4000000 in
set_option maxRecDepth 100000 in
theorem bs_none (x : Int) (w : World) :
    Calls Try.prog 23 #[.slice none 0 0, .int .i64 x] w fun e w' => ∃ k : Int, e = .returned (.tuple #[.int .i64 k, .bool false]) ∧ Below w.heap.size w w' := by
  go_enter Try.func23, Try.ntmps23
  go_wp2
  refine wp_loop_rounds 1 ?_
  rw [rounds_succ]
  go_wp2
  refine bodyPost_ret (v := .tuple #[.int .i64 0, .bool false]) (by rw [results_tt rfl]; rfl) rfl ?_
  exact ⟨0, rfl, Below.refl _ _⟩
set_option maxHeartbeats 4000000 in
set_option maxRecDepth 100000 in
theorem bs_is (w0 : World) (v : Value) (l s : List Int) (x : Int) (w : World) (hO : Own w0 w v s) (hS : Srt l s) (hn : s.length ≤ 9223372036854) :
    Calls Try.prog 23 #[v, .int .i64 x] w fun e w' => ∃ k : Int, e = .returned (.tuple #[.int .i64 k, .bool (decide (x ∈ l))]) ∧ Below w.heap.size w w' := by
  have hcases := hO.1.2
  rcases hcases with ⟨rfl, h0⟩ | ⟨gb, cap, cur, rfl, hgb, hg, hnc, hcm, hcs, htake⟩
  · obtain rfl := List.length_eq_zero_iff.1 h0
    rw [decide_eq_false (fun h => by have := (hS.2 x).2 h; cases this)]
    exact bs_none x w
  have h3 := AnyG.slices_BinarySearch_int Try.laysSearch gb 0 s.length cap s x w (Nat.le_refl _) (by omega) (fun j hj => by
    rw [Nat.zero_add, hO.1.cellAt j (by omega), iv_at (z := s.getD j 0) (by simp [List.getD, List.getElem?_eq_getElem hj])]) (by rw [List.take_length]; exact hS.1)
  change Calls Try.prog 23 _ _ _ at h3
  refine h3.mono ?_
  rintro e w' ⟨rfl, q, rfl⟩
  have e9 : (s.take s.length).contains x = decide (x ∈ l) := by rw [List.take_length, Bool.eq_iff_iff]; simp [hS.2]
  rw [e9]
  exact ⟨_, rfl, ⟨rfl, rfl, rfl, Nat.le_refl _, fun _ _ => rfl⟩⟩
set_option maxHeartbeats 4000000 in
set_option maxRecDepth 100000 in
theorem pCovers_is (a : Option Addr) (n c : Nat) (g : Nat → Int) (a' : Option Addr) (n' c' : Nat) (g' : Nat → Int) (w : World) (h : LitsAt w a n g) (h' : LitsAt w a' n' g') (hn : n' ≤ 4194304) :
    Calls Try.prog 9 #[.slice a n c, .slice a' n' c'] w fun e w' => e = .returned (.bool (allN (fun x => decide (x ∈ lst g' n')) g n)) ∧ Below w.heap.size w w' := by
  have GV : Hid (Calls Try.prog 22 #[.slice a' n' c'] w fun e w' => e = .returned (.func (.func 36) #[] #[.pointer (some ⟨w.heap.size, 0, none⟩)]) ∧ w' = w.alloc (.cells #[.slice a' n' c'] 23)) := hide' (by
    go_enter Try.func22, Try.ntmps22
    go_wp2
    go_ret
    exact ⟨rfl, rfl⟩)
  have bA := below_alloc (w := w) (.cells #[.slice a' n' c'] 23)
  have d0 : (w.alloc (.cells #[.slice a' n' c'] 23)).cell? ⟨w.heap.size, 0, none⟩ = some (.slice a' n' c') := by go_simp
  have GS := hide' (sorted_is (w.alloc (.cells #[.slice a' n' c'] 23)) w.heap.size a' n' c' g' d0 (h'.later bA) hn)
  have G1 := hide' (fun v s w1 (hO : Own (w.alloc (.cells #[.slice a' n' c'] 23)) w1 v s) => own_base hO bA)
  have HL := hide' h
  have hn1 := h.1
  clear h h' d0 bA
  go_enter Try.func9, Try.ntmps9
  go_wp2_with fail
  refine GV.out.mono ?_
  rintro e w1 ⟨rfl, rfl⟩
  go_wp2_with fail
  refine GS.out.mono ?_
  rintro e w2 ⟨v, s, rfl, hS, hsl, hO⟩
  have HO := hide' (G1.out v s w2 hO)
  have HSs := hide' hS
  have GH := hide' (fun x w' (hb : Below w2.heap.size w2 w') => bs_is w v (lst g' n') s x w' (HO.out.later hb) HSs.out (by omega))
  have B2 := HO.out.2
  have HB2 := hide' B2
  clear B2 hO hS GS GV G1 hsl HSs HO
  go_wp2
  go_loopw [15] (fun vi wr => ∃ k : Nat, k ≤ n ∧ vi = .int .i64 k ∧ (∀ i, i < k → decide (g i ∈ lst g' n') = true) ∧ Below w2.heap.size w2 wr) (fun vi _ => n - (intOf vi).toNat)
  case atStart => exact ⟨0, Nat.zero_le _, rfl, fun i hi => absurd hi (by omega), Below.refl _ _⟩
  case round =>
    obtain ⟨k, hk, rfl, hb, hB⟩ := hrel
    have HB := hide' hb
    clear hb
    by_cases hlt : k < n
    · skip
      obtain ⟨b, off, rfl, hcb⟩ := HL.out.2.2 (by omega)
      have hck := below_cell hB (below_cell HB2.out (hcb k hlt))
      clear hcb
      have hki : ((k : Int) < (n : Int)) := by omega
      have HK := hide' (GH.out (g k) wr hB)
      obtain ⟨y, hy⟩ : ∃ y, g k = y := ⟨_, rfl⟩
      rw [hy] at hck HK
      cases hd : decide (y ∈ lst g' n')
      · rw [hd] at HK
        have HN := hide' (show allN (fun x => decide (x ∈ lst g' n')) g n = false from allN_false hlt (by rw [hy]; exact hd))
        clear hy hd
        go_wp2_with fail
        refine HK.out.mono ?_
        rintro e w3 ⟨kk, rfl, b1⟩
        replace hB := hB.trans (b1.mono hB.size)
        clear b1
        go_wp2
        go_ret
        exact ⟨(by rw [HN.out]; try rfl), HB2.out.trans (hB.mono HB2.out.size)⟩
      · rw [hd] at HK
        have HN := hide' (show ∀ i, i < k + 1 → decide (g i ∈ lst g' n') = true from fun i hi => by by_cases e2 : i = k; (rw [e2, hy]; exact hd); exact HB.out i (by omega))
        clear hy hd
        go_wp2_with fail
        refine HK.out.mono ?_
        rintro e w3 ⟨kk, rfl, b1⟩
        replace hB := hB.trans (b1.mono hB.size)
        clear b1
        go_wp2
        go_roundw
        case rel => exact ⟨k + 1, by omega, by go_simp, HN.out, hB⟩
        case measure => simp only [intOf]; omega
    · have hki : ¬ ((k : Int) < (n : Int)) := by omega
      have HN := hide' (show allN (fun x => decide (x ∈ lst g' n')) g n = true from allN_true.2 fun i hi => HB.out i (by omega))
      go_wp2
      go_ret
      exact ⟨(by rw [HN.out]; try rfl), HB2.out.trans (hB.mono HB2.out.size)⟩
end Go.Proofs.Ytnjidhoceacenaa
