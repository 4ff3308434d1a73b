/-
  analyse: the law's lives.
-/
import Derived.Test.YtbcbgglhhfdbcabANG
import Derived.Test.YtbcbgglhhfdbcabAL0
namespace Go.Proofs.Ytbcbgglhhfdbcab
open Go.RowKit Go.Shelf
set_option linter.unusedVariables false
set_option linter.unusedSimpArgs false
def C3 : List (List Int) := [[-1, 2], [-1, 3], [-2, -3]]
def M3 : List Mk := [⟨1, 1, -1⟩, ⟨2, 1, 0⟩, ⟨3, 1, 1⟩]
theorem chk3 : Chk C3 M3 := fun i hi => by
  match i with
  | 0 => exact ⟨by decide, by decide, by decide, Or.inl (by decide)⟩
  | 1 => exact ⟨by decide, by decide, by decide, Or.inr (by unfold forc; decide)⟩
  | 2 => exact ⟨by decide, by decide, by decide, Or.inr (by unfold forc; decide)⟩
  | n + 3 => simp [M3] at hi; omega
theorem first3 : FirstOk C3 M3 2 2 2 := ⟨by decide, by decide, by decide, by decide, by decide⟩
theorem fst3 : (fstU C3 M3 2 2).1 = 0 ∧ (fstU C3 M3 2 2).2.2 = [2, 1, 0] := by
  unfold fstU
  rw [uip_go (q := 1) (q' := 1) _ _ _ _ (by decide) (by decide) (by decide), uip_go (q := 0) (q' := 0) _ _ _ _ (by decide) (by decide) (by decide), uip_none _ _ _ _ (by decide)]
  decide
theorem fstF3 : fstF C3 M3 2 2 = [] := by unfold fstF; rw [fst3.1]; rfl
theorem fstC3 : fstC C3 M3 2 2 = [-1] := by unfold fstC; rw [fstF3, fst3.1]; decide
theorem fstH3 : fstH C3 M3 2 2 = [2, 1, 0] := by unfold fstH; rw [fst3.1, fst3.2]; rfl
theorem back3 : backF M3 (fstF C3 M3 2 2) = 0 := by rw [fstF3]; rfl
def f3 (B : Nat) : Nat → Option Addr × Nat := fun i => (some ⟨B + i, 0, none⟩, 2)
theorem ls2_of {W : World} {B : Nat} {x y : Int} (hx : i64 x) (hy : i64 y) (h : W.heap[B]? = some (.cells #[.int .i64 x, .int .i64 y] 3 (0, 0))) : LsAt W (some ⟨B, 0, none⟩) [x, y] :=
  ⟨by simp, fun z hz => by simp at hz; rcases hz with rfl | rfl; exact hx; exact hy, fun _ => ⟨B, 0, rfl, fun i hi => by
    match i with
    | 0 => simp [World.cell?, h]
    | 1 => simp [World.cell?, h]
    | n + 2 => simp at hi; omega⟩⟩
theorem ls3_of {W : World} {B : Nat} {x y z : Int} (hx : i64 x) (hy : i64 y) (hz : i64 z) (h : W.heap[B]? = some (.cells #[.int .i64 x, .int .i64 y, .int .i64 z] 3 (0, 0))) : LsAt W (some ⟨B, 0, none⟩) [x, y, z] :=
  ⟨by simp, fun u hu => by simp at hu; rcases hu with rfl | rfl | rfl; exact hx; exact hy; exact hz, fun _ => ⟨B, 0, rfl, fun i hi => by
    match i with
    | 0 => simp [World.cell?, h]
    | 1 => simp [World.cell?, h]
    | 2 => simp [World.cell?, h]
    | n + 3 => simp at hi; omega⟩⟩
theorem ls1_of {W : World} {B : Nat} {x : Int} (hx : i64 x) (h : W.heap[B]? = some (.cells #[.int .i64 x] 3 (0, 0))) : LsAt W (some ⟨B, 0, none⟩) [x] :=
  ⟨by simp, fun u hu => by simp at hu; subst hu; exact hx, fun _ => ⟨B, 0, rfl, fun i hi => by
    match i with
    | 0 => simp [World.cell?, h]
    | n + 1 => simp at hi⟩⟩
def ob2 (x y : Int) : Obj := .cells #[.int .i64 x, .int .i64 y] 3
def obC (B : Nat) : Obj := .cells #[.slice (some ⟨B, 0, none⟩) 2 2, .slice (some ⟨B + 1, 0, none⟩) 2 2, .slice (some ⟨B + 1 + 1, 0, none⟩) 2 2] 35
def obM : Obj := .cells #[.int .i64 1, .int .i64 1, .int .i64 (-1), .int .i64 2, .int .i64 1, .int .i64 0, .int .i64 3, .int .i64 1, .int .i64 1] 46
def w3 (w : World) : World := ((((w.alloc (ob2 (-1) 2)).alloc (ob2 (-1) 3)).alloc (ob2 (-2) (-3))).alloc (obC w.heap.size)).alloc obM
theorem w3_bel (w : World) : Below w.heap.size w (w3 w) := by
  have h1 := below_alloc (w := w) (ob2 (-1) 2)
  have h2 := below_alloc (w := w.alloc (ob2 (-1) 2)) (ob2 (-1) 3)
  have h3 := below_alloc (w := (w.alloc (ob2 (-1) 2)).alloc (ob2 (-1) 3)) (ob2 (-2) (-3))
  have h4 := below_alloc (w := ((w.alloc (ob2 (-1) 2)).alloc (ob2 (-1) 3)).alloc (ob2 (-2) (-3))) (obC w.heap.size)
  have h5 := below_alloc (w := (((w.alloc (ob2 (-1) 2)).alloc (ob2 (-1) 3)).alloc (ob2 (-2) (-3))).alloc (obC w.heap.size)) obM
  have s1 := h1.size; have s2 := h2.size; have s3 := h3.size; have s4 := h4.size
  exact (((h1.trans (h2.mono s1)).trans (h3.mono (by omega))).trans (h4.mono (by omega))).trans (h5.mono (by omega))
theorem w3_at (w : World) : (w3 w).heap[w.heap.size]? = some (ob2 (-1) 2) ∧ (w3 w).heap[w.heap.size + 1]? = some (ob2 (-1) 3) ∧ (w3 w).heap[w.heap.size + 2]? = some (ob2 (-2) (-3)) ∧ (w3 w).heap[w.heap.size + 3]? = some (obC w.heap.size) ∧ (w3 w).heap[w.heap.size + 4]? = some obM := by
  have n1 := heap_alloc_new w (ob2 (-1) 2)
  have n2 := heap_alloc_new (w.alloc (ob2 (-1) 2)) (ob2 (-1) 3)
  have n3 := heap_alloc_new ((w.alloc (ob2 (-1) 2)).alloc (ob2 (-1) 3)) (ob2 (-2) (-3))
  have n4 := heap_alloc_new (((w.alloc (ob2 (-1) 2)).alloc (ob2 (-1) 3)).alloc (ob2 (-2) (-3))) (obC w.heap.size)
  have n5 := heap_alloc_new ((((w.alloc (ob2 (-1) 2)).alloc (ob2 (-1) 3)).alloc (ob2 (-2) (-3))).alloc (obC w.heap.size)) obM
  have h2 := below_alloc (w := w.alloc (ob2 (-1) 2)) (ob2 (-1) 3)
  have h3 := below_alloc (w := (w.alloc (ob2 (-1) 2)).alloc (ob2 (-1) 3)) (ob2 (-2) (-3))
  have h4 := below_alloc (w := ((w.alloc (ob2 (-1) 2)).alloc (ob2 (-1) 3)).alloc (ob2 (-2) (-3))) (obC w.heap.size)
  have h5 := below_alloc (w := (((w.alloc (ob2 (-1) 2)).alloc (ob2 (-1) 3)).alloc (ob2 (-2) (-3))).alloc (obC w.heap.size)) obM
  simp only [size_alloc] at n2 n3 n4 n5 h2 h3 h4 h5
  unfold w3
  refine ⟨?_, ?_, ?_, ?_, n5⟩
  · exact (h5.block _ (by omega)).trans ((h4.block _ (by omega)).trans ((h3.block _ (by omega)).trans ((h2.block _ (by omega)).trans n1)))
  · exact (h5.block _ (by omega)).trans ((h4.block _ (by omega)).trans ((h3.block _ (by omega)).trans n2))
  · exact (h5.block _ (by omega)).trans ((h4.block _ (by omega)).trans n3)
  · exact (h5.block _ (by omega)).trans n4
theorem cs3 (w : World) : CsAt (w3 w) (some ⟨w.heap.size + 3, 0, none⟩) C3 (f3 w.heap.size) := by
  obtain ⟨h0, h1, h2, h3, _⟩ := w3_at w
  refine ⟨by decide, fun i hi => ?_, fun _ => ⟨w.heap.size + 3, 0, rfl, fun i hi => ?_⟩⟩
  · match i with
    | 0 => exact ls2_of (by unfold i64; omega) (by unfold i64; omega) h0
    | 1 => exact ls2_of (by unfold i64; omega) (by unfold i64; omega) h1
    | 2 => exact ls2_of (by unfold i64; omega) (by unfold i64; omega) h2
    | n + 3 => simp [C3] at hi; omega
  · match i with
    | 0 => simp [World.cell?, h3, obC]; exact ⟨rfl, rfl, rfl⟩
    | 1 => simp [World.cell?, h3, obC]; exact ⟨rfl, rfl, rfl⟩
    | 2 => simp [World.cell?, h3, obC]; exact ⟨rfl, rfl, rfl⟩
    | n + 3 => simp [C3] at hi; omega
theorem ms3 (w : World) : MsAt (w3 w) (some ⟨w.heap.size + 4, 0, none⟩) M3 := by
  obtain ⟨_, _, _, _, h4⟩ := w3_at w
  refine ⟨by decide, fun m hm => ?_, fun _ => ⟨w.heap.size + 4, 0, rfl, fun i hi => ?_⟩⟩
  · simp [M3] at hm
    rcases hm with rfl | rfl | rfl <;> (unfold okM i64; simp)
  · match i with
    | 0 => simp [World.cell?, h4, obM]; decide
    | 1 => simp [World.cell?, h4, obM]; decide
    | 2 => simp [World.cell?, h4, obM]; decide
    | n + 3 => simp [M3] at hi; omega
theorem app_agg {w1 : World} {C : List (List Int)} {M : List Mk} {w : World} {e : Ending} (h : FstA w1 C M 2 e w) (hc : Chk C M) (hf : FirstOk C M 2 2 2) : Below w1.heap.size w1 w ∧ ∃ v, e = .returned (.tuple #[v, .int .i64 0]) ∧ LrnAt w w1.heap.size v (fstC C M 2 2) (backF M (fstF C M 2 2)) (fstH C M 2 2) := by
  obtain ⟨hb, ⟨hn, _⟩ | ⟨_, hn, _⟩ | ⟨_, κ, p, hf2, v, rfl, hl⟩⟩ := h
  · exact absurd hc hn
  · exact absurd ⟨2, 2, hf⟩ hn
  · obtain ⟨rfl, rfl⟩ := hf.uniq hf2
    exact ⟨hb, v, rfl, hl⟩
set_option maxHeartbeats 2000000 in
set_option maxRecDepth 100000 in
theorem lives_is (w : World) :
    Calls Try.prog 12 #[] w fun e w' => e = .returned (.bool true) ∧ Below w.heap.size w w' := by
  have G1 := hide' (first_is (some ⟨w.heap.size + 3, 0, none⟩) 3 C3 (f3 w.heap.size) (some ⟨w.heap.size + 4, 0, none⟩) 3 M3 2 (by unfold i64; omega) (w3 w) (cs3 w) (ms3 w) (by decide) (fun i hi => by match i with | 0 => decide | 1 => decide | 2 => decide | n + 3 => (simp [C3] at hi; omega)))
  have B1 := hide' (w3_bel w)
  have GS := hide' (fun a c l a2 c2 m w h h2 => same_is a c l a2 c2 m w h h2)
  go_enter Try.func12, Try.ntmps12
  go_wp2_with fail
  refine Calls.mono G1.out ?_
  intro e w1 h1
  obtain ⟨b1, v, rfl, ow, s1, s2, rfl, hr1, hr2, hlow⟩ := app_agg h1 chk3 first3
  rw [fstC3] at hr1
  rw [fstH3] at hr2
  rw [back3, fstC3, fstH3]
  have L1 := hide' (show LsAt w1 s1.at' [-1] from by obtain ⟨a9, cap9, e9, _, h9⟩ := own_ls hr1.1 (fun x hx => by simp at hx; subst hx; omega) (by decide); unfold SlV.val at e9; injection e9 with e9 _ e8; rw [e9]; exact h9)
  have L2 := hide' (show LsAt w1 s2.at' [2, 1, 0] from by obtain ⟨a9, cap9, e9, _, h9⟩ := own_ls hr2.1 (fun x hx => by simp at hx; rcases hx with rfl | rfl | rfl <;> omega) (by decide); unfold SlV.val at e9; injection e9 with e9 _ e8; rw [e9]; exact h9)
  have BB := hide' (B1.out.trans (b1.mono B1.out.size))
  clear b1 h1 hr1 hr2 hlow G1 B1
  rw [show s1.val [(-1 : Int)].length = .slice s1.at' 1 s1.c from rfl, show s2.val [(2 : Int), 1, 0].length = .slice s2.at' 3 s2.c from rfl]
  obtain ⟨wA, hwA⟩ : ∃ wA, w1.alloc (.cells #[.slice none 0 0, .int .i64 0, .slice none 0 0] 37) = wA := ⟨_, rfl⟩
  have bA := below_alloc (w := w1) (.cells #[.slice none 0 0, .int .i64 0, .slice none 0 0] 37)
  have hrow := heap_alloc_new w1 (.cells #[.slice none 0 0, .int .i64 0, .slice none 0 0] 37)
  rw [hwA] at bA hrow
  obtain ⟨rb, hrb⟩ : ∃ rb, w1.heap.size = rb := ⟨_, rfl⟩
  rw [hrb] at hrow
  have c0 := cell_of_row wA rb 0 _ _ _ hrow
  have c1 := cell_of_row wA rb 1 _ _ _ hrow
  have c2 := cell_of_row wA rb 2 _ _ _ hrow
  simp only [List.getElem?_toArray, List.getElem?_cons_zero, List.getElem?_cons_succ] at c0 c1 c2
  have fzr := fun o => frozen_of_row wA rb o _ _ hrow
  obtain ⟨wS, hwS⟩ : ∃ wS, (((wA.setCell ⟨rb, 0, none⟩ (.slice s1.at' 1 s1.c)).setCell ⟨rb, 1, none⟩ (.int .i64 0)).setCell ⟨rb, 2, none⟩ (.slice s2.at' 3 s2.c)) = wS := ⟨_, rfl⟩
  have hoth : ∀ x, x ≠ rb → wS.heap[x]? = wA.heap[x]? := fun x hx => by rw [← hwS]; exact ((heap_setCell_other _ _ _ _ hx).trans (heap_setCell_other _ _ _ _ hx)).trans (heap_setCell_other _ _ _ _ hx)
  have hrS : wS.heap[rb]? = some (.cells #[.slice s1.at' 1 s1.c, .int .i64 0, .slice s2.at' 3 s2.c] 37 (0, 0)) := by rw [← hwS]; simp [World.setCell, Array.getElem?_modify, hrow]
  have hBS : Below w1.heap.size w1 wS := bA.trans ⟨by rw [← hwS]; rfl, by rw [← hwS]; rfl, by rw [← hwS]; rfl, by rw [← hwS, World.size_setCell, World.size_setCell, World.size_setCell]; exact Nat.le_refl _, fun x hx => hoth x (by omega)⟩
  have q0 := cell_of_row wS rb 0 _ _ _ hrS
  have q1 := cell_of_row wS rb 1 _ _ _ hrS
  have q2 := cell_of_row wS rb 2 _ _ _ hrS
  simp only [List.getElem?_toArray, List.getElem?_cons_zero, List.getElem?_cons_succ] at q0 q1 q2
  have K1 := hide' (L1.out.later hBS)
  have K2 := hide' (L2.out.later hBS)
  have BS := hide' (BB.out.trans (hBS.mono BB.out.size))
  clear hoth hrS hBS L1 L2 BB hrow bA
  have GA := hide' (show Calls Try.prog 13 #[.slice s1.at' 1 s1.c, .slice (some ⟨wS.heap.size, 0, none⟩) 1 1] (wS.alloc (.cells #[.int .i64 (-1)] 3)) (fun e w' => e = .returned (.bool true) ∧ Below wS.heap.size wS w') from by
    have h1 := K1.out.later (below_alloc (w := wS) (.cells #[.int .i64 (-1)] 3))
    have h2 := ls1_of (x := -1) ⟨by omega, by omega⟩ (heap_alloc_new wS (.cells #[.int .i64 (-1)] 3))
    exact (GS.out s1.at' s1.c [-1] _ 1 [-1] _ h1 h2).mono fun e w' h => ⟨h.1, (below_alloc (w := wS) (.cells #[.int .i64 (-1)] 3)).trans (h.2.mono (by rw [size_alloc]; omega))⟩)
  have GB := hide' (show ∀ u : World, Below wS.heap.size wS u → Calls Try.prog 13 #[.slice s2.at' 3 s2.c, .slice (some ⟨u.heap.size, 0, none⟩) 3 3] (u.alloc (.cells #[.int .i64 2, .int .i64 1, .int .i64 0] 3)) (fun e w' => e = .returned (.bool true) ∧ Below u.heap.size u w') from fun u hu => by
    have h1 := (K2.out.later hu).later (below_alloc (w := u) (.cells #[.int .i64 2, .int .i64 1, .int .i64 0] 3))
    have h2 := ls3_of (x := 2) (y := 1) (z := 0) ⟨by omega, by omega⟩ ⟨by omega, by omega⟩ ⟨by omega, by omega⟩ (heap_alloc_new u (.cells #[.int .i64 2, .int .i64 1, .int .i64 0] 3))
    exact (GS.out s2.at' s2.c [2, 1, 0] _ 3 [2, 1, 0] _ h1 h2).mono fun e w' h => ⟨h.1, (below_alloc (w := u) (.cells #[.int .i64 2, .int .i64 1, .int .i64 0] 3)).trans (h.2.mono (by rw [size_alloc]; omega))⟩)
  clear GS K1 K2
  go_wp2_with fail
  refine GA.out.mono ?_
  rintro e w5 ⟨rfl, b5⟩
  have q1 := below_cell b5 q1
  have q2 := below_cell b5 q2
  have GB5 := hide' (GB.out w5 b5)
  have B5 := hide' (BS.out.trans (b5.mono BS.out.size))
  clear GA GB b5
  go_wp2_with fail
  refine GB5.out.mono ?_
  rintro e w6 ⟨rfl, b6⟩
  have B6 := hide' (B5.out.trans (b6.mono B5.out.size))
  clear b6 GB5
  go_wp2
  go_ret
  exact ⟨rfl, B6.out⟩
end Go.Proofs.Ytbcbgglhhfdbcab
