/-
  analyse: First.
-/
import Derived.Test.YtbcbgglhhfdbcabANF
import Derived.Test.YtbcbgglhhfdbcabAG1
import Derived.Test.YtbcbgglhhfdbcabAND
namespace Go.Proofs.Ytbcbgglhhfdbcab
open Go.RowKit Go.Shelf
set_option linter.unusedVariables false
set_option linter.unusedSimpArgs false
/-- the places of a clause's literals -/
def plcS (C : List (List Int)) (M : List Mk) (κ : Nat) : Nat → Bool := inL ((C.getD κ []).map (fun x => plV M (-x)))
/-- a conflict that teaches, from its greatest place on -/
structure FirstOk (C : List (List Int)) (M : List Mk) (k : Int) (κ p : Nat) : Prop where
  e : k = (κ : Int)
  lt : κ < C.length
  fls : (C.getD κ []).all (flsV M) = true
  tp : top (plcS C M κ) M.length = some p
  lev : levF M p ≠ 0
theorem FirstOk.uniq {C : List (List Int)} {M : List Mk} {k : Int} {κ p κ' p' : Nat} (h : FirstOk C M k κ p) (h' : FirstOk C M k κ' p') : κ = κ' ∧ p = p' := by
  have e : κ = κ' := by have := h.e; have := h'.e; omega
  subst e
  have := h.tp
  rw [h'.tp] at this
  injection this with this
  exact ⟨rfl, this.symm⟩
def lrnC (M : List Mk) (p : Nat) (F : List Nat) : List Int := (-litF M p) :: F.map (fun z => -litF M z)
def backF (M : List Mk) : List Nat → Int
  | [] => 0
  | z :: _ => levF M z
/-- the first point, its set, the chain up to it -/
def fstU (C : List (List Int)) (M : List Mk) (κ p : Nat) : Nat × (Nat → Bool) × List Int := uip (levF M) (cauB C M) (rsnF M) p (plcS C M κ) [(κ : Int)]
def fstF (C : List (List Int)) (M : List Mk) (κ p : Nat) : List Nat := fallN (levF M) (fstU C M κ p).1 (fstU C M κ p).2.1
def fstC (C : List (List Int)) (M : List Mk) (κ p : Nat) : List Int := lrnC M (fstU C M κ p).1 (fstF C M κ p)
def fstH (C : List (List Int)) (M : List Mk) (κ p : Nat) : List Int := clF (levF M) (cauB C M) (rsnF M) (fstU C M κ p).1 (fstU C M κ p).2.1 (fstU C M κ p).2.2
def ZL : Value := .agg #[.slice none 0 0, .int .i64 0, .slice none 0 0]
/-- a lesson in memory -/
def LrnAt (w : World) (B : Nat) (v : Value) (cl : List Int) (bk : Int) (ch : List Int) : Prop :=
  ∃ (ow : Nat → Nat) (s1 s2 : SlV), v = .agg #[s1.val cl.length, .int .i64 bk, s2.val ch.length] ∧ RowAt w ow 4 3 1 s1 cl.length (iv cl) ∧ RowAt w ow 3 3 1 s2 ch.length (iv ch) ∧ ∀ x, x < B → ow x = 0
/-- what First tells -/
def FstA (w : World) (C : List (List Int)) (M : List Mk) (k : Int) (e : Ending) (w' : World) : Prop := Below w.heap.size w w' ∧
  ((¬ Chk C M ∧ e = .returned (.tuple #[ZL, .int .i64 200])) ∨ (Chk C M ∧ (¬ ∃ κ p, FirstOk C M k κ p) ∧ e = .returned (.tuple #[ZL, .int .i64 210])) ∨
   (Chk C M ∧ ∃ κ p, FirstOk C M k κ p ∧ ∃ v, e = .returned (.tuple #[v, .int .i64 0]) ∧ LrnAt w' w.heap.size v (fstC C M κ p) (backF M (fstF C M κ p)) (fstH C M κ p)))
/-- the queue beside what came in -/
structure St (wT : World) (q N : Nat) (L : List Int) (W : World) (ow : Nat → Nat) : Prop where
  fa : FaAt W ow 2 q N L
  low : ∀ x, x < wT.heap.size → ow x = 0
  hi : ∀ x, W.heap.size ≤ x → ow x = 0
  bel : Below wT.heap.size wT W
section
variable {wT W W' : World} {q N N' t : Nat} {L L' : List Int} {ow ow' : Nat → Nat}
theorem St.later (h : St wT q N L W ow) (hb : Below W.heap.size W W') : St wT q N L W' ow := ⟨h.fa.later hb, h.low, fun x hx => h.hi x (Nat.le_trans hb.size hx), h.bel.trans (hb.mono h.bel.size)⟩
theorem St.step (h : St wT q N L W ow) (k : App ow ow' 2 W W') (f : FaAt W' ow' 2 q N' L') : St wT q N' L' W' ow' := ⟨f, k.low h.low h.bel.size, k.hi h.hi, h.bel.trans (k.bel h.low h.bel.size (by decide))⟩
theorem St.other (h : St wT q N L W ow) (k : App ow ow' t W W') (h2 : t ≠ 2) (h0 : t ≠ 0) : St wT q N L W' ow' := ⟨h.fa.far k (Ne.symm h2), k.low h.low h.bel.size, k.hi h.hi, h.bel.trans (k.bel h.low h.bel.size h0)⟩
theorem St.mono (h : St wT q N L W ow) (hN : N ≤ N') : St wT q N' L W ow := ⟨h.fa.mono hN, h.low, h.hi, h.bel⟩
end
/-- a list of one -/
theorem row_one (w : World) (ow : Nat → Nat) (t : Nat) (x : Int) : RowAt (w.alloc (.cells #[.int .i64 x] 3)) (setO ow w.heap.size t) t 3 1 ⟨some w.heap.size, 1⟩ 1 (iv [x]) :=
  ⟨⟨rfl, Or.inr ⟨w.heap.size, 1, #[.int .i64 x], rfl, Nat.zero_le _, heap_alloc_new w _, Nat.le_refl _, by simp [maxLen], rfl, rfl⟩⟩, fun g hg => by injection hg with hg; subst hg; exact setO_same _ _ _⟩
set_option maxHeartbeats 16000000 in
set_option maxRecDepth 100000 in
theorem first_is (a : Option Addr) (ca : Nat) (C : List (List Int)) (f : Nat → Option Addr × Nat) (ma : Option Addr) (mc : Nat) (M : List Mk) (k : Int) (hk : i64 k) (w : World) (hC : CsAt w a C f) (hM : MsAt w ma M) (hM9 : M.length ≤ 1048575) (hCl : ∀ i, i < C.length → (C.getD i []).length ≤ 1048576) :
    Calls Try.prog 14 #[.slice a C.length ca, .slice ma M.length mc, .int .i64 k] w fun e w' => FstA w C M k e w' := by
  obtain ⟨TQ, hTQ⟩ : ∃ TQ, FstA w C M k = TQ := ⟨_, rfl⟩
  rw [hTQ]
  replace hTQ := hide' hTQ
  unfold i64 at hk
  obtain ⟨wA, hwA⟩ : ∃ wA, w.alloc (.cells #[.slice none 0 0, .int .i64 0, .slice none 0 0] 37) = wA := ⟨_, rfl⟩
  have bA := below_alloc (w := w) (.cells #[.slice none 0 0, .int .i64 0, .slice none 0 0] 37)
  have nA := heap_alloc_new w (.cells #[.slice none 0 0, .int .i64 0, .slice none 0 0] 37)
  have sA := size_alloc w (.cells #[.slice none 0 0, .int .i64 0, .slice none 0 0] 37)
  rw [hwA] at bA nA sA
  have GR := hide' (read_is a ca C f ma mc M wA (hC.later bA) (hM.later bA) hM9)
  have HCM := hide' (And.intro hC (And.intro hM hCl))
  clear hC hM hCl
  obtain ⟨n, hn⟩ : ∃ n, M.length = n := ⟨_, rfl⟩
  obtain ⟨Cn, hCn⟩ : ∃ n, C.length = n := ⟨_, rfl⟩
  rw [hn, hCn] at GR ⊢
  rw [hn] at hM9
  replace hn := hide' hn
  replace hCn := hide' hCn
  obtain ⟨rb, hrb⟩ : ∃ rb, w.heap.size = rb := ⟨_, rfl⟩
  rw [hrb] at nA sA bA
  go_enter Try.func14, Try.ntmps14
  go_wp2_with fail
  try rw [hwA]
  try rw [hrb]
  refine GR.out.mono ?_
  rintro e w1 ⟨b1, ⟨hbad, rfl⟩ | ⟨hgood, b, rfl, hT⟩⟩
  · have hrow := (b1.block rb (by omega)).trans nA
    have c0 := cell_of_row w1 rb 0 _ _ _ hrow
    have c1 := cell_of_row w1 rb 1 _ _ _ hrow
    have c2 := cell_of_row w1 rb 2 _ _ _ hrow
    simp only [List.getElem?_toArray, List.getElem?_cons_zero, List.getElem?_cons_succ] at c0 c1 c2
    have fzr := fun o => frozen_of_row w1 rb o _ _ hrow
    obtain ⟨wS, hwS⟩ : ∃ wS, (((w1.setCell ⟨rb, 0, none⟩ (.slice none 0 0)).setCell ⟨rb, 1, none⟩ (.int .i64 0)).setCell ⟨rb, 2, none⟩ (.slice none 0 0)) = wS := ⟨_, rfl⟩
    have hoth : ∀ x, x ≠ rb → wS.heap[x]? = w1.heap[x]? := fun x hx => by rw [← hwS]; exact ((heap_setCell_other _ _ _ _ hx).trans (heap_setCell_other _ _ _ _ hx)).trans (heap_setCell_other _ _ _ _ hx)
    have hrS : wS.heap[rb]? = some (.cells #[.slice none 0 0, .int .i64 0, .slice none 0 0] 37 (0, 0)) := by rw [← hwS]; simp [World.setCell, Array.getElem?_modify, hrow]
    have hBS : Below rb w wS := (bA.trans (b1.mono (by omega))).trans ⟨by rw [← hwS]; rfl, by rw [← hwS]; rfl, by rw [← hwS]; rfl, by rw [← hwS, World.size_setCell, World.size_setCell, World.size_setCell]; exact Nat.le_refl _, fun x hx => hoth x (by omega)⟩
    have q0 := cell_of_row wS rb 0 _ _ _ hrS
    have q1 := cell_of_row wS rb 1 _ _ _ hrS
    have q2 := cell_of_row wS rb 2 _ _ _ hrS
    simp only [List.getElem?_toArray, List.getElem?_cons_zero, List.getElem?_cons_succ] at q0 q1 q2
    have HX := hide' (show TQ (.returned (.tuple #[.agg #[.slice none 0 0, .int .i64 0, .slice none 0 0], .int .i64 200])) wS from by rw [← hTQ.out]; exact ⟨by rw [hrb]; exact hBS, Or.inl ⟨hbad, rfl⟩⟩)
    clear hoth hrS hBS
    go_wp2
    try rw [hwS]
    first | exact HX.out | (refine bodyPost_ret (v := .tuple #[.agg #[.slice none 0 0, .int .i64 0, .slice none 0 0], .int .i64 200]) (by rw [results_ct rfl]; go_simp) rfl ?_; exact HX.out)
  · have hrow := (b1.block rb (by omega)).trans nA
    have c0 := cell_of_row w1 rb 0 _ _ _ hrow
    have c1 := cell_of_row w1 rb 1 _ _ _ hrow
    have c2 := cell_of_row w1 rb 2 _ _ _ hrow
    simp only [List.getElem?_toArray, List.getElem?_cons_zero, List.getElem?_cons_succ] at c0 c1 c2
    have fzr := fun o => frozen_of_row w1 rb o _ _ hrow
    have hbT := hide' (bA.trans (b1.mono (show rb ≤ wA.heap.size by omega)))
    have HRW := hide' (show rb ≤ w1.heap.size from Nat.le_trans (show rb ≤ wA.heap.size by omega) b1.size)
    obtain ⟨base, G, N0, hT⟩ := hT
    have hd := Chk.dst hgood
    have HT := hide' hT
    have HCW := hide' (And.intro (HCM.out.1.later (by rw [hrb]; exact hbT.out)) (HCM.out.2.1.later (by rw [hrb]; exact hbT.out)))
    have HROW := hide' hrow
    clear hT
    have GIP := hide' (fun w => isPlace_is k a Cn ca w)
    clear hrow c0 c1 c2 fzr
    by_cases hp : 0 ≤ k ∧ k < (Cn : Int)
    rotate_left
    · have eb : (decide (0 ≤ k) && decide (k < (Cn : Int))) = false := by rw [Bool.eq_false_iff]; intro q; rw [Bool.and_eq_true, decide_eq_true_eq, decide_eq_true_eq] at q; exact hp q
      have hno := hide' (show ¬ ∃ κ p, FirstOk C M k κ p from fun ⟨κ, p, h⟩ => hp ⟨by have := h.e; omega, by have := h.e; have := h.lt; rw [hCn.out] at this; omega⟩)
      have GIP1 := hide' (GIP.out w1)
      rw [eb] at GIP1
      clear eb hp GIP
      go_wp2_with fail
      refine GIP1.out.mono ?_
      rintro e wq ⟨rfl, hwq⟩
      rw [hwq]
      clear hwq
      have hrow := (((Below.refl w1.heap.size w1)).block rb (Array.getElem?_eq_some_iff.1 HROW.out).1).trans HROW.out
      have c0 := cell_of_row w1 rb 0 _ _ _ hrow
      have c1 := cell_of_row w1 rb 1 _ _ _ hrow
      have c2 := cell_of_row w1 rb 2 _ _ _ hrow
      simp only [List.getElem?_toArray, List.getElem?_cons_zero, List.getElem?_cons_succ] at c0 c1 c2
      have fzr := fun o => frozen_of_row w1 rb o _ _ hrow
      obtain ⟨wS, hwS⟩ : ∃ wS, (((w1.setCell ⟨rb, 0, none⟩ (.slice none 0 0)).setCell ⟨rb, 1, none⟩ (.int .i64 0)).setCell ⟨rb, 2, none⟩ (.slice none 0 0)) = wS := ⟨_, rfl⟩
      have hoth : ∀ x, x ≠ rb → wS.heap[x]? = w1.heap[x]? := fun x hx => by rw [← hwS]; exact ((heap_setCell_other _ _ _ _ hx).trans (heap_setCell_other _ _ _ _ hx)).trans (heap_setCell_other _ _ _ _ hx)
      have hrS : wS.heap[rb]? = some (.cells #[.slice none 0 0, .int .i64 0, .slice none 0 0] 37 (0, 0)) := by rw [← hwS]; simp [World.setCell, Array.getElem?_modify, hrow]
      have hBS : Below rb w wS := (hbT.out.trans (((Below.refl w1.heap.size w1)).mono HRW.out)).trans ⟨by rw [← hwS]; rfl, by rw [← hwS]; rfl, by rw [← hwS]; rfl, by rw [← hwS, World.size_setCell, World.size_setCell, World.size_setCell]; exact Nat.le_refl _, fun x hx => hoth x (by omega)⟩
      have q0 := cell_of_row wS rb 0 _ _ _ hrS
      have q1 := cell_of_row wS rb 1 _ _ _ hrS
      have q2 := cell_of_row wS rb 2 _ _ _ hrS
      simp only [List.getElem?_toArray, List.getElem?_cons_zero, List.getElem?_cons_succ] at q0 q1 q2
      have HX := hide' (show TQ (.returned (.tuple #[.agg #[.slice none 0 0, .int .i64 0, .slice none 0 0], .int .i64 210])) wS from by rw [← hTQ.out]; exact ⟨by rw [hrb]; exact hBS, Or.inr (Or.inl ⟨hgood, hno.out, rfl⟩)⟩)
      clear hoth hrS hBS
      go_wp2
      try rw [hwS]
      first | exact HX.out | (refine bodyPost_ret (v := .tuple #[.agg #[.slice none 0 0, .int .i64 0, .slice none 0 0], .int .i64 210]) (by rw [results_ct rfl]; go_simp) rfl ?_; exact HX.out)
    · obtain ⟨κ, rfl⟩ : ∃ κ : Nat, k = (κ : Int) := ⟨k.toNat, by omega⟩
      have hκ : κ < C.length := by rw [hCn.out]; omega
      have eb : (decide (0 ≤ (κ : Int)) && decide ((κ : Int) < (Cn : Int))) = true := by rw [Bool.and_eq_true, decide_eq_true_eq, decide_eq_true_eq]; exact hp
      have GIP1 := hide' (GIP.out w1)
      rw [eb] at GIP1
      clear eb GIP
      have hcl := HCM.out.2.2 κ hκ
      obtain ⟨bc, oc, e9, cK, hL⟩ := HCW.out.1.el rfl hκ
      have GB := hide' (isBroken_is base b G N0 (.slice a Cn ca) (.slice ma n mc) M (f κ).1 (f κ).2 (C.getD κ []) w1 HT.out hd hL)
      have HOKI := hide' (show ∀ p, top (plcS C M κ) M.length = some p → levF M p ≠ 0 → (C.getD κ []).all (flsV M) = true → FirstOk C M (κ : Int) κ p from fun p h1 h2 h3 => ⟨rfl, hκ, h3, h1, h2⟩)
      have HOKE := hide' (show ∀ κ' p, FirstOk C M (κ : Int) κ' p → (C.getD κ []).all (flsV M) = true ∧ top (plcS C M κ) M.length = some p ∧ levF M p ≠ 0 from fun κ' p h => by have e9 : κ' = κ := (by have := h.e; omega); subst e9; exact ⟨h.fls, h.tp, h.lev⟩)
      have hS0 : ∀ z : Nat, plcS C M κ z = true ↔ ∃ x ∈ C.getD κ [], plV M (-x) = z := fun z => by unfold plcS; rw [inL_iff, List.mem_map]
      replace hS0 := hide' hS0
      obtain ⟨c, hc⟩ : ∃ c, C.getD κ [] = c := ⟨_, rfl⟩
      rw [hc] at hcl cK hL GB HOKI HOKE hS0
      clear hc
      obtain ⟨⟨f1, f2⟩, hf12⟩ : ∃ x, f κ = x := ⟨_, rfl⟩
      rw [hf12] at cK hL GB
      simp only at cK hL GB
      clear hf12
      obtain ⟨cn, hcn⟩ : ∃ m, c.length = m := ⟨_, rfl⟩
      rw [hcn] at hcl cK GB
      have HLc := hide' hL
      replace hcn := hide' hcn
      clear hL
      have i1 : (κ : Int) < (Cn : Int) := hp.2
      have i0 : (0 : Int) ≤ (κ : Int) := hp.1
      clear hp
      subst e9
      cases hbr : c.all (flsV M)
      · rw [hbr] at GB
        have hno := hide' (show ¬ ∃ κ' p, FirstOk C M (κ : Int) κ' p from fun ⟨κ', p, h⟩ => by have h9 := (HOKE.out κ' p h).1; rw [hbr] at h9; cases h9)
        clear hbr
        go_wp2_with fail
        refine GIP1.out.mono ?_
        rintro e wq ⟨rfl, hwq⟩
        rw [hwq]
        clear hwq
        go_wp2_with fail
        refine GB.out.mono ?_
        rintro e wq ⟨rfl, hwq⟩
        rw [hwq]
        clear hwq
        have hrow := (((Below.refl w1.heap.size w1)).block rb (Array.getElem?_eq_some_iff.1 HROW.out).1).trans HROW.out
        have c0 := cell_of_row w1 rb 0 _ _ _ hrow
        have c1 := cell_of_row w1 rb 1 _ _ _ hrow
        have c2 := cell_of_row w1 rb 2 _ _ _ hrow
        simp only [List.getElem?_toArray, List.getElem?_cons_zero, List.getElem?_cons_succ] at c0 c1 c2
        have fzr := fun o => frozen_of_row w1 rb o _ _ hrow
        obtain ⟨wS, hwS⟩ : ∃ wS, (((w1.setCell ⟨rb, 0, none⟩ (.slice none 0 0)).setCell ⟨rb, 1, none⟩ (.int .i64 0)).setCell ⟨rb, 2, none⟩ (.slice none 0 0)) = wS := ⟨_, rfl⟩
        have hoth : ∀ x, x ≠ rb → wS.heap[x]? = w1.heap[x]? := fun x hx => by rw [← hwS]; exact ((heap_setCell_other _ _ _ _ hx).trans (heap_setCell_other _ _ _ _ hx)).trans (heap_setCell_other _ _ _ _ hx)
        have hrS : wS.heap[rb]? = some (.cells #[.slice none 0 0, .int .i64 0, .slice none 0 0] 37 (0, 0)) := by rw [← hwS]; simp [World.setCell, Array.getElem?_modify, hrow]
        have hBS : Below rb w wS := (hbT.out.trans (((Below.refl w1.heap.size w1)).mono HRW.out)).trans ⟨by rw [← hwS]; rfl, by rw [← hwS]; rfl, by rw [← hwS]; rfl, by rw [← hwS, World.size_setCell, World.size_setCell, World.size_setCell]; exact Nat.le_refl _, fun x hx => hoth x (by omega)⟩
        have q0 := cell_of_row wS rb 0 _ _ _ hrS
        have q1 := cell_of_row wS rb 1 _ _ _ hrS
        have q2 := cell_of_row wS rb 2 _ _ _ hrS
        simp only [List.getElem?_toArray, List.getElem?_cons_zero, List.getElem?_cons_succ] at q0 q1 q2
        have HX := hide' (show TQ (.returned (.tuple #[.agg #[.slice none 0 0, .int .i64 0, .slice none 0 0], .int .i64 210])) wS from by rw [← hTQ.out]; exact ⟨by rw [hrb]; exact hBS, Or.inr (Or.inl ⟨hgood, hno.out, rfl⟩)⟩)
        clear hoth hrS hBS
        go_wp2
        try rw [hwS]
        first | exact HX.out | (refine bodyPost_ret (v := .tuple #[.agg #[.slice none 0 0, .int .i64 0, .slice none 0 0], .int .i64 210]) (by rw [results_ct rfl]; go_simp) rfl ?_; exact HX.out)
      · have hall := List.all_eq_true.1 hbr
        rw [hbr] at GB
        have HALL := hide' hall
        have HBR := hide' hbr
        clear hall hbr
        go_wp2_with fail
        refine GIP1.out.mono ?_
        rintro e wq ⟨rfl, hwq⟩
        rw [hwq]
        clear hwq
        go_wp2_with fail
        refine GB.out.mono ?_
        rintro e wq ⟨rfl, hwq⟩
        rw [hwq]
        clear hwq GIP1 GB
        have GNF := hide' (newFalling_is (fun _ => 0) 2 w1)
        go_wp2_with fail
        refine GNF.out.mono ?_
        rintro e w2 ⟨q, ow0, rfl, hF0, hA0, hq0, hb2⟩
        clear GNF
        have HS0 := hide' (show St w1 q 0 [] w2 ow0 from ⟨hF0, hA0.low (fun _ _ => rfl) (Nat.le_refl _), hA0.hi (fun _ _ => rfl), hb2⟩)
        have cK2 := below_cell hb2 cK
        clear hF0 hA0 hq0 hb2 cK
        have hcn1 : cn ≤ 17592186044416 := by omega
        go_wp2_with fail
        go_loopw [46] (fun vi wr => ∃ (j : Nat) (ow : Nat → Nat) (L : List Int), j ≤ cn ∧ vi = .int .i64 j ∧ St w1 q j L wr ow ∧ (∀ z : Int, z ∈ L ↔ ∃ x ∈ c.take j, plV M (-x) = z)) (fun vi _ => cn - (intOf vi).toNat)
        case atStart => exact ⟨0, ow0, [], Nat.zero_le _, rfl, HS0.out, fun z => by simp⟩
        case round =>
          clear HS0 cK2
          obtain ⟨j, ow, L, hj, rfl, hS, hmem⟩ := hrel
          have HS := hide' hS
          have HME := hide' hmem
          clear hS hmem
          by_cases hlt : j < cn
          · obtain ⟨bb, off, rfl, ck, hlo, hhi⟩ := HLc.out.el hcn.out hlt
            replace ck := below_cell HS.out.bel ck
            have HST := hide' (take_snoc c 0 hcn.out hlt)
            have hfy := HALL.out (c.getD j 0) (getD_mem (by rw [hcn.out]; exact hlt))
            obtain ⟨y, hy⟩ : ∃ y, c.getD j 0 = y := ⟨_, rfl⟩
            rw [hy] at ck hlo hhi HST hfy
            clear hy
            obtain ⟨hly, z9, hzM, hzv, _⟩ := flsV_at hfy
            rw [hn.out] at hzM
            have GP := hide' (placeOf_is base b G N0 (.slice _ Cn ca) (.slice ma n mc) M y ⟨hlo, hhi⟩ hfy z9 hzv (by omega) wr (HT.out.later HS.out.bel) hd)
            have GPU := hide' (fput_is ow 2 q j L (z9 : Int) ⟨by omega, by omega⟩ (by decide) (by omega) wr HS.out.fa)
            replace hzv := hide' hzv
            clear hfy hly hzM
            have i3 : (j : Int) < (cn : Int) := by omega
            have i4 : (0 : Int) ≤ (j : Int) := by omega
            go_wp2_with fail
            refine GP.out.mono ?_
            rintro e wq ⟨rfl, hwq⟩
            rw [hwq]
            clear hwq
            go_wp2_with fail
            refine GPU.out.mono ?_
            rintro e w5 ⟨⟨v, rfl⟩, ow5, L5, k1, k2, k3⟩
            have HX := hide' (show St w1 q (j + 1) L5 w5 ow5 ∧ ∀ z : Int, z ∈ L5 ↔ ∃ x ∈ c.take (j + 1), plV M (-x) = z from ⟨HS.out.step k3 k1, fun z => by rw [k2 z, HME.out z, HST.out]; simp only [List.mem_append, List.mem_singleton]; constructor; (rintro (e | ⟨x, hx, e⟩); exact ⟨y, Or.inr rfl, hzv.out.trans e.symm⟩; exact ⟨x, Or.inl hx, e⟩); (rintro ⟨x, hx | rfl, e⟩; exact Or.inr ⟨x, hx, e⟩; exact Or.inl (e.symm.trans hzv.out))⟩)
            clear k1 k2 k3
            go_wp2
            go_roundw
            case rel => exact ⟨j + 1, ow5, L5, by omega, by go_num, HX.out.1, HX.out.2⟩
            case measure => simp only [intOf]; omega
          · obtain rfl : j = cn := by omega
            have i9 : ¬ (j : Int) < (j : Int) := by omega
            have HLS := hide' (show LofS L n (plcS C M κ) from fun z => by
                rw [HME.out z, take_all c hcn.out]
                constructor
                · rintro ⟨x, hx, rfl⟩
                  obtain ⟨_, z8, h7, h8, _⟩ := flsV_at (HALL.out x hx)
                  rw [h8]; exact ⟨by omega, by rw [hn.out] at h7; omega, by rw [Int.toNat_natCast, hS0.out]; exact ⟨x, hx, h8⟩⟩
                · rintro ⟨h1, h2, h3⟩; obtain ⟨x, hx, e⟩ := (hS0.out _).1 h3; exact ⟨x, hx, by omega⟩)
            obtain ⟨m0, s0, hR0⟩ := HS.out.fa.raw
            have GE := hide' (fempty_is ow 2 q m0 j s0 _ L wr hR0)
            by_cases hL0 : L.length = 0
            · have hno := hide' (show ¬ ∃ κ' p, FirstOk C M (κ : Int) κ' p from fun ⟨κ', p, h⟩ => by have h9 := (HOKE.out κ' p h).2.1; rw [hn.out, HLS.out.none.2 (List.eq_nil_of_length_eq_zero hL0)] at h9; cases h9)
              rw [decide_eq_true hL0] at GE
              have HBB := hide' HS.out.bel
              clear hL0
              go_wp2_with fail
              refine GE.out.mono ?_
              rintro e wq ⟨rfl, hwq⟩
              rw [hwq]
              clear hwq
              have hrow := ((HBB.out).block rb (Array.getElem?_eq_some_iff.1 HROW.out).1).trans HROW.out
              have c0 := cell_of_row wr rb 0 _ _ _ hrow
              have c1 := cell_of_row wr rb 1 _ _ _ hrow
              have c2 := cell_of_row wr rb 2 _ _ _ hrow
              simp only [List.getElem?_toArray, List.getElem?_cons_zero, List.getElem?_cons_succ] at c0 c1 c2
              have fzr := fun o => frozen_of_row wr rb o _ _ hrow
              obtain ⟨wS, hwS⟩ : ∃ wS, (((wr.setCell ⟨rb, 0, none⟩ (.slice none 0 0)).setCell ⟨rb, 1, none⟩ (.int .i64 0)).setCell ⟨rb, 2, none⟩ (.slice none 0 0)) = wS := ⟨_, rfl⟩
              have hoth : ∀ x, x ≠ rb → wS.heap[x]? = wr.heap[x]? := fun x hx => by rw [← hwS]; exact ((heap_setCell_other _ _ _ _ hx).trans (heap_setCell_other _ _ _ _ hx)).trans (heap_setCell_other _ _ _ _ hx)
              have hrS : wS.heap[rb]? = some (.cells #[.slice none 0 0, .int .i64 0, .slice none 0 0] 37 (0, 0)) := by rw [← hwS]; simp [World.setCell, Array.getElem?_modify, hrow]
              have hBS : Below rb w wS := (hbT.out.trans ((HBB.out).mono HRW.out)).trans ⟨by rw [← hwS]; rfl, by rw [← hwS]; rfl, by rw [← hwS]; rfl, by rw [← hwS, World.size_setCell, World.size_setCell, World.size_setCell]; exact Nat.le_refl _, fun x hx => hoth x (by omega)⟩
              have q0 := cell_of_row wS rb 0 _ _ _ hrS
              have q1 := cell_of_row wS rb 1 _ _ _ hrS
              have q2 := cell_of_row wS rb 2 _ _ _ hrS
              simp only [List.getElem?_toArray, List.getElem?_cons_zero, List.getElem?_cons_succ] at q0 q1 q2
              have HX := hide' (show TQ (.returned (.tuple #[.agg #[.slice none 0 0, .int .i64 0, .slice none 0 0], .int .i64 210])) wS from by rw [← hTQ.out]; exact ⟨by rw [hrb]; exact hBS, Or.inr (Or.inl ⟨hgood, hno.out, rfl⟩)⟩)
              clear hoth hrS hBS
              go_wp2
              try rw [hwS]
              first | exact HX.out | (refine bodyPost_ret (v := .tuple #[.agg #[.slice none 0 0, .int .i64 0, .slice none 0 0], .int .i64 210]) (by rw [results_ct rfl]; go_simp) rfl ?_; exact HX.out)
            · rw [decide_eq_false hL0] at GE
              obtain ⟨p, hpt, htop⟩ := HLS.out.top HS.out.fa.hp (by omega)
              have GG := hide' (fgreat_is ow 2 q m0 j s0 _ L wr hR0 (by omega))
              rw [hpt] at GG
              have hpn : p < n := (top_some htop).1
              obtain ⟨bq, off, rfl, ⟨_, ckL, _⟩, _⟩ := HCW.out.2.el hn.out hpn
              replace ckL := below_cell HS.out.bel ckL
              have hlevp : (M.getD p default).v = levF M p := rfl
              rw [hlevp] at ckL
              have i7 : (p : Int) < (n : Int) := by omega
              have i8 : (0 : Int) ≤ (p : Int) := by omega
              replace hpt := hide' hpt
              replace htop := hide' htop
              have hL1 := hide' hL0
              clear hL0 hlevp
              obtain ⟨m, hm⟩ : ∃ m, levF M p = m := ⟨_, rfl⟩
              rw [hm] at ckL
              have HM0 := hide' hm
              clear hm
              by_cases hm0 : m = 0
              · have hno := hide' (show ¬ ∃ κ' p, FirstOk C M (κ : Int) κ' p from fun ⟨κ', p', h⟩ => by have h9 := HOKE.out κ' p' h; rw [hn.out, htop.out] at h9; have h8 := h9.2.1; injection h8 with h8; subst h8; exact h9.2.2 (HM0.out.trans hm0))
                subst hm0
                have HBB := hide' HS.out.bel
                go_wp2_with fail
                refine GE.out.mono ?_
                rintro e wq ⟨rfl, hwq⟩
                rw [hwq]
                clear hwq
                go_wp2_with fail
                refine GG.out.mono ?_
                rintro e wq ⟨rfl, hwq⟩
                rw [hwq]
                clear hwq
                have hrow := ((HBB.out).block rb (Array.getElem?_eq_some_iff.1 HROW.out).1).trans HROW.out
                have c0 := cell_of_row wr rb 0 _ _ _ hrow
                have c1 := cell_of_row wr rb 1 _ _ _ hrow
                have c2 := cell_of_row wr rb 2 _ _ _ hrow
                simp only [List.getElem?_toArray, List.getElem?_cons_zero, List.getElem?_cons_succ] at c0 c1 c2
                have fzr := fun o => frozen_of_row wr rb o _ _ hrow
                obtain ⟨wS, hwS⟩ : ∃ wS, (((wr.setCell ⟨rb, 0, none⟩ (.slice none 0 0)).setCell ⟨rb, 1, none⟩ (.int .i64 0)).setCell ⟨rb, 2, none⟩ (.slice none 0 0)) = wS := ⟨_, rfl⟩
                have hoth : ∀ x, x ≠ rb → wS.heap[x]? = wr.heap[x]? := fun x hx => by rw [← hwS]; exact ((heap_setCell_other _ _ _ _ hx).trans (heap_setCell_other _ _ _ _ hx)).trans (heap_setCell_other _ _ _ _ hx)
                have hrS : wS.heap[rb]? = some (.cells #[.slice none 0 0, .int .i64 0, .slice none 0 0] 37 (0, 0)) := by rw [← hwS]; simp [World.setCell, Array.getElem?_modify, hrow]
                have hBS : Below rb w wS := (hbT.out.trans ((HBB.out).mono HRW.out)).trans ⟨by rw [← hwS]; rfl, by rw [← hwS]; rfl, by rw [← hwS]; rfl, by rw [← hwS, World.size_setCell, World.size_setCell, World.size_setCell]; exact Nat.le_refl _, fun x hx => hoth x (by omega)⟩
                have q0 := cell_of_row wS rb 0 _ _ _ hrS
                have q1 := cell_of_row wS rb 1 _ _ _ hrS
                have q2 := cell_of_row wS rb 2 _ _ _ hrS
                simp only [List.getElem?_toArray, List.getElem?_cons_zero, List.getElem?_cons_succ] at q0 q1 q2
                have HX := hide' (show TQ (.returned (.tuple #[.agg #[.slice none 0 0, .int .i64 0, .slice none 0 0], .int .i64 210])) wS from by rw [← hTQ.out]; exact ⟨by rw [hrb]; exact hBS, Or.inr (Or.inl ⟨hgood, hno.out, rfl⟩)⟩)
                clear hoth hrS hBS
                go_wp2
                try rw [hwS]
                first | exact HX.out | (refine bodyPost_ret (v := .tuple #[.agg #[.slice none 0 0, .int .i64 0, .slice none 0 0], .int .i64 210]) (by rw [results_ct rfl]; go_simp) rfl ?_; exact HX.out)
              · have em0 : (m == 0) = false := by simp [hm0]
                have HOK := hide' (HOKI.out p (by rw [hn.out]; exact htop.out) (by rw [HM0.out]; exact hm0) HBR.out)
                replace hm0 := hide' hm0
                go_wp2_with fail
                refine GE.out.mono ?_
                rintro e wq ⟨rfl, hwq⟩
                rw [hwq]
                clear hwq
                go_wp2_with fail
                refine GG.out.mono ?_
                rintro e wq ⟨rfl, hwq⟩
                rw [hwq]
                clear hwq GE GG
                obtain ⟨wc, hwc⟩ : ∃ wc, wr.alloc (.cells #[.int .i64 (κ : Int)] 3) = wc := ⟨_, rfl⟩
                have bc := below_alloc (w := wr) (.cells #[.int .i64 (κ : Int)] 3)
                have Ac := App.alloc ow 3 wr (.cells #[.int .i64 (κ : Int)] 3)
                have Rc := row_one wr ow 3 (κ : Int)
                rw [hwc] at bc Ac Rc
                obtain ⟨owc, howc⟩ : ∃ o, setO ow wr.heap.size 3 = o := ⟨_, rfl⟩
                rw [howc] at Ac Rc
                have hSc := HS.out.other Ac (by decide) (by decide)
                obtain ⟨m1, hm1⟩ : ∃ m1, L.length = m1 + 1 := ⟨L.length - 1, by have := hL1.out; omega⟩
                have GN := hide' (fnext_is owc 2 q j m1 L (p : Int) hm1 hpt.out wc hSc.fa)
                have HSC := hide' (And.intro hSc Rc)
                obtain ⟨rc, hrc⟩ : ∃ rc, wr.heap.size = rc := ⟨_, rfl⟩
                rw [hrc] at HSC
                clear bc Ac Rc hSc howc hm1 hR0
                go_wp2_with fail
                try rw [hwc]
                try rw [hrc]
                refine GN.out.mono ?_
                rintro e w3 ⟨rfl, ow3, L3, hF3, hm3, hA3, hl3⟩
                clear GN hwc hrc ckL
                have HB0 := hide' (show St w1 q j L3 w3 ow3 ∧ LofS L3 p (plcS C M κ) ∧ RowAt w3 ow3 3 3 1 ⟨some rc, 1⟩ 1 (iv [(κ : Int)]) from ⟨HSC.out.1.step hA3 hF3, HLS.out.pop htop.out hm3, HSC.out.2.far hA3 (by decide)⟩)
                clear hF3 hm3 hA3 hl3 HSC HS HLS HME HALL
                obtain ⟨U, hU⟩ : ∃ U, fstU C M κ p = U := ⟨_, rfl⟩
                have HU := hide' hU
                clear hU
                have hj9 : j ≤ 1048576 := by omega
                go_wp2_with fail
                go_loopw [13, 14] (fun vc vp wx => ∃ (p' : Nat) (S : Nat → Bool) (ch : List Int) (ow : Nat → Nat) (L : List Int) (N : Nat) (s : SlV), vc = .slice s.at' ch.length s.c ∧ vp = .int .i64 (p' : Int) ∧ St w1 q N L wx ow ∧ LofS L p' S ∧ RowAt wx ow 3 3 1 s ch.length (iv ch) ∧ p' < n ∧ levF M p' = m ∧ uip (levF M) (cauB C M) (rsnF M) p' S ch = U ∧ ch.length + p' ≤ n ∧ N + 1048576 * p' ≤ 1048576 * (n + 1)) (fun _ vp _ => (intOf vp).toNat)
                case atStart => exact ⟨p, plcS C M κ, [(κ : Int)], ow3, L3, j, ⟨some rc, 1⟩, rfl, rfl, HB0.out.1, HB0.out.2.1, HB0.out.2.2, hpn, HM0.out, HU.out, by simp only [List.length_cons, List.length_nil]; omega, by omega⟩
                case round =>
                  clear HB0 hj9 i7 i8 hpn
                  obtain ⟨p', S, ch, ow, L, N, s, rfl, rfl, hS, hLS, hR, hpn, hlv, hU9, hlen, hN⟩ := hrel
                  have HS := hide' hS
                  have HLS := hide' hLS
                  have HR := hide' hR
                  have HUU := hide' hU9
                  have HNN := hide' (And.intro hlen hN)
                  have HLV := hide' hlv
                  clear hS hLS hR hU9 hlv
                  have hcl9 : ch.length ≤ 1048576 := by omega
                  clear hlen hN
                  obtain ⟨m0, s0, hR0⟩ := HS.out.fa.raw
                  have GE := hide' (fun wq (hb : Below wr.heap.size wr wq) => fempty_is ow 2 q m0 N s0 _ L wq (hR0.later hb))
                  by_cases hL0 : L.length = 0
                  · have hstop := hide' (uip_none (levF M) (cauB C M) (rsnF M) ch (HLS.out.none.2 (List.eq_nil_of_length_eq_zero hL0)))
                    have GE := hide' (fun wq hb => by have h9 := GE.out wq hb; rw [decide_eq_true hL0] at h9; exact h9)
                    clear hL0
                    go_wp2_with fail
                    go_quiet ((go_at_call 28; exact Calls.quiet_of_same (GE.out _ (below_drewN (Below.refl _ _)))))
                    have bQ : Below wr.heap.size wr (wr.drewN nq) := below_drewN (Below.refl _ _)
                    obtain ⟨wd, hwd⟩ : ∃ wd, wr.drewN nq = wd := ⟨_, rfl⟩
                    rw [hwd] at bQ ⊢
                    clear hwd
                    have HS1 := hide' (HS.out.later bQ)
                    have HR1 := hide' (HR.out.belowR bQ)
                    have HUE := hide' (show U = (p', S, ch) from HUU.out.symm.trans hstop.out)
                    clear hstop bQ HR HS
                    try clear cz cp
                    obtain ⟨b4, o4, e4, ⟨cl0, _, _⟩, ho4⟩ := HCW.out.2.el hn.out hpn
                    injection e4 with e4; injection e4 with e5 e6; subst e5; subst e6
                    replace cl0 := below_cell HS1.out.bel cl0
                    have hlit := isLit_iff.1 ((hgood p' (by rw [hn.out]; exact hpn)).lit)
                    have e7 : (M.getD p' default).l = litF M p' := rfl
                    rw [e7] at cl0 hlit
                    unfold okM i64 at ho4
                    rw [e7] at ho4
                    have h41 := ho4.1.1
                    have h42 := ho4.1.2
                    clear ho4 e7
                    obtain ⟨x0, hx0⟩ : ∃ x, litF M p' = x := ⟨_, rfl⟩
                    rw [hx0] at cl0 hlit h41 h42
                    have HX0 := hide' hx0
                    clear hx0
                    have hw9 := wrap_neg (show -9223372036854775808 < x0 by omega) h42
                    have hw8 := wrap_neg0 (show -9223372036854775808 < x0 by omega) h42
                    replace hlit := hide' hlit
                    have k1 : (p' : Int) < (n : Int) := by omega
                    have k0 : (0 : Int) ≤ (p' : Int) := by omega
                    obtain ⟨we, hwe⟩ : ∃ we, wd.alloc (.cells #[.int .i64 (-x0)] 3) = we := ⟨_, rfl⟩
                    have Ac := App.alloc ow 4 wd (.cells #[.int .i64 (-x0)] 3)
                    have Rc := row_one wd ow 4 (-x0)
                    rw [hwe] at Ac Rc
                    obtain ⟨owe, howe⟩ : ∃ o, setO ow wd.heap.size 4 = o := ⟨_, rfl⟩
                    rw [howe] at Ac Rc
                    obtain ⟨re, hre⟩ : ∃ re, wd.heap.size = re := ⟨_, rfl⟩
                    rw [hre] at Rc
                    have HBE := hide' (And.intro (HS1.out.other Ac (by decide) (by decide)) (And.intro (HR1.out.far Ac (by decide)) Rc))
                    clear Ac Rc howe HR1
                    obtain ⟨H9, hH9⟩ : ∃ H, clF (levF M) (cauB C M) (rsnF M) p' S ch = H := ⟨_, rfl⟩
                    have HH := hide' hH9
                    obtain ⟨F9, hF9⟩ : ∃ F, fallN (levF M) p' S = F := ⟨_, rfl⟩
                    have HF9 := hide' hF9
                    clear hH9 hF9
                    have HN1 := hide' (show ch.length + p' ≤ n ∧ 1 + p' ≤ n ∧ N + 1048576 * p' ≤ 1048576 * (n + 1) from ⟨HNN.out.1, by omega, HNN.out.2⟩)
                    go_wp2_with fail
                    try rw [hwe]
                    try rw [hre]
                    clear hwe hre cl0
                    go_loopw [13, 14, 15] (fun vc vp vl wx => ∃ (nn : Nat) (S' : Nat → Bool) (ch' cl' : List Int) (ow : Nat → Nat) (L : List Int) (N : Nat) (s1 s2 : SlV), vc = .slice s1.at' ch'.length s1.c ∧ vp = .int .i64 (nn : Int) ∧ vl = .slice s2.at' cl'.length s2.c ∧ St w1 q N L wx ow ∧ LofS L nn S' ∧ RowAt wx ow 3 3 1 s1 ch'.length (iv ch') ∧ RowAt wx ow 4 3 1 s2 cl'.length (iv cl') ∧ nn ≤ p' ∧ clF (levF M) (cauB C M) (rsnF M) nn S' ch' = H9 ∧ cl' ++ (fallN (levF M) nn S').map (fun z => -litF M z) = (-x0) :: F9.map (fun z => -litF M z) ∧ ch'.length + nn ≤ n ∧ cl'.length + nn ≤ n ∧ N + 1048576 * nn ≤ 1048576 * (n + 1)) (fun _ vp _ _ => (intOf vp).toNat)
                    case atStart => exact ⟨p', S, ch, [-x0], owe, L, N, s, ⟨some re, 1⟩, rfl, rfl, rfl, HBE.out.1, HLS.out, HBE.out.2.1, HBE.out.2.2, Nat.le_refl _, HH.out, by rw [HF9.out]; rfl, HN1.out.1, by simp only [List.length_cons, List.length_nil]; exact HN1.out.2.1, HN1.out.2.2⟩
                    case round =>
                      clear HBE HLS hcl9
                      obtain ⟨nn, S2, ch2, cl2, owx, L2, N2, s1, s2, rfl, rfl, rfl, hS, hLS, hR, hRl, hnp, hH, hC, hl1, hl2, hN⟩ := hrel
                      have HS2 := hide' hS
                      have HLS2 := hide' hLS
                      have HR2 := hide' hR
                      have HRL := hide' hRl
                      have HHE := hide' hH
                      have HCE := hide' hC
                      have HNN2 := hide' (And.intro hl1 (And.intro hl2 hN))
                      have hb1 : ch2.length ≤ 1048576 := by omega
                      have hb2 : cl2.length ≤ 1048576 := by omega
                      clear hS hLS hR hRl hH hC hl1 hl2 hN
                      obtain ⟨m2, s3, hR3⟩ := HS2.out.fa.raw
                      have GE2 := hide' (fempty_is owx 2 q m2 N2 s3 _ L2 wr hR3)
                      by_cases hL2 : L2.length = 0
                      · rw [decide_eq_true hL2] at GE2
                        have htn := HLS2.out.none.2 (List.eq_nil_of_length_eq_zero hL2)
                        have hch := hide' (show ch2 = H9 from by rw [← HHE.out, cl_none (levF M) (cauB C M) (rsnF M) ch2 htn])
                        have hcl := hide' (show cl2 = (-x0) :: F9.map (fun z => -litF M z) from by have h9 := HCE.out; rw [fall_none (levF M) htn, List.map_nil, List.append_nil] at h9; exact h9)
                        have hFz := hide' (show ∀ z ∈ F9, z < n from fun z hz => by rw [← HF9.out, fall_mem] at hz; omega)
                        clear htn hL2 hR3
                        have HLOW := hide' HS2.out.low
                        have HBL := hide' HS2.out.bel
                        have HRR := hide' (And.intro HR2.out HRL.out)
                        have HTB := hide' (HT.out.later HBL.out)
                        have HRES := hide' (show fstC C M κ p = cl2 ∧ fstH C M κ p = ch2 ∧ fstF C M κ p = F9 from by
                            have e1 : fstU C M κ p = (p', S, ch) := HU.out.trans HUE.out
                            have e2 : fstF C M κ p = F9 := by unfold fstF; rw [e1]; exact HF9.out
                            refine ⟨?_, ?_, e2⟩
                            · unfold fstC lrnC; rw [e2, e1, hcl.out, ← HX0.out]
                            · unfold fstH; rw [e1, hch.out]; exact HH.out)
                        obtain ⟨bv, hbv⟩ : ∃ v, backF M F9 = v := ⟨_, rfl⟩
                        have HBV := hide' hbv
                        clear hbv
                        have GBK := hide' (show Calls Try.prog 39 #[.pointer (some ⟨b, 0, none⟩), .slice s2.at' cl2.length s2.c] wr fun e w' => e = .returned (.int .i64 bv) ∧ Below wr.heap.size wr w' from by
                            have hlb : cl2.length ≤ 1048576 := hb2
                            rw [← HBV.out]
                            cases hF : F9 with
                            | nil =>
                              have e1 : cl2.length = 1 := by rw [hcl.out, hF]; rfl
                              rw [e1]
                              exact (back_one b s2.c s2.at' wr).mono fun e w' h => ⟨h.1, by rw [h.2]; exact Below.refl _ _⟩
                            | cons z F7 =>
                              have hz7 := hFz.out z (by rw [hF]; exact List.mem_cons_self)
                              have hi64 : ∀ y, y < n → i64 (litF M y) := fun y hy => (HCW.out.2.2.1 _ (getD_mem (by rw [hn.out]; exact hy))).1
                              have hlt7 : ∀ y, y < n → litF M y ≠ -9223372036854775808 := fun y hy => (isLit_iff.1 ((hgood y (by rw [hn.out]; exact hy)).lit)).2
                              have hin : ∀ y, y < n → i64 (-litF M y) := fun y hy => by have h1 := hi64 y hy; have h2 := hlt7 y hy; unfold i64 at h1 ⊢; omega
                              have hok : okL cl2 := fun y hy => by
                                rw [hcl.out, ← HX0.out] at hy
                                rcases List.mem_cons.1 hy with e | e
                                · rw [e]; exact hin p' hpn
                                · obtain ⟨y2, h2, rfl⟩ := List.mem_map.1 e; exact hin y2 (hFz.out y2 h2)
                              have hls : LsAt wr s2.at' cl2 := by
                                obtain ⟨a9, cap9, e9, _, h9⟩ := own_ls HRR.out.2.1 hok (by omega)
                                unfold SlV.val at e9; injection e9 with e9 _ e8; rw [e9]; exact h9
                              have e2 : cl2.getD 1 0 = -litF M z := by rw [hcl.out, hF]; rfl
                              have e3 : 2 ≤ cl2.length := by rw [hcl.out, hF]; simp
                              exact back_is base b G N0 _ _ mc M s2.at' s2.c cl2 e3 (-litF M z) e2 (hin z hz7) (Chk.flsSelf hgood (by rw [hn.out]; exact hz7) (hi64 z hz7)) z (by rw [Int.neg_neg]; exact Chk.self hgood (by rw [hn.out]; exact hz7)) (by omega) wr (by rw [hn.out]; exact HTB.out) hd (HCW.out.2.later HBL.out) hls)
                        go_wp2_with fail
                        refine GE2.out.mono ?_
                        rintro e wq ⟨rfl, hwq⟩
                        rw [hwq]
                        clear hwq wq GE2
                        go_wp2_with fail
                        refine GBK.out.mono ?_
                        rintro e wy ⟨rfl, by9⟩
                        clear GBK
                        have HRY := hide' (And.intro (HRR.out.1.belowR by9) (HRR.out.2.belowR by9))
                        have HBY := hide' (HBL.out.trans (by9.mono HBL.out.size))
                        clear by9
                        have hrow := (HBY.out.block rb (Array.getElem?_eq_some_iff.1 HROW.out).1).trans HROW.out
                        have c0 := cell_of_row wy rb 0 _ _ _ hrow
                        have c1 := cell_of_row wy rb 1 _ _ _ hrow
                        have c2 := cell_of_row wy rb 2 _ _ _ hrow
                        simp only [List.getElem?_toArray, List.getElem?_cons_zero, List.getElem?_cons_succ] at c0 c1 c2
                        have fzr := fun o => frozen_of_row wy rb o _ _ hrow
                        have howrb : owx rb = 0 := HLOW.out rb (Array.getElem?_eq_some_iff.1 HROW.out).1
                        obtain ⟨wS, hwS⟩ : ∃ wS, (((wy.setCell ⟨rb, 0, none⟩ (.slice s2.at' cl2.length s2.c)).setCell ⟨rb, 1, none⟩ (.int .i64 bv)).setCell ⟨rb, 2, none⟩ (.slice s1.at' ch2.length s1.c)) = wS := ⟨_, rfl⟩
                        have hoth : ∀ x, x ≠ rb → wS.heap[x]? = wy.heap[x]? := fun x hx => by rw [← hwS]; exact ((heap_setCell_other _ _ _ _ hx).trans (heap_setCell_other _ _ _ _ hx)).trans (heap_setCell_other _ _ _ _ hx)
                        have hrS : wS.heap[rb]? = some (.cells #[.slice s2.at' cl2.length s2.c, .int .i64 bv, .slice s1.at' ch2.length s1.c] 37 (0, 0)) := by rw [← hwS]; simp [World.setCell, Array.getElem?_modify, hrow]
                        have hBS : Below rb w wS := (hbT.out.trans (HBY.out.mono HRW.out)).trans ⟨by rw [← hwS]; rfl, by rw [← hwS]; rfl, by rw [← hwS]; rfl, by rw [← hwS, World.size_setCell, World.size_setCell, World.size_setCell]; exact Nat.le_refl _, fun x hx => hoth x (by omega)⟩
                        have q0 := cell_of_row wS rb 0 _ _ _ hrS
                        have q1 := cell_of_row wS rb 1 _ _ _ hrS
                        have q2 := cell_of_row wS rb 2 _ _ _ hrS
                        simp only [List.getElem?_toArray, List.getElem?_cons_zero, List.getElem?_cons_succ] at q0 q1 q2
                        have HX := hide' (show TQ (.returned (.tuple #[.agg #[.slice s2.at' cl2.length s2.c, .int .i64 bv, .slice s1.at' ch2.length s1.c], .int .i64 0])) wS from by rw [← hTQ.out]; exact ⟨by rw [hrb]; exact hBS, Or.inr (Or.inr ⟨hgood, κ, p, HOK.out, _, rfl, owx, s2, s1, by rw [HRES.out.1, HRES.out.2.1, HRES.out.2.2, HBV.out]; rfl, by rw [HRES.out.1]; exact HRY.out.2.keep (fun g hg => hoth g (fun e => by have h9 := HRY.out.2.2 g hg; rw [e, howrb] at h9; cases h9)) (fun _ _ => rfl), by rw [HRES.out.2.1]; exact HRY.out.1.keep (fun g hg => hoth g (fun e => by have h9 := HRY.out.1.2 g hg; rw [e, howrb] at h9; cases h9)) (fun _ _ => rfl), fun x hx => HLOW.out x (by have := HRW.out; omega)⟩)⟩)
                        clear hoth hrS hBS
                        go_wp2
                        try rw [hwS]
                        first | exact HX.out | (refine bodyPost_ret (v := .tuple #[.agg #[.slice s2.at' cl2.length s2.c, .int .i64 bv, .slice s1.at' ch2.length s1.c], .int .i64 0]) (by rw [results_ct rfl]; go_simp) rfl ?_; exact HX.out)
                      · rw [decide_eq_false hL2] at GE2
                        obtain ⟨z, hzt, htop2⟩ := HLS2.out.top HS2.out.fa.hp (by omega)
                        obtain ⟨m9, hm9⟩ : ∃ m9, L2.length = m9 + 1 := ⟨L2.length - 1, by omega⟩
                        have GN2 := hide' (fnext_is owx 2 q N2 m9 L2 (z : Int) hm9 hzt wr HS2.out.fa)
                        clear hm9 hzt hR3 hL2
                        have hzn : z < nn := (top_some htop2).1
                        have hzM : z < n := by omega
                        have HTP := hide' htop2
                        clear htop2
                        go_wp2_with fail
                        refine GE2.out.mono ?_
                        rintro e wq ⟨rfl, hwq⟩
                        rw [hwq]
                        clear hwq wq GE2
                        go_wp2_with fail
                        refine GN2.out.mono ?_
                        rintro e w4 ⟨rfl, ow4, L4, k1, k2, k3, k4⟩
                        have HP4 := hide' (show St w1 q N2 L4 w4 ow4 ∧ LofS L4 z S2 ∧ RowAt w4 ow4 3 3 1 s1 ch2.length (iv ch2) ∧ RowAt w4 ow4 4 3 1 s2 cl2.length (iv cl2) from ⟨HS2.out.step k3 k1, HLS2.out.pop HTP.out k2, HR2.out.far k3 (by decide), HRL.out.far k3 (by decide)⟩)
                        clear k1 k2 k3 k4 GN2 HS2 HLS2 HR2 HRL
                        obtain ⟨b2, o2, e2, ⟨cl, cz, _⟩, hoz⟩ := HCW.out.2.el hn.out hzM
                        injection e2 with e2; injection e2 with e4 e5; subst e4; subst e5
                        replace cz := below_cell HP4.out.1.bel cz
                        replace cl := below_cell HP4.out.1.bel cl
                        have e7 : (M.getD z default).v = levF M z := rfl
                        have e8 : (M.getD z default).l = litF M z := rfl
                        unfold okM i64 at hoz
                        rw [e7] at cz
                        rw [e8] at cl hoz
                        have hlz := isLit_iff.1 ((hgood z (by rw [hn.out]; exact hzM)).lit)
                        rw [e8] at hlz
                        clear e7 e8
                        obtain ⟨x1, hx1⟩ : ∃ x, litF M z = x := ⟨_, rfl⟩
                        rw [hx1] at cl hoz hlz
                        have hz1 := hoz.1.1
                        have hz2 := hoz.1.2
                        have hv9 := wrap_neg (show -9223372036854775808 < x1 by omega) hz2
                        have hv8 := wrap_neg0 (show -9223372036854775808 < x1 by omega) hz2
                        have HX1 := hide' hx1
                        clear hx1 hoz
                        replace hlz := hide' hlz
                        obtain ⟨lz, hlzv⟩ : ∃ l, levF M z = l := ⟨_, rfl⟩
                        rw [hlzv] at cz
                        have HLZ := hide' hlzv
                        clear hlzv
                        have i1 : (z : Int) < (n : Int) := by omega
                        have i0 : (0 : Int) ≤ (z : Int) := by omega
                        obtain ⟨ii, hii, hiz, his, hib⟩ := info_parts info_i
                        by_cases hl0 : lz = 0
                        · have el0 : (lz == 0) = true := by simp [hl0]
                          have hnd : rsnF M z ≠ -1 := fun e => by have h9 := Chk.decided0 hgood e (by rw [hn.out]; exact hzM); rw [HLZ.out] at h9; omega
                          replace hl0 := hide' hl0
                          obtain ⟨ρ, hρ, hρC, hmem9, hfl9⟩ := Chk.reason hgood (by rw [hn.out]; exact hzM) hnd
                          have hcau := hide' (fun y (hy : y ∈ cauL C M z) => Chk.cau hgood (p := z) (by rw [hn.out]; exact hzM) hnd hy)
                          have hcl3 : (cauL C M z).length ≤ 1048576 := by unfold cauL; rw [List.length_map, show (M.getD z default).r = (ρ : Int) from hρ, Int.toNat_natCast]; exact Nat.le_trans (List.length_filter_le _ _) (HCM.out.2.2 ρ hρC)
                          have GRS := hide' (resolve_is base b G N0 _ ca C f _ mc M w1 (by rw [hCn.out, hn.out]; exact HT.out) hd HCW.out.1 HCW.out.2 (by rw [hn.out]; exact hM9) z ρ (by rw [hn.out]; exact hzM) hρ hρC (fun x hx hne => (hfl9 x hx hne).1) (HCM.out.2.2 ρ hρC) ow4 2 q N2 L4 w4 HP4.out.1.bel HP4.out.1.low HP4.out.1.hi (by decide) (by have := HNN2.out.2.2; omega) HP4.out.1.fa)
                          have HRZ := hide' (show rsnF M z = (ρ : Int) from hρ)
                          have hρ9 : ρ ≤ 17592186044416 := by have := HCW.out.1.1; omega
                          clear hnd hρ hmem9 hfl9 hρC
                          go_wp2_with fail
                          refine GRS.out.mono ?_
                          rintro e w5 ⟨rfl, ow5, L5, k1, k2, k3⟩
                          have HX := hide' (show St w1 q (N2 + (cauL C M z).length) L5 w5 ow5 ∧ RowAt w5 ow5 3 3 1 s1 ch2.length (iv ch2) ∧ RowAt w5 ow5 4 3 1 s2 cl2.length (iv cl2) ∧ LofS L5 z (uni S2 (cauB C M z)) from ⟨HP4.out.1.step k3 k1, HP4.out.2.2.1.far k3 (by decide), HP4.out.2.2.2.far k3 (by decide), HP4.out.2.1.uni hcau.out k2⟩)
                          clear k1 k2 k3 GRS cl cz
                          have hrB := HX.out.2.1
                          obtain ⟨l9, hl9⟩ : ∃ l, ch2.length = l := ⟨_, rfl⟩
                          have hlb9 := hb1
                          rw [hl9] at hrB hlb9
                          obtain ⟨wB, hwB⟩ : ∃ wB, w5.alloc (.cells #[.int .i64 ((ρ : Int))] 3) = wB := ⟨_, rfl⟩
                          have hnew := heap_alloc_new w5 (.cells #[.int .i64 ((ρ : Int))] 3)
                          have b3 := below_alloc (w := w5) (.cells #[.int .i64 ((ρ : Int))] 3)
                          rw [hwB] at hnew b3
                          have hrB2 := hrB.belowR b3
                          have HO := hide' (show wB.ownsRow 0 3 1 (.slice s1.at' l9 s1.c) l9 (iv ch2) from hrB2.1)
                          have HRB := hide' (And.intro hrB2 (App.of_below (ow := ow5) (t := 3) b3))
                          clear hrB hrB2 b3
                          have hml : l9 + 1 ≤ maxLen := by simp only [maxLen]; omega
                          have hbl : (l9 + 1) * 8 ≤ 140737488355328 := by omega
                          have hl10 := hide' hl9
                          try rw [hl9]
                          clear hl9
                          go_wp2_with (at_builtin; (try rw [hwB]); refine wpList_append_lies _ (by rfl) _ _ _ (by rfl) 0 3 ii _ 1 8 Try.underlying26 hii hiz his hib rfl (by omega) (.slice s1.at' l9 s1.c) l9 (iv ch2) (by rfl) HO.out ⟨w5.heap.size, 0, none⟩ 1 1 [.int .i64 ((ρ : Int))] (by rfl) (by rfl) (World.news_of_block (cs := #[.int .i64 ((ρ : Int))]) (t := 3) (fr := (0, 0)) hnew) (by simp [Value.oneCell']) (by omega) hml hbl (Nat.zero_le _) wB.heap.size rfl ?_)
                          intro gb cap w6 hown hgrow hat hlt9
                          obtain ⟨R9, A9⟩ := RowAt.app (ow := ow5) (t := 3) (s := s1) (n := l9) (m := 1) (xs := iv ch2) (news := [.int .i64 ((ρ : Int))]) HRB.out.1 hown hgrow hat rfl hlt9 (by decide)
                          obtain ⟨ow6, how9⟩ : ∃ o, setO ow5 gb 3 = o := ⟨_, rfl⟩
                          rw [how9] at R9 A9
                          replace A9 := HRB.out.2.trans A9
                          have R8 : RowAt w6 ow6 3 3 1 ⟨some gb, cap⟩ (ch2 ++ [(ρ : Int)]).length (iv (ch2 ++ [(ρ : Int)])) := by rw [List.length_append, hl10.out, iv_append]; exact R9
                          clear R9 HO HRB hnew hml hbl hown hgrow hat hlt9 how9 hwB hlb9
                          have HY := hide' (And.intro (HX.out.1.other A9 (by decide) (by decide)) (And.intro R8 (HX.out.2.2.1.far A9 (by decide))))
                          clear A9 R8
                          have HQ1 := hide' (show clF (levF M) (cauB C M) (rsnF M) z (uni S2 (cauB C M z)) (ch2 ++ [(ρ : Int)]) = H9 from by rw [← HHE.out, cl_zero (levF M) (cauB C M) (rsnF M) ch2 HTP.out (by rw [HLZ.out]; exact hl0.out), HRZ.out])
                          have HQ2 := hide' (show cl2 ++ (fallN (levF M) z (uni S2 (cauB C M z))).map (fun z => -litF M z) = (-x0) :: F9.map (fun z => -litF M z) from by rw [← fall_zero (levF M) HTP.out (by rw [HLZ.out]; exact hl0.out) (fun y hy hcy => by have h1 := Chk.mono hgood (i := y) (j := z) (by omega) (by rw [hn.out]; exact hzM); have h2 := (Chk.pos hgood (j := y) (by rw [hn.out]; omega)).1; rw [HLZ.out, hl0.out] at h1; omega)]; exact HCE.out)
                          have hcle : (ch2 ++ [(ρ : Int)]).length = l9 + 1 := by rw [List.length_append, hl10.out]; rfl
                          have HCLE := hide' hcle
                          clear hcle
                          have HNX := hide' (show (l9 + 1) + z ≤ n ∧ cl2.length + z ≤ n ∧ N2 + (cauL C M z).length + 1048576 * z ≤ 1048576 * (n + 1) from by have h1 := HNN2.out; rw [hl10.out] at h1; omega)
                          go_wp2
                          go_roundw
                          case rel => exact ⟨z, uni S2 (cauB C M z), ch2 ++ [(ρ : Int)], cl2, ow6, L5, N2 + (cauL C M z).length, ⟨some gb, cap⟩, s2, by rw [HCLE.out]; rfl, by go_num, rfl, HY.out.1, HX.out.2.2.2, HY.out.2.1, HY.out.2.2, by omega, HQ1.out, HQ2.out, by rw [HCLE.out]; exact HNX.out.1, HNX.out.2.1, HNX.out.2.2⟩
                          case measure => simp only [intOf]; omega
                        · have el0 : (lz == 0) = false := by simp [hl0]
                          replace hl0 := hide' hl0
                          have hrB := HP4.out.2.2.2
                          obtain ⟨l9, hl9⟩ : ∃ l, cl2.length = l := ⟨_, rfl⟩
                          have hlb9 := hb2
                          rw [hl9] at hrB hlb9
                          obtain ⟨wB, hwB⟩ : ∃ wB, w4.alloc (.cells #[.int .i64 (-x1)] 3) = wB := ⟨_, rfl⟩
                          have hnew := heap_alloc_new w4 (.cells #[.int .i64 (-x1)] 3)
                          have b3 := below_alloc (w := w4) (.cells #[.int .i64 (-x1)] 3)
                          rw [hwB] at hnew b3
                          have hrB2 := hrB.belowR b3
                          have HO := hide' (show wB.ownsRow 0 3 1 (.slice s2.at' l9 s2.c) l9 (iv cl2) from hrB2.1)
                          have HRB := hide' (And.intro hrB2 (App.of_below (ow := ow4) (t := 4) b3))
                          clear hrB hrB2 b3
                          have hml : l9 + 1 ≤ maxLen := by simp only [maxLen]; omega
                          have hbl : (l9 + 1) * 8 ≤ 140737488355328 := by omega
                          have hl10 := hide' hl9
                          try rw [hl9]
                          clear hl9
                          go_wp2_with (at_builtin; (try rw [hwB]); refine wpList_append_lies _ (by rfl) _ _ _ (by rfl) 0 3 ii _ 1 8 Try.underlying35 hii hiz his hib rfl (by omega) (.slice s2.at' l9 s2.c) l9 (iv cl2) (by rfl) HO.out ⟨w4.heap.size, 0, none⟩ 1 1 [.int .i64 (-x1)] (by rfl) (by rfl) (World.news_of_block (cs := #[.int .i64 (-x1)]) (t := 3) (fr := (0, 0)) hnew) (by simp [Value.oneCell']) (by omega) hml hbl (Nat.zero_le _) wB.heap.size rfl ?_)
                          intro gb cap w6 hown hgrow hat hlt9
                          obtain ⟨R9, A9⟩ := RowAt.app (ow := ow4) (t := 4) (s := s2) (n := l9) (m := 1) (xs := iv cl2) (news := [.int .i64 (-x1)]) HRB.out.1 hown hgrow hat rfl hlt9 (by decide)
                          obtain ⟨ow6, how9⟩ : ∃ o, setO ow4 gb 4 = o := ⟨_, rfl⟩
                          rw [how9] at R9 A9
                          replace A9 := HRB.out.2.trans A9
                          have R8 : RowAt w6 ow6 4 3 1 ⟨some gb, cap⟩ (cl2 ++ [-x1]).length (iv (cl2 ++ [-x1])) := by rw [List.length_append, hl10.out, iv_append]; exact R9
                          clear R9 HO HRB hnew hml hbl hown hgrow hat hlt9 how9 hwB hlb9
                          have HY := hide' (And.intro (HP4.out.1.other A9 (by decide) (by decide)) (And.intro (HP4.out.2.2.1.far A9 (by decide)) R8))
                          clear A9 R8
                          have HQ1 := hide' (show clF (levF M) (cauB C M) (rsnF M) z S2 ch2 = H9 from by rw [← HHE.out, cl_pos (levF M) (cauB C M) (rsnF M) ch2 HTP.out (by rw [HLZ.out]; exact hl0.out)])
                          have HQ2 := hide' (show (cl2 ++ [-x1]) ++ (fallN (levF M) z S2).map (fun z => -litF M z) = (-x0) :: F9.map (fun z => -litF M z) from by have h9 := HCE.out; rw [fall_pos (levF M) HTP.out (by rw [HLZ.out]; exact hl0.out), List.map_cons, HX1.out] at h9; rw [List.append_assoc]; exact h9)
                          have hcle : (cl2 ++ [-x1]).length = l9 + 1 := by rw [List.length_append, hl10.out]; rfl
                          have HCLE := hide' hcle
                          clear hcle
                          have HNX := hide' (show ch2.length + z ≤ n ∧ (l9 + 1) + z ≤ n ∧ N2 + 1048576 * z ≤ 1048576 * (n + 1) from by have h1 := HNN2.out; rw [hl10.out] at h1; omega)
                          go_wp2
                          go_roundw
                          case rel => exact ⟨z, S2, ch2, cl2 ++ [-x1], ow6, L4, N2, s1, ⟨some gb, cap⟩, rfl, by go_num, by rw [HCLE.out]; rfl, HY.out.1, HP4.out.2.1, HY.out.2.1, HY.out.2.2, by omega, HQ1.out, HQ2.out, HNX.out.1, by rw [HCLE.out]; exact HNX.out.2.1, HNX.out.2.2⟩
                          case measure => simp only [intOf]; omega
                  · have GE := hide' (fun wq hb => by have h9 := GE.out wq hb; rw [decide_eq_false hL0] at h9; exact h9)
                    obtain ⟨z, hzt, htop⟩ := HLS.out.top HS.out.fa.hp (by omega)
                    have GG := hide' (fun wq (hb : Below wr.heap.size wr wq) => by have h9 := fgreat_is ow 2 q m0 N s0 _ L wq (hR0.later hb) (by omega); rw [hzt] at h9; exact h9)
                    have hzp : z < p' := (top_some htop).1
                    obtain ⟨b2, o2, e2, ⟨_, cz, _⟩, _⟩ := HCW.out.2.el hn.out (show z < n by omega)
                    obtain ⟨b3, o3, e3, ⟨_, cp, _⟩, _⟩ := HCW.out.2.el hn.out hpn
                    injection e2 with e2; injection e2 with e4 e5; subst e4; subst e5
                    injection e3 with e3; injection e3 with e4 e5; subst e4; subst e5
                    replace cz := below_cell HS.out.bel cz
                    replace cp := below_cell HS.out.bel cp
                    have e6 : (M.getD p' default).v = m := HLV.out
                    rw [e6] at cp
                    clear e6
                    obtain ⟨lz, hlz⟩ : ∃ l, levF M z = l := ⟨_, rfl⟩
                    have e7 : (M.getD z default).v = lz := hlz
                    rw [e7] at cz
                    have HLZ := hide' hlz
                    clear e7 hlz
                    have i1 : (z : Int) < (n : Int) := by omega
                    have i0 : (0 : Int) ≤ (z : Int) := by omega
                    have j1 : (p' : Int) < (n : Int) := by omega
                    have j0 : (0 : Int) ≤ (p' : Int) := by omega
                    have HZ := hide' (And.intro hzt (And.intro htop (And.intro hzp hL0)))
                    clear hzt htop hzp hL0
                    by_cases hlm : lz = m
                    rotate_left
                    · have hstop := hide' (uip_stop (levF M) (cauB C M) (rsnF M) ch HZ.out.2.1 (by rw [HLZ.out, HLV.out]; exact hlm))
                      have el : (lz == m) = false := by simp [hlm]
                      replace hlm := hide' hlm
                      go_wp2_with fail
                      go_quiet (first | (go_at_call 28; exact Calls.quiet_of_same (GE.out _ (below_drewN (Below.refl _ _)))) | (go_at_call 38; exact Calls.quiet_of_same (GG.out _ (below_drewN (Below.refl _ _)))))
                      have bQ : Below wr.heap.size wr (wr.drewN nq) := below_drewN (Below.refl _ _)
                      obtain ⟨wd, hwd⟩ : ∃ wd, wr.drewN nq = wd := ⟨_, rfl⟩
                      rw [hwd] at bQ ⊢
                      clear hwd
                      have HS1 := hide' (HS.out.later bQ)
                      have HR1 := hide' (HR.out.belowR bQ)
                      have HUE := hide' (show U = (p', S, ch) from HUU.out.symm.trans hstop.out)
                      clear hstop bQ HR HS
                      try clear cz cp
                      obtain ⟨b4, o4, e4, ⟨cl0, _, _⟩, ho4⟩ := HCW.out.2.el hn.out hpn
                      injection e4 with e4; injection e4 with e5 e6; subst e5; subst e6
                      replace cl0 := below_cell HS1.out.bel cl0
                      have hlit := isLit_iff.1 ((hgood p' (by rw [hn.out]; exact hpn)).lit)
                      have e7 : (M.getD p' default).l = litF M p' := rfl
                      rw [e7] at cl0 hlit
                      unfold okM i64 at ho4
                      rw [e7] at ho4
                      have h41 := ho4.1.1
                      have h42 := ho4.1.2
                      clear ho4 e7
                      obtain ⟨x0, hx0⟩ : ∃ x, litF M p' = x := ⟨_, rfl⟩
                      rw [hx0] at cl0 hlit h41 h42
                      have HX0 := hide' hx0
                      clear hx0
                      have hw9 := wrap_neg (show -9223372036854775808 < x0 by omega) h42
                      have hw8 := wrap_neg0 (show -9223372036854775808 < x0 by omega) h42
                      replace hlit := hide' hlit
                      have k1 : (p' : Int) < (n : Int) := by omega
                      have k0 : (0 : Int) ≤ (p' : Int) := by omega
                      obtain ⟨we, hwe⟩ : ∃ we, wd.alloc (.cells #[.int .i64 (-x0)] 3) = we := ⟨_, rfl⟩
                      have Ac := App.alloc ow 4 wd (.cells #[.int .i64 (-x0)] 3)
                      have Rc := row_one wd ow 4 (-x0)
                      rw [hwe] at Ac Rc
                      obtain ⟨owe, howe⟩ : ∃ o, setO ow wd.heap.size 4 = o := ⟨_, rfl⟩
                      rw [howe] at Ac Rc
                      obtain ⟨re, hre⟩ : ∃ re, wd.heap.size = re := ⟨_, rfl⟩
                      rw [hre] at Rc
                      have HBE := hide' (And.intro (HS1.out.other Ac (by decide) (by decide)) (And.intro (HR1.out.far Ac (by decide)) Rc))
                      clear Ac Rc howe HR1
                      obtain ⟨H9, hH9⟩ : ∃ H, clF (levF M) (cauB C M) (rsnF M) p' S ch = H := ⟨_, rfl⟩
                      have HH := hide' hH9
                      obtain ⟨F9, hF9⟩ : ∃ F, fallN (levF M) p' S = F := ⟨_, rfl⟩
                      have HF9 := hide' hF9
                      clear hH9 hF9
                      have HN1 := hide' (show ch.length + p' ≤ n ∧ 1 + p' ≤ n ∧ N + 1048576 * p' ≤ 1048576 * (n + 1) from ⟨HNN.out.1, by omega, HNN.out.2⟩)
                      go_wp2_with fail
                      try rw [hwe]
                      try rw [hre]
                      clear hwe hre cl0
                      go_loopw [13, 14, 15] (fun vc vp vl wx => ∃ (nn : Nat) (S' : Nat → Bool) (ch' cl' : List Int) (ow : Nat → Nat) (L : List Int) (N : Nat) (s1 s2 : SlV), vc = .slice s1.at' ch'.length s1.c ∧ vp = .int .i64 (nn : Int) ∧ vl = .slice s2.at' cl'.length s2.c ∧ St w1 q N L wx ow ∧ LofS L nn S' ∧ RowAt wx ow 3 3 1 s1 ch'.length (iv ch') ∧ RowAt wx ow 4 3 1 s2 cl'.length (iv cl') ∧ nn ≤ p' ∧ clF (levF M) (cauB C M) (rsnF M) nn S' ch' = H9 ∧ cl' ++ (fallN (levF M) nn S').map (fun z => -litF M z) = (-x0) :: F9.map (fun z => -litF M z) ∧ ch'.length + nn ≤ n ∧ cl'.length + nn ≤ n ∧ N + 1048576 * nn ≤ 1048576 * (n + 1)) (fun _ vp _ _ => (intOf vp).toNat)
                      case atStart => exact ⟨p', S, ch, [-x0], owe, L, N, s, ⟨some re, 1⟩, rfl, rfl, rfl, HBE.out.1, HLS.out, HBE.out.2.1, HBE.out.2.2, Nat.le_refl _, HH.out, by rw [HF9.out]; rfl, HN1.out.1, by simp only [List.length_cons, List.length_nil]; exact HN1.out.2.1, HN1.out.2.2⟩
                      case round =>
                        clear HBE HLS hcl9
                        obtain ⟨nn, S2, ch2, cl2, owx, L2, N2, s1, s2, rfl, rfl, rfl, hS, hLS, hR, hRl, hnp, hH, hC, hl1, hl2, hN⟩ := hrel
                        have HS2 := hide' hS
                        have HLS2 := hide' hLS
                        have HR2 := hide' hR
                        have HRL := hide' hRl
                        have HHE := hide' hH
                        have HCE := hide' hC
                        have HNN2 := hide' (And.intro hl1 (And.intro hl2 hN))
                        have hb1 : ch2.length ≤ 1048576 := by omega
                        have hb2 : cl2.length ≤ 1048576 := by omega
                        clear hS hLS hR hRl hH hC hl1 hl2 hN
                        obtain ⟨m2, s3, hR3⟩ := HS2.out.fa.raw
                        have GE2 := hide' (fempty_is owx 2 q m2 N2 s3 _ L2 wr hR3)
                        by_cases hL2 : L2.length = 0
                        · rw [decide_eq_true hL2] at GE2
                          have htn := HLS2.out.none.2 (List.eq_nil_of_length_eq_zero hL2)
                          have hch := hide' (show ch2 = H9 from by rw [← HHE.out, cl_none (levF M) (cauB C M) (rsnF M) ch2 htn])
                          have hcl := hide' (show cl2 = (-x0) :: F9.map (fun z => -litF M z) from by have h9 := HCE.out; rw [fall_none (levF M) htn, List.map_nil, List.append_nil] at h9; exact h9)
                          have hFz := hide' (show ∀ z ∈ F9, z < n from fun z hz => by rw [← HF9.out, fall_mem] at hz; omega)
                          clear htn hL2 hR3
                          have HLOW := hide' HS2.out.low
                          have HBL := hide' HS2.out.bel
                          have HRR := hide' (And.intro HR2.out HRL.out)
                          have HTB := hide' (HT.out.later HBL.out)
                          have HRES := hide' (show fstC C M κ p = cl2 ∧ fstH C M κ p = ch2 ∧ fstF C M κ p = F9 from by
                              have e1 : fstU C M κ p = (p', S, ch) := HU.out.trans HUE.out
                              have e2 : fstF C M κ p = F9 := by unfold fstF; rw [e1]; exact HF9.out
                              refine ⟨?_, ?_, e2⟩
                              · unfold fstC lrnC; rw [e2, e1, hcl.out, ← HX0.out]
                              · unfold fstH; rw [e1, hch.out]; exact HH.out)
                          obtain ⟨bv, hbv⟩ : ∃ v, backF M F9 = v := ⟨_, rfl⟩
                          have HBV := hide' hbv
                          clear hbv
                          have GBK := hide' (show Calls Try.prog 39 #[.pointer (some ⟨b, 0, none⟩), .slice s2.at' cl2.length s2.c] wr fun e w' => e = .returned (.int .i64 bv) ∧ Below wr.heap.size wr w' from by
                              have hlb : cl2.length ≤ 1048576 := hb2
                              rw [← HBV.out]
                              cases hF : F9 with
                              | nil =>
                                have e1 : cl2.length = 1 := by rw [hcl.out, hF]; rfl
                                rw [e1]
                                exact (back_one b s2.c s2.at' wr).mono fun e w' h => ⟨h.1, by rw [h.2]; exact Below.refl _ _⟩
                              | cons z F7 =>
                                have hz7 := hFz.out z (by rw [hF]; exact List.mem_cons_self)
                                have hi64 : ∀ y, y < n → i64 (litF M y) := fun y hy => (HCW.out.2.2.1 _ (getD_mem (by rw [hn.out]; exact hy))).1
                                have hlt7 : ∀ y, y < n → litF M y ≠ -9223372036854775808 := fun y hy => (isLit_iff.1 ((hgood y (by rw [hn.out]; exact hy)).lit)).2
                                have hin : ∀ y, y < n → i64 (-litF M y) := fun y hy => by have h1 := hi64 y hy; have h2 := hlt7 y hy; unfold i64 at h1 ⊢; omega
                                have hok : okL cl2 := fun y hy => by
                                  rw [hcl.out, ← HX0.out] at hy
                                  rcases List.mem_cons.1 hy with e | e
                                  · rw [e]; exact hin p' hpn
                                  · obtain ⟨y2, h2, rfl⟩ := List.mem_map.1 e; exact hin y2 (hFz.out y2 h2)
                                have hls : LsAt wr s2.at' cl2 := by
                                  obtain ⟨a9, cap9, e9, _, h9⟩ := own_ls HRR.out.2.1 hok (by omega)
                                  unfold SlV.val at e9; injection e9 with e9 _ e8; rw [e9]; exact h9
                                have e2 : cl2.getD 1 0 = -litF M z := by rw [hcl.out, hF]; rfl
                                have e3 : 2 ≤ cl2.length := by rw [hcl.out, hF]; simp
                                exact back_is base b G N0 _ _ mc M s2.at' s2.c cl2 e3 (-litF M z) e2 (hin z hz7) (Chk.flsSelf hgood (by rw [hn.out]; exact hz7) (hi64 z hz7)) z (by rw [Int.neg_neg]; exact Chk.self hgood (by rw [hn.out]; exact hz7)) (by omega) wr (by rw [hn.out]; exact HTB.out) hd (HCW.out.2.later HBL.out) hls)
                          go_wp2_with fail
                          refine GE2.out.mono ?_
                          rintro e wq ⟨rfl, hwq⟩
                          rw [hwq]
                          clear hwq wq GE2
                          go_wp2_with fail
                          refine GBK.out.mono ?_
                          rintro e wy ⟨rfl, by9⟩
                          clear GBK
                          have HRY := hide' (And.intro (HRR.out.1.belowR by9) (HRR.out.2.belowR by9))
                          have HBY := hide' (HBL.out.trans (by9.mono HBL.out.size))
                          clear by9
                          have hrow := (HBY.out.block rb (Array.getElem?_eq_some_iff.1 HROW.out).1).trans HROW.out
                          have c0 := cell_of_row wy rb 0 _ _ _ hrow
                          have c1 := cell_of_row wy rb 1 _ _ _ hrow
                          have c2 := cell_of_row wy rb 2 _ _ _ hrow
                          simp only [List.getElem?_toArray, List.getElem?_cons_zero, List.getElem?_cons_succ] at c0 c1 c2
                          have fzr := fun o => frozen_of_row wy rb o _ _ hrow
                          have howrb : owx rb = 0 := HLOW.out rb (Array.getElem?_eq_some_iff.1 HROW.out).1
                          obtain ⟨wS, hwS⟩ : ∃ wS, (((wy.setCell ⟨rb, 0, none⟩ (.slice s2.at' cl2.length s2.c)).setCell ⟨rb, 1, none⟩ (.int .i64 bv)).setCell ⟨rb, 2, none⟩ (.slice s1.at' ch2.length s1.c)) = wS := ⟨_, rfl⟩
                          have hoth : ∀ x, x ≠ rb → wS.heap[x]? = wy.heap[x]? := fun x hx => by rw [← hwS]; exact ((heap_setCell_other _ _ _ _ hx).trans (heap_setCell_other _ _ _ _ hx)).trans (heap_setCell_other _ _ _ _ hx)
                          have hrS : wS.heap[rb]? = some (.cells #[.slice s2.at' cl2.length s2.c, .int .i64 bv, .slice s1.at' ch2.length s1.c] 37 (0, 0)) := by rw [← hwS]; simp [World.setCell, Array.getElem?_modify, hrow]
                          have hBS : Below rb w wS := (hbT.out.trans (HBY.out.mono HRW.out)).trans ⟨by rw [← hwS]; rfl, by rw [← hwS]; rfl, by rw [← hwS]; rfl, by rw [← hwS, World.size_setCell, World.size_setCell, World.size_setCell]; exact Nat.le_refl _, fun x hx => hoth x (by omega)⟩
                          have q0 := cell_of_row wS rb 0 _ _ _ hrS
                          have q1 := cell_of_row wS rb 1 _ _ _ hrS
                          have q2 := cell_of_row wS rb 2 _ _ _ hrS
                          simp only [List.getElem?_toArray, List.getElem?_cons_zero, List.getElem?_cons_succ] at q0 q1 q2
                          have HX := hide' (show TQ (.returned (.tuple #[.agg #[.slice s2.at' cl2.length s2.c, .int .i64 bv, .slice s1.at' ch2.length s1.c], .int .i64 0])) wS from by rw [← hTQ.out]; exact ⟨by rw [hrb]; exact hBS, Or.inr (Or.inr ⟨hgood, κ, p, HOK.out, _, rfl, owx, s2, s1, by rw [HRES.out.1, HRES.out.2.1, HRES.out.2.2, HBV.out]; rfl, by rw [HRES.out.1]; exact HRY.out.2.keep (fun g hg => hoth g (fun e => by have h9 := HRY.out.2.2 g hg; rw [e, howrb] at h9; cases h9)) (fun _ _ => rfl), by rw [HRES.out.2.1]; exact HRY.out.1.keep (fun g hg => hoth g (fun e => by have h9 := HRY.out.1.2 g hg; rw [e, howrb] at h9; cases h9)) (fun _ _ => rfl), fun x hx => HLOW.out x (by have := HRW.out; omega)⟩)⟩)
                          clear hoth hrS hBS
                          go_wp2
                          try rw [hwS]
                          first | exact HX.out | (refine bodyPost_ret (v := .tuple #[.agg #[.slice s2.at' cl2.length s2.c, .int .i64 bv, .slice s1.at' ch2.length s1.c], .int .i64 0]) (by rw [results_ct rfl]; go_simp) rfl ?_; exact HX.out)
                        · rw [decide_eq_false hL2] at GE2
                          obtain ⟨z, hzt, htop2⟩ := HLS2.out.top HS2.out.fa.hp (by omega)
                          obtain ⟨m9, hm9⟩ : ∃ m9, L2.length = m9 + 1 := ⟨L2.length - 1, by omega⟩
                          have GN2 := hide' (fnext_is owx 2 q N2 m9 L2 (z : Int) hm9 hzt wr HS2.out.fa)
                          clear hm9 hzt hR3 hL2
                          have hzn : z < nn := (top_some htop2).1
                          have hzM : z < n := by omega
                          have HTP := hide' htop2
                          clear htop2
                          go_wp2_with fail
                          refine GE2.out.mono ?_
                          rintro e wq ⟨rfl, hwq⟩
                          rw [hwq]
                          clear hwq wq GE2
                          go_wp2_with fail
                          refine GN2.out.mono ?_
                          rintro e w4 ⟨rfl, ow4, L4, k1, k2, k3, k4⟩
                          have HP4 := hide' (show St w1 q N2 L4 w4 ow4 ∧ LofS L4 z S2 ∧ RowAt w4 ow4 3 3 1 s1 ch2.length (iv ch2) ∧ RowAt w4 ow4 4 3 1 s2 cl2.length (iv cl2) from ⟨HS2.out.step k3 k1, HLS2.out.pop HTP.out k2, HR2.out.far k3 (by decide), HRL.out.far k3 (by decide)⟩)
                          clear k1 k2 k3 k4 GN2 HS2 HLS2 HR2 HRL
                          obtain ⟨b2, o2, e2, ⟨cl, cz, _⟩, hoz⟩ := HCW.out.2.el hn.out hzM
                          injection e2 with e2; injection e2 with e4 e5; subst e4; subst e5
                          replace cz := below_cell HP4.out.1.bel cz
                          replace cl := below_cell HP4.out.1.bel cl
                          have e7 : (M.getD z default).v = levF M z := rfl
                          have e8 : (M.getD z default).l = litF M z := rfl
                          unfold okM i64 at hoz
                          rw [e7] at cz
                          rw [e8] at cl hoz
                          have hlz := isLit_iff.1 ((hgood z (by rw [hn.out]; exact hzM)).lit)
                          rw [e8] at hlz
                          clear e7 e8
                          obtain ⟨x1, hx1⟩ : ∃ x, litF M z = x := ⟨_, rfl⟩
                          rw [hx1] at cl hoz hlz
                          have hz1 := hoz.1.1
                          have hz2 := hoz.1.2
                          have hv9 := wrap_neg (show -9223372036854775808 < x1 by omega) hz2
                          have hv8 := wrap_neg0 (show -9223372036854775808 < x1 by omega) hz2
                          have HX1 := hide' hx1
                          clear hx1 hoz
                          replace hlz := hide' hlz
                          obtain ⟨lz, hlzv⟩ : ∃ l, levF M z = l := ⟨_, rfl⟩
                          rw [hlzv] at cz
                          have HLZ := hide' hlzv
                          clear hlzv
                          have i1 : (z : Int) < (n : Int) := by omega
                          have i0 : (0 : Int) ≤ (z : Int) := by omega
                          obtain ⟨ii, hii, hiz, his, hib⟩ := info_parts info_i
                          by_cases hl0 : lz = 0
                          · have el0 : (lz == 0) = true := by simp [hl0]
                            have hnd : rsnF M z ≠ -1 := fun e => by have h9 := Chk.decided0 hgood e (by rw [hn.out]; exact hzM); rw [HLZ.out] at h9; omega
                            replace hl0 := hide' hl0
                            obtain ⟨ρ, hρ, hρC, hmem9, hfl9⟩ := Chk.reason hgood (by rw [hn.out]; exact hzM) hnd
                            have hcau := hide' (fun y (hy : y ∈ cauL C M z) => Chk.cau hgood (p := z) (by rw [hn.out]; exact hzM) hnd hy)
                            have hcl3 : (cauL C M z).length ≤ 1048576 := by unfold cauL; rw [List.length_map, show (M.getD z default).r = (ρ : Int) from hρ, Int.toNat_natCast]; exact Nat.le_trans (List.length_filter_le _ _) (HCM.out.2.2 ρ hρC)
                            have GRS := hide' (resolve_is base b G N0 _ ca C f _ mc M w1 (by rw [hCn.out, hn.out]; exact HT.out) hd HCW.out.1 HCW.out.2 (by rw [hn.out]; exact hM9) z ρ (by rw [hn.out]; exact hzM) hρ hρC (fun x hx hne => (hfl9 x hx hne).1) (HCM.out.2.2 ρ hρC) ow4 2 q N2 L4 w4 HP4.out.1.bel HP4.out.1.low HP4.out.1.hi (by decide) (by have := HNN2.out.2.2; omega) HP4.out.1.fa)
                            have HRZ := hide' (show rsnF M z = (ρ : Int) from hρ)
                            have hρ9 : ρ ≤ 17592186044416 := by have := HCW.out.1.1; omega
                            clear hnd hρ hmem9 hfl9 hρC
                            go_wp2_with fail
                            refine GRS.out.mono ?_
                            rintro e w5 ⟨rfl, ow5, L5, k1, k2, k3⟩
                            have HX := hide' (show St w1 q (N2 + (cauL C M z).length) L5 w5 ow5 ∧ RowAt w5 ow5 3 3 1 s1 ch2.length (iv ch2) ∧ RowAt w5 ow5 4 3 1 s2 cl2.length (iv cl2) ∧ LofS L5 z (uni S2 (cauB C M z)) from ⟨HP4.out.1.step k3 k1, HP4.out.2.2.1.far k3 (by decide), HP4.out.2.2.2.far k3 (by decide), HP4.out.2.1.uni hcau.out k2⟩)
                            clear k1 k2 k3 GRS cl cz
                            have hrB := HX.out.2.1
                            obtain ⟨l9, hl9⟩ : ∃ l, ch2.length = l := ⟨_, rfl⟩
                            have hlb9 := hb1
                            rw [hl9] at hrB hlb9
                            obtain ⟨wB, hwB⟩ : ∃ wB, w5.alloc (.cells #[.int .i64 ((ρ : Int))] 3) = wB := ⟨_, rfl⟩
                            have hnew := heap_alloc_new w5 (.cells #[.int .i64 ((ρ : Int))] 3)
                            have b3 := below_alloc (w := w5) (.cells #[.int .i64 ((ρ : Int))] 3)
                            rw [hwB] at hnew b3
                            have hrB2 := hrB.belowR b3
                            have HO := hide' (show wB.ownsRow 0 3 1 (.slice s1.at' l9 s1.c) l9 (iv ch2) from hrB2.1)
                            have HRB := hide' (And.intro hrB2 (App.of_below (ow := ow5) (t := 3) b3))
                            clear hrB hrB2 b3
                            have hml : l9 + 1 ≤ maxLen := by simp only [maxLen]; omega
                            have hbl : (l9 + 1) * 8 ≤ 140737488355328 := by omega
                            have hl10 := hide' hl9
                            try rw [hl9]
                            clear hl9
                            go_wp2_with (at_builtin; (try rw [hwB]); refine wpList_append_lies _ (by rfl) _ _ _ (by rfl) 0 3 ii _ 1 8 Try.underlying26 hii hiz his hib rfl (by omega) (.slice s1.at' l9 s1.c) l9 (iv ch2) (by rfl) HO.out ⟨w5.heap.size, 0, none⟩ 1 1 [.int .i64 ((ρ : Int))] (by rfl) (by rfl) (World.news_of_block (cs := #[.int .i64 ((ρ : Int))]) (t := 3) (fr := (0, 0)) hnew) (by simp [Value.oneCell']) (by omega) hml hbl (Nat.zero_le _) wB.heap.size rfl ?_)
                            intro gb cap w6 hown hgrow hat hlt9
                            obtain ⟨R9, A9⟩ := RowAt.app (ow := ow5) (t := 3) (s := s1) (n := l9) (m := 1) (xs := iv ch2) (news := [.int .i64 ((ρ : Int))]) HRB.out.1 hown hgrow hat rfl hlt9 (by decide)
                            obtain ⟨ow6, how9⟩ : ∃ o, setO ow5 gb 3 = o := ⟨_, rfl⟩
                            rw [how9] at R9 A9
                            replace A9 := HRB.out.2.trans A9
                            have R8 : RowAt w6 ow6 3 3 1 ⟨some gb, cap⟩ (ch2 ++ [(ρ : Int)]).length (iv (ch2 ++ [(ρ : Int)])) := by rw [List.length_append, hl10.out, iv_append]; exact R9
                            clear R9 HO HRB hnew hml hbl hown hgrow hat hlt9 how9 hwB hlb9
                            have HY := hide' (And.intro (HX.out.1.other A9 (by decide) (by decide)) (And.intro R8 (HX.out.2.2.1.far A9 (by decide))))
                            clear A9 R8
                            have HQ1 := hide' (show clF (levF M) (cauB C M) (rsnF M) z (uni S2 (cauB C M z)) (ch2 ++ [(ρ : Int)]) = H9 from by rw [← HHE.out, cl_zero (levF M) (cauB C M) (rsnF M) ch2 HTP.out (by rw [HLZ.out]; exact hl0.out), HRZ.out])
                            have HQ2 := hide' (show cl2 ++ (fallN (levF M) z (uni S2 (cauB C M z))).map (fun z => -litF M z) = (-x0) :: F9.map (fun z => -litF M z) from by rw [← fall_zero (levF M) HTP.out (by rw [HLZ.out]; exact hl0.out) (fun y hy hcy => by have h1 := Chk.mono hgood (i := y) (j := z) (by omega) (by rw [hn.out]; exact hzM); have h2 := (Chk.pos hgood (j := y) (by rw [hn.out]; omega)).1; rw [HLZ.out, hl0.out] at h1; omega)]; exact HCE.out)
                            have hcle : (ch2 ++ [(ρ : Int)]).length = l9 + 1 := by rw [List.length_append, hl10.out]; rfl
                            have HCLE := hide' hcle
                            clear hcle
                            have HNX := hide' (show (l9 + 1) + z ≤ n ∧ cl2.length + z ≤ n ∧ N2 + (cauL C M z).length + 1048576 * z ≤ 1048576 * (n + 1) from by have h1 := HNN2.out; rw [hl10.out] at h1; omega)
                            go_wp2
                            go_roundw
                            case rel => exact ⟨z, uni S2 (cauB C M z), ch2 ++ [(ρ : Int)], cl2, ow6, L5, N2 + (cauL C M z).length, ⟨some gb, cap⟩, s2, by rw [HCLE.out]; rfl, by go_num, rfl, HY.out.1, HX.out.2.2.2, HY.out.2.1, HY.out.2.2, by omega, HQ1.out, HQ2.out, by rw [HCLE.out]; exact HNX.out.1, HNX.out.2.1, HNX.out.2.2⟩
                            case measure => simp only [intOf]; omega
                          · have el0 : (lz == 0) = false := by simp [hl0]
                            replace hl0 := hide' hl0
                            have hrB := HP4.out.2.2.2
                            obtain ⟨l9, hl9⟩ : ∃ l, cl2.length = l := ⟨_, rfl⟩
                            have hlb9 := hb2
                            rw [hl9] at hrB hlb9
                            obtain ⟨wB, hwB⟩ : ∃ wB, w4.alloc (.cells #[.int .i64 (-x1)] 3) = wB := ⟨_, rfl⟩
                            have hnew := heap_alloc_new w4 (.cells #[.int .i64 (-x1)] 3)
                            have b3 := below_alloc (w := w4) (.cells #[.int .i64 (-x1)] 3)
                            rw [hwB] at hnew b3
                            have hrB2 := hrB.belowR b3
                            have HO := hide' (show wB.ownsRow 0 3 1 (.slice s2.at' l9 s2.c) l9 (iv cl2) from hrB2.1)
                            have HRB := hide' (And.intro hrB2 (App.of_below (ow := ow4) (t := 4) b3))
                            clear hrB hrB2 b3
                            have hml : l9 + 1 ≤ maxLen := by simp only [maxLen]; omega
                            have hbl : (l9 + 1) * 8 ≤ 140737488355328 := by omega
                            have hl10 := hide' hl9
                            try rw [hl9]
                            clear hl9
                            go_wp2_with (at_builtin; (try rw [hwB]); refine wpList_append_lies _ (by rfl) _ _ _ (by rfl) 0 3 ii _ 1 8 Try.underlying35 hii hiz his hib rfl (by omega) (.slice s2.at' l9 s2.c) l9 (iv cl2) (by rfl) HO.out ⟨w4.heap.size, 0, none⟩ 1 1 [.int .i64 (-x1)] (by rfl) (by rfl) (World.news_of_block (cs := #[.int .i64 (-x1)]) (t := 3) (fr := (0, 0)) hnew) (by simp [Value.oneCell']) (by omega) hml hbl (Nat.zero_le _) wB.heap.size rfl ?_)
                            intro gb cap w6 hown hgrow hat hlt9
                            obtain ⟨R9, A9⟩ := RowAt.app (ow := ow4) (t := 4) (s := s2) (n := l9) (m := 1) (xs := iv cl2) (news := [.int .i64 (-x1)]) HRB.out.1 hown hgrow hat rfl hlt9 (by decide)
                            obtain ⟨ow6, how9⟩ : ∃ o, setO ow4 gb 4 = o := ⟨_, rfl⟩
                            rw [how9] at R9 A9
                            replace A9 := HRB.out.2.trans A9
                            have R8 : RowAt w6 ow6 4 3 1 ⟨some gb, cap⟩ (cl2 ++ [-x1]).length (iv (cl2 ++ [-x1])) := by rw [List.length_append, hl10.out, iv_append]; exact R9
                            clear R9 HO HRB hnew hml hbl hown hgrow hat hlt9 how9 hwB hlb9
                            have HY := hide' (And.intro (HP4.out.1.other A9 (by decide) (by decide)) (And.intro (HP4.out.2.2.1.far A9 (by decide)) R8))
                            clear A9 R8
                            have HQ1 := hide' (show clF (levF M) (cauB C M) (rsnF M) z S2 ch2 = H9 from by rw [← HHE.out, cl_pos (levF M) (cauB C M) (rsnF M) ch2 HTP.out (by rw [HLZ.out]; exact hl0.out)])
                            have HQ2 := hide' (show (cl2 ++ [-x1]) ++ (fallN (levF M) z S2).map (fun z => -litF M z) = (-x0) :: F9.map (fun z => -litF M z) from by have h9 := HCE.out; rw [fall_pos (levF M) HTP.out (by rw [HLZ.out]; exact hl0.out), List.map_cons, HX1.out] at h9; rw [List.append_assoc]; exact h9)
                            have hcle : (cl2 ++ [-x1]).length = l9 + 1 := by rw [List.length_append, hl10.out]; rfl
                            have HCLE := hide' hcle
                            clear hcle
                            have HNX := hide' (show ch2.length + z ≤ n ∧ (l9 + 1) + z ≤ n ∧ N2 + 1048576 * z ≤ 1048576 * (n + 1) from by have h1 := HNN2.out; rw [hl10.out] at h1; omega)
                            go_wp2
                            go_roundw
                            case rel => exact ⟨z, S2, ch2, cl2 ++ [-x1], ow6, L4, N2, s1, ⟨some gb, cap⟩, rfl, by go_num, by rw [HCLE.out]; rfl, HY.out.1, HP4.out.2.1, HY.out.2.1, HY.out.2.2, by omega, HQ1.out, HQ2.out, HNX.out.1, by rw [HCLE.out]; exact HNX.out.2.1, HNX.out.2.2⟩
                            case measure => simp only [intOf]; omega
                    · have el : (lz == m) = true := by simp [hlm]
                      have hnd : rsnF M p' ≠ -1 := fun e => by have h9 := Chk.decided hgood e HZ.out.2.2.1 (by rw [hn.out]; exact hpn); rw [HLZ.out, HLV.out] at h9; omega
                      replace hlm := hide' hlm
                      obtain ⟨ρ, hρ, hρC, hmem9, hfl9⟩ := Chk.reason hgood (by rw [hn.out]; exact hpn) hnd
                      have hcau := hide' (fun z (hz : z ∈ cauL C M p') => Chk.cau hgood (p := p') (by rw [hn.out]; exact hpn) hnd hz)
                      have HGO := hide' (fun q' h2 => uip_go (levF M) (cauB C M) (rsnF M) ch HZ.out.2.1 (q' := q') (by rw [HLZ.out, HLV.out]; exact hlm.out) h2)
                      have hcl3 : (cauL C M p').length ≤ 1048576 := by unfold cauL; rw [List.length_map, show (M.getD p' default).r = (ρ : Int) from hρ, Int.toNat_natCast]; exact Nat.le_trans (List.length_filter_le _ _) (HCM.out.2.2 ρ hρC)
                      have GRS := hide' (fun wq (hb : Below wr.heap.size wr wq) => resolve_is base b G N0 _ ca C f _ mc M w1 (by rw [hCn.out, hn.out]; exact HT.out) hd HCW.out.1 HCW.out.2 (by rw [hn.out]; exact hM9) p' ρ (by rw [hn.out]; exact hpn) hρ hρC (fun x hx hne => (hfl9 x hx hne).1) (HCM.out.2.2 ρ hρC) ow 2 q N L wq (HS.out.bel.trans (hb.mono HS.out.bel.size)) HS.out.low (fun x hx => HS.out.hi x (Nat.le_trans hb.size hx)) (by decide) (by have := HNN.out.2; omega) (HS.out.fa.later hb))
                      have HRH := hide' (And.intro hρ (show rsnF M p' = (ρ : Int) from hρ))
                      have hρ9 : ρ ≤ 17592186044416 := by have := HCW.out.1.1; omega
                      clear hnd hρ hmem9 hfl9 hρC
                      go_wp2_with fail
                      go_quiet (first | (go_at_call 28; exact Calls.quiet_of_same (GE.out _ (below_drewN (Below.refl _ _)))) | (go_at_call 38; exact Calls.quiet_of_same (GG.out _ (below_drewN (Below.refl _ _)))))
                      have bQ : Below wr.heap.size wr (wr.drewN nq) := below_drewN (Below.refl _ _)
                      obtain ⟨wd, hwd⟩ : ∃ wd, wr.drewN nq = wd := ⟨_, rfl⟩
                      rw [hwd] at bQ ⊢
                      clear hwd
                      have GRS2 := hide' (GRS.out wd bQ)
                      have HSd := hide' (And.intro (HS.out.later bQ) (HR.out.belowR bQ))
                      clear GRS bQ cz cp GE GG
                      go_wp2_with fail
                      refine GRS2.out.mono ?_
                      rintro e w5 ⟨rfl, ow5, L5, k1, k2, k3⟩
                      have HX := hide' (show St w1 q (N + (cauL C M p').length) L5 w5 ow5 ∧ RowAt w5 ow5 3 3 1 s ch.length (iv ch) ∧ LofS L5 p' (uni S (cauB C M p')) from ⟨HSd.out.1.step k3 k1, HSd.out.2.far k3 (by decide), HLS.out.uni hcau.out k2⟩)
                      have hL5 : z ∈ [z] := by simp
                      have HL5 := hide' (show L5.length ≠ 0 from fun e => by have h9 := (k2 (L.getD 0 0)).2 (Or.inl (getD_mem (by have := HZ.out.2.2.2; omega))); rw [List.eq_nil_of_length_eq_zero e] at h9; cases h9)
                      clear hL5 k1 k2 k3 GRS2 HSd
                      obtain ⟨ii, hii, hiz, his, hib⟩ := info_parts info_i
                      have hrB := HX.out.2.1
                      obtain ⟨l9, hl9⟩ : ∃ l, ch.length = l := ⟨_, rfl⟩
                      have hlb9 := hcl9
                      rw [hl9] at hrB hlb9
                      obtain ⟨wB, hwB⟩ : ∃ wB, w5.alloc (.cells #[.int .i64 ((ρ : Int))] 3) = wB := ⟨_, rfl⟩
                      have hnew := heap_alloc_new w5 (.cells #[.int .i64 ((ρ : Int))] 3)
                      have b3 := below_alloc (w := w5) (.cells #[.int .i64 ((ρ : Int))] 3)
                      rw [hwB] at hnew b3
                      have hrB2 := hrB.belowR b3
                      have HO := hide' (show wB.ownsRow 0 3 1 (.slice s.at' l9 s.c) l9 (iv ch) from hrB2.1)
                      have HRB := hide' (And.intro hrB2 (App.of_below (ow := ow5) (t := 3) b3))
                      clear hrB hrB2 b3
                      have hml : l9 + 1 ≤ maxLen := by simp only [maxLen]; omega
                      have hbl : (l9 + 1) * 8 ≤ 140737488355328 := by omega
                      have hl10 := hide' hl9
                      try rw [hl9]
                      clear hl9
                      go_wp2_with (at_builtin; (try rw [hwB]); refine wpList_append_lies _ (by rfl) _ _ _ (by rfl) 0 3 ii _ 1 8 Try.underlying26 hii hiz his hib rfl (by omega) (.slice s.at' l9 s.c) l9 (iv ch) (by rfl) HO.out ⟨w5.heap.size, 0, none⟩ 1 1 [.int .i64 ((ρ : Int))] (by rfl) (by rfl) (World.news_of_block (cs := #[.int .i64 ((ρ : Int))]) (t := 3) (fr := (0, 0)) hnew) (by simp [Value.oneCell']) (by omega) hml hbl (Nat.zero_le _) wB.heap.size rfl ?_)
                      intro gb cap w6 hown hgrow hat hlt9
                      obtain ⟨R9, A9⟩ := RowAt.app (ow := ow5) (t := 3) (s := s) (n := l9) (m := 1) (xs := iv ch) (news := [.int .i64 ((ρ : Int))]) HRB.out.1 hown hgrow hat rfl hlt9 (by decide)
                      obtain ⟨ow6, how9⟩ : ∃ o, setO ow5 gb 3 = o := ⟨_, rfl⟩
                      rw [how9] at R9 A9
                      replace A9 := HRB.out.2.trans A9
                      have R8 : RowAt w6 ow6 3 3 1 ⟨some gb, cap⟩ (ch ++ [(ρ : Int)]).length (iv (ch ++ [(ρ : Int)])) := by rw [List.length_append, hl10.out, iv_append]; exact R9
                      clear R9 HO HRB hnew hml hbl hown hgrow hat hlt9 how9 hwB hlb9
                      have HY := hide' (And.intro (HX.out.1.other A9 (by decide) (by decide)) R8)
                      clear A9 R8
                      obtain ⟨z5, hz5, ht5⟩ := HX.out.2.2.top HX.out.1.fa.hp (by have := HL5.out; omega)
                      obtain ⟨m5, hm5⟩ : ∃ m5, L5.length = m5 + 1 := ⟨L5.length - 1, by have := HL5.out; omega⟩
                      have GN := hide' (fnext_is ow6 2 q _ m5 L5 (z5 : Int) hm5 hz5 w6 HY.out.1.fa)
                      have HT5 := hide' (And.intro ht5 (HGO.out z5 ht5))
                      clear hz5 hm5 ht5
                      go_wp2_with fail
                      refine GN.out.mono ?_
                      rintro e w7 ⟨rfl, ow7, L7, k1, k2, k3, k4⟩
                      have HZ7 := hide' (show St w1 q (N + (cauL C M p').length) L7 w7 ow7 ∧ LofS L7 z5 (uni S (cauB C M p')) ∧ RowAt w7 ow7 3 3 1 ⟨some gb, cap⟩ (ch ++ [(ρ : Int)]).length (iv (ch ++ [(ρ : Int)])) from ⟨HY.out.1.step k3 k1, HX.out.2.2.pop HT5.out.1 k2, HY.out.2.far k3 (by decide)⟩)
                      clear k1 k2 k3 k4 GN
                      have hz9 := (top_some HT5.out.1)
                      have hlv9 : levF M z5 = m := by
                        have h1 := Chk.mono hgood (i := z5) (j := p') (by omega) (by rw [hn.out]; exact hpn)
                        have h2 := Chk.mono hgood (i := z) (j := z5) (by rcases Nat.lt_or_ge z5 z with e | e; (have := hz9.2.2 z e HZ.out.2.2.1; unfold uni at this; rw [(top_some HZ.out.2.1).2.1] at this; simp at this); exact e) (by rw [hn.out]; omega)
                        rw [HLV.out] at h1; rw [HLZ.out, hlm.out] at h2; omega
                      have HEND := hide' (And.intro hlv9 (And.intro hz9.1 (show ch.length + 1 + z5 ≤ n ∧ N + (cauL C M p').length + 1048576 * z5 ≤ 1048576 * (n + 1) from by have h1 := HNN.out; have h2 := hz9.1; omega)))
                      clear hlv9 hz9
                      have HFU := hide' (show uip (levF M) (cauB C M) (rsnF M) z5 (uni S (cauB C M p')) (ch ++ [(ρ : Int)]) = U from by rw [← HUU.out, HT5.out.2, HRH.out.2])
                      have hcle : (ch ++ [(ρ : Int)]).length = l9 + 1 := by rw [List.length_append, hl10.out]; rfl
                      have HCLE := hide' hcle
                      clear hcle
                      go_wp2
                      go_roundw
                      case rel => exact ⟨z5, uni S (cauB C M p'), ch ++ [(ρ : Int)], ow7, L7, N + (cauL C M p').length, ⟨some gb, cap⟩, by rw [HCLE.out]; rfl, by go_num, HZ7.out.1, HZ7.out.2.1, HZ7.out.2.2, by have := HEND.out.2.1; omega, HEND.out.1, HFU.out, by rw [HCLE.out, ← hl10.out]; exact HEND.out.2.2.1, HEND.out.2.2.2⟩
                      case measure => have h9 := HEND.out.2.1; simp only [intOf]; omega
end Go.Proofs.Ytbcbgglhhfdbcab
