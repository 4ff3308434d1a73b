/-
  From what a law's row hands over (a list of api.Rat, an api.Form that came in) to the walks' words.
-/
import Derived.Test.YtnifelfecildmaaGreatDoorOpenQ
import Derived.Deep.Slices
namespace Go.Proofs.YtnifelfecildmaaGreatDoor
open Go.ChangeShapes Go.WideShapes Go.ChangeAt Go.RowKit Go.Deep
set_option linter.unusedVariables false

/-- a fraction, as its three cells and the two numbers that they point to -/
structure RatV where
  s : Bool
  a : Option Addr
  n : Nat
  c : Nat
  X : Nat
  b : Option Addr
  m : Nat
  e : Nat
  Y : Nat
instance : Inhabited RatV := ⟨⟨false, none, 0, 0, 0, none, 0, 0, 0⟩⟩

/-- its two numbers lie in W -/
def RatV.ok (W : World) (q : RatV) : Prop := Seg W q.a q.X q.n ∧ q.n ≤ q.c ∧ q.n ≤ 35184372087808 ∧ Seg W q.b q.Y q.m ∧ q.m ≤ q.e ∧ q.m ≤ 35184372087808

/-- its three cells lie in W at one place -/
def RatV.lies (W : World) (b off : Nat) (q : RatV) : Prop :=
  W.cell? ⟨b, off, none⟩ = some (.bool q.s) ∧ W.cell? ⟨b, off + 1, none⟩ = some (.slice q.a q.n q.c) ∧ W.cell? ⟨b, off + 2, none⟩ = some (.slice q.b q.m q.e)

set_option maxRecDepth 100000 in
theorem open_Rat3 {H : Type} {enc : TypeId × Value → H} {W : World} {c0 c1 c2 : Value} {d : DataW H} {p : List MemPlace} {fuel : Nat}
    (hf : DataW.trod enc Tryz.prog W 0 (fun _ => true) true fuel 28 [c0, c1, c2] = some (d, p))
    (hsz : (d.weights Tryz.prog 28).all (· ≤ reachBytes) = true) :
    ∃ q : RatV, c0 = .bool q.s ∧ c1 = .slice q.a q.n q.c ∧ c2 = .slice q.b q.m q.e ∧ q.ok W ∧ q.n + q.m + 1 ≤ Rows.uptoBulk d := by
  obtain ⟨y0, y1, n, hx, hl, h0, h1⟩ := trod_struct2 Tryz.underlying28 hf
  simp only [List.drop_zero, cells_Int, cells_nat] at h0 h1
  change DataW.trod enc _ _ _ _ _ n 26 [c0, c1] = _ at h0
  change DataW.trod enc _ _ _ _ _ n 24 [c2] = _ at h1
  simp only [Prod.mk.injEq] at hx
  obtain ⟨rfl, rfl⟩ := hx
  have hc2 : ∃ a len cap, c2 = .slice a len cap := by
    rcases open_ints A_under_nat Tryz.underlying37 (by kernel_rfl) h1 with ⟨hcs, _⟩ | ⟨x, l, c, zs, hcs, _⟩
    · simp at hcs; exact ⟨_, _, _, hcs⟩
    · simp at hcs; exact ⟨_, _, _, hcs⟩
  obtain ⟨b, m, e, rfl⟩ := hc2
  obtain ⟨y0d, y0p⟩ := y0
  obtain ⟨y1d, y1p⟩ := y1
  have hu := Tryz.underlying28
  simp only [DataW.weights, hu, DataW.weightsEach, List.map] at hsz
  simp only [List.all_append, Bool.and_eq_true] at hsz
  obtain ⟨s, a, len, cap, X, rfl, rfl, hS, hc, hb, hu0⟩ := open_Int2 (c0 := c0) (c1 := c1) (d := y0d) (p := y0p) ⟨n, h0⟩ hsz.1
  obtain ⟨Y, hT, hd, hk, hu1⟩ := open_nat (len := m) (cap := e) (a := b) (d := y1d) (p := y1p) A_under_nat ⟨n, h1⟩ (fun elems spare e => by
    have e' : y1d = .slice elems spare := e
    subst e'
    have h2 := hsz.2.1
    simp only [DataW.weights, A_under_nat] at h2
    simp only [List.all_cons, Bool.and_eq_true, decide_eq_true_eq] at h2
    exact h2.1)
  exact ⟨⟨s, a, len, cap, X, b, m, e, Y⟩, rfl, rfl, rfl, ⟨hS, hc, hb, hT, hd, hk⟩, by simp only [Rows.uptoBulk, Rows.uptoBulkAll] at hu0 hu1 ⊢; omega⟩

theorem bulkAll_append {H : Type} : ∀ (l m : List (DataW H)), Rows.uptoBulkAll (l ++ m) = Rows.uptoBulkAll l + Rows.uptoBulkAll m
  | [], m => by simp [Rows.uptoBulkAll]
  | d :: l, m => by simp only [List.cons_append, Rows.uptoBulkAll, bulkAll_append l m]; omega

theorem weightsAll_mem {H : Type} {P : Program} {t : TypeId} {f : Nat → Bool} : ∀ {l : List (DataW H)} {d : DataW H}, (DataW.weightsAll P t l).all f = true → d ∈ l → (d.weights P t).all f = true
  | [], _, _, h => by simp at h
  | c :: l, d, h, hm => by
    simp only [DataW.weightsAll, List.all_append, Bool.and_eq_true] at h
    rcases List.mem_cons.1 hm with rfl | hm
    · exact h.1
    · exact weightsAll_mem h.2 hm


/-! ### A form: a list of a number of a variable and a fraction -/

end Go.Proofs.YtnifelfecildmaaGreatDoor
