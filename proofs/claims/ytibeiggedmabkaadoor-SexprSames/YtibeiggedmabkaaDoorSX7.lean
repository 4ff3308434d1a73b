/-
  A reader in memory: the lists that are open, what stands in them, what is finished; put on it.
-/
import Derived.Test.YtibeiggedmabkaaDoorSX5
import Derived.WalkLawsBesides
import Derived.Test.YtibeiggedmabkaaDoorSX0
namespace Go.Proofs.YtibeiggedmabkaaDoor
open Go.RowKit
set_option linter.unusedVariables false
set_option linter.unusedSimpArgs false
/-- what a panic with a fault hands up -/
def flt (e pl : Int) : List PanicEntry := [{ v := .iface 61 (.agg #[.int .i64 e, .int .i64 pl]), recovered := false }]
set_option maxHeartbeats 4000000 in
set_option maxRecDepth 100000 in
theorem ropen_no (b : Nat) (p : Option Addr) (v : Value) (en : Bool) (er pl : Int) (t : Tok) (w : World) (h : Blk w b (rdC p v 1000 en er pl) 63) : Calls Tryd.prog 40 #[.pointer (some ⟨b, 0, none⟩), .agg #[.int .i64 t.k, .string t.t, .int .i64 t.b, .int .i64 t.e, .int .i64 t.l, .int .i64 t.c]] w fun r w' => r = .panicked (flt 132 t.b) ∧ Below w.heap.size w w' := by
  have b0 := below_alloc (w := w) (.cells #[.int .i64 t.k, .string t.t, .int .i64 t.b, .int .i64 t.e, .int .i64 t.l, .int .i64 t.c] 32)
  have qN := Blk.new w #[.int .i64 t.k, .string t.t, .int .i64 t.b, .int .i64 t.e, .int .i64 t.l, .int .i64 t.c] 32
  replace h := h.later b0
  go_enter Tryd.func40, Tryd.ntmps40
  go_upto_region 1 with fail
  generalize w.alloc (.cells #[.int .i64 t.k, .string t.t, .int .i64 t.b, .int .i64 t.e, .int .i64 t.l, .int .i64 t.c] 32) = W at b0 qN h ⊢
  have y2 := h.cell 2
  have t2 := qN.cell 2
  simp only [rdC, List.getElem?_toArray, List.getElem?_cons_zero, List.getElem?_cons_succ] at y2 t2
  go_wp2
  exact ⟨rfl, rfl, b0⟩

set_option maxHeartbeats 4000000 in
set_option maxRecDepth 100000 in
theorem rshut_no (b : Nat) (p : Option Addr) (v : Value) (en : Bool) (er pl : Int) (t : Tok) (w : World) (h : Blk w b (rdC p v 0 en er pl) 63) : Calls Tryd.prog 41 #[.pointer (some ⟨b, 0, none⟩), .agg #[.int .i64 t.k, .string t.t, .int .i64 t.b, .int .i64 t.e, .int .i64 t.l, .int .i64 t.c]] w fun r w' => r = .panicked (flt 130 t.b) ∧ Below w.heap.size w w' := by
  have b0 := below_alloc (w := w) (.cells #[.int .i64 t.k, .string t.t, .int .i64 t.b, .int .i64 t.e, .int .i64 t.l, .int .i64 t.c] 32)
  have qN := Blk.new w #[.int .i64 t.k, .string t.t, .int .i64 t.b, .int .i64 t.e, .int .i64 t.l, .int .i64 t.c] 32
  replace h := h.later b0
  go_enter Tryd.func41, Tryd.ntmps41
  go_upto_region 1 with fail
  generalize w.alloc (.cells #[.int .i64 t.k, .string t.t, .int .i64 t.b, .int .i64 t.e, .int .i64 t.l, .int .i64 t.c] 32) = W at b0 qN h ⊢
  have y2 := h.cell 2
  have t2 := qN.cell 2
  simp only [rdC, List.getElem?_toArray, List.getElem?_cons_zero, List.getElem?_cons_succ] at y2 t2
  go_wp2
  exact ⟨rfl, rfl, b0⟩

end Go.Proofs.YtibeiggedmabkaaDoor

namespace Go.Proofs.YtibeiggedmabkaaDoor
open Go.RowKit
set_option linter.unusedVariables false
set_option linter.unusedSimpArgs false
/-- a list that is open (or the text's own): its token, its row, the row's cells, the nodes that they are -/
structure Lv where
  t : Tok
  v : Value
  K : List (Tok × Value)
  N : List Nd
def lsOf (lv : List Lv) : List (Tok × Value) := lv.reverse.map fun x => (x.t, x.v)
theorem lsOf_len (lv : List Lv) : (lsOf lv).length = lv.length := by simp [lsOf]
theorem lsOf_cons (x : Lv) (r : List Lv) : lsOf (x :: r) = lsOf r ++ [(x.t, x.v)] := by simp [lsOf]
/-- nodes, each one's kids in memory -/
def KN (w : World) (P : Nat → Prop) (K : List (Tok × Value)) (N : List Nd) : Prop :=
  K.length = N.length ∧ ∀ i (h : i < K.length) (h2 : i < N.length), K[i].1 = N[i].t ∧ NdIn w P K[i].2 N[i].kids
theorem KN.kept {w w' : World} {P Q : Nat → Prop} {K : List (Tok × Value)} {N : List Nd} (h : KN w P K N) (hk : ∀ g, P g → g < w.heap.size → w'.heap[g]? = w.heap[g]?) (hQ : ∀ g, P g → Q g) : KN w' Q K N :=
  ⟨h.1, fun i h1 h2 => ⟨(h.2 i h1 h2).1, (h.2 i h1 h2).2.kept hk hQ⟩⟩
theorem KN.snoc {w : World} {P : Nat → Prop} {K : List (Tok × Value)} {N : List Nd} (h : KN w P K N) {t : Tok} {u : Value} {n : List Nd} (hu : NdIn w P u n) : KN w P (K ++ [(t, u)]) (N ++ [.mk t n]) := by
  refine ⟨by simp [h.1], fun i h1 h2 => ?_⟩
  by_cases hi : i < K.length
  · rw [List.getElem_append_left hi, List.getElem_append_left (by rw [← h.1]; exact hi)]
    exact h.2 i hi (by rw [← h.1]; exact hi)
  · have e : i = K.length := by simp at h1; omega
    subst e
    rw [List.getElem_append_right (Nat.le_refl _), List.getElem_append_right (by rw [h.1]; exact Nat.le_refl _)]
    simp only [Nat.sub_self, h.1, List.getElem_cons_zero]
    exact ⟨rfl, hu⟩
/-- a block of nodes -/
def TyN (w : World) (g : Nat) : Prop := ∃ cur, w.heap[g]? = some (.cells cur 34 (0, 0))
theorem TyN.of {w w' : World} {g : Nat} (h : TyN w g) (e : w'.heap[g]? = w.heap[g]?) : TyN w' g := by
  obtain ⟨cur, hc⟩ := h
  exact ⟨cur, e.trans hc⟩
theorem own_ty {w : World} {base n : Nat} {v : Value} {xs : List Value} (h : w.ownsRow base 34 7 v n xs) {g : Nat} (hg : v.ownBlock = some g) : TyN w g := by
  rcases h.2 with ⟨rfl, _⟩ | ⟨g', cap, cur, rfl, _, hc, _⟩
  · cases hg
  · injection hg with hg
    simp only at hg
    subst hg
    exact ⟨cur, hc⟩
/-- the blocks that a reader may change -/
def RdX (b gl : Nat) (lv : List Lv) (k : Nat) : Prop := k = b ∨ k = gl ∨ ∃ x ∈ lv, x.v.ownBlock = some k
structure RdAt (w : World) (base b : Nat) (p : Option Addr) (en : Bool) (er pl : Int) (gl c : Nat) (P : Nat → Prop) (lv : List Lv) : Prop where
  blk : Blk w b (rdC p (.slice (some ⟨gl, 0, none⟩) lv.length c) ((lv.length : Int) - 1) en er pl) 63
  own : w.ownsRow base 34 7 (.slice (some ⟨gl, 0, none⟩) lv.length c) lv.length (nvCells (lsOf lv))
  ok : ∀ x ∈ lv, w.ownsRow base 34 7 x.v x.K.length (nvCells x.K)
  kn : ∀ x ∈ lv, KN w P x.K x.N
  ap : lv.Pairwise fun x y => ∀ g, x.v.ownBlock = some g → y.v.ownBlock ≠ some g
  far : ∀ x ∈ lv, ∀ g, x.v.ownBlock = some g → g ≠ b ∧ g ≠ gl ∧ ¬ P g
  pf : ∀ g, P g → g ≠ b ∧ g ≠ gl ∧ g < w.heap.size
  gb : gl ≠ b
  few : lv.length ≤ 1001
  low : base ≤ w.heap.size
  ty : ∀ g, P g → TyN w g
theorem rput {base b : Nat} {p : Option Addr} {en : Bool} {er pl : Int} {gl c : Nat} {P : Nat → Prop} {x : Lv} {r : List Lv} {w : World} (h : RdAt w base b p en er pl gl c P (x :: r)) (t : Tok) (ua : Option Addr) (un uc : Nat) (n : List Nd) (hn : NdIn w P (.slice ua un uc) n) (hkl : x.K.length ≤ 1000000000) : Calls Tryd.prog 42 #[.pointer (some ⟨b, 0, none⟩), .agg #[.int .i64 t.k, .string t.t, .int .i64 t.b, .int .i64 t.e, .int .i64 t.l, .int .i64 t.c, .slice ua un uc]] w fun e w' => ∃ v', e = .returned (.tuple #[]) ∧ RdAt w' base b p en er pl gl c P (⟨x.t, v', x.K ++ [(t, .slice ua un uc)], x.N ++ [.mk t n]⟩ :: r) ∧ Kp (RdX b gl (x :: r)) w w' ∧ (v'.ownBlock = x.v.ownBlock ∨ ∃ g, v'.ownBlock = some g ∧ w.heap.size ≤ g) := by
  have hx := List.mem_cons_self (a := x) (l := r)
  have hfx := h.far x hx
  have hox := h.ok x hx
  have hbl := h.blk.lt
  have hgl := (own_lt h.own (g := gl) rfl).2
  have ed : (((x :: r).length : Int) - 1) = (r.length : Int) := by simp
  have hblk := h.blk
  rw [ed] at hblk
  have hc : w.cell? ⟨gl, r.length * 7 + 6, none⟩ = some x.v := by have e := lsOf_len r; rw [h.own.cellAt _ (by simp only [List.length_cons]; omega), lsOf_cons, ← e, nv_at _ _ _ (by omega)]; rfl
  refine (put_is b gl (x :: r).length c r.length base p en er pl x.v x.K t ua un uc w hblk (by simp) h.few hc (h.own.frozenAt _) hox h.gb (fun e => (hfx gl e).2.1 rfl) (fun e => (hfx b e).1 rfl) hkl h.low).mono ?_
  rintro e w' ⟨v', rfl, o8, g8, k8, a8⟩
  refine ⟨v', rfl, ?_, ⟨k8.os, k8.tape, k8.output, k8.size, fun k hk hn => k8.block k hk (fun e => hn (by rcases e with e | e; exact Or.inr (Or.inl e); exact Or.inr (Or.inr ⟨x, hx, e⟩)))⟩, a8⟩
  have hP : ∀ g, P g → g < w.heap.size → w'.heap[g]? = w.heap[g]? := fun g hg hl => k8.block g hl (fun e => by rcases e with e | e; exact (h.pf g hg).2.1 e; exact (hfx g e).2.2 hg)
  have hv : ∀ g, v'.ownBlock = some g → g ≠ b ∧ g ≠ gl ∧ ¬ P g := fun g hg => by
    rcases a8 with a | ⟨g2, a, a2⟩
    · exact hfx g (a ▸ hg)
    · have e : g2 = g := by rw [a] at hg; injection hg
      subst e
      exact ⟨by omega, by omega, fun c => by have := (h.pf _ c).2.2; omega⟩
  have hL3 := own_heap ((h.own.stored (r.length * 7 + 6) v').1) g8
  rw [lsOf_cons, ← lsOf_len r, nv_last] at hL3
  refine ⟨?_, ?_, ?_, ?_, ?_, ?_, ?_, h.gb, h.few, Nat.le_trans h.low k8.size, fun g hg => (h.ty g hg).of (hP g hg (h.pf g hg).2.2)⟩
  · exact k8.blk h.blk (fun e => by rcases e with e | e; exact h.gb e.symm; exact (hfx b e).1 rfl)
  · rw [lsOf_cons]; exact hL3
  · intro y hy
    rcases List.mem_cons.1 hy with e | e
    · subst e; simpa using o8
    · exact own_kp (h.ok y (List.mem_cons_of_mem _ e)) k8 (fun g hg c => by rcases c with c | c; exact (h.far y (List.mem_cons_of_mem _ e) g hg).2.1 c; exact (List.pairwise_cons.1 h.ap).1 y e g c hg)
  · intro y hy
    rcases List.mem_cons.1 hy with e | e
    · subst e; exact ((h.kn x hx).kept hP (fun _ c => c)).snoc (hn.kept hP (fun _ c => c))
    · exact (h.kn y (List.mem_cons_of_mem _ e)).kept hP (fun _ c => c)
  · refine List.pairwise_cons.2 ⟨fun y hy g hg c => ?_, (List.pairwise_cons.1 h.ap).2⟩
    rcases a8 with a | ⟨g2, a, a2⟩
    · exact (List.pairwise_cons.1 h.ap).1 y hy g (a ▸ hg) c
    · have e : g2 = g := by simp only at hg; rw [a] at hg; injection hg
      have := (own_lt (h.ok y (List.mem_cons_of_mem _ hy)) c).2
      omega
  · intro y hy
    rcases List.mem_cons.1 hy with e | e
    · subst e; exact hv
    · exact h.far y (List.mem_cons_of_mem _ e)
  · exact fun g hg => ⟨(h.pf g hg).1, (h.pf g hg).2.1, Nat.lt_of_lt_of_le (h.pf g hg).2.2 k8.size⟩

end Go.Proofs.YtibeiggedmabkaaDoor
