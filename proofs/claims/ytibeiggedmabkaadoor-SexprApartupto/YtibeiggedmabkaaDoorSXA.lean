/-
  The reader's take: tokens, one behind the other.
-/
import Derived.Test.YtibeiggedmabkaaDoorSX5
import Derived.WalkLawsBesides
import Derived.Test.YtibeiggedmabkaaDoorSX0
import Derived.Test.YtibeiggedmabkaaDoorTSA
namespace Go.Proofs.YtibeiggedmabkaaDoor
open Go.RowKit
set_option linter.unusedVariables false
set_option linter.unusedSimpArgs false
/-- what a panic with a fault hands up -/
def flt (e pl : Int) : List PanicEntry := [{ v := .iface 61 (.agg #[.int .i64 e, .int .i64 pl]), recovered := false }]
set_option maxHeartbeats 4000000 in
set_option maxRecDepth 100000 in
theorem ropen_no (b : Nat) (p : Option Addr) (v : Value) (en : Bool) (er pl : Int) (t : Tok) (w : World) (h : Blk w b (rdC p v 1000 en er pl) 63) : Calls Tryd.prog 40 #[.pointer (some ⟨b, 0, none⟩), .agg #[.int .i64 t.k, .string t.t, .int .i64 t.b, .int .i64 t.e, .int .i64 t.l, .int .i64 t.c]] w fun r w' => r = .panicked (flt 132 t.b) ∧ Below w.heap.size w w' := by
  have b0 := below_alloc (w := w) (.cells #[.int .i64 t.k, .string t.t, .int .i64 t.b, .int .i64 t.e, .int .i64 t.l, .int .i64 t.c] 32)
  have qN := Blk.new w #[.int .i64 t.k, .string t.t, .int .i64 t.b, .int .i64 t.e, .int .i64 t.l, .int .i64 t.c] 32
  replace h := h.later b0
  go_enter Tryd.func40, Tryd.ntmps40
  go_upto_region 1 with fail
  generalize w.alloc (.cells #[.int .i64 t.k, .string t.t, .int .i64 t.b, .int .i64 t.e, .int .i64 t.l, .int .i64 t.c] 32) = W at b0 qN h ⊢
  have y2 := h.cell 2
  have t2 := qN.cell 2
  simp only [rdC, List.getElem?_toArray, List.getElem?_cons_zero, List.getElem?_cons_succ] at y2 t2
  go_wp2
  exact ⟨rfl, rfl, b0⟩

set_option maxHeartbeats 4000000 in
set_option maxRecDepth 100000 in
theorem rshut_no (b : Nat) (p : Option Addr) (v : Value) (en : Bool) (er pl : Int) (t : Tok) (w : World) (h : Blk w b (rdC p v 0 en er pl) 63) : Calls Tryd.prog 41 #[.pointer (some ⟨b, 0, none⟩), .agg #[.int .i64 t.k, .string t.t, .int .i64 t.b, .int .i64 t.e, .int .i64 t.l, .int .i64 t.c]] w fun r w' => r = .panicked (flt 130 t.b) ∧ Below w.heap.size w w' := by
  have b0 := below_alloc (w := w) (.cells #[.int .i64 t.k, .string t.t, .int .i64 t.b, .int .i64 t.e, .int .i64 t.l, .int .i64 t.c] 32)
  have qN := Blk.new w #[.int .i64 t.k, .string t.t, .int .i64 t.b, .int .i64 t.e, .int .i64 t.l, .int .i64 t.c] 32
  replace h := h.later b0
  go_enter Tryd.func41, Tryd.ntmps41
  go_upto_region 1 with fail
  generalize w.alloc (.cells #[.int .i64 t.k, .string t.t, .int .i64 t.b, .int .i64 t.e, .int .i64 t.l, .int .i64 t.c] 32) = W at b0 qN h ⊢
  have y2 := h.cell 2
  have t2 := qN.cell 2
  simp only [rdC, List.getElem?_toArray, List.getElem?_cons_zero, List.getElem?_cons_succ] at y2 t2
  go_wp2
  exact ⟨rfl, rfl, b0⟩

end Go.Proofs.YtibeiggedmabkaaDoor

namespace Go.Proofs.YtibeiggedmabkaaDoor
open Go.RowKit
set_option linter.unusedVariables false
set_option linter.unusedSimpArgs false
/-- a list that is open (or the text's own): its token, its row, the row's cells, the nodes that they are -/
structure Lv where
  t : Tok
  v : Value
  K : List (Tok × Value)
  N : List Nd
def lsOf (lv : List Lv) : List (Tok × Value) := lv.reverse.map fun x => (x.t, x.v)
theorem lsOf_len (lv : List Lv) : (lsOf lv).length = lv.length := by simp [lsOf]
theorem lsOf_cons (x : Lv) (r : List Lv) : lsOf (x :: r) = lsOf r ++ [(x.t, x.v)] := by simp [lsOf]
/-- nodes, each one's kids in memory -/
def KN (w : World) (P : Nat → Prop) (K : List (Tok × Value)) (N : List Nd) : Prop :=
  K.length = N.length ∧ ∀ i (h : i < K.length) (h2 : i < N.length), K[i].1 = N[i].t ∧ NdIn w P K[i].2 N[i].kids
theorem KN.kept {w w' : World} {P Q : Nat → Prop} {K : List (Tok × Value)} {N : List Nd} (h : KN w P K N) (hk : ∀ g, P g → g < w.heap.size → w'.heap[g]? = w.heap[g]?) (hQ : ∀ g, P g → Q g) : KN w' Q K N :=
  ⟨h.1, fun i h1 h2 => ⟨(h.2 i h1 h2).1, (h.2 i h1 h2).2.kept hk hQ⟩⟩
theorem KN.snoc {w : World} {P : Nat → Prop} {K : List (Tok × Value)} {N : List Nd} (h : KN w P K N) {t : Tok} {u : Value} {n : List Nd} (hu : NdIn w P u n) : KN w P (K ++ [(t, u)]) (N ++ [.mk t n]) := by
  refine ⟨by simp [h.1], fun i h1 h2 => ?_⟩
  by_cases hi : i < K.length
  · rw [List.getElem_append_left hi, List.getElem_append_left (by rw [← h.1]; exact hi)]
    exact h.2 i hi (by rw [← h.1]; exact hi)
  · have e : i = K.length := by simp at h1; omega
    subst e
    rw [List.getElem_append_right (Nat.le_refl _), List.getElem_append_right (by rw [h.1]; exact Nat.le_refl _)]
    simp only [Nat.sub_self, h.1, List.getElem_cons_zero]
    exact ⟨rfl, hu⟩
/-- a block of nodes -/
def TyN (w : World) (g : Nat) : Prop := ∃ cur, w.heap[g]? = some (.cells cur 34 (0, 0))
theorem TyN.of {w w' : World} {g : Nat} (h : TyN w g) (e : w'.heap[g]? = w.heap[g]?) : TyN w' g := by
  obtain ⟨cur, hc⟩ := h
  exact ⟨cur, e.trans hc⟩
theorem own_ty {w : World} {base n : Nat} {v : Value} {xs : List Value} (h : w.ownsRow base 34 7 v n xs) {g : Nat} (hg : v.ownBlock = some g) : TyN w g := by
  rcases h.2 with ⟨rfl, _⟩ | ⟨g', cap, cur, rfl, _, hc, _⟩
  · cases hg
  · injection hg with hg
    simp only at hg
    subst hg
    exact ⟨cur, hc⟩
/-- the blocks that a reader may change -/
def RdX (b gl : Nat) (lv : List Lv) (k : Nat) : Prop := k = b ∨ k = gl ∨ ∃ x ∈ lv, x.v.ownBlock = some k
structure RdAt (w : World) (base b : Nat) (p : Option Addr) (en : Bool) (er pl : Int) (gl c : Nat) (P : Nat → Prop) (lv : List Lv) : Prop where
  blk : Blk w b (rdC p (.slice (some ⟨gl, 0, none⟩) lv.length c) ((lv.length : Int) - 1) en er pl) 63
  own : w.ownsRow base 34 7 (.slice (some ⟨gl, 0, none⟩) lv.length c) lv.length (nvCells (lsOf lv))
  ok : ∀ x ∈ lv, w.ownsRow base 34 7 x.v x.K.length (nvCells x.K)
  kn : ∀ x ∈ lv, KN w P x.K x.N
  ap : lv.Pairwise fun x y => ∀ g, x.v.ownBlock = some g → y.v.ownBlock ≠ some g
  far : ∀ x ∈ lv, ∀ g, x.v.ownBlock = some g → g ≠ b ∧ g ≠ gl ∧ ¬ P g
  pf : ∀ g, P g → g ≠ b ∧ g ≠ gl ∧ g < w.heap.size
  gb : gl ≠ b
  few : lv.length ≤ 1001
  low : base ≤ w.heap.size
  ty : ∀ g, P g → TyN w g
theorem rput {base b : Nat} {p : Option Addr} {en : Bool} {er pl : Int} {gl c : Nat} {P : Nat → Prop} {x : Lv} {r : List Lv} {w : World} (h : RdAt w base b p en er pl gl c P (x :: r)) (t : Tok) (ua : Option Addr) (un uc : Nat) (n : List Nd) (hn : NdIn w P (.slice ua un uc) n) (hkl : x.K.length ≤ 1000000000) : Calls Tryd.prog 42 #[.pointer (some ⟨b, 0, none⟩), .agg #[.int .i64 t.k, .string t.t, .int .i64 t.b, .int .i64 t.e, .int .i64 t.l, .int .i64 t.c, .slice ua un uc]] w fun e w' => ∃ v', e = .returned (.tuple #[]) ∧ RdAt w' base b p en er pl gl c P (⟨x.t, v', x.K ++ [(t, .slice ua un uc)], x.N ++ [.mk t n]⟩ :: r) ∧ Kp (RdX b gl (x :: r)) w w' ∧ (v'.ownBlock = x.v.ownBlock ∨ ∃ g, v'.ownBlock = some g ∧ w.heap.size ≤ g) := by
  have hx := List.mem_cons_self (a := x) (l := r)
  have hfx := h.far x hx
  have hox := h.ok x hx
  have hbl := h.blk.lt
  have hgl := (own_lt h.own (g := gl) rfl).2
  have ed : (((x :: r).length : Int) - 1) = (r.length : Int) := by simp
  have hblk := h.blk
  rw [ed] at hblk
  have hc : w.cell? ⟨gl, r.length * 7 + 6, none⟩ = some x.v := by have e := lsOf_len r; rw [h.own.cellAt _ (by simp only [List.length_cons]; omega), lsOf_cons, ← e, nv_at _ _ _ (by omega)]; rfl
  refine (put_is b gl (x :: r).length c r.length base p en er pl x.v x.K t ua un uc w hblk (by simp) h.few hc (h.own.frozenAt _) hox h.gb (fun e => (hfx gl e).2.1 rfl) (fun e => (hfx b e).1 rfl) hkl h.low).mono ?_
  rintro e w' ⟨v', rfl, o8, g8, k8, a8⟩
  refine ⟨v', rfl, ?_, ⟨k8.os, k8.tape, k8.output, k8.size, fun k hk hn => k8.block k hk (fun e => hn (by rcases e with e | e; exact Or.inr (Or.inl e); exact Or.inr (Or.inr ⟨x, hx, e⟩)))⟩, a8⟩
  have hP : ∀ g, P g → g < w.heap.size → w'.heap[g]? = w.heap[g]? := fun g hg hl => k8.block g hl (fun e => by rcases e with e | e; exact (h.pf g hg).2.1 e; exact (hfx g e).2.2 hg)
  have hv : ∀ g, v'.ownBlock = some g → g ≠ b ∧ g ≠ gl ∧ ¬ P g := fun g hg => by
    rcases a8 with a | ⟨g2, a, a2⟩
    · exact hfx g (a ▸ hg)
    · have e : g2 = g := by rw [a] at hg; injection hg
      subst e
      exact ⟨by omega, by omega, fun c => by have := (h.pf _ c).2.2; omega⟩
  have hL3 := own_heap ((h.own.stored (r.length * 7 + 6) v').1) g8
  rw [lsOf_cons, ← lsOf_len r, nv_last] at hL3
  refine ⟨?_, ?_, ?_, ?_, ?_, ?_, ?_, h.gb, h.few, Nat.le_trans h.low k8.size, fun g hg => (h.ty g hg).of (hP g hg (h.pf g hg).2.2)⟩
  · exact k8.blk h.blk (fun e => by rcases e with e | e; exact h.gb e.symm; exact (hfx b e).1 rfl)
  · rw [lsOf_cons]; exact hL3
  · intro y hy
    rcases List.mem_cons.1 hy with e | e
    · subst e; simpa using o8
    · exact own_kp (h.ok y (List.mem_cons_of_mem _ e)) k8 (fun g hg c => by rcases c with c | c; exact (h.far y (List.mem_cons_of_mem _ e) g hg).2.1 c; exact (List.pairwise_cons.1 h.ap).1 y e g c hg)
  · intro y hy
    rcases List.mem_cons.1 hy with e | e
    · subst e; exact ((h.kn x hx).kept hP (fun _ c => c)).snoc (hn.kept hP (fun _ c => c))
    · exact (h.kn y (List.mem_cons_of_mem _ e)).kept hP (fun _ c => c)
  · refine List.pairwise_cons.2 ⟨fun y hy g hg c => ?_, (List.pairwise_cons.1 h.ap).2⟩
    rcases a8 with a | ⟨g2, a, a2⟩
    · exact (List.pairwise_cons.1 h.ap).1 y hy g (a ▸ hg) c
    · have e : g2 = g := by simp only at hg; rw [a] at hg; injection hg
      have := (own_lt (h.ok y (List.mem_cons_of_mem _ hy)) c).2
      omega
  · intro y hy
    rcases List.mem_cons.1 hy with e | e
    · subst e; exact hv
    · exact h.far y (List.mem_cons_of_mem _ e)
  · exact fun g hg => ⟨(h.pf g hg).1, (h.pf g hg).2.1, Nat.lt_of_lt_of_le (h.pf g hg).2.2 k8.size⟩

end Go.Proofs.YtibeiggedmabkaaDoor

namespace Go.Proofs.YtibeiggedmabkaaDoor
open Go.RowKit
set_option linter.unusedVariables false
set_option linter.unusedSimpArgs false
theorem nv_get (K : List (Tok × Value)) (i j : Nat) (hi : i < K.length) (hj : j < 7) : (nvCells K)[i * 7 + j]? = (K[i].1.cells ++ [K[i].2])[j]? := by
  have e : K = K.take i ++ (K[i] :: K.drop (i + 1)) := by rw [List.getElem_cons_drop, List.take_append_drop]
  have hl : (K.take i).length = i := by rw [List.length_take]; omega
  have h1 : nvCells K = nvCells (K.take i) ++ ((K[i].1.cells ++ [K[i].2]) ++ nvCells (K.drop (i + 1))) := by
    conv => lhs; rw [e]
    rw [nvCells_app]
    simp only [nvCells, List.flatMap_cons]
  rw [h1, List.getElem?_append_right (by rw [nvCells_len, hl]; omega), nvCells_len, hl, Nat.add_sub_cancel_left, List.getElem?_append_left (by simp [Tok.cells]; omega)]
theorem own_form {w : World} {base n size : Nat} {ty : TypeId} {v : Value} {xs : List Value} (h : w.ownsRow base ty size v n xs) (hn : 0 < n) : ∃ g c, v = .slice (some ⟨g, 0, none⟩) n c ∧ n ≤ c := by
  obtain ⟨_, h2⟩ := h
  rcases h2 with ⟨_, e⟩ | ⟨g, cap, cur, e, _, _, hc, _⟩
  · omega
  · exact ⟨g, cap, e, hc⟩
theorem ndin_of {w : World} {base : Nat} {v : Value} {K : List (Tok × Value)} {N : List Nd} {P Q : Nat → Prop} {ty : TypeId} (h : w.ownsRow base ty 7 v K.length (nvCells K)) (hk : KN w P K N) (hQ : ∀ g, P g → Q g) (hv : ∀ g, v.ownBlock = some g → Q g) (hl : K.length ≤ 1099511627776) : NdIn w Q v N := by
  by_cases h0 : K.length = 0
  · obtain ⟨a, c, e⟩ := own_sl h
    have : N = [] := List.eq_nil_of_length_eq_zero (by rw [← hk.1]; exact h0)
    subst this
    rw [h0] at e
    subst e
    exact .nil a c
  · obtain ⟨g, c, e, _⟩ := own_form h (by omega)
    subst e
    rw [hk.1]
    refine .row g 0 c N (fun i => if hi : i < K.length then K[i].2 else .slice none 0 0) (by rw [← hk.1]; omega) (by rw [← hk.1]; exact hl) (hv g rfl) ?_ ?_ ?_
    · intro i hi j hj
      have hi2 : i < K.length := by rw [hk.1]; exact hi
      rw [Nat.zero_add, h.cellAt _ (by omega), nv_get K i j hi2 (by omega), (hk.2 i hi2 hi).1, List.getElem?_append_left (by simp [Tok.cells]; omega)]
    · intro i hi
      have hi2 : i < K.length := by rw [hk.1]; exact hi
      rw [Nat.zero_add, h.cellAt _ (by omega), nv_get K i 6 hi2 (by omega), dif_pos hi2]
      rfl
    · intro i hi
      have hi2 : i < K.length := by rw [hk.1]; exact hi
      simp only [dif_pos hi2]
      exact (hk.2 i hi2 hi).2.kept (fun _ _ _ => rfl) hQ
theorem ropen {base b : Nat} {p : Option Addr} {en : Bool} {er pl : Int} {gl c : Nat} {P : Nat → Prop} {x : Lv} {r : List Lv} {w : World} (h : RdAt w base b p en er pl gl c P (x :: r)) (t : Tok) (hd : r.length < 1000) : Calls Tryd.prog 40 #[.pointer (some ⟨b, 0, none⟩), .agg #[.int .i64 t.k, .string t.t, .int .i64 t.b, .int .i64 t.e, .int .i64 t.l, .int .i64 t.c]] w fun e w' => ∃ gl' c', e = .returned (.tuple #[]) ∧ RdAt w' base b p en er pl gl' c' P (⟨opT t, .slice none 0 0, [], []⟩ :: x :: r) ∧ Kp (RdX b gl (x :: r)) w w' ∧ (gl' = gl ∨ w.heap.size ≤ gl') := by
  obtain ⟨lv, hlv⟩ : ∃ lv, x :: r = lv := ⟨_, rfl⟩
  have hlen : lv.length = r.length + 1 := by rw [← hlv]; rfl
  rw [hlv] at h ⊢
  clear hlv
  have hbl := h.blk.lt
  have hgl := (own_lt h.own (g := gl) rfl).2
  have hblk := h.blk
  have hown := h.own
  have ed : ((lv.length : Int) - 1) = (r.length : Int) := by omega
  rw [ed, ← lsOf_len lv] at hblk
  rw [← lsOf_len lv] at hown
  have hls := lsOf_len lv
  refine (ropen_is b r.length base p en er pl (some ⟨gl, 0, none⟩) c (lsOf lv) t w hblk hown (fun e => h.gb (by injection e)) hd (by omega) h.low).mono ?_
  rintro e w' ⟨v', rfl, o8, b8, k8, a8⟩
  obtain ⟨gl', c', ev, hcc⟩ := own_form o8 (by omega)
  subst ev
  have a9 : gl' = gl ∨ w.heap.size ≤ gl' := by
    rcases a8 with a | ⟨g, a, a2⟩
    · exact Or.inl (by injection a)
    · have e : gl' = g := by injection a
      exact Or.inr (by omega)
  have k9 : Kp (RdX b gl lv) w w' := ⟨k8.os, k8.tape, k8.output, k8.size, fun k hk hn => k8.block k hk (fun e => hn (by rcases e with e | e; exact Or.inl e; exact Or.inr (Or.inl (by injection e with e; exact e.symm))))⟩
  have kb : ∀ g, g ≠ b → g ≠ gl → g < w.heap.size → w'.heap[g]? = w.heap[g]? := fun g h1 h2 hl => k8.block g hl (fun e => by rcases e with e | e; exact h1 e; exact h2 (by injection e with e; exact e.symm))
  have hP : ∀ g, P g → g < w.heap.size → w'.heap[g]? = w.heap[g]? := fun g hg hl => kb g (h.pf g hg).1 (h.pf g hg).2.1 hl
  refine ⟨gl', c', rfl, ?_, k9, a9⟩
  refine ⟨?_, ?_, ?_, ?_, ?_, ?_, ?_, ?_, ?_, Nat.le_trans h.low k8.size, fun g hg => (h.ty g hg).of (hP g hg (h.pf g hg).2.2)⟩
  · have e2 : (((⟨opT t, .slice none 0 0, [], []⟩ : Lv) :: lv).length : Int) - 1 = (r.length : Int) + 1 := by simp only [List.length_cons]; omega
    rw [e2, List.length_cons, ← hls]; exact b8
  · rw [lsOf_cons, List.length_cons, ← hls]; exact o8
  · intro y hy
    rcases List.mem_cons.1 hy with e | e
    · subst e; exact World.ownsRow_nil _ _ _ _
    · exact own_kp (h.ok y e) k8 (fun g hg c => by rcases c with c | c; exact (h.far y e g hg).1 c; exact (h.far y e g hg).2.1 (by injection c with c; exact c.symm))
  · intro y hy
    rcases List.mem_cons.1 hy with e | e
    · subst e; exact ⟨rfl, fun i hi => absurd hi (Nat.not_lt_zero _)⟩
    · exact (h.kn y e).kept hP (fun _ c => c)
  · exact List.pairwise_cons.2 ⟨fun y hy g hg => by simp [Value.ownBlock] at hg, h.ap⟩
  · intro y hy g hg
    rcases List.mem_cons.1 hy with e | e
    · subst e; simp [Value.ownBlock] at hg
    · exact ⟨(h.far y e g hg).1, fun c => by rcases a9 with a | a; exact (h.far y e g hg).2.1 (c.trans a); (have := (own_lt (h.ok y e) hg).2; omega), (h.far y e g hg).2.2⟩
  · exact fun g hg => ⟨(h.pf g hg).1, fun c => by rcases a9 with a | a; exact (h.pf g hg).2.1 (c.trans a); (have := (h.pf g hg).2.2; omega), Nat.lt_of_lt_of_le (h.pf g hg).2.2 k8.size⟩
  · rcases a9 with a | a
    · rw [a]; exact h.gb
    · omega
  · simp only [List.length_cons]; omega

theorem rshut {base b : Nat} {p : Option Addr} {en : Bool} {er pl : Int} {gl c : Nat} {P : Nat → Prop} {x y : Lv} {r : List Lv} {w : World} (h : RdAt w base b p en er pl gl c P (x :: y :: r)) (t : Tok) (hkl : y.K.length ≤ 1000000000) (hkx : x.K.length ≤ 1000000000) : Calls Tryd.prog 41 #[.pointer (some ⟨b, 0, none⟩), .agg #[.int .i64 t.k, .string t.t, .int .i64 t.b, .int .i64 t.e, .int .i64 t.l, .int .i64 t.c]] w fun e w' => ∃ v', e = .returned (.tuple #[]) ∧ RdAt w' base b p en er pl gl c (fun g => P g ∨ x.v.ownBlock = some g) (⟨y.t, v', y.K ++ [(shT x.t t.e, x.v)], y.N ++ [.mk (shT x.t t.e) x.N]⟩ :: r) ∧ Kp (RdX b gl (x :: y :: r)) w w' ∧ (v'.ownBlock = y.v.ownBlock ∨ ∃ g, v'.ownBlock = some g ∧ w.heap.size ≤ g) := by
  have hx := List.mem_cons_self (a := x) (l := y :: r)
  have hy : y ∈ x :: y :: r := List.mem_cons_of_mem _ List.mem_cons_self
  have hr : ∀ z ∈ r, z ∈ x :: y :: r := fun z hz => List.mem_cons_of_mem _ (List.mem_cons_of_mem _ hz)
  have hfx := h.far x hx
  have hfy := h.far y hy
  have hox := h.ok x hx
  have hoy := h.ok y hy
  have hbl := h.blk.lt
  have hgl := (own_lt h.own (g := gl) rfl).2
  obtain ⟨ap1, ap2⟩ := List.pairwise_cons.1 h.ap
  obtain ⟨ap3, ap4⟩ := List.pairwise_cons.1 ap2
  have hlc : (x :: y :: r).length ≤ c := by obtain ⟨g, c2, e, h2⟩ := own_form h.own (by simp); injection e with e1 e2 e3; rw [e3]; exact h2
  obtain ⟨ua, uc, ex⟩ := own_sl hox
  have ed : (((x :: y :: r).length : Int) - 1) = ((r.length + 1 : Nat) : Int) := by simp only [List.length_cons]; omega
  have hblk := h.blk
  rw [ed] at hblk
  have hls := lsOf_len r
  have hown := h.own
  rw [lsOf_cons, lsOf_cons] at hown
  have G := rshut_is b gl (r.length + 1) (x :: y :: r).length c base p en er pl (lsOf r) y.t y.v x.t ua x.K.length uc y.K t w hblk (by rw [← ex]; exact hown) (by rw [hls]) rfl (by have := h.few; simp only [List.length_cons] at this; omega) hlc hoy h.gb (fun e => (hfy gl e).2.1 rfl) (fun e => (hfy b e).1 rfl) hkl h.low
  rw [← ex, hls] at G
  refine G.mono ?_
  rintro e w' ⟨v', rfl, o8, l8, b8, k8, a8⟩
  have k9 : Kp (RdX b gl (x :: y :: r)) w w' := ⟨k8.os, k8.tape, k8.output, k8.size, fun k hk hn => k8.block k hk (fun e => hn (by rcases e with e | e | e; exact Or.inl e; exact Or.inr (Or.inl e); exact Or.inr (Or.inr ⟨y, hy, e⟩)))⟩
  refine ⟨v', rfl, ?_, k9, a8⟩
  have kb : ∀ g, g ≠ b → g ≠ gl → y.v.ownBlock ≠ some g → g < w.heap.size → w'.heap[g]? = w.heap[g]? := fun g h1 h2 h3 hl => k8.block g hl (fun e => by rcases e with e | e | e; exact h1 e; exact h2 e; exact h3 e)
  have hP : ∀ g, P g → g < w.heap.size → w'.heap[g]? = w.heap[g]? := fun g hg hl => kb g (h.pf g hg).1 (h.pf g hg).2.1 (fun e => (hfy g e).2.2 hg) hl
  have hox2 : w'.ownsRow base 34 7 x.v x.K.length (nvCells x.K) := own_kp hox k8 (fun g hg c => by rcases c with c | c | c; exact (hfx g hg).1 c; exact (hfx g hg).2.1 c; exact ap1 y List.mem_cons_self g hg c)
  have hnx : NdIn w' (fun g => P g ∨ x.v.ownBlock = some g) x.v x.N := ndin_of hox2 ((h.kn x hx).kept hP (fun _ c => c)) (fun g c => Or.inl c) (fun g c => Or.inr c) (by omega)
  refine ⟨?_, ?_, ?_, ?_, ?_, ?_, ?_, h.gb, ?_, Nat.le_trans h.low k8.size, fun g hg => hg.elim (fun c => (h.ty g c).of (hP g c (h.pf g c).2.2)) (fun c => own_ty hox2 c)⟩
  · have e2 : (((⟨y.t, v', y.K ++ [(shT x.t t.e, x.v)], y.N ++ [.mk (shT x.t t.e) x.N]⟩ : Lv) :: r).length : Int) - 1 = (r.length : Int) := by simp only [List.length_cons]; omega
    rw [e2, List.length_cons]; exact b8
  · rw [lsOf_cons, List.length_cons]; exact l8
  · intro z hz
    rcases List.mem_cons.1 hz with e | e
    · subst e; simpa using o8
    · exact own_kp (h.ok z (hr z e)) k8 (fun g hg c => by rcases c with c | c | c; exact (h.far z (hr z e) g hg).1 c; exact (h.far z (hr z e) g hg).2.1 c; exact ap3 z e g c hg)
  · intro z hz
    rcases List.mem_cons.1 hz with e | e
    · subst e; exact ((h.kn y hy).kept hP (fun _ c => Or.inl c)).snoc hnx
    · exact (h.kn z (hr z e)).kept hP (fun _ c => Or.inl c)
  · refine List.pairwise_cons.2 ⟨fun z hz g hg c => ?_, ap4⟩
    rcases a8 with a | ⟨g2, a, a2⟩
    · exact ap3 z hz g (a ▸ hg) c
    · have e : g2 = g := by simp only at hg; rw [a] at hg; injection hg
      have := (own_lt (h.ok z (hr z hz)) c).2
      omega
  · intro z hz g hg
    rcases List.mem_cons.1 hz with e | e
    · subst e
      rcases a8 with a | ⟨g2, a, a2⟩
      · have hg2 : y.v.ownBlock = some g := a ▸ hg
        exact ⟨(hfy g hg2).1, (hfy g hg2).2.1, fun c => by rcases c with c | c; exact (hfy g hg2).2.2 c; exact ap1 y List.mem_cons_self g c hg2⟩
      · have e : g2 = g := by simp only at hg; rw [a] at hg; injection hg
        subst e
        exact ⟨by omega, by omega, fun c => by rcases c with c | c; (have := (h.pf _ c).2.2; omega); (have := (own_lt hox c).2; omega)⟩
    · exact ⟨(h.far z (hr z e) g hg).1, (h.far z (hr z e) g hg).2.1, fun c => by rcases c with c | c; exact (h.far z (hr z e) g hg).2.2 c; exact ap1 z (List.mem_cons_of_mem _ e) g c hg⟩
  · intro g hg
    rcases hg with c | c
    · exact ⟨(h.pf g c).1, (h.pf g c).2.1, Nat.lt_of_lt_of_le (h.pf g c).2.2 k8.size⟩
    · exact ⟨(hfx g c).1, (hfx g c).2.1, Nat.lt_of_lt_of_le (own_lt hox c).2 k8.size⟩
  · have := h.few; simp only [List.length_cons] at this ⊢; omega

end Go.Proofs.YtibeiggedmabkaaDoor

namespace Go.Proofs.YtibeiggedmabkaaDoor
open Go.RowKit
set_option linter.unusedVariables false
set_option linter.unusedSimpArgs false
inductive RelB : List Lv → BS → Prop
  | one (x : Lv) : RelB [x] ⟨x.N, []⟩
  | more (x : Lv) (r : List Lv) (ns : List Nd) (os : List Opn) (o : Opn) (h : RelB r ⟨ns, os⟩) (hk : x.t.k = 0) (ht : x.t.t = ⟨#[]⟩) (hb : x.t.b = o.b) (hl : x.t.l = o.l) (hc : x.t.c = o.c) (hn : x.N = o.kids) : RelB (x :: r) ⟨ns, o :: os⟩
theorem RelB.len {lv : List Lv} {s : BS} (h : RelB lv s) : lv.length = s.opn.length + 1 := by
  induction h with
  | one x => rfl
  | more x r ns os o h hk ht hb hl hc hn ih => simp only [List.length_cons] at ih ⊢; omega
theorem RelB.push {x : Lv} {r : List Lv} {s : BS} (h : RelB (x :: r) s) (v : Value) (K : List (Tok × Value)) (n : Nd) : RelB (⟨x.t, v, K, x.N ++ [n]⟩ :: r) (s.push n) := by
  cases h with
  | one => exact .one ⟨x.t, v, K, x.N ++ [n]⟩
  | more _ _ ns os o h hk ht hb hl hc hn => exact .more _ _ _ _ _ h hk ht hb hl hc (by simp only [hn])
theorem RelB.opened {lv : List Lv} {s : BS} (h : RelB lv s) (T : Tok) : RelB (⟨opT T, .slice none 0 0, [], []⟩ :: lv) { s with opn := ⟨T.b, T.l, T.c, []⟩ :: s.opn } :=
  .more _ _ _ _ _ h rfl rfl rfl rfl rfl rfl
theorem RelB.shut {x y : Lv} {r : List Lv} {s : BS} {o : Opn} {os : List Opn} (h : RelB (x :: y :: r) s) (hs : s.opn = o :: os) (v : Value) (K : List (Tok × Value)) (e : Int) :
    RelB (⟨y.t, v, K, y.N ++ [.mk (shT x.t e) x.N]⟩ :: r) (({ s with opn := os } : BS).push (o.node e)) := by
  cases h with
  | more _ _ ns os' o' h hk ht hb hl hc hn =>
    simp only [List.cons.injEq] at hs
    obtain ⟨rfl, rfl⟩ := hs
    have e1 : (Nd.mk (shT x.t e) x.N) = o'.node e := by simp only [Opn.node, shT, hk, ht, hb, hl, hc, hn]
    rw [e1]
    exact h.push v K _
theorem RdAt.later {w w' : World} {base b : Nat} {p : Option Addr} {en : Bool} {er pl : Int} {gl c : Nat} {P : Nat → Prop} {lv : List Lv} (h : RdAt w base b p en er pl gl c P lv) (hb : Below w.heap.size w w') : RdAt w' base b p en er pl gl c P lv :=
  ⟨h.blk.later hb, own_kp h.own (Kp.of (X := fun _ => False) hb) (fun _ _ c => c), fun x hx => own_kp (h.ok x hx) (Kp.of (X := fun _ => False) hb) (fun _ _ c => c), fun x hx => (h.kn x hx).kept (fun g _ hg => hb.block g hg) (fun _ c => c), h.ap, h.far, fun g hg => ⟨(h.pf g hg).1, (h.pf g hg).2.1, Nat.lt_of_lt_of_le (h.pf g hg).2.2 hb.size⟩, h.gb, h.few, Nat.le_trans h.low hb.size, fun g hg => (h.ty g hg).of (hb.block g (h.pf g hg).2.2)⟩
/-- a reader that began as gl0, lv0, P0 in w0, and has come to s -/
def RdS (w0 : World) (base b : Nat) (p : Option Addr) (en : Bool) (er pl : Int) (gl0 : Nat) (lv0 : List Lv) (P0 : Nat → Prop) (B : Nat) (w : World) (s : BS) : Prop :=
  ∃ gl c P lv, RdAt w base b p en er pl gl c P lv ∧ RelB lv s ∧ Kp (RdX b gl0 lv0) w0 w ∧ (∀ k, RdX b gl lv k → k < w0.heap.size → RdX b gl0 lv0 k) ∧ (∀ g, P g → P0 g ∨ RdX b gl0 lv0 g ∨ w0.heap.size ≤ g) ∧ (∀ x ∈ lv, x.K.length ≤ B)
section
variable {w0 : World} {base b : Nat} {p : Option Addr} {en : Bool} {er pl : Int} {gl0 : Nat} {lv0 : List Lv} {P0 : Nat → Prop} {B : Nat} {w w' : World} {s : BS}
theorem RdS.later (h : RdS w0 base b p en er pl gl0 lv0 P0 B w s) (hb : Below w.heap.size w w') : RdS w0 base b p en er pl gl0 lv0 P0 B w' s := by
  obtain ⟨gl, c, P, lv, h1, h2, h3, h4, h5, h6⟩ := h
  exact ⟨gl, c, P, lv, h1.later hb, h2, h3.trans (Kp.of (X := RdX b gl0 lv0) hb) (fun _ _ c => c), h4, h5, h6⟩
theorem RdS.mono (h : RdS w0 base b p en er pl gl0 lv0 P0 B w s) {B2 : Nat} (hB : B ≤ B2) : RdS w0 base b p en er pl gl0 lv0 P0 B2 w s := by
  obtain ⟨gl, c, P, lv, h1, h2, h3, h4, h5, h6⟩ := h
  exact ⟨gl, c, P, lv, h1, h2, h3, h4, h5, fun x hx => Nat.le_trans (h6 x hx) hB⟩
/-- an answer that fits what stepB says -/
def StepE (w0 : World) (base b : Nat) (p : Option Addr) (en : Bool) (er pl : Int) (gl0 : Nat) (lv0 : List Lv) (P0 : Nat → Prop) (B : Nat) (x : BR) (r : Ending) (w' : World) : Prop :=
  match x with
  | .ok s2 => r = .returned (.tuple #[]) ∧ RdS w0 base b p en er pl gl0 lv0 P0 B w' s2
  | .bad s2 c q => r = .panicked (flt c q) ∧ RdS w0 base b p en er pl gl0 lv0 P0 B w' s2
theorem sput (h : RdS w0 base b p en er pl gl0 lv0 P0 B w s) (t : Tok) (hk1 : t.k ≠ 1) (hk2 : t.k ≠ 2) (hB : B ≤ 1000000000) : Calls Tryd.prog 42 #[.pointer (some ⟨b, 0, none⟩), .agg #[.int .i64 t.k, .string t.t, .int .i64 t.b, .int .i64 t.e, .int .i64 t.l, .int .i64 t.c, .slice none 0 0]] w fun r w' => StepE w0 base b p en er pl gl0 lv0 P0 (B + 1) (stepB s t) r w' := by
  obtain ⟨gl, c, P, lv, h1, h2, h3, h4, h5, h6⟩ := h
  have hlen := h2.len
  rw [stepB, if_neg hk1, if_neg hk2]
  rcases lv with _ | ⟨x, r⟩
  · simp at hlen
  have hs3 := h3.size
  have hx := List.mem_cons_self (a := x) (l := r)
  refine (rput h1 t none 0 0 [] (.nil none 0) (Nat.le_trans (h6 x hx) hB)).mono ?_
  rintro e w' ⟨v', rfl, a1, a2, a3⟩
  refine ⟨rfl, gl, c, P, _, a1, h2.push _ _ _, h3.trans a2 (fun k hk c => h4 k c hk), ?_, h5, ?_⟩
  · intro k hk hl
    rcases hk with e | e | ⟨z, hz, e⟩
    · exact Or.inl e
    · exact h4 k (Or.inr (Or.inl e)) hl
    · rcases List.mem_cons.1 hz with e2 | e2
      · subst e2
        rcases a3 with a | ⟨g, a, a4⟩
        · exact h4 k (Or.inr (Or.inr ⟨x, hx, a ▸ e⟩)) hl
        · have e3 : g = k := by simp only at e; rw [a] at e; injection e
          omega
      · exact h4 k (Or.inr (Or.inr ⟨z, List.mem_cons_of_mem _ e2, e⟩)) hl
  · intro z hz
    rcases List.mem_cons.1 hz with e2 | e2
    · subst e2; have := h6 x hx; simp; omega
    · have := h6 z (List.mem_cons_of_mem _ e2); omega

theorem sopen (h : RdS w0 base b p en er pl gl0 lv0 P0 B w s) (t : Tok) (hk1 : t.k = 1) (hB : B ≤ 1000000000) : Calls Tryd.prog 40 #[.pointer (some ⟨b, 0, none⟩), .agg #[.int .i64 t.k, .string t.t, .int .i64 t.b, .int .i64 t.e, .int .i64 t.l, .int .i64 t.c]] w fun r w' => StepE w0 base b p en er pl gl0 lv0 P0 (B + 1) (stepB s t) r w' := by
  obtain ⟨gl, c, P, lv, h1, h2, h3, h4, h5, h6⟩ := h
  have hlen := h2.len
  rw [stepB, if_pos hk1]
  rcases lv with _ | ⟨x, r⟩
  · simp at hlen
  have hs3 := h3.size
  simp only [List.length_cons] at hlen
  by_cases hd : s.opn.length = 1000
  · rw [if_pos hd]
    have hblk := h1.blk
    have ed : (((x :: r).length : Int) - 1) = 1000 := by simp only [List.length_cons]; omega
    rw [ed] at hblk
    refine (ropen_no b p _ en er pl t w hblk).mono ?_
    rintro e w' ⟨rfl, hb⟩
    exact ⟨rfl, RdS.mono (RdS.later ⟨gl, c, P, _, h1, h2, h3, h4, h5, h6⟩ hb) (by omega)⟩
  · rw [if_neg hd]
    have hf := h1.few
    simp only [List.length_cons] at hf
    refine (ropen h1 t (by omega)).mono ?_
    rintro e w' ⟨gl', c', rfl, a1, a2, a3⟩
    refine ⟨rfl, gl', c', P, _, a1, h2.opened t, h3.trans a2 (fun k hk c => h4 k c hk), ?_, h5, ?_⟩
    · intro k hk hl
      rcases hk with e | e | ⟨z, hz, e⟩
      · exact Or.inl e
      · rcases a3 with a | a
        · exact h4 k (Or.inr (Or.inl (e.trans a))) hl
        · omega
      · rcases List.mem_cons.1 hz with e2 | e2
        · subst e2; simp [Value.ownBlock] at e
        · exact h4 k (Or.inr (Or.inr ⟨z, e2, e⟩)) hl
    · intro z hz
      rcases List.mem_cons.1 hz with e2 | e2
      · subst e2; simp
      · have := h6 z e2; omega

theorem sshut (h : RdS w0 base b p en er pl gl0 lv0 P0 B w s) (t : Tok) (hk1 : t.k = 2) (hB : B ≤ 1000000000) : Calls Tryd.prog 41 #[.pointer (some ⟨b, 0, none⟩), .agg #[.int .i64 t.k, .string t.t, .int .i64 t.b, .int .i64 t.e, .int .i64 t.l, .int .i64 t.c]] w fun r w' => StepE w0 base b p en er pl gl0 lv0 P0 (B + 1) (stepB s t) r w' := by
  obtain ⟨gl, c, P, lv, h1, h2, h3, h4, h5, h6⟩ := h
  have hlen := h2.len
  rw [stepB, if_neg (by omega), if_pos hk1]
  have hs3 := h3.size
  rcases hs : s.opn with _ | ⟨o, os⟩
  · have hblk := h1.blk
    have ed : ((lv.length : Int) - 1) = 0 := by rw [hs] at hlen; simp at hlen; omega
    rw [ed] at hblk
    refine (rshut_no b p _ en er pl t w hblk).mono ?_
    rintro e w' ⟨rfl, hb⟩
    exact ⟨rfl, RdS.mono (RdS.later ⟨gl, c, P, _, h1, h2, h3, h4, h5, h6⟩ hb) (by omega)⟩
  · rcases lv with _ | ⟨x, _ | ⟨y, r⟩⟩
    · simp at hlen
    · rw [hs] at hlen; simp at hlen
    have hx := List.mem_cons_self (a := x) (l := y :: r)
    have hy : y ∈ x :: y :: r := List.mem_cons_of_mem _ List.mem_cons_self
    refine (rshut h1 t (Nat.le_trans (h6 y hy) hB) (Nat.le_trans (h6 x hx) hB)).mono ?_
    rintro e w' ⟨v', rfl, a1, a2, a3⟩
    refine ⟨rfl, gl, c, _, _, a1, h2.shut hs _ _ _, h3.trans a2 (fun k hk c => h4 k c hk), ?_, ?_, ?_⟩
    · intro k hk hl
      rcases hk with e | e | ⟨z, hz, e⟩
      · exact Or.inl e
      · exact h4 k (Or.inr (Or.inl e)) hl
      · rcases List.mem_cons.1 hz with e2 | e2
        · subst e2
          rcases a3 with a | ⟨g, a, a4⟩
          · exact h4 k (Or.inr (Or.inr ⟨y, hy, a ▸ e⟩)) hl
          · have e3 : g = k := by simp only at e; rw [a] at e; injection e
            omega
        · exact h4 k (Or.inr (Or.inr ⟨z, List.mem_cons_of_mem _ (List.mem_cons_of_mem _ e2), e⟩)) hl
    · intro g hg
      rcases hg with e | e
      · exact h5 g e
      · by_cases hl : g < w0.heap.size
        · exact Or.inr (Or.inl (h4 g (Or.inr (Or.inr ⟨x, hx, e⟩)) hl))
        · exact Or.inr (Or.inr (by omega))
    · intro z hz
      rcases List.mem_cons.1 hz with e2 | e2
      · subst e2; have := h6 y hy; simp; omega
      · have := h6 z (List.mem_cons_of_mem _ (List.mem_cons_of_mem _ e2)); omega

end
end Go.Proofs.YtibeiggedmabkaaDoor

namespace Go.Proofs.YtibeiggedmabkaaDoor
open Go.RowKit
set_option linter.unusedVariables false
set_option linter.unusedSimpArgs false

theorem tokCells_at : ∀ (L : List Tok) (k j : Nat) (hk : k < L.length), j < 6 → (tokCells L)[k * 6 + j]? = (L[k]).cells[j]?
  | [], k, j, hk, _ => absurd hk (by simp)
  | t :: l, 0, j, hk, hj => by
    have e : tokCells (t :: l) = t.cells ++ tokCells l := by simp [tokCells]
    rw [e, Nat.zero_mul, Nat.zero_add, List.getElem?_append_left (by simp [Tok.cells]; omega)]
    rfl
  | t :: l, k + 1, j, hk, hj => by
    have e : tokCells (t :: l) = t.cells ++ tokCells l := by simp [tokCells]
    have e6 : t.cells.length = 6 := rfl
    rw [e, List.getElem?_append_right (by rw [e6]; omega), e6, show (k + 1) * 6 + j - 6 = k * 6 + j by omega, tokCells_at l k j (by simpa using hk) hj]
    rfl
theorem own_tok {w : World} {base g n : Nat} {cap : Nat} {L : List Tok} (h : w.ownsRow base 32 6 (.slice (some ⟨g, 0, none⟩) n cap) n (tokCells L)) (k j : Nat) (hk : k < L.length) (hj : j < 6) : w.cell? ⟨g, k * 6 + j, none⟩ = (L[k]).cells[j]? := by
  obtain ⟨u, hu⟩ : ∃ u, (L[k]).cells[j]? = some u := by
    have : j < (L[k]).cells.length := hj
    exact ⟨_, List.getElem?_eq_getElem this⟩
  have hc := h.cells (g := g) rfl (k * 6 + j) u (by rw [tokCells_at L k j hk hj]; exact hu)
  have e : (⟨g, 0, none⟩ : Addr).add (k * 6 + j) = ⟨g, k * 6 + j, none⟩ := by
    unfold Addr.add
    split
    · simp_all
    · simp
  rw [e] at hc
  rw [hu]
  exact hc
end Go.Proofs.YtibeiggedmabkaaDoor

namespace Go.Proofs.YtibeiggedmabkaaDoor
open Go.RowKit
set_option linter.unusedVariables false
set_option linter.unusedSimpArgs false
theorem buildB_one (s : BS) (T : Tok) : buildB s [T] = stepB s T := by
  simp only [buildB]
  cases stepB s T <;> rfl
theorem buildB_ok {s s2 : BS} {a : List Tok} (h : buildB s a = .ok s2) (T : Tok) : buildB s (a ++ [T]) = stepB s2 T := by
  rw [buildB_app, h]
  exact buildB_one s2 T
theorem buildB_bad {s s2 : BS} {a : List Tok} {c q : Int} (h : buildB s a = .bad s2 c q) (b : List Tok) : buildB s (a ++ b) = .bad s2 c q := by
  rw [buildB_app, h]
theorem take_snoc {ts : List Tok} {k : Nat} (h : k < ts.length) : ts.take (k + 1) = ts.take k ++ [ts[k]] := by
  rw [List.take_add_one, List.getElem?_eq_getElem h]
  rfl
/-- what take answers -/
def TakeE (w0 : World) (base b : Nat) (p : Option Addr) (en : Bool) (er pl : Int) (gl0 : Nat) (lv0 : List Lv) (P0 : Nat → Prop) (B : Nat) (x : BR) (e apl : Int) (r : Ending) (w' : World) : Prop :=
  match x with
  | .ok s2 => r = (if e = 0 then .returned (.tuple #[]) else .panicked (flt e apl)) ∧ RdS w0 base b p en er pl gl0 lv0 P0 B w' s2
  | .bad s2 c q => r = .panicked (flt c q) ∧ RdS w0 base b p en er pl gl0 lv0 P0 B w' s2
theorem run_field2 (v0 v1 v2 v3 v4 v5 : Value) (w : World) : (Instr.field 32 (.agg #[v0, v1, v2, v3, v4, v5]) 2).run Tryd.prog w = .ok v2 w := by kernel_rfl
set_option maxHeartbeats 8000000 in
set_option maxRecDepth 100000 in
theorem rtake {w : World} {base b : Nat} {p : Option Addr} {en : Bool} {er pl : Int} {gl0 c0 : Nat} {lv0 : List Lv} {P0 : Nat → Prop} {B : Nat} {s : BS} (h : RdAt w base b p en er pl gl0 c0 P0 lv0) (hr : RelB lv0 s) (h6 : ∀ x ∈ lv0, x.K.length ≤ B) (v : Value) (ts : List Tok) (base2 : Nat) (hv : w.ownsRow base2 32 6 v ts.length (tokCells ts)) (hvx : ∀ g, v.ownBlock = some g → ¬ RdX b gl0 lv0 g) (hB : B + ts.length ≤ 1000000000) (e apl : Int) (hat : e ≠ 0 → ∃ q : Addr, p = some q ∧ ∀ wr, Kp (RdX b gl0 lv0) w wr → Calls Tryd.prog 43 #[.pointer (some q)] wr fun r w' => ∃ c0 c1 c3 c4 c5, r = .returned (.agg #[c0, c1, .int .i64 apl, c3, c4, c5]) ∧ Below wr.heap.size wr w') :
    Calls Tryd.prog 32 #[.pointer (some ⟨b, 0, none⟩), v, .int .i64 e] w fun r w' => TakeE w base b p en er pl gl0 lv0 P0 (B + ts.length) (buildB s ts) e apl r w' := by
  obtain ⟨a0, cv, ev⟩ := own_sl hv
  subst ev
  have HI : RdS w base b p en er pl gl0 lv0 P0 B w s := ⟨gl0, c0, P0, lv0, h, hr, Kp.refl _ _, fun k hk _ => hk, fun g hg => Or.inl hg, h6⟩
  have HV := hideT hv
  have HVX := hideT hvx
  have HAT := hideT hat
  clear hv hvx hat h hr h6
  have H0 := hideT HI
  clear HI
  go_enter Tryd.func32, Tryd.ntmps32
  go_wp2_with fail
  go_loopw [10] (fun i wr => ∃ (k : Nat) (sk : BS), k ≤ ts.length ∧ i = .int .i64 k ∧ buildB s (ts.take k) = .ok sk ∧ RdS w base b p en er pl gl0 lv0 P0 (B + k) wr sk) (fun i wr => ts.length - (intOf i).toNat)
  case atStart => exact ⟨0, s, Nat.zero_le _, rfl, rfl, H0.out⟩
  case round =>
    clear H0
    obtain ⟨k, sk, hk, rfl, hbk, hs⟩ := hrel
    have HBK := hideT hbk
    clear hbk
    by_cases hlt : k < ts.length
    · have hki : ((k : Int) < (ts.length : Int)) := by omega
      have hvr : wr.ownsRow base2 32 6 (.slice a0 ts.length cv) ts.length (tokCells ts) := by obtain ⟨_, _, _, _, _, _, kk, _⟩ := hs; exact own_kp HV.out kk (fun g hg c => HVX.out g hg c)
      rcases hvr.2 with ⟨_, h0⟩ | ⟨g1, p1, r1, hv1, _⟩
      · omega
      injection hv1 with hv1 _ hc1
      subst hv1
      obtain ⟨t, ht⟩ : ∃ t, ts[k] = t := ⟨_, rfl⟩
      have z0 := own_tok hvr k 0 hlt (by decide)
      have z1 := own_tok hvr k 1 hlt (by decide)
      have z2 := own_tok hvr k 2 hlt (by decide)
      have z3 := own_tok hvr k 3 hlt (by decide)
      have z4 := own_tok hvr k 4 hlt (by decide)
      have z5 := own_tok hvr k 5 hlt (by decide)
      rw [ht] at z0 z1 z2 z3 z4 z5
      simp only [Tok.cells, List.getElem?_toArray, List.getElem?_cons_zero, List.getElem?_cons_succ] at z0 z1 z2 z3 z4 z5
      rw [Nat.add_zero] at z0
      have HT := hideT ht
      have HK := hideT hlt
      clear ht hvr hc1
      have bA := below_alloc (w := wr) (.cells #[.int .i64 t.k, .string t.t, .int .i64 t.b, .int .i64 t.e, .int .i64 t.l, .int .i64 t.c] 32)
      have qA := Blk.new wr #[.int .i64 t.k, .string t.t, .int .i64 t.b, .int .i64 t.e, .int .i64 t.l, .int .i64 t.c] 32
      have hs2 := hs.later bA
      have HS := hideT hs2
      clear hs bA hs2
      go_upto_region 3 with fail
      generalize wr.alloc (.cells #[.int .i64 t.k, .string t.t, .int .i64 t.b, .int .i64 t.e, .int .i64 t.l, .int .i64 t.c] 32) = W at qA HS ⊢
      clear z0 z1 z2 z3 z4 z5
      have x0 := qA.cell 0
      have x1 := qA.cell 1
      have x2 := qA.cell 2
      have x3 := qA.cell 3
      have x4 := qA.cell 4
      have x5 := qA.cell 5
      simp only [Tok.cells, List.getElem?_toArray, List.getElem?_cons_zero, List.getElem?_cons_succ] at x0 x1 x2 x3 x4 x5
      by_cases hk1 : t.k = 1
      · have xk : ((t.k : Int) == 1) = true := by rw [beq_iff_eq]; omega
        have HK1 := hideT hk1
        clear hk1
        have G := hideT (sopen HS.out t HK1.out (by omega))
        go_wp2_with fail
        refine G.out.mono ?_
        rintro r w2 hr
        clear G
        rcases hst : stepB sk t with s2 | ⟨s2, cc, qq⟩
        · rw [hst] at hr
          obtain ⟨rfl, hr2⟩ := hr
          have HR := hideT hr2
          have HST := hideT hst
          clear hr2 hst
          go_wp2
          go_roundw
          case rel => exact ⟨k + 1, s2, HK.out, by go_num, by rw [take_snoc HK.out, HT.out, buildB_ok HBK.out t]; exact HST.out, HR.out⟩
          case measure => simp [intOf]; have := HK.out; omega
        · rw [hst] at hr
          obtain ⟨rfl, hr2⟩ := hr
          have HR := hideT hr2
          have HST := hideT hst
          clear hr2 hst
          go_wp2
          have hb2 : buildB s ts = .bad s2 cc qq := by have e := buildB_ok HBK.out t; rw [HST.out, ← HT.out, ← take_snoc HK.out] at e; have := buildB_bad e (ts.drop (k + 1)); rwa [List.take_append_drop] at this
          refine ⟨rfl, ?_⟩
          rw [hb2]
          exact ⟨rfl, HR.out.mono (by have := HK.out; omega)⟩
      · have xk : ((t.k : Int) == 1) = false := by rw [beq_eq_false_iff_ne]; omega
        by_cases hk2 : t.k = 2
        · have xk2 : ((t.k : Int) == 2) = true := by rw [beq_iff_eq]; omega
          have HK1 := hideT hk2
          clear hk1 hk2
          have G := hideT (sshut HS.out t HK1.out (by omega))
          go_wp2_with fail
          refine G.out.mono ?_
          rintro r w2 hr
          clear G
          rcases hst : stepB sk t with s2 | ⟨s2, cc, qq⟩
          · rw [hst] at hr
            obtain ⟨rfl, hr2⟩ := hr
            have HR := hideT hr2
            have HST := hideT hst
            clear hr2 hst
            go_wp2
            go_roundw
            case rel => exact ⟨k + 1, s2, HK.out, by go_num, by rw [take_snoc HK.out, HT.out, buildB_ok HBK.out t]; exact HST.out, HR.out⟩
            case measure => simp [intOf]; have := HK.out; omega
          · rw [hst] at hr
            obtain ⟨rfl, hr2⟩ := hr
            have HR := hideT hr2
            have HST := hideT hst
            clear hr2 hst
            go_wp2
            have hb2 : buildB s ts = .bad s2 cc qq := by have e := buildB_ok HBK.out t; rw [HST.out, ← HT.out, ← take_snoc HK.out] at e; have := buildB_bad e (ts.drop (k + 1)); rwa [List.take_append_drop] at this
            refine ⟨rfl, ?_⟩
            rw [hb2]
            exact ⟨rfl, HR.out.mono (by have := HK.out; omega)⟩
        · have xk2 : ((t.k : Int) == 2) = false := by rw [beq_eq_false_iff_ne]; omega
          have HK1 := hideT hk1
          have HK2 := hideT hk2
          clear hk1 hk2
          have G := hideT (sput HS.out t HK1.out HK2.out (by omega))
          go_wp2_with fail
          refine G.out.mono ?_
          rintro r w2 hr
          clear G
          rcases hst : stepB sk t with s2 | ⟨s2, cc, qq⟩
          · rw [hst] at hr
            obtain ⟨rfl, hr2⟩ := hr
            have HR := hideT hr2
            have HST := hideT hst
            clear hr2 hst
            go_wp2
            go_roundw
            case rel => exact ⟨k + 1, s2, HK.out, by go_num, by rw [take_snoc HK.out, HT.out, buildB_ok HBK.out t]; exact HST.out, HR.out⟩
            case measure => simp [intOf]; have := HK.out; omega
          · rw [hst] at hr
            obtain ⟨rfl, hr2⟩ := hr
            have HR := hideT hr2
            have HST := hideT hst
            clear hr2 hst
            go_wp2
            have hb2 : buildB s ts = .bad s2 cc qq := by have e := buildB_ok HBK.out t; rw [HST.out, ← HT.out, ← take_snoc HK.out] at e; have := buildB_bad e (ts.drop (k + 1)); rwa [List.take_append_drop] at this
            refine ⟨rfl, ?_⟩
            rw [hb2]
            exact ⟨rfl, HR.out.mono (by have := HK.out; omega)⟩
    · have hki : ¬ ((k : Int) < (ts.length : Int)) := by omega
      have ek : k = ts.length := by omega
      subst ek
      have hbk := HBK.out
      rw [List.take_length] at hbk
      have HB2 := hideT hbk
      clear HBK hbk
      by_cases he : e = 0
      · have xe : (e == 0) = true := by rw [beq_iff_eq]; exact he
        have HS := hideT hs
        have HE := hideT he
        clear hs
        subst he
        go_wp2
        first | go_end0 | skip
        rw [HB2.out]
        exact ⟨by rw [if_pos rfl], HS.out⟩
      · have xe : (e == 0) = false := by rw [beq_eq_false_iff_ne]; exact he
        obtain ⟨q, ep, hq⟩ := HAT.out he
        subst ep
        have y0 : wr.cell? ⟨b, 0, none⟩ = some (.pointer (some q)) := by obtain ⟨_, _, _, _, hh, _⟩ := hs; have y := hh.blk.cell 0; simpa [rdC] using y
        have G := hideT (hq wr (by obtain ⟨_, _, _, _, _, _, kk, _⟩ := hs; exact kk))
        have HS := hideT hs
        have HE := hideT he
        clear hs hq he
        go_wp2_with fail
        refine G.out.mono ?_
        rintro r w2 ⟨d0, d1, d3, d4, d5, rfl, hb⟩
        have HS2 := hideT (HS.out.later hb)
        clear hb
        have hfd := run_field2 d0 d1 (.int .i64 apl) d3 d4 d5
        go_wp2
        refine ⟨rfl, ?_⟩
        rw [HB2.out]
        exact ⟨by rw [if_neg HE.out]; rfl, HS2.out⟩

end Go.Proofs.YtibeiggedmabkaaDoor
