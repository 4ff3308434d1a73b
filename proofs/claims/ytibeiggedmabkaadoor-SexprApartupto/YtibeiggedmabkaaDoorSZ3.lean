/-
  What the reference has built, in memory; push on it.
-/
import Derived.Test.YtibeiggedmabkaaDoorSZ2
import Derived.Test.YtibeiggedmabkaaDoorSXG
namespace Go.Proofs.YtibeiggedmabkaaDoor
open Go.RowKit
set_option linter.unusedVariables false
set_option linter.unusedSimpArgs false
/-- lists that are open (the innermost first), and what is whole (x0) -/
structure BdAt (w : World) (base : Nat) (ov : Value) (lv : List Lv) (x0 : Lv) (P : Nat → Prop) : Prop where
  own : w.ownsRow base 34 7 ov lv.length (nvCells (lsOf lv))
  ok : ∀ x ∈ lv ++ [x0], w.ownsRow base 34 7 x.v x.K.length (nvCells x.K)
  kn : ∀ x ∈ lv ++ [x0], KN w P x.K x.N
  ap : (lv ++ [x0]).Pairwise fun x y => ∀ g, x.v.ownBlock = some g → y.v.ownBlock ≠ some g
  far : ∀ x ∈ lv ++ [x0], ∀ g, x.v.ownBlock = some g → ov.ownBlock ≠ some g ∧ ¬ P g
  pf : ∀ g, P g → ov.ownBlock ≠ some g ∧ TyN w g ∧ base ≤ g
  low : base ≤ w.heap.size
theorem BdAt.kp {w w' : World} {base : Nat} {ov : Value} {lv : List Lv} {x0 : Lv} {P Y : Nat → Prop} (h : BdAt w base ov lv x0 P) (k : Kp Y w w') (hY : ∀ i, Y i → i < base ∨ w.heap.size ≤ i) : BdAt w' base ov lv x0 P := by
  have nY : ∀ g, base ≤ g → g < w.heap.size → ¬ Y g := fun g h1 h2 c => by rcases hY g c with d | d <;> omega
  refine ⟨own_kp h.own k (fun g hg => nY g (own_lt h.own hg).1 (own_lt h.own hg).2), fun x hx => own_kp (h.ok x hx) k (fun g hg => nY g (own_lt (h.ok x hx) hg).1 (own_lt (h.ok x hx) hg).2), fun x hx => (h.kn x hx).kept (fun g hg hl => k.block g hl (nY g (h.pf g hg).2.2 hl)) (fun _ c => c), h.ap, h.far, fun g hg => ⟨(h.pf g hg).1, (h.pf g hg).2.1.of (k.block g ?_ (nY g (h.pf g hg).2.2 ?_)), (h.pf g hg).2.2⟩, Nat.le_trans h.low k.size⟩
  · obtain ⟨cur, hc⟩ := (h.pf g hg).2.1; exact (Array.getElem?_eq_some_iff.1 hc).1
  · obtain ⟨cur, hc⟩ := (h.pf g hg).2.1; exact (Array.getElem?_eq_some_iff.1 hc).1
theorem BdAt.later {w w' : World} {base : Nat} {ov : Value} {lv : List Lv} {x0 : Lv} {P : Nat → Prop} (h : BdAt w base ov lv x0 P) (hb : Below w.heap.size w w') : BdAt w' base ov lv x0 P :=
  h.kp (Kp.of (X := fun _ => False) hb) (fun _ c => c.elim)
theorem tyn_lt {w : World} {g : Nat} (h : TyN w g) : g < w.heap.size := by
  obtain ⟨cur, hc⟩ := h
  exact (Array.getElem?_eq_some_iff.1 hc).1
/-- the innermost list is taken off -/
theorem BdAt.cut {w : World} {base gl c m : Nat} {x : Lv} {r : List Lv} {x0 : Lv} {P : Nat → Prop} (h : BdAt w base (.slice (some ⟨gl, 0, none⟩) m c) (x :: r) x0 P) (hx : x.K.length ≤ 1099511627776) :
    BdAt w base (.slice (some ⟨gl, 0, none⟩) r.length c) r x0 (fun g => P g ∨ x.v.ownBlock = some g) ∧ NdIn w (fun g => P g ∨ x.v.ownBlock = some g) x.v x.N := by
  have hxm : x ∈ (x :: r) ++ [x0] := List.mem_cons_self
  have hr : ∀ y ∈ r ++ [x0], y ∈ (x :: r) ++ [x0] := fun y hy => List.mem_cons_of_mem _ hy
  have hap := List.pairwise_cons.1 (show (x :: (r ++ [x0])).Pairwise _ from h.ap)
  have hm : m = (x :: r).length := by
    rcases h.own.2 with ⟨e, _⟩ | ⟨g, cap, cur, e, _⟩
    · cases e
    · injection e
  subst hm
  have ho := h.own
  rw [lsOf_cons, nvCells_app] at ho
  refine ⟨⟨own_cut ho (by simp) (by rw [nvCells_len, lsOf_len]), fun y hy => h.ok y (hr y hy), fun y hy => (h.kn y (hr y hy)).kept (fun _ _ _ => rfl) (fun _ c => Or.inl c), hap.2, fun y hy g hg => ⟨(h.far y (hr y hy) g hg).1, fun c => ?_⟩, fun g hg => ?_, h.low⟩, ndin_of (h.ok x hxm) (h.kn x hxm) (fun g c => Or.inl c) (fun g c => Or.inr c) hx⟩
  · rcases c with c | c
    · exact (h.far y (hr y hy) g hg).2 c
    · exact hap.1 y hy g c hg
  · rcases hg with c | c
    · exact h.pf g c
    · exact ⟨(h.far x hxm g c).1, own_ty (h.ok x hxm) c, (own_lt (h.ok x hxm) c).1⟩
/-- a list is opened: the row of the open ones has grown -/
theorem BdAt.open {w w' : World} {base : Nat} {ov ov' : Value} {lv : List Lv} {x0 : Lv} {P : Nat → Prop} (h : BdAt w base ov lv x0 P) (T : Tok) (k : Kp (fun i => ov.ownBlock = some i) w w') (ho : w'.ownsRow base 34 7 ov' (lv.length + 1) (nvCells (lsOf lv ++ [(T, .slice none 0 0)])))
    (hl : ov'.ownBlock = ov.ownBlock ∨ ∃ g, ov'.ownBlock = some g ∧ w.heap.size ≤ g) : BdAt w' base ov' (⟨T, .slice none 0 0, [], []⟩ :: lv) x0 P := by
  have hne : ∀ g, g < w.heap.size → ov.ownBlock ≠ some g → ov'.ownBlock ≠ some g := fun g h1 h2 c => by
    rcases hl with e | ⟨g2, e, e2⟩
    · exact h2 (e ▸ c)
    · rw [e] at c; injection c with c; omega
  refine ⟨by rw [lsOf_cons]; exact ho, fun x hx => ?_, fun x hx => ?_, ?_, fun x hx g hg => ?_, fun g hg => ⟨hne g (tyn_lt (h.pf g hg).2.1) (h.pf g hg).1, (h.pf g hg).2.1.of (k.block g (tyn_lt (h.pf g hg).2.1) (h.pf g hg).1), (h.pf g hg).2.2⟩, Nat.le_trans h.low k.size⟩
  · rcases List.mem_cons.1 hx with e | e
    · subst e; exact World.ownsRow_nil _ _ _ _
    · exact own_kp (h.ok x e) k (fun g hg => (h.far x e g hg).1)
  · rcases List.mem_cons.1 hx with e | e
    · subst e; exact ⟨rfl, fun i hi => absurd hi (Nat.not_lt_zero _)⟩
    · exact (h.kn x e).kept (fun g hg hl => k.block g hl (h.pf g hg).1) (fun _ c => c)
  · exact List.pairwise_cons.2 ⟨fun y hy g hg => by simp [Value.ownBlock] at hg, h.ap⟩
  · rcases List.mem_cons.1 hx with e | e
    · subst e; simp [Value.ownBlock] at hg
    · exact ⟨hne g (own_lt (h.ok x e) hg).2 (h.far x e g hg).1, (h.far x e g hg).2⟩
theorem pushB {base : Nat} {ov : Value} {lv : List Lv} {x0 : Lv} {P : Nat → Prop} {s : BS} {B : Nat} {w : World} (h : BdAt w base ov lv x0 P) (hr : RelB (lv ++ [x0]) s) (hl : ∀ x ∈ lv ++ [x0], x.K.length ≤ B) (hB : B ≤ 1000000000) (hf : lv.length ≤ 1000) (t : Tok) (ua : Option Addr) (un uc : Nat) (n : List Nd) (hn : NdIn w P (.slice ua un uc) n) (code pl : Int) :
    Calls Tryd.prog 54 #[.agg #[x0.v, ov, .int .i64 code, .int .i64 pl], .agg #[.int .i64 t.k, .string t.t, .int .i64 t.b, .int .i64 t.e, .int .i64 t.l, .int .i64 t.c, .slice ua un uc]] w fun r w' => ∃ lv' x0', r = .returned (.agg #[x0'.v, ov, .int .i64 code, .int .i64 pl]) ∧ BdAt w' base ov lv' x0' P ∧ RelB (lv' ++ [x0']) (s.push (.mk t n)) ∧ lv'.length = lv.length ∧ (∀ x ∈ lv' ++ [x0'], x.K.length ≤ B + 1) ∧ Below base w w' := by
  rcases lv with _ | ⟨x, r⟩
  · have h0 : x0 ∈ ([] : List Lv) ++ [x0] := by simp
    obtain ⟨oa, oc, eo⟩ := own_sl h.own
    simp only [List.length_nil] at eo
    have ho0 := h.own
    have G := rpush0 oa oc base x0.v x0.K t ua un uc code pl w (h.ok x0 h0) (Nat.le_trans (hl x0 h0) hB) h.low
    rw [← eo] at G
    refine G.mono ?_
    rintro e w' ⟨v', rfl, o8, k8, a8⟩
    have hne : ∀ g, v'.ownBlock = some g → x0.v.ownBlock = some g ∨ w.heap.size ≤ g := fun g hg => by rcases a8 with c | ⟨g2, c, c2⟩; exact Or.inl (c ▸ hg); right; rw [c] at hg; injection hg with hg; omega
    have hP : ∀ g, P g → g < w.heap.size → w'.heap[g]? = w.heap[g]? := fun g hg hl => k8.block g hl (fun e => (h.far x0 h0 g e).2 hg)
    refine ⟨[], ⟨x0.t, v', x0.K ++ [(t, Value.slice ua un uc)], x0.N ++ [Nd.mk t n]⟩, rfl, ⟨?_, ?_, ?_, ?_, ?_, ?_, Nat.le_trans h.low k8.size⟩, hr.push v' (x0.K ++ [(t, Value.slice ua un uc)]) (Nd.mk t n), rfl, ?_, k8.below h.low (fun g hg e => by have := (own_lt (h.ok x0 h0) e).1; omega)⟩
    · exact own_kp h.own k8 (fun g hg e => (h.far x0 h0 g e).1 hg)
    · intro y hy; rw [List.mem_singleton.1 hy]; simpa using o8
    · intro y hy; rw [List.mem_singleton.1 hy]; exact ((h.kn x0 h0).kept hP (fun _ c => c)).snoc (hn.kept hP (fun _ c => c))
    · exact List.pairwise_singleton _ _
    · intro y hy g hg; rw [List.mem_singleton.1 hy] at hg; rcases hne g hg with c | c
      · exact h.far x0 h0 g c
      · exact ⟨fun e => by have := (own_lt h.own e).2; omega, fun e => by have := tyn_lt (h.pf g e).2.1; omega⟩
    · exact fun g hg => ⟨(h.pf g hg).1, (h.pf g hg).2.1.of (hP g hg (tyn_lt (h.pf g hg).2.1)), (h.pf g hg).2.2⟩
    · intro y hy; rw [List.mem_singleton.1 hy]; have := hl x0 h0; simp; omega
  · have hx : x ∈ (x :: r) ++ [x0] := List.mem_cons_self
    have hrs : ∀ y ∈ r ++ [x0], y ∈ (x :: r) ++ [x0] := fun y hy => List.mem_cons_of_mem _ hy
    have hap := List.pairwise_cons.1 (show (x :: (r ++ [x0])).Pairwise _ from h.ap)
    obtain ⟨gl, c, eo, hcc⟩ := own_form h.own (by simp)
    subst eo
    have hfx := h.far x hx
    have hgl := (own_lt h.own (g := gl) rfl).2
    have hc : w.cell? ⟨gl, r.length * 7 + 6, none⟩ = some x.v := by have e := lsOf_len r; rw [h.own.cellAt _ (by simp only [List.length_cons]; omega), lsOf_cons, ← e, nv_at _ _ _ (by omega)]; rfl
    obtain ⟨na, nc, en⟩ := own_sl (h.ok x0 (by simp))
    have G := rpush1 na x0.K.length nc gl c r.length base x.v x.K t ua un uc code pl w (h.ok x hx) (Nat.le_trans (hl x hx) hB) h.low (by simp only [List.length_cons] at hf; omega) hc (h.own.frozenAt _) (fun e => (hfx gl e).1 rfl)
    rw [← en] at G
    refine G.mono ?_
    rintro e w' ⟨v', rfl, o8, g8, k8, a8⟩
    have hne : ∀ g, v'.ownBlock = some g → x.v.ownBlock = some g ∨ w.heap.size ≤ g := fun g hg => by rcases a8 with c | ⟨g2, c, c2⟩; exact Or.inl (c ▸ hg); right; rw [c] at hg; injection hg with hg; omega
    have hP : ∀ g, P g → g < w.heap.size → w'.heap[g]? = w.heap[g]? := fun g hg hl => k8.block g hl (fun e => by rcases e with e | e; exact (h.pf g hg).1 (by rw [e]; rfl); exact (hfx g e).2 hg)
    have hL3 := own_heap ((h.own.stored (r.length * 7 + 6) v').1) g8
    rw [lsOf_cons, ← lsOf_len r, nv_last] at hL3
    have hk : ∀ y ∈ r ++ [x0], ∀ g, y.v.ownBlock = some g → ¬ (g = gl ∨ x.v.ownBlock = some g) := fun y hy g hg e => by rcases e with e | e; exact (h.far y (hrs y hy) g hg).1 (by rw [e]; rfl); exact hap.1 y hy g e hg
    refine ⟨⟨x.t, v', x.K ++ [(t, Value.slice ua un uc)], x.N ++ [Nd.mk t n]⟩ :: r, x0, rfl, ⟨?_, ?_, ?_, ?_, ?_, ?_, Nat.le_trans h.low k8.size⟩, hr.push v' (x.K ++ [(t, Value.slice ua un uc)]) (Nd.mk t n), rfl, ?_, k8.below h.low (fun g hg e => by rcases e with e | e; (have := (own_lt h.own (g := gl) rfl).1; omega); (have := (own_lt (h.ok x hx) e).1; omega))⟩
    · rw [lsOf_cons]; exact hL3
    · intro y hy
      rcases List.mem_cons.1 hy with e | e
      · subst e; simpa using o8
      · exact own_kp (h.ok y (hrs y e)) k8 (hk y e)
    · intro y hy
      rcases List.mem_cons.1 hy with e | e
      · subst e; exact ((h.kn x hx).kept hP (fun _ c => c)).snoc (hn.kept hP (fun _ c => c))
      · exact (h.kn y (hrs y e)).kept hP (fun _ c => c)
    · refine List.pairwise_cons.2 ⟨fun y hy g hg c => ?_, hap.2⟩
      rcases hne g hg with e | e
      · exact hap.1 y hy g e c
      · have := (own_lt (h.ok y (hrs y hy)) c).2; omega
    · intro y hy g hg
      rcases List.mem_cons.1 hy with e | e
      · subst e
        rcases hne g hg with e | e
        · exact hfx g e
        · exact ⟨fun c => by have := (own_lt h.own c).2; omega, fun c => by have := tyn_lt (h.pf g c).2.1; omega⟩
      · exact h.far y (hrs y e) g hg
    · exact fun g hg => ⟨(h.pf g hg).1, (h.pf g hg).2.1.of (hP g hg (tyn_lt (h.pf g hg).2.1)), (h.pf g hg).2.2⟩
    · intro y hy
      rcases List.mem_cons.1 hy with e | e
      · subst e; have := hl x hx; simp; omega
      · have := hl y (hrs y e); omega

end Go.Proofs.YtibeiggedmabkaaDoor
