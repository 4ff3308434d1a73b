/-
  A reader in memory and what its tokens have made; one token more.
-/
import Derived.Test.YtibeiggedmabkaaDoorSX8
namespace Go.Proofs.YtibeiggedmabkaaDoor
open Go.RowKit
set_option linter.unusedVariables false
set_option linter.unusedSimpArgs false
inductive RelB : List Lv → BS → Prop
  | one (x : Lv) : RelB [x] ⟨x.N, []⟩
  | more (x : Lv) (r : List Lv) (ns : List Nd) (os : List Opn) (o : Opn) (h : RelB r ⟨ns, os⟩) (hk : x.t.k = 0) (ht : x.t.t = ⟨#[]⟩) (hb : x.t.b = o.b) (hl : x.t.l = o.l) (hc : x.t.c = o.c) (hn : x.N = o.kids) : RelB (x :: r) ⟨ns, o :: os⟩
theorem RelB.len {lv : List Lv} {s : BS} (h : RelB lv s) : lv.length = s.opn.length + 1 := by
  induction h with
  | one x => rfl
  | more x r ns os o h hk ht hb hl hc hn ih => simp only [List.length_cons] at ih ⊢; omega
theorem RelB.push {x : Lv} {r : List Lv} {s : BS} (h : RelB (x :: r) s) (v : Value) (K : List (Tok × Value)) (n : Nd) : RelB (⟨x.t, v, K, x.N ++ [n]⟩ :: r) (s.push n) := by
  cases h with
  | one => exact .one ⟨x.t, v, K, x.N ++ [n]⟩
  | more _ _ ns os o h hk ht hb hl hc hn => exact .more _ _ _ _ _ h hk ht hb hl hc (by simp only [hn])
theorem RelB.opened {lv : List Lv} {s : BS} (h : RelB lv s) (T : Tok) : RelB (⟨opT T, .slice none 0 0, [], []⟩ :: lv) { s with opn := ⟨T.b, T.l, T.c, []⟩ :: s.opn } :=
  .more _ _ _ _ _ h rfl rfl rfl rfl rfl rfl
theorem RelB.shut {x y : Lv} {r : List Lv} {s : BS} {o : Opn} {os : List Opn} (h : RelB (x :: y :: r) s) (hs : s.opn = o :: os) (v : Value) (K : List (Tok × Value)) (e : Int) :
    RelB (⟨y.t, v, K, y.N ++ [.mk (shT x.t e) x.N]⟩ :: r) (({ s with opn := os } : BS).push (o.node e)) := by
  cases h with
  | more _ _ ns os' o' h hk ht hb hl hc hn =>
    simp only [List.cons.injEq] at hs
    obtain ⟨rfl, rfl⟩ := hs
    have e1 : (Nd.mk (shT x.t e) x.N) = o'.node e := by simp only [Opn.node, shT, hk, ht, hb, hl, hc, hn]
    rw [e1]
    exact h.push v K _
theorem RdAt.later {w w' : World} {base b : Nat} {p : Option Addr} {en : Bool} {er pl : Int} {gl c : Nat} {P : Nat → Prop} {lv : List Lv} (h : RdAt w base b p en er pl gl c P lv) (hb : Below w.heap.size w w') : RdAt w' base b p en er pl gl c P lv :=
  ⟨h.blk.later hb, own_kp h.own (Kp.of (X := fun _ => False) hb) (fun _ _ c => c), fun x hx => own_kp (h.ok x hx) (Kp.of (X := fun _ => False) hb) (fun _ _ c => c), fun x hx => (h.kn x hx).kept (fun g _ hg => hb.block g hg) (fun _ c => c), h.ap, h.far, fun g hg => ⟨(h.pf g hg).1, (h.pf g hg).2.1, Nat.lt_of_lt_of_le (h.pf g hg).2.2 hb.size⟩, h.gb, h.few, Nat.le_trans h.low hb.size, fun g hg => (h.ty g hg).of (hb.block g (h.pf g hg).2.2)⟩
/-- a reader that began as gl0, lv0, P0 in w0, and has come to s -/
def RdS (w0 : World) (base b : Nat) (p : Option Addr) (en : Bool) (er pl : Int) (gl0 : Nat) (lv0 : List Lv) (P0 : Nat → Prop) (B : Nat) (w : World) (s : BS) : Prop :=
  ∃ gl c P lv, RdAt w base b p en er pl gl c P lv ∧ RelB lv s ∧ Kp (RdX b gl0 lv0) w0 w ∧ (∀ k, RdX b gl lv k → k < w0.heap.size → RdX b gl0 lv0 k) ∧ (∀ g, P g → P0 g ∨ RdX b gl0 lv0 g ∨ w0.heap.size ≤ g) ∧ (∀ x ∈ lv, x.K.length ≤ B)
section
variable {w0 : World} {base b : Nat} {p : Option Addr} {en : Bool} {er pl : Int} {gl0 : Nat} {lv0 : List Lv} {P0 : Nat → Prop} {B : Nat} {w w' : World} {s : BS}
theorem RdS.later (h : RdS w0 base b p en er pl gl0 lv0 P0 B w s) (hb : Below w.heap.size w w') : RdS w0 base b p en er pl gl0 lv0 P0 B w' s := by
  obtain ⟨gl, c, P, lv, h1, h2, h3, h4, h5, h6⟩ := h
  exact ⟨gl, c, P, lv, h1.later hb, h2, h3.trans (Kp.of (X := RdX b gl0 lv0) hb) (fun _ _ c => c), h4, h5, h6⟩
theorem RdS.mono (h : RdS w0 base b p en er pl gl0 lv0 P0 B w s) {B2 : Nat} (hB : B ≤ B2) : RdS w0 base b p en er pl gl0 lv0 P0 B2 w s := by
  obtain ⟨gl, c, P, lv, h1, h2, h3, h4, h5, h6⟩ := h
  exact ⟨gl, c, P, lv, h1, h2, h3, h4, h5, fun x hx => Nat.le_trans (h6 x hx) hB⟩
/-- an answer that fits what stepB says -/
def StepE (w0 : World) (base b : Nat) (p : Option Addr) (en : Bool) (er pl : Int) (gl0 : Nat) (lv0 : List Lv) (P0 : Nat → Prop) (B : Nat) (x : BR) (r : Ending) (w' : World) : Prop :=
  match x with
  | .ok s2 => r = .returned (.tuple #[]) ∧ RdS w0 base b p en er pl gl0 lv0 P0 B w' s2
  | .bad s2 c q => r = .panicked (flt c q) ∧ RdS w0 base b p en er pl gl0 lv0 P0 B w' s2
theorem sput (h : RdS w0 base b p en er pl gl0 lv0 P0 B w s) (t : Tok) (hk1 : t.k ≠ 1) (hk2 : t.k ≠ 2) (hB : B ≤ 1000000000) : Calls Tryd.prog 42 #[.pointer (some ⟨b, 0, none⟩), .agg #[.int .i64 t.k, .string t.t, .int .i64 t.b, .int .i64 t.e, .int .i64 t.l, .int .i64 t.c, .slice none 0 0]] w fun r w' => StepE w0 base b p en er pl gl0 lv0 P0 (B + 1) (stepB s t) r w' := by
  obtain ⟨gl, c, P, lv, h1, h2, h3, h4, h5, h6⟩ := h
  have hlen := h2.len
  rw [stepB, if_neg hk1, if_neg hk2]
  rcases lv with _ | ⟨x, r⟩
  · simp at hlen
  have hs3 := h3.size
  have hx := List.mem_cons_self (a := x) (l := r)
  refine (rput h1 t none 0 0 [] (.nil none 0) (Nat.le_trans (h6 x hx) hB)).mono ?_
  rintro e w' ⟨v', rfl, a1, a2, a3⟩
  refine ⟨rfl, gl, c, P, _, a1, h2.push _ _ _, h3.trans a2 (fun k hk c => h4 k c hk), ?_, h5, ?_⟩
  · intro k hk hl
    rcases hk with e | e | ⟨z, hz, e⟩
    · exact Or.inl e
    · exact h4 k (Or.inr (Or.inl e)) hl
    · rcases List.mem_cons.1 hz with e2 | e2
      · subst e2
        rcases a3 with a | ⟨g, a, a4⟩
        · exact h4 k (Or.inr (Or.inr ⟨x, hx, a ▸ e⟩)) hl
        · have e3 : g = k := by simp only at e; rw [a] at e; injection e
          omega
      · exact h4 k (Or.inr (Or.inr ⟨z, List.mem_cons_of_mem _ e2, e⟩)) hl
  · intro z hz
    rcases List.mem_cons.1 hz with e2 | e2
    · subst e2; have := h6 x hx; simp; omega
    · have := h6 z (List.mem_cons_of_mem _ e2); omega

theorem sopen (h : RdS w0 base b p en er pl gl0 lv0 P0 B w s) (t : Tok) (hk1 : t.k = 1) (hB : B ≤ 1000000000) : Calls Tryd.prog 40 #[.pointer (some ⟨b, 0, none⟩), .agg #[.int .i64 t.k, .string t.t, .int .i64 t.b, .int .i64 t.e, .int .i64 t.l, .int .i64 t.c]] w fun r w' => StepE w0 base b p en er pl gl0 lv0 P0 (B + 1) (stepB s t) r w' := by
  obtain ⟨gl, c, P, lv, h1, h2, h3, h4, h5, h6⟩ := h
  have hlen := h2.len
  rw [stepB, if_pos hk1]
  rcases lv with _ | ⟨x, r⟩
  · simp at hlen
  have hs3 := h3.size
  simp only [List.length_cons] at hlen
  by_cases hd : s.opn.length = 1000
  · rw [if_pos hd]
    have hblk := h1.blk
    have ed : (((x :: r).length : Int) - 1) = 1000 := by simp only [List.length_cons]; omega
    rw [ed] at hblk
    refine (ropen_no b p _ en er pl t w hblk).mono ?_
    rintro e w' ⟨rfl, hb⟩
    exact ⟨rfl, RdS.mono (RdS.later ⟨gl, c, P, _, h1, h2, h3, h4, h5, h6⟩ hb) (by omega)⟩
  · rw [if_neg hd]
    have hf := h1.few
    simp only [List.length_cons] at hf
    refine (ropen h1 t (by omega)).mono ?_
    rintro e w' ⟨gl', c', rfl, a1, a2, a3⟩
    refine ⟨rfl, gl', c', P, _, a1, h2.opened t, h3.trans a2 (fun k hk c => h4 k c hk), ?_, h5, ?_⟩
    · intro k hk hl
      rcases hk with e | e | ⟨z, hz, e⟩
      · exact Or.inl e
      · rcases a3 with a | a
        · exact h4 k (Or.inr (Or.inl (e.trans a))) hl
        · omega
      · rcases List.mem_cons.1 hz with e2 | e2
        · subst e2; simp [Value.ownBlock] at e
        · exact h4 k (Or.inr (Or.inr ⟨z, e2, e⟩)) hl
    · intro z hz
      rcases List.mem_cons.1 hz with e2 | e2
      · subst e2; simp
      · have := h6 z e2; omega

theorem sshut (h : RdS w0 base b p en er pl gl0 lv0 P0 B w s) (t : Tok) (hk1 : t.k = 2) (hB : B ≤ 1000000000) : Calls Tryd.prog 41 #[.pointer (some ⟨b, 0, none⟩), .agg #[.int .i64 t.k, .string t.t, .int .i64 t.b, .int .i64 t.e, .int .i64 t.l, .int .i64 t.c]] w fun r w' => StepE w0 base b p en er pl gl0 lv0 P0 (B + 1) (stepB s t) r w' := by
  obtain ⟨gl, c, P, lv, h1, h2, h3, h4, h5, h6⟩ := h
  have hlen := h2.len
  rw [stepB, if_neg (by omega), if_pos hk1]
  have hs3 := h3.size
  rcases hs : s.opn with _ | ⟨o, os⟩
  · have hblk := h1.blk
    have ed : ((lv.length : Int) - 1) = 0 := by rw [hs] at hlen; simp at hlen; omega
    rw [ed] at hblk
    refine (rshut_no b p _ en er pl t w hblk).mono ?_
    rintro e w' ⟨rfl, hb⟩
    exact ⟨rfl, RdS.mono (RdS.later ⟨gl, c, P, _, h1, h2, h3, h4, h5, h6⟩ hb) (by omega)⟩
  · rcases lv with _ | ⟨x, _ | ⟨y, r⟩⟩
    · simp at hlen
    · rw [hs] at hlen; simp at hlen
    have hx := List.mem_cons_self (a := x) (l := y :: r)
    have hy : y ∈ x :: y :: r := List.mem_cons_of_mem _ List.mem_cons_self
    refine (rshut h1 t (Nat.le_trans (h6 y hy) hB) (Nat.le_trans (h6 x hx) hB)).mono ?_
    rintro e w' ⟨v', rfl, a1, a2, a3⟩
    refine ⟨rfl, gl, c, _, _, a1, h2.shut hs _ _ _, h3.trans a2 (fun k hk c => h4 k c hk), ?_, ?_, ?_⟩
    · intro k hk hl
      rcases hk with e | e | ⟨z, hz, e⟩
      · exact Or.inl e
      · exact h4 k (Or.inr (Or.inl e)) hl
      · rcases List.mem_cons.1 hz with e2 | e2
        · subst e2
          rcases a3 with a | ⟨g, a, a4⟩
          · exact h4 k (Or.inr (Or.inr ⟨y, hy, a ▸ e⟩)) hl
          · have e3 : g = k := by simp only at e; rw [a] at e; injection e
            omega
        · exact h4 k (Or.inr (Or.inr ⟨z, List.mem_cons_of_mem _ (List.mem_cons_of_mem _ e2), e⟩)) hl
    · intro g hg
      rcases hg with e | e
      · exact h5 g e
      · by_cases hl : g < w0.heap.size
        · exact Or.inr (Or.inl (h4 g (Or.inr (Or.inr ⟨x, hx, e⟩)) hl))
        · exact Or.inr (Or.inr (by omega))
    · intro z hz
      rcases List.mem_cons.1 hz with e2 | e2
      · subst e2; have := h6 y hy; simp; omega
      · have := h6 z (List.mem_cons_of_mem _ (List.mem_cons_of_mem _ e2)); omega

end
end Go.Proofs.YtibeiggedmabkaaDoor
