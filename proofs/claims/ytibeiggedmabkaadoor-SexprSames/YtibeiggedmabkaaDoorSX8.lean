/-
  open and shut on a reader in memory.
-/
import Derived.Test.YtibeiggedmabkaaDoorSX7
namespace Go.Proofs.YtibeiggedmabkaaDoor
open Go.RowKit
set_option linter.unusedVariables false
set_option linter.unusedSimpArgs false
theorem nv_get (K : List (Tok × Value)) (i j : Nat) (hi : i < K.length) (hj : j < 7) : (nvCells K)[i * 7 + j]? = (K[i].1.cells ++ [K[i].2])[j]? := by
  have e : K = K.take i ++ (K[i] :: K.drop (i + 1)) := by rw [List.getElem_cons_drop, List.take_append_drop]
  have hl : (K.take i).length = i := by rw [List.length_take]; omega
  have h1 : nvCells K = nvCells (K.take i) ++ ((K[i].1.cells ++ [K[i].2]) ++ nvCells (K.drop (i + 1))) := by
    conv => lhs; rw [e]
    rw [nvCells_app]
    simp only [nvCells, List.flatMap_cons]
  rw [h1, List.getElem?_append_right (by rw [nvCells_len, hl]; omega), nvCells_len, hl, Nat.add_sub_cancel_left, List.getElem?_append_left (by simp [Tok.cells]; omega)]
theorem own_form {w : World} {base n size : Nat} {ty : TypeId} {v : Value} {xs : List Value} (h : w.ownsRow base ty size v n xs) (hn : 0 < n) : ∃ g c, v = .slice (some ⟨g, 0, none⟩) n c ∧ n ≤ c := by
  obtain ⟨_, h2⟩ := h
  rcases h2 with ⟨_, e⟩ | ⟨g, cap, cur, e, _, _, hc, _⟩
  · omega
  · exact ⟨g, cap, e, hc⟩
theorem ndin_of {w : World} {base : Nat} {v : Value} {K : List (Tok × Value)} {N : List Nd} {P Q : Nat → Prop} {ty : TypeId} (h : w.ownsRow base ty 7 v K.length (nvCells K)) (hk : KN w P K N) (hQ : ∀ g, P g → Q g) (hv : ∀ g, v.ownBlock = some g → Q g) (hl : K.length ≤ 1099511627776) : NdIn w Q v N := by
  by_cases h0 : K.length = 0
  · obtain ⟨a, c, e⟩ := own_sl h
    have : N = [] := List.eq_nil_of_length_eq_zero (by rw [← hk.1]; exact h0)
    subst this
    rw [h0] at e
    subst e
    exact .nil a c
  · obtain ⟨g, c, e, _⟩ := own_form h (by omega)
    subst e
    rw [hk.1]
    refine .row g 0 c N (fun i => if hi : i < K.length then K[i].2 else .slice none 0 0) (by rw [← hk.1]; omega) (by rw [← hk.1]; exact hl) (hv g rfl) ?_ ?_ ?_
    · intro i hi j hj
      have hi2 : i < K.length := by rw [hk.1]; exact hi
      rw [Nat.zero_add, h.cellAt _ (by omega), nv_get K i j hi2 (by omega), (hk.2 i hi2 hi).1, List.getElem?_append_left (by simp [Tok.cells]; omega)]
    · intro i hi
      have hi2 : i < K.length := by rw [hk.1]; exact hi
      rw [Nat.zero_add, h.cellAt _ (by omega), nv_get K i 6 hi2 (by omega), dif_pos hi2]
      rfl
    · intro i hi
      have hi2 : i < K.length := by rw [hk.1]; exact hi
      simp only [dif_pos hi2]
      exact (hk.2 i hi2 hi).2.kept (fun _ _ _ => rfl) hQ
theorem ropen {base b : Nat} {p : Option Addr} {en : Bool} {er pl : Int} {gl c : Nat} {P : Nat → Prop} {x : Lv} {r : List Lv} {w : World} (h : RdAt w base b p en er pl gl c P (x :: r)) (t : Tok) (hd : r.length < 1000) : Calls Tryd.prog 40 #[.pointer (some ⟨b, 0, none⟩), .agg #[.int .i64 t.k, .string t.t, .int .i64 t.b, .int .i64 t.e, .int .i64 t.l, .int .i64 t.c]] w fun e w' => ∃ gl' c', e = .returned (.tuple #[]) ∧ RdAt w' base b p en er pl gl' c' P (⟨opT t, .slice none 0 0, [], []⟩ :: x :: r) ∧ Kp (RdX b gl (x :: r)) w w' ∧ (gl' = gl ∨ w.heap.size ≤ gl') := by
  obtain ⟨lv, hlv⟩ : ∃ lv, x :: r = lv := ⟨_, rfl⟩
  have hlen : lv.length = r.length + 1 := by rw [← hlv]; rfl
  rw [hlv] at h ⊢
  clear hlv
  have hbl := h.blk.lt
  have hgl := (own_lt h.own (g := gl) rfl).2
  have hblk := h.blk
  have hown := h.own
  have ed : ((lv.length : Int) - 1) = (r.length : Int) := by omega
  rw [ed, ← lsOf_len lv] at hblk
  rw [← lsOf_len lv] at hown
  have hls := lsOf_len lv
  refine (ropen_is b r.length base p en er pl (some ⟨gl, 0, none⟩) c (lsOf lv) t w hblk hown (fun e => h.gb (by injection e)) hd (by omega) h.low).mono ?_
  rintro e w' ⟨v', rfl, o8, b8, k8, a8⟩
  obtain ⟨gl', c', ev, hcc⟩ := own_form o8 (by omega)
  subst ev
  have a9 : gl' = gl ∨ w.heap.size ≤ gl' := by
    rcases a8 with a | ⟨g, a, a2⟩
    · exact Or.inl (by injection a)
    · have e : gl' = g := by injection a
      exact Or.inr (by omega)
  have k9 : Kp (RdX b gl lv) w w' := ⟨k8.os, k8.tape, k8.output, k8.size, fun k hk hn => k8.block k hk (fun e => hn (by rcases e with e | e; exact Or.inl e; exact Or.inr (Or.inl (by injection e with e; exact e.symm))))⟩
  have kb : ∀ g, g ≠ b → g ≠ gl → g < w.heap.size → w'.heap[g]? = w.heap[g]? := fun g h1 h2 hl => k8.block g hl (fun e => by rcases e with e | e; exact h1 e; exact h2 (by injection e with e; exact e.symm))
  have hP : ∀ g, P g → g < w.heap.size → w'.heap[g]? = w.heap[g]? := fun g hg hl => kb g (h.pf g hg).1 (h.pf g hg).2.1 hl
  refine ⟨gl', c', rfl, ?_, k9, a9⟩
  refine ⟨?_, ?_, ?_, ?_, ?_, ?_, ?_, ?_, ?_, Nat.le_trans h.low k8.size, fun g hg => (h.ty g hg).of (hP g hg (h.pf g hg).2.2)⟩
  · have e2 : (((⟨opT t, .slice none 0 0, [], []⟩ : Lv) :: lv).length : Int) - 1 = (r.length : Int) + 1 := by simp only [List.length_cons]; omega
    rw [e2, List.length_cons, ← hls]; exact b8
  · rw [lsOf_cons, List.length_cons, ← hls]; exact o8
  · intro y hy
    rcases List.mem_cons.1 hy with e | e
    · subst e; exact World.ownsRow_nil _ _ _ _
    · exact own_kp (h.ok y e) k8 (fun g hg c => by rcases c with c | c; exact (h.far y e g hg).1 c; exact (h.far y e g hg).2.1 (by injection c with c; exact c.symm))
  · intro y hy
    rcases List.mem_cons.1 hy with e | e
    · subst e; exact ⟨rfl, fun i hi => absurd hi (Nat.not_lt_zero _)⟩
    · exact (h.kn y e).kept hP (fun _ c => c)
  · exact List.pairwise_cons.2 ⟨fun y hy g hg => by simp [Value.ownBlock] at hg, h.ap⟩
  · intro y hy g hg
    rcases List.mem_cons.1 hy with e | e
    · subst e; simp [Value.ownBlock] at hg
    · exact ⟨(h.far y e g hg).1, fun c => by rcases a9 with a | a; exact (h.far y e g hg).2.1 (c.trans a); (have := (own_lt (h.ok y e) hg).2; omega), (h.far y e g hg).2.2⟩
  · exact fun g hg => ⟨(h.pf g hg).1, fun c => by rcases a9 with a | a; exact (h.pf g hg).2.1 (c.trans a); (have := (h.pf g hg).2.2; omega), Nat.lt_of_lt_of_le (h.pf g hg).2.2 k8.size⟩
  · rcases a9 with a | a
    · rw [a]; exact h.gb
    · omega
  · simp only [List.length_cons]; omega

theorem rshut {base b : Nat} {p : Option Addr} {en : Bool} {er pl : Int} {gl c : Nat} {P : Nat → Prop} {x y : Lv} {r : List Lv} {w : World} (h : RdAt w base b p en er pl gl c P (x :: y :: r)) (t : Tok) (hkl : y.K.length ≤ 1000000000) (hkx : x.K.length ≤ 1000000000) : Calls Tryd.prog 41 #[.pointer (some ⟨b, 0, none⟩), .agg #[.int .i64 t.k, .string t.t, .int .i64 t.b, .int .i64 t.e, .int .i64 t.l, .int .i64 t.c]] w fun e w' => ∃ v', e = .returned (.tuple #[]) ∧ RdAt w' base b p en er pl gl c (fun g => P g ∨ x.v.ownBlock = some g) (⟨y.t, v', y.K ++ [(shT x.t t.e, x.v)], y.N ++ [.mk (shT x.t t.e) x.N]⟩ :: r) ∧ Kp (RdX b gl (x :: y :: r)) w w' ∧ (v'.ownBlock = y.v.ownBlock ∨ ∃ g, v'.ownBlock = some g ∧ w.heap.size ≤ g) := by
  have hx := List.mem_cons_self (a := x) (l := y :: r)
  have hy : y ∈ x :: y :: r := List.mem_cons_of_mem _ List.mem_cons_self
  have hr : ∀ z ∈ r, z ∈ x :: y :: r := fun z hz => List.mem_cons_of_mem _ (List.mem_cons_of_mem _ hz)
  have hfx := h.far x hx
  have hfy := h.far y hy
  have hox := h.ok x hx
  have hoy := h.ok y hy
  have hbl := h.blk.lt
  have hgl := (own_lt h.own (g := gl) rfl).2
  obtain ⟨ap1, ap2⟩ := List.pairwise_cons.1 h.ap
  obtain ⟨ap3, ap4⟩ := List.pairwise_cons.1 ap2
  have hlc : (x :: y :: r).length ≤ c := by obtain ⟨g, c2, e, h2⟩ := own_form h.own (by simp); injection e with e1 e2 e3; rw [e3]; exact h2
  obtain ⟨ua, uc, ex⟩ := own_sl hox
  have ed : (((x :: y :: r).length : Int) - 1) = ((r.length + 1 : Nat) : Int) := by simp only [List.length_cons]; omega
  have hblk := h.blk
  rw [ed] at hblk
  have hls := lsOf_len r
  have hown := h.own
  rw [lsOf_cons, lsOf_cons] at hown
  have G := rshut_is b gl (r.length + 1) (x :: y :: r).length c base p en er pl (lsOf r) y.t y.v x.t ua x.K.length uc y.K t w hblk (by rw [← ex]; exact hown) (by rw [hls]) rfl (by have := h.few; simp only [List.length_cons] at this; omega) hlc hoy h.gb (fun e => (hfy gl e).2.1 rfl) (fun e => (hfy b e).1 rfl) hkl h.low
  rw [← ex, hls] at G
  refine G.mono ?_
  rintro e w' ⟨v', rfl, o8, l8, b8, k8, a8⟩
  have k9 : Kp (RdX b gl (x :: y :: r)) w w' := ⟨k8.os, k8.tape, k8.output, k8.size, fun k hk hn => k8.block k hk (fun e => hn (by rcases e with e | e | e; exact Or.inl e; exact Or.inr (Or.inl e); exact Or.inr (Or.inr ⟨y, hy, e⟩)))⟩
  refine ⟨v', rfl, ?_, k9, a8⟩
  have kb : ∀ g, g ≠ b → g ≠ gl → y.v.ownBlock ≠ some g → g < w.heap.size → w'.heap[g]? = w.heap[g]? := fun g h1 h2 h3 hl => k8.block g hl (fun e => by rcases e with e | e | e; exact h1 e; exact h2 e; exact h3 e)
  have hP : ∀ g, P g → g < w.heap.size → w'.heap[g]? = w.heap[g]? := fun g hg hl => kb g (h.pf g hg).1 (h.pf g hg).2.1 (fun e => (hfy g e).2.2 hg) hl
  have hox2 : w'.ownsRow base 34 7 x.v x.K.length (nvCells x.K) := own_kp hox k8 (fun g hg c => by rcases c with c | c | c; exact (hfx g hg).1 c; exact (hfx g hg).2.1 c; exact ap1 y List.mem_cons_self g hg c)
  have hnx : NdIn w' (fun g => P g ∨ x.v.ownBlock = some g) x.v x.N := ndin_of hox2 ((h.kn x hx).kept hP (fun _ c => c)) (fun g c => Or.inl c) (fun g c => Or.inr c) (by omega)
  refine ⟨?_, ?_, ?_, ?_, ?_, ?_, ?_, h.gb, ?_, Nat.le_trans h.low k8.size, fun g hg => hg.elim (fun c => (h.ty g c).of (hP g c (h.pf g c).2.2)) (fun c => own_ty hox2 c)⟩
  · have e2 : (((⟨y.t, v', y.K ++ [(shT x.t t.e, x.v)], y.N ++ [.mk (shT x.t t.e) x.N]⟩ : Lv) :: r).length : Int) - 1 = (r.length : Int) := by simp only [List.length_cons]; omega
    rw [e2, List.length_cons]; exact b8
  · rw [lsOf_cons, List.length_cons]; exact l8
  · intro z hz
    rcases List.mem_cons.1 hz with e | e
    · subst e; simpa using o8
    · exact own_kp (h.ok z (hr z e)) k8 (fun g hg c => by rcases c with c | c | c; exact (h.far z (hr z e) g hg).1 c; exact (h.far z (hr z e) g hg).2.1 c; exact ap3 z e g c hg)
  · intro z hz
    rcases List.mem_cons.1 hz with e | e
    · subst e; exact ((h.kn y hy).kept hP (fun _ c => Or.inl c)).snoc hnx
    · exact (h.kn z (hr z e)).kept hP (fun _ c => Or.inl c)
  · refine List.pairwise_cons.2 ⟨fun z hz g hg c => ?_, ap4⟩
    rcases a8 with a | ⟨g2, a, a2⟩
    · exact ap3 z hz g (a ▸ hg) c
    · have e : g2 = g := by simp only at hg; rw [a] at hg; injection hg
      have := (own_lt (h.ok z (hr z hz)) c).2
      omega
  · intro z hz g hg
    rcases List.mem_cons.1 hz with e | e
    · subst e
      rcases a8 with a | ⟨g2, a, a2⟩
      · have hg2 : y.v.ownBlock = some g := a ▸ hg
        exact ⟨(hfy g hg2).1, (hfy g hg2).2.1, fun c => by rcases c with c | c; exact (hfy g hg2).2.2 c; exact ap1 y List.mem_cons_self g c hg2⟩
      · have e : g2 = g := by simp only at hg; rw [a] at hg; injection hg
        subst e
        exact ⟨by omega, by omega, fun c => by rcases c with c | c; (have := (h.pf _ c).2.2; omega); (have := (own_lt hox c).2; omega)⟩
    · exact ⟨(h.far z (hr z e) g hg).1, (h.far z (hr z e) g hg).2.1, fun c => by rcases c with c | c; exact (h.far z (hr z e) g hg).2.2 c; exact ap1 z (List.mem_cons_of_mem _ e) g c hg⟩
  · intro g hg
    rcases hg with c | c
    · exact ⟨(h.pf g c).1, (h.pf g c).2.1, Nat.lt_of_lt_of_le (h.pf g c).2.2 k8.size⟩
    · exact ⟨(hfx g c).1, (hfx g c).2.1, Nat.lt_of_lt_of_le (own_lt hox c).2 k8.size⟩
  · have := h.few; simp only [List.length_cons] at this ⊢; omega

end Go.Proofs.YtibeiggedmabkaaDoor
