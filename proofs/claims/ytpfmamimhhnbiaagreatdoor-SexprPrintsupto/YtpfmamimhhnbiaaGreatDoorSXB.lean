/-
  The deferred part of Feed.
-/
import Derived.Test.YtpfmamimhhnbiaaGreatDoorSX8
import Derived.Test.YtpfmamimhhnbiaaGreatDoorTSB
import Derived.Defers
import Derived.Recover
namespace Go.Proofs.YtpfmamimhhnbiaaGreatDoor
open Go.RowKit
set_option linter.unusedVariables false
set_option linter.unusedSimpArgs false
inductive RelB : List Lv → BS → Prop
  | one (x : Lv) : RelB [x] ⟨x.N, []⟩
  | more (x : Lv) (r : List Lv) (ns : List Nd) (os : List Opn) (o : Opn) (h : RelB r ⟨ns, os⟩) (hk : x.t.k = 0) (ht : x.t.t = ⟨#[]⟩) (hb : x.t.b = o.b) (hl : x.t.l = o.l) (hc : x.t.c = o.c) (hn : x.N = o.kids) : RelB (x :: r) ⟨ns, o :: os⟩
theorem RelB.len {lv : List Lv} {s : BS} (h : RelB lv s) : lv.length = s.opn.length + 1 := by
  induction h with
  | one x => rfl
  | more x r ns os o h hk ht hb hl hc hn ih => simp only [List.length_cons] at ih ⊢; omega
theorem RelB.push {x : Lv} {r : List Lv} {s : BS} (h : RelB (x :: r) s) (v : Value) (K : List (Tok × Value)) (n : Nd) : RelB (⟨x.t, v, K, x.N ++ [n]⟩ :: r) (s.push n) := by
  cases h with
  | one => exact .one ⟨x.t, v, K, x.N ++ [n]⟩
  | more _ _ ns os o h hk ht hb hl hc hn => exact .more _ _ _ _ _ h hk ht hb hl hc (by simp only [hn])
theorem RelB.opened {lv : List Lv} {s : BS} (h : RelB lv s) (T : Tok) : RelB (⟨opT T, .slice none 0 0, [], []⟩ :: lv) { s with opn := ⟨T.b, T.l, T.c, []⟩ :: s.opn } :=
  .more _ _ _ _ _ h rfl rfl rfl rfl rfl rfl
theorem RelB.shut {x y : Lv} {r : List Lv} {s : BS} {o : Opn} {os : List Opn} (h : RelB (x :: y :: r) s) (hs : s.opn = o :: os) (v : Value) (K : List (Tok × Value)) (e : Int) :
    RelB (⟨y.t, v, K, y.N ++ [.mk (shT x.t e) x.N]⟩ :: r) (({ s with opn := os } : BS).push (o.node e)) := by
  cases h with
  | more _ _ ns os' o' h hk ht hb hl hc hn =>
    simp only [List.cons.injEq] at hs
    obtain ⟨rfl, rfl⟩ := hs
    have e1 : (Nd.mk (shT x.t e) x.N) = o'.node e := by simp only [Opn.node, shT, hk, ht, hb, hl, hc, hn]
    rw [e1]
    exact h.push v K _
theorem RdAt.later {w w' : World} {base b : Nat} {p : Option Addr} {en : Bool} {er pl : Int} {gl c : Nat} {P : Nat → Prop} {lv : List Lv} (h : RdAt w base b p en er pl gl c P lv) (hb : Below w.heap.size w w') : RdAt w' base b p en er pl gl c P lv :=
  ⟨h.blk.later hb, own_kp h.own (Kp.of (X := fun _ => False) hb) (fun _ _ c => c), fun x hx => own_kp (h.ok x hx) (Kp.of (X := fun _ => False) hb) (fun _ _ c => c), fun x hx => (h.kn x hx).kept (fun g _ hg => hb.block g hg) (fun _ c => c), h.ap, h.far, fun g hg => ⟨(h.pf g hg).1, (h.pf g hg).2.1, Nat.lt_of_lt_of_le (h.pf g hg).2.2 hb.size⟩, h.gb, h.few, Nat.le_trans h.low hb.size, fun g hg => (h.ty g hg).of (hb.block g (h.pf g hg).2.2)⟩
/-- a reader that began as gl0, lv0, P0 in w0, and has come to s -/
def RdS (w0 : World) (base b : Nat) (p : Option Addr) (en : Bool) (er pl : Int) (gl0 : Nat) (lv0 : List Lv) (P0 : Nat → Prop) (B : Nat) (w : World) (s : BS) : Prop :=
  ∃ gl c P lv, RdAt w base b p en er pl gl c P lv ∧ RelB lv s ∧ Kp (RdX b gl0 lv0) w0 w ∧ (∀ k, RdX b gl lv k → k < w0.heap.size → RdX b gl0 lv0 k) ∧ (∀ g, P g → P0 g ∨ RdX b gl0 lv0 g ∨ w0.heap.size ≤ g) ∧ (∀ x ∈ lv, x.K.length ≤ B)
section
variable {w0 : World} {base b : Nat} {p : Option Addr} {en : Bool} {er pl : Int} {gl0 : Nat} {lv0 : List Lv} {P0 : Nat → Prop} {B : Nat} {w w' : World} {s : BS}
theorem RdS.later (h : RdS w0 base b p en er pl gl0 lv0 P0 B w s) (hb : Below w.heap.size w w') : RdS w0 base b p en er pl gl0 lv0 P0 B w' s := by
  obtain ⟨gl, c, P, lv, h1, h2, h3, h4, h5, h6⟩ := h
  exact ⟨gl, c, P, lv, h1.later hb, h2, h3.trans (Kp.of (X := RdX b gl0 lv0) hb) (fun _ _ c => c), h4, h5, h6⟩
theorem RdS.mono (h : RdS w0 base b p en er pl gl0 lv0 P0 B w s) {B2 : Nat} (hB : B ≤ B2) : RdS w0 base b p en er pl gl0 lv0 P0 B2 w s := by
  obtain ⟨gl, c, P, lv, h1, h2, h3, h4, h5, h6⟩ := h
  exact ⟨gl, c, P, lv, h1, h2, h3, h4, h5, fun x hx => Nat.le_trans (h6 x hx) hB⟩
/-- an answer that fits what stepB says -/
def StepE (w0 : World) (base b : Nat) (p : Option Addr) (en : Bool) (er pl : Int) (gl0 : Nat) (lv0 : List Lv) (P0 : Nat → Prop) (B : Nat) (x : BR) (r : Ending) (w' : World) : Prop :=
  match x with
  | .ok s2 => r = .returned (.tuple #[]) ∧ RdS w0 base b p en er pl gl0 lv0 P0 B w' s2
  | .bad s2 c q => r = .panicked (flt c q) ∧ RdS w0 base b p en er pl gl0 lv0 P0 B w' s2
theorem sput (h : RdS w0 base b p en er pl gl0 lv0 P0 B w s) (t : Tok) (hk1 : t.k ≠ 1) (hk2 : t.k ≠ 2) (hB : B ≤ 1000000000) : Calls Tryz.prog 54 #[.pointer (some ⟨b, 0, none⟩), .agg #[.int .i64 t.k, .string t.t, .int .i64 t.b, .int .i64 t.e, .int .i64 t.l, .int .i64 t.c, .slice none 0 0]] w fun r w' => StepE w0 base b p en er pl gl0 lv0 P0 (B + 1) (stepB s t) r w' := by
  obtain ⟨gl, c, P, lv, h1, h2, h3, h4, h5, h6⟩ := h
  have hlen := h2.len
  rw [stepB, if_neg hk1, if_neg hk2]
  rcases lv with _ | ⟨x, r⟩
  · simp at hlen
  have hs3 := h3.size
  have hx := List.mem_cons_self (a := x) (l := r)
  refine (rput h1 t none 0 0 [] (.nil none 0) (Nat.le_trans (h6 x hx) hB)).mono ?_
  rintro e w' ⟨v', rfl, a1, a2, a3⟩
  refine ⟨rfl, gl, c, P, _, a1, h2.push _ _ _, h3.trans a2 (fun k hk c => h4 k c hk), ?_, h5, ?_⟩
  · intro k hk hl
    rcases hk with e | e | ⟨z, hz, e⟩
    · exact Or.inl e
    · exact h4 k (Or.inr (Or.inl e)) hl
    · rcases List.mem_cons.1 hz with e2 | e2
      · subst e2
        rcases a3 with a | ⟨g, a, a4⟩
        · exact h4 k (Or.inr (Or.inr ⟨x, hx, a ▸ e⟩)) hl
        · have e3 : g = k := by simp only at e; rw [a] at e; injection e
          omega
      · exact h4 k (Or.inr (Or.inr ⟨z, List.mem_cons_of_mem _ e2, e⟩)) hl
  · intro z hz
    rcases List.mem_cons.1 hz with e2 | e2
    · subst e2; have := h6 x hx; simp; omega
    · have := h6 z (List.mem_cons_of_mem _ e2); omega

theorem sopen (h : RdS w0 base b p en er pl gl0 lv0 P0 B w s) (t : Tok) (hk1 : t.k = 1) (hB : B ≤ 1000000000) : Calls Tryz.prog 52 #[.pointer (some ⟨b, 0, none⟩), .agg #[.int .i64 t.k, .string t.t, .int .i64 t.b, .int .i64 t.e, .int .i64 t.l, .int .i64 t.c]] w fun r w' => StepE w0 base b p en er pl gl0 lv0 P0 (B + 1) (stepB s t) r w' := by
  obtain ⟨gl, c, P, lv, h1, h2, h3, h4, h5, h6⟩ := h
  have hlen := h2.len
  rw [stepB, if_pos hk1]
  rcases lv with _ | ⟨x, r⟩
  · simp at hlen
  have hs3 := h3.size
  simp only [List.length_cons] at hlen
  by_cases hd : s.opn.length = 1000
  · rw [if_pos hd]
    have hblk := h1.blk
    have ed : (((x :: r).length : Int) - 1) = 1000 := by simp only [List.length_cons]; omega
    rw [ed] at hblk
    refine (ropen_no b p _ en er pl t w hblk).mono ?_
    rintro e w' ⟨rfl, hb⟩
    exact ⟨rfl, RdS.mono (RdS.later ⟨gl, c, P, _, h1, h2, h3, h4, h5, h6⟩ hb) (by omega)⟩
  · rw [if_neg hd]
    have hf := h1.few
    simp only [List.length_cons] at hf
    refine (ropen h1 t (by omega)).mono ?_
    rintro e w' ⟨gl', c', rfl, a1, a2, a3⟩
    refine ⟨rfl, gl', c', P, _, a1, h2.opened t, h3.trans a2 (fun k hk c => h4 k c hk), ?_, h5, ?_⟩
    · intro k hk hl
      rcases hk with e | e | ⟨z, hz, e⟩
      · exact Or.inl e
      · rcases a3 with a | a
        · exact h4 k (Or.inr (Or.inl (e.trans a))) hl
        · omega
      · rcases List.mem_cons.1 hz with e2 | e2
        · subst e2; simp [Value.ownBlock] at e
        · exact h4 k (Or.inr (Or.inr ⟨z, e2, e⟩)) hl
    · intro z hz
      rcases List.mem_cons.1 hz with e2 | e2
      · subst e2; simp
      · have := h6 z e2; omega

theorem sshut (h : RdS w0 base b p en er pl gl0 lv0 P0 B w s) (t : Tok) (hk1 : t.k = 2) (hB : B ≤ 1000000000) : Calls Tryz.prog 53 #[.pointer (some ⟨b, 0, none⟩), .agg #[.int .i64 t.k, .string t.t, .int .i64 t.b, .int .i64 t.e, .int .i64 t.l, .int .i64 t.c]] w fun r w' => StepE w0 base b p en er pl gl0 lv0 P0 (B + 1) (stepB s t) r w' := by
  obtain ⟨gl, c, P, lv, h1, h2, h3, h4, h5, h6⟩ := h
  have hlen := h2.len
  rw [stepB, if_neg (by omega), if_pos hk1]
  have hs3 := h3.size
  rcases hs : s.opn with _ | ⟨o, os⟩
  · have hblk := h1.blk
    have ed : ((lv.length : Int) - 1) = 0 := by rw [hs] at hlen; simp at hlen; omega
    rw [ed] at hblk
    refine (rshut_no b p _ en er pl t w hblk).mono ?_
    rintro e w' ⟨rfl, hb⟩
    exact ⟨rfl, RdS.mono (RdS.later ⟨gl, c, P, _, h1, h2, h3, h4, h5, h6⟩ hb) (by omega)⟩
  · rcases lv with _ | ⟨x, _ | ⟨y, r⟩⟩
    · simp at hlen
    · rw [hs] at hlen; simp at hlen
    have hx := List.mem_cons_self (a := x) (l := y :: r)
    have hy : y ∈ x :: y :: r := List.mem_cons_of_mem _ List.mem_cons_self
    refine (rshut h1 t (Nat.le_trans (h6 y hy) hB) (Nat.le_trans (h6 x hx) hB)).mono ?_
    rintro e w' ⟨v', rfl, a1, a2, a3⟩
    refine ⟨rfl, gl, c, _, _, a1, h2.shut hs _ _ _, h3.trans a2 (fun k hk c => h4 k c hk), ?_, ?_, ?_⟩
    · intro k hk hl
      rcases hk with e | e | ⟨z, hz, e⟩
      · exact Or.inl e
      · exact h4 k (Or.inr (Or.inl e)) hl
      · rcases List.mem_cons.1 hz with e2 | e2
        · subst e2
          rcases a3 with a | ⟨g, a, a4⟩
          · exact h4 k (Or.inr (Or.inr ⟨y, hy, a ▸ e⟩)) hl
          · have e3 : g = k := by simp only at e; rw [a] at e; injection e
            omega
        · exact h4 k (Or.inr (Or.inr ⟨z, List.mem_cons_of_mem _ (List.mem_cons_of_mem _ e2), e⟩)) hl
    · intro g hg
      rcases hg with e | e
      · exact h5 g e
      · by_cases hl : g < w0.heap.size
        · exact Or.inr (Or.inl (h4 g (Or.inr (Or.inr ⟨x, hx, e⟩)) hl))
        · exact Or.inr (Or.inr (by omega))
    · intro z hz
      rcases List.mem_cons.1 hz with e2 | e2
      · subst e2; have := h6 y hy; simp; omega
      · have := h6 z (List.mem_cons_of_mem _ (List.mem_cons_of_mem _ e2)); omega

end
end Go.Proofs.YtpfmamimhhnbiaaGreatDoor

namespace Go.Proofs.YtpfmamimhhnbiaaGreatDoor
open Go.RowKit
set_option linter.unusedVariables false
set_option linter.unusedSimpArgs false
theorem buildB_one (s : BS) (T : Tok) : buildB s [T] = stepB s T := by
  simp only [buildB]
  cases stepB s T <;> rfl
theorem buildB_ok {s s2 : BS} {a : List Tok} (h : buildB s a = .ok s2) (T : Tok) : buildB s (a ++ [T]) = stepB s2 T := by
  rw [buildB_app, h]
  exact buildB_one s2 T
theorem buildB_bad {s s2 : BS} {a : List Tok} {c q : Int} (h : buildB s a = .bad s2 c q) (b : List Tok) : buildB s (a ++ b) = .bad s2 c q := by
  rw [buildB_app, h]
theorem take_snoc {ts : List Tok} {k : Nat} (h : k < ts.length) : ts.take (k + 1) = ts.take k ++ [ts[k]] := by
  rw [List.take_add_one, List.getElem?_eq_getElem h]
  rfl
/-- what take answers -/
def TakeE (w0 : World) (base b : Nat) (p : Option Addr) (en : Bool) (er pl : Int) (gl0 : Nat) (lv0 : List Lv) (P0 : Nat → Prop) (B : Nat) (x : BR) (e apl : Int) (r : Ending) (w' : World) : Prop :=
  match x with
  | .ok s2 => r = (if e = 0 then .returned (.tuple #[]) else .panicked (flt e apl)) ∧ RdS w0 base b p en er pl gl0 lv0 P0 B w' s2
  | .bad s2 c q => r = .panicked (flt c q) ∧ RdS w0 base b p en er pl gl0 lv0 P0 B w' s2
theorem run_field2 (v0 v1 v2 v3 v4 v5 : Value) (w : World) : (Instr.field 23 (.agg #[v0, v1, v2, v3, v4, v5]) 2).run Tryz.prog w = .ok v2 w := by kernel_rfl
set_option maxHeartbeats 8000000 in
set_option maxRecDepth 100000 in
theorem rtake {w : World} {base b : Nat} {p : Option Addr} {en : Bool} {er pl : Int} {gl0 c0 : Nat} {lv0 : List Lv} {P0 : Nat → Prop} {B : Nat} {s : BS} (h : RdAt w base b p en er pl gl0 c0 P0 lv0) (hr : RelB lv0 s) (h6 : ∀ x ∈ lv0, x.K.length ≤ B) (v : Value) (ts : List Tok) (base2 : Nat) (hv : w.ownsRow base2 23 6 v ts.length (tokCells ts)) (hvx : ∀ g, v.ownBlock = some g → ¬ RdX b gl0 lv0 g) (hB : B + ts.length ≤ 1000000000) (e apl : Int) (hat : e ≠ 0 → ∃ q : Addr, p = some q ∧ ∀ wr, Kp (RdX b gl0 lv0) w wr → Calls Tryz.prog 55 #[.pointer (some q)] wr fun r w' => ∃ c0 c1 c3 c4 c5, r = .returned (.agg #[c0, c1, .int .i64 apl, c3, c4, c5]) ∧ Below wr.heap.size wr w') :
    Calls Tryz.prog 37 #[.pointer (some ⟨b, 0, none⟩), v, .int .i64 e] w fun r w' => TakeE w base b p en er pl gl0 lv0 P0 (B + ts.length) (buildB s ts) e apl r w' := by
  obtain ⟨a0, cv, ev⟩ := own_sl hv
  subst ev
  have HI : RdS w base b p en er pl gl0 lv0 P0 B w s := ⟨gl0, c0, P0, lv0, h, hr, Kp.refl _ _, fun k hk _ => hk, fun g hg => Or.inl hg, h6⟩
  have HV := hideT hv
  have HVX := hideT hvx
  have HAT := hideT hat
  clear hv hvx hat h hr h6
  have H0 := hideT HI
  clear HI
  go_enter Tryz.func37, Tryz.ntmps37
  go_wp2_with fail
  go_loopw [10] (fun i wr => ∃ (k : Nat) (sk : BS), k ≤ ts.length ∧ i = .int .i64 k ∧ buildB s (ts.take k) = .ok sk ∧ RdS w base b p en er pl gl0 lv0 P0 (B + k) wr sk) (fun i wr => ts.length - (intOf i).toNat)
  case atStart => exact ⟨0, s, Nat.zero_le _, rfl, rfl, H0.out⟩
  case round =>
    clear H0
    obtain ⟨k, sk, hk, rfl, hbk, hs⟩ := hrel
    have HBK := hideT hbk
    clear hbk
    by_cases hlt : k < ts.length
    · have hki : ((k : Int) < (ts.length : Int)) := by omega
      have hvr : wr.ownsRow base2 23 6 (.slice a0 ts.length cv) ts.length (tokCells ts) := by obtain ⟨_, _, _, _, _, _, kk, _⟩ := hs; exact own_kp HV.out kk (fun g hg c => HVX.out g hg c)
      rcases hvr.2 with ⟨_, h0⟩ | ⟨g1, p1, r1, hv1, _⟩
      · omega
      injection hv1 with hv1 _ hc1
      subst hv1
      obtain ⟨t, ht⟩ : ∃ t, ts[k] = t := ⟨_, rfl⟩
      have z0 := own_tok hvr k 0 hlt (by decide)
      have z1 := own_tok hvr k 1 hlt (by decide)
      have z2 := own_tok hvr k 2 hlt (by decide)
      have z3 := own_tok hvr k 3 hlt (by decide)
      have z4 := own_tok hvr k 4 hlt (by decide)
      have z5 := own_tok hvr k 5 hlt (by decide)
      rw [ht] at z0 z1 z2 z3 z4 z5
      simp only [Tok.cells, List.getElem?_toArray, List.getElem?_cons_zero, List.getElem?_cons_succ] at z0 z1 z2 z3 z4 z5
      rw [Nat.add_zero] at z0
      have HT := hideT ht
      have HK := hideT hlt
      clear ht hvr hc1
      have bA := below_alloc (w := wr) (.cells #[.int .i64 t.k, .string t.t, .int .i64 t.b, .int .i64 t.e, .int .i64 t.l, .int .i64 t.c] 23)
      have qA := Blk.new wr #[.int .i64 t.k, .string t.t, .int .i64 t.b, .int .i64 t.e, .int .i64 t.l, .int .i64 t.c] 23
      have hs2 := hs.later bA
      have HS := hideT hs2
      clear hs bA hs2
      go_upto_region 3 with fail
      generalize wr.alloc (.cells #[.int .i64 t.k, .string t.t, .int .i64 t.b, .int .i64 t.e, .int .i64 t.l, .int .i64 t.c] 23) = W at qA HS ⊢
      clear z0 z1 z2 z3 z4 z5
      have x0 := qA.cell 0
      have x1 := qA.cell 1
      have x2 := qA.cell 2
      have x3 := qA.cell 3
      have x4 := qA.cell 4
      have x5 := qA.cell 5
      simp only [Tok.cells, List.getElem?_toArray, List.getElem?_cons_zero, List.getElem?_cons_succ] at x0 x1 x2 x3 x4 x5
      by_cases hk1 : t.k = 1
      · have xk : ((t.k : Int) == 1) = true := by rw [beq_iff_eq]; omega
        have HK1 := hideT hk1
        clear hk1
        have G := hideT (sopen HS.out t HK1.out (by omega))
        go_wp2_with fail
        refine G.out.mono ?_
        rintro r w2 hr
        clear G
        rcases hst : stepB sk t with s2 | ⟨s2, cc, qq⟩
        · rw [hst] at hr
          obtain ⟨rfl, hr2⟩ := hr
          have HR := hideT hr2
          have HST := hideT hst
          clear hr2 hst
          go_wp2
          go_roundw
          case rel => exact ⟨k + 1, s2, HK.out, by go_num, by rw [take_snoc HK.out, HT.out, buildB_ok HBK.out t]; exact HST.out, HR.out⟩
          case measure => simp [intOf]; have := HK.out; omega
        · rw [hst] at hr
          obtain ⟨rfl, hr2⟩ := hr
          have HR := hideT hr2
          have HST := hideT hst
          clear hr2 hst
          go_wp2
          have hb2 : buildB s ts = .bad s2 cc qq := by have e := buildB_ok HBK.out t; rw [HST.out, ← HT.out, ← take_snoc HK.out] at e; have := buildB_bad e (ts.drop (k + 1)); rwa [List.take_append_drop] at this
          refine ⟨rfl, ?_⟩
          rw [hb2]
          exact ⟨rfl, HR.out.mono (by have := HK.out; omega)⟩
      · have xk : ((t.k : Int) == 1) = false := by rw [beq_eq_false_iff_ne]; omega
        by_cases hk2 : t.k = 2
        · have xk2 : ((t.k : Int) == 2) = true := by rw [beq_iff_eq]; omega
          have HK1 := hideT hk2
          clear hk1 hk2
          have G := hideT (sshut HS.out t HK1.out (by omega))
          go_wp2_with fail
          refine G.out.mono ?_
          rintro r w2 hr
          clear G
          rcases hst : stepB sk t with s2 | ⟨s2, cc, qq⟩
          · rw [hst] at hr
            obtain ⟨rfl, hr2⟩ := hr
            have HR := hideT hr2
            have HST := hideT hst
            clear hr2 hst
            go_wp2
            go_roundw
            case rel => exact ⟨k + 1, s2, HK.out, by go_num, by rw [take_snoc HK.out, HT.out, buildB_ok HBK.out t]; exact HST.out, HR.out⟩
            case measure => simp [intOf]; have := HK.out; omega
          · rw [hst] at hr
            obtain ⟨rfl, hr2⟩ := hr
            have HR := hideT hr2
            have HST := hideT hst
            clear hr2 hst
            go_wp2
            have hb2 : buildB s ts = .bad s2 cc qq := by have e := buildB_ok HBK.out t; rw [HST.out, ← HT.out, ← take_snoc HK.out] at e; have := buildB_bad e (ts.drop (k + 1)); rwa [List.take_append_drop] at this
            refine ⟨rfl, ?_⟩
            rw [hb2]
            exact ⟨rfl, HR.out.mono (by have := HK.out; omega)⟩
        · have xk2 : ((t.k : Int) == 2) = false := by rw [beq_eq_false_iff_ne]; omega
          have HK1 := hideT hk1
          have HK2 := hideT hk2
          clear hk1 hk2
          have G := hideT (sput HS.out t HK1.out HK2.out (by omega))
          go_wp2_with fail
          refine G.out.mono ?_
          rintro r w2 hr
          clear G
          rcases hst : stepB sk t with s2 | ⟨s2, cc, qq⟩
          · rw [hst] at hr
            obtain ⟨rfl, hr2⟩ := hr
            have HR := hideT hr2
            have HST := hideT hst
            clear hr2 hst
            go_wp2
            go_roundw
            case rel => exact ⟨k + 1, s2, HK.out, by go_num, by rw [take_snoc HK.out, HT.out, buildB_ok HBK.out t]; exact HST.out, HR.out⟩
            case measure => simp [intOf]; have := HK.out; omega
          · rw [hst] at hr
            obtain ⟨rfl, hr2⟩ := hr
            have HR := hideT hr2
            have HST := hideT hst
            clear hr2 hst
            go_wp2
            have hb2 : buildB s ts = .bad s2 cc qq := by have e := buildB_ok HBK.out t; rw [HST.out, ← HT.out, ← take_snoc HK.out] at e; have := buildB_bad e (ts.drop (k + 1)); rwa [List.take_append_drop] at this
            refine ⟨rfl, ?_⟩
            rw [hb2]
            exact ⟨rfl, HR.out.mono (by have := HK.out; omega)⟩
    · have hki : ¬ ((k : Int) < (ts.length : Int)) := by omega
      have ek : k = ts.length := by omega
      subst ek
      have hbk := HBK.out
      rw [List.take_length] at hbk
      have HB2 := hideT hbk
      clear HBK hbk
      by_cases he : e = 0
      · have xe : (e == 0) = true := by rw [beq_iff_eq]; exact he
        have HS := hideT hs
        have HE := hideT he
        clear hs
        subst he
        go_wp2
        first | go_end0 | skip
        rw [HB2.out]
        exact ⟨by rw [if_pos rfl], HS.out⟩
      · have xe : (e == 0) = false := by rw [beq_eq_false_iff_ne]; exact he
        obtain ⟨q, ep, hq⟩ := HAT.out he
        subst ep
        have y0 : wr.cell? ⟨b, 0, none⟩ = some (.pointer (some q)) := by obtain ⟨_, _, _, _, hh, _⟩ := hs; have y := hh.blk.cell 0; simpa [rdC] using y
        have G := hideT (hq wr (by obtain ⟨_, _, _, _, _, _, kk, _⟩ := hs; exact kk))
        have HS := hideT hs
        have HE := hideT he
        clear hs hq he
        go_wp2_with fail
        refine G.out.mono ?_
        rintro r w2 ⟨d0, d1, d3, d4, d5, rfl, hb⟩
        have HS2 := hideT (HS.out.later hb)
        clear hb
        have hfd := run_field2 d0 d1 (.int .i64 apl) d3 d4 d5
        go_wp2
        refine ⟨rfl, ?_⟩
        rw [HB2.out]
        exact ⟨by rw [if_neg HE.out]; rfl, HS2.out⟩

end Go.Proofs.YtpfmamimhhnbiaaGreatDoor

namespace Go.Proofs.YtpfmamimhhnbiaaGreatDoor
open Go.RowKit
set_option linter.unusedVariables false
set_option linter.unusedSimpArgs false
theorem wp_tmps {P : Program} {c : Code} {Q : Exit → Act → World → Prop} {T T' : Array Value} {w : World} (h : T = T') (hw : Code.wp P c Q { tmps := T', defers := [] } w) : Code.wp P c Q { tmps := T, defers := [] } w := by
  subst h
  exact hw
set_option maxHeartbeats 8000000 in
set_option maxRecDepth 100000 in
theorem feed_catch (y0 y1 y2 : TypeId) (c0 c1 c2 b gl n c : Nat) (p : Option Addr) (d : Int) (en : Bool) (er pl : Int) (ka : Option Addr) (kn kc : Nat) (x1 x2 : Value) (e q : Int) (w : World) (h0 : Blk w c0 #[.pointer (some ⟨b, 0, none⟩)] y0) (h1 : Blk w c1 #[x1] y1) (h2 : Blk w c2 #[x2] y2) (h : Blk w b (rdC p (.slice (some ⟨gl, 0, none⟩) n c) d en er pl) 65) (hn : 0 < n) (hk : w.cell? ⟨gl, 6, none⟩ = some (.slice ka kn kc)) (hf : w.frozen? ⟨gl, 6, none⟩ = false) (n0b : c0 ≠ b) (n0g : c0 ≠ gl) (n01 : c0 ≠ c1) (n02 : c0 ≠ c2) (n12 : c1 ≠ c2) (n1b : c1 ≠ b) (n1g : c1 ≠ gl) (n2b : c2 ≠ b) (n2g : c2 ≠ gl) (ngb : gl ≠ b) (he : e ≠ 0) : CallsD Tryz.prog 34 #[.pointer (some ⟨c0, 0, none⟩), .pointer (some ⟨c1, 0, none⟩), .pointer (some ⟨c2, 0, none⟩)] (.panicking (flt e q)) w fun r u' w' => r = .returned (.tuple #[]) ∧ u' = .panicking [{ v := .iface 35 (.agg #[.int .i64 e, .int .i64 q]), recovered := true }] ∧ Blk w' c1 #[.slice ka kn kc] y1 ∧ Blk w' c2 #[.int .i64 e] y2 ∧ Blk w' b (rdC none (.slice none 0 0) d true e q) 65 ∧ Kp (fun k => k = b ∨ k = gl ∨ k = c1 ∨ k = c2) w w' := by
  unfold flt
  refine callsD_of_wpS Tryz.func34 rfl fun c₀ cs hu => ?_
  apply wpS_seq
  apply wpS_region
  simp [wpOpsS, go_sem, recoverD, hu, Tryz.ntmps34, Exit.thenS]
  refine (caught_some e q w).mono ?_
  rintro r w1 ⟨rfl, b1⟩
  simp [wpOpsS, go_sem]
  refine wpS_of_wp ?_
  refine wp_tmps (T' := #[.pointer (some ⟨c0, 0, none⟩), .pointer (some ⟨c1, 0, none⟩), .pointer (some ⟨c2, 0, none⟩), .pointer (some ⟨w1.heap.size, 0, none⟩), .iface 35 (.agg #[.int .i64 e, .int .i64 q]), .agg #[.int .i64 e, .int .i64 q], undef, undef, undef, undef, undef, undef, undef, undef, undef]) (by rfl) ?_
  have bA := below_alloc (w := w1) (.cells #[.int .i64 e, .int .i64 q] 35)
  have qF := Blk.new w1 #[.int .i64 e, .int .i64 q] 35
  have bT := b1.trans (bA.mono b1.size)
  have hgl := World.block_lt_of_cell? w _ hk
  have hf1 : w.heap.size ≤ w1.heap.size := b1.size
  have l0 := h0.lt
  have l1 := h1.lt
  have l2 := h2.lt
  have lb := h.lt
  replace h0 := h0.later bT
  replace h1 := h1.later bT
  replace h2 := h2.later bT
  replace h := h.later bT
  replace hk := below_cell bT hk
  replace hf := (World.frozen?_of_block (w := w) (a := ⟨gl, 6, none⟩) (bT.block gl hgl)).trans hf
  have kz : Kp (fun k => k = b ∨ k = gl ∨ k = c1 ∨ k = c2) w (w1.alloc (.cells #[.int .i64 e, .int .i64 q] 35)) := Kp.of bT
  have hgg := bT.block gl hgl
  clear bT bA b1
  generalize w1.alloc (.cells #[.int .i64 e, .int .i64 q] 35) = W at qF h0 h1 h2 h hk hf kz hgg ⊢
  generalize w1.heap.size = f at qF hf1 ⊢
  have HG := hideT hgg
  clear hgg
  go_wp2_with fail
  have u0 := h0.cell 0
  have z0 := qF.cell 0
  simp only [rdC, List.getElem?_toArray, List.getElem?_cons_zero, List.getElem?_cons_succ] at u0 z0
  have bD : Below W.heap.size W W.drew := (Below.refl _ _).drew
  have ku0 := below_cell bD u0
  have kz0 := below_cell bD z0
  replace hf := (World.frozen?_of_block (w := _) (a := ⟨gl, 6, none⟩) (bD.block gl (World.block_lt_of_cell? _ _ hk))).trans hf
  replace HG := hideT ((bD.block gl (World.block_lt_of_cell? _ _ hk)).trans HG.out)
  replace h0 := h0.later bD
  replace h1 := h1.later bD
  replace h2 := h2.later bD
  replace h := h.later bD
  replace qF := qF.later bD
  replace hk := below_cell bD hk
  replace kz := kz.trans (Kp.of (X := (fun k => k = b ∨ k = gl ∨ k = c1 ∨ k = c2)) bD) (fun _ _ c => c)
  refine wp_region_held_drew (S := fun w' => w'.cell? ⟨c0, 0, none⟩ = some (.pointer (some ⟨b, 0, none⟩)) ∧ w'.cell? ⟨f, 0, none⟩ = some (.int .i64 e)) (by kernel_rfl) ⟨ku0, kz0⟩ (fun hHeld => ?_)
  clear ku0 kz0
  generalize W.drew = w0 at bD hk hf kz HG h0 h1 h2 h qF hHeld ⊢
  clear bD
  clear u0 z0
  refine take' 0 (v := ?_) rfl (by kernel_rfl) (by kernel_rfl) (by kernel_rfl) (fun _ _ _ h => h) (Or.inl ⟨by rfl, ?_⟩) (by assumption) ?_
  rotate_left
  · intro w9 hSw
    go_simp
    first | done | with_reducible rfl
  simp only [Act.put, List.setIfInBounds_toArray, List.set_cons_zero, List.set_cons_succ]
  refine take' 2 (v := ?_) rfl (by kernel_rfl) (by kernel_rfl) (by kernel_rfl) (fun _ _ _ h => h) (Or.inl ⟨by rfl, ?_⟩) (by assumption) ?_
  rotate_left
  · intro w9 hSw
    go_simp
    first | done | with_reducible rfl
  simp only [Act.put, List.setIfInBounds_toArray, List.set_cons_zero, List.set_cons_succ]
  refine take' 3 (v := ?_) rfl (by kernel_rfl) (by kernel_rfl) (by kernel_rfl) (fun _ _ _ h => h) (Or.inl ⟨by rfl, ?_⟩) (by assumption) ?_
  rotate_left
  · intro w9 hSw
    go_simp
    first | done | with_reducible rfl
  simp only [Act.put, List.setIfInBounds_toArray, List.set_cons_zero, List.set_cons_succ]
  refine wpAnyH_ready (rs := [1]) (by kernel_rfl) (by simp) ?_
  refine cons' rfl (fun KK hKK => ?_)
  go_simp
  refine (rtell_is b p gl n c d en er pl (.slice ka kn kc) w0 h hn hk hf).mono ?_
  rintro r2 w2 ⟨rfl, rfl⟩
  have ks := Ch.set (c := gl) (o := 6) (W := w0) (.slice none 0 0)
  have hH2 := (⟨ks.cell n0g hHeld.1, ks.cell (by omega) hHeld.2⟩ : _ ∧ _)
  replace h0 := h0.ch ks n0g
  replace h1 := h1.ch ks n1g
  replace h2 := h2.ch ks n2g
  replace h := h.ch ks (Ne.symm ngb)
  replace qF := qF.ch ks (by omega)
  replace kz := kz.trans (Kp.ch (X := fun i => i = gl) ks rfl) (fun i hi e => Or.inr (Or.inl e))
  replace HG := hideT (heap_set_congr (o := 6) HG.out (.slice none 0 0))
  clear ks hk hf
  generalize w0.setCell ⟨gl, 6, none⟩ (.slice none 0 0) = w3 at hH2 h0 h1 h2 h qF kz HG ⊢
  go_wp2_with fail
  refine hKK.out _ _ hH2 ?_
  clear hHeld
  intro hHeld
  clear hKK KK
  try simp only [Act.put, List.setIfInBounds_toArray, List.set_cons_zero, List.set_cons_succ]
  clear hH2
  refine wpAnyH_ready (rs := [4]) (by kernel_rfl) (by simp) ?_
  refine cons' rfl (fun KK hKK => ?_)
  have fz := fun o => h1.frozen o
  have u1 := h1.cell 0
  simp only [rdC, List.getElem?_toArray, List.getElem?_cons_zero, List.getElem?_cons_succ] at u1
  go_simp
  clear fz u1
  obtain ⟨ks, q8⟩ := h1.set (o := 0) (.slice ka kn kc)
  have h1b : Blk (w3.setCell ⟨c1, 0, none⟩ (.slice ka kn kc)) c1 #[.slice ka kn kc] y1 := by simpa using q8
  clear h1 q8
  have h1 := h1b
  clear h1b
  have hH2 := (⟨ks.cell n01 hHeld.1, ks.cell (by omega) hHeld.2⟩ : _ ∧ _)
  replace h0 := h0.ch ks n01
  replace h2 := h2.ch ks (Ne.symm n12)
  replace h := h.ch ks (Ne.symm n1b)
  replace qF := qF.ch ks (by omega)
  replace kz := kz.trans (Kp.ch (X := fun i => i = c1) ks rfl) (fun i hi e => Or.inr (Or.inr (Or.inl e)))
  replace HG := hideT ((ks.other gl (Ne.symm n1g)).trans HG.out)
  clear ks
  generalize w3.setCell ⟨c1, 0, none⟩ (.slice ka kn kc) = w4 at hH2 h0 h1 h2 h qF kz HG ⊢
  refine hKK.out _ _ hH2 ?_
  clear hHeld
  intro hHeld
  clear hKK KK
  try simp only [Act.put, List.setIfInBounds_toArray, List.set_cons_zero, List.set_cons_succ]
  clear hH2
  refine wpAnyH_ready (rs := [5]) (by kernel_rfl) (by simp) ?_
  refine cons' rfl (fun KK hKK => ?_)
  have fz := fun o => h2.frozen o
  have u1 := h2.cell 0
  simp only [rdC, List.getElem?_toArray, List.getElem?_cons_zero, List.getElem?_cons_succ] at u1
  go_simp
  clear fz u1
  obtain ⟨ks, q8⟩ := h2.set (o := 0) (.int .i64 e)
  have h2b : Blk (w4.setCell ⟨c2, 0, none⟩ (.int .i64 e)) c2 #[.int .i64 e] y2 := by simpa using q8
  clear h2 q8
  have h2 := h2b
  clear h2b
  have hH2 := (⟨ks.cell n02 hHeld.1, ks.cell (by omega) hHeld.2⟩ : _ ∧ _)
  replace h0 := h0.ch ks n02
  replace h1 := h1.ch ks n12
  replace h := h.ch ks (Ne.symm n2b)
  replace qF := qF.ch ks (by omega)
  replace kz := kz.trans (Kp.ch (X := fun i => i = c2) ks rfl) (fun i hi e => Or.inr (Or.inr (Or.inr e)))
  replace HG := hideT ((ks.other gl (Ne.symm n2g)).trans HG.out)
  clear ks
  generalize w4.setCell ⟨c2, 0, none⟩ (.int .i64 e) = w5 at hH2 h0 h1 h2 h qF kz HG ⊢
  refine hKK.out _ _ hH2 ?_
  clear hHeld
  intro hHeld
  clear hKK KK
  try simp only [Act.put, List.setIfInBounds_toArray, List.set_cons_zero, List.set_cons_succ]
  clear hH2
  refine wpAnyH_done (by kernel_rfl) ?_ _
  clear hHeld
  have t0 := h0.cell 0
  have t1 := qF.cell 0
  have t2 := qF.cell 1
  have t3 := h2.cell 0
  simp only [rdC, List.getElem?_toArray, List.getElem?_cons_zero, List.getElem?_cons_succ] at t0 t1 t2 t3
  have xe : (e == 0) = false := by rw [beq_eq_false_iff_ne]; exact he
  have HE := hideT he
  clear he
  go_wp2_with fail
  refine (rstop_is b p _ d en er pl e q w5 h).mono ?_
  rintro r2 w6 ⟨rfl, q6, hsz, hbb, o1, o2, o3⟩
  have k6 : Kp (fun k => k = b) w5 w6 := ⟨o1, o2, o3, hsz, hbb⟩
  go_wp2
  exact ⟨rfl, _, rfl, _, by simp [results, Tryz.results34, go_sem], rfl, rfl, k6.blk h1 n1b, k6.blk h2 n2b, q6, kz.trans k6 (fun i hi e => Or.inl e)⟩

set_option maxHeartbeats 8000000 in
set_option maxRecDepth 100000 in
theorem feed_idle (y0 y1 y2 : TypeId) (c0 c1 c2 b gl n c : Nat) (p : Option Addr) (d : Int) (en : Bool) (er pl : Int) (ka : Option Addr) (kn kc : Nat) (x1 x2 : Value) (e q : Int) (w : World) (h0 : Blk w c0 #[.pointer (some ⟨b, 0, none⟩)] y0) (h1 : Blk w c1 #[x1] y1) (h2 : Blk w c2 #[x2] y2) (h : Blk w b (rdC p (.slice (some ⟨gl, 0, none⟩) n c) d en er pl) 65) (hn : 0 < n) (hk : w.cell? ⟨gl, 6, none⟩ = some (.slice ka kn kc)) (hf : w.frozen? ⟨gl, 6, none⟩ = false) (n0b : c0 ≠ b) (n0g : c0 ≠ gl) (n01 : c0 ≠ c1) (n02 : c0 ≠ c2) (n12 : c1 ≠ c2) (n1b : c1 ≠ b) (n1g : c1 ≠ gl) (n2b : c2 ≠ b) (n2g : c2 ≠ gl) (ngb : gl ≠ b) : CallsD Tryz.prog 34 #[.pointer (some ⟨c0, 0, none⟩), .pointer (some ⟨c1, 0, none⟩), .pointer (some ⟨c2, 0, none⟩)] (.returning) w fun r u' w' => r = .returned (.tuple #[]) ∧ u' = .returning ∧ Blk w' c1 #[.slice ka kn kc] y1 ∧ Blk w' c2 #[.int .i64 0] y2 ∧ Blk w' b (rdC p (.slice (some ⟨gl, 0, none⟩) n c) d en er pl) 65 ∧ w'.heap[gl]? = (w.setCell ⟨gl, 6, none⟩ (.slice none 0 0)).heap[gl]? ∧ Kp (fun k => k = b ∨ k = gl ∨ k = c1 ∨ k = c2) w w' := by
  refine callsD_of_wpS Tryz.func34 rfl fun c₀ cs hu => ?_
  apply wpS_seq
  apply wpS_region
  simp [wpOpsS, go_sem, recoverD, hu, Tryz.ntmps34, Exit.thenS]
  refine (caught_nil w).mono ?_
  rintro r w1 ⟨rfl, b1⟩
  simp [wpOpsS, go_sem]
  refine wpS_of_wp ?_
  refine wp_tmps (T' := #[.pointer (some ⟨c0, 0, none⟩), .pointer (some ⟨c1, 0, none⟩), .pointer (some ⟨c2, 0, none⟩), .pointer (some ⟨w1.heap.size, 0, none⟩), .nilIface, .agg #[.int .i64 0, .int .i64 0], undef, undef, undef, undef, undef, undef, undef, undef, undef]) (by rfl) ?_
  have bA := below_alloc (w := w1) (.cells #[.int .i64 0, .int .i64 0] 35)
  have qF := Blk.new w1 #[.int .i64 0, .int .i64 0] 35
  have bT := b1.trans (bA.mono b1.size)
  have hgl := World.block_lt_of_cell? w _ hk
  have hf1 : w.heap.size ≤ w1.heap.size := b1.size
  have l0 := h0.lt
  have l1 := h1.lt
  have l2 := h2.lt
  have lb := h.lt
  replace h0 := h0.later bT
  replace h1 := h1.later bT
  replace h2 := h2.later bT
  replace h := h.later bT
  replace hk := below_cell bT hk
  replace hf := (World.frozen?_of_block (w := w) (a := ⟨gl, 6, none⟩) (bT.block gl hgl)).trans hf
  have kz : Kp (fun k => k = b ∨ k = gl ∨ k = c1 ∨ k = c2) w (w1.alloc (.cells #[.int .i64 0, .int .i64 0] 35)) := Kp.of bT
  have hgg := bT.block gl hgl
  clear bT bA b1
  generalize w1.alloc (.cells #[.int .i64 0, .int .i64 0] 35) = W at qF h0 h1 h2 h hk hf kz hgg ⊢
  generalize w1.heap.size = f at qF hf1 ⊢
  have HG := hideT hgg
  clear hgg
  go_wp2_with fail
  have u0 := h0.cell 0
  have z0 := qF.cell 0
  simp only [rdC, List.getElem?_toArray, List.getElem?_cons_zero, List.getElem?_cons_succ] at u0 z0
  have bD : Below W.heap.size W W.drew := (Below.refl _ _).drew
  have ku0 := below_cell bD u0
  have kz0 := below_cell bD z0
  replace hf := (World.frozen?_of_block (w := _) (a := ⟨gl, 6, none⟩) (bD.block gl (World.block_lt_of_cell? _ _ hk))).trans hf
  replace HG := hideT ((bD.block gl (World.block_lt_of_cell? _ _ hk)).trans HG.out)
  replace h0 := h0.later bD
  replace h1 := h1.later bD
  replace h2 := h2.later bD
  replace h := h.later bD
  replace qF := qF.later bD
  replace hk := below_cell bD hk
  replace kz := kz.trans (Kp.of (X := (fun k => k = b ∨ k = gl ∨ k = c1 ∨ k = c2)) bD) (fun _ _ c => c)
  refine wp_region_held_drew (S := fun w' => w'.cell? ⟨c0, 0, none⟩ = some (.pointer (some ⟨b, 0, none⟩)) ∧ w'.cell? ⟨f, 0, none⟩ = some (.int .i64 0)) (by kernel_rfl) ⟨ku0, kz0⟩ (fun hHeld => ?_)
  clear ku0 kz0
  generalize W.drew = w0 at bD hk hf kz HG h0 h1 h2 h qF hHeld ⊢
  clear bD
  clear u0 z0
  refine take' 0 (v := ?_) rfl (by kernel_rfl) (by kernel_rfl) (by kernel_rfl) (fun _ _ _ h => h) (Or.inl ⟨by rfl, ?_⟩) (by assumption) ?_
  rotate_left
  · intro w9 hSw
    go_simp
    first | done | with_reducible rfl
  simp only [Act.put, List.setIfInBounds_toArray, List.set_cons_zero, List.set_cons_succ]
  refine take' 2 (v := ?_) rfl (by kernel_rfl) (by kernel_rfl) (by kernel_rfl) (fun _ _ _ h => h) (Or.inl ⟨by rfl, ?_⟩) (by assumption) ?_
  rotate_left
  · intro w9 hSw
    go_simp
    first | done | with_reducible rfl
  simp only [Act.put, List.setIfInBounds_toArray, List.set_cons_zero, List.set_cons_succ]
  refine take' 3 (v := ?_) rfl (by kernel_rfl) (by kernel_rfl) (by kernel_rfl) (fun _ _ _ h => h) (Or.inl ⟨by rfl, ?_⟩) (by assumption) ?_
  rotate_left
  · intro w9 hSw
    go_simp
    first | done | with_reducible rfl
  simp only [Act.put, List.setIfInBounds_toArray, List.set_cons_zero, List.set_cons_succ]
  refine wpAnyH_ready (rs := [1]) (by kernel_rfl) (by simp) ?_
  refine cons' rfl (fun KK hKK => ?_)
  go_simp
  refine (rtell_is b p gl n c d en er pl (.slice ka kn kc) w0 h hn hk hf).mono ?_
  rintro r2 w2 ⟨rfl, rfl⟩
  have ks := Ch.set (c := gl) (o := 6) (W := w0) (.slice none 0 0)
  have hH2 := (⟨ks.cell n0g hHeld.1, ks.cell (by omega) hHeld.2⟩ : _ ∧ _)
  replace h0 := h0.ch ks n0g
  replace h1 := h1.ch ks n1g
  replace h2 := h2.ch ks n2g
  replace h := h.ch ks (Ne.symm ngb)
  replace qF := qF.ch ks (by omega)
  replace kz := kz.trans (Kp.ch (X := fun i => i = gl) ks rfl) (fun i hi e => Or.inr (Or.inl e))
  replace HG := hideT (heap_set_congr (o := 6) HG.out (.slice none 0 0))
  clear ks hk hf
  generalize w0.setCell ⟨gl, 6, none⟩ (.slice none 0 0) = w3 at hH2 h0 h1 h2 h qF kz HG ⊢
  go_wp2_with fail
  refine hKK.out _ _ hH2 ?_
  clear hHeld
  intro hHeld
  clear hKK KK
  try simp only [Act.put, List.setIfInBounds_toArray, List.set_cons_zero, List.set_cons_succ]
  clear hH2
  refine wpAnyH_ready (rs := [4]) (by kernel_rfl) (by simp) ?_
  refine cons' rfl (fun KK hKK => ?_)
  have fz := fun o => h1.frozen o
  have u1 := h1.cell 0
  simp only [rdC, List.getElem?_toArray, List.getElem?_cons_zero, List.getElem?_cons_succ] at u1
  go_simp
  clear fz u1
  obtain ⟨ks, q8⟩ := h1.set (o := 0) (.slice ka kn kc)
  have h1b : Blk (w3.setCell ⟨c1, 0, none⟩ (.slice ka kn kc)) c1 #[.slice ka kn kc] y1 := by simpa using q8
  clear h1 q8
  have h1 := h1b
  clear h1b
  have hH2 := (⟨ks.cell n01 hHeld.1, ks.cell (by omega) hHeld.2⟩ : _ ∧ _)
  replace h0 := h0.ch ks n01
  replace h2 := h2.ch ks (Ne.symm n12)
  replace h := h.ch ks (Ne.symm n1b)
  replace qF := qF.ch ks (by omega)
  replace kz := kz.trans (Kp.ch (X := fun i => i = c1) ks rfl) (fun i hi e => Or.inr (Or.inr (Or.inl e)))
  replace HG := hideT ((ks.other gl (Ne.symm n1g)).trans HG.out)
  clear ks
  generalize w3.setCell ⟨c1, 0, none⟩ (.slice ka kn kc) = w4 at hH2 h0 h1 h2 h qF kz HG ⊢
  refine hKK.out _ _ hH2 ?_
  clear hHeld
  intro hHeld
  clear hKK KK
  try simp only [Act.put, List.setIfInBounds_toArray, List.set_cons_zero, List.set_cons_succ]
  clear hH2
  refine wpAnyH_ready (rs := [5]) (by kernel_rfl) (by simp) ?_
  refine cons' rfl (fun KK hKK => ?_)
  have fz := fun o => h2.frozen o
  have u1 := h2.cell 0
  simp only [rdC, List.getElem?_toArray, List.getElem?_cons_zero, List.getElem?_cons_succ] at u1
  go_simp
  clear fz u1
  obtain ⟨ks, q8⟩ := h2.set (o := 0) (.int .i64 0)
  have h2b : Blk (w4.setCell ⟨c2, 0, none⟩ (.int .i64 0)) c2 #[.int .i64 0] y2 := by simpa using q8
  clear h2 q8
  have h2 := h2b
  clear h2b
  have hH2 := (⟨ks.cell n02 hHeld.1, ks.cell (by omega) hHeld.2⟩ : _ ∧ _)
  replace h0 := h0.ch ks n02
  replace h1 := h1.ch ks n12
  replace h := h.ch ks (Ne.symm n2b)
  replace qF := qF.ch ks (by omega)
  replace kz := kz.trans (Kp.ch (X := fun i => i = c2) ks rfl) (fun i hi e => Or.inr (Or.inr (Or.inr e)))
  replace HG := hideT ((ks.other gl (Ne.symm n2g)).trans HG.out)
  clear ks
  generalize w4.setCell ⟨c2, 0, none⟩ (.int .i64 0) = w5 at hH2 h0 h1 h2 h qF kz HG ⊢
  refine hKK.out _ _ hH2 ?_
  clear hHeld
  intro hHeld
  clear hKK KK
  try simp only [Act.put, List.setIfInBounds_toArray, List.set_cons_zero, List.set_cons_succ]
  clear hH2
  refine wpAnyH_done (by kernel_rfl) ?_ _
  clear hHeld
  have t0 := h0.cell 0
  have t1 := qF.cell 0
  have t2 := qF.cell 1
  have t3 := h2.cell 0
  simp only [rdC, List.getElem?_toArray, List.getElem?_cons_zero, List.getElem?_cons_succ] at t0 t1 t2 t3
  go_wp2
  refine ⟨rfl, .returning, by cases c₀; simp_all, _, by simp [results, Tryz.results34, go_sem], rfl, rfl, h1, h2, h, HG.out, kz⟩

end Go.Proofs.YtpfmamimhhnbiaaGreatDoor
