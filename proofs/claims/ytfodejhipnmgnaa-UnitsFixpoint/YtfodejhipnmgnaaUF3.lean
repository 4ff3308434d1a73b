/-
  units: settle.
-/
import Derived.Test.YtfodejhipnmgnaaUF2
namespace Go.Proofs.Ytfodejhipnmgnaa
open Go.RowKit
set_option linter.unusedVariables false
set_option linter.unusedSimpArgs false
theorem look_fo (u : US) (n : Nat) : (lookU u n).1.fo = u.fo := by
  unfold lookU
  simp only
  repeat' split
  all_goals first | rfl | exact (watch_lk _ _ _ _).fo
/-- a clause that is broken -/
def Brk (u : US) (n : Nat) : Prop := n < u.cl.length ∧ ∀ y ∈ (clU u n).lits, trv u y < 0
/-- what settle tells -/
def SeA (ow : Nat → Tg) (b : Nat) (u : US) (w : World) (e : Ending) (w' : World) : Prop :=
  ∃ (r : Int) (v : US) (ow' : Nat → Tg) (V' : SV), e = .returned (.int .i64 r) ∧ UM w' ow' b V' v ∧ Step ow ow' w w' ∧ Iv v ∧ Ex u v ∧ v.fo = u.fo ∧ ((r = -1 ∧ v.fr = []) ∨ ∃ n : Nat, r = n ∧ Brk v n)
theorem snoc_of {α : Type} {l : List α} {j : Nat} (h : l.length = j + 1) : ∃ f x, l = f ++ [x] ∧ f.length = j := by
  have hne : l ≠ [] := fun e => by rw [e] at h; cases h
  exact ⟨l.dropLast, l.getLast hne, (List.dropLast_concat_getLast hne).symm, by rw [List.length_dropLast]; omega⟩
set_option maxHeartbeats 8000000 in
set_option maxRecDepth 100000 in
theorem settle_is (ow : Nat → Tg) (b : Nat) (V : SV) (u : US) (hI : Iv u) (w : World) (h : UM w ow b V u) :
    Calls Try.prog 35 #[.pointer (some ⟨b, 0, none⟩)] w fun e w' => SeA ow b u w e w' := by
  have HM := hide' maxLen_is
  obtain ⟨TQ, hTQ⟩ : ∃ TQ, SeA ow b u w = TQ := ⟨_, rfl⟩
  change Calls _ _ _ _ (SeA ow b u w)
  rw [hTQ]
  replace hTQ := hide' hTQ
  have k5 := h.cells.2.2.2.2.2.2.2.1
  change w.cell? _ = some (.slice V.fr.at' u.fr.length V.fr.c) at k5
  have hfl := hI.fr_len
  have hC := hI.wo.cl
  have H0 := hide' (And.intro h hI)
  clear h hI
  go_enter Try.func35, Try.ntmps35
  go_wp2_with fail
  go_loopw [3] (fun vi wr => ∃ (k : Nat) (ow1 : Nat → Tg) (V1 : SV) (v : US), vi = .int .i64 ((k : Int) - 1) ∧ v.fr.length = k ∧ Iv v ∧ UM wr ow1 b V1 v ∧ Step ow ow1 w wr ∧ Ex u v ∧ v.fo = u.fo) (fun vi _ => (intOf vi + 1).toNat)
  case atStart => exact ⟨u.fr.length, ow, V, u, by go_num, rfl, H0.out.2, H0.out.1, Step.refl _ _, Ex.refl _, rfl⟩
  case round =>
    clear H0 k5 hfl hC
    obtain ⟨k, ow1, V1, v, rfl, hk, hI, hU, hS, hE, hfo⟩ := hrel
    by_cases hz : k = 0
    · subst hz
      have HX := hide' (show TQ (.returned (.int .i64 (-1))) wr from by rw [← hTQ.out]; exact ⟨-1, v, ow1, V1, rfl, hU, hS, hI, hE, hfo, Or.inl ⟨rfl, List.length_eq_zero_iff.1 hk⟩⟩)
      clear hU hS hI hE hfo hk
      rw [show ((0 : Nat) : Int) - 1 = -1 from rfl]
      go_wp2
      first | exact HX.out | (go_ret; exact HX.out)
    · obtain ⟨j, rfl⟩ : ∃ j, k = j + 1 := ⟨k - 1, by omega⟩
      rw [show ((j + 1 : Nat) : Int) - 1 = (j : Int) from by omega]
      obtain ⟨f, x, hf, hfj⟩ := snoc_of hk
      obtain ⟨n, rfl, hn⟩ := hI.fr x (by rw [hf]; simp)
      obtain ⟨g, hg⟩ := hU.rfr.got (by omega)
      have k5 := hU.cells.2.2.2.2.2.2.2.1
      rw [SlV.val_some hg, hk] at k5
      have kj := hU.rfr.cell hg (j := j) (by omega)
      rw [iv_at (z := (n : Int)) (by rw [hf]; simp [← hfj])] at kj
      have hjC := hI.fr_len
      have hC := hI.wo.cl
      obtain ⟨A1, A2, A3, A4⟩ := look_ok hI hf hn
      have GL := hide' (look_is ow1 b V1 v n hI (by rw [hf]; simp) hn wr hU)
      have hfo2 := (look_fo v n).trans hfo
      obtain ⟨X, hX⟩ : ∃ X, lookU v n = X := ⟨_, rfl⟩
      rw [hX] at A1 A2 A3 A4 GL hfo2
      clear hX
      have hn1 : n < X.1.cl.length := by rw [A1.cl]; exact hn
      have HXS := hide' (And.intro hS (And.intro (hE.trans A1) (And.intro hfo2 hn1)))
      have HL := hide' A1.lits
      have i0 : (0 : Int) ≤ (j : Int) := by omega
      have i1 : (j : Int) < ((j + 1 : Nat) : Int) := by omega
      clear hS hE hfo hfo2 A1 hU hg hn1 hn hI
      obtain ⟨X, ok⟩ := X
      cases ok
      · obtain ⟨B1, B2, B3⟩ := A4 rfl
        have HB := hide' (And.intro B1 B3)
        clear A2 A3 A4 B1 B2 B3
        go_wp2_with fail
        refine GL.out.mono ?_
        rintro e w1 ⟨rfl, ow2, V2, h2, S2, e2⟩
        have HX := hide' (show TQ (.returned (.int .i64 n)) w1 from by rw [← hTQ.out]; exact ⟨n, X, ow2, V2, rfl, h2, HXS.out.1.trans S2, HB.out.1, HXS.out.2.1, HXS.out.2.2.1, Or.inr ⟨n, rfl, HXS.out.2.2.2, fun y hy => HB.out.2 y (by rw [← HL.out]; exact hy)⟩⟩)
        clear h2 S2 e2 GL
        go_wp2
        first | exact HX.out | (go_ret; exact HX.out)
      · have B := A3 rfl
        have HB := hide' (And.intro B (show X.fr = f ++ [(n : Int)] from A2.trans hf))
        clear A2 A3 A4 B
        go_wp2_with fail
        refine GL.out.mono ?_
        rintro e w1 ⟨rfl, ow2, V2, h2, S2, e2⟩
        clear GL
        have hXl : X.fr.length = j + 1 := by rw [HB.out.2, List.length_append, hfj]; rfl
        obtain ⟨g2, hg2⟩ := h2.rfr.got (by omega)
        clear k5 kj
        have k5 := h2.cells.2.2.2.2.2.2.2.1
        rw [SlV.val_some hg2, hXl] at k5
        have fz := fun o => h2.cells.2.1.frozen o
        have P1 := h2.cut_fr (k := j) hg2 (by omega)
        have hcap : j ≤ V2.fr.c := by obtain ⟨_, _, h3, _⟩ := h2.rfr.raw hg2; omega
        have hcut := fun w => cutI (some ⟨g2, 0, none⟩) (j + 1) V2.fr.c j hcap w
        have HP := hide' (show UM _ ow2 b V2 { X with fr := f } ∧ Step ow ow2 w _ from ⟨by have e : X.fr.take j = f := (by rw [HB.out.2, ← hfj, List.take_left]); rw [← e]; exact P1.1, HXS.out.1.trans (S2.trans P1.2)⟩)
        clear P1 h2 S2 e2 hcap hg2
        have hwr : IntKind.i64.wrap (j : Int) = (j : Int) := by rw [IntKind.wrap_i64]; omega
        go_wp2_with fail
        go_roundw
        case rel => exact ⟨j, ow2, V2, { X with fr := f }, by go_num, hfj, HB.out.1, HP.out.1, HP.out.2, ⟨HXS.out.2.1.tr, HXS.out.2.1.cl, HXS.out.2.1.lits, HXS.out.2.1.le, HXS.out.2.1.pre, HXS.out.2.1.snd⟩, HXS.out.2.2.1⟩
        case measure => simp only [intOf]; omega
end Go.Proofs.Ytfodejhipnmgnaa
