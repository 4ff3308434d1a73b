/-
  What was told so far, in a list of its own, beside a reader.
-/
import Derived.Test.YtibeiggedmabkaaDoorSXP
namespace Go.Proofs.YtibeiggedmabkaaDoor
open Go.RowKit
set_option linter.unusedVariables false
set_option linter.unusedSimpArgs false
/-- a reader, and a list of all that it has told -/
def Got (w : World) (base b sc B0 : Nat) (rs : RS) (v : Value) (N : List Nd) : Prop :=
  ∃ X P K Q, RdI w base b sc X P rs ∧ Told w B0 Q v N K ∧ (∀ g, v.ownBlock = some g → ¬ X g ∧ ¬ P g) ∧ (∀ g, Q g → ¬ X g ∧ TyN w g)
theorem Got.later {w w' : World} {base b sc B0 : Nat} {rs : RS} {v : Value} {N : List Nd} (h : Got w base b sc B0 rs v N) (hb : Below w.heap.size w w') : Got w' base b sc B0 rs v N := by
  obtain ⟨X, P, K, Q, h1, h2, h3, h4⟩ := h
  exact ⟨X, P, K, Q, h1.later hb, ⟨own_kp h2.own (Kp.of (X := fun _ => False) hb) (fun _ _ c => c), h2.kn.kept (fun g _ hl => hb.block g hl) (fun _ c => c), h2.off⟩, h3, fun g hg => ⟨(h4 g hg).1, (h4 g hg).2.of (hb.block g (h4 g hg).2.lt)⟩⟩
theorem Got.sl {w : World} {base b sc B0 : Nat} {rs : RS} {v : Value} {N : List Nd} (h : Got w base b sc B0 rs v N) : ∃ a c, v = .slice a N.length c := by
  obtain ⟨X, P, K, Q, h1, h2, h3, h4⟩ := h
  rw [← h2.kn.1]
  exact own_sl h2.own
theorem Got.nd {w : World} {base b sc B0 : Nat} {rs : RS} {v : Value} {N : List Nd} (h : Got w base b sc B0 rs v N) (hl : N.length ≤ 1099511627776) : ∃ P, NdIn w P v N := by
  obtain ⟨X, P, K, Q, h1, h2, h3, h4⟩ := h
  exact ⟨_, ndin_of (Q := fun g => Q g ∨ v.ownBlock = some g) h2.own h2.kn (fun g c => Or.inl c) (fun g c => Or.inr c) (by rw [h2.kn.1]; exact hl)⟩
theorem Told.sl {w : World} {base : Nat} {P : Nat → Prop} {v : Value} {N : List Nd} {K : List (Tok × Value)} (h : Told w base P v N K) : ∃ a c, v = .slice a N.length c := by
  rw [← h.kn.1]
  exact own_sl h.own
theorem ReadA.nd {w w0 : World} {v : Value} {N : List Nd} (h : ReadA w w0 v N) (hl : N.length ≤ 1099511627776) : ∃ P, NdIn w P v N := by
  obtain ⟨K, Q, h2, h4⟩ := h
  exact ⟨_, ndin_of (Q := fun g => Q g ∨ v.ownBlock = some g) h2.own h2.kn (fun g c => Or.inl c) (fun g c => Or.inr c) (by rw [h2.kn.1]; exact hl)⟩
/-- what is to be put behind it: the two rows, and what the append leaves -/
theorem got_fed {w w' : World} {base b sc B0 : Nat} {X P : Nat → Prop} {rs' : RS} {v v2 : Value} {N N2 : List Nd} {K : List (Tok × Value)} {Q : Nat → Prop}
    (h2 : Told w B0 Q v N K) (h3 : ∀ g, v.ownBlock = some g → ¬ X g ∧ ¬ P g) (h4 : ∀ g, Q g → ¬ X g ∧ TyN w g)
    (f : FedI w w' base b sc X P v2 N2 rs') (c : Chg w w' base X) :
    ∃ K2, w'.ownsRow B0 34 7 v K.length (nvCells K) ∧ w'.ownsRow base 34 7 v2 K2.length (nvCells K2) ∧ (∀ x ∈ K2, ∃ a n c, x.2 = Value.slice a n c) ∧ K.length = N.length ∧ K2.length = N2.length ∧
      ∀ v' w'', w''.ownsRow B0 34 7 v' (K ++ K2).length (nvCells (K ++ K2)) → w'.grownBy w'' v.ownBlock → (v'.ownBlock = v.ownBlock ∨ v'.ownBlock = some w'.heap.size) → Got w'' base b sc B0 rs' v' (N ++ N2) := by
  obtain ⟨K2, P', X', t2, x2, r2, m2, n2⟩ := f
  have t1 := h2.chg c (fun g hg => (h3 g hg).1) h4
  refine ⟨K2, t1.own, t2.own, t2.kn.sls, t1.kn.1, t2.kn.1, fun v' w'' o gr ht => ?_⟩
  have kg : Kp (fun k => v.ownBlock = some k) w' w'' := Kp.grown gr (fun k e => e)
  have hvl : ∀ g, v.ownBlock = some g → g < w.heap.size := fun g hg => (own_lt h2.own hg).2
  have nX : ∀ g, v.ownBlock = some g → ¬ X' g := fun g hg d => (h3 g hg).1 (m2 g d (hvl g hg))
  have nP : ∀ g, v.ownBlock = some g → ¬ P' g := fun g hg d => by
    rcases n2 g d (hvl g hg) with e | e
    · exact (h3 g hg).2 e
    · exact (h3 g hg).1 e
  have xb := r2.xb
  have nQ : ∀ g, Q g → v.ownBlock ≠ some g := fun g hg e => h2.off g e hg
  have q1 : ∀ g, Q g → ¬ X' g ∧ TyN w' g := fun g hg => ⟨fun d => (h4 g hg).1 (m2 g d (h4 g hg).2.lt), (h4 g hg).2.of (c.heap (h4 g hg).2 (h4 g hg).1)⟩
  have hne : ∀ g, v'.ownBlock = some g → v.ownBlock = some g ∨ w'.heap.size ≤ g := fun g hg => by
    rcases ht with e | e
    · exact Or.inl (e ▸ hg)
    · right; rw [e] at hg; injection hg with hg; omega
  refine ⟨X', P', K ++ K2, fun g => Q g ∨ P' g, r2.kp kg (fun i hi e => nX i e hi) (fun g hg e => nP g e hg) (fun i hi _ => own_frm t1.own hi), ⟨o, KN.app (t1.kn.kept (fun g hg hl => kg.block g hl (fun e => nQ g hg e)) (fun g d => Or.inl d)) (t2.kn.kept (fun g hg hl => kg.block g hl (fun e => nP g e hg)) (fun g d => Or.inr d)), fun g hg d => ?_⟩, fun g hg => ?_, fun g hg => ?_⟩
  · rcases hne g hg with e | e
    · rcases d with d | d
      · exact nQ g d e
      · exact nP g e d
    · rcases d with d | d
      · have := (q1 g d).2.lt; omega
      · have := (xb.2 g d).2.lt; omega
  · rcases hne g hg with e | e
    · exact ⟨nX g e, nP g e⟩
    · exact ⟨fun d => by have := (xb.1 g d).2; omega, fun d => by have := (xb.2 g d).2.lt; omega⟩
  · rcases hg with d | d
    · exact ⟨(q1 g d).1, (q1 g d).2.of (kg.block g (q1 g d).2.lt (fun e => nQ g d e))⟩
    · exact ⟨(xb.2 g d).1, (xb.2 g d).2.of (kg.block g (xb.2 g d).2.lt (fun e => nP g e d))⟩
end Go.Proofs.YtibeiggedmabkaaDoor
