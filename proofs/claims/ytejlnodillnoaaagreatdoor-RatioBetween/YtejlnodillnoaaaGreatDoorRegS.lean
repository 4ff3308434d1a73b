import Derived.Test.YtejlnodillnoaaaGreatDoorWBk
import Derived.Test.YtejlnodillnoaaaGreatDoorWI1
set_option linter.unusedSimpArgs false
namespace Go.Proofs.YtejlnodillnoaaaGreatDoor
open Go.RowKit
set_option linter.unusedVariables false
theorem nameH {P : Program} {md : Region.Mode} {ops : Array Oper} {Q : Exit → Act → World → Prop} {S : World → Prop} {n : Nat} {L : Array Bool} {a : Act} {w : World} (base : Nat) (hb : ∀ W W' : World, Below W.heap.size W W' → S W → S W') (hc : ∀ (W W' : World) c, base ≤ c → Ch c W W' → S W → S W')
    (h : ∀ (G : Nat → Array Bool → Act → World → Prop) (S' : World → Prop) (F : List (Nat × Value) → Act), (∀ n L a w, G n L a w ↔ wpAnyH P md ops Q S' n L a w) → (∀ W, S W → S' W) → (∀ W W' : World, Below W.heap.size W W' → S' W → S' W') → (∀ (W W' : World) c, base ≤ c → Ch c W W' → S' W → S' W') →
      (∀ l, F l = ⟨l.foldl (fun t p => t.setIfInBounds p.1 p.2) a.tmps, a.defers⟩) → G n L a w) : wpAnyH P md ops Q S n L a w := h _ S _ (fun _ _ _ _ => Iff.rfl) (fun _ h => h) hb hc (fun _ => rfl)
theorem Geq {G : Nat → Array Bool → Act → World → Prop} {n m : Nat} {L L' : Array Bool} {a a' : Act} {w : World} (hn : n = m) (hL : L = L') (ha : a = a') (h : G m L' a' w) : G n L a w := by subst hn hL ha; exact h
theorem cellsT {W W' : World} {c b o : Nat} {v : Value} (k : Ch c W W') (hne : b ≠ c) (h : W.cell? ⟨b, o, none⟩ = some v) : W'.cell? ⟨b, o, none⟩ = some v := (World.cell?_of_block (w := W) (a := ⟨b, o, none⟩) (k.other b hne)).trans h
theorem blw {w W W' : World} (h : Below w.heap.size w W) (k : Below W.heap.size W W') : Below w.heap.size w W' := h.trans (k.mono h.size)
def Vb (base : Nat) (zs : Array Value) (t : TypeId) (W : World) (c : Nat) : Prop := Blk W c zs t ∧ base ≤ c
theorem Vb.later {base : Nat} {zs : Array Value} {t : TypeId} {W W' : World} {c : Nat} (h : Vb base zs t W c) (hb : Below W.heap.size W W') : Vb base zs t W' c := ⟨h.1.later hb, h.2⟩
theorem Vb.new {base : Nat} {w W : World} (zs : Array Value) (t : TypeId) (h : Below base w W) (hb : base ≤ w.heap.size) : Vb base zs t (W.alloc (.cells zs t)) W.heap.size := ⟨Blk.new W zs t, Nat.le_trans hb h.size⟩
end Go.Proofs.YtejlnodillnoaaaGreatDoor
