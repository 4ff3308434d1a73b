import Derived.Test.YtejlnodillnoaaaGreatDoorWJ7
import Derived.Test.YtejlnodillnoaaaGreatDoorWIA
import Derived.Test.YtejlnodillnoaaaGreatDoorWQ2
import Derived.Test.YtejlnodillnoaaaGreatDoorRegS
import Derived.Test.YtejlnodillnoaaaGreatDoorNumN2
set_option linter.unusedSimpArgs false
namespace Go.Proofs.YtejlnodillnoaaaGreatDoor
open Go.RowKit Go.Shelf
set_option linter.unusedVariables false
attribute [local go_sem] Oper.semAt_some
structure NV where
  s : Bool
  a : Option Addr
  n : Nat
  c : Nat
  X : Nat
def NV.val (x : NV) : Int := sg x.s x.X
def NV.ok (x : NV) (W : World) : Prop := Seg W x.a x.X x.n ∧ x.n ≤ x.c ∧ x.n ≤ 35184372088000
theorem NV.ok.later {x : NV} {W W' : World} (h : x.ok W) (hb : Below W.heap.size W W') : x.ok W' := ⟨h.1.later hb, h.2⟩
theorem NV.ok.ch {x : NV} {c : Nat} {W W' : World} (h : x.ok W) (k : Ch c W W') (hno : ∀ o i, W.cell? ⟨c, o, none⟩ ≠ some (.int .u32 i)) : x.ok W' := ⟨h.1.ch k hno, h.2⟩
structure KpB (base : Nat) (W W' : World) : Prop where
  blk : ∀ c cur t, base ≤ c → Blk W c cur t → Blk W' c cur t
  seg : ∀ a X n, Seg W a X n → Seg W' a X n
  size : W.heap.size ≤ W'.heap.size
theorem KpB.trans {base : Nat} {A B C : World} (h : KpB base A B) (k : KpB base B C) : KpB base A C := ⟨fun c cur t hc hb => k.blk c cur t hc (h.blk c cur t hc hb), fun a X n hs => k.seg a X n (h.seg a X n hs), Nat.le_trans h.size k.size⟩
theorem KpB.ok {base : Nat} {W W' : World} {x : NV} (h : KpB base W W') (k : x.ok W) : x.ok W' := ⟨h.seg _ _ _ k.1, k.2⟩
theorem Blk.set2s {c : Nat} {W : World} {u0 u1 : Value} {t : TypeId} (h : Blk W c #[u0, u1] t) (v0 v1 : Value) :
    Ch c W ((W.setCell ⟨c, 0, none⟩ v0).setCell ⟨c, 1, none⟩ v1) ∧ Blk ((W.setCell ⟨c, 0, none⟩ v0).setCell ⟨c, 1, none⟩ v1) c #[v0, v1] t := by
  refine ⟨(Ch.set v0).trans (Ch.set v1), ?_⟩
  simp [Blk, World.setCell, Array.getElem?_modify, show W.heap[c]? = _ from h]
theorem lnp {Z : Int} {X n : Nat} (h : am Z ≤ X + 1) (hX : X < BB ^ n) : ln (am Z) ≤ n + 1 := by
  refine ln_le_of_lt ?_
  rw [Nat.pow_succ]
  have h2 : BB ^ n * 2 ≤ BB ^ n * BB := Nat.mul_le_mul_left _ (by rw [BB_eq]; omega)
  have := BBp n
  omega
theorem fr_rest {V : Nat} {Zg : Int} (hV : V ≠ 0) (h : sgn Zg = 0 ∨ sgn Zg = sgn (sg false V)) (hlt : am Zg < V) : 0 ≤ Zg ∧ Zg < (V : Int) := by
  have h1 : sgn (sg false V) = 1 := by simp [sg, sgn, hV]
  have h2 : ¬ Zg < 0 := fun hn => by
    have h3 : sgn Zg = -1 := by simp [sgn, hn]
    rw [h1, h3] at h
    omega
  unfold am at hlt
  omega
theorem fr_step {A Zf Zg : Int} {Y : Nat} (hY : Y ≠ 0) (e : Zf * (Y : Int) + Zg = A) (h0 : 0 ≤ Zg) (h1 : Zg < Y) : A / (Y : Int) = Zf ∧ A % (Y : Int) = Zg := by
  have hd : (Y : Int) ≠ 0 := by omega
  subst e
  constructor
  · rw [Int.add_comm, Int.add_mul_ediv_right _ _ hd, Int.ediv_eq_zero_of_lt h0 h1, Int.zero_add]
  · rw [Int.add_comm, Int.add_mul_emod_self_right, Int.emod_eq_of_lt h0 h1]
end Go.Proofs.YtejlnodillnoaaaGreatDoor
