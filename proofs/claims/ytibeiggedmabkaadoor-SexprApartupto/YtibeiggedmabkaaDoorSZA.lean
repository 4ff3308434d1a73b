/-
  SexprPlays: the walk.
-/
import Derived.Test.YtibeiggedmabkaaDoorSZ9
namespace Go.Proofs.YtibeiggedmabkaaDoor
open Go.RowKit
set_option linter.unusedVariables false
set_option linter.unusedSimpArgs false
def tots (g : Nat → ByteArray) : Nat → Nat
  | 0 => 0
  | k + 1 => tots g k + (g k).size
theorem tots_mono (g : Nat → ByteArray) {a b : Nat} (h : a ≤ b) : tots g a ≤ tots g b := by
  induction b with
  | zero => have : a = 0 := by omega
            rw [this]; exact Nat.le_refl _
  | succ b ih =>
    by_cases e : a = b + 1
    · rw [e]; exact Nat.le_refl _
    · have := ih (by omega)
      simp only [tots]
      omega
/-- a list of strings that came in -/
def StrsAt (w : World) (a : Option Addr) (n : Nat) (g : Nat → ByteArray) : Prop := 0 < n → ∃ b off, a = some ⟨b, off, none⟩ ∧ ∀ i, i < n → w.cell? ⟨b, off + i, none⟩ = some (.string (g i))
def depF : RS → Int
  | .go o _ => o.length
  | .over d _ _ => d
theorem RfR.dep {rs : RS} {tx : ByteArray} {told : Nat} {dep : Int} {ov : Bool} {co q : Int} (h : RfR rs tx told dep ov co q) : dep = depF rs := by
  cases rs with
  | go o p => obtain ⟨_, _, _, h, _⟩ := h; exact h
  | over d e q2 => exact h.1
theorem RdI.depth {w : World} {base b sc : Nat} {X P : Nat → Prop} {rs : RS} (h : RdI w base b sc X P rs) : ∃ p v en e q, Blk w b (rdC p v (depF rs) en e q) 63 := by
  cases rs with
  | go o p =>
    obtain ⟨gl, c, lv, S, bs, h1, h2, _⟩ := h
    have hl := h2.len
    have := h1.blk
    have e : ((lv.length : Int) - 1) = (o.length : Int) := by simp only at hl; omega
    rw [e] at this
    exact ⟨_, _, _, _, _, this⟩
  | over d e q => exact ⟨_, _, _, _, _, h.1⟩
theorem FedI.nd {w w' : World} {base b sc : Nat} {X P : Nat → Prop} {v : Value} {N : List Nd} {rs : RS} (h : FedI w w' base b sc X P v N rs) (hl : N.length ≤ 1099511627776) : ∃ Q, NdIn w' Q v N ∧ ∀ g, Q g → TyN w' g := by
  obtain ⟨K, P', X', t, _, r, _⟩ := h
  refine ⟨fun g => P' g ∨ v.ownBlock = some g, ndin_of (Q := fun g => P' g ∨ v.ownBlock = some g) t.own t.kn (fun g c => Or.inl c) (fun g c => Or.inr c) (by rw [t.kn.1]; exact hl), fun g hg => hg.elim (fun c => (r.xb.2 g c).2) (fun c => own_ty t.own c)⟩
theorem tyn_ne {w : World} {c : Nat} {cur : Array Value} {t : TypeId} (q : Blk w c cur t) (ht : t ≠ 34) : ¬ TyN w c := by
  rintro ⟨cu, h⟩
  rw [show w.heap[c]? = _ from q] at h
  injection h with h
  injection h with _ h2 _
  exact ht h2
theorem feedF_rdR {rs : RS} {S : List UInt8} {B : Nat} (hi : ∀ o p, rs = .go o p → Inv p ∧ p.rd ≤ B) : ∀ o p, (feedF rs S).2.2 = .go o p → p.rd ≤ B + S.length := by
  intro o2 p2 h
  cases rs with
  | over d e q => simp only [feedF] at h; cases h
  | go o p =>
    have := hi o p rfl
    rw [feedF_rd this.1 h]
    omega
theorem RdI.inv {w : World} {base b sc : Nat} {X P : Nat → Prop} {o : List Opn} {p : PS} (h : RdI w base b sc X P (.go o p)) : Inv p := by
  obtain ⟨gl, c, lv, S, bs, h1, h2, h3, h4, h5, h6, h7, h8, _⟩ := h
  exact h8
theorem vfeedR {rs : RS} {tx : ByteArray} {told : Nat} {dep : Int} {ov : Bool} {co q : Int} (h : RfR rs tx told dep ov co q) (pc : ByteArray) (w : World) (hsz : tx.size + pc.size ≤ 400000000) : Calls Tryd.prog 17 #[.agg #[.string tx, .int .i64 (told : Nat), .int .i64 dep, .bool ov, .int .i64 co, .int .i64 q], .string pc] w fun r w' => ∃ tx' told' dep' ov' co' q' v Q, r = .returned (.tuple #[.agg #[.string tx', .int .i64 (told' : Nat), .int .i64 dep', .bool ov', .int .i64 co', .int .i64 q'], v, .int .i64 (feedF rs pc.data.toList).2.1]) ∧ RfR (feedF rs pc.data.toList).2.2 tx' told' dep' ov' co' q' ∧ NdIn w' Q v (feedF rs pc.data.toList).1 ∧ (∀ g, Q g → w.heap.size ≤ g) ∧ Below w.heap.size w w' ∧ tx'.size ≤ tx.size + pc.size := by
  cases rs with
  | go o p =>
    obtain ⟨N0, h1, rfl, rfl, rfl, rfl, rfl⟩ := h
    refine (vfeed_go tx N0 o p pc w h1 hsz).mono ?_
    rintro r w' ⟨told', dep', ov', co', q', v, Q, rfl, h2, h3, h3q, h4⟩
    exact ⟨_, _, _, _, _, _, v, Q, rfl, h2, h3, h3q, h4, by rw [ByteArray.size_append]; exact Nat.le_refl _⟩
  | over d e q2 =>
    obtain ⟨rfl, rfl, rfl, rfl⟩ := h
    by_cases hc : co = 0
    · refine (vfeed_over0 tx told _ co q pc w hc).mono ?_
      rintro r w' ⟨rfl, hb⟩
      exact ⟨tx, told, _, true, co, q, _, fun _ => False, by simp only [feedF, if_pos hc], ⟨rfl, rfl, rfl, rfl⟩, .nil none 0, fun g c => c.elim, hb, by omega⟩
    · refine (vfeed_over tx told _ co q pc w hc).mono ?_
      rintro r w' ⟨rfl, hb⟩
      exact ⟨tx, told, _, true, co, q, _, fun _ => False, by simp only [feedF, if_neg hc], ⟨rfl, rfl, rfl, rfl⟩, .nil none 0, fun g c => c.elim, hb, by omega⟩
end Go.Proofs.YtibeiggedmabkaaDoor
