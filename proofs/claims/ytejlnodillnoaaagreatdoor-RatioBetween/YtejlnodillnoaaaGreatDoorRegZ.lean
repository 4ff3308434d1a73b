import Derived.Test.YtejlnodillnoaaaGreatDoorProg
import Derived.OrdersHeld
import Derived.Deep.RegionHeld3
set_option linter.unusedSimpArgs false
namespace Go.Proofs.YtejlnodillnoaaaGreatDoor
open Go
set_option linter.unusedVariables false
section
variable {P : Program} {ops : Array Oper} {Q : Exit → Act → World → Prop} {md : Region.Mode} {S : Bool → World → Prop} {z : Bool → Nat → Bool}
def AnyZ (P : Program) (md : Region.Mode) (ops : Array Oper) (Q : Exit → Act → World → Prop) (S : Bool → World → Prop) (z : Bool → Nat → Bool) : Nat → Array Bool → Act → World → Prop
  | 0, L, a, w => Region.ready md ops L = [] ∧ Q .normal a w
  | n + 1, L, a, w => (Region.ready md ops L = [] → Q .normal a w) ∧
      ∀ i ∈ Region.ready md ops L, wpOp P ops Q i (fun a' w' => (∀ k, z k i = false → S k w → S k w') ∧ AnyZ P md ops Q S z n (L.setIfInBounds i true) a' w') a w
theorem AnyZ.any : ∀ {n : Nat} {L : Array Bool} {a : Act} {w : World}, AnyZ P md ops Q S z n L a w → wpAny P md ops Q n L a w
  | 0, _, _, _, h => h
  | n + 1, _, _, _, h => ⟨h.1, fun i hi => wpOp_mono (fun _ _ h' => AnyZ.any h'.2) (h.2 i hi)⟩
theorem AnyZ.begin {id : Nat} {a : Act} {w : World} (n : Nat) (hn : ops.size = n) (hm : P.follows .mixedOrders = true)
    (h : AnyZ P .any ops Q S z n (Array.replicate n false) a w.drew) : (Code.region id ops true).wp P Q a w := by
  subst hn
  exact wp_region_any hm h.any
def waitsAll (md : Region.Mode) (ops : Array Oper) (zk : Nat → Bool) (i : Nat) : Bool :=
  (List.range ops.size).all fun j => !zk j || j == i || ((ops[j]?).map (·.after.any fun e => Region.binds md e && e.on == i)).getD true
theorem waitsAll_ne {zk : Nat → Bool} {i j : Nat} {L : Array Bool} (hw : waitsAll md ops zk i = true) (hj : j ∈ Region.ready md ops L) (hji : j ≠ i) (hi : i ∈ Region.ready md ops L) : zk j = false := by
  obtain ⟨_, oj, hoj, hall⟩ := mem_ready.1 hj
  have hjn : j < ops.size := by
    rcases Nat.lt_or_ge j ops.size with h | h
    · exact h
    · rw [Array.getElem?_eq_none h] at hoj; cases hoj
  have h1 := List.all_eq_true.1 hw j (List.mem_range.2 hjn)
  rw [hoj] at h1
  cases hz : zk j with
  | false => rfl
  | true =>
    exfalso
    simp only [hz, Bool.not_true, Bool.false_or, Option.map_some, Option.getD_some, Bool.or_eq_true, beq_iff_eq] at h1
    rcases h1 with h1 | h1
    · exact hji h1
    · rw [Array.any_eq_true'] at h1
      obtain ⟨e, he, hb⟩ := h1
      rw [Bool.and_eq_true, beq_iff_eq] at hb
      have h2 := hall e he hb.1
      rw [hb.2] at h2
      have h3 := (mem_ready.1 hi).1
      rcases Nat.lt_or_ge i L.size with h' | h'
      · simp [h'] at h2 h3; rw [h3] at h2; cases h2
      · simp [Array.getElem?_eq_none h'] at h2
theorem AnyZ.first {i : Nat} {oi : Oper} {v : Value} (k : Bool) (hi : ops[i]? = some oi) (hsel : ∀ (j : Nat) (o : Oper) cs b, ops[j]? = some o → o.op ≠ .select cs b)
    (hQ : ∀ c a w, Q (.panic c) (a.put oi.dst v) w → Q (.panic c) a w) (hwt : waitsAll md ops (z k) i = true) :
    ∀ (n : Nat) (L : Array Bool) (a : Act) (w : World),
      (∀ j oj, ops[j]? = some oj → j ≠ i → L.getD j true = false → (∀ e ∈ oj.after, Region.binds md e = true → e.on ≠ i) → oi.apart ops oj = true) →
      i ∈ Region.ready md ops L → YieldsIf P ops (S k) oi v a → S k w →
      AnyZ P md ops Q S z n (L.setIfInBounds i true) (a.put oi.dst v) w → AnyZ P md ops Q S z (n + 1) L a w := by
  intro n
  induction n with
  | zero =>
    intro L a w _ hr hy hS H
    refine ⟨fun h => (by rw [h] at hr; cases hr), fun j hj => ?_⟩
    by_cases hji : j = i
    · subst hji; exact hy.wpOp hi hS ⟨fun _ _ h => h, H⟩
    · have := ready_mono hj hji
      rw [H.1] at this
      cases this
  | succ n ih =>
    intro L a w hfree hr hy hS H
    refine ⟨fun h => (by rw [h] at hr; cases hr), fun j hj => ?_⟩
    by_cases hji : j = i
    · subst hji; exact hy.wpOp hi hS ⟨fun _ _ h => h, H⟩
    · obtain ⟨hjL, oj, hoj, hall⟩ := mem_ready.1 hj
      have hiL := (mem_ready.1 hr).1
      have hno : ∀ e ∈ oj.after, Region.binds md e = true → e.on ≠ i := by
        intro e he hb hei
        have h2 := hall e he hb
        rw [hei] at h2
        rcases Nat.lt_or_ge i L.size with h' | h'
        · simp [h'] at h2 hiL; rw [hiL] at h2; cases h2
        · simp [Array.getElem?_eq_none h'] at h2
      have step := wpOp_putIf hoj (hfree j oj hoj hji hjL hno) (fun cs b => hsel i oi cs b hi) (fun cs b => hsel j oj cs b hoj) hQ hy (H.2 j (ready_mono hj hji))
      have hzj := waitsAll_ne hwt hj hji hr
      refine wpOp_mono (fun a' w' h => ⟨h.2.1, ih (L.setIfInBounds j true) a' w' ?_ (ready_mono hr (Ne.symm hji)) h.1 (h.2.1 k hzj hS) ?_⟩) step
      · intro m om hm hmi hmL hmn
        refine hfree m om hm hmi ?_ hmn
        by_cases hjm : j = m
        · exact hjm ▸ hjL
        · rwa [getD_set_ne true hjm] at hmL
      · rw [Array.setIfInBounds_comm _ _ hji]
        exact h.2.2
theorem AnyZ.take {i : Nat} {d : Option Tmp} {op : Op} {ty : TypeId} {pos : String} {af : Array Edge} {v : Value} {n : Nat} {L : Array Bool} {a : Act} {w : World} (k : Bool) (hi : ops[i]? = some ⟨d, op, ty, pos, af, none⟩)
    (hs : Region.noSelect ops = true) (hf : Region.free md ops L i = true) (hr : (Region.ready md ops L).contains i = true) (hwt : waitsAll md ops (z k) i = true)
    (hQ : ∀ c a w, Q (.panic c) (a.put d v) w → Q (.panic c) a w) (hy : ∀ w, S k w → (execOp a.eval ⟨d, op, ty, pos, af, none⟩).run P w = .ok (.value v) w) (hS : S k w)
    (h : AnyZ P md ops Q S z n (L.setIfInBounds i true) (a.put d v) w) : AnyZ P md ops Q S z (n + 1) L a w :=
  AnyZ.first k hi (Region.noSelect_spec hs) hQ hwt n L a w (Region.free_spec hi hf) (by simpa using hr) (Or.inl ⟨rfl, hy⟩) hS h
theorem AnyZ.next {i : Nat} {d : Option Tmp} {op : Op} {ty : TypeId} {pos : String} {af : Array Edge} {n : Nat} {L : Array Bool} {a : Act} {w : World} (hi : ops[i]? = some ⟨d, op, ty, pos, af, none⟩) (hr : Region.ready md ops L = [i])
    (h : ∀ K' : Act → World → Prop, Shut (∀ a' w', (∀ k, z k i = false → S k w → S k w') → AnyZ P md ops Q S z n (L.setIfInBounds i true) a' w' → K' a' w') → Oper.wp P ⟨d, op, ty, pos, af, none⟩ a w K' Q) :
    AnyZ P md ops Q S z (n + 1) L a w := by
  refine ⟨fun h0 => (by rw [hr] at h0; cases h0), fun j hj => ?_⟩
  rw [hr, List.mem_singleton] at hj
  subst hj
  refine wpOp_step hi (fun K' hK => ?_)
  have hw : Region.wanted ⟨d, op, ty, pos, af, none⟩ (yielded ops a.tmps) = true := rfl
  rw [if_pos hw]
  exact h K' (fun a' w' h1 h2 => hK a' w' ⟨h1, h2⟩)
theorem AnyZ.done {n : Nat} {L : Array Bool} {a : Act} {w : World} (hr : Region.ready md ops L = []) (h : Q .normal a w) : AnyZ P md ops Q S z n L a w := by
  cases n with
  | zero => exact ⟨hr, h⟩
  | succ n => exact ⟨fun _ => h, by rw [hr]; simp⟩
end
end Go.Proofs.YtejlnodillnoaaaGreatDoor
