/-
  Layer 6: times, the program's Scale.
-/
import Derived.Test.YtbdgmfofpenjlaaGreatWN7
import Derived.Test.YtbdgmfofpenjlaaGreatWQ5
namespace Go.Proofs.YtbdgmfofpenjlaaGreat
open Go.RowKit
set_option linter.unusedVariables false
set_option linter.unusedSimpArgs false

/-- a form with all its coefficients turned -/
def fmap (g : Rat → Rat) (l : Fo) : Fo := l.map fun p => (p.1, g p.2)
theorem fmap_snoc (g : Rat → Rat) (l : Fo) (p : Int × Rat) : fmap g (l ++ [p]) = fmap g l ++ [(p.1, g p.2)] := by unfold fmap; rw [List.map_append]; rfl

/-- an answer that is a number in lowest terms, in new memory -/
def RAns (w : World) (r : Rat) (e : Ending) (w' : World) : Prop :=
  ∃ p q, e = .returned (.agg #[.bool (ng r.num), .slice p (ln (am r.num)) (ln (am r.num)), .slice q (ln r.den) (ln r.den)]) ∧ New w w' p (am r.num) (ln (am r.num)) ∧ New w w' q r.den (ln r.den)

/-- what the loop of turned keeps -/
def TInv (w : World) (g : Rat → Rat) (L : List Mo) (k : Nat) (vo : Value) (wr : World) : Prop :=
  ∃ R : List Mo, R.length = k ∧ wr.ownsRow w.heap.size 41 4 vo R.length (cellsF R) ∧ Below w.heap.size w wr ∧ (∀ p ∈ R, Grw vo wr p) ∧ fo R = fmap g (fo (L.take k))

end Go.Proofs.YtbdgmfofpenjlaaGreat

namespace Go.Proofs.YtbdgmfofpenjlaaGreat
open Go.RowKit
set_option linter.unusedVariables false
set_option linter.unusedSimpArgs false

theorem mul_sz {w w' : World} {C q : RatV} {K : Nat} (hC : C.ok w) (hq : q.ok w') (hK : C.n + C.m + q.n + q.m ≤ K) : sz (K + 2) (C.val * q.val) :=
  ln1 (i := C.n + q.n) (j := (C.m + 1) + (q.m + 1)) (low_mul C q) (lt_prod (Nat.lt_of_le_of_lt (rn_am _ _ _) hC.1.1) (Nat.lt_of_le_of_lt (rn_am _ _ _) hq.1.1)) (lt_prod (by show rd _ < _; exact rd_lt hC.2.2.2.1.1) (by show rd _ < _; exact rd_lt hq.2.2.2.1.1)) (by omega) (by omega)
theorem wts_le {N : Nat} : ∀ (l : Fo), (∀ p ∈ l, wt p.2 ≤ N) → wts l ≤ l.length * N
  | [], _ => by simp [wts]
  | p :: l, h => by
    have h1 := wts_le l fun q hq => h q (List.mem_cons_of_mem _ hq)
    have h2 := h p List.mem_cons_self
    simp only [wts, List.length_cons, Nat.succ_mul]
    omega
theorem sz_wt {N : Nat} {r : Rat} (h : sz N r) : wt r ≤ 2 * N + 1 := by
  have h1 := h.1
  have h2 := h.2
  unfold wt
  omega
theorem fmap_length (g : Rat → Rat) (l : Fo) : (fmap g l).length = l.length := List.length_map _
theorem TInv.ans {w : World} {g : Rat → Rat} {L : List Mo} {vo : Value} {w' : World} (h : TInv w g L L.length vo w') : FAns w (fmap g (fo L)) (.returned vo) w' := by
  obtain ⟨R, hl, hO, hB, hR, hf⟩ := h
  obtain ⟨a, c, rfl, hs⟩ := Sl.of hO
  exact ⟨a, c, R, rfl, hB, hs, fun p hp => (hR p hp).ent, by rw [hf, List.take_length]⟩
theorem FAns.from {w W : World} {T : Fo} {e : Ending} {w' : World} (h : FAns W T e w') (hB : Below w.heap.size w W) : FAns w T e w' := by
  obtain ⟨a, c, R, he, hb, hs, hE, hf⟩ := h
  exact ⟨a, c, R, he, hB.trans (hb.mono hB.size), hs, hE, hf⟩

end Go.Proofs.YtbdgmfofpenjlaaGreat
