/-
  Layer 3: Text, of both sides.
-/
import Derived.Test.YthodhmkplfiohaaGreatDoorWTD
import Derived.Test.YthodhmkplfiohaaGreatDoorW3
import Derived.Test.YthodhmkplfiohaaGreatDoorWT7
import Derived.Deep.AppendLies
import Derived.OwnWalk
import Derived.Test.YthodhmkplfiohaaGreatDoorWU1
import Derived.Test.YthodhmkplfiohaaGreatDoorWI4
import Derived.Test.YthodhmkplfiohaaGreatDoorWUA
import Derived.Test.YthodhmkplfiohaaGreatDoorWQN
import Derived.Test.YthodhmkplfiohaaGreatDoorWQ7
namespace Go.Proofs.YthodhmkplfiohaaGreatDoor
open Go.RowKit
set_option linter.unusedVariables false

end Go.Proofs.YthodhmkplfiohaaGreatDoor

namespace Go.Proofs.YthodhmkplfiohaaGreatDoor
open Go.RowKit
set_option linter.unusedVariables false

/-- the k lowest digits' bytes, from the lowest on -/
def rl (b X k : Nat) : List Value := (List.range k).map fun i => .int .u8 ((dch (X / b ^ i % b) : Nat) : Int)
theorem rl_succ (b X k : Nat) : rl b X (k + 1) = rl b X k ++ [.int .u8 ((dch (X / b ^ k % b) : Nat) : Int)] := by simp [rl, List.range_succ]
/-- the state of the reference's loop: k digits are told, Y is left -/
structure Rt (w wr : World) (b X k Y : Nat) (ao : Option Addr) (v : Value) : Prop where
  seg : Seg wr ao Y (ln Y)
  own : wr.ownsRow w.heap.size 5 1 v k (rl b X k)
  off : 0 < ln Y → Away ao v
  below : Below w.heap.size w wr
  left : Y = X / b ^ k
  top : k = 0 ∨ b ^ (k - 1) ≤ X
theorem Rt.room {w wr : World} {b X k Y n : Nat} {ao : Option Addr} {v : Value} (h : Rt w wr b X k Y ao v) (hb : 2 ≤ b) (hX : X < BB ^ n) : k ≤ 32 * n + 1 := by
  rcases h.top with h1 | h1
  · omega
  · have h2 : 2 ^ (k - 1) ≤ X := Nat.le_trans (Nat.pow_le_pow_left hb _) h1
    rw [BB_eq, show (4294967296 : Nat) = 2 ^ 32 by decide, ← Nat.pow_mul] at hX
    have h3 := (Nat.pow_lt_pow_iff_right (a := 2) (by decide)).1 (Nat.lt_of_le_of_lt h2 hX)
    clear h1 h2 hX
    omega
/-- behind one digit more -/
theorem Rt.next {w wr w1 w2 : World} {b X k Y g cap : Nat} {ao aq : Option Addr} {v : Value} (h : Rt w wr b X k Y ao v) (hb : 2 ≤ b) (hY : Y ≠ 0) (h1 : New wr w1 aq (Y / b) (ln (Y / b)))
    (hown : w2.ownsRow w.heap.size 5 1 (.slice (some ⟨g, 0, none⟩) (k + 1) cap) (k + 1) (rl b X k ++ [.int .u8 ((dch (Y % b) : Nat) : Int)])) (hgrow : (w1.alloc (.cells #[.int .u8 ((dch (Y % b) : Nat) : Int)] 5)).grownBy w2 v.ownBlock) (hat : v.ownBlock = some g ∨ g = w1.heap.size + 1) :
    Rt w w2 b X (k + 1) (Y / b) aq (.slice (some ⟨g, 0, none⟩) (k + 1) cap) := by
  have ba := below_alloc (w := w1) (.cells #[.int .u8 ((dch (Y % b) : Nat) : Int)] 5)
  have hvlt : ∀ g', v.ownBlock = some g' → g' < wr.heap.size := fun g' hg' => by
    rcases h.own.2 with ⟨rfl, _⟩ | ⟨g2, cap2, cur, rfl, _, hg2, _⟩
    · cases hg'
    · have : g2 = g' := by simpa [Value.ownBlock] using hg'
      subst this
      exact (Array.getElem?_eq_some_iff.1 hg2).1
  have away : 0 < ln (Y / b) → Away aq v := fun hn g' hg' => h1.off (hvlt g' hg') hn
  have seg2 : Seg w2 aq (Y / b) (ln (Y / b)) := by
    by_cases hn : 0 < ln (Y / b)
    · exact (segL ba h1.seg).grown hgrow (away hn)
    · have := h1.seg.1
      obtain hz : ln (Y / b) = 0 := by omega
      rw [hz] at this ⊢
      exact ⟨this, fun h => absurd h (by omega)⟩
  refine ⟨seg2, ?_, fun hn g' hg' o => ?_, ?_, ?_, .inr ?_⟩
  · rw [rl_succ, ← h.left]; exact hown
  · have e : g' = g := by simpa [Value.ownBlock] using hg'.symm
    subst e
    rcases hat with h2 | h2
    · exact away hn g' h2 o
    · exact h1.seg.ne_new hn (by omega) o
  · have b1 := h.below.trans (h1.below.mono h.below.size)
    have b2 := b1.trans (ba.mono b1.size)
    exact b2.trans (grown_below hgrow b2.size (fun g' hg' => owns_ge h.own hg'))
  · rw [h.left, Nat.div_div_eq_div_mul, ← Nat.pow_succ]
  · rw [Nat.add_sub_cancel]
    rcases Nat.lt_or_ge X (b ^ k) with h2 | h2
    · exact absurd (by rw [h.left, Nat.div_eq_of_lt h2]) hY
    · exact h2
end Go.Proofs.YthodhmkplfiohaaGreatDoor

namespace Go.Proofs.YthodhmkplfiohaaGreatDoor
open Go.RowKit
set_option linter.unusedVariables false

end Go.Proofs.YthodhmkplfiohaaGreatDoor

namespace Go.Proofs.YthodhmkplfiohaaGreatDoor
open Go.RowKit
set_option linter.unusedVariables false

end Go.Proofs.YthodhmkplfiohaaGreatDoor

namespace Go.Proofs.YthodhmkplfiohaaGreatDoor
open Go.RowKit
set_option linter.unusedVariables false

end Go.Proofs.YthodhmkplfiohaaGreatDoor

namespace Go.Proofs.YthodhmkplfiohaaGreatDoor
open Go.RowKit
set_option linter.unusedVariables false

end Go.Proofs.YthodhmkplfiohaaGreatDoor
