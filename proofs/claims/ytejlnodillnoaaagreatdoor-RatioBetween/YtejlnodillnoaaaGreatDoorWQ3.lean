import Derived.Test.YtejlnodillnoaaaGreatDoorWQ2
import Derived.Deep.CutRange
set_option linter.unusedSimpArgs false
namespace Go.Proofs.YtejlnodillnoaaaGreatDoor
open Go.RowKit
set_option linter.unusedVariables false
theorem lt_al {w w1 : World} {o : Obj} {n : Nat} (h : n ≤ w.heap.size) (b : Below (w.alloc o).heap.size (w.alloc o) w1) : w.heap.size < (w.alloc o).heap.size := by rw [World.size_alloc]; omega
theorem un_drew {X w1 : World} {o : Obj} (b : Below (X.alloc o).drew.heap.size (X.alloc o).drew w1) : Below (X.drew.alloc o).heap.size (X.drew.alloc o) w1 := b
theorem size_drew (w : World) : w.drew.heap.size = w.heap.size := rfl
theorem New.seg2 {w1 w3 : World} {p : Option Addr} {Z n c : Nat} (h : New w1 w3 p Z n) (hc : c < w1.heap.size) (u v : Value) : Seg ((w3.setCell ⟨c, 0, none⟩ u).setCell ⟨c, 1, none⟩ v) p Z n :=
  (h.fre.mid (((Mid.refl 0 w1.heap.size w3).set c 0 (Nat.zero_le _) hc u).set c 1 (Nat.zero_le _) hc v)).seg
end Go.Proofs.YtejlnodillnoaaaGreatDoor
