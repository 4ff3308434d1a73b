/-
  analyse: Check.
-/
import Derived.Test.YtbcbgglhhfdbcaaANH
import Derived.Test.YtbcbgglhhfdbcaaANI
namespace Go.Proofs.Ytbcbgglhhfdbcaa
open Go.RowKit
set_option linter.unusedVariables false
set_option linter.unusedSimpArgs false
set_option maxHeartbeats 2000000 in
set_option maxRecDepth 100000 in
theorem check_is (a : Option Addr) (ca : Nat) (C : List (List Int)) (f : Nat → Option Addr × Nat) (ma : Option Addr) (mc : Nat) (M : List Mk) (w : World) (hC : CsAt w a C f) (hM : MsAt w ma M) (hn9 : M.length ≤ 1048575) :
    Calls Try.prog 10 #[.slice a C.length ca, .slice ma M.length mc] w fun e w' => e = .returned (.int .i64 (ckz C M)) ∧ Below w.heap.size w w' := by
  have GR := hide' (read_is a ca C f ma mc M w hC hM hn9)
  clear hC hM
  obtain ⟨n, hn⟩ : ∃ n, M.length = n := ⟨_, rfl⟩
  obtain ⟨Cn, hCn⟩ : ∃ n, C.length = n := ⟨_, rfl⟩
  rw [hn, hCn] at GR ⊢
  clear hn hCn hn9
  go_enter Try.func10, Try.ntmps10
  go_wp2_with fail
  refine GR.out.mono ?_
  rintro e w1 ⟨b1, ⟨hbad, rfl⟩ | ⟨hgood, b, rfl, hT⟩⟩
  · go_wp2; go_ret; exact ⟨by rw [ckz_no hbad]; rfl, b1⟩
  · clear hT; go_wp2; go_ret; exact ⟨by rw [ckz_yes hgood]; rfl, b1⟩
end Go.Proofs.Ytbcbgglhhfdbcaa
