import Derived.Test.YtebbehlfocpjhaaGreatNumV
import Derived.Test.YtebbehlfocpjhaaGreatWQ4
set_option linter.unusedSimpArgs false
namespace Go.Proofs.YtebbehlfocpjhaaGreat
open Go.RowKit
set_option linter.unusedVariables false
set_option maxHeartbeats 2000000 in
set_option maxRecDepth 100000 in
theorem byHalves_none (a : Option Addr) (cap : Nat) (s : Bool) (p : Option Addr) (n c : Nat) (b : Option Addr) (m e : Nat) (F : Value) (w : World) :
    Calls Tryz.prog 13 #[.slice a 0 cap, .agg #[.bool s, .slice p n c, .slice b m e], F] w fun r w' => r = .returned (.agg #[.bool s, .slice p n c, .slice b m e]) ∧ Below w.heap.size w w' := by
  go_enter Tryz.func13, Tryz.ntmps13
  go_wp2_with fail
  refine bodyPost_ret (v := Value.agg #[Value.bool s, Value.slice p n c, Value.slice b m e]) (by rw [results_cell rfl]; go_simp) rfl ?_
  exact ⟨rfl, ((Below.refl _ _).alloc (Nat.le_refl _) _).alloc (by simp only [World.size_alloc]; omega) _⟩
set_option maxHeartbeats 2000000 in
set_option maxRecDepth 100000 in
theorem byHalves_one (b off cap : Nat) (q : RatV) (s : Bool) (p' : Option Addr) (n c : Nat) (b' : Option Addr) (m e : Nat) (F : Value) (w : World) (hb : b < w.heap.size) (hq : q.lies w b off) :
    Calls Tryz.prog 13 #[.slice (some ⟨b, off, none⟩) 1 cap, .agg #[.bool s, .slice p' n c, .slice b' m e], F] w fun r w' => r = .returned (.agg #[.bool q.s, .slice q.a q.n q.c, .slice q.b q.m q.e]) ∧ Below w.heap.size w w' := by
  obtain ⟨h0, h1, h2⟩ := hq
  go_enter Tryz.func13, Tryz.ntmps13
  have hB : Below w.heap.size w ((w.alloc (.cells #[.bool s, .slice p' n c, .slice b' m e] 29)).alloc (.cells #[.bool false, .slice none 0 0, .slice none 0 0] 29)) := ((Below.refl _ _).alloc (Nat.le_refl _) _).alloc (by simp only [World.size_alloc]; omega) _
  have k0 := below_cell hB h0
  have k1 := below_cell hB h1
  have k2 := below_cell hB h2
  go_wp2_with fail
  refine bodyPost_ret (v := Value.agg #[Value.bool q.s, Value.slice q.a q.n q.c, Value.slice q.b q.m q.e]) (by rw [results_cell rfl]; go_simp) rfl ?_
  exact ⟨rfl, ((Below.refl _ _).alloc (Nat.le_refl _) _).alloc (by simp only [World.size_alloc]; omega) _⟩
theorem A_elem_Rats (w : World) : (sizeOf (Tryz.prog.elem 45)).run Tryz.prog w = .ok 3 w := by kernel_rfl
set_option maxRecDepth 30000 in
theorem sl_head (b off len cap h : Nat) (hc : h ≤ cap) (w : World) :
    (Instr.slice 45 (.slice (some ⟨b, off, none⟩) len cap) none (some (.int .i64 (h : Int))) none).run Tryz.prog w = .ok (.slice (some ⟨b, off, none⟩) h cap) w := by
  rw [run_slice_h (P := Tryz.prog) w 45 _ len cap Tryz.underlying45 .i64 _ (by omega) (by omega)]
  rw [A_elem_Rats]
  simp [Result.andThen, sliced, Addr.add]
set_option maxRecDepth 30000 in
theorem sl_rest (b off len cap h : Nat) (hl : h ≤ len) (hc : h < cap) (w : World) :
    (Instr.slice 45 (.slice (some ⟨b, off, none⟩) len cap) (some (.int .i64 (h : Int))) none none).run Tryz.prog w = .ok (.slice (some ⟨b, off + h * 3, none⟩) (len - h) (cap - h)) w := by
  rw [run_slice_l (P := Tryz.prog) w 45 _ len cap Tryz.underlying45 .i64 _ (by omega) (by omega)]
  rw [A_elem_Rats]
  simp [Result.andThen, sliced, Addr.add]
  rw [if_neg (by omega)]
  split
  · have : h = 0 := by omega
    subst this; simp
  · rfl
end Go.Proofs.YtebbehlfocpjhaaGreat
