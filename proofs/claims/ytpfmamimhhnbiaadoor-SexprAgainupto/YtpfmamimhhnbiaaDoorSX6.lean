/-
  The reader's open and shut, where they give up.
-/
import Derived.Test.YtpfmamimhhnbiaaDoorSX5
import Derived.WalkLawsBesides
namespace Go.Proofs.YtpfmamimhhnbiaaDoor
open Go.RowKit
set_option linter.unusedVariables false
set_option linter.unusedSimpArgs false
/-- what a panic with a fault hands up -/
def flt (e pl : Int) : List PanicEntry := [{ v := .iface 47 (.agg #[.int .i64 e, .int .i64 pl]), recovered := false }]
set_option maxHeartbeats 4000000 in
set_option maxRecDepth 100000 in
theorem ropen_no (b : Nat) (p : Option Addr) (v : Value) (en : Bool) (er pl : Int) (t : Tok) (w : World) (h : Blk w b (rdC p v 1000 en er pl) 64) : Calls Tryd.prog 46 #[.pointer (some ⟨b, 0, none⟩), .agg #[.int .i64 t.k, .string t.t, .int .i64 t.b, .int .i64 t.e, .int .i64 t.l, .int .i64 t.c]] w fun r w' => r = .panicked (flt 132 t.b) ∧ Below w.heap.size w w' := by
  have b0 := below_alloc (w := w) (.cells #[.int .i64 t.k, .string t.t, .int .i64 t.b, .int .i64 t.e, .int .i64 t.l, .int .i64 t.c] 23)
  have qN := Blk.new w #[.int .i64 t.k, .string t.t, .int .i64 t.b, .int .i64 t.e, .int .i64 t.l, .int .i64 t.c] 23
  replace h := h.later b0
  go_enter Tryd.func46, Tryd.ntmps46
  go_upto_region 1 with fail
  generalize w.alloc (.cells #[.int .i64 t.k, .string t.t, .int .i64 t.b, .int .i64 t.e, .int .i64 t.l, .int .i64 t.c] 23) = W at b0 qN h ⊢
  have y2 := h.cell 2
  have t2 := qN.cell 2
  simp only [rdC, List.getElem?_toArray, List.getElem?_cons_zero, List.getElem?_cons_succ] at y2 t2
  go_wp2
  exact ⟨rfl, rfl, b0⟩

set_option maxHeartbeats 4000000 in
set_option maxRecDepth 100000 in
theorem rshut_no (b : Nat) (p : Option Addr) (v : Value) (en : Bool) (er pl : Int) (t : Tok) (w : World) (h : Blk w b (rdC p v 0 en er pl) 64) : Calls Tryd.prog 47 #[.pointer (some ⟨b, 0, none⟩), .agg #[.int .i64 t.k, .string t.t, .int .i64 t.b, .int .i64 t.e, .int .i64 t.l, .int .i64 t.c]] w fun r w' => r = .panicked (flt 130 t.b) ∧ Below w.heap.size w w' := by
  have b0 := below_alloc (w := w) (.cells #[.int .i64 t.k, .string t.t, .int .i64 t.b, .int .i64 t.e, .int .i64 t.l, .int .i64 t.c] 23)
  have qN := Blk.new w #[.int .i64 t.k, .string t.t, .int .i64 t.b, .int .i64 t.e, .int .i64 t.l, .int .i64 t.c] 23
  replace h := h.later b0
  go_enter Tryd.func47, Tryd.ntmps47
  go_upto_region 1 with fail
  generalize w.alloc (.cells #[.int .i64 t.k, .string t.t, .int .i64 t.b, .int .i64 t.e, .int .i64 t.l, .int .i64 t.c] 23) = W at b0 qN h ⊢
  have y2 := h.cell 2
  have t2 := qN.cell 2
  simp only [rdC, List.getElem?_toArray, List.getElem?_cons_zero, List.getElem?_cons_succ] at y2 t2
  go_wp2
  exact ⟨rfl, rfl, b0⟩

end Go.Proofs.YtpfmamimhhnbiaaDoor
