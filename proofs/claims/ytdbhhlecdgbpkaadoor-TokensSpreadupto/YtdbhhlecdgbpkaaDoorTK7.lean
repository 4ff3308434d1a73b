/-
  Symbol and Reserved, of both sides.
-/
import Derived.Test.YtdbhhlecdgbpkaaDoorTK6
namespace Go.Proofs.YtdbhhlecdgbpkaaDoor
open Go.RowKit
set_option linter.unusedVariables false
set_option linter.unusedSimpArgs false

theorem results_tt {fn : Func} {p u : Tmp} (h : fn.results = #[.tmp p, .tmp u]) (tmps : Array Value) (P : Program) (w : World) :
    (results fn tmps).run P w = .ok (.tuple #[tmps.getD p undef, tmps.getD u undef]) w := by
  simp only [results, h]
  simp
def barS (s : ByteArray) : ByteArray := ⟨#[124]⟩ ++ s ++ ⟨#[124]⟩
/-- what Symbol answers -/
def symA (p n : Bool) (s : ByteArray) : Value := if p then .tuple #[.string s, .int .i64 0] else if n then .tuple #[.string ⟨#[]⟩, .int .i64 122] else .tuple #[.string (barS s), .int .i64 0]

set_option maxHeartbeats 2000000 in
set_option maxRecDepth 100000 in
theorem symbol_is (s : ByteArray) (hs : s.size ≤ 140737488355328) (p n : Bool) (hp : p = true ↔ isPl s) (hn : n = true ↔ hasB nbN s) (w : World) :
    Calls Tryd.prog 11 #[.string s] w fun e w' => e = .returned (symA p n s) ∧ Below w.heap.size w w' := by
  have H1 := hideT (plain_is s hs p hp w)
  have H2 := hideT (fun w' => clone_is s hs w')
  have H3 := hideT (fun w' => containsFunc_bar s hs n hn w')
  clear hp hn
  cases p
  · cases n
    · go_enter Tryd.func11, Tryd.ntmps11
      go_wp2_with fail
      refine H1.out.mono ?_
      rintro e w1 ⟨rfl, b1⟩
      go_wp2_with fail
      refine (H3.out _).mono ?_
      rintro e w2 ⟨rfl, b2⟩
      go_wp2
      refine bodyPost_ret (v := symA false false s) (by rw [results_tt rfl]; rfl) rfl ?_
      exact ⟨rfl, b1.trans (b2.mono b1.size)⟩
    · go_enter Tryd.func11, Tryd.ntmps11
      go_wp2_with fail
      refine H1.out.mono ?_
      rintro e w1 ⟨rfl, b1⟩
      go_wp2_with fail
      refine (H3.out _).mono ?_
      rintro e w2 ⟨rfl, b2⟩
      go_wp2
      refine bodyPost_ret (v := symA false true s) (by rw [results_tt rfl]; rfl) rfl ?_
      exact ⟨rfl, b1.trans (b2.mono b1.size)⟩
  · go_enter Tryd.func11, Tryd.ntmps11
    go_wp2_with fail
    refine H1.out.mono ?_
    rintro e w1 ⟨rfl, b1⟩
    go_wp2_with fail
    refine (H2.out _).mono ?_
    rintro e w2 ⟨rfl, b2⟩
    go_wp2
    refine bodyPost_ret (v := symA true n s) (by rw [results_tt rfl]; rfl) rfl ?_
    exact ⟨rfl, b1.trans (b2.mono b1.size)⟩

/-- one of the language's own words -/
def resB (s : ByteArray) : Bool := (s.toList == [33]) || (s.toList == [95]) || (s.toList == [97, 115]) || (s.toList == [66, 73, 78, 65, 82, 89]) || (s.toList == [68, 69, 67, 73, 77, 65, 76]) || (s.toList == [101, 120, 105, 115, 116, 115]) || (s.toList == [102, 111, 114, 97, 108, 108]) || (s.toList == [72, 69, 88, 65, 68, 69, 67, 73, 77, 65, 76]) || (s.toList == [108, 101, 116]) || (s.toList == [109, 97, 116, 99, 104]) || (s.toList == [78, 85, 77, 69, 82, 65, 76]) || (s.toList == [112, 97, 114]) || (s.toList == [83, 84, 82, 73, 78, 71])
end Go.Proofs.YtdbhhlecdgbpkaaDoor
