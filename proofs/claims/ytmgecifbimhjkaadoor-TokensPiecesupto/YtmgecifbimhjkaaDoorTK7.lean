/-
  Symbol and Reserved, of both sides.
-/
import Derived.Test.YtmgecifbimhjkaaDoorTK6
namespace Go.Proofs.YtmgecifbimhjkaaDoor
open Go.RowKit
set_option linter.unusedVariables false
set_option linter.unusedSimpArgs false

theorem results_tt {fn : Func} {p u : Tmp} (h : fn.results = #[.tmp p, .tmp u]) (tmps : Array Value) (P : Program) (w : World) :
    (results fn tmps).run P w = .ok (.tuple #[tmps.getD p undef, tmps.getD u undef]) w := by
  simp only [results, h]
  simp
def barS (s : ByteArray) : ByteArray := ⟨#[124]⟩ ++ s ++ ⟨#[124]⟩
/-- what Symbol answers -/
def symA (p n : Bool) (s : ByteArray) : Value := if p then .tuple #[.string s, .int .i64 0] else if n then .tuple #[.string ⟨#[]⟩, .int .i64 122] else .tuple #[.string (barS s), .int .i64 0]

set_option maxHeartbeats 2000000 in
set_option maxRecDepth 100000 in
theorem symbol_is (s : ByteArray) (hs : s.size ≤ 140737488355328) (p n : Bool) (hp : p = true ↔ isPl s) (hn : n = true ↔ hasB nbN s) (w : World) :
    Calls Tryd.prog 19 #[.string s] w fun e w' => e = .returned (symA p n s) ∧ Below w.heap.size w w' := by
  have H1 := hideT (plain_is s hs p hp w)
  have H2 := hideT (fun w' => clone_is s hs w')
  have H3 := hideT (fun w' => containsFunc_bar s hs n hn w')
  clear hp hn
  cases p
  · cases n
    · go_enter Tryd.func19, Tryd.ntmps19
      go_wp2_with fail
      refine H1.out.mono ?_
      rintro e w1 ⟨rfl, b1⟩
      go_wp2_with fail
      refine (H3.out _).mono ?_
      rintro e w2 ⟨rfl, b2⟩
      go_wp2
      refine bodyPost_ret (v := symA false false s) (by rw [results_tt rfl]; rfl) rfl ?_
      exact ⟨rfl, b1.trans (b2.mono b1.size)⟩
    · go_enter Tryd.func19, Tryd.ntmps19
      go_wp2_with fail
      refine H1.out.mono ?_
      rintro e w1 ⟨rfl, b1⟩
      go_wp2_with fail
      refine (H3.out _).mono ?_
      rintro e w2 ⟨rfl, b2⟩
      go_wp2
      refine bodyPost_ret (v := symA false true s) (by rw [results_tt rfl]; rfl) rfl ?_
      exact ⟨rfl, b1.trans (b2.mono b1.size)⟩
  · go_enter Tryd.func19, Tryd.ntmps19
    go_wp2_with fail
    refine H1.out.mono ?_
    rintro e w1 ⟨rfl, b1⟩
    go_wp2_with fail
    refine (H2.out _).mono ?_
    rintro e w2 ⟨rfl, b2⟩
    go_wp2
    refine bodyPost_ret (v := symA true n s) (by rw [results_tt rfl]; rfl) rfl ?_
    exact ⟨rfl, b1.trans (b2.mono b1.size)⟩

set_option maxHeartbeats 2000000 in
set_option maxRecDepth 100000 in
theorem rSymbol_is (s : ByteArray) (hs : s.size ≤ 140737488355328) (p n : Bool) (hp : p = true ↔ isPl s) (hn : n = true ↔ hasB nbN s) (w : World) :
    Calls Tryd.prog 41 #[.string s] w fun e w' => e = .returned (symA p n s) ∧ w' = w := by
  have H1 := hideT (rPlain_is s hs p hp w)
  have HN := hideT hn
  clear hp hn
  cases p
  · go_enter Tryd.func41, Tryd.ntmps41
    go_wp2_with fail
    refine H1.out.mono ?_
    rintro e w1 ⟨rfl, rfl⟩
    go_wp2
    go_loop [4] (fun i => ∃ k : Nat, k ≤ s.size ∧ i = .int .i64 k ∧ ∀ j, j < k → nbN (byt s j) = false) (fun i => s.size - (intOf i).toNat)
    case atStart => exact ⟨0, Nat.zero_le _, rfl, fun j hj => by omega⟩
    case round =>
      obtain ⟨k, hk, rfl, hj⟩ := hrel
      have HJ := hideT hj
      clear hj
      by_cases hlt : k < s.size
      · have hki : ((k : Int) < (s.size : Int)) := by omega
        have H2 := hideT (fun w' => quotable_is (byt s k) w')
        rw [quN_not] at H2
        have hdef : nbN (byt s k) = (nqN (byt s k) || decide (byt s k = 124) || decide (byt s k = 92)) := rfl
        cases hq : nqN (byt s k)
        · rw [hq, byt_of hlt] at H2
          rw [hq] at hdef
          by_cases h1 : byt s k = 124
          · have hx : (((s[k]'hlt).toNat : Int) == 124) = true := by rw [← byt_of hlt, h1]; rfl
            have hv : n = true := HN.out.2 ⟨k, hlt, by rw [hdef]; simp [h1]⟩
            clear hdef hq h1
            go_wp2_with fail
            refine (H2.out _).mono ?_
            rintro e w1 ⟨rfl, rfl⟩
            go_wp2
            refine bodyPost_ret (v := symA false true s) (by rw [results_tt rfl]; rfl) rfl ?_
            rw [hv]
            exact ⟨rfl, rfl⟩
          · have hx : (((s[k]'hlt).toNat : Int) == 124) = false := by rw [← byt_of hlt, beq_eq_false_iff_ne]; omega
            by_cases h2 : byt s k = 92
            · have hy : (((s[k]'hlt).toNat : Int) == 92) = true := by rw [← byt_of hlt, h2]; rfl
              have hv : n = true := HN.out.2 ⟨k, hlt, by rw [hdef]; simp [h2]⟩
              clear hdef hq h1 h2
              go_wp2_with fail
              refine (H2.out _).mono ?_
              rintro e w1 ⟨rfl, rfl⟩
              go_wp2
              refine bodyPost_ret (v := symA false true s) (by rw [results_tt rfl]; rfl) rfl ?_
              rw [hv]
              exact ⟨rfl, rfl⟩
            · have hy : (((s[k]'hlt).toNat : Int) == 92) = false := by rw [← byt_of hlt, beq_eq_false_iff_ne]; omega
              have HY := hideT (show nbN (byt s k) = false by rw [hdef]; simp [h1, h2])
              clear hdef hq h1 h2
              go_wp2_with fail
              refine (H2.out _).mono ?_
              rintro e w1 ⟨rfl, rfl⟩
              go_wp2
              go_round
              case rel => exact ⟨k + 1, by omega, by go_num, fun j hj => by
                by_cases e : j = k
                · rw [e]; exact HY.out
                · exact HJ.out j (by omega)⟩
              case measure => simp [intOf]; omega
        · rw [hq, byt_of hlt] at H2
          have hv : n = true := HN.out.2 ⟨k, hlt, by rw [hdef, hq]; rfl⟩
          clear hdef hq
          go_wp2_with fail
          refine (H2.out _).mono ?_
          rintro e w1 ⟨rfl, rfl⟩
          go_wp2
          refine bodyPost_ret (v := symA false true s) (by rw [results_tt rfl]; rfl) rfl ?_
          rw [hv]
          exact ⟨rfl, rfl⟩
      · have hki : ¬ ((k : Int) < (s.size : Int)) := by omega
        have hv : n = false := by
          cases hc : n with
          | false => rfl
          | true =>
            obtain ⟨j, h1, h2⟩ := HN.out.1 hc
            rw [HJ.out j (by omega)] at h2
            exact absurd h2 (by decide)
        go_wp2
        refine bodyPost_ret (v := symA false false s) (by rw [results_tt rfl]; rfl) rfl ?_
        try rw [hv]
        exact ⟨rfl, rfl⟩
  · go_enter Tryd.func41, Tryd.ntmps41
    go_wp2_with fail
    refine H1.out.mono ?_
    rintro e w1 ⟨rfl, rfl⟩
    go_wp2
    refine bodyPost_ret (v := symA true n s) (by rw [results_tt rfl]; rfl) rfl ?_
    exact ⟨rfl, rfl⟩
/-- one of the language's own words -/
def resB (s : ByteArray) : Bool := (s.toList == [33]) || (s.toList == [95]) || (s.toList == [97, 115]) || (s.toList == [66, 73, 78, 65, 82, 89]) || (s.toList == [68, 69, 67, 73, 77, 65, 76]) || (s.toList == [101, 120, 105, 115, 116, 115]) || (s.toList == [102, 111, 114, 97, 108, 108]) || (s.toList == [72, 69, 88, 65, 68, 69, 67, 73, 77, 65, 76]) || (s.toList == [108, 101, 116]) || (s.toList == [109, 97, 116, 99, 104]) || (s.toList == [78, 85, 77, 69, 82, 65, 76]) || (s.toList == [112, 97, 114]) || (s.toList == [83, 84, 82, 73, 78, 71])
end Go.Proofs.YtmgecifbimhjkaaDoor
