/-
  Layer 2's Parse, of any text.
-/
import Derived.Test.YtancpkegjgmlmaaDoorWU3
import Derived.Test.YtancpkegjgmlmaaDoorWIm
namespace Go.Proofs.YtancpkegjgmlmaaDoor
open Go.RowKit
set_option linter.unusedVariables false

theorem bsetU {w w' : World} {c o : Nat} {u : Value} (h : Below w.heap.size w w') (hc : w.heap.size ≤ c) : Below w.heap.size w (w'.setCell ⟨c, o, none⟩ u) := h.setCell hc _
theorem results_ctU {fn : Func} {p u : Tmp} {ty : TypeId} (h : fn.results = #[.cell p ty, .tmp u]) (tmps : Array Value) (P : Program) (w : World) :
    (results fn tmps).run P w = ((asAddr (tmps.getD p undef)).run P w).andThen fun a w1 => ((loadVar ty a).run P w1).andThen fun v w2 => .ok (.tuple #[v, tmps.getD u undef]) w2 := by
  simp only [results, h]
  simp [Sem.run_bind]
/-- what Parse tells: the number whose text it is, or an error -/
def PZ (s : ByteArray) (w : World) (e : Ending) (w' : World) : Prop :=
  (∃ t V a, e = .returned (.tuple #[.agg #[.bool t, .slice a (ln V) (ln V)], .int .i64 0]) ∧ New w w' a V (ln V) ∧ isTz t V s ∧ ln V ≤ s.size) ∨ (e = .returned (.tuple #[.agg #[.bool false, .slice none 0 0], .int .i64 15]) ∧ Below w.heap.size w w')
/-- what Parse tells of a number's text -/
def PG (t : Bool) (V : Nat) (w : World) (e : Ending) (w' : World) : Prop :=
  ∃ a, e = .returned (.tuple #[.agg #[.bool t, .slice a (ln V) (ln V)], .int .i64 0]) ∧ New w w' a V (ln V)
theorem val_ln {t : ByteArray} (h : isT 10 t) : ln (val 10 t) ≤ t.size := ln_dig (by omega) (val_lt h.2.2)
set_option maxHeartbeats 4000000 in
set_option maxRecDepth 100000 in
theorem wParse_pos (s : ByteArray) (w : World) (h : Digs w) (hs : s.size ≤ 140737488355328) (hm : ¬ (0 < s.size ∧ byt s 0 = 45)) (hT : isT 10 s) : Calls Tryd.prog 7 #[.string s] w (PG false (val 10 s) w) := by
  have H1 := hide' (fun w' => cutMinus_no s w' hm)
  have H2 := hide' (fun w' k => Parse_ok s 10 (by omega) (by omega) hs hT w' k)
  have hl := val_ln hT
  have HT := hide' hT
  obtain ⟨V, hV⟩ : ∃ V, val 10 s = V := ⟨_, rfl⟩
  rw [hV] at H2 hl ⊢
  have HV := hide' hV
  clear hm hT hV
  have HH := hide' h
  clear h
  go_enter Tryd.func7, Tryd.ntmps7
  go_wp2_with fail
  obtain ⟨W, hW⟩ : ∃ W, (w.alloc (.cells #[.bool false, .slice none 0 0] 25)) = W := ⟨_, rfl⟩
  have r00 : W.cell? ⟨w.heap.size, 0, none⟩ = some (.bool false) := by subst hW; go_simp
  have r01 : W.cell? ⟨w.heap.size, 1, none⟩ = some (.slice none 0 0) := by subst hW; go_simp
  have hB : Below w.heap.size w W := by subst hW; exact ((Below.refl _ _).alloc (by (try simp only [World.size_alloc]); omega) _)
  have hR0 : Row W (w.heap.size) := by
    have := row_new (w) #[.bool false, .slice none 0 0] 25
    try simp only [World.size_alloc] at this
    subst hW; exact this
  have hz : W.heap.size = w.heap.size + 1 := by subst hW; simp only [World.size_alloc]
  rw [hW]
  clear hW
  have hBW : Below W.heap.size W W := Below.refl _ _
  refine (H1.out _).mono ?_
  rintro e w41 ⟨rfl, rfl⟩
  go_wp2_with fail
  refine (H2.out _ (HH.out.below (hB.trans (hBW.mono hB.size)))).mono ?_
  rintro e w41 ⟨p41, rfl, hp41⟩
  have b41 := hp41.below
  replace hp41 := hp41.back hBW
  replace hBW := hBW.trans (b41.mono hBW.size)
  replace r00 := below_cell b41 r00
  replace r01 := below_cell b41 r01
  replace hR0 := below_row b41 hR0
  go_wp2_with fail
  refine (signed0 p41 (ln V) (ln V) _ (by omega)).mono ?_
  rintro e w42 ⟨rfl, b42⟩
  replace hBW := hBW.trans (b42.mono hBW.size)
  replace r00 := below_cell b42 r00
  replace r01 := below_cell b42 r01
  replace hR0 := below_row b42 hR0
  replace hp41 := hp41.later b42
  have fz0 := fun o => hR0.frozen o
  go_wp2
  all_goals refine bodyPost_ret (v := .tuple #[.agg #[.bool false, .slice p41 (ln V) (ln V)], .int .i64 0]) (by rw [results_ctU rfl]; go_simp) rfl ?_
  all_goals exact ⟨p41, rfl, hp41.mid hB ((((Mid.refl _ _ _).set _ _ (by omega) (by omega) _).set _ _ (by omega) (by omega) _))⟩

set_option maxHeartbeats 4000000 in
set_option maxRecDepth 100000 in
theorem wParse_bad (s : ByteArray) (w : World) (h : Digs w) (hs : s.size ≤ 140737488355328) (hm : ¬ (0 < s.size ∧ byt s 0 = 45)) (hT : ¬ isT 10 s) : Calls Tryd.prog 7 #[.string s] w (PZ s w) := by
  have H1 := hide' (fun w' => cutMinus_no s w' hm)
  have hse : s.size ≤ s.size := Nat.le_refl _
  have H2 := hide' (fun w' k => Parse_bad s 10 (by omega) (by omega) (by omega) hT w' k)
  obtain ⟨d, hd⟩ : ∃ d, s = d := ⟨_, rfl⟩
  clear hm hT hd hse
  have HH := hide' h
  clear h
  go_enter Tryd.func7, Tryd.ntmps7
  go_wp2_with fail
  obtain ⟨W, hW⟩ : ∃ W, (w.alloc (.cells #[.bool false, .slice none 0 0] 25)) = W := ⟨_, rfl⟩
  have r00 : W.cell? ⟨w.heap.size, 0, none⟩ = some (.bool false) := by subst hW; go_simp
  have r01 : W.cell? ⟨w.heap.size, 1, none⟩ = some (.slice none 0 0) := by subst hW; go_simp
  have hB : Below w.heap.size w W := by subst hW; exact ((Below.refl _ _).alloc (by (try simp only [World.size_alloc]); omega) _)
  have hR0 : Row W (w.heap.size) := by
    have := row_new (w) #[.bool false, .slice none 0 0] 25
    try simp only [World.size_alloc] at this
    subst hW; exact this
  have hz : W.heap.size = w.heap.size + 1 := by subst hW; simp only [World.size_alloc]
  rw [hW]
  clear hW
  have hBW : Below W.heap.size W W := Below.refl _ _
  refine (H1.out _).mono ?_
  rintro e w41 ⟨rfl, rfl⟩
  go_wp2_with fail
  refine (H2.out _ (HH.out.below (hB.trans (hBW.mono hB.size)))).mono ?_
  rintro e w41 ⟨rfl, b41⟩
  replace hBW := hBW.trans (b41.mono hBW.size)
  replace r00 := below_cell b41 r00
  replace r01 := below_cell b41 r01
  replace hR0 := below_row b41 hR0
  have fz0 := fun o => hR0.frozen o
  go_wp2
  all_goals refine bodyPost_ret (v := .tuple #[.agg #[.bool false, .slice none 0 0], .int .i64 15]) (by rw [results_ctU rfl]; go_simp) rfl ?_
  all_goals exact .inr ⟨rfl, ((bsetU (bsetU (hB.trans (hBW.mono hB.size)) (by omega)) (by omega)))⟩

set_option maxHeartbeats 4000000 in
set_option maxRecDepth 100000 in
theorem wParse_nbad (s : ByteArray) (w : World) (h : Digs w) (hs : s.size ≤ 140737488355328) (h0 : 0 < s.size) (hm : byt s 0 = 45) (hT : ¬ isT 10 (s.extract 1 s.size)) : Calls Tryd.prog 7 #[.string s] w (PZ s w) := by
  have H1 := hide' (fun w' => cutMinus_yes s w' h0 hm)
  have hse : (s.extract 1 s.size).size ≤ s.size := by rw [ByteArray.size_extract]; omega
  have H2 := hide' (fun w' k => Parse_bad (s.extract 1 s.size) 10 (by omega) (by omega) (by omega) hT w' k)
  obtain ⟨d, hd⟩ : ∃ d, (s.extract 1 s.size) = d := ⟨_, rfl⟩
  rw [hd] at H1 H2
  clear hm hT hd hse
  have HH := hide' h
  clear h
  go_enter Tryd.func7, Tryd.ntmps7
  go_wp2_with fail
  obtain ⟨W, hW⟩ : ∃ W, (w.alloc (.cells #[.bool false, .slice none 0 0] 25)) = W := ⟨_, rfl⟩
  have r00 : W.cell? ⟨w.heap.size, 0, none⟩ = some (.bool false) := by subst hW; go_simp
  have r01 : W.cell? ⟨w.heap.size, 1, none⟩ = some (.slice none 0 0) := by subst hW; go_simp
  have hB : Below w.heap.size w W := by subst hW; exact ((Below.refl _ _).alloc (by (try simp only [World.size_alloc]); omega) _)
  have hR0 : Row W (w.heap.size) := by
    have := row_new (w) #[.bool false, .slice none 0 0] 25
    try simp only [World.size_alloc] at this
    subst hW; exact this
  have hz : W.heap.size = w.heap.size + 1 := by subst hW; simp only [World.size_alloc]
  rw [hW]
  clear hW
  have hBW : Below W.heap.size W W := Below.refl _ _
  refine (H1.out _).mono ?_
  rintro e w41 ⟨rfl, rfl⟩
  go_wp2_with fail
  refine (H2.out _ (HH.out.below (hB.trans (hBW.mono hB.size)))).mono ?_
  rintro e w41 ⟨rfl, b41⟩
  replace hBW := hBW.trans (b41.mono hBW.size)
  replace r00 := below_cell b41 r00
  replace r01 := below_cell b41 r01
  replace hR0 := below_row b41 hR0
  have fz0 := fun o => hR0.frozen o
  go_wp2
  all_goals refine bodyPost_ret (v := .tuple #[.agg #[.bool false, .slice none 0 0], .int .i64 15]) (by rw [results_ctU rfl]; go_simp) rfl ?_
  all_goals exact .inr ⟨rfl, ((bsetU (bsetU (hB.trans (hBW.mono hB.size)) (by omega)) (by omega)))⟩

set_option maxHeartbeats 4000000 in
set_option maxRecDepth 100000 in
theorem wParse_nzero (s : ByteArray) (w : World) (h : Digs w) (hs : s.size ≤ 140737488355328) (h0 : 0 < s.size) (hm : byt s 0 = 45) (hT : isT 10 (s.extract 1 s.size)) (hv0 : val 10 (s.extract 1 s.size) = 0) : Calls Tryd.prog 7 #[.string s] w (PZ s w) := by
  have H1 := hide' (fun w' => cutMinus_yes s w' h0 hm)
  have hse : (s.extract 1 s.size).size ≤ s.size := by rw [ByteArray.size_extract]; omega
  have H2 := hide' (fun w' k => Parse_ok (s.extract 1 s.size) 10 (by omega) (by omega) (by omega) hT w' k)
  have hl := val_ln hT
  have HTx := hide' (hT.isTx (by omega) (by omega))
  have HC := hide' (ext_cons h0 hm)
  obtain ⟨V, hV⟩ : ∃ V, val 10 (s.extract 1 s.size) = V := ⟨_, rfl⟩
  rw [hV] at H2 hl hv0 HTx
  obtain ⟨d, hd⟩ : ∃ d, s.extract 1 s.size = d := ⟨_, rfl⟩
  rw [hd] at H1 H2 HTx HC hl hse
  clear hm hT hV hd
  subst hv0
  rw [ln_zero] at H2
  have HH := hide' h
  clear h
  go_enter Tryd.func7, Tryd.ntmps7
  go_wp2_with fail
  obtain ⟨W, hW⟩ : ∃ W, (w.alloc (.cells #[.bool false, .slice none 0 0] 25)) = W := ⟨_, rfl⟩
  have r00 : W.cell? ⟨w.heap.size, 0, none⟩ = some (.bool false) := by subst hW; go_simp
  have r01 : W.cell? ⟨w.heap.size, 1, none⟩ = some (.slice none 0 0) := by subst hW; go_simp
  have hB : Below w.heap.size w W := by subst hW; exact ((Below.refl _ _).alloc (by (try simp only [World.size_alloc]); omega) _)
  have hR0 : Row W (w.heap.size) := by
    have := row_new (w) #[.bool false, .slice none 0 0] 25
    try simp only [World.size_alloc] at this
    subst hW; exact this
  have hz : W.heap.size = w.heap.size + 1 := by subst hW; simp only [World.size_alloc]
  rw [hW]
  clear hW
  have hBW : Below W.heap.size W W := Below.refl _ _
  refine (H1.out _).mono ?_
  rintro e w41 ⟨rfl, rfl⟩
  go_wp2_with fail
  refine (H2.out _ (HH.out.below (hB.trans (hBW.mono hB.size)))).mono ?_
  rintro e w41 ⟨p41, rfl, hp41⟩
  have b41 := hp41.below
  replace hp41 := hp41.back hBW
  replace hBW := hBW.trans (b41.mono hBW.size)
  replace r00 := below_cell b41 r00
  replace r01 := below_cell b41 r01
  replace hR0 := below_row b41 hR0
  have fz0 := fun o => hR0.frozen o
  go_wp2
  all_goals refine bodyPost_ret (v := .tuple #[.agg #[.bool false, .slice none 0 0], .int .i64 15]) (by rw [results_ctU rfl]; go_simp) rfl ?_
  all_goals exact .inr ⟨rfl, ((bsetU (bsetU (hB.trans (hBW.mono hB.size)) (by omega)) (by omega)))⟩

set_option maxHeartbeats 4000000 in
set_option maxRecDepth 100000 in
theorem wParse_neg (s : ByteArray) (w : World) (h : Digs w) (hs : s.size ≤ 140737488355328) (h0 : 0 < s.size) (hm : byt s 0 = 45) (hT : isT 10 (s.extract 1 s.size)) (hv0 : val 10 (s.extract 1 s.size) ≠ 0) : Calls Tryd.prog 7 #[.string s] w (PG true (val 10 (s.extract 1 s.size)) w) := by
  have H1 := hide' (fun w' => cutMinus_yes s w' h0 hm)
  have hse : (s.extract 1 s.size).size ≤ s.size := by rw [ByteArray.size_extract]; omega
  have H2 := hide' (fun w' k => Parse_ok (s.extract 1 s.size) 10 (by omega) (by omega) (by omega) hT w' k)
  have hl := val_ln hT
  have HTx := hide' (hT.isTx (by omega) (by omega))
  have HC := hide' (ext_cons h0 hm)
  obtain ⟨V, hV⟩ : ∃ V, val 10 (s.extract 1 s.size) = V := ⟨_, rfl⟩
  rw [hV] at H2 hl hv0 HTx ⊢
  obtain ⟨d, hd⟩ : ∃ d, s.extract 1 s.size = d := ⟨_, rfl⟩
  rw [hd] at H1 H2 HTx HC hl hse
  clear hm hT hV hd
  have hlp : 0 < ln V := Nat.pos_of_ne_zero (fun e => hv0 (ln_eq_zero.1 e))
  have hlb : ((ln V : Int) == 0) = false := by rw [beq_eq_false_iff_ne]; omega
  have hlc : ¬ ((ln V : Int) = 0) := by omega
  have hld : decide (0 < ln V) = true := decide_eq_true hlp
  have hle2 : ¬ (ln V = 0) := by omega
  have HH := hide' h
  clear h
  go_enter Tryd.func7, Tryd.ntmps7
  go_wp2_with fail
  obtain ⟨W, hW⟩ : ∃ W, (w.alloc (.cells #[.bool false, .slice none 0 0] 25)) = W := ⟨_, rfl⟩
  have r00 : W.cell? ⟨w.heap.size, 0, none⟩ = some (.bool false) := by subst hW; go_simp
  have r01 : W.cell? ⟨w.heap.size, 1, none⟩ = some (.slice none 0 0) := by subst hW; go_simp
  have hB : Below w.heap.size w W := by subst hW; exact ((Below.refl _ _).alloc (by (try simp only [World.size_alloc]); omega) _)
  have hR0 : Row W (w.heap.size) := by
    have := row_new (w) #[.bool false, .slice none 0 0] 25
    try simp only [World.size_alloc] at this
    subst hW; exact this
  have hz : W.heap.size = w.heap.size + 1 := by subst hW; simp only [World.size_alloc]
  rw [hW]
  clear hW
  have hBW : Below W.heap.size W W := Below.refl _ _
  refine (H1.out _).mono ?_
  rintro e w41 ⟨rfl, rfl⟩
  go_wp2_with fail
  refine (H2.out _ (HH.out.below (hB.trans (hBW.mono hB.size)))).mono ?_
  rintro e w41 ⟨p41, rfl, hp41⟩
  have b41 := hp41.below
  replace hp41 := hp41.back hBW
  replace hBW := hBW.trans (b41.mono hBW.size)
  replace r00 := below_cell b41 r00
  replace r01 := below_cell b41 r01
  replace hR0 := below_row b41 hR0
  have HS := hide' (signed1 p41 (ln V) (ln V) true w41 (by omega))
  rw [hld] at HS
  go_wp2_with fail
  refine HS.out.mono ?_
  rintro e w42 ⟨rfl, b42⟩
  replace hBW := hBW.trans (b42.mono hBW.size)
  replace r00 := below_cell b42 r00
  replace r01 := below_cell b42 r01
  replace hR0 := below_row b42 hR0
  replace hp41 := hp41.later b42
  have fz0 := fun o => hR0.frozen o
  go_wp2
  all_goals refine bodyPost_ret (v := .tuple #[.agg #[.bool true, .slice p41 (ln V) (ln V)], .int .i64 0]) (by rw [results_ctU rfl]; go_simp) rfl ?_
  all_goals exact ⟨p41, rfl, hp41.mid hB ((((Mid.refl _ _ _).set _ _ (by omega) (by omega) _).set _ _ (by omega) (by omega) _))⟩

theorem wParse_any (s : ByteArray) (w : World) (h : Digs w) (hs : s.size ≤ 140737488355328) : Calls Tryd.prog 7 #[.string s] w (PZ s w) := by
  by_cases hm : 0 < s.size ∧ byt s 0 = 45
  · by_cases hT : isT 10 (s.extract 1 s.size)
    · by_cases hz : val 10 (s.extract 1 s.size) = 0
      · exact wParse_nzero s w h hs hm.1 hm.2 hT hz
      · refine (wParse_neg s w h hs hm.1 hm.2 hT hz).mono fun e w' ⟨a, he, hn⟩ => .inl ⟨true, _, a, he, hn, ⟨_, hT.isTx (by omega) (by omega), by rw [if_pos ⟨rfl, hz⟩]; exact (ext_cons hm.1 hm.2).symm⟩, ?_⟩
        have h1 := val_ln hT
        have h2 : (s.extract 1 s.size).size ≤ s.size := by rw [ByteArray.size_extract]; omega
        omega
    · exact wParse_nbad s w h hs hm.1 hm.2 hT
  · by_cases hT : isT 10 s
    · exact (wParse_pos s w h hs hm hT).mono fun e w' ⟨a, he, hn⟩ => .inl ⟨false, _, a, he, hn, ⟨s, hT.isTx (by omega) (by omega), by rw [if_neg (by simp)]⟩, val_ln hT⟩
    · exact wParse_bad s w h hs hm hT
end Go.Proofs.YtancpkegjgmlmaaDoor
