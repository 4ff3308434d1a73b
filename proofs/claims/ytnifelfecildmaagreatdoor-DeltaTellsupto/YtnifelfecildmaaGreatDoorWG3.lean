/-
  Layer 5: Small of any list of gaps.
-/
import Derived.Test.YtnifelfecildmaaGreatDoorWG1
namespace Go.Proofs.YtnifelfecildmaaGreatDoor
open Go.RowKit
set_option linter.unusedVariables false
set_option linter.unusedSimpArgs false

theorem bad_cmp (g : GapV) : 0 < cmpD g.lo.val g.hi.val ↔ badG g.val := cmpD_gt _ _
theorem lt_sR (r t : Rat) : sR (r - t) < 0 ↔ r < t := by
  rcases sR_cases (r - t) with ⟨h, e⟩ | ⟨h, e⟩ | ⟨h, e⟩ <;> rw [e]
  · exact ⟨fun _ => by grind, fun _ => by omega⟩
  · exact ⟨fun k => absurd k (by omega), fun k => by grind⟩
  · exact ⟨fun k => absurd k (by omega), fun k => by grind⟩
theorem nR_short {r : Rat} {p q : Option Addr} (h : sz 8388622 r) : (nR r p q).n ≤ 100000000 ∧ (nR r p q).m ≤ 100000000 := ⟨Nat.le_trans h.1 (by omega), Nat.le_trans h.2 (by omega)⟩
set_option maxHeartbeats 2000000 in
set_option maxRecDepth 100000 in
theorem look_bad (g : GapV) (c : Nat) (w : World) (hg : g.ok w) (hk : g.tiny) (hb : badG g.val) : Calls Tryz.prog 25 #[.agg #[.bool g.lo.a.s, .slice g.lo.a.a g.lo.a.n g.lo.a.c, .slice g.lo.a.b g.lo.a.m g.lo.a.e, .bool g.lo.b.s, .slice g.lo.b.a g.lo.b.n g.lo.b.c, .slice g.lo.b.b g.lo.b.m g.lo.b.e, .bool g.hi.a.s, .slice g.hi.a.a g.hi.a.n g.hi.a.c, .slice g.hi.a.b g.hi.a.m g.hi.a.e, .bool g.hi.b.s, .slice g.hi.b.a g.hi.b.n g.hi.b.c, .slice g.hi.b.b g.hi.b.m g.hi.b.e], .pointer (some ⟨c, 0, none⟩)] w fun e w1 => e = .returned (.int .i64 51) ∧ Below w.heap.size w w1 := by
  have G1 := hide' (fun w' (hb : Below w.heap.size w w') => cmpDq g.lo g.hi w' (hg.1.on hb) (hg.2.on hb) hk.1.short hk.2.short)
  have hbc := bad_cmp g
  obtain ⟨C, hC⟩ : ∃ C, cmpD g.lo.val g.hi.val = C := ⟨_, rfl⟩
  rw [hC] at G1 hbc
  have hc1 : 0 < C := by exact hbc.2 hb
  clear hbc hC
  clear hg hk hb
  go_enter Tryz.func25, Tryz.ntmps25
  go_wp2_with fail
  obtain ⟨wA, hwA⟩ : ∃ wA, w.alloc (.cells #[.bool g.lo.a.s, .slice g.lo.a.a g.lo.a.n g.lo.a.c, .slice g.lo.a.b g.lo.a.m g.lo.a.e, .bool g.lo.b.s, .slice g.lo.b.a g.lo.b.n g.lo.b.c, .slice g.lo.b.b g.lo.b.m g.lo.b.e, .bool g.hi.a.s, .slice g.hi.a.a g.hi.a.n g.hi.a.c, .slice g.hi.a.b g.hi.a.m g.hi.a.e, .bool g.hi.b.s, .slice g.hi.b.a g.hi.b.n g.hi.b.c, .slice g.hi.b.b g.hi.b.m g.hi.b.e] 42) = wA := ⟨_, rfl⟩
  have hB : Below w.heap.size w wA := by subst hwA; exact below_alloc _
  have d0 : wA.cell? ⟨w.heap.size, 0, none⟩ = some (.bool g.lo.a.s) := by subst hwA; go_simp
  have d1 : wA.cell? ⟨w.heap.size, 1, none⟩ = some (.slice g.lo.a.a g.lo.a.n g.lo.a.c) := by subst hwA; go_simp
  have d2 : wA.cell? ⟨w.heap.size, 2, none⟩ = some (.slice g.lo.a.b g.lo.a.m g.lo.a.e) := by subst hwA; go_simp
  have d3 : wA.cell? ⟨w.heap.size, 3, none⟩ = some (.bool g.lo.b.s) := by subst hwA; go_simp
  have d4 : wA.cell? ⟨w.heap.size, 4, none⟩ = some (.slice g.lo.b.a g.lo.b.n g.lo.b.c) := by subst hwA; go_simp
  have d5 : wA.cell? ⟨w.heap.size, 5, none⟩ = some (.slice g.lo.b.b g.lo.b.m g.lo.b.e) := by subst hwA; go_simp
  have d6 : wA.cell? ⟨w.heap.size, 6, none⟩ = some (.bool g.hi.a.s) := by subst hwA; go_simp
  have d7 : wA.cell? ⟨w.heap.size, 7, none⟩ = some (.slice g.hi.a.a g.hi.a.n g.hi.a.c) := by subst hwA; go_simp
  have d8 : wA.cell? ⟨w.heap.size, 8, none⟩ = some (.slice g.hi.a.b g.hi.a.m g.hi.a.e) := by subst hwA; go_simp
  have d9 : wA.cell? ⟨w.heap.size, 9, none⟩ = some (.bool g.hi.b.s) := by subst hwA; go_simp
  have d10 : wA.cell? ⟨w.heap.size, 10, none⟩ = some (.slice g.hi.b.a g.hi.b.n g.hi.b.c) := by subst hwA; go_simp
  have d11 : wA.cell? ⟨w.heap.size, 11, none⟩ = some (.slice g.hi.b.b g.hi.b.m g.hi.b.e) := by subst hwA; go_simp
  rw [hwA]
  clear hwA
  refine (G1.out _ hB).mono ?_
  rintro e w1 ⟨rfl, b1⟩
  go_wp2
  go_ret
  exact ⟨rfl, hB.trans (b1.mono hB.size)⟩
set_option maxHeartbeats 2000000 in
set_option maxRecDepth 100000 in
theorem look_wide (g : GapV) (c : Nat) (r : Rat) (p q : Option Addr) (w : World) (hg : g.ok w) (hk : g.tiny) (hb : ¬ badG g.val) (hT : Thr w c (.bool (ng r.num)) (.slice p (ln (am r.num)) (ln (am r.num))) (.slice q (ln r.den) (ln r.den))) (hr : (nR r p q).ok w) (hs : sz 8388622 r) (hn : ¬ nar g.val) : Calls Tryz.prog 25 #[.agg #[.bool g.lo.a.s, .slice g.lo.a.a g.lo.a.n g.lo.a.c, .slice g.lo.a.b g.lo.a.m g.lo.a.e, .bool g.lo.b.s, .slice g.lo.b.a g.lo.b.n g.lo.b.c, .slice g.lo.b.b g.lo.b.m g.lo.b.e, .bool g.hi.a.s, .slice g.hi.a.a g.hi.a.n g.hi.a.c, .slice g.hi.a.b g.hi.a.m g.hi.a.e, .bool g.hi.b.s, .slice g.hi.b.a g.hi.b.n g.hi.b.c, .slice g.hi.b.b g.hi.b.m g.hi.b.e], .pointer (some ⟨c, 0, none⟩)] w (fun e w1 => e = .returned (.int .i64 0) ∧ ∃ p' q', Below c w w1 ∧ Thr w1 c (.bool (ng r.num)) (.slice p' (ln (am r.num)) (ln (am r.num))) (.slice q' (ln r.den) (ln r.den)) ∧ (nR r p' q').ok w1) := by
  have G1 := hide' (fun w' (hb : Below w.heap.size w w') => cmpDq g.lo g.hi w' (hg.1.on hb) (hg.2.on hb) hk.1.short hk.2.short)
  have hbc := bad_cmp g
  obtain ⟨C, hC⟩ : ∃ C, cmpD g.lo.val g.hi.val = C := ⟨_, rfl⟩
  rw [hC] at G1 hbc
  have hc1 : ¬ 0 < C := by exact fun h => hb (hbc.1 h)
  clear hbc hC
  have G2 := hide' (fun w' (hb : Below w.heap.size w w') => show Calls Tryz.prog 26 #[.agg #[.bool g.lo.a.s, .slice g.lo.a.a g.lo.a.n g.lo.a.c, .slice g.lo.a.b g.lo.a.m g.lo.a.e, .bool g.lo.b.s, .slice g.lo.b.a g.lo.b.n g.lo.b.c, .slice g.lo.b.b g.lo.b.m g.lo.b.e, .bool g.hi.a.s, .slice g.hi.a.a g.hi.a.n g.hi.a.c, .slice g.hi.a.b g.hi.a.m g.hi.a.e, .bool g.hi.b.s, .slice g.hi.b.a g.hi.b.n g.hi.b.c, .slice g.hi.b.b g.hi.b.m g.hi.b.e]] w' fun e w1 => e = .returned (.bool false) ∧ Below w'.heap.size w' w1 by have h := narrows_is g w' (hg.on hb) hk; rw [decide_eq_false hn] at h; exact h)
  have hcl := hT.2.lt
  clear hg hk hb hn
  go_enter Tryz.func25, Tryz.ntmps25
  go_wp2_with fail
  obtain ⟨wA, hwA⟩ : ∃ wA, w.alloc (.cells #[.bool g.lo.a.s, .slice g.lo.a.a g.lo.a.n g.lo.a.c, .slice g.lo.a.b g.lo.a.m g.lo.a.e, .bool g.lo.b.s, .slice g.lo.b.a g.lo.b.n g.lo.b.c, .slice g.lo.b.b g.lo.b.m g.lo.b.e, .bool g.hi.a.s, .slice g.hi.a.a g.hi.a.n g.hi.a.c, .slice g.hi.a.b g.hi.a.m g.hi.a.e, .bool g.hi.b.s, .slice g.hi.b.a g.hi.b.n g.hi.b.c, .slice g.hi.b.b g.hi.b.m g.hi.b.e] 42) = wA := ⟨_, rfl⟩
  have hB : Below w.heap.size w wA := by subst hwA; exact below_alloc _
  have d0 : wA.cell? ⟨w.heap.size, 0, none⟩ = some (.bool g.lo.a.s) := by subst hwA; go_simp
  have d1 : wA.cell? ⟨w.heap.size, 1, none⟩ = some (.slice g.lo.a.a g.lo.a.n g.lo.a.c) := by subst hwA; go_simp
  have d2 : wA.cell? ⟨w.heap.size, 2, none⟩ = some (.slice g.lo.a.b g.lo.a.m g.lo.a.e) := by subst hwA; go_simp
  have d3 : wA.cell? ⟨w.heap.size, 3, none⟩ = some (.bool g.lo.b.s) := by subst hwA; go_simp
  have d4 : wA.cell? ⟨w.heap.size, 4, none⟩ = some (.slice g.lo.b.a g.lo.b.n g.lo.b.c) := by subst hwA; go_simp
  have d5 : wA.cell? ⟨w.heap.size, 5, none⟩ = some (.slice g.lo.b.b g.lo.b.m g.lo.b.e) := by subst hwA; go_simp
  have d6 : wA.cell? ⟨w.heap.size, 6, none⟩ = some (.bool g.hi.a.s) := by subst hwA; go_simp
  have d7 : wA.cell? ⟨w.heap.size, 7, none⟩ = some (.slice g.hi.a.a g.hi.a.n g.hi.a.c) := by subst hwA; go_simp
  have d8 : wA.cell? ⟨w.heap.size, 8, none⟩ = some (.slice g.hi.a.b g.hi.a.m g.hi.a.e) := by subst hwA; go_simp
  have d9 : wA.cell? ⟨w.heap.size, 9, none⟩ = some (.bool g.hi.b.s) := by subst hwA; go_simp
  have d10 : wA.cell? ⟨w.heap.size, 10, none⟩ = some (.slice g.hi.b.a g.hi.b.n g.hi.b.c) := by subst hwA; go_simp
  have d11 : wA.cell? ⟨w.heap.size, 11, none⟩ = some (.slice g.hi.b.b g.hi.b.m g.hi.b.e) := by subst hwA; go_simp
  rw [hwA]
  clear hwA
  replace hT := hT.later hB
  replace hr := hr.on hB
  refine (G1.out _ hB).mono ?_
  rintro e w1 ⟨rfl, b1⟩
  replace d0 := below_cell b1 d0
  replace d1 := below_cell b1 d1
  replace d2 := below_cell b1 d2
  replace d3 := below_cell b1 d3
  replace d4 := below_cell b1 d4
  replace d5 := below_cell b1 d5
  replace d6 := below_cell b1 d6
  replace d7 := below_cell b1 d7
  replace d8 := below_cell b1 d8
  replace d9 := below_cell b1 d9
  replace d10 := below_cell b1 d10
  replace d11 := below_cell b1 d11
  replace hT := hT.later b1
  replace hr := hr.on b1
  replace hB := hB.trans (b1.mono hB.size)
  clear b1
  go_wp2_with fail
  refine (G2.out _ hB).mono ?_
  rintro e w2 ⟨rfl, b2⟩
  replace hT := hT.later b2
  replace hr := hr.on b2
  replace hB := hB.trans (b2.mono hB.size)
  clear b2
  go_wp2
  go_ret
  exact ⟨rfl, p, q, hB.mono (Nat.le_of_lt hcl), hT, hr⟩
set_option maxHeartbeats 4000000 in
set_option maxRecDepth 100000 in
theorem look_more (g : GapV) (c : Nat) (r : Rat) (p q : Option Addr) (w : World) (hg : g.ok w) (hk : g.tiny) (hb : ¬ badG g.val) (hT : Thr w c (.bool (ng r.num)) (.slice p (ln (am r.num)) (ln (am r.num))) (.slice q (ln r.den) (ln r.den))) (hr : (nR r p q).ok w) (hs : sz 8388622 r) (hn : nar g.val) (hl : ¬ shutR g.val < r) : Calls Tryz.prog 25 #[.agg #[.bool g.lo.a.s, .slice g.lo.a.a g.lo.a.n g.lo.a.c, .slice g.lo.a.b g.lo.a.m g.lo.a.e, .bool g.lo.b.s, .slice g.lo.b.a g.lo.b.n g.lo.b.c, .slice g.lo.b.b g.lo.b.m g.lo.b.e, .bool g.hi.a.s, .slice g.hi.a.a g.hi.a.n g.hi.a.c, .slice g.hi.a.b g.hi.a.m g.hi.a.e, .bool g.hi.b.s, .slice g.hi.b.a g.hi.b.n g.hi.b.c, .slice g.hi.b.b g.hi.b.m g.hi.b.e], .pointer (some ⟨c, 0, none⟩)] w (fun e w1 => e = .returned (.int .i64 0) ∧ ∃ p' q', Below c w w1 ∧ Thr w1 c (.bool (ng r.num)) (.slice p' (ln (am r.num)) (ln (am r.num))) (.slice q' (ln r.den) (ln r.den)) ∧ (nR r p' q').ok w1) := by
  have G1 := hide' (fun w' (hb : Below w.heap.size w w') => cmpDq g.lo g.hi w' (hg.1.on hb) (hg.2.on hb) hk.1.short hk.2.short)
  have hbc := bad_cmp g
  obtain ⟨C, hC⟩ : ∃ C, cmpD g.lo.val g.hi.val = C := ⟨_, rfl⟩
  rw [hC] at G1 hbc
  have hc1 : ¬ 0 < C := by exact fun h => hb (hbc.1 h)
  clear hbc hC
  have G2 := hide' (fun w' (hb : Below w.heap.size w w') => show Calls Tryz.prog 26 #[.agg #[.bool g.lo.a.s, .slice g.lo.a.a g.lo.a.n g.lo.a.c, .slice g.lo.a.b g.lo.a.m g.lo.a.e, .bool g.lo.b.s, .slice g.lo.b.a g.lo.b.n g.lo.b.c, .slice g.lo.b.b g.lo.b.m g.lo.b.e, .bool g.hi.a.s, .slice g.hi.a.a g.hi.a.n g.hi.a.c, .slice g.hi.a.b g.hi.a.m g.hi.a.e, .bool g.hi.b.s, .slice g.hi.b.a g.hi.b.n g.hi.b.c, .slice g.hi.b.b g.hi.b.m g.hi.b.e]] w' fun e w1 => e = .returned (.bool true) ∧ Below w'.heap.size w' w1 by have h := narrows_is g w' (hg.on hb) hk; rw [decide_eq_true hn] at h; exact h)
  have G3 := hide' (fun w' (hb : Below w.heap.size w w') => shut_is g w' (hg.on hb) hk hn)
  have s3 := shut_sz hg hk hn
  obtain ⟨S, hS⟩ : ∃ S, shutR g.val = S := ⟨_, rfl⟩
  rw [hS] at G3 s3 hl
  clear hS
  have G4 := hide' (fun w' p1 q1 (k : (nR S p1 q1).ok w') (k2 : (nR r p q).ok w') => cmpQ (nR S p1 q1) (nR r p q) w' k k2 ⟨(nR_short s3).1, (nR_short s3).2, (nR_short hs).1, (nR_short hs).2⟩ _ rfl)
  simp only [nR_val] at G4
  have hlt := lt_sR S r
  obtain ⟨E, hE⟩ : ∃ E, sR (S - r) = E := ⟨_, rfl⟩
  rw [hE] at G4 hlt
  have hc2 : ¬ E < 0 := fun h => hl (hlt.1 h)
  clear hlt hE hl s3 hs
  have hcl := hT.2.lt
  clear hg hk hb hn
  go_enter Tryz.func25, Tryz.ntmps25
  go_wp2_with fail
  obtain ⟨wA, hwA⟩ : ∃ wA, w.alloc (.cells #[.bool g.lo.a.s, .slice g.lo.a.a g.lo.a.n g.lo.a.c, .slice g.lo.a.b g.lo.a.m g.lo.a.e, .bool g.lo.b.s, .slice g.lo.b.a g.lo.b.n g.lo.b.c, .slice g.lo.b.b g.lo.b.m g.lo.b.e, .bool g.hi.a.s, .slice g.hi.a.a g.hi.a.n g.hi.a.c, .slice g.hi.a.b g.hi.a.m g.hi.a.e, .bool g.hi.b.s, .slice g.hi.b.a g.hi.b.n g.hi.b.c, .slice g.hi.b.b g.hi.b.m g.hi.b.e] 42) = wA := ⟨_, rfl⟩
  have hB : Below w.heap.size w wA := by subst hwA; exact below_alloc _
  have d0 : wA.cell? ⟨w.heap.size, 0, none⟩ = some (.bool g.lo.a.s) := by subst hwA; go_simp
  have d1 : wA.cell? ⟨w.heap.size, 1, none⟩ = some (.slice g.lo.a.a g.lo.a.n g.lo.a.c) := by subst hwA; go_simp
  have d2 : wA.cell? ⟨w.heap.size, 2, none⟩ = some (.slice g.lo.a.b g.lo.a.m g.lo.a.e) := by subst hwA; go_simp
  have d3 : wA.cell? ⟨w.heap.size, 3, none⟩ = some (.bool g.lo.b.s) := by subst hwA; go_simp
  have d4 : wA.cell? ⟨w.heap.size, 4, none⟩ = some (.slice g.lo.b.a g.lo.b.n g.lo.b.c) := by subst hwA; go_simp
  have d5 : wA.cell? ⟨w.heap.size, 5, none⟩ = some (.slice g.lo.b.b g.lo.b.m g.lo.b.e) := by subst hwA; go_simp
  have d6 : wA.cell? ⟨w.heap.size, 6, none⟩ = some (.bool g.hi.a.s) := by subst hwA; go_simp
  have d7 : wA.cell? ⟨w.heap.size, 7, none⟩ = some (.slice g.hi.a.a g.hi.a.n g.hi.a.c) := by subst hwA; go_simp
  have d8 : wA.cell? ⟨w.heap.size, 8, none⟩ = some (.slice g.hi.a.b g.hi.a.m g.hi.a.e) := by subst hwA; go_simp
  have d9 : wA.cell? ⟨w.heap.size, 9, none⟩ = some (.bool g.hi.b.s) := by subst hwA; go_simp
  have d10 : wA.cell? ⟨w.heap.size, 10, none⟩ = some (.slice g.hi.b.a g.hi.b.n g.hi.b.c) := by subst hwA; go_simp
  have d11 : wA.cell? ⟨w.heap.size, 11, none⟩ = some (.slice g.hi.b.b g.hi.b.m g.hi.b.e) := by subst hwA; go_simp
  rw [hwA]
  clear hwA
  replace hT := hT.later hB
  replace hr := hr.on hB
  refine (G1.out _ hB).mono ?_
  rintro e w1 ⟨rfl, b1⟩
  replace d0 := below_cell b1 d0
  replace d1 := below_cell b1 d1
  replace d2 := below_cell b1 d2
  replace d3 := below_cell b1 d3
  replace d4 := below_cell b1 d4
  replace d5 := below_cell b1 d5
  replace d6 := below_cell b1 d6
  replace d7 := below_cell b1 d7
  replace d8 := below_cell b1 d8
  replace d9 := below_cell b1 d9
  replace d10 := below_cell b1 d10
  replace d11 := below_cell b1 d11
  replace hT := hT.later b1
  replace hr := hr.on b1
  replace hB := hB.trans (b1.mono hB.size)
  clear b1
  go_wp2_with fail
  refine (G2.out _ hB).mono ?_
  rintro e w2 ⟨rfl, b2⟩
  replace d0 := below_cell b2 d0
  replace d1 := below_cell b2 d1
  replace d2 := below_cell b2 d2
  replace d3 := below_cell b2 d3
  replace d4 := below_cell b2 d4
  replace d5 := below_cell b2 d5
  replace d6 := below_cell b2 d6
  replace d7 := below_cell b2 d7
  replace d8 := below_cell b2 d8
  replace d9 := below_cell b2 d9
  replace d10 := below_cell b2 d10
  replace d11 := below_cell b2 d11
  replace hT := hT.later b2
  replace hr := hr.on b2
  replace hB := hB.trans (b2.mono hB.size)
  clear b2
  go_wp2_with fail
  refine (G3.out _ hB).mono ?_
  rintro e w3 ⟨p1, q1, rfl, b3, hS⟩
  replace hT := hT.later b3
  replace hr := hr.on b3
  replace hB := hB.trans (b3.mono hB.size)
  clear b3
  clear G1 G2 G3 d0 d1 d2 d3 d4 d5 d6 d7 d8 d9 d10 d11
  obtain ⟨wC, hwC⟩ : ∃ wC, w3.alloc (.cells #[.bool (ng S.num), .slice p1 (ln (am S.num)) (ln (am S.num)), .slice q1 (ln S.den) (ln S.den)] 28) = wC := ⟨_, rfl⟩
  have bC : Below w3.heap.size w3 wC := by subst hwC; exact below_alloc _
  have y0 : wC.cell? ⟨w3.heap.size, 0, none⟩ = some (.bool (ng S.num)) := by subst hwC; go_simp
  have y1 : wC.cell? ⟨w3.heap.size, 1, none⟩ = some (.slice p1 (ln (am S.num)) (ln (am S.num))) := by subst hwC; go_simp
  have y2 : wC.cell? ⟨w3.heap.size, 2, none⟩ = some (.slice q1 (ln S.den) (ln S.den)) := by subst hwC; go_simp
  have hs3 : c < w3.heap.size := hT.2.lt
  replace hS := hS.on bC
  replace hT := hT.later bC
  replace hr := hr.on bC
  replace hB := hB.trans (bC.mono hB.size)
  clear bC
  have t0 := hT.1.1
  have t1 := hT.1.2.1
  have t2 := hT.1.2.2
  go_wp2_with fail
  clear hwC
  refine (G4.out _ p1 q1 hS hr).mono ?_
  rintro e w4 ⟨rfl, b4⟩
  clear t0 t1 t2
  replace hS := hS.on b4
  replace y0 := below_cell b4 y0
  replace y1 := below_cell b4 y1
  replace y2 := below_cell b4 y2
  replace hT := hT.later b4
  replace hr := hr.on b4
  replace hB := hB.trans (b4.mono hB.size)
  clear b4
  go_wp2
  go_ret
  exact ⟨rfl, p, q, hB.mono (Nat.le_of_lt hcl), hT, hr⟩
set_option maxHeartbeats 4000000 in
set_option maxRecDepth 100000 in
theorem look_less (g : GapV) (c : Nat) (r : Rat) (p q : Option Addr) (w : World) (hg : g.ok w) (hk : g.tiny) (hb : ¬ badG g.val) (hT : Thr w c (.bool (ng r.num)) (.slice p (ln (am r.num)) (ln (am r.num))) (.slice q (ln r.den) (ln r.den))) (hr : (nR r p q).ok w) (hs : sz 8388622 r) (hn : nar g.val) (hl : shutR g.val < r) : Calls Tryz.prog 25 #[.agg #[.bool g.lo.a.s, .slice g.lo.a.a g.lo.a.n g.lo.a.c, .slice g.lo.a.b g.lo.a.m g.lo.a.e, .bool g.lo.b.s, .slice g.lo.b.a g.lo.b.n g.lo.b.c, .slice g.lo.b.b g.lo.b.m g.lo.b.e, .bool g.hi.a.s, .slice g.hi.a.a g.hi.a.n g.hi.a.c, .slice g.hi.a.b g.hi.a.m g.hi.a.e, .bool g.hi.b.s, .slice g.hi.b.a g.hi.b.n g.hi.b.c, .slice g.hi.b.b g.hi.b.m g.hi.b.e], .pointer (some ⟨c, 0, none⟩)] w (fun e w1 => e = .returned (.int .i64 0) ∧ ∃ p' q', Below c w w1 ∧ Thr w1 c (.bool (ng (shutR g.val).num)) (.slice p' (ln (am (shutR g.val).num)) (ln (am (shutR g.val).num))) (.slice q' (ln (shutR g.val).den) (ln (shutR g.val).den)) ∧ (nR (shutR g.val) p' q').ok w1) := by
  have G1 := hide' (fun w' (hb : Below w.heap.size w w') => cmpDq g.lo g.hi w' (hg.1.on hb) (hg.2.on hb) hk.1.short hk.2.short)
  have hbc := bad_cmp g
  obtain ⟨C, hC⟩ : ∃ C, cmpD g.lo.val g.hi.val = C := ⟨_, rfl⟩
  rw [hC] at G1 hbc
  have hc1 : ¬ 0 < C := by exact fun h => hb (hbc.1 h)
  clear hbc hC
  have G2 := hide' (fun w' (hb : Below w.heap.size w w') => show Calls Tryz.prog 26 #[.agg #[.bool g.lo.a.s, .slice g.lo.a.a g.lo.a.n g.lo.a.c, .slice g.lo.a.b g.lo.a.m g.lo.a.e, .bool g.lo.b.s, .slice g.lo.b.a g.lo.b.n g.lo.b.c, .slice g.lo.b.b g.lo.b.m g.lo.b.e, .bool g.hi.a.s, .slice g.hi.a.a g.hi.a.n g.hi.a.c, .slice g.hi.a.b g.hi.a.m g.hi.a.e, .bool g.hi.b.s, .slice g.hi.b.a g.hi.b.n g.hi.b.c, .slice g.hi.b.b g.hi.b.m g.hi.b.e]] w' fun e w1 => e = .returned (.bool true) ∧ Below w'.heap.size w' w1 by have h := narrows_is g w' (hg.on hb) hk; rw [decide_eq_true hn] at h; exact h)
  have G3 := hide' (fun w' (hb : Below w.heap.size w w') => shut_is g w' (hg.on hb) hk hn)
  have s3 := shut_sz hg hk hn
  obtain ⟨S, hS⟩ : ∃ S, shutR g.val = S := ⟨_, rfl⟩
  rw [hS] at G3 s3 hl ⊢
  clear hS
  have G4 := hide' (fun w' p1 q1 (k : (nR S p1 q1).ok w') (k2 : (nR r p q).ok w') => cmpQ (nR S p1 q1) (nR r p q) w' k k2 ⟨(nR_short s3).1, (nR_short s3).2, (nR_short hs).1, (nR_short hs).2⟩ _ rfl)
  simp only [nR_val] at G4
  have hlt := lt_sR S r
  obtain ⟨E, hE⟩ : ∃ E, sR (S - r) = E := ⟨_, rfl⟩
  rw [hE] at G4 hlt
  have hc2 : E < 0 := hlt.2 hl
  clear hlt hE hl s3 hs
  have hcl := hT.2.lt
  clear hg hk hb hn
  go_enter Tryz.func25, Tryz.ntmps25
  go_wp2_with fail
  obtain ⟨wA, hwA⟩ : ∃ wA, w.alloc (.cells #[.bool g.lo.a.s, .slice g.lo.a.a g.lo.a.n g.lo.a.c, .slice g.lo.a.b g.lo.a.m g.lo.a.e, .bool g.lo.b.s, .slice g.lo.b.a g.lo.b.n g.lo.b.c, .slice g.lo.b.b g.lo.b.m g.lo.b.e, .bool g.hi.a.s, .slice g.hi.a.a g.hi.a.n g.hi.a.c, .slice g.hi.a.b g.hi.a.m g.hi.a.e, .bool g.hi.b.s, .slice g.hi.b.a g.hi.b.n g.hi.b.c, .slice g.hi.b.b g.hi.b.m g.hi.b.e] 42) = wA := ⟨_, rfl⟩
  have hB : Below w.heap.size w wA := by subst hwA; exact below_alloc _
  have d0 : wA.cell? ⟨w.heap.size, 0, none⟩ = some (.bool g.lo.a.s) := by subst hwA; go_simp
  have d1 : wA.cell? ⟨w.heap.size, 1, none⟩ = some (.slice g.lo.a.a g.lo.a.n g.lo.a.c) := by subst hwA; go_simp
  have d2 : wA.cell? ⟨w.heap.size, 2, none⟩ = some (.slice g.lo.a.b g.lo.a.m g.lo.a.e) := by subst hwA; go_simp
  have d3 : wA.cell? ⟨w.heap.size, 3, none⟩ = some (.bool g.lo.b.s) := by subst hwA; go_simp
  have d4 : wA.cell? ⟨w.heap.size, 4, none⟩ = some (.slice g.lo.b.a g.lo.b.n g.lo.b.c) := by subst hwA; go_simp
  have d5 : wA.cell? ⟨w.heap.size, 5, none⟩ = some (.slice g.lo.b.b g.lo.b.m g.lo.b.e) := by subst hwA; go_simp
  have d6 : wA.cell? ⟨w.heap.size, 6, none⟩ = some (.bool g.hi.a.s) := by subst hwA; go_simp
  have d7 : wA.cell? ⟨w.heap.size, 7, none⟩ = some (.slice g.hi.a.a g.hi.a.n g.hi.a.c) := by subst hwA; go_simp
  have d8 : wA.cell? ⟨w.heap.size, 8, none⟩ = some (.slice g.hi.a.b g.hi.a.m g.hi.a.e) := by subst hwA; go_simp
  have d9 : wA.cell? ⟨w.heap.size, 9, none⟩ = some (.bool g.hi.b.s) := by subst hwA; go_simp
  have d10 : wA.cell? ⟨w.heap.size, 10, none⟩ = some (.slice g.hi.b.a g.hi.b.n g.hi.b.c) := by subst hwA; go_simp
  have d11 : wA.cell? ⟨w.heap.size, 11, none⟩ = some (.slice g.hi.b.b g.hi.b.m g.hi.b.e) := by subst hwA; go_simp
  rw [hwA]
  clear hwA
  replace hT := hT.later hB
  replace hr := hr.on hB
  refine (G1.out _ hB).mono ?_
  rintro e w1 ⟨rfl, b1⟩
  replace d0 := below_cell b1 d0
  replace d1 := below_cell b1 d1
  replace d2 := below_cell b1 d2
  replace d3 := below_cell b1 d3
  replace d4 := below_cell b1 d4
  replace d5 := below_cell b1 d5
  replace d6 := below_cell b1 d6
  replace d7 := below_cell b1 d7
  replace d8 := below_cell b1 d8
  replace d9 := below_cell b1 d9
  replace d10 := below_cell b1 d10
  replace d11 := below_cell b1 d11
  replace hT := hT.later b1
  replace hr := hr.on b1
  replace hB := hB.trans (b1.mono hB.size)
  clear b1
  go_wp2_with fail
  refine (G2.out _ hB).mono ?_
  rintro e w2 ⟨rfl, b2⟩
  replace d0 := below_cell b2 d0
  replace d1 := below_cell b2 d1
  replace d2 := below_cell b2 d2
  replace d3 := below_cell b2 d3
  replace d4 := below_cell b2 d4
  replace d5 := below_cell b2 d5
  replace d6 := below_cell b2 d6
  replace d7 := below_cell b2 d7
  replace d8 := below_cell b2 d8
  replace d9 := below_cell b2 d9
  replace d10 := below_cell b2 d10
  replace d11 := below_cell b2 d11
  replace hT := hT.later b2
  replace hr := hr.on b2
  replace hB := hB.trans (b2.mono hB.size)
  clear b2
  go_wp2_with fail
  refine (G3.out _ hB).mono ?_
  rintro e w3 ⟨p1, q1, rfl, b3, hS⟩
  replace hT := hT.later b3
  replace hr := hr.on b3
  replace hB := hB.trans (b3.mono hB.size)
  clear b3
  clear G1 G2 G3 d0 d1 d2 d3 d4 d5 d6 d7 d8 d9 d10 d11
  obtain ⟨wC, hwC⟩ : ∃ wC, w3.alloc (.cells #[.bool (ng S.num), .slice p1 (ln (am S.num)) (ln (am S.num)), .slice q1 (ln S.den) (ln S.den)] 28) = wC := ⟨_, rfl⟩
  have bC : Below w3.heap.size w3 wC := by subst hwC; exact below_alloc _
  have y0 : wC.cell? ⟨w3.heap.size, 0, none⟩ = some (.bool (ng S.num)) := by subst hwC; go_simp
  have y1 : wC.cell? ⟨w3.heap.size, 1, none⟩ = some (.slice p1 (ln (am S.num)) (ln (am S.num))) := by subst hwC; go_simp
  have y2 : wC.cell? ⟨w3.heap.size, 2, none⟩ = some (.slice q1 (ln S.den) (ln S.den)) := by subst hwC; go_simp
  have hs3 : c < w3.heap.size := hT.2.lt
  replace hS := hS.on bC
  replace hT := hT.later bC
  replace hr := hr.on bC
  replace hB := hB.trans (bC.mono hB.size)
  clear bC
  have t0 := hT.1.1
  have t1 := hT.1.2.1
  have t2 := hT.1.2.2
  go_wp2_with fail
  clear hwC
  refine (G4.out _ p1 q1 hS hr).mono ?_
  rintro e w4 ⟨rfl, b4⟩
  clear t0 t1 t2
  replace hS := hS.on b4
  replace y0 := below_cell b4 y0
  replace y1 := below_cell b4 y1
  replace y2 := below_cell b4 y2
  replace hT := hT.later b4
  replace hr := hr.on b4
  replace hB := hB.trans (b4.mono hB.size)
  clear b4
  have fz := fun o => hT.2.frozen o
  have z0 := hT.1.1
  have z1 := hT.1.2.1
  have z2 := hT.1.2.2
  have hS2 : (nR S p1 q1).ok (set3 w4 c (.bool (ng S.num)) (.slice p1 (ln (am S.num)) (ln (am S.num))) (.slice q1 (ln S.den) (ln S.den))) := ⟨hT.seg (by simp) (by simp) (by simp) hS.1, hS.2.1, hS.2.2.1, hT.seg (by simp) (by simp) (by simp) hS.2.2.2.1, hS.2.2.2.2.1, hS.2.2.2.2.2⟩
  have hB2 := below_set3 (u0 := .bool (ng S.num)) (u1 := .slice p1 (ln (am S.num)) (ln (am S.num))) (u2 := .slice q1 (ln S.den) (ln S.den)) (hB.mono (Nat.le_of_lt hcl)) (Nat.le_refl c)
  have rD := hT.put (u0 := .bool (ng S.num)) (u1 := .slice p1 (ln (am S.num)) (ln (am S.num))) (u2 := .slice q1 (ln S.den) (ln S.den))
  replace hB2 := hide' hB2
  replace hS2 := hide' hS2
  replace rD := hide' rD
  clear hT hB hS hr
  go_wp2
  go_ret
  exact ⟨rfl, p1, q1, hB2.out, rD.out, hS2.out⟩
theorem look_ok (g : GapV) (c : Nat) (r : Rat) (p q : Option Addr) (w : World) (hg : g.ok w) (hk : g.tiny) (hb : ¬ badG g.val) (hT : Thr w c (.bool (ng r.num)) (.slice p (ln (am r.num)) (ln (am r.num))) (.slice q (ln r.den) (ln r.den))) (hr : (nR r p q).ok w) (hs : sz 8388622 r) : Calls Tryz.prog 25 #[.agg #[.bool g.lo.a.s, .slice g.lo.a.a g.lo.a.n g.lo.a.c, .slice g.lo.a.b g.lo.a.m g.lo.a.e, .bool g.lo.b.s, .slice g.lo.b.a g.lo.b.n g.lo.b.c, .slice g.lo.b.b g.lo.b.m g.lo.b.e, .bool g.hi.a.s, .slice g.hi.a.a g.hi.a.n g.hi.a.c, .slice g.hi.a.b g.hi.a.m g.hi.a.e, .bool g.hi.b.s, .slice g.hi.b.a g.hi.b.n g.hi.b.c, .slice g.hi.b.b g.hi.b.m g.hi.b.e], .pointer (some ⟨c, 0, none⟩)] w (fun e w1 => e = .returned (.int .i64 0) ∧ ∃ p' q', Below c w w1 ∧ Thr w1 c (.bool (ng (stepG r g.val).num)) (.slice p' (ln (am (stepG r g.val).num)) (ln (am (stepG r g.val).num))) (.slice q' (ln (stepG r g.val).den) (ln (stepG r g.val).den)) ∧ (nR (stepG r g.val) p' q').ok w1) := by
  by_cases hn : nar g.val
  · by_cases hl : shutR g.val < r
    · rw [show stepG r g.val = shutR g.val from if_pos ⟨hn, hl⟩]
      exact look_less g c r p q w hg hk hb hT hr hs hn hl
    · rw [show stepG r g.val = r from if_neg fun h => hl h.2]
      exact look_more g c r p q w hg hk hb hT hr hs hn hl
  · rw [show stepG r g.val = r from if_neg fun h => hn h.1]
    exact look_wide g c r p q w hg hk hb hT hr hs hn
end Go.Proofs.YtnifelfecildmaaGreatDoor

namespace Go.Proofs.YtnifelfecildmaaGreatDoor
open Go.RowKit
set_option linter.unusedVariables false
set_option linter.unusedSimpArgs false
/-- the twelve cells of a gap lie there -/
def GapV.lies (g : GapV) (w : World) (b off : Nat) : Prop :=
  w.cell? ⟨b, off + 0, none⟩ = some (.bool g.lo.a.s) ∧ w.cell? ⟨b, off + 1, none⟩ = some (.slice g.lo.a.a g.lo.a.n g.lo.a.c) ∧ w.cell? ⟨b, off + 2, none⟩ = some (.slice g.lo.a.b g.lo.a.m g.lo.a.e) ∧ w.cell? ⟨b, off + 3, none⟩ = some (.bool g.lo.b.s) ∧ w.cell? ⟨b, off + 4, none⟩ = some (.slice g.lo.b.a g.lo.b.n g.lo.b.c) ∧ w.cell? ⟨b, off + 5, none⟩ = some (.slice g.lo.b.b g.lo.b.m g.lo.b.e) ∧ w.cell? ⟨b, off + 6, none⟩ = some (.bool g.hi.a.s) ∧ w.cell? ⟨b, off + 7, none⟩ = some (.slice g.hi.a.a g.hi.a.n g.hi.a.c) ∧ w.cell? ⟨b, off + 8, none⟩ = some (.slice g.hi.a.b g.hi.a.m g.hi.a.e) ∧ w.cell? ⟨b, off + 9, none⟩ = some (.bool g.hi.b.s) ∧ w.cell? ⟨b, off + 10, none⟩ = some (.slice g.hi.b.a g.hi.b.n g.hi.b.c) ∧ w.cell? ⟨b, off + 11, none⟩ = some (.slice g.hi.b.b g.hi.b.m g.hi.b.e)
theorem GapV.lies.later {g : GapV} {w w' : World} {b off : Nat} (h : g.lies w b off) (hb : Below w.heap.size w w') : g.lies w' b off := by
  obtain ⟨h0, h1, h2, h3, h4, h5, h6, h7, h8, h9, h10, h11⟩ := h
  exact ⟨below_cell hb h0, below_cell hb h1, below_cell hb h2, below_cell hb h3, below_cell hb h4, below_cell hb h5, below_cell hb h6, below_cell hb h7, below_cell hb h8, below_cell hb h9, below_cell hb h10, below_cell hb h11⟩
/-- a cell of a block that stays -/
theorem cell_low {B : Nat} {w w' : World} {c o : Nat} (h : Below B w w') (hc : c < B) : w'.cell? ⟨c, o, none⟩ = w.cell? ⟨c, o, none⟩ := by
  unfold World.cell?
  rw [h.block c hc]
/-- a list of gaps lies there -/
def GapsAt (w : World) (a : Option Addr) (n : Nat) (k : Nat → GapV) : Prop := 0 < n → ∃ b off, a = some ⟨b, off, none⟩ ∧ b < w.heap.size ∧ ∀ i, i < n → (k i).lies w b (off + i * 12)
theorem GapsAt.later {w w' : World} {a : Option Addr} {n : Nat} {k : Nat → GapV} (h : GapsAt w a n k) (hb : Below w.heap.size w w') : GapsAt w' a n k := fun hn => by
  obtain ⟨b, off, e, hl, hc⟩ := h hn
  exact ⟨b, off, e, Nat.lt_of_lt_of_le hl hb.size, fun i hi => (hc i hi).later hb⟩
/-- what they say -/
def gl (k : Nat → GapV) (n : Nat) : List Gp := (List.range n).map fun i => (k i).val
theorem gl_succ (k : Nat → GapV) (n : Nat) : gl k (n + 1) = gl k n ++ [(k n).val] := by
  unfold gl
  rw [List.range_succ, List.map_append]
  rfl
theorem small_sz {w : World} {k : Nat → GapV} : ∀ (n : Nat), (∀ i, i < n → (k i).ok w ∧ (k i).tiny) → sz 8388622 (smallG (gl k n))
  | 0, _ => one_sz
  | n + 1, h => by
    rw [gl_succ, smallG_snoc]
    exact step_sz (h n (by omega)).1 (h n (by omega)).2 (small_sz n fun i hi => h i (by omega))
theorem wholeQ1 (w : World) : Calls Tryz.prog 24 #[.int .i64 1] w (QA w 1) := by
  refine (qWhole_is 1 w (by omega) (by omega)).mono ?_
  rintro e w1 ⟨p, q, rfl, n1, n2⟩
  exact ⟨p, q, rfl, n1.below, ok_nR (one_sz.mono (by omega)) n1 n2⟩
set_option maxHeartbeats 4000000 in
set_option maxRecDepth 100000 in
theorem Small_is (a : Option Addr) (n cap : Nat) (k : Nat → GapV) (w : World) (hA : GapsAt w a n k) (hok : ∀ i, i < n → (k i).ok w ∧ (k i).tiny) (hc : n ≤ cap) (hn : n ≤ 1048576) :
    Calls Tryz.prog 7 #[.slice a n cap] w fun e w' => ((∀ i, i < n → ¬ badG (k i).val) ∧ ∃ p q, e = .returned (.tuple #[.agg #[.bool (ng (smallG (gl k n)).num), .slice p (ln (am (smallG (gl k n)).num)) (ln (am (smallG (gl k n)).num)), .slice q (ln (smallG (gl k n)).den) (ln (smallG (gl k n)).den)], .int .i64 0]) ∧ Below w.heap.size w w' ∧ (nR (smallG (gl k n)) p q).ok w') ∨ ((∃ i, i < n ∧ badG (k i).val) ∧ e = .returned (.tuple #[.agg #[.bool false, .slice none 0 0, .slice none 0 0], .int .i64 51]) ∧ Below w.heap.size w w') := by
  have GW := hide' wholeQ1
  have HK := hide' (fun i (hi : i < n) => hok i hi)
  have SZ := hide' (fun j (hj : j ≤ n) => small_sz (k := k) (w := w) j fun i hi => hok i (by omega))
  have HA := hide' hA
  clear hok hA
  go_enter Tryz.func7, Tryz.ntmps7
  go_wp2_with fail
  obtain ⟨wA, hwA⟩ : ∃ wA, w.alloc (.cells #[.bool false, .slice none 0 0, .slice none 0 0] 28) = wA := ⟨_, rfl⟩
  have hB : Below w.heap.size w wA := by subst hwA; exact below_alloc _
  have v2 : Thr wA w.heap.size (.bool false) (.slice none 0 0) (.slice none 0 0) := by subst hwA; exact ⟨⟨by go_simp, by go_simp, by go_simp⟩, row_new w _ 28⟩
  rw [hwA]
  clear hwA
  refine (GW.out _).mono ?_
  rintro e w1 ⟨p0, q0, rfl, b1, h1⟩
  replace v2 := v2.later b1
  replace hB := hB.trans (b1.mono hB.size)
  clear b1 GW
  obtain ⟨r0, hr0⟩ : ∃ r : Rat, 1 = r := ⟨_, rfl⟩
  have hr1 : smallG (gl k 0) = r0 := hr0
  rw [hr0] at h1 ⊢
  clear hr0
  obtain ⟨wC, hwC⟩ : ∃ wC, w1.alloc (.cells #[.bool (ng r0.num), .slice p0 (ln (am r0.num)) (ln (am r0.num)), .slice q0 (ln r0.den) (ln r0.den)] 28) = wC := ⟨_, rfl⟩
  have bC : Below w1.heap.size w1 wC := by subst hwC; exact below_alloc _
  have v4 : Thr wC w1.heap.size (.bool (ng r0.num)) (.slice p0 (ln (am r0.num)) (ln (am r0.num))) (.slice q0 (ln r0.den) (ln r0.den)) := by subst hwC; exact ⟨⟨by go_simp, by go_simp, by go_simp⟩, row_new w1 _ 28⟩
  have l2 := v2.2.lt
  replace v2 := v2.later bC
  replace hB := hB.trans (bC.mono hB.size)
  replace h1 := h1.on bC
  clear bC
  go_wp2_with fail
  obtain ⟨c4, hc4⟩ : ∃ c, w1.heap.size = c := ⟨_, rfl⟩
  rw [hc4] at v4 l2 ⊢
  clear hwC hc4
  go_loopw [13] (fun vi wr => ∃ j : Nat, j ≤ n ∧ vi = .int .i64 j ∧ (∀ i, i < j → ¬ badG (k i).val) ∧ ∃ p q, Below c4 wC wr ∧ Thr wr c4 (.bool (ng (smallG (gl k j)).num)) (.slice p (ln (am (smallG (gl k j)).num)) (ln (am (smallG (gl k j)).num))) (.slice q (ln (smallG (gl k j)).den) (ln (smallG (gl k j)).den)) ∧ (nR (smallG (gl k j)) p q).ok wr) (fun vi _ => n - (intOf vi).toNat)
  case atStart => exact ⟨0, Nat.zero_le _, rfl, fun i hi => absurd hi (by omega), p0, q0, Below.refl _ _, by rw [hr1]; exact v4, by rw [hr1]; exact h1⟩
  case round =>
    clear v4 h1 hr1
    obtain ⟨j, hj, rfl, hbad, p, q, bL, vT, hr⟩ := hrel
    have hsz := SZ.out j hj
    obtain ⟨r, hrr⟩ : ∃ r, smallG (gl k j) = r := ⟨_, rfl⟩
    rw [hrr] at vT hr hsz
    replace hrr := hide' hrr
    have hBr : Below w.heap.size w wr := hB.trans (bL.mono (Nat.le_of_lt l2))
    have v2r : Thr wr w.heap.size (.bool false) (.slice none 0 0) (.slice none 0 0) := ⟨⟨(cell_low bL l2).trans v2.1.1, (cell_low bL l2).trans v2.1.2.1, (cell_low bL l2).trans v2.1.2.2⟩, v2.2.below bL l2⟩
    by_cases hlt : j < n
    · obtain ⟨bb, off, rfl, hb, hcell⟩ := HA.out (by omega)
      obtain ⟨gk, hgk⟩ : ∃ gk, k j = gk := ⟨_, rfl⟩
      have hcj := (hcell j hlt).later hBr
      obtain ⟨hok, htn⟩ := HK.out j hlt
      rw [hgk] at hcj hok htn
      obtain ⟨d0, d1, d2, d3, d4, d5, d6, d7, d8, d9, d10, d11⟩ := hcj
      rw [Nat.add_zero] at d0
      have j0 : (0 : Int) ≤ (j : Int) := by omega
      have j1 : (j : Int) < (n : Int) := by omega
      have hcl := vT.2.lt
      replace hok := hok.on hBr
      clear hcell HA HK SZ
      obtain ⟨wG, hwG⟩ : ∃ wG, wr.alloc (.cells #[.bool gk.lo.a.s, .slice gk.lo.a.a gk.lo.a.n gk.lo.a.c, .slice gk.lo.a.b gk.lo.a.m gk.lo.a.e, .bool gk.lo.b.s, .slice gk.lo.b.a gk.lo.b.n gk.lo.b.c, .slice gk.lo.b.b gk.lo.b.m gk.lo.b.e, .bool gk.hi.a.s, .slice gk.hi.a.a gk.hi.a.n gk.hi.a.c, .slice gk.hi.a.b gk.hi.a.m gk.hi.a.e, .bool gk.hi.b.s, .slice gk.hi.b.a gk.hi.b.n gk.hi.b.c, .slice gk.hi.b.b gk.hi.b.m gk.hi.b.e] 42) = wG := ⟨_, rfl⟩
      have bG : Below wr.heap.size wr wG := by subst hwG; exact below_alloc _
      have y0 : wG.cell? ⟨wr.heap.size, 0, none⟩ = some (.bool gk.lo.a.s) := by subst hwG; go_simp
      have y1 : wG.cell? ⟨wr.heap.size, 1, none⟩ = some (.slice gk.lo.a.a gk.lo.a.n gk.lo.a.c) := by subst hwG; go_simp
      have y2 : wG.cell? ⟨wr.heap.size, 2, none⟩ = some (.slice gk.lo.a.b gk.lo.a.m gk.lo.a.e) := by subst hwG; go_simp
      have y3 : wG.cell? ⟨wr.heap.size, 3, none⟩ = some (.bool gk.lo.b.s) := by subst hwG; go_simp
      have y4 : wG.cell? ⟨wr.heap.size, 4, none⟩ = some (.slice gk.lo.b.a gk.lo.b.n gk.lo.b.c) := by subst hwG; go_simp
      have y5 : wG.cell? ⟨wr.heap.size, 5, none⟩ = some (.slice gk.lo.b.b gk.lo.b.m gk.lo.b.e) := by subst hwG; go_simp
      have y6 : wG.cell? ⟨wr.heap.size, 6, none⟩ = some (.bool gk.hi.a.s) := by subst hwG; go_simp
      have y7 : wG.cell? ⟨wr.heap.size, 7, none⟩ = some (.slice gk.hi.a.a gk.hi.a.n gk.hi.a.c) := by subst hwG; go_simp
      have y8 : wG.cell? ⟨wr.heap.size, 8, none⟩ = some (.slice gk.hi.a.b gk.hi.a.m gk.hi.a.e) := by subst hwG; go_simp
      have y9 : wG.cell? ⟨wr.heap.size, 9, none⟩ = some (.bool gk.hi.b.s) := by subst hwG; go_simp
      have y10 : wG.cell? ⟨wr.heap.size, 10, none⟩ = some (.slice gk.hi.b.a gk.hi.b.n gk.hi.b.c) := by subst hwG; go_simp
      have y11 : wG.cell? ⟨wr.heap.size, 11, none⟩ = some (.slice gk.hi.b.b gk.hi.b.m gk.hi.b.e) := by subst hwG; go_simp
      have vG := vT.later bG
      have hrG := hr.on bG
      have hoG := hok.on bG
      have v2G := v2r.later bG
      have bLG : Below c4 wC wG := bL.trans (bG.mono (Nat.le_of_lt hcl))
      clear vT hr hok v2r bG bL
      by_cases hbd : badG gk.val
      · have G1 := hide' (look_bad gk c4 wG hoG htn hbd)
        go_wp2_with fail
        refine G1.out.mono ?_
        rintro e w5 ⟨rfl, b5⟩
        replace v2G := v2G.later b5
        have bE : Below w.heap.size w w5 := hB.trans ((bLG.mono (Nat.le_of_lt l2)).trans (b5.mono (Nat.le_trans hB.size bLG.size)))
        have fz := fun o => v2G.2.frozen o
        have z0 := v2G.1.1
        have z1 := v2G.1.2.1
        have z2 := v2G.1.2.2
        have bE2 := below_set3 (u0 := .bool false) (u1 := .slice none 0 0) (u2 := .slice none 0 0) bE (Nat.le_refl _)
        replace bE2 := hide' bE2
        have rD := v2G.put (u0 := .bool false) (u1 := .slice none 0 0) (u2 := .slice none 0 0)
        obtain ⟨⟨x0, x1, x2⟩, _⟩ := rD
        clear v2G vG hrG hoG bLG b5 bE hB v2
        go_wp2
        refine bodyPost_ret (v := Value.tuple #[Value.agg #[Value.bool false, Value.slice none 0 0, Value.slice none 0 0], .int .i64 51]) (by rw [results_cell_tmp rfl]; go_simp) rfl ?_
        exact Or.inr ⟨⟨j, hlt, by rw [hgk]; exact hbd⟩, rfl, bE2.out⟩
      · have G1 := hide' (look_ok gk c4 r p q wG hoG htn hbd vG hrG hsz)
        go_wp2_with fail
        refine G1.out.mono ?_
        rintro e w5 ⟨rfl, p', q', b5, v5, h5⟩
        have I1 := hide' (show (∀ i, i < j + 1 → ¬ badG (k i).val) ∧ ∃ p q, Below c4 wC w5 ∧ Thr w5 c4 (.bool (ng (smallG (gl k (j + 1))).num)) (.slice p (ln (am (smallG (gl k (j + 1))).num)) (ln (am (smallG (gl k (j + 1))).num))) (.slice q (ln (smallG (gl k (j + 1))).den) (ln (smallG (gl k (j + 1))).den)) ∧ (nR (smallG (gl k (j + 1))) p q).ok w5 by
          have e9 : smallG (gl k (j + 1)) = stepG r gk.val := by rw [gl_succ, smallG_snoc, hrr.out, hgk]
          rw [e9]
          refine ⟨fun i hi => ?_, p', q', bLG.trans b5, v5, h5⟩
          rcases Nat.lt_or_ge i j with h | h
          · exact hbad i h
          · obtain rfl : i = j := by omega
            rw [hgk]; exact hbd)
        clear v5 h5 b5 vG hrG hoG bLG v2G hbad
        go_wp2
        go_roundw
        case rel => exact ⟨j + 1, by omega, by go_num, I1.out⟩
        case measure => simp [intOf]; omega
    · obtain rfl : j = n := by omega
      have i1 : ¬ (j : Int) < (j : Int) := by omega
      have fz := fun o => v2r.2.frozen o
      have z0 := v2r.1.1
      have z1 := v2r.1.2.1
      have z2 := v2r.1.2.2
      have t0 := vT.1.1
      have t1 := vT.1.2.1
      have t2 := vT.1.2.2
      have hR2 := hide' (show (nR r p q).ok (set3 wr w.heap.size (.bool (ng r.num)) (.slice p (ln (am r.num)) (ln (am r.num))) (.slice q (ln r.den) (ln r.den))) from ⟨v2r.seg (by simp) (by simp) (by simp) hr.1, hr.2.1, hr.2.2.1, v2r.seg (by simp) (by simp) (by simp) hr.2.2.2.1, hr.2.2.2.2.1, hr.2.2.2.2.2⟩)
      have bE2 := hide' (below_set3 (u0 := .bool (ng r.num)) (u1 := .slice p (ln (am r.num)) (ln (am r.num))) (u2 := .slice q (ln r.den) (ln r.den)) hBr (Nat.le_refl _))
      have rD := v2r.put (u0 := .bool (ng r.num)) (u1 := .slice p (ln (am r.num)) (ln (am r.num))) (u2 := .slice q (ln r.den) (ln r.den))
      obtain ⟨⟨x0, x1, x2⟩, _⟩ := rD
      clear v2r vT hr hBr bL hB v2
      go_wp2
      refine bodyPost_ret (v := Value.tuple #[Value.agg #[Value.bool (ng r.num), Value.slice p (ln (am r.num)) (ln (am r.num)), Value.slice q (ln r.den) (ln r.den)], .int .i64 0]) (by rw [results_cell_tmp rfl]; go_simp) rfl ?_
      rw [hrr.out]
      exact Or.inl ⟨hbad, p, q, rfl, bE2.out, hR2.out⟩
end Go.Proofs.YtnifelfecildmaaGreatDoor
