/-
  here, hasBegun, refuses, fail and enter of a scanner in memory.
-/
import Derived.Test.YtibeiggedmabkaaDoorTS4
import Derived.Test.YtibeiggedmabkaaDoorTKN
namespace Go.Proofs.YtibeiggedmabkaaDoor
open Go.RowKit
set_option linter.unusedVariables false
set_option linter.unusedSimpArgs false

theorem ScAt.cell {w : World} {base b : Nat} {S : Scan} (h : ScAt w base b S) (o : Nat) : w.cell? ⟨b, o, none⟩ = S.cells[o]? := h.blk.cell o
/-- the place behind all that has come -/
def hereV (rd ln ah : Nat) : Value := .agg #[.int .i64 0, .string ⟨#[]⟩, .int .i64 rd, .int .i64 rd, .int .i64 ((ln : Int) + 1), .int .i64 (((rd - ah : Nat) : Int) + 1)]
theorem hereS (base b : Nat) (S : Scan) (w : World) (h : ScAt w base b S) (h1 : S.rd < 4611686018427387904) (h2 : S.ln < 4611686018427387904) (h3 : S.ah ≤ S.rd) :
    Calls Tryd.prog 48 #[.pointer (some ⟨b, 0, none⟩)] w fun e w' => e = .returned (hereV S.rd S.ln S.ah) ∧ Below w.heap.size w w' :=
  here_is b S.rd S.ln S.ah h1 h2 h3 w (h.cell 8) (h.cell 9) (h.cell 10)
theorem begunS (base b : Nat) (S : Scan) (w : World) (h : ScAt w base b S) (g : Bool) (hg : g = decide (4 < S.st)) :
    Calls Tryd.prog 47 #[.pointer (some ⟨b, 0, none⟩)] w fun e w' => e = .returned (.bool g) ∧ w' = w := by
  refine (hasBegun_is b S.st w (h.cell 0)).mono ?_
  rintro e w' ⟨rfl, rfl⟩
  refine ⟨?_, rfl⟩
  rw [hg]
  congr 2
  simp
  omega
set_option maxHeartbeats 1000000 in
theorem refusesS (base b : Nat) (S : Scan) (w : World) (h : ScAt w base b S) (h1 : 3 ≤ S.st) : Calls Tryd.prog 44 #[.pointer (some ⟨b, 0, none⟩)] w fun e w' => e = .returned (.int .i64 0) ∧ w' = w := by
  have y0 := h.cell 0
  simp only [Scan.cells, List.getElem?_toArray, List.getElem?_cons_zero, List.getElem?_cons_succ] at y0
  have e0 : ((S.st : Int) == 0) = false := by rw [beq_eq_false_iff_ne]; omega
  have e1 : ((S.st : Int) == 1) = false := by rw [beq_eq_false_iff_ne]; omega
  have e2 : ((S.st : Int) == 2) = false := by rw [beq_eq_false_iff_ne]; omega
  go_enter Tryd.func44, Tryd.ntmps44
  go_wp2
  go_ret
  exact ⟨rfl, rfl⟩

theorem Blk.set12 {c : Nat} {W : World} {S : Scan} (h : Blk W c S.cells 82) (pB pE pL pC er : Int) :
    Ch c W ((((((((((((W.setCell ⟨c, 0, none⟩ (.int .i64 2)).setCell ⟨c, 1, none⟩ (.slice none 0 0)).setCell ⟨c, 2, none⟩ (.int .i64 0)).setCell ⟨c, 3, none⟩ (.string ⟨#[]⟩)).setCell ⟨c, 4, none⟩ (.int .i64 pB)).setCell ⟨c, 5, none⟩ (.int .i64 pE)).setCell ⟨c, 6, none⟩ (.int .i64 pL)).setCell ⟨c, 7, none⟩ (.int .i64 pC)).setCell ⟨c, 8, none⟩ (.int .i64 0)).setCell ⟨c, 9, none⟩ (.int .i64 0)).setCell ⟨c, 10, none⟩ (.int .i64 0)).setCell ⟨c, 11, none⟩ (.int .i64 er)) ∧ Blk ((((((((((((W.setCell ⟨c, 0, none⟩ (.int .i64 2)).setCell ⟨c, 1, none⟩ (.slice none 0 0)).setCell ⟨c, 2, none⟩ (.int .i64 0)).setCell ⟨c, 3, none⟩ (.string ⟨#[]⟩)).setCell ⟨c, 4, none⟩ (.int .i64 pB)).setCell ⟨c, 5, none⟩ (.int .i64 pE)).setCell ⟨c, 6, none⟩ (.int .i64 pL)).setCell ⟨c, 7, none⟩ (.int .i64 pC)).setCell ⟨c, 8, none⟩ (.int .i64 0)).setCell ⟨c, 9, none⟩ (.int .i64 0)).setCell ⟨c, 10, none⟩ (.int .i64 0)).setCell ⟨c, 11, none⟩ (.int .i64 er)) c (Scan.cells ⟨2, .slice none 0 0, [], pB, pE, pL, pC, 0, 0, 0, er⟩) 82 := by
  refine ⟨Ch.trans (Ch.trans (Ch.trans (Ch.trans (Ch.trans (Ch.trans (Ch.trans (Ch.trans (Ch.trans (Ch.trans (Ch.trans (Ch.set _) (Ch.set _)) (Ch.set _)) (Ch.set _)) (Ch.set _)) (Ch.set _)) (Ch.set _)) (Ch.set _)) (Ch.set _)) (Ch.set _)) (Ch.set _)) (Ch.set _), ?_⟩
  simp [Blk, Scan.cells, World.setCell, Array.getElem?_modify, show W.heap[c]? = _ from h]

set_option maxHeartbeats 2000000 in
set_option maxRecDepth 100000 in
theorem failS (base b : Nat) (S : Scan) (w : World) (h : ScAt w base b S) (er pB pE pL pC : Int) : Calls Tryd.prog 50 #[.pointer (some ⟨b, 0, none⟩), .int .i64 er, .agg #[.int .i64 0, .string ⟨#[]⟩, .int .i64 pB, .int .i64 pE, .int .i64 pL, .int .i64 pC]] w fun e w' => e = .returned (.int .i64 er) ∧ ScAt w' base b ⟨2, .slice none 0 0, [], pB, pE, pL, pC, 0, 0, 0, er⟩ ∧ Kp (Scan.rows b S.cv) w w' := by
  have ba := below_alloc (w := w) (.cells #[.int .i64 0, .string ⟨#[]⟩, .int .i64 pB, .int .i64 pE, .int .i64 pL, .int .i64 pC] 32)
  have q5 := Blk.new w #[.int .i64 0, .string ⟨#[]⟩, .int .i64 pB, .int .i64 pE, .int .i64 pL, .int .i64 pC] 32
  have hS := h.blk.later ba
  have kz : Kp (Scan.rows b S.cv) w (w.alloc (.cells #[.int .i64 0, .string ⟨#[]⟩, .int .i64 pB, .int .i64 pE, .int .i64 pL, .int .i64 pC] 32)) := Kp.of ba
  have hlt := h.blk.lt
  go_enter Tryd.func50, Tryd.ntmps50
  generalize hW : w.alloc (.cells #[.int .i64 0, .string ⟨#[]⟩, .int .i64 pB, .int .i64 pE, .int .i64 pL, .int .i64 pC] 32) = W at ba q5 hS kz
  have t0 := q5.cell 0
  have t1 := q5.cell 1
  have t2 := q5.cell 2
  have t3 := q5.cell 3
  have t4 := q5.cell 4
  have t5 := q5.cell 5
  simp only [Scan.cells, List.getElem?_toArray, List.getElem?_cons_zero, List.getElem?_cons_succ] at t0 t1 t2 t3 t4 t5
  have y0 := hS.cell 0
  have y1 := hS.cell 1
  have y2 := hS.cell 2
  have y3 := hS.cell 3
  have y4 := hS.cell 4
  have y5 := hS.cell 5
  have y6 := hS.cell 6
  have y7 := hS.cell 7
  have y8 := hS.cell 8
  have y9 := hS.cell 9
  have y10 := hS.cell 10
  have y11 := hS.cell 11
  simp only [Scan.cells, List.getElem?_toArray, List.getElem?_cons_zero, List.getElem?_cons_succ] at y0 y1 y2 y3 y4 y5 y6 y7 y8 y9 y10 y11
  have fz := fun o => hS.frozen o
  go_wp2
  clear fz t0 t1 t2 t3 t4 t5 y0 y1 y2 y3 y4 y5 y6 y7 y8 y9 y10 y11
  obtain ⟨k, q⟩ := hS.set12 pB pE pL pC er
  go_ret
  refine ⟨rfl, ⟨?_, h.lt, h.mx, World.ownsRow_nil _ _ _ _⟩, ?_⟩
  · exact q
  · exact kz.trans (Kp.ch (X := Scan.rows b S.cv) k (Or.inl rfl)) (fun _ _ c => c)

theorem Blk.setSt {c : Nat} {W : World} {S : Scan} (h : Blk W c S.cells 82) (n : Nat) : Ch c W (W.setCell ⟨c, 0, none⟩ (.int .i64 n)) ∧ Blk (W.setCell ⟨c, 0, none⟩ (.int .i64 n)) c (Scan.cells { S with st := n }) 82 := by
  refine ⟨Ch.set _, ?_⟩
  simp [Blk, Scan.cells, World.setCell, Array.getElem?_modify, show W.heap[c]? = _ from h]

theorem ScAt.put {w w' : World} {base b : Nat} {S S2 : Scan} (h : ScAt w base b S) (k : Ch b w w') (q : Blk w' b S2.cells 82) (e1 : S2.cv = S.cv) (e2 : S2.come = S.come) : ScAt w' base b S2 :=
  ⟨q, h.lt, h.mx, by rw [e1, e2]; exact own_kp h.own (Kp.ch (X := fun i => i = b) k rfl) (fun g hg c => by have := (own_lt h.own hg).1; have := h.lt; omega)⟩

set_option maxHeartbeats 1000000 in
theorem enterS (base b n : Nat) (S : Scan) (w : World) (h : ScAt w base b S) (h1 : n ≠ 24) (h2 : n ≠ 25) : Calls Tryd.prog 49 #[.pointer (some ⟨b, 0, none⟩), .int .i64 n] w fun e w' => e = .returned (.int .i64 0) ∧ ScAt w' base b { S with st := n } ∧ Kp (fun k => k = b) w w' := by
  have x1 : ((n : Int) == 24) = false := by rw [beq_eq_false_iff_ne]; omega
  have x2 : ((n : Int) == 25) = false := by rw [beq_eq_false_iff_ne]; omega
  have y0 := h.cell 0
  simp only [Scan.cells, List.getElem?_toArray, List.getElem?_cons_zero, List.getElem?_cons_succ] at y0
  have fz := fun o => h.blk.frozen o
  go_enter Tryd.func49, Tryd.ntmps49
  go_wp2
  clear fz y0
  obtain ⟨k, q⟩ := h.blk.setSt n
  go_ret
  exact ⟨rfl, h.put k q rfl rfl, Kp.ch k rfl⟩

set_option maxHeartbeats 1000000 in
theorem enterB (base b : Nat) (S : Scan) (w : World) (h : ScAt w base b S) : Calls Tryd.prog 49 #[.pointer (some ⟨b, 0, none⟩), .int .i64 24] w fun e w' => e = .returned (.int .i64 120) ∧ ScAt w' base b ⟨2, .slice none 0 0, [], S.bB, S.bE, S.bL, S.bC, 0, 0, 0, 120⟩ ∧ Kp (Scan.rows b S.cv) w w' := by
  have y2 := h.cell 2
  have y3 := h.cell 3
  have y4 := h.cell 4
  have y5 := h.cell 5
  have y6 := h.cell 6
  have y7 := h.cell 7
  simp only [Scan.cells, List.getElem?_toArray, List.getElem?_cons_zero, List.getElem?_cons_succ] at y2 y3 y4 y5 y6 y7
  have H := hideT (failS base b S w h 120 S.bB S.bE S.bL S.bC)
  clear h
  go_enter Tryd.func49, Tryd.ntmps49
  go_wp2_with fail
  refine H.out.mono ?_
  rintro e w1 ⟨rfl, h1, h2⟩
  go_wp2
  go_ret
  exact ⟨rfl, h1, h2⟩

set_option maxHeartbeats 1000000 in
theorem enterF (base b : Nat) (S : Scan) (w : World) (h : ScAt w base b S) (h1 : S.rd < 4611686018427387904) (h2 : S.ln < 4611686018427387904) (h3 : S.ah ≤ S.rd) : Calls Tryd.prog 49 #[.pointer (some ⟨b, 0, none⟩), .int .i64 25] w fun e w' => e = .returned (.int .i64 120) ∧ ScAt w' base b ⟨2, .slice none 0 0, [], S.rd, S.rd, (S.ln : Int) + 1, ((S.rd - S.ah : Nat) : Int) + 1, 0, 0, 0, 120⟩ ∧ Kp (Scan.rows b S.cv) w w' := by
  have G := hideT (hereS base b S w h h1 h2 h3)
  unfold hereV at G
  go_enter Tryd.func49, Tryd.ntmps49
  go_wp2_with fail
  refine G.out.mono ?_
  rintro e w1 ⟨rfl, b1⟩
  have h4 := h.kp (Kp.of (X := fun _ => False) b1) (fun _ _ c => c)
  have H := hideT (failS base b S w1 h4 120 S.rd S.rd ((S.ln : Int) + 1) (((S.rd - S.ah : Nat) : Int) + 1))
  go_wp2_with fail
  refine H.out.mono ?_
  rintro e w2 ⟨rfl, h5, h6⟩
  go_wp2
  go_ret
  exact ⟨rfl, h5, (Kp.of b1).trans h6 (fun _ _ c => c)⟩

end Go.Proofs.YtibeiggedmabkaaDoor
