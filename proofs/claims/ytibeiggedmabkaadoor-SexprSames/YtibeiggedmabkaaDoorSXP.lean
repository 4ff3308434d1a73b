/-
  lives: Read of a constant text.
-/
import Derived.Test.YtibeiggedmabkaaDoorSXM
namespace Go.Proofs.YtibeiggedmabkaaDoor
open Go.RowKit
set_option linter.unusedVariables false
set_option linter.unusedSimpArgs false
def liveT : List UInt8 := [40, 97, 32, 40, 98, 41, 41]
set_option maxRecDepth 100000 in
theorem live_e : (readG liveT).2 = (0, 0) := by kernel_rfl
def Nd.shape2 : List Nd → Option (Nat × Nat)
  | [n] => some (n.t.k, szN n)
  | _ => none
set_option maxRecDepth 100000 in
theorem live_n : Nd.shape2 (readG liveT).1 = some (0, 6) := by kernel_rfl
theorem live_one : ∃ t kids, (readG liveT).1 = [.mk t kids] ∧ szN (.mk t kids) = 6 := by
  have h := live_n
  generalize (readG liveT).1 = l at h
  match l, h with
  | [n], h =>
    simp only [Nd.shape2, Option.some.injEq, Prod.mk.injEq] at h
    exact ⟨n.t, n.kids, by rw [nd_eta], by rw [nd_eta]; exact h.2⟩
set_option maxHeartbeats 8000000 in
set_option maxRecDepth 100000 in
theorem lives_is (w : World) (hM : MaxL w) (hmx : mxB < w.heap.size) : Calls Tryd.prog 11 #[] w fun e w' => e = .returned (.bool true) ∧ Below w.heap.size w w' := by
  have G := hideT (read_is ⟨#[40, 97, 32, 40, 98, 41, 41]⟩ w (by decide) hM hmx)
  obtain ⟨t, kids, hl, hz⟩ := live_one
  rw [show (⟨#[40, 97, 32, 40, 98, 41, 41]⟩ : ByteArray).data.toList = liveT from rfl, live_e, hl] at G
  clear hl
  go_enter Tryd.func11, Tryd.ntmps11
  go_wp2_with fail
  refine G.out.mono ?_
  rintro e w1 ⟨v, rfl, ⟨K, Q, tl, tq⟩, b1⟩
  clear G
  have hk1 := tl.kn.1
  simp only [List.length_cons, List.length_nil] at hk1
  obtain ⟨g, c, ev, hcc⟩ := own_form tl.own (by omega)
  have kn0 := tl.kn.2 0 (by omega) (by simp)
  obtain ⟨k1, k2⟩ := kn0
  simp only [List.getElem_cons_zero, Nd.t, Nd.kids] at k1 k2
  obtain ⟨ua, uc, eu⟩ := k2.sl
  have a0 : w1.cell? ⟨g, 0, none⟩ = (t.cells)[0]? := by have h := (ev ▸ tl.own : w1.ownsRow w.heap.size 34 7 (.slice (some ⟨g, 0, none⟩) K.length c) K.length (nvCells K)).cellAt 0 (by omega); rw [h, show 0 = 0 * 7 + 0 from rfl, nv_get K 0 0 (by omega) (by omega), k1]; rfl
  have a1 : w1.cell? ⟨g, 1, none⟩ = (t.cells)[1]? := by have h := (ev ▸ tl.own : w1.ownsRow w.heap.size 34 7 (.slice (some ⟨g, 0, none⟩) K.length c) K.length (nvCells K)).cellAt 1 (by omega); rw [h, show 1 = 0 * 7 + 1 from rfl, nv_get K 0 1 (by omega) (by omega), k1]; rfl
  have a2 : w1.cell? ⟨g, 2, none⟩ = (t.cells)[2]? := by have h := (ev ▸ tl.own : w1.ownsRow w.heap.size 34 7 (.slice (some ⟨g, 0, none⟩) K.length c) K.length (nvCells K)).cellAt 2 (by omega); rw [h, show 2 = 0 * 7 + 2 from rfl, nv_get K 0 2 (by omega) (by omega), k1]; rfl
  have a3 : w1.cell? ⟨g, 3, none⟩ = (t.cells)[3]? := by have h := (ev ▸ tl.own : w1.ownsRow w.heap.size 34 7 (.slice (some ⟨g, 0, none⟩) K.length c) K.length (nvCells K)).cellAt 3 (by omega); rw [h, show 3 = 0 * 7 + 3 from rfl, nv_get K 0 3 (by omega) (by omega), k1]; rfl
  have a4 : w1.cell? ⟨g, 4, none⟩ = (t.cells)[4]? := by have h := (ev ▸ tl.own : w1.ownsRow w.heap.size 34 7 (.slice (some ⟨g, 0, none⟩) K.length c) K.length (nvCells K)).cellAt 4 (by omega); rw [h, show 4 = 0 * 7 + 4 from rfl, nv_get K 0 4 (by omega) (by omega), k1]; rfl
  have a5 : w1.cell? ⟨g, 5, none⟩ = (t.cells)[5]? := by have h := (ev ▸ tl.own : w1.ownsRow w.heap.size 34 7 (.slice (some ⟨g, 0, none⟩) K.length c) K.length (nvCells K)).cellAt 5 (by omega); rw [h, show 5 = 0 * 7 + 5 from rfl, nv_get K 0 5 (by omega) (by omega), k1]; rfl
  have a6 : w1.cell? ⟨g, 6, none⟩ = some (.slice ua kids.length uc) := by have h := (ev ▸ tl.own : w1.ownsRow w.heap.size 34 7 (.slice (some ⟨g, 0, none⟩) K.length c) K.length (nvCells K)).cellAt 6 (by omega); rw [h, show 6 = 0 * 7 + 6 from rfl, nv_get K 0 6 (by omega) (by omega), ← eu]; rfl
  simp only [Tok.cells, List.getElem?_cons_zero, List.getElem?_cons_succ] at a0 a1 a2 a3 a4 a5
  have GS := hideT (size1 k2 t w1 (Below.refl _ _) (by rw [hz]; decide))
  rw [hz, eu] at GS
  have hkl : K.length = 1 := hk1
  subst ev
  rw [hkl]
  clear hk1 hkl k1 k2 eu tl tq hz
  go_wp2_with fail
  refine GS.out.mono ?_
  rintro e w2 ⟨rfl, b2⟩
  go_wp2
  go_ret
  exact ⟨rfl, b1.trans (b2.mono b1.size)⟩

end Go.Proofs.YtibeiggedmabkaaDoor
