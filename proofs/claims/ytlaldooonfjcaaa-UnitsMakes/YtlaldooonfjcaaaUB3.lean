/-
  units: Grow.
-/
import Derived.Test.YtlaldooonfjcaaaUB2
namespace Go.Proofs.Ytlaldooonfjcaaa
open Go.RowKit
set_option linter.unusedVariables false
set_option linter.unusedSimpArgs false
theorem maxLen_is : maxLen = 9223372036854775807 := rfl
/-- the whole store as it is told: behind calls that change it -/
structure Step (ow ow' : Nat → Tg) (w w' : World) : Prop where
  chg : Chg ow w w'
  same : ∀ x, x < w.heap.size → ow' x = ow x
theorem Step.refl (ow : Nat → Tg) (w : World) : Step ow ow w w := ⟨Chg.refl _ _, fun _ _ => rfl⟩
theorem Step.trans {ow ow1 ow2 : Nat → Tg} {w w1 w2 : World} (h : Step ow ow1 w w1) (k : Step ow1 ow2 w1 w2) : Step ow ow2 w w2 :=
  ⟨h.chg.trans k.chg h.same, fun x hx => (k.same x (Nat.lt_of_lt_of_le hx h.chg.size)).trans (h.same x hx)⟩
theorem Step.of_below {ow : Nat → Tg} {w w' : World} (h : Below w.heap.size w w') : Step ow ow w w' := ⟨Chg.of_below h, fun _ _ => rfl⟩
/-- below a bound where nothing is the store's -/
theorem Step.below {ow ow' : Nat → Tg} {w w' : World} {B : Nat} (h : Step ow ow' w w') (hB : ∀ x, x < B → ow x = .oth) (hs : B ≤ w.heap.size) : Below B w w' :=
  ⟨h.chg.os, h.chg.tape, h.chg.output, h.chg.size, fun x hx => h.chg.block x (by omega) (hB x hx)⟩
set_option maxHeartbeats 2000000 in
set_option maxRecDepth 100000 in
theorem grow_is (ow : Nat → Tg) (b : Nat) (V : SV) (u : US) (n : Nat) (w : World) (h : UM w ow b V u) (hn : u.tr.length = n + 1) (hf : n < 262144) (hw : u.ws.length ≤ 1048576) :
    Calls Try.prog 7 #[.pointer (some ⟨b, 0, none⟩)] w fun e w' => ∃ ow' V', e = .returned (.tuple #[.int .i64 ((n : Int) + 1), .int .i64 0]) ∧ UM w' ow' b V' { u with tr := u.tr ++ [0], ws := u.ws ++ [[], []] } ∧ Step ow ow' w w' := by
  obtain ⟨g, hg⟩ := h.rtr.got (by omega)
  have c0 := h.cells.2.2.1
  rw [SlV.val_some hg, hn] at c0
  generalize V.tr.c = c at c0
  have G := hide' (isNoneM b g n c w c0)
  have G2 := hide' (fun w' (hb : Below w.heap.size w w') => atomsM b g n c w' (below_cell hb c0) (by omega))
  have i1 : decide ((n : Int) ≥ 262144) = false := decide_eq_false (by omega)
  replace i1 := hide' i1
  have HM := hide' maxLen_is
  obtain ⟨ii, hii, hiz, his, hib⟩ := info_parts info_i
  obtain ⟨ji, hji, hjz, hjs, hjb⟩ := info_parts info_s
  go_enter Try.func7, Try.ntmps7
  go_wp2_with fail
  refine G.out.mono ?_
  rintro e w1 ⟨rfl, b1⟩
  go_wp2_with fail
  refine (G2.out _ b1).mono ?_
  rintro e w2 ⟨rfl, b2⟩
  have hB := b1.trans (b2.mono b1.size)
  clear b1 b2 G G2
  replace h := h.later hB
  have S0 : Step ow ow w w2 := Step.of_below hB
  clear hB c0
  have k0 := h.cells.2.2.1
  have k1 := h.cells.2.2.2.1
  have k2 := h.cells.2.2.2.2.1
  have k3 := h.cells.2.2.2.2.2.1
  have k4 := h.cells.2.2.2.2.2.2.1
  have k5 := h.cells.2.2.2.2.2.2.2.1
  have k6 := h.cells.2.2.2.2.2.2.2.2
  have fz := fun o => h.cells.2.1.frozen o
  obtain ⟨w3, hww3⟩ : ∃ w3, w2.alloc (.cells #[.int .i64 0] 3) = w3 := ⟨_, rfl⟩
  have hnew := heap_alloc_new w2 (.cells #[.int .i64 0] 3)
  have bN := below_alloc (w := w2) (.cells #[.int .i64 0] 3)
  rw [hww3] at hnew bN
  have hw3 := h.later bN
  have hr := hw3.rtr.1
  rw [SlV.val_some hg, hn] at hr k0
  have hl1 : n + 1 + 1 ≤ maxLen := by have := HM.out; omega
  have hl2 : (n + 1 + 1) * 8 ≤ 140737488355328 := by omega
  have fz3 := fun o => hw3.cells.2.1.frozen o
  go_wp2_with (first | (refine geq_law _ (by rfl) _ _ _ _ (by rfl) .i64 (n : Int) 262144 false (by rfl) (by rfl) i1.out ?_) | (at_builtin; (try rw [hww3]); refine wpList_append_lies _ (by rfl) _ _ _ (by rfl) 0 3 ii _ 1 8 Try.underlying31 hii hiz his hib rfl (by omega) (.slice (some ⟨g, 0, none⟩) (n + 1) V.tr.c) (n + 1) (iv u.tr) (by rfl) hr ⟨w2.heap.size, 0, none⟩ 1 1 [.int .i64 0] (by rfl) (by rfl) (World.news_of_block (cs := #[.int .i64 0]) (t := 3) (fr := (0, 0)) hnew) (by simp [Value.oneCell']) (by omega) hl1 hl2 (Nat.zero_le _) w3.heap.size rfl ?_))
  intro gb cap w4 hown hgrow hat hlt
  rw [← hn] at hown
  have R := UM.app_tr (zs := [0]) hw3 hown rfl (by rw [SlV.val_some hg]; exact hgrow) (by rw [SlV.val_some hg]; exact hat) rfl hlt
  have P4 := (hw3.part .st).app (RowAt.app hw3.rtr hown (by rw [SlV.val_some hg]; exact hgrow) (by rw [SlV.val_some hg]; exact hat) rfl hlt).2 (by simp)
  have q3 := P4.2.2.2.2.2.1
  have q0 := P4.2.2.1
  have fz4 := fun o => P4.2.1.frozen o
  clear P4 hown hgrow hat hlt hr hl1 hl2 hnew k0 k1 k2 k3 k4 k5 k6 fz fz3
  obtain ⟨w5, hw5⟩ : ∃ w5, w4.setCell ⟨b, 0, none⟩ (.slice (some ⟨gb, 0, none⟩) (u.tr.length + 1) cap) = w5 := ⟨_, rfl⟩
  rw [hw5] at R
  rw [hn] at hw5
  have h5 := R.1
  have S1 := S0.trans ((Step.of_below bN).trans ⟨R.2.1, R.2.2⟩)
  clear R S0 bN hw3 h
  obtain ⟨w6, hww6⟩ : ∃ w6, w5.alloc (.cells #[.slice none 0 0, .slice none 0 0] 31) = w6 := ⟨_, rfl⟩
  have hnew := heap_alloc_new w5 (.cells #[.slice none 0 0, .slice none 0 0] 31)
  have bN := below_alloc (w := w5) (.cells #[.slice none 0 0, .slice none 0 0] 31)
  rw [hww6] at hnew bN
  have hw6 := h5.later bN
  have hr := hw6.rws.1
  have hl1 : u.ws.length + 2 ≤ maxLen := by have := HM.out; omega
  have hl2 : (u.ws.length + 2) * 24 ≤ 140737488355328 := by omega
  have hlA : (u.tr ++ [0]).length = n + 2 := by simp [hn]
  have f5 := fun o => h5.cells.2.1.frozen o
  have k3 := h5.cells.2.2.2.2.2.1
  go_wp2_with (at_builtin; (try rw [hw5]); (try rw [hww6]); refine wpList_append_lies _ (by rfl) _ _ _ (by rfl) 0 31 ji _ 1 24 Try.underlying37 hji hjz hjs hjb rfl (by omega) (V.ws.val u.ws.length) (u.ws.length) (wsC V.wv u.ws) (by rfl) hr ⟨w5.heap.size, 0, none⟩ 2 2 [.slice none 0 0, .slice none 0 0] (by rfl) (by rfl) (World.news_of_block (cs := #[.slice none 0 0, .slice none 0 0]) (t := 31) (fr := (0, 0)) hnew) (by simp [Value.oneCell']) (by omega) hl1 hl2 (Nat.zero_le _) w6.heap.size rfl ?_)
  intro gc cap2 w7 hown hgrow hat hlt
  have R := UM.app_ws hw6 hown hgrow hat rfl hlt
  have P4 := (hw6.part .st).app (RowAt.app hw6.rws hown hgrow hat rfl hlt).2 (by simp)
  have fz7 := fun o => P4.2.1.frozen o
  have q3 := P4.2.2.2.2.2.1
  clear P4 hown hgrow hat hlt hr hl1 hl2 hnew
  obtain ⟨w8, hw8⟩ : ∃ w8, w7.setCell ⟨b, 3, none⟩ (.slice (some ⟨gc, 0, none⟩) (u.ws.length + 2) cap2) = w8 := ⟨_, rfl⟩
  rw [hw8] at R
  have h8 := R.1
  have S2 := S1.trans ((Step.of_below bN).trans ⟨R.2.1, R.2.2⟩)
  clear R S1 bN hw6
  have c0 := h8.cells.2.2.1
  rw [SlV.val_some rfl] at c0
  have c0b : w8.cell? ⟨b, 0, none⟩ = some (.slice (some ⟨gb, 0, none⟩) (n + 1 + 1) cap) := by rw [c0]; simp [hn]
  have G := hide' (atomsM b gb (n + 1) cap w8 c0b (by omega))
  go_wp2_with fail
  refine G.out.mono ?_
  rintro e w9 ⟨rfl, b9⟩
  go_wp2
  refine bodyPost_ret (v := .tuple #[.int .i64 ((n : Int) + 1), .int .i64 0]) (by rw [results_tt rfl]; go_simp) rfl ?_
  exact ⟨_, _, rfl, h8.later b9, S2.trans (Step.of_below b9)⟩
end Go.Proofs.Ytlaldooonfjcaaa
