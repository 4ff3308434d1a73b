/-
  The reference's push.
-/
import Derived.Test.YtibeiggedmabkaaDoorSX5
namespace Go.Proofs.YtibeiggedmabkaaDoor
open Go.RowKit
set_option linter.unusedVariables false
set_option linter.unusedSimpArgs false
theorem Blk.set4s {c : Nat} {W : World} {u0 u1 u2 u3 : Value} {t : TypeId} (h : Blk W c #[u0, u1, u2, u3] t) (v0 v1 v2 v3 : Value) : Ch c W ((((W.setCell ⟨c, 0, none⟩ v0).setCell ⟨c, 1, none⟩ v1).setCell ⟨c, 2, none⟩ v2).setCell ⟨c, 3, none⟩ v3) ∧ Blk ((((W.setCell ⟨c, 0, none⟩ v0).setCell ⟨c, 1, none⟩ v1).setCell ⟨c, 2, none⟩ v2).setCell ⟨c, 3, none⟩ v3) c #[v0, v1, v2, v3] t := by
  obtain ⟨k1, q1⟩ := h.set (o := 0) v0
  obtain ⟨k2, q2⟩ := q1.set (o := 1) v1
  obtain ⟨k3, q3⟩ := q2.set (o := 2) v2
  obtain ⟨k4, q4⟩ := q3.set (o := 3) v3
  exact ⟨((k1.trans k2).trans k3).trans k4, by simpa using q4⟩
set_option maxHeartbeats 8000000 in
set_option maxRecDepth 100000 in
theorem rpush0 (oa : Option Addr) (oc : Nat) (base : Nat) (v : Value) (K : List (Tok × Value)) (t : Tok) (ua : Option Addr) (un uc : Nat) (code pl : Int) (w : World) (hK : w.ownsRow base 34 7 v K.length (nvCells K)) (hkl : K.length ≤ 1000000000) (hbase : base ≤ w.heap.size) :
    Calls Tryd.prog 54 #[.agg #[v, .slice oa 0 oc, .int .i64 code, .int .i64 pl], .agg #[.int .i64 t.k, .string t.t, .int .i64 t.b, .int .i64 t.e, .int .i64 t.l, .int .i64 t.c, .slice ua un uc]] w fun r w' => ∃ v', r = .returned (.agg #[v', .slice oa 0 oc, .int .i64 code, .int .i64 pl]) ∧ w'.ownsRow base 34 7 v' (K.length + 1) (nvCells (K ++ [(t, .slice ua un uc)])) ∧ Kp (fun k => v.ownBlock = some k) w w' ∧ (v'.ownBlock = v.ownBlock ∨ ∃ g, v'.ownBlock = some g ∧ w.heap.size ≤ g) := by
  obtain ⟨a0, cp, ev⟩ := own_sl hK
  subst ev
  have b2 := below_alloc (w := w) (.cells #[.slice a0 K.length cp, .slice oa 0 oc, .int .i64 code, .int .i64 pl] 54)
  have q2 := Blk.new w #[.slice a0 K.length cp, .slice oa 0 oc, .int .i64 code, .int .i64 pl] 54
  have e2 : (w.alloc (.cells #[.slice a0 K.length cp, .slice oa 0 oc, .int .i64 code, .int .i64 pl] 54)).heap.size = w.heap.size + 1 := by simp
  have b3 := below_alloc (w := w.alloc (.cells #[.slice a0 K.length cp, .slice oa 0 oc, .int .i64 code, .int .i64 pl] 54)) (.cells #[.int .i64 t.k, .string t.t, .int .i64 t.b, .int .i64 t.e, .int .i64 t.l, .int .i64 t.c, .slice ua un uc] 34)
  have qN := Blk.new (w.alloc (.cells #[.slice a0 K.length cp, .slice oa 0 oc, .int .i64 code, .int .i64 pl] 54)) #[.int .i64 t.k, .string t.t, .int .i64 t.b, .int .i64 t.e, .int .i64 t.l, .int .i64 t.c, .slice ua un uc] 34
  have e3 : ((w.alloc (.cells #[.slice a0 K.length cp, .slice oa 0 oc, .int .i64 code, .int .i64 pl] 54)).alloc (.cells #[.int .i64 t.k, .string t.t, .int .i64 t.b, .int .i64 t.e, .int .i64 t.l, .int .i64 t.c, .slice ua un uc] 34)).heap.size = w.heap.size + 2 := by simp
  have b4 := below_alloc (w := (w.alloc (.cells #[.slice a0 K.length cp, .slice oa 0 oc, .int .i64 code, .int .i64 pl] 54)).alloc (.cells #[.int .i64 t.k, .string t.t, .int .i64 t.b, .int .i64 t.e, .int .i64 t.l, .int .i64 t.c, .slice ua un uc] 34)) (.cells #[.slice none 0 0, .slice none 0 0, .int .i64 0, .int .i64 0] 54)
  have q4 := Blk.new ((w.alloc (.cells #[.slice a0 K.length cp, .slice oa 0 oc, .int .i64 code, .int .i64 pl] 54)).alloc (.cells #[.int .i64 t.k, .string t.t, .int .i64 t.b, .int .i64 t.e, .int .i64 t.l, .int .i64 t.c, .slice ua un uc] 34)) #[.slice none 0 0, .slice none 0 0, .int .i64 0, .int .i64 0] 54
  have e4 : (((w.alloc (.cells #[.slice a0 K.length cp, .slice oa 0 oc, .int .i64 code, .int .i64 pl] 54)).alloc (.cells #[.int .i64 t.k, .string t.t, .int .i64 t.b, .int .i64 t.e, .int .i64 t.l, .int .i64 t.c, .slice ua un uc] 34)).alloc (.cells #[.slice none 0 0, .slice none 0 0, .int .i64 0, .int .i64 0] 54)).heap.size = w.heap.size + 3 := by simp
  rw [e2] at qN
  rw [e3] at q4
  replace q2 := (q2.later b3).later b4
  replace qN := qN.later b4
  have b23 := b2.trans (b3.mono b2.size)
  have b0 := b23.trans (b4.mono b23.size)
  clear b2 b3 b4 b23
  have hvlt := fun g hg => (own_lt hK (g := g) hg).2
  replace hK := own_kp hK (Kp.of (X := fun _ => False) b0) (fun _ _ c => c)
  go_enter Tryd.func54, Tryd.ntmps54
  go_upto_region 1 with fail
  try rw [e2]
  try rw [e3]
  generalize ((w.alloc (.cells #[.slice a0 K.length cp, .slice oa 0 oc, .int .i64 code, .int .i64 pl] 54)).alloc (.cells #[.int .i64 t.k, .string t.t, .int .i64 t.b, .int .i64 t.e, .int .i64 t.l, .int .i64 t.c, .slice ua un uc] 34)).alloc (.cells #[.slice none 0 0, .slice none 0 0, .int .i64 0, .int .i64 0] 54) = W at b0 q2 qN q4 e4 hK ⊢
  have e4i : w.heap.size + 3 ≤ W.heap.size := by omega
  clear e2 e3 e4
  have y0 := q2.cell 0
  have y1 := q2.cell 1
  have y2 := q2.cell 2
  have y3 := q2.cell 3
  have x0 := qN.cell 0
  have x1 := qN.cell 1
  have x2 := qN.cell 2
  have x3 := qN.cell 3
  have x4 := qN.cell 4
  have x5 := qN.cell 5
  have x6 := qN.cell 6
  simp only [List.getElem?_toArray, List.getElem?_cons_zero, List.getElem?_cons_succ] at y0 y1 y2 y3 x0 x1 x2 x3 x4 x5 x6
  have b5 := below_alloc (w := W) (.cells #[.int .i64 t.k, .string t.t, .int .i64 t.b, .int .i64 t.e, .int .i64 t.l, .int .i64 t.c, .slice ua un uc] 34)
  have hnew := heap_alloc_new W (.cells #[.int .i64 t.k, .string t.t, .int .i64 t.b, .int .i64 t.e, .int .i64 t.l, .int .i64 t.c, .slice ua un uc] 34)
  have e5 : W.heap.size + 1 ≤ (W.alloc (.cells #[.int .i64 t.k, .string t.t, .int .i64 t.b, .int .i64 t.e, .int .i64 t.l, .int .i64 t.c, .slice ua un uc] 34)).heap.size := by simp
  have hK5 := own_kp hK (Kp.of (X := fun _ => False) b5) (fun _ _ c => c)
  have q25 := q2.later b5
  have q45 := q4.later b5
  have b05 := b0.trans (b5.mono b0.size)
  have hs5 : base ≤ (W.alloc (.cells #[.int .i64 t.k, .string t.t, .int .i64 t.b, .int .i64 t.e, .int .i64 t.l, .int .i64 t.c, .slice ua un uc] 34)).heap.size := by omega
  obtain ⟨i0, hi0, hz0, hz1, hz2⟩ := info_parts info_Node
  go_wp2_with (at_builtin; refine wpList_append_lies _ (by rfl) _ _ _ (by rfl) base 34 i0 _ 7 80 Tryd.underlying22 hi0 hz0 hz1 hz2 rfl (by omega) (.slice a0 K.length cp) K.length (nvCells K) (by rfl) hK5 ⟨W.heap.size, 0, none⟩ 1 1 [.int .i64 t.k, .string t.t, .int .i64 t.b, .int .i64 t.e, .int .i64 t.l, .int .i64 t.c, .slice ua un uc] (by rfl) (by rfl) (World.news_of_block (cs := #[.int .i64 t.k, .string t.t, .int .i64 t.b, .int .i64 t.e, .int .i64 t.l, .int .i64 t.c, .slice ua un uc]) (t := 34) (fr := (0, 0)) hnew) (by simp [Value.oneCell']) (by omega) (by simp only [maxLen]; omega) (by omega) hs5 (W.alloc (.cells #[.int .i64 t.k, .string t.t, .int .i64 t.b, .int .i64 t.e, .int .i64 t.l, .int .i64 t.c, .slice ua un uc] 34)).heap.size rfl ?_)
  intro gb cap w3 hown4 hgrow hat hlt4
  have kg := Kp.grown hgrow (fun k e => e)
  have kz : Kp (fun k => (Value.slice a0 K.length cp).ownBlock = some k) w w3 := (Kp.of (X := fun k => (Value.slice a0 K.length cp).ownBlock = some k) b05).trans kg (fun _ _ c => c)
  have q2b := kg.blk q25 (fun c => by have := hvlt _ c; omega)
  have q4b := kg.blk q45 (fun c => by have := hvlt _ c; omega)
  have own5 : w3.ownsRow base 34 7 (.slice (some ⟨gb, 0, none⟩) (K.length + 1) cap) (K.length + 1) (nvCells (K ++ [(t, .slice ua un uc)])) := by rw [nvCells_app]; exact hown4
  have hgb : gb ≠ w.heap.size ∧ gb ≠ w.heap.size + 2 := by rcases hat with c | c; (have := hvlt _ c; exact ⟨by omega, by omega⟩); exact ⟨by omega, by omega⟩
  have hloc : (Value.slice (some ⟨gb, 0, none⟩) (K.length + 1) cap).ownBlock = (Value.slice a0 K.length cp).ownBlock ∨ ∃ g, (Value.slice (some ⟨gb, 0, none⟩) (K.length + 1) cap).ownBlock = some g ∧ w.heap.size ≤ g := by rcases hat with c | c; exact Or.inl c.symm; exact Or.inr ⟨gb, rfl, by omega⟩
  clear hK hK5 q2 q4 q25 q45 qN b0 b05 b5 hnew e5 hs5 kg hgrow hown4 hat hlt4 hvlt hi0 hz0 hz1 hz2 y0 y1 y2 y3 x0 x1 x2 x3 x4 x5 x6
  obtain ⟨k6, q6⟩ := q2b.set (o := 0) (.slice (some ⟨gb, 0, none⟩) (K.length + 1) cap)
  have q6b : Blk (w3.setCell ⟨w.heap.size, 0, none⟩ (.slice (some ⟨gb, 0, none⟩) (K.length + 1) cap)) w.heap.size #[.slice (some ⟨gb, 0, none⟩) (K.length + 1) cap, .slice oa 0 oc, .int .i64 code, .int .i64 pl] 54 := by simpa using q6
  have q4c := q4b.ch k6 (by omega)
  have own6 := own_kp own5 (Kp.ch (X := fun i => i = w.heap.size) k6 rfl) (fun g hg e => hgb.1 (by injection hg with hg; simp only at hg; omega))
  have kz6 := kz.trans (Kp.ch (X := fun i => i = w.heap.size) k6 rfl) (fun i hi e => by omega)
  have y0 := q2b.cell 0
  simp only [List.getElem?_toArray, List.getElem?_cons_zero, List.getElem?_cons_succ] at y0
  have fz := fun o => q2b.frozen o
  go_upto_region 3 with fail
  clear y0 fz q6 k6 own5 kz q4b q2b
  generalize w3.setCell ⟨w.heap.size, 0, none⟩ (.slice (some ⟨gb, 0, none⟩) (K.length + 1) cap) = w6 at q6b q4c own6 kz6 ⊢
  have y0 := q6b.cell 0
  have y1 := q6b.cell 1
  have y2 := q6b.cell 2
  have y3 := q6b.cell 3
  have z0 := q4c.cell 0
  have z1 := q4c.cell 1
  have z2 := q4c.cell 2
  have z3 := q4c.cell 3
  simp only [List.getElem?_toArray, List.getElem?_cons_zero, List.getElem?_cons_succ] at y0 z0 y1 z1 y2 z2 y3 z3
  have fz := fun o => q4c.frozen o
  go_wp2
  clear fz y0 z0 y1 z1 y2 z2 y3 z3
  obtain ⟨k9, q9⟩ := q4c.set4s (.slice (some ⟨gb, 0, none⟩) (K.length + 1) cap) (.slice oa 0 oc) (.int .i64 code) (.int .i64 pl)
  have u0 := q9.cell 0
  have u1 := q9.cell 1
  have u2 := q9.cell 2
  have u3 := q9.cell 3
  simp only [List.getElem?_toArray, List.getElem?_cons_zero, List.getElem?_cons_succ] at u0 u1 u2 u3
  have own9 := own_kp own6 (Kp.ch (X := fun i => i = w.heap.size + 2) k9 rfl) (fun g hg e => hgb.2 (by injection hg with hg; simp only at hg; omega))
  have kz9 := kz6.trans (Kp.ch (X := fun i => i = w.heap.size + 2) k9 rfl) (fun i hi e => by omega)
  clear k9 q9
  generalize ((((w6.setCell ⟨w.heap.size + 2, 0, none⟩ (.slice (some ⟨gb, 0, none⟩) (K.length + 1) cap)).setCell ⟨w.heap.size + 2, 1, none⟩ (.slice oa 0 oc)).setCell ⟨w.heap.size + 2, 2, none⟩ (.int .i64 code)).setCell ⟨w.heap.size + 2, 3, none⟩ (.int .i64 pl)) = w9 at own9 kz9 u0 u1 u2 u3 ⊢
  refine bodyPost_ret (v := .agg #[.slice (some ⟨gb, 0, none⟩) (K.length + 1) cap, .slice oa 0 oc, .int .i64 code, .int .i64 pl]) (by rw [results_c rfl]; go_simp) rfl ?_
  exact ⟨_, rfl, own9, kz9, hloc⟩

end Go.Proofs.YtibeiggedmabkaaDoor
