/-
  The reference's takes.
-/
import Derived.Test.YtibeiggedmabkaaDoorSZ6
namespace Go.Proofs.YtibeiggedmabkaaDoor
open Go.RowKit
set_option linter.unusedVariables false
set_option linter.unusedSimpArgs false
theorem results_ct2 {fn : Func} {p u : Tmp} {ty : TypeId} (h : fn.results = #[.cell p ty, .tmp u]) (tmps : Array Value) (P : Program) (w : World) :
    (results fn tmps).run P w = ((asAddr (tmps.getD p undef)).run P w).andThen fun a w1 => ((loadVar ty a).run P w1).andThen fun v w2 => .ok (.tuple #[v, tmps.getD u undef]) w2 := by
  simp only [results, h]
  simp [Sem.run_bind]
theorem NdIn.lt {w : World} {P : Nat → Prop} {v : Value} {l : List Nd} (h : NdIn w P v l) : NdIn w (fun g => P g ∧ g < w.heap.size) v l := by
  induction h with
  | nil a c => exact .nil a c
  | row g off c kids vs hn hb hP hc hv _ ih => exact .row g off c kids vs hn hb ⟨hP, World.block_lt_of_cell? w _ (hv 0 hn)⟩ hc hv ih
/-- a node of a row -/
theorem NdIn.at {w : World} {P : Nat → Prop} {a : Option Addr} {n c : Nat} {l : List Nd} (h : NdIn w P (.slice a n c) l) {i : Nat} (hi : i < l.length) : ∃ g off u, a = some ⟨g, off, none⟩ ∧ (∀ j, j < 6 → w.cell? ⟨g, off + i * 7 + j, none⟩ = (l[i].t).cells[j]?) ∧ w.cell? ⟨g, off + i * 7 + 6, none⟩ = some u ∧ NdIn w P u l[i].kids := by
  cases h with
  | nil => exact absurd hi (Nat.not_lt_zero _)
  | row g off c kids vs hn hb hP hc hv hk => exact ⟨g, off, vs i, rfl, fun j hj => hc i hi j hj, hv i hi, hk i hi⟩
theorem BuiltW.nd3 {w w0 : World} {s : BS} {code pl : Int} {r : Ending} (h : BuiltW w w0 s code pl r) : ∃ na nc oa oc P, r = .returned (.agg #[.slice na s.nodes.length nc, .slice oa s.opn.length oc, .int .i64 code, .int .i64 pl]) ∧ NdIn w P (.slice na s.nodes.length nc) s.nodes ∧ (∀ g, P g → w0.heap.size ≤ g) ∧ s.nodes.length ≤ 900000000 := by
  obtain ⟨base, hb, ov, lv, x0, P, rfl, bd, hr, hk⟩ := h
  have h0 : x0 ∈ lv ++ [x0] := by simp
  have hn := hr.nodesR
  obtain ⟨na, nc, en⟩ := own_sl (bd.ok x0 h0)
  have hl : x0.K.length = s.nodes.length := by rw [← hn]; exact (bd.kn x0 h0).1
  have hkx := hk x0 h0
  rw [hl] at en
  obtain ⟨oa, oc, eo⟩ := own_sl bd.own
  refine ⟨na, nc, oa, oc, fun g => P g ∨ x0.v.ownBlock = some g, by rw [en, eo, hr.openLen], ?_, fun g hg => ?_, by omega⟩
  · have := ndin_of (Q := fun g => P g ∨ x0.v.ownBlock = some g) (bd.ok x0 h0) (bd.kn x0 h0) (fun g c => Or.inl c) (fun g c => Or.inr c) (by omega)
    rw [en, hn] at this
    rw [en]
    exact this
  · rcases hg with c | c
    · exact Nat.le_trans hb (bd.pf g c).2.2
    · exact Nat.le_trans hb (own_lt (bd.ok x0 h0) c).1
theorem take_drop_snoc {α : Type} {l : List α} {a k : Nat} (ha : a ≤ k) (hk : k < l.length) : (l.take (k + 1)).drop a = (l.take k).drop a ++ [l[k]] := by
  rw [List.take_add_one, List.getElem?_eq_getElem hk, List.drop_append_of_le_length (by rw [List.length_take]; omega)]
  rfl
set_option maxHeartbeats 8000000 in
set_option maxRecDepth 100000 in
theorem takes_ok (tx : ByteArray) (told : Nat) (dep : Int) (ov : Bool) (co q : Int) (na : Option Addr) (nc : Nat) (oa : Option Addr) (m oc : Nat) (pl : Int) (N : List Nd) (P : Nat → Prop) (w : World) (hnd : NdIn w P (.slice na N.length nc) N) (ht : told ≤ N.length) (hN : N.length ≤ 900000000)  : Calls Tryd.prog 34 #[.agg #[.string tx, .int .i64 (told : Nat), .int .i64 dep, .bool ov, .int .i64 co, .int .i64 q], .agg #[.slice na N.length nc, .slice oa m oc, .int .i64 0, .int .i64 pl]] w fun r w' => ∃ v Q, r = .returned (.tuple #[.agg #[.string tx, .int .i64 (N.length : Nat), .int .i64 (m : Nat), .bool ov, .int .i64 co, .int .i64 q], v]) ∧ NdIn w' Q v (N.drop told) ∧ (∀ g, Q g → P g ∨ w.heap.size ≤ g) ∧ Below w.heap.size w w' := by
  have b2 := below_alloc (w := w) (.cells #[.string tx, .int .i64 (told : Nat), .int .i64 dep, .bool ov, .int .i64 co, .int .i64 q] 40)
  have q2 := Blk.new w #[.string tx, .int .i64 (told : Nat), .int .i64 dep, .bool ov, .int .i64 co, .int .i64 q] 40
  have e2 : (w.alloc (.cells #[.string tx, .int .i64 (told : Nat), .int .i64 dep, .bool ov, .int .i64 co, .int .i64 q] 40)).heap.size = w.heap.size + 1 := by simp
  have b3 := below_alloc (w := w.alloc (.cells #[.string tx, .int .i64 (told : Nat), .int .i64 dep, .bool ov, .int .i64 co, .int .i64 q] 40)) (.cells #[.slice na N.length nc, .slice oa m oc, .int .i64 0, .int .i64 pl] 54)
  have q3 := Blk.new (w.alloc (.cells #[.string tx, .int .i64 (told : Nat), .int .i64 dep, .bool ov, .int .i64 co, .int .i64 q] 40)) #[.slice na N.length nc, .slice oa m oc, .int .i64 0, .int .i64 pl] 54
  have e3 : ((w.alloc (.cells #[.string tx, .int .i64 (told : Nat), .int .i64 dep, .bool ov, .int .i64 co, .int .i64 q] 40)).alloc (.cells #[.slice na N.length nc, .slice oa m oc, .int .i64 0, .int .i64 pl] 54)).heap.size = w.heap.size + 2 := by simp
  have b4 := below_alloc (w := (w.alloc (.cells #[.string tx, .int .i64 (told : Nat), .int .i64 dep, .bool ov, .int .i64 co, .int .i64 q] 40)).alloc (.cells #[.slice na N.length nc, .slice oa m oc, .int .i64 0, .int .i64 pl] 54)) (.cells #[.string ⟨#[]⟩, .int .i64 0, .int .i64 0, .bool false, .int .i64 0, .int .i64 0] 40)
  have q4 := Blk.new ((w.alloc (.cells #[.string tx, .int .i64 (told : Nat), .int .i64 dep, .bool ov, .int .i64 co, .int .i64 q] 40)).alloc (.cells #[.slice na N.length nc, .slice oa m oc, .int .i64 0, .int .i64 pl] 54)) #[.string ⟨#[]⟩, .int .i64 0, .int .i64 0, .bool false, .int .i64 0, .int .i64 0] 40
  have e4 : (((w.alloc (.cells #[.string tx, .int .i64 (told : Nat), .int .i64 dep, .bool ov, .int .i64 co, .int .i64 q] 40)).alloc (.cells #[.slice na N.length nc, .slice oa m oc, .int .i64 0, .int .i64 pl] 54)).alloc (.cells #[.string ⟨#[]⟩, .int .i64 0, .int .i64 0, .bool false, .int .i64 0, .int .i64 0] 40)).heap.size = w.heap.size + 3 := by simp
  rw [e2] at q3
  rw [e3] at q4
  replace q2 := (q2.later b3).later b4
  replace q3 := q3.later b4
  have b23 := b2.trans (b3.mono b2.size)
  have hB := b23.trans (b4.mono b23.size)
  clear b2 b3 b4 b23
  have HND := hideT hnd.lt
  clear hnd
  go_enter Tryd.func34, Tryd.ntmps34
  go_upto_region 1 with fail
  try rw [e2]
  try rw [e3]
  generalize ((w.alloc (.cells #[.string tx, .int .i64 (told : Nat), .int .i64 dep, .bool ov, .int .i64 co, .int .i64 q] 40)).alloc (.cells #[.slice na N.length nc, .slice oa m oc, .int .i64 0, .int .i64 pl] 54)).alloc (.cells #[.string ⟨#[]⟩, .int .i64 0, .int .i64 0, .bool false, .int .i64 0, .int .i64 0] 40) = W at hB q2 q3 q4 e4 ⊢
  have e4i : w.heap.size + 3 ≤ W.heap.size := by omega
  clear e2 e3 e4
  have b5 := below_alloc (w := W) (.cells #[] 34)
  have o5 : (W.alloc (.cells #[] 34)).ownsRow (w.heap.size + 3) 34 7 (.slice (some ⟨W.heap.size, 0, none⟩) 0 0) ([] : List (Tok × Value)).length (nvCells []) := World.ownsRow_lit W #[] 0 e4i (by simp [maxLen]) rfl
  have q25 := q2.later b5
  have q35 := q3.later b5
  have q45 := q4.later b5
  have hB5 := hB.trans (b5.mono hB.size)
  have hs5 := Nat.le_trans e4i b5.size
  have INI := hideT (And.intro q25 (And.intro q35 (And.intro q45 (And.intro hB5 (And.intro o5 hs5)))))
  have y1 := q25.cell 1
  simp only [List.getElem?_toArray, List.getElem?_cons_zero, List.getElem?_cons_succ] at y1
  clear q2 q3 q4 hB b5 o5 q35 q45 hB5 q25 hs5
  go_wp2_with fail
  clear y1
  go_loopw [6, 7] (fun l i wr => ∃ (k : Nat) (K : List (Tok × Value)), told ≤ k ∧ k ≤ N.length ∧ i = .int .i64 k ∧ wr.ownsRow (w.heap.size + 3) 34 7 l K.length (nvCells K) ∧ KN wr (fun g => P g ∧ g < w.heap.size) K ((N.take k).drop told) ∧ Blk wr w.heap.size #[.string tx, .int .i64 (told : Nat), .int .i64 dep, .bool ov, .int .i64 co, .int .i64 q] 40 ∧ Blk wr (w.heap.size + 1) #[.slice na N.length nc, .slice oa m oc, .int .i64 0, .int .i64 pl] 54 ∧ Blk wr (w.heap.size + 2) #[.string ⟨#[]⟩, .int .i64 0, .int .i64 0, .bool false, .int .i64 0, .int .i64 0] 40 ∧ Below w.heap.size w wr ∧ w.heap.size + 3 ≤ wr.heap.size) (fun l i _ => N.length - (intOf i).toNat)
  case atStart => exact ⟨told, [], Nat.le_refl _, ht, rfl, INI.out.2.2.2.2.1, ⟨by simp, fun i h => absurd h (Nat.not_lt_zero _)⟩, INI.out.1, INI.out.2.1, INI.out.2.2.1, INI.out.2.2.2.1, INI.out.2.2.2.2.2⟩
  case round =>
    clear INI
    obtain ⟨k, K, hk1, hk2, rfl, own, kn, q2, q3, q4, hB, hsz⟩ := hrel
    have y0 := q3.cell 0
    simp only [List.getElem?_toArray, List.getElem?_cons_zero, List.getElem?_cons_succ] at y0
    by_cases hlt : k < N.length
    · have hki : ((k : Int) < (N.length : Int)) := by omega
      obtain ⟨g, off, u, rfl, hc, hu, hkid⟩ := HND.out.at hlt
      obtain ⟨T, hT⟩ : ∃ T, N[k].t = T := ⟨_, rfl⟩
      obtain ⟨ua, uc, eu⟩ := hkid.sl
      obtain ⟨un, hun⟩ : ∃ un, N[k].kids.length = un := ⟨_, rfl⟩
      rw [hun] at eu
      subst eu
      have a0 := hc 0 (by decide)
      have a1 := hc 1 (by decide)
      have a2 := hc 2 (by decide)
      have a3 := hc 3 (by decide)
      have a4 := hc 4 (by decide)
      have a5 := hc 5 (by decide)
      rw [hT] at a0 a1 a2 a3 a4 a5
      simp only [Tok.cells, List.getElem?_cons_zero, List.getElem?_cons_succ] at a0 a1 a2 a3 a4 a5
      rw [Nat.add_zero] at a0
      replace a0 := below_cell hB a0
      replace a1 := below_cell hB a1
      replace a2 := below_cell hB a2
      replace a3 := below_cell hB a3
      replace a4 := below_cell hB a4
      replace a5 := below_cell hB a5
      have a6 := below_cell hB hu
      have hkd := hkid.on hB
      have HK := hideT (And.intro hT hkd)
      clear hT hun hc hu hkid
      have b6 := below_alloc (w := wr) (.cells #[.int .i64 T.k, .string T.t, .int .i64 T.b, .int .i64 T.e, .int .i64 T.l, .int .i64 T.c, .slice ua un uc] 34)
      have hnew := heap_alloc_new wr (.cells #[.int .i64 T.k, .string T.t, .int .i64 T.b, .int .i64 T.e, .int .i64 T.l, .int .i64 T.c, .slice ua un uc] 34)
      have own6 := own_kp own (Kp.of (X := fun _ => False) b6) (fun _ _ c => c)
      have HF := hideT (And.intro own6 (And.intro (kn.kept (fun g _ hl => b6.block g hl) (fun _ c => c)) (And.intro (q2.later b6) (And.intro (q3.later b6) (And.intro (q4.later b6) (And.intro (hB.trans (b6.mono hB.size)) (HK.out.2.on b6)))))))
      have hs6 : w.heap.size + 3 ≤ (wr.alloc (.cells #[.int .i64 T.k, .string T.t, .int .i64 T.b, .int .i64 T.e, .int .i64 T.l, .int .i64 T.c, .slice ua un uc] 34)).heap.size := Nat.le_trans hsz b6.size
      have hKl : K.length ≤ 900000000 := by rw [kn.1, List.length_drop, List.length_take]; omega
      obtain ⟨i0, hi0, hz0, hz1, hz2⟩ := info_parts info_Node
      clear own kn q2 q4 b6
      obtain ⟨la, lc, el⟩ := own_sl own6
      subst el
      go_wp2_with (at_builtin; refine wpList_append_lies _ (by rfl) _ _ _ (by rfl) (w.heap.size + 3) 34 i0 _ 7 80 Tryd.underlying22 hi0 hz0 hz1 hz2 rfl (by omega) (.slice la K.length lc) K.length (nvCells K) (by rfl) own6 ⟨wr.heap.size, 0, none⟩ 1 1 [.int .i64 T.k, .string T.t, .int .i64 T.b, .int .i64 T.e, .int .i64 T.l, .int .i64 T.c, .slice ua un uc] (by rfl) (by rfl) (World.news_of_block (cs := #[.int .i64 T.k, .string T.t, .int .i64 T.b, .int .i64 T.e, .int .i64 T.l, .int .i64 T.c, .slice ua un uc]) (t := 34) (fr := (0, 0)) hnew) (by simp [Value.oneCell']) (by omega) (by simp only [maxLen]; omega) (by omega) hs6 (wr.alloc (.cells #[.int .i64 T.k, .string T.t, .int .i64 T.b, .int .i64 T.e, .int .i64 T.l, .int .i64 T.c, .slice ua un uc] 34)).heap.size rfl ?_)
      intro gb cap w3 hown4 hgrow hat hlt4
      obtain ⟨own6, kn, q2, q3, q4, hB, hkd⟩ := HF.out
      have kg := Kp.grown hgrow (fun k e => e)
      have hvb : ∀ g, (Value.slice la K.length lc).ownBlock = some g → w.heap.size + 3 ≤ g := fun g hg => (own_lt own6 hg).1
      replace q2 := kg.blk q2 (fun c => by have := hvb _ c; omega)
      replace q3 := kg.blk q3 (fun c => by have := hvb _ c; omega)
      replace q4 := kg.blk q4 (fun c => by have := hvb _ c; omega)
      replace kn := kn.kept (fun g hg hl => kg.block g hl (fun c => by have := hvb _ c; have := hg.2; omega)) (fun _ c => c)
      replace hkd := hkd.kept (fun g hg hl => kg.block g hl (fun c => by have := hvb _ c; have := hg.2; omega)) (fun _ c => c)
      replace hB := hB.trans (kg.below (B := w.heap.size) (by omega) (fun g hg c => by have := hvb _ c; omega))
      have hs7 := Nat.le_trans hs6 kg.size
      have own7 : w3.ownsRow (w.heap.size + 3) 34 7 (.slice (some ⟨gb, 0, none⟩) (K.length + 1) cap) (K ++ [(T, Value.slice ua un uc)]).length (nvCells (K ++ [(T, Value.slice ua un uc)])) := by rw [nvCells_app, List.length_append]; exact hown4
      have kn7 : KN w3 (fun g => P g ∧ g < w.heap.size) (K ++ [(T, Value.slice ua un uc)]) ((N.take (k + 1)).drop told) := by
        rw [take_drop_snoc hk1 hlt, ← nd_eta N[k], HK.out.1]; exact kn.snoc hkd
      clear hown4 hgrow hat hlt4 kg hvb kn hkd hnew own6 hs6 hsz HF y0 a0 a1 a2 a3 a4 a5 a6 HK
      go_wp2
      go_roundw
      case rel => exact ⟨k + 1, _, by omega, by omega, by go_num, own7, kn7, q2, q3, q4, hB, hs7⟩
      case measure => simp [intOf]; omega
    · have hki : ¬ ((k : Int) < (N.length : Int)) := by omega
      have ek : k = N.length := by omega
      rw [ek, List.take_length] at kn
      clear ek
      obtain ⟨la, lc, el⟩ := own_sl own
      subst el
      have hKl : K.length ≤ 1099511627776 := by rw [kn.1, List.length_drop]; omega
      have HOK := hideT (And.intro own kn)
      clear own kn
      have y1 := q3.cell 1
      have y2 := q3.cell 2
      have y3 := q3.cell 3
      simp only [List.getElem?_toArray, List.getElem?_cons_zero, List.getElem?_cons_succ] at y1 y2 y3
      have u0 := q2.cell 0
      have u1 := q2.cell 1
      have u2 := q2.cell 2
      have u3 := q2.cell 3
      have u4 := q2.cell 4
      have u5 := q2.cell 5
      simp only [List.getElem?_toArray, List.getElem?_cons_zero, List.getElem?_cons_succ] at u0 u1 u2 u3 u4 u5
      have fz := fun o => q2.frozen o
      go_upto_region 10 with fail
      clear y2 y3
      clear fz y0 y1 u0 u1 u2 u3 u4 u5
      obtain ⟨k5, q5⟩ := q2.set (o := 1) (.int .i64 (N.length : Nat))
      obtain ⟨k6, q6⟩ := q5.set (o := 2) (.int .i64 (m : Nat))
      have q7 : Blk ((wr.setCell ⟨w.heap.size, 1, none⟩ (.int .i64 (N.length : Nat))).setCell ⟨w.heap.size, 2, none⟩ (.int .i64 (m : Nat))) w.heap.size #[.string tx, .int .i64 (N.length : Nat), .int .i64 (m : Nat), .bool ov, .int .i64 co, .int .i64 q] 40 := by simpa using q6
      have kk := Kp.ch (X := fun i => i = w.heap.size) (k5.trans k6) rfl
      have HOW := hideT (And.intro (own_kp HOK.out.1 kk (fun g hg e => by have := (own_lt HOK.out.1 hg).1; omega)) (HOK.out.2.kept (fun g hg hl => kk.block g hl (fun e => by have := hg.2; omega)) (fun _ c => c)))
      replace q3 := (q3.ch k5 (by omega)).ch k6 (by omega)
      replace q4 := (q4.ch k5 (by omega)).ch k6 (by omega)
      replace hB := (hB.trans (k5.below (B := w.heap.size) (Nat.le_refl _))).trans (k6.below (B := w.heap.size) (Nat.le_refl _))
      clear k5 k6 q5 q6 kk HOK q2
      have q2 := q7
      clear q7
      generalize ((wr.setCell ⟨w.heap.size, 1, none⟩ (.int .i64 (N.length : Nat))).setCell ⟨w.heap.size, 2, none⟩ (.int .i64 (m : Nat))) = wx at q2 q3 q4 hB HOW ⊢
      have u0 := q2.cell 0
      have u1 := q2.cell 1
      have u2 := q2.cell 2
      have u3 := q2.cell 3
      have u4 := q2.cell 4
      have u5 := q2.cell 5
      simp only [List.getElem?_toArray, List.getElem?_cons_zero, List.getElem?_cons_succ] at u0 u1 u2 u3 u4 u5
      have v0 := q4.cell 0
      have v1 := q4.cell 1
      have v2 := q4.cell 2
      have v3 := q4.cell 3
      have v4 := q4.cell 4
      have v5 := q4.cell 5
      simp only [List.getElem?_toArray, List.getElem?_cons_zero, List.getElem?_cons_succ] at v0 v1 v2 v3 v4 v5
      have fz := fun o => q4.frozen o
      go_wp2
      clear fz u0 v0 u1 v1 u2 v2 u3 v3 u4 v4 u5 v5
      obtain ⟨k9, q9⟩ := q4.set6 (.string tx) (.int .i64 (N.length : Nat)) (.int .i64 (m : Nat)) (.bool ov) (.int .i64 co) (.int .i64 q)
      unfold set6 at k9 q9
      have t0 := q9.cell 0
      have t1 := q9.cell 1
      have t2 := q9.cell 2
      have t3 := q9.cell 3
      have t4 := q9.cell 4
      have t5 := q9.cell 5
      simp only [List.getElem?_toArray, List.getElem?_cons_zero, List.getElem?_cons_succ] at t0 t1 t2 t3 t4 t5
      have hvb : ∀ g, (Value.slice la K.length lc).ownBlock = some g → w.heap.size + 3 ≤ g := fun g hg => (own_lt HOW.out.1 hg).1
      have kk := Kp.ch (X := fun i => i = w.heap.size + 2) k9 rfl
      have own9 := own_kp HOW.out.1 kk (fun g hg e => by have := hvb g hg; omega)
      have kn9 := HOW.out.2.kept (fun g hg hl => kk.block g hl (fun e => by have := hg.2; omega)) (fun _ c => c)
      have hB9 := hB.trans (k9.below (B := w.heap.size) (by omega))
      have nd9 := ndin_of (Q := fun g => (P g ∧ g < w.heap.size) ∨ (Value.slice la K.length lc).ownBlock = some g) own9 kn9 (fun g c => Or.inl c) (fun g c => Or.inr c) hKl
      have HQ := hideT (show ∀ g, ((P g ∧ g < w.heap.size) ∨ (Value.slice la K.length lc).ownBlock = some g) → P g ∨ w.heap.size ≤ g from fun g hg => hg.elim (fun c => Or.inl c.1) (fun c => Or.inr (by have := hvb g c; omega)))
      clear k9 q9 kk own9 kn9 hvb
      generalize ((((((wx.setCell ⟨w.heap.size + 2, 0, none⟩ (.string tx)).setCell ⟨w.heap.size + 2, 1, none⟩ (.int .i64 (N.length : Nat))).setCell ⟨w.heap.size + 2, 2, none⟩ (.int .i64 (m : Nat))).setCell ⟨w.heap.size + 2, 3, none⟩ (.bool ov)).setCell ⟨w.heap.size + 2, 4, none⟩ (.int .i64 co)).setCell ⟨w.heap.size + 2, 5, none⟩ (.int .i64 q)) = w9 at nd9 hB9 t0 t1 t2 t3 t4 t5 ⊢
      refine bodyPost_ret (v := .tuple #[.agg #[.string tx, .int .i64 (N.length : Nat), .int .i64 (m : Nat), .bool ov, .int .i64 co, .int .i64 q], .slice la K.length lc]) (by rw [results_ct2 rfl]; go_simp) rfl ?_
      first | exact ⟨_, rfl, _, nd9, HQ.out, hB9⟩ | exact ⟨_, _, rfl, nd9, HQ.out, hB9⟩

set_option maxHeartbeats 8000000 in
set_option maxRecDepth 100000 in
theorem takes_bad (tx : ByteArray) (told : Nat) (dep : Int) (ov : Bool) (co q : Int) (na : Option Addr) (nc : Nat) (oa : Option Addr) (m oc : Nat) (code pl : Int) (N : List Nd) (P : Nat → Prop) (w : World) (hnd : NdIn w P (.slice na N.length nc) N) (ht : told ≤ N.length) (hN : N.length ≤ 900000000) (hc : code ≠ 0) : Calls Tryd.prog 34 #[.agg #[.string tx, .int .i64 (told : Nat), .int .i64 dep, .bool ov, .int .i64 co, .int .i64 q], .agg #[.slice na N.length nc, .slice oa m oc, .int .i64 code, .int .i64 pl]] w fun r w' => ∃ v Q, r = .returned (.tuple #[.agg #[.string tx, .int .i64 (N.length : Nat), .int .i64 (m : Nat), .bool true, .int .i64 code, .int .i64 pl], v]) ∧ NdIn w' Q v (N.drop told) ∧ (∀ g, Q g → P g ∨ w.heap.size ≤ g) ∧ Below w.heap.size w w' := by
  have b2 := below_alloc (w := w) (.cells #[.string tx, .int .i64 (told : Nat), .int .i64 dep, .bool ov, .int .i64 co, .int .i64 q] 40)
  have q2 := Blk.new w #[.string tx, .int .i64 (told : Nat), .int .i64 dep, .bool ov, .int .i64 co, .int .i64 q] 40
  have e2 : (w.alloc (.cells #[.string tx, .int .i64 (told : Nat), .int .i64 dep, .bool ov, .int .i64 co, .int .i64 q] 40)).heap.size = w.heap.size + 1 := by simp
  have b3 := below_alloc (w := w.alloc (.cells #[.string tx, .int .i64 (told : Nat), .int .i64 dep, .bool ov, .int .i64 co, .int .i64 q] 40)) (.cells #[.slice na N.length nc, .slice oa m oc, .int .i64 code, .int .i64 pl] 54)
  have q3 := Blk.new (w.alloc (.cells #[.string tx, .int .i64 (told : Nat), .int .i64 dep, .bool ov, .int .i64 co, .int .i64 q] 40)) #[.slice na N.length nc, .slice oa m oc, .int .i64 code, .int .i64 pl] 54
  have e3 : ((w.alloc (.cells #[.string tx, .int .i64 (told : Nat), .int .i64 dep, .bool ov, .int .i64 co, .int .i64 q] 40)).alloc (.cells #[.slice na N.length nc, .slice oa m oc, .int .i64 code, .int .i64 pl] 54)).heap.size = w.heap.size + 2 := by simp
  have b4 := below_alloc (w := (w.alloc (.cells #[.string tx, .int .i64 (told : Nat), .int .i64 dep, .bool ov, .int .i64 co, .int .i64 q] 40)).alloc (.cells #[.slice na N.length nc, .slice oa m oc, .int .i64 code, .int .i64 pl] 54)) (.cells #[.string ⟨#[]⟩, .int .i64 0, .int .i64 0, .bool false, .int .i64 0, .int .i64 0] 40)
  have q4 := Blk.new ((w.alloc (.cells #[.string tx, .int .i64 (told : Nat), .int .i64 dep, .bool ov, .int .i64 co, .int .i64 q] 40)).alloc (.cells #[.slice na N.length nc, .slice oa m oc, .int .i64 code, .int .i64 pl] 54)) #[.string ⟨#[]⟩, .int .i64 0, .int .i64 0, .bool false, .int .i64 0, .int .i64 0] 40
  have e4 : (((w.alloc (.cells #[.string tx, .int .i64 (told : Nat), .int .i64 dep, .bool ov, .int .i64 co, .int .i64 q] 40)).alloc (.cells #[.slice na N.length nc, .slice oa m oc, .int .i64 code, .int .i64 pl] 54)).alloc (.cells #[.string ⟨#[]⟩, .int .i64 0, .int .i64 0, .bool false, .int .i64 0, .int .i64 0] 40)).heap.size = w.heap.size + 3 := by simp
  rw [e2] at q3
  rw [e3] at q4
  replace q2 := (q2.later b3).later b4
  replace q3 := q3.later b4
  have b23 := b2.trans (b3.mono b2.size)
  have hB := b23.trans (b4.mono b23.size)
  clear b2 b3 b4 b23
  have HND := hideT hnd.lt
  clear hnd
  go_enter Tryd.func34, Tryd.ntmps34
  go_upto_region 1 with fail
  try rw [e2]
  try rw [e3]
  generalize ((w.alloc (.cells #[.string tx, .int .i64 (told : Nat), .int .i64 dep, .bool ov, .int .i64 co, .int .i64 q] 40)).alloc (.cells #[.slice na N.length nc, .slice oa m oc, .int .i64 code, .int .i64 pl] 54)).alloc (.cells #[.string ⟨#[]⟩, .int .i64 0, .int .i64 0, .bool false, .int .i64 0, .int .i64 0] 40) = W at hB q2 q3 q4 e4 ⊢
  have e4i : w.heap.size + 3 ≤ W.heap.size := by omega
  clear e2 e3 e4
  have b5 := below_alloc (w := W) (.cells #[] 34)
  have o5 : (W.alloc (.cells #[] 34)).ownsRow (w.heap.size + 3) 34 7 (.slice (some ⟨W.heap.size, 0, none⟩) 0 0) ([] : List (Tok × Value)).length (nvCells []) := World.ownsRow_lit W #[] 0 e4i (by simp [maxLen]) rfl
  have q25 := q2.later b5
  have q35 := q3.later b5
  have q45 := q4.later b5
  have hB5 := hB.trans (b5.mono hB.size)
  have hs5 := Nat.le_trans e4i b5.size
  have INI := hideT (And.intro q25 (And.intro q35 (And.intro q45 (And.intro hB5 (And.intro o5 hs5)))))
  have y1 := q25.cell 1
  simp only [List.getElem?_toArray, List.getElem?_cons_zero, List.getElem?_cons_succ] at y1
  clear q2 q3 q4 hB b5 o5 q35 q45 hB5 q25 hs5
  go_wp2_with fail
  clear y1
  go_loopw [6, 7] (fun l i wr => ∃ (k : Nat) (K : List (Tok × Value)), told ≤ k ∧ k ≤ N.length ∧ i = .int .i64 k ∧ wr.ownsRow (w.heap.size + 3) 34 7 l K.length (nvCells K) ∧ KN wr (fun g => P g ∧ g < w.heap.size) K ((N.take k).drop told) ∧ Blk wr w.heap.size #[.string tx, .int .i64 (told : Nat), .int .i64 dep, .bool ov, .int .i64 co, .int .i64 q] 40 ∧ Blk wr (w.heap.size + 1) #[.slice na N.length nc, .slice oa m oc, .int .i64 code, .int .i64 pl] 54 ∧ Blk wr (w.heap.size + 2) #[.string ⟨#[]⟩, .int .i64 0, .int .i64 0, .bool false, .int .i64 0, .int .i64 0] 40 ∧ Below w.heap.size w wr ∧ w.heap.size + 3 ≤ wr.heap.size) (fun l i _ => N.length - (intOf i).toNat)
  case atStart => exact ⟨told, [], Nat.le_refl _, ht, rfl, INI.out.2.2.2.2.1, ⟨by simp, fun i h => absurd h (Nat.not_lt_zero _)⟩, INI.out.1, INI.out.2.1, INI.out.2.2.1, INI.out.2.2.2.1, INI.out.2.2.2.2.2⟩
  case round =>
    clear INI
    obtain ⟨k, K, hk1, hk2, rfl, own, kn, q2, q3, q4, hB, hsz⟩ := hrel
    have y0 := q3.cell 0
    simp only [List.getElem?_toArray, List.getElem?_cons_zero, List.getElem?_cons_succ] at y0
    by_cases hlt : k < N.length
    · have hki : ((k : Int) < (N.length : Int)) := by omega
      obtain ⟨g, off, u, rfl, hc, hu, hkid⟩ := HND.out.at hlt
      obtain ⟨T, hT⟩ : ∃ T, N[k].t = T := ⟨_, rfl⟩
      obtain ⟨ua, uc, eu⟩ := hkid.sl
      obtain ⟨un, hun⟩ : ∃ un, N[k].kids.length = un := ⟨_, rfl⟩
      rw [hun] at eu
      subst eu
      have a0 := hc 0 (by decide)
      have a1 := hc 1 (by decide)
      have a2 := hc 2 (by decide)
      have a3 := hc 3 (by decide)
      have a4 := hc 4 (by decide)
      have a5 := hc 5 (by decide)
      rw [hT] at a0 a1 a2 a3 a4 a5
      simp only [Tok.cells, List.getElem?_cons_zero, List.getElem?_cons_succ] at a0 a1 a2 a3 a4 a5
      rw [Nat.add_zero] at a0
      replace a0 := below_cell hB a0
      replace a1 := below_cell hB a1
      replace a2 := below_cell hB a2
      replace a3 := below_cell hB a3
      replace a4 := below_cell hB a4
      replace a5 := below_cell hB a5
      have a6 := below_cell hB hu
      have hkd := hkid.on hB
      have HK := hideT (And.intro hT hkd)
      clear hT hun hc hu hkid
      have b6 := below_alloc (w := wr) (.cells #[.int .i64 T.k, .string T.t, .int .i64 T.b, .int .i64 T.e, .int .i64 T.l, .int .i64 T.c, .slice ua un uc] 34)
      have hnew := heap_alloc_new wr (.cells #[.int .i64 T.k, .string T.t, .int .i64 T.b, .int .i64 T.e, .int .i64 T.l, .int .i64 T.c, .slice ua un uc] 34)
      have own6 := own_kp own (Kp.of (X := fun _ => False) b6) (fun _ _ c => c)
      have HF := hideT (And.intro own6 (And.intro (kn.kept (fun g _ hl => b6.block g hl) (fun _ c => c)) (And.intro (q2.later b6) (And.intro (q3.later b6) (And.intro (q4.later b6) (And.intro (hB.trans (b6.mono hB.size)) (HK.out.2.on b6)))))))
      have hs6 : w.heap.size + 3 ≤ (wr.alloc (.cells #[.int .i64 T.k, .string T.t, .int .i64 T.b, .int .i64 T.e, .int .i64 T.l, .int .i64 T.c, .slice ua un uc] 34)).heap.size := Nat.le_trans hsz b6.size
      have hKl : K.length ≤ 900000000 := by rw [kn.1, List.length_drop, List.length_take]; omega
      obtain ⟨i0, hi0, hz0, hz1, hz2⟩ := info_parts info_Node
      clear own kn q2 q4 b6
      obtain ⟨la, lc, el⟩ := own_sl own6
      subst el
      go_wp2_with (at_builtin; refine wpList_append_lies _ (by rfl) _ _ _ (by rfl) (w.heap.size + 3) 34 i0 _ 7 80 Tryd.underlying22 hi0 hz0 hz1 hz2 rfl (by omega) (.slice la K.length lc) K.length (nvCells K) (by rfl) own6 ⟨wr.heap.size, 0, none⟩ 1 1 [.int .i64 T.k, .string T.t, .int .i64 T.b, .int .i64 T.e, .int .i64 T.l, .int .i64 T.c, .slice ua un uc] (by rfl) (by rfl) (World.news_of_block (cs := #[.int .i64 T.k, .string T.t, .int .i64 T.b, .int .i64 T.e, .int .i64 T.l, .int .i64 T.c, .slice ua un uc]) (t := 34) (fr := (0, 0)) hnew) (by simp [Value.oneCell']) (by omega) (by simp only [maxLen]; omega) (by omega) hs6 (wr.alloc (.cells #[.int .i64 T.k, .string T.t, .int .i64 T.b, .int .i64 T.e, .int .i64 T.l, .int .i64 T.c, .slice ua un uc] 34)).heap.size rfl ?_)
      intro gb cap w3 hown4 hgrow hat hlt4
      obtain ⟨own6, kn, q2, q3, q4, hB, hkd⟩ := HF.out
      have kg := Kp.grown hgrow (fun k e => e)
      have hvb : ∀ g, (Value.slice la K.length lc).ownBlock = some g → w.heap.size + 3 ≤ g := fun g hg => (own_lt own6 hg).1
      replace q2 := kg.blk q2 (fun c => by have := hvb _ c; omega)
      replace q3 := kg.blk q3 (fun c => by have := hvb _ c; omega)
      replace q4 := kg.blk q4 (fun c => by have := hvb _ c; omega)
      replace kn := kn.kept (fun g hg hl => kg.block g hl (fun c => by have := hvb _ c; have := hg.2; omega)) (fun _ c => c)
      replace hkd := hkd.kept (fun g hg hl => kg.block g hl (fun c => by have := hvb _ c; have := hg.2; omega)) (fun _ c => c)
      replace hB := hB.trans (kg.below (B := w.heap.size) (by omega) (fun g hg c => by have := hvb _ c; omega))
      have hs7 := Nat.le_trans hs6 kg.size
      have own7 : w3.ownsRow (w.heap.size + 3) 34 7 (.slice (some ⟨gb, 0, none⟩) (K.length + 1) cap) (K ++ [(T, Value.slice ua un uc)]).length (nvCells (K ++ [(T, Value.slice ua un uc)])) := by rw [nvCells_app, List.length_append]; exact hown4
      have kn7 : KN w3 (fun g => P g ∧ g < w.heap.size) (K ++ [(T, Value.slice ua un uc)]) ((N.take (k + 1)).drop told) := by
        rw [take_drop_snoc hk1 hlt, ← nd_eta N[k], HK.out.1]; exact kn.snoc hkd
      clear hown4 hgrow hat hlt4 kg hvb kn hkd hnew own6 hs6 hsz HF y0 a0 a1 a2 a3 a4 a5 a6 HK
      go_wp2
      go_roundw
      case rel => exact ⟨k + 1, _, by omega, by omega, by go_num, own7, kn7, q2, q3, q4, hB, hs7⟩
      case measure => simp [intOf]; omega
    · have hki : ¬ ((k : Int) < (N.length : Int)) := by omega
      have ek : k = N.length := by omega
      rw [ek, List.take_length] at kn
      clear ek
      obtain ⟨la, lc, el⟩ := own_sl own
      subst el
      have hKl : K.length ≤ 1099511627776 := by rw [kn.1, List.length_drop]; omega
      have HOK := hideT (And.intro own kn)
      clear own kn
      have y1 := q3.cell 1
      have y2 := q3.cell 2
      have y3 := q3.cell 3
      simp only [List.getElem?_toArray, List.getElem?_cons_zero, List.getElem?_cons_succ] at y1 y2 y3
      have xc : (code != 0) = true := by rw [bne_iff_ne]; exact hc
      clear hc
      have u0 := q2.cell 0
      have u1 := q2.cell 1
      have u2 := q2.cell 2
      have u3 := q2.cell 3
      have u4 := q2.cell 4
      have u5 := q2.cell 5
      simp only [List.getElem?_toArray, List.getElem?_cons_zero, List.getElem?_cons_succ] at u0 u1 u2 u3 u4 u5
      have fz := fun o => q2.frozen o
      go_wp2_with fail
      clear fz y0 y1 u0 u1 u2 u3 u4 u5
      obtain ⟨k5, q5⟩ := q2.set (o := 1) (.int .i64 (N.length : Nat))
      obtain ⟨k6, q6⟩ := q5.set (o := 2) (.int .i64 (m : Nat))
      have q7 : Blk ((wr.setCell ⟨w.heap.size, 1, none⟩ (.int .i64 (N.length : Nat))).setCell ⟨w.heap.size, 2, none⟩ (.int .i64 (m : Nat))) w.heap.size #[.string tx, .int .i64 (N.length : Nat), .int .i64 (m : Nat), .bool ov, .int .i64 co, .int .i64 q] 40 := by simpa using q6
      have kk := Kp.ch (X := fun i => i = w.heap.size) (k5.trans k6) rfl
      have HOW := hideT (And.intro (own_kp HOK.out.1 kk (fun g hg e => by have := (own_lt HOK.out.1 hg).1; omega)) (HOK.out.2.kept (fun g hg hl => kk.block g hl (fun e => by have := hg.2; omega)) (fun _ c => c)))
      replace q3 := (q3.ch k5 (by omega)).ch k6 (by omega)
      replace q4 := (q4.ch k5 (by omega)).ch k6 (by omega)
      replace hB := (hB.trans (k5.below (B := w.heap.size) (Nat.le_refl _))).trans (k6.below (B := w.heap.size) (Nat.le_refl _))
      clear k5 k6 q5 q6 kk HOK q2
      have q2 := q7
      clear q7
      generalize ((wr.setCell ⟨w.heap.size, 1, none⟩ (.int .i64 (N.length : Nat))).setCell ⟨w.heap.size, 2, none⟩ (.int .i64 (m : Nat))) = wx at q2 q3 q4 hB HOW ⊢
      clear y2 y3
      have y2 := q3.cell 2
      have y3 := q3.cell 3
      simp only [List.getElem?_toArray, List.getElem?_cons_zero, List.getElem?_cons_succ] at y2 y3
      have bD : Below wx.heap.size wx wx.drew := (Below.refl _ _).drew
      have ky2 := below_cell bD y2
      have ky3 := below_cell bD y3
      replace HOW := hideT (And.intro (own_below2 HOW.out.1 bD) (HOW.out.2.kept (fun g _ hl => bD.block g hl) (fun _ c => c)))
      replace hB := hB.trans (bD.mono hB.size)
      replace q2 := q2.later bD
      replace q3 := q3.later bD
      replace q4 := q4.later bD
      refine wp_region_held_drew (S := fun w' => w'.cell? ⟨w.heap.size + 1, 2, none⟩ = some (.int .i64 code) ∧ w'.cell? ⟨w.heap.size + 1, 3, none⟩ = some (.int .i64 pl)) (by kernel_rfl) ⟨ky2, ky3⟩ (fun hHeld => ?_)
      clear ky2 ky3
      generalize wx.drew = w5 at bD HOW q2 q3 q4 hB hHeld ⊢
      clear bD y2 y3
      refine take' 0 (v := ?_) rfl (by kernel_rfl) (by kernel_rfl) (by kernel_rfl) (fun _ _ _ h => h) (Or.inl ⟨by rfl, ?_⟩) (by assumption) ?_
      rotate_left
      · intro w9 hSw
        go_simp
        first | done | with_reducible rfl
      simp only [Act.put, List.setIfInBounds_toArray, List.set_cons_zero, List.set_cons_succ]
      refine take' 1 (v := ?_) rfl (by kernel_rfl) (by kernel_rfl) (by kernel_rfl) (fun _ _ _ h => h) (Or.inl ⟨by rfl, ?_⟩) (by assumption) ?_
      rotate_left
      · intro w9 hSw
        go_simp
        first | done | with_reducible rfl
      simp only [Act.put, List.setIfInBounds_toArray, List.set_cons_zero, List.set_cons_succ]
      refine take' 2 (v := ?_) rfl (by kernel_rfl) (by kernel_rfl) (by kernel_rfl) (fun _ _ _ h => h) (Or.inl ⟨by rfl, ?_⟩) (by assumption) ?_
      rotate_left
      · intro w9 hSw
        go_simp
        first | done | with_reducible rfl
      simp only [Act.put, List.setIfInBounds_toArray, List.set_cons_zero, List.set_cons_succ]
      refine take' 3 (v := ?_) rfl (by kernel_rfl) (by kernel_rfl) (by kernel_rfl) (fun _ _ _ h => h) (Or.inl ⟨by rfl, ?_⟩) (by assumption) ?_
      rotate_left
      · intro w9 hSw
        go_simp
        first | done | with_reducible rfl
      simp only [Act.put, List.setIfInBounds_toArray, List.set_cons_zero, List.set_cons_succ]
      refine take' 4 (v := ?_) rfl (by kernel_rfl) (by kernel_rfl) (by kernel_rfl) (fun _ _ _ h => h) (Or.inl ⟨by rfl, ?_⟩) (by assumption) ?_
      rotate_left
      · intro w9 hSw
        go_simp
        first | done | with_reducible rfl
      simp only [Act.put, List.setIfInBounds_toArray, List.set_cons_zero, List.set_cons_succ]
      refine wpAnyH_ready (rs := [5]) (by kernel_rfl) (by simp) ?_
      refine cons' rfl (fun KK hKK => ?_)
      have fz := fun o => q2.frozen o
      have t1 := q2.cell 3
      simp only [List.getElem?_toArray, List.getElem?_cons_zero, List.getElem?_cons_succ] at t1
      go_simp
      clear fz t1
      obtain ⟨ks, q9⟩ := q2.set (o := 3) (.bool true)
      have q10 : Blk (w5.setCell ⟨w.heap.size, 3, none⟩ (.bool true)) w.heap.size #[.string tx, .int .i64 (N.length : Nat), .int .i64 (m : Nat), .bool true, .int .i64 co, .int .i64 q] 40 := by simpa using q9
      have hH2 := (⟨ks.cell (by omega) hHeld.1, ks.cell (by omega) hHeld.2⟩ : _ ∧ _)
      clear q2 q9
      have q2 := q10
      clear q10
      replace q3 := q3.ch ks (by omega)
      replace q4 := q4.ch ks (by omega)
      replace hB := hB.trans (ks.below (B := w.heap.size) (Nat.le_refl _))
      have kk := Kp.ch (X := fun i => i = w.heap.size) ks rfl
      replace HOW := hideT (And.intro (own_kp HOW.out.1 kk (fun g hg e => by have := (own_lt HOW.out.1 hg).1; omega)) (HOW.out.2.kept (fun g hg hl => kk.block g hl (fun e => by have := hg.2; omega)) (fun _ c => c)))
      clear ks kk
      generalize w5.setCell ⟨w.heap.size, 3, none⟩ (.bool true) = w6 at hH2 q2 q3 q4 hB HOW ⊢
      refine hKK.out _ _ hH2 ?_
      clear hHeld
      intro hHeld
      clear hKK KK
      try simp only [Act.put, List.setIfInBounds_toArray, List.set_cons_zero, List.set_cons_succ]
      clear hH2
      refine take' 6 (v := ?_) rfl (by kernel_rfl) (by kernel_rfl) (by kernel_rfl) (fun _ _ _ h => h) (Or.inl ⟨by rfl, ?_⟩) (by assumption) ?_
      rotate_left
      · intro w9 hSw
        go_simp
        first | done | with_reducible rfl
      simp only [Act.put, List.setIfInBounds_toArray, List.set_cons_zero, List.set_cons_succ]
      refine wpAnyH_ready (rs := [7]) (by kernel_rfl) (by simp) ?_
      refine cons' rfl (fun KK hKK => ?_)
      have fz := fun o => q2.frozen o
      have t1 := q2.cell 4
      simp only [List.getElem?_toArray, List.getElem?_cons_zero, List.getElem?_cons_succ] at t1
      go_simp
      clear fz t1
      obtain ⟨ks, q9⟩ := q2.set (o := 4) (.int .i64 code)
      have q10 : Blk (w6.setCell ⟨w.heap.size, 4, none⟩ (.int .i64 code)) w.heap.size #[.string tx, .int .i64 (N.length : Nat), .int .i64 (m : Nat), .bool true, .int .i64 code, .int .i64 q] 40 := by simpa using q9
      have hH2 := (⟨ks.cell (by omega) hHeld.1, ks.cell (by omega) hHeld.2⟩ : _ ∧ _)
      clear q2 q9
      have q2 := q10
      clear q10
      replace q3 := q3.ch ks (by omega)
      replace q4 := q4.ch ks (by omega)
      replace hB := hB.trans (ks.below (B := w.heap.size) (Nat.le_refl _))
      have kk := Kp.ch (X := fun i => i = w.heap.size) ks rfl
      replace HOW := hideT (And.intro (own_kp HOW.out.1 kk (fun g hg e => by have := (own_lt HOW.out.1 hg).1; omega)) (HOW.out.2.kept (fun g hg hl => kk.block g hl (fun e => by have := hg.2; omega)) (fun _ c => c)))
      clear ks kk
      generalize w6.setCell ⟨w.heap.size, 4, none⟩ (.int .i64 code) = w7 at hH2 q2 q3 q4 hB HOW ⊢
      refine hKK.out _ _ hH2 ?_
      clear hHeld
      intro hHeld
      clear hKK KK
      try simp only [Act.put, List.setIfInBounds_toArray, List.set_cons_zero, List.set_cons_succ]
      clear hH2
      refine take' 8 (v := ?_) rfl (by kernel_rfl) (by kernel_rfl) (by kernel_rfl) (fun _ _ _ h => h) (Or.inl ⟨by rfl, ?_⟩) (by assumption) ?_
      rotate_left
      · intro w9 hSw
        go_simp
        first | done | with_reducible rfl
      simp only [Act.put, List.setIfInBounds_toArray, List.set_cons_zero, List.set_cons_succ]
      refine wpAnyH_ready (rs := [9]) (by kernel_rfl) (by simp) ?_
      refine cons' rfl (fun KK hKK => ?_)
      have fz := fun o => q2.frozen o
      have t1 := q2.cell 5
      simp only [List.getElem?_toArray, List.getElem?_cons_zero, List.getElem?_cons_succ] at t1
      go_simp
      clear fz t1
      obtain ⟨ks, q9⟩ := q2.set (o := 5) (.int .i64 pl)
      have q10 : Blk (w7.setCell ⟨w.heap.size, 5, none⟩ (.int .i64 pl)) w.heap.size #[.string tx, .int .i64 (N.length : Nat), .int .i64 (m : Nat), .bool true, .int .i64 code, .int .i64 pl] 40 := by simpa using q9
      have hH2 := (⟨ks.cell (by omega) hHeld.1, ks.cell (by omega) hHeld.2⟩ : _ ∧ _)
      clear q2 q9
      have q2 := q10
      clear q10
      replace q3 := q3.ch ks (by omega)
      replace q4 := q4.ch ks (by omega)
      replace hB := hB.trans (ks.below (B := w.heap.size) (Nat.le_refl _))
      have kk := Kp.ch (X := fun i => i = w.heap.size) ks rfl
      replace HOW := hideT (And.intro (own_kp HOW.out.1 kk (fun g hg e => by have := (own_lt HOW.out.1 hg).1; omega)) (HOW.out.2.kept (fun g hg hl => kk.block g hl (fun e => by have := hg.2; omega)) (fun _ c => c)))
      clear ks kk
      generalize w7.setCell ⟨w.heap.size, 5, none⟩ (.int .i64 pl) = wy at hH2 q2 q3 q4 hB HOW ⊢
      refine hKK.out _ _ hH2 ?_
      clear hHeld
      intro hHeld
      clear hKK KK
      try simp only [Act.put, List.setIfInBounds_toArray, List.set_cons_zero, List.set_cons_succ]
      clear hH2
      refine wpAnyH_done (by kernel_rfl) ?_ _
      clear hHeld
      have u0 := q2.cell 0
      have u1 := q2.cell 1
      have u2 := q2.cell 2
      have u3 := q2.cell 3
      have u4 := q2.cell 4
      have u5 := q2.cell 5
      simp only [List.getElem?_toArray, List.getElem?_cons_zero, List.getElem?_cons_succ] at u0 u1 u2 u3 u4 u5
      have v0 := q4.cell 0
      have v1 := q4.cell 1
      have v2 := q4.cell 2
      have v3 := q4.cell 3
      have v4 := q4.cell 4
      have v5 := q4.cell 5
      simp only [List.getElem?_toArray, List.getElem?_cons_zero, List.getElem?_cons_succ] at v0 v1 v2 v3 v4 v5
      have fz := fun o => q4.frozen o
      go_wp2
      clear fz u0 v0 u1 v1 u2 v2 u3 v3 u4 v4 u5 v5
      obtain ⟨k9, q9⟩ := q4.set6 (.string tx) (.int .i64 (N.length : Nat)) (.int .i64 (m : Nat)) (.bool true) (.int .i64 code) (.int .i64 pl)
      unfold set6 at k9 q9
      have t0 := q9.cell 0
      have t1 := q9.cell 1
      have t2 := q9.cell 2
      have t3 := q9.cell 3
      have t4 := q9.cell 4
      have t5 := q9.cell 5
      simp only [List.getElem?_toArray, List.getElem?_cons_zero, List.getElem?_cons_succ] at t0 t1 t2 t3 t4 t5
      have hvb : ∀ g, (Value.slice la K.length lc).ownBlock = some g → w.heap.size + 3 ≤ g := fun g hg => (own_lt HOW.out.1 hg).1
      have kk := Kp.ch (X := fun i => i = w.heap.size + 2) k9 rfl
      have own9 := own_kp HOW.out.1 kk (fun g hg e => by have := hvb g hg; omega)
      have kn9 := HOW.out.2.kept (fun g hg hl => kk.block g hl (fun e => by have := hg.2; omega)) (fun _ c => c)
      have hB9 := hB.trans (k9.below (B := w.heap.size) (by omega))
      have nd9 := ndin_of (Q := fun g => (P g ∧ g < w.heap.size) ∨ (Value.slice la K.length lc).ownBlock = some g) own9 kn9 (fun g c => Or.inl c) (fun g c => Or.inr c) hKl
      have HQ := hideT (show ∀ g, ((P g ∧ g < w.heap.size) ∨ (Value.slice la K.length lc).ownBlock = some g) → P g ∨ w.heap.size ≤ g from fun g hg => hg.elim (fun c => Or.inl c.1) (fun c => Or.inr (by have := hvb g c; omega)))
      clear k9 q9 kk own9 kn9 hvb
      generalize ((((((wy.setCell ⟨w.heap.size + 2, 0, none⟩ (.string tx)).setCell ⟨w.heap.size + 2, 1, none⟩ (.int .i64 (N.length : Nat))).setCell ⟨w.heap.size + 2, 2, none⟩ (.int .i64 (m : Nat))).setCell ⟨w.heap.size + 2, 3, none⟩ (.bool true)).setCell ⟨w.heap.size + 2, 4, none⟩ (.int .i64 code)).setCell ⟨w.heap.size + 2, 5, none⟩ (.int .i64 pl)) = w9 at nd9 hB9 t0 t1 t2 t3 t4 t5 ⊢
      refine bodyPost_ret (v := .tuple #[.agg #[.string tx, .int .i64 (N.length : Nat), .int .i64 (m : Nat), .bool true, .int .i64 code, .int .i64 pl], .slice la K.length lc]) (by rw [results_ct2 rfl]; go_simp) rfl ?_
      first | exact ⟨_, rfl, _, nd9, HQ.out, hB9⟩ | exact ⟨_, _, rfl, nd9, HQ.out, hB9⟩

end Go.Proofs.YtibeiggedmabkaaDoor
