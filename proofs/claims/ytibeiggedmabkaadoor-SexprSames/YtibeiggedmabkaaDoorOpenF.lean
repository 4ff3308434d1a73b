/-
  From what a law's row hands over (an api.Node that came in) to the walks' words: of any size (first form).
-/
import Derived.Test.YtibeiggedmabkaaDoorTKO
import Derived.Test.YtibeiggedmabkaaDoorSS2
import Derived.Deep.Slices
namespace Go.Proofs.YtibeiggedmabkaaDoor
open Go.ChangeShapes Go.WideShapes Go.ChangeAt Go.RowKit Go.Deep
set_option linter.unusedVariables false
set_option linter.unusedSimpArgs false
theorem cellsZ_int : Tryd.prog.cellsOf 3 = 1 := by kernel_rfl
theorem cellsZ_string : Tryd.prog.cellsOf 9 = 1 := by kernel_rfl
theorem cellsZ_Tok : Tryd.prog.cellsOf 32 = 6 := by kernel_rfl
theorem cellsZ_Nodes : Tryd.prog.cellsOf 22 = 1 := by kernel_rfl
theorem cellsZ_Node : Tryd.prog.cellsOf 34 = 7 := by kernel_rfl
theorem addZ (b off i j : Nat) : ((Addr.mk b off none).add i).add j = ⟨b, off + i + j, none⟩ := by
  have ea : ∀ o k, (Addr.mk b o none).add k = ⟨b, o + k, none⟩ := fun o k => by unfold Addr.add; split <;> simp_all
  rw [ea, ea]
instance : Inhabited NdZ := ⟨.mk ⟨0, ⟨#[]⟩, 0, 0, 0, 0⟩ []⟩
set_option maxRecDepth 100000 in
theorem open_TokZ {H : Type} {enc : TypeId × Value → H} {W : World} {fuel : Nat} {c0 c1 c2 c3 c4 c5 : Value} {x : DataW H × List MemPlace}
    (hf : DataW.trod enc Tryd.prog W 0 (fun _ => true) true fuel 32 [c0, c1, c2, c3, c4, c5] = some x) : ∃ T : TokZ, T.cells = [c0, c1, c2, c3, c4, c5] := by
  obtain ⟨xs, n, _, hx, hl, hlen, hff⟩ := DataW.trod_struct Tryd.underlying32 hf
  obtain ⟨y0, y1, y2, y3, y4, y5, rfl⟩ : ∃ y0 y1 y2 y3 y4 y5, xs = [y0, y1, y2, y3, y4, y5] := by
    match xs, hlen with
    | [y0, y1, y2, y3, y4, y5], _ => exact ⟨y0, y1, y2, y3, y4, y5, rfl⟩
  have h0 := hff 0 _ rfl
  have h1 := hff 1 _ rfl
  have h2 := hff 2 _ rfl
  have h3 := hff 3 _ rfl
  have h4 := hff 4 _ rfl
  have h5 := hff 5 _ rfl
  try simp only [List.drop_zero, cellsZ_int, cellsZ_string] at h0 h1 h2 h3 h4 h5
  change DataW.trod enc _ _ _ _ _ n 3 [c0] = some y0 at h0
  change DataW.trod enc _ _ _ _ _ n 9 [c1] = some y1 at h1
  change DataW.trod enc _ _ _ _ _ n 3 [c2] = some y2 at h2
  change DataW.trod enc _ _ _ _ _ n 3 [c3] = some y3 at h3
  change DataW.trod enc _ _ _ _ _ n 3 [c4] = some y4 at h4
  change DataW.trod enc _ _ _ _ _ n 3 [c5] = some y5 at h5
  obtain ⟨k, hk1, hk2, hk3⟩ := DataW.trod_int Tryd.underlying3 h0
  obtain ⟨t, ht1, ht2, _⟩ := DataW.trod_string Tryd.underlying9 h1
  obtain ⟨b, hb1, hb2, _⟩ := DataW.trod_int Tryd.underlying3 h2
  obtain ⟨e, he1, he2, _⟩ := DataW.trod_int Tryd.underlying3 h3
  obtain ⟨l, hl1, hl2, _⟩ := DataW.trod_int Tryd.underlying3 h4
  obtain ⟨c, hc1, hc2, _⟩ := DataW.trod_int Tryd.underlying3 h5
  simp only [List.cons.injEq, and_true] at hk1 ht1 hb1 he1 hl1 hc1
  subst hk1 ht1 hb1 he1 hl1 hc1
  exact ⟨⟨k, t, b, e, l, c⟩, rfl⟩
set_option maxRecDepth 100000 in
theorem open_NodeC {H : Type} {enc : TypeId × Value → H} {W : World} {fuel : Nat} {c0 c1 c2 c3 c4 c5 c6 : Value} {x : DataW H × List MemPlace}
    (hf : DataW.trod enc Tryd.prog W 0 (fun _ => true) true fuel 34 [c0, c1, c2, c3, c4, c5, c6] = some x) : ∃ (T : TokZ) (y0 y : DataW H × List MemPlace) (n : Nat), T.cells = [c0, c1, c2, c3, c4, c5] ∧ x.1 = .agg [y0.1, y.1] ∧ DataW.trod enc Tryd.prog W 0 (fun _ => true) true n 22 [c6] = some y := by
  obtain ⟨xs, n, _, hx, hl, hlen, hff⟩ := DataW.trod_struct Tryd.underlying34 hf
  obtain ⟨y0, y1, rfl⟩ : ∃ y0 y1, xs = [y0, y1] := by
    match xs, hlen with
    | [y0, y1], _ => exact ⟨y0, y1, rfl⟩
  have h0 := hff 0 _ rfl
  have h1 := hff 1 _ rfl
  try simp only [List.drop_zero, cellsZ_Tok, cellsZ_Nodes] at h0 h1
  change DataW.trod enc _ _ _ _ _ n 32 [c0, c1, c2, c3, c4, c5] = some y0 at h0
  change DataW.trod enc _ _ _ _ _ n 22 [c6] = some y1 at h1
  obtain ⟨T, hT⟩ := open_TokZ h0
  exact ⟨T, y0, y1, n, hT, by rw [hx]; rfl, h1⟩
theorem bulk_pos {H : Type} (d : DataW H) : 1 ≤ Rows.uptoBulk d := by
  cases d with
  | lit l => cases l <;> simp [Rows.uptoBulk]
  | _ => simp [Rows.uptoBulk]
theorem bulk_mem {H : Type} : ∀ (l : List (DataW H)) (d : DataW H), d ∈ l → Rows.uptoBulk d ≤ Rows.uptoBulkAll l
  | x :: l, d, h => by
    simp only [Rows.uptoBulkAll]
    rcases List.mem_cons.1 h with e | e
    · rw [e]; omega
    · have := bulk_mem l d e; omega
theorem bulk_len {H : Type} : ∀ (l : List (DataW H)), l.length ≤ Rows.uptoBulkAll l
  | [] => Nat.le_refl _
  | x :: l => by
    have := bulk_len l
    have := bulk_pos x
    simp only [Rows.uptoBulkAll, List.length_cons]
    omega
set_option maxRecDepth 100000 in
theorem open_NodesF {H : Type} {enc : TypeId × Value → H} {W : World} : ∀ (B fuel : Nat) (cs : List Value) (x : DataW H × List MemPlace), Rows.uptoBulk x.1 ≤ B →
    DataW.trod enc Tryd.prog W 0 (fun _ => true) true fuel 22 cs = some x → ∃ v kids, cs = [v] ∧ ZIn W v kids := by
  intro B
  induction B with
  | zero => intro fuel cs x h; have := bulk_pos x.1; omega
  | succ B ih =>
    intro fuel cs x hx hf
    rcases open_slice Tryd.underlying22 hf with ⟨rfl, _⟩ | ⟨a, len, cap, m, n, D, Pl, rfl, hb, hl, hm, hmm, rfl, hel⟩
    · exact ⟨_, [], rfl, .mk none 0 0 0 [] (fun _ => .slice none 0 0) (fun h => absurd h (by simp)) (by simp) (fun i h => absurd h (by simp)) (fun i h => absurd h (by simp)) (fun i h => absurd h (by simp))⟩
    · simp only [if_true] at hmm
      simp only [Rows.uptoBulk] at hx
      have hlb := bulk_len ((List.range len).map D)
      rw [List.length_map, List.length_range] at hlb
      have each : ∀ i, i < len → ∃ z : NdZ × Value, (∀ j v, (z.1.t.cells ++ [z.2])[j]? = some v → W.cell? ((a.add (i * 7)).add j) = some v) ∧ ZIn W z.2 z.1.kids := by
        intro i hi
        obtain ⟨cs', h1, h2⟩ := hel i (by omega)
        rw [cellsZ_Node] at h1
        obtain ⟨_, hlen, hcell⟩ := World.cells?_some h1
        match cs', hlen with
        | [c0, c1, c2, c3, c4, c5, c6], _ =>
          obtain ⟨T, y0, y, n2, hT, hy, h3⟩ := open_NodeC h2
          have hbm := bulk_mem ((List.range len).map D) (D i) (List.mem_map.2 ⟨i, List.mem_range.2 hi, rfl⟩)
          simp only at hy
          rw [hy] at hbm
          simp only [Rows.uptoBulk, Rows.uptoBulkAll] at hbm
          obtain ⟨v, kids, hv, hz⟩ := ih n2 _ y (by omega) h3
          simp only [List.cons.injEq, and_true] at hv
          subst hv
          refine ⟨(.mk T kids, c6), fun j v hj => ?_, hz⟩
          simp only [NdZ.t, hT] at hj
          have hj7 : j < 7 := (List.getElem?_eq_some_iff.1 hj).1
          rw [hcell j hj7]
          exact hj
      haveI : Inhabited (NdZ × Value) := ⟨(default, .slice none 0 0)⟩
      obtain ⟨z, hq⟩ := choose_lt each
      refine ⟨_, (List.range len).map (fun i => (z i).1), rfl, ?_⟩
      have hkl : ((List.range len).map (fun i => (z i).1)).length = len := by simp
      obtain ⟨b, off, spot⟩ := a
      by_cases h0 : 0 < len
      · have hspot : spot = none := by simpa [Addr.add] using World.cell?_spot ((hq 0 h0).1 0 (.int .i64 (z 0).1.t.k) (by simp [TokZ.cells]))
        subst hspot
        have Z := ZIn.mk (w := W) (some ⟨b, off, none⟩) b off cap ((List.range len).map (fun i => (z i).1)) (fun i => (z i).2) (fun _ => rfl) (by rw [hkl]; exact Nat.le_trans hl hm)
          (fun i h j hj => by
            rw [hkl] at h
            have := (hq i h).1 j
            rw [addZ] at this
            have hc : j < ((z i).1.t.cells).length := by simpa [TokZ.cells] using hj
            rw [this (((z i).1.t.cells)[j]) (by rw [List.getElem?_append_left hc, List.getElem?_eq_getElem hc])]
            simp [List.getElem?_eq_getElem hc])
          (fun i h => by
            rw [hkl] at h
            have := (hq i h).1 6 (z i).2 (by simp [TokZ.cells])
            rw [addZ] at this
            exact this)
          (fun i h => by
            have h' := h
            rw [hkl] at h'
            simpa using (hq i h').2)
        rw [hkl] at Z
        exact Z
      · have e0 : len = 0 := by omega
        subst e0
        exact .mk (some ⟨b, off, spot⟩) b off cap [] (fun _ => .slice none 0 0) (fun h => absurd h (by simp)) (by simp) (fun i h => absurd h (by simp)) (fun i h => absurd h (by simp)) (fun i h => absurd h (by simp))
set_option maxRecDepth 100000 in
theorem open_NodeF {H : Type} {enc : TypeId × Value → H} {W : World} {r : Reach} {b0 : Nat} {v : Value} {d : DataW H} {p : List MemPlace}
    (hv : Value.okWide Tryd.prog W r b0 34 v) (h : DataW.Trod enc Tryd.prog W 0 (fun _ => true) true 34 v d p) :
    ∃ (T : TokZ) (u : Value) (kids : List NdZ), v = .agg #[.int .i64 T.k, .string T.t, .int .i64 T.b, .int .i64 T.e, .int .i64 T.l, .int .i64 T.c, u] ∧ ZIn W u kids := by
  obtain ⟨cs, rfl, hcs⟩ := okWide_struct Tryd.underlying34 hv
  obtain ⟨fuel, hf⟩ := h
  rw [cellsZ_Node] at hcs
  obtain ⟨c0, c1, c2, c3, c4, c5, c6, rfl⟩ : ∃ c0 c1 c2 c3 c4 c5 c6, cs = #[c0, c1, c2, c3, c4, c5, c6] := by
    match cs, hcs with
    | ⟨[c0, c1, c2, c3, c4, c5, c6]⟩, _ => exact ⟨c0, c1, c2, c3, c4, c5, c6, rfl⟩
  change DataW.trod enc _ _ _ _ _ fuel 34 [c0, c1, c2, c3, c4, c5, c6] = some (d, p) at hf
  obtain ⟨T, y0, y, n2, hT, hy, h3⟩ := open_NodeC hf
  simp only at hy
  subst hy
  obtain ⟨u, kids, hu, hz⟩ := open_NodesF _ n2 _ y (Nat.le_refl _) h3
  simp only [List.cons.injEq, and_true] at hu
  subst hu
  simp only [TokZ.cells, List.cons.injEq, and_true] at hT
  obtain ⟨rfl, rfl, rfl, rfl, rfl, rfl⟩ := hT
  exact ⟨T, c6, kids, rfl, hz⟩
end Go.Proofs.YtibeiggedmabkaaDoor
