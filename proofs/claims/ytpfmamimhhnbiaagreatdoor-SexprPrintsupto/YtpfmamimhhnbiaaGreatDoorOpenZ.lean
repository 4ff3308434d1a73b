/-
  From what a law's row hands over (an api.Node that came in) to the walks' words, with how much there is of it.
-/
import Derived.Test.YtpfmamimhhnbiaaGreatDoorTKO
import Derived.Test.YtpfmamimhhnbiaaGreatDoorSP0
import Derived.Test.YtpfmamimhhnbiaaGreatDoorRows
import Derived.Deep.Slices
namespace Go.Proofs.YtpfmamimhhnbiaaGreatDoor
open Go.ChangeShapes Go.WideShapes Go.ChangeAt Go.RowKit Go.Deep
set_option linter.unusedVariables false
set_option linter.unusedSimpArgs false
theorem cellsZ_int : Tryz.prog.cellsOf 3 = 1 := by kernel_rfl
theorem cellsZ_string : Tryz.prog.cellsOf 9 = 1 := by kernel_rfl
theorem cellsZ_Tok : Tryz.prog.cellsOf 23 = 6 := by kernel_rfl
theorem cellsZ_Nodes : Tryz.prog.cellsOf 24 = 1 := by kernel_rfl
theorem cellsZ_Node : Tryz.prog.cellsOf 26 = 7 := by kernel_rfl
theorem addZ (b off i j : Nat) : ((Addr.mk b off none).add i).add j = ⟨b, off + i + j, none⟩ := by
  have ea : ∀ o k, (Addr.mk b o none).add k = ⟨b, o + k, none⟩ := fun o k => by unfold Addr.add; split <;> simp_all
  rw [ea, ea]
instance : Inhabited NdZ := ⟨.mk ⟨0, ⟨#[]⟩, 0, 0, 0, 0⟩ []⟩
set_option maxRecDepth 100000 in
theorem open_TokZ {H : Type} {enc : TypeId × Value → H} {W : World} {fuel : Nat} {c0 c1 c2 c3 c4 c5 : Value} {x : DataW H × List MemPlace}
    (hf : DataW.trod enc Tryz.prog W 0 (fun _ => true) true fuel 23 [c0, c1, c2, c3, c4, c5] = some x) : ∃ T : TokZ, T.cells = [c0, c1, c2, c3, c4, c5] ∧ T.t.size + 1 ≤ Rows.uptoBulk x.1 := by
  obtain ⟨xs, n, _, hx, hl, hlen, hff⟩ := DataW.trod_struct Tryz.underlying23 hf
  obtain ⟨y0, y1, y2, y3, y4, y5, rfl⟩ : ∃ y0 y1 y2 y3 y4 y5, xs = [y0, y1, y2, y3, y4, y5] := by
    match xs, hlen with
    | [y0, y1, y2, y3, y4, y5], _ => exact ⟨y0, y1, y2, y3, y4, y5, rfl⟩
  have h0 := hff 0 _ rfl
  have h1 := hff 1 _ rfl
  have h2 := hff 2 _ rfl
  have h3 := hff 3 _ rfl
  have h4 := hff 4 _ rfl
  have h5 := hff 5 _ rfl
  try simp only [List.drop_zero, cellsZ_int, cellsZ_string] at h0 h1 h2 h3 h4 h5
  change DataW.trod enc _ _ _ _ _ n 3 [c0] = some y0 at h0
  change DataW.trod enc _ _ _ _ _ n 9 [c1] = some y1 at h1
  change DataW.trod enc _ _ _ _ _ n 3 [c2] = some y2 at h2
  change DataW.trod enc _ _ _ _ _ n 3 [c3] = some y3 at h3
  change DataW.trod enc _ _ _ _ _ n 3 [c4] = some y4 at h4
  change DataW.trod enc _ _ _ _ _ n 3 [c5] = some y5 at h5
  obtain ⟨k, hk1, hk2, hk3⟩ := DataW.trod_int Tryz.underlying3 h0
  obtain ⟨t, ht1, ht2, _⟩ := DataW.trod_string Tryz.underlying9 h1
  obtain ⟨b, hb1, hb2, _⟩ := DataW.trod_int Tryz.underlying3 h2
  obtain ⟨e, he1, he2, _⟩ := DataW.trod_int Tryz.underlying3 h3
  obtain ⟨l, hl1, hl2, _⟩ := DataW.trod_int Tryz.underlying3 h4
  obtain ⟨c, hc1, hc2, _⟩ := DataW.trod_int Tryz.underlying3 h5
  simp only [List.cons.injEq, and_true] at hk1 ht1 hb1 he1 hl1 hc1
  subst hk1 ht1 hb1 he1 hl1 hc1
  refine ⟨⟨k, t, b, e, l, c⟩, rfl, ?_⟩
  rw [hx]
  simp only [List.map, Rows.uptoBulk, Rows.uptoBulkAll]
  rw [ht2]
  simp only [Rows.uptoBulk, Array.length_toList]
  show t.data.size + 1 ≤ _
  omega
set_option maxRecDepth 100000 in
theorem open_NodeC {H : Type} {enc : TypeId × Value → H} {W : World} {fuel : Nat} {c0 c1 c2 c3 c4 c5 c6 : Value} {x : DataW H × List MemPlace}
    (hf : DataW.trod enc Tryz.prog W 0 (fun _ => true) true fuel 26 [c0, c1, c2, c3, c4, c5, c6] = some x) : ∃ (T : TokZ) (y0 y : DataW H × List MemPlace) (n : Nat), T.cells = [c0, c1, c2, c3, c4, c5] ∧ T.t.size + 1 ≤ Rows.uptoBulk y0.1 ∧ x.1 = .agg [y0.1, y.1] ∧ DataW.trod enc Tryz.prog W 0 (fun _ => true) true n 24 [c6] = some y := by
  obtain ⟨xs, n, _, hx, hl, hlen, hff⟩ := DataW.trod_struct Tryz.underlying26 hf
  obtain ⟨y0, y1, rfl⟩ : ∃ y0 y1, xs = [y0, y1] := by
    match xs, hlen with
    | [y0, y1], _ => exact ⟨y0, y1, rfl⟩
  have h0 := hff 0 _ rfl
  have h1 := hff 1 _ rfl
  try simp only [List.drop_zero, cellsZ_Tok, cellsZ_Nodes] at h0 h1
  change DataW.trod enc _ _ _ _ _ n 23 [c0, c1, c2, c3, c4, c5] = some y0 at h0
  change DataW.trod enc _ _ _ _ _ n 24 [c6] = some y1 at h1
  obtain ⟨T, hT, hTs⟩ := open_TokZ h0
  exact ⟨T, y0, y1, n, hT, hTs, by rw [hx]; rfl, h1⟩
theorem bulk_pos {H : Type} (d : DataW H) : 1 ≤ Rows.uptoBulk d := by
  cases d with
  | lit l => cases l <;> simp [Rows.uptoBulk]
  | _ => simp [Rows.uptoBulk]
theorem bulk_mem {H : Type} : ∀ (l : List (DataW H)) (d : DataW H), d ∈ l → Rows.uptoBulk d ≤ Rows.uptoBulkAll l
  | x :: l, d, h => by
    simp only [Rows.uptoBulkAll]
    rcases List.mem_cons.1 h with e | e
    · rw [e]; omega
    · have := bulk_mem l d e; omega
theorem bulk_len {H : Type} : ∀ (l : List (DataW H)), l.length ≤ Rows.uptoBulkAll l
  | [] => Nat.le_refl _
  | x :: l => by
    have := bulk_len l
    have := bulk_pos x
    simp only [Rows.uptoBulkAll, List.length_cons]
    omega
theorem wg_bulk {H : Type} (f : Nat → NdZ) (D : Nat → DataW H) : ∀ (l : List Nat), (∀ i ∈ l, wgZ (f i) ≤ Rows.uptoBulk (D i)) → wgL (l.map f) ≤ Rows.uptoBulkAll (l.map D)
  | [], _ => Nat.le_refl _
  | i :: l, h => by
    simp only [List.map_cons, wgL, Rows.uptoBulkAll]
    have := h i List.mem_cons_self
    have := wg_bulk f D l (fun j hj => h j (List.mem_cons_of_mem _ hj))
    omega
set_option maxRecDepth 100000 in
theorem open_Nodes {H : Type} {enc : TypeId × Value → H} {W : World} : ∀ (B fuel : Nat) (cs : List Value) (x : DataW H × List MemPlace), Rows.uptoBulk x.1 ≤ B → B ≤ 1048576 →
    DataW.trod enc Tryz.prog W 0 (fun _ => true) true fuel 24 cs = some x → ∃ v kids, cs = [v] ∧ ZIn W v kids ∧ wgL kids ≤ Rows.uptoBulk x.1 := by
  intro B
  induction B with
  | zero => intro fuel cs x h; have := bulk_pos x.1; omega
  | succ B ih =>
    intro fuel cs x hx hB hf
    rcases open_slice Tryz.underlying24 hf with ⟨rfl, _⟩ | ⟨a, len, cap, m, n, D, Pl, rfl, hb, hl, hm, hmm, rfl, hel⟩
    · exact ⟨_, [], rfl, .mk none 0 0 0 [] (fun _ => .slice none 0 0) (fun h => absurd h (by simp)) (by simp) (fun i h => absurd h (by simp)) (fun i h => absurd h (by simp)) (fun i h => absurd h (by simp)), Nat.zero_le _⟩
    · simp only [if_true] at hmm
      simp only [Rows.uptoBulk] at hx
      have hlb := bulk_len ((List.range len).map D)
      rw [List.length_map, List.length_range] at hlb
      have each : ∀ i, i < len → ∃ z : NdZ × Value, (∀ j v, (z.1.t.cells ++ [z.2])[j]? = some v → W.cell? ((a.add (i * 7)).add j) = some v) ∧ ZIn W z.2 z.1.kids ∧ wgZ z.1 ≤ Rows.uptoBulk (D i) := by
        intro i hi
        obtain ⟨cs', h1, h2⟩ := hel i (by omega)
        rw [cellsZ_Node] at h1
        obtain ⟨_, hlen, hcell⟩ := World.cells?_some h1
        match cs', hlen with
        | [c0, c1, c2, c3, c4, c5, c6], _ =>
          obtain ⟨T, y0, y, n2, hT, hTs, hy, h3⟩ := open_NodeC h2
          have hbm := bulk_mem ((List.range len).map D) (D i) (List.mem_map.2 ⟨i, List.mem_range.2 hi, rfl⟩)
          simp only at hy
          rw [hy] at hbm
          simp only [Rows.uptoBulk, Rows.uptoBulkAll] at hbm
          obtain ⟨v, kids, hv, hz, hzw⟩ := ih n2 _ y (by omega) (by omega) h3
          simp only [List.cons.injEq, and_true] at hv
          subst hv
          refine ⟨(.mk T kids, c6), fun j v hj => ?_, hz, by rw [hy]; simp only [wgZ, Rows.uptoBulk, Rows.uptoBulkAll]; omega⟩
          simp only [NdZ.t, hT] at hj
          have hj7 : j < 7 := (List.getElem?_eq_some_iff.1 hj).1
          rw [hcell j hj7]
          exact hj
      haveI : Inhabited (NdZ × Value) := ⟨(default, .slice none 0 0)⟩
      obtain ⟨z, hq⟩ := choose_lt each
      refine ⟨_, (List.range len).map (fun i => (z i).1), rfl, ?_, ?_⟩
      rotate_left
      · have := wg_bulk (fun i => (z i).1) D (List.range len) (fun i hi => (hq i (List.mem_range.1 hi)).2.2)
        simp only [Rows.uptoBulk]
        omega
      have hkl : ((List.range len).map (fun i => (z i).1)).length = len := by simp
      obtain ⟨b, off, spot⟩ := a
      by_cases h0 : 0 < len
      · have hspot : spot = none := by simpa [Addr.add] using World.cell?_spot ((hq 0 h0).1 0 (.int .i64 (z 0).1.t.k) (by simp [TokZ.cells]))
        subst hspot
        have Z := ZIn.mk (w := W) (some ⟨b, off, none⟩) b off cap ((List.range len).map (fun i => (z i).1)) (fun i => (z i).2) (fun _ => rfl) (by rw [hkl]; omega)
          (fun i h j hj => by
            rw [hkl] at h
            have := (hq i h).1 j
            rw [addZ] at this
            have hc : j < ((z i).1.t.cells).length := by simpa [TokZ.cells] using hj
            rw [this (((z i).1.t.cells)[j]) (by rw [List.getElem?_append_left hc, List.getElem?_eq_getElem hc])]
            simp [List.getElem?_eq_getElem hc])
          (fun i h => by
            rw [hkl] at h
            have := (hq i h).1 6 (z i).2 (by simp [TokZ.cells])
            rw [addZ] at this
            exact this)
          (fun i h => by
            have h' := h
            rw [hkl] at h'
            simpa using (hq i h').2.1)
        rw [hkl] at Z
        exact Z
      · have e0 : len = 0 := by omega
        subst e0
        exact .mk (some ⟨b, off, spot⟩) b off cap [] (fun _ => .slice none 0 0) (fun h => absurd h (by simp)) (by simp) (fun i h => absurd h (by simp)) (fun i h => absurd h (by simp)) (fun i h => absurd h (by simp))
set_option maxRecDepth 100000 in
theorem open_NodeW {H : Type} {enc : TypeId × Value → H} {W : World} {r : Reach} {b0 : Nat} {v : Value} {d : DataW H} {p : List MemPlace}
    (hv : Value.okWide Tryz.prog W r b0 26 v) (h : DataW.Trod enc Tryz.prog W 0 (fun _ => true) true 26 v d p) (hd : Rows.uptoBulk d ≤ 1048576) :
    ∃ (T : TokZ) (u : Value) (kids : List NdZ), v = .agg #[.int .i64 T.k, .string T.t, .int .i64 T.b, .int .i64 T.e, .int .i64 T.l, .int .i64 T.c, u] ∧ ZIn W u kids ∧ wgZ (.mk T kids) ≤ 1048576 := by
  obtain ⟨cs, rfl, hcs⟩ := okWide_struct Tryz.underlying26 hv
  obtain ⟨fuel, hf⟩ := h
  rw [cellsZ_Node] at hcs
  obtain ⟨c0, c1, c2, c3, c4, c5, c6, rfl⟩ : ∃ c0 c1 c2 c3 c4 c5 c6, cs = #[c0, c1, c2, c3, c4, c5, c6] := by
    match cs, hcs with
    | ⟨[c0, c1, c2, c3, c4, c5, c6]⟩, _ => exact ⟨c0, c1, c2, c3, c4, c5, c6, rfl⟩
  change DataW.trod enc _ _ _ _ _ fuel 26 [c0, c1, c2, c3, c4, c5, c6] = some (d, p) at hf
  obtain ⟨T, y0, y, n2, hT, hTs, hy, h3⟩ := open_NodeC hf
  simp only at hy
  subst hy
  simp only [Rows.uptoBulk, Rows.uptoBulkAll] at hd
  obtain ⟨u, kids, hu, hz, hzw⟩ := open_Nodes _ n2 _ y (Nat.le_refl _) (by omega) h3
  simp only [List.cons.injEq, and_true] at hu
  subst hu
  simp only [TokZ.cells, List.cons.injEq, and_true] at hT
  obtain ⟨rfl, rfl, rfl, rfl, rfl, rfl⟩ := hT
  exact ⟨T, c6, kids, rfl, hz, by simp only [wgZ]; omega⟩
end Go.Proofs.YtpfmamimhhnbiaaGreatDoor
