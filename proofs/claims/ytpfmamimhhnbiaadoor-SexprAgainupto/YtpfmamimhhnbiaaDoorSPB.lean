/-
  Print: the builder; tokenText.
-/
import Derived.Test.YtpfmamimhhnbiaaDoorSP0
import Derived.Test.YtpfmamimhhnbiaaDoorSS1
import Derived.Test.YtpfmamimhhnbiaaDoorSX6
import Derived.Test.YtpfmamimhhnbiaaDoorTP6
import Derived.Shelf.Strings.BuilderK
namespace Go.Proofs.YtpfmamimhhnbiaaDoor
open Go.RowKit
set_option linter.unusedVariables false
set_option linter.unusedSimpArgs false
theorem ZIn.sh {w : World} {v : Value} {l : List NdZ} (h : ZIn w v l) : ∃ a c, v = .slice a l.length c := by
  cases h with
  | mk a g off c => exact ⟨_, _, rfl⟩
theorem ndz_eta (n : NdZ) : NdZ.mk n.t n.kids = n := by cases n; rfl
theorem dokL_no {m : Nat} {l : List NdZ} {k : Nat} (h : k < l.length) (hd : dok m l[k] = false) : dokL m l = false := by
  rcases hx : dokL m l with _ | _
  · rfl
  · rw [dokL_mem] at hx
    rw [hx _ (List.getElem_mem h)] at hd
    exact hd
theorem dokL_yes {m : Nat} {l : List NdZ} (h : ∀ i (hi : i < l.length), dok m l[i] = true) : dokL m l = true := by
  rw [dokL_mem]
  intro x hx
  obtain ⟨i, hi, e⟩ := List.getElem_of_mem hx
  rw [← e]
  exact h i hi
/-- what wantDepth answers -/
def wdE : Bool → Ending
  | true => .returned (.tuple #[])
  | false => .panicked (flt 132 0)
set_option maxHeartbeats 8000000 in
set_option maxRecDepth 100000 in
theorem want_is {w0 : World} {v : Value} {kids : List NdZ} (h1 : ZIn w0 v kids) : ∀ (t : TokZ) (m : Nat) (M : Int) (hM : M = m) (w : World) (hm : m ≤ 1000) (hB0 : Below w0.heap.size w0 w) (d : Bool) (hd : dok m (.mk t kids) = d), Calls Tryd.prog 22 #[.agg #[.int .i64 t.k, .string t.t, .int .i64 t.b, .int .i64 t.e, .int .i64 t.l, .int .i64 t.c, v], .int .i64 M] w fun e w' => e = wdE d ∧ Below w.heap.size w w' := by
  induction h1 with
  | mk a g off c kids vs ha hb hc hv hk ih =>
    intro t m M hM w hm hB0 d hd
    have IH := hideT ih
    have HC := hideT (And.intro hc hv)
    have HKS := hideT (fun i (h : i < kids.length) => (hk i h).sh)
    have HB0 := hideT hB0
    have HM := hideT hM
    have HA := hideT ha
    have hM0 : 0 ≤ M := by omega
    have hM1 : M ≤ 1000 := by omega
    clear ih hc hv hk hB0 hM ha
    have hB := below_alloc (w := w) (.cells #[.int .i64 t.k, .string t.t, .int .i64 t.b, .int .i64 t.e, .int .i64 t.l, .int .i64 t.c, .slice a kids.length c] 26)
    have qA := Blk.new w #[.int .i64 t.k, .string t.t, .int .i64 t.b, .int .i64 t.e, .int .i64 t.l, .int .i64 t.c, .slice a kids.length c] 26
    go_enter Tryd.func22, Tryd.ntmps22
    go_upto_region 1 with fail
    generalize w.alloc (.cells #[.int .i64 t.k, .string t.t, .int .i64 t.b, .int .i64 t.e, .int .i64 t.l, .int .i64 t.c, .slice a kids.length c] 26) = W at hB qA ⊢
    have x0 := qA.cell 0
    have x1 := qA.cell 1
    have x2 := qA.cell 2
    have x3 := qA.cell 3
    have x4 := qA.cell 4
    have x5 := qA.cell 5
    have x6 := qA.cell 6
    simp only [List.getElem?_toArray, List.getElem?_cons_zero, List.getElem?_cons_succ] at x0 x1 x2 x3 x4 x5 x6
    by_cases h0 : t.k = 0
    rotate_left
    · have hdd : d = true := by simp only [dok] at hd; rw [if_neg h0] at hd; exact hd.symm
      subst hdd
      have HZ := hideT (decide_eq_false h0)
      clear h0 hd
      go_wp2_with fail
      refine (isListZ t (.slice a kids.length c) false (HZ.out) W).mono ?_
      rintro e w1 ⟨rfl, b1⟩
      replace qA := qA.later b1
      replace hB := hB.trans (b1.mono hB.size)
      clear b1 x0 x1 x2 x3 x4 x5 x6
      have x6 := qA.cell 6
      simp only [List.getElem?_toArray, List.getElem?_cons_zero, List.getElem?_cons_succ] at x6
      go_wp2
      exact ⟨rfl, .tuple #[], by simp [results, Tryd.results22, go_sem], rfl, hB⟩
    have HZ := hideT (decide_eq_true h0)
    by_cases hm0 : m = 0
    · have hdd : d = false := by simp only [dok] at hd; rw [if_pos h0, if_pos hm0] at hd; exact hd.symm
      subst hdd
      have hx : (M == 0) = true := by rw [beq_iff_eq]; have := HM.out; omega
      clear h0 hd hm0
      go_wp2_with fail
      refine (isListZ t (.slice a kids.length c) true (HZ.out) W).mono ?_
      rintro e w1 ⟨rfl, b1⟩
      replace qA := qA.later b1
      replace hB := hB.trans (b1.mono hB.size)
      clear b1 x0 x1 x2 x3 x4 x5 x6
      have x6 := qA.cell 6
      simp only [List.getElem?_toArray, List.getElem?_cons_zero, List.getElem?_cons_succ] at x6
      go_wp2
      exact ⟨rfl, rfl, hB⟩
    have hx : (M == 0) = false := by rw [beq_eq_false_iff_ne]; have := HM.out; omega
    have hMg : 1 ≤ M := by have := HM.out; omega
    have HD := hideT (show dokL (m - 1) kids = d by simp only [dok] at hd; rw [if_pos h0, if_neg hm0] at hd; exact hd)
    have HN := hideT (show M - 1 = ((m - 1 : Nat) : Int) by have := HM.out; omega)
    have HL := hideT (show m - 1 ≤ 1000 by omega)
    clear hd h0 hm0 hm
    go_wp2_with fail
    refine (isListZ t (.slice a kids.length c) true (HZ.out) W).mono ?_
    rintro e w1 ⟨rfl, b1⟩
    replace qA := qA.later b1
    replace hB := hB.trans (b1.mono hB.size)
    clear b1 x0 x1 x2 x3 x4 x5 x6
    have x6 := qA.cell 6
    simp only [List.getElem?_toArray, List.getElem?_cons_zero, List.getElem?_cons_succ] at x6
    go_wp2_with fail
    go_loopw [16] (fun i wr => ∃ k : Nat, k ≤ kids.length ∧ i = .int .i64 k ∧ Below w.heap.size w wr ∧ (∀ i (h : i < kids.length), i < k → dok (m - 1) kids[i] = true)) (fun i _ => kids.length - (intOf i).toNat)
    case atStart => exact ⟨0, Nat.zero_le _, rfl, hB, fun i _ c => absurd c (Nat.not_lt_zero _)⟩
    case round =>
      clear qA hB x6
      obtain ⟨k, hk, rfl, hB, hall⟩ := hrel
      have HALL := hideT hall
      clear hall
      by_cases hlt : k < kids.length
      · have hki : ((k : Int) < (kids.length : Int)) := by omega
        have ea := HA.out (by omega)
        subst ea
        have h0 := HB0.out.trans (hB.mono HB0.out.size)
        obtain ⟨hc, hv⟩ := HC.out
        obtain ⟨T, hT⟩ : ∃ T, kids[k].t = T := ⟨_, rfl⟩
        have a0 := hc k hlt 0 (by decide)
        have a1 := hc k hlt 1 (by decide)
        have a2 := hc k hlt 2 (by decide)
        have a3 := hc k hlt 3 (by decide)
        have a4 := hc k hlt 4 (by decide)
        have a5 := hc k hlt 5 (by decide)
        rw [hT] at a0 a1 a2 a3 a4 a5
        simp only [TokZ.cells, List.getElem?_cons_zero, List.getElem?_cons_succ] at a0 a1 a2 a3 a4 a5
        rw [Nat.add_zero] at a0
        have a6 := hv k hlt
        replace a0 := below_cell h0 a0
        replace a1 := below_cell h0 a1
        replace a2 := below_cell h0 a2
        replace a3 := below_cell h0 a3
        replace a4 := below_cell h0 a4
        replace a5 := below_cell h0 a5
        replace a6 := below_cell h0 a6
        have e1 : NdZ.mk T kids[k].kids = kids[k] := by rw [← hT, ndz_eta]
        obtain ⟨rr, hrr⟩ : ∃ rr, dok (m - 1) kids[k] = rr := ⟨_, rfl⟩
        have GI := hideT (fun W h => IH.out k hlt T (m - 1) (M - 1) HN.out W HL.out h rr (by rw [e1]; exact hrr))
        have HR := hideT hrr
        clear hT hc hv e1 hrr
        obtain ⟨ua, uc, eu⟩ := HKS.out k hlt
        obtain ⟨un, hun⟩ : ∃ un, kids[k].kids.length = un := ⟨_, rfl⟩
        rw [hun] at eu
        rw [eu] at a6 GI
        clear eu hun
        have bN := below_alloc (w := wr) (.cells #[.int .i64 T.k, .string T.t, .int .i64 T.b, .int .i64 T.e, .int .i64 T.l, .int .i64 T.c, .slice ua un uc] 26)
        have qN := Blk.new wr #[.int .i64 T.k, .string T.t, .int .i64 T.b, .int .i64 T.e, .int .i64 T.l, .int .i64 T.c, .slice ua un uc] 26
        replace hB := hB.trans (bN.mono hB.size)
        have HW := hideT (h0.trans (bN.mono h0.size))
        clear bN h0
        go_upto_region 7 with fail
        generalize wr.alloc (.cells #[.int .i64 T.k, .string T.t, .int .i64 T.b, .int .i64 T.e, .int .i64 T.l, .int .i64 T.c, .slice ua un uc] 26) = W2 at qN hB HW ⊢
        clear a0 a1 a2 a3 a4 a5 a6
        have y0 := qN.cell 0
        have y1 := qN.cell 1
        have y2 := qN.cell 2
        have y3 := qN.cell 3
        have y4 := qN.cell 4
        have y5 := qN.cell 5
        have y6 := qN.cell 6
        simp only [List.getElem?_toArray, List.getElem?_cons_zero, List.getElem?_cons_succ] at y0 y1 y2 y3 y4 y5 y6
        go_wp2_with fail
        refine (GI.out _ HW.out).mono ?_
        rintro e w5 ⟨he, b5⟩
        replace hB := hB.trans (b5.mono hB.size)
        clear b5 GI
        cases rr with
        | false =>
          have he2 : e = .panicked (flt 132 0) := he
          subst he2
          have hdf : d = false := by rw [← HD.out]; exact dokL_no hlt HR.out
          subst hdf
          go_wp2
          exact ⟨rfl, rfl, hB⟩
        | true =>
          have he2 : e = .returned (.tuple #[]) := he
          subst he2
          go_wp2
          go_roundw
          case rel => exact ⟨k + 1, by omega, by go_num, hB, fun i h hi => (Nat.lt_or_ge i k).elim (fun c => HALL.out i h c) (fun c => by have e : i = k := (by omega); subst e; exact HR.out)⟩
          case measure => simp [intOf]; omega
      · have hki : ¬ ((k : Int) < (kids.length : Int)) := by omega
        have hdf : d = true := by rw [← HD.out]; exact dokL_yes (fun i hi => HALL.out i hi (by omega))
        subst hdf
        go_wp2
        first | go_end0 | skip
        exact ⟨rfl, hB⟩

end Go.Proofs.YtpfmamimhhnbiaaDoor

namespace Go.Proofs
open Go.Shelf
def Tryd.renW : Go.Shelf.Ren := ⟨fun n => if n = 167 then 40 else Tryd.lays155_ren.f n, Tryd.lays155_ren.t, Tryd.lays155_ren.g⟩
theorem Tryd.laysW : Go.Proofs.Lays.n167 Tryd.prog Tryd.renW := { Tryd.lays155 with
  f167 := Tryd.func40.trans (congrArg some (by kernel_rfl))
  f240 := Tryd.func56.trans (congrArg some (by kernel_rfl))
  f276 := Tryd.func70.trans (congrArg some (by kernel_rfl)) }
set_option maxRecDepth 100000 in
theorem Tryd.extraW : Builder.Extra Tryd.prog Tryd.renW := {
  sizeBuilder := Tryd.Builder_Extra_155.sizeBuilder
  liesBuilder := Tryd.Builder_Extra_155.liesBuilder
  t5 := Tryd.Builder_Extra_155.t5
  a5 := Tryd.Builder_Extra_155.a5
  z5 := Tryd.Builder_Extra_155.z5
  v5 := Tryd.Builder_Extra_155.v5
  infoByte := Tryd.Builder_Extra_155.infoByte
  cellsByte := Tryd.Builder_Extra_155.cellsByte
  sizeByte := Tryd.Builder_Extra_155.sizeByte
  neB5 := Tryd.Builder_Extra_155.neB5
}
end Go.Proofs
namespace Go.Proofs.YtpfmamimhhnbiaaDoor
open Go.RowKit
set_option linter.unusedVariables false
set_option linter.unusedSimpArgs false
/-- a builder that holds these bytes -/
def BuF (B b : Nat) (l : List UInt8) (w : World) : Prop := Lib.IsBuilderF 53 5 B b (Lib.byteCells l) w
/-- what is no builder and no row of bytes stands -/
def Oth (b : Nat) (w w' : World) : Prop := Lib.OthersKept 5 (some b) w w'
theorem BuF.lt {B b : Nat} {l : List UInt8} {w : World} (h : BuF B b l w) : B ≤ b ∧ b < w.heap.size := by
  rcases h with h | h
  · exact ⟨h.1, h.lt⟩
  · exact ⟨h.1, h.lt⟩
theorem buF_on {T e : TypeId} {B b : Nat} {p : Value} {bs : List Value} {w w' : World} (h : Lib.BuilderAtF T e B b p bs w) (hb : Below w.heap.size w w') : Lib.BuilderAtF T e B b p bs w' := by
  have hl := h.lt
  obtain ⟨h1, v, h2, h3, h4⟩ := h
  refine ⟨h1, v, (hb.block b hl).trans h2, ?_, h4⟩
  refine ⟨h3.1, ?_⟩
  rcases h3.2 with c | ⟨g, cap, cur, fz, e1, e2, e3, e4⟩
  · exact Or.inl c
  · exact Or.inr ⟨g, cap, cur, fz, e1, e2, (hb.block g (Array.getElem?_eq_some_iff.1 e3).1).trans e3, e4⟩
theorem BuF.on {B b : Nat} {l : List UInt8} {w w' : World} (h : BuF B b l w) (hb : Below w.heap.size w w') : BuF B b l w' := by
  rcases h with h | h
  · exact Or.inl (buF_on h hb)
  · exact Or.inr (buF_on h hb)
theorem Oth.tr {b : Nat} {w w' w2 : World} (h : Oth b w w') (h2 : Oth b w' w2) : Oth b w w2 := Lib.OthersKept.trans h h2
theorem Oth.of {b : Nat} {w w' : World} (hb : Below w.heap.size w w') : Oth b w w' := fun k o hk _ _ => (hb.block k (Array.getElem?_eq_some_iff.1 hk).1).trans hk
theorem Blk.oth {b c : Nat} {w w' : World} {cs : Array Value} {t : TypeId} (h : Blk w c cs t) (k : Oth b w w') (hc : c ≠ b) (ht : t ≠ 5) : Blk w' c cs t :=
  k c _ h (fun e => hc (Option.some.inj e)) (fun cc fz e => ht (by injection e))
theorem wbyte_is (B b : Nat) (l : List UInt8) (u : UInt8) (w : World) (h : BuF B b l w) (hl : l.length + 1 ≤ 140737488355328) : Calls Tryd.prog 40 #[.pointer (some ⟨b, 0, none⟩), .int .u8 u.toNat] w fun e w' => e = .returned .nilIface ∧ BuF B b (l ++ [u]) w' ∧ Below B w w' ∧ Oth b w w' := by
  have hlt := h.lt
  refine (Any.Builder_WriteByte_k Tryd.laysW Tryd.extraW B b (Lib.byteCells l) u.toNat w h (by rw [Lib.byteCells_length]; exact hl) (by omega)).mono ?_
  rintro e w' ⟨h1, h2, h3, h4⟩
  refine ⟨h1, Or.inr ?_, h3, h4⟩
  rw [Lib.byteCells_append]
  exact h2
theorem wstr_is (B b : Nat) (l : List UInt8) (s : ByteArray) (w : World) (h : BuF B b l w) (hl : l.length + s.size ≤ 140737488355328) : Calls Tryd.prog 38 #[.pointer (some ⟨b, 0, none⟩), .string s] w fun e w' => e = .returned (.tuple #[.int .i64 s.size, .nilIface]) ∧ BuF B b (l ++ lsB s) w' ∧ Below B w w' ∧ Oth b w w' := by
  have hlt := h.lt
  refine (Any.Builder_WriteString_k { Tryd.lays155 with } Tryd.Builder_Extra_155 B b (Lib.byteCells l) s w h (by rw [Lib.byteCells_length]; exact hl) (by omega)).mono ?_
  rintro e w' ⟨h1, h2, h3, h4⟩
  refine ⟨h1, Or.inr ?_, h3, h4⟩
  unfold lsB
  rw [Lib.byteCells_append, ← Lib.strCells_eq]
  exact h2
theorem wend_is (B b : Nat) (l : List UInt8) (w : World) (h : BuF B b l w) : Calls Tryd.prog 24 #[.pointer (some ⟨b, 0, none⟩)] w fun e w' => e = .returned (.string ⟨l.toArray⟩) ∧ Below B w w' ∧ Oth b w w' := by
  have hlt := h.lt
  refine (Any.Builder_String_any_k { Tryd.lays155 with } Tryd.Builder_Extra_155 B b l w h (by omega)).mono ?_
  rintro e w' ⟨h1, h2, h3, h4⟩
  exact ⟨h1, h3, h4⟩
/-- what tokenText answers -/
def ttE (c : Int) (s : ByteArray) : Ending := if c = 0 then .returned (.string s) else .panicked (flt c 0)
set_option maxHeartbeats 8000000 in
set_option maxRecDepth 100000 in
theorem tokt_is (t : TokZ) (w : World) (hs : t.t.size ≤ 16777216) (hM : MaxL w) (hmx : mxB < w.heap.size) : Calls Tryd.prog 39 #[.agg #[.int .i64 t.k, .string t.t, .int .i64 t.b, .int .i64 t.e, .int .i64 t.l, .int .i64 t.c]] w fun e w' => (∃ s, e = ttE (wtC t) s ∧ (wtC t = 0 → lsB s = wtS t)) ∧ Below w.heap.size w w' := by
  have G := hideT (fun W hMW hx => print_big t.k t.t t.b t.e t.l t.c W hs hMW hx)
  have hB := below_alloc (w := w) (.cells #[.int .i64 t.k, .string t.t, .int .i64 t.b, .int .i64 t.e, .int .i64 t.l, .int .i64 t.c] 23)
  have qT := Blk.new w #[.int .i64 t.k, .string t.t, .int .i64 t.b, .int .i64 t.e, .int .i64 t.l, .int .i64 t.c] 23
  go_enter Tryd.func39, Tryd.ntmps39
  go_upto_region 1 with fail
  generalize w.alloc (.cells #[.int .i64 t.k, .string t.t, .int .i64 t.b, .int .i64 t.e, .int .i64 t.l, .int .i64 t.c] 23) = W at hB qT ⊢
  have hMW := hM.on hB
  have hmW : mxB < W.heap.size := Nat.lt_of_lt_of_le hmx hB.size
  have x0 := qT.cell 0
  have x1 := qT.cell 1
  have x2 := qT.cell 2
  have x3 := qT.cell 3
  have x4 := qT.cell 4
  have x5 := qT.cell 5
  simp only [List.getElem?_toArray, List.getElem?_cons_zero, List.getElem?_cons_succ] at x0 x1 x2 x3 x4 x5
  go_wp2_with fail
  refine (G.out _ hMW hmW).mono ?_
  rintro e w1 ⟨s, c, rfl, pr, b1⟩
  have hpk := pkT_uniq pr
  have HP := hideT hpk
  clear hpk pr G
  replace qT := qT.later b1
  replace hB := hB.trans (b1.mono hB.size)
  clear b1 hMW hmW x0 x1 x2 x3 x4 x5
  have x0 := qT.cell 0
  simp only [List.getElem?_toArray, List.getElem?_cons_zero, List.getElem?_cons_succ] at x0
  by_cases hk : t.k = 1
  · have y1 : (t.k == 1) = true := by rw [beq_iff_eq]; exact hk
    have hc : wtC t = 120 := by unfold wtC; rw [if_pos (Or.inl hk)]
    have HC := hideT hc
    have HK := hideT hk
    clear hk hc
    go_wp2
    exact ⟨rfl, ⟨s, by rw [HC.out]; rfl, fun c => absurd (HC.out.symm.trans c) (by decide)⟩, hB⟩
  have y1 : (t.k == 1) = false := by rw [beq_eq_false_iff_ne]; exact hk
  have HK1 := hideT hk
  clear hk
  by_cases hk : t.k = 2
  · have y2 : (t.k == 2) = true := by rw [beq_iff_eq]; exact hk
    have hc : wtC t = 120 := by unfold wtC; rw [if_pos (Or.inr hk)]
    have HC := hideT hc
    have HK := hideT hk
    clear hk hc
    go_wp2
    exact ⟨rfl, ⟨s, by rw [HC.out]; rfl, fun c => absurd (HC.out.symm.trans c) (by decide)⟩, hB⟩
  have y2 : (t.k == 2) = false := by rw [beq_eq_false_iff_ne]; exact hk
  have HC := hideT (show wtC t = c ∧ wtS t = lsB s by unfold wtC wtS; rw [if_neg (fun q => q.elim HK1.out hk), if_neg (fun q => q.elim HK1.out hk), HP.out]; exact ⟨rfl, rfl⟩)
  clear hk
  by_cases hc : c = 0
  · subst hc
    go_wp2
    go_ret
    exact ⟨⟨s, by rw [HC.out.1]; rfl, fun _ => HC.out.2.symm⟩, hB⟩
  · have yc : (c != 0) = true := by simp [hc]
    have HCC := hideT hc
    clear hc
    go_wp2
    exact ⟨rfl, ⟨s, by rw [HC.out.1]; unfold ttE; rw [if_neg HCC.out]; rfl, fun q => absurd (HC.out.1.symm.trans q) HCC.out⟩, hB⟩

end Go.Proofs.YtpfmamimhhnbiaaDoor
