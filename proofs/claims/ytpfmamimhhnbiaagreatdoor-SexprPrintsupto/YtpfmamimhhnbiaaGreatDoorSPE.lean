/-
  Print, the program's.
-/
import Derived.Test.YtpfmamimhhnbiaaGreatDoorSS0
import Derived.Test.YtpfmamimhhnbiaaGreatDoorSP0
import Derived.Test.YtpfmamimhhnbiaaGreatDoorSX6
import Derived.Test.YtpfmamimhhnbiaaGreatDoorTP6
import Derived.Shelf.Strings.BuilderK
import Derived.Test.YtpfmamimhhnbiaaGreatDoorSX2
import Derived.Defers
import Derived.Recover
import Derived.Test.YtpfmamimhhnbiaaGreatDoorSXF
namespace Go.Proofs.YtpfmamimhhnbiaaGreatDoor
open Go.RowKit
set_option linter.unusedVariables false
set_option linter.unusedSimpArgs false
theorem isListZ (t : TokZ) (v : Value) (bv : Bool) (hbv : decide (t.k = 0) = bv) (w : World) : Calls Tryz.prog 19 #[.agg #[.int .i64 t.k, .string t.t, .int .i64 t.b, .int .i64 t.e, .int .i64 t.l, .int .i64 t.c, v]] w fun e w' => e = .returned (.bool bv) ∧ Below w.heap.size w w' := by
  subst hbv
  have b1 := below_alloc (w := w) (.cells #[.int .i64 t.k, .string t.t, .int .i64 t.b, .int .i64 t.e, .int .i64 t.l, .int .i64 t.c, v] 26)
  go_enter Tryz.func19, Tryz.ntmps19
  go_wp2
  go_ret
  exact ⟨rfl, b1⟩

end Go.Proofs.YtpfmamimhhnbiaaGreatDoor

namespace Go.Proofs.YtpfmamimhhnbiaaGreatDoor
open Go.RowKit
set_option linter.unusedVariables false
set_option linter.unusedSimpArgs false
theorem ZIn.sh {w : World} {v : Value} {l : List NdZ} (h : ZIn w v l) : ∃ a c, v = .slice a l.length c := by
  cases h with
  | mk a g off c => exact ⟨_, _, rfl⟩
theorem ndz_eta (n : NdZ) : NdZ.mk n.t n.kids = n := by cases n; rfl
theorem dokL_no {m : Nat} {l : List NdZ} {k : Nat} (h : k < l.length) (hd : dok m l[k] = false) : dokL m l = false := by
  rcases hx : dokL m l with _ | _
  · rfl
  · rw [dokL_mem] at hx
    rw [hx _ (List.getElem_mem h)] at hd
    exact hd
theorem dokL_yes {m : Nat} {l : List NdZ} (h : ∀ i (hi : i < l.length), dok m l[i] = true) : dokL m l = true := by
  rw [dokL_mem]
  intro x hx
  obtain ⟨i, hi, e⟩ := List.getElem_of_mem hx
  rw [← e]
  exact h i hi
/-- what wantDepth answers -/
def wdE : Bool → Ending
  | true => .returned (.tuple #[])
  | false => .panicked (flt 132 0)
set_option maxHeartbeats 8000000 in
set_option maxRecDepth 100000 in
theorem want_is {w0 : World} {v : Value} {kids : List NdZ} (h1 : ZIn w0 v kids) : ∀ (t : TokZ) (m : Nat) (M : Int) (hM : M = m) (w : World) (hm : m ≤ 1000) (hB0 : Below w0.heap.size w0 w) (d : Bool) (hd : dok m (.mk t kids) = d), Calls Tryz.prog 15 #[.agg #[.int .i64 t.k, .string t.t, .int .i64 t.b, .int .i64 t.e, .int .i64 t.l, .int .i64 t.c, v], .int .i64 M] w fun e w' => e = wdE d ∧ Below w.heap.size w w' := by
  induction h1 with
  | mk a g off c kids vs ha hb hc hv hk ih =>
    intro t m M hM w hm hB0 d hd
    have IH := hideT ih
    have HC := hideT (And.intro hc hv)
    have HKS := hideT (fun i (h : i < kids.length) => (hk i h).sh)
    have HB0 := hideT hB0
    have HM := hideT hM
    have HA := hideT ha
    have hM0 : 0 ≤ M := by omega
    have hM1 : M ≤ 1000 := by omega
    clear ih hc hv hk hB0 hM ha
    have hB := below_alloc (w := w) (.cells #[.int .i64 t.k, .string t.t, .int .i64 t.b, .int .i64 t.e, .int .i64 t.l, .int .i64 t.c, .slice a kids.length c] 26)
    have qA := Blk.new w #[.int .i64 t.k, .string t.t, .int .i64 t.b, .int .i64 t.e, .int .i64 t.l, .int .i64 t.c, .slice a kids.length c] 26
    go_enter Tryz.func15, Tryz.ntmps15
    go_upto_region 1 with fail
    generalize w.alloc (.cells #[.int .i64 t.k, .string t.t, .int .i64 t.b, .int .i64 t.e, .int .i64 t.l, .int .i64 t.c, .slice a kids.length c] 26) = W at hB qA ⊢
    have x0 := qA.cell 0
    have x1 := qA.cell 1
    have x2 := qA.cell 2
    have x3 := qA.cell 3
    have x4 := qA.cell 4
    have x5 := qA.cell 5
    have x6 := qA.cell 6
    simp only [List.getElem?_toArray, List.getElem?_cons_zero, List.getElem?_cons_succ] at x0 x1 x2 x3 x4 x5 x6
    by_cases h0 : t.k = 0
    rotate_left
    · have hdd : d = true := by simp only [dok] at hd; rw [if_neg h0] at hd; exact hd.symm
      subst hdd
      have HZ := hideT (decide_eq_false h0)
      clear h0 hd
      go_wp2_with fail
      refine (isListZ t (.slice a kids.length c) false (HZ.out) W).mono ?_
      rintro e w1 ⟨rfl, b1⟩
      replace qA := qA.later b1
      replace hB := hB.trans (b1.mono hB.size)
      clear b1 x0 x1 x2 x3 x4 x5 x6
      have x6 := qA.cell 6
      simp only [List.getElem?_toArray, List.getElem?_cons_zero, List.getElem?_cons_succ] at x6
      go_wp2
      exact ⟨rfl, .tuple #[], by simp [results, Tryz.results15, go_sem], rfl, hB⟩
    have HZ := hideT (decide_eq_true h0)
    by_cases hm0 : m = 0
    · have hdd : d = false := by simp only [dok] at hd; rw [if_pos h0, if_pos hm0] at hd; exact hd.symm
      subst hdd
      have hx : (M == 0) = true := by rw [beq_iff_eq]; have := HM.out; omega
      clear h0 hd hm0
      go_wp2_with fail
      refine (isListZ t (.slice a kids.length c) true (HZ.out) W).mono ?_
      rintro e w1 ⟨rfl, b1⟩
      replace qA := qA.later b1
      replace hB := hB.trans (b1.mono hB.size)
      clear b1 x0 x1 x2 x3 x4 x5 x6
      have x6 := qA.cell 6
      simp only [List.getElem?_toArray, List.getElem?_cons_zero, List.getElem?_cons_succ] at x6
      go_wp2
      exact ⟨rfl, rfl, hB⟩
    have hx : (M == 0) = false := by rw [beq_eq_false_iff_ne]; have := HM.out; omega
    have hMg : 1 ≤ M := by have := HM.out; omega
    have HD := hideT (show dokL (m - 1) kids = d by simp only [dok] at hd; rw [if_pos h0, if_neg hm0] at hd; exact hd)
    have HN := hideT (show M - 1 = ((m - 1 : Nat) : Int) by have := HM.out; omega)
    have HL := hideT (show m - 1 ≤ 1000 by omega)
    clear hd h0 hm0 hm
    go_wp2_with fail
    refine (isListZ t (.slice a kids.length c) true (HZ.out) W).mono ?_
    rintro e w1 ⟨rfl, b1⟩
    replace qA := qA.later b1
    replace hB := hB.trans (b1.mono hB.size)
    clear b1 x0 x1 x2 x3 x4 x5 x6
    have x6 := qA.cell 6
    simp only [List.getElem?_toArray, List.getElem?_cons_zero, List.getElem?_cons_succ] at x6
    go_wp2_with fail
    go_loopw [16] (fun i wr => ∃ k : Nat, k ≤ kids.length ∧ i = .int .i64 k ∧ Below w.heap.size w wr ∧ (∀ i (h : i < kids.length), i < k → dok (m - 1) kids[i] = true)) (fun i _ => kids.length - (intOf i).toNat)
    case atStart => exact ⟨0, Nat.zero_le _, rfl, hB, fun i _ c => absurd c (Nat.not_lt_zero _)⟩
    case round =>
      clear qA hB x6
      obtain ⟨k, hk, rfl, hB, hall⟩ := hrel
      have HALL := hideT hall
      clear hall
      by_cases hlt : k < kids.length
      · have hki : ((k : Int) < (kids.length : Int)) := by omega
        have ea := HA.out (by omega)
        subst ea
        have h0 := HB0.out.trans (hB.mono HB0.out.size)
        obtain ⟨hc, hv⟩ := HC.out
        obtain ⟨T, hT⟩ : ∃ T, kids[k].t = T := ⟨_, rfl⟩
        have a0 := hc k hlt 0 (by decide)
        have a1 := hc k hlt 1 (by decide)
        have a2 := hc k hlt 2 (by decide)
        have a3 := hc k hlt 3 (by decide)
        have a4 := hc k hlt 4 (by decide)
        have a5 := hc k hlt 5 (by decide)
        rw [hT] at a0 a1 a2 a3 a4 a5
        simp only [TokZ.cells, List.getElem?_cons_zero, List.getElem?_cons_succ] at a0 a1 a2 a3 a4 a5
        rw [Nat.add_zero] at a0
        have a6 := hv k hlt
        replace a0 := below_cell h0 a0
        replace a1 := below_cell h0 a1
        replace a2 := below_cell h0 a2
        replace a3 := below_cell h0 a3
        replace a4 := below_cell h0 a4
        replace a5 := below_cell h0 a5
        replace a6 := below_cell h0 a6
        have e1 : NdZ.mk T kids[k].kids = kids[k] := by rw [← hT, ndz_eta]
        obtain ⟨rr, hrr⟩ : ∃ rr, dok (m - 1) kids[k] = rr := ⟨_, rfl⟩
        have GI := hideT (fun W h => IH.out k hlt T (m - 1) (M - 1) HN.out W HL.out h rr (by rw [e1]; exact hrr))
        have HR := hideT hrr
        clear hT hc hv e1 hrr
        obtain ⟨ua, uc, eu⟩ := HKS.out k hlt
        obtain ⟨un, hun⟩ : ∃ un, kids[k].kids.length = un := ⟨_, rfl⟩
        rw [hun] at eu
        rw [eu] at a6 GI
        clear eu hun
        have bN := below_alloc (w := wr) (.cells #[.int .i64 T.k, .string T.t, .int .i64 T.b, .int .i64 T.e, .int .i64 T.l, .int .i64 T.c, .slice ua un uc] 26)
        have qN := Blk.new wr #[.int .i64 T.k, .string T.t, .int .i64 T.b, .int .i64 T.e, .int .i64 T.l, .int .i64 T.c, .slice ua un uc] 26
        replace hB := hB.trans (bN.mono hB.size)
        have HW := hideT (h0.trans (bN.mono h0.size))
        clear bN h0
        go_upto_region 7 with fail
        generalize wr.alloc (.cells #[.int .i64 T.k, .string T.t, .int .i64 T.b, .int .i64 T.e, .int .i64 T.l, .int .i64 T.c, .slice ua un uc] 26) = W2 at qN hB HW ⊢
        clear a0 a1 a2 a3 a4 a5 a6
        have y0 := qN.cell 0
        have y1 := qN.cell 1
        have y2 := qN.cell 2
        have y3 := qN.cell 3
        have y4 := qN.cell 4
        have y5 := qN.cell 5
        have y6 := qN.cell 6
        simp only [List.getElem?_toArray, List.getElem?_cons_zero, List.getElem?_cons_succ] at y0 y1 y2 y3 y4 y5 y6
        go_wp2_with fail
        refine (GI.out _ HW.out).mono ?_
        rintro e w5 ⟨he, b5⟩
        replace hB := hB.trans (b5.mono hB.size)
        clear b5 GI
        cases rr with
        | false =>
          have he2 : e = .panicked (flt 132 0) := he
          subst he2
          have hdf : d = false := by rw [← HD.out]; exact dokL_no hlt HR.out
          subst hdf
          go_wp2
          exact ⟨rfl, rfl, hB⟩
        | true =>
          have he2 : e = .returned (.tuple #[]) := he
          subst he2
          go_wp2
          go_roundw
          case rel => exact ⟨k + 1, by omega, by go_num, hB, fun i h hi => (Nat.lt_or_ge i k).elim (fun c => HALL.out i h c) (fun c => by have e : i = k := (by omega); subst e; exact HR.out)⟩
          case measure => simp [intOf]; omega
      · have hki : ¬ ((k : Int) < (kids.length : Int)) := by omega
        have hdf : d = true := by rw [← HD.out]; exact dokL_yes (fun i hi => HALL.out i hi (by omega))
        subst hdf
        go_wp2
        first | go_end0 | skip
        exact ⟨rfl, hB⟩

end Go.Proofs.YtpfmamimhhnbiaaGreatDoor

namespace Go.Proofs
open Go.Shelf
def Tryz.renW : Go.Shelf.Ren := ⟨fun n => if n = 167 then 23 else Tryz.lays155_ren.f n, Tryz.lays155_ren.t, Tryz.lays155_ren.g⟩
theorem Tryz.laysW : Go.Proofs.Lays.n167 Tryz.prog Tryz.renW := { Tryz.lays155 with
  f167 := Tryz.func23.trans (congrArg some (by kernel_rfl))
  f240 := Tryz.func29.trans (congrArg some (by kernel_rfl))
  f276 := Tryz.func47.trans (congrArg some (by kernel_rfl)) }
set_option maxRecDepth 100000 in
theorem Tryz.extraW : Builder.Extra Tryz.prog Tryz.renW := {
  sizeBuilder := Tryz.Builder_Extra_155.sizeBuilder
  liesBuilder := Tryz.Builder_Extra_155.liesBuilder
  t5 := Tryz.Builder_Extra_155.t5
  a5 := Tryz.Builder_Extra_155.a5
  z5 := Tryz.Builder_Extra_155.z5
  v5 := Tryz.Builder_Extra_155.v5
  infoByte := Tryz.Builder_Extra_155.infoByte
  cellsByte := Tryz.Builder_Extra_155.cellsByte
  sizeByte := Tryz.Builder_Extra_155.sizeByte
  neB5 := Tryz.Builder_Extra_155.neB5
}
end Go.Proofs
namespace Go.Proofs.YtpfmamimhhnbiaaGreatDoor
open Go.RowKit
set_option linter.unusedVariables false
set_option linter.unusedSimpArgs false
/-- a builder that holds these bytes -/
def BuF (B b : Nat) (l : List UInt8) (w : World) : Prop := Lib.IsBuilderF 41 5 B b (Lib.byteCells l) w
/-- what is no builder and no row of bytes stands -/
def Oth (b : Nat) (w w' : World) : Prop := Lib.OthersKept 5 (some b) w w'
theorem BuF.lt {B b : Nat} {l : List UInt8} {w : World} (h : BuF B b l w) : B ≤ b ∧ b < w.heap.size := by
  rcases h with h | h
  · exact ⟨h.1, h.lt⟩
  · exact ⟨h.1, h.lt⟩
theorem buF_on {T e : TypeId} {B b : Nat} {p : Value} {bs : List Value} {w w' : World} (h : Lib.BuilderAtF T e B b p bs w) (hb : Below w.heap.size w w') : Lib.BuilderAtF T e B b p bs w' := by
  have hl := h.lt
  obtain ⟨h1, v, h2, h3, h4⟩ := h
  refine ⟨h1, v, (hb.block b hl).trans h2, ?_, h4⟩
  refine ⟨h3.1, ?_⟩
  rcases h3.2 with c | ⟨g, cap, cur, fz, e1, e2, e3, e4⟩
  · exact Or.inl c
  · exact Or.inr ⟨g, cap, cur, fz, e1, e2, (hb.block g (Array.getElem?_eq_some_iff.1 e3).1).trans e3, e4⟩
theorem BuF.on {B b : Nat} {l : List UInt8} {w w' : World} (h : BuF B b l w) (hb : Below w.heap.size w w') : BuF B b l w' := by
  rcases h with h | h
  · exact Or.inl (buF_on h hb)
  · exact Or.inr (buF_on h hb)
theorem Oth.tr {b : Nat} {w w' w2 : World} (h : Oth b w w') (h2 : Oth b w' w2) : Oth b w w2 := Lib.OthersKept.trans h h2
theorem Oth.of {b : Nat} {w w' : World} (hb : Below w.heap.size w w') : Oth b w w' := fun k o hk _ _ => (hb.block k (Array.getElem?_eq_some_iff.1 hk).1).trans hk
theorem Blk.oth {b c : Nat} {w w' : World} {cs : Array Value} {t : TypeId} (h : Blk w c cs t) (k : Oth b w w') (hc : c ≠ b) (ht : t ≠ 5) : Blk w' c cs t :=
  k c _ h (fun e => hc (Option.some.inj e)) (fun cc fz e => ht (by injection e))
theorem wbyte_is (B b : Nat) (l : List UInt8) (u : UInt8) (w : World) (h : BuF B b l w) (hl : l.length + 1 ≤ 140737488355328) : Calls Tryz.prog 23 #[.pointer (some ⟨b, 0, none⟩), .int .u8 u.toNat] w fun e w' => e = .returned .nilIface ∧ BuF B b (l ++ [u]) w' ∧ Below B w w' ∧ Oth b w w' := by
  have hlt := h.lt
  refine (Any.Builder_WriteByte_k Tryz.laysW Tryz.extraW B b (Lib.byteCells l) u.toNat w h (by rw [Lib.byteCells_length]; exact hl) (by omega)).mono ?_
  rintro e w' ⟨h1, h2, h3, h4⟩
  refine ⟨h1, Or.inr ?_, h3, h4⟩
  rw [Lib.byteCells_append]
  exact h2
theorem wstr_is (B b : Nat) (l : List UInt8) (s : ByteArray) (w : World) (h : BuF B b l w) (hl : l.length + s.size ≤ 140737488355328) : Calls Tryz.prog 21 #[.pointer (some ⟨b, 0, none⟩), .string s] w fun e w' => e = .returned (.tuple #[.int .i64 s.size, .nilIface]) ∧ BuF B b (l ++ lsB s) w' ∧ Below B w w' ∧ Oth b w w' := by
  have hlt := h.lt
  refine (Any.Builder_WriteString_k { Tryz.lays155 with } Tryz.Builder_Extra_155 B b (Lib.byteCells l) s w h (by rw [Lib.byteCells_length]; exact hl) (by omega)).mono ?_
  rintro e w' ⟨h1, h2, h3, h4⟩
  refine ⟨h1, Or.inr ?_, h3, h4⟩
  unfold lsB
  rw [Lib.byteCells_append, ← Lib.strCells_eq]
  exact h2
theorem wend_is (B b : Nat) (l : List UInt8) (w : World) (h : BuF B b l w) : Calls Tryz.prog 17 #[.pointer (some ⟨b, 0, none⟩)] w fun e w' => e = .returned (.string ⟨l.toArray⟩) ∧ Below B w w' ∧ Oth b w w' := by
  have hlt := h.lt
  refine (Any.Builder_String_any_k { Tryz.lays155 with } Tryz.Builder_Extra_155 B b l w h (by omega)).mono ?_
  rintro e w' ⟨h1, h2, h3, h4⟩
  exact ⟨h1, h3, h4⟩
/-- what tokenText answers -/
def ttE (c : Int) (s : ByteArray) : Ending := if c = 0 then .returned (.string s) else .panicked (flt c 0)
set_option maxHeartbeats 8000000 in
set_option maxRecDepth 100000 in
theorem tokt_is (t : TokZ) (w : World) (hs : t.t.size ≤ 16777216) (hM : MaxL w) (hmx : mxB < w.heap.size) : Calls Tryz.prog 22 #[.agg #[.int .i64 t.k, .string t.t, .int .i64 t.b, .int .i64 t.e, .int .i64 t.l, .int .i64 t.c]] w fun e w' => (∃ s, e = ttE (wtC t) s ∧ (wtC t = 0 → lsB s = wtS t)) ∧ Below w.heap.size w w' := by
  have G := hideT (fun W hMW hx => print_big t.k t.t t.b t.e t.l t.c W hs hMW hx)
  have hB := below_alloc (w := w) (.cells #[.int .i64 t.k, .string t.t, .int .i64 t.b, .int .i64 t.e, .int .i64 t.l, .int .i64 t.c] 23)
  have qT := Blk.new w #[.int .i64 t.k, .string t.t, .int .i64 t.b, .int .i64 t.e, .int .i64 t.l, .int .i64 t.c] 23
  go_enter Tryz.func22, Tryz.ntmps22
  go_upto_region 1 with fail
  generalize w.alloc (.cells #[.int .i64 t.k, .string t.t, .int .i64 t.b, .int .i64 t.e, .int .i64 t.l, .int .i64 t.c] 23) = W at hB qT ⊢
  have hMW := hM.on hB
  have hmW : mxB < W.heap.size := Nat.lt_of_lt_of_le hmx hB.size
  have x0 := qT.cell 0
  have x1 := qT.cell 1
  have x2 := qT.cell 2
  have x3 := qT.cell 3
  have x4 := qT.cell 4
  have x5 := qT.cell 5
  simp only [List.getElem?_toArray, List.getElem?_cons_zero, List.getElem?_cons_succ] at x0 x1 x2 x3 x4 x5
  go_wp2_with fail
  refine (G.out _ hMW hmW).mono ?_
  rintro e w1 ⟨s, c, rfl, pr, b1⟩
  have hpk := pkT_uniq pr
  have HP := hideT hpk
  clear hpk pr G
  replace qT := qT.later b1
  replace hB := hB.trans (b1.mono hB.size)
  clear b1 hMW hmW x0 x1 x2 x3 x4 x5
  have x0 := qT.cell 0
  simp only [List.getElem?_toArray, List.getElem?_cons_zero, List.getElem?_cons_succ] at x0
  by_cases hk : t.k = 1
  · have y1 : (t.k == 1) = true := by rw [beq_iff_eq]; exact hk
    have hc : wtC t = 120 := by unfold wtC; rw [if_pos (Or.inl hk)]
    have HC := hideT hc
    have HK := hideT hk
    clear hk hc
    go_wp2
    exact ⟨rfl, ⟨s, by rw [HC.out]; rfl, fun c => absurd (HC.out.symm.trans c) (by decide)⟩, hB⟩
  have y1 : (t.k == 1) = false := by rw [beq_eq_false_iff_ne]; exact hk
  have HK1 := hideT hk
  clear hk
  by_cases hk : t.k = 2
  · have y2 : (t.k == 2) = true := by rw [beq_iff_eq]; exact hk
    have hc : wtC t = 120 := by unfold wtC; rw [if_pos (Or.inr hk)]
    have HC := hideT hc
    have HK := hideT hk
    clear hk hc
    go_wp2
    exact ⟨rfl, ⟨s, by rw [HC.out]; rfl, fun c => absurd (HC.out.symm.trans c) (by decide)⟩, hB⟩
  have y2 : (t.k == 2) = false := by rw [beq_eq_false_iff_ne]; exact hk
  have HC := hideT (show wtC t = c ∧ wtS t = lsB s by unfold wtC wtS; rw [if_neg (fun q => q.elim HK1.out hk), if_neg (fun q => q.elim HK1.out hk), HP.out]; exact ⟨rfl, rfl⟩)
  clear hk
  by_cases hc : c = 0
  · subst hc
    go_wp2
    go_ret
    exact ⟨⟨s, by rw [HC.out.1]; rfl, fun _ => HC.out.2.symm⟩, hB⟩
  · have yc : (c != 0) = true := by simp [hc]
    have HCC := hideT hc
    clear hc
    go_wp2
    exact ⟨rfl, ⟨s, by rw [HC.out.1]; unfold ttE; rw [if_neg HCC.out]; rfl, fun q => absurd (HC.out.1.symm.trans q) HCC.out⟩, hB⟩

end Go.Proofs.YtpfmamimhhnbiaaGreatDoor

namespace Go.Proofs.YtpfmamimhhnbiaaGreatDoor
open Go.RowKit
set_option linter.unusedVariables false
set_option linter.unusedSimpArgs false
theorem wopen_is (B b : Nat) (l : List UInt8) (w : World) (h : BuF B b l w) (hl : l.length + 1 ≤ 140737488355328) : Calls Tryz.prog 23 #[.pointer (some ⟨b, 0, none⟩), .int .u8 40] w fun e w' => e = .returned .nilIface ∧ BuF B b (l ++ [40]) w' ∧ Below B w w' ∧ Oth b w w' := wbyte_is B b l 40 w h hl
theorem wblank_is (B b : Nat) (l : List UInt8) (w : World) (h : BuF B b l w) (hl : l.length + 1 ≤ 140737488355328) : Calls Tryz.prog 23 #[.pointer (some ⟨b, 0, none⟩), .int .u8 32] w fun e w' => e = .returned .nilIface ∧ BuF B b (l ++ [32]) w' ∧ Below B w w' ∧ Oth b w w' := wbyte_is B b l 32 w h hl
theorem wclose_is (B b : Nat) (l : List UInt8) (w : World) (h : BuF B b l w) (hl : l.length + 1 ≤ 140737488355328) : Calls Tryz.prog 23 #[.pointer (some ⟨b, 0, none⟩), .int .u8 41] w fun e w' => e = .returned .nilIface ∧ BuF B b (l ++ [41]) w' ∧ Below B w w' ∧ Oth b w w' := wbyte_is B b l 41 w h hl
/-- what write answers -/
def wrE (c : Int) : Ending := if c = 0 then .returned (.tuple #[]) else .panicked (flt c 0)
/-- a builder on its way, and all else as it stood -/
structure WS (Bd b : Nat) (l : List UInt8) (w W : World) : Prop where
  bu : BuF Bd b l W
  be : Below Bd w W
  ot : Oth b w W
theorem WS.on {Bd b : Nat} {l : List UInt8} {w W W' : World} (h : WS Bd b l w W) (hb : Below W.heap.size W W') : WS Bd b l w W' :=
  ⟨h.bu.on hb, h.be.trans (hb.mono (by have := h.bu.lt; omega)), h.ot.tr (Oth.of hb)⟩
theorem WS.put {Bd b : Nat} {l l2 : List UInt8} {w W W' : World} (h : WS Bd b l w W) (h1 : BuF Bd b l2 W') (h2 : Below Bd W W') (h3 : Oth b W W') : WS Bd b l2 w W' := ⟨h1, h.be.trans h2, h.ot.tr h3⟩
set_option maxHeartbeats 8000000 in
set_option maxRecDepth 100000 in
theorem write_is {w0 : World} {v : Value} {kids : List NdZ} (h1 : ZIn w0 v kids) : ∀ (t : TokZ) (Bd b : Nat) (l : List UInt8) (w : World) (hB0 : Below w0.heap.size w0 w) (hBB : w0.heap.size ≤ Bd) (hu : BuF Bd b l w) (hM0 : MaxL w0) (hmx : mxB < w0.heap.size) (hwg : wgZ (.mk t kids) ≤ 16777216) (hlen : l.length + 4 * wgZ (.mk t kids) ≤ 1099511627776), Calls Tryz.prog 16 #[.pointer (some ⟨b, 0, none⟩), .agg #[.int .i64 t.k, .string t.t, .int .i64 t.b, .int .i64 t.e, .int .i64 t.l, .int .i64 t.c, v]] w fun e w' => e = wrE (erZ (.mk t kids)) ∧ Below Bd w w' ∧ Oth b w w' ∧ (erZ (.mk t kids) = 0 → BuF Bd b (l ++ txZ (.mk t kids)) w') := by
  induction h1 with
  | mk a g off c kids vs ha hb hc hv hk ih =>
    intro t Bd b l w hB0 hBB hu hM0 hmx hwg hlen
    have IH := hideT ih
    have HC := hideT (And.intro hc hv)
    have HKS := hideT (fun i (h : i < kids.length) => (hk i h).sh)
    have HB0 := hideT (And.intro hB0 (And.intro hBB (And.intro hM0 hmx)))
    have HA := hideT ha
    have HW := hideT (And.intro hwg hlen)
    obtain ⟨c0, hc0⟩ : ∃ c0, erZ (.mk t kids) = c0 := ⟨_, rfl⟩
    obtain ⟨S, hS⟩ : ∃ S, txZ (.mk t kids) = S := ⟨_, rfl⟩
    rw [hc0, hS]
    have hbl := hu.lt
    clear ih hc hv hk hB0 hBB hM0 hmx hwg hlen ha
    have hB := below_alloc (w := w) (.cells #[.int .i64 t.k, .string t.t, .int .i64 t.b, .int .i64 t.e, .int .i64 t.l, .int .i64 t.c, .slice a kids.length c] 26)
    have qA := Blk.new w #[.int .i64 t.k, .string t.t, .int .i64 t.b, .int .i64 t.e, .int .i64 t.l, .int .i64 t.c, .slice a kids.length c] 26
    have ws : WS Bd b l w (w.alloc (.cells #[.int .i64 t.k, .string t.t, .int .i64 t.b, .int .i64 t.e, .int .i64 t.l, .int .i64 t.c, .slice a kids.length c] 26)) := ⟨hu.on hB, hB.mono (by omega), Oth.of hB⟩
    clear hu hB
    have hnb : w.heap.size ≠ b := by omega
    have HNB := hideT (And.intro hnb hbl)
    clear hnb hbl
    go_enter Tryz.func16, Tryz.ntmps16
    go_upto_region 1 with fail
    generalize w.alloc (.cells #[.int .i64 t.k, .string t.t, .int .i64 t.b, .int .i64 t.e, .int .i64 t.l, .int .i64 t.c, .slice a kids.length c] 26) = W at ws qA ⊢
    have x0 := qA.cell 0
    have x1 := qA.cell 1
    have x2 := qA.cell 2
    have x3 := qA.cell 3
    have x4 := qA.cell 4
    have x5 := qA.cell 5
    have x6 := qA.cell 6
    simp only [List.getElem?_toArray, List.getElem?_cons_zero, List.getElem?_cons_succ] at x0 x1 x2 x3 x4 x5 x6
    by_cases h0 : t.k = 0
    rotate_left
    · have HE := hideT (show wtC t = c0 ∧ wtS t = S by simp only [erZ] at hc0; simp only [txZ] at hS; rw [if_neg h0] at hc0 hS; exact ⟨hc0, hS⟩)
      have HZ := hideT (decide_eq_false h0)
      clear h0 hc0 hS
      go_wp2_with fail
      refine (isListZ t (.slice a kids.length c) false (HZ.out) W).mono ?_
      rintro e w1 ⟨rfl, b1⟩
      replace qA := qA.later b1
      replace ws := ws.on b1
      clear b1 x0 x1 x2 x3 x4 x5 x6
      have x0 := qA.cell 0
      have x1 := qA.cell 1
      have x2 := qA.cell 2
      have x3 := qA.cell 3
      have x4 := qA.cell 4
      have x5 := qA.cell 5
      have x6 := qA.cell 6
      simp only [List.getElem?_toArray, List.getElem?_cons_zero, List.getElem?_cons_succ] at x0 x1 x2 x3 x4 x5 x6
      have GT := hideT (tokt_is t w1 (by have := HW.out.1; simp only [wgZ] at this; omega) (HB0.out.2.2.1.on (HB0.out.1.trans (ws.be.mono HB0.out.2.1))) (Nat.lt_of_lt_of_le HB0.out.2.2.2 (Nat.le_trans HB0.out.1.size ws.be.size)))
      go_wp2_with fail
      refine GT.out.mono ?_
      rintro e w2 ⟨⟨s, he, hs⟩, b2⟩
      clear GT
      replace ws := ws.on b2
      have HS2 := hideT hs
      clear hs b2 x0 x1 x2 x3 x4 x5 x6
      by_cases hz : c0 = 0
      · have he2 : e = .returned (.string s) := by rw [he, HE.out.1]; unfold ttE; rw [if_pos hz]
        subst he2
        clear he
        have hls : lsB s = S := by rw [← HE.out.2]; exact HS2.out (HE.out.1.trans hz)
        have HLS := hideT hls
        clear hls
        have GS := hideT (wstr_is Bd b l s w2 ws.bu (by have h1 := HW.out.2; have h2 := tx_wg (.mk t kids); have h3 := HLS.out; have h4 := HE.out.2; have h5 := wtS_len t; rw [← lsB_len, h3, ← h4]; simp only [wgZ] at h1; omega))
        go_wp2_with fail
        refine GS.out.mono ?_
        rintro e w3 ⟨rfl, u3, b3, o3⟩
        replace ws := ws.put u3 b3 o3
        clear GS u3 b3 o3
        go_wp2
        exact ⟨rfl, .tuple #[], by simp [results, Tryz.results16, go_sem], by unfold wrE; rw [if_pos hz], ws.be, ws.ot, fun _ => by rw [← HLS.out]; exact ws.bu⟩
      · have he2 : e = .panicked (flt c0 0) := by rw [he, HE.out.1]; unfold ttE; rw [if_neg hz]
        subst he2
        clear he
        have HZ2 := hideT hz
        clear hz
        go_wp2
        exact ⟨rfl, by unfold wrE; rw [if_neg HZ2.out], ws.be, ws.ot, fun q => absurd q HZ2.out⟩
    have HE := hideT (show erL kids = c0 ∧ 40 :: (txL kids ++ [41]) = S by simp only [erZ] at hc0; simp only [txZ] at hS; rw [if_pos h0] at hc0 hS; exact ⟨hc0, hS⟩)
    have HL := hideT (show l.length + 4 * (1 + wgL kids) ≤ 1099511627776 ∧ wgL kids ≤ 16777216 by have h1 := HW.out; simp only [wgZ] at h1; omega)
    have HZ := hideT (decide_eq_true h0)
    clear h0 hc0 hS HW
    go_wp2_with fail
    refine (isListZ t (.slice a kids.length c) true (HZ.out) W).mono ?_
    rintro e w1 ⟨rfl, b1⟩
    replace qA := qA.later b1
    replace ws := ws.on b1
    clear b1 x0 x1 x2 x3 x4 x5 x6
    have x0 := qA.cell 0
    have x1 := qA.cell 1
    have x2 := qA.cell 2
    have x3 := qA.cell 3
    have x4 := qA.cell 4
    have x5 := qA.cell 5
    have x6 := qA.cell 6
    simp only [List.getElem?_toArray, List.getElem?_cons_zero, List.getElem?_cons_succ] at x0 x1 x2 x3 x4 x5 x6
    have GO := hideT (wopen_is Bd b l w1 ws.bu (by have := HL.out.1; omega))
    go_wp2_with fail
    refine GO.out.mono ?_
    rintro e w2 ⟨rfl, u2, b2, o2⟩
    replace ws := ws.put u2 b2 o2
    replace qA := qA.oth o2 HNB.out.1 (by decide)
    clear GO u2 b2 o2 x0 x1 x2 x3 x4 x5 x6
    have x6 := qA.cell 6
    simp only [List.getElem?_toArray, List.getElem?_cons_zero, List.getElem?_cons_succ] at x6
    go_wp2_with fail
    go_loopw [19] (fun i wr => ∃ k : Nat, k ≤ kids.length ∧ i = .int .i64 k ∧ WS Bd b (l ++ [40] ++ txL (kids.take k)) w wr ∧ (∀ i (h : i < kids.length), i < k → erZ kids[i] = 0)) (fun i _ => kids.length - (intOf i).toNat)
    case atStart => exact ⟨0, Nat.zero_le _, rfl, by simpa [txL] using ws, fun i _ c => absurd c (Nat.not_lt_zero _)⟩
    case round =>
      clear qA ws x6
      obtain ⟨k, hk, rfl, ws, hall⟩ := hrel
      have HALL := hideT hall
      clear hall
      have HLN := hideT (show (l ++ [40] ++ txL (kids.take k)).length ≤ l.length + 1 + 4 * wgL (kids.take k) by have := tx_wgL (kids.take k); simp only [List.length_append, List.length_cons, List.length_nil]; omega)
      by_cases hlt : k < kids.length
      · have hki : ((k : Int) < (kids.length : Int)) := by omega
        have ea := HA.out (by omega)
        subst ea
        have h0 := HB0.out.1.trans (ws.be.mono HB0.out.2.1)
        obtain ⟨hc, hv⟩ := HC.out
        obtain ⟨T, hT⟩ : ∃ T, kids[k].t = T := ⟨_, rfl⟩
        have a0 := hc k hlt 0 (by decide)
        have a1 := hc k hlt 1 (by decide)
        have a2 := hc k hlt 2 (by decide)
        have a3 := hc k hlt 3 (by decide)
        have a4 := hc k hlt 4 (by decide)
        have a5 := hc k hlt 5 (by decide)
        rw [hT] at a0 a1 a2 a3 a4 a5
        simp only [TokZ.cells, List.getElem?_cons_zero, List.getElem?_cons_succ] at a0 a1 a2 a3 a4 a5
        rw [Nat.add_zero] at a0
        have a6 := hv k hlt
        replace a0 := below_cell h0 a0
        replace a1 := below_cell h0 a1
        replace a2 := below_cell h0 a2
        replace a3 := below_cell h0 a3
        replace a4 := below_cell h0 a4
        replace a5 := below_cell h0 a5
        replace a6 := below_cell h0 a6
        have e1 : NdZ.mk T kids[k].kids = kids[k] := by rw [← hT, ndz_eta]
        clear h0
        have HWK := hideT (show wgL (kids.take k) + wgZ kids[k] ≤ wgL kids by have := wgL_take hlt; have := wgL_take_le kids (k + 1); omega)
        have GI := hideT (fun L W h hu hl => IH.out k hlt T Bd b L W h HB0.out.2.1 hu HB0.out.2.2.1 HB0.out.2.2.2 (by rw [e1]; have := HWK.out; have := HL.out.2; omega) hl)
        rw [e1] at GI
        have HTX := hideT (txL_take hlt)
        obtain ⟨er, her⟩ : ∃ er, erZ kids[k] = er := ⟨_, rfl⟩
        rw [her] at GI
        have HR := hideT her
        obtain ⟨SK, hSK⟩ : ∃ SK, txZ kids[k] = SK := ⟨_, rfl⟩
        rw [hSK] at GI HTX
        clear hT hc hv e1 her hSK
        obtain ⟨ua, uc, eu⟩ := HKS.out k hlt
        obtain ⟨un, hun⟩ : ∃ un, kids[k].kids.length = un := ⟨_, rfl⟩
        rw [hun] at eu
        rw [eu] at a6 GI
        clear eu hun
        have bN := below_alloc (w := wr) (.cells #[.int .i64 T.k, .string T.t, .int .i64 T.b, .int .i64 T.e, .int .i64 T.l, .int .i64 T.c, .slice ua un uc] 26)
        have qN := Blk.new wr #[.int .i64 T.k, .string T.t, .int .i64 T.b, .int .i64 T.e, .int .i64 T.l, .int .i64 T.c, .slice ua un uc] 26
        have HNK := hideT (show wr.heap.size ≠ b by have := ws.bu.lt; omega)
        replace ws := ws.on bN
        clear bN
        go_upto_region 7 with fail
        generalize wr.alloc (.cells #[.int .i64 T.k, .string T.t, .int .i64 T.b, .int .i64 T.e, .int .i64 T.l, .int .i64 T.c, .slice ua un uc] 26) = W2 at qN ws ⊢
        clear a0 a1 a2 a3 a4 a5 a6
        by_cases hk0 : 0 < k
        · have hkz : ((k : Int) > 0) := by omega
          have GB := hideT (wblank_is Bd b _ W2 ws.bu (by have h1 := HLN.out; have h2 := HWK.out; have h3 := HL.out; omega))
          go_wp2_with fail
          refine GB.out.mono ?_
          rintro e w4 ⟨rfl, u4, b4, o4⟩
          replace ws := ws.put u4 b4 o4
          replace qN := qN.oth o4 HNK.out (by decide)
          clear GB u4 b4 o4
          have y0 := qN.cell 0
          have y1 := qN.cell 1
          have y2 := qN.cell 2
          have y3 := qN.cell 3
          have y4 := qN.cell 4
          have y5 := qN.cell 5
          have y6 := qN.cell 6
          simp only [List.getElem?_toArray, List.getElem?_cons_zero, List.getElem?_cons_succ] at y0 y1 y2 y3 y4 y5 y6
          have GJ := hideT (GI.out _ _ (HB0.out.1.trans (ws.be.mono HB0.out.2.1)) ws.bu (by have h1 := HLN.out; have h2 := HWK.out; have h3 := HL.out; simp only [List.length_append, List.length_cons, List.length_nil] at h1 ⊢; omega))
          go_wp2_with fail
          refine GJ.out.mono ?_
          rintro e w5 ⟨he, b5, o5, u5⟩
          clear GI GJ
          by_cases hz : er = 0
          · have he2 : e = .returned (.tuple #[]) := by rw [he]; unfold wrE; rw [if_pos hz]
            subst he2
            clear he
            have HX := hideT (ws.put (u5 hz) b5 o5)
            have HZ0 := hideT hz
            clear ws u5 b5 o5 hz y0 y1 y2 y3 y4 y5 y6
            go_wp2
            go_roundw
            case rel => exact ⟨k + 1, by omega, by go_num, by have h1 := HX.out; rw [HTX.out, if_pos (by omega)]; simpa [List.append_assoc] using h1, fun i h hi => (Nat.lt_or_ge i k).elim (fun c => HALL.out i h c) (fun c => by have e : i = k := (by omega); subst e; exact HR.out.trans HZ0.out)⟩
            case measure => simp [intOf]; omega
          · have he2 : e = .panicked (flt er 0) := by rw [he]; unfold wrE; rw [if_neg hz]
            subst he2
            have hce : c0 = er := by rw [← HE.out.1, ← HR.out]; exact erL_take hlt (fun i h hi => HALL.out i h hi) (by rw [HR.out]; exact hz)
            have HCE := hideT hce
            have HZ0 := hideT hz
            have HX := hideT (And.intro (ws.be.trans b5) (ws.ot.tr o5))
            clear he hce hz ws u5 b5 o5 y0 y1 y2 y3 y4 y5 y6
            go_wp2
            exact ⟨rfl, by rw [HCE.out]; unfold wrE; rw [if_neg HZ0.out], HX.out.1, HX.out.2, fun q => absurd (HCE.out.symm.trans q) HZ0.out⟩
        · have hkz : ¬ ((k : Int) > 0) := by omega
          have y0 := qN.cell 0
          have y1 := qN.cell 1
          have y2 := qN.cell 2
          have y3 := qN.cell 3
          have y4 := qN.cell 4
          have y5 := qN.cell 5
          have y6 := qN.cell 6
          simp only [List.getElem?_toArray, List.getElem?_cons_zero, List.getElem?_cons_succ] at y0 y1 y2 y3 y4 y5 y6
          have GJ := hideT (GI.out _ _ (HB0.out.1.trans (ws.be.mono HB0.out.2.1)) ws.bu (by have h1 := HLN.out; have h2 := HWK.out; have h3 := HL.out; simp only [List.length_append, List.length_cons, List.length_nil] at h1 ⊢; omega))
          go_wp2_with fail
          refine GJ.out.mono ?_
          rintro e w5 ⟨he, b5, o5, u5⟩
          clear GI GJ
          by_cases hz : er = 0
          · have he2 : e = .returned (.tuple #[]) := by rw [he]; unfold wrE; rw [if_pos hz]
            subst he2
            clear he
            have HX := hideT (ws.put (u5 hz) b5 o5)
            have HZ0 := hideT hz
            clear ws u5 b5 o5 hz y0 y1 y2 y3 y4 y5 y6
            go_wp2
            go_roundw
            case rel => exact ⟨k + 1, by omega, by go_num, by have h1 := HX.out; rw [HTX.out, if_neg (by omega)]; simpa [List.append_assoc] using h1, fun i h hi => (Nat.lt_or_ge i k).elim (fun c => HALL.out i h c) (fun c => by have e : i = k := (by omega); subst e; exact HR.out.trans HZ0.out)⟩
            case measure => simp [intOf]; omega
          · have he2 : e = .panicked (flt er 0) := by rw [he]; unfold wrE; rw [if_neg hz]
            subst he2
            have hce : c0 = er := by rw [← HE.out.1, ← HR.out]; exact erL_take hlt (fun i h hi => HALL.out i h hi) (by rw [HR.out]; exact hz)
            have HCE := hideT hce
            have HZ0 := hideT hz
            have HX := hideT (And.intro (ws.be.trans b5) (ws.ot.tr o5))
            clear he hce hz ws u5 b5 o5 y0 y1 y2 y3 y4 y5 y6
            go_wp2
            exact ⟨rfl, by rw [HCE.out]; unfold wrE; rw [if_neg HZ0.out], HX.out.1, HX.out.2, fun q => absurd (HCE.out.symm.trans q) HZ0.out⟩
      · have hki : ¬ ((k : Int) < (kids.length : Int)) := by omega
        have ek : k = kids.length := by omega
        have hz : c0 = 0 := by rw [← HE.out.1]; exact erL_all (fun i hi => HALL.out i hi (by omega))
        have HZ0 := hideT hz
        have HEK := hideT ek
        clear hz ek
        have GC := hideT (wclose_is Bd b _ wr ws.bu (by have h1 := HLN.out; have h3 := HL.out; have := wgL_take_le kids k; omega))
        go_wp2_with fail
        refine GC.out.mono ?_
        rintro e w4 ⟨rfl, u4, b4, o4⟩
        replace ws := ws.put u4 b4 o4
        clear GC u4 b4 o4
        have HX := hideT ws
        clear ws
        go_wp2
        first | go_end0 | skip
        exact ⟨by unfold wrE; rw [if_pos HZ0.out], HX.out.be, HX.out.ot, fun _ => by have h1 := HX.out.bu; rw [← HE.out.2]; rw [HEK.out, List.take_length] at h1; simpa [List.append_assoc] using h1⟩

end Go.Proofs.YtpfmamimhhnbiaaGreatDoor

namespace Go.Proofs.YtpfmamimhhnbiaaGreatDoor
open Go.RowKit
set_option linter.unusedVariables false
set_option linter.unusedSimpArgs false
theorem run_field0 (v0 v1 : Value) (w : World) : (Instr.field 35 (.agg #[v0, v1]) 0).run Tryz.prog w = .ok v0 w := by kernel_rfl
set_option maxHeartbeats 4000000 in
set_option maxRecDepth 100000 in
theorem print_catch (c0 : Nat) (x : Value) (e q : Int) (w : World) (h0 : Blk w c0 #[x] 28) : CallsD Tryz.prog 13 #[.pointer (some ⟨c0, 0, none⟩)] (.panicking (flt e q)) w fun r u' w' => r = .returned (.tuple #[]) ∧ u' = .panicking [{ v := .iface 35 (.agg #[.int .i64 e, .int .i64 q]), recovered := true }] ∧ Blk w' c0 #[.int .i64 e] 28 ∧ (∀ k, k ≠ c0 → k < w.heap.size → w'.heap[k]? = w.heap[k]?) ∧ w'.os = w.os ∧ w'.tape = w.tape ∧ w'.output = w.output ∧ w.heap.size ≤ w'.heap.size := by
  unfold flt
  refine callsD_of_wpS Tryz.func13 rfl fun c₀ cs hu => ?_
  apply wpS_region
  simp [wpOpsS, go_sem, recoverD, hu, Tryz.ntmps13, Exit.thenS]
  refine (caught_some e q w).mono ?_
  rintro r w1 ⟨rfl, b1⟩
  have l0 := h0.lt
  replace h0 := h0.later b1
  have fz := h0.frozen 0
  have u0 := h0.cell 0
  simp only [List.getElem?_toArray, List.getElem?_cons_zero] at u0
  have hf := run_field0 (.int .i64 e) (.int .i64 q)
  obtain ⟨ks, q8⟩ := h0.set (o := 0) (.int .i64 e)
  have q9 : Blk (w1.setCell ⟨c0, 0, none⟩ (.int .i64 e)) c0 #[.int .i64 e] 28 := by simpa using q8
  have hall : ∀ k, k ≠ c0 → k < w.heap.size → (w1.setCell ⟨c0, 0, none⟩ (.int .i64 e)).heap[k]? = w.heap[k]? := fun k hk hl => (ks.other k hk).trans (b1.block k hl)
  have hso := And.intro (ks.os.trans b1.os) (And.intro (ks.tape.trans b1.tape) (And.intro (ks.output.trans b1.output) (show w.heap.size ≤ (w1.setCell ⟨c0, 0, none⟩ (.int .i64 e)).heap.size by rw [ks.size]; exact b1.size)))
  simp [wpOpsS, go_sem, hf, fz, u0]
  exact ⟨rfl, _, rfl, _, by simp [results, Tryz.results13, go_sem], rfl, rfl, q9, hall, hso⟩

set_option maxHeartbeats 4000000 in
set_option maxRecDepth 100000 in
theorem print_idle (c0 : Nat) (x : Value) (w : World) (h0 : Blk w c0 #[x] 28) : CallsD Tryz.prog 13 #[.pointer (some ⟨c0, 0, none⟩)] (.returning) w fun r u' w' => r = .returned (.tuple #[]) ∧ u' = .returning ∧ Blk w' c0 #[.int .i64 0] 28 ∧ (∀ k, k ≠ c0 → k < w.heap.size → w'.heap[k]? = w.heap[k]?) ∧ w'.os = w.os ∧ w'.tape = w.tape ∧ w'.output = w.output ∧ w.heap.size ≤ w'.heap.size := by
  refine callsD_of_wpS Tryz.func13 rfl fun c₀ cs hu => ?_
  apply wpS_region
  simp [wpOpsS, go_sem, recoverD, hu, Tryz.ntmps13, Exit.thenS]
  refine (caught_nil w).mono ?_
  rintro r w1 ⟨rfl, b1⟩
  have l0 := h0.lt
  replace h0 := h0.later b1
  have fz := h0.frozen 0
  have u0 := h0.cell 0
  simp only [List.getElem?_toArray, List.getElem?_cons_zero] at u0
  have hf := run_field0 (.int .i64 0) (.int .i64 0)
  obtain ⟨ks, q8⟩ := h0.set (o := 0) (.int .i64 0)
  have q9 : Blk (w1.setCell ⟨c0, 0, none⟩ (.int .i64 0)) c0 #[.int .i64 0] 28 := by simpa using q8
  have hall : ∀ k, k ≠ c0 → k < w.heap.size → (w1.setCell ⟨c0, 0, none⟩ (.int .i64 0)).heap[k]? = w.heap[k]? := fun k hk hl => (ks.other k hk).trans (b1.block k hl)
  have hso := And.intro (ks.os.trans b1.os) (And.intro (ks.tape.trans b1.tape) (And.intro (ks.output.trans b1.output) (show w.heap.size ≤ (w1.setCell ⟨c0, 0, none⟩ (.int .i64 0)).heap.size by rw [ks.size]; exact b1.size)))
  simp [wpOpsS, go_sem, hf, fz, u0]
  refine ⟨rfl, .returning, by cases c₀; simp_all, _, by simp [results, Tryz.results13, go_sem], rfl, rfl, q9, hall, hso⟩

end Go.Proofs.YtpfmamimhhnbiaaGreatDoor

namespace Go.Proofs.YtpfmamimhhnbiaaGreatDoor
open Go.RowKit
set_option linter.unusedVariables false
set_option linter.unusedSimpArgs false
/-- Print's error, and its text -/
noncomputable def prC (n : NdZ) : Int := if dok 1000 n = true then erZ n else 132
noncomputable def prS (n : NdZ) : List UInt8 := if prC n = 0 then txZ n else []
theorem fresh_BuF (w : World) : BuF w.heap.size w.heap.size [] (w.alloc (.cells #[.pointer none, .slice none 0 0] 41)) := Lib.IsBuilderF.of (Lib.fresh_isBuilder _ _ w)
set_option maxHeartbeats 8000000 in
set_option maxRecDepth 100000 in
theorem pprint_is {v : Value} {kids : List NdZ} (t : TokZ) (w : World) (h : ZIn w v kids) (hM : MaxL w) (hmx : mxB < w.heap.size) (hwg : wgZ (.mk t kids) ≤ 16777216) : Calls Tryz.prog 7 #[.agg #[.int .i64 t.k, .string t.t, .int .i64 t.b, .int .i64 t.e, .int .i64 t.l, .int .i64 t.c, v]] w fun r w' => r = .returned (.tuple #[.string ⟨(prS (.mk t kids)).toArray⟩, .int .i64 (prC (.mk t kids))]) ∧ Below w.heap.size w w' := by
  obtain ⟨a, c, ev⟩ := h.sh
  subst ev
  have hmf : ∀ (fn : Fn) (first cap : Array Value) (w : World), (Instr.makeFunc fn first cap).run Tryz.prog w = .ok (.func fn first cap) w := fun _ _ _ _ => rfl
  obtain ⟨d, hd⟩ : ∃ d, dok 1000 (.mk t kids) = d := ⟨_, rfl⟩
  have G1 := hideT (fun W hW => want_is h t 1000 1000 rfl W (Nat.le_refl _) hW d hd)
  have G2 := hideT (fun Bd b W h1 h2 h3 => write_is h t Bd b [] W h1 h2 h3 hM hmx hwg (by rw [List.length_nil]; omega))
  have HD := hideT hd
  clear h hM hmx hwg hd
  obtain ⟨PC, hPC⟩ : ∃ PC, prC (.mk t kids) = PC := ⟨_, rfl⟩
  obtain ⟨PX, hPX⟩ : ∃ PX, prS (.mk t kids) = PX := ⟨_, rfl⟩
  rw [hPC, hPX]
  have HPC := hideT hPC
  have HPX := hideT hPX
  clear hPC hPX
  have b1 := below_alloc (w := w) (.cells #[.int .i64 t.k, .string t.t, .int .i64 t.b, .int .i64 t.e, .int .i64 t.l, .int .i64 t.c, .slice a kids.length c] 26)
  have q1 := Blk.new w #[.int .i64 t.k, .string t.t, .int .i64 t.b, .int .i64 t.e, .int .i64 t.l, .int .i64 t.c, .slice a kids.length c] 26
  have e1 : (w.alloc (.cells #[.int .i64 t.k, .string t.t, .int .i64 t.b, .int .i64 t.e, .int .i64 t.l, .int .i64 t.c, .slice a kids.length c] 26)).heap.size = w.heap.size + 1 := by simp
  have b2 := below_alloc (w := w.alloc (.cells #[.int .i64 t.k, .string t.t, .int .i64 t.b, .int .i64 t.e, .int .i64 t.l, .int .i64 t.c, .slice a kids.length c] 26)) (.cells #[.int .i64 0] 28)
  have q2 := Blk.new (w.alloc (.cells #[.int .i64 t.k, .string t.t, .int .i64 t.b, .int .i64 t.e, .int .i64 t.l, .int .i64 t.c, .slice a kids.length c] 26)) #[.int .i64 0] 28
  have e2 : ((w.alloc (.cells #[.int .i64 t.k, .string t.t, .int .i64 t.b, .int .i64 t.e, .int .i64 t.l, .int .i64 t.c, .slice a kids.length c] 26)).alloc (.cells #[.int .i64 0] 28)).heap.size = w.heap.size + 2 := by simp
  rw [e1] at q2
  replace q1 := q1.later b2
  have bT := b1.trans (b2.mono b1.size)
  clear b1 b2
  go_enter_defers Tryz.func7, Tryz.ntmps7
  go_upto_region 1 with fail
  try rw [e1]
  generalize (w.alloc (.cells #[.int .i64 t.k, .string t.t, .int .i64 t.b, .int .i64 t.e, .int .i64 t.l, .int .i64 t.c, .slice a kids.length c] 26)).alloc (.cells #[.int .i64 0] 28) = W at q1 q2 bT e2 ⊢
  clear e1
  have x0 := q1.cell 0
  have x1 := q1.cell 1
  have x2 := q1.cell 2
  have x3 := q1.cell 3
  have x4 := q1.cell 4
  have x5 := q1.cell 5
  have x6 := q1.cell 6
  simp only [List.getElem?_toArray, List.getElem?_cons_zero, List.getElem?_cons_succ] at x0 x1 x2 x3 x4 x5 x6
  go_wp2_with fail
  refine (G1.out W bT).mono ?_
  rintro e w1 ⟨he, b1⟩
  replace q1 := q1.later b1
  replace q2 := q2.later b1
  replace bT := bT.trans (b1.mono bT.size)
  have e4 : w.heap.size + 2 ≤ w1.heap.size := by have := b1.size; omega
  clear b1 e2 x0 x1 x2 x3 x4 x5 x6
  cases d with
  | false =>
    have he2 : e = .panicked (flt 132 0) := he
    subst he2
    clear he
    have HC := hideT (show prC (.mk t kids) = 132 ∧ prS (.mk t kids) = [] by have h1 : prC (.mk t kids) = 132 := (by unfold prC; rw [HD.out]; rfl); exact ⟨h1, by unfold prS; rw [h1, if_neg (by decide)]⟩)
    have hp1 : PC = 132 := HPC.out.symm.trans HC.out.1
    have hp2 : PX = [] := HPX.out.symm.trans HC.out.2
    subst hp1
    subst hp2
    go_wp2_with fail
    refine leaves_cons (f := 13) (args := #[.pointer (some ⟨w.heap.size + 1, 0, none⟩)]) (by simp) (by simp [go_sem]) ?_
    refine (print_catch (w.heap.size + 1) _ 132 0 _ q2).mono ?_
    rintro e5 u' w4 ⟨rfl, rfl, f1, f2, f3, f4, f5, f6⟩
    have g1 := f1.cell 0
    simp only [List.getElem?_toArray, List.getElem?_cons_zero] at g1
    have bF : Below w.heap.size w w4 := ⟨f3.trans bT.os, f4.trans bT.tape, f5.trans bT.output, Nat.le_trans bT.size f6, fun k hk => (f2 k (by omega) (by have := bT.size; omega)).trans (bT.block k hk)⟩
    have BF := hideT bF
    clear bF f1 f2 f3 f4 f5 f6 q2
    simp [Leaves, settle, results, Tryz.results7, go_sem, g1]
    exact BF.out
  | true =>
    have he2 : e = .returned (.tuple #[]) := he
    subst he2
    clear he
    have HC := hideT (show prC (.mk t kids) = erZ (.mk t kids) by unfold prC; rw [HD.out, if_pos rfl])
    have hbu := fresh_BuF w1
    have bN := below_alloc (w := w1) (.cells #[.pointer none, .slice none 0 0] 41)
    replace q1 := q1.later bN
    replace q2 := q2.later bN
    replace bT := bT.trans (bN.mono bT.size)
    clear bN
    go_upto_region 4 with fail
    generalize w1.alloc (.cells #[.pointer none, .slice none 0 0] 41) = W3 at hbu q1 q2 bT ⊢
    have x0 := q1.cell 0
    have x1 := q1.cell 1
    have x2 := q1.cell 2
    have x3 := q1.cell 3
    have x4 := q1.cell 4
    have x5 := q1.cell 5
    have x6 := q1.cell 6
    simp only [List.getElem?_toArray, List.getElem?_cons_zero, List.getElem?_cons_succ] at x0 x1 x2 x3 x4 x5 x6
    go_wp2_with fail
    refine (G2.out w1.heap.size w1.heap.size W3 bT (by omega) hbu).mono ?_
    rintro e w5 ⟨he, b5, o5, u5⟩
    replace q2 : Blk w5 (w.heap.size + 1) #[.int .i64 0] 28 := (b5.block _ (by omega)).trans q2
    replace bT := bT.trans (b5.mono (by omega))
    clear b5 o5 hbu q1 x0 x1 x2 x3 x4 x5 x6
    obtain ⟨er, her⟩ : ∃ er, erZ (.mk t kids) = er := ⟨_, rfl⟩
    rw [her] at he u5
    by_cases hz : er = 0
    rotate_left
    · have he2 : e = .panicked (flt er 0) := by rw [he]; unfold wrE; rw [if_neg hz]
      subst he2
      have HC2 := hideT (show prC (.mk t kids) = er ∧ prS (.mk t kids) = [] by have h1 : prC (.mk t kids) = er := HC.out.trans her; exact ⟨h1, by unfold prS; rw [h1, if_neg hz]⟩)
      have hp1 : PC = er := HPC.out.symm.trans HC2.out.1
      have hp2 : PX = [] := HPX.out.symm.trans HC2.out.2
      subst hp1
      subst hp2
      clear he hz her u5
      go_wp2_with fail
      refine leaves_cons (f := 13) (args := #[.pointer (some ⟨w.heap.size + 1, 0, none⟩)]) (by simp) (by simp [go_sem]) ?_
      refine (print_catch (w.heap.size + 1) _ PC 0 _ q2).mono ?_
      rintro e5 u' w4 ⟨rfl, rfl, f1, f2, f3, f4, f5, f6⟩
      have g1 := f1.cell 0
      simp only [List.getElem?_toArray, List.getElem?_cons_zero] at g1
      have bF : Below w.heap.size w w4 := ⟨f3.trans bT.os, f4.trans bT.tape, f5.trans bT.output, Nat.le_trans bT.size f6, fun k hk => (f2 k (by omega) (by have := bT.size; omega)).trans (bT.block k hk)⟩
      have BF := hideT bF
      clear bF f1 f2 f3 f4 f5 f6 q2
      simp [Leaves, settle, results, Tryz.results7, go_sem, g1]
      exact BF.out
    have he2 : e = .returned (.tuple #[]) := by rw [he]; unfold wrE; rw [if_pos hz]
    subst he2
    have HC2 := hideT (show prC (.mk t kids) = 0 ∧ prS (.mk t kids) = txZ (.mk t kids) by have h1 : prC (.mk t kids) = 0 := HC.out.trans (her.trans hz); exact ⟨h1, by unfold prS; rw [if_pos h1]⟩)
    have hp1 : PC = 0 := HPC.out.symm.trans HC2.out.1
    have hp2 : PX = txZ (.mk t kids) := HPX.out.symm.trans HC2.out.2
    have G3 := hideT (wend_is _ _ _ w5 (u5 hz))
    rw [List.nil_append, ← hp2] at G3
    subst hp1
    clear he hz her u5 hp2 HPC HPX HC2 G1 G2 HC
    go_wp2_with fail
    refine G3.out.mono ?_
    rintro e w6 ⟨rfl, b6, o6⟩
    clear G3
    replace q2 : Blk w6 (w.heap.size + 1) #[.int .i64 0] 28 := (b6.block _ (by omega)).trans q2
    replace bT := bT.trans (b6.mono (by omega))
    clear b6 o6
    have fz := q2.frozen 0
    have y0 := q2.cell 0
    simp only [List.getElem?_toArray, List.getElem?_cons_zero] at y0
    go_wp2_with fail
    obtain ⟨ks, q8⟩ := q2.set (o := 0) (.int .i64 0)
    replace bT := bT.trans (ks.below (show w.heap.size ≤ w.heap.size + 1 by omega))
    replace q2 : Blk (w6.setCell ⟨w.heap.size + 1, 0, none⟩ (.int .i64 0)) (w.heap.size + 1) #[.int .i64 0] 28 := by simpa using q8
    clear ks q8 fz y0
    generalize w6.setCell ⟨w.heap.size + 1, 0, none⟩ (.int .i64 0) = w7 at q2 bT ⊢
    refine leaves_cons (f := 13) (args := #[.pointer (some ⟨w.heap.size + 1, 0, none⟩)]) (by simp) (by simp [go_sem]) ?_
    refine (print_idle (w.heap.size + 1) _ _ q2).mono ?_
    rintro e5 u' w4 ⟨rfl, rfl, f1, f2, f3, f4, f5, f6⟩
    have g1 := f1.cell 0
    simp only [List.getElem?_toArray, List.getElem?_cons_zero] at g1
    have bF : Below w.heap.size w w4 := ⟨f3.trans bT.os, f4.trans bT.tape, f5.trans bT.output, Nat.le_trans bT.size f6, fun k hk => (f2 k (by omega) (by have := bT.size; omega)).trans (bT.block k hk)⟩
    have BF := hideT bF
    clear bF f1 f2 f3 f4 f5 f6 q2
    simp [Leaves, settle, results, Tryz.results7, go_sem, g1]
    exact BF.out

end Go.Proofs.YtpfmamimhhnbiaaGreatDoor
