/-
  RatioLeast: the card, first form.
-/
import Derived.Test.YtejlnodillnoaaaGreatDoorRows
import Derived.Test.YtejlnodillnoaaaGreatDoorMem
import Derived.ProofKit
import Derived.OpenShut
import Derived.ShutString
import Derived.ChangeOld
import Derived.JoinedCond
import Derived.Deep.CondSized
import Derived.Sort.Row
import Derived.ChangeSame
import Derived.Test.YtejlnodillnoaaaGreatDoorLRLeastW
import Derived.Test.YtejlnodillnoaaaGreatDoorCards
import Derived.Test.YtejlnodillnoaaaGreatDoorTie
import Derived.Deep.DeepHandedRow
import Derived.Lib.LaidTab
namespace Go.Proofs.YtejlnodillnoaaaGreatDoor
open Go.ChangeShapes Go.WideShapes Go.ChangeAt Go.RowKit
set_option linter.unusedVariables false

theorem own : ownKnob Tryz.prog.godebug = none := by kernel_rfl
theorem laidOut : laidOutB Tryz.prog = true := by kernel_rfl
theorem bytes_u32 : Tryz.prog.bytesOf 60 = 4 := by kernel_rfl

/-- a list of limbs, as a number -/
def valL : List Int → Nat
  | [] => 0
  | z :: r => valL r * BB + z.toNat

theorem valL_lt : ∀ (l : List Int), (∀ z ∈ l, 0 ≤ z ∧ z < 4294967296) → valL l < BB ^ l.length
  | [], _ => by simp [valL]
  | z :: r, h => by
    have h1 := valL_lt r fun x hx => h x (List.mem_cons_of_mem _ hx)
    have h2 := h z List.mem_cons_self
    simp only [valL, List.length_cons, pow_succ']
    have : (valL r + 1) * BB ≤ BB ^ r.length * BB := Nat.mul_le_mul_right _ h1
    rw [Nat.add_mul, BB_eq] at this
    rw [BB_eq]
    omega

theorem valL_dg : ∀ (l : List Int) (i : Nat), (∀ z ∈ l, 0 ≤ z ∧ z < 4294967296) → i < l.length → ((dg (valL l) i : Nat) : Int) = l.getD i 0
  | [], i, _, hi => absurd hi (by simp)
  | z :: r, i, h, hi => by
    have h2 := h z List.mem_cons_self
    simp only [valL]
    cases i with
    | zero =>
      rw [dg0, ← BB_eq, Nat.mul_comm, Nat.mul_add_mod, BB_eq, Nat.mod_eq_of_lt (by omega)]
      simp; omega
    | succ i =>
      have e : dg (valL r * BB + z.toNat) (i + 1) = dg (valL r) i := by
        have := dg_hi (valL r) z.toNat (i + 1) 1 (by omega) (by rw [Nat.pow_one, BB_eq]; omega)
        rw [Nat.pow_one] at this
        exact this
      rw [e, valL_dg r i (fun x hx => h x (List.mem_cons_of_mem _ hx)) (by simpa using hi)]
      simp

theorem wf_u32 {n : Int} (h : (Lit.int .u32 n).wf = true) : 0 ≤ n ∧ n < 4294967296 := by
  have := bounds_u32 h
  omega

set_option maxRecDepth 30000 in
theorem open_nat {H : Type} {enc : TypeId × Value → H} {W : World} {a : Option Addr} {len cap : Nat} {d : DataW H} {p : List MemPlace} {t : TypeId} (ht : Tryz.prog.underlying t = some (.slice 60))
    (h : DataW.Trod enc Tryz.prog W 0 (fun _ => true) true t (.slice a len cap) d p) (hsz : ∀ elems spare, d = .slice elems spare → (elems.length + spare.length) * Tryz.prog.bytesOf 60 ≤ reachBytes) :
    ∃ X, Seg W a X len ∧ len ≤ cap ∧ len ≤ 35184372087808 ∧ len + 1 ≤ Rows.uptoBulk d := by
  obtain ⟨fuel, hf⟩ := h
  rcases open_ints ht Tryz.underlying60 (by kernel_rfl) hf with ⟨hcs, hx⟩ | ⟨x, l, c, zs, hcs, _, hl, hm, hz, hx, hcell, hwz⟩
  · simp [Value.cells] at hcs
    obtain ⟨rfl, rfl, rfl⟩ := hcs
    simp only [Prod.mk.injEq] at hx
    obtain ⟨rfl, rfl⟩ := hx
    exact ⟨0, Seg.nil _ _, Nat.le_refl _, by omega, by simp [Rows.uptoBulk]⟩
  · simp [Value.cells] at hcs
    obtain ⟨rfl, rfl, rfl⟩ := hcs
    simp only [Prod.mk.injEq] at hx
    obtain ⟨rfl, rfl⟩ := hx
    simp only [if_true] at hz
    have hs := hsz _ _ rfl
    rw [bytes_u32] at hs
    simp only [lits, List.length_map, List.length_take, List.length_drop, reachBytes] at hs
    have hlim : ∀ z ∈ zs.take len, 0 ≤ z ∧ z < 4294967296 := fun z hz' => wf_u32 (hwz z (List.mem_of_mem_take hz'))
    have hlen : (zs.take len).length = len := by simp; omega
    have hbulk : ∀ (l : List Int), l.length ≤ Rows.uptoBulkAll (lits (H := H) .u32 l) := by
      intro l
      induction l with
      | nil => simp [lits, Rows.uptoBulkAll]
      | cons z r ih => simp only [lits, List.map_cons, Rows.uptoBulkAll, Rows.uptoBulk, List.length_cons] at ih ⊢; omega
    refine ⟨valL (zs.take len), ⟨by have := valL_lt _ hlim; rwa [hlen] at this, fun hn => ?_⟩, hl, by omega, ?_⟩
    · obtain ⟨b, off, spot⟩ := x
      have hspot : spot = none := by simpa [Addr.add] using World.cell?_spot (hcell 0 (by omega))
      subst hspot
      have hc : ∀ i, i < len → W.cell? ⟨b, off + i, none⟩ = some (.int .u32 (dg (valL (zs.take len)) i : Nat)) := by
        intro i hi
        have h1 := hcell i (by omega)
        have ea : (Addr.mk b off none).add i = ⟨b, off + i, none⟩ := by unfold Addr.add; split <;> simp_all
        rw [ea] at h1
        rw [h1, valL_dg _ _ hlim (by omega)]
        congr 2
        simp [hi]
      refine ⟨b, off, rfl, ?_, hc⟩
      have := hc 0 hn
      obtain ⟨cur, e, fr, hb, _⟩ := Sort.cells_of_cell? this
      exact (Array.getElem?_eq_some_iff.1 hb).1
    · have := hbulk (zs.take len)
      simp only [Rows.uptoBulk]
      omega
end Go.Proofs.YtejlnodillnoaaaGreatDoor

namespace Go.Proofs.YtejlnodillnoaaaGreatDoor
open Go.ChangeShapes Go.WideShapes Go.ChangeAt Go.RowKit
set_option linter.unusedVariables false

theorem under_Int : ∃ f0 f1 : Field, Tryz.prog.underlying 25 = some (.struct #[f0, f1]) ∧ f0.type = 4 ∧ f1.type = 23 ∧ f0.offset = 0 ∧ f1.offset = 1 :=
  ⟨_, _, Tryz.underlying25, rfl, rfl, rfl, rfl⟩
theorem cells_bool : Tryz.prog.cellsOf 4 = 1 := by kernel_rfl
theorem cells_nat : Tryz.prog.cellsOf 23 = 1 := by kernel_rfl
theorem cells_Int : Tryz.prog.cellsOf 25 = 2 := by kernel_rfl

set_option maxRecDepth 100000 in
theorem open_Int {H : Type} {enc : TypeId × Value → H} {W : World} {r : Reach} {b0 : Nat} {v : Value} {d : DataW H} {p : List MemPlace}
    (hv : Value.okWide Tryz.prog W r b0 25 v) (h : DataW.Trod enc Tryz.prog W 0 (fun _ => true) true 25 v d p)
    (hsz : (d.weights Tryz.prog 25).all (· ≤ reachBytes) = true) :
    ∃ s a len cap X, v = .agg #[.bool s, .slice a len cap] ∧ Seg W a X len ∧ len ≤ cap ∧ len ≤ 35184372087808 ∧ len + 1 ≤ Rows.uptoBulk d := by
  obtain ⟨cs, rfl, hcs⟩ := okWide_struct Tryz.underlying25 hv
  obtain ⟨fuel, hf⟩ := h
  obtain ⟨y0, y1, n, hx, hl, h0, h1⟩ := trod_struct2 Tryz.underlying25 hf
  rw [cells_Int] at hcs
  obtain ⟨c0, c1, rfl⟩ : ∃ c0 c1, cs = #[c0, c1] := by
    match cs, hcs with
    | ⟨[c0, c1]⟩, _ => exact ⟨c0, c1, rfl⟩
  simp only [Value.cells, List.drop_zero, cells_bool, cells_nat] at h0 h1
  change DataW.trod enc _ _ _ _ _ n 4 [c0] = _ at h0
  change DataW.trod enc _ _ _ _ _ n 23 [c1] = _ at h1
  obtain ⟨b', hb, hx0⟩ := DataW.trod_bool Tryz.underlying4 h0
  simp only [List.cons.injEq, and_true] at hb
  subst hb hx0
  simp only [Prod.mk.injEq] at hx
  obtain ⟨rfl, rfl⟩ := hx
  have hc1 : ∃ a len cap, c1 = .slice a len cap := by
    rcases open_ints A_under_nat Tryz.underlying60 (by kernel_rfl) h1 with ⟨hcs, _⟩ | ⟨x, l, c, zs, hcs, _⟩
    · simp at hcs; exact ⟨_, _, _, hcs⟩
    · simp at hcs; exact ⟨_, _, _, hcs⟩
  obtain ⟨a, len, cap, rfl⟩ := hc1
  obtain ⟨y1d, y1p⟩ := y1
  obtain ⟨X, hS, hc, hb, hu⟩ := open_nat (len := len) (cap := cap) (a := a) (d := y1d) (p := y1p) A_under_nat ⟨n, h1⟩ (fun elems spare e => by
    have e' : y1d = .slice elems spare := e
    subst e'
    have hu := Tryz.underlying25
    simp only [DataW.weights, hu, DataW.weightsEach, List.map] at hsz
    simp only [List.all_append, Bool.and_eq_true] at hsz
    have h2 := hsz.2.1
    simp only [A_under_nat] at h2
    simp only [List.all_cons, Bool.and_eq_true, decide_eq_true_eq] at h2
    exact h2.1)
  exact ⟨b', a, len, cap, X, rfl, hS, hc, hb, by simp only [Rows.uptoBulk, Rows.uptoBulkAll] at hu ⊢; omega⟩

/-- the weights of the argument j -/
theorem sized_at {H : Type} {P : Program} : ∀ {ts : List TypeId} {ds : List (DataW H)} (j : Nat) {t : TypeId} {d : DataW H}, (DataW.weightsEach P ts ds).all (· ≤ reachBytes) = true → ts[j]? = some t → ds[j]? = some d → (d.weights P t).all (· ≤ reachBytes) = true := by
  intro ts ds j t d h ht hd
  rw [List.all_eq_true] at h ⊢
  exact fun x hx => h x (DataW.weights_mem_each ht hd x hx)
end Go.Proofs.YtejlnodillnoaaaGreatDoor

namespace Go.Proofs.YtejlnodillnoaaaGreatDoor
open Go.ChangeShapes Go.WideShapes Go.ChangeAt Go.RowKit
set_option linter.unusedVariables false

theorem cells_Rat : Tryz.prog.cellsOf 27 = 3 := by kernel_rfl
set_option maxRecDepth 100000 in
theorem open_Int2 {H : Type} {enc : TypeId × Value → H} {W : World} {c0 c1 : Value} {d : DataW H} {p : List MemPlace}
    (h : DataW.Trod enc Tryz.prog W 0 (fun _ => true) true 25 (.agg #[c0, c1]) d p)
    (hsz : (d.weights Tryz.prog 25).all (· ≤ reachBytes) = true) :
    ∃ s a len cap X, c0 = .bool s ∧ c1 = .slice a len cap ∧ Seg W a X len ∧ len ≤ cap ∧ len ≤ 35184372087808 ∧ len + 1 ≤ Rows.uptoBulk d := by
  obtain ⟨fuel, hf⟩ := h
  obtain ⟨y0, y1, n, hx, hl, h0, h1⟩ := trod_struct2 Tryz.underlying25 hf
  simp only [Value.cells, List.drop_zero, cells_bool, cells_nat] at h0 h1
  change DataW.trod enc _ _ _ _ _ n 4 [c0] = _ at h0
  change DataW.trod enc _ _ _ _ _ n 23 [c1] = _ at h1
  obtain ⟨b', hb, hx0⟩ := DataW.trod_bool Tryz.underlying4 h0
  simp only [List.cons.injEq, and_true] at hb
  subst hb hx0
  simp only [Prod.mk.injEq] at hx
  obtain ⟨rfl, rfl⟩ := hx
  have hc1 : ∃ a len cap, c1 = .slice a len cap := by
    rcases open_ints A_under_nat Tryz.underlying60 (by kernel_rfl) h1 with ⟨hcs, _⟩ | ⟨x, l, c, zs, hcs, _⟩
    · simp at hcs; exact ⟨_, _, _, hcs⟩
    · simp at hcs; exact ⟨_, _, _, hcs⟩
  obtain ⟨a, len, cap, rfl⟩ := hc1
  obtain ⟨y1d, y1p⟩ := y1
  obtain ⟨X, hS, hc, hb, hu⟩ := open_nat (len := len) (cap := cap) (a := a) (d := y1d) (p := y1p) A_under_nat ⟨n, h1⟩ (fun elems spare e => by
    have e' : y1d = .slice elems spare := e
    subst e'
    have hu := Tryz.underlying25
    simp only [DataW.weights, hu, DataW.weightsEach, List.map] at hsz
    simp only [List.all_append, Bool.and_eq_true] at hsz
    have h2 := hsz.2.1
    simp only [A_under_nat] at h2
    simp only [List.all_cons, Bool.and_eq_true, decide_eq_true_eq] at h2
    exact h2.1)
  exact ⟨b', a, len, cap, X, rfl, rfl, hS, hc, hb, by simp only [Rows.uptoBulk, Rows.uptoBulkAll] at hu ⊢; omega⟩


set_option maxRecDepth 100000 in
theorem open_Rat {H : Type} {enc : TypeId × Value → H} {W : World} {r : Reach} {b0 : Nat} {v : Value} {d : DataW H} {p : List MemPlace}
    (hv : Value.okWide Tryz.prog W r b0 27 v) (h : DataW.Trod enc Tryz.prog W 0 (fun _ => true) true 27 v d p)
    (hsz : (d.weights Tryz.prog 27).all (· ≤ reachBytes) = true) :
    ∃ s a n c X b m e Y, v = .agg #[.bool s, .slice a n c, .slice b m e] ∧ Seg W a X n ∧ n ≤ c ∧ n ≤ 35184372087808 ∧ Seg W b Y m ∧ m ≤ e ∧ m ≤ 35184372087808 ∧ n + 1 ≤ Rows.uptoBulk d ∧ m + 1 ≤ Rows.uptoBulk d := by
  obtain ⟨cs, rfl, hcs⟩ := okWide_struct Tryz.underlying27 hv
  obtain ⟨fuel, hf⟩ := h
  obtain ⟨y0, y1, n, hx, hl, h0, h1⟩ := trod_struct2 Tryz.underlying27 hf
  rw [cells_Rat] at hcs
  obtain ⟨c0, c1, c2, rfl⟩ : ∃ c0 c1 c2, cs = #[c0, c1, c2] := by
    match cs, hcs with
    | ⟨[c0, c1, c2]⟩, _ => exact ⟨c0, c1, c2, rfl⟩
  simp only [Value.cells, List.drop_zero, cells_Int, cells_nat] at h0 h1
  change DataW.trod enc _ _ _ _ _ n 25 [c0, c1] = _ at h0
  change DataW.trod enc _ _ _ _ _ n 23 [c2] = _ at h1
  simp only [Prod.mk.injEq] at hx
  obtain ⟨rfl, rfl⟩ := hx
  have hc2 : ∃ a len cap, c2 = .slice a len cap := by
    rcases open_ints A_under_nat Tryz.underlying60 (by kernel_rfl) h1 with ⟨hcs, _⟩ | ⟨x, l, c, zs, hcs, _⟩
    · simp at hcs; exact ⟨_, _, _, hcs⟩
    · simp at hcs; exact ⟨_, _, _, hcs⟩
  obtain ⟨b, m, e, rfl⟩ := hc2
  obtain ⟨y0d, y0p⟩ := y0
  obtain ⟨y1d, y1p⟩ := y1
  have hu := Tryz.underlying27
  simp only [DataW.weights, hu, DataW.weightsEach, List.map] at hsz
  simp only [List.all_append, Bool.and_eq_true] at hsz
  obtain ⟨s, a, len, cap, X, rfl, rfl, hS, hc, hb, hu0⟩ := open_Int2 (c0 := c0) (c1 := c1) (d := y0d) (p := y0p) ⟨n, h0⟩ hsz.1
  obtain ⟨Y, hT, hd, hk, hu1⟩ := open_nat (len := m) (cap := e) (a := b) (d := y1d) (p := y1p) A_under_nat ⟨n, h1⟩ (fun elems spare e => by
    have e' : y1d = .slice elems spare := e
    subst e'
    have h2 := hsz.2.1
    simp only [DataW.weights, A_under_nat] at h2
    simp only [List.all_cons, Bool.and_eq_true, decide_eq_true_eq] at h2
    exact h2.1)
  exact ⟨s, a, len, cap, X, b, m, e, Y, rfl, hS, hc, hb, hT, hd, hk, by simp only [Rows.uptoBulk, Rows.uptoBulkAll] at hu0 hu1 ⊢; omega, by simp only [Rows.uptoBulk, Rows.uptoBulkAll] at hu0 hu1 ⊢; omega⟩
end Go.Proofs.YtejlnodillnoaaaGreatDoor

namespace Go.Proofs.YtejlnodillnoaaaGreatDoor.ratioLeast
open Go.ChangeShapes Go.WideShapes Go.ChangeAt Go.RowKit Go.Proofs.YtejlnodillnoaaaGreatDoor
set_option linter.unusedVariables false
theorem gTab : Tryz.prog.globalNamed "fulcrum/nat.digits" = some 1 := by kernel_rfl
theorem gTabType : (Tryz.prog.globals[1]?).map (·.type) = some 142 := by kernel_rfl
theorem cellsA : Tryz.prog.cellsOf 142 = 16 := by kernel_rfl
theorem cells8 : Tryz.prog.cellsOf 5 = 1 := by kernel_rfl
theorem table {W : World} (h : laidMetH Tryz.prog Rows.ratioLeastRow.laid W) : Lib.TabIs Tryz.prog W "fulcrum/nat.digits" .u8 [48, 49, 50, 51, 52, 53, 54, 55, 56, 57, 97, 98, 99, 100, 101, 102] :=
  Lib.tabIs_of_head (rest := []) gTab gTabType Tryz.underlying142 Tryz.underlying5 cells8 cellsA h
theorem digits_of {W : World} (h : laidMetH Tryz.prog Rows.ratioLeastRow.laid W) : Digits W :=
  ⟨(table h).cell gTab 0 (by decide), (table h).cell gTab 1 (by decide), (table h).cell gTab 2 (by decide), (table h).cell gTab 3 (by decide), (table h).cell gTab 4 (by decide)⟩

set_option maxRecDepth 100000 in
theorem contract (H : Type) (enc : TypeId × Value → H) (W : World) (base : Nat) (args : Array Value) (ds gs : List (DataW H)) (before : List MemPlace)
    (hval : ∀ (j : Nat) t v, Tryz.f4.params[j]? = some t → args[j]? = some v → Value.okWide Tryz.prog W .any base t v)
    (hW : DataW.Whole enc Tryz.prog Tryz.f4.params.toList Rows.ratioLeastSpec.vars false W args.toList ds gs before)
    (hsz : (DataW.weightsEach Tryz.prog (Tryz.f4.params.toList ++ Rows.ratioLeastSpec.plain.varTypes Tryz.prog) (ds ++ gs)).all (· ≤ reachBytes) = true) (hL : laidMetH Tryz.prog Rows.ratioLeastRow.laid W) :
    Calls Tryz.prog 4 args W fun e W' => ∃ v, e = .returned v ∧ Rows.ratioLeastSpec.post enc Tryz.prog Tryz.f4 false true false false W args v W' := by
  have hW' := hW
  obtain ⟨p, q, hA0, hV, rfl, hfz, hnd⟩ := hW
  have hA : DataW.TrodAll enc Tryz.prog W 0 (fun _ => true) true Tryz.f4.params.toList args.toList ds p := hA0
  rw [Tryz.params4] at hA hval hsz
  obtain ⟨v0, vs0, d0, ds0, p0, q0, hargs, rfl, rfl, h0, r0⟩ := trodAll_cons hA
  obtain ⟨v1, vs1, d1, ds1, p1, q1, rfl, rfl, rfl, h1, r1⟩ := trodAll_cons r0
  obtain ⟨v2, vs2, d2, ds2, p2, q2, rfl, rfl, rfl, h2, r2⟩ := trodAll_cons r1
  obtain ⟨rfl, rfl, rfl⟩ := trodAll_nil r2
  obtain rfl : args = #[v0, v1, v2] := by cases args; simp_all
  obtain ⟨rfl, rfl⟩ := trodVars_none hV
  have lt0 : ∀ x ∈ p0, x.block < W.heap.size := by obtain ⟨m, hm⟩ := h0; exact DataW.trod_lt m _ _ _ hm
  obtain ⟨rs0, ra0, rn0, rc0, rX0, rb0, rm0, re0, rY0, rfl, hS0, hc0, hb0, hT0, hd0, hk0, hu0, hv0⟩ := open_Rat (hval 0 27 v0 rfl rfl) h0 (sized_at 0 hsz rfl rfl)
  have lt1 : ∀ x ∈ p1, x.block < W.heap.size := by obtain ⟨m, hm⟩ := h1; exact DataW.trod_lt m _ _ _ hm
  obtain ⟨rs1, ra1, rn1, rc1, rX1, rb1, rm1, re1, rY1, rfl, hS1, hc1, hb1, hT1, hd1, hk1, hu1, hv1⟩ := open_Rat (hval 1 27 v1 rfl rfl) h1 (sized_at 1 hsz rfl rfl)
  have lt2 : ∀ x ∈ p2, x.block < W.heap.size := by obtain ⟨m, hm⟩ := h2; exact DataW.trod_lt m _ _ _ hm
  obtain ⟨rs2, ra2, rn2, rc2, rX2, rb2, rm2, re2, rY2, rfl, hS2, hc2, hb2, hT2, hd2, hk2, hu2, hv2⟩ := open_Rat (hval 2 27 v2 rfl rfl) h2 (sized_at 2 hsz rfl rfl)
  clear hA0
  simp only [List.append_nil] at hW'
  refine (walk rs0 ra0 rn0 rc0 rX0 rb0 rm0 re0 rY0 rs1 ra1 rn1 rc1 rX1 rb1 rm1 re1 rY1 rs2 ra2 rn2 rc2 rX2 rb2 rm2 re2 rY2 W hc0 hb0 hS0 hd0 hk0 hT0 hc1 hb1 hS1 hd1 hk1 hT1 hc2 hb2 hS2 hd2 hk2 hT2 (digits_of hL)).mono fun e W' ⟨he, bel⟩ => ?_
  subst he
  exact ⟨_, rfl, _, _, _, [], _, [], hW', trodAll_mk1 (shut_bool Tryz.underlying4 _), (trodAll_cons_mk (Below.trod laidOut (by kernel_rfl) (of_decide_eq_true (by kernel_rfl)) h0 bel lt0) (trodAll_cons_mk (Below.trod laidOut (by kernel_rfl) (of_decide_eq_true (by kernel_rfl)) h1 bel lt1) (trodAll_cons_mk (Below.trod laidOut (by kernel_rfl) (of_decide_eq_true (by kernel_rfl)) h2 bel lt2) trodAll_mk0))), rfl, bel.frame _, fun h => by cases h⟩

def setCells (cs : Array Value) : Obj → Obj
  | .cells _ t frozen => .cells cs t frozen
  | o => o
set_option maxRecDepth 100000 in
noncomputable def laidWorld (os : Os) : World :=
  { World.holding Tryz.prog os ⟨#[], #[], []⟩ with heap := ((World.holding Tryz.prog os ⟨#[], #[], []⟩).heap.modify 1 (setCells #[.int .u8 48, .int .u8 49, .int .u8 50, .int .u8 51, .int .u8 52, .int .u8 53, .int .u8 54, .int .u8 55, .int .u8 56, .int .u8 57, .int .u8 97, .int .u8 98, .int .u8 99, .int .u8 100, .int .u8 101, .int .u8 102])) }
set_option maxRecDepth 100000 in
theorem laid_met (os : Os) : laidMet Tryz.prog Rows.ratioLeastRow.laid ((laidWorld os).forCall (fun _ _ => 0) ⟨#[], #[.agg #[.bool false, .slice none 0 0, .slice none 0 0], .agg #[.bool false, .slice none 0 0, .slice none 0 0], .agg #[.bool false, .slice none 0 0, .slice none 0 0]], []⟩).memory :=
  laidMet_of_run' 8 (by kernel_rfl) (by kernel_rfl)
theorem reads (os : Os) {H : Type} (enc : TypeId × Value → H) : ∃ places, DataW.whole enc Tryz.prog ((laidWorld os).forCall (fun _ _ => 0) ⟨#[], #[.agg #[.bool false, .slice none 0 0, .slice none 0 0], .agg #[.bool false, .slice none 0 0, .slice none 0 0], .agg #[.bool false, .slice none 0 0, .slice none 0 0]], []⟩).memory Tryz.f4.params.toList Rows.ratioLeastSpec.vars false [Value.agg #[.bool false, .slice none 0 0, .slice none 0 0], Value.agg #[.bool false, .slice none 0 0, .slice none 0 0], Value.agg #[.bool false, .slice none 0 0, .slice none 0 0]] 8 = some ([.agg [.agg [.lit (.bool false), .nil], .nil], .agg [.agg [.lit (.bool false), .nil], .nil], .agg [.agg [.lit (.bool false), .nil], .nil]], [], places) :=
  ⟨[], by kernel_rfl⟩

set_option maxRecDepth 100000 in
theorem liftedUpto (os : Os) (started : os.Started) (H : Type) (enc : TypeId × Value → H) (F : Stop.Interp) :
    ReturnsInHanded {} Tryz.checked os 4 .any ((OpenSpec.ofChange Rows.ratioLeastSpec).preRow enc Tryz.prog Tryz.f4 Rows.ratioLeastRow.domain false Rows.ratioLeastRow.laid) (((OpenSpec.ofChange Rows.ratioLeastSpec).at F).post enc Tryz.prog Tryz.f4 false true false false) := by
  obtain ⟨places, hx⟩ := reads os enc
  refine returnsInHanded_of_row (C := Tryz.checked) (s := OpenSpec.ofChange Rows.ratioLeastSpec) own started (by kernel_rfl) Tryz.func4
    (witness_row_at (enc := enc) (C := Tryz.checked) false (laidWorld os) #[.agg #[.bool false, .slice none 0 0, .slice none 0 0], .agg #[.bool false, .slice none 0 0, .slice none 0 0], .agg #[.bool false, .slice none 0 0, .slice none 0 0]] rfl (by kernel_rfl) (by kernel_rfl) (by kernel_rfl)
      (OpenSpec.preRow_of_cond 8 hx (by kernel_rfl) (fun k hk => by cases hk) (by kernel_rfl) (laid_met os))) ?_
  intro W base args ds gs before hval hW _ hk hsz hL hSh _
  exact contract H enc W base args ds gs before hval hW hsz hL

theorem saidUpto : Rows.RatioLeastSaid :=
  OpenClaim.holds_of_cond 4 Tryz.f4 rfl rfl rfl rfl rfl rfl rfl ⟨rfl, rfl, rfl, rfl, rfl⟩ rfl rfl rfl rfl rfl (by kernel_rfl) Tryz.func4 (by kernel_rfl)
    (of_decide_eq_true (by kernel_rfl)) (by unfold Func.isWrapper; first | (rw [if_pos (by decide +kernel)]; kernel_rfl) | (rw [if_neg (by decide +kernel)]; exact ⟨rfl, rfl⟩))
    (fun os started H enc _ F => by rw [OpenClaim.pre_eq_preRow]; exact liftedUpto os started H enc F)

theorem plain (f : FuncId) (fn : Func) (hf : Tryz.pinned.checked.prog.funcNamed "fulcrum/fulcrumlaw03.RatioLeast" = some f) (hfn : Tryz.pinned.checked.prog.funcs[f]? = some fn) :
    false = Tryz.pinned.checked.prog.looks [] ∧ ∀ (j : Nat) t, fn.params[j]? = some t → Tryz.pinned.checked.prog.wantsStandIn t = false := by
  obtain rfl : f = 4 := Option.some.inj ((show Tryz.prog.funcNamed "fulcrum/fulcrumlaw03.RatioLeast" = some 4 by kernel_rfl).symm.trans hf) |>.symm
  obtain rfl : fn = Tryz.f4 := (Option.some.inj (Tryz.func4.symm.trans hfn)).symm
  refine ⟨by kernel_rfl, fun j t ht => ?_⟩
  rw [Tryz.params4] at ht
  have hm := Array.mem_of_getElem? ht
  simp only [List.mem_toArray, List.mem_cons, List.not_mem_nil, or_false] at hm
  rcases hm with rfl | rfl | rfl
  · exact (show Tryz.prog.wantsStandIn 27 = false by kernel_rfl)
  · exact (show Tryz.prog.wantsStandIn 27 = false by kernel_rfl)
  · exact (show Tryz.prog.wantsStandIn 27 = false by kernel_rfl)

theorem cardUpto : Rows.RatioLeastCardSaid :=
  Claim7.holds_tied_plain_at .later [] _ _ _ _ saidUpto (fun _ h => by cases h) (by kernel_rfl) (fun _ h => by cases h) ratioLeast_row_tie rfl ⟨rfl, rfl⟩ (by kernel_rfl) rfl plain (by kernel_rfl)
end Go.Proofs.YtejlnodillnoaaaGreatDoor.ratioLeast
namespace Go.Proofs.YtejlnodillnoaaaGreatDoor
theorem ratioLeast_holds : Rows.RatioLeastCardSaid := ratioLeast.cardUpto
#print axioms ratioLeast_holds
end Go.Proofs.YtejlnodillnoaaaGreatDoor
