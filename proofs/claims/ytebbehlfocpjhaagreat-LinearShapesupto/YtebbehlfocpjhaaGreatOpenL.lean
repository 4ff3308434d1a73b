import Derived.Test.YtebbehlfocpjhaaGreatRows
import Derived.Test.YtebbehlfocpjhaaGreatMem
import Derived.ProofKit
import Derived.OpenShut
import Derived.ShutString
import Derived.ChangeOld
import Derived.JoinedCond
import Derived.Deep.CondSized
import Derived.Sort.Row
import Derived.ChangeSame
import Derived.Deep.Slices
set_option linter.unusedSimpArgs false
namespace Go.Proofs.YtebbehlfocpjhaaGreat
open Go.ChangeShapes Go.WideShapes Go.ChangeAt Go.RowKit
set_option linter.unusedVariables false
theorem own : ownKnob Tryz.prog.godebug = none := by kernel_rfl
theorem laidOut : laidOutB Tryz.prog = true := by kernel_rfl
theorem bytes_u32 : Tryz.prog.bytesOf 68 = 4 := by kernel_rfl
def valL : List Int → Nat
  | [] => 0
  | z :: r => valL r * BB + z.toNat
theorem valL_lt : ∀ (l : List Int), (∀ z ∈ l, 0 ≤ z ∧ z < 4294967296) → valL l < BB ^ l.length
  | [], _ => by simp [valL]
  | z :: r, h => by
    have h1 := valL_lt r fun x hx => h x (List.mem_cons_of_mem _ hx)
    have h2 := h z List.mem_cons_self
    simp only [valL, List.length_cons, pow_succ']
    have : (valL r + 1) * BB ≤ BB ^ r.length * BB := Nat.mul_le_mul_right _ h1
    rw [Nat.add_mul, BB_eq] at this
    rw [BB_eq]
    omega
theorem valL_dg : ∀ (l : List Int) (i : Nat), (∀ z ∈ l, 0 ≤ z ∧ z < 4294967296) → i < l.length → ((dg (valL l) i : Nat) : Int) = l.getD i 0
  | [], i, _, hi => absurd hi (by simp)
  | z :: r, i, h, hi => by
    have h2 := h z List.mem_cons_self
    simp only [valL]
    cases i with
    | zero =>
      rw [dg0, ← BB_eq, Nat.mul_comm, Nat.mul_add_mod, BB_eq, Nat.mod_eq_of_lt (by omega)]
      simp; omega
    | succ i =>
      have e : dg (valL r * BB + z.toNat) (i + 1) = dg (valL r) i := by
        have := dg_hi (valL r) z.toNat (i + 1) 1 (by omega) (by rw [Nat.pow_one, BB_eq]; omega)
        rw [Nat.pow_one] at this
        exact this
      rw [e, valL_dg r i (fun x hx => h x (List.mem_cons_of_mem _ hx)) (by simpa using hi)]
      simp
theorem wf_u32 {n : Int} (h : (Lit.int .u32 n).wf = true) : 0 ≤ n ∧ n < 4294967296 := by
  have := bounds_u32 h
  omega
set_option maxRecDepth 30000 in
theorem open_nat {H : Type} {enc : TypeId × Value → H} {W : World} {a : Option Addr} {len cap : Nat} {d : DataW H} {p : List MemPlace} {t : TypeId} (ht : Tryz.prog.underlying t = some (.slice 68))
    (h : DataW.Trod enc Tryz.prog W 0 (fun _ => true) true t (.slice a len cap) d p) (hsz : ∀ elems spare, d = .slice elems spare → (elems.length + spare.length) * Tryz.prog.bytesOf 68 ≤ reachBytes) :
    ∃ X, Seg W a X len ∧ len ≤ cap ∧ len ≤ 35184372087808 ∧ len + 1 ≤ Rows.uptoBulk d := by
  obtain ⟨fuel, hf⟩ := h
  rcases open_ints ht Tryz.underlying68 (by kernel_rfl) hf with ⟨hcs, hx⟩ | ⟨x, l, c, zs, hcs, _, hl, hm, hz, hx, hcell, hwz⟩
  · simp [Value.cells] at hcs
    obtain ⟨rfl, rfl, rfl⟩ := hcs
    simp only [Prod.mk.injEq] at hx
    obtain ⟨rfl, rfl⟩ := hx
    exact ⟨0, Seg.nil _ _, Nat.le_refl _, by omega, by simp [Rows.uptoBulk]⟩
  · simp [Value.cells] at hcs
    obtain ⟨rfl, rfl, rfl⟩ := hcs
    simp only [Prod.mk.injEq] at hx
    obtain ⟨rfl, rfl⟩ := hx
    simp only [if_true] at hz
    have hs := hsz _ _ rfl
    rw [bytes_u32] at hs
    simp only [lits, List.length_map, List.length_take, List.length_drop, reachBytes] at hs
    have hlim : ∀ z ∈ zs.take len, 0 ≤ z ∧ z < 4294967296 := fun z hz' => wf_u32 (hwz z (List.mem_of_mem_take hz'))
    have hlen : (zs.take len).length = len := by simp; omega
    have hbulk : ∀ (l : List Int), l.length ≤ Rows.uptoBulkAll (lits (H := H) .u32 l) := by
      intro l
      induction l with
      | nil => simp [lits, Rows.uptoBulkAll]
      | cons z r ih => simp only [lits, List.map_cons, Rows.uptoBulkAll, Rows.uptoBulk, List.length_cons] at ih ⊢; omega
    refine ⟨valL (zs.take len), ⟨by have := valL_lt _ hlim; rwa [hlen] at this, fun hn => ?_⟩, hl, by omega, ?_⟩
    · obtain ⟨b, off, spot⟩ := x
      have hspot : spot = none := by simpa [Addr.add] using World.cell?_spot (hcell 0 (by omega))
      subst hspot
      have hc : ∀ i, i < len → W.cell? ⟨b, off + i, none⟩ = some (.int .u32 (dg (valL (zs.take len)) i : Nat)) := by
        intro i hi
        have h1 := hcell i (by omega)
        have ea : (Addr.mk b off none).add i = ⟨b, off + i, none⟩ := by unfold Addr.add; split <;> simp_all
        rw [ea] at h1
        rw [h1, valL_dg _ _ hlim (by omega)]
        congr 2
        simp [hi]
      refine ⟨b, off, rfl, ?_, hc⟩
      have := hc 0 hn
      obtain ⟨cur, e, fr, hb, _⟩ := Sort.cells_of_cell? this
      exact (Array.getElem?_eq_some_iff.1 hb).1
    · have := hbulk (zs.take len)
      simp only [Rows.uptoBulk]
      omega
theorem cells_bool : Tryz.prog.cellsOf 4 = 1 := by kernel_rfl
theorem cells_nat : Tryz.prog.cellsOf 25 = 1 := by kernel_rfl
theorem cells_Int : Tryz.prog.cellsOf 27 = 2 := by kernel_rfl
theorem sized_at {H : Type} {P : Program} : ∀ {ts : List TypeId} {ds : List (DataW H)} (j : Nat) {t : TypeId} {d : DataW H}, (DataW.weightsEach P ts ds).all (· ≤ reachBytes) = true → ts[j]? = some t → ds[j]? = some d → (d.weights P t).all (· ≤ reachBytes) = true := by
  intro ts ds j t d h ht hd
  rw [List.all_eq_true] at h ⊢
  exact fun x hx => h x (DataW.weights_mem_each ht hd x hx)
theorem cells_Rat : Tryz.prog.cellsOf 29 = 3 := by kernel_rfl
set_option maxRecDepth 100000 in
theorem open_Int2 {H : Type} {enc : TypeId × Value → H} {W : World} {c0 c1 : Value} {d : DataW H} {p : List MemPlace}
    (h : DataW.Trod enc Tryz.prog W 0 (fun _ => true) true 27 (.agg #[c0, c1]) d p)
    (hsz : (d.weights Tryz.prog 27).all (· ≤ reachBytes) = true) :
    ∃ s a len cap X, c0 = .bool s ∧ c1 = .slice a len cap ∧ Seg W a X len ∧ len ≤ cap ∧ len ≤ 35184372087808 ∧ len + 1 ≤ Rows.uptoBulk d := by
  obtain ⟨fuel, hf⟩ := h
  obtain ⟨y0, y1, n, hx, hl, h0, h1⟩ := trod_struct2 Tryz.underlying27 hf
  simp only [Value.cells, List.drop_zero, cells_bool, cells_nat] at h0 h1
  change DataW.trod enc _ _ _ _ _ n 4 [c0] = _ at h0
  change DataW.trod enc _ _ _ _ _ n 25 [c1] = _ at h1
  obtain ⟨b', hb, hx0⟩ := DataW.trod_bool Tryz.underlying4 h0
  simp only [List.cons.injEq, and_true] at hb
  subst hb hx0
  simp only [Prod.mk.injEq] at hx
  obtain ⟨rfl, rfl⟩ := hx
  have hc1 : ∃ a len cap, c1 = .slice a len cap := by
    rcases open_ints A_under_nat Tryz.underlying68 (by kernel_rfl) h1 with ⟨hcs, _⟩ | ⟨x, l, c, zs, hcs, _⟩
    · simp at hcs; exact ⟨_, _, _, hcs⟩
    · simp at hcs; exact ⟨_, _, _, hcs⟩
  obtain ⟨a, len, cap, rfl⟩ := hc1
  obtain ⟨y1d, y1p⟩ := y1
  obtain ⟨X, hS, hc, hb, hu⟩ := open_nat (len := len) (cap := cap) (a := a) (d := y1d) (p := y1p) A_under_nat ⟨n, h1⟩ (fun elems spare e => by
    have e' : y1d = .slice elems spare := e
    subst e'
    have hu := Tryz.underlying27
    simp only [DataW.weights, hu, DataW.weightsEach, List.map] at hsz
    simp only [List.all_append, Bool.and_eq_true] at hsz
    have h2 := hsz.2.1
    simp only [A_under_nat] at h2
    simp only [List.all_cons, Bool.and_eq_true, decide_eq_true_eq] at h2
    exact h2.1)
  exact ⟨b', a, len, cap, X, rfl, rfl, hS, hc, hb, by simp only [Rows.uptoBulk, Rows.uptoBulkAll] at hu ⊢; omega⟩
open Go.ChangeShapes Go.WideShapes Go.ChangeAt Go.RowKit Go.Deep
structure RatV where
  s : Bool
  a : Option Addr
  n : Nat
  c : Nat
  X : Nat
  b : Option Addr
  m : Nat
  e : Nat
  Y : Nat
instance : Inhabited RatV := ⟨⟨false, none, 0, 0, 0, none, 0, 0, 0⟩⟩
def RatV.ok (W : World) (q : RatV) : Prop := Seg W q.a q.X q.n ∧ q.n ≤ q.c ∧ q.n ≤ 35184372087808 ∧ Seg W q.b q.Y q.m ∧ q.m ≤ q.e ∧ q.m ≤ 35184372087808
def RatV.lies (W : World) (b off : Nat) (q : RatV) : Prop :=
  W.cell? ⟨b, off, none⟩ = some (.bool q.s) ∧ W.cell? ⟨b, off + 1, none⟩ = some (.slice q.a q.n q.c) ∧ W.cell? ⟨b, off + 2, none⟩ = some (.slice q.b q.m q.e)
def RatsAt (W : World) (a : Option Addr) (n : Nat) (q : Nat → RatV) : Prop :=
  0 < n → ∃ b off, a = some ⟨b, off, none⟩ ∧ b < W.heap.size ∧ ∀ i, i < n → (q i).lies W b (off + i * 3)
def bulkV (q : Nat → RatV) : Nat → Nat
  | 0 => 0
  | n + 1 => bulkV q n + ((q n).n + (q n).m + 1)
set_option maxRecDepth 100000 in
theorem open_Rat3 {H : Type} {enc : TypeId × Value → H} {W : World} {c0 c1 c2 : Value} {d : DataW H} {p : List MemPlace} {fuel : Nat}
    (hf : DataW.trod enc Tryz.prog W 0 (fun _ => true) true fuel 29 [c0, c1, c2] = some (d, p))
    (hsz : (d.weights Tryz.prog 29).all (· ≤ reachBytes) = true) :
    ∃ q : RatV, c0 = .bool q.s ∧ c1 = .slice q.a q.n q.c ∧ c2 = .slice q.b q.m q.e ∧ q.ok W ∧ q.n + q.m + 1 ≤ Rows.uptoBulk d := by
  obtain ⟨y0, y1, n, hx, hl, h0, h1⟩ := trod_struct2 Tryz.underlying29 hf
  simp only [List.drop_zero, cells_Int, cells_nat] at h0 h1
  change DataW.trod enc _ _ _ _ _ n 27 [c0, c1] = _ at h0
  change DataW.trod enc _ _ _ _ _ n 25 [c2] = _ at h1
  simp only [Prod.mk.injEq] at hx
  obtain ⟨rfl, rfl⟩ := hx
  have hc2 : ∃ a len cap, c2 = .slice a len cap := by
    rcases open_ints A_under_nat Tryz.underlying68 (by kernel_rfl) h1 with ⟨hcs, _⟩ | ⟨x, l, c, zs, hcs, _⟩
    · simp at hcs; exact ⟨_, _, _, hcs⟩
    · simp at hcs; exact ⟨_, _, _, hcs⟩
  obtain ⟨b, m, e, rfl⟩ := hc2
  obtain ⟨y0d, y0p⟩ := y0
  obtain ⟨y1d, y1p⟩ := y1
  have hu := Tryz.underlying29
  simp only [DataW.weights, hu, DataW.weightsEach, List.map] at hsz
  simp only [List.all_append, Bool.and_eq_true] at hsz
  obtain ⟨s, a, len, cap, X, rfl, rfl, hS, hc, hb, hu0⟩ := open_Int2 (c0 := c0) (c1 := c1) (d := y0d) (p := y0p) ⟨n, h0⟩ hsz.1
  obtain ⟨Y, hT, hd, hk, hu1⟩ := open_nat (len := m) (cap := e) (a := b) (d := y1d) (p := y1p) A_under_nat ⟨n, h1⟩ (fun elems spare e => by
    have e' : y1d = .slice elems spare := e
    subst e'
    have h2 := hsz.2.1
    simp only [DataW.weights, A_under_nat] at h2
    simp only [List.all_cons, Bool.and_eq_true, decide_eq_true_eq] at h2
    exact h2.1)
  exact ⟨⟨s, a, len, cap, X, b, m, e, Y⟩, rfl, rfl, rfl, ⟨hS, hc, hb, hT, hd, hk⟩, by simp only [Rows.uptoBulk, Rows.uptoBulkAll] at hu0 hu1 ⊢; omega⟩
theorem bulkAll_append {H : Type} : ∀ (l m : List (DataW H)), Rows.uptoBulkAll (l ++ m) = Rows.uptoBulkAll l + Rows.uptoBulkAll m
  | [], m => by simp [Rows.uptoBulkAll]
  | d :: l, m => by simp only [List.cons_append, Rows.uptoBulkAll, bulkAll_append l m]; omega
theorem bulkV_le {H : Type} {D : Nat → DataW H} {q : Nat → RatV} : ∀ (n : Nat), (∀ i, i < n → (q i).n + (q i).m + 1 ≤ Rows.uptoBulk (D i)) → bulkV q n ≤ Rows.uptoBulkAll ((List.range n).map D)
  | 0, _ => by simp [bulkV]
  | n + 1, h => by
    have h1 := bulkV_le n fun i hi => h i (by omega)
    have h2 := h n (by omega)
    rw [List.range_succ, List.map_append, bulkAll_append]
    simp only [bulkV, List.map, Rows.uptoBulkAll]
    omega
theorem weightsAll_mem {H : Type} {P : Program} {t : TypeId} {f : Nat → Bool} : ∀ {l : List (DataW H)} {d : DataW H}, (DataW.weightsAll P t l).all f = true → d ∈ l → (d.weights P t).all f = true
  | [], _, _, h => by simp at h
  | c :: l, d, h, hm => by
    simp only [DataW.weightsAll, List.all_append, Bool.and_eq_true] at h
    rcases List.mem_cons.1 hm with rfl | hm
    · exact h.1
    · exact weightsAll_mem h.2 hm
def MonoAt (W : World) (b off : Nat) (v : Int) (q : RatV) : Prop := W.cell? ⟨b, off, none⟩ = some (.int .i64 v) ∧ q.lies W b (off + 1)
def FormAt (W : World) (a : Option Addr) (n : Nat) (v : Nat → Int) (q : Nat → RatV) : Prop :=
  0 < n → ∃ b off, a = some ⟨b, off, none⟩ ∧ b < W.heap.size ∧ ∀ i, i < n → MonoAt W b (off + i * 4) (v i) (q i)
theorem cells_Mono : Tryz.prog.cellsOf 42 = 4 := by kernel_rfl
theorem cells_int : Tryz.prog.cellsOf 3 = 1 := by kernel_rfl
theorem bytes_Mono : Tryz.prog.bytesOf 42 = 64 := by kernel_rfl
set_option maxRecDepth 100000 in
theorem open_Mono4 {H : Type} {enc : TypeId × Value → H} {W : World} {k c0 c1 c2 : Value} {d : DataW H} {p : List MemPlace} {fuel : Nat}
    (hf : DataW.trod enc Tryz.prog W 0 (fun _ => true) true fuel 42 [k, c0, c1, c2] = some (d, p))
    (hsz : (d.weights Tryz.prog 42).all (· ≤ reachBytes) = true) :
    ∃ (v : Int) (q : RatV), k = .int .i64 v ∧ (Lit.int .i64 v).wf = true ∧ c0 = .bool q.s ∧ c1 = .slice q.a q.n q.c ∧ c2 = .slice q.b q.m q.e ∧ q.ok W ∧ q.n + q.m + 1 ≤ Rows.uptoBulk d := by
  obtain ⟨y0, y1, n, hx, hl, h0, h1⟩ := trod_struct2 Tryz.underlying42 hf
  simp only [List.drop_zero, cells_int, cells_Rat] at h0 h1
  change DataW.trod enc _ _ _ _ _ n 3 [k] = _ at h0
  change DataW.trod enc _ _ _ _ _ n 29 [c0, c1, c2] = _ at h1
  simp only [Prod.mk.injEq] at hx
  obtain ⟨rfl, rfl⟩ := hx
  obtain ⟨v, hv, hx0, hw⟩ := DataW.trod_int Tryz.underlying3 h0
  simp only [List.cons.injEq, and_true] at hv
  subst hv
  obtain ⟨y1d, y1p⟩ := y1
  have hu := Tryz.underlying42
  simp only [DataW.weights, hu, DataW.weightsEach, List.map] at hsz
  simp only [List.all_append, Bool.and_eq_true] at hsz
  obtain ⟨q, r0, r1, r2, hok, hbk⟩ := open_Rat3 h1 hsz.2.1
  exact ⟨v, q, rfl, hw, r0, r1, r2, hok, by simp only [Rows.uptoBulk, Rows.uptoBulkAll] at hbk ⊢; omega⟩
set_option maxRecDepth 100000 in
theorem open_Form {H : Type} {enc : TypeId × Value → H} {W : World} {cs : List Value} {d : DataW H} {p : List MemPlace} {fuel : Nat}
    (hf : DataW.trod enc Tryz.prog W 0 (fun _ => true) true fuel 23 cs = some (d, p))
    (hsz : (d.weights Tryz.prog 23).all (· ≤ reachBytes) = true) :
    ∃ a len cap v q, cs = [.slice a len cap] ∧ FormAt W a len v q ∧ (∀ i, i < len → (Lit.int .i64 (v i)).wf = true ∧ (q i).ok W) ∧ len ≤ cap ∧ len * 64 ≤ reachBytes ∧ bulkV q len + 1 ≤ Rows.uptoBulk d := by
  rcases open_slice Tryz.underlying23 hf with ⟨rfl, hx⟩ | ⟨a, len, cap, m, n, D, Pl, rfl, hb, hl, hm, hmm, hx, hel⟩
  · simp only [Prod.mk.injEq] at hx
    obtain ⟨rfl, rfl⟩ := hx
    exact ⟨none, 0, 0, fun _ => 0, default, rfl, fun h => absurd h (by omega), fun i hi => absurd hi (by omega), Nat.le_refl _, by simp [reachBytes], by simp [bulkV, Rows.uptoBulk]⟩
  · simp only [Prod.mk.injEq] at hx
    obtain ⟨rfl, rfl⟩ := hx
    have hu := Tryz.underlying23
    simp only [DataW.weights, hu] at hsz
    simp only [List.all_cons, List.all_append, Bool.and_eq_true, decide_eq_true_eq, bytes_Mono, List.length_map, List.length_range] at hsz
    obtain ⟨hs0, hs1, _⟩ := hsz
    simp only [if_true] at hmm
    have each : ∀ i, i < len → ∃ z : Int × RatV, (W.cell? (a.add (i * 4)) = some (.int .i64 z.1) ∧ W.cell? (a.add (i * 4 + 1)) = some (.bool z.2.s) ∧ W.cell? (a.add (i * 4 + 2)) = some (.slice z.2.a z.2.n z.2.c) ∧ W.cell? (a.add (i * 4 + 3)) = some (.slice z.2.b z.2.m z.2.e)) ∧
        ((Lit.int .i64 z.1).wf = true ∧ z.2.ok W) ∧ z.2.n + z.2.m + 1 ≤ Rows.uptoBulk (D i) := by
      intro i hi
      obtain ⟨cs', h1, h2⟩ := hel i (by omega)
      rw [cells_Mono] at h1
      obtain ⟨_, hlen, hcell⟩ := World.cells?_some h1
      match cs', hlen with
      | [k, c0, c1, c2], _ =>
        obtain ⟨v, q, rfl, hw, rfl, rfl, rfl, hok, hbk⟩ := open_Mono4 h2 (weightsAll_mem hs1 (List.mem_map.2 ⟨i, List.mem_range.2 hi, rfl⟩))
        have e0 := hcell 0 (by omega)
        have e1 := hcell 1 (by omega)
        have e2 := hcell 2 (by omega)
        have e3 := hcell 3 (by omega)
        rw [add_add] at e0 e1 e2 e3
        exact ⟨(v, q), ⟨by simpa using e0, by simpa using e1, by simpa using e2, by simpa using e3⟩, ⟨hw, hok⟩, hbk⟩
    obtain ⟨z, hq⟩ := choose_lt each
    refine ⟨some a, len, cap, fun i => (z i).1, fun i => (z i).2, rfl, fun hn => ?_, fun i hi => (hq i hi).2.1, hl, by omega, ?_⟩
    · obtain ⟨b, off, spot⟩ := a
      have h0 := (hq 0 hn).1.1
      have hspot : spot = none := by simpa [Addr.add] using World.cell?_spot h0
      subst hspot
      have ea : ∀ j, (Addr.mk b off none).add j = ⟨b, off + j, none⟩ := fun j => by unfold Addr.add; split <;> simp_all
      refine ⟨b, off, rfl, ?_, fun i hi => ?_⟩
      · rw [ea] at h0
        obtain ⟨cur, e, fr, hb, _⟩ := Sort.cells_of_cell? h0
        exact (Array.getElem?_eq_some_iff.1 hb).1
      · have := (hq i hi).1
        simp only [ea] at this
        exact ⟨this.1, this.2.1, this.2.2.1, this.2.2.2⟩
    · have := bulkV_le (D := D) (q := fun i => (z i).2) len fun i hi => (hq i hi).2.2
      simp only [Rows.uptoBulk]
      omega
end Go.Proofs.YtebbehlfocpjhaaGreat
