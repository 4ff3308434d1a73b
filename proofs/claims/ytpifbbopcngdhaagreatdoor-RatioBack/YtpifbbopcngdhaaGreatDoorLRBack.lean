/-
  RatioBack.
-/
import Derived.Test.YtpifbbopcngdhaaGreatDoorRows
import Derived.Test.YtpifbbopcngdhaaGreatDoorMem
import Derived.ProofKit
import Derived.OpenShut
import Derived.ShutString
import Derived.ChangeOld
import Derived.JoinedCond
import Derived.Deep.CondSized
import Derived.Sort.Row
import Derived.ChangeSame
import Derived.Test.YtpifbbopcngdhaaGreatDoorWPC
import Derived.Test.YtpifbbopcngdhaaGreatDoorWJE
import Derived.Test.YtpifbbopcngdhaaGreatDoorWQN
import Derived.Test.YtpifbbopcngdhaaGreatDoorWQA
import Derived.Test.YtpifbbopcngdhaaGreatDoorWH3
import Derived.Test.YtpifbbopcngdhaaGreatDoorCards
import Derived.Test.YtpifbbopcngdhaaGreatDoorTie
import Derived.Deep.DeepHandedRow
import Derived.Lib.LaidTab
namespace Go.Proofs.YtpifbbopcngdhaaGreatDoor
open Go.ChangeShapes Go.WideShapes Go.ChangeAt Go.RowKit
set_option linter.unusedVariables false

theorem own : ownKnob Tryz.prog.godebug = none := by kernel_rfl
theorem laidOut : laidOutB Tryz.prog = true := by kernel_rfl
theorem bytes_u32 : Tryz.prog.bytesOf 59 = 4 := by kernel_rfl

/-- a list of limbs, as a number -/
def valL : List Int → Nat
  | [] => 0
  | z :: r => valL r * BB + z.toNat

theorem valL_lt : ∀ (l : List Int), (∀ z ∈ l, 0 ≤ z ∧ z < 4294967296) → valL l < BB ^ l.length
  | [], _ => by simp [valL]
  | z :: r, h => by
    have h1 := valL_lt r fun x hx => h x (List.mem_cons_of_mem _ hx)
    have h2 := h z List.mem_cons_self
    simp only [valL, List.length_cons, pow_succ']
    have : (valL r + 1) * BB ≤ BB ^ r.length * BB := Nat.mul_le_mul_right _ h1
    rw [Nat.add_mul, BB_eq] at this
    rw [BB_eq]
    omega

theorem valL_dg : ∀ (l : List Int) (i : Nat), (∀ z ∈ l, 0 ≤ z ∧ z < 4294967296) → i < l.length → ((dg (valL l) i : Nat) : Int) = l.getD i 0
  | [], i, _, hi => absurd hi (by simp)
  | z :: r, i, h, hi => by
    have h2 := h z List.mem_cons_self
    simp only [valL]
    cases i with
    | zero =>
      rw [dg0, ← BB_eq, Nat.mul_comm, Nat.mul_add_mod, BB_eq, Nat.mod_eq_of_lt (by omega)]
      simp; omega
    | succ i =>
      have e : dg (valL r * BB + z.toNat) (i + 1) = dg (valL r) i := by
        have := dg_hi (valL r) z.toNat (i + 1) 1 (by omega) (by rw [Nat.pow_one, BB_eq]; omega)
        rw [Nat.pow_one] at this
        exact this
      rw [e, valL_dg r i (fun x hx => h x (List.mem_cons_of_mem _ hx)) (by simpa using hi)]
      simp

theorem wf_u32 {n : Int} (h : (Lit.int .u32 n).wf = true) : 0 ≤ n ∧ n < 4294967296 := by
  have := bounds_u32 h
  omega

set_option maxRecDepth 30000 in
theorem open_nat {H : Type} {enc : TypeId × Value → H} {W : World} {a : Option Addr} {len cap : Nat} {d : DataW H} {p : List MemPlace} {t : TypeId} (ht : Tryz.prog.underlying t = some (.slice 59))
    (h : DataW.Trod enc Tryz.prog W 0 (fun _ => true) true t (.slice a len cap) d p) (hsz : ∀ elems spare, d = .slice elems spare → (elems.length + spare.length) * Tryz.prog.bytesOf 59 ≤ reachBytes) :
    ∃ X, Seg W a X len ∧ len ≤ cap ∧ len ≤ 35184372087808 ∧ len + 1 ≤ Rows.uptoBulk d := by
  obtain ⟨fuel, hf⟩ := h
  rcases open_ints ht Tryz.underlying59 (by kernel_rfl) hf with ⟨hcs, hx⟩ | ⟨x, l, c, zs, hcs, _, hl, hm, hz, hx, hcell, hwz⟩
  · simp [Value.cells] at hcs
    obtain ⟨rfl, rfl, rfl⟩ := hcs
    simp only [Prod.mk.injEq] at hx
    obtain ⟨rfl, rfl⟩ := hx
    exact ⟨0, Seg.nil _ _, Nat.le_refl _, by omega, by simp [Rows.uptoBulk]⟩
  · simp [Value.cells] at hcs
    obtain ⟨rfl, rfl, rfl⟩ := hcs
    simp only [Prod.mk.injEq] at hx
    obtain ⟨rfl, rfl⟩ := hx
    simp only [if_true] at hz
    have hs := hsz _ _ rfl
    rw [bytes_u32] at hs
    simp only [lits, List.length_map, List.length_take, List.length_drop, reachBytes] at hs
    have hlim : ∀ z ∈ zs.take len, 0 ≤ z ∧ z < 4294967296 := fun z hz' => wf_u32 (hwz z (List.mem_of_mem_take hz'))
    have hlen : (zs.take len).length = len := by simp; omega
    have hbulk : ∀ (l : List Int), l.length ≤ Rows.uptoBulkAll (lits (H := H) .u32 l) := by
      intro l
      induction l with
      | nil => simp [lits, Rows.uptoBulkAll]
      | cons z r ih => simp only [lits, List.map_cons, Rows.uptoBulkAll, Rows.uptoBulk, List.length_cons] at ih ⊢; omega
    refine ⟨valL (zs.take len), ⟨by have := valL_lt _ hlim; rwa [hlen] at this, fun hn => ?_⟩, hl, by omega, ?_⟩
    · obtain ⟨b, off, spot⟩ := x
      have hspot : spot = none := by simpa [Addr.add] using World.cell?_spot (hcell 0 (by omega))
      subst hspot
      have hc : ∀ i, i < len → W.cell? ⟨b, off + i, none⟩ = some (.int .u32 (dg (valL (zs.take len)) i : Nat)) := by
        intro i hi
        have h1 := hcell i (by omega)
        have ea : (Addr.mk b off none).add i = ⟨b, off + i, none⟩ := by unfold Addr.add; split <;> simp_all
        rw [ea] at h1
        rw [h1, valL_dg _ _ hlim (by omega)]
        congr 2
        simp [hi]
      refine ⟨b, off, rfl, ?_, hc⟩
      have := hc 0 hn
      obtain ⟨cur, e, fr, hb, _⟩ := Sort.cells_of_cell? this
      exact (Array.getElem?_eq_some_iff.1 hb).1
    · have := hbulk (zs.take len)
      simp only [Rows.uptoBulk]
      omega
end Go.Proofs.YtpifbbopcngdhaaGreatDoor

namespace Go.Proofs.YtpifbbopcngdhaaGreatDoor
open Go.ChangeShapes Go.WideShapes Go.ChangeAt Go.RowKit
set_option linter.unusedVariables false

theorem under_Int : ∃ f0 f1 : Field, Tryz.prog.underlying 25 = some (.struct #[f0, f1]) ∧ f0.type = 4 ∧ f1.type = 23 ∧ f0.offset = 0 ∧ f1.offset = 1 :=
  ⟨_, _, Tryz.underlying25, rfl, rfl, rfl, rfl⟩
theorem cells_bool : Tryz.prog.cellsOf 4 = 1 := by kernel_rfl
theorem cells_nat : Tryz.prog.cellsOf 23 = 1 := by kernel_rfl
theorem cells_Int : Tryz.prog.cellsOf 25 = 2 := by kernel_rfl

set_option maxRecDepth 100000 in
theorem open_Int {H : Type} {enc : TypeId × Value → H} {W : World} {r : Reach} {b0 : Nat} {v : Value} {d : DataW H} {p : List MemPlace}
    (hv : Value.okWide Tryz.prog W r b0 25 v) (h : DataW.Trod enc Tryz.prog W 0 (fun _ => true) true 25 v d p)
    (hsz : (d.weights Tryz.prog 25).all (· ≤ reachBytes) = true) :
    ∃ s a len cap X, v = .agg #[.bool s, .slice a len cap] ∧ Seg W a X len ∧ len ≤ cap ∧ len ≤ 35184372087808 ∧ len + 1 ≤ Rows.uptoBulk d := by
  obtain ⟨cs, rfl, hcs⟩ := okWide_struct Tryz.underlying25 hv
  obtain ⟨fuel, hf⟩ := h
  obtain ⟨y0, y1, n, hx, hl, h0, h1⟩ := trod_struct2 Tryz.underlying25 hf
  rw [cells_Int] at hcs
  obtain ⟨c0, c1, rfl⟩ : ∃ c0 c1, cs = #[c0, c1] := by
    match cs, hcs with
    | ⟨[c0, c1]⟩, _ => exact ⟨c0, c1, rfl⟩
  simp only [Value.cells, List.drop_zero, cells_bool, cells_nat] at h0 h1
  change DataW.trod enc _ _ _ _ _ n 4 [c0] = _ at h0
  change DataW.trod enc _ _ _ _ _ n 23 [c1] = _ at h1
  obtain ⟨b', hb, hx0⟩ := DataW.trod_bool Tryz.underlying4 h0
  simp only [List.cons.injEq, and_true] at hb
  subst hb hx0
  simp only [Prod.mk.injEq] at hx
  obtain ⟨rfl, rfl⟩ := hx
  have hc1 : ∃ a len cap, c1 = .slice a len cap := by
    rcases open_ints A_under_nat Tryz.underlying59 (by kernel_rfl) h1 with ⟨hcs, _⟩ | ⟨x, l, c, zs, hcs, _⟩
    · simp at hcs; exact ⟨_, _, _, hcs⟩
    · simp at hcs; exact ⟨_, _, _, hcs⟩
  obtain ⟨a, len, cap, rfl⟩ := hc1
  obtain ⟨y1d, y1p⟩ := y1
  obtain ⟨X, hS, hc, hb, hu⟩ := open_nat (len := len) (cap := cap) (a := a) (d := y1d) (p := y1p) A_under_nat ⟨n, h1⟩ (fun elems spare e => by
    have e' : y1d = .slice elems spare := e
    subst e'
    have hu := Tryz.underlying25
    simp only [DataW.weights, hu, DataW.weightsEach, List.map] at hsz
    simp only [List.all_append, Bool.and_eq_true] at hsz
    have h2 := hsz.2.1
    simp only [A_under_nat] at h2
    simp only [List.all_cons, Bool.and_eq_true, decide_eq_true_eq] at h2
    exact h2.1)
  exact ⟨b', a, len, cap, X, rfl, hS, hc, hb, by simp only [Rows.uptoBulk, Rows.uptoBulkAll] at hu ⊢; omega⟩

/-- the weights of the argument j -/
theorem sized_at {H : Type} {P : Program} : ∀ {ts : List TypeId} {ds : List (DataW H)} (j : Nat) {t : TypeId} {d : DataW H}, (DataW.weightsEach P ts ds).all (· ≤ reachBytes) = true → ts[j]? = some t → ds[j]? = some d → (d.weights P t).all (· ≤ reachBytes) = true := by
  intro ts ds j t d h ht hd
  rw [List.all_eq_true] at h ⊢
  exact fun x hx => h x (DataW.weights_mem_each ht hd x hx)
end Go.Proofs.YtpifbbopcngdhaaGreatDoor

namespace Go.Proofs.YtpifbbopcngdhaaGreatDoor
open Go.ChangeShapes Go.WideShapes Go.ChangeAt Go.RowKit
set_option linter.unusedVariables false

theorem cells_Rat : Tryz.prog.cellsOf 27 = 3 := by kernel_rfl
set_option maxRecDepth 100000 in
theorem open_Int2 {H : Type} {enc : TypeId × Value → H} {W : World} {c0 c1 : Value} {d : DataW H} {p : List MemPlace}
    (h : DataW.Trod enc Tryz.prog W 0 (fun _ => true) true 25 (.agg #[c0, c1]) d p)
    (hsz : (d.weights Tryz.prog 25).all (· ≤ reachBytes) = true) :
    ∃ s a len cap X, c0 = .bool s ∧ c1 = .slice a len cap ∧ Seg W a X len ∧ len ≤ cap ∧ len ≤ 35184372087808 ∧ len + 1 ≤ Rows.uptoBulk d := by
  obtain ⟨fuel, hf⟩ := h
  obtain ⟨y0, y1, n, hx, hl, h0, h1⟩ := trod_struct2 Tryz.underlying25 hf
  simp only [Value.cells, List.drop_zero, cells_bool, cells_nat] at h0 h1
  change DataW.trod enc _ _ _ _ _ n 4 [c0] = _ at h0
  change DataW.trod enc _ _ _ _ _ n 23 [c1] = _ at h1
  obtain ⟨b', hb, hx0⟩ := DataW.trod_bool Tryz.underlying4 h0
  simp only [List.cons.injEq, and_true] at hb
  subst hb hx0
  simp only [Prod.mk.injEq] at hx
  obtain ⟨rfl, rfl⟩ := hx
  have hc1 : ∃ a len cap, c1 = .slice a len cap := by
    rcases open_ints A_under_nat Tryz.underlying59 (by kernel_rfl) h1 with ⟨hcs, _⟩ | ⟨x, l, c, zs, hcs, _⟩
    · simp at hcs; exact ⟨_, _, _, hcs⟩
    · simp at hcs; exact ⟨_, _, _, hcs⟩
  obtain ⟨a, len, cap, rfl⟩ := hc1
  obtain ⟨y1d, y1p⟩ := y1
  obtain ⟨X, hS, hc, hb, hu⟩ := open_nat (len := len) (cap := cap) (a := a) (d := y1d) (p := y1p) A_under_nat ⟨n, h1⟩ (fun elems spare e => by
    have e' : y1d = .slice elems spare := e
    subst e'
    have hu := Tryz.underlying25
    simp only [DataW.weights, hu, DataW.weightsEach, List.map] at hsz
    simp only [List.all_append, Bool.and_eq_true] at hsz
    have h2 := hsz.2.1
    simp only [A_under_nat] at h2
    simp only [List.all_cons, Bool.and_eq_true, decide_eq_true_eq] at h2
    exact h2.1)
  exact ⟨b', a, len, cap, X, rfl, rfl, hS, hc, hb, by simp only [Rows.uptoBulk, Rows.uptoBulkAll] at hu ⊢; omega⟩


set_option maxRecDepth 100000 in
theorem open_Rat {H : Type} {enc : TypeId × Value → H} {W : World} {r : Reach} {b0 : Nat} {v : Value} {d : DataW H} {p : List MemPlace}
    (hv : Value.okWide Tryz.prog W r b0 27 v) (h : DataW.Trod enc Tryz.prog W 0 (fun _ => true) true 27 v d p)
    (hsz : (d.weights Tryz.prog 27).all (· ≤ reachBytes) = true) :
    ∃ s a n c X b m e Y, v = .agg #[.bool s, .slice a n c, .slice b m e] ∧ Seg W a X n ∧ n ≤ c ∧ n ≤ 35184372087808 ∧ Seg W b Y m ∧ m ≤ e ∧ m ≤ 35184372087808 ∧ n + 1 ≤ Rows.uptoBulk d ∧ m + 1 ≤ Rows.uptoBulk d := by
  obtain ⟨cs, rfl, hcs⟩ := okWide_struct Tryz.underlying27 hv
  obtain ⟨fuel, hf⟩ := h
  obtain ⟨y0, y1, n, hx, hl, h0, h1⟩ := trod_struct2 Tryz.underlying27 hf
  rw [cells_Rat] at hcs
  obtain ⟨c0, c1, c2, rfl⟩ : ∃ c0 c1 c2, cs = #[c0, c1, c2] := by
    match cs, hcs with
    | ⟨[c0, c1, c2]⟩, _ => exact ⟨c0, c1, c2, rfl⟩
  simp only [Value.cells, List.drop_zero, cells_Int, cells_nat] at h0 h1
  change DataW.trod enc _ _ _ _ _ n 25 [c0, c1] = _ at h0
  change DataW.trod enc _ _ _ _ _ n 23 [c2] = _ at h1
  simp only [Prod.mk.injEq] at hx
  obtain ⟨rfl, rfl⟩ := hx
  have hc2 : ∃ a len cap, c2 = .slice a len cap := by
    rcases open_ints A_under_nat Tryz.underlying59 (by kernel_rfl) h1 with ⟨hcs, _⟩ | ⟨x, l, c, zs, hcs, _⟩
    · simp at hcs; exact ⟨_, _, _, hcs⟩
    · simp at hcs; exact ⟨_, _, _, hcs⟩
  obtain ⟨b, m, e, rfl⟩ := hc2
  obtain ⟨y0d, y0p⟩ := y0
  obtain ⟨y1d, y1p⟩ := y1
  have hu := Tryz.underlying27
  simp only [DataW.weights, hu, DataW.weightsEach, List.map] at hsz
  simp only [List.all_append, Bool.and_eq_true] at hsz
  obtain ⟨s, a, len, cap, X, rfl, rfl, hS, hc, hb, hu0⟩ := open_Int2 (c0 := c0) (c1 := c1) (d := y0d) (p := y0p) ⟨n, h0⟩ hsz.1
  obtain ⟨Y, hT, hd, hk, hu1⟩ := open_nat (len := m) (cap := e) (a := b) (d := y1d) (p := y1p) A_under_nat ⟨n, h1⟩ (fun elems spare e => by
    have e' : y1d = .slice elems spare := e
    subst e'
    have h2 := hsz.2.1
    simp only [DataW.weights, A_under_nat] at h2
    simp only [List.all_cons, Bool.and_eq_true, decide_eq_true_eq] at h2
    exact h2.1)
  exact ⟨s, a, len, cap, X, b, m, e, Y, rfl, hS, hc, hb, hT, hd, hk, by simp only [Rows.uptoBulk, Rows.uptoBulkAll] at hu0 hu1 ⊢; omega, by simp only [Rows.uptoBulk, Rows.uptoBulkAll] at hu0 hu1 ⊢; omega⟩
end Go.Proofs.YtpifbbopcngdhaaGreatDoor

namespace Go.Proofs.YtpifbbopcngdhaaGreatDoor.ratioBack
open Go.ChangeShapes Go.WideShapes Go.ChangeAt Go.RowKit Go.Proofs.YtpifbbopcngdhaaGreatDoor
set_option linter.unusedVariables false

theorem HD2' {w1 w2 : World} {c : Nat} {b : Bool} {a1 a2 : Option Addr} {n1 k1 n2 k2 : Nat} {t : TypeId} (h : Digs w1) (q : Blk w1 c #[.bool b, .slice a1 n1 k1, .slice a2 n2 k2] t) (k : Ch c w1 w2) : Digs w2 := fun i hi => by
  have h1 := h i hi
  rw [World.cell?_of_block (w := w1) (a := ⟨0, i, none⟩) (k.other _ fun e => ?_)]
  · exact h1
  · have h2 : w1.cell? ⟨c, i, none⟩ = some (.int .u8 (dch i : Nat)) := by rw [← show (0 : Nat) = c from e]; exact h1
    rw [q.cell i] at h2
    match i with
    | 0 => simp at h2
    | 1 => simp at h2
    | 2 => simp at h2
    | i + 3 => simp at h2
theorem five {w : World} (h : Digs w) : Digits w := ⟨h 0 (by omega), h 1 (by omega), h 2 (by omega), h 3 (by omega), h 4 (by omega)⟩
set_option maxHeartbeats 2000000 in
set_option maxRecDepth 100000 in
theorem within_in (s0 : Bool) (a0 : Option Addr) (n0 c0 X0 : Nat) (b0 : Option Addr) (m0 d0 Y0 : Nat) (w : World) (h1 : n0 < 67108864) (h2 : m0 < 67108864) : Calls Tryz.prog 4 #[Value.agg #[Value.bool s0, Value.slice a0 n0 c0, Value.slice b0 m0 d0]] w fun e w' => e = .returned (Value.agg #[Value.bool s0, Value.slice a0 n0 c0, Value.slice b0 m0 d0]) ∧ Below w.heap.size w w' := by
  have e1 : ¬ ((67108864 : Int) ≤ (n0 : Int)) := by omega
  have e2 : ¬ ((67108864 : Int) ≤ (m0 : Int)) := by omega
  have e3 : decide ((67108864 : Int) ≤ (n0 : Int)) = false := by rw [decide_eq_false_iff_not]; omega
  have e6 : decide ((67108864 : Int) ≤ (m0 : Int)) = false := by rw [decide_eq_false_iff_not]; omega
  have e4 : ((n0 : Int) < 67108864) := by omega
  have e5 : ((m0 : Int) < 67108864) := by omega
  have e7 : ¬ (67108864 ≤ n0) := by omega
  have e8 : ¬ (67108864 ≤ m0) := by omega
  go_enter Tryz.func4, Tryz.ntmps4
  go_wp2
  refine bodyPost_ret (v := Value.agg #[Value.bool s0, Value.slice a0 n0 c0, Value.slice b0 m0 d0]) (by rw [results_cell rfl]; go_simp) rfl ?_
  exact ⟨rfl, ((Below.refl _ _).alloc (Nat.le_refl _) _).alloc (by rw [World.size_alloc]; omega) _⟩

set_option maxHeartbeats 2000000 in
set_option maxRecDepth 100000 in
theorem within_out1 (s0 : Bool) (a0 : Option Addr) (n0 c0 X0 : Nat) (b0 : Option Addr) (m0 d0 Y0 : Nat) (w : World) (h1 : 67108864 ≤ n0) : Calls Tryz.prog 4 #[Value.agg #[Value.bool s0, Value.slice a0 n0 c0, Value.slice b0 m0 d0]] w fun e w' => e = .returned (Value.agg #[Value.bool false, Value.slice none 0 0, Value.slice none 0 0]) ∧ Below w.heap.size w w' := by
  have e1 : ((67108864 : Int) ≤ (n0 : Int)) := by omega
  have e4 : ¬ ((n0 : Int) < 67108864) := by omega
  go_enter Tryz.func4, Tryz.ntmps4
  go_wp2
  refine bodyPost_ret (v := Value.agg #[Value.bool false, Value.slice none 0 0, Value.slice none 0 0]) (by rw [results_cell rfl]; go_simp) rfl ?_
  exact ⟨rfl, ((Below.refl _ _).alloc (Nat.le_refl _) _).alloc (by rw [World.size_alloc]; omega) _⟩

set_option maxHeartbeats 2000000 in
set_option maxRecDepth 100000 in
theorem within_out2 (s0 : Bool) (a0 : Option Addr) (n0 c0 X0 : Nat) (b0 : Option Addr) (m0 d0 Y0 : Nat) (w : World) (h1 : n0 < 67108864) (h2 : 67108864 ≤ m0) : Calls Tryz.prog 4 #[Value.agg #[Value.bool s0, Value.slice a0 n0 c0, Value.slice b0 m0 d0]] w fun e w' => e = .returned (Value.agg #[Value.bool false, Value.slice none 0 0, Value.slice none 0 0]) ∧ Below w.heap.size w w' := by
  have e1 : ¬ ((67108864 : Int) ≤ (n0 : Int)) := by omega
  have e2 : ((67108864 : Int) ≤ (m0 : Int)) := by omega
  have e3 : decide ((67108864 : Int) ≤ (n0 : Int)) = false := by rw [decide_eq_false_iff_not]; omega
  have e4 : ((n0 : Int) < 67108864) := by omega
  have e5 : ¬ ((m0 : Int) < 67108864) := by omega
  go_enter Tryz.func4, Tryz.ntmps4
  go_wp2
  refine bodyPost_ret (v := Value.agg #[Value.bool false, Value.slice none 0 0, Value.slice none 0 0]) (by rw [results_cell rfl]; go_simp) rfl ?_
  exact ⟨rfl, ((Below.refl _ _).alloc (Nat.le_refl _) _).alloc (by rw [World.size_alloc]; omega) _⟩

set_option maxHeartbeats 8000000 in
set_option maxRecDepth 100000 in
theorem walkG (s1 : Bool) (a1 : Option Addr) (n1 c1 X1 : Nat) (b1 : Option Addr) (m1 d1 Y1 : Nat) (s0 : Bool) (a0 : Option Addr) (n0 c0 X0 : Nat) (b0 : Option Addr) (m0 d0 Y0 : Nat) (w : World) (hc0 : n0 ≤ c0) (hm0 : n0 ≤ 67108863) (hS0 : Seg w a0 X0 n0) (hd0 : m0 ≤ d0) (hk0 : m0 ≤ 67108863) (hT0 : Seg w b0 Y0 m0) (hDg : Digs w) (hWI : ∀ w, Calls Tryz.prog 4 #[Value.agg #[Value.bool s1, Value.slice a1 n1 c1, Value.slice b1 m1 d1]] w fun e w' => e = .returned (Value.agg #[Value.bool s0, Value.slice a0 n0 c0, Value.slice b0 m0 d0]) ∧ Below w.heap.size w w') :
    Calls Tryz.prog 3 #[Value.agg #[Value.bool s1, Value.slice a1 n1 c1, Value.slice b1 m1 d1]] w fun e w' => e = .returned (.bool true) ∧ Below w.heap.size w w' := by
  obtain ⟨Z, V, hL⟩ := low_ex (rn s0 X0 Y0) (rd Y0 : Nat) (rd_ne Y0)
  obtain ⟨lZ, lV⟩ := low_ln hS0.1 hT0.1 hL
  obtain ⟨u, hu⟩ := isTz_ex (ng Z) (am Z)
  obtain ⟨d, hd⟩ := isTx_ex (b := 10) (by omega) (by omega) V
  obtain ⟨U, hU⟩ : ∃ U, (if V = 1 then u else u ++ ⟨#[47]⟩ ++ d) = U := ⟨_, rfl⟩
  have T1 : ∀ w' p q, Digs w' → Seg w' p X0 n0 → Seg w' q Y0 m0 → Calls Tryz.prog 8 #[.agg #[.bool s0, .slice p n0 n0, .slice q m0 m0]] w' fun e w'' => e = .returned (.string U) ∧ Below w'.heap.size w' w'' := by
    intro w' p q hD k1 k2
    by_cases h : V = 1
    · rw [if_pos h] at hU; subst hU
      exact qText_one s0 p n0 n0 X0 q m0 m0 Y0 Z V u d w' (Nat.le_refl _) (by omega) k1 (Nat.le_refl _) (by omega) k2 hL hu hd hD h
    · rw [if_neg h] at hU; subst hU
      exact qText_more s0 p n0 n0 X0 q m0 m0 Y0 Z V u d w' (Nat.le_refl _) (by omega) k1 (Nat.le_refl _) (by omega) k2 hL hu hd hD h
  have T2 := fun w' (k : Digs w') => qParse_own Z V u d w' k hu hd (by omega) (by omega) hL.pos hL.cop
  rw [hU] at T2
  have hlen : (cf (rn s0 X0 Y0) (rd Y0)).length ≤ 4294967297 := Nat.le_trans (cf_len_le hT0.1) (by omega)
  have GW := hide' hWI
  have GT := hide' (fun w' k1 k2 => ltwin_is s0 a0 n0 c0 X0 b0 m0 d0 Y0 w' hc0 (by omega) k1 hd0 (by omega) k2)
  have GN := hide' (fun w' p q k1 k2 => qNorm_is s0 p n0 n0 X0 q m0 m0 Y0 Z V w' (Nat.le_refl _) (by omega) k1 (Nat.le_refl _) (by omega) k2 hL)
  have G1 := hide' T1
  have G2 := hide' T2
  have GE := hide' (fun w' p q k1 k2 => qExpand_is 4294967297 s0 p n0 n0 X0 q m0 m0 Y0 w' (Nat.le_refl _) (by omega) k1 (Nat.le_refl _) (by omega) k2 hlen (by omega))
  have GF := hide' (fun base W' v (hI : IL base W' v (cf (rn s0 X0 Y0) (rd Y0))) => foldExpand_is W' v s0 X0 Y0 n0 m0 Z V hS0.1 hT0.1 hm0 hk0 hL hI)
  have GS := hide' (fun w' p1 p2 p3 p4 k1 k2 k3 k4 => sameQ_is Z V p1 p2 p3 p4 w' (by omega) (by omega) k1 k2 k3 k4)
  have bel := below_alloc (w := w) (.cells #[.bool s1, .slice a1 n1 c1, .slice b1 m1 d1] 27)
  have q1 := Blk.new w #[.bool s1, .slice a1 n1 c1, .slice b1 m1 d1] 27
  have HD := hide' (hDg.below bel)
  replace hS0 := hS0.later bel
  replace hT0 := hT0.later bel
  clear T1 T2 hU hu hd hL hDg hlen hWI
  go_enter Tryz.func3, Tryz.ntmps3
  go_wp2_with fail
  refine (GW.out _).mono ?_
  rintro e w1 ⟨rfl, bw⟩
  replace q1 := q1.later bw
  have x0 := q1.cell 0
  have x1 := q1.cell 1
  have x2 := q1.cell 2
  simp only [List.getElem?_toArray, List.getElem?_cons_zero, List.getElem?_cons_succ] at x0 x1 x2
  have fz := fun o => q1.frozen o
  obtain ⟨c9, q9⟩ := q1.set3 (.bool s0) (.slice a0 n0 c0) (.slice b0 m0 d0)
  have hno := q1.no (by simp)
  have kS := (hS0.later bw).ch c9 hno
  have kT := (hT0.later bw).ch c9 hno
  have bel2 := (bel.trans (bw.mono bel.size)).trans (c9.below (Nat.le_refl _))
  have z0 := q9.cell 0
  have z1 := q9.cell 1
  have z2 := q9.cell 2
  simp only [List.getElem?_toArray, List.getElem?_cons_zero, List.getElem?_cons_succ] at z0 z1 z2
  go_wp2_with fail
  obtain ⟨W2, hW2⟩ : ∃ W2, ((w1.setCell ⟨w.heap.size, 0, none⟩ (.bool s0)).setCell ⟨w.heap.size, 1, none⟩ (.slice a0 n0 c0)).setCell ⟨w.heap.size, 2, none⟩ (.slice b0 m0 d0) = W2 := ⟨_, rfl⟩
  rw [hW2] at q9 kS kT bel2 z0 z1 z2 ⊢
  have HD2 := hide' (show Digs W2 by rw [← hW2]; exact HD2' (HD.out.below bw) q1 c9)
  clear hW2 c9 hno x0 x1 x2 fz q1 hS0 hT0 bel bw HD z0 z1 z2
  refine (GT.out _ kS kT).mono ?_
  rintro e w3 ⟨p, q, rfl, t1, t2⟩
  have bb := t1.below
  have kp := t1.seg
  have kq := t2.seg
  clear t1 t2
  replace kS := kS.later bb
  replace kT := kT.later bb
  replace q9 := q9.later bb
  replace HD2 := hide' (HD2.out.below bb)
  replace bel2 := bel2.trans (bb.mono bel2.size)
  clear bb
  go_wp2_with fail
  refine (GN.out _ p q kp kq).mono ?_
  rintro e w4 ⟨pn, qn, rfl, t1, t2⟩
  have bb := t1.below
  have kpn := t1.seg
  have kqn := t2.seg
  clear t1 t2
  replace kS := kS.later bb
  replace kT := kT.later bb
  replace q9 := q9.later bb
  replace kp := kp.later bb
  replace kq := kq.later bb
  replace HD2 := hide' (HD2.out.below bb)
  replace bel2 := bel2.trans (bb.mono bel2.size)
  clear bb
  clear kp kq
  have q3 := Blk.new w4 #[.bool (ng Z), .slice pn (ln (am Z)) (ln (am Z)), .slice qn (ln V) (ln V)] 27
  have bb := below_alloc (w := w4) (.cells #[.bool (ng Z), .slice pn (ln (am Z)) (ln (am Z)), .slice qn (ln V) (ln V)] 27)
  replace kS := kS.later bb
  replace kT := kT.later bb
  replace q9 := q9.later bb
  replace kpn := kpn.later bb
  replace kqn := kqn.later bb
  replace HD2 := hide' (HD2.out.below bb)
  replace bel2 := bel2.trans (bb.mono bel2.size)
  clear bb
  have x0 := q9.cell 0
  have x1 := q9.cell 1
  have x2 := q9.cell 2
  simp only [List.getElem?_toArray, List.getElem?_cons_zero, List.getElem?_cons_succ] at x0 x1 x2
  go_wp2_with fail
  clear x0 x1 x2
  refine (GT.out _ kS kT).mono ?_
  rintro e w5 ⟨p, q, rfl, t1, t2⟩
  have bb := t1.below
  have kp := t1.seg
  have kq := t2.seg
  clear t1 t2
  replace kS := kS.later bb
  replace kT := kT.later bb
  replace q9 := q9.later bb
  replace kpn := kpn.later bb
  replace kqn := kqn.later bb
  replace q3 := q3.later bb
  replace HD2 := hide' (HD2.out.below bb)
  replace bel2 := bel2.trans (bb.mono bel2.size)
  clear bb
  go_wp2_with fail
  refine (G1.out _ p q HD2.out kp kq).mono ?_
  rintro e w6 ⟨rfl, b9⟩
  have bb := b9
  clear b9
  replace kS := kS.later bb
  replace kT := kT.later bb
  replace q9 := q9.later bb
  replace kpn := kpn.later bb
  replace kqn := kqn.later bb
  replace q3 := q3.later bb
  replace kp := kp.later bb
  replace kq := kq.later bb
  replace HD2 := hide' (HD2.out.below bb)
  replace bel2 := bel2.trans (bb.mono bel2.size)
  clear bb
  clear kp kq
  go_wp2_with fail
  refine (G2.out _ HD2.out).mono ?_
  rintro e w7 ⟨px, qx, rfl, b9, kpx, kqx⟩
  have bb := b9
  clear b9
  replace kS := kS.later bb
  replace kT := kT.later bb
  replace q9 := q9.later bb
  replace kpn := kpn.later bb
  replace kqn := kqn.later bb
  replace q3 := q3.later bb
  replace HD2 := hide' (HD2.out.below bb)
  replace bel2 := bel2.trans (bb.mono bel2.size)
  clear bb
  have q4 := Blk.new w7 #[.bool (ng Z), .slice px (ln (am Z)) (ln (am Z)), .slice qx (ln V) (ln V)] 27
  have bb := below_alloc (w := w7) (.cells #[.bool (ng Z), .slice px (ln (am Z)) (ln (am Z)), .slice qx (ln V) (ln V)] 27)
  replace kS := kS.later bb
  replace kT := kT.later bb
  replace q9 := q9.later bb
  replace kpn := kpn.later bb
  replace kqn := kqn.later bb
  replace q3 := q3.later bb
  replace kpx := kpx.later bb
  replace kqx := kqx.later bb
  replace HD2 := hide' (HD2.out.below bb)
  replace bel2 := bel2.trans (bb.mono bel2.size)
  clear bb
  have x0 := q9.cell 0
  have x1 := q9.cell 1
  have x2 := q9.cell 2
  simp only [List.getElem?_toArray, List.getElem?_cons_zero, List.getElem?_cons_succ] at x0 x1 x2
  go_wp2_with fail
  clear x0 x1 x2
  refine (GT.out _ kS kT).mono ?_
  rintro e w8 ⟨p, q, rfl, t1, t2⟩
  have bb := t1.below
  have kp := t1.seg
  have kq := t2.seg
  clear t1 t2
  replace kS := kS.later bb
  replace kT := kT.later bb
  replace q9 := q9.later bb
  replace kpn := kpn.later bb
  replace kqn := kqn.later bb
  replace q3 := q3.later bb
  replace kpx := kpx.later bb
  replace kqx := kqx.later bb
  replace q4 := q4.later bb
  replace HD2 := hide' (HD2.out.below bb)
  replace bel2 := bel2.trans (bb.mono bel2.size)
  clear bb
  go_wp2_with fail
  refine (GE.out _ p q kp kq).mono ?_
  rintro e w9 ⟨v, rfl, hI, b9⟩
  have bb := b9
  clear b9
  replace kS := kS.later bb
  replace kT := kT.later bb
  replace q9 := q9.later bb
  replace kpn := kpn.later bb
  replace kqn := kqn.later bb
  replace q3 := q3.later bb
  replace kpx := kpx.later bb
  replace kqx := kqx.later bb
  replace q4 := q4.later bb
  replace kp := kp.later bb
  replace kq := kq.later bb
  replace HD2 := hide' (HD2.out.below bb)
  replace bel2 := bel2.trans (bb.mono bel2.size)
  clear bb
  clear kp kq
  obtain ⟨g, len, cap, hv, GF2⟩ := GF.out _ _ _ hI
  subst hv
  have GF3 := hide' GF2
  clear GF2 hI
  go_wp2_with fail
  refine (GF3.out).mono ?_
  rintro e w10 ⟨py, qy, rfl, b9, kpy, kqy⟩
  have bb := b9
  clear b9 GF3
  replace kS := kS.later bb
  replace kT := kT.later bb
  replace q9 := q9.later bb
  replace kpn := kpn.later bb
  replace kqn := kqn.later bb
  replace q3 := q3.later bb
  replace kpx := kpx.later bb
  replace kqx := kqx.later bb
  replace q4 := q4.later bb
  replace HD2 := hide' (HD2.out.below bb)
  replace bel2 := bel2.trans (bb.mono bel2.size)
  clear bb
  have q6 := Blk.new w10 #[.bool (ng Z), .slice py (ln (am Z)) (ln (am Z)), .slice qy (ln V) (ln V)] 27
  have bb := below_alloc (w := w10) (.cells #[.bool (ng Z), .slice py (ln (am Z)) (ln (am Z)), .slice qy (ln V) (ln V)] 27)
  replace kS := kS.later bb
  replace kT := kT.later bb
  replace q9 := q9.later bb
  replace kpn := kpn.later bb
  replace kqn := kqn.later bb
  replace q3 := q3.later bb
  replace kpx := kpx.later bb
  replace kqx := kqx.later bb
  replace q4 := q4.later bb
  replace kpy := kpy.later bb
  replace kqy := kqy.later bb
  replace HD2 := hide' (HD2.out.below bb)
  replace bel2 := bel2.trans (bb.mono bel2.size)
  clear bb
  go_wp2_with fail
  refine (half_is _ (five HD2.out)).mono ?_
  rintro e w11 ⟨rfl, b9⟩
  have bb := b9
  clear b9
  replace kS := kS.later bb
  replace kT := kT.later bb
  replace q9 := q9.later bb
  replace kpn := kpn.later bb
  replace kqn := kqn.later bb
  replace q3 := q3.later bb
  replace kpx := kpx.later bb
  replace kqx := kqx.later bb
  replace q4 := q4.later bb
  replace kpy := kpy.later bb
  replace kqy := kqy.later bb
  replace q6 := q6.later bb
  replace HD2 := hide' (HD2.out.below bb)
  replace bel2 := bel2.trans (bb.mono bel2.size)
  clear bb
  have x0 := q4.cell 0
  have x1 := q4.cell 1
  have x2 := q4.cell 2
  simp only [List.getElem?_toArray, List.getElem?_cons_zero, List.getElem?_cons_succ] at x0 x1 x2
  have y0 := q3.cell 0
  have y1 := q3.cell 1
  have y2 := q3.cell 2
  simp only [List.getElem?_toArray, List.getElem?_cons_zero, List.getElem?_cons_succ] at y0 y1 y2
  go_wp2_with fail
  clear x0 x1 x2 y0 y1 y2
  refine (GS.out _ px qx pn qn kpx kqx kpn kqn).mono ?_
  rintro e w12 ⟨rfl, b9⟩
  have bb := b9
  clear b9
  replace kS := kS.later bb
  replace kT := kT.later bb
  replace q9 := q9.later bb
  replace kpn := kpn.later bb
  replace kqn := kqn.later bb
  replace q3 := q3.later bb
  replace kpx := kpx.later bb
  replace kqx := kqx.later bb
  replace q4 := q4.later bb
  replace kpy := kpy.later bb
  replace kqy := kqy.later bb
  replace q6 := q6.later bb
  replace HD2 := hide' (HD2.out.below bb)
  replace bel2 := bel2.trans (bb.mono bel2.size)
  clear bb
  have x0 := q6.cell 0
  have x1 := q6.cell 1
  have x2 := q6.cell 2
  simp only [List.getElem?_toArray, List.getElem?_cons_zero, List.getElem?_cons_succ] at x0 x1 x2
  have y0 := q3.cell 0
  have y1 := q3.cell 1
  have y2 := q3.cell 2
  simp only [List.getElem?_toArray, List.getElem?_cons_zero, List.getElem?_cons_succ] at y0 y1 y2
  go_wp2_with fail
  clear x0 x1 x2 y0 y1 y2
  refine (GS.out _ py qy pn qn kpy kqy kpn kqn).mono ?_
  rintro e w13 ⟨rfl, b9⟩
  have bb := b9
  clear b9
  replace kS := kS.later bb
  replace kT := kT.later bb
  replace q9 := q9.later bb
  replace kpn := kpn.later bb
  replace kqn := kqn.later bb
  replace q3 := q3.later bb
  replace kpx := kpx.later bb
  replace kqx := kqx.later bb
  replace q4 := q4.later bb
  replace kpy := kpy.later bb
  replace kqy := kqy.later bb
  replace q6 := q6.later bb
  replace HD2 := hide' (HD2.out.below bb)
  replace bel2 := bel2.trans (bb.mono bel2.size)
  clear bb
  go_wp2
  go_ret
  exact ⟨rfl, bel2⟩

set_option maxHeartbeats 4000000 in
set_option maxRecDepth 100000 in
theorem walk (s0 : Bool) (a0 : Option Addr) (n0 c0 X0 : Nat) (b0 : Option Addr) (m0 d0 Y0 : Nat)  (w : World) (hc0 : n0 ≤ c0) (hm0 : n0 ≤ 35184372087808) (hS0 : Seg w a0 X0 n0) (hd0 : m0 ≤ d0) (hk0 : m0 ≤ 35184372087808) (hT0 : Seg w b0 Y0 m0) (hDg : Digs w) :
    Calls Tryz.prog 3 #[Value.agg #[Value.bool s0, Value.slice a0 n0 c0, Value.slice b0 m0 d0]] w fun e w' => e = .returned (.bool true) ∧ Below w.heap.size w w' := by
  by_cases h1 : n0 < 67108864
  · by_cases h2 : m0 < 67108864
    · exact walkG s0 a0 n0 c0 X0 b0 m0 d0 Y0 s0 a0 n0 c0 X0 b0 m0 d0 Y0 w hc0 (by omega) hS0 hd0 (by omega) hT0 hDg (fun w => within_in s0 a0 n0 c0 X0 b0 m0 d0 Y0 w h1 h2)
    · exact walkG s0 a0 n0 c0 X0 b0 m0 d0 Y0 false none 0 0 0 none 0 0 0 w (Nat.le_refl _) (by omega) (Seg.nil _ _) (Nat.le_refl _) (by omega) (Seg.nil _ _) hDg (fun w => within_out2 s0 a0 n0 c0 X0 b0 m0 d0 Y0 w h1 (by omega))
  · exact walkG s0 a0 n0 c0 X0 b0 m0 d0 Y0 false none 0 0 0 none 0 0 0 w (Nat.le_refl _) (by omega) (Seg.nil _ _) (Nat.le_refl _) (by omega) (Seg.nil _ _) hDg (fun w => within_out1 s0 a0 n0 c0 X0 b0 m0 d0 Y0 w (by omega))

theorem gTab : Tryz.prog.globalNamed "fulcrum/nat.digits" = some 0 := by kernel_rfl
theorem gTabType : (Tryz.prog.globals[0]?).map (·.type) = some 115 := by kernel_rfl
theorem cellsA : Tryz.prog.cellsOf 115 = 16 := by kernel_rfl
theorem cells8 : Tryz.prog.cellsOf 5 = 1 := by kernel_rfl
theorem table {W : World} (h : laidMetH Tryz.prog Rows.ratioBackRow.laid W) : Lib.TabIs Tryz.prog W "fulcrum/nat.digits" .u8 [48, 49, 50, 51, 52, 53, 54, 55, 56, 57, 97, 98, 99, 100, 101, 102] :=
  Lib.tabIs_of_head (rest := []) gTab gTabType Tryz.underlying115 Tryz.underlying5 cells8 cellsA h
theorem digs_of {W : World} (h : laidMetH Tryz.prog Rows.ratioBackRow.laid W) : Digs W
  | 0, _ => (table h).cell gTab 0 (by decide)
  | 1, _ => (table h).cell gTab 1 (by decide)
  | 2, _ => (table h).cell gTab 2 (by decide)
  | 3, _ => (table h).cell gTab 3 (by decide)
  | 4, _ => (table h).cell gTab 4 (by decide)
  | 5, _ => (table h).cell gTab 5 (by decide)
  | 6, _ => (table h).cell gTab 6 (by decide)
  | 7, _ => (table h).cell gTab 7 (by decide)
  | 8, _ => (table h).cell gTab 8 (by decide)
  | 9, _ => (table h).cell gTab 9 (by decide)
  | 10, _ => (table h).cell gTab 10 (by decide)
  | 11, _ => (table h).cell gTab 11 (by decide)
  | 12, _ => (table h).cell gTab 12 (by decide)
  | 13, _ => (table h).cell gTab 13 (by decide)
  | 14, _ => (table h).cell gTab 14 (by decide)
  | 15, _ => (table h).cell gTab 15 (by decide)
  | k + 16, hk => absurd hk (by omega)

set_option maxRecDepth 100000 in
theorem contract (H : Type) (enc : TypeId × Value → H) (W : World) (base : Nat) (args : Array Value) (ds gs : List (DataW H)) (before : List MemPlace)
    (hval : ∀ (j : Nat) t v, Tryz.f3.params[j]? = some t → args[j]? = some v → Value.okWide Tryz.prog W .any base t v)
    (hW : DataW.Whole enc Tryz.prog Tryz.f3.params.toList Rows.ratioBackSpec.vars false W args.toList ds gs before)
    (hsz : (DataW.weightsEach Tryz.prog (Tryz.f3.params.toList ++ Rows.ratioBackSpec.plain.varTypes Tryz.prog) (ds ++ gs)).all (· ≤ reachBytes) = true) (hL : laidMetH Tryz.prog Rows.ratioBackRow.laid W) :
    Calls Tryz.prog 3 args W fun e W' => ∃ v, e = .returned v ∧ Rows.ratioBackSpec.post enc Tryz.prog Tryz.f3 false true false false W args v W' := by
  have hW' := hW
  obtain ⟨p, q, hA0, hV, rfl, hfz, hnd⟩ := hW
  have hA : DataW.TrodAll enc Tryz.prog W 0 (fun _ => true) true Tryz.f3.params.toList args.toList ds p := hA0
  rw [Tryz.params3] at hA hval hsz
  obtain ⟨v0, vs0, d0, ds0, p0, q0, hargs, rfl, rfl, h0, r0⟩ := trodAll_cons hA
  obtain ⟨rfl, rfl, rfl⟩ := trodAll_nil r0
  obtain rfl : args = #[v0] := by cases args; simp_all
  obtain ⟨rfl, rfl⟩ := trodVars_none hV
  have lt0 : ∀ x ∈ p0, x.block < W.heap.size := by obtain ⟨m, hm⟩ := h0; exact DataW.trod_lt m _ _ _ hm
  obtain ⟨rs0, ra0, rn0, rc0, rX0, rb0, rm0, re0, rY0, rfl, hS0, hc0, hb0, hT0, hd0, hk0, hu0, hv0⟩ := open_Rat (hval 0 27 v0 rfl rfl) h0 (sized_at 0 hsz rfl rfl)
  clear hA0
  simp only [List.append_nil] at hW'
  refine (walk rs0 ra0 rn0 rc0 rX0 rb0 rm0 re0 rY0 W hc0 hb0 hS0 hd0 hk0 hT0 (digs_of hL)).mono fun e W' ⟨he, bel⟩ => ?_
  subst he
  exact ⟨_, rfl, _, _, _, [], _, [], hW', trodAll_mk1 (shut_bool Tryz.underlying4 _), (trodAll_cons_mk (Below.trod laidOut (by kernel_rfl) (of_decide_eq_true (by kernel_rfl)) h0 bel lt0) trodAll_mk0), rfl, bel.frame _, fun h => by cases h⟩

def setCells (cs : Array Value) : Obj → Obj
  | .cells _ t frozen => .cells cs t frozen
  | o => o
set_option maxRecDepth 100000 in
noncomputable def laidWorld (os : Os) : World :=
  { World.holding Tryz.prog os ⟨#[], #[], []⟩ with heap := ((World.holding Tryz.prog os ⟨#[], #[], []⟩).heap.modify 0 (setCells #[.int .u8 48, .int .u8 49, .int .u8 50, .int .u8 51, .int .u8 52, .int .u8 53, .int .u8 54, .int .u8 55, .int .u8 56, .int .u8 57, .int .u8 97, .int .u8 98, .int .u8 99, .int .u8 100, .int .u8 101, .int .u8 102])) }
set_option maxRecDepth 100000 in
theorem laid_met (os : Os) : laidMet Tryz.prog Rows.ratioBackRow.laid ((laidWorld os).forCall (fun _ _ => 0) ⟨#[], #[.agg #[.bool false, .slice none 0 0, .slice none 0 0]], []⟩).memory :=
  laidMet_of_run' 8 (by kernel_rfl) (by kernel_rfl)
theorem reads (os : Os) {H : Type} (enc : TypeId × Value → H) : ∃ places, DataW.whole enc Tryz.prog ((laidWorld os).forCall (fun _ _ => 0) ⟨#[], #[.agg #[.bool false, .slice none 0 0, .slice none 0 0]], []⟩).memory Tryz.f3.params.toList Rows.ratioBackSpec.vars false [Value.agg #[.bool false, .slice none 0 0, .slice none 0 0]] 8 = some ([.agg [.agg [.lit (.bool false), .nil], .nil]], [], places) :=
  ⟨[], by kernel_rfl⟩

set_option maxRecDepth 100000 in
theorem liftedUpto (os : Os) (started : os.Started) (H : Type) (enc : TypeId × Value → H) (F : Stop.Interp) :
    ReturnsInHanded {} Tryz.checked os 3 .any ((OpenSpec.ofChange Rows.ratioBackSpec).preRow enc Tryz.prog Tryz.f3 Rows.ratioBackRow.domain false Rows.ratioBackRow.laid) (((OpenSpec.ofChange Rows.ratioBackSpec).at F).post enc Tryz.prog Tryz.f3 false true false false) := by
  obtain ⟨places, hx⟩ := reads os enc
  refine returnsInHanded_of_row (C := Tryz.checked) (s := OpenSpec.ofChange Rows.ratioBackSpec) own started (by kernel_rfl) Tryz.func3
    (witness_row_at (enc := enc) (C := Tryz.checked) false (laidWorld os) #[.agg #[.bool false, .slice none 0 0, .slice none 0 0]] rfl (by kernel_rfl) (by kernel_rfl) (by kernel_rfl)
      (OpenSpec.preRow_of_cond 8 hx (by kernel_rfl) (fun k hk => by cases hk) (by kernel_rfl) (laid_met os))) ?_
  intro W base args ds gs before hval hW _ hk hsz hL _ _
  exact contract H enc W base args ds gs before hval hW hsz hL

theorem saidUpto : Rows.RatioBackSaid :=
  OpenClaim.holds_of_cond 3 Tryz.f3 rfl rfl rfl rfl rfl rfl rfl ⟨rfl, rfl, rfl, rfl, rfl⟩ rfl rfl rfl rfl rfl (by kernel_rfl) Tryz.func3 (by kernel_rfl)
    (of_decide_eq_true (by kernel_rfl)) (by unfold Func.isWrapper; first | (rw [if_pos (by decide +kernel)]; kernel_rfl) | (rw [if_neg (by decide +kernel)]; exact ⟨rfl, rfl⟩))
    (fun os started H enc _ F => by rw [OpenClaim.pre_eq_preRow]; exact liftedUpto os started H enc F)

theorem plain (f : FuncId) (fn : Func) (hf : Tryz.pinned.checked.prog.funcNamed "fulcrum/fulcrumlaw03.RatioBack" = some f) (hfn : Tryz.pinned.checked.prog.funcs[f]? = some fn) :
    false = Tryz.pinned.checked.prog.looks [] ∧ ∀ (j : Nat) t, fn.params[j]? = some t → Tryz.pinned.checked.prog.wantsStandIn t = false := by
  obtain rfl : f = 3 := Option.some.inj ((show Tryz.prog.funcNamed "fulcrum/fulcrumlaw03.RatioBack" = some 3 by kernel_rfl).symm.trans hf) |>.symm
  obtain rfl : fn = Tryz.f3 := (Option.some.inj (Tryz.func3.symm.trans hfn)).symm
  refine ⟨by kernel_rfl, fun j t ht => ?_⟩
  rw [Tryz.params3] at ht
  have hm := Array.mem_of_getElem? ht
  simp only [List.mem_toArray, List.mem_cons, List.not_mem_nil, or_false] at hm
  subst hm
  · exact (show Tryz.prog.wantsStandIn 27 = false by kernel_rfl)

theorem cardUpto : Rows.RatioBackCardSaid :=
  Claim7.holds_tied_plain_at .later [] _ _ _ _ saidUpto (fun _ h => by cases h) (by kernel_rfl) (fun _ h => by cases h) ratioBack_row_tie rfl ⟨rfl, rfl⟩ (by kernel_rfl) rfl plain (by kernel_rfl)
end Go.Proofs.YtpifbbopcngdhaaGreatDoor.ratioBack
namespace Go.Proofs.YtpifbbopcngdhaaGreatDoor
theorem ratioBack_holds : Rows.RatioBackCardSaid := ratioBack.cardUpto
#print axioms ratioBack_holds
end Go.Proofs.YtpifbbopcngdhaaGreatDoor
