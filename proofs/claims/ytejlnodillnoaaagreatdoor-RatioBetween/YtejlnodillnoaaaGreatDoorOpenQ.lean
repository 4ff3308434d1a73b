import Derived.Test.YtejlnodillnoaaaGreatDoorRows
import Derived.Test.YtejlnodillnoaaaGreatDoorMem
import Derived.ProofKit
import Derived.OpenShut
import Derived.ShutString
import Derived.ChangeOld
import Derived.JoinedCond
import Derived.Deep.CondSized
import Derived.Sort.Row
import Derived.ChangeSame
set_option linter.unusedSimpArgs false
namespace Go.Proofs.YtejlnodillnoaaaGreatDoor
open Go.ChangeShapes Go.WideShapes Go.ChangeAt Go.RowKit
set_option linter.unusedVariables false
theorem own : ownKnob Tryz.prog.godebug = none := by kernel_rfl
theorem laidOut : laidOutB Tryz.prog = true := by kernel_rfl
theorem bytes_u32 : Tryz.prog.bytesOf 60 = 4 := by kernel_rfl
def valL : List Int → Nat
  | [] => 0
  | z :: r => valL r * BB + z.toNat
theorem valL_lt : ∀ (l : List Int), (∀ z ∈ l, 0 ≤ z ∧ z < 4294967296) → valL l < BB ^ l.length
  | [], _ => by simp [valL]
  | z :: r, h => by
    have h1 := valL_lt r fun x hx => h x (List.mem_cons_of_mem _ hx)
    have h2 := h z List.mem_cons_self
    simp only [valL, List.length_cons, pow_succ']
    have : (valL r + 1) * BB ≤ BB ^ r.length * BB := Nat.mul_le_mul_right _ h1
    rw [Nat.add_mul, BB_eq] at this
    rw [BB_eq]
    omega
theorem valL_dg : ∀ (l : List Int) (i : Nat), (∀ z ∈ l, 0 ≤ z ∧ z < 4294967296) → i < l.length → ((dg (valL l) i : Nat) : Int) = l.getD i 0
  | [], i, _, hi => absurd hi (by simp)
  | z :: r, i, h, hi => by
    have h2 := h z List.mem_cons_self
    simp only [valL]
    cases i with
    | zero =>
      rw [dg0, ← BB_eq, Nat.mul_comm, Nat.mul_add_mod, BB_eq, Nat.mod_eq_of_lt (by omega)]
      simp; omega
    | succ i =>
      have e : dg (valL r * BB + z.toNat) (i + 1) = dg (valL r) i := by
        have := dg_hi (valL r) z.toNat (i + 1) 1 (by omega) (by rw [Nat.pow_one, BB_eq]; omega)
        rw [Nat.pow_one] at this
        exact this
      rw [e, valL_dg r i (fun x hx => h x (List.mem_cons_of_mem _ hx)) (by simpa using hi)]
      simp
theorem wf_u32 {n : Int} (h : (Lit.int .u32 n).wf = true) : 0 ≤ n ∧ n < 4294967296 := by
  have := bounds_u32 h
  omega
set_option maxRecDepth 30000 in
theorem open_nat {H : Type} {enc : TypeId × Value → H} {W : World} {a : Option Addr} {len cap : Nat} {d : DataW H} {p : List MemPlace} {t : TypeId} (ht : Tryz.prog.underlying t = some (.slice 60))
    (h : DataW.Trod enc Tryz.prog W 0 (fun _ => true) true t (.slice a len cap) d p) (hsz : ∀ elems spare, d = .slice elems spare → (elems.length + spare.length) * Tryz.prog.bytesOf 60 ≤ reachBytes) :
    ∃ X, Seg W a X len ∧ len ≤ cap ∧ len ≤ 35184372087808 ∧ len + 1 ≤ Rows.uptoBulk d := by
  obtain ⟨fuel, hf⟩ := h
  rcases open_ints ht Tryz.underlying60 (by kernel_rfl) hf with ⟨hcs, hx⟩ | ⟨x, l, c, zs, hcs, _, hl, hm, hz, hx, hcell, hwz⟩
  · simp [Value.cells] at hcs
    obtain ⟨rfl, rfl, rfl⟩ := hcs
    simp only [Prod.mk.injEq] at hx
    obtain ⟨rfl, rfl⟩ := hx
    exact ⟨0, Seg.nil _ _, Nat.le_refl _, by omega, by simp [Rows.uptoBulk]⟩
  · simp [Value.cells] at hcs
    obtain ⟨rfl, rfl, rfl⟩ := hcs
    simp only [Prod.mk.injEq] at hx
    obtain ⟨rfl, rfl⟩ := hx
    simp only [if_true] at hz
    have hs := hsz _ _ rfl
    rw [bytes_u32] at hs
    simp only [lits, List.length_map, List.length_take, List.length_drop, reachBytes] at hs
    have hlim : ∀ z ∈ zs.take len, 0 ≤ z ∧ z < 4294967296 := fun z hz' => wf_u32 (hwz z (List.mem_of_mem_take hz'))
    have hlen : (zs.take len).length = len := by simp; omega
    have hbulk : ∀ (l : List Int), l.length ≤ Rows.uptoBulkAll (lits (H := H) .u32 l) := by
      intro l
      induction l with
      | nil => simp [lits, Rows.uptoBulkAll]
      | cons z r ih => simp only [lits, List.map_cons, Rows.uptoBulkAll, Rows.uptoBulk, List.length_cons] at ih ⊢; omega
    refine ⟨valL (zs.take len), ⟨by have := valL_lt _ hlim; rwa [hlen] at this, fun hn => ?_⟩, hl, by omega, ?_⟩
    · obtain ⟨b, off, spot⟩ := x
      have hspot : spot = none := by simpa [Addr.add] using World.cell?_spot (hcell 0 (by omega))
      subst hspot
      have hc : ∀ i, i < len → W.cell? ⟨b, off + i, none⟩ = some (.int .u32 (dg (valL (zs.take len)) i : Nat)) := by
        intro i hi
        have h1 := hcell i (by omega)
        have ea : (Addr.mk b off none).add i = ⟨b, off + i, none⟩ := by unfold Addr.add; split <;> simp_all
        rw [ea] at h1
        rw [h1, valL_dg _ _ hlim (by omega)]
        congr 2
        simp [hi]
      refine ⟨b, off, rfl, ?_, hc⟩
      have := hc 0 hn
      obtain ⟨cur, e, fr, hb, _⟩ := Sort.cells_of_cell? this
      exact (Array.getElem?_eq_some_iff.1 hb).1
    · have := hbulk (zs.take len)
      simp only [Rows.uptoBulk]
      omega
theorem cells_bool : Tryz.prog.cellsOf 4 = 1 := by kernel_rfl
theorem cells_nat : Tryz.prog.cellsOf 23 = 1 := by kernel_rfl
theorem cells_Int : Tryz.prog.cellsOf 25 = 2 := by kernel_rfl
theorem sized_at {H : Type} {P : Program} : ∀ {ts : List TypeId} {ds : List (DataW H)} (j : Nat) {t : TypeId} {d : DataW H}, (DataW.weightsEach P ts ds).all (· ≤ reachBytes) = true → ts[j]? = some t → ds[j]? = some d → (d.weights P t).all (· ≤ reachBytes) = true := by
  intro ts ds j t d h ht hd
  rw [List.all_eq_true] at h ⊢
  exact fun x hx => h x (DataW.weights_mem_each ht hd x hx)
theorem cells_Rat : Tryz.prog.cellsOf 27 = 3 := by kernel_rfl
set_option maxRecDepth 100000 in
theorem open_Int2 {H : Type} {enc : TypeId × Value → H} {W : World} {c0 c1 : Value} {d : DataW H} {p : List MemPlace}
    (h : DataW.Trod enc Tryz.prog W 0 (fun _ => true) true 25 (.agg #[c0, c1]) d p)
    (hsz : (d.weights Tryz.prog 25).all (· ≤ reachBytes) = true) :
    ∃ s a len cap X, c0 = .bool s ∧ c1 = .slice a len cap ∧ Seg W a X len ∧ len ≤ cap ∧ len ≤ 35184372087808 ∧ len + 1 ≤ Rows.uptoBulk d := by
  obtain ⟨fuel, hf⟩ := h
  obtain ⟨y0, y1, n, hx, hl, h0, h1⟩ := trod_struct2 Tryz.underlying25 hf
  simp only [Value.cells, List.drop_zero, cells_bool, cells_nat] at h0 h1
  change DataW.trod enc _ _ _ _ _ n 4 [c0] = _ at h0
  change DataW.trod enc _ _ _ _ _ n 23 [c1] = _ at h1
  obtain ⟨b', hb, hx0⟩ := DataW.trod_bool Tryz.underlying4 h0
  simp only [List.cons.injEq, and_true] at hb
  subst hb hx0
  simp only [Prod.mk.injEq] at hx
  obtain ⟨rfl, rfl⟩ := hx
  have hc1 : ∃ a len cap, c1 = .slice a len cap := by
    rcases open_ints A_under_nat Tryz.underlying60 (by kernel_rfl) h1 with ⟨hcs, _⟩ | ⟨x, l, c, zs, hcs, _⟩
    · simp at hcs; exact ⟨_, _, _, hcs⟩
    · simp at hcs; exact ⟨_, _, _, hcs⟩
  obtain ⟨a, len, cap, rfl⟩ := hc1
  obtain ⟨y1d, y1p⟩ := y1
  obtain ⟨X, hS, hc, hb, hu⟩ := open_nat (len := len) (cap := cap) (a := a) (d := y1d) (p := y1p) A_under_nat ⟨n, h1⟩ (fun elems spare e => by
    have e' : y1d = .slice elems spare := e
    subst e'
    have hu := Tryz.underlying25
    simp only [DataW.weights, hu, DataW.weightsEach, List.map] at hsz
    simp only [List.all_append, Bool.and_eq_true] at hsz
    have h2 := hsz.2.1
    simp only [A_under_nat] at h2
    simp only [List.all_cons, Bool.and_eq_true, decide_eq_true_eq] at h2
    exact h2.1)
  exact ⟨b', a, len, cap, X, rfl, rfl, hS, hc, hb, by simp only [Rows.uptoBulk, Rows.uptoBulkAll] at hu ⊢; omega⟩
set_option maxRecDepth 100000 in
theorem open_Rat {H : Type} {enc : TypeId × Value → H} {W : World} {r : Reach} {b0 : Nat} {v : Value} {d : DataW H} {p : List MemPlace}
    (hv : Value.okWide Tryz.prog W r b0 27 v) (h : DataW.Trod enc Tryz.prog W 0 (fun _ => true) true 27 v d p)
    (hsz : (d.weights Tryz.prog 27).all (· ≤ reachBytes) = true) :
    ∃ s a n c X b m e Y, v = .agg #[.bool s, .slice a n c, .slice b m e] ∧ Seg W a X n ∧ n ≤ c ∧ n ≤ 35184372087808 ∧ Seg W b Y m ∧ m ≤ e ∧ m ≤ 35184372087808 ∧ n + 1 ≤ Rows.uptoBulk d ∧ m + 1 ≤ Rows.uptoBulk d := by
  obtain ⟨cs, rfl, hcs⟩ := okWide_struct Tryz.underlying27 hv
  obtain ⟨fuel, hf⟩ := h
  obtain ⟨y0, y1, n, hx, hl, h0, h1⟩ := trod_struct2 Tryz.underlying27 hf
  rw [cells_Rat] at hcs
  obtain ⟨c0, c1, c2, rfl⟩ : ∃ c0 c1 c2, cs = #[c0, c1, c2] := by
    match cs, hcs with
    | ⟨[c0, c1, c2]⟩, _ => exact ⟨c0, c1, c2, rfl⟩
  simp only [Value.cells, List.drop_zero, cells_Int, cells_nat] at h0 h1
  change DataW.trod enc _ _ _ _ _ n 25 [c0, c1] = _ at h0
  change DataW.trod enc _ _ _ _ _ n 23 [c2] = _ at h1
  simp only [Prod.mk.injEq] at hx
  obtain ⟨rfl, rfl⟩ := hx
  have hc2 : ∃ a len cap, c2 = .slice a len cap := by
    rcases open_ints A_under_nat Tryz.underlying60 (by kernel_rfl) h1 with ⟨hcs, _⟩ | ⟨x, l, c, zs, hcs, _⟩
    · simp at hcs; exact ⟨_, _, _, hcs⟩
    · simp at hcs; exact ⟨_, _, _, hcs⟩
  obtain ⟨b, m, e, rfl⟩ := hc2
  obtain ⟨y0d, y0p⟩ := y0
  obtain ⟨y1d, y1p⟩ := y1
  have hu := Tryz.underlying27
  simp only [DataW.weights, hu, DataW.weightsEach, List.map] at hsz
  simp only [List.all_append, Bool.and_eq_true] at hsz
  obtain ⟨s, a, len, cap, X, rfl, rfl, hS, hc, hb, hu0⟩ := open_Int2 (c0 := c0) (c1 := c1) (d := y0d) (p := y0p) ⟨n, h0⟩ hsz.1
  obtain ⟨Y, hT, hd, hk, hu1⟩ := open_nat (len := m) (cap := e) (a := b) (d := y1d) (p := y1p) A_under_nat ⟨n, h1⟩ (fun elems spare e => by
    have e' : y1d = .slice elems spare := e
    subst e'
    have h2 := hsz.2.1
    simp only [DataW.weights, A_under_nat] at h2
    simp only [List.all_cons, Bool.and_eq_true, decide_eq_true_eq] at h2
    exact h2.1)
  exact ⟨s, a, len, cap, X, b, m, e, Y, rfl, hS, hc, hb, hT, hd, hk, by simp only [Rows.uptoBulk, Rows.uptoBulkAll] at hu0 hu1 ⊢; omega, by simp only [Rows.uptoBulk, Rows.uptoBulkAll] at hu0 hu1 ⊢; omega⟩
end Go.Proofs.YtejlnodillnoaaaGreatDoor
