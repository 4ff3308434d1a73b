/-
  From what a law's row hands over (clauses and marks of layer 21) to the walks' words; second form: all of it is short.
-/
import Derived.Test.YtbcbgglhhfdbcabOpenC
import Derived.Test.YtbcbgglhhfdbcabAN0
import Derived.Deep.Slices
namespace Go.Proofs.Ytbcbgglhhfdbcab
open Go.ChangeShapes Go.WideShapes Go.ChangeAt Go.RowKit Go.Deep
set_option linter.unusedVariables false
set_option linter.unusedSimpArgs false
def lst (c : Cla) : List Int := (List.range c.n).map c.g
theorem lst_len (c : Cla) : (lst c).length = c.n := by simp [lst]
theorem lst_at (c : Cla) {i : Nat} (h : i < c.n) : (lst c).getD i 0 = c.g i := by simp [lst, List.getD, h]
def lstC (f : Nat → Cla) (n : Nat) : List (List Int) := (List.range n).map fun i => lst (f i)
theorem lstC_len (f : Nat → Cla) (n : Nat) : (lstC f n).length = n := by simp [lstC]
theorem lstC_at (f : Nat → Cla) {n i : Nat} (h : i < n) : (lstC f n).getD i [] = lst (f i) := by simp [lstC, List.getD, h]
theorem ls_lits {W : World} {a : Option Addr} {c : Cla} (h : LitsAt W a c.n c.g) (hn : c.n ≤ 17592186044416) : LsAt W a (lst c) :=
  ⟨by rw [lst_len]; exact hn, fun x hx => by obtain ⟨i, hi, rfl⟩ := List.mem_map.1 hx; exact h.2.1 i (List.mem_range.1 hi), fun h0 => by
    rw [lst_len] at h0 ⊢
    obtain ⟨b, off, e, hc⟩ := h.2.2 h0
    exact ⟨b, off, e, fun i hi => by rw [lst_at c hi]; exact hc i hi⟩⟩
theorem cs_clas {W : World} {a : Option Addr} {n : Nat} {f : Nat → Cla} (h : ClasAt W a n f) (hn : n ≤ 17592186044416) (hl : ∀ i, i < n → (f i).n ≤ 17592186044416) : CsAt W a (lstC f n) (fun i => ((f i).a, (f i).c)) :=
  ⟨by rw [lstC_len]; exact hn, fun i hi => by rw [lstC_len] at hi; rw [lstC_at f hi]; exact ls_lits (h.2.1 i hi) (hl i hi), fun h0 => by
    rw [lstC_len] at h0 ⊢
    obtain ⟨b, off, e, hc⟩ := h.2.2 h0
    exact ⟨b, off, e, fun i hi => by rw [lstC_at f hi, lst_len]; exact hc i hi⟩⟩
theorem bulkC_mem {f : Nat → Cla} : ∀ {n i : Nat}, i < n → (f i).n + n ≤ bulkC f n
  | n + 1, i, h => by
    have hn : ∀ m, m ≤ bulkC f m := fun m => by induction m with | zero => exact Nat.zero_le _ | succ m ih => simp only [bulkC]; omega
    simp only [bulkC]
    rcases Nat.lt_or_ge i n with e | e
    · have := bulkC_mem (f := f) e; omega
    · obtain rfl : i = n := by omega
      have := hn i; omega
theorem bulkC_n (f : Nat → Cla) : ∀ m, m ≤ bulkC f m := fun m => by induction m with | zero => exact Nat.zero_le _ | succ m ih => simp only [bulkC]; omega
theorem cells_Mk : Try.prog.cellsOf 46 = 3 := by kernel_rfl
theorem cells_Cs21 : Try.prog.cellsOf 25 = 2 := by kernel_rfl
theorem cells_slC : Try.prog.cellsOf 22 = 1 := by kernel_rfl
theorem cells_slM : Try.prog.cellsOf 23 = 1 := by kernel_rfl
set_option maxRecDepth 100000 in
theorem open_Mk3 {H : Type} {enc : TypeId × Value → H} {W : World} {c0 c1 c2 : Value} {d : DataW H} {p : List MemPlace} {fuel : Nat}
    (hf : DataW.trod enc Try.prog W 0 (fun _ => true) true fuel 46 [c0, c1, c2] = some (d, p)) :
    ∃ m : Mk, c0 = .int .i64 m.l ∧ c1 = .int .i64 m.v ∧ c2 = .int .i64 m.r ∧ okM m ∧ 1 ≤ Rows.uptoBulk d := by
  obtain ⟨xs, n, _, hx, hl, hlen, hff⟩ := DataW.trod_struct Try.underlying46 hf
  obtain ⟨y0, y1, y2, rfl⟩ : ∃ y0 y1 y2, xs = [y0, y1, y2] := by
    match xs, hlen with
    | [y0, y1, y2], _ => exact ⟨y0, y1, y2, rfl⟩
  have h0 := hff 0 _ rfl
  have h1 := hff 1 _ rfl
  have h2 := hff 2 _ rfl
  change DataW.trod enc _ _ _ _ _ n 3 [c0] = some y0 at h0
  change DataW.trod enc _ _ _ _ _ n 3 [c1] = some y1 at h1
  change DataW.trod enc _ _ _ _ _ n 3 [c2] = some y2 at h2
  simp only [Prod.mk.injEq] at hx
  obtain ⟨rfl, rfl⟩ := hx
  obtain ⟨k, hk1, hk2, hk3⟩ := DataW.trod_int Try.underlying3 h0
  obtain ⟨l, hl1, hl2, hl3⟩ := DataW.trod_int Try.underlying3 h1
  obtain ⟨r, hr1, hr2, hr3⟩ := DataW.trod_int Try.underlying3 h2
  simp only [List.cons.injEq, and_true] at hk1 hl1 hr1
  subst hk1 hl1 hr1
  have b0 := bounds_i64 hk3
  have b1 := bounds_i64 hl3
  have b2 := bounds_i64 hr3
  exact ⟨⟨k, l, r⟩, rfl, rfl, rfl, ⟨⟨by show _ ≤ k; omega, by show k ≤ _; omega⟩, ⟨by show _ ≤ l; omega, by show l ≤ _; omega⟩, ⟨by show _ ≤ r; omega, by show r ≤ _; omega⟩⟩, by simp only [Rows.uptoBulk]; omega⟩
theorem bulkM_le {H : Type} {D : Nat → DataW H} : ∀ (n : Nat), (∀ i, i < n → 1 ≤ Rows.uptoBulk (D i)) → n ≤ Rows.uptoBulkAll ((List.range n).map D)
  | 0, _ => Nat.zero_le _
  | n + 1, h => by
    have h1 := bulkM_le n fun i hi => h i (by omega)
    have h2 := h n (by omega)
    rw [List.range_succ, List.map_append, bulkAll_appC]
    simp only [List.map, Rows.uptoBulkAll]
    omega
set_option maxRecDepth 100000 in
theorem open_Mks {H : Type} {enc : TypeId × Value → H} {W : World} {cs : List Value} {d : DataW H} {p : List MemPlace} {fuel : Nat}
    (hf : DataW.trod enc Try.prog W 0 (fun _ => true) true fuel 23 cs = some (d, p)) :
    ∃ (a : Option Addr) (c : Nat) (M : List Mk), cs = [.slice a M.length c] ∧ M.length ≤ c ∧ (M.length ≤ 17592186044416 → MsAt W a M) ∧ M.length + 1 ≤ Rows.uptoBulk d := by
  rcases open_slice Try.underlying23 hf with ⟨rfl, hx⟩ | ⟨a, len, cap, m, n, D, Pl, rfl, hb, hl, hm, hmm, hx, hel⟩
  · simp only [Prod.mk.injEq] at hx
    obtain ⟨rfl, rfl⟩ := hx
    exact ⟨none, 0, [], rfl, Nat.le_refl _, fun _ => ⟨by simp, fun m hm => by simp at hm, fun h => absurd h (by simp)⟩, by simp [Rows.uptoBulk]⟩
  · simp only [Prod.mk.injEq] at hx
    obtain ⟨rfl, rfl⟩ := hx
    simp only [if_true] at hmm
    have each : ∀ i, i < len → ∃ z : Mk, (W.cell? (a.add (i * 3)) = some (.int .i64 z.l) ∧ W.cell? (a.add (i * 3 + 1)) = some (.int .i64 z.v) ∧ W.cell? (a.add (i * 3 + 2)) = some (.int .i64 z.r)) ∧ okM z ∧ 1 ≤ Rows.uptoBulk (D i) := by
      intro i hi
      obtain ⟨cs', h1, h2⟩ := hel i (by omega)
      rw [cells_Mk] at h1
      obtain ⟨_, hlen, hcell⟩ := World.cells?_some h1
      match cs', hlen with
      | [c0, c1, c2], _ =>
        obtain ⟨z, rfl, rfl, rfl, hok, hbk⟩ := open_Mk3 h2
        have e0 := hcell 0 (by omega)
        have e1 := hcell 1 (by omega)
        have e2 := hcell 2 (by omega)
        rw [add_add] at e0 e1 e2
        exact ⟨z, ⟨by simpa using e0, by simpa using e1, by simpa using e2⟩, hok, hbk⟩
    obtain ⟨z, hz⟩ := choose_lt each
    have hlz : ((List.range len).map z).length = len := by simp
    have hzd : ∀ j, j < len → ((List.range len).map z).getD j default = z j := fun j hj => by simp [List.getD, hj]
    refine ⟨some a, cap, (List.range len).map z, by rw [hlz], by rw [hlz]; exact hl, fun hn => ⟨hn, fun m hm => ?_, fun h0 => ?_⟩, ?_⟩
    · obtain ⟨i, hi, rfl⟩ := List.mem_map.1 hm
      exact (hz i (List.mem_range.1 hi)).2.1
    · rw [hlz] at h0 ⊢
      obtain ⟨b, off, spot⟩ := a
      have h9 := (hz 0 h0).1.1
      have hspot : spot = none := by simpa [Addr.add] using World.cell?_spot h9
      subst hspot
      have ea : ∀ j, (Addr.mk b off none).add j = ⟨b, off + j, none⟩ := fun j => by unfold Addr.add; split <;> simp_all
      refine ⟨b, off, rfl, fun j hj => ?_⟩
      have := (hz j hj).1
      simp only [ea] at this
      rw [hzd j hj]
      exact ⟨this.1, this.2.1, this.2.2⟩
    · have := bulkM_le (D := D) len fun i hi => (hz i hi).2.2
      rw [hlz]
      simp only [Rows.uptoBulk]
      omega
/-- what a case is -/
structure CaV where
  a : Option Addr
  c : Nat
  C : List (List Int)
  f : Nat → Option Addr × Nat
  ma : Option Addr
  mc : Nat
  M : List Mk
structure CaV.ok (W : World) (o : CaV) : Prop where
  cs : CsAt W o.a o.C o.f
  ms : MsAt W o.ma o.M
  cap : o.M.length ≤ o.mc
  cn : o.C.length ≤ 1048575
  mn : o.M.length ≤ 1048575
  cl : ∀ i, i < o.C.length → (o.C.getD i []).length ≤ 1048576
set_option maxRecDepth 100000 in
theorem open_Case {H : Type} {enc : TypeId × Value → H} {W : World} {r : Reach} {b0 : Nat} {v : Value} {d : DataW H} {p : List MemPlace}
    (hv : Value.okWide Try.prog W r b0 25 v) (h : DataW.Trod enc Try.prog W 0 (fun _ => true) true 25 v d p) (hbk : Rows.uptoBulk d ≤ 1048576) :
    ∃ o : CaV, v = .agg #[.slice o.a o.C.length o.c, .slice o.ma o.M.length o.mc] ∧ o.ok W := by
  obtain ⟨cs, rfl, hcs⟩ := okWide_struct Try.underlying25 hv
  obtain ⟨fuel, hf⟩ := h
  obtain ⟨y0, y1, n, hx, hl, h0, h1⟩ := trod_struct2 Try.underlying25 hf
  rw [cells_Cs21] at hcs
  obtain ⟨c0, c1, rfl⟩ : ∃ c0 c1, cs = #[c0, c1] := by
    match cs, hcs with
    | ⟨[c0, c1]⟩, _ => exact ⟨c0, c1, rfl⟩
  simp only [Value.cells, List.drop_zero, cells_slC, cells_slM] at h0 h1
  change DataW.trod enc _ _ _ _ _ n 22 [c0] = some y0 at h0
  change DataW.trod enc _ _ _ _ _ n 23 [c1] = some y1 at h1
  simp only [Prod.mk.injEq] at hx
  obtain ⟨rfl, rfl⟩ := hx
  obtain ⟨a, len, cap, rfl⟩ : ∃ a m c, c0 = .slice a m c := by
    rcases open_slice Try.underlying22 h0 with ⟨hcs, _⟩ | ⟨a, len, cap, _, _, _, _, hcs, _⟩
    · exact ⟨_, _, _, by simpa using hcs⟩
    · exact ⟨_, _, _, by simpa using hcs⟩
  obtain ⟨f, hC, hcc, hca, hbu⟩ := open_Clas (a := a) (len := len) (cap := cap) (d := y0.1) (p := y0.2) ⟨n, h0⟩
  obtain ⟨ma, mc, M, hc1, hmc, hM, hbm⟩ := open_Mks (cs := [c1]) (d := y1.1) (p := y1.2) h1
  simp only [List.cons.injEq, and_true] at hc1
  subst hc1
  simp only [Rows.uptoBulk, Rows.uptoBulkAll] at hbk
  have hn := bulkC_n f len
  refine ⟨⟨a, cap, lstC f len, fun i => ((f i).a, (f i).c), ma, mc, M⟩, by simp only [lstC_len], cs_clas hC (by omega) (fun i hi => by have := bulkC_mem (f := f) hi; omega), hM (by omega), hmc, by simp only [lstC_len]; omega, by simp only; omega, fun i hi => ?_⟩
  simp only [lstC_len] at hi ⊢
  rw [lstC_at f hi, lst_len]
  have := bulkC_mem (f := f) hi
  omega
end Go.Proofs.Ytbcbgglhhfdbcab
