/-
  Values that came in: atoms, what is decided, truths.
-/
import Derived.Test.YtfodejhipnmgnaaOpenC
namespace Go.Proofs.Ytfodejhipnmgnaa
open Go.ChangeShapes Go.WideShapes Go.ChangeAt Go.RowKit
set_option linter.unusedVariables false
set_option linter.unusedSimpArgs false
set_option maxRecDepth 30000 in
theorem open_Lits {H : Type} {enc : TypeId × Value → H} {W : World} {a : Option Addr} {len cap : Nat} {d : DataW H} {p : List MemPlace}
    (h : DataW.Trod enc Try.prog W 0 (fun _ => true) true 40 (.slice a len cap) d p) :
    ∃ g, LitsAt W a len g ∧ len ≤ cap ∧ len + 1 ≤ Rows.uptoBulk d := by
  obtain ⟨fuel, hf⟩ := h
  rcases open_ints Try.underlying40 Try.underlying3 cells_intC hf with ⟨hcs, hx⟩ | ⟨x, l, c, zs, hcs, _, hl, hm, hz, hx, hcell, hwz⟩
  · simp [Value.cells] at hcs
    obtain ⟨rfl, rfl, rfl⟩ := hcs
    simp only [Prod.mk.injEq] at hx
    obtain ⟨rfl, rfl⟩ := hx
    exact ⟨fun _ => 0, ⟨by omega, fun i hi => absurd hi (by omega), fun h => absurd h (by omega)⟩, Nat.le_refl _, by simp [Rows.uptoBulk]⟩
  · simp [Value.cells] at hcs
    obtain ⟨rfl, rfl, rfl⟩ := hcs
    simp only [Prod.mk.injEq] at hx
    obtain ⟨rfl, rfl⟩ := hx
    simp only [if_true] at hz
    have hlen : (zs.take len).length = len := by simp; omega
    unfold maxLen at hm
    refine ⟨fun i => zs.getD i 0, ⟨by omega, fun i hi => ?_, fun hn => ?_⟩, hl, ?_⟩
    · have e : zs.getD i 0 = zs[i]'(by omega) := by simp [List.getD, List.getElem?_eq_getElem (show i < zs.length by omega)]
      have := bounds_i64 (hwz (zs.getD i 0) (by rw [e]; exact List.getElem_mem _))
      omega
    · obtain ⟨b, off, spot⟩ := x
      have hspot : spot = none := by simpa [Addr.add] using World.cell?_spot (hcell 0 (by omega))
      subst hspot
      refine ⟨b, off, rfl, fun i hi => ?_⟩
      have h1 := hcell i (by omega)
      have ea : (Addr.mk b off none).add i = ⟨b, off + i, none⟩ := by unfold Addr.add; split <;> simp_all
      rw [ea] at h1
      exact h1
    · have := bulk_litsC (H := H) (zs.take len)
      simp only [Rows.uptoBulk]
      omega
theorem weightsAll_mem9 {H : Type} {P : Program} {t : TypeId} {f : Nat → Bool} : ∀ {l : List (DataW H)} {d : DataW H}, (DataW.weightsAll P t l).all f = true → d ∈ l → (d.weights P t).all f = true
  | [], _, _, hm => absurd hm (by simp)
  | x :: l, d, h, hm => by
    simp only [DataW.weightsAll, List.all_append, Bool.and_eq_true] at h
    rcases List.mem_cons.1 hm with rfl | hm
    · exact h.1
    · exact weightsAll_mem9 h.2 hm
theorem bytes_int9 : Try.prog.bytesOf 3 = 8 := by kernel_rfl
theorem sized_at9 {H : Type} {P : Program} {ts : List TypeId} {ds : List (DataW H)} (j : Nat) {t : TypeId} {d : DataW H} (h : (DataW.weightsEach P ts ds).all (· ≤ reachBytes) = true) (ht : ts[j]? = some t) (hd : ds[j]? = some d) : (d.weights P t).all (· ≤ reachBytes) = true := by
  rw [List.all_eq_true] at h ⊢
  exact fun x hx => h x (DataW.weights_mem_each ht hd x hx)
set_option maxRecDepth 30000 in
theorem open_ClasS {H : Type} {enc : TypeId × Value → H} {W : World} {a : Option Addr} {len cap : Nat} {d : DataW H} {p : List MemPlace}
    (h : DataW.Trod enc Try.prog W 0 (fun _ => true) true 34 (.slice a len cap) d p) (hsz : (d.weights Try.prog 34).all (· ≤ reachBytes) = true) :
    ∃ f, ClasAt W a len f ∧ (∀ i, i < len → (f i).n ≤ (f i).c) ∧ len ≤ cap ∧ ∀ i, i < len → (f i).n ≤ 17592186044416 := by
  obtain ⟨fuel, hf⟩ := h
  rcases Go.Deep.open_int_rows Try.underlying34 Try.underlying41 Try.underlying3 cells_ClauseC cells_intC hf with ⟨hcs, hx⟩ | ⟨x, l, c, A, L, C, Z, hcs, _, hl, hm, hx, hel⟩
  · simp [Value.cells] at hcs
    obtain ⟨rfl, rfl, rfl⟩ := hcs
    simp only [Prod.mk.injEq] at hx
    obtain ⟨rfl, rfl⟩ := hx
    exact ⟨default, ⟨by omega, fun i hi => absurd hi (by omega), fun h => absurd h (by omega)⟩, fun i hi => absurd hi (by omega), Nat.le_refl _, fun i hi => absurd hi (by omega)⟩
  · simp [Value.cells] at hcs
    obtain ⟨rfl, rfl, rfl⟩ := hcs
    simp only [Prod.mk.injEq] at hx
    obtain ⟨rfl, rfl⟩ := hx
    unfold maxLen at hm
    have hrow : ∀ i, i < cap → L i + 1 ≤ Rows.uptoBulk (Go.Deep.intRow (H := H) .i64 (A i) (L i) (Z i)) := by
      intro i hi
      obtain ⟨_, h1, _, h3, _, h5, _⟩ := hel i hi
      unfold Go.Deep.intRow
      cases hA : A i with
      | none => have := h5 hA; simp only [Rows.uptoBulk]; omega
      | some y =>
        have := bulk_litsC (H := H) ((Z i).take (L i))
        have e : ((Z i).take (L i)).length = L i := by simp; omega
        simp only [Rows.uptoBulk]
        omega
    refine ⟨fun i => ⟨A i, L i, C i, fun j => (Z i).getD j 0⟩, ⟨by omega, fun i hi => ?_, fun hn => ?_⟩, fun i hi => (hel i (by omega)).2.1, hl, ?_⟩
    · obtain ⟨_, h1, h2, h3, h4, h5, h6⟩ := hel i (by omega)
      unfold maxLen at h2
      refine ⟨by show L i ≤ _; omega, fun j hj => ?_, fun hn => ?_⟩
      · have hj' : j < L i := hj
        have e : (Z i).getD j 0 = (Z i)[j]'(by omega) := by simp [List.getD, List.getElem?_eq_getElem (show j < (Z i).length by omega)]
        have := bounds_i64 (h4 ((Z i).getD j 0) (by rw [e]; exact List.getElem_mem _))
        show -9223372036854775808 ≤ (Z i).getD j 0 ∧ (Z i).getD j 0 ≤ 9223372036854775807
        omega
      · have hn' : 0 < L i := hn
        cases hA : A i with
        | none => have := h5 hA; omega
        | some y =>
          have hc := (h6 y hA).2
          obtain ⟨b, off, spot⟩ := y
          have hspot : spot = none := by simpa [Addr.add] using World.cell?_spot (hc 0 (by omega))
          subst hspot
          refine ⟨b, off, hA, fun j hj => ?_⟩
          have hj' : j < L i := hj
          have h9 := hc j (by omega)
          have ea : (Addr.mk b off none).add j = ⟨b, off + j, none⟩ := by unfold Addr.add; split <;> simp_all
          rw [ea] at h9
          exact h9
    · obtain ⟨b, off, spot⟩ := x
      have hspot : spot = none := by simpa [Addr.add] using World.cell?_spot (hel 0 (by omega)).1
      subst hspot
      refine ⟨b, off, rfl, fun i hi => ?_⟩
      have h1 := (hel i (by omega)).1
      have ea : (Addr.mk b off none).add i = ⟨b, off + i, none⟩ := by unfold Addr.add; split <;> simp_all
      rw [ea] at h1
      exact h1
    · intro i hi
      have hi9 : L i * 8 ≤ reachBytes := by
        have hu := Try.underlying34
        have hu2 := Try.underlying41
        simp only [DataW.weights, hu] at hsz
        simp only [List.all_cons, List.all_append, Bool.and_eq_true] at hsz
        have h1 := weightsAll_mem9 hsz.2.1 (List.mem_map.2 ⟨i, List.mem_range.2 hi, rfl⟩)
        obtain ⟨_, h2, _, h3, _, h5, _⟩ := hel i (by omega)
        unfold Go.Deep.intRow at h1
        cases hA : A i with
        | none =>
          have h6 := h5 hA
          have h10 : L i = 0 := by omega
          rw [h10]; exact Nat.zero_le _
        | some y =>
          rw [hA] at h1
          simp only [DataW.weights, hu2] at h1
          simp only [List.all_cons, Bool.and_eq_true, decide_eq_true_eq, bytes_int9, lits, List.length_map, List.length_take] at h1
          have h9 := h1.1
          have h8 : min (L i) (Z i).length = L i := by omega
          rw [h8] at h9
          have h7 : L i * 8 ≤ (L i + ((Z i).drop (L i)).length) * 8 := by omega
          exact Nat.le_trans h7 h9
      show L i ≤ 17592186044416
      rw [show reachBytes = 140737488351232 from rfl] at hi9
      omega
/-- Values as they came in -/
structure VaV where
  n : Int
  da : Option Addr
  dn : Nat
  dc : Nat
  d : Nat → Int
  ta : Option Addr
  tn : Nat
  tc : Nat
  t : Nat → Bool
def VaV.cells (o : VaV) : List Value := [.int .i64 o.n, .slice o.da o.dn o.dc, .slice o.ta o.tn o.tc]
structure VaV.ok (W : World) (o : VaV) : Prop where
  lo : -9223372036854775808 ≤ o.n
  hi : o.n ≤ 9223372036854775807
  da : LitsAt W o.da o.dn o.d
  ta : TruthsAt W o.ta o.tn o.t
end Go.Proofs.Ytfodejhipnmgnaa
