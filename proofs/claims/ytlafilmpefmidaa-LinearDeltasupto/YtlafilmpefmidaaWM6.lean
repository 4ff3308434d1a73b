/-
  Layer 6: products of numbers with an infinitely small part.
-/
import Derived.Test.YtlafilmpefmidaaOpenL
import Derived.Test.YtlafilmpefmidaaWL3
import Derived.Test.YtlafilmpefmidaaWD1
import Derived.Test.YtlafilmpefmidaaWL6
namespace Go.Proofs.Ytlafilmpefmidaa
open Go.ChangeShapes Go.WideShapes Go.ChangeAt Go.RowKit Go.Deep
set_option linter.unusedVariables false

theorem cells_Del : Try.prog.cellsOf 33 = 6 := by kernel_rfl
theorem bytes_Del : Try.prog.bytesOf 33 = 112 := by kernel_rfl

/-- a list of numbers with an infinitely small part lies in W: six cells a place -/
def DelsAt (W : World) (a : Option Addr) (n : Nat) (q r : Nat → RatV) : Prop :=
  0 < n → ∃ b off, a = some ⟨b, off, none⟩ ∧ b < W.heap.size ∧ ∀ i, i < n → (q i).lies W b (off + i * 6) ∧ (r i).lies W b (off + i * 6 + 3)

set_option maxRecDepth 100000 in
theorem open_Del6 {H : Type} {enc : TypeId × Value → H} {W : World} {c0 c1 c2 c3 c4 c5 : Value} {d : DataW H} {p : List MemPlace} {fuel : Nat}
    (hf : DataW.trod enc Try.prog W 0 (fun _ => true) true fuel 33 [c0, c1, c2, c3, c4, c5] = some (d, p))
    (hsz : (d.weights Try.prog 33).all (· ≤ reachBytes) = true) :
    ∃ q r : RatV, c0 = .bool q.s ∧ c1 = .slice q.a q.n q.c ∧ c2 = .slice q.b q.m q.e ∧ c3 = .bool r.s ∧ c4 = .slice r.a r.n r.c ∧ c5 = .slice r.b r.m r.e ∧ q.ok W ∧ r.ok W ∧ (q.n + q.m + 1) + (r.n + r.m + 1) ≤ Rows.uptoBulk d := by
  obtain ⟨y0, y1, n, hx, hl, h0, h1⟩ := trod_struct2 Try.underlying33 hf
  simp only [List.drop_zero, cells_Rat] at h0 h1
  change DataW.trod enc _ _ _ _ _ n 31 [c0, c1, c2] = _ at h0
  change DataW.trod enc _ _ _ _ _ n 31 [c3, c4, c5] = _ at h1
  simp only [Prod.mk.injEq] at hx
  obtain ⟨rfl, rfl⟩ := hx
  obtain ⟨y0d, y0p⟩ := y0
  obtain ⟨y1d, y1p⟩ := y1
  have hu := Try.underlying33
  simp only [DataW.weights, hu, DataW.weightsEach, List.map] at hsz
  simp only [List.all_append, Bool.and_eq_true] at hsz
  obtain ⟨q, r0, r1, r2, hok, hbk⟩ := open_Rat3 h0 hsz.1
  obtain ⟨r, t0, t1, t2, hok', hbk'⟩ := open_Rat3 h1 hsz.2.1
  exact ⟨q, r, r0, r1, r2, t0, t1, t2, hok, hok', by simp only [Rows.uptoBulk, Rows.uptoBulkAll] at hbk hbk' ⊢; omega⟩

theorem bulkV2_le {H : Type} {D : Nat → DataW H} {q r : Nat → RatV} : ∀ (n : Nat), (∀ i, i < n → ((q i).n + (q i).m + 1) + ((r i).n + (r i).m + 1) ≤ Rows.uptoBulk (D i)) → bulkV q n + bulkV r n ≤ Rows.uptoBulkAll ((List.range n).map D)
  | 0, _ => by simp [bulkV]
  | n + 1, h => by
    have h1 := bulkV2_le n fun i hi => h i (by omega)
    have h2 := h n (by omega)
    rw [List.range_succ, List.map_append, bulkAll_append]
    simp only [bulkV, List.map, Rows.uptoBulkAll]
    omega

set_option maxRecDepth 100000 in
theorem open_Dels {H : Type} {enc : TypeId × Value → H} {W : World} {cs : List Value} {d : DataW H} {p : List MemPlace} {fuel : Nat}
    (hf : DataW.trod enc Try.prog W 0 (fun _ => true) true fuel 24 cs = some (d, p))
    (hsz : (d.weights Try.prog 24).all (· ≤ reachBytes) = true) :
    ∃ a len cap q r, cs = [.slice a len cap] ∧ DelsAt W a len q r ∧ (∀ i, i < len → (q i).ok W ∧ (r i).ok W) ∧ len ≤ cap ∧ len * 112 ≤ reachBytes ∧ bulkV q len + bulkV r len + 1 ≤ Rows.uptoBulk d := by
  rcases open_slice Try.underlying24 hf with ⟨rfl, hx⟩ | ⟨a, len, cap, m, n, D, Pl, rfl, hb, hl, hm, hmm, hx, hel⟩
  · simp only [Prod.mk.injEq] at hx
    obtain ⟨rfl, rfl⟩ := hx
    exact ⟨none, 0, 0, default, default, rfl, fun h => absurd h (by omega), fun i hi => absurd hi (by omega), Nat.le_refl _, by simp [reachBytes], by simp [bulkV, Rows.uptoBulk]⟩
  · simp only [Prod.mk.injEq] at hx
    obtain ⟨rfl, rfl⟩ := hx
    have hu := Try.underlying24
    simp only [DataW.weights, hu] at hsz
    simp only [List.all_cons, List.all_append, Bool.and_eq_true, decide_eq_true_eq, bytes_Del, List.length_map, List.length_range] at hsz
    obtain ⟨hs0, hs1, _⟩ := hsz
    simp only [if_true] at hmm
    have each : ∀ i, i < len → ∃ z : RatV × RatV, ((W.cell? (a.add (i * 6)) = some (.bool z.1.s) ∧ W.cell? (a.add (i * 6 + 1)) = some (.slice z.1.a z.1.n z.1.c) ∧ W.cell? (a.add (i * 6 + 2)) = some (.slice z.1.b z.1.m z.1.e)) ∧
        (W.cell? (a.add (i * 6 + 3)) = some (.bool z.2.s) ∧ W.cell? (a.add (i * 6 + 4)) = some (.slice z.2.a z.2.n z.2.c) ∧ W.cell? (a.add (i * 6 + 5)) = some (.slice z.2.b z.2.m z.2.e))) ∧ (z.1.ok W ∧ z.2.ok W) ∧ (z.1.n + z.1.m + 1) + (z.2.n + z.2.m + 1) ≤ Rows.uptoBulk (D i) := by
      intro i hi
      obtain ⟨cs', h1, h2⟩ := hel i (by omega)
      rw [cells_Del] at h1
      obtain ⟨_, hlen, hcell⟩ := World.cells?_some h1
      match cs', hlen with
      | [c0, c1, c2, c3, c4, c5], _ =>
        obtain ⟨q, r, rfl, rfl, rfl, rfl, rfl, rfl, hok, hok', hbk⟩ := open_Del6 h2 (weightsAll_mem hs1 (List.mem_map.2 ⟨i, List.mem_range.2 hi, rfl⟩))
        have e0 := hcell 0 (by omega)
        have e1 := hcell 1 (by omega)
        have e2 := hcell 2 (by omega)
        have e3 := hcell 3 (by omega)
        have e4 := hcell 4 (by omega)
        have e5 := hcell 5 (by omega)
        rw [add_add] at e0 e1 e2 e3 e4 e5
        exact ⟨(q, r), ⟨⟨by simpa using e0, by simpa using e1, by simpa using e2⟩, by simpa using e3, by simpa using e4, by simpa using e5⟩, ⟨hok, hok'⟩, hbk⟩
    obtain ⟨z, hq⟩ := choose_lt each
    refine ⟨some a, len, cap, fun i => (z i).1, fun i => (z i).2, rfl, fun hn => ?_, fun i hi => (hq i hi).2.1, hl, by omega, ?_⟩
    · obtain ⟨b, off, spot⟩ := a
      have h0 := (hq 0 hn).1.1.1
      have hspot : spot = none := by simpa [Addr.add] using World.cell?_spot h0
      subst hspot
      have ea : ∀ j, (Addr.mk b off none).add j = ⟨b, off + j, none⟩ := fun j => by unfold Addr.add; split <;> simp_all
      refine ⟨b, off, rfl, ?_, fun i hi => ?_⟩
      · rw [ea] at h0
        obtain ⟨cur, e, fr, hb, _⟩ := Sort.cells_of_cell? h0
        exact (Array.getElem?_eq_some_iff.1 hb).1
      · have := (hq i hi).1
        simp only [ea] at this
        exact this
    · have := bulkV2_le (D := D) (q := fun i => (z i).1) (r := fun i => (z i).2) len fun i hi => (hq i hi).2.2
      simp only [Rows.uptoBulk]
      omega
end Go.Proofs.Ytlafilmpefmidaa

namespace Go.Proofs.Ytlafilmpefmidaa
open Go.RowKit
set_option linter.unusedVariables false

set_option maxHeartbeats 2000000 in
set_option maxRecDepth 100000 in
theorem byHalvesD_none (a : Option Addr) (cap : Nat) (s : Bool) (p : Option Addr) (n c : Nat) (b : Option Addr) (m e : Nat) (s' : Bool) (p' : Option Addr) (n' c' : Nat) (b' : Option Addr) (m' e' : Nat) (F : Value) (w : World) :
    Calls Try.prog 8 #[.slice a 0 cap, .agg #[.bool s, .slice p n c, .slice b m e, .bool s', .slice p' n' c', .slice b' m' e'], F] w fun r w' => r = .returned (.agg #[.bool s, .slice p n c, .slice b m e, .bool s', .slice p' n' c', .slice b' m' e']) ∧ Below w.heap.size w w' := by
  go_enter Try.func8, Try.ntmps8
  go_wp2_with fail
  refine bodyPost_ret (v := Value.agg #[Value.bool s, Value.slice p n c, Value.slice b m e, Value.bool s', Value.slice p' n' c', Value.slice b' m' e']) (by rw [results_cell rfl]; go_simp) rfl ?_
  exact ⟨rfl, ((Below.refl _ _).alloc (Nat.le_refl _) _).alloc (by simp only [World.size_alloc]; omega) _⟩

set_option maxHeartbeats 2000000 in
set_option maxRecDepth 100000 in
theorem byHalvesD_one (b off cap : Nat) (q r : RatV) (F : Value) (w : World) (hb : b < w.heap.size) (hq : q.lies w b off) (hr : r.lies w b (off + 3)) (s : Bool) (p : Option Addr) (n c : Nat) (b0 : Option Addr) (m e : Nat) (s' : Bool) (p' : Option Addr) (n' c' : Nat) (b' : Option Addr) (m' e' : Nat) :
    Calls Try.prog 8 #[.slice (some ⟨b, off, none⟩) 1 cap, .agg #[.bool s, .slice p n c, .slice b0 m e, .bool s', .slice p' n' c', .slice b' m' e'], F] w fun x w' => x = .returned (.agg #[.bool q.s, .slice q.a q.n q.c, .slice q.b q.m q.e, .bool r.s, .slice r.a r.n r.c, .slice r.b r.m r.e]) ∧ Below w.heap.size w w' := by
  obtain ⟨h0, h1, h2⟩ := hq
  obtain ⟨h3, h4, h5⟩ := hr
  go_enter Try.func8, Try.ntmps8
  have hB : Below w.heap.size w ((w.alloc (.cells #[.bool s, .slice p n c, .slice b0 m e, .bool s', .slice p' n' c', .slice b' m' e'] 33)).alloc (.cells #[.bool false, .slice none 0 0, .slice none 0 0, .bool false, .slice none 0 0, .slice none 0 0] 33)) := ((Below.refl _ _).alloc (Nat.le_refl _) _).alloc (by simp only [World.size_alloc]; omega) _
  have k0 := below_cell hB h0
  have k1 := below_cell hB h1
  have k2 := below_cell hB h2
  have k3 := below_cell hB h3
  have k4 := below_cell hB h4
  have k5 := below_cell hB h5
  simp only [Nat.add_assoc, Nat.reduceAdd] at k4 k5
  go_wp2_with fail
  refine bodyPost_ret (v := Value.agg #[Value.bool q.s, Value.slice q.a q.n q.c, Value.slice q.b q.m q.e, Value.bool r.s, Value.slice r.a r.n r.c, Value.slice r.b r.m r.e]) (by rw [results_cell rfl]; go_simp) rfl ?_
  exact ⟨rfl, ((Below.refl _ _).alloc (Nat.le_refl _) _).alloc (by simp only [World.size_alloc]; omega) _⟩
end Go.Proofs.Ytlafilmpefmidaa

namespace Go.Proofs.Ytlafilmpefmidaa
open Go.RowKit
set_option linter.unusedVariables false

theorem A_elem_Dels (w : World) : (sizeOf (Try.prog.elem 24)).run Try.prog w = .ok 6 w := by kernel_rfl
set_option maxRecDepth 30000 in
theorem sl_headD (b off len cap h : Nat) (hc : h ≤ cap) (w : World) :
    (Instr.slice 24 (.slice (some ⟨b, off, none⟩) len cap) none (some (.int .i64 (h : Int))) none).run Try.prog w = .ok (.slice (some ⟨b, off, none⟩) h cap) w := by
  rw [run_slice_h (P := Try.prog) w 24 _ len cap Try.underlying24 .i64 _ (by omega) (by omega)]
  rw [A_elem_Dels]
  simp [Result.andThen, sliced, Addr.add]
set_option maxRecDepth 30000 in
theorem sl_restD (b off len cap h : Nat) (hl : h ≤ len) (hc : h < cap) (w : World) :
    (Instr.slice 24 (.slice (some ⟨b, off, none⟩) len cap) (some (.int .i64 (h : Int))) none none).run Try.prog w = .ok (.slice (some ⟨b, off + h * 6, none⟩) (len - h) (cap - h)) w := by
  rw [run_slice_l (P := Try.prog) w 24 _ len cap Try.underlying24 .i64 _ (by omega) (by omega)]
  rw [A_elem_Dels]
  simp [Result.andThen, sliced, Addr.add]
  rw [if_neg (by omega)]
  split
  · have : h = 0 := by omega
    subst this; simp
  · rfl

/-- an answer of four lists -/
def Del4 (Z : Int) (V : Nat) (Z' : Int) (V' : Nat) (w : World) (r : Ending) (w' : World) : Prop :=
  ∃ x y x' y', r = .returned (.agg #[.bool (ng Z), .slice x (ln (am Z)) (ln (am Z)), .slice y (ln V) (ln V), .bool (ng Z'), .slice x' (ln (am Z')) (ln (am Z')), .slice y' (ln V') (ln V')]) ∧ Below w.heap.size w w' ∧ Seg w' x (am Z) (ln (am Z)) ∧ Seg w' y V (ln V) ∧ Seg w' x' (am Z') (ln (am Z')) ∧ Seg w' y' V' (ln V')

set_option maxHeartbeats 2000000 in
set_option maxRecDepth 100000 in
theorem byHalvesD_many (b off len cap h : Nat) (s : Bool) (p : Option Addr) (n c : Nat) (p' : Option Addr) (m e : Nat) (t : Bool) (u : Option Addr) (n2 c2 : Nat) (u' : Option Addr) (m2 e2 : Nat) (Z1 Z2 Z : Int) (V1 V2 V : Nat) (Y1 Y2 Y : Int) (U1 U2 U : Nat) (w : World) (hlen : 2 ≤ len) (hcap : len ≤ cap) (hmax : cap ≤ 9223372036854775807) (hh : h = len / 2)
    (l1 : ln (am Z1) ≤ 1099511627776) (l2 : ln V1 ≤ 1099511627776) (l3 : ln (am Z2) ≤ 1099511627776) (l4 : ln V2 ≤ 1099511627776) (v1 : 0 < V1) (v2 : 0 < V2)
    (m1 : ln (am Y1) ≤ 1099511627776) (m2' : ln U1 ≤ 1099511627776) (m3 : ln (am Y2) ≤ 1099511627776) (m4 : ln U2 ≤ 1099511627776) (u1 : 0 < U1) (u2 : 0 < U2)
    (H1 : ∀ w', Below w.heap.size w w' → Calls Try.prog 8 #[.slice (some ⟨b, off, none⟩) h cap, .agg #[.bool s, .slice p n c, .slice p' m e, .bool t, .slice u n2 c2, .slice u' m2 e2], .func (.func 13) #[] #[]] w' (Del4 Z1 V1 Y1 U1 w'))
    (H2 : ∀ w', Below w.heap.size w w' → Calls Try.prog 8 #[.slice (some ⟨b, off + h * 6, none⟩) (len - h) (cap - h), .agg #[.bool s, .slice p n c, .slice p' m e, .bool t, .slice u n2 c2, .slice u' m2 e2], .func (.func 13) #[] #[]] w' (Del4 Z2 V2 Y2 U2 w'))
    (hL : Low (Z1 * (V2 : Nat) + Z2 * (V1 : Nat)) ((V1 : Int) * (V2 : Nat)) Z V) (hM : Low (Y1 * (U2 : Nat) + Y2 * (U1 : Nat)) ((U1 : Int) * (U2 : Nat)) Y U) :
    Calls Try.prog 8 #[.slice (some ⟨b, off, none⟩) len cap, .agg #[.bool s, .slice p n c, .slice p' m e, .bool t, .slice u n2 c2, .slice u' m2 e2], .func (.func 13) #[] #[]] w (Del4 Z V Y U w) := by
  have G1 := hide' H1
  have G2 := hide' H2
  have G3 := hide' (fun w' x1 y1 x1' y1' x2 y2 x2' y2' k1 k2 k3 k4 j1 j2 j3 j4 => dAdd_is (ng Z1) x1 (ln (am Z1)) (ln (am Z1)) (am Z1) y1 (ln V1) (ln V1) V1 (ng Y1) x1' (ln (am Y1)) (ln (am Y1)) (am Y1) y1' (ln U1) (ln U1) U1 (ng Z2) x2 (ln (am Z2)) (ln (am Z2)) (am Z2) y2 (ln V2) (ln V2) V2 (ng Y2) x2' (ln (am Y2)) (ln (am Y2)) (am Y2) y2' (ln U2) (ln U2) U2 Z V Y U w'
    (Nat.le_refl _) l1 k1 (Nat.le_refl _) l2 k2 (Nat.le_refl _) m1 k3 (Nat.le_refl _) m2' k4 (Nat.le_refl _) l3 j1 (Nat.le_refl _) l4 j2 (Nat.le_refl _) m3 j3 (Nat.le_refl _) m4 j4
    (by rw [rn_nf v1, rn_nf v2, rd_nf v1, rd_nf v2]; exact hL) (by rw [rn_nf u1, rn_nf u2, rd_nf u1, rd_nf u2]; exact hM))
  clear H1 H2 hL hM l1 l2 l3 l4 v1 v2 m1 m2' m3 m4 u1 u2
  have e0 : ¬ ((len : Int) = 0) := by omega
  have e1 : ¬ ((len : Int) = 1) := by omega
  have eh : wrap64 ((len : Int) / 2) = (h : Int) := by rw [wrap64_small (by omega) (by omega)]; omega
  have i0 : (0 : Int) ≤ (h : Int) := by omega
  have i1 : (h : Int) ≤ (cap : Int) := by omega
  have i2 : (h : Int) ≤ (len : Int) := by omega
  have i3 : (len : Int) ≤ (cap : Int) := by omega
  have i4 : h ≤ len := by omega
  have i5 : h ≤ cap := by omega
  have sl1 := sl_headD b off len cap h i5
  have sl2 := sl_restD b off len cap h i4 (by omega)
  go_enter Try.func8, Try.ntmps8
  go_wp2_with fail
  rw [show (len : Int) / 2 = (h : Int) by omega]
  clear hh eh e0 e1
  obtain ⟨W, hW⟩ : ∃ W, ((w.alloc (.cells #[.bool s, .slice p n c, .slice p' m e, .bool t, .slice u n2 c2, .slice u' m2 e2] 33)).alloc (.cells #[.bool false, .slice none 0 0, .slice none 0 0, .bool false, .slice none 0 0, .slice none 0 0] 33)) = W := ⟨_, rfl⟩
  have q00 : W.cell? ⟨w.heap.size, 0, none⟩ = some (.bool s) := by subst hW; go_simp
  have q01 : W.cell? ⟨w.heap.size, 1, none⟩ = some (.slice p n c) := by subst hW; go_simp
  have q02 : W.cell? ⟨w.heap.size, 2, none⟩ = some (.slice p' m e) := by subst hW; go_simp
  have q03 : W.cell? ⟨w.heap.size, 3, none⟩ = some (.bool t) := by subst hW; go_simp
  have q04 : W.cell? ⟨w.heap.size, 4, none⟩ = some (.slice u n2 c2) := by subst hW; go_simp
  have q05 : W.cell? ⟨w.heap.size, 5, none⟩ = some (.slice u' m2 e2) := by subst hW; go_simp
  have r00 : W.cell? ⟨w.heap.size + 1, 0, none⟩ = some (.bool false) := by subst hW; go_simp
  have r01 : W.cell? ⟨w.heap.size + 1, 1, none⟩ = some (.slice none 0 0) := by subst hW; go_simp
  have r02 : W.cell? ⟨w.heap.size + 1, 2, none⟩ = some (.slice none 0 0) := by subst hW; go_simp
  have r03 : W.cell? ⟨w.heap.size + 1, 3, none⟩ = some (.bool false) := by subst hW; go_simp
  have r04 : W.cell? ⟨w.heap.size + 1, 4, none⟩ = some (.slice none 0 0) := by subst hW; go_simp
  have r05 : W.cell? ⟨w.heap.size + 1, 5, none⟩ = some (.slice none 0 0) := by subst hW; go_simp
  have hB : Below w.heap.size w W := by subst hW; exact (((Below.refl _ _).alloc (by (try simp only [World.size_alloc]); omega) _).alloc (by (try simp only [World.size_alloc]); omega) _)
  have hR0 : Row W (w.heap.size + 1) := by
    have := row_new ((w.alloc (.cells #[.bool s, .slice p n c, .slice p' m e, .bool t, .slice u n2 c2, .slice u' m2 e2] 33))) #[.bool false, .slice none 0 0, .slice none 0 0, .bool false, .slice none 0 0, .slice none 0 0] 33
    try simp only [World.size_alloc] at this
    subst hW; exact this
  have hz : W.heap.size = w.heap.size + 1 + 1 := by subst hW; simp only [World.size_alloc]
  rw [hW]
  clear hW
  have hBW : Below W.heap.size W W := Below.refl _ _
  replace hBW := hBW.drew
  first
    | go_region_held3 (fun w' => w'.cell? ⟨w.heap.size, 0, none⟩ = some (.bool s) ∧ w'.cell? ⟨w.heap.size, 1, none⟩ = some (.slice p n c) ∧ w'.cell? ⟨w.heap.size, 2, none⟩ = some (.slice p' m e) ∧ w'.cell? ⟨w.heap.size, 3, none⟩ = some (.bool t) ∧ w'.cell? ⟨w.heap.size, 4, none⟩ = some (.slice u n2 c2) ∧ w'.cell? ⟨w.heap.size, 5, none⟩ = some (.slice u' m2 e2) ∧ Below w.heap.size w w')
        (first | with_reducible exact kpT6_6 (by assumption) (by omega) (by omega) (by omega) (by omega) (by omega) (by omega) (by omega) | exact ⟨q00, q01, q02, q03, q04, q05, hB.trans (hBW.mono hB.size)⟩ | exact kp6 b1 (by assumption) | exact kp6 b2 (by assumption) | exact kp6 b3 (by assumption) | exact kp6 (below_alloc _) (by assumption) | exact kp6 (below_alloc _) ⟨q00, q01, q02, q03, q04, q05, hB.trans (hBW.mono hB.size)⟩ | exact kpT6_6 (by assumption) (by omega) (by omega) (by omega) (by omega) (by omega) (by omega) (by omega))
        (first
          | (go_at_call 8; go_at_call_of 8 (Value.slice (some ⟨b, off, none⟩) h cap); (fail_if_success clear b1); refine (G1.out _ (hB.trans (hBW.mono hB.size))).mono ?_; rintro e w1 ⟨x1, y1, xx1, yy1, rfl, g1, kx1, ky1, jx1, jy1⟩; have b1 := g1; replace hBW := hBW.trans (b1.mono hBW.size); replace q00 := below_cell b1 q00; replace q01 := below_cell b1 q01; replace q02 := below_cell b1 q02; replace q03 := below_cell b1 q03; replace q04 := below_cell b1 q04; replace q05 := below_cell b1 q05; replace r00 := below_cell b1 r00; replace r01 := below_cell b1 r01; replace r02 := below_cell b1 r02; replace r03 := below_cell b1 r03; replace r04 := below_cell b1 r04; replace r05 := below_cell b1 r05; replace hR0 := below_row b1 hR0)
          | (go_at_call 8; go_at_call_of 8 (Value.slice (some ⟨b, off + h * 6, none⟩) (len - h) (cap - h)); (fail_if_success clear b2); refine (G2.out _ (hB.trans (hBW.mono hB.size))).mono ?_; rintro e w2 ⟨x2, y2, xx2, yy2, rfl, g2, kx2, ky2, jx2, jy2⟩; have b2 := g2; replace hBW := hBW.trans (b2.mono hBW.size); replace q00 := below_cell b2 q00; replace q01 := below_cell b2 q01; replace q02 := below_cell b2 q02; replace q03 := below_cell b2 q03; replace q04 := below_cell b2 q04; replace q05 := below_cell b2 q05; replace r00 := below_cell b2 r00; replace r01 := below_cell b2 r01; replace r02 := below_cell b2 r02; replace r03 := below_cell b2 r03; replace r04 := below_cell b2 r04; replace r05 := below_cell b2 r05; replace hR0 := below_row b2 hR0; replace kx1 := kx1.later b2; replace ky1 := ky1.later b2; replace jx1 := jx1.later b2; replace jy1 := jy1.later b2)
          | (go_at_call 13; (fail_if_success clear b3); refine (G3.out _ x1 y1 xx1 yy1 x2 y2 xx2 yy2 kx1 ky1 jx1 jy1 kx2 ky2 jx2 jy2).mono ?_; rintro e w3 ⟨x3, y3, xx3, yy3, rfl, hx3, hy3, hz3, ht3⟩; have b3 := hx3.below; replace hx3 := hx3.back hBW; replace hy3 := hy3.back hBW; replace hz3 := hz3.back hBW; replace ht3 := ht3.back hBW; replace hBW := hBW.trans (b3.mono hBW.size); replace q00 := below_cell b3 q00; replace q01 := below_cell b3 q01; replace q02 := below_cell b3 q02; replace q03 := below_cell b3 q03; replace q04 := below_cell b3 q04; replace q05 := below_cell b3 q05; replace r00 := below_cell b3 r00; replace r01 := below_cell b3 r01; replace r02 := below_cell b3 r02; replace r03 := below_cell b3 r03; replace r04 := below_cell b3 r04; replace r05 := below_cell b3 r05; replace hR0 := below_row b3 hR0; replace kx1 := kx1.later b3; replace ky1 := ky1.later b3; replace jx1 := jx1.later b3; replace jy1 := jy1.later b3; replace kx2 := kx2.later b3; replace ky2 := ky2.later b3; replace jx2 := jx2.later b3; replace jy2 := jy2.later b3; have fz := fun o => hR0.frozen o))
    | fail
  have fz0 := fun o => hR0.frozen o
  go_wp2
  all_goals refine bodyPost_ret (v := Value.agg #[Value.bool (ng Z), Value.slice x3 (ln (am Z)) (ln (am Z)), Value.slice y3 (ln V) (ln V), Value.bool (ng Y), Value.slice xx3 (ln (am Y)) (ln (am Y)), Value.slice yy3 (ln U) (ln U)]) (by rw [results_cell rfl]; go_simp) rfl ?_
  all_goals exact ⟨x3, y3, xx3, yy3, rfl, (hx3.mid hB ((((((((Mid.refl _ _ _).set _ _ (by omega) (by omega) _).set _ _ (by omega) (by omega) _).set _ _ (by omega) (by omega) _).set _ _ (by omega) (by omega) _).set _ _ (by omega) (by omega) _).set _ _ (by omega) (by omega) _))).below, (hx3.mid hB ((((((((Mid.refl _ _ _).set _ _ (by omega) (by omega) _).set _ _ (by omega) (by omega) _).set _ _ (by omega) (by omega) _).set _ _ (by omega) (by omega) _).set _ _ (by omega) (by omega) _).set _ _ (by omega) (by omega) _))).seg, (hy3.mid hB ((((((((Mid.refl _ _ _).set _ _ (by omega) (by omega) _).set _ _ (by omega) (by omega) _).set _ _ (by omega) (by omega) _).set _ _ (by omega) (by omega) _).set _ _ (by omega) (by omega) _).set _ _ (by omega) (by omega) _))).seg, (hz3.mid hB ((((((((Mid.refl _ _ _).set _ _ (by omega) (by omega) _).set _ _ (by omega) (by omega) _).set _ _ (by omega) (by omega) _).set _ _ (by omega) (by omega) _).set _ _ (by omega) (by omega) _).set _ _ (by omega) (by omega) _))).seg, (ht3.mid hB ((((((((Mid.refl _ _ _).set _ _ (by omega) (by omega) _).set _ _ (by omega) (by omega) _).set _ _ (by omega) (by omega) _).set _ _ (by omega) (by omega) _).set _ _ (by omega) (by omega) _).set _ _ (by omega) (by omega) _))).seg⟩
end Go.Proofs.Ytlafilmpefmidaa

namespace Go.Proofs.Ytlafilmpefmidaa
open Go.RowKit
set_option linter.unusedVariables false

theorem DelsAt.later {w w' : World} {a : Option Addr} {n : Nat} {q r : Nat → RatV} (h : DelsAt w a n q r) (hb : Below w.heap.size w w') : DelsAt w' a n q r := fun hn => by
  obtain ⟨b, off, e, hl, hc⟩ := h hn
  exact ⟨b, off, e, Nat.lt_of_lt_of_le hl hb.size, fun i hi => ⟨(hc i hi).1.later hb, (hc i hi).2.later hb⟩⟩
/-- one alone, in lowest terms -/
theorem low_one {q : Nat → RatV} {Z : Int} {V : Nat} (hq : (q 0).low) (hL : Low (lnum (lq q 1)) (lden (lq q 1) : Nat) Z V) : Z = sg (q 0).s (q 0).X ∧ V = (q 0).Y := by
  have eA : lnum (lq q 1) = sg (q 0).s (q 0).X := by
    show rn (q 0).s (q 0).X (q 0).Y * ((1 : Nat) : Int) + 0 * _ = _
    rw [rn_of (by have := hq.pos; omega)]
    simp
  have eD : lden (lq q 1) = (q 0).Y := by
    show rd (q 0).Y * 1 = _
    rw [rd_of (by have := hq.pos; omega), Nat.mul_one]
  rw [eA, eD] at hL
  exact Low.uniq hL (Low.self (Z := sg (q 0).s (q 0).X) hq.pos (by rw [am_sg]; exact hq.cop)) rfl

theorem byHalvesD_is : ∀ (k len : Nat) (a : Option Addr) (cap : Nat) (q r : Nat → RatV) (p p' u u' : Option Addr) (Z : Int) (V : Nat) (Y : Int) (U : Nat) (w : World), len ≤ k → len ≤ cap → cap ≤ 9223372036854775807 → DelsAt w a len q r → (∀ i, i < len → (q i).ok w ∧ (r i).ok w) → (∀ i, i < len → (q i).low ∧ (r i).low) →
    bulkV q len + 1 ≤ 1099511627776 → bulkV r len + 1 ≤ 1099511627776 → Seg w p' 1 1 → Seg w u' 1 1 → Low (lnum (lq q len)) (lden (lq q len) : Nat) Z V → Low (lnum (lq r len)) (lden (lq r len) : Nat) Y U →
    Calls Try.prog 8 #[.slice a len cap, .agg #[.bool false, .slice p 0 0, .slice p' 1 1, .bool false, .slice u 0 0, .slice u' 1 1], .func (.func 13) #[] #[]] w (Del4 Z V Y U w)
  | 0, len, a, cap, q, r, p, p', u, u', Z, V, Y, U, w, hk, hc, hm, hA, ho, hlo, hbk, hbk', hO, hO', hL, hM => by
    obtain rfl : len = 0 := by omega
    obtain ⟨rfl, rfl⟩ := Low.zero hL
    obtain ⟨rfl, rfl⟩ := Low.zero hM
    refine (byHalvesD_none a cap false p 0 0 p' 1 1 false u 0 0 u' 1 1 _ w).mono ?_
    rintro r w' ⟨rfl, hb⟩
    have e1 : am 0 = 0 := rfl
    exact ⟨p, p', u, u', by rw [e1, ln_zero, ln_one]; rfl, hb, by rw [e1, ln_zero]; exact Seg.nil _ _, by rw [ln_one]; exact hO.later hb, by rw [e1, ln_zero]; exact Seg.nil _ _, by rw [ln_one]; exact hO'.later hb⟩
  | k + 1, len, a, cap, q, r, p, p', u, u', Z, V, Y, U, w, hk, hc, hm, hA, ho, hlo, hbk, hbk', hO, hO', hL, hM => by
    rcases Nat.lt_or_ge len 1 with h0 | h0
    · exact byHalvesD_is k len a cap q r p p' u u' Z V Y U w (by omega) hc hm hA ho hlo hbk hbk' hO hO' hL hM
    obtain ⟨b, off, rfl, hlt, hcell⟩ := hA (by omega)
    rcases Nat.lt_or_ge len 2 with h1 | h1
    · obtain rfl : len = 1 := by omega
      obtain ⟨hq, hr⟩ := hlo 0 (by omega)
      obtain ⟨hok, hok'⟩ := ho 0 (by omega)
      obtain ⟨hl0, hl1⟩ := hcell 0 (by omega)
      rw [Nat.zero_mul, Nat.add_zero] at hl0 hl1
      obtain ⟨rfl, rfl⟩ := low_one hq hL
      obtain ⟨rfl, rfl⟩ := low_one hr hM
      refine (byHalvesD_one b off cap (q 0) (r 0) _ w hlt hl0 hl1 false p 0 0 p' 1 1 false u 0 0 u' 1 1).mono ?_
      rintro x w' ⟨rfl, hb⟩
      have s1 := hok.1.later hb
      have s2 := hok.2.2.2.1.later hb
      have s3 := hok'.1.later hb
      have s4 := hok'.2.2.2.1.later hb
      rw [hq.hn] at s1
      rw [hq.hm] at s2
      rw [hr.hn] at s3
      rw [hr.hm] at s4
      refine ⟨(q 0).a, (q 0).b, (r 0).a, (r 0).b, ?_, hb, ?_, s2, ?_, s4⟩
      · rw [hq.hs, am_sg, hq.hn, hq.hc, hq.hm, hq.he, hr.hs, am_sg, hr.hn, hr.hc, hr.hm, hr.he]
      · rw [am_sg]; exact s1
      · rw [am_sg]; exact s3
    · obtain ⟨h, hh⟩ : ∃ h, h = len / 2 := ⟨_, rfl⟩
      obtain ⟨j, hj⟩ : ∃ j, len = h + j := ⟨len - h, by omega⟩
      have hsum : lq q len = lq q h ++ lq (fun i => q (h + i)) j := by rw [hj, lq_add]
      have hsum' : lq r len = lq r h ++ lq (fun i => r (h + i)) j := by rw [hj, lq_add]
      have hbs : bulkV q len = bulkV q h + bulkV (fun i => q (h + i)) j := by rw [hj, bulkV_add]
      have hbs' : bulkV r len = bulkV r h + bulkV (fun i => r (h + i)) j := by rw [hj, bulkV_add]
      obtain ⟨Z1, V1, L1⟩ := low_ex (lnum (lq q h)) (lden (lq q h) : Nat) (by have := lden_lq_pos q h; omega)
      obtain ⟨Z2, V2, L2⟩ := low_ex (lnum (lq (fun i => q (h + i)) j)) (lden (lq (fun i => q (h + i)) j) : Nat) (by have := lden_lq_pos (fun i => q (h + i)) j; omega)
      obtain ⟨Y1, U1, M1⟩ := low_ex (lnum (lq r h)) (lden (lq r h) : Nat) (by have := lden_lq_pos r h; omega)
      obtain ⟨Y2, U2, M2⟩ := low_ex (lnum (lq (fun i => r (h + i)) j)) (lden (lq (fun i => r (h + i)) j) : Nat) (by have := lden_lq_pos (fun i => r (h + i)) j; omega)
      have B1 := lq_ln (W := w) (fun i hi => (ho i (by omega)).1) L1
      have B2 := lq_ln (W := w) (q := fun i => q (h + i)) (fun i hi => (ho (h + i) (by omega)).1) L2
      have C1 := lq_ln (W := w) (fun i hi => (ho i (by omega)).2) M1
      have C2 := lq_ln (W := w) (q := fun i => r (h + i)) (fun i hi => (ho (h + i) (by omega)).2) M2
      rw [hsum] at hL
      rw [hsum'] at hM
      refine byHalvesD_many b off len cap h false p 0 0 p' 1 1 false u 0 0 u' 1 1 Z1 Z2 Z V1 V2 V Y1 Y2 Y U1 U2 U w h1 hc hm hh (by omega) (by omega) (by omega) (by omega) L1.pos L2.pos (by omega) (by omega) (by omega) (by omega) M1.pos M2.pos (fun w' hb => ?_) (fun w' hb => ?_) (low_halves L1 L2 hL) (low_halves M1 M2 hM)
      · exact byHalvesD_is k h _ cap q r p p' u u' Z1 V1 Y1 U1 w' (by omega) (by omega) hm (fun _ => ⟨b, off, rfl, Nat.lt_of_lt_of_le hlt hb.size, fun i hi => ⟨(hcell i (by omega)).1.later hb, (hcell i (by omega)).2.later hb⟩⟩) (fun i hi => ⟨(ho i (by omega)).1.later hb, (ho i (by omega)).2.later hb⟩) (fun i hi => hlo i (by omega)) (by omega) (by omega) (hO.later hb) (hO'.later hb) L1 M1
      · rw [show len - h = j by omega]
        refine byHalvesD_is k j _ (cap - h) (fun i => q (h + i)) (fun i => r (h + i)) p p' u u' Z2 V2 Y2 U2 w' (by omega) (by omega) (by omega) (fun _ => ⟨b, off + h * 6, rfl, Nat.lt_of_lt_of_le hlt hb.size, fun i hi => ?_⟩) (fun i hi => ⟨(ho (h + i) (by omega)).1.later hb, (ho (h + i) (by omega)).2.later hb⟩) (fun i hi => hlo (h + i) (by omega)) (by omega) (by omega) (hO.later hb) (hO'.later hb) L2 M2
        have h2 := (hcell (h + i) (by omega)).1.later hb
        have h3 := (hcell (h + i) (by omega)).2.later hb
        rw [show off + h * 6 + i * 6 = off + (h + i) * 6 by omega]
        exact ⟨h2, h3⟩
end Go.Proofs.Ytlafilmpefmidaa

namespace Go.Proofs.Ytlafilmpefmidaa
open Go.RowKit
set_option linter.unusedVariables false
set_option linter.unusedSimpArgs false

/-- the six cells of one -/
def cells6 (q r : RatV) : List Value := [.bool q.s, .slice q.a q.n q.c, .slice q.b q.m q.e, .bool r.s, .slice r.a r.n r.c, .slice r.b r.m r.e]
/-- the cells of the first n of them -/
def cellsD (q r : Nat → RatV) : Nat → List Value
  | 0 => []
  | n + 1 => cellsD q r n ++ cells6 (q n) (r n)
theorem cellsD_length (q r : Nat → RatV) : ∀ n, (cellsD q r n).length = n * 6
  | 0 => rfl
  | n + 1 => by simp only [cellsD, cells6, List.length_append, cellsD_length q r n, List.length_cons, List.length_nil]; omega
theorem cellsD_at (q r : Nat → RatV) : ∀ (n i j : Nat), i < n → j < 6 → (cellsD q r n)[i * 6 + j]? = (cells6 (q i) (r i))[j]?
  | 0, i, j, h, _ => absurd h (by omega)
  | n + 1, i, j, h, hj => by
    have hl := cellsD_length q r n
    simp only [cellsD]
    rcases Nat.lt_or_ge i n with h1 | h1
    · rw [List.getElem?_append_left (by omega)]
      exact cellsD_at q r n i j h1 hj
    · obtain rfl : i = n := by omega
      rw [List.getElem?_append_right (by omega), hl]
      congr 1
      omega
theorem cellsD_congr {q q' r r' : Nat → RatV} : ∀ (n : Nat), (∀ i, i < n → q i = q' i ∧ r i = r' i) → cellsD q r n = cellsD q' r' n
  | 0, _ => rfl
  | n + 1, h => by simp only [cellsD]; rw [cellsD_congr n fun i hi => h i (by omega), (h n (by omega)).1, (h n (by omega)).2]

/-- such a row is a list of them -/
theorem own_dels {w : World} {base : Nat} {e : TypeId} {v : Value} {n : Nat} {q r : Nat → RatV} (h : w.ownsRow base e 6 v n (cellsD q r n)) : ∃ a cap, v = .slice a n cap ∧ n ≤ cap ∧ cap ≤ maxLen ∧ DelsAt w a n q r := by
  rcases h.2 with ⟨rfl, rfl⟩ | ⟨g, cap, cur, rfl, hb, hg, hc, hm, _, _⟩
  · exact ⟨none, 0, rfl, Nat.le_refl _, by simp [maxLen], fun h => absurd h (by omega)⟩
  · refine ⟨_, cap, rfl, hc, hm, fun hn => ⟨g, 0, rfl, (Array.getElem?_eq_some_iff.1 hg).1, fun i hi => ?_⟩⟩
    have k : ∀ j, j < 6 → w.cell? ⟨g, i * 6 + j, none⟩ = (cells6 (q i) (r i))[j]? := fun j hj => by
      have k1 := h.cellAt (i * 6 + j) (by omega)
      rw [cellsD_at q r n i j hi hj] at k1
      exact k1
    rw [Nat.zero_add]
    exact ⟨⟨k 0 (by omega), k 1 (by omega), k 2 (by omega)⟩, k 3 (by omega), k 4 (by omega), k 5 (by omega)⟩

/-- a fraction of a row that grows -/
structure Good (N : Nat) (vo : Value) (wr : World) (q : RatV) : Prop where
  ok : q.ok wr
  low : q.low
  le : q.n + q.m + 1 ≤ N
  off : ∀ b, vo.ownBlock = some b → q.off b
theorem Good.later {N : Nat} {vo : Value} {wr w' : World} {q : RatV} (h : Good N vo wr q) (hb : Below wr.heap.size wr w') : Good N vo w' q := ⟨h.ok.later hb, h.low, h.le, h.off⟩
theorem Good.grown {N : Nat} {vo : Value} {wB w1 : World} {q : RatV} (h : Good N vo wB q) (hg : wB.grownBy w1 vo.ownBlock) {gb j cap : Nat} (hat : vo.ownBlock = some gb ∨ gb = wB.heap.size) : Good N (.slice (some ⟨gb, 0, none⟩) j cap) w1 q := by
  refine ⟨h.ok.grown hg h.off, h.low, h.le, fun b hb => ?_⟩
  have : gb = b := by simpa [Value.ownBlock] using hb
  subst this
  rcases hat with h1 | h1
  · exact h.off _ h1
  · exact h.ok.off (by omega)
theorem Good.of {N : Nat} {vo : Value} {w2 w3 : World} {Z : Int} {V : Nat} {p p' : Option Addr} {wA : World} (n1 : New wA w2 p (am Z) (ln (am Z))) (n2 : New wA w2 p' V (ln V)) (b3 : Below w2.heap.size w2 w3) (hV : 0 < V) (hc : Nat.gcd (am Z) V = 1) (l1 : ln (am Z) ≤ 35184372087808) (l2 : ln V ≤ 35184372087808) (hN : ln (am Z) + ln V + 1 ≤ N) (hrow : ∀ b, vo.ownBlock = some b → b < wA.heap.size) : Good N vo w3 (RatV.of Z V p p') :=
  ⟨⟨n1.seg.later b3, Nat.le_refl _, l1, n2.seg.later b3, Nat.le_refl _, l2⟩, RatV.of_low hV hc, hN, fun b hb => by
    have h1 := hrow b hb
    refine ⟨fun hn ad e => ?_, fun hn ad e => ?_⟩
    · obtain ⟨c, o, e', hl, _⟩ := n1.fresh hn
      have e2 : p = some ad := e
      rw [e'] at e2
      obtain rfl := Option.some.inj e2
      show c ≠ b
      omega
    · obtain ⟨c, o, e', hl, _⟩ := n2.fresh hn
      have e2 : p' = some ad := e
      rw [e'] at e2
      obtain rfl := Option.some.inj e2
      show c ≠ b
      omega⟩

/-- what the loop of products keeps -/
def PrInvD (w : World) (v : Nat → Int) (f g h : Nat → RatV) (m N : Nat) (k : Nat) (vo : Value) (wr : World) : Prop :=
  ∃ (j : Nat) (q r : Nat → RatV), j ≤ k ∧ wr.ownsRow w.heap.size 33 6 vo j (cellsD q r j) ∧ Below w.heap.size w wr ∧ Eqv (lq q j) (prods v f g m k) ∧ Eqv (lq r j) (prods v f h m k) ∧
    ∀ i, i < j → Good N vo wr (q i) ∧ Good N vo wr (r i)

theorem PrInvD.later {w : World} {v : Nat → Int} {f g h : Nat → RatV} {m N k : Nat} {vo : Value} {wr w' : World} (H : PrInvD w v f g h m N k vo wr) (hb : Below wr.heap.size wr w') : PrInvD w v f g h m N k vo w' := by
  obtain ⟨j, q, r, hj, hO, hB, hE, hE', hq⟩ := H
  exact ⟨j, q, r, hj, own_below hO hb, hB.trans (hb.mono hB.size), hE, hE', fun i hi => ⟨(hq i hi).1.later hb, (hq i hi).2.later hb⟩⟩
theorem prods_skip {v : Nat → Int} {f g : Nat → RatV} {m k : Nat} (hp : ¬ (0 ≤ v k ∧ v k < (m : Int))) : prods v f g m (k + 1) = prods v f g m k := by
  simp only [prods]
  rw [if_neg hp, List.append_nil]
theorem PrInvD.skip {w : World} {v : Nat → Int} {f g h : Nat → RatV} {m N k : Nat} {vo : Value} {wr : World} (H : PrInvD w v f g h m N k vo wr) (hp : ¬ (0 ≤ v k ∧ v k < (m : Int))) : PrInvD w v f g h m N (k + 1) vo wr := by
  obtain ⟨j, q, r, hj, hO, hB, hE, hE', hq⟩ := H
  exact ⟨j, q, r, by omega, hO, hB, by rw [prods_skip hp]; exact hE, by rw [prods_skip hp]; exact hE', hq⟩
theorem eqv_push {v : Nat → Int} {f g : Nat → RatV} {m k j t : Nat} {q q' : Nat → RatV} {x : RatV} (hE : Eqv (lq q j) (prods v f g m k)) (e1 : ∀ i, i < j → q' i = q i) (e2 : q' j = x) (hp : 0 ≤ v k ∧ v k < (m : Int)) (ht : (v k).toNat = t) (hx : x.low)
    (hL : Low (rn (f k).s (f k).X (f k).Y * rn (g t).s (g t).X (g t).Y) ((rd (f k).Y : Nat) * (rd (g t).Y : Nat)) (sg x.s x.X) x.Y) : Eqv (lq q' (j + 1)) (prods v f g m (k + 1)) := by
  rw [lq_succ, lq_congr j e1, e2]
  simp only [prods]
  rw [if_pos hp, ht]
  refine hE.append ?_
  have hY := hx.pos
  rw [rn_of (by omega), rd_of (by omega)]
  exact Eqv.one (by rw [Int.natCast_mul]; exact hL)
theorem PrInvD.push {w : World} {v : Nat → Int} {f g h : Nat → RatV} {m N k t : Nat} {vo : Value} {wB w1 : World} {j : Nat} {q r : Nat → RatV} (hj : j ≤ k) (hB : Below w.heap.size w wB) (hE : Eqv (lq q j) (prods v f g m k)) (hE' : Eqv (lq r j) (prods v f h m k))
    (hq : ∀ i, i < j → Good N vo wB (q i) ∧ Good N vo wB (r i)) (hrow : ∀ b, vo.ownBlock = some b → w.heap.size ≤ b) (hp : 0 ≤ v k ∧ v k < (m : Int)) (ht : (v k).toNat = t)
    (x y : RatV) (hx : Good N vo wB x) (hy : Good N vo wB y)
    (hL : Low (rn (f k).s (f k).X (f k).Y * rn (g t).s (g t).X (g t).Y) ((rd (f k).Y : Nat) * (rd (g t).Y : Nat)) (sg x.s x.X) x.Y)
    (hM : Low (rn (f k).s (f k).X (f k).Y * rn (h t).s (h t).X (h t).Y) ((rd (f k).Y : Nat) * (rd (h t).Y : Nat)) (sg y.s y.X) y.Y) {gb cap : Nat}
    (hown : w1.ownsRow w.heap.size 33 6 (.slice (some ⟨gb, 0, none⟩) (j + 1) cap) (j + 1) (cellsD q r j ++ cells6 x y)) (hg : wB.grownBy w1 vo.ownBlock) (hat : vo.ownBlock = some gb ∨ gb = wB.heap.size) :
    PrInvD w v f g h m N (k + 1) (.slice (some ⟨gb, 0, none⟩) (j + 1) cap) w1 := by
  obtain ⟨q', hq'⟩ : ∃ q' : Nat → RatV, q' = fun i => if i < j then q i else x := ⟨_, rfl⟩
  obtain ⟨r', hr'⟩ : ∃ r' : Nat → RatV, r' = fun i => if i < j then r i else y := ⟨_, rfl⟩
  have e1 : ∀ i, i < j → q' i = q i := fun i hi => by rw [hq']; exact if_pos hi
  have e2 : q' j = x := by rw [hq']; exact if_neg (by omega)
  have d1 : ∀ i, i < j → r' i = r i := fun i hi => by rw [hr']; exact if_pos hi
  have d2 : r' j = y := by rw [hr']; exact if_neg (by omega)
  refine ⟨j + 1, q', r', by omega, ?_, hB.trans (below_grown hB.size hrow hg), eqv_push hE e1 e2 hp ht hx.low hL, eqv_push hE' d1 d2 hp ht hy.low hM, fun i hi => ?_⟩
  · simp only [cellsD]
    rw [cellsD_congr j fun i hi => ⟨e1 i hi, d1 i hi⟩, e2, d2]
    exact hown
  · rcases Nat.lt_or_ge i j with h1 | h1
    · rw [e1 i h1, d1 i h1]
      exact ⟨(hq i h1).1.grown hg hat, (hq i h1).2.grown hg hat⟩
    · obtain rfl : i = j := by omega
      rw [e2, d2]
      exact ⟨hx.grown hg hat, hy.grown hg hat⟩
theorem PrInvD.below {w : World} {v : Nat → Int} {f g h : Nat → RatV} {m N k : Nat} {vo : Value} {wr : World} (H : PrInvD w v f g h m N k vo wr) : Below w.heap.size w wr := by
  obtain ⟨j, q, r, hj, hO, hB, hE, hE', hq⟩ := H
  exact hB
theorem PrInvD.slice {w : World} {v : Nat → Int} {f g h : Nat → RatV} {m N k : Nat} {vo : Value} {wr : World} (H : PrInvD w v f g h m N k vo wr) : ∃ a j cap, vo = .slice a j cap := by
  obtain ⟨j, q, r, hj, hO, hB, hE, hE', hq⟩ := H
  obtain ⟨a, cap, e, _⟩ := own_dels hO
  exact ⟨a, j, cap, e⟩
theorem PrInvD.open {w : World} {v : Nat → Int} {f g h : Nat → RatV} {m N k : Nat} {a : Option Addr} {j cap : Nat} {wr : World} (H : PrInvD w v f g h m N k (.slice a j cap) wr) : ∃ q r : Nat → RatV, j ≤ k ∧ j ≤ cap ∧ cap ≤ 9223372036854775807 ∧ DelsAt wr a j q r ∧ (∀ i, i < j → Good N (.slice a j cap) wr (q i) ∧ Good N (.slice a j cap) wr (r i)) ∧ Eqv (lq q j) (prods v f g m k) ∧ Eqv (lq r j) (prods v f h m k) := by
  obtain ⟨j', q, r, hj, hO, hB, hE, hE', hq⟩ := H
  obtain ⟨a', cap', e, h1, h2, h3⟩ := own_dels hO
  simp only [Value.slice.injEq] at e
  obtain ⟨rfl, rfl, rfl⟩ := e
  exact ⟨q, r, hj, h1, by simpa [maxLen] using h2, h3, hq, hE, hE'⟩
end Go.Proofs.Ytlafilmpefmidaa

namespace Go.Proofs.Ytlafilmpefmidaa
open Go.RowKit
set_option linter.unusedVariables false
set_option linter.unusedSimpArgs false

theorem info_Del : (Try.prog.info? 33).map (fun i => (i.zero, i.size, i.bytes)) = some (some (.agg #[.bool false, .slice none 0 0, .slice none 0 0, .bool false, .slice none 0 0, .slice none 0 0]), 6, 112) := by kernel_rfl

set_option maxHeartbeats 4000000 in
set_option maxRecDepth 100000 in
theorem productsD_is (af : Option Addr) (n capf : Nat) (v : Nat → Int) (f : Nat → RatV) (av : Option Addr) (m capv : Nat) (g h : Nat → RatV) (K N : Nat) (w : World) (hcf : n ≤ capf) (hcv : m ≤ capv) (hn : n ≤ 1048576) (hm : m ≤ 1048576)
    (hF : FormAt w af n v f) (hfo : ∀ i, i < n → (f i).ok w) (hG : DelsAt w av m g h) (hgo : ∀ i, i < m → (g i).ok w ∧ (h i).ok w) (hK : ∀ i t, i < n → t < m → (f i).n + (f i).m + (g t).n + (g t).m ≤ K ∧ (f i).n + (f i).m + (h t).n + (h t).m ≤ K) (hKm : K ≤ 1048576) (hN : 2 * K + 5 ≤ N) :
    Calls Try.prog 9 #[.slice af n capf, .slice av m capv, .func (.func 10) #[] #[]] w fun e w' => ∃ vo, e = .returned vo ∧ PrInvD w v f g h m N n vo w' := by
  go_enter Try.func9, Try.ntmps9
  go_wp2_with fail
  go_loopw [7, 12] (fun vo vi wr => ∃ k : Nat, k ≤ n ∧ vi = .int .i64 k ∧ PrInvD w v f g h m N k vo wr) (fun _ vi _ => n - (intOf vi).toNat)
  case atStart => exact ⟨0, Nat.zero_le _, rfl, 0, fun _ => default, fun _ => default, Nat.le_refl _, World.ownsRow_nil _ _ _ _, Below.refl _ _, rfl, rfl, fun i hi => absurd hi (by omega)⟩
  case round =>
    obtain ⟨k, hk, rfl, hI⟩ := hrel
    by_cases hlt : k < n
    · have hBk : Below w.heap.size w wr := hI.below
      obtain ⟨b, off, rfl, hb, hcell⟩ := hF (by omega)
      obtain ⟨c0, c1, c2, c3⟩ := hcell k hlt
      replace c0 := below_cell hBk c0
      replace c1 := below_cell hBk c1
      replace c2 := below_cell hBk c2
      replace c3 := below_cell hBk c3
      have i0 : (0 : Int) ≤ (k : Int) := by omega
      have i1 : (k : Int) < (n : Int) := by omega
      by_cases hp : 0 ≤ v k ∧ v k < (m : Int)
      · have P1 := hide' (fun w' => isPlace_in (v k) m w' hp.1 hp.2)
        obtain ⟨j, q, r, hj, hO, hB, hE, hE', hq⟩ := hI
        obtain ⟨t, ht⟩ : ∃ t : Nat, v k = (t : Int) := ⟨(v k).toNat, by omega⟩
        have htm : t < m := by omega
        obtain ⟨b', off', rfl, hb', hcell'⟩ := hG (by omega)
        obtain ⟨⟨d0, d1, d2⟩, d3, d4, d5⟩ := hcell' t htm
        have hf1 := hfo k hlt
        have hg1 := (hgo t htm).1
        have hh1 := (hgo t htm).2
        have hfg := hK k t hlt htm
        replace d0 := below_cell hBk d0
        replace d1 := below_cell hBk d1
        replace d2 := below_cell hBk d2
        replace d3 := below_cell hBk d3
        replace d4 : wr.cell? ⟨b', off' + t * 6 + 4, none⟩ = _ := below_cell hBk d4
        replace d5 : wr.cell? ⟨b', off' + t * 6 + 5, none⟩ = _ := below_cell hBk d5
        replace hf1 := hf1.later hBk
        replace hg1 := hg1.later hBk
        replace hh1 := hh1.later hBk
        obtain ⟨Z, V, hL⟩ := low_ex (rn (f k).s (f k).X (f k).Y * rn (g t).s (g t).X (g t).Y) ((rd (f k).Y : Nat) * (rd (g t).Y : Nat)) (Int.mul_ne_zero (rd_ne _) (rd_ne _))
        obtain ⟨Y, U, hM⟩ := low_ex (rn (f k).s (f k).X (f k).Y * rn (h t).s (h t).X (h t).Y) ((rd (f k).Y : Nat) * (rd (h t).Y : Nat)) (Int.mul_ne_zero (rd_ne _) (rd_ne _))
        have lZ : ln (am Z) ≤ K + 2 ∧ ln V ≤ K + 2 := ln1 (i := (f k).n + (g t).n) (j := ((f k).m + 1) + ((g t).m + 1)) hL (lt_prod (Nat.lt_of_le_of_lt (rn_am _ _ _) hf1.1.1) (Nat.lt_of_le_of_lt (rn_am _ _ _) hg1.1.1)) (lt_prod (by show rd _ < _; exact rd_lt hf1.2.2.2.1.1) (by show rd _ < _; exact rd_lt hg1.2.2.2.1.1)) (by omega) (by omega)
        have lY : ln (am Y) ≤ K + 2 ∧ ln U ≤ K + 2 := ln1 (i := (f k).n + (h t).n) (j := ((f k).m + 1) + ((h t).m + 1)) hM (lt_prod (Nat.lt_of_le_of_lt (rn_am _ _ _) hf1.1.1) (Nat.lt_of_le_of_lt (rn_am _ _ _) hh1.1.1)) (lt_prod (by show rd _ < _; exact rd_lt hf1.2.2.2.1.1) (by show rd _ < _; exact rd_lt hh1.2.2.2.1.1)) (by omega) (by omega)
        rw [ht] at c0 P1
        have t0 : (0 : Int) ≤ (t : Int) := by omega
        have t1 : (t : Int) < (m : Int) := by omega
        have G := hide' (fun w' k1 k2 k3 k4 k5 k6 => dScale_is (f k).s (f k).a (f k).n (f k).c (f k).X (f k).b (f k).m (f k).e (f k).Y (g t).s (g t).a (g t).n (g t).c (g t).X (g t).b (g t).m (g t).e (g t).Y (h t).s (h t).a (h t).n (h t).c (h t).X (h t).b (h t).m (h t).e (h t).Y Z V Y U w' hf1.2.1 (by omega) k1 hf1.2.2.2.2.1 (by omega) k2 hg1.2.1 (by omega) k3 hg1.2.2.2.2.1 (by omega) k4 hh1.2.1 (by omega) k5 hh1.2.2.2.2.1 (by omega) k6 hL hM)
        have hrow := fun k hk => (hO.lt k hk)
        obtain ⟨i0', hi0, hz0, hz1, hz2⟩ := info_parts info_Del
        go_wp2_with fail
        refine (P1.out _).mono ?_
        rintro e w1 ⟨rfl, rfl⟩
        go_wp2_with fail
        obtain ⟨wA, hwA⟩ : ∃ wA, wr.alloc (.cells #[.int .i64 (t : Int), .bool (f k).s, .slice (f k).a (f k).n (f k).c, .slice (f k).b (f k).m (f k).e] 45) = wA := ⟨_, rfl⟩
        have a0 : wA.drew.cell? ⟨wr.heap.size, 0, none⟩ = some (.int .i64 (t : Int)) := by subst hwA; go_simp
        have a1 : wA.drew.cell? ⟨wr.heap.size, 1, none⟩ = some (.bool (f k).s) := by subst hwA; go_simp
        have a2 : wA.drew.cell? ⟨wr.heap.size, 2, none⟩ = some (.slice (f k).a (f k).n (f k).c) := by subst hwA; go_simp
        have a3 : wA.drew.cell? ⟨wr.heap.size, 3, none⟩ = some (.slice (f k).b (f k).m (f k).e) := by subst hwA; go_simp
        have bD : Below wr.heap.size wr wA.drew := by subst hwA; exact (below_alloc _).drew
        rw [hwA]
        clear hwA
        replace d0 := below_cell bD d0
        replace d1 := below_cell bD d1
        replace d2 := below_cell bD d2
        replace d3 := below_cell bD d3
        replace d4 := below_cell bD d4
        replace d5 := below_cell bD d5
        clear c0 c1 c2 c3
        refine wp_region_held_drew (S := fun w' => w'.cell? ⟨wr.heap.size, 0, none⟩ = some (.int .i64 (t : Int)) ∧ w'.cell? ⟨wr.heap.size, 1, none⟩ = some (.bool (f k).s) ∧ w'.cell? ⟨wr.heap.size, 2, none⟩ = some (.slice (f k).a (f k).n (f k).c) ∧ w'.cell? ⟨wr.heap.size, 3, none⟩ = some (.slice (f k).b (f k).m (f k).e) ∧ w'.cell? ⟨b', off' + t * 6, none⟩ = some (.bool (g t).s) ∧ w'.cell? ⟨b', off' + t * 6 + 1, none⟩ = some (.slice (g t).a (g t).n (g t).c) ∧ w'.cell? ⟨b', off' + t * 6 + 2, none⟩ = some (.slice (g t).b (g t).m (g t).e) ∧ w'.cell? ⟨b', off' + t * 6 + 3, none⟩ = some (.bool (h t).s) ∧ w'.cell? ⟨b', off' + t * 6 + 4, none⟩ = some (.slice (h t).a (h t).n (h t).c) ∧ w'.cell? ⟨b', off' + t * 6 + 5, none⟩ = some (.slice (h t).b (h t).m (h t).e)) (by kernel_rfl) ⟨a0, a1, a2, a3, d0, d1, d2, d3, d4, d5⟩ (fun hHeld => ?_)
        generalize wA.drew = w0 at bD a0 a1 a2 a3 d0 d1 d2 d3 d4 d5 hHeld ⊢
        refine take' 0 (v := ?_) rfl (by kernel_rfl) (by kernel_rfl) (by kernel_rfl) (fun _ _ _ h => h) (Or.inl ⟨by rfl, ?_⟩) (by assumption) ?_
        rotate_left
        · intro w9 hSw
          go_simp
          first | done | with_reducible rfl
        simp only [Act.put, List.setIfInBounds_toArray, List.set_cons_zero, List.set_cons_succ]
        refine take' 1 (v := ?_) rfl (by kernel_rfl) (by kernel_rfl) (by kernel_rfl) (fun _ _ _ h => h) (Or.inl ⟨by rfl, ?_⟩) (by assumption) ?_
        rotate_left
        · intro w9 hSw
          go_simp
          first | done | with_reducible rfl
        simp only [Act.put, List.setIfInBounds_toArray, List.set_cons_zero, List.set_cons_succ]
        refine take' 2 (v := ?_) rfl (by kernel_rfl) (by kernel_rfl) (by kernel_rfl) (fun _ _ _ h => h) (Or.inl ⟨by rfl, ?_⟩) (by assumption) ?_
        rotate_left
        · intro w9 hSw
          go_simp
          first | done | with_reducible rfl
        simp only [Act.put, List.setIfInBounds_toArray, List.set_cons_zero, List.set_cons_succ]
        refine take' 3 (v := ?_) rfl (by kernel_rfl) (by kernel_rfl) (by kernel_rfl) (fun _ _ _ h => h) (Or.inl ⟨by rfl, ?_⟩) (by assumption) ?_
        rotate_left
        · intro w9 hSw
          go_simp
          first | done | with_reducible rfl
        simp only [Act.put, List.setIfInBounds_toArray, List.set_cons_zero, List.set_cons_succ]
        refine take' 4 (v := ?_) rfl (by kernel_rfl) (by kernel_rfl) (by kernel_rfl) (fun _ _ _ h => h) (Or.inl ⟨by rfl, ?_⟩) (by assumption) ?_
        rotate_left
        · intro w9 hSw
          go_simp
          first | done | with_reducible rfl
        simp only [Act.put, List.setIfInBounds_toArray, List.set_cons_zero, List.set_cons_succ]
        refine take' 5 (v := ?_) rfl (by kernel_rfl) (by kernel_rfl) (by kernel_rfl) (fun _ _ _ h => h) (Or.inl ⟨by rfl, ?_⟩) (by assumption) ?_
        rotate_left
        · intro w9 hSw
          go_simp
          first | done | with_reducible rfl
        simp only [Act.put, List.setIfInBounds_toArray, List.set_cons_zero, List.set_cons_succ]
        refine take' 6 (v := ?_) rfl (by kernel_rfl) (by kernel_rfl) (by kernel_rfl) (fun _ _ _ h => h) (Or.inl ⟨by rfl, ?_⟩) (by assumption) ?_
        rotate_left
        · intro w9 hSw
          go_simp
          first | done | with_reducible rfl
        simp only [Act.put, List.setIfInBounds_toArray, List.set_cons_zero, List.set_cons_succ]
        refine take' 7 (v := ?_) rfl (by kernel_rfl) (by kernel_rfl) (by kernel_rfl) (fun _ _ _ h => h) (Or.inl ⟨by rfl, ?_⟩) (by assumption) ?_
        rotate_left
        · intro w9 hSw
          go_simp
          first | done | with_reducible rfl
        simp only [Act.put, List.setIfInBounds_toArray, List.set_cons_zero, List.set_cons_succ]
        refine take' 8 (v := ?_) rfl (by kernel_rfl) (by kernel_rfl) (by kernel_rfl) (fun _ _ _ h => h) (Or.inl ⟨by rfl, ?_⟩) (by assumption) ?_
        rotate_left
        · intro w9 hSw
          go_simp
          first | done | with_reducible rfl
        simp only [Act.put, List.setIfInBounds_toArray, List.set_cons_zero, List.set_cons_succ]
        refine wpAnyH_ready (rs := [9]) (by kernel_rfl) (by simp) ?_
        refine cons' rfl (fun KK hKK => ?_)
        go_simp
        refine (G.out _ (hf1.later bD).1 (hf1.later bD).2.2.2.1 (hg1.later bD).1 (hg1.later bD).2.2.2.1 (hh1.later bD).1 (hh1.later bD).2.2.2.1).mono ?_
        rintro e w2 ⟨p, p', u, u', rfl, n1, n2, n3, n4⟩
        have b2 := n1.below
        replace a0 := below_cell b2 a0
        replace a1 := below_cell b2 a1
        replace a2 := below_cell b2 a2
        replace a3 := below_cell b2 a3
        replace d0 := below_cell b2 d0
        replace d1 := below_cell b2 d1
        replace d2 := below_cell b2 d2
        replace d3 := below_cell b2 d3
        replace d4 := below_cell b2 d4
        replace d5 := below_cell b2 d5
        go_wp2_with fail
        refine hKK.out _ _ ⟨a0, a1, a2, a3, d0, d1, d2, d3, d4, d5⟩ ?_
        clear hHeld
        intro hHeld
        clear hKK KK
        try simp only [Act.put, List.setIfInBounds_toArray, List.set_cons_zero, List.set_cons_succ]
        refine wpAnyH_ready (rs := [10]) (by kernel_rfl) (by simp) ?_
        refine cons' rfl (fun KK hKK => ?_)
        go_simp
        have hnew := heap_alloc_new w2 (.cells #[.bool (ng Z), .slice p (ln (am Z)) (ln (am Z)), .slice p' (ln V) (ln V), .bool (ng Y), .slice u (ln (am Y)) (ln (am Y)), .slice u' (ln U) (ln U)] 33)
        have b3 := below_alloc (w := w2) (.cells #[.bool (ng Z), .slice p (ln (am Z)) (ln (am Z)), .slice p' (ln V) (ln V), .bool (ng Y), .slice u (ln (am Y)) (ln (am Y)), .slice u' (ln U) (ln U)] 33)
        generalize w2.alloc (.cells #[.bool (ng Z), .slice p (ln (am Z)) (ln (am Z)), .slice p' (ln V) (ln V), .bool (ng Y), .slice u (ln (am Y)) (ln (am Y)), .slice u' (ln U) (ln U)] 33) = w3 at hnew b3 ⊢
        replace a0 := below_cell b3 a0
        replace a1 := below_cell b3 a1
        replace a2 := below_cell b3 a2
        replace a3 := below_cell b3 a3
        replace d0 := below_cell b3 d0
        replace d1 := below_cell b3 d1
        replace d2 := below_cell b3 d2
        replace d3 := below_cell b3 d3
        replace d4 := below_cell b3 d4
        replace d5 := below_cell b3 d5
        refine hKK.out _ _ ⟨a0, a1, a2, a3, d0, d1, d2, d3, d4, d5⟩ ?_
        clear hHeld
        intro hHeld
        clear hKK KK
        try simp only [Act.put, List.setIfInBounds_toArray, List.set_cons_zero, List.set_cons_succ]
        have bT : Below wr.heap.size wr w3 := bD.trans ((b2.mono bD.size).trans (b3.mono (Nat.le_trans bD.size b2.size)))
        have s1 := bD.size
        have s2 := b2.size
        have s3 := b3.size
        have sk := hBk.size
        have hO3 := own_below hO bT
        refine wpAnyH_ready (rs := [11]) (by kernel_rfl) (by simp) ?_
        refine cons' rfl (fun KK hKK => ?_)
        refine step_append_lies _ (by rfl) _ _ _ (by rfl) w.heap.size 33 i0' _ 6 112 Try.underlying24 hi0 hz0 hz1 hz2 rfl (by omega) u7 j (cellsD q r j) (by rfl) hO3
          ⟨w2.heap.size, 0, none⟩ 1 1 [.bool (ng Z), .slice p (ln (am Z)) (ln (am Z)), .slice p' (ln V) (ln V), .bool (ng Y), .slice u (ln (am Y)) (ln (am Y)), .slice u' (ln U) (ln U)] (by rfl) (by rfl) (World.news_of_block (cs := #[.bool (ng Z), .slice p (ln (am Z)) (ln (am Z)), .slice p' (ln V) (ln V), .bool (ng Y), .slice u (ln (am Y)) (ln (am Y)), .slice u' (ln U) (ln U)]) (t := 33) (fr := (0, 0)) hnew) (by simp [Value.oneCell'])
          (by omega) (by simp only [maxLen]; omega) (by omega) (by omega) w3.heap.size rfl ?_
        intro gb cap w4 hown4 hgrow hat hlt4
        have far : ∀ {c o : Nat} {u : Value}, (c < w.heap.size ∨ c = wr.heap.size) → w3.cell? ⟨c, o, none⟩ = some u → w4.cell? ⟨c, o, none⟩ = some u := fun hc hu => hgrow.cell hu (fun e => by have := hrow _ e.symm; simp only at this; omega)
        refine hKK.out _ _ ⟨far (Or.inr rfl) a0, far (Or.inr rfl) a1, far (Or.inr rfl) a2, far (Or.inr rfl) a3, far (Or.inl hb') d0, far (Or.inl hb') d1, far (Or.inl hb') d2, far (Or.inl hb') d3, far (Or.inl hb') d4, far (Or.inl hb') d5⟩ ?_
        clear hHeld far
        intro hHeld
        clear hKK KK
        try simp only [Act.put, List.setIfInBounds_toArray, List.set_cons_zero, List.set_cons_succ]
        have I1 := hide' (PrInvD.push (N := N) (t := t) hj (hB.trans (bT.mono hB.size)) hE hE' (fun i hi => ⟨(hq i hi).1.later bT, (hq i hi).2.later bT⟩) (fun b hb => (hrow b hb).1) hp (by omega) (RatV.of Z V p p') (RatV.of Y U u u')
          (Good.of n1 n2 b3 hL.pos hL.cop (by omega) (by omega) (by omega) (fun b hb => by have h1 := (hrow b hb).2; omega))
          (Good.of n3 n4 b3 hM.pos hM.cop (by omega) (by omega) (by omega) (fun b hb => by have h1 := (hrow b hb).2; omega))
          (by show Low _ _ (sg (ng Z) (am Z)) V; rw [sg_na]; exact hL) (by show Low _ _ (sg (ng Y) (am Y)) U; rw [sg_na]; exact hM) hown4 hgrow hat)
        clear hown4 hgrow hat hL hM n1 n2 n3 n4 hq hE hE' hO hO3 hrow
        refine take' 12 (v := ?_) rfl (by kernel_rfl) (by kernel_rfl) (by kernel_rfl) (fun _ _ _ h => h) (Or.inl ⟨by rfl, ?_⟩) (by assumption) ?_
        rotate_left
        · intro w9 hSw
          go_simp
          first | done | with_reducible rfl
        simp only [Act.put, List.setIfInBounds_toArray, List.set_cons_zero, List.set_cons_succ]
        refine wpAnyH_done (by kernel_rfl) ?_ _
        go_wp2
        go_roundw
        case rel => exact ⟨k + 1, by omega, by go_num, I1.out⟩
        case measure => simp [intOf]; omega
      · have P1 := hide' (fun w' => isPlace_out (v k) m w' hp)
        have I1 := hide' ((hI.skip hp).later (below_alloc (w := wr) (.cells #[.int .i64 (v k), .bool (f k).s, .slice (f k).a (f k).n (f k).c, .slice (f k).b (f k).m (f k).e] 45)))
        clear hI hp
        go_wp2_with fail
        refine (P1.out _).mono ?_
        rintro e w1 ⟨rfl, rfl⟩
        go_wp2
        go_roundw
        case rel => exact ⟨k + 1, by omega, by go_num, I1.out⟩
        case measure => simp [intOf]; omega
    · obtain rfl : k = n := by omega
      have i1 : ¬ (k : Int) < (k : Int) := by omega
      go_wp2
      go_ret
      exact ⟨u7, rfl, hI⟩
end Go.Proofs.Ytlafilmpefmidaa
