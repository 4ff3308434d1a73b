/-
  LinearDeltas.
-/
import Derived.Test.YtlafilmpefmidaaWM9
import Derived.Test.YtlafilmpefmidaaWMA
namespace Go.Proofs.Ytlafilmpefmidaa.linearDeltas
open Go.ChangeShapes Go.WideShapes Go.ChangeAt Go.RowKit Go.Proofs.Ytlafilmpefmidaa
set_option linter.unusedVariables false

theorem bulk_at {q : Nat → RatV} : ∀ (n i : Nat), i < n → (q i).n + (q i).m + n ≤ bulkV q n
  | 0, i, h => absurd h (by omega)
  | n + 1, i, h => by
    simp only [bulkV]
    rcases Nat.lt_or_ge i n with h1 | h1
    · have := bulk_at (q := q) n i h1
      omega
    · obtain rfl : i = n := by omega
      have : i ≤ bulkV q i := by
        clear h h1
        induction i with
        | zero => exact Nat.zero_le _
        | succ i ih => simp only [bulkV]; omega
      omega
theorem bulk_n {q : Nat → RatV} : ∀ (n : Nat), n ≤ bulkV q n
  | 0 => Nat.zero_le _
  | n + 1 => by have := bulk_n (q := q) n; simp only [bulkV]; omega
theorem rect {n K : Nat} (h : n + K ≤ 1048576) : n * (2 * K + 5) + 1 ≤ 1099511627776 := by
  have e : (n + K) * (n + K) ≤ 1048576 * 1048576 := Nat.mul_le_mul h h
  have e2 : 4 * (n * K) ≤ (n + K) * (n + K) := by
    have h1 : 0 ≤ ((n : Int) - K) * ((n : Int) - K) := by
      rcases Int.le_total 0 ((n : Int) - K) with h2 | h2
      · exact Int.mul_nonneg h2 h2
      · exact Int.mul_nonneg_of_nonpos_of_nonpos h2 h2
    have h2 : ((n : Int) + K) * ((n : Int) + K) = 4 * ((n : Int) * K) + ((n : Int) - K) * ((n : Int) - K) := by grind
    have h3 : (4 * ((n : Int) * K)) ≤ ((n : Int) + K) * ((n : Int) + K) := by omega
    exact_mod_cast h3
  have e3 : n * (2 * K + 5) = 2 * (n * K) + 5 * n := by grind
  omega

set_option maxHeartbeats 2000000 in
set_option maxRecDepth 100000 in
theorem walk (af : Option Addr) (n capf : Nat) (v : Nat → Int) (f : Nat → RatV) (av : Option Addr) (m capv : Nat) (g h : Nat → RatV) (w : World) (hF : FormAt w af n v f) (hfo : ∀ i, i < n → (Lit.int .i64 (v i)).wf = true ∧ (f i).ok w) (hcf : n ≤ capf) (hG : DelsAt w av m g h) (hgo : ∀ i, i < m → (g i).ok w ∧ (h i).ok w) (hcv : m ≤ capv) (hb : bulkV f n + (bulkV g m + bulkV h m) ≤ 1048576) :
    Calls Try.prog 3 #[.slice af n capf, .slice av m capv] w fun e w' => e = .returned (.bool true) ∧ Below w.heap.size w w' := by
  obtain ⟨K, hKd⟩ : ∃ K, K = bulkV f n - n + (bulkV g m + bulkV h m) := ⟨_, rfl⟩
  have b1 := bulk_n (q := f) n
  have b2 := bulk_n (q := g) m
  have hK : ∀ i t, i < n → t < m → (f i).n + (f i).m + (g t).n + (g t).m ≤ K ∧ (f i).n + (f i).m + (h t).n + (h t).m ≤ K := fun i t hi ht => by
    have h1 := bulk_at (q := f) n i hi
    have h2 := bulk_at (q := g) m t ht
    have h3 := bulk_at (q := h) m t ht
    omega
  have hnK := rect (n := n) (K := K) (by omega)
  obtain ⟨Z, V, hL⟩ := low_ex (lnum (prods v f g m n)) (lden (prods v f g m n) : Nat) (by have := lden_prods_pos v f g m n; omega)
  obtain ⟨Y, U, hM⟩ := low_ex (lnum (prods v f h m n)) (lden (prods v f h m n) : Nat) (by have := lden_prods_pos v f h m n; omega)
  have hl := prods_ln (fun i hi => (hfo i hi).2) (fun i hi => (hgo i hi).1) (fun i t hi ht => (hK i t hi ht).1) hL
  have hl' := prods_ln (fun i hi => (hfo i hi).2) (fun i hi => (hgo i hi).2) (fun i t hi ht => (hK i t hi ht).2) hM
  have hkK : n * (K + 1) ≤ n * (2 * K + 5) := Nat.mul_le_mul_left _ (by omega)
  have FL : ∀ {w'}, Below w.heap.size w w' → FormAt w' af n v f := fun hb hp => by
    obtain ⟨b, off, e, hl, hc⟩ := hF hp
    exact ⟨b, off, e, Nat.lt_of_lt_of_le hl hb.size, fun i hi => ⟨below_cell hb (hc i hi).1, (hc i hi).2.later hb⟩⟩
  have G1 := hide' (lDeltas_is af n capf v f av m capv g h K Z V Y U w hcf hcv (by omega) (by omega) hF (fun i hi => (hfo i hi).2) hG hgo hK (by omega) hnK hL hM)
  have G2 := hide' (fun w' (hb : Below w.heap.size w w') => vlDeltas_is af n capf v f av m capv g h K Z V Y U w' hcf hcv (by omega) (by omega) (FL hb) (fun i hi => (hfo i hi).2.later hb) (hG.later hb) (fun i hi => ⟨(hgo i hi).1.later hb, (hgo i hi).2.later hb⟩) hK (by omega) hnK hL hM)
  have G3 := hide' (fun w' p q p1 q1 r t r1 t1 k1 k2 k3 k4 j1 j2 j3 j4 => SameDelta_is Z V Y U p q p1 q1 r t r1 t1 w' (by omega) (by omega) (by omega) (by omega) k1 k2 k3 k4 j1 j2 j3 j4)
  clear FL hl hl' hkK hL hM hnK hK b1 b2 hKd hF hfo hG hgo hb
  go_enter Try.func3, Try.ntmps3
  go_wp2_with fail
  refine G1.out.mono ?_
  rintro e w1 ⟨x1, y1, z1, t1, rfl, g1, kx1, ky1, kz1, kt1⟩
  go_wp2_with fail
  refine (G2.out _ g1).mono ?_
  rintro e w2 ⟨x2, y2, z2, t2, rfl, g2, kx2, ky2, kz2, kt2⟩
  go_wp2_with fail
  refine (G3.out _ x1 y1 x2 y2 z1 t1 z2 t2 (kx1.later g2) (ky1.later g2) (kz1.later g2) (kt1.later g2) kx2 ky2 kz2 kt2).mono ?_
  rintro e w3 ⟨rfl, g3⟩
  go_wp2
  go_ret
  exact ⟨rfl, (g1.trans (g2.mono g1.size)).trans (g3.mono (Nat.le_trans g1.size g2.size))⟩

set_option maxRecDepth 100000 in
theorem contract (H : Type) (enc : TypeId × Value → H) (W : World) (base : Nat) (args : Array Value) (ds gs : List (DataW H)) (before : List MemPlace)
    (hval : ∀ (j : Nat) t v, Try.f3.params[j]? = some t → args[j]? = some v → Value.okWide Try.prog W .any base t v)
    (hW : DataW.Whole enc Try.prog Try.f3.params.toList Rows.linearDeltasSpec.vars false W args.toList ds gs before)
    (hsz : (DataW.weightsEach Try.prog (Try.f3.params.toList ++ Rows.linearDeltasSpec.plain.varTypes Try.prog) (ds ++ gs)).all (· ≤ reachBytes) = true) (hk : Rows.uptoSmall H (ds ++ gs) = true) :
    Calls Try.prog 3 args W fun e W' => ∃ v, e = .returned v ∧ Rows.linearDeltasSpec.post enc Try.prog Try.f3 false true false false W args v W' := by
  have hW' := hW
  obtain ⟨p, q, hA0, hV, rfl, hfz, hnd⟩ := hW
  have hA : DataW.TrodAll enc Try.prog W 0 (fun _ => true) true Try.f3.params.toList args.toList ds p := hA0
  rw [Try.params3] at hA hval hsz
  obtain ⟨v0, vs0, d0, ds0, p0, q0, hargs, rfl, rfl, h0, r0⟩ := trodAll_cons hA
  obtain ⟨v1, vs1, d1, ds1, p1, q1, rfl, rfl, rfl, h1, r1⟩ := trodAll_cons r0
  obtain ⟨rfl, rfl, rfl⟩ := trodAll_nil r1
  obtain rfl : args = #[v0, v1] := by cases args; simp_all
  obtain ⟨rfl, rfl⟩ := trodVars_none hV
  have lt0 : ∀ x ∈ p0, x.block < W.heap.size := by obtain ⟨m, hm⟩ := h0; exact DataW.trod_lt m _ _ _ hm
  obtain ⟨xa0, xl0, xc0, rfl⟩ := okWide_slice Try.underlying23 (hval 0 23 v0 rfl rfl)
  obtain ⟨fu0, hm0⟩ := id h0
  obtain ⟨fa0, fn0, fc0, fv0, ff0, hcs0, hF0, hfo0, hfc0, hfz0, hfu0⟩ := open_Form hm0 (sized_at 0 hsz rfl rfl)
  simp [Value.cells] at hcs0
  obtain ⟨rfl, rfl, rfl⟩ := hcs0
  have lt1 : ∀ x ∈ p1, x.block < W.heap.size := by obtain ⟨m, hm⟩ := h1; exact DataW.trod_lt m _ _ _ hm
  obtain ⟨xa1, xl1, xc1, rfl⟩ := okWide_slice Try.underlying24 (hval 1 24 v1 rfl rfl)
  obtain ⟨fu1, hm1⟩ := id h1
  obtain ⟨fa1, fn1, fc1, ff1, fg1, hcs1, hF1, hfo1, hfc1, hfz1, hfu1⟩ := open_Dels hm1 (sized_at 1 hsz rfl rfl)
  simp [Value.cells] at hcs1
  obtain ⟨rfl, rfl, rfl⟩ := hcs1
  clear hA0
  have hbulk := of_decide_eq_true hk
  simp only [List.append_nil, Rows.uptoBulkAll] at hbulk
  simp only [List.append_nil] at hW'
  refine (walk xa0 xl0 xc0 fv0 ff0 xa1 xl1 xc1 ff1 fg1 W hF0 hfo0 hfc0 hF1 hfo1 hfc1 (by omega)).mono fun e W' ⟨he, bel⟩ => ?_
  subst he
  exact ⟨_, rfl, _, _, _, [], _, [], hW', trodAll_mk1 (shut_bool Try.underlying4 _), (trodAll_cons_mk (Below.trod laidOut (by kernel_rfl) (of_decide_eq_true (by kernel_rfl)) h0 bel lt0) (trodAll_cons_mk (Below.trod laidOut (by kernel_rfl) (of_decide_eq_true (by kernel_rfl)) h1 bel lt1) trodAll_mk0)), rfl, bel.frame _, fun h => by cases h⟩

set_option maxRecDepth 100000 in
theorem lifted (os : Os) (started : os.Started) (H : Type) (enc : TypeId × Value → H) (F : Stop.Interp) :
    ReturnsInHanded {} Try.checked os 3 .any ((Rows.OpenSpec.upto Rows.linearDeltasSpec).pre6 enc Try.prog Try.f3 Rows.linearDeltasUptoRow.domain false) (((Rows.OpenSpec.upto Rows.linearDeltasSpec).at F).post enc Try.prog Try.f3 false true false false) := by
  refine returnsInHanded_of_cond_sized (C := Try.checked) (s := Rows.OpenSpec.upto Rows.linearDeltasSpec) (k := Rows.uptoSmall) rfl own started (by kernel_rfl) Try.func3
    (OpenSpec.witness (enc := enc) (C := Try.checked) (s := Rows.OpenSpec.upto Rows.linearDeltasSpec) (k := Rows.uptoSmall) rfl false ⟨#[], #[.slice none 0 0, .slice none 0 0], []⟩ 8 (by kernel_rfl) (by kernel_rfl) (by kernel_rfl)
      (x := ([.nil, .nil], [], [])) (by kernel_rfl) rfl (by kernel_rfl)) ?_
  intro W base args ds gs before hval hW _ hk hsz _
  exact contract H enc W base args ds gs before hval hW hsz hk

theorem over : Rows.linearDeltasUptoRow.holds Try.pinned (Rows.OpenSpec.upto Rows.linearDeltasSpec) :=
  OpenClaim.holds_of_cond 3 Try.f3 rfl rfl rfl rfl rfl rfl rfl ⟨rfl, rfl, rfl, rfl, rfl⟩ rfl rfl rfl rfl rfl (by kernel_rfl) Try.func3 (by kernel_rfl)
    (of_decide_eq_true (by kernel_rfl)) (by unfold Func.isWrapper; first | (rw [if_pos (by decide +kernel)]; kernel_rfl) | (rw [if_neg (by decide +kernel)]; exact ⟨rfl, rfl⟩))
    (fun os started H enc _ F => lifted os started H enc F)

end Go.Proofs.Ytlafilmpefmidaa.linearDeltas
namespace Go.Proofs.Ytlafilmpefmidaa
theorem linearDeltas_holds : Rows.LinearDeltasUptoSaid := linearDeltas.over
#print axioms linearDeltas_holds
end Go.Proofs.Ytlafilmpefmidaa
