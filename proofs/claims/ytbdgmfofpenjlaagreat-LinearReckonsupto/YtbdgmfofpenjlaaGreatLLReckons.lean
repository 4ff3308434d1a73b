/-
  LinearReckons.
-/
import Derived.Test.YtbdgmfofpenjlaaGreatWNH
import Derived.Test.YtbdgmfofpenjlaaGreatWN16
import Derived.Test.YtbdgmfofpenjlaaGreatWO9
import Derived.Test.YtbdgmfofpenjlaaGreatWOA
import Derived.Test.YtbdgmfofpenjlaaGreatWO7
namespace Go.Proofs.YtbdgmfofpenjlaaGreat.linearReckons
open Go.ChangeShapes Go.WideShapes Go.ChangeAt Go.RowKit Go.Proofs.YtbdgmfofpenjlaaGreat
set_option linter.unusedVariables false
set_option linter.unusedSimpArgs false

set_option maxHeartbeats 8000000 in
set_option maxRecDepth 100000 in
theorem walkL (a : Option Addr) (ca : Nat) (L : List Mo) (b : Option Addr) (cb : Nat) (M : List Mo) (x : Int) (K : Nat) (w : World) (hL : Hand w a ca L) (hM : Hand w b cb M) (sa : Sl w a ca L) (sb : Sl w b cb M) (hn : L.length + M.length ≤ 1048576) (hbL : bulkL L + bulkL M ≤ 2097152) (hK : ∀ p ∈ M, 2 + p.2.n + p.2.m ≤ K) (hK2 : 2 ≤ K) (hKm : K ≤ 1048576) (hnK : M.length * (2 * K + 5) + 1 ≤ 1099511627776) :
    Calls Tryz.prog 3 #[.slice a L.length ca, .slice b M.length cb, .int .i64 x] w fun e w' => e = .returned (.bool true) ∧ Below w.heap.size w w' := by
  have wL := wts_bulk L (fun p hp => (hL.ok p hp).1)
  have wM := wts_bulk M (fun p hp => (hM.ok p hp).1)
  have P1 := hide' (fun w' (k : Hand w' a ca L) => hNorm k)
  have Q1 := hide' (fun w' (k : Hand w' a ca L) => vlNorm_is a ca L w' k.lies (fun p hp => ⟨(k.ok p hp).1, k.short p hp⟩) k.cap k.len k.wt)
  have P2 := hide' (fun w' (k : Hand w' a ca L) (j : Hand w' b cb M) => hAdd k j)
  have Q2 := hide' (fun w' (k : Hand w' a ca L) (j : Hand w' b cb M) (s : Sl w' a ca L) (t : Sl w' b cb M) => vlAdd_is a ca L b cb M w' s t (fun p hp => ⟨(k.ok p hp).1, k.short p hp⟩) (fun p hp => ⟨(j.ok p hp).1, j.short p hp⟩) hn (by rw [wts_append]; omega))
  have P3 := hide' (fun w' (k : Hand w' a ca L) (j : Hand w' b cb M) => lSub_is a ca L b cb M w' k.lies k.ok k.cap k.len k.thin j.lies j.ok j.cap j.len j.thin j.wt j.short)
  have Q3 := hide' (fun w' (k : Hand w' a ca L) (j : Hand w' b cb M) (s : Sl w' a ca L) (t : Sl w' b cb M) => vlSub_is a ca L b cb M K w' s t (fun p hp => ⟨(k.ok p hp).1, k.short p hp⟩) (fun p hp => (j.ok p hp).1) hn hK hK2 hKm hnK (by omega) (by omega))
  have P4 := hide' (fun w' (k : Hand w' a ca L) => lCoef_is a ca L x w' k.lies k.ok k.cap k.len (by omega))
  have Q4 := hide' (fun w' (k : Hand w' a ca L) => vlCoef_is a ca L x w' k.lies (fun p hp => ⟨(k.ok p hp).1, k.short p hp⟩) k.cap k.len k.wt)
  have P5 := hide' (fun w' (k : Hand w' a ca L) => lVars_is a ca L w' k.len (hNorm k))
  have Q5 := hide' (fun w' (k : Hand w' a ca L) => vlVars_is a ca L w' k.len (Q1.out w' k))
  have P6 := hide' (fun w' (k : Hand w' a ca L) (j : Hand w' b cb M) => hCmp k j)
  have Q6 := hide' (fun w' (k : Hand w' a ca L) (j : Hand w' b cb M) (s : Sl w' a ca L) (t : Sl w' b cb M) => vlCmp_is a ca L b cb M w' (Q3.out w' k j s t))
  have ls := (co_sz x (fo L)).mono (show _ ≤ 1099511627776 from hL.wt)
  have n1 := nfm_length (fo L)
  have n2 := nfm_length (fo L ++ fo M)
  have n3 := nfm_length (fo L ++ fmap (fun r => -r) (fo M))
  rw [List.length_append, fo_length, fo_length] at n2
  rw [List.length_append, fmap_length, fo_length, fo_length] at n3
  rw [fo_length] at n1
  obtain ⟨T1, hT1⟩ : ∃ T1, nfm (fo L) = T1 := ⟨_, rfl⟩
  obtain ⟨T2, hT2⟩ : ∃ T2, nfm (fo L ++ fo M) = T2 := ⟨_, rfl⟩
  obtain ⟨T3, hT3⟩ : ∃ T3, nfm (fo L ++ fmap (fun r => -r) (fo M)) = T3 := ⟨_, rfl⟩
  obtain ⟨s, hs⟩ : ∃ s, co x (fo L) = s := ⟨_, rfl⟩
  obtain ⟨C, hC⟩ : ∃ C, cmpF (fo L) (fo M) = C := ⟨_, rfl⟩
  rw [hT1] at P1 Q1 P5 Q5 n1
  rw [hT2] at P2 Q2 n2
  rw [hT3] at P3 Q3 n3
  rw [hs] at P4 Q4 ls
  rw [hC] at P6 Q6
  obtain ⟨ZZ, hZZ⟩ : ∃ ZZ, T1.map (·.1) = ZZ := ⟨_, rfl⟩
  rw [hZZ] at P5 Q5
  have nz : ZZ.length ≤ 2097152 := by rw [← hZZ, List.length_map]; omega
  have HN := hide' (show T1.length ≤ 2097152 ∧ T2.length ≤ 2097152 ∧ T3.length ≤ 2097152 from ⟨by omega, by omega, by omega⟩)
  have GS := hide' (fun w' p q p1 q1 k1 k2 k3 k4 => SameRat_is s.num s.den p q p1 q1 w' (Nat.le_trans ls.1 (by omega)) (Nat.le_trans ls.2 (by omega)) k1 k2 k3 k4)
  have GI := hide' (fun w' a1 c1 a2 c2 (h1 : IAt w' a1 ZZ) (h2 : IAt w' a2 ZZ) (k1 : ZZ.length ≤ c1) (k2 : ZZ.length ≤ c2) => sameInts_is a1 c1 a2 c2 ZZ w' h1 h2 k1 k2 nz)
  clear hT1 hT2 hT3 hs hC hZZ nz n1 n2 n3 ls wL wM hn hbL hK hK2 hKm hnK
  have hB : Below w.heap.size w w := Below.refl _ _
  go_enter Tryz.func3, Tryz.ntmps3
  go_wp2_with fail
  refine (P1.out _ hL).mono ?_
  rintro e w1 ⟨x1, c1, R1, rfl, b1, s1, E1, f1⟩
  replace E1 : Ents w1 R1 := E1
  replace hL := hL.later b1
  replace hM := hM.later b1
  replace sa := sa.later b1
  replace sb := sb.later b1
  replace hB := hB.trans (b1.mono hB.size)
  clear b1
  go_wp2_with fail
  refine (Q1.out _ hL).mono ?_
  rintro e w2 ⟨x2, c2, R2, rfl, b2, s2, E2, f2⟩
  replace E2 : Ents w2 R2 := E2
  replace hL := hL.later b2
  replace hM := hM.later b2
  replace sa := sa.later b2
  replace sb := sb.later b2
  replace s1 := s1.later b2
  replace E1 := E1.later b2
  replace hB := hB.trans (b2.mono hB.size)
  clear b2
  go_wp2_with fail
  refine (SameForm_is x1 c1 R1 x2 c2 R2 _ s1.lies s2.lies E1 E2 s1.len s2.len (by rw [← fo_length, f1]; exact HN.out.1) (by rw [f1, f2])).mono ?_
  rintro e w3 ⟨rfl, b3⟩
  replace hL := hL.later b3
  replace hM := hM.later b3
  replace sa := sa.later b3
  replace sb := sb.later b3
  replace s1 := s1.later b3
  replace E1 := E1.later b3
  replace s2 := s2.later b3
  replace E2 := E2.later b3
  replace hB := hB.trans (b3.mono hB.size)
  clear b3
  clear s1 E1 f1
  clear s2 E2 f2
  go_wp2_with fail
  refine (P2.out _ hL hM).mono ?_
  rintro e w4 ⟨x4, c4, R4, rfl, b4, s4, E4, f4⟩
  replace E4 : Ents w4 R4 := E4
  replace hL := hL.later b4
  replace hM := hM.later b4
  replace sa := sa.later b4
  replace sb := sb.later b4
  replace hB := hB.trans (b4.mono hB.size)
  clear b4
  go_wp2_with fail
  refine (Q2.out _ hL hM sa sb).mono ?_
  rintro e w5 ⟨x5, c5, R5, rfl, b5, s5, E5, f5⟩
  replace E5 : Ents w5 R5 := E5
  replace hL := hL.later b5
  replace hM := hM.later b5
  replace sa := sa.later b5
  replace sb := sb.later b5
  replace s4 := s4.later b5
  replace E4 := E4.later b5
  replace hB := hB.trans (b5.mono hB.size)
  clear b5
  go_wp2_with fail
  refine (SameForm_is x4 c4 R4 x5 c5 R5 _ s4.lies s5.lies E4 E5 s4.len s5.len (by rw [← fo_length, f4]; exact HN.out.2.1) (by rw [f4, f5])).mono ?_
  rintro e w6 ⟨rfl, b6⟩
  replace hL := hL.later b6
  replace hM := hM.later b6
  replace sa := sa.later b6
  replace sb := sb.later b6
  replace s4 := s4.later b6
  replace E4 := E4.later b6
  replace s5 := s5.later b6
  replace E5 := E5.later b6
  replace hB := hB.trans (b6.mono hB.size)
  clear b6
  clear s4 E4 f4
  clear s5 E5 f5
  go_wp2_with fail
  refine (P3.out _ hL hM).mono ?_
  rintro e w7 ⟨x7, c7, R7, rfl, b7, s7, E7, f7⟩
  replace E7 : Ents w7 R7 := E7
  replace hL := hL.later b7
  replace hM := hM.later b7
  replace sa := sa.later b7
  replace sb := sb.later b7
  replace hB := hB.trans (b7.mono hB.size)
  clear b7
  go_wp2_with fail
  refine (Q3.out _ hL hM sa sb).mono ?_
  rintro e w8 ⟨x8, c8, R8, rfl, b8, s8, E8, f8⟩
  replace E8 : Ents w8 R8 := E8
  replace hL := hL.later b8
  replace hM := hM.later b8
  replace sa := sa.later b8
  replace sb := sb.later b8
  replace s7 := s7.later b8
  replace E7 := E7.later b8
  replace hB := hB.trans (b8.mono hB.size)
  clear b8
  go_wp2_with fail
  refine (SameForm_is x7 c7 R7 x8 c8 R8 _ s7.lies s8.lies E7 E8 s7.len s8.len (by rw [← fo_length, f7]; exact HN.out.2.2) (by rw [f7, f8])).mono ?_
  rintro e w9 ⟨rfl, b9⟩
  replace hL := hL.later b9
  replace hM := hM.later b9
  replace sa := sa.later b9
  replace sb := sb.later b9
  replace s7 := s7.later b9
  replace E7 := E7.later b9
  replace s8 := s8.later b9
  replace E8 := E8.later b9
  replace hB := hB.trans (b9.mono hB.size)
  clear b9
  clear s7 E7 f7
  clear s8 E8 f8
  go_wp2_with fail
  refine (P4.out _ hL).mono ?_
  rintro e w10 ⟨p1, q1, rfl, b10, g1, g2⟩
  replace hL := hL.later b10
  replace hM := hM.later b10
  replace sa := sa.later b10
  replace sb := sb.later b10
  replace hB := hB.trans (b10.mono hB.size)
  clear b10
  go_wp2_with fail
  refine (Q4.out _ hL).mono ?_
  rintro e w11 ⟨p2, q2, rfl, b11, g3, g4, _, _⟩
  replace hL := hL.later b11
  replace hM := hM.later b11
  replace sa := sa.later b11
  replace sb := sb.later b11
  replace g1 := g1.later b11
  replace g2 := g2.later b11
  replace hB := hB.trans (b11.mono hB.size)
  clear b11
  go_wp2_with fail
  refine (GS.out _ p1 q1 p2 q2 g1 g2 g3 g4).mono ?_
  rintro e w12 ⟨rfl, b12⟩
  replace hL := hL.later b12
  replace hM := hM.later b12
  replace sa := sa.later b12
  replace sb := sb.later b12
  replace g1 := g1.later b12
  replace g2 := g2.later b12
  replace g3 := g3.later b12
  replace g4 := g4.later b12
  replace hB := hB.trans (b12.mono hB.size)
  clear b12
  clear g1 g2 g3 g4 GS
  go_wp2_with fail
  refine (P5.out _ hL).mono ?_
  rintro e w13 ⟨a1, c1, rfl, b13, I1, k1⟩
  replace hL := hL.later b13
  replace hM := hM.later b13
  replace sa := sa.later b13
  replace sb := sb.later b13
  replace hB := hB.trans (b13.mono hB.size)
  clear b13
  go_wp2_with fail
  refine (Q5.out _ hL).mono ?_
  rintro e w14 ⟨a2, c2, rfl, b14, I2, k2⟩
  replace hL := hL.later b14
  replace hM := hM.later b14
  replace sa := sa.later b14
  replace sb := sb.later b14
  replace I1 := I1.later b14
  replace hB := hB.trans (b14.mono hB.size)
  clear b14
  go_wp2_with fail
  refine (GI.out _ a1 c1 a2 c2 I1 I2 k1 k2).mono ?_
  rintro e w15 ⟨rfl, b15⟩
  replace hL := hL.later b15
  replace hM := hM.later b15
  replace sa := sa.later b15
  replace sb := sb.later b15
  replace I1 := I1.later b15
  replace I2 := I2.later b15
  replace hB := hB.trans (b15.mono hB.size)
  clear b15
  clear I1 I2
  go_wp2_with fail
  refine (P6.out _ hL hM).mono ?_
  rintro e w16 ⟨rfl, b16⟩
  replace hL := hL.later b16
  replace hM := hM.later b16
  replace sa := sa.later b16
  replace sb := sb.later b16
  replace hB := hB.trans (b16.mono hB.size)
  clear b16
  go_wp2_with fail
  refine (Q6.out _ hL hM sa sb).mono ?_
  rintro e w17 ⟨rfl, b17⟩
  replace hL := hL.later b17
  replace hM := hM.later b17
  replace sa := sa.later b17
  replace sb := sb.later b17
  replace hB := hB.trans (b17.mono hB.size)
  clear b17
  have hCC : (C == C) = true := by simp
  go_wp2
  go_ret
  exact ⟨rfl, hB⟩
theorem walk (af : Option Addr) (n capf : Nat) (v : Nat → Int) (f : Nat → RatV) (ag : Option Addr) (m capg : Nat) (v2 : Nat → Int) (g : Nat → RatV) (x : Int) (w : World) (hF : FormAt w af n v f) (hfo : ∀ i, i < n → (Lit.int .i64 (v i)).wf = true ∧ (f i).ok w) (hcf : n ≤ capf) (hnf : af = none → capf = 0) (hG : FormAt w ag m v2 g) (hgo : ∀ i, i < m → (Lit.int .i64 (v2 i)).wf = true ∧ (g i).ok w) (hcg : m ≤ capg) (hng : ag = none → capg = 0) (hx1 : -9223372036854775808 ≤ x) (hx2 : x ≤ 9223372036854775807) (hb : bulkV f n + bulkV g m + 2 ≤ 1048576) :
    Calls Tryz.prog 3 #[.slice af n capf, .slice ag m capg, .int .i64 x] w fun e w' => e = .returned (.bool true) ∧ Below w.heap.size w w' := by
  have b1 := bulk_n (q := f) n
  have b2 := bulk_n (q := g) m
  have r := walkL af capf (mos v f n) ag capg (mos v2 g m) x (bulkV g m - m + 2) w (hand_in hF hfo hcf (by omega)) (hand_in hG hgo hcg (by omega)) ⟨mos_at hF, by rw [mos_length]; exact hcf, hnf⟩ ⟨mos_at hG, by rw [mos_length]; exact hcg, hng⟩ (by rw [mos_length, mos_length]; omega) (by rw [bulkL_mos, bulkL_mos]; omega)
    (fun p hp => by obtain ⟨i, hi, rfl⟩ := mos_mem hp; have := bulk_at (q := g) m i hi; show 2 + (g i).n + (g i).m ≤ _; omega) (by omega) (by omega) (by rw [mos_length]; exact rect (by omega))
  rw [mos_length, mos_length] at r
  exact r

set_option maxRecDepth 100000 in
theorem contract (H : Type) (enc : TypeId × Value → H) (W : World) (base : Nat) (args : Array Value) (ds gs : List (DataW H)) (before : List MemPlace)
    (hval : ∀ (j : Nat) t v, Tryz.f3.params[j]? = some t → args[j]? = some v → Value.okWide Tryz.prog W .any base t v)
    (hW : DataW.Whole enc Tryz.prog Tryz.f3.params.toList Rows.linearReckonsSpec.vars false W args.toList ds gs before)
    (hsz : (DataW.weightsEach Tryz.prog (Tryz.f3.params.toList ++ Rows.linearReckonsSpec.plain.varTypes Tryz.prog) (ds ++ gs)).all (· ≤ reachBytes) = true) (hk : Rows.uptoSmall H (ds ++ gs) = true) :
    Calls Tryz.prog 3 args W fun e W' => ∃ v, e = .returned v ∧ Rows.linearReckonsSpec.post enc Tryz.prog Tryz.f3 false true false false W args v W' := by
  have hW' := hW
  obtain ⟨p, q, hA0, hV, rfl, hfz, hnd⟩ := hW
  have hA : DataW.TrodAll enc Tryz.prog W 0 (fun _ => true) true Tryz.f3.params.toList args.toList ds p := hA0
  rw [Tryz.params3] at hA hval hsz
  obtain ⟨v0, vs0, d0, ds0, p0, q0, hargs, rfl, rfl, h0, r0⟩ := trodAll_cons hA
  obtain ⟨v1, vs1, d1, ds1, p1, q1, rfl, rfl, rfl, h1, r1⟩ := trodAll_cons r0
  obtain ⟨v2, vs2, d2, ds2, p2, q2, rfl, rfl, rfl, h2, r2⟩ := trodAll_cons r1
  obtain ⟨rfl, rfl, rfl⟩ := trodAll_nil r2
  obtain rfl : args = #[v0, v1, v2] := by cases args; simp_all
  obtain ⟨rfl, rfl⟩ := trodVars_none hV
  have lt0 : ∀ x ∈ p0, x.block < W.heap.size := by obtain ⟨m, hm⟩ := h0; exact DataW.trod_lt m _ _ _ hm
  obtain ⟨xa0, xl0, xc0, rfl⟩ := okWide_slice Tryz.underlying23 (hval 0 23 v0 rfl rfl)
  obtain ⟨fu0, hm0⟩ := id h0
  obtain ⟨fa0, fn0, fc0, fv0, ff0, hcs0, hF0, hfo0, hfc0, hfz0, hfu0⟩ := open_Form hm0 (sized_at 0 hsz rfl rfl)
  have hnn0 : fa0 = none → fc0 = 0 := form_nn hm0 hcs0
  simp [Value.cells] at hcs0
  obtain ⟨rfl, rfl, rfl⟩ := hcs0
  have lt1 : ∀ x ∈ p1, x.block < W.heap.size := by obtain ⟨m, hm⟩ := h1; exact DataW.trod_lt m _ _ _ hm
  obtain ⟨xa1, xl1, xc1, rfl⟩ := okWide_slice Tryz.underlying23 (hval 1 23 v1 rfl rfl)
  obtain ⟨fu1, hm1⟩ := id h1
  obtain ⟨fa1, fn1, fc1, fv1, ff1, hcs1, hF1, hfo1, hfc1, hfz1, hfu1⟩ := open_Form hm1 (sized_at 1 hsz rfl rfl)
  have hnn1 : fa1 = none → fc1 = 0 := form_nn hm1 hcs1
  simp [Value.cells] at hcs1
  obtain ⟨rfl, rfl, rfl⟩ := hcs1
  obtain ⟨z2, rfl, rfl, rfl, w2⟩ := open_int Tryz.underlying3 (hval 2 3 v2 rfl rfl) h2
  have bz2 := bounds_i64 w2
  clear hA0
  have hbulk := of_decide_eq_true hk
  simp only [List.append_nil, Rows.uptoBulkAll] at hbulk
  simp only [List.append_nil] at hW'
  refine (walk xa0 xl0 xc0 fv0 ff0 xa1 xl1 xc1 fv1 ff1 z2 W hF0 hfo0 hfc0 hnn0 hF1 hfo1 hfc1 hnn1 (by omega) (by omega) (by omega)).mono fun e W' ⟨he, bel⟩ => ?_
  subst he
  exact ⟨_, rfl, _, _, _, [], _, [], hW', trodAll_mk1 (shut_bool Tryz.underlying4 _), (trodAll_cons_mk (Below.trod laidOut (by kernel_rfl) (of_decide_eq_true (by kernel_rfl)) h0 bel lt0) (trodAll_cons_mk (Below.trod laidOut (by kernel_rfl) (of_decide_eq_true (by kernel_rfl)) h1 bel lt1) (trodAll_cons_mk (shut_int Tryz.underlying3 w2) trodAll_mk0))), rfl, bel.frame _, fun h => by cases h⟩

set_option maxRecDepth 100000 in
theorem lifted (os : Os) (started : os.Started) (H : Type) (enc : TypeId × Value → H) (F : Stop.Interp) :
    ReturnsInHanded {} Tryz.checked os 3 .any ((Rows.OpenSpec.upto Rows.linearReckonsSpec).pre6 enc Tryz.prog Tryz.f3 Rows.linearReckonsUptoRow.domain false) (((Rows.OpenSpec.upto Rows.linearReckonsSpec).at F).post enc Tryz.prog Tryz.f3 false true false false) := by
  refine returnsInHanded_of_cond_sized (C := Tryz.checked) (s := Rows.OpenSpec.upto Rows.linearReckonsSpec) (k := Rows.uptoSmall) rfl own started (by kernel_rfl) Tryz.func3
    (OpenSpec.witness (enc := enc) (C := Tryz.checked) (s := Rows.OpenSpec.upto Rows.linearReckonsSpec) (k := Rows.uptoSmall) rfl false ⟨#[], #[.slice none 0 0, .slice none 0 0, .int .i64 0], []⟩ 8 (by kernel_rfl) (by kernel_rfl) (by kernel_rfl)
      (x := ([.nil, .nil, .lit (.int .i64 0)], [], [])) (by kernel_rfl) rfl (by kernel_rfl)) ?_
  intro W base args ds gs before hval hW _ hk hsz _
  exact contract H enc W base args ds gs before hval hW hsz hk

theorem over : Rows.linearReckonsUptoRow.holds Tryz.pinned (Rows.OpenSpec.upto Rows.linearReckonsSpec) :=
  OpenClaim.holds_of_cond 3 Tryz.f3 rfl rfl rfl rfl rfl rfl rfl ⟨rfl, rfl, rfl, rfl, rfl⟩ rfl rfl rfl rfl rfl (by kernel_rfl) Tryz.func3 (by kernel_rfl)
    (of_decide_eq_true (by kernel_rfl)) (by unfold Func.isWrapper; first | (rw [if_pos (by decide +kernel)]; kernel_rfl) | (rw [if_neg (by decide +kernel)]; exact ⟨rfl, rfl⟩))
    (fun os started H enc _ F => lifted os started H enc F)

end Go.Proofs.YtbdgmfofpenjlaaGreat.linearReckons
namespace Go.Proofs.YtbdgmfofpenjlaaGreat
theorem linearReckons_holds : Rows.LinearReckonsUptoSaid := linearReckons.over
#print axioms linearReckons_holds
end Go.Proofs.YtbdgmfofpenjlaaGreat
