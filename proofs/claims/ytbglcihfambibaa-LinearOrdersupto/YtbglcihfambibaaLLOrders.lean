/-
  LinearOrders.
-/
import Derived.Test.YtbglcihfambibaaWN13
import Derived.Test.YtbglcihfambibaaWN12
import Derived.Test.YtbglcihfambibaaWO8
import Derived.Test.YtbglcihfambibaaOpenR
import Derived.Test.YtbglcihfambibaaWO0
namespace Go.Proofs.Ytbglcihfambibaa.linearOrders
open Go.ChangeShapes Go.WideShapes Go.ChangeAt Go.RowKit Go.Proofs.Ytbglcihfambibaa
set_option linter.unusedVariables false
set_option linter.unusedSimpArgs false

/-- a form that came in, and what is known of it -/
structure Hand (w : World) (a : Option Addr) (c : Nat) (L : List Mo) : Prop where
  lies : FAt w a L
  ok : ∀ p ∈ L, p.2.ok w ∧ p.2.m < 35184372087808
  cap : L.length ≤ c
  len : L.length ≤ 1048576
  thin : thin (fo L)
  wt : wts (fo L) + 1 ≤ 1099511627776
  short : ∀ p ∈ L, p.2.n ≤ 1099511627776 ∧ p.2.m ≤ 1099511627776
theorem Hand.later {w w' : World} {a : Option Addr} {c : Nat} {L : List Mo} (h : Hand w a c L) (hb : Below w.heap.size w w') : Hand w' a c L := ⟨h.lies.later hb, fun p hp => ⟨(h.ok p hp).1.later hb, (h.ok p hp).2⟩, h.cap, h.len, h.thin, h.wt, h.short⟩
theorem hand_of {w : World} {a : Option Addr} {c : Nat} {L : List Mo} (hF : FAt w a L) (hok : ∀ p ∈ L, p.2.ok w) (hc : L.length ≤ c) (hl : L.length ≤ 1048576) (hb : bulkL L ≤ 16777216) : Hand w a c L := by
  have h1 := wts_bulk L hok
  exact ⟨hF, fun p hp => ⟨hok p hp, by have := bulkL_at L p hp; omega⟩, hc, hl, thin_of (by omega), by omega, fun p hp => by have := bulkL_at L p hp; omega⟩
/-- a normal form that was made -/
theorem hand_nfm {w : World} {a : Option Addr} {c : Nat} {R : List Mo} {l : Fo} (hs : Sl w a c R) (he : ∀ p ∈ R, Ent w p) (hf : fo R = nfm l) (hl : l.length ≤ 1048576) (hw : wts l ≤ 2097152) : Hand w a c R := by
  have h1 := wts_nfm l
  have h2 := nfm_length l
  have h3 : R.length = (nfm l).length := by rw [← fo_length, hf]
  have h4 := bulkL_low R fun p hp => (he p hp).low
  rw [hf] at h4
  exact hand_of hs.lies (fun p hp => (he p hp).ok) hs.len (by omega) (by omega)
theorem hand_unit {w : World} {a : Option Addr} {c : Nat} {R : List Mo} {x : Int} (hs : Sl w a c R) (he : ∀ p ∈ R, Ent w p) (hf : fo R = [(x, 1)]) : Hand w a c R := by
  have h : nfm [(x, (1 : Rat))] = [(x, 1)] := (nfm_self (nrm.nil.cons (fun q hq => absurd hq (by simp)) (by show (1 : Rat) ≠ 0; decide))).symm
  have hw : wts [(x, (1 : Rat))] ≤ 3 := by
    show wt 1 + 0 ≤ 3
    unfold wt
    show ln (am 1) + ln 1 + 1 + 0 ≤ 3
    rw [show am 1 = 1 from rfl, ln_one]
    omega
  exact hand_nfm hs he (by rw [h]; exact hf) (by simp) (by omega)
theorem hCmp {w : World} {a : Option Addr} {ca : Nat} {L : List Mo} {b : Option Addr} {cb : Nat} {M : List Mo} (h : Hand w a ca L) (k : Hand w b cb M) :
    Calls Try.prog 4 #[.slice a L.length ca, .slice b M.length cb] w fun e w' => e = .returned (.int .i64 (cmpF (fo L) (fo M))) ∧ Below w.heap.size w w' :=
  lCmp_is a ca L b cb M w h.lies h.ok h.cap h.len h.thin k.lies k.ok k.cap k.len k.thin k.wt k.short
theorem hAdd {w : World} {a : Option Addr} {ca : Nat} {L : List Mo} {b : Option Addr} {cb : Nat} {M : List Mo} (h : Hand w a ca L) (k : Hand w b cb M) : Calls Try.prog 5 #[.slice a L.length ca, .slice b M.length cb] w (FAns w (nfm (fo L ++ fo M))) :=
  lAdd_is a ca L b cb M w h.lies h.ok h.cap h.len h.thin k.lies k.ok k.cap k.len k.thin
theorem hNorm {w : World} {a : Option Addr} {ca : Nat} {L : List Mo} (h : Hand w a ca L) : Calls Try.prog 7 #[.slice a L.length ca] w (FAns w (nfm (fo L))) :=
  lNorm_is a ca L w h.lies (fun p hp => (h.ok p hp).1) h.cap h.len (fun p hp => (h.ok p hp).2) h.thin

set_option maxHeartbeats 8000000 in
set_option maxRecDepth 100000 in
theorem w000 (a : Option Addr) (ca : Nat) (L : List Mo) (b : Option Addr) (cb : Nat) (M : List Mo) (c : Option Addr) (cc : Nat) (N : List Mo) (w : World) (hL : Hand w a ca L) (hM : Hand w b cb M) (hN : Hand w c cc N) (hl : (fo L ++ fo N).length ≤ 1048576) (hl2 : (fo M ++ fo N).length ≤ 1048576) (hw : wts (fo L ++ fo N) ≤ 2097152) (hw2 : wts (fo M ++ fo N) ≤ 2097152)
    (hfg : cmpF (fo L) (fo M) = -1) (hgh : cmpF (fo M) (fo N) = -1) (hfh : cmpF (fo L) (fo N) = -1) :
    Calls Try.prog 3 #[.slice a L.length ca, .slice b M.length cb, .slice c N.length cc] w fun e w' => e = .returned (.bool true) ∧ Below w.heap.size w w' := by
  have C1 := hide' (fun w' (k : Hand w' a ca L) (j : Hand w' b cb M) => hCmp k j)
  rw [hfg] at C1
  have C2 := hide' (fun w' (k : Hand w' b cb M) (j : Hand w' c cc N) => hCmp k j)
  rw [hgh] at C2
  have C3 := hide' (fun w' (k : Hand w' b cb M) (j : Hand w' a ca L) => hCmp k j)
  rw [cmp_neg, hfg] at C3
  try simp only [Int.neg_neg, Int.neg_zero] at C3
  have C4 := hide' (fun w' (k : Hand w' a ca L) (j : Hand w' c cc N) => hCmp k j)
  rw [hfh] at C4
  have C5 := hide' (fun w' x1 c1 (R1 : List Mo) x2 c2 (R2 : List Mo) (k : Hand w' x1 c1 R1) (j : Hand w' x2 c2 R2) (f1 : fo R1 = nfm (fo L ++ fo N)) (f2 : fo R2 = nfm (fo M ++ fo N)) => (hCmp k j).mono (fun e w'' h => by rw [f1, f2, cmp_sum, hfg] at h; exact h : ∀ e w'', _ → (e = .returned (.int .i64 (-1)) ∧ Below w'.heap.size w' w'')))
  have C6 := hide' (fun w' x1 c1 (R1 : List Mo) x2 c2 (R2 : List Mo) (k : Hand w' x1 c1 R1) (j : Hand w' x2 c2 R2) (f1 : fo R1 = [(1, 1)]) (f2 : fo R2 = [(2, 1)]) => (hCmp k j).mono (fun e w'' h => by rw [f1, f2, cmp_units] at h; exact h : ∀ e w'', _ → (e = .returned (.int .i64 1) ∧ Below w'.heap.size w' w'')))
  have A1 := hide' (fun w' (k : Hand w' a ca L) (j : Hand w' c cc N) => hAdd k j)
  have A2 := hide' (fun w' (k : Hand w' b cb M) (j : Hand w' c cc N) => hAdd k j)
  have N1 := hide' (fun w' (k : Hand w' a ca L) => hNorm k)
  have N2 := hide' (fun w' (k : Hand w' b cb M) => hNorm k)
  have HS := hide' (cmp_same (fo L) (fo M))
  rw [hfg] at HS
  have HX := hide' (fun w' x1 c1 (R1 : List Mo) (s1 : Sl w' x1 c1 R1) (E1 : ∀ p ∈ R1, Ent w' p) (f1 : fo R1 = nfm (fo L ++ fo N)) => hand_nfm s1 E1 f1 hl hw)
  have HY := hide' (fun w' x1 c1 (R1 : List Mo) (s1 : Sl w' x1 c1 R1) (E1 : ∀ p ∈ R1, Ent w' p) (f1 : fo R1 = nfm (fo M ++ fo N)) => hand_nfm s1 E1 f1 hl2 hw2)
  have lL : ∀ R : List Mo, fo R = nfm (fo L) → R.length ≤ 2097152 := fun R hf => by have h := nfm_length (fo L); rw [← hf, fo_length, fo_length] at h; have := hL.len; omega
  have lM : ∀ R : List Mo, fo R = nfm (fo M) → R.length ≤ 2097152 := fun R hf => by have h := nfm_length (fo M); rw [← hf, fo_length, fo_length] at h; have := hM.len; omega
  have HL := hide' (And.intro lL lM)
  clear lL lM hfg hgh hl hl2 hw hw2 hfh
  have hB : Below w.heap.size w w := Below.refl _ _
  go_enter Try.func3, Try.ntmps3
  go_wp2_with fail
  refine (C1.out _ hL hM).mono ?_
  rintro e w1 ⟨rfl, b1⟩
  replace hL := hL.later b1
  replace hM := hM.later b1
  replace hN := hN.later b1
  replace hB := hB.trans (b1.mono hB.size)
  clear b1
  go_wp2_with fail
  refine (C2.out _ hM hN).mono ?_
  rintro e w2 ⟨rfl, b2⟩
  replace hL := hL.later b2
  replace hM := hM.later b2
  replace hN := hN.later b2
  replace hB := hB.trans (b2.mono hB.size)
  clear b2
  go_wp2_with fail
  refine (C3.out _ hM hL).mono ?_
  rintro e w3 ⟨rfl, b3⟩
  replace hL := hL.later b3
  replace hM := hM.later b3
  replace hN := hN.later b3
  replace hB := hB.trans (b3.mono hB.size)
  clear b3
  go_wp2_with fail
  refine (C4.out _ hL hN).mono ?_
  rintro e w4 ⟨rfl, b4⟩
  replace hL := hL.later b4
  replace hM := hM.later b4
  replace hN := hN.later b4
  replace hB := hB.trans (b4.mono hB.size)
  clear b4
  go_wp2_with fail
  refine (A1.out _ hL hN).mono ?_
  rintro e w5 ⟨x5, c5, R5, rfl, b5, s5, E5, f5⟩
  replace E5 : Ents w5 R5 := E5
  replace hL := hL.later b5
  replace hM := hM.later b5
  replace hN := hN.later b5
  replace hB := hB.trans (b5.mono hB.size)
  clear b5
  go_wp2_with fail
  refine (A2.out _ hM hN).mono ?_
  rintro e w6 ⟨x6, c6, R6, rfl, b6, s6, E6, f6⟩
  replace E6 : Ents w6 R6 := E6
  replace hL := hL.later b6
  replace hM := hM.later b6
  replace hN := hN.later b6
  replace s5 := s5.later b6
  replace E5 := E5.later b6
  replace hB := hB.trans (b6.mono hB.size)
  clear b6
  go_wp2_with fail
  refine (C5.out _ x5 c5 R5 x6 c6 R6 (HX.out _ x5 c5 R5 s5 E5 f5) (HY.out _ x6 c6 R6 s6 E6 f6) f5 f6).mono ?_
  rintro e w7 ⟨rfl, b7⟩
  replace hL := hL.later b7
  replace hM := hM.later b7
  replace hN := hN.later b7
  replace s5 := s5.later b7
  replace E5 := E5.later b7
  replace s6 := s6.later b7
  replace E6 := E6.later b7
  replace hB := hB.trans (b7.mono hB.size)
  clear b7
  go_wp2_with fail
  refine (N1.out _ hL).mono ?_
  rintro e w8 ⟨x8, c8, R8, rfl, b8, s8, E8, f8⟩
  replace E8 : Ents w8 R8 := E8
  replace hL := hL.later b8
  replace hM := hM.later b8
  replace hN := hN.later b8
  replace s5 := s5.later b8
  replace E5 := E5.later b8
  replace s6 := s6.later b8
  replace E6 := E6.later b8
  replace hB := hB.trans (b8.mono hB.size)
  clear b8
  go_wp2_with fail
  refine (N2.out _ hM).mono ?_
  rintro e w9 ⟨x9, c9, R9, rfl, b9, s9, E9, f9⟩
  replace E9 : Ents w9 R9 := E9
  replace hL := hL.later b9
  replace hM := hM.later b9
  replace hN := hN.later b9
  replace s5 := s5.later b9
  replace E5 := E5.later b9
  replace s6 := s6.later b9
  replace E6 := E6.later b9
  replace s8 := s8.later b9
  replace E8 := E8.later b9
  replace hB := hB.trans (b9.mono hB.size)
  clear b9
  go_wp2_with fail
  refine (SameForm_no x8 c8 R8 x9 c9 R9 _ s8.lies s9.lies E8 E9 s8.len s9.len (HL.out.1 R8 f8) (HL.out.2 R9 f9) (by rw [f8, f9]; exact fun h => absurd (HS.out.2 h) (by omega))).mono ?_
  rintro e w10 ⟨rfl, b10⟩
  replace hL := hL.later b10
  replace hM := hM.later b10
  replace hN := hN.later b10
  replace s5 := s5.later b10
  replace E5 := E5.later b10
  replace s6 := s6.later b10
  replace E6 := E6.later b10
  replace s8 := s8.later b10
  replace E8 := E8.later b10
  replace s9 := s9.later b10
  replace E9 := E9.later b10
  replace hB := hB.trans (b10.mono hB.size)
  clear b10
  go_wp2_with fail
  refine (unit_is 1 _).mono ?_
  rintro e w11 ⟨x11, c11, R11, rfl, b11, s11, E11, f11⟩
  replace E11 : Ents w11 R11 := E11
  replace hL := hL.later b11
  replace hM := hM.later b11
  replace hN := hN.later b11
  replace s5 := s5.later b11
  replace E5 := E5.later b11
  replace s6 := s6.later b11
  replace E6 := E6.later b11
  replace s8 := s8.later b11
  replace E8 := E8.later b11
  replace s9 := s9.later b11
  replace E9 := E9.later b11
  replace hB := hB.trans (b11.mono hB.size)
  clear b11
  go_wp2_with fail
  refine (unit_is 2 _).mono ?_
  rintro e w12 ⟨x12, c12, R12, rfl, b12, s12, E12, f12⟩
  replace E12 : Ents w12 R12 := E12
  replace hL := hL.later b12
  replace hM := hM.later b12
  replace hN := hN.later b12
  replace s5 := s5.later b12
  replace E5 := E5.later b12
  replace s6 := s6.later b12
  replace E6 := E6.later b12
  replace s8 := s8.later b12
  replace E8 := E8.later b12
  replace s9 := s9.later b12
  replace E9 := E9.later b12
  replace s11 := s11.later b12
  replace E11 := E11.later b12
  replace hB := hB.trans (b12.mono hB.size)
  clear b12
  go_wp2_with fail
  refine (C6.out _ x11 c11 R11 x12 c12 R12 (hand_unit s11 E11 f11) (hand_unit s12 E12 f12) f11 f12).mono ?_
  rintro e w13 ⟨rfl, b13⟩
  replace hL := hL.later b13
  replace hM := hM.later b13
  replace hN := hN.later b13
  replace s5 := s5.later b13
  replace E5 := E5.later b13
  replace s6 := s6.later b13
  replace E6 := E6.later b13
  replace s8 := s8.later b13
  replace E8 := E8.later b13
  replace s9 := s9.later b13
  replace E9 := E9.later b13
  replace s11 := s11.later b13
  replace E11 := E11.later b13
  replace s12 := s12.later b13
  replace E12 := E12.later b13
  replace hB := hB.trans (b13.mono hB.size)
  clear b13
  go_wp2
  go_ret
  exact ⟨rfl, hB⟩
set_option maxHeartbeats 8000000 in
set_option maxRecDepth 100000 in
theorem w001 (a : Option Addr) (ca : Nat) (L : List Mo) (b : Option Addr) (cb : Nat) (M : List Mo) (c : Option Addr) (cc : Nat) (N : List Mo) (w : World) (hL : Hand w a ca L) (hM : Hand w b cb M) (hN : Hand w c cc N) (hl : (fo L ++ fo N).length ≤ 1048576) (hl2 : (fo M ++ fo N).length ≤ 1048576) (hw : wts (fo L ++ fo N) ≤ 2097152) (hw2 : wts (fo M ++ fo N) ≤ 2097152)
    (hfg : cmpF (fo L) (fo M) = -1) (hgh : cmpF (fo M) (fo N) = -1) (hfh : cmpF (fo L) (fo N) = 0) :
    Calls Try.prog 3 #[.slice a L.length ca, .slice b M.length cb, .slice c N.length cc] w fun e w' => e = .returned (.bool true) ∧ Below w.heap.size w w' := by
  have C1 := hide' (fun w' (k : Hand w' a ca L) (j : Hand w' b cb M) => hCmp k j)
  rw [hfg] at C1
  have C2 := hide' (fun w' (k : Hand w' b cb M) (j : Hand w' c cc N) => hCmp k j)
  rw [hgh] at C2
  have C3 := hide' (fun w' (k : Hand w' b cb M) (j : Hand w' a ca L) => hCmp k j)
  rw [cmp_neg, hfg] at C3
  try simp only [Int.neg_neg, Int.neg_zero] at C3
  have C4 := hide' (fun w' (k : Hand w' a ca L) (j : Hand w' c cc N) => hCmp k j)
  rw [hfh] at C4
  have C5 := hide' (fun w' x1 c1 (R1 : List Mo) x2 c2 (R2 : List Mo) (k : Hand w' x1 c1 R1) (j : Hand w' x2 c2 R2) (f1 : fo R1 = nfm (fo L ++ fo N)) (f2 : fo R2 = nfm (fo M ++ fo N)) => (hCmp k j).mono (fun e w'' h => by rw [f1, f2, cmp_sum, hfg] at h; exact h : ∀ e w'', _ → (e = .returned (.int .i64 (-1)) ∧ Below w'.heap.size w' w'')))
  have C6 := hide' (fun w' x1 c1 (R1 : List Mo) x2 c2 (R2 : List Mo) (k : Hand w' x1 c1 R1) (j : Hand w' x2 c2 R2) (f1 : fo R1 = [(1, 1)]) (f2 : fo R2 = [(2, 1)]) => (hCmp k j).mono (fun e w'' h => by rw [f1, f2, cmp_units] at h; exact h : ∀ e w'', _ → (e = .returned (.int .i64 1) ∧ Below w'.heap.size w' w'')))
  have A1 := hide' (fun w' (k : Hand w' a ca L) (j : Hand w' c cc N) => hAdd k j)
  have A2 := hide' (fun w' (k : Hand w' b cb M) (j : Hand w' c cc N) => hAdd k j)
  have N1 := hide' (fun w' (k : Hand w' a ca L) => hNorm k)
  have N2 := hide' (fun w' (k : Hand w' b cb M) => hNorm k)
  have HS := hide' (cmp_same (fo L) (fo M))
  rw [hfg] at HS
  have HX := hide' (fun w' x1 c1 (R1 : List Mo) (s1 : Sl w' x1 c1 R1) (E1 : ∀ p ∈ R1, Ent w' p) (f1 : fo R1 = nfm (fo L ++ fo N)) => hand_nfm s1 E1 f1 hl hw)
  have HY := hide' (fun w' x1 c1 (R1 : List Mo) (s1 : Sl w' x1 c1 R1) (E1 : ∀ p ∈ R1, Ent w' p) (f1 : fo R1 = nfm (fo M ++ fo N)) => hand_nfm s1 E1 f1 hl2 hw2)
  have lL : ∀ R : List Mo, fo R = nfm (fo L) → R.length ≤ 2097152 := fun R hf => by have h := nfm_length (fo L); rw [← hf, fo_length, fo_length] at h; have := hL.len; omega
  have lM : ∀ R : List Mo, fo R = nfm (fo M) → R.length ≤ 2097152 := fun R hf => by have h := nfm_length (fo M); rw [← hf, fo_length, fo_length] at h; have := hM.len; omega
  have HL := hide' (And.intro lL lM)
  clear lL lM hfg hgh hl hl2 hw hw2 hfh
  have hB : Below w.heap.size w w := Below.refl _ _
  go_enter Try.func3, Try.ntmps3
  go_wp2_with fail
  refine (C1.out _ hL hM).mono ?_
  rintro e w1 ⟨rfl, b1⟩
  replace hL := hL.later b1
  replace hM := hM.later b1
  replace hN := hN.later b1
  replace hB := hB.trans (b1.mono hB.size)
  clear b1
  go_wp2_with fail
  refine (C2.out _ hM hN).mono ?_
  rintro e w2 ⟨rfl, b2⟩
  replace hL := hL.later b2
  replace hM := hM.later b2
  replace hN := hN.later b2
  replace hB := hB.trans (b2.mono hB.size)
  clear b2
  go_wp2_with fail
  refine (C3.out _ hM hL).mono ?_
  rintro e w3 ⟨rfl, b3⟩
  replace hL := hL.later b3
  replace hM := hM.later b3
  replace hN := hN.later b3
  replace hB := hB.trans (b3.mono hB.size)
  clear b3
  go_wp2_with fail
  refine (C4.out _ hL hN).mono ?_
  rintro e w4 ⟨rfl, b4⟩
  replace hL := hL.later b4
  replace hM := hM.later b4
  replace hN := hN.later b4
  replace hB := hB.trans (b4.mono hB.size)
  clear b4
  go_wp2_with fail
  refine (A1.out _ hL hN).mono ?_
  rintro e w5 ⟨x5, c5, R5, rfl, b5, s5, E5, f5⟩
  replace E5 : Ents w5 R5 := E5
  replace hL := hL.later b5
  replace hM := hM.later b5
  replace hN := hN.later b5
  replace hB := hB.trans (b5.mono hB.size)
  clear b5
  go_wp2_with fail
  refine (A2.out _ hM hN).mono ?_
  rintro e w6 ⟨x6, c6, R6, rfl, b6, s6, E6, f6⟩
  replace E6 : Ents w6 R6 := E6
  replace hL := hL.later b6
  replace hM := hM.later b6
  replace hN := hN.later b6
  replace s5 := s5.later b6
  replace E5 := E5.later b6
  replace hB := hB.trans (b6.mono hB.size)
  clear b6
  go_wp2_with fail
  refine (C5.out _ x5 c5 R5 x6 c6 R6 (HX.out _ x5 c5 R5 s5 E5 f5) (HY.out _ x6 c6 R6 s6 E6 f6) f5 f6).mono ?_
  rintro e w7 ⟨rfl, b7⟩
  replace hL := hL.later b7
  replace hM := hM.later b7
  replace hN := hN.later b7
  replace s5 := s5.later b7
  replace E5 := E5.later b7
  replace s6 := s6.later b7
  replace E6 := E6.later b7
  replace hB := hB.trans (b7.mono hB.size)
  clear b7
  go_wp2_with fail
  refine (N1.out _ hL).mono ?_
  rintro e w8 ⟨x8, c8, R8, rfl, b8, s8, E8, f8⟩
  replace E8 : Ents w8 R8 := E8
  replace hL := hL.later b8
  replace hM := hM.later b8
  replace hN := hN.later b8
  replace s5 := s5.later b8
  replace E5 := E5.later b8
  replace s6 := s6.later b8
  replace E6 := E6.later b8
  replace hB := hB.trans (b8.mono hB.size)
  clear b8
  go_wp2_with fail
  refine (N2.out _ hM).mono ?_
  rintro e w9 ⟨x9, c9, R9, rfl, b9, s9, E9, f9⟩
  replace E9 : Ents w9 R9 := E9
  replace hL := hL.later b9
  replace hM := hM.later b9
  replace hN := hN.later b9
  replace s5 := s5.later b9
  replace E5 := E5.later b9
  replace s6 := s6.later b9
  replace E6 := E6.later b9
  replace s8 := s8.later b9
  replace E8 := E8.later b9
  replace hB := hB.trans (b9.mono hB.size)
  clear b9
  go_wp2_with fail
  refine (SameForm_no x8 c8 R8 x9 c9 R9 _ s8.lies s9.lies E8 E9 s8.len s9.len (HL.out.1 R8 f8) (HL.out.2 R9 f9) (by rw [f8, f9]; exact fun h => absurd (HS.out.2 h) (by omega))).mono ?_
  rintro e w10 ⟨rfl, b10⟩
  replace hL := hL.later b10
  replace hM := hM.later b10
  replace hN := hN.later b10
  replace s5 := s5.later b10
  replace E5 := E5.later b10
  replace s6 := s6.later b10
  replace E6 := E6.later b10
  replace s8 := s8.later b10
  replace E8 := E8.later b10
  replace s9 := s9.later b10
  replace E9 := E9.later b10
  replace hB := hB.trans (b10.mono hB.size)
  clear b10
  go_wp2_with fail
  refine (unit_is 1 _).mono ?_
  rintro e w11 ⟨x11, c11, R11, rfl, b11, s11, E11, f11⟩
  replace E11 : Ents w11 R11 := E11
  replace hL := hL.later b11
  replace hM := hM.later b11
  replace hN := hN.later b11
  replace s5 := s5.later b11
  replace E5 := E5.later b11
  replace s6 := s6.later b11
  replace E6 := E6.later b11
  replace s8 := s8.later b11
  replace E8 := E8.later b11
  replace s9 := s9.later b11
  replace E9 := E9.later b11
  replace hB := hB.trans (b11.mono hB.size)
  clear b11
  go_wp2_with fail
  refine (unit_is 2 _).mono ?_
  rintro e w12 ⟨x12, c12, R12, rfl, b12, s12, E12, f12⟩
  replace E12 : Ents w12 R12 := E12
  replace hL := hL.later b12
  replace hM := hM.later b12
  replace hN := hN.later b12
  replace s5 := s5.later b12
  replace E5 := E5.later b12
  replace s6 := s6.later b12
  replace E6 := E6.later b12
  replace s8 := s8.later b12
  replace E8 := E8.later b12
  replace s9 := s9.later b12
  replace E9 := E9.later b12
  replace s11 := s11.later b12
  replace E11 := E11.later b12
  replace hB := hB.trans (b12.mono hB.size)
  clear b12
  go_wp2_with fail
  refine (C6.out _ x11 c11 R11 x12 c12 R12 (hand_unit s11 E11 f11) (hand_unit s12 E12 f12) f11 f12).mono ?_
  rintro e w13 ⟨rfl, b13⟩
  replace hL := hL.later b13
  replace hM := hM.later b13
  replace hN := hN.later b13
  replace s5 := s5.later b13
  replace E5 := E5.later b13
  replace s6 := s6.later b13
  replace E6 := E6.later b13
  replace s8 := s8.later b13
  replace E8 := E8.later b13
  replace s9 := s9.later b13
  replace E9 := E9.later b13
  replace s11 := s11.later b13
  replace E11 := E11.later b13
  replace s12 := s12.later b13
  replace E12 := E12.later b13
  replace hB := hB.trans (b13.mono hB.size)
  clear b13
  go_wp2
  go_ret
  exact ⟨rfl, hB⟩
set_option maxHeartbeats 8000000 in
set_option maxRecDepth 100000 in
theorem w010 (a : Option Addr) (ca : Nat) (L : List Mo) (b : Option Addr) (cb : Nat) (M : List Mo) (c : Option Addr) (cc : Nat) (N : List Mo) (w : World) (hL : Hand w a ca L) (hM : Hand w b cb M) (hN : Hand w c cc N) (hl : (fo L ++ fo N).length ≤ 1048576) (hl2 : (fo M ++ fo N).length ≤ 1048576) (hw : wts (fo L ++ fo N) ≤ 2097152) (hw2 : wts (fo M ++ fo N) ≤ 2097152)
    (hfg : cmpF (fo L) (fo M) = -1) (hgh : cmpF (fo M) (fo N) = 0) (hfh : cmpF (fo L) (fo N) = -1) :
    Calls Try.prog 3 #[.slice a L.length ca, .slice b M.length cb, .slice c N.length cc] w fun e w' => e = .returned (.bool true) ∧ Below w.heap.size w w' := by
  have C1 := hide' (fun w' (k : Hand w' a ca L) (j : Hand w' b cb M) => hCmp k j)
  rw [hfg] at C1
  have C2 := hide' (fun w' (k : Hand w' b cb M) (j : Hand w' c cc N) => hCmp k j)
  rw [hgh] at C2
  have C3 := hide' (fun w' (k : Hand w' b cb M) (j : Hand w' a ca L) => hCmp k j)
  rw [cmp_neg, hfg] at C3
  try simp only [Int.neg_neg, Int.neg_zero] at C3
  have C4 := hide' (fun w' (k : Hand w' a ca L) (j : Hand w' c cc N) => hCmp k j)
  rw [hfh] at C4
  have C5 := hide' (fun w' x1 c1 (R1 : List Mo) x2 c2 (R2 : List Mo) (k : Hand w' x1 c1 R1) (j : Hand w' x2 c2 R2) (f1 : fo R1 = nfm (fo L ++ fo N)) (f2 : fo R2 = nfm (fo M ++ fo N)) => (hCmp k j).mono (fun e w'' h => by rw [f1, f2, cmp_sum, hfg] at h; exact h : ∀ e w'', _ → (e = .returned (.int .i64 (-1)) ∧ Below w'.heap.size w' w'')))
  have C6 := hide' (fun w' x1 c1 (R1 : List Mo) x2 c2 (R2 : List Mo) (k : Hand w' x1 c1 R1) (j : Hand w' x2 c2 R2) (f1 : fo R1 = [(1, 1)]) (f2 : fo R2 = [(2, 1)]) => (hCmp k j).mono (fun e w'' h => by rw [f1, f2, cmp_units] at h; exact h : ∀ e w'', _ → (e = .returned (.int .i64 1) ∧ Below w'.heap.size w' w'')))
  have A1 := hide' (fun w' (k : Hand w' a ca L) (j : Hand w' c cc N) => hAdd k j)
  have A2 := hide' (fun w' (k : Hand w' b cb M) (j : Hand w' c cc N) => hAdd k j)
  have N1 := hide' (fun w' (k : Hand w' a ca L) => hNorm k)
  have N2 := hide' (fun w' (k : Hand w' b cb M) => hNorm k)
  have HS := hide' (cmp_same (fo L) (fo M))
  rw [hfg] at HS
  have HX := hide' (fun w' x1 c1 (R1 : List Mo) (s1 : Sl w' x1 c1 R1) (E1 : ∀ p ∈ R1, Ent w' p) (f1 : fo R1 = nfm (fo L ++ fo N)) => hand_nfm s1 E1 f1 hl hw)
  have HY := hide' (fun w' x1 c1 (R1 : List Mo) (s1 : Sl w' x1 c1 R1) (E1 : ∀ p ∈ R1, Ent w' p) (f1 : fo R1 = nfm (fo M ++ fo N)) => hand_nfm s1 E1 f1 hl2 hw2)
  have lL : ∀ R : List Mo, fo R = nfm (fo L) → R.length ≤ 2097152 := fun R hf => by have h := nfm_length (fo L); rw [← hf, fo_length, fo_length] at h; have := hL.len; omega
  have lM : ∀ R : List Mo, fo R = nfm (fo M) → R.length ≤ 2097152 := fun R hf => by have h := nfm_length (fo M); rw [← hf, fo_length, fo_length] at h; have := hM.len; omega
  have HL := hide' (And.intro lL lM)
  clear lL lM hfg hgh hl hl2 hw hw2 hfh
  have hB : Below w.heap.size w w := Below.refl _ _
  go_enter Try.func3, Try.ntmps3
  go_wp2_with fail
  refine (C1.out _ hL hM).mono ?_
  rintro e w1 ⟨rfl, b1⟩
  replace hL := hL.later b1
  replace hM := hM.later b1
  replace hN := hN.later b1
  replace hB := hB.trans (b1.mono hB.size)
  clear b1
  go_wp2_with fail
  refine (C2.out _ hM hN).mono ?_
  rintro e w2 ⟨rfl, b2⟩
  replace hL := hL.later b2
  replace hM := hM.later b2
  replace hN := hN.later b2
  replace hB := hB.trans (b2.mono hB.size)
  clear b2
  go_wp2_with fail
  refine (C3.out _ hM hL).mono ?_
  rintro e w3 ⟨rfl, b3⟩
  replace hL := hL.later b3
  replace hM := hM.later b3
  replace hN := hN.later b3
  replace hB := hB.trans (b3.mono hB.size)
  clear b3
  go_wp2_with fail
  refine (C4.out _ hL hN).mono ?_
  rintro e w4 ⟨rfl, b4⟩
  replace hL := hL.later b4
  replace hM := hM.later b4
  replace hN := hN.later b4
  replace hB := hB.trans (b4.mono hB.size)
  clear b4
  go_wp2_with fail
  refine (A1.out _ hL hN).mono ?_
  rintro e w5 ⟨x5, c5, R5, rfl, b5, s5, E5, f5⟩
  replace E5 : Ents w5 R5 := E5
  replace hL := hL.later b5
  replace hM := hM.later b5
  replace hN := hN.later b5
  replace hB := hB.trans (b5.mono hB.size)
  clear b5
  go_wp2_with fail
  refine (A2.out _ hM hN).mono ?_
  rintro e w6 ⟨x6, c6, R6, rfl, b6, s6, E6, f6⟩
  replace E6 : Ents w6 R6 := E6
  replace hL := hL.later b6
  replace hM := hM.later b6
  replace hN := hN.later b6
  replace s5 := s5.later b6
  replace E5 := E5.later b6
  replace hB := hB.trans (b6.mono hB.size)
  clear b6
  go_wp2_with fail
  refine (C5.out _ x5 c5 R5 x6 c6 R6 (HX.out _ x5 c5 R5 s5 E5 f5) (HY.out _ x6 c6 R6 s6 E6 f6) f5 f6).mono ?_
  rintro e w7 ⟨rfl, b7⟩
  replace hL := hL.later b7
  replace hM := hM.later b7
  replace hN := hN.later b7
  replace s5 := s5.later b7
  replace E5 := E5.later b7
  replace s6 := s6.later b7
  replace E6 := E6.later b7
  replace hB := hB.trans (b7.mono hB.size)
  clear b7
  go_wp2_with fail
  refine (N1.out _ hL).mono ?_
  rintro e w8 ⟨x8, c8, R8, rfl, b8, s8, E8, f8⟩
  replace E8 : Ents w8 R8 := E8
  replace hL := hL.later b8
  replace hM := hM.later b8
  replace hN := hN.later b8
  replace s5 := s5.later b8
  replace E5 := E5.later b8
  replace s6 := s6.later b8
  replace E6 := E6.later b8
  replace hB := hB.trans (b8.mono hB.size)
  clear b8
  go_wp2_with fail
  refine (N2.out _ hM).mono ?_
  rintro e w9 ⟨x9, c9, R9, rfl, b9, s9, E9, f9⟩
  replace E9 : Ents w9 R9 := E9
  replace hL := hL.later b9
  replace hM := hM.later b9
  replace hN := hN.later b9
  replace s5 := s5.later b9
  replace E5 := E5.later b9
  replace s6 := s6.later b9
  replace E6 := E6.later b9
  replace s8 := s8.later b9
  replace E8 := E8.later b9
  replace hB := hB.trans (b9.mono hB.size)
  clear b9
  go_wp2_with fail
  refine (SameForm_no x8 c8 R8 x9 c9 R9 _ s8.lies s9.lies E8 E9 s8.len s9.len (HL.out.1 R8 f8) (HL.out.2 R9 f9) (by rw [f8, f9]; exact fun h => absurd (HS.out.2 h) (by omega))).mono ?_
  rintro e w10 ⟨rfl, b10⟩
  replace hL := hL.later b10
  replace hM := hM.later b10
  replace hN := hN.later b10
  replace s5 := s5.later b10
  replace E5 := E5.later b10
  replace s6 := s6.later b10
  replace E6 := E6.later b10
  replace s8 := s8.later b10
  replace E8 := E8.later b10
  replace s9 := s9.later b10
  replace E9 := E9.later b10
  replace hB := hB.trans (b10.mono hB.size)
  clear b10
  go_wp2_with fail
  refine (unit_is 1 _).mono ?_
  rintro e w11 ⟨x11, c11, R11, rfl, b11, s11, E11, f11⟩
  replace E11 : Ents w11 R11 := E11
  replace hL := hL.later b11
  replace hM := hM.later b11
  replace hN := hN.later b11
  replace s5 := s5.later b11
  replace E5 := E5.later b11
  replace s6 := s6.later b11
  replace E6 := E6.later b11
  replace s8 := s8.later b11
  replace E8 := E8.later b11
  replace s9 := s9.later b11
  replace E9 := E9.later b11
  replace hB := hB.trans (b11.mono hB.size)
  clear b11
  go_wp2_with fail
  refine (unit_is 2 _).mono ?_
  rintro e w12 ⟨x12, c12, R12, rfl, b12, s12, E12, f12⟩
  replace E12 : Ents w12 R12 := E12
  replace hL := hL.later b12
  replace hM := hM.later b12
  replace hN := hN.later b12
  replace s5 := s5.later b12
  replace E5 := E5.later b12
  replace s6 := s6.later b12
  replace E6 := E6.later b12
  replace s8 := s8.later b12
  replace E8 := E8.later b12
  replace s9 := s9.later b12
  replace E9 := E9.later b12
  replace s11 := s11.later b12
  replace E11 := E11.later b12
  replace hB := hB.trans (b12.mono hB.size)
  clear b12
  go_wp2_with fail
  refine (C6.out _ x11 c11 R11 x12 c12 R12 (hand_unit s11 E11 f11) (hand_unit s12 E12 f12) f11 f12).mono ?_
  rintro e w13 ⟨rfl, b13⟩
  replace hL := hL.later b13
  replace hM := hM.later b13
  replace hN := hN.later b13
  replace s5 := s5.later b13
  replace E5 := E5.later b13
  replace s6 := s6.later b13
  replace E6 := E6.later b13
  replace s8 := s8.later b13
  replace E8 := E8.later b13
  replace s9 := s9.later b13
  replace E9 := E9.later b13
  replace s11 := s11.later b13
  replace E11 := E11.later b13
  replace s12 := s12.later b13
  replace E12 := E12.later b13
  replace hB := hB.trans (b13.mono hB.size)
  clear b13
  go_wp2
  go_ret
  exact ⟨rfl, hB⟩
set_option maxHeartbeats 8000000 in
set_option maxRecDepth 100000 in
theorem w011 (a : Option Addr) (ca : Nat) (L : List Mo) (b : Option Addr) (cb : Nat) (M : List Mo) (c : Option Addr) (cc : Nat) (N : List Mo) (w : World) (hL : Hand w a ca L) (hM : Hand w b cb M) (hN : Hand w c cc N) (hl : (fo L ++ fo N).length ≤ 1048576) (hl2 : (fo M ++ fo N).length ≤ 1048576) (hw : wts (fo L ++ fo N) ≤ 2097152) (hw2 : wts (fo M ++ fo N) ≤ 2097152)
    (hfg : cmpF (fo L) (fo M) = -1) (hgh : cmpF (fo M) (fo N) = 0) (hfh : cmpF (fo L) (fo N) = 0) :
    Calls Try.prog 3 #[.slice a L.length ca, .slice b M.length cb, .slice c N.length cc] w fun e w' => e = .returned (.bool true) ∧ Below w.heap.size w w' := by
  have C1 := hide' (fun w' (k : Hand w' a ca L) (j : Hand w' b cb M) => hCmp k j)
  rw [hfg] at C1
  have C2 := hide' (fun w' (k : Hand w' b cb M) (j : Hand w' c cc N) => hCmp k j)
  rw [hgh] at C2
  have C3 := hide' (fun w' (k : Hand w' b cb M) (j : Hand w' a ca L) => hCmp k j)
  rw [cmp_neg, hfg] at C3
  try simp only [Int.neg_neg, Int.neg_zero] at C3
  have C4 := hide' (fun w' (k : Hand w' a ca L) (j : Hand w' c cc N) => hCmp k j)
  rw [hfh] at C4
  have C5 := hide' (fun w' x1 c1 (R1 : List Mo) x2 c2 (R2 : List Mo) (k : Hand w' x1 c1 R1) (j : Hand w' x2 c2 R2) (f1 : fo R1 = nfm (fo L ++ fo N)) (f2 : fo R2 = nfm (fo M ++ fo N)) => (hCmp k j).mono (fun e w'' h => by rw [f1, f2, cmp_sum, hfg] at h; exact h : ∀ e w'', _ → (e = .returned (.int .i64 (-1)) ∧ Below w'.heap.size w' w'')))
  have C6 := hide' (fun w' x1 c1 (R1 : List Mo) x2 c2 (R2 : List Mo) (k : Hand w' x1 c1 R1) (j : Hand w' x2 c2 R2) (f1 : fo R1 = [(1, 1)]) (f2 : fo R2 = [(2, 1)]) => (hCmp k j).mono (fun e w'' h => by rw [f1, f2, cmp_units] at h; exact h : ∀ e w'', _ → (e = .returned (.int .i64 1) ∧ Below w'.heap.size w' w'')))
  have A1 := hide' (fun w' (k : Hand w' a ca L) (j : Hand w' c cc N) => hAdd k j)
  have A2 := hide' (fun w' (k : Hand w' b cb M) (j : Hand w' c cc N) => hAdd k j)
  have N1 := hide' (fun w' (k : Hand w' a ca L) => hNorm k)
  have N2 := hide' (fun w' (k : Hand w' b cb M) => hNorm k)
  have HS := hide' (cmp_same (fo L) (fo M))
  rw [hfg] at HS
  have HX := hide' (fun w' x1 c1 (R1 : List Mo) (s1 : Sl w' x1 c1 R1) (E1 : ∀ p ∈ R1, Ent w' p) (f1 : fo R1 = nfm (fo L ++ fo N)) => hand_nfm s1 E1 f1 hl hw)
  have HY := hide' (fun w' x1 c1 (R1 : List Mo) (s1 : Sl w' x1 c1 R1) (E1 : ∀ p ∈ R1, Ent w' p) (f1 : fo R1 = nfm (fo M ++ fo N)) => hand_nfm s1 E1 f1 hl2 hw2)
  have lL : ∀ R : List Mo, fo R = nfm (fo L) → R.length ≤ 2097152 := fun R hf => by have h := nfm_length (fo L); rw [← hf, fo_length, fo_length] at h; have := hL.len; omega
  have lM : ∀ R : List Mo, fo R = nfm (fo M) → R.length ≤ 2097152 := fun R hf => by have h := nfm_length (fo M); rw [← hf, fo_length, fo_length] at h; have := hM.len; omega
  have HL := hide' (And.intro lL lM)
  clear lL lM hfg hgh hl hl2 hw hw2 hfh
  have hB : Below w.heap.size w w := Below.refl _ _
  go_enter Try.func3, Try.ntmps3
  go_wp2_with fail
  refine (C1.out _ hL hM).mono ?_
  rintro e w1 ⟨rfl, b1⟩
  replace hL := hL.later b1
  replace hM := hM.later b1
  replace hN := hN.later b1
  replace hB := hB.trans (b1.mono hB.size)
  clear b1
  go_wp2_with fail
  refine (C2.out _ hM hN).mono ?_
  rintro e w2 ⟨rfl, b2⟩
  replace hL := hL.later b2
  replace hM := hM.later b2
  replace hN := hN.later b2
  replace hB := hB.trans (b2.mono hB.size)
  clear b2
  go_wp2_with fail
  refine (C3.out _ hM hL).mono ?_
  rintro e w3 ⟨rfl, b3⟩
  replace hL := hL.later b3
  replace hM := hM.later b3
  replace hN := hN.later b3
  replace hB := hB.trans (b3.mono hB.size)
  clear b3
  go_wp2_with fail
  refine (C4.out _ hL hN).mono ?_
  rintro e w4 ⟨rfl, b4⟩
  replace hL := hL.later b4
  replace hM := hM.later b4
  replace hN := hN.later b4
  replace hB := hB.trans (b4.mono hB.size)
  clear b4
  go_wp2_with fail
  refine (A1.out _ hL hN).mono ?_
  rintro e w5 ⟨x5, c5, R5, rfl, b5, s5, E5, f5⟩
  replace E5 : Ents w5 R5 := E5
  replace hL := hL.later b5
  replace hM := hM.later b5
  replace hN := hN.later b5
  replace hB := hB.trans (b5.mono hB.size)
  clear b5
  go_wp2_with fail
  refine (A2.out _ hM hN).mono ?_
  rintro e w6 ⟨x6, c6, R6, rfl, b6, s6, E6, f6⟩
  replace E6 : Ents w6 R6 := E6
  replace hL := hL.later b6
  replace hM := hM.later b6
  replace hN := hN.later b6
  replace s5 := s5.later b6
  replace E5 := E5.later b6
  replace hB := hB.trans (b6.mono hB.size)
  clear b6
  go_wp2_with fail
  refine (C5.out _ x5 c5 R5 x6 c6 R6 (HX.out _ x5 c5 R5 s5 E5 f5) (HY.out _ x6 c6 R6 s6 E6 f6) f5 f6).mono ?_
  rintro e w7 ⟨rfl, b7⟩
  replace hL := hL.later b7
  replace hM := hM.later b7
  replace hN := hN.later b7
  replace s5 := s5.later b7
  replace E5 := E5.later b7
  replace s6 := s6.later b7
  replace E6 := E6.later b7
  replace hB := hB.trans (b7.mono hB.size)
  clear b7
  go_wp2_with fail
  refine (N1.out _ hL).mono ?_
  rintro e w8 ⟨x8, c8, R8, rfl, b8, s8, E8, f8⟩
  replace E8 : Ents w8 R8 := E8
  replace hL := hL.later b8
  replace hM := hM.later b8
  replace hN := hN.later b8
  replace s5 := s5.later b8
  replace E5 := E5.later b8
  replace s6 := s6.later b8
  replace E6 := E6.later b8
  replace hB := hB.trans (b8.mono hB.size)
  clear b8
  go_wp2_with fail
  refine (N2.out _ hM).mono ?_
  rintro e w9 ⟨x9, c9, R9, rfl, b9, s9, E9, f9⟩
  replace E9 : Ents w9 R9 := E9
  replace hL := hL.later b9
  replace hM := hM.later b9
  replace hN := hN.later b9
  replace s5 := s5.later b9
  replace E5 := E5.later b9
  replace s6 := s6.later b9
  replace E6 := E6.later b9
  replace s8 := s8.later b9
  replace E8 := E8.later b9
  replace hB := hB.trans (b9.mono hB.size)
  clear b9
  go_wp2_with fail
  refine (SameForm_no x8 c8 R8 x9 c9 R9 _ s8.lies s9.lies E8 E9 s8.len s9.len (HL.out.1 R8 f8) (HL.out.2 R9 f9) (by rw [f8, f9]; exact fun h => absurd (HS.out.2 h) (by omega))).mono ?_
  rintro e w10 ⟨rfl, b10⟩
  replace hL := hL.later b10
  replace hM := hM.later b10
  replace hN := hN.later b10
  replace s5 := s5.later b10
  replace E5 := E5.later b10
  replace s6 := s6.later b10
  replace E6 := E6.later b10
  replace s8 := s8.later b10
  replace E8 := E8.later b10
  replace s9 := s9.later b10
  replace E9 := E9.later b10
  replace hB := hB.trans (b10.mono hB.size)
  clear b10
  go_wp2_with fail
  refine (unit_is 1 _).mono ?_
  rintro e w11 ⟨x11, c11, R11, rfl, b11, s11, E11, f11⟩
  replace E11 : Ents w11 R11 := E11
  replace hL := hL.later b11
  replace hM := hM.later b11
  replace hN := hN.later b11
  replace s5 := s5.later b11
  replace E5 := E5.later b11
  replace s6 := s6.later b11
  replace E6 := E6.later b11
  replace s8 := s8.later b11
  replace E8 := E8.later b11
  replace s9 := s9.later b11
  replace E9 := E9.later b11
  replace hB := hB.trans (b11.mono hB.size)
  clear b11
  go_wp2_with fail
  refine (unit_is 2 _).mono ?_
  rintro e w12 ⟨x12, c12, R12, rfl, b12, s12, E12, f12⟩
  replace E12 : Ents w12 R12 := E12
  replace hL := hL.later b12
  replace hM := hM.later b12
  replace hN := hN.later b12
  replace s5 := s5.later b12
  replace E5 := E5.later b12
  replace s6 := s6.later b12
  replace E6 := E6.later b12
  replace s8 := s8.later b12
  replace E8 := E8.later b12
  replace s9 := s9.later b12
  replace E9 := E9.later b12
  replace s11 := s11.later b12
  replace E11 := E11.later b12
  replace hB := hB.trans (b12.mono hB.size)
  clear b12
  go_wp2_with fail
  refine (C6.out _ x11 c11 R11 x12 c12 R12 (hand_unit s11 E11 f11) (hand_unit s12 E12 f12) f11 f12).mono ?_
  rintro e w13 ⟨rfl, b13⟩
  replace hL := hL.later b13
  replace hM := hM.later b13
  replace hN := hN.later b13
  replace s5 := s5.later b13
  replace E5 := E5.later b13
  replace s6 := s6.later b13
  replace E6 := E6.later b13
  replace s8 := s8.later b13
  replace E8 := E8.later b13
  replace s9 := s9.later b13
  replace E9 := E9.later b13
  replace s11 := s11.later b13
  replace E11 := E11.later b13
  replace s12 := s12.later b13
  replace E12 := E12.later b13
  replace hB := hB.trans (b13.mono hB.size)
  clear b13
  go_wp2
  go_ret
  exact ⟨rfl, hB⟩
set_option maxHeartbeats 8000000 in
set_option maxRecDepth 100000 in
theorem w02 (a : Option Addr) (ca : Nat) (L : List Mo) (b : Option Addr) (cb : Nat) (M : List Mo) (c : Option Addr) (cc : Nat) (N : List Mo) (w : World) (hL : Hand w a ca L) (hM : Hand w b cb M) (hN : Hand w c cc N) (hl : (fo L ++ fo N).length ≤ 1048576) (hl2 : (fo M ++ fo N).length ≤ 1048576) (hw : wts (fo L ++ fo N) ≤ 2097152) (hw2 : wts (fo M ++ fo N) ≤ 2097152)
    (hfg : cmpF (fo L) (fo M) = -1) (hgh : cmpF (fo M) (fo N) = 1) :
    Calls Try.prog 3 #[.slice a L.length ca, .slice b M.length cb, .slice c N.length cc] w fun e w' => e = .returned (.bool true) ∧ Below w.heap.size w w' := by
  have C1 := hide' (fun w' (k : Hand w' a ca L) (j : Hand w' b cb M) => hCmp k j)
  rw [hfg] at C1
  have C2 := hide' (fun w' (k : Hand w' b cb M) (j : Hand w' c cc N) => hCmp k j)
  rw [hgh] at C2
  have C3 := hide' (fun w' (k : Hand w' b cb M) (j : Hand w' a ca L) => hCmp k j)
  rw [cmp_neg, hfg] at C3
  try simp only [Int.neg_neg, Int.neg_zero] at C3
  have C5 := hide' (fun w' x1 c1 (R1 : List Mo) x2 c2 (R2 : List Mo) (k : Hand w' x1 c1 R1) (j : Hand w' x2 c2 R2) (f1 : fo R1 = nfm (fo L ++ fo N)) (f2 : fo R2 = nfm (fo M ++ fo N)) => (hCmp k j).mono (fun e w'' h => by rw [f1, f2, cmp_sum, hfg] at h; exact h : ∀ e w'', _ → (e = .returned (.int .i64 (-1)) ∧ Below w'.heap.size w' w'')))
  have C6 := hide' (fun w' x1 c1 (R1 : List Mo) x2 c2 (R2 : List Mo) (k : Hand w' x1 c1 R1) (j : Hand w' x2 c2 R2) (f1 : fo R1 = [(1, 1)]) (f2 : fo R2 = [(2, 1)]) => (hCmp k j).mono (fun e w'' h => by rw [f1, f2, cmp_units] at h; exact h : ∀ e w'', _ → (e = .returned (.int .i64 1) ∧ Below w'.heap.size w' w'')))
  have A1 := hide' (fun w' (k : Hand w' a ca L) (j : Hand w' c cc N) => hAdd k j)
  have A2 := hide' (fun w' (k : Hand w' b cb M) (j : Hand w' c cc N) => hAdd k j)
  have N1 := hide' (fun w' (k : Hand w' a ca L) => hNorm k)
  have N2 := hide' (fun w' (k : Hand w' b cb M) => hNorm k)
  have HS := hide' (cmp_same (fo L) (fo M))
  rw [hfg] at HS
  have HX := hide' (fun w' x1 c1 (R1 : List Mo) (s1 : Sl w' x1 c1 R1) (E1 : ∀ p ∈ R1, Ent w' p) (f1 : fo R1 = nfm (fo L ++ fo N)) => hand_nfm s1 E1 f1 hl hw)
  have HY := hide' (fun w' x1 c1 (R1 : List Mo) (s1 : Sl w' x1 c1 R1) (E1 : ∀ p ∈ R1, Ent w' p) (f1 : fo R1 = nfm (fo M ++ fo N)) => hand_nfm s1 E1 f1 hl2 hw2)
  have lL : ∀ R : List Mo, fo R = nfm (fo L) → R.length ≤ 2097152 := fun R hf => by have h := nfm_length (fo L); rw [← hf, fo_length, fo_length] at h; have := hL.len; omega
  have lM : ∀ R : List Mo, fo R = nfm (fo M) → R.length ≤ 2097152 := fun R hf => by have h := nfm_length (fo M); rw [← hf, fo_length, fo_length] at h; have := hM.len; omega
  have HL := hide' (And.intro lL lM)
  clear lL lM hfg hgh hl hl2 hw hw2
  have hB : Below w.heap.size w w := Below.refl _ _
  go_enter Try.func3, Try.ntmps3
  go_wp2_with fail
  refine (C1.out _ hL hM).mono ?_
  rintro e w1 ⟨rfl, b1⟩
  replace hL := hL.later b1
  replace hM := hM.later b1
  replace hN := hN.later b1
  replace hB := hB.trans (b1.mono hB.size)
  clear b1
  go_wp2_with fail
  refine (C2.out _ hM hN).mono ?_
  rintro e w2 ⟨rfl, b2⟩
  replace hL := hL.later b2
  replace hM := hM.later b2
  replace hN := hN.later b2
  replace hB := hB.trans (b2.mono hB.size)
  clear b2
  go_wp2_with fail
  refine (C3.out _ hM hL).mono ?_
  rintro e w3 ⟨rfl, b3⟩
  replace hL := hL.later b3
  replace hM := hM.later b3
  replace hN := hN.later b3
  replace hB := hB.trans (b3.mono hB.size)
  clear b3
  go_wp2_with fail
  refine (A1.out _ hL hN).mono ?_
  rintro e w5 ⟨x5, c5, R5, rfl, b5, s5, E5, f5⟩
  replace E5 : Ents w5 R5 := E5
  replace hL := hL.later b5
  replace hM := hM.later b5
  replace hN := hN.later b5
  replace hB := hB.trans (b5.mono hB.size)
  clear b5
  go_wp2_with fail
  refine (A2.out _ hM hN).mono ?_
  rintro e w6 ⟨x6, c6, R6, rfl, b6, s6, E6, f6⟩
  replace E6 : Ents w6 R6 := E6
  replace hL := hL.later b6
  replace hM := hM.later b6
  replace hN := hN.later b6
  replace s5 := s5.later b6
  replace E5 := E5.later b6
  replace hB := hB.trans (b6.mono hB.size)
  clear b6
  go_wp2_with fail
  refine (C5.out _ x5 c5 R5 x6 c6 R6 (HX.out _ x5 c5 R5 s5 E5 f5) (HY.out _ x6 c6 R6 s6 E6 f6) f5 f6).mono ?_
  rintro e w7 ⟨rfl, b7⟩
  replace hL := hL.later b7
  replace hM := hM.later b7
  replace hN := hN.later b7
  replace s5 := s5.later b7
  replace E5 := E5.later b7
  replace s6 := s6.later b7
  replace E6 := E6.later b7
  replace hB := hB.trans (b7.mono hB.size)
  clear b7
  go_wp2_with fail
  refine (N1.out _ hL).mono ?_
  rintro e w8 ⟨x8, c8, R8, rfl, b8, s8, E8, f8⟩
  replace E8 : Ents w8 R8 := E8
  replace hL := hL.later b8
  replace hM := hM.later b8
  replace hN := hN.later b8
  replace s5 := s5.later b8
  replace E5 := E5.later b8
  replace s6 := s6.later b8
  replace E6 := E6.later b8
  replace hB := hB.trans (b8.mono hB.size)
  clear b8
  go_wp2_with fail
  refine (N2.out _ hM).mono ?_
  rintro e w9 ⟨x9, c9, R9, rfl, b9, s9, E9, f9⟩
  replace E9 : Ents w9 R9 := E9
  replace hL := hL.later b9
  replace hM := hM.later b9
  replace hN := hN.later b9
  replace s5 := s5.later b9
  replace E5 := E5.later b9
  replace s6 := s6.later b9
  replace E6 := E6.later b9
  replace s8 := s8.later b9
  replace E8 := E8.later b9
  replace hB := hB.trans (b9.mono hB.size)
  clear b9
  go_wp2_with fail
  refine (SameForm_no x8 c8 R8 x9 c9 R9 _ s8.lies s9.lies E8 E9 s8.len s9.len (HL.out.1 R8 f8) (HL.out.2 R9 f9) (by rw [f8, f9]; exact fun h => absurd (HS.out.2 h) (by omega))).mono ?_
  rintro e w10 ⟨rfl, b10⟩
  replace hL := hL.later b10
  replace hM := hM.later b10
  replace hN := hN.later b10
  replace s5 := s5.later b10
  replace E5 := E5.later b10
  replace s6 := s6.later b10
  replace E6 := E6.later b10
  replace s8 := s8.later b10
  replace E8 := E8.later b10
  replace s9 := s9.later b10
  replace E9 := E9.later b10
  replace hB := hB.trans (b10.mono hB.size)
  clear b10
  go_wp2_with fail
  refine (unit_is 1 _).mono ?_
  rintro e w11 ⟨x11, c11, R11, rfl, b11, s11, E11, f11⟩
  replace E11 : Ents w11 R11 := E11
  replace hL := hL.later b11
  replace hM := hM.later b11
  replace hN := hN.later b11
  replace s5 := s5.later b11
  replace E5 := E5.later b11
  replace s6 := s6.later b11
  replace E6 := E6.later b11
  replace s8 := s8.later b11
  replace E8 := E8.later b11
  replace s9 := s9.later b11
  replace E9 := E9.later b11
  replace hB := hB.trans (b11.mono hB.size)
  clear b11
  go_wp2_with fail
  refine (unit_is 2 _).mono ?_
  rintro e w12 ⟨x12, c12, R12, rfl, b12, s12, E12, f12⟩
  replace E12 : Ents w12 R12 := E12
  replace hL := hL.later b12
  replace hM := hM.later b12
  replace hN := hN.later b12
  replace s5 := s5.later b12
  replace E5 := E5.later b12
  replace s6 := s6.later b12
  replace E6 := E6.later b12
  replace s8 := s8.later b12
  replace E8 := E8.later b12
  replace s9 := s9.later b12
  replace E9 := E9.later b12
  replace s11 := s11.later b12
  replace E11 := E11.later b12
  replace hB := hB.trans (b12.mono hB.size)
  clear b12
  go_wp2_with fail
  refine (C6.out _ x11 c11 R11 x12 c12 R12 (hand_unit s11 E11 f11) (hand_unit s12 E12 f12) f11 f12).mono ?_
  rintro e w13 ⟨rfl, b13⟩
  replace hL := hL.later b13
  replace hM := hM.later b13
  replace hN := hN.later b13
  replace s5 := s5.later b13
  replace E5 := E5.later b13
  replace s6 := s6.later b13
  replace E6 := E6.later b13
  replace s8 := s8.later b13
  replace E8 := E8.later b13
  replace s9 := s9.later b13
  replace E9 := E9.later b13
  replace s11 := s11.later b13
  replace E11 := E11.later b13
  replace s12 := s12.later b13
  replace E12 := E12.later b13
  replace hB := hB.trans (b13.mono hB.size)
  clear b13
  go_wp2
  go_ret
  exact ⟨rfl, hB⟩
set_option maxHeartbeats 8000000 in
set_option maxRecDepth 100000 in
theorem w100 (a : Option Addr) (ca : Nat) (L : List Mo) (b : Option Addr) (cb : Nat) (M : List Mo) (c : Option Addr) (cc : Nat) (N : List Mo) (w : World) (hL : Hand w a ca L) (hM : Hand w b cb M) (hN : Hand w c cc N) (hl : (fo L ++ fo N).length ≤ 1048576) (hl2 : (fo M ++ fo N).length ≤ 1048576) (hw : wts (fo L ++ fo N) ≤ 2097152) (hw2 : wts (fo M ++ fo N) ≤ 2097152)
    (hfg : cmpF (fo L) (fo M) = 0) (hgh : cmpF (fo M) (fo N) = -1) (hfh : cmpF (fo L) (fo N) = -1) :
    Calls Try.prog 3 #[.slice a L.length ca, .slice b M.length cb, .slice c N.length cc] w fun e w' => e = .returned (.bool true) ∧ Below w.heap.size w w' := by
  have C1 := hide' (fun w' (k : Hand w' a ca L) (j : Hand w' b cb M) => hCmp k j)
  rw [hfg] at C1
  have C2 := hide' (fun w' (k : Hand w' b cb M) (j : Hand w' c cc N) => hCmp k j)
  rw [hgh] at C2
  have C3 := hide' (fun w' (k : Hand w' b cb M) (j : Hand w' a ca L) => hCmp k j)
  rw [cmp_neg, hfg] at C3
  try simp only [Int.neg_neg, Int.neg_zero] at C3
  have C4 := hide' (fun w' (k : Hand w' a ca L) (j : Hand w' c cc N) => hCmp k j)
  rw [hfh] at C4
  have C5 := hide' (fun w' x1 c1 (R1 : List Mo) x2 c2 (R2 : List Mo) (k : Hand w' x1 c1 R1) (j : Hand w' x2 c2 R2) (f1 : fo R1 = nfm (fo L ++ fo N)) (f2 : fo R2 = nfm (fo M ++ fo N)) => (hCmp k j).mono (fun e w'' h => by rw [f1, f2, cmp_sum, hfg] at h; exact h : ∀ e w'', _ → (e = .returned (.int .i64 (0)) ∧ Below w'.heap.size w' w'')))
  have C6 := hide' (fun w' x1 c1 (R1 : List Mo) x2 c2 (R2 : List Mo) (k : Hand w' x1 c1 R1) (j : Hand w' x2 c2 R2) (f1 : fo R1 = [(1, 1)]) (f2 : fo R2 = [(2, 1)]) => (hCmp k j).mono (fun e w'' h => by rw [f1, f2, cmp_units] at h; exact h : ∀ e w'', _ → (e = .returned (.int .i64 1) ∧ Below w'.heap.size w' w'')))
  have A1 := hide' (fun w' (k : Hand w' a ca L) (j : Hand w' c cc N) => hAdd k j)
  have A2 := hide' (fun w' (k : Hand w' b cb M) (j : Hand w' c cc N) => hAdd k j)
  have N1 := hide' (fun w' (k : Hand w' a ca L) => hNorm k)
  have N2 := hide' (fun w' (k : Hand w' b cb M) => hNorm k)
  have HS := hide' (cmp_same (fo L) (fo M))
  rw [hfg] at HS
  have HX := hide' (fun w' x1 c1 (R1 : List Mo) (s1 : Sl w' x1 c1 R1) (E1 : ∀ p ∈ R1, Ent w' p) (f1 : fo R1 = nfm (fo L ++ fo N)) => hand_nfm s1 E1 f1 hl hw)
  have HY := hide' (fun w' x1 c1 (R1 : List Mo) (s1 : Sl w' x1 c1 R1) (E1 : ∀ p ∈ R1, Ent w' p) (f1 : fo R1 = nfm (fo M ++ fo N)) => hand_nfm s1 E1 f1 hl2 hw2)
  have lL : ∀ R : List Mo, fo R = nfm (fo L) → R.length ≤ 2097152 := fun R hf => by have h := nfm_length (fo L); rw [← hf, fo_length, fo_length] at h; have := hL.len; omega
  have lM : ∀ R : List Mo, fo R = nfm (fo M) → R.length ≤ 2097152 := fun R hf => by have h := nfm_length (fo M); rw [← hf, fo_length, fo_length] at h; have := hM.len; omega
  have HL := hide' (And.intro lL lM)
  clear lL lM hfg hgh hl hl2 hw hw2 hfh
  have hB : Below w.heap.size w w := Below.refl _ _
  go_enter Try.func3, Try.ntmps3
  go_wp2_with fail
  refine (C1.out _ hL hM).mono ?_
  rintro e w1 ⟨rfl, b1⟩
  replace hL := hL.later b1
  replace hM := hM.later b1
  replace hN := hN.later b1
  replace hB := hB.trans (b1.mono hB.size)
  clear b1
  go_wp2_with fail
  refine (C2.out _ hM hN).mono ?_
  rintro e w2 ⟨rfl, b2⟩
  replace hL := hL.later b2
  replace hM := hM.later b2
  replace hN := hN.later b2
  replace hB := hB.trans (b2.mono hB.size)
  clear b2
  go_wp2_with fail
  refine (C3.out _ hM hL).mono ?_
  rintro e w3 ⟨rfl, b3⟩
  replace hL := hL.later b3
  replace hM := hM.later b3
  replace hN := hN.later b3
  replace hB := hB.trans (b3.mono hB.size)
  clear b3
  go_wp2_with fail
  refine (C4.out _ hL hN).mono ?_
  rintro e w4 ⟨rfl, b4⟩
  replace hL := hL.later b4
  replace hM := hM.later b4
  replace hN := hN.later b4
  replace hB := hB.trans (b4.mono hB.size)
  clear b4
  go_wp2_with fail
  refine (A1.out _ hL hN).mono ?_
  rintro e w5 ⟨x5, c5, R5, rfl, b5, s5, E5, f5⟩
  replace E5 : Ents w5 R5 := E5
  replace hL := hL.later b5
  replace hM := hM.later b5
  replace hN := hN.later b5
  replace hB := hB.trans (b5.mono hB.size)
  clear b5
  go_wp2_with fail
  refine (A2.out _ hM hN).mono ?_
  rintro e w6 ⟨x6, c6, R6, rfl, b6, s6, E6, f6⟩
  replace E6 : Ents w6 R6 := E6
  replace hL := hL.later b6
  replace hM := hM.later b6
  replace hN := hN.later b6
  replace s5 := s5.later b6
  replace E5 := E5.later b6
  replace hB := hB.trans (b6.mono hB.size)
  clear b6
  go_wp2_with fail
  refine (C5.out _ x5 c5 R5 x6 c6 R6 (HX.out _ x5 c5 R5 s5 E5 f5) (HY.out _ x6 c6 R6 s6 E6 f6) f5 f6).mono ?_
  rintro e w7 ⟨rfl, b7⟩
  replace hL := hL.later b7
  replace hM := hM.later b7
  replace hN := hN.later b7
  replace s5 := s5.later b7
  replace E5 := E5.later b7
  replace s6 := s6.later b7
  replace E6 := E6.later b7
  replace hB := hB.trans (b7.mono hB.size)
  clear b7
  go_wp2_with fail
  refine (N1.out _ hL).mono ?_
  rintro e w8 ⟨x8, c8, R8, rfl, b8, s8, E8, f8⟩
  replace E8 : Ents w8 R8 := E8
  replace hL := hL.later b8
  replace hM := hM.later b8
  replace hN := hN.later b8
  replace s5 := s5.later b8
  replace E5 := E5.later b8
  replace s6 := s6.later b8
  replace E6 := E6.later b8
  replace hB := hB.trans (b8.mono hB.size)
  clear b8
  go_wp2_with fail
  refine (N2.out _ hM).mono ?_
  rintro e w9 ⟨x9, c9, R9, rfl, b9, s9, E9, f9⟩
  replace E9 : Ents w9 R9 := E9
  replace hL := hL.later b9
  replace hM := hM.later b9
  replace hN := hN.later b9
  replace s5 := s5.later b9
  replace E5 := E5.later b9
  replace s6 := s6.later b9
  replace E6 := E6.later b9
  replace s8 := s8.later b9
  replace E8 := E8.later b9
  replace hB := hB.trans (b9.mono hB.size)
  clear b9
  go_wp2_with fail
  refine (SameForm_is x8 c8 R8 x9 c9 R9 _ s8.lies s9.lies E8 E9 s8.len s9.len (HL.out.1 R8 f8) (by rw [f8, f9]; exact HS.out.1 trivial)).mono ?_
  rintro e w10 ⟨rfl, b10⟩
  replace hL := hL.later b10
  replace hM := hM.later b10
  replace hN := hN.later b10
  replace s5 := s5.later b10
  replace E5 := E5.later b10
  replace s6 := s6.later b10
  replace E6 := E6.later b10
  replace s8 := s8.later b10
  replace E8 := E8.later b10
  replace s9 := s9.later b10
  replace E9 := E9.later b10
  replace hB := hB.trans (b10.mono hB.size)
  clear b10
  go_wp2_with fail
  refine (unit_is 1 _).mono ?_
  rintro e w11 ⟨x11, c11, R11, rfl, b11, s11, E11, f11⟩
  replace E11 : Ents w11 R11 := E11
  replace hL := hL.later b11
  replace hM := hM.later b11
  replace hN := hN.later b11
  replace s5 := s5.later b11
  replace E5 := E5.later b11
  replace s6 := s6.later b11
  replace E6 := E6.later b11
  replace s8 := s8.later b11
  replace E8 := E8.later b11
  replace s9 := s9.later b11
  replace E9 := E9.later b11
  replace hB := hB.trans (b11.mono hB.size)
  clear b11
  go_wp2_with fail
  refine (unit_is 2 _).mono ?_
  rintro e w12 ⟨x12, c12, R12, rfl, b12, s12, E12, f12⟩
  replace E12 : Ents w12 R12 := E12
  replace hL := hL.later b12
  replace hM := hM.later b12
  replace hN := hN.later b12
  replace s5 := s5.later b12
  replace E5 := E5.later b12
  replace s6 := s6.later b12
  replace E6 := E6.later b12
  replace s8 := s8.later b12
  replace E8 := E8.later b12
  replace s9 := s9.later b12
  replace E9 := E9.later b12
  replace s11 := s11.later b12
  replace E11 := E11.later b12
  replace hB := hB.trans (b12.mono hB.size)
  clear b12
  go_wp2_with fail
  refine (C6.out _ x11 c11 R11 x12 c12 R12 (hand_unit s11 E11 f11) (hand_unit s12 E12 f12) f11 f12).mono ?_
  rintro e w13 ⟨rfl, b13⟩
  replace hL := hL.later b13
  replace hM := hM.later b13
  replace hN := hN.later b13
  replace s5 := s5.later b13
  replace E5 := E5.later b13
  replace s6 := s6.later b13
  replace E6 := E6.later b13
  replace s8 := s8.later b13
  replace E8 := E8.later b13
  replace s9 := s9.later b13
  replace E9 := E9.later b13
  replace s11 := s11.later b13
  replace E11 := E11.later b13
  replace s12 := s12.later b13
  replace E12 := E12.later b13
  replace hB := hB.trans (b13.mono hB.size)
  clear b13
  go_wp2
  go_ret
  exact ⟨rfl, hB⟩
set_option maxHeartbeats 8000000 in
set_option maxRecDepth 100000 in
theorem w101 (a : Option Addr) (ca : Nat) (L : List Mo) (b : Option Addr) (cb : Nat) (M : List Mo) (c : Option Addr) (cc : Nat) (N : List Mo) (w : World) (hL : Hand w a ca L) (hM : Hand w b cb M) (hN : Hand w c cc N) (hl : (fo L ++ fo N).length ≤ 1048576) (hl2 : (fo M ++ fo N).length ≤ 1048576) (hw : wts (fo L ++ fo N) ≤ 2097152) (hw2 : wts (fo M ++ fo N) ≤ 2097152)
    (hfg : cmpF (fo L) (fo M) = 0) (hgh : cmpF (fo M) (fo N) = -1) (hfh : cmpF (fo L) (fo N) = 0) :
    Calls Try.prog 3 #[.slice a L.length ca, .slice b M.length cb, .slice c N.length cc] w fun e w' => e = .returned (.bool true) ∧ Below w.heap.size w w' := by
  have C1 := hide' (fun w' (k : Hand w' a ca L) (j : Hand w' b cb M) => hCmp k j)
  rw [hfg] at C1
  have C2 := hide' (fun w' (k : Hand w' b cb M) (j : Hand w' c cc N) => hCmp k j)
  rw [hgh] at C2
  have C3 := hide' (fun w' (k : Hand w' b cb M) (j : Hand w' a ca L) => hCmp k j)
  rw [cmp_neg, hfg] at C3
  try simp only [Int.neg_neg, Int.neg_zero] at C3
  have C4 := hide' (fun w' (k : Hand w' a ca L) (j : Hand w' c cc N) => hCmp k j)
  rw [hfh] at C4
  have C5 := hide' (fun w' x1 c1 (R1 : List Mo) x2 c2 (R2 : List Mo) (k : Hand w' x1 c1 R1) (j : Hand w' x2 c2 R2) (f1 : fo R1 = nfm (fo L ++ fo N)) (f2 : fo R2 = nfm (fo M ++ fo N)) => (hCmp k j).mono (fun e w'' h => by rw [f1, f2, cmp_sum, hfg] at h; exact h : ∀ e w'', _ → (e = .returned (.int .i64 (0)) ∧ Below w'.heap.size w' w'')))
  have C6 := hide' (fun w' x1 c1 (R1 : List Mo) x2 c2 (R2 : List Mo) (k : Hand w' x1 c1 R1) (j : Hand w' x2 c2 R2) (f1 : fo R1 = [(1, 1)]) (f2 : fo R2 = [(2, 1)]) => (hCmp k j).mono (fun e w'' h => by rw [f1, f2, cmp_units] at h; exact h : ∀ e w'', _ → (e = .returned (.int .i64 1) ∧ Below w'.heap.size w' w'')))
  have A1 := hide' (fun w' (k : Hand w' a ca L) (j : Hand w' c cc N) => hAdd k j)
  have A2 := hide' (fun w' (k : Hand w' b cb M) (j : Hand w' c cc N) => hAdd k j)
  have N1 := hide' (fun w' (k : Hand w' a ca L) => hNorm k)
  have N2 := hide' (fun w' (k : Hand w' b cb M) => hNorm k)
  have HS := hide' (cmp_same (fo L) (fo M))
  rw [hfg] at HS
  have HX := hide' (fun w' x1 c1 (R1 : List Mo) (s1 : Sl w' x1 c1 R1) (E1 : ∀ p ∈ R1, Ent w' p) (f1 : fo R1 = nfm (fo L ++ fo N)) => hand_nfm s1 E1 f1 hl hw)
  have HY := hide' (fun w' x1 c1 (R1 : List Mo) (s1 : Sl w' x1 c1 R1) (E1 : ∀ p ∈ R1, Ent w' p) (f1 : fo R1 = nfm (fo M ++ fo N)) => hand_nfm s1 E1 f1 hl2 hw2)
  have lL : ∀ R : List Mo, fo R = nfm (fo L) → R.length ≤ 2097152 := fun R hf => by have h := nfm_length (fo L); rw [← hf, fo_length, fo_length] at h; have := hL.len; omega
  have lM : ∀ R : List Mo, fo R = nfm (fo M) → R.length ≤ 2097152 := fun R hf => by have h := nfm_length (fo M); rw [← hf, fo_length, fo_length] at h; have := hM.len; omega
  have HL := hide' (And.intro lL lM)
  clear lL lM hfg hgh hl hl2 hw hw2 hfh
  have hB : Below w.heap.size w w := Below.refl _ _
  go_enter Try.func3, Try.ntmps3
  go_wp2_with fail
  refine (C1.out _ hL hM).mono ?_
  rintro e w1 ⟨rfl, b1⟩
  replace hL := hL.later b1
  replace hM := hM.later b1
  replace hN := hN.later b1
  replace hB := hB.trans (b1.mono hB.size)
  clear b1
  go_wp2_with fail
  refine (C2.out _ hM hN).mono ?_
  rintro e w2 ⟨rfl, b2⟩
  replace hL := hL.later b2
  replace hM := hM.later b2
  replace hN := hN.later b2
  replace hB := hB.trans (b2.mono hB.size)
  clear b2
  go_wp2_with fail
  refine (C3.out _ hM hL).mono ?_
  rintro e w3 ⟨rfl, b3⟩
  replace hL := hL.later b3
  replace hM := hM.later b3
  replace hN := hN.later b3
  replace hB := hB.trans (b3.mono hB.size)
  clear b3
  go_wp2_with fail
  refine (C4.out _ hL hN).mono ?_
  rintro e w4 ⟨rfl, b4⟩
  replace hL := hL.later b4
  replace hM := hM.later b4
  replace hN := hN.later b4
  replace hB := hB.trans (b4.mono hB.size)
  clear b4
  go_wp2_with fail
  refine (A1.out _ hL hN).mono ?_
  rintro e w5 ⟨x5, c5, R5, rfl, b5, s5, E5, f5⟩
  replace E5 : Ents w5 R5 := E5
  replace hL := hL.later b5
  replace hM := hM.later b5
  replace hN := hN.later b5
  replace hB := hB.trans (b5.mono hB.size)
  clear b5
  go_wp2_with fail
  refine (A2.out _ hM hN).mono ?_
  rintro e w6 ⟨x6, c6, R6, rfl, b6, s6, E6, f6⟩
  replace E6 : Ents w6 R6 := E6
  replace hL := hL.later b6
  replace hM := hM.later b6
  replace hN := hN.later b6
  replace s5 := s5.later b6
  replace E5 := E5.later b6
  replace hB := hB.trans (b6.mono hB.size)
  clear b6
  go_wp2_with fail
  refine (C5.out _ x5 c5 R5 x6 c6 R6 (HX.out _ x5 c5 R5 s5 E5 f5) (HY.out _ x6 c6 R6 s6 E6 f6) f5 f6).mono ?_
  rintro e w7 ⟨rfl, b7⟩
  replace hL := hL.later b7
  replace hM := hM.later b7
  replace hN := hN.later b7
  replace s5 := s5.later b7
  replace E5 := E5.later b7
  replace s6 := s6.later b7
  replace E6 := E6.later b7
  replace hB := hB.trans (b7.mono hB.size)
  clear b7
  go_wp2_with fail
  refine (N1.out _ hL).mono ?_
  rintro e w8 ⟨x8, c8, R8, rfl, b8, s8, E8, f8⟩
  replace E8 : Ents w8 R8 := E8
  replace hL := hL.later b8
  replace hM := hM.later b8
  replace hN := hN.later b8
  replace s5 := s5.later b8
  replace E5 := E5.later b8
  replace s6 := s6.later b8
  replace E6 := E6.later b8
  replace hB := hB.trans (b8.mono hB.size)
  clear b8
  go_wp2_with fail
  refine (N2.out _ hM).mono ?_
  rintro e w9 ⟨x9, c9, R9, rfl, b9, s9, E9, f9⟩
  replace E9 : Ents w9 R9 := E9
  replace hL := hL.later b9
  replace hM := hM.later b9
  replace hN := hN.later b9
  replace s5 := s5.later b9
  replace E5 := E5.later b9
  replace s6 := s6.later b9
  replace E6 := E6.later b9
  replace s8 := s8.later b9
  replace E8 := E8.later b9
  replace hB := hB.trans (b9.mono hB.size)
  clear b9
  go_wp2_with fail
  refine (SameForm_is x8 c8 R8 x9 c9 R9 _ s8.lies s9.lies E8 E9 s8.len s9.len (HL.out.1 R8 f8) (by rw [f8, f9]; exact HS.out.1 trivial)).mono ?_
  rintro e w10 ⟨rfl, b10⟩
  replace hL := hL.later b10
  replace hM := hM.later b10
  replace hN := hN.later b10
  replace s5 := s5.later b10
  replace E5 := E5.later b10
  replace s6 := s6.later b10
  replace E6 := E6.later b10
  replace s8 := s8.later b10
  replace E8 := E8.later b10
  replace s9 := s9.later b10
  replace E9 := E9.later b10
  replace hB := hB.trans (b10.mono hB.size)
  clear b10
  go_wp2_with fail
  refine (unit_is 1 _).mono ?_
  rintro e w11 ⟨x11, c11, R11, rfl, b11, s11, E11, f11⟩
  replace E11 : Ents w11 R11 := E11
  replace hL := hL.later b11
  replace hM := hM.later b11
  replace hN := hN.later b11
  replace s5 := s5.later b11
  replace E5 := E5.later b11
  replace s6 := s6.later b11
  replace E6 := E6.later b11
  replace s8 := s8.later b11
  replace E8 := E8.later b11
  replace s9 := s9.later b11
  replace E9 := E9.later b11
  replace hB := hB.trans (b11.mono hB.size)
  clear b11
  go_wp2_with fail
  refine (unit_is 2 _).mono ?_
  rintro e w12 ⟨x12, c12, R12, rfl, b12, s12, E12, f12⟩
  replace E12 : Ents w12 R12 := E12
  replace hL := hL.later b12
  replace hM := hM.later b12
  replace hN := hN.later b12
  replace s5 := s5.later b12
  replace E5 := E5.later b12
  replace s6 := s6.later b12
  replace E6 := E6.later b12
  replace s8 := s8.later b12
  replace E8 := E8.later b12
  replace s9 := s9.later b12
  replace E9 := E9.later b12
  replace s11 := s11.later b12
  replace E11 := E11.later b12
  replace hB := hB.trans (b12.mono hB.size)
  clear b12
  go_wp2_with fail
  refine (C6.out _ x11 c11 R11 x12 c12 R12 (hand_unit s11 E11 f11) (hand_unit s12 E12 f12) f11 f12).mono ?_
  rintro e w13 ⟨rfl, b13⟩
  replace hL := hL.later b13
  replace hM := hM.later b13
  replace hN := hN.later b13
  replace s5 := s5.later b13
  replace E5 := E5.later b13
  replace s6 := s6.later b13
  replace E6 := E6.later b13
  replace s8 := s8.later b13
  replace E8 := E8.later b13
  replace s9 := s9.later b13
  replace E9 := E9.later b13
  replace s11 := s11.later b13
  replace E11 := E11.later b13
  replace s12 := s12.later b13
  replace E12 := E12.later b13
  replace hB := hB.trans (b13.mono hB.size)
  clear b13
  go_wp2
  go_ret
  exact ⟨rfl, hB⟩
set_option maxHeartbeats 8000000 in
set_option maxRecDepth 100000 in
theorem w110 (a : Option Addr) (ca : Nat) (L : List Mo) (b : Option Addr) (cb : Nat) (M : List Mo) (c : Option Addr) (cc : Nat) (N : List Mo) (w : World) (hL : Hand w a ca L) (hM : Hand w b cb M) (hN : Hand w c cc N) (hl : (fo L ++ fo N).length ≤ 1048576) (hl2 : (fo M ++ fo N).length ≤ 1048576) (hw : wts (fo L ++ fo N) ≤ 2097152) (hw2 : wts (fo M ++ fo N) ≤ 2097152)
    (hfg : cmpF (fo L) (fo M) = 0) (hgh : cmpF (fo M) (fo N) = 0) (hfh : cmpF (fo L) (fo N) = -1) :
    Calls Try.prog 3 #[.slice a L.length ca, .slice b M.length cb, .slice c N.length cc] w fun e w' => e = .returned (.bool true) ∧ Below w.heap.size w w' := by
  have C1 := hide' (fun w' (k : Hand w' a ca L) (j : Hand w' b cb M) => hCmp k j)
  rw [hfg] at C1
  have C2 := hide' (fun w' (k : Hand w' b cb M) (j : Hand w' c cc N) => hCmp k j)
  rw [hgh] at C2
  have C3 := hide' (fun w' (k : Hand w' b cb M) (j : Hand w' a ca L) => hCmp k j)
  rw [cmp_neg, hfg] at C3
  try simp only [Int.neg_neg, Int.neg_zero] at C3
  have C4 := hide' (fun w' (k : Hand w' a ca L) (j : Hand w' c cc N) => hCmp k j)
  rw [hfh] at C4
  have C5 := hide' (fun w' x1 c1 (R1 : List Mo) x2 c2 (R2 : List Mo) (k : Hand w' x1 c1 R1) (j : Hand w' x2 c2 R2) (f1 : fo R1 = nfm (fo L ++ fo N)) (f2 : fo R2 = nfm (fo M ++ fo N)) => (hCmp k j).mono (fun e w'' h => by rw [f1, f2, cmp_sum, hfg] at h; exact h : ∀ e w'', _ → (e = .returned (.int .i64 (0)) ∧ Below w'.heap.size w' w'')))
  have C6 := hide' (fun w' x1 c1 (R1 : List Mo) x2 c2 (R2 : List Mo) (k : Hand w' x1 c1 R1) (j : Hand w' x2 c2 R2) (f1 : fo R1 = [(1, 1)]) (f2 : fo R2 = [(2, 1)]) => (hCmp k j).mono (fun e w'' h => by rw [f1, f2, cmp_units] at h; exact h : ∀ e w'', _ → (e = .returned (.int .i64 1) ∧ Below w'.heap.size w' w'')))
  have A1 := hide' (fun w' (k : Hand w' a ca L) (j : Hand w' c cc N) => hAdd k j)
  have A2 := hide' (fun w' (k : Hand w' b cb M) (j : Hand w' c cc N) => hAdd k j)
  have N1 := hide' (fun w' (k : Hand w' a ca L) => hNorm k)
  have N2 := hide' (fun w' (k : Hand w' b cb M) => hNorm k)
  have HS := hide' (cmp_same (fo L) (fo M))
  rw [hfg] at HS
  have HX := hide' (fun w' x1 c1 (R1 : List Mo) (s1 : Sl w' x1 c1 R1) (E1 : ∀ p ∈ R1, Ent w' p) (f1 : fo R1 = nfm (fo L ++ fo N)) => hand_nfm s1 E1 f1 hl hw)
  have HY := hide' (fun w' x1 c1 (R1 : List Mo) (s1 : Sl w' x1 c1 R1) (E1 : ∀ p ∈ R1, Ent w' p) (f1 : fo R1 = nfm (fo M ++ fo N)) => hand_nfm s1 E1 f1 hl2 hw2)
  have lL : ∀ R : List Mo, fo R = nfm (fo L) → R.length ≤ 2097152 := fun R hf => by have h := nfm_length (fo L); rw [← hf, fo_length, fo_length] at h; have := hL.len; omega
  have lM : ∀ R : List Mo, fo R = nfm (fo M) → R.length ≤ 2097152 := fun R hf => by have h := nfm_length (fo M); rw [← hf, fo_length, fo_length] at h; have := hM.len; omega
  have HL := hide' (And.intro lL lM)
  clear lL lM hfg hgh hl hl2 hw hw2 hfh
  have hB : Below w.heap.size w w := Below.refl _ _
  go_enter Try.func3, Try.ntmps3
  go_wp2_with fail
  refine (C1.out _ hL hM).mono ?_
  rintro e w1 ⟨rfl, b1⟩
  replace hL := hL.later b1
  replace hM := hM.later b1
  replace hN := hN.later b1
  replace hB := hB.trans (b1.mono hB.size)
  clear b1
  go_wp2_with fail
  refine (C2.out _ hM hN).mono ?_
  rintro e w2 ⟨rfl, b2⟩
  replace hL := hL.later b2
  replace hM := hM.later b2
  replace hN := hN.later b2
  replace hB := hB.trans (b2.mono hB.size)
  clear b2
  go_wp2_with fail
  refine (C3.out _ hM hL).mono ?_
  rintro e w3 ⟨rfl, b3⟩
  replace hL := hL.later b3
  replace hM := hM.later b3
  replace hN := hN.later b3
  replace hB := hB.trans (b3.mono hB.size)
  clear b3
  go_wp2_with fail
  refine (C4.out _ hL hN).mono ?_
  rintro e w4 ⟨rfl, b4⟩
  replace hL := hL.later b4
  replace hM := hM.later b4
  replace hN := hN.later b4
  replace hB := hB.trans (b4.mono hB.size)
  clear b4
  go_wp2_with fail
  refine (A1.out _ hL hN).mono ?_
  rintro e w5 ⟨x5, c5, R5, rfl, b5, s5, E5, f5⟩
  replace E5 : Ents w5 R5 := E5
  replace hL := hL.later b5
  replace hM := hM.later b5
  replace hN := hN.later b5
  replace hB := hB.trans (b5.mono hB.size)
  clear b5
  go_wp2_with fail
  refine (A2.out _ hM hN).mono ?_
  rintro e w6 ⟨x6, c6, R6, rfl, b6, s6, E6, f6⟩
  replace E6 : Ents w6 R6 := E6
  replace hL := hL.later b6
  replace hM := hM.later b6
  replace hN := hN.later b6
  replace s5 := s5.later b6
  replace E5 := E5.later b6
  replace hB := hB.trans (b6.mono hB.size)
  clear b6
  go_wp2_with fail
  refine (C5.out _ x5 c5 R5 x6 c6 R6 (HX.out _ x5 c5 R5 s5 E5 f5) (HY.out _ x6 c6 R6 s6 E6 f6) f5 f6).mono ?_
  rintro e w7 ⟨rfl, b7⟩
  replace hL := hL.later b7
  replace hM := hM.later b7
  replace hN := hN.later b7
  replace s5 := s5.later b7
  replace E5 := E5.later b7
  replace s6 := s6.later b7
  replace E6 := E6.later b7
  replace hB := hB.trans (b7.mono hB.size)
  clear b7
  go_wp2_with fail
  refine (N1.out _ hL).mono ?_
  rintro e w8 ⟨x8, c8, R8, rfl, b8, s8, E8, f8⟩
  replace E8 : Ents w8 R8 := E8
  replace hL := hL.later b8
  replace hM := hM.later b8
  replace hN := hN.later b8
  replace s5 := s5.later b8
  replace E5 := E5.later b8
  replace s6 := s6.later b8
  replace E6 := E6.later b8
  replace hB := hB.trans (b8.mono hB.size)
  clear b8
  go_wp2_with fail
  refine (N2.out _ hM).mono ?_
  rintro e w9 ⟨x9, c9, R9, rfl, b9, s9, E9, f9⟩
  replace E9 : Ents w9 R9 := E9
  replace hL := hL.later b9
  replace hM := hM.later b9
  replace hN := hN.later b9
  replace s5 := s5.later b9
  replace E5 := E5.later b9
  replace s6 := s6.later b9
  replace E6 := E6.later b9
  replace s8 := s8.later b9
  replace E8 := E8.later b9
  replace hB := hB.trans (b9.mono hB.size)
  clear b9
  go_wp2_with fail
  refine (SameForm_is x8 c8 R8 x9 c9 R9 _ s8.lies s9.lies E8 E9 s8.len s9.len (HL.out.1 R8 f8) (by rw [f8, f9]; exact HS.out.1 trivial)).mono ?_
  rintro e w10 ⟨rfl, b10⟩
  replace hL := hL.later b10
  replace hM := hM.later b10
  replace hN := hN.later b10
  replace s5 := s5.later b10
  replace E5 := E5.later b10
  replace s6 := s6.later b10
  replace E6 := E6.later b10
  replace s8 := s8.later b10
  replace E8 := E8.later b10
  replace s9 := s9.later b10
  replace E9 := E9.later b10
  replace hB := hB.trans (b10.mono hB.size)
  clear b10
  go_wp2_with fail
  refine (unit_is 1 _).mono ?_
  rintro e w11 ⟨x11, c11, R11, rfl, b11, s11, E11, f11⟩
  replace E11 : Ents w11 R11 := E11
  replace hL := hL.later b11
  replace hM := hM.later b11
  replace hN := hN.later b11
  replace s5 := s5.later b11
  replace E5 := E5.later b11
  replace s6 := s6.later b11
  replace E6 := E6.later b11
  replace s8 := s8.later b11
  replace E8 := E8.later b11
  replace s9 := s9.later b11
  replace E9 := E9.later b11
  replace hB := hB.trans (b11.mono hB.size)
  clear b11
  go_wp2_with fail
  refine (unit_is 2 _).mono ?_
  rintro e w12 ⟨x12, c12, R12, rfl, b12, s12, E12, f12⟩
  replace E12 : Ents w12 R12 := E12
  replace hL := hL.later b12
  replace hM := hM.later b12
  replace hN := hN.later b12
  replace s5 := s5.later b12
  replace E5 := E5.later b12
  replace s6 := s6.later b12
  replace E6 := E6.later b12
  replace s8 := s8.later b12
  replace E8 := E8.later b12
  replace s9 := s9.later b12
  replace E9 := E9.later b12
  replace s11 := s11.later b12
  replace E11 := E11.later b12
  replace hB := hB.trans (b12.mono hB.size)
  clear b12
  go_wp2_with fail
  refine (C6.out _ x11 c11 R11 x12 c12 R12 (hand_unit s11 E11 f11) (hand_unit s12 E12 f12) f11 f12).mono ?_
  rintro e w13 ⟨rfl, b13⟩
  replace hL := hL.later b13
  replace hM := hM.later b13
  replace hN := hN.later b13
  replace s5 := s5.later b13
  replace E5 := E5.later b13
  replace s6 := s6.later b13
  replace E6 := E6.later b13
  replace s8 := s8.later b13
  replace E8 := E8.later b13
  replace s9 := s9.later b13
  replace E9 := E9.later b13
  replace s11 := s11.later b13
  replace E11 := E11.later b13
  replace s12 := s12.later b13
  replace E12 := E12.later b13
  replace hB := hB.trans (b13.mono hB.size)
  clear b13
  go_wp2
  go_ret
  exact ⟨rfl, hB⟩
set_option maxHeartbeats 8000000 in
set_option maxRecDepth 100000 in
theorem w111 (a : Option Addr) (ca : Nat) (L : List Mo) (b : Option Addr) (cb : Nat) (M : List Mo) (c : Option Addr) (cc : Nat) (N : List Mo) (w : World) (hL : Hand w a ca L) (hM : Hand w b cb M) (hN : Hand w c cc N) (hl : (fo L ++ fo N).length ≤ 1048576) (hl2 : (fo M ++ fo N).length ≤ 1048576) (hw : wts (fo L ++ fo N) ≤ 2097152) (hw2 : wts (fo M ++ fo N) ≤ 2097152)
    (hfg : cmpF (fo L) (fo M) = 0) (hgh : cmpF (fo M) (fo N) = 0) (hfh : cmpF (fo L) (fo N) = 0) :
    Calls Try.prog 3 #[.slice a L.length ca, .slice b M.length cb, .slice c N.length cc] w fun e w' => e = .returned (.bool true) ∧ Below w.heap.size w w' := by
  have C1 := hide' (fun w' (k : Hand w' a ca L) (j : Hand w' b cb M) => hCmp k j)
  rw [hfg] at C1
  have C2 := hide' (fun w' (k : Hand w' b cb M) (j : Hand w' c cc N) => hCmp k j)
  rw [hgh] at C2
  have C3 := hide' (fun w' (k : Hand w' b cb M) (j : Hand w' a ca L) => hCmp k j)
  rw [cmp_neg, hfg] at C3
  try simp only [Int.neg_neg, Int.neg_zero] at C3
  have C4 := hide' (fun w' (k : Hand w' a ca L) (j : Hand w' c cc N) => hCmp k j)
  rw [hfh] at C4
  have C5 := hide' (fun w' x1 c1 (R1 : List Mo) x2 c2 (R2 : List Mo) (k : Hand w' x1 c1 R1) (j : Hand w' x2 c2 R2) (f1 : fo R1 = nfm (fo L ++ fo N)) (f2 : fo R2 = nfm (fo M ++ fo N)) => (hCmp k j).mono (fun e w'' h => by rw [f1, f2, cmp_sum, hfg] at h; exact h : ∀ e w'', _ → (e = .returned (.int .i64 (0)) ∧ Below w'.heap.size w' w'')))
  have C6 := hide' (fun w' x1 c1 (R1 : List Mo) x2 c2 (R2 : List Mo) (k : Hand w' x1 c1 R1) (j : Hand w' x2 c2 R2) (f1 : fo R1 = [(1, 1)]) (f2 : fo R2 = [(2, 1)]) => (hCmp k j).mono (fun e w'' h => by rw [f1, f2, cmp_units] at h; exact h : ∀ e w'', _ → (e = .returned (.int .i64 1) ∧ Below w'.heap.size w' w'')))
  have A1 := hide' (fun w' (k : Hand w' a ca L) (j : Hand w' c cc N) => hAdd k j)
  have A2 := hide' (fun w' (k : Hand w' b cb M) (j : Hand w' c cc N) => hAdd k j)
  have N1 := hide' (fun w' (k : Hand w' a ca L) => hNorm k)
  have N2 := hide' (fun w' (k : Hand w' b cb M) => hNorm k)
  have HS := hide' (cmp_same (fo L) (fo M))
  rw [hfg] at HS
  have HX := hide' (fun w' x1 c1 (R1 : List Mo) (s1 : Sl w' x1 c1 R1) (E1 : ∀ p ∈ R1, Ent w' p) (f1 : fo R1 = nfm (fo L ++ fo N)) => hand_nfm s1 E1 f1 hl hw)
  have HY := hide' (fun w' x1 c1 (R1 : List Mo) (s1 : Sl w' x1 c1 R1) (E1 : ∀ p ∈ R1, Ent w' p) (f1 : fo R1 = nfm (fo M ++ fo N)) => hand_nfm s1 E1 f1 hl2 hw2)
  have lL : ∀ R : List Mo, fo R = nfm (fo L) → R.length ≤ 2097152 := fun R hf => by have h := nfm_length (fo L); rw [← hf, fo_length, fo_length] at h; have := hL.len; omega
  have lM : ∀ R : List Mo, fo R = nfm (fo M) → R.length ≤ 2097152 := fun R hf => by have h := nfm_length (fo M); rw [← hf, fo_length, fo_length] at h; have := hM.len; omega
  have HL := hide' (And.intro lL lM)
  clear lL lM hfg hgh hl hl2 hw hw2 hfh
  have hB : Below w.heap.size w w := Below.refl _ _
  go_enter Try.func3, Try.ntmps3
  go_wp2_with fail
  refine (C1.out _ hL hM).mono ?_
  rintro e w1 ⟨rfl, b1⟩
  replace hL := hL.later b1
  replace hM := hM.later b1
  replace hN := hN.later b1
  replace hB := hB.trans (b1.mono hB.size)
  clear b1
  go_wp2_with fail
  refine (C2.out _ hM hN).mono ?_
  rintro e w2 ⟨rfl, b2⟩
  replace hL := hL.later b2
  replace hM := hM.later b2
  replace hN := hN.later b2
  replace hB := hB.trans (b2.mono hB.size)
  clear b2
  go_wp2_with fail
  refine (C3.out _ hM hL).mono ?_
  rintro e w3 ⟨rfl, b3⟩
  replace hL := hL.later b3
  replace hM := hM.later b3
  replace hN := hN.later b3
  replace hB := hB.trans (b3.mono hB.size)
  clear b3
  go_wp2_with fail
  refine (C4.out _ hL hN).mono ?_
  rintro e w4 ⟨rfl, b4⟩
  replace hL := hL.later b4
  replace hM := hM.later b4
  replace hN := hN.later b4
  replace hB := hB.trans (b4.mono hB.size)
  clear b4
  go_wp2_with fail
  refine (A1.out _ hL hN).mono ?_
  rintro e w5 ⟨x5, c5, R5, rfl, b5, s5, E5, f5⟩
  replace E5 : Ents w5 R5 := E5
  replace hL := hL.later b5
  replace hM := hM.later b5
  replace hN := hN.later b5
  replace hB := hB.trans (b5.mono hB.size)
  clear b5
  go_wp2_with fail
  refine (A2.out _ hM hN).mono ?_
  rintro e w6 ⟨x6, c6, R6, rfl, b6, s6, E6, f6⟩
  replace E6 : Ents w6 R6 := E6
  replace hL := hL.later b6
  replace hM := hM.later b6
  replace hN := hN.later b6
  replace s5 := s5.later b6
  replace E5 := E5.later b6
  replace hB := hB.trans (b6.mono hB.size)
  clear b6
  go_wp2_with fail
  refine (C5.out _ x5 c5 R5 x6 c6 R6 (HX.out _ x5 c5 R5 s5 E5 f5) (HY.out _ x6 c6 R6 s6 E6 f6) f5 f6).mono ?_
  rintro e w7 ⟨rfl, b7⟩
  replace hL := hL.later b7
  replace hM := hM.later b7
  replace hN := hN.later b7
  replace s5 := s5.later b7
  replace E5 := E5.later b7
  replace s6 := s6.later b7
  replace E6 := E6.later b7
  replace hB := hB.trans (b7.mono hB.size)
  clear b7
  go_wp2_with fail
  refine (N1.out _ hL).mono ?_
  rintro e w8 ⟨x8, c8, R8, rfl, b8, s8, E8, f8⟩
  replace E8 : Ents w8 R8 := E8
  replace hL := hL.later b8
  replace hM := hM.later b8
  replace hN := hN.later b8
  replace s5 := s5.later b8
  replace E5 := E5.later b8
  replace s6 := s6.later b8
  replace E6 := E6.later b8
  replace hB := hB.trans (b8.mono hB.size)
  clear b8
  go_wp2_with fail
  refine (N2.out _ hM).mono ?_
  rintro e w9 ⟨x9, c9, R9, rfl, b9, s9, E9, f9⟩
  replace E9 : Ents w9 R9 := E9
  replace hL := hL.later b9
  replace hM := hM.later b9
  replace hN := hN.later b9
  replace s5 := s5.later b9
  replace E5 := E5.later b9
  replace s6 := s6.later b9
  replace E6 := E6.later b9
  replace s8 := s8.later b9
  replace E8 := E8.later b9
  replace hB := hB.trans (b9.mono hB.size)
  clear b9
  go_wp2_with fail
  refine (SameForm_is x8 c8 R8 x9 c9 R9 _ s8.lies s9.lies E8 E9 s8.len s9.len (HL.out.1 R8 f8) (by rw [f8, f9]; exact HS.out.1 trivial)).mono ?_
  rintro e w10 ⟨rfl, b10⟩
  replace hL := hL.later b10
  replace hM := hM.later b10
  replace hN := hN.later b10
  replace s5 := s5.later b10
  replace E5 := E5.later b10
  replace s6 := s6.later b10
  replace E6 := E6.later b10
  replace s8 := s8.later b10
  replace E8 := E8.later b10
  replace s9 := s9.later b10
  replace E9 := E9.later b10
  replace hB := hB.trans (b10.mono hB.size)
  clear b10
  go_wp2_with fail
  refine (unit_is 1 _).mono ?_
  rintro e w11 ⟨x11, c11, R11, rfl, b11, s11, E11, f11⟩
  replace E11 : Ents w11 R11 := E11
  replace hL := hL.later b11
  replace hM := hM.later b11
  replace hN := hN.later b11
  replace s5 := s5.later b11
  replace E5 := E5.later b11
  replace s6 := s6.later b11
  replace E6 := E6.later b11
  replace s8 := s8.later b11
  replace E8 := E8.later b11
  replace s9 := s9.later b11
  replace E9 := E9.later b11
  replace hB := hB.trans (b11.mono hB.size)
  clear b11
  go_wp2_with fail
  refine (unit_is 2 _).mono ?_
  rintro e w12 ⟨x12, c12, R12, rfl, b12, s12, E12, f12⟩
  replace E12 : Ents w12 R12 := E12
  replace hL := hL.later b12
  replace hM := hM.later b12
  replace hN := hN.later b12
  replace s5 := s5.later b12
  replace E5 := E5.later b12
  replace s6 := s6.later b12
  replace E6 := E6.later b12
  replace s8 := s8.later b12
  replace E8 := E8.later b12
  replace s9 := s9.later b12
  replace E9 := E9.later b12
  replace s11 := s11.later b12
  replace E11 := E11.later b12
  replace hB := hB.trans (b12.mono hB.size)
  clear b12
  go_wp2_with fail
  refine (C6.out _ x11 c11 R11 x12 c12 R12 (hand_unit s11 E11 f11) (hand_unit s12 E12 f12) f11 f12).mono ?_
  rintro e w13 ⟨rfl, b13⟩
  replace hL := hL.later b13
  replace hM := hM.later b13
  replace hN := hN.later b13
  replace s5 := s5.later b13
  replace E5 := E5.later b13
  replace s6 := s6.later b13
  replace E6 := E6.later b13
  replace s8 := s8.later b13
  replace E8 := E8.later b13
  replace s9 := s9.later b13
  replace E9 := E9.later b13
  replace s11 := s11.later b13
  replace E11 := E11.later b13
  replace s12 := s12.later b13
  replace E12 := E12.later b13
  replace hB := hB.trans (b13.mono hB.size)
  clear b13
  go_wp2
  go_ret
  exact ⟨rfl, hB⟩
set_option maxHeartbeats 8000000 in
set_option maxRecDepth 100000 in
theorem w12 (a : Option Addr) (ca : Nat) (L : List Mo) (b : Option Addr) (cb : Nat) (M : List Mo) (c : Option Addr) (cc : Nat) (N : List Mo) (w : World) (hL : Hand w a ca L) (hM : Hand w b cb M) (hN : Hand w c cc N) (hl : (fo L ++ fo N).length ≤ 1048576) (hl2 : (fo M ++ fo N).length ≤ 1048576) (hw : wts (fo L ++ fo N) ≤ 2097152) (hw2 : wts (fo M ++ fo N) ≤ 2097152)
    (hfg : cmpF (fo L) (fo M) = 0) (hgh : cmpF (fo M) (fo N) = 1) :
    Calls Try.prog 3 #[.slice a L.length ca, .slice b M.length cb, .slice c N.length cc] w fun e w' => e = .returned (.bool true) ∧ Below w.heap.size w w' := by
  have C1 := hide' (fun w' (k : Hand w' a ca L) (j : Hand w' b cb M) => hCmp k j)
  rw [hfg] at C1
  have C2 := hide' (fun w' (k : Hand w' b cb M) (j : Hand w' c cc N) => hCmp k j)
  rw [hgh] at C2
  have C3 := hide' (fun w' (k : Hand w' b cb M) (j : Hand w' a ca L) => hCmp k j)
  rw [cmp_neg, hfg] at C3
  try simp only [Int.neg_neg, Int.neg_zero] at C3
  have C5 := hide' (fun w' x1 c1 (R1 : List Mo) x2 c2 (R2 : List Mo) (k : Hand w' x1 c1 R1) (j : Hand w' x2 c2 R2) (f1 : fo R1 = nfm (fo L ++ fo N)) (f2 : fo R2 = nfm (fo M ++ fo N)) => (hCmp k j).mono (fun e w'' h => by rw [f1, f2, cmp_sum, hfg] at h; exact h : ∀ e w'', _ → (e = .returned (.int .i64 (0)) ∧ Below w'.heap.size w' w'')))
  have C6 := hide' (fun w' x1 c1 (R1 : List Mo) x2 c2 (R2 : List Mo) (k : Hand w' x1 c1 R1) (j : Hand w' x2 c2 R2) (f1 : fo R1 = [(1, 1)]) (f2 : fo R2 = [(2, 1)]) => (hCmp k j).mono (fun e w'' h => by rw [f1, f2, cmp_units] at h; exact h : ∀ e w'', _ → (e = .returned (.int .i64 1) ∧ Below w'.heap.size w' w'')))
  have A1 := hide' (fun w' (k : Hand w' a ca L) (j : Hand w' c cc N) => hAdd k j)
  have A2 := hide' (fun w' (k : Hand w' b cb M) (j : Hand w' c cc N) => hAdd k j)
  have N1 := hide' (fun w' (k : Hand w' a ca L) => hNorm k)
  have N2 := hide' (fun w' (k : Hand w' b cb M) => hNorm k)
  have HS := hide' (cmp_same (fo L) (fo M))
  rw [hfg] at HS
  have HX := hide' (fun w' x1 c1 (R1 : List Mo) (s1 : Sl w' x1 c1 R1) (E1 : ∀ p ∈ R1, Ent w' p) (f1 : fo R1 = nfm (fo L ++ fo N)) => hand_nfm s1 E1 f1 hl hw)
  have HY := hide' (fun w' x1 c1 (R1 : List Mo) (s1 : Sl w' x1 c1 R1) (E1 : ∀ p ∈ R1, Ent w' p) (f1 : fo R1 = nfm (fo M ++ fo N)) => hand_nfm s1 E1 f1 hl2 hw2)
  have lL : ∀ R : List Mo, fo R = nfm (fo L) → R.length ≤ 2097152 := fun R hf => by have h := nfm_length (fo L); rw [← hf, fo_length, fo_length] at h; have := hL.len; omega
  have lM : ∀ R : List Mo, fo R = nfm (fo M) → R.length ≤ 2097152 := fun R hf => by have h := nfm_length (fo M); rw [← hf, fo_length, fo_length] at h; have := hM.len; omega
  have HL := hide' (And.intro lL lM)
  clear lL lM hfg hgh hl hl2 hw hw2
  have hB : Below w.heap.size w w := Below.refl _ _
  go_enter Try.func3, Try.ntmps3
  go_wp2_with fail
  refine (C1.out _ hL hM).mono ?_
  rintro e w1 ⟨rfl, b1⟩
  replace hL := hL.later b1
  replace hM := hM.later b1
  replace hN := hN.later b1
  replace hB := hB.trans (b1.mono hB.size)
  clear b1
  go_wp2_with fail
  refine (C2.out _ hM hN).mono ?_
  rintro e w2 ⟨rfl, b2⟩
  replace hL := hL.later b2
  replace hM := hM.later b2
  replace hN := hN.later b2
  replace hB := hB.trans (b2.mono hB.size)
  clear b2
  go_wp2_with fail
  refine (C3.out _ hM hL).mono ?_
  rintro e w3 ⟨rfl, b3⟩
  replace hL := hL.later b3
  replace hM := hM.later b3
  replace hN := hN.later b3
  replace hB := hB.trans (b3.mono hB.size)
  clear b3
  go_wp2_with fail
  refine (A1.out _ hL hN).mono ?_
  rintro e w5 ⟨x5, c5, R5, rfl, b5, s5, E5, f5⟩
  replace E5 : Ents w5 R5 := E5
  replace hL := hL.later b5
  replace hM := hM.later b5
  replace hN := hN.later b5
  replace hB := hB.trans (b5.mono hB.size)
  clear b5
  go_wp2_with fail
  refine (A2.out _ hM hN).mono ?_
  rintro e w6 ⟨x6, c6, R6, rfl, b6, s6, E6, f6⟩
  replace E6 : Ents w6 R6 := E6
  replace hL := hL.later b6
  replace hM := hM.later b6
  replace hN := hN.later b6
  replace s5 := s5.later b6
  replace E5 := E5.later b6
  replace hB := hB.trans (b6.mono hB.size)
  clear b6
  go_wp2_with fail
  refine (C5.out _ x5 c5 R5 x6 c6 R6 (HX.out _ x5 c5 R5 s5 E5 f5) (HY.out _ x6 c6 R6 s6 E6 f6) f5 f6).mono ?_
  rintro e w7 ⟨rfl, b7⟩
  replace hL := hL.later b7
  replace hM := hM.later b7
  replace hN := hN.later b7
  replace s5 := s5.later b7
  replace E5 := E5.later b7
  replace s6 := s6.later b7
  replace E6 := E6.later b7
  replace hB := hB.trans (b7.mono hB.size)
  clear b7
  go_wp2_with fail
  refine (N1.out _ hL).mono ?_
  rintro e w8 ⟨x8, c8, R8, rfl, b8, s8, E8, f8⟩
  replace E8 : Ents w8 R8 := E8
  replace hL := hL.later b8
  replace hM := hM.later b8
  replace hN := hN.later b8
  replace s5 := s5.later b8
  replace E5 := E5.later b8
  replace s6 := s6.later b8
  replace E6 := E6.later b8
  replace hB := hB.trans (b8.mono hB.size)
  clear b8
  go_wp2_with fail
  refine (N2.out _ hM).mono ?_
  rintro e w9 ⟨x9, c9, R9, rfl, b9, s9, E9, f9⟩
  replace E9 : Ents w9 R9 := E9
  replace hL := hL.later b9
  replace hM := hM.later b9
  replace hN := hN.later b9
  replace s5 := s5.later b9
  replace E5 := E5.later b9
  replace s6 := s6.later b9
  replace E6 := E6.later b9
  replace s8 := s8.later b9
  replace E8 := E8.later b9
  replace hB := hB.trans (b9.mono hB.size)
  clear b9
  go_wp2_with fail
  refine (SameForm_is x8 c8 R8 x9 c9 R9 _ s8.lies s9.lies E8 E9 s8.len s9.len (HL.out.1 R8 f8) (by rw [f8, f9]; exact HS.out.1 trivial)).mono ?_
  rintro e w10 ⟨rfl, b10⟩
  replace hL := hL.later b10
  replace hM := hM.later b10
  replace hN := hN.later b10
  replace s5 := s5.later b10
  replace E5 := E5.later b10
  replace s6 := s6.later b10
  replace E6 := E6.later b10
  replace s8 := s8.later b10
  replace E8 := E8.later b10
  replace s9 := s9.later b10
  replace E9 := E9.later b10
  replace hB := hB.trans (b10.mono hB.size)
  clear b10
  go_wp2_with fail
  refine (unit_is 1 _).mono ?_
  rintro e w11 ⟨x11, c11, R11, rfl, b11, s11, E11, f11⟩
  replace E11 : Ents w11 R11 := E11
  replace hL := hL.later b11
  replace hM := hM.later b11
  replace hN := hN.later b11
  replace s5 := s5.later b11
  replace E5 := E5.later b11
  replace s6 := s6.later b11
  replace E6 := E6.later b11
  replace s8 := s8.later b11
  replace E8 := E8.later b11
  replace s9 := s9.later b11
  replace E9 := E9.later b11
  replace hB := hB.trans (b11.mono hB.size)
  clear b11
  go_wp2_with fail
  refine (unit_is 2 _).mono ?_
  rintro e w12 ⟨x12, c12, R12, rfl, b12, s12, E12, f12⟩
  replace E12 : Ents w12 R12 := E12
  replace hL := hL.later b12
  replace hM := hM.later b12
  replace hN := hN.later b12
  replace s5 := s5.later b12
  replace E5 := E5.later b12
  replace s6 := s6.later b12
  replace E6 := E6.later b12
  replace s8 := s8.later b12
  replace E8 := E8.later b12
  replace s9 := s9.later b12
  replace E9 := E9.later b12
  replace s11 := s11.later b12
  replace E11 := E11.later b12
  replace hB := hB.trans (b12.mono hB.size)
  clear b12
  go_wp2_with fail
  refine (C6.out _ x11 c11 R11 x12 c12 R12 (hand_unit s11 E11 f11) (hand_unit s12 E12 f12) f11 f12).mono ?_
  rintro e w13 ⟨rfl, b13⟩
  replace hL := hL.later b13
  replace hM := hM.later b13
  replace hN := hN.later b13
  replace s5 := s5.later b13
  replace E5 := E5.later b13
  replace s6 := s6.later b13
  replace E6 := E6.later b13
  replace s8 := s8.later b13
  replace E8 := E8.later b13
  replace s9 := s9.later b13
  replace E9 := E9.later b13
  replace s11 := s11.later b13
  replace E11 := E11.later b13
  replace s12 := s12.later b13
  replace E12 := E12.later b13
  replace hB := hB.trans (b13.mono hB.size)
  clear b13
  go_wp2
  go_ret
  exact ⟨rfl, hB⟩
set_option maxHeartbeats 8000000 in
set_option maxRecDepth 100000 in
theorem w20 (a : Option Addr) (ca : Nat) (L : List Mo) (b : Option Addr) (cb : Nat) (M : List Mo) (c : Option Addr) (cc : Nat) (N : List Mo) (w : World) (hL : Hand w a ca L) (hM : Hand w b cb M) (hN : Hand w c cc N) (hl : (fo L ++ fo N).length ≤ 1048576) (hl2 : (fo M ++ fo N).length ≤ 1048576) (hw : wts (fo L ++ fo N) ≤ 2097152) (hw2 : wts (fo M ++ fo N) ≤ 2097152)
    (hfg : cmpF (fo L) (fo M) = 1) (hgh : cmpF (fo M) (fo N) = -1) :
    Calls Try.prog 3 #[.slice a L.length ca, .slice b M.length cb, .slice c N.length cc] w fun e w' => e = .returned (.bool true) ∧ Below w.heap.size w w' := by
  have C1 := hide' (fun w' (k : Hand w' a ca L) (j : Hand w' b cb M) => hCmp k j)
  rw [hfg] at C1
  have C2 := hide' (fun w' (k : Hand w' b cb M) (j : Hand w' c cc N) => hCmp k j)
  rw [hgh] at C2
  have C3 := hide' (fun w' (k : Hand w' b cb M) (j : Hand w' a ca L) => hCmp k j)
  rw [cmp_neg, hfg] at C3
  try simp only [Int.neg_neg, Int.neg_zero] at C3
  have C5 := hide' (fun w' x1 c1 (R1 : List Mo) x2 c2 (R2 : List Mo) (k : Hand w' x1 c1 R1) (j : Hand w' x2 c2 R2) (f1 : fo R1 = nfm (fo L ++ fo N)) (f2 : fo R2 = nfm (fo M ++ fo N)) => (hCmp k j).mono (fun e w'' h => by rw [f1, f2, cmp_sum, hfg] at h; exact h : ∀ e w'', _ → (e = .returned (.int .i64 (1)) ∧ Below w'.heap.size w' w'')))
  have C6 := hide' (fun w' x1 c1 (R1 : List Mo) x2 c2 (R2 : List Mo) (k : Hand w' x1 c1 R1) (j : Hand w' x2 c2 R2) (f1 : fo R1 = [(1, 1)]) (f2 : fo R2 = [(2, 1)]) => (hCmp k j).mono (fun e w'' h => by rw [f1, f2, cmp_units] at h; exact h : ∀ e w'', _ → (e = .returned (.int .i64 1) ∧ Below w'.heap.size w' w'')))
  have A1 := hide' (fun w' (k : Hand w' a ca L) (j : Hand w' c cc N) => hAdd k j)
  have A2 := hide' (fun w' (k : Hand w' b cb M) (j : Hand w' c cc N) => hAdd k j)
  have N1 := hide' (fun w' (k : Hand w' a ca L) => hNorm k)
  have N2 := hide' (fun w' (k : Hand w' b cb M) => hNorm k)
  have HS := hide' (cmp_same (fo L) (fo M))
  rw [hfg] at HS
  have HX := hide' (fun w' x1 c1 (R1 : List Mo) (s1 : Sl w' x1 c1 R1) (E1 : ∀ p ∈ R1, Ent w' p) (f1 : fo R1 = nfm (fo L ++ fo N)) => hand_nfm s1 E1 f1 hl hw)
  have HY := hide' (fun w' x1 c1 (R1 : List Mo) (s1 : Sl w' x1 c1 R1) (E1 : ∀ p ∈ R1, Ent w' p) (f1 : fo R1 = nfm (fo M ++ fo N)) => hand_nfm s1 E1 f1 hl2 hw2)
  have lL : ∀ R : List Mo, fo R = nfm (fo L) → R.length ≤ 2097152 := fun R hf => by have h := nfm_length (fo L); rw [← hf, fo_length, fo_length] at h; have := hL.len; omega
  have lM : ∀ R : List Mo, fo R = nfm (fo M) → R.length ≤ 2097152 := fun R hf => by have h := nfm_length (fo M); rw [← hf, fo_length, fo_length] at h; have := hM.len; omega
  have HL := hide' (And.intro lL lM)
  clear lL lM hfg hgh hl hl2 hw hw2
  have hB : Below w.heap.size w w := Below.refl _ _
  go_enter Try.func3, Try.ntmps3
  go_wp2_with fail
  refine (C1.out _ hL hM).mono ?_
  rintro e w1 ⟨rfl, b1⟩
  replace hL := hL.later b1
  replace hM := hM.later b1
  replace hN := hN.later b1
  replace hB := hB.trans (b1.mono hB.size)
  clear b1
  go_wp2_with fail
  refine (C2.out _ hM hN).mono ?_
  rintro e w2 ⟨rfl, b2⟩
  replace hL := hL.later b2
  replace hM := hM.later b2
  replace hN := hN.later b2
  replace hB := hB.trans (b2.mono hB.size)
  clear b2
  go_wp2_with fail
  refine (C3.out _ hM hL).mono ?_
  rintro e w3 ⟨rfl, b3⟩
  replace hL := hL.later b3
  replace hM := hM.later b3
  replace hN := hN.later b3
  replace hB := hB.trans (b3.mono hB.size)
  clear b3
  go_wp2_with fail
  refine (A1.out _ hL hN).mono ?_
  rintro e w5 ⟨x5, c5, R5, rfl, b5, s5, E5, f5⟩
  replace E5 : Ents w5 R5 := E5
  replace hL := hL.later b5
  replace hM := hM.later b5
  replace hN := hN.later b5
  replace hB := hB.trans (b5.mono hB.size)
  clear b5
  go_wp2_with fail
  refine (A2.out _ hM hN).mono ?_
  rintro e w6 ⟨x6, c6, R6, rfl, b6, s6, E6, f6⟩
  replace E6 : Ents w6 R6 := E6
  replace hL := hL.later b6
  replace hM := hM.later b6
  replace hN := hN.later b6
  replace s5 := s5.later b6
  replace E5 := E5.later b6
  replace hB := hB.trans (b6.mono hB.size)
  clear b6
  go_wp2_with fail
  refine (C5.out _ x5 c5 R5 x6 c6 R6 (HX.out _ x5 c5 R5 s5 E5 f5) (HY.out _ x6 c6 R6 s6 E6 f6) f5 f6).mono ?_
  rintro e w7 ⟨rfl, b7⟩
  replace hL := hL.later b7
  replace hM := hM.later b7
  replace hN := hN.later b7
  replace s5 := s5.later b7
  replace E5 := E5.later b7
  replace s6 := s6.later b7
  replace E6 := E6.later b7
  replace hB := hB.trans (b7.mono hB.size)
  clear b7
  go_wp2_with fail
  refine (N1.out _ hL).mono ?_
  rintro e w8 ⟨x8, c8, R8, rfl, b8, s8, E8, f8⟩
  replace E8 : Ents w8 R8 := E8
  replace hL := hL.later b8
  replace hM := hM.later b8
  replace hN := hN.later b8
  replace s5 := s5.later b8
  replace E5 := E5.later b8
  replace s6 := s6.later b8
  replace E6 := E6.later b8
  replace hB := hB.trans (b8.mono hB.size)
  clear b8
  go_wp2_with fail
  refine (N2.out _ hM).mono ?_
  rintro e w9 ⟨x9, c9, R9, rfl, b9, s9, E9, f9⟩
  replace E9 : Ents w9 R9 := E9
  replace hL := hL.later b9
  replace hM := hM.later b9
  replace hN := hN.later b9
  replace s5 := s5.later b9
  replace E5 := E5.later b9
  replace s6 := s6.later b9
  replace E6 := E6.later b9
  replace s8 := s8.later b9
  replace E8 := E8.later b9
  replace hB := hB.trans (b9.mono hB.size)
  clear b9
  go_wp2_with fail
  refine (SameForm_no x8 c8 R8 x9 c9 R9 _ s8.lies s9.lies E8 E9 s8.len s9.len (HL.out.1 R8 f8) (HL.out.2 R9 f9) (by rw [f8, f9]; exact fun h => absurd (HS.out.2 h) (by omega))).mono ?_
  rintro e w10 ⟨rfl, b10⟩
  replace hL := hL.later b10
  replace hM := hM.later b10
  replace hN := hN.later b10
  replace s5 := s5.later b10
  replace E5 := E5.later b10
  replace s6 := s6.later b10
  replace E6 := E6.later b10
  replace s8 := s8.later b10
  replace E8 := E8.later b10
  replace s9 := s9.later b10
  replace E9 := E9.later b10
  replace hB := hB.trans (b10.mono hB.size)
  clear b10
  go_wp2_with fail
  refine (unit_is 1 _).mono ?_
  rintro e w11 ⟨x11, c11, R11, rfl, b11, s11, E11, f11⟩
  replace E11 : Ents w11 R11 := E11
  replace hL := hL.later b11
  replace hM := hM.later b11
  replace hN := hN.later b11
  replace s5 := s5.later b11
  replace E5 := E5.later b11
  replace s6 := s6.later b11
  replace E6 := E6.later b11
  replace s8 := s8.later b11
  replace E8 := E8.later b11
  replace s9 := s9.later b11
  replace E9 := E9.later b11
  replace hB := hB.trans (b11.mono hB.size)
  clear b11
  go_wp2_with fail
  refine (unit_is 2 _).mono ?_
  rintro e w12 ⟨x12, c12, R12, rfl, b12, s12, E12, f12⟩
  replace E12 : Ents w12 R12 := E12
  replace hL := hL.later b12
  replace hM := hM.later b12
  replace hN := hN.later b12
  replace s5 := s5.later b12
  replace E5 := E5.later b12
  replace s6 := s6.later b12
  replace E6 := E6.later b12
  replace s8 := s8.later b12
  replace E8 := E8.later b12
  replace s9 := s9.later b12
  replace E9 := E9.later b12
  replace s11 := s11.later b12
  replace E11 := E11.later b12
  replace hB := hB.trans (b12.mono hB.size)
  clear b12
  go_wp2_with fail
  refine (C6.out _ x11 c11 R11 x12 c12 R12 (hand_unit s11 E11 f11) (hand_unit s12 E12 f12) f11 f12).mono ?_
  rintro e w13 ⟨rfl, b13⟩
  replace hL := hL.later b13
  replace hM := hM.later b13
  replace hN := hN.later b13
  replace s5 := s5.later b13
  replace E5 := E5.later b13
  replace s6 := s6.later b13
  replace E6 := E6.later b13
  replace s8 := s8.later b13
  replace E8 := E8.later b13
  replace s9 := s9.later b13
  replace E9 := E9.later b13
  replace s11 := s11.later b13
  replace E11 := E11.later b13
  replace s12 := s12.later b13
  replace E12 := E12.later b13
  replace hB := hB.trans (b13.mono hB.size)
  clear b13
  go_wp2
  go_ret
  exact ⟨rfl, hB⟩
set_option maxHeartbeats 8000000 in
set_option maxRecDepth 100000 in
theorem w21 (a : Option Addr) (ca : Nat) (L : List Mo) (b : Option Addr) (cb : Nat) (M : List Mo) (c : Option Addr) (cc : Nat) (N : List Mo) (w : World) (hL : Hand w a ca L) (hM : Hand w b cb M) (hN : Hand w c cc N) (hl : (fo L ++ fo N).length ≤ 1048576) (hl2 : (fo M ++ fo N).length ≤ 1048576) (hw : wts (fo L ++ fo N) ≤ 2097152) (hw2 : wts (fo M ++ fo N) ≤ 2097152)
    (hfg : cmpF (fo L) (fo M) = 1) (hgh : cmpF (fo M) (fo N) = 0) :
    Calls Try.prog 3 #[.slice a L.length ca, .slice b M.length cb, .slice c N.length cc] w fun e w' => e = .returned (.bool true) ∧ Below w.heap.size w w' := by
  have C1 := hide' (fun w' (k : Hand w' a ca L) (j : Hand w' b cb M) => hCmp k j)
  rw [hfg] at C1
  have C2 := hide' (fun w' (k : Hand w' b cb M) (j : Hand w' c cc N) => hCmp k j)
  rw [hgh] at C2
  have C3 := hide' (fun w' (k : Hand w' b cb M) (j : Hand w' a ca L) => hCmp k j)
  rw [cmp_neg, hfg] at C3
  try simp only [Int.neg_neg, Int.neg_zero] at C3
  have C5 := hide' (fun w' x1 c1 (R1 : List Mo) x2 c2 (R2 : List Mo) (k : Hand w' x1 c1 R1) (j : Hand w' x2 c2 R2) (f1 : fo R1 = nfm (fo L ++ fo N)) (f2 : fo R2 = nfm (fo M ++ fo N)) => (hCmp k j).mono (fun e w'' h => by rw [f1, f2, cmp_sum, hfg] at h; exact h : ∀ e w'', _ → (e = .returned (.int .i64 (1)) ∧ Below w'.heap.size w' w'')))
  have C6 := hide' (fun w' x1 c1 (R1 : List Mo) x2 c2 (R2 : List Mo) (k : Hand w' x1 c1 R1) (j : Hand w' x2 c2 R2) (f1 : fo R1 = [(1, 1)]) (f2 : fo R2 = [(2, 1)]) => (hCmp k j).mono (fun e w'' h => by rw [f1, f2, cmp_units] at h; exact h : ∀ e w'', _ → (e = .returned (.int .i64 1) ∧ Below w'.heap.size w' w'')))
  have A1 := hide' (fun w' (k : Hand w' a ca L) (j : Hand w' c cc N) => hAdd k j)
  have A2 := hide' (fun w' (k : Hand w' b cb M) (j : Hand w' c cc N) => hAdd k j)
  have N1 := hide' (fun w' (k : Hand w' a ca L) => hNorm k)
  have N2 := hide' (fun w' (k : Hand w' b cb M) => hNorm k)
  have HS := hide' (cmp_same (fo L) (fo M))
  rw [hfg] at HS
  have HX := hide' (fun w' x1 c1 (R1 : List Mo) (s1 : Sl w' x1 c1 R1) (E1 : ∀ p ∈ R1, Ent w' p) (f1 : fo R1 = nfm (fo L ++ fo N)) => hand_nfm s1 E1 f1 hl hw)
  have HY := hide' (fun w' x1 c1 (R1 : List Mo) (s1 : Sl w' x1 c1 R1) (E1 : ∀ p ∈ R1, Ent w' p) (f1 : fo R1 = nfm (fo M ++ fo N)) => hand_nfm s1 E1 f1 hl2 hw2)
  have lL : ∀ R : List Mo, fo R = nfm (fo L) → R.length ≤ 2097152 := fun R hf => by have h := nfm_length (fo L); rw [← hf, fo_length, fo_length] at h; have := hL.len; omega
  have lM : ∀ R : List Mo, fo R = nfm (fo M) → R.length ≤ 2097152 := fun R hf => by have h := nfm_length (fo M); rw [← hf, fo_length, fo_length] at h; have := hM.len; omega
  have HL := hide' (And.intro lL lM)
  clear lL lM hfg hgh hl hl2 hw hw2
  have hB : Below w.heap.size w w := Below.refl _ _
  go_enter Try.func3, Try.ntmps3
  go_wp2_with fail
  refine (C1.out _ hL hM).mono ?_
  rintro e w1 ⟨rfl, b1⟩
  replace hL := hL.later b1
  replace hM := hM.later b1
  replace hN := hN.later b1
  replace hB := hB.trans (b1.mono hB.size)
  clear b1
  go_wp2_with fail
  refine (C2.out _ hM hN).mono ?_
  rintro e w2 ⟨rfl, b2⟩
  replace hL := hL.later b2
  replace hM := hM.later b2
  replace hN := hN.later b2
  replace hB := hB.trans (b2.mono hB.size)
  clear b2
  go_wp2_with fail
  refine (C3.out _ hM hL).mono ?_
  rintro e w3 ⟨rfl, b3⟩
  replace hL := hL.later b3
  replace hM := hM.later b3
  replace hN := hN.later b3
  replace hB := hB.trans (b3.mono hB.size)
  clear b3
  go_wp2_with fail
  refine (A1.out _ hL hN).mono ?_
  rintro e w5 ⟨x5, c5, R5, rfl, b5, s5, E5, f5⟩
  replace E5 : Ents w5 R5 := E5
  replace hL := hL.later b5
  replace hM := hM.later b5
  replace hN := hN.later b5
  replace hB := hB.trans (b5.mono hB.size)
  clear b5
  go_wp2_with fail
  refine (A2.out _ hM hN).mono ?_
  rintro e w6 ⟨x6, c6, R6, rfl, b6, s6, E6, f6⟩
  replace E6 : Ents w6 R6 := E6
  replace hL := hL.later b6
  replace hM := hM.later b6
  replace hN := hN.later b6
  replace s5 := s5.later b6
  replace E5 := E5.later b6
  replace hB := hB.trans (b6.mono hB.size)
  clear b6
  go_wp2_with fail
  refine (C5.out _ x5 c5 R5 x6 c6 R6 (HX.out _ x5 c5 R5 s5 E5 f5) (HY.out _ x6 c6 R6 s6 E6 f6) f5 f6).mono ?_
  rintro e w7 ⟨rfl, b7⟩
  replace hL := hL.later b7
  replace hM := hM.later b7
  replace hN := hN.later b7
  replace s5 := s5.later b7
  replace E5 := E5.later b7
  replace s6 := s6.later b7
  replace E6 := E6.later b7
  replace hB := hB.trans (b7.mono hB.size)
  clear b7
  go_wp2_with fail
  refine (N1.out _ hL).mono ?_
  rintro e w8 ⟨x8, c8, R8, rfl, b8, s8, E8, f8⟩
  replace E8 : Ents w8 R8 := E8
  replace hL := hL.later b8
  replace hM := hM.later b8
  replace hN := hN.later b8
  replace s5 := s5.later b8
  replace E5 := E5.later b8
  replace s6 := s6.later b8
  replace E6 := E6.later b8
  replace hB := hB.trans (b8.mono hB.size)
  clear b8
  go_wp2_with fail
  refine (N2.out _ hM).mono ?_
  rintro e w9 ⟨x9, c9, R9, rfl, b9, s9, E9, f9⟩
  replace E9 : Ents w9 R9 := E9
  replace hL := hL.later b9
  replace hM := hM.later b9
  replace hN := hN.later b9
  replace s5 := s5.later b9
  replace E5 := E5.later b9
  replace s6 := s6.later b9
  replace E6 := E6.later b9
  replace s8 := s8.later b9
  replace E8 := E8.later b9
  replace hB := hB.trans (b9.mono hB.size)
  clear b9
  go_wp2_with fail
  refine (SameForm_no x8 c8 R8 x9 c9 R9 _ s8.lies s9.lies E8 E9 s8.len s9.len (HL.out.1 R8 f8) (HL.out.2 R9 f9) (by rw [f8, f9]; exact fun h => absurd (HS.out.2 h) (by omega))).mono ?_
  rintro e w10 ⟨rfl, b10⟩
  replace hL := hL.later b10
  replace hM := hM.later b10
  replace hN := hN.later b10
  replace s5 := s5.later b10
  replace E5 := E5.later b10
  replace s6 := s6.later b10
  replace E6 := E6.later b10
  replace s8 := s8.later b10
  replace E8 := E8.later b10
  replace s9 := s9.later b10
  replace E9 := E9.later b10
  replace hB := hB.trans (b10.mono hB.size)
  clear b10
  go_wp2_with fail
  refine (unit_is 1 _).mono ?_
  rintro e w11 ⟨x11, c11, R11, rfl, b11, s11, E11, f11⟩
  replace E11 : Ents w11 R11 := E11
  replace hL := hL.later b11
  replace hM := hM.later b11
  replace hN := hN.later b11
  replace s5 := s5.later b11
  replace E5 := E5.later b11
  replace s6 := s6.later b11
  replace E6 := E6.later b11
  replace s8 := s8.later b11
  replace E8 := E8.later b11
  replace s9 := s9.later b11
  replace E9 := E9.later b11
  replace hB := hB.trans (b11.mono hB.size)
  clear b11
  go_wp2_with fail
  refine (unit_is 2 _).mono ?_
  rintro e w12 ⟨x12, c12, R12, rfl, b12, s12, E12, f12⟩
  replace E12 : Ents w12 R12 := E12
  replace hL := hL.later b12
  replace hM := hM.later b12
  replace hN := hN.later b12
  replace s5 := s5.later b12
  replace E5 := E5.later b12
  replace s6 := s6.later b12
  replace E6 := E6.later b12
  replace s8 := s8.later b12
  replace E8 := E8.later b12
  replace s9 := s9.later b12
  replace E9 := E9.later b12
  replace s11 := s11.later b12
  replace E11 := E11.later b12
  replace hB := hB.trans (b12.mono hB.size)
  clear b12
  go_wp2_with fail
  refine (C6.out _ x11 c11 R11 x12 c12 R12 (hand_unit s11 E11 f11) (hand_unit s12 E12 f12) f11 f12).mono ?_
  rintro e w13 ⟨rfl, b13⟩
  replace hL := hL.later b13
  replace hM := hM.later b13
  replace hN := hN.later b13
  replace s5 := s5.later b13
  replace E5 := E5.later b13
  replace s6 := s6.later b13
  replace E6 := E6.later b13
  replace s8 := s8.later b13
  replace E8 := E8.later b13
  replace s9 := s9.later b13
  replace E9 := E9.later b13
  replace s11 := s11.later b13
  replace E11 := E11.later b13
  replace s12 := s12.later b13
  replace E12 := E12.later b13
  replace hB := hB.trans (b13.mono hB.size)
  clear b13
  go_wp2
  go_ret
  exact ⟨rfl, hB⟩
set_option maxHeartbeats 8000000 in
set_option maxRecDepth 100000 in
theorem w22 (a : Option Addr) (ca : Nat) (L : List Mo) (b : Option Addr) (cb : Nat) (M : List Mo) (c : Option Addr) (cc : Nat) (N : List Mo) (w : World) (hL : Hand w a ca L) (hM : Hand w b cb M) (hN : Hand w c cc N) (hl : (fo L ++ fo N).length ≤ 1048576) (hl2 : (fo M ++ fo N).length ≤ 1048576) (hw : wts (fo L ++ fo N) ≤ 2097152) (hw2 : wts (fo M ++ fo N) ≤ 2097152)
    (hfg : cmpF (fo L) (fo M) = 1) (hgh : cmpF (fo M) (fo N) = 1) :
    Calls Try.prog 3 #[.slice a L.length ca, .slice b M.length cb, .slice c N.length cc] w fun e w' => e = .returned (.bool true) ∧ Below w.heap.size w w' := by
  have C1 := hide' (fun w' (k : Hand w' a ca L) (j : Hand w' b cb M) => hCmp k j)
  rw [hfg] at C1
  have C2 := hide' (fun w' (k : Hand w' b cb M) (j : Hand w' c cc N) => hCmp k j)
  rw [hgh] at C2
  have C3 := hide' (fun w' (k : Hand w' b cb M) (j : Hand w' a ca L) => hCmp k j)
  rw [cmp_neg, hfg] at C3
  try simp only [Int.neg_neg, Int.neg_zero] at C3
  have C5 := hide' (fun w' x1 c1 (R1 : List Mo) x2 c2 (R2 : List Mo) (k : Hand w' x1 c1 R1) (j : Hand w' x2 c2 R2) (f1 : fo R1 = nfm (fo L ++ fo N)) (f2 : fo R2 = nfm (fo M ++ fo N)) => (hCmp k j).mono (fun e w'' h => by rw [f1, f2, cmp_sum, hfg] at h; exact h : ∀ e w'', _ → (e = .returned (.int .i64 (1)) ∧ Below w'.heap.size w' w'')))
  have C6 := hide' (fun w' x1 c1 (R1 : List Mo) x2 c2 (R2 : List Mo) (k : Hand w' x1 c1 R1) (j : Hand w' x2 c2 R2) (f1 : fo R1 = [(1, 1)]) (f2 : fo R2 = [(2, 1)]) => (hCmp k j).mono (fun e w'' h => by rw [f1, f2, cmp_units] at h; exact h : ∀ e w'', _ → (e = .returned (.int .i64 1) ∧ Below w'.heap.size w' w'')))
  have A1 := hide' (fun w' (k : Hand w' a ca L) (j : Hand w' c cc N) => hAdd k j)
  have A2 := hide' (fun w' (k : Hand w' b cb M) (j : Hand w' c cc N) => hAdd k j)
  have N1 := hide' (fun w' (k : Hand w' a ca L) => hNorm k)
  have N2 := hide' (fun w' (k : Hand w' b cb M) => hNorm k)
  have HS := hide' (cmp_same (fo L) (fo M))
  rw [hfg] at HS
  have HX := hide' (fun w' x1 c1 (R1 : List Mo) (s1 : Sl w' x1 c1 R1) (E1 : ∀ p ∈ R1, Ent w' p) (f1 : fo R1 = nfm (fo L ++ fo N)) => hand_nfm s1 E1 f1 hl hw)
  have HY := hide' (fun w' x1 c1 (R1 : List Mo) (s1 : Sl w' x1 c1 R1) (E1 : ∀ p ∈ R1, Ent w' p) (f1 : fo R1 = nfm (fo M ++ fo N)) => hand_nfm s1 E1 f1 hl2 hw2)
  have lL : ∀ R : List Mo, fo R = nfm (fo L) → R.length ≤ 2097152 := fun R hf => by have h := nfm_length (fo L); rw [← hf, fo_length, fo_length] at h; have := hL.len; omega
  have lM : ∀ R : List Mo, fo R = nfm (fo M) → R.length ≤ 2097152 := fun R hf => by have h := nfm_length (fo M); rw [← hf, fo_length, fo_length] at h; have := hM.len; omega
  have HL := hide' (And.intro lL lM)
  clear lL lM hfg hgh hl hl2 hw hw2
  have hB : Below w.heap.size w w := Below.refl _ _
  go_enter Try.func3, Try.ntmps3
  go_wp2_with fail
  refine (C1.out _ hL hM).mono ?_
  rintro e w1 ⟨rfl, b1⟩
  replace hL := hL.later b1
  replace hM := hM.later b1
  replace hN := hN.later b1
  replace hB := hB.trans (b1.mono hB.size)
  clear b1
  go_wp2_with fail
  refine (C2.out _ hM hN).mono ?_
  rintro e w2 ⟨rfl, b2⟩
  replace hL := hL.later b2
  replace hM := hM.later b2
  replace hN := hN.later b2
  replace hB := hB.trans (b2.mono hB.size)
  clear b2
  go_wp2_with fail
  refine (C3.out _ hM hL).mono ?_
  rintro e w3 ⟨rfl, b3⟩
  replace hL := hL.later b3
  replace hM := hM.later b3
  replace hN := hN.later b3
  replace hB := hB.trans (b3.mono hB.size)
  clear b3
  go_wp2_with fail
  refine (A1.out _ hL hN).mono ?_
  rintro e w5 ⟨x5, c5, R5, rfl, b5, s5, E5, f5⟩
  replace E5 : Ents w5 R5 := E5
  replace hL := hL.later b5
  replace hM := hM.later b5
  replace hN := hN.later b5
  replace hB := hB.trans (b5.mono hB.size)
  clear b5
  go_wp2_with fail
  refine (A2.out _ hM hN).mono ?_
  rintro e w6 ⟨x6, c6, R6, rfl, b6, s6, E6, f6⟩
  replace E6 : Ents w6 R6 := E6
  replace hL := hL.later b6
  replace hM := hM.later b6
  replace hN := hN.later b6
  replace s5 := s5.later b6
  replace E5 := E5.later b6
  replace hB := hB.trans (b6.mono hB.size)
  clear b6
  go_wp2_with fail
  refine (C5.out _ x5 c5 R5 x6 c6 R6 (HX.out _ x5 c5 R5 s5 E5 f5) (HY.out _ x6 c6 R6 s6 E6 f6) f5 f6).mono ?_
  rintro e w7 ⟨rfl, b7⟩
  replace hL := hL.later b7
  replace hM := hM.later b7
  replace hN := hN.later b7
  replace s5 := s5.later b7
  replace E5 := E5.later b7
  replace s6 := s6.later b7
  replace E6 := E6.later b7
  replace hB := hB.trans (b7.mono hB.size)
  clear b7
  go_wp2_with fail
  refine (N1.out _ hL).mono ?_
  rintro e w8 ⟨x8, c8, R8, rfl, b8, s8, E8, f8⟩
  replace E8 : Ents w8 R8 := E8
  replace hL := hL.later b8
  replace hM := hM.later b8
  replace hN := hN.later b8
  replace s5 := s5.later b8
  replace E5 := E5.later b8
  replace s6 := s6.later b8
  replace E6 := E6.later b8
  replace hB := hB.trans (b8.mono hB.size)
  clear b8
  go_wp2_with fail
  refine (N2.out _ hM).mono ?_
  rintro e w9 ⟨x9, c9, R9, rfl, b9, s9, E9, f9⟩
  replace E9 : Ents w9 R9 := E9
  replace hL := hL.later b9
  replace hM := hM.later b9
  replace hN := hN.later b9
  replace s5 := s5.later b9
  replace E5 := E5.later b9
  replace s6 := s6.later b9
  replace E6 := E6.later b9
  replace s8 := s8.later b9
  replace E8 := E8.later b9
  replace hB := hB.trans (b9.mono hB.size)
  clear b9
  go_wp2_with fail
  refine (SameForm_no x8 c8 R8 x9 c9 R9 _ s8.lies s9.lies E8 E9 s8.len s9.len (HL.out.1 R8 f8) (HL.out.2 R9 f9) (by rw [f8, f9]; exact fun h => absurd (HS.out.2 h) (by omega))).mono ?_
  rintro e w10 ⟨rfl, b10⟩
  replace hL := hL.later b10
  replace hM := hM.later b10
  replace hN := hN.later b10
  replace s5 := s5.later b10
  replace E5 := E5.later b10
  replace s6 := s6.later b10
  replace E6 := E6.later b10
  replace s8 := s8.later b10
  replace E8 := E8.later b10
  replace s9 := s9.later b10
  replace E9 := E9.later b10
  replace hB := hB.trans (b10.mono hB.size)
  clear b10
  go_wp2_with fail
  refine (unit_is 1 _).mono ?_
  rintro e w11 ⟨x11, c11, R11, rfl, b11, s11, E11, f11⟩
  replace E11 : Ents w11 R11 := E11
  replace hL := hL.later b11
  replace hM := hM.later b11
  replace hN := hN.later b11
  replace s5 := s5.later b11
  replace E5 := E5.later b11
  replace s6 := s6.later b11
  replace E6 := E6.later b11
  replace s8 := s8.later b11
  replace E8 := E8.later b11
  replace s9 := s9.later b11
  replace E9 := E9.later b11
  replace hB := hB.trans (b11.mono hB.size)
  clear b11
  go_wp2_with fail
  refine (unit_is 2 _).mono ?_
  rintro e w12 ⟨x12, c12, R12, rfl, b12, s12, E12, f12⟩
  replace E12 : Ents w12 R12 := E12
  replace hL := hL.later b12
  replace hM := hM.later b12
  replace hN := hN.later b12
  replace s5 := s5.later b12
  replace E5 := E5.later b12
  replace s6 := s6.later b12
  replace E6 := E6.later b12
  replace s8 := s8.later b12
  replace E8 := E8.later b12
  replace s9 := s9.later b12
  replace E9 := E9.later b12
  replace s11 := s11.later b12
  replace E11 := E11.later b12
  replace hB := hB.trans (b12.mono hB.size)
  clear b12
  go_wp2_with fail
  refine (C6.out _ x11 c11 R11 x12 c12 R12 (hand_unit s11 E11 f11) (hand_unit s12 E12 f12) f11 f12).mono ?_
  rintro e w13 ⟨rfl, b13⟩
  replace hL := hL.later b13
  replace hM := hM.later b13
  replace hN := hN.later b13
  replace s5 := s5.later b13
  replace E5 := E5.later b13
  replace s6 := s6.later b13
  replace E6 := E6.later b13
  replace s8 := s8.later b13
  replace E8 := E8.later b13
  replace s9 := s9.later b13
  replace E9 := E9.later b13
  replace s11 := s11.later b13
  replace E11 := E11.later b13
  replace s12 := s12.later b13
  replace E12 := E12.later b13
  replace hB := hB.trans (b13.mono hB.size)
  clear b13
  go_wp2
  go_ret
  exact ⟨rfl, hB⟩
theorem walkL (a : Option Addr) (ca : Nat) (L : List Mo) (b : Option Addr) (cb : Nat) (M : List Mo) (c : Option Addr) (cc : Nat) (N : List Mo) (w : World) (hL : Hand w a ca L) (hM : Hand w b cb M) (hN : Hand w c cc N) (hl : (fo L ++ fo N).length ≤ 1048576) (hl2 : (fo M ++ fo N).length ≤ 1048576) (hw : wts (fo L ++ fo N) ≤ 2097152) (hw2 : wts (fo M ++ fo N) ≤ 2097152) :
    Calls Try.prog 3 #[.slice a L.length ca, .slice b M.length cb, .slice c N.length cc] w fun e w' => e = .returned (.bool true) ∧ Below w.heap.size w w' := by
  have r1 := cmp_range (fo L) (fo M)
  have r2 := cmp_range (fo M) (fo N)
  have r3 := cmp_range (fo L) (fo N)
  have r4 := cmp_trans (fo L) (fo M) (fo N)
  have t1 : cmpF (fo L) (fo M) = -1 ∨ cmpF (fo L) (fo M) = 0 ∨ cmpF (fo L) (fo M) = 1 := by omega
  have t2 : cmpF (fo M) (fo N) = -1 ∨ cmpF (fo M) (fo N) = 0 ∨ cmpF (fo M) (fo N) = 1 := by omega
  rcases t1 with h1 | h1 | h1 <;> rcases t2 with h2 | h2 | h2
  · have r5 := r4 (by omega) (by omega)
    have t3 : cmpF (fo L) (fo N) = -1 ∨ cmpF (fo L) (fo N) = 0 := by omega
    rcases t3 with h3 | h3
    · exact w000 a ca L b cb M c cc N w hL hM hN hl hl2 hw hw2 h1 h2 h3
    · exact w001 a ca L b cb M c cc N w hL hM hN hl hl2 hw hw2 h1 h2 h3
  · have r5 := r4 (by omega) (by omega)
    have t3 : cmpF (fo L) (fo N) = -1 ∨ cmpF (fo L) (fo N) = 0 := by omega
    rcases t3 with h3 | h3
    · exact w010 a ca L b cb M c cc N w hL hM hN hl hl2 hw hw2 h1 h2 h3
    · exact w011 a ca L b cb M c cc N w hL hM hN hl hl2 hw hw2 h1 h2 h3
  · exact w02 a ca L b cb M c cc N w hL hM hN hl hl2 hw hw2 h1 h2
  · have r5 := r4 (by omega) (by omega)
    have t3 : cmpF (fo L) (fo N) = -1 ∨ cmpF (fo L) (fo N) = 0 := by omega
    rcases t3 with h3 | h3
    · exact w100 a ca L b cb M c cc N w hL hM hN hl hl2 hw hw2 h1 h2 h3
    · exact w101 a ca L b cb M c cc N w hL hM hN hl hl2 hw hw2 h1 h2 h3
  · have r5 := r4 (by omega) (by omega)
    have t3 : cmpF (fo L) (fo N) = -1 ∨ cmpF (fo L) (fo N) = 0 := by omega
    rcases t3 with h3 | h3
    · exact w110 a ca L b cb M c cc N w hL hM hN hl hl2 hw hw2 h1 h2 h3
    · exact w111 a ca L b cb M c cc N w hL hM hN hl hl2 hw hw2 h1 h2 h3
  · exact w12 a ca L b cb M c cc N w hL hM hN hl hl2 hw hw2 h1 h2
  · exact w20 a ca L b cb M c cc N w hL hM hN hl hl2 hw hw2 h1 h2
  · exact w21 a ca L b cb M c cc N w hL hM hN hl hl2 hw hw2 h1 h2
  · exact w22 a ca L b cb M c cc N w hL hM hN hl hl2 hw hw2 h1 h2
theorem bulkL_mos (v : Nat → Int) (f : Nat → RatV) : ∀ n, bulkL (mos v f n) = bulkV f n + n
  | 0 => rfl
  | n + 1 => by
    have ih := bulkL_mos v f n
    have e : mos v f (n + 1) = mos v f n ++ [(v n, f n)] := by unfold mos; rw [List.range_succ, List.map_append]; rfl
    have ha : ∀ (A B : List Mo), bulkL (A ++ B) = bulkL A + bulkL B := fun A B => by
      induction A with
      | nil => simp [bulkL]
      | cons p A ih => simp only [List.cons_append, bulkL, ih]; omega
    rw [e, ha, ih]
    simp only [bulkL, bulkV]
    omega
theorem hand_in {w : World} {af : Option Addr} {n capf : Nat} {v : Nat → Int} {f : Nat → RatV} (hF : FormAt w af n v f) (hfo : ∀ i, i < n → (Lit.int .i64 (v i)).wf = true ∧ (f i).ok w) (hcf : n ≤ capf) (hb : bulkV f n ≤ 1048576) : Hand w af capf (mos v f n) := by
  have b1 := bulk_n (q := f) n
  exact hand_of (mos_at hF) (fun p hp => by obtain ⟨i, hi, rfl⟩ := mos_mem hp; exact (hfo i hi).2) (by rw [mos_length]; exact hcf) (by rw [mos_length]; omega) (by rw [bulkL_mos]; omega)
theorem walk (af : Option Addr) (n capf : Nat) (v : Nat → Int) (f : Nat → RatV) (ag : Option Addr) (m capg : Nat) (v2 : Nat → Int) (g : Nat → RatV) (ah : Option Addr) (k caph : Nat) (v3 : Nat → Int) (h : Nat → RatV) (w : World) (hF : FormAt w af n v f) (hfo : ∀ i, i < n → (Lit.int .i64 (v i)).wf = true ∧ (f i).ok w) (hcf : n ≤ capf) (hG : FormAt w ag m v2 g) (hgo : ∀ i, i < m → (Lit.int .i64 (v2 i)).wf = true ∧ (g i).ok w) (hcg : m ≤ capg) (hH : FormAt w ah k v3 h) (hho : ∀ i, i < k → (Lit.int .i64 (v3 i)).wf = true ∧ (h i).ok w) (hch : k ≤ caph) (hb : bulkV f n + bulkV g m + bulkV h k ≤ 1048576) :
    Calls Try.prog 3 #[.slice af n capf, .slice ag m capg, .slice ah k caph] w fun e w' => e = .returned (.bool true) ∧ Below w.heap.size w w' := by
  have b1 := bulk_n (q := f) n
  have b2 := bulk_n (q := g) m
  have b3 := bulk_n (q := h) k
  have w1 := wts_bulk (w := w) (mos v f n) (fun p hp => by obtain ⟨i, hi, rfl⟩ := mos_mem hp; exact (hfo i hi).2)
  have w2 := wts_bulk (w := w) (mos v2 g m) (fun p hp => by obtain ⟨i, hi, rfl⟩ := mos_mem hp; exact (hgo i hi).2)
  have w3 := wts_bulk (w := w) (mos v3 h k) (fun p hp => by obtain ⟨i, hi, rfl⟩ := mos_mem hp; exact (hho i hi).2)
  rw [bulkL_mos] at w1 w2 w3
  have r := walkL af capf (mos v f n) ag capg (mos v2 g m) ah caph (mos v3 h k) w (hand_in hF hfo hcf (by omega)) (hand_in hG hgo hcg (by omega)) (hand_in hH hho hch (by omega)) (by rw [List.length_append, fo_length, fo_length, mos_length, mos_length]; omega) (by rw [List.length_append, fo_length, fo_length, mos_length, mos_length]; omega) (by rw [wts_append]; omega) (by rw [wts_append]; omega)
  rw [mos_length, mos_length, mos_length] at r
  exact r

set_option maxRecDepth 100000 in
theorem contract (H : Type) (enc : TypeId × Value → H) (W : World) (base : Nat) (args : Array Value) (ds gs : List (DataW H)) (before : List MemPlace)
    (hval : ∀ (j : Nat) t v, Try.f3.params[j]? = some t → args[j]? = some v → Value.okWide Try.prog W .any base t v)
    (hW : DataW.Whole enc Try.prog Try.f3.params.toList Rows.linearOrdersSpec.vars false W args.toList ds gs before)
    (hsz : (DataW.weightsEach Try.prog (Try.f3.params.toList ++ Rows.linearOrdersSpec.plain.varTypes Try.prog) (ds ++ gs)).all (· ≤ reachBytes) = true) (hk : Rows.uptoSmall H (ds ++ gs) = true) :
    Calls Try.prog 3 args W fun e W' => ∃ v, e = .returned v ∧ Rows.linearOrdersSpec.post enc Try.prog Try.f3 false true false false W args v W' := by
  have hW' := hW
  obtain ⟨p, q, hA0, hV, rfl, hfz, hnd⟩ := hW
  have hA : DataW.TrodAll enc Try.prog W 0 (fun _ => true) true Try.f3.params.toList args.toList ds p := hA0
  rw [Try.params3] at hA hval hsz
  obtain ⟨v0, vs0, d0, ds0, p0, q0, hargs, rfl, rfl, h0, r0⟩ := trodAll_cons hA
  obtain ⟨v1, vs1, d1, ds1, p1, q1, rfl, rfl, rfl, h1, r1⟩ := trodAll_cons r0
  obtain ⟨v2, vs2, d2, ds2, p2, q2, rfl, rfl, rfl, h2, r2⟩ := trodAll_cons r1
  obtain ⟨rfl, rfl, rfl⟩ := trodAll_nil r2
  obtain rfl : args = #[v0, v1, v2] := by cases args; simp_all
  obtain ⟨rfl, rfl⟩ := trodVars_none hV
  have lt0 : ∀ x ∈ p0, x.block < W.heap.size := by obtain ⟨m, hm⟩ := h0; exact DataW.trod_lt m _ _ _ hm
  obtain ⟨xa0, xl0, xc0, rfl⟩ := okWide_slice Try.underlying23 (hval 0 23 v0 rfl rfl)
  obtain ⟨fu0, hm0⟩ := id h0
  obtain ⟨fa0, fn0, fc0, fv0, ff0, hcs0, hF0, hfo0, hfc0, hfz0, hfu0⟩ := open_Form hm0 (sized_at 0 hsz rfl rfl)
  simp [Value.cells] at hcs0
  obtain ⟨rfl, rfl, rfl⟩ := hcs0
  have lt1 : ∀ x ∈ p1, x.block < W.heap.size := by obtain ⟨m, hm⟩ := h1; exact DataW.trod_lt m _ _ _ hm
  obtain ⟨xa1, xl1, xc1, rfl⟩ := okWide_slice Try.underlying23 (hval 1 23 v1 rfl rfl)
  obtain ⟨fu1, hm1⟩ := id h1
  obtain ⟨fa1, fn1, fc1, fv1, ff1, hcs1, hF1, hfo1, hfc1, hfz1, hfu1⟩ := open_Form hm1 (sized_at 1 hsz rfl rfl)
  simp [Value.cells] at hcs1
  obtain ⟨rfl, rfl, rfl⟩ := hcs1
  have lt2 : ∀ x ∈ p2, x.block < W.heap.size := by obtain ⟨m, hm⟩ := h2; exact DataW.trod_lt m _ _ _ hm
  obtain ⟨xa2, xl2, xc2, rfl⟩ := okWide_slice Try.underlying23 (hval 2 23 v2 rfl rfl)
  obtain ⟨fu2, hm2⟩ := id h2
  obtain ⟨fa2, fn2, fc2, fv2, ff2, hcs2, hF2, hfo2, hfc2, hfz2, hfu2⟩ := open_Form hm2 (sized_at 2 hsz rfl rfl)
  simp [Value.cells] at hcs2
  obtain ⟨rfl, rfl, rfl⟩ := hcs2
  clear hA0
  have hbulk := of_decide_eq_true hk
  simp only [List.append_nil, Rows.uptoBulkAll] at hbulk
  simp only [List.append_nil] at hW'
  refine (walk xa0 xl0 xc0 fv0 ff0 xa1 xl1 xc1 fv1 ff1 xa2 xl2 xc2 fv2 ff2 W hF0 hfo0 hfc0 hF1 hfo1 hfc1 hF2 hfo2 hfc2 (by omega)).mono fun e W' ⟨he, bel⟩ => ?_
  subst he
  exact ⟨_, rfl, _, _, _, [], _, [], hW', trodAll_mk1 (shut_bool Try.underlying4 _), (trodAll_cons_mk (Below.trod laidOut (by kernel_rfl) (of_decide_eq_true (by kernel_rfl)) h0 bel lt0) (trodAll_cons_mk (Below.trod laidOut (by kernel_rfl) (of_decide_eq_true (by kernel_rfl)) h1 bel lt1) (trodAll_cons_mk (Below.trod laidOut (by kernel_rfl) (of_decide_eq_true (by kernel_rfl)) h2 bel lt2) trodAll_mk0))), rfl, bel.frame _, fun h => by cases h⟩

set_option maxRecDepth 100000 in
theorem lifted (os : Os) (started : os.Started) (H : Type) (enc : TypeId × Value → H) (F : Stop.Interp) :
    ReturnsInHanded {} Try.checked os 3 .any ((Rows.OpenSpec.upto Rows.linearOrdersSpec).pre6 enc Try.prog Try.f3 Rows.linearOrdersUptoRow.domain false) (((Rows.OpenSpec.upto Rows.linearOrdersSpec).at F).post enc Try.prog Try.f3 false true false false) := by
  refine returnsInHanded_of_cond_sized (C := Try.checked) (s := Rows.OpenSpec.upto Rows.linearOrdersSpec) (k := Rows.uptoSmall) rfl own started (by kernel_rfl) Try.func3
    (OpenSpec.witness (enc := enc) (C := Try.checked) (s := Rows.OpenSpec.upto Rows.linearOrdersSpec) (k := Rows.uptoSmall) rfl false ⟨#[], #[.slice none 0 0, .slice none 0 0, .slice none 0 0], []⟩ 8 (by kernel_rfl) (by kernel_rfl) (by kernel_rfl)
      (x := ([.nil, .nil, .nil], [], [])) (by kernel_rfl) rfl (by kernel_rfl)) ?_
  intro W base args ds gs before hval hW _ hk hsz _
  exact contract H enc W base args ds gs before hval hW hsz hk

theorem over : Rows.linearOrdersUptoRow.holds Try.pinned (Rows.OpenSpec.upto Rows.linearOrdersSpec) :=
  OpenClaim.holds_of_cond 3 Try.f3 rfl rfl rfl rfl rfl rfl rfl ⟨rfl, rfl, rfl, rfl, rfl⟩ rfl rfl rfl rfl rfl (by kernel_rfl) Try.func3 (by kernel_rfl)
    (of_decide_eq_true (by kernel_rfl)) (by unfold Func.isWrapper; first | (rw [if_pos (by decide +kernel)]; kernel_rfl) | (rw [if_neg (by decide +kernel)]; exact ⟨rfl, rfl⟩))
    (fun os started H enc _ F => lifted os started H enc F)

end Go.Proofs.Ytbglcihfambibaa.linearOrders
namespace Go.Proofs.Ytbglcihfambibaa
theorem linearOrders_holds : Rows.LinearOrdersUptoSaid := linearOrders.over
#print axioms linearOrders_holds
end Go.Proofs.Ytbglcihfambibaa
