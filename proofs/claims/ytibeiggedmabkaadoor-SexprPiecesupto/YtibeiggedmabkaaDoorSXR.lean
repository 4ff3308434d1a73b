/-
  SexprPieces: the walk.
-/
import Derived.Test.YtibeiggedmabkaaDoorSXQ
namespace Go.Proofs.YtibeiggedmabkaaDoor
open Go.RowKit
set_option linter.unusedVariables false
set_option linter.unusedSimpArgs false
/-- a list of uint16 that came in -/
def U16C (w : World) (a : Option Addr) (len : Nat) (g : Nat → Nat) : Prop := 0 < len → ∃ b off, a = some ⟨b, off, none⟩ ∧ ∀ i, i < len → w.cell? ⟨b, off + i, none⟩ = some (.int .u16 (g i)) ∧ g i < 65536
theorem take_drop2 {bs : List UInt8} {a c : Nat} (h : a ≤ c) : bs.take c = bs.take a ++ (bs.take c).drop a := by
  have e : (bs.take c).take a = bs.take a := by rw [List.take_take]; congr 1; omega
  rw [← e, List.take_append_drop]
theorem ext_list2 (s : ByteArray) (a c : Nat) : (s.extract a c).data.toList = (s.data.toList.take c).drop a := by
  rw [← ext_list]
theorem rs0_over : ∀ d e q, rs0 = RS.over d e q → e ≠ 0 := fun d e q h => by cases h
/-- one piece more -/
theorem feedF_piece {bs : List UInt8} {a c : Nat} (h : a ≤ c) : feedF rs0 (bs.take c) = ((feedF rs0 (bs.take a)).1 ++ (feedF (feedF rs0 (bs.take a)).2.2 ((bs.take c).drop a)).1, (feedF (feedF rs0 (bs.take a)).2.2 ((bs.take c).drop a)).2) := by
  have := feedF_app rs0 (bs.take a) ((bs.take c).drop a) rs0_over
  rw [← take_drop2 h] at this
  exact this
/-- once something is wrong nothing more is told -/
theorem feedF_still {S y : List UInt8} (h : (feedF rs0 S).2.1 ≠ 0) : (feedF (feedF rs0 S).2.2 y).1 = [] ∧ (feedF (feedF rs0 S).2.2 y).2.1 = (feedF rs0 S).2.1 := by
  rcases hr : (feedF rs0 S).2.2 with ⟨o, p⟩ | ⟨d, e, q⟩
  · exact absurd (feedF_go rs0 S o p hr) h
  · obtain ⟨h1, h2⟩ := feedF_over rs0 S rs0_over d e q hr
    simp only [feedF, if_neg h1]
    exact ⟨trivial, h2.symm⟩
theorem endF_still {S : List UInt8} (h : (feedF rs0 S).2.1 ≠ 0) : (endF (feedF rs0 S).2.2).1 = [] ∧ (endF (feedF rs0 S).2.2).2.1 = (feedF rs0 S).2.1 := by
  rcases hr : (feedF rs0 S).2.2 with ⟨o, p⟩ | ⟨d, e, q⟩
  · exact absurd (feedF_go rs0 S o p hr) h
  · obtain ⟨h1, h2⟩ := feedF_over rs0 S rs0_over d e q hr
    simp only [endF]
    exact ⟨trivial, h2.symm⟩
theorem rs_rd {S : List UInt8} {o : List Opn} {p : PS} (h : (feedF rs0 S).2.2 = .go o p) : p.rd = S.length := by
  rw [feedF_rd Inv_pI h]
  show 0 + S.length = _
  omega
set_option maxHeartbeats 8000000 in
set_option maxRecDepth 100000 in
theorem pieces_walk (s : ByteArray) (ac : Option Addr) (lc cc : Nat) (gc : Nat → Nat) (w : World) (hsz : s.size ≤ 400000000) (hlc : lc ≤ 4294967280) (hI : U16C w ac lc gc) (hM : MaxL w) (hmx : mxB < w.heap.size) : Calls Tryd.prog 7 #[.string s, .slice ac lc cc] w fun e w' => e = .returned (.bool true) ∧ Below w.heap.size w w' := by
  obtain ⟨bs, hbs⟩ : ∃ bs, s.data.toList = bs := ⟨_, rfl⟩
  have hbl : bs.length = s.size := by rw [← hbs, Array.length_toList]; rfl
  have GA := hideT (read_is s w hsz hM hmx)
  rw [hbs] at GA
  have HBS := hideT hbs
  clear hbs
  go_enter Tryd.func7, Tryd.ntmps7
  go_wp2_with fail
  refine GA.out.mono ?_
  rintro e w1 ⟨v1, rfl, ra, b1⟩
  clear GA
  have hrl : (readG bs).1.length ≤ 1000000000 := by unfold readG; simp only [List.length_append]; have := feedF_few rs0 bs; have := endF_few (feedF rs0 bs).2.2; omega
  obtain ⟨P1, nd1⟩ := ra.nd (by omega)
  clear ra
  have hM1 := hM.on b1
  have hmx1 : mxB < w1.heap.size := Nat.lt_of_lt_of_le hmx b1.size
  obtain ⟨rf, hrf⟩ : ∃ rf, (readG bs).2.1 = rf := ⟨_, rfl⟩
  obtain ⟨rp, hrp⟩ : ∃ rp, (readG bs).2.2 = rp := ⟨_, rfl⟩
  rw [hrf, hrp]
  have HRF := hideT (And.intro hrf hrp)
  clear hrf hrp
  have GN := hideT (newI w1 hmx1)
  obtain ⟨a1, c1, ev1⟩ := nd1.sl
  subst ev1
  go_wp2_with fail
  refine GN.out.mono ?_
  rintro e w2 ⟨b, sc, X0, rfl, r0, b2⟩
  clear GN
  have hM2 := hM1.on b2
  have hmx2 := Nat.lt_of_lt_of_le hmx1 b2.size
  have GL := hideT (lives_is w2 hM2 hmx2)
  go_wp2_with fail
  refine GL.out.mono ?_
  rintro e w3 ⟨rfl, b3⟩
  clear GL
  have r3 := r0.later b3
  have hM3 := hM2.on b3
  clear r0 hM2 hM1 hM
  have ba := below_alloc (w := w3) (.cells #[] 34)
  have r4 := r3.later ba
  have hM4 := hM3.on ba
  have og : (w3.alloc (.cells #[] 34)).ownsRow w3.heap.size 34 7 (.slice (some ⟨w3.heap.size, 0, none⟩) 0 0) ([] : List (Tok × Value)).length (nvCells []) := World.ownsRow_lit w3 #[] 0 (Nat.le_refl _) (by simp [maxLen]) rfl
  have B4 : Below w1.heap.size w1 (w3.alloc (.cells #[] 34)) := (b2.trans (b3.mono b2.size)).trans (ba.mono (Nat.le_trans b2.size b3.size))
  have g0 : Got (w3.alloc (.cells #[] 34)) w1.heap.size b sc w3.heap.size rs0 (.slice (some ⟨w3.heap.size, 0, none⟩) 0 0) [] := ⟨_, _, [], fun _ => False, r4, ⟨og, ⟨rfl, fun i h => absurd h (Nat.not_lt_zero _)⟩, fun g _ c => c⟩, fun g hg => by injection hg with hg; simp only at hg; subst hg; exact ⟨fun c => by have := (r3.xb.1 _ c).2; omega, fun c => c⟩, fun g c => c.elim⟩
  have hs13 : w1.heap.size ≤ w3.heap.size := Nat.le_trans b2.size b3.size
  have hs4 : w3.heap.size ≤ (w3.alloc (.cells #[] 34)).heap.size := ba.size
  clear ba r3 r4 og hM3 b2 b3
  go_wp2_with fail
  have HG0 := hideT g0
  clear g0
  go_loopw [9, 10, 11, 12] (fun got er rest i wr => ∃ (k fr : Nat) (y : ByteArray) (N : List Nd) (la : Int) (rs : RS), k ≤ lc ∧ i = .int .i64 k ∧ fr ≤ s.size ∧ rest = .string y ∧ y.data.toList = bs.drop fr ∧ er = .int .i64 la ∧ feedF rs0 (bs.take fr) = (N, la, rs) ∧ Got wr w1.heap.size b sc w3.heap.size rs got N ∧ Below w1.heap.size w1 wr ∧ MaxL wr ∧ w3.heap.size ≤ wr.heap.size) (fun _ _ _ i _ => lc - (intOf i).toNat)
  case atStart => exact ⟨0, 0, s, [], 0, rs0, Nat.zero_le _, rfl, Nat.zero_le _, rfl, by rw [HBS.out, List.drop_zero], rfl, rfl, HG0.out, B4, hM4, hs4⟩
  case round =>
    clear HG0 B4 hM4 hs4
    obtain ⟨k, fr, y, N, la, rs, hk, rfl, hfr, rfl, hy, rfl, hfe, hgot, hB, hM2, hsw⟩ := hrel
    have HF := hideT hfe
    clear hfe
    have hyz : y.size = s.size - fr := by have h := congrArg List.length hy; rw [Array.length_toList, List.length_drop, hbl] at h; exact h
    by_cases hkl : k < lc
    · have hki : (k : Int) < (lc : Int) := by omega
      obtain ⟨bq, off, hac, hcell⟩ := hI (by omega)
      obtain ⟨hc1, hc2⟩ := hcell k hkl
      have hcz := below_at (b1.trans (hB.mono b1.size)) (World.block_lt_of_cell? w _ hc1) hc1
      subst hac
      obtain ⟨z, hz⟩ : ∃ z, gc k = z := ⟨_, rfl⟩
      rw [hz] at hcz hc2
      clear hz hcell hc1
      have HY := hideT (And.intro hy hyz)
      clear hy
      by_cases hz1 : (y.size : Int) < (z : Int)
      · skip
        have hsl : ∀ wx : World, (Instr.slice 9 (.string y) none (some (.int .i64 (y.size : Nat))) none).run Tryd.prog wx = .ok (.string (y.extract 0 y.size)) wx := fun wx => by
          have hh := run_slice_string_h (P := Tryd.prog) (t := 9) (s := y) (w := wx) Tryd.underlying9 .i64 (y.size : Nat) (by omega) (by omega)
          rw [Int.toNat_natCast] at hh; exact hh
        have hsr : ∀ wx : World, (Instr.slice 9 (.string y) (some (.int .i64 (y.size : Nat))) none none).run Tryd.prog wx = .ok (.string (y.extract y.size y.size)) wx := fun wx => by
          have hh := run_slice_string_l (P := Tryd.prog) (t := 9) (s := y) (w := wx) Tryd.underlying9 .i64 (y.size : Nat) (by omega) (by omega)
          rw [Int.toNat_natCast] at hh; exact hh
        obtain ⟨X, P, K, Q, rI, tl, hv, hq⟩ := hgot
        have hpb : (y).data.toList = (bs.drop fr).take y.size := by rw [HY.out.1, List.take_of_length_le (by have h1 := List.length_drop (i := fr) (l := bs); omega)]
        have hta : bs.take (fr + y.size) = bs.take fr ++ (bs.drop fr).take y.size := List.take_add
        have hfo := feedF_app rs0 (bs.take fr) ((bs.drop fr).take y.size) rs0_over
        rw [← hta, HF.out] at hfo
        simp only at hfo
        have hst : la ≠ 0 → (feedF rs ((bs.drop fr).take y.size)).1 = [] ∧ (feedF rs ((bs.drop fr).take y.size)).2.1 = la := fun c => by have h := feedF_still (S := bs.take fr) (y := (bs.drop fr).take y.size) (by rw [HF.out]; exact c); rw [HF.out] at h; exact h
        have hcz : (y).size = y.size := rfl
        have GF := hideT (feedR rI (y) hM2 (fun o p e => by have h5 := rs_rd (S := bs.take fr) (o := o) (p := p) (by rw [HF.out]; exact e); rw [h5, List.length_take]; first | omega | (rw [hcz]; omega)))
        rw [hpb] at GF
        have hNl := feedF_few rs ((bs.drop fr).take y.size)
        rw [List.length_take] at hNl
        have hN0 := feedF_few rs0 (bs.take fr)
        rw [HF.out, List.length_take] at hN0
        simp only at hN0
        rcases hfq : feedF rs ((bs.drop fr).take y.size) with ⟨N2, e2, rs2⟩
        rw [hfq] at GF hfo hst hNl
        simp only at GF hfo hst hNl
        have HFO := hideT hfo
        have HST := hideT hst
        have hN2 : N.length + N2.length ≤ 2000000000 := by omega
        have hfz : fr + y.size ≤ s.size := by omega
        clear hfq hfo hst hNl hN0 hta hpb hcz hyz
        have HT := hideT (And.intro tl (And.intro hv hq))
        clear tl hv hq
        go_wp2_with fail
        refine GF.out.mono ?_
        rintro e w4 ⟨v2, rfl, fd, ch⟩
        clear GF
        obtain ⟨tl, hv, hq⟩ := HT.out
        obtain ⟨K2, o1, o2, sl2, l1, l2, hgo⟩ := got_fed tl hv hq fd ch
        obtain ⟨a2, c2, ev2⟩ := own_sl o2
        rw [l2] at ev2
        have HGO := hideT (And.intro o1 (And.intro o2 (And.intro sl2 hgo)))
        have hkl : K.length + K2.length ≤ 100000000000 := by omega
        clear fd hgo sl2 l1 l2
        have hw1 := hB.size
        have hM5 := ch.maxL hM2 hmx1
        have hB5 := hB.trans (ch.below hw1 (Nat.le_refl _))
        have hs5 := ch.size
        clear ch tl hv hq rI o1 o2
        have HHT := hideT HT.out
        clear HT
        subst ev2
        by_cases hla : la = 0
        · have xl : (la != 0) = false := by rw [hla]; rfl
          have HLA := hideT hla
          clear hla
          go_wp2_with (at_builtin; refine wpList_app_nodes (by rfl) _ _ (by rfl) w3.heap.size w1.heap.size _ _ K K2 (by rfl) HGO.out.1 (by rfl) HGO.out.2.1 HGO.out.2.2.1 hkl (by omega) ?_)
          intro v5 w5 o5 gr5 at5
          have hgot := HGO.out.2.2.2 v5 w5 (by first | exact o5 | (rw [List.length_append]; exact o5)) gr5 at5
          have kg := Kp.grown gr5 (X := fun i => w3.heap.size ≤ i) (fun i e => (own_lt HGO.out.1 e).1)
          have hB := hB5.trans (kg.below (B := w1.heap.size) (by omega) (fun g hg c => by omega))
          have hM2 := kg.maxL (show ¬ w3.heap.size ≤ mxB by omega) hM5
          have hs6 := kg.size
          clear o5 gr5 at5 kg HGO hM5 hB5 hkl
          go_wp2
          go_roundw
          case rel => exact ⟨k + 1, fr + y.size, _, N ++ N2, e2, rs2, by omega, by go_num, by omega, rfl, by first | rw [ext_list, HY.out.1, List.take_of_length_le (by rw [List.length_drop, hbl]; have := HY.out.2; omega), List.drop_drop] | (rw [List.drop_of_length_le (by rw [hbl]; have := HY.out.2; omega)]; rfl), rfl, HFO.out, hgot, hB, hM2, by omega⟩
          case measure => simp [intOf]; omega
        · have xl : (la != 0) = true := by rw [bne_iff_ne]; exact hla
          obtain ⟨hn2, he2⟩ := HST.out hla
          have xz : ¬ (0 < N2.length) := by rw [hn2]; simp
          have xe : (e2 != la) = false := by rw [he2]; simp
          clear hla hn2 he2
          go_wp2_with (at_builtin; refine wpList_app_nodes (by rfl) _ _ (by rfl) w3.heap.size w1.heap.size _ _ K K2 (by rfl) HGO.out.1 (by rfl) HGO.out.2.1 HGO.out.2.2.1 hkl (by omega) ?_)
          intro v5 w5 o5 gr5 at5
          have hgot := HGO.out.2.2.2 v5 w5 (by first | exact o5 | (rw [List.length_append]; exact o5)) gr5 at5
          have kg := Kp.grown gr5 (X := fun i => w3.heap.size ≤ i) (fun i e => (own_lt HGO.out.1 e).1)
          have hB := hB5.trans (kg.below (B := w1.heap.size) (by omega) (fun g hg c => by omega))
          have hM2 := kg.maxL (show ¬ w3.heap.size ≤ mxB by omega) hM5
          have hs6 := kg.size
          clear o5 gr5 at5 kg HGO hM5 hB5 hkl
          go_wp2
          go_roundw
          case rel => exact ⟨k + 1, fr + y.size, _, N ++ N2, e2, rs2, by omega, by go_num, by omega, rfl, by first | rw [ext_list, HY.out.1, List.take_of_length_le (by rw [List.length_drop, hbl]; have := HY.out.2; omega), List.drop_drop] | (rw [List.drop_of_length_le (by rw [hbl]; have := HY.out.2; omega)]; rfl), rfl, HFO.out, hgot, hB, hM2, by omega⟩
          case measure => simp [intOf]; omega
      · skip
        have hsl : ∀ wx : World, (Instr.slice 9 (.string y) none (some (.int .i64 (z : Nat))) none).run Tryd.prog wx = .ok (.string (y.extract 0 z)) wx := fun wx => by
          have hh := run_slice_string_h (P := Tryd.prog) (t := 9) (s := y) (w := wx) Tryd.underlying9 .i64 (z : Nat) (by omega) (by omega)
          rw [Int.toNat_natCast] at hh; exact hh
        have hsr : ∀ wx : World, (Instr.slice 9 (.string y) (some (.int .i64 (z : Nat))) none none).run Tryd.prog wx = .ok (.string (y.extract z y.size)) wx := fun wx => by
          have hh := run_slice_string_l (P := Tryd.prog) (t := 9) (s := y) (w := wx) Tryd.underlying9 .i64 (z : Nat) (by omega) (by omega)
          rw [Int.toNat_natCast] at hh; exact hh
        obtain ⟨X, P, K, Q, rI, tl, hv, hq⟩ := hgot
        have hpb : (y.extract 0 z).data.toList = (bs.drop fr).take z := by rw [ext_list, HY.out.1, List.drop_zero]
        have hta : bs.take (fr + z) = bs.take fr ++ (bs.drop fr).take z := List.take_add
        have hfo := feedF_app rs0 (bs.take fr) ((bs.drop fr).take z) rs0_over
        rw [← hta, HF.out] at hfo
        simp only at hfo
        have hst : la ≠ 0 → (feedF rs ((bs.drop fr).take z)).1 = [] ∧ (feedF rs ((bs.drop fr).take z)).2.1 = la := fun c => by have h := feedF_still (S := bs.take fr) (y := (bs.drop fr).take z) (by rw [HF.out]; exact c); rw [HF.out] at h; exact h
        have hcz : (y.extract 0 z).size = z := by have h := congrArg List.length hpb; rw [Array.length_toList, List.length_take, List.length_drop, hbl] at h; exact h.trans (by omega)
        have GF := hideT (feedR rI (y.extract 0 z) hM2 (fun o p e => by have h5 := rs_rd (S := bs.take fr) (o := o) (p := p) (by rw [HF.out]; exact e); rw [h5, List.length_take]; first | omega | (rw [hcz]; omega)))
        rw [hpb] at GF
        have hNl := feedF_few rs ((bs.drop fr).take z)
        rw [List.length_take] at hNl
        have hN0 := feedF_few rs0 (bs.take fr)
        rw [HF.out, List.length_take] at hN0
        simp only at hN0
        rcases hfq : feedF rs ((bs.drop fr).take z) with ⟨N2, e2, rs2⟩
        rw [hfq] at GF hfo hst hNl
        simp only at GF hfo hst hNl
        have HFO := hideT hfo
        have HST := hideT hst
        have hN2 : N.length + N2.length ≤ 2000000000 := by omega
        have hfz : fr + z ≤ s.size := by omega
        clear hfq hfo hst hNl hN0 hta hpb hcz hyz
        have HT := hideT (And.intro tl (And.intro hv hq))
        clear tl hv hq
        go_wp2_with fail
        refine GF.out.mono ?_
        rintro e w4 ⟨v2, rfl, fd, ch⟩
        clear GF
        obtain ⟨tl, hv, hq⟩ := HT.out
        obtain ⟨K2, o1, o2, sl2, l1, l2, hgo⟩ := got_fed tl hv hq fd ch
        obtain ⟨a2, c2, ev2⟩ := own_sl o2
        rw [l2] at ev2
        have HGO := hideT (And.intro o1 (And.intro o2 (And.intro sl2 hgo)))
        have hkl : K.length + K2.length ≤ 100000000000 := by omega
        clear fd hgo sl2 l1 l2
        have hw1 := hB.size
        have hM5 := ch.maxL hM2 hmx1
        have hB5 := hB.trans (ch.below hw1 (Nat.le_refl _))
        have hs5 := ch.size
        clear ch tl hv hq rI o1 o2
        have HHT := hideT HT.out
        clear HT
        subst ev2
        by_cases hla : la = 0
        · have xl : (la != 0) = false := by rw [hla]; rfl
          have HLA := hideT hla
          clear hla
          go_wp2_with (at_builtin; refine wpList_app_nodes (by rfl) _ _ (by rfl) w3.heap.size w1.heap.size _ _ K K2 (by rfl) HGO.out.1 (by rfl) HGO.out.2.1 HGO.out.2.2.1 hkl (by omega) ?_)
          intro v5 w5 o5 gr5 at5
          have hgot := HGO.out.2.2.2 v5 w5 (by first | exact o5 | (rw [List.length_append]; exact o5)) gr5 at5
          have kg := Kp.grown gr5 (X := fun i => w3.heap.size ≤ i) (fun i e => (own_lt HGO.out.1 e).1)
          have hB := hB5.trans (kg.below (B := w1.heap.size) (by omega) (fun g hg c => by omega))
          have hM2 := kg.maxL (show ¬ w3.heap.size ≤ mxB by omega) hM5
          have hs6 := kg.size
          clear o5 gr5 at5 kg HGO hM5 hB5 hkl
          go_wp2
          go_roundw
          case rel => exact ⟨k + 1, fr + z, _, N ++ N2, e2, rs2, by omega, by go_num, by omega, rfl, by first | rw [ext_list, HY.out.1, List.take_of_length_le (by rw [List.length_drop, hbl]; have := HY.out.2; omega), List.drop_drop] | (rw [List.drop_of_length_le (by rw [hbl]; have := HY.out.2; omega)]; rfl), rfl, HFO.out, hgot, hB, hM2, by omega⟩
          case measure => simp [intOf]; omega
        · have xl : (la != 0) = true := by rw [bne_iff_ne]; exact hla
          obtain ⟨hn2, he2⟩ := HST.out hla
          have xz : ¬ (0 < N2.length) := by rw [hn2]; simp
          have xe : (e2 != la) = false := by rw [he2]; simp
          clear hla hn2 he2
          go_wp2_with (at_builtin; refine wpList_app_nodes (by rfl) _ _ (by rfl) w3.heap.size w1.heap.size _ _ K K2 (by rfl) HGO.out.1 (by rfl) HGO.out.2.1 HGO.out.2.2.1 hkl (by omega) ?_)
          intro v5 w5 o5 gr5 at5
          have hgot := HGO.out.2.2.2 v5 w5 (by first | exact o5 | (rw [List.length_append]; exact o5)) gr5 at5
          have kg := Kp.grown gr5 (X := fun i => w3.heap.size ≤ i) (fun i e => (own_lt HGO.out.1 e).1)
          have hB := hB5.trans (kg.below (B := w1.heap.size) (by omega) (fun g hg c => by omega))
          have hM2 := kg.maxL (show ¬ w3.heap.size ≤ mxB by omega) hM5
          have hs6 := kg.size
          clear o5 gr5 at5 kg HGO hM5 hB5 hkl
          go_wp2
          go_roundw
          case rel => exact ⟨k + 1, fr + z, _, N ++ N2, e2, rs2, by omega, by go_num, by omega, rfl, by first | rw [ext_list, HY.out.1, List.take_of_length_le (by rw [List.length_drop, hbl]; have := HY.out.2; omega), List.drop_drop] | (rw [List.drop_of_length_le (by rw [hbl]; have := HY.out.2; omega)]; rfl), rfl, HFO.out, hgot, hB, hM2, by omega⟩
          case measure => simp [intOf]; omega
    · have hki : ¬ (k : Int) < (lc : Int) := by omega
      have HY := hideT (And.intro hy hyz)
      clear hy
      obtain ⟨X, P, K, Q, rI, tl, hv, hq⟩ := hgot
      have hpb : (y).data.toList = (bs.drop fr).take y.size := by rw [HY.out.1, List.take_of_length_le (by have h1 := List.length_drop (i := fr) (l := bs); omega)]
      have hta : bs.take (fr + y.size) = bs.take fr ++ (bs.drop fr).take y.size := List.take_add
      have hfo := feedF_app rs0 (bs.take fr) ((bs.drop fr).take y.size) rs0_over
      rw [← hta, HF.out] at hfo
      simp only at hfo
      have hst : la ≠ 0 → (feedF rs ((bs.drop fr).take y.size)).1 = [] ∧ (feedF rs ((bs.drop fr).take y.size)).2.1 = la := fun c => by have h := feedF_still (S := bs.take fr) (y := (bs.drop fr).take y.size) (by rw [HF.out]; exact c); rw [HF.out] at h; exact h
      have hcz : (y).size = y.size := rfl
      have GF := hideT (feedR rI (y) hM2 (fun o p e => by have h5 := rs_rd (S := bs.take fr) (o := o) (p := p) (by rw [HF.out]; exact e); rw [h5, List.length_take]; first | omega | (rw [hcz]; omega)))
      rw [hpb] at GF
      have hNl := feedF_few rs ((bs.drop fr).take y.size)
      rw [List.length_take] at hNl
      have hN0 := feedF_few rs0 (bs.take fr)
      rw [HF.out, List.length_take] at hN0
      simp only at hN0
      rcases hfq : feedF rs ((bs.drop fr).take y.size) with ⟨N2, e2, rs2⟩
      rw [hfq] at GF hfo hst hNl
      simp only at GF hfo hst hNl
      have HFO := hideT hfo
      have HST := hideT hst
      have hN2 : N.length + N2.length ≤ 2000000000 := by omega
      have hfz : fr + y.size ≤ s.size := by omega
      clear hfq hfo hst hNl hN0 hta hpb hcz hyz
      have HT := hideT (And.intro tl (And.intro hv hq))
      clear tl hv hq
      go_wp2_with fail
      refine GF.out.mono ?_
      rintro e w4 ⟨v2, rfl, fd, ch⟩
      clear GF
      obtain ⟨tl, hv, hq⟩ := HT.out
      obtain ⟨K2, o1, o2, sl2, l1, l2, hgo⟩ := got_fed tl hv hq fd ch
      obtain ⟨a2, c2, ev2⟩ := own_sl o2
      rw [l2] at ev2
      have HGO := hideT (And.intro o1 (And.intro o2 (And.intro sl2 hgo)))
      have hkl : K.length + K2.length ≤ 100000000000 := by omega
      clear fd hgo sl2 l1 l2
      have hw1 := hB.size
      have hM5 := ch.maxL hM2 hmx1
      have hB5 := hB.trans (ch.below hw1 (Nat.le_refl _))
      have hs5 := ch.size
      clear ch tl hv hq rI o1 o2
      have HHT := hideT HT.out
      clear HT
      subst ev2
      have hall : bs.take (fr + y.size) = bs := List.take_of_length_le (by have := HY.out.2; omega)
      have hff := HFO.out
      rw [hall] at hff
      have HALL := hideT hff
      clear hall hff HFO
      by_cases hla : la = 0
      · have xl : (la != 0) = false := by rw [hla]; rfl
        have HLA := hideT hla
        clear hla
        go_wp2_with (at_builtin; refine wpList_app_nodes (by rfl) _ _ (by rfl) w3.heap.size w1.heap.size _ _ K K2 (by rfl) HGO.out.1 (by rfl) HGO.out.2.1 HGO.out.2.2.1 hkl (by omega) ?_)
        intro v5 w5 o5 gr5 at5
        have hgot := HGO.out.2.2.2 v5 w5 (by first | exact o5 | (rw [List.length_append]; exact o5)) gr5 at5
        have kg := Kp.grown gr5 (X := fun i => w3.heap.size ≤ i) (fun i e => (own_lt HGO.out.1 e).1)
        have hB := hB5.trans (kg.below (B := w1.heap.size) (by omega) (fun g hg c => by omega))
        have hM2 := kg.maxL (show ¬ w3.heap.size ≤ mxB by omega) hM5
        have hs6 := kg.size
        clear o5 gr5 at5 kg HGO hM5 hB5 hkl
        obtain ⟨X, P, K, Q, rI, tl, hv, hq⟩ := hgot
        have HT := hideT (And.intro tl (And.intro hv hq))
        clear tl hv hq
        have GE := hideT (endR rI hM2 (fun o p e => by have h5 := rs_rd (S := bs) (o := o) (p := p) (by rw [HALL.out]; exact e); rw [h5]; omega))
        have hes : e2 ≠ 0 → (endF rs2).1 = [] ∧ (endF rs2).2.1 = e2 := fun c => by have h := endF_still (S := bs) (by rw [HALL.out]; exact c); rw [HALL.out] at h; exact h
        have hRG : readG bs = (N ++ N2 ++ (endF rs2).1, (endF rs2).2.1, (endF rs2).2.2.1) := by unfold readG; rw [HALL.out]
        have hNe := endF_few rs2
        rcases hen : endF rs2 with ⟨N3, e3, p3, rs3⟩
        rw [hen] at GE hes hRG hNe
        simp only at GE hes hRG hNe
        have erf : rf = e3 := by rw [← HRF.out.1, hRG]
        have erp : rp = p3 := by rw [← HRF.out.2, hRG]
        subst erf
        subst erp
        have HRG := hideT hRG
        have HES := hideT hes
        have hNb : (N ++ N2).length + N3.length ≤ 3000000000 := by rw [List.length_append]; omega
        clear hRG hes hen hNe
        go_wp2_with fail
        refine GE.out.mono ?_
        rintro e w6 ⟨v3, rfl, fd, ch⟩
        clear GE
        skip
        obtain ⟨tl, hv, hq⟩ := HT.out
        obtain ⟨K3, o1, o2, sl2, l3, l4, hgo⟩ := got_fed tl hv hq fd ch
        obtain ⟨a3, c3, ev3⟩ := own_sl o2
        rw [l4] at ev3
        have HGO := hideT (And.intro o1 (And.intro o2 (And.intro sl2 hgo)))
        have hkl : K.length + K3.length ≤ 100000000000 := by omega
        clear fd hgo sl2 l3 l4
        have hw1 := hB.size
        have hM5 := ch.maxL hM2 hmx1
        have hB5 := hB.trans (ch.below hw1 (Nat.le_refl _))
        have hs5 := ch.size
        clear ch tl hv hq rI o1 o2
        clear HT
        subst ev3
        by_cases hle : e2 = 0
        · have xm : (e2 != 0) = false := by rw [hle]; rfl
          clear hle
          go_wp2_with (at_builtin; refine wpList_app_nodes (by rfl) _ _ (by rfl) w3.heap.size w1.heap.size _ _ K K3 (by rfl) HGO.out.1 (by rfl) HGO.out.2.1 HGO.out.2.2.1 hkl (by omega) ?_)
          intro v7 w7 o7 gr7 at7
          have hgot := HGO.out.2.2.2 v7 w7 (by first | exact o7 | (rw [List.length_append]; exact o7)) gr7 at7
          have kg := Kp.grown gr7 (X := fun i => w3.heap.size ≤ i) (fun i e => (own_lt HGO.out.1 e).1)
          have hB7 := hB5.trans (kg.below (B := w1.heap.size) (by omega) (fun g hg c => by omega))
          clear o7 gr7 at7 kg HGO hM5 hB5 hkl
          obtain ⟨P7, nd7⟩ := hgot.nd (by rw [List.length_append]; omega)
          have nd8 := nd1.on hB7
          have eN : N ++ N2 ++ N3 = (readG bs).1 := by rw [HRG.out]
          rw [eN] at nd7
          have GK := hideT (alikeL nd7 nd8)
          obtain ⟨a7, c7, ev7⟩ := nd7.sl
          subst ev7
          clear eN hgot nd7 nd8
          go_wp2_with fail
          refine GK.out.mono ?_
          rintro e w8 ⟨rfl, b8⟩
          go_wp2
          go_ret
          exact ⟨rfl, (b1.trans (hB7.mono b1.size)).trans (b8.mono (Nat.le_trans b1.size hB7.size))⟩
        · have xm : (e2 != 0) = true := by rw [bne_iff_ne]; exact hle
          obtain ⟨hn3, he3⟩ := HES.out hle
          have xz3 : ¬ (0 < N3.length) := by rw [hn3]; simp
          have xe3 : (rf != e2) = false := by rw [he3]; simp
          clear hle hn3 he3
          go_wp2_with (at_builtin; refine wpList_app_nodes (by rfl) _ _ (by rfl) w3.heap.size w1.heap.size _ _ K K3 (by rfl) HGO.out.1 (by rfl) HGO.out.2.1 HGO.out.2.2.1 hkl (by omega) ?_)
          intro v7 w7 o7 gr7 at7
          have hgot := HGO.out.2.2.2 v7 w7 (by first | exact o7 | (rw [List.length_append]; exact o7)) gr7 at7
          have kg := Kp.grown gr7 (X := fun i => w3.heap.size ≤ i) (fun i e => (own_lt HGO.out.1 e).1)
          have hB7 := hB5.trans (kg.below (B := w1.heap.size) (by omega) (fun g hg c => by omega))
          clear o7 gr7 at7 kg HGO hM5 hB5 hkl
          obtain ⟨P7, nd7⟩ := hgot.nd (by rw [List.length_append]; omega)
          have nd8 := nd1.on hB7
          have eN : N ++ N2 ++ N3 = (readG bs).1 := by rw [HRG.out]
          rw [eN] at nd7
          have GK := hideT (alikeL nd7 nd8)
          obtain ⟨a7, c7, ev7⟩ := nd7.sl
          subst ev7
          clear eN hgot nd7 nd8
          go_wp2_with fail
          refine GK.out.mono ?_
          rintro e w8 ⟨rfl, b8⟩
          go_wp2
          go_ret
          exact ⟨rfl, (b1.trans (hB7.mono b1.size)).trans (b8.mono (Nat.le_trans b1.size hB7.size))⟩
      · have xl : (la != 0) = true := by rw [bne_iff_ne]; exact hla
        obtain ⟨hn2, he2⟩ := HST.out hla
        have xz : ¬ (0 < N2.length) := by rw [hn2]; simp
        have xe : (e2 != la) = false := by rw [he2]; simp
        clear hla hn2 he2
        go_wp2_with (at_builtin; refine wpList_app_nodes (by rfl) _ _ (by rfl) w3.heap.size w1.heap.size _ _ K K2 (by rfl) HGO.out.1 (by rfl) HGO.out.2.1 HGO.out.2.2.1 hkl (by omega) ?_)
        intro v5 w5 o5 gr5 at5
        have hgot := HGO.out.2.2.2 v5 w5 (by first | exact o5 | (rw [List.length_append]; exact o5)) gr5 at5
        have kg := Kp.grown gr5 (X := fun i => w3.heap.size ≤ i) (fun i e => (own_lt HGO.out.1 e).1)
        have hB := hB5.trans (kg.below (B := w1.heap.size) (by omega) (fun g hg c => by omega))
        have hM2 := kg.maxL (show ¬ w3.heap.size ≤ mxB by omega) hM5
        have hs6 := kg.size
        clear o5 gr5 at5 kg HGO hM5 hB5 hkl
        obtain ⟨X, P, K, Q, rI, tl, hv, hq⟩ := hgot
        have HT := hideT (And.intro tl (And.intro hv hq))
        clear tl hv hq
        have GE := hideT (endR rI hM2 (fun o p e => by have h5 := rs_rd (S := bs) (o := o) (p := p) (by rw [HALL.out]; exact e); rw [h5]; omega))
        have hes : e2 ≠ 0 → (endF rs2).1 = [] ∧ (endF rs2).2.1 = e2 := fun c => by have h := endF_still (S := bs) (by rw [HALL.out]; exact c); rw [HALL.out] at h; exact h
        have hRG : readG bs = (N ++ N2 ++ (endF rs2).1, (endF rs2).2.1, (endF rs2).2.2.1) := by unfold readG; rw [HALL.out]
        have hNe := endF_few rs2
        rcases hen : endF rs2 with ⟨N3, e3, p3, rs3⟩
        rw [hen] at GE hes hRG hNe
        simp only at GE hes hRG hNe
        have erf : rf = e3 := by rw [← HRF.out.1, hRG]
        have erp : rp = p3 := by rw [← HRF.out.2, hRG]
        subst erf
        subst erp
        have HRG := hideT hRG
        have HES := hideT hes
        have hNb : (N ++ N2).length + N3.length ≤ 3000000000 := by rw [List.length_append]; omega
        clear hRG hes hen hNe
        go_wp2_with fail
        refine GE.out.mono ?_
        rintro e w6 ⟨v3, rfl, fd, ch⟩
        clear GE
        skip
        obtain ⟨tl, hv, hq⟩ := HT.out
        obtain ⟨K3, o1, o2, sl2, l3, l4, hgo⟩ := got_fed tl hv hq fd ch
        obtain ⟨a3, c3, ev3⟩ := own_sl o2
        rw [l4] at ev3
        have HGO := hideT (And.intro o1 (And.intro o2 (And.intro sl2 hgo)))
        have hkl : K.length + K3.length ≤ 100000000000 := by omega
        clear fd hgo sl2 l3 l4
        have hw1 := hB.size
        have hM5 := ch.maxL hM2 hmx1
        have hB5 := hB.trans (ch.below hw1 (Nat.le_refl _))
        have hs5 := ch.size
        clear ch tl hv hq rI o1 o2
        clear HT
        subst ev3
        by_cases hle : e2 = 0
        · have xm : (e2 != 0) = false := by rw [hle]; rfl
          clear hle
          go_wp2_with (at_builtin; refine wpList_app_nodes (by rfl) _ _ (by rfl) w3.heap.size w1.heap.size _ _ K K3 (by rfl) HGO.out.1 (by rfl) HGO.out.2.1 HGO.out.2.2.1 hkl (by omega) ?_)
          intro v7 w7 o7 gr7 at7
          have hgot := HGO.out.2.2.2 v7 w7 (by first | exact o7 | (rw [List.length_append]; exact o7)) gr7 at7
          have kg := Kp.grown gr7 (X := fun i => w3.heap.size ≤ i) (fun i e => (own_lt HGO.out.1 e).1)
          have hB7 := hB5.trans (kg.below (B := w1.heap.size) (by omega) (fun g hg c => by omega))
          clear o7 gr7 at7 kg HGO hM5 hB5 hkl
          obtain ⟨P7, nd7⟩ := hgot.nd (by rw [List.length_append]; omega)
          have nd8 := nd1.on hB7
          have eN : N ++ N2 ++ N3 = (readG bs).1 := by rw [HRG.out]
          rw [eN] at nd7
          have GK := hideT (alikeL nd7 nd8)
          obtain ⟨a7, c7, ev7⟩ := nd7.sl
          subst ev7
          clear eN hgot nd7 nd8
          go_wp2_with fail
          refine GK.out.mono ?_
          rintro e w8 ⟨rfl, b8⟩
          go_wp2
          go_ret
          exact ⟨rfl, (b1.trans (hB7.mono b1.size)).trans (b8.mono (Nat.le_trans b1.size hB7.size))⟩
        · have xm : (e2 != 0) = true := by rw [bne_iff_ne]; exact hle
          obtain ⟨hn3, he3⟩ := HES.out hle
          have xz3 : ¬ (0 < N3.length) := by rw [hn3]; simp
          have xe3 : (rf != e2) = false := by rw [he3]; simp
          clear hle hn3 he3
          go_wp2_with (at_builtin; refine wpList_app_nodes (by rfl) _ _ (by rfl) w3.heap.size w1.heap.size _ _ K K3 (by rfl) HGO.out.1 (by rfl) HGO.out.2.1 HGO.out.2.2.1 hkl (by omega) ?_)
          intro v7 w7 o7 gr7 at7
          have hgot := HGO.out.2.2.2 v7 w7 (by first | exact o7 | (rw [List.length_append]; exact o7)) gr7 at7
          have kg := Kp.grown gr7 (X := fun i => w3.heap.size ≤ i) (fun i e => (own_lt HGO.out.1 e).1)
          have hB7 := hB5.trans (kg.below (B := w1.heap.size) (by omega) (fun g hg c => by omega))
          clear o7 gr7 at7 kg HGO hM5 hB5 hkl
          obtain ⟨P7, nd7⟩ := hgot.nd (by rw [List.length_append]; omega)
          have nd8 := nd1.on hB7
          have eN : N ++ N2 ++ N3 = (readG bs).1 := by rw [HRG.out]
          rw [eN] at nd7
          have GK := hideT (alikeL nd7 nd8)
          obtain ⟨a7, c7, ev7⟩ := nd7.sl
          subst ev7
          clear eN hgot nd7 nd8
          go_wp2_with fail
          refine GK.out.mono ?_
          rintro e w8 ⟨rfl, b8⟩
          go_wp2
          go_ret
          exact ⟨rfl, (b1.trans (hB7.mono b1.size)).trans (b8.mono (Nat.le_trans b1.size hB7.size))⟩
end Go.Proofs.YtibeiggedmabkaaDoor
