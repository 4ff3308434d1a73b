/-
  TokensCuts: the walk.
-/
import Derived.Test.YtpepcjmbnfpbbaaDoorTSB
namespace Go.Proofs.YtpepcjmbnfpbbaaDoor
open Go.RowKit
set_option linter.unusedVariables false
set_option linter.unusedSimpArgs false

/-- a list of int that came in -/
def IntsC (w : World) (a : Option Addr) (len : Nat) (g : Nat → Int) : Prop := 0 < len → ∃ b off, a = some ⟨b, off, none⟩ ∧ ∀ i, i < len → w.cell? ⟨b, off + i, none⟩ = some (.int .i64 (g i))
theorem IntsC.on {w w' : World} {a : Option Addr} {len : Nat} {g : Nat → Int} (h : IntsC w a len g) (hb : Below w.heap.size w w') : IntsC w' a len g := fun hl => by
  obtain ⟨b, off, e, hc⟩ := h hl
  exact ⟨b, off, e, fun i hi => below_cell hb (hc i hi)⟩
theorem charP_ts (p : PS) (r : Nat) (us : List UInt8) : (charP p r us).1.length ≤ 2 := by
  have := told_len p r
  unfold charP
  repeat' split
  all_goals simp only [List.length_append, List.length_cons, List.length_nil]
  all_goals omega
theorem feed_len (p : PS) (bs : List UInt8) : (feedP p bs).1.length ≤ bs.length * 2 := by
  induction bs generalizing p with
  | nil => simp [feedP]
  | cons u us ih =>
    have h1 := charP_ts p u.toNat [u]
    simp only [feedP]
    rcases hc : charP p u.toNat [u] with ⟨t1, o1⟩
    rw [hc] at h1
    cases o1 with
    | bad B L C => simp only [List.length_cons] at h1 ⊢; omega
    | ok q =>
      have := ih q
      simp only [List.length_append, List.length_cons] at h1 ⊢
      omega
theorem take_drop {bs : List UInt8} {a c : Nat} (h : a ≤ c) : bs.take c = bs.take a ++ (bs.take c).drop a := by
  have e : (bs.take c).take a = bs.take a := by rw [List.take_take]; congr 1; omega
  rw [← e, List.take_append_drop]
/-- the scanner, where nothing was wrong -/
def CutS (w : World) (b : Nat) (last : Int) : Out → Prop
  | .ok q => last = 0 ∧ ∃ S, ScAt w (b + 1) b S ∧ RelS S q ∧ Inv q
  | .bad _ _ _ => last = 120
set_option maxHeartbeats 8000000 in
set_option maxRecDepth 100000 in
theorem cuts_walk (s : ByteArray) (ac : Option Addr) (lc cc : Nat) (gc : Nat → Int) (w : World) (hsz : s.size ≤ 4294967280) (hlc : lc ≤ 4294967280) (hI : IntsC w ac lc gc) (hM : MaxL w) (hmx : mxB < w.heap.size) : Calls Tryd.prog 3 #[.string s, .slice ac lc cc] w fun e w' => e = .returned (.bool true) ∧ Below w.heap.size w w' := by
  obtain ⟨bs, hbs⟩ : ∃ bs, s.data.toList = bs := ⟨_, rfl⟩
  have hbl : bs.length = s.size := by rw [← hbs, Array.length_toList]; rfl
  have GA := hideT (all_is s w hsz hM hmx)
  rw [hbs] at GA
  have HBS := hideT hbs
  clear hbs
  go_enter Tryd.func3, Tryd.ntmps3
  go_wp2_with fail
  refine GA.out.mono ?_
  rintro e w1 ⟨v1, z2, z3, z4, z5, rfl, own1, b1, _⟩
  clear GA
  have ba := below_alloc (w := w1) (.cells #[.int .i64 0, .string ⟨#[]⟩, .int .i64 z2, .int .i64 z3, .int .i64 z4, .int .i64 z5] 26)
  have bn := below_alloc (w := w1.alloc (.cells #[.int .i64 0, .string ⟨#[]⟩, .int .i64 z2, .int .i64 z3, .int .i64 z4, .int .i64 z5] 26)) (.cells #[.int .i64 3, .slice none 0 0, .int .i64 0, .string ⟨#[]⟩, .int .i64 0, .int .i64 0, .int .i64 0, .int .i64 0, .int .i64 0, .int .i64 0, .int .i64 0, .int .i64 0] 41)
  have qn := Blk.new (w1.alloc (.cells #[.int .i64 0, .string ⟨#[]⟩, .int .i64 z2, .int .i64 z3, .int .i64 z4, .int .i64 z5] 26)) #[.int .i64 3, .slice none 0 0, .int .i64 0, .string ⟨#[]⟩, .int .i64 0, .int .i64 0, .int .i64 0, .int .i64 0, .int .i64 0, .int .i64 0, .int .i64 0, .int .i64 0] 41
  have en : ((w1.alloc (.cells #[.int .i64 0, .string ⟨#[]⟩, .int .i64 z2, .int .i64 z3, .int .i64 z4, .int .i64 z5] 26)).alloc (.cells #[.int .i64 3, .slice none 0 0, .int .i64 0, .string ⟨#[]⟩, .int .i64 0, .int .i64 0, .int .i64 0, .int .i64 0, .int .i64 0, .int .i64 0, .int .i64 0, .int .i64 0] 41)).heap.size = w1.heap.size + 2 := by simp
  have ea : (w1.alloc (.cells #[.int .i64 0, .string ⟨#[]⟩, .int .i64 z2, .int .i64 z3, .int .i64 z4, .int .i64 z5] 26)).heap.size = w1.heap.size + 1 := by simp
  rw [ea] at qn
  have bz := (b1.trans (ba.mono b1.size)).trans (bn.mono (Nat.le_trans b1.size ba.size))
  have hM1 := ((hM.on b1).on ba).on bn
  have own2 := own_kp (own_kp own1 (Kp.of (X := fun _ => False) ba) (fun _ _ c => c)) (Kp.of (X := fun _ => False) bn) (fun _ _ c => c)
  have hb1 := b1.size
  have hwant : ∀ g, v1.ownBlock = some g → g < w1.heap.size := fun g hg => (own_lt own1 hg).2
  have hnw := fun W => new_is W
  go_wp2_with fail
  refine (hnw _).mono ?_
  rintro e w2 ⟨rfl, hw⟩
  rw [← hw] at bn qn en bz hM1 own2
  try rw [ea]
  clear hw hnw bn ba b1 own1 ea hM
  obtain ⟨b, hb⟩ : ∃ b, w1.heap.size + 1 = b := ⟨_, rfl⟩
  rw [hb] at qn
  try rw [hb]
  have sc0 : ScAt w2 (b + 1) b sI := ⟨qn, by omega, by omega, World.ownsRow_nil _ _ _ _⟩
  clear qn
  have hbw : b + 1 ≤ w2.heap.size := by omega
  have hbg : w.heap.size < b := by omega
  have hwb : ∀ g, v1.ownBlock = some g → g < b := fun g hg => by have := hwant g hg; omega
  clear hwant en hb1 hb
  go_wp2_with fail
  go_loopw [9, 10, 11, 12] (fun all last frm i wr => ∃ (k fr : Nat) (T : List Tok) (o : Out) (la : Int), k ≤ lc + 1 ∧ i = .int .i64 k ∧ fr ≤ s.size ∧ frm = .int .i64 fr ∧ last = .int .i64 la ∧ feedP pI (bs.take fr) = (T, o) ∧ CutS wr b la o ∧ wr.ownsRow (b + 1) 26 6 all T.length (tokCells T) ∧ (T = [] → all = .slice none 0 0) ∧ wr.ownsRow w.heap.size 26 6 v1 (allP bs).1.length (tokCells (allP bs).1) ∧ Below w.heap.size w wr ∧ MaxL wr ∧ w2.heap.size ≤ wr.heap.size ∧ (k = lc + 1 → la = 0 → fr = s.size)) (fun _ _ _ i _ => lc + 1 - (intOf i).toNat)
  case atStart =>
    exact ⟨0, 0, [], .ok pI, 0, by omega, rfl, Nat.zero_le _, rfl, rfl, by simp [feedP], ⟨rfl, sI, sc0, RelS_I, Inv_pI⟩, World.ownsRow_nil _ _ _ _, fun _ => rfl, own2, bz, hM1, Nat.le_refl _, fun c => absurd c (by omega)⟩
  case round =>
    clear sc0 own2 bz hM1
    obtain ⟨k, fr, T, o, la, hk, rfl, hfr, rfl, rfl, hfe, hcs, own, hnl, ownw, hB, hM2, hsw, hlast⟩ := hrel
    have hTl : T.length ≤ 8589934560 := by have h1 := feed_len pI (bs.take fr); rw [hfe] at h1; simp only [List.length_take] at h1; omega
    cases o with
    | bad B L C =>
      have hla : la = 120 := hcs
      subst hla
      have ha : allP bs = (T, 120) := by unfold allP; rw [feed_all hfe]
      rw [ha] at ownw ⊢
      simp only at ownw ⊢
      clear ha hfe hcs
      by_cases hkl : k ≤ lc
      · have hki : (k : Int) ≤ (lc : Int) := by omega
        have GS := hideT (same_is (b + 1) w.heap.size _ v1 T wr own ownw (by omega))
        go_wp2_with fail
        refine GS.out.mono ?_
        rintro e wy ⟨rfl, by1⟩
        clear GS
        have hM8 := hM2.on by1
        have hB8 := hB.trans (by1.mono hB.size)
        have GW := hideT (awake_is wy hM8 (by have := hB8.size; omega))
        go_wp2_with fail
        refine GW.out.mono ?_
        rintro e wz ⟨rfl, bz1⟩
        go_wp2
        go_ret
        exact ⟨rfl, hB8.trans (bz1.mono hB8.size)⟩
      · have hki : ¬ (k : Int) ≤ (lc : Int) := by omega
        have hkd : decide ((k : Int) ≤ (lc : Int)) = false := by rw [decide_eq_false_iff_not]; exact hki
        have GS := hideT (same_is (b + 1) w.heap.size _ v1 T wr own ownw (by omega))
        go_wp2_with fail
        refine GS.out.mono ?_
        rintro e wy ⟨rfl, by1⟩
        clear GS
        have hM8 := hM2.on by1
        have hB8 := hB.trans (by1.mono hB.size)
        have GW := hideT (awake_is wy hM8 (by have := hB8.size; omega))
        go_wp2_with fail
        refine GW.out.mono ?_
        rintro e wz ⟨rfl, bz1⟩
        go_wp2
        go_ret
        exact ⟨rfl, hB8.trans (bz1.mono hB8.size)⟩
    | ok q =>
      obtain ⟨rfl, S, sc, rs, iq⟩ := hcs
      obtain ⟨f1, f2, f3, f4, f5⟩ := feed_rd (bs.take fr) Inv_pI hfe
      have hqr : q.rd = fr := by rw [f2, List.length_take, hbl]; show 0 + min fr s.size = fr; omega
      have hqb := f3 (Nat.le_refl _)
      have hql := f4 (Nat.le_refl _)
      have HFE := hideT hfe
      have HQ := hideT (And.intro hqr (And.intro hqb hql))
      clear f1 f2 f3 f4 f5 hqr hqb hql hfe
      have hcvb : ∀ g, S.cv.ownBlock = some g → b + 1 ≤ g := fun g hg => (own_lt sc.own hg).1
      by_cases hkl : k ≤ lc
      · have hki : (k : Int) ≤ (lc : Int) := by omega
        by_cases hkc : k = lc
        · subst hkc
          have hkn : ¬ ((k : Int) < (k : Int)) := by omega
          have x1 : ¬ ((s.size : Int) < (fr : Int)) := by omega
          have x2 : ¬ ((s.size : Int) < (s.size : Int)) := by omega
          have x3 : decide ((s.size : Int) < (fr : Int)) = false := by rw [decide_eq_false_iff_not]; exact x1
          have x4 : decide ((s.size : Int) < (s.size : Int)) = false := by rw [decide_eq_false_iff_not]; exact x2
          have hsl : ∀ wx : World, (Instr.slice 9 (.string s) (some (.int .i64 (fr : Nat))) (some (.int .i64 (s.size : Nat))) none).run Tryd.prog wx = .ok (.string (s.extract fr s.size)) wx := fun wx => by
            have hh := run_slice_string (P := Tryd.prog) (w := wx) 9 s .i64 .i64 (fr : Nat) (s.size : Nat) Tryd.underlying9 (by omega) (by omega) (by omega)
            rw [Int.toNat_natCast, Int.toNat_natCast] at hh; exact hh
          have hps : (s.extract fr s.size).size = s.size - fr := by simp only [ByteArray.size_extract]; omega
          have GF := hideT (feedS (b + 1) b S q (s.extract fr s.size) wr sc (by omega) rs iq (by have := HQ.out.1; omega) HQ.out.2.1 HQ.out.2.2 hM2)
          rw [ext_list, HBS.out] at GF
          have htd := take_drop (bs := bs) (a := fr) (c := s.size) (by omega)
          generalize hpd : (bs.take s.size).drop fr = pb at GF htd
          have hfo := feedP_app pI (bs.take fr) pb
          rw [← htd, HFE.out] at hfo
          simp only at hfo
          have hl2 : (feedP q pb).1.length ≤ 8589934560 := by have h1 := feed_len q pb; rw [← hpd] at h1 ⊢; simp only [List.length_drop, List.length_take] at h1; omega
          rcases hfq : feedP q pb with ⟨T2, o2⟩
          rw [hfq] at GF hfo hl2
          simp only at GF hfo hl2
          have HFO := hideT hfo
          clear hpd htd hfq hfo hps
          go_wp2_with fail
          refine GF.out.mono ?_
          rintro e w3 ⟨v2, er, rfl, ow2, kz2, hout, hnl2⟩
          clear GF
          have own3 := own_kp own kz2 (fun g hg c => by rcases c with c | c; (have := (own_lt own hg).1; omega); exact own_ne sc.own own (by decide) g c hg)
          replace ownw := own_kp ownw kz2 (fun g hg c => by rcases c with c | c; (have := hwb g hg; omega); (have := hwb g hg; have := hcvb g c; omega))
          replace hB : Below w.heap.size w w3 := hB.trans (kz2.below hB.size (fun g hg c => by rcases c with c | c; omega; have := hcvb g c; omega))
          replace hM2 := kz2.maxL (fun c => by rcases c with c | c; (have := sc.mx; omega); (have := sc.mx; have := hcvb _ c; omega)) hM2
          have hs3 := kz2.size
          have hmb := sc.mx
          clear kz2 own sc rs
          go_wp2_with (at_builtin; refine wpList_app_toks (by rfl) _ _ (by rfl) (b + 1) (wr.heap.size + 1) _ v2 T T2 (by rfl) own3 (by rfl) ow2 hnl2 (by omega) (by omega) ?_)
          intro v3 w4 own4 gr3 hv3
          have own : w4.ownsRow (b + 1) 26 6 v3 (T ++ T2).length (tokCells (T ++ T2)) := by first | exact own4 | (rw [List.length_append]; exact own4)
          have kg := Kp.grown gr3 (X := fun i => b + 1 ≤ i) (fun i e => (own_lt own3 e).1)
          have kg2 : Kp (fun i => u9.ownBlock = some i) w3 w4 := Kp.grown gr3 (fun i e => e)
          have hc4 : CutS w4 b er o2 := by
            cases o2 with
            | bad B L C => exact hout.1
            | ok q2 =>
              obtain ⟨e1, S2, sc2, rs2, iq2, _⟩ := hout
              exact ⟨e1, S2, sc2.kp kg2 (fun i hi c => by rcases hi with hi | hi; (have := (own_lt own3 c).1; omega); exact own_ne sc2.own own3 (by decide) i hi c), rs2, iq2⟩
          replace ownw := own_kp ownw kg (fun g hg c => by have := hwb g hg; omega)
          replace hB : Below w.heap.size w w4 := hB.trans (kg.below hB.size (fun g hg c => by omega))
          replace hM2 := kg.maxL (show ¬ b + 1 ≤ mxB by omega) hM2
          have hs4 := kg.size
          have hnn : T ++ T2 = [] → v3 = .slice none 0 0 := fun c => by obtain ⟨d1, d2⟩ := List.append_eq_nil_iff.1 c; first | (rw [hv3 c]; exact hnl d1) | (rw [hv3 d1 d2]; exact hnl d1)
          clear own3 own4 ow2 gr3 kg kg2 hv3 hnl2 hnl hout
          go_wp2
          go_roundw
          case rel => exact ⟨k + 1, s.size, T ++ T2, o2, er, by omega, by go_num, by omega, rfl, rfl, HFO.out, hc4, own, hnn, ownw, hB, hM2, by omega, fun c _ => rfl⟩
          case measure => first | (simp [intOf]; done) | (simp [intOf]; omega)
        · have hkn : ((k : Int) < (lc : Int)) := by omega
          obtain ⟨bq, off, hac, hcell⟩ := hI (by omega)
          have hcz := below_at hB (World.block_lt_of_cell? w _ (hcell k (by omega))) (hcell k (by omega))
          subst hac
          have HCE := hideT hcell
          clear hcell
          obtain ⟨z, hz⟩ : ∃ z, gc k = z := ⟨_, rfl⟩
          rw [hz] at hcz
          clear hz
          by_cases hz1 : z < (fr : Int)
          · skip
            go_wp2
            go_roundw
            case rel => exact ⟨k + 1, fr, T, .ok q, 0, by omega, by go_num, hfr, rfl, rfl, HFE.out, ⟨rfl, S, sc, rs, iq⟩, own, hnl, ownw, hB, hM2, hsw, fun c _ => absurd c (by omega)⟩
            case measure => simp [intOf]; omega
          · have hzd : decide (z < (fr : Int)) = false := by rw [decide_eq_false_iff_not]; exact hz1
            by_cases hz2 : (s.size : Int) < z
            · skip
              go_wp2
              go_roundw
              case rel => exact ⟨k + 1, fr, T, .ok q, 0, by omega, by go_num, hfr, rfl, rfl, HFE.out, ⟨rfl, S, sc, rs, iq⟩, own, hnl, ownw, hB, hM2, hsw, fun c _ => absurd c (by omega)⟩
              case measure => simp [intOf]; omega
            · obtain ⟨tt, rfl⟩ : ∃ tt : Nat, z = (tt : Int) := ⟨z.toNat, by omega⟩
              have hzd2 : decide ((s.size : Int) < (tt : Int)) = false := by rw [decide_eq_false_iff_not]; exact hz2
              have hsl : ∀ wx : World, (Instr.slice 9 (.string s) (some (.int .i64 (fr : Nat))) (some (.int .i64 (tt : Nat))) none).run Tryd.prog wx = .ok (.string (s.extract fr tt)) wx := fun wx => by
                have hh := run_slice_string (P := Tryd.prog) (w := wx) 9 s .i64 .i64 (fr : Nat) (tt : Nat) Tryd.underlying9 (by omega) (by omega) (by omega)
                rw [Int.toNat_natCast, Int.toNat_natCast] at hh; exact hh
              have hps : (s.extract fr tt).size = tt - fr := by simp only [ByteArray.size_extract]; omega
              have GF := hideT (feedS (b + 1) b S q (s.extract fr tt) wr sc (by omega) rs iq (by have := HQ.out.1; omega) HQ.out.2.1 HQ.out.2.2 hM2)
              rw [ext_list, HBS.out] at GF
              have htd := take_drop (bs := bs) (a := fr) (c := tt) (by omega)
              generalize hpd : (bs.take tt).drop fr = pb at GF htd
              have hfo := feedP_app pI (bs.take fr) pb
              rw [← htd, HFE.out] at hfo
              simp only at hfo
              have hl2 : (feedP q pb).1.length ≤ 8589934560 := by have h1 := feed_len q pb; rw [← hpd] at h1 ⊢; simp only [List.length_drop, List.length_take] at h1; omega
              rcases hfq : feedP q pb with ⟨T2, o2⟩
              rw [hfq] at GF hfo hl2
              simp only at GF hfo hl2
              have HFO := hideT hfo
              clear hpd htd hfq hfo hps
              go_wp2_with fail
              refine GF.out.mono ?_
              rintro e w3 ⟨v2, er, rfl, ow2, kz2, hout, hnl2⟩
              clear GF
              have own3 := own_kp own kz2 (fun g hg c => by rcases c with c | c; (have := (own_lt own hg).1; omega); exact own_ne sc.own own (by decide) g c hg)
              replace ownw := own_kp ownw kz2 (fun g hg c => by rcases c with c | c; (have := hwb g hg; omega); (have := hwb g hg; have := hcvb g c; omega))
              replace hB : Below w.heap.size w w3 := hB.trans (kz2.below hB.size (fun g hg c => by rcases c with c | c; omega; have := hcvb g c; omega))
              replace hM2 := kz2.maxL (fun c => by rcases c with c | c; (have := sc.mx; omega); (have := sc.mx; have := hcvb _ c; omega)) hM2
              have hs3 := kz2.size
              have hmb := sc.mx
              clear kz2 own sc rs
              go_wp2_with (at_builtin; refine wpList_app_toks (by rfl) _ _ (by rfl) (b + 1) (wr.heap.size + 1) _ v2 T T2 (by rfl) own3 (by rfl) ow2 hnl2 (by omega) (by omega) ?_)
              intro v3 w4 own4 gr3 hv3
              have own : w4.ownsRow (b + 1) 26 6 v3 (T ++ T2).length (tokCells (T ++ T2)) := by first | exact own4 | (rw [List.length_append]; exact own4)
              have kg := Kp.grown gr3 (X := fun i => b + 1 ≤ i) (fun i e => (own_lt own3 e).1)
              have kg2 : Kp (fun i => u9.ownBlock = some i) w3 w4 := Kp.grown gr3 (fun i e => e)
              have hc4 : CutS w4 b er o2 := by
                cases o2 with
                | bad B L C => exact hout.1
                | ok q2 =>
                  obtain ⟨e1, S2, sc2, rs2, iq2, _⟩ := hout
                  exact ⟨e1, S2, sc2.kp kg2 (fun i hi c => by rcases hi with hi | hi; (have := (own_lt own3 c).1; omega); exact own_ne sc2.own own3 (by decide) i hi c), rs2, iq2⟩
              replace ownw := own_kp ownw kg (fun g hg c => by have := hwb g hg; omega)
              replace hB : Below w.heap.size w w4 := hB.trans (kg.below hB.size (fun g hg c => by omega))
              replace hM2 := kg.maxL (show ¬ b + 1 ≤ mxB by omega) hM2
              have hs4 := kg.size
              have hnn : T ++ T2 = [] → v3 = .slice none 0 0 := fun c => by obtain ⟨d1, d2⟩ := List.append_eq_nil_iff.1 c; first | (rw [hv3 c]; exact hnl d1) | (rw [hv3 d1 d2]; exact hnl d1)
              clear own3 own4 ow2 gr3 kg kg2 hv3 hnl2 hnl hout
              go_wp2
              go_roundw
              case rel => exact ⟨k + 1, tt, T ++ T2, o2, er, by omega, by go_num, by omega, rfl, rfl, HFO.out, hc4, own, hnn, ownw, hB, hM2, by omega, fun c _ => absurd c (by omega)⟩
              case measure => first | (simp [intOf]; done) | (simp [intOf]; omega)
      · have hki : ¬ (k : Int) ≤ (lc : Int) := by omega
        have hkd : decide ((k : Int) ≤ (lc : Int)) = false := by rw [decide_eq_false_iff_not]; exact hki
        have hfs : fr = s.size := hlast (by omega) rfl
        have hfb : feedP pI bs = (T, .ok q) := by have := HFE.out; rw [hfs, show bs.take s.size = bs by rw [← hbl]; exact List.take_length] at this; exact this
        have ha : allP bs = (T ++ (endP q).1, (endP q).2) := by unfold allP; rw [hfb]
        rw [ha] at ownw ⊢
        simp only at ownw ⊢
        have GEn := hideT (endS (b + 1) b S q wr sc (by omega) rs iq (by have := HQ.out.1; omega) HQ.out.2.1 hM2)
        have hel := end_len q
        clear ha hfb hfs
        obtain ⟨te, hte⟩ : ∃ te, (endP q).1 = te := ⟨_, rfl⟩
        obtain ⟨ee, hee⟩ : ∃ ee, (endP q).2 = ee := ⟨_, rfl⟩
        rw [hte] at GEn ownw hel
        rw [hee] at GEn ⊢
        clear hte hee
        go_wp2_with fail
        refine GEn.out.mono ?_
        rintro e w3 ⟨v2, rfl, o2, kz2, _, hnl2⟩
        clear GEn
        have own3 := own_kp own kz2 (fun g hg c => by rcases c with c | c; (have := (own_lt own hg).1; omega); exact own_ne sc.own own (by decide) g c hg)
        replace ownw := own_kp ownw kz2 (fun g hg c => by rcases c with c | c; (have := hwb g hg; omega); (have := hwb g hg; have := hcvb g c; omega))
        replace hB : Below w.heap.size w w3 := hB.trans (kz2.below hB.size (fun g hg c => by rcases c with c | c; omega; have := hcvb g c; omega))
        replace hM2 := kz2.maxL (fun c => by rcases c with c | c; (have := sc.mx; omega); (have := sc.mx; have := hcvb _ c; omega)) hM2
        have hs3 := kz2.size
        clear kz2 own sc rs
        go_wp2_with (at_builtin; refine wpList_app_toks (by rfl) _ _ (by rfl) (b + 1) wr.heap.size _ v2 T te (by rfl) own3 (by rfl) o2 hnl2 (by omega) (by omega) ?_)
        intro v3 w4 own4 gr3 hv3
        have own : w4.ownsRow (b + 1) 26 6 v3 (T ++ te).length (tokCells (T ++ te)) := by first | exact own4 | (rw [List.length_append]; exact own4)
        have kg := Kp.grown gr3 (X := fun i => b + 1 ≤ i) (fun i e => (own_lt own3 e).1)
        replace ownw := own_kp ownw kg (fun g hg c => by have := hwb g hg; omega)
        replace hB : Below w.heap.size w w4 := hB.trans (kg.below hB.size (fun g hg c => by omega))
        replace hM2 := kg.maxL (show ¬ b + 1 ≤ mxB by omega) hM2
        clear own3 own4 o2 gr3 kg hv3 hnl2 hnl
        have hTe : (T ++ te).length ≤ 100000000000 := by rw [List.length_append]; omega
        have GS := hideT (same_is (b + 1) w.heap.size _ v1 (T ++ te) w4 own ownw (by omega))
        go_wp2_with fail
        refine GS.out.mono ?_
        rintro e wy ⟨rfl, by1⟩
        clear GS
        have hM8 := hM2.on by1
        have hB8 := hB.trans (by1.mono hB.size)
        have GW := hideT (awake_is wy hM8 (by have := hB8.size; omega))
        go_wp2_with fail
        refine GW.out.mono ?_
        rintro e wz ⟨rfl, bz1⟩
        go_wp2
        go_ret
        exact ⟨rfl, hB8.trans (bz1.mono hB8.size)⟩
end Go.Proofs.YtpepcjmbnfpbbaaDoor
