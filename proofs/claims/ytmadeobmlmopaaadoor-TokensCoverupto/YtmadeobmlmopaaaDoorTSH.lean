/-
  TokensCover: the walk.
-/
import Derived.Test.YtmadeobmlmopaaaDoorTSC
import Derived.Test.YtmadeobmlmopaaaDoorTSD
import Derived.Test.YtmadeobmlmopaaaDoorTSG
namespace Go.Proofs.YtmadeobmlmopaaaDoor
open Go.RowKit
set_option linter.unusedVariables false
set_option linter.unusedSimpArgs false

/-- tokens in order, by their numbers -/
theorem Chain.seq {S : List UInt8} {a f : Nat} {L : List Tok} (h : Chain S a L f) : ∃ fr : Nat → Nat, fr 0 = a ∧ fr L.length = f ∧ ∀ k (hk : k < L.length), ∃ b : Nat, BgS S (fr k) b L[k].b L[k].l L[k].c ∧ L[k].e = (fr (k + 1) : Nat) ∧ b < fr (k + 1) ∧ fr (k + 1) ≤ S.length ∧ L[k].k ≠ 0 := by
  induction h with
  | nil fr => exact ⟨fun _ => fr, rfl, rfl, fun k hk => absurd hk (by simp)⟩
  | cons fr b e fr2 t ts hb he hlt hle hk _ ih =>
    obtain ⟨g, g0, g1, g2⟩ := ih
    refine ⟨fun | 0 => fr | k + 1 => g k, rfl, g1, fun k hk' => ?_⟩
    cases k with
    | zero => exact ⟨b, hb, by show t.e = ((g 0 : Nat) : Int); rw [g0]; exact he, by show b < g 0; omega, by show g 0 ≤ _; omega, hk⟩
    | succ k => exact g2 k (by simpa using hk')
theorem Chain.le {S : List UInt8} {a f : Nat} {L : List Tok} (h : Chain S a L f) (ha : a ≤ S.length) : f ≤ S.length := by
  induction h with
  | nil => exact ha
  | cons fr b e fr2 t ts hb he hlt hle hk _ ih => exact ih hle
/-- a piece of the text, as bytes -/
theorem part_gap {s : ByteArray} {S : List UInt8} (hS : s.data.toList = S) {a b : Nat} (hab : a ≤ b) (hb : b ≤ s.size) (h : gapAt S a (b - a) ≠ none) : gapAt (s.extract a b).data.toList 0 (s.extract a b).size ≠ none := by
  have hz : (s.extract a b).size = b - a := by rw [ByteArray.size_extract]; omega
  rw [hz, gap_part (S := S) (a := a) (n := b - a) (fun i hi => ?_) (b - a) (Nat.le_refl _)]
  · exact h
  · have h1 : i < (s.extract a b).size := by omega
    have h2 : a + i < s.size := by omega
    unfold byS
    rw [List.getD_eq_getElem?_getD, List.getD_eq_getElem?_getD, Array.getElem?_toList, ← hS, Array.getElem?_toList]
    have e : (s.extract a b).data = s.data.extract a b := ByteArray.data_extract
    rw [e, Array.getElem?_extract]
    have h3 : b ≤ s.data.size := hb
    rw [if_pos (by omega)]
set_option maxHeartbeats 8000000 in
set_option maxRecDepth 100000 in
theorem cover_walk (s : ByteArray) (w : World) (hsz : s.size ≤ 4294967280) (hM : MaxL w) (hmx : mxB < w.heap.size) : Calls Tryd.prog 3 #[.string s] w fun e w' => e = .returned (.bool true) ∧ Below w.heap.size w w' := by
  obtain ⟨S, hS⟩ : ∃ S, s.data.toList = S := ⟨_, rfl⟩
  have hsl : S.length = s.size := by rw [← hS, Array.length_toList]; rfl
  obtain ⟨f, ch, hok, hbad⟩ := all_cover S
  obtain ⟨fr, fr0, fr1, frs⟩ := ch.seq
  have hfl := ch.le (Nat.zero_le _)
  have hLl : (allP S).1.length ≤ 100000000000 := by
    have h1 := feed_len pI S
    unfold allP
    rcases hf : feedP pI S with ⟨ts, o⟩
    rw [hf] at h1
    cases o with
    | bad B L C => simp only at h1 ⊢; omega
    | ok q => have := end_len q; simp only [List.length_append] at h1 ⊢; omega
  have GA := hideT (all_at s w hsz hM hmx)
  rw [hS] at GA
  obtain ⟨er, her⟩ : ∃ er, (allP S).2 = er := ⟨_, rfl⟩
  obtain ⟨aE, haE⟩ : ∃ aE, allE S = aE := ⟨_, rfl⟩
  rw [her, haE] at GA
  rw [her] at hok hbad
  rw [haE] at hbad
  generalize (allP S).1 = L at GA fr1 frs hLl ch
  rw [hsl] at hfl
  have HOK := hideT hok
  have HBAD := hideT hbad
  have FRS := hideT frs
  have HS := hideT hS
  have HSL := hideT hsl
  clear hok hbad frs ch her haE hS hsl
  go_enter Tryd.func3, Tryd.ntmps3
  go_wp2_with fail
  refine GA.out.mono ?_
  rintro e w1 ⟨v1, z2, z3, z4, z5, rfl, own1, b1, _, hz⟩
  clear GA
  have ba := below_alloc (w := w1) (.cells #[.int .i64 0, .string ⟨#[]⟩, .int .i64 z2, .int .i64 z3, .int .i64 z4, .int .i64 z5] 25)
  have qa := Blk.new w1 #[.int .i64 0, .string ⟨#[]⟩, .int .i64 z2, .int .i64 z3, .int .i64 z4, .int .i64 z5] 25
  have own2 := own_kp own1 (Kp.of (X := fun _ => False) ba) (fun _ _ c => c)
  have bz := b1.trans (ba.mono b1.size)
  have hb1 := b1.size
  have HZ := hideT hz
  clear hz own1 ba b1
  obtain ⟨ac, cc, ev⟩ := own_sl own2
  subst ev
  go_wp2_with fail
  generalize w1.alloc (.cells #[.int .i64 0, .string ⟨#[]⟩, .int .i64 z2, .int .i64 z3, .int .i64 z4, .int .i64 z5] 25) = W2 at qa own2 bz ⊢
  go_loopw [6, 7] (fun frm i wr => ∃ k : Nat, k ≤ L.length ∧ frm = .int .i64 (fr k : Nat) ∧ i = .int .i64 k ∧ Blk wr w1.heap.size #[.int .i64 0, .string ⟨#[]⟩, .int .i64 z2, .int .i64 z3, .int .i64 z4, .int .i64 z5] 25 ∧ wr.ownsRow w.heap.size 25 6 (.slice ac L.length cc) L.length (tokCells L) ∧ Below w.heap.size w wr) (fun _ i _ => L.length - (intOf i).toNat)
  case atStart => exact ⟨0, Nat.zero_le _, by rw [fr0]; rfl, rfl, qa, own2, bz⟩
  case round =>
    clear qa own2 bz
    obtain ⟨k, hk, rfl, rfl, qa, own, hB⟩ := hrel
    have hMr := hM.on hB
    have hsw := hB.size
    by_cases hlt : k < L.length
    · have hki : ((k : Int) < (L.length : Int)) := by omega
      obtain ⟨bb, bg, te, hlt2, hle2, tk⟩ := FRS.out k hlt
      rcases own.2 with ⟨_, h0⟩ | ⟨g1, p1, r1, hv1, _⟩
      · omega
      injection hv1 with hv1 _ hc1
      subst hv1
      subst hc1
      have z0_ : wr.cell? ⟨g1, k * 6 + 0, none⟩ = _ := own_tok own k 0 hlt (by decide)
      have z1_ : wr.cell? ⟨g1, k * 6 + 1, none⟩ = _ := own_tok own k 1 hlt (by decide)
      have z2_ : wr.cell? ⟨g1, k * 6 + 2, none⟩ = _ := own_tok own k 2 hlt (by decide)
      have z3_ : wr.cell? ⟨g1, k * 6 + 3, none⟩ = _ := own_tok own k 3 hlt (by decide)
      have z4_ : wr.cell? ⟨g1, k * 6 + 4, none⟩ = _ := own_tok own k 4 hlt (by decide)
      have z5_ : wr.cell? ⟨g1, k * 6 + 5, none⟩ = _ := own_tok own k 5 hlt (by decide)
      obtain ⟨t, ht⟩ : ∃ t, L[k] = t := ⟨_, rfl⟩
      rw [ht] at bg te tk z0_ z1_ z2_ z3_ z4_ z5_
      obtain ⟨kk, tt, tb, te_, tl, tc⟩ := t
      simp only [Tok.cells, List.getElem?_cons_zero, List.getElem?_cons_succ] at bg te tk z0_ z1_ z2_ z3_ z4_ z5_
      rw [Nat.add_zero] at z0_
      clear ht
      obtain ⟨b1, b2, b3, b4, b5⟩ := bg
      subst b1
      subst te
      subst b4
      subst b5
      rw [HSL.out] at hle2
      have hpg := part_gap HS.out b2 (by omega) b3
      generalize fr k = n0 at b2 b3 hpg ⊢
      generalize hn1 : fr (k + 1) = n1 at hlt2 hle2 z0_ z1_ z2_ z3_ z4_ z5_ ⊢
      have ba := below_alloc (w := wr) (.cells #[.int .i64 kk, .string tt, .int .i64 bb, .int .i64 n1, .int .i64 ((nlN S bb : Int) + 1), .int .i64 (((bb - ahN S bb : Nat) : Int) + 1)] 25)
      have q8 := Blk.new wr #[.int .i64 kk, .string tt, .int .i64 bb, .int .i64 n1, .int .i64 ((nlN S bb : Int) + 1), .int .i64 (((bb - ahN S bb : Nat) : Int) + 1)] 25
      have y0 := q8.cell 0
      have y1 := q8.cell 1
      have y2 := q8.cell 2
      have y3 := q8.cell 3
      have y4 := q8.cell 4
      have y5 := q8.cell 5
      simp only [List.getElem?_toArray, List.getElem?_cons_zero, List.getElem?_cons_succ] at y0 y1 y2 y3 y4 y5
      have hsl : ∀ wx : World, (Instr.slice 9 (.string s) (some (.int .i64 (n0 : Nat))) (some (.int .i64 (bb : Nat))) none).run Tryd.prog wx = .ok (.string (s.extract n0 bb)) wx := fun wx => by
        have hh := run_slice_string (P := Tryd.prog) (w := wx) 9 s .i64 .i64 (n0 : Nat) (bb : Nat) Tryd.underlying9 (by omega) (by omega) (by omega)
        rw [Int.toNat_natCast, Int.toNat_natCast] at hh; exact hh
      have GG := hideT (fun W => gap_is (s.extract n0 bb) W (by rw [ByteArray.size_extract]; omega) hpg)
      have GP := hideT (fun W => place_is s S HS.out bb W hsz (by omega))
      have c1 : ¬ ((bb : Int) < (n0 : Int)) := by omega
      have c2 : ¬ ((n1 : Int) ≤ (bb : Int)) := by omega
      have c3 : ¬ ((s.size : Int) < (n1 : Int)) := by omega
      have c4 : ((kk : Int) == 0) = false := by rw [beq_eq_false_iff_ne]; omega
      have B2 := hideT b2
      clear hpg b2 b3
      go_wp2_with fail
      refine (GG.out _).mono ?_
      rintro e w4 ⟨rfl, rfl⟩
      clear z0_ z1_ z2_ z3_ z4_ z5_ hsl GG
      generalize wr.alloc (.cells #[.int .i64 kk, .string tt, .int .i64 bb, .int .i64 n1, .int .i64 ((nlN S bb : Int) + 1), .int .i64 (((bb - ahN S bb : Nat) : Int) + 1)] 25) = W3 at q8 ba y0 y1 y2 y3 y4 y5 ⊢
      go_wp2_with fail
      refine (GP.out _).mono ?_
      rintro e w5 ⟨rfl, b5⟩
      clear GP y0 y1 y2 y3 y4 y5
      have b6 := below_alloc (w := w5) (.cells #[.int .i64 0, .string ⟨#[]⟩, .int .i64 bb, .int .i64 bb, .int .i64 ((nlN S bb : Int) + 1), .int .i64 (((bb - ahN S bb : Nat) : Int) + 1)] 25)
      have q9 := Blk.new w5 #[.int .i64 0, .string ⟨#[]⟩, .int .i64 bb, .int .i64 bb, .int .i64 ((nlN S bb : Int) + 1), .int .i64 (((bb - ahN S bb : Nat) : Int) + 1)] 25
      have bb3 := (ba.trans (b5.mono ba.size)).trans (b6.mono (Nat.le_trans ba.size b5.size))
      replace q8 := (q8.later b5).later b6
      have y0 := q8.cell 0
      have x0 := q9.cell 0
      have y1 := q8.cell 1
      have x1 := q9.cell 1
      have y2 := q8.cell 2
      have x2 := q9.cell 2
      have y3 := q8.cell 3
      have x3 := q9.cell 3
      have y4 := q8.cell 4
      have x4 := q9.cell 4
      have y5 := q8.cell 5
      have x5 := q9.cell 5
      simp only [List.getElem?_toArray, List.getElem?_cons_zero, List.getElem?_cons_succ] at y0 x0 y1 x1 y2 x2 y3 x3 y4 x4 y5 x5
      replace qa := qa.later bb3
      replace own := own_kp own (Kp.of (X := fun _ => False) bb3) (fun _ _ c => c)
      replace hB := hB.trans (bb3.mono hB.size)
      clear b5 b6 q8 q9 ba bb3
      go_wp2
      go_roundw
      case rel => exact ⟨k + 1, by omega, by rw [hn1], by go_num, qa, own, hB⟩
      case measure => simp [intOf]; omega
    · have hki : ¬ ((k : Int) < (L.length : Int)) := by omega
      have ek : k = L.length := by omega
      subst ek
      rw [fr1]
      by_cases h0 : er = 0
      · subst h0
        obtain ⟨o1, o2⟩ := HOK.out rfl
        have hpg := part_gap HS.out hfl (Nat.le_refl _) (by rw [← HSL.out]; exact o2)
        have hsl : ∀ wx : World, (Instr.slice 9 (.string s) (some (.int .i64 (f : Nat))) none none).run Tryd.prog wx = .ok (.string (s.extract f s.size)) wx := fun wx => by
          have hh := run_slice_string_from_if (P := Tryd.prog) (w := wx) 9 s .i64 (f : Nat) Tryd.underlying9
          rw [if_pos (by omega), Int.toNat_natCast] at hh; exact hh
        have GG := hideT (fun W => gap_is (s.extract f s.size) W (by rw [ByteArray.size_extract]; omega) hpg)
        have GW := hideT (awake_is wr hMr (by omega))
        clear hpg o1 o2
        go_wp2_with fail
        refine (GG.out _).mono ?_
        rintro e w4 ⟨rfl, rfl⟩
        go_wp2_with fail
        refine GW.out.mono ?_
        rintro e w5 ⟨rfl, b5⟩
        go_wp2
        go_ret
        exact ⟨rfl, hB.trans (b5.mono hB.size)⟩
      · have x0 : (er == 0) = false := by rw [beq_eq_false_iff_ne]; exact h0
        obtain ⟨b, e1, e2, e3⟩ := HBAD.out h0
        obtain ⟨y2, y3, _, _⟩ := HZ.out h0
        rw [e1] at y2 y3
        subst y2
        subst y3
        rw [HSL.out] at e3
        have a0 := qa.cell 0
        have a1 := qa.cell 1
        have a2 := qa.cell 2
        have a3 := qa.cell 3
        have a4 := qa.cell 4
        have a5 := qa.cell 5
        simp only [List.getElem?_toArray, List.getElem?_cons_zero, List.getElem?_cons_succ] at a0 a1 a2 a3 a4 a5
        have c1 : (f : Int) ≤ (b : Int) := by omega
        have c2 : (b : Int) < (s.size : Int) := by omega
        clear h0 e1
        go_wp2
        go_ret
        exact ⟨rfl, hB⟩
end Go.Proofs.YtmadeobmlmopaaaDoor
