/-
  The reference's Parse of any text: where it reads as a fraction that is written otherwise; all ways together.
-/
import Derived.Test.YtjbeagbkjmaeeaaGreatDoorWEH
namespace Go.Proofs.YtjbeagbkjmaeeaaGreatDoor
open Go.RowKit
set_option linter.unusedVariables false
set_option linter.unusedSimpArgs false
set_option maxHeartbeats 8000000 in
set_option maxRecDepth 100000 in
theorem vdParse_some (s : ByteArray) (hs : s.size ≤ 16777216) (Z0 : Int) (V0 : Nat) (h0 : RQ s Z0 V0) (S : ByteArray) (hS : TxD Z0 V0 0 1 S) (hne : S ≠ s) (w : World) : Calls Tryz.prog 5 #[.string s] w fun e w' => (∃ (ZA : Int) (VA : Nat) (ZB : Int) (VB : Nat) (p q r t : Option Addr), NmD ZA VA ZB VB ∧ TxD ZA VA ZB VB s ∧ e = .returned (.tuple #[.agg #[.bool (ng ZA), .slice p (ln (am ZA)) (ln (am ZA)), .slice q (ln VA) (ln VA), .bool (ng ZB), .slice r (ln (am ZB)) (ln (am ZB)), .slice t (ln VB) (ln VB)], .int .i64 0]) ∧ Below w.heap.size w w' ∧ Seg w' p (am ZA) (ln (am ZA)) ∧ Seg w' q VA (ln VA) ∧ Seg w' r (am ZB) (ln (am ZB)) ∧ Seg w' t VB (ln VB)) ∨ ((∀ ZA VA ZB VB, NmD ZA VA ZB VB → ¬ TxD ZA VA ZB VB s) ∧ e = .returned (.tuple #[.agg #[.bool false, .slice none 0 0, .slice none 0 0, .bool false, .slice none 0 0, .slice none 0 0], .int .i64 50]) ∧ Below w.heap.size w w') := by
  have l0 := h0.low
  have hN : NmD Z0 V0 0 1 := ⟨l0.1, l0.2.1, by omega, by decide⟩
  have hN0 : ∀ ZA VA, RQ s ZA VA → ¬ TxD ZA VA 0 1 s := fun ZA VA h k => by
    obtain ⟨rfl, rfl⟩ := h0.uniq h
    exact hne (hS.one k)
  have hne3 : (S.toList == s.toList) = false := by rw [beq_eq_false_iff_ne]; exact fun e => hne (bytes_list e)
  obtain ⟨X, Y, h1, h2⟩ := h0
  have G1 := hide' (fun w' => vqParse_some s X Y V0 Z0 (by omega) h1 h2 w')
  have GO := hide' (fun p q w' k1 k2 => vdOf_is (ng Z0) p (ln (am Z0)) (ln (am Z0)) (am Z0) q (ln V0) (ln V0) V0 Z0 V0 0 1 w' (Nat.le_refl _) (by omega) k1 (Nat.le_refl _) (by omega) k2 ((Low.self l0.1 l0.2.1).nf l0.1) rfl rfl)
  have GT := hide' (fun p q r t w' k1 k2 k3 k4 => vTextT Z0 V0 0 1 S hN hS (by omega) (by omega) (by rw [show am 0 = 0 from rfl, ln_zero]; omega) (by rw [ln_one]; omega) p q r t w' k1 k2 k3 k4)
  clear l0 hN hS h1 h2 hne
  have HN0 := hide' hN0
  clear hN0
  have bel := below_alloc (w := w) (.cells #[.bool false, .slice none 0 0, .slice none 0 0, .bool false, .slice none 0 0, .slice none 0 0] 29)
  have qR := Blk.new w #[.bool false, .slice none 0 0, .slice none 0 0, .bool false, .slice none 0 0, .slice none 0 0] 29
  go_enter Tryz.func5, Tryz.ntmps5
  go_wp2_with fail
  refine (G1.out _).mono ?_
  rintro e w1 ⟨p0, q0, rfl, bb, kp0, kq0⟩
  replace qR := qR.later bb
  replace bel := bel.trans (bb.mono bel.size)
  clear bb
  have q4 := Blk.new w1 #[.bool (ng Z0), .slice p0 (ln (am Z0)) (ln (am Z0)), .slice q0 (ln V0) (ln V0)] 27
  have bb := below_alloc (w := w1) (.cells #[.bool (ng Z0), .slice p0 (ln (am Z0)) (ln (am Z0)), .slice q0 (ln V0) (ln V0)] 27)
  replace qR := qR.later bb
  replace kp0 := kp0.later bb
  replace kq0 := kq0.later bb
  replace bel := bel.trans (bb.mono bel.size)
  clear bb
  have x0 := q4.cell 0
  have x1 := q4.cell 1
  have x2 := q4.cell 2
  simp only [List.getElem?_toArray, List.getElem?_cons_zero, List.getElem?_cons_succ] at x0 x1 x2
  go_wp2_with fail
  clear x0 x1 x2
  refine (GO.out p0 q0 _ kp0 kq0).mono ?_
  rintro e w2 ⟨p1, q1, r1, t1, rfl, n1, n2, n3, n4⟩
  have bb := n1.below
  have s1 := n1.seg
  have s2 := n2.seg
  have s3 := n3.seg
  have s4 := n4.seg
  clear n1 n2 n3 n4
  replace qR := qR.later bb
  replace kp0 := kp0.later bb
  replace kq0 := kq0.later bb
  replace q4 := q4.later bb
  replace bel := bel.trans (bb.mono bel.size)
  clear bb
  go_wp2_with fail
  refine (GT.out p1 q1 r1 t1 _ s1 s2 s3 s4).mono ?_
  rintro e w3 ⟨rfl, bb⟩
  replace qR := qR.later bb
  replace kp0 := kp0.later bb
  replace kq0 := kq0.later bb
  replace q4 := q4.later bb
  replace s1 := s1.later bb
  replace s2 := s2.later bb
  replace s3 := s3.later bb
  replace s4 := s4.later bb
  replace bel := bel.trans (bb.mono bel.size)
  clear bb
  go_wp2
  generalize hW0 : w3 = W0 at *
  clear hW0
  go_loopw [6] (fun v wr => ∃ i : Nat, 1 ≤ i ∧ v = .int .i64 (i : Nat) ∧ (i = 1 ∨ i + 1 ≤ s.size) ∧ Below W0.heap.size W0 wr ∧ ∀ j, 1 ≤ j → j < i → ¬ Hit s j) (fun v _ => s.size - (intOf v).toNat)
  case atStart => exact ⟨1, Nat.le_refl _, rfl, Or.inl rfl, Below.refl _ _, fun j h1 h2 => by omega⟩
  case round =>
    obtain ⟨i, h1, rfl, hi1, bb, hno0⟩ := hrel
    have HX := hide' hno0
    clear hno0
    replace qR := qR.later bb
    replace kp0 := kp0.later bb
    replace kq0 := kq0.later bb
    replace q4 := q4.later bb
    replace s1 := s1.later bb
    replace s2 := s2.later bb
    replace s3 := s3.later bb
    replace s4 := s4.later bb
    have bw := bel.trans (bb.mono bel.size)
    by_cases hi : i + 1 < s.size
    · have hlt : i < s.size := by omega
      have hl : s.size - 1 < s.size := by omega
      have i0 : (0 : Int) ≤ (i : Int) := by omega
      have i1 : (i : Int) < (s.size : Int) := by omega
      have i2 : (i : Int) + 1 < (s.size : Int) := by omega
      have l0 : (0 : Int) ≤ (s.size : Int) - 1 := by omega
      have l1 : (s.size : Int) - 1 < (s.size : Int) := by omega
      have l2 : ((s.size : Int) - 1).toNat = s.size - 1 := by omega
      have ek := byt_of hlt
      have el := byt_of hl
      have l3 : ((i : Int) + 1).toNat = i + 1 := by omega
      have l4 : (i : Int) + 1 ≤ (s.size : Int) - 1 := by omega
      have l5 : (s.size : Int) - 1 ≤ (s.size : Int) := by omega
      have NX : ¬ Hit s i → ∀ j, 1 ≤ j → j < i + 1 → ¬ Hit s j := fun h j j1 j2 => by
        by_cases e : j = i
        · subst e; exact h
        · exact HX.out j j1 (by omega)
      have HNX := hide' NX
      clear NX HX
      by_cases ca : byt s i = 43
      · have f43 : (((s[i]'hlt).toNat : Int) != 43) = false := by rw [← ek, ca]; decide
        have f45 : (((s[i]'hlt).toNat : Int) == 45) = false := by rw [← ek, ca]; decide
        by_cases cc : byt s (s.size - 1) = 100
        · have fl : (((s[s.size - 1]'hl).toNat : Int) != 100) = false := by rw [← el, cc]; decide
          clear el ek
          have z1 : (s.extract 0 i).size ≤ 16777216 := by rw [ByteArray.size_extract]; omega
          have z2 : (s.extract (i + 1) (s.size - 1)).size ≤ 16777216 := by rw [ByteArray.size_extract]; omega
          obtain ⟨oa, hoa⟩ := Rd.ex (bodyOf (s.extract 0 i))
          obtain ⟨ob, hob⟩ := Rd.ex (bodyOf (s.extract (i + 1) (s.size - 1)))
          rcases oa with _ | ⟨Xa, Ya⟩ <;> rcases ob with _ | ⟨Xb, Yb⟩
          · have TT := trivial
            have J1 := hide' (fun w' => vqParse_none (s.extract 0 i) (by omega) hoa w')
            have J2 := hide' (fun w' => vqParse_none (s.extract (i + 1) (s.size - 1)) (by omega) hob w')
            have HH := hide' (show ¬ Hit s i from fun ⟨_, _, _, _, _, _, ⟨X, Y, k1, _⟩, _, _⟩ => by cases hoa.uniq k1)
            clear hoa hob z1 z2 ca
            go_wp2_with fail
            refine (J1.out _).mono ?_
            rintro e v1 ⟨rfl, b9⟩
            replace qR := qR.later b9
            replace kp0 := kp0.later b9
            replace kq0 := kq0.later b9
            replace q4 := q4.later b9
            replace s1 := s1.later b9
            replace s2 := s2.later b9
            replace s3 := s3.later b9
            replace s4 := s4.later b9
            replace bb := bb.trans (b9.mono bb.size)
            clear b9
            have qA := Blk.new v1 #[.bool false, .slice none 0 0, .slice none 0 0] 27
            have b9 := below_alloc (w := v1) (.cells #[.bool false, .slice none 0 0, .slice none 0 0] 27)
            replace qR := qR.later b9
            replace kp0 := kp0.later b9
            replace kq0 := kq0.later b9
            replace q4 := q4.later b9
            replace s1 := s1.later b9
            replace s2 := s2.later b9
            replace s3 := s3.later b9
            replace s4 := s4.later b9
            replace bb := bb.trans (b9.mono bb.size)
            clear b9
            go_wp2_with fail
            refine (J2.out _).mono ?_
            rintro e v2 ⟨rfl, b9⟩
            replace qR := qR.later b9
            replace kp0 := kp0.later b9
            replace kq0 := kq0.later b9
            replace q4 := q4.later b9
            replace s1 := s1.later b9
            replace s2 := s2.later b9
            replace s3 := s3.later b9
            replace s4 := s4.later b9
            replace qA := qA.later b9
            replace bb := bb.trans (b9.mono bb.size)
            clear b9
            have qB := Blk.new v2 #[.bool false, .slice none 0 0, .slice none 0 0] 27
            have b9 := below_alloc (w := v2) (.cells #[.bool false, .slice none 0 0, .slice none 0 0] 27)
            replace qR := qR.later b9
            replace kp0 := kp0.later b9
            replace kq0 := kq0.later b9
            replace q4 := q4.later b9
            replace s1 := s1.later b9
            replace s2 := s2.later b9
            replace s3 := s3.later b9
            replace s4 := s4.later b9
            replace qA := qA.later b9
            replace bb := bb.trans (b9.mono bb.size)
            clear b9
            go_wp2
            go_roundw
            case rel => exact ⟨i + 1, by omega, by go_num, Or.inr (by omega), bb, HNX.out (HH.out)⟩
            case measure => simp [intOf]; omega
          · have TT := trivial
            have J1 := hide' (fun w' => vqParse_none (s.extract 0 i) (by omega) hoa w')
            obtain ⟨gB, _, _⟩ := hob.good
            obtain ⟨Z2, VB, hLB⟩ := low_ex (sg (negOf (s.extract (i + 1) (s.size - 1))) Xb) (Yb : Int) (by omega)
            have rB : RQ (s.extract (i + 1) (s.size - 1)) Z2 VB := ⟨_, _, hob, hLB⟩
            have lB := rB.low
            have J2 := hide' (fun w' => vqParse_some (s.extract (i + 1) (s.size - 1)) Xb Yb VB Z2 (by omega) hob hLB w')
            have HH := hide' (show ¬ Hit s i from fun ⟨_, _, _, _, _, _, ⟨X, Y, k1, _⟩, _, _⟩ => by cases hoa.uniq k1)
            clear hoa hob gB hLB lB z1 z2 ca
            go_wp2_with fail
            refine (J1.out _).mono ?_
            rintro e v1 ⟨rfl, b9⟩
            replace qR := qR.later b9
            replace kp0 := kp0.later b9
            replace kq0 := kq0.later b9
            replace q4 := q4.later b9
            replace s1 := s1.later b9
            replace s2 := s2.later b9
            replace s3 := s3.later b9
            replace s4 := s4.later b9
            replace bb := bb.trans (b9.mono bb.size)
            clear b9
            have qA := Blk.new v1 #[.bool false, .slice none 0 0, .slice none 0 0] 27
            have b9 := below_alloc (w := v1) (.cells #[.bool false, .slice none 0 0, .slice none 0 0] 27)
            replace qR := qR.later b9
            replace kp0 := kp0.later b9
            replace kq0 := kq0.later b9
            replace q4 := q4.later b9
            replace s1 := s1.later b9
            replace s2 := s2.later b9
            replace s3 := s3.later b9
            replace s4 := s4.later b9
            replace bb := bb.trans (b9.mono bb.size)
            clear b9
            go_wp2_with fail
            refine (J2.out _).mono ?_
            rintro e v2 ⟨r, t, rfl, b9, kr, kt⟩
            replace qR := qR.later b9
            replace kp0 := kp0.later b9
            replace kq0 := kq0.later b9
            replace q4 := q4.later b9
            replace s1 := s1.later b9
            replace s2 := s2.later b9
            replace s3 := s3.later b9
            replace s4 := s4.later b9
            replace qA := qA.later b9
            replace bb := bb.trans (b9.mono bb.size)
            clear b9
            have qB := Blk.new v2 #[.bool (ng Z2), .slice r (ln (am Z2)) (ln (am Z2)), .slice t (ln VB) (ln VB)] 27
            have b9 := below_alloc (w := v2) (.cells #[.bool (ng Z2), .slice r (ln (am Z2)) (ln (am Z2)), .slice t (ln VB) (ln VB)] 27)
            replace qR := qR.later b9
            replace kp0 := kp0.later b9
            replace kq0 := kq0.later b9
            replace q4 := q4.later b9
            replace s1 := s1.later b9
            replace s2 := s2.later b9
            replace s3 := s3.later b9
            replace s4 := s4.later b9
            replace qA := qA.later b9
            replace kr := kr.later b9
            replace kt := kt.later b9
            replace bb := bb.trans (b9.mono bb.size)
            clear b9
            go_wp2
            go_roundw
            case rel => exact ⟨i + 1, by omega, by go_num, Or.inr (by omega), bb, HNX.out (HH.out)⟩
            case measure => simp [intOf]; omega
          · have TT := trivial
            obtain ⟨gA, _, _⟩ := hoa.good
            obtain ⟨ZA, VA, hLA⟩ := low_ex (sg (negOf (s.extract 0 i)) Xa) (Ya : Int) (by omega)
            have rA : RQ (s.extract 0 i) ZA VA := ⟨_, _, hoa, hLA⟩
            have lA := rA.low
            have J1 := hide' (fun w' => vqParse_some (s.extract 0 i) Xa Ya VA ZA (by omega) hoa hLA w')
            have J2 := hide' (fun w' => vqParse_none (s.extract (i + 1) (s.size - 1)) (by omega) hob w')
            have HH := hide' (show ¬ Hit s i from fun ⟨_, _, _, _, _, _, _, ⟨X, Y, k1, _⟩, _⟩ => by cases hob.uniq k1)
            clear hoa hob gA hLA lA z1 z2 ca
            go_wp2_with fail
            refine (J1.out _).mono ?_
            rintro e v1 ⟨p, q, rfl, b9, kp, kq⟩
            replace qR := qR.later b9
            replace kp0 := kp0.later b9
            replace kq0 := kq0.later b9
            replace q4 := q4.later b9
            replace s1 := s1.later b9
            replace s2 := s2.later b9
            replace s3 := s3.later b9
            replace s4 := s4.later b9
            replace bb := bb.trans (b9.mono bb.size)
            clear b9
            have qA := Blk.new v1 #[.bool (ng ZA), .slice p (ln (am ZA)) (ln (am ZA)), .slice q (ln VA) (ln VA)] 27
            have b9 := below_alloc (w := v1) (.cells #[.bool (ng ZA), .slice p (ln (am ZA)) (ln (am ZA)), .slice q (ln VA) (ln VA)] 27)
            replace qR := qR.later b9
            replace kp0 := kp0.later b9
            replace kq0 := kq0.later b9
            replace q4 := q4.later b9
            replace s1 := s1.later b9
            replace s2 := s2.later b9
            replace s3 := s3.later b9
            replace s4 := s4.later b9
            replace kp := kp.later b9
            replace kq := kq.later b9
            replace bb := bb.trans (b9.mono bb.size)
            clear b9
            go_wp2_with fail
            refine (J2.out _).mono ?_
            rintro e v2 ⟨rfl, b9⟩
            replace qR := qR.later b9
            replace kp0 := kp0.later b9
            replace kq0 := kq0.later b9
            replace q4 := q4.later b9
            replace s1 := s1.later b9
            replace s2 := s2.later b9
            replace s3 := s3.later b9
            replace s4 := s4.later b9
            replace kp := kp.later b9
            replace kq := kq.later b9
            replace qA := qA.later b9
            replace bb := bb.trans (b9.mono bb.size)
            clear b9
            have qB := Blk.new v2 #[.bool false, .slice none 0 0, .slice none 0 0] 27
            have b9 := below_alloc (w := v2) (.cells #[.bool false, .slice none 0 0, .slice none 0 0] 27)
            replace qR := qR.later b9
            replace kp0 := kp0.later b9
            replace kq0 := kq0.later b9
            replace q4 := q4.later b9
            replace s1 := s1.later b9
            replace s2 := s2.later b9
            replace s3 := s3.later b9
            replace s4 := s4.later b9
            replace kp := kp.later b9
            replace kq := kq.later b9
            replace qA := qA.later b9
            replace bb := bb.trans (b9.mono bb.size)
            clear b9
            go_wp2
            go_roundw
            case rel => exact ⟨i + 1, by omega, by go_num, Or.inr (by omega), bb, HNX.out (HH.out)⟩
            case measure => simp [intOf]; omega
          · have TT := trivial
            obtain ⟨gA, _, _⟩ := hoa.good
            obtain ⟨ZA, VA, hLA⟩ := low_ex (sg (negOf (s.extract 0 i)) Xa) (Ya : Int) (by omega)
            have rA : RQ (s.extract 0 i) ZA VA := ⟨_, _, hoa, hLA⟩
            have lA := rA.low
            have J1 := hide' (fun w' => vqParse_some (s.extract 0 i) Xa Ya VA ZA (by omega) hoa hLA w')
            obtain ⟨gB, _, _⟩ := hob.good
            obtain ⟨Z2, VB, hLB⟩ := low_ex (sg (negOf (s.extract (i + 1) (s.size - 1))) Xb) (Yb : Int) (by omega)
            have rB : RQ (s.extract (i + 1) (s.size - 1)) Z2 VB := ⟨_, _, hob, hLB⟩
            have lB := rB.low
            have J2 := hide' (fun w' => vqParse_some (s.extract (i + 1) (s.size - 1)) Xb Yb VB Z2 (by omega) hob hLB w')
            obtain ⟨ZB, hZB⟩ : ∃ ZB, Z2 = ZB := ⟨_, rfl⟩
            have aZ : am ZB = am Z2 := by rw [← hZB]
            have hN : NmD ZA VA ZB VB := ⟨lA.1, lA.2.1, lB.1, by rw [aZ]; exact lB.2.1⟩
            obtain ⟨S2, hS2⟩ := TxD.ex ZA VA ZB VB
            have hq : ∀ h : Hit s i, S2 = s := fun ⟨_, _, _, _, _, _, k1, k2, k3⟩ => by
              obtain ⟨rfl, rfl⟩ := rA.uniq k1
              obtain ⟨rfl, rfl⟩ := rB.uniq k2
              rw [if_neg (by omega), hZB] at k3
              exact hS2.one k3
            have GT2 := hide' (fun p q r t w' k1 k2 k3 k4 => vTextT ZA VA ZB VB S2 hN hS2 (by omega) (by omega) (by rw [aZ]; omega) (by omega) p q r t w' k1 k2 k3 k4)
            have HF := hide' (And.intro hN hS2)
            have HQ := hide' hq
            clear hN hS2 hq aZ rA rB
            clear hoa hob gA hLA lA gB hLB lB z1 z2 ca
            go_wp2_with fail
            refine (J1.out _).mono ?_
            rintro e v1 ⟨p, q, rfl, b9, kp, kq⟩
            replace qR := qR.later b9
            replace kp0 := kp0.later b9
            replace kq0 := kq0.later b9
            replace q4 := q4.later b9
            replace s1 := s1.later b9
            replace s2 := s2.later b9
            replace s3 := s3.later b9
            replace s4 := s4.later b9
            replace bb := bb.trans (b9.mono bb.size)
            clear b9
            have qA := Blk.new v1 #[.bool (ng ZA), .slice p (ln (am ZA)) (ln (am ZA)), .slice q (ln VA) (ln VA)] 27
            have b9 := below_alloc (w := v1) (.cells #[.bool (ng ZA), .slice p (ln (am ZA)) (ln (am ZA)), .slice q (ln VA) (ln VA)] 27)
            replace qR := qR.later b9
            replace kp0 := kp0.later b9
            replace kq0 := kq0.later b9
            replace q4 := q4.later b9
            replace s1 := s1.later b9
            replace s2 := s2.later b9
            replace s3 := s3.later b9
            replace s4 := s4.later b9
            replace kp := kp.later b9
            replace kq := kq.later b9
            replace bb := bb.trans (b9.mono bb.size)
            clear b9
            go_wp2_with fail
            refine (J2.out _).mono ?_
            rintro e v2 ⟨r, t, rfl, b9, kr, kt⟩
            replace qR := qR.later b9
            replace kp0 := kp0.later b9
            replace kq0 := kq0.later b9
            replace q4 := q4.later b9
            replace s1 := s1.later b9
            replace s2 := s2.later b9
            replace s3 := s3.later b9
            replace s4 := s4.later b9
            replace kp := kp.later b9
            replace kq := kq.later b9
            replace qA := qA.later b9
            replace bb := bb.trans (b9.mono bb.size)
            clear b9
            have qB := Blk.new v2 #[.bool (ng Z2), .slice r (ln (am Z2)) (ln (am Z2)), .slice t (ln VB) (ln VB)] 27
            have b9 := below_alloc (w := v2) (.cells #[.bool (ng Z2), .slice r (ln (am Z2)) (ln (am Z2)), .slice t (ln VB) (ln VB)] 27)
            replace qR := qR.later b9
            replace kp0 := kp0.later b9
            replace kq0 := kq0.later b9
            replace q4 := q4.later b9
            replace s1 := s1.later b9
            replace s2 := s2.later b9
            replace s3 := s3.later b9
            replace s4 := s4.later b9
            replace kp := kp.later b9
            replace kq := kq.later b9
            replace qA := qA.later b9
            replace kr := kr.later b9
            replace kt := kt.later b9
            replace bb := bb.trans (b9.mono bb.size)
            clear b9
            have x0 := qA.cell 0
            have x1 := qA.cell 1
            have x2 := qA.cell 2
            simp only [List.getElem?_toArray, List.getElem?_cons_zero, List.getElem?_cons_succ] at x0 x1 x2
            have y0 := qB.cell 0
            have y1 := qB.cell 1
            have y2 := qB.cell 2
            simp only [List.getElem?_toArray, List.getElem?_cons_zero, List.getElem?_cons_succ] at y0 y1 y2
            subst hZB
            go_wp2_with fail
            clear x0 x1 x2 y0 y1 y2
            have qD := Blk.new (v2.alloc (.cells #[.bool (ng Z2), .slice r (ln (am Z2)) (ln (am Z2)), .slice t (ln VB) (ln VB)] 27)) #[.bool (ng ZA), .slice p (ln (am ZA)) (ln (am ZA)), .slice q (ln VA) (ln VA), .bool (ng Z2), .slice r (ln (am Z2)) (ln (am Z2)), .slice t (ln VB) (ln VB)] 29
            have b9 := below_alloc (w := (v2.alloc (.cells #[.bool (ng Z2), .slice r (ln (am Z2)) (ln (am Z2)), .slice t (ln VB) (ln VB)] 27))) (.cells #[.bool (ng ZA), .slice p (ln (am ZA)) (ln (am ZA)), .slice q (ln VA) (ln VA), .bool (ng Z2), .slice r (ln (am Z2)) (ln (am Z2)), .slice t (ln VB) (ln VB)] 29)
            replace qR := qR.later b9
            replace kp0 := kp0.later b9
            replace kq0 := kq0.later b9
            replace q4 := q4.later b9
            replace s1 := s1.later b9
            replace s2 := s2.later b9
            replace s3 := s3.later b9
            replace s4 := s4.later b9
            replace kp := kp.later b9
            replace kq := kq.later b9
            replace qA := qA.later b9
            replace kr := kr.later b9
            replace kt := kt.later b9
            replace qB := qB.later b9
            replace bb := bb.trans (b9.mono bb.size)
            clear b9
            rw [World.size_alloc] at qD
            refine (GT2.out _ _ _ _ _ kp kq kr kt).mono ?_
            rintro e v5 ⟨rfl, b9⟩
            replace qR := qR.later b9
            replace kp0 := kp0.later b9
            replace kq0 := kq0.later b9
            replace q4 := q4.later b9
            replace s1 := s1.later b9
            replace s2 := s2.later b9
            replace s3 := s3.later b9
            replace s4 := s4.later b9
            replace kp := kp.later b9
            replace kq := kq.later b9
            replace qA := qA.later b9
            replace kr := kr.later b9
            replace kt := kt.later b9
            replace qB := qB.later b9
            replace qD := qD.later b9
            replace bb := bb.trans (b9.mono bb.size)
            clear b9
            by_cases hSs : S2 = s
            · subst hSs
              have hne2 : (S2.toList == S2.toList) = true := by simp
              have x0 := qD.cell 0
              have x1 := qD.cell 1
              have x2 := qD.cell 2
              have x3 := qD.cell 3
              have x4 := qD.cell 4
              have x5 := qD.cell 5
              simp only [List.getElem?_toArray, List.getElem?_cons_zero, List.getElem?_cons_succ] at x0 x1 x2 x3 x4 x5
              have v0 := qR.cell 0
              have v1 := qR.cell 1
              have v2 := qR.cell 2
              have v3 := qR.cell 3
              have v4 := qR.cell 4
              have v5 := qR.cell 5
              simp only [List.getElem?_toArray, List.getElem?_cons_zero, List.getElem?_cons_succ] at v0 v1 v2 v3 v4 v5
              have fz := fun o => qR.frozen o
              go_wp2
              obtain ⟨c9, q9⟩ := qR.set6 (.bool (ng ZA)) (.slice p (ln (am ZA)) (ln (am ZA))) (.slice q (ln VA) (ln VA)) (.bool (ng Z2)) (.slice r (ln (am Z2)) (ln (am Z2))) (.slice t (ln VB) (ln VB))
              have hno := qR.no (by simp)
              have z0 := q9.cell 0
              have z1 := q9.cell 1
              have z2 := q9.cell 2
              have z3 := q9.cell 3
              have z4 := q9.cell 4
              have z5 := q9.cell 5
              simp only [List.getElem?_toArray, List.getElem?_cons_zero, List.getElem?_cons_succ] at z0 z1 z2 z3 z4 z5
              refine bodyPost_ret (v := .tuple #[.agg #[.bool (ng ZA), .slice p (ln (am ZA)) (ln (am ZA)), .slice q (ln VA) (ln VA), .bool (ng Z2), .slice r (ln (am Z2)) (ln (am Z2)), .slice t (ln VB) (ln VB)], .int .i64 0]) (by rw [results_ct rfl]; go_simp) rfl ?_
              exact Or.inl ⟨ZA, VA, Z2, VB, p, q, r, t, HF.out.1, HF.out.2, rfl, (bel.trans (bb.mono bel.size)).trans (c9.below (Nat.le_refl _)), kp.ch c9 hno, kq.ch c9 hno, kr.ch c9 hno, kt.ch c9 hno⟩
            · have hne2 : (S2.toList == s.toList) = false := by rw [beq_eq_false_iff_ne]; exact fun e => hSs (bytes_list e)
              go_wp2
              go_roundw
              case rel => exact ⟨i + 1, by omega, by go_num, Or.inr (by omega), bb, HNX.out (fun h => hSs (HQ.out h))⟩
              case measure => simp [intOf]; omega
        · have fl : (((s[s.size - 1]'hl).toNat : Int) != 100) = true := by rw [bne_iff_ne]; omega
          go_wp2
          go_roundw
          case rel => exact ⟨i + 1, by omega, by go_num, Or.inr (by omega), bb, HNX.out (fun ⟨_, _, _, _, _, k, _⟩ => cc k)⟩
          case measure => simp [intOf]; omega
      · have f43 : (((s[i]'hlt).toNat : Int) != 43) = true := by rw [bne_iff_ne]; omega
        by_cases cb : byt s i = 45
        · have f45 : (((s[i]'hlt).toNat : Int) == 45) = true := by rw [← ek, cb]; decide
          have f45' : (((s[i]'hlt).toNat : Int) != 45) = false := by rw [← ek, cb]; decide
          by_cases cc : byt s (s.size - 1) = 100
          · have fl : (((s[s.size - 1]'hl).toNat : Int) != 100) = false := by rw [← el, cc]; decide
            clear el ek
            have z1 : (s.extract 0 i).size ≤ 16777216 := by rw [ByteArray.size_extract]; omega
            have z2 : (s.extract (i + 1) (s.size - 1)).size ≤ 16777216 := by rw [ByteArray.size_extract]; omega
            obtain ⟨oa, hoa⟩ := Rd.ex (bodyOf (s.extract 0 i))
            obtain ⟨ob, hob⟩ := Rd.ex (bodyOf (s.extract (i + 1) (s.size - 1)))
            rcases oa with _ | ⟨Xa, Ya⟩ <;> rcases ob with _ | ⟨Xb, Yb⟩
            · have TT := trivial
              have J1 := hide' (fun w' => vqParse_none (s.extract 0 i) (by omega) hoa w')
              have J2 := hide' (fun w' => vqParse_none (s.extract (i + 1) (s.size - 1)) (by omega) hob w')
              have HH := hide' (show ¬ Hit s i from fun ⟨_, _, _, _, _, _, ⟨X, Y, k1, _⟩, _, _⟩ => by cases hoa.uniq k1)
              clear hoa hob z1 z2 ca cb
              go_wp2_with fail
              refine (J1.out _).mono ?_
              rintro e v1 ⟨rfl, b9⟩
              replace qR := qR.later b9
              replace kp0 := kp0.later b9
              replace kq0 := kq0.later b9
              replace q4 := q4.later b9
              replace s1 := s1.later b9
              replace s2 := s2.later b9
              replace s3 := s3.later b9
              replace s4 := s4.later b9
              replace bb := bb.trans (b9.mono bb.size)
              clear b9
              have qA := Blk.new v1 #[.bool false, .slice none 0 0, .slice none 0 0] 27
              have b9 := below_alloc (w := v1) (.cells #[.bool false, .slice none 0 0, .slice none 0 0] 27)
              replace qR := qR.later b9
              replace kp0 := kp0.later b9
              replace kq0 := kq0.later b9
              replace q4 := q4.later b9
              replace s1 := s1.later b9
              replace s2 := s2.later b9
              replace s3 := s3.later b9
              replace s4 := s4.later b9
              replace bb := bb.trans (b9.mono bb.size)
              clear b9
              go_wp2_with fail
              refine (J2.out _).mono ?_
              rintro e v2 ⟨rfl, b9⟩
              replace qR := qR.later b9
              replace kp0 := kp0.later b9
              replace kq0 := kq0.later b9
              replace q4 := q4.later b9
              replace s1 := s1.later b9
              replace s2 := s2.later b9
              replace s3 := s3.later b9
              replace s4 := s4.later b9
              replace qA := qA.later b9
              replace bb := bb.trans (b9.mono bb.size)
              clear b9
              have qB := Blk.new v2 #[.bool false, .slice none 0 0, .slice none 0 0] 27
              have b9 := below_alloc (w := v2) (.cells #[.bool false, .slice none 0 0, .slice none 0 0] 27)
              replace qR := qR.later b9
              replace kp0 := kp0.later b9
              replace kq0 := kq0.later b9
              replace q4 := q4.later b9
              replace s1 := s1.later b9
              replace s2 := s2.later b9
              replace s3 := s3.later b9
              replace s4 := s4.later b9
              replace qA := qA.later b9
              replace bb := bb.trans (b9.mono bb.size)
              clear b9
              go_wp2
              go_roundw
              case rel => exact ⟨i + 1, by omega, by go_num, Or.inr (by omega), bb, HNX.out (HH.out)⟩
              case measure => simp [intOf]; omega
            · have TT := trivial
              have J1 := hide' (fun w' => vqParse_none (s.extract 0 i) (by omega) hoa w')
              obtain ⟨gB, _, _⟩ := hob.good
              obtain ⟨Z2, VB, hLB⟩ := low_ex (sg (negOf (s.extract (i + 1) (s.size - 1))) Xb) (Yb : Int) (by omega)
              have rB : RQ (s.extract (i + 1) (s.size - 1)) Z2 VB := ⟨_, _, hob, hLB⟩
              have lB := rB.low
              have J2 := hide' (fun w' => vqParse_some (s.extract (i + 1) (s.size - 1)) Xb Yb VB Z2 (by omega) hob hLB w')
              have HH := hide' (show ¬ Hit s i from fun ⟨_, _, _, _, _, _, ⟨X, Y, k1, _⟩, _, _⟩ => by cases hoa.uniq k1)
              clear hoa hob gB hLB lB z1 z2 ca cb
              go_wp2_with fail
              refine (J1.out _).mono ?_
              rintro e v1 ⟨rfl, b9⟩
              replace qR := qR.later b9
              replace kp0 := kp0.later b9
              replace kq0 := kq0.later b9
              replace q4 := q4.later b9
              replace s1 := s1.later b9
              replace s2 := s2.later b9
              replace s3 := s3.later b9
              replace s4 := s4.later b9
              replace bb := bb.trans (b9.mono bb.size)
              clear b9
              have qA := Blk.new v1 #[.bool false, .slice none 0 0, .slice none 0 0] 27
              have b9 := below_alloc (w := v1) (.cells #[.bool false, .slice none 0 0, .slice none 0 0] 27)
              replace qR := qR.later b9
              replace kp0 := kp0.later b9
              replace kq0 := kq0.later b9
              replace q4 := q4.later b9
              replace s1 := s1.later b9
              replace s2 := s2.later b9
              replace s3 := s3.later b9
              replace s4 := s4.later b9
              replace bb := bb.trans (b9.mono bb.size)
              clear b9
              go_wp2_with fail
              refine (J2.out _).mono ?_
              rintro e v2 ⟨r, t, rfl, b9, kr, kt⟩
              replace qR := qR.later b9
              replace kp0 := kp0.later b9
              replace kq0 := kq0.later b9
              replace q4 := q4.later b9
              replace s1 := s1.later b9
              replace s2 := s2.later b9
              replace s3 := s3.later b9
              replace s4 := s4.later b9
              replace qA := qA.later b9
              replace bb := bb.trans (b9.mono bb.size)
              clear b9
              have qB := Blk.new v2 #[.bool (ng Z2), .slice r (ln (am Z2)) (ln (am Z2)), .slice t (ln VB) (ln VB)] 27
              have b9 := below_alloc (w := v2) (.cells #[.bool (ng Z2), .slice r (ln (am Z2)) (ln (am Z2)), .slice t (ln VB) (ln VB)] 27)
              replace qR := qR.later b9
              replace kp0 := kp0.later b9
              replace kq0 := kq0.later b9
              replace q4 := q4.later b9
              replace s1 := s1.later b9
              replace s2 := s2.later b9
              replace s3 := s3.later b9
              replace s4 := s4.later b9
              replace qA := qA.later b9
              replace kr := kr.later b9
              replace kt := kt.later b9
              replace bb := bb.trans (b9.mono bb.size)
              clear b9
              go_wp2
              go_roundw
              case rel => exact ⟨i + 1, by omega, by go_num, Or.inr (by omega), bb, HNX.out (HH.out)⟩
              case measure => simp [intOf]; omega
            · have TT := trivial
              obtain ⟨gA, _, _⟩ := hoa.good
              obtain ⟨ZA, VA, hLA⟩ := low_ex (sg (negOf (s.extract 0 i)) Xa) (Ya : Int) (by omega)
              have rA : RQ (s.extract 0 i) ZA VA := ⟨_, _, hoa, hLA⟩
              have lA := rA.low
              have J1 := hide' (fun w' => vqParse_some (s.extract 0 i) Xa Ya VA ZA (by omega) hoa hLA w')
              have J2 := hide' (fun w' => vqParse_none (s.extract (i + 1) (s.size - 1)) (by omega) hob w')
              have HH := hide' (show ¬ Hit s i from fun ⟨_, _, _, _, _, _, _, ⟨X, Y, k1, _⟩, _⟩ => by cases hob.uniq k1)
              clear hoa hob gA hLA lA z1 z2 ca cb
              go_wp2_with fail
              refine (J1.out _).mono ?_
              rintro e v1 ⟨p, q, rfl, b9, kp, kq⟩
              replace qR := qR.later b9
              replace kp0 := kp0.later b9
              replace kq0 := kq0.later b9
              replace q4 := q4.later b9
              replace s1 := s1.later b9
              replace s2 := s2.later b9
              replace s3 := s3.later b9
              replace s4 := s4.later b9
              replace bb := bb.trans (b9.mono bb.size)
              clear b9
              have qA := Blk.new v1 #[.bool (ng ZA), .slice p (ln (am ZA)) (ln (am ZA)), .slice q (ln VA) (ln VA)] 27
              have b9 := below_alloc (w := v1) (.cells #[.bool (ng ZA), .slice p (ln (am ZA)) (ln (am ZA)), .slice q (ln VA) (ln VA)] 27)
              replace qR := qR.later b9
              replace kp0 := kp0.later b9
              replace kq0 := kq0.later b9
              replace q4 := q4.later b9
              replace s1 := s1.later b9
              replace s2 := s2.later b9
              replace s3 := s3.later b9
              replace s4 := s4.later b9
              replace kp := kp.later b9
              replace kq := kq.later b9
              replace bb := bb.trans (b9.mono bb.size)
              clear b9
              go_wp2_with fail
              refine (J2.out _).mono ?_
              rintro e v2 ⟨rfl, b9⟩
              replace qR := qR.later b9
              replace kp0 := kp0.later b9
              replace kq0 := kq0.later b9
              replace q4 := q4.later b9
              replace s1 := s1.later b9
              replace s2 := s2.later b9
              replace s3 := s3.later b9
              replace s4 := s4.later b9
              replace kp := kp.later b9
              replace kq := kq.later b9
              replace qA := qA.later b9
              replace bb := bb.trans (b9.mono bb.size)
              clear b9
              have qB := Blk.new v2 #[.bool false, .slice none 0 0, .slice none 0 0] 27
              have b9 := below_alloc (w := v2) (.cells #[.bool false, .slice none 0 0, .slice none 0 0] 27)
              replace qR := qR.later b9
              replace kp0 := kp0.later b9
              replace kq0 := kq0.later b9
              replace q4 := q4.later b9
              replace s1 := s1.later b9
              replace s2 := s2.later b9
              replace s3 := s3.later b9
              replace s4 := s4.later b9
              replace kp := kp.later b9
              replace kq := kq.later b9
              replace qA := qA.later b9
              replace bb := bb.trans (b9.mono bb.size)
              clear b9
              go_wp2
              go_roundw
              case rel => exact ⟨i + 1, by omega, by go_num, Or.inr (by omega), bb, HNX.out (HH.out)⟩
              case measure => simp [intOf]; omega
            · have TT := trivial
              obtain ⟨gA, _, _⟩ := hoa.good
              obtain ⟨ZA, VA, hLA⟩ := low_ex (sg (negOf (s.extract 0 i)) Xa) (Ya : Int) (by omega)
              have rA : RQ (s.extract 0 i) ZA VA := ⟨_, _, hoa, hLA⟩
              have lA := rA.low
              have J1 := hide' (fun w' => vqParse_some (s.extract 0 i) Xa Ya VA ZA (by omega) hoa hLA w')
              obtain ⟨gB, _, _⟩ := hob.good
              obtain ⟨Z2, VB, hLB⟩ := low_ex (sg (negOf (s.extract (i + 1) (s.size - 1))) Xb) (Yb : Int) (by omega)
              have rB : RQ (s.extract (i + 1) (s.size - 1)) Z2 VB := ⟨_, _, hob, hLB⟩
              have lB := rB.low
              have J2 := hide' (fun w' => vqParse_some (s.extract (i + 1) (s.size - 1)) Xb Yb VB Z2 (by omega) hob hLB w')
              obtain ⟨ZB, hZB⟩ : ∃ ZB, -Z2 = ZB := ⟨_, rfl⟩
              have aZ : am ZB = am Z2 := by rw [← hZB, am_neg]
              have hNg : Low (-(rn (ng Z2) (am Z2) VB)) ((rd VB : Nat) : Int) ZB VB := by rw [rn_nf lB.1, rd_nf lB.1, ← hZB]; exact (Low.self lB.1 lB.2.1).neg
              have GN := hide' (fun r t w' k1 k2 => vqNeg_is (ng Z2) r (ln (am Z2)) (ln (am Z2)) (am Z2) t (ln VB) (ln VB) VB ZB VB w' (Nat.le_refl _) (by omega) k1 (Nat.le_refl _) (by omega) k2 hNg)
              clear hNg
              have hN : NmD ZA VA ZB VB := ⟨lA.1, lA.2.1, lB.1, by rw [aZ]; exact lB.2.1⟩
              obtain ⟨S2, hS2⟩ := TxD.ex ZA VA ZB VB
              have hq : ∀ h : Hit s i, S2 = s := fun ⟨_, _, _, _, _, _, k1, k2, k3⟩ => by
                obtain ⟨rfl, rfl⟩ := rA.uniq k1
                obtain ⟨rfl, rfl⟩ := rB.uniq k2
                rw [if_pos cb, hZB] at k3
                exact hS2.one k3
              have GT2 := hide' (fun p q r t w' k1 k2 k3 k4 => vTextT ZA VA ZB VB S2 hN hS2 (by omega) (by omega) (by rw [aZ]; omega) (by omega) p q r t w' k1 k2 k3 k4)
              have HF := hide' (And.intro hN hS2)
              have HQ := hide' hq
              clear hN hS2 hq aZ rA rB hZB
              clear hoa hob gA hLA lA gB hLB lB z1 z2 ca cb
              go_wp2_with fail
              refine (J1.out _).mono ?_
              rintro e v1 ⟨p, q, rfl, b9, kp, kq⟩
              replace qR := qR.later b9
              replace kp0 := kp0.later b9
              replace kq0 := kq0.later b9
              replace q4 := q4.later b9
              replace s1 := s1.later b9
              replace s2 := s2.later b9
              replace s3 := s3.later b9
              replace s4 := s4.later b9
              replace bb := bb.trans (b9.mono bb.size)
              clear b9
              have qA := Blk.new v1 #[.bool (ng ZA), .slice p (ln (am ZA)) (ln (am ZA)), .slice q (ln VA) (ln VA)] 27
              have b9 := below_alloc (w := v1) (.cells #[.bool (ng ZA), .slice p (ln (am ZA)) (ln (am ZA)), .slice q (ln VA) (ln VA)] 27)
              replace qR := qR.later b9
              replace kp0 := kp0.later b9
              replace kq0 := kq0.later b9
              replace q4 := q4.later b9
              replace s1 := s1.later b9
              replace s2 := s2.later b9
              replace s3 := s3.later b9
              replace s4 := s4.later b9
              replace kp := kp.later b9
              replace kq := kq.later b9
              replace bb := bb.trans (b9.mono bb.size)
              clear b9
              go_wp2_with fail
              refine (J2.out _).mono ?_
              rintro e v2 ⟨r, t, rfl, b9, kr, kt⟩
              replace qR := qR.later b9
              replace kp0 := kp0.later b9
              replace kq0 := kq0.later b9
              replace q4 := q4.later b9
              replace s1 := s1.later b9
              replace s2 := s2.later b9
              replace s3 := s3.later b9
              replace s4 := s4.later b9
              replace kp := kp.later b9
              replace kq := kq.later b9
              replace qA := qA.later b9
              replace bb := bb.trans (b9.mono bb.size)
              clear b9
              have hx1 : v1.heap.size ≠ v2.heap.size := Nat.ne_of_lt qA.lt
              have hx2 : w.heap.size ≠ v2.heap.size := Nat.ne_of_lt qR.lt
              have hx3 : W0.heap.size ≤ v2.heap.size := bb.size
              have qB := Blk.new v2 #[.bool (ng Z2), .slice r (ln (am Z2)) (ln (am Z2)), .slice t (ln VB) (ln VB)] 27
              have b9 := below_alloc (w := v2) (.cells #[.bool (ng Z2), .slice r (ln (am Z2)) (ln (am Z2)), .slice t (ln VB) (ln VB)] 27)
              replace qR := qR.later b9
              replace kp0 := kp0.later b9
              replace kq0 := kq0.later b9
              replace q4 := q4.later b9
              replace s1 := s1.later b9
              replace s2 := s2.later b9
              replace s3 := s3.later b9
              replace s4 := s4.later b9
              replace kp := kp.later b9
              replace kq := kq.later b9
              replace qA := qA.later b9
              replace kr := kr.later b9
              replace kt := kt.later b9
              replace bb := bb.trans (b9.mono bb.size)
              clear b9
              have x0 := qA.cell 0
              have x1 := qA.cell 1
              have x2 := qA.cell 2
              simp only [List.getElem?_toArray, List.getElem?_cons_zero, List.getElem?_cons_succ] at x0 x1 x2
              have y0 := qB.cell 0
              have y1 := qB.cell 1
              have y2 := qB.cell 2
              simp only [List.getElem?_toArray, List.getElem?_cons_zero, List.getElem?_cons_succ] at y0 y1 y2
              go_wp2_with fail
              clear x0 x1 x2 y0 y1 y2
              refine (GN.out r t _ kr kt).mono ?_
              rintro e v3 ⟨rN, tN, rfl, n1, n2⟩
              have b9 := n1.below
              have kN := n1.seg
              have kM := n2.seg
              clear n1 n2
              replace qR := qR.later b9
              replace kp0 := kp0.later b9
              replace kq0 := kq0.later b9
              replace q4 := q4.later b9
              replace s1 := s1.later b9
              replace s2 := s2.later b9
              replace s3 := s3.later b9
              replace s4 := s4.later b9
              replace kp := kp.later b9
              replace kq := kq.later b9
              replace qA := qA.later b9
              replace kr := kr.later b9
              replace kt := kt.later b9
              replace qB := qB.later b9
              replace bb := bb.trans (b9.mono bb.size)
              clear b9
              have y0 := qB.cell 0
              have y1 := qB.cell 1
              have y2 := qB.cell 2
              simp only [List.getElem?_toArray, List.getElem?_cons_zero, List.getElem?_cons_succ] at y0 y1 y2
              have fz := fun o => qB.frozen o
              have cNo := qB.no (by simp)
              obtain ⟨cN, qN⟩ := qB.set3 (.bool (ng ZB)) (.slice rN (ln (am ZB)) (ln (am ZB))) (.slice tN (ln VB) (ln VB))
              have hz5 := cN.size
              have qA5 := qA.ch cN hx1
              have qR5 := qR.ch cN hx2
              have kp5 := kp.ch cN cNo
              have kq5 := kq.ch cN cNo
              have kN5 := kN.ch cN cNo
              have kM5 := kM.ch cN cNo
              have bb5 := bb.trans (cN.below hx3)
              have u0 := qN.cell 0
              have u1 := qN.cell 1
              have u2 := qN.cell 2
              simp only [List.getElem?_toArray, List.getElem?_cons_zero, List.getElem?_cons_succ] at u0 u1 u2
              have x0 := qA5.cell 0
              have x1 := qA5.cell 1
              have x2 := qA5.cell 2
              simp only [List.getElem?_toArray, List.getElem?_cons_zero, List.getElem?_cons_succ] at x0 x1 x2
              go_wp2_with fail
              clear qA qR kp kq kr kt kN kM bb qB cN cNo y0 y1 y2 fz
              generalize (((v3.setCell ⟨v2.heap.size, 0, none⟩ (.bool (ng ZB))).setCell ⟨v2.heap.size, 1, none⟩ (.slice rN (ln (am ZB)) (ln (am ZB)))).setCell ⟨v2.heap.size, 2, none⟩ (.slice tN (ln VB) (ln VB))) = W5 at *
              clear u0 u1 u2 x0 x1 x2
              have qR := qR5
              clear qR5
              have qA := qA5
              clear qA5
              have kp := kp5
              clear kp5
              have kq := kq5
              clear kq5
              have kN := kN5
              clear kN5
              have kM := kM5
              clear kM5
              have bb := bb5
              clear bb5
              have qD := Blk.new W5 #[.bool (ng ZA), .slice p (ln (am ZA)) (ln (am ZA)), .slice q (ln VA) (ln VA), .bool (ng ZB), .slice rN (ln (am ZB)) (ln (am ZB)), .slice tN (ln VB) (ln VB)] 29
              have b9 := below_alloc (w := W5) (.cells #[.bool (ng ZA), .slice p (ln (am ZA)) (ln (am ZA)), .slice q (ln VA) (ln VA), .bool (ng ZB), .slice rN (ln (am ZB)) (ln (am ZB)), .slice tN (ln VB) (ln VB)] 29)
              replace qR := qR.later b9
              replace qA := qA.later b9
              replace kp := kp.later b9
              replace kq := kq.later b9
              replace kN := kN.later b9
              replace kM := kM.later b9
              replace bb := bb.trans (b9.mono bb.size)
              clear b9
              rw [hz5] at qD
              refine (GT2.out _ _ _ _ _ kp kq kN kM).mono ?_
              rintro e v5 ⟨rfl, b9⟩
              replace qR := qR.later b9
              replace qA := qA.later b9
              replace kp := kp.later b9
              replace kq := kq.later b9
              replace kN := kN.later b9
              replace kM := kM.later b9
              replace qD := qD.later b9
              replace bb := bb.trans (b9.mono bb.size)
              clear b9
              by_cases hSs : S2 = s
              · subst hSs
                have hne2 : (S2.toList == S2.toList) = true := by simp
                have x0 := qD.cell 0
                have x1 := qD.cell 1
                have x2 := qD.cell 2
                have x3 := qD.cell 3
                have x4 := qD.cell 4
                have x5 := qD.cell 5
                simp only [List.getElem?_toArray, List.getElem?_cons_zero, List.getElem?_cons_succ] at x0 x1 x2 x3 x4 x5
                have v0 := qR.cell 0
                have v1 := qR.cell 1
                have v2 := qR.cell 2
                have v3 := qR.cell 3
                have v4 := qR.cell 4
                have v5 := qR.cell 5
                simp only [List.getElem?_toArray, List.getElem?_cons_zero, List.getElem?_cons_succ] at v0 v1 v2 v3 v4 v5
                have fz := fun o => qR.frozen o
                go_wp2
                obtain ⟨c9, q9⟩ := qR.set6 (.bool (ng ZA)) (.slice p (ln (am ZA)) (ln (am ZA))) (.slice q (ln VA) (ln VA)) (.bool (ng ZB)) (.slice rN (ln (am ZB)) (ln (am ZB))) (.slice tN (ln VB) (ln VB))
                have hno := qR.no (by simp)
                have z0 := q9.cell 0
                have z1 := q9.cell 1
                have z2 := q9.cell 2
                have z3 := q9.cell 3
                have z4 := q9.cell 4
                have z5 := q9.cell 5
                simp only [List.getElem?_toArray, List.getElem?_cons_zero, List.getElem?_cons_succ] at z0 z1 z2 z3 z4 z5
                refine bodyPost_ret (v := .tuple #[.agg #[.bool (ng ZA), .slice p (ln (am ZA)) (ln (am ZA)), .slice q (ln VA) (ln VA), .bool (ng ZB), .slice rN (ln (am ZB)) (ln (am ZB)), .slice tN (ln VB) (ln VB)], .int .i64 0]) (by rw [results_ct rfl]; go_simp) rfl ?_
                exact Or.inl ⟨ZA, VA, ZB, VB, p, q, rN, tN, HF.out.1, HF.out.2, rfl, (bel.trans (bb.mono bel.size)).trans (c9.below (Nat.le_refl _)), kp.ch c9 hno, kq.ch c9 hno, kN.ch c9 hno, kM.ch c9 hno⟩
              · have hne2 : (S2.toList == s.toList) = false := by rw [beq_eq_false_iff_ne]; exact fun e => hSs (bytes_list e)
                go_wp2
                go_roundw
                case rel => exact ⟨i + 1, by omega, by go_num, Or.inr (by omega), bb, HNX.out (fun h => hSs (HQ.out h))⟩
                case measure => simp [intOf]; omega
          · have fl : (((s[s.size - 1]'hl).toNat : Int) != 100) = true := by rw [bne_iff_ne]; omega
            go_wp2
            go_roundw
            case rel => exact ⟨i + 1, by omega, by go_num, Or.inr (by omega), bb, HNX.out (fun ⟨_, _, _, _, _, k, _⟩ => cc k)⟩
            case measure => simp [intOf]; omega
        · have f45' : (((s[i]'hlt).toNat : Int) != 45) = true := by rw [bne_iff_ne]; omega
          go_wp2
          go_roundw
          case rel => exact ⟨i + 1, by omega, by go_num, Or.inr (by omega), bb, HNX.out (fun ⟨_, _, _, _, k, _⟩ => by omega)⟩
          case measure => simp [intOf]; omega
    · have hend : ¬ ((i : Int) + 1 < (s.size : Int)) := by omega
      have HE := noD HN0.out (fun j j1 j2 => HX.out j j1 (by omega))
      have v0 := qR.cell 0
      have v1 := qR.cell 1
      have v2 := qR.cell 2
      have v3 := qR.cell 3
      have v4 := qR.cell 4
      have v5 := qR.cell 5
      simp only [List.getElem?_toArray, List.getElem?_cons_zero, List.getElem?_cons_succ] at v0 v1 v2 v3 v4 v5
      have fz := fun o => qR.frozen o
      go_wp2
      obtain ⟨c9, q9⟩ := qR.set6 (.bool false) (.slice none 0 0) (.slice none 0 0) (.bool false) (.slice none 0 0) (.slice none 0 0)
      have hno := qR.no (by simp)
      have z0 := q9.cell 0
      have z1 := q9.cell 1
      have z2 := q9.cell 2
      have z3 := q9.cell 3
      have z4 := q9.cell 4
      have z5 := q9.cell 5
      simp only [List.getElem?_toArray, List.getElem?_cons_zero, List.getElem?_cons_succ] at z0 z1 z2 z3 z4 z5
      refine bodyPost_ret (v := .tuple #[.agg #[.bool false, .slice none 0 0, .slice none 0 0, .bool false, .slice none 0 0, .slice none 0 0], .int .i64 50]) (by rw [results_ct rfl]; go_simp) rfl ?_
      exact Or.inr ⟨HE, rfl, bw.trans (c9.below (Nat.le_refl _))⟩

theorem vdParse_is (s : ByteArray) (hs : s.size ≤ 16777216) (w : World) : Calls Tryz.prog 5 #[.string s] w fun e w' => (∃ (ZA : Int) (VA : Nat) (ZB : Int) (VB : Nat) (p q r t : Option Addr), NmD ZA VA ZB VB ∧ TxD ZA VA ZB VB s ∧ e = .returned (.tuple #[.agg #[.bool (ng ZA), .slice p (ln (am ZA)) (ln (am ZA)), .slice q (ln VA) (ln VA), .bool (ng ZB), .slice r (ln (am ZB)) (ln (am ZB)), .slice t (ln VB) (ln VB)], .int .i64 0]) ∧ Below w.heap.size w w' ∧ Seg w' p (am ZA) (ln (am ZA)) ∧ Seg w' q VA (ln VA) ∧ Seg w' r (am ZB) (ln (am ZB)) ∧ Seg w' t VB (ln VB)) ∨ ((∀ ZA VA ZB VB, NmD ZA VA ZB VB → ¬ TxD ZA VA ZB VB s) ∧ e = .returned (.tuple #[.agg #[.bool false, .slice none 0 0, .slice none 0 0, .bool false, .slice none 0 0, .slice none 0 0], .int .i64 50]) ∧ Below w.heap.size w w') := by
  obtain ⟨o, ho⟩ := Rd.ex (bodyOf s)
  rcases o with _ | ⟨X, Y⟩
  · exact vdParse_none s hs ho w
  · obtain ⟨gA, _, _⟩ := ho.good
    obtain ⟨Z, V, hL⟩ := low_ex (sg (negOf s) X) (Y : Int) (by omega)
    have hR : RQ s Z V := ⟨_, _, ho, hL⟩
    obtain ⟨S, hS⟩ := TxD.ex Z V 0 1
    by_cases h : S = s
    · subst h
      exact vdParse_own S hs Z V hR hS w
    · exact vdParse_some s hs Z V hR S hS h w
end Go.Proofs.YtjbeagbkjmaeeaaGreatDoor
