/-
  strings.IndexRune of the seventeen signs and a character of several bytes; isSymbol.
-/
import Derived.Test.YtibeiggedmabkaaDoorTK3
import Derived.WalkMore
namespace Go.Proofs.YtibeiggedmabkaaDoor
open Go.RowKit
set_option linter.unusedVariables false
set_option linter.unusedSimpArgs false

set_option maxHeartbeats 2000000 in
theorem validRune_is (r : Nat) (w : World) : Calls Tryd.prog 87 #[.int .i32 r] w fun e w' => e = .returned (.bool (Utf8.valid r)) ∧ w' = w := by
  rw [validRune_eq]
  unfold validRune
  have h0 : (0 : Int) ≤ (r : Int) := by omega
  by_cases h1 : (r : Int) < 55296
  · have hv : decide ((0 ≤ (r : Int) ∧ (r : Int) < 55296) ∨ (57343 < (r : Int) ∧ (r : Int) ≤ 1114111)) = true := by simp; omega
    rw [hv]
    go_enter Tryd.func87, Tryd.ntmps87
    go_wp2
    go_ret
    exact ⟨rfl, rfl⟩
  · by_cases h2 : (57343 : Int) < (r : Int)
    · by_cases h3 : (r : Int) ≤ 1114111
      · have hv : decide ((0 ≤ (r : Int) ∧ (r : Int) < 55296) ∨ (57343 < (r : Int) ∧ (r : Int) ≤ 1114111)) = true := by simp; omega
        rw [hv]
        go_enter Tryd.func87, Tryd.ntmps87
        go_wp2
        go_ret
        exact ⟨rfl, rfl⟩
      · have hv : decide ((0 ≤ (r : Int) ∧ (r : Int) < 55296) ∨ (57343 < (r : Int) ∧ (r : Int) ≤ 1114111)) = false := by simp; omega
        rw [hv]
        go_enter Tryd.func87, Tryd.ntmps87
        go_wp2
        go_ret
        exact ⟨rfl, rfl⟩
    · have hv : decide ((0 ≤ (r : Int) ∧ (r : Int) < 55296) ∨ (57343 < (r : Int) ∧ (r : Int) ≤ 1114111)) = false := by simp; omega
      rw [hv]
      go_enter Tryd.func87, Tryd.ntmps87
      go_wp2
      go_ret
      exact ⟨rfl, rfl⟩

set_option maxHeartbeats 4000000 in
set_option maxRecDepth 1000000 in
theorem indexRune_bad (r : Nat) (hr : 128 ≤ r) (hn : r ≠ 65533) (hv : Utf8.valid r = false) (w : World) : Calls Tryd.prog 84 #[.string sgS, .int .i32 r] w fun e w' => e = .returned (.int .i64 (-1)) ∧ w' = w := by
  have h1 : (0 : Int) ≤ (r : Int) := by omega
  have h2 : ¬ (r : Int) < 128 := by omega
  have h3 : ((r : Int) == 65533) = false := by rw [beq_eq_false_iff_ne]; omega
  have H := hideT (fun w' => validRune_is r w')
  rw [hv] at H
  clear hv hn
  generalize sgS = s
  go_enter Tryd.func84, Tryd.ntmps84
  go_wp2_with fail
  refine (H.out _).mono ?_
  rintro e w1 ⟨rfl, rfl⟩
  go_wp2
  go_ret
  exact ⟨rfl, rfl⟩

set_option maxHeartbeats 4000000 in
set_option maxRecDepth 1000000 in
theorem indexRune_high (r : Nat) (hr : 128 ≤ r) (hn : r ≠ 65533) (hv : Utf8.valid r = true) (w : World) : Calls Tryd.prog 84 #[.string sgS, .int .i32 r] w fun e w' => e = .returned (.int .i64 (-1)) ∧ Below w.heap.size w w' := by
  have h1 : (0 : Int) ≤ (r : Int) := by omega
  have h2 : ¬ (r : Int) < 128 := by omega
  have h3 : ((r : Int) == 65533) = false := by rw [beq_eq_false_iff_ne]; omega
  have H := hideT (fun w' => validRune_is r w')
  rw [hv] at H
  obtain ⟨f1, f2, f3⟩ := encode_facts r hv (by omega)
  have hlow : ∀ k, k < sgS.size → byt sgS k < 128 := fun k hk => sgS_low hk
  have hsz : sgS.size = 17 := rfl
  have HM := hideT sgS_mem
  have HL := hideT hlow
  clear hv hn hlow
  generalize sgS = s at HL HM hsz ⊢
  obtain ⟨u, hu⟩ : ∃ u, Utf8.encode (r : Int) = u := ⟨_, rfl⟩
  rw [hu] at f1 f2 f3
  obtain ⟨m, hm⟩ : ∃ m, u.size = m + 1 := ⟨u.size - 1, by omega⟩
  have hmu : m < u.size := by omega
  have f4 : 128 ≤ (u[m]'hmu).toNat := by
    have := f3 (by omega)
    have e : u.size - 1 = m := by omega
    simp only [e] at this
    exact this
  have hw1 : wrap64 ((u.size : Int) - 1) = ((m : Nat) : Int) := by
    have e : ((u.size : Int) - 1) = ((m : Nat) : Int) := by omega
    rw [e]; unfold wrap64; omega
  have hms : m < s.size := by omega
  have hx : (((s[m]'hms).toNat : Int) == ((u[m]'hmu).toNat : Int)) = false := by
    have := HL.out m hms
    rw [byt_of hms] at this
    rw [beq_eq_false_iff_ne]; omega
  have hm1 : m + 1 ≤ s.size := by omega
  have hms' : (m : Int) < (s.size : Int) := by omega
  have hfi : Lib.indexByte (s.extract (m + 1) s.size).data.toList (u[m]'hmu).toNat.toUInt8 = -1 := by
    rw [← Lib.firstIdx_eq]
    exact firstIdx_ascii s _ _ _ HM.out (by simpa using f4)
  have HI := hideT (fun w' => sIndexByte_is _ _ _ hfi w')
  have hmu' : (m : Int) < (u.size : Int) := by omega
  have hm2 : (m : Int) + 1 ≤ (s.size : Int) := by omega
  have hm3 : s.size ≤ 140737488355328 := by omega
  have hm4 : m ≤ s.size := by omega
  have hm6 : IntKind.i64.wrap ((m : Int) + 1) = ((m + 1 : Nat) : Int) := by rw [wrap_small _ (by omega) (by omega)]; omega
  have hsl : ∀ wx : World, (Instr.slice 9 (.string s) (some (.int .i64 ((m : Int) + 1))) none none).run Tryd.prog wx = .ok (.string (s.extract (m + 1) s.size)) wx := fun wx => by
    have h := run_slice_string_l (P := Tryd.prog) (t := 9) (s := s) (w := wx) Tryd.underlying9 .i64 ((m : Int) + 1) (by omega) (by omega)
    have e : ((m : Int) + 1).toNat = m + 1 := by omega
    rw [e] at h; exact h
  have hm7 : ((m + 1 : Nat) : Int) ≤ (s.size : Int) := by omega
  have hm5 : (m : Int) ≤ (s.size : Int) := by omega
  clear f1 f2 f3 f4 hfi hsz hm
  go_enter Tryd.func84, Tryd.ntmps84
  go_wp2_with fail
  refine (H.out _).mono ?_
  rintro e w1 ⟨rfl, rfl⟩
  go_wp2_with fail
  go_step3
  go_wp2_with fail
  try rw [hu]
  try rw [hw1]
  go_loopw [9, 10] (fun i f wr => i = .int .i64 (m : Nat) ∧ f = .int .i64 0 ∧ wr = w1) (fun _ _ _ => 0)
  case atStart => exact ⟨rfl, rfl, rfl⟩
  case round =>
    obtain ⟨rfl, rfl, rfl⟩ := hrel
    go_wp2_with fail
    go_step3
    go_wp2_with fail
    go_quiet (fail)
    go_wp2_with fail
    go_quiet ((go_at_call 86; exact (HI.out _).mono (fun _ _ h => ⟨h.1, _, h.2⟩)))
    go_wp2
    rw [Exit.noGoto_ret]
    go_wp2
    rw [Exit.noGoto_ret]
    go_ret
    exact ⟨rfl, ⟨rfl, rfl, rfl, Nat.le_refl _, fun _ _ => rfl⟩⟩

theorem indexRune_any (r : Nat) (w : World) : Calls Tryd.prog 84 #[.string sgS, .int .i32 r] w fun e w' => (∃ j : Int, e = .returned (.int .i64 j) ∧ decide (j ≥ 0) = sgN r) ∧ Below w.heap.size w w' := by
  by_cases h : r < 128
  · exact (indexRune_low r h w).mono fun e w' ⟨h1, h2⟩ => ⟨h1, by rw [h2]; exact Below.refl _ _⟩
  · have hz : decide ((-1 : Int) ≥ 0) = sgN r := by rw [sgN_high (by omega)]; decide
    by_cases hn : r = 65533
    · subst hn
      exact (indexRune_err w).mono fun e w' ⟨h1, h2⟩ => ⟨⟨-1, h1, hz⟩, h2⟩
    · cases hv : Utf8.valid r
      · exact (indexRune_bad r (by omega) hn hv w).mono fun e w' ⟨h1, h2⟩ => ⟨⟨-1, h1, hz⟩, by rw [h2]; exact Below.refl _ _⟩
      · exact (indexRune_high r (by omega) hn hv w).mono fun e w' ⟨h1, h2⟩ => ⟨⟨-1, h1, hz⟩, h2⟩
set_option maxHeartbeats 1000000 in
theorem containsRune_is (r : Nat) (w : World) : Calls Tryd.prog 74 #[.string sgS, .int .i32 r] w fun e w' => e = .returned (.bool (sgN r)) ∧ Below w.heap.size w w' := by
  have H := hideT (indexRune_any r w)
  generalize sgS = s at H ⊢
  go_enter Tryd.func74, Tryd.ntmps74
  go_wp2_with fail
  refine H.out.mono ?_
  rintro e w1 ⟨⟨j, rfl, hj⟩, hb⟩
  go_wp2_with fail
  go_ret
  refine ⟨?_, hb⟩
  rw [← hj]; rfl
set_option maxHeartbeats 1000000 in
theorem isSymbol_is (r : Nat) (w : World) : Calls Tryd.prog 57 #[.int .i32 r] w fun e w' => e = .returned (.bool (syN r)) ∧ Below w.heap.size w w' := by
  have H1 := fun w' => isDigit_is r w'
  have H3 := fun w' => containsRune_is r w'
  have hv : syN r = (dgN r || (ltN r || sgN r)) := by unfold syN; cases dgN r <;> cases ltN r <;> rfl
  unfold sgS at H3
  cases hd : dgN r
  · rw [hd] at H1
    cases hl : ltN r
    · have hv' : syN r = sgN r := by rw [hv, hd, hl]; rfl
      rw [hv']
      generalize sgN r = b at H3 ⊢
      have hl' : ¬ (97 ≤ r ∧ r ≤ 122) ∧ ¬ (65 ≤ r ∧ r ≤ 90) := by
        unfold ltN at hl
        simp at hl
        omega
      clear hv hv' hd hl
      by_cases h1 : (97 : Int) ≤ (r : Int)
      · have h2 : decide ((r : Int) ≤ 122) = false := by rw [decide_eq_false_iff_not]; omega
        have h3 : (65 : Int) ≤ (r : Int) := by omega
        have h4 : decide ((r : Int) ≤ 90) = false := by rw [decide_eq_false_iff_not]; omega
        clear hl'
        go_enter Tryd.func57, Tryd.ntmps57
        go_wp2_with fail
        refine (H1 _).mono ?_
        rintro e w1 ⟨rfl, rfl⟩
        go_wp2_with fail
        refine (H3 _).mono ?_
        rintro e w2 ⟨rfl, hb⟩
        go_wp2
        go_ret
        exact ⟨rfl, hb⟩
      · by_cases h3 : (65 : Int) ≤ (r : Int)
        · have h4 : decide ((r : Int) ≤ 90) = false := by rw [decide_eq_false_iff_not]; omega
          clear hl'
          go_enter Tryd.func57, Tryd.ntmps57
          go_wp2_with fail
          refine (H1 _).mono ?_
          rintro e w1 ⟨rfl, rfl⟩
          go_wp2_with fail
          refine (H3 _).mono ?_
          rintro e w2 ⟨rfl, hb⟩
          go_wp2
          go_ret
          exact ⟨rfl, hb⟩
        · clear hl'
          go_enter Tryd.func57, Tryd.ntmps57
          go_wp2_with fail
          refine (H1 _).mono ?_
          rintro e w1 ⟨rfl, rfl⟩
          go_wp2_with fail
          refine (H3 _).mono ?_
          rintro e w2 ⟨rfl, hb⟩
          go_wp2
          go_ret
          exact ⟨rfl, hb⟩
    · have hv' : syN r = true := by rw [hv, hd, hl]; rfl
      rw [hv']
      have hl' : (97 ≤ r ∧ r ≤ 122) ∨ (65 ≤ r ∧ r ≤ 90) := by
        unfold ltN at hl
        simp at hl
        omega
      clear hv hv' hd hl H3
      by_cases h1 : (97 : Int) ≤ (r : Int)
      · have h2 : (r : Int) ≤ 122 := by omega
        clear hl'
        go_enter Tryd.func57, Tryd.ntmps57
        go_wp2_with fail
        refine (H1 _).mono ?_
        rintro e w1 ⟨rfl, rfl⟩
        go_wp2
        go_ret
        exact ⟨rfl, Below.refl _ _⟩
      · have h3 : (65 : Int) ≤ (r : Int) := by omega
        have h4 : (r : Int) ≤ 90 := by omega
        clear hl'
        go_enter Tryd.func57, Tryd.ntmps57
        go_wp2_with fail
        refine (H1 _).mono ?_
        rintro e w1 ⟨rfl, rfl⟩
        go_wp2
        go_ret
        exact ⟨rfl, Below.refl _ _⟩
  · have hv' : syN r = true := by rw [hv, hd]; rfl
    rw [hv']
    rw [hd] at H1
    clear hv hv' hd H3
    go_enter Tryd.func57, Tryd.ntmps57
    go_wp2_with fail
    refine (H1 _).mono ?_
    rintro e w1 ⟨rfl, rfl⟩
    go_wp2
    go_ret
    exact ⟨rfl, Below.refl _ _⟩
end Go.Proofs.YtibeiggedmabkaaDoor
