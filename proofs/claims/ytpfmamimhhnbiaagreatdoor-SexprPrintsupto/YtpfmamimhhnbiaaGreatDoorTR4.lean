/-
  The reference's unless, bad, barred.
-/
import Derived.Test.YtpfmamimhhnbiaaGreatDoorTRA
import Derived.Test.YtpfmamimhhnbiaaGreatDoorTK2
import Derived.Test.YtpfmamimhhnbiaaGreatDoorTSF
import Derived.Deep.Cut
namespace Go.Proofs.YtpfmamimhhnbiaaGreatDoor
open Go.RowKit
set_option linter.unusedVariables false
set_option linter.unusedSimpArgs false

theorem start_bl {c : Nat} (h : blN c = true) : startN c = 3 := by
  have : c = 9 ∨ c = 10 ∨ c = 13 ∨ c = 32 := by unfold blN at h; simp at h; omega
  rcases this with e | e | e | e <;> subst e <;> decide
theorem folx3 (c : Nat) : folN 3 c = startN c := by simp [folN]
theorem folx4 (c : Nat) : folN 4 c = if c = 10 ∨ c = 13 then 3 else 4 := by simp [folN]
theorem gapE_bl {S : List UInt8} {k : Nat} (h : k < S.length) (hb : blN (byS S k) = true) : gapE S 3 k = gapE S 3 (k + 1) := by
  have e : folN 3 (byS S k) = 3 := by rw [folx3, start_bl hb]
  rw [gapE_on h (by rw [e]; decide), e]
theorem gapE_59 {S : List UInt8} {k : Nat} (h : k < S.length) (hb : byS S k = 59) : gapE S 3 k = gapE S 4 (k + 1) := by
  have e : folN 3 (byS S k) = 4 := by rw [hb]; decide
  rw [gapE_on h (by rw [e]; decide), e]
theorem gapE_in {S : List UInt8} {k : Nat} (h : k < S.length) (h1 : byS S k ≠ 10) (h2 : byS S k ≠ 13) : gapE S 4 k = gapE S 4 (k + 1) := by
  have e : folN 4 (byS S k) = 4 := by rw [folx4, if_neg (by omega)]
  rw [gapE_on h (by rw [e]; decide), e]
theorem gapE_out {S : List UInt8} {k : Nat} (h : k < S.length → byS S k = 10 ∨ byS S k = 13) : gapE S 4 k = gapE S 3 k := by
  by_cases hl : k < S.length
  · have hb := h hl
    have e : folN 4 (byS S k) = 3 := by rw [folx4, if_pos hb]
    rw [gapE_on hl (by rw [e]; decide), e]
    symm
    exact gapE_bl hl (by unfold blN; simp; omega)
  · rw [gapE_off (fun c => hl c.1), gapE_off (fun c => hl c.1)]
theorem gapE_stop {S : List UInt8} {k : Nat} (h1 : ¬ blN (byS S k) = true) (h2 : byS S k ≠ 59) : gapE S 3 k = k := by
  refine gapE_off (fun c => ?_)
  obtain ⟨_, c⟩ := c
  rw [folx3] at c
  rcases startN_low c with ⟨q, _⟩ | ⟨_, q, _⟩
  · exact h2 q
  · exact h1 q

set_option maxHeartbeats 4000000 in
set_option maxRecDepth 100000 in
theorem symEnd_is (s : ByteArray) (S : List UInt8) (hS : s.data.toList = S) (i : Nat) (w : World) (hsz : s.size ≤ 4294967280) (hi : i ≤ s.size) : Calls Tryz.prog 72 #[.string s, .int .i64 i] w fun e w' => e = .returned (.int .i64 (runE syN S i : Nat)) ∧ w' = w := by
  have hy := fun k (h : k < s.size) => byS_byt h
  have hsl : s.size = S.length := by rw [← hS, Array.length_toList]; rfl
  rw [hS] at hy
  clear hS
  have HY := hideT hy
  have HL := hideT hsl
  clear hy hsl
  go_enter Tryz.func72, Tryz.ntmps72
  go_wp2
  go_loop [1] (fun v => ∃ k : Nat, i ≤ k ∧ k ≤ s.size ∧ v = .int .i64 k ∧ runE syN S k = runE syN S i) (fun v => s.size - (intOf v).toNat)
  case atStart => exact ⟨i, Nat.le_refl _, hi, rfl, rfl⟩
  case round =>
    obtain ⟨k, hik, hk, rfl, hr⟩ := hrel
    have HR := hideT hr
    clear hr
    by_cases hlt : k < s.size
    · have hki : ((k : Int) < (s.size : Int)) := by omega
      have hb := byt_of hlt
      have hyk := HY.out k hlt
      have hkl : k < S.length := by rw [← HL.out]; exact hlt
      have GB := hideT (fun W => symbolByte_is (byt s k) W)
      rcases hf : syN (byt s k) with _ | _
      · rw [hf, hb] at GB
        have HE := hideT (show runE syN S i = k by rw [← HR.out]; exact runE_off (fun c => by rw [hyk, hf] at c; exact absurd c.2 (by decide)))
        clear hf hb hyk hkl HR
        go_wp2_with fail
        refine (GB.out _).mono ?_
        rintro e w1 ⟨rfl, rfl⟩
        go_wp2
        go_ret
        rw [HE.out]
        exact ⟨rfl, rfl⟩
      · rw [hf, hb] at GB
        have HE := hideT (show runE syN S (k + 1) = runE syN S i by rw [← runE_on hkl (by rw [hyk]; exact hf)]; exact HR.out)
        clear hf hb hyk hkl HR
        go_wp2_with fail
        refine (GB.out _).mono ?_
        rintro e w1 ⟨rfl, rfl⟩
        go_wp2
        go_round
        case rel => exact ⟨k + 1, by omega, by omega, by go_num, HE.out⟩
        case measure => simp [intOf]; omega
    · have hki : ¬ ((k : Int) < (s.size : Int)) := by omega
      have HE := hideT (show runE syN S i = k by rw [← HR.out]; exact runE_off (fun c => by rw [← HL.out] at c; exact hlt c.1))
      clear HR
      go_wp2
      go_ret
      rw [HE.out]
      exact ⟨rfl, rfl⟩

set_option maxHeartbeats 4000000 in
set_option maxRecDepth 100000 in
theorem digEnd_d (s : ByteArray) (S : List UInt8) (hS : s.data.toList = S) (i : Nat) (w : World) (hsz : s.size ≤ 4294967280) (hi : i ≤ s.size) : Calls Tryz.prog 90 #[.string s, .int .i64 i, .int .u8 100] w fun e w' => e = .returned (.int .i64 (runE dgN S i : Nat)) ∧ w' = w := by
  have hy := fun k (h : k < s.size) => byS_byt h
  have hsl : s.size = S.length := by rw [← hS, Array.length_toList]; rfl
  rw [hS] at hy
  clear hS
  have HY := hideT hy
  have HL := hideT hsl
  clear hy hsl
  go_enter Tryz.func90, Tryz.ntmps90
  go_wp2
  go_loop [1] (fun v => ∃ k : Nat, i ≤ k ∧ k ≤ s.size ∧ v = .int .i64 k ∧ runE dgN S k = runE dgN S i) (fun v => s.size - (intOf v).toNat)
  case atStart => exact ⟨i, Nat.le_refl _, hi, rfl, rfl⟩
  case round =>
    obtain ⟨k, hik, hk, rfl, hr⟩ := hrel
    have HR := hideT hr
    clear hr
    by_cases hlt : k < s.size
    · have hki : ((k : Int) < (s.size : Int)) := by omega
      have hb := byt_of hlt
      have hyk := HY.out k hlt
      have hkl : k < S.length := by rw [← HL.out]; exact hlt
      have on : dgN (byt s k) = true → runE dgN S (k + 1) = runE dgN S i := fun hf => by rw [← runE_on hkl (by rw [hyk]; exact hf)]; exact HR.out
      have off : dgN (byt s k) = false → runE dgN S i = k := fun hf => by rw [← HR.out]; exact runE_off (fun c => by rw [hyk, hf] at c; exact absurd c.2 (by decide))
      have ON := hideT on
      have OFF := hideT off
      clear on off hyk hkl HR
      have GB := hideT (fun W => digit_is (byt s k) W)
      rw [hb] at GB ON OFF
      generalize hn : (s[k]'hlt).toNat = n at GB ON OFF
      clear hb
      have hv : (n < 65) ∨ (65 ≤ n ∧ n ≤ 70) ∨ (70 < n ∧ n < 97) ∨ (97 ≤ n ∧ n ≤ 102) ∨ (102 < n) := by omega
      rcases hv with hv | hv | hv | hv | hv
      · skip
        have x97 : ¬ ((97 : Int) ≤ (n : Int)) := by omega
        have x65 : ¬ ((65 : Int) ≤ (n : Int)) := by omega
        rcases hd : dgN n with _ | _
        · rw [hd] at GB
          have hfin : dgN n = false := hd
          have HF := hideT (OFF.out hfin)
          clear ON OFF hfin hd hv
          go_wp2_with fail
          try rw [hn]
          refine (GB.out _).mono ?_
          rintro e w1 ⟨rfl, rfl⟩
          go_wp2
          go_ret
          rw [HF.out]
          exact ⟨rfl, rfl⟩
        · rw [hd] at GB
          have hfin : dgN n = true := hd
          have HF := hideT (ON.out hfin)
          clear ON OFF hfin hd hv
          go_wp2_with fail
          try rw [hn]
          refine (GB.out _).mono ?_
          rintro e w1 ⟨rfl, rfl⟩
          go_wp2
          go_round
          case rel => exact ⟨k + 1, by omega, by omega, by go_num, HF.out⟩
          case measure => simp [intOf]; omega
      · skip
        have x97 : ¬ ((97 : Int) ≤ (n : Int)) := by omega
        have x65 : ((65 : Int) ≤ (n : Int)) := by omega
        have x70 : ((n : Int) ≤ 70) := by omega
        rcases hd : dgN n with _ | _
        · rw [hd] at GB
          have hfin : dgN n = false := hd
          have HF := hideT (OFF.out hfin)
          clear ON OFF hfin hd hv
          go_wp2_with fail
          try rw [hn]
          refine (GB.out _).mono ?_
          rintro e w1 ⟨rfl, rfl⟩
          go_wp2
          go_ret
          rw [HF.out]
          exact ⟨rfl, rfl⟩
        · exfalso; unfold dgN at hd; simp at hd; omega
      · skip
        have x97 : ¬ ((97 : Int) ≤ (n : Int)) := by omega
        have x65 : ((65 : Int) ≤ (n : Int)) := by omega
        have x70 : ¬ ((n : Int) ≤ 70) := by omega
        rcases hd : dgN n with _ | _
        · rw [hd] at GB
          have hfin : dgN n = false := hd
          have HF := hideT (OFF.out hfin)
          clear ON OFF hfin hd hv
          go_wp2_with fail
          try rw [hn]
          refine (GB.out _).mono ?_
          rintro e w1 ⟨rfl, rfl⟩
          go_wp2
          go_ret
          rw [HF.out]
          exact ⟨rfl, rfl⟩
        · exfalso; unfold dgN at hd; simp at hd; omega
      · skip
        have x97 : ((97 : Int) ≤ (n : Int)) := by omega
        have x102 : ((n : Int) ≤ 102) := by omega
        rcases hd : dgN n with _ | _
        · rw [hd] at GB
          have hfin : dgN n = false := hd
          have HF := hideT (OFF.out hfin)
          clear ON OFF hfin hd hv
          go_wp2_with fail
          try rw [hn]
          refine (GB.out _).mono ?_
          rintro e w1 ⟨rfl, rfl⟩
          go_wp2
          go_ret
          rw [HF.out]
          exact ⟨rfl, rfl⟩
        · exfalso; unfold dgN at hd; simp at hd; omega
      · skip
        have x97 : ((97 : Int) ≤ (n : Int)) := by omega
        have x102 : ¬ ((n : Int) ≤ 102) := by omega
        have x65 : ((65 : Int) ≤ (n : Int)) := by omega
        have x70 : ¬ ((n : Int) ≤ 70) := by omega
        rcases hd : dgN n with _ | _
        · rw [hd] at GB
          have hfin : dgN n = false := hd
          have HF := hideT (OFF.out hfin)
          clear ON OFF hfin hd hv
          go_wp2_with fail
          try rw [hn]
          refine (GB.out _).mono ?_
          rintro e w1 ⟨rfl, rfl⟩
          go_wp2
          go_ret
          rw [HF.out]
          exact ⟨rfl, rfl⟩
        · exfalso; unfold dgN at hd; simp at hd; omega
    · have hki : ¬ ((k : Int) < (s.size : Int)) := by omega
      have HE := hideT (show runE dgN S i = k by rw [← HR.out]; exact runE_off (fun c => by rw [← HL.out] at c; exact hlt c.1))
      clear HR
      go_wp2
      go_ret
      rw [HE.out]
      exact ⟨rfl, rfl⟩

set_option maxHeartbeats 4000000 in
set_option maxRecDepth 100000 in
theorem digEnd_b (s : ByteArray) (S : List UInt8) (hS : s.data.toList = S) (i : Nat) (w : World) (hsz : s.size ≤ 4294967280) (hi : i ≤ s.size) : Calls Tryz.prog 90 #[.string s, .int .i64 i, .int .u8 98] w fun e w' => e = .returned (.int .i64 (runE biN S i : Nat)) ∧ w' = w := by
  have hy := fun k (h : k < s.size) => byS_byt h
  have hsl : s.size = S.length := by rw [← hS, Array.length_toList]; rfl
  rw [hS] at hy
  clear hS
  have HY := hideT hy
  have HL := hideT hsl
  clear hy hsl
  go_enter Tryz.func90, Tryz.ntmps90
  go_wp2
  go_loop [1] (fun v => ∃ k : Nat, i ≤ k ∧ k ≤ s.size ∧ v = .int .i64 k ∧ runE biN S k = runE biN S i) (fun v => s.size - (intOf v).toNat)
  case atStart => exact ⟨i, Nat.le_refl _, hi, rfl, rfl⟩
  case round =>
    obtain ⟨k, hik, hk, rfl, hr⟩ := hrel
    have HR := hideT hr
    clear hr
    by_cases hlt : k < s.size
    · have hki : ((k : Int) < (s.size : Int)) := by omega
      have hb := byt_of hlt
      have hyk := HY.out k hlt
      have hkl : k < S.length := by rw [← HL.out]; exact hlt
      have on : biN (byt s k) = true → runE biN S (k + 1) = runE biN S i := fun hf => by rw [← runE_on hkl (by rw [hyk]; exact hf)]; exact HR.out
      have off : biN (byt s k) = false → runE biN S i = k := fun hf => by rw [← HR.out]; exact runE_off (fun c => by rw [hyk, hf] at c; exact absurd c.2 (by decide))
      have ON := hideT on
      have OFF := hideT off
      clear on off hyk hkl HR
      have GB := hideT (fun W => digit_is (byt s k) W)
      rw [hb] at GB ON OFF
      generalize hn : (s[k]'hlt).toNat = n at GB ON OFF
      clear hb
      have hv : (n < 65) ∨ (65 ≤ n ∧ n ≤ 70) ∨ (70 < n ∧ n < 97) ∨ (97 ≤ n ∧ n ≤ 102) ∨ (102 < n) := by omega
      rcases hv with hv | hv | hv | hv | hv
      · skip
        have x97 : ¬ ((97 : Int) ≤ (n : Int)) := by omega
        have x65 : ¬ ((65 : Int) ≤ (n : Int)) := by omega
        rcases hd : dgN n with _ | _
        · rw [hd] at GB
          have n48 : n ≠ 48 := fun c => by rw [c] at hd; exact absurd hd (by decide)
          have n49 : n ≠ 49 := fun c => by rw [c] at hd; exact absurd hd (by decide)
          have y48 : ((n : Int) == 48) = false := by rw [beq_eq_false_iff_ne]; omega
          have y49 : ((n : Int) == 49) = false := by rw [beq_eq_false_iff_ne]; omega
          have hfin : biN n = false := by unfold biN; simp [dgN] at hd ⊢; omega
          have HF := hideT (OFF.out hfin)
          clear ON OFF hfin hd hv n48 n49
          go_wp2_with fail
          try rw [hn]
          refine (GB.out _).mono ?_
          rintro e w1 ⟨rfl, rfl⟩
          go_wp2
          go_ret
          rw [HF.out]
          exact ⟨rfl, rfl⟩
        · rw [hd] at GB
          by_cases h48 : n = 48
          · have y48 : ((n : Int) == 48) = true := by rw [h48]; rfl
            have hfin : biN n = true := by unfold biN; simp [dgN] at hd ⊢; omega
            have HF := hideT (ON.out hfin)
            clear ON OFF hfin hd hv h48
            go_wp2_with fail
            try rw [hn]
            refine (GB.out _).mono ?_
            rintro e w1 ⟨rfl, rfl⟩
            go_wp2
            go_round
            case rel => exact ⟨k + 1, by omega, by omega, by go_num, HF.out⟩
            case measure => simp [intOf]; omega
          · have y48 : ((n : Int) == 48) = false := by rw [beq_eq_false_iff_ne]; omega
            by_cases h49 : n = 49
            · have y49 : ((n : Int) == 49) = true := by rw [h49]; rfl
              have hfin : biN n = true := by unfold biN; simp [dgN] at hd ⊢; omega
              have HF := hideT (ON.out hfin)
              clear ON OFF hfin hd hv h48 h49
              go_wp2_with fail
              try rw [hn]
              refine (GB.out _).mono ?_
              rintro e w1 ⟨rfl, rfl⟩
              go_wp2
              go_round
              case rel => exact ⟨k + 1, by omega, by omega, by go_num, HF.out⟩
              case measure => simp [intOf]; omega
            · have y49 : ((n : Int) == 49) = false := by rw [beq_eq_false_iff_ne]; omega
              have hfin : biN n = false := by unfold biN; simp [dgN] at hd ⊢; omega
              have HF := hideT (OFF.out hfin)
              clear ON OFF hfin hd hv h48 h49
              go_wp2_with fail
              try rw [hn]
              refine (GB.out _).mono ?_
              rintro e w1 ⟨rfl, rfl⟩
              go_wp2
              go_ret
              rw [HF.out]
              exact ⟨rfl, rfl⟩
      · skip
        have x97 : ¬ ((97 : Int) ≤ (n : Int)) := by omega
        have x65 : ((65 : Int) ≤ (n : Int)) := by omega
        have x70 : ((n : Int) ≤ 70) := by omega
        rcases hd : dgN n with _ | _
        · rw [hd] at GB
          have n48 : n ≠ 48 := fun c => by rw [c] at hd; exact absurd hd (by decide)
          have n49 : n ≠ 49 := fun c => by rw [c] at hd; exact absurd hd (by decide)
          have y48 : ((n : Int) == 48) = false := by rw [beq_eq_false_iff_ne]; omega
          have y49 : ((n : Int) == 49) = false := by rw [beq_eq_false_iff_ne]; omega
          have hfin : biN n = false := by unfold biN; simp [dgN] at hd ⊢; omega
          have HF := hideT (OFF.out hfin)
          clear ON OFF hfin hd hv n48 n49
          go_wp2_with fail
          try rw [hn]
          refine (GB.out _).mono ?_
          rintro e w1 ⟨rfl, rfl⟩
          go_wp2
          go_ret
          rw [HF.out]
          exact ⟨rfl, rfl⟩
        · exfalso; unfold dgN at hd; simp at hd; omega
      · skip
        have x97 : ¬ ((97 : Int) ≤ (n : Int)) := by omega
        have x65 : ((65 : Int) ≤ (n : Int)) := by omega
        have x70 : ¬ ((n : Int) ≤ 70) := by omega
        rcases hd : dgN n with _ | _
        · rw [hd] at GB
          have n48 : n ≠ 48 := fun c => by rw [c] at hd; exact absurd hd (by decide)
          have n49 : n ≠ 49 := fun c => by rw [c] at hd; exact absurd hd (by decide)
          have y48 : ((n : Int) == 48) = false := by rw [beq_eq_false_iff_ne]; omega
          have y49 : ((n : Int) == 49) = false := by rw [beq_eq_false_iff_ne]; omega
          have hfin : biN n = false := by unfold biN; simp [dgN] at hd ⊢; omega
          have HF := hideT (OFF.out hfin)
          clear ON OFF hfin hd hv n48 n49
          go_wp2_with fail
          try rw [hn]
          refine (GB.out _).mono ?_
          rintro e w1 ⟨rfl, rfl⟩
          go_wp2
          go_ret
          rw [HF.out]
          exact ⟨rfl, rfl⟩
        · exfalso; unfold dgN at hd; simp at hd; omega
      · skip
        have x97 : ((97 : Int) ≤ (n : Int)) := by omega
        have x102 : ((n : Int) ≤ 102) := by omega
        rcases hd : dgN n with _ | _
        · rw [hd] at GB
          have n48 : n ≠ 48 := fun c => by rw [c] at hd; exact absurd hd (by decide)
          have n49 : n ≠ 49 := fun c => by rw [c] at hd; exact absurd hd (by decide)
          have y48 : ((n : Int) == 48) = false := by rw [beq_eq_false_iff_ne]; omega
          have y49 : ((n : Int) == 49) = false := by rw [beq_eq_false_iff_ne]; omega
          have hfin : biN n = false := by unfold biN; simp [dgN] at hd ⊢; omega
          have HF := hideT (OFF.out hfin)
          clear ON OFF hfin hd hv n48 n49
          go_wp2_with fail
          try rw [hn]
          refine (GB.out _).mono ?_
          rintro e w1 ⟨rfl, rfl⟩
          go_wp2
          go_ret
          rw [HF.out]
          exact ⟨rfl, rfl⟩
        · exfalso; unfold dgN at hd; simp at hd; omega
      · skip
        have x97 : ((97 : Int) ≤ (n : Int)) := by omega
        have x102 : ¬ ((n : Int) ≤ 102) := by omega
        have x65 : ((65 : Int) ≤ (n : Int)) := by omega
        have x70 : ¬ ((n : Int) ≤ 70) := by omega
        rcases hd : dgN n with _ | _
        · rw [hd] at GB
          have n48 : n ≠ 48 := fun c => by rw [c] at hd; exact absurd hd (by decide)
          have n49 : n ≠ 49 := fun c => by rw [c] at hd; exact absurd hd (by decide)
          have y48 : ((n : Int) == 48) = false := by rw [beq_eq_false_iff_ne]; omega
          have y49 : ((n : Int) == 49) = false := by rw [beq_eq_false_iff_ne]; omega
          have hfin : biN n = false := by unfold biN; simp [dgN] at hd ⊢; omega
          have HF := hideT (OFF.out hfin)
          clear ON OFF hfin hd hv n48 n49
          go_wp2_with fail
          try rw [hn]
          refine (GB.out _).mono ?_
          rintro e w1 ⟨rfl, rfl⟩
          go_wp2
          go_ret
          rw [HF.out]
          exact ⟨rfl, rfl⟩
        · exfalso; unfold dgN at hd; simp at hd; omega
    · have hki : ¬ ((k : Int) < (s.size : Int)) := by omega
      have HE := hideT (show runE biN S i = k by rw [← HR.out]; exact runE_off (fun c => by rw [← HL.out] at c; exact hlt c.1))
      clear HR
      go_wp2
      go_ret
      rw [HE.out]
      exact ⟨rfl, rfl⟩

set_option maxHeartbeats 4000000 in
set_option maxRecDepth 100000 in
theorem digEnd_x (s : ByteArray) (S : List UInt8) (hS : s.data.toList = S) (i : Nat) (w : World) (hsz : s.size ≤ 4294967280) (hi : i ≤ s.size) : Calls Tryz.prog 90 #[.string s, .int .i64 i, .int .u8 120] w fun e w' => e = .returned (.int .i64 (runE hxN S i : Nat)) ∧ w' = w := by
  have hy := fun k (h : k < s.size) => byS_byt h
  have hsl : s.size = S.length := by rw [← hS, Array.length_toList]; rfl
  rw [hS] at hy
  clear hS
  have HY := hideT hy
  have HL := hideT hsl
  clear hy hsl
  go_enter Tryz.func90, Tryz.ntmps90
  go_wp2
  go_loop [1] (fun v => ∃ k : Nat, i ≤ k ∧ k ≤ s.size ∧ v = .int .i64 k ∧ runE hxN S k = runE hxN S i) (fun v => s.size - (intOf v).toNat)
  case atStart => exact ⟨i, Nat.le_refl _, hi, rfl, rfl⟩
  case round =>
    obtain ⟨k, hik, hk, rfl, hr⟩ := hrel
    have HR := hideT hr
    clear hr
    by_cases hlt : k < s.size
    · have hki : ((k : Int) < (s.size : Int)) := by omega
      have hb := byt_of hlt
      have hyk := HY.out k hlt
      have hkl : k < S.length := by rw [← HL.out]; exact hlt
      have on : hxN (byt s k) = true → runE hxN S (k + 1) = runE hxN S i := fun hf => by rw [← runE_on hkl (by rw [hyk]; exact hf)]; exact HR.out
      have off : hxN (byt s k) = false → runE hxN S i = k := fun hf => by rw [← HR.out]; exact runE_off (fun c => by rw [hyk, hf] at c; exact absurd c.2 (by decide))
      have ON := hideT on
      have OFF := hideT off
      clear on off hyk hkl HR
      have GB := hideT (fun W => digit_is (byt s k) W)
      rw [hb] at GB ON OFF
      generalize hn : (s[k]'hlt).toNat = n at GB ON OFF
      clear hb
      have hv : (n < 65) ∨ (65 ≤ n ∧ n ≤ 70) ∨ (70 < n ∧ n < 97) ∨ (97 ≤ n ∧ n ≤ 102) ∨ (102 < n) := by omega
      rcases hv with hv | hv | hv | hv | hv
      · skip
        have x97 : ¬ ((97 : Int) ≤ (n : Int)) := by omega
        have x65 : ¬ ((65 : Int) ≤ (n : Int)) := by omega
        rcases hd : dgN n with _ | _
        · rw [hd] at GB
          have hfin : hxN n = false := by unfold hxN; simp [dgN] at hd ⊢; omega
          have HF := hideT (OFF.out hfin)
          clear ON OFF hfin hd hv
          go_wp2_with fail
          try rw [hn]
          refine (GB.out _).mono ?_
          rintro e w1 ⟨rfl, rfl⟩
          go_wp2
          go_ret
          rw [HF.out]
          exact ⟨rfl, rfl⟩
        · rw [hd] at GB
          have hfin : hxN n = true := by unfold hxN; simp [dgN] at hd ⊢; omega
          have HF := hideT (ON.out hfin)
          clear ON OFF hfin hd hv
          go_wp2_with fail
          try rw [hn]
          refine (GB.out _).mono ?_
          rintro e w1 ⟨rfl, rfl⟩
          go_wp2
          go_round
          case rel => exact ⟨k + 1, by omega, by omega, by go_num, HF.out⟩
          case measure => simp [intOf]; omega
      · skip
        have x97 : ¬ ((97 : Int) ≤ (n : Int)) := by omega
        have x65 : ((65 : Int) ≤ (n : Int)) := by omega
        have x70 : ((n : Int) ≤ 70) := by omega
        rcases hd : dgN n with _ | _
        · rw [hd] at GB
          have hfin : hxN n = true := by unfold hxN; simp [dgN] at hd ⊢; omega
          have HF := hideT (ON.out hfin)
          clear ON OFF hfin hd hv
          go_wp2_with fail
          try rw [hn]
          refine (GB.out _).mono ?_
          rintro e w1 ⟨rfl, rfl⟩
          go_wp2
          go_round
          case rel => exact ⟨k + 1, by omega, by omega, by go_num, HF.out⟩
          case measure => simp [intOf]; omega
        · exfalso; unfold dgN at hd; simp at hd; omega
      · skip
        have x97 : ¬ ((97 : Int) ≤ (n : Int)) := by omega
        have x65 : ((65 : Int) ≤ (n : Int)) := by omega
        have x70 : ¬ ((n : Int) ≤ 70) := by omega
        rcases hd : dgN n with _ | _
        · rw [hd] at GB
          have hfin : hxN n = false := by unfold hxN; simp [dgN] at hd ⊢; omega
          have HF := hideT (OFF.out hfin)
          clear ON OFF hfin hd hv
          go_wp2_with fail
          try rw [hn]
          refine (GB.out _).mono ?_
          rintro e w1 ⟨rfl, rfl⟩
          go_wp2
          go_ret
          rw [HF.out]
          exact ⟨rfl, rfl⟩
        · exfalso; unfold dgN at hd; simp at hd; omega
      · skip
        have x97 : ((97 : Int) ≤ (n : Int)) := by omega
        have x102 : ((n : Int) ≤ 102) := by omega
        rcases hd : dgN n with _ | _
        · rw [hd] at GB
          have hfin : hxN n = true := by unfold hxN; simp [dgN] at hd ⊢; omega
          have HF := hideT (ON.out hfin)
          clear ON OFF hfin hd hv
          go_wp2_with fail
          try rw [hn]
          refine (GB.out _).mono ?_
          rintro e w1 ⟨rfl, rfl⟩
          go_wp2
          go_round
          case rel => exact ⟨k + 1, by omega, by omega, by go_num, HF.out⟩
          case measure => simp [intOf]; omega
        · exfalso; unfold dgN at hd; simp at hd; omega
      · skip
        have x97 : ((97 : Int) ≤ (n : Int)) := by omega
        have x102 : ¬ ((n : Int) ≤ 102) := by omega
        have x65 : ((65 : Int) ≤ (n : Int)) := by omega
        have x70 : ¬ ((n : Int) ≤ 70) := by omega
        rcases hd : dgN n with _ | _
        · rw [hd] at GB
          have hfin : hxN n = false := by unfold hxN; simp [dgN] at hd ⊢; omega
          have HF := hideT (OFF.out hfin)
          clear ON OFF hfin hd hv
          go_wp2_with fail
          try rw [hn]
          refine (GB.out _).mono ?_
          rintro e w1 ⟨rfl, rfl⟩
          go_wp2
          go_ret
          rw [HF.out]
          exact ⟨rfl, rfl⟩
        · exfalso; unfold dgN at hd; simp at hd; omega
    · have hki : ¬ ((k : Int) < (s.size : Int)) := by omega
      have HE := hideT (show runE hxN S i = k by rw [← HR.out]; exact runE_off (fun c => by rw [← HL.out] at c; exact hlt c.1))
      clear HR
      go_wp2
      go_ret
      rw [HE.out]
      exact ⟨rfl, rfl⟩

set_option maxHeartbeats 4000000 in
set_option maxRecDepth 100000 in
theorem rgap_is (s : ByteArray) (S : List UInt8) (hS : s.data.toList = S) (i : Nat) (w : World) (hsz : s.size ≤ 4294967280) (hi : i ≤ s.size) : Calls Tryz.prog 45 #[.string s, .int .i64 i] w fun e w' => e = .returned (.int .i64 (gapE S 3 i : Nat)) ∧ w' = w := by
  have hy := fun k (h : k < s.size) => byS_byt h
  have hsl : s.size = S.length := by rw [← hS, Array.length_toList]; rfl
  rw [hS] at hy
  clear hS
  have HY := hideT hy
  have HL := hideT hsl
  clear hy hsl
  go_enter Tryz.func45, Tryz.ntmps45
  go_wp2
  go_loop [1] (fun v => ∃ k : Nat, i ≤ k ∧ k ≤ s.size ∧ v = .int .i64 k ∧ gapE S 3 k = gapE S 3 i) (fun v => s.size - (intOf v).toNat)
  case atStart => exact ⟨i, Nat.le_refl _, hi, rfl, rfl⟩
  case round =>
    obtain ⟨k, hik, hk, rfl, hr⟩ := hrel
    have HR := hideT hr
    clear hr
    by_cases hlt : k < s.size
    · have hki : ((k : Int) < (s.size : Int)) := by omega
      have hb := byt_of hlt
      have hyk := HY.out k hlt
      have hkl : k < S.length := by rw [← HL.out]; exact hlt
      have GB := hideT (fun W => blank_is (byt s k) W)
      rcases hf : blN (byt s k) with _ | _
      · rw [hf, hb] at GB
        by_cases h59 : byt s k = 59
        · have x59 : (((s[k]'hlt).toNat : Int) != 59) = false := by rw [← hb, h59]; rfl
          have HE := hideT (show gapE S 4 (k + 1) = gapE S 3 i by rw [← gapE_59 hkl (by rw [hyk]; exact h59)]; exact HR.out)
          have H59 := hideT h59
          clear hf hb hyk hkl HR h59
          go_wp2_with fail
          refine (GB.out _).mono ?_
          rintro e w1 ⟨rfl, rfl⟩
          clear GB
          go_wp2
          go_loop [1] (fun v => ∃ j : Nat, k ≤ j ∧ j ≤ s.size ∧ v = .int .i64 j ∧ (j = k ∨ k < j ∧ gapE S 4 j = gapE S 3 i)) (fun v => s.size - (intOf v).toNat)
          case atStart => exact ⟨k, Nat.le_refl _, hk, rfl, Or.inl rfl⟩
          case round =>
            obtain ⟨j, hkj, hj, rfl, hgj⟩ := hrel
            have HJ := hideT hgj
            clear hgj
            by_cases hjl : j < s.size
            · have hji : ((j : Int) < (s.size : Int)) := by omega
              have hbj := byt_of hjl
              have hyj := HY.out j hjl
              have hjL : j < S.length := by rw [← HL.out]; exact hjl
              by_cases h10 : byt s j = 10
              · have y10 : (((s[j]'hjl).toNat : Int) != 10) = false := by rw [← hbj, h10]; rfl
                have h4 : k < j ∧ gapE S 4 j = gapE S 3 i := by
                  rcases HJ.out with c | c
                  · exfalso; rw [c] at h10; have := H59.out; omega
                  · exact c
                have h5 := gapE_out (S := S) (k := j) (fun _ => by rw [hyj]; omega)
                have H4 := hideT (show k < j ∧ gapE S 3 j = gapE S 3 i from ⟨h4.1, by rw [← h5]; exact h4.2⟩)
                clear h4 h5 HJ hbj hyj hjL h10
                go_wp2
                go_round
                case rel => exact ⟨j, by omega, hj, rfl, H4.out.2⟩
                case measure => have := H4.out.1; simp [intOf]; omega
              by_cases h13 : byt s j = 13
              · have y13 : (((s[j]'hjl).toNat : Int) != 13) = false := by rw [← hbj, h13]; rfl
                have y10 : (((s[j]'hjl).toNat : Int) != 10) = true := by rw [← hbj, bne_iff_ne]; omega
                have h4 : k < j ∧ gapE S 4 j = gapE S 3 i := by
                  rcases HJ.out with c | c
                  · exfalso; rw [c] at h13; have := H59.out; omega
                  · exact c
                have h5 := gapE_out (S := S) (k := j) (fun _ => by rw [hyj]; omega)
                have H4 := hideT (show k < j ∧ gapE S 3 j = gapE S 3 i from ⟨h4.1, by rw [← h5]; exact h4.2⟩)
                clear h4 h5 HJ hbj hyj hjL h13 h10
                go_wp2
                go_round
                case rel => exact ⟨j, by omega, hj, rfl, H4.out.2⟩
                case measure => have := H4.out.1; simp [intOf]; omega
              have y10 : (((s[j]'hjl).toNat : Int) != 10) = true := by rw [← hbj, bne_iff_ne]; omega
              have y13 : (((s[j]'hjl).toNat : Int) != 13) = true := by rw [← hbj, bne_iff_ne]; omega
              have h4 : gapE S 4 (j + 1) = gapE S 3 i := by
                rcases HJ.out with c | ⟨_, c⟩
                · rw [c]; exact HE.out
                · rw [← gapE_in hjL (by rw [hyj]; exact h10) (by rw [hyj]; exact h13)]; exact c
              have H4 := hideT h4
              clear h4 HJ hbj hyj hjL h10 h13
              go_wp2
              go_round
              case rel => exact ⟨j + 1, by omega, by omega, by go_num, Or.inr ⟨by omega, H4.out⟩⟩
              case measure => simp [intOf]; omega
            · have hji : ¬ ((j : Int) < (s.size : Int)) := by omega
              have h4 : k < j ∧ gapE S 4 j = gapE S 3 i := by
                rcases HJ.out with c | c
                · omega
                · exact c
              have h5 := gapE_out (S := S) (k := j) (fun c => absurd c (by rw [← HL.out]; exact hjl))
              have H4 := hideT (show k < j ∧ gapE S 3 j = gapE S 3 i from ⟨h4.1, by rw [← h5]; exact h4.2⟩)
              clear h4 h5 HJ
              go_wp2
              go_round
              case rel => exact ⟨j, by omega, hj, rfl, H4.out.2⟩
              case measure => have := H4.out.1; simp [intOf]; omega
        · have x59 : (((s[k]'hlt).toNat : Int) != 59) = true := by rw [← hb, bne_iff_ne]; omega
          have HE := hideT (show gapE S 3 i = k by rw [← HR.out]; exact gapE_stop (by rw [hyk, hf]; decide) (by rw [hyk]; exact h59))
          clear hf hb hyk hkl HR h59
          go_wp2_with fail
          refine (GB.out _).mono ?_
          rintro e w1 ⟨rfl, rfl⟩
          go_wp2
          go_ret
          rw [HE.out]
          exact ⟨rfl, rfl⟩
      · rw [hf, hb] at GB
        have HE := hideT (show gapE S 3 (k + 1) = gapE S 3 i by rw [← gapE_bl hkl (by rw [hyk]; exact hf)]; exact HR.out)
        clear hf hb hyk hkl HR
        go_wp2_with fail
        refine (GB.out _).mono ?_
        rintro e w1 ⟨rfl, rfl⟩
        go_wp2
        go_round
        case rel => exact ⟨k + 1, by omega, by omega, by go_num, HE.out⟩
        case measure => simp [intOf]; omega
    · have hki : ¬ ((k : Int) < (s.size : Int)) := by omega
      have HE := hideT (show gapE S 3 i = k by rw [← HR.out]; exact gapE_off (fun c => by rw [← HL.out] at c; exact hlt c.1))
      clear HR
      go_wp2
      go_ret
      rw [HE.out]
      exact ⟨rfl, rfl⟩

end Go.Proofs.YtpfmamimhhnbiaaGreatDoor

namespace Go.Proofs.YtpfmamimhhnbiaaGreatDoor
open Go.RowKit
set_option linter.unusedVariables false
set_option linter.unusedSimpArgs false

def whV (k : Int) (t : ByteArray) (e : Int) : Value := .agg #[.int .i64 0, .int .i64 k, .string t, .int .i64 e, .int .i64 0, .int .i64 0]
def opV : Value := .agg #[.int .i64 1, .int .i64 0, .string ⟨#[]⟩, .int .i64 0, .int .i64 0, .int .i64 0]
def wrV (c a : Int) : Value := .agg #[.int .i64 2, .int .i64 0, .string ⟨#[]⟩, .int .i64 0, .int .i64 c, .int .i64 a]
/-- what is seen, as the reference hands it back -/
def seenV (n i : Nat) (fin : Bool) : Seen → Value
  | .tok k t e self => if self = false ∧ e = n ∧ fin = false then opV else whV k t e
  | .half c => if fin = true then wrV c i else opV
  | .bad x => wrV 120 x
theorem seenV_agg (n i : Nat) (fin : Bool) (X : Seen) : ∃ (a b : Int) (t : ByteArray) (c d e : Int), seenV n i fin X = .agg #[.int .i64 a, .int .i64 b, .string t, .int .i64 c, .int .i64 d, .int .i64 e] := by
  cases X with
  | tok k t e self =>
    simp only [seenV]
    split
    · exact ⟨_, _, _, _, _, _, rfl⟩
    · exact ⟨_, _, _, _, _, _, rfl⟩
  | half c =>
    simp only [seenV]
    split
    · exact ⟨_, _, _, _, _, _, rfl⟩
    · exact ⟨_, _, _, _, _, _, rfl⟩
  | bad x => exact ⟨_, _, _, _, _, _, rfl⟩
theorem seenV_open {n i k e : Nat} {t : ByteArray} (h : e = n) : seenV n i false (.tok k t e false) = opV := by simp [seenV, h]
theorem seenV_whole {n i k e : Nat} {fin self : Bool} {t : ByteArray} (h : ¬ (self = false ∧ e = n ∧ fin = false)) : seenV n i fin (.tok k t e self) = whV k t e := by simp only [seenV]; rw [if_neg h]
set_option maxHeartbeats 4000000 in
set_option maxRecDepth 100000 in
theorem unless_is (k : Int) (t : ByteArray) (e : Nat) (last fin : Bool) (w : World) : Calls Tryz.prog 73 #[.int .i64 k, .string t, .int .i64 e, .bool last, .bool fin] w fun r w' => r = .returned (if last = true ∧ fin = false then opV else whV k t e) ∧ Below w.heap.size w w' := by
  obtain ⟨V, hV⟩ : ∃ V, (if last = true ∧ fin = false then opV else whV k t e) = V := ⟨_, rfl⟩
  rw [hV]
  have HV := hideT hV
  clear hV
  have hB := below_alloc (w := w) (.cells #[.int .i64 0, .int .i64 0, .string ⟨#[]⟩, .int .i64 0, .int .i64 0, .int .i64 0] 79)
  have qT := Blk.new w #[.int .i64 0, .int .i64 0, .string ⟨#[]⟩, .int .i64 0, .int .i64 0, .int .i64 0] 79
  have eW : (w.alloc (.cells #[.int .i64 0, .int .i64 0, .string ⟨#[]⟩, .int .i64 0, .int .i64 0, .int .i64 0] 79)).heap.size = w.heap.size + 1 := by simp
  go_enter Tryz.func73, Tryz.ntmps73
  go_upto_region 1 with fail
  generalize w.alloc (.cells #[.int .i64 0, .int .i64 0, .string ⟨#[]⟩, .int .i64 0, .int .i64 0, .int .i64 0] 79) = W at hB qT eW ⊢
  cases last
  · skip
    have fz := fun o => qT.frozen o
    have t0 := qT.cell 0
    have t1 := qT.cell 1
    have t2 := qT.cell 2
    have t3 := qT.cell 3
    have t4 := qT.cell 4
    have t5 := qT.cell 5
    simp only [List.getElem?_toArray, List.getElem?_cons_zero, List.getElem?_cons_succ] at t0 t1 t2 t3 t4 t5
    go_wp2
    clear fz t0 t1 t2 t3 t4 t5
    obtain ⟨k6, q6⟩ := qT.set6 (.int .i64 0) (.int .i64 k) (.string t) (.int .i64 e) (.int .i64 0) (.int .i64 0)
    unfold set6 at k6 q6
    have x0 := q6.cell 0
    have x1 := q6.cell 1
    have x2 := q6.cell 2
    have x3 := q6.cell 3
    have x4 := q6.cell 4
    have x5 := q6.cell 5
    simp only [List.getElem?_toArray, List.getElem?_cons_zero, List.getElem?_cons_succ] at x0 x1 x2 x3 x4 x5
    replace hB := hB.trans ((k6.below (Nat.le_refl _)).mono (Nat.le_refl _))
    clear k6 q6 qT
    generalize ((((((W.setCell ⟨w.heap.size, 0, none⟩ (.int .i64 0)).setCell ⟨w.heap.size, 1, none⟩ (.int .i64 k)).setCell ⟨w.heap.size, 2, none⟩ (.string t)).setCell ⟨w.heap.size, 3, none⟩ (.int .i64 e)).setCell ⟨w.heap.size, 4, none⟩ (.int .i64 0)).setCell ⟨w.heap.size, 5, none⟩ (.int .i64 0)) = w9 at x0 x1 x2 x3 x4 x5 hB ⊢
    refine bodyPost_ret (v := .agg #[.int .i64 0, .int .i64 k, .string t, .int .i64 e, .int .i64 0, .int .i64 0]) (by rw [results_c rfl]; go_simp) rfl ?_
    refine ⟨?_, hB⟩
    rw [← HV.out, if_neg (by simp)]; rfl
  · cases fin
    · skip
      have fz := fun o => qT.frozen o
      have t0 := qT.cell 0
      have t1 := qT.cell 1
      have t2 := qT.cell 2
      have t3 := qT.cell 3
      have t4 := qT.cell 4
      have t5 := qT.cell 5
      simp only [List.getElem?_toArray, List.getElem?_cons_zero, List.getElem?_cons_succ] at t0 t1 t2 t3 t4 t5
      go_wp2
      clear fz t0 t1 t2 t3 t4 t5
      obtain ⟨k6, q6⟩ := qT.set6 (.int .i64 1) (.int .i64 0) (.string ⟨#[]⟩) (.int .i64 0) (.int .i64 0) (.int .i64 0)
      unfold set6 at k6 q6
      have x0 := q6.cell 0
      have x1 := q6.cell 1
      have x2 := q6.cell 2
      have x3 := q6.cell 3
      have x4 := q6.cell 4
      have x5 := q6.cell 5
      simp only [List.getElem?_toArray, List.getElem?_cons_zero, List.getElem?_cons_succ] at x0 x1 x2 x3 x4 x5
      replace hB := hB.trans ((k6.below (Nat.le_refl _)).mono (Nat.le_refl _))
      clear k6 q6 qT
      generalize ((((((W.setCell ⟨w.heap.size, 0, none⟩ (.int .i64 1)).setCell ⟨w.heap.size, 1, none⟩ (.int .i64 0)).setCell ⟨w.heap.size, 2, none⟩ (.string ⟨#[]⟩)).setCell ⟨w.heap.size, 3, none⟩ (.int .i64 0)).setCell ⟨w.heap.size, 4, none⟩ (.int .i64 0)).setCell ⟨w.heap.size, 5, none⟩ (.int .i64 0)) = w9 at x0 x1 x2 x3 x4 x5 hB ⊢
      refine bodyPost_ret (v := .agg #[.int .i64 1, .int .i64 0, .string ⟨#[]⟩, .int .i64 0, .int .i64 0, .int .i64 0]) (by rw [results_c rfl]; go_simp) rfl ?_
      refine ⟨?_, hB⟩
      rw [← HV.out, if_pos (by simp)]; rfl
    · skip
      have fz := fun o => qT.frozen o
      have t0 := qT.cell 0
      have t1 := qT.cell 1
      have t2 := qT.cell 2
      have t3 := qT.cell 3
      have t4 := qT.cell 4
      have t5 := qT.cell 5
      simp only [List.getElem?_toArray, List.getElem?_cons_zero, List.getElem?_cons_succ] at t0 t1 t2 t3 t4 t5
      go_wp2
      clear fz t0 t1 t2 t3 t4 t5
      obtain ⟨k6, q6⟩ := qT.set6 (.int .i64 0) (.int .i64 k) (.string t) (.int .i64 e) (.int .i64 0) (.int .i64 0)
      unfold set6 at k6 q6
      have x0 := q6.cell 0
      have x1 := q6.cell 1
      have x2 := q6.cell 2
      have x3 := q6.cell 3
      have x4 := q6.cell 4
      have x5 := q6.cell 5
      simp only [List.getElem?_toArray, List.getElem?_cons_zero, List.getElem?_cons_succ] at x0 x1 x2 x3 x4 x5
      replace hB := hB.trans ((k6.below (Nat.le_refl _)).mono (Nat.le_refl _))
      clear k6 q6 qT
      generalize ((((((W.setCell ⟨w.heap.size, 0, none⟩ (.int .i64 0)).setCell ⟨w.heap.size, 1, none⟩ (.int .i64 k)).setCell ⟨w.heap.size, 2, none⟩ (.string t)).setCell ⟨w.heap.size, 3, none⟩ (.int .i64 e)).setCell ⟨w.heap.size, 4, none⟩ (.int .i64 0)).setCell ⟨w.heap.size, 5, none⟩ (.int .i64 0)) = w9 at x0 x1 x2 x3 x4 x5 hB ⊢
      refine bodyPost_ret (v := .agg #[.int .i64 0, .int .i64 k, .string t, .int .i64 e, .int .i64 0, .int .i64 0]) (by rw [results_c rfl]; go_simp) rfl ?_
      refine ⟨?_, hB⟩
      rw [← HV.out, if_neg (by simp)]; rfl

set_option maxHeartbeats 4000000 in
set_option maxRecDepth 100000 in
theorem bad_is (x : Nat) (w : World) : Calls Tryz.prog 74 #[.int .i64 x] w fun r w' => r = .returned (wrV 120 x) ∧ Below w.heap.size w w' := by
  have hB := below_alloc (w := w) (.cells #[.int .i64 0, .int .i64 0, .string ⟨#[]⟩, .int .i64 0, .int .i64 0, .int .i64 0] 79)
  have qT := Blk.new w #[.int .i64 0, .int .i64 0, .string ⟨#[]⟩, .int .i64 0, .int .i64 0, .int .i64 0] 79
  have eW : (w.alloc (.cells #[.int .i64 0, .int .i64 0, .string ⟨#[]⟩, .int .i64 0, .int .i64 0, .int .i64 0] 79)).heap.size = w.heap.size + 1 := by simp
  go_enter Tryz.func74, Tryz.ntmps74
  go_upto_region 1 with fail
  generalize w.alloc (.cells #[.int .i64 0, .int .i64 0, .string ⟨#[]⟩, .int .i64 0, .int .i64 0, .int .i64 0] 79) = W at hB qT eW ⊢
  have fz := fun o => qT.frozen o
  have t0 := qT.cell 0
  have t1 := qT.cell 1
  have t2 := qT.cell 2
  have t3 := qT.cell 3
  have t4 := qT.cell 4
  have t5 := qT.cell 5
  simp only [List.getElem?_toArray, List.getElem?_cons_zero, List.getElem?_cons_succ] at t0 t1 t2 t3 t4 t5
  go_wp2
  clear fz t0 t1 t2 t3 t4 t5
  obtain ⟨k6, q6⟩ := qT.set6 (.int .i64 2) (.int .i64 0) (.string ⟨#[]⟩) (.int .i64 0) (.int .i64 120) (.int .i64 x)
  unfold set6 at k6 q6
  have x0 := q6.cell 0
  have x1 := q6.cell 1
  have x2 := q6.cell 2
  have x3 := q6.cell 3
  have x4 := q6.cell 4
  have x5 := q6.cell 5
  simp only [List.getElem?_toArray, List.getElem?_cons_zero, List.getElem?_cons_succ] at x0 x1 x2 x3 x4 x5
  replace hB := hB.trans ((k6.below (Nat.le_refl _)).mono (Nat.le_refl _))
  clear k6 q6 qT
  generalize ((((((W.setCell ⟨w.heap.size, 0, none⟩ (.int .i64 2)).setCell ⟨w.heap.size, 1, none⟩ (.int .i64 0)).setCell ⟨w.heap.size, 2, none⟩ (.string ⟨#[]⟩)).setCell ⟨w.heap.size, 3, none⟩ (.int .i64 0)).setCell ⟨w.heap.size, 4, none⟩ (.int .i64 120)).setCell ⟨w.heap.size, 5, none⟩ (.int .i64 x)) = w9 at x0 x1 x2 x3 x4 x5 hB ⊢
  refine bodyPost_ret (v := .agg #[.int .i64 2, .int .i64 0, .string ⟨#[]⟩, .int .i64 0, .int .i64 120, .int .i64 x]) (by rw [results_c rfl]; go_simp) rfl ?_
  refine ⟨?_, hB⟩
  rfl

theorem barP_shut {S : List UInt8} {i j : Nat} (h : j < S.length) (hb : byS S j = 124) : barP S i j = .tok 3 (bts (subS S (i + 1) j)) (j + 1) true := by rw [barP, dif_pos h, if_pos hb]
theorem barP_bad {S : List UInt8} {i j : Nat} (h : j < S.length) (hb : byS S j ≠ 124) (hn : nbN (byS S j) = true) : barP S i j = .bad j := by rw [barP, dif_pos h, if_neg hb, if_pos hn]
theorem barP_on {S : List UInt8} {i j : Nat} (h : j < S.length) (hb : byS S j ≠ 124) (hn : nbN (byS S j) = false) : barP S i j = barP S i (j + 1) := by rw [barP, dif_pos h, if_neg hb, if_neg (by rw [hn]; decide)]
theorem barP_end {S : List UInt8} {i j : Nat} (h : ¬ j < S.length) : barP S i j = .half 121 := by rw [barP, dif_neg h]
set_option maxHeartbeats 4000000 in
set_option maxRecDepth 100000 in
theorem barred_is (s : ByteArray) (S : List UInt8) (hS : s.data.toList = S) (i : Nat) (fin : Bool) (w : World) (hsz : s.size ≤ 4294967280) (hi : i < s.size) : Calls Tryz.prog 68 #[.string s, .int .i64 i, .bool fin] w fun r w' => r = .returned (seenV s.size i fin (barP S i (i + 1))) ∧ Below w.heap.size w w' := by
  have hy := fun k (h : k < s.size) => byS_byt h
  have hsl : s.size = S.length := by rw [← hS, Array.length_toList]; rfl
  rw [hS] at hy
  have HSS := hideT hS
  clear hS
  have HY := hideT hy
  have HL := hideT hsl
  clear hy hsl
  have hB := below_alloc (w := w) (.cells #[.int .i64 0, .int .i64 0, .string ⟨#[]⟩, .int .i64 0, .int .i64 0, .int .i64 0] 79)
  have qT := Blk.new w #[.int .i64 0, .int .i64 0, .string ⟨#[]⟩, .int .i64 0, .int .i64 0, .int .i64 0] 79
  have eW : (w.alloc (.cells #[.int .i64 0, .int .i64 0, .string ⟨#[]⟩, .int .i64 0, .int .i64 0, .int .i64 0] 79)).heap.size = w.heap.size + 1 := by simp
  go_enter Tryz.func68, Tryz.ntmps68
  go_upto_region 1 with fail
  generalize w.alloc (.cells #[.int .i64 0, .int .i64 0, .string ⟨#[]⟩, .int .i64 0, .int .i64 0, .int .i64 0] 79) = W at hB qT eW ⊢
  go_wp2
  go_loop [7] (fun v => ∃ k : Nat, i < k ∧ k ≤ s.size ∧ v = .int .i64 k ∧ barP S i k = barP S i (i + 1)) (fun v => s.size - (intOf v).toNat)
  case atStart => exact ⟨i + 1, by omega, by omega, by go_num, rfl⟩
  case round =>
    obtain ⟨k, hik, hk, rfl, hr⟩ := hrel
    have HR := hideT hr
    clear hr
    by_cases hlt : k < s.size
    · have hki : ((k : Int) < (s.size : Int)) := by omega
      have hb := byt_of hlt
      have hyk := HY.out k hlt
      have hkl : k < S.length := by rw [← HL.out]; exact hlt
      by_cases h124 : byt s k = 124
      · have x124 : (((s[k]'hlt).toNat : Int) == 124) = true := by rw [← hb, h124]; rfl
        have HX := hideT (HR.out.symm.trans (barP_shut hkl (by rw [hyk]; exact h124)))
        clear hb hyk hkl HR h124
        have hsl : ∀ wx : World, (Instr.slice 9 (.string s) (some (.int .i64 ((i : Int) + 1))) (some (.int .i64 ((k : Int)))) none).run Tryz.prog wx = .ok (.string (s.extract (i + 1) (k))) wx := fun wx => by
          have h := run_slice_string_if (P := Tryz.prog) (w := wx) 9 s .i64 .i64 ((i : Int) + 1) ((k : Int)) Tryz.underlying9
          rw [if_pos (by omega), if_pos (by omega), show ((i : Int) + 1).toNat = i + 1 by omega, show ((k : Int)).toNat = k by omega] at h
          exact h
        have fz := fun o => qT.frozen o
        have t0 := qT.cell 0
        have t1 := qT.cell 1
        have t2 := qT.cell 2
        have t3 := qT.cell 3
        have t4 := qT.cell 4
        have t5 := qT.cell 5
        simp only [List.getElem?_toArray, List.getElem?_cons_zero, List.getElem?_cons_succ] at t0 t1 t2 t3 t4 t5
        go_wp2
        clear fz t0 t1 t2 t3 t4 t5
        obtain ⟨k6, q6⟩ := qT.set6 (.int .i64 0) (.int .i64 3) (.string (s.extract (i + 1) k)) (.int .i64 ((k : Int) + 1)) (.int .i64 0) (.int .i64 0)
        unfold set6 at k6 q6
        have x0 := q6.cell 0
        have x1 := q6.cell 1
        have x2 := q6.cell 2
        have x3 := q6.cell 3
        have x4 := q6.cell 4
        have x5 := q6.cell 5
        simp only [List.getElem?_toArray, List.getElem?_cons_zero, List.getElem?_cons_succ] at x0 x1 x2 x3 x4 x5
        replace hB := hB.trans ((k6.below (Nat.le_refl _)).mono (Nat.le_refl _))
        clear k6 q6 qT
        generalize ((((((W.setCell ⟨w.heap.size, 0, none⟩ (.int .i64 0)).setCell ⟨w.heap.size, 1, none⟩ (.int .i64 3)).setCell ⟨w.heap.size, 2, none⟩ (.string (s.extract (i + 1) k))).setCell ⟨w.heap.size, 3, none⟩ (.int .i64 ((k : Int) + 1))).setCell ⟨w.heap.size, 4, none⟩ (.int .i64 0)).setCell ⟨w.heap.size, 5, none⟩ (.int .i64 0)) = w9 at x0 x1 x2 x3 x4 x5 hB ⊢
        refine bodyPost_ret (v := .agg #[.int .i64 0, .int .i64 3, .string (s.extract (i + 1) k), .int .i64 ((k : Int) + 1), .int .i64 0, .int .i64 0]) (by rw [results_c rfl]; go_simp) rfl ?_
        refine ⟨?_, hB⟩
        rw [HX.out, seenV_whole (by simp), sub_is HSS.out]; rfl
      · have x124 : (((s[k]'hlt).toNat : Int) == 124) = false := by rw [← hb, beq_eq_false_iff_ne]; omega
        have GQ := hideT (fun W => quotable_is (byt s k) W)
        rw [quN_not] at GQ
        have GBD := hideT (fun W => bad_is k W)
        have hnb : nbN (byt s k) = (nqN (byt s k) || decide (byt s k = 92)) := by unfold nbN; rw [decide_eq_false h124]; simp
        rcases hf : nqN (byt s k) with _ | _
        · rw [hf, hb] at GQ
          rw [hf] at hnb
          by_cases h92 : byt s k = 92
          · have x92 : (((s[k]'hlt).toNat : Int) == 92) = true := by rw [← hb, h92]; rfl
            have HX := hideT (HR.out.symm.trans (barP_bad hkl (by rw [hyk]; exact h124) (by rw [hyk, hnb, h92]; rfl)))
            clear hb hyk hkl HR h124 h92 hnb hf
            go_wp2_with fail
            refine (GQ.out _).mono ?_
            rintro e w1 ⟨rfl, rfl⟩
            unfold wrV at GBD
            go_wp2_with fail
            refine (GBD.out _).mono ?_
            rintro e w1 ⟨rfl, b1⟩
            replace qT := qT.later b1
            replace hB := hB.trans (b1.mono hB.size)
            clear b1
            have fz := fun o => qT.frozen o
            have t0 := qT.cell 0
            have t1 := qT.cell 1
            have t2 := qT.cell 2
            have t3 := qT.cell 3
            have t4 := qT.cell 4
            have t5 := qT.cell 5
            simp only [List.getElem?_toArray, List.getElem?_cons_zero, List.getElem?_cons_succ] at t0 t1 t2 t3 t4 t5
            go_wp2
            clear fz t0 t1 t2 t3 t4 t5
            obtain ⟨k6, q6⟩ := qT.set6 (.int .i64 2) (.int .i64 0) (.string ⟨#[]⟩) (.int .i64 0) (.int .i64 120) (.int .i64 k)
            unfold set6 at k6 q6
            have x0 := q6.cell 0
            have x1 := q6.cell 1
            have x2 := q6.cell 2
            have x3 := q6.cell 3
            have x4 := q6.cell 4
            have x5 := q6.cell 5
            simp only [List.getElem?_toArray, List.getElem?_cons_zero, List.getElem?_cons_succ] at x0 x1 x2 x3 x4 x5
            replace hB := hB.trans ((k6.below (Nat.le_refl _)).mono (Nat.le_refl _))
            clear k6 q6 qT
            generalize ((((((w1.setCell ⟨w.heap.size, 0, none⟩ (.int .i64 2)).setCell ⟨w.heap.size, 1, none⟩ (.int .i64 0)).setCell ⟨w.heap.size, 2, none⟩ (.string ⟨#[]⟩)).setCell ⟨w.heap.size, 3, none⟩ (.int .i64 0)).setCell ⟨w.heap.size, 4, none⟩ (.int .i64 120)).setCell ⟨w.heap.size, 5, none⟩ (.int .i64 k)) = w9 at x0 x1 x2 x3 x4 x5 hB ⊢
            refine bodyPost_ret (v := .agg #[.int .i64 2, .int .i64 0, .string ⟨#[]⟩, .int .i64 0, .int .i64 120, .int .i64 k]) (by rw [results_c rfl]; go_simp) rfl ?_
            refine ⟨?_, hB⟩
            rw [HX.out]; rfl
          · have x92 : (((s[k]'hlt).toNat : Int) == 92) = false := by rw [← hb, beq_eq_false_iff_ne]; omega
            have HE := hideT (show barP S i (k + 1) = barP S i (i + 1) by rw [← barP_on hkl (by rw [hyk]; exact h124) (by rw [hyk, hnb]; simp [h92])]; exact HR.out)
            clear hb hyk hkl HR h124 h92 hnb hf
            go_wp2_with fail
            refine (GQ.out _).mono ?_
            rintro e w1 ⟨rfl, rfl⟩
            go_wp2
            go_round
            case rel => exact ⟨k + 1, by omega, by omega, by go_num, HE.out⟩
            case measure => simp [intOf]; omega
        · rw [hf, hb] at GQ
          rw [hf] at hnb
          have HX := hideT (HR.out.symm.trans (barP_bad hkl (by rw [hyk]; exact h124) (by rw [hyk, hnb]; rfl)))
          clear hb hyk hkl HR h124 hnb hf
          go_wp2_with fail
          refine (GQ.out _).mono ?_
          rintro e w1 ⟨rfl, rfl⟩
          unfold wrV at GBD
          go_wp2_with fail
          refine (GBD.out _).mono ?_
          rintro e w1 ⟨rfl, b1⟩
          replace qT := qT.later b1
          replace hB := hB.trans (b1.mono hB.size)
          clear b1
          have fz := fun o => qT.frozen o
          have t0 := qT.cell 0
          have t1 := qT.cell 1
          have t2 := qT.cell 2
          have t3 := qT.cell 3
          have t4 := qT.cell 4
          have t5 := qT.cell 5
          simp only [List.getElem?_toArray, List.getElem?_cons_zero, List.getElem?_cons_succ] at t0 t1 t2 t3 t4 t5
          go_wp2
          clear fz t0 t1 t2 t3 t4 t5
          obtain ⟨k6, q6⟩ := qT.set6 (.int .i64 2) (.int .i64 0) (.string ⟨#[]⟩) (.int .i64 0) (.int .i64 120) (.int .i64 k)
          unfold set6 at k6 q6
          have x0 := q6.cell 0
          have x1 := q6.cell 1
          have x2 := q6.cell 2
          have x3 := q6.cell 3
          have x4 := q6.cell 4
          have x5 := q6.cell 5
          simp only [List.getElem?_toArray, List.getElem?_cons_zero, List.getElem?_cons_succ] at x0 x1 x2 x3 x4 x5
          replace hB := hB.trans ((k6.below (Nat.le_refl _)).mono (Nat.le_refl _))
          clear k6 q6 qT
          generalize ((((((w1.setCell ⟨w.heap.size, 0, none⟩ (.int .i64 2)).setCell ⟨w.heap.size, 1, none⟩ (.int .i64 0)).setCell ⟨w.heap.size, 2, none⟩ (.string ⟨#[]⟩)).setCell ⟨w.heap.size, 3, none⟩ (.int .i64 0)).setCell ⟨w.heap.size, 4, none⟩ (.int .i64 120)).setCell ⟨w.heap.size, 5, none⟩ (.int .i64 k)) = w9 at x0 x1 x2 x3 x4 x5 hB ⊢
          refine bodyPost_ret (v := .agg #[.int .i64 2, .int .i64 0, .string ⟨#[]⟩, .int .i64 0, .int .i64 120, .int .i64 k]) (by rw [results_c rfl]; go_simp) rfl ?_
          refine ⟨?_, hB⟩
          rw [HX.out]; rfl
    · have hki : ¬ ((k : Int) < (s.size : Int)) := by omega
      have HX := hideT (HR.out.symm.trans (barP_end (by rw [← HL.out]; exact hlt)))
      clear HR
      cases fin
      · skip
        have fz := fun o => qT.frozen o
        have t0 := qT.cell 0
        have t1 := qT.cell 1
        have t2 := qT.cell 2
        have t3 := qT.cell 3
        have t4 := qT.cell 4
        have t5 := qT.cell 5
        simp only [List.getElem?_toArray, List.getElem?_cons_zero, List.getElem?_cons_succ] at t0 t1 t2 t3 t4 t5
        go_wp2
        clear fz t0 t1 t2 t3 t4 t5
        obtain ⟨k6, q6⟩ := qT.set6 (.int .i64 1) (.int .i64 0) (.string ⟨#[]⟩) (.int .i64 0) (.int .i64 0) (.int .i64 0)
        unfold set6 at k6 q6
        have x0 := q6.cell 0
        have x1 := q6.cell 1
        have x2 := q6.cell 2
        have x3 := q6.cell 3
        have x4 := q6.cell 4
        have x5 := q6.cell 5
        simp only [List.getElem?_toArray, List.getElem?_cons_zero, List.getElem?_cons_succ] at x0 x1 x2 x3 x4 x5
        replace hB := hB.trans ((k6.below (Nat.le_refl _)).mono (Nat.le_refl _))
        clear k6 q6 qT
        generalize ((((((W.setCell ⟨w.heap.size, 0, none⟩ (.int .i64 1)).setCell ⟨w.heap.size, 1, none⟩ (.int .i64 0)).setCell ⟨w.heap.size, 2, none⟩ (.string ⟨#[]⟩)).setCell ⟨w.heap.size, 3, none⟩ (.int .i64 0)).setCell ⟨w.heap.size, 4, none⟩ (.int .i64 0)).setCell ⟨w.heap.size, 5, none⟩ (.int .i64 0)) = w9 at x0 x1 x2 x3 x4 x5 hB ⊢
        refine bodyPost_ret (v := .agg #[.int .i64 1, .int .i64 0, .string ⟨#[]⟩, .int .i64 0, .int .i64 0, .int .i64 0]) (by rw [results_c rfl]; go_simp) rfl ?_
        refine ⟨?_, hB⟩
        rw [HX.out]; rfl
      · skip
        have fz := fun o => qT.frozen o
        have t0 := qT.cell 0
        have t1 := qT.cell 1
        have t2 := qT.cell 2
        have t3 := qT.cell 3
        have t4 := qT.cell 4
        have t5 := qT.cell 5
        simp only [List.getElem?_toArray, List.getElem?_cons_zero, List.getElem?_cons_succ] at t0 t1 t2 t3 t4 t5
        go_wp2
        clear fz t0 t1 t2 t3 t4 t5
        obtain ⟨k6, q6⟩ := qT.set6 (.int .i64 2) (.int .i64 0) (.string ⟨#[]⟩) (.int .i64 0) (.int .i64 121) (.int .i64 i)
        unfold set6 at k6 q6
        have x0 := q6.cell 0
        have x1 := q6.cell 1
        have x2 := q6.cell 2
        have x3 := q6.cell 3
        have x4 := q6.cell 4
        have x5 := q6.cell 5
        simp only [List.getElem?_toArray, List.getElem?_cons_zero, List.getElem?_cons_succ] at x0 x1 x2 x3 x4 x5
        replace hB := hB.trans ((k6.below (Nat.le_refl _)).mono (Nat.le_refl _))
        clear k6 q6 qT
        generalize ((((((W.setCell ⟨w.heap.size, 0, none⟩ (.int .i64 2)).setCell ⟨w.heap.size, 1, none⟩ (.int .i64 0)).setCell ⟨w.heap.size, 2, none⟩ (.string ⟨#[]⟩)).setCell ⟨w.heap.size, 3, none⟩ (.int .i64 0)).setCell ⟨w.heap.size, 4, none⟩ (.int .i64 121)).setCell ⟨w.heap.size, 5, none⟩ (.int .i64 i)) = w9 at x0 x1 x2 x3 x4 x5 hB ⊢
        refine bodyPost_ret (v := .agg #[.int .i64 2, .int .i64 0, .string ⟨#[]⟩, .int .i64 0, .int .i64 121, .int .i64 i]) (by rw [results_c rfl]; go_simp) rfl ?_
        refine ⟨?_, hB⟩
        rw [HX.out]; rfl

end Go.Proofs.YtpfmamimhhnbiaaGreatDoor
