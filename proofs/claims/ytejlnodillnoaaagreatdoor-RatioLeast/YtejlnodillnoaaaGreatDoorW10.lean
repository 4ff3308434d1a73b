/-
  Division: guess, subTimes, takeTimes.
-/
import Derived.Test.YtejlnodillnoaaaGreatDoorW9
import Derived.Test.YtejlnodillnoaaaGreatDoorNumD
namespace Go.Proofs.YtejlnodillnoaaaGreatDoor
open Go.RowKit
set_option linter.unusedVariables false

theorem wrap_div {a b : Nat} (h : a < 18446744073709551616) : IntKind.u64.wrap ((a : Int) / (b : Int)) = ((a / b : Nat) : Int) := by
  have h1 := Nat.div_le_self a b
  rw [IntKind.wrap_u64, ← Int.natCast_ediv]
  generalize a / b = q at *
  omega
theorem ne_addr' {b1 o1 b : Nat} (h : b1 ≠ b) : ∀ o, some (Addr.mk b1 o1 none) ≠ some (Addr.mk b o none) := by
  intro o e; simp only [Option.some.injEq, Addr.mk.injEq] at e; exact h e.1
theorem or_high {a b : Nat} (ha : a < 4294967296) (hb : b < 4294967296) :
    bits BinOp.or IntKind.u64 ((a : Int) * 4294967296) (b : Int) = ((a * 4294967296 + b : Nat) : Int) := by
  have e : (a : Int) * 4294967296 = ((a * 4294967296 : Nat) : Int) := by omega
  rw [e, u64_or_nat _ _ (by omega) (by omega), nat_join 32 _ _ (by omega) (by omega)]

set_option maxHeartbeats 4000000 in
theorem guess_raw (b off n cap b2 o2 cap2 u2 u1 u0 d1 d2 : Nat) (w : World) (hn : 2 ≤ n) (hm : n ≤ 140737488355328) (h2 : u2 < 4294967296) (h1 : u1 < 4294967296) (h0 : u0 < 4294967296) (hd1 : d1 < 4294967296) (hd2 : d2 < 4294967296) (htop : 2147483648 ≤ d1) (hud : u2 ≤ d1)
    (c2 : w.cell? ⟨b, off + n, none⟩ = some (.int .u32 (u2 : Nat))) (c1 : w.cell? ⟨b, off + (n - 1), none⟩ = some (.int .u32 (u1 : Nat))) (c0 : w.cell? ⟨b, off + (n - 2), none⟩ = some (.int .u32 (u0 : Nat)))
    (e1 : w.cell? ⟨b2, o2 + (n - 1), none⟩ = some (.int .u32 (d1 : Nat))) (e2 : w.cell? ⟨b2, o2 + (n - 2), none⟩ = some (.int .u32 (d2 : Nat))) :
    Calls Tryz.prog 155 #[.slice (some ⟨b, off, none⟩) (n + 1) cap, .slice (some ⟨b2, o2, none⟩) n cap2] w fun e w' => e = .returned (.int .u32 (guessB 4294967296 (u2 * 4294967296 + u1) d1 d2 u0 : Nat)) ∧ Dr w w' := by
  obtain ⟨high, hh⟩ : ∃ h, h = u2 * 4294967296 + u1 := ⟨_, rfl⟩
  rw [← hh]
  have hor : bits BinOp.or IntKind.u64 ((u2 : Int) * 4294967296) (u1 : Int) = (high : Int) := by rw [hh]; exact or_high h2 h1
  have hhl : high < 18446744073709551616 := by omega
  have HH : Hid (high = u2 * 4294967296 + u1) := hh
  clear hh
  obtain ⟨M, hM⟩ : ∃ M, M = guessB 4294967296 high d1 d2 u0 := ⟨_, rfl⟩
  rw [← hM]
  have HM : Hid (M = guessB 4294967296 high d1 d2 u0) := hM
  clear hM
  have hML : M ≤ 4294967295 := by have := g_le (B := 4294967296) high d1 d2 u0; rw [HM.out]; omega
  go_enter Tryz.func155, Tryz.ntmps155
  go_wp2_with fail
  go_quiet (fail)
  go_wp2_with fail
  go_quiet (fail)
  go_wp2_with fail
  go_loopw [7, 8] (fun vm vr wr => ∃ m rest : Nat, vm = .int .u64 (m : Nat) ∧ vr = .int .u64 (rest : Nat) ∧ m * d1 + rest = high ∧ rest < 4294967296 ∧ M ≤ m ∧ m ≤ 4294967297 ∧ Dr w wr) (fun vm _ _ => (intOf vm).toNat)
  case atStart =>
    refine ⟨high / d1, high % d1, by rw [wrap_div hhl], by simp, ?_, ?_, ?_, ?_, by repeat (first | exact Dr.refl _ | refine Dr.drewN ?_ _)⟩
    · have := Nat.div_add_mod high d1; rw [Nat.mul_comm] at this; exact this
    · exact Nat.lt_trans (Nat.mod_lt _ (by omega)) hd1
    · rw [HM.out]; exact g_start (by omega) (by omega) h0
    · have k1 : high / d1 < 4294967298 := (Nat.div_lt_iff_lt_mul (by omega)).2 (by
        have k3 := HH.out
        have k4 : u2 * 4294967296 ≤ d1 * 4294967296 := Nat.mul_le_mul_right _ hud
        omega)
      omega
  case round =>
    obtain ⟨m, rest, rfl, rfl, heq, hrest, hMm, hmB, hdr⟩ := hrel
    have EQ : Hid (m * d1 + rest = high) := heq
    clear heq hor
    have c1' : wr.cell? ⟨b2, o2 + (n - 1), none⟩ = some (.int .u32 (d1 : Nat)) := by obtain ⟨q, rfl⟩ := hdr; exact e1
    have c2' : wr.cell? ⟨b2, o2 + (n - 2), none⟩ = some (.int .u32 (d2 : Nat)) := by obtain ⟨q, rfl⟩ := hdr; exact e2
    have c3' : wr.cell? ⟨b, off + (n - 2), none⟩ = some (.int .u32 (u0 : Nat)) := by obtain ⟨q, rfl⟩ := hdr; exact c0
    clear c0 c1 c2 e1 e2
    by_cases hA : 4294967296 ≤ m
    · have hg : (((m : Int) / 4294967296) != 0) = true := by rw [bne_iff_ne]; omega
      have HCond : Hid (4294967296 ≤ m ∨ high * 4294967296 + u0 < m * (d1 * 4294967296 + d2)) := Or.inl hA
      have hs : M + 1 ≤ m := by rw [HM.out]; exact g_step (by omega) HCond.out (by rw [← HM.out]; exact hMm)
      have EQ' : Hid ((m - 1) * d1 + (rest + d1) = high) := by
        have := EQ.out
        show _ = _
        obtain ⟨m', rfl⟩ : ∃ m', m = m' + 1 := ⟨m - 1, by omega⟩
        rw [Nat.add_sub_cancel]; rw [Nat.add_mul] at this; omega
      by_cases hR : 4294967296 ≤ rest + d1
      · have hRb : (((rest : Int) + (d1 : Int)) / 4294967296 != 0) = true := by rw [bne_iff_ne]; omega
        have FIN : Hid (m - 1 = M) := by
          have hlt : m - 1 < 4294967296 := by
            by_cases hx : m - 1 < 4294967296
            · exact hx
            · exfalso
              have k1 : 4294967296 * d1 ≤ (m - 1) * d1 := Nat.mul_le_mul_right _ (by omega)
              have k2 := EQ'.out
              have k3 := HH.out
              have k4 : u2 * 4294967296 ≤ d1 * 4294967296 := Nat.mul_le_mul_right _ hud
              omega
          show _ = _
          rw [HM.out]
          exact g_exit (B := 4294967296) (by omega) hlt (g_break EQ'.out hlt hd2 hR) (by rw [← HM.out]; omega)
        have hm1 : 1 ≤ m := by omega
        clear hs
        go_wp2_with fail
        go_quiet (fail)
        go_wp2
        go_ret
        refine ⟨ret_int ?_, hdr.drewN _⟩
        have := FIN.out
        omega
      · have hRb : (((rest : Int) + (d1 : Int)) / 4294967296 != 0) = false := by rw [bne_eq_false_iff_eq]; omega
        go_wp2_with fail
        go_quiet (fail)
        go_wp2
        go_roundw
        case rel => exact ⟨m - 1, rest + d1, by go_num, by go_num, EQ'.out, by omega, by omega, by omega, hdr.drewN _⟩
        case measure => simp [intOf]; omega
    · have hg : (((m : Int) / 4294967296) != 0) = false := by rw [bne_eq_false_iff_eq]; omega
      obtain ⟨t, ht⟩ : ∃ t, t = rest * 4294967296 + u0 := ⟨_, rfl⟩
      have hot : bits BinOp.or IntKind.u64 ((rest : Int) * 4294967296) (u0 : Int) = (t : Int) := by rw [ht]; exact or_high hrest h0
      have hp := prod_int (a := m) (b := d2) (by omega) hd2
      obtain ⟨hp0, hp1⟩ := hp
      by_cases hC : t < m * d2
      · have hCi : (t : Int) < (m : Int) * (d2 : Int) := by rw [← Int.natCast_mul]; omega
        have HCond : Hid (4294967296 ≤ m ∨ high * 4294967296 + u0 < m * (d1 * 4294967296 + d2)) := Or.inr ((g_cond EQ.out).1 (by rw [← ht]; exact hC))
        clear ht hC
        have hs : M + 1 ≤ m := by rw [HM.out]; exact g_step (by omega) HCond.out (by rw [← HM.out]; exact hMm)
        have EQ' : Hid ((m - 1) * d1 + (rest + d1) = high) := by
          have := EQ.out
          show _ = _
          obtain ⟨m', rfl⟩ : ∃ m', m = m' + 1 := ⟨m - 1, by omega⟩
          rw [Nat.add_sub_cancel]; rw [Nat.add_mul] at this; omega
        by_cases hR : 4294967296 ≤ rest + d1
        · have hRb : (((rest : Int) + (d1 : Int)) / 4294967296 != 0) = true := by rw [bne_iff_ne]; omega
          have FIN : Hid (m - 1 = M) := by
            have hlt : m - 1 < 4294967296 := by
              by_cases hx : m - 1 < 4294967296
              · exact hx
              · exfalso
                have k1 : 4294967296 * d1 ≤ (m - 1) * d1 := Nat.mul_le_mul_right _ (by omega)
                have k2 := EQ'.out
                have k3 := HH.out
                have k4 : u2 * 4294967296 ≤ d1 * 4294967296 := Nat.mul_le_mul_right _ hud
                omega
            show _ = _
            rw [HM.out]
            exact g_exit (B := 4294967296) (by omega) hlt (g_break EQ'.out hlt hd2 hR) (by rw [← HM.out]; omega)
          have hm1 : 1 ≤ m := by omega
          clear hs
          go_wp2_with fail
          go_quiet (fail)
          go_wp2
          go_ret
          refine ⟨ret_int ?_, hdr.drewN _⟩
          have := FIN.out
          omega
        · have hRb : (((rest : Int) + (d1 : Int)) / 4294967296 != 0) = false := by rw [bne_eq_false_iff_eq]; omega
          go_wp2_with fail
          go_quiet (fail)
          go_wp2
          go_roundw
          case rel => exact ⟨m - 1, rest + d1, by go_num, by go_num, EQ'.out, by omega, by omega, by omega, hdr.drewN _⟩
          case measure => simp [intOf]; omega
      · have hCi : ¬ (t : Int) < (m : Int) * (d2 : Int) := by rw [← Int.natCast_mul]; omega
        have FIN : Hid (m = M) := by
          show _ = _
          rw [HM.out]
          refine g_exit (B := 4294967296) (by omega) (by omega) ?_ (by rw [← HM.out]; exact hMm)
          by_cases hx : m * (d1 * 4294967296 + d2) ≤ high * 4294967296 + u0
          · exact hx
          · exfalso
            have := (g_cond (B := 4294967296) (d2 := d2) (u0 := u0) EQ.out).2 (by omega)
            rw [← ht] at this; exact hC this
        clear ht hC
        go_wp2_with fail
        go_quiet (fail)
        go_wp2
        go_ret
        refine ⟨ret_int ?_, hdr.drewN _⟩
        have := FIN.out
        omega

theorem st_digit {v t : Nat} (hv : v < 4294967296) : ∃ z c', z < 4294967296 ∧ v + c' * BB = t + z ∧ (((v : Int) - ((t : Int) % 4294967296)) % 4294967296 = (z : Int)) ∧ c' = t / 4294967296 + (if v < t % 4294967296 then 1 else 0) := by
  refine ⟨(v + 4294967296 - t % 4294967296) % 4294967296, _, Nat.mod_lt _ (by omega), ?_, ?_, rfl⟩
  · rw [BB_eq]; split <;> omega
  · omega

set_option maxHeartbeats 4000000 in
theorem subTimes_any (b off n cap V b2 o2 cap2 D m : Nat) (w : World) (hm : n ≤ 140737488355328) (hn : 0 < n) (hmm : m < 4294967296) (hne : b2 ≠ b) (hrow : Row w b) (hS : Seg w (some ⟨b, off, none⟩) V (n + 1)) (hS2 : Seg w (some ⟨b2, o2, none⟩) D n) :
    Calls Tryz.prog 156 #[.slice (some ⟨b, off, none⟩) (n + 1) cap, .slice (some ⟨b2, o2, none⟩) n cap2, .int .u32 m] w fun e w' => e = .returned (.bool (decide (V < m * D))) ∧ Wr b off (off + (n + 1)) w w' ∧ ∃ R, Seg w' (some ⟨b, off, none⟩) R (n + 1) ∧ (m * D ≤ V → R = V - m * D) ∧ (V < m * D → R + m * D = V + BB ^ (n + 1)) := by
  go_enter Tryz.func156, Tryz.ntmps156
  go_wp2
  go_loopw [7, 13] (fun vc i wr => ∃ k c N : Nat, k ≤ n ∧ i = .int .i64 k ∧ vc = .int .u64 (c : Nat) ∧ N < BB ^ k ∧ V % BB ^ k + c * BB ^ k = m * (D % BB ^ k) + N ∧ Wr b off (off + (n + 1)) w wr ∧ Seg wr (some ⟨b, off, none⟩) (mix N V k) (n + 1)) (fun _ i _ => n - (intOf i).toNat)
  case atStart => exact ⟨0, 0, 0, Nat.zero_le _, rfl, rfl, by simp, by simp [Nat.mod_one], Wr.refl _ _ _ _, by rw [mix_zero]; exact hS⟩
  case round =>
    obtain ⟨k, c, N, hk, rfl, rfl, hN, heq, hwr, hseg⟩ := hrel
    have hcm := st_bound heq hN
    have EQ : Hid (V % BB ^ k + c * BB ^ k = m * (D % BB ^ k) + N) := heq
    have HN : Hid (N < BB ^ k) := hN
    clear heq hN
    by_cases hlt : k < n
    · have hcx := hseg.rest k (Nat.le_refl _) (by omega)
      have hfz := fun o => (hwr.row hrow).frozen o
      have hcell2 := (hS2.wr hwr (ne_addr' hne)).cells k hlt
      obtain ⟨v, hv⟩ : ∃ v, v = dg V k := ⟨_, rfl⟩
      obtain ⟨d, hd⟩ : ∃ d, d = dg D k := ⟨_, rfl⟩
      have hv32 : v < 4294967296 := by rw [hv]; exact dg_lt _ _
      have hd32 : d < 4294967296 := by rw [hd]; exact dg_lt _ _
      rw [← hv] at hcx
      rw [← hd] at hcell2
      obtain ⟨hp0, hp1⟩ := prod_int hd32 hmm
      obtain ⟨z, c', hz, hzc, hzv, hc'⟩ := st_digit (t := d * m + c) hv32
      have ST := st_step EQ.out (by rw [← hv, ← hd]; exact hzc)
      have HST : Hid (V % BB ^ (k + 1) + c' * BB ^ (k + 1) = m * (D % BB ^ (k + 1)) + (N + z * BB ^ k)) := ST
      have HZV : Hid (((v : Int) - (((d * m + c : Nat) : Int) % 4294967296)) % 4294967296 = (z : Int)) := hzv
      have HC' : Hid (c' = (d * m + c) / 4294967296 + (if v < (d * m + c) % 4294967296 then 1 else 0)) := hc'
      have hcast : ((d * m + c : Nat) : Int) = (d : Int) * (m : Int) + (c : Int) := by rw [Int.natCast_add, Int.natCast_mul]
      have HCA : Hid (((d * m + c : Nat) : Int) = (d : Int) * (m : Int) + (c : Int)) := hcast
      have HD : Hid (d = dg D k) := hd
      have NXT : Hid (N + z * BB ^ k < BB ^ (k + 1)) := by
        have := HN.out
        show _ < _
        have h2 : (z + 1) * BB ^ k ≤ BB * BB ^ k := Nat.mul_le_mul_right _ (by rw [BB_eq]; omega)
        rw [Nat.add_mul, Nat.mul_comm BB, ← pow_succ'] at h2
        omega
      have SEG : Hid (∀ wv (vv : Int), Seg wv (some ⟨b, off, none⟩) (mix N V k) (n + 1) → vv = (z : Nat) → Seg (wv.setCell ⟨b, off + k, none⟩ (.int .u32 vv)) (some ⟨b, off, none⟩) (mix (N + z * BB ^ k) V (k + 1)) (n + 1)) := by
        intro wv vv hsg hvv
        have e1 : mix N V k = mix (N + z * BB ^ k) V k := by
          unfold mix
          rw [Nat.mod_eq_of_lt HN.out, Nat.add_mul_mod_self_right, Nat.mod_eq_of_lt HN.out]
        rw [e1] at hsg
        refine hsg.set (by omega) hS.1 ?_
        have := dg_hi z N k k (Nat.le_refl _) HN.out
        rw [Nat.sub_self, dg0, Nat.mod_eq_of_lt hz, Nat.add_comm] at this
        rw [this]; exact hvv
      clear hv hd hzv hzc hc' ST hcast
      by_cases hb : (v : Int) < ((d : Int) * (m : Int) + (c : Int)) % 4294967296
      all_goals
        go_wp2
        go_roundw
        case rel =>
          have a1 := HZV.out
          have a2 := HC'.out
          have a3 := HCA.out
          refine ⟨k + 1, c', N + z * BB ^ k, by omega, by go_num, ?_, NXT.out, HST.out, ?_, ?_⟩
          · congr 1
            split at a2 <;> omega
          · exact hwr.setCell (off + k) (by omega) (by omega) _
          · refine SEG.out _ _ hseg ?_
            rw [a3] at a1
            first | exact a1 | (rw [IntKind.wrap_u32']; exact a1) | omega
        case measure => simp [intOf]; omega
    · have hkm : k = n := by omega
      subst hkm
      have hcx := hseg.rest k (Nat.le_refl _) (by omega)
      have hfz := fun o => (hwr.row hrow).frozen o
      obtain ⟨v, hv⟩ : ∃ v, v = dg V k := ⟨_, rfl⟩
      have hv32 : v < 4294967296 := by rw [hv]; exact dg_lt _ _
      rw [← hv] at hcx
      have hVt : V = v * BB ^ k + V % BB ^ k := by
        have := split_at V k
        have e : V / BB ^ k = v := by
          rw [hv, dg, Nat.mod_eq_of_lt]
          exact (Nat.div_lt_iff_lt_mul (BBp k)).2 (by rw [Nat.mul_comm, ← pow_succ']; exact hS.1)
        rw [e] at this; exact this
      have hbase := EQ.out
      rw [Nat.mod_eq_of_lt hS2.1] at hbase
      obtain ⟨z, hz, hzc⟩ : ∃ z : Nat, z < 4294967296 ∧ ((c ≤ v ∧ z = v - c) ∨ (v < c ∧ z + c = v + 4294967296)) := by
        by_cases h : c ≤ v
        · exact ⟨v - c, by omega, Or.inl ⟨h, rfl⟩⟩
        · exact ⟨v + 4294967296 - c, by omega, Or.inr ⟨by omega, by omega⟩⟩
      have hR1 : c ≤ v → m * D ≤ V ∧ N + (v - c) * BB ^ k = V - m * D := by
        intro h
        have : (v - c) * BB ^ k = v * BB ^ k - c * BB ^ k := Nat.sub_mul _ _ _
        have h2 : c * BB ^ k ≤ v * BB ^ k := Nat.mul_le_mul_right _ h
        omega
      have hR2 : v < c → V < m * D ∧ ∀ z, z + c = v + 4294967296 → N + z * BB ^ k + m * D = V + BB ^ (k + 1) := by
        intro h
        have h1 := HN.out
        have h2 : (v + 1) * BB ^ k ≤ c * BB ^ k := Nat.mul_le_mul_right _ h
        rw [Nat.add_mul] at h2
        refine ⟨by omega, fun z hz' => ?_⟩
        have h3 : (z + c) * BB ^ k = (v + BB) * BB ^ k := by rw [hz', BB_eq]
        rw [Nat.add_mul, Nat.add_mul, Nat.mul_comm BB, ← pow_succ'] at h3
        omega
      have RES : Hid (∀ wv (vv : Int), Seg wv (some ⟨b, off, none⟩) (mix N V k) (k + 1) → vv = (z : Nat) → Seg (wv.setCell ⟨b, off + k, none⟩ (.int .u32 vv)) (some ⟨b, off, none⟩) (N + z * BB ^ k) (k + 1)) := by
        intro wv vv hsg hvv
        have e1 : mix N V k = mix (N + z * BB ^ k) V k := by
          unfold mix
          rw [Nat.mod_eq_of_lt HN.out, Nat.add_mul_mod_self_right, Nat.mod_eq_of_lt HN.out]
        rw [e1] at hsg
        have hb2 : N + z * BB ^ k < BB ^ (k + 1) := by
          have := HN.out
          have h2 : (z + 1) * BB ^ k ≤ BB * BB ^ k := Nat.mul_le_mul_right _ (by rw [BB_eq]; omega)
          rw [Nat.add_mul, Nat.mul_comm BB, ← pow_succ'] at h2
          omega
        have := hsg.set (v := vv) (by omega) hS.1 (by
          have := dg_hi z N k k (Nat.le_refl _) HN.out
          rw [Nat.sub_self, dg0, Nat.mod_eq_of_lt hz, Nat.add_comm] at this
          rw [this]; exact hvv)
        rwa [mix_full hS.1 hb2] at this
      have HR1 : Hid (c ≤ v → m * D ≤ V ∧ N + (v - c) * BB ^ k = V - m * D) := hR1
      have HR2 : Hid (v < c → V < m * D ∧ ∀ z, z + c = v + 4294967296 → N + z * BB ^ k + m * D = V + BB ^ (k + 1)) := hR2
      clear hR1 hR2 hbase hVt hv
      rcases hzc with ⟨hle, hze⟩ | ⟨hlt2, hze⟩
      · have HZ : Hid (z = v - c) := hze
        clear hze
        have hdec : ¬ V < m * D := by have := (HR1.out hle).1; omega
        have HDF : Hid (decide (V < m * D) = false) := decide_eq_false hdec
        have hvc : ¬ (v : Int) < (c : Int) := by omega
        clear hdec
        go_wp2
        go_ret
        refine ⟨by rw [HDF.out]; rfl, hwr.setCell (off + k) (by omega) (by omega) _, N + z * BB ^ k, RES.out _ _ hseg ?_, fun _ => ?_, fun h => ?_⟩
        · have := HZ.out; omega
        · rw [HZ.out]; exact (HR1.out hle).2
        · have := (HR1.out hle).1; omega
      · have HZ : Hid (z + c = v + 4294967296) := hze
        clear hze
        have HDF : Hid (decide (V < m * D) = true) := decide_eq_true (HR2.out hlt2).1
        have hvc : (v : Int) < (c : Int) := by omega
        go_wp2
        go_ret
        refine ⟨by rw [HDF.out]; rfl, hwr.setCell (off + k) (by omega) (by omega) _, N + z * BB ^ k, RES.out _ _ hseg ?_, fun h => ?_, fun _ => ?_⟩
        · have := HZ.out; first | omega | (rw [IntKind.wrap_u32']; omega)
        · have := (HR2.out hlt2).1; omega
        · exact (HR2.out hlt2).2 z HZ.out

set_option maxHeartbeats 4000000 in
theorem takeTimes_any (b off n cap V b2 o2 cap2 D : Nat) (w : World) (hn : 2 ≤ n) (hm : n ≤ 70368744177664) (hne : b2 ≠ b) (hrow : Row w b) (hS : Seg w (some ⟨b, off, none⟩) V (n + 1)) (hS2 : Seg w (some ⟨b2, o2, none⟩) D n) (htop : 2147483648 ≤ dg D (n - 1)) (hVD : V < D * 4294967296) :
    Calls Tryz.prog 136 #[.slice (some ⟨b, off, none⟩) (n + 1) cap, .slice (some ⟨b2, o2, none⟩) n cap2] w fun e w' => e = .returned (.int .u32 (V / D : Nat)) ∧ Wr b off (off + (n + 1)) w w' ∧ Seg w' (some ⟨b, off, none⟩) (V % D) (n + 1) := by
  obtain ⟨k, rfl⟩ : ∃ k, n = k + 2 := ⟨n - 2, by omega⟩
  have hDp : 0 < D := by
    by_cases h : D = 0
    · subst h; rw [dg_zero] at htop; omega
    · omega
  have eV : V = ((dg V (k + 2) * 4294967296 + dg V (k + 1)) * 4294967296 + dg V k) * BB ^ k + V % BB ^ k := by
    have a0 := split_at V k
    have a1 := div_succ V k
    have a2 := div_succ V (k + 1)
    have a3 : V / BB ^ (k + 2) = dg V (k + 2) := by
      rw [dg, Nat.mod_eq_of_lt]
      exact (Nat.div_lt_iff_lt_mul (BBp _)).2 (by rw [Nat.mul_comm, ← pow_succ']; exact hS.1)
    rw [show k + 1 + 1 = k + 2 from rfl, a3] at a2
    rw [a2] at a1
    rw [a1, BB_eq] at a0
    rw [BB_eq]; exact a0
  have eD : D = (dg D (k + 1) * 4294967296 + dg D k) * BB ^ k + D % BB ^ k := by
    have a0 := split_at D k
    have a1 := div_succ D k
    have a3 : D / BB ^ (k + 1) = dg D (k + 1) := by
      rw [dg, Nat.mod_eq_of_lt]
      exact (Nat.div_lt_iff_lt_mul (BBp _)).2 (by rw [Nat.mul_comm, ← pow_succ']; exact hS2.1)
    rw [a3] at a1
    rw [a1, BB_eq] at a0
    rw [BB_eq]; exact a0
  rw [show k + 2 - 1 = k + 1 by omega] at htop
  have hK := knuth (B := 4294967296) (by omega) (BBp k) eV eD (Nat.mod_lt _ (BBp k)) (Nat.mod_lt _ (BBp k)) (by omega) hVD
  have hud : dg V (k + 2) ≤ dg D (k + 1) := by
    by_cases h : dg V (k + 2) ≤ dg D (k + 1)
    · exact h
    · exfalso
      have h1 : (dg D (k + 1) + 1) * BB ^ (k + 2) ≤ dg V (k + 2) * BB ^ (k + 2) := Nat.mul_le_mul_right _ (by omega)
      have h2 : dg V (k + 2) * BB ^ (k + 2) ≤ V := by
        have e : V / BB ^ (k + 2) = dg V (k + 2) := by
          rw [dg, Nat.mod_eq_of_lt]
          exact (Nat.div_lt_iff_lt_mul (BBp _)).2 (by rw [Nat.mul_comm, ← pow_succ']; exact hS.1)
        rw [← e]; exact Nat.div_mul_le_self _ _
      have h3 : D < (dg D (k + 1) + 1) * BB ^ (k + 1) := by
        have a := split_at D (k + 1)
        have e : D / BB ^ (k + 1) = dg D (k + 1) := by
          rw [dg, Nat.mod_eq_of_lt]
          exact (Nat.div_lt_iff_lt_mul (BBp _)).2 (by rw [Nat.mul_comm, ← pow_succ']; exact hS2.1)
        have l : D % BB ^ (k + 1) < BB ^ (k + 1) := Nat.mod_lt _ (BBp _)
        rw [e] at a
        rw [Nat.add_mul]; omega
      have h4 : D * BB < (dg D (k + 1) + 1) * BB ^ (k + 1) * BB := Nat.mul_lt_mul_of_pos_right h3 BB_pos
      rw [Nat.mul_assoc, ← pow_succ', show k + 1 + 1 = k + 2 from rfl] at h4
      rw [← BB_eq] at hVD
      exact absurd (Nat.lt_of_lt_of_le (Nat.lt_trans hVD h4) (Nat.le_trans h1 h2)) (Nat.lt_irrefl _)
  obtain ⟨M, hM⟩ : ∃ M, M = guessB 4294967296 (dg V (k + 2) * 4294967296 + dg V (k + 1)) (dg D (k + 1)) (dg D k) (dg V k) := ⟨_, rfl⟩
  rw [← hM] at hK
  have hML : M < 4294967296 := by have := g_le (B := 4294967296) (dg V (k + 2) * 4294967296 + dg V (k + 1)) (dg D (k + 1)) (dg D k) (dg V k); rw [hM]; omega
  have GU := guess_raw b off (k + 2) cap b2 o2 cap2 (dg V (k + 2)) (dg V (k + 1)) (dg V k) (dg D (k + 1)) (dg D k) w (by omega) (by omega) (dg_lt _ _) (dg_lt _ _) (dg_lt _ _) (dg_lt _ _) (dg_lt _ _) htop hud
    (hS.cells (k + 2) (by omega)) (hS.cells (k + 1) (by omega)) (hS.cells k (by omega)) (hS2.cells (k + 1) (by omega)) (hS2.cells k (by omega))
  rw [← hM] at GU
  have HQ : Hid (V / D ≤ M ∧ M ≤ V / D + 1) := hK
  have HGU : Hid (Calls Tryz.prog 155 #[.slice (some ⟨b, off, none⟩) (k + 2 + 1) cap, .slice (some ⟨b2, o2, none⟩) (k + 2) cap2] w fun e w' => e = .returned (.int .u32 (M : Nat)) ∧ Dr w w') := GU
  have HVD : Hid (V / D * D + V % D = V ∧ V % D < D) := ⟨by have := Nat.div_add_mod V D; rw [Nat.mul_comm] at this; exact this, Nat.mod_lt _ hDp⟩
  clear GU hK hM eV eD hud htop
  go_enter Tryz.func136, Tryz.ntmps136
  go_wp2_with fail
  refine HGU.out.mono ?_
  clear HGU
  rintro e w1 ⟨rfl, hdr⟩
  have hS1 := hS.dr hdr
  have hS21 := hS2.dr hdr
  by_cases hM0 : M = 0
  · have hb0 : ((M : Int) != 0) = false := by rw [hM0]; rfl
    have HM0 : Hid (M = 0) := hM0
    clear hM0
    go_wp2
    go_ret
    have h1 := HQ.out.1
    have h2 := HVD.out.1
    rw [HM0.out] at h1
    have h3 : V / D = 0 := Nat.le_zero.1 h1
    rw [h3, Nat.zero_mul, Nat.zero_add] at h2
    refine ⟨ret_int ?_, Wr.of_dr hdr, by rw [h2]; exact hS1⟩
    rw [h3, HM0.out]
  · have hb0 : ((M : Int) != 0) = true := by rw [bne_iff_ne]; omega
    go_wp2_with fail
    refine (subTimes_any b off (k + 2) cap V b2 o2 cap2 D M w1 (by omega) (by omega) hML hne (hrow.dr hdr) hS1 hS21).mono ?_
    rintro e w2 ⟨rfl, hwr, R, hsR, hR1, hR2⟩
    have HR1 : Hid (M * D ≤ V → R = V - M * D) := hR1
    have HR2 : Hid (V < M * D → R + M * D = V + BB ^ (k + 2 + 1)) := hR2
    clear hR1 hR2
    by_cases hlt : V < M * D
    · have HL : Hid (V < M * D) := hlt
      have hdt : decide (V < M * D) = true := decide_eq_true hlt
      clear hlt
      go_wp2_with fail
      refine (addInto_any b off (k + 2 + 1) cap R (some ⟨b2, o2, none⟩) (k + 2) cap2 D w2 (by omega) (by omega) (hwr.row (hrow.dr hdr)) hsR (hS21.wr hwr (ne_addr' hne)) (ne_addr' hne)).mono ?_
      rintro e w3 ⟨rfl, hwr3, hs3⟩
      go_wp2
      go_ret
      have hq : M = V / D + 1 := by
        have h1 := HQ.out
        have h2 := HVD.out
        have h3 := HL.out
        by_cases e : M = V / D
        · exfalso
          rw [e] at h3
          generalize V / D * D = t at *
          generalize V % D = r at *
          omega
        · generalize V / D = qq at *
          omega
      have hfin : (R + D) % BB ^ (k + 2 + 1) = V % D := by
        have h1 := HR2.out HL.out
        have h2 := HVD.out
        rw [hq, Nat.add_mul, Nat.one_mul] at h1
        have h4 : R + D = V % D + BB ^ (k + 2 + 1) := by
          generalize V / D * D = t at *
          generalize V % D = r at *
          omega
        rw [h4, Nat.add_mod_right, Nat.mod_eq_of_lt (Nat.lt_of_le_of_lt (Nat.mod_le _ _) hS.1)]
      rw [hfin] at hs3
      refine ⟨ret_int ?_, (Wr.of_dr hdr).trans (hwr.trans hwr3), hs3⟩
      rw [hq]; generalize V / D = qq at *; omega
    · have HL : Hid (¬ V < M * D) := hlt
      have hdt : decide (V < M * D) = false := decide_eq_false hlt
      clear hlt
      go_wp2
      go_ret
      have hq : M = V / D := by
        have h1 := HQ.out
        have h3 : M * D ≤ V := Nat.le_of_not_lt HL.out
        have h4 := (Nat.le_div_iff_mul_le hDp).2 h3
        generalize V / D = qq at *
        omega
      have hR := HR1.out (Nat.le_of_not_lt HL.out)
      have h2 := HVD.out
      rw [hq] at hR
      have hR' : R = V % D := by
        generalize V / D * D = t at *
        generalize V % D = r at *
        omega
      rw [hR'] at hsR
      exact ⟨ret_int (by rw [hq]), (Wr.of_dr hdr).trans hwr, hsR⟩
end Go.Proofs.YtejlnodillnoaaaGreatDoor
