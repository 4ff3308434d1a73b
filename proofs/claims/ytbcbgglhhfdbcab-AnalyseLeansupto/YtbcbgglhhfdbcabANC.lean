/-
  analyse: the trail: isBroken, placeOf, levelOf, back, follows.
-/
import Derived.Test.YtbcbgglhhfdbcabANB
namespace Go.Proofs.Ytbcbgglhhfdbcab
open Go.RowKit
set_option linter.unusedVariables false
set_option linter.unusedSimpArgs false
theorem flsV_at {M : List Mk} {x : Int} (h : flsV M x = true) : isLit x = true ∧ ∃ p : Nat, p < M.length ∧ plV M (-x) = p ∧ (M.getD p default).l = -x := by
  unfold flsV at h
  rw [Bool.and_eq_true, decide_eq_true_eq] at h
  refine ⟨h.1, ?_⟩
  rcases plV_spec M (-x) with ⟨h1, _⟩ | ⟨p, hp, h1, h2, _⟩
  · omega
  · exact ⟨p, hp, h1, h2⟩
set_option maxHeartbeats 2000000 in
set_option maxRecDepth 100000 in
theorem isBroken_is (base b G N : Nat) (va vm : Value) (M : List Mk) (a : Option Addr) (cc : Nat) (c : List Int) (w : World) (h : TrR w base b G N va vm (plA M)) (hd : Dst M) (hc : LsAt w a c) :
    Calls Try.prog 37 #[.pointer (some ⟨b, 0, none⟩), .slice a c.length cc] w fun e w' => e = .returned (.bool (c.all (flsV M))) ∧ w' = w := by
  have GF := hide' (fun y hy => isFalse_is base b G N va vm M y hy w h hd)
  clear h hd
  obtain ⟨n, hn⟩ : ∃ n, c.length = n := ⟨_, rfl⟩
  have hM := hc.1
  have HA := hide' hc
  rw [hn] at hM ⊢
  replace hn := hide' hn
  clear hc
  go_enter Try.func37, Try.ntmps37
  go_wp2_with fail
  go_loopw [9] (fun vi wr => ∃ k : Nat, k ≤ n ∧ vi = .int .i64 k ∧ (∀ y ∈ c.take k, flsV M y = true) ∧ wr = w) (fun vi _ => n - (intOf vi).toNat)
  case atStart => exact ⟨0, Nat.zero_le _, rfl, by simp, rfl⟩
  case round =>
    obtain ⟨k, hk, rfl, hb, rfl⟩ := hrel
    have HB := hide' hb
    clear hb
    by_cases hlt : k < n
    · skip
      obtain ⟨bb, off, rfl, ck, hlo, hhi⟩ := HA.out.el hn.out hlt
      obtain ⟨y, hy⟩ : ∃ y, c.getD k 0 = y := ⟨_, rfl⟩
      rw [hy] at ck hlo hhi
      have HY := hide' hy
      clear hy
      have i1 : (k : Int) < (n : Int) := by omega
      have i0 : (0 : Int) ≤ (k : Int) := by omega
      have HST := hide' (take_snoc c 0 hn.out hlt)
      have GF1 := hide' (GF.out y ⟨hlo, hhi⟩)
      cases hf : flsV M y
      · have HF := hide' (show c.all (flsV M) = false from by rw [Bool.eq_false_iff]; intro e9; have h8 := (List.all_eq_true.1 e9) (c.getD k 0) (getD_mem (by have := hn.out; omega)); rw [HY.out, hf] at h8; cases h8)
        rw [hf] at GF1
        clear hf HB
        go_wp2_with fail
        refine (GF1.out).mono ?_
        rintro e w1 ⟨rfl, hw9⟩
        rw [hw9]
        clear hw9
        go_wp2
        go_ret
        exact ⟨(by rw [HF.out]; try rfl), rfl⟩
      · have HN := hide' (show ∀ y ∈ c.take (k + 1), flsV M y = true from fun q hq => by rw [HST.out, HY.out, List.mem_append, List.mem_singleton] at hq; rcases hq with hq | hq; exact HB.out q hq; subst hq; exact hf)
        rw [hf] at GF1
        clear hf HB
        go_wp2_with fail
        refine (GF1.out).mono ?_
        rintro e w1 ⟨rfl, hw9⟩
        rw [hw9]
        clear hw9
        go_wp2
        go_roundw
        case rel => exact ⟨k + 1, by omega, by go_num, HN.out, by first | rfl | trivial⟩
        case measure => simp only [intOf]; omega
    · obtain rfl : k = n := by omega
      have i1 : ¬ (k : Int) < (k : Int) := by omega
      have HF := hide' (show c.all (flsV M) = true from List.all_eq_true.2 (by have := HB.out; rw [take_all c hn.out] at this; exact this))
      clear HB
      go_wp2
      go_ret
      exact ⟨(by rw [HF.out]; try rfl), rfl⟩
set_option maxHeartbeats 2000000 in
set_option maxRecDepth 100000 in
theorem placeOf_is (base b G N : Nat) (va vm : Value) (M : List Mk) (x : Int) (hx : i64 x) (hf : flsV M x = true) (p : Nat) (hp : plV M (-x) = p) (hpl : p ≤ 1048576) (w : World) (h : TrR w base b G N va vm (plA M)) (hd : Dst M)  :
    Calls Try.prog 27 #[.pointer (some ⟨b, 0, none⟩), .int .i64 x] w fun e w' => e = .returned (.int .i64 (p : Int)) ∧ w' = w := by
  have hl := isLit_iff.1 (flsV_at hf).1
  unfold i64 at hx
  have GO := hide' (of_is base b G N (plA M) x (by omega) hx.2 w h.pl)
  rw [of_neg hd (by omega) hx.2 (by omega), hp] at GO
  clear h hd hf hp hl hx
  have e1 : -(-(p : Int) - 1) - 1 = (p : Int) := by omega
  obtain ⟨z, hz⟩ : ∃ z : Int, -(p : Int) - 1 = z := ⟨_, rfl⟩
  rw [hz] at GO e1
  have hz2 : -1048577 ≤ z ∧ z ≤ -1 := by omega
  obtain ⟨z1, z2⟩ := hz2
  clear hz
  have e2 : -z - 1 = (p : Int) := e1
  clear e1
  go_enter Try.func27, Try.ntmps27
  go_wp2_with fail
  refine (GO.out).mono ?_
  rintro e w1 ⟨rfl, hw9⟩
  rw [hw9]
  clear hw9
  go_wp2
  go_ret
  exact ⟨by first | rfl | (rw [e2]; try rfl), rfl⟩
set_option maxHeartbeats 2000000 in
set_option maxRecDepth 100000 in
theorem levelOf_is (base b G N : Nat) (va : Value) (ma : Option Addr) (mc : Nat) (M : List Mk) (x : Int) (hx : i64 x) (hf : flsV M x = true) (p : Nat) (hp : plV M (-x) = p) (hpl : p ≤ 1048576) (w : World) (h : TrR w base b G N va (.slice ma M.length mc) (plA M)) (hd : Dst M) (hM : MsAt w ma M)  :
    Calls Try.prog 69 #[.pointer (some ⟨b, 0, none⟩), .int .i64 x] w fun e w' => e = .returned (.int .i64 (M.getD p default).v) ∧ Below w.heap.size w w' := by
  have GP := hide' (fun nq => placeOf_is base b G N va (.slice ma M.length mc) M x hx hf p hp hpl (w.drewN nq) (h.later (below_drewN (Below.refl _ _))) hd)
  have c1 := h.c1
  have hpm : p < M.length := by obtain ⟨_, p2, hp2, h3, _⟩ := flsV_at hf; omega
  obtain ⟨bq, off, rfl, ⟨_, ck, _⟩, _⟩ := hM.el rfl hpm
  obtain ⟨n, hn⟩ : ∃ n, M.length = n := ⟨_, rfl⟩
  rw [hn] at hpm c1
  have i1 : (p : Int) < (n : Int) := by omega
  have i0 : (0 : Int) ≤ (p : Int) := by omega
  generalize (M.getD p default).v = v at ck ⊢
  clear h hd hM hf hp hx hn
  go_enter Try.func69, Try.ntmps69
  go_wp2_with fail
  go_quiet ((go_at_call 27; exact Calls.quiet_of_same (GP.out _)))
  go_wp2
  go_ret
  exact ⟨rfl, below_drewN (Below.refl _ _)⟩
set_option maxHeartbeats 2000000 in
set_option maxRecDepth 100000 in
theorem back_one (b cc : Nat) (a : Option Addr) (w : World) :
    Calls Try.prog 39 #[.pointer (some ⟨b, 0, none⟩), .slice a 1 cc] w fun e w' => e = .returned (.int .i64 0) ∧ w' = w := by
  go_enter Try.func39, Try.ntmps39
  go_wp2
  go_ret
  exact ⟨rfl, rfl⟩
set_option maxHeartbeats 2000000 in
set_option maxRecDepth 100000 in
theorem back_is (base b G N : Nat) (va : Value) (ma : Option Addr) (mc : Nat) (M : List Mk) (a : Option Addr) (cc : Nat) (c : List Int) (hc2 : 2 ≤ c.length) (x : Int) (hcx : c.getD 1 0 = x) (hx : i64 x) (hf : flsV M x = true) (p : Nat) (hp : plV M (-x) = p) (hpl : p ≤ 1048576) (w : World) (h : TrR w base b G N va (.slice ma M.length mc) (plA M)) (hd : Dst M) (hM : MsAt w ma M) (hc : LsAt w a c) :
    Calls Try.prog 39 #[.pointer (some ⟨b, 0, none⟩), .slice a c.length cc] w fun e w' => e = .returned (.int .i64 (M.getD p default).v) ∧ Below w.heap.size w w' := by
  have GL := hide' (levelOf_is base b G N va ma mc M x hx hf p hp hpl w h hd hM)
  clear h hd hM hp hf
  obtain ⟨bb, off, rfl, ck, _, _⟩ := hc.el rfl (show 1 < c.length by omega)
  rw [hcx] at ck
  obtain ⟨n, hn⟩ : ∃ n, c.length = n := ⟨_, rfl⟩
  rw [hn] at hc2 ⊢
  clear hc hn
  have e1 : ((n : Int) == 1) = false := by simp; omega
  have i1 : (1 : Int) < (n : Int) := by omega
  generalize (M.getD p default).v = v at GL ⊢
  go_enter Try.func39, Try.ntmps39
  go_wp2_with fail
  refine GL.out.mono ?_
  rintro e w1 ⟨rfl, b1⟩
  go_wp2
  go_ret
  exact ⟨rfl, b1⟩
set_option maxHeartbeats 2000000 in
set_option maxRecDepth 100000 in
theorem follows_is (base b G N : Nat) (a : Option Addr) (ca : Nat) (C : List (List Int)) (f : Nat → Option Addr × Nat) (vm : Value) (M : List Mk) (l v r lvl : Int) (hr : i64 r) (hlv : 0 ≤ lvl ∧ lvl ≤ 1048576) (w : World) (h : TrR w base b G N (.slice a C.length ca) vm (plA M)) (hd : Dst M) (hC : CsAt w a C f) (z : Bool) (hz : z = true ↔ ((r = -1 ∧ v = lvl + 1) ∨ (r ≠ -1 ∧ 0 ≤ r ∧ r < C.length ∧ v = lvl ∧ forc M (C.getD r.toNat []) l))) :
    Calls Try.prog 59 #[.pointer (some ⟨b, 0, none⟩), .agg #[.int .i64 l, .int .i64 v, .int .i64 r], .int .i64 lvl] w fun e w' => e = .returned (.bool z) ∧ Below w.heap.size w w' := by
  obtain ⟨wA, hwA⟩ : ∃ wA, w.alloc (.cells #[.int .i64 l, .int .i64 v, .int .i64 r] 46) = wA := ⟨_, rfl⟩
  have bA := below_alloc (w := w) (.cells #[.int .i64 l, .int .i64 v, .int .i64 r] 46)
  have nA := heap_alloc_new w (.cells #[.int .i64 l, .int .i64 v, .int .i64 r] 46)
  rw [hwA] at bA nA
  have s0 := cell_of_row wA w.heap.size 0 _ _ _ nA
  have s1 := cell_of_row wA w.heap.size 1 _ _ _ nA
  have s2 := cell_of_row wA w.heap.size 2 _ _ _ nA
  simp only [List.getElem?_toArray, List.getElem?_cons_zero, List.getElem?_cons_succ] at s0 s1 s2
  clear nA
  unfold i64 at hr
  by_cases hr1 : r = -1
  · have HF := hide' (show z = (v == lvl + 1) from by rw [Bool.eq_iff_iff, hz, hr1]; simp)
    subst hr1
    clear h hC hz
    go_enter Try.func59, Try.ntmps59
    go_wp2
    try rw [hwA]
    go_ret
    exact ⟨by rw [HF.out]; try rfl, bA⟩
  · have er : (r == -1) = false := by simp [hr1]
    by_cases hv : v = lvl
    rotate_left
    · have HF := hide' (show z = false from by rw [Bool.eq_false_iff]; intro e; rcases hz.1 e with q | q; exact hr1 q.1; exact hv q.2.2.2.1)
      have ev : (v == lvl) = false := by simp [hv]
      replace hv := hide' hv
      replace hr1 := hide' hr1
      clear h hC hz
      go_enter Try.func59, Try.ntmps59
      go_wp2_with fail
      try rw [hwA]
      go_quiet (fail)
      go_wp2
      go_ret
      exact ⟨by rw [HF.out]; try rfl, below_drewN bA⟩
    · have ev : (v == lvl) = true := by simp [hv]
      have GI := hide' (fun nq => isPlace_is r a C.length ca (wA.drewN nq))
      have c0 := below_cell bA h.c0
      by_cases hpl : 0 ≤ r ∧ r < (C.length : Int)
      rotate_left
      · have HF := hide' (show z = false from by rw [Bool.eq_false_iff]; intro e; rcases hz.1 e with q | q; exact hr1 q.1; exact hpl ⟨q.2.1, q.2.2.1⟩)
        have eb : (decide (0 ≤ r) && decide (r < (C.length : Int))) = false := by rw [Bool.eq_false_iff]; intro q; rw [Bool.and_eq_true, decide_eq_true_eq, decide_eq_true_eq] at q; exact hpl q
        rw [eb] at GI
        replace hv := hide' hv
        replace hr1 := hide' hr1
        obtain ⟨Cn, hCn⟩ : ∃ m, C.length = m := ⟨_, rfl⟩
        rw [hCn] at GI c0
        clear h hC hz eb hpl hCn
        go_enter Try.func59, Try.ntmps59
        go_wp2_with fail
        try rw [hwA]
        go_quiet ((go_at_call 36; exact Calls.quiet_of_same (GI.out _)))
        go_wp2
        go_ret
        exact ⟨by rw [HF.out]; try rfl, below_drewN bA⟩
      · obtain ⟨p, rfl⟩ : ∃ p : Nat, r = (p : Int) := ⟨r.toNat, by omega⟩
        have hpC : p < C.length := by omega
        have eb : (decide (0 ≤ (p : Int)) && decide ((p : Int) < (C.length : Int))) = true := by rw [Bool.and_eq_true, decide_eq_true_eq, decide_eq_true_eq]; exact hpl
        rw [eb] at GI
        obtain ⟨bc, oc, e9, cK, hL⟩ := hC.el rfl hpC
        replace cK := below_cell bA cK
        have GF := hide' (fun nq => forces_is base b G N (.slice a C.length ca) vm M (f p).1 (f p).2 (C.getD p []) l (wA.drewN nq) ((h.later bA).later (below_drewN (Below.refl _ _))) hd ((hL.later bA).later (below_drewN (Below.refl _ _))) z (by rw [hz, Int.toNat_natCast]; constructor; (rintro (q | q); exact absurd q.1 hr1; exact q.2.2.2.2); exact fun q => Or.inr ⟨hr1, hpl.1, hpl.2, hv, q⟩))
        subst e9
        have j2 : (0 : Int) ≤ (p : Int) := by omega
        have j3 : (p : Int) < (C.length : Int) := by omega
        obtain ⟨Cn, hCn⟩ : ∃ m, C.length = m := ⟨_, rfl⟩
        obtain ⟨cL, hcL⟩ : ∃ m, (C.getD p []).length = m := ⟨_, rfl⟩
        rw [hCn] at GI c0 j3
        rw [hcL] at GF cK
        obtain ⟨⟨f1, f2⟩, hf12⟩ : ∃ x, f p = x := ⟨_, rfl⟩
        rw [hf12] at GF cK
        simp only at cK
        replace hv := hide' hv
        replace hr1 := hide' hr1
        clear h hC hz eb hpl hCn hcL hL hf12 hpC
        have HF := hide' (rfl : z = z)
        go_enter Try.func59, Try.ntmps59
        go_wp2_with fail
        try rw [hwA]
        go_quiet (first | (go_at_call 36; exact Calls.quiet_of_same (GI.out _)) | (go_at_call 76; exact Calls.quiet_of_same (GF.out _)))
        go_wp2
        go_ret
        exact ⟨rfl, below_drewN bA⟩
end Go.Proofs.Ytbcbgglhhfdbcab
