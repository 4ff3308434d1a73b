/-
  Six cells of a variable: a number with an infinitely small part.
-/
import Derived.Test.YtnifelfecildmaaGreatDoorWG6
namespace Go.Proofs.YtnifelfecildmaaGreatDoor
open Go.RowKit
set_option linter.unusedVariables false
set_option linter.unusedSimpArgs false
theorem part_in (v m : Nat) (h : v ≤ m + 1) : 0 ≤ Rat.divInt (v : Int) ((m + 1 : Nat) : Int) ∧ Rat.divInt (v : Int) ((m + 1 : Nat) : Int) ≤ 1 := by
  rw [Rat.divInt_eq_div]
  have hp : (0 : Rat) < (((m + 1 : Nat) : Int) : Rat) := by exact_mod_cast Nat.succ_pos m
  have hv : (0 : Rat) ≤ ((v : Int) : Rat) := by exact_mod_cast Nat.zero_le v
  have hl : ((v : Int) : Rat) ≤ (((m + 1 : Nat) : Int) : Rat) := by exact_mod_cast h
  have e : ((v : Int) : Rat) / (((m + 1 : Nat) : Int) : Rat) * (((m + 1 : Nat) : Int) : Rat) = ((v : Int) : Rat) := Rat.div_mul_cancel (by grind)
  generalize (((m + 1 : Nat) : Int) : Rat) = d at *
  generalize ((v : Int) : Rat) = a at *
  generalize a / d = q at *
  constructor
  · by_cases h0 : 0 ≤ q
    · exact h0
    · have h1 : q * d < 0 * d := Rat.mul_lt_mul_of_pos_right (by grind) hp
      grind
  · by_cases h0 : q ≤ 1
    · exact h0
    · have h1 : 1 * d < q * d := Rat.mul_lt_mul_of_pos_right (by grind) hp
      grind
theorem part_le {S q : Rat} (hS : 0 < S) (h0 : 0 ≤ q) (h1 : q ≤ 1) : 0 ≤ S * q ∧ S * q ≤ S := by
  have a := Rat.mul_le_mul_of_nonneg_left h1 (Rat.le_of_lt hS)
  have b := Rat.mul_le_mul_of_nonneg_left h0 (Rat.le_of_lt hS)
  constructor <;> grind
theorem wrapU {x : Int} (h : 0 ≤ x) (k : x < 18446744073709551616) : IntKind.u64.wrap x = x := by
  show (x % 18446744073709551616 : Int) = x
  exact Int.emod_eq_of_lt h k
theorem wrapV {x : Int} (h : 0 ≤ x) (k : x < 4294967296) : IntKind.u32.wrap x = x := by
  show (x % 4294967296 : Int) = x
  exact Int.emod_eq_of_lt h k
theorem seg_two {w : World} {b X : Nat} {x0 x1 : Int} (h0 : w.cell? ⟨b, 0, none⟩ = some (.int .u32 x0)) (h1 : w.cell? ⟨b, 1, none⟩ = some (.int .u32 x1)) (e0 : x0 = (dg X 0 : Nat)) (e1 : x1 = (dg X 1 : Nat)) (hX : X < BB ^ 2) : Seg w (some ⟨b, 0, none⟩) X 2 := by
  subst e0 e1
  refine ⟨hX, fun _ => ⟨b, 0, rfl, World.block_lt_of_cell? w ⟨b, 0, none⟩ h0, fun i hi => ?_⟩⟩
  match i, hi with
  | 0, _ => exact h0
  | 1, _ => exact h1
set_option maxHeartbeats 8000000 in
set_option maxRecDepth 100000 in
theorem part_is (R : RatV) (n m : Nat) (w : World) (hR : R.ok w) (hk : R.n ≤ 10000000 ∧ R.m ≤ 10000000) (hn : n < 4294967296) (hm : m < 4294967296) :
    Calls Tryz.prog 17 #[.agg #[.bool R.s, .slice R.a R.n R.c, .slice R.b R.m R.e], .int .u32 (n : Int), .int .u32 (m : Int)] w (QA w (R.val * Rat.divInt ((n % (m + 2) : Nat) : Int) ((m + 1 : Nat) : Int))) := by
  have q1 : (0 : Int) ≤ (n : Int) := by omega
  have q2 : (0 : Int) ≤ (m : Int) := by omega
  have q3 : (n : Int) < 4294967296 := by omega
  have q4 : (m : Int) < 4294967296 := by omega
  obtain ⟨u, hu⟩ : ∃ u : Nat, u = m + 2 := ⟨_, rfl⟩
  obtain ⟨v, hv⟩ : ∃ v : Nat, v = n % u := ⟨_, rfl⟩
  have hvl : v < 4294967296 := by rw [hv]; exact Nat.lt_of_le_of_lt (Nat.mod_le _ _) hn
  have e1 : IntKind.u64.wrap (n : Int) = (n : Int) := wrapU (by omega) (by omega)
  have e2 : IntKind.u64.wrap ((m : Int) + 1 + 1) = (u : Int) := by rw [wrapU (by omega) (by omega)]; omega
  have e3 : (u = 0) = False := eq_false (by omega)
  have e4 : Int.tmod (n : Int) (u : Int) = (v : Int) := by rw [hv]; rfl
  have e5 : IntKind.u32.wrap (v : Int) = (v : Int) := wrapV (by omega) (by omega)
  obtain ⟨z1, hz1⟩ : ∃ z, IntKind.u32.wrap ((v : Int) / 4294967296) = z := ⟨_, rfl⟩
  obtain ⟨y0, hy0⟩ : ∃ z, IntKind.u32.wrap ((m : Int) + 1) = z := ⟨_, rfl⟩
  obtain ⟨y1, hy1⟩ : ∃ z, IntKind.u32.wrap (((m : Int) + 1) / 4294967296) = z := ⟨_, rfl⟩
  have d0e : dg v 0 = v := by unfold dg; rw [Nat.pow_zero, Nat.div_one, BB_eq]; omega
  have D0 := hide' (show (v : Int) = (dg v 0 : Nat) by rw [d0e])
  clear d0e
  have D1 := hide' (show z1 = (dg v 1 : Nat) by rw [← hz1]; unfold dg; rw [Nat.pow_one, BB_eq]; show ((v : Int) / 4294967296) % 4294967296 = _; omega)
  have D2 := hide' (show y0 = (dg (m + 1) 0 : Nat) by rw [← hy0]; unfold dg; rw [Nat.pow_zero, Nat.div_one, BB_eq]; show ((m : Int) + 1) % 4294967296 = _; omega)
  have D3 := hide' (show y1 = (dg (m + 1) 1 : Nat) by rw [← hy1]; unfold dg; rw [Nat.pow_one, BB_eq]; show (((m : Int) + 1) / 4294967296) % 4294967296 = _; omega)
  have DX := hide' (show v < BB ^ 2 by rw [BB_eq]; omega)
  have DY := hide' (show m + 1 < BB ^ 2 by rw [BB_eq]; omega)
  have sS : sz 100000000 (R.val * Rat.divInt (v : Int) ((m + 1 : Nat) : Int)) := by
    have h1 : sz 10000001 R.val := szV hR (by omega) (by omega)
    have h2 : sz 3 (Rat.divInt (v : Int) ((m + 1 : Nat) : Int)) := ln1 (low_of (by omega) rfl) (i := 2) (j := 2) (by rw [am_nat]; exact DX.out) (by rw [am_nat]; exact DY.out) (by omega) (by omega)
    exact (sz_mulY h1 h2).mono (by omega)
  rw [show n % (m + 2) = v by rw [hv, hu]]
  obtain ⟨S, hSe⟩ : ∃ S, R.val * Rat.divInt (v : Int) ((m + 1 : Nat) : Int) = S := ⟨_, rfl⟩
  rw [hSe] at sS ⊢
  have GM := hide' (fun w' pa pb (hb : Below w.heap.size w w') (k1 : Seg w' (some ⟨pa, 0, none⟩) v 2) (k2 : Seg w' (some ⟨pb, 0, none⟩) (m + 1) 2) => vmulQ R ⟨false, some ⟨pa, 0, none⟩, 2, 2, v, some ⟨pb, 0, none⟩, 2, 2, m + 1⟩ S w' (hR.on hb) ⟨k1, Nat.le_refl _, by show (2 : Nat) ≤ _; omega, k2, Nat.le_refl _, by show (2 : Nat) ≤ _; omega⟩ ⟨by omega, by omega, by show (2 : Nat) ≤ _; omega, by show (2 : Nat) ≤ _; omega⟩ (by rw [← hSe]; unfold RatV.val; simp only; rw [rn_of (Nat.succ_ne_zero m), rd_of (Nat.succ_ne_zero m)]; rfl) sS)
  replace hu := hide' hu
  replace hv := hide' hv
  clear hvl sS hSe hR hk hn hm
  go_enter Tryz.func17, Tryz.ntmps17
  go_upto_region 2 with fail
  have hB : Below w.heap.size w ((w.alloc (.cells #[.bool R.s, .slice R.a R.n R.c, .slice R.b R.m R.e] 28)).alloc (.cells #[.bool false, .slice none 0 0, .slice none 0 0] 28)) := (below_alloc _).trans ((below_alloc _).mono (below_alloc _).size)
  obtain ⟨wA, hwA⟩ : ∃ wA, (w.alloc (.cells #[.bool R.s, .slice R.a R.n R.c, .slice R.b R.m R.e] 28)).alloc (.cells #[.bool false, .slice none 0 0, .slice none 0 0] 28) = wA := ⟨_, rfl⟩
  have rA : Thr wA (w.heap.size + 1) (.bool false) (.slice none 0 0) (.slice none 0 0) := by
    subst hwA
    refine ⟨⟨by go_simp, by go_simp, by go_simp⟩, ?_⟩
    have h := row_new (w.alloc (.cells #[.bool R.s, .slice R.a R.n R.c, .slice R.b R.m R.e] 28)) #[.bool false, .slice none 0 0, .slice none 0 0] 28
    rw [World.size_alloc] at h
    exact h
  have d0 : wA.cell? ⟨w.heap.size, 0, none⟩ = some (.bool R.s) := by subst hwA; go_simp
  have d1 : wA.cell? ⟨w.heap.size, 1, none⟩ = some (.slice R.a R.n R.c) := by subst hwA; go_simp
  have d2 : wA.cell? ⟨w.heap.size, 2, none⟩ = some (.slice R.b R.m R.e) := by subst hwA; go_simp
  rw [hwA] at hB ⊢
  clear hwA
  go_cut [8] from 12 to 33 (fun s8 wx => ∃ wh9 c pa pb, wh9 = wx ∧ s8 = .pointer (some ⟨c, 0, none⟩) ∧ Thr wx c (.bool false) (.slice (some ⟨pa, 0, none⟩) 2 2) (.slice (some ⟨pb, 0, none⟩) 2 2) ∧ Below wA.heap.size wA wx ∧ Seg wx (some ⟨pa, 0, none⟩) v 2 ∧ Seg wx (some ⟨pb, 0, none⟩) (m + 1) 2)
  case first =>
    have bT : Below wA.heap.size wA wA := Below.refl _ _
    have bD : Below wA.heap.size wA wA.drew := (Below.refl _ _).drew
    replace bT := bT.trans (bD.mono bT.size)
    refine wp_region_held_drew (S := fun w' => True) (by kernel_rfl) trivial (fun hHeld => ?_)
    generalize wA.drew = wF0 at bD bT hHeld ⊢
    clear bD d0 d1 d2 rA hB
    refine take' 0 (v := ?_) rfl (by kernel_rfl) (by kernel_rfl) (by kernel_rfl) (fun _ _ _ h => h) (Or.inl ⟨by rfl, ?_⟩) (by assumption) ?_
    rotate_left
    · intro w9 hSw
      go_simp
      first | done | with_reducible rfl
    simp only [Act.put, List.setIfInBounds_toArray, List.set_cons_zero, List.set_cons_succ]
    refine take' 1 (v := ?_) rfl (by kernel_rfl) (by kernel_rfl) (by kernel_rfl) (fun _ _ _ h => h) (Or.inl ⟨by rfl, ?_⟩) (by assumption) ?_
    rotate_left
    · intro w9 hSw
      go_simp
      first | done | with_reducible rfl
    simp only [Act.put, List.setIfInBounds_toArray, List.set_cons_zero, List.set_cons_succ]
    refine take' 2 (v := ?_) rfl (by kernel_rfl) (by kernel_rfl) (by kernel_rfl) (fun _ _ _ h => h) (Or.inl ⟨by rfl, ?_⟩) (by assumption) ?_
    rotate_left
    · intro w9 hSw
      go_simp
      first | done | with_reducible rfl
    simp only [Act.put, List.setIfInBounds_toArray, List.set_cons_zero, List.set_cons_succ]
    refine take' 3 (v := ?_) rfl (by kernel_rfl) (by kernel_rfl) (by kernel_rfl) (fun _ _ _ h => h) (Or.inl ⟨by rfl, ?_⟩) (by assumption) ?_
    rotate_left
    · intro w9 hSw
      go_simp
      first | done | with_reducible rfl
    simp only [Act.put, List.setIfInBounds_toArray, List.set_cons_zero, List.set_cons_succ]
    refine take' 4 (v := ?_) rfl (by kernel_rfl) (by kernel_rfl) (by kernel_rfl) (fun _ _ _ h => h) (Or.inl ⟨by rfl, ?_⟩) (by assumption) ?_
    rotate_left
    · intro w9 hSw
      go_simp
      first | done | with_reducible rfl
    simp only [Act.put, List.setIfInBounds_toArray, List.set_cons_zero, List.set_cons_succ]
    refine take' 5 (v := ?_) rfl (by kernel_rfl) (by kernel_rfl) (by kernel_rfl) (fun _ _ _ h => h) (Or.inl ⟨by rfl, ?_⟩) (by assumption) ?_
    rotate_left
    · intro w9 hSw
      go_simp
      first | done | with_reducible rfl
    simp only [Act.put, List.setIfInBounds_toArray, List.set_cons_zero, List.set_cons_succ]
    refine take' 6 (v := ?_) rfl (by kernel_rfl) (by kernel_rfl) (by kernel_rfl) (fun _ _ _ h => h) (Or.inl ⟨by rfl, ?_⟩) (by assumption) ?_
    rotate_left
    · intro w9 hSw
      go_simp
      first | done | with_reducible rfl
    simp only [Act.put, List.setIfInBounds_toArray, List.set_cons_zero, List.set_cons_succ]
    refine take' 7 (v := ?_) rfl (by kernel_rfl) (by kernel_rfl) (by kernel_rfl) (fun _ _ _ h => h) (Or.inl ⟨by rfl, ?_⟩) (by assumption) ?_
    rotate_left
    · intro w9 hSw
      go_simp
      first | done | with_reducible rfl
    simp only [Act.put, List.setIfInBounds_toArray, List.set_cons_zero, List.set_cons_succ]
    refine take' 8 (v := ?_) rfl (by kernel_rfl) (by kernel_rfl) (by kernel_rfl) (fun _ _ _ h => h) (Or.inl ⟨by rfl, ?_⟩) (by assumption) ?_
    rotate_left
    · intro w9 hSw
      go_simp
      first | done | with_reducible rfl
    simp only [Act.put, List.setIfInBounds_toArray, List.set_cons_zero, List.set_cons_succ]
    refine take' 9 (v := ?_) rfl (by kernel_rfl) (by kernel_rfl) (by kernel_rfl) (fun _ _ _ h => h) (Or.inl ⟨by rfl, ?_⟩) (by assumption) ?_
    rotate_left
    · intro w9 hSw
      go_simp
      first | done | with_reducible rfl
    simp only [Act.put, List.setIfInBounds_toArray, List.set_cons_zero, List.set_cons_succ]
    refine take' 10 (v := ?_) rfl (by kernel_rfl) (by kernel_rfl) (by kernel_rfl) (fun _ _ _ h => h) (Or.inl ⟨by rfl, ?_⟩) (by assumption) ?_
    rotate_left
    · intro w9 hSw
      go_simp
      first | done | with_reducible rfl
    simp only [Act.put, List.setIfInBounds_toArray, List.set_cons_zero, List.set_cons_succ]
    refine take' 11 (v := ?_) rfl (by kernel_rfl) (by kernel_rfl) (by kernel_rfl) (fun _ _ _ h => h) (Or.inl ⟨by rfl, ?_⟩) (by assumption) ?_
    rotate_left
    · intro w9 hSw
      go_simp
      first | done | with_reducible rfl
    simp only [Act.put, List.setIfInBounds_toArray, List.set_cons_zero, List.set_cons_succ]
    refine take' 12 (v := ?_) rfl (by kernel_rfl) (by kernel_rfl) (by kernel_rfl) (fun _ _ _ h => h) (Or.inl ⟨by rfl, ?_⟩) (by assumption) ?_
    rotate_left
    · intro w9 hSw
      go_simp
      first | done | with_reducible rfl
    simp only [Act.put, List.setIfInBounds_toArray, List.set_cons_zero, List.set_cons_succ]
    refine take' 15 (v := ?_) rfl (by kernel_rfl) (by kernel_rfl) (by kernel_rfl) (fun _ _ _ h => h) (Or.inl ⟨by rfl, ?_⟩) (by assumption) ?_
    rotate_left
    · intro w9 hSw
      go_simp
      first | done | with_reducible rfl
    simp only [Act.put, List.setIfInBounds_toArray, List.set_cons_zero, List.set_cons_succ]
    refine take' 16 (v := ?_) rfl (by kernel_rfl) (by kernel_rfl) (by kernel_rfl) (fun _ _ _ h => h) (Or.inl ⟨by rfl, ?_⟩) (by assumption) ?_
    rotate_left
    · intro w9 hSw
      go_simp
      first | done | with_reducible rfl
    simp only [Act.put, List.setIfInBounds_toArray, List.set_cons_zero, List.set_cons_succ]
    refine take' 17 (v := ?_) rfl (by kernel_rfl) (by kernel_rfl) (by kernel_rfl) (fun _ _ _ h => h) (Or.inl ⟨by rfl, ?_⟩) (by assumption) ?_
    rotate_left
    · intro w9 hSw
      go_simp
      first | done | with_reducible rfl
    simp only [Act.put, List.setIfInBounds_toArray, List.set_cons_zero, List.set_cons_succ]
    refine take' 18 (v := ?_) rfl (by kernel_rfl) (by kernel_rfl) (by kernel_rfl) (fun _ _ _ h => h) (Or.inl ⟨by rfl, ?_⟩) (by assumption) ?_
    rotate_left
    · intro w9 hSw
      go_simp
      first | done | with_reducible rfl
    simp only [Act.put, List.setIfInBounds_toArray, List.set_cons_zero, List.set_cons_succ]
    refine take' 19 (v := ?_) rfl (by kernel_rfl) (by kernel_rfl) (by kernel_rfl) (fun _ _ _ h => h) (Or.inl ⟨by rfl, ?_⟩) (by assumption) ?_
    rotate_left
    · intro w9 hSw
      go_simp
      first | done | with_reducible rfl
    simp only [Act.put, List.setIfInBounds_toArray, List.set_cons_zero, List.set_cons_succ]
    refine wpAnyH_ready (rs := [13, 20, 22]) (by kernel_rfl) (by simp) ?_
    refine consT rfl (fun KK hKK => ?_) ?_
    · skip
      go_simp
      have gpa : Seg (wF0.alloc (.cells #[.int .u32 (v : Int), .int .u32 z1] 37)) (some ⟨wF0.heap.size, 0, none⟩) v 2 := seg_two (by go_simp) (by go_simp) D0.out D1.out DX.out
      have bA := below_alloc (w := wF0) (.cells #[.int .u32 (v : Int), .int .u32 z1] 37)
      generalize wF0.alloc (.cells #[.int .u32 (v : Int), .int .u32 z1] 37) = wF1 at gpa bA ⊢
      replace bT := bT.trans (bA.mono bT.size)
      clear bA
      refine hKK.out _ _ hHeld ?_
      clear hHeld
      intro hHeld
      clear hKK KK
      try simp only [Act.put, List.setIfInBounds_toArray, List.set_cons_zero, List.set_cons_succ]
      obtain ⟨pa, hcc⟩ : ∃ cc, wF0.heap.size = cc := ⟨_, rfl⟩
      rw [hcc] at gpa
      try rw [hcc]
      clear hcc
      refine take' 14 (v := ?_) rfl (by kernel_rfl) (by kernel_rfl) (by kernel_rfl) (fun _ _ _ h => h) (Or.inl ⟨by rfl, ?_⟩) (by assumption) ?_
      rotate_left
      · intro w9 hSw
        go_simp
        first | done | with_reducible rfl
      simp only [Act.put, List.setIfInBounds_toArray, List.set_cons_zero, List.set_cons_succ]
      refine wpAnyH_ready (rs := [20, 22]) (by kernel_rfl) (by simp) ?_
      refine consT rfl (fun KK hKK => ?_) ?_
      · skip
        go_simp
        have gpb : Seg (wF1.alloc (.cells #[.int .u32 y0, .int .u32 y1] 37)) (some ⟨wF1.heap.size, 0, none⟩) (m + 1) 2 := seg_two (by go_simp) (by go_simp) D2.out D3.out DY.out
        have bA := below_alloc (w := wF1) (.cells #[.int .u32 y0, .int .u32 y1] 37)
        generalize wF1.alloc (.cells #[.int .u32 y0, .int .u32 y1] 37) = wF2 at gpb bA ⊢
        replace bT := bT.trans (bA.mono bT.size)
        replace gpa := gpa.later bA
        clear bA
        refine hKK.out _ _ hHeld ?_
        clear hHeld
        intro hHeld
        clear hKK KK
        try simp only [Act.put, List.setIfInBounds_toArray, List.set_cons_zero, List.set_cons_succ]
        obtain ⟨pb, hcc⟩ : ∃ cc, wF1.heap.size = cc := ⟨_, rfl⟩
        rw [hcc] at gpb
        try rw [hcc]
        clear hcc
        refine take' 21 (v := ?_) rfl (by kernel_rfl) (by kernel_rfl) (by kernel_rfl) (fun _ _ _ h => h) (Or.inl ⟨by rfl, ?_⟩) (by assumption) ?_
        rotate_left
        · intro w9 hSw
          go_simp
          first | done | with_reducible rfl
        simp only [Act.put, List.setIfInBounds_toArray, List.set_cons_zero, List.set_cons_succ]
        refine wpAnyH_ready (rs := [22]) (by kernel_rfl) (by simp) ?_
        refine cons' rfl (fun KK hKK => ?_)
        go_simp
        have vN : Thr (wF2.alloc (.cells #[.bool false, .slice none 0 0, .slice none 0 0] 28)) wF2.heap.size (.bool false) (.slice none 0 0) (.slice none 0 0) := ⟨⟨by go_simp, by go_simp, by go_simp⟩, row_new wF2 _ 28⟩
        have bA := below_alloc (w := wF2) (.cells #[.bool false, .slice none 0 0, .slice none 0 0] 28)
        have hc9 : wA.heap.size ≤ wF2.heap.size := bT.size
        generalize wF2.alloc (.cells #[.bool false, .slice none 0 0, .slice none 0 0] 28) = wF3 at vN bA ⊢
        replace bT := bT.trans (bA.mono bT.size)
        replace gpa := gpa.later bA
        replace gpb := gpb.later bA
        clear bA
        refine hKK.out _ _ hHeld ?_
        clear hHeld
        intro hHeld
        clear hKK KK
        try simp only [Act.put, List.setIfInBounds_toArray, List.set_cons_zero, List.set_cons_succ]
        obtain ⟨cc, hcc⟩ : ∃ cc, wF2.heap.size = cc := ⟨_, rfl⟩
        rw [hcc] at vN hc9
        try rw [hcc]
        clear hcc
        refine wpAnyH_ready (rs := [23]) (by kernel_rfl) (by simp) ?_
        refine cons' rfl (fun KK hKK => ?_)
        have fz := fun o => vN.2.frozen o
        replace gpa := vN.seg (u0 := .bool false) (u1 := .slice (some ⟨pa, 0, none⟩) 2 2) (u2 := .slice (some ⟨pb, 0, none⟩) 2 2) (by simp) (by simp) (by simp) gpa
        replace gpb := vN.seg (u0 := .bool false) (u1 := .slice (some ⟨pa, 0, none⟩) 2 2) (u2 := .slice (some ⟨pb, 0, none⟩) 2 2) (by simp) (by simp) (by simp) gpb
        replace bT := below_set3 (u0 := .bool false) (u1 := .slice (some ⟨pa, 0, none⟩) 2 2) (u2 := .slice (some ⟨pb, 0, none⟩) 2 2) bT hc9
        have vN2 := vN.put (u0 := .bool false) (u1 := .slice (some ⟨pa, 0, none⟩) 2 2) (u2 := .slice (some ⟨pb, 0, none⟩) 2 2)
        have z0 := vN.1.1
        have z1 := vN.1.2.1
        have z2 := vN.1.2.2
        go_simp
        clear z0 z1 z2 vN fz
        refine hKK.out _ _ trivial ?_
        clear hHeld
        intro hHeld
        clear hKK KK
        try simp only [Act.put, List.setIfInBounds_toArray, List.set_cons_zero, List.set_cons_succ]
        refine wpAnyH_done (by kernel_rfl) ?_ _
        go_wp2_with fail
        go_meet
        exact ⟨_, cc, pa, pb, rfl, rfl, vN2, bT, gpa, gpb⟩
      refine consT rfl (fun KK hKK => ?_) ?_
      · skip
        go_simp
        have vN : Thr (wF1.alloc (.cells #[.bool false, .slice none 0 0, .slice none 0 0] 28)) wF1.heap.size (.bool false) (.slice none 0 0) (.slice none 0 0) := ⟨⟨by go_simp, by go_simp, by go_simp⟩, row_new wF1 _ 28⟩
        have bA := below_alloc (w := wF1) (.cells #[.bool false, .slice none 0 0, .slice none 0 0] 28)
        have hc9 : wA.heap.size ≤ wF1.heap.size := bT.size
        generalize wF1.alloc (.cells #[.bool false, .slice none 0 0, .slice none 0 0] 28) = wF4 at vN bA ⊢
        replace bT := bT.trans (bA.mono bT.size)
        replace gpa := gpa.later bA
        clear bA
        refine hKK.out _ _ hHeld ?_
        clear hHeld
        intro hHeld
        clear hKK KK
        try simp only [Act.put, List.setIfInBounds_toArray, List.set_cons_zero, List.set_cons_succ]
        obtain ⟨cc, hcc⟩ : ∃ cc, wF1.heap.size = cc := ⟨_, rfl⟩
        rw [hcc] at vN hc9
        try rw [hcc]
        clear hcc
        refine wpAnyH_ready (rs := [20]) (by kernel_rfl) (by simp) ?_
        refine cons' rfl (fun KK hKK => ?_)
        go_simp
        have gpb : Seg (wF4.alloc (.cells #[.int .u32 y0, .int .u32 y1] 37)) (some ⟨wF4.heap.size, 0, none⟩) (m + 1) 2 := seg_two (by go_simp) (by go_simp) D2.out D3.out DY.out
        have bA := below_alloc (w := wF4) (.cells #[.int .u32 y0, .int .u32 y1] 37)
        generalize wF4.alloc (.cells #[.int .u32 y0, .int .u32 y1] 37) = wF5 at gpb bA ⊢
        replace bT := bT.trans (bA.mono bT.size)
        replace gpa := gpa.later bA
        replace vN := vN.later bA
        clear bA
        refine hKK.out _ _ hHeld ?_
        clear hHeld
        intro hHeld
        clear hKK KK
        try simp only [Act.put, List.setIfInBounds_toArray, List.set_cons_zero, List.set_cons_succ]
        obtain ⟨pb, hcc⟩ : ∃ cc, wF4.heap.size = cc := ⟨_, rfl⟩
        rw [hcc] at gpb
        try rw [hcc]
        clear hcc
        refine take' 21 (v := ?_) rfl (by kernel_rfl) (by kernel_rfl) (by kernel_rfl) (fun _ _ _ h => h) (Or.inl ⟨by rfl, ?_⟩) (by assumption) ?_
        rotate_left
        · intro w9 hSw
          go_simp
          first | done | with_reducible rfl
        simp only [Act.put, List.setIfInBounds_toArray, List.set_cons_zero, List.set_cons_succ]
        refine wpAnyH_ready (rs := [23]) (by kernel_rfl) (by simp) ?_
        refine cons' rfl (fun KK hKK => ?_)
        have fz := fun o => vN.2.frozen o
        replace gpa := vN.seg (u0 := .bool false) (u1 := .slice (some ⟨pa, 0, none⟩) 2 2) (u2 := .slice (some ⟨pb, 0, none⟩) 2 2) (by simp) (by simp) (by simp) gpa
        replace gpb := vN.seg (u0 := .bool false) (u1 := .slice (some ⟨pa, 0, none⟩) 2 2) (u2 := .slice (some ⟨pb, 0, none⟩) 2 2) (by simp) (by simp) (by simp) gpb
        replace bT := below_set3 (u0 := .bool false) (u1 := .slice (some ⟨pa, 0, none⟩) 2 2) (u2 := .slice (some ⟨pb, 0, none⟩) 2 2) bT hc9
        have vN2 := vN.put (u0 := .bool false) (u1 := .slice (some ⟨pa, 0, none⟩) 2 2) (u2 := .slice (some ⟨pb, 0, none⟩) 2 2)
        have z0 := vN.1.1
        have z1 := vN.1.2.1
        have z2 := vN.1.2.2
        go_simp
        clear z0 z1 z2 vN fz
        refine hKK.out _ _ trivial ?_
        clear hHeld
        intro hHeld
        clear hKK KK
        try simp only [Act.put, List.setIfInBounds_toArray, List.set_cons_zero, List.set_cons_succ]
        refine wpAnyH_done (by kernel_rfl) ?_ _
        go_wp2_with fail
        go_meet
        exact ⟨_, cc, pa, pb, rfl, rfl, vN2, bT, gpa, gpb⟩
      exact AllReadyH.nil
    refine consT rfl (fun KK hKK => ?_) ?_
    · skip
      go_simp
      have gpb : Seg (wF0.alloc (.cells #[.int .u32 y0, .int .u32 y1] 37)) (some ⟨wF0.heap.size, 0, none⟩) (m + 1) 2 := seg_two (by go_simp) (by go_simp) D2.out D3.out DY.out
      have bA := below_alloc (w := wF0) (.cells #[.int .u32 y0, .int .u32 y1] 37)
      generalize wF0.alloc (.cells #[.int .u32 y0, .int .u32 y1] 37) = wF6 at gpb bA ⊢
      replace bT := bT.trans (bA.mono bT.size)
      clear bA
      refine hKK.out _ _ hHeld ?_
      clear hHeld
      intro hHeld
      clear hKK KK
      try simp only [Act.put, List.setIfInBounds_toArray, List.set_cons_zero, List.set_cons_succ]
      obtain ⟨pb, hcc⟩ : ∃ cc, wF0.heap.size = cc := ⟨_, rfl⟩
      rw [hcc] at gpb
      try rw [hcc]
      clear hcc
      refine wpAnyH_ready (rs := [13, 22]) (by kernel_rfl) (by simp) ?_
      refine consT rfl (fun KK hKK => ?_) ?_
      · skip
        go_simp
        have gpa : Seg (wF6.alloc (.cells #[.int .u32 (v : Int), .int .u32 z1] 37)) (some ⟨wF6.heap.size, 0, none⟩) v 2 := seg_two (by go_simp) (by go_simp) D0.out D1.out DX.out
        have bA := below_alloc (w := wF6) (.cells #[.int .u32 (v : Int), .int .u32 z1] 37)
        generalize wF6.alloc (.cells #[.int .u32 (v : Int), .int .u32 z1] 37) = wF7 at gpa bA ⊢
        replace bT := bT.trans (bA.mono bT.size)
        replace gpb := gpb.later bA
        clear bA
        refine hKK.out _ _ hHeld ?_
        clear hHeld
        intro hHeld
        clear hKK KK
        try simp only [Act.put, List.setIfInBounds_toArray, List.set_cons_zero, List.set_cons_succ]
        obtain ⟨pa, hcc⟩ : ∃ cc, wF6.heap.size = cc := ⟨_, rfl⟩
        rw [hcc] at gpa
        try rw [hcc]
        clear hcc
        refine take' 14 (v := ?_) rfl (by kernel_rfl) (by kernel_rfl) (by kernel_rfl) (fun _ _ _ h => h) (Or.inl ⟨by rfl, ?_⟩) (by assumption) ?_
        rotate_left
        · intro w9 hSw
          go_simp
          first | done | with_reducible rfl
        simp only [Act.put, List.setIfInBounds_toArray, List.set_cons_zero, List.set_cons_succ]
        refine take' 21 (v := ?_) rfl (by kernel_rfl) (by kernel_rfl) (by kernel_rfl) (fun _ _ _ h => h) (Or.inl ⟨by rfl, ?_⟩) (by assumption) ?_
        rotate_left
        · intro w9 hSw
          go_simp
          first | done | with_reducible rfl
        simp only [Act.put, List.setIfInBounds_toArray, List.set_cons_zero, List.set_cons_succ]
        refine wpAnyH_ready (rs := [22]) (by kernel_rfl) (by simp) ?_
        refine cons' rfl (fun KK hKK => ?_)
        go_simp
        have vN : Thr (wF7.alloc (.cells #[.bool false, .slice none 0 0, .slice none 0 0] 28)) wF7.heap.size (.bool false) (.slice none 0 0) (.slice none 0 0) := ⟨⟨by go_simp, by go_simp, by go_simp⟩, row_new wF7 _ 28⟩
        have bA := below_alloc (w := wF7) (.cells #[.bool false, .slice none 0 0, .slice none 0 0] 28)
        have hc9 : wA.heap.size ≤ wF7.heap.size := bT.size
        generalize wF7.alloc (.cells #[.bool false, .slice none 0 0, .slice none 0 0] 28) = wF8 at vN bA ⊢
        replace bT := bT.trans (bA.mono bT.size)
        replace gpb := gpb.later bA
        replace gpa := gpa.later bA
        clear bA
        refine hKK.out _ _ hHeld ?_
        clear hHeld
        intro hHeld
        clear hKK KK
        try simp only [Act.put, List.setIfInBounds_toArray, List.set_cons_zero, List.set_cons_succ]
        obtain ⟨cc, hcc⟩ : ∃ cc, wF7.heap.size = cc := ⟨_, rfl⟩
        rw [hcc] at vN hc9
        try rw [hcc]
        clear hcc
        refine wpAnyH_ready (rs := [23]) (by kernel_rfl) (by simp) ?_
        refine cons' rfl (fun KK hKK => ?_)
        have fz := fun o => vN.2.frozen o
        replace gpa := vN.seg (u0 := .bool false) (u1 := .slice (some ⟨pa, 0, none⟩) 2 2) (u2 := .slice (some ⟨pb, 0, none⟩) 2 2) (by simp) (by simp) (by simp) gpa
        replace gpb := vN.seg (u0 := .bool false) (u1 := .slice (some ⟨pa, 0, none⟩) 2 2) (u2 := .slice (some ⟨pb, 0, none⟩) 2 2) (by simp) (by simp) (by simp) gpb
        replace bT := below_set3 (u0 := .bool false) (u1 := .slice (some ⟨pa, 0, none⟩) 2 2) (u2 := .slice (some ⟨pb, 0, none⟩) 2 2) bT hc9
        have vN2 := vN.put (u0 := .bool false) (u1 := .slice (some ⟨pa, 0, none⟩) 2 2) (u2 := .slice (some ⟨pb, 0, none⟩) 2 2)
        have z0 := vN.1.1
        have z1 := vN.1.2.1
        have z2 := vN.1.2.2
        go_simp
        clear z0 z1 z2 vN fz
        refine hKK.out _ _ trivial ?_
        clear hHeld
        intro hHeld
        clear hKK KK
        try simp only [Act.put, List.setIfInBounds_toArray, List.set_cons_zero, List.set_cons_succ]
        refine wpAnyH_done (by kernel_rfl) ?_ _
        go_wp2_with fail
        go_meet
        exact ⟨_, cc, pa, pb, rfl, rfl, vN2, bT, gpa, gpb⟩
      refine consT rfl (fun KK hKK => ?_) ?_
      · skip
        go_simp
        have vN : Thr (wF6.alloc (.cells #[.bool false, .slice none 0 0, .slice none 0 0] 28)) wF6.heap.size (.bool false) (.slice none 0 0) (.slice none 0 0) := ⟨⟨by go_simp, by go_simp, by go_simp⟩, row_new wF6 _ 28⟩
        have bA := below_alloc (w := wF6) (.cells #[.bool false, .slice none 0 0, .slice none 0 0] 28)
        have hc9 : wA.heap.size ≤ wF6.heap.size := bT.size
        generalize wF6.alloc (.cells #[.bool false, .slice none 0 0, .slice none 0 0] 28) = wF9 at vN bA ⊢
        replace bT := bT.trans (bA.mono bT.size)
        replace gpb := gpb.later bA
        clear bA
        refine hKK.out _ _ hHeld ?_
        clear hHeld
        intro hHeld
        clear hKK KK
        try simp only [Act.put, List.setIfInBounds_toArray, List.set_cons_zero, List.set_cons_succ]
        obtain ⟨cc, hcc⟩ : ∃ cc, wF6.heap.size = cc := ⟨_, rfl⟩
        rw [hcc] at vN hc9
        try rw [hcc]
        clear hcc
        refine wpAnyH_ready (rs := [13]) (by kernel_rfl) (by simp) ?_
        refine cons' rfl (fun KK hKK => ?_)
        go_simp
        have gpa : Seg (wF9.alloc (.cells #[.int .u32 (v : Int), .int .u32 z1] 37)) (some ⟨wF9.heap.size, 0, none⟩) v 2 := seg_two (by go_simp) (by go_simp) D0.out D1.out DX.out
        have bA := below_alloc (w := wF9) (.cells #[.int .u32 (v : Int), .int .u32 z1] 37)
        generalize wF9.alloc (.cells #[.int .u32 (v : Int), .int .u32 z1] 37) = wF10 at gpa bA ⊢
        replace bT := bT.trans (bA.mono bT.size)
        replace gpb := gpb.later bA
        replace vN := vN.later bA
        clear bA
        refine hKK.out _ _ hHeld ?_
        clear hHeld
        intro hHeld
        clear hKK KK
        try simp only [Act.put, List.setIfInBounds_toArray, List.set_cons_zero, List.set_cons_succ]
        obtain ⟨pa, hcc⟩ : ∃ cc, wF9.heap.size = cc := ⟨_, rfl⟩
        rw [hcc] at gpa
        try rw [hcc]
        clear hcc
        refine take' 14 (v := ?_) rfl (by kernel_rfl) (by kernel_rfl) (by kernel_rfl) (fun _ _ _ h => h) (Or.inl ⟨by rfl, ?_⟩) (by assumption) ?_
        rotate_left
        · intro w9 hSw
          go_simp
          first | done | with_reducible rfl
        simp only [Act.put, List.setIfInBounds_toArray, List.set_cons_zero, List.set_cons_succ]
        refine take' 21 (v := ?_) rfl (by kernel_rfl) (by kernel_rfl) (by kernel_rfl) (fun _ _ _ h => h) (Or.inl ⟨by rfl, ?_⟩) (by assumption) ?_
        rotate_left
        · intro w9 hSw
          go_simp
          first | done | with_reducible rfl
        simp only [Act.put, List.setIfInBounds_toArray, List.set_cons_zero, List.set_cons_succ]
        refine wpAnyH_ready (rs := [23]) (by kernel_rfl) (by simp) ?_
        refine cons' rfl (fun KK hKK => ?_)
        have fz := fun o => vN.2.frozen o
        replace gpa := vN.seg (u0 := .bool false) (u1 := .slice (some ⟨pa, 0, none⟩) 2 2) (u2 := .slice (some ⟨pb, 0, none⟩) 2 2) (by simp) (by simp) (by simp) gpa
        replace gpb := vN.seg (u0 := .bool false) (u1 := .slice (some ⟨pa, 0, none⟩) 2 2) (u2 := .slice (some ⟨pb, 0, none⟩) 2 2) (by simp) (by simp) (by simp) gpb
        replace bT := below_set3 (u0 := .bool false) (u1 := .slice (some ⟨pa, 0, none⟩) 2 2) (u2 := .slice (some ⟨pb, 0, none⟩) 2 2) bT hc9
        have vN2 := vN.put (u0 := .bool false) (u1 := .slice (some ⟨pa, 0, none⟩) 2 2) (u2 := .slice (some ⟨pb, 0, none⟩) 2 2)
        have z0 := vN.1.1
        have z1 := vN.1.2.1
        have z2 := vN.1.2.2
        go_simp
        clear z0 z1 z2 vN fz
        refine hKK.out _ _ trivial ?_
        clear hHeld
        intro hHeld
        clear hKK KK
        try simp only [Act.put, List.setIfInBounds_toArray, List.set_cons_zero, List.set_cons_succ]
        refine wpAnyH_done (by kernel_rfl) ?_ _
        go_wp2_with fail
        go_meet
        exact ⟨_, cc, pa, pb, rfl, rfl, vN2, bT, gpa, gpb⟩
      exact AllReadyH.nil
    refine consT rfl (fun KK hKK => ?_) ?_
    · skip
      go_simp
      have vN : Thr (wF0.alloc (.cells #[.bool false, .slice none 0 0, .slice none 0 0] 28)) wF0.heap.size (.bool false) (.slice none 0 0) (.slice none 0 0) := ⟨⟨by go_simp, by go_simp, by go_simp⟩, row_new wF0 _ 28⟩
      have bA := below_alloc (w := wF0) (.cells #[.bool false, .slice none 0 0, .slice none 0 0] 28)
      have hc9 : wA.heap.size ≤ wF0.heap.size := bT.size
      generalize wF0.alloc (.cells #[.bool false, .slice none 0 0, .slice none 0 0] 28) = wF11 at vN bA ⊢
      replace bT := bT.trans (bA.mono bT.size)
      clear bA
      refine hKK.out _ _ hHeld ?_
      clear hHeld
      intro hHeld
      clear hKK KK
      try simp only [Act.put, List.setIfInBounds_toArray, List.set_cons_zero, List.set_cons_succ]
      obtain ⟨cc, hcc⟩ : ∃ cc, wF0.heap.size = cc := ⟨_, rfl⟩
      rw [hcc] at vN hc9
      try rw [hcc]
      clear hcc
      refine wpAnyH_ready (rs := [13, 20]) (by kernel_rfl) (by simp) ?_
      refine consT rfl (fun KK hKK => ?_) ?_
      · skip
        go_simp
        have gpa : Seg (wF11.alloc (.cells #[.int .u32 (v : Int), .int .u32 z1] 37)) (some ⟨wF11.heap.size, 0, none⟩) v 2 := seg_two (by go_simp) (by go_simp) D0.out D1.out DX.out
        have bA := below_alloc (w := wF11) (.cells #[.int .u32 (v : Int), .int .u32 z1] 37)
        generalize wF11.alloc (.cells #[.int .u32 (v : Int), .int .u32 z1] 37) = wF12 at gpa bA ⊢
        replace bT := bT.trans (bA.mono bT.size)
        replace vN := vN.later bA
        clear bA
        refine hKK.out _ _ hHeld ?_
        clear hHeld
        intro hHeld
        clear hKK KK
        try simp only [Act.put, List.setIfInBounds_toArray, List.set_cons_zero, List.set_cons_succ]
        obtain ⟨pa, hcc⟩ : ∃ cc, wF11.heap.size = cc := ⟨_, rfl⟩
        rw [hcc] at gpa
        try rw [hcc]
        clear hcc
        refine take' 14 (v := ?_) rfl (by kernel_rfl) (by kernel_rfl) (by kernel_rfl) (fun _ _ _ h => h) (Or.inl ⟨by rfl, ?_⟩) (by assumption) ?_
        rotate_left
        · intro w9 hSw
          go_simp
          first | done | with_reducible rfl
        simp only [Act.put, List.setIfInBounds_toArray, List.set_cons_zero, List.set_cons_succ]
        refine wpAnyH_ready (rs := [20]) (by kernel_rfl) (by simp) ?_
        refine cons' rfl (fun KK hKK => ?_)
        go_simp
        have gpb : Seg (wF12.alloc (.cells #[.int .u32 y0, .int .u32 y1] 37)) (some ⟨wF12.heap.size, 0, none⟩) (m + 1) 2 := seg_two (by go_simp) (by go_simp) D2.out D3.out DY.out
        have bA := below_alloc (w := wF12) (.cells #[.int .u32 y0, .int .u32 y1] 37)
        generalize wF12.alloc (.cells #[.int .u32 y0, .int .u32 y1] 37) = wF13 at gpb bA ⊢
        replace bT := bT.trans (bA.mono bT.size)
        replace vN := vN.later bA
        replace gpa := gpa.later bA
        clear bA
        refine hKK.out _ _ hHeld ?_
        clear hHeld
        intro hHeld
        clear hKK KK
        try simp only [Act.put, List.setIfInBounds_toArray, List.set_cons_zero, List.set_cons_succ]
        obtain ⟨pb, hcc⟩ : ∃ cc, wF12.heap.size = cc := ⟨_, rfl⟩
        rw [hcc] at gpb
        try rw [hcc]
        clear hcc
        refine take' 21 (v := ?_) rfl (by kernel_rfl) (by kernel_rfl) (by kernel_rfl) (fun _ _ _ h => h) (Or.inl ⟨by rfl, ?_⟩) (by assumption) ?_
        rotate_left
        · intro w9 hSw
          go_simp
          first | done | with_reducible rfl
        simp only [Act.put, List.setIfInBounds_toArray, List.set_cons_zero, List.set_cons_succ]
        refine wpAnyH_ready (rs := [23]) (by kernel_rfl) (by simp) ?_
        refine cons' rfl (fun KK hKK => ?_)
        have fz := fun o => vN.2.frozen o
        replace gpa := vN.seg (u0 := .bool false) (u1 := .slice (some ⟨pa, 0, none⟩) 2 2) (u2 := .slice (some ⟨pb, 0, none⟩) 2 2) (by simp) (by simp) (by simp) gpa
        replace gpb := vN.seg (u0 := .bool false) (u1 := .slice (some ⟨pa, 0, none⟩) 2 2) (u2 := .slice (some ⟨pb, 0, none⟩) 2 2) (by simp) (by simp) (by simp) gpb
        replace bT := below_set3 (u0 := .bool false) (u1 := .slice (some ⟨pa, 0, none⟩) 2 2) (u2 := .slice (some ⟨pb, 0, none⟩) 2 2) bT hc9
        have vN2 := vN.put (u0 := .bool false) (u1 := .slice (some ⟨pa, 0, none⟩) 2 2) (u2 := .slice (some ⟨pb, 0, none⟩) 2 2)
        have z0 := vN.1.1
        have z1 := vN.1.2.1
        have z2 := vN.1.2.2
        go_simp
        clear z0 z1 z2 vN fz
        refine hKK.out _ _ trivial ?_
        clear hHeld
        intro hHeld
        clear hKK KK
        try simp only [Act.put, List.setIfInBounds_toArray, List.set_cons_zero, List.set_cons_succ]
        refine wpAnyH_done (by kernel_rfl) ?_ _
        go_wp2_with fail
        go_meet
        exact ⟨_, cc, pa, pb, rfl, rfl, vN2, bT, gpa, gpb⟩
      refine consT rfl (fun KK hKK => ?_) ?_
      · skip
        go_simp
        have gpb : Seg (wF11.alloc (.cells #[.int .u32 y0, .int .u32 y1] 37)) (some ⟨wF11.heap.size, 0, none⟩) (m + 1) 2 := seg_two (by go_simp) (by go_simp) D2.out D3.out DY.out
        have bA := below_alloc (w := wF11) (.cells #[.int .u32 y0, .int .u32 y1] 37)
        generalize wF11.alloc (.cells #[.int .u32 y0, .int .u32 y1] 37) = wF14 at gpb bA ⊢
        replace bT := bT.trans (bA.mono bT.size)
        replace vN := vN.later bA
        clear bA
        refine hKK.out _ _ hHeld ?_
        clear hHeld
        intro hHeld
        clear hKK KK
        try simp only [Act.put, List.setIfInBounds_toArray, List.set_cons_zero, List.set_cons_succ]
        obtain ⟨pb, hcc⟩ : ∃ cc, wF11.heap.size = cc := ⟨_, rfl⟩
        rw [hcc] at gpb
        try rw [hcc]
        clear hcc
        refine wpAnyH_ready (rs := [13]) (by kernel_rfl) (by simp) ?_
        refine cons' rfl (fun KK hKK => ?_)
        go_simp
        have gpa : Seg (wF14.alloc (.cells #[.int .u32 (v : Int), .int .u32 z1] 37)) (some ⟨wF14.heap.size, 0, none⟩) v 2 := seg_two (by go_simp) (by go_simp) D0.out D1.out DX.out
        have bA := below_alloc (w := wF14) (.cells #[.int .u32 (v : Int), .int .u32 z1] 37)
        generalize wF14.alloc (.cells #[.int .u32 (v : Int), .int .u32 z1] 37) = wF15 at gpa bA ⊢
        replace bT := bT.trans (bA.mono bT.size)
        replace vN := vN.later bA
        replace gpb := gpb.later bA
        clear bA
        refine hKK.out _ _ hHeld ?_
        clear hHeld
        intro hHeld
        clear hKK KK
        try simp only [Act.put, List.setIfInBounds_toArray, List.set_cons_zero, List.set_cons_succ]
        obtain ⟨pa, hcc⟩ : ∃ cc, wF14.heap.size = cc := ⟨_, rfl⟩
        rw [hcc] at gpa
        try rw [hcc]
        clear hcc
        refine take' 14 (v := ?_) rfl (by kernel_rfl) (by kernel_rfl) (by kernel_rfl) (fun _ _ _ h => h) (Or.inl ⟨by rfl, ?_⟩) (by assumption) ?_
        rotate_left
        · intro w9 hSw
          go_simp
          first | done | with_reducible rfl
        simp only [Act.put, List.setIfInBounds_toArray, List.set_cons_zero, List.set_cons_succ]
        refine take' 21 (v := ?_) rfl (by kernel_rfl) (by kernel_rfl) (by kernel_rfl) (fun _ _ _ h => h) (Or.inl ⟨by rfl, ?_⟩) (by assumption) ?_
        rotate_left
        · intro w9 hSw
          go_simp
          first | done | with_reducible rfl
        simp only [Act.put, List.setIfInBounds_toArray, List.set_cons_zero, List.set_cons_succ]
        refine wpAnyH_ready (rs := [23]) (by kernel_rfl) (by simp) ?_
        refine cons' rfl (fun KK hKK => ?_)
        have fz := fun o => vN.2.frozen o
        replace gpa := vN.seg (u0 := .bool false) (u1 := .slice (some ⟨pa, 0, none⟩) 2 2) (u2 := .slice (some ⟨pb, 0, none⟩) 2 2) (by simp) (by simp) (by simp) gpa
        replace gpb := vN.seg (u0 := .bool false) (u1 := .slice (some ⟨pa, 0, none⟩) 2 2) (u2 := .slice (some ⟨pb, 0, none⟩) 2 2) (by simp) (by simp) (by simp) gpb
        replace bT := below_set3 (u0 := .bool false) (u1 := .slice (some ⟨pa, 0, none⟩) 2 2) (u2 := .slice (some ⟨pb, 0, none⟩) 2 2) bT hc9
        have vN2 := vN.put (u0 := .bool false) (u1 := .slice (some ⟨pa, 0, none⟩) 2 2) (u2 := .slice (some ⟨pb, 0, none⟩) 2 2)
        have z0 := vN.1.1
        have z1 := vN.1.2.1
        have z2 := vN.1.2.2
        go_simp
        clear z0 z1 z2 vN fz
        refine hKK.out _ _ trivial ?_
        clear hHeld
        intro hHeld
        clear hKK KK
        try simp only [Act.put, List.setIfInBounds_toArray, List.set_cons_zero, List.set_cons_succ]
        refine wpAnyH_done (by kernel_rfl) ?_ _
        go_wp2_with fail
        go_meet
        exact ⟨_, cc, pa, pb, rfl, rfl, vN2, bT, gpa, gpb⟩
      exact AllReadyH.nil
    exact AllReadyH.nil
  case rest =>
    obtain ⟨wv, c8, pa, pb, hwv, rfl, v8, bT, g1, g2⟩ := hcut
    subst hwv
    replace d0 := below_cell bT d0
    replace d1 := below_cell bT d1
    replace d2 := below_cell bT d2
    replace rA := rA.later bT
    replace hB := hB.trans (bT.mono hB.size)
    clear bT
    have x0 := v8.1.1
    have x1 := v8.1.2.1
    have x2 := v8.1.2.2
    clear v8
    go_wp2_with fail
    refine (GM.out _ pa pb hB g1 g2).mono ?_
    rintro e w9 ⟨p, q, rfl, b9, hS⟩
    replace rA := rA.later b9
    replace hB := hB.trans (b9.mono hB.size)
    clear b9 g1 g2 x0 x1 x2 d0 d1 d2 GM
    have fz := fun o => rA.2.frozen o
    have z0 := rA.1.1
    have z1 := rA.1.2.1
    have z2 := rA.1.2.2
    have hS2 := hide' (show (nR S p q).ok (set3 w9 (w.heap.size + 1) (.bool (ng S.num)) (.slice p (ln (am S.num)) (ln (am S.num))) (.slice q (ln S.den) (ln S.den))) from ⟨rA.seg (by simp) (by simp) (by simp) hS.1, hS.2.1, hS.2.2.1, rA.seg (by simp) (by simp) (by simp) hS.2.2.2.1, hS.2.2.2.2.1, hS.2.2.2.2.2⟩)
    have hB2 := hide' (below_set3 (u0 := .bool (ng S.num)) (u1 := .slice p (ln (am S.num)) (ln (am S.num))) (u2 := .slice q (ln S.den) (ln S.den)) hB (show w.heap.size ≤ w.heap.size + 1 by omega))
    have rD := rA.put (u0 := .bool (ng S.num)) (u1 := .slice p (ln (am S.num)) (ln (am S.num))) (u2 := .slice q (ln S.den) (ln S.den))
    obtain ⟨⟨v0, v1, v2⟩, _⟩ := rD
    clear rA hB hS
    go_wp2
    refine bodyPost_ret (v := Value.agg #[Value.bool (ng S.num), Value.slice p (ln (am S.num)) (ln (am S.num)), Value.slice q (ln S.den) (ln S.den)]) (by rw [results_cell rfl]; go_simp) rfl ?_
    exact ⟨p, q, rfl, hB2.out, hS2.out⟩
end Go.Proofs.YtnifelfecildmaaGreatDoor

namespace Go.Proofs.YtnifelfecildmaaGreatDoor
open Go.RowKit
set_option linter.unusedVariables false
set_option linter.unusedSimpArgs false
def DelV.cells6 (d : DelV) : List Value := [.bool d.a.s, .slice d.a.a d.a.n d.a.c, .slice d.a.b d.a.m d.a.e, .bool d.b.s, .slice d.b.a d.b.n d.b.c, .slice d.b.b d.b.m d.b.e]
/-- the six cells of a variable that can be stored into -/
def Sx (w : World) (c : Nat) (d : DelV) : Prop := cellsM w c 0 d.cells6 ∧ Row w c
theorem Sx.later {w w' : World} {c : Nat} {d : DelV} (h : Sx w c d) (hb : Below w.heap.size w w') : Sx w' c d := ⟨fun i z hz => below_cell hb (h.1 i z hz), below_row hb h.2⟩
theorem Sx.put {w : World} {c : Nat} {z : DelV} (d : DelV) (h : Sx w c z) : Sx (stM w c 0 d.cells6) c d := ⟨stM_at _ z.cells6 w c 0 rfl h.1, stM_row _ w c 0 c h.2⟩
theorem Sx.far {w : World} {c r : Nat} {d : DelV} (us : List Value) (h : Sx w r d) (hne : c ≠ r) : Sx (stM w c 0 us) r d := ⟨fun i z hz => stM_out us w c 0 r _ z (fun e => absurd e hne) (h.1 i z hz), stM_row _ w c 0 r h.2⟩
def zeroD : DelV := ⟨zeroR, zeroR⟩
theorem half_val (a b : Option Addr) : (⟨false, a, 1, 1, 1, b, 1, 1, 2⟩ : RatV).val = (1 / 2 : Rat) := by
  unfold RatV.val
  simp only
  rw [rn_of (by omega), rd_of (by omega)]
  show Rat.divInt 1 2 = 1 / 2
  rw [Rat.divInt_eq_div]
  simp
theorem half_lt {S Q : Rat} (hS : 0 < S) (h0 : 0 ≤ Q) (h1 : Q ≤ 1) : S * Q * (1 / 2) < S := by
  obtain ⟨a, b⟩ := part_le hS h0 h1
  grind
/-- the order of two numbers is what a small amount says -/
theorem order_at {x y : Rat × Rat} {T : Rat} (hT : 0 < T) (h : ∀ lo hi : Rat × Rat, (lo, hi) = (if 0 < cmpD x y then (y, x) else (x, y)) → T < smallG [(lo, hi)]) : sR (atR x T - atR y T) = cmpD x y := by
  rcases cmpD_cases x y with ⟨k, e⟩ | ⟨k, e⟩ | ⟨k, e⟩ <;> rw [e] at h ⊢
  · have h2 := tells k hT (h x y (by rw [if_neg (by omega)]))
    rcases sR_cases (atR x T - atR y T) with ⟨h1, e1⟩ | ⟨h1, e1⟩ | ⟨h1, e1⟩
    · exact e1
    · grind
    · grind
  · rw [k, Rat.sub_self]
    rfl
  · have h2 := tells k hT (h y x (by rw [if_pos (by omega)]))
    rcases sR_cases (atR x T - atR y T) with ⟨h1, e1⟩ | ⟨h1, e1⟩ | ⟨h1, e1⟩
    · grind
    · grind
    · exact e1
theorem one_gap {w : World} {b : Nat} {g : GapV} (h : cellsM w b 0 g.cells) (hb : b < w.heap.size) : GapsAt w (some ⟨b, 0, none⟩) 1 (fun _ => g) := fun _ => ⟨b, 0, rfl, hb, fun i hi => by
  obtain rfl : i = 0 := by omega
  exact (g.lies_iff w b (0 + 0 * 12)).2 h⟩
end Go.Proofs.YtnifelfecildmaaGreatDoor
