import Derived.Test.YtejlnodillnoaaaGreatDoorWI4
set_option linter.unusedSimpArgs false
namespace Go.Proofs.YtejlnodillnoaaaGreatDoor
open Go.RowKit
set_option linter.unusedVariables false
theorem cmp_lt {a b : Int} (h : sgn a < sgn b) : sgn (a - b) = -1 := by
  apply sgn_neg
  unfold sgn at h
  split at h
  · split at h
    · omega
    · split at h <;> omega
  · split at h
    · split at h
      · omega
      · split at h <;> omega
    · split at h
      · omega
      · split at h <;> omega
theorem cmp_gt {a b : Int} (h : sgn b < sgn a) : sgn (a - b) = 1 := by
  apply sgn_pos
  unfold sgn at h
  split at h
  · split at h
    · omega
    · split at h <;> omega
  · split at h
    · split at h
      · omega
      · split at h <;> omega
    · split at h
      · omega
      · split at h <;> omega
theorem cmp_eq {s t : Bool} {X Y : Nat} (h : sgn (sg s X) = sgn (sg t Y)) : sgn (sg s X) * cmpI X Y = sgn (sg s X - sg t Y) := by
  by_cases hX : X = 0
  · subst hX
    rw [sg_zero, sgn_zero] at h ⊢
    have : sg t Y = 0 := by
      unfold sgn at h
      split at h
      · omega
      · split at h
        · assumption
        · omega
    rw [this, Int.zero_mul]; rfl
  · by_cases hY : Y = 0
    · subst hY
      rw [sg_zero, sgn_zero, sgn_sg hX] at h
      have := sd_range s
      omega
    · rw [sgn_sg hX, sgn_sg hY] at h
      have hst : s = t := by cases s <;> cases t <;> first | rfl | (simp [sd] at h)
      subst hst
      rw [sgn_sg hX]
      rcases Nat.lt_trichotomy X Y with h' | h' | h'
      · rw [cmpI_lt h']
        cases s
        · rw [sgn_neg (by simp only [sg, Bool.false_eq_true, if_false]; omega)]; rfl
        · rw [sgn_pos (by simp only [sg, if_true]; omega)]; rfl
      · rw [cmpI_eq h', h', Int.sub_self, sgn_zero]; simp
      · rw [cmpI_gt h']
        cases s
        · rw [sgn_pos (by simp only [sg, Bool.false_eq_true, if_false]; omega)]; rfl
        · rw [sgn_neg (by simp only [sg, if_true]; omega)]; rfl
set_option maxHeartbeats 2000000 in
set_option maxRecDepth 100000 in
theorem wCmp_is (s : Bool) (ao : Option Addr) (n cap X : Nat) (t : Bool) (ao2 : Option Addr) (m cap2 Y : Nat) (w : World) (hc : n ≤ cap) (hm : n ≤ 70368744177664) (hS : Seg w ao X n) (hc2 : m ≤ cap2) (hm2 : m ≤ 70368744177664) (hS2 : Seg w ao2 Y m) :
    Calls Tryz.prog 49 #[.agg #[.bool s, .slice ao n cap], .agg #[.bool t, .slice ao2 m cap2]] w fun e w' => e = .returned (.int .i64 (sgn (sg s X - sg t Y))) ∧ Below w.heap.size w w' := by
  obtain ⟨P, hP⟩ : ∃ P, sgn (sg s X) = P := ⟨_, rfl⟩
  obtain ⟨R, hR⟩ : ∃ R, sgn (sg t Y) = R := ⟨_, rfl⟩
  have hPr := sgn_range (sg s X)
  have hRr := sgn_range (sg t Y)
  have C1 : ∀ w', Seg w' ao X n → Calls Tryz.prog 24 #[.agg #[.bool s, .slice ao n cap]] w' fun e w'' => e = .returned (.int .i64 P) ∧ Below w'.heap.size w' w'' := fun w' h => by rw [← hP]; exact wSign_is s ao n cap X _ w' hc hm h rfl
  have C2 : ∀ w', Seg w' ao2 Y m → Calls Tryz.prog 24 #[.agg #[.bool t, .slice ao2 m cap2]] w' fun e w'' => e = .returned (.int .i64 R) ∧ Below w'.heap.size w' w'' := fun w' h => by rw [← hR]; exact wSign_is t ao2 m cap2 Y _ w' hc2 hm2 h rfl
  have HC1 := hide' C1
  have HC2 := hide' C2
  clear C1 C2
  rw [hP] at hPr
  rw [hR] at hRr
  rcases Int.lt_trichotomy P R with h | h | h
  · have hres : sgn (sg s X - sg t Y) = -1 := cmp_lt (by rw [hP, hR]; exact h)
    rw [hres]
    clear hres hP hR
    go_enter Tryz.func49, Tryz.ntmps49
    go_wp2_with fail
    obtain ⟨W, hW⟩ : ∃ W, ((w.alloc (.cells #[.bool s, .slice ao n cap] 25)).alloc (.cells #[.bool t, .slice ao2 m cap2] 25)) = W := ⟨_, rfl⟩
    have q00 : W.cell? ⟨w.heap.size, 0, none⟩ = some (.bool s) := by subst hW; go_simp
    have q01 : W.cell? ⟨w.heap.size, 1, none⟩ = some (.slice ao n cap) := by subst hW; go_simp
    have q10 : W.cell? ⟨w.heap.size + 1, 0, none⟩ = some (.bool t) := by subst hW; go_simp
    have q11 : W.cell? ⟨w.heap.size + 1, 1, none⟩ = some (.slice ao2 m cap2) := by subst hW; go_simp
    have hB : Below w.heap.size w W := by subst hW; exact (((Below.refl _ _).alloc (by (try simp only [World.size_alloc]); omega) _).alloc (by (try simp only [World.size_alloc]); omega) _)
    have hz : W.heap.size = w.heap.size + 1 + 1 := by subst hW; simp only [World.size_alloc]
    rw [hW]
    clear hW
    have hBW : Below W.heap.size W W := Below.refl _ _
    replace hBW := hBW.drew
    first
      | go_region_held3 (fun w' => w'.cell? ⟨w.heap.size, 0, none⟩ = some (.bool s) ∧ w'.cell? ⟨w.heap.size, 1, none⟩ = some (.slice ao n cap) ∧ w'.cell? ⟨w.heap.size + 1, 0, none⟩ = some (.bool t) ∧ w'.cell? ⟨w.heap.size + 1, 1, none⟩ = some (.slice ao2 m cap2) ∧ Below w.heap.size w w')
          (first | exact ⟨q00, q01, q10, q11, hB.trans (hBW.mono hB.size)⟩ | exact kp4 b1 (by assumption) | exact kp4 b2 (by assumption) | exact kp4 (below_alloc _) (by assumption))
          (first
            | (go_at_call 24; go_at_call_of 24 (Value.agg #[.bool s, .slice ao n cap]); refine (HC1.out _ (sb hS hB hBW)).mono ?_; rintro e w1 ⟨rfl, b1⟩; replace hBW := hBW.trans (b1.mono hBW.size); replace q00 := below_cell b1 q00; replace q01 := below_cell b1 q01; replace q10 := below_cell b1 q10; replace q11 := below_cell b1 q11)
            | (go_at_call 24; go_at_call_of 24 (Value.agg #[.bool t, .slice ao2 m cap2]); refine (HC2.out _ (sb hS2 hB hBW)).mono ?_; rintro e w2 ⟨rfl, b2⟩; replace hBW := hBW.trans (b2.mono hBW.size); replace q00 := below_cell b2 q00; replace q01 := below_cell b2 q01; replace q10 := below_cell b2 q10; replace q11 := below_cell b2 q11))
      | fail
    go_wp2
    go_ret
    exact ⟨rfl, hB.trans (hBW.mono hB.size)⟩
  · have hres : P * cmpI X Y = sgn (sg s X - sg t Y) := by rw [← hP]; exact cmp_eq (by rw [hP, hR]; exact h)
    have hrr := sgn_range (sg s X - sg t Y)
    have hw : wrap64 (P * cmpI X Y) = sgn (sg s X - sg t Y) := by rw [hres]; unfold wrap64; omega
    have HW := hide' hw
    clear hres hP hR hw hrr
    subst h
    go_enter Tryz.func49, Tryz.ntmps49
    go_wp2_with fail
    obtain ⟨W, hW⟩ : ∃ W, ((w.alloc (.cells #[.bool s, .slice ao n cap] 25)).alloc (.cells #[.bool t, .slice ao2 m cap2] 25)) = W := ⟨_, rfl⟩
    have q00 : W.cell? ⟨w.heap.size, 0, none⟩ = some (.bool s) := by subst hW; go_simp
    have q01 : W.cell? ⟨w.heap.size, 1, none⟩ = some (.slice ao n cap) := by subst hW; go_simp
    have q10 : W.cell? ⟨w.heap.size + 1, 0, none⟩ = some (.bool t) := by subst hW; go_simp
    have q11 : W.cell? ⟨w.heap.size + 1, 1, none⟩ = some (.slice ao2 m cap2) := by subst hW; go_simp
    have hB : Below w.heap.size w W := by subst hW; exact (((Below.refl _ _).alloc (by (try simp only [World.size_alloc]); omega) _).alloc (by (try simp only [World.size_alloc]); omega) _)
    have hz : W.heap.size = w.heap.size + 1 + 1 := by subst hW; simp only [World.size_alloc]
    rw [hW]
    clear hW
    have hBW : Below W.heap.size W W := Below.refl _ _
    replace hBW := hBW.drew
    first
      | go_region_held3 (fun w' => w'.cell? ⟨w.heap.size, 0, none⟩ = some (.bool s) ∧ w'.cell? ⟨w.heap.size, 1, none⟩ = some (.slice ao n cap) ∧ w'.cell? ⟨w.heap.size + 1, 0, none⟩ = some (.bool t) ∧ w'.cell? ⟨w.heap.size + 1, 1, none⟩ = some (.slice ao2 m cap2) ∧ Below w.heap.size w w')
          (first | exact ⟨q00, q01, q10, q11, hB.trans (hBW.mono hB.size)⟩ | exact kp4 b1 (by assumption) | exact kp4 b2 (by assumption) | exact kp4 (below_alloc _) (by assumption))
          (first
            | (go_at_call 24; go_at_call_of 24 (Value.agg #[.bool s, .slice ao n cap]); refine (HC1.out _ (sb hS hB hBW)).mono ?_; rintro e w1 ⟨rfl, b1⟩; replace hBW := hBW.trans (b1.mono hBW.size); replace q00 := below_cell b1 q00; replace q01 := below_cell b1 q01; replace q10 := below_cell b1 q10; replace q11 := below_cell b1 q11)
            | (go_at_call 24; go_at_call_of 24 (Value.agg #[.bool t, .slice ao2 m cap2]); refine (HC2.out _ (sb hS2 hB hBW)).mono ?_; rintro e w2 ⟨rfl, b2⟩; replace hBW := hBW.trans (b2.mono hBW.size); replace q00 := below_cell b2 q00; replace q01 := below_cell b2 q01; replace q10 := below_cell b2 q10; replace q11 := below_cell b2 q11))
      | fail
    go_wp2_with fail
    refine (Cmp_any ao ao2 n cap X m cap2 Y _ hc hm (sb hS hB hBW) hc2 hm2 (sb hS2 hB hBW)).mono ?_
    rintro e w3 ⟨rfl, hd⟩
    go_wp2
    go_ret
    exact ⟨ret_int HW.out, (hB.trans (hBW.mono hB.size)).trans (hd.below _)⟩
  · have hres : sgn (sg s X - sg t Y) = 1 := cmp_gt (by rw [hP, hR]; exact h)
    rw [hres]
    clear hres hP hR
    go_enter Tryz.func49, Tryz.ntmps49
    go_wp2_with fail
    obtain ⟨W, hW⟩ : ∃ W, ((w.alloc (.cells #[.bool s, .slice ao n cap] 25)).alloc (.cells #[.bool t, .slice ao2 m cap2] 25)) = W := ⟨_, rfl⟩
    have q00 : W.cell? ⟨w.heap.size, 0, none⟩ = some (.bool s) := by subst hW; go_simp
    have q01 : W.cell? ⟨w.heap.size, 1, none⟩ = some (.slice ao n cap) := by subst hW; go_simp
    have q10 : W.cell? ⟨w.heap.size + 1, 0, none⟩ = some (.bool t) := by subst hW; go_simp
    have q11 : W.cell? ⟨w.heap.size + 1, 1, none⟩ = some (.slice ao2 m cap2) := by subst hW; go_simp
    have hB : Below w.heap.size w W := by subst hW; exact (((Below.refl _ _).alloc (by (try simp only [World.size_alloc]); omega) _).alloc (by (try simp only [World.size_alloc]); omega) _)
    have hz : W.heap.size = w.heap.size + 1 + 1 := by subst hW; simp only [World.size_alloc]
    rw [hW]
    clear hW
    have hBW : Below W.heap.size W W := Below.refl _ _
    replace hBW := hBW.drew
    first
      | go_region_held3 (fun w' => w'.cell? ⟨w.heap.size, 0, none⟩ = some (.bool s) ∧ w'.cell? ⟨w.heap.size, 1, none⟩ = some (.slice ao n cap) ∧ w'.cell? ⟨w.heap.size + 1, 0, none⟩ = some (.bool t) ∧ w'.cell? ⟨w.heap.size + 1, 1, none⟩ = some (.slice ao2 m cap2) ∧ Below w.heap.size w w')
          (first | exact ⟨q00, q01, q10, q11, hB.trans (hBW.mono hB.size)⟩ | exact kp4 b1 (by assumption) | exact kp4 b2 (by assumption) | exact kp4 (below_alloc _) (by assumption))
          (first
            | (go_at_call 24; go_at_call_of 24 (Value.agg #[.bool s, .slice ao n cap]); refine (HC1.out _ (sb hS hB hBW)).mono ?_; rintro e w1 ⟨rfl, b1⟩; replace hBW := hBW.trans (b1.mono hBW.size); replace q00 := below_cell b1 q00; replace q01 := below_cell b1 q01; replace q10 := below_cell b1 q10; replace q11 := below_cell b1 q11)
            | (go_at_call 24; go_at_call_of 24 (Value.agg #[.bool t, .slice ao2 m cap2]); refine (HC2.out _ (sb hS2 hB hBW)).mono ?_; rintro e w2 ⟨rfl, b2⟩; replace hBW := hBW.trans (b2.mono hBW.size); replace q00 := below_cell b2 q00; replace q01 := below_cell b2 q01; replace q10 := below_cell b2 q10; replace q11 := below_cell b2 q11))
      | fail
    go_wp2
    go_ret
    exact ⟨rfl, hB.trans (hBW.mono hB.size)⟩
end Go.Proofs.YtejlnodillnoaaaGreatDoor
