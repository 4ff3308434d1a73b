/-
  slices.Reverse of a row of ints.
-/
import Derived.Test.YtbcbgglhhfdbcabAL0
import Derived.Test.YtbcbgglhhfdbcabAN8
namespace Go.Proofs.Ytbcbgglhhfdbcab
open Go.RowKit
set_option linter.unusedVariables false
set_option linter.unusedSimpArgs false
/-- the first k and the last k changed about -/
def RevK (l : List Int) (k : Nat) (x : List Int) : Prop := x.length = l.length ∧ ∀ i, i < l.length → x.getD i 0 = if i < k ∨ l.length ≤ i + k then l.getD (l.length - 1 - i) 0 else l.getD i 0
theorem RevK.zero (l : List Int) : RevK l 0 l := ⟨rfl, fun i hi => by rw [if_neg (by omega)]⟩
theorem RevK.done {l x : List Int} {k : Nat} (h : RevK l k x) (hk : l.length ≤ 2 * k + 1) : x = l.reverse := by
  refine list_ext0 (by rw [h.1, List.length_reverse]) fun i hi => ?_
  rw [h.1] at hi
  rw [h.2 i hi]
  have e : l.reverse.getD i 0 = l.getD (l.length - 1 - i) 0 := by
    simp only [List.getD]
    rw [List.getElem?_reverse hi]
  rw [e]
  split
  · rfl
  · congr 1; omega
theorem RevK.step {l x : List Int} {k j : Nat} (h : RevK l k x) (hk : k < j) (hj : j + k + 1 = l.length) : RevK l (k + 1) (swp x k j) := by
  refine ⟨by rw [swp_length, h.1], fun i hi => ?_⟩
  have hx := h.1
  rw [swp_gd x (by omega) (by omega) (by omega)]
  by_cases e : i = j
  · subst e
    rw [if_pos rfl, h.2 k (by omega), if_neg (by omega), if_pos (by omega)]
    congr 1; omega
  · rw [if_neg e]
    by_cases e2 : i = k
    · subst e2
      rw [if_pos rfl, h.2 j (by omega), if_neg (by omega), if_pos (by omega)]
      congr 1; omega
    · rw [if_neg e2, h.2 i hi]
      by_cases e3 : i < k ∨ l.length ≤ i + k
      · rw [if_pos e3, if_pos (by omega)]
      · rw [if_neg e3, if_neg (by omega)]
set_option maxHeartbeats 2000000 in
set_option maxRecDepth 100000 in
theorem rev_is (ow : Nat → Nat) (t : Nat) (s : SlV) (l : List Int) (w : World) (h : RowAt w ow t 3 1 s l.length (iv l)) (hl9 : l.length ≤ 1048576) :
    Calls Try.prog 31 #[.slice s.at' l.length s.c] w fun e w' => (∃ v, e = .returned v) ∧ RowAt w' ow t 3 1 s l.length (iv l.reverse) ∧ App ow ow t w w' := by
  obtain ⟨n, hn⟩ : ∃ n, l.length = n := ⟨_, rfl⟩
  have HR := hide' h
  rw [hn] at hl9 ⊢
  replace hn := hide' hn
  clear h
  have e0 : IntKind.i64.wrap ((n : Int) - 1) = (n : Int) - 1 := by rw [IntKind.wrap_i64]; omega
  go_enter Try.func31, Try.ntmps31
  go_wp2_with fail
  go_loopw [2, 3] (fun vi vj wr => ∃ (k : Nat) (x : List Int), 2 * k ≤ n + 1 ∧ vi = .int .i64 (k : Int) ∧ vj = .int .i64 ((n : Int) - 1 - (k : Int)) ∧ RevK l k x ∧ RowAt wr ow t 3 1 s l.length (iv x) ∧ App ow ow t w wr) (fun vi _ _ => n - (intOf vi).toNat)
  case atStart => exact ⟨0, l, by omega, rfl, by first | rfl | (simp; done) | go_num, RevK.zero l, HR.out, App.refl _ _ _⟩
  case round =>
    clear HR e0
    obtain ⟨k, x, hk, rfl, rfl, hx, hR, hA⟩ := hrel
    have HX := hide' (And.intro hx (And.intro hR hA))
    clear hx hR hA
    by_cases hlt : 2 * k + 1 < n
    · obtain ⟨j, hj⟩ : ∃ j : Nat, j = n - 1 - k := ⟨_, rfl⟩
      have ej : (n : Int) - 1 - (k : Int) = (j : Int) := by omega
      rw [ej]
      have hjn : j < n := by omega
      have hkj : k < j := by omega
      have hjk : j + k + 1 = n := by omega
      clear hj
      obtain ⟨g, hg⟩ := HX.out.2.1.got (by rw [hn.out]; omega)
      have hat : s.at' = some ⟨g, 0, none⟩ := by unfold SlV.at'; rw [hg]; rfl
      rw [hat]
      have hxl : x.length = n := by rw [HX.out.1.1, hn.out]
      have ci : wr.cell? ⟨g, k, none⟩ = some (.int .i64 (x.getD k 0)) := by rw [HX.out.2.1.cell hg (by rw [hn.out]; omega)]; exact iv_at (by simp [List.getD, List.getElem?_eq_getElem (show k < x.length by omega)])
      have cj : wr.cell? ⟨g, j, none⟩ = some (.int .i64 (x.getD j 0)) := by rw [HX.out.2.1.cell hg (by rw [hn.out]; omega)]; exact iv_at (by simp [List.getD, List.getElem?_eq_getElem (show j < x.length by omega)])
      clear hat
      have HG := hide' hg
      clear hg
      obtain ⟨y1, hy1⟩ : ∃ y, x.getD k 0 = y := ⟨_, rfl⟩
      obtain ⟨y2, hy2⟩ : ∃ y, x.getD j 0 = y := ⟨_, rfl⟩
      rw [hy1] at ci
      rw [hy2] at cj
      have HSW := hide' (show swp x k j = (x.set k y2).set j y1 from by unfold swp; rw [hy1, hy2])
      clear hy1 hy2 hxl
      have i1 : (k : Int) < (j : Int) := by omega
      have i0 : (0 : Int) ≤ (k : Int) := by omega
      have j0 : (0 : Int) ≤ (j : Int) := by omega
      have i2 : (k : Int) < (n : Int) := by omega
      have j2 : (j : Int) < (n : Int) := by omega
      have hnn := hide' (show n ≤ 1048576 ∧ 2 * k + 1 < n ∧ j < n ∧ k < j ∧ j + k + 1 = n ∧ (n : Int) - 1 - (k : Int) = (j : Int) from ⟨hl9, hlt, hjn, hkj, hjk, ej⟩)
      go_wp2_with fail
      have bT : Below wr.heap.size wr wr := Below.refl _ _
      have bD : Below wr.heap.size wr wr.drew := (Below.refl _ _).drew
      replace bT := bT.trans (bD.mono bT.size)
      replace ci := below_cell bD ci
      replace cj := below_cell bD cj
      refine wp_region_held_drew (S := fun w' => True) (by kernel_rfl) trivial (fun hHeld => ?_)
      generalize wr.drew = w1 at bD ci cj bT hHeld ⊢
      clear bD
      refine take' 0 (v := ?_) rfl (by kernel_rfl) (by kernel_rfl) (by kernel_rfl) (fun _ _ _ h => h) (Or.inl ⟨by rfl, ?_⟩) (by assumption) ?_
      rotate_left
      · intro w9 hSw
        go_simp
        first | done | with_reducible rfl
      simp only [Act.put, List.setIfInBounds_toArray, List.set_cons_zero, List.set_cons_succ]
      refine take' 1 (v := ?_) rfl (by kernel_rfl) (by kernel_rfl) (by kernel_rfl) (fun _ _ _ h => h) (Or.inl ⟨by rfl, ?_⟩) (by assumption) ?_
      rotate_left
      · intro w9 hSw
        go_simp
        first | done | with_reducible rfl
      simp only [Act.put, List.setIfInBounds_toArray, List.set_cons_zero, List.set_cons_succ]
      refine take' 2 (v := ?_) rfl (by kernel_rfl) (by kernel_rfl) (by kernel_rfl) (fun _ _ _ h => h) (Or.inl ⟨by rfl, ?_⟩) (by assumption) ?_
      rotate_left
      · intro w9 hSw
        go_simp
        first | done | with_reducible rfl
      simp only [Act.put, List.setIfInBounds_toArray, List.set_cons_zero, List.set_cons_succ]
      refine take' 3 (v := ?_) rfl (by kernel_rfl) (by kernel_rfl) (by kernel_rfl) (fun _ _ _ h => h) (Or.inl ⟨by rfl, ?_⟩) (by assumption) ?_
      rotate_left
      · intro w9 hSw
        go_simp
        first | done | with_reducible rfl
      simp only [Act.put, List.setIfInBounds_toArray, List.set_cons_zero, List.set_cons_succ]
      refine take' 4 (v := ?_) rfl (by kernel_rfl) (by kernel_rfl) (by kernel_rfl) (fun _ _ _ h => h) (Or.inl ⟨by rfl, ?_⟩) (by assumption) ?_
      rotate_left
      · intro w9 hSw
        go_simp
        first | done | with_reducible rfl
      simp only [Act.put, List.setIfInBounds_toArray, List.set_cons_zero, List.set_cons_succ]
      refine take' 5 (v := ?_) rfl (by kernel_rfl) (by kernel_rfl) (by kernel_rfl) (fun _ _ _ h => h) (Or.inl ⟨by rfl, ?_⟩) (by assumption) ?_
      rotate_left
      · intro w9 hSw
        go_simp
        first | done | with_reducible rfl
      simp only [Act.put, List.setIfInBounds_toArray, List.set_cons_zero, List.set_cons_succ]
      refine take' 6 (v := ?_) rfl (by kernel_rfl) (by kernel_rfl) (by kernel_rfl) (fun _ _ _ h => h) (Or.inl ⟨by rfl, ?_⟩) (by assumption) ?_
      rotate_left
      · intro w9 hSw
        go_simp
        first | done | with_reducible rfl
      simp only [Act.put, List.setIfInBounds_toArray, List.set_cons_zero, List.set_cons_succ]
      refine take' 8 (v := ?_) rfl (by kernel_rfl) (by kernel_rfl) (by kernel_rfl) (fun _ _ _ h => h) (Or.inl ⟨by rfl, ?_⟩) (by assumption) ?_
      rotate_left
      · intro w9 hSw
        go_simp
        first | done | with_reducible rfl
      simp only [Act.put, List.setIfInBounds_toArray, List.set_cons_zero, List.set_cons_succ]
      refine take' 9 (v := ?_) rfl (by kernel_rfl) (by kernel_rfl) (by kernel_rfl) (fun _ _ _ h => h) (Or.inl ⟨by rfl, ?_⟩) (by assumption) ?_
      rotate_left
      · intro w9 hSw
        go_simp
        first | done | with_reducible rfl
      simp only [Act.put, List.setIfInBounds_toArray, List.set_cons_zero, List.set_cons_succ]
      refine take' 10 (v := ?_) rfl (by kernel_rfl) (by kernel_rfl) (by kernel_rfl) (fun _ _ _ h => h) (Or.inl ⟨by rfl, ?_⟩) (by assumption) ?_
      rotate_left
      · intro w9 hSw
        go_simp
        first | done | with_reducible rfl
      simp only [Act.put, List.setIfInBounds_toArray, List.set_cons_zero, List.set_cons_succ]
      refine wpAnyH_ready (rs := [7, 11]) (by kernel_rfl) (by simp) ?_
      refine consT rfl (fun KK hKK => ?_) ?_
      · skip
        go_simp
        refine hKK.out _ _ hHeld ?_
        clear hHeld
        intro hHeld
        clear hKK KK
        try simp only [Act.put, List.setIfInBounds_toArray, List.set_cons_zero, List.set_cons_succ]
        refine wpAnyH_ready (rs := [11]) (by kernel_rfl) (by simp) ?_
        refine cons' rfl (fun KK hKK => ?_)
        go_simp
        refine hKK.out _ _ hHeld ?_
        clear hHeld
        intro hHeld
        clear hKK KK
        try simp only [Act.put, List.setIfInBounds_toArray, List.set_cons_zero, List.set_cons_succ]
        refine take' 12 (v := ?_) rfl (by kernel_rfl) (by kernel_rfl) (by kernel_rfl) (fun _ _ _ h => h) (Or.inl ⟨by rfl, ?_⟩) (by assumption) ?_
        rotate_left
        · intro w9 hSw
          go_simp
          first | done | with_reducible rfl
        simp only [Act.put, List.setIfInBounds_toArray, List.set_cons_zero, List.set_cons_succ]
        refine wpAnyH_ready (rs := [13]) (by kernel_rfl) (by simp) ?_
        refine cons' rfl (fun KK hKK => ?_)
        have fz1 : ∀ o, w1.frozen? ⟨g, o, none⟩ = false := fun o => ((HX.out.2.1.belowR bT).row HG.out).frozen o
        go_simp
        refine hKK.out _ _ hHeld ?_
        clear hHeld
        intro hHeld
        clear hKK KK
        try simp only [Act.put, List.setIfInBounds_toArray, List.set_cons_zero, List.set_cons_succ]
        clear fz1
        refine take' 14 (v := ?_) rfl (by kernel_rfl) (by kernel_rfl) (by kernel_rfl) (fun _ _ _ h => h) (Or.inl ⟨by rfl, ?_⟩) (by assumption) ?_
        rotate_left
        · intro w9 hSw
          go_simp
          first | done | with_reducible rfl
        simp only [Act.put, List.setIfInBounds_toArray, List.set_cons_zero, List.set_cons_succ]
        refine wpAnyH_ready (rs := [15]) (by kernel_rfl) (by simp) ?_
        refine cons' rfl (fun KK hKK => ?_)
        have R2 := (HX.out.2.1.belowR bT).set HG.out (j := k) (by rw [hn.out]; omega) (.int .i64 y2)
        have fz2 : ∀ o, (w1.setCell ⟨g, k, none⟩ (.int .i64 y2)).frozen? ⟨g, o, none⟩ = false := fun o => (R2.row HG.out).frozen o
        have cj2 : (w1.setCell ⟨g, k, none⟩ (.int .i64 y2)).cell? ⟨g, j, none⟩ = some (.int .i64 y2) := by rw [cell_set_other (by omega)]; exact cj
        have R3 := R2.set HG.out (j := j) (by rw [hn.out]; omega) (.int .i64 y1)
        have A3 := ((HX.out.2.2.trans (App.of_below bT)).trans (App.set ow t _ g k (.int .i64 y2) ((HX.out.2.1.belowR bT).2 g HG.out) ((HX.out.2.1.belowR bT).nk HG.out (by decide)))).trans (App.set ow t _ g j (.int .i64 y1) ((HX.out.2.1.belowR bT).2 g HG.out) (R2.nk HG.out (by decide)))
        rw [iv_set, iv_set, ← HSW.out] at R3
        have HY := hide' (And.intro (HX.out.1.step hnn.out.2.2.2.1 (by rw [hn.out]; exact hnn.out.2.2.2.2.1)) (And.intro R3 A3))
        clear R2 R3 A3
        go_simp
        refine hKK.out _ _ hHeld ?_
        clear hHeld
        intro hHeld
        clear hKK KK
        try simp only [Act.put, List.setIfInBounds_toArray, List.set_cons_zero, List.set_cons_succ]
        clear fz2 cj2
        refine wpAnyH_done (by kernel_rfl) ?_ _
        clear hHeld ci cj bT
        go_wp2
        go_roundw
        case rel => exact ⟨k + 1, _, by omega, by go_num, by first | (congr 1; omega) | go_num | (simp; omega), HY.out.1, HY.out.2.1, HY.out.2.2⟩
        case measure => simp only [intOf]; omega
      refine consT rfl (fun KK hKK => ?_) ?_
      · skip
        go_simp
        refine hKK.out _ _ hHeld ?_
        clear hHeld
        intro hHeld
        clear hKK KK
        try simp only [Act.put, List.setIfInBounds_toArray, List.set_cons_zero, List.set_cons_succ]
        refine wpAnyH_ready (rs := [7]) (by kernel_rfl) (by simp) ?_
        refine cons' rfl (fun KK hKK => ?_)
        go_simp
        refine hKK.out _ _ hHeld ?_
        clear hHeld
        intro hHeld
        clear hKK KK
        try simp only [Act.put, List.setIfInBounds_toArray, List.set_cons_zero, List.set_cons_succ]
        refine take' 12 (v := ?_) rfl (by kernel_rfl) (by kernel_rfl) (by kernel_rfl) (fun _ _ _ h => h) (Or.inl ⟨by rfl, ?_⟩) (by assumption) ?_
        rotate_left
        · intro w9 hSw
          go_simp
          first | done | with_reducible rfl
        simp only [Act.put, List.setIfInBounds_toArray, List.set_cons_zero, List.set_cons_succ]
        refine wpAnyH_ready (rs := [13]) (by kernel_rfl) (by simp) ?_
        refine cons' rfl (fun KK hKK => ?_)
        have fz1 : ∀ o, w1.frozen? ⟨g, o, none⟩ = false := fun o => ((HX.out.2.1.belowR bT).row HG.out).frozen o
        go_simp
        refine hKK.out _ _ hHeld ?_
        clear hHeld
        intro hHeld
        clear hKK KK
        try simp only [Act.put, List.setIfInBounds_toArray, List.set_cons_zero, List.set_cons_succ]
        clear fz1
        refine take' 14 (v := ?_) rfl (by kernel_rfl) (by kernel_rfl) (by kernel_rfl) (fun _ _ _ h => h) (Or.inl ⟨by rfl, ?_⟩) (by assumption) ?_
        rotate_left
        · intro w9 hSw
          go_simp
          first | done | with_reducible rfl
        simp only [Act.put, List.setIfInBounds_toArray, List.set_cons_zero, List.set_cons_succ]
        refine wpAnyH_ready (rs := [15]) (by kernel_rfl) (by simp) ?_
        refine cons' rfl (fun KK hKK => ?_)
        have R2 := (HX.out.2.1.belowR bT).set HG.out (j := k) (by rw [hn.out]; omega) (.int .i64 y2)
        have fz2 : ∀ o, (w1.setCell ⟨g, k, none⟩ (.int .i64 y2)).frozen? ⟨g, o, none⟩ = false := fun o => (R2.row HG.out).frozen o
        have cj2 : (w1.setCell ⟨g, k, none⟩ (.int .i64 y2)).cell? ⟨g, j, none⟩ = some (.int .i64 y2) := by rw [cell_set_other (by omega)]; exact cj
        have R3 := R2.set HG.out (j := j) (by rw [hn.out]; omega) (.int .i64 y1)
        have A3 := ((HX.out.2.2.trans (App.of_below bT)).trans (App.set ow t _ g k (.int .i64 y2) ((HX.out.2.1.belowR bT).2 g HG.out) ((HX.out.2.1.belowR bT).nk HG.out (by decide)))).trans (App.set ow t _ g j (.int .i64 y1) ((HX.out.2.1.belowR bT).2 g HG.out) (R2.nk HG.out (by decide)))
        rw [iv_set, iv_set, ← HSW.out] at R3
        have HY := hide' (And.intro (HX.out.1.step hnn.out.2.2.2.1 (by rw [hn.out]; exact hnn.out.2.2.2.2.1)) (And.intro R3 A3))
        clear R2 R3 A3
        go_simp
        refine hKK.out _ _ hHeld ?_
        clear hHeld
        intro hHeld
        clear hKK KK
        try simp only [Act.put, List.setIfInBounds_toArray, List.set_cons_zero, List.set_cons_succ]
        clear fz2 cj2
        refine wpAnyH_done (by kernel_rfl) ?_ _
        clear hHeld ci cj bT
        go_wp2
        go_roundw
        case rel => exact ⟨k + 1, _, by omega, by go_num, by first | (congr 1; omega) | go_num | (simp; omega), HY.out.1, HY.out.2.1, HY.out.2.2⟩
        case measure => simp only [intOf]; omega
      exact AllReadyH.nil
    · have i1 : ¬ (k : Int) < (n : Int) - 1 - (k : Int) := by omega
      have e9 := HX.out.1.done (by rw [hn.out]; omega)
      have HZ := HX.out.2
      rw [e9] at HZ
      replace HZ := hide' HZ
      go_wp2
      first | (refine bodyPost_end (v := .tuple #[]) (by kernel_rfl) rfl ?_) | go_ret
      exact ⟨⟨_, rfl⟩, by first | exact HZ.out.1 | (rw [hn.out] at HZ; exact HZ.out.1) | (have h9 := HZ.out.1; rw [hn.out] at h9; exact h9), HZ.out.2⟩
end Go.Proofs.Ytbcbgglhhfdbcab
