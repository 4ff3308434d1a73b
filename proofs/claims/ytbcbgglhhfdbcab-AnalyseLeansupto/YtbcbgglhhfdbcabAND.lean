/-
  analyse: read, Check.
-/
import Derived.Test.YtbcbgglhhfdbcabANC
namespace Go.Proofs.Ytbcbgglhhfdbcab
open Go.RowKit
set_option linter.unusedVariables false
set_option linter.unusedSimpArgs false
/-- a trail that was read -/
def TrAt (w : World) (b : Nat) (va vm : Value) (M : List Mk) : Prop := ∃ base G N, TrR w base b G N va vm (plA M)
theorem TrAt.later {w w' : World} {b : Nat} {va vm : Value} {M : List Mk} (h : TrAt w b va vm M) (hb : Below w.heap.size w w') : TrAt w' b va vm M := by
  obtain ⟨base, G, N, h⟩ := h
  exact ⟨base, G, N, h.later hb⟩
theorem plA_nil : plA [] = fun _ => 0 := by
  funext a
  have h1 : ∀ x, plV [] x = -1 := fun x => rfl
  unfold plA
  rw [h1, h1]
  split <;> simp
theorem plA_bound (M : List Mk) (h : M.length ≤ 1048576) (a : Int) : -1048576 ≤ plA M a ∧ plA M a ≤ 1048576 := by
  have h1 := plV_le M a
  have h2 := plV_le M (-a)
  unfold plA
  split
  · omega
  · split
    · omega
    · split <;> omega
theorem tr_start {w1 w2 : World} {base G b : Nat} {va vm v1 v2 : Value} (h : NpA w1 base G v1 v2) (hb : Below w1.heap.size w1 w2) (hbb : b = w1.heap.size) (hbase : base ≤ w1.heap.size) (hc : w2.heap[b]? = some (.cells #[va, vm, v1, v2] 57 (0, 0))) : TrR w2 base b G 0 va vm (plA []) := by
  have c := fun o => cell_of_row w2 b o _ _ _ hc
  have c0 := c 0
  have c1 := c 1
  have c2 := c 2
  have c3 := c 3
  simp only [List.getElem?_toArray, List.getElem?_cons_zero, List.getElem?_cons_succ] at c0 c1 c2 c3
  have h2 := h.later hb
  refine ⟨c0, c1, ⟨⟨_, _, hc⟩, by omega, plA_zero _, plA_top _, fun a => by rw [plA_nil]; simp, ?_⟩, ⟨_, hc⟩⟩
  rcases h2 with ⟨g, e1, e2, h3, h4⟩ | ⟨m, e1, e2, h3, h4⟩
  · rw [e1] at c2
    rw [e2] at c3
    refine Or.inl ⟨g, List.replicate (G + 1) 0, c2, c3, h3, fun e => ?_, h4, by simp, fun a ha => ?_⟩
    · subst e
      rw [hc] at h4
      injection h4 with h4
      injection h4 with h4 h5
      cases h5
    · rw [plA_nil]
      simp only [List.getD_eq_getElem?_getD, List.getElem?_replicate]
      split <;> rfl
  · rw [e1] at c2
    rw [e2] at c3
    refine Or.inr ⟨m, c2, c3, h3, ?_⟩
    have e : ffn (plA []) = fun _ => none := by funext a; unfold ffn; rw [plA_nil]; rfl
    rw [e]
    exact h4
/-- what read tells -/
def RdA (w : World) (C : List (List Int)) (M : List Mk) (va vm : Value) (e : Ending) (w' : World) : Prop := Below w.heap.size w w' ∧ ((¬ Chk C M ∧ e = .returned (.tuple #[.pointer none, .int .i64 200])) ∨ (Chk C M ∧ ∃ b, e = .returned (.tuple #[.pointer (some ⟨b, 0, none⟩), .int .i64 0]) ∧ TrAt w' b va vm M))
set_option maxHeartbeats 8000000 in
set_option maxRecDepth 100000 in
theorem read_is (a : Option Addr) (ca : Nat) (C : List (List Int)) (f : Nat → Option Addr × Nat) (ma : Option Addr) (mc : Nat) (M : List Mk) (w : World) (hC : CsAt w a C f) (hM : MsAt w ma M) (hn9 : M.length ≤ 1048575) :
    Calls Try.prog 23 #[.slice a C.length ca, .slice ma M.length mc] w fun e w' => RdA w C M (.slice a C.length ca) (.slice ma M.length mc) e w' := by
  obtain ⟨TQ, hTQ⟩ : ∃ TQ, RdA w C M (.slice a C.length ca) (.slice ma M.length mc) = TQ := ⟨_, rfl⟩
  rw [hTQ]
  replace hTQ := hide' hTQ
  have GNP := hide' (newPlaces_is ma mc M w hM (by omega))
  have HM := hide' hM
  have HC := hide' hC
  clear hM hC
  obtain ⟨n, hn⟩ : ∃ n, M.length = n := ⟨_, rfl⟩
  obtain ⟨Cn, hCn⟩ : ∃ n, C.length = n := ⟨_, rfl⟩
  rw [hn] at hn9 GNP ⊢
  rw [hCn]
  replace hn := hide' hn
  replace hCn := hide' hCn
  have GN := hide' isNone_is
  go_enter Try.func23, Try.ntmps23
  go_wp2_with fail
  refine GNP.out.mono ?_
  rintro e w1 ⟨G, v1, v2, rfl, hNp, hG, hG9, b1⟩
  clear GNP
  have bA := below_alloc (w := w1) (.cells #[.slice a Cn ca, .slice ma n mc, v1, v2] 57)
  have nA := heap_alloc_new w1 (.cells #[.slice a Cn ca, .slice ma n mc, v1, v2] 57)
  obtain ⟨wA, hwA⟩ : ∃ wA, w1.alloc (.cells #[.slice a Cn ca, .slice ma n mc, v1, v2] 57) = wA := ⟨_, rfl⟩
  rw [hwA] at bA nA
  have HT0 := hide' (tr_start hNp bA rfl b1.size nA)
  have HG := hide' hG
  have BA := hide' (b1.trans (bA.mono b1.size))
  obtain ⟨b, hb⟩ : ∃ b, w1.heap.size = b := ⟨_, rfl⟩
  have hbw : w.heap.size ≤ b := by have := b1.size; omega
  rw [hb] at HT0
  clear bA nA hNp hG b1
  go_wp2_with fail
  try rw [hwA]
  try rw [hb]
  clear hwA hb
  go_loopw [7, 18] (fun vl vi wr => ∃ (k : Nat), k ≤ n ∧ vi = .int .i64 k ∧ vl = .int .i64 (ahd M k) ∧ ChkK C M k ∧ TrR wr w.heap.size b G k (.slice a Cn ca) (.slice ma n mc) (plA (M.take k)) ∧ Below w.heap.size w wr) (fun _ vi _ => n - (intOf vi).toNat)
  case atStart => exact ⟨0, Nat.zero_le _, rfl, rfl, ChkK.zero _ _, by rw [List.take_zero]; exact HT0.out, BA.out⟩
  case round =>
    obtain ⟨k, hk, rfl, rfl, hb9, hT, hB⟩ := hrel
    have HB := hide' hb9
    clear hb9
    have hlv := HB.out.lvl (Nat.le_refl k)
    have hd := hide' (HB.out.dst (by rw [hn.out]; exact hk))
    have hlv2 : 0 ≤ ahd M k ∧ ahd M k ≤ 1048576 := by omega
    clear hlv
    by_cases hlt : k < n
    · have i1 : (k : Int) < (n : Int) := by omega
      have i0 : (0 : Int) ≤ (k : Int) := by omega
      obtain ⟨bq, off, rfl, ⟨ck, ck1, ck2⟩, ho⟩ := HM.out.el hn.out hlt
      replace ck := below_at hB (World.block_lt_of_cell? w _ ck) ck
      replace ck1 := below_at hB (World.block_lt_of_cell? w _ ck1) ck1
      replace ck2 := below_at hB (World.block_lt_of_cell? w _ ck2) ck2
      have HST := hide' (take_snoc M default hn.out hlt)
      have HGM := hide' (HG.out (M.getD k default) (getD_mem (by rw [hn.out]; exact hlt)))
      unfold okM i64 at ho
      have htk : (M.take k).length = k := by rw [List.length_take, hn.out]; omega
      have hah : ahd M (k + 1) = (M.getD k default).v := by unfold ahd; rw [if_neg (by omega), Nat.add_sub_cancel]
      have hOK := fun a b c d => OkAt.mk (C := C) (M := M) (i := k) a b c d
      have hOK2 : OkAt C M k → _ := fun h => And.intro h.lit (And.intro h.new (And.intro h.neg h.sup))
      have hsup := Sup_iff C M k
      have hsn := plA_snoc (M := M.take k) (m := M.getD k default)
      rw [← HST.out, htk] at hsn
      obtain ⟨mk, hmk⟩ : ∃ m, M.getD k default = m := ⟨_, rfl⟩
      rw [hmk] at ck ck1 ck2 ho hah hOK hOK2 hsup hsn HGM
      have HMK := hide' hmk
      clear hmk
      obtain ⟨y, y1, y2⟩ := mk
      simp only at ck ck1 ck2 ho hah hOK hOK2 hsup hsn HGM
      obtain ⟨lvl, hlvl⟩ : ∃ l, ahd M k = l := ⟨_, rfl⟩
      rw [hlvl] at hlv2 hsup
      rw [hlvl]
      clear hlvl
      have HFol := hide' (fun wq (hq : TrR wq w.heap.size b G k (.slice a Cn ca) (.slice (some ⟨bq, off, none⟩) n mc) (plA (M.take k))) (hbq : Below w.heap.size w wq) (z : Bool) (hz : z = true ↔ Sup C M k) => follows_is w.heap.size b G k a ca C f (.slice (some ⟨bq, off, none⟩) n mc) (M.take k) y y1 y2 lvl ho.2.2 hlv2 wq (by rw [hCn.out]; exact hq) hd.out (HC.out.later hbq) z (by rw [hz, hsup]))
      have HOK := hide' (And.intro hOK (And.intro hOK2 (And.intro hsn hah)))
      have HY := hide' ho
      have ho1 := ho.1.1
      have ho2 := ho.1.2
      have lv1 := hlv2.1
      have lv2 := hlv2.2
      clear hOK hOK2 hsn hah hsup ho htk hlv2
      have bN := below_alloc (w := wr) (.cells #[.int .i64 y, .int .i64 y1, .int .i64 y2] 46)
      have nN := heap_alloc_new wr (.cells #[.int .i64 y, .int .i64 y1, .int .i64 y2] 46)
      obtain ⟨wB, hwB⟩ : ∃ wB, wr.alloc (.cells #[.int .i64 y, .int .i64 y1, .int .i64 y2] 46) = wB := ⟨_, rfl⟩
      rw [hwB] at bN nN
      obtain ⟨q9, hq9⟩ : ∃ q, wr.heap.size = q := ⟨_, rfl⟩
      have hq8 : w.heap.size ≤ q9 := by have := hB.size; omega
      have hq7 : b < q9 := by have := hT.pl.row.lt; omega
      rw [hq9] at nN
      have s0 := cell_of_row wB q9 0 _ _ _ nN
      have s1 := cell_of_row wB q9 1 _ _ _ nN
      have s2 := cell_of_row wB q9 2 _ _ _ nN
      simp only [List.getElem?_toArray, List.getElem?_cons_zero, List.getElem?_cons_succ] at s0 s1 s2
      have HN9 := hide' nN
      clear nN
      have hT2 := hT.later bN
      have hB2 := hB.trans (bN.mono hB.size)
      clear hT hB bN
      have HT := hide' hT2
      have HBB := hide' hB2
      clear hT2 hB2
      have GN1 := hide' (fun w => GN.out y w)
      cases eL : isLit y
      · skip
        have HF := hide' (show ¬ Chk C M from ChkK.not (k := k) (by rw [hn.out]; exact hlt) (fun h => by have h9 := HOK.out.2.1 h; rw [eL] at h9; cases h9.1))
        clear HB
        have GN1 := hide' (fun w => by have h9 := GN1.out w; rw [eL] at h9; exact h9)
        clear eL
        go_wp2_with fail
        try rw [hwB]
        try rw [hq9]
        go_quiet ((go_at_call 58; exact Calls.quiet_of_same (GN1.out _)))
        go_wp2
        first | (rw [← hTQ.out]; exact ⟨below_drewN HBB.out, Or.inl ⟨HF.out, rfl⟩⟩) | (refine bodyPost_ret (v := .tuple #[.pointer none, .int .i64 200]) (by rw [results_tt rfl]; go_simp) rfl ?_; rw [← hTQ.out]; exact ⟨below_drewN HBB.out, Or.inl ⟨HF.out, rfl⟩⟩)
      · have hyl := isLit_iff.1 eL
        have GN1 := hide' (fun w => by have h9 := GN1.out w; rw [eL] at h9; exact h9)
        replace eL := hide' eL
        have hlo : -9223372036854775808 < y := by omega
        have GO := hide' (fun wq (hq : TrR wq w.heap.size b G k (.slice a Cn ca) (.slice (some ⟨bq, off, none⟩) n mc) (plA (M.take k))) => of_is w.heap.size b G k (plA (M.take k)) y hlo ho2 wq hq.pl)
        have hof : ofF (plA (M.take k)) y = 0 ↔ (plV (M.take k) y < 0 ∧ plV (M.take k) (-y) < 0) := by
          constructor
          · intro e9; constructor
            · exact Int.not_le.1 fun q => by have := of_pos hd.out hlo ho2 q; omega
            · exact Int.not_le.1 fun q => by have := of_neg hd.out hlo ho2 q; omega
          · rintro ⟨q1, q2⟩; exact of_none q1 q2
        obtain ⟨o, hoe⟩ : ∃ o, ofF (plA (M.take k)) y = o := ⟨_, rfl⟩
        rw [hoe] at hof
        have GO := hide' (fun wq hq => by have h9 := GO.out wq hq; rw [hoe] at h9; exact h9)
        clear hoe
        replace hyl := hide' hyl
        by_cases ho0 : o = 0
        rotate_left
        · skip
          have HF := hide' (show ¬ Chk C M from ChkK.not (k := k) (by rw [hn.out]; exact hlt) (fun h => by have h9 := HOK.out.2.1 h; exact ho0 (hof.2 ⟨h9.2.1, h9.2.2.1⟩)))
          clear HB
          have e8 : (o != 0) = true := by simp [ho0]
          replace ho0 := hide' ho0
          clear hof
          go_wp2_with fail
          try rw [hwB]
          try rw [hq9]
          go_quiet (first | (go_at_call 58; exact Calls.quiet_of_same (GN1.out _)) | (go_at_call 24; exact Calls.quiet_of_same (GO.out _ (HT.out.later (below_drewN (Below.refl _ _))))))
          go_wp2
          first | (rw [← hTQ.out]; exact ⟨below_drewN HBB.out, Or.inl ⟨HF.out, rfl⟩⟩) | (refine bodyPost_ret (v := .tuple #[.pointer none, .int .i64 200]) (by rw [results_tt rfl]; go_simp) rfl ?_; rw [← hTQ.out]; exact ⟨below_drewN HBB.out, Or.inl ⟨HF.out, rfl⟩⟩)
        · have hnn := hof.1 ho0
          subst ho0
          replace hnn := hide' hnn
          clear hof
          by_cases hS : Sup C M k
          rotate_left
          · skip
            have HF := hide' (show ¬ Chk C M from ChkK.not (k := k) (by rw [hn.out]; exact hlt) (fun h => by have h9 := HOK.out.2.1 h; exact hS h9.2.2.2))
            clear HB
            replace hS := hide' hS
            go_wp2_with fail
            try rw [hwB]
            try rw [hq9]
            have hT := HT.out
            have hB := HBB.out
            have bT : Below wB.heap.size wB wB := Below.refl _ _
            have bD : Below wB.heap.size wB wB.drew := (Below.refl _ _).drew
            have ks0 := below_cell bD s0
            have ks1 := below_cell bD s1
            have ks2 := below_cell bD s2
            replace hB := hB.trans (bD.mono hB.size)
            replace bT := bT.trans (bD.mono bT.size)
            replace hT := hT.later bD
            refine wp_region_held_drew (S := fun w' => w'.cell? ⟨q9, 0, none⟩ = some (.int .i64 y) ∧ w'.cell? ⟨q9, 1, none⟩ = some (.int .i64 y1) ∧ w'.cell? ⟨q9, 2, none⟩ = some (.int .i64 y2)) (by kernel_rfl) ⟨ks0, ks1, ks2⟩ (fun hHeld => ?_)
            clear ks0 ks1 ks2
            generalize wB.drew = w3 at bD hT hB bT hHeld ⊢
            clear bD
            refine take' 0 (v := ?_) rfl (by kernel_rfl) (by kernel_rfl) (by kernel_rfl) (fun _ _ _ h => h) (Or.inl ⟨by rfl, ?_⟩) (by assumption) ?_
            rotate_left
            · intro w9 hSw
              go_simp
              first | done | with_reducible rfl
            simp only [Act.put, List.setIfInBounds_toArray, List.set_cons_zero, List.set_cons_succ]
            refine take' 1 (v := ?_) rfl (by kernel_rfl) (by kernel_rfl) (by kernel_rfl) (fun _ _ _ h => h) (Or.inl ⟨by rfl, ?_⟩) (by assumption) ?_
            rotate_left
            · intro w9 hSw
              go_simp
              first | done | with_reducible rfl
            simp only [Act.put, List.setIfInBounds_toArray, List.set_cons_zero, List.set_cons_succ]
            refine wpAnyH_ready (rs := [2]) (by kernel_rfl) (by simp) ?_
            refine cons' rfl (fun KK hKK => ?_)
            go_simp
            refine (GN1.out _).mono ?_
            rintro e w9 ⟨rfl, hw9⟩
            rw [hw9]
            clear hw9 w9
            go_wp2_with fail
            refine hKK.out _ _ hHeld ?_
            clear hHeld
            intro hHeld
            clear hKK KK
            try simp only [Act.put, List.setIfInBounds_toArray, List.set_cons_zero, List.set_cons_succ]
            refine take' 3 (v := ?_) rfl (by kernel_rfl) (by kernel_rfl) (by kernel_rfl) (fun _ _ _ h => h) (Or.inl ⟨by rfl, ?_⟩) (by assumption) ?_
            rotate_left
            · intro w9 hSw
              go_simp
              first | done | with_reducible rfl
            simp only [Act.put, List.setIfInBounds_toArray, List.set_cons_zero, List.set_cons_succ]
            refine take' 4 (v := ?_) rfl (by kernel_rfl) (by kernel_rfl) (by kernel_rfl) (fun _ _ _ h => h) (Or.inl ⟨by rfl, ?_⟩) (by assumption) ?_
            rotate_left
            · intro w9 hSw
              go_simp
              first | done | with_reducible rfl
            simp only [Act.put, List.setIfInBounds_toArray, List.set_cons_zero, List.set_cons_succ]
            refine take' 5 (v := ?_) rfl (by kernel_rfl) (by kernel_rfl) (by kernel_rfl) (fun _ _ _ h => h) (Or.inl ⟨by rfl, ?_⟩) (by assumption) ?_
            rotate_left
            · intro w9 hSw
              go_simp
              first | done | with_reducible rfl
            simp only [Act.put, List.setIfInBounds_toArray, List.set_cons_zero, List.set_cons_succ]
            refine take' 6 (v := ?_) rfl (by kernel_rfl) (by kernel_rfl) (by kernel_rfl) (fun _ _ _ h => h) (Or.inl ⟨by rfl, ?_⟩) (by assumption) ?_
            rotate_left
            · intro w9 hSw
              go_simp
              first | done | with_reducible rfl
            simp only [Act.put, List.setIfInBounds_toArray, List.set_cons_zero, List.set_cons_succ]
            refine take' 7 (v := ?_) rfl (by kernel_rfl) (by kernel_rfl) (by kernel_rfl) (fun _ _ _ h => h) (Or.inl ⟨by rfl, ?_⟩) (by assumption) ?_
            rotate_left
            · intro w9 hSw
              go_simp
              first | done | with_reducible rfl
            simp only [Act.put, List.setIfInBounds_toArray, List.set_cons_zero, List.set_cons_succ]
            refine take' 8 (v := ?_) rfl (by kernel_rfl) (by kernel_rfl) (by kernel_rfl) (fun _ _ _ h => h) (Or.inl ⟨by rfl, ?_⟩) (by assumption) ?_
            rotate_left
            · intro w9 hSw
              go_simp
              first | done | with_reducible rfl
            simp only [Act.put, List.setIfInBounds_toArray, List.set_cons_zero, List.set_cons_succ]
            refine wpAnyH_ready (rs := [9]) (by kernel_rfl) (by simp) ?_
            refine cons' rfl (fun KK hKK => ?_)
            go_simp
            refine (GO.out _ hT).mono ?_
            rintro e w9 ⟨rfl, hw9⟩
            rw [hw9]
            clear hw9 w9
            go_wp2_with fail
            refine hKK.out _ _ hHeld ?_
            clear hHeld
            intro hHeld
            clear hKK KK
            try simp only [Act.put, List.setIfInBounds_toArray, List.set_cons_zero, List.set_cons_succ]
            refine take' 10 (v := ?_) rfl (by kernel_rfl) (by kernel_rfl) (by kernel_rfl) (fun _ _ _ h => h) (Or.inl ⟨by rfl, ?_⟩) (by assumption) ?_
            rotate_left
            · intro w9 hSw
              go_simp
              first | done | with_reducible rfl
            simp only [Act.put, List.setIfInBounds_toArray, List.set_cons_zero, List.set_cons_succ]
            refine take' 11 (v := ?_) rfl (by kernel_rfl) (by kernel_rfl) (by kernel_rfl) (fun _ _ _ h => h) (Or.inl ⟨by rfl, ?_⟩) (by assumption) ?_
            rotate_left
            · intro w9 hSw
              go_simp
              first | done | with_reducible rfl
            simp only [Act.put, List.setIfInBounds_toArray, List.set_cons_zero, List.set_cons_succ]
            refine take' 12 (v := ?_) rfl (by kernel_rfl) (by kernel_rfl) (by kernel_rfl) (fun _ _ _ h => h) (Or.inl ⟨by rfl, ?_⟩) (by assumption) ?_
            rotate_left
            · intro w9 hSw
              go_simp
              first | done | with_reducible rfl
            simp only [Act.put, List.setIfInBounds_toArray, List.set_cons_zero, List.set_cons_succ]
            refine take' 13 (v := ?_) rfl (by kernel_rfl) (by kernel_rfl) (by kernel_rfl) (fun _ _ _ h => h) (Or.inl ⟨by rfl, ?_⟩) (by assumption) ?_
            rotate_left
            · intro w9 hSw
              go_simp
              first | done | with_reducible rfl
            simp only [Act.put, List.setIfInBounds_toArray, List.set_cons_zero, List.set_cons_succ]
            refine take' 14 (v := ?_) rfl (by kernel_rfl) (by kernel_rfl) (by kernel_rfl) (fun _ _ _ h => h) (Or.inl ⟨by rfl, ?_⟩) (by assumption) ?_
            rotate_left
            · intro w9 hSw
              go_simp
              first | done | with_reducible rfl
            simp only [Act.put, List.setIfInBounds_toArray, List.set_cons_zero, List.set_cons_succ]
            refine take' 15 (v := ?_) rfl (by kernel_rfl) (by kernel_rfl) (by kernel_rfl) (fun _ _ _ h => h) (Or.inl ⟨by rfl, ?_⟩) (by assumption) ?_
            rotate_left
            · intro w9 hSw
              go_simp
              first | done | with_reducible rfl
            simp only [Act.put, List.setIfInBounds_toArray, List.set_cons_zero, List.set_cons_succ]
            refine wpAnyH_ready (rs := [16]) (by kernel_rfl) (by simp) ?_
            refine cons' rfl (fun KK hKK => ?_)
            go_simp
            refine (HFol.out _ hT hB false (by simp [hS.out])).mono ?_
            rintro e w4 ⟨rfl, b4⟩
            replace hB := hB.trans (b4.mono hB.size)
            replace bT := bT.trans (b4.mono bT.size)
            replace hT := hT.later b4
            replace hHeld := (⟨below_cell b4 hHeld.1, below_cell b4 hHeld.2.1, below_cell b4 hHeld.2.2⟩ : _ ∧ _ ∧ _)
            clear b4
            go_wp2_with fail
            refine hKK.out _ _ hHeld ?_
            clear hHeld
            intro hHeld
            clear hKK KK
            try simp only [Act.put, List.setIfInBounds_toArray, List.set_cons_zero, List.set_cons_succ]
            refine take' 17 (v := ?_) rfl (by kernel_rfl) (by kernel_rfl) (by kernel_rfl) (fun _ _ _ h => h) (Or.inl ⟨by rfl, ?_⟩) (by assumption) ?_
            rotate_left
            · intro w9 hSw
              go_simp
              first | done | with_reducible rfl
            simp only [Act.put, List.setIfInBounds_toArray, List.set_cons_zero, List.set_cons_succ]
            refine take' 18 (v := ?_) rfl (by kernel_rfl) (by kernel_rfl) (by kernel_rfl) (fun _ _ _ h => h) (Or.inl ⟨by rfl, ?_⟩) (by assumption) ?_
            rotate_left
            · intro w9 hSw
              go_simp
              first | done | with_reducible rfl
            simp only [Act.put, List.setIfInBounds_toArray, List.set_cons_zero, List.set_cons_succ]
            refine wpAnyH_done (by kernel_rfl) ?_ _
            clear hHeld
            go_wp2
            first | (rw [← hTQ.out]; exact ⟨hB, Or.inl ⟨HF.out, rfl⟩⟩) | (refine bodyPost_ret (v := .tuple #[.pointer none, .int .i64 200]) (by rw [results_tt rfl]; go_simp) rfl ?_; rw [← hTQ.out]; exact ⟨hB, Or.inl ⟨HF.out, rfl⟩⟩)
          · have HN := hide' (HB.out.succ (HOK.out.1 eL.out hnn.out.1 hnn.out.2 hS))
            replace hS := hide' hS
            clear HB
            go_wp2_with fail
            try rw [hwB]
            try rw [hq9]
            have hT := HT.out
            have hB := HBB.out
            have bT : Below wB.heap.size wB wB := Below.refl _ _
            have bD : Below wB.heap.size wB wB.drew := (Below.refl _ _).drew
            have ks0 := below_cell bD s0
            have ks1 := below_cell bD s1
            have ks2 := below_cell bD s2
            replace hB := hB.trans (bD.mono hB.size)
            replace bT := bT.trans (bD.mono bT.size)
            replace hT := hT.later bD
            refine wp_region_held_drew (S := fun w' => w'.cell? ⟨q9, 0, none⟩ = some (.int .i64 y) ∧ w'.cell? ⟨q9, 1, none⟩ = some (.int .i64 y1) ∧ w'.cell? ⟨q9, 2, none⟩ = some (.int .i64 y2)) (by kernel_rfl) ⟨ks0, ks1, ks2⟩ (fun hHeld => ?_)
            clear ks0 ks1 ks2
            generalize wB.drew = w3 at bD hT hB bT hHeld ⊢
            clear bD
            refine take' 0 (v := ?_) rfl (by kernel_rfl) (by kernel_rfl) (by kernel_rfl) (fun _ _ _ h => h) (Or.inl ⟨by rfl, ?_⟩) (by assumption) ?_
            rotate_left
            · intro w9 hSw
              go_simp
              first | done | with_reducible rfl
            simp only [Act.put, List.setIfInBounds_toArray, List.set_cons_zero, List.set_cons_succ]
            refine take' 1 (v := ?_) rfl (by kernel_rfl) (by kernel_rfl) (by kernel_rfl) (fun _ _ _ h => h) (Or.inl ⟨by rfl, ?_⟩) (by assumption) ?_
            rotate_left
            · intro w9 hSw
              go_simp
              first | done | with_reducible rfl
            simp only [Act.put, List.setIfInBounds_toArray, List.set_cons_zero, List.set_cons_succ]
            refine wpAnyH_ready (rs := [2]) (by kernel_rfl) (by simp) ?_
            refine cons' rfl (fun KK hKK => ?_)
            go_simp
            refine (GN1.out _).mono ?_
            rintro e w9 ⟨rfl, hw9⟩
            rw [hw9]
            clear hw9 w9
            go_wp2_with fail
            refine hKK.out _ _ hHeld ?_
            clear hHeld
            intro hHeld
            clear hKK KK
            try simp only [Act.put, List.setIfInBounds_toArray, List.set_cons_zero, List.set_cons_succ]
            refine take' 3 (v := ?_) rfl (by kernel_rfl) (by kernel_rfl) (by kernel_rfl) (fun _ _ _ h => h) (Or.inl ⟨by rfl, ?_⟩) (by assumption) ?_
            rotate_left
            · intro w9 hSw
              go_simp
              first | done | with_reducible rfl
            simp only [Act.put, List.setIfInBounds_toArray, List.set_cons_zero, List.set_cons_succ]
            refine take' 4 (v := ?_) rfl (by kernel_rfl) (by kernel_rfl) (by kernel_rfl) (fun _ _ _ h => h) (Or.inl ⟨by rfl, ?_⟩) (by assumption) ?_
            rotate_left
            · intro w9 hSw
              go_simp
              first | done | with_reducible rfl
            simp only [Act.put, List.setIfInBounds_toArray, List.set_cons_zero, List.set_cons_succ]
            refine take' 5 (v := ?_) rfl (by kernel_rfl) (by kernel_rfl) (by kernel_rfl) (fun _ _ _ h => h) (Or.inl ⟨by rfl, ?_⟩) (by assumption) ?_
            rotate_left
            · intro w9 hSw
              go_simp
              first | done | with_reducible rfl
            simp only [Act.put, List.setIfInBounds_toArray, List.set_cons_zero, List.set_cons_succ]
            refine take' 6 (v := ?_) rfl (by kernel_rfl) (by kernel_rfl) (by kernel_rfl) (fun _ _ _ h => h) (Or.inl ⟨by rfl, ?_⟩) (by assumption) ?_
            rotate_left
            · intro w9 hSw
              go_simp
              first | done | with_reducible rfl
            simp only [Act.put, List.setIfInBounds_toArray, List.set_cons_zero, List.set_cons_succ]
            refine take' 7 (v := ?_) rfl (by kernel_rfl) (by kernel_rfl) (by kernel_rfl) (fun _ _ _ h => h) (Or.inl ⟨by rfl, ?_⟩) (by assumption) ?_
            rotate_left
            · intro w9 hSw
              go_simp
              first | done | with_reducible rfl
            simp only [Act.put, List.setIfInBounds_toArray, List.set_cons_zero, List.set_cons_succ]
            refine take' 8 (v := ?_) rfl (by kernel_rfl) (by kernel_rfl) (by kernel_rfl) (fun _ _ _ h => h) (Or.inl ⟨by rfl, ?_⟩) (by assumption) ?_
            rotate_left
            · intro w9 hSw
              go_simp
              first | done | with_reducible rfl
            simp only [Act.put, List.setIfInBounds_toArray, List.set_cons_zero, List.set_cons_succ]
            refine wpAnyH_ready (rs := [9]) (by kernel_rfl) (by simp) ?_
            refine cons' rfl (fun KK hKK => ?_)
            go_simp
            refine (GO.out _ hT).mono ?_
            rintro e w9 ⟨rfl, hw9⟩
            rw [hw9]
            clear hw9 w9
            go_wp2_with fail
            refine hKK.out _ _ hHeld ?_
            clear hHeld
            intro hHeld
            clear hKK KK
            try simp only [Act.put, List.setIfInBounds_toArray, List.set_cons_zero, List.set_cons_succ]
            refine take' 10 (v := ?_) rfl (by kernel_rfl) (by kernel_rfl) (by kernel_rfl) (fun _ _ _ h => h) (Or.inl ⟨by rfl, ?_⟩) (by assumption) ?_
            rotate_left
            · intro w9 hSw
              go_simp
              first | done | with_reducible rfl
            simp only [Act.put, List.setIfInBounds_toArray, List.set_cons_zero, List.set_cons_succ]
            refine take' 11 (v := ?_) rfl (by kernel_rfl) (by kernel_rfl) (by kernel_rfl) (fun _ _ _ h => h) (Or.inl ⟨by rfl, ?_⟩) (by assumption) ?_
            rotate_left
            · intro w9 hSw
              go_simp
              first | done | with_reducible rfl
            simp only [Act.put, List.setIfInBounds_toArray, List.set_cons_zero, List.set_cons_succ]
            refine take' 12 (v := ?_) rfl (by kernel_rfl) (by kernel_rfl) (by kernel_rfl) (fun _ _ _ h => h) (Or.inl ⟨by rfl, ?_⟩) (by assumption) ?_
            rotate_left
            · intro w9 hSw
              go_simp
              first | done | with_reducible rfl
            simp only [Act.put, List.setIfInBounds_toArray, List.set_cons_zero, List.set_cons_succ]
            refine take' 13 (v := ?_) rfl (by kernel_rfl) (by kernel_rfl) (by kernel_rfl) (fun _ _ _ h => h) (Or.inl ⟨by rfl, ?_⟩) (by assumption) ?_
            rotate_left
            · intro w9 hSw
              go_simp
              first | done | with_reducible rfl
            simp only [Act.put, List.setIfInBounds_toArray, List.set_cons_zero, List.set_cons_succ]
            refine take' 14 (v := ?_) rfl (by kernel_rfl) (by kernel_rfl) (by kernel_rfl) (fun _ _ _ h => h) (Or.inl ⟨by rfl, ?_⟩) (by assumption) ?_
            rotate_left
            · intro w9 hSw
              go_simp
              first | done | with_reducible rfl
            simp only [Act.put, List.setIfInBounds_toArray, List.set_cons_zero, List.set_cons_succ]
            refine take' 15 (v := ?_) rfl (by kernel_rfl) (by kernel_rfl) (by kernel_rfl) (fun _ _ _ h => h) (Or.inl ⟨by rfl, ?_⟩) (by assumption) ?_
            rotate_left
            · intro w9 hSw
              go_simp
              first | done | with_reducible rfl
            simp only [Act.put, List.setIfInBounds_toArray, List.set_cons_zero, List.set_cons_succ]
            refine wpAnyH_ready (rs := [16]) (by kernel_rfl) (by simp) ?_
            refine cons' rfl (fun KK hKK => ?_)
            go_simp
            refine (HFol.out _ hT hB true (by simp [hS.out])).mono ?_
            rintro e w4 ⟨rfl, b4⟩
            replace hB := hB.trans (b4.mono hB.size)
            replace bT := bT.trans (b4.mono bT.size)
            replace hT := hT.later b4
            replace hHeld := (⟨below_cell b4 hHeld.1, below_cell b4 hHeld.2.1, below_cell b4 hHeld.2.2⟩ : _ ∧ _ ∧ _)
            clear b4
            go_wp2_with fail
            refine hKK.out _ _ hHeld ?_
            clear hHeld
            intro hHeld
            clear hKK KK
            try simp only [Act.put, List.setIfInBounds_toArray, List.set_cons_zero, List.set_cons_succ]
            refine take' 17 (v := ?_) rfl (by kernel_rfl) (by kernel_rfl) (by kernel_rfl) (fun _ _ _ h => h) (Or.inl ⟨by rfl, ?_⟩) (by assumption) ?_
            rotate_left
            · intro w9 hSw
              go_simp
              first | done | with_reducible rfl
            simp only [Act.put, List.setIfInBounds_toArray, List.set_cons_zero, List.set_cons_succ]
            refine take' 18 (v := ?_) rfl (by kernel_rfl) (by kernel_rfl) (by kernel_rfl) (fun _ _ _ h => h) (Or.inl ⟨by rfl, ?_⟩) (by assumption) ?_
            rotate_left
            · intro w9 hSw
              go_simp
              first | done | with_reducible rfl
            simp only [Act.put, List.setIfInBounds_toArray, List.set_cons_zero, List.set_cons_succ]
            refine wpAnyH_done (by kernel_rfl) ?_ _
            obtain ⟨s0, s1, s2⟩ := hHeld
            have hatm : atm y ≤ (G : Int) := HGM.out eL.out
            have hk9 : k < 4611686018427387904 := by omega
            have hk8 : k + 1 ≤ 1048576 := by omega
            have hGI : (G : Int) ≤ 9223372036854775807 := by omega
            have hy0 : y ≠ 0 := hyl.out.1
            have GPU0 := hide' (fun wq (hq : PlR wq w.heap.size b G k (plA (M.take k))) => pput_is w.heap.size b G k (plA (M.take k)) y hlo ho2 hy0 hatm hGI (k + 1) hk8 (Nat.succ_pos k) hk9 wq hq)
            have GPU := hide' (show ∀ wq, PlR wq w.heap.size b G k (plA (M.take k)) → ∀ z : Int, z = ((k + 1 : Nat) : Int) → Calls Try.prog 60 #[.pointer (some ⟨b, 2, none⟩), .int .i64 y, .int .i64 z] wq fun e w' => (∃ v, e = .returned v) ∧ PlR w' w.heap.size b G (k + 1) (pfn (plA (M.take k)) y (k + 1)) ∧ Below w.heap.size wq w' ∧ ∀ (y : Nat) (cs : Array Value) (t : TypeId), wq.heap[y]? = some (Obj.cells cs t (0, 0)) → t ≠ 3 → w'.heap[y]? = wq.heap[y]? from fun wq hq z hz => by subst hz; exact GPU0.out wq hq)
            clear GPU0 hk9 hk8 hGI hy0
            have hkN : k + 1 ≤ n := hlt
            replace hkN := hide' hkN
            have hme : n - (k + 1) < n - k := by omega
            replace hme := hide' hme
            have hzk : ∀ z : Int, z = (k : Int) + 1 → z = ((k + 1 : Nat) : Int) := fun z h => by omega
            replace hzk := hide' hzk
            have hwk : IntKind.i64.wrap ((k : Int) + 1) = (k : Int) + 1 := by rw [IntKind.wrap_i64]; omega
            have HBQ := hide' (And.intro hB bT)
            have HTQ2 := hide' hT
            replace hnn := hide' hnn
            clear hB bT hT
            go_wp2_with fail
            have hT := HTQ2.out
            have hB := HBQ.out.1
            have bT := HBQ.out.2
            have bD : Below w4.heap.size w4 w4.drew := (Below.refl _ _).drew
            have ks0 := below_cell bD s0
            have ks1 := below_cell bD s1
            have ks2 := below_cell bD s2
            replace hB := hB.trans (bD.mono hB.size)
            replace bT := bT.trans (bD.mono bT.size)
            replace hT := hT.later bD
            refine wp_region_held_drew (S := fun w' => w'.cell? ⟨q9, 0, none⟩ = some (.int .i64 y) ∧ w'.cell? ⟨q9, 1, none⟩ = some (.int .i64 y1) ∧ w'.cell? ⟨q9, 2, none⟩ = some (.int .i64 y2)) (by kernel_rfl) ⟨ks0, ks1, ks2⟩ (fun hHeld => ?_)
            clear ks0 ks1 ks2
            generalize w4.drew = w5 at bD hT hB bT hHeld ⊢
            clear bD
            refine take' 0 (v := ?_) rfl (by kernel_rfl) (by kernel_rfl) (by kernel_rfl) (fun _ _ _ h => h) (Or.inl ⟨by rfl, ?_⟩) (by assumption) ?_
            rotate_left
            · intro w9 hSw
              go_simp
              first | done | with_reducible rfl
            simp only [Act.put, List.setIfInBounds_toArray, List.set_cons_zero, List.set_cons_succ]
            refine take' 1 (v := ?_) rfl (by kernel_rfl) (by kernel_rfl) (by kernel_rfl) (fun _ _ _ h => h) (Or.inl ⟨by rfl, ?_⟩) (by assumption) ?_
            rotate_left
            · intro w9 hSw
              go_simp
              first | done | with_reducible rfl
            simp only [Act.put, List.setIfInBounds_toArray, List.set_cons_zero, List.set_cons_succ]
            refine take' 2 (v := ?_) rfl (by kernel_rfl) (by kernel_rfl) (by kernel_rfl) (fun _ _ _ h => h) (Or.inl ⟨by rfl, ?_⟩) (by assumption) ?_
            rotate_left
            · intro w9 hSw
              go_simp
              first | done | with_reducible rfl
            simp only [Act.put, List.setIfInBounds_toArray, List.set_cons_zero, List.set_cons_succ]
            refine take' 3 (v := ?_) rfl (by kernel_rfl) (by kernel_rfl) (by kernel_rfl) (fun _ _ _ h => h) (Or.inl ⟨by rfl, ?_⟩) (by assumption) ?_
            rotate_left
            · intro w9 hSw
              go_simp
              first | done | with_reducible rfl
            simp only [Act.put, List.setIfInBounds_toArray, List.set_cons_zero, List.set_cons_succ]
            refine take' 4 (v := ?_) rfl (by kernel_rfl) (by kernel_rfl) (by kernel_rfl) (fun _ _ _ h => h) (Or.inl ⟨by rfl, ?_⟩) (by assumption) ?_
            rotate_left
            · intro w9 hSw
              go_simp
              first | done | with_reducible rfl
            simp only [Act.put, List.setIfInBounds_toArray, List.set_cons_zero, List.set_cons_succ]
            refine take' 5 (v := ?_) rfl (by kernel_rfl) (by kernel_rfl) (by kernel_rfl) (fun _ _ _ h => h) (Or.inl ⟨by rfl, ?_⟩) (by assumption) ?_
            rotate_left
            · intro w9 hSw
              go_simp
              first | done | with_reducible rfl
            simp only [Act.put, List.setIfInBounds_toArray, List.set_cons_zero, List.set_cons_succ]
            refine take' 6 (v := ?_) rfl (by kernel_rfl) (by kernel_rfl) (by kernel_rfl) (fun _ _ _ h => h) (Or.inl ⟨by rfl, ?_⟩) (by assumption) ?_
            rotate_left
            · intro w9 hSw
              go_simp
              first | done | with_reducible rfl
            simp only [Act.put, List.setIfInBounds_toArray, List.set_cons_zero, List.set_cons_succ]
            refine wpAnyH_ready (rs := [7]) (by kernel_rfl) (by simp) ?_
            refine cons' rfl (fun KK hKK => ?_)
            go_simp
            refine (GPU.out _ hT.pl _ (hzk.out _ (by first | rfl | exact hwk))).mono ?_
            rintro e w6 ⟨⟨v, rfl⟩, hP6, b6, ty6⟩
            have hq5 := (bT.block q9 (Array.getElem?_eq_some_iff.1 HN9.out).1).trans HN9.out
            have hq6 := (ty6 q9 _ _ hq5 (by decide)).trans hq5
            obtain ⟨cur, hbl⟩ := hT.bl
            have hbl6 := (ty6 b _ _ hbl (by decide)).trans hbl
            have hT6 : TrR w6 w.heap.size b G (k + 1) (.slice a Cn ca) (.slice (some ⟨bq, off, none⟩) n mc) (plA (M.take (k + 1))) := ⟨(World.cell?_of_block (w := w5) (a := ⟨b, 0, none⟩) (hbl6.trans hbl.symm)).trans hT.c0, (World.cell?_of_block (w := w5) (a := ⟨b, 1, none⟩) (hbl6.trans hbl.symm)).trans hT.c1, by rw [HOK.out.2.2.1 eL.out HY.out.1 hnn.out.out.1 hnn.out.out.2]; exact hP6, ⟨cur, hbl6⟩⟩
            have hB6 := hB.trans b6
            have z0 := cell_of_row w6 q9 0 _ _ _ hq6
            have z1 := cell_of_row w6 q9 1 _ _ _ hq6
            have z2 := cell_of_row w6 q9 2 _ _ _ hq6
            simp only [List.getElem?_toArray, List.getElem?_cons_zero, List.getElem?_cons_succ] at z0 z1 z2
            have HE := hide' (And.intro hT6 hB6)
            clear hT6 hB6 hP6 b6 ty6 hq5 hq6 hbl hbl6 hT hB bT
            go_wp2_with fail
            refine hKK.out _ _ ⟨z0, z1, z2⟩ ?_
            clear hHeld
            intro hHeld
            clear hKK KK
            try simp only [Act.put, List.setIfInBounds_toArray, List.set_cons_zero, List.set_cons_succ]
            clear z0 z1 z2
            refine wpAnyH_done (by kernel_rfl) ?_ _
            obtain ⟨s0, s1, s2⟩ := hHeld
            clear hwk
            go_wp2
            go_roundw
            case rel => exact ⟨k + 1, hkN.out, by go_num, by rw [HOK.out.2.2.2], HN.out, HE.out.1, HE.out.2⟩
            case measure => simp only [intOf]; first | exact hme.out | omega
    · obtain rfl : k = n := by omega
      have i1 : ¬ (k : Int) < (k : Int) := by omega
      have HF := hide' (show Chk C M from by unfold Chk; rw [hn.out]; exact HB.out)
      have hT9 := hT
      rw [take_all M hn.out] at hT9
      clear HB
      go_wp2
      rw [← hTQ.out]
      exact ⟨hB, Or.inr ⟨HF.out, b, rfl, _, _, _, by rw [hn.out, hCn.out]; exact hT9⟩⟩
end Go.Proofs.Ytbcbgglhhfdbcab
