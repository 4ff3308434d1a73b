/-
  units: join.
-/
import Derived.Test.YtfodejhipnmgnaaUE0
namespace Go.Proofs.Ytfodejhipnmgnaa
open Go.RowKit
set_option linter.unusedVariables false
set_option linter.unusedSimpArgs false
theorem lstV_lt {u : US} {x : Int} (h : InR u x) : lstV x < 2 * u.tr.length := by obtain ⟨h1, h2⟩ := h; unfold lstV; split <;> omega
def joinA0 (u : US) (n : Nat) (x : Int) : US := { u with cl := u.cl.set n { u.cl.getD n default with b0 := x } }
def joinB0 (u : US) (n : Nat) (x : Int) : US := { joinA0 u n x with cl := (joinA0 u n x).cl.set n { (joinA0 u n x).cl.getD n default with a0 := ((u.ws.getD (lstV x) []).length : Nat) } }
def joinU0 (u : US) (n : Nat) (x : Int) : US := if x = 0 then joinA0 u n x else { joinB0 u n x with ws := u.ws.set (lstV x) (u.ws.getD (lstV x) [] ++ [(n : Int)]) }
set_option maxHeartbeats 8000000 in
set_option maxRecDepth 100000 in
theorem join0_is (ow : Nat → Tg) (b : Nat) (V : SV) (u : US) (n : Nat) (x : Int) (hx : InR u x) (hn : n < u.cl.length) (hC : u.cl.length ≤ 1048576) (hw : u.ws.length = 2 * u.tr.length) (hlr : (u.ws.getD (lstV x) []).length ≤ 1048576) (w : World) (h : UM w ow b V u) (hr : Rd u)  :
    Calls Try.prog 67 #[.pointer (some ⟨b, 0, none⟩), .int .i64 n, .int .i64 0, .int .i64 x] w fun e w' => (∃ v, e = .returned v) ∧ Chd ow b V (joinU0 u n x) w w' := by
  have HM := hide' maxLen_is
  have hT := hr.nT
  have hlx := lstV_lt hx
  have hx1 := hx.1
  have hx2 := hx.2
  clear hr hx
  have HW := hide' hw
  have hw2 : lstV x < u.ws.length := by omega
  clear hw
  obtain ⟨ii, hii, hiz, his, hib⟩ := info_parts info_i
  obtain ⟨gC, hgC⟩ := h.rcl.got (by omega)
  obtain ⟨gW, hgW⟩ := h.rws.got (by omega)
  have k2 := h.cells.2.2.2.2.1
  rw [SlV.val_some hgC] at k2
  have kb := h.rcl.cell hgC (j := n * 6 + 1) (by omega)
  rw [(clC_at _ _ n h.nlv hn).2.1] at kb
  have fzC := fun o => (h.rcl.row hgC).frozen o
  have P1 := h.set_b0 x hgC hn
  obtain ⟨w1, hw1⟩ : ∃ w1, w.setCell ⟨gC, n * 6 + 1, none⟩ (.int .i64 x) = w1 := ⟨_, rfl⟩
  rw [hw1] at P1
  change UM w1 ow b _ (joinA0 u n x) ∧ _ at P1
  clear h
  by_cases h0 : x = 0
  · have HJ : joinU0 u n x = joinA0 u n x := by unfold joinU0; rw [if_pos h0]
    rw [HJ]
    have HC := hide' (Chd.mk (V := V) P1.1 P1.2)
    clear P1 HJ
    subst h0
    go_enter Try.func67, Try.ntmps67
    go_wp2_with fail
    refine bodyPost_ret (v := .tuple #[]) (by kernel_rfl) rfl ?_
    exact ⟨⟨_, rfl⟩, HC.out⟩
  · have HJ : joinU0 u n x = { joinB0 u n x with ws := u.ws.set (lstV x) (u.ws.getD (lstV x) [] ++ [(n : Int)]) } := by unfold joinU0; rw [if_neg h0]
    rw [HJ]
    replace HJ : Hid True := hide' trivial
    obtain ⟨i, hi⟩ : ∃ i, lstV x = i := ⟨_, rfl⟩
    have GL := hide' (fun w' => list_is x (by omega) (by omega) w')
    rw [hi] at GL hlr hlx hw2 ⊢
    have il : i < u.ws.length := hw2
    obtain ⟨h1, S1⟩ := P1
    have k3 := h1.cells.2.2.2.2.2.1
    rw [SlV.val_some hgW] at k3
    have kw := h1.rws.cell hgW (j := i) (by show i < u.ws.length * 1; omega)
    rw [wsC_at _ _ i h1.nwv il] at kw
    change w1.cell? ⟨gW, i, none⟩ = some ((V.wv.getD i default).val (u.ws.getD i []).length) at kw
    change w1.cell? ⟨b, 3, none⟩ = some (.slice (some ⟨gW, 0, none⟩) u.ws.length V.ws.c) at k3
    have hn1 : n < (joinA0 u n x).cl.length := by show n < (u.cl.set _ _).length; rw [List.length_set]; exact hn
    have ka := h1.rcl.cell hgC (j := n * 6 + 3) (by omega)
    rw [(clC_at _ _ n h1.nlv hn1).2.2.2.1] at ka
    clear ka
    obtain ⟨sv, hsv⟩ : ∃ sv, V.wv.getD i default = sv := ⟨_, rfl⟩
    obtain ⟨r, hr⟩ : ∃ r, u.ws.getD i [] = r := ⟨_, rfl⟩
    rw [hsv, hr] at kw
    rw [hr] at hlr ⊢
    unfold SlV.val at kw
    have HJA := hide' (show joinB0 u n x = { joinA0 u n x with cl := (joinA0 u n x).cl.set n { (joinA0 u n x).cl.getD n default with a0 := ((r.length : Nat) : Int) } } by unfold joinB0; rw [hi, hr])
    have HSV := hide' hsv
    have HR := hide' hr
    clear hsv hr hi
    replace S1 := hide' S1
    go_enter Try.func67, Try.ntmps67
    go_wp2_with fail
    have bT : Below w1.heap.size w1 w1 := Below.refl _ _
    have bD : Below w1.heap.size w1 w1.drew := (Below.refl _ _).drew
    have kk3 := below_cell bD k3
    have kkw := below_cell bD kw
    replace bT := bT.trans (bD.mono bT.size)
    replace h1 := h1.later bD
    refine wp_region_held_drew (S := fun w' => w'.cell? ⟨b, 3, none⟩ = some (.slice (some ⟨gW, 0, none⟩) u.ws.length V.ws.c) ∧ w'.cell? ⟨gW, i, none⟩ = some (.slice sv.at' r.length sv.c)) (by kernel_rfl) ⟨kk3, kkw⟩ (fun hHeld => ?_)
    clear kk3 kkw
    generalize w1.drew = w4 at bD h1 bT hHeld ⊢
    clear bD
    refine take' 0 (v := ?_) rfl (by kernel_rfl) (by kernel_rfl) (by kernel_rfl) (fun _ _ _ h => h) (Or.inl ⟨by rfl, ?_⟩) (by assumption) ?_
    rotate_left
    · intro w9 hSw
      go_simp
      first | done | with_reducible rfl
    simp only [Act.put, List.setIfInBounds_toArray, List.set_cons_zero, List.set_cons_succ]
    refine take' 1 (v := ?_) rfl (by kernel_rfl) (by kernel_rfl) (by kernel_rfl) (fun _ _ _ h => h) (Or.inl ⟨by rfl, ?_⟩) (by assumption) ?_
    rotate_left
    · intro w9 hSw
      go_simp
      first | done | with_reducible rfl
    simp only [Act.put, List.setIfInBounds_toArray, List.set_cons_zero, List.set_cons_succ]
    refine take' 2 (v := ?_) rfl (by kernel_rfl) (by kernel_rfl) (by kernel_rfl) (fun _ _ _ h => h) (Or.inl ⟨by rfl, ?_⟩) (by assumption) ?_
    rotate_left
    · intro w9 hSw
      go_simp
      first | done | with_reducible rfl
    simp only [Act.put, List.setIfInBounds_toArray, List.set_cons_zero, List.set_cons_succ]
    refine take' 3 (v := ?_) rfl (by kernel_rfl) (by kernel_rfl) (by kernel_rfl) (fun _ _ _ h => h) (Or.inl ⟨by rfl, ?_⟩) (by assumption) ?_
    rotate_left
    · intro w9 hSw
      go_simp
      first | done | with_reducible rfl
    simp only [Act.put, List.setIfInBounds_toArray, List.set_cons_zero, List.set_cons_succ]
    refine take' 4 (v := ?_) rfl (by kernel_rfl) (by kernel_rfl) (by kernel_rfl) (fun _ _ _ h => h) (Or.inl ⟨by rfl, ?_⟩) (by assumption) ?_
    rotate_left
    · intro w9 hSw
      go_simp
      first | done | with_reducible rfl
    simp only [Act.put, List.setIfInBounds_toArray, List.set_cons_zero, List.set_cons_succ]
    refine take' 5 (v := ?_) rfl (by kernel_rfl) (by kernel_rfl) (by kernel_rfl) (fun _ _ _ h => h) (Or.inl ⟨by rfl, ?_⟩) (by assumption) ?_
    rotate_left
    · intro w9 hSw
      go_simp
      first | done | with_reducible rfl
    simp only [Act.put, List.setIfInBounds_toArray, List.set_cons_zero, List.set_cons_succ]
    refine take' 6 (v := ?_) rfl (by kernel_rfl) (by kernel_rfl) (by kernel_rfl) (fun _ _ _ h => h) (Or.inl ⟨by rfl, ?_⟩) (by assumption) ?_
    rotate_left
    · intro w9 hSw
      go_simp
      first | done | with_reducible rfl
    simp only [Act.put, List.setIfInBounds_toArray, List.set_cons_zero, List.set_cons_succ]
    refine take' 11 (v := ?_) rfl (by kernel_rfl) (by kernel_rfl) (by kernel_rfl) (fun _ _ _ h => h) (Or.inl ⟨by rfl, ?_⟩) (by assumption) ?_
    rotate_left
    · intro w9 hSw
      go_simp
      first | done | with_reducible rfl
    simp only [Act.put, List.setIfInBounds_toArray, List.set_cons_zero, List.set_cons_succ]
    refine take' 12 (v := ?_) rfl (by kernel_rfl) (by kernel_rfl) (by kernel_rfl) (fun _ _ _ h => h) (Or.inl ⟨by rfl, ?_⟩) (by assumption) ?_
    rotate_left
    · intro w9 hSw
      go_simp
      first | done | with_reducible rfl
    simp only [Act.put, List.setIfInBounds_toArray, List.set_cons_zero, List.set_cons_succ]
    refine wpAnyH_ready (rs := [7]) (by kernel_rfl) (by simp) ?_
    refine cons' rfl (fun KK hKK => ?_)
    go_simp
    refine (GL.out _).mono ?_
    rintro e w9 ⟨rfl, hw9⟩
    rw [hw9]
    clear hw9 w9
    go_wp2_with fail
    refine hKK.out _ _ hHeld ?_
    clear hHeld
    intro hHeld
    clear hKK KK
    try simp only [Act.put, List.setIfInBounds_toArray, List.set_cons_zero, List.set_cons_succ]
    refine take' 8 (v := ?_) rfl (by kernel_rfl) (by kernel_rfl) (by kernel_rfl) (fun _ _ _ h => h) (Or.inl ⟨by rfl, ?_⟩) (by assumption) ?_
    rotate_left
    · intro w9 hSw
      go_simp
      first | done | with_reducible rfl
    simp only [Act.put, List.setIfInBounds_toArray, List.set_cons_zero, List.set_cons_succ]
    refine take' 9 (v := ?_) rfl (by kernel_rfl) (by kernel_rfl) (by kernel_rfl) (fun _ _ _ h => h) (Or.inl ⟨by rfl, ?_⟩) (by assumption) ?_
    rotate_left
    · intro w9 hSw
      go_simp
      first | done | with_reducible rfl
    simp only [Act.put, List.setIfInBounds_toArray, List.set_cons_zero, List.set_cons_succ]
    refine take' 10 (v := ?_) rfl (by kernel_rfl) (by kernel_rfl) (by kernel_rfl) (fun _ _ _ h => h) (Or.inl ⟨by rfl, ?_⟩) (by assumption) ?_
    rotate_left
    · intro w9 hSw
      go_simp
      first | done | with_reducible rfl
    simp only [Act.put, List.setIfInBounds_toArray, List.set_cons_zero, List.set_cons_succ]
    refine take' 13 (v := ?_) rfl (by kernel_rfl) (by kernel_rfl) (by kernel_rfl) (fun _ _ _ h => h) (Or.inl ⟨by rfl, ?_⟩) (by assumption) ?_
    rotate_left
    · intro w9 hSw
      go_simp
      first | done | with_reducible rfl
    simp only [Act.put, List.setIfInBounds_toArray, List.set_cons_zero, List.set_cons_succ]
    refine wpAnyH_ready (rs := [14]) (by kernel_rfl) (by simp) ?_
    refine cons' rfl (fun KK hKK => ?_)
    have ka := h1.rcl.cell hgC (j := n * 6 + 3) (by omega)
    rw [(clC_at _ _ n h1.nlv hn1).2.2.2.1] at ka
    have fz1 := fun o => (h1.rcl.row hgC).frozen o
    have P2 := h1.set_a0 ((r.length : Nat) : Int) hgC hn1
    rw [← HJA.out] at P2
    have q3 := P2.1.cells.2.2.2.2.2.1
    rw [SlV.val_some hgW] at q3
    have qw := P2.1.rws.cell hgW (j := i) (by show i < u.ws.length * 1; omega)
    rw [wsC_at _ _ i P2.1.nwv il] at qw
    change World.cell? _ ⟨gW, i, none⟩ = some ((V.wv.getD i default).val (u.ws.getD i []).length) at qw
    rw [HSV.out, HR.out] at qw
    unfold SlV.val at qw
    replace P2 := hide' P2
    go_simp
    refine hKK.out _ _ ⟨q3, qw⟩ ?_
    clear hHeld
    intro hHeld
    clear hKK KK
    try simp only [Act.put, List.setIfInBounds_toArray, List.set_cons_zero, List.set_cons_succ]
    clear q3 qw ka fz1
    have h5 := P2.out.1
    have S5 := S1.out.trans ((Step.of_below bT).trans P2.out.2)
    clear P2 S1 h1 bT
    generalize w4.setCell ⟨gC, n * 6 + 3, none⟩ (.int .i64 (r.length : Nat)) = w5 at h5 S5 hHeld ⊢
    refine wpAnyH_done (by kernel_rfl) ?_ _
    go_wp2_with fail
    obtain ⟨k3, kw⟩ := hHeld
    replace S5 := hide' S5
    have bT : Below w5.heap.size w5 w5 := Below.refl _ _
    have bD : Below w5.heap.size w5 w5.drew := (Below.refl _ _).drew
    have kk3 := below_cell bD k3
    replace bT := bT.trans (bD.mono bT.size)
    replace h5 := h5.later bD
    replace kw := below_cell bD kw
    refine wp_region_held_drew (S := fun w' => w'.cell? ⟨b, 3, none⟩ = some (.slice (some ⟨gW, 0, none⟩) u.ws.length V.ws.c)) (by kernel_rfl) kk3 (fun hHeld => ?_)
    clear kk3
    generalize w5.drew = w6 at bD h5 kw bT hHeld ⊢
    clear bD
    refine take' 0 (v := ?_) rfl (by kernel_rfl) (by kernel_rfl) (by kernel_rfl) (fun _ _ _ h => h) (Or.inl ⟨by rfl, ?_⟩) (by assumption) ?_
    rotate_left
    · intro w9 hSw
      go_simp
      first | done | with_reducible rfl
    simp only [Act.put, List.setIfInBounds_toArray, List.set_cons_zero, List.set_cons_succ]
    refine take' 1 (v := ?_) rfl (by kernel_rfl) (by kernel_rfl) (by kernel_rfl) (fun _ _ _ h => h) (Or.inl ⟨by rfl, ?_⟩) (by assumption) ?_
    rotate_left
    · intro w9 hSw
      go_simp
      first | done | with_reducible rfl
    simp only [Act.put, List.setIfInBounds_toArray, List.set_cons_zero, List.set_cons_succ]
    refine take' 2 (v := ?_) rfl (by kernel_rfl) (by kernel_rfl) (by kernel_rfl) (fun _ _ _ h => h) (Or.inl ⟨by rfl, ?_⟩) (by assumption) ?_
    rotate_left
    · intro w9 hSw
      go_simp
      first | done | with_reducible rfl
    simp only [Act.put, List.setIfInBounds_toArray, List.set_cons_zero, List.set_cons_succ]
    refine take' 3 (v := ?_) rfl (by kernel_rfl) (by kernel_rfl) (by kernel_rfl) (fun _ _ _ h => h) (Or.inl ⟨by rfl, ?_⟩) (by assumption) ?_
    rotate_left
    · intro w9 hSw
      go_simp
      first | done | with_reducible rfl
    simp only [Act.put, List.setIfInBounds_toArray, List.set_cons_zero, List.set_cons_succ]
    refine take' 4 (v := ?_) rfl (by kernel_rfl) (by kernel_rfl) (by kernel_rfl) (fun _ _ _ h => h) (Or.inl ⟨by rfl, ?_⟩) (by assumption) ?_
    rotate_left
    · intro w9 hSw
      go_simp
      first | done | with_reducible rfl
    simp only [Act.put, List.setIfInBounds_toArray, List.set_cons_zero, List.set_cons_succ]
    refine take' 6 (v := ?_) rfl (by kernel_rfl) (by kernel_rfl) (by kernel_rfl) (fun _ _ _ h => h) (Or.inl ⟨by rfl, ?_⟩) (by assumption) ?_
    rotate_left
    · intro w9 hSw
      go_simp
      first | done | with_reducible rfl
    simp only [Act.put, List.setIfInBounds_toArray, List.set_cons_zero, List.set_cons_succ]
    refine take' 7 (v := ?_) rfl (by kernel_rfl) (by kernel_rfl) (by kernel_rfl) (fun _ _ _ h => h) (Or.inl ⟨by rfl, ?_⟩) (by assumption) ?_
    rotate_left
    · intro w9 hSw
      go_simp
      first | done | with_reducible rfl
    simp only [Act.put, List.setIfInBounds_toArray, List.set_cons_zero, List.set_cons_succ]
    refine take' 8 (v := ?_) rfl (by kernel_rfl) (by kernel_rfl) (by kernel_rfl) (fun _ _ _ h => h) (Or.inl ⟨by rfl, ?_⟩) (by assumption) ?_
    rotate_left
    · intro w9 hSw
      go_simp
      first | done | with_reducible rfl
    simp only [Act.put, List.setIfInBounds_toArray, List.set_cons_zero, List.set_cons_succ]
    refine take' 9 (v := ?_) rfl (by kernel_rfl) (by kernel_rfl) (by kernel_rfl) (fun _ _ _ h => h) (Or.inl ⟨by rfl, ?_⟩) (by assumption) ?_
    rotate_left
    · intro w9 hSw
      go_simp
      first | done | with_reducible rfl
    simp only [Act.put, List.setIfInBounds_toArray, List.set_cons_zero, List.set_cons_succ]
    refine take' 10 (v := ?_) rfl (by kernel_rfl) (by kernel_rfl) (by kernel_rfl) (fun _ _ _ h => h) (Or.inl ⟨by rfl, ?_⟩) (by assumption) ?_
    rotate_left
    · intro w9 hSw
      go_simp
      first | done | with_reducible rfl
    simp only [Act.put, List.setIfInBounds_toArray, List.set_cons_zero, List.set_cons_succ]
    refine take' 14 (v := ?_) rfl (by kernel_rfl) (by kernel_rfl) (by kernel_rfl) (fun _ _ _ h => h) (Or.inl ⟨by rfl, ?_⟩) (by assumption) ?_
    rotate_left
    · intro w9 hSw
      go_simp
      first | done | with_reducible rfl
    simp only [Act.put, List.setIfInBounds_toArray, List.set_cons_zero, List.set_cons_succ]
    refine wpAnyH_ready (rs := [5, 15]) (by kernel_rfl) (by simp) ?_
    refine consT rfl (fun KK hKK => ?_) ?_
    · skip
      go_simp
      refine (GL.out _).mono ?_
      rintro e w9 ⟨rfl, hw9⟩
      rw [hw9]
      clear hw9 w9
      go_wp2_with fail
      refine hKK.out _ _ hHeld ?_
      clear hHeld
      intro hHeld
      clear hKK KK
      try simp only [Act.put, List.setIfInBounds_toArray, List.set_cons_zero, List.set_cons_succ]
      refine wpAnyH_ready (rs := [11, 15]) (by kernel_rfl) (by simp) ?_
      refine consT rfl (fun KK hKK => ?_) ?_
      · skip
        go_simp
        refine (GL.out _).mono ?_
        rintro e w9 ⟨rfl, hw9⟩
        rw [hw9]
        clear hw9 w9
        go_wp2_with fail
        refine hKK.out _ _ hHeld ?_
        clear hHeld
        intro hHeld
        clear hKK KK
        try simp only [Act.put, List.setIfInBounds_toArray, List.set_cons_zero, List.set_cons_succ]
        refine take' 12 (v := ?_) rfl (by kernel_rfl) (by kernel_rfl) (by kernel_rfl) (fun _ _ _ h => h) (Or.inl ⟨by rfl, ?_⟩) (by assumption) ?_
        rotate_left
        · intro w9 hSw
          go_simp
          first | done | with_reducible rfl
        simp only [Act.put, List.setIfInBounds_toArray, List.set_cons_zero, List.set_cons_succ]
        refine wpAnyH_ready (rs := [13, 15]) (by kernel_rfl) (by simp) ?_
        refine consT rfl (fun KK hKK => ?_) ?_
        · skip
          go_simp
          refine hKK.out _ _ hHeld ?_
          clear hHeld
          intro hHeld
          clear hKK KK
          try simp only [Act.put, List.setIfInBounds_toArray, List.set_cons_zero, List.set_cons_succ]
          refine wpAnyH_ready (rs := [15]) (by kernel_rfl) (by simp) ?_
          refine cons' rfl (fun KK hKK => ?_)
          go_simp
          have hnew := heap_alloc_new w6 (.cells #[.int .i64 n] 3)
          have b3 := below_alloc (w := w6) (.cells #[.int .i64 n] 3)
          obtain ⟨na, hna⟩ : ∃ na, w6.heap.size = na := ⟨_, rfl⟩
          rw [hna] at hnew
          try rw [hna]
          generalize w6.alloc (.cells #[.int .i64 n] 3) = w7 at hnew b3 ⊢
          replace hnew : w7.heap[na]? = _ := hnew
          replace bT := bT.trans (b3.mono bT.size)
          replace h5 := h5.later b3
          replace kw := below_cell b3 kw
          replace hHeld := below_cell b3 hHeld
          clear b3 hna
          refine hKK.out _ _ hHeld ?_
          clear hHeld
          intro hHeld
          clear hKK KK
          try simp only [Act.put, List.setIfInBounds_toArray, List.set_cons_zero, List.set_cons_succ]
          refine wpAnyH_ready (rs := [16]) (by kernel_rfl) (by simp) ?_
          refine cons' rfl (fun KK hKK => ?_)
          have hO := (h5.rrow (i := i) il).1
          change World.ownsRow _ 0 _ 1 ((V.wv.getD i default).val (u.ws.getD i []).length) (u.ws.getD i []).length (iv (u.ws.getD i [])) at hO
          rw [HSV.out, HR.out] at hO
          have hl1 : r.length + 1 ≤ maxLen := by have := HM.out; omega
          have hl2 : (r.length + 1) * 8 ≤ 140737488355328 := by omega
          refine step_append_lies _ (by rfl) _ _ _ (by rfl) 0 3 ii _ 1 8 Try.underlying40 hii hiz his hib rfl (by omega) (.slice sv.at' r.length sv.c) r.length (iv r) (by rfl) hO ⟨na, 0, none⟩ 1 1 [.int .i64 n] (by rfl) (by rfl) (World.news_of_block (cs := #[.int .i64 n]) (t := 3) (fr := (0, 0)) hnew) (by simp [Value.oneCell']) (by omega) hl1 hl2 (Nat.zero_le _) _ rfl ?_
          intro gb cap w8 hown hgrow hat hlt
          have hRA := h5.rrow (i := i) il
          change RowAt _ _ _ _ _ (V.wv.getD i default) (u.ws.getD i []).length (iv (u.ws.getD i [])) at hRA
          rw [HSV.out, HR.out] at hRA
          obtain ⟨R1, R2⟩ := RowAt.app hRA hown hgrow hat rfl hlt
          have P5 := UM.set_ws h5 (i := i) (r := r ++ [(n : Int)]) il hgW (by rw [List.length_append, iv_append]; exact R1) R2
          rw [SlV.val_some rfl, List.length_append] at P5
          change UM (w8.setCell ⟨gW, i, none⟩ (.slice (some ⟨gb, 0, none⟩) (r.length + 1) cap)) _ _ _ _ ∧ _ at P5
          have q3 := ((h5.part .st).app R2 (by simp)).2.2.2.2.2.1
          rw [SlV.val_some hgW] at q3
          have hRW : RowAt _ _ _ _ _ _ _ _ := (h5.part .ws).app R2 (by simp)
          have kg := hRW.cell hgW (j := i) (by show i < u.ws.length * 1; omega)
          rw [wsC_at _ _ i h5.nwv il] at kg
          have fg := fun o => (hRW.row hgW).frozen o
          have S6 := S5.out.trans ((Step.of_below bT).trans P5.2)
          have HF := hide' (show _ ∧ Step ow _ w _ from ⟨P5.1, S6⟩)
          clear P5 S6 R1 R2 hRA hRW hown hgrow hat hlt hO hl1 hl2 hnew kw S5
          refine hKK.out _ _ q3 ?_
          clear hHeld
          intro hHeld
          clear hKK KK
          try simp only [Act.put, List.setIfInBounds_toArray, List.set_cons_zero, List.set_cons_succ]
          clear q3 h5 bT
          refine take' 17 (v := ?_) rfl (by kernel_rfl) (by kernel_rfl) (by kernel_rfl) (fun _ _ _ h => h) (Or.inl ⟨by rfl, ?_⟩) (by assumption) ?_
          rotate_left
          · intro w9 hSw
            go_simp
            first | done | with_reducible rfl
          simp only [Act.put, List.setIfInBounds_toArray, List.set_cons_zero, List.set_cons_succ]
          refine wpAnyH_ready (rs := [18]) (by kernel_rfl) (by simp) ?_
          refine cons' rfl (fun KK hKK => ?_)
          have q3 := HF.out.1.cells.2.2.2.2.2.1
          rw [SlV.val_some hgW] at q3
          change World.cell? _ _ = some (.slice (some ⟨gW, 0, none⟩) (u.ws.set i (r ++ [(n : Int)])).length V.ws.c) at q3
          rw [List.length_set] at q3
          go_simp
          refine hKK.out _ _ q3 ?_
          clear hHeld
          intro hHeld
          clear hKK KK
          try simp only [Act.put, List.setIfInBounds_toArray, List.set_cons_zero, List.set_cons_succ]
          clear q3 kg fg
          refine wpAnyH_done (by kernel_rfl) ?_ _
          go_wp2_with fail
          refine bodyPost_end (v := .tuple #[]) (by kernel_rfl) rfl ?_
          exact ⟨⟨_, rfl⟩, Chd.mk HF.out.1 HF.out.2⟩
        refine consT rfl (fun KK hKK => ?_) ?_
        · skip
          go_simp
          have hnew := heap_alloc_new w6 (.cells #[.int .i64 n] 3)
          have b3 := below_alloc (w := w6) (.cells #[.int .i64 n] 3)
          obtain ⟨na, hna⟩ : ∃ na, w6.heap.size = na := ⟨_, rfl⟩
          rw [hna] at hnew
          try rw [hna]
          generalize w6.alloc (.cells #[.int .i64 n] 3) = w7 at hnew b3 ⊢
          replace hnew : w7.heap[na]? = _ := hnew
          replace bT := bT.trans (b3.mono bT.size)
          replace h5 := h5.later b3
          replace kw := below_cell b3 kw
          replace hHeld := below_cell b3 hHeld
          clear b3 hna
          refine hKK.out _ _ hHeld ?_
          clear hHeld
          intro hHeld
          clear hKK KK
          try simp only [Act.put, List.setIfInBounds_toArray, List.set_cons_zero, List.set_cons_succ]
          refine wpAnyH_ready (rs := [13]) (by kernel_rfl) (by simp) ?_
          refine cons' rfl (fun KK hKK => ?_)
          go_simp
          refine hKK.out _ _ hHeld ?_
          clear hHeld
          intro hHeld
          clear hKK KK
          try simp only [Act.put, List.setIfInBounds_toArray, List.set_cons_zero, List.set_cons_succ]
          refine wpAnyH_ready (rs := [16]) (by kernel_rfl) (by simp) ?_
          refine cons' rfl (fun KK hKK => ?_)
          have hO := (h5.rrow (i := i) il).1
          change World.ownsRow _ 0 _ 1 ((V.wv.getD i default).val (u.ws.getD i []).length) (u.ws.getD i []).length (iv (u.ws.getD i [])) at hO
          rw [HSV.out, HR.out] at hO
          have hl1 : r.length + 1 ≤ maxLen := by have := HM.out; omega
          have hl2 : (r.length + 1) * 8 ≤ 140737488355328 := by omega
          refine step_append_lies _ (by rfl) _ _ _ (by rfl) 0 3 ii _ 1 8 Try.underlying40 hii hiz his hib rfl (by omega) (.slice sv.at' r.length sv.c) r.length (iv r) (by rfl) hO ⟨na, 0, none⟩ 1 1 [.int .i64 n] (by rfl) (by rfl) (World.news_of_block (cs := #[.int .i64 n]) (t := 3) (fr := (0, 0)) hnew) (by simp [Value.oneCell']) (by omega) hl1 hl2 (Nat.zero_le _) _ rfl ?_
          intro gb cap w8 hown hgrow hat hlt
          have hRA := h5.rrow (i := i) il
          change RowAt _ _ _ _ _ (V.wv.getD i default) (u.ws.getD i []).length (iv (u.ws.getD i [])) at hRA
          rw [HSV.out, HR.out] at hRA
          obtain ⟨R1, R2⟩ := RowAt.app hRA hown hgrow hat rfl hlt
          have P5 := UM.set_ws h5 (i := i) (r := r ++ [(n : Int)]) il hgW (by rw [List.length_append, iv_append]; exact R1) R2
          rw [SlV.val_some rfl, List.length_append] at P5
          change UM (w8.setCell ⟨gW, i, none⟩ (.slice (some ⟨gb, 0, none⟩) (r.length + 1) cap)) _ _ _ _ ∧ _ at P5
          have q3 := ((h5.part .st).app R2 (by simp)).2.2.2.2.2.1
          rw [SlV.val_some hgW] at q3
          have hRW : RowAt _ _ _ _ _ _ _ _ := (h5.part .ws).app R2 (by simp)
          have kg := hRW.cell hgW (j := i) (by show i < u.ws.length * 1; omega)
          rw [wsC_at _ _ i h5.nwv il] at kg
          have fg := fun o => (hRW.row hgW).frozen o
          have S6 := S5.out.trans ((Step.of_below bT).trans P5.2)
          have HF := hide' (show _ ∧ Step ow _ w _ from ⟨P5.1, S6⟩)
          clear P5 S6 R1 R2 hRA hRW hown hgrow hat hlt hO hl1 hl2 hnew kw S5
          refine hKK.out _ _ q3 ?_
          clear hHeld
          intro hHeld
          clear hKK KK
          try simp only [Act.put, List.setIfInBounds_toArray, List.set_cons_zero, List.set_cons_succ]
          clear q3 h5 bT
          refine take' 17 (v := ?_) rfl (by kernel_rfl) (by kernel_rfl) (by kernel_rfl) (fun _ _ _ h => h) (Or.inl ⟨by rfl, ?_⟩) (by assumption) ?_
          rotate_left
          · intro w9 hSw
            go_simp
            first | done | with_reducible rfl
          simp only [Act.put, List.setIfInBounds_toArray, List.set_cons_zero, List.set_cons_succ]
          refine wpAnyH_ready (rs := [18]) (by kernel_rfl) (by simp) ?_
          refine cons' rfl (fun KK hKK => ?_)
          have q3 := HF.out.1.cells.2.2.2.2.2.1
          rw [SlV.val_some hgW] at q3
          change World.cell? _ _ = some (.slice (some ⟨gW, 0, none⟩) (u.ws.set i (r ++ [(n : Int)])).length V.ws.c) at q3
          rw [List.length_set] at q3
          go_simp
          refine hKK.out _ _ q3 ?_
          clear hHeld
          intro hHeld
          clear hKK KK
          try simp only [Act.put, List.setIfInBounds_toArray, List.set_cons_zero, List.set_cons_succ]
          clear q3 kg fg
          refine wpAnyH_done (by kernel_rfl) ?_ _
          go_wp2_with fail
          refine bodyPost_end (v := .tuple #[]) (by kernel_rfl) rfl ?_
          exact ⟨⟨_, rfl⟩, Chd.mk HF.out.1 HF.out.2⟩
        exact AllReadyH.nil
      refine consT rfl (fun KK hKK => ?_) ?_
      · skip
        go_simp
        have hnew := heap_alloc_new w6 (.cells #[.int .i64 n] 3)
        have b3 := below_alloc (w := w6) (.cells #[.int .i64 n] 3)
        obtain ⟨na, hna⟩ : ∃ na, w6.heap.size = na := ⟨_, rfl⟩
        rw [hna] at hnew
        try rw [hna]
        generalize w6.alloc (.cells #[.int .i64 n] 3) = w7 at hnew b3 ⊢
        replace hnew : w7.heap[na]? = _ := hnew
        replace bT := bT.trans (b3.mono bT.size)
        replace h5 := h5.later b3
        replace kw := below_cell b3 kw
        replace hHeld := below_cell b3 hHeld
        clear b3 hna
        refine hKK.out _ _ hHeld ?_
        clear hHeld
        intro hHeld
        clear hKK KK
        try simp only [Act.put, List.setIfInBounds_toArray, List.set_cons_zero, List.set_cons_succ]
        refine wpAnyH_ready (rs := [11]) (by kernel_rfl) (by simp) ?_
        refine cons' rfl (fun KK hKK => ?_)
        go_simp
        refine (GL.out _).mono ?_
        rintro e w9 ⟨rfl, hw9⟩
        rw [hw9]
        clear hw9 w9
        go_wp2_with fail
        refine hKK.out _ _ hHeld ?_
        clear hHeld
        intro hHeld
        clear hKK KK
        try simp only [Act.put, List.setIfInBounds_toArray, List.set_cons_zero, List.set_cons_succ]
        refine take' 12 (v := ?_) rfl (by kernel_rfl) (by kernel_rfl) (by kernel_rfl) (fun _ _ _ h => h) (Or.inl ⟨by rfl, ?_⟩) (by assumption) ?_
        rotate_left
        · intro w9 hSw
          go_simp
          first | done | with_reducible rfl
        simp only [Act.put, List.setIfInBounds_toArray, List.set_cons_zero, List.set_cons_succ]
        refine wpAnyH_ready (rs := [13]) (by kernel_rfl) (by simp) ?_
        refine cons' rfl (fun KK hKK => ?_)
        go_simp
        refine hKK.out _ _ hHeld ?_
        clear hHeld
        intro hHeld
        clear hKK KK
        try simp only [Act.put, List.setIfInBounds_toArray, List.set_cons_zero, List.set_cons_succ]
        refine wpAnyH_ready (rs := [16]) (by kernel_rfl) (by simp) ?_
        refine cons' rfl (fun KK hKK => ?_)
        have hO := (h5.rrow (i := i) il).1
        change World.ownsRow _ 0 _ 1 ((V.wv.getD i default).val (u.ws.getD i []).length) (u.ws.getD i []).length (iv (u.ws.getD i [])) at hO
        rw [HSV.out, HR.out] at hO
        have hl1 : r.length + 1 ≤ maxLen := by have := HM.out; omega
        have hl2 : (r.length + 1) * 8 ≤ 140737488355328 := by omega
        refine step_append_lies _ (by rfl) _ _ _ (by rfl) 0 3 ii _ 1 8 Try.underlying40 hii hiz his hib rfl (by omega) (.slice sv.at' r.length sv.c) r.length (iv r) (by rfl) hO ⟨na, 0, none⟩ 1 1 [.int .i64 n] (by rfl) (by rfl) (World.news_of_block (cs := #[.int .i64 n]) (t := 3) (fr := (0, 0)) hnew) (by simp [Value.oneCell']) (by omega) hl1 hl2 (Nat.zero_le _) _ rfl ?_
        intro gb cap w8 hown hgrow hat hlt
        have hRA := h5.rrow (i := i) il
        change RowAt _ _ _ _ _ (V.wv.getD i default) (u.ws.getD i []).length (iv (u.ws.getD i [])) at hRA
        rw [HSV.out, HR.out] at hRA
        obtain ⟨R1, R2⟩ := RowAt.app hRA hown hgrow hat rfl hlt
        have P5 := UM.set_ws h5 (i := i) (r := r ++ [(n : Int)]) il hgW (by rw [List.length_append, iv_append]; exact R1) R2
        rw [SlV.val_some rfl, List.length_append] at P5
        change UM (w8.setCell ⟨gW, i, none⟩ (.slice (some ⟨gb, 0, none⟩) (r.length + 1) cap)) _ _ _ _ ∧ _ at P5
        have q3 := ((h5.part .st).app R2 (by simp)).2.2.2.2.2.1
        rw [SlV.val_some hgW] at q3
        have hRW : RowAt _ _ _ _ _ _ _ _ := (h5.part .ws).app R2 (by simp)
        have kg := hRW.cell hgW (j := i) (by show i < u.ws.length * 1; omega)
        rw [wsC_at _ _ i h5.nwv il] at kg
        have fg := fun o => (hRW.row hgW).frozen o
        have S6 := S5.out.trans ((Step.of_below bT).trans P5.2)
        have HF := hide' (show _ ∧ Step ow _ w _ from ⟨P5.1, S6⟩)
        clear P5 S6 R1 R2 hRA hRW hown hgrow hat hlt hO hl1 hl2 hnew kw S5
        refine hKK.out _ _ q3 ?_
        clear hHeld
        intro hHeld
        clear hKK KK
        try simp only [Act.put, List.setIfInBounds_toArray, List.set_cons_zero, List.set_cons_succ]
        clear q3 h5 bT
        refine take' 17 (v := ?_) rfl (by kernel_rfl) (by kernel_rfl) (by kernel_rfl) (fun _ _ _ h => h) (Or.inl ⟨by rfl, ?_⟩) (by assumption) ?_
        rotate_left
        · intro w9 hSw
          go_simp
          first | done | with_reducible rfl
        simp only [Act.put, List.setIfInBounds_toArray, List.set_cons_zero, List.set_cons_succ]
        refine wpAnyH_ready (rs := [18]) (by kernel_rfl) (by simp) ?_
        refine cons' rfl (fun KK hKK => ?_)
        have q3 := HF.out.1.cells.2.2.2.2.2.1
        rw [SlV.val_some hgW] at q3
        change World.cell? _ _ = some (.slice (some ⟨gW, 0, none⟩) (u.ws.set i (r ++ [(n : Int)])).length V.ws.c) at q3
        rw [List.length_set] at q3
        go_simp
        refine hKK.out _ _ q3 ?_
        clear hHeld
        intro hHeld
        clear hKK KK
        try simp only [Act.put, List.setIfInBounds_toArray, List.set_cons_zero, List.set_cons_succ]
        clear q3 kg fg
        refine wpAnyH_done (by kernel_rfl) ?_ _
        go_wp2_with fail
        refine bodyPost_end (v := .tuple #[]) (by kernel_rfl) rfl ?_
        exact ⟨⟨_, rfl⟩, Chd.mk HF.out.1 HF.out.2⟩
      exact AllReadyH.nil
    refine consT rfl (fun KK hKK => ?_) ?_
    · skip
      go_simp
      have hnew := heap_alloc_new w6 (.cells #[.int .i64 n] 3)
      have b3 := below_alloc (w := w6) (.cells #[.int .i64 n] 3)
      obtain ⟨na, hna⟩ : ∃ na, w6.heap.size = na := ⟨_, rfl⟩
      rw [hna] at hnew
      try rw [hna]
      generalize w6.alloc (.cells #[.int .i64 n] 3) = w7 at hnew b3 ⊢
      replace hnew : w7.heap[na]? = _ := hnew
      replace bT := bT.trans (b3.mono bT.size)
      replace h5 := h5.later b3
      replace kw := below_cell b3 kw
      replace hHeld := below_cell b3 hHeld
      clear b3 hna
      refine hKK.out _ _ hHeld ?_
      clear hHeld
      intro hHeld
      clear hKK KK
      try simp only [Act.put, List.setIfInBounds_toArray, List.set_cons_zero, List.set_cons_succ]
      refine wpAnyH_ready (rs := [5]) (by kernel_rfl) (by simp) ?_
      refine cons' rfl (fun KK hKK => ?_)
      go_simp
      refine (GL.out _).mono ?_
      rintro e w9 ⟨rfl, hw9⟩
      rw [hw9]
      clear hw9 w9
      go_wp2_with fail
      refine hKK.out _ _ hHeld ?_
      clear hHeld
      intro hHeld
      clear hKK KK
      try simp only [Act.put, List.setIfInBounds_toArray, List.set_cons_zero, List.set_cons_succ]
      refine wpAnyH_ready (rs := [11]) (by kernel_rfl) (by simp) ?_
      refine cons' rfl (fun KK hKK => ?_)
      go_simp
      refine (GL.out _).mono ?_
      rintro e w9 ⟨rfl, hw9⟩
      rw [hw9]
      clear hw9 w9
      go_wp2_with fail
      refine hKK.out _ _ hHeld ?_
      clear hHeld
      intro hHeld
      clear hKK KK
      try simp only [Act.put, List.setIfInBounds_toArray, List.set_cons_zero, List.set_cons_succ]
      refine take' 12 (v := ?_) rfl (by kernel_rfl) (by kernel_rfl) (by kernel_rfl) (fun _ _ _ h => h) (Or.inl ⟨by rfl, ?_⟩) (by assumption) ?_
      rotate_left
      · intro w9 hSw
        go_simp
        first | done | with_reducible rfl
      simp only [Act.put, List.setIfInBounds_toArray, List.set_cons_zero, List.set_cons_succ]
      refine wpAnyH_ready (rs := [13]) (by kernel_rfl) (by simp) ?_
      refine cons' rfl (fun KK hKK => ?_)
      go_simp
      refine hKK.out _ _ hHeld ?_
      clear hHeld
      intro hHeld
      clear hKK KK
      try simp only [Act.put, List.setIfInBounds_toArray, List.set_cons_zero, List.set_cons_succ]
      refine wpAnyH_ready (rs := [16]) (by kernel_rfl) (by simp) ?_
      refine cons' rfl (fun KK hKK => ?_)
      have hO := (h5.rrow (i := i) il).1
      change World.ownsRow _ 0 _ 1 ((V.wv.getD i default).val (u.ws.getD i []).length) (u.ws.getD i []).length (iv (u.ws.getD i [])) at hO
      rw [HSV.out, HR.out] at hO
      have hl1 : r.length + 1 ≤ maxLen := by have := HM.out; omega
      have hl2 : (r.length + 1) * 8 ≤ 140737488355328 := by omega
      refine step_append_lies _ (by rfl) _ _ _ (by rfl) 0 3 ii _ 1 8 Try.underlying40 hii hiz his hib rfl (by omega) (.slice sv.at' r.length sv.c) r.length (iv r) (by rfl) hO ⟨na, 0, none⟩ 1 1 [.int .i64 n] (by rfl) (by rfl) (World.news_of_block (cs := #[.int .i64 n]) (t := 3) (fr := (0, 0)) hnew) (by simp [Value.oneCell']) (by omega) hl1 hl2 (Nat.zero_le _) _ rfl ?_
      intro gb cap w8 hown hgrow hat hlt
      have hRA := h5.rrow (i := i) il
      change RowAt _ _ _ _ _ (V.wv.getD i default) (u.ws.getD i []).length (iv (u.ws.getD i [])) at hRA
      rw [HSV.out, HR.out] at hRA
      obtain ⟨R1, R2⟩ := RowAt.app hRA hown hgrow hat rfl hlt
      have P5 := UM.set_ws h5 (i := i) (r := r ++ [(n : Int)]) il hgW (by rw [List.length_append, iv_append]; exact R1) R2
      rw [SlV.val_some rfl, List.length_append] at P5
      change UM (w8.setCell ⟨gW, i, none⟩ (.slice (some ⟨gb, 0, none⟩) (r.length + 1) cap)) _ _ _ _ ∧ _ at P5
      have q3 := ((h5.part .st).app R2 (by simp)).2.2.2.2.2.1
      rw [SlV.val_some hgW] at q3
      have hRW : RowAt _ _ _ _ _ _ _ _ := (h5.part .ws).app R2 (by simp)
      have kg := hRW.cell hgW (j := i) (by show i < u.ws.length * 1; omega)
      rw [wsC_at _ _ i h5.nwv il] at kg
      have fg := fun o => (hRW.row hgW).frozen o
      have S6 := S5.out.trans ((Step.of_below bT).trans P5.2)
      have HF := hide' (show _ ∧ Step ow _ w _ from ⟨P5.1, S6⟩)
      clear P5 S6 R1 R2 hRA hRW hown hgrow hat hlt hO hl1 hl2 hnew kw S5
      refine hKK.out _ _ q3 ?_
      clear hHeld
      intro hHeld
      clear hKK KK
      try simp only [Act.put, List.setIfInBounds_toArray, List.set_cons_zero, List.set_cons_succ]
      clear q3 h5 bT
      refine take' 17 (v := ?_) rfl (by kernel_rfl) (by kernel_rfl) (by kernel_rfl) (fun _ _ _ h => h) (Or.inl ⟨by rfl, ?_⟩) (by assumption) ?_
      rotate_left
      · intro w9 hSw
        go_simp
        first | done | with_reducible rfl
      simp only [Act.put, List.setIfInBounds_toArray, List.set_cons_zero, List.set_cons_succ]
      refine wpAnyH_ready (rs := [18]) (by kernel_rfl) (by simp) ?_
      refine cons' rfl (fun KK hKK => ?_)
      have q3 := HF.out.1.cells.2.2.2.2.2.1
      rw [SlV.val_some hgW] at q3
      change World.cell? _ _ = some (.slice (some ⟨gW, 0, none⟩) (u.ws.set i (r ++ [(n : Int)])).length V.ws.c) at q3
      rw [List.length_set] at q3
      go_simp
      refine hKK.out _ _ q3 ?_
      clear hHeld
      intro hHeld
      clear hKK KK
      try simp only [Act.put, List.setIfInBounds_toArray, List.set_cons_zero, List.set_cons_succ]
      clear q3 kg fg
      refine wpAnyH_done (by kernel_rfl) ?_ _
      go_wp2_with fail
      refine bodyPost_end (v := .tuple #[]) (by kernel_rfl) rfl ?_
      exact ⟨⟨_, rfl⟩, Chd.mk HF.out.1 HF.out.2⟩
    exact AllReadyH.nil
def joinA1 (u : US) (n : Nat) (x : Int) : US := { u with cl := u.cl.set n { u.cl.getD n default with b1 := x } }
def joinB1 (u : US) (n : Nat) (x : Int) : US := { joinA1 u n x with cl := (joinA1 u n x).cl.set n { (joinA1 u n x).cl.getD n default with a1 := ((u.ws.getD (lstV x) []).length : Nat) } }
def joinU1 (u : US) (n : Nat) (x : Int) : US := if x = 0 then joinA1 u n x else { joinB1 u n x with ws := u.ws.set (lstV x) (u.ws.getD (lstV x) [] ++ [(n : Int)]) }
set_option maxHeartbeats 8000000 in
set_option maxRecDepth 100000 in
theorem join1_is (ow : Nat → Tg) (b : Nat) (V : SV) (u : US) (n : Nat) (x : Int) (hx : InR u x) (hn : n < u.cl.length) (hC : u.cl.length ≤ 1048576) (hw : u.ws.length = 2 * u.tr.length) (hlr : (u.ws.getD (lstV x) []).length ≤ 1048576) (w : World) (h : UM w ow b V u) (hr : Rd u)  :
    Calls Try.prog 67 #[.pointer (some ⟨b, 0, none⟩), .int .i64 n, .int .i64 1, .int .i64 x] w fun e w' => (∃ v, e = .returned v) ∧ Chd ow b V (joinU1 u n x) w w' := by
  have HM := hide' maxLen_is
  have hT := hr.nT
  have hlx := lstV_lt hx
  have hx1 := hx.1
  have hx2 := hx.2
  clear hr hx
  have HW := hide' hw
  have hw2 : lstV x < u.ws.length := by omega
  clear hw
  obtain ⟨ii, hii, hiz, his, hib⟩ := info_parts info_i
  obtain ⟨gC, hgC⟩ := h.rcl.got (by omega)
  obtain ⟨gW, hgW⟩ := h.rws.got (by omega)
  have k2 := h.cells.2.2.2.2.1
  rw [SlV.val_some hgC] at k2
  have kb := h.rcl.cell hgC (j := n * 6 + 2) (by omega)
  rw [(clC_at _ _ n h.nlv hn).2.2.1] at kb
  have fzC := fun o => (h.rcl.row hgC).frozen o
  have P1 := h.set_b1 x hgC hn
  obtain ⟨w1, hw1⟩ : ∃ w1, w.setCell ⟨gC, n * 6 + 2, none⟩ (.int .i64 x) = w1 := ⟨_, rfl⟩
  rw [hw1] at P1
  change UM w1 ow b _ (joinA1 u n x) ∧ _ at P1
  clear h
  by_cases h0 : x = 0
  · have HJ : joinU1 u n x = joinA1 u n x := by unfold joinU1; rw [if_pos h0]
    rw [HJ]
    have HC := hide' (Chd.mk (V := V) P1.1 P1.2)
    clear P1 HJ
    subst h0
    go_enter Try.func67, Try.ntmps67
    go_wp2_with fail
    refine bodyPost_ret (v := .tuple #[]) (by kernel_rfl) rfl ?_
    exact ⟨⟨_, rfl⟩, HC.out⟩
  · have HJ : joinU1 u n x = { joinB1 u n x with ws := u.ws.set (lstV x) (u.ws.getD (lstV x) [] ++ [(n : Int)]) } := by unfold joinU1; rw [if_neg h0]
    rw [HJ]
    replace HJ : Hid True := hide' trivial
    obtain ⟨i, hi⟩ : ∃ i, lstV x = i := ⟨_, rfl⟩
    have GL := hide' (fun w' => list_is x (by omega) (by omega) w')
    rw [hi] at GL hlr hlx hw2 ⊢
    have il : i < u.ws.length := hw2
    obtain ⟨h1, S1⟩ := P1
    have k3 := h1.cells.2.2.2.2.2.1
    rw [SlV.val_some hgW] at k3
    have kw := h1.rws.cell hgW (j := i) (by show i < u.ws.length * 1; omega)
    rw [wsC_at _ _ i h1.nwv il] at kw
    change w1.cell? ⟨gW, i, none⟩ = some ((V.wv.getD i default).val (u.ws.getD i []).length) at kw
    change w1.cell? ⟨b, 3, none⟩ = some (.slice (some ⟨gW, 0, none⟩) u.ws.length V.ws.c) at k3
    have hn1 : n < (joinA1 u n x).cl.length := by show n < (u.cl.set _ _).length; rw [List.length_set]; exact hn
    have ka := h1.rcl.cell hgC (j := n * 6 + 4) (by omega)
    rw [(clC_at _ _ n h1.nlv hn1).2.2.2.2.1] at ka
    clear ka
    obtain ⟨sv, hsv⟩ : ∃ sv, V.wv.getD i default = sv := ⟨_, rfl⟩
    obtain ⟨r, hr⟩ : ∃ r, u.ws.getD i [] = r := ⟨_, rfl⟩
    rw [hsv, hr] at kw
    rw [hr] at hlr ⊢
    unfold SlV.val at kw
    have HJA := hide' (show joinB1 u n x = { joinA1 u n x with cl := (joinA1 u n x).cl.set n { (joinA1 u n x).cl.getD n default with a1 := ((r.length : Nat) : Int) } } by unfold joinB1; rw [hi, hr])
    have HSV := hide' hsv
    have HR := hide' hr
    clear hsv hr hi
    replace S1 := hide' S1
    go_enter Try.func67, Try.ntmps67
    go_wp2_with fail
    have bT : Below w1.heap.size w1 w1 := Below.refl _ _
    have bD : Below w1.heap.size w1 w1.drew := (Below.refl _ _).drew
    have kk3 := below_cell bD k3
    have kkw := below_cell bD kw
    replace bT := bT.trans (bD.mono bT.size)
    replace h1 := h1.later bD
    refine wp_region_held_drew (S := fun w' => w'.cell? ⟨b, 3, none⟩ = some (.slice (some ⟨gW, 0, none⟩) u.ws.length V.ws.c) ∧ w'.cell? ⟨gW, i, none⟩ = some (.slice sv.at' r.length sv.c)) (by kernel_rfl) ⟨kk3, kkw⟩ (fun hHeld => ?_)
    clear kk3 kkw
    generalize w1.drew = w4 at bD h1 bT hHeld ⊢
    clear bD
    refine take' 0 (v := ?_) rfl (by kernel_rfl) (by kernel_rfl) (by kernel_rfl) (fun _ _ _ h => h) (Or.inl ⟨by rfl, ?_⟩) (by assumption) ?_
    rotate_left
    · intro w9 hSw
      go_simp
      first | done | with_reducible rfl
    simp only [Act.put, List.setIfInBounds_toArray, List.set_cons_zero, List.set_cons_succ]
    refine take' 1 (v := ?_) rfl (by kernel_rfl) (by kernel_rfl) (by kernel_rfl) (fun _ _ _ h => h) (Or.inl ⟨by rfl, ?_⟩) (by assumption) ?_
    rotate_left
    · intro w9 hSw
      go_simp
      first | done | with_reducible rfl
    simp only [Act.put, List.setIfInBounds_toArray, List.set_cons_zero, List.set_cons_succ]
    refine take' 2 (v := ?_) rfl (by kernel_rfl) (by kernel_rfl) (by kernel_rfl) (fun _ _ _ h => h) (Or.inl ⟨by rfl, ?_⟩) (by assumption) ?_
    rotate_left
    · intro w9 hSw
      go_simp
      first | done | with_reducible rfl
    simp only [Act.put, List.setIfInBounds_toArray, List.set_cons_zero, List.set_cons_succ]
    refine take' 3 (v := ?_) rfl (by kernel_rfl) (by kernel_rfl) (by kernel_rfl) (fun _ _ _ h => h) (Or.inl ⟨by rfl, ?_⟩) (by assumption) ?_
    rotate_left
    · intro w9 hSw
      go_simp
      first | done | with_reducible rfl
    simp only [Act.put, List.setIfInBounds_toArray, List.set_cons_zero, List.set_cons_succ]
    refine take' 4 (v := ?_) rfl (by kernel_rfl) (by kernel_rfl) (by kernel_rfl) (fun _ _ _ h => h) (Or.inl ⟨by rfl, ?_⟩) (by assumption) ?_
    rotate_left
    · intro w9 hSw
      go_simp
      first | done | with_reducible rfl
    simp only [Act.put, List.setIfInBounds_toArray, List.set_cons_zero, List.set_cons_succ]
    refine take' 5 (v := ?_) rfl (by kernel_rfl) (by kernel_rfl) (by kernel_rfl) (fun _ _ _ h => h) (Or.inl ⟨by rfl, ?_⟩) (by assumption) ?_
    rotate_left
    · intro w9 hSw
      go_simp
      first | done | with_reducible rfl
    simp only [Act.put, List.setIfInBounds_toArray, List.set_cons_zero, List.set_cons_succ]
    refine take' 6 (v := ?_) rfl (by kernel_rfl) (by kernel_rfl) (by kernel_rfl) (fun _ _ _ h => h) (Or.inl ⟨by rfl, ?_⟩) (by assumption) ?_
    rotate_left
    · intro w9 hSw
      go_simp
      first | done | with_reducible rfl
    simp only [Act.put, List.setIfInBounds_toArray, List.set_cons_zero, List.set_cons_succ]
    refine take' 11 (v := ?_) rfl (by kernel_rfl) (by kernel_rfl) (by kernel_rfl) (fun _ _ _ h => h) (Or.inl ⟨by rfl, ?_⟩) (by assumption) ?_
    rotate_left
    · intro w9 hSw
      go_simp
      first | done | with_reducible rfl
    simp only [Act.put, List.setIfInBounds_toArray, List.set_cons_zero, List.set_cons_succ]
    refine take' 12 (v := ?_) rfl (by kernel_rfl) (by kernel_rfl) (by kernel_rfl) (fun _ _ _ h => h) (Or.inl ⟨by rfl, ?_⟩) (by assumption) ?_
    rotate_left
    · intro w9 hSw
      go_simp
      first | done | with_reducible rfl
    simp only [Act.put, List.setIfInBounds_toArray, List.set_cons_zero, List.set_cons_succ]
    refine wpAnyH_ready (rs := [7]) (by kernel_rfl) (by simp) ?_
    refine cons' rfl (fun KK hKK => ?_)
    go_simp
    refine (GL.out _).mono ?_
    rintro e w9 ⟨rfl, hw9⟩
    rw [hw9]
    clear hw9 w9
    go_wp2_with fail
    refine hKK.out _ _ hHeld ?_
    clear hHeld
    intro hHeld
    clear hKK KK
    try simp only [Act.put, List.setIfInBounds_toArray, List.set_cons_zero, List.set_cons_succ]
    refine take' 8 (v := ?_) rfl (by kernel_rfl) (by kernel_rfl) (by kernel_rfl) (fun _ _ _ h => h) (Or.inl ⟨by rfl, ?_⟩) (by assumption) ?_
    rotate_left
    · intro w9 hSw
      go_simp
      first | done | with_reducible rfl
    simp only [Act.put, List.setIfInBounds_toArray, List.set_cons_zero, List.set_cons_succ]
    refine take' 9 (v := ?_) rfl (by kernel_rfl) (by kernel_rfl) (by kernel_rfl) (fun _ _ _ h => h) (Or.inl ⟨by rfl, ?_⟩) (by assumption) ?_
    rotate_left
    · intro w9 hSw
      go_simp
      first | done | with_reducible rfl
    simp only [Act.put, List.setIfInBounds_toArray, List.set_cons_zero, List.set_cons_succ]
    refine take' 10 (v := ?_) rfl (by kernel_rfl) (by kernel_rfl) (by kernel_rfl) (fun _ _ _ h => h) (Or.inl ⟨by rfl, ?_⟩) (by assumption) ?_
    rotate_left
    · intro w9 hSw
      go_simp
      first | done | with_reducible rfl
    simp only [Act.put, List.setIfInBounds_toArray, List.set_cons_zero, List.set_cons_succ]
    refine take' 13 (v := ?_) rfl (by kernel_rfl) (by kernel_rfl) (by kernel_rfl) (fun _ _ _ h => h) (Or.inl ⟨by rfl, ?_⟩) (by assumption) ?_
    rotate_left
    · intro w9 hSw
      go_simp
      first | done | with_reducible rfl
    simp only [Act.put, List.setIfInBounds_toArray, List.set_cons_zero, List.set_cons_succ]
    refine wpAnyH_ready (rs := [14]) (by kernel_rfl) (by simp) ?_
    refine cons' rfl (fun KK hKK => ?_)
    have ka := h1.rcl.cell hgC (j := n * 6 + 4) (by omega)
    rw [(clC_at _ _ n h1.nlv hn1).2.2.2.2.1] at ka
    have fz1 := fun o => (h1.rcl.row hgC).frozen o
    have P2 := h1.set_a1 ((r.length : Nat) : Int) hgC hn1
    rw [← HJA.out] at P2
    have q3 := P2.1.cells.2.2.2.2.2.1
    rw [SlV.val_some hgW] at q3
    have qw := P2.1.rws.cell hgW (j := i) (by show i < u.ws.length * 1; omega)
    rw [wsC_at _ _ i P2.1.nwv il] at qw
    change World.cell? _ ⟨gW, i, none⟩ = some ((V.wv.getD i default).val (u.ws.getD i []).length) at qw
    rw [HSV.out, HR.out] at qw
    unfold SlV.val at qw
    replace P2 := hide' P2
    go_simp
    refine hKK.out _ _ ⟨q3, qw⟩ ?_
    clear hHeld
    intro hHeld
    clear hKK KK
    try simp only [Act.put, List.setIfInBounds_toArray, List.set_cons_zero, List.set_cons_succ]
    clear q3 qw ka fz1
    have h5 := P2.out.1
    have S5 := S1.out.trans ((Step.of_below bT).trans P2.out.2)
    clear P2 S1 h1 bT
    generalize w4.setCell ⟨gC, n * 6 + 4, none⟩ (.int .i64 (r.length : Nat)) = w5 at h5 S5 hHeld ⊢
    refine wpAnyH_done (by kernel_rfl) ?_ _
    go_wp2_with fail
    obtain ⟨k3, kw⟩ := hHeld
    replace S5 := hide' S5
    have bT : Below w5.heap.size w5 w5 := Below.refl _ _
    have bD : Below w5.heap.size w5 w5.drew := (Below.refl _ _).drew
    have kk3 := below_cell bD k3
    replace bT := bT.trans (bD.mono bT.size)
    replace h5 := h5.later bD
    replace kw := below_cell bD kw
    refine wp_region_held_drew (S := fun w' => w'.cell? ⟨b, 3, none⟩ = some (.slice (some ⟨gW, 0, none⟩) u.ws.length V.ws.c)) (by kernel_rfl) kk3 (fun hHeld => ?_)
    clear kk3
    generalize w5.drew = w6 at bD h5 kw bT hHeld ⊢
    clear bD
    refine take' 0 (v := ?_) rfl (by kernel_rfl) (by kernel_rfl) (by kernel_rfl) (fun _ _ _ h => h) (Or.inl ⟨by rfl, ?_⟩) (by assumption) ?_
    rotate_left
    · intro w9 hSw
      go_simp
      first | done | with_reducible rfl
    simp only [Act.put, List.setIfInBounds_toArray, List.set_cons_zero, List.set_cons_succ]
    refine take' 1 (v := ?_) rfl (by kernel_rfl) (by kernel_rfl) (by kernel_rfl) (fun _ _ _ h => h) (Or.inl ⟨by rfl, ?_⟩) (by assumption) ?_
    rotate_left
    · intro w9 hSw
      go_simp
      first | done | with_reducible rfl
    simp only [Act.put, List.setIfInBounds_toArray, List.set_cons_zero, List.set_cons_succ]
    refine take' 2 (v := ?_) rfl (by kernel_rfl) (by kernel_rfl) (by kernel_rfl) (fun _ _ _ h => h) (Or.inl ⟨by rfl, ?_⟩) (by assumption) ?_
    rotate_left
    · intro w9 hSw
      go_simp
      first | done | with_reducible rfl
    simp only [Act.put, List.setIfInBounds_toArray, List.set_cons_zero, List.set_cons_succ]
    refine take' 3 (v := ?_) rfl (by kernel_rfl) (by kernel_rfl) (by kernel_rfl) (fun _ _ _ h => h) (Or.inl ⟨by rfl, ?_⟩) (by assumption) ?_
    rotate_left
    · intro w9 hSw
      go_simp
      first | done | with_reducible rfl
    simp only [Act.put, List.setIfInBounds_toArray, List.set_cons_zero, List.set_cons_succ]
    refine take' 4 (v := ?_) rfl (by kernel_rfl) (by kernel_rfl) (by kernel_rfl) (fun _ _ _ h => h) (Or.inl ⟨by rfl, ?_⟩) (by assumption) ?_
    rotate_left
    · intro w9 hSw
      go_simp
      first | done | with_reducible rfl
    simp only [Act.put, List.setIfInBounds_toArray, List.set_cons_zero, List.set_cons_succ]
    refine take' 6 (v := ?_) rfl (by kernel_rfl) (by kernel_rfl) (by kernel_rfl) (fun _ _ _ h => h) (Or.inl ⟨by rfl, ?_⟩) (by assumption) ?_
    rotate_left
    · intro w9 hSw
      go_simp
      first | done | with_reducible rfl
    simp only [Act.put, List.setIfInBounds_toArray, List.set_cons_zero, List.set_cons_succ]
    refine take' 7 (v := ?_) rfl (by kernel_rfl) (by kernel_rfl) (by kernel_rfl) (fun _ _ _ h => h) (Or.inl ⟨by rfl, ?_⟩) (by assumption) ?_
    rotate_left
    · intro w9 hSw
      go_simp
      first | done | with_reducible rfl
    simp only [Act.put, List.setIfInBounds_toArray, List.set_cons_zero, List.set_cons_succ]
    refine take' 8 (v := ?_) rfl (by kernel_rfl) (by kernel_rfl) (by kernel_rfl) (fun _ _ _ h => h) (Or.inl ⟨by rfl, ?_⟩) (by assumption) ?_
    rotate_left
    · intro w9 hSw
      go_simp
      first | done | with_reducible rfl
    simp only [Act.put, List.setIfInBounds_toArray, List.set_cons_zero, List.set_cons_succ]
    refine take' 9 (v := ?_) rfl (by kernel_rfl) (by kernel_rfl) (by kernel_rfl) (fun _ _ _ h => h) (Or.inl ⟨by rfl, ?_⟩) (by assumption) ?_
    rotate_left
    · intro w9 hSw
      go_simp
      first | done | with_reducible rfl
    simp only [Act.put, List.setIfInBounds_toArray, List.set_cons_zero, List.set_cons_succ]
    refine take' 10 (v := ?_) rfl (by kernel_rfl) (by kernel_rfl) (by kernel_rfl) (fun _ _ _ h => h) (Or.inl ⟨by rfl, ?_⟩) (by assumption) ?_
    rotate_left
    · intro w9 hSw
      go_simp
      first | done | with_reducible rfl
    simp only [Act.put, List.setIfInBounds_toArray, List.set_cons_zero, List.set_cons_succ]
    refine take' 14 (v := ?_) rfl (by kernel_rfl) (by kernel_rfl) (by kernel_rfl) (fun _ _ _ h => h) (Or.inl ⟨by rfl, ?_⟩) (by assumption) ?_
    rotate_left
    · intro w9 hSw
      go_simp
      first | done | with_reducible rfl
    simp only [Act.put, List.setIfInBounds_toArray, List.set_cons_zero, List.set_cons_succ]
    refine wpAnyH_ready (rs := [5, 15]) (by kernel_rfl) (by simp) ?_
    refine consT rfl (fun KK hKK => ?_) ?_
    · skip
      go_simp
      refine (GL.out _).mono ?_
      rintro e w9 ⟨rfl, hw9⟩
      rw [hw9]
      clear hw9 w9
      go_wp2_with fail
      refine hKK.out _ _ hHeld ?_
      clear hHeld
      intro hHeld
      clear hKK KK
      try simp only [Act.put, List.setIfInBounds_toArray, List.set_cons_zero, List.set_cons_succ]
      refine wpAnyH_ready (rs := [11, 15]) (by kernel_rfl) (by simp) ?_
      refine consT rfl (fun KK hKK => ?_) ?_
      · skip
        go_simp
        refine (GL.out _).mono ?_
        rintro e w9 ⟨rfl, hw9⟩
        rw [hw9]
        clear hw9 w9
        go_wp2_with fail
        refine hKK.out _ _ hHeld ?_
        clear hHeld
        intro hHeld
        clear hKK KK
        try simp only [Act.put, List.setIfInBounds_toArray, List.set_cons_zero, List.set_cons_succ]
        refine take' 12 (v := ?_) rfl (by kernel_rfl) (by kernel_rfl) (by kernel_rfl) (fun _ _ _ h => h) (Or.inl ⟨by rfl, ?_⟩) (by assumption) ?_
        rotate_left
        · intro w9 hSw
          go_simp
          first | done | with_reducible rfl
        simp only [Act.put, List.setIfInBounds_toArray, List.set_cons_zero, List.set_cons_succ]
        refine wpAnyH_ready (rs := [13, 15]) (by kernel_rfl) (by simp) ?_
        refine consT rfl (fun KK hKK => ?_) ?_
        · skip
          go_simp
          refine hKK.out _ _ hHeld ?_
          clear hHeld
          intro hHeld
          clear hKK KK
          try simp only [Act.put, List.setIfInBounds_toArray, List.set_cons_zero, List.set_cons_succ]
          refine wpAnyH_ready (rs := [15]) (by kernel_rfl) (by simp) ?_
          refine cons' rfl (fun KK hKK => ?_)
          go_simp
          have hnew := heap_alloc_new w6 (.cells #[.int .i64 n] 3)
          have b3 := below_alloc (w := w6) (.cells #[.int .i64 n] 3)
          obtain ⟨na, hna⟩ : ∃ na, w6.heap.size = na := ⟨_, rfl⟩
          rw [hna] at hnew
          try rw [hna]
          generalize w6.alloc (.cells #[.int .i64 n] 3) = w7 at hnew b3 ⊢
          replace hnew : w7.heap[na]? = _ := hnew
          replace bT := bT.trans (b3.mono bT.size)
          replace h5 := h5.later b3
          replace kw := below_cell b3 kw
          replace hHeld := below_cell b3 hHeld
          clear b3 hna
          refine hKK.out _ _ hHeld ?_
          clear hHeld
          intro hHeld
          clear hKK KK
          try simp only [Act.put, List.setIfInBounds_toArray, List.set_cons_zero, List.set_cons_succ]
          refine wpAnyH_ready (rs := [16]) (by kernel_rfl) (by simp) ?_
          refine cons' rfl (fun KK hKK => ?_)
          have hO := (h5.rrow (i := i) il).1
          change World.ownsRow _ 0 _ 1 ((V.wv.getD i default).val (u.ws.getD i []).length) (u.ws.getD i []).length (iv (u.ws.getD i [])) at hO
          rw [HSV.out, HR.out] at hO
          have hl1 : r.length + 1 ≤ maxLen := by have := HM.out; omega
          have hl2 : (r.length + 1) * 8 ≤ 140737488355328 := by omega
          refine step_append_lies _ (by rfl) _ _ _ (by rfl) 0 3 ii _ 1 8 Try.underlying40 hii hiz his hib rfl (by omega) (.slice sv.at' r.length sv.c) r.length (iv r) (by rfl) hO ⟨na, 0, none⟩ 1 1 [.int .i64 n] (by rfl) (by rfl) (World.news_of_block (cs := #[.int .i64 n]) (t := 3) (fr := (0, 0)) hnew) (by simp [Value.oneCell']) (by omega) hl1 hl2 (Nat.zero_le _) _ rfl ?_
          intro gb cap w8 hown hgrow hat hlt
          have hRA := h5.rrow (i := i) il
          change RowAt _ _ _ _ _ (V.wv.getD i default) (u.ws.getD i []).length (iv (u.ws.getD i [])) at hRA
          rw [HSV.out, HR.out] at hRA
          obtain ⟨R1, R2⟩ := RowAt.app hRA hown hgrow hat rfl hlt
          have P5 := UM.set_ws h5 (i := i) (r := r ++ [(n : Int)]) il hgW (by rw [List.length_append, iv_append]; exact R1) R2
          rw [SlV.val_some rfl, List.length_append] at P5
          change UM (w8.setCell ⟨gW, i, none⟩ (.slice (some ⟨gb, 0, none⟩) (r.length + 1) cap)) _ _ _ _ ∧ _ at P5
          have q3 := ((h5.part .st).app R2 (by simp)).2.2.2.2.2.1
          rw [SlV.val_some hgW] at q3
          have hRW : RowAt _ _ _ _ _ _ _ _ := (h5.part .ws).app R2 (by simp)
          have kg := hRW.cell hgW (j := i) (by show i < u.ws.length * 1; omega)
          rw [wsC_at _ _ i h5.nwv il] at kg
          have fg := fun o => (hRW.row hgW).frozen o
          have S6 := S5.out.trans ((Step.of_below bT).trans P5.2)
          have HF := hide' (show _ ∧ Step ow _ w _ from ⟨P5.1, S6⟩)
          clear P5 S6 R1 R2 hRA hRW hown hgrow hat hlt hO hl1 hl2 hnew kw S5
          refine hKK.out _ _ q3 ?_
          clear hHeld
          intro hHeld
          clear hKK KK
          try simp only [Act.put, List.setIfInBounds_toArray, List.set_cons_zero, List.set_cons_succ]
          clear q3 h5 bT
          refine take' 17 (v := ?_) rfl (by kernel_rfl) (by kernel_rfl) (by kernel_rfl) (fun _ _ _ h => h) (Or.inl ⟨by rfl, ?_⟩) (by assumption) ?_
          rotate_left
          · intro w9 hSw
            go_simp
            first | done | with_reducible rfl
          simp only [Act.put, List.setIfInBounds_toArray, List.set_cons_zero, List.set_cons_succ]
          refine wpAnyH_ready (rs := [18]) (by kernel_rfl) (by simp) ?_
          refine cons' rfl (fun KK hKK => ?_)
          have q3 := HF.out.1.cells.2.2.2.2.2.1
          rw [SlV.val_some hgW] at q3
          change World.cell? _ _ = some (.slice (some ⟨gW, 0, none⟩) (u.ws.set i (r ++ [(n : Int)])).length V.ws.c) at q3
          rw [List.length_set] at q3
          go_simp
          refine hKK.out _ _ q3 ?_
          clear hHeld
          intro hHeld
          clear hKK KK
          try simp only [Act.put, List.setIfInBounds_toArray, List.set_cons_zero, List.set_cons_succ]
          clear q3 kg fg
          refine wpAnyH_done (by kernel_rfl) ?_ _
          go_wp2_with fail
          refine bodyPost_end (v := .tuple #[]) (by kernel_rfl) rfl ?_
          exact ⟨⟨_, rfl⟩, Chd.mk HF.out.1 HF.out.2⟩
        refine consT rfl (fun KK hKK => ?_) ?_
        · skip
          go_simp
          have hnew := heap_alloc_new w6 (.cells #[.int .i64 n] 3)
          have b3 := below_alloc (w := w6) (.cells #[.int .i64 n] 3)
          obtain ⟨na, hna⟩ : ∃ na, w6.heap.size = na := ⟨_, rfl⟩
          rw [hna] at hnew
          try rw [hna]
          generalize w6.alloc (.cells #[.int .i64 n] 3) = w7 at hnew b3 ⊢
          replace hnew : w7.heap[na]? = _ := hnew
          replace bT := bT.trans (b3.mono bT.size)
          replace h5 := h5.later b3
          replace kw := below_cell b3 kw
          replace hHeld := below_cell b3 hHeld
          clear b3 hna
          refine hKK.out _ _ hHeld ?_
          clear hHeld
          intro hHeld
          clear hKK KK
          try simp only [Act.put, List.setIfInBounds_toArray, List.set_cons_zero, List.set_cons_succ]
          refine wpAnyH_ready (rs := [13]) (by kernel_rfl) (by simp) ?_
          refine cons' rfl (fun KK hKK => ?_)
          go_simp
          refine hKK.out _ _ hHeld ?_
          clear hHeld
          intro hHeld
          clear hKK KK
          try simp only [Act.put, List.setIfInBounds_toArray, List.set_cons_zero, List.set_cons_succ]
          refine wpAnyH_ready (rs := [16]) (by kernel_rfl) (by simp) ?_
          refine cons' rfl (fun KK hKK => ?_)
          have hO := (h5.rrow (i := i) il).1
          change World.ownsRow _ 0 _ 1 ((V.wv.getD i default).val (u.ws.getD i []).length) (u.ws.getD i []).length (iv (u.ws.getD i [])) at hO
          rw [HSV.out, HR.out] at hO
          have hl1 : r.length + 1 ≤ maxLen := by have := HM.out; omega
          have hl2 : (r.length + 1) * 8 ≤ 140737488355328 := by omega
          refine step_append_lies _ (by rfl) _ _ _ (by rfl) 0 3 ii _ 1 8 Try.underlying40 hii hiz his hib rfl (by omega) (.slice sv.at' r.length sv.c) r.length (iv r) (by rfl) hO ⟨na, 0, none⟩ 1 1 [.int .i64 n] (by rfl) (by rfl) (World.news_of_block (cs := #[.int .i64 n]) (t := 3) (fr := (0, 0)) hnew) (by simp [Value.oneCell']) (by omega) hl1 hl2 (Nat.zero_le _) _ rfl ?_
          intro gb cap w8 hown hgrow hat hlt
          have hRA := h5.rrow (i := i) il
          change RowAt _ _ _ _ _ (V.wv.getD i default) (u.ws.getD i []).length (iv (u.ws.getD i [])) at hRA
          rw [HSV.out, HR.out] at hRA
          obtain ⟨R1, R2⟩ := RowAt.app hRA hown hgrow hat rfl hlt
          have P5 := UM.set_ws h5 (i := i) (r := r ++ [(n : Int)]) il hgW (by rw [List.length_append, iv_append]; exact R1) R2
          rw [SlV.val_some rfl, List.length_append] at P5
          change UM (w8.setCell ⟨gW, i, none⟩ (.slice (some ⟨gb, 0, none⟩) (r.length + 1) cap)) _ _ _ _ ∧ _ at P5
          have q3 := ((h5.part .st).app R2 (by simp)).2.2.2.2.2.1
          rw [SlV.val_some hgW] at q3
          have hRW : RowAt _ _ _ _ _ _ _ _ := (h5.part .ws).app R2 (by simp)
          have kg := hRW.cell hgW (j := i) (by show i < u.ws.length * 1; omega)
          rw [wsC_at _ _ i h5.nwv il] at kg
          have fg := fun o => (hRW.row hgW).frozen o
          have S6 := S5.out.trans ((Step.of_below bT).trans P5.2)
          have HF := hide' (show _ ∧ Step ow _ w _ from ⟨P5.1, S6⟩)
          clear P5 S6 R1 R2 hRA hRW hown hgrow hat hlt hO hl1 hl2 hnew kw S5
          refine hKK.out _ _ q3 ?_
          clear hHeld
          intro hHeld
          clear hKK KK
          try simp only [Act.put, List.setIfInBounds_toArray, List.set_cons_zero, List.set_cons_succ]
          clear q3 h5 bT
          refine take' 17 (v := ?_) rfl (by kernel_rfl) (by kernel_rfl) (by kernel_rfl) (fun _ _ _ h => h) (Or.inl ⟨by rfl, ?_⟩) (by assumption) ?_
          rotate_left
          · intro w9 hSw
            go_simp
            first | done | with_reducible rfl
          simp only [Act.put, List.setIfInBounds_toArray, List.set_cons_zero, List.set_cons_succ]
          refine wpAnyH_ready (rs := [18]) (by kernel_rfl) (by simp) ?_
          refine cons' rfl (fun KK hKK => ?_)
          have q3 := HF.out.1.cells.2.2.2.2.2.1
          rw [SlV.val_some hgW] at q3
          change World.cell? _ _ = some (.slice (some ⟨gW, 0, none⟩) (u.ws.set i (r ++ [(n : Int)])).length V.ws.c) at q3
          rw [List.length_set] at q3
          go_simp
          refine hKK.out _ _ q3 ?_
          clear hHeld
          intro hHeld
          clear hKK KK
          try simp only [Act.put, List.setIfInBounds_toArray, List.set_cons_zero, List.set_cons_succ]
          clear q3 kg fg
          refine wpAnyH_done (by kernel_rfl) ?_ _
          go_wp2_with fail
          refine bodyPost_end (v := .tuple #[]) (by kernel_rfl) rfl ?_
          exact ⟨⟨_, rfl⟩, Chd.mk HF.out.1 HF.out.2⟩
        exact AllReadyH.nil
      refine consT rfl (fun KK hKK => ?_) ?_
      · skip
        go_simp
        have hnew := heap_alloc_new w6 (.cells #[.int .i64 n] 3)
        have b3 := below_alloc (w := w6) (.cells #[.int .i64 n] 3)
        obtain ⟨na, hna⟩ : ∃ na, w6.heap.size = na := ⟨_, rfl⟩
        rw [hna] at hnew
        try rw [hna]
        generalize w6.alloc (.cells #[.int .i64 n] 3) = w7 at hnew b3 ⊢
        replace hnew : w7.heap[na]? = _ := hnew
        replace bT := bT.trans (b3.mono bT.size)
        replace h5 := h5.later b3
        replace kw := below_cell b3 kw
        replace hHeld := below_cell b3 hHeld
        clear b3 hna
        refine hKK.out _ _ hHeld ?_
        clear hHeld
        intro hHeld
        clear hKK KK
        try simp only [Act.put, List.setIfInBounds_toArray, List.set_cons_zero, List.set_cons_succ]
        refine wpAnyH_ready (rs := [11]) (by kernel_rfl) (by simp) ?_
        refine cons' rfl (fun KK hKK => ?_)
        go_simp
        refine (GL.out _).mono ?_
        rintro e w9 ⟨rfl, hw9⟩
        rw [hw9]
        clear hw9 w9
        go_wp2_with fail
        refine hKK.out _ _ hHeld ?_
        clear hHeld
        intro hHeld
        clear hKK KK
        try simp only [Act.put, List.setIfInBounds_toArray, List.set_cons_zero, List.set_cons_succ]
        refine take' 12 (v := ?_) rfl (by kernel_rfl) (by kernel_rfl) (by kernel_rfl) (fun _ _ _ h => h) (Or.inl ⟨by rfl, ?_⟩) (by assumption) ?_
        rotate_left
        · intro w9 hSw
          go_simp
          first | done | with_reducible rfl
        simp only [Act.put, List.setIfInBounds_toArray, List.set_cons_zero, List.set_cons_succ]
        refine wpAnyH_ready (rs := [13]) (by kernel_rfl) (by simp) ?_
        refine cons' rfl (fun KK hKK => ?_)
        go_simp
        refine hKK.out _ _ hHeld ?_
        clear hHeld
        intro hHeld
        clear hKK KK
        try simp only [Act.put, List.setIfInBounds_toArray, List.set_cons_zero, List.set_cons_succ]
        refine wpAnyH_ready (rs := [16]) (by kernel_rfl) (by simp) ?_
        refine cons' rfl (fun KK hKK => ?_)
        have hO := (h5.rrow (i := i) il).1
        change World.ownsRow _ 0 _ 1 ((V.wv.getD i default).val (u.ws.getD i []).length) (u.ws.getD i []).length (iv (u.ws.getD i [])) at hO
        rw [HSV.out, HR.out] at hO
        have hl1 : r.length + 1 ≤ maxLen := by have := HM.out; omega
        have hl2 : (r.length + 1) * 8 ≤ 140737488355328 := by omega
        refine step_append_lies _ (by rfl) _ _ _ (by rfl) 0 3 ii _ 1 8 Try.underlying40 hii hiz his hib rfl (by omega) (.slice sv.at' r.length sv.c) r.length (iv r) (by rfl) hO ⟨na, 0, none⟩ 1 1 [.int .i64 n] (by rfl) (by rfl) (World.news_of_block (cs := #[.int .i64 n]) (t := 3) (fr := (0, 0)) hnew) (by simp [Value.oneCell']) (by omega) hl1 hl2 (Nat.zero_le _) _ rfl ?_
        intro gb cap w8 hown hgrow hat hlt
        have hRA := h5.rrow (i := i) il
        change RowAt _ _ _ _ _ (V.wv.getD i default) (u.ws.getD i []).length (iv (u.ws.getD i [])) at hRA
        rw [HSV.out, HR.out] at hRA
        obtain ⟨R1, R2⟩ := RowAt.app hRA hown hgrow hat rfl hlt
        have P5 := UM.set_ws h5 (i := i) (r := r ++ [(n : Int)]) il hgW (by rw [List.length_append, iv_append]; exact R1) R2
        rw [SlV.val_some rfl, List.length_append] at P5
        change UM (w8.setCell ⟨gW, i, none⟩ (.slice (some ⟨gb, 0, none⟩) (r.length + 1) cap)) _ _ _ _ ∧ _ at P5
        have q3 := ((h5.part .st).app R2 (by simp)).2.2.2.2.2.1
        rw [SlV.val_some hgW] at q3
        have hRW : RowAt _ _ _ _ _ _ _ _ := (h5.part .ws).app R2 (by simp)
        have kg := hRW.cell hgW (j := i) (by show i < u.ws.length * 1; omega)
        rw [wsC_at _ _ i h5.nwv il] at kg
        have fg := fun o => (hRW.row hgW).frozen o
        have S6 := S5.out.trans ((Step.of_below bT).trans P5.2)
        have HF := hide' (show _ ∧ Step ow _ w _ from ⟨P5.1, S6⟩)
        clear P5 S6 R1 R2 hRA hRW hown hgrow hat hlt hO hl1 hl2 hnew kw S5
        refine hKK.out _ _ q3 ?_
        clear hHeld
        intro hHeld
        clear hKK KK
        try simp only [Act.put, List.setIfInBounds_toArray, List.set_cons_zero, List.set_cons_succ]
        clear q3 h5 bT
        refine take' 17 (v := ?_) rfl (by kernel_rfl) (by kernel_rfl) (by kernel_rfl) (fun _ _ _ h => h) (Or.inl ⟨by rfl, ?_⟩) (by assumption) ?_
        rotate_left
        · intro w9 hSw
          go_simp
          first | done | with_reducible rfl
        simp only [Act.put, List.setIfInBounds_toArray, List.set_cons_zero, List.set_cons_succ]
        refine wpAnyH_ready (rs := [18]) (by kernel_rfl) (by simp) ?_
        refine cons' rfl (fun KK hKK => ?_)
        have q3 := HF.out.1.cells.2.2.2.2.2.1
        rw [SlV.val_some hgW] at q3
        change World.cell? _ _ = some (.slice (some ⟨gW, 0, none⟩) (u.ws.set i (r ++ [(n : Int)])).length V.ws.c) at q3
        rw [List.length_set] at q3
        go_simp
        refine hKK.out _ _ q3 ?_
        clear hHeld
        intro hHeld
        clear hKK KK
        try simp only [Act.put, List.setIfInBounds_toArray, List.set_cons_zero, List.set_cons_succ]
        clear q3 kg fg
        refine wpAnyH_done (by kernel_rfl) ?_ _
        go_wp2_with fail
        refine bodyPost_end (v := .tuple #[]) (by kernel_rfl) rfl ?_
        exact ⟨⟨_, rfl⟩, Chd.mk HF.out.1 HF.out.2⟩
      exact AllReadyH.nil
    refine consT rfl (fun KK hKK => ?_) ?_
    · skip
      go_simp
      have hnew := heap_alloc_new w6 (.cells #[.int .i64 n] 3)
      have b3 := below_alloc (w := w6) (.cells #[.int .i64 n] 3)
      obtain ⟨na, hna⟩ : ∃ na, w6.heap.size = na := ⟨_, rfl⟩
      rw [hna] at hnew
      try rw [hna]
      generalize w6.alloc (.cells #[.int .i64 n] 3) = w7 at hnew b3 ⊢
      replace hnew : w7.heap[na]? = _ := hnew
      replace bT := bT.trans (b3.mono bT.size)
      replace h5 := h5.later b3
      replace kw := below_cell b3 kw
      replace hHeld := below_cell b3 hHeld
      clear b3 hna
      refine hKK.out _ _ hHeld ?_
      clear hHeld
      intro hHeld
      clear hKK KK
      try simp only [Act.put, List.setIfInBounds_toArray, List.set_cons_zero, List.set_cons_succ]
      refine wpAnyH_ready (rs := [5]) (by kernel_rfl) (by simp) ?_
      refine cons' rfl (fun KK hKK => ?_)
      go_simp
      refine (GL.out _).mono ?_
      rintro e w9 ⟨rfl, hw9⟩
      rw [hw9]
      clear hw9 w9
      go_wp2_with fail
      refine hKK.out _ _ hHeld ?_
      clear hHeld
      intro hHeld
      clear hKK KK
      try simp only [Act.put, List.setIfInBounds_toArray, List.set_cons_zero, List.set_cons_succ]
      refine wpAnyH_ready (rs := [11]) (by kernel_rfl) (by simp) ?_
      refine cons' rfl (fun KK hKK => ?_)
      go_simp
      refine (GL.out _).mono ?_
      rintro e w9 ⟨rfl, hw9⟩
      rw [hw9]
      clear hw9 w9
      go_wp2_with fail
      refine hKK.out _ _ hHeld ?_
      clear hHeld
      intro hHeld
      clear hKK KK
      try simp only [Act.put, List.setIfInBounds_toArray, List.set_cons_zero, List.set_cons_succ]
      refine take' 12 (v := ?_) rfl (by kernel_rfl) (by kernel_rfl) (by kernel_rfl) (fun _ _ _ h => h) (Or.inl ⟨by rfl, ?_⟩) (by assumption) ?_
      rotate_left
      · intro w9 hSw
        go_simp
        first | done | with_reducible rfl
      simp only [Act.put, List.setIfInBounds_toArray, List.set_cons_zero, List.set_cons_succ]
      refine wpAnyH_ready (rs := [13]) (by kernel_rfl) (by simp) ?_
      refine cons' rfl (fun KK hKK => ?_)
      go_simp
      refine hKK.out _ _ hHeld ?_
      clear hHeld
      intro hHeld
      clear hKK KK
      try simp only [Act.put, List.setIfInBounds_toArray, List.set_cons_zero, List.set_cons_succ]
      refine wpAnyH_ready (rs := [16]) (by kernel_rfl) (by simp) ?_
      refine cons' rfl (fun KK hKK => ?_)
      have hO := (h5.rrow (i := i) il).1
      change World.ownsRow _ 0 _ 1 ((V.wv.getD i default).val (u.ws.getD i []).length) (u.ws.getD i []).length (iv (u.ws.getD i [])) at hO
      rw [HSV.out, HR.out] at hO
      have hl1 : r.length + 1 ≤ maxLen := by have := HM.out; omega
      have hl2 : (r.length + 1) * 8 ≤ 140737488355328 := by omega
      refine step_append_lies _ (by rfl) _ _ _ (by rfl) 0 3 ii _ 1 8 Try.underlying40 hii hiz his hib rfl (by omega) (.slice sv.at' r.length sv.c) r.length (iv r) (by rfl) hO ⟨na, 0, none⟩ 1 1 [.int .i64 n] (by rfl) (by rfl) (World.news_of_block (cs := #[.int .i64 n]) (t := 3) (fr := (0, 0)) hnew) (by simp [Value.oneCell']) (by omega) hl1 hl2 (Nat.zero_le _) _ rfl ?_
      intro gb cap w8 hown hgrow hat hlt
      have hRA := h5.rrow (i := i) il
      change RowAt _ _ _ _ _ (V.wv.getD i default) (u.ws.getD i []).length (iv (u.ws.getD i [])) at hRA
      rw [HSV.out, HR.out] at hRA
      obtain ⟨R1, R2⟩ := RowAt.app hRA hown hgrow hat rfl hlt
      have P5 := UM.set_ws h5 (i := i) (r := r ++ [(n : Int)]) il hgW (by rw [List.length_append, iv_append]; exact R1) R2
      rw [SlV.val_some rfl, List.length_append] at P5
      change UM (w8.setCell ⟨gW, i, none⟩ (.slice (some ⟨gb, 0, none⟩) (r.length + 1) cap)) _ _ _ _ ∧ _ at P5
      have q3 := ((h5.part .st).app R2 (by simp)).2.2.2.2.2.1
      rw [SlV.val_some hgW] at q3
      have hRW : RowAt _ _ _ _ _ _ _ _ := (h5.part .ws).app R2 (by simp)
      have kg := hRW.cell hgW (j := i) (by show i < u.ws.length * 1; omega)
      rw [wsC_at _ _ i h5.nwv il] at kg
      have fg := fun o => (hRW.row hgW).frozen o
      have S6 := S5.out.trans ((Step.of_below bT).trans P5.2)
      have HF := hide' (show _ ∧ Step ow _ w _ from ⟨P5.1, S6⟩)
      clear P5 S6 R1 R2 hRA hRW hown hgrow hat hlt hO hl1 hl2 hnew kw S5
      refine hKK.out _ _ q3 ?_
      clear hHeld
      intro hHeld
      clear hKK KK
      try simp only [Act.put, List.setIfInBounds_toArray, List.set_cons_zero, List.set_cons_succ]
      clear q3 h5 bT
      refine take' 17 (v := ?_) rfl (by kernel_rfl) (by kernel_rfl) (by kernel_rfl) (fun _ _ _ h => h) (Or.inl ⟨by rfl, ?_⟩) (by assumption) ?_
      rotate_left
      · intro w9 hSw
        go_simp
        first | done | with_reducible rfl
      simp only [Act.put, List.setIfInBounds_toArray, List.set_cons_zero, List.set_cons_succ]
      refine wpAnyH_ready (rs := [18]) (by kernel_rfl) (by simp) ?_
      refine cons' rfl (fun KK hKK => ?_)
      have q3 := HF.out.1.cells.2.2.2.2.2.1
      rw [SlV.val_some hgW] at q3
      change World.cell? _ _ = some (.slice (some ⟨gW, 0, none⟩) (u.ws.set i (r ++ [(n : Int)])).length V.ws.c) at q3
      rw [List.length_set] at q3
      go_simp
      refine hKK.out _ _ q3 ?_
      clear hHeld
      intro hHeld
      clear hKK KK
      try simp only [Act.put, List.setIfInBounds_toArray, List.set_cons_zero, List.set_cons_succ]
      clear q3 kg fg
      refine wpAnyH_done (by kernel_rfl) ?_ _
      go_wp2_with fail
      refine bodyPost_end (v := .tuple #[]) (by kernel_rfl) rfl ?_
      exact ⟨⟨_, rfl⟩, Chd.mk HF.out.1 HF.out.2⟩
    exact AllReadyH.nil
end Go.Proofs.Ytfodejhipnmgnaa
