/-
  The reference's Read; SexprReads and SexprDeep: the walks.
-/
import Derived.Test.YtibeiggedmabkaaDoorSZ4
import Derived.Test.YtibeiggedmabkaaDoorTRC
import Derived.Test.YtibeiggedmabkaaDoorSXL
namespace Go.Proofs.YtibeiggedmabkaaDoor
open Go.RowKit
set_option linter.unusedVariables false
set_option linter.unusedSimpArgs false
/-- what Whole makes of what was built, and of what was wrong with the tokens -/
def wholeB (fin : Bool) (x : BR) (e pl : Int) : BS × Int × Int :=
  match x with
  | .bad s c q => (s, c, q)
  | .ok s => if e ≠ 0 then (s, e, pl) else if fin = true ∧ s.opn ≠ [] then (s, 131, s.first) else (s, 0, 0)
theorem wholeB_open (s : BS) (pl : Int) (ho : s.opn ≠ []) : wholeB true (.ok s) 0 pl = (s, 131, s.first) := by simp [wholeB, ho]
theorem rdF_zero2 (fin : Bool) (S : List UInt8) : rdF fin S 0 = rdO fin S.length (feedP pI S) := by
  unfold rdF
  rw [frs_pI, List.drop_zero]
theorem rdF_len (fin : Bool) (S : List UInt8) : (rdF fin S 0).1.length ≤ S.length * 2 + 1 := by
  rw [rdF_zero2]
  have h := feed_len2 pI S
  rcases hf : feedP pI S with ⟨ts, out⟩
  rw [hf] at h
  replace h : ts.length ≤ S.length * 2 := h
  cases out with
  | bad B L C => simp only [rdO]; omega
  | ok q =>
    have h2 := end_len q
    cases fin
    · simp only [rdO, Bool.false_eq_true, if_false]; omega
    · simp only [rdO, if_true, List.length_append]; omega
/-- a text so far: what Feed tells of it -/
theorem whole_false (S : List UInt8) : (wholeB false (buildB b0 (rdF false S 0).1) (rdF false S 0).2.1 (rdF false S 0).2.2).1.nodes = (feedF rs0 S).1 ∧ (wholeB false (buildB b0 (rdF false S 0).1) (rdF false S 0).2.1 (rdF false S 0).2.2).2.1 = (feedF rs0 S).2.1 ∧
    (match (feedF rs0 S).2.2 with
      | .go o p => (wholeB false (buildB b0 (rdF false S 0).1) (rdF false S 0).2.1 (rdF false S 0).2.2).1.opn = o
      | .over d e q => (wholeB false (buildB b0 (rdF false S 0).1) (rdF false S 0).2.1 (rdF false S 0).2.2).1.opn.length = d ∧ (wholeB false (buildB b0 (rdF false S 0).1) (rdF false S 0).2.1 (rdF false S 0).2.2).2 = (e, q)) := by
  rw [rdF_zero2]
  simp only [rs0, feedF]
  rcases feedP pI S with ⟨ts, o⟩
  cases o with
  | bad B L C =>
    simp only [rdO, b0]
    rcases hb : buildB ⟨[], []⟩ ts with s | ⟨s, c, p⟩
    · simp [wholeB]
    · simp [wholeB]
  | ok q =>
    simp only [rdO, Bool.false_eq_true, if_false, b0]
    rcases hb : buildB ⟨[], []⟩ ts with s | ⟨s, c, p⟩
    · simp [wholeB]
    · simp [wholeB]
/-- a Built in memory, from base on -/
def BuiltW (w w0 : World) (s : BS) (code pl : Int) (r : Ending) : Prop := ∃ base, w0.heap.size ≤ base ∧ BuiltA w base s code pl r
theorem RelB.openLen {lv : List Lv} {x0 : Lv} {s : BS} (h : RelB (lv ++ [x0]) s) : lv.length = s.opn.length := by
  have := h.len
  simp only [List.length_append, List.length_cons, List.length_nil] at this
  omega
/-- the outermost list that is open -/
theorem RelB.firstR {lv : List Lv} {x0 : Lv} {s : BS} (h : RelB (lv ++ [x0]) s) (hs : s.opn ≠ []) : ∃ (y : Lv) (rest : List (Tok × Value)), lsOf lv = (y.t, y.v) :: rest ∧ y.t.b = s.first := by
  obtain ⟨z, y, rest, e, e2⟩ := h.firstL hs
  refine ⟨y, rest, ?_, e2⟩
  have e3 : lsOf (lv ++ [x0]) = (x0.t, x0.v) :: lsOf lv := by simp [lsOf]
  rw [e3] at e
  injection e
theorem RelB.nodesR {lv : List Lv} {x0 : Lv} {s : BS} (h : RelB (lv ++ [x0]) s) : x0.N = s.nodes := by
  obtain ⟨ini, x, e, e2, _⟩ := h.last
  have : x = x0 := by
    have := congrArg List.getLast? e
    simpa using this.symm
  rw [← this]; exact e2
set_option maxHeartbeats 16000000 in
set_option maxRecDepth 100000 in
theorem whole_is (s : ByteArray) (S : List UInt8) (hS : s.data.toList = S) (fin : Bool) (w : World) (hsz : s.size ≤ 400000000) : Calls Tryd.prog 21 #[.string s, .bool fin] w fun r w' => BuiltW w' w (wholeB fin (buildB b0 (rdF fin S 0).1) (rdF fin S 0).2.1 (rdF fin S 0).2.2).1 (wholeB fin (buildB b0 (rdF fin S 0).1) (rdF fin S 0).2.1 (rdF fin S 0).2.2).2.1 (wholeB fin (buildB b0 (rdF fin S 0).1) (rdF fin S 0).2.1 (rdF fin S 0).2.2).2.2 r ∧ Below w.heap.size w w' := by
  have hlen : (rdF fin S 0).1.length ≤ 900000000 := by have h := rdF_len fin S; have h2 : S.length = s.size := (by rw [← hS, Array.length_toList]; rfl); omega
  have b4 := below_alloc (w := w) (.cells #[.slice none 0 0, .slice none 0 0, .int .i64 0, .int .i64 0] 54)
  have q4 := Blk.new w #[.slice none 0 0, .slice none 0 0, .int .i64 0, .int .i64 0] 54
  have GR := hideT (rread_is s S hS fin (w.alloc (.cells #[.slice none 0 0, .slice none 0 0, .int .i64 0, .int .i64 0] 54)) (by omega))
  obtain ⟨R, hR⟩ : ∃ R, rdF fin S 0 = R := ⟨_, rfl⟩
  rw [hR] at GR hlen ⊢
  obtain ⟨T, e, pl⟩ := R
  simp only at GR hlen ⊢
  clear hR
  go_enter Tryd.func21, Tryd.ntmps21
  go_upto_region 1 with fail
  generalize w.alloc (.cells #[.slice none 0 0, .slice none 0 0, .int .i64 0, .int .i64 0] 54) = W at b4 q4 GR ⊢
  go_wp2_with fail
  refine GR.out.mono ?_
  rintro r w1 ⟨v, rfl, own, b1, _⟩
  clear GR
  replace q4 := q4.later b1
  have hB := b4.trans (b1.mono b4.size)
  clear b4 b1
  have GB := hideT (build_is v T _ w1 own hlen)
  obtain ⟨va, vc, ev⟩ := own_sl own
  subst ev
  clear own
  have hlt4 := q4.lt
  have hsw := hB.size
  go_wp2_with fail
  refine GB.out.mono ?_
  rintro r w2 ⟨hE, b2⟩
  clear GB
  replace q4 := q4.later b2
  replace hB := hB.trans (b2.mono hB.size)
  have hs2 := b2.size
  clear b2
  rcases hbb : buildB b0 T with s2 | ⟨s2, cc, qq⟩
  · rw [hbb] at hE
    have HBB := hideT hbb
    clear hbb
    obtain ⟨ov, lv, x0, P, rfl, bd, hrl, hkl⟩ := hE
    obtain ⟨oa, oc, eo⟩ := own_sl bd.own
    subst eo
    obtain ⟨na, nc, en⟩ := own_sl (bd.ok x0 (by simp))
    rw [en]
    have b8 := below_alloc (w := w2) (.cells #[.slice na x0.K.length nc, .slice oa lv.length oc, .int .i64 0, .int .i64 0] 54)
    have q8 := Blk.new w2 #[.slice na x0.K.length nc, .slice oa lv.length oc, .int .i64 0, .int .i64 0] 54
    replace q4 := q4.later b8
    have HBD := hideT (And.intro bd (And.intro hrl hkl))
    clear bd hrl hkl
    go_upto_region 3 with fail
    generalize w2.alloc (.cells #[.slice na x0.K.length nc, .slice oa lv.length oc, .int .i64 0, .int .i64 0] 54) = W8 at b8 q8 q4 ⊢
    obtain ⟨c8, hc8⟩ : ∃ c8, w2.heap.size = c8 := ⟨_, rfl⟩
    have h48 : w.heap.size < c8 := by omega
    have HB8 := hideT b8
    rw [hc8] at q8 ⊢
    have HC8 := hideT hc8
    clear hc8 b8
    have y1 := q8.cell 1
    have y2 := q8.cell 2
    have y3 := q8.cell 3
    simp only [List.getElem?_toArray, List.getElem?_cons_zero, List.getElem?_cons_succ] at y1 y2 y3
    by_cases he : e = 0
    · have xe : (e != 0) = false := by rw [he]; rfl
      have hol := HBD.out.2.1.openLen
      by_cases ho : fin = true ∧ s2.opn ≠ []
      · obtain ⟨hf, ho2⟩ := ho
        subst hf
        have xo : (0 : Int) < (lv.length : Int) := by have := List.length_pos_iff.2 ho2; omega
        have xo2 : 0 < lv.length := by omega
        obtain ⟨yy, rest, e8, e9⟩ := HBD.out.2.1.firstR ho2
        obtain ⟨gl, oc2, eo2, hcc⟩ := own_form HBD.out.1.own (by omega)
        injection eo2 with eo2 _ eo3
        subst eo2
        subst eo3
        have u3 : W8.cell? ⟨gl, 2, none⟩ = some (.int .i64 s2.first) := by
          have h := below_cell HB8.out (v := .int .i64 s2.first) (show w2.cell? ⟨gl, 2, none⟩ = _ by rw [HBD.out.1.own.cellAt 2 (by omega), e8, ← e9]; simp [nvCells, Tok.cells])
          exact h
        obtain ⟨ff, hff⟩ : ∃ ff, s2.first = ff := ⟨_, rfl⟩
        rw [hff] at u3
        have HW := hideT (show wholeB true (buildB b0 T) e pl = (s2, 131, ff) by rw [HBB.out, he, wholeB_open s2 pl ho2, hff])
        clear hff e8 e9 ho2 hol he
        have hgc : gl ≠ c8 := fun c => by have := (own_lt HBD.out.1.own (g := gl) rfl).2; have := HC8.out; omega
        go_wp2_with fail
        have bz := HB8.out
        have hc8 := HC8.out
        have HC9 := hideT hc8
        clear hc8
        have bD : Below W8.heap.size W8 W8.drew := (Below.refl _ _).drew
        have ky1 := below_cell bD y1
        have ku3 := below_cell bD u3
        replace bz := bz.trans (bD.mono bz.size)
        replace q8 := q8.later bD
        replace q4 := q4.later bD
        refine wp_region_held_drew (S := fun w' => w'.cell? ⟨c8, 1, none⟩ = some (.slice (some ⟨gl, 0, none⟩) lv.length oc) ∧ w'.cell? ⟨gl, 2, none⟩ = some (.int .i64 ff)) (by kernel_rfl) ⟨ky1, ku3⟩ (fun hHeld => ?_)
        clear ky1 ku3
        generalize W8.drew = w8 at bD bz q8 q4 hHeld ⊢
        clear bD y1 y2 y3 u3
        refine take' 0 (v := ?_) rfl (by kernel_rfl) (by kernel_rfl) (by kernel_rfl) (fun _ _ _ h => h) (Or.inl ⟨by rfl, ?_⟩) (by assumption) ?_
        rotate_left
        · intro w9 hSw
          go_simp
          first | done | with_reducible rfl
        simp only [Act.put, List.setIfInBounds_toArray, List.set_cons_zero, List.set_cons_succ]
        refine take' 1 (v := ?_) rfl (by kernel_rfl) (by kernel_rfl) (by kernel_rfl) (fun _ _ _ h => h) (Or.inl ⟨by rfl, ?_⟩) (by assumption) ?_
        rotate_left
        · intro w9 hSw
          go_simp
          first | done | with_reducible rfl
        simp only [Act.put, List.setIfInBounds_toArray, List.set_cons_zero, List.set_cons_succ]
        refine take' 2 (v := ?_) rfl (by kernel_rfl) (by kernel_rfl) (by kernel_rfl) (fun _ _ _ h => h) (Or.inl ⟨by rfl, ?_⟩) (by assumption) ?_
        rotate_left
        · intro w9 hSw
          go_simp
          first | done | with_reducible rfl
        simp only [Act.put, List.setIfInBounds_toArray, List.set_cons_zero, List.set_cons_succ]
        refine take' 3 (v := ?_) rfl (by kernel_rfl) (by kernel_rfl) (by kernel_rfl) (fun _ _ _ h => h) (Or.inl ⟨by rfl, ?_⟩) (by assumption) ?_
        rotate_left
        · intro w9 hSw
          go_simp
          first | done | with_reducible rfl
        simp only [Act.put, List.setIfInBounds_toArray, List.set_cons_zero, List.set_cons_succ]
        refine take' 4 (v := ?_) rfl (by kernel_rfl) (by kernel_rfl) (by kernel_rfl) (fun _ _ _ h => h) (Or.inl ⟨by rfl, ?_⟩) (by assumption) ?_
        rotate_left
        · intro w9 hSw
          go_simp
          first | done | with_reducible rfl
        simp only [Act.put, List.setIfInBounds_toArray, List.set_cons_zero, List.set_cons_succ]
        refine take' 5 (v := ?_) rfl (by kernel_rfl) (by kernel_rfl) (by kernel_rfl) (fun _ _ _ h => h) (Or.inl ⟨by rfl, ?_⟩) (by assumption) ?_
        rotate_left
        · intro w9 hSw
          go_simp
          first | done | with_reducible rfl
        simp only [Act.put, List.setIfInBounds_toArray, List.set_cons_zero, List.set_cons_succ]
        refine take' 6 (v := ?_) rfl (by kernel_rfl) (by kernel_rfl) (by kernel_rfl) (fun _ _ _ h => h) (Or.inl ⟨by rfl, ?_⟩) (by assumption) ?_
        rotate_left
        · intro w9 hSw
          go_simp
          first | done | with_reducible rfl
        simp only [Act.put, List.setIfInBounds_toArray, List.set_cons_zero, List.set_cons_succ]
        refine wpAnyH_ready (rs := [7]) (by kernel_rfl) (by simp) ?_
        refine cons' rfl (fun KK hKK => ?_)
        have fz := fun o => q8.frozen o
        have t1 := q8.cell 2
        simp only [List.getElem?_toArray, List.getElem?_cons_zero, List.getElem?_cons_succ] at t1
        go_simp
        clear fz t1
        obtain ⟨ks, q9⟩ := q8.set (o := 2) (.int .i64 131)
        have q10 : Blk (w8.setCell ⟨c8, 2, none⟩ (.int .i64 131)) c8 #[.slice na x0.K.length nc, .slice (some ⟨gl, 0, none⟩) lv.length oc, .int .i64 131, .int .i64 0] 54 := by simpa using q9
        have v1 := q10.cell 1
        simp only [List.getElem?_toArray, List.getElem?_cons_zero, List.getElem?_cons_succ] at v1
        have hH2 := (⟨v1, ks.cell hgc hHeld.2⟩ : _ ∧ _)
        clear v1 q8 q9
        have q8 := q10
        clear q10
        replace q4 := q4.ch ks (by omega)
        replace bz := bz.trans (ks.below (B := w2.heap.size) (by have := HC9.out; omega))
        clear ks
        generalize w8.setCell ⟨c8, 2, none⟩ (.int .i64 131) = w9 at hH2 q8 q4 bz ⊢
        refine hKK.out _ _ hH2 ?_
        clear hHeld
        intro hHeld
        clear hKK KK
        try simp only [Act.put, List.setIfInBounds_toArray, List.set_cons_zero, List.set_cons_succ]
        clear hH2
        refine take' 8 (v := ?_) rfl (by kernel_rfl) (by kernel_rfl) (by kernel_rfl) (fun _ _ _ h => h) (Or.inl ⟨by rfl, ?_⟩) (by assumption) ?_
        rotate_left
        · intro w9 hSw
          go_simp
          first | done | with_reducible rfl
        simp only [Act.put, List.setIfInBounds_toArray, List.set_cons_zero, List.set_cons_succ]
        refine wpAnyH_ready (rs := [9]) (by kernel_rfl) (by simp) ?_
        refine cons' rfl (fun KK hKK => ?_)
        have fz := fun o => q8.frozen o
        have t1 := q8.cell 3
        simp only [List.getElem?_toArray, List.getElem?_cons_zero, List.getElem?_cons_succ] at t1
        go_simp
        clear fz t1
        obtain ⟨ks, q9⟩ := q8.set (o := 3) (.int .i64 ff)
        have q10 : Blk (w9.setCell ⟨c8, 3, none⟩ (.int .i64 ff)) c8 #[.slice na x0.K.length nc, .slice (some ⟨gl, 0, none⟩) lv.length oc, .int .i64 131, .int .i64 ff] 54 := by simpa using q9
        have v1 := q10.cell 1
        simp only [List.getElem?_toArray, List.getElem?_cons_zero, List.getElem?_cons_succ] at v1
        have hH2 := (⟨v1, ks.cell hgc hHeld.2⟩ : _ ∧ _)
        clear v1 q8 q9
        have q8 := q10
        clear q10
        replace q4 := q4.ch ks (by omega)
        replace bz := bz.trans (ks.below (B := w2.heap.size) (by have := HC9.out; omega))
        clear ks
        generalize w9.setCell ⟨c8, 3, none⟩ (.int .i64 ff) = wz at hH2 q8 q4 bz ⊢
        refine hKK.out _ _ hH2 ?_
        clear hHeld
        intro hHeld
        clear hKK KK
        try simp only [Act.put, List.setIfInBounds_toArray, List.set_cons_zero, List.set_cons_succ]
        clear hH2
        refine wpAnyH_done (by kernel_rfl) ?_ _
        clear hHeld
        obtain ⟨bd, hrl, hkl⟩ := HBD.out
        have hc8 := HC8.out
        have y0 := q8.cell 0
        have y1 := q8.cell 1
        have y2 := q8.cell 2
        have y3 := q8.cell 3
        have z0 := q4.cell 0
        have z1 := q4.cell 1
        have z2 := q4.cell 2
        have z3 := q4.cell 3
        simp only [List.getElem?_toArray, List.getElem?_cons_zero, List.getElem?_cons_succ] at y0 z0 y1 z1 y2 z2 y3 z3
        have fz := fun o => q4.frozen o
        go_wp2
        clear fz y0 z0 y1 z1 y2 z2 y3 z3
        obtain ⟨k9, q9⟩ := q4.set4s (.slice na x0.K.length nc) (.slice (some ⟨gl, 0, none⟩) lv.length oc) (.int .i64 131) (.int .i64 ff)
        have u0 := q9.cell 0
        have u1 := q9.cell 1
        have u2 := q9.cell 2
        have u3 := q9.cell 3
        simp only [List.getElem?_toArray, List.getElem?_cons_zero, List.getElem?_cons_succ] at u0 u1 u2 u3
        replace bd := (bd.later bz).kp (Kp.ch (X := fun i => i = w.heap.size) k9 rfl) (fun i e => Or.inl (by omega))
        replace hB := (hB.trans (bz.mono hB.size)).trans (k9.below (B := w.heap.size) (Nat.le_refl _))
        clear k9 q9
        generalize ((((wz.setCell ⟨w.heap.size, 0, none⟩ (.slice na x0.K.length nc)).setCell ⟨w.heap.size, 1, none⟩ (.slice (some ⟨gl, 0, none⟩) lv.length oc)).setCell ⟨w.heap.size, 2, none⟩ (.int .i64 131)).setCell ⟨w.heap.size, 3, none⟩ (.int .i64 ff)) = w11 at bd hB u0 u1 u2 u3 ⊢
        refine bodyPost_ret (v := .agg #[.slice na x0.K.length nc, .slice (some ⟨gl, 0, none⟩) lv.length oc, .int .i64 131, .int .i64 ff]) (by rw [results_c rfl]; go_simp) rfl ?_
        refine ⟨⟨w1.heap.size + 2, by omega, ?_⟩, hB⟩
        rw [HW.out]
        exact ⟨_, lv, x0, P, by rw [en], bd, hrl, hkl⟩
      · have HW := hideT (show wholeB fin (buildB b0 T) e pl = (s2, 0, 0) by rw [HBB.out]; simp only [wholeB]; rw [if_neg (by simpa using he), if_neg ho])
        rcases hfn : fin with _ | _
        · subst hfn
          have HW2 := hideT HW.out
          clear ho he hol HW
          go_upto_region 8 with fail
          clear y1 y2 y3
          obtain ⟨bd, hrl, hkl⟩ := HBD.out
          have bz := HB8.out
          have hc8 := HC8.out
          obtain ⟨wz, rfl⟩ : ∃ wz, wz = W8 := ⟨_, rfl⟩
          have y0 := q8.cell 0
          have y1 := q8.cell 1
          have y2 := q8.cell 2
          have y3 := q8.cell 3
          have z0 := q4.cell 0
          have z1 := q4.cell 1
          have z2 := q4.cell 2
          have z3 := q4.cell 3
          simp only [List.getElem?_toArray, List.getElem?_cons_zero, List.getElem?_cons_succ] at y0 z0 y1 z1 y2 z2 y3 z3
          have fz := fun o => q4.frozen o
          go_wp2
          clear fz y0 z0 y1 z1 y2 z2 y3 z3
          obtain ⟨k9, q9⟩ := q4.set4s (.slice na x0.K.length nc) (.slice oa lv.length oc) (.int .i64 0) (.int .i64 0)
          have u0 := q9.cell 0
          have u1 := q9.cell 1
          have u2 := q9.cell 2
          have u3 := q9.cell 3
          simp only [List.getElem?_toArray, List.getElem?_cons_zero, List.getElem?_cons_succ] at u0 u1 u2 u3
          replace bd := (bd.later bz).kp (Kp.ch (X := fun i => i = w.heap.size) k9 rfl) (fun i e => Or.inl (by omega))
          replace hB := (hB.trans (bz.mono hB.size)).trans (k9.below (B := w.heap.size) (Nat.le_refl _))
          clear k9 q9
          generalize ((((wz.setCell ⟨w.heap.size, 0, none⟩ (.slice na x0.K.length nc)).setCell ⟨w.heap.size, 1, none⟩ (.slice oa lv.length oc)).setCell ⟨w.heap.size, 2, none⟩ (.int .i64 0)).setCell ⟨w.heap.size, 3, none⟩ (.int .i64 0)) = w11 at bd hB u0 u1 u2 u3 ⊢
          refine bodyPost_ret (v := .agg #[.slice na x0.K.length nc, .slice oa lv.length oc, .int .i64 0, .int .i64 0]) (by rw [results_c rfl]; go_simp) rfl ?_
          refine ⟨⟨w1.heap.size + 2, by omega, ?_⟩, hB⟩
          rw [HW2.out]
          exact ⟨_, lv, x0, P, by rw [en], bd, hrl, hkl⟩
        · subst hfn
          have HW2 := hideT HW.out
          have xo : ¬ (0 < lv.length) := fun c => ho ⟨rfl, fun d => by rw [hol, d] at c; simp at c⟩
          clear ho he hol HW
          go_upto_region 8 with fail
          clear y1 y2 y3
          obtain ⟨bd, hrl, hkl⟩ := HBD.out
          have bz := HB8.out
          have hc8 := HC8.out
          obtain ⟨wz, rfl⟩ : ∃ wz, wz = W8 := ⟨_, rfl⟩
          have y0 := q8.cell 0
          have y1 := q8.cell 1
          have y2 := q8.cell 2
          have y3 := q8.cell 3
          have z0 := q4.cell 0
          have z1 := q4.cell 1
          have z2 := q4.cell 2
          have z3 := q4.cell 3
          simp only [List.getElem?_toArray, List.getElem?_cons_zero, List.getElem?_cons_succ] at y0 z0 y1 z1 y2 z2 y3 z3
          have fz := fun o => q4.frozen o
          go_wp2
          clear fz y0 z0 y1 z1 y2 z2 y3 z3
          obtain ⟨k9, q9⟩ := q4.set4s (.slice na x0.K.length nc) (.slice oa lv.length oc) (.int .i64 0) (.int .i64 0)
          have u0 := q9.cell 0
          have u1 := q9.cell 1
          have u2 := q9.cell 2
          have u3 := q9.cell 3
          simp only [List.getElem?_toArray, List.getElem?_cons_zero, List.getElem?_cons_succ] at u0 u1 u2 u3
          replace bd := (bd.later bz).kp (Kp.ch (X := fun i => i = w.heap.size) k9 rfl) (fun i e => Or.inl (by omega))
          replace hB := (hB.trans (bz.mono hB.size)).trans (k9.below (B := w.heap.size) (Nat.le_refl _))
          clear k9 q9
          generalize ((((wz.setCell ⟨w.heap.size, 0, none⟩ (.slice na x0.K.length nc)).setCell ⟨w.heap.size, 1, none⟩ (.slice oa lv.length oc)).setCell ⟨w.heap.size, 2, none⟩ (.int .i64 0)).setCell ⟨w.heap.size, 3, none⟩ (.int .i64 0)) = w11 at bd hB u0 u1 u2 u3 ⊢
          refine bodyPost_ret (v := .agg #[.slice na x0.K.length nc, .slice oa lv.length oc, .int .i64 0, .int .i64 0]) (by rw [results_c rfl]; go_simp) rfl ?_
          refine ⟨⟨w1.heap.size + 2, by omega, ?_⟩, hB⟩
          rw [HW2.out]
          exact ⟨_, lv, x0, P, by rw [en], bd, hrl, hkl⟩
    · have xe : (e != 0) = true := by rw [bne_iff_ne]; exact he
      have HW := hideT (show wholeB fin (buildB b0 T) e pl = (s2, e, pl) by rw [HBB.out]; simp only [wholeB]; rw [if_pos he])
      clear he
      have fz8 := fun o => q8.frozen o
      go_upto_region 8 with fail
      clear y1 y2 y3 fz8
      obtain ⟨k5, q5⟩ := q8.set (o := 2) (.int .i64 e)
      obtain ⟨k6, q6⟩ := q5.set (o := 3) (.int .i64 pl)
      have q7 : Blk ((W8.setCell ⟨c8, 2, none⟩ (.int .i64 e)).setCell ⟨c8, 3, none⟩ (.int .i64 pl)) c8 #[.slice na x0.K.length nc, .slice oa lv.length oc, .int .i64 e, .int .i64 pl] 54 := by simpa using q6
      obtain ⟨bd, hrl, hkl⟩ := HBD.out
      have hc8 := HC8.out
      have bz := (HB8.out.trans (k5.below (B := w2.heap.size) (by omega))).trans (k6.below (B := w2.heap.size) (by omega))
      replace q4 := (q4.ch k5 (by omega)).ch k6 (by omega)
      clear k5 k6 q5 q6 q8
      have q8 := q7
      clear q7
      generalize (W8.setCell ⟨c8, 2, none⟩ (.int .i64 e)).setCell ⟨c8, 3, none⟩ (.int .i64 pl) = wz at q8 q4 bz ⊢
      have y0 := q8.cell 0
      have y1 := q8.cell 1
      have y2 := q8.cell 2
      have y3 := q8.cell 3
      have z0 := q4.cell 0
      have z1 := q4.cell 1
      have z2 := q4.cell 2
      have z3 := q4.cell 3
      simp only [List.getElem?_toArray, List.getElem?_cons_zero, List.getElem?_cons_succ] at y0 z0 y1 z1 y2 z2 y3 z3
      have fz := fun o => q4.frozen o
      go_wp2
      clear fz y0 z0 y1 z1 y2 z2 y3 z3
      obtain ⟨k9, q9⟩ := q4.set4s (.slice na x0.K.length nc) (.slice oa lv.length oc) (.int .i64 e) (.int .i64 pl)
      have u0 := q9.cell 0
      have u1 := q9.cell 1
      have u2 := q9.cell 2
      have u3 := q9.cell 3
      simp only [List.getElem?_toArray, List.getElem?_cons_zero, List.getElem?_cons_succ] at u0 u1 u2 u3
      replace bd := (bd.later bz).kp (Kp.ch (X := fun i => i = w.heap.size) k9 rfl) (fun i e => Or.inl (by omega))
      replace hB := (hB.trans (bz.mono hB.size)).trans (k9.below (B := w.heap.size) (Nat.le_refl _))
      clear k9 q9
      generalize ((((wz.setCell ⟨w.heap.size, 0, none⟩ (.slice na x0.K.length nc)).setCell ⟨w.heap.size, 1, none⟩ (.slice oa lv.length oc)).setCell ⟨w.heap.size, 2, none⟩ (.int .i64 e)).setCell ⟨w.heap.size, 3, none⟩ (.int .i64 pl)) = w11 at bd hB u0 u1 u2 u3 ⊢
      refine bodyPost_ret (v := .agg #[.slice na x0.K.length nc, .slice oa lv.length oc, .int .i64 e, .int .i64 pl]) (by rw [results_c rfl]; go_simp) rfl ?_
      refine ⟨⟨w1.heap.size + 2, by omega, ?_⟩, hB⟩
      rw [HW.out]
      exact ⟨_, lv, x0, P, by rw [en], bd, hrl, hkl⟩
  · rw [hbb] at hE
    have HW := hideT (show wholeB fin (buildB b0 T) e pl = (s2, cc, qq) by rw [hbb]; rfl)
    have hne := buildB_ne hbb
    have xc : (cc != 0) = true := by rw [bne_iff_ne]; exact hne
    clear hbb hne
    obtain ⟨ov, lv, x0, P, rfl, bd, hrl, hkl⟩ := hE
    obtain ⟨oa, oc, eo⟩ := own_sl bd.own
    subst eo
    obtain ⟨na, nc, en⟩ := own_sl (bd.ok x0 (by simp))
    rw [en]
    have b8 := below_alloc (w := w2) (.cells #[.slice na x0.K.length nc, .slice oa lv.length oc, .int .i64 cc, .int .i64 qq] 54)
    have q8 := Blk.new w2 #[.slice na x0.K.length nc, .slice oa lv.length oc, .int .i64 cc, .int .i64 qq] 54
    replace q4 := q4.later b8
    have HBD := hideT (And.intro bd (And.intro hrl hkl))
    clear bd hrl hkl
    go_upto_region 3 with fail
    generalize w2.alloc (.cells #[.slice na x0.K.length nc, .slice oa lv.length oc, .int .i64 cc, .int .i64 qq] 54) = W8 at b8 q8 q4 ⊢
    obtain ⟨c8, hc8⟩ : ∃ c8, w2.heap.size = c8 := ⟨_, rfl⟩
    have h48 : w.heap.size < c8 := by omega
    have HB8 := hideT b8
    rw [hc8] at q8 ⊢
    have HC8 := hideT hc8
    clear hc8 b8
    have y1 := q8.cell 1
    have y2 := q8.cell 2
    have y3 := q8.cell 3
    simp only [List.getElem?_toArray, List.getElem?_cons_zero, List.getElem?_cons_succ] at y1 y2 y3
    go_upto_region 8 with fail
    clear y1 y2 y3
    obtain ⟨bd, hrl, hkl⟩ := HBD.out
    have bz := HB8.out
    have hc8 := HC8.out
    obtain ⟨wz, rfl⟩ : ∃ wz, wz = W8 := ⟨_, rfl⟩
    have y0 := q8.cell 0
    have y1 := q8.cell 1
    have y2 := q8.cell 2
    have y3 := q8.cell 3
    have z0 := q4.cell 0
    have z1 := q4.cell 1
    have z2 := q4.cell 2
    have z3 := q4.cell 3
    simp only [List.getElem?_toArray, List.getElem?_cons_zero, List.getElem?_cons_succ] at y0 z0 y1 z1 y2 z2 y3 z3
    have fz := fun o => q4.frozen o
    go_wp2
    clear fz y0 z0 y1 z1 y2 z2 y3 z3
    obtain ⟨k9, q9⟩ := q4.set4s (.slice na x0.K.length nc) (.slice oa lv.length oc) (.int .i64 cc) (.int .i64 qq)
    have u0 := q9.cell 0
    have u1 := q9.cell 1
    have u2 := q9.cell 2
    have u3 := q9.cell 3
    simp only [List.getElem?_toArray, List.getElem?_cons_zero, List.getElem?_cons_succ] at u0 u1 u2 u3
    replace bd := (bd.later bz).kp (Kp.ch (X := fun i => i = w.heap.size) k9 rfl) (fun i e => Or.inl (by omega))
    replace hB := (hB.trans (bz.mono hB.size)).trans (k9.below (B := w.heap.size) (Nat.le_refl _))
    clear k9 q9
    generalize ((((wz.setCell ⟨w.heap.size, 0, none⟩ (.slice na x0.K.length nc)).setCell ⟨w.heap.size, 1, none⟩ (.slice oa lv.length oc)).setCell ⟨w.heap.size, 2, none⟩ (.int .i64 cc)).setCell ⟨w.heap.size, 3, none⟩ (.int .i64 qq)) = w11 at bd hB u0 u1 u2 u3 ⊢
    refine bodyPost_ret (v := .agg #[.slice na x0.K.length nc, .slice oa lv.length oc, .int .i64 cc, .int .i64 qq]) (by rw [results_c rfl]; go_simp) rfl ?_
    refine ⟨⟨w1.heap.size + 2, by omega, ?_⟩, hB⟩
    rw [HW.out]
    exact ⟨_, lv, x0, P, by rw [en], bd, hrl, hkl⟩

end Go.Proofs.YtibeiggedmabkaaDoor

namespace Go.Proofs.YtibeiggedmabkaaDoor
open Go.RowKit
set_option linter.unusedVariables false
set_option linter.unusedSimpArgs false
mutual
/-- how many tokens a node has -/
def szN : Nd → Nat
  | .mk t kids => if t.k = 0 then 2 + szL kids else 1
def szL : List Nd → Nat
  | [] => 0
  | n :: l => szN n + szL l
end
theorem szL_app (a b : List Nd) : szL (a ++ b) = szL a + szL b := by
  induction a with
  | nil => simp [szL]
  | cons n a ih => simp only [List.cons_append, szL, ih]; omega
theorem szL_take {l : List Nd} {k : Nat} (h : k < l.length) : szL (l.take (k + 1)) = szL (l.take k) + szN l[k] := by
  rw [List.take_add_one, List.getElem?_eq_getElem h, szL_app]
  simp [szL]
theorem szL_take_le (l : List Nd) (k : Nat) : szL (l.take k) ≤ szL l := by
  have := szL_app (l.take k) (l.drop k)
  rw [List.take_append_drop] at this
  omega
theorem nd_eta (n : Nd) : Nd.mk n.t n.kids = n := by cases n; rfl
set_option maxHeartbeats 2000000 in
theorem isList_is (t : Tok) (v : Value) (hv : ∃ a n c, v = .slice a n c) (w : World) : Calls Tryd.prog 24 #[.agg #[.int .i64 t.k, .string t.t, .int .i64 t.b, .int .i64 t.e, .int .i64 t.l, .int .i64 t.c, v]] w fun e w' => e = .returned (.bool ((t.k : Int) == 0)) ∧ Below w.heap.size w w' := by
  obtain ⟨a, m, c, rfl⟩ := hv
  have b1 := below_alloc (w := w) (.cells #[.int .i64 t.k, .string t.t, .int .i64 t.b, .int .i64 t.e, .int .i64 t.l, .int .i64 t.c, .slice a m c] 34)
  have qA := Blk.new w #[.int .i64 t.k, .string t.t, .int .i64 t.b, .int .i64 t.e, .int .i64 t.l, .int .i64 t.c, .slice a m c] 34
  go_enter Tryd.func24, Tryd.ntmps24
  go_upto_region 1 with fail
  generalize w.alloc (.cells #[.int .i64 t.k, .string t.t, .int .i64 t.b, .int .i64 t.e, .int .i64 t.l, .int .i64 t.c, .slice a m c] 34) = W at b1 qA ⊢
  have x0 := qA.cell 0
  simp only [List.getElem?_toArray, List.getElem?_cons_zero, List.getElem?_cons_succ] at x0
  go_wp2
  go_ret
  exact ⟨rfl, b1⟩

set_option maxHeartbeats 8000000 in
set_option maxRecDepth 100000 in
theorem size1 {w0 : World} {P : Nat → Prop} {v : Value} {kids : List Nd} (h1 : NdIn w0 P v kids) : ∀ (t : Tok) (w : World) (hB0 : Below w0.heap.size w0 w) (hz : szN (.mk t kids) ≤ 4611686018427387904), Calls Tryd.prog 22 #[.agg #[.int .i64 t.k, .string t.t, .int .i64 t.b, .int .i64 t.e, .int .i64 t.l, .int .i64 t.c, v]] w fun e w' => e = .returned (.int .i64 (szN (.mk t kids) : Nat)) ∧ Below w.heap.size w w' := by
  induction h1 with
  | nil a c =>
    intro t w hB0 hz
    clear hz
    have hB := below_alloc (w := w) (.cells #[.int .i64 t.k, .string t.t, .int .i64 t.b, .int .i64 t.e, .int .i64 t.l, .int .i64 t.c, .slice a 0 c] 34)
    have qA := Blk.new w #[.int .i64 t.k, .string t.t, .int .i64 t.b, .int .i64 t.e, .int .i64 t.l, .int .i64 t.c, .slice a 0 c] 34
    go_enter Tryd.func22, Tryd.ntmps22
    go_upto_region 1 with fail
    generalize w.alloc (.cells #[.int .i64 t.k, .string t.t, .int .i64 t.b, .int .i64 t.e, .int .i64 t.l, .int .i64 t.c, .slice a 0 c] 34) = W at hB qA ⊢
    have x0 := qA.cell 0
    have x1 := qA.cell 1
    have x2 := qA.cell 2
    have x3 := qA.cell 3
    have x4 := qA.cell 4
    have x5 := qA.cell 5
    have x6 := qA.cell 6
    simp only [List.getElem?_toArray, List.getElem?_cons_zero, List.getElem?_cons_succ] at x0 x1 x2 x3 x4 x5 x6
    go_wp2_with fail
    refine (isList_is t (.slice a 0 c) ⟨_, _, _, rfl⟩ W).mono ?_
    rintro e w1 ⟨rfl, b1⟩
    replace qA := qA.later b1
    replace hB := hB.trans (b1.mono hB.size)
    clear b1 x0 x1 x2 x3 x4 x5 x6
    have x6 := qA.cell 6
    simp only [List.getElem?_toArray, List.getElem?_cons_zero, List.getElem?_cons_succ] at x6
    by_cases hk0 : t.k = 0
    rotate_left
    · have xk : ((t.k : Int) == 0) = false := by rw [beq_eq_false_iff_ne]; omega
      have es : szN (.mk t []) = 1 := by simp [szN, hk0]
      have HS := hideT es
      clear es
      rw [xk]
      go_wp2
      go_ret
      exact ⟨by rw [HS.out]; rfl, hB⟩
    have xk : ((t.k : Int) == 0) = true := by rw [beq_iff_eq]; omega
    have HS := hideT (show szN (.mk t []) = 2 by simp [szN, szL, hk0])
    rw [xk]
    clear hk0
    go_wp2_with fail
    go_loopw [3, 12] (fun s i wr => s = .int .i64 2 ∧ i = .int .i64 0 ∧ Below w.heap.size w wr) (fun s i _ => 0)
    case atStart => exact ⟨rfl, rfl, hB⟩
    case round =>
      clear qA hB x6
      obtain ⟨rfl, rfl, hB⟩ := hrel
      go_wp2
      go_ret
      exact ⟨by rw [HS.out]; rfl, hB⟩
  | row g off c kids vs hn hb hP hc hv hk ih =>
    intro t w hB0 hz
    have IH := hideT ih
    have HC := hideT (And.intro hc hv)
    have HKS := hideT (fun i (h : i < kids.length) => (hk i h).sl)
    have HB0 := hideT hB0
    have HZ := hideT hz
    clear ih hc hv hk hP hB0 hz
    have hB := below_alloc (w := w) (.cells #[.int .i64 t.k, .string t.t, .int .i64 t.b, .int .i64 t.e, .int .i64 t.l, .int .i64 t.c, .slice (some ⟨g, off, none⟩) kids.length c] 34)
    have qA := Blk.new w #[.int .i64 t.k, .string t.t, .int .i64 t.b, .int .i64 t.e, .int .i64 t.l, .int .i64 t.c, .slice (some ⟨g, off, none⟩) kids.length c] 34
    go_enter Tryd.func22, Tryd.ntmps22
    go_upto_region 1 with fail
    generalize w.alloc (.cells #[.int .i64 t.k, .string t.t, .int .i64 t.b, .int .i64 t.e, .int .i64 t.l, .int .i64 t.c, .slice (some ⟨g, off, none⟩) kids.length c] 34) = W at hB qA ⊢
    have x0 := qA.cell 0
    have x1 := qA.cell 1
    have x2 := qA.cell 2
    have x3 := qA.cell 3
    have x4 := qA.cell 4
    have x5 := qA.cell 5
    have x6 := qA.cell 6
    simp only [List.getElem?_toArray, List.getElem?_cons_zero, List.getElem?_cons_succ] at x0 x1 x2 x3 x4 x5 x6
    go_wp2_with fail
    refine (isList_is t (.slice (some ⟨g, off, none⟩) kids.length c) ⟨_, _, _, rfl⟩ W).mono ?_
    rintro e w1 ⟨rfl, b1⟩
    replace qA := qA.later b1
    replace hB := hB.trans (b1.mono hB.size)
    clear b1 x0 x1 x2 x3 x4 x5 x6
    have x6 := qA.cell 6
    simp only [List.getElem?_toArray, List.getElem?_cons_zero, List.getElem?_cons_succ] at x6
    by_cases hk0 : t.k = 0
    rotate_left
    · have xk : ((t.k : Int) == 0) = false := by rw [beq_eq_false_iff_ne]; omega
      have es : szN (.mk t kids) = 1 := by simp [szN, hk0]
      have HS := hideT es
      clear es
      rw [xk]
      go_wp2
      go_ret
      exact ⟨by rw [HS.out]; rfl, hB⟩
    have xk : ((t.k : Int) == 0) = true := by rw [beq_iff_eq]; omega
    have HS := hideT (show szN (.mk t kids) = 2 + szL kids by simp [szN, hk0])
    have HZ2 := hideT (show 2 + szL kids ≤ 4611686018427387904 by rw [← HS.out]; exact HZ.out)
    rw [xk]
    clear hk0 HZ
    go_wp2_with fail
    go_loopw [3, 12] (fun s i wr => ∃ k m : Nat, k ≤ kids.length ∧ i = .int .i64 k ∧ s = .int .i64 m ∧ m = 2 + szL (kids.take k) ∧ Below w.heap.size w wr) (fun s i _ => kids.length - (intOf i).toNat)
    case atStart => exact ⟨0, 2, Nat.zero_le _, rfl, rfl, by simp [szL], hB⟩
    case round =>
      clear qA hB x6
      obtain ⟨k, m, hk, rfl, rfl, hm, hB⟩ := hrel
      have HM := hideT hm
      clear hm
      by_cases hlt : k < kids.length
      · have hki : ((k : Int) < (kids.length : Int)) := by omega
        have h0 := HB0.out.trans (hB.mono HB0.out.size)
        obtain ⟨hc, hv⟩ := HC.out
        obtain ⟨T, hT⟩ : ∃ T, kids[k].t = T := ⟨_, rfl⟩
        have a0 := hc k hlt 0 (by decide)
        have a1 := hc k hlt 1 (by decide)
        have a2 := hc k hlt 2 (by decide)
        have a3 := hc k hlt 3 (by decide)
        have a4 := hc k hlt 4 (by decide)
        have a5 := hc k hlt 5 (by decide)
        rw [hT] at a0 a1 a2 a3 a4 a5
        simp only [Tok.cells, List.getElem?_cons_zero, List.getElem?_cons_succ] at a0 a1 a2 a3 a4 a5
        rw [Nat.add_zero] at a0
        have a6 := hv k hlt
        replace a0 := below_cell h0 a0
        replace a1 := below_cell h0 a1
        replace a2 := below_cell h0 a2
        replace a3 := below_cell h0 a3
        replace a4 := below_cell h0 a4
        replace a5 := below_cell h0 a5
        replace a6 := below_cell h0 a6
        have e1 : szN kids[k] = szN (.mk T kids[k].kids) := by rw [← hT, nd_eta]
        have e2 := szL_take hlt
        have e3 := szL_take_le kids (k + 1)
        have e4 := HZ2.out
        have e5 := HM.out
        have GI := hideT (fun W h => IH.out k hlt T W h (by omega))
        obtain ⟨sz, hsz⟩ : ∃ sz, szN (.mk T kids[k].kids) = sz := ⟨_, rfl⟩
        rw [hsz] at GI e1
        have HN := hideT (show m + sz = 2 + szL (kids.take (k + 1)) by omega)
        have HL := hideT (show m + sz ≤ 4611686018427387904 by omega)
        have hl1 : m ≤ 4611686018427387904 := by omega
        have hl2 : sz ≤ 4611686018427387904 := by omega
        clear hsz e1 e2 e3 e4 e5 hT hc hv
        obtain ⟨ua, uc, eu⟩ := HKS.out k hlt
        obtain ⟨un, hun⟩ : ∃ un, kids[k].kids.length = un := ⟨_, rfl⟩
        rw [hun] at eu
        rw [eu] at a6 GI
        clear eu hun
        have bN := below_alloc (w := wr) (.cells #[.int .i64 T.k, .string T.t, .int .i64 T.b, .int .i64 T.e, .int .i64 T.l, .int .i64 T.c, .slice ua un uc] 34)
        have qN := Blk.new wr #[.int .i64 T.k, .string T.t, .int .i64 T.b, .int .i64 T.e, .int .i64 T.l, .int .i64 T.c, .slice ua un uc] 34
        replace hB := hB.trans (bN.mono hB.size)
        have HW := hideT (h0.trans (bN.mono h0.size))
        clear bN h0
        go_upto_region 7 with fail
        generalize wr.alloc (.cells #[.int .i64 T.k, .string T.t, .int .i64 T.b, .int .i64 T.e, .int .i64 T.l, .int .i64 T.c, .slice ua un uc] 34) = W2 at qN hB HW ⊢
        clear a0 a1 a2 a3 a4 a5 a6
        have y0 := qN.cell 0
        have y1 := qN.cell 1
        have y2 := qN.cell 2
        have y3 := qN.cell 3
        have y4 := qN.cell 4
        have y5 := qN.cell 5
        have y6 := qN.cell 6
        simp only [List.getElem?_toArray, List.getElem?_cons_zero, List.getElem?_cons_succ] at y0 y1 y2 y3 y4 y5 y6
        go_wp2_with fail
        refine (GI.out _ HW.out).mono ?_
        rintro e w5 ⟨rfl, b5⟩
        replace hB := hB.trans (b5.mono hB.size)
        have hl3 := HL.out
        go_wp2
        go_roundw
        case rel => exact ⟨k + 1, m + sz, by omega, by go_num, by go_num, HN.out, hB⟩
        case measure => simp [intOf]; omega
      · have hki : ¬ ((k : Int) < (kids.length : Int)) := by omega
        have ek : k = kids.length := by omega
        have HR := hideT (show szN (.mk t kids) = m by rw [HS.out, HM.out, ek, List.take_length])
        clear ek
        go_wp2
        go_ret
        exact ⟨by rw [HR.out]; rfl, hB⟩

end Go.Proofs.YtibeiggedmabkaaDoor

namespace Go.Proofs.YtibeiggedmabkaaDoor
open Go.RowKit
set_option linter.unusedVariables false
set_option linter.unusedSimpArgs false
def liveT : List UInt8 := [40, 97, 32, 40, 98, 41, 41]
set_option maxRecDepth 100000 in
theorem live_e : (readG liveT).2 = (0, 0) := by kernel_rfl
def Nd.shape2 : List Nd → Option (Nat × Nat)
  | [n] => some (n.t.k, szN n)
  | _ => none
set_option maxRecDepth 100000 in
theorem live_n : Nd.shape2 (readG liveT).1 = some (0, 6) := by kernel_rfl
theorem live_one : ∃ t kids, (readG liveT).1 = [.mk t kids] ∧ szN (.mk t kids) = 6 := by
  have h := live_n
  generalize (readG liveT).1 = l at h
  match l, h with
  | [n], h =>
    simp only [Nd.shape2, Option.some.injEq, Prod.mk.injEq] at h
    exact ⟨n.t, n.kids, by rw [nd_eta], by rw [nd_eta]; exact h.2⟩
set_option maxHeartbeats 8000000 in
set_option maxRecDepth 100000 in
theorem lives_is (w : World) (hM : MaxL w) (hmx : mxB < w.heap.size) : Calls Tryd.prog 11 #[] w fun e w' => e = .returned (.bool true) ∧ Below w.heap.size w w' := by
  have G := hideT (read_is ⟨#[40, 97, 32, 40, 98, 41, 41]⟩ w (by decide) hM hmx)
  obtain ⟨t, kids, hl, hz⟩ := live_one
  rw [show (⟨#[40, 97, 32, 40, 98, 41, 41]⟩ : ByteArray).data.toList = liveT from rfl, live_e, hl] at G
  clear hl
  go_enter Tryd.func11, Tryd.ntmps11
  go_wp2_with fail
  refine G.out.mono ?_
  rintro e w1 ⟨v, rfl, ⟨K, Q, tl, tq⟩, b1⟩
  clear G
  have hk1 := tl.kn.1
  simp only [List.length_cons, List.length_nil] at hk1
  obtain ⟨g, c, ev, hcc⟩ := own_form tl.own (by omega)
  have kn0 := tl.kn.2 0 (by omega) (by simp)
  obtain ⟨k1, k2⟩ := kn0
  simp only [List.getElem_cons_zero, Nd.t, Nd.kids] at k1 k2
  obtain ⟨ua, uc, eu⟩ := k2.sl
  have a0 : w1.cell? ⟨g, 0, none⟩ = (t.cells)[0]? := by have h := (ev ▸ tl.own : w1.ownsRow w.heap.size 34 7 (.slice (some ⟨g, 0, none⟩) K.length c) K.length (nvCells K)).cellAt 0 (by omega); rw [h, show 0 = 0 * 7 + 0 from rfl, nv_get K 0 0 (by omega) (by omega), k1]; rfl
  have a1 : w1.cell? ⟨g, 1, none⟩ = (t.cells)[1]? := by have h := (ev ▸ tl.own : w1.ownsRow w.heap.size 34 7 (.slice (some ⟨g, 0, none⟩) K.length c) K.length (nvCells K)).cellAt 1 (by omega); rw [h, show 1 = 0 * 7 + 1 from rfl, nv_get K 0 1 (by omega) (by omega), k1]; rfl
  have a2 : w1.cell? ⟨g, 2, none⟩ = (t.cells)[2]? := by have h := (ev ▸ tl.own : w1.ownsRow w.heap.size 34 7 (.slice (some ⟨g, 0, none⟩) K.length c) K.length (nvCells K)).cellAt 2 (by omega); rw [h, show 2 = 0 * 7 + 2 from rfl, nv_get K 0 2 (by omega) (by omega), k1]; rfl
  have a3 : w1.cell? ⟨g, 3, none⟩ = (t.cells)[3]? := by have h := (ev ▸ tl.own : w1.ownsRow w.heap.size 34 7 (.slice (some ⟨g, 0, none⟩) K.length c) K.length (nvCells K)).cellAt 3 (by omega); rw [h, show 3 = 0 * 7 + 3 from rfl, nv_get K 0 3 (by omega) (by omega), k1]; rfl
  have a4 : w1.cell? ⟨g, 4, none⟩ = (t.cells)[4]? := by have h := (ev ▸ tl.own : w1.ownsRow w.heap.size 34 7 (.slice (some ⟨g, 0, none⟩) K.length c) K.length (nvCells K)).cellAt 4 (by omega); rw [h, show 4 = 0 * 7 + 4 from rfl, nv_get K 0 4 (by omega) (by omega), k1]; rfl
  have a5 : w1.cell? ⟨g, 5, none⟩ = (t.cells)[5]? := by have h := (ev ▸ tl.own : w1.ownsRow w.heap.size 34 7 (.slice (some ⟨g, 0, none⟩) K.length c) K.length (nvCells K)).cellAt 5 (by omega); rw [h, show 5 = 0 * 7 + 5 from rfl, nv_get K 0 5 (by omega) (by omega), k1]; rfl
  have a6 : w1.cell? ⟨g, 6, none⟩ = some (.slice ua kids.length uc) := by have h := (ev ▸ tl.own : w1.ownsRow w.heap.size 34 7 (.slice (some ⟨g, 0, none⟩) K.length c) K.length (nvCells K)).cellAt 6 (by omega); rw [h, show 6 = 0 * 7 + 6 from rfl, nv_get K 0 6 (by omega) (by omega), ← eu]; rfl
  simp only [Tok.cells, List.getElem?_cons_zero, List.getElem?_cons_succ] at a0 a1 a2 a3 a4 a5
  have GS := hideT (size1 k2 t w1 (Below.refl _ _) (by rw [hz]; decide))
  rw [hz, eu] at GS
  have hkl : K.length = 1 := hk1
  subst ev
  rw [hkl]
  clear hk1 hkl k1 k2 eu tl tq hz
  go_wp2_with fail
  refine GS.out.mono ?_
  rintro e w2 ⟨rfl, b2⟩
  go_wp2
  go_ret
  exact ⟨rfl, b1.trans (b2.mono b1.size)⟩

end Go.Proofs.YtibeiggedmabkaaDoor

namespace Go.Proofs.YtibeiggedmabkaaDoor
open Go.RowKit
set_option linter.unusedVariables false
set_option linter.unusedSimpArgs false
theorem ReadA.nd2 {w w0 : World} {v : Value} {N : List Nd} (h : ReadA w w0 v N) (hl : N.length ≤ 1099511627776) : ∃ P, NdIn w P v N := by
  obtain ⟨K, Q, h2, h4⟩ := h
  exact ⟨_, ndin_of (Q := fun g => Q g ∨ v.ownBlock = some g) h2.own h2.kn (fun g c => Or.inl c) (fun g c => Or.inr c) (by rw [h2.kn.1]; exact hl)⟩
theorem BuiltW.nd {w w0 : World} {s : BS} {code pl : Int} {r : Ending} (h : BuiltW w w0 s code pl r) : ∃ na nc ov P, r = .returned (.agg #[.slice na s.nodes.length nc, ov, .int .i64 code, .int .i64 pl]) ∧ (∃ oa oc, ov = .slice oa s.opn.length oc) ∧ NdIn w P (.slice na s.nodes.length nc) s.nodes := by
  obtain ⟨base, hb, ov, lv, x0, P, rfl, bd, hr, hk⟩ := h
  have h0 : x0 ∈ lv ++ [x0] := by simp
  have hn := hr.nodesR
  obtain ⟨na, nc, en⟩ := own_sl (bd.ok x0 h0)
  have hl : x0.K.length = s.nodes.length := by rw [← hn]; exact (bd.kn x0 h0).1
  rw [hl] at en
  obtain ⟨oa, oc, eo⟩ := own_sl bd.own
  refine ⟨na, nc, ov, fun g => P g ∨ x0.v.ownBlock = some g, by rw [en], ⟨oa, oc, by rw [eo, hr.openLen]⟩, ?_⟩
  have := ndin_of (Q := fun g => P g ∨ x0.v.ownBlock = some g) (bd.ok x0 h0) (bd.kn x0 h0) (fun g c => Or.inl c) (fun g c => Or.inr c) (by have := hk x0 h0; omega)
  rw [en, hn] at this
  rw [en]
  exact this
end Go.Proofs.YtibeiggedmabkaaDoor
