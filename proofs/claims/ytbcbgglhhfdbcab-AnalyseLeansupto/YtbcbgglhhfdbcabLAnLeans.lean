/-
  AnalyseLeans.
-/
import Derived.Test.YtbcbgglhhfdbcabAFF
import Derived.Test.YtbcbgglhhfdbcabAFL
import Derived.Test.YtbcbgglhhfdbcabANI
import Derived.Test.YtbcbgglhhfdbcabOpenAO
namespace Go.Proofs.Ytbcbgglhhfdbcab.analyseLeans
open Go.ChangeShapes Go.WideShapes Go.ChangeAt Go.RowKit Go.Proofs.Ytbcbgglhhfdbcab
set_option linter.unusedVariables false
set_option linter.unusedSimpArgs false
def lastV (P : List Nat) (k : Nat) : Int := if k = 0 then -1 else (P.getD (k - 1) 0 : Nat)
set_option maxHeartbeats 16000000 in
set_option maxRecDepth 100000 in
theorem walkL (a : Option Addr) (ca : Nat) (C : List (List Int)) (f : Nat → Option Addr × Nat) (ma : Option Addr) (mc : Nat) (M : List Mk) (x : Int) (ia : Option Addr) (ic : Nat) (A : List Int) (w : World) (hcs9 : CsAt w a C f) (hms9 : MsAt w ma M) (hcn : C.length ≤ 1048575) (hmn : M.length ≤ 1048575) (hcl : ∀ i, i < C.length → (C.getD i []).length ≤ 1048576) (h1 : -9223372036854775808 ≤ x) (h2 : x ≤ 9223372036854775807) (hI : LsAt w ia A) :
    Calls Try.prog 6 #[.agg #[.slice a C.length ca, .slice ma M.length mc], .int .i64 x, .slice ia A.length ic] w fun e w' => e = .returned (.bool true) ∧ Below w.heap.size w w' := by
  have GL := hide' (fun w' => lives_is w')
  have GT := hide' (fun w' (h : CsAt w' a C f) => twin_is a ca C f w' h (by omega))
  have GM := hide' (fun w' (h : MsAt w' ma M) => marks_is ma mc M w' h (by omega))
  have GF := hide' (fun w' g G gm (h : CsAt w' (some ⟨g, 0, none⟩) C (twF C G)) (h2 : MsAt w' (some ⟨gm, 0, none⟩) M) => final_is (some ⟨g, 0, none⟩) C.length C (twF C G) (some ⟨gm, 0, none⟩) M.length M x ⟨h1, by assumption⟩ w' h h2 hmn hcl)
  have GC := hide' (fun w' a2 c2 m (h : LsAt w' ia A) (h2 : LsAt w' a2 m) => clause_is ia ic A a2 c2 m w' h h2)
  have GTR := hide' (fun w' y (hy : i64 y) (h : LsAt w' ia A) => truth_is ia ic A y hy w' h)
  obtain ⟨z, hz⟩ : ∃ z, errF C M x = z := ⟨_, rfl⟩
  rw [hz] at GF
  obtain ⟨An, hAn⟩ : ∃ z, ansF C M x = z := ⟨_, rfl⟩
  rw [hAn] at GF
  have HZ := hide' (And.intro hz hAn)
  clear hz hAn
  have hBw := below_alloc (w := w) (.cells #[.slice a C.length ca, .slice ma M.length mc] 25)
  have nA := heap_alloc_new w (.cells #[.slice a C.length ca, .slice ma M.length mc] 25)
  have hCs := hcs9.later hBw
  have hMs := hms9.later hBw
  have hIs := hI.later hBw
  obtain ⟨wA, hwA⟩ : ∃ wA, w.alloc (.cells #[.slice a C.length ca, .slice ma M.length mc] 25) = wA := ⟨_, rfl⟩
  rw [hwA] at hBw nA hCs hMs hIs
  have x0 := cell_of_row wA w.heap.size 0 _ _ _ nA
  have x1 := cell_of_row wA w.heap.size 1 _ _ _ nA
  simp only [List.getElem?_toArray, List.getElem?_cons_zero, List.getElem?_cons_succ] at x0 x1
  clear nA hcs9 hms9 hI hcl
  obtain ⟨al, hal⟩ : ∃ n, A.length = n := ⟨_, rfl⟩
  rw [hal] at GC GTR ⊢
  clear hal
  go_enter Try.func6, Try.ntmps6
  go_wp2_with fail
  try rw [hwA]
  clear hwA
  have bD : Below wA.heap.size wA wA.drew := (Below.refl _ _).drew
  have kx0 := below_cell bD x0
  have kx1 := below_cell bD x1
  replace hBw := hBw.trans (bD.mono hBw.size)
  replace hCs := hCs.later bD
  replace hMs := hMs.later bD
  replace hIs := hIs.later bD
  refine wp_region_held_drew (S := fun w' => w'.cell? ⟨w.heap.size, 0, none⟩ = some (.slice a C.length ca) ∧ w'.cell? ⟨w.heap.size, 1, none⟩ = some (.slice ma M.length mc)) (by kernel_rfl) ⟨kx0, kx1⟩ (fun hHeld => ?_)
  clear kx0 kx1
  generalize wA.drew = u0 at bD hCs hMs hIs hBw hHeld ⊢
  clear bD x0 x1
  refine take' 0 (v := ?_) rfl (by kernel_rfl) (by kernel_rfl) (by kernel_rfl) (fun _ _ _ h => h) (Or.inl ⟨by rfl, ?_⟩) (by assumption) ?_
  rotate_left
  · intro w9 hSw
    go_simp
    first | done | with_reducible rfl
  simp only [Act.put, List.setIfInBounds_toArray, List.set_cons_zero, List.set_cons_succ]
  refine take' 1 (v := ?_) rfl (by kernel_rfl) (by kernel_rfl) (by kernel_rfl) (fun _ _ _ h => h) (Or.inl ⟨by rfl, ?_⟩) (by assumption) ?_
  rotate_left
  · intro w9 hSw
    go_simp
    first | done | with_reducible rfl
  simp only [Act.put, List.setIfInBounds_toArray, List.set_cons_zero, List.set_cons_succ]
  refine take' 3 (v := ?_) rfl (by kernel_rfl) (by kernel_rfl) (by kernel_rfl) (fun _ _ _ h => h) (Or.inl ⟨by rfl, ?_⟩) (by assumption) ?_
  rotate_left
  · intro w9 hSw
    go_simp
    first | done | with_reducible rfl
  simp only [Act.put, List.setIfInBounds_toArray, List.set_cons_zero, List.set_cons_succ]
  refine take' 4 (v := ?_) rfl (by kernel_rfl) (by kernel_rfl) (by kernel_rfl) (fun _ _ _ h => h) (Or.inl ⟨by rfl, ?_⟩) (by assumption) ?_
  rotate_left
  · intro w9 hSw
    go_simp
    first | done | with_reducible rfl
  simp only [Act.put, List.setIfInBounds_toArray, List.set_cons_zero, List.set_cons_succ]
  refine take' 6 (v := ?_) rfl (by kernel_rfl) (by kernel_rfl) (by kernel_rfl) (fun _ _ _ h => h) (Or.inl ⟨by rfl, ?_⟩) (by assumption) ?_
  rotate_left
  · intro w9 hSw
    go_simp
    first | done | with_reducible rfl
  simp only [Act.put, List.setIfInBounds_toArray, List.set_cons_zero, List.set_cons_succ]
  refine wpAnyH_ready (rs := [2]) (by kernel_rfl) (by simp) ?_
  refine cons' rfl (fun KK hKK => ?_)
  go_simp
  refine (GT.out _ hCs).mono ?_
  rintro e u1 ⟨g, rfl, ⟨G, hC2⟩, b1⟩
  have bC := b1
  replace hBw := hBw.trans (bC.mono hBw.size)
  replace hCs := hCs.later bC
  replace hMs := hMs.later bC
  replace hIs := hIs.later bC
  replace hHeld := (⟨below_cell bC hHeld.1, below_cell bC hHeld.2⟩ : _ ∧ _)
  clear bC
  go_wp2_with fail
  clear b1 GT
  refine hKK.out _ _ hHeld ?_
  clear hHeld
  intro hHeld
  clear hKK KK
  try simp only [Act.put, List.setIfInBounds_toArray, List.set_cons_zero, List.set_cons_succ]
  refine wpAnyH_ready (rs := [5]) (by kernel_rfl) (by simp) ?_
  refine cons' rfl (fun KK hKK => ?_)
  go_simp
  refine (GM.out _ hMs).mono ?_
  rintro e u2 ⟨gm, rfl, hM2, b2⟩
  have bC := b2
  replace hBw := hBw.trans (bC.mono hBw.size)
  replace hCs := hCs.later bC
  replace hMs := hMs.later bC
  replace hIs := hIs.later bC
  replace hC2 := hC2.later bC
  replace hHeld := (⟨below_cell bC hHeld.1, below_cell bC hHeld.2⟩ : _ ∧ _)
  clear bC
  go_wp2_with fail
  clear b2 GM
  refine hKK.out _ _ hHeld ?_
  clear hHeld
  intro hHeld
  clear hKK KK
  try simp only [Act.put, List.setIfInBounds_toArray, List.set_cons_zero, List.set_cons_succ]
  refine wpAnyH_ready (rs := [7]) (by kernel_rfl) (by simp) ?_
  refine cons' rfl (fun KK hKK => ?_)
  go_simp
  refine (GF.out _ g G gm hC2 hM2).mono ?_
  rintro e u3 ⟨a1, c1, rfl, hX1, b3⟩
  have bC := b3
  replace hBw := hBw.trans (bC.mono hBw.size)
  replace hCs := hCs.later bC
  replace hMs := hMs.later bC
  replace hIs := hIs.later bC
  replace hC2 := hC2.later bC
  replace hM2 := hM2.later bC
  replace hHeld := (⟨below_cell bC hHeld.1, below_cell bC hHeld.2⟩ : _ ∧ _)
  clear bC
  go_wp2_with fail
  clear b3 GF hC2 hM2
  refine hKK.out _ _ hHeld ?_
  clear hHeld
  intro hHeld
  clear hKK KK
  try simp only [Act.put, List.setIfInBounds_toArray, List.set_cons_zero, List.set_cons_succ]
  refine take' 8 (v := ?_) rfl (by kernel_rfl) (by kernel_rfl) (by kernel_rfl) (fun _ _ _ h => h) (Or.inl ⟨by rfl, ?_⟩) (by assumption) ?_
  rotate_left
  · intro w9 hSw
    go_simp
    first | done | with_reducible rfl
  simp only [Act.put, List.setIfInBounds_toArray, List.set_cons_zero, List.set_cons_succ]
  refine take' 9 (v := ?_) rfl (by kernel_rfl) (by kernel_rfl) (by kernel_rfl) (fun _ _ _ h => h) (Or.inl ⟨by rfl, ?_⟩) (by assumption) ?_
  rotate_left
  · intro w9 hSw
    go_simp
    first | done | with_reducible rfl
  simp only [Act.put, List.setIfInBounds_toArray, List.set_cons_zero, List.set_cons_succ]
  refine take' 10 (v := ?_) rfl (by kernel_rfl) (by kernel_rfl) (by kernel_rfl) (fun _ _ _ h => h) (Or.inl ⟨by rfl, ?_⟩) (by assumption) ?_
  rotate_left
  · intro w9 hSw
    go_simp
    first | done | with_reducible rfl
  simp only [Act.put, List.setIfInBounds_toArray, List.set_cons_zero, List.set_cons_succ]
  refine take' 11 (v := ?_) rfl (by kernel_rfl) (by kernel_rfl) (by kernel_rfl) (fun _ _ _ h => h) (Or.inl ⟨by rfl, ?_⟩) (by assumption) ?_
  rotate_left
  · intro w9 hSw
    go_simp
    first | done | with_reducible rfl
  simp only [Act.put, List.setIfInBounds_toArray, List.set_cons_zero, List.set_cons_succ]
  refine take' 12 (v := ?_) rfl (by kernel_rfl) (by kernel_rfl) (by kernel_rfl) (fun _ _ _ h => h) (Or.inl ⟨by rfl, ?_⟩) (by assumption) ?_
  rotate_left
  · intro w9 hSw
    go_simp
    first | done | with_reducible rfl
  simp only [Act.put, List.setIfInBounds_toArray, List.set_cons_zero, List.set_cons_succ]
  refine wpAnyH_done (by kernel_rfl) ?_ _
  obtain ⟨x0, x1⟩ := hHeld
  go_wp2_with fail
  refine (GL.out _).mono ?_
  rintro e u5 ⟨rfl, b5⟩
  replace hX1 := hX1.later b5
  replace hCs := hCs.later b5
  replace hMs := hMs.later b5
  replace hIs := hIs.later b5
  replace x0 := below_cell b5 x0
  replace x1 := below_cell b5 x1
  replace hBw := hBw.trans (b5.mono hBw.size)
  clear b5 GL
  by_cases hck : Chk C M ∧ 0 ≤ plV M x
  rotate_left
  · have eA : An = [] ∧ z ≠ 0 := by
      by_cases h9 : Chk C M
      · have h8 := ansF_none h9 (x := x) (by rcases Int.lt_or_le (plV M x) 0 with h | h; exact h; exact absurd ⟨h9, h⟩ hck); rw [HZ.out.1, HZ.out.2] at h8; exact ⟨h8.1, by rw [h8.2]; omega⟩
      · have h8 := ansF_bad h9 (x := x); rw [HZ.out.1, HZ.out.2] at h8; exact ⟨h8.1, by rw [h8.2]; omega⟩
    obtain ⟨eA, ez⟩ := eA
    subst eA
    clear HZ hck
    have ez2 : (z != 0) = true := by simp [ez]
    go_wp2
    go_ret
    exact ⟨rfl, hBw⟩
  · have h8 := ansF_good hck.1 hck.2; rw [HZ.out.1, HZ.out.2] at h8; obtain ⟨eA, ez⟩ := h8; clear HZ; subst ez; subst eA
    have HLY := hide' (leans_yes (T := A) hck.1 hck.2)
    rw [finA_eq] at hX1 ⊢
    rw [finA_eq] at HLY
    have HPF := hide' (fun i (hi : i < (finP C M x).length) => finP_lt hi)
    have HPA := hide' (fun i (hi : i + 1 < (finP C M x).length) => finP_asc hi)
    have HIN := hide' (fun i j (hi : i < M.length) (hj : j < M.length) => lit_inj hck.1 hi hj)
    obtain ⟨P, hP⟩ : ∃ P, finP C M x = P := ⟨_, rfl⟩
    rw [hP] at hX1 HLY HPF HPA ⊢
    clear hP hck
    obtain ⟨pn, hpn⟩ : ∃ n, P.length = n := ⟨_, rfl⟩
    rw [hpn] at HPF HPA
    have HG := hide' (show ∀ i, i < pn → (P.map (litF M)).getD i 0 = litF M (P.getD i 0) from fun i hi => by simp [List.getD, List.getElem?_eq_getElem (show i < P.length by omega)])
    have hll : (P.map (litF M)).length = pn := by rw [List.length_map, hpn]
    obtain ⟨L9, hL9⟩ : ∃ L, P.map (litF M) = L := ⟨_, rfl⟩
    rw [hL9] at hX1 HLY HG hll ⊢
    clear hL9 hpn
    obtain ⟨Cn, hCn⟩ : ∃ n, C.length = n := ⟨_, rfl⟩
    obtain ⟨n, hn⟩ : ∃ n, M.length = n := ⟨_, rfl⟩
    rw [hCn] at hcn x0 ⊢
    rw [hn] at hmn x1 HPF HIN ⊢
    skip
    have HLL := hide' hll
    replace hn := hide' hn
    replace hCn := hide' hCn
    rw [hll]
    clear hll
    have HD := hide' (And.intro hCs (And.intro hMs (And.intro hIs hX1)))
    have HBW := hide' hBw
    have hpl := HD.out.2.2.2.1
    rw [HLL.out] at hpl
    clear hCs hMs hIs hX1 hBw
    go_wp2_with fail
    go_loopw [9, 10] (fun va vi W => ∃ k : Nat, k ≤ Cn ∧ vi = .int .i64 k ∧ va = .bool ((C.take k).all (fun c => c.any (truthV A))) ∧ Below u5.heap.size u5 W) (fun _ vi _ => Cn - (intOf vi).toNat)
    case atStart => exact ⟨0, Nat.zero_le _, rfl, rfl, Below.refl _ _⟩
    case round =>
      obtain ⟨k, hk, rfl, rfl, hB⟩ := hrel
      replace x0 := below_cell hB x0
      by_cases hlt : k < Cn
      · obtain ⟨bb, off, rfl, ck, hL⟩ := HD.out.1.el hCn.out hlt
        replace ck := below_cell hB ck
        have HST := hide' (take_snoc C [] hCn.out hlt)
        have GC1 := hide' (GC.out wr (f k).1 (f k).2 (C.getD k []) (HD.out.2.2.1.later hB) (hL.later hB))
        clear hL
        have i1 : (k : Int) < (Cn : Int) := by omega
        have i0 : (0 : Int) ≤ (k : Int) := by omega
        cases hb : (C.take k).all (fun c => c.any (truthV A))
        · have HN := hide' (show (C.take (k + 1)).all (fun c => c.any (truthV A)) = false from by rw [HST.out, List.all_append, hb]; rfl)
          go_wp2
          go_roundw
          case rel => exact ⟨k + 1, by omega, by go_num, by rw [HN.out], hB⟩
          case measure => simp only [intOf]; omega
        · have HN := hide' (show (C.take (k + 1)).all (fun c => c.any (truthV A)) = (C.getD k []).any (truthV A) from by rw [HST.out, List.all_append, hb]; simp)
          go_wp2_with fail
          refine GC1.out.mono ?_
          rintro e w6 ⟨rfl, b6⟩
          have HB6 := hide' (hB.trans (b6.mono hB.size))
          clear b6 GC1
          obtain ⟨tv, htv⟩ : ∃ z, (C.getD k []).any (truthV A) = z := ⟨_, rfl⟩
          rw [htv] at HN
          try rw [htv]
          clear htv
          go_wp2
          go_roundw
          case rel => exact ⟨k + 1, by omega, by go_num, by rw [HN.out], HB6.out⟩
          case measure => simp only [intOf]; omega
      · obtain rfl : k = Cn := by omega
        have i9 : ¬ (k : Int) < (k : Int) := by omega
        have ht := take_all C hCn.out
        rw [ht]
        clear ht
        obtain ⟨b0, hb0⟩ : ∃ z, C.all (fun c => c.any (truthV A)) = z := ⟨_, rfl⟩
        rw [hb0] at HLY ⊢
        clear hb0
        replace x1 := below_cell hB x1
        have HBR := hide' hB
        clear hB
        go_wp2_with fail
        go_loopw [9, 11, 12] (fun va vl vi W => ∃ k : Nat, k ≤ pn ∧ vi = .int .i64 k ∧ vl = .int .i64 (lastV P k) ∧ va = .bool (b0 && (L9.take k).all (truthV A)) ∧ Below u5.heap.size u5 W ∧ W.cell? ⟨w.heap.size, 1, none⟩ = some (.slice ma n mc)) (fun _ _ vi _ => pn - (intOf vi).toNat)
        case atStart => exact ⟨0, Nat.zero_le _, rfl, rfl, by simp, HBR.out, x1⟩
        case round =>
          clear HBR x1
          obtain ⟨k, hk, rfl, rfl, rfl, hB, y1⟩ := hrel
          by_cases hlt : k < pn
          · obtain ⟨bl, ol, e2, cl, hlo, hhi⟩ := HD.out.2.2.2.el HLL.out hlt
            subst e2
            replace cl := below_cell hB cl
            have HST := hide' (take_snoc L9 0 HLL.out hlt)
            obtain ⟨p, hp⟩ : ∃ p, P.getD k 0 = p := ⟨_, rfl⟩
            have hgl := HG.out k hlt
            rw [hp] at hgl
            have hpf := HPF.out k hlt
            rw [hp] at hpf
            have hgt : lastV P k < (p : Int) := by unfold lastV; split; omega; (have h9 := HPA.out (k - 1) (by omega); rw [show k - 1 + 1 = k by omega, hp] at h9; omega)
            have hlv1 : lastV P (k + 1) = (p : Int) := by unfold lastV; rw [if_neg (by omega), Nat.add_sub_cancel, hp]
            obtain ⟨lv, hlv⟩ : ∃ v, lastV P k = v := ⟨_, rfl⟩
            rw [hlv] at hgt ⊢
            clear hlv hp
            obtain ⟨y, hy⟩ : ∃ y, L9.getD k 0 = y := ⟨_, rfl⟩
            rw [hy] at cl HST hlo hhi hgl
            clear hy
            have HPX := hide' (And.intro hgl (And.intro hpf hlv1))
            have hpn9 := hpf.1
            clear hgl hpf hlv1
            have i1 : (k : Int) < (pn : Int) := by omega
            have i0 : (0 : Int) ≤ (k : Int) := by omega
            have HB0 := hide' (And.intro hB (And.intro y1 cl))
            obtain ⟨av, hav⟩ : ∃ z, (b0 && (L9.take k).all (truthV A)) = z := ⟨_, rfl⟩
            have HAV := hide' hav
            rw [hav]
            clear hav
            go_wp2_with fail
            go_loopw [13, 14] (fun vt vj W => ∃ j : Nat, j ≤ n ∧ vj = .int .i64 j ∧ vt = .int .i64 (if p < j then (p : Int) else -1) ∧ Below u5.heap.size u5 W ∧ W.cell? ⟨w.heap.size, 1, none⟩ = some (.slice ma n mc)) (fun _ vj _ => n - (intOf vj).toNat)
            case atStart => exact ⟨0, Nat.zero_le _, rfl, rfl, HB0.out.1, HB0.out.2.1⟩
            case round =>
              clear hB y1 cl
              obtain ⟨j, hj, rfl, rfl, hB, y1⟩ := hrel
              by_cases hlj : j < n
              · obtain ⟨bm, om, e3, ⟨ck, ck1, ck2⟩, _⟩ := HD.out.2.1.el hn.out hlj
                subst e3
                obtain ⟨bl2, ol2, e4, cl, _, _⟩ := HD.out.2.2.2.el HLL.out hlt
                injection e4 with e4; injection e4 with e5 e6; subst e5; subst e6
                have ey : L9.getD k 0 = y := by have h9 := HST.out; rw [take_snoc L9 0 HLL.out hlt] at h9; have h8 := List.append_cancel_left h9; injection h8
                rw [ey] at cl
                clear ey
                replace ck := below_cell hB ck
                replace ck1 := below_cell hB ck1
                replace ck2 := below_cell hB ck2
                replace cl := below_cell hB cl
                have e7 : (M.getD j default).l = litF M j := rfl
                have e8 : (M.getD j default).r = rsnF M j := rfl
                rw [e7] at ck
                rw [e8] at ck2
                clear e7 e8
                have j1 : (j : Int) < (n : Int) := by omega
                have j0 : (0 : Int) ≤ (j : Int) := by omega
                by_cases hjp : j = p
                · have eL : litF M j = y := by rw [hjp]; exact HPX.out.1.symm
                  have eR : rsnF M j = -1 := by rw [hjp]; exact HPX.out.2.1.2
                  rw [eL] at ck
                  rw [eR] at ck2
                  clear eL eR
                  rw [if_neg (show ¬ p < j by omega)]
                  have HJ := hide' hjp
                  clear hjp
                  have HN := hide' (show (if p < j + 1 then (p : Int) else -1) = (j : Int) from by rw [if_pos (by have := HJ.out; omega), HJ.out])
                  go_wp2_with fail
                  go_quiet (fail)
                  have bQ := below_drewN (n := nq) (Below.refl wr.heap.size wr)
                  have HQ := hide' (And.intro (hB.trans (bQ.mono hB.size)) (below_cell bQ y1))
                  clear bQ
                  go_wp2
                  go_roundw
                  case rel => exact ⟨j + 1, by omega, by go_num, by rw [HN.out], HQ.out.1, HQ.out.2⟩
                  case measure => simp only [intOf]; omega
                · have eL : ¬ litF M j = y := fun e => hjp (HIN.out j p hlj hpn9 (by rw [e]; exact HPX.out.1))
                  have HN := hide' (show (if p < j + 1 then (p : Int) else -1) = (if p < j then (p : Int) else -1) from by by_cases q : p < j; rw [if_pos q, if_pos (by omega)]; rw [if_neg q, if_neg (by omega)])
                  obtain ⟨lj, hlj9⟩ : ∃ z, litF M j = z := ⟨_, rfl⟩
                  rw [hlj9] at ck eL
                  clear hlj9
                  obtain ⟨rj, hrj9⟩ : ∃ z, rsnF M j = z := ⟨_, rfl⟩
                  rw [hrj9] at ck2
                  clear hrj9
                  obtain ⟨tv, htv⟩ : ∃ z, (if p < j then (p : Int) else -1) = z := ⟨_, rfl⟩
                  rw [htv] at HN ⊢
                  clear htv
                  have eb : (lj == y) = false := by simp [eL]
                  go_wp2_with fail
                  go_quiet (fail)
                  have bQ := below_drewN (n := nq) (Below.refl wr.heap.size wr)
                  have HQ := hide' (And.intro (hB.trans (bQ.mono hB.size)) (below_cell bQ y1))
                  clear bQ
                  go_wp2
                  go_roundw
                  case rel => exact ⟨j + 1, by omega, by go_num, by rw [HN.out], HQ.out.1, HQ.out.2⟩
                  case measure => simp only [intOf]; omega
              · obtain rfl : j = n := by omega
                have i9 : ¬ (j : Int) < (j : Int) := by omega
                rw [if_pos hpn9]
                have i8 : ¬ (p : Int) ≤ lv := by omega
                have GT1 := hide' (GTR.out wr y ⟨hlo, hhi⟩ (HD.out.2.2.1.later hB))
                obtain ⟨bl2, ol2, e4, cl, _, _⟩ := HD.out.2.2.2.el HLL.out hlt
                injection e4 with e4; injection e4 with e5 e6; subst e5; subst e6
                have ey : L9.getD k 0 = y := by have h9 := HST.out; rw [take_snoc L9 0 HLL.out hlt] at h9; have h8 := List.append_cancel_left h9; injection h8
                rw [ey] at cl
                clear ey
                replace cl := below_cell hB cl
                have HNV := hide' (show (b0 && (L9.take (k + 1)).all (truthV A)) = (av && truthV A y) from by rw [HST.out, List.all_append, ← HAV.out, Bool.and_assoc]; simp)
                cases av
                · skip
                  go_wp2
                  go_roundw
                  case rel => exact ⟨k + 1, by omega, by go_num, by rw [HPX.out.2.2], by rw [HNV.out]; rfl, hB, y1⟩
                  case measure => simp only [intOf]; omega
                · skip
                  go_wp2_with fail
                  refine GT1.out.mono ?_
                  rintro e w6 ⟨rfl, b6⟩
                  have HB6 := hide' (And.intro (hB.trans (b6.mono hB.size)) (below_cell b6 y1))
                  clear b6 GT1
                  obtain ⟨tv, htv⟩ : ∃ z, truthV A y = z := ⟨_, rfl⟩
                  rw [htv] at HNV
                  try rw [htv]
                  clear htv
                  go_wp2
                  go_roundw
                  case rel => exact ⟨k + 1, by omega, by go_num, by rw [HPX.out.2.2], by rw [HNV.out]; first | rfl | simp, HB6.out.1, HB6.out.2⟩
                  case measure => simp only [intOf]; omega
          · obtain rfl : k = pn := by omega
            have i9 : ¬ (k : Int) < (k : Int) := by omega
            have GT1 := hide' (GTR.out wr x ⟨h1, by assumption⟩ (HD.out.2.2.1.later hB))
            have ht := take_all L9 HLL.out
            rw [ht]
            clear ht
            have HBF := hide' (HBW.out.trans (hB.mono HBW.out.size))
            cases hbz : (b0 && L9.all (truthV A))
            · skip
              go_wp2
              go_ret
              exact ⟨rfl, HBF.out⟩
            · rw [Bool.and_eq_true] at hbz
              have ht := HLY.out hbz.1 hbz.2
              rw [ht] at GT1
              clear hbz ht
              go_wp2_with fail
              refine GT1.out.mono ?_
              rintro e w6 ⟨rfl, b6⟩
              have HB6 := hide' (HBW.out.trans ((hB.trans (b6.mono hB.size)).mono HBW.out.size))
              clear b6 GT1
              go_wp2
              go_ret
              exact ⟨rfl, HB6.out⟩
theorem walk (o : CaV) (x : Int) (ia : Option Addr) (il ic : Nat) (ig : Nat → Int) (w : World) (ho : o.ok w) (h1 : -9223372036854775808 ≤ x) (h2 : x ≤ 9223372036854775807) (hI : LitsAt w ia il ig) (hil : il ≤ 1048576) :
    Calls Try.prog 6 #[.agg #[.slice o.a o.C.length o.c, .slice o.ma o.M.length o.mc], .int .i64 x, .slice ia il ic] w fun e w' => e = .returned (.bool true) ∧ Below w.heap.size w w' := by
  have h := walkL o.a o.c o.C o.f o.ma o.mc o.M x ia ic (lst ⟨ia, il, ic, ig⟩) w ho.cs ho.ms ho.cn ho.mn ho.cl h1 h2 (ls_lits (c := ⟨ia, il, ic, ig⟩) hI (by show il ≤ _; omega))
  rw [lst_len] at h
  exact h
set_option maxRecDepth 100000 in
theorem contract (H : Type) (enc : TypeId × Value → H) (W : World) (base : Nat) (args : Array Value) (ds gs : List (DataW H)) (before : List MemPlace)
    (hval : ∀ (j : Nat) t v, Try.f6.params[j]? = some t → args[j]? = some v → Value.okWide Try.prog W .any base t v)
    (hW : DataW.Whole enc Try.prog Try.f6.params.toList Rows.analyseLeansSpec.vars false W args.toList ds gs before)
    (hsz : (DataW.weightsEach Try.prog (Try.f6.params.toList ++ Rows.analyseLeansSpec.plain.varTypes Try.prog) (ds ++ gs)).all (· ≤ reachBytes) = true) (hk : Rows.uptoSmall H (ds ++ gs) = true) :
    Calls Try.prog 6 args W fun e W' => ∃ v, e = .returned v ∧ Rows.analyseLeansSpec.post enc Try.prog Try.f6 false true false false W args v W' := by
  have hW' := hW
  obtain ⟨p, q, hA0, hV, rfl, hfz, hnd⟩ := hW
  have hA : DataW.TrodAll enc Try.prog W 0 (fun _ => true) true Try.f6.params.toList args.toList ds p := hA0
  rw [Try.params6] at hA hval hsz
  obtain ⟨v0, vs0, d0, ds0, p0, q0, hargs, rfl, rfl, h0, r0⟩ := trodAll_cons hA
  obtain ⟨v1, vs1, d1, ds1, p1, q1, rfl, rfl, rfl, h1, r1⟩ := trodAll_cons r0
  obtain ⟨v2, vs2, d2, ds2, p2, q2, rfl, rfl, rfl, h2, r2⟩ := trodAll_cons r1
  obtain ⟨rfl, rfl, rfl⟩ := trodAll_nil r2
  obtain rfl : args = #[v0, v1, v2] := by cases args; simp_all
  obtain ⟨rfl, rfl⟩ := trodVars_none hV
  have lt0 : ∀ x ∈ p0, x.block < W.heap.size := by obtain ⟨m, hm⟩ := h0; exact DataW.trod_lt m _ _ _ hm
  have hbk0 : Rows.uptoBulk d0 ≤ 1048576 := by have hb9 := of_decide_eq_true hk; simp only [List.append_nil, Rows.uptoBulkAll] at hb9; omega
  obtain ⟨cv0, rfl, hcv0⟩ := open_Case (hval 0 25 v0 rfl rfl) h0 hbk0
  obtain ⟨z1, rfl, rfl, rfl, w1⟩ := open_int Try.underlying3 (hval 1 3 v1 rfl rfl) h1
  have bz1 := bounds_i64 w1
  have lt2 : ∀ x ∈ p2, x.block < W.heap.size := by obtain ⟨m, hm⟩ := h2; exact DataW.trod_lt m _ _ _ hm
  have hbk2 : Rows.uptoBulk d2 ≤ 1048576 := by have hb9 := of_decide_eq_true hk; simp only [List.append_nil, Rows.uptoBulkAll] at hb9; omega
  obtain ⟨ia2, il2, ic2, rfl⟩ := okWide_slice Try.underlying26 (hval 2 26 v2 rfl rfl)
  obtain ⟨ig2, hI2, hIc2, hIu2⟩ := open_Ints21 h2
  clear hA0
  have hbulk := of_decide_eq_true hk
  simp only [List.append_nil, Rows.uptoBulkAll] at hbulk
  simp only [List.append_nil] at hW'
  refine (walk cv0 z1 ia2 il2 ic2 ig2 W hcv0 (by omega) (by omega) hI2 (by omega)).mono fun e W' ⟨he, bel⟩ => ?_
  subst he
  exact ⟨_, rfl, _, _, _, [], _, [], hW', trodAll_mk1 (shut_bool Try.underlying4 _), (trodAll_cons_mk (Below.trod laidOut (by kernel_rfl) (of_decide_eq_true (by kernel_rfl)) h0 bel lt0) (trodAll_cons_mk (shut_int Try.underlying3 w1) (trodAll_cons_mk (Below.trod laidOut (by kernel_rfl) (of_decide_eq_true (by kernel_rfl)) h2 bel lt2) trodAll_mk0))), rfl, bel.frame _, fun h => by cases h⟩

set_option maxRecDepth 100000 in
theorem lifted (os : Os) (started : os.Started) (H : Type) (enc : TypeId × Value → H) (F : Stop.Interp) :
    ReturnsInHanded {} Try.checked os 6 .any ((Rows.OpenSpec.upto Rows.analyseLeansSpec).pre6 enc Try.prog Try.f6 Rows.analyseLeansUptoRow.domain false) (((Rows.OpenSpec.upto Rows.analyseLeansSpec).at F).post enc Try.prog Try.f6 false true false false) := by
  refine returnsInHanded_of_cond_sized (C := Try.checked) (s := Rows.OpenSpec.upto Rows.analyseLeansSpec) (k := Rows.uptoSmall) rfl own started (by kernel_rfl) Try.func6
    (OpenSpec.witness (enc := enc) (C := Try.checked) (s := Rows.OpenSpec.upto Rows.analyseLeansSpec) (k := Rows.uptoSmall) rfl false ⟨#[], #[.agg #[.slice none 0 0, .slice none 0 0], .int .i64 0, .slice none 0 0], []⟩ 8 (by kernel_rfl) (by kernel_rfl) (by kernel_rfl)
      (x := ([.agg [.nil, .nil], .lit (.int .i64 0), .nil], [], [])) (by kernel_rfl) rfl (by kernel_rfl)) ?_
  intro W base args ds gs before hval hW _ hk hsz _
  exact contract H enc W base args ds gs before hval hW hsz hk

theorem over : Rows.analyseLeansUptoRow.holds Try.pinned (Rows.OpenSpec.upto Rows.analyseLeansSpec) :=
  OpenClaim.holds_of_cond 6 Try.f6 rfl rfl rfl rfl rfl rfl rfl ⟨rfl, rfl, rfl, rfl, rfl⟩ rfl rfl rfl rfl rfl (by kernel_rfl) Try.func6 (by kernel_rfl)
    (of_decide_eq_true (by kernel_rfl)) (by unfold Func.isWrapper; first | (rw [if_pos (by decide +kernel)]; kernel_rfl) | (rw [if_neg (by decide +kernel)]; exact ⟨rfl, rfl⟩))
    (fun os started H enc _ F => lifted os started H enc F)

end Go.Proofs.Ytbcbgglhhfdbcab.analyseLeans
namespace Go.Proofs.Ytbcbgglhhfdbcab
theorem analyseLeans_holds : Rows.AnalyseLeansUptoSaid := analyseLeans.over
#print axioms analyseLeans_holds
end Go.Proofs.Ytbcbgglhhfdbcab
