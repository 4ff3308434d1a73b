/-
  analyse: Final.
-/
import Derived.Test.YtbcbgglhhfdbcabANH
import Derived.Test.YtbcbgglhhfdbcabAFP
import Derived.Test.YtbcbgglhhfdbcabAFV
namespace Go.Proofs.Ytbcbgglhhfdbcab
open Go.RowKit
set_option linter.unusedVariables false
set_option linter.unusedSimpArgs false
def plOf (n : Nat) : Value → Nat
  | .int _ z => z.toNat
  | _ => n
set_option maxHeartbeats 16000000 in
set_option maxRecDepth 100000 in
theorem final_is (a : Option Addr) (ca : Nat) (C : List (List Int)) (f : Nat → Option Addr × Nat) (ma : Option Addr) (mc : Nat) (M : List Mk) (x : Int) (hx : i64 x) (w : World) (hC : CsAt w a C f) (hM : MsAt w ma M) (hM9 : M.length ≤ 1048575) (hCl : ∀ i, i < C.length → (C.getD i []).length ≤ 1048576) :
    Calls Try.prog 8 #[.slice a C.length ca, .slice ma M.length mc, .int .i64 x] w fun e w' => ∃ (a' : Option Addr) (c' : Nat), e = .returned (.tuple #[.slice a' (ansF C M x).length c', .int .i64 (errF C M x)]) ∧ LsAt w' a' (ansF C M x) ∧ Below w.heap.size w w' := by
  obtain ⟨An, hAn⟩ : ∃ z, ansF C M x = z := ⟨_, rfl⟩
  obtain ⟨En, hEn⟩ : ∃ z, errF C M x = z := ⟨_, rfl⟩
  rw [hAn, hEn]
  replace hAn := hide' hAn
  replace hEn := hide' hEn
  unfold i64 at hx
  have GR := hide' (read_is a ca C f ma mc M w hC hM hM9)
  have HCM := hide' (And.intro hC (And.intro hM hCl))
  clear hC hM hCl
  obtain ⟨n, hn⟩ : ∃ n, M.length = n := ⟨_, rfl⟩
  obtain ⟨Cn, hCn⟩ : ∃ n, C.length = n := ⟨_, rfl⟩
  rw [hn, hCn] at GR ⊢
  rw [hn] at hM9
  replace hn := hide' hn
  replace hCn := hide' hCn
  go_enter Try.func8, Try.ntmps8
  go_wp2_with fail
  refine GR.out.mono ?_
  rintro e w1 ⟨b1, ⟨hbad, rfl⟩ | ⟨hgood, b, rfl, hT⟩⟩
  · have e1 : An = [] := by rw [← hAn.out]; exact (ansF_bad hbad).1
    have e2 : En = 200 := by rw [← hEn.out]; exact (ansF_bad hbad).2
    subst e1; subst e2
    clear GR
    go_wp2
    refine bodyPost_ret (v := .tuple #[.slice none 0 0, .int .i64 200]) (by rw [results_tt rfl]; go_simp) rfl ?_
    have HNL : ∀ W : World, LsAt W none [] := fun W => ⟨by simp, fun y hy => by simp at hy, fun h => absurd h (by simp)⟩
    first | exact ⟨none, 0, rfl, HNL _, b1⟩ | exact ⟨⟨none, ⟨0, rfl⟩, HNL _⟩, b1⟩ | exact ⟨none, ⟨0, rfl⟩, HNL _, b1⟩
  · obtain ⟨base, G, N0, hT⟩ := hT; have hd := Chk.dst hgood
    have HT := hide' hT
    have HCW := hide' (And.intro (HCM.out.1.later b1) (HCM.out.2.1.later b1))
    have HB1 := hide' b1
    clear hT b1 GR
    obtain ⟨pz, hpz⟩ : ∃ z, plV M x = z := ⟨_, rfl⟩
    obtain ⟨v, hv, GO⟩ : ∃ v : Int, decide (v ≤ 0) = decide (pz < 0) ∧ Hid (Calls Try.prog 24 #[.pointer (some ⟨b, 2, none⟩), .int .i64 x] w1 fun e w' => e = .returned (.int .i64 v) ∧ w' = w1) := by
      by_cases hm : x = -9223372036854775808
      · refine ⟨0, ?_, hide' (by rw [hm]; exact of_min base b G N0 (plA M) w1 HT.out.pl)⟩
        rw [← hpz]; rcases plV_spec M x with ⟨h1, _⟩ | ⟨m, hm2, _, h2, _⟩
        · rw [h1]; rfl
        · have h9 := isLit_iff.1 ((hgood m hm2).lit); rw [h2] at h9; exact absurd hm h9.2
      · exact ⟨ofF (plA M) x, by rw [← hpz]; exact of_le hd (by omega) hx.2, hide' (of_is base b G N0 (plA M) x (by omega) hx.2 w1 HT.out.pl)⟩
    have HPZ := hide' hpz
    clear hpz
    by_cases hp : 0 ≤ pz
    rotate_left
    · have e1 : An = [] := by rw [← hAn.out]; exact (ansF_none hgood (by rw [HPZ.out]; omega)).1
      have e2 : En = 210 := by rw [← hEn.out]; exact (ansF_none hgood (by rw [HPZ.out]; omega)).2
      subst e1; subst e2
      have hv1 : v ≤ 0 := by rw [decide_eq_true (show pz < 0 by omega)] at hv; exact of_decide_eq_true hv
      clear hv
      go_wp2_with fail
      refine (GO.out).mono ?_
      rintro e wq ⟨rfl, hw9⟩
      rw [hw9]
      clear hw9
      go_wp2
      refine bodyPost_ret (v := .tuple #[.slice none 0 0, .int .i64 210]) (by rw [results_tt rfl]; go_simp) rfl ?_
      have HNL : ∀ W : World, LsAt W none [] := fun W => ⟨by simp, fun y hy => by simp at hy, fun h => absurd h (by simp)⟩
      first | exact ⟨none, 0, rfl, HNL _, HB1.out⟩ | exact ⟨⟨none, ⟨0, rfl⟩, HNL _⟩, HB1.out⟩ | exact ⟨none, ⟨0, rfl⟩, HNL _, HB1.out⟩
    · have e1 : An = finA C M x := by rw [← hAn.out]; exact (ansF_good hgood (by rw [HPZ.out]; omega)).1
      have e2 : En = 0 := by rw [← hEn.out]; exact (ansF_good hgood (by rw [HPZ.out]; omega)).2
      subst e2
      have HAN := hide' e1
      clear e1
      have hv1 : ¬ v ≤ 0 := by rw [decide_eq_false (show ¬ pz < 0 by omega)] at hv; exact of_decide_eq_false hv
      clear hv
      obtain ⟨p, rfl⟩ := Int.eq_ofNat_of_zero_le hp
      obtain ⟨hpn, hpl⟩ : p < n ∧ litF M p = x := by
        rcases plV_spec M x with ⟨h1, _⟩ | ⟨m, hm2, h1, h2, _⟩
        · rw [HPZ.out] at h1; omega
        · have e9 : m = p := by rw [HPZ.out] at h1; omega
          subst e9; exact ⟨by rw [← hn.out]; exact hm2, h2⟩
      have hl9 := isLit_iff.1 ((hgood p (by rw [hn.out]; exact hpn)).lit)
      have hl8 : (M.getD p default).l = x := hpl
      rw [hl8] at hl9
      clear hl8
      have hw9 := wrap_neg (show -9223372036854775808 < x by omega) hx.2
      have hw8 := wrap_neg0 (show -9223372036854775808 < x by omega) hx.2
      have hfy : flsV M (-x) = true := by rw [← hpl]; exact Chk.flsSelf hgood (by rw [hn.out]; exact hpn) (by rw [hpl]; exact hx)
      have GP := hide' (fun wq (hb : Below w1.heap.size w1 wq) => placeOf_is base b G N0 (.slice a Cn ca) (.slice ma n mc) M (-x) ⟨by omega, by omega⟩ hfy p (by rw [Int.neg_neg]; exact HPZ.out) (by omega) wq (HT.out.later hb) hd)
      have GNF := hide' (newFalling_is (fun _ => 0) 2 w1)
      clear hfy hp
      replace hl9 := hide' hl9
      go_wp2_with fail
      refine (GO.out).mono ?_
      rintro e wq ⟨rfl, hw9⟩
      rw [hw9]
      clear hw9
      go_wp2_with fail
      refine GNF.out.mono ?_
      rintro e w2 ⟨q, ow0, rfl, hF0, hA0, hq0, hb2⟩
      have GPU := hide' (fput_is ow0 2 q 0 [] (p : Int) ⟨by omega, by omega⟩ (by decide) (by omega) w2 hF0)
      have GP2 := hide' (GP.out w2 hb2)
      have HS0 := hide' (show St w1 q 0 [] w2 ow0 from ⟨hF0, hA0.low (fun _ _ => rfl) (Nat.le_refl _), hA0.hi (fun _ _ => rfl), hb2⟩)
      clear hF0 hA0 hq0 hb2 GNF GP
      go_wp2_with fail
      refine GP2.out.mono ?_
      rintro e wq ⟨rfl, hwq⟩
      rw [hwq]
      clear hwq
      go_wp2_with fail
      refine GPU.out.mono ?_
      rintro e w3 ⟨⟨vv, rfl⟩, ow3, L3, k1, k2, k3⟩
      have HX0 := hide' (show St w1 q 1 L3 w3 ow3 ∧ LofS L3 n (inL [plV M x]) from ⟨HS0.out.step k3 k1, fun z => by
          rw [k2 z]; constructor
          · rintro (rfl | h)
            · exact ⟨by omega, by omega, by rw [inL_iff, HPZ.out]; simp⟩
            · exact absurd h (by simp)
          · rintro ⟨h1, h2, h3⟩; rw [inL_iff, HPZ.out] at h3; simp only [List.mem_singleton] at h3; exact Or.inl (by omega)⟩)
      clear k1 k2 k3 HS0 GPU GP2
      obtain ⟨A0, hA0⟩ : ∃ A, finL C M n (inL [plV M x]) = A := ⟨_, rfl⟩
      have HA0 := hide' hA0
      clear hA0 hw9 hw8
      go_wp2_with fail
      go_loopw [11, 12] (fun vo vp wx => ∃ (nn : Nat) (S : Nat → Bool) (B : List Int) (ow : Nat → Nat) (L : List Int) (N : Nat) (s : SlV), nn = plOf n vp ∧ vo = .slice s.at' B.length s.c ∧ St w1 q N L wx ow ∧ LofS L nn S ∧ RowAt wx ow 3 3 1 s B.length (iv B) ∧ okL B ∧ nn ≤ n ∧ B ++ finL C M nn S = A0 ∧ B.length + nn ≤ n ∧ N + 1048576 * nn ≤ 1048576 * (n + 1)) (fun _ vp _ => plOf n vp)
      case atStart => exact ⟨n, _, [], ow3, L3, 1, default, rfl, rfl, HX0.out.1, HX0.out.2, RowAt.nil, fun y hy => by simp at hy, Nat.le_refl _, by rw [List.nil_append]; exact HA0.out, by simp, by omega⟩
      case round =>
        clear HX0
        obtain ⟨nn, S, B, ow, L, N, s, hnn, rfl, hS, hLS, hR, hoB, hnn9, hC, hlB, hN⟩ := hrel
        have HS := hide' hS
        have HLS := hide' hLS
        have HR := hide' hR
        have HOB := hide' hoB
        have HCE := hide' hC
        have HNE := hide' hnn
        have HNN := hide' (And.intro hlB hN)
        have hb9 : B.length ≤ 1048576 := by omega
        clear hS hLS hR hoB hC hnn hlB hN
        obtain ⟨m2, s3, hR3⟩ := HS.out.fa.raw
        have GE := hide' (fempty_is ow 2 q m2 N s3 _ L wr hR3)
        by_cases hL : L.length = 0
        · rw [decide_eq_true hL] at GE
          have htn := HLS.out.none.2 (List.eq_nil_of_length_eq_zero hL)
          have HBA := hide' (show finA C M x = B.reverse from by have h9 := HCE.out; unfold finL at h9; rw [fin_none _ _ htn, List.map_nil, List.append_nil] at h9; unfold finA; rw [hn.out, HA0.out, h9])
          have GV := hide' (rev_is ow 3 s B wr HR.out hb9)
          have HLO := hide' (And.intro HS.out.low HS.out.bel)
          clear htn hL hR3
          go_wp2_with fail
          refine GE.out.mono ?_
          rintro e wq ⟨rfl, hwq⟩
          rw [hwq]
          clear hwq GE
          go_wp2_with fail
          refine GV.out.mono ?_
          rintro e w5 ⟨⟨v5, rfl⟩, R5, A5⟩
          have HLS5 := hide' (show LsAt w5 s.at' B.reverse from by
              rw [← List.length_reverse] at R5
              obtain ⟨a9, cap9, e9, _, h9⟩ := own_ls R5.1 (fun y hy => HOB.out y (by simpa using hy)) (by rw [List.length_reverse]; omega)
              unfold SlV.val at e9; injection e9 with e9 _ e8; rw [e9]; exact h9)
          have HB5 := hide' (HB1.out.trans ((HLO.out.2.trans (A5.bel HLO.out.1 HLO.out.2.size (by decide))).mono HB1.out.size))
          clear R5 A5 GV
          go_wp2
          refine bodyPost_ret (v := .tuple #[.slice s.at' B.length s.c, .int .i64 0]) (by rw [results_tt rfl]; go_simp) rfl ?_
          rw [HAN.out, HBA.out, show B.length = B.reverse.length from List.length_reverse.symm]
          first | exact ⟨s.at', s.c, rfl, HLS5.out, HB5.out⟩ | exact ⟨⟨s.at', ⟨s.c, rfl⟩, HLS5.out⟩, HB5.out⟩ | exact ⟨s.at', ⟨s.c, rfl⟩, HLS5.out, HB5.out⟩
        · rw [decide_eq_false hL] at GE
          obtain ⟨z, hzt, htop⟩ := HLS.out.top HS.out.fa.hp (by omega)
          obtain ⟨m9, hm9⟩ : ∃ m9, L.length = m9 + 1 := ⟨L.length - 1, by omega⟩
          have GN := hide' (fnext_is ow 2 q N m9 L (z : Int) hm9 hzt wr HS.out.fa)
          clear hm9 hzt hR3 hL
          have hzn : z < nn := (top_some htop).1
          have hzM : z < n := by omega
          have HTP := hide' htop
          clear htop
          go_wp2_with fail
          refine GE.out.mono ?_
          rintro e wq ⟨rfl, hwq⟩
          rw [hwq]
          clear hwq wq GE
          go_wp2_with fail
          refine GN.out.mono ?_
          rintro e w4 ⟨rfl, ow4, L4, k1, k2, k3, k4⟩
          have HP4 := hide' (show St w1 q N L4 w4 ow4 ∧ LofS L4 z S ∧ RowAt w4 ow4 3 3 1 s B.length (iv B) from ⟨HS.out.step k3 k1, HLS.out.pop HTP.out k2, HR.out.far k3 (by decide)⟩)
          clear k1 k2 k3 k4 GN HS HLS HR
          obtain ⟨b2, o2, e2, ⟨cl, _, cz⟩, hoz⟩ := HCW.out.2.el hn.out hzM
          subst e2
          replace cz := below_cell HP4.out.1.bel cz
          replace cl := below_cell HP4.out.1.bel cl
          have e7 : (M.getD z default).r = rsnF M z := rfl
          have e8 : (M.getD z default).l = litF M z := rfl
          unfold okM at hoz
          rw [e7] at cz
          rw [e8] at cl hoz
          have HOZ := hide' hoz.1
          clear e7 e8 hoz
          obtain ⟨x1, hx1⟩ : ∃ x, litF M z = x := ⟨_, rfl⟩
          rw [hx1] at cl HOZ
          have HX1 := hide' hx1
          clear hx1
          have i1 : (z : Int) < (n : Int) := by omega
          have i0 : (0 : Int) ≤ (z : Int) := by omega
          by_cases hdec : rsnF M z = -1
          · have HFD := hide' (show (B ++ [x1]) ++ finL C M z S = A0 from by have h9 := HCE.out; unfold finL at h9 ⊢; rw [fin_dec _ _ HTP.out hdec, List.map_cons, HX1.out] at h9; rw [List.append_assoc]; exact h9)
            rw [hdec] at cz
            replace hdec := hide' hdec
            obtain ⟨ii, hii, hiz, his, hib⟩ := info_parts info_i
            have hrB := HP4.out.2.2
            obtain ⟨l9, hl9⟩ : ∃ l, B.length = l := ⟨_, rfl⟩
            have hlb9 := hb9
            rw [hl9] at hrB hlb9
            obtain ⟨wB, hwB⟩ : ∃ wB, w4.alloc (.cells #[.int .i64 (x1)] 3) = wB := ⟨_, rfl⟩
            have hnew := heap_alloc_new w4 (.cells #[.int .i64 (x1)] 3)
            have b3 := below_alloc (w := w4) (.cells #[.int .i64 (x1)] 3)
            rw [hwB] at hnew b3
            have hrB2 := hrB.belowR b3
            have HO := hide' (show wB.ownsRow 0 3 1 (.slice s.at' l9 s.c) l9 (iv B) from hrB2.1)
            have HRB := hide' (And.intro hrB2 (App.of_below (ow := ow4) (t := 3) b3))
            clear hrB hrB2 b3
            have hml : l9 + 1 ≤ maxLen := by simp only [maxLen]; omega
            have hbl : (l9 + 1) * 8 ≤ 140737488355328 := by omega
            have hl10 := hide' hl9
            try rw [hl9]
            clear hl9
            go_wp2_with (at_builtin; (try rw [hwB]); refine wpList_append_lies _ (by rfl) _ _ _ (by rfl) 0 3 ii _ 1 8 Try.underlying26 hii hiz his hib rfl (by omega) (.slice s.at' l9 s.c) l9 (iv B) (by rfl) HO.out ⟨w4.heap.size, 0, none⟩ 1 1 [.int .i64 (x1)] (by rfl) (by rfl) (World.news_of_block (cs := #[.int .i64 (x1)]) (t := 3) (fr := (0, 0)) hnew) (by simp [Value.oneCell']) (by omega) hml hbl (Nat.zero_le _) wB.heap.size rfl ?_)
            intro gb cap w6 hown hgrow hat hlt9
            obtain ⟨R9, A9⟩ := RowAt.app (ow := ow4) (t := 3) (s := s) (n := l9) (m := 1) (xs := iv B) (news := [.int .i64 (x1)]) HRB.out.1 hown hgrow hat rfl hlt9 (by decide)
            obtain ⟨ow6, how9⟩ : ∃ o, setO ow4 gb 3 = o := ⟨_, rfl⟩
            rw [how9] at R9 A9
            replace A9 := HRB.out.2.trans A9
            have R8 : RowAt w6 ow6 3 3 1 ⟨some gb, cap⟩ (B ++ [x1]).length (iv (B ++ [x1])) := by rw [List.length_append, hl10.out, iv_append]; exact R9
            clear R9 HO HRB hnew hml hbl hown hgrow hat hlt9 how9 hwB hlb9
            have HY := hide' (And.intro (HP4.out.1.other A9 (by decide) (by decide)) R8)
            clear A9 R8
            have hcle : (B ++ [x1]).length = l9 + 1 := by rw [List.length_append, hl10.out]; rfl
            have HCLE := hide' hcle
            clear hcle
            have HNX := hide' (show (l9 + 1) + z ≤ n ∧ N + 1048576 * z ≤ 1048576 * (n + 1) from by have h1 := HNN.out; rw [hl10.out] at h1; omega)
            go_wp2
            go_roundw
            case rel => exact ⟨z, S, B ++ [x1], ow6, L4, N, ⟨some gb, cap⟩, by simp [plOf], by rw [HCLE.out]; rfl, HY.out.1, HP4.out.2.1, HY.out.2, fun u hu => by rcases List.mem_append.1 hu with h | h; exact HOB.out u h; (simp at h; subst h; exact HOZ.out), by omega, HFD.out, by rw [HCLE.out]; exact HNX.out.1, HNX.out.2⟩
            case measure => (first | (show plOf n (.int .i64 (z : Int)) < plOf n _; rw [← HNE.out]; simp only [plOf, Int.toNat_natCast]; exact hzn) | (rw [← HNE.out]; simp only [plOf, Int.toNat_natCast]; exact hzn) | (have h9 := HNE.out; simp only [plOf] at h9 ⊢; omega))
          · obtain ⟨ρ, hρ, hρC, hmem9, hfl9⟩ := Chk.reason hgood (by rw [hn.out]; exact hzM) hdec
            have hcau := hide' (fun y (hy : y ∈ cauL C M z) => Chk.cau hgood (p := z) (by rw [hn.out]; exact hzM) hdec hy)
            have HFG := hide' (show B ++ finL C M z (uni S (cauB C M z)) = A0 from by have h9 := HCE.out; unfold finL at h9 ⊢; rw [fin_res _ _ HTP.out hdec] at h9; exact h9)
            have hcl3 : (cauL C M z).length ≤ 1048576 := by unfold cauL; rw [List.length_map, show (M.getD z default).r = (ρ : Int) from hρ, Int.toNat_natCast]; exact Nat.le_trans (List.length_filter_le _ _) (HCM.out.2.2 ρ hρC)
            have GRS := hide' (resolve_is base b G N0 _ ca C f _ mc M w1 (by rw [hCn.out, hn.out]; exact HT.out) hd HCW.out.1 HCW.out.2 (by rw [hn.out]; exact hM9) z ρ (by rw [hn.out]; exact hzM) hρ hρC (fun x hx hne => (hfl9 x hx hne).1) (HCM.out.2.2 ρ hρC) ow4 2 q N L4 w4 HP4.out.1.bel HP4.out.1.low HP4.out.1.hi (by decide) (by have := HNN.out.2; omega) HP4.out.1.fa)
            rw [hρ] at cz
            have hρ9 : ρ ≤ 17592186044416 := by have := HCW.out.1.1; omega
            replace hdec := hide' hdec
            clear hρ hmem9 hfl9 hρC
            have e9 : ¬ (ρ : Int) = -1 := by omega
            go_wp2_with fail
            refine GRS.out.mono ?_
            rintro e w5 ⟨rfl, ow5, L5, k1, k2, k3⟩
            have HX := hide' (show St w1 q (N + (cauL C M z).length) L5 w5 ow5 ∧ RowAt w5 ow5 3 3 1 s B.length (iv B) ∧ LofS L5 z (uni S (cauB C M z)) from ⟨HP4.out.1.step k3 k1, HP4.out.2.2.far k3 (by decide), HP4.out.2.1.uni hcau.out k2⟩)
            clear k1 k2 k3 GRS cl cz
            have HNX := hide' (show B.length + z ≤ n ∧ N + (cauL C M z).length + 1048576 * z ≤ 1048576 * (n + 1) from by have h1 := HNN.out; omega)
            go_wp2
            go_roundw
            case rel => exact ⟨z, uni S (cauB C M z), B, ow5, L5, N + (cauL C M z).length, s, by simp [plOf], rfl, HX.out.1, HX.out.2.2, HX.out.2.1, HOB.out, by omega, HFG.out, HNX.out.1, HNX.out.2⟩
            case measure => (first | (show plOf n (.int .i64 (z : Int)) < plOf n _; rw [← HNE.out]; simp only [plOf, Int.toNat_natCast]; exact hzn) | (rw [← HNE.out]; simp only [plOf, Int.toNat_natCast]; exact hzn) | (have h9 := HNE.out; simp only [plOf] at h9 ⊢; omega))
end Go.Proofs.Ytbcbgglhhfdbcab
