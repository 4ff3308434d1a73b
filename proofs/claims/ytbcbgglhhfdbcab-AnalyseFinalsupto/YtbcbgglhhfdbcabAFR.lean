/-
  analyse, the reference: Final.
-/
import Derived.Test.YtbcbgglhhfdbcabAFP
import Derived.Test.YtbcbgglhhfdbcabAN3
import Derived.Test.YtbcbgglhhfdbcabAN8
namespace Go.Proofs.Ytbcbgglhhfdbcab
open Go.RowKit
set_option linter.unusedVariables false
set_option linter.unusedSimpArgs false
/-- an empty list -/
theorem row_none (w : World) (ow : Nat → Nat) (t : Nat) : RowAt (w.alloc (.cells #[] 3)) (setO ow w.heap.size t) t 3 1 ⟨some w.heap.size, 0⟩ 0 (iv []) :=
  ⟨⟨rfl, Or.inr ⟨w.heap.size, 0, #[], rfl, Nat.zero_le _, heap_alloc_new w _, Nat.le_refl _, by simp [maxLen], rfl, rfl⟩⟩, fun g hg => by injection hg with hg; subst hg; exact setO_same _ _ _⟩
theorem row_one' (w : World) (ow : Nat → Nat) (t : Nat) (x : Int) : RowAt (w.alloc (.cells #[.int .i64 x] 3)) (setO ow w.heap.size t) t 3 1 ⟨some w.heap.size, 1⟩ 1 (iv [x]) :=
  ⟨⟨rfl, Or.inr ⟨w.heap.size, 1, #[.int .i64 x], rfl, Nat.zero_le _, heap_alloc_new w _, Nat.le_refl _, by simp [maxLen], rfl, rfl⟩⟩, fun g hg => by injection hg with hg; subst hg; exact setO_same _ _ _⟩
def negT (l : Int) (c : List Int) : List Int := (c.filter (fun x => x != l)).map (fun x => -x)
theorem negT_snoc (l : Int) (c : List Int) (y : Int) : negT l (c ++ [y]) = if y != l then negT l c ++ [-y] else negT l c := by
  unfold negT
  rw [List.filter_append, List.map_append]
  cases h : (y != l) <;> simp [List.filter_cons, h]
theorem negT_len (l : Int) (c : List Int) : (negT l c).length ≤ c.length := by unfold negT; rw [List.length_map]; exact List.length_filter_le _ _
theorem cau_lit {C : List (List Int)} {M : List Mk} (hc : Chk C M) {i ρ : Nat} (hi : i < M.length) (hr : rsnF M i = (ρ : Int)) {j : Nat} (hj : j < M.length) : litF M j ∈ negT (litF M i) (C.getD ρ []) ↔ cauB C M i j = true := by
  unfold cauB
  rw [inL_iff]
  unfold cauL negT
  have e : (M.getD i default).r.toNat = ρ := by have : (M.getD i default).r = (ρ : Int) := hr; omega
  rw [e]
  simp only [List.mem_map]
  constructor
  · rintro ⟨x, hx, h⟩
    exact ⟨x, hx, by rw [h]; exact hc.self hj⟩
  · rintro ⟨x, hx, h⟩
    refine ⟨x, hx, ?_⟩
    rcases plV_spec M (-x) with ⟨h1, _⟩ | ⟨m, hm, h1, h2, _⟩
    · rw [h1] at h; omega
    · have : m = j := by rw [h1] at h; omega
      subst this
      exact h2.symm
theorem fin_no {C : List (List Int)} {M : List Mk} {i : Nat} {S : Nat → Bool} (h : S i = false) : finL C M (i + 1) S = finL C M i S := by unfold finL; rw [finN_succ, h, if_neg (by simp)]
theorem fin_yes {C : List (List Int)} {M : List Mk} {i : Nat} {S : Nat → Bool} (h : S i = true) (hr : rsnF M i = -1) : finL C M (i + 1) S = litF M i :: finL C M i S := by unfold finL; rw [finN_succ, h, if_pos rfl, if_pos hr]; rfl
theorem fin_go {C : List (List Int)} {M : List Mk} {i : Nat} {S : Nat → Bool} (h : S i = true) (hr : rsnF M i ≠ -1) : finL C M (i + 1) S = finL C M i (uni S (cauB C M i)) := by unfold finL; rw [finN_succ, h, if_pos rfl, if_neg hr]
structure RfI (C : List (List Int)) (M : List Mk) (wT : World) (n : Nat) (A : List Int) (m : Nat) (S : Nat → Bool) (K B : List Int) (s5 s6 : SlV) (W : World) (ow : Nat → Nat) : Prop where
  rk : RowAt W ow 5 3 1 s5 K.length (iv K)
  rb : RowAt W ow 6 3 1 s6 B.length (iv B)
  ok : okL K
  ob : okL B
  mem : ∀ j, j < m → (litF M j ∈ K ↔ S j = true)
  fin : B ++ finL C M m S = A
  lk : K.length + 1048576 * m ≤ 1 + 1048576 * n
  lb : B.length + m ≤ n
  low : ∀ x, x < wT.heap.size → ow x = 0
  bel : Below wT.heap.size wT W
set_option maxHeartbeats 2000000 in
set_option maxRecDepth 100000 in
theorem rFin_is (a : Option Addr) (ca : Nat) (C : List (List Int)) (f : Nat → Option Addr × Nat) (ma : Option Addr) (mc : Nat) (M : List Mk) (x : Int) (hx : i64 x) (w : World) (hC : CsAt w a C f) (hM : MsAt w ma M) (hmc : M.length ≤ mc) (hM9 : M.length ≤ 1048575) (hCl : ∀ i, i < C.length → (C.getD i []).length ≤ 1048576) :
    Calls Try.prog 11 #[.slice a C.length ca, .slice ma M.length mc, .int .i64 x] w fun e w' => ∃ (a' : Option Addr) (c' : Nat), e = .returned (.tuple #[.slice a' (ansF C M x).length c', .int .i64 (errF C M x)]) ∧ LsAt w' a' (ansF C M x) ∧ Below w.heap.size w w' := by
  have GC := hide' (rChk_is a ca C f ma mc M w hC hM hmc)
  by_cases hck : Chk C M
  rotate_left
  · rw [ckz_no hck] at GC
    rw [(ansF_bad (x := x) hck).1, (ansF_bad (x := x) hck).2]
    clear hck hC hM hmc hM9 hCl
    obtain ⟨n, hn⟩ : ∃ n, M.length = n := ⟨_, rfl⟩
    obtain ⟨Cn, hCn⟩ : ∃ n, C.length = n := ⟨_, rfl⟩
    rw [hn, hCn] at GC ⊢
    clear hn hCn
    go_enter Try.func11, Try.ntmps11
    go_wp2_with fail
    refine GC.out.mono ?_
    rintro e w1 ⟨rfl, b1⟩
    go_wp2
    refine bodyPost_ret (v := .tuple #[.slice none 0 0, .int .i64 200]) (by rw [results_tt rfl]; go_simp) rfl ?_
    exact ⟨none, 0, rfl, ⟨by simp, fun y hy => by simp at hy, fun h => absurd h (by simp)⟩, b1⟩
  · rw [ckz_yes hck] at GC
    have GP := hide' (fun w' (h : MsAt w' ma M) => rplace_is ma mc M x w' h)
    obtain ⟨n, hn⟩ : ∃ n, M.length = n := ⟨_, rfl⟩
    obtain ⟨Cn, hCn⟩ : ∃ n, C.length = n := ⟨_, rfl⟩
    have HA := hide' (And.intro hC (And.intro hM hCl))
    have HCK := hide' hck
    rw [hn, hCn] at GC ⊢
    rw [hn] at hM9 hmc GP
    replace hn := hide' hn
    replace hCn := hide' hCn
    clear hC hM hCl hck
    obtain ⟨pz, hpz⟩ : ∃ z, plV M x = z := ⟨_, rfl⟩
    rw [hpz] at GP
    have HPZ := hide' hpz
    clear hpz
    unfold i64 at hx
    by_cases hp : 0 ≤ pz
    rotate_left
    · have HE := hide' (ansF_none HCK.out (by rw [HPZ.out]; omega : plV M x < 0))
      rw [HE.out.1, HE.out.2]
      have i1 : pz < 0 := by omega
      go_enter Try.func11, Try.ntmps11
      go_wp2_with fail
      refine GC.out.mono ?_
      rintro e w1 ⟨rfl, b1⟩
      have GP1 := hide' (GP.out w1 (HA.out.2.1.later b1))
      clear GC GP
      go_wp2_with fail
      refine (GP1.out).mono ?_
      rintro e wq ⟨rfl, hw9⟩
      rw [hw9]
      clear hw9
      go_wp2
      refine bodyPost_ret (v := .tuple #[.slice none 0 0, .int .i64 210]) (by rw [results_tt rfl]; go_simp) rfl ?_
      exact ⟨none, 0, rfl, ⟨by simp, fun y hy => by simp at hy, fun h => absurd h (by simp)⟩, b1⟩
    · have HE := hide' (ansF_good HCK.out (by rw [HPZ.out]; omega : 0 ≤ plV M x))
      rw [HE.out.1, HE.out.2]
      have i1 : ¬ pz < 0 := by omega
      go_enter Try.func11, Try.ntmps11
      go_wp2_with fail
      refine GC.out.mono ?_
      rintro e w1 ⟨rfl, b1⟩
      have GP1 := hide' (GP.out w1 (HA.out.2.1.later b1))
      clear GC GP
      go_wp2_with fail
      refine (GP1.out).mono ?_
      rintro e wq ⟨rfl, hw9⟩
      rw [hw9]
      clear hw9
      go_wp2_with fail
      obtain ⟨p, rfl⟩ := Int.eq_ofNat_of_zero_le hp
      obtain ⟨wa, hwa⟩ : ∃ wa, w1.alloc (.cells #[.int .i64 x] 3) = wa := ⟨_, rfl⟩
      have ba := below_alloc (w := w1) (.cells #[.int .i64 x] 3)
      have Aa := App.alloc (fun _ => 0) 5 w1 (.cells #[.int .i64 x] 3)
      have Ra := row_one' w1 (fun _ => 0) 5 x
      have hsz9 : wa.heap.size = w1.heap.size + 1 := by rw [← hwa, size_alloc]
      rw [hwa] at ba Aa Ra ⊢
      have Rb := row_none wa (setO (fun _ => 0) w1.heap.size 5) 6
      have bb := below_alloc (w := wa) (.cells #[] 3)
      have Ab := App.alloc (setO (fun _ => 0) w1.heap.size 5) 6 wa (.cells #[] 3)
      obtain ⟨wb, hwb⟩ : ∃ wb, wa.alloc (.cells #[] 3) = wb := ⟨_, rfl⟩
      rw [hwb] at Rb bb Ab ⊢
      have HI0 := hide' (show RfI C M w1 n (finL C M n (inL [plV M x])) n (inL [plV M x]) [x] [] ⟨some w1.heap.size, 1⟩ ⟨some wa.heap.size, 0⟩ wb _ from ⟨Ra.far Ab (by decide), Rb, fun y hy => by simp at hy; subst hy; exact hx, fun y hy => by simp at hy, fun j hj => by
          rw [inL_iff]; simp only [List.mem_singleton]; rw [HPZ.out]; constructor
          · intro e; have h9 := HCK.out.self (z := j) (by rw [hn.out]; exact hj); rw [e, HPZ.out] at h9; omega
          · intro e; have e9 : p = j := by omega
            subst e9; rcases plV_spec M x with ⟨h1, _⟩ | ⟨m, hm, h1, h2, _⟩
            · rw [HPZ.out] at h1; omega
            · have : m = p := by rw [HPZ.out] at h1; omega
              subst this; exact h2
      , rfl, by simp, by simp, Ab.low (Aa.low (fun _ _ => rfl) (Nat.le_refl _)) ba.size, ba.trans (bb.mono ba.size)⟩)
      have HB1 := hide' b1
      have HB1 := hide' b1
      obtain ⟨A0, hA0⟩ : ∃ A, finL C M n (inL [plV M x]) = A := ⟨_, rfl⟩
      rw [hA0] at HI0
      have HA0 := hide' hA0
      clear hA0 ba Aa Ra Rb bb Ab b1 GP1
      have GH := hide' (fun a c l y w h => rhas_is a c l y w h)
      go_loopw [9, 10, 11] (fun vK vB vi wr => ∃ (m : Nat) (S : Nat → Bool) (K B : List Int) (ow : Nat → Nat) (s5 s6 : SlV), vK = .slice s5.at' K.length s5.c ∧ vB = .slice s6.at' B.length s6.c ∧ vi = .int .i64 ((m : Int) - 1) ∧ m ≤ n ∧ RfI C M w1 n A0 m S K B s5 s6 wr ow) (fun _ _ vi _ => (intOf vi + 1).toNat)
      case atStart => exact ⟨n, _, [x], [], _, ⟨some w1.heap.size, 1⟩, ⟨some wa.heap.size, 0⟩, rfl, by rw [hsz9]; rfl, by first | rfl | go_num, Nat.le_refl _, HI0.out⟩
      case round =>
        clear HI0
        obtain ⟨m, S, K, B, ow, s5, s6, rfl, rfl, rfl, hm, hI⟩ := hrel
        have HI := hide' hI
        clear hI
        cases m with
        | zero =>
          have HBA := hide' (show B = A0 from by have h9 := HI.out.fin; unfold finL finN at h9; simpa using h9)
          have i1 : ¬ ((0 : Nat) : Int) - 1 ≥ 0 := by omega
          have hbl : B.length ≤ 1048576 := by have := HI.out.lb; omega
          have HFA := hide' (show finA C M x = B.reverse from by unfold finA; rw [hn.out, HA0.out, ← HBA.out])
          obtain ⟨bl, hbl9⟩ : ∃ b, B.length = b := ⟨_, rfl⟩
          have HBL := hide' hbl9
          rw [hbl9] at hbl
          try rw [hbl9]
          clear hbl9
          have Ro := row_none wr ow 7
          have Ao := App.alloc ow 7 wr (.cells #[] 3)
          obtain ⟨rbo, hrbo⟩ : ∃ r, wr.heap.size = r := ⟨_, rfl⟩
          go_wp2_with fail
          obtain ⟨wo, hwo⟩ : ∃ wo, wr.alloc (.cells #[] 3) = wo := ⟨_, rfl⟩
          rw [hwo] at Ro Ao ⊢
          rw [hrbo] at Ro Ao
          try rw [hrbo]
          obtain ⟨owo, howo⟩ : ∃ o, setO ow rbo 7 = o := ⟨_, rfl⟩
          rw [howo] at Ro Ao
          have HO0 := hide' (show RowAt wo owo 7 3 1 ⟨some rbo, 0⟩ 0 (iv []) ∧ RowAt wo owo 6 3 1 s6 B.length (iv B) ∧ (∀ x, x < w1.heap.size → owo x = 0) ∧ Below w1.heap.size w1 wo from ⟨Ro, HI.out.rb.far Ao (by decide), Ao.low HI.out.low HI.out.bel.size, HI.out.bel.trans (Ao.bel HI.out.low HI.out.bel.size (by decide))⟩)
          have HOB := hide' HI.out.ob
          clear Ro Ao HI
          go_loopw [14, 15] (fun vo vi W => ∃ (m : Nat) (O : List Int) (ow3 : Nat → Nat) (s7 : SlV), vo = .slice s7.at' O.length s7.c ∧ vi = .int .i64 ((m : Int) - 1) ∧ m ≤ bl ∧ O ++ (B.take m).reverse = B.reverse ∧ RowAt W ow3 7 3 1 s7 O.length (iv O) ∧ RowAt W ow3 6 3 1 s6 B.length (iv B) ∧ okL O ∧ (∀ x, x < w1.heap.size → ow3 x = 0) ∧ Below w1.heap.size w1 W) (fun _ vi _ => (intOf vi + 1).toNat)
          case atStart => exact ⟨bl, [], owo, ⟨some rbo, 0⟩, rfl, by first | rfl | go_num, Nat.le_refl _, by rw [← HBL.out, List.take_length]; rfl, HO0.out.1, HO0.out.2.1, fun y hy => by simp at hy, HO0.out.2.2.1, HO0.out.2.2.2⟩
          case round =>
            clear HO0
            obtain ⟨m, O, ow3, s7, rfl, rfl, hm3, hO, h7, h6, hoO, hlow3, hbel3⟩ := hrel
            have HP := hide' (And.intro hO (And.intro h7 (And.intro h6 (And.intro hoO (And.intro hlow3 hbel3)))))
            clear hO h7 h6 hoO hlow3 hbel3
            have hol : O.length ≤ 1048576 := by have h9 := congrArg List.length HP.out.1; rw [List.length_append, List.length_reverse, List.length_reverse, HBL.out] at h9; omega
            cases m with
            | zero =>
              have i1 : ¬ ((0 : Nat) : Int) - 1 ≥ 0 := by omega
              have HFO := hide' (show finA C M x = O from by rw [HFA.out, ← HP.out.1]; simp)
              have HLS := hide' (show LsAt wr s7.at' O from by obtain ⟨a9, cap9, e9, _, h9⟩ := own_ls HP.out.2.1.1 HP.out.2.2.2.1 (by omega); unfold SlV.val at e9; injection e9 with e9 _ e8; rw [e9]; exact h9)
              have HBF := hide' (HB1.out.trans (HP.out.2.2.2.2.2.mono HB1.out.size))
              go_wp2
              refine bodyPost_ret (v := .tuple #[.slice s7.at' O.length s7.c, .int .i64 0]) (by rw [results_tt rfl]; go_simp) rfl ?_
              rw [HFO.out]; first | exact ⟨s7.at', s7.c, rfl, HLS.out, HBF.out⟩ | exact ⟨⟨s7.at', ⟨s7.c, rfl⟩, HLS.out⟩, HBF.out⟩ | exact ⟨s7.at', ⟨s7.c, rfl⟩, HLS.out, HBF.out⟩
            | succ i =>
              have ei : ((i + 1 : Nat) : Int) - 1 = (i : Int) := by omega
              rw [ei]
              obtain ⟨g6, hg6⟩ := HP.out.2.2.1.got (by rw [HBL.out]; omega)
              have hat : s6.at' = some ⟨g6, 0, none⟩ := by unfold SlV.at'; rw [hg6]; rfl
              rw [hat]
              have cb : wr.cell? ⟨g6, i, none⟩ = some (.int .i64 (B.getD i 0)) := by rw [HP.out.2.2.1.cell hg6 (by rw [HBL.out]; omega)]; exact iv_at (by simp [List.getD, List.getElem?_eq_getElem (show i < B.length by rw [HBL.out]; omega)])
              have HST := hide' (take_snoc B 0 HBL.out (show i < bl by omega))
              have HOY := hide' (HOB.out (B.getD i 0) (getD_mem (by rw [HBL.out]; omega)))
              obtain ⟨y, hy⟩ : ∃ y, B.getD i 0 = y := ⟨_, rfl⟩
              rw [hy] at cb HST HOY
              clear hy
              have i1 : (i : Int) < (bl : Int) := by omega
              have i0 : (0 : Int) ≤ (i : Int) := by omega
              have HPY := hide' (show (O ++ [y]) ++ (B.take i).reverse = B.reverse from by rw [← HP.out.1, HST.out, List.reverse_append, List.append_assoc]; rfl)
              obtain ⟨ii, hii, hiz, his, hib⟩ := info_parts info_i
              have hrB := HP.out.2.1
              obtain ⟨l9, hl9⟩ : ∃ l, O.length = l := ⟨_, rfl⟩
              have hlb9 := hol
              rw [hl9] at hrB hlb9
              obtain ⟨wB, hwB⟩ : ∃ wB, wr.alloc (.cells #[.int .i64 (y)] 3) = wB := ⟨_, rfl⟩
              have hnew := heap_alloc_new wr (.cells #[.int .i64 (y)] 3)
              have b3 := below_alloc (w := wr) (.cells #[.int .i64 (y)] 3)
              rw [hwB] at hnew b3
              have hrB2 := hrB.belowR b3
              have HO := hide' (show wB.ownsRow 0 3 1 (.slice s7.at' l9 s7.c) l9 (iv O) from hrB2.1)
              have HRB := hide' (And.intro hrB2 (App.of_below (ow := ow3) (t := 7) b3))
              clear hrB hrB2 b3
              have hml : l9 + 1 ≤ maxLen := by simp only [maxLen]; omega
              have hbl : (l9 + 1) * 8 ≤ 140737488355328 := by omega
              have hl10 := hide' hl9
              try rw [hl9]
              clear hl9
              go_wp2_with (at_builtin; (try rw [hwB]); refine wpList_append_lies _ (by rfl) _ _ _ (by rfl) 0 3 ii _ 1 8 Try.underlying26 hii hiz his hib rfl (by omega) (.slice s7.at' l9 s7.c) l9 (iv O) (by rfl) HO.out ⟨wr.heap.size, 0, none⟩ 1 1 [.int .i64 (y)] (by rfl) (by rfl) (World.news_of_block (cs := #[.int .i64 (y)]) (t := 3) (fr := (0, 0)) hnew) (by simp [Value.oneCell']) (by omega) hml hbl (Nat.zero_le _) wB.heap.size rfl ?_)
              intro gb cap w6 hown hgrow hat hlt9
              obtain ⟨R9, A9⟩ := RowAt.app (ow := ow3) (t := 7) (s := s7) (n := l9) (m := 1) (xs := iv O) (news := [.int .i64 (y)]) HRB.out.1 hown hgrow hat rfl hlt9 (by decide)
              obtain ⟨ow6, how9⟩ : ∃ o, setO ow3 gb 7 = o := ⟨_, rfl⟩
              rw [how9] at R9 A9
              replace A9 := HRB.out.2.trans A9
              have R8 : RowAt w6 ow6 7 3 1 ⟨some gb, cap⟩ (O ++ [y]).length (iv (O ++ [y])) := by rw [List.length_append, hl10.out, iv_append]; exact R9
              clear R9 HO HRB hnew hml hbl hown hgrow hat hlt9 how9 hwB hlb9
              have HX := hide' (show RowAt w6 ow6 7 3 1 ⟨some gb, cap⟩ (O ++ [y]).length (iv (O ++ [y])) ∧ RowAt w6 ow6 6 3 1 s6 B.length (iv B) ∧ okL (O ++ [y]) ∧ (∀ x, x < w1.heap.size → ow6 x = 0) ∧ Below w1.heap.size w1 w6 from ⟨R8, HP.out.2.2.1.far A9 (by decide), fun u hu => by rcases List.mem_append.1 hu with h | h; exact HP.out.2.2.2.1 u h; (simp at h; subst h; exact HOY.out), A9.low HP.out.2.2.2.2.1 HP.out.2.2.2.2.2.size, HP.out.2.2.2.2.2.trans (A9.bel HP.out.2.2.2.2.1 HP.out.2.2.2.2.2.size (by decide))⟩)
              have hcle : (O ++ [y]).length = l9 + 1 := by rw [List.length_append, hl10.out]; rfl
              have HCLE := hide' hcle
              clear hcle A9 R8 HP
              go_wp2
              go_roundw
              case rel => exact ⟨i, O ++ [y], ow6, ⟨some gb, cap⟩, by rw [HCLE.out]; rfl, by go_num, by omega, HPY.out, HX.out.1, HX.out.2.1, HX.out.2.2.1, HX.out.2.2.2.1, HX.out.2.2.2.2⟩
              case measure => simp only [intOf]; omega
        | succ i =>
          have ei : ((i + 1 : Nat) : Int) - 1 = (i : Int) := by omega
          rw [ei]
          obtain ⟨bm, om, rfl, ⟨ck, ck1, ck2⟩, hok⟩ := HA.out.2.1.el hn.out (show i < n by omega)
          have hbw := HB1.out.trans (HI.out.bel.mono HB1.out.size)
          have HBW := hide' hbw
          replace ck := below_cell hbw ck
          replace ck1 := below_cell hbw ck1
          replace ck2 := below_cell hbw ck2
          have e7 : (M.getD i default).l = litF M i := rfl
          have e8 : (M.getD i default).r = rsnF M i := rfl
          rw [e7] at ck
          rw [e8] at ck2
          unfold okM at hok
          rw [e7] at hok
          have HOK := hide' hok.1
          clear hok e7 e8 hbw
          generalize (M.getD i default).v = y1 at ck1
          obtain ⟨li, hli⟩ : ∃ l, litF M i = l := ⟨_, rfl⟩
          rw [hli] at ck HOK
          have HLI := hide' hli
          clear hli
          obtain ⟨r, hr⟩ : ∃ r, rsnF M i = r := ⟨_, rfl⟩
          rw [hr] at ck2
          have HRS := hide' hr
          clear hr
          have hkl : K.length ≤ 1 + 1048576 * 1048575 := by have := HI.out.lk; omega
          have hbl : B.length ≤ 1048576 := by have := HI.out.lb; omega
          have GH1 := hide' (show Calls Try.prog 35 #[.slice s5.at' K.length s5.c, .int .i64 li] wr fun e w' => e = .returned (.bool (hasL K li)) ∧ w' = wr from GH.out s5.at' s5.c K li wr (by obtain ⟨a9, cap9, e9, _, h9⟩ := own_ls HI.out.rk.1 HI.out.ok (by omega); unfold SlV.val at e9; injection e9 with e9 _ e8; rw [e9]; exact h9))
          have hS : hasL K li = S i := by rw [Bool.eq_iff_iff, hasL_iff, ← HLI.out]; exact HI.out.mem i (by omega)
          rw [hS] at GH1
          clear hS
          have i1 : (i : Int) < (n : Int) := by omega
          have i0 : (0 : Int) ≤ (i : Int) := by omega
          by_cases hSi : S i = true
          rotate_left
          · rw [Bool.not_eq_true] at hSi; rw [hSi] at GH1
            have HX := hide' (show RfI C M w1 n A0 i S K B s5 s6 wr ow from ⟨HI.out.rk, HI.out.rb, HI.out.ok, HI.out.ob, fun j hj => HI.out.mem j (by omega), by rw [← HI.out.fin, fin_no hSi], by have := HI.out.lk; omega, by have := HI.out.lb; omega, HI.out.low, HI.out.bel⟩)
            clear hSi HI
            go_wp2_with fail
            refine (GH1.out).mono ?_
            rintro e wq ⟨rfl, hw9⟩
            rw [hw9]
            clear hw9
            go_wp2
            go_roundw
            case rel => exact ⟨i, S, K, B, ow, s5, s6, rfl, rfl, by go_num, by omega, HX.out⟩
            case measure => simp only [intOf]; omega
          · rw [hSi] at GH1; have HSI := hide' hSi; clear hSi
            by_cases hneg : r < 0
            · have hr1 : rsnF M i = -1 := by
                have h9 := (HCK.out i (by rw [hn.out]; omega)).sup
                have hr9 : (M.getD i default).r = r := HRS.out
                rcases h9 with ⟨h, _⟩ | ⟨_, h, _⟩
                · exact h
                · rw [hr9] at h; omega
              have HFY := hide' (show (B ++ [li]) ++ finL C M i S = A0 from by rw [← HI.out.fin, fin_yes HSI.out hr1, HLI.out, List.append_assoc]; rfl)
              clear hr1
              obtain ⟨ii, hii, hiz, his, hib⟩ := info_parts info_i
              go_wp2_with fail
              refine (GH1.out).mono ?_
              rintro e wq ⟨rfl, hw9⟩
              rw [hw9]
              clear hw9
              have hrB := HI.out.rb
              obtain ⟨l9, hl9⟩ : ∃ l, B.length = l := ⟨_, rfl⟩
              have hlb9 := hbl
              rw [hl9] at hrB hlb9
              obtain ⟨wB, hwB⟩ : ∃ wB, wr.alloc (.cells #[.int .i64 (li)] 3) = wB := ⟨_, rfl⟩
              have hnew := heap_alloc_new wr (.cells #[.int .i64 (li)] 3)
              have b3 := below_alloc (w := wr) (.cells #[.int .i64 (li)] 3)
              rw [hwB] at hnew b3
              have hrB2 := hrB.belowR b3
              have HO := hide' (show wB.ownsRow 0 3 1 (.slice s6.at' l9 s6.c) l9 (iv B) from hrB2.1)
              have HRB := hide' (And.intro hrB2 (App.of_below (ow := ow) (t := 6) b3))
              clear hrB hrB2 b3
              have hml : l9 + 1 ≤ maxLen := by simp only [maxLen]; omega
              have hbl : (l9 + 1) * 8 ≤ 140737488355328 := by omega
              have hl10 := hide' hl9
              try rw [hl9]
              clear hl9
              go_wp2_with (at_builtin; (try rw [hwB]); refine wpList_append_lies _ (by rfl) _ _ _ (by rfl) 0 3 ii _ 1 8 Try.underlying26 hii hiz his hib rfl (by omega) (.slice s6.at' l9 s6.c) l9 (iv B) (by rfl) HO.out ⟨wr.heap.size, 0, none⟩ 1 1 [.int .i64 (li)] (by rfl) (by rfl) (World.news_of_block (cs := #[.int .i64 (li)]) (t := 3) (fr := (0, 0)) hnew) (by simp [Value.oneCell']) (by omega) hml hbl (Nat.zero_le _) wB.heap.size rfl ?_)
              intro gb cap w6 hown hgrow hat hlt9
              obtain ⟨R9, A9⟩ := RowAt.app (ow := ow) (t := 6) (s := s6) (n := l9) (m := 1) (xs := iv B) (news := [.int .i64 (li)]) HRB.out.1 hown hgrow hat rfl hlt9 (by decide)
              obtain ⟨ow6, how9⟩ : ∃ o, setO ow gb 6 = o := ⟨_, rfl⟩
              rw [how9] at R9 A9
              replace A9 := HRB.out.2.trans A9
              have R8 : RowAt w6 ow6 6 3 1 ⟨some gb, cap⟩ (B ++ [li]).length (iv (B ++ [li])) := by rw [List.length_append, hl10.out, iv_append]; exact R9
              clear R9 HO HRB hnew hml hbl hown hgrow hat hlt9 how9 hwB hlb9
              have HX := hide' (show RfI C M w1 n A0 i S K (B ++ [li]) s5 ⟨some gb, cap⟩ w6 ow6 from ⟨HI.out.rk.far A9 (by decide), R8, HI.out.ok, fun y hy => by rcases List.mem_append.1 hy with h | h; exact HI.out.ob y h; (simp at h; subst h; exact HOK.out), fun j hj => HI.out.mem j (by omega), HFY.out, by have := HI.out.lk; omega, by have := HI.out.lb; rw [List.length_append]; simp; omega, A9.low HI.out.low HI.out.bel.size, HI.out.bel.trans (A9.bel HI.out.low HI.out.bel.size (by decide))⟩)
              have hcle : (B ++ [li]).length = l9 + 1 := by rw [List.length_append, hl10.out]; rfl
              have HCLE := hide' hcle
              clear hcle A9 R8 HI
              go_wp2
              go_roundw
              case rel => exact ⟨i, S, K, B ++ [li], ow6, s5, ⟨some gb, cap⟩, rfl, by rw [HCLE.out]; rfl, by go_num, by omega, HX.out⟩
              case measure => simp only [intOf]; omega
            · have hnd : rsnF M i ≠ -1 := by rw [HRS.out]; omega
              obtain ⟨ρ, hρ, hρC, hmem9, hfl9⟩ := Chk.reason HCK.out (by rw [hn.out]; omega) hnd
              have er : r = (ρ : Int) := by rw [← HRS.out]; exact hρ
              subst er
              have HFG := hide' (fin_go (C := C) (i := i) HSI.out hnd)
              have HCL := hide' (fun (j : Nat) (hj : j < n) => cau_lit HCK.out (i := i) (ρ := ρ) (j := j) (by rw [hn.out]; omega) hρ (by rw [hn.out]; exact hj))
              rw [hCn.out] at hρC
              have hcl9 := HA.out.2.2 ρ (by rw [hCn.out]; exact hρC)
              obtain ⟨bc, oc, rfl, cK, hL⟩ := HA.out.1.el hCn.out hρC
              replace cK := below_cell HBW.out cK
              have HLC := hide' hL
              have HFL := hide' (fun y (hy : y ∈ C.getD ρ []) (hne : y ≠ litF M i) => (hfl9 y hy hne).1)
              clear hL hfl9 hmem9 hρ hnd
              obtain ⟨c, hc⟩ : ∃ c, C.getD ρ [] = c := ⟨_, rfl⟩
              rw [hc] at cK HLC HFL HCL hcl9
              clear hc
              obtain ⟨cn, hcn⟩ : ∃ m, c.length = m := ⟨_, rfl⟩
              rw [hcn] at cK hcl9
              replace hcn := hide' hcn
              have q1 : (ρ : Int) < (Cn : Int) := by omega
              have q0 : (0 : Int) ≤ (ρ : Int) := by omega
              go_wp2_with fail
              refine (GH1.out).mono ?_
              rintro e wq ⟨rfl, hw9⟩
              rw [hw9]
              clear hw9
              go_wp2_with fail
              go_loopw [9, 13] (fun vK vk W => ∃ (k : Nat) (K2 : List Int) (ow2 : Nat → Nat) (s2 : SlV), k ≤ cn ∧ vk = .int .i64 k ∧ vK = .slice s2.at' K2.length s2.c ∧ K2 = K ++ negT li (c.take k) ∧ RowAt W ow2 5 3 1 s2 K2.length (iv K2) ∧ RowAt W ow2 6 3 1 s6 B.length (iv B) ∧ okL K2 ∧ (∀ x, x < w1.heap.size → ow2 x = 0) ∧ Below w1.heap.size w1 W) (fun _ vk _ => cn - (intOf vk).toNat)
              case atStart => exact ⟨0, K, ow, s5, Nat.zero_le _, rfl, rfl, by simp [negT], HI.out.rk, HI.out.rb, HI.out.ok, HI.out.low, HI.out.bel⟩
              case round =>
                obtain ⟨k, K2, ow2, s2, hk, rfl, rfl, hK2, hr5, hr6, hok2, hlow2, hbel2⟩ := hrel
                have HJ := hide' (And.intro hK2 (And.intro hr5 (And.intro hr6 (And.intro hok2 (And.intro hlow2 hbel2)))))
                clear hr5 hr6 hok2 hlow2 hbel2
                have hkl2 : K2.length ≤ 1 + 1048576 * 1048576 := by have h1 := negT_len li (c.take k); have h2 := HI.out.lk; rw [hK2, List.length_append]; rw [List.length_take] at h1; omega
                clear hK2
                by_cases hlt : k < cn
                · obtain ⟨bb, off, e2, cy, hlo, hhi⟩ := HLC.out.el hcn.out hlt
                  have hbw2 := HB1.out.trans (HJ.out.2.2.2.2.2.mono HB1.out.size)
                  replace cy := below_cell hbw2 cy
                  obtain ⟨bm2, om2, e4, ⟨cm, cm1, cm2⟩, _⟩ := HA.out.2.1.el hn.out (show i < n by omega)
                  injection e4 with e4; injection e4 with e5 e6; subst e5; subst e6
                  replace cm := below_cell hbw2 cm
                  replace cm1 := below_cell hbw2 cm1
                  replace cm2 := below_cell hbw2 cm2
                  have e7 : (M.getD i default).l = li := HLI.out
                  rw [e7] at cm
                  clear e7 hbw2 ck ck1 ck2
                  have HST := hide' (take_snoc c 0 hcn.out hlt)
                  have hym : c.getD k 0 ∈ c := getD_mem (by rw [hcn.out]; exact hlt)
                  obtain ⟨y, hy⟩ : ∃ y, c.getD k 0 = y := ⟨_, rfl⟩
                  rw [hy] at cy hlo hhi HST hym
                  clear hy
                  have j1 : (k : Int) < (cn : Int) := by omega
                  have j0 : (0 : Int) ≤ (k : Int) := by omega
                  have ec := e2
                  try rw [ec]
                  by_cases hyl : y = li
                  · have eb : (y != li) = false := by simp [hyl]
                    have HN := hide' (show K2 = K ++ negT li (c.take (k + 1)) from by rw [HST.out, negT_snoc, eb, if_neg (by simp)]; exact HJ.out.1)
                    replace hyl := hide' hyl
                    go_wp2_with fail
                    go_quiet (fail)
                    go_wp2
                    go_roundw
                    case rel => exact ⟨k + 1, K2, ow2, s2, by omega, by go_num, rfl, HN.out, HJ.out.2.1.belowR (below_drewN (Below.refl _ _)), HJ.out.2.2.1.belowR (below_drewN (Below.refl _ _)), HJ.out.2.2.2.1, HJ.out.2.2.2.2.1, below_drewN HJ.out.2.2.2.2.2⟩
                    case measure => simp only [intOf]; omega
                  · have eb : (y != li) = true := by simp [hyl]
                    have hlit := isLit_iff.1 (flsV_at (HFL.out y hym (by rw [HLI.out]; exact hyl))).1
                    have HN := hide' (show K2 ++ [-y] = K ++ negT li (c.take (k + 1)) from by rw [HST.out, negT_snoc, eb, if_pos rfl, ← List.append_assoc, ← HJ.out.1])
                    replace hyl := hide' hyl
                    have hw9 := wrap_neg (show -9223372036854775808 < y by omega) hhi
                    have hw8 := wrap_neg0 (show -9223372036854775808 < y by omega) hhi
                    have HOY := hide' (show i64 (-y) from ⟨by omega, by omega⟩)
                    replace hlit := hide' hlit
                    go_wp2_with fail
                    go_quiet (fail)
                    have bQ : Below wr.heap.size wr (wr.drewN nq) := below_drewN (Below.refl _ _)
                    obtain ⟨wd, hwd⟩ : ∃ wd, wr.drewN nq = wd := ⟨_, rfl⟩
                    rw [hwd] at bQ ⊢
                    clear hwd
                    have hr5d := HJ.out.2.1.belowR bQ
                    have HJ6 := hide' (And.intro (HJ.out.2.2.1.belowR bQ) (HJ.out.2.2.2.2.2.trans (bQ.mono HJ.out.2.2.2.2.2.size)))
                    replace cy := below_cell bQ cy
                    clear bQ cm cm1 cm2
                    obtain ⟨ii, hii, hiz, his, hib⟩ := info_parts info_i
                    have hrB := hr5d
                    obtain ⟨l9, hl9⟩ : ∃ l, K2.length = l := ⟨_, rfl⟩
                    have hlb9 := hkl2
                    rw [hl9] at hrB hlb9
                    obtain ⟨wB, hwB⟩ : ∃ wB, wd.alloc (.cells #[.int .i64 (-y)] 3) = wB := ⟨_, rfl⟩
                    have hnew := heap_alloc_new wd (.cells #[.int .i64 (-y)] 3)
                    have b3 := below_alloc (w := wd) (.cells #[.int .i64 (-y)] 3)
                    rw [hwB] at hnew b3
                    have hrB2 := hrB.belowR b3
                    have HO := hide' (show wB.ownsRow 0 3 1 (.slice s2.at' l9 s2.c) l9 (iv K2) from hrB2.1)
                    have HRB := hide' (And.intro hrB2 (App.of_below (ow := ow2) (t := 5) b3))
                    clear hrB hrB2 b3
                    have hml : l9 + 1 ≤ maxLen := by simp only [maxLen]; omega
                    have hbl : (l9 + 1) * 8 ≤ 140737488355328 := by omega
                    have hl10 := hide' hl9
                    try rw [hl9]
                    clear hl9
                    go_wp2_with (at_builtin; (try rw [hwB]); refine wpList_append_lies _ (by rfl) _ _ _ (by rfl) 0 3 ii _ 1 8 Try.underlying26 hii hiz his hib rfl (by omega) (.slice s2.at' l9 s2.c) l9 (iv K2) (by rfl) HO.out ⟨wd.heap.size, 0, none⟩ 1 1 [.int .i64 (-y)] (by rfl) (by rfl) (World.news_of_block (cs := #[.int .i64 (-y)]) (t := 3) (fr := (0, 0)) hnew) (by simp [Value.oneCell']) (by omega) hml hbl (Nat.zero_le _) wB.heap.size rfl ?_)
                    intro gb cap w6 hown hgrow hat hlt9
                    obtain ⟨R9, A9⟩ := RowAt.app (ow := ow2) (t := 5) (s := s2) (n := l9) (m := 1) (xs := iv K2) (news := [.int .i64 (-y)]) HRB.out.1 hown hgrow hat rfl hlt9 (by decide)
                    obtain ⟨ow6, how9⟩ : ∃ o, setO ow2 gb 5 = o := ⟨_, rfl⟩
                    rw [how9] at R9 A9
                    replace A9 := HRB.out.2.trans A9
                    have R8 : RowAt w6 ow6 5 3 1 ⟨some gb, cap⟩ (K2 ++ [-y]).length (iv (K2 ++ [-y])) := by rw [List.length_append, hl10.out, iv_append]; exact R9
                    clear R9 HO HRB hnew hml hbl hown hgrow hat hlt9 how9 hwB hlb9
                    have HX := hide' (show RowAt w6 ow6 5 3 1 ⟨some gb, cap⟩ (K2 ++ [-y]).length (iv (K2 ++ [-y])) ∧ RowAt w6 ow6 6 3 1 s6 B.length (iv B) ∧ okL (K2 ++ [-y]) ∧ (∀ x, x < w1.heap.size → ow6 x = 0) ∧ Below w1.heap.size w1 w6 from ⟨R8, HJ6.out.1.far A9 (by decide), fun u hu => by rcases List.mem_append.1 hu with h | h; exact HJ.out.2.2.2.1 u h; (simp at h; subst h; exact HOY.out), A9.low HJ.out.2.2.2.2.1 HJ6.out.2.size, HJ6.out.2.trans (A9.bel HJ.out.2.2.2.2.1 HJ6.out.2.size (by decide))⟩)
                    have hcle : (K2 ++ [-y]).length = l9 + 1 := by rw [List.length_append, hl10.out]; rfl
                    have HCLE := hide' hcle
                    clear hcle A9 R8 HJ HJ6 hr5d
                    go_wp2
                    go_roundw
                    case rel => exact ⟨k + 1, K2 ++ [-y], ow6, ⟨some gb, cap⟩, by omega, by go_num, by rw [HCLE.out]; rfl, HN.out, HX.out.1, HX.out.2.1, HX.out.2.2.1, HX.out.2.2.2.1, HX.out.2.2.2.2⟩
                    case measure => simp only [intOf]; omega
                · obtain rfl : k = cn := by omega
                  have i9 : ¬ (k : Int) < (k : Int) := by omega
                  have hKK := HJ.out.1
                  rw [take_all c hcn.out] at hKK
                  replace hKK := hide' hKK
                  have HX := hide' (show RfI C M w1 n A0 i (uni S (cauB C M i)) K2 B s2 s6 wr ow2 from ⟨HJ.out.2.1, HJ.out.2.2.1, HJ.out.2.2.2.1, HI.out.ob, fun j hj => by
                      have h1 := HI.out.mem j (by omega); have h2 := HCL.out j (by omega); rw [HLI.out] at h2; rw [hKK.out, List.mem_append, h1, h2]; unfold uni; rw [Bool.or_eq_true]
                  , by rw [← HFG.out]; exact HI.out.fin, by have h1 := negT_len li c; have h2 := HI.out.lk; have h3 := hcn.out; rw [hKK.out, List.length_append]; omega, by have := HI.out.lb; omega, HJ.out.2.2.2.2.1, HJ.out.2.2.2.2.2⟩)
                  clear HJ hKK HI
                  go_wp2
                  go_roundw
                  case rel => exact ⟨i, uni S (cauB C M i), K2, B, ow2, s2, s6, rfl, rfl, by go_num, by omega, HX.out⟩
                  case measure => simp only [intOf]; omega
end Go.Proofs.Ytbcbgglhhfdbcab
