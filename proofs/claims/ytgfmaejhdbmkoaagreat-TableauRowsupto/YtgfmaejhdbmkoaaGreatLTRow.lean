import Derived.Test.YtgfmaejhdbmkoaaGreatGTP
import Derived.Test.YtgfmaejhdbmkoaaGreatGT6
import Derived.Test.YtgfmaejhdbmkoaaGreatGT4
import Derived.Test.YtgfmaejhdbmkoaaGreatGTE
set_option linter.unusedSimpArgs false
namespace Go.Proofs.YtgfmaejhdbmkoaaGreat
open Go.RowKit
set_option linter.unusedVariables false
def BsA (w : World) (V : Int) (T : Tb) (n : Nat) (e : Ending) (w' : World) : Prop := Below w.heap.size w w' ∧
  ((¬ mayBe V T ∧ e = .returned (.tuple #[.slice none 0 0, .int .i64 70])) ∨
   (mayBe V T ∧ ∃ (a : Option Addr) (c : Nat) (zs : List Int), e = .returned (.tuple #[.slice a zs.length c, .int .i64 0]) ∧ IAt w' a zs ∧ zs.length ≤ c ∧ zs.length ≤ n ∧ zs.Pairwise (· < ·) ∧ ∀ x, x ∈ zs ↔ lk T x ≠ none))
theorem own_IAt {w w' : World} {a : Option Addr} {s : List Int} (h : ∀ i x, s[i]? = some x → ∃ gk, a = some ⟨gk, 0, none⟩ ∧ w.heap.size ≤ gk ∧ w'.cell? ⟨gk, i, none⟩ = some (.int .i64 x)) : IAt w' a s := fun hn => by
  obtain ⟨x, l, rfl⟩ : ∃ x l, s = x :: l := by cases s with | nil => exact absurd rfl hn | cons x l => exact ⟨x, l, rfl⟩
  obtain ⟨gk, e, _, hc⟩ := h 0 x rfl
  refine ⟨gk, 0, e, cell_ltK hc, fun i z hz => ?_⟩
  obtain ⟨g2, e2, _, hc2⟩ := h i z hz
  rw [e] at e2
  injection e2 with e2
  injection e2 with e2
  subst e2
  rw [Nat.zero_add]
  exact hc2
set_option maxHeartbeats 4000000 in
set_option maxRecDepth 100000 in
theorem ints7_is (a : Option Addr) (ca : Nat) (b : Option Addr) (cb : Nat) (zs : List Int) (w : World) (hF : IAt w a zs) (hG : IAt w b zs) (hca : zs.length ≤ ca) (hcb : zs.length ≤ cb) (hm : zs.length ≤ 2097152) :
    Calls Tryz.prog 10 #[.slice a zs.length ca, .slice b zs.length cb] w fun e w' => e = .returned (.bool true) ∧ Below w.heap.size w w' := by
  go_enter Tryz.func10, Tryz.ntmps10
  go_wp2_with fail
  go_loopw [5] (fun vi wr => ∃ k : Nat, k ≤ zs.length ∧ vi = .int .i64 k ∧ Below w.heap.size w wr) (fun vi _ => zs.length - (intOf vi).toNat)
  case atStart => exact ⟨0, Nat.zero_le _, rfl, Below.refl _ _⟩
  case round =>
    obtain ⟨k, hk, rfl, hB⟩ := hrel
    by_cases hlt : k < zs.length
    · obtain ⟨z, hz⟩ : ∃ z, zs[k]? = some z := ⟨zs[k], List.getElem?_eq_getElem hlt⟩
      obtain ⟨b1, o1, rfl, hb1, hc1⟩ := hF (by intro e; rw [e] at hlt; simp at hlt)
      obtain ⟨b2, o2, rfl, hb2, hc2⟩ := hG (by intro e; rw [e] at hlt; simp at hlt)
      have c0 := xQ0 hB (hc1 k z hz)
      have d0 := xQ0 hB (hc2 k z hz)
      clear hc1 hc2 hz
      have i1 : (0 : Int) ≤ (k : Int) := by omega
      have i2 : (k : Int) < (zs.length : Int) := by omega
      go_wp2_with fail
      have bD : Below wr.heap.size wr wr.drew := (Below.refl _ _).drew
      have kc0 := xQ0 bD c0
      have kd0 := xQ0 bD d0
      replace hB := hB.trans (bD.mono hB.size)
      refine wp_region_held_drew (S := fun w' => w'.cell? ⟨b1, o1 + k, none⟩ = some (.int .i64 z) ∧ w'.cell? ⟨b2, o2 + k, none⟩ = some (.int .i64 z)) (by kernel_rfl) ⟨kc0, kd0⟩ (fun hHeld => ?_)
      clear kc0 kd0
      generalize wr.drew = w0 at bD hB hHeld ⊢
      clear c0 d0 bD
      refine tk 0 (v := ?_) rfl (Or.inl ⟨by rfl, ?_⟩) ?_
      rotate_left
      · intro w9 hSw
        go_simp
        try with_reducible rfl
      simp only [pP, pN, pS, pZ, pC]
      refine tk 1 (v := ?_) rfl (Or.inl ⟨by rfl, ?_⟩) ?_
      rotate_left
      · intro w9 hSw
        go_simp
        try with_reducible rfl
      simp only [pP, pN, pS, pZ, pC]
      refine tk 2 (v := ?_) rfl (Or.inl ⟨by rfl, ?_⟩) ?_
      rotate_left
      · intro w9 hSw
        go_simp
        try with_reducible rfl
      simp only [pP, pN, pS, pZ, pC]
      refine tk 3 (v := ?_) rfl (Or.inl ⟨by rfl, ?_⟩) ?_
      rotate_left
      · intro w9 hSw
        go_simp
        try with_reducible rfl
      simp only [pP, pN, pS, pZ, pC]
      refine tk 4 (v := ?_) rfl (Or.inl ⟨by rfl, ?_⟩) ?_
      rotate_left
      · intro w9 hSw
        go_simp
        try with_reducible rfl
      simp only [pP, pN, pS, pZ, pC]
      refine tk 5 (v := ?_) rfl (Or.inl ⟨by rfl, ?_⟩) ?_
      rotate_left
      · intro w9 hSw
        go_simp
        try with_reducible rfl
      simp only [pP, pN, pS, pZ, pC]
      refine tk 6 (v := ?_) rfl (Or.inl ⟨by rfl, ?_⟩) ?_
      rotate_left
      · intro w9 hSw
        go_simp
        try with_reducible rfl
      simp only [pP, pN, pS, pZ, pC]
      refine tk 7 (v := ?_) rfl (Or.inl ⟨by rfl, ?_⟩) ?_
      rotate_left
      · intro w9 hSw
        go_simp
        try with_reducible rfl
      simp only [pP, pN, pS, pZ, pC]
      refine tk 8 (v := ?_) rfl (Or.inl ⟨by rfl, ?_⟩) ?_
      rotate_left
      · intro w9 hSw
        go_simp
        try with_reducible rfl
      simp only [pP, pN, pS, pZ, pC]
      refine wpAnyH_done (by kernel_rfl) ?_ _
      go_wp2
      go_roundw
      case rel => exact ⟨k + 1, by omega, by go_num, hB⟩
      case measure => simp [intOf]; omega
    · obtain rfl : k = zs.length := by omega
      have i1 : ¬ (zs.length : Int) < (zs.length : Int) := by omega
      go_wp2
      go_ret
      exact ⟨rfl, hB⟩
set_option maxHeartbeats 8000000 in
set_option maxRecDepth 100000 in
theorem pBasics_is (V : Int) (a : Option Addr) (c : Nat) (R : List RowV) (w : World) (hT : TIn w a R) (hc : R.length ≤ c) (hbu : bulT R ≤ 1048576) (hw : ∀ r ∈ R, wfo r.2.fo) :
    Calls Tryz.prog 8 #[.agg #[.int .i64 V, .slice a R.length c]] w (BsA w V (tb R) R.length) := by
  obtain ⟨TQ, hTQ⟩ : ∃ TQ, BsA w V (tb R) R.length = TQ := ⟨_, rfl⟩
  rw [hTQ]
  replace hTQ := xQ1 hTQ
  have hlen : 3 * R.length ≤ 1048576 := by have := bulT_len R; omega
  have GR := xQ1 (fun w' (hb9 : Below w.heap.size w w') => tabRead_is V a c R w' (hT.later hb9) hc hbu hw)
  clear hT hw
  have b1 := xQ2 (w := w) (.cells #[.int .i64 V, .slice a R.length c] 24)
  have m0 : (w.alloc (.cells #[.int .i64 V, .slice a R.length c] 24)).cell? ⟨w.heap.size, 0, none⟩ = some (.int .i64 V) := by go_simp
  have m1 : (w.alloc (.cells #[.int .i64 V, .slice a R.length c] 24)).cell? ⟨w.heap.size, 1, none⟩ = some (.slice a R.length c) := by go_simp
  have hBw := b1
  clear b1
  go_enter Tryz.func8, Tryz.ntmps8
  go_wp2_with fail
  obtain ⟨wA, hwA⟩ : ∃ wA, (w.alloc (.cells #[.int .i64 V, .slice a R.length c] 24)) = wA := ⟨_, rfl⟩
  rw [hwA] at m0 m1 hBw ⊢
  clear hwA
  refine (GR.out _ hBw).mono ?_
  rintro e w1 ⟨b1, ⟨hmb, rfl⟩ | ⟨hmb, b, g, rfl, hbb, hM, hRF⟩⟩
  · have hB := hBw.trans (b1.mono hBw.size)
    clear GR
    have HX := xQ1 (show BsA w V (tb R) R.length (.returned (.tuple #[.slice none 0 0, .int .i64 70])) _ from ⟨hB, Or.inl ⟨hmb, rfl⟩⟩)
    rw [hTQ.out] at HX
    go_wp2
    first | exact HX.out | (go_ret; exact HX.out) | (refine bodyPost_ret (v := .tuple #[.slice none 0 0, .int .i64 70]) (by rw [results_tt rfl]; go_simp) rfl ?_; exact HX.out)
  · have hB := hBw.trans (b1.mono hBw.size)
    have HMB := xQ1 hmb
    have HRF := xQ1 hRF
    have GB := xQ1 (basics_is w1 b R.length (mapf g) hM (by omega))
    clear GR hmb hRF b1 hBw hM
    go_wp2_with fail
    refine GB.out.mono ?_
    rintro e w2 ⟨v, s, rfl, hO, hp, hl, hmem⟩
    obtain ⟨a2, c2, rfl, hc2, hcell⟩ := own_keys hO
    have hB2 := hB.trans (hO.2.mono hB.size)
    have HI := xQ1 (own_IAt hcell)
    have HK := xQ1 (fun x => show x ∈ s ↔ lk (tb R) x ≠ none from by rw [hmem x]; exact (show mapf g x ≠ none ↔ g x ≠ none by unfold mapf; cases g x <;> simp).trans (not_congr HRF.out.miss))
    clear hO hcell hmem GB
    have HX := xQ1 (show BsA w V (tb R) R.length (.returned (.tuple #[.slice a2 s.length c2, .int .i64 0])) _ from ⟨hB2, Or.inr ⟨HMB.out, a2, c2, s, rfl, HI.out, hc2, hl, hp, HK.out⟩⟩)
    rw [hTQ.out] at HX
    go_wp2
    first | exact HX.out | (go_ret; exact HX.out) | (refine bodyPost_ret (v := .tuple #[.slice a2 s.length c2, .int .i64 0]) (by rw [results_tt rfl]; go_simp) rfl ?_; exact HX.out)
def ksR (S : List RowV) : List Int := S.map (·.1)
theorem ks_mem {T : Tb} {S : List RowV} (h : NrmT T (tb S)) (x : Int) : x ∈ ksR S ↔ lk T x ≠ none := by
  have h1 := h.same x
  have h2 : lk (tb S) x ≠ none ↔ x ∈ ksR S := by
    rw [tb_lk]
    constructor
    · intro hn
      cases hl : lk S x with
      | none => rw [hl] at hn; exact absurd rfl hn
      | some F => exact List.mem_map.2 ⟨(x, F), lk_mem hl, rfl⟩
    · intro hx
      obtain ⟨r, hr, e⟩ := List.mem_map.1 hx
      intro hn
      have h3 : lk S x = none := by cases hl : lk S x with | none => rfl | some F => rw [hl] at hn; cases hn
      exact lk_none.1 h3 r hr e
  rw [← h2, h1]
  cases lk T x <;> simp
theorem ks_rise {S : List RowV} (h : rising S) : (ksR S).Pairwise (· < ·) := by
  unfold ksR
  rw [List.pairwise_map]
  exact h
theorem own_empty (w : World) (t : TypeId) : (w.alloc (.cells #[] t)).ownsRow w.heap.size t 1 (.slice (some ⟨w.heap.size, 0, none⟩) 0 0) 0 [] := by
  refine ⟨rfl, Or.inr ⟨w.heap.size, 0, #[], rfl, Nat.le_refl _, new7 w #[] t, Nat.le_refl _, Nat.zero_le _, ?_, ?_⟩⟩
  · simp
  · simp
theorem But.grown2 {q : Nat} {a b c : World} {row : Option Nat} (h : But q a b) (k : b.grownBy c row) (hr : ∀ j, row = some j → j = q ∨ a.heap.size ≤ j) : But q a c :=
  ⟨Nat.le_trans h.size k.size, fun j hj hq => (k.block j (Nat.lt_of_lt_of_le hj h.size) (fun e => by rcases hr j e.symm with h1 | h1 <;> omega)).trans (h.block j hj hq)⟩
set_option maxHeartbeats 8000000 in
set_option maxRecDepth 100000 in
theorem rBasics_is (V : Int) (a : Option Addr) (c : Nat) (R : List RowV) (w : World) (hT : TSm w a R) (hc : R.length ≤ c) :
    Calls Tryz.prog 9 #[.agg #[.int .i64 V, .slice a R.length c]] w (BsA w V (tb R) R.length) := by
  obtain ⟨i0, hi0, hz0, hz1, hz2⟩ := info_parts info_int
  obtain ⟨TQ, hTQ⟩ : ∃ TQ, BsA w V (tb R) R.length = TQ := ⟨_, rfl⟩
  rw [hTQ]
  replace hTQ := xQ1 hTQ
  have hlen := hT.len
  have GC := xQ1 (fun w' (hb : Below w.heap.size w w') => rCheck_is V a c R w' (hT.later hb) hc)
  have GS := xQ1 (fun w' (hb : Below w.heap.size w w') (h : mayBe V (tb R)) => rsorted_is V a c R w' (hT.later hb) hc h)
  clear hT
  have b1 := xQ2 (w := w) (.cells #[.int .i64 V, .slice a R.length c] 24)
  have m0 : (w.alloc (.cells #[.int .i64 V, .slice a R.length c] 24)).cell? ⟨w.heap.size, 0, none⟩ = some (.int .i64 V) := by go_simp
  have m1 : (w.alloc (.cells #[.int .i64 V, .slice a R.length c] 24)).cell? ⟨w.heap.size, 1, none⟩ = some (.slice a R.length c) := by go_simp
  have hBw := b1
  clear b1
  go_enter Tryz.func9, Tryz.ntmps9
  go_wp2_with fail
  obtain ⟨wA, hwA⟩ : ∃ wA, (w.alloc (.cells #[.int .i64 V, .slice a R.length c] 24)) = wA := ⟨_, rfl⟩
  rw [hwA] at m0 m1 hBw ⊢
  clear hwA
  refine (GC.out _ hBw).mono ?_
  rintro e w1 ⟨b1, ⟨hmb, rfl⟩ | ⟨hmb, rfl⟩⟩
  · have hB := hBw.trans (b1.mono hBw.size)
    replace m0 := xQ0 b1 m0
    replace m1 := xQ0 b1 m1
    have HMB := xQ1 hmb
    clear GC hmb b1 hBw
    have hO0 := own_empty w1 3
    have bE := xQ2 (w := w1) (.cells #[] 3)
    have hszE : (w1.alloc (.cells #[] 3)).heap.size = w1.heap.size + 1 := by simp
    obtain ⟨wE, hwE⟩ : ∃ wE, w1.alloc (.cells #[] 3) = wE := ⟨_, rfl⟩
    rw [hwE] at hO0 bE hszE
    replace m0 := xQ0 bE m0
    replace m1 := xQ0 bE m1
    have hB2 := hB.trans (bE.mono hB.size)
    go_wp2_with (rw [hwE])
    refine (GS.out _ hB2 HMB.out).mono ?_
    rintro e w2 ⟨v9, S, rfl, ⟨⟨ar, cr, rfl, hn, hl, hf⟩, hb2, hr⟩, hN, hSl⟩
    clear GS hwE
    have HSl := xQ1 hSl
    have hSm : S.length ≤ 1048576 := by omega
    clear hSl
    have bS := xQ2 (w := w2) (.cells #[.int .i64 V, .slice ar S.length cr] 24)
    have kS := Bk2.new w2 V ar S.length cr 24
    obtain ⟨wS, hwS⟩ : ∃ wS, w2.alloc (.cells #[.int .i64 V, .slice ar S.length cr] 24) = wS := ⟨_, rfl⟩
    rw [hwS] at bS kS
    have bES := hb2.trans (bS.mono hb2.size)
    have hO1 := xQ6 (xQ6 hO0 hb2) bS
    have hn1 := hn.at_.later bS
    have hB3 := hB2.trans (bES.mono hB2.size)
    have I0 : LInv w1 (ksR (S.take 0)) (.slice (some ⟨w1.heap.size, 0, none⟩) 0 0) wS := ⟨hO1, bE.trans (bES.mono bE.size)⟩
    have d1 := kS.cell1
    have hs2 := hb2.size
    have hsS := bS.size
    clear hO0 bE hO1 hn m0 m1 hb2 bS
    go_wp2_with (rw [hwS])
    clear hwS
    go_loopw [5, 7] (fun vo vi wr => ∃ k : Nat, k ≤ S.length ∧ vi = .int .i64 k ∧ But w1.heap.size wS wr ∧ LInv w1 (ksR (S.take k)) vo wr ∧ ∀ j, vo.ownBlock = some j → j = w1.heap.size ∨ wS.heap.size ≤ j) (fun _ vi _ => S.length - (intOf vi).toNat)
    case atStart => exact ⟨0, Nat.zero_le _, rfl, But.refl _ _, I0, fun j hj => Or.inl (by simp [Value.ownBlock] at hj; exact hj.symm)⟩
    case round =>
      clear I0
      obtain ⟨k, hk, rfl, hBS, ⟨hO, hBw1⟩, hown⟩ := hrel
      have n1 := hBS.cell d1 (by omega)
      by_cases hlt : k < S.length
      · obtain ⟨r, hr⟩ : ∃ r, S[k]? = some r := ⟨S[k], List.getElem?_eq_getElem hlt⟩
        obtain ⟨bb, off, rfl, hbb, hcell⟩ := hn1 (by intro e; rw [e] at hlt; simp at hlt)
        have hbe : bb ≠ w1.heap.size := by have := hf _ rfl (by intro e; rw [e] at hlt; simp at hlt); simp only at this; omega
        have c0 := hBS.cell (hcell k r hr).1 hbe
        have hv : ksR (S.take (k + 1)) = ksR (S.take k) ++ [r.1] := by rw [take_snoc hr]; unfold ksR; rw [List.map_append]; rfl
        obtain ⟨x, X⟩ := r
        simp only at c0 hv
        clear hcell hr
        have i1 : (0 : Int) ≤ (k : Int) := by omega
        have i2 : (k : Int) < (S.length : Int) := by omega
        obtain ⟨zs, hzs⟩ : ∃ zs, ksR (S.take k) = zs := ⟨_, rfl⟩
        rw [hzs] at hO
        have hzl : zs.length ≤ 2097152 := by rw [← hzs]; unfold ksR; rw [List.length_map, List.length_take]; omega
        obtain ⟨wB, hwB⟩ : ∃ wB, wr.alloc (.cells #[.int .i64 x] 3) = wB := ⟨_, rfl⟩
        have hnew := heap_alloc_new wr (.cells #[.int .i64 x] 3)
        have b3 := xQ2 (w := wr) (.cells #[.int .i64 x] 3)
        rw [hwB] at hnew b3
        have hO3 := xQ6 hO b3
        have s3 := b3.size
        have s4 := hBw1.size
        have hbB : w1.heap.size ≤ wB.heap.size := by omega
        have hbl : (zs.length + 1) * 8 ≤ 140737488355328 := by omega
        have hrow := fun k hk => (hO.lt k hk)
        go_wp2_with (at_builtin; (try rw [hwB]); refine wpList_append_lies _ (by rfl) _ _ _ (by rfl) w1.heap.size 3 i0 _ 1 8 Tryz.underlying32 hi0 hz0 hz1 hz2 rfl (by omega) u5 zs.length (iv zs) (by rfl) hO3 ⟨wr.heap.size, 0, none⟩ 1 1 [.int .i64 x] (by rfl) (by rfl) (World.news_of_block (cs := #[.int .i64 x]) (t := 3) (fr := (0, 0)) hnew) (by simp [Value.oneCell']) (by omega) (by simp only [maxLen]; omega) hbl hbB wB.heap.size rfl ?_)
        intro gb cap w9 hown4 hgrow hat hlt4
        have hB3 := hBw1.trans (b3.mono hBw1.size)
        have b9 := xQ8 hB3.size (fun k hk => (hrow k hk).1) hgrow
        have I1 : LInv w1 (zs ++ [x]) (.slice (some ⟨gb, 0, none⟩) (zs.length + 1) cap) w9 := ⟨by rw [List.length_append, iv_append]; exact hown4, hB3.trans b9⟩
        have I2 : But w1.heap.size wS w9 := (hBS.below b3).grown2 hgrow hown
        have hs5 := hBS.size
        have I3 : ∀ j, (Value.slice (some ⟨gb, 0, none⟩) (zs.length + 1) cap).ownBlock = some j → j = w1.heap.size ∨ wS.heap.size ≤ j := fun j hj => by
            have e : gb = j := by simpa [Value.ownBlock] using hj
            subst e
            rcases hat with h | h
            · exact hown _ h
            · exact Or.inr (by omega)
        replace I1 := xQ1 I1
        replace I2 := xQ1 I2
        replace I3 := xQ1 I3
        replace hzs := xQ1 hzs
        clear hown4 hgrow hat hnew b3 hO3 hB3 b9 hrow s3 hbB hbl hO hBS hown
        go_wp2
        go_roundw
        case rel => exact ⟨k + 1, by omega, by go_num, I2.out, by rw [hv, hzs.out]; exact I1.out, I3.out⟩
        case measure => simp [intOf]; omega
      · obtain rfl : k = S.length := by omega
        have i1 : ¬ (S.length : Int) < (S.length : Int) := by omega
        rw [List.take_length] at hO
        obtain ⟨ai, ci, rfl, hci, hI⟩ := own_ints hO
        have hB9 := hB.trans (hBw1.mono hB.size)
        skip
        have hkl : (ksR S).length = S.length := List.length_map _
        have hkl2 : (ksR S).length ≤ R.length := by rw [hkl]; exact Nat.le_of_eq HSl.out
        clear hkl hO
        have HX := xQ1 (show BsA w V (tb R) R.length (.returned (.tuple #[.slice ai (ksR S).length ci, .int .i64 0])) _ from ⟨hB9, Or.inr ⟨HMB.out, ai, ci, ksR S, rfl, hI, hci, hkl2, ks_rise hr, ks_mem hN⟩⟩)
        rw [hTQ.out] at HX
        go_wp2
        first | exact HX.out | (go_ret; exact HX.out) | (refine bodyPost_ret (v := .tuple #[.slice ai (ksR S).length ci, .int .i64 0]) (by rw [results_tt rfl]; go_simp) rfl ?_; exact HX.out)
  · have hB := hBw.trans (b1.mono hBw.size)
    clear GC GS
    have HX := xQ1 (show BsA w V (tb R) R.length (.returned (.tuple #[.slice none 0 0, .int .i64 70])) _ from ⟨hB, Or.inl ⟨hmb, rfl⟩⟩)
    rw [hTQ.out] at HX
    go_wp2
    first | exact HX.out | (go_ret; exact HX.out) | (refine bodyPost_ret (v := .tuple #[.slice none 0 0, .int .i64 70]) (by rw [results_tt rfl]; go_simp) rfl ?_; exact HX.out)
def othL (T : Tb) : Nat → List Int
  | 0 => []
  | n + 1 => othL T n ++ (if lk T n = none then [(n : Int)] else [])
theorem othL_len (T : Tb) : ∀ n, (othL T n).length ≤ n
  | 0 => Nat.le_refl _
  | n + 1 => by have := othL_len T n; simp only [othL, List.length_append]; split <;> simp <;> omega
def OtA (w : World) (V : Int) (T : Tb) (e : Ending) (w' : World) : Prop := Below w.heap.size w w' ∧
  ((¬ mayBe V T ∧ e = .returned (.tuple #[.slice none 0 0, .int .i64 70])) ∨
   (mayBe V T ∧ ∃ (a : Option Addr) (c : Nat), e = .returned (.tuple #[.slice a (othL T V.toNat).length c, .int .i64 0]) ∧ IAt w' a (othL T V.toNat) ∧ (othL T V.toNat).length ≤ c))
set_option maxHeartbeats 8000000 in
set_option maxRecDepth 100000 in
theorem pOthers_is (V : Int) (a : Option Addr) (c : Nat) (R : List RowV) (w : World) (hT : TIn w a R) (hc : R.length ≤ c) (hbu : bulT R ≤ 1048576) (hw : ∀ r ∈ R, wfo r.2.fo) :
    Calls Tryz.prog 11 #[.agg #[.int .i64 V, .slice a R.length c]] w (OtA w V (tb R)) := by
  obtain ⟨i0, hi0, hz0, hz1, hz2⟩ := info_parts info_int
  obtain ⟨TQ, hTQ⟩ : ∃ TQ, OtA w V (tb R) = TQ := ⟨_, rfl⟩
  rw [hTQ]
  replace hTQ := xQ1 hTQ
  have GR := xQ1 (fun w' (hb9 : Below w.heap.size w w') => tabRead_is V a c R w' (hT.later hb9) hc hbu hw)
  clear hT hw
  have b1 := xQ2 (w := w) (.cells #[.int .i64 V, .slice a R.length c] 24)
  have m0 : (w.alloc (.cells #[.int .i64 V, .slice a R.length c] 24)).cell? ⟨w.heap.size, 0, none⟩ = some (.int .i64 V) := by go_simp
  have m1 : (w.alloc (.cells #[.int .i64 V, .slice a R.length c] 24)).cell? ⟨w.heap.size, 1, none⟩ = some (.slice a R.length c) := by go_simp
  have hBw := b1
  clear b1
  go_enter Tryz.func11, Tryz.ntmps11
  go_wp2_with fail
  obtain ⟨wA, hwA⟩ : ∃ wA, (w.alloc (.cells #[.int .i64 V, .slice a R.length c] 24)) = wA := ⟨_, rfl⟩
  rw [hwA] at m0 m1 hBw ⊢
  clear hwA
  refine (GR.out _ hBw).mono ?_
  rintro e w1 ⟨b1, ⟨hmb, rfl⟩ | ⟨hmb, b, g, rfl, hbb, hM, hRF⟩⟩
  · have hB := hBw.trans (b1.mono hBw.size)
    clear GR
    have HX := xQ1 (show OtA w V (tb R) (.returned (.tuple #[.slice none 0 0, .int .i64 70])) _ from ⟨hB, Or.inl ⟨hmb, rfl⟩⟩)
    rw [hTQ.out] at HX
    go_wp2
    first | exact HX.out | (go_ret; exact HX.out) | (refine bodyPost_ret (v := .tuple #[.slice none 0 0, .int .i64 70]) (by rw [results_tt rfl]; go_simp) rfl ?_; exact HX.out)
  · have hB := hBw.trans (b1.mono hBw.size)
    replace m0 := xQ0 b1 m0
    have HMB := xQ1 hmb
    have HRF := xQ1 hRF
    obtain ⟨N, rfl⟩ : ∃ N : Nat, V = (N : Int) := ⟨V.toNat, by have := hmb.lo; omega⟩
    have hN : N ≤ 65536 := by have := hmb.hi; omega
    clear GR hmb hRF b1 hBw m1
    go_wp2_with fail
    go_loopw [6, 20] (fun vo vi wr => ∃ k : Nat, k ≤ N ∧ vi = .int .i64 k ∧ LInv w1 (othL (tb R) k) vo wr) (fun _ vi _ => N - (intOf vi).toNat)
    case atStart => exact ⟨0, Nat.zero_le _, rfl, World.ownsRow_nil _ _ _ _, Below.refl _ _⟩
    case round =>
      obtain ⟨k, hk, rfl, hO, hBw1⟩ := hrel
      have n0 := xQ0 hBw1 m0
      have hM2 := hM.later hBw1
      by_cases hlt : k < N
      · have i2 : (k : Int) < (N : Int) := by omega
        have hwk : wfI (k : Int) := wfI_of (by omega) (by omega)
        have HO := xQ1 (show othL (tb R) (k + 1) = othL (tb R) k ++ (if lk (tb R) (k : Int) = none then [(k : Int)] else []) from rfl)
        have hzl9 := othL_len (tb R) k
        obtain ⟨zs, hzs⟩ : ∃ zs, othL (tb R) k = zs := ⟨_, rfl⟩
        rw [hzs] at hO HO hzl9
        clear hzs
        have hzl : zs.length ≤ 65536 := by omega
        clear hzl9
        cases hg : g (k : Int) with
        | none =>
          have hrr := mapf_none hg
          have hl := HRF.out.miss.1 hg
          have HV := xQ1 (show othL (tb R) (k + 1) = zs ++ [(k : Int)] from by rw [HO.out, if_pos hl])
          clear hg hl HO
          obtain ⟨wB, hwB⟩ : ∃ wB, wr.alloc (.cells #[.int .i64 k] 3) = wB := ⟨_, rfl⟩
          have hnew := heap_alloc_new wr (.cells #[.int .i64 k] 3)
          have b3 := xQ2 (w := wr) (.cells #[.int .i64 k] 3)
          rw [hwB] at hnew b3
          have hO3 := xQ6 hO b3
          have s3 := b3.size
          have s4 := hBw1.size
          have hbB : w1.heap.size ≤ wB.heap.size := by omega
          have hbl : (zs.length + 1) * 8 ≤ 140737488355328 := by omega
          have hrow := fun k hk => (hO.lt k hk)
          go_wp2_with (first | (at_lookup; refine xZ3 _ rfl _ _ 40 true rfl xZ9 xZ7 (zeroF _) b R.length (mapf g) rfl hM2 (k : Int) rfl hwk none hrr ?_) | (at_builtin; (try rw [hwB]); refine wpList_append_lies _ (by rfl) _ _ _ (by rfl) w1.heap.size 3 i0 _ 1 8 Tryz.underlying32 hi0 hz0 hz1 hz2 rfl (by omega) u6 zs.length (iv zs) (by rfl) hO3 ⟨wr.heap.size, 0, none⟩ 1 1 [.int .i64 k] (by rfl) (by rfl) (World.news_of_block (cs := #[.int .i64 k]) (t := 3) (fr := (0, 0)) hnew) (by simp [Value.oneCell']) (by omega) (by simp only [maxLen]; omega) hbl hbB wB.heap.size rfl ?_))
          intro gb cap w9 hown4 hgrow hat hlt4
          have hB3 := hBw1.trans (b3.mono hBw1.size)
          have b9 := xQ8 hB3.size (fun k hk => (hrow k hk).1) hgrow
          have I1 : LInv w1 (zs ++ [(k : Int)]) (.slice (some ⟨gb, 0, none⟩) (zs.length + 1) cap) w9 := ⟨by rw [List.length_append, iv_append]; exact hown4, hB3.trans b9⟩
          replace I1 := xQ1 I1
          clear hown4 hgrow hat hnew b3 hO3 hB3 b9 hrow s3 hbB hbl hO hBw1
          go_wp2
          go_roundw
          case rel => exact ⟨k + 1, by omega, by go_num, by rw [HV.out]; exact I1.out⟩
          case measure => simp [intOf]; omega
        | some G =>
          have hrr := mapf_some hg
          have hl : lk (tb R) (k : Int) ≠ none := fun h => by rw [HRF.out.miss.2 h] at hg; cases hg
          have HV := xQ1 (show othL (tb R) (k + 1) = zs from by rw [HO.out, if_neg hl, List.append_nil])
          clear hg hl HO
          have I1 := xQ1 (show LInv w1 zs u6 wr from ⟨hO, hBw1⟩)
          clear hO hBw1
          go_wp2_with (at_lookup; refine xZ3 _ rfl _ _ 40 true rfl xZ9 xZ7 (zeroF _) b R.length (mapf g) rfl hM2 (k : Int) rfl hwk (some G.val) hrr ?_)
          try go_wp2
          go_roundw
          case rel => exact ⟨k + 1, by omega, by go_num, by rw [HV.out]; exact I1.out⟩
          case measure => simp [intOf]; omega
      · obtain rfl : k = N := by omega
        have i1 : ¬ (k : Int) < (k : Int) := by omega
        obtain ⟨ai, ci, rfl, hci, hI⟩ := own_ints hO
        have hB9 := hB.trans (hBw1.mono hB.size)
        clear hO
        have HX := xQ1 (show OtA w (k : Int) (tb R) (.returned (.tuple #[.slice ai (othL (tb R) k).length ci, .int .i64 0])) _ from ⟨hB9, Or.inr ⟨HMB.out, ai, ci, rfl, hI, hci⟩⟩)
        rw [hTQ.out] at HX
        go_wp2
        first | exact HX.out | (go_ret; exact HX.out) | (refine bodyPost_ret (v := .tuple #[.slice ai (othL (tb R) k).length ci, .int .i64 0]) (by rw [results_tt rfl]; go_simp) rfl ?_; exact HX.out)
theorem rise_at {S : List RowV} (hr : rising S) {i j : Nat} {r s : RowV} (hi : S[i]? = some r) (hj : S[j]? = some s) (h : i < j) : r.1 < s.1 := by
  obtain ⟨h1, e1⟩ := List.getElem?_eq_some_iff.1 hi
  obtain ⟨h2, e2⟩ := List.getElem?_eq_some_iff.1 hj
  have := List.pairwise_iff_getElem.1 hr i j h1 h2 h
  rw [e1, e2] at this
  exact this
theorem oth_no {S : List RowV} (hr : rising S) {i : Nat} {k : Int} (h : ∀ (j : Nat) (r : RowV), S[j]? = some r → (j < i ↔ r.1 < k)) (hx : ∀ r : RowV, S[i]? = some r → r.1 ≠ k) : k ∉ ksR S ∧ ∀ (j : Nat) (r : RowV), S[j]? = some r → (j < i ↔ r.1 < k + 1) := by
  have key : ∀ (j : Nat) (r : RowV), S[j]? = some r → r.1 ≠ k := fun j r hj e => by
    rcases Nat.lt_trichotomy j i with h1 | h1 | h1
    · have := (h j r hj).1 h1; omega
    · subst h1; exact hx r hj e
    · have hl := (List.getElem?_eq_some_iff.1 hj).1
      have hi : S[i]? = some S[i] := List.getElem?_eq_getElem (by omega)
      have h2 := (h i _ hi)
      have h3 := hx _ hi
      have h4 := rise_at hr hi hj h1
      omega
  refine ⟨fun hm => ?_, fun j r hj => ?_⟩
  · obtain ⟨r, hr2, e⟩ := List.mem_map.1 hm
    obtain ⟨j, hj, e2⟩ := List.mem_iff_getElem.1 hr2
    exact key j r (by rw [← e2]; exact List.getElem?_eq_getElem hj) e
  · have h1 := h j r hj
    have h2 := key j r hj
    omega
theorem oth_yes {S : List RowV} (hr : rising S) {i : Nat} {k : Int} (h : ∀ (j : Nat) (r : RowV), S[j]? = some r → (j < i ↔ r.1 < k)) {r : RowV} (hi : S[i]? = some r) (e : r.1 = k) : k ∈ ksR S ∧ ∀ (j : Nat) (s : RowV), S[j]? = some s → (j < i + 1 ↔ s.1 < k + 1) := by
  refine ⟨List.mem_map.2 ⟨r, List.mem_of_getElem? hi, e⟩, fun j s hj => ?_⟩
  rcases Nat.lt_trichotomy j i with h1 | h1 | h1
  · have := (h j s hj).1 h1; omega
  · subst h1
    rw [hi] at hj
    obtain rfl := Option.some.inj hj
    omega
  · have := rise_at hr hi hj h1
    omega
set_option maxHeartbeats 8000000 in
set_option maxRecDepth 100000 in
theorem rOthers_is (V : Int) (a : Option Addr) (c : Nat) (R : List RowV) (w : World) (hT : TSm w a R) (hc : R.length ≤ c) :
    Calls Tryz.prog 12 #[.agg #[.int .i64 V, .slice a R.length c]] w (OtA w V (tb R)) := by
  obtain ⟨i0, hi0, hz0, hz1, hz2⟩ := info_parts info_int
  obtain ⟨TQ, hTQ⟩ : ∃ TQ, OtA w V (tb R) = TQ := ⟨_, rfl⟩
  rw [hTQ]
  replace hTQ := xQ1 hTQ
  have hlen := hT.len
  have GC := xQ1 (fun w' (hb : Below w.heap.size w w') => rCheck_is V a c R w' (hT.later hb) hc)
  have GS := xQ1 (fun w' (hb : Below w.heap.size w w') (h : mayBe V (tb R)) => rsorted_is V a c R w' (hT.later hb) hc h)
  clear hT
  have b1 := xQ2 (w := w) (.cells #[.int .i64 V, .slice a R.length c] 24)
  have m0 : (w.alloc (.cells #[.int .i64 V, .slice a R.length c] 24)).cell? ⟨w.heap.size, 0, none⟩ = some (.int .i64 V) := by go_simp
  have m1 : (w.alloc (.cells #[.int .i64 V, .slice a R.length c] 24)).cell? ⟨w.heap.size, 1, none⟩ = some (.slice a R.length c) := by go_simp
  have hBw := b1
  clear b1
  go_enter Tryz.func12, Tryz.ntmps12
  go_wp2_with fail
  obtain ⟨wA, hwA⟩ : ∃ wA, (w.alloc (.cells #[.int .i64 V, .slice a R.length c] 24)) = wA := ⟨_, rfl⟩
  rw [hwA] at m0 m1 hBw ⊢
  clear hwA
  refine (GC.out _ hBw).mono ?_
  rintro e w1 ⟨b1, ⟨hmb, rfl⟩ | ⟨hmb, rfl⟩⟩
  · have hB := hBw.trans (b1.mono hBw.size)
    replace m0 := xQ0 b1 m0
    have hw1 := cell_ltK m0
    replace m1 := xQ0 b1 m1
    have HMB := xQ1 hmb
    clear GC hmb b1 hBw
    have hO0 := own_empty w1 3
    have bE := xQ2 (w := w1) (.cells #[] 3)
    have hszE : (w1.alloc (.cells #[] 3)).heap.size = w1.heap.size + 1 := by simp
    obtain ⟨wE, hwE⟩ : ∃ wE, w1.alloc (.cells #[] 3) = wE := ⟨_, rfl⟩
    rw [hwE] at hO0 bE hszE
    replace m0 := xQ0 bE m0
    replace m1 := xQ0 bE m1
    have hB2 := hB.trans (bE.mono hB.size)
    go_wp2_with (rw [hwE])
    refine (GS.out _ hB2 HMB.out).mono ?_
    rintro e w2 ⟨v9, S, rfl, ⟨⟨ar, cr, rfl, hn, hl, hf⟩, hb2, hr⟩, hN, hSl⟩
    clear GS hwE
    have HSl := xQ1 hSl
    have hSm : S.length ≤ 1048576 := by omega
    clear hSl
    have bS := xQ2 (w := w2) (.cells #[.int .i64 V, .slice ar S.length cr] 24)
    have kS := Bk2.new w2 V ar S.length cr 24
    obtain ⟨wS, hwS⟩ : ∃ wS, w2.alloc (.cells #[.int .i64 V, .slice ar S.length cr] 24) = wS := ⟨_, rfl⟩
    rw [hwS] at bS kS
    have bES := hb2.trans (bS.mono hb2.size)
    have hO1 := xQ6 (xQ6 hO0 hb2) bS
    have hn1 := hn.at_.later bS
    have hB3 := hB2.trans (bES.mono hB2.size)
    obtain ⟨N, rfl⟩ : ∃ N : Nat, V = (N : Int) := ⟨V.toNat, by have := HMB.out.lo; omega⟩
    have hN9 : N ≤ 65536 := by have := HMB.out.hi; omega
    have I0 : LInv w1 (othL (tb R) 0) (.slice (some ⟨w1.heap.size, 0, none⟩) 0 0) wS := ⟨hO1, bE.trans (bES.mono bE.size)⟩
    have m5 := xQ0 bES m0
    have d1 := kS.cell1
    have hs2 := hb2.size
    have hsS := bS.size
    clear hO0 bE hO1 hn m0 m1 hb2 bS
    go_wp2_with (rw [hwS])
    clear hwS
    have HKs := xQ1 (ks_mem hN)
    have HRi := xQ1 hr
    clear hN hr
    go_loopw [5, 7, 8] (fun vo ii vi wr => ∃ (k i : Nat), k ≤ N ∧ i ≤ S.length ∧ vi = .int .i64 k ∧ ii = .int .i64 i ∧ But w1.heap.size wS wr ∧ LInv w1 (othL (tb R) k) vo wr ∧ (∀ j, vo.ownBlock = some j → j = w1.heap.size ∨ wS.heap.size ≤ j) ∧ (∀ j r, S[j]? = some r → (j < i ↔ r.1 < (k : Int)))) (fun _ _ vi _ => N - (intOf vi).toNat)
    case atStart => exact ⟨0, 0, Nat.zero_le _, Nat.zero_le _, rfl, rfl, But.refl _ _, I0, fun j hj => Or.inl (by simp [Value.ownBlock] at hj; exact hj.symm), fun j r hr => ⟨fun h => absurd h (by omega), fun h => by have := (HMB.out.basic _ (lk_mem (Option.ne_none_iff_exists'.1 ((HKs.out r.1).1 (List.mem_map.2 ⟨r, List.mem_of_getElem? hr, rfl⟩))).choose_spec)).1; simp only at this; omega⟩⟩
    case round =>
      clear I0
      obtain ⟨k, i, hk, hi, rfl, rfl, hBS, ⟨hO, hBw1⟩, hown, hcnt⟩ := hrel
      have n0 := hBS.cell m5 (by omega)
      have n1 := hBS.cell d1 (by omega)
      have HC := xQ1 hcnt
      clear hcnt
      by_cases hlt : k < N
      · have i2 : (k : Int) < (N : Int) := by omega
        have HO := xQ1 (show othL (tb R) (k + 1) = othL (tb R) k ++ (if lk (tb R) (k : Int) = none then [(k : Int)] else []) from rfl)
        have hzl9 := othL_len (tb R) k
        obtain ⟨zs, hzs⟩ : ∃ zs, othL (tb R) k = zs := ⟨_, rfl⟩
        rw [hzs] at hO HO hzl9
        clear hzs
        have hzl : zs.length ≤ 65536 := by omega
        clear hzl9
        by_cases hil : i < S.length
        · obtain ⟨r, hri⟩ : ∃ r, S[i]? = some r := ⟨S[i], List.getElem?_eq_getElem hil⟩
          have j0 : (0 : Int) ≤ (i : Int) := by omega
          have j1 : (i : Int) < (S.length : Int) := by omega
          obtain ⟨bb, off, rfl, hbb, hcell⟩ := hn1 (by intro e; rw [e] at hil; simp at hil)
          have hbe : bb ≠ w1.heap.size := by have := hf _ rfl (by intro e; rw [e] at hil; simp at hil); simp only at this; omega
          have c0 := hBS.cell (hcell i r hri).1 hbe
          clear hcell
          by_cases hrk : r.1 = (k : Int)
          · have hye := oth_yes HRi.out HC.out hri hrk
            have HV := xQ1 (show othL (tb R) (k + 1) = zs from by rw [HO.out, if_neg ((HKs.out (k : Int)).1 hye.1), List.append_nil])
            have HC2 := xQ1 hye.2
            rw [hrk] at c0
            have I1 := xQ1 (show LInv w1 zs u5 wr from ⟨hO, hBw1⟩)
            have I2 := xQ1 hBS
            have I3 := xQ1 hown
            clear hye HO hri hrk HC hO hBw1 hBS hown
            go_wp2
            go_roundw
            case rel => exact ⟨k + 1, i + 1, by omega, by omega, by go_num, by go_num, I2.out, by rw [HV.out]; exact I1.out, I3.out, fun j r hj => by have := HC2.out j r hj; omega⟩
            case measure => simp [intOf]; omega
          · have hno := oth_no HRi.out HC.out (fun s hs => by rw [hri] at hs; obtain rfl := Option.some.inj hs; exact hrk)
            clear hri
            have HV := xQ1 (show othL (tb R) (k + 1) = zs ++ [(k : Int)] from by rw [HO.out, if_pos (by cases hl : lk (tb R) (k : Int) with | none => rfl | some f => exact absurd ((HKs.out (k : Int)).2 (by rw [hl]; simp)) hno.1)])
            have HC2 := xQ1 hno.2
            clear HO hno HC
            obtain ⟨wB, hwB⟩ : ∃ wB, wr.alloc (.cells #[.int .i64 k] 3) = wB := ⟨_, rfl⟩
            have hnew := heap_alloc_new wr (.cells #[.int .i64 k] 3)
            have b3 := xQ2 (w := wr) (.cells #[.int .i64 k] 3)
            rw [hwB] at hnew b3
            have hO3 := xQ6 hO b3
            have s3 := b3.size
            have s4 := hBw1.size
            have hbB : w1.heap.size ≤ wB.heap.size := by omega
            have hbl : (zs.length + 1) * 8 ≤ 140737488355328 := by omega
            have hrow := fun k hk => (hO.lt k hk)
            go_wp2_with (at_builtin; (try rw [hwB]); refine wpList_append_lies _ (by rfl) _ _ _ (by rfl) w1.heap.size 3 i0 _ 1 8 Tryz.underlying32 hi0 hz0 hz1 hz2 rfl (by omega) u5 zs.length (iv zs) (by rfl) hO3 ⟨wr.heap.size, 0, none⟩ 1 1 [.int .i64 k] (by rfl) (by rfl) (World.news_of_block (cs := #[.int .i64 k]) (t := 3) (fr := (0, 0)) hnew) (by simp [Value.oneCell']) (by omega) (by simp only [maxLen]; omega) hbl hbB wB.heap.size rfl ?_)
            intro gb cap w9 hown4 hgrow hat hlt4
            have hB9 := hBw1.trans (b3.mono hBw1.size)
            have b9 := xQ8 hB9.size (fun k hk => (hrow k hk).1) hgrow
            have I1 : LInv w1 (zs ++ [(k : Int)]) (.slice (some ⟨gb, 0, none⟩) (zs.length + 1) cap) w9 := ⟨by rw [List.length_append, iv_append]; exact hown4, hB9.trans b9⟩
            have I2 : But w1.heap.size wS w9 := (hBS.below b3).grown2 hgrow hown
            have hs5 := hBS.size
            have I3 : ∀ j, (Value.slice (some ⟨gb, 0, none⟩) (zs.length + 1) cap).ownBlock = some j → j = w1.heap.size ∨ wS.heap.size ≤ j := fun j hj => by
                have e : gb = j := by simpa [Value.ownBlock] using hj
                subst e
                rcases hat with h | h
                · exact hown _ h
                · exact Or.inr (by omega)
            replace I1 := xQ1 I1
            replace I2 := xQ1 I2
            replace I3 := xQ1 I3
            clear hown4 hgrow hat hnew b3 hO3 hB9 b9 hrow s3 hbB hbl hO hBS hown
            go_wp2
            go_roundw
            case rel => exact ⟨k + 1, i, by omega, by omega, by go_num, by go_num, I2.out, by rw [HV.out]; exact I1.out, I3.out, fun j r hj => by have := HC2.out j r hj; omega⟩
            case measure => simp [intOf]; omega
        · obtain rfl : i = S.length := by omega
          have j1 : ¬ (S.length : Int) < (S.length : Int) := by omega
          have hno := oth_no HRi.out HC.out (fun s hs => by rw [List.getElem?_eq_none (Nat.le_refl _)] at hs; cases hs)
          have HV := xQ1 (show othL (tb R) (k + 1) = zs ++ [(k : Int)] from by rw [HO.out, if_pos (by cases hl : lk (tb R) (k : Int) with | none => rfl | some f => exact absurd ((HKs.out (k : Int)).2 (by rw [hl]; simp)) hno.1)])
          have HC2 := xQ1 hno.2
          clear HO hno HC
          obtain ⟨wB, hwB⟩ : ∃ wB, wr.alloc (.cells #[.int .i64 k] 3) = wB := ⟨_, rfl⟩
          have hnew := heap_alloc_new wr (.cells #[.int .i64 k] 3)
          have b3 := xQ2 (w := wr) (.cells #[.int .i64 k] 3)
          rw [hwB] at hnew b3
          have hO3 := xQ6 hO b3
          have s3 := b3.size
          have s4 := hBw1.size
          have hbB : w1.heap.size ≤ wB.heap.size := by omega
          have hbl : (zs.length + 1) * 8 ≤ 140737488355328 := by omega
          have hrow := fun k hk => (hO.lt k hk)
          go_wp2_with (at_builtin; (try rw [hwB]); refine wpList_append_lies _ (by rfl) _ _ _ (by rfl) w1.heap.size 3 i0 _ 1 8 Tryz.underlying32 hi0 hz0 hz1 hz2 rfl (by omega) u5 zs.length (iv zs) (by rfl) hO3 ⟨wr.heap.size, 0, none⟩ 1 1 [.int .i64 k] (by rfl) (by rfl) (World.news_of_block (cs := #[.int .i64 k]) (t := 3) (fr := (0, 0)) hnew) (by simp [Value.oneCell']) (by omega) (by simp only [maxLen]; omega) hbl hbB wB.heap.size rfl ?_)
          intro gb cap w9 hown4 hgrow hat hlt4
          have hB9 := hBw1.trans (b3.mono hBw1.size)
          have b9 := xQ8 hB9.size (fun k hk => (hrow k hk).1) hgrow
          have I1 : LInv w1 (zs ++ [(k : Int)]) (.slice (some ⟨gb, 0, none⟩) (zs.length + 1) cap) w9 := ⟨by rw [List.length_append, iv_append]; exact hown4, hB9.trans b9⟩
          have I2 : But w1.heap.size wS w9 := (hBS.below b3).grown2 hgrow hown
          have hs5 := hBS.size
          have I3 : ∀ j, (Value.slice (some ⟨gb, 0, none⟩) (zs.length + 1) cap).ownBlock = some j → j = w1.heap.size ∨ wS.heap.size ≤ j := fun j hj => by
              have e : gb = j := by simpa [Value.ownBlock] using hj
              subst e
              rcases hat with h | h
              · exact hown _ h
              · exact Or.inr (by omega)
          replace I1 := xQ1 I1
          replace I2 := xQ1 I2
          replace I3 := xQ1 I3
          clear hown4 hgrow hat hnew b3 hO3 hB9 b9 hrow s3 hbB hbl hO hBS hown
          go_wp2
          go_roundw
          case rel => exact ⟨k + 1, S.length, by omega, by omega, by go_num, by go_num, I2.out, by rw [HV.out]; exact I1.out, I3.out, fun j r hj => by have := HC2.out j r hj; omega⟩
          case measure => simp [intOf]; omega
      · obtain rfl : k = N := by omega
        have i1 : ¬ (k : Int) < (k : Int) := by omega
        obtain ⟨ai, ci, rfl, hci, hI⟩ := own_ints hO
        have hB9 := hB.trans (hBw1.mono hB.size)
        clear hO HC
        have HX := xQ1 (show OtA w (k : Int) (tb R) (.returned (.tuple #[.slice ai (othL (tb R) k).length ci, .int .i64 0])) _ from ⟨hB9, Or.inr ⟨HMB.out, ai, ci, rfl, hI, hci⟩⟩)
        rw [hTQ.out] at HX
        go_wp2
        first | exact HX.out | (go_ret; exact HX.out) | (refine bodyPost_ret (v := .tuple #[.slice ai (othL (tb R) k).length ci, .int .i64 0]) (by rw [results_tt rfl]; go_simp) rfl ?_; exact HX.out)
  · have hB := hBw.trans (b1.mono hBw.size)
    clear GC GS
    have HX := xQ1 (show OtA w V (tb R) (.returned (.tuple #[.slice none 0 0, .int .i64 70])) _ from ⟨hB, Or.inl ⟨hmb, rfl⟩⟩)
    rw [hTQ.out] at HX
    go_wp2
    first | exact HX.out | (go_ret; exact HX.out) | (refine bodyPost_ret (v := .tuple #[.slice none 0 0, .int .i64 70]) (by rw [results_tt rfl]; go_simp) rfl ?_; exact HX.out)
def stF (v : Int) (L : List Mo) : Bool := L.any fun p => p.1 == v
theorem stF_no {v : Int} {L : List Mo} (h : ∀ i p, i < L.length → L[i]? = some p → (p.1 == v) = false) : stF v L = false := by
  unfold stF
  rw [List.any_eq_false]
  intro p hp
  obtain ⟨i, hi, rfl⟩ := List.getElem_of_mem hp
  simpa using h i _ hi (List.getElem?_eq_getElem hi)
theorem stF_yes {v : Int} {L : List Mo} {i : Nat} {p : Mo} (h : L[i]? = some p) (hp : (p.1 == v) = true) : stF v L = true := by
  unfold stF
  rw [List.any_eq_true]
  exact ⟨p, List.mem_of_getElem? h, hp⟩
theorem stF_co {v : Int} {L : List Mo} {f : Fo} (h : fo L = nfm f) : stF v L = true ↔ co v f ≠ 0 := by
  have hm : (∃ p ∈ fo L, p.1 = v) ↔ co v f ≠ 0 := by
    rw [h]
    constructor
    · rintro ⟨p, hp, rfl⟩
      have h1 := (nfm_nrm f).co_mem hp
      rw [nfm_co] at h1
      rw [h1]
      exact (nfm_nrm f).2 p hp
    · intro hn
      by_cases he : ∃ p ∈ nfm f, p.1 = v
      · exact he
      · exfalso
        apply hn
        rw [← nfm_co]
        exact co_zero fun q hq e => he ⟨q, hq, e⟩
  rw [← hm]
  unfold stF fo
  rw [List.any_eq_true]
  constructor
  · rintro ⟨p, hp, e⟩
    exact ⟨_, List.mem_map.2 ⟨p, hp, rfl⟩, by simpa using e⟩
  · rintro ⟨q, hq, e⟩
    obtain ⟨p, hp, rfl⟩ := List.mem_map.1 hq
    exact ⟨p, hp, by simpa using e⟩
def ClA (w : World) (V : Int) (T : Tb) (n : Nat) (v : Int) (e : Ending) (w' : World) : Prop := Below w.heap.size w w' ∧
  ((¬ mayBe V T ∧ e = .returned (.tuple #[.slice none 0 0, .int .i64 70])) ∨ (mayBe V T ∧ ¬ (0 ≤ v ∧ v < V) ∧ e = .returned (.tuple #[.slice none 0 0, .int .i64 61])) ∨
   (mayBe V T ∧ (0 ≤ v ∧ v < V) ∧ lk T v ≠ none ∧ e = .returned (.tuple #[.slice none 0 0, .int .i64 71])) ∨
   (mayBe V T ∧ (0 ≤ v ∧ v < V) ∧ lk T v = none ∧ ∃ (a : Option Addr) (c : Nat) (zs : List Int), e = .returned (.tuple #[.slice a zs.length c, .int .i64 0]) ∧ IAt w' a zs ∧ zs.length ≤ c ∧ zs.length ≤ n ∧ zs.Pairwise (· < ·) ∧ ∀ x, x ∈ zs ↔ ∃ f, lk T x = some f ∧ co v f ≠ 0))
set_option maxHeartbeats 8000000 in
set_option maxRecDepth 100000 in
theorem stand1_is (p : Mo) (cb : Nat) (v : Int) (w : World) (hc : w.cell? ⟨cb, 0, none⟩ = some (.int .i64 v)) :
    Calls Tryz.prog 61 #[.agg #[.int .i64 p.1, .bool p.2.s, .slice p.2.a p.2.n p.2.c, .slice p.2.b p.2.m p.2.e], .pointer (some ⟨cb, 0, none⟩)] w fun e w' => e = .returned (.bool (p.1 == v)) ∧ Below w.heap.size w w' := by
  obtain ⟨x, q⟩ := p
  simp only
  have bA := xQ2 (w := w) (.cells #[.int .i64 x, .bool q.s, .slice q.a q.n q.c, .slice q.b q.m q.e] 57)
  have m0 : (w.alloc (.cells #[.int .i64 x, .bool q.s, .slice q.a q.n q.c, .slice q.b q.m q.e] 57)).cell? ⟨w.heap.size, 0, none⟩ = some (.int .i64 x) := by go_simp
  have c0 := xQ0 bA hc
  go_enter Tryz.func61, Tryz.ntmps61
  go_wp2
  go_ret
  exact ⟨rfl, bA⟩
set_option maxHeartbeats 8000000 in
set_option maxRecDepth 100000 in
theorem standI_is (X : FV) (cb : Nat) (v : Int) (w : World) (hX : X.ok w) (hm : X.L.length ≤ 4194304) (hc : w.cell? ⟨cb, 0, none⟩ = some (.int .i64 v)) :
    Calls Tryz.prog 80 #[X.val, .func (.func 61) #[] #[.pointer (some ⟨cb, 0, none⟩)]] w fun e w' => (∃ j : Int, e = .returned (.int .i64 j) ∧ decide (j ≥ 0) = stF v X.L) ∧ Below w.heap.size w w' := by
  obtain ⟨a, c, L⟩ := X
  obtain ⟨hF, hok, hcp⟩ := hX
  simp only at hF hok hcp hm ⊢
  unfold FV.val
  simp only
  clear hok
  have HP := xQ1 (fun (p : Mo) w' (hb : Below w.heap.size w w') => stand1_is p cb v w' (xQ0 hb hc))
  go_enter Tryz.func80, Tryz.ntmps80
  go_wp2_with fail
  go_loopw [8] (fun vi wr => ∃ k : Nat, k ≤ L.length ∧ vi = .int .i64 k ∧ (∀ i p, i < k → L[i]? = some p → (p.1 == v) = false) ∧ Below w.heap.size w wr) (fun vi _ => L.length - (intOf vi).toNat)
  case atStart => exact ⟨0, Nat.zero_le _, rfl, fun i p hi => absurd hi (by omega), Below.refl _ _⟩
  case round =>
    obtain ⟨k, hk, rfl, hN, hB⟩ := hrel
    have HN := xQ1 hN
    clear hN
    by_cases hlt : k < L.length
    · obtain ⟨p, hp⟩ : ∃ p, L[k]? = some p := ⟨L[k], List.getElem?_eq_getElem hlt⟩
      obtain ⟨bb, off, rfl, hbb, hcell⟩ := hF (by intro e; rw [e] at hlt; simp at hlt)
      obtain ⟨d0, d1, d2, d3⟩ := hcell k p hp
      replace d0 := xQ0 hB d0
      replace d1 := xQ0 hB d1
      replace d2 := xQ0 hB d2
      replace d3 := xQ0 hB d3
      have j0 : (0 : Int) ≤ (k : Int) := by omega
      have j1 : (k : Int) < (L.length : Int) := by omega
      have HK := xQ1 (HP.out p wr hB)
      have HY := xQ1 (fun (h : (p.1 == v) = true) => stF_yes hp h)
      have HZ := xQ1 (fun (h : (p.1 == v) = false) => show ∀ i q, i < k + 1 → L[i]? = some q → (q.1 == v) = false from fun i q hi hq => by by_cases e : i = k; (subst e; rw [hp] at hq; cases hq; exact h); exact HN.out i q (by omega) hq)
      clear hcell hF hp
      obtain ⟨x, q⟩ := p
      simp only at d0 d1 d2 d3 HK HY HZ
      cases hy : (x == v)
      · have HK2 := HK.out
        rw [hy] at HK2
        replace HK2 := xQ1 HK2
        have HR := xQ1 (HZ.out hy)
        clear hy HK HY HZ
        go_wp2_with fail
        refine HK2.out.mono ?_
        rintro e w1 ⟨rfl, b1⟩
        replace hB := hB.trans (b1.mono hB.size)
        clear b1 HK2
        go_wp2
        go_roundw
        case rel => exact ⟨k + 1, by omega, by go_num, HR.out, hB⟩
        case measure => simp only [intOf]; omega
      · have HK2 := HK.out
        rw [hy] at HK2
        replace HK2 := xQ1 HK2
        have HR := xQ1 (HY.out hy)
        clear hy HK HY HZ
        go_wp2_with fail
        refine HK2.out.mono ?_
        rintro e w1 ⟨rfl, b1⟩
        replace hB := hB.trans (b1.mono hB.size)
        clear b1 HK2
        go_wp2
        go_ret
        exact ⟨⟨_, rfl, by rw [HR.out]; exact decide_eq_true (by omega)⟩, hB⟩
    · obtain rfl : k = L.length := by omega
      have i1 : ¬ (L.length : Int) < (L.length : Int) := by omega
      have HZ := xQ1 (show stF v L = false from stF_no fun i p hi hp => HN.out i p hi hp)
      clear HN HP hF
      go_wp2
      go_ret
      exact ⟨⟨_, rfl, by rw [HZ.out]; rfl⟩, hB⟩
set_option maxHeartbeats 8000000 in
set_option maxRecDepth 100000 in
theorem stands_is (X : FV) (v : Int) (w : World) (hX : X.ok w) (hm : X.L.length ≤ 4194304) :
    Calls Tryz.prog 42 #[X.val, .int .i64 v] w fun e w' => e = .returned (.bool (stF v X.L)) ∧ Below w.heap.size w w' := by
  have bA := xQ2 (w := w) (.cells #[.int .i64 v] 3)
  have m0 : (w.alloc (.cells #[.int .i64 v] 3)).cell? ⟨w.heap.size, 0, none⟩ = some (.int .i64 v) := by go_simp
  have HK := xQ1 (show Calls Tryz.prog 60 #[X.val, .func (.func 61) #[] #[.pointer (some ⟨w.heap.size, 0, none⟩)]] (w.alloc (.cells #[.int .i64 v] 3)) fun e w' => e = .returned (.bool (stF v X.L)) ∧ Below w.heap.size w w' from by
      have H2 := xQ1 (standI_is X w.heap.size v (w.alloc (.cells #[.int .i64 v] 3)) (hX.later bA) hm m0)
      obtain ⟨Xv, hXv⟩ : ∃ z, X.val = z := ⟨_, rfl⟩
      rw [hXv] at H2 ⊢
      clear hX hm hXv
      generalize stF v X.L = r at H2 ⊢
      obtain ⟨wA, hwA⟩ : ∃ wA, w.alloc (.cells #[.int .i64 v] 3) = wA := ⟨_, rfl⟩
      rw [hwA] at H2 bA ⊢
      clear m0 hwA
      generalize hcb : w.heap.size = cb at H2 bA ⊢
      go_enter Tryz.func60, Tryz.ntmps60
      go_wp2_with fail
      refine H2.out.mono ?_
      rintro e w1 ⟨⟨j, rfl, hj⟩, b1⟩
      go_wp2
      go_ret
      exact ⟨by rw [← hj]; rfl, bA.trans (b1.mono (by rw [← hcb]; exact bA.size))⟩)
  obtain ⟨Xv, hXv⟩ : ∃ z, X.val = z := ⟨_, rfl⟩
  rw [hXv] at HK ⊢
  clear hX hm hXv m0 bA
  generalize stF v X.L = r at HK ⊢
  go_enter Tryz.func42, Tryz.ntmps42
  go_wp2_with fail
  refine HK.out.mono ?_
  rintro e w1 ⟨rfl, b1⟩
  go_wp2
  go_ret
  exact ⟨rfl, b1⟩
def wiF (g : Int → Option FV) (v : Int) (left : Int → Bool) : Int → Option FV := fun u => if left u = true then none else (g u).filter fun F => stF v F.L
structure WiI (w w1 : World) (b b2 it n cnt0 : Nat) (g : Int → Option FV) (v : Int) (left : Int → Bool) (cnt : Nat) (wr : World) : Prop where
  bel : Below w.heap.size w wr
  rng : RngI Tryz.prog 3 wr b it n (mapf g) left cnt
  le : cnt ≤ cnt0
  map : MapT wr b2 (cnt0 - cnt) (wiF g v left)
  kc : Kc w1 wr
theorem wiF_no {g : Int → Option FV} {v x : Int} {left : Int → Bool} {F : FV} (hg : g x = some F) (hl : left x = true) (hs : stF v F.L = false) : wiF g v (fun z => left z && !decide (z = x)) = wiF g v left := by
  funext u
  unfold wiF
  by_cases e : u = x
  · subst e; simp [hl, hg, Option.filter, hs]
  · simp [e]
theorem wiF_yes {g : Int → Option FV} {v x : Int} {left : Int → Bool} {F : FV} (hg : g x = some F) (hl : left x = true) (hs : stF v F.L = true) : wiF g v (fun z => left z && !decide (z = x)) = gput (wiF g v left) x F := by
  funext u
  unfold wiF gput
  by_cases e : u = x
  · subst e; simp [hg, Option.filter, hs]
  · simp [e]
theorem wiF_begin (g : Int → Option FV) (v : Int) : wiF g v (fun u => (mapf g u).isSome) = fun _ => none := by
  funext u
  unfold wiF mapf
  cases hg : g u <;> simp [hg]
theorem wiF_end {g : Int → Option FV} {v : Int} {left : Int → Bool} (h : ∀ u x, mapf g u = some x → left u = false) : wiF g v left = fun u => (g u).filter fun F => stF v F.L := by
  funext u
  unfold wiF
  cases hg : g u with
  | none => simp
  | some F => rw [h u F.val (mapf_some hg)]; simp
set_option maxHeartbeats 8000000 in
set_option maxRecDepth 100000 in
theorem with_is (b n : Nat) (g : Int → Option FV) (v : Int) (w : World) (hM : MapT w b n g) (hn : n ≤ 4194304) (hX : ∀ u F, g u = some F → F.nk w ∧ F.L.length ≤ 4194304) :
    Calls Tryz.prog 26 #[.map (some b), .int .i64 v] w fun e w' => ∃ b2, e = .returned (.map (some b2)) ∧ MapT w' b2 n (fun u => (g u).filter fun F => stF v F.L) ∧ Below w.heap.size w w' := by
  have hmm := @run_makeMap Tryz.prog
  have hlt := hM.lt
  have HM0 := MapI.made w Tryz.prog 3
  have bM := xQ2 (w := w) (.map #[] 0)
  have hM1 := hM.later bM
  obtain ⟨wM, hwM⟩ : ∃ wM, w.alloc (.map #[] 0) = wM := ⟨_, rfl⟩
  have hszM : wM.heap.size = w.heap.size + 1 := by rw [← hwM]; simp
  rw [hwM] at HM0 bM hM1
  obtain ⟨b2, hb2⟩ : ∃ b2, w.heap.size = b2 := ⟨_, rfl⟩
  rw [hb2] at HM0 hszM hlt
  have hb2' := xQ1 hb2
  go_enter Tryz.func26, Tryz.ntmps26
  go_wp2_with (at_range; (try rw [hwM]); refine wpList_rng _ rfl _ 40 rfl xZ9 xZ7 b n (mapf g) rfl hM1 ?_; intro w1 cnt0 hR0 hcn hb1 hs1)
  try go_frame
  try rw [hb2]
  have hbb : Below w.heap.size w w1 := bM.trans (hb1.mono bM.size)
  have hm2 := HM0.later hb1
  have HX := xQ1 (fun u F (h : g u = some F) => And.intro ((hX u F h).1.later hbb) (hX u F h).2)
  obtain ⟨it, hitt⟩ : ∃ it, wM.heap.size = it := ⟨_, rfl⟩
  rw [hitt] at hR0 ⊢
  have hne : b ≠ b2 ∧ it ≠ b2 ∧ w.heap.size ≤ it ∧ w.heap.size ≤ b2 := by omega
  have J0 : WiI w w1 b b2 it n cnt0 g v (fun v => (mapf g v).isSome) cnt0 w1 := ⟨hbb, hR0, Nat.le_refl _, by rw [Nat.sub_self, wiF_begin]; exact hm2, Kc.refl _⟩
  have HN := xQ1 (And.intro hne hcn)
  clear hR0 hm2 hbb hX hb1 hM hM1 HM0 bM hwM hszM hlt hs1 hitt hb2 hne hcn hmm
  go_loopg [11] cnt0 (fun cnt v10 wq => ∃ left, WiI w w1 b b2 it n cnt0 g v left cnt wq)
  case atStart => exact ⟨_, J0⟩
  case round =>
    clear J0
    obtain ⟨left, hJ⟩ := hrel
    have hrg := hJ.rng
    have hJH := xQ1 hJ
    clear hJ
    go_wp2_with (at_next; refine wpList_nxt _ rfl _ rfl xZ9 b it n (mapf g) left gk rfl hrg ?_ ?_)
    · intro hdone
      have HZ := xQ1 (show MapT wr b2 n (fun u => (g u).filter fun F => stF v F.L) from by rw [← wiF_end hdone]; exact hJH.out.map.mono (by have := HN.out.2; omega))
      clear hdone hrg
      go_wp2
      go_ret
      exact ⟨b2, rfl, HZ.out, hJH.out.bel⟩
    · intro u x w2 cnt2 hfx hlx hrg2 hlt2 hg2 hs2 hen
      obtain ⟨F, hF, hxF⟩ : ∃ F, g u = some F ∧ x = F.val := by unfold mapf at hfx; cases hgv : g u with | none => rw [hgv] at hfx; cases hfx | some F => rw [hgv] at hfx; exact ⟨F, rfl, (Option.some.inj hfx).symm⟩
      subst hxF
      have hk2 : Kc wr w2 := hrg.step hg2
      have hB2 := hJH.out.bel.trans (hrg.bel hg2 (Nat.le_of_eq hs2.symm) HN.out.1.2.2.1)
      have hm2 := hJH.out.map.block (w' := w2) (hg2.block b2 hJH.out.map.lt (by have := HN.out.1.2.1; simpa using fun e : b2 = it => this e.symm))
      have hwu : wfI u := hrg2.map.key (mapf_some hF)
      have hFk := (HX.out u F hF).1.kc (hJH.out.kc.trans hk2)
      have HS := xQ1 (stands_is F v w2 hFk.ok (HX.out u F hF).2)
      have HNX := xQ1 (fun w3 (hb : Below w2.heap.size w2 w3) => show _ ∧ _ ∧ _ from And.intro (hB2.trans (hb.mono hB2.size)) (And.intro (hrg2.later _ hb) (hJH.out.kc.trans (hk2.trans (Kc.of hb)))))
      have HLE := xQ1 (And.intro hJH.out.le hlt2)
      have HF := xQ1 (And.intro hF hlx)
      clear hrg2 hs2 hg2 hfx hlx hrg hk2 hJH hB2 hFk hF
      obtain ⟨Fv, hFv⟩ : ∃ z, F.val = z := ⟨_, rfl⟩
      rw [hFv] at hen HS
      try rw [hFv]
      cases hd : stF v F.L
      · have HS2 := HS.out
        rw [hd] at HS2
        replace HS2 := xQ1 HS2
        have HW := xQ1 (wiF_no HF.out.1 HF.out.2 hd)
        clear HS hd
        go_wp2_with fail
        refine HS2.out.mono ?_
        rintro e w3 ⟨rfl, b3⟩
        have H3 := HNX.out w3 b3
        have hm3 := hm2.later b3
        clear HNX HS2 hm2 b3
        have HR := xQ1 (show WiI w w1 b b2 it n cnt0 g v _ cnt2 w3 from ⟨H3.1, H3.2.1, by have := HLE.out; omega, by rw [HW.out]; exact hm3.mono (by have := HLE.out; omega), H3.2.2⟩)
        clear H3 hm3
        go_wp2
        go_roundg cnt2
        case measure => exact HLE.out.2
        case rel => exact ⟨_, HR.out⟩
      · have HS2 := HS.out
        rw [hd] at HS2
        replace HS2 := xQ1 HS2
        have HW := xQ1 (wiF_yes HF.out.1 HF.out.2 hd)
        clear HS hd
        go_wp2_with fail
        refine HS2.out.mono ?_
        rintro e w3 ⟨rfl, b3⟩
        have H3 := HNX.out w3 b3
        have hm3 := hm2.later b3
        clear HNX HS2 hm2 b3
        have hkm : cnt0 - gk < maxLen := by have h1 := HN.out.2; simp only [maxLen]; omega
        go_wp2_with (at_mapUpdate; refine wpList_put _ rfl _ _ _ _ rfl xZ9 xZ7 b2 (cnt0 - gk) (mapf (wiF g v left)) rfl hm3 hkm u rfl hwu Fv rfl ?_; intro w4 hM4 hd4)
        have HR := xQ1 (show WiI w w1 b b2 it n cnt0 g v _ cnt2 w4 from ⟨H3.1.trans (hd4.below HN.out.1.2.2.2), H3.2.1.block _ (hd4.block b HN.out.1.1) (hd4.block it HN.out.1.2.1), by have := HLE.out; omega, by rw [HW.out]; rw [← hFv, mapf_put] at hM4; exact hM4.mono (by have := HLE.out; omega), H3.2.2.trans hd4.kc⟩)
        clear H3 hm3 hM4 hd4
        go_wp2
        go_roundg cnt2
        case measure => exact HLE.out.2
        case rel => exact ⟨_, HR.out⟩
theorem RF.col {w : World} {g : Int → Option FV} {T : Tb} (h : RF w g T) (v x : Int) : mapf (fun u => (g u).filter fun F => stF v F.L) x ≠ none ↔ ∃ f, lk T x = some f ∧ co v f ≠ 0 := by
  show Option.map FV.val ((g x).filter fun F => stF v F.L) ≠ none ↔ _
  cases hg : g x with
  | none =>
    rw [h.miss.1 hg]
    constructor
    · intro q; exact absurd rfl q
    · rintro ⟨f, q, _⟩; cases q
  | some F =>
    obtain ⟨f, hf, e⟩ := h.hit hg
    have hs := stF_co (v := v) (L := F.L) (f := f) e
    rw [hf]
    cases hb : stF v F.L with
    | false =>
      rw [hb] at hs
      rw [show (some F).filter (fun F => stF v F.L) = none from by simp [Option.filter, hb]]
      constructor
      · intro q; exact absurd rfl q
      · rintro ⟨f2, e2, h2⟩
        injection e2 with e2
        subst e2
        have := hs.2 h2
        cases this
    | true =>
      rw [show (some F).filter (fun F => stF v F.L) = some F from by simp [Option.filter, hb]]
      exact ⟨fun _ => ⟨f, rfl, hs.1 hb⟩, fun _ q => by cases q⟩
set_option maxHeartbeats 8000000 in
set_option maxRecDepth 100000 in
theorem pColumn_is (V : Int) (a : Option Addr) (c : Nat) (R : List RowV) (v : Int) (w : World) (hT : TIn w a R) (hc : R.length ≤ c) (hbu : bulT R ≤ 1048576) (hw : ∀ r ∈ R, wfo r.2.fo) (hv : wfI v) :
    Calls Tryz.prog 13 #[.agg #[.int .i64 V, .slice a R.length c], .int .i64 v] w (ClA w V (tb R) R.length v) := by
  obtain ⟨TQ, hTQ⟩ : ∃ TQ, ClA w V (tb R) R.length v = TQ := ⟨_, rfl⟩
  rw [hTQ]
  replace hTQ := xQ1 hTQ
  have hlen : 3 * R.length ≤ 1048576 := by have := bulT_len R; omega
  have HLen := xQ1 (fun (g : Int → Option FV) w' (h : RF w' g (tb R)) v F (hg : g v = some F) => show F.L.length ≤ 4194304 from by
      obtain ⟨f, hf, e⟩ := h.hit hg
      have h1 := lk_mem hf
      unfold tb at h1
      obtain ⟨s, hs, e2⟩ := List.mem_map.1 h1
      simp only [Prod.mk.injEq] at e2
      have h2 := congrArg List.length e
      unfold FV.fo at h2
      rw [xX3, ← e2.2] at h2
      have h3 := xJ0 s.2.fo
      have h4 := bulT_mem hs
      have h5 := bul_len s.2.L
      unfold FV.fo at h3
      rw [xX3] at h3
      unfold FV.fo at h2
      omega)
  have GR := xQ1 (fun w' (hb9 : Below w.heap.size w w') => tabRead_is V a c R w' (hT.later hb9) hc hbu hw)
  have GI := xQ1 (fun w' => isVar_is v V w')
  clear hT hw
  have b1 := xQ2 (w := w) (.cells #[.int .i64 V, .slice a R.length c] 24)
  have m0 : (w.alloc (.cells #[.int .i64 V, .slice a R.length c] 24)).cell? ⟨w.heap.size, 0, none⟩ = some (.int .i64 V) := by go_simp
  have m1 : (w.alloc (.cells #[.int .i64 V, .slice a R.length c] 24)).cell? ⟨w.heap.size, 1, none⟩ = some (.slice a R.length c) := by go_simp
  have hBw := b1
  clear b1
  go_enter Tryz.func13, Tryz.ntmps13
  go_wp2_with fail
  obtain ⟨wA, hwA⟩ : ∃ wA, (w.alloc (.cells #[.int .i64 V, .slice a R.length c] 24)) = wA := ⟨_, rfl⟩
  rw [hwA] at m0 m1 hBw ⊢
  clear hwA
  refine (GR.out _ hBw).mono ?_
  rintro e w1 ⟨b1, ⟨hmb, rfl⟩ | ⟨hmb, b, g, rfl, hbb, hM, hRF⟩⟩
  · have hB := hBw.trans (b1.mono hBw.size)
    clear GR GI
    have HX := xQ1 (show ClA w V (tb R) R.length v (.returned (.tuple #[.slice none 0 0, .int .i64 70])) _ from ⟨hB, Or.inl ⟨hmb, rfl⟩⟩)
    rw [hTQ.out] at HX
    go_wp2
    first | exact HX.out | (go_ret; exact HX.out) | (refine bodyPost_ret (v := .tuple #[.slice none 0 0, .int .i64 70]) (by rw [results_tt rfl]; go_simp) rfl ?_; exact HX.out)
  · have hB := hBw.trans (b1.mono hBw.size)
    replace m0 := xQ0 b1 m0
    have HMB := xQ1 hmb
    have HRF := xQ1 hRF
    have HD := xQ1 (GI.out w1)
    clear GR GI hmb hRF b1 hBw
    cases hd : (decide (0 ≤ v) && decide (v < V)) with
    | false =>
      have HD2 := HD.out
      rw [hd] at HD2
      replace HD2 := xQ1 HD2
      have HIn := xQ1 (show ¬ (0 ≤ v ∧ v < V) from by intro h; simp [h.1, h.2] at hd)
      clear hd HD
      go_wp2_with fail
      refine HD2.out.mono ?_
      rintro e w2 ⟨rfl, hw2⟩
      subst hw2
      have HX := xQ1 (show ClA w V (tb R) R.length v (.returned (.tuple #[.slice none 0 0, .int .i64 61])) _ from ⟨hB, Or.inr (Or.inl ⟨HMB.out, HIn.out, rfl⟩)⟩)
      rw [hTQ.out] at HX
      go_wp2
      first | exact HX.out | (go_ret; exact HX.out) | (refine bodyPost_ret (v := .tuple #[.slice none 0 0, .int .i64 61]) (by rw [results_tt rfl]; go_simp) rfl ?_; exact HX.out)
    | true =>
      have HD2 := HD.out
      rw [hd] at HD2
      replace HD2 := xQ1 HD2
      have HIn := xQ1 (show (0 ≤ v ∧ v < V) from by simpa using hd)
      clear hd HD
      cases hg : g v with
      | some G =>
        have hrr := mapf_some hg
        have HL := xQ1 (show lk (tb R) v ≠ none from fun q => by rw [HRF.out.miss.2 q] at hg; cases hg)
        clear hg
        go_wp2_with fail
        refine HD2.out.mono ?_
        rintro e w2 ⟨rfl, hw2⟩
        subst hw2
        go_wp2_with (at_lookup; refine xZ3 _ rfl _ _ 40 true rfl xZ9 xZ7 (zeroF _) b R.length (mapf g) rfl hM v rfl hv (some G.val) hrr ?_)
        have HX := xQ1 (show ClA w V (tb R) R.length v (.returned (.tuple #[.slice none 0 0, .int .i64 71])) _ from ⟨hB, Or.inr (Or.inr (Or.inl ⟨HMB.out, HIn.out, HL.out, rfl⟩))⟩)
        rw [hTQ.out] at HX
        go_wp2
        first | exact HX.out | (go_ret; exact HX.out) | (refine bodyPost_ret (v := .tuple #[.slice none 0 0, .int .i64 71]) (by rw [results_tt rfl]; go_simp) rfl ?_; exact HX.out)
      | none =>
        have hrr := mapf_none hg
        have HL := xQ1 (HRF.out.miss.1 hg)
        have GW := xQ1 (with_is b R.length g v w1 hM (by omega) (fun u F h => ⟨HRF.out.nk u F h, HLen.out g w1 HRF.out u F h⟩))
        clear hg
        go_wp2_with fail
        refine HD2.out.mono ?_
        rintro e w2 ⟨rfl, hw2⟩
        subst hw2
        go_wp2_with (at_lookup; refine xZ3 _ rfl _ _ 40 true rfl xZ9 xZ7 (zeroF _) b R.length (mapf g) rfl hM v rfl hv none hrr ?_)
        try go_wp2_with fail
        refine GW.out.mono ?_
        rintro e w3 ⟨b2, rfl, hM2, b3⟩
        have hB3 := hB.trans (b3.mono hB.size)
        clear GW hM hrr b3 HD2
        have GB := xQ1 (basics_is w3 b2 R.length _ hM2 (by omega))
        go_wp2_with fail
        refine GB.out.mono ?_
        rintro e w4 ⟨v4, s, rfl, hO, hp, hl, hmem⟩
        obtain ⟨a2, c2, rfl, hc2, hcell⟩ := own_keys hO
        have hB4 := hB3.trans (hO.2.mono hB3.size)
        have HI := xQ1 (own_IAt hcell)
        have HK := xQ1 (fun x => show x ∈ s ↔ ∃ f, lk (tb R) x = some f ∧ co v f ≠ 0 from (hmem x).trans (HRF.out.col v x))
        clear hO hcell hmem GB hM2
        have HX := xQ1 (show ClA w V (tb R) R.length v (.returned (.tuple #[.slice a2 s.length c2, .int .i64 0])) _ from ⟨hB4, Or.inr (Or.inr (Or.inr ⟨HMB.out, HIn.out, HL.out, a2, c2, s, rfl, HI.out, hc2, hl, hp, HK.out⟩))⟩)
        rw [hTQ.out] at HX
        go_wp2
        first | exact HX.out | (go_ret; exact HX.out) | (refine bodyPost_ret (v := .tuple #[.slice a2 s.length c2, .int .i64 0]) (by rw [results_tt rfl]; go_simp) rfl ?_; exact HX.out)
theorem cell_ltA {a : World} {ad : Addr} {u : Value} (hc : a.cell? ad = some u) : ad.block < a.heap.size := by
  rcases Nat.lt_or_ge ad.block a.heap.size with h | h
  · exact h
  · unfold World.cell? at hc
    rw [Array.getElem?_eq_none h] at hc
    simp at hc
theorem But.kc {q : Nat} {a b : World} (h : But q a b) (hq : ∀ ad u, a.cell? ad = some u → ad.block ≠ q) : Kc a b := ⟨h.size, fun ad u hc => (World.cell?_of_block (w := a) (h.block _ (cell_ltA hc) (hq _ _ hc))).trans hc⟩
theorem empty_no {w : World} {q : Nat} {t : TypeId} {fr : Nat × Nat} (h : w.heap[q]? = some (.cells #[] t fr)) : ∀ ad u, w.cell? ad = some u → ad.block ≠ q := fun ad u hc e => by
  unfold World.cell? at hc
  rw [e, h] at hc
  simp at hc
theorem sgn_rat (r : Rat) : (sgn (rn (ng r.num) (am r.num) r.den) = 0 ∧ r = 0) ∨ ((sgn (rn (ng r.num) (am r.num) r.den) = 1 ∨ sgn (rn (ng r.num) (am r.num) r.den) = -1) ∧ r ≠ 0) := by
  rw [rn_nf (by have := r.den_pos; omega)]
  by_cases h : r.num = 0
  · left
    exact ⟨by rw [h]; rfl, Rat.num_eq_zero.1 h⟩
  · right
    refine ⟨?_, fun e => h (by rw [e]; rfl)⟩
    unfold sgn
    by_cases h2 : r.num < 0
    · rw [if_pos h2]; exact Or.inr rfl
    · rw [if_neg h2, if_neg h]; exact Or.inl rfl
def colR (v : Int) (S : List RowV) : List Int := ksR (S.filter fun r => decide (co v r.2.fo ≠ 0))
theorem colR_snoc {v : Int} {S : List RowV} {k : Nat} {r : RowV} (h : S[k]? = some r) : colR v (S.take (k + 1)) = if co v r.2.fo = 0 then colR v (S.take k) else colR v (S.take k) ++ [r.1] := by
  rw [take_snoc h]
  unfold colR ksR
  rw [List.filter_append, List.map_append]
  by_cases e : co v r.2.fo = 0
  · rw [if_pos e]; simp [List.filter, e]
  · rw [if_neg e]; simp [List.filter, e]
theorem colR_len (v : Int) (S : List RowV) : (colR v S).length ≤ S.length := by
  unfold colR ksR
  rw [List.length_map]
  exact List.length_filter_le _ _
theorem colR_rise {v : Int} {S : List RowV} (h : rising S) : (colR v S).Pairwise (· < ·) := ks_rise (S := S.filter fun r => decide (co v r.2.fo ≠ 0)) (List.Pairwise.sublist List.filter_sublist h)
theorem colR_mem {T : Tb} {S : List RowV} {v : Int} (h : NrmT T (tb S)) (hr : rising S) (x : Int) : x ∈ colR v S ↔ ∃ f, lk T x = some f ∧ co v f ≠ 0 := by
  have key : ∀ r ∈ S, ∃ f, lk T r.1 = some f ∧ r.2.fo = nfm f := fun r hm => by
    have h1 := h.same r.1
    rw [tb_lk, lk_of_mem (v := r.1) (f := r.2) hr.once hm] at h1
    cases hl : lk T r.1 with
    | none => rw [hl] at h1; cases h1
    | some f => rw [hl] at h1; exact ⟨f, rfl, Option.some.inj h1⟩
  unfold colR ksR
  rw [List.mem_map]
  constructor
  · rintro ⟨r, hm, rfl⟩
    obtain ⟨h1, h2⟩ := List.mem_filter.1 hm
    obtain ⟨f, e1, e2⟩ := key r h1
    exact ⟨f, e1, by rw [← nfm_co v f, ← e2]; simpa using h2⟩
  · rintro ⟨f, e1, e2⟩
    have h1 := h.same x
    rw [e1, tb_lk] at h1
    cases hl : lk S x with
    | none => rw [hl] at h1; cases h1
    | some F =>
      rw [hl] at h1
      have e3 : F.fo = nfm f := Option.some.inj h1
      exact ⟨(x, F), List.mem_filter.2 ⟨lk_mem hl, by simp only [decide_eq_true_eq]; rw [e3, nfm_co]; exact e2⟩, rfl⟩
theorem row_sh {w w2 : World} {a : Option Addr} {R S : List RowV} (hT : TSm w a R) (h : NrmT (tb R) (tb S)) (hr : rising S) (hS : ∀ r ∈ S, r.2.nk w2) : ∀ r ∈ S, (∀ p ∈ r.2.L, EntS w2 p) ∧ wts r.2.fo + 1 ≤ 1099511627776 ∧ r.2.L.length ≤ 1048576 := fun r hm => by
  have h1 := h.same r.1
  rw [tb_lk, lk_of_mem (v := r.1) (f := r.2) hr.once hm, tb_lk] at h1
  cases hl : lk R r.1 with
  | none => rw [hl] at h1; cases h1
  | some F =>
    rw [hl] at h1
    have e3 : r.2.fo = nfm F.fo := Option.some.inj h1
    have hmF := lk_mem hl
    have hf := hT.tin.forms _ hmF
    have b1 := bulT_mem hmF
    have b2 := hT.b
    have b3 := bul_bulkL F.L
    have b4 := wts_bulk F.L hf.nums
    have b5 := bul_len F.L
    have b6 : F.fo.length = F.L.length := xX3 _
    have b7 := xJ0 F.fo
    have b8 := wts_nfm F.fo
    have b9 : r.2.fo.length = r.2.L.length := xX3 _
    simp only at b1
    change wts F.fo ≤ _ at b4
    exact ⟨entS_of (N := 1099511627776) (hS r hm).en e3 (by omega) (Nat.le_refl _), by rw [e3]; omega, by rw [← b9, e3]; omega⟩
set_option maxHeartbeats 16000000 in
set_option maxRecDepth 100000 in
theorem rColumn_is (V : Int) (a : Option Addr) (c : Nat) (R : List RowV) (v : Int) (w : World) (hT : TSm w a R) (hc : R.length ≤ c) :
    Calls Tryz.prog 14 #[.agg #[.int .i64 V, .slice a R.length c], .int .i64 v] w (ClA w V (tb R) R.length v) := by
  obtain ⟨i0, hi0, hz0, hz1, hz2⟩ := info_parts info_int
  obtain ⟨TQ, hTQ⟩ : ∃ TQ, ClA w V (tb R) R.length v = TQ := ⟨_, rfl⟩
  rw [hTQ]
  replace hTQ := xQ1 hTQ
  have hlen := hT.len
  have GC := xQ1 (fun w' (hb : Below w.heap.size w w') => rCheck_is V a c R w' (hT.later hb) hc)
  have GI := xQ1 (fun w' => ris_is V v a R.length c w')
  have GX := xQ1 (fun w' (hb : Below w.heap.size w w') => rrow_is V v a c R w' ((hT.later hb).tin.at_) hc (by omega))
  have GS := xQ1 (fun w' (hb : Below w.heap.size w w') (h : mayBe V (tb R)) => rsorted_is V a c R w' (hT.later hb) hc h)
  have HSh := xQ1 (fun (S : List RowV) w2 (h : NrmT (tb R) (tb S)) (hr : rising S) (hS : ∀ r ∈ S, r.2.nk w2) => row_sh hT h hr hS)
  clear hT
  have b1 := xQ2 (w := w) (.cells #[.int .i64 V, .slice a R.length c] 24)
  have m0 : (w.alloc (.cells #[.int .i64 V, .slice a R.length c] 24)).cell? ⟨w.heap.size, 0, none⟩ = some (.int .i64 V) := by go_simp
  have m1 : (w.alloc (.cells #[.int .i64 V, .slice a R.length c] 24)).cell? ⟨w.heap.size, 1, none⟩ = some (.slice a R.length c) := by go_simp
  have hBw := b1
  clear b1
  go_enter Tryz.func14, Tryz.ntmps14
  go_wp2_with fail
  obtain ⟨wA, hwA⟩ : ∃ wA, (w.alloc (.cells #[.int .i64 V, .slice a R.length c] 24)) = wA := ⟨_, rfl⟩
  rw [hwA] at m0 m1 hBw ⊢
  clear hwA
  refine (GC.out _ hBw).mono ?_
  rintro e w1 ⟨b1, ⟨hmb, rfl⟩ | ⟨hmb, rfl⟩⟩
  · have hB := hBw.trans (b1.mono hBw.size)
    replace m0 := xQ0 b1 m0
    replace m1 := xQ0 b1 m1
    have HMB := xQ1 hmb
    have HD := xQ1 (GI.out w1)
    clear GC GI hmb b1 hBw
    cases hd : (decide (0 ≤ v) && decide (v < V)) with
    | false =>
      have HD2 := HD.out
      rw [hd] at HD2
      replace HD2 := xQ1 HD2
      have HIn := xQ1 (show ¬ (0 ≤ v ∧ v < V) from by intro h; simp [h.1, h.2] at hd)
      clear hd HD
      go_wp2_with fail
      refine HD2.out.mono ?_
      rintro e w2 ⟨rfl, b2⟩
      have hB2 := hB.trans (b2.mono hB.size)
      have HX := xQ1 (show ClA w V (tb R) R.length v (.returned (.tuple #[.slice none 0 0, .int .i64 61])) _ from ⟨hB2, Or.inr (Or.inl ⟨HMB.out, HIn.out, rfl⟩)⟩)
      rw [hTQ.out] at HX
      go_wp2
      first | exact HX.out | (go_ret; exact HX.out) | (refine bodyPost_ret (v := .tuple #[.slice none 0 0, .int .i64 61]) (by rw [results_tt rfl]; go_simp) rfl ?_; exact HX.out)
    | true =>
      have HD2 := HD.out
      rw [hd] at HD2
      replace HD2 := xQ1 HD2
      have HIn := xQ1 (show (0 ≤ v ∧ v < V) from by simpa using hd)
      clear hd HD
      rcases ix_cases R v with ⟨hx, hl⟩ | ⟨k, F, hk, hx, hat, hl, _⟩
      · skip
        have HL := xQ1 (show lk (tb R) v = none from by rw [tb_lk, hl]; rfl)
        have GX2 := xQ1 (fun w' hb => GX.out w' hb)
        rw [hx] at GX2
        clear GX hl hx
        go_wp2_with fail
        refine HD2.out.mono ?_
        rintro e w2 ⟨rfl, b2⟩
        have hB2 := hB.trans (b2.mono hB.size)
        replace m0 := xQ0 b2 m0
        replace m1 := xQ0 b2 m1
        clear b2 HD2 hB
        go_wp2_with fail
        refine (GX2.out _ hB2).mono ?_
        rintro e w3 ⟨rfl, b3⟩
        have hB3 := hB2.trans (b3.mono hB2.size)
        replace m0 := xQ0 b3 m0
        replace m1 := xQ0 b3 m1
        clear b3 hB2
        have hO0 := own_empty w3 3
        have bE := xQ2 (w := w3) (.cells #[] 3)
        have hEm := new7 w3 #[] 3
        have hszE : (w3.alloc (.cells #[] 3)).heap.size = w3.heap.size + 1 := by simp
        obtain ⟨wE, hwE⟩ : ∃ wE, w3.alloc (.cells #[] 3) = wE := ⟨_, rfl⟩
        rw [hwE] at hO0 bE hszE hEm
        replace m0 := xQ0 bE m0
        replace m1 := xQ0 bE m1
        have hB4 := hB3.trans (bE.mono hB3.size)
        go_wp2_with (rw [hwE])
        refine (GS.out _ hB4 HMB.out).mono ?_
        rintro e w4 ⟨v9, S, rfl, ⟨⟨ar, cr, rfl, hn, hl, hf⟩, hb2, hr⟩, hN, hSl⟩
        clear GS hwE GX2
        have HSl := xQ1 hSl
        have hSm : S.length ≤ 1048576 := by omega
        clear hSl
        have HSS := xQ1 (HSh.out S w4 hN hr (fun r hm => hn.forms r hm))
        clear HSh
        have bS := xQ2 (w := w4) (.cells #[.int .i64 V, .slice ar S.length cr] 24)
        have kS := Bk2.new w4 V ar S.length cr 24
        obtain ⟨wS, hwS⟩ : ∃ wS, w4.alloc (.cells #[.int .i64 V, .slice ar S.length cr] 24) = wS := ⟨_, rfl⟩
        rw [hwS] at bS kS
        have bES := hb2.trans (bS.mono hb2.size)
        have hO1 := xQ6 (xQ6 hO0 hb2) bS
        have hn1 := hn.at_.later bS
        have hB5 := hB4.trans (bES.mono hB4.size)
        have HNk := xQ1 (fun r (hm : r ∈ S) => (hn.forms r hm).later bS)
        have HEm := xQ1 (empty_no (t := 3) (fr := (0, 0)) ((bES.block _ (by omega)).trans hEm))
        have I0 : LInv w3 (colR v (S.take 0)) (.slice (some ⟨w3.heap.size, 0, none⟩) 0 0) wS := ⟨hO1, bE.trans (bES.mono bE.size)⟩
        have d1 := kS.cell1
        have hs2 := hb2.size
        have hsS := bS.size
        have HS4 := xQ1 (show Below w4.heap.size w4 wS from bS)
        clear hO0 bE hO1 hn m0 m1 hb2 bS hEm
        go_wp2_with (rw [hwS])
        clear hwS
        go_loopw [7, 9] (fun vo vi wr => ∃ k : Nat, k ≤ S.length ∧ vi = .int .i64 k ∧ But w3.heap.size wS wr ∧ LInv w3 (colR v (S.take k)) vo wr ∧ ∀ j, vo.ownBlock = some j → j = w3.heap.size ∨ wS.heap.size ≤ j) (fun _ vi _ => S.length - (intOf vi).toNat)
        case atStart => exact ⟨0, Nat.zero_le _, rfl, But.refl _ _, I0, fun j hj => Or.inl (by simp [Value.ownBlock] at hj; exact hj.symm)⟩
        case round =>
          clear I0
          obtain ⟨k, hk, rfl, hBS, ⟨hO, hBw1⟩, hown⟩ := hrel
          have n1 := hBS.cell d1 (by omega)
          by_cases hlt : k < S.length
          · obtain ⟨r, hr3⟩ : ∃ r, S[k]? = some r := ⟨S[k], List.getElem?_eq_getElem hlt⟩
            obtain ⟨bb, off, rfl, hbb, hcell⟩ := hn1 (by intro e; rw [e] at hlt; simp at hlt)
            have hrm := List.mem_of_getElem? hr3
            have hbe : bb ≠ w3.heap.size := by have := hf _ rfl (by intro e; rw [e] at hlt; simp at hlt); simp only at this; omega
            have c0 := hBS.cell (hcell k r hr3).1 hbe
            have c1 := hBS.cell (hcell k r hr3).2 hbe
            have hv := xQ1 (colR_snoc (v := v) hr3)
            have hkc := hBS.kc HEm.out
            have hX := (HNk.out r hrm).kc hkc
            have hsh := HSS.out r hrm
            have GCo := xQ1 (vlCoef_is r.2.a r.2.c r.2.L v wr hX.sl.lies (fun p hp => ⟨(hX.en p hp).ok, (hsh.1 p hp).ln1, (hsh.1 p hp).ln2⟩) hX.sl.len hsh.2.2 hsh.2.1)
            have hsz := co_sz v r.2.fo
            have hrs := sgn_rat (co v (fo r.2.L))
            have GSg := xQ1 (fun p q w' (s1 : Seg w' p (am (co v (fo r.2.L)).num) (ln (am (co v (fo r.2.L)).num))) (s2 : Seg w' q (co v (fo r.2.L)).den (ln (co v (fo r.2.L)).den)) => vqSign_is (ng (co v (fo r.2.L)).num) p _ _ _ q _ _ _ _ w' (Nat.le_refl _) (by have h1 := hsz.1; have h2 := hsh.2.1; change wts r.2.fo + 1 ≤ _ at h2; exact Nat.le_trans h1 (by omega)) s1 (Nat.le_refl _) (by have h1 := hsz.2; have h2 := hsh.2.1; change wts r.2.fo + 1 ≤ _ at h2; exact Nat.le_trans h1 (by omega)) s2 rfl)
            obtain ⟨x, Xa, Xc, XL⟩ := r
            unfold FV.val at c1
            simp only at c0 c1 hv GCo GSg hrs
            change Hid (colR v (S.take (k + 1)) = if co v (fo XL) = 0 then _ else _) at hv
            obtain ⟨rr, hrr⟩ : ∃ rr, co v (fo XL) = rr := ⟨_, rfl⟩
            rw [hrr] at hv GCo GSg hrs
            clear hcell hr3 hkc hX hsh hsz hrm hrr
            have i1 : (0 : Int) ≤ (k : Int) := by omega
            have i2 : (k : Int) < (S.length : Int) := by omega
            obtain ⟨zs, hzs⟩ : ∃ zs, colR v (S.take k) = zs := ⟨_, rfl⟩
            rw [hzs] at hO hv
            have hzl : zs.length ≤ 2097152 := by rw [← hzs]; have := colR_len v (S.take k); rw [List.length_take] at this; omega
            clear hzs
            replace hrs := xQ1 hrs
            go_wp2_with fail
            refine GCo.out.mono ?_
            rintro e u1 ⟨p, q, rfl, bu1, s1, s2, _, _⟩
            clear GCo
            have GS2 := xQ1 (GSg.out p q u1 s1 s2)
            clear GSg s1 s2
            obtain ⟨C, hC⟩ : ∃ C, sgn (rn (ng rr.num) (am rr.num) rr.den) = C := ⟨_, rfl⟩
            have hrs2 := hrs.out
            rw [hC] at GS2 hrs2
            replace hrs2 := xQ1 hrs2
            clear hC hrs
            go_wp2_with fail
            refine GS2.out.mono ?_
            rintro e u2 ⟨rfl, bu2⟩
            have bu := bu1.trans (bu2.mono bu1.size)
            have hBS2 := hBS.below bu
            have hO2 := xQ6 hO bu
            have hBw2 := hBw1.trans (bu.mono hBw1.size)
            replace n1 := xQ0 bu n1
            replace c0 := xQ0 bu c0
            clear bu1 bu2 bu hBS hO hBw1 c1 GS2
            rcases hrs2.out with ⟨rfl, hz⟩ | ⟨hCC, hz⟩
            · have hv2 := hv.out
              rw [if_pos hz] at hv2
              have HV := xQ1 hv2
              clear hv hv2 hrs2 hz
              have I1 := xQ1 (show LInv w3 zs u7 u2 from ⟨hO2, hBw2⟩)
              have I2 := xQ1 hBS2
              have I3 := xQ1 hown
              clear hO2 hBw2 hBS2 hown
              go_wp2
              go_roundw
              case rel => exact ⟨k + 1, by omega, by go_num, I2.out, by rw [HV.out]; exact I1.out, I3.out⟩
              case measure => simp [intOf]; omega
            · have hv2 := hv.out
              rw [if_neg hz] at hv2
              have HV := xQ1 hv2
              have hC0 : (C != 0) = true := by rcases hCC with rfl | rfl <;> rfl
              clear hv hv2 hrs2 hz hCC
              obtain ⟨wB, hwB⟩ : ∃ wB, u2.alloc (.cells #[.int .i64 x] 3) = wB := ⟨_, rfl⟩
              have hnew := heap_alloc_new u2 (.cells #[.int .i64 x] 3)
              have b3 := xQ2 (w := u2) (.cells #[.int .i64 x] 3)
              rw [hwB] at hnew b3
              have hO3 := xQ6 hO2 b3
              have s3 := b3.size
              have s4 := hBw2.size
              have hbB : w3.heap.size ≤ wB.heap.size := by omega
              have hbl : (zs.length + 1) * 8 ≤ 140737488355328 := by omega
              have hrow := fun k hk => (hO2.lt k hk)
              go_wp2_with (at_builtin; (try rw [hwB]); refine wpList_append_lies _ (by rfl) _ _ _ (by rfl) w3.heap.size 3 i0 _ 1 8 Tryz.underlying32 hi0 hz0 hz1 hz2 rfl (by omega) u7 zs.length (iv zs) (by rfl) hO3 ⟨u2.heap.size, 0, none⟩ 1 1 [.int .i64 x] (by rfl) (by rfl) (World.news_of_block (cs := #[.int .i64 x]) (t := 3) (fr := (0, 0)) hnew) (by simp [Value.oneCell']) (by omega) (by simp only [maxLen]; omega) hbl hbB wB.heap.size rfl ?_)
              intro gb cap w9 hown4 hgrow hat hlt4
              have hB9 := hBw2.trans (b3.mono hBw2.size)
              have b9 := xQ8 hB9.size (fun k hk => (hrow k hk).1) hgrow
              have I1 : LInv w3 (zs ++ [x]) (.slice (some ⟨gb, 0, none⟩) (zs.length + 1) cap) w9 := ⟨by rw [List.length_append, iv_append]; exact hown4, hB9.trans b9⟩
              have I2 : But w3.heap.size wS w9 := (hBS2.below b3).grown2 hgrow hown
              have hs5 := hBS2.size
              have I3 : ∀ j, (Value.slice (some ⟨gb, 0, none⟩) (zs.length + 1) cap).ownBlock = some j → j = w3.heap.size ∨ wS.heap.size ≤ j := fun j hj => by
                  have e : gb = j := by simpa [Value.ownBlock] using hj
                  subst e
                  rcases hat with h | h
                  · exact hown _ h
                  · exact Or.inr (by omega)
              replace I1 := xQ1 I1
              replace I2 := xQ1 I2
              replace I3 := xQ1 I3
              clear hown4 hgrow hat hnew b3 hO3 hB9 b9 hrow s3 hbB hbl hO2 hBS2 hown
              go_wp2
              go_roundw
              case rel => exact ⟨k + 1, by omega, by go_num, I2.out, by rw [HV.out]; exact I1.out, I3.out⟩
              case measure => simp [intOf]; omega
          · obtain rfl : k = S.length := by omega
            have i1 : ¬ (S.length : Int) < (S.length : Int) := by omega
            rw [List.take_length] at hO
            obtain ⟨ai, ci, rfl, hci, hI⟩ := own_ints hO
            have hB9 := hB3.trans (hBw1.mono hB3.size)
            have hkl2 : (colR v S).length ≤ R.length := Nat.le_trans (colR_len v S) (Nat.le_of_eq HSl.out)
            clear hO
            have HX := xQ1 (show ClA w V (tb R) R.length v (.returned (.tuple #[.slice ai (colR v S).length ci, .int .i64 0])) _ from ⟨hB9, Or.inr (Or.inr (Or.inr ⟨HMB.out, HIn.out, HL.out, ai, ci, colR v S, rfl, hI, hci, hkl2, colR_rise hr, colR_mem hN hr⟩))⟩)
            rw [hTQ.out] at HX
            go_wp2
            first | exact HX.out | (go_ret; exact HX.out) | (refine bodyPost_ret (v := .tuple #[.slice ai (colR v S).length ci, .int .i64 0]) (by rw [results_tt rfl]; go_simp) rfl ?_; exact HX.out)
      · skip
        have HL := xQ1 (show lk (tb R) v = some F.fo from by rw [tb_lk, hl]; rfl)
        have GX2 := xQ1 (fun w' hb => GX.out w' hb)
        rw [hx] at GX2
        clear GX hl hx
        go_wp2_with fail
        refine HD2.out.mono ?_
        rintro e w2 ⟨rfl, b2⟩
        have hB2 := hB.trans (b2.mono hB.size)
        replace m0 := xQ0 b2 m0
        replace m1 := xQ0 b2 m1
        clear b2 HD2 hB
        have j2 : (k : Int) ≥ 0 := by omega
        go_wp2_with fail
        refine (GX2.out _ hB2).mono ?_
        rintro e w3 ⟨rfl, b3⟩
        have hB3 := hB2.trans (b3.mono hB2.size)
        replace m0 := xQ0 b3 m0
        replace m1 := xQ0 b3 m1
        clear b3 hB2
        have HX := xQ1 (show ClA w V (tb R) R.length v (.returned (.tuple #[.slice none 0 0, .int .i64 71])) _ from ⟨hB3, Or.inr (Or.inr (Or.inl ⟨HMB.out, HIn.out, by rw [HL.out]; simp, rfl⟩))⟩)
        rw [hTQ.out] at HX
        go_wp2
        first | exact HX.out | (go_ret; exact HX.out) | (refine bodyPost_ret (v := .tuple #[.slice none 0 0, .int .i64 71]) (by rw [results_tt rfl]; go_simp) rfl ?_; exact HX.out)
  · have hB := hBw.trans (b1.mono hBw.size)
    clear GC GS GI GX HSh
    have HX := xQ1 (show ClA w V (tb R) R.length v (.returned (.tuple #[.slice none 0 0, .int .i64 70])) _ from ⟨hB, Or.inl ⟨hmb, rfl⟩⟩)
    rw [hTQ.out] at HX
    go_wp2
    first | exact HX.out | (go_ret; exact HX.out) | (refine bodyPost_ret (v := .tuple #[.slice none 0 0, .int .i64 70]) (by rw [results_tt rfl]; go_simp) rfl ?_; exact HX.out)
open Go.ChangeShapes Go.WideShapes Go.ChangeAt Go.RowKit Go.Deep
set_option maxRecDepth 100000 in
theorem open_Int2B {H : Type} {enc : TypeId × Value → H} {W : World} {c0 c1 : Value} {d : DataW H} {p : List MemPlace}
    (h : DataW.Trod enc Tryz.prog W 0 (fun _ => true) true 53 (.agg #[c0, c1]) d p)
    (hsz : (d.weights Tryz.prog 53).all (· ≤ reachBytes) = true) :
    ∃ s a len cap X, c0 = .bool s ∧ c1 = .slice a len cap ∧ Seg W a X len ∧ len ≤ cap ∧ len ≤ 35184372087808 ∧ len + 3 ≤ Rows.uptoBulk d := by
  obtain ⟨fuel, hf⟩ := h
  obtain ⟨y0, y1, n, hx, hl, h0, h1⟩ := trod_struct2 Tryz.underlying53 hf
  simp only [Value.cells, List.drop_zero, cells_bool, cells_nat] at h0 h1
  change DataW.trod enc _ _ _ _ _ n 4 [c0] = _ at h0
  change DataW.trod enc _ _ _ _ _ n 51 [c1] = _ at h1
  obtain ⟨b', hb, hx0⟩ := DataW.trod_bool Tryz.underlying4 h0
  simp only [List.cons.injEq, and_true] at hb
  subst hb hx0
  simp only [Prod.mk.injEq] at hx
  obtain ⟨rfl, rfl⟩ := hx
  have hc1 : ∃ a len cap, c1 = .slice a len cap := by
    rcases open_ints xZ6 Tryz.underlying89 (by kernel_rfl) h1 with ⟨hcs, _⟩ | ⟨x, l, c, zs, hcs, _⟩
    · simp at hcs; exact ⟨_, _, _, hcs⟩
    · simp at hcs; exact ⟨_, _, _, hcs⟩
  obtain ⟨a, len, cap, rfl⟩ := hc1
  obtain ⟨y1d, y1p⟩ := y1
  obtain ⟨X, hS, hc, hb, hu⟩ := open_nat (len := len) (cap := cap) (a := a) (d := y1d) (p := y1p) xZ6 ⟨n, h1⟩ (fun elems spare e => by
    have e' : y1d = .slice elems spare := e
    subst e'
    have hu := Tryz.underlying53
    simp only [DataW.weights, hu, DataW.weightsEach, List.map] at hsz
    simp only [List.all_append, Bool.and_eq_true] at hsz
    have h2 := hsz.2.1
    simp only [xZ6] at h2
    simp only [List.all_cons, Bool.and_eq_true, decide_eq_true_eq] at h2
    exact h2.1)
  exact ⟨b', a, len, cap, X, rfl, rfl, hS, hc, hb, by simp only [Rows.uptoBulk, Rows.uptoBulkAll] at hu ⊢; omega⟩
set_option maxRecDepth 100000 in
theorem open_Rat3B {H : Type} {enc : TypeId × Value → H} {W : World} {c0 c1 c2 : Value} {d : DataW H} {p : List MemPlace} {fuel : Nat}
    (hf : DataW.trod enc Tryz.prog W 0 (fun _ => true) true fuel 55 [c0, c1, c2] = some (d, p))
    (hsz : (d.weights Tryz.prog 55).all (· ≤ reachBytes) = true) :
    ∃ q : RatV, c0 = .bool q.s ∧ c1 = .slice q.a q.n q.c ∧ c2 = .slice q.b q.m q.e ∧ q.ok W ∧ q.n + q.m + 5 ≤ Rows.uptoBulk d := by
  obtain ⟨y0, y1, n, hx, hl, h0, h1⟩ := trod_struct2 Tryz.underlying55 hf
  simp only [List.drop_zero, cells_Int, cells_nat] at h0 h1
  change DataW.trod enc _ _ _ _ _ n 53 [c0, c1] = _ at h0
  change DataW.trod enc _ _ _ _ _ n 51 [c2] = _ at h1
  simp only [Prod.mk.injEq] at hx
  obtain ⟨rfl, rfl⟩ := hx
  have hc2 : ∃ a len cap, c2 = .slice a len cap := by
    rcases open_ints xZ6 Tryz.underlying89 (by kernel_rfl) h1 with ⟨hcs, _⟩ | ⟨x, l, c, zs, hcs, _⟩
    · simp at hcs; exact ⟨_, _, _, hcs⟩
    · simp at hcs; exact ⟨_, _, _, hcs⟩
  obtain ⟨b, m, e, rfl⟩ := hc2
  obtain ⟨y0d, y0p⟩ := y0
  obtain ⟨y1d, y1p⟩ := y1
  have hu := Tryz.underlying55
  simp only [DataW.weights, hu, DataW.weightsEach, List.map] at hsz
  simp only [List.all_append, Bool.and_eq_true] at hsz
  obtain ⟨s, a, len, cap, X, rfl, rfl, hS, hc, hb, hu0⟩ := open_Int2B (c0 := c0) (c1 := c1) (d := y0d) (p := y0p) ⟨n, h0⟩ hsz.1
  obtain ⟨Y, hT, hd, hk, hu1⟩ := open_nat (len := m) (cap := e) (a := b) (d := y1d) (p := y1p) xZ6 ⟨n, h1⟩ (fun elems spare e => by
    have e' : y1d = .slice elems spare := e
    subst e'
    have h2 := hsz.2.1
    simp only [DataW.weights, xZ6] at h2
    simp only [List.all_cons, Bool.and_eq_true, decide_eq_true_eq] at h2
    exact h2.1)
  exact ⟨⟨s, a, len, cap, X, b, m, e, Y⟩, rfl, rfl, rfl, ⟨hS, hc, Nat.le_trans hb (by omega), hT, hd, Nat.le_trans hk (by omega)⟩, by simp only [Rows.uptoBulk, Rows.uptoBulkAll] at hu0 hu1 ⊢; omega⟩
set_option maxRecDepth 100000 in
theorem open_Mono4B {H : Type} {enc : TypeId × Value → H} {W : World} {k c0 c1 c2 : Value} {d : DataW H} {p : List MemPlace} {fuel : Nat}
    (hf : DataW.trod enc Tryz.prog W 0 (fun _ => true) true fuel 57 [k, c0, c1, c2] = some (d, p))
    (hsz : (d.weights Tryz.prog 57).all (· ≤ reachBytes) = true) :
    ∃ (v : Int) (q : RatV), k = .int .i64 v ∧ (Lit.int .i64 v).wf = true ∧ c0 = .bool q.s ∧ c1 = .slice q.a q.n q.c ∧ c2 = .slice q.b q.m q.e ∧ q.ok W ∧ q.n + q.m + 7 ≤ Rows.uptoBulk d := by
  obtain ⟨y0, y1, n, hx, hl, h0, h1⟩ := trod_struct2 Tryz.underlying57 hf
  simp only [List.drop_zero, cells_int, cells_Rat] at h0 h1
  change DataW.trod enc _ _ _ _ _ n 3 [k] = _ at h0
  change DataW.trod enc _ _ _ _ _ n 55 [c0, c1, c2] = _ at h1
  simp only [Prod.mk.injEq] at hx
  obtain ⟨rfl, rfl⟩ := hx
  obtain ⟨v, hv, hx0, hw⟩ := DataW.trod_int Tryz.underlying3 h0
  simp only [List.cons.injEq, and_true] at hv
  subst hv
  obtain ⟨y0d, y0p⟩ := y0
  obtain ⟨y1d, y1p⟩ := y1
  simp only [Prod.mk.injEq] at hx0
  obtain ⟨rfl, rfl⟩ := hx0
  have hu := Tryz.underlying57
  simp only [DataW.weights, hu, DataW.weightsEach, List.map] at hsz
  simp only [List.all_append, Bool.and_eq_true] at hsz
  obtain ⟨q, r0, r1, r2, hok, hbk⟩ := open_Rat3B h1 hsz.2.1
  exact ⟨v, q, rfl, hw, r0, r1, r2, hok, by simp only [Rows.uptoBulk, Rows.uptoBulkAll] at hbk ⊢; omega⟩
theorem bul_append : ∀ (L M : List Mo), bul (L ++ M) = bul L + bul M
  | [], M => by simp [bul]
  | p :: L, M => by simp only [List.cons_append, bul, bul_append L M]; omega
theorem bul_mos {H : Type} {D : Nat → DataW H} {v : Nat → Int} {q : Nat → RatV} : ∀ (n : Nat), (∀ i, i < n → (q i).n + (q i).m + 7 ≤ Rows.uptoBulk (D i)) → bul (mos v q n) ≤ Rows.uptoBulkAll ((List.range n).map D)
  | 0, _ => by simp [mos, bul]
  | n + 1, h => by
    have h1 := bul_mos (v := v) n fun i hi => h i (by omega)
    have h2 := h n (by omega)
    unfold mos at h1 ⊢
    rw [List.range_succ, List.map_append, List.map_append, bulkAll_append, bul_append]
    simp only [List.map, bul, Rows.uptoBulkAll]
    omega
set_option maxRecDepth 100000 in
theorem open_FormB {H : Type} {enc : TypeId × Value → H} {W : World} {cs : List Value} {d : DataW H} {p : List MemPlace} {fuel : Nat}
    (hf : DataW.trod enc Tryz.prog W 0 (fun _ => true) true fuel 26 cs = some (d, p))
    (hsz : (d.weights Tryz.prog 26).all (· ≤ reachBytes) = true) :
    ∃ F : FV, cs = [F.val] ∧ F.ok W ∧ wfo F.fo ∧ bul F.L + 1 ≤ Rows.uptoBulk d := by
  rcases open_slice Tryz.underlying26 hf with ⟨rfl, hx⟩ | ⟨a, len, cap, m, n, D, Pl, rfl, hb, hl, hm, hmm, hx, hel⟩
  · simp only [Prod.mk.injEq] at hx
    obtain ⟨rfl, rfl⟩ := hx
    exact ⟨⟨none, 0, []⟩, rfl, ⟨fun h => absurd rfl h, fun p hp => by simp at hp, Nat.le_refl _⟩, fun p hp => by simp [FV.fo, fo] at hp, by simp [bul, Rows.uptoBulk]⟩
  · simp only [Prod.mk.injEq] at hx
    obtain ⟨rfl, rfl⟩ := hx
    have hu := Tryz.underlying26
    simp only [DataW.weights, hu] at hsz
    simp only [List.all_cons, List.all_append, Bool.and_eq_true, decide_eq_true_eq, bytes_Mono, List.length_map, List.length_range] at hsz
    obtain ⟨hs0, hs1, _⟩ := hsz
    simp only [if_true] at hmm
    have each : ∀ i, i < len → ∃ z : Int × RatV, (W.cell? (a.add (i * 4)) = some (.int .i64 z.1) ∧ W.cell? (a.add (i * 4 + 1)) = some (.bool z.2.s) ∧ W.cell? (a.add (i * 4 + 2)) = some (.slice z.2.a z.2.n z.2.c) ∧ W.cell? (a.add (i * 4 + 3)) = some (.slice z.2.b z.2.m z.2.e)) ∧
        ((Lit.int .i64 z.1).wf = true ∧ z.2.ok W) ∧ z.2.n + z.2.m + 7 ≤ Rows.uptoBulk (D i) := by
      intro i hi
      obtain ⟨cs', h1, h2⟩ := hel i (by omega)
      rw [cells_Mono] at h1
      obtain ⟨_, hlen, hcell⟩ := World.cells?_some h1
      match cs', hlen with
      | [k, c0, c1, c2], _ =>
        obtain ⟨v, q, rfl, hw, rfl, rfl, rfl, hok, hbk⟩ := open_Mono4B h2 (weightsAll_mem hs1 (List.mem_map.2 ⟨i, List.mem_range.2 hi, rfl⟩))
        have e0 := hcell 0 (by omega)
        have e1 := hcell 1 (by omega)
        have e2 := hcell 2 (by omega)
        have e3 := hcell 3 (by omega)
        rw [add_add] at e0 e1 e2 e3
        exact ⟨(v, q), ⟨by simpa using e0, by simpa using e1, by simpa using e2, by simpa using e3⟩, ⟨hw, hok⟩, hbk⟩
    obtain ⟨z, hq⟩ := choose_lt each
    have hF : FormAt W (some a) len (fun i => (z i).1) (fun i => (z i).2) := fun hn => by
      obtain ⟨b, off, spot⟩ := a
      have h0 := (hq 0 hn).1.1
      have hspot : spot = none := by simpa [Addr.add] using World.cell?_spot h0
      subst hspot
      have ea : ∀ j, (Addr.mk b off none).add j = ⟨b, off + j, none⟩ := fun j => by unfold Addr.add; split <;> simp_all
      refine ⟨b, off, rfl, ?_, fun i hi => ?_⟩
      · rw [ea] at h0
        obtain ⟨cur, e, fr, hb, _⟩ := Sort.cells_of_cell? h0
        exact (Array.getElem?_eq_some_iff.1 hb).1
      · have := (hq i hi).1
        simp only [ea] at this
        exact ⟨this.1, this.2.1, this.2.2.1, this.2.2.2⟩
    refine ⟨⟨some a, cap, mos (fun i => (z i).1) (fun i => (z i).2) len⟩, by unfold FV.val; simp only [mos_length], ⟨mos_at hF, fun p hp => ?_, by simp only [mos_length]; exact hl⟩, fun p hp => ?_, ?_⟩
    · obtain ⟨i, hi, rfl⟩ := mos_mem hp
      exact (hq i hi).2.1.2
    · unfold FV.fo fo at hp
      obtain ⟨r, hr, rfl⟩ := List.mem_map.1 hp
      obtain ⟨i, hi, rfl⟩ := mos_mem hr
      exact (hq i hi).2.1.1
    · have := bul_mos (D := D) (v := fun i => (z i).1) (q := fun i => (z i).2) len fun i hi => (hq i hi).2.2
      simp only [Rows.uptoBulk]
      omega
theorem cells_Form : Tryz.prog.cellsOf 26 = 1 := by kernel_rfl
theorem cells_Row : Tryz.prog.cellsOf 46 = 2 := by kernel_rfl
theorem bytes_Row : Tryz.prog.bytesOf 46 = 32 := by kernel_rfl
set_option maxRecDepth 100000 in
theorem open_Row2 {H : Type} {enc : TypeId × Value → H} {W : World} {c0 c1 : Value} {d : DataW H} {p : List MemPlace} {fuel : Nat}
    (hf : DataW.trod enc Tryz.prog W 0 (fun _ => true) true fuel 46 [c0, c1] = some (d, p))
    (hsz : (d.weights Tryz.prog 46).all (· ≤ reachBytes) = true) :
    ∃ r : RowV, c0 = .int .i64 r.1 ∧ c1 = r.2.val ∧ wfI r.1 ∧ r.2.ok W ∧ wfo r.2.fo ∧ bul r.2.L + 3 ≤ Rows.uptoBulk d := by
  obtain ⟨y0, y1, n, hx, hl, h0, h1⟩ := trod_struct2 Tryz.underlying46 hf
  simp only [List.drop_zero, cells_int, cells_Form] at h0 h1
  change DataW.trod enc _ _ _ _ _ n 3 [c0] = _ at h0
  change DataW.trod enc _ _ _ _ _ n 26 [c1] = _ at h1
  simp only [Prod.mk.injEq] at hx
  obtain ⟨rfl, rfl⟩ := hx
  obtain ⟨v, hv, hx0, hw⟩ := DataW.trod_int Tryz.underlying3 h0
  simp only [List.cons.injEq, and_true] at hv
  subst hv
  obtain ⟨y0d, y0p⟩ := y0
  obtain ⟨y1d, y1p⟩ := y1
  simp only [Prod.mk.injEq] at hx0
  obtain ⟨rfl, rfl⟩ := hx0
  have hu := Tryz.underlying46
  simp only [DataW.weights, hu, DataW.weightsEach, List.map] at hsz
  simp only [List.all_append, Bool.and_eq_true] at hsz
  obtain ⟨F, hF, hok, hwf, hb⟩ := open_FormB h1 hsz.2.1
  simp only [List.cons.injEq, and_true] at hF
  exact ⟨(v, F), rfl, hF, hw, hok, hwf, by simp only [Rows.uptoBulk, Rows.uptoBulkAll] at hb ⊢; omega⟩
theorem bulT_append : ∀ (R S : List RowV), bulT (R ++ S) = bulT R + bulT S
  | [], S => by simp [bulT]
  | r :: R, S => by simp only [List.cons_append, bulT, bulT_append R S]; omega
theorem bulT_le {H : Type} {D : Nat → DataW H} {z : Nat → RowV} : ∀ (n : Nat), (∀ i, i < n → bul (z i).2.L + 3 ≤ Rows.uptoBulk (D i)) → bulT ((List.range n).map z) ≤ Rows.uptoBulkAll ((List.range n).map D)
  | 0, _ => by simp [bulT]
  | n + 1, h => by
    have h1 := bulT_le n fun i hi => h i (by omega)
    have h2 := h n (by omega)
    rw [List.range_succ, List.map_append, List.map_append, bulkAll_append, bulT_append]
    simp only [List.map, bulT, Rows.uptoBulkAll]
    omega
set_option maxRecDepth 100000 in
theorem open_RowsB {H : Type} {enc : TypeId × Value → H} {W : World} {cs : List Value} {d : DataW H} {p : List MemPlace} {fuel : Nat}
    (hf : DataW.trod enc Tryz.prog W 0 (fun _ => true) true fuel 22 cs = some (d, p))
    (hsz : (d.weights Tryz.prog 22).all (· ≤ reachBytes) = true) :
    ∃ (a : Option Addr) (c : Nat) (R : List RowV), cs = [.slice a R.length c] ∧ TIn W a R ∧ (∀ r ∈ R, wfo r.2.fo) ∧ R.length ≤ c ∧ bulT R + 1 ≤ Rows.uptoBulk d := by
  rcases open_slice Tryz.underlying22 hf with ⟨rfl, hx⟩ | ⟨a, len, cap, m, n, D, Pl, rfl, hb, hl, hm, hmm, hx, hel⟩
  · simp only [Prod.mk.injEq] at hx
    obtain ⟨rfl, rfl⟩ := hx
    exact ⟨none, 0, [], rfl, ⟨fun h => absurd rfl h, fun p hp => by simp at hp, fun p hp => by simp at hp⟩, fun p hp => by simp at hp, Nat.le_refl _, by simp [bulT, Rows.uptoBulk]⟩
  · simp only [Prod.mk.injEq] at hx
    obtain ⟨rfl, rfl⟩ := hx
    have hu := Tryz.underlying22
    simp only [DataW.weights, hu] at hsz
    simp only [List.all_cons, List.all_append, Bool.and_eq_true, decide_eq_true_eq, bytes_Row, List.length_map, List.length_range] at hsz
    obtain ⟨hs0, hs1, _⟩ := hsz
    simp only [if_true] at hmm
    have each : ∀ i, i < len → ∃ z : RowV, (W.cell? (a.add (i * 2)) = some (.int .i64 z.1) ∧ W.cell? (a.add (i * 2 + 1)) = some z.2.val) ∧ (wfI z.1 ∧ z.2.ok W ∧ wfo z.2.fo) ∧ bul z.2.L + 3 ≤ Rows.uptoBulk (D i) := by
      intro i hi
      obtain ⟨cs', h1, h2⟩ := hel i (by omega)
      rw [cells_Row] at h1
      obtain ⟨_, hlen, hcell⟩ := World.cells?_some h1
      match cs', hlen with
      | [c0, c1], _ =>
        obtain ⟨r, rfl, rfl, hw, hok, hwf, hbk⟩ := open_Row2 h2 (weightsAll_mem hs1 (List.mem_map.2 ⟨i, List.mem_range.2 hi, rfl⟩))
        have e0 := hcell 0 (by omega)
        have e1 := hcell 1 (by omega)
        rw [add_add] at e0 e1
        exact ⟨r, ⟨by simpa using e0, by simpa using e1⟩, ⟨hw, hok, hwf⟩, hbk⟩
    obtain ⟨z, hq⟩ := choose_lt each
    have hmem : ∀ r ∈ (List.range len).map z, ∃ i, i < len ∧ r = z i := fun r hr => by
      obtain ⟨i, hi, rfl⟩ := List.mem_map.1 hr
      exact ⟨i, List.mem_range.1 hi, rfl⟩
    refine ⟨some a, cap, (List.range len).map z, by simp, ⟨fun hn => ?_, fun r hr => ?_, fun r hr => ?_⟩, fun r hr => ?_, by simpa using hl, ?_⟩
    · have h0 : 0 < len := by
        rcases Nat.eq_zero_or_pos len with e | e
        · subst e; exact absurd rfl hn
        · exact e
      obtain ⟨b, off, spot⟩ := a
      have hc0 := (hq 0 h0).1.1
      have hspot : spot = none := by simpa [Addr.add] using World.cell?_spot hc0
      subst hspot
      have ea : ∀ j, (Addr.mk b off none).add j = ⟨b, off + j, none⟩ := fun j => by unfold Addr.add; split <;> simp_all
      refine ⟨b, off, rfl, ?_, fun i p hi => ?_⟩
      · rw [ea] at hc0
        obtain ⟨cur, e, fr, hb, _⟩ := Sort.cells_of_cell? hc0
        exact (Array.getElem?_eq_some_iff.1 hb).1
      · rw [List.getElem?_map] at hi
        have hin : i < len := by
          rcases Nat.lt_or_ge i len with h1 | h1
          · exact h1
          · rw [List.getElem?_eq_none (by rw [List.length_range]; exact h1)] at hi; cases hi
        rw [List.getElem?_range hin] at hi
        obtain rfl := Option.some.inj hi
        have := (hq i hin).1
        simp only [ea] at this
        exact this
    · obtain ⟨i, hi, rfl⟩ := hmem r hr
      exact (hq i hi).2.1.2.1
    · obtain ⟨i, hi, rfl⟩ := hmem r hr
      exact (hq i hi).2.1.1
    · obtain ⟨i, hi, rfl⟩ := hmem r hr
      exact (hq i hi).2.1.2.2
    · have := bulT_le (D := D) (z := z) len fun i hi => (hq i hi).2.2
      simp only [Rows.uptoBulk]
      omega
theorem cells_Tab : Tryz.prog.cellsOf 24 = 2 := by kernel_rfl
theorem cells_RowSl : Tryz.prog.cellsOf 22 = 1 := by kernel_rfl
set_option maxRecDepth 100000 in
theorem open_Tab {H : Type} {enc : TypeId × Value → H} {W : World} {r : Reach} {b0 : Nat} {v : Value} {d : DataW H} {p : List MemPlace}
    (hv : Value.okWide Tryz.prog W r b0 24 v) (h : DataW.Trod enc Tryz.prog W 0 (fun _ => true) true 24 v d p)
    (hsz : (d.weights Tryz.prog 24).all (· ≤ reachBytes) = true) :
    ∃ (V : Int) (a : Option Addr) (c : Nat) (R : List RowV), v = .agg #[.int .i64 V, .slice a R.length c] ∧ wfI V ∧ TIn W a R ∧ (∀ r ∈ R, wfo r.2.fo) ∧ R.length ≤ c ∧ bulT R + 3 ≤ Rows.uptoBulk d := by
  obtain ⟨cs, rfl, hcs⟩ := okWide_struct Tryz.underlying24 hv
  obtain ⟨fuel, hf⟩ := h
  rw [cells_Tab] at hcs
  obtain ⟨c0, c1, rfl⟩ : ∃ c0 c1, cs = #[c0, c1] := by
    match cs, hcs with
    | ⟨[c0, c1]⟩, _ => exact ⟨c0, c1, rfl⟩
  obtain ⟨y0, y1, n, hx, hl, h0, h1⟩ := trod_struct2 Tryz.underlying24 hf
  simp only [Value.cells, List.drop_zero, cells_int, cells_RowSl] at h0 h1
  change DataW.trod enc _ _ _ _ _ n 3 [c0] = _ at h0
  change DataW.trod enc _ _ _ _ _ n 22 [c1] = _ at h1
  simp only [Prod.mk.injEq] at hx
  obtain ⟨rfl, rfl⟩ := hx
  obtain ⟨v, hv, hx0, hw⟩ := DataW.trod_int Tryz.underlying3 h0
  simp only [List.cons.injEq, and_true] at hv
  subst hv
  obtain ⟨y0d, y0p⟩ := y0
  obtain ⟨y1d, y1p⟩ := y1
  simp only [Prod.mk.injEq] at hx0
  obtain ⟨rfl, rfl⟩ := hx0
  have hu := Tryz.underlying24
  simp only [DataW.weights, hu, DataW.weightsEach, List.map] at hsz
  simp only [List.all_append, Bool.and_eq_true] at hsz
  obtain ⟨a, c, R, hR, hT, hwf, hc, hb⟩ := open_RowsB h1 hsz.2.1
  simp only [List.cons.injEq, and_true] at hR
  subst hR
  exact ⟨v, a, c, R, rfl, hw, hT, hwf, hc, by simp only [Rows.uptoBulk, Rows.uptoBulkAll] at hb ⊢; omega⟩
def RwA (w : World) (V : Int) (T : Tb) (v : Int) (e : Ending) (w' : World) : Prop := Below w.heap.size w w' ∧
  ((¬ mayBe V T ∧ e = .returned (.tuple #[.slice none 0 0, .int .i64 70])) ∨ (mayBe V T ∧ ¬ (0 ≤ v ∧ v < V) ∧ e = .returned (.tuple #[.slice none 0 0, .int .i64 61])) ∨
   (mayBe V T ∧ (0 ≤ v ∧ v < V) ∧ lk T v = none ∧ e = .returned (.tuple #[.slice none 0 0, .int .i64 71])) ∨
   (mayBe V T ∧ (0 ≤ v ∧ v < V) ∧ ∃ (f : Fo) (F : FV), lk T v = some f ∧ e = .returned (.tuple #[F.val, .int .i64 0]) ∧ F.fo = nfm f ∧ F.nk w'))
set_option maxHeartbeats 8000000 in
set_option maxRecDepth 100000 in
theorem pRow_is (V : Int) (a : Option Addr) (c : Nat) (R : List RowV) (v : Int) (w : World) (hT : TIn w a R) (hc : R.length ≤ c) (hbu : bulT R ≤ 1048576) (hw : ∀ r ∈ R, wfo r.2.fo) (hv : wfI v) :
    Calls Tryz.prog 4 #[.agg #[.int .i64 V, .slice a R.length c], .int .i64 v] w (RwA w V (tb R) v) := by
  obtain ⟨TQ, hTQ⟩ : ∃ TQ, RwA w V (tb R) v = TQ := ⟨_, rfl⟩
  rw [hTQ]
  replace hTQ := xQ1 hTQ
  have GR := xQ1 (fun w' (hb9 : Below w.heap.size w w') => tabRead_is V a c R w' (hT.later hb9) hc hbu hw)
  have GI := xQ1 (fun w' => isVar_is v V w')
  clear hT hw
  have b1 := xQ2 (w := w) (.cells #[.int .i64 V, .slice a R.length c] 24)
  have m0 : (w.alloc (.cells #[.int .i64 V, .slice a R.length c] 24)).cell? ⟨w.heap.size, 0, none⟩ = some (.int .i64 V) := by go_simp
  have m1 : (w.alloc (.cells #[.int .i64 V, .slice a R.length c] 24)).cell? ⟨w.heap.size, 1, none⟩ = some (.slice a R.length c) := by go_simp
  have hBw := b1
  clear b1
  go_enter Tryz.func4, Tryz.ntmps4
  go_wp2_with fail
  obtain ⟨wA, hwA⟩ : ∃ wA, (w.alloc (.cells #[.int .i64 V, .slice a R.length c] 24)) = wA := ⟨_, rfl⟩
  rw [hwA] at m0 m1 hBw ⊢
  clear hwA
  refine (GR.out _ hBw).mono ?_
  rintro e w1 ⟨b1, ⟨hmb, rfl⟩ | ⟨hmb, b, g, rfl, hbb, hM, hRF⟩⟩
  · have hB := hBw.trans (b1.mono hBw.size)
    clear GR GI
    have HX := xQ1 (show RwA w V (tb R) v (.returned (.tuple #[.slice none 0 0, .int .i64 70])) _ from ⟨hB, Or.inl ⟨hmb, rfl⟩⟩)
    rw [hTQ.out] at HX
    go_wp2
    first | exact HX.out | (go_ret; exact HX.out) | (refine bodyPost_ret (v := .tuple #[.slice none 0 0, .int .i64 70]) (by rw [results_tt rfl]; go_simp) rfl ?_; exact HX.out)
  · have hB := hBw.trans (b1.mono hBw.size)
    replace m0 := xQ0 b1 m0
    have HMB := xQ1 hmb
    have HRF := xQ1 hRF
    have HD := xQ1 (GI.out w1)
    clear GR GI hmb hRF b1 hBw
    cases hd : (decide (0 ≤ v) && decide (v < V)) with
    | false =>
      have HD2 := HD.out
      rw [hd] at HD2
      replace HD2 := xQ1 HD2
      have HIn := xQ1 (show ¬ (0 ≤ v ∧ v < V) from by intro h; simp [h.1, h.2] at hd)
      clear hd HD
      go_wp2_with fail
      refine HD2.out.mono ?_
      rintro e w2 ⟨rfl, hw2⟩
      subst hw2
      have HX := xQ1 (show RwA w V (tb R) v (.returned (.tuple #[.slice none 0 0, .int .i64 61])) _ from ⟨hB, Or.inr (Or.inl ⟨HMB.out, HIn.out, rfl⟩)⟩)
      rw [hTQ.out] at HX
      go_wp2
      first | exact HX.out | (go_ret; exact HX.out) | (refine bodyPost_ret (v := .tuple #[.slice none 0 0, .int .i64 61]) (by rw [results_tt rfl]; go_simp) rfl ?_; exact HX.out)
    | true =>
      have HD2 := HD.out
      rw [hd] at HD2
      replace HD2 := xQ1 HD2
      have HIn := xQ1 (show (0 ≤ v ∧ v < V) from by simpa using hd)
      clear hd HD
      cases hg : g v with
      | none =>
        have hrr := mapf_none hg
        have HL := xQ1 (HRF.out.miss.1 hg)
        clear hg HRF
        go_wp2_with fail
        refine HD2.out.mono ?_
        rintro e w2 ⟨rfl, hw2⟩
        subst hw2
        go_wp2_with (at_lookup; refine xZ3 _ rfl _ _ 40 true rfl xZ9 xZ7 (zeroF _) b R.length (mapf g) rfl hM v rfl hv none hrr ?_)
        have HX := xQ1 (show RwA w V (tb R) v (.returned (.tuple #[.slice none 0 0, .int .i64 71])) _ from ⟨hB, Or.inr (Or.inr (Or.inl ⟨HMB.out, HIn.out, HL.out, rfl⟩))⟩)
        rw [hTQ.out] at HX
        go_wp2
        first | exact HX.out | (go_ret; exact HX.out) | (refine bodyPost_ret (v := .tuple #[.slice none 0 0, .int .i64 71]) (by rw [results_tt rfl]; go_simp) rfl ?_; exact HX.out)
      | some G =>
        have hrr := mapf_some hg
        obtain ⟨f, hlk, hfo⟩ := HRF.out.hit hg
        have HN := xQ1 (HRF.out.nk v G hg)
        have HL := xQ1 (show lk (tb R) v = some f ∧ G.fo = nfm f from ⟨hlk, hfo⟩)
        clear hlk hfo
        clear hg HRF
        go_wp2_with fail
        refine HD2.out.mono ?_
        rintro e w2 ⟨rfl, hw2⟩
        subst hw2
        go_wp2_with (at_lookup; refine xZ3 _ rfl _ _ 40 true rfl xZ9 xZ7 (zeroF _) b R.length (mapf g) rfl hM v rfl hv (some G.val) hrr ?_)
        have HX := xQ1 (show RwA w V (tb R) v (.returned (.tuple #[G.val, .int .i64 0])) _ from ⟨hB, Or.inr (Or.inr (Or.inr ⟨HMB.out, HIn.out, f, G, HL.out.1, rfl, HL.out.2, HN.out⟩))⟩)
        rw [hTQ.out] at HX
        go_wp2
        first | exact HX.out | (go_ret; exact HX.out) | (refine bodyPost_ret (v := .tuple #[G.val, .int .i64 0]) (by rw [results_tt rfl]; go_simp) rfl ?_; exact HX.out)
set_option maxHeartbeats 8000000 in
set_option maxRecDepth 100000 in
theorem rRow_is (V : Int) (a : Option Addr) (c : Nat) (R : List RowV) (v : Int) (w : World) (hT : TSm w a R) (hc : R.length ≤ c) :
    Calls Tryz.prog 6 #[.agg #[.int .i64 V, .slice a R.length c], .int .i64 v] w (RwA w V (tb R) v) := by
  obtain ⟨TQ, hTQ⟩ : ∃ TQ, RwA w V (tb R) v = TQ := ⟨_, rfl⟩
  rw [hTQ]
  replace hTQ := xQ1 hTQ
  have hlen := hT.len
  have GC := xQ1 (fun w' (hb : Below w.heap.size w w') => rCheck_is V a c R w' (hT.later hb) hc)
  have GI := xQ1 (fun w' => ris_is V v a R.length c w')
  have GX := xQ1 (fun w' (hb : Below w.heap.size w w') => rrow_is V v a c R w' ((hT.later hb).tin.at_) hc (by omega))
  have GN := xQ1 (fun r (hr : r ∈ R) w' (hb : Below w.heap.size w w') => rNormF_is r.2 w' ((hT.form hr).later hb))
  have HAt := xQ1 hT.tin.at_
  clear hT
  have b1 := xQ2 (w := w) (.cells #[.int .i64 V, .slice a R.length c] 24)
  have m0 : (w.alloc (.cells #[.int .i64 V, .slice a R.length c] 24)).cell? ⟨w.heap.size, 0, none⟩ = some (.int .i64 V) := by go_simp
  have m1 : (w.alloc (.cells #[.int .i64 V, .slice a R.length c] 24)).cell? ⟨w.heap.size, 1, none⟩ = some (.slice a R.length c) := by go_simp
  have hBw := b1
  clear b1
  go_enter Tryz.func6, Tryz.ntmps6
  go_wp2_with fail
  obtain ⟨wA, hwA⟩ : ∃ wA, (w.alloc (.cells #[.int .i64 V, .slice a R.length c] 24)) = wA := ⟨_, rfl⟩
  rw [hwA] at m0 m1 hBw ⊢
  clear hwA
  refine (GC.out _ hBw).mono ?_
  rintro e w1 ⟨b1, ⟨hmb, rfl⟩ | ⟨hmb, rfl⟩⟩
  · have hB := hBw.trans (b1.mono hBw.size)
    replace m0 := xQ0 b1 m0
    replace m1 := xQ0 b1 m1
    have HMB := xQ1 hmb
    have HD := xQ1 (GI.out w1)
    clear GC GI hmb b1 hBw
    cases hd : (decide (0 ≤ v) && decide (v < V)) with
    | false =>
      have HD2 := HD.out
      rw [hd] at HD2
      replace HD2 := xQ1 HD2
      have HIn := xQ1 (show ¬ (0 ≤ v ∧ v < V) from by intro h; simp [h.1, h.2] at hd)
      clear hd HD
      go_wp2_with fail
      refine HD2.out.mono ?_
      rintro e w2 ⟨rfl, b2⟩
      have hB2 := hB.trans (b2.mono hB.size)
      have HX := xQ1 (show RwA w V (tb R) v (.returned (.tuple #[.slice none 0 0, .int .i64 61])) _ from ⟨hB2, Or.inr (Or.inl ⟨HMB.out, HIn.out, rfl⟩)⟩)
      rw [hTQ.out] at HX
      go_wp2
      first | exact HX.out | (go_ret; exact HX.out) | (refine bodyPost_ret (v := .tuple #[.slice none 0 0, .int .i64 61]) (by rw [results_tt rfl]; go_simp) rfl ?_; exact HX.out)
    | true =>
      have HD2 := HD.out
      rw [hd] at HD2
      replace HD2 := xQ1 HD2
      have HIn := xQ1 (show (0 ≤ v ∧ v < V) from by simpa using hd)
      clear hd HD
      rcases ix_cases R v with ⟨hx, hl⟩ | ⟨k, F, hk, hx, hat, hl, _⟩
      · skip
        have HL := xQ1 (show lk (tb R) v = none from by rw [tb_lk, hl]; rfl)
        have GX2 := xQ1 (fun w' hb => GX.out w' hb)
        rw [hx] at GX2
        clear GX hl hx
        clear GN HAt
        go_wp2_with fail
        refine HD2.out.mono ?_
        rintro e w2 ⟨rfl, b2⟩
        have hB2 := hB.trans (b2.mono hB.size)
        replace m0 := xQ0 b2 m0
        replace m1 := xQ0 b2 m1
        clear b2 HD2
        go_wp2_with fail
        refine (GX2.out _ hB2).mono ?_
        rintro e w3 ⟨rfl, b3⟩
        have hB3 := hB2.trans (b3.mono hB2.size)
        replace m0 := xQ0 b3 m0
        replace m1 := xQ0 b3 m1
        clear b3
        have HX := xQ1 (show RwA w V (tb R) v (.returned (.tuple #[.slice none 0 0, .int .i64 71])) _ from ⟨hB3, Or.inr (Or.inr (Or.inl ⟨HMB.out, HIn.out, HL.out, rfl⟩))⟩)
        rw [hTQ.out] at HX
        go_wp2
        first | exact HX.out | (go_ret; exact HX.out) | (refine bodyPost_ret (v := .tuple #[.slice none 0 0, .int .i64 71]) (by rw [results_tt rfl]; go_simp) rfl ?_; exact HX.out)
      · skip
        have HL := xQ1 (show lk (tb R) v = some F.fo from by rw [tb_lk, hl]; rfl)
        have GX2 := xQ1 (fun w' hb => GX.out w' hb)
        rw [hx] at GX2
        clear GX hl hx
        obtain ⟨bb, off, rfl, hbb, hcell⟩ := HAt.out (by intro e; rw [e] at hk; simp at hk)
        obtain ⟨_, d1⟩ := hcell k (v, F) hat
        have G3 := xQ1 (fun w' hb => GN.out (v, F) (List.mem_of_getElem? hat) w' hb)
        clear hcell hat
        clear GN HAt
        go_wp2_with fail
        refine HD2.out.mono ?_
        rintro e w2 ⟨rfl, b2⟩
        have hB2 := hB.trans (b2.mono hB.size)
        replace m0 := xQ0 b2 m0
        replace m1 := xQ0 b2 m1
        clear b2 HD2
        go_wp2_with fail
        refine (GX2.out _ hB2).mono ?_
        rintro e w3 ⟨rfl, b3⟩
        have hB3 := hB2.trans (b3.mono hB2.size)
        replace m0 := xQ0 b3 m0
        replace m1 := xQ0 b3 m1
        clear b3
        replace d1 := xQ0 hB3 d1
        obtain ⟨Fa, Fc, FL⟩ := F
        unfold FV.val at d1
        simp only at d1 G3
        unfold FV.val at G3
        simp only at G3
        have j0 : (0 : Int) ≤ (k : Int) := by omega
        have j1 : (k : Int) < (R.length : Int) := by omega
        have j2 : ¬ (k : Int) < 0 := by omega
        go_wp2_with fail
        have bD : Below w3.heap.size w3 w3.drew := (Below.refl _ _).drew
        have km0 := xQ0 bD m0
        have km1 := xQ0 bD m1
        have kd1 := xQ0 bD d1
        replace hB3 := hB3.trans (bD.mono hB3.size)
        refine wp_region_held_drew (S := fun w' => w'.cell? ⟨w.heap.size, 0, none⟩ = some (.int .i64 V) ∧ w'.cell? ⟨w.heap.size, 1, none⟩ = some (.slice (some ⟨bb, off, none⟩) R.length c) ∧ w'.cell? ⟨bb, off + k * 2 + 1, none⟩ = some (.slice Fa FL.length Fc)) (by kernel_rfl) ⟨km0, km1, kd1⟩ (fun hHeld => ?_)
        clear km0 km1 kd1
        generalize w3.drew = w4 at bD hB3 hHeld ⊢
        clear bD m0 m1 d1
        refine tk 0 (v := ?_) rfl (Or.inl ⟨by rfl, ?_⟩) ?_
        rotate_left
        · intro w9 hSw
          go_simp
          try with_reducible rfl
        simp only [pP, pN, pS, pZ, pC]
        refine tk 1 (v := ?_) rfl (Or.inl ⟨by rfl, ?_⟩) ?_
        rotate_left
        · intro w9 hSw
          go_simp
          try with_reducible rfl
        simp only [pP, pN, pS, pZ, pC]
        refine tk 2 (v := ?_) rfl (Or.inl ⟨by rfl, ?_⟩) ?_
        rotate_left
        · intro w9 hSw
          go_simp
          try with_reducible rfl
        simp only [pP, pN, pS, pZ, pC]
        refine tk 3 (v := ?_) rfl (Or.inl ⟨by rfl, ?_⟩) ?_
        rotate_left
        · intro w9 hSw
          go_simp
          try with_reducible rfl
        simp only [pP, pN, pS, pZ, pC]
        refine wpAnyH_ready (rs := [4]) (by kernel_rfl) (by simp) ?_
        refine xX0 rfl (fun KK hKK => ?_)
        go_simp
        refine (GX2.out _ hB3).mono ?_
        rintro e w5 ⟨rfl, b5⟩
        have bC := b5
        replace hB3 := hB3.trans (bC.mono hB3.size)
        replace hHeld := (⟨xQ0 bC hHeld.1, xQ0 bC hHeld.2.1, xQ0 bC hHeld.2.2⟩ : _ ∧ _ ∧ _)
        clear bC
        go_wp2_with fail
        clear b5 GX2
        refine hKK.out _ _ hHeld ?_
        clear hHeld
        intro hHeld
        clear hKK KK
        try simp only [pP, pN, pS, pZ, pC]
        refine tk 5 (v := ?_) rfl (Or.inl ⟨by rfl, ?_⟩) ?_
        rotate_left
        · intro w9 hSw
          go_simp
          try with_reducible rfl
        simp only [pP, pN, pS, pZ, pC]
        refine tk 6 (v := ?_) rfl (Or.inl ⟨by rfl, ?_⟩) ?_
        rotate_left
        · intro w9 hSw
          go_simp
          try with_reducible rfl
        simp only [pP, pN, pS, pZ, pC]
        refine tk 7 (v := ?_) rfl (Or.inl ⟨by rfl, ?_⟩) ?_
        rotate_left
        · intro w9 hSw
          go_simp
          try with_reducible rfl
        simp only [pP, pN, pS, pZ, pC]
        refine wpAnyH_ready (rs := [8]) (by kernel_rfl) (by simp) ?_
        refine xX0 rfl (fun KK hKK => ?_)
        go_simp
        refine (G3.out _ hB3).mono ?_
        rintro e w6 ⟨a6, c6, L6, rfl, b6, s6, E6, f6⟩
        have bC := b6
        replace hB3 := hB3.trans (bC.mono hB3.size)
        replace hHeld := (⟨xQ0 bC hHeld.1, xQ0 bC hHeld.2.1, xQ0 bC hHeld.2.2⟩ : _ ∧ _ ∧ _)
        clear bC
        go_wp2_with fail
        have E7 : Ents w6 L6 := E6
        clear b6 G3 E6
        refine hKK.out _ _ hHeld ?_
        clear hHeld
        intro hHeld
        clear hKK KK
        try simp only [pP, pN, pS, pZ, pC]
        refine tk 9 (v := ?_) rfl (Or.inl ⟨by rfl, ?_⟩) ?_
        rotate_left
        · intro w9 hSw
          go_simp
          try with_reducible rfl
        simp only [pP, pN, pS, pZ, pC]
        refine tk 10 (v := ?_) rfl (Or.inl ⟨by rfl, ?_⟩) ?_
        rotate_left
        · intro w9 hSw
          go_simp
          try with_reducible rfl
        simp only [pP, pN, pS, pZ, pC]
        refine wpAnyH_done (by kernel_rfl) ?_ _
        have HX := xQ1 (show RwA w V (tb R) v (.returned (.tuple #[.slice a6 L6.length c6, .int .i64 0])) _ from ⟨hB3, Or.inr (Or.inr (Or.inr ⟨HMB.out, HIn.out, _, ⟨a6, c6, L6⟩, HL.out, rfl, f6, s6, E7⟩))⟩)
        rw [hTQ.out] at HX
        go_wp2
        first | exact HX.out | (go_ret; exact HX.out) | (refine bodyPost_ret (v := .tuple #[.slice a6 L6.length c6, .int .i64 0]) (by rw [results_tt rfl]; go_simp) rfl ?_; exact HX.out)
  · have hB := hBw.trans (b1.mono hBw.size)
    clear GC GI GX GN HAt
    have HX := xQ1 (show RwA w V (tb R) v (.returned (.tuple #[.slice none 0 0, .int .i64 70])) _ from ⟨hB, Or.inl ⟨hmb, rfl⟩⟩)
    rw [hTQ.out] at HX
    go_wp2
    first | exact HX.out | (go_ret; exact HX.out) | (refine bodyPost_ret (v := .tuple #[.slice none 0 0, .int .i64 70]) (by rw [results_tt rfl]; go_simp) rfl ?_; exact HX.out)
end Go.Proofs.YtgfmaejhdbmkoaaGreat
namespace Go.Proofs.YtgfmaejhdbmkoaaGreat.tableauRows
open Go.ChangeShapes Go.WideShapes Go.ChangeAt Go.RowKit Go.Proofs.YtgfmaejhdbmkoaaGreat
set_option linter.unusedVariables false
theorem wfo_sg {S R : List RowV} (h : S.map sgR = R.map sgR) (hw : ∀ r ∈ R, wfo r.2.fo) : ∀ r ∈ S, wfo r.2.fo := fun r hr => by
  obtain ⟨s, hs, _, e⟩ := sgR_mem h hr
  rw [e]
  exact hw s hs
theorem nilF (w : World) : FV.nk w ⟨none, 0, []⟩ := ⟨⟨fun h => absurd rfl h, Nat.le_refl _, fun _ => rfl⟩, fun p hp => absurd hp (by simp)⟩
theorem nilI (w : World) : IAt w none [] := fun h => absurd rfl h
theorem up_uniq : ∀ {a b : List Int}, a.Pairwise (· < ·) → b.Pairwise (· < ·) → (∀ x, x ∈ a ↔ x ∈ b) → a = b
  | [], [], _, _, _ => rfl
  | [], y :: b, _, _, h => absurd ((h y).2 (List.mem_cons_self ..)) (by simp)
  | x :: a, [], _, _, h => absurd ((h x).1 (List.mem_cons_self ..)) (by simp)
  | x :: a, y :: b, ha, hb, h => by
    obtain ⟨a1, a2⟩ := List.pairwise_cons.1 ha
    obtain ⟨b1, b2⟩ := List.pairwise_cons.1 hb
    have hxy : x = y := by
      rcases List.mem_cons.1 ((h x).1 (List.mem_cons_self ..)) with e | e
      · exact e
      · rcases List.mem_cons.1 ((h y).2 (List.mem_cons_self ..)) with e2 | e2
        · exact e2.symm
        · have := a1 y e2; have := b1 x e; omega
    subst hxy
    rw [up_uniq a2 b2 fun z => ⟨fun hz => ?_, fun hz => ?_⟩]
    · rcases List.mem_cons.1 ((h z).1 (List.mem_cons_of_mem _ hz)) with e | e
      · have := a1 z hz; omega
      · exact e
    · rcases List.mem_cons.1 ((h z).2 (List.mem_cons_of_mem _ hz)) with e | e
      · have := b1 z hz; omega
      · exact e
def FmA (w : World) (code : Int) (g : Fo) (e : Ending) (w' : World) : Prop := ∃ F : FV, e = .returned (.tuple #[F.val, .int .i64 code]) ∧ F.fo = g ∧ F.nk w' ∧ Below w.heap.size w w'
def LsA (w : World) (code : Int) (zs : List Int) (e : Ending) (w' : World) : Prop := ∃ (a : Option Addr) (c : Nat), e = .returned (.tuple #[.slice a zs.length c, .int .i64 code]) ∧ IAt w' a zs ∧ zs.length ≤ c ∧ Below w.heap.size w w'
theorem row_fix (V v : Int) {R : List RowV} (hb : bulT R ≤ 1048576) : ∃ (code : Int) (g : Fo), g.length ≤ 2097152 ∧ ∀ w e w', RwA w V (tb R) v e w' → FmA w code g e w' := by
  have bad : ∀ (w w' : World) (c : Int), Below w.heap.size w w' → FmA w c [] (.returned (.tuple #[.slice none 0 0, .int .i64 c])) w' := fun w w' c h => ⟨⟨none, 0, []⟩, rfl, rfl, nilF _, h⟩
  by_cases hm : mayBe V (tb R)
  · by_cases hv : 0 ≤ v ∧ v < V
    · cases hl : lk (tb R) v with
      | none =>
        refine ⟨71, [], by simp, ?_⟩
        rintro w e w' ⟨h, ⟨h1, _⟩ | ⟨_, h1, _⟩ | ⟨_, _, _, rfl⟩ | ⟨_, _, f, F, h1, _⟩⟩
        · exact absurd hm h1
        · exact absurd hv h1
        · exact bad _ _ _ h
        · rw [hl] at h1; cases h1
      | some f =>
        refine ⟨0, nfm f, ?_, ?_⟩
        · obtain ⟨s, hs, e⟩ := List.mem_map.1 (lk_mem hl)
          simp only [Prod.mk.injEq] at e
          have h2 := xJ0 f
          have h3 : s.2.fo.length = s.2.L.length := xX3 _
          have h4 := congrArg List.length e.2
          have h5 := bulT_mem hs
          have h6 := bul_len s.2.L
          omega
        · rintro w e w' ⟨h, ⟨h1, _⟩ | ⟨_, h1, _⟩ | ⟨_, _, h1, _⟩ | ⟨_, _, f', F, h1, rfl, h2, h3⟩⟩
          · exact absurd hm h1
          · exact absurd hv h1
          · rw [hl] at h1; cases h1
          · rw [hl] at h1
            obtain rfl := Option.some.inj h1
            exact ⟨F, rfl, h2, h3, h⟩
    · refine ⟨61, [], by simp, ?_⟩
      rintro w e w' ⟨h, ⟨h1, _⟩ | ⟨_, _, rfl⟩ | ⟨_, h1, _⟩ | ⟨_, h1, _⟩⟩
      · exact absurd hm h1
      · exact bad _ _ _ h
      · exact absurd h1 hv
      · exact absurd h1 hv
  · refine ⟨70, [], by simp, ?_⟩
    rintro w e w' ⟨h, ⟨_, rfl⟩ | ⟨h1, _⟩ | ⟨h1, _⟩ | ⟨h1, _⟩⟩
    · exact bad _ _ _ h
    · exact absurd h1 hm
    · exact absurd h1 hm
    · exact absurd h1 hm
theorem badL (w w' : World) (c : Int) (h : Below w.heap.size w w') : LsA w c [] (.returned (.tuple #[.slice none 0 0, .int .i64 c])) w' := ⟨none, 0, rfl, nilI _, Nat.le_refl _, h⟩
theorem one_list (P : Int → Prop) (n : Nat) : ∃ zs : List Int, zs.length ≤ n ∧ ∀ ys : List Int, ys.Pairwise (· < ·) → ys.length ≤ n → (∀ x, x ∈ ys ↔ P x) → ys = zs := by
  by_cases h : ∃ zs : List Int, zs.Pairwise (· < ·) ∧ zs.length ≤ n ∧ ∀ x, x ∈ zs ↔ P x
  · obtain ⟨zs, h1, h2, h3⟩ := h
    exact ⟨zs, h2, fun ys k1 _ k3 => up_uniq k1 h1 fun x => (k3 x).trans (h3 x).symm⟩
  · exact ⟨[], Nat.zero_le _, fun ys k1 k2 k3 => absurd ⟨ys, k1, k2, k3⟩ h⟩
theorem bs_fix (V : Int) {R : List RowV} (hb : R.length ≤ 1048576) : ∃ (code : Int) (zs : List Int), zs.length ≤ 2097152 ∧ ∀ w e w', BsA w V (tb R) R.length e w' → LsA w code zs e w' := by
  by_cases hm : mayBe V (tb R)
  · obtain ⟨zs, hz, hu⟩ := one_list (fun x => lk (tb R) x ≠ none) R.length
    refine ⟨0, zs, by omega, ?_⟩
    rintro w e w' ⟨h, ⟨h1, _⟩ | ⟨_, a, c, ys, rfl, h2, h3, h4, h5, h6⟩⟩
    · exact absurd hm h1
    · obtain rfl := hu ys h5 h4 h6
      exact ⟨a, c, rfl, h2, h3, h⟩
  · refine ⟨70, [], by simp, ?_⟩
    rintro w e w' ⟨h, ⟨_, rfl⟩ | ⟨h1, _⟩⟩
    · exact badL _ _ _ h
    · exact absurd h1 hm
theorem ot_fix (V : Int) (R : List RowV) : ∃ (code : Int) (zs : List Int), zs.length ≤ 2097152 ∧ ∀ w e w', OtA w V (tb R) e w' → LsA w code zs e w' := by
  by_cases hm : mayBe V (tb R)
  · have h1 := hm.hi
    have h2 := othL_len (tb R) V.toNat
    refine ⟨0, othL (tb R) V.toNat, by omega, ?_⟩
    rintro w e w' ⟨h, ⟨h1, _⟩ | ⟨_, a, c, rfl, h2, h3⟩⟩
    · exact absurd hm h1
    · exact ⟨a, c, rfl, h2, h3, h⟩
  · refine ⟨70, [], by simp, ?_⟩
    rintro w e w' ⟨h, ⟨_, rfl⟩ | ⟨h1, _⟩⟩
    · exact badL _ _ _ h
    · exact absurd h1 hm
theorem cl_fix (V v : Int) {R : List RowV} (hb : R.length ≤ 1048576) : ∃ (code : Int) (zs : List Int), zs.length ≤ 2097152 ∧ ∀ w e w', ClA w V (tb R) R.length v e w' → LsA w code zs e w' := by
  by_cases hm : mayBe V (tb R)
  · by_cases hv : 0 ≤ v ∧ v < V
    · by_cases hl : lk (tb R) v = none
      · obtain ⟨zs, hz, hu⟩ := one_list (fun x => ∃ f, lk (tb R) x = some f ∧ co v f ≠ 0) R.length
        refine ⟨0, zs, by omega, ?_⟩
        rintro w e w' ⟨h, ⟨h1, _⟩ | ⟨_, h1, _⟩ | ⟨_, _, h1, _⟩ | ⟨_, _, _, a, c, ys, rfl, h2, h3, h4, h5, h6⟩⟩
        · exact absurd hm h1
        · exact absurd hv h1
        · exact absurd hl h1
        · obtain rfl := hu ys h5 h4 h6
          exact ⟨a, c, rfl, h2, h3, h⟩
      · refine ⟨71, [], by simp, ?_⟩
        rintro w e w' ⟨h, ⟨h1, _⟩ | ⟨_, h1, _⟩ | ⟨_, _, _, rfl⟩ | ⟨_, _, h1, _⟩⟩
        · exact absurd hm h1
        · exact absurd hv h1
        · exact badL _ _ _ h
        · exact absurd h1 hl
    · refine ⟨61, [], by simp, ?_⟩
      rintro w e w' ⟨h, ⟨h1, _⟩ | ⟨_, _, rfl⟩ | ⟨_, h1, _⟩ | ⟨_, h1, _⟩⟩
      · exact absurd hm h1
      · exact badL _ _ _ h
      · exact absurd h1 hv
      · exact absurd h1 hv
  · refine ⟨70, [], by simp, ?_⟩
    rintro w e w' ⟨h, ⟨_, rfl⟩ | ⟨h1, _⟩ | ⟨h1, _⟩ | ⟨h1, _⟩⟩
    · exact badL _ _ _ h
    · exact absurd h1 hm
    · exact absurd h1 hm
    · exact absurd h1 hm
set_option maxHeartbeats 16000000 in
set_option maxRecDepth 100000 in
theorem walkM (V : Int) (a : Option Addr) (c : Nat) (R : List RowV) (v : Int) (w : World) (hT : TIn w a R) (hw : ∀ r ∈ R, wfo r.2.fo) (hc : R.length ≤ c) (hbu : bulT R ≤ 1048576) (hv : wfI v) :
    Calls Tryz.prog 3 #[.agg #[.int .i64 V, .slice a R.length c], .int .i64 v] w fun e w' => e = .returned (.bool true) ∧ Below w.heap.size w w' := by
  have hlen : 3 * R.length ≤ 1048576 := by have := bulT_len R; omega
  obtain ⟨c0, g0, hg0, H0⟩ := row_fix V v hbu
  obtain ⟨c1, z1, hz1, H1⟩ := bs_fix V (R := R) (by omega)
  obtain ⟨c2, z2, hz2, H2⟩ := ot_fix V R
  obtain ⟨c3, z3, hz3, H3⟩ := cl_fix V v (R := R) (by omega)
  have GT := xQ1 (fun w' (hb9 : Below w.heap.size w w') => twin_is V a c R w' (hT.later hb9) hc (by omega))
  have P0 := xQ1 (fun w' a2 e2 (S : List RowV) (hS : TIn w' a2 S) (hl : S.length ≤ e2) (hs : S.map sgR = R.map sgR) => show Calls Tryz.prog 4 #[.agg #[.int .i64 V, .slice a2 S.length e2], .int .i64 v] w' (FmA w' c0 g0) from by
      have e3 := sgR_bul hs; have e4 := sgR_length hs
      have h := pRow_is V a2 e2 S v w' hS hl (by omega) (wfo_sg hs hw) hv
      rw [sgR_tb hs] at h
      exact h.mono fun e w2 h2 => H0 _ _ _ h2)
  have R0 := xQ1 (fun w' (hb9 : Below w.heap.size w w') => show Calls Tryz.prog 6 #[.agg #[.int .i64 V, .slice a R.length c], .int .i64 v] w' (FmA w' c0 g0) from (rRow_is V a c R v w' ⟨hT.later hb9, by omega⟩ hc).mono fun e w2 h2 => H0 _ _ _ h2)
  have P1 := xQ1 (fun w' a2 e2 (S : List RowV) (hS : TIn w' a2 S) (hl : S.length ≤ e2) (hs : S.map sgR = R.map sgR) => show Calls Tryz.prog 8 #[.agg #[.int .i64 V, .slice a2 S.length e2]] w' (LsA w' c1 z1) from by
      have e3 := sgR_bul hs; have e4 := sgR_length hs
      have h := pBasics_is V a2 e2 S w' hS hl (by omega) (wfo_sg hs hw)
      rw [sgR_tb hs] at h
      exact h.mono fun e w2 h2 => H1 _ _ _ (by rw [e4] at h2; exact h2))
  have R1 := xQ1 (fun w' (hb9 : Below w.heap.size w w') => show Calls Tryz.prog 9 #[.agg #[.int .i64 V, .slice a R.length c]] w' (LsA w' c1 z1) from (rBasics_is V a c R w' ⟨hT.later hb9, by omega⟩ hc).mono fun e w2 h2 => H1 _ _ _ h2)
  have P2 := xQ1 (fun w' a2 e2 (S : List RowV) (hS : TIn w' a2 S) (hl : S.length ≤ e2) (hs : S.map sgR = R.map sgR) => show Calls Tryz.prog 11 #[.agg #[.int .i64 V, .slice a2 S.length e2]] w' (LsA w' c2 z2) from by
      have e3 := sgR_bul hs; have e4 := sgR_length hs
      have h := pOthers_is V a2 e2 S w' hS hl (by omega) (wfo_sg hs hw)
      rw [sgR_tb hs] at h
      exact h.mono fun e w2 h2 => H2 _ _ _ h2)
  have R2 := xQ1 (fun w' (hb9 : Below w.heap.size w w') => show Calls Tryz.prog 12 #[.agg #[.int .i64 V, .slice a R.length c]] w' (LsA w' c2 z2) from (rOthers_is V a c R w' ⟨hT.later hb9, by omega⟩ hc).mono fun e w2 h2 => H2 _ _ _ h2)
  have P3 := xQ1 (fun w' a2 e2 (S : List RowV) (hS : TIn w' a2 S) (hl : S.length ≤ e2) (hs : S.map sgR = R.map sgR) => show Calls Tryz.prog 13 #[.agg #[.int .i64 V, .slice a2 S.length e2], .int .i64 v] w' (LsA w' c3 z3) from by
      have e3 := sgR_bul hs; have e4 := sgR_length hs
      have h := pColumn_is V a2 e2 S v w' hS hl (by omega) (wfo_sg hs hw) hv
      rw [sgR_tb hs] at h
      exact h.mono fun e w2 h2 => H3 _ _ _ (by rw [e4] at h2; exact h2))
  have R3 := xQ1 (fun w' (hb9 : Below w.heap.size w w') => show Calls Tryz.prog 14 #[.agg #[.int .i64 V, .slice a R.length c], .int .i64 v] w' (LsA w' c3 z3) from (rColumn_is V a c R v w' ⟨hT.later hb9, by omega⟩ hc).mono fun e w2 h2 => H3 _ _ _ h2)
  have GS := xQ1 (fun w' (Y Z : FV) (hY : Y.nk w') (hZ : Z.nk w') (h1 : Y.fo = g0) (h2 : Z.fo = g0) => show Calls Tryz.prog 7 #[Y.val, Z.val] w' fun e w'' => e = .returned (.bool true) ∧ Below w'.heap.size w' w'' from SameForm7_is Y.a Y.c Y.L Z.a Z.c Z.L w' hY.sl.lies hZ.sl.lies hY.en hZ.en hY.sl.len hZ.sl.len (by have h3 := congrArg List.length h1; have h4 : Y.fo.length = Y.L.length := xX3 _; omega) (h1.trans h2.symm))
  have I1 := xQ1 (fun w' a1 e1 a2 e2 (h1 : IAt w' a1 z1) (h2 : IAt w' a2 z1) (k1 : z1.length ≤ e1) (k2 : z1.length ≤ e2) => ints7_is a1 e1 a2 e2 z1 w' h1 h2 k1 k2 hz1)
  have I2 := xQ1 (fun w' a1 e1 a2 e2 (h1 : IAt w' a1 z2) (h2 : IAt w' a2 z2) (k1 : z2.length ≤ e1) (k2 : z2.length ≤ e2) => ints7_is a1 e1 a2 e2 z2 w' h1 h2 k1 k2 hz2)
  have I3 := xQ1 (fun w' a1 e1 a2 e2 (h1 : IAt w' a1 z3) (h2 : IAt w' a2 z3) (k1 : z3.length ≤ e1) (k2 : z3.length ≤ e2) => ints7_is a1 e1 a2 e2 z3 w' h1 h2 k1 k2 hz3)
  have GL := xQ1 (fun w' => lives_is w')
  clear hT hw hbu hv hlen H0 H1 H2 H3 hg0 hz1 hz2 hz3
  have hBw := xQ2 (w := w) (.cells #[.int .i64 V, .slice a R.length c] 24)
  have kX := Bk2.new w V a R.length c 24
  go_enter Tryz.func3, Tryz.ntmps3
  have x0 := kX.cell0
  have x1 := kX.cell1
  go_wp2_with fail
  clear x0 x1
  obtain ⟨wA, hwA⟩ : ∃ wA, w.alloc (.cells #[.int .i64 V, .slice a R.length c] 24) = wA := ⟨_, rfl⟩
  rw [hwA] at hBw kX ⊢
  clear hwA
  refine (GT.out _ hBw).mono ?_
  rintro e s0 ⟨S, a2, e2, rfl, bN, hS, hl, hs⟩
  replace kX := kX.later bN
  replace hBw := hBw.trans (bN.mono hBw.size)
  clear bN
  go_wp2_with fail
  refine (P0.out _ a2 e2 S hS hl hs).mono ?_
  rintro e p0 ⟨F1, rfl, f1, k1, bN⟩
  replace kX := kX.later bN
  replace hBw := hBw.trans (bN.mono hBw.size)
  clear bN
  clear P0 hS hl hs
  have x0 := kX.cell0
  have x1 := kX.cell1
  go_wp2_with fail
  clear x0 x1
  refine (R0.out _ hBw).mono ?_
  rintro e r0 ⟨F2, rfl, f2, k2, bN⟩
  replace kX := kX.later bN
  replace k1 := k1.later bN
  replace hBw := hBw.trans (bN.mono hBw.size)
  clear bN
  clear R0
  go_wp2_with fail
  refine (GS.out _ F1 F2 k1 k2 f1 f2).mono ?_
  rintro e q0 ⟨rfl, bN⟩
  replace kX := kX.later bN
  replace hBw := hBw.trans (bN.mono hBw.size)
  clear bN
  clear GS k1 k2 f1 f2
  have x0 := kX.cell0
  have x1 := kX.cell1
  go_wp2_with fail
  clear x0 x1
  refine (GT.out _ hBw).mono ?_
  rintro e s1 ⟨S, a2, e2, rfl, bN, hS, hl, hs⟩
  replace kX := kX.later bN
  replace hBw := hBw.trans (bN.mono hBw.size)
  clear bN
  go_wp2_with fail
  refine (P1.out _ a2 e2 S hS hl hs).mono ?_
  rintro e p1 ⟨b1, d1, rfl, k1, m1, bN⟩
  replace kX := kX.later bN
  replace hBw := hBw.trans (bN.mono hBw.size)
  clear bN
  clear P1 hS hl hs
  have x0 := kX.cell0
  have x1 := kX.cell1
  go_wp2_with fail
  clear x0 x1
  refine (R1.out _ hBw).mono ?_
  rintro e r1 ⟨b2, d2, rfl, k2, m2, bN⟩
  replace kX := kX.later bN
  replace k1 := k1.later bN
  replace hBw := hBw.trans (bN.mono hBw.size)
  clear bN
  clear R1
  go_wp2_with fail
  refine (I1.out _ b1 d1 b2 d2 k1 k2 m1 m2).mono ?_
  rintro e q1 ⟨rfl, bN⟩
  replace kX := kX.later bN
  replace hBw := hBw.trans (bN.mono hBw.size)
  clear bN
  clear I1 k1 k2 m1 m2
  have x0 := kX.cell0
  have x1 := kX.cell1
  go_wp2_with fail
  clear x0 x1
  refine (GT.out _ hBw).mono ?_
  rintro e s2 ⟨S, a2, e2, rfl, bN, hS, hl, hs⟩
  replace kX := kX.later bN
  replace hBw := hBw.trans (bN.mono hBw.size)
  clear bN
  go_wp2_with fail
  refine (P2.out _ a2 e2 S hS hl hs).mono ?_
  rintro e p2 ⟨b1, d1, rfl, k1, m1, bN⟩
  replace kX := kX.later bN
  replace hBw := hBw.trans (bN.mono hBw.size)
  clear bN
  clear P2 hS hl hs
  have x0 := kX.cell0
  have x1 := kX.cell1
  go_wp2_with fail
  clear x0 x1
  refine (R2.out _ hBw).mono ?_
  rintro e r2 ⟨b2, d2, rfl, k2, m2, bN⟩
  replace kX := kX.later bN
  replace k1 := k1.later bN
  replace hBw := hBw.trans (bN.mono hBw.size)
  clear bN
  clear R2
  go_wp2_with fail
  refine (I2.out _ b1 d1 b2 d2 k1 k2 m1 m2).mono ?_
  rintro e q2 ⟨rfl, bN⟩
  replace kX := kX.later bN
  replace hBw := hBw.trans (bN.mono hBw.size)
  clear bN
  clear I2 k1 k2 m1 m2
  have x0 := kX.cell0
  have x1 := kX.cell1
  go_wp2_with fail
  clear x0 x1
  refine (GT.out _ hBw).mono ?_
  rintro e s3 ⟨S, a2, e2, rfl, bN, hS, hl, hs⟩
  replace kX := kX.later bN
  replace hBw := hBw.trans (bN.mono hBw.size)
  clear bN
  clear GT
  go_wp2_with fail
  refine (P3.out _ a2 e2 S hS hl hs).mono ?_
  rintro e p3 ⟨b1, d1, rfl, k1, m1, bN⟩
  replace kX := kX.later bN
  replace hBw := hBw.trans (bN.mono hBw.size)
  clear bN
  clear P3 hS hl hs
  have x0 := kX.cell0
  have x1 := kX.cell1
  go_wp2_with fail
  clear x0 x1
  refine (R3.out _ hBw).mono ?_
  rintro e r3 ⟨b2, d2, rfl, k2, m2, bN⟩
  replace kX := kX.later bN
  replace k1 := k1.later bN
  replace hBw := hBw.trans (bN.mono hBw.size)
  clear bN
  clear R3
  go_wp2_with fail
  refine (I3.out _ b1 d1 b2 d2 k1 k2 m1 m2).mono ?_
  rintro e q3 ⟨rfl, bN⟩
  replace kX := kX.later bN
  replace hBw := hBw.trans (bN.mono hBw.size)
  clear bN
  clear I3 k1 k2 m1 m2
  go_wp2_with fail
  refine (GL.out _).mono ?_
  rintro e u6 ⟨rfl, bN⟩
  replace kX := kX.later bN
  replace hBw := hBw.trans (bN.mono hBw.size)
  clear bN
  clear GL
  go_wp2
  first | exact ⟨rfl, hBw⟩ | (go_ret; exact ⟨rfl, hBw⟩)
theorem walk (V : Int) (a : Option Addr) (c : Nat) (R : List RowV) (v : Int) (w : World) (hV : wfI V) (hT : TIn w a R) (hw : ∀ r ∈ R, wfo r.2.fo) (hc : R.length ≤ c) (hbu : bulT R ≤ 1048576) (h1 : -9223372036854775808 ≤ v) (h2 : v ≤ 9223372036854775807) :
    Calls Tryz.prog 3 #[.agg #[.int .i64 V, .slice a R.length c], .int .i64 v] w fun e w' => e = .returned (.bool true) ∧ Below w.heap.size w w' := walkM V a c R v w hT hw hc hbu (wfI_of (by omega) (by omega))
set_option maxRecDepth 100000 in
theorem contract (H : Type) (enc : TypeId × Value → H) (W : World) (base : Nat) (args : Array Value) (ds gs : List (DataW H)) (before : List MemPlace)
    (hval : ∀ (j : Nat) t v, Tryz.f3.params[j]? = some t → args[j]? = some v → Value.okWide Tryz.prog W .any base t v)
    (hW : DataW.Whole enc Tryz.prog Tryz.f3.params.toList Rows.tableauRowsSpec.vars false W args.toList ds gs before)
    (hsz : (DataW.weightsEach Tryz.prog (Tryz.f3.params.toList ++ Rows.tableauRowsSpec.plain.varTypes Tryz.prog) (ds ++ gs)).all (· ≤ reachBytes) = true) (hk : Rows.uptoSmall H (ds ++ gs) = true) :
    Calls Tryz.prog 3 args W fun e W' => ∃ v, e = .returned v ∧ Rows.tableauRowsSpec.post enc Tryz.prog Tryz.f3 false true false false W args v W' := by
  have hW' := hW
  obtain ⟨p, q, hA0, hV, rfl, hfz, hnd⟩ := hW
  have hA : DataW.TrodAll enc Tryz.prog W 0 (fun _ => true) true Tryz.f3.params.toList args.toList ds p := hA0
  rw [Tryz.params3] at hA hval hsz
  obtain ⟨v0, vs0, d0, ds0, p0, q0, hargs, rfl, rfl, h0, r0⟩ := trodAll_cons hA
  obtain ⟨v1, vs1, d1, ds1, p1, q1, rfl, rfl, rfl, h1, r1⟩ := trodAll_cons r0
  obtain ⟨rfl, rfl, rfl⟩ := trodAll_nil r1
  obtain rfl : args = #[v0, v1] := by cases args; simp_all
  obtain ⟨rfl, rfl⟩ := trodVars_none hV
  have lt0 : ∀ x ∈ p0, x.block < W.heap.size := by obtain ⟨m, hm⟩ := h0; exact DataW.trod_lt m _ _ _ hm
  obtain ⟨tv0, ta0, tc0, tR0, rfl, hTv0, hT0, hTw0, hTc0, hTu0⟩ := open_Tab (hval 0 24 v0 rfl rfl) h0 (sized_at 0 hsz rfl rfl)
  obtain ⟨z1, rfl, rfl, rfl, w1⟩ := open_int Tryz.underlying3 (hval 1 3 v1 rfl rfl) h1
  have bz1 := bounds_i64 w1
  clear hA0
  have hbulk := of_decide_eq_true hk
  simp only [List.append_nil, Rows.uptoBulkAll] at hbulk
  simp only [List.append_nil] at hW'
  refine (walk tv0 ta0 tc0 tR0 z1 W hTv0 hT0 hTw0 hTc0 (by omega) (by omega) (by omega)).mono fun e W' ⟨he, bel⟩ => ?_
  subst he
  exact ⟨_, rfl, _, _, _, [], _, [], hW', trodAll_mk1 (shut_bool Tryz.underlying4 _), (trodAll_cons_mk (Below.trod laidOut (by kernel_rfl) (of_decide_eq_true (by kernel_rfl)) h0 bel lt0) (trodAll_cons_mk (shut_int Tryz.underlying3 w1) trodAll_mk0)), rfl, bel.frame _, fun h => by cases h⟩
set_option maxRecDepth 100000 in
theorem lifted (os : Os) (started : os.Started) (H : Type) (enc : TypeId × Value → H) (F : Stop.Interp) :
    ReturnsInHanded {} Tryz.checked os 3 .any ((Rows.OpenSpec.upto Rows.tableauRowsSpec).pre6 enc Tryz.prog Tryz.f3 Rows.tableauRowsUptoRow.domain false) (((Rows.OpenSpec.upto Rows.tableauRowsSpec).at F).post enc Tryz.prog Tryz.f3 false true false false) := by
  refine returnsInHanded_of_cond_sized (C := Tryz.checked) (s := Rows.OpenSpec.upto Rows.tableauRowsSpec) (k := Rows.uptoSmall) rfl own started (by kernel_rfl) Tryz.func3
    (OpenSpec.witness (enc := enc) (C := Tryz.checked) (s := Rows.OpenSpec.upto Rows.tableauRowsSpec) (k := Rows.uptoSmall) rfl false ⟨#[], #[.agg #[.int .i64 0, .slice none 0 0], .int .i64 0], []⟩ 8 (by kernel_rfl) (by kernel_rfl) (by kernel_rfl)
      (x := ([.agg [.lit (.int .i64 0), .nil], .lit (.int .i64 0)], [], [])) (by kernel_rfl) rfl (by kernel_rfl)) ?_
  intro W base args ds gs before hval hW _ hk hsz _
  exact contract H enc W base args ds gs before hval hW hsz hk
theorem over : Rows.tableauRowsUptoRow.holds Tryz.pinned (Rows.OpenSpec.upto Rows.tableauRowsSpec) :=
  OpenClaim.holds_of_cond 3 Tryz.f3 rfl rfl rfl rfl rfl rfl rfl ⟨rfl, rfl, rfl, rfl, rfl⟩ rfl rfl rfl rfl rfl (by kernel_rfl) Tryz.func3 (by kernel_rfl)
    (of_decide_eq_true (by kernel_rfl)) (by unfold Func.isWrapper; first | (rw [if_pos (by decide +kernel)]; kernel_rfl) | (rw [if_neg (by decide +kernel)]; exact ⟨rfl, rfl⟩))
    (fun os started H enc _ F => lifted os started H enc F)
end Go.Proofs.YtgfmaejhdbmkoaaGreat.tableauRows
namespace Go.Proofs.YtgfmaejhdbmkoaaGreat
theorem tableauRows_holds : Rows.TableauRowsUptoSaid := tableauRows.over
#print axioms tableauRows_holds
end Go.Proofs.YtgfmaejhdbmkoaaGreat
