/-
  TokensSpread: the walk.
-/
import Derived.Test.YtdbhhlecdgbpkaaDoorTQ2
import Derived.Test.YtdbhhlecdgbpkaaDoorTP6
namespace Go.Proofs.YtdbhhlecdgbpkaaDoor
open Go.RowKit
set_option linter.unusedVariables false
set_option linter.unusedSimpArgs false
theorem charP_ts3 (p : PS) (r : Nat) (us : List UInt8) : (charP p r us).1.length ≤ 2 := by
  have := told_len p r
  unfold charP
  repeat' split
  all_goals simp only [List.length_append, List.length_cons, List.length_nil]
  all_goals omega
theorem feed_len3 (p : PS) (bs : List UInt8) : (feedP p bs).1.length ≤ bs.length * 2 := by
  induction bs generalizing p with
  | nil => simp [feedP]
  | cons u us ih =>
    have h1 := charP_ts3 p u.toNat [u]
    simp only [feedP]
    rcases hc : charP p u.toNat [u] with ⟨t1, o1⟩
    rw [hc] at h1
    cases o1 with
    | bad B L C => simp only [List.length_cons] at h1 ⊢; omega
    | ok q =>
      have := ih q
      simp only [List.length_append, List.length_cons] at h1 ⊢
      omega
theorem allP_len3 (S : List UInt8) : (allP S).1.length ≤ S.length * 2 + 1 := by
  have h := feed_len3 pI S
  unfold allP
  rcases hf : feedP pI S with ⟨ts, o⟩
  rw [hf] at h
  cases o with
  | bad B L C => simp only at h ⊢; omega
  | ok q => simp only at h ⊢; rw [List.length_append]; have := end_len q; omega
set_option maxHeartbeats 8000000 in
set_option maxRecDepth 100000 in
theorem spread_walk (s : ByteArray) (w : World) (hsz : s.size ≤ 1048576) (hM : MaxL w) (hmx : mxB < w.heap.size) : Calls Tryd.prog 3 #[.string s] w fun r w' => r = .returned (.bool true) ∧ Below w.heap.size w w' := by
  obtain ⟨pr, p1, p2, p3, p4⟩ := all_spread (lsB s)
  have hll := allP_len3 (lsB s)
  rw [lsB_len] at p1 p2 hll
  have GA := hideT (all_is s w (by omega) hM hmx)
  change Hid (Calls _ _ _ _ fun e w' => ∃ (v : Value) (z2 z3 z4 z5 : Int), e = .returned (.tuple #[v, .int .i64 (allP (lsB s)).2, _]) ∧ w'.ownsRow w.heap.size _ 6 v (allP (lsB s)).1.length (tokCells (allP (lsB s)).1) ∧ _ ∧ _) at GA
  obtain ⟨er, her⟩ : ∃ er, (allP (lsB s)).2 = er := ⟨_, rfl⟩
  rw [her] at GA
  clear her
  generalize (allP (lsB s)).1 = L at GA p1 p2 p3 p4 hll
  have HP1 := hideT p1
  have hcat : ∀ k, (cat pr (L.take k)).size ≤ 5242880 := fun k => by
    have h1 := cat_size pr (L.take k) (fun T hT => (p1 T (List.mem_of_mem_take hT)).1.size)
    have h2 := wgt_take L k
    omega
  have HCAT := hideT hcat
  have HP3 := hideT p3
  have HP4 := hideT p4
  clear p1 p2 p3 p4 hcat
  go_enter Tryd.func3, Tryd.ntmps3
  go_wp2_with fail
  refine GA.out.mono ?_
  rintro e_ w1 ⟨v, z2, z3, z4, z5, rfl, own, b1, _⟩
  clear GA
  have b2 := below_alloc (w := w1) (.cells #[.int .i64 0, .string ⟨#[]⟩, .int .i64 z2, .int .i64 z3, .int .i64 z4, .int .i64 z5] 25)
  have hB := b1.trans (b2.mono b1.size)
  replace own := own_kp own (Kp.of (X := fun _ => False) b2) (fun _ _ c => c)
  clear b1 b2
  obtain ⟨a0, cp, ev⟩ := own_sl own
  subst ev
  by_cases h0 : er = 0
  · subst h0
    go_wp2_with fail
    go_loopw [6, 7] (fun o i wr => ∃ k : Nat, k ≤ L.length ∧ i = .int .i64 k ∧ o = .string (cat pr (L.take k)) ∧ wr.ownsRow w.heap.size 25 6 (.slice a0 L.length cp) L.length (tokCells L) ∧ Below w.heap.size w wr) (fun o i wr => L.length - (intOf i).toNat)
    case atStart => exact ⟨0, Nat.zero_le _, rfl, rfl, own, hB⟩
    case round =>
      clear own hB
      obtain ⟨k, hk, rfl, rfl, own, hB⟩ := hrel
      have hMr := hM.on hB
      have hzr : mxB < wr.heap.size := by have := hB.size; omega
      by_cases hlt : k < L.length
      · have hki : ((k : Int) < (L.length : Int)) := by omega
        rcases own.2 with ⟨_, h0⟩ | ⟨g1, q1, r1, hv1, _⟩
        · omega
        injection hv1 with hv1 _ hc1
        subst hv1
        subst hc1
        have z0_ : wr.cell? ⟨g1, k * 6 + 0, none⟩ = _ := own_tok own k 0 hlt (by decide)
        have z1_ : wr.cell? ⟨g1, k * 6 + 1, none⟩ = _ := own_tok own k 1 hlt (by decide)
        have z2_ : wr.cell? ⟨g1, k * 6 + 2, none⟩ = _ := own_tok own k 2 hlt (by decide)
        have z3_ : wr.cell? ⟨g1, k * 6 + 3, none⟩ = _ := own_tok own k 3 hlt (by decide)
        have z4_ : wr.cell? ⟨g1, k * 6 + 4, none⟩ = _ := own_tok own k 4 hlt (by decide)
        have z5_ : wr.cell? ⟨g1, k * 6 + 5, none⟩ = _ := own_tok own k 5 hlt (by decide)
        obtain ⟨hpr, hts⟩ := HP1.out L[k] (List.getElem_mem hlt)
        have hco := cat_on pr L k hlt
        have hcz := HCAT.out k
        obtain ⟨T, hT⟩ : ∃ T, L[k] = T := ⟨_, rfl⟩
        rw [hT] at hpr hts hco z0_ z1_ z2_ z3_ z4_ z5_
        simp only [Tok.cells, List.getElem?_cons_zero, List.getElem?_cons_succ] at z0_ z1_ z2_ z3_ z4_ z5_
        rw [Nat.add_zero] at z0_
        have hps := hpr.size
        have HPR := hideT hpr
        have HCO := hideT hco
        clear hT hpr hco
        generalize cat pr (L.take k) = O at hcz HCO ⊢
        have GP := hideT (fun W h1 h2 => print_is (T.k : Int) T.t T.b T.e T.l T.c W (by omega) h1 h2)
        go_wp2_with fail
        refine (GP.out _ hMr hzr).mono ?_
        rintro e_ w2 ⟨s2, c2, rfl, pr2, b2⟩
        clear GP z0_ z1_ z2_ z3_ z4_ z5_
        obtain ⟨es, ec⟩ := HPR.out.uniq pr2
        subst es
        subst ec
        clear pr2
        replace own := own_kp own (Kp.of (X := fun _ => False) b2) (fun _ _ c => c)
        replace hB := hB.trans (b2.mono hB.size)
        clear b2
        go_wp2
        go_roundw
        case rel => exact ⟨k + 1, by omega, by go_num, by rw [HCO.out], own, hB⟩
        case measure => simp [intOf]; omega
      · have hki : ¬ ((k : Int) < (L.length : Int)) := by omega
        have ek : k = L.length := by omega
        subst ek
        have hcz := HCAT.out L.length
        rw [List.take_length] at hcz ⊢
        have GL := hideT (all_is (cat pr L) wr (by omega) hMr hzr)
        change Hid (Calls _ _ _ _ fun e w' => ∃ (v : Value) (z2 z3 z4 z5 : Int), e = .returned (.tuple #[v, .int .i64 (allP (lsB (cat pr L))).2, _]) ∧ w'.ownsRow wr.heap.size _ 6 v (allP (lsB (cat pr L))).1.length (tokCells (allP (lsB (cat pr L))).1) ∧ _ ∧ _) at GL
        have h3 := HP3.out
        rw [HP4.out] at GL
        generalize (allP (lsB (cat pr L))).1 = M at GL h3
        have hml := KT_len h3
        rw [hml] at GL
        have H3 := hideT h3
        clear h3
        go_wp2_with fail
        refine GL.out.mono ?_
        rintro e_ w2 ⟨v2, y2, y3, y4, y5, rfl, own2, b2, _⟩
        clear GL
        have b3 := below_alloc (w := w2) (.cells #[.int .i64 0, .string ⟨#[]⟩, .int .i64 y2, .int .i64 y3, .int .i64 y4, .int .i64 y5] 25)
        have bb := b2.trans (b3.mono b2.size)
        replace own := own_kp own (Kp.of (X := fun _ => False) bb) (fun _ _ c => c)
        replace own2 := own_kp own2 (Kp.of (X := fun _ => False) b3) (fun _ _ c => c)
        replace hB := hB.trans (bb.mono hB.size)
        clear b2 b3 bb hMr hzr
        obtain ⟨a2, cp2, ev2⟩ := own_sl own2
        subst ev2
        go_wp2_with fail
        go_loopw [13] (fun i wr => ∃ k : Nat, k ≤ L.length ∧ i = .int .i64 k ∧ wr.ownsRow w.heap.size 25 6 (.slice a0 L.length cp) L.length (tokCells L) ∧ (∃ b9, wr.ownsRow b9 25 6 (.slice a2 L.length cp2) L.length (tokCells M)) ∧ Below w.heap.size w wr) (fun i wr => L.length - (intOf i).toNat)
        case atStart => exact ⟨0, Nat.zero_le _, rfl, own, ⟨_, own2⟩, hB⟩
        case round =>
          clear own own2 hB
          obtain ⟨k, hk, rfl, own, ⟨b9, own2⟩, hB⟩ := hrel
          by_cases hlt : k < L.length
          · have hki : ((k : Int) < (L.length : Int)) := by omega
            rcases own.2 with ⟨_, h0⟩ | ⟨g1, q1, r1, hv1, _⟩
            · omega
            injection hv1 with hv1 _ hc1
            subst hv1
            subst hc1
            rcases own2.2 with ⟨_, h0⟩ | ⟨g2, q2, r2, hv2, _⟩
            · omega
            injection hv2 with hv2 _ hc2
            subst hv2
            subst hc2
            have x0 := own_tok own k 0 hlt (by decide)
            have x1 := own_tok own k 1 hlt (by decide)
            have u0 := own_tok own2 k 0 (by omega) (by decide)
            have u1 := own_tok own2 k 1 (by omega) (by decide)
            obtain ⟨f1, f2⟩ := KT_at H3.out k (by omega) hlt
            simp only [Tok.cells, List.getElem?_cons_zero, List.getElem?_cons_succ] at x0 x1 u0 u1
            rw [f1] at u0
            rw [f2] at u1
            rw [Nat.add_zero] at x0 u0
            clear f1 f2
            generalize L[k].k = xk at x0 u0
            generalize L[k].t = xt at x1 u1
            go_wp2_with fail
            go_quiet (fail)
            go_wp2
            go_roundw
            case rel => exact ⟨k + 1, by omega, by go_num, own, ⟨b9, own2⟩, hB.trans ⟨rfl, rfl, rfl, Nat.le_refl _, fun _ _ => rfl⟩⟩
            case measure => simp [intOf]; omega
          · have hki : ¬ ((k : Int) < (L.length : Int)) := by omega
            have GW := hideT (fun W h1 h2 => awake_is W h1 h2)
            have hMr := hM.on hB
            have hzr := Nat.lt_of_lt_of_le hmx hB.size
            go_wp2_with fail
            refine (GW.out _ hMr hzr).mono ?_
            rintro e_ w5 ⟨rfl, b5⟩
            go_wp2
            go_ret
            exact ⟨rfl, hB.trans (b5.mono hB.size)⟩
  · have x0 : (er != 0) = true := by rw [bne_iff_ne]; exact h0
    have GW := hideT (fun W h1 h2 => awake_is W h1 h2)
    have hMr := hM.on hB
    have hzr := Nat.lt_of_lt_of_le hmx hB.size
    clear h0 own
    go_wp2_with fail
    refine (GW.out _ hMr hzr).mono ?_
    rintro e_ w5 ⟨rfl, b5⟩
    go_wp2
    go_ret
    exact ⟨rfl, hB.trans (b5.mono hB.size)⟩

end Go.Proofs.YtdbhhlecdgbpkaaDoor
