/-
  clauses: the reference's Norm.
-/
import Derived.Test.YtnjidhoceacenaaCLC
namespace Go.Proofs.Ytnjidhoceacenaa
open Go.RowKit
set_option linter.unusedVariables false
set_option linter.unusedSimpArgs false
theorem Own.drew {w wr : World} {v : Value} {s : List Int} (h : Own w wr v s) (q : Nat) : Own w (wr.drewN q) v s :=
  h.later ⟨rfl, rfl, rfl, Nat.le_refl _, fun _ _ => rfl⟩
theorem Own.put {w wr : World} {gb cap off m : Nat} {s : List Int} (ho : off = 0) (h : Own w wr (.slice (some ⟨gb, off, none⟩) m cap) s) (hm : s.length = m) (j : Nat) (z : Int) :
    Own w (wr.setCell ⟨gb, off + j, none⟩ (.int .i64 z)) (.slice (some ⟨gb, off, none⟩) m cap) (s.set j z) := by
  subst ho
  subst hm
  obtain ⟨h1, h2⟩ := h
  have hs := h1.stored j (.int .i64 z)
  have hl := h1.lt gb rfl
  rw [Nat.zero_add]
  refine ⟨?_, h2.trans (below_grown h2.size (fun k hk => by injection hk with hk; subst hk; exact hl.1) hs.2)⟩
  rw [List.length_set, ← iv_set]
  exact hs.1
theorem Own.cell {w wr : World} {gb cap off m : Nat} {s : List Int} (ho : off = 0) (h : Own w wr (.slice (some ⟨gb, off, none⟩) m cap) s) (hm : s.length = m) {j : Nat} {z : Int} (hj : s[j]? = some z) :
    wr.cell? ⟨gb, off + j, none⟩ = some (.int .i64 z) ∧ wr.frozen? ⟨gb, off + j, none⟩ = false := by
  subst ho
  subst hm
  rw [Nat.zero_add]
  have hl : j < s.length := (List.getElem?_eq_some_iff.1 hj).1
  refine ⟨?_, h.1.frozenAt j⟩
  rw [h.1.cellAt j (by omega), iv_at hj]
theorem swap_list (B C : List Int) (x y : Int) : ((B ++ y :: x :: C).set (B.length + 1) y).set B.length x = B ++ x :: y :: C := by
  rw [List.set_append_right _ _ (by omega), List.set_append_right _ _ (by omega)]
  simp
theorem last_ahd {B C : List Int} {x : Int} (hp : (B ++ C).Pairwise ahd) (hx : x ∉ B) (hl : ∀ y, B.getLast? = some y → ¬ ahd x y) : ∀ y ∈ B, ahd y x := by
  intro y hy
  obtain ⟨B', z, rfl⟩ : ∃ B' z, B = B' ++ [z] := by
    rcases List.eq_nil_or_concat B with rfl | ⟨B', z, rfl⟩
    · cases hy
    · exact ⟨B', z, by simp⟩
  have hz : ahd z x := by
    rcases ahd_tri (x := z) (y := x) (fun e => hx (by simp [e])) with h | h
    · exact h
    · exact absurd h (hl z (by simp))
  rcases List.mem_append.1 hy with h | h
  · rw [List.pairwise_append] at hp
    have := (List.pairwise_append.1 hp.1).2.2 y h z (by simp)
    exact ahd_trans this hz
  · rw [List.mem_singleton.1 h]; exact hz
set_option maxHeartbeats 4000000 in
set_option maxRecDepth 100000 in
theorem rNorm_is (a : Option Addr) (n c : Nat) (g : Nat → Int) (w : World) (h : LitsAt w a n g) (hl : allN isLit g n = true) (hn : n ≤ 4194304) :
    Calls Try.prog 5 #[.slice a n c] w fun e w' => ∃ v s, e = .returned (.tuple #[v, .bool (decide (hasB (lst g n))), .int .i64 0]) ∧ Nrm (lst g n) s ∧ Own w w' v s ∧ s.length ≤ n := by
  obtain ⟨i0, hi0, hz0, hz1, hz2⟩ := info_parts info_i
  have G1 := hide' (Literals_is a n c g w h)
  rw [hl] at G1
  have HL := hide' h
  have HI := hide' (allN_true.1 hl)
  clear h hl
  go_enter Try.func5, Try.ntmps5
  go_wp2_with fail
  refine G1.out.mono ?_
  rintro e w1 ⟨rfl, b1⟩
  have B1 := hide' b1
  clear b1 G1
  go_wp2
  go_loopw [6, 7, 8] (fun vo vb vi wr => ∃ (k : Nat) (s : List Int), k ≤ n ∧ vi = .int .i64 k ∧ vb = .bool (decide (hasB (lst g k))) ∧ Nrm (lst g k) s ∧ Own w wr vo s ∧ s.length ≤ k) (fun _ _ vi _ => n - (intOf vi).toNat)
  case atStart => exact ⟨0, [], Nat.zero_le _, rfl, (by rw [decide_eq_false]; rintro ⟨x, h, _⟩; cases h), ⟨List.Pairwise.nil, fun x => Iff.rfl⟩, ⟨World.ownsRow_nil _ _ _ _, B1.out⟩, Nat.zero_le _⟩
  case round =>
    obtain ⟨k, s, hk, rfl, rfl, hN, hO, hsl⟩ := hrel
    have HN := hide' hN
    clear hN
    by_cases hlt : k < n
    · skip
      have hki : ((k : Int) < (n : Int)) := by omega
      have okS := nrm_ok HN.out hk HL.out.2.1
      obtain ⟨va, cap0, rfl, hcap, hLi⟩ := own_lits hO.1 okS
      have hB := hO.2
      have GH := hide' (fun x => Has_is va s.length cap0 _ x wr hLi)
      rw [show lst (fun i => s.getD i 0) s.length = s from lst_of s] at GH
      have HA := hide' (fun i (hi : i < n) => HL.out.2.2 (by omega))
      obtain ⟨b, off0, rfl, hcb⟩ := HL.out.2.2 (by omega)
      have hck := below_cell hB (hcb k hlt)
      have HC := hide' hcb
      clear hcb hLi okS HA
      have hxl := HI.out k hlt
      obtain ⟨x, hx⟩ : ∃ x, g k = x := ⟨_, rfl⟩
      rw [hx] at hck hxl
      have hxr : -9223372036854775808 < x ∧ x ≤ 9223372036854775807 ∧ x ≠ 0 := by have h1 := HL.out.2.1 k hlt; rw [hx] at h1; unfold isLit at hxl; simp at hxl; omega
      clear hxl
      have HX := hide' hx
      clear hx
      have HO := hide' hO
      clear hO
      obtain ⟨bo, hbo⟩ : ∃ bo, decide (hasB (lst g k)) = bo := ⟨_, rfl⟩
      rw [hbo]
      have HBO := hide' hbo
      clear hbo
      obtain ⟨m, hm⟩ : ∃ m, s.length = m := ⟨_, rfl⟩
      rw [hm] at hcap hsl GH HO ⊢
      have HM := hide' hm
      clear hm
      by_cases hin : x ∈ s
      · have G2 := hide' ((GH.out x).mono fun e w' h => h)
        rw [decide_eq_true hin] at G2
        go_wp2_with fail
        refine G2.out.mono ?_
        rintro e w2 ⟨rfl, b2⟩
        have B2 := hide' b2
        clear b2
        go_wp2
        go_roundw
        case rel => exact ⟨k + 1, s, by omega, by go_simp, (by rw [← HBO.out]; congr 1; exact (decide_eq_decide.2 (hasB_in (by rw [HX.out]; exact (HN.out.2 x).1 hin)).symm)), nrm_in HN.out (by rw [HX.out]; exact hin), HO.out.later B2.out, by rw [HM.out]; omega⟩
        case measure => simp only [intOf]; omega
      · have G2 := hide' ((GH.out x).mono fun e w' h => h)
        rw [decide_eq_false hin] at G2
        have HIN := hide' hin
        clear hin
        have hbo2 : decide (hasB (lst g (k + 1))) = (bo || decide (-x ∈ s)) := by rw [← HBO.out, Bool.eq_iff_iff]; simp only [Bool.or_eq_true, decide_eq_true_eq]; rw [hasB_out (by rw [HX.out]; exact hxr.2.2), HX.out, HN.out.2 (-x)]
        have HB2 := hide' hbo2
        clear hbo2
        go_wp2_with fail
        refine G2.out.mono ?_
        rintro e w2 ⟨rfl, b2⟩
        replace hck := below_cell b2 hck
        have hO := HO.out.later b2
        replace hB := hO.2
        have G3 := hide' (show Calls Try.prog 16 #[.slice va m cap0, .int .i64 (-x)] w2 _ from Has_is va m cap0 _ (-x) w2 ((by have := own_lits hO.1 (nrm_ok HN.out hk HL.out.2.1); obtain ⟨a9, c9, e9, _, h9⟩ := this; rw [HM.out] at e9 h9; injection e9 with e1 e2 e3; rw [e1]; exact h9 : LitsAt w2 va m (fun i => s.getD i 0))))
        rw [← HM.out, show lst (fun i => s.getD i 0) s.length = s from lst_of s, HM.out] at G3
        obtain ⟨cc, hcc⟩ : ∃ cc, decide (-x ∈ s) = cc := ⟨_, rfl⟩
        rw [hcc] at G3
        have HCC := hide' hcc
        clear hcc b2 G2 GH HO
        have HO := hide' hO
        clear hO
        cases bo
        · skip
          go_wp2_with fail
          refine G3.out.mono ?_
          rintro e w3 ⟨rfl, b3⟩
          replace hck := below_cell b3 hck
          replace HO := hide' (HO.out.later b3)
          clear b3 G3
          have hO := HO.out
          have hB := HO.out.2
          replace hO := hO.1
          rw [HM.out] at hO
          obtain ⟨wB, hwB⟩ : ∃ wB, w3.alloc (.cells #[.int .i64 x] 3) = wB := ⟨_, rfl⟩
          have hnew := heap_alloc_new w3 (.cells #[.int .i64 x] 3)
          have b3 := below_alloc (w := w3) (.cells #[.int .i64 x] 3)
          rw [hwB] at hnew b3
          have hO3 := own_below hO b3
          have s3 := b3.size
          have s4 := hB.size
          have hbB : w.heap.size ≤ wB.heap.size := by omega
          have hbl : (m + 1) * 8 ≤ 140737488355328 := by omega
          have hrow := fun k hk => (hO.lt k hk)
          go_wp2_with (at_builtin; (try rw [hwB]); refine wpList_append_lies _ (by rfl) _ _ _ (by rfl) w.heap.size 3 i0 _ 1 8 Try.underlying23 hi0 hz0 hz1 hz2 rfl (by omega) _ m (iv s) (by rfl) hO3 ⟨w3.heap.size, 0, none⟩ 1 1 [.int .i64 x] (by rfl) (by rfl) (World.news_of_block (cs := #[.int .i64 x]) (t := 3) (fr := (0, 0)) hnew) (by simp [Value.oneCell']) (by omega) (by simp only [maxLen]; omega) hbl hbB wB.heap.size rfl ?_)
          intro gb cap w9 hown4 hgrow hat hlt4
          have hB3 := hB.trans (b3.mono hB.size)
          have hB9 := hB3.trans (below_grown hB3.size (fun k hk => (hrow k hk).1) hgrow)
          have hgb : w.heap.size ≤ gb := by rcases hat with h | h; (exact (hrow _ h).1); omega
          clear hgrow hat hnew b3 hO3 hB3 hrow s3 hbB hbl hO hB
          have I1 := hide' (show Own w w9 (.slice (some ⟨gb, 0, none⟩) (m + 1) cap) (s ++ [x]) from ⟨by rw [List.length_append, HM.out, iv_append]; exact hown4, hB9⟩)
          clear hown4 hB9 hck
          obtain ⟨off, hoff⟩ : ∃ off, (⟨gb, 0, none⟩ : Addr) = ⟨gb, off, none⟩ := ⟨0, rfl⟩
          rw [hoff] at I1 ⊢
          have HF := hide' (show off = 0 from by injection hoff with _ h _; exact h.symm)
          clear hoff
          have hmx : ((m : Int) + 1) ≤ 4611686018427387904 := by omega
          go_wp2
          go_loopw [9] (fun vj wx => ∃ (B C : List Int), s = B ++ C ∧ vj = .int .i64 (B.length : Nat) ∧ (∀ y ∈ C, ahd x y) ∧ Own w wx (.slice (some ⟨gb, off, none⟩) (m + 1) cap) (B ++ x :: C)) (fun vj _ => (intOf vj).toNat)
          case atStart => exact ⟨s, [], by simp, (by rw [HM.out]; try go_simp), (fun y hy => by cases hy), I1.out⟩
          case round =>
            obtain ⟨B, C, hs, rfl, hC, hO9⟩ := hrel
            have HS := hide' hs
            have HCx := hide' hC
            clear hs hC
            have hlen := congrArg List.length HS.out
            rw [HM.out, List.length_append] at hlen
            have OUT := hide' (show (∀ y, B.getLast? = some y → ¬ ahd x y) → ∀ q, ∃ (k' : Nat) (s' : List Int), k' ≤ n ∧ (Value.int .i64 ((k : Int) + 1)) = .int .i64 k' ∧ (Value.bool (cc)) = .bool (decide (hasB (lst g k'))) ∧ Nrm (lst g k') s' ∧ Own w (wr.drewN q) (.slice (some ⟨gb, off, none⟩) (m + 1) cap) s' ∧ s'.length ≤ k' from fun hl q => ⟨k + 1, B ++ x :: C, by omega, by go_simp, by rw [HB2.out, HCC.out]; try rfl, nrm_put HN.out HS.out HX.out HCx.out (last_ahd (by rw [← HS.out]; exact HN.out.1) (fun h => HIN.out (by rw [HS.out]; exact List.mem_append_left _ h)) hl), hO9.drew q, by simp; omega⟩)
            rcases List.eq_nil_or_concat B with rfl | ⟨B9, y, rfl⟩
            · skip
              have O2 := hide' (OUT.out (fun y hy => by simp at hy))
              clear OUT
              rw [show ((([] : List Int).length : Nat) : Int) = 0 from rfl]
              go_wp2_with fail
              go_quiet (fail)
              go_wp2
              go_roundw
              case rel => exact O2.out _
              case measure => simp only [intOf]; omega
            · skip
              simp only [List.concat_eq_append] at *
              obtain ⟨i, hi⟩ : ∃ i, B9.length = i := ⟨_, rfl⟩
              have hil : (B9 ++ [y]).length = i + 1 := by simp [hi]
              rw [hil] at hlen ⊢
              have c1 := hO9.cell (j := i + 1) (z := x) HF.out (by simp; omega) (by rw [List.getElem?_append_right (by simp; omega)]; simp [hi])
              have c0 := hO9.cell (j := i) (z := y) HF.out (by simp; omega) (by rw [List.append_assoc, List.getElem?_append_right (by omega)]; simp [hi])
              obtain ⟨c1, f1⟩ := c1
              obtain ⟨c0, f0⟩ := c0
              have hyr : -9223372036854775808 < y ∧ y ≤ 9223372036854775807 := by have h1 := nrm_lits HN.out hk HI.out y (by rw [HS.out]; simp); have h2 := nrm_ok HN.out hk HL.out.2.1 y (by rw [HS.out]; simp); unfold isLit at h1; simp at h1; omega
              have GA := hide' (fun w' => ahead_is x y ⟨hxr.1, hxr.2.1⟩ hyr w')
              clear hyr
              have HI9 := hide' hi
              have HO9 := hide' hO9
              clear hi hil hO9
              have hj1 : (((i + 1 : Nat) : Int) > 0) := by omega
              have hii : ((i + 1 : Nat) : Int) < ((m : Int) + 1) := by omega
              cases hd : decide (ahd x y)
              · rw [hd] at GA
                have O2 := hide' (OUT.out (fun z hz => by simp at hz; rw [← hz]; exact of_decide_eq_false hd))
                clear OUT hd
                go_wp2_with fail
                go_quiet ((go_at_call 17; exact Calls.quiet_of_same (GA.out _)))
                go_wp2
                go_roundw
                case rel => exact O2.out _
                case measure => simp only [intOf]; omega
              · rw [hd] at GA
                have HD := hide' (of_decide_eq_true hd)
                clear OUT hd
                go_wp2_with fail
                go_quiet ((go_at_call 17; exact Calls.quiet_of_same (GA.out _)))
                go_wp2
                go_region
                all_goals go_wp2
                go_roundw
                case rel => exact ⟨B9, y :: C, by rw [HS.out]; simp, (by rw [HI9.out]; try go_simp), (fun z hz => by rcases List.mem_cons.1 hz with rfl | hz; (exact HD.out); exact HCx.out z hz), (by have h8 := swap_list B9 C x y; rw [HI9.out] at h8; have h7 := HO9.out; rw [List.append_assoc] at h7; rw [← h8]; exact ((h7.drew _).put HF.out (by have h6 := HI9.out; simp; omega) (i + 1) y).put HF.out (by have h6 := HI9.out; simp; omega) i x)⟩
                case measure => simp only [intOf]; omega
        · skip
          clear G3
          have hO := HO.out
          have hB := HO.out.2
          replace hO := hO.1
          rw [HM.out] at hO
          obtain ⟨wB, hwB⟩ : ∃ wB, w2.alloc (.cells #[.int .i64 x] 3) = wB := ⟨_, rfl⟩
          have hnew := heap_alloc_new w2 (.cells #[.int .i64 x] 3)
          have b3 := below_alloc (w := w2) (.cells #[.int .i64 x] 3)
          rw [hwB] at hnew b3
          have hO3 := own_below hO b3
          have s3 := b3.size
          have s4 := hB.size
          have hbB : w.heap.size ≤ wB.heap.size := by omega
          have hbl : (m + 1) * 8 ≤ 140737488355328 := by omega
          have hrow := fun k hk => (hO.lt k hk)
          go_wp2_with (at_builtin; (try rw [hwB]); refine wpList_append_lies _ (by rfl) _ _ _ (by rfl) w.heap.size 3 i0 _ 1 8 Try.underlying23 hi0 hz0 hz1 hz2 rfl (by omega) _ m (iv s) (by rfl) hO3 ⟨w2.heap.size, 0, none⟩ 1 1 [.int .i64 x] (by rfl) (by rfl) (World.news_of_block (cs := #[.int .i64 x]) (t := 3) (fr := (0, 0)) hnew) (by simp [Value.oneCell']) (by omega) (by simp only [maxLen]; omega) hbl hbB wB.heap.size rfl ?_)
          intro gb cap w9 hown4 hgrow hat hlt4
          have hB3 := hB.trans (b3.mono hB.size)
          have hB9 := hB3.trans (below_grown hB3.size (fun k hk => (hrow k hk).1) hgrow)
          have hgb : w.heap.size ≤ gb := by rcases hat with h | h; (exact (hrow _ h).1); omega
          clear hgrow hat hnew b3 hO3 hB3 hrow s3 hbB hbl hO hB
          have I1 := hide' (show Own w w9 (.slice (some ⟨gb, 0, none⟩) (m + 1) cap) (s ++ [x]) from ⟨by rw [List.length_append, HM.out, iv_append]; exact hown4, hB9⟩)
          clear hown4 hB9 hck
          obtain ⟨off, hoff⟩ : ∃ off, (⟨gb, 0, none⟩ : Addr) = ⟨gb, off, none⟩ := ⟨0, rfl⟩
          rw [hoff] at I1 ⊢
          have HF := hide' (show off = 0 from by injection hoff with _ h _; exact h.symm)
          clear hoff
          have hmx : ((m : Int) + 1) ≤ 4611686018427387904 := by omega
          go_wp2
          go_loopw [9] (fun vj wx => ∃ (B C : List Int), s = B ++ C ∧ vj = .int .i64 (B.length : Nat) ∧ (∀ y ∈ C, ahd x y) ∧ Own w wx (.slice (some ⟨gb, off, none⟩) (m + 1) cap) (B ++ x :: C)) (fun vj _ => (intOf vj).toNat)
          case atStart => exact ⟨s, [], by simp, (by rw [HM.out]; try go_simp), (fun y hy => by cases hy), I1.out⟩
          case round =>
            obtain ⟨B, C, hs, rfl, hC, hO9⟩ := hrel
            have HS := hide' hs
            have HCx := hide' hC
            clear hs hC
            have hlen := congrArg List.length HS.out
            rw [HM.out, List.length_append] at hlen
            have OUT := hide' (show (∀ y, B.getLast? = some y → ¬ ahd x y) → ∀ q, ∃ (k' : Nat) (s' : List Int), k' ≤ n ∧ (Value.int .i64 ((k : Int) + 1)) = .int .i64 k' ∧ (Value.bool (true)) = .bool (decide (hasB (lst g k'))) ∧ Nrm (lst g k') s' ∧ Own w (wr.drewN q) (.slice (some ⟨gb, off, none⟩) (m + 1) cap) s' ∧ s'.length ≤ k' from fun hl q => ⟨k + 1, B ++ x :: C, by omega, by go_simp, by rw [HB2.out, HCC.out]; try rfl, nrm_put HN.out HS.out HX.out HCx.out (last_ahd (by rw [← HS.out]; exact HN.out.1) (fun h => HIN.out (by rw [HS.out]; exact List.mem_append_left _ h)) hl), hO9.drew q, by simp; omega⟩)
            rcases List.eq_nil_or_concat B with rfl | ⟨B9, y, rfl⟩
            · skip
              have O2 := hide' (OUT.out (fun y hy => by simp at hy))
              clear OUT
              rw [show ((([] : List Int).length : Nat) : Int) = 0 from rfl]
              go_wp2_with fail
              go_quiet (fail)
              go_wp2
              go_roundw
              case rel => exact O2.out _
              case measure => simp only [intOf]; omega
            · skip
              simp only [List.concat_eq_append] at *
              obtain ⟨i, hi⟩ : ∃ i, B9.length = i := ⟨_, rfl⟩
              have hil : (B9 ++ [y]).length = i + 1 := by simp [hi]
              rw [hil] at hlen ⊢
              have c1 := hO9.cell (j := i + 1) (z := x) HF.out (by simp; omega) (by rw [List.getElem?_append_right (by simp; omega)]; simp [hi])
              have c0 := hO9.cell (j := i) (z := y) HF.out (by simp; omega) (by rw [List.append_assoc, List.getElem?_append_right (by omega)]; simp [hi])
              obtain ⟨c1, f1⟩ := c1
              obtain ⟨c0, f0⟩ := c0
              have hyr : -9223372036854775808 < y ∧ y ≤ 9223372036854775807 := by have h1 := nrm_lits HN.out hk HI.out y (by rw [HS.out]; simp); have h2 := nrm_ok HN.out hk HL.out.2.1 y (by rw [HS.out]; simp); unfold isLit at h1; simp at h1; omega
              have GA := hide' (fun w' => ahead_is x y ⟨hxr.1, hxr.2.1⟩ hyr w')
              clear hyr
              have HI9 := hide' hi
              have HO9 := hide' hO9
              clear hi hil hO9
              have hj1 : (((i + 1 : Nat) : Int) > 0) := by omega
              have hii : ((i + 1 : Nat) : Int) < ((m : Int) + 1) := by omega
              cases hd : decide (ahd x y)
              · rw [hd] at GA
                have O2 := hide' (OUT.out (fun z hz => by simp at hz; rw [← hz]; exact of_decide_eq_false hd))
                clear OUT hd
                go_wp2_with fail
                go_quiet ((go_at_call 17; exact Calls.quiet_of_same (GA.out _)))
                go_wp2
                go_roundw
                case rel => exact O2.out _
                case measure => simp only [intOf]; omega
              · rw [hd] at GA
                have HD := hide' (of_decide_eq_true hd)
                clear OUT hd
                go_wp2_with fail
                go_quiet ((go_at_call 17; exact Calls.quiet_of_same (GA.out _)))
                go_wp2
                go_region
                all_goals go_wp2
                go_roundw
                case rel => exact ⟨B9, y :: C, by rw [HS.out]; simp, (by rw [HI9.out]; try go_simp), (fun z hz => by rcases List.mem_cons.1 hz with rfl | hz; (exact HD.out); exact HCx.out z hz), (by have h8 := swap_list B9 C x y; rw [HI9.out] at h8; have h7 := HO9.out; rw [List.append_assoc] at h7; rw [← h8]; exact ((h7.drew _).put HF.out (by have h6 := HI9.out; simp; omega) (i + 1) y).put HF.out (by have h6 := HI9.out; simp; omega) i x)⟩
                case measure => simp only [intOf]; omega
    · obtain rfl : k = n := by omega
      have hki : ¬ ((k : Int) < (k : Int)) := by omega
      go_wp2
      refine bodyPost_ret (v := .tuple #[u6, .bool (decide (hasB (lst g k))), .int .i64 0]) (by rw [results_ttt rfl]; rfl) rfl ?_
      exact ⟨u6, rfl, s, HN.out, hO, hsl⟩
end Go.Proofs.Ytnjidhoceacenaa
