/-
  analyse: the queue: newFalling, put.
-/
import Derived.Test.YtbcbgglhhfdbcabAN7
namespace Go.Proofs.Ytbcbgglhhfdbcab
open Go.RowKit
set_option linter.unusedVariables false
set_option linter.unusedSimpArgs false
theorem nd_nodup {L : List Int} (h : Nd L) : L.Nodup := by
  unfold List.Nodup
  rw [List.pairwise_iff_getElem]
  intro i j hi hj hij e
  have := h i j hi hj (by simp [List.getD, List.getElem?_eq_getElem hi, List.getElem?_eq_getElem hj, e])
  omega
theorem nodup_len : ∀ (K : Nat) (L : List Int), L.Nodup → (∀ z ∈ L, 0 ≤ z ∧ z < (K : Int)) → L.length ≤ K
  | 0, L, _, h => by
    cases L with
    | nil => exact Nat.le_refl _
    | cons a r => have := h a List.mem_cons_self; omega
  | K + 1, L, hn, h => by
    by_cases e : (K : Int) ∈ L
    · have h1 := nodup_len K (L.erase (K : Int)) (hn.erase _) (fun z hz => by
        have h2 := (List.Nodup.mem_erase_iff hn).1 hz
        have h3 := h z h2.2
        have h4 := h2.1
        omega)
      rw [List.length_erase_of_mem e] at h1
      omega
    · have := nodup_len K L hn (fun z hz => by
        have h3 := h z hz
        have h4 : z ≠ (K : Int) := fun q => e (by rw [← q]; exact hz)
        omega)
      omega
theorem FaAt.short {w : World} {ow : Nat → Nat} {t q N : Nat} {L : List Int} (hn : Nd L) (ho : ∀ z ∈ L, 0 ≤ z ∧ z < 1048576) : L.length ≤ 1048576 := nodup_len 1048576 L (nd_nodup hn) (fun z hz => ho z hz)
theorem app_mvd {ow : Nat → Nat} {t m : Nat} {w w' : World} (h : Mvd m w w') (hm : ow m = t) : App ow ow t w w' :=
  ⟨h.os, h.tape, h.output, Nat.le_of_eq h.size.symm, fun x hx e => h.block x (fun q => e (by rw [q]; exact hm)), fun _ _ => rfl, fun x cs hx => h.block x (fun q => h.map cs _ _ (q ▸ hx)), fun hi x hx => hi x (by rw [← h.size]; exact hx)⟩
theorem seen_put (L : List Int) (x : Int) : fput (seenF L) x (.agg #[]) = seenF (L ++ [x]) := by
  funext z
  unfold fput seenF
  by_cases e : z = x
  · subst e
    rw [if_pos rfl, if_pos (hasL_iff.2 (by simp))]
  · rw [if_neg e]
    have : hasL (L ++ [x]) z = hasL L z := by rw [Bool.eq_iff_iff, hasL_iff, hasL_iff, List.mem_append, List.mem_singleton]; simp [e]
    rw [this]
theorem App.wk {ow ow' : Nat → Nat} {t : Nat} {w w' : World} (h : App ow ow' t w w') : App ow ow' t w w' := h
set_option maxHeartbeats 2000000 in
set_option maxRecDepth 100000 in
theorem newFalling_is (ow : Nat → Nat) (t : Nat) (w : World) :
    Calls Try.prog 25 #[] w fun e w' => ∃ q ow', e = .returned (.pointer (some ⟨q, 0, none⟩)) ∧ FaAt w' ow' t q 0 [] ∧ App ow ow' t w w' ∧ w.heap.size ≤ q ∧ Below w.heap.size w w' := by
  have hmm := @run_makeMap Try.prog
  go_enter Try.func25, Try.ntmps25
  go_wp2
  go_ret
  have hM := MapI.made w Try.prog 3
  obtain ⟨w1, hw1⟩ : ∃ w1, w.alloc (.map #[] 0) = w1 := ⟨_, rfl⟩
  have b1 := below_alloc (w := w) (.map #[] 0)
  have A1 := App.alloc ow t w (.map #[] 0)
  have s1 := size_alloc w (.map #[] 0)
  rw [hw1] at b1 A1 s1 hM
  try rw [hw1]
  have b2 := below_alloc (w := w1) (.cells #[.map (some w.heap.size), .slice none 0 0] 94)
  have A2 := App.alloc (setO ow w.heap.size t) t w1 (.cells #[.map (some w.heap.size), .slice none 0 0] 94)
  have hn2 := heap_alloc_new w1 (.cells #[.map (some w.heap.size), .slice none 0 0] 94)
  refine ⟨w1.heap.size, setO (setO ow w.heap.size t) w1.heap.size t, by first | (rw [s1]; rfl) | rfl, ⟨⟨w.heap.size, default, hn2, ?_, RowAt.nil, setO_same _ _ _, ?_⟩, ?_, ?_, ?_, ?_⟩, A1.trans A2, by omega, b1.trans (b2.mono b1.size)⟩
  · have h3 := (hM.later b2)
    have e : seenF [] = (fun _ => none) := by funext z; rfl
    rw [e]; exact h3
  · rw [setO_other (by omega), setO_same]
  · intro k _ hk; exact absurd hk (by simp)
  · intro a b ha; exact absurd ha (by simp)
  · intro z hz; cases hz
  · simp
set_option maxHeartbeats 2000000 in
set_option maxRecDepth 100000 in
theorem fput_is (ow : Nat → Nat) (t q N : Nat) (L : List Int) (x : Int) (hx : 0 ≤ x ∧ x < 1048576) (ht0 : t ≠ 0) (hN : N < 4611686018427387904) (w : World) (h : FaAt w ow t q N L) :
    Calls Try.prog 26 #[.pointer (some ⟨q, 0, none⟩), .int .i64 x] w fun e w' => (∃ v, e = .returned v) ∧ ∃ ow' L', FaAt w' ow' t q (N + 1) L' ∧ (∀ z, z ∈ L' ↔ z = x ∨ z ∈ L) ∧ App ow ow' t w w' := by
  obtain ⟨⟨m, s, hr⟩, hhp, hnd, hok, hlen⟩ := h
  have GH := hide' (fhas_is ow t q m N s L x ⟨by omega, by omega⟩ w hr)
  cases hb : hasL L x
  rotate_left
  · rw [hb] at GH
    have HH := hide' (And.intro (hasL_iff.1 hb) (And.intro hr (And.intro hhp (And.intro hnd (And.intro hok hlen)))))
    clear hb hr hhp hnd hok hlen
    go_enter Try.func26, Try.ntmps26
    go_wp2_with fail
    refine GH.out.mono ?_
    rintro e w1 ⟨rfl, b1⟩
    go_wp2
    refine bodyPost_ret (v := .tuple #[]) (by kernel_rfl) rfl ?_
    have hr1 := HH.out.2.1.later b1
    refine ⟨⟨_, rfl⟩, ow, L, ⟨⟨m, s, hr1.blk, hr1.mp.mono (by omega), hr1.row, hr1.oq, hr1.om⟩, HH.out.2.2.1, HH.out.2.2.2.1, HH.out.2.2.2.2.1, HH.out.2.2.2.2.2⟩, fun z => ⟨Or.inr, fun e => e.elim (fun e => by rw [e]; exact HH.out.1) id⟩, App.of_below b1⟩
  · rw [hb] at GH
    have HB := hide' (show x ∉ L from fun e => by rw [hasL_iff.2 e] at hb; cases hb)
    clear hb
    have hL := FaAt.short (w := w) (ow := ow) (t := t) (q := q) (N := N) hnd hok
    have HP := hide' (And.intro hhp (And.intro hnd (And.intro hok hlen)))
    clear hhp hnd hok hlen
    have hk : Try.prog.underlying 3 = some (.int .i64) := by kernel_rfl
    have ht : Try.prog.underlying 92 = some (.map 3 95) := by kernel_rfl
    have HK := hide' (And.intro hk ht)
    clear hk ht
    have hwf := hide' (wfI_of (v := x) (by omega) (by omega))
    obtain ⟨ii, hii, hiz, his, hib⟩ := info_parts info_i
    have HR := hide' hr
    clear hr
    go_enter Try.func26, Try.ntmps26
    go_wp2_with fail
    refine GH.out.mono ?_
    rintro e w1 ⟨rfl, b1⟩
    clear GH
    have hr1 := HR.out.later b1
    have c0 := hr1.c0
    have A1 := hide' (App.of_below (ow := ow) (t := t) b1)
    have HM := hide' (And.intro hr1 hr1.mp)
    clear b1 hr1
    go_wp2_with (refine wpList_put _ (by rfl) _ _ _ _ (by rfl) HK.out.1 HK.out.2 _ _ _ (by rfl) HM.out.2 (by simp only [maxLen]; omega) x (by rfl) hwf.out _ (by rfl) ?_)
    intro w2 hM2 hT2
    rw [seen_put] at hM2
    have hr2 : FaR w2 ow t q m s (N + 1) (seenF (L ++ [x])) L := ⟨(hT2.block q HM.out.1.qm).trans HM.out.1.blk, hM2, HM.out.1.row.keep (fun g hg => hT2.block g (HM.out.1.gm hg)) (fun _ _ => rfl), HM.out.1.oq, HM.out.1.om⟩
    have A2 := hide' (A1.out.trans (app_mvd hT2 HM.out.1.om))
    clear A1 HM hM2 hT2 c0 HR
    have c1 := hr2.c1
    unfold SlV.val at c1
    obtain ⟨w3, hw3⟩ : ∃ w3, w2.alloc (.cells #[.int .i64 x] 3) = w3 := ⟨_, rfl⟩
    have hnew := heap_alloc_new w2 (.cells #[.int .i64 x] 3)
    have b3 := below_alloc (w := w2) (.cells #[.int .i64 x] 3)
    rw [hw3] at hnew b3
    have hr3 := hr2.later b3
    have hO := hr3.row.1
    unfold SlV.val at hO
    have fq := hr2.fq
    obtain ⟨l, hl⟩ : ∃ l, L.length = l := ⟨_, rfl⟩
    rw [hl] at c1 hO hL
    have hl9 := hide' hl
    clear hl
    have hml : l + 1 ≤ maxLen := by simp only [maxLen]; omega
    have hbl : (l + 1) * 8 ≤ 140737488355328 := by omega
    have A3 := hide' (A2.out.trans (App.of_below b3))
    have HO := hide' hO
    have H3 := hide' (And.intro hr3 (And.intro (show ow q = t from hr3.oq) b3))
    clear hO hr3 hr2 A2 b3
    go_wp2_with (at_builtin; (try rw [hw3]); refine wpList_append_lies _ (by rfl) _ _ _ (by rfl) 0 3 ii _ 1 8 Try.underlying26 hii hiz his hib rfl (by omega) (.slice s.at' l s.c) l (iv L) (by rfl) HO.out ⟨w2.heap.size, 0, none⟩ 1 1 [.int .i64 x] (by rfl) (by rfl) (World.news_of_block (cs := #[.int .i64 x]) (t := 3) (fr := (0, 0)) hnew) (by simp [Value.oneCell']) (by omega) hml hbl (Nat.zero_le _) w3.heap.size rfl ?_)
    intro gb cap w4 hown hgrow hat hlt
    rw [show l + 1 = l + 1 from rfl] at hown
    have hRA := RowAt.app (ow := ow) (t := t) (s := s) (n := l) (m := 1) (xs := iv L) (news := [.int .i64 x]) (by have := H3.out.1.row; rw [hl9.out] at this; exact this) hown hgrow hat rfl hlt (by decide)
    obtain ⟨R1, A4⟩ := hRA
    obtain ⟨ow1, how⟩ : ∃ o, setO ow gb t = o := ⟨_, rfl⟩
    rw [how] at R1 A4
    have hq4 : w4.heap[q]? = some (.cells #[.map (some m), s.val l] 94 (0, 0)) := by
      have h9 := H3.out.1.blk
      rw [hl9.out] at h9
      rw [hgrow.block q H3.out.1.lt (fun e => by rw [show (Value.slice s.at' l s.c).ownBlock = s.g from SlV.own s l] at e; exact H3.out.1.gq e.symm rfl)]; exact h9
    have hm4 : w4.heap[m]? = w3.heap[m]? := hgrow.block m H3.out.1.mp.lt (fun e => by rw [show (Value.slice s.at' l s.c).ownBlock = s.g from SlV.own s l] at e; exact H3.out.1.gm e.symm rfl)
    have c4 := cell_of_row w4 q 1 _ _ _ hq4
    simp only [List.getElem?_toArray, List.getElem?_cons_zero, List.getElem?_cons_succ] at c4
    have f4 := fun o => frozen_of_row w4 q o _ _ hq4
    have oq1 : ow1 q = t := by rw [← how]; by_cases e : q = gb; (rw [e]; exact setO_same _ _ _); (rw [setO_other e]; exact H3.out.2.1)
    have om1 : ow1 m = t := by rw [← how]; by_cases e : m = gb; (rw [e]; exact setO_same _ _ _); (rw [setO_other e]; exact H3.out.1.om)
    have gq1 : gb ≠ q := fun e => by obtain ⟨cur, h1, _⟩ := R1.raw (g := gb) rfl; rw [e, hq4] at h1; injection h1 with h1; injection h1 with h1 h2; cases h2
    have HR5 := hide' (show FaR (w4.setCell ⟨q, 1, none⟩ (.slice (some ⟨gb, 0, none⟩) (l + 1) cap)) ow1 t q m ⟨some gb, cap⟩ (N + 1) (seenF (L ++ [x])) (L ++ [x]) from ⟨by
      have e9 : (L ++ [x]).length = l + 1 := by rw [List.length_append, hl9.out]; rfl
      rw [e9]
      simp [World.setCell, Array.getElem?_modify, hq4, SlV.val, SlV.at']
    , (H3.out.1.mp.block hm4).block (heap_setCell_other _ _ _ _ (fun e => H3.out.1.qm e.symm)), by
      have e9 : (L ++ [x]).length = l + 1 := by rw [List.length_append, hl9.out]; rfl
      rw [e9, iv_append]
      exact R1.keep (fun g hg => heap_setCell_other _ _ _ _ (fun e => by injection hg with hg; subst hg; exact gq1 e)) (fun _ _ => rfl), oq1, om1⟩)
    have A5 := hide' (A3.out.trans (A4.trans (App.set ow1 t w4 q 1 (.slice (some ⟨gb, 0, none⟩) (l + 1) cap) oq1 (fun cs e => by rw [hq4] at e; injection e with e; injection e with _ e _; cases e))))
    clear A3 A4 R1 H3 HO hown hgrow hat hlt hnew hm4 fq hml hbl gq1 oq1 om1 c1
    go_wp2_with fail
    obtain ⟨w5, hw5⟩ : ∃ w5, w4.setCell ⟨q, 1, none⟩ (.slice (some ⟨gb, 0, none⟩) (l + 1) cap) = w5 := ⟨_, rfl⟩
    rw [hw5] at HR5 A5
    try rw [hw5]
    have HMEM := hide' (show ∀ z, z ∈ L ++ [x] ↔ z = x ∨ z ∈ L from fun z => by rw [List.mem_append, List.mem_singleton]; exact Or.comm)
    have hUp := HP.out.1.snoc x
    rw [hl9.out] at hUp
    have HUP := hide' (And.intro hUp (nd_snoc HP.out.2.1 HB.out))
    have hLen : (L ++ [x]).length = l + 1 := by rw [List.length_append, hl9.out]; rfl
    have HZ := hide' (And.intro hLen HP.out.2.2.1)
    obtain ⟨M0, hM0⟩ : ∃ M, L ++ [x] = M := ⟨_, rfl⟩
    rw [hM0] at HR5 HMEM HUP HZ
    clear hUp hLen HP hM0 hw5 hq4 c4 f4 how
    obtain ⟨F, hF⟩ : ∃ F, seenF M0 = F := ⟨_, rfl⟩
    rw [hF] at HR5
    have HFF := hide' hF
    clear hF
    go_loopw [4] (fun vi wr => ∃ (i : Nat) (M : List Int), i < l + 1 ∧ vi = .int .i64 (i : Int) ∧ M.length = l + 1 ∧ FaR wr ow1 t q m ⟨some gb, cap⟩ (N + 1) F M ∧ (∀ z, z ∈ M ↔ z ∈ M0) ∧ UpI M i ∧ Nd M ∧ App ow1 ow1 t w5 wr) (fun vi _ => (intOf vi).toNat)
    case atStart => exact ⟨l, M0, by omega, rfl, HZ.out.1, HR5.out, fun z => Iff.rfl, HUP.out.1, HUP.out.2, App.refl _ _ _⟩
    case round =>
      obtain ⟨i, M, hi, rfl, hML, hR, hMm, hU, hN9, hA9⟩ := hrel
      have c1 := hR.c1
      rw [SlV.val_some rfl, hML] at c1
      have iU : (i : Int) ≤ 1048576 := by omega
      have iL : (i : Int) < (l : Int) + 1 := by omega
      have iL2 : (i : Int) < ((l + 1 : Nat) : Int) := by omega
      have i00 : (0 : Int) ≤ (i : Int) := by omega
      by_cases hi0 : i = 0
      · have e1 : decide ((i : Int) > 0) = false := decide_eq_false (by omega)
        have e2 : decide (0 < i) = false := decide_eq_false (by omega)
        have HFIN := hide' (hU.done (Or.inl hi0))
        have HQ := hide' (And.intro hR (And.intro hMm (And.intro hN9 (And.intro hA9 hML))))
        clear hR hMm hU hN9 hA9 hML
        replace hi0 := hide' hi0
        go_wp2_with fail
        go_quiet (fail)
        go_wp2_with fail
        refine bodyPost_end (v := .tuple #[]) (by kernel_rfl) rfl ?_
        obtain ⟨hR, hMm, hN9, hA9, hML⟩ := HQ.out
        have bQ : Below wr.heap.size wr (wr.drewN nq) := below_drewN (Below.refl _ _)
        have hmem : ∀ z, z ∈ M ↔ z = x ∨ z ∈ L := fun z => (hMm z).trans (HMEM.out z)
        refine ⟨⟨_, rfl⟩, ow1, M, ⟨⟨m, ⟨some gb, cap⟩, pairs_swap (hR.later bQ) (by rw [← HFF.out]; exact seenF_congr fun z => (hMm z).symm)⟩, HFIN.out, hN9, fun z hz => ?_, by rw [hML]; omega⟩, hmem, A5.out.trans (hA9.trans (App.of_below bQ))⟩
        rcases (hmem z).1 hz with e | e
        · rw [e]; exact hx
        · exact HZ.out.2 z e
      · have e1 : decide ((i : Int) > 0) = true := decide_eq_true (by omega)
        have e2 : decide (0 < i) = true := decide_eq_true (by omega)
        obtain ⟨p, hp⟩ : ∃ p, (i - 1) / 2 = p := ⟨_, rfl⟩
        have hpi : p < l + 1 := by omega
        have e3 : ((i : Int) - 1) / 2 = (p : Int) := by omega
        have iM : (0 : Int) ≤ (i : Int) - 1 := by omega
        have e4 : ((i : Int) - 1).tdiv 2 = (p : Int) := by rw [Int.tdiv_eq_ediv_of_nonneg iM]; exact e3
        have pL : (p : Int) < (l : Int) + 1 := by omega
        have pL2 : (p : Int) < ((l + 1 : Nat) : Int) := by omega
        have ca := hR.ci (g := gb) rfl (i := i) (by rw [hML]; exact hi)
        have cb := hR.ci (g := gb) rfl (i := p) (by rw [hML]; exact hpi)
        have hS := hU.step (by omega) (by rw [hML]; exact hi)
        rw [hp] at hS
        have hD := hU.done
        rw [hp] at hD
        obtain ⟨y, hy⟩ : ∃ y, M.getD i 0 = y := ⟨_, rfl⟩
        obtain ⟨z0, hz0⟩ : ∃ z0, M.getD p 0 = z0 := ⟨_, rfl⟩
        rw [hy] at ca hS hD
        rw [hz0] at cb hS hD
        clear hy hz0
        replace hp := hide' hp
        replace hi0 := hide' hi0
        by_cases hlt : z0 < y
        rotate_left
        · skip
          have HFIN := hide' (hD (Or.inr (by omega)))
          have HQ := hide' (And.intro hR (And.intro hMm (And.intro hN9 (And.intro hA9 hML))))
          clear hR hMm hU hN9 hA9 hML hS hD
          have hlt2 : ¬ y > z0 := hlt
          go_wp2_with fail
          go_quiet (fail)
          go_wp2_with fail
          refine bodyPost_end (v := .tuple #[]) (by kernel_rfl) rfl ?_
          obtain ⟨hR, hMm, hN9, hA9, hML⟩ := HQ.out
          have bQ : Below wr.heap.size wr (wr.drewN nq) := below_drewN (Below.refl _ _)
          have hmem : ∀ z, z ∈ M ↔ z = x ∨ z ∈ L := fun z => (hMm z).trans (HMEM.out z)
          refine ⟨⟨_, rfl⟩, ow1, M, ⟨⟨m, ⟨some gb, cap⟩, pairs_swap (hR.later bQ) (by rw [← HFF.out]; exact seenF_congr fun z => (hMm z).symm)⟩, HFIN.out, hN9, fun z hz => ?_, by rw [hML]; omega⟩, hmem, A5.out.trans (hA9.trans (App.of_below bQ))⟩
          rcases (hmem z).1 hz with e | e
          · rw [e]; exact hx
          · exact HZ.out.2 z e
        · skip
          have GS := hide' (fun wq (hb : Below wr.heap.size wr wq) => fswap_is ow1 t q m (N + 1) ⟨some gb, cap⟩ F M i p (by rw [hML]; exact hi) (by rw [hML]; exact hpi) (by rw [hML]; omega) wq (hR.later hb))
          have HQ := hide' (And.intro (hS hlt) (And.intro hMm (And.intro hN9 (And.intro hA9 hML))))
          clear hR hMm hU hN9 hA9 hML hS hD
          have hlt2 : y > z0 := hlt
          go_wp2_with fail
          go_quiet (fail)
          have bQ : Below wr.heap.size wr (wr.drewN nq) := below_drewN (Below.refl _ _)
          have GS2 := GS.out _ bQ
          replace GS2 := hide' GS2
          replace bQ := hide' bQ
          go_wp2_with fail
          refine GS2.out.mono ?_
          rintro e w6 ⟨⟨v, rfl⟩, hR6, hA6⟩
          have HX := hide' (And.intro hR6 (HQ.out.2.2.2.1.trans ((App.of_below bQ.out).trans hA6)))
          clear hR6 hA6 GS GS2 bQ ca cb c1
          go_wp2
          go_roundw
          case rel =>
            obtain ⟨hS, hMm, hN9, hA9, hML⟩ := HQ.out
            exact ⟨p, swp M i p, hpi, by go_num, by rw [swp_length, hML], HX.out.1, fun z => (swp_mem (by rw [hML]; exact hi) (by rw [hML]; exact hpi)).trans (hMm z), hS, swp_nd (by rw [hML]; exact hi) (by rw [hML]; exact hpi) hN9, HX.out.2⟩
          case measure => have h9 := hp.out; have h8 := hi0.out; simp only [intOf]; omega
set_option maxHeartbeats 2000000 in
set_option maxRecDepth 100000 in
theorem fnext_is (ow : Nat → Nat) (t q N n : Nat) (L : List Int) (x : Int) (hn : L.length = n + 1) (hx : L.getD 0 0 = x) (w : World) (h : FaAt w ow t q N L) :
    Calls Try.prog 29 #[.pointer (some ⟨q, 0, none⟩)] w fun e w' => e = .returned (.int .i64 x) ∧ ∃ ow' L', FaAt w' ow' t q N L' ∧ (∀ z, z ∈ L' ↔ z ∈ L ∧ z ≠ x) ∧ App ow ow' t w w' ∧ L'.length = n := by
  obtain ⟨⟨m, s, hr⟩, hhp, hnd, hok, hlen⟩ := h
  obtain ⟨g, hg⟩ := hr.row.got (by omega)
  have c1 := hr.c1
  rw [SlV.val_some hg, hn] at c1
  have k0 := hr.ci hg (i := 0) (by omega)
  rw [hx] at k0
  have hxk := hok x (by rw [← hx]; exact getD_mem (by omega))
  have hk : Try.prog.underlying 3 = some (.int .i64) := by kernel_rfl
  have ht : Try.prog.underlying 92 = some (.map 3 95) := by kernel_rfl
  have HK := hide' (And.intro hk ht)
  clear hk ht
  have hwf := hide' (wfI_of (v := x) (by omega) (by omega))
  have HL := hide' (And.intro (pop_dn hn hhp) (And.intro (fun z => pop_mem hn hnd (z := z)) (And.intro (pop_nd hn hnd) (pop_length hn))))
  have HO := hide' (And.intro hok (And.intro hn hx))
  have GS := hide' (fun wq (hb : Below w.heap.size w wq) => fswap_is ow t q m N s (seenF L) L 0 n (by omega) (by omega) (by omega) wq (hr.later hb))
  have nU : n ≤ 4194304 := by omega
  have nI : (0 : Int) < (n : Int) + 1 := by omega
  have nI2 : (0 : Int) < ((n + 1 : Nat) : Int) := by omega
  have e5 : ((n + 1 : Nat) : Int) - 1 = (n : Int) := by omega
  replace hr := hide' hr
  clear hhp hnd hok hlen hn hx
  go_enter Try.func29, Try.ntmps29
  go_wp2_with fail
  go_quiet (fail)
  have bQ : Below w.heap.size w (w.drewN nq) := below_drewN (Below.refl _ _)
  have GS2 := hide' (GS.out _ bQ)
  replace bQ := hide' bQ
  go_wp2_with fail
  refine GS2.out.mono ?_
  rintro e w1 ⟨⟨v, rfl⟩, hR1, hA1⟩
  clear GS GS2 k0 c1
  have A1 := hide' ((App.of_below bQ.out).trans hA1)
  clear hA1 bQ hr
  have hl1 : (swp L 0 n).length = n + 1 := by rw [swp_length, HO.out.2.1]
  have c1 := hR1.c1
  rw [SlV.val_some hg, hl1] at c1
  have f1 := hR1.fq
  have R2 := hR1.row.cut hg (k := n) (by omega)
  have hcap : n ≤ s.c := by obtain ⟨_, _, h3, _⟩ := hR1.row.raw hg; omega
  have hcapI : (n : Int) ≤ (s.c : Int) := by omega
  have hb1 : (w1.setCell ⟨q, 1, none⟩ (.slice (some ⟨g, 0, none⟩) n s.c)).heap[q]? = some (.cells #[.map (some m), s.val (pop L n).length] 94 (0, 0)) := by
    rw [HL.out.2.2.2, SlV.val_some hg]
    simp [World.setCell, Array.getElem?_modify, hR1.blk]
  have hw1 : RowAt (w1.setCell ⟨q, 1, none⟩ (.slice (some ⟨g, 0, none⟩) n s.c)) ow t 3 1 s (pop L n).length (iv (pop L n)) := by
    rw [HL.out.2.2.2]
    have h9 : iv (pop L n) = (iv (swp L 0 n)).take (n * 1) := by unfold pop iv; rw [Nat.mul_one, List.map_take]
    rw [h9]
    exact R2.keep (fun g2 hg2 => heap_setCell_other _ _ _ _ (fun e => by subst e; exact hR1.gq hg2 rfl)) (fun _ _ => rfl)
  have HR2 := hide' (show FaR (w1.setCell ⟨q, 1, none⟩ (.slice (some ⟨g, 0, none⟩) n s.c)) ow t q m s N (seenF L) (pop L n) from ⟨hb1, hR1.mp.block (heap_setCell_other _ _ _ _ (fun e => hR1.qm e.symm)), hw1, hR1.oq, hR1.om⟩)
  clear hb1 hw1
  have A2 := hide' (A1.out.trans (App.set ow t w1 q 1 (.slice (some ⟨g, 0, none⟩) n s.c) hR1.oq hR1.nq))
  clear R2 hl1 hR1 A1
  have e6 : (n : Int) ≤ (n : Int) + 1 := by omega
  go_wp2_with fail
  obtain ⟨w2, hw2⟩ : ∃ w2, (w1.setCell ⟨q, 1, none⟩ (.slice (some ⟨g, 0, none⟩) n s.c)) = w2 := ⟨_, rfl⟩
  rw [hw2] at HR2 A2
  try rw [hw2]
  clear hw2 c1 f1
  obtain ⟨M0, hM0⟩ : ∃ M, pop L n = M := ⟨_, rfl⟩
  rw [hM0] at HR2 HL
  clear hM0
  obtain ⟨F, hF⟩ : ∃ F, seenF L = F := ⟨_, rfl⟩
  rw [hF] at HR2
  have HFF := hide' hF
  clear hF
  have GB := hide' (fun (M : List Int) (i : Nat) wq (hR : FaR wq ow t q m s N F M) (hi : i < n ∨ (n = 0 ∧ i = 0)) (hM : M.length = n) => (show Calls Try.prog 64 #[.pointer (some ⟨q, 0, none⟩), .int .i64 (i : Int)] wq fun e w' => e = .returned (.int .i64 ((blw M i 2 : Nat) : Int)) ∧ Below wq.heap.size wq w' from by
    rcases hi with hi | ⟨h0, hi⟩
    · exact fbelow_is ow t q m N s F M i (by omega) (by omega) wq hR
    · subst hi
      have h9 : blw M 0 2 = 0 := (blw_short (L := M) (i := 0) (r := 0) (by omega) 2)
      rw [h9]; exact fbelow_none ow t q m N s F M (by omega) wq hR))
  go_wp2_with fail
  refine (GB.out M0 0 w2 HR2.out (by omega) HL.out.2.2.2).mono ?_
  rintro e w3 ⟨rfl, b3⟩
  have HR3 := hide' (HR2.out.later b3)
  have A3 := hide' (A2.out.trans (App.of_below b3))
  clear b3 HR2 A2
  go_wp2_with fail
  go_loopw [5, 6] (fun vi vd wr => ∃ (i : Nat) (M : List Int), (i < n ∨ (n = 0 ∧ i = 0)) ∧ vi = .int .i64 (i : Int) ∧ vd = .int .i64 ((blw M i 2 : Nat) : Int) ∧ M.length = n ∧ FaR wr ow t q m s N F M ∧ (∀ z, z ∈ M ↔ z ∈ M0) ∧ DnI M i ∧ Nd M ∧ App ow ow t w3 wr) (fun vi _ _ => n - (intOf vi).toNat)
  case atStart => exact ⟨0, M0, by omega, rfl, rfl, HL.out.2.2.2, HR3.out, fun z => Iff.rfl, HL.out.1, HL.out.2.2.1, App.refl _ _ _⟩
  case round =>
    obtain ⟨i, M, hi, rfl, rfl, hML, hR, hMm, hU, hN9, hA9⟩ := hrel
    have hbl : n ≠ 0 → blw M i 2 < n := fun h0 => by have := blw_lt (L := M) (i := i) (by omega) 2; omega
    have hcs := blw_cases M i 2
    have hstep := fun hlt => hU.step hlt
    have hdone := hU.done
    obtain ⟨d, hd⟩ : ∃ d, blw M i 2 = d := ⟨_, rfl⟩
    rw [hd] at hbl hcs hdone hstep
    try rw [hd]
    clear hd
    by_cases hdi : d = i
    · subst hdi
      have HQ := hide' (And.intro (hdone rfl) (And.intro hR (And.intro hMm (And.intro hN9 (And.intro hA9 hML)))))
      clear hR hMm hU hN9 hA9 hML hstep hdone hcs hbl
      have e1 : ((d : Int) != (d : Int)) = false := by simp
      have c0 := HQ.out.2.1.c0
      go_wp2_with (refine wpList_del _ (by rfl) _ _ _ (by rfl) HK.out.1 HK.out.2 _ _ _ (by rfl) HQ.out.2.1.mp x (by rfl) hwf.out ?_)
      intro w4 hM4 hT4
      go_wp2_with fail
      go_ret
      obtain ⟨hHp, hR, hMm, hN9, hA9, hML⟩ := HQ.out
      have hmem : ∀ z, z ∈ M ↔ z ∈ L ∧ z ≠ x := fun z => (hMm z).trans ((HL.out.2.1 z).trans (by rw [HO.out.2.2]))
      have hfd : fdel F x = seenF M := by
        rw [← HFF.out]
        funext z
        unfold fdel seenF
        by_cases e : z = x
        · rw [if_pos e, if_neg]; rw [hasL_iff, hmem z]; exact fun q => q.2 e
        · rw [if_neg e]
          have h8 : hasL L z = hasL M z := by rw [Bool.eq_iff_iff, hasL_iff, hasL_iff, hmem z]; exact ⟨fun q => ⟨q, e⟩, fun q => q.1⟩
          rw [h8]
      have hR4 : FaR w4 ow t q m s N (seenF M) M := ⟨(hT4.block q hR.qm).trans hR.blk, by rw [← hfd]; exact hM4, hR.row.keep (fun g hg => hT4.block g (hR.gm hg)) (fun _ _ => rfl), hR.oq, hR.om⟩
      exact ⟨rfl, ow, M, ⟨⟨m, s, hR4⟩, hHp, hN9, fun z hz => HO.out.1 z ((hmem z).1 hz).1, by omega⟩, hmem, A3.out.trans (hA9.trans (app_mvd hT4 hR.om)), hML⟩
    · have hn0 : n ≠ 0 := fun h0 => by rcases hcs with e | e; exact hdi e; omega
      have hdl := hbl hn0
      have hin : i < n := by omega
      have hid : i < d := by rcases hcs with e | e; exact absurd e hdi; omega
      have GS := hide' (fswap_is ow t q m N s F M i d (by rw [hML]; exact hin) (by rw [hML]; exact hdl) (by omega) wr hR)
      have HQ := hide' (And.intro (hstep (by rw [hML]; exact hin) hdi) (And.intro hMm (And.intro hN9 (And.intro hA9 hML))))
      clear hR hMm hU hN9 hA9 hML hstep hdone hcs hbl
      have e1 : ((d : Int) != (i : Int)) = true := by simp; omega
      replace hdi := hide' hdi
      have HI := hide' (And.intro hin (And.intro hdl hid))
      go_wp2_with fail
      refine GS.out.mono ?_
      rintro e w6 ⟨⟨v, rfl⟩, hR6, hA6⟩
      have HR6 := hide' hR6
      have HX := hide' (HQ.out.2.2.2.1.trans hA6)
      clear hR6 hA6 GS
      go_wp2_with fail
      refine (GB.out (swp M i d) d w6 HR6.out (Or.inl HI.out.2.1) (by rw [swp_length]; exact HQ.out.2.2.2.2)).mono ?_
      rintro e w7 ⟨rfl, b7⟩
      have HR7 := hide' (HR6.out.later b7)
      have HX7 := hide' (HX.out.trans (App.of_below b7))
      clear HR6 HX b7
      go_wp2
      go_roundw
      case rel =>
        obtain ⟨hS, hMm, hN9, hA9, hML⟩ := HQ.out
        exact ⟨d, swp M i d, Or.inl HI.out.2.1, by go_num, by go_num, by rw [swp_length, hML], HR7.out, fun z => (swp_mem (by rw [hML]; exact HI.out.1) (by rw [hML]; exact HI.out.2.1)).trans (hMm z), hS, swp_nd (by rw [hML]; exact HI.out.1) (by rw [hML]; exact HI.out.2.1) hN9, HX7.out⟩
      case measure => have h9 := HI.out; simp only [intOf]; omega
end Go.Proofs.Ytbcbgglhhfdbcab
