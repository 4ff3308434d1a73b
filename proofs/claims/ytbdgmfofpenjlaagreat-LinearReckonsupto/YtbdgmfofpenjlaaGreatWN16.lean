/-
  Layer 6: the program's Coef.
-/
import Derived.Test.YtbdgmfofpenjlaaGreatNumS
import Derived.Test.YtbdgmfofpenjlaaGreatWO0
import Derived.Test.YtbdgmfofpenjlaaGreatWL6
import Derived.Test.YtbdgmfofpenjlaaGreatWQB
import Derived.Below
namespace Go.Proofs.YtbdgmfofpenjlaaGreat
open Go.RowKit
set_option linter.unusedVariables false
set_option linter.unusedSimpArgs false

/-- the sum of the first n -/
def rs (q : Nat → RatV) : Nat → Rat
  | 0 => 0
  | n + 1 => rs q n + (q n).val
theorem rs_div (q : Nat → RatV) : ∀ n, rs q n = Rat.divInt (lnum (lq q n)) ((lden (lq q n) : Nat) : Int)
  | 0 => by show (0 : Rat) = Rat.divInt 0 _; rw [Rat.zero_divInt]
  | n + 1 => by
    have hp := lden_lq_pos q n
    simp only [rs]
    rw [rs_div q n, lq_succ, lnum_append, lden_append]
    unfold RatV.val
    rw [Rat.divInt_add_divInt _ _ (by omega) (rd_ne _)]
    have e1 : lden [(rn (q n).s (q n).X (q n).Y, rd (q n).Y)] = rd (q n).Y := Nat.mul_one _
    have e2 : lnum [(rn (q n).s (q n).X (q n).Y, rd (q n).Y)] = rn (q n).s (q n).X (q n).Y := by
      show _ * ((1 : Nat) : Int) + 0 * _ = _
      simp
    rw [e1, e2, Int.natCast_mul]
theorem rs_low (q : Nat → RatV) (n : Nat) : Low (lnum (lq q n)) ((lden (lq q n) : Nat) : Int) (rs q n).num (rs q n).den := low_of (by have := lden_lq_pos q n; omega) (rs_div q n)
theorem rs_congr {q q' : Nat → RatV} : ∀ (n : Nat), (∀ i, i < n → q' i = q i) → rs q' n = rs q n
  | 0, _ => rfl
  | n + 1, h => by simp only [rs]; rw [rs_congr n fun i hi => h i (by omega), h n (by omega)]
theorem bulkV_congr {q q' : Nat → RatV} : ∀ (n : Nat), (∀ i, i < n → q' i = q i) → bulkV q' n = bulkV q n
  | 0, _ => rfl
  | n + 1, h => by simp only [bulkV]; rw [bulkV_congr n fun i hi => h i (by omega), h n (by omega)]
theorem bulkL_append : ∀ (A B : List Mo), bulkL (A ++ B) = bulkL A + bulkL B
  | [], B => by simp [bulkL]
  | p :: A, B => by simp only [List.cons_append, bulkL, bulkL_append A B]; omega
/-- the parts of the other variables -/
def oth (x : Int) (L : List Mo) : List Mo := L.filter fun p => !(p.1 == x)
theorem oth_snoc (x : Int) (L : List Mo) (p : Mo) : oth x (L ++ [p]) = oth x L ++ (if p.1 = x then [] else [p]) := by
  unfold oth
  rw [List.filter_append]
  congr 1
  by_cases h : p.1 = x
  · simp [h]
  · simp [h]

/-- what the loop of apart keeps -/
def AInv (w : World) (L : List Mo) (x : Int) (k : Nat) (vo vt : Value) (wr : World) : Prop :=
  ∃ (j : Nat) (q : Nat → RatV), j ≤ k ∧ wr.ownsRow w.heap.size 33 3 vo j (cellsV q j) ∧ wr.ownsRow w.heap.size 41 4 vt (oth x (L.take k)).length (cellsF (oth x (L.take k))) ∧ Below w.heap.size w wr ∧
    (∀ b, vo.ownBlock = some b → vt.ownBlock ≠ some b) ∧ (∀ i, i < j → (q i).ok wr ∧ (q i).low ∧ (∀ b, vo.ownBlock = some b → (q i).off b) ∧ (∀ b, vt.ownBlock = some b → (q i).off b)) ∧
    rs q j = co x (fo (L.take k)) ∧ bulkV q j ≤ bulkL (L.take k)
theorem off_grown {w wr w1 : World} {q : RatV} {vo : Value} {row : Option Nat} {gb j cap : Nat} (hok : q.ok wr) (h : ∀ b, vo.ownBlock = some b → q.off b) (hat : vo.ownBlock = some gb ∨ gb = wr.heap.size) : ∀ b, (Value.slice (some ⟨gb, 0, none⟩) j cap).ownBlock = some b → q.off b := fun b hb => by
  have : gb = b := by simpa [Value.ownBlock] using hb
  subst this
  rcases hat with h1 | h1
  · exact h _ h1
  · exact hok.off (by omega)
end Go.Proofs.YtbdgmfofpenjlaaGreat

namespace Go.Proofs.YtbdgmfofpenjlaaGreat
open Go.RowKit
set_option linter.unusedVariables false
set_option linter.unusedSimpArgs false

/-- what apart tells -/
def ApAns (w : World) (L : List Mo) (x : Int) (e : Ending) (w' : World) : Prop :=
  ∃ p q a c, e = .returned (.tuple #[.agg #[.bool (ng (co x (fo L)).num), .slice p (ln (am (co x (fo L)).num)) (ln (am (co x (fo L)).num)), .slice q (ln (co x (fo L)).den) (ln (co x (fo L)).den)], .slice a (oth x L).length c]) ∧ Below w.heap.size w w' ∧
    Seg w' p (am (co x (fo L)).num) (ln (am (co x (fo L)).num)) ∧ Seg w' q (co x (fo L)).den (ln (co x (fo L)).den) ∧ Sl w' a c (oth x L)
theorem AInv.below {w : World} {L : List Mo} {x : Int} {k : Nat} {vo vt : Value} {wr : World} (h : AInv w L x k vo vt wr) : Below w.heap.size w wr := by
  obtain ⟨j, q, _, _, _, hB, _⟩ := h
  exact hB

set_option maxHeartbeats 8000000 in
set_option maxRecDepth 100000 in
theorem apart_is (a : Option Addr) (ca : Nat) (L : List Mo) (x : Int) (w : World) (hF : FAt w a L) (hok : ∀ p ∈ L, p.2.ok w ∧ p.2.m < 35184372087808) (hc : L.length ≤ ca) (hm : L.length ≤ 1048576) (hb : bulkL L + 1 ≤ 1099511627776) :
    Calls Tryz.prog 30 #[.slice a L.length ca, .int .i64 x] w (ApAns w L x) := by
  obtain ⟨i0, hi0, hz0, hz1, hz2⟩ := info_parts info_Mono
  obtain ⟨k0, hk0, hy0, hy1, hy2⟩ := info_parts info_Rat
  have G2' := fun w' => qWhole_is 0 w' (by omega) (by omega)
  rw [show ng 0 = false from rfl, show ln (am 0) = 0 from ln_zero, ln_one] at G2'
  have G2 := hide' G2'
  clear G2'
  obtain ⟨TT, hTT⟩ : ∃ TT, ApAns w L x = TT := ⟨_, rfl⟩
  rw [hTT]
  replace hTT := hide' hTT
  go_enter Tryz.func30, Tryz.ntmps30
  go_wp2_with fail
  obtain ⟨wA, hwA⟩ : ∃ wA, w.alloc (.cells #[.bool false, .slice none 0 0, .slice none 0 0] 33) = wA := ⟨_, rfl⟩
  have bA : Below w.heap.size w wA := by subst hwA; exact below_alloc _
  have rA : Thr wA w.heap.size (.bool false) (.slice none 0 0) (.slice none 0 0) := by subst hwA; exact ⟨⟨by go_simp, by go_simp, by go_simp⟩, row_new w _ 33⟩
  have hsz : w.heap.size < wA.heap.size := rA.2.lt
  rw [hwA]
  clear hwA
  replace hF := hF.later bA
  replace hok := fun p hp => And.intro ((hok p hp).1.later bA) (hok p hp).2
  go_loopw [6, 7, 12] (fun vo vt vi wr => ∃ k : Nat, k ≤ L.length ∧ vi = .int .i64 k ∧ AInv wA L x k vo vt wr) (fun _ _ vi _ => L.length - (intOf vi).toNat)
  case atStart => exact ⟨0, Nat.zero_le _, rfl, 0, fun _ => default, Nat.le_refl _, World.ownsRow_nil _ _ _ _, World.ownsRow_nil _ _ _ _, Below.refl _ _, fun b h => by simp [Value.ownBlock] at h, fun i hi => absurd hi (by omega), rfl, Nat.le_refl _⟩
  case round =>
    obtain ⟨k, hk, rfl, hA⟩ := hrel
    by_cases hlt : k < L.length
    · obtain ⟨pk, hpk⟩ : ∃ p, L[k]? = some p := ⟨L[k], List.getElem?_eq_getElem hlt⟩
      have hB := hA.below
      obtain ⟨b, off, rfl, hbb, hcell⟩ := hF (by intro e; rw [e] at hlt; simp at hlt)
      obtain ⟨c0, c1, c2, c3⟩ := hcell k pk hpk
      replace c0 := below_cell hB c0
      replace c1 := below_cell hB c1
      replace c2 := below_cell hB c2
      replace c3 := below_cell hB c3
      obtain ⟨hq0, hqm⟩ := hok pk (List.mem_of_getElem? hpk)
      obtain ⟨t1, t2⟩ := take_split hpk
      have hfo : co x (fo (L.take (k + 1))) = co x (fo (L.take k)) + (if pk.1 = x then pk.2.val else 0) := by rw [t1, fo_append]; show co x (fo (L.take k) ++ [(pk.1, pk.2.val)]) = _; rw [co_append]; simp only [co]; rw [Rat.add_zero]
      have hot : oth x (L.take (k + 1)) = oth x (L.take k) ++ (if pk.1 = x then [] else [pk]) := by rw [t1]; exact oth_snoc x _ _
      have hbu : bulkL (L.take (k + 1)) = bulkL (L.take k) + (pk.2.n + pk.2.m + 2) := by rw [t1, bulkL_append]; rfl
      clear t1 t2 hpk hcell
      obtain ⟨y, q0⟩ := pk
      simp only at c0 c1 c2 c3 hq0 hqm hfo hot hbu
      have hq1 := hq0.later hB
      have i1 : (0 : Int) ≤ (k : Int) := by omega
      have i2 : (k : Int) < (L.length : Int) := by omega
      by_cases hyx : y = x
      · rw [if_pos hyx] at hfo hot
        rw [List.append_nil] at hot
        have hyb : (y == x) = true := by simp [hyx]
        obtain ⟨h1, h2⟩ := norm_sz hq0
        have GN := hide' (fun w' k1 k2 => qNorm_is q0.s q0.a q0.n q0.c q0.X q0.b q0.m q0.e q0.Y _ _ w' hq0.2.1 hq0.2.2.1 k1 hq0.2.2.2.2.1 hq0.2.2.2.2.2 k2 q0.val_low)
        obtain ⟨r, hr⟩ : ∃ r, q0.val = r := ⟨_, rfl⟩
        rw [hr] at GN hfo h1 h2
        replace hA := hide' hA
        have HY := hide' hyx
        clear hyx
        go_wp2_with fail
        obtain ⟨wM, hwM⟩ : ∃ wM, wr.alloc (.cells #[.int .i64 y, .bool q0.s, .slice q0.a q0.n q0.c, .slice q0.b q0.m q0.e] 41) = wM := ⟨_, rfl⟩
        have bM : Below wr.heap.size wr wM := by subst hwM; exact below_alloc _
        have a0 : wM.cell? ⟨wr.heap.size, 0, none⟩ = some (.int .i64 y) := by subst hwM; go_simp
        have a1 : wM.cell? ⟨wr.heap.size, 1, none⟩ = some (.bool q0.s) := by subst hwM; go_simp
        have a2 : wM.cell? ⟨wr.heap.size, 2, none⟩ = some (.slice q0.a q0.n q0.c) := by subst hwM; go_simp
        have a3 : wM.cell? ⟨wr.heap.size, 3, none⟩ = some (.slice q0.b q0.m q0.e) := by subst hwM; go_simp
        rw [hwM]
        clear hwM c0 c1 c2 c3
        refine (GN.out _ (hq1.1.later bM) (hq1.2.2.2.1.later bM)).mono ?_
        rintro e w2 ⟨p, p', rfl, n1, n2⟩
        have b2 := n1.below
        obtain ⟨j, q, hj, hO, hT, hB, hne, hq, hrs, hbk⟩ := hA.out
        obtain ⟨w3, hw3⟩ : ∃ w3, w2.alloc (.cells #[.bool (ng r.num), .slice p (ln (am r.num)) (ln (am r.num)), .slice p' (ln r.den) (ln r.den)] 33) = w3 := ⟨_, rfl⟩
        have hnew := heap_alloc_new w2 (.cells #[.bool (ng r.num), .slice p (ln (am r.num)) (ln (am r.num)), .slice p' (ln r.den) (ln r.den)] 33)
        have b3 := below_alloc (w := w2) (.cells #[.bool (ng r.num), .slice p (ln (am r.num)) (ln (am r.num)), .slice p' (ln r.den) (ln r.den)] 33)
        rw [hw3] at hnew b3
        have bT : Below wr.heap.size wr w3 := bM.trans ((b2.mono bM.size).trans (b3.mono (Nat.le_trans bM.size b2.size)))
        have hO3 := own_below hO bT
        have hT3 := own_below hT bT
        have hB3 := hB.trans (bT.mono hB.size)
        have s1 := bM.size
        have s2 := b2.size
        have s3 := b3.size
        have s4 := hB.size
        have hbs : wA.heap.size ≤ w3.heap.size := by omega
        have hrow := fun k hk => (hO.lt k hk)
        have hrowt := fun k hk => (hT.lt k hk)
        have hbl : (j + 1) * 56 ≤ 140737488355328 := by omega
        have hj1 : j + 1 ≤ maxLen := by simp only [maxLen]; omega
        have gok : (RatV.of r.num r.den p p').ok w3 := ⟨n1.seg.later b3, Nat.le_refl _, by show ln (am r.num) ≤ _; have := hq0.2.2.1; omega, n2.seg.later b3, Nat.le_refl _, by show ln r.den ≤ _; omega⟩
        have goff : ∀ b, b < wr.heap.size → (RatV.of r.num r.den p p').off b := fun b hb => ⟨fun hn ad e h => by have h1 := n1.fr hn ad e; omega, fun hn ad e h => by have h1 := n2.fr hn ad e; omega⟩
        go_wp2_with (at_builtin; (try rw [hw3]); refine wpList_append_lies _ (by rfl) _ _ _ (by rfl) wA.heap.size 33 k0 _ 3 56 Tryz.underlying67 hk0 hy0 hy1 hy2 rfl (by omega) u6 j (cellsV q j) (by rfl) hO3 ⟨w2.heap.size, 0, none⟩ 1 1 [.bool (ng r.num), .slice p (ln (am r.num)) (ln (am r.num)), .slice p' (ln r.den) (ln r.den)] (by rfl) (by rfl) (World.news_of_block (cs := #[.bool (ng r.num), .slice p (ln (am r.num)) (ln (am r.num)), .slice p' (ln r.den) (ln r.den)]) (t := 33) (fr := (0, 0)) hnew) (by simp [Value.oneCell']) (by omega) hj1 hbl hbs w3.heap.size rfl ?_)
        intro gb cap w9 hown4 hgrow hat hlt4
        have I1 : AInv wA L x (k + 1) (.slice (some ⟨gb, 0, none⟩) (j + 1) cap) u7 w9 := by
          obtain ⟨q', hq'⟩ : ∃ q' : Nat → RatV, q' = fun i => if i < j then q i else RatV.of r.num r.den p p' := ⟨_, rfl⟩
          have e1 : ∀ i, i < j → q' i = q i := fun i hi => by rw [hq']; exact if_pos hi
          have e2 : q' j = RatV.of r.num r.den p p' := by rw [hq']; exact if_neg (by omega)
          have hgb : ∀ bb, u7.ownBlock = some bb → gb ≠ bb := fun bb h e => by
            rcases hat with h9 | h9
            · exact hne _ h9 (by rw [h, e])
            · have := (hrowt bb h).2; omega
          have kept := World.ownsRow.kept hT3 hgrow (by
            cases hu : u7.ownBlock with
            | none => exact Or.inl rfl
            | some bb => exact Or.inr fun e => hne bb e.symm hu)
          refine ⟨j + 1, q', by omega, ?_, by rw [hot]; exact kept, hB3.trans (below_grown hB3.size (fun k hk => (hrow k hk).1) hgrow), ?_, fun i hi => ?_, ?_, ?_⟩
          · simp only [cellsV]; rw [cellsV_congr j e1, e2]; exact hown4
          · intro bb hbb h
            have : gb = bb := by simpa [Value.ownBlock] using hbb
            exact hgb bb h this
          · rcases Nat.lt_or_ge i j with h5 | h5
            · rw [e1 i h5]
              obtain ⟨a1, a2, a3, a4⟩ := hq i h5
              exact ⟨(a1.later bT).grown hgrow (fun g hg => a3 g hg), a2, off_grown (w := wA) (w1 := w9) (row := none) (a1.later bT) a3 hat, a4⟩
            · obtain rfl : i = j := by omega
              rw [e2]
              exact ⟨gok.grown hgrow (fun g hg => goff g (hrow g hg).2), ofR_low r p p', off_grown (w := wA) (w1 := w9) (row := none) gok (fun g hg => goff g (hrow g hg).2) hat, fun g hg => goff g (hrowt g hg).2⟩
          · simp only [rs]; rw [rs_congr j e1, e2, val_ofR, hrs, hfo]
          · simp only [bulkV]; rw [bulkV_congr j e1, e2, hbu]; show _ + (ln (am r.num) + ln r.den + 1) ≤ _; omega
        replace I1 := hide' I1
        clear hown4 hgrow hat gok goff hO hT hO3 hT3 hq hnew b3 b2 bM bT n1 n2 hB hB3 hA hrow hrowt
        go_wp2
        go_roundw
        case rel => exact ⟨k + 1, by omega, by go_num, I1.out⟩
        case measure => simp [intOf]; omega
      · rw [if_neg hyx, Rat.add_zero] at hfo
        rw [if_neg hyx] at hot
        have hyb : (y == x) = false := by simp [hyx]
        replace hA := hide' hA
        clear hyx
        obtain ⟨wM, hwM⟩ : ∃ wM, wr.alloc (.cells #[.int .i64 y, .bool q0.s, .slice q0.a q0.n q0.c, .slice q0.b q0.m q0.e] 41) = wM := ⟨_, rfl⟩
        have bM : Below wr.heap.size wr wM := by subst hwM; exact below_alloc _
        have a0 : wM.cell? ⟨wr.heap.size, 0, none⟩ = some (.int .i64 y) := by subst hwM; go_simp
        have a1 : wM.cell? ⟨wr.heap.size, 1, none⟩ = some (.bool q0.s) := by subst hwM; go_simp
        have a2 : wM.cell? ⟨wr.heap.size, 2, none⟩ = some (.slice q0.a q0.n q0.c) := by subst hwM; go_simp
        have a3 : wM.cell? ⟨wr.heap.size, 3, none⟩ = some (.slice q0.b q0.m q0.e) := by subst hwM; go_simp
        obtain ⟨w3, hw3⟩ : ∃ w3, wM.alloc (.cells #[.int .i64 y, .bool q0.s, .slice q0.a q0.n q0.c, .slice q0.b q0.m q0.e] 41) = w3 := ⟨_, rfl⟩
        have hnew := heap_alloc_new wM (.cells #[.int .i64 y, .bool q0.s, .slice q0.a q0.n q0.c, .slice q0.b q0.m q0.e] 41)
        have b3 := below_alloc (w := wM) (.cells #[.int .i64 y, .bool q0.s, .slice q0.a q0.n q0.c, .slice q0.b q0.m q0.e] 41)
        rw [hw3] at hnew b3
        obtain ⟨j, q, hj, hO, hT, hB, hne, hq, hrs, hbk⟩ := hA.out
        obtain ⟨R, hRR⟩ : ∃ R, oth x (L.take k) = R := ⟨_, rfl⟩
        rw [hRR] at hT hot
        have hRl : R.length ≤ k := by rw [← hRR]; unfold oth; exact Nat.le_trans (List.length_filter_le _ _) (by rw [List.length_take]; omega)
        replace hRR := hide' hRR
        have bT : Below wr.heap.size wr w3 := bM.trans (b3.mono bM.size)
        have hO3 := own_below hO bT
        have hT3 := own_below hT bT
        have hB3 := hB.trans (bT.mono hB.size)
        have s1 := bM.size
        have s3 := b3.size
        have s4 := hB.size
        have hbs : wA.heap.size ≤ w3.heap.size := by omega
        have hrow := fun k hk => (hO.lt k hk)
        have hrowt := fun k hk => (hT.lt k hk)
        have hbl : (R.length + 1) * 64 ≤ 140737488355328 := by omega
        have hj1 : R.length + 1 ≤ maxLen := by simp only [maxLen]; omega
        go_wp2_with (at_builtin; (try rw [hwM]); (try rw [hw3]); refine wpList_append_lies _ (by rfl) _ _ _ (by rfl) wA.heap.size 41 i0 _ 4 64 Tryz.underlying23 hi0 hz0 hz1 hz2 rfl (by omega) u7 R.length (cellsF R) (by rfl) hT3 ⟨wM.heap.size, 0, none⟩ 1 1 (cells4 (y, q0)) (by rfl) (by rfl) (World.news_of_block (cs := #[.int .i64 y, .bool q0.s, .slice q0.a q0.n q0.c, .slice q0.b q0.m q0.e]) (t := 41) (fr := (0, 0)) hnew) (cells4_one _) (by omega) hj1 hbl hbs w3.heap.size rfl ?_)
        intro gb cap w9 hown4 hgrow hat hlt4
        have I1 : AInv wA L x (k + 1) u6 (.slice (some ⟨gb, 0, none⟩) (R.length + 1) cap) w9 := by
          have hgb : ∀ bb, u6.ownBlock = some bb → gb ≠ bb := fun bb h e => by
            rcases hat with h9 | h9
            · exact hne _ h (by rw [h9, e])
            · have := (hrow bb h).2; omega
          have kept := World.ownsRow.kept hO3 hgrow (by
            cases hu : u6.ownBlock with
            | none => exact Or.inl rfl
            | some bb => exact Or.inr fun e => hne bb hu e.symm)
          refine ⟨j, q, by omega, kept, by rw [hot]; exact own_push hown4, hB3.trans (below_grown hB3.size (fun k hk => (hrowt k hk).1) hgrow), ?_, fun i hi => ?_, by rw [hrs, hfo], by rw [hbu]; omega⟩
          · intro bb hbb h
            have : gb = bb := by simpa [Value.ownBlock] using h
            exact hgb bb hbb this
          · obtain ⟨a1, a2, a3, a4⟩ := hq i hi
            exact ⟨(a1.later bT).grown hgrow (fun g hg => a4 g hg), a2, a3, off_grown (w := wA) (w1 := w9) (row := none) (a1.later bT) a4 hat⟩
        replace I1 := hide' I1
        clear hown4 hgrow hat hO hT hO3 hT3 hq hnew b3 bM bT hB hB3 hA hrow hrowt
        go_wp2
        go_roundw
        case rel => exact ⟨k + 1, by omega, by go_num, I1.out⟩
        case measure => simp [intOf]; omega
    · obtain rfl : k = L.length := by omega
      have i1 : ¬ (L.length : Int) < (L.length : Int) := by omega
      obtain ⟨j, q, hj, hO, hT, hB, hne, hq, hrs, hbk⟩ := hA
      rw [List.take_length] at hT hrs hbk
      obtain ⟨ao, co9, rfl, hjc, hcm, hRA⟩ := own_rats hO
      have GH := hide' (fun w' (hb9 : Below wr.heap.size wr w') p p' (h1 : Seg w' p' 1 1) => byHalves_is j j ao co9 q p p' (rs q j).num (rs q j).den w' (Nat.le_refl _) hjc (by simpa [maxLen] using hcm) (hRA.later hb9) (fun i hi => (hq i hi).1.later hb9) (fun i hi => (hq i hi).2.1) (by omega) h1 (rs_low q j))
      rw [hrs] at GH
      obtain ⟨at9, ct9, rfl, hst⟩ := Sl.of hT
      obtain ⟨s, hs⟩ : ∃ s, co x (fo L) = s := ⟨_, rfl⟩
      rw [hs] at GH
      have rB := rA.later hB
      clear hO hRA hq hrs hne hst
      go_wp2_with fail
      refine (G2.out _).mono ?_
      rintro e w2 ⟨p, p', rfl, n1, n2⟩
      have b2 := n1.below
      go_wp2_with fail
      refine (GH.out _ b2 p p' n2.seg).mono ?_
      rintro e w3 ⟨x3, y3, rfl, b3, g1, g2⟩
      have bT := b2.trans (b3.mono b2.size)
      replace rB := (rB.later b2).later b3
      have hT3 := own_below hT bT
      have hB3 := hB.trans (bT.mono hB.size)
      clear n1 n2 b2 b3 hT GH
      have fz := fun o => rB.2.frozen o
      have z0 := rB.1.1
      have z1 := rB.1.2.1
      have z2 := rB.1.2.2
      have g1' := rB.seg (u0 := .bool (ng s.num)) (u1 := .slice x3 (ln (am s.num)) (ln (am s.num))) (u2 := .slice y3 (ln s.den) (ln s.den)) (by simp) (by simp) (by simp) g1
      have g2' := rB.seg (u0 := .bool (ng s.num)) (u1 := .slice x3 (ln (am s.num)) (ln (am s.num))) (u2 := .slice y3 (ln s.den) (ln s.den)) (by simp) (by simp) (by simp) g2
      have rC := rB.put (u0 := .bool (ng s.num)) (u1 := .slice x3 (ln (am s.num)) (ln (am s.num))) (u2 := .slice y3 (ln s.den) (ln s.den))
      have hT4 := ownsRow_setCell_below (ownsRow_setCell_below (ownsRow_setCell_below hT3 (a := ⟨w.heap.size, 0, none⟩) hsz (.bool (ng s.num))) (a := ⟨w.heap.size, 1, none⟩) hsz (.slice x3 (ln (am s.num)) (ln (am s.num)))) (a := ⟨w.heap.size, 2, none⟩) hsz (.slice y3 (ln s.den) (ln s.den))
      have hB4 : Below w.heap.size w (set3 w3 w.heap.size (.bool (ng s.num)) (.slice x3 (ln (am s.num)) (ln (am s.num))) (.slice y3 (ln s.den) (ln s.den))) := below_set3 (bA.trans (hB3.mono bA.size)) (Nat.le_refl _)
      have HT := hide' hTT.out
      clear hT3 hB3 bT rB
      go_wp2
      obtain ⟨⟨v0, v1, v2⟩, vR⟩ := rC
      refine bodyPost_ret (v := .tuple #[.agg #[.bool (ng s.num), .slice x3 (ln (am s.num)) (ln (am s.num)), .slice y3 (ln s.den) (ln s.den)], .slice at9 (oth x L).length ct9]) (by rw [results_ct rfl]; go_simp) rfl ?_
      rw [← HT.out]
      obtain ⟨a5, c5, e5, s5⟩ := Sl.of hT4
      simp only [Value.slice.injEq] at e5
      obtain ⟨rfl, _, rfl⟩ := e5
      refine ⟨x3, y3, at9, ct9, by rw [hs], hB4, ?_, ?_, s5⟩
      · rw [hs]; exact g1'
      · rw [hs]; exact g2'
end Go.Proofs.YtbdgmfofpenjlaaGreat

namespace Go.Proofs.YtbdgmfofpenjlaaGreat
open Go.RowKit
set_option linter.unusedVariables false
set_option linter.unusedSimpArgs false

/-- an answer that is a number in lowest terms -/
def BAns (w : World) (r : Rat) (e : Ending) (w' : World) : Prop :=
  ∃ p q, e = .returned (.agg #[.bool (ng r.num), .slice p (ln (am r.num)) (ln (am r.num)), .slice q (ln r.den) (ln r.den)]) ∧ Below w.heap.size w w' ∧ Seg w' p (am r.num) (ln (am r.num)) ∧ Seg w' q r.den (ln r.den)

set_option maxHeartbeats 2000000 in
set_option maxRecDepth 100000 in
theorem lCoef_is (a : Option Addr) (ca : Nat) (L : List Mo) (x : Int) (w : World) (hF : FAt w a L) (hok : ∀ p ∈ L, p.2.ok w ∧ p.2.m < 35184372087808) (hc : L.length ≤ ca) (hm : L.length ≤ 1048576) (hb : bulkL L + 1 ≤ 1099511627776) :
    Calls Tryz.prog 12 #[.slice a L.length ca, .int .i64 x] w (BAns w (co x (fo L))) := by
  have G := hide' (fun w' (hb9 : Below w.heap.size w w') => apart_is a ca L x w' (hF.later hb9) (fun p hp => And.intro ((hok p hp).1.later hb9) (hok p hp).2) hc hm hb)
  clear hF hok hc hm hb
  go_enter Tryz.func12, Tryz.ntmps12
  go_wp2_with fail
  obtain ⟨wA, hwA⟩ : ∃ wA, w.alloc (.cells #[.bool false, .slice none 0 0, .slice none 0 0] 33) = wA := ⟨_, rfl⟩
  have bA : Below w.heap.size w wA := by subst hwA; exact below_alloc _
  have rA : Thr wA w.heap.size (.bool false) (.slice none 0 0) (.slice none 0 0) := by subst hwA; exact ⟨⟨by go_simp, by go_simp, by go_simp⟩, row_new w _ 33⟩
  rw [hwA]
  clear hwA
  refine (G.out _ bA).mono ?_
  rintro e w1 ⟨p, q, a1, c1, rfl, b1, g1, g2, s1⟩
  obtain ⟨s, hs⟩ : ∃ s, co x (fo L) = s := ⟨_, rfl⟩
  rw [hs] at g1 g2 ⊢
  have rB := rA.later b1
  have hB := bA.trans (b1.mono bA.size)
  clear rA b1 bA s1
  have b2 := below_alloc (w := w1) (.cells #[.bool (ng s.num), .slice p (ln (am s.num)) (ln (am s.num)), .slice q (ln s.den) (ln s.den)] 33)
  have rC := rB.later b2
  have g3 := g1.later b2
  have g4 := g2.later b2
  have hB2 := hB.trans (b2.mono hB.size)
  clear rB g1 g2 hB b2
  have fz := fun o => rC.2.frozen o
  have z0 := rC.1.1
  have z1 := rC.1.2.1
  have z2 := rC.1.2.2
  have k3 := rC.seg (u0 := .bool (ng s.num)) (u1 := .slice p (ln (am s.num)) (ln (am s.num))) (u2 := .slice q (ln s.den) (ln s.den)) (by simp) (by simp) (by simp) g3
  have k4 := rC.seg (u0 := .bool (ng s.num)) (u1 := .slice p (ln (am s.num)) (ln (am s.num))) (u2 := .slice q (ln s.den) (ln s.den)) (by simp) (by simp) (by simp) g4
  have rD := rC.put (u0 := .bool (ng s.num)) (u1 := .slice p (ln (am s.num)) (ln (am s.num))) (u2 := .slice q (ln s.den) (ln s.den))
  have hB3 := below_set3 (u0 := .bool (ng s.num)) (u1 := .slice p (ln (am s.num)) (ln (am s.num))) (u2 := .slice q (ln s.den) (ln s.den)) hB2 (Nat.le_refl _)
  clear g3 g4 hB2 rC
  replace hB3 := hide' hB3
  replace k3 := hide' k3
  replace k4 := hide' k4
  obtain ⟨⟨v0, v1, v2⟩, vR⟩ := rD
  clear vR
  go_wp2
  refine bodyPost_ret (v := Value.agg #[Value.bool (ng s.num), Value.slice p (ln (am s.num)) (ln (am s.num)), Value.slice q (ln s.den) (ln s.den)]) (by rw [results_cell rfl]; go_simp) rfl ?_
  rw [hs]
  exact ⟨p, q, rfl, hB3.out, k3.out, k4.out⟩
end Go.Proofs.YtbdgmfofpenjlaaGreat
