/-
  Layer 6: Solve, where the variable has a coefficient.
-/
import Derived.Test.YtkflbhkcofmaoaaGreatWN4
import Derived.Test.YtkflbhkcofmaoaaGreatNumS
import Derived.Test.YtkflbhkcofmaoaaGreatWL6
import Derived.Test.YtkflbhkcofmaoaaGreatWQB
import Derived.Below
import Derived.Test.YtkflbhkcofmaoaaGreatWN11
namespace Go.Proofs.YtkflbhkcofmaoaaGreat
open Go.RowKit
set_option linter.unusedVariables false

/-- three cells of a variable, and that it can be stored into -/
def Thr (w : World) (c : Nat) (u0 u1 u2 : Value) : Prop :=
  (w.cell? ⟨c, 0, none⟩ = some u0 ∧ w.cell? ⟨c, 1, none⟩ = some u1 ∧ w.cell? ⟨c, 2, none⟩ = some u2) ∧ Row w c
theorem Thr.later {w w' : World} {c : Nat} {u0 u1 u2 : Value} (h : Thr w c u0 u1 u2) (hb : Below w.heap.size w w') : Thr w' c u0 u1 u2 :=
  ⟨⟨below_cell hb h.1.1, below_cell hb h.1.2.1, below_cell hb h.1.2.2⟩, below_row hb h.2⟩
abbrev set3 (w : World) (c : Nat) (u0 u1 u2 : Value) : World := ((w.setCell ⟨c, 0, none⟩ u0).setCell ⟨c, 1, none⟩ u1).setCell ⟨c, 2, none⟩ u2
theorem Thr.put {w : World} {c : Nat} {u0 u1 u2 z0 z1 z2 : Value} (h : Thr w c z0 z1 z2) : Thr (set3 w c u0 u1 u2) c u0 u1 u2 :=
  ⟨set3_same h.1.1 h.1.2.1 h.1.2.2, ((h.2.setCell _ _).setCell _ _).setCell _ _⟩
theorem Thr.far {w : World} {c r : Nat} {u0 u1 u2 z0 z1 z2 : Value} (h : Thr w r z0 z1 z2) (hne : c ≠ r) : Thr (set3 w c u0 u1 u2) r z0 z1 z2 :=
  ⟨⟨by rw [set3_far hne]; exact h.1.1, by rw [set3_far hne]; exact h.1.2.1, by rw [set3_far hne]; exact h.1.2.2⟩, ((h.2.setCell _ _).setCell _ _).setCell _ _⟩
theorem Thr.seg {w : World} {c : Nat} {u0 u1 u2 z0 z1 z2 : Value} (h : Thr w c z0 z1 z2) (k0 : ∀ i, z0 ≠ .int .u32 i) (k1 : ∀ i, z1 ≠ .int .u32 i) (k2 : ∀ i, z2 ≠ .int .u32 i) {p : Option Addr} {X n : Nat} (hS : Seg w p X n) : Seg (set3 w c u0 u1 u2) p X n := by
  refine seg_setU (z := z2) (seg_setU (z := z1) (seg_setU (z := z0) hS h.1.1 k0) ?_ k1) ?_ k2
  · rw [World.cell?_setCell_other _ _ _ _ (fun e => by simp at e)]; exact h.1.2.1
  · rw [World.cell?_setCell_other _ _ _ _ (fun e => by simp at e), World.cell?_setCell_other _ _ _ _ (fun e => by simp at e)]; exact h.1.2.2
theorem below_set3 {B : Nat} {w w' : World} {c : Nat} {u0 u1 u2 : Value} (h : Below B w w') (hc : B ≤ c) : Below B w (set3 w' c u0 u1 u2) := ((h.setCell hc _).setCell hc _).setCell hc _

/-- all entries of a list -/
def Ents (w : World) (R : List Mo) : Prop := ∀ p ∈ R, Ent w p
theorem Ents.later {w w' : World} {R : List Mo} (h : Ents w R) (hb : Below w.heap.size w w') : Ents w' R := fun p hp => (h p hp).later hb
end Go.Proofs.YtkflbhkcofmaoaaGreat

namespace Go.Proofs.YtkflbhkcofmaoaaGreat
open Go.RowKit
set_option linter.unusedVariables false
set_option linter.unusedSimpArgs false

/-- the sum of the first n -/
def rs (q : Nat → RatV) : Nat → Rat
  | 0 => 0
  | n + 1 => rs q n + (q n).val
theorem rs_div (q : Nat → RatV) : ∀ n, rs q n = Rat.divInt (lnum (lq q n)) ((lden (lq q n) : Nat) : Int)
  | 0 => by show (0 : Rat) = Rat.divInt 0 _; rw [Rat.zero_divInt]
  | n + 1 => by
    have hp := lden_lq_pos q n
    simp only [rs]
    rw [rs_div q n, lq_succ, lnum_append, lden_append]
    unfold RatV.val
    rw [Rat.divInt_add_divInt _ _ (by omega) (rd_ne _)]
    have e1 : lden [(rn (q n).s (q n).X (q n).Y, rd (q n).Y)] = rd (q n).Y := Nat.mul_one _
    have e2 : lnum [(rn (q n).s (q n).X (q n).Y, rd (q n).Y)] = rn (q n).s (q n).X (q n).Y := by
      show _ * ((1 : Nat) : Int) + 0 * _ = _
      simp
    rw [e1, e2, Int.natCast_mul]
theorem rs_low (q : Nat → RatV) (n : Nat) : Low (lnum (lq q n)) ((lden (lq q n) : Nat) : Int) (rs q n).num (rs q n).den := low_of (by have := lden_lq_pos q n; omega) (rs_div q n)
theorem rs_congr {q q' : Nat → RatV} : ∀ (n : Nat), (∀ i, i < n → q' i = q i) → rs q' n = rs q n
  | 0, _ => rfl
  | n + 1, h => by simp only [rs]; rw [rs_congr n fun i hi => h i (by omega), h n (by omega)]
theorem bulkV_congr {q q' : Nat → RatV} : ∀ (n : Nat), (∀ i, i < n → q' i = q i) → bulkV q' n = bulkV q n
  | 0, _ => rfl
  | n + 1, h => by simp only [bulkV]; rw [bulkV_congr n fun i hi => h i (by omega), h n (by omega)]
theorem bulkL_append : ∀ (A B : List Mo), bulkL (A ++ B) = bulkL A + bulkL B
  | [], B => by simp [bulkL]
  | p :: A, B => by simp only [List.cons_append, bulkL, bulkL_append A B]; omega
/-- the parts of the other variables -/
def oth (x : Int) (L : List Mo) : List Mo := L.filter fun p => !(p.1 == x)
theorem oth_snoc (x : Int) (L : List Mo) (p : Mo) : oth x (L ++ [p]) = oth x L ++ (if p.1 = x then [] else [p]) := by
  unfold oth
  rw [List.filter_append]
  congr 1
  by_cases h : p.1 = x
  · simp [h]
  · simp [h]

/-- the parts of one variable -/
def mine (x : Int) (L : List Mo) : List Mo := L.filter fun p => p.1 == x
theorem mine_snoc (x : Int) (L : List Mo) (p : Mo) : mine x (L ++ [p]) = mine x L ++ (if p.1 = x then [p] else []) := by
  unfold mine
  rw [List.filter_append]
  congr 1
  by_cases h : p.1 = x
  · simp [h]
  · simp [h]
theorem bulkL_mine (x : Int) : ∀ (L : List Mo), bulkL (mine x L) ≤ bulkL L
  | [] => Nat.le_refl _
  | p :: L => by
    have h := bulkL_mine x L
    unfold mine at h ⊢
    rw [List.filter_cons]
    split
    · simp only [bulkL]; omega
    · simp only [bulkL]; omega

/-- what the loop of apart keeps -/
def AInv (w : World) (L : List Mo) (x : Int) (k : Nat) (vo vt : Value) (wr : World) : Prop :=
  ∃ (j : Nat) (q : Nat → RatV), j ≤ k ∧ wr.ownsRow w.heap.size 31 3 vo j (cellsV q j) ∧ wr.ownsRow w.heap.size 59 4 vt (oth x (L.take k)).length (cellsF (oth x (L.take k))) ∧ Below w.heap.size w wr ∧
    (∀ b, vo.ownBlock = some b → vt.ownBlock ≠ some b) ∧ (∀ i, i < j → (q i).ok wr ∧ (q i).low ∧ (∀ b, vo.ownBlock = some b → (q i).off b) ∧ (∀ b, vt.ownBlock = some b → (q i).off b)) ∧
    rs q j = co x (fo (L.take k)) ∧ bulkV q j ≤ bulkL (mine x (L.take k))
theorem off_grown {w wr w1 : World} {q : RatV} {vo : Value} {row : Option Nat} {gb j cap : Nat} (hok : q.ok wr) (h : ∀ b, vo.ownBlock = some b → q.off b) (hat : vo.ownBlock = some gb ∨ gb = wr.heap.size) : ∀ b, (Value.slice (some ⟨gb, 0, none⟩) j cap).ownBlock = some b → q.off b := fun b hb => by
  have : gb = b := by simpa [Value.ownBlock] using hb
  subst this
  rcases hat with h1 | h1
  · exact h _ h1
  · exact hok.off (by omega)
end Go.Proofs.YtkflbhkcofmaoaaGreat

namespace Go.Proofs.YtkflbhkcofmaoaaGreat
open Go.RowKit
set_option linter.unusedVariables false
set_option linter.unusedSimpArgs false

/-- what apart tells -/
def ApAns (w : World) (L : List Mo) (x : Int) (e : Ending) (w' : World) : Prop :=
  ∃ p q a c, e = .returned (.tuple #[.agg #[.bool (ng (co x (fo L)).num), .slice p (ln (am (co x (fo L)).num)) (ln (am (co x (fo L)).num)), .slice q (ln (co x (fo L)).den) (ln (co x (fo L)).den)], .slice a (oth x L).length c]) ∧ Below w.heap.size w w' ∧
    Seg w' p (am (co x (fo L)).num) (ln (am (co x (fo L)).num)) ∧ Seg w' q (co x (fo L)).den (ln (co x (fo L)).den) ∧ Sl w' a c (oth x L)
theorem AInv.below {w : World} {L : List Mo} {x : Int} {k : Nat} {vo vt : Value} {wr : World} (h : AInv w L x k vo vt wr) : Below w.heap.size w wr := by
  obtain ⟨j, q, _, _, _, hB, _⟩ := h
  exact hB

set_option maxHeartbeats 8000000 in
set_option maxRecDepth 100000 in
theorem apart_is (a : Option Addr) (ca : Nat) (L : List Mo) (x : Int) (w : World) (hF : FAt w a L) (hok : ∀ p ∈ L, p.2.ok w ∧ p.2.m < 35184372087808) (hc : L.length ≤ ca) (hm : L.length ≤ 1048576) (hb : bulkL (mine x L) + 1 ≤ 1099511627776) :
    Calls Tryz.prog 40 #[.slice a L.length ca, .int .i64 x] w (ApAns w L x) := by
  obtain ⟨i0, hi0, hz0, hz1, hz2⟩ := info_parts info_Mono
  obtain ⟨k0, hk0, hy0, hy1, hy2⟩ := info_parts info_Rat
  have G2' := fun w' => qWhole_is 0 w' (by omega) (by omega)
  rw [show ng 0 = false from rfl, show ln (am 0) = 0 from ln_zero, ln_one] at G2'
  have G2 := hide' G2'
  clear G2'
  obtain ⟨TT, hTT⟩ : ∃ TT, ApAns w L x = TT := ⟨_, rfl⟩
  rw [hTT]
  replace hTT := hide' hTT
  go_enter Tryz.func40, Tryz.ntmps40
  go_wp2_with fail
  obtain ⟨wA, hwA⟩ : ∃ wA, w.alloc (.cells #[.bool false, .slice none 0 0, .slice none 0 0] 31) = wA := ⟨_, rfl⟩
  have bA : Below w.heap.size w wA := by subst hwA; exact below_alloc _
  have rA : Thr wA w.heap.size (.bool false) (.slice none 0 0) (.slice none 0 0) := by subst hwA; exact ⟨⟨by go_simp, by go_simp, by go_simp⟩, row_new w _ 31⟩
  have hsz : w.heap.size < wA.heap.size := rA.2.lt
  rw [hwA]
  clear hwA
  replace hF := hF.later bA
  replace hok := fun p hp => And.intro ((hok p hp).1.later bA) (hok p hp).2
  go_loopw [6, 7, 12] (fun vo vt vi wr => ∃ k : Nat, k ≤ L.length ∧ vi = .int .i64 k ∧ AInv wA L x k vo vt wr) (fun _ _ vi _ => L.length - (intOf vi).toNat)
  case atStart => exact ⟨0, Nat.zero_le _, rfl, 0, fun _ => default, Nat.le_refl _, World.ownsRow_nil _ _ _ _, World.ownsRow_nil _ _ _ _, Below.refl _ _, fun b h => by simp [Value.ownBlock] at h, fun i hi => absurd hi (by omega), rfl, Nat.le_refl _⟩
  case round =>
    obtain ⟨k, hk, rfl, hA⟩ := hrel
    by_cases hlt : k < L.length
    · obtain ⟨pk, hpk⟩ : ∃ p, L[k]? = some p := ⟨L[k], List.getElem?_eq_getElem hlt⟩
      have hB := hA.below
      obtain ⟨b, off, rfl, hbb, hcell⟩ := hF (by intro e; rw [e] at hlt; simp at hlt)
      obtain ⟨c0, c1, c2, c3⟩ := hcell k pk hpk
      replace c0 := below_cell hB c0
      replace c1 := below_cell hB c1
      replace c2 := below_cell hB c2
      replace c3 := below_cell hB c3
      obtain ⟨hq0, hqm⟩ := hok pk (List.mem_of_getElem? hpk)
      obtain ⟨t1, t2⟩ := take_split hpk
      have hfo : co x (fo (L.take (k + 1))) = co x (fo (L.take k)) + (if pk.1 = x then pk.2.val else 0) := by rw [t1, fo_append]; show co x (fo (L.take k) ++ [(pk.1, pk.2.val)]) = _; rw [co_append]; simp only [co]; rw [Rat.add_zero]
      have hot : oth x (L.take (k + 1)) = oth x (L.take k) ++ (if pk.1 = x then [] else [pk]) := by rw [t1]; exact oth_snoc x _ _
      have hbu : bulkL (mine x (L.take (k + 1))) = bulkL (mine x (L.take k)) + (if pk.1 = x then pk.2.n + pk.2.m + 2 else 0) := by rw [t1, mine_snoc, bulkL_append]; split <;> rfl
      clear t1 t2 hpk hcell
      obtain ⟨y, q0⟩ := pk
      simp only at c0 c1 c2 c3 hq0 hqm hfo hot hbu
      have hq1 := hq0.later hB
      have i1 : (0 : Int) ≤ (k : Int) := by omega
      have i2 : (k : Int) < (L.length : Int) := by omega
      by_cases hyx : y = x
      · rw [if_pos hyx] at hfo hot hbu
        rw [List.append_nil] at hot
        have hyb : (y == x) = true := by simp [hyx]
        obtain ⟨h1, h2⟩ := norm_sz hq0
        have GN := hide' (fun w' k1 k2 => qNorm_is q0.s q0.a q0.n q0.c q0.X q0.b q0.m q0.e q0.Y _ _ w' hq0.2.1 hq0.2.2.1 k1 hq0.2.2.2.2.1 hq0.2.2.2.2.2 k2 q0.val_low)
        obtain ⟨r, hr⟩ : ∃ r, q0.val = r := ⟨_, rfl⟩
        rw [hr] at GN hfo h1 h2
        replace hA := hide' hA
        have HY := hide' hyx
        clear hyx
        go_wp2_with fail
        obtain ⟨wM, hwM⟩ : ∃ wM, wr.alloc (.cells #[.int .i64 y, .bool q0.s, .slice q0.a q0.n q0.c, .slice q0.b q0.m q0.e] 59) = wM := ⟨_, rfl⟩
        have bM : Below wr.heap.size wr wM := by subst hwM; exact below_alloc _
        have a0 : wM.cell? ⟨wr.heap.size, 0, none⟩ = some (.int .i64 y) := by subst hwM; go_simp
        have a1 : wM.cell? ⟨wr.heap.size, 1, none⟩ = some (.bool q0.s) := by subst hwM; go_simp
        have a2 : wM.cell? ⟨wr.heap.size, 2, none⟩ = some (.slice q0.a q0.n q0.c) := by subst hwM; go_simp
        have a3 : wM.cell? ⟨wr.heap.size, 3, none⟩ = some (.slice q0.b q0.m q0.e) := by subst hwM; go_simp
        rw [hwM]
        clear hwM c0 c1 c2 c3
        refine (GN.out _ (hq1.1.later bM) (hq1.2.2.2.1.later bM)).mono ?_
        rintro e w2 ⟨p, p', rfl, n1, n2⟩
        have b2 := n1.below
        obtain ⟨j, q, hj, hO, hT, hB, hne, hq, hrs, hbk⟩ := hA.out
        obtain ⟨w3, hw3⟩ : ∃ w3, w2.alloc (.cells #[.bool (ng r.num), .slice p (ln (am r.num)) (ln (am r.num)), .slice p' (ln r.den) (ln r.den)] 31) = w3 := ⟨_, rfl⟩
        have hnew := heap_alloc_new w2 (.cells #[.bool (ng r.num), .slice p (ln (am r.num)) (ln (am r.num)), .slice p' (ln r.den) (ln r.den)] 31)
        have b3 := below_alloc (w := w2) (.cells #[.bool (ng r.num), .slice p (ln (am r.num)) (ln (am r.num)), .slice p' (ln r.den) (ln r.den)] 31)
        rw [hw3] at hnew b3
        have bT : Below wr.heap.size wr w3 := bM.trans ((b2.mono bM.size).trans (b3.mono (Nat.le_trans bM.size b2.size)))
        have hO3 := own_below hO bT
        have hT3 := own_below hT bT
        have hB3 := hB.trans (bT.mono hB.size)
        have s1 := bM.size
        have s2 := b2.size
        have s3 := b3.size
        have s4 := hB.size
        have hbs : wA.heap.size ≤ w3.heap.size := by omega
        have hrow := fun k hk => (hO.lt k hk)
        have hrowt := fun k hk => (hT.lt k hk)
        have hbl : (j + 1) * 56 ≤ 140737488355328 := by omega
        have hj1 : j + 1 ≤ maxLen := by simp only [maxLen]; omega
        have gok : (RatV.of r.num r.den p p').ok w3 := ⟨n1.seg.later b3, Nat.le_refl _, by show ln (am r.num) ≤ _; have := hq0.2.2.1; omega, n2.seg.later b3, Nat.le_refl _, by show ln r.den ≤ _; omega⟩
        have goff : ∀ b, b < wr.heap.size → (RatV.of r.num r.den p p').off b := fun b hb => ⟨fun hn ad e h => by have h1 := n1.fr hn ad e; omega, fun hn ad e h => by have h1 := n2.fr hn ad e; omega⟩
        go_wp2_with (at_builtin; (try rw [hw3]); refine wpList_append_lies _ (by rfl) _ _ _ (by rfl) wA.heap.size 31 k0 _ 3 56 Tryz.underlying36 hk0 hy0 hy1 hy2 rfl (by omega) u6 j (cellsV q j) (by rfl) hO3 ⟨w2.heap.size, 0, none⟩ 1 1 [.bool (ng r.num), .slice p (ln (am r.num)) (ln (am r.num)), .slice p' (ln r.den) (ln r.den)] (by rfl) (by rfl) (World.news_of_block (cs := #[.bool (ng r.num), .slice p (ln (am r.num)) (ln (am r.num)), .slice p' (ln r.den) (ln r.den)]) (t := 31) (fr := (0, 0)) hnew) (by simp [Value.oneCell']) (by omega) hj1 hbl hbs w3.heap.size rfl ?_)
        intro gb cap w9 hown4 hgrow hat hlt4
        have I1 : AInv wA L x (k + 1) (.slice (some ⟨gb, 0, none⟩) (j + 1) cap) u7 w9 := by
          obtain ⟨q', hq'⟩ : ∃ q' : Nat → RatV, q' = fun i => if i < j then q i else RatV.of r.num r.den p p' := ⟨_, rfl⟩
          have e1 : ∀ i, i < j → q' i = q i := fun i hi => by rw [hq']; exact if_pos hi
          have e2 : q' j = RatV.of r.num r.den p p' := by rw [hq']; exact if_neg (by omega)
          have hgb : ∀ bb, u7.ownBlock = some bb → gb ≠ bb := fun bb h e => by
            rcases hat with h9 | h9
            · exact hne _ h9 (by rw [h, e])
            · have := (hrowt bb h).2; omega
          have kept := World.ownsRow.kept hT3 hgrow (by
            cases hu : u7.ownBlock with
            | none => exact Or.inl rfl
            | some bb => exact Or.inr fun e => hne bb e.symm hu)
          refine ⟨j + 1, q', by omega, ?_, by rw [hot]; exact kept, hB3.trans (below_grown hB3.size (fun k hk => (hrow k hk).1) hgrow), ?_, fun i hi => ?_, ?_, ?_⟩
          · simp only [cellsV]; rw [cellsV_congr j e1, e2]; exact hown4
          · intro bb hbb h
            have : gb = bb := by simpa [Value.ownBlock] using hbb
            exact hgb bb h this
          · rcases Nat.lt_or_ge i j with h5 | h5
            · rw [e1 i h5]
              obtain ⟨a1, a2, a3, a4⟩ := hq i h5
              exact ⟨(a1.later bT).grown hgrow (fun g hg => a3 g hg), a2, off_grown (w := wA) (w1 := w9) (row := none) (a1.later bT) a3 hat, a4⟩
            · obtain rfl : i = j := by omega
              rw [e2]
              exact ⟨gok.grown hgrow (fun g hg => goff g (hrow g hg).2), ofR_low r p p', off_grown (w := wA) (w1 := w9) (row := none) gok (fun g hg => goff g (hrow g hg).2) hat, fun g hg => goff g (hrowt g hg).2⟩
          · simp only [rs]; rw [rs_congr j e1, e2, val_ofR, hrs, hfo]
          · simp only [bulkV]; rw [bulkV_congr j e1, e2, hbu]; show _ + (ln (am r.num) + ln r.den + 1) ≤ _; omega
        replace I1 := hide' I1
        clear hown4 hgrow hat gok goff hO hT hO3 hT3 hq hnew b3 b2 bM bT n1 n2 hB hB3 hA hrow hrowt
        go_wp2
        go_roundw
        case rel => exact ⟨k + 1, by omega, by go_num, I1.out⟩
        case measure => simp [intOf]; omega
      · rw [if_neg hyx, Rat.add_zero] at hfo
        rw [if_neg hyx] at hot hbu
        have hyb : (y == x) = false := by simp [hyx]
        replace hA := hide' hA
        clear hyx
        obtain ⟨wM, hwM⟩ : ∃ wM, wr.alloc (.cells #[.int .i64 y, .bool q0.s, .slice q0.a q0.n q0.c, .slice q0.b q0.m q0.e] 59) = wM := ⟨_, rfl⟩
        have bM : Below wr.heap.size wr wM := by subst hwM; exact below_alloc _
        have a0 : wM.cell? ⟨wr.heap.size, 0, none⟩ = some (.int .i64 y) := by subst hwM; go_simp
        have a1 : wM.cell? ⟨wr.heap.size, 1, none⟩ = some (.bool q0.s) := by subst hwM; go_simp
        have a2 : wM.cell? ⟨wr.heap.size, 2, none⟩ = some (.slice q0.a q0.n q0.c) := by subst hwM; go_simp
        have a3 : wM.cell? ⟨wr.heap.size, 3, none⟩ = some (.slice q0.b q0.m q0.e) := by subst hwM; go_simp
        obtain ⟨w3, hw3⟩ : ∃ w3, wM.alloc (.cells #[.int .i64 y, .bool q0.s, .slice q0.a q0.n q0.c, .slice q0.b q0.m q0.e] 59) = w3 := ⟨_, rfl⟩
        have hnew := heap_alloc_new wM (.cells #[.int .i64 y, .bool q0.s, .slice q0.a q0.n q0.c, .slice q0.b q0.m q0.e] 59)
        have b3 := below_alloc (w := wM) (.cells #[.int .i64 y, .bool q0.s, .slice q0.a q0.n q0.c, .slice q0.b q0.m q0.e] 59)
        rw [hw3] at hnew b3
        obtain ⟨j, q, hj, hO, hT, hB, hne, hq, hrs, hbk⟩ := hA.out
        obtain ⟨R, hRR⟩ : ∃ R, oth x (L.take k) = R := ⟨_, rfl⟩
        rw [hRR] at hT hot
        have hRl : R.length ≤ k := by rw [← hRR]; unfold oth; exact Nat.le_trans (List.length_filter_le _ _) (by rw [List.length_take]; omega)
        replace hRR := hide' hRR
        have bT : Below wr.heap.size wr w3 := bM.trans (b3.mono bM.size)
        have hO3 := own_below hO bT
        have hT3 := own_below hT bT
        have hB3 := hB.trans (bT.mono hB.size)
        have s1 := bM.size
        have s3 := b3.size
        have s4 := hB.size
        have hbs : wA.heap.size ≤ w3.heap.size := by omega
        have hrow := fun k hk => (hO.lt k hk)
        have hrowt := fun k hk => (hT.lt k hk)
        have hbl : (R.length + 1) * 64 ≤ 140737488355328 := by omega
        have hj1 : R.length + 1 ≤ maxLen := by simp only [maxLen]; omega
        go_wp2_with (at_builtin; (try rw [hwM]); (try rw [hw3]); refine wpList_append_lies _ (by rfl) _ _ _ (by rfl) wA.heap.size 59 i0 _ 4 64 Tryz.underlying25 hi0 hz0 hz1 hz2 rfl (by omega) u7 R.length (cellsF R) (by rfl) hT3 ⟨wM.heap.size, 0, none⟩ 1 1 (cells4 (y, q0)) (by rfl) (by rfl) (World.news_of_block (cs := #[.int .i64 y, .bool q0.s, .slice q0.a q0.n q0.c, .slice q0.b q0.m q0.e]) (t := 59) (fr := (0, 0)) hnew) (cells4_one _) (by omega) hj1 hbl hbs w3.heap.size rfl ?_)
        intro gb cap w9 hown4 hgrow hat hlt4
        have I1 : AInv wA L x (k + 1) u6 (.slice (some ⟨gb, 0, none⟩) (R.length + 1) cap) w9 := by
          have hgb : ∀ bb, u6.ownBlock = some bb → gb ≠ bb := fun bb h e => by
            rcases hat with h9 | h9
            · exact hne _ h (by rw [h9, e])
            · have := (hrow bb h).2; omega
          have kept := World.ownsRow.kept hO3 hgrow (by
            cases hu : u6.ownBlock with
            | none => exact Or.inl rfl
            | some bb => exact Or.inr fun e => hne bb hu e.symm)
          refine ⟨j, q, by omega, kept, by rw [hot]; exact own_push hown4, hB3.trans (below_grown hB3.size (fun k hk => (hrowt k hk).1) hgrow), ?_, fun i hi => ?_, by rw [hrs, hfo], by rw [hbu]; omega⟩
          · intro bb hbb h
            have : gb = bb := by simpa [Value.ownBlock] using h
            exact hgb bb hbb this
          · obtain ⟨a1, a2, a3, a4⟩ := hq i hi
            exact ⟨(a1.later bT).grown hgrow (fun g hg => a4 g hg), a2, a3, off_grown (w := wA) (w1 := w9) (row := none) (a1.later bT) a4 hat⟩
        replace I1 := hide' I1
        clear hown4 hgrow hat hO hT hO3 hT3 hq hnew b3 bM bT hB hB3 hA hrow hrowt
        go_wp2
        go_roundw
        case rel => exact ⟨k + 1, by omega, by go_num, I1.out⟩
        case measure => simp [intOf]; omega
    · obtain rfl : k = L.length := by omega
      have i1 : ¬ (L.length : Int) < (L.length : Int) := by omega
      obtain ⟨j, q, hj, hO, hT, hB, hne, hq, hrs, hbk⟩ := hA
      rw [List.take_length] at hT hrs hbk
      obtain ⟨ao, co9, rfl, hjc, hcm, hRA⟩ := own_rats hO
      have GH := hide' (fun w' (hb9 : Below wr.heap.size wr w') p p' (h1 : Seg w' p' 1 1) => byHalves_is j j ao co9 q p p' (rs q j).num (rs q j).den w' (Nat.le_refl _) hjc (by simpa [maxLen] using hcm) (hRA.later hb9) (fun i hi => (hq i hi).1.later hb9) (fun i hi => (hq i hi).2.1) (by omega) h1 (rs_low q j))
      rw [hrs] at GH
      obtain ⟨at9, ct9, rfl, hst⟩ := Sl.of hT
      obtain ⟨s, hs⟩ : ∃ s, co x (fo L) = s := ⟨_, rfl⟩
      rw [hs] at GH
      have rB := rA.later hB
      clear hO hRA hq hrs hne hst
      go_wp2_with fail
      refine (G2.out _).mono ?_
      rintro e w2 ⟨p, p', rfl, n1, n2⟩
      have b2 := n1.below
      go_wp2_with fail
      refine (GH.out _ b2 p p' n2.seg).mono ?_
      rintro e w3 ⟨x3, y3, rfl, b3, g1, g2⟩
      have bT := b2.trans (b3.mono b2.size)
      replace rB := (rB.later b2).later b3
      have hT3 := own_below hT bT
      have hB3 := hB.trans (bT.mono hB.size)
      clear n1 n2 b2 b3 hT GH
      have fz := fun o => rB.2.frozen o
      have z0 := rB.1.1
      have z1 := rB.1.2.1
      have z2 := rB.1.2.2
      have g1' := rB.seg (u0 := .bool (ng s.num)) (u1 := .slice x3 (ln (am s.num)) (ln (am s.num))) (u2 := .slice y3 (ln s.den) (ln s.den)) (by simp) (by simp) (by simp) g1
      have g2' := rB.seg (u0 := .bool (ng s.num)) (u1 := .slice x3 (ln (am s.num)) (ln (am s.num))) (u2 := .slice y3 (ln s.den) (ln s.den)) (by simp) (by simp) (by simp) g2
      have rC := rB.put (u0 := .bool (ng s.num)) (u1 := .slice x3 (ln (am s.num)) (ln (am s.num))) (u2 := .slice y3 (ln s.den) (ln s.den))
      have hT4 := ownsRow_setCell_below (ownsRow_setCell_below (ownsRow_setCell_below hT3 (a := ⟨w.heap.size, 0, none⟩) hsz (.bool (ng s.num))) (a := ⟨w.heap.size, 1, none⟩) hsz (.slice x3 (ln (am s.num)) (ln (am s.num)))) (a := ⟨w.heap.size, 2, none⟩) hsz (.slice y3 (ln s.den) (ln s.den))
      have hB4 : Below w.heap.size w (set3 w3 w.heap.size (.bool (ng s.num)) (.slice x3 (ln (am s.num)) (ln (am s.num))) (.slice y3 (ln s.den) (ln s.den))) := below_set3 (bA.trans (hB3.mono bA.size)) (Nat.le_refl _)
      have HT := hide' hTT.out
      clear hT3 hB3 bT rB
      go_wp2
      obtain ⟨⟨v0, v1, v2⟩, vR⟩ := rC
      refine bodyPost_ret (v := .tuple #[.agg #[.bool (ng s.num), .slice x3 (ln (am s.num)) (ln (am s.num)), .slice y3 (ln s.den) (ln s.den)], .slice at9 (oth x L).length ct9]) (by rw [results_ct rfl]; go_simp) rfl ?_
      rw [← HT.out]
      obtain ⟨a5, c5, e5, s5⟩ := Sl.of hT4
      simp only [Value.slice.injEq] at e5
      obtain ⟨rfl, _, rfl⟩ := e5
      refine ⟨x3, y3, at9, ct9, by rw [hs], hB4, ?_, ?_, s5⟩
      · rw [hs]; exact g1'
      · rw [hs]; exact g2'
end Go.Proofs.YtkflbhkcofmaoaaGreat

namespace Go.Proofs.YtkflbhkcofmaoaaGreat
open Go.RowKit
set_option linter.unusedVariables false
set_option linter.unusedSimpArgs false

/-- all sums of parts that stand side by side can be added -/
def fine (l : Fo) : Prop := ∀ i j x, sz 1099511627776 (co x ((l.drop i).take j))
theorem fine.all {l : Fo} (h : fine l) : ∀ x, sz 1099511627776 (co x l) := fun x => by
  have := h 0 l.length x
  rwa [List.drop_zero, List.take_length] at this
theorem fine.take {l : Fo} (h : fine l) (k : Nat) : fine (l.take k) := fun i j x => by
  rw [List.drop_take, List.take_take]
  exact h i _ x
theorem fine.drop {l : Fo} (h : fine l) (k : Nat) : fine (l.drop k) := fun i j x => by
  rw [List.drop_drop]
  exact h _ j x
theorem co_part (l : Fo) (i j : Nat) : wts ((l.drop i).take j) ≤ wts l := by
  have h1 : wts l = wts (l.take i) + wts (l.drop i) := by rw [← wts_append, List.take_append_drop]
  have h2 : wts (l.drop i) = wts ((l.drop i).take j) + wts ((l.drop i).drop j) := by rw [← wts_append, List.take_append_drop]
  omega
theorem sz_mul {r t : Rat} {N M : Nat} (h : sz N r) (k : sz M t) : sz (N + M) (r * t) := by
  have e : r * t = Rat.divInt (r.num * t.num) ((r.den : Int) * (t.den : Int)) := by
    rw [← Rat.divInt_mul_divInt, Rat.num_divInt_den, Rat.num_divInt_den]
  have hl := (low_of (Int.mul_ne_zero (by have := r.den_pos; omega) (by have := t.den_pos; omega)) e).le
  have a1 := lt_prod (i := N) (j := M) (Nat.lt_of_lt_of_le (ln_lt (am r.num)) (pow_mono h.1)) (Nat.lt_of_lt_of_le (ln_lt (am t.num)) (pow_mono k.1))
  have a2 : am ((r.den : Int) * (t.den : Int)) < BB ^ (N + M) := lt_prod (by show r.den < _; exact Nat.lt_of_lt_of_le (ln_lt r.den) (pow_mono h.2)) (by show t.den < _; exact Nat.lt_of_lt_of_le (ln_lt t.den) (pow_mono k.2))
  exact ⟨ln_le_of_lt (Nat.lt_of_le_of_lt hl.1 a1), ln_le_of_lt (Nat.lt_of_le_of_lt hl.2 a2)⟩
theorem fine_scale {c : Rat} {l : Fo} {N : Nat} (hc : sz N c) (h : N + (wts l + 1) ≤ 1099511627776) : fine (fmap (fun r => c * r) l) := fun i j x => by
  have e : ((fmap (fun r => c * r) l).drop i).take j = fmap (fun r => c * r) ((l.drop i).take j) := by
    unfold fmap
    rw [List.map_take, List.map_drop]
  rw [e, co_scale]
  have h2 := co_part l i j
  exact (sz_mul hc (co_sz x _)).mono (by omega)
theorem entS_sz {w : World} {R : List Mo} {l : Fo} (hE : ∀ p ∈ R, Ent w p) (hR : fo R = nfm l) (hs : ∀ x, sz 1099511627776 (co x l)) : ∀ p ∈ R, EntS w p := by
  intro p hp
  have h1 : (p.1, p.2.val) ∈ fo R := List.mem_map.2 ⟨p, hp, rfl⟩
  have h2 : co p.1 (fo R) = p.2.val := (show nrm (fo R) by rw [hR]; exact nfm_nrm l).co_mem h1
  rw [hR, nfm_co] at h2
  have h3 := hs p.1
  rw [h2] at h3
  obtain ⟨e1, e2⟩ := low_ns (hE p hp).low
  exact ⟨hE p hp, by rw [e1]; exact h3.1, by rw [e2]; exact h3.2⟩

set_option maxHeartbeats 4000000 in
set_option maxRecDepth 100000 in
theorem collect_manyF (b off : Nat) (c : Nat) (n h : Nat) (l1 l2 : Fo) (w : World) (hn : 2 ≤ n) (hnc : n ≤ c) (hm : n ≤ 1048576) (hh : h = n / 2)
    (H0 : ∀ w', Below w.heap.size w w' → Calls Tryz.prog 51 #[.slice (some ⟨b, off, none⟩) n c] w' fun e w'' => e = .returned (.bool false) ∧ Below w'.heap.size w' w'')
    (H1 : ∀ w', Below w.heap.size w w' → Calls Tryz.prog 19 #[.slice (some ⟨b, off, none⟩) h c] w' (FAns w' (nfm l1)))
    (H2 : ∀ w', Below w.heap.size w w' → ∀ a2, (h < n → a2 = some ⟨b, off + h * 4, none⟩) → a2 ≠ none → Calls Tryz.prog 19 #[.slice a2 (n - h) (c - h)] w' (FAns w' (nfm l2)))
    (w1 : ∀ x, sz 1099511627776 (co x l1)) (w2 : ∀ x, sz 1099511627776 (co x l2)) (n1 : l1.length + l2.length ≤ 2097152) :
    Calls Tryz.prog 19 #[.slice (some ⟨b, off, none⟩) n c] w (FAns w (nfm (l1 ++ l2))) := by
  have G0 := hide' (H0 w (Below.refl _ _))
  have G1 := hide' H1
  have G2 := hide' H2
  have S1 := hide' w1
  have S2 := hide' w2
  have e0 : ¬ ((n : Int) = 1) := by omega
  have eh : wrap64 ((n : Int) / 2) = (h : Int) := by rw [wrap64_small (by omega) (by omega)]; omega
  have i0 : (0 : Int) ≤ (h : Int) := by omega
  have i1 : (h : Int) ≤ (c : Int) := by omega
  have i2 : (h : Int) ≤ (n : Int) := by omega
  have i3 : (n : Int) ≤ (c : Int) := by omega
  have sl1 := sl_headF b off n c h (by omega)
  obtain ⟨a2, sl2, sn, sl3⟩ := sl_restF b off n c h (by omega) hnc
  have G4 := hide' (And.intro sl3 sn)
  clear H0 H1 H2 sl3 sn w1 w2
  go_enter Tryz.func19, Tryz.ntmps19
  go_wp2_with fail
  refine G0.out.mono ?_
  rintro e w3 ⟨rfl, hB⟩
  go_wp2_with fail
  rw [show (n : Int) / 2 = (h : Int) by omega]
  clear hh eh e0
  have bD : Below w3.heap.size w3 w3.drew := (Below.refl _ _).drew
  replace hB := hB.trans (bD.mono hB.size)
  refine wp_region_held_drew (S := fun w' => True) (by kernel_rfl) trivial (fun hHeld => ?_)
  generalize w3.drew = w0 at bD hB hHeld ⊢
  clear bD
  refine take' 0 (v := ?_) rfl (by kernel_rfl) (by kernel_rfl) (by kernel_rfl) (fun _ _ _ h => h) (Or.inl ⟨by rfl, ?_⟩) (by assumption) ?_
  rotate_left
  · intro w9 hSw
    go_simp
    first | done | with_reducible rfl
  simp only [Act.put, List.setIfInBounds_toArray, List.set_cons_zero, List.set_cons_succ]
  refine take' 1 (v := ?_) rfl (by kernel_rfl) (by kernel_rfl) (by kernel_rfl) (fun _ _ _ h => h) (Or.inl ⟨by rfl, ?_⟩) (by assumption) ?_
  rotate_left
  · intro w9 hSw
    go_simp
    first | done | with_reducible rfl
  simp only [Act.put, List.setIfInBounds_toArray, List.set_cons_zero, List.set_cons_succ]
  refine take' 2 (v := ?_) rfl (by kernel_rfl) (by kernel_rfl) (by kernel_rfl) (fun _ _ _ h => h) (Or.inl ⟨by rfl, ?_⟩) (by assumption) ?_
  rotate_left
  · intro w9 hSw
    go_simp
    first | done | with_reducible rfl
  simp only [Act.put, List.setIfInBounds_toArray, List.set_cons_zero, List.set_cons_succ]
  refine take' 4 (v := ?_) rfl (by kernel_rfl) (by kernel_rfl) (by kernel_rfl) (fun _ _ _ h => h) (Or.inl ⟨by rfl, ?_⟩) (by assumption) ?_
  rotate_left
  · intro w9 hSw
    go_simp
    first | done | with_reducible rfl
  simp only [Act.put, List.setIfInBounds_toArray, List.set_cons_zero, List.set_cons_succ]
  refine take' 5 (v := ?_) rfl (by kernel_rfl) (by kernel_rfl) (by kernel_rfl) (fun _ _ _ h => h) (Or.inl ⟨by rfl, ?_⟩) (by assumption) ?_
  rotate_left
  · intro w9 hSw
    go_simp
    first | done | with_reducible rfl
  simp only [Act.put, List.setIfInBounds_toArray, List.set_cons_zero, List.set_cons_succ]
  refine take' 6 (v := ?_) rfl (by kernel_rfl) (by kernel_rfl) (by kernel_rfl) (fun _ _ _ h => h) (Or.inl ⟨by rfl, ?_⟩) (by assumption) ?_
  rotate_left
  · intro w9 hSw
    go_simp
    first | done | with_reducible rfl
  simp only [Act.put, List.setIfInBounds_toArray, List.set_cons_zero, List.set_cons_succ]
  refine wpAnyH_ready (rs := [3]) (by kernel_rfl) (by simp) ?_
  refine cons' rfl (fun KK hKK => ?_)
  go_simp
  refine (G1.out _ hB).mono ?_
  rintro e w4 ⟨a4, c4, R4, rfl, b4, s4, e4, f4⟩
  go_wp2_with fail
  replace hB := hB.trans (b4.mono hB.size)
  clear b4
  refine hKK.out _ _ hHeld ?_
  clear hHeld
  intro hHeld
  clear hKK KK
  try simp only [Act.put, List.setIfInBounds_toArray, List.set_cons_zero, List.set_cons_succ]
  refine wpAnyH_ready (rs := [7]) (by kernel_rfl) (by simp) ?_
  refine cons' rfl (fun KK hKK => ?_)
  go_simp
  refine (G2.out _ hB a2 G4.out.1 G4.out.2).mono ?_
  rintro e w5 ⟨a5, c5, R5, rfl, b5, s5, e5, f5⟩
  go_wp2_with fail
  replace hB := hB.trans (b5.mono hB.size)
  replace s4 := s4.later b5
  replace e4 := fun p hp => (e4 p hp).later b5
  clear b5
  refine hKK.out _ _ hHeld ?_
  clear hHeld
  intro hHeld
  clear hKK KK
  try simp only [Act.put, List.setIfInBounds_toArray, List.set_cons_zero, List.set_cons_succ]
  refine wpAnyH_ready (rs := [8]) (by kernel_rfl) (by simp) ?_
  refine cons' rfl (fun KK hKK => ?_)
  have hl4 := nfm_length l1
  have hl5 := nfm_length l2
  rw [← f4, fo_length] at hl4
  rw [← f5, fo_length] at hl5
  go_simp
  refine (lsum_is a4 c4 R4 a5 c5 R5 _ s4 s5 (entS_sz e4 f4 S1.out) (entS_sz e5 f5 S2.out) (by omega)).mono ?_
  rintro e w6 ⟨a6, c6, R6, rfl, b6, s6, e6, f6⟩
  go_wp2_with fail
  replace hB := hB.trans (b6.mono hB.size)
  refine hKK.out _ _ hHeld ?_
  clear hHeld
  intro hHeld
  clear hKK KK
  try simp only [Act.put, List.setIfInBounds_toArray, List.set_cons_zero, List.set_cons_succ]
  refine take' 9 (v := ?_) rfl (by kernel_rfl) (by kernel_rfl) (by kernel_rfl) (fun _ _ _ h => h) (Or.inl ⟨by rfl, ?_⟩) (by assumption) ?_
  rotate_left
  · intro w9 hSw
    go_simp
    first | done | with_reducible rfl
  simp only [Act.put, List.setIfInBounds_toArray, List.set_cons_zero, List.set_cons_succ]
  refine wpAnyH_done (by kernel_rfl) ?_ _
  go_wp2
  go_ret
  exact ⟨a6, c6, R6, rfl, hB, s6, e6, by rw [f6, f4, f5, nfm_append]⟩
theorem fo_take (L : List Mo) (k : Nat) : fo (L.take k) = (fo L).take k := by unfold fo; rw [List.map_take]
theorem fo_drop (L : List Mo) (k : Nat) : fo (L.drop k) = (fo L).drop k := by unfold fo; rw [List.map_drop]
theorem collectF_is : ∀ (k : Nat) (L : List Mo) (a : Option Addr) (c : Nat) (w : World), L.length ≤ k → Sl w a c L → (∀ p ∈ L, Ent w p) → L.length ≤ 1048576 → fine (fo L) →
    Calls Tryz.prog 19 #[.slice a L.length c] w (FAns w (nfm (fo L)))
  | k, L, a, c, w, hk, hS, hE, hm, hw => by
    by_cases hN : nrm (fo L)
    · refine (collect_norm a c L.length w ((isNormal_is a c L w hS.lies hE hS.len hm).mono fun e w' ⟨d, he, hd, hb⟩ => ⟨by rw [he, hd.2 hN], hb⟩)).mono ?_
      rintro e w' ⟨rfl, hb⟩
      exact ⟨a, c, L, rfl, hb, hS.later hb, fun p hp => (hE p hp).later hb, nfm_self hN⟩
    · match L, hk, hS, hE, hm, hw, hN with
      | [], _, _, _, _, _, hN => exact absurd nrm.nil hN
      | [p], _, hS, hE, hm, hw, hN =>
        have hno := isNormal_no hS.lies hE hS.len hm hN
        rw [show ([p] : List Mo).length = 1 from rfl] at hno ⊢
        refine (collect_one a c w hno).mono ?_
        rintro e w' ⟨rfl, hb⟩
        exact ⟨none, 0, [], rfl, hb, ⟨FAt.nil _ _, Nat.le_refl _, fun _ => rfl⟩, fun q hq => absurd hq (by simp), (nfm_single hN).symm⟩
      | p :: q :: L', hk, hS, hE, hm, hw, hN =>
        match k, hk with
        | 0, hk => simp only [List.length_cons] at hk; omega
        | k + 1, hk =>
          obtain ⟨L, hL⟩ : ∃ L, p :: q :: L' = L := ⟨_, rfl⟩
          have h2 : 2 ≤ L.length := by rw [← hL]; simp
          rw [hL] at hk hS hE hm hw hN ⊢
          obtain ⟨b, off, rfl, _, _⟩ := hS.lies (by intro e; rw [e] at h2; simp at h2)
          obtain ⟨h, hh⟩ : ∃ h, h = L.length / 2 := ⟨_, rfl⟩
          have hsplit : fo L = fo (L.take h) ++ fo (L.drop h) := by rw [← fo_append, List.take_append_drop]
          have hlt : (L.take h).length = h := by rw [List.length_take]; omega
          have hld : (L.drop h).length = L.length - h := List.length_drop
          have w1 : fine (fo (L.take h)) := by rw [fo_take]; exact hw.take h
          have w2 : fine (fo (L.drop h)) := by rw [fo_drop]; exact hw.drop h
          rw [hsplit]
          refine collect_manyF b off c L.length h (fo (L.take h)) (fo (L.drop h)) w h2 hS.len hm hh (fun w' hb => isNormal_no (hS.lies.later hb) (fun p hp => (hE p hp).later hb) hS.len hm hN) (fun w' hb => ?_) (fun w' hb a2 ha hne => ?_) w1.all w2.all (by rw [fo_length, fo_length]; omega)
          · have := collectF_is k (L.take h) (some ⟨b, off, none⟩) c w' (by omega) ⟨(hS.lies.take h).later hb, by have := hS.len; omega, fun e => by cases e⟩ (fun p hp => (hE p (List.mem_of_mem_take hp)).later hb) (by omega) w1
            rw [hlt] at this
            exact this
          · have := collectF_is k (L.drop h) a2 (c - h) w' (by omega) ⟨fun hn => by rw [ha (by omega)]; exact ((hS.lies.drop h).later hb) hn, by have := hS.len; omega, fun e => absurd e hne⟩ (fun p hp => (hE p (List.mem_of_mem_drop hp)).later hb) (by omega) w2
            rw [hld] at this
            exact this
termination_by k => k

set_option maxHeartbeats 2000000 in
set_option maxRecDepth 100000 in
theorem lScaleF_is (C : RatV) (a : Option Addr) (c : Nat) (L : List Mo) (K : Nat) (w : World) (hF : FAt w a L) (hok : ∀ p ∈ L, p.2.ok w) (hc : L.length ≤ c) (hm : L.length ≤ 1048576) (hC : C.ok w) (hK : ∀ p ∈ L, C.n + C.m + p.2.n + p.2.m ≤ K) (hCK : C.n + C.m ≤ K) (hKm : K ≤ 274877906944) (hf : fine (fmap (fun r => C.val * r) (fo L))) :
    Calls Tryz.prog 43 #[.agg #[.bool C.s, .slice C.a C.n C.c, .slice C.b C.m C.e], .slice a L.length c] w (FAns w (nfm (fmap (fun r => C.val * r) (fo L)))) := by
  have G1 := hide' (fun w' (hb : Below w.heap.size w w') => times_is C a c L K w' (hF.later hb) (fun p hp => (hok p hp).later hb) hc hm (hC.later hb) hK hCK hKm)
  have G2 := hide' (fun w' a2 c2 (R : List Mo) (hs : Sl w' a2 c2 R) (hE : ∀ p ∈ R, Ent w' p) (h9 : fo R = fmap (fun r => C.val * r) (fo L)) => collectF_is R.length R a2 c2 w' (Nat.le_refl _) hs hE (by have h := congrArg List.length h9; rw [fo_length, fmap_length, fo_length] at h; omega) (by rw [h9]; exact hf))
  clear hF hok hc hm hC hK hCK hKm hf
  go_enter Tryz.func43, Tryz.ntmps43
  go_wp2_with fail
  obtain ⟨wA, hwA⟩ : ∃ wA, w.alloc (.cells #[.bool C.s, .slice C.a C.n C.c, .slice C.b C.m C.e] 31) = wA := ⟨_, rfl⟩
  have bA : Below w.heap.size w wA := by subst hwA; exact below_alloc _
  rw [hwA]
  clear hwA
  refine (G1.out _ bA).mono ?_
  rintro e w1 ⟨a1, c1, R1, rfl, b1, s1, e1, f1⟩
  go_wp2_with fail
  refine (G2.out _ a1 c1 R1 s1 e1 f1).mono ?_
  rintro e w2 h2
  have h3 := h2.from (bA.trans (b1.mono bA.size))
  obtain ⟨a2, c2, R2, rfl, h4⟩ := h3
  rw [f1] at h4
  clear h2
  go_wp2
  go_ret
  exact ⟨a2, c2, R2, rfl, h4⟩
end Go.Proofs.YtkflbhkcofmaoaaGreat

namespace Go.Proofs.YtkflbhkcofmaoaaGreat
open Go.RowKit
set_option linter.unusedVariables false
set_option linter.unusedSimpArgs false

/-- an answer that is a number in lowest terms -/
def BAns (w : World) (r : Rat) (e : Ending) (w' : World) : Prop :=
  ∃ p q, e = .returned (.agg #[.bool (ng r.num), .slice p (ln (am r.num)) (ln (am r.num)), .slice q (ln r.den) (ln r.den)]) ∧ Below w.heap.size w w' ∧ Seg w' p (am r.num) (ln (am r.num)) ∧ Seg w' q r.den (ln r.den)

end Go.Proofs.YtkflbhkcofmaoaaGreat

namespace Go.Proofs.YtkflbhkcofmaoaaGreat
open Go.RowKit
set_option linter.unusedVariables false


end Go.Proofs.YtkflbhkcofmaoaaGreat

namespace Go.Proofs.YtkflbhkcofmaoaaGreat
open Go.RowKit
set_option linter.unusedVariables false
set_option linter.unusedSimpArgs false

end Go.Proofs.YtkflbhkcofmaoaaGreat

namespace Go.Proofs.YtkflbhkcofmaoaaGreat
open Go.RowKit
set_option linter.unusedVariables false
set_option linter.unusedSimpArgs false

/-- four cells that are no whole numbers are none of a form's: a form stays as it is where they are stored into -/
theorem Four.far4 {w : World} {c b o : Nat} {u0 u1 u2 u3 : Value} (h : c = b → 4 ≤ o) : (set4 w c u0 u1 u2 u3).cell? ⟨b, o, none⟩ = w.cell? ⟨b, o, none⟩ := by
  have hne : ∀ i, i < 4 → (⟨b, o, none⟩ : Addr) ≠ ⟨c, i, none⟩ := fun i hi e => by
    simp only [Addr.mk.injEq] at e
    have := h e.1.symm
    omega
  unfold set4
  rw [World.cell?_setCell_other _ _ _ _ (by first | exact hne 3 (by omega) | exact (hne 3 (by omega)).symm), World.cell?_setCell_other _ _ _ _ (by first | exact hne 2 (by omega) | exact (hne 2 (by omega)).symm), World.cell?_setCell_other _ _ _ _ (by first | exact hne 1 (by omega) | exact (hne 1 (by omega)).symm), World.cell?_setCell_other _ _ _ _ (by first | exact hne 0 (by omega) | exact (hne 0 (by omega)).symm)]
theorem Four.fat {w : World} {c : Nat} {u0 u1 u2 u3 z0 z1 z2 z3 : Value} (h : Four w c z0 z1 z2 z3) (k0 : ∀ i, z0 ≠ .int .i64 i) (k1 : ∀ i, z1 ≠ .int .i64 i) (k2 : ∀ i, z2 ≠ .int .i64 i) (k3 : ∀ i, z3 ≠ .int .i64 i) {a : Option Addr} {L : List Mo} (hF : FAt w a L) : FAt (set4 w c u0 u1 u2 u3) a L := fun hn => by
  obtain ⟨b, off, e, hl, hc⟩ := hF hn
  have hsz : (set4 w c u0 u1 u2 u3).heap.size = w.heap.size := by simp only [set4, World.size_setCell]
  refine ⟨b, off, e, by rw [hsz]; exact hl, fun i p hi => ?_⟩
  have hm := hc i p hi
  obtain ⟨o, ho⟩ : ∃ o, off + i * 4 = o := ⟨_, rfl⟩
  rw [ho] at hm ⊢
  have h4 : c = b → 4 ≤ o := fun e => by
    subst e
    obtain ⟨⟨h0, h1, h2, h3⟩, _⟩ := h
    have m0 := hm.1
    rcases Nat.lt_or_ge o 4 with hlt | hge
    · exfalso
      match o, hlt, m0 with
      | 0, _, m0 => rw [h0] at m0; exact k0 _ (Option.some.inj m0)
      | 1, _, m0 => rw [h1] at m0; exact k1 _ (Option.some.inj m0)
      | 2, _, m0 => rw [h2] at m0; exact k2 _ (Option.some.inj m0)
      | 3, _, m0 => rw [h3] at m0; exact k3 _ (Option.some.inj m0)
    · exact hge
  refine ⟨by rw [Four.far4 h4]; exact hm.1, by rw [Four.far4 (fun e => by have := h4 e; omega)]; exact hm.2.1, by rw [Four.far4 (fun e => by have := h4 e; omega)]; exact hm.2.2.1, by rw [Four.far4 (fun e => by have := h4 e; omega)]; exact hm.2.2.2⟩
theorem Four.ok {w : World} {c : Nat} {u0 u1 u2 u3 z0 z1 z2 z3 : Value} (h : Four w c z0 z1 z2 z3) (k0 : ∀ i, z0 ≠ .int .u32 i) (k1 : ∀ i, z1 ≠ .int .u32 i) (k2 : ∀ i, z2 ≠ .int .u32 i) (k3 : ∀ i, z3 ≠ .int .u32 i) {p : Mo} (hE : Ent w p) : Ent (set4 w c u0 u1 u2 u3) p :=
  ⟨⟨h.seg k0 k1 k2 k3 hE.ok.1, hE.ok.2.1, hE.ok.2.2.1, h.seg k0 k1 k2 k3 hE.ok.2.2.2.1, hE.ok.2.2.2.2.1, hE.ok.2.2.2.2.2⟩, hE.low⟩

theorem bulkL_oth (x : Int) : ∀ (L : List Mo), bulkL (oth x L) ≤ bulkL L
  | [] => Nat.le_refl _
  | p :: L => by
    have h := bulkL_oth x L
    unfold oth at h ⊢
    rw [List.filter_cons]
    split
    · simp only [bulkL]; omega
    · simp only [bulkL]; omega
theorem oth_mem {x : Int} {L : List Mo} {p : Mo} (h : p ∈ oth x L) : p ∈ L := (List.mem_filter.1 h).1
end Go.Proofs.YtkflbhkcofmaoaaGreat
