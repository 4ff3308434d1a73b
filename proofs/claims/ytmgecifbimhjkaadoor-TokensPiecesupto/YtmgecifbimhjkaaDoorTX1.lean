/-
  TokensApart: what is spoilt; the walk.
-/
import Derived.Test.YtmgecifbimhjkaaDoorTX0
import Derived.Test.YtmgecifbimhjkaaDoorTRC
namespace Go.Proofs.YtmgecifbimhjkaaDoor
open Go.RowKit
set_option linter.unusedVariables false
set_option linter.unusedSimpArgs false

def spS : ByteArray := ⟨#[115, 112, 111, 105, 108, 116]⟩
def spT (T : Tok) : Tok := { T with t := spS }
/-- the first k are spoilt -/
def spk (k : Nat) (L : List Tok) : List Tok := (L.take k).map spT ++ L.drop k
theorem spk_len (k : Nat) (L : List Tok) : (spk k L).length = L.length := by
  unfold spk
  rw [List.length_append, List.length_map, ← List.length_append, List.take_append_drop]
theorem spk_split {k : Nat} {L : List Tok} (h : k < L.length) : spk k L = (L.take k).map spT ++ L[k] :: L.drop (k + 1) ∧ spk (k + 1) L = (L.take k).map spT ++ spT L[k] :: L.drop (k + 1) := by
  unfold spk
  constructor
  · rw [List.drop_eq_getElem_cons h]
  · have e : L.take (k + 1) = L.take k ++ [L[k]] := by
      rw [List.take_add_one, List.getElem?_eq_getElem h]
      rfl
    rw [e, List.map_append, List.append_assoc]
    rfl
theorem spk_mid {k : Nat} {L : List Tok} (h : k < L.length) : ((L.take k).map spT).length = k := by
  rw [List.length_map, List.length_take]
  omega
theorem spk_at {k : Nat} {L : List Tok} (h : k < L.length) (h2 : k < (spk k L).length) : (spk k L)[k] = L[k] := by
  have e := (spk_split h).1
  have hm := spk_mid h
  rw [← Option.some_inj, ← List.getElem?_eq_getElem h2, e, List.getElem?_append_right (by omega), hm, Nat.sub_self]
  rfl
theorem spk_set {k : Nat} {L : List Tok} (h : k < L.length) : (tokCells (spk k L)).set (k * 6 + 1) (.string spS) = tokCells (spk (k + 1) L) := by
  obtain ⟨e1, e2⟩ := spk_split h
  have hm := spk_mid h
  rw [e1, e2, tokCells_app, tokCells_app, List.set_append_right _ _ (by rw [tokCells_len, hm]; omega), tokCells_len, hm, show k * 6 + 1 - k * 6 = 1 by omega]
  rfl
theorem spk_zero (L : List Tok) : spk 0 L = L := rfl
def errO : Out → Int
  | .ok _ => 0
  | .bad _ _ _ => 120
theorem FOut.er {w : World} {base b h0 : Nat} {v : Value} {er : Int} {o : Out} (h : FOut w base b h0 v er o) : er = errO o := by
  cases o with
  | ok q => exact h.1
  | bad B L C => exact h.1
theorem FOut.kp {X : Nat → Prop} {w w' : World} {base b h0 : Nat} {v : Value} {er : Int} {o : Out} (h : FOut w base b h0 v er o) (k : Kp X w w') (hb : ¬ X b) (hg : ∀ g, base ≤ g → v.ownBlock ≠ some g → ¬ X g) : FOut w' base b h0 v er o := by
  cases o with
  | ok q =>
    obtain ⟨h1, S, h2, h3, h4, h5⟩ := h
    exact ⟨h1, S, h2.kp k (fun i hi => by rcases hi with c | c; rw [c]; exact hb; exact hg i (own_lt h2.own c).1 (h5 i c)), h3, h4, h5⟩
  | bad B L C =>
    obtain ⟨h1, h2⟩ := h
    exact ⟨h1, h2.kp k (fun i hi => by rcases hi with c | c; rw [c]; exact hb; cases c)⟩
theorem rd_feed (fin : Bool) {S : List UInt8} {ts : List Tok} {o : Out} (h : feedP pI S = (ts, o)) : rdF fin S 0 = rdO fin S.length (ts, o) := by
  unfold rdF
  rw [frs_pI, List.drop_zero, h]
theorem rd_false {S : List UInt8} {ts : List Tok} {o : Out} (h : feedP pI S = (ts, o)) : (rdF false S 0).1 = ts ∧ (rdF false S 0).2.1 = errO o := by
  rw [rd_feed false h]
  cases o <;> exact ⟨rfl, rfl⟩
theorem rd_true {S : List UInt8} {ts : List Tok} {q : PS} (h : feedP pI S = (ts, .ok q)) : (rdF true S 0).1 = ts ++ (endP q).1 := by
  rw [rd_feed true h]
  rfl
theorem feed_tsl {S : List UInt8} {ts : List Tok} {o : Out} (h : feedP pI S = (ts, o)) : ts.length ≤ S.length * 2 := by
  have hc : ∀ (p : PS) (bs : List UInt8), (feedP p bs).1.length ≤ bs.length * 2 := fun p bs => by
    induction bs generalizing p with
    | nil => simp [feedP]
    | cons u us ih =>
      have h1 : (charP p u.toNat [u]).1.length ≤ 2 := by
        have := told_len p u.toNat
        unfold charP
        repeat' split
        all_goals simp only [List.length_append, List.length_cons, List.length_nil]
        all_goals omega
      simp only [feedP]
      rcases hc : charP p u.toNat [u] with ⟨t1, o1⟩
      rw [hc] at h1
      cases o1 with
      | bad B L C => simp only [List.length_cons] at h1 ⊢; omega
      | ok q =>
        have := ih q
        simp only [List.length_append, List.length_cons] at h1 ⊢
        omega
  have := hc pI S
  rw [h] at this
  exact this
set_option maxHeartbeats 16000000 in
set_option maxRecDepth 100000 in
theorem apart_walk (a b : ByteArray) (w : World) (ha : a.size ≤ 1048576) (hb : b.size ≤ 1048576) (hM : MaxL w) (hmx : mxB < w.heap.size) : Calls Tryd.prog 6 #[.string a, .string b] w fun r w' => r = .returned (.bool true) ∧ Below w.heap.size w w' := by
  obtain ⟨A, hA⟩ : ∃ A, a.data.toList = A := ⟨_, rfl⟩
  obtain ⟨B, hBB⟩ : ∃ B, b.data.toList = B := ⟨_, rfl⟩
  have hAl : A.length = a.size := by rw [← hA, Array.length_toList]; rfl
  have hBl : B.length = b.size := by rw [← hBB, Array.length_toList]; rfl
  rcases hfA : feedP pI A with ⟨ts, o1⟩
  obtain ⟨ge, hge⟩ : ∃ ge, errO o1 = ge := ⟨_, rfl⟩
  rcases hfB : feedP pI B with ⟨us, o2⟩
  have htl := feed_tsl hfA
  have hul := feed_tsl hfB
  rw [hAl] at htl
  rw [hBl] at hul
  obtain ⟨fa1, fa2⟩ := rd_false hfA
  obtain ⟨fb1, fb2⟩ := rd_false hfB
  have GRa := hideT (fun W => read_is a A hA false W (by omega))
  rw [fa1, fa2, hge] at GRa
  generalize (rdF false A 0).2.2 = pa at GRa
  have GRb := hideT (fun W => read_is b B hBB false W (by omega))
  rw [fb1, fb2] at GRb
  generalize (rdF false B 0).2.2 = pb at GRb
  have GRt := hideT (fun W => read_is a A hA true W (by omega))
  have HTR := hideT (fun q (e : o1 = .ok q) => rd_true (by rw [hfA, e]))
  have HFR := hideT (fun q (e : o1 = .ok q) => feed_rd A Inv_pI (by rw [hfA, e]))
  have GF1 := hideT (fun W base bx (sx : ScAt W base bx sI) (h1 : base ≤ W.heap.size) (hm : MaxL W) => feedS base bx sI pI a W sx h1 RelS_I Inv_pI (by show 0 + a.size ≤ _; omega) (Nat.le_refl _) (Nat.le_refl _) hm)
  have GF2 := hideT (fun W base bx (sx : ScAt W base bx sI) (h1 : base ≤ W.heap.size) (hm : MaxL W) => feedS base bx sI pI b W sx h1 RelS_I Inv_pI (by show 0 + b.size ≤ _; omega) (Nat.le_refl _) (Nat.le_refl _) hm)
  rw [hA, hfA] at GF1
  rw [hBB, hfB] at GF2
  have HAL := hideT hAl
  have HGE := hideT hge
  clear hge fa1 fa2 fb1 fb2 hfA hfB hA hBB hAl hBl
  have hnw := fun W => new_is W
  have b1 := below_alloc (w := w) (.cells #[.int .i64 3, .slice none 0 0, .int .i64 0, .string ⟨#[]⟩, .int .i64 0, .int .i64 0, .int .i64 0, .int .i64 0, .int .i64 0, .int .i64 0, .int .i64 0, .int .i64 0] 51)
  have q1 := Blk.new w #[.int .i64 3, .slice none 0 0, .int .i64 0, .string ⟨#[]⟩, .int .i64 0, .int .i64 0, .int .i64 0, .int .i64 0, .int .i64 0, .int .i64 0, .int .i64 0, .int .i64 0] 51
  have e1 : (w.alloc (.cells #[.int .i64 3, .slice none 0 0, .int .i64 0, .string ⟨#[]⟩, .int .i64 0, .int .i64 0, .int .i64 0, .int .i64 0, .int .i64 0, .int .i64 0, .int .i64 0, .int .i64 0] 51)).heap.size = w.heap.size + 1 := by simp
  go_enter Tryd.func6, Tryd.ntmps6
  go_wp2_with fail
  refine (hnw _).mono ?_
  rintro e_ w1 ⟨rfl, hw⟩
  rw [← hw] at b1 q1 e1
  clear hw
  have b2 := below_alloc (w := w1) (.cells #[.int .i64 3, .slice none 0 0, .int .i64 0, .string ⟨#[]⟩, .int .i64 0, .int .i64 0, .int .i64 0, .int .i64 0, .int .i64 0, .int .i64 0, .int .i64 0, .int .i64 0] 51)
  have q2 := Blk.new w1 #[.int .i64 3, .slice none 0 0, .int .i64 0, .string ⟨#[]⟩, .int .i64 0, .int .i64 0, .int .i64 0, .int .i64 0, .int .i64 0, .int .i64 0, .int .i64 0, .int .i64 0] 51
  have e2 : (w1.alloc (.cells #[.int .i64 3, .slice none 0 0, .int .i64 0, .string ⟨#[]⟩, .int .i64 0, .int .i64 0, .int .i64 0, .int .i64 0, .int .i64 0, .int .i64 0, .int .i64 0, .int .i64 0] 51)).heap.size = w.heap.size + 2 := by simp [e1]
  rw [e1] at q2
  go_wp2_with fail
  refine (hnw _).mono ?_
  rintro e_ w2 ⟨rfl, hw⟩
  rw [← hw] at b2 q2 e2
  clear hw hnw
  try rw [e1]
  have sx : ScAt w2 (w.heap.size + 2) w.heap.size sI := ⟨q1.later b2, by omega, hmx, World.ownsRow_nil _ _ _ _⟩
  have sy : ScAt w2 (w.heap.size + 2) (w.heap.size + 1) sI := ⟨q2, by omega, by omega, World.ownsRow_nil _ _ _ _⟩
  have hB := b1.trans (b2.mono b1.size)
  clear b1 b2 q1 q2 e1
  have hM2 := hM.on hB
  have G1 := hideT (GF1.out w2 _ _ sx (by omega) hM2)
  clear GF1 sx hM2
  go_wp2_with fail
  refine G1.out.mono ?_
  rintro e_ w3 ⟨v1, er1, rfl, own1, k1, out1, _⟩
  clear G1
  replace sy := sy.kp k1 (fun i hi c => by rcases hi with hi | hi; (rcases c with c | c; omega; cases c); cases hi)
  replace hB := hB.trans (k1.below (by omega) (fun k hk c => by rcases c with c | c; omega; cases c))
  have hs3 := k1.size
  clear k1
  have hM3 := hM.on hB
  have G2 := hideT (GF2.out w3 _ _ sy (by omega) hM3)
  clear GF2 sy hM3
  have hv1 := fun g hg => own_lt own1 (g := g) hg
  go_wp2_with fail
  refine G2.out.mono ?_
  rintro e_ w4 ⟨v2, er2, rfl, own2, k2, out2, _⟩
  clear G2
  obtain rfl := out2.er
  clear out2
  replace own1 := own_kp own1 k2 (fun g hg c => by have := (hv1 g hg).1; rcases c with c | c; omega; cases c)
  replace out1 := out1.kp k2 (fun c => by rcases c with c | c; omega; cases c) (fun g hg _ c => by rcases c with c | c; omega; cases c)
  replace hB := hB.trans (k2.below (by omega) (fun k hk c => by rcases c with c | c; omega; cases c))
  have hs4 := k2.size
  clear k2
  go_wp2_with fail
  refine (GRa.out _).mono ?_
  rintro e_ w5 ⟨v3, rfl, own3, b5, _⟩
  clear GRa
  replace own1 := own_kp own1 (Kp.of (X := fun _ => False) b5) (fun _ _ c => c)
  replace own2 := own_kp own2 (Kp.of (X := fun _ => False) b5) (fun _ _ c => c)
  replace out1 := out1.kp (Kp.of (X := fun _ => False) b5) (fun c => c) (fun _ _ _ c => c)
  replace hB := hB.trans (b5.mono hB.size)
  have hb5 := b5.size
  clear b5
  go_wp2_with fail
  refine (GRb.out _).mono ?_
  rintro e_ w6 ⟨v4, rfl, own4, b6, _⟩
  clear GRb
  replace own1 := own_kp own1 (Kp.of (X := fun _ => False) b6) (fun _ _ c => c)
  replace own2 := own_kp own2 (Kp.of (X := fun _ => False) b6) (fun _ _ c => c)
  replace own3 := own_kp own3 (Kp.of (X := fun _ => False) b6) (fun _ _ c => c)
  replace out1 := out1.kp (Kp.of (X := fun _ => False) b6) (fun c => c) (fun _ _ _ c => c)
  replace hB := hB.trans (b6.mono hB.size)
  have hb6 := b6.size
  clear b6
  obtain ⟨a1, c1, ev1⟩ := own_sl own1
  subst ev1
  obtain ⟨a2, c2, ev2⟩ := own_sl own2
  subst ev2
  obtain ⟨a3, c3, ev3⟩ := own_sl own3
  subst ev3
  obtain ⟨a4, c4, ev4⟩ := own_sl own4
  subst ev4
  have her1 := out1.er
  rw [HGE.out] at her1
  subst her1
  obtain ⟨X6, hX6⟩ : ∃ X : Nat → Prop, (fun i => (Value.slice a1 ts.length c1).ownBlock = some i) = X := ⟨_, rfl⟩
  have hx1 : ∀ g, X6 g → w2.heap.size + 1 ≤ g ∧ g < w3.heap.size := fun g hg => by rw [← hX6] at hg; exact hv1 g hg
  have H1 := hideT own1
  have H2 := hideT own2
  have H3 := hideT own3
  have H4 := hideT own4
  have HO := hideT out1
  have HX := hideT hX6
  have HX1 := hideT hx1
  clear own1 own2 own3 own4 out1 hv1 hX6 hx1
  have hBsz := hB.size
  go_wp2_with fail
  go_loopw [17] (fun i wr => ∃ k : Nat, k ≤ ts.length ∧ i = .int .i64 k ∧ wr.ownsRow (w2.heap.size + 1) 23 6 (.slice a1 ts.length c1) ts.length (tokCells (spk k ts)) ∧ Kp X6 w6 wr) (fun i wr => ts.length - (intOf i).toNat)
  case atStart => exact ⟨0, Nat.zero_le _, rfl, by rw [spk_zero]; exact H1.out, Kp.refl _ _⟩
  case round =>
    obtain ⟨k, hk, rfl, own, kz⟩ := hrel
    by_cases hlt : k < ts.length
    · have hki : ((k : Int) < (ts.length : Int)) := by omega
      have own3 := own_kp H3.out kz (fun g hg c => by have := (own_lt H3.out hg).1; have := (HX1.out g c).2; omega)
      rcases own.2 with ⟨_, h0⟩ | ⟨g1, p1, r1, hv1, _⟩
      · omega
      injection hv1 with hv1 _ hc1
      subst hv1
      subst hc1
      rcases own3.2 with ⟨_, h0⟩ | ⟨g3, p3, r3, hv3, _⟩
      · omega
      injection hv3 with hv3 _ hc3
      subst hv3
      subst hc3
      have hks : k < (spk k ts).length := by rw [spk_len]; exact hlt
      have z10 := own_tok own k 0 hks (by decide)
      have z20 := own_tok own3 k 0 hlt (by decide)
      have z11 := own_tok own k 1 hks (by decide)
      have z21 := own_tok own3 k 1 hlt (by decide)
      have z12 := own_tok own k 2 hks (by decide)
      have z22 := own_tok own3 k 2 hlt (by decide)
      have z13 := own_tok own k 3 hks (by decide)
      have z23 := own_tok own3 k 3 hlt (by decide)
      have z14 := own_tok own k 4 hks (by decide)
      have z24 := own_tok own3 k 4 hlt (by decide)
      have z15 := own_tok own k 5 hks (by decide)
      have z25 := own_tok own3 k 5 hlt (by decide)
      rw [spk_at hlt hks] at z10 z11 z12 z13 z14 z15
      obtain ⟨st, hst⟩ := own.stored (k * 6 + 1) (.string spS)
      rw [spk_set hlt] at st
      have kz2 := kz.trans (Kp.grown (X := X6) hst (fun i e => by rw [← HX.out]; exact e)) (fun i _ c => c)
      have fz := own.frozenAt (k * 6 + 1)
      obtain ⟨t, ht⟩ : ∃ t, ts[k] = t := ⟨_, rfl⟩
      rw [ht] at z10 z20 z11 z21 z12 z22 z13 z23 z14 z24 z15 z25
      simp only [Tok.cells, List.getElem?_cons_zero, List.getElem?_cons_succ] at z10 z20 z11 z21 z12 z22 z13 z23 z14 z24 z15 z25
      rw [Nat.add_zero] at z10 z20
      clear ht hst own own3
      have ST := hideT st
      have KZ2 := hideT kz2
      clear st kz2
      go_wp2_with fail
      go_quiet (fail)
      go_wp2
      go_roundw
      case rel => exact ⟨k + 1, by omega, by go_num, ST.out, ⟨KZ2.out.os, KZ2.out.tape, KZ2.out.output, KZ2.out.size, KZ2.out.block⟩⟩
      case measure => simp [intOf]; omega
    · have hki : ¬ ((k : Int) < (ts.length : Int)) := by omega
      have ek : k = ts.length := by omega
      subst ek
      go_wp2_with fail
      go_loopw [7, 18] (fun l j wr => ∃ (jj : Nat) (L : List Tok), jj ≤ 8 ∧ j = .int .i64 jj ∧ L.length = ts.length + jj ∧ wr.ownsRow (w.heap.size + 2) 23 6 l (ts.length + jj) (tokCells L) ∧ Kp X6 w6 wr ∧ (∀ g, l.ownBlock = some g → X6 g ∨ w6.heap.size ≤ g)) (fun l j wr => 8 - (intOf j).toNat)
      case atStart => exact ⟨0, spk ts.length ts, by omega, rfl, spk_len _ _, own_mono own (by omega), kz, fun g hg => Or.inl (by rw [← HX.out]; exact hg)⟩
      case round =>
        clear own kz
        obtain ⟨jj, L, hj8, rfl, hLl, own, kz, hlb⟩ := hrel
        have HLB := hideT hlb
        clear hlb
        obtain ⟨al, cl, el⟩ := own_sl own
        subst el
        by_cases hlt : jj < 8
        · have hki : ((jj : Int) < 8) := by omega
          obtain ⟨wx, hwx⟩ : ∃ wx, wr.alloc (.cells #[.int .i64 0, .string ⟨#[109, 111, 114, 101]⟩, .int .i64 0, .int .i64 0, .int .i64 0, .int .i64 0] 23) = wx := ⟨_, rfl⟩
          have hnew := heap_alloc_new wr (.cells #[.int .i64 0, .string ⟨#[109, 111, 114, 101]⟩, .int .i64 0, .int .i64 0, .int .i64 0, .int .i64 0] 23)
          have b3 := below_alloc (w := wr) (.cells #[.int .i64 0, .string ⟨#[109, 111, 114, 101]⟩, .int .i64 0, .int .i64 0, .int .i64 0, .int .i64 0] 23)
          rw [hwx] at hnew b3
          have own2 := own_kp own (Kp.of (X := fun _ => False) b3) (fun _ _ c => c)
          have hk2 : ts.length + jj + 1 ≤ maxLen := by simp only [maxLen]; omega
          have hbl2 : (ts.length + jj + 1) * 56 ≤ 140737488355328 := by omega
          have hkz := kz.size
          have hb3 := b3.size
          have hbB : w.heap.size + 2 ≤ wx.heap.size := by omega
          obtain ⟨i0, hi0, hz0, hz1, hz2⟩ := info_parts info_Tok
          go_wp2_with (at_builtin; (try rw [hwx]); (refine wpList_append_lies _ (by rfl) _ _ _ (by rfl) (w.heap.size + 2) 23 i0 _ 6 56 Tryd.underlying29 hi0 hz0 hz1 hz2 rfl (by omega) (.slice al (ts.length + jj) cl) (ts.length + jj) (tokCells L) (by rfl) own2 ⟨wr.heap.size, 0, none⟩ 1 1 [.int .i64 0, .string ⟨#[109, 111, 114, 101]⟩, .int .i64 0, .int .i64 0, .int .i64 0, .int .i64 0] (by rfl) (by rfl) (World.news_of_block (cs := #[.int .i64 0, .string ⟨#[109, 111, 114, 101]⟩, .int .i64 0, .int .i64 0, .int .i64 0, .int .i64 0]) (t := 23) (fr := (0, 0)) hnew) (by simp [Value.oneCell']) (by omega) hk2 hbl2 hbB wx.heap.size rfl ?_))
          intro gb cap wd hown4 hgrow hat hlt4
          have kz2 : Kp X6 w6 wd := (kz.trans (Kp.of (X := X6) b3) (fun i _ c => c)).trans (Kp.grown hgrow (fun k e => e)) (fun i hi c => by rcases HLB.out i c with q | q; exact q; omega)
          have hlb2 : ∀ g, (Value.slice (some ⟨gb, 0, none⟩) (ts.length + jj + 1) cap).ownBlock = some g → X6 g ∨ w6.heap.size ≤ g := fun g hg => by
            have hg2 : gb = g := by injection hg
            subst hg2
            rcases hat with c | c
            · exact HLB.out gb c
            · right; omega
          have own3 : wd.ownsRow (w.heap.size + 2) 23 6 (.slice (some ⟨gb, 0, none⟩) (ts.length + jj + 1) cap) (ts.length + jj + 1) (tokCells (L ++ [⟨0, ⟨#[109, 111, 114, 101]⟩, 0, 0, 0, 0⟩])) := by rw [tokCells_app]; exact hown4
          have OW := hideT own3
          have KZ := hideT kz2
          have HL2 := hideT hlb2
          clear own3 kz2 hlb2 hown4 hgrow hat own2 own kz hk2 hbl2 hbB hnew b3 hwx hi0 hz0 hz1 hz2 hlt4 hkz hb3
          go_wp2
          go_roundw
          case rel => exact ⟨jj + 1, L ++ [⟨0, ⟨#[109, 111, 114, 101]⟩, 0, 0, 0, 0⟩], by omega, by go_num, by rw [List.length_append, hLl]; rfl, OW.out, KZ.out, HL2.out⟩
          case measure => simp [intOf]; omega
        · have hki : ¬ ((jj : Int) < 8) := by omega
          have ej : jj = 8 := by omega
          subst ej
          clear hLl HLB own L
          have hkz := kz.size
          have own2 := own_kp H2.out kz (fun g hg c => by have := (own_lt H2.out hg).1; have := (HX1.out g c).2; omega)
          have own4 := own_kp H4.out kz (fun g hg c => by have := (own_lt H4.out hg).1; have := (HX1.out g c).2; omega)
          have out8 := HO.out.kp kz (fun c => by have := (HX1.out _ c).1; omega) (fun g hg hne c => by rw [← HX.out] at c; exact hne c)
          have hBr := hB.trans (kz.below hBsz (fun k hk c => by have := (HX1.out k c).1; omega))
          have hMr := hM.on hBr
          clear kz HO H1 H2 H3 H4
          cases o1 with
          | bad Bx Lx Cx =>
            have hg2 : er1 = 120 := HGE.out.symm
            subst hg2
            obtain ⟨_, sc⟩ := out8
            have GE_ := hideT (end_failed _ _ _ wr sc rfl (show (120 : Int) ≠ 0 by decide))
            clear sc
            go_wp2_with fail
            refine GE_.out.mono ?_
            rintro e_ w7 ⟨rfl, hw7⟩
            rw [hw7]
            clear hw7 w7 GE_
            go_wp2_with fail
            refine (GRt.out _).mono ?_
            rintro e_ w8 ⟨v6, rfl, own6, b8, _⟩
            clear GRt own6
            replace own2 := own_kp own2 (Kp.of (X := fun _ => False) b8) (fun _ _ c => c)
            replace own4 := own_kp own4 (Kp.of (X := fun _ => False) b8) (fun _ _ c => c)
            replace hBr := hBr.trans (b8.mono hBr.size)
            clear b8 hMr
            have GS := hideT (same_is _ _ _ _ us _ own2 own4 (by omega))
            have GW := hideT (fun W h1 h2 => awake_is W h1 h2)
            have x8 : ((((ts.length + 8 : Nat)) : Int) == (ts.length : Int) + 8) = true := by rw [beq_iff_eq]; omega
            clear own2 own4
            go_wp2_with fail
            refine GS.out.mono ?_
            rintro e_ wa ⟨rfl, ba⟩
            replace hBr := hBr.trans (ba.mono hBr.size)
            clear ba GS
            have hMa := hM.on hBr
            have hza := Nat.lt_of_lt_of_le hmx hBr.size
            go_wp2_with fail
            refine (GW.out _ hMa hza).mono ?_
            rintro e_ wb ⟨rfl, bb⟩
            go_wp2
            go_ret
            exact ⟨rfl, hBr.trans (bb.mono hBr.size)⟩
          | ok q =>
            have hg2 : er1 = 0 := HGE.out.symm
            subst hg2
            obtain ⟨_, S1, sc, rs, iv, hne⟩ := out8
            obtain ⟨f1, f2, f3, f4, f5⟩ := HFR.out q rfl
            have f2b : q.rd = a.size := by rw [f2, HAL.out]; show 0 + a.size = _; omega
            have GE_ := hideT (endS (w.heap.size + 2) w.heap.size S1 q wr sc (by omega) rs iv (by omega) (f3 (Nat.le_refl _)) hMr)
            have hel := end_len q
            have hrt := HTR.out q rfl
            clear f1 f2 f3 f4 f5 f2b rs iv
            obtain ⟨te, hte⟩ : ∃ te, (endP q).1 = te := ⟨_, rfl⟩
            rw [hte] at GE_ hel hrt
            rw [hrt] at GRt
            clear hte hrt
            go_wp2_with fail
            refine GE_.out.mono ?_
            rintro e_ w7 ⟨v5, rfl, own5, k7, _, _⟩
            clear GE_
            replace own2 := own_kp own2 k7 (fun g hg c => by rcases c with c | c; (have := (own_lt own2 hg).1; omega); exact own_ne sc.own own2 (by decide) g c hg)
            replace own4 := own_kp own4 k7 (fun g hg c => by rcases c with c | c; (have := (own_lt own4 hg).1; omega); exact own_ne sc.own own4 (by decide) g c hg)
            replace hBr := hBr.trans (k7.below (by omega) (fun k hk c => by rcases c with c | c; omega; have := (own_lt sc.own c).1; omega))
            clear k7 sc hne
            go_wp2_with fail
            refine (GRt.out _).mono ?_
            rintro e_ w8 ⟨v6, rfl, own6, b8, _⟩
            clear GRt
            replace own2 := own_kp own2 (Kp.of (X := fun _ => False) b8) (fun _ _ c => c)
            replace own4 := own_kp own4 (Kp.of (X := fun _ => False) b8) (fun _ _ c => c)
            replace own5 := own_kp own5 (Kp.of (X := fun _ => False) b8) (fun _ _ c => c)
            replace hBr := hBr.trans (b8.mono hBr.size)
            clear b8 hMr
            obtain ⟨a6, c6, ev6⟩ := own_sl own6
            obtain ⟨n6, hn6⟩ : ∃ n6, (ts ++ te).length = n6 := ⟨_, rfl⟩
            rw [hn6] at ev6
            subst ev6
            have hn7 : ts.length ≤ n6 := by rw [← hn6, List.length_append]; omega
            have hsl := fun wx => slice_toks a6 n6 c6 ts.length hn7 wx
            have tk2 := own_rest own6 hn6.symm
            have tk1 := own_tokSl own5
            generalize sliced a6 ts.length n6 c6 6 = V at hsl tk2
            clear hn6
            have GS5 := hideT (same_at v5 V te w8 tk1 tk2 (by omega))
            clear tk1 tk2 own5 own6
            go_wp2_with fail
            refine GS5.out.mono ?_
            rintro e_ w9 ⟨rfl, b9⟩
            clear GS5
            replace own2 := own_kp own2 (Kp.of (X := fun _ => False) b9) (fun _ _ c => c)
            replace own4 := own_kp own4 (Kp.of (X := fun _ => False) b9) (fun _ _ c => c)
            replace hBr := hBr.trans (b9.mono hBr.size)
            clear b9
            have GS := hideT (same_is _ _ _ _ us _ own2 own4 (by omega))
            have GW := hideT (fun W h1 h2 => awake_is W h1 h2)
            have x8 : ((((ts.length + 8 : Nat)) : Int) == (ts.length : Int) + 8) = true := by rw [beq_iff_eq]; omega
            clear own2 own4
            go_wp2_with fail
            refine GS.out.mono ?_
            rintro e_ wa ⟨rfl, ba⟩
            replace hBr := hBr.trans (ba.mono hBr.size)
            clear ba GS
            have hMa := hM.on hBr
            have hza := Nat.lt_of_lt_of_le hmx hBr.size
            go_wp2_with fail
            refine (GW.out _ hMa hza).mono ?_
            rintro e_ wb ⟨rfl, bb⟩
            go_wp2
            go_ret
            exact ⟨rfl, hBr.trans (bb.mono hBr.size)⟩

end Go.Proofs.YtmgecifbimhjkaaDoor
