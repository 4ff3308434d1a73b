/-
  SexprApart: two readers, side by side.
-/
import Derived.Test.YtibeiggedmabkaaDoorSXK
namespace Go.Proofs.YtibeiggedmabkaaDoor
open Go.RowKit
set_option linter.unusedVariables false
set_option linter.unusedSimpArgs false
/-- the blocks of the scanner that lies in sc -/
def SRow (w : World) (sc k : Nat) : Prop := k = sc ∨ ∃ cur t fr v, w.heap[sc]? = some (.cells cur t fr) ∧ cur[1]? = some v ∧ v.ownBlock = some k
theorem srow_of {w : World} {bs sc : Nat} {S : Scan} (h : ScAt w bs sc S) {k : Nat} : SRow w sc k ↔ Scan.rows sc S.cv k := by
  constructor
  · rintro (e | ⟨cur, t, fr, v, h1, h2, h3⟩)
    · exact Or.inl e
    · right
      rw [show w.heap[sc]? = _ from h.blk] at h1
      injection h1 with h1
      injection h1 with e1 _ _
      subst e1
      simp [Scan.cells] at h2
      subst h2
      exact h3
  · rintro (e | e)
    · exact Or.inl e
    · exact Or.inr ⟨_, _, _, S.cv, h.blk, by simp [Scan.cells], e⟩
theorem SRow.kept {Y : Nat → Prop} {w w' : World} {sc : Nat} (k : Kp Y w w') (hl : sc < w.heap.size) (hn : ¬ Y sc) {i : Nat} : SRow w' sc i ↔ SRow w sc i := by
  unfold SRow
  rw [k.block sc hl hn]
theorem RdI.srow {w : World} {base b sc : Nat} {X P : Nat → Prop} {o : List Opn} {p : PS} (h : RdI w base b sc X P (.go o p)) {k : Nat} (hk : SRow w sc k) : k < w.heap.size ∧ ¬ Frm w k := by
  obtain ⟨gl, c, lv, S, bs, h1, h2, h3, h4, h5, h6, h7⟩ := h
  have hk := (srow_of h5).1 hk
  refine ⟨?_, scan_frm h5 hk⟩
  rcases hk with e | e
  · subst e; exact h5.blk.lt
  · exact (own_lt h5.own e).2
theorem RdI.kp2 {w w' : World} {base b sc : Nat} {X P Y : Nat → Prop} {rs : RS} (h : RdI w base b sc X P rs) (k : Kp Y w w') (hX : ∀ i, X i → ¬ Y i) (hP : ∀ g, P g → ¬ Y g) (hS : ∀ o p, rs = .go o p → ∀ i, SRow w sc i → ¬ Y i) : RdI w' base b sc X P rs := by
  cases rs with
  | go o p =>
    obtain ⟨gl, c, lv, S, bs, h1, h2, h3, h4, h5, h6, h7⟩ := h
    exact ⟨gl, c, lv, S, bs, h1.kp k (fun i hi => hX i ((h4 i).2 hi)) hP, h2, h3, h4, h5.kp k (fun i hi => hS o p rfl i ((srow_of h5).2 hi)), Nat.le_trans h6 k.size, h7⟩
  | over d e q =>
    obtain ⟨h1, h2, h3, h4⟩ := h
    exact ⟨k.blk h1 (hX b ((h2 b).2 rfl)), h2, h3, fun g hg => ⟨(h4 g hg).1, (h4 g hg).2.of (k.block g (h4 g hg).2.lt (hP g hg))⟩⟩
theorem RdI.xfrm {w : World} {base b sc : Nat} {X P : Nat → Prop} {rs : RS} (h : RdI w base b sc X P rs) {k : Nat} (hk : X k) : Frm w k := by
  cases rs with
  | go o p =>
    obtain ⟨gl, c, lv, S, bs, h1, h2, h3, h4, _⟩ := h
    exact rd_frm h1 k ((h4 k).1 hk)
  | over d e q =>
    obtain ⟨h1, h2, h3, h4⟩ := h
    rw [(h2 k).1 hk]
    exact ⟨_, _, h1, by decide, by decide⟩
theorem RdI.srow_base {w : World} {base b sc : Nat} {X P : Nat → Prop} {o : List Opn} {p : PS} (h : RdI w base b sc X P (.go o p)) {k : Nat} (hk : SRow w sc k) : base ≤ k := by
  obtain ⟨gl, c, lv, S, bs, h1, h2, h3, h4, h5, h6, h7, h8, h9, ha, hb, hc⟩ := h
  rcases (srow_of h5).1 hk with e | e
  · omega
  · have := (own_lt h5.own e).1
    have := h5.lt
    omega
theorem RdI.low {w : World} {base b sc : Nat} {X P : Nat → Prop} {rs : RS} (h : RdI w base b sc X P rs) : base ≤ w.heap.size := by
  cases rs with
  | go o p =>
    obtain ⟨gl, c, lv, S, bs, h1, _⟩ := h
    exact h1.low
  | over d e q =>
    obtain ⟨h1, h2, h3, h4⟩ := h
    have := h1.lt
    omega
def GoR (rs : RS) : Prop := ∃ o p, rs = .go o p
/-- what a Feed changes, told more of -/
def Chg2 (w w' : World) (base : Nat) (X : Nat → Prop) (sc : Nat) (rs rs' : RS) : Prop :=
  (∃ Z, Kp Z w w' ∧ ∀ k, Z k → base ≤ k ∧ (X k ∨ (¬ Frm w k ∧ GoR rs ∧ SRow w sc k))) ∧ (GoR rs' → GoR rs ∧ ∀ k, SRow w' sc k → SRow w sc k ∨ w.heap.size ≤ k)
theorem Chg2.chg {w w' : World} {base : Nat} {X : Nat → Prop} {sc : Nat} {rs rs' : RS} (h : Chg2 w w' base X sc rs rs') : Chg w w' base X := by
  obtain ⟨⟨Z, k, hz⟩, _⟩ := h
  exact ⟨Z, k, fun i hi => ⟨(hz i hi).1, (hz i hi).2.imp id (fun c => c.1)⟩⟩
/-- two readers, apart -/
structure TwoI (w : World) (base1 b1 sc1 : Nat) (X1 P1 : Nat → Prop) (rs1 : RS) (base2 b2 sc2 : Nat) (X2 P2 : Nat → Prop) (rs2 : RS) : Prop where
  one : RdI w base1 b1 sc1 X1 P1 rs1
  two : RdI w base2 b2 sc2 X2 P2 rs2
  xx : ∀ k, X1 k → ¬ X2 k
  px : ∀ k, P1 k → ¬ X2 k
  xp : ∀ k, P2 k → ¬ X1 k
  ss : GoR rs1 → GoR rs2 → ∀ k, SRow w sc1 k → ¬ SRow w sc2 k
theorem TwoI.symm {w : World} {base1 b1 sc1 : Nat} {X1 P1 : Nat → Prop} {rs1 : RS} {base2 b2 sc2 : Nat} {X2 P2 : Nat → Prop} {rs2 : RS} (h : TwoI w base1 b1 sc1 X1 P1 rs1 base2 b2 sc2 X2 P2 rs2) : TwoI w base2 b2 sc2 X2 P2 rs2 base1 b1 sc1 X1 P1 rs1 :=
  ⟨h.two, h.one, fun k a b => h.xx k b a, h.xp, h.px, fun a b k c d => h.ss b a k d c⟩
theorem TwoI.kp {w w' : World} {base1 b1 sc1 : Nat} {X1 P1 : Nat → Prop} {rs1 : RS} {base2 b2 sc2 : Nat} {X2 P2 Y : Nat → Prop} {rs2 : RS} (h : TwoI w base1 b1 sc1 X1 P1 rs1 base2 b2 sc2 X2 P2 rs2) (k : Kp Y w w') (h1 : ∀ i, X1 i → ¬ Y i) (h2 : ∀ i, X2 i → ¬ Y i) (h3 : ∀ i, P1 i → ¬ Y i) (h4 : ∀ i, P2 i → ¬ Y i) (hY : ∀ i, Y i → i < w.heap.size → Frm w i) : TwoI w' base1 b1 sc1 X1 P1 rs1 base2 b2 sc2 X2 P2 rs2 := by
  have s1 : ∀ o p, rs1 = .go o p → ∀ i, SRow w sc1 i → ¬ Y i := fun o p e i hi c => (((e ▸ h.one : RdI w base1 b1 sc1 X1 P1 (.go o p))).srow hi).2 (hY i c (((e ▸ h.one : RdI w base1 b1 sc1 X1 P1 (.go o p))).srow hi).1)
  have s2 : ∀ o p, rs2 = .go o p → ∀ i, SRow w sc2 i → ¬ Y i := fun o p e i hi c => (((e ▸ h.two : RdI w base2 b2 sc2 X2 P2 (.go o p))).srow hi).2 (hY i c (((e ▸ h.two : RdI w base2 b2 sc2 X2 P2 (.go o p))).srow hi).1)
  refine ⟨h.one.kp2 k h1 h3 s1, h.two.kp2 k h2 h4 s2, h.xx, h.px, h.xp, ?_⟩
  rintro ⟨o1, p1, e1⟩ ⟨o2, p2, e2⟩ i hi hj
  have l1 := ((e1 ▸ h.one : RdI w base1 b1 sc1 X1 P1 (.go o1 p1)).srow (Or.inl rfl : SRow w sc1 sc1)).1
  have l2 := ((e2 ▸ h.two : RdI w base2 b2 sc2 X2 P2 (.go o2 p2)).srow (Or.inl rfl : SRow w sc2 sc2)).1
  exact h.ss ⟨o1, p1, e1⟩ ⟨o2, p2, e2⟩ i ((SRow.kept k l1 (s1 o1 p1 e1 _ (Or.inl rfl))).1 hi) ((SRow.kept k l2 (s2 o2 p2 e2 _ (Or.inl rfl))).1 hj)
theorem TwoI.later {w w' : World} {base1 b1 sc1 : Nat} {X1 P1 : Nat → Prop} {rs1 : RS} {base2 b2 sc2 : Nat} {X2 P2 : Nat → Prop} {rs2 : RS} (h : TwoI w base1 b1 sc1 X1 P1 rs1 base2 b2 sc2 X2 P2 rs2) (hb : Below w.heap.size w w') : TwoI w' base1 b1 sc1 X1 P1 rs1 base2 b2 sc2 X2 P2 rs2 :=
  h.kp (Kp.of (X := fun _ => False) hb) (fun _ _ c => c) (fun _ _ c => c) (fun _ _ c => c) (fun _ _ c => c) (fun _ c => c.elim)
/-- two new ones -/
theorem TwoI.new {w1 w2 : World} {base b1 sc1 b2 sc2 : Nat} {X1 X2 : Nat → Prop} (h1 : RdI w1 base b1 sc1 X1 (fun _ => False) rs0) (h2 : RdI w2 w1.heap.size b2 sc2 X2 (fun _ => False) rs0) (hb : Below w1.heap.size w1 w2) : TwoI w2 base b1 sc1 X1 (fun _ => False) rs0 w1.heap.size b2 sc2 X2 (fun _ => False) rs0 := by
  refine ⟨h1.later hb, h2, fun k a b => ?_, fun _ c => c.elim, fun _ c => c.elim, fun _ _ k a b => ?_⟩
  · have := (h1.xb.1 k a).2
    have := (h2.xb.1 k b).1
    omega
  · have l := (RdI.srow (o := _) (p := _) h1 (Or.inl rfl : SRow w1 sc1 sc1)).1
    have a' := (SRow.kept (Kp.of (X := fun _ => False) hb) l (fun c => c)).1 a
    have := (RdI.srow (o := _) (p := _) h1 a').1
    have := RdI.srow_base (o := _) (p := _) h2 b
    omega
/-- the first is fed -/
theorem TwoI.fed {w w' : World} {base1 b1 sc1 : Nat} {X1 P1 : Nat → Prop} {rs1 rs' : RS} {base2 b2 sc2 : Nat} {X2 P2 : Nat → Prop} {rs2 : RS} {v : Value} {N : List Nd} (h : TwoI w base1 b1 sc1 X1 P1 rs1 base2 b2 sc2 X2 P2 rs2) (f : FedI w w' base1 b1 sc1 X1 P1 v N rs') (c : Chg2 w w' base1 X1 sc1 rs1 rs') :
    ∃ X' P', TwoI w' base1 b1 sc1 X' P' rs' base2 b2 sc2 X2 P2 rs2 ∧ (∀ k, X' k → k < w.heap.size → X1 k) := by
  obtain ⟨K, P', X', _, _, r, x1, p1⟩ := f
  obtain ⟨⟨Z, kz, hz⟩, hg⟩ := c
  have hs2 : ∀ o p, rs2 = .go o p → ∀ i, SRow w sc2 i → ¬ Z i := by
    intro o p e i hi c
    have q := (e ▸ h.two : RdI w base2 b2 sc2 X2 P2 (.go o p)).srow hi
    rcases (hz i c).2 with d | ⟨d1, d2, d3⟩
    · exact q.2 (h.one.xfrm d)
    · exact h.ss d2 ⟨o, p, e⟩ i d3 hi
  refine ⟨X', P', ⟨r, h.two.kp2 kz (fun i hi c => (hz i c).2.elim (fun d => h.xx i d hi) (fun d => d.1 (h.two.xfrm hi))) (fun g hg c => (hz g c).2.elim (h.xp g hg) (fun d => d.1 (h.two.xb.2 g hg).2.frm)) hs2, fun k a b => ?_, fun k a b => ?_, fun k a b => ?_, ?_⟩, x1⟩
  · exact h.xx k (x1 k a (h.two.xb.1 k b).2) b
  · exact (p1 k a (h.two.xb.1 k b).2).elim (fun d => h.px k d b) (fun d => h.xx k d b)
  · exact h.xp k a (x1 k b (h.two.xb.2 k a).2.lt)
  · rintro g1 ⟨o2, p2, e2⟩ i hi hj
    have q := fun {i} => (e2 ▸ h.two : RdI w base2 b2 sc2 X2 P2 (.go o2 p2)).srow (k := i)
    have hj' := (SRow.kept kz (q (Or.inl rfl)).1 (hs2 o2 p2 e2 _ (Or.inl rfl))).1 hj
    have l := (q hj').1
    rcases (hg g1).2 i hi with d | d
    · exact h.ss (hg g1).1 ⟨o2, p2, e2⟩ i d hj'
    · omega
/-- the scanner behind a Feed, and where its row lies -/
def scO2 (bs sc : Nat) (h0 : Nat) (cv0 : Value) (w2 : World) : Out → Prop
  | .ok q => ∃ S2, ScAt w2 bs sc S2 ∧ RelS S2 q ∧ Inv q ∧ bs ≤ w2.heap.size ∧ (∀ g, S2.cv.ownBlock = some g → cv0.ownBlock = some g ∨ h0 ≤ g)
  | .bad _ _ _ => True
theorem feedGo2 {w : World} {base b sc : Nat} {X P : Nat → Prop} {o : List Opn} {p : PS} (h : RdI w base b sc X P (.go o p)) (pc : ByteArray) (hM : MaxL w) (hsz : p.rd + pc.size ≤ 400000000) :
    Calls Tryd.prog 16 #[.pointer (some ⟨b, 0, none⟩), .string pc] w fun r w' => ∃ v, r = .returned (.tuple #[v, .int .i64 (feedF (.go o p) pc.data.toList).2.1]) ∧ FedI w w' base b sc X P v (feedF (.go o p) pc.data.toList).1 (feedF (.go o p) pc.data.toList).2.2 ∧ Chg2 w w' base X sc (.go o p) (feedF (.go o p) pc.data.toList).2.2 := by
  obtain ⟨gl, c, lv, S, bs, h1, h2, h3, h4, h5, h6, h7, h8, h9, ha, hb, hc⟩ := h
  have hpl : pc.data.toList.length = pc.size := by rw [Array.length_toList]; rfl
  rcases hf : feedP p pc.data.toList with ⟨ts, out⟩
  have hl := feed_len2 p pc.data.toList
  rw [hf, hpl] at hl
  simp only at hl
  have hfX : ∀ i, RdX b gl lv i → ¬ Scan.rows sc S.cv i := fun i hi c => scan_frm h5 c (rd_frm h1 i hi)
  have hfP : ∀ g, P g → ¬ Scan.rows sc S.cv g := fun g hg c => scan_frm h5 c (h1.ty g hg).frm
  have hYl : ∀ g, Scan.rows sc S.cv g → g < w.heap.size := fun g hg => by
    rcases hg with e | e
    · subst e; exact h5.blk.lt
    · exact (own_lt h5.own e).2
  have G := rfeed (Y := Scan.rows sc S.cv) (Ps := fun w2 => scO2 bs sc w.heap.size S.cv w2 out) h1 h2 h3 pc ts (errO2 out) (plO out) (by omega) hfX hfP hYl (fun W hW => by
    refine (feedS2 bs sc S p pc W (h5.kp (Kp.of (X := fun _ => False) hW) (fun _ _ c => c)) (Nat.le_trans h6 hW.size) h7 h8 (by omega) h9 ha (hM.on hW)).mono ?_
    rintro e w2 ⟨v, er, rfl, own2, k2, ho, _⟩
    rw [hf] at own2 ho
    cases out with
    | ok q =>
      obtain ⟨rfl, S2, s2, r2, i2, _, rw2⟩ := ho
      exact ⟨v, rfl, own_mono own2 (by omega), k2, fun c => absurd rfl c, S2, s2, r2, i2, Nat.le_trans h6 (Nat.le_trans hW.size k2.size), fun g hg => (rw2 g hg).imp id (fun c => Nat.le_trans hW.size c)⟩
    | bad B L C =>
      obtain ⟨rfl, s2⟩ := ho
      refine ⟨v, rfl, own_mono own2 (by omega), k2, fun _ wr kr => ?_, trivial⟩
      refine (at_failed bs sc _ wr (s2.kp kr (fun i hi => scan_frm s2 hi)) rfl).mono ?_
      rintro r w' ⟨rfl, hb2⟩
      exact ⟨_, _, _, _, _, rfl, hb2⟩)
  refine G.mono ?_
  rintro r w' ⟨⟨w2, hPs, kF⟩, kz, hE⟩
  have hchg : ∃ Z, Kp Z w w' ∧ ∀ k, Z k → base ≤ k ∧ (X k ∨ (¬ Frm w k ∧ GoR (.go o p) ∧ SRow w sc k)) := ⟨_, kz, fun k hk => by
    rcases hk with e | e
    · refine ⟨?_, Or.inl ((h4 k).2 e)⟩
      rcases e with e | e | ⟨x, hx, e⟩
      · omega
      · subst e; exact (own_lt h1.own rfl).1
      · exact (own_lt (h1.ok x hx) e).1
    · refine ⟨?_, Or.inr ⟨scan_frm h5 e, ⟨o, p, rfl⟩, (srow_of h5).2 e⟩⟩
      rcases e with e | e
      · omega
      · have := (own_lt h5.own e).1
        have := h5.lt
        omega⟩
  have bad : ∀ (s2 : BS) (cc qq : Int), FeedBad base b cc qq s2 w.heap.size (RdX b gl lv) P (fun v => [v, .int .i64 cc]) r w' → ∃ v, r = .returned (.tuple #[v, .int .i64 cc]) ∧ FedI w w' base b sc X P v s2.nodes (.over s2.opn.length cc qq) := by
    rintro s2 cc qq ⟨v, K, P2, rfl, t1, t2, t3, t4⟩
    refine ⟨v, rfl, K, P2, (fun k => k = b), t1, fun g hg => ⟨(t2 g hg).1, fun hl => (h4 g).2 ((t2 g hg).2 hl)⟩, ⟨t4, fun _ => Iff.rfl, hc, fun g hg => ⟨(t3 g hg).1, (t3 g hg).2.1⟩⟩, fun k hk hl => (h4 k).2 (Or.inl hk), fun g hg hl => ((t3 g hg).2.2 hl).imp id (fun c => (h4 g).2 c)⟩
  have over : ∀ (d : Nat) (cc qq : Int), GoR (.over d cc qq) → False := by rintro d cc qq ⟨o, p, e⟩; cases e
  rw [feedF_fed hf]
  rcases hbb : buildB ⟨[], o⟩ ts with s2 | ⟨s2, cc, qq⟩
  · rw [hbb] at hE
    cases out with
    | ok q =>
      obtain ⟨v, K, gl2, c2, P2, lv2, rfl, t1, t2, t3, t4, t5, t6, t7⟩ := hE
      obtain ⟨S2, s2c, r2, i2, hbs, hrow⟩ := hPs
      obtain ⟨f1, f2, f3, f4, f5⟩ := feed_rd pc.data.toList h8 hf
      rw [hpl] at f2
      have s2w := s2c.kp kF (fun i hi => scan_frm s2c hi)
      refine ⟨v, rfl, ⟨K, P2, RdX b gl2 lv2, t1, fun g hg => ⟨(t2 g hg).1, fun hl => (h4 g).2 ((t2 g hg).2 hl)⟩, ⟨gl2, c2, lv2, S2, bs, t3, t4, fun x hx => by have := t5 x hx; omega, fun _ => Iff.rfl, s2w, Nat.le_trans hbs kF.size, r2, i2, f3 h9, f4 ha, hb, hc⟩, fun k hk hl => (h4 k).2 (t6 k hk hl), fun g hg hl => (t7 g hg hl).imp id (fun c => (h4 g).2 c)⟩, hchg, fun _ => ⟨⟨o, p, rfl⟩, fun k hk => ?_⟩⟩
      rcases (srow_of s2w).1 hk with e | e
      · exact Or.inl (Or.inl e)
      · exact (hrow k e).imp (fun c => (srow_of h5).2 (Or.inr c)) id
    | bad B L C =>
      obtain ⟨v, e1, e2⟩ := bad s2 120 B hE
      exact ⟨v, e1, e2, hchg, fun c => (over _ _ _ c).elim⟩
  · rw [hbb] at hE
    obtain ⟨v, e1, e2⟩ := bad s2 cc qq hE
    exact ⟨v, e1, e2, hchg, fun c => (over _ _ _ c).elim⟩
theorem feedR2 {w : World} {base b sc : Nat} {X P : Nat → Prop} {rs : RS} (h : RdI w base b sc X P rs) (pc : ByteArray) (hM : MaxL w) (hsz : ∀ o p, rs = .go o p → p.rd + pc.size ≤ 400000000) :
    Calls Tryd.prog 16 #[.pointer (some ⟨b, 0, none⟩), .string pc] w fun r w' => ∃ v, r = .returned (.tuple #[v, .int .i64 (feedF rs pc.data.toList).2.1]) ∧ FedI w w' base b sc X P v (feedF rs pc.data.toList).1 (feedF rs pc.data.toList).2.2 ∧ Chg2 w w' base X sc rs (feedF rs pc.data.toList).2.2 := by
  cases rs with
  | go o p => exact feedGo2 h pc hM (hsz o p rfl)
  | over d e q =>
    obtain ⟨h1, h2, h3, h4⟩ := id h
    refine (feedOver b d e q pc w h1).mono ?_
    rintro r w' ⟨rfl, hb⟩
    exact ⟨_, rfl, ⟨[], P, X, told_none, (fun g hg => by cases hg), h.later hb, fun k hk _ => hk, fun g hg _ => Or.inl hg⟩, ⟨fun _ => False, Kp.of hb, fun k hk => hk.elim⟩, fun c => by obtain ⟨o, p, e⟩ := c; simp only [feedF] at e; cases e⟩
end Go.Proofs.YtibeiggedmabkaaDoor
