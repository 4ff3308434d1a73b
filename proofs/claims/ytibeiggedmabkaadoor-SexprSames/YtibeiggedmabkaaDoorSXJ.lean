/-
  A reader in memory, with its scanner; Feed and End by what a reader is without memory.
-/
import Derived.Test.YtibeiggedmabkaaDoorSXI
import Derived.Test.YtibeiggedmabkaaDoorSY0
namespace Go.Proofs.YtibeiggedmabkaaDoor
open Go.RowKit
set_option linter.unusedVariables false
set_option linter.unusedSimpArgs false
theorem scan_frm {w : World} {bs sc : Nat} {S : Scan} (h : ScAt w bs sc S) {i : Nat} (hi : Scan.rows sc S.cv i) : ¬ Frm w i := by
  rintro ⟨cur, t, hc, h1, h2⟩
  rcases hi with e | e
  · subst e
    have := h.blk
    unfold Blk at this
    rw [hc] at this
    injection this with this
    injection this with _ e2 _
    exact h2 e2
  · rcases h.own.2 with ⟨e2, _⟩ | ⟨g, cap, cu, e2, _, hc2, _⟩
    · rw [e2] at e; cases e
    · rw [e2] at e
      injection e with e
      simp only at e
      subst e
      rw [hc] at hc2
      injection hc2 with hc2
      injection hc2 with _ e3 _
      exact h1 e3
theorem TyN.frm {w : World} {g : Nat} (h : TyN w g) : Frm w g := by
  obtain ⟨cur, hc⟩ := h
  exact ⟨cur, _, hc, by decide, by decide⟩
/-- a reader in memory: X are the blocks of nodes that it may change (and its own), P those of what is finished in lists that are open -/
def RdI (w : World) (base b sc : Nat) (X P : Nat → Prop) : RS → Prop
  | .go o p => ∃ gl c lv S bs, RdAt w base b (some ⟨sc, 0, none⟩) false 0 0 gl c P lv ∧ RelB lv ⟨[], o⟩ ∧ (∀ x ∈ lv, x.K.length ≤ 2 * p.rd) ∧ (∀ k, X k ↔ RdX b gl lv k) ∧ ScAt w bs sc S ∧ bs ≤ w.heap.size ∧ RelS S p ∧ Inv p ∧ p.buf.length ≤ p.rd ∧ p.ln ≤ p.rd ∧ base ≤ sc ∧ base ≤ b
  | .over d e q => Blk w b (rdC none (.slice none 0 0) d true e q) 63 ∧ (∀ k, X k ↔ k = b) ∧ base ≤ b ∧ (∀ g, P g → g ≠ b ∧ TyN w g)
theorem RdI.later {w w' : World} {base b sc : Nat} {X P : Nat → Prop} {rs : RS} (h : RdI w base b sc X P rs) (hb : Below w.heap.size w w') : RdI w' base b sc X P rs := by
  cases rs with
  | go o p =>
    obtain ⟨gl, c, lv, S, bs, h1, h2, h3, h4, h5, h6, h7⟩ := h
    exact ⟨gl, c, lv, S, bs, h1.later hb, h2, h3, h4, h5.kp (Kp.of (X := fun _ => False) hb) (fun _ _ c => c), Nat.le_trans h6 hb.size, h7⟩
  | over d e q =>
    obtain ⟨h1, h2, h3, h4⟩ := h
    exact ⟨h1.later hb, h2, h3, fun g hg => ⟨(h4 g hg).1, (h4 g hg).2.of (hb.block g (by obtain ⟨cur, hc⟩ := (h4 g hg).2; exact (Array.getElem?_eq_some_iff.1 hc).1))⟩⟩
theorem TyN.lt {w : World} {g : Nat} (h : TyN w g) : g < w.heap.size := by
  obtain ⟨cur, hc⟩ := h
  exact (Array.getElem?_eq_some_iff.1 hc).1
/-- where other blocks of nodes change alone -/
theorem RdI.kp {w w' : World} {base b sc : Nat} {X P Y : Nat → Prop} {rs : RS} (h : RdI w base b sc X P rs) (k : Kp Y w w') (hX : ∀ i, X i → ¬ Y i) (hP : ∀ g, P g → ¬ Y g) (hY : ∀ i, Y i → i < w.heap.size → Frm w i) : RdI w' base b sc X P rs := by
  cases rs with
  | go o p =>
    obtain ⟨gl, c, lv, S, bs, h1, h2, h3, h4, h5, h6, h7⟩ := h
    exact ⟨gl, c, lv, S, bs, h1.kp k (fun i hi => hX i ((h4 i).2 hi)) hP, h2, h3, h4, h5.kp k (fun i hi c => by
      have hl : i < w.heap.size := by
        rcases hi with e | e
        · subst e; exact h5.blk.lt
        · exact (own_lt h5.own e).2
      exact scan_frm h5 hi (hY i c hl)), Nat.le_trans h6 k.size, h7⟩
  | over d e q =>
    obtain ⟨h1, h2, h3, h4⟩ := h
    exact ⟨k.blk h1 (hX b ((h2 b).2 rfl)), h2, h3, fun g hg => ⟨(h4 g hg).1, (h4 g hg).2.of (k.block g (h4 g hg).2.lt (hP g hg))⟩⟩
theorem RdI.xb {w : World} {base b sc : Nat} {X P : Nat → Prop} {rs : RS} (h : RdI w base b sc X P rs) : (∀ k, X k → base ≤ k ∧ k < w.heap.size) ∧ (∀ g, P g → ¬ X g ∧ TyN w g) := by
  cases rs with
  | go o p =>
    obtain ⟨gl, c, lv, S, bs, h1, h2, h3, h4, h5, h6, h7, h8, h9, ha, hb, hc⟩ := h
    refine ⟨fun k hk => ?_, fun g hg => ⟨fun c => ?_, h1.ty g hg⟩⟩
    · rcases (h4 k).1 hk with e | e | ⟨x, hx, e⟩
      · subst e; exact ⟨hc, h1.blk.lt⟩
      · subst e; exact own_lt h1.own rfl
      · exact own_lt (h1.ok x hx) e
    · rcases (h4 g).1 c with e | e | ⟨x, hx, e⟩
      · exact (h1.pf g hg).1 e
      · exact (h1.pf g hg).2.1 e
      · exact (h1.far x hx g e).2.2 hg
  | over d e q =>
    obtain ⟨h1, h2, h3, h4⟩ := h
    exact ⟨fun k hk => by rw [(h2 k).1 hk]; exact ⟨h3, h1.lt⟩, fun g hg => ⟨fun c => (h4 g hg).1 ((h2 g).1 c), (h4 g hg).2⟩⟩
/-- what a Feed leaves: the nodes that it tells, and the reader -/
def FedI (w w' : World) (base b sc : Nat) (X P : Nat → Prop) (v : Value) (N : List Nd) (rs : RS) : Prop :=
  ∃ K P' X', Told w' base P' v N K ∧ (∀ g, v.ownBlock = some g → ¬ X' g ∧ (g < w.heap.size → X g)) ∧ RdI w' base b sc X' P' rs ∧ (∀ k, X' k → k < w.heap.size → X k) ∧ (∀ g, P' g → g < w.heap.size → P g ∨ X g)
/-- what a Feed changes -/
def Chg (w w' : World) (base : Nat) (X : Nat → Prop) : Prop := ∃ Z, Kp Z w w' ∧ ∀ k, Z k → base ≤ k ∧ (X k ∨ ¬ Frm w k)
theorem Chg.below {w w' : World} {base : Nat} {X : Nat → Prop} (h : Chg w w' base X) (hb : base ≤ w.heap.size) {B : Nat} (hB : B ≤ base) : Below B w w' := by
  obtain ⟨Z, k, hz⟩ := h
  exact k.below (by omega) (fun i hi c => by have := (hz i c).1; omega)
theorem Chg.maxL {w w' : World} {base : Nat} {X : Nat → Prop} (h : Chg w w' base X) (hM : MaxL w) (hb : mxB < base) : MaxL w' := by
  obtain ⟨Z, k, hz⟩ := h
  exact k.maxL (fun c => by have := (hz _ c).1; omega) hM
theorem Chg.size {w w' : World} {base : Nat} {X : Nat → Prop} (h : Chg w w' base X) : w.heap.size ≤ w'.heap.size := by
  obtain ⟨Z, k, hz⟩ := h
  exact k.size
theorem Chg.heap {w w' : World} {base : Nat} {X : Nat → Prop} (h : Chg w w' base X) {g : Nat} (hg : TyN w g) (hX : ¬ X g) : w'.heap[g]? = w.heap[g]? := by
  obtain ⟨Z, k, hz⟩ := h
  exact k.block g hg.lt (fun c => (hz g c).2.elim hX (fun d => d hg.frm))
theorem Chg.blk {w w' : World} {base : Nat} {X : Nat → Prop} (h : Chg w w' base X) {c : Nat} {cur : Array Value} {t : TypeId} (q : Blk w c cur t) (hX : ¬ X c) (h1 : t ≠ 5) (h2 : t ≠ 82) : Blk w' c cur t := by
  obtain ⟨Z, k, hz⟩ := h
  exact k.blk q (fun c => (hz _ c).2.elim hX (fun d => d ⟨cur, t, q, h1, h2⟩))
/-- what was told earlier stays -/
theorem Told.chg {w w' : World} {base base2 : Nat} {X Q : Nat → Prop} {v : Value} {N : List Nd} {K : List (Tok × Value)} (h : Told w base2 Q v N K) (c : Chg w w' base X) (hv : ∀ g, v.ownBlock = some g → ¬ X g) (hQ : ∀ g, Q g → ¬ X g ∧ TyN w g) : Told w' base2 Q v N K := by
  obtain ⟨Z, k, hz⟩ := c
  refine ⟨own_kp h.own k (fun g hg c => (hz g c).2.elim (hv g hg) (fun d => d (own_ty h.own hg).frm)), h.kn.kept (fun g hg hl => k.block g hl (fun c => (hz g c).2.elim (hQ g hg).1 (fun d => d (hQ g hg).2.frm))) (fun _ c => c), h.off⟩
theorem charP_ts2 (p : PS) (r : Nat) (us : List UInt8) : (charP p r us).1.length ≤ 2 := by
  have := told_len p r
  unfold charP
  repeat' split
  all_goals simp only [List.length_append, List.length_cons, List.length_nil]
  all_goals omega
theorem feed_len2 (p : PS) (bs : List UInt8) : (feedP p bs).1.length ≤ bs.length * 2 := by
  induction bs generalizing p with
  | nil => simp [feedP]
  | cons u us ih =>
    have h1 := charP_ts2 p u.toNat [u]
    simp only [feedP]
    rcases hc : charP p u.toNat [u] with ⟨t1, o1⟩
    rw [hc] at h1
    cases o1 with
    | bad B L C => simp only [List.length_cons] at h1 ⊢; omega
    | ok q =>
      have := ih q
      simp only [List.length_append, List.length_cons] at h1 ⊢
      omega
def errO2 : Out → Int
  | .ok _ => 0
  | .bad _ _ _ => 120
def plO : Out → Int
  | .ok _ => 0
  | .bad B _ _ => B
theorem told_none {w : World} {base : Nat} {P : Nat → Prop} : Told w base P (.slice none 0 0) [] [] := ⟨World.ownsRow_nil _ _ _ _, ⟨rfl, fun i h => absurd h (Nat.not_lt_zero _)⟩, (fun g hg => by cases hg)⟩
def fedB : BR → Out → List Nd × Int × RS
  | .bad s c q, _ => (s.nodes, c, .over s.opn.length c q)
  | .ok s, .bad B _ _ => (s.nodes, 120, .over s.opn.length 120 B)
  | .ok s, .ok q => (s.nodes, 0, .go s.opn q)
theorem feedF_fed {o : List Opn} {p : PS} {S : List UInt8} {ts : List Tok} {out : Out} (hf : feedP p S = (ts, out)) : feedF (.go o p) S = fedB (buildB ⟨[], o⟩ ts) out := by
  simp only [feedF, hf]
  rcases buildB ⟨[], o⟩ ts with s | ⟨s, c, q⟩
  · cases out <;> rfl
  · rfl
/-- the scanner behind a Feed -/
def scO (bs sc : Nat) (w2 : World) : Out → Prop
  | .ok q => ∃ S2, ScAt w2 bs sc S2 ∧ RelS S2 q ∧ Inv q ∧ bs ≤ w2.heap.size
  | .bad _ _ _ => True
theorem feedGo {w : World} {base b sc : Nat} {X P : Nat → Prop} {o : List Opn} {p : PS} (h : RdI w base b sc X P (.go o p)) (pc : ByteArray) (hM : MaxL w) (hsz : p.rd + pc.size ≤ 400000000) :
    Calls Tryd.prog 16 #[.pointer (some ⟨b, 0, none⟩), .string pc] w fun r w' => ∃ v, r = .returned (.tuple #[v, .int .i64 (feedF (.go o p) pc.data.toList).2.1]) ∧ FedI w w' base b sc X P v (feedF (.go o p) pc.data.toList).1 (feedF (.go o p) pc.data.toList).2.2 ∧ Chg w w' base X := by
  obtain ⟨gl, c, lv, S, bs, h1, h2, h3, h4, h5, h6, h7, h8, h9, ha, hb, hc⟩ := h
  have hpl : pc.data.toList.length = pc.size := by rw [Array.length_toList]; rfl
  rcases hf : feedP p pc.data.toList with ⟨ts, out⟩
  have hl := feed_len2 p pc.data.toList
  rw [hf, hpl] at hl
  simp only at hl
  have hfX : ∀ i, RdX b gl lv i → ¬ Scan.rows sc S.cv i := fun i hi c => scan_frm h5 c (rd_frm h1 i hi)
  have hfP : ∀ g, P g → ¬ Scan.rows sc S.cv g := fun g hg c => scan_frm h5 c (h1.ty g hg).frm
  have hYl : ∀ g, Scan.rows sc S.cv g → g < w.heap.size := fun g hg => by
    rcases hg with e | e
    · subst e; exact h5.blk.lt
    · exact (own_lt h5.own e).2
  have G := rfeed (Y := Scan.rows sc S.cv) (Ps := fun w2 => scO bs sc w2 out) h1 h2 h3 pc ts (errO2 out) (plO out) (by omega) hfX hfP hYl (fun W hW => by
    refine (feedS bs sc S p pc W (h5.kp (Kp.of (X := fun _ => False) hW) (fun _ _ c => c)) (Nat.le_trans h6 hW.size) h7 h8 (by omega) h9 ha (hM.on hW)).mono ?_
    rintro e w2 ⟨v, er, rfl, own2, k2, ho, _⟩
    rw [hf] at own2 ho
    cases out with
    | ok q =>
      obtain ⟨rfl, S2, s2, r2, i2, _⟩ := ho
      exact ⟨v, rfl, own_mono own2 (by omega), k2, fun c => absurd rfl c, S2, s2, r2, i2, Nat.le_trans h6 (Nat.le_trans hW.size k2.size)⟩
    | bad B L C =>
      obtain ⟨rfl, s2⟩ := ho
      refine ⟨v, rfl, own_mono own2 (by omega), k2, fun _ wr kr => ?_, trivial⟩
      refine (at_failed bs sc _ wr (s2.kp kr (fun i hi => scan_frm s2 hi)) rfl).mono ?_
      rintro r w' ⟨rfl, hb2⟩
      exact ⟨_, _, _, _, _, rfl, hb2⟩)
  refine G.mono ?_
  rintro r w' ⟨⟨w2, hPs, kF⟩, kz, hE⟩
  have hchg : Chg w w' base X := ⟨_, kz, fun k hk => by
    rcases hk with e | e
    · refine ⟨?_, Or.inl ((h4 k).2 e)⟩
      rcases e with e | e | ⟨x, hx, e⟩
      · omega
      · subst e; exact (own_lt h1.own rfl).1
      · exact (own_lt (h1.ok x hx) e).1
    · refine ⟨?_, Or.inr (scan_frm h5 e)⟩
      rcases e with e | e
      · omega
      · have := (own_lt h5.own e).1
        have := h5.lt
        omega⟩
  have bad : ∀ (s2 : BS) (cc qq : Int), FeedBad base b cc qq s2 w.heap.size (RdX b gl lv) P (fun v => [v, .int .i64 cc]) r w' → ∃ v, r = .returned (.tuple #[v, .int .i64 cc]) ∧ FedI w w' base b sc X P v s2.nodes (.over s2.opn.length cc qq) := by
    rintro s2 cc qq ⟨v, K, P2, rfl, t1, t2, t3, t4⟩
    refine ⟨v, rfl, K, P2, (fun k => k = b), t1, fun g hg => ⟨(t2 g hg).1, fun hl => (h4 g).2 ((t2 g hg).2 hl)⟩, ⟨t4, fun _ => Iff.rfl, hc, fun g hg => ⟨(t3 g hg).1, (t3 g hg).2.1⟩⟩, fun k hk hl => (h4 k).2 (Or.inl hk), fun g hg hl => ((t3 g hg).2.2 hl).imp id (fun c => (h4 g).2 c)⟩
  rw [feedF_fed hf]
  rcases hbb : buildB ⟨[], o⟩ ts with s2 | ⟨s2, cc, qq⟩
  · rw [hbb] at hE
    cases out with
    | ok q =>
      obtain ⟨v, K, gl2, c2, P2, lv2, rfl, t1, t2, t3, t4, t5, t6, t7⟩ := hE
      obtain ⟨S2, s2c, r2, i2, hbs⟩ := hPs
      obtain ⟨f1, f2, f3, f4, f5⟩ := feed_rd pc.data.toList h8 hf
      rw [hpl] at f2
      refine ⟨v, rfl, ⟨K, P2, RdX b gl2 lv2, t1, fun g hg => ⟨(t2 g hg).1, fun hl => (h4 g).2 ((t2 g hg).2 hl)⟩, ⟨gl2, c2, lv2, S2, bs, t3, t4, fun x hx => by have := t5 x hx; omega, fun _ => Iff.rfl, s2c.kp kF (fun i hi => scan_frm s2c hi), Nat.le_trans hbs kF.size, r2, i2, f3 h9, f4 ha, hb, hc⟩, fun k hk hl => (h4 k).2 (t6 k hk hl), fun g hg hl => (t7 g hg hl).imp id (fun c => (h4 g).2 c)⟩, hchg⟩
    | bad B L C =>
      obtain ⟨v, e1, e2⟩ := bad s2 120 B hE
      exact ⟨v, e1, e2, hchg⟩
  · rw [hbb] at hE
    obtain ⟨v, e1, e2⟩ := bad s2 cc qq hE
    exact ⟨v, e1, e2, hchg⟩
theorem endGo {w : World} {base b sc : Nat} {X P : Nat → Prop} {o : List Opn} {p : PS} (h : RdI w base b sc X P (.go o p)) (hM : MaxL w) (hsz : p.rd ≤ 400000000) :
    Calls Tryd.prog 19 #[.pointer (some ⟨b, 0, none⟩)] w fun r w' => ∃ v, r = .returned (.tuple #[v, .int .i64 (endF (.go o p)).2.1, .int .i64 (endF (.go o p)).2.2.1]) ∧ FedI w w' base b sc X P v (endF (.go o p)).1 (endF (.go o p)).2.2.2 ∧ Chg w w' base X := by
  obtain ⟨gl, c, lv, S, bs, h1, h2, h3, h4, h5, h6, h7, h8, h9, ha, hb, hc⟩ := h
  have hl := end_len p
  have hfX : ∀ i, RdX b gl lv i → ¬ Scan.rows sc S.cv i := fun i hi c => scan_frm h5 c (rd_frm h1 i hi)
  have hfP : ∀ g, P g → ¬ Scan.rows sc S.cv g := fun g hg c => scan_frm h5 c (h1.ty g hg).frm
  have hYl : ∀ g, Scan.rows sc S.cv g → g < w.heap.size := fun g hg => by
    rcases hg with e | e
    · subst e; exact h5.blk.lt
    · exact (own_lt h5.own e).2
  have G := rend (Y := Scan.rows sc S.cv) h1 h2 h3 (endP p).1 (endP p).2 p.bB (by omega) hfX hfP hYl (fun W hW => by
    refine (endS bs sc S p W (h5.kp (Kp.of (X := fun _ => False) hW) (fun _ _ c => c)) (Nat.le_trans h6 hW.size) h7 h8 (by omega) h9 (hM.on hW)).mono ?_
    rintro e w2 ⟨v, rfl, own2, k2, ⟨S2, s2, hs2⟩, _⟩
    refine ⟨v, rfl, own2, k2, fun c wr kr => ?_⟩
    obtain ⟨i1, i2, _⟩ := hs2 c
    refine (at_failed bs sc _ wr (s2.kp kr (fun i hi => scan_frm s2 hi)) i1).mono ?_
    rintro r w' ⟨rfl, hb2⟩
    exact ⟨_, _, _, _, _, by rw [i2], hb2⟩)
  refine G.mono ?_
  rintro r w' ⟨kz, hE⟩
  have hchg : Chg w w' base X := ⟨_, kz, fun k hk => by
    rcases hk with e | e
    · refine ⟨?_, Or.inl ((h4 k).2 e)⟩
      rcases e with e | e | ⟨x, hx, e⟩
      · omega
      · subst e; exact (own_lt h1.own rfl).1
      · exact (own_lt (h1.ok x hx) e).1
    · refine ⟨?_, Or.inr (scan_frm h5 e)⟩
      rcases e with e | e
      · omega
      · have := (own_lt h5.own e).1
        have := h5.lt
        omega⟩
  have bad : ∀ (s2 : BS) (cc qq : Int), FeedBad base b cc qq s2 w.heap.size (RdX b gl lv) P (fun v => [v, .int .i64 cc, .int .i64 qq]) r w' → ∃ v, r = .returned (.tuple #[v, .int .i64 cc, .int .i64 qq]) ∧ FedI w w' base b sc X P v s2.nodes (.over s2.opn.length cc qq) := by
    rintro s2 cc qq ⟨v, K, P2, rfl, t1, t2, t3, t4⟩
    refine ⟨v, rfl, K, P2, (fun k => k = b), t1, fun g hg => ⟨(t2 g hg).1, fun hl => (h4 g).2 ((t2 g hg).2 hl)⟩, ⟨t4, fun _ => Iff.rfl, hc, fun g hg => ⟨(t3 g hg).1, (t3 g hg).2.1⟩⟩, fun k hk hl => (h4 k).2 (Or.inl hk), fun g hg hl => ((t3 g hg).2.2 hl).imp id (fun c => (h4 g).2 c)⟩
  simp only [endF]
  rcases hbb : buildB ⟨[], o⟩ (endP p).1 with s2 | ⟨s2, cc, qq⟩
  · rw [hbb] at hE
    simp only [EndE] at hE ⊢
    by_cases he : (endP p).2 = 0
    · rw [if_neg (by simpa using he)] at hE ⊢
      by_cases ho : s2.opn = []
      · rw [if_neg (by simpa using ho)] at hE ⊢
        obtain ⟨v, e1, e2⟩ := bad s2 0 0 hE
        rw [ho] at e2
        exact ⟨v, e1, e2, hchg⟩
      · rw [if_pos ho] at hE ⊢
        obtain ⟨v, e1, e2⟩ := bad s2 _ _ hE
        exact ⟨v, e1, e2, hchg⟩
    · rw [if_pos he] at hE ⊢
      obtain ⟨v, e1, e2⟩ := bad s2 _ _ hE
      exact ⟨v, e1, e2, hchg⟩
  · rw [hbb] at hE
    obtain ⟨v, e1, e2⟩ := bad s2 cc qq hE
    exact ⟨v, e1, e2, hchg⟩
end Go.Proofs.YtibeiggedmabkaaDoor
