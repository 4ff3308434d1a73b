/-
  The reference's Combine.
-/
import Derived.Test.YtkflbhkcofmaoaaGreatWC3
import Derived.Test.YtkflbhkcofmaoaaGreatWOC
import Derived.Test.YtkflbhkcofmaoaaGreatWO9
import Derived.Test.YtkflbhkcofmaoaaGreatWL8
namespace Go.Proofs.YtkflbhkcofmaoaaGreat
open Go.RowKit
set_option linter.unusedVariables false
set_option linter.unusedSimpArgs false

/-- a store into the first four cells of c -/
structure Upd (w w' : World) (c : Nat) : Prop where
  size : w'.heap.size = w.heap.size
  cell : ∀ b o, (c = b → 4 ≤ o) → w'.cell? ⟨b, o, none⟩ = w.cell? ⟨b, o, none⟩
theorem four_no {w : World} {c o : Nat} {z0 z1 z2 z3 v : Value} (h : Four w c z0 z1 z2 z3) (m : w.cell? ⟨c, o, none⟩ = some v) (k0 : z0 ≠ v) (k1 : z1 ≠ v) (k2 : z2 ≠ v) (k3 : z3 ≠ v) : 4 ≤ o := by
  obtain ⟨⟨h0, h1, h2, h3⟩, _⟩ := h
  rcases Nat.lt_or_ge o 4 with hlt | hge
  · exfalso
    match o, hlt, m with
    | 0, _, m => rw [h0] at m; exact k0 (Option.some.inj m)
    | 1, _, m => rw [h1] at m; exact k1 (Option.some.inj m)
    | 2, _, m => rw [h2] at m; exact k2 (Option.some.inj m)
    | 3, _, m => rw [h3] at m; exact k3 (Option.some.inj m)
  · exact hge
theorem Upd.seg {w w' : World} {c : Nat} {z0 z1 z2 z3 : Value} (u : Upd w w' c) (h : Four w c z0 z1 z2 z3) (k0 : ∀ i, z0 ≠ .int .u32 i) (k1 : ∀ i, z1 ≠ .int .u32 i) (k2 : ∀ i, z2 ≠ .int .u32 i) (k3 : ∀ i, z3 ≠ .int .u32 i) {p : Option Addr} {X n : Nat} (hS : Seg w p X n) : Seg w' p X n := by
  refine ⟨hS.1, fun hn => ?_⟩
  obtain ⟨b, off, rfl, hl, hc⟩ := hS.2 hn
  refine ⟨b, off, rfl, by rw [u.size]; exact hl, fun i hi => ?_⟩
  have h1 := hc i hi
  rw [u.cell b (off + i) (fun e => by subst e; exact four_no h h1 (k0 _) (k1 _) (k2 _) (k3 _))]
  exact h1
theorem Upd.fat {w w' : World} {c : Nat} {z0 z1 z2 z3 : Value} (u : Upd w w' c) (h : Four w c z0 z1 z2 z3) (k0 : ∀ i, z0 ≠ .int .i64 i) (k1 : ∀ i, z1 ≠ .int .i64 i) (k2 : ∀ i, z2 ≠ .int .i64 i) (k3 : ∀ i, z3 ≠ .int .i64 i) {a : Option Addr} {L : List Mo} (hF : FAt w a L) : FAt w' a L := fun hn => by
  obtain ⟨b, off, e, hl, hc⟩ := hF hn
  refine ⟨b, off, e, by rw [u.size]; exact hl, fun i p hi => ?_⟩
  obtain ⟨m0, m1, m2, m3⟩ := hc i p hi
  have h4 : c = b → 4 ≤ off + i * 4 := fun e => by subst e; exact four_no h m0 (k0 _) (k1 _) (k2 _) (k3 _)
  refine ⟨?_, ?_, ?_, ?_⟩
  · rw [u.cell _ _ h4]; exact m0
  · rw [u.cell _ _ (fun e => by have := h4 e; omega)]; exact m1
  · rw [u.cell _ _ (fun e => by have := h4 e; omega)]; exact m2
  · rw [u.cell _ _ (fun e => by have := h4 e; omega)]; exact m3
theorem Upd.ents {w w' : World} {c : Nat} {z0 z1 z2 z3 : Value} (u : Upd w w' c) (h : Four w c z0 z1 z2 z3) (k0 : ∀ i, z0 ≠ .int .u32 i) (k1 : ∀ i, z1 ≠ .int .u32 i) (k2 : ∀ i, z2 ≠ .int .u32 i) (k3 : ∀ i, z3 ≠ .int .u32 i) {R : List Mo} (hE : Ents w R) : Ents w' R := fun p hp =>
  ⟨⟨u.seg h k0 k1 k2 k3 (hE p hp).ok.1, (hE p hp).ok.2.1, (hE p hp).ok.2.2.1, u.seg h k0 k1 k2 k3 (hE p hp).ok.2.2.2.1, (hE p hp).ok.2.2.2.2.1, (hE p hp).ok.2.2.2.2.2⟩, (hE p hp).low⟩
theorem set_far {w : World} {c i b o : Nat} {u : Value} (hi : i < 4) (h : c = b → 4 ≤ o) : (w.setCell ⟨c, i, none⟩ u).cell? ⟨b, o, none⟩ = w.cell? ⟨b, o, none⟩ :=
  World.cell?_setCell_other _ _ _ _ (fun e => by simp at e; have := h (by first | exact e.1 | exact e.1.symm); omega)
theorem upd1 (w : World) (c : Nat) (u0 : Value) : Upd w (w.setCell ⟨c, 0, none⟩ u0) c := ⟨World.size_setCell _ _ _, fun b o h => set_far (by omega) h⟩
theorem upd3 (w : World) (c : Nat) (u1 u2 u3 : Value) : Upd w (((w.setCell ⟨c, 1, none⟩ u1).setCell ⟨c, 2, none⟩ u2).setCell ⟨c, 3, none⟩ u3) c :=
  ⟨by rw [World.size_setCell, World.size_setCell, World.size_setCell], fun b o h => by rw [set_far (by omega) h, set_far (by omega) h, set_far (by omega) h]⟩
theorem Four.put1 {w : World} {c : Nat} {u0 z0 z1 z2 z3 : Value} (h : Four w c z0 z1 z2 z3) : Four (w.setCell ⟨c, 0, none⟩ u0) c u0 z1 z2 z3 := by
  obtain ⟨⟨h0, h1, h2, h3⟩, hR⟩ := h
  refine ⟨⟨World.cell?_setCell_same _ _ _ h0, ?_, ?_, ?_⟩, hR.setCell _ _⟩
  · rw [World.cell?_setCell_other _ _ _ _ (fun e => by simp at e)]; exact h1
  · rw [World.cell?_setCell_other _ _ _ _ (fun e => by simp at e)]; exact h2
  · rw [World.cell?_setCell_other _ _ _ _ (fun e => by simp at e)]; exact h3
theorem Four.put3' {w : World} {c : Nat} {u1 u2 u3 z0 z1 z2 z3 : Value} (h : Four w c z0 z1 z2 z3) : Four (((w.setCell ⟨c, 1, none⟩ u1).setCell ⟨c, 2, none⟩ u2).setCell ⟨c, 3, none⟩ u3) c z0 u1 u2 u3 := by
  obtain ⟨⟨h0, h1, h2, h3⟩, hR⟩ := h
  have a2 : (w.setCell ⟨c, 1, none⟩ u1).cell? ⟨c, 2, none⟩ = some z2 := by rw [World.cell?_setCell_other _ _ _ _ (fun e => by simp at e)]; exact h2
  have a3 : ((w.setCell ⟨c, 1, none⟩ u1).setCell ⟨c, 2, none⟩ u2).cell? ⟨c, 3, none⟩ = some z3 := by rw [World.cell?_setCell_other _ _ _ _ (fun e => by simp at e), World.cell?_setCell_other _ _ _ _ (fun e => by simp at e)]; exact h3
  refine ⟨⟨?_, ?_, ?_, ?_⟩, ((hR.setCell _ _).setCell _ _).setCell _ _⟩
  · rw [World.cell?_setCell_other _ _ _ _ (fun e => by simp at e), World.cell?_setCell_other _ _ _ _ (fun e => by simp at e), World.cell?_setCell_other _ _ _ _ (fun e => by simp at e)]; exact h0
  · rw [World.cell?_setCell_other _ _ _ _ (fun e => by simp at e), World.cell?_setCell_other _ _ _ _ (fun e => by simp at e)]; exact World.cell?_setCell_same _ _ _ h1
  · rw [World.cell?_setCell_other _ _ _ _ (fun e => by simp at e)]
    exact World.cell?_setCell_same _ _ _ a2
  · exact World.cell?_setCell_same _ _ _ a3
/-! ### How long the sums are -/
theorem flat_sz (k : Nat → Wtd) (n : Nat) (x : Int) : sz (fb k n + 1) (co x (flat k n)) := by
  obtain ⟨l, e, hl⟩ := flat_seg k x n 0 (flat k n).length
  rw [List.drop_zero, List.take_length] at e
  rw [e]
  exact (co_sz 0 l).mono (by omega)
theorem cst_seg {w : World} {k : Nat → Wtd} : ∀ n, (∀ i, i < n → (k i).ok w) → ∃ l : Fo, cst k n = co 0 l ∧ wts l ≤ cb k n
  | 0, _ => ⟨[], rfl, Nat.le_refl _⟩
  | n + 1, h => by
    obtain ⟨l, e, hl⟩ := cst_seg n fun i hi => h i (by omega)
    refine ⟨l ++ [(0, (k n).C.val * (k n).D.val)], ?_, ?_⟩
    · rw [co_append]
      simp only [co, cst, if_true]
      rw [e, Rat.add_zero]
    · rw [wts_append]
      have := mul_wt (h n (by omega)).coef (h n (by omega)).con
      simp only [wts, cb]
      omega
theorem cst_sz {w : World} {k : Nat → Wtd} {n : Nat} (h : ∀ i, i < n → (k i).ok w) : sz (cb k n + 1) (cst k n) := by
  obtain ⟨l, e, hl⟩ := cst_seg n h
  rw [e]
  exact (co_sz 0 l).mono (by omega)
theorem nfm_two (l m : Fo) : nfm (nfm l ++ nfm m) = nfm (l ++ m) := nfm_uniq (nfm_nrm _) fun x => by rw [nfm_co, co_append, nfm_co, nfm_co, co_append]
/-- what the reference's loop keeps -/
def CoInv (wA : World) (c : Nat) (k : Nat → Wtd) (j : Nat) (wr : World) : Prop :=
  ∃ (a : Option Addr) (ca : Nat) (R : List Mo) (p q : Option Addr), Four wr c (.slice a R.length ca) (.bool (ng (cst k j).num)) (.slice p (ln (am (cst k j).num)) (ln (am (cst k j).num))) (.slice q (ln (cst k j).den) (ln (cst k j).den)) ∧ Below wA.heap.size wA wr ∧ Sl wr a ca R ∧ Ents wr R ∧ fo R = nfm (flat k j) ∧ Seg wr p (am (cst k j).num) (ln (am (cst k j).num)) ∧ Seg wr q (cst k j).den (ln (cst k j).den)
theorem scale_step {w w' : World} {k : Nat → Wtd} {n j : Nat} (hj : j < n) (hok : ∀ i, i < n → (k i).ok w) (hb : bulkW k n ≤ 2097152) (hb9 : Below w.heap.size w w') :
    Calls Tryz.prog 25 #[.agg #[.bool (k j).C.s, .slice (k j).C.a (k j).C.n (k j).C.c, .slice (k j).C.b (k j).C.m (k j).C.e], .slice (k j).a (k j).L.length (k j).c] w' (FAns w' (nfm (fmap (fun r => (k j).C.val * r) (fo (k j).L)))) := by
  have h := hok j hj
  have hB := bulkW_at (k := k) n j hj
  unfold Wtd.bulk at hB
  have h2 := bulkL_len (k j).L
  have h3 := wts_bulk (k j).L h.parts
  obtain ⟨c1, c2⟩ := norm_sz h.coef
  have hfi : fine (fmap (fun r => (k j).C.val * r) (fo (k j).L)) := fine_scale (N := 2097153) ⟨by omega, by omega⟩ (by omega)
  have h' := h.later hb9
  exact vlScaleF_is (k j).C (k j).a (k j).c (k j).L 20000000 w' h'.form h'.parts h.len (by omega) h'.coef (fun p hp => by have := bulkL_mem hp; omega) (by omega) (by omega) (fun i x => by have h := hfi 0 i x; rwa [List.drop_zero] at h)
theorem add_step {w w' : World} {k : Nat → Wtd} {n j : Nat} (hj : j < n) (hok : ∀ i, i < n → (k i).ok w) (hb : bulkW k n ≤ 2097152) (a : Option Addr) (ca : Nat) (R : List Mo) (b : Option Addr) (c2 : Nat) (R5 : List Mo) (sa : Sl w' a ca R) (sb : Sl w' b c2 R5) (ea : Ents w' R) (eb : Ents w' R5) (fa : fo R = nfm (flat k j)) (fb5 : fo R5 = nfm (fmap (fun r => (k j).C.val * r) (fo (k j).L))) :
    Calls Tryz.prog 24 #[.slice a R.length ca, .slice b R5.length c2] w' (FAns w' (nfm (flat k (j + 1)))) := by
  have h := hok j hj
  have hB := bulkW_at (k := k) n j hj
  unfold Wtd.bulk at hB
  have h2 := bulkL_len (k j).L
  have h3 := wts_bulk (k j).L h.parts
  obtain ⟨c1, c2'⟩ := norm_sz h.coef
  have hC : sz 2097153 (k j).C.val := ⟨by omega, by omega⟩
  have hs1 : ∀ y, sz 8388610 (co y (fmap (fun r => (k j).C.val * r) (fo (k j).L))) := fun y => by rw [co_scale]; exact (sz_mul hC (co_sz y (fo (k j).L))).mono (by omega)
  have hs0 : ∀ y, sz 10485761 (co y (flat k j)) := fun y => (flat_sz k j y).mono (by have := fb_le (w := w) j fun i hi => hok i (by omega); have := bulkW_mono (k := k) (Nat.le_of_lt hj); omega)
  have hl : R.length + R5.length ≤ 1048576 := by
    have l1 := nfm_length (flat k j)
    have l2 := nfm_length (fmap (fun r => (k j).C.val * r) (fo (k j).L))
    rw [← fa, fo_length] at l1
    rw [← fb5, fo_length, fmap_length, fo_length] at l2
    have l3 := flat_len (k := k) (j + 1)
    simp only [flat, List.length_append] at l3
    rw [fmap_length, fo_length] at l3
    have := bulkW_mono (k := k) (i := j + 1) (n := n) hj
    omega
  have h9 := vlAddF_is a ca R b c2 R5 w' sa sb (fun p hp => ⟨(ea p hp).ok, by have := ent_nsP ea fa hs0 p hp; omega⟩) (fun p hp => ⟨(eb p hp).ok, by have := ent_nsP eb fb5 hs1 p hp; omega⟩) hl
    (fun i y => (fine_two (N := 10485761) (M := 8388610) (fun i y => by rw [fa]; exact nrm_take (nfm_nrm _) (fun y => by rw [nfm_co]; exact hs0 y) (by omega) i y) (by rw [fb5]; exact nfm_nrm _) (fun y => by rw [fb5, nfm_co]; exact hs1 y) (by omega) i y).mono (by omega))
  rw [fa, fb5, nfm_two] at h9
  exact h9
theorem mul_step {w w' : World} {k : Nat → Wtd} {n j : Nat} (hj : j < n) (hok : ∀ i, i < n → (k i).ok w) (hb : bulkW k n ≤ 2097152) (hb9 : Below w.heap.size w w') :
    Calls Tryz.prog 26 #[.agg #[.bool (k j).C.s, .slice (k j).C.a (k j).C.n (k j).C.c, .slice (k j).C.b (k j).C.m (k j).C.e], .agg #[.bool (k j).D.s, .slice (k j).D.a (k j).D.n (k j).D.c, .slice (k j).D.b (k j).D.m (k j).D.e]] w' (BAns w' ((k j).C.val * (k j).D.val)) := by
  have h := (hok j hj).later hb9
  have hB := bulkW_at (k := k) n j hj
  unfold Wtd.bulk at hB
  refine (vqMul_is (k j).C.s (k j).C.a (k j).C.n (k j).C.c (k j).C.X (k j).C.b (k j).C.m (k j).C.e (k j).C.Y (k j).D.s (k j).D.a (k j).D.n (k j).D.c (k j).D.X (k j).D.b (k j).D.m (k j).D.e (k j).D.Y _ _ w' h.coef.2.1 (by omega) h.coef.1 h.coef.2.2.2.2.1 (by omega) h.coef.2.2.2.1 h.con.2.1 (by omega) h.con.1 h.con.2.2.2.2.1 (by omega) h.con.2.2.2.1 (low_mul (k j).C (k j).D)).mono ?_
  rintro e w2 ⟨p, q, rfl, n1, n2⟩
  exact ⟨p, q, rfl, n1.below, n1.seg, n2.seg⟩
theorem sum_step {w w' : World} {k : Nat → Wtd} {n j : Nat} (hj : j < n) (hok : ∀ i, i < n → (k i).ok w) (hb : bulkW k n ≤ 2097152) (p q p1 q1 : Option Addr)
    (k1 : Seg w' p (am (cst k j).num) (ln (am (cst k j).num))) (k2 : Seg w' q (cst k j).den (ln (cst k j).den)) (k3 : Seg w' p1 (am ((k j).C.val * (k j).D.val).num) (ln (am ((k j).C.val * (k j).D.val).num))) (k4 : Seg w' q1 ((k j).C.val * (k j).D.val).den (ln ((k j).C.val * (k j).D.val).den)) :
    Calls Tryz.prog 13 #[.agg #[.bool (ng (cst k j).num), .slice p (ln (am (cst k j).num)) (ln (am (cst k j).num)), .slice q (ln (cst k j).den) (ln (cst k j).den)], .agg #[.bool (ng ((k j).C.val * (k j).D.val).num), .slice p1 (ln (am ((k j).C.val * (k j).D.val).num)) (ln (am ((k j).C.val * (k j).D.val).num)), .slice q1 (ln ((k j).C.val * (k j).D.val).den) (ln ((k j).C.val * (k j).D.val).den)]] w' (BAns w' (cst k (j + 1))) := by
  have hs : sz 10485761 (cst k j) := (cst_sz (w := w) fun i hi => hok i (by omega)).mono (by have := cb_le (k := k) j; have := bulkW_mono (k := k) (Nat.le_of_lt hj); omega)
  have h := hok j hj
  have hB := bulkW_at (k := k) n j hj
  unfold Wtd.bulk at hB
  have hm := mul_wt h.coef h.con
  have ht : sz 10485761 ((k j).C.val * (k j).D.val) := by
    unfold wt at hm
    exact ⟨by omega, by omega⟩
  show Calls _ _ _ _ (BAns w' (cst k j + (k j).C.val * (k j).D.val))
  generalize (k j).C.val * (k j).D.val = t at *
  generalize cst k j = r at *
  refine (vqAdd_is (ng r.num) p (ln (am r.num)) (ln (am r.num)) (am r.num) q (ln r.den) (ln r.den) r.den (ng t.num) p1 (ln (am t.num)) (ln (am t.num)) (am t.num) q1 (ln t.den) (ln t.den) t.den (r + t).num (r + t).den w' (Nat.le_refl _) (Nat.le_trans hs.1 (by omega)) k1 (Nat.le_refl _) (Nat.le_trans hs.2 (by omega)) k2 (Nat.le_refl _) (Nat.le_trans ht.1 (by omega)) k3 (Nat.le_refl _) (Nat.le_trans ht.2 (by omega)) k4 (by have h := low_add (RatV.of r.num r.den p q) (RatV.of t.num t.den p1 q1); rw [val_ofR, val_ofR] at h; exact h)).mono ?_
  rintro e w' ⟨p', q', rfl, n1, n2⟩
  exact ⟨p', q', rfl, n1.below, n1.seg, n2.seg⟩
end Go.Proofs.YtkflbhkcofmaoaaGreat

namespace Go.Proofs.YtkflbhkcofmaoaaGreat
open Go.RowKit
set_option linter.unusedVariables false
set_option linter.unusedSimpArgs false
theorem nfm_nil : nfm [] = [] := (nfm_self (l := []) (by simp [nrm])).symm
set_option maxHeartbeats 8000000 in
set_option maxRecDepth 100000 in
theorem vlCombine_is (a : Option Addr) (n cap : Nat) (k : Nat → Wtd) (w : World) (hA : WtsAt w a n k) (hok : ∀ i, i < n → (k i).ok w) (hc : n ≤ cap) (hb : bulkW k n ≤ 2097152) :
    Calls Tryz.prog 7 #[.slice a n cap] w (AfAns w (nfm (flat k n)) (cst k n)) := by
  have hn := bulkW_n (k := k) n
  have GS := hide' (fun j (hj : j < n) w' (hb9 : Below w.heap.size w w') => scale_step hj hok hb hb9)
  have GA := hide' (fun j (hj : j < n) w' a ca R b c2 R5 sa sb ea eb fa fb5 => add_step (w := w) (w' := w') hj hok hb a ca R b c2 R5 sa sb ea eb fa fb5)
  have GM := hide' (fun j (hj : j < n) w' (hb9 : Below w.heap.size w w') => mul_step hj hok hb hb9)
  have GT := hide' (fun j (hj : j < n) w' p q p1 q1 k1 k2 k3 k4 => sum_step (w := w) (w' := w') hj hok hb p q p1 q1 k1 k2 k3 k4)
  have HA := hide' hA
  obtain ⟨TT, hTT⟩ : ∃ TT, AfAns w (nfm (flat k n)) (cst k n) = TT := ⟨_, rfl⟩
  rw [hTT]
  replace hTT := hide' hTT
  clear hA hok
  go_enter Tryz.func7, Tryz.ntmps7
  go_wp2_with fail
  obtain ⟨wA, hwA⟩ : ∃ wA, w.alloc (.cells #[.slice none 0 0, .bool false, .slice none 0 0, .slice none 0 0] 33) = wA := ⟨_, rfl⟩
  have bA : Below w.heap.size w wA := by subst hwA; exact below_alloc _
  have rA : Four wA w.heap.size (.slice none 0 0) (.bool false) (.slice none 0 0) (.slice none 0 0) := by subst hwA; exact four_new w _ _ _ _ 33
  have lA : w.heap.size < wA.heap.size := rA.2.lt
  rw [hwA]
  clear hwA
  refine (vlzero_is _).mono ?_
  rintro e w1 ⟨p, q, rfl, n1, n2⟩
  have b1 := n1.below
  have bN := below_alloc (w := w1) (.cells #[.slice none 0 0, .bool false, .slice p 0 0, .slice q 1 1] 33)
  have I0 : CoInv wA w1.heap.size k 0 (w1.alloc (.cells #[.slice none 0 0, .bool false, .slice p 0 0, .slice q 1 1] 33)) := by
    refine ⟨none, 0, [], p, q, ?_, b1.trans (bN.mono b1.size), ⟨FAt.nil _ _, Nat.le_refl _, fun _ => rfl⟩, fun p hp => absurd hp (by simp), by rw [show flat k 0 = [] from rfl, nfm_nil]; rfl, ?_, ?_⟩
    · rw [show cst k 0 = 0 from rfl, show ng (0 : Rat).num = false from rfl, show ln (am (0 : Rat).num) = 0 from ln_zero, show ln (0 : Rat).den = 1 from ln_one]
      exact four_new w1 _ _ _ _ 33
    · rw [show cst k 0 = 0 from rfl, show ln (am (0 : Rat).num) = 0 from ln_zero]; exact n1.seg.later bN
    · rw [show cst k 0 = 0 from rfl, show ln (0 : Rat).den = 1 from ln_one]; exact n2.seg.later bN
  have lc : wA.heap.size ≤ w1.heap.size := b1.size
  go_wp2_with fail
  obtain ⟨wS, hwS⟩ : ∃ wS, w1.alloc (.cells #[.slice none 0 0, .bool false, .slice p 0 0, .slice q 1 1] 33) = wS := ⟨_, rfl⟩
  rw [hwS] at I0 ⊢
  clear hwS bN b1 n1 n2
  obtain ⟨c, hcc⟩ : ∃ c, w1.heap.size = c := ⟨_, rfl⟩
  rw [hcc] at I0 lc ⊢
  clear hcc
  go_loopw [4] (fun vi wr => ∃ j : Nat, j ≤ n ∧ vi = .int .i64 j ∧ CoInv wA c k j wr) (fun vi _ => n - (intOf vi).toNat)
  case atStart => exact ⟨0, Nat.zero_le _, rfl, I0⟩
  case round =>
    clear I0
    obtain ⟨j, hj, rfl, af, cf, R, p, q, fB, hB, sR, ER, fR, g1, g2⟩ := hrel
    have hBw := bA.trans (hB.mono bA.size)
    by_cases hlt : j < n
    · obtain ⟨bb, off, rfl, hbb, hcell⟩ := HA.out (by omega)
      have hcj := hcell j hlt
      have S1 := hide' (fun w' hb9 => GS.out j hlt w' hb9)
      have A1 := hide' (fun w' a ca R b c2 R5 sa sb ea eb fa fb5 => GA.out j hlt w' a ca R b c2 R5 sa sb ea eb fa fb5)
      have M1 := hide' (fun w' hb9 => GM.out j hlt w' hb9)
      have T1 := hide' (fun w' p q p1 q1 k1 k2 k3 k4 => GT.out j hlt w' p q p1 q1 k1 k2 k3 k4)
      obtain ⟨s1, hs1⟩ : ∃ s, cst k (j + 1) = s := ⟨_, rfl⟩
      rw [hs1] at T1
      obtain ⟨s, hs⟩ : ∃ s, cst k j = s := ⟨_, rfl⟩
      rw [hs] at T1 fB g1 g2
      obtain ⟨W, hW⟩ : ∃ W, k j = W := ⟨_, rfl⟩
      rw [hW] at hcj S1 A1 M1 T1
      obtain ⟨t, ht⟩ : ∃ t, W.C.val * W.D.val = t := ⟨_, rfl⟩
      rw [ht] at M1 T1
      replace hs1 := hide' hs1
      obtain ⟨e0, e1, e2, e3, e4, e5, e6⟩ := hcj
      rw [Nat.add_zero] at e0
      clear hcell GS GA GM GT HA hs hW ht
      have j0 : (0 : Int) ≤ (j : Int) := by omega
      have j1 : (j : Int) < (n : Int) := by omega
      have d0 := below_cell hBw e0
      have d4 := below_cell hBw e4
      have d5 := below_cell hBw e5
      have d6 := below_cell hBw e6
      have z0 := fB.1.1
      go_upto_region 5 with fail
      go_cut [3] from 13 to 28 (fun s3 wx => ∃ wv a6 c6 R6, wv = wx ∧ s3 = .pointer (some ⟨c, 0, none⟩) ∧ Four wx c (.slice a6 (R6 : List Mo).length c6) (.bool (ng s.num)) (.slice p (ln (am s.num)) (ln (am s.num))) (.slice q (ln s.den) (ln s.den)) ∧ Below wA.heap.size wA wx ∧ Below w.heap.size w wx ∧ Sl wx a6 c6 R6 ∧ Ents wx R6 ∧ fo R6 = nfm (flat k (j + 1)) ∧ Seg wx p (am s.num) (ln (am s.num)) ∧ Seg wx q s.den (ln s.den))
      case first =>
        have bD : Below wr.heap.size wr wr.drew := (Below.refl _ _).drew
        have kd0 := below_cell bD d0
        have kd4 := below_cell bD d4
        have kd5 := below_cell bD d5
        have kd6 := below_cell bD d6
        replace hB := hB.trans (bD.mono hB.size)
        replace hBw := hBw.trans (bD.mono hBw.size)
        replace fB := fB.later bD
        replace sR := sR.later bD
        replace ER := ER.later bD
        replace g1 := g1.later bD
        replace g2 := g2.later bD
        replace z0 := below_cell bD z0
        refine wp_region_held_drew (S := fun w' => w'.cell? ⟨bb, off + j * 7, none⟩ = some (.slice W.a W.L.length W.c) ∧ w'.cell? ⟨bb, off + j * 7 + 4, none⟩ = some (.bool W.C.s) ∧ w'.cell? ⟨bb, off + j * 7 + 5, none⟩ = some (.slice W.C.a W.C.n W.C.c) ∧ w'.cell? ⟨bb, off + j * 7 + 6, none⟩ = some (.slice W.C.b W.C.m W.C.e)) (by kernel_rfl) ⟨kd0, kd4, kd5, kd6⟩ (fun hHeld => ?_)
        clear kd0 kd4 kd5 kd6
        generalize wr.drew = w10 at bD fB sR ER g1 g2 z0 hB hBw hHeld ⊢
        clear bD d0 d4 d5 d6
        refine take' 0 (v := ?_) rfl (by kernel_rfl) (by kernel_rfl) (by kernel_rfl) (fun _ _ _ h => h) (Or.inl ⟨by rfl, ?_⟩) (by assumption) ?_
        rotate_left
        · intro w9 hSw
          go_simp
          first | done | with_reducible rfl
        simp only [Act.put, List.setIfInBounds_toArray, List.set_cons_zero, List.set_cons_succ]
        refine take' 2 (v := ?_) rfl (by kernel_rfl) (by kernel_rfl) (by kernel_rfl) (fun _ _ _ h => h) (Or.inl ⟨by rfl, ?_⟩) (by assumption) ?_
        rotate_left
        · intro w9 hSw
          go_simp
          first | done | with_reducible rfl
        simp only [Act.put, List.setIfInBounds_toArray, List.set_cons_zero, List.set_cons_succ]
        refine take' 3 (v := ?_) rfl (by kernel_rfl) (by kernel_rfl) (by kernel_rfl) (fun _ _ _ h => h) (Or.inl ⟨by rfl, ?_⟩) (by assumption) ?_
        rotate_left
        · intro w9 hSw
          go_simp
          first | done | with_reducible rfl
        simp only [Act.put, List.setIfInBounds_toArray, List.set_cons_zero, List.set_cons_succ]
        refine take' 4 (v := ?_) rfl (by kernel_rfl) (by kernel_rfl) (by kernel_rfl) (fun _ _ _ h => h) (Or.inl ⟨by rfl, ?_⟩) (by assumption) ?_
        rotate_left
        · intro w9 hSw
          go_simp
          first | done | with_reducible rfl
        simp only [Act.put, List.setIfInBounds_toArray, List.set_cons_zero, List.set_cons_succ]
        refine take' 5 (v := ?_) rfl (by kernel_rfl) (by kernel_rfl) (by kernel_rfl) (fun _ _ _ h => h) (Or.inl ⟨by rfl, ?_⟩) (by assumption) ?_
        rotate_left
        · intro w9 hSw
          go_simp
          first | done | with_reducible rfl
        simp only [Act.put, List.setIfInBounds_toArray, List.set_cons_zero, List.set_cons_succ]
        refine take' 6 (v := ?_) rfl (by kernel_rfl) (by kernel_rfl) (by kernel_rfl) (fun _ _ _ h => h) (Or.inl ⟨by rfl, ?_⟩) (by assumption) ?_
        rotate_left
        · intro w9 hSw
          go_simp
          first | done | with_reducible rfl
        simp only [Act.put, List.setIfInBounds_toArray, List.set_cons_zero, List.set_cons_succ]
        refine take' 7 (v := ?_) rfl (by kernel_rfl) (by kernel_rfl) (by kernel_rfl) (fun _ _ _ h => h) (Or.inl ⟨by rfl, ?_⟩) (by assumption) ?_
        rotate_left
        · intro w9 hSw
          go_simp
          first | done | with_reducible rfl
        simp only [Act.put, List.setIfInBounds_toArray, List.set_cons_zero, List.set_cons_succ]
        refine take' 8 (v := ?_) rfl (by kernel_rfl) (by kernel_rfl) (by kernel_rfl) (fun _ _ _ h => h) (Or.inl ⟨by rfl, ?_⟩) (by assumption) ?_
        rotate_left
        · intro w9 hSw
          go_simp
          first | done | with_reducible rfl
        simp only [Act.put, List.setIfInBounds_toArray, List.set_cons_zero, List.set_cons_succ]
        refine take' 9 (v := ?_) rfl (by kernel_rfl) (by kernel_rfl) (by kernel_rfl) (fun _ _ _ h => h) (Or.inl ⟨by rfl, ?_⟩) (by assumption) ?_
        rotate_left
        · intro w9 hSw
          go_simp
          first | done | with_reducible rfl
        simp only [Act.put, List.setIfInBounds_toArray, List.set_cons_zero, List.set_cons_succ]
        refine take' 10 (v := ?_) rfl (by kernel_rfl) (by kernel_rfl) (by kernel_rfl) (fun _ _ _ h => h) (Or.inl ⟨by rfl, ?_⟩) (by assumption) ?_
        rotate_left
        · intro w9 hSw
          go_simp
          first | done | with_reducible rfl
        simp only [Act.put, List.setIfInBounds_toArray, List.set_cons_zero, List.set_cons_succ]
        refine take' 11 (v := ?_) rfl (by kernel_rfl) (by kernel_rfl) (by kernel_rfl) (fun _ _ _ h => h) (Or.inl ⟨by rfl, ?_⟩) (by assumption) ?_
        rotate_left
        · intro w9 hSw
          go_simp
          first | done | with_reducible rfl
        simp only [Act.put, List.setIfInBounds_toArray, List.set_cons_zero, List.set_cons_succ]
        refine take' 12 (v := ?_) rfl (by kernel_rfl) (by kernel_rfl) (by kernel_rfl) (fun _ _ _ h => h) (Or.inl ⟨by rfl, ?_⟩) (by assumption) ?_
        rotate_left
        · intro w9 hSw
          go_simp
          first | done | with_reducible rfl
        simp only [Act.put, List.setIfInBounds_toArray, List.set_cons_zero, List.set_cons_succ]
        refine wpAnyH_ready (rs := [1, 13]) (by kernel_rfl) (by simp) ?_
        refine consT rfl (fun KK hKK => ?_) ?_
        · skip
          go_simp
          refine hKK.out _ _ hHeld ?_
          clear hHeld
          intro hHeld
          clear hKK KK
          try simp only [Act.put, List.setIfInBounds_toArray, List.set_cons_zero, List.set_cons_succ]
          refine wpAnyH_ready (rs := [13]) (by kernel_rfl) (by simp) ?_
          refine cons' rfl (fun KK hKK => ?_)
          go_simp
          refine (S1.out _ hBw).mono ?_
          rintro e w11 ⟨a5, c5, R5, rfl, b5, s5, e5, f5⟩
          have bC := b5
          replace hB := hB.trans (bC.mono hB.size)
          replace hBw := hBw.trans (bC.mono hBw.size)
          replace fB := fB.later bC
          replace sR := sR.later bC
          replace ER := ER.later bC
          replace g1 := g1.later bC
          replace g2 := g2.later bC
          replace z0 := below_cell bC z0
          replace hHeld := (⟨below_cell bC hHeld.1, below_cell bC hHeld.2.1, below_cell bC hHeld.2.2.1, below_cell bC hHeld.2.2.2⟩ : _ ∧ _ ∧ _ ∧ _)
          clear bC
          go_wp2_with fail
          have E5 : Ents w11 R5 := e5
          clear e5 b5
          refine hKK.out _ _ hHeld ?_
          clear hHeld
          intro hHeld
          clear hKK KK
          try simp only [Act.put, List.setIfInBounds_toArray, List.set_cons_zero, List.set_cons_succ]
          refine wpAnyH_ready (rs := [14]) (by kernel_rfl) (by simp) ?_
          refine cons' rfl (fun KK hKK => ?_)
          go_simp
          refine (A1.out _ af cf R a5 c5 R5 sR s5 ER E5 fR f5).mono ?_
          rintro e w12 ⟨a6, c6, R6, rfl, b6, s6, e6, f6⟩
          have bC := b6
          replace hB := hB.trans (bC.mono hB.size)
          replace hBw := hBw.trans (bC.mono hBw.size)
          replace fB := fB.later bC
          replace sR := sR.later bC
          replace ER := ER.later bC
          replace g1 := g1.later bC
          replace g2 := g2.later bC
          replace s5 := s5.later bC
          replace E5 := E5.later bC
          replace z0 := below_cell bC z0
          replace hHeld := (⟨below_cell bC hHeld.1, below_cell bC hHeld.2.1, below_cell bC hHeld.2.2.1, below_cell bC hHeld.2.2.2⟩ : _ ∧ _ ∧ _ ∧ _)
          clear bC
          go_wp2_with fail
          have E6 : Ents w12 R6 := e6
          clear e6 b6 sR s5 ER E5
          refine hKK.out _ _ hHeld ?_
          clear hHeld
          intro hHeld
          clear hKK KK
          try simp only [Act.put, List.setIfInBounds_toArray, List.set_cons_zero, List.set_cons_succ]
          refine take' 15 (v := ?_) rfl (by kernel_rfl) (by kernel_rfl) (by kernel_rfl) (fun _ _ _ h => h) (Or.inl ⟨by rfl, ?_⟩) (by assumption) ?_
          rotate_left
          · intro w9 hSw
            go_simp
            first | done | with_reducible rfl
          simp only [Act.put, List.setIfInBounds_toArray, List.set_cons_zero, List.set_cons_succ]
          refine wpAnyH_ready (rs := [16]) (by kernel_rfl) (by simp) ?_
          refine cons' rfl (fun KK hKK => ?_)
          have fz := fun o => fB.2.frozen o
          have u9 := upd1 w12 c (.slice a6 R6.length c6)
          replace g1 := u9.seg fB (by simp) (by simp) (by simp) (by simp) g1
          replace g2 := u9.seg fB (by simp) (by simp) (by simp) (by simp) g2
          have s7 : Sl _ a6 c6 R6 := ⟨u9.fat fB (by simp) (by simp) (by simp) (by simp) s6.lies, s6.len, s6.nn⟩
          have E7 := u9.ents fB (by simp) (by simp) (by simp) (by simp) E6
          have hB7 : Below wA.heap.size wA (w12.setCell ⟨c, 0, none⟩ (.slice a6 R6.length c6)) := hB.setCell lc _
          have hBw7 : Below w.heap.size w (w12.setCell ⟨c, 0, none⟩ (.slice a6 R6.length c6)) := hBw.setCell (show w.heap.size ≤ c by omega) _
          have hH2 := (⟨(u9.cell bb (off + j * 7) (fun e => by omega)).trans hHeld.1, (u9.cell bb (off + j * 7 + 4) (fun e => by omega)).trans hHeld.2.1, (u9.cell bb (off + j * 7 + 5) (fun e => by omega)).trans hHeld.2.2.1, (u9.cell bb (off + j * 7 + 6) (fun e => by omega)).trans hHeld.2.2.2⟩ : _ ∧ _ ∧ _ ∧ _)
          have pB := fB.put1 (u0 := .slice a6 R6.length c6)
          go_simp
          clear z0 fz fB s6 E6 u9 hB hBw
          obtain ⟨w13, hw9⟩ : ∃ w9, w12.setCell ⟨c, 0, none⟩ (.slice a6 R6.length c6) = w9 := ⟨_, rfl⟩
          rw [hw9] at g1 g2 s7 E7 hB7 hBw7 hH2 pB ⊢
          clear hw9
          refine hKK.out _ _ hH2 ?_
          clear hHeld
          intro hHeld
          clear hKK KK
          try simp only [Act.put, List.setIfInBounds_toArray, List.set_cons_zero, List.set_cons_succ]
          clear hH2
          refine wpAnyH_done (by kernel_rfl) ?_ _
          go_wp2_with fail
          go_meet
          exact ⟨_, a6, c6, R6, rfl, rfl, pB, hB7, hBw7, s7, E7, f6, g1, g2⟩
        refine consT rfl (fun KK hKK => ?_) ?_
        · skip
          go_simp
          refine (S1.out _ hBw).mono ?_
          rintro e w11 ⟨a5, c5, R5, rfl, b5, s5, e5, f5⟩
          have bC := b5
          replace hB := hB.trans (bC.mono hB.size)
          replace hBw := hBw.trans (bC.mono hBw.size)
          replace fB := fB.later bC
          replace sR := sR.later bC
          replace ER := ER.later bC
          replace g1 := g1.later bC
          replace g2 := g2.later bC
          replace z0 := below_cell bC z0
          replace hHeld := (⟨below_cell bC hHeld.1, below_cell bC hHeld.2.1, below_cell bC hHeld.2.2.1, below_cell bC hHeld.2.2.2⟩ : _ ∧ _ ∧ _ ∧ _)
          clear bC
          go_wp2_with fail
          have E5 : Ents w11 R5 := e5
          clear e5 b5
          refine hKK.out _ _ hHeld ?_
          clear hHeld
          intro hHeld
          clear hKK KK
          try simp only [Act.put, List.setIfInBounds_toArray, List.set_cons_zero, List.set_cons_succ]
          refine wpAnyH_ready (rs := [1]) (by kernel_rfl) (by simp) ?_
          refine cons' rfl (fun KK hKK => ?_)
          go_simp
          refine hKK.out _ _ hHeld ?_
          clear hHeld
          intro hHeld
          clear hKK KK
          try simp only [Act.put, List.setIfInBounds_toArray, List.set_cons_zero, List.set_cons_succ]
          refine wpAnyH_ready (rs := [14]) (by kernel_rfl) (by simp) ?_
          refine cons' rfl (fun KK hKK => ?_)
          go_simp
          refine (A1.out _ af cf R a5 c5 R5 sR s5 ER E5 fR f5).mono ?_
          rintro e w12 ⟨a6, c6, R6, rfl, b6, s6, e6, f6⟩
          have bC := b6
          replace hB := hB.trans (bC.mono hB.size)
          replace hBw := hBw.trans (bC.mono hBw.size)
          replace fB := fB.later bC
          replace sR := sR.later bC
          replace ER := ER.later bC
          replace g1 := g1.later bC
          replace g2 := g2.later bC
          replace s5 := s5.later bC
          replace E5 := E5.later bC
          replace z0 := below_cell bC z0
          replace hHeld := (⟨below_cell bC hHeld.1, below_cell bC hHeld.2.1, below_cell bC hHeld.2.2.1, below_cell bC hHeld.2.2.2⟩ : _ ∧ _ ∧ _ ∧ _)
          clear bC
          go_wp2_with fail
          have E6 : Ents w12 R6 := e6
          clear e6 b6 sR s5 ER E5
          refine hKK.out _ _ hHeld ?_
          clear hHeld
          intro hHeld
          clear hKK KK
          try simp only [Act.put, List.setIfInBounds_toArray, List.set_cons_zero, List.set_cons_succ]
          refine take' 15 (v := ?_) rfl (by kernel_rfl) (by kernel_rfl) (by kernel_rfl) (fun _ _ _ h => h) (Or.inl ⟨by rfl, ?_⟩) (by assumption) ?_
          rotate_left
          · intro w9 hSw
            go_simp
            first | done | with_reducible rfl
          simp only [Act.put, List.setIfInBounds_toArray, List.set_cons_zero, List.set_cons_succ]
          refine wpAnyH_ready (rs := [16]) (by kernel_rfl) (by simp) ?_
          refine cons' rfl (fun KK hKK => ?_)
          have fz := fun o => fB.2.frozen o
          have u9 := upd1 w12 c (.slice a6 R6.length c6)
          replace g1 := u9.seg fB (by simp) (by simp) (by simp) (by simp) g1
          replace g2 := u9.seg fB (by simp) (by simp) (by simp) (by simp) g2
          have s7 : Sl _ a6 c6 R6 := ⟨u9.fat fB (by simp) (by simp) (by simp) (by simp) s6.lies, s6.len, s6.nn⟩
          have E7 := u9.ents fB (by simp) (by simp) (by simp) (by simp) E6
          have hB7 : Below wA.heap.size wA (w12.setCell ⟨c, 0, none⟩ (.slice a6 R6.length c6)) := hB.setCell lc _
          have hBw7 : Below w.heap.size w (w12.setCell ⟨c, 0, none⟩ (.slice a6 R6.length c6)) := hBw.setCell (show w.heap.size ≤ c by omega) _
          have hH2 := (⟨(u9.cell bb (off + j * 7) (fun e => by omega)).trans hHeld.1, (u9.cell bb (off + j * 7 + 4) (fun e => by omega)).trans hHeld.2.1, (u9.cell bb (off + j * 7 + 5) (fun e => by omega)).trans hHeld.2.2.1, (u9.cell bb (off + j * 7 + 6) (fun e => by omega)).trans hHeld.2.2.2⟩ : _ ∧ _ ∧ _ ∧ _)
          have pB := fB.put1 (u0 := .slice a6 R6.length c6)
          go_simp
          clear z0 fz fB s6 E6 u9 hB hBw
          obtain ⟨w13, hw9⟩ : ∃ w9, w12.setCell ⟨c, 0, none⟩ (.slice a6 R6.length c6) = w9 := ⟨_, rfl⟩
          rw [hw9] at g1 g2 s7 E7 hB7 hBw7 hH2 pB ⊢
          clear hw9
          refine hKK.out _ _ hH2 ?_
          clear hHeld
          intro hHeld
          clear hKK KK
          try simp only [Act.put, List.setIfInBounds_toArray, List.set_cons_zero, List.set_cons_succ]
          clear hH2
          refine wpAnyH_done (by kernel_rfl) ?_ _
          go_wp2_with fail
          go_meet
          exact ⟨_, a6, c6, R6, rfl, rfl, pB, hB7, hBw7, s7, E7, f6, g1, g2⟩
        exact AllReadyH.nil
      case rest =>
        obtain ⟨wv, a6, c6, R6, hwv, rfl, fC, hC, hCw, s6, E6, f6, g3, g4⟩ := hcut
        subst hwv
        clear fB hB hBw sR ER fR g1 g2 z0 d0 d4 d5 d6 S1 A1 e0
        have fB := fC
        have hB := hC
        have hBw := hCw
        have g1 := g3
        have g2 := g4
        clear fC hC hCw g3 g4
        have d1 := below_cell hBw e1
        have d2 := below_cell hBw e2
        have d3 := below_cell hBw e3
        have d4 := below_cell hBw e4
        have d5 := below_cell hBw e5
        have d6 := below_cell hBw e6
        clear e1 e2 e3 e4 e5 e6
        have z1 := fB.1.2.1
        have z2 := fB.1.2.2.1
        have z3 := fB.1.2.2.2
        go_upto_region 6 with fail
        have bD : Below wv.heap.size wv wv.drew := (Below.refl _ _).drew
        have kd1 := below_cell bD d1
        have kd2 := below_cell bD d2
        have kd3 := below_cell bD d3
        have kd4 := below_cell bD d4
        have kd5 := below_cell bD d5
        have kd6 := below_cell bD d6
        replace hB := hB.trans (bD.mono hB.size)
        replace hBw := hBw.trans (bD.mono hBw.size)
        replace fB := fB.later bD
        replace s6 := s6.later bD
        replace E6 := E6.later bD
        replace g1 := g1.later bD
        replace g2 := g2.later bD
        replace z1 := below_cell bD z1
        replace z2 := below_cell bD z2
        replace z3 := below_cell bD z3
        refine wp_region_held_drew (S := fun w' => w'.cell? ⟨bb, off + j * 7 + 1, none⟩ = some (.bool W.D.s) ∧ w'.cell? ⟨bb, off + j * 7 + 2, none⟩ = some (.slice W.D.a W.D.n W.D.c) ∧ w'.cell? ⟨bb, off + j * 7 + 3, none⟩ = some (.slice W.D.b W.D.m W.D.e) ∧ w'.cell? ⟨bb, off + j * 7 + 4, none⟩ = some (.bool W.C.s) ∧ w'.cell? ⟨bb, off + j * 7 + 5, none⟩ = some (.slice W.C.a W.C.n W.C.c) ∧ w'.cell? ⟨bb, off + j * 7 + 6, none⟩ = some (.slice W.C.b W.C.m W.C.e)) (by kernel_rfl) ⟨kd1, kd2, kd3, kd4, kd5, kd6⟩ (fun hHeld => ?_)
        clear kd1 kd2 kd3 kd4 kd5 kd6
        generalize wv.drew = w20 at bD fB s6 E6 g1 g2 z1 z2 z3 hB hBw hHeld ⊢
        clear bD d1 d2 d3 d4 d5 d6
        refine take' 0 (v := ?_) rfl (by kernel_rfl) (by kernel_rfl) (by kernel_rfl) (fun _ _ _ h => h) (Or.inl ⟨by rfl, ?_⟩) (by assumption) ?_
        rotate_left
        · intro w9 hSw
          go_simp
          first | done | with_reducible rfl
        simp only [Act.put, List.setIfInBounds_toArray, List.set_cons_zero, List.set_cons_succ]
        refine take' 2 (v := ?_) rfl (by kernel_rfl) (by kernel_rfl) (by kernel_rfl) (fun _ _ _ h => h) (Or.inl ⟨by rfl, ?_⟩) (by assumption) ?_
        rotate_left
        · intro w9 hSw
          go_simp
          first | done | with_reducible rfl
        simp only [Act.put, List.setIfInBounds_toArray, List.set_cons_zero, List.set_cons_succ]
        refine take' 3 (v := ?_) rfl (by kernel_rfl) (by kernel_rfl) (by kernel_rfl) (fun _ _ _ h => h) (Or.inl ⟨by rfl, ?_⟩) (by assumption) ?_
        rotate_left
        · intro w9 hSw
          go_simp
          first | done | with_reducible rfl
        simp only [Act.put, List.setIfInBounds_toArray, List.set_cons_zero, List.set_cons_succ]
        refine take' 4 (v := ?_) rfl (by kernel_rfl) (by kernel_rfl) (by kernel_rfl) (fun _ _ _ h => h) (Or.inl ⟨by rfl, ?_⟩) (by assumption) ?_
        rotate_left
        · intro w9 hSw
          go_simp
          first | done | with_reducible rfl
        simp only [Act.put, List.setIfInBounds_toArray, List.set_cons_zero, List.set_cons_succ]
        refine take' 5 (v := ?_) rfl (by kernel_rfl) (by kernel_rfl) (by kernel_rfl) (fun _ _ _ h => h) (Or.inl ⟨by rfl, ?_⟩) (by assumption) ?_
        rotate_left
        · intro w9 hSw
          go_simp
          first | done | with_reducible rfl
        simp only [Act.put, List.setIfInBounds_toArray, List.set_cons_zero, List.set_cons_succ]
        refine take' 6 (v := ?_) rfl (by kernel_rfl) (by kernel_rfl) (by kernel_rfl) (fun _ _ _ h => h) (Or.inl ⟨by rfl, ?_⟩) (by assumption) ?_
        rotate_left
        · intro w9 hSw
          go_simp
          first | done | with_reducible rfl
        simp only [Act.put, List.setIfInBounds_toArray, List.set_cons_zero, List.set_cons_succ]
        refine take' 7 (v := ?_) rfl (by kernel_rfl) (by kernel_rfl) (by kernel_rfl) (fun _ _ _ h => h) (Or.inl ⟨by rfl, ?_⟩) (by assumption) ?_
        rotate_left
        · intro w9 hSw
          go_simp
          first | done | with_reducible rfl
        simp only [Act.put, List.setIfInBounds_toArray, List.set_cons_zero, List.set_cons_succ]
        refine take' 8 (v := ?_) rfl (by kernel_rfl) (by kernel_rfl) (by kernel_rfl) (fun _ _ _ h => h) (Or.inl ⟨by rfl, ?_⟩) (by assumption) ?_
        rotate_left
        · intro w9 hSw
          go_simp
          first | done | with_reducible rfl
        simp only [Act.put, List.setIfInBounds_toArray, List.set_cons_zero, List.set_cons_succ]
        refine take' 9 (v := ?_) rfl (by kernel_rfl) (by kernel_rfl) (by kernel_rfl) (fun _ _ _ h => h) (Or.inl ⟨by rfl, ?_⟩) (by assumption) ?_
        rotate_left
        · intro w9 hSw
          go_simp
          first | done | with_reducible rfl
        simp only [Act.put, List.setIfInBounds_toArray, List.set_cons_zero, List.set_cons_succ]
        refine take' 10 (v := ?_) rfl (by kernel_rfl) (by kernel_rfl) (by kernel_rfl) (fun _ _ _ h => h) (Or.inl ⟨by rfl, ?_⟩) (by assumption) ?_
        rotate_left
        · intro w9 hSw
          go_simp
          first | done | with_reducible rfl
        simp only [Act.put, List.setIfInBounds_toArray, List.set_cons_zero, List.set_cons_succ]
        refine take' 11 (v := ?_) rfl (by kernel_rfl) (by kernel_rfl) (by kernel_rfl) (fun _ _ _ h => h) (Or.inl ⟨by rfl, ?_⟩) (by assumption) ?_
        rotate_left
        · intro w9 hSw
          go_simp
          first | done | with_reducible rfl
        simp only [Act.put, List.setIfInBounds_toArray, List.set_cons_zero, List.set_cons_succ]
        refine take' 12 (v := ?_) rfl (by kernel_rfl) (by kernel_rfl) (by kernel_rfl) (fun _ _ _ h => h) (Or.inl ⟨by rfl, ?_⟩) (by assumption) ?_
        rotate_left
        · intro w9 hSw
          go_simp
          first | done | with_reducible rfl
        simp only [Act.put, List.setIfInBounds_toArray, List.set_cons_zero, List.set_cons_succ]
        refine wpAnyH_ready (rs := [1, 13]) (by kernel_rfl) (by simp) ?_
        refine consT rfl (fun KK hKK => ?_) ?_
        · skip
          go_simp
          refine hKK.out _ _ hHeld ?_
          clear hHeld
          intro hHeld
          clear hKK KK
          try simp only [Act.put, List.setIfInBounds_toArray, List.set_cons_zero, List.set_cons_succ]
          refine wpAnyH_ready (rs := [13]) (by kernel_rfl) (by simp) ?_
          refine cons' rfl (fun KK hKK => ?_)
          go_simp
          refine (M1.out _ hBw).mono ?_
          rintro e w21 ⟨p1, q1, rfl, b1, g3, g4⟩
          have bC := b1
          replace hB := hB.trans (bC.mono hB.size)
          replace hBw := hBw.trans (bC.mono hBw.size)
          replace fB := fB.later bC
          replace s6 := s6.later bC
          replace E6 := E6.later bC
          replace g1 := g1.later bC
          replace g2 := g2.later bC
          replace z1 := below_cell bC z1
          replace z2 := below_cell bC z2
          replace z3 := below_cell bC z3
          replace hHeld := (⟨below_cell bC hHeld.1, below_cell bC hHeld.2.1, below_cell bC hHeld.2.2.1, below_cell bC hHeld.2.2.2.1, below_cell bC hHeld.2.2.2.2.1, below_cell bC hHeld.2.2.2.2.2⟩ : _ ∧ _ ∧ _ ∧ _ ∧ _ ∧ _)
          clear bC
          go_wp2_with fail
          clear b1
          refine hKK.out _ _ hHeld ?_
          clear hHeld
          intro hHeld
          clear hKK KK
          try simp only [Act.put, List.setIfInBounds_toArray, List.set_cons_zero, List.set_cons_succ]
          refine wpAnyH_ready (rs := [14]) (by kernel_rfl) (by simp) ?_
          refine cons' rfl (fun KK hKK => ?_)
          go_simp
          refine (T1.out _ p q p1 q1 g1 g2 g3 g4).mono ?_
          rintro e w22 ⟨p2, q2, rfl, b2, g5, g6⟩
          have bC := b2
          replace hB := hB.trans (bC.mono hB.size)
          replace hBw := hBw.trans (bC.mono hBw.size)
          replace fB := fB.later bC
          replace s6 := s6.later bC
          replace E6 := E6.later bC
          replace g1 := g1.later bC
          replace g2 := g2.later bC
          replace g3 := g3.later bC
          replace g4 := g4.later bC
          replace z1 := below_cell bC z1
          replace z2 := below_cell bC z2
          replace z3 := below_cell bC z3
          replace hHeld := (⟨below_cell bC hHeld.1, below_cell bC hHeld.2.1, below_cell bC hHeld.2.2.1, below_cell bC hHeld.2.2.2.1, below_cell bC hHeld.2.2.2.2.1, below_cell bC hHeld.2.2.2.2.2⟩ : _ ∧ _ ∧ _ ∧ _ ∧ _ ∧ _)
          clear bC
          go_wp2_with fail
          clear b2 g1 g2 g3 g4
          refine hKK.out _ _ hHeld ?_
          clear hHeld
          intro hHeld
          clear hKK KK
          try simp only [Act.put, List.setIfInBounds_toArray, List.set_cons_zero, List.set_cons_succ]
          refine take' 15 (v := ?_) rfl (by kernel_rfl) (by kernel_rfl) (by kernel_rfl) (fun _ _ _ h => h) (Or.inl ⟨by rfl, ?_⟩) (by assumption) ?_
          rotate_left
          · intro w9 hSw
            go_simp
            first | done | with_reducible rfl
          simp only [Act.put, List.setIfInBounds_toArray, List.set_cons_zero, List.set_cons_succ]
          refine wpAnyH_ready (rs := [16]) (by kernel_rfl) (by simp) ?_
          refine cons' rfl (fun KK hKK => ?_)
          have fz := fun o => fB.2.frozen o
          have u9 := upd3 w22 c (.bool (ng s1.num)) (.slice p2 (ln (am s1.num)) (ln (am s1.num))) (.slice q2 (ln s1.den) (ln s1.den))
          replace g5 := u9.seg fB (by simp) (by simp) (by simp) (by simp) g5
          replace g6 := u9.seg fB (by simp) (by simp) (by simp) (by simp) g6
          have s7 : Sl _ a6 c6 R6 := ⟨u9.fat fB (by simp) (by simp) (by simp) (by simp) s6.lies, s6.len, s6.nn⟩
          have E7 := u9.ents fB (by simp) (by simp) (by simp) (by simp) E6
          have hB7 : Below wA.heap.size wA (((w22.setCell ⟨c, 1, none⟩ (.bool (ng s1.num))).setCell ⟨c, 2, none⟩ (.slice p2 (ln (am s1.num)) (ln (am s1.num)))).setCell ⟨c, 3, none⟩ (.slice q2 (ln s1.den) (ln s1.den))) := ((hB.setCell lc _).setCell lc _).setCell lc _
          have hH2 := (⟨(u9.cell bb (off + j * 7 + 1) (fun e => by omega)).trans hHeld.1, (u9.cell bb (off + j * 7 + 2) (fun e => by omega)).trans hHeld.2.1, (u9.cell bb (off + j * 7 + 3) (fun e => by omega)).trans hHeld.2.2.1, (u9.cell bb (off + j * 7 + 4) (fun e => by omega)).trans hHeld.2.2.2.1, (u9.cell bb (off + j * 7 + 5) (fun e => by omega)).trans hHeld.2.2.2.2.1, (u9.cell bb (off + j * 7 + 6) (fun e => by omega)).trans hHeld.2.2.2.2.2⟩ : _ ∧ _ ∧ _ ∧ _ ∧ _ ∧ _)
          have pB := fB.put3' (u1 := .bool (ng s1.num)) (u2 := .slice p2 (ln (am s1.num)) (ln (am s1.num))) (u3 := .slice q2 (ln s1.den) (ln s1.den))
          go_simp
          clear z1 z2 z3 fz fB s6 E6 u9 hB hBw
          obtain ⟨w23, hw9⟩ : ∃ w9, ((w22.setCell ⟨c, 1, none⟩ (.bool (ng s1.num))).setCell ⟨c, 2, none⟩ (.slice p2 (ln (am s1.num)) (ln (am s1.num)))).setCell ⟨c, 3, none⟩ (.slice q2 (ln s1.den) (ln s1.den)) = w9 := ⟨_, rfl⟩
          rw [hw9] at g5 g6 s7 E7 hB7 hH2 pB ⊢
          clear hw9
          have I1 := hide' (show CoInv wA c k (j + 1) w23 by
              refine ⟨a6, c6, R6, p2, q2, ?_, hB7, s7, E7, f6, ?_, ?_⟩ <;> rw [hs1.out] <;> assumption)
          clear g5 g6 s7 E7 hB7 pB f6
          refine hKK.out _ _ hH2 ?_
          clear hHeld
          intro hHeld
          clear hKK KK
          try simp only [Act.put, List.setIfInBounds_toArray, List.set_cons_zero, List.set_cons_succ]
          clear hH2 hHeld
          refine wpAnyH_done (by kernel_rfl) ?_ _
          go_wp2
          go_roundw
          case rel => exact ⟨j + 1, by omega, by go_num, I1.out⟩
          case measure => simp [intOf]; omega
        refine consT rfl (fun KK hKK => ?_) ?_
        · skip
          go_simp
          refine (M1.out _ hBw).mono ?_
          rintro e w21 ⟨p1, q1, rfl, b1, g3, g4⟩
          have bC := b1
          replace hB := hB.trans (bC.mono hB.size)
          replace hBw := hBw.trans (bC.mono hBw.size)
          replace fB := fB.later bC
          replace s6 := s6.later bC
          replace E6 := E6.later bC
          replace g1 := g1.later bC
          replace g2 := g2.later bC
          replace z1 := below_cell bC z1
          replace z2 := below_cell bC z2
          replace z3 := below_cell bC z3
          replace hHeld := (⟨below_cell bC hHeld.1, below_cell bC hHeld.2.1, below_cell bC hHeld.2.2.1, below_cell bC hHeld.2.2.2.1, below_cell bC hHeld.2.2.2.2.1, below_cell bC hHeld.2.2.2.2.2⟩ : _ ∧ _ ∧ _ ∧ _ ∧ _ ∧ _)
          clear bC
          go_wp2_with fail
          clear b1
          refine hKK.out _ _ hHeld ?_
          clear hHeld
          intro hHeld
          clear hKK KK
          try simp only [Act.put, List.setIfInBounds_toArray, List.set_cons_zero, List.set_cons_succ]
          refine wpAnyH_ready (rs := [1]) (by kernel_rfl) (by simp) ?_
          refine cons' rfl (fun KK hKK => ?_)
          go_simp
          refine hKK.out _ _ hHeld ?_
          clear hHeld
          intro hHeld
          clear hKK KK
          try simp only [Act.put, List.setIfInBounds_toArray, List.set_cons_zero, List.set_cons_succ]
          refine wpAnyH_ready (rs := [14]) (by kernel_rfl) (by simp) ?_
          refine cons' rfl (fun KK hKK => ?_)
          go_simp
          refine (T1.out _ p q p1 q1 g1 g2 g3 g4).mono ?_
          rintro e w22 ⟨p2, q2, rfl, b2, g5, g6⟩
          have bC := b2
          replace hB := hB.trans (bC.mono hB.size)
          replace hBw := hBw.trans (bC.mono hBw.size)
          replace fB := fB.later bC
          replace s6 := s6.later bC
          replace E6 := E6.later bC
          replace g1 := g1.later bC
          replace g2 := g2.later bC
          replace g3 := g3.later bC
          replace g4 := g4.later bC
          replace z1 := below_cell bC z1
          replace z2 := below_cell bC z2
          replace z3 := below_cell bC z3
          replace hHeld := (⟨below_cell bC hHeld.1, below_cell bC hHeld.2.1, below_cell bC hHeld.2.2.1, below_cell bC hHeld.2.2.2.1, below_cell bC hHeld.2.2.2.2.1, below_cell bC hHeld.2.2.2.2.2⟩ : _ ∧ _ ∧ _ ∧ _ ∧ _ ∧ _)
          clear bC
          go_wp2_with fail
          clear b2 g1 g2 g3 g4
          refine hKK.out _ _ hHeld ?_
          clear hHeld
          intro hHeld
          clear hKK KK
          try simp only [Act.put, List.setIfInBounds_toArray, List.set_cons_zero, List.set_cons_succ]
          refine take' 15 (v := ?_) rfl (by kernel_rfl) (by kernel_rfl) (by kernel_rfl) (fun _ _ _ h => h) (Or.inl ⟨by rfl, ?_⟩) (by assumption) ?_
          rotate_left
          · intro w9 hSw
            go_simp
            first | done | with_reducible rfl
          simp only [Act.put, List.setIfInBounds_toArray, List.set_cons_zero, List.set_cons_succ]
          refine wpAnyH_ready (rs := [16]) (by kernel_rfl) (by simp) ?_
          refine cons' rfl (fun KK hKK => ?_)
          have fz := fun o => fB.2.frozen o
          have u9 := upd3 w22 c (.bool (ng s1.num)) (.slice p2 (ln (am s1.num)) (ln (am s1.num))) (.slice q2 (ln s1.den) (ln s1.den))
          replace g5 := u9.seg fB (by simp) (by simp) (by simp) (by simp) g5
          replace g6 := u9.seg fB (by simp) (by simp) (by simp) (by simp) g6
          have s7 : Sl _ a6 c6 R6 := ⟨u9.fat fB (by simp) (by simp) (by simp) (by simp) s6.lies, s6.len, s6.nn⟩
          have E7 := u9.ents fB (by simp) (by simp) (by simp) (by simp) E6
          have hB7 : Below wA.heap.size wA (((w22.setCell ⟨c, 1, none⟩ (.bool (ng s1.num))).setCell ⟨c, 2, none⟩ (.slice p2 (ln (am s1.num)) (ln (am s1.num)))).setCell ⟨c, 3, none⟩ (.slice q2 (ln s1.den) (ln s1.den))) := ((hB.setCell lc _).setCell lc _).setCell lc _
          have hH2 := (⟨(u9.cell bb (off + j * 7 + 1) (fun e => by omega)).trans hHeld.1, (u9.cell bb (off + j * 7 + 2) (fun e => by omega)).trans hHeld.2.1, (u9.cell bb (off + j * 7 + 3) (fun e => by omega)).trans hHeld.2.2.1, (u9.cell bb (off + j * 7 + 4) (fun e => by omega)).trans hHeld.2.2.2.1, (u9.cell bb (off + j * 7 + 5) (fun e => by omega)).trans hHeld.2.2.2.2.1, (u9.cell bb (off + j * 7 + 6) (fun e => by omega)).trans hHeld.2.2.2.2.2⟩ : _ ∧ _ ∧ _ ∧ _ ∧ _ ∧ _)
          have pB := fB.put3' (u1 := .bool (ng s1.num)) (u2 := .slice p2 (ln (am s1.num)) (ln (am s1.num))) (u3 := .slice q2 (ln s1.den) (ln s1.den))
          go_simp
          clear z1 z2 z3 fz fB s6 E6 u9 hB hBw
          obtain ⟨w23, hw9⟩ : ∃ w9, ((w22.setCell ⟨c, 1, none⟩ (.bool (ng s1.num))).setCell ⟨c, 2, none⟩ (.slice p2 (ln (am s1.num)) (ln (am s1.num)))).setCell ⟨c, 3, none⟩ (.slice q2 (ln s1.den) (ln s1.den)) = w9 := ⟨_, rfl⟩
          rw [hw9] at g5 g6 s7 E7 hB7 hH2 pB ⊢
          clear hw9
          have I1 := hide' (show CoInv wA c k (j + 1) w23 by
              refine ⟨a6, c6, R6, p2, q2, ?_, hB7, s7, E7, f6, ?_, ?_⟩ <;> rw [hs1.out] <;> assumption)
          clear g5 g6 s7 E7 hB7 pB f6
          refine hKK.out _ _ hH2 ?_
          clear hHeld
          intro hHeld
          clear hKK KK
          try simp only [Act.put, List.setIfInBounds_toArray, List.set_cons_zero, List.set_cons_succ]
          clear hH2 hHeld
          refine wpAnyH_done (by kernel_rfl) ?_ _
          go_wp2
          go_roundw
          case rel => exact ⟨j + 1, by omega, by go_num, I1.out⟩
          case measure => simp [intOf]; omega
        exact AllReadyH.nil
    · obtain rfl : j = n := by omega
      have i1 : ¬ (j : Int) < (j : Int) := by omega
      have rB := rA.later hB
      obtain ⟨s, hs⟩ : ∃ s, cst k j = s := ⟨_, rfl⟩
      rw [hs] at fB g1 g2
      obtain ⟨⟨y0, y1, y2, y3⟩, yR⟩ := fB
      have hne : c ≠ w.heap.size := by omega
      have hne2 : w.heap.size ≠ c := by omega
      clear GS GA GM GT HA rA bA hB yR
      have fz := fun o => rB.2.frozen o
      have z0 := rB.1.1
      have z1 := rB.1.2.1
      have z2 := rB.1.2.2.1
      have z3 := rB.1.2.2.2
      replace g1 := rB.seg (u0 := .slice af R.length cf) (u1 := .bool (ng s.num)) (u2 := .slice p (ln (am s.num)) (ln (am s.num))) (u3 := .slice q (ln s.den) (ln s.den)) (by simp) (by simp) (by simp) (by simp) g1
      replace g2 := rB.seg (u0 := .slice af R.length cf) (u1 := .bool (ng s.num)) (u2 := .slice p (ln (am s.num)) (ln (am s.num))) (u3 := .slice q (ln s.den) (ln s.den)) (by simp) (by simp) (by simp) (by simp) g2
      have s7 : Sl _ af cf R := ⟨rB.fat (u0 := .slice af R.length cf) (u1 := .bool (ng s.num)) (u2 := .slice p (ln (am s.num)) (ln (am s.num))) (u3 := .slice q (ln s.den) (ln s.den)) (by simp) (by simp) (by simp) (by simp) sR.lies, sR.len, sR.nn⟩
      have E7 : Ents _ R := fun m9 hp => rB.ok (u0 := .slice af R.length cf) (u1 := .bool (ng s.num)) (u2 := .slice p (ln (am s.num)) (ln (am s.num))) (u3 := .slice q (ln s.den) (ln s.den)) (by simp) (by simp) (by simp) (by simp) (ER m9 hp)
      replace hBw := below_set4 (u0 := .slice af R.length cf) (u1 := .bool (ng s.num)) (u2 := .slice p (ln (am s.num)) (ln (am s.num))) (u3 := .slice q (ln s.den) (ln s.den)) hBw (Nat.le_refl _)
      have rD := rB.put (u0 := .slice af R.length cf) (u1 := .bool (ng s.num)) (u2 := .slice p (ln (am s.num)) (ln (am s.num))) (u3 := .slice q (ln s.den) (ln s.den))
      clear rB sR ER
      go_wp2
      obtain ⟨⟨v0, v1, v2, v3⟩, vR⟩ := rD
      refine bodyPost_ret (v := .agg #[.slice af R.length cf, .bool (ng s.num), .slice p (ln (am s.num)) (ln (am s.num)), .slice q (ln s.den) (ln s.den)]) (by rw [results_cell rfl]; go_simp) rfl ?_
      rw [← hTT.out, hs]
      exact ⟨af, cf, R, p, q, rfl, hBw, s7, E7, fR, g1, g2⟩
end Go.Proofs.YtkflbhkcofmaoaaGreat
