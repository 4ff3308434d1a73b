/-
  Layer 6: Add, Sub of the program.
-/
import Derived.Test.YtbdgmfofpenjlaaGreatNumS
namespace Go.Proofs.YtbdgmfofpenjlaaGreat
open Go.RowKit
set_option linter.unusedVariables false
set_option linter.unusedSimpArgs false

set_option maxHeartbeats 2000000 in
set_option maxRecDepth 100000 in
theorem lAdd_is (a : Option Addr) (ca : Nat) (L : List Mo) (b : Option Addr) (cb : Nat) (M : List Mo) (w : World) (hFL : FAt w a L) (hokL : ∀ p ∈ L, p.2.ok w ∧ p.2.m < 35184372087808) (hcL : L.length ≤ ca) (hmL : L.length ≤ 1048576) (htL : thin (fo L)) (hFM : FAt w b M) (hokM : ∀ p ∈ M, p.2.ok w ∧ p.2.m < 35184372087808) (hcM : M.length ≤ cb) (hmM : M.length ≤ 1048576) (htM : thin (fo M)) :
    Calls Tryz.prog 7 #[.slice a L.length ca, .slice b M.length cb] w (FAns w (nfm (fo L ++ fo M))) := by
  have G1 := hide' (lNorm_is a ca L w hFL (fun p hp => (hokL p hp).1) hcL hmL (fun p hp => (hokL p hp).2) htL)
  have G2 := hide' (fun w' (hb : Below w.heap.size w w') => lNorm_is b cb M w' (hFM.later hb) (fun p hp => (hokM p hp).1.later hb) hcM hmM (fun p hp => (hokM p hp).2) htM)
  have hl1 := nfm_length (fo L)
  have hl2 := nfm_length (fo M)
  rw [fo_length] at hl1 hl2
  have G3 := hide' (fun w' a1 c1 (R1 : List Mo) a2 c2 (R2 : List Mo) (s1 : Sl w' a1 c1 R1) (e1 : ∀ p ∈ R1, Ent w' p) (f1 : fo R1 = nfm (fo L)) (s2 : Sl w' a2 c2 R2) (e2 : ∀ p ∈ R2, Ent w' p) (f2 : fo R2 = nfm (fo M)) => lsum_is a1 c1 R1 a2 c2 R2 w' s1 s2 (entS_thin e1 f1 htL) (entS_thin e2 f2 htM) (by rw [← fo_length R1, ← fo_length R2, f1, f2]; omega))
  have HA := hide' (nfm_append (fo L) (fo M))
  obtain ⟨TT, hTT⟩ : ∃ TT, nfm (fo L ++ fo M) = TT := ⟨_, rfl⟩
  rw [hTT] at HA ⊢
  clear hFL hokL hcL hmL htL hFM hokM hcM hmM htM hl1 hl2 hTT
  go_enter Tryz.func7, Tryz.ntmps7
  go_wp2_with fail
  refine G1.out.mono ?_
  rintro e w1 ⟨a1, c1, R1, rfl, b1, s1, e1, f1⟩
  go_wp2_with fail
  refine (G2.out _ b1).mono ?_
  rintro e w2 ⟨a2, c2, R2, rfl, b2, s2, e2, f2⟩
  replace s1 := s1.later b2
  replace e1 := fun p hp => (e1 p hp).later b2
  replace b1 := b1.trans (b2.mono b1.size)
  go_wp2_with fail
  refine (G3.out _ a1 c1 R1 a2 c2 R2 s1 e1 f1 s2 e2 f2).mono ?_
  rintro e w3 h3
  rw [f1, f2, HA.out] at h3
  have h4 := h3.from b1
  obtain ⟨a3, c3, R3, rfl, h5⟩ := h4
  clear h3
  go_wp2
  go_ret
  exact ⟨a3, c3, R3, rfl, h5⟩
set_option maxHeartbeats 2000000 in
set_option maxRecDepth 100000 in
theorem lSub_is (a : Option Addr) (ca : Nat) (L : List Mo) (b : Option Addr) (cb : Nat) (M : List Mo) (w : World) (hFL : FAt w a L) (hokL : ∀ p ∈ L, p.2.ok w ∧ p.2.m < 35184372087808) (hcL : L.length ≤ ca) (hmL : L.length ≤ 1048576) (htL : thin (fo L)) (hFM : FAt w b M) (hokM : ∀ p ∈ M, p.2.ok w ∧ p.2.m < 35184372087808) (hcM : M.length ≤ cb) (hmM : M.length ≤ 1048576) (htM : thin (fo M)) (hwM : wts (fo M) + 1 ≤ 1099511627776) (hnM : ∀ p ∈ M, p.2.n ≤ 1099511627776 ∧ p.2.m ≤ 1099511627776) :
    Calls Tryz.prog 9 #[.slice a L.length ca, .slice b M.length cb] w (FAns w (nfm (fo L ++ fmap (fun r => -r) (fo M)))) := by
  have htN : thin (fmap (fun r => -r) (fo M)) := thin_of (by rw [wts_neg]; exact hwM)
  have G1 := hide' (lNorm_is a ca L w hFL (fun p hp => (hokL p hp).1) hcL hmL (fun p hp => (hokL p hp).2) htL)
  have G2 := hide' (fun w' (hb : Below w.heap.size w w') => turned_neg (fun r => -r) b cb M w' (hFM.later hb) (fun p hp => (hokM p hp).1.later hb) hcM hmM (fun p hp w'' hb2 => (qNeg_is p.2.s p.2.a p.2.n p.2.c p.2.X p.2.b p.2.m p.2.e p.2.Y _ _ w'' (hokM p hp).1.2.1 (hnM p hp).1 (((hokM p hp).1.1.later hb).later hb2) (hokM p hp).1.2.2.2.2.1 (hnM p hp).2 (((hokM p hp).1.2.2.2.1.later hb).later hb2) (low_neg p.2))) (fun p hp => by obtain ⟨h1, h2⟩ := neg_sz (hokM p hp).1; exact ⟨by have := (hnM p hp).1; omega, by have := (hnM p hp).2; omega⟩))
  have G4 := hide' (fun w' a2 c2 (R : List Mo) (hs : Sl w' a2 c2 R) (hE : ∀ p ∈ R, Ent w' p) (hf : fo R = fmap (fun r => -r) (fo M)) => collect_thin R a2 c2 w' hs hE (by have h := congrArg List.length hf; rw [fo_length, fmap_length, fo_length] at h; omega) (by rw [hf]; exact htN))
  have hl1 := nfm_length (fo L)
  have hl2 := nfm_length (fmap (fun r => -r) (fo M))
  rw [fo_length] at hl1
  rw [fmap_length, fo_length] at hl2
  have G3 := hide' (fun w' a1 c1 (R1 : List Mo) a2 c2 (R2 : List Mo) (s1 : Sl w' a1 c1 R1) (e1 : ∀ p ∈ R1, Ent w' p) (f1 : fo R1 = nfm (fo L)) (s2 : Sl w' a2 c2 R2) (e2 : ∀ p ∈ R2, Ent w' p) (f2 : fo R2 = nfm (fmap (fun r => -r) (fo M))) => lsum_is a1 c1 R1 a2 c2 R2 w' s1 s2 (entS_thin e1 f1 htL) (entS_thin e2 f2 htN) (by rw [← fo_length R1, ← fo_length R2, f1, f2]; omega))
  have HA := hide' (nfm_append (fo L) (fmap (fun r => -r) (fo M)))
  obtain ⟨TT, hTT⟩ : ∃ TT, nfm (fo L ++ fmap (fun r => -r) (fo M)) = TT := ⟨_, rfl⟩
  rw [hTT] at HA ⊢
  clear hFL hokL hcL hmL htL hFM hokM hcM hmM htM hl1 hl2 hTT htN hwM hnM
  go_enter Tryz.func9, Tryz.ntmps9
  go_wp2_with fail
  refine G1.out.mono ?_
  rintro e w1 ⟨a1, c1, R1, rfl, b1, s1, e1, f1⟩
  go_wp2_with fail
  refine (G2.out _ b1).mono ?_
  rintro e w2 ⟨vo, rfl, hT⟩
  obtain ⟨a2, c2, R2, e2, b2, s2, e3, f2⟩ := hT.ans
  obtain rfl : vo = .slice a2 R2.length c2 := by injection e2
  clear hT e2
  replace s1 := s1.later b2
  replace e1 := fun p hp => (e1 p hp).later b2
  replace b1 := b1.trans (b2.mono b1.size)
  clear b2
  go_wp2_with fail
  refine (G4.out _ a2 c2 R2 s2 e3 f2).mono ?_
  rintro e w3 ⟨a4, c4, R4, rfl, b4, s4, e4, f4⟩
  rw [f2] at f4
  replace s1 := s1.later b4
  replace e1 := fun p hp => (e1 p hp).later b4
  replace b1 := b1.trans (b4.mono b1.size)
  clear b4
  go_wp2_with fail
  refine (G3.out _ a1 c1 R1 a4 c4 R4 s1 e1 f1 s4 e4 f4).mono ?_
  rintro e w4 h3
  rw [f1, f4, HA.out] at h3
  have h4 := h3.from b1
  obtain ⟨a3, c3, R3, rfl, h5⟩ := h4
  clear h3
  go_wp2
  go_ret
  exact ⟨a3, c3, R3, rfl, h5⟩
end Go.Proofs.YtbdgmfofpenjlaaGreat
