import Derived.Test.YtebbehlfocpjhaaGreatNumS
set_option linter.unusedSimpArgs false
namespace Go.Proofs.YtebbehlfocpjhaaGreat
open Go.RowKit
set_option linter.unusedVariables false
set_option maxHeartbeats 2000000 in
set_option maxRecDepth 100000 in
theorem lAdd_is (a : Option Addr) (ca : Nat) (L : List Mo) (b : Option Addr) (cb : Nat) (M : List Mo) (w : World) (hFL : FAt w a L) (hokL : ∀ p ∈ L, p.2.ok w ∧ p.2.m < 35184372087808) (hcL : L.length ≤ ca) (hmL : L.length ≤ 1048576) (htL : thin (fo L)) (hFM : FAt w b M) (hokM : ∀ p ∈ M, p.2.ok w ∧ p.2.m < 35184372087808) (hcM : M.length ≤ cb) (hmM : M.length ≤ 1048576) (htM : thin (fo M)) :
    Calls Tryz.prog 28 #[.slice a L.length ca, .slice b M.length cb] w (FAns w (nfm (fo L ++ fo M))) := by
  have G1 := hide' (lNorm_is a ca L w hFL (fun p hp => (hokL p hp).1) hcL hmL (fun p hp => (hokL p hp).2) htL)
  have G2 := hide' (fun w' (hb : Below w.heap.size w w') => lNorm_is b cb M w' (hFM.later hb) (fun p hp => (hokM p hp).1.later hb) hcM hmM (fun p hp => (hokM p hp).2) htM)
  have hl1 := nfm_length (fo L)
  have hl2 := nfm_length (fo M)
  rw [fo_length] at hl1 hl2
  have G3 := hide' (fun w' a1 c1 (R1 : List Mo) a2 c2 (R2 : List Mo) (s1 : Sl w' a1 c1 R1) (e1 : ∀ p ∈ R1, Ent w' p) (f1 : fo R1 = nfm (fo L)) (s2 : Sl w' a2 c2 R2) (e2 : ∀ p ∈ R2, Ent w' p) (f2 : fo R2 = nfm (fo M)) => lsum_is a1 c1 R1 a2 c2 R2 w' s1 s2 (entS_thin e1 f1 htL) (entS_thin e2 f2 htM) (by rw [← fo_length R1, ← fo_length R2, f1, f2]; omega))
  have HA := hide' (nfm_append (fo L) (fo M))
  obtain ⟨TT, hTT⟩ : ∃ TT, nfm (fo L ++ fo M) = TT := ⟨_, rfl⟩
  rw [hTT] at HA ⊢
  clear hFL hokL hcL hmL htL hFM hokM hcM hmM htM hl1 hl2 hTT
  go_enter Tryz.func28, Tryz.ntmps28
  go_wp2_with fail
  refine G1.out.mono ?_
  rintro e w1 ⟨a1, c1, R1, rfl, b1, s1, e1, f1⟩
  go_wp2_with fail
  refine (G2.out _ b1).mono ?_
  rintro e w2 ⟨a2, c2, R2, rfl, b2, s2, e2, f2⟩
  replace s1 := s1.later b2
  replace e1 := fun p hp => (e1 p hp).later b2
  replace b1 := b1.trans (b2.mono b1.size)
  go_wp2_with fail
  refine (G3.out _ a1 c1 R1 a2 c2 R2 s1 e1 f1 s2 e2 f2).mono ?_
  rintro e w3 h3
  rw [f1, f2, HA.out] at h3
  have h4 := h3.from b1
  obtain ⟨a3, c3, R3, rfl, h5⟩ := h4
  clear h3
  go_wp2
  go_ret
  exact ⟨a3, c3, R3, rfl, h5⟩
end Go.Proofs.YtebbehlfocpjhaaGreat
