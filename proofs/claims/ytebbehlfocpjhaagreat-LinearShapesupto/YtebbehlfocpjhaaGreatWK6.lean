import Derived.Test.YtebbehlfocpjhaaGreatWN11
import Derived.Test.YtebbehlfocpjhaaGreatNumC
import Derived.Test.YtebbehlfocpjhaaGreatWN10
import Derived.Test.YtebbehlfocpjhaaGreatWK1
import Derived.Test.YtebbehlfocpjhaaGreatNumS
import Derived.Test.YtebbehlfocpjhaaGreatWO0
set_option linter.unusedSimpArgs false
namespace Go.Proofs.YtebbehlfocpjhaaGreat
open Go.RowKit
set_option linter.unusedVariables false
def fine (l : Fo) : Prop := ∀ i j x, sz 1099511627776 (co x ((l.drop i).take j))
theorem fine.all {l : Fo} (h : fine l) : ∀ x, sz 1099511627776 (co x l) := fun x => by
  have := h 0 l.length x
  rwa [List.drop_zero, List.take_length] at this
theorem fine.take {l : Fo} (h : fine l) (k : Nat) : fine (l.take k) := fun i j x => by
  rw [List.drop_take, List.take_take]
  exact h i _ x
theorem fine.drop {l : Fo} (h : fine l) (k : Nat) : fine (l.drop k) := fun i j x => by
  rw [List.drop_drop]
  exact h _ j x
theorem co_part (l : Fo) (i j : Nat) : wts ((l.drop i).take j) ≤ wts l := by
  have h1 : wts l = wts (l.take i) + wts (l.drop i) := by rw [← wts_append, List.take_append_drop]
  have h2 : wts (l.drop i) = wts ((l.drop i).take j) + wts ((l.drop i).drop j) := by rw [← wts_append, List.take_append_drop]
  omega
theorem sz_mul {r t : Rat} {N M : Nat} (h : sz N r) (k : sz M t) : sz (N + M) (r * t) := by
  have e : r * t = Rat.divInt (r.num * t.num) ((r.den : Int) * (t.den : Int)) := by
    rw [← Rat.divInt_mul_divInt, Rat.num_divInt_den, Rat.num_divInt_den]
  have hl := (low_of (Int.mul_ne_zero (by have := r.den_pos; omega) (by have := t.den_pos; omega)) e).le
  have a1 := lt_prod (i := N) (j := M) (Nat.lt_of_lt_of_le (ln_lt (am r.num)) (pow_mono h.1)) (Nat.lt_of_lt_of_le (ln_lt (am t.num)) (pow_mono k.1))
  have a2 : am ((r.den : Int) * (t.den : Int)) < BB ^ (N + M) := lt_prod (by show r.den < _; exact Nat.lt_of_lt_of_le (ln_lt r.den) (pow_mono h.2)) (by show t.den < _; exact Nat.lt_of_lt_of_le (ln_lt t.den) (pow_mono k.2))
  exact ⟨ln_le_of_lt (Nat.lt_of_le_of_lt hl.1 a1), ln_le_of_lt (Nat.lt_of_le_of_lt hl.2 a2)⟩
theorem fine_scale {c : Rat} {l : Fo} {N : Nat} (hc : sz N c) (h : N + (wts l + 1) ≤ 1099511627776) : fine (fmap (fun r => c * r) l) := fun i j x => by
  have e : ((fmap (fun r => c * r) l).drop i).take j = fmap (fun r => c * r) ((l.drop i).take j) := by
    unfold fmap
    rw [List.map_take, List.map_drop]
  rw [e, co_scale]
  have h2 := co_part l i j
  exact (sz_mul hc (co_sz x _)).mono (by omega)
theorem fine_of {l : Fo} (h : wts l + 1 ≤ 1099511627776) : fine l := fun i j x => (co_sz x _).mono (by have := co_part l i j; omega)
theorem entS_sz {w : World} {R : List Mo} {l : Fo} (hE : ∀ p ∈ R, Ent w p) (hR : fo R = nfm l) (hs : ∀ x, sz 1099511627776 (co x l)) : ∀ p ∈ R, EntS w p := by
  intro p hp
  have h1 : (p.1, p.2.val) ∈ fo R := List.mem_map.2 ⟨p, hp, rfl⟩
  have h2 : co p.1 (fo R) = p.2.val := (show nrm (fo R) by rw [hR]; exact nfm_nrm l).co_mem h1
  rw [hR, nfm_co] at h2
  have h3 := hs p.1
  rw [h2] at h3
  obtain ⟨e1, e2⟩ := low_ns (hE p hp).low
  exact ⟨hE p hp, by rw [e1]; exact h3.1, by rw [e2]; exact h3.2⟩
set_option maxHeartbeats 4000000 in
set_option maxRecDepth 100000 in
theorem collect_manyF (b off : Nat) (c : Nat) (n h : Nat) (l1 l2 : Fo) (w : World) (hn : 2 ≤ n) (hnc : n ≤ c) (hm : n ≤ 1048576) (hh : h = n / 2)
    (H0 : ∀ w', Below w.heap.size w w' → Calls Tryz.prog 39 #[.slice (some ⟨b, off, none⟩) n c] w' fun e w'' => e = .returned (.bool false) ∧ Below w'.heap.size w' w'')
    (H1 : ∀ w', Below w.heap.size w w' → Calls Tryz.prog 18 #[.slice (some ⟨b, off, none⟩) h c] w' (FAns w' (nfm l1)))
    (H2 : ∀ w', Below w.heap.size w w' → ∀ a2, (h < n → a2 = some ⟨b, off + h * 4, none⟩) → a2 ≠ none → Calls Tryz.prog 18 #[.slice a2 (n - h) (c - h)] w' (FAns w' (nfm l2)))
    (w1 : ∀ x, sz 1099511627776 (co x l1)) (w2 : ∀ x, sz 1099511627776 (co x l2)) (n1 : l1.length + l2.length ≤ 2097152) :
    Calls Tryz.prog 18 #[.slice (some ⟨b, off, none⟩) n c] w (FAns w (nfm (l1 ++ l2))) := by
  have G0 := hide' (H0 w (Below.refl _ _))
  have G1 := hide' H1
  have G2 := hide' H2
  have S1 := hide' w1
  have S2 := hide' w2
  have e0 : ¬ ((n : Int) = 1) := by omega
  have eh : wrap64 ((n : Int) / 2) = (h : Int) := by rw [wrap64_small (by omega) (by omega)]; omega
  have i0 : (0 : Int) ≤ (h : Int) := by omega
  have i1 : (h : Int) ≤ (c : Int) := by omega
  have i2 : (h : Int) ≤ (n : Int) := by omega
  have i3 : (n : Int) ≤ (c : Int) := by omega
  have sl1 := sl_headF b off n c h (by omega)
  obtain ⟨a2, sl2, sn, sl3⟩ := sl_restF b off n c h (by omega) hnc
  have G4 := hide' (And.intro sl3 sn)
  clear H0 H1 H2 sl3 sn w1 w2
  go_enter Tryz.func18, Tryz.ntmps18
  go_wp2_with fail
  refine G0.out.mono ?_
  rintro e w3 ⟨rfl, hB⟩
  go_wp2_with fail
  rw [show (n : Int) / 2 = (h : Int) by omega]
  clear hh eh e0
  have bD : Below w3.heap.size w3 w3.drew := (Below.refl _ _).drew
  replace hB := hB.trans (bD.mono hB.size)
  refine wp_region_held_drew (S := fun w' => True) (by kernel_rfl) trivial (fun hHeld => ?_)
  generalize w3.drew = w0 at bD hB hHeld ⊢
  clear bD
  refine tk 0 (v := ?_) rfl (Or.inl ⟨by rfl, ?_⟩) ?_
  rotate_left
  · intro w9 hSw
    go_simp
    first | done | with_reducible rfl
  simp only [pP, pN, pS, pZ, pC]
  refine tk 1 (v := ?_) rfl (Or.inl ⟨by rfl, ?_⟩) ?_
  rotate_left
  · intro w9 hSw
    go_simp
    first | done | with_reducible rfl
  simp only [pP, pN, pS, pZ, pC]
  refine tk 2 (v := ?_) rfl (Or.inl ⟨by rfl, ?_⟩) ?_
  rotate_left
  · intro w9 hSw
    go_simp
    first | done | with_reducible rfl
  simp only [pP, pN, pS, pZ, pC]
  refine tk 4 (v := ?_) rfl (Or.inl ⟨by rfl, ?_⟩) ?_
  rotate_left
  · intro w9 hSw
    go_simp
    first | done | with_reducible rfl
  simp only [pP, pN, pS, pZ, pC]
  refine tk 5 (v := ?_) rfl (Or.inl ⟨by rfl, ?_⟩) ?_
  rotate_left
  · intro w9 hSw
    go_simp
    first | done | with_reducible rfl
  simp only [pP, pN, pS, pZ, pC]
  refine tk 6 (v := ?_) rfl (Or.inl ⟨by rfl, ?_⟩) ?_
  rotate_left
  · intro w9 hSw
    go_simp
    first | done | with_reducible rfl
  simp only [pP, pN, pS, pZ, pC]
  refine wpAnyH_ready (rs := [3]) (by kernel_rfl) (by simp) ?_
  refine cons' rfl (fun KK hKK => ?_)
  go_simp
  refine (G1.out _ hB).mono ?_
  rintro e w4 ⟨a4, c4, R4, rfl, b4, s4, e4, f4⟩
  go_wp2_with fail
  replace hB := hB.trans (b4.mono hB.size)
  clear b4
  refine hKK.out _ _ hHeld ?_
  clear hHeld
  intro hHeld
  clear hKK KK
  try simp only [pP, pN, pS, pZ, pC]
  refine wpAnyH_ready (rs := [7]) (by kernel_rfl) (by simp) ?_
  refine cons' rfl (fun KK hKK => ?_)
  go_simp
  refine (G2.out _ hB a2 G4.out.1 G4.out.2).mono ?_
  rintro e w5 ⟨a5, c5, R5, rfl, b5, s5, e5, f5⟩
  go_wp2_with fail
  replace hB := hB.trans (b5.mono hB.size)
  replace s4 := s4.later b5
  replace e4 := fun p hp => (e4 p hp).later b5
  clear b5
  refine hKK.out _ _ hHeld ?_
  clear hHeld
  intro hHeld
  clear hKK KK
  try simp only [pP, pN, pS, pZ, pC]
  refine wpAnyH_ready (rs := [8]) (by kernel_rfl) (by simp) ?_
  refine cons' rfl (fun KK hKK => ?_)
  have hl4 := nfm_length l1
  have hl5 := nfm_length l2
  rw [← f4, fo_length] at hl4
  rw [← f5, fo_length] at hl5
  go_simp
  refine (lsum_is a4 c4 R4 a5 c5 R5 _ s4 s5 (entS_sz e4 f4 S1.out) (entS_sz e5 f5 S2.out) (by omega)).mono ?_
  rintro e w6 ⟨a6, c6, R6, rfl, b6, s6, e6, f6⟩
  go_wp2_with fail
  replace hB := hB.trans (b6.mono hB.size)
  refine hKK.out _ _ hHeld ?_
  clear hHeld
  intro hHeld
  clear hKK KK
  try simp only [pP, pN, pS, pZ, pC]
  refine tk 9 (v := ?_) rfl (Or.inl ⟨by rfl, ?_⟩) ?_
  rotate_left
  · intro w9 hSw
    go_simp
    first | done | with_reducible rfl
  simp only [pP, pN, pS, pZ, pC]
  refine wpAnyH_done (by kernel_rfl) ?_ _
  go_wp2
  go_ret
  exact ⟨a6, c6, R6, rfl, hB, s6, e6, by rw [f6, f4, f5, nfm_append]⟩
theorem fo_take (L : List Mo) (k : Nat) : fo (L.take k) = (fo L).take k := by unfold fo; rw [List.map_take]
theorem fo_drop (L : List Mo) (k : Nat) : fo (L.drop k) = (fo L).drop k := by unfold fo; rw [List.map_drop]
theorem collectF_is : ∀ (k : Nat) (L : List Mo) (a : Option Addr) (c : Nat) (w : World), L.length ≤ k → Sl w a c L → (∀ p ∈ L, Ent w p) → L.length ≤ 1048576 → fine (fo L) →
    Calls Tryz.prog 18 #[.slice a L.length c] w (FAns w (nfm (fo L)))
  | k, L, a, c, w, hk, hS, hE, hm, hw => by
    by_cases hN : nrm (fo L)
    · refine (collect_norm a c L.length w ((isNormal_is a c L w hS.lies hE hS.len hm).mono fun e w' ⟨d, he, hd, hb⟩ => ⟨by rw [he, hd.2 hN], hb⟩)).mono ?_
      rintro e w' ⟨rfl, hb⟩
      exact ⟨a, c, L, rfl, hb, hS.later hb, fun p hp => (hE p hp).later hb, nfm_self hN⟩
    · match L, hk, hS, hE, hm, hw, hN with
      | [], _, _, _, _, _, hN => exact absurd nrm.nil hN
      | [p], _, hS, hE, hm, hw, hN =>
        have hno := isNormal_no hS.lies hE hS.len hm hN
        rw [show ([p] : List Mo).length = 1 from rfl] at hno ⊢
        refine (collect_one a c w hno).mono ?_
        rintro e w' ⟨rfl, hb⟩
        exact ⟨none, 0, [], rfl, hb, ⟨FAt.nil _ _, Nat.le_refl _, fun _ => rfl⟩, fun q hq => absurd hq (by simp), (nfm_single hN).symm⟩
      | p :: q :: L', hk, hS, hE, hm, hw, hN =>
        match k, hk with
        | 0, hk => simp only [List.length_cons] at hk; omega
        | k + 1, hk =>
          obtain ⟨L, hL⟩ : ∃ L, p :: q :: L' = L := ⟨_, rfl⟩
          have h2 : 2 ≤ L.length := by rw [← hL]; simp
          rw [hL] at hk hS hE hm hw hN ⊢
          obtain ⟨b, off, rfl, _, _⟩ := hS.lies (by intro e; rw [e] at h2; simp at h2)
          obtain ⟨h, hh⟩ : ∃ h, h = L.length / 2 := ⟨_, rfl⟩
          have hsplit : fo L = fo (L.take h) ++ fo (L.drop h) := by rw [← fo_append, List.take_append_drop]
          have hlt : (L.take h).length = h := by rw [List.length_take]; omega
          have hld : (L.drop h).length = L.length - h := List.length_drop
          have w1 : fine (fo (L.take h)) := by rw [fo_take]; exact hw.take h
          have w2 : fine (fo (L.drop h)) := by rw [fo_drop]; exact hw.drop h
          rw [hsplit]
          refine collect_manyF b off c L.length h (fo (L.take h)) (fo (L.drop h)) w h2 hS.len hm hh (fun w' hb => isNormal_no (hS.lies.later hb) (fun p hp => (hE p hp).later hb) hS.len hm hN) (fun w' hb => ?_) (fun w' hb a2 ha hne => ?_) w1.all w2.all (by rw [fo_length, fo_length]; omega)
          · have := collectF_is k (L.take h) (some ⟨b, off, none⟩) c w' (by omega) ⟨(hS.lies.take h).later hb, by have := hS.len; omega, fun e => by cases e⟩ (fun p hp => (hE p (List.mem_of_mem_take hp)).later hb) (by omega) w1
            rw [hlt] at this
            exact this
          · have := collectF_is k (L.drop h) a2 (c - h) w' (by omega) ⟨fun hn => by rw [ha (by omega)]; exact ((hS.lies.drop h).later hb) hn, by have := hS.len; omega, fun e => absurd e hne⟩ (fun p hp => (hE p (List.mem_of_mem_drop hp)).later hb) (by omega) w2
            rw [hld] at this
            exact this
termination_by k => k
set_option maxHeartbeats 2000000 in
set_option maxRecDepth 100000 in
theorem lScaleF_is (C : RatV) (a : Option Addr) (c : Nat) (L : List Mo) (K : Nat) (w : World) (hF : FAt w a L) (hok : ∀ p ∈ L, p.2.ok w) (hc : L.length ≤ c) (hm : L.length ≤ 1048576) (hC : C.ok w) (hK : ∀ p ∈ L, C.n + C.m + p.2.n + p.2.m ≤ K) (hCK : C.n + C.m ≤ K) (hKm : K ≤ 274877906944) (hf : fine (fmap (fun r => C.val * r) (fo L))) :
    Calls Tryz.prog 6 #[.agg #[.bool C.s, .slice C.a C.n C.c, .slice C.b C.m C.e], .slice a L.length c] w (FAns w (nfm (fmap (fun r => C.val * r) (fo L)))) := by
  have G1 := hide' (fun w' (hb : Below w.heap.size w w') => times_is C a c L K w' (hF.later hb) (fun p hp => (hok p hp).later hb) hc hm (hC.later hb) hK hCK hKm)
  have G2 := hide' (fun w' a2 c2 (R : List Mo) (hs : Sl w' a2 c2 R) (hE : ∀ p ∈ R, Ent w' p) (h9 : fo R = fmap (fun r => C.val * r) (fo L)) => collectF_is R.length R a2 c2 w' (Nat.le_refl _) hs hE (by have h := congrArg List.length h9; rw [fo_length, fmap_length, fo_length] at h; omega) (by rw [h9]; exact hf))
  clear hF hok hc hm hC hK hCK hKm hf
  go_enter Tryz.func6, Tryz.ntmps6
  go_wp2_with fail
  obtain ⟨wA, hwA⟩ : ∃ wA, w.alloc (.cells #[.bool C.s, .slice C.a C.n C.c, .slice C.b C.m C.e] 29) = wA := ⟨_, rfl⟩
  have bA : Below w.heap.size w wA := by subst hwA; exact below_alloc _
  rw [hwA]
  clear hwA
  refine (G1.out _ bA).mono ?_
  rintro e w1 ⟨a1, c1, R1, rfl, b1, s1, e1, f1⟩
  go_wp2_with fail
  refine (G2.out _ a1 c1 R1 s1 e1 f1).mono ?_
  rintro e w2 h2
  have h3 := h2.from (bA.trans (b1.mono bA.size))
  obtain ⟨a2, c2, R2, rfl, h4⟩ := h3
  rw [f1] at h4
  clear h2
  go_wp2
  go_ret
  exact ⟨a2, c2, R2, rfl, h4⟩
def dpr : Fo → Nat
  | [] => 1
  | p :: l => p.2.den * dpr l
theorem dpr_pos : ∀ (l : Fo), 0 < dpr l
  | [] => Nat.one_pos
  | p :: l => Nat.mul_pos p.2.den_pos (dpr_pos l)
theorem add_den_dvd {a b : Rat} {P : Nat} (ha : a.den ∣ P) (hb : b.den ∣ P) : (a + b).den ∣ P := by
  obtain ⟨k, hk⟩ := ha
  obtain ⟨j, hj⟩ := hb
  have e : (a + b) * (((P : Nat) : Int) : Rat) = ((a.num * (k : Int) + b.num * (j : Int) : Int) : Rat) := by
    rw [Rat.intCast_natCast, Rat.intCast_add, Rat.intCast_mul, Rat.intCast_mul, Rat.intCast_natCast, Rat.intCast_natCast, num_den a, num_den b]
    have e1 : (P : Rat) = (a.den : Rat) * (k : Rat) := by rw [hk]; exact Rat.natCast_mul _ _
    have e2 : (P : Rat) = (b.den : Rat) * (j : Rat) := by rw [hj]; exact Rat.natCast_mul _ _
    have e3 : (a + b) * (P : Rat) = a * (P : Rat) + b * (P : Rat) := by grind
    rw [e3]
    conv => lhs; arg 1; rw [e1]
    conv => lhs; arg 2; rw [e2]
    grind
  have := den_dvd_of e
  rwa [Int.natAbs_natCast] at this
theorem co_den (x : Int) : ∀ (l : Fo), (co x l).den ∣ dpr l
  | [] => by simp [co, dpr]
  | p :: l => by
    simp only [co, dpr]
    refine add_den_dvd ?_ (Nat.dvd_trans (co_den x l) (Nat.dvd_mul_left _ _))
    split
    · exact Nat.dvd_mul_right _ _
    · exact Nat.one_dvd _
theorem dpr_ln : ∀ (l : Fo), dpr l < BB ^ (wts l + 1)
  | [] => by simp [dpr, wts]; rw [BB_eq]; omega
  | p :: l => by
    simp only [dpr, wts, wt]
    have h1 := ln_lt p.2.den
    have h2 := dpr_ln l
    have h3 : p.2.den * dpr l < BB ^ (ln p.2.den) * BB ^ (wts l + 1) := Nat.mul_lt_mul'' h1 h2
    rw [← Nat.pow_add] at h3
    exact Nat.lt_of_lt_of_le h3 (pow_mono (by omega))
theorem ct_sz {l : Fo} {s : List Rat} {g : Rat} (hs : ∀ c ∈ s, ∃ x, c = co x l) (hz : ∀ c ∈ s, c ≠ 0) (h : Ct g s) : sz (wts l + 1) g := by
  obtain ⟨c, hc⟩ : ∃ c, c ∈ s := by
    rcases s with _ | ⟨c, t⟩
    · exact absurd rfl h.some
    · exact ⟨c, List.mem_cons_self ..⟩
  refine ⟨?_, ?_⟩
  · obtain ⟨x, e⟩ := hs c hc
    have h1 := h.num_dvd hc
    have h2 : 0 < c.num.natAbs := Int.natAbs_pos.2 (fun e => hz c hc (Rat.num_eq_zero.1 e))
    have h3 : g.num.natAbs ≤ c.num.natAbs := Nat.le_of_dvd h2 h1
    have h4 := (co_sz x l).1
    rw [← e] at h4
    exact Nat.le_trans (ln_mono h3) h4
  · have h1 := h.den_dvd (P := dpr l) (fun c hc => by obtain ⟨x, rfl⟩ := hs c hc; exact co_den x l)
    exact ln_le_of_lt (Nat.lt_of_le_of_lt (Nat.le_of_dvd (dpr_pos l) h1) (dpr_ln l))
def Prm (l : Fo) (g : Rat) : Prop := (l = [] ∧ g = 1) ∨ ∃ p m, l = p :: m ∧ Ct g (l.map Prod.snd) ∧ 0 < g * p.2
theorem Prm.ne {l : Fo} {g : Rat} (h : Prm l g) : g ≠ 0 := by
  rcases h with ⟨_, rfl⟩ | ⟨p, m, _, h, _⟩
  · decide
  · exact h.1
theorem Prm.uniq {l : Fo} {g h : Rat} (a : Prm l g) (b : Prm l h) : h = g := by
  rcases a with ⟨rfl, rfl⟩ | ⟨p, m, rfl, a1, a2⟩
  · rcases b with ⟨_, rfl⟩ | ⟨p, m, e, _⟩
    · rfl
    · exact absurd e (by simp)
  · rcases b with ⟨e, _⟩ | ⟨p', m', e, b1, b2⟩
    · exact absurd e (by simp)
    · obtain ⟨rfl, rfl⟩ := List.cons.inj e
      rcases a1.uniq b1 with e | e
      · exact e
      · rw [e] at b2
        grind
theorem Prm.sz {l : Fo} {g : Rat} (h : Prm (nfm l) g) : sz (wts l + 1) g := by
  rcases h with ⟨_, rfl⟩ | ⟨p, m, e, h, _⟩
  · exact ⟨by show ln (am 1) ≤ _; rw [show am 1 = 1 from rfl, ln_one]; omega, by show ln 1 ≤ _; rw [ln_one]; omega⟩
  · refine ct_sz (l := l) (fun c hc => ?_) (fun c hc => ?_) h
    · obtain ⟨q, hq, rfl⟩ := List.mem_map.1 hc
      exact ⟨q.1, by rw [← nfm_co, (nfm_nrm l).co_mem hq]⟩
    · obtain ⟨q, hq, rfl⟩ := List.mem_map.1 hc
      exact (nfm_nrm l).2 q hq
theorem results_tc {fn : Func} {p u : Tmp} {ty : TypeId} (h : fn.results = #[.tmp u, .cell p ty]) (tmps : Array Value) (P : Program) (w : World) :
    (results fn tmps).run P w = ((asAddr (tmps.getD p undef)).run P w).andThen fun a w1 => ((loadVar ty a).run P w1).andThen fun v w2 => .ok (.tuple #[tmps.getD u undef, v]) w2 := by
  simp only [results, h]
  simp [Sem.run_bind]
theorem Thr.fatB {w : World} {c : Nat} {u0 u1 u2 : Value} {z0 : Bool} {a1 a2 : Option Addr} {n1 k1 n2 k2 : Nat} (h : Thr w c (.bool z0) (.slice a1 n1 k1) (.slice a2 n2 k2)) {a : Option Addr} {L : List Mo} (hF : FAt w a L) : FAt (set3 w c u0 u1 u2) a L := fun hn => by
  obtain ⟨b, off, e, hl, hc⟩ := hF hn
  have hsz : (set3 w c u0 u1 u2).heap.size = w.heap.size := by simp only [set3, World.size_setCell]
  refine ⟨b, off, e, by rw [hsz]; exact hl, fun i p hi => ?_⟩
  have hm := hc i p hi
  obtain ⟨o, ho⟩ : ∃ o, off + i * 4 = o := ⟨_, rfl⟩
  rw [ho] at hm ⊢
  obtain ⟨⟨h0, h1, h2⟩, hr⟩ := h
  have h3 : c = b → 3 ≤ o := fun e => by
    subst e
    have k := hm.1
    rcases Nat.lt_or_ge o 3 with h9 | h9
    · exfalso
      obtain rfl | rfl | rfl : o = 0 ∨ o = 1 ∨ o = 2 := by omega
      · rw [h0] at k; simp at k
      · rw [h1] at k; simp at k
      · rw [h2] at k; simp at k
    · exact h9
  have far : ∀ {o' : Nat} {x : Value}, o ≤ o' → w.cell? ⟨b, o', none⟩ = some x → (set3 w c u0 u1 u2).cell? ⟨b, o', none⟩ = some x := fun ho' hx => by
    unfold set3
    rw [World.cell?_setCell_other _ _ _ _ (fun e => by simp at e; omega), World.cell?_setCell_other _ _ _ _ (fun e => by simp at e; omega), World.cell?_setCell_other _ _ _ _ (fun e => by simp at e; omega)]
    exact hx
  exact ⟨far (Nat.le_refl _) hm.1, far (by omega) hm.2.1, far (by omega) hm.2.2.1, far (by omega) hm.2.2.2⟩
theorem Thr.entsB {w : World} {c : Nat} {u0 u1 u2 : Value} {z0 : Bool} {a1 a2 : Option Addr} {n1 k1 n2 k2 : Nat} (h : Thr w c (.bool z0) (.slice a1 n1 k1) (.slice a2 n2 k2)) {R : List Mo} (hE : Ents w R) : Ents (set3 w c u0 u1 u2) R := fun p hp =>
  ⟨⟨h.seg (by simp) (by simp) (by simp) (hE p hp).ok.1, (hE p hp).ok.2.1, (hE p hp).ok.2.2.1, h.seg (by simp) (by simp) (by simp) (hE p hp).ok.2.2.2.1, (hE p hp).ok.2.2.2.2.1, (hE p hp).ok.2.2.2.2.2⟩, (hE p hp).low⟩
def PAns (w : World) (l : Fo) (e : Ending) (w' : World) : Prop :=
  ∃ g a c R p q, e = .returned (.tuple #[.slice a (R : List Mo).length c, .agg #[.bool (ng (g : Rat).num), .slice p (ln (am g.num)) (ln (am g.num)), .slice q (ln g.den) (ln g.den)]]) ∧ Prm l g ∧ Below w.heap.size w w' ∧
    Sl w' a c R ∧ Ents w' R ∧ fo R = nfm (fmap (fun r => g⁻¹ * r) l) ∧ Seg w' p (am g.num) (ln (am g.num)) ∧ Seg w' q g.den (ln g.den)
def cfR (R : List Mo) (i : Nat) : RatV := (R.getD i default).2
theorem cfR_at {R : List Mo} {k : Nat} {p : Mo} (h : R[k]? = some p) : cfR R k = p.2 := by
  unfold cfR
  rw [List.getD_eq_getElem?_getD, h]
  rfl
theorem cfR_mem {R : List Mo} {k : Nat} (h : k < R.length) : ∃ p, p ∈ R ∧ cfR R k = p.2 := ⟨R[k], List.getElem_mem h, cfR_at (List.getElem?_eq_getElem h)⟩
theorem lv_cfR (R : List Mo) : lv (cfR R) R.length = (fo R).map Prod.snd := by
  unfold lv
  apply List.ext_getElem
  · simp [fo]
  · intro i h1 h2
    have hi : i < R.length := by simpa using h1
    have := cfR_at (List.getElem?_eq_getElem hi)
    simp [fo, this]
theorem content_is (R : List Mo) (l : Fo) (N : Nat) (ao : Option Addr) (cap : Nat) (p q : Option Addr) (w : World) (hf : fo R = l) (hn : nrm l) (hE : Ents w R) (hA : RatsAt w ao R.length (cfR R)) (hc : R.length ≤ cap) (hm : cap ≤ 9223372036854775807)
    (hs : ∀ s g, (∀ c ∈ s, c ∈ l.map Prod.snd) → Ct g s → sz 10000000 g) (h1 : Seg w p 1 1) (h2 : Seg w q 1 1) :
    Calls Tryz.prog 13 #[.slice ao R.length cap, .agg #[.bool false, .slice p 1 1, .slice q 1 1], .func (.func 15) #[] #[]] w fun e w' => ∃ g, Prm l g ∧ QA w g e w' := by
  rcases R with _ | ⟨p0, R'⟩
  · have hl : l = [] := hf.symm
    refine (byHalves_none ao cap false p 1 1 q 1 1 _ w).mono ?_
    rintro r w' ⟨rfl, hb⟩
    have e1 : ln (am ((1 : Rat).num)) = 1 := by show ln (am 1) = 1; rw [show am 1 = 1 from rfl, ln_one]
    have e2 : ln ((1 : Rat).den) = 1 := by show ln 1 = 1; rw [ln_one]
    refine ⟨1, Or.inl ⟨hl, rfl⟩, p, q, ?_, hb, ?_, Nat.le_refl _, ?_, ?_, Nat.le_refl _, ?_⟩
    · rw [e1, e2]; rfl
    · show Seg w' p 1 (ln (am ((1 : Rat).num))); rw [e1]; exact h1.later hb
    · show ln (am ((1 : Rat).num)) ≤ _; rw [e1]; omega
    · show Seg w' q 1 (ln ((1 : Rat).den)); rw [e2]; exact h2.later hb
    · show ln ((1 : Rat).den) ≤ _; rw [e2]; omega
  · obtain ⟨R, hR⟩ : ∃ R, p0 :: R' = R := ⟨_, rfl⟩
    have hlv := lv_cfR R
    have h0 : cfR R 0 = p0.2 := by rw [← hR]; rfl
    have hlen : 0 < R.length := by rw [← hR]; simp
    rw [hR] at hE hA hc hf ⊢
    rw [hf] at hlv
    refine (byHalvesC_is R.length R.length ao cap (cfR R) false p 1 1 q 1 1 w (Nat.le_refl _) hlen hc hm hA (fun i hi => ?_) (fun i hi => ?_) (fun i hi => ?_) (fun i j g hij hg => ?_)).mono ?_
    · obtain ⟨p, hp, e⟩ := cfR_mem hi
      rw [e]; exact (hE p hp).ok
    · obtain ⟨p, hp, e⟩ := cfR_mem hi
      rw [e]; exact (hE p hp).low
    · obtain ⟨p, hp, e⟩ := cfR_mem hi
      rw [e]
      exact hn.2 (p.1, p.2.val) (by rw [← hf]; exact List.mem_map.2 ⟨p, hp, rfl⟩)
    · refine hs _ g (fun c hc => ?_) hg
      unfold lv at hc
      obtain ⟨t, ht, rfl⟩ := List.mem_map.1 hc
      have ht := List.mem_range.1 ht
      obtain ⟨p, hp, e⟩ := cfR_mem (show i + t < R.length by omega)
      show (cfR R (i + t)).val ∈ _
      rw [e, ← hf]
      exact List.mem_map.2 ⟨(p.1, p.2.val), List.mem_map.2 ⟨p, hp, rfl⟩, rfl⟩
    · rintro e w' ⟨g, hg, hp, hq⟩
      rw [hlv] at hg
      rw [h0] at hp
      refine ⟨g, Or.inr ⟨(p0.1, p0.2.val), fo R', ?_, hg, hp⟩, hq⟩
      rw [← hf, ← hR]; rfl
set_option maxHeartbeats 8000000 in
set_option maxRecDepth 100000 in
theorem lPrimeG_is (a : Option Addr) (ca : Nat) (L : List Mo) (w : World) (hF : FAt w a L) (hok : ∀ p ∈ L, p.2.ok w) (hc : L.length ≤ ca) (hm : L.length ≤ 1048576) (hmm : ∀ p ∈ L, p.2.m < 35184372087808) (ht : thin (fo L)) (hC : ∀ (s : List Rat) g, (∀ c ∈ s, c ∈ (nfm (fo L)).map Prod.snd) → Ct g s → sz 10000000 g) (hK : ∀ q ∈ nfm (fo L), sz 10000000 q.2) (hf : ∀ g, Prm (nfm (fo L)) g → fine (fmap (fun r => g⁻¹ * r) (nfm (fo L)))) :
    Calls Tryz.prog 4 #[.slice a L.length ca] w (PAns w (nfm (fo L))) := by
  obtain ⟨k0, hk0, hy0, hy1, hy2⟩ := info_parts info_Rat
  have G1 := hide' (fun w' (hb9 : Below w.heap.size w w') => lNorm_is a ca L w' (hF.later hb9) (fun p hp => (hok p hp).later hb9) hc hm hmm ht)
  have hlen := nfm_length (fo L)
  rw [fo_length] at hlen
  have hnr := nfm_nrm (fo L)
  have HP := hide' (fun g (h : Prm (nfm (fo L)) g) => (show sz 10000000 g by rcases h with ⟨_, rfl⟩ | ⟨p, m, _, h, _⟩; exact ⟨by show ln (am 1) ≤ _; rw [show am 1 = 1 from rfl, ln_one]; omega, by show ln 1 ≤ _; rw [ln_one]; omega⟩; exact hC _ g (fun c hc => hc) h))
  have HC := hide' hC
  have HK := hide' hK
  have HF := hide' hf
  clear hC hK hf
  obtain ⟨l, hl⟩ : ∃ l, nfm (fo L) = l := ⟨_, rfl⟩
  rw [hl] at G1 hlen hnr HP HC HK HF ⊢
  clear hl hF hok hc hmm ht
  obtain ⟨TT, hTT⟩ : ∃ TT, PAns w l = TT := ⟨_, rfl⟩
  rw [hTT]
  replace hTT := hide' hTT
  have GW' := fun w' => qWhole_is 1 w' (by omega) (by omega)
  rw [show ng 1 = false from rfl, show am 1 = 1 from rfl, ln_one] at GW'
  have GW := hide' GW'
  clear GW'
  go_enter Tryz.func4, Tryz.ntmps4
  go_wp2_with fail
  obtain ⟨wA, hwA⟩ : ∃ wA, w.alloc (.cells #[.bool false, .slice none 0 0, .slice none 0 0] 29) = wA := ⟨_, rfl⟩
  have bA : Below w.heap.size w wA := by subst hwA; exact below_alloc _
  have rA : Thr wA w.heap.size (.bool false) (.slice none 0 0) (.slice none 0 0) := by subst hwA; exact ⟨⟨by go_simp, by go_simp, by go_simp⟩, row_new w _ 29⟩
  rw [hwA]
  clear hwA
  refine (G1.out _ bA).mono ?_
  rintro e w1 ⟨a1, c1, R, rfl, b1, s1, e1, f1⟩
  replace e1 : Ents w1 R := e1
  replace rA := rA.later b1
  replace bA := bA.trans (b1.mono bA.size)
  clear b1
  have hRl : R.length ≤ 1048576 := by rw [← fo_length, f1]; omega
  go_wp2_with fail
  go_loopw [5, 15] (fun vo vi wr => ∃ k : Nat, k ≤ R.length ∧ vi = .int .i64 k ∧ wr.ownsRow w1.heap.size 29 3 vo k (cellsV (cfR R) k) ∧ Below w1.heap.size w1 wr) (fun _ vi _ => R.length - (intOf vi).toNat)
  case atStart => exact ⟨0, Nat.zero_le _, rfl, World.ownsRow_nil _ _ _ _, Below.refl _ _⟩
  case round =>
    obtain ⟨k, hk, rfl, hO, hB⟩ := hrel
    by_cases hlt : k < R.length
    · obtain ⟨pk, hpk⟩ : ∃ p, R[k]? = some p := ⟨R[k], List.getElem?_eq_getElem hlt⟩
      obtain ⟨b, off, rfl, hbb, hcell⟩ := s1.lies (by intro e; rw [e] at hlt; simp at hlt)
      obtain ⟨c0, c3, c4, c5⟩ := hcell k pk hpk
      have hcl := s1.len
      replace c0 := below_cell hB c0
      replace c3 := below_cell hB c3
      replace c4 := below_cell hB c4
      replace c5 := below_cell hB c5
      have hcr : cellsV (cfR R) (k + 1) = cellsV (cfR R) k ++ [.bool pk.2.s, .slice pk.2.a pk.2.n pk.2.c, .slice pk.2.b pk.2.m pk.2.e] := by simp only [cellsV]; rw [cfR_at hpk]
      clear hpk hcell
      obtain ⟨y, q0⟩ := pk
      simp only at c0 c3 c4 c5 hcr
      have i1 : (0 : Int) ≤ (k : Int) := by omega
      have i2 : (k : Int) < (R.length : Int) := by omega
      obtain ⟨wM, hwM⟩ : ∃ wM, wr.alloc (.cells #[.int .i64 y, .bool q0.s, .slice q0.a q0.n q0.c, .slice q0.b q0.m q0.e] 42) = wM := ⟨_, rfl⟩
      have bM : Below wr.heap.size wr wM := by subst hwM; exact below_alloc _
      have a3 : wM.cell? ⟨wr.heap.size, 0, none⟩ = some (.int .i64 y) := by subst hwM; go_simp
      have a4 : wM.cell? ⟨wr.heap.size, 1, none⟩ = some (.bool q0.s) := by subst hwM; go_simp
      have a5 : wM.cell? ⟨wr.heap.size, 2, none⟩ = some (.slice q0.a q0.n q0.c) := by subst hwM; go_simp
      have a6 : wM.cell? ⟨wr.heap.size, 3, none⟩ = some (.slice q0.b q0.m q0.e) := by subst hwM; go_simp
      obtain ⟨w3, hw3⟩ : ∃ w3, wM.alloc (.cells #[.bool q0.s, .slice q0.a q0.n q0.c, .slice q0.b q0.m q0.e] 29) = w3 := ⟨_, rfl⟩
      have hnew := heap_alloc_new wM (.cells #[.bool q0.s, .slice q0.a q0.n q0.c, .slice q0.b q0.m q0.e] 29)
      have b3 := below_alloc (w := wM) (.cells #[.bool q0.s, .slice q0.a q0.n q0.c, .slice q0.b q0.m q0.e] 29)
      rw [hw3] at hnew b3
      have bT : Below wr.heap.size wr w3 := bM.trans (b3.mono bM.size)
      have hO3 := own_below hO bT
      have hB3 := hB.trans (bT.mono hB.size)
      have sz1 := bM.size
      have sz3 := b3.size
      have sz4 := hB.size
      have hbs : w1.heap.size ≤ w3.heap.size := by omega
      have hrow := fun k hk => (hO.lt k hk)
      have hbl : (k + 1) * 56 ≤ 140737488355328 := by omega
      have hj1 : k + 1 ≤ maxLen := by simp only [maxLen]; omega
      go_wp2_with (at_builtin; (try rw [hwM]); (try rw [hw3]); refine wpList_append_lies _ (by rfl) _ _ _ (by rfl) w1.heap.size 29 k0 _ 3 56 Tryz.underlying45 hk0 hy0 hy1 hy2 rfl (by omega) u5 k (cellsV (cfR R) k) (by rfl) hO3 ⟨wM.heap.size, 0, none⟩ 1 1 [.bool q0.s, .slice q0.a q0.n q0.c, .slice q0.b q0.m q0.e] (by rfl) (by rfl) (World.news_of_block (cs := #[.bool q0.s, .slice q0.a q0.n q0.c, .slice q0.b q0.m q0.e]) (t := 29) (fr := (0, 0)) hnew) (by simp [Value.oneCell']) (by omega) hj1 hbl hbs w3.heap.size rfl ?_)
      intro gb cap w9 hown4 hgrow hat hlt4
      have I1 := hide' (And.intro (show w9.ownsRow w1.heap.size 29 3 (.slice (some ⟨gb, 0, none⟩) (k + 1) cap) (k + 1) (cellsV (cfR R) (k + 1)) by rw [hcr]; exact hown4) (hB3.trans (below_grown hB3.size (fun g hg => (hrow g hg).1) hgrow)))
      clear hown4 hgrow hat hO hO3 hnew b3 bM bT hB hB3 hrow
      go_wp2
      go_roundw
      case rel => exact ⟨k + 1, by omega, by go_num, I1.out.1, I1.out.2⟩
      case measure => simp [intOf]; omega
    · obtain rfl : k = R.length := by omega
      have i1 : ¬ (R.length : Int) < (R.length : Int) := by omega
      obtain ⟨ao, co9, rfl, hjc, hcm, hRA⟩ := own_rats hO
      have GH := hide' (fun w' (hb9 : Below wr.heap.size wr w') p q h1 h2 => content_is R l 0 ao co9 p q w' f1 hnr ((e1.later hB).later hb9) (hRA.later hb9) hjc (by simpa [maxLen] using hcm) HC.out h1 h2)
      replace rA := rA.later hB
      replace s1 := s1.later hB
      replace e1 := e1.later hB
      replace bA := bA.trans (hB.mono bA.size)
      clear hO hRA hB hjc hcm
      go_wp2_with fail
      refine (GW.out _).mono ?_
      rintro e w2 ⟨p, p', rfl, n1, n2⟩
      have b2 := n1.below
      go_wp2_with fail
      refine (GH.out _ b2 p p' n1.seg n2.seg).mono ?_
      rintro e w3 ⟨g, hP, x3, y3, rfl, b3, k3⟩
      have hz := HP.out g hP
      have h0 := hP.ne
      have hzi := szInv hz h0
      replace rA := (rA.later b2).later b3
      replace s1 := (s1.later b2).later b3
      replace e1 := (e1.later b2).later b3
      replace bA := (bA.trans (b2.mono bA.size))
      replace bA := bA.trans (b3.mono bA.size)
      clear n1 n2 b2 b3 GH GW
      have lt3 : w.heap.size < w3.heap.size := rA.2.lt
      obtain ⟨wC, hwC⟩ : ∃ wC, w3.alloc (.cells #[.bool (ng g.num), .slice x3 (ln (am g.num)) (ln (am g.num)), .slice y3 (ln g.den) (ln g.den)] 29) = wC := ⟨_, rfl⟩
      have bC : Below w3.heap.size w3 wC := by subst hwC; exact below_alloc _
      have y0 : wC.cell? ⟨w3.heap.size, 0, none⟩ = some (.bool (ng g.num)) := by subst hwC; go_simp
      have y1 : wC.cell? ⟨w3.heap.size, 1, none⟩ = some (.slice x3 (ln (am g.num)) (ln (am g.num))) := by subst hwC; go_simp
      have y2 : wC.cell? ⟨w3.heap.size, 2, none⟩ = some (.slice y3 (ln g.den) (ln g.den)) := by subst hwC; go_simp
      replace rA := rA.later bC
      replace s1 := s1.later bC
      replace e1 := e1.later bC
      replace bA := bA.trans (bC.mono bA.size)
      replace k3 := k3.later bC
      clear bC
      have GI := hide' (qInv_is (ng g.num) x3 (ln (am g.num)) (ln (am g.num)) (am g.num) y3 (ln g.den) (ln g.den) g.den (g⁻¹).num (g⁻¹).den wC (Nat.le_refl _) (Nat.le_trans hz.1 (by omega)) k3.1 (Nat.le_refl _) (Nat.le_trans hz.2 (by omega)) k3.2.2.2.1 (by rw [rn_nf g.den_pos, rd_nf g.den_pos]; exact low_of (fun e => h0 (Rat.num_eq_zero.1 e)) (Rat.inv_def g)))
      obtain ⟨v, hv⟩ : ∃ v, g⁻¹ = v := ⟨_, rfl⟩
      rw [hv] at GI hzi
      go_wp2_with fail
      clear hwC
      refine GI.out.mono ?_
      rintro e w5 ⟨x5, y5, rfl, n5, n6⟩
      have b5 := n5.below
      have k5 := n5.seg
      have k6 := n6.seg
      clear n5 n6 GI
      replace rA := rA.later b5
      replace s1 := s1.later b5
      replace e1 := e1.later b5
      replace bA := bA.trans (b5.mono bA.size)
      replace k3 := k3.later b5
      replace y0 := below_cell b5 y0
      replace y1 := below_cell b5 y1
      replace y2 := below_cell b5 y2
      clear b5
      have lt5 : w.heap.size < w5.heap.size := rA.2.lt
      obtain ⟨wD, hwD⟩ : ∃ wD, w5.alloc (.cells #[.bool (ng v.num), .slice x5 (ln (am v.num)) (ln (am v.num)), .slice y5 (ln v.den) (ln v.den)] 29) = wD := ⟨_, rfl⟩
      have bC : Below w5.heap.size w5 wD := by subst hwD; exact below_alloc _
      have z0 : wD.cell? ⟨w5.heap.size, 0, none⟩ = some (.bool (ng v.num)) := by subst hwD; go_simp
      have z1 : wD.cell? ⟨w5.heap.size, 1, none⟩ = some (.slice x5 (ln (am v.num)) (ln (am v.num))) := by subst hwD; go_simp
      have z2 : wD.cell? ⟨w5.heap.size, 2, none⟩ = some (.slice y5 (ln v.den) (ln v.den)) := by subst hwD; go_simp
      replace rA := rA.later bC
      replace s1 := s1.later bC
      replace e1 := e1.later bC
      replace bA := bA.trans (bC.mono bA.size)
      replace k3 := k3.later bC
      replace k5 := k5.later bC
      replace k6 := k6.later bC
      replace y0 := below_cell bC y0
      replace y1 := below_cell bC y1
      replace y2 := below_cell bC y2
      clear bC
      have GS := hide' (fun w' (hb9 : Below wD.heap.size wD w') => lScaleF_is (nR v x5 y5) a1 c1 R 40000000 w' (s1.lies.later hb9) (fun p hp => (e1 p hp).ok.later hb9) s1.len hRl (show (nR v x5 y5).ok w' from ⟨k5.later hb9, Nat.le_refl _, Nat.le_trans hzi.1 (by omega), k6.later hb9, Nat.le_refl _, Nat.le_trans hzi.2 (by omega)⟩)
        (fun p hp => by have h1 := HK.out (p.1, p.2.val) (by rw [← f1]; exact List.mem_map.2 ⟨p, hp, rfl⟩); obtain ⟨h2, h3⟩ := low_ns (e1 p hp).low; have h4 := h1.1; have h5 := h1.2; have h6 := hzi.1; have h7 := hzi.2; rw [h2, h3]; show ln (am v.num) + ln v.den + _ + _ ≤ _; simp only at h4 h5; omega)
        (by have h6 := hzi.1; have h7 := hzi.2; show ln (am v.num) + ln v.den ≤ _; omega) (by omega) (by rw [nR_val, f1, ← hv]; exact HF.out g hP))
      rw [nR_val, f1] at GS
      have bW : Below wD.heap.size wD wD := Below.refl _ _
      clear s1 e1 k5 k6
      go_wp2_with fail
      clear hwD
      have bD : Below wD.heap.size wD wD.drew := (Below.refl _ _).drew
      have kz0 := below_cell bD z0
      have kz1 := below_cell bD z1
      have kz2 := below_cell bD z2
      have ky0 := below_cell bD y0
      have ky1 := below_cell bD y1
      have ky2 := below_cell bD y2
      replace bW := bW.trans (bD.mono bW.size)
      replace bA := bA.trans (bD.mono bA.size)
      replace rA := rA.later bD
      replace k3 := k3.later bD
      refine wp_region_held_drew (S := fun w' => w'.cell? ⟨w5.heap.size, 0, none⟩ = some (.bool (ng v.num)) ∧ w'.cell? ⟨w5.heap.size, 1, none⟩ = some (.slice x5 (ln (am v.num)) (ln (am v.num))) ∧ w'.cell? ⟨w5.heap.size, 2, none⟩ = some (.slice y5 (ln v.den) (ln v.den)) ∧ w'.cell? ⟨w3.heap.size, 0, none⟩ = some (.bool (ng g.num)) ∧ w'.cell? ⟨w3.heap.size, 1, none⟩ = some (.slice x3 (ln (am g.num)) (ln (am g.num))) ∧ w'.cell? ⟨w3.heap.size, 2, none⟩ = some (.slice y3 (ln g.den) (ln g.den))) (by kernel_rfl) ⟨kz0, kz1, kz2, ky0, ky1, ky2⟩ (fun hHeld => ?_)
      clear kz0 kz1 kz2 ky0 ky1 ky2
      generalize wD.drew = w0 at bD rA k3 bW bA hHeld ⊢
      clear z0 z1 z2 y0 y1 y2
      refine tk 0 (v := ?_) rfl (Or.inl ⟨by rfl, ?_⟩) ?_
      rotate_left
      · intro w9 hSw
        go_simp
        first | done | with_reducible rfl
      simp only [pP, pN, pS, pZ, pC]
      refine tk 1 (v := ?_) rfl (Or.inl ⟨by rfl, ?_⟩) ?_
      rotate_left
      · intro w9 hSw
        go_simp
        first | done | with_reducible rfl
      simp only [pP, pN, pS, pZ, pC]
      refine tk 3 (v := ?_) rfl (Or.inl ⟨by rfl, ?_⟩) ?_
      rotate_left
      · intro w9 hSw
        go_simp
        first | done | with_reducible rfl
      simp only [pP, pN, pS, pZ, pC]
      refine wpAnyH_ready (rs := [2]) (by kernel_rfl) (by simp) ?_
      refine cons' rfl (fun KK hKK => ?_)
      go_simp
      refine (GS.out _ bW).mono ?_
      rintro e w6 ⟨a6, c6, R6, rfl, b6, s6, e6, f6⟩
      have bC := b6
      replace bW := bW.trans (bC.mono bW.size)
      replace bA := bA.trans (bC.mono bA.size)
      replace rA := rA.later bC
      replace k3 := k3.later bC
      replace hHeld := (⟨below_cell bC hHeld.1, below_cell bC hHeld.2.1, below_cell bC hHeld.2.2.1, below_cell bC hHeld.2.2.2.1, below_cell bC hHeld.2.2.2.2.1, below_cell bC hHeld.2.2.2.2.2⟩ : _ ∧ _ ∧ _ ∧ _ ∧ _ ∧ _)
      clear bC
      go_wp2_with fail
      have E6 : Ents w6 R6 := e6
      clear e6 b6
      refine hKK.out _ _ hHeld ?_
      clear hHeld
      intro hHeld
      clear hKK KK
      try simp only [pP, pN, pS, pZ, pC]
      refine tk 4 (v := ?_) rfl (Or.inl ⟨by rfl, ?_⟩) ?_
      rotate_left
      · intro w9 hSw
        go_simp
        first | done | with_reducible rfl
      simp only [pP, pN, pS, pZ, pC]
      refine wpAnyH_ready (rs := [5]) (by kernel_rfl) (by simp) ?_
      refine cons' rfl (fun KK hKK => ?_)
      have fz := fun o => rA.2.frozen o
      have t0 := rA.1.1
      have t1 := rA.1.2.1
      have t2 := rA.1.2.2
      have g8 := rA.seg (u0 := .bool (ng g.num)) (u1 := .slice x3 (ln (am g.num)) (ln (am g.num))) (u2 := .slice y3 (ln g.den) (ln g.den)) (by simp) (by simp) (by simp) k3.1
      have g9 := rA.seg (u0 := .bool (ng g.num)) (u1 := .slice x3 (ln (am g.num)) (ln (am g.num))) (u2 := .slice y3 (ln g.den) (ln g.den)) (by simp) (by simp) (by simp) k3.2.2.2.1
      have s6N : Sl _ _ _ _ := ⟨rA.fatB (u0 := .bool (ng g.num)) (u1 := .slice x3 (ln (am g.num)) (ln (am g.num))) (u2 := .slice y3 (ln g.den) (ln g.den)) s6.lies, s6.len, s6.nn⟩
      have E6N : Ents _ _ := rA.entsB (u0 := .bool (ng g.num)) (u1 := .slice x3 (ln (am g.num)) (ln (am g.num))) (u2 := .slice y3 (ln g.den) (ln g.den)) E6
      replace bA : Below w.heap.size w (set3 w6 (w.heap.size) (.bool (ng g.num)) (.slice x3 (ln (am g.num)) (ln (am g.num))) (.slice y3 (ln g.den) (ln g.den))) := below_set3 bA (by omega)
      have hH2 := (⟨(set3_far (w := w6) (c := w.heap.size) (b := w5.heap.size) (o := 0) (u0 := .bool (ng g.num)) (u1 := .slice x3 (ln (am g.num)) (ln (am g.num))) (u2 := .slice y3 (ln g.den) (ln g.den)) (by omega)).trans hHeld.1, (set3_far (w := w6) (c := w.heap.size) (b := w5.heap.size) (o := 1) (u0 := .bool (ng g.num)) (u1 := .slice x3 (ln (am g.num)) (ln (am g.num))) (u2 := .slice y3 (ln g.den) (ln g.den)) (by omega)).trans hHeld.2.1, (set3_far (w := w6) (c := w.heap.size) (b := w5.heap.size) (o := 2) (u0 := .bool (ng g.num)) (u1 := .slice x3 (ln (am g.num)) (ln (am g.num))) (u2 := .slice y3 (ln g.den) (ln g.den)) (by omega)).trans hHeld.2.2.1, (set3_far (w := w6) (c := w.heap.size) (b := w3.heap.size) (o := 0) (u0 := .bool (ng g.num)) (u1 := .slice x3 (ln (am g.num)) (ln (am g.num))) (u2 := .slice y3 (ln g.den) (ln g.den)) (by omega)).trans hHeld.2.2.2.1, (set3_far (w := w6) (c := w.heap.size) (b := w3.heap.size) (o := 1) (u0 := .bool (ng g.num)) (u1 := .slice x3 (ln (am g.num)) (ln (am g.num))) (u2 := .slice y3 (ln g.den) (ln g.den)) (by omega)).trans hHeld.2.2.2.2.1, (set3_far (w := w6) (c := w.heap.size) (b := w3.heap.size) (o := 2) (u0 := .bool (ng g.num)) (u1 := .slice x3 (ln (am g.num)) (ln (am g.num))) (u2 := .slice y3 (ln g.den) (ln g.den)) (by omega)).trans hHeld.2.2.2.2.2⟩ : _ ∧ _ ∧ _ ∧ _ ∧ _ ∧ _)
      have rD := rA.put (u0 := .bool (ng g.num)) (u1 := .slice x3 (ln (am g.num)) (ln (am g.num))) (u2 := .slice y3 (ln g.den) (ln g.den))
      go_simp
      clear t0 t1 t2 fz rA
      refine hKK.out _ _ hH2 ?_
      clear hHeld
      intro hHeld
      clear hKK KK
      try simp only [pP, pN, pS, pZ, pC]
      clear hH2
      try unfold set3 at g8
      try unfold set3 at g9
      try unfold set3 at s6N
      try unfold set3 at E6N
      try unfold set3 at rD
      try unfold set3 at bA
      try unfold set3 at hHeld
      generalize (((w6.setCell ⟨w.heap.size, 0, none⟩ (.bool (ng g.num))).setCell ⟨w.heap.size, 1, none⟩ (.slice x3 (ln (am g.num)) (ln (am g.num)))).setCell ⟨w.heap.size, 2, none⟩ (.slice y3 (ln g.den) (ln g.den))) = w9 at g8 g9 s6N E6N rD bA hHeld ⊢
      refine wpAnyH_done (by kernel_rfl) ?_ _
      obtain ⟨⟨v0, v1, v2⟩, vR⟩ := rD
      go_wp2
      refine bodyPost_ret (v := .tuple #[.slice a6 R6.length c6, .agg #[.bool (ng g.num), .slice x3 (ln (am g.num)) (ln (am g.num)), .slice y3 (ln g.den) (ln g.den)]]) (by rw [results_tc rfl]; go_simp) rfl ?_
      rw [← hTT.out]
      exact ⟨g, a6, c6, R6, x3, y3, rfl, hP, bA, s6N, E6N, by rw [f6, hv], g8, g9⟩
theorem lPrime_is (a : Option Addr) (ca : Nat) (L : List Mo) (w : World) (hF : FAt w a L) (hok : ∀ p ∈ L, p.2.ok w) (hc : L.length ≤ ca) (hm : L.length ≤ 1048576) (hmm : ∀ p ∈ L, p.2.m < 35184372087808) (hw : wts (fo L) ≤ 8388608) :
    Calls Tryz.prog 4 #[.slice a L.length ca] w (PAns w (nfm (fo L))) := by
  have hwn := wts_nfm (fo L)
  have hlen := nfm_length (fo L)
  rw [fo_length] at hlen
  have hnr := nfm_nrm (fo L)
  refine lPrimeG_is a ca L w hF hok hc hm hmm (thin_of (by omega)) (fun s g hs h => ?_) (fun q hq => ?_) (fun g hg => ?_)
  · exact (ct_sz (l := fo L) (fun c hc => by obtain ⟨q, hq, rfl⟩ := List.mem_map.1 (hs c hc); exact ⟨q.1, by rw [← nfm_co, hnr.co_mem hq]⟩) (fun c hc => by obtain ⟨q, hq, rfl⟩ := List.mem_map.1 (hs c hc); exact hnr.2 q hq) h).mono (by omega)
  · have h := (co_sz q.1 (fo L)).mono (show wts (fo L) + 1 ≤ 10000000 by omega)
    rwa [← nfm_co, hnr.co_mem hq] at h
  · exact fine_scale (szInv hg.sz hg.ne) (by omega)
theorem fmap_map (f g : Rat → Rat) (l : Fo) : fmap f (fmap g l) = fmap (fun r => f (g r)) l := by unfold fmap; rw [List.map_map]; rfl
theorem fmap_self {f : Rat → Rat} (l : Fo) (h : ∀ r, f r = r) : fmap f l = l := by
  unfold fmap
  conv => rhs; rw [← List.map_id l]
  exact List.map_congr_left fun p _ => by rw [h]; rfl
theorem nrm_scale {l : Fo} {c : Rat} (h : nrm l) (hc : c ≠ 0) : nrm (fmap (fun r => c * r) l) := by
  refine ⟨?_, fun p hp => ?_⟩
  · unfold fmap
    exact List.pairwise_map.2 h.1
  · obtain ⟨q, hq, rfl⟩ := List.mem_map.1 hp
    intro e
    rcases Rat.mul_eq_zero.1 e with e | e
    · exact hc e
    · exact h.2 q hq e
theorem nfm_scale {c : Rat} (l : Fo) (hc : c ≠ 0) : nfm (fmap (fun r => c * r) l) = fmap (fun r => c * r) (nfm l) :=
  (nfm_uniq (nrm_scale (nfm_nrm l) hc) fun x => by rw [co_scale, nfm_co, co_scale]).symm
theorem nfm_scale_nrm {c : Rat} {l : Fo} (h : nrm l) (hc : c ≠ 0) : nfm (fmap (fun r => c * r) l) = fmap (fun r => c * r) l := (nfm_self (nrm_scale h hc)).symm
theorem Ct.scale {g c : Rat} {s : List Rat} (h : Ct g s) (hc : c ≠ 0) : Ct (c * g) (s.map fun x => c * x) := by
  obtain ⟨hg, zs, rfl, h1⟩ := h
  refine ⟨fun e => ?_, zs, ?_, h1⟩
  · rcases Rat.mul_eq_zero.1 e with e | e
    · exact hc e
    · exact hg e
  · rw [List.map_map]
    refine List.map_congr_left fun z _ => ?_
    show c * (g * (z : Rat)) = c * g * (z : Rat)
    grind
theorem snd_scale (c : Rat) (l : Fo) : (fmap (fun r => c * r) l).map Prod.snd = (l.map Prod.snd).map fun x => c * x := by
  unfold fmap
  rw [List.map_map, List.map_map]
  rfl
theorem Prm.scale {l : Fo} {g c : Rat} (h : Prm l g) (hc : c ≠ 0) (hl : l ≠ []) : Prm (fmap (fun r => c * r) l) (c * g) := by
  rcases h with ⟨e, _⟩ | ⟨p, m, e, h, hp⟩
  · exact absurd e hl
  · refine Or.inr ⟨(p.1, c * p.2), fmap (fun r => c * r) m, by rw [e]; rfl, ?_, ?_⟩
    · rw [snd_scale]
      exact h.scale hc
    · show 0 < c * g * (c * p.2)
      have h2 : (0 : Rat) < c * c := by
        rcases (show c < 0 ∨ 0 < c by grind) with h | h
        · have := Rat.mul_pos (show (0 : Rat) < -c by grind) (show (0 : Rat) < -c by grind)
          grind
        · exact Rat.mul_pos h h
      have := Rat.mul_pos h2 hp
      grind
theorem shape_back {l : Fo} {g : Rat} (hg : g ≠ 0) : fmap (fun r => g * r) (fmap (fun r => g⁻¹ * r) l) = l := by
  rw [fmap_map]
  exact fmap_self l fun r => by
    have : g * g⁻¹ = 1 := Rat.mul_inv_cancel g hg
    grind
theorem shape_scale {l : Fo} {g g' c : Rat} (h : Prm l g) (hc : c ≠ 0) (h' : Prm (fmap (fun r => c * r) l) g') :
    fmap (fun r => g'⁻¹ * r) (fmap (fun r => c * r) l) = fmap (fun r => g⁻¹ * r) l ∧ (l ≠ [] → g' = c * g) := by
  by_cases hl : l = []
  · subst hl
    exact ⟨rfl, fun h => absurd rfl h⟩
  · have e := (h.scale hc hl).uniq h'
    refine ⟨?_, fun _ => e⟩
    rw [fmap_map, e]
    unfold fmap
    refine List.map_congr_left fun p _ => ?_
    have e2 : (c * g)⁻¹ * (c * p.2) = g⁻¹ * p.2 := by
      have h1 : c * c⁻¹ = 1 := Rat.mul_inv_cancel c hc
      have h2 : (c * g)⁻¹ = c⁻¹ * g⁻¹ := by rw [Rat.inv_mul_rev]; grind
      rw [h2]
      grind
    show (p.1, (c * g)⁻¹ * (c * p.2)) = (p.1, g⁻¹ * p.2)
    rw [e2]
theorem shape_ne {l m : Fo} {g h : Rat} (hP : Prm l g) (hQ : Prm m h) (hn : nrm l) (hm : nrm m) (hne : fmap (fun r => g⁻¹ * r) l ≠ fmap (fun r => h⁻¹ * r) m) :
    ¬ (l = [] ∧ m = []) ∧ ∀ p l', l = p :: l' → ∀ q m', m = q :: m' → fmap (fun r => q.2 / p.2 * r) l ≠ m := by
  refine ⟨fun ⟨e1, e2⟩ => hne (by rw [e1, e2]; rfl), fun p l' e1 q m' e2 e3 => hne ?_⟩
  have hp : p.2 ≠ 0 := hn.2 p (by rw [e1]; exact List.mem_cons_self ..)
  have hq : q.2 ≠ 0 := hm.2 q (by rw [e2]; exact List.mem_cons_self ..)
  have hk : q.2 / p.2 ≠ 0 := fun e => by
    have : q.2 = q.2 / p.2 * p.2 := by grind
    rw [e] at this
    exact hq (by rw [this]; grind)
  rw [← e3] at hQ
  have := (shape_scale hP hk hQ).1
  rw [e3] at this
  exact this.symm
theorem shape_eq {l m : Fo} {g h : Rat} (hg : g ≠ 0) (hh : h ≠ 0) (he : fmap (fun r => g⁻¹ * r) l = fmap (fun r => h⁻¹ * r) m) : fmap (fun r => h / g * r) l = m := by
  have h1 := shape_back (l := m) hh
  rw [← he, fmap_map] at h1
  rw [← h1]
  unfold fmap
  refine List.map_congr_left fun p _ => ?_
  have : h / g * p.2 = h * (g⁻¹ * p.2) := by rw [Rat.div_def]; grind
  show (p.1, h / g * p.2) = (p.1, h * (g⁻¹ * p.2))
  rw [this]
structure FS (l : Fo) : Prop where
  nr : nrm l
  ct : ∀ (s : List Rat) g, (∀ c ∈ s, c ∈ l.map Prod.snd) → Ct g s → sz 2097153 g
  co : ∀ q ∈ l, sz 2097153 q.2
  wt : wts l ≤ 10000000
  len : l.length ≤ 1048576
theorem FS.of {l : Fo} (hw : wts l ≤ 2097152) (hl : l.length ≤ 1048576) : FS (nfm l) := by
  have hnr := nfm_nrm l
  have h1 := wts_nfm l
  have h2 := nfm_length l
  refine ⟨hnr, fun s g hs h => ?_, fun q hq => ?_, by omega, by omega⟩
  · exact (ct_sz (l := l) (fun c hc => by obtain ⟨q, hq, rfl⟩ := List.mem_map.1 (hs c hc); exact ⟨q.1, by rw [← nfm_co, hnr.co_mem hq]⟩) (fun c hc => by obtain ⟨q, hq, rfl⟩ := List.mem_map.1 (hs c hc); exact hnr.2 q hq) h).mono (by omega)
  · have h := (co_sz q.1 l).mono (show wts l + 1 ≤ 2097153 by omega)
    rwa [← nfm_co, hnr.co_mem hq] at h
theorem FS.prm {l : Fo} {g : Rat} (h : FS l) (hP : Prm l g) : sz 2097153 g := by
  rcases hP with ⟨_, rfl⟩ | ⟨p, m, _, h1, _⟩
  · exact ⟨by show ln (am 1) ≤ _; rw [show am 1 = 1 from rfl, ln_one]; omega, by show ln 1 ≤ _; rw [ln_one]; omega⟩
  · exact h.ct _ g (fun c hc => hc) h1
theorem fmap_mem {f : Rat → Rat} {l : Fo} {p : Int × Rat} (h : p ∈ fmap f l) : ∃ q ∈ l, p = (q.1, f q.2) := by
  obtain ⟨q, hq, rfl⟩ := List.mem_map.1 h
  exact ⟨q, hq, rfl⟩
theorem ok_nR9 {w : World} {r : Rat} {x y : Option Addr} (hs : sz 30000000 r) (h1 : Seg w x (am r.num) (ln (am r.num))) (h2 : Seg w y r.den (ln r.den)) : (nR r x y).ok w :=
  ⟨h1, Nat.le_refl _, Nat.le_trans hs.1 (by omega), h2, Nat.le_refl _, Nat.le_trans hs.2 (by omega)⟩
theorem scaleBack_is (l : Fo) (g : Rat) (a : Option Addr) (c : Nat) (R : List Mo) (x y : Option Addr) (w : World) (hl : FS l) (hP : Prm l g) (hs : Sl w a c R) (hE : Ents w R) (hf : fo R = fmap (fun r => g⁻¹ * r) l) (h1 : Seg w x (am g.num) (ln (am g.num))) (h2 : Seg w y g.den (ln g.den)) :
    Calls Tryz.prog 6 #[.agg #[.bool (ng g.num), .slice x (ln (am g.num)) (ln (am g.num)), .slice y (ln g.den) (ln g.den)], .slice a R.length c] w (FAns w l) := by
  have hz := hl.prm hP
  have hzi := szInv hz hP.ne
  have hlen : R.length ≤ 1048576 := by rw [← fo_length, hf, fmap_length]; exact hl.len
  have hb : fmap (fun r => g * r) (fo R) = l := by rw [hf]; exact shape_back hP.ne
  have h := lScaleF_is (nR g x y) a c R 40000000 w hs.lies (fun p hp => (hE p hp).ok) hs.len hlen (ok_nR9 (hz.mono (by omega)) h1 h2)
    (fun p hp => by
      have hm : (p.1, p.2.val) ∈ fmap (fun r => g⁻¹ * r) l := by rw [← hf]; exact List.mem_map.2 ⟨p, hp, rfl⟩
      obtain ⟨q, hq, e⟩ := fmap_mem hm
      have e2 : p.2.val = g⁻¹ * q.2 := congrArg Prod.snd e
      have h3 := sz_mulY hzi (hl.co q hq)
      rw [← e2] at h3
      obtain ⟨h4, h5⟩ := low_ns (hE p hp).low
      have h6 := h3.1; have h7 := h3.2; have h8 := hz.1; have h9 := hz.2
      rw [h4, h5]
      show ln (am g.num) + ln g.den + _ + _ ≤ _
      omega)
    (by have h8 := hz.1; have h9 := hz.2; show ln (am g.num) + ln g.den ≤ _; omega) (by omega) (by rw [nR_val, hb]; exact fine_of (by have := hl.wt; omega))
  rw [nR_val, hb, ← nfm_self hl.nr] at h
  exact h
theorem primeScaled_is (l : Fo) (c : Rat) (a : Option Addr) (ca : Nat) (R : List Mo) (w : World) (hl : FS l) (hc : c ≠ 0) (hz : sz 2097153 c) (hs : Sl w a ca R) (hE : Ents w R) (hf : fo R = fmap (fun r => c * r) l) :
    Calls Tryz.prog 4 #[.slice a R.length ca] w (PAns w (fmap (fun r => c * r) l)) := by
  have hlen : R.length ≤ 1048576 := by rw [← fo_length, hf, fmap_length]; exact hl.len
  have hn := nrm_scale hl.nr hc
  have hzi := szInv hz hc
  have hco : ∀ q ∈ fmap (fun r => c * r) l, sz 4194306 q.2 := fun q hq => by
    obtain ⟨p, hp, rfl⟩ := fmap_mem hq
    exact (sz_mulY hz (hl.co p hp)).mono (by omega)
  have hct : ∀ (s : List Rat) g, (∀ x ∈ s, x ∈ (fmap (fun r => c * r) l).map Prod.snd) → Ct g s → sz 4194306 g := fun s g hs h => by
    have hi : c⁻¹ ≠ 0 := fun e => hc (by rw [← Rat.inv_inv c, e, Rat.inv_zero])
    have h1 := hl.ct _ _ (fun x hx => by
      obtain ⟨y, hy, rfl⟩ := List.mem_map.1 hx
      have h2 := hs y hy
      rw [snd_scale] at h2
      obtain ⟨z, hz9, rfl⟩ := List.mem_map.1 h2
      have e : c⁻¹ * (c * z) = z := by
        have : c * c⁻¹ = 1 := Rat.mul_inv_cancel c hc
        grind
      rw [e]
      exact hz9) (h.scale hi)
    have e : g = c * (c⁻¹ * g) := by
      have : c * c⁻¹ = 1 := Rat.mul_inv_cancel c hc
      grind
    rw [e]
    exact (sz_mulY hz h1).mono (by omega)
  have en : nfm (fo R) = fmap (fun r => c * r) l := by rw [hf]; exact (nfm_self hn).symm
  have h := lPrimeG_is a ca R w hs.lies (fun p hp => (hE p hp).ok) hs.len hlen
    (fun p hp => by
      have hm : (p.1, p.2.val) ∈ fmap (fun r => c * r) l := by rw [← hf]; exact List.mem_map.2 ⟨p, hp, rfl⟩
      have h3 := hco _ hm
      obtain ⟨h4, h5⟩ := low_ns (hE p hp).low
      have h7 := h3.2
      simp only at h7
      rw [h5]
      omega)
    ⟨Or.inl (by rw [hf]; exact hn), fun x => by
      rw [hf, co_scale]
      have h9 := co_sz x l
      have h8 := hl.wt
      exact (sz_mulY hz h9).mono (by omega)⟩
    (by rw [en]; exact fun s g hs h => (hct s g hs h).mono (by omega)) (by rw [en]; exact fun q hq => (hco q hq).mono (by omega))
    (by
      rw [en]
      intro g hg
      have hgz : sz 4194306 g := by
        rcases hg with ⟨_, rfl⟩ | ⟨p, m, _, h1, _⟩
        · exact ⟨by show ln (am 1) ≤ _; rw [show am 1 = 1 from rfl, ln_one]; omega, by show ln 1 ≤ _; rw [ln_one]; omega⟩
        · exact hct _ g (fun c hc => hc) h1
      rw [fmap_map]
      have e : (fun r => g⁻¹ * (c * r)) = fun r => (g⁻¹ * c) * r := funext fun r => by grind
      rw [e]
      exact fine_scale (sz_mulY (szInv hgz hg.ne) hz) (by have := hl.wt; omega))
  rw [en] at h
  exact h
end Go.Proofs.YtebbehlfocpjhaaGreat
