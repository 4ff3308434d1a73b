/-
  Layer 6: sum, collect.
-/
import Derived.Test.YtildhkefkeeflaaWN6
import Derived.Test.YtildhkefkeeflaaWN5
namespace Go.Proofs.Ytildhkefkeeflaa
open Go.RowKit
set_option linter.unusedVariables false
set_option linter.unusedSimpArgs false

/-- the normal form of a form -/
def nfm : Fo → Fo
  | [] => []
  | p :: l => mrg (if p.2 = 0 then [] else [p]) (nfm l)
theorem nfm_nrm : ∀ (l : Fo), nrm (nfm l)
  | [] => nrm.nil
  | p :: l => by
    simp only [nfm]
    refine nrm_mrg _ _ ?_ (nfm_nrm l)
    split
    · exact nrm.nil
    · rename_i h
      exact nrm.nil.cons (fun q hq => absurd hq (by simp)) h
theorem nfm_co (x : Int) : ∀ (l : Fo), co x (nfm l) = co x l
  | [] => rfl
  | p :: l => by
    simp only [nfm]
    rw [co_mrg, nfm_co x l]
    simp only [co]
    split
    · rename_i h
      simp only [co, h]
      split <;> rfl
    · simp only [co]
      rw [Rat.add_zero]
theorem nfm_uniq {l m : Fo} (h : nrm m) (hc : ∀ x, co x m = co x l) : m = nfm l := h.uniq (nfm_nrm l) fun x => by rw [hc, nfm_co]
theorem nfm_append (l m : Fo) : mrg (nfm l) (nfm m) = nfm (l ++ m) := nfm_uniq (nrm_mrg _ _ (nfm_nrm l) (nfm_nrm m)) fun x => by rw [co_mrg, nfm_co, nfm_co, co_append]
theorem nfm_self {l : Fo} (h : nrm l) : l = nfm l := nfm_uniq h fun _ => rfl
theorem nfm_single {p : Int × Rat} (h : ¬ nrm [p]) : nfm [p] = [] := by
  have h0 : p.2 = 0 := by
    by_cases e : p.2 = 0
    · exact e
    · exact absurd (nrm.nil.cons (fun q hq => absurd hq (by simp)) e) h
  simp only [nfm]
  rw [if_pos h0, mrg]
theorem mrg_length : ∀ (l m : Fo), (mrg l m).length ≤ l.length + m.length
  | [], m => by rw [mrg]; simp
  | p :: l, [] => by rw [mrg]; simp
  | p :: l, q :: m => by
    rw [mrg]
    split
    · have := mrg_length l (q :: m)
      simp only [List.length_cons] at *; omega
    · split
      · have := mrg_length (p :: l) m
        simp only [List.length_cons] at *; omega
      · have := mrg_length l m
        split <;> (simp only [List.length_cons] at *; omega)
termination_by l m => l.length + m.length
theorem nfm_length : ∀ (l : Fo), (nfm l).length ≤ l.length
  | [] => Nat.le_refl _
  | p :: l => by
    have h1 := nfm_length l
    have h2 := mrg_length (if p.2 = 0 then [] else [p]) (nfm l)
    simp only [nfm, List.length_cons]
    have h3 : (if p.2 = 0 then [] else [p] : Fo).length ≤ 1 := by split <;> simp
    omega

/-- how long the numbers of an entry in lowest terms are -/
theorem low_ns {q : RatV} (h : q.low) : q.n = ln (am q.val.num) ∧ q.m = ln q.val.den := by
  have e := low_val h
  exact ⟨congrArg RatV.n e, congrArg RatV.m e⟩
theorem entS_of {w : World} {R : List Mo} {l : Fo} {N : Nat} (hE : ∀ p ∈ R, Ent w p) (hR : fo R = nfm l) (hN : wts l + 1 ≤ N) (hN2 : N ≤ 1099511627776) : ∀ p ∈ R, EntS w p := by
  intro p hp
  have h1 : (p.1, p.2.val) ∈ fo R := List.mem_map.2 ⟨p, hp, rfl⟩
  have h2 : co p.1 (fo R) = p.2.val := (show nrm (fo R) by rw [hR]; exact nfm_nrm l).co_mem h1
  rw [hR, nfm_co] at h2
  have h3 := co_sz p.1 l
  rw [h2] at h3
  obtain ⟨e1, e2⟩ := low_ns (hE p hp).low
  exact ⟨hE p hp, by rw [e1]; have := h3.1; omega, by rw [e2]; have := h3.2; omega⟩

set_option maxHeartbeats 1000000 in
set_option maxRecDepth 30000 in
theorem lsum_new (a : Option Addr) (ca : Nat) (L : List Mo) (b : Option Addr) (cb : Nat) (M : List Mo) (w : World) (sa : Sl w a ca L) (sb : Sl w b cb M) (ea : ∀ p ∈ L, EntS w p) (eb : ∀ p ∈ M, EntS w p) (hK : L.length + M.length ≤ 2097152) :
    Calls Try.prog 15 #[.slice a L.length ca, .slice b M.length cb] w (FNew w w.heap.size (mrg (fo L) (fo M))) := by
  have G := hide' (merge_new a ca L b cb M w sa sb ea eb hK)
  clear sa sb ea eb hK
  go_enter Try.func15, Try.ntmps15
  go_wp2_with fail
  refine G.out.mono ?_
  rintro e w1 ⟨a1, c1, R, rfl, h⟩
  go_wp2
  go_ret
  exact ⟨a1, c1, R, rfl, h⟩
set_option maxHeartbeats 4000000 in
set_option maxRecDepth 100000 in
theorem collect_manyN (b off : Nat) (c : Nat) (n h : Nat) (l1 l2 : Fo) (w : World) (hn : 2 ≤ n) (hnc : n ≤ c) (hm : n ≤ 1048576) (hh : h = n / 2)
    (H0 : ∀ w', Below w.heap.size w w' → Calls Try.prog 14 #[.slice (some ⟨b, off, none⟩) n c] w' fun e w'' => e = .returned (.bool false) ∧ Below w'.heap.size w' w'')
    (H1 : ∀ w', Below w.heap.size w w' → Calls Try.prog 9 #[.slice (some ⟨b, off, none⟩) h c] w' (FAns w' (nfm l1)))
    (H2 : ∀ w', Below w.heap.size w w' → ∀ a2, (h < n → a2 = some ⟨b, off + h * 4, none⟩) → a2 ≠ none → Calls Try.prog 9 #[.slice a2 (n - h) (c - h)] w' (FAns w' (nfm l2)))
    (w1 : wts l1 + 1 ≤ 1099511627776) (w2 : wts l2 + 1 ≤ 1099511627776) (n1 : l1.length + l2.length ≤ 2097152) :
    Calls Try.prog 9 #[.slice (some ⟨b, off, none⟩) n c] w (FNew w w.heap.size (nfm (l1 ++ l2))) := by
  have G0 := hide' (H0 w (Below.refl _ _))
  have G1 := hide' H1
  have G2 := hide' H2
  have e0 : ¬ ((n : Int) = 1) := by omega
  have eh : wrap64 ((n : Int) / 2) = (h : Int) := by rw [wrap64_small (by omega) (by omega)]; omega
  have i0 : (0 : Int) ≤ (h : Int) := by omega
  have i1 : (h : Int) ≤ (c : Int) := by omega
  have i2 : (h : Int) ≤ (n : Int) := by omega
  have i3 : (n : Int) ≤ (c : Int) := by omega
  have sl1 := sl_headF b off n c h (by omega)
  obtain ⟨a2, sl2, sn, sl3⟩ := sl_restF b off n c h (by omega) hnc
  have G4 := hide' (And.intro sl3 sn)
  clear H0 H1 H2 sl3 sn
  go_enter Try.func9, Try.ntmps9
  go_wp2_with fail
  refine G0.out.mono ?_
  rintro e w3 ⟨rfl, hB⟩
  go_wp2_with fail
  rw [show (n : Int) / 2 = (h : Int) by omega]
  clear hh eh e0
  have bD : Below w3.heap.size w3 w3.drew := (Below.refl _ _).drew
  replace hB := hB.trans (bD.mono hB.size)
  refine wp_region_held_drew (S := fun w' => True) (by kernel_rfl) trivial (fun hHeld => ?_)
  generalize w3.drew = w0 at bD hB hHeld ⊢
  clear bD
  refine take' 0 (v := ?_) rfl (by kernel_rfl) (by kernel_rfl) (by kernel_rfl) (fun _ _ _ h => h) (Or.inl ⟨by rfl, ?_⟩) (by assumption) ?_
  rotate_left
  · intro w9 hSw
    go_simp
    first | done | with_reducible rfl
  simp only [Act.put, List.setIfInBounds_toArray, List.set_cons_zero, List.set_cons_succ]
  refine take' 1 (v := ?_) rfl (by kernel_rfl) (by kernel_rfl) (by kernel_rfl) (fun _ _ _ h => h) (Or.inl ⟨by rfl, ?_⟩) (by assumption) ?_
  rotate_left
  · intro w9 hSw
    go_simp
    first | done | with_reducible rfl
  simp only [Act.put, List.setIfInBounds_toArray, List.set_cons_zero, List.set_cons_succ]
  refine take' 2 (v := ?_) rfl (by kernel_rfl) (by kernel_rfl) (by kernel_rfl) (fun _ _ _ h => h) (Or.inl ⟨by rfl, ?_⟩) (by assumption) ?_
  rotate_left
  · intro w9 hSw
    go_simp
    first | done | with_reducible rfl
  simp only [Act.put, List.setIfInBounds_toArray, List.set_cons_zero, List.set_cons_succ]
  refine take' 4 (v := ?_) rfl (by kernel_rfl) (by kernel_rfl) (by kernel_rfl) (fun _ _ _ h => h) (Or.inl ⟨by rfl, ?_⟩) (by assumption) ?_
  rotate_left
  · intro w9 hSw
    go_simp
    first | done | with_reducible rfl
  simp only [Act.put, List.setIfInBounds_toArray, List.set_cons_zero, List.set_cons_succ]
  refine take' 5 (v := ?_) rfl (by kernel_rfl) (by kernel_rfl) (by kernel_rfl) (fun _ _ _ h => h) (Or.inl ⟨by rfl, ?_⟩) (by assumption) ?_
  rotate_left
  · intro w9 hSw
    go_simp
    first | done | with_reducible rfl
  simp only [Act.put, List.setIfInBounds_toArray, List.set_cons_zero, List.set_cons_succ]
  refine take' 6 (v := ?_) rfl (by kernel_rfl) (by kernel_rfl) (by kernel_rfl) (fun _ _ _ h => h) (Or.inl ⟨by rfl, ?_⟩) (by assumption) ?_
  rotate_left
  · intro w9 hSw
    go_simp
    first | done | with_reducible rfl
  simp only [Act.put, List.setIfInBounds_toArray, List.set_cons_zero, List.set_cons_succ]
  refine wpAnyH_ready (rs := [3]) (by kernel_rfl) (by simp) ?_
  refine cons' rfl (fun KK hKK => ?_)
  go_simp
  refine (G1.out _ hB).mono ?_
  rintro e w4 ⟨a4, c4, R4, rfl, b4, s4, e4, f4⟩
  go_wp2_with fail
  replace hB := hB.trans (b4.mono hB.size)
  clear b4
  refine hKK.out _ _ hHeld ?_
  clear hHeld
  intro hHeld
  clear hKK KK
  try simp only [Act.put, List.setIfInBounds_toArray, List.set_cons_zero, List.set_cons_succ]
  refine wpAnyH_ready (rs := [7]) (by kernel_rfl) (by simp) ?_
  refine cons' rfl (fun KK hKK => ?_)
  go_simp
  refine (G2.out _ hB a2 G4.out.1 G4.out.2).mono ?_
  rintro e w5 ⟨a5, c5, R5, rfl, b5, s5, e5, f5⟩
  go_wp2_with fail
  replace hB := hB.trans (b5.mono hB.size)
  replace s4 := s4.later b5
  replace e4 := fun p hp => (e4 p hp).later b5
  clear b5
  refine hKK.out _ _ hHeld ?_
  clear hHeld
  intro hHeld
  clear hKK KK
  try simp only [Act.put, List.setIfInBounds_toArray, List.set_cons_zero, List.set_cons_succ]
  refine wpAnyH_ready (rs := [8]) (by kernel_rfl) (by simp) ?_
  refine cons' rfl (fun KK hKK => ?_)
  have hl4 := nfm_length l1
  have hl5 := nfm_length l2
  rw [← f4, fo_length] at hl4
  rw [← f5, fo_length] at hl5
  have hbs := hB.size
  go_simp
  refine (lsum_new a4 c4 R4 a5 c5 R5 _ s4 s5 (entS_of e4 f4 w1 (Nat.le_refl _)) (entS_of e5 f5 w2 (Nat.le_refl _)) (by omega)).mono ?_
  rintro e w6 ⟨a6, c6, R6, rfl, b6, s6, e6, f6, n6⟩
  have fr6 := fun ad h => And.intro (Nat.le_trans hbs (n6 ad h).1) (n6 ad h).2
  clear n6 hbs
  go_wp2_with fail
  replace hB := hB.trans (b6.mono hB.size)
  refine hKK.out _ _ hHeld ?_
  clear hHeld
  intro hHeld
  clear hKK KK
  try simp only [Act.put, List.setIfInBounds_toArray, List.set_cons_zero, List.set_cons_succ]
  refine take' 9 (v := ?_) rfl (by kernel_rfl) (by kernel_rfl) (by kernel_rfl) (fun _ _ _ h => h) (Or.inl ⟨by rfl, ?_⟩) (by assumption) ?_
  rotate_left
  · intro w9 hSw
    go_simp
    first | done | with_reducible rfl
  simp only [Act.put, List.setIfInBounds_toArray, List.set_cons_zero, List.set_cons_succ]
  refine wpAnyH_done (by kernel_rfl) ?_ _
  go_wp2
  go_ret
  exact ⟨a6, c6, R6, rfl, hB, s6, e6, by rw [f6, f4, f5, nfm_append], fr6⟩
theorem collect_many (b off : Nat) (c : Nat) (n h : Nat) (l1 l2 : Fo) (w : World) (hn : 2 ≤ n) (hnc : n ≤ c) (hm : n ≤ 1048576) (hh : h = n / 2)
    (H0 : ∀ w', Below w.heap.size w w' → Calls Try.prog 14 #[.slice (some ⟨b, off, none⟩) n c] w' fun e w'' => e = .returned (.bool false) ∧ Below w'.heap.size w' w'')
    (H1 : ∀ w', Below w.heap.size w w' → Calls Try.prog 9 #[.slice (some ⟨b, off, none⟩) h c] w' (FAns w' (nfm l1)))
    (H2 : ∀ w', Below w.heap.size w w' → ∀ a2, (h < n → a2 = some ⟨b, off + h * 4, none⟩) → a2 ≠ none → Calls Try.prog 9 #[.slice a2 (n - h) (c - h)] w' (FAns w' (nfm l2)))
    (w1 : wts l1 + 1 ≤ 1099511627776) (w2 : wts l2 + 1 ≤ 1099511627776) (n1 : l1.length + l2.length ≤ 2097152) :
    Calls Try.prog 9 #[.slice (some ⟨b, off, none⟩) n c] w (FAns w (nfm (l1 ++ l2))) :=
  (collect_manyN b off c n h l1 l2 w hn hnc hm hh H0 H1 H2 w1 w2 n1).mono fun e w9 h => h.ans
set_option maxHeartbeats 2000000 in
set_option maxRecDepth 100000 in
theorem collect_norm (a : Option Addr) (c n : Nat) (w : World) (H0 : Calls Try.prog 14 #[.slice a n c] w fun e v9 => e = .returned (.bool true) ∧ Below w.heap.size w v9) : Calls Try.prog 9 #[.slice a n c] w fun e v9 => e = .returned (.slice a n c) ∧ Below w.heap.size w v9 := by
  have G0 := hide' H0
  clear H0
  go_enter Try.func9, Try.ntmps9
  go_wp2_with fail
  refine G0.out.mono ?_
  rintro e w3 ⟨rfl, hB⟩
  go_wp2
  go_ret
  exact ⟨rfl, hB⟩
set_option maxHeartbeats 2000000 in
set_option maxRecDepth 100000 in
theorem collect_one (a : Option Addr) (c : Nat) (w : World) (H0 : Calls Try.prog 14 #[.slice a 1 c] w fun e v9 => e = .returned (.bool false) ∧ Below w.heap.size w v9) : Calls Try.prog 9 #[.slice a 1 c] w fun e v9 => e = .returned (.slice none 0 0) ∧ Below w.heap.size w v9 := by
  have G0 := hide' H0
  clear H0
  go_enter Try.func9, Try.ntmps9
  go_wp2_with fail
  refine G0.out.mono ?_
  rintro e w3 ⟨rfl, hB⟩
  go_wp2
  go_ret
  exact ⟨rfl, hB⟩
theorem FAt.take {w : World} {b off : Nat} {L : List Mo} (h : FAt w (some ⟨b, off, none⟩) L) (k : Nat) : FAt w (some ⟨b, off, none⟩) (L.take k) := fun hn => by
  obtain ⟨b', off', e, hl, hc⟩ := h (fun e => hn (by rw [e]; simp))
  obtain ⟨rfl, rfl⟩ : b = b' ∧ off = off' := by simpa using e
  exact ⟨b, off, rfl, hl, fun i p hi => hc i p (by rw [List.getElem?_take] at hi; split at hi; exact hi; cases hi)⟩
theorem FAt.drop {w : World} {b off : Nat} {L : List Mo} (h : FAt w (some ⟨b, off, none⟩) L) (k : Nat) : FAt w (some ⟨b, off + k * 4, none⟩) (L.drop k) := fun hn => by
  obtain ⟨b', off', e, hl, hc⟩ := h (fun e => hn (by rw [e]; simp))
  obtain ⟨rfl, rfl⟩ : b = b' ∧ off = off' := by simpa using e
  refine ⟨b, off + k * 4, rfl, hl, fun i p hi => ?_⟩
  rw [List.getElem?_drop] at hi
  rw [show off + k * 4 + i * 4 = off + (k + i) * 4 by omega]
  exact hc _ p hi
theorem isNormal_no {a : Option Addr} {c : Nat} {L : List Mo} {w : World} (hF : FAt w a L) (hE : ∀ p ∈ L, Ent w p) (hc : L.length ≤ c) (hm : L.length ≤ 1048576) (hn : ¬ nrm (fo L)) :
    Calls Try.prog 14 #[.slice a L.length c] w fun e w' => e = .returned (.bool false) ∧ Below w.heap.size w w' :=
  (isNormal_is a c L w hF hE hc hm).mono fun e w' ⟨d, he, hd, hb⟩ => ⟨by
    have : d = false := by
      cases d
      · rfl
      · exact absurd (hd.1 rfl) hn
    rw [he, this], hb⟩
theorem collect_is : ∀ (k : Nat) (L : List Mo) (a : Option Addr) (c : Nat) (w : World), L.length ≤ k → Sl w a c L → (∀ p ∈ L, Ent w p) → L.length ≤ 1048576 → wts (fo L) + 1 ≤ 1099511627776 →
    Calls Try.prog 9 #[.slice a L.length c] w (FAns w (nfm (fo L)))
  | k, L, a, c, w, hk, hS, hE, hm, hw => by
    by_cases hN : nrm (fo L)
    · refine (collect_norm a c L.length w ((isNormal_is a c L w hS.lies hE hS.len hm).mono fun e w' ⟨d, he, hd, hb⟩ => ⟨by rw [he, hd.2 hN], hb⟩)).mono ?_
      rintro e w' ⟨rfl, hb⟩
      exact ⟨a, c, L, rfl, hb, hS.later hb, fun p hp => (hE p hp).later hb, nfm_self hN⟩
    · match L, hk, hS, hE, hm, hw, hN with
      | [], _, _, _, _, _, hN => exact absurd nrm.nil hN
      | [p], _, hS, hE, hm, hw, hN =>
        have hno := isNormal_no hS.lies hE hS.len hm hN
        rw [show ([p] : List Mo).length = 1 from rfl] at hno ⊢
        refine (collect_one a c w hno).mono ?_
        rintro e w' ⟨rfl, hb⟩
        exact ⟨none, 0, [], rfl, hb, ⟨FAt.nil _ _, Nat.le_refl _, fun _ => rfl⟩, fun q hq => absurd hq (by simp), (nfm_single hN).symm⟩
      | p :: q :: L', hk, hS, hE, hm, hw, hN =>
        match k, hk with
        | 0, hk => simp only [List.length_cons] at hk; omega
        | k + 1, hk =>
          obtain ⟨L, hL⟩ : ∃ L, p :: q :: L' = L := ⟨_, rfl⟩
          have h2 : 2 ≤ L.length := by rw [← hL]; simp
          rw [hL] at hk hS hE hm hw hN ⊢
          obtain ⟨b, off, rfl, _, _⟩ := hS.lies (by intro e; rw [e] at h2; simp at h2)
          obtain ⟨h, hh⟩ : ∃ h, h = L.length / 2 := ⟨_, rfl⟩
          have hsplit : fo L = fo (L.take h) ++ fo (L.drop h) := by rw [← fo_append, List.take_append_drop]
          have hlt : (L.take h).length = h := by rw [List.length_take]; omega
          have hld : (L.drop h).length = L.length - h := List.length_drop
          have hws : wts (fo L) = wts (fo (L.take h)) + wts (fo (L.drop h)) := by rw [hsplit, wts_append]
          rw [hsplit]
          refine collect_many b off c L.length h (fo (L.take h)) (fo (L.drop h)) w h2 hS.len hm hh (fun w' hb => isNormal_no (hS.lies.later hb) (fun p hp => (hE p hp).later hb) hS.len hm hN) (fun w' hb => ?_) (fun w' hb a2 ha hne => ?_) (by omega) (by omega) (by rw [fo_length, fo_length]; omega)
          · have := collect_is k (L.take h) (some ⟨b, off, none⟩) c w' (by omega) ⟨(hS.lies.take h).later hb, by have := hS.len; omega, fun e => by cases e⟩ (fun p hp => (hE p (List.mem_of_mem_take hp)).later hb) (by omega) (by omega)
            rw [hlt] at this
            exact this
          · have := collect_is k (L.drop h) a2 (c - h) w' (by omega) ⟨fun hn => by rw [ha (by omega)]; exact ((hS.lies.drop h).later hb) hn, by have := hS.len; omega, fun e => absurd e hne⟩ (fun p hp => (hE p (List.mem_of_mem_drop hp)).later hb) (by omega) (by omega)
            rw [hld] at this
            exact this
termination_by k => k
/-- collect of parts that lie in memory from B on: what it tells lies there too -/
theorem collect_new (L : List Mo) (a : Option Addr) (c : Nat) (w : World) (B : Nat) (hS : Sl w a c L) (hE : ∀ p ∈ L, Ent w p) (hm : L.length ≤ 1048576) (hw : wts (fo L) + 1 ≤ 1099511627776) (hB : B ≤ w.heap.size) (ha : ∀ ad, a = some ad → B ≤ ad.block ∧ Row w ad.block) :
    Calls Try.prog 9 #[.slice a L.length c] w (FNew w B (nfm (fo L))) := by
  by_cases hN : nrm (fo L)
  · refine (collect_norm a c L.length w ((isNormal_is a c L w hS.lies hE hS.len hm).mono fun e w' ⟨d, he, hd, hb⟩ => ⟨by rw [he, hd.2 hN], hb⟩)).mono ?_
    rintro e w' ⟨rfl, hb⟩
    exact ⟨a, c, L, rfl, hb, hS.later hb, fun p hp => (hE p hp).later hb, nfm_self hN, fun ad h => ⟨(ha ad h).1, below_row hb (ha ad h).2⟩⟩
  · match L, hS, hE, hm, hw, hN with
    | [], _, _, _, _, hN => exact absurd nrm.nil hN
    | [p], hS, hE, hm, hw, hN =>
      have hno := isNormal_no hS.lies hE hS.len hm hN
      rw [show ([p] : List Mo).length = 1 from rfl] at hno ⊢
      refine (collect_one a c w hno).mono ?_
      rintro e w' ⟨rfl, hb⟩
      exact ⟨none, 0, [], rfl, hb, ⟨FAt.nil _ _, Nat.le_refl _, fun _ => rfl⟩, fun q hq => absurd hq (by simp), (nfm_single hN).symm, fun ad h => by cases h⟩
    | p :: q :: L', hS, hE, hm, hw, hN =>
      obtain ⟨L, hL⟩ : ∃ L, p :: q :: L' = L := ⟨_, rfl⟩
      have h2 : 2 ≤ L.length := by rw [← hL]; simp
      rw [hL] at hS hE hm hw hN ⊢
      obtain ⟨b, off, rfl, _, _⟩ := hS.lies (by intro e; rw [e] at h2; simp at h2)
      obtain ⟨h, hh⟩ : ∃ h, h = L.length / 2 := ⟨_, rfl⟩
      have hsplit : fo L = fo (L.take h) ++ fo (L.drop h) := by rw [← fo_append, List.take_append_drop]
      have hlt : (L.take h).length = h := by rw [List.length_take]; omega
      have hld : (L.drop h).length = L.length - h := List.length_drop
      have hws : wts (fo L) = wts (fo (L.take h)) + wts (fo (L.drop h)) := by rw [hsplit, wts_append]
      rw [hsplit]
      refine (collect_manyN b off c L.length h (fo (L.take h)) (fo (L.drop h)) w h2 hS.len hm hh (fun w' hb => isNormal_no (hS.lies.later hb) (fun p hp => (hE p hp).later hb) hS.len hm hN) (fun w' hb => ?_) (fun w' hb a2 ha hne => ?_) (by omega) (by omega) (by rw [fo_length, fo_length]; omega)).mono ?_
      · have := collect_is (L.take h).length (L.take h) (some ⟨b, off, none⟩) c w' (Nat.le_refl _) ⟨(hS.lies.take h).later hb, by have := hS.len; omega, fun e => by cases e⟩ (fun p hp => (hE p (List.mem_of_mem_take hp)).later hb) (by omega) (by omega)
        rw [hlt] at this
        exact this
      · have := collect_is (L.drop h).length (L.drop h) a2 (c - h) w' (Nat.le_refl _) ⟨fun hn => by rw [ha (by omega)]; exact ((hS.lies.drop h).later hb) hn, by have := hS.len; omega, fun e => absurd e hne⟩ (fun p hp => (hE p (List.mem_of_mem_drop hp)).later hb) (by omega) (by omega)
        rw [hld] at this
        exact this
      · rintro e w9 ⟨a9, c9, R9, h1, h2, h3, h4, h5, h6⟩
        exact ⟨a9, c9, R9, h1, h2, h3, h4, h5, fun ad e => ⟨Nat.le_trans hB (h6 ad e).1, (h6 ad e).2⟩⟩
end Go.Proofs.Ytildhkefkeeflaa
