/-
  LinearPut.
-/
import Derived.Test.YtkflbhkcofmaoaaGreatWN12
import Derived.Test.YtkflbhkcofmaoaaGreatWW3
import Derived.Test.YtkflbhkcofmaoaaGreatWL9
import Derived.Test.YtkflbhkcofmaoaaGreatOpenA
namespace Go.Proofs.YtkflbhkcofmaoaaGreat.linearPut
open Go.ChangeShapes Go.WideShapes Go.ChangeAt Go.RowKit Go.Proofs.YtkflbhkcofmaoaaGreat
set_option linter.unusedVariables false
set_option linter.unusedSimpArgs false

theorem ent_ns {w : World} {R : List Mo} {l : Fo} {N : Nat} (hE : ∀ p ∈ R, Ent w p) (hR : fo R = nfm l) (hs : ∀ x, sz N (co x l)) : ∀ p ∈ R, p.2.n ≤ N ∧ p.2.m ≤ N := by
  intro p hp
  have h1 : (p.1, p.2.val) ∈ fo R := List.mem_map.2 ⟨p, hp, rfl⟩
  have h2 : co p.1 (fo R) = p.2.val := (show nrm (fo R) by rw [hR]; exact nfm_nrm l).co_mem h1
  rw [hR, nfm_co] at h2
  have h3 := hs p.1
  rw [h2] at h3
  obtain ⟨e1, e2⟩ := low_ns (hE p hp).low
  exact ⟨by rw [e1]; exact h3.1, by rw [e2]; exact h3.2⟩
/-- the reference's sum of a number and a fraction -/
theorem addN_is (r : Rat) (E : RatV) (p q : Option Addr) (w : World) (hs : sz 1099511627776 r) (hE : E.ok w) (hn : E.n ≤ 4194304) (hm : E.m ≤ 4194304) (k1 : Seg w p (am r.num) (ln (am r.num))) (k2 : Seg w q r.den (ln r.den)) :
    Calls Tryz.prog 13 #[.agg #[.bool (ng r.num), .slice p (ln (am r.num)) (ln (am r.num)), .slice q (ln r.den) (ln r.den)], .agg #[.bool E.s, .slice E.a E.n E.c, .slice E.b E.m E.e]] w (BAns w (r + E.val)) := by
  refine (vqAdd_is (ng r.num) p (ln (am r.num)) (ln (am r.num)) (am r.num) q (ln r.den) (ln r.den) r.den E.s E.a E.n E.c E.X E.b E.m E.e E.Y (r + E.val).num (r + E.val).den w (Nat.le_refl _) (Nat.le_trans hs.1 (by omega)) k1 (Nat.le_refl _) (Nat.le_trans hs.2 (by omega)) k2 hE.2.1 (by omega) hE.1 hE.2.2.2.2.1 (by omega) hE.2.2.2.1 (by have h := low_add (RatV.of r.num r.den p q) E; rw [val_ofR] at h; exact h)).mono ?_
  rintro e w' ⟨p', q', rfl, n1, n2⟩
  exact ⟨p', q', rfl, n1.below, n1.seg, n2.seg⟩
/-- the reference's sum of two numbers -/
theorem addM_is (r t : Rat) (p q p1 q1 : Option Addr) (w : World) (hs : sz 1099511627776 r) (ht : sz 1099511627776 t) (k1 : Seg w p (am r.num) (ln (am r.num))) (k2 : Seg w q r.den (ln r.den)) (k3 : Seg w p1 (am t.num) (ln (am t.num))) (k4 : Seg w q1 t.den (ln t.den)) :
    Calls Tryz.prog 13 #[.agg #[.bool (ng r.num), .slice p (ln (am r.num)) (ln (am r.num)), .slice q (ln r.den) (ln r.den)], .agg #[.bool (ng t.num), .slice p1 (ln (am t.num)) (ln (am t.num)), .slice q1 (ln t.den) (ln t.den)]] w (BAns w (r + t)) := by
  refine (vqAdd_is (ng r.num) p (ln (am r.num)) (ln (am r.num)) (am r.num) q (ln r.den) (ln r.den) r.den (ng t.num) p1 (ln (am t.num)) (ln (am t.num)) (am t.num) q1 (ln t.den) (ln t.den) t.den (r + t).num (r + t).den w (Nat.le_refl _) (Nat.le_trans hs.1 (by omega)) k1 (Nat.le_refl _) (Nat.le_trans hs.2 (by omega)) k2 (Nat.le_refl _) (Nat.le_trans ht.1 (by omega)) k3 (Nat.le_refl _) (Nat.le_trans ht.2 (by omega)) k4 (by have h := low_add (RatV.of r.num r.den p q) (RatV.of t.num t.den p1 q1); rw [val_ofR, val_ofR] at h; exact h)).mono ?_
  rintro e w' ⟨p', q', rfl, n1, n2⟩
  exact ⟨p', q', rfl, n1.below, n1.seg, n2.seg⟩
theorem cmpN_is (r : Rat) (p q p1 q1 : Option Addr) (w : World) (hs : sz 1099511627776 r) (k1 : Seg w p (am r.num) (ln (am r.num))) (k2 : Seg w q r.den (ln r.den)) (k3 : Seg w p1 (am r.num) (ln (am r.num))) (k4 : Seg w q1 r.den (ln r.den)) :
    Calls Tryz.prog 8 #[.agg #[.bool (ng r.num), .slice p (ln (am r.num)) (ln (am r.num)), .slice q (ln r.den) (ln r.den)], .agg #[.bool (ng r.num), .slice p1 (ln (am r.num)) (ln (am r.num)), .slice q1 (ln r.den) (ln r.den)]] w fun e w' => e = .returned (.int .i64 0) ∧ Below w.heap.size w w' :=
  vqCmp_is (ng r.num) p (ln (am r.num)) (ln (am r.num)) (am r.num) q (ln r.den) (ln r.den) r.den (ng r.num) p1 (ln (am r.num)) (ln (am r.num)) (am r.num) q1 (ln r.den) (ln r.den) r.den 0 w (Nat.le_refl _) hs.1 k1 (Nat.le_refl _) hs.2 k2 (Nat.le_refl _) hs.1 k3 (Nat.le_refl _) hs.2 k4 (by rw [Int.sub_self]; rfl)
theorem rect {n K : Nat} (h : n + K ≤ 1048576) : n * (2 * K + 5) + 1 ≤ 1099511627776 := by
  have e : (n + K) * (n + K) ≤ 1048576 * 1048576 := Nat.mul_le_mul h h
  have e2 : 4 * (n * K) ≤ (n + K) * (n + K) := by
    have h1 : 0 ≤ ((n : Int) - K) * ((n : Int) - K) := by
      rcases Int.le_total 0 ((n : Int) - K) with h2 | h2
      · exact Int.mul_nonneg h2 h2
      · exact Int.mul_nonneg_of_nonpos_of_nonpos h2 h2
    have h2 : ((n : Int) + K) * ((n : Int) + K) = 4 * ((n : Int) * K) + ((n : Int) - K) * ((n : Int) - K) := by grind
    have h3 : (4 * ((n : Int) * K)) ≤ ((n : Int) + K) * ((n : Int) + K) := by omega
    exact_mod_cast h3
  have e3 : n * (2 * K + 5) = 2 * (n * K) + 5 * n := by grind
  omega
theorem bulkV_at {q : Nat → RatV} : ∀ (n i : Nat), i < n → (q i).n + (q i).m + n ≤ bulkV q n
  | 0, i, h => absurd h (by omega)
  | n + 1, i, h => by
    simp only [bulkV]
    rcases Nat.lt_or_ge i n with h1 | h1
    · have := bulkV_at (q := q) n i h1
      omega
    · obtain rfl : i = n := by omega
      have : i ≤ bulkV q i := by
        clear h h1
        induction i with
        | zero => exact Nat.zero_le _
        | succ i ih => simp only [bulkV]; omega
      omega
theorem bulkV_n {q : Nat → RatV} : ∀ (n : Nat), n ≤ bulkV q n
  | 0 => Nat.zero_le _
  | n + 1 => by have := bulkV_n (q := q) n; simp only [bulkV]; omega
theorem bulkL_n : ∀ (L : List Mo), 2 * L.length ≤ bulkL L
  | [] => Nat.zero_le _
  | p :: L => by have := bulkL_n L; simp only [bulkL, List.length_cons]; omega

/-- the reference's Value, as a number -/
theorem vValueR_is (af : Option Addr) (capf : Nat) (L : List Mo) (av : Option Addr) (m capv : Nat) (g : Nat → RatV) (w : World) (hcf : L.length ≤ capf) (hcv : m ≤ capv)
    (hF : FAt w af L) (hfo : ∀ p ∈ L, p.2.ok w) (hG : RatsAt w av m g) (hgo : ∀ i, i < m → (g i).ok w) (hb : bulkL L + bulkV g m ≤ 1048576 + L.length) :
    Calls Tryz.prog 10 #[.slice af L.length capf, .slice av m capv] w (BAns w (vl (rho g m) (fo L))) := by
  have b1 := bulkL_n L
  have b2 := bulkV_n (q := g) m
  obtain ⟨h1, h2⟩ := prods_rat (vOf L) (fOf L) g m L.length
  have e : vl (rho g m) (fo L) = rsum (prl (vOf L) (fOf L) g m L.length) := by rw [prl_pls, fo_of, pls_sum]
  have hK : ∀ i t, i < L.length → t < m → (fOf L i).n + (fOf L i).m + (g t).n + (g t).m ≤ bulkL L + bulkV g m - 2 * L.length := fun i t hi ht => by
    have k1 := bulkV_at (q := g) m t ht
    have k2 : ∀ (L : List Mo) (p : Mo), p ∈ L → p.2.n + p.2.m + 2 * L.length ≤ bulkL L := fun L => by
      induction L with
      | nil => intro p hp; exact absurd hp (by simp)
      | cons q L ih =>
        intro p hp
        have := bulkL_n L
        simp only [bulkL, List.length_cons]
        rcases List.mem_cons.1 hp with rfl | hp
        · omega
        · have := ih p hp; omega
    have k3 := k2 L _ (of_mem hi)
    simp only at k3
    omega
  refine (vlValue_is af L.length capf (vOf L) (fOf L) av m capv g (bulkL L + bulkV g m - 2 * L.length) (vl (rho g m) (fo L)).num (vl (rho g m) (fo L)).den w hcf hcv (by omega) (by omega) hF.form (fun i hi => hfo _ (of_mem hi)) hG hgo hK (by omega) (rect (by omega)) ?_).mono ?_
  · exact low_of (by omega) (by rw [e]; exact h2)
  · rintro e w' ⟨x, y, rfl, h3, h4, h5⟩
    exact ⟨x, y, rfl, h3, h4, h5⟩
/-- a list of fractions in a row, with its numbers -/
def RatsO (w : World) (gb m : Nat) (q : Nat → RatV) : Prop := RatsAt w (some ⟨gb, 0, none⟩) m q ∧ ∀ i, i < m → (q i).ok w
theorem RatsO.later {w w' : World} {gb m : Nat} {q : Nat → RatV} (h : RatsO w gb m q) (hb : Below w.heap.size w w') : RatsO w' gb m q := ⟨h.1.later hb, fun i hi => (h.2 i hi).later hb⟩
set_option maxHeartbeats 8000000 in
set_option maxRecDepth 100000 in
theorem walkN (a : Option Addr) (ca : Nat) (L : List Mo) (D : RatV) (x : Int) (b : Option Addr) (cb : Nat) (G : List Mo) (E : RatV) (av : Option Addr) (m capv : Nat) (g : Nat → RatV) (w : World) (hx : x < 0)
    (hF : FAt w a L) (hok : ∀ p ∈ L, p.2.ok w ∧ p.2.n ≤ 4194304 ∧ p.2.m ≤ 4194304) (hc : L.length ≤ ca) (hD : D.ok w) (hG : FAt w b G) (hkG : ∀ p ∈ G, p.2.ok w ∧ p.2.n ≤ 4194304 ∧ p.2.m ≤ 4194304) (hcG : G.length ≤ cb) (hE : E.ok w)
    (hV : RatsAt w av m g) (hgo : ∀ i, i < m → (g i).ok w) (hcv : m ≤ capv) (hb : bulkL L + D.n + D.m + (bulkL G + E.n + E.m) + bulkV g m ≤ 1048576 + L.length + G.length) :
    Calls Tryz.prog 4 #[.agg #[.slice a L.length ca, .bool D.s, .slice D.a D.n D.c, .slice D.b D.m D.e, .int .i64 x, .slice b G.length cb, .bool E.s, .slice E.a E.n E.c, .slice E.b E.m E.e, .slice av m capv]] w fun e w' => e = .returned (.bool true) ∧ Below w.heap.size w w' := by
  have b2 := bulkL_n L
  have b3 := bulkL_n G
  have b4 := bulkV_n (q := g) m
  have GV := hide' (fun w' (hb9 : Below w.heap.size w w') => lValueR_is a ca L av m capv g 4194304 w' hc hcv (by omega) (by omega) (hF.later hb9) (fun p hp => (hok p hp).1.later hb9) (hV.later hb9) (fun i hi => (hgo i hi).later hb9) (fun p hp => by have := bulkL_at L p hp; omega) (fun t ht => by have := bulkV_at (q := g) m t ht; omega) (by omega) (fun i j => (vl_part_sz (fo L) g m i j).mono (by have h1 := wts_bulk L (fun p hp => (hok p hp).1); have h2 := rlist_wts m hgo; rw [fo_length]; omega)))
  have GR := hide' (fun w' (hb9 : Below w.heap.size w w') => vValueR_is a ca L av m capv g w' hc hcv (hF.later hb9) (fun p hp => (hok p hp).1.later hb9) (hV.later hb9) (fun i hi => (hgo i hi).later hb9) (by omega))
  have hs : sz 1099511627776 (vl (rho g m) (fo L)) := (vl_sz (fo L) g m).mono (by have h1 := wts_bulk L (fun p hp => (hok p hp).1); have h2 := rlist_wts m hgo; rw [fo_length]; omega)
  have hmx : m ≤ 1048576 := by omega
  obtain ⟨VF, hVF⟩ : ∃ VF, vl (rho g m) (fo L) = VF := ⟨_, rfl⟩
  rw [hVF] at GV GR hs
  have GC := hide' (fun w' p q p1 q1 => cmpN_is VF p q p1 q1 w' hs)
  clear hVF hs hF hok hc hD hG hkG hcG hE hV hgo hcv hb b2 b3 b4
  go_enter Tryz.func4, Tryz.ntmps4
  go_upto_region 1 with fail
  obtain ⟨wA, hwA⟩ : ∃ wA, w.alloc (.cells #[.slice a L.length ca, .bool D.s, .slice D.a D.n D.c, .slice D.b D.m D.e, .int .i64 x, .slice b G.length cb, .bool E.s, .slice E.a E.n E.c, .slice E.b E.m E.e, .slice av m capv] 38) = wA := ⟨_, rfl⟩
  have hB : Below w.heap.size w wA := by subst hwA; exact below_alloc _
  have d0 : wA.cell? ⟨w.heap.size, 0, none⟩ = some (.slice a L.length ca) := by subst hwA; go_simp
  have d1 : wA.cell? ⟨w.heap.size, 1, none⟩ = some (.bool D.s) := by subst hwA; go_simp
  have d2 : wA.cell? ⟨w.heap.size, 2, none⟩ = some (.slice D.a D.n D.c) := by subst hwA; go_simp
  have d3 : wA.cell? ⟨w.heap.size, 3, none⟩ = some (.slice D.b D.m D.e) := by subst hwA; go_simp
  have d4 : wA.cell? ⟨w.heap.size, 4, none⟩ = some (.int .i64 x) := by subst hwA; go_simp
  have d5 : wA.cell? ⟨w.heap.size, 5, none⟩ = some (.slice b G.length cb) := by subst hwA; go_simp
  have d6 : wA.cell? ⟨w.heap.size, 6, none⟩ = some (.bool E.s) := by subst hwA; go_simp
  have d7 : wA.cell? ⟨w.heap.size, 7, none⟩ = some (.slice E.a E.n E.c) := by subst hwA; go_simp
  have d8 : wA.cell? ⟨w.heap.size, 8, none⟩ = some (.slice E.b E.m E.e) := by subst hwA; go_simp
  have d9 : wA.cell? ⟨w.heap.size, 9, none⟩ = some (.slice av m capv) := by subst hwA; go_simp
  rw [hwA]
  clear hwA
  go_cut [3, 4, 5, 6] from 12 to 19 (fun s3 s4 s5 s6 wx => ∃ wv c3 c5, wv = wx ∧ s3 = .pointer (some ⟨c3, 0, none⟩) ∧ s4 = .int .i64 x ∧ s5 = .pointer (some ⟨c5, 0, none⟩) ∧ s6 = .slice av m capv ∧ w.heap.size ≤ c3 ∧ w.heap.size ≤ c5 ∧ Four wx c3 (.slice a L.length ca) (.bool D.s) (.slice D.a D.n D.c) (.slice D.b D.m D.e) ∧ Four wx c5 (.slice b G.length cb) (.bool E.s) (.slice E.a E.n E.c) (.slice E.b E.m E.e) ∧ Below w.heap.size w wx)
  case first =>
    have bD : Below wA.heap.size wA wA.drew := (Below.refl _ _).drew
    have kd0 := below_cell bD d0
    have kd1 := below_cell bD d1
    have kd2 := below_cell bD d2
    have kd3 := below_cell bD d3
    have kd4 := below_cell bD d4
    have kd5 := below_cell bD d5
    have kd6 := below_cell bD d6
    have kd7 := below_cell bD d7
    have kd8 := below_cell bD d8
    have kd9 := below_cell bD d9
    replace hB := hB.trans (bD.mono hB.size)
    refine wp_region_held_drew (S := fun w' => w'.cell? ⟨w.heap.size, 0, none⟩ = some (.slice a L.length ca) ∧ w'.cell? ⟨w.heap.size, 1, none⟩ = some (.bool D.s) ∧ w'.cell? ⟨w.heap.size, 2, none⟩ = some (.slice D.a D.n D.c) ∧ w'.cell? ⟨w.heap.size, 3, none⟩ = some (.slice D.b D.m D.e) ∧ w'.cell? ⟨w.heap.size, 4, none⟩ = some (.int .i64 x) ∧ w'.cell? ⟨w.heap.size, 5, none⟩ = some (.slice b G.length cb) ∧ w'.cell? ⟨w.heap.size, 6, none⟩ = some (.bool E.s) ∧ w'.cell? ⟨w.heap.size, 7, none⟩ = some (.slice E.a E.n E.c) ∧ w'.cell? ⟨w.heap.size, 8, none⟩ = some (.slice E.b E.m E.e) ∧ w'.cell? ⟨w.heap.size, 9, none⟩ = some (.slice av m capv)) (by kernel_rfl) ⟨kd0, kd1, kd2, kd3, kd4, kd5, kd6, kd7, kd8, kd9⟩ (fun hHeld => ?_)
    clear kd0 kd1 kd2 kd3 kd4 kd5 kd6 kd7 kd8 kd9
    generalize wA.drew = w1 at bD hB hHeld ⊢
    clear bD d0 d1 d2 d3 d4 d5 d6 d7 d8 d9
    refine take' 0 (v := ?_) rfl (by kernel_rfl) (by kernel_rfl) (by kernel_rfl) (fun _ _ _ h => h) (Or.inl ⟨by rfl, ?_⟩) (by assumption) ?_
    rotate_left
    · intro w9 hSw
      go_simp
      first | done | with_reducible rfl
    simp only [Act.put, List.setIfInBounds_toArray, List.set_cons_zero, List.set_cons_succ]
    refine take' 1 (v := ?_) rfl (by kernel_rfl) (by kernel_rfl) (by kernel_rfl) (fun _ _ _ h => h) (Or.inl ⟨by rfl, ?_⟩) (by assumption) ?_
    rotate_left
    · intro w9 hSw
      go_simp
      first | done | with_reducible rfl
    simp only [Act.put, List.setIfInBounds_toArray, List.set_cons_zero, List.set_cons_succ]
    refine take' 2 (v := ?_) rfl (by kernel_rfl) (by kernel_rfl) (by kernel_rfl) (fun _ _ _ h => h) (Or.inl ⟨by rfl, ?_⟩) (by assumption) ?_
    rotate_left
    · intro w9 hSw
      go_simp
      first | done | with_reducible rfl
    simp only [Act.put, List.setIfInBounds_toArray, List.set_cons_zero, List.set_cons_succ]
    refine take' 3 (v := ?_) rfl (by kernel_rfl) (by kernel_rfl) (by kernel_rfl) (fun _ _ _ h => h) (Or.inl ⟨by rfl, ?_⟩) (by assumption) ?_
    rotate_left
    · intro w9 hSw
      go_simp
      first | done | with_reducible rfl
    simp only [Act.put, List.setIfInBounds_toArray, List.set_cons_zero, List.set_cons_succ]
    refine take' 4 (v := ?_) rfl (by kernel_rfl) (by kernel_rfl) (by kernel_rfl) (fun _ _ _ h => h) (Or.inl ⟨by rfl, ?_⟩) (by assumption) ?_
    rotate_left
    · intro w9 hSw
      go_simp
      first | done | with_reducible rfl
    simp only [Act.put, List.setIfInBounds_toArray, List.set_cons_zero, List.set_cons_succ]
    refine take' 5 (v := ?_) rfl (by kernel_rfl) (by kernel_rfl) (by kernel_rfl) (fun _ _ _ h => h) (Or.inl ⟨by rfl, ?_⟩) (by assumption) ?_
    rotate_left
    · intro w9 hSw
      go_simp
      first | done | with_reducible rfl
    simp only [Act.put, List.setIfInBounds_toArray, List.set_cons_zero, List.set_cons_succ]
    refine take' 6 (v := ?_) rfl (by kernel_rfl) (by kernel_rfl) (by kernel_rfl) (fun _ _ _ h => h) (Or.inl ⟨by rfl, ?_⟩) (by assumption) ?_
    rotate_left
    · intro w9 hSw
      go_simp
      first | done | with_reducible rfl
    simp only [Act.put, List.setIfInBounds_toArray, List.set_cons_zero, List.set_cons_succ]
    refine take' 7 (v := ?_) rfl (by kernel_rfl) (by kernel_rfl) (by kernel_rfl) (fun _ _ _ h => h) (Or.inl ⟨by rfl, ?_⟩) (by assumption) ?_
    rotate_left
    · intro w9 hSw
      go_simp
      first | done | with_reducible rfl
    simp only [Act.put, List.setIfInBounds_toArray, List.set_cons_zero, List.set_cons_succ]
    refine wpAnyH_ready (rs := [8, 9]) (by kernel_rfl) (by simp) ?_
    refine consT rfl (fun KK hKK => ?_) ?_
    · skip
      go_simp
      have vA : Four (w1.alloc (.cells #[.slice none 0 0, .bool false, .slice none 0 0, .slice none 0 0] 33)) w1.heap.size (.slice none 0 0) (.bool false) (.slice none 0 0) (.slice none 0 0) := four_new w1 _ _ _ _ 33
      have bA := below_alloc (w := w1) (.cells #[.slice none 0 0, .bool false, .slice none 0 0, .slice none 0 0] 33)
      have hcA : w.heap.size < w1.heap.size := World.block_lt_of_cell? w1 ⟨w.heap.size, 0, none⟩ hHeld.1
      generalize w1.alloc (.cells #[.slice none 0 0, .bool false, .slice none 0 0, .slice none 0 0] 33) = w2 at vA bA ⊢
      replace hB := hB.trans (bA.mono hB.size)
      replace hHeld := (⟨below_cell bA hHeld.1, below_cell bA hHeld.2.1, below_cell bA hHeld.2.2.1, below_cell bA hHeld.2.2.2.1, below_cell bA hHeld.2.2.2.2.1, below_cell bA hHeld.2.2.2.2.2.1, below_cell bA hHeld.2.2.2.2.2.2.1, below_cell bA hHeld.2.2.2.2.2.2.2.1, below_cell bA hHeld.2.2.2.2.2.2.2.2.1, below_cell bA hHeld.2.2.2.2.2.2.2.2.2⟩ : _ ∧ _ ∧ _ ∧ _ ∧ _ ∧ _ ∧ _ ∧ _ ∧ _ ∧ _)
      clear bA
      refine hKK.out _ _ hHeld ?_
      clear hHeld
      intro hHeld
      clear hKK KK
      try simp only [Act.put, List.setIfInBounds_toArray, List.set_cons_zero, List.set_cons_succ]
      obtain ⟨cA, hcc⟩ : ∃ cc, w1.heap.size = cc := ⟨_, rfl⟩
      rw [hcc] at vA hcA
      try rw [hcc] at hne
      try rw [hcc]
      clear hcc
      refine wpAnyH_ready (rs := [9]) (by kernel_rfl) (by simp) ?_
      refine cons' rfl (fun KK hKK => ?_)
      go_simp
      have vB : Four (w2.alloc (.cells #[.slice none 0 0, .bool false, .slice none 0 0, .slice none 0 0] 33)) w2.heap.size (.slice none 0 0) (.bool false) (.slice none 0 0) (.slice none 0 0) := four_new w2 _ _ _ _ 33
      have bA := below_alloc (w := w2) (.cells #[.slice none 0 0, .bool false, .slice none 0 0, .slice none 0 0] 33)
      have hcB : w.heap.size < w2.heap.size := World.block_lt_of_cell? w2 ⟨w.heap.size, 0, none⟩ hHeld.1
      have hne : cA ≠ w2.heap.size := by have := vA.2.lt; omega
      generalize w2.alloc (.cells #[.slice none 0 0, .bool false, .slice none 0 0, .slice none 0 0] 33) = w3 at vB bA ⊢
      replace hB := hB.trans (bA.mono hB.size)
      replace vA := vA.later bA
      replace hHeld := (⟨below_cell bA hHeld.1, below_cell bA hHeld.2.1, below_cell bA hHeld.2.2.1, below_cell bA hHeld.2.2.2.1, below_cell bA hHeld.2.2.2.2.1, below_cell bA hHeld.2.2.2.2.2.1, below_cell bA hHeld.2.2.2.2.2.2.1, below_cell bA hHeld.2.2.2.2.2.2.2.1, below_cell bA hHeld.2.2.2.2.2.2.2.2.1, below_cell bA hHeld.2.2.2.2.2.2.2.2.2⟩ : _ ∧ _ ∧ _ ∧ _ ∧ _ ∧ _ ∧ _ ∧ _ ∧ _ ∧ _)
      clear bA
      refine hKK.out _ _ hHeld ?_
      clear hHeld
      intro hHeld
      clear hKK KK
      try simp only [Act.put, List.setIfInBounds_toArray, List.set_cons_zero, List.set_cons_succ]
      obtain ⟨cB, hcc⟩ : ∃ cc, w2.heap.size = cc := ⟨_, rfl⟩
      rw [hcc] at vB hcB
      try rw [hcc] at hne
      try rw [hcc]
      clear hcc
      refine wpAnyH_ready (rs := [10]) (by kernel_rfl) (by simp) ?_
      refine cons' rfl (fun KK hKK => ?_)
      have fz := fun o => vA.2.frozen o
      replace hB := below_set4 (u0 := .slice a L.length ca) (u1 := .bool D.s) (u2 := .slice D.a D.n D.c) (u3 := .slice D.b D.m D.e) hB (show w.heap.size ≤ cA by omega)
      have hH2 := (⟨(set4_far (w := w3) (c := cA) (b := w.heap.size) (o := 0) (u0 := .slice a L.length ca) (u1 := .bool D.s) (u2 := .slice D.a D.n D.c) (u3 := .slice D.b D.m D.e) (by omega)).trans hHeld.1, (set4_far (w := w3) (c := cA) (b := w.heap.size) (o := 1) (u0 := .slice a L.length ca) (u1 := .bool D.s) (u2 := .slice D.a D.n D.c) (u3 := .slice D.b D.m D.e) (by omega)).trans hHeld.2.1, (set4_far (w := w3) (c := cA) (b := w.heap.size) (o := 2) (u0 := .slice a L.length ca) (u1 := .bool D.s) (u2 := .slice D.a D.n D.c) (u3 := .slice D.b D.m D.e) (by omega)).trans hHeld.2.2.1, (set4_far (w := w3) (c := cA) (b := w.heap.size) (o := 3) (u0 := .slice a L.length ca) (u1 := .bool D.s) (u2 := .slice D.a D.n D.c) (u3 := .slice D.b D.m D.e) (by omega)).trans hHeld.2.2.2.1, (set4_far (w := w3) (c := cA) (b := w.heap.size) (o := 4) (u0 := .slice a L.length ca) (u1 := .bool D.s) (u2 := .slice D.a D.n D.c) (u3 := .slice D.b D.m D.e) (by omega)).trans hHeld.2.2.2.2.1, (set4_far (w := w3) (c := cA) (b := w.heap.size) (o := 5) (u0 := .slice a L.length ca) (u1 := .bool D.s) (u2 := .slice D.a D.n D.c) (u3 := .slice D.b D.m D.e) (by omega)).trans hHeld.2.2.2.2.2.1, (set4_far (w := w3) (c := cA) (b := w.heap.size) (o := 6) (u0 := .slice a L.length ca) (u1 := .bool D.s) (u2 := .slice D.a D.n D.c) (u3 := .slice D.b D.m D.e) (by omega)).trans hHeld.2.2.2.2.2.2.1, (set4_far (w := w3) (c := cA) (b := w.heap.size) (o := 7) (u0 := .slice a L.length ca) (u1 := .bool D.s) (u2 := .slice D.a D.n D.c) (u3 := .slice D.b D.m D.e) (by omega)).trans hHeld.2.2.2.2.2.2.2.1, (set4_far (w := w3) (c := cA) (b := w.heap.size) (o := 8) (u0 := .slice a L.length ca) (u1 := .bool D.s) (u2 := .slice D.a D.n D.c) (u3 := .slice D.b D.m D.e) (by omega)).trans hHeld.2.2.2.2.2.2.2.2.1, (set4_far (w := w3) (c := cA) (b := w.heap.size) (o := 9) (u0 := .slice a L.length ca) (u1 := .bool D.s) (u2 := .slice D.a D.n D.c) (u3 := .slice D.b D.m D.e) (by omega)).trans hHeld.2.2.2.2.2.2.2.2.2⟩ : _ ∧ _ ∧ _ ∧ _ ∧ _ ∧ _ ∧ _ ∧ _ ∧ _ ∧ _)
      have fB := vB.far (u0 := .slice a L.length ca) (u1 := .bool D.s) (u2 := .slice D.a D.n D.c) (u3 := .slice D.b D.m D.e) (c := cA) (by omega)
      have pA := vA.put (u0 := .slice a L.length ca) (u1 := .bool D.s) (u2 := .slice D.a D.n D.c) (u3 := .slice D.b D.m D.e)
      have z0 := vA.1.1
      have z1 := vA.1.2.1
      have z2 := vA.1.2.2.1
      have z3 := vA.1.2.2.2
      go_simp
      clear z0 z1 z2 z3 fz vA vB
      have vB := fB
      have vA := pA
      clear fB pA
      obtain ⟨w4, hw9⟩ : ∃ w9, (((w3.setCell ⟨cA, 0, none⟩ (.slice a L.length ca)).setCell ⟨cA, 1, none⟩ (.bool D.s)).setCell ⟨cA, 2, none⟩ (.slice D.a D.n D.c)).setCell ⟨cA, 3, none⟩ (.slice D.b D.m D.e) = w9 := ⟨_, rfl⟩
      try unfold set4 at hB
      try unfold set4 at hH2
      try unfold set4 at vA
      try unfold set4 at vB
      rw [hw9] at hB hH2 vA vB ⊢
      clear hw9
      refine hKK.out _ _ hH2 ?_
      clear hHeld
      intro hHeld
      clear hKK KK
      try simp only [Act.put, List.setIfInBounds_toArray, List.set_cons_zero, List.set_cons_succ]
      clear hH2
      refine take' 11 (v := ?_) rfl (by kernel_rfl) (by kernel_rfl) (by kernel_rfl) (fun _ _ _ h => h) (Or.inl ⟨by rfl, ?_⟩) (by assumption) ?_
      rotate_left
      · intro w9 hSw
        go_simp
        first | done | with_reducible rfl
      simp only [Act.put, List.setIfInBounds_toArray, List.set_cons_zero, List.set_cons_succ]
      refine wpAnyH_ready (rs := [12]) (by kernel_rfl) (by simp) ?_
      refine cons' rfl (fun KK hKK => ?_)
      have fz := fun o => vB.2.frozen o
      replace hB := below_set4 (u0 := .slice b G.length cb) (u1 := .bool E.s) (u2 := .slice E.a E.n E.c) (u3 := .slice E.b E.m E.e) hB (show w.heap.size ≤ cB by omega)
      have hH2 := (⟨(set4_far (w := w4) (c := cB) (b := w.heap.size) (o := 0) (u0 := .slice b G.length cb) (u1 := .bool E.s) (u2 := .slice E.a E.n E.c) (u3 := .slice E.b E.m E.e) (by omega)).trans hHeld.1, (set4_far (w := w4) (c := cB) (b := w.heap.size) (o := 1) (u0 := .slice b G.length cb) (u1 := .bool E.s) (u2 := .slice E.a E.n E.c) (u3 := .slice E.b E.m E.e) (by omega)).trans hHeld.2.1, (set4_far (w := w4) (c := cB) (b := w.heap.size) (o := 2) (u0 := .slice b G.length cb) (u1 := .bool E.s) (u2 := .slice E.a E.n E.c) (u3 := .slice E.b E.m E.e) (by omega)).trans hHeld.2.2.1, (set4_far (w := w4) (c := cB) (b := w.heap.size) (o := 3) (u0 := .slice b G.length cb) (u1 := .bool E.s) (u2 := .slice E.a E.n E.c) (u3 := .slice E.b E.m E.e) (by omega)).trans hHeld.2.2.2.1, (set4_far (w := w4) (c := cB) (b := w.heap.size) (o := 4) (u0 := .slice b G.length cb) (u1 := .bool E.s) (u2 := .slice E.a E.n E.c) (u3 := .slice E.b E.m E.e) (by omega)).trans hHeld.2.2.2.2.1, (set4_far (w := w4) (c := cB) (b := w.heap.size) (o := 5) (u0 := .slice b G.length cb) (u1 := .bool E.s) (u2 := .slice E.a E.n E.c) (u3 := .slice E.b E.m E.e) (by omega)).trans hHeld.2.2.2.2.2.1, (set4_far (w := w4) (c := cB) (b := w.heap.size) (o := 6) (u0 := .slice b G.length cb) (u1 := .bool E.s) (u2 := .slice E.a E.n E.c) (u3 := .slice E.b E.m E.e) (by omega)).trans hHeld.2.2.2.2.2.2.1, (set4_far (w := w4) (c := cB) (b := w.heap.size) (o := 7) (u0 := .slice b G.length cb) (u1 := .bool E.s) (u2 := .slice E.a E.n E.c) (u3 := .slice E.b E.m E.e) (by omega)).trans hHeld.2.2.2.2.2.2.2.1, (set4_far (w := w4) (c := cB) (b := w.heap.size) (o := 8) (u0 := .slice b G.length cb) (u1 := .bool E.s) (u2 := .slice E.a E.n E.c) (u3 := .slice E.b E.m E.e) (by omega)).trans hHeld.2.2.2.2.2.2.2.2.1, (set4_far (w := w4) (c := cB) (b := w.heap.size) (o := 9) (u0 := .slice b G.length cb) (u1 := .bool E.s) (u2 := .slice E.a E.n E.c) (u3 := .slice E.b E.m E.e) (by omega)).trans hHeld.2.2.2.2.2.2.2.2.2⟩ : _ ∧ _ ∧ _ ∧ _ ∧ _ ∧ _ ∧ _ ∧ _ ∧ _ ∧ _)
      have fA := vA.far (u0 := .slice b G.length cb) (u1 := .bool E.s) (u2 := .slice E.a E.n E.c) (u3 := .slice E.b E.m E.e) (c := cB) (by omega)
      have pB := vB.put (u0 := .slice b G.length cb) (u1 := .bool E.s) (u2 := .slice E.a E.n E.c) (u3 := .slice E.b E.m E.e)
      have z0 := vB.1.1
      have z1 := vB.1.2.1
      have z2 := vB.1.2.2.1
      have z3 := vB.1.2.2.2
      go_simp
      clear z0 z1 z2 z3 fz vB vA
      have vA := fA
      have vB := pB
      clear fA pB
      obtain ⟨w5, hw9⟩ : ∃ w9, (((w4.setCell ⟨cB, 0, none⟩ (.slice b G.length cb)).setCell ⟨cB, 1, none⟩ (.bool E.s)).setCell ⟨cB, 2, none⟩ (.slice E.a E.n E.c)).setCell ⟨cB, 3, none⟩ (.slice E.b E.m E.e) = w9 := ⟨_, rfl⟩
      try unfold set4 at hB
      try unfold set4 at hH2
      try unfold set4 at vA
      try unfold set4 at vB
      rw [hw9] at hB hH2 vA vB ⊢
      clear hw9
      refine hKK.out _ _ hH2 ?_
      clear hHeld
      intro hHeld
      clear hKK KK
      try simp only [Act.put, List.setIfInBounds_toArray, List.set_cons_zero, List.set_cons_succ]
      clear hH2
      refine take' 13 (v := ?_) rfl (by kernel_rfl) (by kernel_rfl) (by kernel_rfl) (fun _ _ _ h => h) (Or.inl ⟨by rfl, ?_⟩) (by assumption) ?_
      rotate_left
      · intro w9 hSw
        go_simp
        first | done | with_reducible rfl
      simp only [Act.put, List.setIfInBounds_toArray, List.set_cons_zero, List.set_cons_succ]
      refine wpAnyH_done (by kernel_rfl) ?_ _
      go_wp2_with fail
      go_meet
      exact ⟨_, cA, cB, rfl, rfl, rfl, rfl, rfl, by omega, by omega, vA, vB, hB⟩
    refine consT rfl (fun KK hKK => ?_) ?_
    · skip
      go_simp
      have vB : Four (w1.alloc (.cells #[.slice none 0 0, .bool false, .slice none 0 0, .slice none 0 0] 33)) w1.heap.size (.slice none 0 0) (.bool false) (.slice none 0 0) (.slice none 0 0) := four_new w1 _ _ _ _ 33
      have bA := below_alloc (w := w1) (.cells #[.slice none 0 0, .bool false, .slice none 0 0, .slice none 0 0] 33)
      have hcB : w.heap.size < w1.heap.size := World.block_lt_of_cell? w1 ⟨w.heap.size, 0, none⟩ hHeld.1
      generalize w1.alloc (.cells #[.slice none 0 0, .bool false, .slice none 0 0, .slice none 0 0] 33) = w2 at vB bA ⊢
      replace hB := hB.trans (bA.mono hB.size)
      replace hHeld := (⟨below_cell bA hHeld.1, below_cell bA hHeld.2.1, below_cell bA hHeld.2.2.1, below_cell bA hHeld.2.2.2.1, below_cell bA hHeld.2.2.2.2.1, below_cell bA hHeld.2.2.2.2.2.1, below_cell bA hHeld.2.2.2.2.2.2.1, below_cell bA hHeld.2.2.2.2.2.2.2.1, below_cell bA hHeld.2.2.2.2.2.2.2.2.1, below_cell bA hHeld.2.2.2.2.2.2.2.2.2⟩ : _ ∧ _ ∧ _ ∧ _ ∧ _ ∧ _ ∧ _ ∧ _ ∧ _ ∧ _)
      clear bA
      refine hKK.out _ _ hHeld ?_
      clear hHeld
      intro hHeld
      clear hKK KK
      try simp only [Act.put, List.setIfInBounds_toArray, List.set_cons_zero, List.set_cons_succ]
      obtain ⟨cB, hcc⟩ : ∃ cc, w1.heap.size = cc := ⟨_, rfl⟩
      rw [hcc] at vB hcB
      try rw [hcc] at hne
      try rw [hcc]
      clear hcc
      refine wpAnyH_ready (rs := [8]) (by kernel_rfl) (by simp) ?_
      refine cons' rfl (fun KK hKK => ?_)
      go_simp
      have vA : Four (w2.alloc (.cells #[.slice none 0 0, .bool false, .slice none 0 0, .slice none 0 0] 33)) w2.heap.size (.slice none 0 0) (.bool false) (.slice none 0 0) (.slice none 0 0) := four_new w2 _ _ _ _ 33
      have bA := below_alloc (w := w2) (.cells #[.slice none 0 0, .bool false, .slice none 0 0, .slice none 0 0] 33)
      have hcA : w.heap.size < w2.heap.size := World.block_lt_of_cell? w2 ⟨w.heap.size, 0, none⟩ hHeld.1
      have hne : cB ≠ w2.heap.size := by have := vB.2.lt; omega
      generalize w2.alloc (.cells #[.slice none 0 0, .bool false, .slice none 0 0, .slice none 0 0] 33) = w3 at vA bA ⊢
      replace hB := hB.trans (bA.mono hB.size)
      replace vB := vB.later bA
      replace hHeld := (⟨below_cell bA hHeld.1, below_cell bA hHeld.2.1, below_cell bA hHeld.2.2.1, below_cell bA hHeld.2.2.2.1, below_cell bA hHeld.2.2.2.2.1, below_cell bA hHeld.2.2.2.2.2.1, below_cell bA hHeld.2.2.2.2.2.2.1, below_cell bA hHeld.2.2.2.2.2.2.2.1, below_cell bA hHeld.2.2.2.2.2.2.2.2.1, below_cell bA hHeld.2.2.2.2.2.2.2.2.2⟩ : _ ∧ _ ∧ _ ∧ _ ∧ _ ∧ _ ∧ _ ∧ _ ∧ _ ∧ _)
      clear bA
      refine hKK.out _ _ hHeld ?_
      clear hHeld
      intro hHeld
      clear hKK KK
      try simp only [Act.put, List.setIfInBounds_toArray, List.set_cons_zero, List.set_cons_succ]
      obtain ⟨cA, hcc⟩ : ∃ cc, w2.heap.size = cc := ⟨_, rfl⟩
      rw [hcc] at vA hcA
      try rw [hcc] at hne
      try rw [hcc]
      clear hcc
      refine wpAnyH_ready (rs := [10]) (by kernel_rfl) (by simp) ?_
      refine cons' rfl (fun KK hKK => ?_)
      have fz := fun o => vA.2.frozen o
      replace hB := below_set4 (u0 := .slice a L.length ca) (u1 := .bool D.s) (u2 := .slice D.a D.n D.c) (u3 := .slice D.b D.m D.e) hB (show w.heap.size ≤ cA by omega)
      have hH2 := (⟨(set4_far (w := w3) (c := cA) (b := w.heap.size) (o := 0) (u0 := .slice a L.length ca) (u1 := .bool D.s) (u2 := .slice D.a D.n D.c) (u3 := .slice D.b D.m D.e) (by omega)).trans hHeld.1, (set4_far (w := w3) (c := cA) (b := w.heap.size) (o := 1) (u0 := .slice a L.length ca) (u1 := .bool D.s) (u2 := .slice D.a D.n D.c) (u3 := .slice D.b D.m D.e) (by omega)).trans hHeld.2.1, (set4_far (w := w3) (c := cA) (b := w.heap.size) (o := 2) (u0 := .slice a L.length ca) (u1 := .bool D.s) (u2 := .slice D.a D.n D.c) (u3 := .slice D.b D.m D.e) (by omega)).trans hHeld.2.2.1, (set4_far (w := w3) (c := cA) (b := w.heap.size) (o := 3) (u0 := .slice a L.length ca) (u1 := .bool D.s) (u2 := .slice D.a D.n D.c) (u3 := .slice D.b D.m D.e) (by omega)).trans hHeld.2.2.2.1, (set4_far (w := w3) (c := cA) (b := w.heap.size) (o := 4) (u0 := .slice a L.length ca) (u1 := .bool D.s) (u2 := .slice D.a D.n D.c) (u3 := .slice D.b D.m D.e) (by omega)).trans hHeld.2.2.2.2.1, (set4_far (w := w3) (c := cA) (b := w.heap.size) (o := 5) (u0 := .slice a L.length ca) (u1 := .bool D.s) (u2 := .slice D.a D.n D.c) (u3 := .slice D.b D.m D.e) (by omega)).trans hHeld.2.2.2.2.2.1, (set4_far (w := w3) (c := cA) (b := w.heap.size) (o := 6) (u0 := .slice a L.length ca) (u1 := .bool D.s) (u2 := .slice D.a D.n D.c) (u3 := .slice D.b D.m D.e) (by omega)).trans hHeld.2.2.2.2.2.2.1, (set4_far (w := w3) (c := cA) (b := w.heap.size) (o := 7) (u0 := .slice a L.length ca) (u1 := .bool D.s) (u2 := .slice D.a D.n D.c) (u3 := .slice D.b D.m D.e) (by omega)).trans hHeld.2.2.2.2.2.2.2.1, (set4_far (w := w3) (c := cA) (b := w.heap.size) (o := 8) (u0 := .slice a L.length ca) (u1 := .bool D.s) (u2 := .slice D.a D.n D.c) (u3 := .slice D.b D.m D.e) (by omega)).trans hHeld.2.2.2.2.2.2.2.2.1, (set4_far (w := w3) (c := cA) (b := w.heap.size) (o := 9) (u0 := .slice a L.length ca) (u1 := .bool D.s) (u2 := .slice D.a D.n D.c) (u3 := .slice D.b D.m D.e) (by omega)).trans hHeld.2.2.2.2.2.2.2.2.2⟩ : _ ∧ _ ∧ _ ∧ _ ∧ _ ∧ _ ∧ _ ∧ _ ∧ _ ∧ _)
      have fB := vB.far (u0 := .slice a L.length ca) (u1 := .bool D.s) (u2 := .slice D.a D.n D.c) (u3 := .slice D.b D.m D.e) (c := cA) (by omega)
      have pA := vA.put (u0 := .slice a L.length ca) (u1 := .bool D.s) (u2 := .slice D.a D.n D.c) (u3 := .slice D.b D.m D.e)
      have z0 := vA.1.1
      have z1 := vA.1.2.1
      have z2 := vA.1.2.2.1
      have z3 := vA.1.2.2.2
      go_simp
      clear z0 z1 z2 z3 fz vA vB
      have vB := fB
      have vA := pA
      clear fB pA
      obtain ⟨w4, hw9⟩ : ∃ w9, (((w3.setCell ⟨cA, 0, none⟩ (.slice a L.length ca)).setCell ⟨cA, 1, none⟩ (.bool D.s)).setCell ⟨cA, 2, none⟩ (.slice D.a D.n D.c)).setCell ⟨cA, 3, none⟩ (.slice D.b D.m D.e) = w9 := ⟨_, rfl⟩
      try unfold set4 at hB
      try unfold set4 at hH2
      try unfold set4 at vA
      try unfold set4 at vB
      rw [hw9] at hB hH2 vA vB ⊢
      clear hw9
      refine hKK.out _ _ hH2 ?_
      clear hHeld
      intro hHeld
      clear hKK KK
      try simp only [Act.put, List.setIfInBounds_toArray, List.set_cons_zero, List.set_cons_succ]
      clear hH2
      refine take' 11 (v := ?_) rfl (by kernel_rfl) (by kernel_rfl) (by kernel_rfl) (fun _ _ _ h => h) (Or.inl ⟨by rfl, ?_⟩) (by assumption) ?_
      rotate_left
      · intro w9 hSw
        go_simp
        first | done | with_reducible rfl
      simp only [Act.put, List.setIfInBounds_toArray, List.set_cons_zero, List.set_cons_succ]
      refine wpAnyH_ready (rs := [12]) (by kernel_rfl) (by simp) ?_
      refine cons' rfl (fun KK hKK => ?_)
      have fz := fun o => vB.2.frozen o
      replace hB := below_set4 (u0 := .slice b G.length cb) (u1 := .bool E.s) (u2 := .slice E.a E.n E.c) (u3 := .slice E.b E.m E.e) hB (show w.heap.size ≤ cB by omega)
      have hH2 := (⟨(set4_far (w := w4) (c := cB) (b := w.heap.size) (o := 0) (u0 := .slice b G.length cb) (u1 := .bool E.s) (u2 := .slice E.a E.n E.c) (u3 := .slice E.b E.m E.e) (by omega)).trans hHeld.1, (set4_far (w := w4) (c := cB) (b := w.heap.size) (o := 1) (u0 := .slice b G.length cb) (u1 := .bool E.s) (u2 := .slice E.a E.n E.c) (u3 := .slice E.b E.m E.e) (by omega)).trans hHeld.2.1, (set4_far (w := w4) (c := cB) (b := w.heap.size) (o := 2) (u0 := .slice b G.length cb) (u1 := .bool E.s) (u2 := .slice E.a E.n E.c) (u3 := .slice E.b E.m E.e) (by omega)).trans hHeld.2.2.1, (set4_far (w := w4) (c := cB) (b := w.heap.size) (o := 3) (u0 := .slice b G.length cb) (u1 := .bool E.s) (u2 := .slice E.a E.n E.c) (u3 := .slice E.b E.m E.e) (by omega)).trans hHeld.2.2.2.1, (set4_far (w := w4) (c := cB) (b := w.heap.size) (o := 4) (u0 := .slice b G.length cb) (u1 := .bool E.s) (u2 := .slice E.a E.n E.c) (u3 := .slice E.b E.m E.e) (by omega)).trans hHeld.2.2.2.2.1, (set4_far (w := w4) (c := cB) (b := w.heap.size) (o := 5) (u0 := .slice b G.length cb) (u1 := .bool E.s) (u2 := .slice E.a E.n E.c) (u3 := .slice E.b E.m E.e) (by omega)).trans hHeld.2.2.2.2.2.1, (set4_far (w := w4) (c := cB) (b := w.heap.size) (o := 6) (u0 := .slice b G.length cb) (u1 := .bool E.s) (u2 := .slice E.a E.n E.c) (u3 := .slice E.b E.m E.e) (by omega)).trans hHeld.2.2.2.2.2.2.1, (set4_far (w := w4) (c := cB) (b := w.heap.size) (o := 7) (u0 := .slice b G.length cb) (u1 := .bool E.s) (u2 := .slice E.a E.n E.c) (u3 := .slice E.b E.m E.e) (by omega)).trans hHeld.2.2.2.2.2.2.2.1, (set4_far (w := w4) (c := cB) (b := w.heap.size) (o := 8) (u0 := .slice b G.length cb) (u1 := .bool E.s) (u2 := .slice E.a E.n E.c) (u3 := .slice E.b E.m E.e) (by omega)).trans hHeld.2.2.2.2.2.2.2.2.1, (set4_far (w := w4) (c := cB) (b := w.heap.size) (o := 9) (u0 := .slice b G.length cb) (u1 := .bool E.s) (u2 := .slice E.a E.n E.c) (u3 := .slice E.b E.m E.e) (by omega)).trans hHeld.2.2.2.2.2.2.2.2.2⟩ : _ ∧ _ ∧ _ ∧ _ ∧ _ ∧ _ ∧ _ ∧ _ ∧ _ ∧ _)
      have fA := vA.far (u0 := .slice b G.length cb) (u1 := .bool E.s) (u2 := .slice E.a E.n E.c) (u3 := .slice E.b E.m E.e) (c := cB) (by omega)
      have pB := vB.put (u0 := .slice b G.length cb) (u1 := .bool E.s) (u2 := .slice E.a E.n E.c) (u3 := .slice E.b E.m E.e)
      have z0 := vB.1.1
      have z1 := vB.1.2.1
      have z2 := vB.1.2.2.1
      have z3 := vB.1.2.2.2
      go_simp
      clear z0 z1 z2 z3 fz vB vA
      have vA := fA
      have vB := pB
      clear fA pB
      obtain ⟨w5, hw9⟩ : ∃ w9, (((w4.setCell ⟨cB, 0, none⟩ (.slice b G.length cb)).setCell ⟨cB, 1, none⟩ (.bool E.s)).setCell ⟨cB, 2, none⟩ (.slice E.a E.n E.c)).setCell ⟨cB, 3, none⟩ (.slice E.b E.m E.e) = w9 := ⟨_, rfl⟩
      try unfold set4 at hB
      try unfold set4 at hH2
      try unfold set4 at vA
      try unfold set4 at vB
      rw [hw9] at hB hH2 vA vB ⊢
      clear hw9
      refine hKK.out _ _ hH2 ?_
      clear hHeld
      intro hHeld
      clear hKK KK
      try simp only [Act.put, List.setIfInBounds_toArray, List.set_cons_zero, List.set_cons_succ]
      clear hH2
      refine take' 13 (v := ?_) rfl (by kernel_rfl) (by kernel_rfl) (by kernel_rfl) (fun _ _ _ h => h) (Or.inl ⟨by rfl, ?_⟩) (by assumption) ?_
      rotate_left
      · intro w9 hSw
        go_simp
        first | done | with_reducible rfl
      simp only [Act.put, List.setIfInBounds_toArray, List.set_cons_zero, List.set_cons_succ]
      refine wpAnyH_done (by kernel_rfl) ?_ _
      go_wp2_with fail
      go_meet
      exact ⟨_, cA, cB, rfl, rfl, rfl, rfl, rfl, by omega, by omega, vA, vB, hB⟩
    exact AllReadyH.nil
  case rest =>
    obtain ⟨wv, c3, c5, hwv, rfl, rfl, rfl, rfl, n3, n5, v3, v5, hB2⟩ := hcut
    subst hwv
    clear hB d0 d1 d2 d3 d4 d5 d6 d7 d8 d9
    have hB := hB2
    clear hB2
    have l3 := v3.2.lt
    have l5 := v5.2.lt
    have f0 := v3.1.1
    have e0 := v5.1.1
    have f1 := v3.1.2.1
    have e1 := v5.1.2.1
    have f2 := v3.1.2.2.1
    have e2 := v5.1.2.2.1
    have f3 := v3.1.2.2.2
    have e3 := v5.1.2.2.2
    clear v3 v5
    clear e0 e1 e2 e3
    go_wp2_with fail
    have bD : Below wv.heap.size wv wv.drew := (Below.refl _ _).drew
    have kf0 := below_cell bD f0
    replace hB := hB.trans (bD.mono hB.size)
    refine wp_region_held_drew (S := fun w' => w'.cell? ⟨c3, 0, none⟩ = some (.slice a L.length ca)) (by kernel_rfl) kf0 (fun hHeld => ?_)
    clear kf0
    generalize wv.drew = w11 at bD hB hHeld ⊢
    clear bD f0
    refine take' 0 (v := ?_) rfl (by kernel_rfl) (by kernel_rfl) (by kernel_rfl) (fun _ _ _ h => h) (Or.inl ⟨by rfl, ?_⟩) (by assumption) ?_
    rotate_left
    · intro w9 hSw
      go_simp
      first | done | with_reducible rfl
    simp only [Act.put, List.setIfInBounds_toArray, List.set_cons_zero, List.set_cons_succ]
    refine take' 1 (v := ?_) rfl (by kernel_rfl) (by kernel_rfl) (by kernel_rfl) (fun _ _ _ h => h) (Or.inl ⟨by rfl, ?_⟩) (by assumption) ?_
    rotate_left
    · intro w9 hSw
      go_simp
      first | done | with_reducible rfl
    simp only [Act.put, List.setIfInBounds_toArray, List.set_cons_zero, List.set_cons_succ]
    refine take' 2 (v := ?_) rfl (by kernel_rfl) (by kernel_rfl) (by kernel_rfl) (fun _ _ _ h => h) (Or.inl ⟨by rfl, ?_⟩) (by assumption) ?_
    rotate_left
    · intro w9 hSw
      go_simp
      first | done | with_reducible rfl
    simp only [Act.put, List.setIfInBounds_toArray, List.set_cons_zero, List.set_cons_succ]
    refine take' 4 (v := ?_) rfl (by kernel_rfl) (by kernel_rfl) (by kernel_rfl) (fun _ _ _ h => h) (Or.inl ⟨by rfl, ?_⟩) (by assumption) ?_
    rotate_left
    · intro w9 hSw
      go_simp
      first | done | with_reducible rfl
    simp only [Act.put, List.setIfInBounds_toArray, List.set_cons_zero, List.set_cons_succ]
    refine take' 5 (v := ?_) rfl (by kernel_rfl) (by kernel_rfl) (by kernel_rfl) (fun _ _ _ h => h) (Or.inl ⟨by rfl, ?_⟩) (by assumption) ?_
    rotate_left
    · intro w9 hSw
      go_simp
      first | done | with_reducible rfl
    simp only [Act.put, List.setIfInBounds_toArray, List.set_cons_zero, List.set_cons_succ]
    refine take' 6 (v := ?_) rfl (by kernel_rfl) (by kernel_rfl) (by kernel_rfl) (fun _ _ _ h => h) (Or.inl ⟨by rfl, ?_⟩) (by assumption) ?_
    rotate_left
    · intro w9 hSw
      go_simp
      first | done | with_reducible rfl
    simp only [Act.put, List.setIfInBounds_toArray, List.set_cons_zero, List.set_cons_succ]
    refine wpAnyH_ready (rs := [3]) (by kernel_rfl) (by simp) ?_
    refine cons' rfl (fun KK hKK => ?_)
    go_simp
    refine (GV.out _ hB).mono ?_
    rintro e w12 ⟨p1, q1, rfl, b1, g1, g2⟩
    have bC := b1
    replace hB := hB.trans (bC.mono hB.size)
    replace hHeld := below_cell bC hHeld
    clear bC
    go_wp2_with fail
    clear b1
    refine hKK.out _ _ hHeld ?_
    clear hHeld
    intro hHeld
    clear hKK KK
    try simp only [Act.put, List.setIfInBounds_toArray, List.set_cons_zero, List.set_cons_succ]
    refine wpAnyH_ready (rs := [7]) (by kernel_rfl) (by simp) ?_
    refine cons' rfl (fun KK hKK => ?_)
    go_simp
    refine (GR.out _ hB).mono ?_
    rintro e w13 ⟨p2, q2, rfl, b2, g3, g4⟩
    have bC := b2
    replace hB := hB.trans (bC.mono hB.size)
    replace g1 := g1.later bC
    replace g2 := g2.later bC
    replace hHeld := below_cell bC hHeld
    clear bC
    go_wp2_with fail
    clear b2
    refine hKK.out _ _ hHeld ?_
    clear hHeld
    intro hHeld
    clear hKK KK
    try simp only [Act.put, List.setIfInBounds_toArray, List.set_cons_zero, List.set_cons_succ]
    refine wpAnyH_ready (rs := [8]) (by kernel_rfl) (by simp) ?_
    refine cons' rfl (fun KK hKK => ?_)
    go_simp
    refine (GC.out _ p1 q1 p2 q2 g1 g2 g3 g4).mono ?_
    rintro e w14 ⟨rfl, b3⟩
    have bC := b3
    replace hB := hB.trans (bC.mono hB.size)
    replace g1 := g1.later bC
    replace g2 := g2.later bC
    replace g3 := g3.later bC
    replace g4 := g4.later bC
    replace hHeld := below_cell bC hHeld
    clear bC
    go_wp2_with fail
    clear b3
    refine hKK.out _ _ hHeld ?_
    clear hHeld
    intro hHeld
    clear hKK KK
    try simp only [Act.put, List.setIfInBounds_toArray, List.set_cons_zero, List.set_cons_succ]
    refine take' 9 (v := ?_) rfl (by kernel_rfl) (by kernel_rfl) (by kernel_rfl) (fun _ _ _ h => h) (Or.inl ⟨by rfl, ?_⟩) (by assumption) ?_
    rotate_left
    · intro w9 hSw
      go_simp
      first | done | with_reducible rfl
    simp only [Act.put, List.setIfInBounds_toArray, List.set_cons_zero, List.set_cons_succ]
    refine take' 10 (v := ?_) rfl (by kernel_rfl) (by kernel_rfl) (by kernel_rfl) (fun _ _ _ h => h) (Or.inl ⟨by rfl, ?_⟩) (by assumption) ?_
    rotate_left
    · intro w9 hSw
      go_simp
      first | done | with_reducible rfl
    simp only [Act.put, List.setIfInBounds_toArray, List.set_cons_zero, List.set_cons_succ]
    refine wpAnyH_ready (rs := [11]) (by kernel_rfl) (by simp) ?_
    refine cons' rfl (fun KK hKK => ?_)
    go_simp
    refine (awake_is _).mono ?_
    rintro e w15 ⟨rfl, b4⟩
    have bC := b4
    replace hB := hB.trans (bC.mono hB.size)
    replace g1 := g1.later bC
    replace g2 := g2.later bC
    replace g3 := g3.later bC
    replace g4 := g4.later bC
    replace hHeld := below_cell bC hHeld
    clear bC
    go_wp2_with fail
    clear b4
    refine hKK.out _ _ hHeld ?_
    clear hHeld
    intro hHeld
    clear hKK KK
    try simp only [Act.put, List.setIfInBounds_toArray, List.set_cons_zero, List.set_cons_succ]
    refine take' 12 (v := ?_) rfl (by kernel_rfl) (by kernel_rfl) (by kernel_rfl) (fun _ _ _ h => h) (Or.inl ⟨by rfl, ?_⟩) (by assumption) ?_
    rotate_left
    · intro w9 hSw
      go_simp
      first | done | with_reducible rfl
    simp only [Act.put, List.setIfInBounds_toArray, List.set_cons_zero, List.set_cons_succ]
    refine take' 13 (v := ?_) rfl (by kernel_rfl) (by kernel_rfl) (by kernel_rfl) (fun _ _ _ h => h) (Or.inl ⟨by rfl, ?_⟩) (by assumption) ?_
    rotate_left
    · intro w9 hSw
      go_simp
      first | done | with_reducible rfl
    simp only [Act.put, List.setIfInBounds_toArray, List.set_cons_zero, List.set_cons_succ]
    refine wpAnyH_done (by kernel_rfl) ?_ _
    go_wp2
    go_ret
    exact ⟨rfl, hB⟩
set_option maxHeartbeats 8000000 in
set_option maxRecDepth 100000 in
theorem walkG (a : Option Addr) (ca : Nat) (L : List Mo) (D : RatV) (x : Int) (b : Option Addr) (cb : Nat) (G : List Mo) (E : RatV) (av : Option Addr) (m capv : Nat) (g : Nat → RatV) (w : World) (hx0 : 0 ≤ x) (hx : (m : Int) ≤ x)
    (hF : FAt w a L) (hok : ∀ p ∈ L, p.2.ok w ∧ p.2.n ≤ 4194304 ∧ p.2.m ≤ 4194304) (hc : L.length ≤ ca) (hD : D.ok w) (hG : FAt w b G) (hkG : ∀ p ∈ G, p.2.ok w ∧ p.2.n ≤ 4194304 ∧ p.2.m ≤ 4194304) (hcG : G.length ≤ cb) (hE : E.ok w)
    (hV : RatsAt w av m g) (hgo : ∀ i, i < m → (g i).ok w) (hcv : m ≤ capv) (hb : bulkL L + D.n + D.m + (bulkL G + E.n + E.m) + bulkV g m ≤ 1048576 + L.length + G.length) :
    Calls Tryz.prog 4 #[.agg #[.slice a L.length ca, .bool D.s, .slice D.a D.n D.c, .slice D.b D.m D.e, .int .i64 x, .slice b G.length cb, .bool E.s, .slice E.a E.n E.c, .slice E.b E.m E.e, .slice av m capv]] w fun e w' => e = .returned (.bool true) ∧ Below w.heap.size w w' := by
  have b2 := bulkL_n L
  have b3 := bulkL_n G
  have b4 := bulkV_n (q := g) m
  have GV := hide' (fun w' (hb9 : Below w.heap.size w w') => lValueR_is a ca L av m capv g 4194304 w' hc hcv (by omega) (by omega) (hF.later hb9) (fun p hp => (hok p hp).1.later hb9) (hV.later hb9) (fun i hi => (hgo i hi).later hb9) (fun p hp => by have := bulkL_at L p hp; omega) (fun t ht => by have := bulkV_at (q := g) m t ht; omega) (by omega) (fun i j => (vl_part_sz (fo L) g m i j).mono (by have h1 := wts_bulk L (fun p hp => (hok p hp).1); have h2 := rlist_wts m hgo; rw [fo_length]; omega)))
  have GR := hide' (fun w' (hb9 : Below w.heap.size w w') => vValueR_is a ca L av m capv g w' hc hcv (hF.later hb9) (fun p hp => (hok p hp).1.later hb9) (hV.later hb9) (fun i hi => (hgo i hi).later hb9) (by omega))
  have hs : sz 1099511627776 (vl (rho g m) (fo L)) := (vl_sz (fo L) g m).mono (by have h1 := wts_bulk L (fun p hp => (hok p hp).1); have h2 := rlist_wts m hgo; rw [fo_length]; omega)
  have hmx : m ≤ 1048576 := by omega
  obtain ⟨VF, hVF⟩ : ∃ VF, vl (rho g m) (fo L) = VF := ⟨_, rfl⟩
  rw [hVF] at GV GR hs
  have GC := hide' (fun w' p q p1 q1 => cmpN_is VF p q p1 q1 w' hs)
  clear hVF hs hF hok hc hD hG hkG hcG hE hV hgo hcv hb b2 b3 b4
  go_enter Tryz.func4, Tryz.ntmps4
  go_upto_region 1 with fail
  obtain ⟨wA, hwA⟩ : ∃ wA, w.alloc (.cells #[.slice a L.length ca, .bool D.s, .slice D.a D.n D.c, .slice D.b D.m D.e, .int .i64 x, .slice b G.length cb, .bool E.s, .slice E.a E.n E.c, .slice E.b E.m E.e, .slice av m capv] 38) = wA := ⟨_, rfl⟩
  have hB : Below w.heap.size w wA := by subst hwA; exact below_alloc _
  have d0 : wA.cell? ⟨w.heap.size, 0, none⟩ = some (.slice a L.length ca) := by subst hwA; go_simp
  have d1 : wA.cell? ⟨w.heap.size, 1, none⟩ = some (.bool D.s) := by subst hwA; go_simp
  have d2 : wA.cell? ⟨w.heap.size, 2, none⟩ = some (.slice D.a D.n D.c) := by subst hwA; go_simp
  have d3 : wA.cell? ⟨w.heap.size, 3, none⟩ = some (.slice D.b D.m D.e) := by subst hwA; go_simp
  have d4 : wA.cell? ⟨w.heap.size, 4, none⟩ = some (.int .i64 x) := by subst hwA; go_simp
  have d5 : wA.cell? ⟨w.heap.size, 5, none⟩ = some (.slice b G.length cb) := by subst hwA; go_simp
  have d6 : wA.cell? ⟨w.heap.size, 6, none⟩ = some (.bool E.s) := by subst hwA; go_simp
  have d7 : wA.cell? ⟨w.heap.size, 7, none⟩ = some (.slice E.a E.n E.c) := by subst hwA; go_simp
  have d8 : wA.cell? ⟨w.heap.size, 8, none⟩ = some (.slice E.b E.m E.e) := by subst hwA; go_simp
  have d9 : wA.cell? ⟨w.heap.size, 9, none⟩ = some (.slice av m capv) := by subst hwA; go_simp
  rw [hwA]
  clear hwA
  go_cut [3, 4, 5, 6] from 12 to 19 (fun s3 s4 s5 s6 wx => ∃ wv c3 c5, wv = wx ∧ s3 = .pointer (some ⟨c3, 0, none⟩) ∧ s4 = .int .i64 x ∧ s5 = .pointer (some ⟨c5, 0, none⟩) ∧ s6 = .slice av m capv ∧ w.heap.size ≤ c3 ∧ w.heap.size ≤ c5 ∧ Four wx c3 (.slice a L.length ca) (.bool D.s) (.slice D.a D.n D.c) (.slice D.b D.m D.e) ∧ Four wx c5 (.slice b G.length cb) (.bool E.s) (.slice E.a E.n E.c) (.slice E.b E.m E.e) ∧ Below w.heap.size w wx)
  case first =>
    have bD : Below wA.heap.size wA wA.drew := (Below.refl _ _).drew
    have kd0 := below_cell bD d0
    have kd1 := below_cell bD d1
    have kd2 := below_cell bD d2
    have kd3 := below_cell bD d3
    have kd4 := below_cell bD d4
    have kd5 := below_cell bD d5
    have kd6 := below_cell bD d6
    have kd7 := below_cell bD d7
    have kd8 := below_cell bD d8
    have kd9 := below_cell bD d9
    replace hB := hB.trans (bD.mono hB.size)
    refine wp_region_held_drew (S := fun w' => w'.cell? ⟨w.heap.size, 0, none⟩ = some (.slice a L.length ca) ∧ w'.cell? ⟨w.heap.size, 1, none⟩ = some (.bool D.s) ∧ w'.cell? ⟨w.heap.size, 2, none⟩ = some (.slice D.a D.n D.c) ∧ w'.cell? ⟨w.heap.size, 3, none⟩ = some (.slice D.b D.m D.e) ∧ w'.cell? ⟨w.heap.size, 4, none⟩ = some (.int .i64 x) ∧ w'.cell? ⟨w.heap.size, 5, none⟩ = some (.slice b G.length cb) ∧ w'.cell? ⟨w.heap.size, 6, none⟩ = some (.bool E.s) ∧ w'.cell? ⟨w.heap.size, 7, none⟩ = some (.slice E.a E.n E.c) ∧ w'.cell? ⟨w.heap.size, 8, none⟩ = some (.slice E.b E.m E.e) ∧ w'.cell? ⟨w.heap.size, 9, none⟩ = some (.slice av m capv)) (by kernel_rfl) ⟨kd0, kd1, kd2, kd3, kd4, kd5, kd6, kd7, kd8, kd9⟩ (fun hHeld => ?_)
    clear kd0 kd1 kd2 kd3 kd4 kd5 kd6 kd7 kd8 kd9
    generalize wA.drew = w1 at bD hB hHeld ⊢
    clear bD d0 d1 d2 d3 d4 d5 d6 d7 d8 d9
    refine take' 0 (v := ?_) rfl (by kernel_rfl) (by kernel_rfl) (by kernel_rfl) (fun _ _ _ h => h) (Or.inl ⟨by rfl, ?_⟩) (by assumption) ?_
    rotate_left
    · intro w9 hSw
      go_simp
      first | done | with_reducible rfl
    simp only [Act.put, List.setIfInBounds_toArray, List.set_cons_zero, List.set_cons_succ]
    refine take' 1 (v := ?_) rfl (by kernel_rfl) (by kernel_rfl) (by kernel_rfl) (fun _ _ _ h => h) (Or.inl ⟨by rfl, ?_⟩) (by assumption) ?_
    rotate_left
    · intro w9 hSw
      go_simp
      first | done | with_reducible rfl
    simp only [Act.put, List.setIfInBounds_toArray, List.set_cons_zero, List.set_cons_succ]
    refine take' 2 (v := ?_) rfl (by kernel_rfl) (by kernel_rfl) (by kernel_rfl) (fun _ _ _ h => h) (Or.inl ⟨by rfl, ?_⟩) (by assumption) ?_
    rotate_left
    · intro w9 hSw
      go_simp
      first | done | with_reducible rfl
    simp only [Act.put, List.setIfInBounds_toArray, List.set_cons_zero, List.set_cons_succ]
    refine take' 3 (v := ?_) rfl (by kernel_rfl) (by kernel_rfl) (by kernel_rfl) (fun _ _ _ h => h) (Or.inl ⟨by rfl, ?_⟩) (by assumption) ?_
    rotate_left
    · intro w9 hSw
      go_simp
      first | done | with_reducible rfl
    simp only [Act.put, List.setIfInBounds_toArray, List.set_cons_zero, List.set_cons_succ]
    refine take' 4 (v := ?_) rfl (by kernel_rfl) (by kernel_rfl) (by kernel_rfl) (fun _ _ _ h => h) (Or.inl ⟨by rfl, ?_⟩) (by assumption) ?_
    rotate_left
    · intro w9 hSw
      go_simp
      first | done | with_reducible rfl
    simp only [Act.put, List.setIfInBounds_toArray, List.set_cons_zero, List.set_cons_succ]
    refine take' 5 (v := ?_) rfl (by kernel_rfl) (by kernel_rfl) (by kernel_rfl) (fun _ _ _ h => h) (Or.inl ⟨by rfl, ?_⟩) (by assumption) ?_
    rotate_left
    · intro w9 hSw
      go_simp
      first | done | with_reducible rfl
    simp only [Act.put, List.setIfInBounds_toArray, List.set_cons_zero, List.set_cons_succ]
    refine take' 6 (v := ?_) rfl (by kernel_rfl) (by kernel_rfl) (by kernel_rfl) (fun _ _ _ h => h) (Or.inl ⟨by rfl, ?_⟩) (by assumption) ?_
    rotate_left
    · intro w9 hSw
      go_simp
      first | done | with_reducible rfl
    simp only [Act.put, List.setIfInBounds_toArray, List.set_cons_zero, List.set_cons_succ]
    refine take' 7 (v := ?_) rfl (by kernel_rfl) (by kernel_rfl) (by kernel_rfl) (fun _ _ _ h => h) (Or.inl ⟨by rfl, ?_⟩) (by assumption) ?_
    rotate_left
    · intro w9 hSw
      go_simp
      first | done | with_reducible rfl
    simp only [Act.put, List.setIfInBounds_toArray, List.set_cons_zero, List.set_cons_succ]
    refine wpAnyH_ready (rs := [8, 9]) (by kernel_rfl) (by simp) ?_
    refine consT rfl (fun KK hKK => ?_) ?_
    · skip
      go_simp
      have vA : Four (w1.alloc (.cells #[.slice none 0 0, .bool false, .slice none 0 0, .slice none 0 0] 33)) w1.heap.size (.slice none 0 0) (.bool false) (.slice none 0 0) (.slice none 0 0) := four_new w1 _ _ _ _ 33
      have bA := below_alloc (w := w1) (.cells #[.slice none 0 0, .bool false, .slice none 0 0, .slice none 0 0] 33)
      have hcA : w.heap.size < w1.heap.size := World.block_lt_of_cell? w1 ⟨w.heap.size, 0, none⟩ hHeld.1
      generalize w1.alloc (.cells #[.slice none 0 0, .bool false, .slice none 0 0, .slice none 0 0] 33) = w2 at vA bA ⊢
      replace hB := hB.trans (bA.mono hB.size)
      replace hHeld := (⟨below_cell bA hHeld.1, below_cell bA hHeld.2.1, below_cell bA hHeld.2.2.1, below_cell bA hHeld.2.2.2.1, below_cell bA hHeld.2.2.2.2.1, below_cell bA hHeld.2.2.2.2.2.1, below_cell bA hHeld.2.2.2.2.2.2.1, below_cell bA hHeld.2.2.2.2.2.2.2.1, below_cell bA hHeld.2.2.2.2.2.2.2.2.1, below_cell bA hHeld.2.2.2.2.2.2.2.2.2⟩ : _ ∧ _ ∧ _ ∧ _ ∧ _ ∧ _ ∧ _ ∧ _ ∧ _ ∧ _)
      clear bA
      refine hKK.out _ _ hHeld ?_
      clear hHeld
      intro hHeld
      clear hKK KK
      try simp only [Act.put, List.setIfInBounds_toArray, List.set_cons_zero, List.set_cons_succ]
      obtain ⟨cA, hcc⟩ : ∃ cc, w1.heap.size = cc := ⟨_, rfl⟩
      rw [hcc] at vA hcA
      try rw [hcc] at hne
      try rw [hcc]
      clear hcc
      refine wpAnyH_ready (rs := [9]) (by kernel_rfl) (by simp) ?_
      refine cons' rfl (fun KK hKK => ?_)
      go_simp
      have vB : Four (w2.alloc (.cells #[.slice none 0 0, .bool false, .slice none 0 0, .slice none 0 0] 33)) w2.heap.size (.slice none 0 0) (.bool false) (.slice none 0 0) (.slice none 0 0) := four_new w2 _ _ _ _ 33
      have bA := below_alloc (w := w2) (.cells #[.slice none 0 0, .bool false, .slice none 0 0, .slice none 0 0] 33)
      have hcB : w.heap.size < w2.heap.size := World.block_lt_of_cell? w2 ⟨w.heap.size, 0, none⟩ hHeld.1
      have hne : cA ≠ w2.heap.size := by have := vA.2.lt; omega
      generalize w2.alloc (.cells #[.slice none 0 0, .bool false, .slice none 0 0, .slice none 0 0] 33) = w3 at vB bA ⊢
      replace hB := hB.trans (bA.mono hB.size)
      replace vA := vA.later bA
      replace hHeld := (⟨below_cell bA hHeld.1, below_cell bA hHeld.2.1, below_cell bA hHeld.2.2.1, below_cell bA hHeld.2.2.2.1, below_cell bA hHeld.2.2.2.2.1, below_cell bA hHeld.2.2.2.2.2.1, below_cell bA hHeld.2.2.2.2.2.2.1, below_cell bA hHeld.2.2.2.2.2.2.2.1, below_cell bA hHeld.2.2.2.2.2.2.2.2.1, below_cell bA hHeld.2.2.2.2.2.2.2.2.2⟩ : _ ∧ _ ∧ _ ∧ _ ∧ _ ∧ _ ∧ _ ∧ _ ∧ _ ∧ _)
      clear bA
      refine hKK.out _ _ hHeld ?_
      clear hHeld
      intro hHeld
      clear hKK KK
      try simp only [Act.put, List.setIfInBounds_toArray, List.set_cons_zero, List.set_cons_succ]
      obtain ⟨cB, hcc⟩ : ∃ cc, w2.heap.size = cc := ⟨_, rfl⟩
      rw [hcc] at vB hcB
      try rw [hcc] at hne
      try rw [hcc]
      clear hcc
      refine wpAnyH_ready (rs := [10]) (by kernel_rfl) (by simp) ?_
      refine cons' rfl (fun KK hKK => ?_)
      have fz := fun o => vA.2.frozen o
      replace hB := below_set4 (u0 := .slice a L.length ca) (u1 := .bool D.s) (u2 := .slice D.a D.n D.c) (u3 := .slice D.b D.m D.e) hB (show w.heap.size ≤ cA by omega)
      have hH2 := (⟨(set4_far (w := w3) (c := cA) (b := w.heap.size) (o := 0) (u0 := .slice a L.length ca) (u1 := .bool D.s) (u2 := .slice D.a D.n D.c) (u3 := .slice D.b D.m D.e) (by omega)).trans hHeld.1, (set4_far (w := w3) (c := cA) (b := w.heap.size) (o := 1) (u0 := .slice a L.length ca) (u1 := .bool D.s) (u2 := .slice D.a D.n D.c) (u3 := .slice D.b D.m D.e) (by omega)).trans hHeld.2.1, (set4_far (w := w3) (c := cA) (b := w.heap.size) (o := 2) (u0 := .slice a L.length ca) (u1 := .bool D.s) (u2 := .slice D.a D.n D.c) (u3 := .slice D.b D.m D.e) (by omega)).trans hHeld.2.2.1, (set4_far (w := w3) (c := cA) (b := w.heap.size) (o := 3) (u0 := .slice a L.length ca) (u1 := .bool D.s) (u2 := .slice D.a D.n D.c) (u3 := .slice D.b D.m D.e) (by omega)).trans hHeld.2.2.2.1, (set4_far (w := w3) (c := cA) (b := w.heap.size) (o := 4) (u0 := .slice a L.length ca) (u1 := .bool D.s) (u2 := .slice D.a D.n D.c) (u3 := .slice D.b D.m D.e) (by omega)).trans hHeld.2.2.2.2.1, (set4_far (w := w3) (c := cA) (b := w.heap.size) (o := 5) (u0 := .slice a L.length ca) (u1 := .bool D.s) (u2 := .slice D.a D.n D.c) (u3 := .slice D.b D.m D.e) (by omega)).trans hHeld.2.2.2.2.2.1, (set4_far (w := w3) (c := cA) (b := w.heap.size) (o := 6) (u0 := .slice a L.length ca) (u1 := .bool D.s) (u2 := .slice D.a D.n D.c) (u3 := .slice D.b D.m D.e) (by omega)).trans hHeld.2.2.2.2.2.2.1, (set4_far (w := w3) (c := cA) (b := w.heap.size) (o := 7) (u0 := .slice a L.length ca) (u1 := .bool D.s) (u2 := .slice D.a D.n D.c) (u3 := .slice D.b D.m D.e) (by omega)).trans hHeld.2.2.2.2.2.2.2.1, (set4_far (w := w3) (c := cA) (b := w.heap.size) (o := 8) (u0 := .slice a L.length ca) (u1 := .bool D.s) (u2 := .slice D.a D.n D.c) (u3 := .slice D.b D.m D.e) (by omega)).trans hHeld.2.2.2.2.2.2.2.2.1, (set4_far (w := w3) (c := cA) (b := w.heap.size) (o := 9) (u0 := .slice a L.length ca) (u1 := .bool D.s) (u2 := .slice D.a D.n D.c) (u3 := .slice D.b D.m D.e) (by omega)).trans hHeld.2.2.2.2.2.2.2.2.2⟩ : _ ∧ _ ∧ _ ∧ _ ∧ _ ∧ _ ∧ _ ∧ _ ∧ _ ∧ _)
      have fB := vB.far (u0 := .slice a L.length ca) (u1 := .bool D.s) (u2 := .slice D.a D.n D.c) (u3 := .slice D.b D.m D.e) (c := cA) (by omega)
      have pA := vA.put (u0 := .slice a L.length ca) (u1 := .bool D.s) (u2 := .slice D.a D.n D.c) (u3 := .slice D.b D.m D.e)
      have z0 := vA.1.1
      have z1 := vA.1.2.1
      have z2 := vA.1.2.2.1
      have z3 := vA.1.2.2.2
      go_simp
      clear z0 z1 z2 z3 fz vA vB
      have vB := fB
      have vA := pA
      clear fB pA
      obtain ⟨w4, hw9⟩ : ∃ w9, (((w3.setCell ⟨cA, 0, none⟩ (.slice a L.length ca)).setCell ⟨cA, 1, none⟩ (.bool D.s)).setCell ⟨cA, 2, none⟩ (.slice D.a D.n D.c)).setCell ⟨cA, 3, none⟩ (.slice D.b D.m D.e) = w9 := ⟨_, rfl⟩
      try unfold set4 at hB
      try unfold set4 at hH2
      try unfold set4 at vA
      try unfold set4 at vB
      rw [hw9] at hB hH2 vA vB ⊢
      clear hw9
      refine hKK.out _ _ hH2 ?_
      clear hHeld
      intro hHeld
      clear hKK KK
      try simp only [Act.put, List.setIfInBounds_toArray, List.set_cons_zero, List.set_cons_succ]
      clear hH2
      refine take' 11 (v := ?_) rfl (by kernel_rfl) (by kernel_rfl) (by kernel_rfl) (fun _ _ _ h => h) (Or.inl ⟨by rfl, ?_⟩) (by assumption) ?_
      rotate_left
      · intro w9 hSw
        go_simp
        first | done | with_reducible rfl
      simp only [Act.put, List.setIfInBounds_toArray, List.set_cons_zero, List.set_cons_succ]
      refine wpAnyH_ready (rs := [12]) (by kernel_rfl) (by simp) ?_
      refine cons' rfl (fun KK hKK => ?_)
      have fz := fun o => vB.2.frozen o
      replace hB := below_set4 (u0 := .slice b G.length cb) (u1 := .bool E.s) (u2 := .slice E.a E.n E.c) (u3 := .slice E.b E.m E.e) hB (show w.heap.size ≤ cB by omega)
      have hH2 := (⟨(set4_far (w := w4) (c := cB) (b := w.heap.size) (o := 0) (u0 := .slice b G.length cb) (u1 := .bool E.s) (u2 := .slice E.a E.n E.c) (u3 := .slice E.b E.m E.e) (by omega)).trans hHeld.1, (set4_far (w := w4) (c := cB) (b := w.heap.size) (o := 1) (u0 := .slice b G.length cb) (u1 := .bool E.s) (u2 := .slice E.a E.n E.c) (u3 := .slice E.b E.m E.e) (by omega)).trans hHeld.2.1, (set4_far (w := w4) (c := cB) (b := w.heap.size) (o := 2) (u0 := .slice b G.length cb) (u1 := .bool E.s) (u2 := .slice E.a E.n E.c) (u3 := .slice E.b E.m E.e) (by omega)).trans hHeld.2.2.1, (set4_far (w := w4) (c := cB) (b := w.heap.size) (o := 3) (u0 := .slice b G.length cb) (u1 := .bool E.s) (u2 := .slice E.a E.n E.c) (u3 := .slice E.b E.m E.e) (by omega)).trans hHeld.2.2.2.1, (set4_far (w := w4) (c := cB) (b := w.heap.size) (o := 4) (u0 := .slice b G.length cb) (u1 := .bool E.s) (u2 := .slice E.a E.n E.c) (u3 := .slice E.b E.m E.e) (by omega)).trans hHeld.2.2.2.2.1, (set4_far (w := w4) (c := cB) (b := w.heap.size) (o := 5) (u0 := .slice b G.length cb) (u1 := .bool E.s) (u2 := .slice E.a E.n E.c) (u3 := .slice E.b E.m E.e) (by omega)).trans hHeld.2.2.2.2.2.1, (set4_far (w := w4) (c := cB) (b := w.heap.size) (o := 6) (u0 := .slice b G.length cb) (u1 := .bool E.s) (u2 := .slice E.a E.n E.c) (u3 := .slice E.b E.m E.e) (by omega)).trans hHeld.2.2.2.2.2.2.1, (set4_far (w := w4) (c := cB) (b := w.heap.size) (o := 7) (u0 := .slice b G.length cb) (u1 := .bool E.s) (u2 := .slice E.a E.n E.c) (u3 := .slice E.b E.m E.e) (by omega)).trans hHeld.2.2.2.2.2.2.2.1, (set4_far (w := w4) (c := cB) (b := w.heap.size) (o := 8) (u0 := .slice b G.length cb) (u1 := .bool E.s) (u2 := .slice E.a E.n E.c) (u3 := .slice E.b E.m E.e) (by omega)).trans hHeld.2.2.2.2.2.2.2.2.1, (set4_far (w := w4) (c := cB) (b := w.heap.size) (o := 9) (u0 := .slice b G.length cb) (u1 := .bool E.s) (u2 := .slice E.a E.n E.c) (u3 := .slice E.b E.m E.e) (by omega)).trans hHeld.2.2.2.2.2.2.2.2.2⟩ : _ ∧ _ ∧ _ ∧ _ ∧ _ ∧ _ ∧ _ ∧ _ ∧ _ ∧ _)
      have fA := vA.far (u0 := .slice b G.length cb) (u1 := .bool E.s) (u2 := .slice E.a E.n E.c) (u3 := .slice E.b E.m E.e) (c := cB) (by omega)
      have pB := vB.put (u0 := .slice b G.length cb) (u1 := .bool E.s) (u2 := .slice E.a E.n E.c) (u3 := .slice E.b E.m E.e)
      have z0 := vB.1.1
      have z1 := vB.1.2.1
      have z2 := vB.1.2.2.1
      have z3 := vB.1.2.2.2
      go_simp
      clear z0 z1 z2 z3 fz vB vA
      have vA := fA
      have vB := pB
      clear fA pB
      obtain ⟨w5, hw9⟩ : ∃ w9, (((w4.setCell ⟨cB, 0, none⟩ (.slice b G.length cb)).setCell ⟨cB, 1, none⟩ (.bool E.s)).setCell ⟨cB, 2, none⟩ (.slice E.a E.n E.c)).setCell ⟨cB, 3, none⟩ (.slice E.b E.m E.e) = w9 := ⟨_, rfl⟩
      try unfold set4 at hB
      try unfold set4 at hH2
      try unfold set4 at vA
      try unfold set4 at vB
      rw [hw9] at hB hH2 vA vB ⊢
      clear hw9
      refine hKK.out _ _ hH2 ?_
      clear hHeld
      intro hHeld
      clear hKK KK
      try simp only [Act.put, List.setIfInBounds_toArray, List.set_cons_zero, List.set_cons_succ]
      clear hH2
      refine take' 13 (v := ?_) rfl (by kernel_rfl) (by kernel_rfl) (by kernel_rfl) (fun _ _ _ h => h) (Or.inl ⟨by rfl, ?_⟩) (by assumption) ?_
      rotate_left
      · intro w9 hSw
        go_simp
        first | done | with_reducible rfl
      simp only [Act.put, List.setIfInBounds_toArray, List.set_cons_zero, List.set_cons_succ]
      refine wpAnyH_done (by kernel_rfl) ?_ _
      go_wp2_with fail
      go_meet
      exact ⟨_, cA, cB, rfl, rfl, rfl, rfl, rfl, by omega, by omega, vA, vB, hB⟩
    refine consT rfl (fun KK hKK => ?_) ?_
    · skip
      go_simp
      have vB : Four (w1.alloc (.cells #[.slice none 0 0, .bool false, .slice none 0 0, .slice none 0 0] 33)) w1.heap.size (.slice none 0 0) (.bool false) (.slice none 0 0) (.slice none 0 0) := four_new w1 _ _ _ _ 33
      have bA := below_alloc (w := w1) (.cells #[.slice none 0 0, .bool false, .slice none 0 0, .slice none 0 0] 33)
      have hcB : w.heap.size < w1.heap.size := World.block_lt_of_cell? w1 ⟨w.heap.size, 0, none⟩ hHeld.1
      generalize w1.alloc (.cells #[.slice none 0 0, .bool false, .slice none 0 0, .slice none 0 0] 33) = w2 at vB bA ⊢
      replace hB := hB.trans (bA.mono hB.size)
      replace hHeld := (⟨below_cell bA hHeld.1, below_cell bA hHeld.2.1, below_cell bA hHeld.2.2.1, below_cell bA hHeld.2.2.2.1, below_cell bA hHeld.2.2.2.2.1, below_cell bA hHeld.2.2.2.2.2.1, below_cell bA hHeld.2.2.2.2.2.2.1, below_cell bA hHeld.2.2.2.2.2.2.2.1, below_cell bA hHeld.2.2.2.2.2.2.2.2.1, below_cell bA hHeld.2.2.2.2.2.2.2.2.2⟩ : _ ∧ _ ∧ _ ∧ _ ∧ _ ∧ _ ∧ _ ∧ _ ∧ _ ∧ _)
      clear bA
      refine hKK.out _ _ hHeld ?_
      clear hHeld
      intro hHeld
      clear hKK KK
      try simp only [Act.put, List.setIfInBounds_toArray, List.set_cons_zero, List.set_cons_succ]
      obtain ⟨cB, hcc⟩ : ∃ cc, w1.heap.size = cc := ⟨_, rfl⟩
      rw [hcc] at vB hcB
      try rw [hcc] at hne
      try rw [hcc]
      clear hcc
      refine wpAnyH_ready (rs := [8]) (by kernel_rfl) (by simp) ?_
      refine cons' rfl (fun KK hKK => ?_)
      go_simp
      have vA : Four (w2.alloc (.cells #[.slice none 0 0, .bool false, .slice none 0 0, .slice none 0 0] 33)) w2.heap.size (.slice none 0 0) (.bool false) (.slice none 0 0) (.slice none 0 0) := four_new w2 _ _ _ _ 33
      have bA := below_alloc (w := w2) (.cells #[.slice none 0 0, .bool false, .slice none 0 0, .slice none 0 0] 33)
      have hcA : w.heap.size < w2.heap.size := World.block_lt_of_cell? w2 ⟨w.heap.size, 0, none⟩ hHeld.1
      have hne : cB ≠ w2.heap.size := by have := vB.2.lt; omega
      generalize w2.alloc (.cells #[.slice none 0 0, .bool false, .slice none 0 0, .slice none 0 0] 33) = w3 at vA bA ⊢
      replace hB := hB.trans (bA.mono hB.size)
      replace vB := vB.later bA
      replace hHeld := (⟨below_cell bA hHeld.1, below_cell bA hHeld.2.1, below_cell bA hHeld.2.2.1, below_cell bA hHeld.2.2.2.1, below_cell bA hHeld.2.2.2.2.1, below_cell bA hHeld.2.2.2.2.2.1, below_cell bA hHeld.2.2.2.2.2.2.1, below_cell bA hHeld.2.2.2.2.2.2.2.1, below_cell bA hHeld.2.2.2.2.2.2.2.2.1, below_cell bA hHeld.2.2.2.2.2.2.2.2.2⟩ : _ ∧ _ ∧ _ ∧ _ ∧ _ ∧ _ ∧ _ ∧ _ ∧ _ ∧ _)
      clear bA
      refine hKK.out _ _ hHeld ?_
      clear hHeld
      intro hHeld
      clear hKK KK
      try simp only [Act.put, List.setIfInBounds_toArray, List.set_cons_zero, List.set_cons_succ]
      obtain ⟨cA, hcc⟩ : ∃ cc, w2.heap.size = cc := ⟨_, rfl⟩
      rw [hcc] at vA hcA
      try rw [hcc] at hne
      try rw [hcc]
      clear hcc
      refine wpAnyH_ready (rs := [10]) (by kernel_rfl) (by simp) ?_
      refine cons' rfl (fun KK hKK => ?_)
      have fz := fun o => vA.2.frozen o
      replace hB := below_set4 (u0 := .slice a L.length ca) (u1 := .bool D.s) (u2 := .slice D.a D.n D.c) (u3 := .slice D.b D.m D.e) hB (show w.heap.size ≤ cA by omega)
      have hH2 := (⟨(set4_far (w := w3) (c := cA) (b := w.heap.size) (o := 0) (u0 := .slice a L.length ca) (u1 := .bool D.s) (u2 := .slice D.a D.n D.c) (u3 := .slice D.b D.m D.e) (by omega)).trans hHeld.1, (set4_far (w := w3) (c := cA) (b := w.heap.size) (o := 1) (u0 := .slice a L.length ca) (u1 := .bool D.s) (u2 := .slice D.a D.n D.c) (u3 := .slice D.b D.m D.e) (by omega)).trans hHeld.2.1, (set4_far (w := w3) (c := cA) (b := w.heap.size) (o := 2) (u0 := .slice a L.length ca) (u1 := .bool D.s) (u2 := .slice D.a D.n D.c) (u3 := .slice D.b D.m D.e) (by omega)).trans hHeld.2.2.1, (set4_far (w := w3) (c := cA) (b := w.heap.size) (o := 3) (u0 := .slice a L.length ca) (u1 := .bool D.s) (u2 := .slice D.a D.n D.c) (u3 := .slice D.b D.m D.e) (by omega)).trans hHeld.2.2.2.1, (set4_far (w := w3) (c := cA) (b := w.heap.size) (o := 4) (u0 := .slice a L.length ca) (u1 := .bool D.s) (u2 := .slice D.a D.n D.c) (u3 := .slice D.b D.m D.e) (by omega)).trans hHeld.2.2.2.2.1, (set4_far (w := w3) (c := cA) (b := w.heap.size) (o := 5) (u0 := .slice a L.length ca) (u1 := .bool D.s) (u2 := .slice D.a D.n D.c) (u3 := .slice D.b D.m D.e) (by omega)).trans hHeld.2.2.2.2.2.1, (set4_far (w := w3) (c := cA) (b := w.heap.size) (o := 6) (u0 := .slice a L.length ca) (u1 := .bool D.s) (u2 := .slice D.a D.n D.c) (u3 := .slice D.b D.m D.e) (by omega)).trans hHeld.2.2.2.2.2.2.1, (set4_far (w := w3) (c := cA) (b := w.heap.size) (o := 7) (u0 := .slice a L.length ca) (u1 := .bool D.s) (u2 := .slice D.a D.n D.c) (u3 := .slice D.b D.m D.e) (by omega)).trans hHeld.2.2.2.2.2.2.2.1, (set4_far (w := w3) (c := cA) (b := w.heap.size) (o := 8) (u0 := .slice a L.length ca) (u1 := .bool D.s) (u2 := .slice D.a D.n D.c) (u3 := .slice D.b D.m D.e) (by omega)).trans hHeld.2.2.2.2.2.2.2.2.1, (set4_far (w := w3) (c := cA) (b := w.heap.size) (o := 9) (u0 := .slice a L.length ca) (u1 := .bool D.s) (u2 := .slice D.a D.n D.c) (u3 := .slice D.b D.m D.e) (by omega)).trans hHeld.2.2.2.2.2.2.2.2.2⟩ : _ ∧ _ ∧ _ ∧ _ ∧ _ ∧ _ ∧ _ ∧ _ ∧ _ ∧ _)
      have fB := vB.far (u0 := .slice a L.length ca) (u1 := .bool D.s) (u2 := .slice D.a D.n D.c) (u3 := .slice D.b D.m D.e) (c := cA) (by omega)
      have pA := vA.put (u0 := .slice a L.length ca) (u1 := .bool D.s) (u2 := .slice D.a D.n D.c) (u3 := .slice D.b D.m D.e)
      have z0 := vA.1.1
      have z1 := vA.1.2.1
      have z2 := vA.1.2.2.1
      have z3 := vA.1.2.2.2
      go_simp
      clear z0 z1 z2 z3 fz vA vB
      have vB := fB
      have vA := pA
      clear fB pA
      obtain ⟨w4, hw9⟩ : ∃ w9, (((w3.setCell ⟨cA, 0, none⟩ (.slice a L.length ca)).setCell ⟨cA, 1, none⟩ (.bool D.s)).setCell ⟨cA, 2, none⟩ (.slice D.a D.n D.c)).setCell ⟨cA, 3, none⟩ (.slice D.b D.m D.e) = w9 := ⟨_, rfl⟩
      try unfold set4 at hB
      try unfold set4 at hH2
      try unfold set4 at vA
      try unfold set4 at vB
      rw [hw9] at hB hH2 vA vB ⊢
      clear hw9
      refine hKK.out _ _ hH2 ?_
      clear hHeld
      intro hHeld
      clear hKK KK
      try simp only [Act.put, List.setIfInBounds_toArray, List.set_cons_zero, List.set_cons_succ]
      clear hH2
      refine take' 11 (v := ?_) rfl (by kernel_rfl) (by kernel_rfl) (by kernel_rfl) (fun _ _ _ h => h) (Or.inl ⟨by rfl, ?_⟩) (by assumption) ?_
      rotate_left
      · intro w9 hSw
        go_simp
        first | done | with_reducible rfl
      simp only [Act.put, List.setIfInBounds_toArray, List.set_cons_zero, List.set_cons_succ]
      refine wpAnyH_ready (rs := [12]) (by kernel_rfl) (by simp) ?_
      refine cons' rfl (fun KK hKK => ?_)
      have fz := fun o => vB.2.frozen o
      replace hB := below_set4 (u0 := .slice b G.length cb) (u1 := .bool E.s) (u2 := .slice E.a E.n E.c) (u3 := .slice E.b E.m E.e) hB (show w.heap.size ≤ cB by omega)
      have hH2 := (⟨(set4_far (w := w4) (c := cB) (b := w.heap.size) (o := 0) (u0 := .slice b G.length cb) (u1 := .bool E.s) (u2 := .slice E.a E.n E.c) (u3 := .slice E.b E.m E.e) (by omega)).trans hHeld.1, (set4_far (w := w4) (c := cB) (b := w.heap.size) (o := 1) (u0 := .slice b G.length cb) (u1 := .bool E.s) (u2 := .slice E.a E.n E.c) (u3 := .slice E.b E.m E.e) (by omega)).trans hHeld.2.1, (set4_far (w := w4) (c := cB) (b := w.heap.size) (o := 2) (u0 := .slice b G.length cb) (u1 := .bool E.s) (u2 := .slice E.a E.n E.c) (u3 := .slice E.b E.m E.e) (by omega)).trans hHeld.2.2.1, (set4_far (w := w4) (c := cB) (b := w.heap.size) (o := 3) (u0 := .slice b G.length cb) (u1 := .bool E.s) (u2 := .slice E.a E.n E.c) (u3 := .slice E.b E.m E.e) (by omega)).trans hHeld.2.2.2.1, (set4_far (w := w4) (c := cB) (b := w.heap.size) (o := 4) (u0 := .slice b G.length cb) (u1 := .bool E.s) (u2 := .slice E.a E.n E.c) (u3 := .slice E.b E.m E.e) (by omega)).trans hHeld.2.2.2.2.1, (set4_far (w := w4) (c := cB) (b := w.heap.size) (o := 5) (u0 := .slice b G.length cb) (u1 := .bool E.s) (u2 := .slice E.a E.n E.c) (u3 := .slice E.b E.m E.e) (by omega)).trans hHeld.2.2.2.2.2.1, (set4_far (w := w4) (c := cB) (b := w.heap.size) (o := 6) (u0 := .slice b G.length cb) (u1 := .bool E.s) (u2 := .slice E.a E.n E.c) (u3 := .slice E.b E.m E.e) (by omega)).trans hHeld.2.2.2.2.2.2.1, (set4_far (w := w4) (c := cB) (b := w.heap.size) (o := 7) (u0 := .slice b G.length cb) (u1 := .bool E.s) (u2 := .slice E.a E.n E.c) (u3 := .slice E.b E.m E.e) (by omega)).trans hHeld.2.2.2.2.2.2.2.1, (set4_far (w := w4) (c := cB) (b := w.heap.size) (o := 8) (u0 := .slice b G.length cb) (u1 := .bool E.s) (u2 := .slice E.a E.n E.c) (u3 := .slice E.b E.m E.e) (by omega)).trans hHeld.2.2.2.2.2.2.2.2.1, (set4_far (w := w4) (c := cB) (b := w.heap.size) (o := 9) (u0 := .slice b G.length cb) (u1 := .bool E.s) (u2 := .slice E.a E.n E.c) (u3 := .slice E.b E.m E.e) (by omega)).trans hHeld.2.2.2.2.2.2.2.2.2⟩ : _ ∧ _ ∧ _ ∧ _ ∧ _ ∧ _ ∧ _ ∧ _ ∧ _ ∧ _)
      have fA := vA.far (u0 := .slice b G.length cb) (u1 := .bool E.s) (u2 := .slice E.a E.n E.c) (u3 := .slice E.b E.m E.e) (c := cB) (by omega)
      have pB := vB.put (u0 := .slice b G.length cb) (u1 := .bool E.s) (u2 := .slice E.a E.n E.c) (u3 := .slice E.b E.m E.e)
      have z0 := vB.1.1
      have z1 := vB.1.2.1
      have z2 := vB.1.2.2.1
      have z3 := vB.1.2.2.2
      go_simp
      clear z0 z1 z2 z3 fz vB vA
      have vA := fA
      have vB := pB
      clear fA pB
      obtain ⟨w5, hw9⟩ : ∃ w9, (((w4.setCell ⟨cB, 0, none⟩ (.slice b G.length cb)).setCell ⟨cB, 1, none⟩ (.bool E.s)).setCell ⟨cB, 2, none⟩ (.slice E.a E.n E.c)).setCell ⟨cB, 3, none⟩ (.slice E.b E.m E.e) = w9 := ⟨_, rfl⟩
      try unfold set4 at hB
      try unfold set4 at hH2
      try unfold set4 at vA
      try unfold set4 at vB
      rw [hw9] at hB hH2 vA vB ⊢
      clear hw9
      refine hKK.out _ _ hH2 ?_
      clear hHeld
      intro hHeld
      clear hKK KK
      try simp only [Act.put, List.setIfInBounds_toArray, List.set_cons_zero, List.set_cons_succ]
      clear hH2
      refine take' 13 (v := ?_) rfl (by kernel_rfl) (by kernel_rfl) (by kernel_rfl) (fun _ _ _ h => h) (Or.inl ⟨by rfl, ?_⟩) (by assumption) ?_
      rotate_left
      · intro w9 hSw
        go_simp
        first | done | with_reducible rfl
      simp only [Act.put, List.setIfInBounds_toArray, List.set_cons_zero, List.set_cons_succ]
      refine wpAnyH_done (by kernel_rfl) ?_ _
      go_wp2_with fail
      go_meet
      exact ⟨_, cA, cB, rfl, rfl, rfl, rfl, rfl, by omega, by omega, vA, vB, hB⟩
    exact AllReadyH.nil
  case rest =>
    obtain ⟨wv, c3, c5, hwv, rfl, rfl, rfl, rfl, n3, n5, v3, v5, hB2⟩ := hcut
    subst hwv
    clear hB d0 d1 d2 d3 d4 d5 d6 d7 d8 d9
    have hB := hB2
    clear hB2
    have l3 := v3.2.lt
    have l5 := v5.2.lt
    have f0 := v3.1.1
    have e0 := v5.1.1
    have f1 := v3.1.2.1
    have e1 := v5.1.2.1
    have f2 := v3.1.2.2.1
    have e2 := v5.1.2.2.1
    have f3 := v3.1.2.2.2
    have e3 := v5.1.2.2.2
    clear v3 v5
    clear e0 e1 e2 e3
    go_wp2_with fail
    have bD : Below wv.heap.size wv wv.drew := (Below.refl _ _).drew
    have kf0 := below_cell bD f0
    replace hB := hB.trans (bD.mono hB.size)
    refine wp_region_held_drew (S := fun w' => w'.cell? ⟨c3, 0, none⟩ = some (.slice a L.length ca)) (by kernel_rfl) kf0 (fun hHeld => ?_)
    clear kf0
    generalize wv.drew = w11 at bD hB hHeld ⊢
    clear bD f0
    refine take' 0 (v := ?_) rfl (by kernel_rfl) (by kernel_rfl) (by kernel_rfl) (fun _ _ _ h => h) (Or.inl ⟨by rfl, ?_⟩) (by assumption) ?_
    rotate_left
    · intro w9 hSw
      go_simp
      first | done | with_reducible rfl
    simp only [Act.put, List.setIfInBounds_toArray, List.set_cons_zero, List.set_cons_succ]
    refine take' 1 (v := ?_) rfl (by kernel_rfl) (by kernel_rfl) (by kernel_rfl) (fun _ _ _ h => h) (Or.inl ⟨by rfl, ?_⟩) (by assumption) ?_
    rotate_left
    · intro w9 hSw
      go_simp
      first | done | with_reducible rfl
    simp only [Act.put, List.setIfInBounds_toArray, List.set_cons_zero, List.set_cons_succ]
    refine take' 2 (v := ?_) rfl (by kernel_rfl) (by kernel_rfl) (by kernel_rfl) (fun _ _ _ h => h) (Or.inl ⟨by rfl, ?_⟩) (by assumption) ?_
    rotate_left
    · intro w9 hSw
      go_simp
      first | done | with_reducible rfl
    simp only [Act.put, List.setIfInBounds_toArray, List.set_cons_zero, List.set_cons_succ]
    refine take' 4 (v := ?_) rfl (by kernel_rfl) (by kernel_rfl) (by kernel_rfl) (fun _ _ _ h => h) (Or.inl ⟨by rfl, ?_⟩) (by assumption) ?_
    rotate_left
    · intro w9 hSw
      go_simp
      first | done | with_reducible rfl
    simp only [Act.put, List.setIfInBounds_toArray, List.set_cons_zero, List.set_cons_succ]
    refine take' 5 (v := ?_) rfl (by kernel_rfl) (by kernel_rfl) (by kernel_rfl) (fun _ _ _ h => h) (Or.inl ⟨by rfl, ?_⟩) (by assumption) ?_
    rotate_left
    · intro w9 hSw
      go_simp
      first | done | with_reducible rfl
    simp only [Act.put, List.setIfInBounds_toArray, List.set_cons_zero, List.set_cons_succ]
    refine take' 6 (v := ?_) rfl (by kernel_rfl) (by kernel_rfl) (by kernel_rfl) (fun _ _ _ h => h) (Or.inl ⟨by rfl, ?_⟩) (by assumption) ?_
    rotate_left
    · intro w9 hSw
      go_simp
      first | done | with_reducible rfl
    simp only [Act.put, List.setIfInBounds_toArray, List.set_cons_zero, List.set_cons_succ]
    refine wpAnyH_ready (rs := [3]) (by kernel_rfl) (by simp) ?_
    refine cons' rfl (fun KK hKK => ?_)
    go_simp
    refine (GV.out _ hB).mono ?_
    rintro e w12 ⟨p1, q1, rfl, b1, g1, g2⟩
    have bC := b1
    replace hB := hB.trans (bC.mono hB.size)
    replace hHeld := below_cell bC hHeld
    clear bC
    go_wp2_with fail
    clear b1
    refine hKK.out _ _ hHeld ?_
    clear hHeld
    intro hHeld
    clear hKK KK
    try simp only [Act.put, List.setIfInBounds_toArray, List.set_cons_zero, List.set_cons_succ]
    refine wpAnyH_ready (rs := [7]) (by kernel_rfl) (by simp) ?_
    refine cons' rfl (fun KK hKK => ?_)
    go_simp
    refine (GR.out _ hB).mono ?_
    rintro e w13 ⟨p2, q2, rfl, b2, g3, g4⟩
    have bC := b2
    replace hB := hB.trans (bC.mono hB.size)
    replace g1 := g1.later bC
    replace g2 := g2.later bC
    replace hHeld := below_cell bC hHeld
    clear bC
    go_wp2_with fail
    clear b2
    refine hKK.out _ _ hHeld ?_
    clear hHeld
    intro hHeld
    clear hKK KK
    try simp only [Act.put, List.setIfInBounds_toArray, List.set_cons_zero, List.set_cons_succ]
    refine wpAnyH_ready (rs := [8]) (by kernel_rfl) (by simp) ?_
    refine cons' rfl (fun KK hKK => ?_)
    go_simp
    refine (GC.out _ p1 q1 p2 q2 g1 g2 g3 g4).mono ?_
    rintro e w14 ⟨rfl, b3⟩
    have bC := b3
    replace hB := hB.trans (bC.mono hB.size)
    replace g1 := g1.later bC
    replace g2 := g2.later bC
    replace g3 := g3.later bC
    replace g4 := g4.later bC
    replace hHeld := below_cell bC hHeld
    clear bC
    go_wp2_with fail
    clear b3
    refine hKK.out _ _ hHeld ?_
    clear hHeld
    intro hHeld
    clear hKK KK
    try simp only [Act.put, List.setIfInBounds_toArray, List.set_cons_zero, List.set_cons_succ]
    refine take' 9 (v := ?_) rfl (by kernel_rfl) (by kernel_rfl) (by kernel_rfl) (fun _ _ _ h => h) (Or.inl ⟨by rfl, ?_⟩) (by assumption) ?_
    rotate_left
    · intro w9 hSw
      go_simp
      first | done | with_reducible rfl
    simp only [Act.put, List.setIfInBounds_toArray, List.set_cons_zero, List.set_cons_succ]
    refine take' 10 (v := ?_) rfl (by kernel_rfl) (by kernel_rfl) (by kernel_rfl) (fun _ _ _ h => h) (Or.inl ⟨by rfl, ?_⟩) (by assumption) ?_
    rotate_left
    · intro w9 hSw
      go_simp
      first | done | with_reducible rfl
    simp only [Act.put, List.setIfInBounds_toArray, List.set_cons_zero, List.set_cons_succ]
    refine wpAnyH_ready (rs := [11]) (by kernel_rfl) (by simp) ?_
    refine cons' rfl (fun KK hKK => ?_)
    go_simp
    refine (awake_is _).mono ?_
    rintro e w15 ⟨rfl, b4⟩
    have bC := b4
    replace hB := hB.trans (bC.mono hB.size)
    replace g1 := g1.later bC
    replace g2 := g2.later bC
    replace g3 := g3.later bC
    replace g4 := g4.later bC
    replace hHeld := below_cell bC hHeld
    clear bC
    go_wp2_with fail
    clear b4
    refine hKK.out _ _ hHeld ?_
    clear hHeld
    intro hHeld
    clear hKK KK
    try simp only [Act.put, List.setIfInBounds_toArray, List.set_cons_zero, List.set_cons_succ]
    refine take' 12 (v := ?_) rfl (by kernel_rfl) (by kernel_rfl) (by kernel_rfl) (fun _ _ _ h => h) (Or.inl ⟨by rfl, ?_⟩) (by assumption) ?_
    rotate_left
    · intro w9 hSw
      go_simp
      first | done | with_reducible rfl
    simp only [Act.put, List.setIfInBounds_toArray, List.set_cons_zero, List.set_cons_succ]
    refine take' 13 (v := ?_) rfl (by kernel_rfl) (by kernel_rfl) (by kernel_rfl) (fun _ _ _ h => h) (Or.inl ⟨by rfl, ?_⟩) (by assumption) ?_
    rotate_left
    · intro w9 hSw
      go_simp
      first | done | with_reducible rfl
    simp only [Act.put, List.setIfInBounds_toArray, List.set_cons_zero, List.set_cons_succ]
    refine wpAnyH_done (by kernel_rfl) ?_ _
    go_wp2
    go_ret
    exact ⟨rfl, hB⟩
set_option maxHeartbeats 16000000 in
set_option maxRecDepth 100000 in
theorem walkI (a : Option Addr) (ca : Nat) (L : List Mo) (D : RatV) (x : Int) (b : Option Addr) (cb : Nat) (G : List Mo) (E : RatV) (av : Option Addr) (m capv : Nat) (g : Nat → RatV) (w : World) (t : Nat) (hxt : x = (t : Int)) (htm : t < m)
    (hF : FAt w a L) (hok : ∀ p ∈ L, p.2.ok w ∧ p.2.n ≤ 4194304 ∧ p.2.m ≤ 4194304) (hc : L.length ≤ ca) (hD : D.ok w) (hG : FAt w b G) (hkG : ∀ p ∈ G, p.2.ok w ∧ p.2.n ≤ 4194304 ∧ p.2.m ≤ 4194304) (hcG : G.length ≤ cb) (hE : E.ok w)
    (hV : RatsAt w av m g) (hgo : ∀ i, i < m → (g i).ok w) (hcv : m ≤ capv) (hb : bulkL L + D.n + D.m + (bulkL G + E.n + E.m) + bulkV g m ≤ 1048576 + L.length + G.length) :
    Calls Tryz.prog 4 #[.agg #[.slice a L.length ca, .bool D.s, .slice D.a D.n D.c, .slice D.b D.m D.e, .int .i64 x, .slice b G.length cb, .bool E.s, .slice E.a E.n E.c, .slice E.b E.m E.e, .slice av m capv]] w fun e w' => e = .returned (.bool true) ∧ Below w.heap.size w w' := by
  have b2 := bulkL_n L
  have b3 := bulkL_n G
  have b4 := bulkV_n (q := g) m
  have wL := wts_bulk L (fun p hp => (hok p hp).1)
  have wG := wts_bulk G (fun p hp => (hkG p hp).1)
  have wR := rlist_wts m hgo
  have hmx : m ≤ 1048576 := by omega
  obtain ⟨d1, d2⟩ := norm_sz hD
  obtain ⟨e1, e2⟩ := norm_sz hE
  have sG : ∀ i j, sz 16777216 (vl (rho g m) (((fo G).drop i).take j)) := fun i j => (vl_part_sz (fo G) g m i j).mono (by rw [fo_length]; omega)
  have sVG : sz 16777216 (vl (rho g m) (fo G)) := (vl_sz (fo G) g m).mono (by rw [fo_length]; omega)
  have sT : sz 67108864 (vl (rho g m) (fo G) + E.val) := (sz_plus sVG (show sz 4194305 E.val from ⟨by omega, by omega⟩)).mono (by omega)
  have sc : sz 2097153 (co (t : Int) (fo L)) := (co_sz (t : Int) (fo L)).mono (by omega)
  have hfi : fine (fmap (fun r9 => co (t : Int) (fo L) * r9) (fo G)) := fine_scale sc (by omega)
  have sS : sz 100000000 (D.val + co (t : Int) (fo L) * E.val) := (sz_plus (show sz 4194305 D.val from ⟨by omega, by omega⟩) (sz_mul sc (show sz 4194305 E.val from ⟨by omega, by omega⟩))).mono (by omega)
  have lo : (oth (t : Int) L).length ≤ L.length := List.length_filter_le _ _
  have wo : wts (fo (oth (t : Int) L)) ≤ bulkL L := Nat.le_trans (wts_bulk (oth (t : Int) L) (fun p hp => (hok p (oth_mem hp)).1)) (bulkL_oth (t : Int) L)
  have sP : ∀ s : Fo, List.Sublist s (mrg (nfm (fo (oth (t : Int) L))) (nfm (fmap (fun r9 => co (t : Int) (fo L) * r9) (fo G)))) → sz 100000000 (vl (rho g m) s) := fun s hs => (vl_put_sz (g := g) (m := m) (M := 16777216) sc (by rw [fo_length]; omega) (by rw [fo_length]; omega) hs).mono (by omega)
  have sN : ∀ y, sz 33554432 (co y (fo (oth (t : Int) L) ++ fmap (fun r9 => co (t : Int) (fo L) * r9) (fo G))) := fun y => by rw [co_append, co_scale]; exact (sz_plus (co_sz y _) (sz_mul sc (co_sz y (fo G)))).mono (by omega)
  have lR : ∀ R : List Mo, fo R = mrg (nfm (fo (oth (t : Int) L))) (nfm (fmap (fun r9 => co (t : Int) (fo L) * r9) (fo G))) → R.length ≤ 1048576 := fun R hR => by
    have h1 := mrg_length (nfm (fo (oth (t : Int) L))) (nfm (fmap (fun r9 => co (t : Int) (fo L) * r9) (fo G)))
    have h2 := nfm_length (fo (oth (t : Int) L))
    have h3 := nfm_length (fmap (fun r9 => co (t : Int) (fo L) * r9) (fo G))
    rw [← hR, fo_length] at h1
    rw [fo_length] at h2
    rw [fmap_length, fo_length] at h3
    omega
  have GM := hide' (fun (i : Nat) (hi : i < m) w' (hb9 : Below w.heap.size w w') => memRat_is (g i).s (g i).a (g i).n (g i).c (g i).X (g i).b (g i).m (g i).e (g i).Y w' (hgo i hi).2.1 (hgo i hi).2.2.1 ((hgo i hi).later hb9).1 (hgo i hi).2.2.2.2.1 (hgo i hi).2.2.2.2.2 ((hgo i hi).later hb9).2.2.2.1)
  have GN := hide' (fun (i : Nat) (hi : i < m) => And.intro (hgo i hi).2.2.1 (hgo i hi).2.2.2.2.2)
  have GVg := hide' (fun w' (hb9 : Below w.heap.size w w') => lValueR_is b cb G av m capv g 4194304 w' hcG hcv (by omega) (by omega) (hG.later hb9) (fun p hp => (hkG p hp).1.later hb9) (hV.later hb9) (fun i hi => (hgo i hi).later hb9) (fun p hp => by have := bulkL_at G p hp; omega) (fun t ht => by have := bulkV_at (q := g) m t ht; omega) (by omega) (fun i j => (sG i j).mono (by omega)))
  have GA1 := hide' (fun w' (hb9 : Below w.heap.size w w') p q => addN_is (vl (rho g m) (fo G)) E p q w' (sVG.mono (by omega)) (hE.later hb9) (by omega) (by omega))
  have GS := hide' (fun w' (hb9 : Below w.heap.size w w') => lSubst_is a ca L D (t : Int) b cb G E w' (hF.later hb9) (fun p hp => And.intro ((hok p hp).1.later hb9) (by have := (hok p hp).2; omega)) hc (by omega) (hD.later hb9) (by omega) (hG.later hb9) (fun p hp => (hkG p hp).1.later hb9) hcG (by omega) (fun p hp => by have := (hkG p hp).2; omega) (hE.later hb9) (by omega) hfi)
  have GVs := hide' (fun w' (hb9 : Below w.heap.size w w') a1 c1 (R : List Mo) (s1 : Sl w' a1 c1 R) (h1 : Ents w' R) (f1 : fo R = mrg (nfm (fo (oth (t : Int) L))) (nfm (fmap (fun r9 => co (t : Int) (fo L) * r9) (fo G)))) => show Calls Tryz.prog 9 #[.slice a1 R.length c1, .slice av m capv] w' (BAns w' (vl (rho g m) (mrg (nfm (fo (oth (t : Int) L))) (nfm (fmap (fun r9 => co (t : Int) (fo L) * r9) (fo G)))))) by
    have h := lValueR_is a1 c1 R av m capv g 67108864 w' s1.len hcv (lR R f1) (by omega) s1.lies (fun p hp => (h1 p hp).ok) (hV.later hb9) (fun i hi => (hgo i hi).later hb9) (fun p hp => by have := ent_ns h1 (by rw [f1, nfm_append]) sN p hp; omega) (fun t ht => by have := bulkV_at (q := g) m t ht; omega) (by omega) (fun i j => (sP _ (by rw [← f1]; exact (List.take_sublist _ _).trans (List.drop_sublist _ _))).mono (by omega))
    rw [f1] at h
    exact h)
  have sVS := sP _ (List.Sublist.refl _)
  have GA2 := hide' (fun w' p q p1 q1 => addM_is (vl (rho g m) (mrg (nfm (fo (oth (t : Int) L))) (nfm (fmap (fun r9 => co (t : Int) (fo L) * r9) (fo G))))) (D.val + co (t : Int) (fo L) * E.val) p q p1 q1 w' (sVS.mono (by omega)) (sS.mono (by omega)))
  have sLE : sz 1099511627776 (vl (rho g m) (mrg (nfm (fo (oth (t : Int) L))) (nfm (fmap (fun r9 => co (t : Int) (fo L) * r9) (fo G)))) + (D.val + co (t : Int) (fo L) * E.val)) := (sz_plus sVS sS).mono (by omega)
  have GO := hide' (fun w' (hb9 : Below w.heap.size w w') gb cap (q : Nat → RatV) (r : RatV) (hcp : m ≤ cap) (hR : RatsAt w' (some ⟨gb, 0, none⟩) m (fun i => if i = t then r else q i)) (hO : ∀ i, i < m → (if i = t then r else q i).ok w') (hq : ∀ i, i < m → (q i).n = (g i).n ∧ (q i).m = (g i).m ∧ (q i).val = (g i).val) (hr : r.val = vl (rho g m) (fo G) + E.val) (hrn : r.n ≤ 67108864 ∧ r.m ≤ 67108864) => And.intro
    (show Calls Tryz.prog 9 #[.slice a L.length ca, .slice (some ⟨gb, 0, none⟩) m cap] w' (BAns w' (vl (rho (fun i => if i = t then r else q i) m) (fo L))) by
    have hw : wts (rlist (fun i => if i = t then r else q i) m) ≤ 200000000 := by
      have h1 := rlist_put (g := g) (q := q) (r := r) (t := t) m fun i hi => (hq i hi).2.2
      have h2 : wt r.val ≤ 134217729 := by rw [hr]; have := sT.1; have := sT.2; unfold wt; omega
      omega
    exact lValueR_is a ca L (some ⟨gb, 0, none⟩) m cap (fun i => if i = t then r else q i) 200000000 w' hc hcp (by omega) (by omega) (hF.later hb9) (fun p hp => (hok p hp).1.later hb9) hR hO (fun p hp => by have := bulkL_at L p hp; omega) (fun i hi => by
      by_cases he : i = t
      · simp only [if_pos he]; omega
      · simp only [if_neg he]
        have h1 := bulkV_at (q := g) m i hi
        have h2 := hq i hi
        rw [h2.1, h2.2.1]; omega) (by omega) (fun i j => (vl_part_sz (fo L) _ m i j).mono (by rw [fo_length]; omega)))
    (And.intro (show sz 1099511627776 (vl (rho (fun i => if i = t then r else q i) m) (fo L)) by
      have h1 := rlist_put (g := g) (q := q) (r := r) (t := t) m fun i hi => (hq i hi).2.2
      have h2 : wt r.val ≤ 134217729 := by rw [hr]; have := sT.1; have := sT.2; unfold wt; omega
      exact (vl_sz (fo L) _ m).mono (by rw [fo_length]; omega)) (put_value (L := L) (D := D.val) htm (fun i hi => (hq i hi).2.2) hr)))
  have GA3 := hide' (fun w' (hb9 : Below w.heap.size w w') (v : Rat) p q (hv : sz 1099511627776 v) => addN_is v D p q w' hv (hD.later hb9) (by omega) (by omega))
  obtain ⟨LL, hLL⟩ : ∃ l, mrg (nfm (fo (oth (t : Int) L))) (nfm (fmap (fun r9 => co (t : Int) (fo L) * r9) (fo G))) = l := ⟨_, rfl⟩
  rw [hLL] at GS GVs GA2 sLE GO
  obtain ⟨SC, hSC⟩ : ∃ l, D.val + co (t : Int) (fo L) * E.val = l := ⟨_, rfl⟩
  rw [hSC] at GS GA2 sLE GO
  obtain ⟨TT, hTT⟩ : ∃ l, vl (rho g m) (fo G) + E.val = l := ⟨_, rfl⟩
  rw [hTT] at GA1 GO sT
  obtain ⟨VG, hVG⟩ : ∃ l, vl (rho g m) (fo G) = l := ⟨_, rfl⟩
  rw [hVG] at GVg GA1
  obtain ⟨VS, hVS⟩ : ∃ l, vl (rho g m) LL = l := ⟨_, rfl⟩
  rw [hVS] at GVs GA2 sLE GO
  obtain ⟨LE, hLE⟩ : ∃ l, VS + SC = l := ⟨_, rfl⟩
  rw [hLE] at GA2 sLE GO
  have GC := hide' (fun w' p q p1 q1 => cmpN_is LE p q p1 q1 w' sLE)
  have ST := hide' sT
  obtain ⟨bv, ov, hav, hbv, hcv2⟩ := hV (by omega)
  subst hav
  have HV := hide' (fun i (hi : i < m) => hcv2 i hi)
  clear hcv2 sLE sVS lR sN sP wo lo sS hfi sc sT sVG sG d1 d2 e1 e2 wR wG wL b2 b3 b4 hF hok hc hD hG hkG hcG hE hgo hcv hb hV hLL hSC hTT hVG hVS hLE
  subst hxt
  obtain ⟨i0, hi0, hz0, hz1, hz2⟩ := info_parts info_Rat
  go_enter Tryz.func4, Tryz.ntmps4
  go_upto_region 1 with fail
  obtain ⟨wA, hwA⟩ : ∃ wA, w.alloc (.cells #[.slice a L.length ca, .bool D.s, .slice D.a D.n D.c, .slice D.b D.m D.e, .int .i64 (t : Int), .slice b G.length cb, .bool E.s, .slice E.a E.n E.c, .slice E.b E.m E.e, .slice (some ⟨bv, ov, none⟩) m capv] 38) = wA := ⟨_, rfl⟩
  have hB : Below w.heap.size w wA := by subst hwA; exact below_alloc _
  have d0 : wA.cell? ⟨w.heap.size, 0, none⟩ = some (.slice a L.length ca) := by subst hwA; go_simp
  have d1 : wA.cell? ⟨w.heap.size, 1, none⟩ = some (.bool D.s) := by subst hwA; go_simp
  have d2 : wA.cell? ⟨w.heap.size, 2, none⟩ = some (.slice D.a D.n D.c) := by subst hwA; go_simp
  have d3 : wA.cell? ⟨w.heap.size, 3, none⟩ = some (.slice D.b D.m D.e) := by subst hwA; go_simp
  have d4 : wA.cell? ⟨w.heap.size, 4, none⟩ = some (.int .i64 (t : Int)) := by subst hwA; go_simp
  have d5 : wA.cell? ⟨w.heap.size, 5, none⟩ = some (.slice b G.length cb) := by subst hwA; go_simp
  have d6 : wA.cell? ⟨w.heap.size, 6, none⟩ = some (.bool E.s) := by subst hwA; go_simp
  have d7 : wA.cell? ⟨w.heap.size, 7, none⟩ = some (.slice E.a E.n E.c) := by subst hwA; go_simp
  have d8 : wA.cell? ⟨w.heap.size, 8, none⟩ = some (.slice E.b E.m E.e) := by subst hwA; go_simp
  have d9 : wA.cell? ⟨w.heap.size, 9, none⟩ = some (.slice (some ⟨bv, ov, none⟩) m capv) := by subst hwA; go_simp
  rw [hwA]
  clear hwA
  go_cut [3, 4, 5, 6] from 12 to 19 (fun s3 s4 s5 s6 wx => ∃ wv c3 c5, wv = wx ∧ s3 = .pointer (some ⟨c3, 0, none⟩) ∧ s4 = .int .i64 (t : Int) ∧ s5 = .pointer (some ⟨c5, 0, none⟩) ∧ s6 = .slice (some ⟨bv, ov, none⟩) m capv ∧ w.heap.size ≤ c3 ∧ w.heap.size ≤ c5 ∧ Four wx c3 (.slice a L.length ca) (.bool D.s) (.slice D.a D.n D.c) (.slice D.b D.m D.e) ∧ Four wx c5 (.slice b G.length cb) (.bool E.s) (.slice E.a E.n E.c) (.slice E.b E.m E.e) ∧ Below w.heap.size w wx)
  case first =>
    have bD : Below wA.heap.size wA wA.drew := (Below.refl _ _).drew
    have kd0 := below_cell bD d0
    have kd1 := below_cell bD d1
    have kd2 := below_cell bD d2
    have kd3 := below_cell bD d3
    have kd4 := below_cell bD d4
    have kd5 := below_cell bD d5
    have kd6 := below_cell bD d6
    have kd7 := below_cell bD d7
    have kd8 := below_cell bD d8
    have kd9 := below_cell bD d9
    replace hB := hB.trans (bD.mono hB.size)
    refine wp_region_held_drew (S := fun w' => w'.cell? ⟨w.heap.size, 0, none⟩ = some (.slice a L.length ca) ∧ w'.cell? ⟨w.heap.size, 1, none⟩ = some (.bool D.s) ∧ w'.cell? ⟨w.heap.size, 2, none⟩ = some (.slice D.a D.n D.c) ∧ w'.cell? ⟨w.heap.size, 3, none⟩ = some (.slice D.b D.m D.e) ∧ w'.cell? ⟨w.heap.size, 4, none⟩ = some (.int .i64 (t : Int)) ∧ w'.cell? ⟨w.heap.size, 5, none⟩ = some (.slice b G.length cb) ∧ w'.cell? ⟨w.heap.size, 6, none⟩ = some (.bool E.s) ∧ w'.cell? ⟨w.heap.size, 7, none⟩ = some (.slice E.a E.n E.c) ∧ w'.cell? ⟨w.heap.size, 8, none⟩ = some (.slice E.b E.m E.e) ∧ w'.cell? ⟨w.heap.size, 9, none⟩ = some (.slice (some ⟨bv, ov, none⟩) m capv)) (by kernel_rfl) ⟨kd0, kd1, kd2, kd3, kd4, kd5, kd6, kd7, kd8, kd9⟩ (fun hHeld => ?_)
    clear kd0 kd1 kd2 kd3 kd4 kd5 kd6 kd7 kd8 kd9
    generalize wA.drew = w1 at bD hB hHeld ⊢
    clear bD d0 d1 d2 d3 d4 d5 d6 d7 d8 d9
    refine take' 0 (v := ?_) rfl (by kernel_rfl) (by kernel_rfl) (by kernel_rfl) (fun _ _ _ h => h) (Or.inl ⟨by rfl, ?_⟩) (by assumption) ?_
    rotate_left
    · intro w9 hSw
      go_simp
      first | done | with_reducible rfl
    simp only [Act.put, List.setIfInBounds_toArray, List.set_cons_zero, List.set_cons_succ]
    refine take' 1 (v := ?_) rfl (by kernel_rfl) (by kernel_rfl) (by kernel_rfl) (fun _ _ _ h => h) (Or.inl ⟨by rfl, ?_⟩) (by assumption) ?_
    rotate_left
    · intro w9 hSw
      go_simp
      first | done | with_reducible rfl
    simp only [Act.put, List.setIfInBounds_toArray, List.set_cons_zero, List.set_cons_succ]
    refine take' 2 (v := ?_) rfl (by kernel_rfl) (by kernel_rfl) (by kernel_rfl) (fun _ _ _ h => h) (Or.inl ⟨by rfl, ?_⟩) (by assumption) ?_
    rotate_left
    · intro w9 hSw
      go_simp
      first | done | with_reducible rfl
    simp only [Act.put, List.setIfInBounds_toArray, List.set_cons_zero, List.set_cons_succ]
    refine take' 3 (v := ?_) rfl (by kernel_rfl) (by kernel_rfl) (by kernel_rfl) (fun _ _ _ h => h) (Or.inl ⟨by rfl, ?_⟩) (by assumption) ?_
    rotate_left
    · intro w9 hSw
      go_simp
      first | done | with_reducible rfl
    simp only [Act.put, List.setIfInBounds_toArray, List.set_cons_zero, List.set_cons_succ]
    refine take' 4 (v := ?_) rfl (by kernel_rfl) (by kernel_rfl) (by kernel_rfl) (fun _ _ _ h => h) (Or.inl ⟨by rfl, ?_⟩) (by assumption) ?_
    rotate_left
    · intro w9 hSw
      go_simp
      first | done | with_reducible rfl
    simp only [Act.put, List.setIfInBounds_toArray, List.set_cons_zero, List.set_cons_succ]
    refine take' 5 (v := ?_) rfl (by kernel_rfl) (by kernel_rfl) (by kernel_rfl) (fun _ _ _ h => h) (Or.inl ⟨by rfl, ?_⟩) (by assumption) ?_
    rotate_left
    · intro w9 hSw
      go_simp
      first | done | with_reducible rfl
    simp only [Act.put, List.setIfInBounds_toArray, List.set_cons_zero, List.set_cons_succ]
    refine take' 6 (v := ?_) rfl (by kernel_rfl) (by kernel_rfl) (by kernel_rfl) (fun _ _ _ h => h) (Or.inl ⟨by rfl, ?_⟩) (by assumption) ?_
    rotate_left
    · intro w9 hSw
      go_simp
      first | done | with_reducible rfl
    simp only [Act.put, List.setIfInBounds_toArray, List.set_cons_zero, List.set_cons_succ]
    refine take' 7 (v := ?_) rfl (by kernel_rfl) (by kernel_rfl) (by kernel_rfl) (fun _ _ _ h => h) (Or.inl ⟨by rfl, ?_⟩) (by assumption) ?_
    rotate_left
    · intro w9 hSw
      go_simp
      first | done | with_reducible rfl
    simp only [Act.put, List.setIfInBounds_toArray, List.set_cons_zero, List.set_cons_succ]
    refine wpAnyH_ready (rs := [8, 9]) (by kernel_rfl) (by simp) ?_
    refine consT rfl (fun KK hKK => ?_) ?_
    · skip
      go_simp
      have vA : Four (w1.alloc (.cells #[.slice none 0 0, .bool false, .slice none 0 0, .slice none 0 0] 33)) w1.heap.size (.slice none 0 0) (.bool false) (.slice none 0 0) (.slice none 0 0) := four_new w1 _ _ _ _ 33
      have bA := below_alloc (w := w1) (.cells #[.slice none 0 0, .bool false, .slice none 0 0, .slice none 0 0] 33)
      have hcA : w.heap.size < w1.heap.size := World.block_lt_of_cell? w1 ⟨w.heap.size, 0, none⟩ hHeld.1
      generalize w1.alloc (.cells #[.slice none 0 0, .bool false, .slice none 0 0, .slice none 0 0] 33) = w2 at vA bA ⊢
      replace hB := hB.trans (bA.mono hB.size)
      replace hHeld := (⟨below_cell bA hHeld.1, below_cell bA hHeld.2.1, below_cell bA hHeld.2.2.1, below_cell bA hHeld.2.2.2.1, below_cell bA hHeld.2.2.2.2.1, below_cell bA hHeld.2.2.2.2.2.1, below_cell bA hHeld.2.2.2.2.2.2.1, below_cell bA hHeld.2.2.2.2.2.2.2.1, below_cell bA hHeld.2.2.2.2.2.2.2.2.1, below_cell bA hHeld.2.2.2.2.2.2.2.2.2⟩ : _ ∧ _ ∧ _ ∧ _ ∧ _ ∧ _ ∧ _ ∧ _ ∧ _ ∧ _)
      clear bA
      refine hKK.out _ _ hHeld ?_
      clear hHeld
      intro hHeld
      clear hKK KK
      try simp only [Act.put, List.setIfInBounds_toArray, List.set_cons_zero, List.set_cons_succ]
      obtain ⟨cA, hcc⟩ : ∃ cc, w1.heap.size = cc := ⟨_, rfl⟩
      rw [hcc] at vA hcA
      try rw [hcc] at hne
      try rw [hcc]
      clear hcc
      refine wpAnyH_ready (rs := [9]) (by kernel_rfl) (by simp) ?_
      refine cons' rfl (fun KK hKK => ?_)
      go_simp
      have vB : Four (w2.alloc (.cells #[.slice none 0 0, .bool false, .slice none 0 0, .slice none 0 0] 33)) w2.heap.size (.slice none 0 0) (.bool false) (.slice none 0 0) (.slice none 0 0) := four_new w2 _ _ _ _ 33
      have bA := below_alloc (w := w2) (.cells #[.slice none 0 0, .bool false, .slice none 0 0, .slice none 0 0] 33)
      have hcB : w.heap.size < w2.heap.size := World.block_lt_of_cell? w2 ⟨w.heap.size, 0, none⟩ hHeld.1
      have hne : cA ≠ w2.heap.size := by have := vA.2.lt; omega
      generalize w2.alloc (.cells #[.slice none 0 0, .bool false, .slice none 0 0, .slice none 0 0] 33) = w3 at vB bA ⊢
      replace hB := hB.trans (bA.mono hB.size)
      replace vA := vA.later bA
      replace hHeld := (⟨below_cell bA hHeld.1, below_cell bA hHeld.2.1, below_cell bA hHeld.2.2.1, below_cell bA hHeld.2.2.2.1, below_cell bA hHeld.2.2.2.2.1, below_cell bA hHeld.2.2.2.2.2.1, below_cell bA hHeld.2.2.2.2.2.2.1, below_cell bA hHeld.2.2.2.2.2.2.2.1, below_cell bA hHeld.2.2.2.2.2.2.2.2.1, below_cell bA hHeld.2.2.2.2.2.2.2.2.2⟩ : _ ∧ _ ∧ _ ∧ _ ∧ _ ∧ _ ∧ _ ∧ _ ∧ _ ∧ _)
      clear bA
      refine hKK.out _ _ hHeld ?_
      clear hHeld
      intro hHeld
      clear hKK KK
      try simp only [Act.put, List.setIfInBounds_toArray, List.set_cons_zero, List.set_cons_succ]
      obtain ⟨cB, hcc⟩ : ∃ cc, w2.heap.size = cc := ⟨_, rfl⟩
      rw [hcc] at vB hcB
      try rw [hcc] at hne
      try rw [hcc]
      clear hcc
      refine wpAnyH_ready (rs := [10]) (by kernel_rfl) (by simp) ?_
      refine cons' rfl (fun KK hKK => ?_)
      have fz := fun o => vA.2.frozen o
      replace hB := below_set4 (u0 := .slice a L.length ca) (u1 := .bool D.s) (u2 := .slice D.a D.n D.c) (u3 := .slice D.b D.m D.e) hB (show w.heap.size ≤ cA by omega)
      have hH2 := (⟨(set4_far (w := w3) (c := cA) (b := w.heap.size) (o := 0) (u0 := .slice a L.length ca) (u1 := .bool D.s) (u2 := .slice D.a D.n D.c) (u3 := .slice D.b D.m D.e) (by omega)).trans hHeld.1, (set4_far (w := w3) (c := cA) (b := w.heap.size) (o := 1) (u0 := .slice a L.length ca) (u1 := .bool D.s) (u2 := .slice D.a D.n D.c) (u3 := .slice D.b D.m D.e) (by omega)).trans hHeld.2.1, (set4_far (w := w3) (c := cA) (b := w.heap.size) (o := 2) (u0 := .slice a L.length ca) (u1 := .bool D.s) (u2 := .slice D.a D.n D.c) (u3 := .slice D.b D.m D.e) (by omega)).trans hHeld.2.2.1, (set4_far (w := w3) (c := cA) (b := w.heap.size) (o := 3) (u0 := .slice a L.length ca) (u1 := .bool D.s) (u2 := .slice D.a D.n D.c) (u3 := .slice D.b D.m D.e) (by omega)).trans hHeld.2.2.2.1, (set4_far (w := w3) (c := cA) (b := w.heap.size) (o := 4) (u0 := .slice a L.length ca) (u1 := .bool D.s) (u2 := .slice D.a D.n D.c) (u3 := .slice D.b D.m D.e) (by omega)).trans hHeld.2.2.2.2.1, (set4_far (w := w3) (c := cA) (b := w.heap.size) (o := 5) (u0 := .slice a L.length ca) (u1 := .bool D.s) (u2 := .slice D.a D.n D.c) (u3 := .slice D.b D.m D.e) (by omega)).trans hHeld.2.2.2.2.2.1, (set4_far (w := w3) (c := cA) (b := w.heap.size) (o := 6) (u0 := .slice a L.length ca) (u1 := .bool D.s) (u2 := .slice D.a D.n D.c) (u3 := .slice D.b D.m D.e) (by omega)).trans hHeld.2.2.2.2.2.2.1, (set4_far (w := w3) (c := cA) (b := w.heap.size) (o := 7) (u0 := .slice a L.length ca) (u1 := .bool D.s) (u2 := .slice D.a D.n D.c) (u3 := .slice D.b D.m D.e) (by omega)).trans hHeld.2.2.2.2.2.2.2.1, (set4_far (w := w3) (c := cA) (b := w.heap.size) (o := 8) (u0 := .slice a L.length ca) (u1 := .bool D.s) (u2 := .slice D.a D.n D.c) (u3 := .slice D.b D.m D.e) (by omega)).trans hHeld.2.2.2.2.2.2.2.2.1, (set4_far (w := w3) (c := cA) (b := w.heap.size) (o := 9) (u0 := .slice a L.length ca) (u1 := .bool D.s) (u2 := .slice D.a D.n D.c) (u3 := .slice D.b D.m D.e) (by omega)).trans hHeld.2.2.2.2.2.2.2.2.2⟩ : _ ∧ _ ∧ _ ∧ _ ∧ _ ∧ _ ∧ _ ∧ _ ∧ _ ∧ _)
      have fB := vB.far (u0 := .slice a L.length ca) (u1 := .bool D.s) (u2 := .slice D.a D.n D.c) (u3 := .slice D.b D.m D.e) (c := cA) (by omega)
      have pA := vA.put (u0 := .slice a L.length ca) (u1 := .bool D.s) (u2 := .slice D.a D.n D.c) (u3 := .slice D.b D.m D.e)
      have z0 := vA.1.1
      have z1 := vA.1.2.1
      have z2 := vA.1.2.2.1
      have z3 := vA.1.2.2.2
      go_simp
      clear z0 z1 z2 z3 fz vA vB
      have vB := fB
      have vA := pA
      clear fB pA
      obtain ⟨w4, hw9⟩ : ∃ w9, (((w3.setCell ⟨cA, 0, none⟩ (.slice a L.length ca)).setCell ⟨cA, 1, none⟩ (.bool D.s)).setCell ⟨cA, 2, none⟩ (.slice D.a D.n D.c)).setCell ⟨cA, 3, none⟩ (.slice D.b D.m D.e) = w9 := ⟨_, rfl⟩
      try unfold set4 at hB
      try unfold set4 at hH2
      try unfold set4 at vA
      try unfold set4 at vB
      rw [hw9] at hB hH2 vA vB ⊢
      clear hw9
      refine hKK.out _ _ hH2 ?_
      clear hHeld
      intro hHeld
      clear hKK KK
      try simp only [Act.put, List.setIfInBounds_toArray, List.set_cons_zero, List.set_cons_succ]
      clear hH2
      refine take' 11 (v := ?_) rfl (by kernel_rfl) (by kernel_rfl) (by kernel_rfl) (fun _ _ _ h => h) (Or.inl ⟨by rfl, ?_⟩) (by assumption) ?_
      rotate_left
      · intro w9 hSw
        go_simp
        first | done | with_reducible rfl
      simp only [Act.put, List.setIfInBounds_toArray, List.set_cons_zero, List.set_cons_succ]
      refine wpAnyH_ready (rs := [12]) (by kernel_rfl) (by simp) ?_
      refine cons' rfl (fun KK hKK => ?_)
      have fz := fun o => vB.2.frozen o
      replace hB := below_set4 (u0 := .slice b G.length cb) (u1 := .bool E.s) (u2 := .slice E.a E.n E.c) (u3 := .slice E.b E.m E.e) hB (show w.heap.size ≤ cB by omega)
      have hH2 := (⟨(set4_far (w := w4) (c := cB) (b := w.heap.size) (o := 0) (u0 := .slice b G.length cb) (u1 := .bool E.s) (u2 := .slice E.a E.n E.c) (u3 := .slice E.b E.m E.e) (by omega)).trans hHeld.1, (set4_far (w := w4) (c := cB) (b := w.heap.size) (o := 1) (u0 := .slice b G.length cb) (u1 := .bool E.s) (u2 := .slice E.a E.n E.c) (u3 := .slice E.b E.m E.e) (by omega)).trans hHeld.2.1, (set4_far (w := w4) (c := cB) (b := w.heap.size) (o := 2) (u0 := .slice b G.length cb) (u1 := .bool E.s) (u2 := .slice E.a E.n E.c) (u3 := .slice E.b E.m E.e) (by omega)).trans hHeld.2.2.1, (set4_far (w := w4) (c := cB) (b := w.heap.size) (o := 3) (u0 := .slice b G.length cb) (u1 := .bool E.s) (u2 := .slice E.a E.n E.c) (u3 := .slice E.b E.m E.e) (by omega)).trans hHeld.2.2.2.1, (set4_far (w := w4) (c := cB) (b := w.heap.size) (o := 4) (u0 := .slice b G.length cb) (u1 := .bool E.s) (u2 := .slice E.a E.n E.c) (u3 := .slice E.b E.m E.e) (by omega)).trans hHeld.2.2.2.2.1, (set4_far (w := w4) (c := cB) (b := w.heap.size) (o := 5) (u0 := .slice b G.length cb) (u1 := .bool E.s) (u2 := .slice E.a E.n E.c) (u3 := .slice E.b E.m E.e) (by omega)).trans hHeld.2.2.2.2.2.1, (set4_far (w := w4) (c := cB) (b := w.heap.size) (o := 6) (u0 := .slice b G.length cb) (u1 := .bool E.s) (u2 := .slice E.a E.n E.c) (u3 := .slice E.b E.m E.e) (by omega)).trans hHeld.2.2.2.2.2.2.1, (set4_far (w := w4) (c := cB) (b := w.heap.size) (o := 7) (u0 := .slice b G.length cb) (u1 := .bool E.s) (u2 := .slice E.a E.n E.c) (u3 := .slice E.b E.m E.e) (by omega)).trans hHeld.2.2.2.2.2.2.2.1, (set4_far (w := w4) (c := cB) (b := w.heap.size) (o := 8) (u0 := .slice b G.length cb) (u1 := .bool E.s) (u2 := .slice E.a E.n E.c) (u3 := .slice E.b E.m E.e) (by omega)).trans hHeld.2.2.2.2.2.2.2.2.1, (set4_far (w := w4) (c := cB) (b := w.heap.size) (o := 9) (u0 := .slice b G.length cb) (u1 := .bool E.s) (u2 := .slice E.a E.n E.c) (u3 := .slice E.b E.m E.e) (by omega)).trans hHeld.2.2.2.2.2.2.2.2.2⟩ : _ ∧ _ ∧ _ ∧ _ ∧ _ ∧ _ ∧ _ ∧ _ ∧ _ ∧ _)
      have fA := vA.far (u0 := .slice b G.length cb) (u1 := .bool E.s) (u2 := .slice E.a E.n E.c) (u3 := .slice E.b E.m E.e) (c := cB) (by omega)
      have pB := vB.put (u0 := .slice b G.length cb) (u1 := .bool E.s) (u2 := .slice E.a E.n E.c) (u3 := .slice E.b E.m E.e)
      have z0 := vB.1.1
      have z1 := vB.1.2.1
      have z2 := vB.1.2.2.1
      have z3 := vB.1.2.2.2
      go_simp
      clear z0 z1 z2 z3 fz vB vA
      have vA := fA
      have vB := pB
      clear fA pB
      obtain ⟨w5, hw9⟩ : ∃ w9, (((w4.setCell ⟨cB, 0, none⟩ (.slice b G.length cb)).setCell ⟨cB, 1, none⟩ (.bool E.s)).setCell ⟨cB, 2, none⟩ (.slice E.a E.n E.c)).setCell ⟨cB, 3, none⟩ (.slice E.b E.m E.e) = w9 := ⟨_, rfl⟩
      try unfold set4 at hB
      try unfold set4 at hH2
      try unfold set4 at vA
      try unfold set4 at vB
      rw [hw9] at hB hH2 vA vB ⊢
      clear hw9
      refine hKK.out _ _ hH2 ?_
      clear hHeld
      intro hHeld
      clear hKK KK
      try simp only [Act.put, List.setIfInBounds_toArray, List.set_cons_zero, List.set_cons_succ]
      clear hH2
      refine take' 13 (v := ?_) rfl (by kernel_rfl) (by kernel_rfl) (by kernel_rfl) (fun _ _ _ h => h) (Or.inl ⟨by rfl, ?_⟩) (by assumption) ?_
      rotate_left
      · intro w9 hSw
        go_simp
        first | done | with_reducible rfl
      simp only [Act.put, List.setIfInBounds_toArray, List.set_cons_zero, List.set_cons_succ]
      refine wpAnyH_done (by kernel_rfl) ?_ _
      go_wp2_with fail
      go_meet
      exact ⟨_, cA, cB, rfl, rfl, rfl, rfl, rfl, by omega, by omega, vA, vB, hB⟩
    refine consT rfl (fun KK hKK => ?_) ?_
    · skip
      go_simp
      have vB : Four (w1.alloc (.cells #[.slice none 0 0, .bool false, .slice none 0 0, .slice none 0 0] 33)) w1.heap.size (.slice none 0 0) (.bool false) (.slice none 0 0) (.slice none 0 0) := four_new w1 _ _ _ _ 33
      have bA := below_alloc (w := w1) (.cells #[.slice none 0 0, .bool false, .slice none 0 0, .slice none 0 0] 33)
      have hcB : w.heap.size < w1.heap.size := World.block_lt_of_cell? w1 ⟨w.heap.size, 0, none⟩ hHeld.1
      generalize w1.alloc (.cells #[.slice none 0 0, .bool false, .slice none 0 0, .slice none 0 0] 33) = w2 at vB bA ⊢
      replace hB := hB.trans (bA.mono hB.size)
      replace hHeld := (⟨below_cell bA hHeld.1, below_cell bA hHeld.2.1, below_cell bA hHeld.2.2.1, below_cell bA hHeld.2.2.2.1, below_cell bA hHeld.2.2.2.2.1, below_cell bA hHeld.2.2.2.2.2.1, below_cell bA hHeld.2.2.2.2.2.2.1, below_cell bA hHeld.2.2.2.2.2.2.2.1, below_cell bA hHeld.2.2.2.2.2.2.2.2.1, below_cell bA hHeld.2.2.2.2.2.2.2.2.2⟩ : _ ∧ _ ∧ _ ∧ _ ∧ _ ∧ _ ∧ _ ∧ _ ∧ _ ∧ _)
      clear bA
      refine hKK.out _ _ hHeld ?_
      clear hHeld
      intro hHeld
      clear hKK KK
      try simp only [Act.put, List.setIfInBounds_toArray, List.set_cons_zero, List.set_cons_succ]
      obtain ⟨cB, hcc⟩ : ∃ cc, w1.heap.size = cc := ⟨_, rfl⟩
      rw [hcc] at vB hcB
      try rw [hcc] at hne
      try rw [hcc]
      clear hcc
      refine wpAnyH_ready (rs := [8]) (by kernel_rfl) (by simp) ?_
      refine cons' rfl (fun KK hKK => ?_)
      go_simp
      have vA : Four (w2.alloc (.cells #[.slice none 0 0, .bool false, .slice none 0 0, .slice none 0 0] 33)) w2.heap.size (.slice none 0 0) (.bool false) (.slice none 0 0) (.slice none 0 0) := four_new w2 _ _ _ _ 33
      have bA := below_alloc (w := w2) (.cells #[.slice none 0 0, .bool false, .slice none 0 0, .slice none 0 0] 33)
      have hcA : w.heap.size < w2.heap.size := World.block_lt_of_cell? w2 ⟨w.heap.size, 0, none⟩ hHeld.1
      have hne : cB ≠ w2.heap.size := by have := vB.2.lt; omega
      generalize w2.alloc (.cells #[.slice none 0 0, .bool false, .slice none 0 0, .slice none 0 0] 33) = w3 at vA bA ⊢
      replace hB := hB.trans (bA.mono hB.size)
      replace vB := vB.later bA
      replace hHeld := (⟨below_cell bA hHeld.1, below_cell bA hHeld.2.1, below_cell bA hHeld.2.2.1, below_cell bA hHeld.2.2.2.1, below_cell bA hHeld.2.2.2.2.1, below_cell bA hHeld.2.2.2.2.2.1, below_cell bA hHeld.2.2.2.2.2.2.1, below_cell bA hHeld.2.2.2.2.2.2.2.1, below_cell bA hHeld.2.2.2.2.2.2.2.2.1, below_cell bA hHeld.2.2.2.2.2.2.2.2.2⟩ : _ ∧ _ ∧ _ ∧ _ ∧ _ ∧ _ ∧ _ ∧ _ ∧ _ ∧ _)
      clear bA
      refine hKK.out _ _ hHeld ?_
      clear hHeld
      intro hHeld
      clear hKK KK
      try simp only [Act.put, List.setIfInBounds_toArray, List.set_cons_zero, List.set_cons_succ]
      obtain ⟨cA, hcc⟩ : ∃ cc, w2.heap.size = cc := ⟨_, rfl⟩
      rw [hcc] at vA hcA
      try rw [hcc] at hne
      try rw [hcc]
      clear hcc
      refine wpAnyH_ready (rs := [10]) (by kernel_rfl) (by simp) ?_
      refine cons' rfl (fun KK hKK => ?_)
      have fz := fun o => vA.2.frozen o
      replace hB := below_set4 (u0 := .slice a L.length ca) (u1 := .bool D.s) (u2 := .slice D.a D.n D.c) (u3 := .slice D.b D.m D.e) hB (show w.heap.size ≤ cA by omega)
      have hH2 := (⟨(set4_far (w := w3) (c := cA) (b := w.heap.size) (o := 0) (u0 := .slice a L.length ca) (u1 := .bool D.s) (u2 := .slice D.a D.n D.c) (u3 := .slice D.b D.m D.e) (by omega)).trans hHeld.1, (set4_far (w := w3) (c := cA) (b := w.heap.size) (o := 1) (u0 := .slice a L.length ca) (u1 := .bool D.s) (u2 := .slice D.a D.n D.c) (u3 := .slice D.b D.m D.e) (by omega)).trans hHeld.2.1, (set4_far (w := w3) (c := cA) (b := w.heap.size) (o := 2) (u0 := .slice a L.length ca) (u1 := .bool D.s) (u2 := .slice D.a D.n D.c) (u3 := .slice D.b D.m D.e) (by omega)).trans hHeld.2.2.1, (set4_far (w := w3) (c := cA) (b := w.heap.size) (o := 3) (u0 := .slice a L.length ca) (u1 := .bool D.s) (u2 := .slice D.a D.n D.c) (u3 := .slice D.b D.m D.e) (by omega)).trans hHeld.2.2.2.1, (set4_far (w := w3) (c := cA) (b := w.heap.size) (o := 4) (u0 := .slice a L.length ca) (u1 := .bool D.s) (u2 := .slice D.a D.n D.c) (u3 := .slice D.b D.m D.e) (by omega)).trans hHeld.2.2.2.2.1, (set4_far (w := w3) (c := cA) (b := w.heap.size) (o := 5) (u0 := .slice a L.length ca) (u1 := .bool D.s) (u2 := .slice D.a D.n D.c) (u3 := .slice D.b D.m D.e) (by omega)).trans hHeld.2.2.2.2.2.1, (set4_far (w := w3) (c := cA) (b := w.heap.size) (o := 6) (u0 := .slice a L.length ca) (u1 := .bool D.s) (u2 := .slice D.a D.n D.c) (u3 := .slice D.b D.m D.e) (by omega)).trans hHeld.2.2.2.2.2.2.1, (set4_far (w := w3) (c := cA) (b := w.heap.size) (o := 7) (u0 := .slice a L.length ca) (u1 := .bool D.s) (u2 := .slice D.a D.n D.c) (u3 := .slice D.b D.m D.e) (by omega)).trans hHeld.2.2.2.2.2.2.2.1, (set4_far (w := w3) (c := cA) (b := w.heap.size) (o := 8) (u0 := .slice a L.length ca) (u1 := .bool D.s) (u2 := .slice D.a D.n D.c) (u3 := .slice D.b D.m D.e) (by omega)).trans hHeld.2.2.2.2.2.2.2.2.1, (set4_far (w := w3) (c := cA) (b := w.heap.size) (o := 9) (u0 := .slice a L.length ca) (u1 := .bool D.s) (u2 := .slice D.a D.n D.c) (u3 := .slice D.b D.m D.e) (by omega)).trans hHeld.2.2.2.2.2.2.2.2.2⟩ : _ ∧ _ ∧ _ ∧ _ ∧ _ ∧ _ ∧ _ ∧ _ ∧ _ ∧ _)
      have fB := vB.far (u0 := .slice a L.length ca) (u1 := .bool D.s) (u2 := .slice D.a D.n D.c) (u3 := .slice D.b D.m D.e) (c := cA) (by omega)
      have pA := vA.put (u0 := .slice a L.length ca) (u1 := .bool D.s) (u2 := .slice D.a D.n D.c) (u3 := .slice D.b D.m D.e)
      have z0 := vA.1.1
      have z1 := vA.1.2.1
      have z2 := vA.1.2.2.1
      have z3 := vA.1.2.2.2
      go_simp
      clear z0 z1 z2 z3 fz vA vB
      have vB := fB
      have vA := pA
      clear fB pA
      obtain ⟨w4, hw9⟩ : ∃ w9, (((w3.setCell ⟨cA, 0, none⟩ (.slice a L.length ca)).setCell ⟨cA, 1, none⟩ (.bool D.s)).setCell ⟨cA, 2, none⟩ (.slice D.a D.n D.c)).setCell ⟨cA, 3, none⟩ (.slice D.b D.m D.e) = w9 := ⟨_, rfl⟩
      try unfold set4 at hB
      try unfold set4 at hH2
      try unfold set4 at vA
      try unfold set4 at vB
      rw [hw9] at hB hH2 vA vB ⊢
      clear hw9
      refine hKK.out _ _ hH2 ?_
      clear hHeld
      intro hHeld
      clear hKK KK
      try simp only [Act.put, List.setIfInBounds_toArray, List.set_cons_zero, List.set_cons_succ]
      clear hH2
      refine take' 11 (v := ?_) rfl (by kernel_rfl) (by kernel_rfl) (by kernel_rfl) (fun _ _ _ h => h) (Or.inl ⟨by rfl, ?_⟩) (by assumption) ?_
      rotate_left
      · intro w9 hSw
        go_simp
        first | done | with_reducible rfl
      simp only [Act.put, List.setIfInBounds_toArray, List.set_cons_zero, List.set_cons_succ]
      refine wpAnyH_ready (rs := [12]) (by kernel_rfl) (by simp) ?_
      refine cons' rfl (fun KK hKK => ?_)
      have fz := fun o => vB.2.frozen o
      replace hB := below_set4 (u0 := .slice b G.length cb) (u1 := .bool E.s) (u2 := .slice E.a E.n E.c) (u3 := .slice E.b E.m E.e) hB (show w.heap.size ≤ cB by omega)
      have hH2 := (⟨(set4_far (w := w4) (c := cB) (b := w.heap.size) (o := 0) (u0 := .slice b G.length cb) (u1 := .bool E.s) (u2 := .slice E.a E.n E.c) (u3 := .slice E.b E.m E.e) (by omega)).trans hHeld.1, (set4_far (w := w4) (c := cB) (b := w.heap.size) (o := 1) (u0 := .slice b G.length cb) (u1 := .bool E.s) (u2 := .slice E.a E.n E.c) (u3 := .slice E.b E.m E.e) (by omega)).trans hHeld.2.1, (set4_far (w := w4) (c := cB) (b := w.heap.size) (o := 2) (u0 := .slice b G.length cb) (u1 := .bool E.s) (u2 := .slice E.a E.n E.c) (u3 := .slice E.b E.m E.e) (by omega)).trans hHeld.2.2.1, (set4_far (w := w4) (c := cB) (b := w.heap.size) (o := 3) (u0 := .slice b G.length cb) (u1 := .bool E.s) (u2 := .slice E.a E.n E.c) (u3 := .slice E.b E.m E.e) (by omega)).trans hHeld.2.2.2.1, (set4_far (w := w4) (c := cB) (b := w.heap.size) (o := 4) (u0 := .slice b G.length cb) (u1 := .bool E.s) (u2 := .slice E.a E.n E.c) (u3 := .slice E.b E.m E.e) (by omega)).trans hHeld.2.2.2.2.1, (set4_far (w := w4) (c := cB) (b := w.heap.size) (o := 5) (u0 := .slice b G.length cb) (u1 := .bool E.s) (u2 := .slice E.a E.n E.c) (u3 := .slice E.b E.m E.e) (by omega)).trans hHeld.2.2.2.2.2.1, (set4_far (w := w4) (c := cB) (b := w.heap.size) (o := 6) (u0 := .slice b G.length cb) (u1 := .bool E.s) (u2 := .slice E.a E.n E.c) (u3 := .slice E.b E.m E.e) (by omega)).trans hHeld.2.2.2.2.2.2.1, (set4_far (w := w4) (c := cB) (b := w.heap.size) (o := 7) (u0 := .slice b G.length cb) (u1 := .bool E.s) (u2 := .slice E.a E.n E.c) (u3 := .slice E.b E.m E.e) (by omega)).trans hHeld.2.2.2.2.2.2.2.1, (set4_far (w := w4) (c := cB) (b := w.heap.size) (o := 8) (u0 := .slice b G.length cb) (u1 := .bool E.s) (u2 := .slice E.a E.n E.c) (u3 := .slice E.b E.m E.e) (by omega)).trans hHeld.2.2.2.2.2.2.2.2.1, (set4_far (w := w4) (c := cB) (b := w.heap.size) (o := 9) (u0 := .slice b G.length cb) (u1 := .bool E.s) (u2 := .slice E.a E.n E.c) (u3 := .slice E.b E.m E.e) (by omega)).trans hHeld.2.2.2.2.2.2.2.2.2⟩ : _ ∧ _ ∧ _ ∧ _ ∧ _ ∧ _ ∧ _ ∧ _ ∧ _ ∧ _)
      have fA := vA.far (u0 := .slice b G.length cb) (u1 := .bool E.s) (u2 := .slice E.a E.n E.c) (u3 := .slice E.b E.m E.e) (c := cB) (by omega)
      have pB := vB.put (u0 := .slice b G.length cb) (u1 := .bool E.s) (u2 := .slice E.a E.n E.c) (u3 := .slice E.b E.m E.e)
      have z0 := vB.1.1
      have z1 := vB.1.2.1
      have z2 := vB.1.2.2.1
      have z3 := vB.1.2.2.2
      go_simp
      clear z0 z1 z2 z3 fz vB vA
      have vA := fA
      have vB := pB
      clear fA pB
      obtain ⟨w5, hw9⟩ : ∃ w9, (((w4.setCell ⟨cB, 0, none⟩ (.slice b G.length cb)).setCell ⟨cB, 1, none⟩ (.bool E.s)).setCell ⟨cB, 2, none⟩ (.slice E.a E.n E.c)).setCell ⟨cB, 3, none⟩ (.slice E.b E.m E.e) = w9 := ⟨_, rfl⟩
      try unfold set4 at hB
      try unfold set4 at hH2
      try unfold set4 at vA
      try unfold set4 at vB
      rw [hw9] at hB hH2 vA vB ⊢
      clear hw9
      refine hKK.out _ _ hH2 ?_
      clear hHeld
      intro hHeld
      clear hKK KK
      try simp only [Act.put, List.setIfInBounds_toArray, List.set_cons_zero, List.set_cons_succ]
      clear hH2
      refine take' 13 (v := ?_) rfl (by kernel_rfl) (by kernel_rfl) (by kernel_rfl) (fun _ _ _ h => h) (Or.inl ⟨by rfl, ?_⟩) (by assumption) ?_
      rotate_left
      · intro w9 hSw
        go_simp
        first | done | with_reducible rfl
      simp only [Act.put, List.setIfInBounds_toArray, List.set_cons_zero, List.set_cons_succ]
      refine wpAnyH_done (by kernel_rfl) ?_ _
      go_wp2_with fail
      go_meet
      exact ⟨_, cA, cB, rfl, rfl, rfl, rfl, rfl, by omega, by omega, vA, vB, hB⟩
    exact AllReadyH.nil
  case rest =>
    obtain ⟨wv, c3, c5, hwv, rfl, rfl, rfl, rfl, n3, n5, v3, v5, hB2⟩ := hcut
    subst hwv
    clear hB d0 d1 d2 d3 d4 d5 d6 d7 d8 d9
    have hB := hB2
    clear hB2
    have l3 := v3.2.lt
    have l5 := v5.2.lt
    have f0 := v3.1.1
    have e0 := v5.1.1
    have f1 := v3.1.2.1
    have e1 := v5.1.2.1
    have f2 := v3.1.2.2.1
    have e2 := v5.1.2.2.1
    have f3 := v3.1.2.2.2
    have e3 := v5.1.2.2.2
    clear v3 v5
    have t0 : (0 : Int) ≤ (t : Int) := by omega
    have t1 : (t : Int) < (m : Int) := by omega
    have t2 : ((m : Int) ≤ (t : Int)) = False := eq_false (by omega)
    have t3 : ((t : Int) < 0) = False := eq_false (by omega)
    go_wp2_with fail
    go_loopw [7, 8] (fun vo vi wr => ∃ k : Nat, k ≤ m ∧ vi = .int .i64 k ∧ CpInv wv g k vo wr) (fun _ vi _ => m - (intOf vi).toNat)
    case atStart => exact ⟨0, Nat.zero_le _, rfl, CpInv.nil _ _⟩
    case round =>
      obtain ⟨k, hk, rfl, hI⟩ := hrel
      by_cases hlt : k < m
      · have hBk := hI.below
        have hBw := hB.trans (hBk.mono hB.size)
        obtain ⟨h0, h1, h2⟩ := HV.out k hlt
        replace h0 := below_cell hBw h0
        replace h1 := below_cell hBw h1
        replace h2 := below_cell hBw h2
        have GK := GM.out k hlt wr hBw
        replace GK := hide' GK
        have GB := hide' (GN.out k hlt)
        obtain ⟨q, hO, hBq, hq⟩ := hI
        have j0 : (0 : Int) ≤ (k : Int) := by omega
        have j1 : (k : Int) < (m : Int) := by omega
        have hrow := fun k hk => (hO.lt k hk)
        obtain ⟨gk, hgk⟩ : ∃ gk, g k = gk := ⟨_, rfl⟩
        rw [hgk] at h0 h1 h2 GK GB
        clear GM GN GVg GA1 GS GVs GA2 GO GA3 GC ST HV f0 f1 f2 f3 e0 e1 e2 e3 n3 n5 l3 l5 hBw
        go_wp2_with fail
        refine GK.out.mono ?_
        rintro e w2 ⟨p1, c1, p2, c2, rfl, u1, u2, n1, n2⟩
        have b2 := n1.below
        obtain ⟨wB, hwB⟩ : ∃ wB, w2.alloc (.cells #[.bool gk.s, .slice p1 gk.n c1, .slice p2 gk.m c2] 31) = wB := ⟨_, rfl⟩
        have hnew := heap_alloc_new w2 (.cells #[.bool gk.s, .slice p1 gk.n c1, .slice p2 gk.m c2] 31)
        have b3 := below_alloc (w := w2) (.cells #[.bool gk.s, .slice p1 gk.n c1, .slice p2 gk.m c2] 31)
        rw [hwB] at hnew b3
        have bT : Below wr.heap.size wr wB := b2.trans (b3.mono b2.size)
        have hO3 := own_below hO bT
        have s2 := b2.size
        have s3 := b3.size
        have sk := hBk.size
        have hbB : wv.heap.size ≤ wB.heap.size := by omega
        have hbl : (k + 1) * 56 ≤ 140737488355328 := by omega
        have hk2 : k + 1 ≤ maxLen := by simp only [maxLen]; omega
        go_wp2_with (at_builtin; (try rw [hwB]); refine wpList_append_lies _ (by rfl) _ _ _ (by rfl) wv.heap.size 31 i0 _ 3 56 Tryz.underlying36 hi0 hz0 hz1 hz2 rfl (by omega) u7 k (cellsV q k) (by rfl) hO3 ⟨w2.heap.size, 0, none⟩ 1 1 [.bool gk.s, .slice p1 gk.n c1, .slice p2 gk.m c2] (by rfl) (by rfl) (World.news_of_block (cs := #[.bool gk.s, .slice p1 gk.n c1, .slice p2 gk.m c2]) (t := 31) (fr := (0, 0)) hnew) (by simp [Value.oneCell']) (by omega) hk2 hbl hbB wB.heap.size rfl ?_)
        intro gb cap w9 hown4 hgrow hat hlt4
        have I1 := hide' (CpInv.push (g := g) (hBk.trans (bT.mono hBk.size)) (fun i hi => ⟨(hq i hi).1.later bT, (hq i hi).2⟩) (fun b hb => (hrow b hb).1) ⟨gk.s, p1, gk.n, c1, gk.X, p2, gk.m, c2, gk.Y⟩ ⟨n1.seg.later b3, u1, GB.out.1, n2.seg.later b3, u2, GB.out.2⟩ (by rw [hgk]; exact ⟨rfl, rfl, rfl⟩)
          (fun b hb => by
            have h1 := (hrow b hb).2
            refine ⟨fun hn ad e => ?_, fun hn ad e => ?_⟩
            · obtain ⟨c, o, e', hl, _⟩ := n1.fresh hn
              have e2 : p1 = some ad := e
              rw [e'] at e2
              obtain rfl := Option.some.inj e2
              show c ≠ b
              omega
            · obtain ⟨c, o, e', hl, _⟩ := n2.fresh hn
              have e2 : p2 = some ad := e
              rw [e'] at e2
              obtain rfl := Option.some.inj e2
              show c ≠ b
              omega) hown4 hgrow hat)
        clear hown4 hgrow hat hlt4 hq hO hO3 hrow n1 n2 hnew b2 b3 bT s2 s3 sk hbB hbl hk2 hBk h0 h1 h2 GK hgk
        go_wp2
        go_roundw
        case rel => exact ⟨k + 1, by omega, by go_num, I1.out⟩
        case measure => simp [intOf]; omega
      · obtain rfl : k = m := by omega
        have i1 : ¬ (k : Int) < (k : Int) := by omega
        obtain ⟨gb, cap, q, rfl, hgb, hrw, hcp, hR, hq⟩ := hI.open (by omega)
        have hBk := hI.below
        replace hB := hB.trans (hBk.mono hB.size)
        replace f0 := below_cell hBk f0
        replace f1 := below_cell hBk f1
        replace f2 := below_cell hBk f2
        replace f3 := below_cell hBk f3
        replace e0 := below_cell hBk e0
        replace e1 := below_cell hBk e1
        replace e2 := below_cell hBk e2
        replace e3 := below_cell hBk e3
        have m3 : c3 < gb := by omega
        have m5 : c5 < gb := by omega
        have mb : w.heap.size ≤ gb := by omega
        clear hI hBk GM GN HV
        have RO : RatsO wr gb k q := ⟨hR, fun i hi => (hq i hi).1⟩
        have HQ := hide' (fun i (hi : i < k) => (hq i hi).2)
        clear hR hq
        go_wp2_with fail
        have bD : Below wr.heap.size wr wr.drew := (Below.refl _ _).drew
        have ke0 := below_cell bD e0
        have ke1 := below_cell bD e1
        have ke2 := below_cell bD e2
        have ke3 := below_cell bD e3
        replace hB := hB.trans (bD.mono hB.size)
        replace RO := RO.later bD
        replace f0 := below_cell bD f0
        replace f1 := below_cell bD f1
        replace f2 := below_cell bD f2
        replace f3 := below_cell bD f3
        replace hrw := below_row bD hrw
        refine wp_region_held_drew (S := fun w' => w'.cell? ⟨c5, 0, none⟩ = some (.slice b G.length cb) ∧ w'.cell? ⟨c5, 1, none⟩ = some (.bool E.s) ∧ w'.cell? ⟨c5, 2, none⟩ = some (.slice E.a E.n E.c) ∧ w'.cell? ⟨c5, 3, none⟩ = some (.slice E.b E.m E.e)) (by kernel_rfl) ⟨ke0, ke1, ke2, ke3⟩ (fun hHeld => ?_)
        clear ke0 ke1 ke2 ke3
        generalize wr.drew = w21 at bD RO f0 f1 f2 f3 hrw hB hHeld ⊢
        clear bD e0 e1 e2 e3
        refine take' 0 (v := ?_) rfl (by kernel_rfl) (by kernel_rfl) (by kernel_rfl) (fun _ _ _ h => h) (Or.inl ⟨by rfl, ?_⟩) (by assumption) ?_
        rotate_left
        · intro w9 hSw
          go_simp
          first | done | with_reducible rfl
        simp only [Act.put, List.setIfInBounds_toArray, List.set_cons_zero, List.set_cons_succ]
        refine take' 1 (v := ?_) rfl (by kernel_rfl) (by kernel_rfl) (by kernel_rfl) (fun _ _ _ h => h) (Or.inl ⟨by rfl, ?_⟩) (by assumption) ?_
        rotate_left
        · intro w9 hSw
          go_simp
          first | done | with_reducible rfl
        simp only [Act.put, List.setIfInBounds_toArray, List.set_cons_zero, List.set_cons_succ]
        refine take' 2 (v := ?_) rfl (by kernel_rfl) (by kernel_rfl) (by kernel_rfl) (fun _ _ _ h => h) (Or.inl ⟨by rfl, ?_⟩) (by assumption) ?_
        rotate_left
        · intro w9 hSw
          go_simp
          first | done | with_reducible rfl
        simp only [Act.put, List.setIfInBounds_toArray, List.set_cons_zero, List.set_cons_succ]
        refine take' 3 (v := ?_) rfl (by kernel_rfl) (by kernel_rfl) (by kernel_rfl) (fun _ _ _ h => h) (Or.inl ⟨by rfl, ?_⟩) (by assumption) ?_
        rotate_left
        · intro w9 hSw
          go_simp
          first | done | with_reducible rfl
        simp only [Act.put, List.setIfInBounds_toArray, List.set_cons_zero, List.set_cons_succ]
        refine take' 4 (v := ?_) rfl (by kernel_rfl) (by kernel_rfl) (by kernel_rfl) (fun _ _ _ h => h) (Or.inl ⟨by rfl, ?_⟩) (by assumption) ?_
        rotate_left
        · intro w9 hSw
          go_simp
          first | done | with_reducible rfl
        simp only [Act.put, List.setIfInBounds_toArray, List.set_cons_zero, List.set_cons_succ]
        refine take' 6 (v := ?_) rfl (by kernel_rfl) (by kernel_rfl) (by kernel_rfl) (fun _ _ _ h => h) (Or.inl ⟨by rfl, ?_⟩) (by assumption) ?_
        rotate_left
        · intro w9 hSw
          go_simp
          first | done | with_reducible rfl
        simp only [Act.put, List.setIfInBounds_toArray, List.set_cons_zero, List.set_cons_succ]
        refine take' 7 (v := ?_) rfl (by kernel_rfl) (by kernel_rfl) (by kernel_rfl) (fun _ _ _ h => h) (Or.inl ⟨by rfl, ?_⟩) (by assumption) ?_
        rotate_left
        · intro w9 hSw
          go_simp
          first | done | with_reducible rfl
        simp only [Act.put, List.setIfInBounds_toArray, List.set_cons_zero, List.set_cons_succ]
        refine wpAnyH_ready (rs := [5]) (by kernel_rfl) (by simp) ?_
        refine cons' rfl (fun KK hKK => ?_)
        go_simp
        refine (GVg.out _ hB).mono ?_
        rintro e w22 ⟨p1, q1, rfl, b1, g1, g2⟩
        have bC := b1
        replace hB := hB.trans (bC.mono hB.size)
        replace RO := RO.later bC
        replace f0 := below_cell bC f0
        replace f1 := below_cell bC f1
        replace f2 := below_cell bC f2
        replace f3 := below_cell bC f3
        replace hrw := below_row bC hrw
        replace hHeld := (⟨below_cell bC hHeld.1, below_cell bC hHeld.2.1, below_cell bC hHeld.2.2.1, below_cell bC hHeld.2.2.2⟩ : _ ∧ _ ∧ _ ∧ _)
        clear bC
        go_wp2_with fail
        clear b1
        refine hKK.out _ _ hHeld ?_
        clear hHeld
        intro hHeld
        clear hKK KK
        try simp only [Act.put, List.setIfInBounds_toArray, List.set_cons_zero, List.set_cons_succ]
        refine wpAnyH_ready (rs := [8]) (by kernel_rfl) (by simp) ?_
        refine cons' rfl (fun KK hKK => ?_)
        go_simp
        refine (GA1.out _ hB p1 q1 g1 g2).mono ?_
        rintro e w23 ⟨p2, q2, rfl, b2, g3, g4⟩
        have bC := b2
        replace hB := hB.trans (bC.mono hB.size)
        replace RO := RO.later bC
        replace g1 := g1.later bC
        replace g2 := g2.later bC
        replace f0 := below_cell bC f0
        replace f1 := below_cell bC f1
        replace f2 := below_cell bC f2
        replace f3 := below_cell bC f3
        replace hrw := below_row bC hrw
        replace hHeld := (⟨below_cell bC hHeld.1, below_cell bC hHeld.2.1, below_cell bC hHeld.2.2.1, below_cell bC hHeld.2.2.2⟩ : _ ∧ _ ∧ _ ∧ _)
        clear bC
        go_wp2_with fail
        clear b2 g1 g2
        refine hKK.out _ _ hHeld ?_
        clear hHeld
        intro hHeld
        clear hKK KK
        try simp only [Act.put, List.setIfInBounds_toArray, List.set_cons_zero, List.set_cons_succ]
        refine take' 9 (v := ?_) rfl (by kernel_rfl) (by kernel_rfl) (by kernel_rfl) (fun _ _ _ h => h) (Or.inl ⟨by rfl, ?_⟩) (by assumption) ?_
        rotate_left
        · intro w9 hSw
          go_simp
          first | done | with_reducible rfl
        simp only [Act.put, List.setIfInBounds_toArray, List.set_cons_zero, List.set_cons_succ]
        refine wpAnyH_ready (rs := [10]) (by kernel_rfl) (by simp) ?_
        refine cons' rfl (fun KK hKK => ?_)
        have hr9 : (RatV.of TT.num TT.den p2 q2).ok w23 := ⟨g3, Nat.le_refl _, Nat.le_trans ST.out.1 (by omega), g4, Nat.le_refl _, Nat.le_trans ST.out.2 (by omega)⟩
        obtain ⟨P1, P2, P3⟩ := rats_put RO.1 RO.2 htm hr9
        have P4 := fun (c o : Nat) (hc9 : c < gb) => put3_far (w := w23) (b := gb) (o := t * 3) (u0 := .bool (ng TT.num)) (u1 := .slice p2 (ln (am TT.num)) (ln (am TT.num))) (u2 := .slice q2 (ln TT.den) (ln TT.den)) (c := c) (q := o) (Or.inl (by omega))
        have P5 := below_put3 (o := t * 3) (u0 := .bool (ng TT.num)) (u1 := .slice p2 (ln (am TT.num)) (ln (am TT.num))) (u2 := .slice q2 (ln TT.den) (ln TT.den)) hB mb
        obtain ⟨bb9, of9, ee9, _, cc9⟩ := RO.1 (by omega)
        have ee9 := Option.some.inj ee9
        simp only [Addr.mk.injEq, and_true] at ee9
        obtain ⟨rfl, rfl⟩ := ee9
        obtain ⟨z0, z1, z2⟩ := cc9 t htm
        clear cc9
        rw [Nat.zero_add] at z0 z1 z2
        have fz := fun o => hrw.frozen o
        replace f0 := (P4 c3 0 m3).trans f0
        replace f1 := (P4 c3 1 m3).trans f1
        replace f2 := (P4 c3 2 m3).trans f2
        replace f3 := (P4 c3 3 m3).trans f3
        have hH2 := (⟨(P4 c5 0 m5).trans hHeld.1, (P4 c5 1 m5).trans hHeld.2.1, (P4 c5 2 m5).trans hHeld.2.2.1, (P4 c5 3 m5).trans hHeld.2.2.2⟩ : _ ∧ _ ∧ _ ∧ _)
        have P1x : RatsO (put3 w23 gb (t * 3) (.bool (ng TT.num)) (.slice p2 (ln (am TT.num)) (ln (am TT.num))) (.slice q2 (ln TT.den) (ln TT.den))) gb k (fun i => if i = t then RatV.of TT.num TT.den p2 q2 else q i) := ⟨P1, P2⟩
        clear P4 P3 RO P1 P2 ee9
        obtain ⟨wS, hwS⟩ : ∃ wS, put3 w23 gb (t * 3) (.bool (ng TT.num)) (.slice p2 (ln (am TT.num)) (ln (am TT.num))) (.slice q2 (ln TT.den) (ln TT.den)) = wS := ⟨_, rfl⟩
        rw [hwS] at P1x P5 f0 f1 f2 f3 hH2
        unfold put3 at hwS
        go_simp
        try rw [hwS]
        clear hwS z0 z1 z2 fz hB g3 g4 hr9
        have hB := P5
        clear P5
        refine hKK.out _ _ hH2 ?_
        clear hHeld
        intro hHeld
        clear hKK KK
        try simp only [Act.put, List.setIfInBounds_toArray, List.set_cons_zero, List.set_cons_succ]
        clear hH2 hrw
        refine wpAnyH_done (by kernel_rfl) ?_ _
        have e0 := hHeld.1
        have e1 := hHeld.2.1
        have e2 := hHeld.2.2.1
        have e3 := hHeld.2.2.2
        clear hHeld GVg GA1
        go_wp2_with fail
        refine (GS.out _ hB).mono ?_
        rintro e w24 ⟨a4, c4, R4, p4, q4, rfl, b4, s4, E4, F4, g1, g2⟩
        replace E4 : Ents w24 R4 := E4
        replace P1x := P1x.later b4
        replace f0 := below_cell b4 f0
        replace f1 := below_cell b4 f1
        replace f2 := below_cell b4 f2
        replace f3 := below_cell b4 f3
        replace hB := hB.trans (b4.mono hB.size)
        clear b4 GS e0 e1 e2 e3
        obtain ⟨wE, hwE⟩ : ∃ wE, w24.alloc (.cells #[.slice a4 R4.length c4, .bool (ng SC.num), .slice p4 (ln (am SC.num)) (ln (am SC.num)), .slice q4 (ln SC.den) (ln SC.den)] 33) = wE := ⟨_, rfl⟩
        have bE : Below w24.heap.size w24 wE := by subst hwE; exact below_alloc _
        have y0 : wE.cell? ⟨w24.heap.size, 0, none⟩ = some (.slice a4 R4.length c4) := by subst hwE; go_simp
        have y1 : wE.cell? ⟨w24.heap.size, 1, none⟩ = some (.bool (ng SC.num)) := by subst hwE; go_simp
        have y2 : wE.cell? ⟨w24.heap.size, 2, none⟩ = some (.slice p4 (ln (am SC.num)) (ln (am SC.num))) := by subst hwE; go_simp
        have y3 : wE.cell? ⟨w24.heap.size, 3, none⟩ = some (.slice q4 (ln SC.den) (ln SC.den)) := by subst hwE; go_simp
        replace P1x := P1x.later bE
        replace s4 := s4.later bE
        replace E4 := E4.later bE
        replace g1 := g1.later bE
        replace g2 := g2.later bE
        replace f0 := below_cell bE f0
        replace f1 := below_cell bE f1
        replace f2 := below_cell bE f2
        replace f3 := below_cell bE f3
        replace hB := hB.trans (bE.mono hB.size)
        clear bE
        go_upto_region 11 with fail
        clear hwE
        obtain ⟨cS, hcS⟩ : ∃ c, w24.heap.size = c := ⟨_, rfl⟩
        rw [hcS] at y0 y1 y2 y3 ⊢
        clear hcS
        go_cut [10] from 69 to 75 (fun s9 wx => ∃ wh9 c p q, wh9 = wx ∧ s9 = .pointer (some ⟨c, 0, none⟩) ∧ Thr wx c (.bool (ng LE.num)) (.slice p (ln (am LE.num)) (ln (am LE.num))) (.slice q (ln LE.den) (ln LE.den)) ∧ Below wE.heap.size wE wx ∧ Seg wx p (am LE.num) (ln (am LE.num)) ∧ Seg wx q LE.den (ln LE.den))
        case first =>
          have bT : Below wE.heap.size wE wE := Below.refl _ _
          have hhl : cS < wE.heap.size := World.block_lt_of_cell? wE ⟨cS, 0, none⟩ y0
          have bD : Below wE.heap.size wE wE.drew := (Below.refl _ _).drew
          have ky0 := below_cell bD y0
          have ky1 := below_cell bD y1
          have ky2 := below_cell bD y2
          have ky3 := below_cell bD y3
          replace bT := bT.trans (bD.mono bT.size)
          replace hB := hB.trans (bD.mono hB.size)
          replace s4 := s4.later bD
          replace E4 := E4.later bD
          replace g1 := g1.later bD
          replace g2 := g2.later bD
          refine wp_region_held_drew (S := fun w' => w'.cell? ⟨cS, 0, none⟩ = some (.slice a4 R4.length c4) ∧ w'.cell? ⟨cS, 1, none⟩ = some (.bool (ng SC.num)) ∧ w'.cell? ⟨cS, 2, none⟩ = some (.slice p4 (ln (am SC.num)) (ln (am SC.num))) ∧ w'.cell? ⟨cS, 3, none⟩ = some (.slice q4 (ln SC.den) (ln SC.den))) (by kernel_rfl) ⟨ky0, ky1, ky2, ky3⟩ (fun hHeld => ?_)
          clear ky0 ky1 ky2 ky3
          generalize wE.drew = wF0 at bD s4 E4 g1 g2 bT hB hHeld ⊢
          clear bD y0 y1 y2 y3
          refine take' 0 (v := ?_) rfl (by kernel_rfl) (by kernel_rfl) (by kernel_rfl) (fun _ _ _ h => h) (Or.inl ⟨by rfl, ?_⟩) (by assumption) ?_
          rotate_left
          · intro w9 hSw
            go_simp
            first | done | with_reducible rfl
          simp only [Act.put, List.setIfInBounds_toArray, List.set_cons_zero, List.set_cons_succ]
          refine take' 1 (v := ?_) rfl (by kernel_rfl) (by kernel_rfl) (by kernel_rfl) (fun _ _ _ h => h) (Or.inl ⟨by rfl, ?_⟩) (by assumption) ?_
          rotate_left
          · intro w9 hSw
            go_simp
            first | done | with_reducible rfl
          simp only [Act.put, List.setIfInBounds_toArray, List.set_cons_zero, List.set_cons_succ]
          refine take' 2 (v := ?_) rfl (by kernel_rfl) (by kernel_rfl) (by kernel_rfl) (fun _ _ _ h => h) (Or.inl ⟨by rfl, ?_⟩) (by assumption) ?_
          rotate_left
          · intro w9 hSw
            go_simp
            first | done | with_reducible rfl
          simp only [Act.put, List.setIfInBounds_toArray, List.set_cons_zero, List.set_cons_succ]
          refine take' 4 (v := ?_) rfl (by kernel_rfl) (by kernel_rfl) (by kernel_rfl) (fun _ _ _ h => h) (Or.inl ⟨by rfl, ?_⟩) (by assumption) ?_
          rotate_left
          · intro w9 hSw
            go_simp
            first | done | with_reducible rfl
          simp only [Act.put, List.setIfInBounds_toArray, List.set_cons_zero, List.set_cons_succ]
          refine take' 5 (v := ?_) rfl (by kernel_rfl) (by kernel_rfl) (by kernel_rfl) (fun _ _ _ h => h) (Or.inl ⟨by rfl, ?_⟩) (by assumption) ?_
          rotate_left
          · intro w9 hSw
            go_simp
            first | done | with_reducible rfl
          simp only [Act.put, List.setIfInBounds_toArray, List.set_cons_zero, List.set_cons_succ]
          refine wpAnyH_ready (rs := [3, 7]) (by kernel_rfl) (by simp) ?_
          refine consT rfl (fun KK hKK => ?_) ?_
          · skip
            go_simp
            refine (GVs.out _ hB a4 c4 R4 s4 E4 F4).mono ?_
            rintro e wF1 ⟨px, qx, rfl, bV, k1, k2⟩
            have bC := bV
            replace bT := bT.trans (bC.mono bT.size)
            replace hB := hB.trans (bC.mono hB.size)
            replace s4 := s4.later bC
            replace E4 := E4.later bC
            replace g1 := g1.later bC
            replace g2 := g2.later bC
            replace hHeld := (⟨below_cell bC hHeld.1, below_cell bC hHeld.2.1, below_cell bC hHeld.2.2.1, below_cell bC hHeld.2.2.2⟩ : _ ∧ _ ∧ _ ∧ _)
            clear bC
            go_wp2_with fail
            clear bV
            refine hKK.out _ _ hHeld ?_
            clear hHeld
            intro hHeld
            clear hKK KK
            try simp only [Act.put, List.setIfInBounds_toArray, List.set_cons_zero, List.set_cons_succ]
            refine wpAnyH_ready (rs := [6, 7]) (by kernel_rfl) (by simp) ?_
            refine consT rfl (fun KK hKK => ?_) ?_
            · skip
              go_simp
              refine (GA2.out _ px qx p4 q4 k1 k2 g1 g2).mono ?_
              rintro e wF2 ⟨p, q, rfl, bV, k3, k4⟩
              have bC := bV
              replace bT := bT.trans (bC.mono bT.size)
              replace hB := hB.trans (bC.mono hB.size)
              replace s4 := s4.later bC
              replace E4 := E4.later bC
              replace g1 := g1.later bC
              replace g2 := g2.later bC
              replace k1 := k1.later bC
              replace k2 := k2.later bC
              replace hHeld := (⟨below_cell bC hHeld.1, below_cell bC hHeld.2.1, below_cell bC hHeld.2.2.1, below_cell bC hHeld.2.2.2⟩ : _ ∧ _ ∧ _ ∧ _)
              clear bC
              go_wp2_with fail
              clear bV
              refine hKK.out _ _ hHeld ?_
              clear hHeld
              intro hHeld
              clear hKK KK
              try simp only [Act.put, List.setIfInBounds_toArray, List.set_cons_zero, List.set_cons_succ]
              refine wpAnyH_ready (rs := [7]) (by kernel_rfl) (by simp) ?_
              refine cons' rfl (fun KK hKK => ?_)
              go_simp
              have vN : Thr (wF2.alloc (.cells #[.bool false, .slice none 0 0, .slice none 0 0] 31)) wF2.heap.size (.bool false) (.slice none 0 0) (.slice none 0 0) := ⟨⟨by go_simp, by go_simp, by go_simp⟩, row_new wF2 _ 31⟩
              have bA := below_alloc (w := wF2) (.cells #[.bool false, .slice none 0 0, .slice none 0 0] 31)
              have hc9 : wE.heap.size ≤ wF2.heap.size := bT.size
              generalize wF2.alloc (.cells #[.bool false, .slice none 0 0, .slice none 0 0] 31) = wF3 at vN bA ⊢
              replace bT := bT.trans (bA.mono bT.size)
              replace hB := hB.trans (bA.mono hB.size)
              replace s4 := s4.later bA
              replace E4 := E4.later bA
              replace g1 := g1.later bA
              replace g2 := g2.later bA
              replace k1 := k1.later bA
              replace k2 := k2.later bA
              replace k3 := k3.later bA
              replace k4 := k4.later bA
              replace hHeld := (⟨below_cell bA hHeld.1, below_cell bA hHeld.2.1, below_cell bA hHeld.2.2.1, below_cell bA hHeld.2.2.2⟩ : _ ∧ _ ∧ _ ∧ _)
              clear bA
              refine hKK.out _ _ hHeld ?_
              clear hHeld
              intro hHeld
              clear hKK KK
              try simp only [Act.put, List.setIfInBounds_toArray, List.set_cons_zero, List.set_cons_succ]
              obtain ⟨cc, hcc⟩ : ∃ cc, wF2.heap.size = cc := ⟨_, rfl⟩
              rw [hcc] at vN hc9
              try rw [hcc]
              clear hcc
              refine wpAnyH_ready (rs := [8]) (by kernel_rfl) (by simp) ?_
              refine cons' rfl (fun KK hKK => ?_)
              have fz := fun o => vN.2.frozen o
              replace k3 := vN.seg (u0 := .bool (ng LE.num)) (u1 := .slice p (ln (am LE.num)) (ln (am LE.num))) (u2 := .slice q (ln LE.den) (ln LE.den)) (by simp) (by simp) (by simp) k3
              replace k4 := vN.seg (u0 := .bool (ng LE.num)) (u1 := .slice p (ln (am LE.num)) (ln (am LE.num))) (u2 := .slice q (ln LE.den) (ln LE.den)) (by simp) (by simp) (by simp) k4
              replace bT := below_set3 (u0 := .bool (ng LE.num)) (u1 := .slice p (ln (am LE.num)) (ln (am LE.num))) (u2 := .slice q (ln LE.den) (ln LE.den)) bT hc9
              have hH2 := (⟨(set3_far (w := wF3) (c := cc) (b := cS) (o := 0) (u0 := .bool (ng LE.num)) (u1 := .slice p (ln (am LE.num)) (ln (am LE.num))) (u2 := .slice q (ln LE.den) (ln LE.den)) (by omega)).trans hHeld.1, (set3_far (w := wF3) (c := cc) (b := cS) (o := 1) (u0 := .bool (ng LE.num)) (u1 := .slice p (ln (am LE.num)) (ln (am LE.num))) (u2 := .slice q (ln LE.den) (ln LE.den)) (by omega)).trans hHeld.2.1, (set3_far (w := wF3) (c := cc) (b := cS) (o := 2) (u0 := .bool (ng LE.num)) (u1 := .slice p (ln (am LE.num)) (ln (am LE.num))) (u2 := .slice q (ln LE.den) (ln LE.den)) (by omega)).trans hHeld.2.2.1, (set3_far (w := wF3) (c := cc) (b := cS) (o := 3) (u0 := .bool (ng LE.num)) (u1 := .slice p (ln (am LE.num)) (ln (am LE.num))) (u2 := .slice q (ln LE.den) (ln LE.den)) (by omega)).trans hHeld.2.2.2⟩ : _ ∧ _ ∧ _ ∧ _)
              have vN2 := vN.put (u0 := .bool (ng LE.num)) (u1 := .slice p (ln (am LE.num)) (ln (am LE.num))) (u2 := .slice q (ln LE.den) (ln LE.den))
              have z0 := vN.1.1
              have z1 := vN.1.2.1
              have z2 := vN.1.2.2
              go_simp
              clear z0 z1 z2 vN fz
              refine hKK.out _ _ hH2 ?_
              clear hHeld
              intro hHeld
              clear hKK KK
              try simp only [Act.put, List.setIfInBounds_toArray, List.set_cons_zero, List.set_cons_succ]
              clear hH2
              refine wpAnyH_done (by kernel_rfl) ?_ _
              go_wp2_with fail
              go_meet
              exact ⟨_, cc, p, q, rfl, rfl, vN2, bT, k3, k4⟩
            refine consT rfl (fun KK hKK => ?_) ?_
            · skip
              go_simp
              have vN : Thr (wF1.alloc (.cells #[.bool false, .slice none 0 0, .slice none 0 0] 31)) wF1.heap.size (.bool false) (.slice none 0 0) (.slice none 0 0) := ⟨⟨by go_simp, by go_simp, by go_simp⟩, row_new wF1 _ 31⟩
              have bA := below_alloc (w := wF1) (.cells #[.bool false, .slice none 0 0, .slice none 0 0] 31)
              have hc9 : wE.heap.size ≤ wF1.heap.size := bT.size
              generalize wF1.alloc (.cells #[.bool false, .slice none 0 0, .slice none 0 0] 31) = wF4 at vN bA ⊢
              replace bT := bT.trans (bA.mono bT.size)
              replace hB := hB.trans (bA.mono hB.size)
              replace s4 := s4.later bA
              replace E4 := E4.later bA
              replace g1 := g1.later bA
              replace g2 := g2.later bA
              replace k1 := k1.later bA
              replace k2 := k2.later bA
              replace hHeld := (⟨below_cell bA hHeld.1, below_cell bA hHeld.2.1, below_cell bA hHeld.2.2.1, below_cell bA hHeld.2.2.2⟩ : _ ∧ _ ∧ _ ∧ _)
              clear bA
              refine hKK.out _ _ hHeld ?_
              clear hHeld
              intro hHeld
              clear hKK KK
              try simp only [Act.put, List.setIfInBounds_toArray, List.set_cons_zero, List.set_cons_succ]
              obtain ⟨cc, hcc⟩ : ∃ cc, wF1.heap.size = cc := ⟨_, rfl⟩
              rw [hcc] at vN hc9
              try rw [hcc]
              clear hcc
              refine wpAnyH_ready (rs := [6]) (by kernel_rfl) (by simp) ?_
              refine cons' rfl (fun KK hKK => ?_)
              go_simp
              refine (GA2.out _ px qx p4 q4 k1 k2 g1 g2).mono ?_
              rintro e wF5 ⟨p, q, rfl, bV, k3, k4⟩
              have bC := bV
              replace bT := bT.trans (bC.mono bT.size)
              replace hB := hB.trans (bC.mono hB.size)
              replace s4 := s4.later bC
              replace E4 := E4.later bC
              replace g1 := g1.later bC
              replace g2 := g2.later bC
              replace k1 := k1.later bC
              replace k2 := k2.later bC
              replace vN := vN.later bC
              replace hHeld := (⟨below_cell bC hHeld.1, below_cell bC hHeld.2.1, below_cell bC hHeld.2.2.1, below_cell bC hHeld.2.2.2⟩ : _ ∧ _ ∧ _ ∧ _)
              clear bC
              go_wp2_with fail
              clear bV
              refine hKK.out _ _ hHeld ?_
              clear hHeld
              intro hHeld
              clear hKK KK
              try simp only [Act.put, List.setIfInBounds_toArray, List.set_cons_zero, List.set_cons_succ]
              refine wpAnyH_ready (rs := [8]) (by kernel_rfl) (by simp) ?_
              refine cons' rfl (fun KK hKK => ?_)
              have fz := fun o => vN.2.frozen o
              replace k3 := vN.seg (u0 := .bool (ng LE.num)) (u1 := .slice p (ln (am LE.num)) (ln (am LE.num))) (u2 := .slice q (ln LE.den) (ln LE.den)) (by simp) (by simp) (by simp) k3
              replace k4 := vN.seg (u0 := .bool (ng LE.num)) (u1 := .slice p (ln (am LE.num)) (ln (am LE.num))) (u2 := .slice q (ln LE.den) (ln LE.den)) (by simp) (by simp) (by simp) k4
              replace bT := below_set3 (u0 := .bool (ng LE.num)) (u1 := .slice p (ln (am LE.num)) (ln (am LE.num))) (u2 := .slice q (ln LE.den) (ln LE.den)) bT hc9
              have hH2 := (⟨(set3_far (w := wF5) (c := cc) (b := cS) (o := 0) (u0 := .bool (ng LE.num)) (u1 := .slice p (ln (am LE.num)) (ln (am LE.num))) (u2 := .slice q (ln LE.den) (ln LE.den)) (by omega)).trans hHeld.1, (set3_far (w := wF5) (c := cc) (b := cS) (o := 1) (u0 := .bool (ng LE.num)) (u1 := .slice p (ln (am LE.num)) (ln (am LE.num))) (u2 := .slice q (ln LE.den) (ln LE.den)) (by omega)).trans hHeld.2.1, (set3_far (w := wF5) (c := cc) (b := cS) (o := 2) (u0 := .bool (ng LE.num)) (u1 := .slice p (ln (am LE.num)) (ln (am LE.num))) (u2 := .slice q (ln LE.den) (ln LE.den)) (by omega)).trans hHeld.2.2.1, (set3_far (w := wF5) (c := cc) (b := cS) (o := 3) (u0 := .bool (ng LE.num)) (u1 := .slice p (ln (am LE.num)) (ln (am LE.num))) (u2 := .slice q (ln LE.den) (ln LE.den)) (by omega)).trans hHeld.2.2.2⟩ : _ ∧ _ ∧ _ ∧ _)
              have vN2 := vN.put (u0 := .bool (ng LE.num)) (u1 := .slice p (ln (am LE.num)) (ln (am LE.num))) (u2 := .slice q (ln LE.den) (ln LE.den))
              have z0 := vN.1.1
              have z1 := vN.1.2.1
              have z2 := vN.1.2.2
              go_simp
              clear z0 z1 z2 vN fz
              refine hKK.out _ _ hH2 ?_
              clear hHeld
              intro hHeld
              clear hKK KK
              try simp only [Act.put, List.setIfInBounds_toArray, List.set_cons_zero, List.set_cons_succ]
              clear hH2
              refine wpAnyH_done (by kernel_rfl) ?_ _
              go_wp2_with fail
              go_meet
              exact ⟨_, cc, p, q, rfl, rfl, vN2, bT, k3, k4⟩
            exact AllReadyH.nil
          refine consT rfl (fun KK hKK => ?_) ?_
          · skip
            go_simp
            have vN : Thr (wF0.alloc (.cells #[.bool false, .slice none 0 0, .slice none 0 0] 31)) wF0.heap.size (.bool false) (.slice none 0 0) (.slice none 0 0) := ⟨⟨by go_simp, by go_simp, by go_simp⟩, row_new wF0 _ 31⟩
            have bA := below_alloc (w := wF0) (.cells #[.bool false, .slice none 0 0, .slice none 0 0] 31)
            have hc9 : wE.heap.size ≤ wF0.heap.size := bT.size
            generalize wF0.alloc (.cells #[.bool false, .slice none 0 0, .slice none 0 0] 31) = wF6 at vN bA ⊢
            replace bT := bT.trans (bA.mono bT.size)
            replace hB := hB.trans (bA.mono hB.size)
            replace s4 := s4.later bA
            replace E4 := E4.later bA
            replace g1 := g1.later bA
            replace g2 := g2.later bA
            replace hHeld := (⟨below_cell bA hHeld.1, below_cell bA hHeld.2.1, below_cell bA hHeld.2.2.1, below_cell bA hHeld.2.2.2⟩ : _ ∧ _ ∧ _ ∧ _)
            clear bA
            refine hKK.out _ _ hHeld ?_
            clear hHeld
            intro hHeld
            clear hKK KK
            try simp only [Act.put, List.setIfInBounds_toArray, List.set_cons_zero, List.set_cons_succ]
            obtain ⟨cc, hcc⟩ : ∃ cc, wF0.heap.size = cc := ⟨_, rfl⟩
            rw [hcc] at vN hc9
            try rw [hcc]
            clear hcc
            refine wpAnyH_ready (rs := [3]) (by kernel_rfl) (by simp) ?_
            refine cons' rfl (fun KK hKK => ?_)
            go_simp
            refine (GVs.out _ hB a4 c4 R4 s4 E4 F4).mono ?_
            rintro e wF7 ⟨px, qx, rfl, bV, k1, k2⟩
            have bC := bV
            replace bT := bT.trans (bC.mono bT.size)
            replace hB := hB.trans (bC.mono hB.size)
            replace s4 := s4.later bC
            replace E4 := E4.later bC
            replace g1 := g1.later bC
            replace g2 := g2.later bC
            replace vN := vN.later bC
            replace hHeld := (⟨below_cell bC hHeld.1, below_cell bC hHeld.2.1, below_cell bC hHeld.2.2.1, below_cell bC hHeld.2.2.2⟩ : _ ∧ _ ∧ _ ∧ _)
            clear bC
            go_wp2_with fail
            clear bV
            refine hKK.out _ _ hHeld ?_
            clear hHeld
            intro hHeld
            clear hKK KK
            try simp only [Act.put, List.setIfInBounds_toArray, List.set_cons_zero, List.set_cons_succ]
            refine wpAnyH_ready (rs := [6]) (by kernel_rfl) (by simp) ?_
            refine cons' rfl (fun KK hKK => ?_)
            go_simp
            refine (GA2.out _ px qx p4 q4 k1 k2 g1 g2).mono ?_
            rintro e wF8 ⟨p, q, rfl, bV, k3, k4⟩
            have bC := bV
            replace bT := bT.trans (bC.mono bT.size)
            replace hB := hB.trans (bC.mono hB.size)
            replace s4 := s4.later bC
            replace E4 := E4.later bC
            replace g1 := g1.later bC
            replace g2 := g2.later bC
            replace vN := vN.later bC
            replace k1 := k1.later bC
            replace k2 := k2.later bC
            replace hHeld := (⟨below_cell bC hHeld.1, below_cell bC hHeld.2.1, below_cell bC hHeld.2.2.1, below_cell bC hHeld.2.2.2⟩ : _ ∧ _ ∧ _ ∧ _)
            clear bC
            go_wp2_with fail
            clear bV
            refine hKK.out _ _ hHeld ?_
            clear hHeld
            intro hHeld
            clear hKK KK
            try simp only [Act.put, List.setIfInBounds_toArray, List.set_cons_zero, List.set_cons_succ]
            refine wpAnyH_ready (rs := [8]) (by kernel_rfl) (by simp) ?_
            refine cons' rfl (fun KK hKK => ?_)
            have fz := fun o => vN.2.frozen o
            replace k3 := vN.seg (u0 := .bool (ng LE.num)) (u1 := .slice p (ln (am LE.num)) (ln (am LE.num))) (u2 := .slice q (ln LE.den) (ln LE.den)) (by simp) (by simp) (by simp) k3
            replace k4 := vN.seg (u0 := .bool (ng LE.num)) (u1 := .slice p (ln (am LE.num)) (ln (am LE.num))) (u2 := .slice q (ln LE.den) (ln LE.den)) (by simp) (by simp) (by simp) k4
            replace bT := below_set3 (u0 := .bool (ng LE.num)) (u1 := .slice p (ln (am LE.num)) (ln (am LE.num))) (u2 := .slice q (ln LE.den) (ln LE.den)) bT hc9
            have hH2 := (⟨(set3_far (w := wF8) (c := cc) (b := cS) (o := 0) (u0 := .bool (ng LE.num)) (u1 := .slice p (ln (am LE.num)) (ln (am LE.num))) (u2 := .slice q (ln LE.den) (ln LE.den)) (by omega)).trans hHeld.1, (set3_far (w := wF8) (c := cc) (b := cS) (o := 1) (u0 := .bool (ng LE.num)) (u1 := .slice p (ln (am LE.num)) (ln (am LE.num))) (u2 := .slice q (ln LE.den) (ln LE.den)) (by omega)).trans hHeld.2.1, (set3_far (w := wF8) (c := cc) (b := cS) (o := 2) (u0 := .bool (ng LE.num)) (u1 := .slice p (ln (am LE.num)) (ln (am LE.num))) (u2 := .slice q (ln LE.den) (ln LE.den)) (by omega)).trans hHeld.2.2.1, (set3_far (w := wF8) (c := cc) (b := cS) (o := 3) (u0 := .bool (ng LE.num)) (u1 := .slice p (ln (am LE.num)) (ln (am LE.num))) (u2 := .slice q (ln LE.den) (ln LE.den)) (by omega)).trans hHeld.2.2.2⟩ : _ ∧ _ ∧ _ ∧ _)
            have vN2 := vN.put (u0 := .bool (ng LE.num)) (u1 := .slice p (ln (am LE.num)) (ln (am LE.num))) (u2 := .slice q (ln LE.den) (ln LE.den))
            have z0 := vN.1.1
            have z1 := vN.1.2.1
            have z2 := vN.1.2.2
            go_simp
            clear z0 z1 z2 vN fz
            refine hKK.out _ _ hH2 ?_
            clear hHeld
            intro hHeld
            clear hKK KK
            try simp only [Act.put, List.setIfInBounds_toArray, List.set_cons_zero, List.set_cons_succ]
            clear hH2
            refine wpAnyH_done (by kernel_rfl) ?_ _
            go_wp2_with fail
            go_meet
            exact ⟨_, cc, p, q, rfl, rfl, vN2, bT, k3, k4⟩
          exact AllReadyH.nil
        case rest =>
          clear GVs GA2 s4 E4 F4 g1 g2 y0 y1 y2 y3
          obtain ⟨wz, c10, pl, ql, hwz, rfl, ⟨⟨x0, x1, x2⟩, _⟩, bT, g1, g2⟩ := hcut
          subst hwz
          replace P1x := P1x.later bT
          replace f0 := below_cell bT f0
          replace f1 := below_cell bT f1
          replace f2 := below_cell bT f2
          replace f3 := below_cell bT f3
          replace hB := hB.trans (bT.mono hB.size)
          clear bT
          obtain ⟨GO1, GO2, GO3⟩ := GO.out wz hB gb cap q (RatV.of TT.num TT.den p2 q2) hcp P1x.1 P1x.2 HQ.out (val_ofR TT p2 q2) ⟨ST.out.1, ST.out.2⟩
          clear GO1
          have GV3 := hide' (fun w' (hb9 : Below w.heap.size w w') (P : RatsO w' gb k (fun i => if i = t then RatV.of TT.num TT.den p2 q2 else q i)) => (GO.out w' hb9 gb cap q (RatV.of TT.num TT.den p2 q2) hcp P.1 P.2 HQ.out (val_ofR TT p2 q2) ⟨ST.out.1, ST.out.2⟩).1)
          obtain ⟨VO, hVO⟩ : ∃ v, vl (rho (fun i => if i = t then RatV.of TT.num TT.den p2 q2 else q i) k) (fo L) = v := ⟨_, rfl⟩
          rw [hVO] at GO2 GO3 GV3
          have GA4' := fun w' hb9 p q => GA3.out w' hb9 VO p q GO2
          rw [← GO3] at GA4'
          have GA4 := hide' GA4'
          clear GA4' GO GA3 HQ ST hVO GO2 GO3
          go_upto_region 12 with fail
          go_cut [11] from 76 to 82 (fun s9 wx => ∃ wh9 c p q, wh9 = wx ∧ s9 = .pointer (some ⟨c, 0, none⟩) ∧ Thr wx c (.bool (ng LE.num)) (.slice p (ln (am LE.num)) (ln (am LE.num))) (.slice q (ln LE.den) (ln LE.den)) ∧ Below wz.heap.size wz wx ∧ Seg wx p (am LE.num) (ln (am LE.num)) ∧ Seg wx q LE.den (ln LE.den))
          case first =>
            have bT : Below wz.heap.size wz wz := Below.refl _ _
            have hhl : c3 < wz.heap.size := World.block_lt_of_cell? wz ⟨c3, 0, none⟩ f0
            have bD : Below wz.heap.size wz wz.drew := (Below.refl _ _).drew
            have kf0 := below_cell bD f0
            have kf1 := below_cell bD f1
            have kf2 := below_cell bD f2
            have kf3 := below_cell bD f3
            replace bT := bT.trans (bD.mono bT.size)
            replace hB := hB.trans (bD.mono hB.size)
            replace P1x := P1x.later bD
            refine wp_region_held_drew (S := fun w' => w'.cell? ⟨c3, 0, none⟩ = some (.slice a L.length ca) ∧ w'.cell? ⟨c3, 1, none⟩ = some (.bool D.s) ∧ w'.cell? ⟨c3, 2, none⟩ = some (.slice D.a D.n D.c) ∧ w'.cell? ⟨c3, 3, none⟩ = some (.slice D.b D.m D.e)) (by kernel_rfl) ⟨kf0, kf1, kf2, kf3⟩ (fun hHeld => ?_)
            clear kf0 kf1 kf2 kf3
            generalize wz.drew = wG0 at bD P1x bT hB hHeld ⊢
            clear bD f0 f1 f2 f3
            refine take' 0 (v := ?_) rfl (by kernel_rfl) (by kernel_rfl) (by kernel_rfl) (fun _ _ _ h => h) (Or.inl ⟨by rfl, ?_⟩) (by assumption) ?_
            rotate_left
            · intro w9 hSw
              go_simp
              first | done | with_reducible rfl
            simp only [Act.put, List.setIfInBounds_toArray, List.set_cons_zero, List.set_cons_succ]
            refine take' 1 (v := ?_) rfl (by kernel_rfl) (by kernel_rfl) (by kernel_rfl) (fun _ _ _ h => h) (Or.inl ⟨by rfl, ?_⟩) (by assumption) ?_
            rotate_left
            · intro w9 hSw
              go_simp
              first | done | with_reducible rfl
            simp only [Act.put, List.setIfInBounds_toArray, List.set_cons_zero, List.set_cons_succ]
            refine take' 2 (v := ?_) rfl (by kernel_rfl) (by kernel_rfl) (by kernel_rfl) (fun _ _ _ h => h) (Or.inl ⟨by rfl, ?_⟩) (by assumption) ?_
            rotate_left
            · intro w9 hSw
              go_simp
              first | done | with_reducible rfl
            simp only [Act.put, List.setIfInBounds_toArray, List.set_cons_zero, List.set_cons_succ]
            refine take' 4 (v := ?_) rfl (by kernel_rfl) (by kernel_rfl) (by kernel_rfl) (fun _ _ _ h => h) (Or.inl ⟨by rfl, ?_⟩) (by assumption) ?_
            rotate_left
            · intro w9 hSw
              go_simp
              first | done | with_reducible rfl
            simp only [Act.put, List.setIfInBounds_toArray, List.set_cons_zero, List.set_cons_succ]
            refine take' 5 (v := ?_) rfl (by kernel_rfl) (by kernel_rfl) (by kernel_rfl) (fun _ _ _ h => h) (Or.inl ⟨by rfl, ?_⟩) (by assumption) ?_
            rotate_left
            · intro w9 hSw
              go_simp
              first | done | with_reducible rfl
            simp only [Act.put, List.setIfInBounds_toArray, List.set_cons_zero, List.set_cons_succ]
            refine wpAnyH_ready (rs := [3, 7]) (by kernel_rfl) (by simp) ?_
            refine consT rfl (fun KK hKK => ?_) ?_
            · skip
              go_simp
              refine (GV3.out _ hB P1x).mono ?_
              rintro e wG1 ⟨px, qx, rfl, bV, k1, k2⟩
              have bC := bV
              replace bT := bT.trans (bC.mono bT.size)
              replace hB := hB.trans (bC.mono hB.size)
              replace P1x := P1x.later bC
              replace hHeld := (⟨below_cell bC hHeld.1, below_cell bC hHeld.2.1, below_cell bC hHeld.2.2.1, below_cell bC hHeld.2.2.2⟩ : _ ∧ _ ∧ _ ∧ _)
              clear bC
              go_wp2_with fail
              clear bV
              refine hKK.out _ _ hHeld ?_
              clear hHeld
              intro hHeld
              clear hKK KK
              try simp only [Act.put, List.setIfInBounds_toArray, List.set_cons_zero, List.set_cons_succ]
              refine wpAnyH_ready (rs := [6, 7]) (by kernel_rfl) (by simp) ?_
              refine consT rfl (fun KK hKK => ?_) ?_
              · skip
                go_simp
                refine (GA4.out _ hB px qx k1 k2).mono ?_
                rintro e wG2 ⟨p, q, rfl, bV, k3, k4⟩
                have bC := bV
                replace bT := bT.trans (bC.mono bT.size)
                replace hB := hB.trans (bC.mono hB.size)
                replace P1x := P1x.later bC
                replace k1 := k1.later bC
                replace k2 := k2.later bC
                replace hHeld := (⟨below_cell bC hHeld.1, below_cell bC hHeld.2.1, below_cell bC hHeld.2.2.1, below_cell bC hHeld.2.2.2⟩ : _ ∧ _ ∧ _ ∧ _)
                clear bC
                go_wp2_with fail
                clear bV
                refine hKK.out _ _ hHeld ?_
                clear hHeld
                intro hHeld
                clear hKK KK
                try simp only [Act.put, List.setIfInBounds_toArray, List.set_cons_zero, List.set_cons_succ]
                refine wpAnyH_ready (rs := [7]) (by kernel_rfl) (by simp) ?_
                refine cons' rfl (fun KK hKK => ?_)
                go_simp
                have vN : Thr (wG2.alloc (.cells #[.bool false, .slice none 0 0, .slice none 0 0] 31)) wG2.heap.size (.bool false) (.slice none 0 0) (.slice none 0 0) := ⟨⟨by go_simp, by go_simp, by go_simp⟩, row_new wG2 _ 31⟩
                have bA := below_alloc (w := wG2) (.cells #[.bool false, .slice none 0 0, .slice none 0 0] 31)
                have hc9 : wz.heap.size ≤ wG2.heap.size := bT.size
                generalize wG2.alloc (.cells #[.bool false, .slice none 0 0, .slice none 0 0] 31) = wG3 at vN bA ⊢
                replace bT := bT.trans (bA.mono bT.size)
                replace hB := hB.trans (bA.mono hB.size)
                replace P1x := P1x.later bA
                replace k1 := k1.later bA
                replace k2 := k2.later bA
                replace k3 := k3.later bA
                replace k4 := k4.later bA
                replace hHeld := (⟨below_cell bA hHeld.1, below_cell bA hHeld.2.1, below_cell bA hHeld.2.2.1, below_cell bA hHeld.2.2.2⟩ : _ ∧ _ ∧ _ ∧ _)
                clear bA
                refine hKK.out _ _ hHeld ?_
                clear hHeld
                intro hHeld
                clear hKK KK
                try simp only [Act.put, List.setIfInBounds_toArray, List.set_cons_zero, List.set_cons_succ]
                obtain ⟨cc, hcc⟩ : ∃ cc, wG2.heap.size = cc := ⟨_, rfl⟩
                rw [hcc] at vN hc9
                try rw [hcc]
                clear hcc
                refine wpAnyH_ready (rs := [8]) (by kernel_rfl) (by simp) ?_
                refine cons' rfl (fun KK hKK => ?_)
                have fz := fun o => vN.2.frozen o
                replace k3 := vN.seg (u0 := .bool (ng LE.num)) (u1 := .slice p (ln (am LE.num)) (ln (am LE.num))) (u2 := .slice q (ln LE.den) (ln LE.den)) (by simp) (by simp) (by simp) k3
                replace k4 := vN.seg (u0 := .bool (ng LE.num)) (u1 := .slice p (ln (am LE.num)) (ln (am LE.num))) (u2 := .slice q (ln LE.den) (ln LE.den)) (by simp) (by simp) (by simp) k4
                replace bT := below_set3 (u0 := .bool (ng LE.num)) (u1 := .slice p (ln (am LE.num)) (ln (am LE.num))) (u2 := .slice q (ln LE.den) (ln LE.den)) bT hc9
                have hH2 := (⟨(set3_far (w := wG3) (c := cc) (b := c3) (o := 0) (u0 := .bool (ng LE.num)) (u1 := .slice p (ln (am LE.num)) (ln (am LE.num))) (u2 := .slice q (ln LE.den) (ln LE.den)) (by omega)).trans hHeld.1, (set3_far (w := wG3) (c := cc) (b := c3) (o := 1) (u0 := .bool (ng LE.num)) (u1 := .slice p (ln (am LE.num)) (ln (am LE.num))) (u2 := .slice q (ln LE.den) (ln LE.den)) (by omega)).trans hHeld.2.1, (set3_far (w := wG3) (c := cc) (b := c3) (o := 2) (u0 := .bool (ng LE.num)) (u1 := .slice p (ln (am LE.num)) (ln (am LE.num))) (u2 := .slice q (ln LE.den) (ln LE.den)) (by omega)).trans hHeld.2.2.1, (set3_far (w := wG3) (c := cc) (b := c3) (o := 3) (u0 := .bool (ng LE.num)) (u1 := .slice p (ln (am LE.num)) (ln (am LE.num))) (u2 := .slice q (ln LE.den) (ln LE.den)) (by omega)).trans hHeld.2.2.2⟩ : _ ∧ _ ∧ _ ∧ _)
                have vN2 := vN.put (u0 := .bool (ng LE.num)) (u1 := .slice p (ln (am LE.num)) (ln (am LE.num))) (u2 := .slice q (ln LE.den) (ln LE.den))
                have z0 := vN.1.1
                have z1 := vN.1.2.1
                have z2 := vN.1.2.2
                go_simp
                clear z0 z1 z2 vN fz
                refine hKK.out _ _ hH2 ?_
                clear hHeld
                intro hHeld
                clear hKK KK
                try simp only [Act.put, List.setIfInBounds_toArray, List.set_cons_zero, List.set_cons_succ]
                clear hH2
                refine wpAnyH_done (by kernel_rfl) ?_ _
                go_wp2_with fail
                go_meet
                exact ⟨_, cc, p, q, rfl, rfl, vN2, bT, k3, k4⟩
              refine consT rfl (fun KK hKK => ?_) ?_
              · skip
                go_simp
                have vN : Thr (wG1.alloc (.cells #[.bool false, .slice none 0 0, .slice none 0 0] 31)) wG1.heap.size (.bool false) (.slice none 0 0) (.slice none 0 0) := ⟨⟨by go_simp, by go_simp, by go_simp⟩, row_new wG1 _ 31⟩
                have bA := below_alloc (w := wG1) (.cells #[.bool false, .slice none 0 0, .slice none 0 0] 31)
                have hc9 : wz.heap.size ≤ wG1.heap.size := bT.size
                generalize wG1.alloc (.cells #[.bool false, .slice none 0 0, .slice none 0 0] 31) = wG4 at vN bA ⊢
                replace bT := bT.trans (bA.mono bT.size)
                replace hB := hB.trans (bA.mono hB.size)
                replace P1x := P1x.later bA
                replace k1 := k1.later bA
                replace k2 := k2.later bA
                replace hHeld := (⟨below_cell bA hHeld.1, below_cell bA hHeld.2.1, below_cell bA hHeld.2.2.1, below_cell bA hHeld.2.2.2⟩ : _ ∧ _ ∧ _ ∧ _)
                clear bA
                refine hKK.out _ _ hHeld ?_
                clear hHeld
                intro hHeld
                clear hKK KK
                try simp only [Act.put, List.setIfInBounds_toArray, List.set_cons_zero, List.set_cons_succ]
                obtain ⟨cc, hcc⟩ : ∃ cc, wG1.heap.size = cc := ⟨_, rfl⟩
                rw [hcc] at vN hc9
                try rw [hcc]
                clear hcc
                refine wpAnyH_ready (rs := [6]) (by kernel_rfl) (by simp) ?_
                refine cons' rfl (fun KK hKK => ?_)
                go_simp
                refine (GA4.out _ hB px qx k1 k2).mono ?_
                rintro e wG5 ⟨p, q, rfl, bV, k3, k4⟩
                have bC := bV
                replace bT := bT.trans (bC.mono bT.size)
                replace hB := hB.trans (bC.mono hB.size)
                replace P1x := P1x.later bC
                replace k1 := k1.later bC
                replace k2 := k2.later bC
                replace vN := vN.later bC
                replace hHeld := (⟨below_cell bC hHeld.1, below_cell bC hHeld.2.1, below_cell bC hHeld.2.2.1, below_cell bC hHeld.2.2.2⟩ : _ ∧ _ ∧ _ ∧ _)
                clear bC
                go_wp2_with fail
                clear bV
                refine hKK.out _ _ hHeld ?_
                clear hHeld
                intro hHeld
                clear hKK KK
                try simp only [Act.put, List.setIfInBounds_toArray, List.set_cons_zero, List.set_cons_succ]
                refine wpAnyH_ready (rs := [8]) (by kernel_rfl) (by simp) ?_
                refine cons' rfl (fun KK hKK => ?_)
                have fz := fun o => vN.2.frozen o
                replace k3 := vN.seg (u0 := .bool (ng LE.num)) (u1 := .slice p (ln (am LE.num)) (ln (am LE.num))) (u2 := .slice q (ln LE.den) (ln LE.den)) (by simp) (by simp) (by simp) k3
                replace k4 := vN.seg (u0 := .bool (ng LE.num)) (u1 := .slice p (ln (am LE.num)) (ln (am LE.num))) (u2 := .slice q (ln LE.den) (ln LE.den)) (by simp) (by simp) (by simp) k4
                replace bT := below_set3 (u0 := .bool (ng LE.num)) (u1 := .slice p (ln (am LE.num)) (ln (am LE.num))) (u2 := .slice q (ln LE.den) (ln LE.den)) bT hc9
                have hH2 := (⟨(set3_far (w := wG5) (c := cc) (b := c3) (o := 0) (u0 := .bool (ng LE.num)) (u1 := .slice p (ln (am LE.num)) (ln (am LE.num))) (u2 := .slice q (ln LE.den) (ln LE.den)) (by omega)).trans hHeld.1, (set3_far (w := wG5) (c := cc) (b := c3) (o := 1) (u0 := .bool (ng LE.num)) (u1 := .slice p (ln (am LE.num)) (ln (am LE.num))) (u2 := .slice q (ln LE.den) (ln LE.den)) (by omega)).trans hHeld.2.1, (set3_far (w := wG5) (c := cc) (b := c3) (o := 2) (u0 := .bool (ng LE.num)) (u1 := .slice p (ln (am LE.num)) (ln (am LE.num))) (u2 := .slice q (ln LE.den) (ln LE.den)) (by omega)).trans hHeld.2.2.1, (set3_far (w := wG5) (c := cc) (b := c3) (o := 3) (u0 := .bool (ng LE.num)) (u1 := .slice p (ln (am LE.num)) (ln (am LE.num))) (u2 := .slice q (ln LE.den) (ln LE.den)) (by omega)).trans hHeld.2.2.2⟩ : _ ∧ _ ∧ _ ∧ _)
                have vN2 := vN.put (u0 := .bool (ng LE.num)) (u1 := .slice p (ln (am LE.num)) (ln (am LE.num))) (u2 := .slice q (ln LE.den) (ln LE.den))
                have z0 := vN.1.1
                have z1 := vN.1.2.1
                have z2 := vN.1.2.2
                go_simp
                clear z0 z1 z2 vN fz
                refine hKK.out _ _ hH2 ?_
                clear hHeld
                intro hHeld
                clear hKK KK
                try simp only [Act.put, List.setIfInBounds_toArray, List.set_cons_zero, List.set_cons_succ]
                clear hH2
                refine wpAnyH_done (by kernel_rfl) ?_ _
                go_wp2_with fail
                go_meet
                exact ⟨_, cc, p, q, rfl, rfl, vN2, bT, k3, k4⟩
              exact AllReadyH.nil
            refine consT rfl (fun KK hKK => ?_) ?_
            · skip
              go_simp
              have vN : Thr (wG0.alloc (.cells #[.bool false, .slice none 0 0, .slice none 0 0] 31)) wG0.heap.size (.bool false) (.slice none 0 0) (.slice none 0 0) := ⟨⟨by go_simp, by go_simp, by go_simp⟩, row_new wG0 _ 31⟩
              have bA := below_alloc (w := wG0) (.cells #[.bool false, .slice none 0 0, .slice none 0 0] 31)
              have hc9 : wz.heap.size ≤ wG0.heap.size := bT.size
              generalize wG0.alloc (.cells #[.bool false, .slice none 0 0, .slice none 0 0] 31) = wG6 at vN bA ⊢
              replace bT := bT.trans (bA.mono bT.size)
              replace hB := hB.trans (bA.mono hB.size)
              replace P1x := P1x.later bA
              replace hHeld := (⟨below_cell bA hHeld.1, below_cell bA hHeld.2.1, below_cell bA hHeld.2.2.1, below_cell bA hHeld.2.2.2⟩ : _ ∧ _ ∧ _ ∧ _)
              clear bA
              refine hKK.out _ _ hHeld ?_
              clear hHeld
              intro hHeld
              clear hKK KK
              try simp only [Act.put, List.setIfInBounds_toArray, List.set_cons_zero, List.set_cons_succ]
              obtain ⟨cc, hcc⟩ : ∃ cc, wG0.heap.size = cc := ⟨_, rfl⟩
              rw [hcc] at vN hc9
              try rw [hcc]
              clear hcc
              refine wpAnyH_ready (rs := [3]) (by kernel_rfl) (by simp) ?_
              refine cons' rfl (fun KK hKK => ?_)
              go_simp
              refine (GV3.out _ hB P1x).mono ?_
              rintro e wG7 ⟨px, qx, rfl, bV, k1, k2⟩
              have bC := bV
              replace bT := bT.trans (bC.mono bT.size)
              replace hB := hB.trans (bC.mono hB.size)
              replace P1x := P1x.later bC
              replace vN := vN.later bC
              replace hHeld := (⟨below_cell bC hHeld.1, below_cell bC hHeld.2.1, below_cell bC hHeld.2.2.1, below_cell bC hHeld.2.2.2⟩ : _ ∧ _ ∧ _ ∧ _)
              clear bC
              go_wp2_with fail
              clear bV
              refine hKK.out _ _ hHeld ?_
              clear hHeld
              intro hHeld
              clear hKK KK
              try simp only [Act.put, List.setIfInBounds_toArray, List.set_cons_zero, List.set_cons_succ]
              refine wpAnyH_ready (rs := [6]) (by kernel_rfl) (by simp) ?_
              refine cons' rfl (fun KK hKK => ?_)
              go_simp
              refine (GA4.out _ hB px qx k1 k2).mono ?_
              rintro e wG8 ⟨p, q, rfl, bV, k3, k4⟩
              have bC := bV
              replace bT := bT.trans (bC.mono bT.size)
              replace hB := hB.trans (bC.mono hB.size)
              replace P1x := P1x.later bC
              replace vN := vN.later bC
              replace k1 := k1.later bC
              replace k2 := k2.later bC
              replace hHeld := (⟨below_cell bC hHeld.1, below_cell bC hHeld.2.1, below_cell bC hHeld.2.2.1, below_cell bC hHeld.2.2.2⟩ : _ ∧ _ ∧ _ ∧ _)
              clear bC
              go_wp2_with fail
              clear bV
              refine hKK.out _ _ hHeld ?_
              clear hHeld
              intro hHeld
              clear hKK KK
              try simp only [Act.put, List.setIfInBounds_toArray, List.set_cons_zero, List.set_cons_succ]
              refine wpAnyH_ready (rs := [8]) (by kernel_rfl) (by simp) ?_
              refine cons' rfl (fun KK hKK => ?_)
              have fz := fun o => vN.2.frozen o
              replace k3 := vN.seg (u0 := .bool (ng LE.num)) (u1 := .slice p (ln (am LE.num)) (ln (am LE.num))) (u2 := .slice q (ln LE.den) (ln LE.den)) (by simp) (by simp) (by simp) k3
              replace k4 := vN.seg (u0 := .bool (ng LE.num)) (u1 := .slice p (ln (am LE.num)) (ln (am LE.num))) (u2 := .slice q (ln LE.den) (ln LE.den)) (by simp) (by simp) (by simp) k4
              replace bT := below_set3 (u0 := .bool (ng LE.num)) (u1 := .slice p (ln (am LE.num)) (ln (am LE.num))) (u2 := .slice q (ln LE.den) (ln LE.den)) bT hc9
              have hH2 := (⟨(set3_far (w := wG8) (c := cc) (b := c3) (o := 0) (u0 := .bool (ng LE.num)) (u1 := .slice p (ln (am LE.num)) (ln (am LE.num))) (u2 := .slice q (ln LE.den) (ln LE.den)) (by omega)).trans hHeld.1, (set3_far (w := wG8) (c := cc) (b := c3) (o := 1) (u0 := .bool (ng LE.num)) (u1 := .slice p (ln (am LE.num)) (ln (am LE.num))) (u2 := .slice q (ln LE.den) (ln LE.den)) (by omega)).trans hHeld.2.1, (set3_far (w := wG8) (c := cc) (b := c3) (o := 2) (u0 := .bool (ng LE.num)) (u1 := .slice p (ln (am LE.num)) (ln (am LE.num))) (u2 := .slice q (ln LE.den) (ln LE.den)) (by omega)).trans hHeld.2.2.1, (set3_far (w := wG8) (c := cc) (b := c3) (o := 3) (u0 := .bool (ng LE.num)) (u1 := .slice p (ln (am LE.num)) (ln (am LE.num))) (u2 := .slice q (ln LE.den) (ln LE.den)) (by omega)).trans hHeld.2.2.2⟩ : _ ∧ _ ∧ _ ∧ _)
              have vN2 := vN.put (u0 := .bool (ng LE.num)) (u1 := .slice p (ln (am LE.num)) (ln (am LE.num))) (u2 := .slice q (ln LE.den) (ln LE.den))
              have z0 := vN.1.1
              have z1 := vN.1.2.1
              have z2 := vN.1.2.2
              go_simp
              clear z0 z1 z2 vN fz
              refine hKK.out _ _ hH2 ?_
              clear hHeld
              intro hHeld
              clear hKK KK
              try simp only [Act.put, List.setIfInBounds_toArray, List.set_cons_zero, List.set_cons_succ]
              clear hH2
              refine wpAnyH_done (by kernel_rfl) ?_ _
              go_wp2_with fail
              go_meet
              exact ⟨_, cc, p, q, rfl, rfl, vN2, bT, k3, k4⟩
            exact AllReadyH.nil
          case rest =>
            clear GV3 GA4 P1x f0 f1 f2 f3
            obtain ⟨wy, c11, pm, qm, hwy, rfl, ⟨⟨v0, v1, v2⟩, _⟩, bT, g3, g4⟩ := hcut
            subst hwy
            replace g1 := g1.later bT
            replace g2 := g2.later bT
            replace x0 := below_cell bT x0
            replace x1 := below_cell bT x1
            replace x2 := below_cell bT x2
            replace hB := hB.trans (bT.mono hB.size)
            clear bT
            go_wp2_with fail
            refine (GC.out _ pl ql pm qm g1 g2 g3 g4).mono ?_
            rintro e w40 ⟨rfl, b1⟩
            go_wp2_with fail
            refine (awake_is _).mono ?_
            rintro e w41 ⟨rfl, b2⟩
            go_wp2
            go_ret
            exact ⟨rfl, hB.trans ((b1.mono hB.size).trans (b2.mono (Nat.le_trans hB.size b1.size)))⟩
theorem bulkL_mos (v : Nat → Int) (f : Nat → RatV) : ∀ n, bulkL (mos v f n) = bulkV f n + n
  | 0 => rfl
  | n + 1 => by
    unfold mos
    rw [List.range_succ, List.map_append, bulkL_append]
    have h := bulkL_mos v f n
    unfold mos at h
    rw [h]
    simp only [List.map, bulkL, bulkV]
    omega
theorem mos_ok {w : World} {v : Nat → Int} {f : Nat → RatV} {n : Nat} (hfo : ∀ i, i < n → (Lit.int .i64 (v i)).wf = true ∧ (f i).ok w) (hb : bulkV f n ≤ 1048576) : ∀ p ∈ mos v f n, p.2.ok w ∧ p.2.n ≤ 4194304 ∧ p.2.m ≤ 4194304 := fun p hp => by
  obtain ⟨i, hi, rfl⟩ := mos_mem hp
  have := bulkV_at (q := f) n i hi
  exact ⟨(hfo i hi).2, by show (f i).n ≤ _; omega, by show (f i).m ≤ _; omega⟩
theorem walk (af : Option Addr) (n capf : Nat) (v : Nat → Int) (f : Nat → RatV) (D : RatV) (x : Int) (ag : Option Addr) (m capg : Nat) (u : Nat → Int) (h : Nat → RatV) (E : RatV) (av : Option Addr) (k capv : Nat) (g : Nat → RatV) (w : World) (hF : FormAt w af n v f) (hfo : ∀ i, i < n → (Lit.int .i64 (v i)).wf = true ∧ (f i).ok w) (hcf : n ≤ capf) (hD : D.ok w)
    (hG : FormAt w ag m u h) (hgo : ∀ i, i < m → (Lit.int .i64 (u i)).wf = true ∧ (h i).ok w) (hcg : m ≤ capg) (hE : E.ok w) (hV : RatsAt w av k g) (hvo : ∀ i, i < k → (g i).ok w) (hcv : k ≤ capv) (hb : bulkV f n + D.n + D.m + (bulkV h m + E.n + E.m) + bulkV g k ≤ 1048576) :
    Calls Tryz.prog 4 #[.agg #[.slice af n capf, .bool D.s, .slice D.a D.n D.c, .slice D.b D.m D.e, .int .i64 x, .slice ag m capg, .bool E.s, .slice E.a E.n E.c, .slice E.b E.m E.e, .slice av k capv]] w fun e w' => e = .returned (.bool true) ∧ Below w.heap.size w w' := by
  have hbm := bulkL_mos v f n
  have hbg := bulkL_mos u h m
  have hb2 : bulkL (mos v f n) + D.n + D.m + (bulkL (mos u h m) + E.n + E.m) + bulkV g k ≤ 1048576 + (mos v f n).length + (mos u h m).length := by rw [mos_length, mos_length]; omega
  rcases Int.lt_or_le x 0 with hx | hx
  · have z := walkN af capf (mos v f n) D x ag capg (mos u h m) E av k capv g w hx (mos_at hF) (mos_ok hfo (by omega)) (by rw [mos_length]; exact hcf) hD (mos_at hG) (mos_ok hgo (by omega)) (by rw [mos_length]; exact hcg) hE hV hvo hcv hb2
    rw [mos_length, mos_length] at z
    exact z
  · rcases Int.lt_or_le x (k : Int) with hk | hk
    · have z := walkI af capf (mos v f n) D x ag capg (mos u h m) E av k capv g w x.toNat (by omega) (by omega) (mos_at hF) (mos_ok hfo (by omega)) (by rw [mos_length]; exact hcf) hD (mos_at hG) (mos_ok hgo (by omega)) (by rw [mos_length]; exact hcg) hE hV hvo hcv hb2
      rw [mos_length, mos_length] at z
      exact z
    · have z := walkG af capf (mos v f n) D x ag capg (mos u h m) E av k capv g w hx hk (mos_at hF) (mos_ok hfo (by omega)) (by rw [mos_length]; exact hcf) hD (mos_at hG) (mos_ok hgo (by omega)) (by rw [mos_length]; exact hcg) hE hV hvo hcv hb2
      rw [mos_length, mos_length] at z
      exact z

set_option maxRecDepth 100000 in
theorem contract (H : Type) (enc : TypeId × Value → H) (W : World) (base : Nat) (args : Array Value) (ds gs : List (DataW H)) (before : List MemPlace)
    (hval : ∀ (j : Nat) t v, Tryz.f4.params[j]? = some t → args[j]? = some v → Value.okWide Tryz.prog W .any base t v)
    (hW : DataW.Whole enc Tryz.prog Tryz.f4.params.toList Rows.linearPutSpec.vars false W args.toList ds gs before)
    (hsz : (DataW.weightsEach Tryz.prog (Tryz.f4.params.toList ++ Rows.linearPutSpec.plain.varTypes Tryz.prog) (ds ++ gs)).all (· ≤ reachBytes) = true) (hk : Rows.uptoSmall H (ds ++ gs) = true) :
    Calls Tryz.prog 4 args W fun e W' => ∃ v, e = .returned v ∧ Rows.linearPutSpec.post enc Tryz.prog Tryz.f4 false true false false W args v W' := by
  have hW' := hW
  obtain ⟨p, q, hA0, hV, rfl, hfz, hnd⟩ := hW
  have hA : DataW.TrodAll enc Tryz.prog W 0 (fun _ => true) true Tryz.f4.params.toList args.toList ds p := hA0
  rw [Tryz.params4] at hA hval hsz
  obtain ⟨v0, vs0, d0, ds0, p0, q0, hargs, rfl, rfl, h0, r0⟩ := trodAll_cons hA
  obtain ⟨rfl, rfl, rfl⟩ := trodAll_nil r0
  obtain rfl : args = #[v0] := by cases args; simp_all
  obtain ⟨rfl, rfl⟩ := trodVars_none hV
  have lt0 : ∀ x ∈ p0, x.block < W.heap.size := by obtain ⟨m, hm⟩ := h0; exact DataW.trod_lt m _ _ _ hm
  obtain ⟨af0, an0, ac0, fv0, ff0, qv0, ax0, ag0, am0, gc0, gv0, gf0, qe0, av0, ak0, cv0, uv0, rfl, hF0, hfo0, hfc0, hqo0, hG0, hgo0, hgc0, hqe0, hV0, hvo0, hvc0, hfu0⟩ := open_Putting (hval 0 38 v0 rfl rfl) h0 (sized_at 0 hsz rfl rfl)
  clear hA0
  have hbulk := of_decide_eq_true hk
  simp only [List.append_nil, Rows.uptoBulkAll] at hbulk
  simp only [List.append_nil] at hW'
  refine (walk af0 an0 ac0 fv0 ff0 qv0 ax0 ag0 am0 gc0 gv0 gf0 qe0 av0 ak0 cv0 uv0 W hF0 hfo0 hfc0 hqo0 hG0 hgo0 hgc0 hqe0 hV0 hvo0 hvc0 (by omega)).mono fun e W' ⟨he, bel⟩ => ?_
  subst he
  exact ⟨_, rfl, _, _, _, [], _, [], hW', trodAll_mk1 (shut_bool Tryz.underlying4 _), (trodAll_cons_mk (Below.trod laidOut (by kernel_rfl) (of_decide_eq_true (by kernel_rfl)) h0 bel lt0) trodAll_mk0), rfl, bel.frame _, fun h => by cases h⟩

set_option maxRecDepth 100000 in
theorem lifted (os : Os) (started : os.Started) (H : Type) (enc : TypeId × Value → H) (F : Stop.Interp) :
    ReturnsInHanded {} Tryz.checked os 4 .any ((Rows.OpenSpec.upto Rows.linearPutSpec).pre6 enc Tryz.prog Tryz.f4 Rows.linearPutUptoRow.domain false) (((Rows.OpenSpec.upto Rows.linearPutSpec).at F).post enc Tryz.prog Tryz.f4 false true false false) := by
  refine returnsInHanded_of_cond_sized (C := Tryz.checked) (s := Rows.OpenSpec.upto Rows.linearPutSpec) (k := Rows.uptoSmall) rfl own started (by kernel_rfl) Tryz.func4
    (OpenSpec.witness (enc := enc) (C := Tryz.checked) (s := Rows.OpenSpec.upto Rows.linearPutSpec) (k := Rows.uptoSmall) rfl false ⟨#[], #[.agg #[.slice none 0 0, .bool false, .slice none 0 0, .slice none 0 0, .int .i64 0, .slice none 0 0, .bool false, .slice none 0 0, .slice none 0 0, .slice none 0 0]], []⟩ 8 (by kernel_rfl) (by kernel_rfl) (by kernel_rfl)
      (x := ([.agg [.agg [.nil, .agg [.agg [.lit (.bool false), .nil], .nil]], .lit (.int .i64 0), .agg [.nil, .agg [.agg [.lit (.bool false), .nil], .nil]], .nil]], [], [])) (by kernel_rfl) rfl (by kernel_rfl)) ?_
  intro W base args ds gs before hval hW _ hk hsz _
  exact contract H enc W base args ds gs before hval hW hsz hk

theorem over : Rows.linearPutUptoRow.holds Tryz.pinned (Rows.OpenSpec.upto Rows.linearPutSpec) :=
  OpenClaim.holds_of_cond 4 Tryz.f4 rfl rfl rfl rfl rfl rfl rfl ⟨rfl, rfl, rfl, rfl, rfl⟩ rfl rfl rfl rfl rfl (by kernel_rfl) Tryz.func4 (by kernel_rfl)
    (of_decide_eq_true (by kernel_rfl)) (by unfold Func.isWrapper; first | (rw [if_pos (by decide +kernel)]; kernel_rfl) | (rw [if_neg (by decide +kernel)]; exact ⟨rfl, rfl⟩))
    (fun os started H enc _ F => lifted os started H enc F)

end Go.Proofs.YtkflbhkcofmaoaaGreat.linearPut
namespace Go.Proofs.YtkflbhkcofmaoaaGreat
theorem linearPut_holds : Rows.LinearPutUptoSaid := linearPut.over
#print axioms linearPut_holds
end Go.Proofs.YtkflbhkcofmaoaaGreat
