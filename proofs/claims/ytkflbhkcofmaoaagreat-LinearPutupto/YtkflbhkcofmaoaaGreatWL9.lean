/-
  Layer 6: the reference's Value.
-/
import Derived.Test.YtkflbhkcofmaoaaGreatWL7
import Derived.Test.YtkflbhkcofmaoaaGreatWQE
import Derived.Test.YtkflbhkcofmaoaaGreatWQ8
namespace Go.Proofs.YtkflbhkcofmaoaaGreat
open Go.RowKit
set_option linter.unusedVariables false

set_option maxHeartbeats 2000000 in
set_option maxRecDepth 100000 in
theorem vlzero_is (w : World) : Calls Tryz.prog 23 #[] w fun e w' => ∃ p q, e = .returned (.agg #[.bool false, .slice p 0 0, .slice q 1 1]) ∧ New w w' p 0 0 ∧ New w w' q 1 1 := by
  have G2' := fun w' => vqWhole_is 0 w' (by omega) (by omega)
  have z1 : ng 0 = false := rfl
  have z2 : ln (am 0) = 0 := ln_zero
  have z3 : am 0 = 0 := rfl
  rw [z1, z2, ln_one, z3] at G2'
  have G2 := hide' G2'
  clear G2' z1 z2 z3
  go_enter Tryz.func23, Tryz.ntmps23
  go_wp2_with fail
  obtain ⟨W, hW⟩ : ∃ W, (w.alloc (.cells #[.bool false, .slice none 0 0, .slice none 0 0] 31)) = W := ⟨_, rfl⟩
  have r00 : W.cell? ⟨w.heap.size, 0, none⟩ = some (.bool false) := by subst hW; go_simp
  have r01 : W.cell? ⟨w.heap.size, 1, none⟩ = some (.slice none 0 0) := by subst hW; go_simp
  have r02 : W.cell? ⟨w.heap.size, 2, none⟩ = some (.slice none 0 0) := by subst hW; go_simp
  have hB : Below w.heap.size w W := by subst hW; exact ((Below.refl _ _).alloc (by (try simp only [World.size_alloc]); omega) _)
  have hR0 : Row W (w.heap.size) := by
    have := row_new (w) #[.bool false, .slice none 0 0, .slice none 0 0] 31
    try simp only [World.size_alloc] at this
    subst hW; exact this
  have hz : W.heap.size = w.heap.size + 1 := by subst hW; simp only [World.size_alloc]
  rw [hW]
  clear hW
  have hBW : Below W.heap.size W W := Below.refl _ _
  refine (G2.out _).mono ?_
  rintro e w1 ⟨p1, q1, rfl, hp1, hq1⟩
  have b1 := hp1.below
  replace hp1 := hp1.back hBW
  replace hq1 := hq1.back hBW
  replace hBW := hBW.trans (b1.mono hBW.size)
  replace r00 := below_cell b1 r00
  replace r01 := below_cell b1 r01
  replace r02 := below_cell b1 r02
  replace hR0 := below_row b1 hR0
  have fz0 := fun o => hR0.frozen o
  go_wp2
  all_goals refine bodyPost_ret (v := Value.agg #[Value.bool false, Value.slice p1 0 0, Value.slice q1 1 1]) (by rw [results_cell rfl]; go_simp) rfl ?_
  all_goals exact ⟨p1, q1, rfl, hp1.mid hB (((((Mid.refl _ _ _).set _ _ (by omega) (by omega) _).set _ _ (by omega) (by omega) _).set _ _ (by omega) (by omega) _)), hq1.mid hB (((((Mid.refl _ _ _).set _ _ (by omega) (by omega) _).set _ _ (by omega) (by omega) _).set _ _ (by omega) (by omega) _))⟩

theorem prods_le {W : World} {v : Nat → Int} {f g : Nat → RatV} {m K : Nat} : ∀ (n : Nat), (∀ i, i < n → (f i).ok W) → (∀ i, i < m → (g i).ok W) → (∀ i t, i < n → t < m → (f i).n + (f i).m + (g t).n + (g t).m ≤ K) →
    lden (prods v f g m n) ≤ BB ^ (n * (K + 1)) ∧ am (lnum (prods v f g m n)) ≤ BB ^ (n * (K + 1))
  | 0, _, _, _ => ⟨by rw [Nat.zero_mul, Nat.pow_zero]; exact Nat.le_refl _, Nat.zero_le _⟩
  | n + 1, hf, hg, hK => by
    obtain ⟨h1, h2⟩ := prods_le n (fun i hi => hf i (by omega)) hg (fun i t hi ht => hK i t (by omega) ht)
    have hB : 0 < BB := by rw [BB_eq]; omega
    have hmono : BB ^ (n * (K + 1)) ≤ BB ^ ((n + 1) * (K + 1)) := pow_mono (by rw [Nat.succ_mul]; omega)
    simp only [prods]
    split
    · rename_i hp
      obtain ⟨t, ht⟩ : ∃ t : Nat, (v n).toNat = t := ⟨_, rfl⟩
      have htm : t < m := by omega
      rw [ht]
      have k0 := hK n t (by omega) htm
      have hfn := hf n (by omega)
      have hgt := hg t htm
      have x1 : am (rn (f n).s (f n).X (f n).Y * rn (g t).s (g t).X (g t).Y) ≤ BB ^ K := by
        rw [am_mul]
        refine Nat.le_trans (Nat.mul_le_mul (Nat.le_trans (rn_am _ _ _) (Nat.le_of_lt hfn.1.1)) (Nat.le_trans (rn_am _ _ _) (Nat.le_of_lt hgt.1.1))) ?_
        rw [← Nat.pow_add]
        exact pow_mono (by omega)
      have x2 : rd (f n).Y * rd (g t).Y ≤ BB ^ K := by
        refine Nat.le_trans (Nat.mul_le_mul (rd_le hfn.2.2.2.1.1) (rd_le hgt.2.2.2.1.1)) ?_
        rw [← Nat.pow_add]
        exact pow_mono (by omega)
      rw [lden_append, lnum_append]
      generalize rn (f n).s (f n).X (f n).Y * rn (g t).s (g t).X (g t).Y = R at *
      generalize rd (f n).Y * rd (g t).Y = D at *
      have e1 : lden [(R, D)] = D := Nat.mul_one _
      have e2 : lnum [(R, D)] = R := by
        show R * ((1 : Nat) : Int) + 0 * _ = _
        simp
      rw [e1, e2]
      generalize lden (prods v f g m n) = A at *
      generalize lnum (prods v f g m n) = B at *
      have e3 : BB ^ ((n + 1) * (K + 1)) = BB ^ (n * (K + 1)) * BB ^ K * BB := by rw [Nat.succ_mul, ← Nat.add_assoc, Nat.pow_succ, Nat.pow_add]
      have p1 : A * D ≤ BB ^ (n * (K + 1)) * BB ^ K := Nat.mul_le_mul h1 x2
      have p2 : am (B * (D : Nat)) ≤ BB ^ (n * (K + 1)) * BB ^ K := by rw [am_mul]; exact Nat.mul_le_mul h2 x2
      have p3 : am (R * (A : Nat)) ≤ BB ^ (n * (K + 1)) * BB ^ K := by rw [am_mul, Nat.mul_comm]; exact Nat.mul_le_mul h1 x1
      have p7 : am (B * (D : Nat) + R * (A : Nat)) ≤ am (B * (D : Nat)) + am (R * (A : Nat)) := Int.natAbs_add_le _ _
      rw [e3]
      generalize BB ^ (n * (K + 1)) * BB ^ K = T at *
      have p8 : T * 2 ≤ T * BB := Nat.mul_le_mul_left _ (by rw [BB_eq]; omega)
      constructor <;> omega
    · rw [List.append_nil]
      exact ⟨Nat.le_trans h1 hmono, Nat.le_trans h2 hmono⟩
theorem prods_ln {W : World} {v : Nat → Int} {f g : Nat → RatV} {m K n : Nat} {Z : Int} {V : Nat} (hf : ∀ i, i < n → (f i).ok W) (hg : ∀ i, i < m → (g i).ok W) (hK : ∀ i t, i < n → t < m → (f i).n + (f i).m + (g t).n + (g t).m ≤ K)
    (hL : Low (lnum (prods v f g m n)) (lden (prods v f g m n) : Nat) Z V) : ln (am Z) ≤ n * (K + 1) + 1 ∧ ln V ≤ n * (K + 1) + 1 := by
  obtain ⟨h1, h2⟩ := prods_le (v := v) n hf hg hK
  have hl : BB ^ (n * (K + 1)) < BB ^ (n * (K + 1) + 1) := by
    rw [Nat.pow_succ]
    have : 0 < BB ^ (n * (K + 1)) := by rw [BB_eq]; exact Nat.pow_pos (by omega)
    have h3 : BB ^ (n * (K + 1)) * 2 ≤ BB ^ (n * (K + 1)) * BB := Nat.mul_le_mul_left _ (by rw [BB_eq]; omega)
    omega
  exact ln1 hL (Nat.lt_of_le_of_lt h2 hl) (by show am ((lden (prods v f g m n) : Nat) : Int) < _; exact Nat.lt_of_le_of_lt h1 hl) (Nat.le_refl _) (Nat.le_refl _)
end Go.Proofs.YtkflbhkcofmaoaaGreat

namespace Go.Proofs.YtkflbhkcofmaoaaGreat
open Go.RowKit
set_option linter.unusedVariables false
set_option linter.unusedSimpArgs false

/-- what the loop keeps: the sum's variable lies in block c, the answer's in block r -/
def VInv (w : World) (r c : Nat) (v : Nat → Int) (f g : Nat → RatV) (m k : Nat) (wr : World) : Prop :=
  ∃ (Z : Int) (V : Nat) (p p' : Option Addr), Low (lnum (prods v f g m k)) (lden (prods v f g m k) : Nat) Z V ∧
    (wr.cell? ⟨c, 0, none⟩ = some (.bool (ng Z)) ∧ wr.cell? ⟨c, 1, none⟩ = some (.slice p (ln (am Z)) (ln (am Z))) ∧ wr.cell? ⟨c, 2, none⟩ = some (.slice p' (ln V) (ln V)) ∧ Row wr c) ∧
    (wr.cell? ⟨r, 0, none⟩ = some (.bool false) ∧ wr.cell? ⟨r, 1, none⟩ = some (.slice none 0 0) ∧ wr.cell? ⟨r, 2, none⟩ = some (.slice none 0 0) ∧ Row wr r) ∧
    Seg wr p (am Z) (ln (am Z)) ∧ Seg wr p' V (ln V) ∧ Below w.heap.size w wr

theorem VInv.skip {w : World} {r c : Nat} {v : Nat → Int} {f g : Nat → RatV} {m k : Nat} {wr : World} (h : VInv w r c v f g m k wr) (hp : ¬ (0 ≤ v k ∧ v k < (m : Int))) : VInv w r c v f g m (k + 1) wr := by
  obtain ⟨Z, V, p, p', hL, rest⟩ := h
  refine ⟨Z, V, p, p', ?_, rest⟩
  simp only [prods]
  rw [if_neg hp, List.append_nil]
  exact hL
theorem VInv.put {w : World} {r c : Nat} {v : Nat → Int} {f g : Nat → RatV} {m k : Nat} {w3 : World} {Z : Int} {V : Nat} {x y : Option Addr} {z0 : Bool} {a1 a2 : Option Addr} {n1 k1 n2 k2 : Nat} (hL : Low (lnum (prods v f g m k)) (lden (prods v f g m k) : Nat) Z V) (hne : c ≠ r) (hcl : w.heap.size ≤ c)
    (s0 : w3.cell? ⟨c, 0, none⟩ = some (.bool z0)) (s1 : w3.cell? ⟨c, 1, none⟩ = some (.slice a1 n1 k1)) (s2 : w3.cell? ⟨c, 2, none⟩ = some (.slice a2 n2 k2)) (sR : Row w3 c)
    (r0 : w3.cell? ⟨r, 0, none⟩ = some (.bool false)) (r1 : w3.cell? ⟨r, 1, none⟩ = some (.slice none 0 0)) (r2 : w3.cell? ⟨r, 2, none⟩ = some (.slice none 0 0)) (rR : Row w3 r) (hS : Seg w3 x (am Z) (ln (am Z))) (hT : Seg w3 y V (ln V)) (hB : Below w.heap.size w w3) :
    VInv w r c v f g m k (((w3.setCell ⟨c, 0, none⟩ (.bool (ng Z))).setCell ⟨c, 1, none⟩ (.slice x (ln (am Z)) (ln (am Z)))).setCell ⟨c, 2, none⟩ (.slice y (ln V) (ln V))) := by
  obtain ⟨q0, q1, q2⟩ := set3_same (u0 := .bool (ng Z)) (u1 := .slice x (ln (am Z)) (ln (am Z))) (u2 := .slice y (ln V) (ln V)) s0 s1 s2
  exact ⟨Z, V, x, y, hL, ⟨q0, q1, q2, ((sR.setCell _ _).setCell _ _).setCell _ _⟩, ⟨by rw [set3_far hne]; exact r0, by rw [set3_far hne]; exact r1, by rw [set3_far hne]; exact r2, ((rR.setCell _ _).setCell _ _).setCell _ _⟩, hS.setR s0 s1 s2, hT.setR s0 s1 s2, bset (bset (bset hB hcl) hcl) hcl⟩

set_option maxHeartbeats 2000000 in
set_option maxRecDepth 100000 in
theorem vlValue_is (af : Option Addr) (n capf : Nat) (v : Nat → Int) (f : Nat → RatV) (av : Option Addr) (m capv : Nat) (g : Nat → RatV) (K : Nat) (Z : Int) (V : Nat) (w : World) (hcf : n ≤ capf) (hcv : m ≤ capv) (hn : n ≤ 1048576) (hm : m ≤ 1048576)
    (hF : FormAt w af n v f) (hfo : ∀ i, i < n → (f i).ok w) (hG : RatsAt w av m g) (hgo : ∀ i, i < m → (g i).ok w) (hK : ∀ i t, i < n → t < m → (f i).n + (f i).m + (g t).n + (g t).m ≤ K) (hKm : K ≤ 1048576) (hnK : n * (2 * K + 5) + 1 ≤ 1099511627776)
    (hL : Low (lnum (prods v f g m n)) (lden (prods v f g m n) : Nat) Z V) :
    Calls Tryz.prog 10 #[.slice af n capf, .slice av m capv] w fun e w' => ∃ x y, e = .returned (.agg #[.bool (ng Z), .slice x (ln (am Z)) (ln (am Z)), .slice y (ln V) (ln V)]) ∧ Below w.heap.size w w' ∧ Seg w' x (am Z) (ln (am Z)) ∧ Seg w' y V (ln V) := by
  go_enter Tryz.func10, Tryz.ntmps10
  go_wp2_with fail
  obtain ⟨W, hW⟩ : ∃ W, (w.alloc (.cells #[.bool false, .slice none 0 0, .slice none 0 0] 31)) = W := ⟨_, rfl⟩
  have r00 : W.cell? ⟨w.heap.size, 0, none⟩ = some (.bool false) := by subst hW; go_simp
  have r01 : W.cell? ⟨w.heap.size, 1, none⟩ = some (.slice none 0 0) := by subst hW; go_simp
  have r02 : W.cell? ⟨w.heap.size, 2, none⟩ = some (.slice none 0 0) := by subst hW; go_simp
  have hB : Below w.heap.size w W := by subst hW; exact ((Below.refl _ _).alloc (by (try simp only [World.size_alloc]); omega) _)
  have hR0 : Row W (w.heap.size) := by
    have := row_new (w) #[.bool false, .slice none 0 0, .slice none 0 0] 31
    try simp only [World.size_alloc] at this
    subst hW; exact this
  have hz : W.heap.size = w.heap.size + 1 := by subst hW; simp only [World.size_alloc]
  rw [hW]
  clear hW
  have hBW : Below W.heap.size W W := Below.refl _ _
  refine (vlzero_is _).mono ?_
  rintro e w1 ⟨p1, q1, rfl, hp1, hq1⟩
  have b1 := hp1.below
  replace hp1 := hp1.back hBW
  replace hq1 := hq1.back hBW
  replace hBW := hBW.trans (b1.mono hBW.size)
  replace r00 := below_cell b1 r00
  replace r01 := below_cell b1 r01
  replace r02 := below_cell b1 r02
  replace hR0 := below_row b1 hR0
  go_wp2_with fail
  obtain ⟨wS, hwS⟩ : ∃ wS, w1.alloc (.cells #[.bool false, .slice p1 0 0, .slice q1 1 1] 31) = wS := ⟨_, rfl⟩
  have s0 : wS.cell? ⟨w1.heap.size, 0, none⟩ = some (.bool false) := by subst hwS; go_simp
  have s1 : wS.cell? ⟨w1.heap.size, 1, none⟩ = some (.slice p1 0 0) := by subst hwS; go_simp
  have s2 : wS.cell? ⟨w1.heap.size, 2, none⟩ = some (.slice q1 1 1) := by subst hwS; go_simp
  have sR : Row wS w1.heap.size := by subst hwS; exact row_new w1 _ 31
  have bS : Below w1.heap.size w1 wS := by subst hwS; exact below_alloc _
  rw [hwS]
  clear hwS
  have hcr : w.heap.size < w1.heap.size := hR0.lt
  have I0 : VInv w w.heap.size w1.heap.size v f g m 0 wS := ⟨0, 1, p1, q1, low_zero (by show ((1 : Nat) : Int) ≠ 0; omega), ⟨s0, by rw [show am 0 = 0 from rfl, ln_zero]; exact s1, by rw [ln_one]; exact s2, sR⟩, ⟨below_cell bS r00, below_cell bS r01, below_cell bS r02, below_row bS hR0⟩,
    by rw [show am 0 = 0 from rfl, ln_zero]; exact Seg.nil _ _, by rw [ln_one]; exact hq1.seg.later bS, (hB.trans (hBW.mono hB.size)).trans (bS.mono (Nat.le_of_lt hcr))⟩
  generalize w1.heap.size = c at *
  go_loopw [6] (fun vi wr => ∃ k : Nat, k ≤ n ∧ vi = .int .i64 k ∧ VInv w w.heap.size c v f g m k wr) (fun vi _ => n - (intOf vi).toNat)
  case atStart => exact ⟨0, Nat.zero_le _, rfl, I0⟩
  case round =>
    clear I0 s0 s1 s2 sR bS hp1 hq1 r00 r01 r02 hR0 hBW hB hz
    obtain ⟨k, hk, rfl, Zk, Vk, p, p', hLk, ⟨s0, s1, s2, sR⟩, ⟨r0, r1, r2, rR⟩, hS, hT, hBk⟩ := hrel
    by_cases hlt : k < n
    · obtain ⟨b, off, rfl, hb, hcell⟩ := hF (by omega)
      obtain ⟨c0, c1, c2, c3⟩ := hcell k hlt
      replace c0 := below_cell hBk c0
      replace c1 := below_cell hBk c1
      replace c2 := below_cell hBk c2
      replace c3 := below_cell hBk c3
      have i0 : (0 : Int) ≤ (k : Int) := by omega
      have i1 : (k : Int) < (n : Int) := by omega
      by_cases hp : 0 ≤ v k ∧ v k < (m : Int)
      · obtain ⟨t, ht⟩ : ∃ t : Nat, v k = (t : Int) := ⟨(v k).toNat, by omega⟩
        have htm : t < m := by omega
        have t0 : (0 : Int) ≤ (t : Int) := by omega
        have t1 : (t : Int) < (m : Int) := by omega
        rw [ht] at c0
        obtain ⟨b', off', rfl, hb', hcell'⟩ := hG (by omega)
        obtain ⟨d0, d1, d2⟩ := hcell' t htm
        have hf1 := (hfo k hlt).later hBk
        have hg1 := (hgo t htm).later hBk
        have hfg := hK k t hlt htm
        replace d0 := below_cell hBk d0
        replace d1 := below_cell hBk d1
        replace d2 := below_cell hBk d2
        obtain ⟨Zp, Vp, hLp⟩ := low_ex (rn (f k).s (f k).X (f k).Y * rn (g t).s (g t).X (g t).Y) ((rd (f k).Y : Nat) * (rd (g t).Y : Nat)) (Int.mul_ne_zero (rd_ne _) (rd_ne _))
        have lZp : ln (am Zp) ≤ K + 2 ∧ ln Vp ≤ K + 2 := ln1 (i := (f k).n + (g t).n) (j := ((f k).m + 1) + ((g t).m + 1)) hLp (lt_prod (Nat.lt_of_le_of_lt (rn_am _ _ _) hf1.1.1) (Nat.lt_of_le_of_lt (rn_am _ _ _) hg1.1.1)) (lt_prod (by show rd _ < _; exact rd_lt hf1.2.2.2.1.1) (by show rd _ < _; exact rd_lt hg1.2.2.2.1.1)) (by omega) (by omega)
        have lZk := prods_ln (v := v) (n := k) (fun i hi => hfo i (by omega)) hgo (fun i t hi ht => hK i t (by omega) ht) hLk
        have hkK : k * (K + 1) ≤ n * (2 * K + 5) := Nat.mul_le_mul hk (by omega)
        obtain ⟨Zn, Vn, hLn⟩ := low_ex (lnum (prods v f g m (k + 1))) (lden (prods v f g m (k + 1)) : Nat) (by have := lden_prods_pos v f g m (k + 1); omega)
        have hLa : Low (rn (ng Zk) (am Zk) Vk * (rd Vp : Nat) + rn (ng Zp) (am Zp) Vp * (rd Vk : Nat)) ((rd Vk : Nat) * (rd Vp : Nat)) Zn Vn := by
          rw [rn_nf hLk.pos, rn_nf hLp.pos, rd_nf hLk.pos, rd_nf hLp.pos]
          have e : prods v f g m (k + 1) = prods v f g m k ++ [(rn (f k).s (f k).X (f k).Y * rn (g t).s (g t).X (g t).Y, rd (f k).Y * rd (g t).Y)] := by
            simp only [prods]
            rw [if_pos hp, show (v k).toNat = t by omega]
          rw [e] at hLn
          refine low_halves hLk (l := prods v f g m k) (m := [(rn (f k).s (f k).X (f k).Y * rn (g t).s (g t).X (g t).Y, rd (f k).Y * rd (g t).Y)]) ?_ hLn
          have e1 : lden [(rn (f k).s (f k).X (f k).Y * rn (g t).s (g t).X (g t).Y, rd (f k).Y * rd (g t).Y)] = rd (f k).Y * rd (g t).Y := Nat.mul_one _
          have e2 : lnum [(rn (f k).s (f k).X (f k).Y * rn (g t).s (g t).X (g t).Y, rd (f k).Y * rd (g t).Y)] = rn (f k).s (f k).X (f k).Y * rn (g t).s (g t).X (g t).Y := by
            show _ * ((1 : Nat) : Int) + 0 * _ = _
            simp
          rw [e1, e2, Int.natCast_mul]
          exact hLp
        have GM := hide' (fun w' k1 k2 k3 k4 => vqMul_is (f k).s (f k).a (f k).n (f k).c (f k).X (f k).b (f k).m (f k).e (f k).Y (g t).s (g t).a (g t).n (g t).c (g t).X (g t).b (g t).m (g t).e (g t).Y Zp Vp w' hf1.2.1 (by omega) k1 hf1.2.2.2.2.1 (by omega) k2 hg1.2.1 (by omega) k3 hg1.2.2.2.2.1 (by omega) k4 hLp)
        have GA := hide' (fun w' x y k1 k2 k3 k4 => vqAdd_is (ng Zk) p (ln (am Zk)) (ln (am Zk)) (am Zk) p' (ln Vk) (ln Vk) Vk (ng Zp) x (ln (am Zp)) (ln (am Zp)) (am Zp) y (ln Vp) (ln Vp) Vp Zn Vn w' (Nat.le_refl _) (by omega) k1 (Nat.le_refl _) (by omega) k2 (Nat.le_refl _) (by omega) k3 (Nat.le_refl _) (by omega) k4 hLa)
        have HLn := hide' hLn
        clear hLn hLa hLp hLk hkK lZk lZp ht hp hcell hcell'
        go_wp2_with fail
        replace hBk : Below w.heap.size w wr.drew := hBk.drew
        replace hf1 : (f k).ok wr.drew := hf1
        replace hg1 : (g t).ok wr.drew := hg1
        replace hS : Seg wr.drew p (am Zk) (ln (am Zk)) := hS
        replace hT : Seg wr.drew p' Vk (ln Vk) := hT
        replace s0 : wr.drew.cell? ⟨c, 0, none⟩ = some (.bool (ng Zk)) := s0
        replace s1 : wr.drew.cell? ⟨c, 1, none⟩ = some (.slice p (ln (am Zk)) (ln (am Zk))) := s1
        replace s2 : wr.drew.cell? ⟨c, 2, none⟩ = some (.slice p' (ln Vk) (ln Vk)) := s2
        replace sR : Row wr.drew c := sR
        replace r0 : wr.drew.cell? ⟨w.heap.size, 0, none⟩ = some (.bool false) := r0
        replace r1 : wr.drew.cell? ⟨w.heap.size, 1, none⟩ = some (.slice none 0 0) := r1
        replace r2 : wr.drew.cell? ⟨w.heap.size, 2, none⟩ = some (.slice none 0 0) := r2
        replace rR : Row wr.drew w.heap.size := rR
        refine wp_region_held_drew (S := fun w' => w'.cell? ⟨b, off + k * 4, none⟩ = some (.int .i64 (t : Int)) ∧ w'.cell? ⟨b, off + k * 4 + 1, none⟩ = some (.bool (f k).s) ∧ w'.cell? ⟨b, off + k * 4 + 1 + 1, none⟩ = some (.slice (f k).a (f k).n (f k).c) ∧ w'.cell? ⟨b, off + k * 4 + 1 + 2, none⟩ = some (.slice (f k).b (f k).m (f k).e) ∧ w'.cell? ⟨b', off' + t * 3, none⟩ = some (.bool (g t).s) ∧ w'.cell? ⟨b', off' + t * 3 + 1, none⟩ = some (.slice (g t).a (g t).n (g t).c) ∧ w'.cell? ⟨b', off' + t * 3 + 2, none⟩ = some (.slice (g t).b (g t).m (g t).e)) (by kernel_rfl) ⟨c0, c1, c2, c3, d0, d1, d2⟩ (fun hHeld => ?_)
        clear c0 c1 c2 c3 d0 d1 d2
        generalize wr.drew = w0 at hBk hf1 hg1 hS hT s0 s1 s2 sR r0 r1 r2 rR hHeld ⊢
        refine take' 1 (v := ?_) rfl (by kernel_rfl) (by kernel_rfl) (by kernel_rfl) (fun _ _ _ h => h) (Or.inl ⟨by rfl, ?_⟩) (by assumption) ?_
        rotate_left
        · intro w9 hSw
          go_simp
          first | done | with_reducible rfl
        simp only [Act.put, List.setIfInBounds_toArray, List.set_cons_zero, List.set_cons_succ]
        refine take' 2 (v := ?_) rfl (by kernel_rfl) (by kernel_rfl) (by kernel_rfl) (fun _ _ _ h => h) (Or.inl ⟨by rfl, ?_⟩) (by assumption) ?_
        rotate_left
        · intro w9 hSw
          go_simp
          first | done | with_reducible rfl
        simp only [Act.put, List.setIfInBounds_toArray, List.set_cons_zero, List.set_cons_succ]
        refine take' 3 (v := ?_) rfl (by kernel_rfl) (by kernel_rfl) (by kernel_rfl) (fun _ _ _ h => h) (Or.inl ⟨by rfl, ?_⟩) (by assumption) ?_
        rotate_left
        · intro w9 hSw
          go_simp
          first | done | with_reducible rfl
        simp only [Act.put, List.setIfInBounds_toArray, List.set_cons_zero, List.set_cons_succ]
        refine take' 4 (v := ?_) rfl (by kernel_rfl) (by kernel_rfl) (by kernel_rfl) (fun _ _ _ h => h) (Or.inl ⟨by rfl, ?_⟩) (by assumption) ?_
        rotate_left
        · intro w9 hSw
          go_simp
          first | done | with_reducible rfl
        simp only [Act.put, List.setIfInBounds_toArray, List.set_cons_zero, List.set_cons_succ]
        refine take' 5 (v := ?_) rfl (by kernel_rfl) (by kernel_rfl) (by kernel_rfl) (fun _ _ _ h => h) (Or.inl ⟨by rfl, ?_⟩) (by assumption) ?_
        rotate_left
        · intro w9 hSw
          go_simp
          first | done | with_reducible rfl
        simp only [Act.put, List.setIfInBounds_toArray, List.set_cons_zero, List.set_cons_succ]
        refine take' 6 (v := ?_) rfl (by kernel_rfl) (by kernel_rfl) (by kernel_rfl) (fun _ _ _ h => h) (Or.inl ⟨by rfl, ?_⟩) (by assumption) ?_
        rotate_left
        · intro w9 hSw
          go_simp
          first | done | with_reducible rfl
        simp only [Act.put, List.setIfInBounds_toArray, List.set_cons_zero, List.set_cons_succ]
        refine take' 7 (v := ?_) rfl (by kernel_rfl) (by kernel_rfl) (by kernel_rfl) (fun _ _ _ h => h) (Or.inl ⟨by rfl, ?_⟩) (by assumption) ?_
        rotate_left
        · intro w9 hSw
          go_simp
          first | done | with_reducible rfl
        simp only [Act.put, List.setIfInBounds_toArray, List.set_cons_zero, List.set_cons_succ]
        refine take' 8 (v := ?_) rfl (by kernel_rfl) (by kernel_rfl) (by kernel_rfl) (fun _ _ _ h => h) (Or.inl ⟨by rfl, ?_⟩) (by assumption) ?_
        rotate_left
        · intro w9 hSw
          go_simp
          first | done | with_reducible rfl
        simp only [Act.put, List.setIfInBounds_toArray, List.set_cons_zero, List.set_cons_succ]
        refine take' 9 (v := ?_) rfl (by kernel_rfl) (by kernel_rfl) (by kernel_rfl) (fun _ _ _ h => h) (Or.inl ⟨by rfl, ?_⟩) (by assumption) ?_
        rotate_left
        · intro w9 hSw
          go_simp
          first | done | with_reducible rfl
        simp only [Act.put, List.setIfInBounds_toArray, List.set_cons_zero, List.set_cons_succ]
        refine take' 10 (v := ?_) rfl (by kernel_rfl) (by kernel_rfl) (by kernel_rfl) (fun _ _ _ h => h) (Or.inl ⟨by rfl, ?_⟩) (by assumption) ?_
        rotate_left
        · intro w9 hSw
          go_simp
          first | done | with_reducible rfl
        simp only [Act.put, List.setIfInBounds_toArray, List.set_cons_zero, List.set_cons_succ]
        refine take' 11 (v := ?_) rfl (by kernel_rfl) (by kernel_rfl) (by kernel_rfl) (fun _ _ _ h => h) (Or.inl ⟨by rfl, ?_⟩) (by assumption) ?_
        rotate_left
        · intro w9 hSw
          go_simp
          first | done | with_reducible rfl
        simp only [Act.put, List.setIfInBounds_toArray, List.set_cons_zero, List.set_cons_succ]
        refine take' 12 (v := ?_) rfl (by kernel_rfl) (by kernel_rfl) (by kernel_rfl) (fun _ _ _ h => h) (Or.inl ⟨by rfl, ?_⟩) (by assumption) ?_
        rotate_left
        · intro w9 hSw
          go_simp
          first | done | with_reducible rfl
        simp only [Act.put, List.setIfInBounds_toArray, List.set_cons_zero, List.set_cons_succ]
        refine take' 13 (v := ?_) rfl (by kernel_rfl) (by kernel_rfl) (by kernel_rfl) (fun _ _ _ h => h) (Or.inl ⟨by rfl, ?_⟩) (by assumption) ?_
        rotate_left
        · intro w9 hSw
          go_simp
          first | done | with_reducible rfl
        simp only [Act.put, List.setIfInBounds_toArray, List.set_cons_zero, List.set_cons_succ]
        refine wpAnyH_ready (rs := [0, 14]) (by kernel_rfl) (by simp) ?_
        refine consT rfl (fun KK hKK => ?_) ?_
        · skip
          go_simp
          refine hKK.out _ _ hHeld ?_
          clear hHeld
          intro hHeld
          clear hKK KK
          try simp only [Act.put, List.setIfInBounds_toArray, List.set_cons_zero, List.set_cons_succ]
          refine wpAnyH_ready (rs := [14]) (by kernel_rfl) (by simp) ?_
          refine cons' rfl (fun KK hKK => ?_)
          go_simp
          refine (GM.out _ hf1.1 hf1.2.2.2.1 hg1.1 hg1.2.2.2.1).mono ?_
          rintro e w2 ⟨x, y, rfl, n1, n2⟩
          have b2 := n1.below
          have hcs := hBk.size
          replace hBk := hBk.trans (b2.mono hBk.size)
          replace hf1 := hf1.later b2
          replace hg1 := hg1.later b2
          replace hS := hS.later b2
          replace hT := hT.later b2
          replace s0 := below_cell b2 s0
          replace s1 := below_cell b2 s1
          replace s2 := below_cell b2 s2
          replace r0 := below_cell b2 r0
          replace r1 := below_cell b2 r1
          replace r2 := below_cell b2 r2
          replace sR := below_row b2 sR
          replace rR := below_row b2 rR
          replace hHeld := (⟨below_cell b2 hHeld.1, below_cell b2 hHeld.2.1, below_cell b2 hHeld.2.2.1, below_cell b2 hHeld.2.2.2.1, below_cell b2 hHeld.2.2.2.2.1, below_cell b2 hHeld.2.2.2.2.2.1, below_cell b2 hHeld.2.2.2.2.2.2⟩ : _ ∧ _ ∧ _ ∧ _ ∧ _ ∧ _ ∧ _)
          clear hcs
          go_wp2_with fail
          refine hKK.out _ _ hHeld ?_
          clear hHeld
          intro hHeld
          clear hKK KK
          try simp only [Act.put, List.setIfInBounds_toArray, List.set_cons_zero, List.set_cons_succ]
          refine wpAnyH_ready (rs := [15]) (by kernel_rfl) (by simp) ?_
          refine cons' rfl (fun KK hKK => ?_)
          go_simp
          refine (GA.out _ x y hS hT n1.seg n2.seg).mono ?_
          rintro e w3 ⟨x', y', rfl, n3, n4⟩
          have b3 := n3.below
          have hcs := hBk.size
          replace hBk := hBk.trans (b3.mono hBk.size)
          replace hf1 := hf1.later b3
          replace hg1 := hg1.later b3
          replace hS := hS.later b3
          replace hT := hT.later b3
          replace s0 := below_cell b3 s0
          replace s1 := below_cell b3 s1
          replace s2 := below_cell b3 s2
          replace r0 := below_cell b3 r0
          replace r1 := below_cell b3 r1
          replace r2 := below_cell b3 r2
          replace sR := below_row b3 sR
          replace rR := below_row b3 rR
          replace hHeld := (⟨below_cell b3 hHeld.1, below_cell b3 hHeld.2.1, below_cell b3 hHeld.2.2.1, below_cell b3 hHeld.2.2.2.1, below_cell b3 hHeld.2.2.2.2.1, below_cell b3 hHeld.2.2.2.2.2.1, below_cell b3 hHeld.2.2.2.2.2.2⟩ : _ ∧ _ ∧ _ ∧ _ ∧ _ ∧ _ ∧ _)
          clear hcs
          go_wp2_with fail
          refine hKK.out _ _ hHeld ?_
          clear hHeld
          intro hHeld
          clear hKK KK
          try simp only [Act.put, List.setIfInBounds_toArray, List.set_cons_zero, List.set_cons_succ]
          refine wpAnyH_ready (rs := [16]) (by kernel_rfl) (by simp) ?_
          refine cons' rfl (fun KK hKK => ?_)
          have fz := fun o => sR.frozen o
          have I1 := hide' (VInv.put (k := k + 1) HLn.out (show c ≠ w.heap.size by omega) (by omega) s0 s1 s2 sR r0 r1 r2 rR n3.seg n4.seg hBk)
          go_simp
          refine hKK.out _ _ ⟨by rw [set3_far (by omega)]; exact hHeld.1, by rw [set3_far (by omega)]; exact hHeld.2.1, by rw [set3_far (by omega)]; exact hHeld.2.2.1, by rw [set3_far (by omega)]; exact hHeld.2.2.2.1, by rw [set3_far (by omega)]; exact hHeld.2.2.2.2.1, by rw [set3_far (by omega)]; exact hHeld.2.2.2.2.2.1, by rw [set3_far (by omega)]; exact hHeld.2.2.2.2.2.2⟩ ?_
          clear hHeld
          intro hHeld
          clear hKK KK
          try simp only [Act.put, List.setIfInBounds_toArray, List.set_cons_zero, List.set_cons_succ]
          refine wpAnyH_done (by kernel_rfl) ?_ _
          go_wp2
          go_roundw
          case rel => exact ⟨k + 1, by omega, by go_num, I1.out⟩
          case measure => simp [intOf]; omega
        refine consT rfl (fun KK hKK => ?_) ?_
        · skip
          go_simp
          refine (GM.out _ hf1.1 hf1.2.2.2.1 hg1.1 hg1.2.2.2.1).mono ?_
          rintro e w2 ⟨x, y, rfl, n1, n2⟩
          have b2 := n1.below
          have hcs := hBk.size
          replace hBk := hBk.trans (b2.mono hBk.size)
          replace hf1 := hf1.later b2
          replace hg1 := hg1.later b2
          replace hS := hS.later b2
          replace hT := hT.later b2
          replace s0 := below_cell b2 s0
          replace s1 := below_cell b2 s1
          replace s2 := below_cell b2 s2
          replace r0 := below_cell b2 r0
          replace r1 := below_cell b2 r1
          replace r2 := below_cell b2 r2
          replace sR := below_row b2 sR
          replace rR := below_row b2 rR
          replace hHeld := (⟨below_cell b2 hHeld.1, below_cell b2 hHeld.2.1, below_cell b2 hHeld.2.2.1, below_cell b2 hHeld.2.2.2.1, below_cell b2 hHeld.2.2.2.2.1, below_cell b2 hHeld.2.2.2.2.2.1, below_cell b2 hHeld.2.2.2.2.2.2⟩ : _ ∧ _ ∧ _ ∧ _ ∧ _ ∧ _ ∧ _)
          clear hcs
          go_wp2_with fail
          refine hKK.out _ _ hHeld ?_
          clear hHeld
          intro hHeld
          clear hKK KK
          try simp only [Act.put, List.setIfInBounds_toArray, List.set_cons_zero, List.set_cons_succ]
          refine wpAnyH_ready (rs := [0]) (by kernel_rfl) (by simp) ?_
          refine cons' rfl (fun KK hKK => ?_)
          go_simp
          refine hKK.out _ _ hHeld ?_
          clear hHeld
          intro hHeld
          clear hKK KK
          try simp only [Act.put, List.setIfInBounds_toArray, List.set_cons_zero, List.set_cons_succ]
          refine wpAnyH_ready (rs := [15]) (by kernel_rfl) (by simp) ?_
          refine cons' rfl (fun KK hKK => ?_)
          go_simp
          refine (GA.out _ x y hS hT n1.seg n2.seg).mono ?_
          rintro e w3 ⟨x', y', rfl, n3, n4⟩
          have b3 := n3.below
          have hcs := hBk.size
          replace hBk := hBk.trans (b3.mono hBk.size)
          replace hf1 := hf1.later b3
          replace hg1 := hg1.later b3
          replace hS := hS.later b3
          replace hT := hT.later b3
          replace s0 := below_cell b3 s0
          replace s1 := below_cell b3 s1
          replace s2 := below_cell b3 s2
          replace r0 := below_cell b3 r0
          replace r1 := below_cell b3 r1
          replace r2 := below_cell b3 r2
          replace sR := below_row b3 sR
          replace rR := below_row b3 rR
          replace hHeld := (⟨below_cell b3 hHeld.1, below_cell b3 hHeld.2.1, below_cell b3 hHeld.2.2.1, below_cell b3 hHeld.2.2.2.1, below_cell b3 hHeld.2.2.2.2.1, below_cell b3 hHeld.2.2.2.2.2.1, below_cell b3 hHeld.2.2.2.2.2.2⟩ : _ ∧ _ ∧ _ ∧ _ ∧ _ ∧ _ ∧ _)
          clear hcs
          go_wp2_with fail
          refine hKK.out _ _ hHeld ?_
          clear hHeld
          intro hHeld
          clear hKK KK
          try simp only [Act.put, List.setIfInBounds_toArray, List.set_cons_zero, List.set_cons_succ]
          refine wpAnyH_ready (rs := [16]) (by kernel_rfl) (by simp) ?_
          refine cons' rfl (fun KK hKK => ?_)
          have fz := fun o => sR.frozen o
          have I1 := hide' (VInv.put (k := k + 1) HLn.out (show c ≠ w.heap.size by omega) (by omega) s0 s1 s2 sR r0 r1 r2 rR n3.seg n4.seg hBk)
          go_simp
          refine hKK.out _ _ ⟨by rw [set3_far (by omega)]; exact hHeld.1, by rw [set3_far (by omega)]; exact hHeld.2.1, by rw [set3_far (by omega)]; exact hHeld.2.2.1, by rw [set3_far (by omega)]; exact hHeld.2.2.2.1, by rw [set3_far (by omega)]; exact hHeld.2.2.2.2.1, by rw [set3_far (by omega)]; exact hHeld.2.2.2.2.2.1, by rw [set3_far (by omega)]; exact hHeld.2.2.2.2.2.2⟩ ?_
          clear hHeld
          intro hHeld
          clear hKK KK
          try simp only [Act.put, List.setIfInBounds_toArray, List.set_cons_zero, List.set_cons_succ]
          refine wpAnyH_done (by kernel_rfl) ?_ _
          go_wp2
          go_roundw
          case rel => exact ⟨k + 1, by omega, by go_num, I1.out⟩
          case measure => simp [intOf]; omega
        exact AllReadyH.nil
      · have I1 := hide' (VInv.skip (r := w.heap.size) (c := c) ⟨Zk, Vk, p, p', hLk, ⟨s0, s1, s2, sR⟩, ⟨r0, r1, r2, rR⟩, hS, hT, hBk⟩ hp)
        by_cases h0 : 0 ≤ v k
        · have h1 : ¬ v k < (m : Int) := fun h => hp ⟨h0, h⟩
          clear hp
          go_wp2
          go_roundw
          case rel => exact ⟨k + 1, by omega, by go_num, I1.out⟩
          case measure => simp [intOf]; omega
        · clear hp
          go_wp2
          go_roundw
          case rel => exact ⟨k + 1, by omega, by go_num, I1.out⟩
          case measure => simp [intOf]; omega
    · obtain rfl : k = n := by omega
      obtain ⟨rfl, rfl⟩ := Low.uniq hL hLk rfl
      have i1 : ¬ (k : Int) < (k : Int) := by omega
      have fz0 := fun o => rR.frozen o
      go_wp2
      all_goals refine bodyPost_ret (v := Value.agg #[Value.bool (ng Z), Value.slice p (ln (am Z)) (ln (am Z)), Value.slice p' (ln V) (ln V)]) (by rw [results_cell rfl]; go_simp) rfl ?_
      all_goals exact ⟨p, p', rfl, bset (bset (bset hBk (Nat.le_refl _)) (Nat.le_refl _)) (Nat.le_refl _), hS.setR r0 r1 r2, hT.setR r0 r1 r2⟩
end Go.Proofs.YtkflbhkcofmaoaaGreat
