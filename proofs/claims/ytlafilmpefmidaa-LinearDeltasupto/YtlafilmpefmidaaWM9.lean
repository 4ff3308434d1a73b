/-
  Layer 6: the reference's Deltas.
-/
import Derived.Test.YtlafilmpefmidaaWM5
import Derived.Test.YtlafilmpefmidaaWQ8
namespace Go.Proofs.Ytlafilmpefmidaa
open Go.RowKit
set_option linter.unusedVariables false

set_option maxHeartbeats 2000000 in
set_option maxRecDepth 100000 in
theorem lDeltas_is (af : Option Addr) (n capf : Nat) (v : Nat → Int) (f : Nat → RatV) (av : Option Addr) (m capv : Nat) (g h : Nat → RatV) (K : Nat) (Z : Int) (V : Nat) (Y : Int) (U : Nat) (w : World) (hcf : n ≤ capf) (hcv : m ≤ capv) (hn : n ≤ 1048576) (hm : m ≤ 1048576)
    (hF : FormAt w af n v f) (hfo : ∀ i, i < n → (f i).ok w) (hG : DelsAt w av m g h) (hgo : ∀ i, i < m → (g i).ok w ∧ (h i).ok w) (hK : ∀ i t, i < n → t < m → (f i).n + (f i).m + (g t).n + (g t).m ≤ K ∧ (f i).n + (f i).m + (h t).n + (h t).m ≤ K) (hKm : K ≤ 1048576) (hnK : n * (2 * K + 5) + 1 ≤ 1099511627776)
    (hL : Low (lnum (prods v f g m n)) (lden (prods v f g m n) : Nat) Z V) (hM : Low (lnum (prods v f h m n)) (lden (prods v f h m n) : Nat) Y U) :
    Calls Try.prog 5 #[.slice af n capf, .slice av m capv] w (Del4 Z V Y U w) := by
  have G1 := hide' (fun w' (hb : Below w.heap.size w w') => productsD_is af n capf v f av m capv g h K (2 * K + 5) w' hcf hcv hn hm (fun hp => by
    obtain ⟨b, off, e, hl, hc⟩ := hF hp
    exact ⟨b, off, e, Nat.lt_of_lt_of_le hl hb.size, fun i hi => ⟨below_cell hb (hc i hi).1, (hc i hi).2.later hb⟩⟩) (fun i hi => (hfo i hi).later hb) (hG.later hb) (fun i hi => ⟨(hgo i hi).1.later hb, (hgo i hi).2.later hb⟩) hK hKm (Nat.le_refl _))
  have G2' := fun w' => qWhole_is 0 w' (by omega) (by omega)
  have z1 : ng 0 = false := rfl
  have z2 : ln (am 0) = 0 := ln_zero
  have z3 : am 0 = 0 := rfl
  rw [z1, z2, ln_one, z3] at G2'
  have G2 := hide' G2'
  have G4' := fun w' p q k1 k2 => dOf_is false p 0 0 0 q 1 1 1 0 1 0 1 w' (Nat.le_refl _) (by omega) k1 (Nat.le_refl _) (by omega) k2 low_nought rfl rfl
  rw [z1, z2, ln_one, z3] at G4'
  have G4 := hide' G4'
  clear G2' G4' z1 z2 z3
  have G3 := hide' (fun (w' : World) (j : Nat) (hj : j ≤ n) (q r : Nat → RatV) (a p p' u u' : Option Addr) (cap : Nat) (hcap : j ≤ cap) (hmx : cap ≤ 9223372036854775807) (hR : DelsAt w' a j q r) (vo : Value) (hq : ∀ i, i < j → Good (2 * K + 5) vo w' (q i) ∧ Good (2 * K + 5) vo w' (r i)) (hE : Eqv (lq q j) (prods v f g m n)) (hE' : Eqv (lq r j) (prods v f h m n)) (h1 : Seg w' p' 1 1) (h2 : Seg w' u' 1 1) =>
    byHalvesD_is j j a cap q r p p' u u' Z V Y U w' (Nat.le_refl _) hcap hmx hR (fun i hi => ⟨(hq i hi).1.ok, (hq i hi).2.ok⟩) (fun i hi => ⟨(hq i hi).1.low, (hq i hi).2.low⟩) (by
      have h1 := bulkV_all (q := q) j fun i hi => (hq i hi).1.le
      have h2 : j * (2 * K + 5) ≤ n * (2 * K + 5) := Nat.mul_le_mul_right _ hj
      omega) (by
      have h1 := bulkV_all (q := r) j fun i hi => (hq i hi).2.le
      have h2 : j * (2 * K + 5) ≤ n * (2 * K + 5) := Nat.mul_le_mul_right _ hj
      omega) h1 h2 (Eqv.low (l := prods v f g m n) (by unfold Eqv at *; exact hE.symm) (lden_lq_pos q j) hL) (Eqv.low (l := prods v f h m n) (by unfold Eqv at *; exact hE'.symm) (lden_lq_pos r j) hM))
  clear hF hfo hG hgo hK hKm hnK hL hM
  go_enter Try.func5, Try.ntmps5
  go_wp2_with fail
  obtain ⟨W, hW⟩ : ∃ W, (w.alloc (.cells #[.bool false, .slice none 0 0, .slice none 0 0, .bool false, .slice none 0 0, .slice none 0 0] 33)) = W := ⟨_, rfl⟩
  have r00 : W.cell? ⟨w.heap.size, 0, none⟩ = some (.bool false) := by subst hW; go_simp
  have r01 : W.cell? ⟨w.heap.size, 1, none⟩ = some (.slice none 0 0) := by subst hW; go_simp
  have r02 : W.cell? ⟨w.heap.size, 2, none⟩ = some (.slice none 0 0) := by subst hW; go_simp
  have r03 : W.cell? ⟨w.heap.size, 3, none⟩ = some (.bool false) := by subst hW; go_simp
  have r04 : W.cell? ⟨w.heap.size, 4, none⟩ = some (.slice none 0 0) := by subst hW; go_simp
  have r05 : W.cell? ⟨w.heap.size, 5, none⟩ = some (.slice none 0 0) := by subst hW; go_simp
  have hB : Below w.heap.size w W := by subst hW; exact ((Below.refl _ _).alloc (by (try simp only [World.size_alloc]); omega) _)
  have hR0 : Row W (w.heap.size) := by
    have := row_new (w) #[.bool false, .slice none 0 0, .slice none 0 0, .bool false, .slice none 0 0, .slice none 0 0] 33
    try simp only [World.size_alloc] at this
    subst hW; exact this
  have hz : W.heap.size = w.heap.size + 1 := by subst hW; simp only [World.size_alloc]
  rw [hW]
  clear hW
  have hBW : Below W.heap.size W W := Below.refl _ _
  refine (G1.out _ (hB.trans (hBW.mono hB.size))).mono ?_
  rintro e w1 ⟨vo, rfl, kP1⟩
  have b1 := kP1.below
  replace hBW := hBW.trans (b1.mono hBW.size)
  replace r00 := below_cell b1 r00
  replace r01 := below_cell b1 r01
  replace r02 := below_cell b1 r02
  replace r03 := below_cell b1 r03
  replace r04 := below_cell b1 r04
  replace r05 := below_cell b1 r05
  replace hR0 := below_row b1 hR0
  obtain ⟨a, j, cap, rfl⟩ := kP1.slice
  go_wp2_with fail
  refine (G2.out _).mono ?_
  rintro e w2 ⟨p2, p2x, rfl, hp2, hq2⟩
  have b2 := hp2.below
  replace hp2 := hp2.back hBW
  replace hq2 := hq2.back hBW
  replace hBW := hBW.trans (b2.mono hBW.size)
  replace r00 := below_cell b2 r00
  replace r01 := below_cell b2 r01
  replace r02 := below_cell b2 r02
  replace r03 := below_cell b2 r03
  replace r04 := below_cell b2 r04
  replace r05 := below_cell b2 r05
  replace hR0 := below_row b2 hR0
  replace kP1 := kP1.later b2
  go_wp2_with fail
  refine (G4.out _ p2 p2x hp2.seg hq2.seg).mono ?_
  rintro e w3 ⟨p3, q3, r3, t3, rfl, hp3, hq3, hr3, ht3⟩
  have b3 := hp3.below
  replace hp3 := hp3.back hBW
  replace hq3 := hq3.back hBW
  replace hr3 := hr3.back hBW
  replace ht3 := ht3.back hBW
  replace hBW := hBW.trans (b3.mono hBW.size)
  replace r00 := below_cell b3 r00
  replace r01 := below_cell b3 r01
  replace r02 := below_cell b3 r02
  replace r03 := below_cell b3 r03
  replace r04 := below_cell b3 r04
  replace r05 := below_cell b3 r05
  replace hR0 := below_row b3 hR0
  replace kP1 := kP1.later b3
  replace hp2 := hp2.later b3
  replace hq2 := hq2.later b3
  go_wp2_with fail
  obtain ⟨q, r, j1, j2, j3, j4, j5, j6, j7⟩ := kP1.open
  refine (G3.out _ j j1 q r a p3 q3 r3 t3 cap j2 j3 j4 _ j5 j6 j7 hq3.seg ht3.seg).mono ?_
  rintro e w4 ⟨x4, y4, xx4, yy4, rfl, g4, kx4, ky4, jx4, jy4⟩
  have b4 := g4
  replace hBW := hBW.trans (b4.mono hBW.size)
  replace r00 := below_cell b4 r00
  replace r01 := below_cell b4 r01
  replace r02 := below_cell b4 r02
  replace r03 := below_cell b4 r03
  replace r04 := below_cell b4 r04
  replace r05 := below_cell b4 r05
  replace hR0 := below_row b4 hR0
  replace kP1 := kP1.later b4
  replace hp2 := hp2.later b4
  replace hq2 := hq2.later b4
  replace hp3 := hp3.later b4
  replace hq3 := hq3.later b4
  replace hr3 := hr3.later b4
  replace ht3 := ht3.later b4
  have fz0 := fun o => hR0.frozen o
  go_wp2
  all_goals refine bodyPost_ret (v := Value.agg #[Value.bool (ng Z), Value.slice x4 (ln (am Z)) (ln (am Z)), Value.slice y4 (ln V) (ln V), Value.bool (ng Y), Value.slice xx4 (ln (am Y)) (ln (am Y)), Value.slice yy4 (ln U) (ln U)]) (by rw [results_cell rfl]; go_simp) rfl ?_
  all_goals exact ⟨x4, y4, xx4, yy4, rfl, ((bset (bset (bset (bset (bset (bset (hB.trans (hBW.mono hB.size)) (by omega)) (by omega)) (by omega)) (by omega)) (by omega)) (by omega))), seg_set6 kx4 r00 r01 r02 r03 r04 r05 (by simp) (by simp) (by simp) (by simp) (by simp) (by simp), seg_set6 ky4 r00 r01 r02 r03 r04 r05 (by simp) (by simp) (by simp) (by simp) (by simp) (by simp), seg_set6 jx4 r00 r01 r02 r03 r04 r05 (by simp) (by simp) (by simp) (by simp) (by simp) (by simp), seg_set6 jy4 r00 r01 r02 r03 r04 r05 (by simp) (by simp) (by simp) (by simp) (by simp) (by simp)⟩
end Go.Proofs.Ytlafilmpefmidaa

namespace Go.Proofs.Ytlafilmpefmidaa
open Go.RowKit
set_option linter.unusedVariables false
set_option linter.unusedSimpArgs false

/-- six cells of a variable, and that it can be stored into -/
def Six (w : World) (c : Nat) (u0 u1 u2 u3 u4 u5 : Value) : Prop :=
  (w.cell? ⟨c, 0, none⟩ = some u0 ∧ w.cell? ⟨c, 1, none⟩ = some u1 ∧ w.cell? ⟨c, 2, none⟩ = some u2 ∧ w.cell? ⟨c, 3, none⟩ = some u3 ∧ w.cell? ⟨c, 4, none⟩ = some u4 ∧ w.cell? ⟨c, 5, none⟩ = some u5) ∧ Row w c
theorem Six.later {w w' : World} {c : Nat} {u0 u1 u2 u3 u4 u5 : Value} (h : Six w c u0 u1 u2 u3 u4 u5) (hb : Below w.heap.size w w') : Six w' c u0 u1 u2 u3 u4 u5 :=
  ⟨⟨below_cell hb h.1.1, below_cell hb h.1.2.1, below_cell hb h.1.2.2.1, below_cell hb h.1.2.2.2.1, below_cell hb h.1.2.2.2.2.1, below_cell hb h.1.2.2.2.2.2⟩, below_row hb h.2⟩

/-- what the loop keeps: the sum's variable lies in block c, the answer's in block r -/
def VInvD (w : World) (r c : Nat) (v : Nat → Int) (f g h : Nat → RatV) (m k : Nat) (wr : World) : Prop :=
  ∃ (Z : Int) (V : Nat) (p p' : Option Addr) (Y : Int) (U : Nat) (u u' : Option Addr), Low (lnum (prods v f g m k)) (lden (prods v f g m k) : Nat) Z V ∧ Low (lnum (prods v f h m k)) (lden (prods v f h m k) : Nat) Y U ∧
    Six wr c (.bool (ng Z)) (.slice p (ln (am Z)) (ln (am Z))) (.slice p' (ln V) (ln V)) (.bool (ng Y)) (.slice u (ln (am Y)) (ln (am Y))) (.slice u' (ln U) (ln U)) ∧
    Six wr r (.bool false) (.slice none 0 0) (.slice none 0 0) (.bool false) (.slice none 0 0) (.slice none 0 0) ∧
    Seg wr p (am Z) (ln (am Z)) ∧ Seg wr p' V (ln V) ∧ Seg wr u (am Y) (ln (am Y)) ∧ Seg wr u' U (ln U) ∧ Below w.heap.size w wr

theorem VInvD.skip {w : World} {r c : Nat} {v : Nat → Int} {f g h : Nat → RatV} {m k : Nat} {wr : World} (H : VInvD w r c v f g h m k wr) (hp : ¬ (0 ≤ v k ∧ v k < (m : Int))) : VInvD w r c v f g h m (k + 1) wr := by
  obtain ⟨Z, V, p, p', Y, U, u, u', hL, hM, rest⟩ := H
  exact ⟨Z, V, p, p', Y, U, u, u', by rw [prods_skip hp]; exact hL, by rw [prods_skip hp]; exact hM, rest⟩
theorem VInvD.put {w : World} {r c : Nat} {v : Nat → Int} {f g h : Nat → RatV} {m k : Nat} {w3 : World} {Z : Int} {V : Nat} {x y : Option Addr} {Y : Int} {U : Nat} {x' y' : Option Addr} {z0 z3 : Bool} {a1 a2 a4 a5 : Option Addr} {n1 k1 n2 k2 n4 k4 n5 k5 : Nat} (hL : Low (lnum (prods v f g m k)) (lden (prods v f g m k) : Nat) Z V) (hM : Low (lnum (prods v f h m k)) (lden (prods v f h m k) : Nat) Y U) (hne : c ≠ r) (hcl : w.heap.size ≤ c)
    (s : Six w3 c (.bool z0) (.slice a1 n1 k1) (.slice a2 n2 k2) (.bool z3) (.slice a4 n4 k4) (.slice a5 n5 k5)) (hr : Six w3 r (.bool false) (.slice none 0 0) (.slice none 0 0) (.bool false) (.slice none 0 0) (.slice none 0 0))
    (hS : Seg w3 x (am Z) (ln (am Z))) (hT : Seg w3 y V (ln V)) (hS' : Seg w3 x' (am Y) (ln (am Y))) (hT' : Seg w3 y' U (ln U)) (hB : Below w.heap.size w w3) :
    VInvD w r c v f g h m k ((((((w3.setCell ⟨c, 0, none⟩ (.bool (ng Z))).setCell ⟨c, 1, none⟩ (.slice x (ln (am Z)) (ln (am Z)))).setCell ⟨c, 2, none⟩ (.slice y (ln V) (ln V))).setCell ⟨c, 3, none⟩ (.bool (ng Y))).setCell ⟨c, 4, none⟩ (.slice x' (ln (am Y)) (ln (am Y)))).setCell ⟨c, 5, none⟩ (.slice y' (ln U) (ln U))) := by
  obtain ⟨⟨s0, s1, s2, s3, s4, s5⟩, sR⟩ := s
  obtain ⟨⟨r0, r1, r2, r3, r4, r5⟩, rR⟩ := hr
  have q := set6_same (u0 := .bool (ng Z)) (u1 := .slice x (ln (am Z)) (ln (am Z))) (u2 := .slice y (ln V) (ln V)) (u3 := .bool (ng Y)) (u4 := .slice x' (ln (am Y)) (ln (am Y))) (u5 := .slice y' (ln U) (ln U)) s0 s1 s2 s3 s4 s5
  exact ⟨Z, V, x, y, Y, U, x', y', hL, hM, ⟨q, (((((sR.setCell _ _).setCell _ _).setCell _ _).setCell _ _).setCell _ _).setCell _ _⟩,
    ⟨⟨by rw [set6_far hne]; exact r0, by rw [set6_far hne]; exact r1, by rw [set6_far hne]; exact r2, by rw [set6_far hne]; exact r3, by rw [set6_far hne]; exact r4, by rw [set6_far hne]; exact r5⟩, (((((rR.setCell _ _).setCell _ _).setCell _ _).setCell _ _).setCell _ _).setCell _ _⟩,
    seg_set6 hS s0 s1 s2 s3 s4 s5 (by simp) (by simp) (by simp) (by simp) (by simp) (by simp), seg_set6 hT s0 s1 s2 s3 s4 s5 (by simp) (by simp) (by simp) (by simp) (by simp) (by simp),
    seg_set6 hS' s0 s1 s2 s3 s4 s5 (by simp) (by simp) (by simp) (by simp) (by simp) (by simp), seg_set6 hT' s0 s1 s2 s3 s4 s5 (by simp) (by simp) (by simp) (by simp) (by simp) (by simp), bset (bset (bset (bset (bset (bset hB hcl) hcl) hcl) hcl) hcl) hcl⟩
theorem low_more {v : Nat → Int} {f g : Nat → RatV} {m k t : Nat} {Zk Zp Zn : Int} {Vk Vp Vn : Nat} (hLk : Low (lnum (prods v f g m k)) (lden (prods v f g m k) : Nat) Zk Vk) (hLp : Low (rn (f k).s (f k).X (f k).Y * rn (g t).s (g t).X (g t).Y) ((rd (f k).Y : Nat) * (rd (g t).Y : Nat)) Zp Vp) (hLn : Low (lnum (prods v f g m (k + 1))) (lden (prods v f g m (k + 1)) : Nat) Zn Vn) (hp : 0 ≤ v k ∧ v k < (m : Int)) (ht : (v k).toNat = t) :
    Low (rn (ng Zk) (am Zk) Vk * (rd Vp : Nat) + rn (ng Zp) (am Zp) Vp * (rd Vk : Nat)) ((rd Vk : Nat) * (rd Vp : Nat)) Zn Vn := by
  rw [rn_nf hLk.pos, rn_nf hLp.pos, rd_nf hLk.pos, rd_nf hLp.pos]
  have e : prods v f g m (k + 1) = prods v f g m k ++ [(rn (f k).s (f k).X (f k).Y * rn (g t).s (g t).X (g t).Y, rd (f k).Y * rd (g t).Y)] := by
    simp only [prods]
    rw [if_pos hp, ht]
  rw [e] at hLn
  refine low_halves hLk (l := prods v f g m k) (m := [(rn (f k).s (f k).X (f k).Y * rn (g t).s (g t).X (g t).Y, rd (f k).Y * rd (g t).Y)]) ?_ hLn
  have e1 : lden [(rn (f k).s (f k).X (f k).Y * rn (g t).s (g t).X (g t).Y, rd (f k).Y * rd (g t).Y)] = rd (f k).Y * rd (g t).Y := Nat.mul_one _
  have e2 : lnum [(rn (f k).s (f k).X (f k).Y * rn (g t).s (g t).X (g t).Y, rd (f k).Y * rd (g t).Y)] = rn (f k).s (f k).X (f k).Y * rn (g t).s (g t).X (g t).Y := by
    show _ * ((1 : Nat) : Int) + 0 * _ = _
    simp
  rw [e1, e2, Int.natCast_mul]
  exact hLp

set_option maxHeartbeats 4000000 in
set_option maxRecDepth 100000 in
theorem vlDeltas_is (af : Option Addr) (n capf : Nat) (v : Nat → Int) (f : Nat → RatV) (av : Option Addr) (m capv : Nat) (g h : Nat → RatV) (K : Nat) (Z : Int) (V : Nat) (Y : Int) (U : Nat) (w : World) (hcf : n ≤ capf) (hcv : m ≤ capv) (hn : n ≤ 1048576) (hm : m ≤ 1048576)
    (hF : FormAt w af n v f) (hfo : ∀ i, i < n → (f i).ok w) (hG : DelsAt w av m g h) (hgo : ∀ i, i < m → (g i).ok w ∧ (h i).ok w) (hK : ∀ i t, i < n → t < m → (f i).n + (f i).m + (g t).n + (g t).m ≤ K ∧ (f i).n + (f i).m + (h t).n + (h t).m ≤ K) (hKm : K ≤ 1048576) (hnK : n * (2 * K + 5) + 1 ≤ 1099511627776)
    (hL : Low (lnum (prods v f g m n)) (lden (prods v f g m n) : Nat) Z V) (hM : Low (lnum (prods v f h m n)) (lden (prods v f h m n) : Nat) Y U) :
    Calls Try.prog 6 #[.slice af n capf, .slice av m capv] w (Del4 Z V Y U w) := by
  have G4' := fun w' p q k1 k2 => vdOf_is false p 0 0 0 q 1 1 1 0 1 0 1 w' (Nat.le_refl _) (by omega) k1 (Nat.le_refl _) (by omega) k2 low_nought rfl rfl
  rw [show ng 0 = false from rfl, show ln (am 0) = 0 from ln_zero, ln_one, show am 0 = 0 from rfl] at G4'
  have G4 := hide' G4'
  clear G4'
  go_enter Try.func6, Try.ntmps6
  go_wp2_with fail
  obtain ⟨W, hW⟩ : ∃ W, (w.alloc (.cells #[.bool false, .slice none 0 0, .slice none 0 0, .bool false, .slice none 0 0, .slice none 0 0] 33)) = W := ⟨_, rfl⟩
  have r00 : W.cell? ⟨w.heap.size, 0, none⟩ = some (.bool false) := by subst hW; go_simp
  have r01 : W.cell? ⟨w.heap.size, 1, none⟩ = some (.slice none 0 0) := by subst hW; go_simp
  have r02 : W.cell? ⟨w.heap.size, 2, none⟩ = some (.slice none 0 0) := by subst hW; go_simp
  have r03 : W.cell? ⟨w.heap.size, 3, none⟩ = some (.bool false) := by subst hW; go_simp
  have r04 : W.cell? ⟨w.heap.size, 4, none⟩ = some (.slice none 0 0) := by subst hW; go_simp
  have r05 : W.cell? ⟨w.heap.size, 5, none⟩ = some (.slice none 0 0) := by subst hW; go_simp
  have hB : Below w.heap.size w W := by subst hW; exact ((Below.refl _ _).alloc (by (try simp only [World.size_alloc]); omega) _)
  have hR0 : Row W (w.heap.size) := by
    have := row_new (w) #[.bool false, .slice none 0 0, .slice none 0 0, .bool false, .slice none 0 0, .slice none 0 0] 33
    try simp only [World.size_alloc] at this
    subst hW; exact this
  have hz : W.heap.size = w.heap.size + 1 := by subst hW; simp only [World.size_alloc]
  rw [hW]
  clear hW
  have hBW : Below W.heap.size W W := Below.refl _ _
  refine (vlzero_is _).mono ?_
  rintro e w1 ⟨p1, q1, rfl, hp1, hq1⟩
  have b1 := hp1.below
  replace hp1 := hp1.back hBW
  replace hq1 := hq1.back hBW
  replace hBW := hBW.trans (b1.mono hBW.size)
  replace r00 := below_cell b1 r00
  replace r01 := below_cell b1 r01
  replace r02 := below_cell b1 r02
  replace r03 := below_cell b1 r03
  replace r04 := below_cell b1 r04
  replace r05 := below_cell b1 r05
  replace hR0 := below_row b1 hR0
  go_wp2_with fail
  refine (G4.out _ p1 q1 hp1.seg hq1.seg).mono ?_
  rintro e w2 ⟨p2, q2, s2, t2, rfl, hp2, hq2, hs2, ht2⟩
  have b2 := hp2.below
  replace hp2 := hp2.back hBW
  replace hq2 := hq2.back hBW
  replace hs2 := hs2.back hBW
  replace ht2 := ht2.back hBW
  replace hBW := hBW.trans (b2.mono hBW.size)
  replace r00 := below_cell b2 r00
  replace r01 := below_cell b2 r01
  replace r02 := below_cell b2 r02
  replace r03 := below_cell b2 r03
  replace r04 := below_cell b2 r04
  replace r05 := below_cell b2 r05
  replace hR0 := below_row b2 hR0
  replace hp1 := hp1.later b2
  replace hq1 := hq1.later b2
  go_wp2_with fail
  obtain ⟨wS, hwS⟩ : ∃ wS, w2.alloc (.cells #[.bool false, .slice p2 0 0, .slice q2 1 1, .bool false, .slice s2 0 0, .slice t2 1 1] 33) = wS := ⟨_, rfl⟩
  have s : Six wS w2.heap.size (.bool false) (.slice p2 0 0) (.slice q2 1 1) (.bool false) (.slice s2 0 0) (.slice t2 1 1) := ⟨⟨by subst hwS; go_simp, by subst hwS; go_simp, by subst hwS; go_simp, by subst hwS; go_simp, by subst hwS; go_simp, by subst hwS; go_simp⟩, by subst hwS; exact row_new w2 _ 33⟩
  have bS : Below w2.heap.size w2 wS := by subst hwS; exact below_alloc _
  rw [hwS]
  clear hwS
  have hcr : w.heap.size < w2.heap.size := hR0.lt
  have hr : Six wS w.heap.size (.bool false) (.slice none 0 0) (.slice none 0 0) (.bool false) (.slice none 0 0) (.slice none 0 0) := Six.later ⟨⟨r00, r01, r02, r03, r04, r05⟩, hR0⟩ bS
  have I0 : VInvD w w.heap.size w2.heap.size v f g h m 0 wS := ⟨0, 1, p2, q2, 0, 1, s2, t2, low_zero (by show ((1 : Nat) : Int) ≠ 0; omega), low_zero (by show ((1 : Nat) : Int) ≠ 0; omega), by rw [show am 0 = 0 from rfl, ln_zero, ln_one]; exact s, hr, by rw [show am 0 = 0 from rfl, ln_zero]; exact Seg.nil _ _, by rw [ln_one]; exact hq2.seg.later bS, by rw [show am 0 = 0 from rfl, ln_zero]; exact Seg.nil _ _, by rw [ln_one]; exact ht2.seg.later bS, (hB.trans (hBW.mono hB.size)).trans (bS.mono (Nat.le_of_lt hcr))⟩
  generalize w2.heap.size = c at *
  go_loopw [6] (fun vi wr => ∃ k : Nat, k ≤ n ∧ vi = .int .i64 k ∧ VInvD w w.heap.size c v f g h m k wr) (fun vi _ => n - (intOf vi).toNat)
  case atStart => exact ⟨0, Nat.zero_le _, rfl, I0⟩
  case round =>
    clear I0 s hr bS hp1 hq1 hp2 hq2 hs2 ht2 r00 r01 r02 r03 r04 r05 hR0 hBW hB hz G4
    obtain ⟨k, hk, rfl, Zk, Vk, p, p', Yk, Uk, u, u', hLk, hMk, s, hr, hS, hT, hS', hT', hBk⟩ := hrel
    by_cases hlt : k < n
    · obtain ⟨b, off, rfl, hb, hcell⟩ := hF (by omega)
      obtain ⟨c0, c1, c2, c3⟩ := hcell k hlt
      replace c0 := below_cell hBk c0
      replace c1 := below_cell hBk c1
      replace c2 := below_cell hBk c2
      replace c3 := below_cell hBk c3
      have i0 : (0 : Int) ≤ (k : Int) := by omega
      have i1 : (k : Int) < (n : Int) := by omega
      by_cases hp : 0 ≤ v k ∧ v k < (m : Int)
      · obtain ⟨t, ht⟩ : ∃ t : Nat, v k = (t : Int) := ⟨(v k).toNat, by omega⟩
        have htm : t < m := by omega
        have t0 : (0 : Int) ≤ (t : Int) := by omega
        have t1 : (t : Int) < (m : Int) := by omega
        rw [ht] at c0
        obtain ⟨b', off', rfl, hb', hcell'⟩ := hG (by omega)
        obtain ⟨⟨d0, d1, d2⟩, d3, d4, d5⟩ := hcell' t htm
        have hf1 := (hfo k hlt).later hBk
        have hg1 := (hgo t htm).1.later hBk
        have hh1 := (hgo t htm).2.later hBk
        have hfg := hK k t hlt htm
        replace d0 := below_cell hBk d0
        replace d1 := below_cell hBk d1
        replace d2 := below_cell hBk d2
        replace d3 := below_cell hBk d3
        replace d4 : wr.cell? ⟨b', off' + t * 6 + 4, none⟩ = _ := below_cell hBk d4
        replace d5 : wr.cell? ⟨b', off' + t * 6 + 5, none⟩ = _ := below_cell hBk d5
        obtain ⟨Zp, Vp, hLp⟩ := low_ex (rn (f k).s (f k).X (f k).Y * rn (g t).s (g t).X (g t).Y) ((rd (f k).Y : Nat) * (rd (g t).Y : Nat)) (Int.mul_ne_zero (rd_ne _) (rd_ne _))
        obtain ⟨Yp, Up, hMp⟩ := low_ex (rn (f k).s (f k).X (f k).Y * rn (h t).s (h t).X (h t).Y) ((rd (f k).Y : Nat) * (rd (h t).Y : Nat)) (Int.mul_ne_zero (rd_ne _) (rd_ne _))
        have lZp : ln (am Zp) ≤ K + 2 ∧ ln Vp ≤ K + 2 := ln1 (i := (f k).n + (g t).n) (j := ((f k).m + 1) + ((g t).m + 1)) hLp (lt_prod (Nat.lt_of_le_of_lt (rn_am _ _ _) hf1.1.1) (Nat.lt_of_le_of_lt (rn_am _ _ _) hg1.1.1)) (lt_prod (by show rd _ < _; exact rd_lt hf1.2.2.2.1.1) (by show rd _ < _; exact rd_lt hg1.2.2.2.1.1)) (by omega) (by omega)
        have lYp : ln (am Yp) ≤ K + 2 ∧ ln Up ≤ K + 2 := ln1 (i := (f k).n + (h t).n) (j := ((f k).m + 1) + ((h t).m + 1)) hMp (lt_prod (Nat.lt_of_le_of_lt (rn_am _ _ _) hf1.1.1) (Nat.lt_of_le_of_lt (rn_am _ _ _) hh1.1.1)) (lt_prod (by show rd _ < _; exact rd_lt hf1.2.2.2.1.1) (by show rd _ < _; exact rd_lt hh1.2.2.2.1.1)) (by omega) (by omega)
        have lZk := prods_ln (v := v) (n := k) (fun i hi => hfo i (by omega)) (fun i hi => (hgo i hi).1) (fun i t hi ht => (hK i t (by omega) ht).1) hLk
        have lYk := prods_ln (v := v) (n := k) (fun i hi => hfo i (by omega)) (fun i hi => (hgo i hi).2) (fun i t hi ht => (hK i t (by omega) ht).2) hMk
        have hkK : k * (K + 1) ≤ n * (2 * K + 5) := Nat.mul_le_mul hk (by omega)
        obtain ⟨Zn, Vn, hLn⟩ := low_ex (lnum (prods v f g m (k + 1))) (lden (prods v f g m (k + 1)) : Nat) (by have := lden_prods_pos v f g m (k + 1); omega)
        obtain ⟨Yn, Un, hMn⟩ := low_ex (lnum (prods v f h m (k + 1))) (lden (prods v f h m (k + 1)) : Nat) (by have := lden_prods_pos v f h m (k + 1); omega)
        have hLa := low_more hLk hLp hLn hp (by omega)
        have hMa := low_more hMk hMp hMn hp (by omega)
        have GM := hide' (fun w' k1 k2 k3 k4 k5 k6 => vdScale_is (f k).s (f k).a (f k).n (f k).c (f k).X (f k).b (f k).m (f k).e (f k).Y (g t).s (g t).a (g t).n (g t).c (g t).X (g t).b (g t).m (g t).e (g t).Y (h t).s (h t).a (h t).n (h t).c (h t).X (h t).b (h t).m (h t).e (h t).Y Zp Vp Yp Up w' hf1.2.1 (by omega) k1 hf1.2.2.2.2.1 (by omega) k2 hg1.2.1 (by omega) k3 hg1.2.2.2.2.1 (by omega) k4 hh1.2.1 (by omega) k5 hh1.2.2.2.2.1 (by omega) k6 hLp hMp)
        have GA := hide' (fun w' x y x' y' k1 k2 k3 k4 j1 j2 j3 j4 => vdAdd_is (ng Zk) p (ln (am Zk)) (ln (am Zk)) (am Zk) p' (ln Vk) (ln Vk) Vk (ng Yk) u (ln (am Yk)) (ln (am Yk)) (am Yk) u' (ln Uk) (ln Uk) Uk (ng Zp) x (ln (am Zp)) (ln (am Zp)) (am Zp) y (ln Vp) (ln Vp) Vp (ng Yp) x' (ln (am Yp)) (ln (am Yp)) (am Yp) y' (ln Up) (ln Up) Up Zn Vn Yn Un w'
          (Nat.le_refl _) (by omega) k1 (Nat.le_refl _) (by omega) k2 (Nat.le_refl _) (by omega) k3 (Nat.le_refl _) (by omega) k4 (Nat.le_refl _) (by omega) j1 (Nat.le_refl _) (by omega) j2 (Nat.le_refl _) (by omega) j3 (Nat.le_refl _) (by omega) j4 hLa hMa)
        have HLn := hide' hLn
        have HMn := hide' hMn
        clear hLn hLa hLp hLk hkK lZk lZp hMn hMa hMp hMk lYk lYp ht hp hcell hcell'
        obtain ⟨⟨s0, s1, s2, s3, s4, s5⟩, sR⟩ := s
        go_wp2_with fail
        replace hBk : Below w.heap.size w wr.drew := hBk.drew
        replace hf1 : (f k).ok wr.drew := hf1
        replace hg1 : (g t).ok wr.drew := hg1
        replace hh1 : (h t).ok wr.drew := hh1
        replace hS : Seg wr.drew p (am Zk) (ln (am Zk)) := hS
        replace hT : Seg wr.drew p' Vk (ln Vk) := hT
        replace hS' : Seg wr.drew u (am Yk) (ln (am Yk)) := hS'
        replace hT' : Seg wr.drew u' Uk (ln Uk) := hT'
        replace hr : Six wr.drew w.heap.size (.bool false) (.slice none 0 0) (.slice none 0 0) (.bool false) (.slice none 0 0) (.slice none 0 0) := hr
        replace sR : Row wr.drew c := sR
        replace s0 : wr.drew.cell? ⟨c, 0, none⟩ = some (.bool (ng Zk)) := s0
        replace s1 : wr.drew.cell? ⟨c, 1, none⟩ = some (.slice p (ln (am Zk)) (ln (am Zk))) := s1
        replace s2 : wr.drew.cell? ⟨c, 2, none⟩ = some (.slice p' (ln Vk) (ln Vk)) := s2
        replace s3 : wr.drew.cell? ⟨c, 3, none⟩ = some (.bool (ng Yk)) := s3
        replace s4 : wr.drew.cell? ⟨c, 4, none⟩ = some (.slice u (ln (am Yk)) (ln (am Yk))) := s4
        replace s5 : wr.drew.cell? ⟨c, 5, none⟩ = some (.slice u' (ln Uk) (ln Uk)) := s5
        refine wp_region_held_drew (S := fun w' => w'.cell? ⟨b, off + k * 4, none⟩ = some (.int .i64 (t : Int)) ∧ w'.cell? ⟨b, off + k * 4 + 1, none⟩ = some (.bool (f k).s) ∧ w'.cell? ⟨b, off + k * 4 + 1 + 1, none⟩ = some (.slice (f k).a (f k).n (f k).c) ∧ w'.cell? ⟨b, off + k * 4 + 1 + 2, none⟩ = some (.slice (f k).b (f k).m (f k).e) ∧ w'.cell? ⟨b', off' + t * 6, none⟩ = some (.bool (g t).s) ∧ w'.cell? ⟨b', off' + t * 6 + 1, none⟩ = some (.slice (g t).a (g t).n (g t).c) ∧ w'.cell? ⟨b', off' + t * 6 + 2, none⟩ = some (.slice (g t).b (g t).m (g t).e) ∧ w'.cell? ⟨b', off' + t * 6 + 3, none⟩ = some (.bool (h t).s) ∧ w'.cell? ⟨b', off' + t * 6 + 4, none⟩ = some (.slice (h t).a (h t).n (h t).c) ∧ w'.cell? ⟨b', off' + t * 6 + 5, none⟩ = some (.slice (h t).b (h t).m (h t).e)) (by kernel_rfl) ⟨c0, c1, c2, c3, d0, d1, d2, d3, d4, d5⟩ (fun hHeld => ?_)
        clear c0 c1 c2 c3 d0 d1 d2 d3 d4 d5
        generalize wr.drew = w0 at hBk hf1 hg1 hh1 hS hT hS' hT' s0 s1 s2 s3 s4 s5 sR hr hHeld ⊢
        refine take' 1 (v := ?_) rfl (by kernel_rfl) (by kernel_rfl) (by kernel_rfl) (fun _ _ _ h => h) (Or.inl ⟨by rfl, ?_⟩) (by assumption) ?_
        rotate_left
        · intro w9 hSw
          go_simp
          first | done | with_reducible rfl
        simp only [Act.put, List.setIfInBounds_toArray, List.set_cons_zero, List.set_cons_succ]
        refine take' 2 (v := ?_) rfl (by kernel_rfl) (by kernel_rfl) (by kernel_rfl) (fun _ _ _ h => h) (Or.inl ⟨by rfl, ?_⟩) (by assumption) ?_
        rotate_left
        · intro w9 hSw
          go_simp
          first | done | with_reducible rfl
        simp only [Act.put, List.setIfInBounds_toArray, List.set_cons_zero, List.set_cons_succ]
        refine take' 3 (v := ?_) rfl (by kernel_rfl) (by kernel_rfl) (by kernel_rfl) (fun _ _ _ h => h) (Or.inl ⟨by rfl, ?_⟩) (by assumption) ?_
        rotate_left
        · intro w9 hSw
          go_simp
          first | done | with_reducible rfl
        simp only [Act.put, List.setIfInBounds_toArray, List.set_cons_zero, List.set_cons_succ]
        refine take' 4 (v := ?_) rfl (by kernel_rfl) (by kernel_rfl) (by kernel_rfl) (fun _ _ _ h => h) (Or.inl ⟨by rfl, ?_⟩) (by assumption) ?_
        rotate_left
        · intro w9 hSw
          go_simp
          first | done | with_reducible rfl
        simp only [Act.put, List.setIfInBounds_toArray, List.set_cons_zero, List.set_cons_succ]
        refine take' 5 (v := ?_) rfl (by kernel_rfl) (by kernel_rfl) (by kernel_rfl) (fun _ _ _ h => h) (Or.inl ⟨by rfl, ?_⟩) (by assumption) ?_
        rotate_left
        · intro w9 hSw
          go_simp
          first | done | with_reducible rfl
        simp only [Act.put, List.setIfInBounds_toArray, List.set_cons_zero, List.set_cons_succ]
        refine take' 6 (v := ?_) rfl (by kernel_rfl) (by kernel_rfl) (by kernel_rfl) (fun _ _ _ h => h) (Or.inl ⟨by rfl, ?_⟩) (by assumption) ?_
        rotate_left
        · intro w9 hSw
          go_simp
          first | done | with_reducible rfl
        simp only [Act.put, List.setIfInBounds_toArray, List.set_cons_zero, List.set_cons_succ]
        refine take' 7 (v := ?_) rfl (by kernel_rfl) (by kernel_rfl) (by kernel_rfl) (fun _ _ _ h => h) (Or.inl ⟨by rfl, ?_⟩) (by assumption) ?_
        rotate_left
        · intro w9 hSw
          go_simp
          first | done | with_reducible rfl
        simp only [Act.put, List.setIfInBounds_toArray, List.set_cons_zero, List.set_cons_succ]
        refine take' 8 (v := ?_) rfl (by kernel_rfl) (by kernel_rfl) (by kernel_rfl) (fun _ _ _ h => h) (Or.inl ⟨by rfl, ?_⟩) (by assumption) ?_
        rotate_left
        · intro w9 hSw
          go_simp
          first | done | with_reducible rfl
        simp only [Act.put, List.setIfInBounds_toArray, List.set_cons_zero, List.set_cons_succ]
        refine take' 9 (v := ?_) rfl (by kernel_rfl) (by kernel_rfl) (by kernel_rfl) (fun _ _ _ h => h) (Or.inl ⟨by rfl, ?_⟩) (by assumption) ?_
        rotate_left
        · intro w9 hSw
          go_simp
          first | done | with_reducible rfl
        simp only [Act.put, List.setIfInBounds_toArray, List.set_cons_zero, List.set_cons_succ]
        refine take' 10 (v := ?_) rfl (by kernel_rfl) (by kernel_rfl) (by kernel_rfl) (fun _ _ _ h => h) (Or.inl ⟨by rfl, ?_⟩) (by assumption) ?_
        rotate_left
        · intro w9 hSw
          go_simp
          first | done | with_reducible rfl
        simp only [Act.put, List.setIfInBounds_toArray, List.set_cons_zero, List.set_cons_succ]
        refine take' 11 (v := ?_) rfl (by kernel_rfl) (by kernel_rfl) (by kernel_rfl) (fun _ _ _ h => h) (Or.inl ⟨by rfl, ?_⟩) (by assumption) ?_
        rotate_left
        · intro w9 hSw
          go_simp
          first | done | with_reducible rfl
        simp only [Act.put, List.setIfInBounds_toArray, List.set_cons_zero, List.set_cons_succ]
        refine take' 12 (v := ?_) rfl (by kernel_rfl) (by kernel_rfl) (by kernel_rfl) (fun _ _ _ h => h) (Or.inl ⟨by rfl, ?_⟩) (by assumption) ?_
        rotate_left
        · intro w9 hSw
          go_simp
          first | done | with_reducible rfl
        simp only [Act.put, List.setIfInBounds_toArray, List.set_cons_zero, List.set_cons_succ]
        refine take' 13 (v := ?_) rfl (by kernel_rfl) (by kernel_rfl) (by kernel_rfl) (fun _ _ _ h => h) (Or.inl ⟨by rfl, ?_⟩) (by assumption) ?_
        rotate_left
        · intro w9 hSw
          go_simp
          first | done | with_reducible rfl
        simp only [Act.put, List.setIfInBounds_toArray, List.set_cons_zero, List.set_cons_succ]
        refine wpAnyH_ready (rs := [0, 14]) (by kernel_rfl) (by simp) ?_
        refine consT rfl (fun KK hKK => ?_) ?_
        · skip
          go_simp
          refine hKK.out _ _ hHeld ?_
          clear hHeld
          intro hHeld
          clear hKK KK
          try simp only [Act.put, List.setIfInBounds_toArray, List.set_cons_zero, List.set_cons_succ]
          refine wpAnyH_ready (rs := [14]) (by kernel_rfl) (by simp) ?_
          refine cons' rfl (fun KK hKK => ?_)
          go_simp
          refine (GM.out _ hf1.1 hf1.2.2.2.1 hg1.1 hg1.2.2.2.1 hh1.1 hh1.2.2.2.1).mono ?_
          rintro e w2 ⟨x, y, x', y', rfl, n1, n2, n3, n4⟩
          have b2 := n1.below
          have hcs := hBk.size
          replace hBk := hBk.trans (b2.mono hBk.size)
          replace hf1 := hf1.later b2
          replace hg1 := hg1.later b2
          replace hh1 := hh1.later b2
          replace hS := hS.later b2
          replace hT := hT.later b2
          replace hS' := hS'.later b2
          replace hT' := hT'.later b2
          replace hr := hr.later b2
          replace s0 := below_cell b2 s0
          replace s1 := below_cell b2 s1
          replace s2 := below_cell b2 s2
          replace s3 := below_cell b2 s3
          replace s4 := below_cell b2 s4
          replace s5 := below_cell b2 s5
          replace sR := below_row b2 sR
          replace hHeld := (⟨below_cell b2 hHeld.1, below_cell b2 hHeld.2.1, below_cell b2 hHeld.2.2.1, below_cell b2 hHeld.2.2.2.1, below_cell b2 hHeld.2.2.2.2.1, below_cell b2 hHeld.2.2.2.2.2.1, below_cell b2 hHeld.2.2.2.2.2.2.1, below_cell b2 hHeld.2.2.2.2.2.2.2.1, below_cell b2 hHeld.2.2.2.2.2.2.2.2.1, below_cell b2 hHeld.2.2.2.2.2.2.2.2.2⟩ : _ ∧ _ ∧ _ ∧ _ ∧ _ ∧ _ ∧ _ ∧ _ ∧ _ ∧ _)
          clear hcs
          go_wp2_with fail
          refine hKK.out _ _ hHeld ?_
          clear hHeld
          intro hHeld
          clear hKK KK
          try simp only [Act.put, List.setIfInBounds_toArray, List.set_cons_zero, List.set_cons_succ]
          refine wpAnyH_ready (rs := [15]) (by kernel_rfl) (by simp) ?_
          refine cons' rfl (fun KK hKK => ?_)
          go_simp
          refine (GA.out _ x y x' y' hS hT hS' hT' n1.seg n2.seg n3.seg n4.seg).mono ?_
          rintro e w3 ⟨xn, yn, xn', yn', rfl, n5, n6, n7, n8⟩
          have b3 := n5.below
          have hcs := hBk.size
          replace hBk := hBk.trans (b3.mono hBk.size)
          replace hf1 := hf1.later b3
          replace hg1 := hg1.later b3
          replace hh1 := hh1.later b3
          replace hS := hS.later b3
          replace hT := hT.later b3
          replace hS' := hS'.later b3
          replace hT' := hT'.later b3
          replace hr := hr.later b3
          replace s0 := below_cell b3 s0
          replace s1 := below_cell b3 s1
          replace s2 := below_cell b3 s2
          replace s3 := below_cell b3 s3
          replace s4 := below_cell b3 s4
          replace s5 := below_cell b3 s5
          replace sR := below_row b3 sR
          replace hHeld := (⟨below_cell b3 hHeld.1, below_cell b3 hHeld.2.1, below_cell b3 hHeld.2.2.1, below_cell b3 hHeld.2.2.2.1, below_cell b3 hHeld.2.2.2.2.1, below_cell b3 hHeld.2.2.2.2.2.1, below_cell b3 hHeld.2.2.2.2.2.2.1, below_cell b3 hHeld.2.2.2.2.2.2.2.1, below_cell b3 hHeld.2.2.2.2.2.2.2.2.1, below_cell b3 hHeld.2.2.2.2.2.2.2.2.2⟩ : _ ∧ _ ∧ _ ∧ _ ∧ _ ∧ _ ∧ _ ∧ _ ∧ _ ∧ _)
          clear hcs
          go_wp2_with fail
          refine hKK.out _ _ hHeld ?_
          clear hHeld
          intro hHeld
          clear hKK KK
          try simp only [Act.put, List.setIfInBounds_toArray, List.set_cons_zero, List.set_cons_succ]
          refine wpAnyH_ready (rs := [16]) (by kernel_rfl) (by simp) ?_
          refine cons' rfl (fun KK hKK => ?_)
          have fz := fun o => sR.frozen o
          have I1 := hide' (VInvD.put (k := k + 1) HLn.out HMn.out (show c ≠ w.heap.size by omega) (by omega) ⟨⟨s0, s1, s2, s3, s4, s5⟩, sR⟩ hr n5.seg n6.seg n7.seg n8.seg hBk)
          go_simp
          refine hKK.out _ _ ⟨by rw [set6_far (by omega)]; exact hHeld.1, by rw [set6_far (by omega)]; exact hHeld.2.1, by rw [set6_far (by omega)]; exact hHeld.2.2.1, by rw [set6_far (by omega)]; exact hHeld.2.2.2.1, by rw [set6_far (by omega)]; exact hHeld.2.2.2.2.1, by rw [set6_far (by omega)]; exact hHeld.2.2.2.2.2.1, by rw [set6_far (by omega)]; exact hHeld.2.2.2.2.2.2.1, by rw [set6_far (by omega)]; exact hHeld.2.2.2.2.2.2.2.1, by rw [set6_far (by omega)]; exact hHeld.2.2.2.2.2.2.2.2.1, by rw [set6_far (by omega)]; exact hHeld.2.2.2.2.2.2.2.2.2⟩ ?_
          clear hHeld
          intro hHeld
          clear hKK KK
          try simp only [Act.put, List.setIfInBounds_toArray, List.set_cons_zero, List.set_cons_succ]
          refine wpAnyH_done (by kernel_rfl) ?_ _
          go_wp2
          go_roundw
          case rel => exact ⟨k + 1, by omega, by go_num, I1.out⟩
          case measure => simp [intOf]; omega
        refine consT rfl (fun KK hKK => ?_) ?_
        · skip
          go_simp
          refine (GM.out _ hf1.1 hf1.2.2.2.1 hg1.1 hg1.2.2.2.1 hh1.1 hh1.2.2.2.1).mono ?_
          rintro e w2 ⟨x, y, x', y', rfl, n1, n2, n3, n4⟩
          have b2 := n1.below
          have hcs := hBk.size
          replace hBk := hBk.trans (b2.mono hBk.size)
          replace hf1 := hf1.later b2
          replace hg1 := hg1.later b2
          replace hh1 := hh1.later b2
          replace hS := hS.later b2
          replace hT := hT.later b2
          replace hS' := hS'.later b2
          replace hT' := hT'.later b2
          replace hr := hr.later b2
          replace s0 := below_cell b2 s0
          replace s1 := below_cell b2 s1
          replace s2 := below_cell b2 s2
          replace s3 := below_cell b2 s3
          replace s4 := below_cell b2 s4
          replace s5 := below_cell b2 s5
          replace sR := below_row b2 sR
          replace hHeld := (⟨below_cell b2 hHeld.1, below_cell b2 hHeld.2.1, below_cell b2 hHeld.2.2.1, below_cell b2 hHeld.2.2.2.1, below_cell b2 hHeld.2.2.2.2.1, below_cell b2 hHeld.2.2.2.2.2.1, below_cell b2 hHeld.2.2.2.2.2.2.1, below_cell b2 hHeld.2.2.2.2.2.2.2.1, below_cell b2 hHeld.2.2.2.2.2.2.2.2.1, below_cell b2 hHeld.2.2.2.2.2.2.2.2.2⟩ : _ ∧ _ ∧ _ ∧ _ ∧ _ ∧ _ ∧ _ ∧ _ ∧ _ ∧ _)
          clear hcs
          go_wp2_with fail
          refine hKK.out _ _ hHeld ?_
          clear hHeld
          intro hHeld
          clear hKK KK
          try simp only [Act.put, List.setIfInBounds_toArray, List.set_cons_zero, List.set_cons_succ]
          refine wpAnyH_ready (rs := [0]) (by kernel_rfl) (by simp) ?_
          refine cons' rfl (fun KK hKK => ?_)
          go_simp
          refine hKK.out _ _ hHeld ?_
          clear hHeld
          intro hHeld
          clear hKK KK
          try simp only [Act.put, List.setIfInBounds_toArray, List.set_cons_zero, List.set_cons_succ]
          refine wpAnyH_ready (rs := [15]) (by kernel_rfl) (by simp) ?_
          refine cons' rfl (fun KK hKK => ?_)
          go_simp
          refine (GA.out _ x y x' y' hS hT hS' hT' n1.seg n2.seg n3.seg n4.seg).mono ?_
          rintro e w3 ⟨xn, yn, xn', yn', rfl, n5, n6, n7, n8⟩
          have b3 := n5.below
          have hcs := hBk.size
          replace hBk := hBk.trans (b3.mono hBk.size)
          replace hf1 := hf1.later b3
          replace hg1 := hg1.later b3
          replace hh1 := hh1.later b3
          replace hS := hS.later b3
          replace hT := hT.later b3
          replace hS' := hS'.later b3
          replace hT' := hT'.later b3
          replace hr := hr.later b3
          replace s0 := below_cell b3 s0
          replace s1 := below_cell b3 s1
          replace s2 := below_cell b3 s2
          replace s3 := below_cell b3 s3
          replace s4 := below_cell b3 s4
          replace s5 := below_cell b3 s5
          replace sR := below_row b3 sR
          replace hHeld := (⟨below_cell b3 hHeld.1, below_cell b3 hHeld.2.1, below_cell b3 hHeld.2.2.1, below_cell b3 hHeld.2.2.2.1, below_cell b3 hHeld.2.2.2.2.1, below_cell b3 hHeld.2.2.2.2.2.1, below_cell b3 hHeld.2.2.2.2.2.2.1, below_cell b3 hHeld.2.2.2.2.2.2.2.1, below_cell b3 hHeld.2.2.2.2.2.2.2.2.1, below_cell b3 hHeld.2.2.2.2.2.2.2.2.2⟩ : _ ∧ _ ∧ _ ∧ _ ∧ _ ∧ _ ∧ _ ∧ _ ∧ _ ∧ _)
          clear hcs
          go_wp2_with fail
          refine hKK.out _ _ hHeld ?_
          clear hHeld
          intro hHeld
          clear hKK KK
          try simp only [Act.put, List.setIfInBounds_toArray, List.set_cons_zero, List.set_cons_succ]
          refine wpAnyH_ready (rs := [16]) (by kernel_rfl) (by simp) ?_
          refine cons' rfl (fun KK hKK => ?_)
          have fz := fun o => sR.frozen o
          have I1 := hide' (VInvD.put (k := k + 1) HLn.out HMn.out (show c ≠ w.heap.size by omega) (by omega) ⟨⟨s0, s1, s2, s3, s4, s5⟩, sR⟩ hr n5.seg n6.seg n7.seg n8.seg hBk)
          go_simp
          refine hKK.out _ _ ⟨by rw [set6_far (by omega)]; exact hHeld.1, by rw [set6_far (by omega)]; exact hHeld.2.1, by rw [set6_far (by omega)]; exact hHeld.2.2.1, by rw [set6_far (by omega)]; exact hHeld.2.2.2.1, by rw [set6_far (by omega)]; exact hHeld.2.2.2.2.1, by rw [set6_far (by omega)]; exact hHeld.2.2.2.2.2.1, by rw [set6_far (by omega)]; exact hHeld.2.2.2.2.2.2.1, by rw [set6_far (by omega)]; exact hHeld.2.2.2.2.2.2.2.1, by rw [set6_far (by omega)]; exact hHeld.2.2.2.2.2.2.2.2.1, by rw [set6_far (by omega)]; exact hHeld.2.2.2.2.2.2.2.2.2⟩ ?_
          clear hHeld
          intro hHeld
          clear hKK KK
          try simp only [Act.put, List.setIfInBounds_toArray, List.set_cons_zero, List.set_cons_succ]
          refine wpAnyH_done (by kernel_rfl) ?_ _
          go_wp2
          go_roundw
          case rel => exact ⟨k + 1, by omega, by go_num, I1.out⟩
          case measure => simp [intOf]; omega
        exact AllReadyH.nil
      · have I1 := hide' (VInvD.skip (r := w.heap.size) (c := c) ⟨Zk, Vk, p, p', Yk, Uk, u, u', hLk, hMk, s, hr, hS, hT, hS', hT', hBk⟩ hp)
        by_cases h0 : 0 ≤ v k
        · have h1 : ¬ v k < (m : Int) := fun h => hp ⟨h0, h⟩
          clear hp
          go_wp2
          go_roundw
          case rel => exact ⟨k + 1, by omega, by go_num, I1.out⟩
          case measure => simp [intOf]; omega
        · clear hp
          go_wp2
          go_roundw
          case rel => exact ⟨k + 1, by omega, by go_num, I1.out⟩
          case measure => simp [intOf]; omega
    · obtain rfl : k = n := by omega
      obtain ⟨rfl, rfl⟩ := Low.uniq hL hLk rfl
      obtain ⟨rfl, rfl⟩ := Low.uniq hM hMk rfl
      have i1 : ¬ (k : Int) < (k : Int) := by omega
      obtain ⟨⟨s0, s1, s2, s3, s4, s5⟩, sR⟩ := s
      obtain ⟨⟨r0, r1, r2, r3, r4, r5⟩, rR⟩ := hr
      have fz0 := fun o => rR.frozen o
      go_wp2
      all_goals refine bodyPost_ret (v := Value.agg #[Value.bool (ng Z), Value.slice p (ln (am Z)) (ln (am Z)), Value.slice p' (ln V) (ln V), Value.bool (ng Y), Value.slice u (ln (am Y)) (ln (am Y)), Value.slice u' (ln U) (ln U)]) (by rw [results_cell rfl]; go_simp) rfl ?_
      all_goals exact ⟨p, p', u, u', rfl, bset (bset (bset (bset (bset (bset hBk (Nat.le_refl _)) (Nat.le_refl _)) (Nat.le_refl _)) (Nat.le_refl _)) (Nat.le_refl _)) (Nat.le_refl _), seg_set6 hS r0 r1 r2 r3 r4 r5 (by simp) (by simp) (by simp) (by simp) (by simp) (by simp), seg_set6 hT r0 r1 r2 r3 r4 r5 (by simp) (by simp) (by simp) (by simp) (by simp) (by simp), seg_set6 hS' r0 r1 r2 r3 r4 r5 (by simp) (by simp) (by simp) (by simp) (by simp) (by simp), seg_set6 hT' r0 r1 r2 r3 r4 r5 (by simp) (by simp) (by simp) (by simp) (by simp) (by simp)⟩
end Go.Proofs.Ytlafilmpefmidaa
