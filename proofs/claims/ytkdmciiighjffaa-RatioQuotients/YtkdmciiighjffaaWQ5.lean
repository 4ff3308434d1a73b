/-
  Layer 3: Mul.
-/
import Derived.Test.YtkdmciiighjffaaWQ3
namespace Go.Proofs.Ytkdmciiighjffaa
open Go.RowKit
set_option linter.unusedVariables false

theorem bsetW {W w' : World} {c o : Nat} {u : Value} (h : Below W.heap.size W w') (hc : W.heap.size ≤ c) : Below W.heap.size W (w'.setCell ⟨c, o, none⟩ u) := h.setCell hc _
theorem ballW {W w' : World} {o : Obj} (h : Below W.heap.size W w') : Below W.heap.size W (w'.alloc o) := h.trans ((below_alloc o).mono h.size)
theorem bdrewW {W w' : World} (h : Below W.heap.size W w') : Below W.heap.size W w'.drew := h.drew
theorem rd_lt {Y n : Nat} (h : Y < BB ^ n) : rd Y < BB ^ (n + 1) := by
  unfold rd
  split
  · have h1 : BB ^ 1 ≤ BB ^ (n + 1) := pow_mono (by omega)
    have h2 : 1 < BB ^ 1 := by rw [Nat.pow_one, BB_eq]; omega
    exact Nat.lt_of_lt_of_le h2 h1
  · exact Nat.lt_of_lt_of_le h (pow_mono (by omega))
theorem consT {P : Program} {ops : Array Oper} {Q : Exit → Act → World → Prop} {md : Region.Mode} {S : World → Prop} {n : Nat} {L : Array Bool} {a : Act} {w : World} {i : Nat} {rs : List Nat} {d : Option Tmp} {op : Op} {ty : TypeId} {pos : String} {af : Array Edge} {g : Option (Nat × Bool)}
    (ho : ops[i]? = some ⟨d, op, ty, pos, af, g⟩) (h : ∀ K' : Act → World → Prop, Shut (∀ a w, S w → (S w → wpAnyH P md ops Q S n (L.setIfInBounds i true) a w) → K' a w) → if Region.wanted ⟨d, op, ty, pos, af, g⟩ (yielded ops a.tmps) = true then Oper.wp P ⟨d, op, ty, pos, af, g⟩ a w K' Q else K' (a.put d undef) w)
    (h2 : AllReadyH P md ops Q S n L a w rs) : AllReadyH P md ops Q S n L a w (i :: rs) := AllReadyH.cons ho h h2
/-- a store into a cell that holds no number leaves the numbers -/
theorem Seg.setB {w : World} {p : Option Addr} {X n c o : Nat} {u z : Value} (h : Seg w p X n) (hc : w.cell? ⟨c, o, none⟩ = some z) (hz : ∀ k i, z ≠ .int k i) : Seg (w.setCell ⟨c, o, none⟩ u) p X n := by
  refine ⟨h.1, fun hn => ?_⟩
  obtain ⟨b, off, rfl, hb, hcell⟩ := h.2 hn
  refine ⟨b, off, rfl, by simpa [World.setCell] using hb, fun i hi => ?_⟩
  have h1 := hcell i hi
  rw [World.cell?_setCell_other _ _ _ _ (fun e => ?_)]
  · exact h1
  · rw [← e, hc] at h1
    simp only [Option.some.injEq] at h1
    exact hz _ _ h1
theorem Seg.set4 {w : World} {p : Option Addr} {X n c : Nat} {u0 u1 u2 u3 : Value} {z0 z2 : Bool} {a1 a3 : Option Addr} {n1 n3 k1 k3 : Nat} (h : Seg w p X n) (h0 : w.cell? ⟨c, 0, none⟩ = some (.bool z0)) (h1 : w.cell? ⟨c, 1, none⟩ = some (.slice a1 n1 k1)) (h2 : w.cell? ⟨c, 2, none⟩ = some (.bool z2)) (h3 : w.cell? ⟨c, 3, none⟩ = some (.slice a3 n3 k3)) :
    Seg ((((w.setCell ⟨c, 0, none⟩ u0).setCell ⟨c, 1, none⟩ u1).setCell ⟨c, 2, none⟩ u2).setCell ⟨c, 3, none⟩ u3) p X n := by
  refine (((h.setB h0 (by simp)).setB (z := .slice a1 n1 k1) ?_ (by simp)).setB (z := .bool z2) ?_ (by simp)).setB (z := .slice a3 n3 k3) ?_ (by simp)
  · rw [World.cell?_setCell_other _ _ _ _ (fun e => by simp at e)]; exact h1
  · rw [World.cell?_setCell_other _ _ _ _ (fun e => by simp at e), World.cell?_setCell_other _ _ _ _ (fun e => by simp at e)]; exact h2
  · rw [World.cell?_setCell_other _ _ _ _ (fun e => by simp at e), World.cell?_setCell_other _ _ _ _ (fun e => by simp at e), World.cell?_setCell_other _ _ _ _ (fun e => by simp at e)]; exact h3
/-- what is known behind the store of a fraction into the block c -/
theorem stored4 {w W : World} {c d r : Nat} {u0 u1 u2 u3 v0 v1 v2 v3 : Value} {z0 z2 : Bool} {a1 a3 : Option Addr} {n1 n3 k1 k3 : Nat} {p1 p2 p3 p4 : Option Addr} {X1 X2 X3 X4 l1 l2 l3 l4 : Nat}
    (h0 : w.cell? ⟨c, 0, none⟩ = some (.bool z0)) (h1 : w.cell? ⟨c, 1, none⟩ = some (.slice a1 n1 k1)) (h2 : w.cell? ⟨c, 2, none⟩ = some (.bool z2)) (h3 : w.cell? ⟨c, 3, none⟩ = some (.slice a3 n3 k3))
    (g0 : w.cell? ⟨d, 0, none⟩ = some v0) (g1 : w.cell? ⟨d, 1, none⟩ = some v1) (g2 : w.cell? ⟨d, 2, none⟩ = some v2) (g3 : w.cell? ⟨d, 3, none⟩ = some v3) (gR : Row w r)
    (hBW : Below W.heap.size W w) (ge : W.heap.size ≤ c) (ne : c ≠ d) (s1 : Seg w p1 X1 l1) (s2 : Seg w p2 X2 l2) (s3 : Seg w p3 X3 l3) (s4 : Seg w p4 X4 l4) :
    ((((w.setCell ⟨c, 0, none⟩ u0).setCell ⟨c, 1, none⟩ u1).setCell ⟨c, 2, none⟩ u2).setCell ⟨c, 3, none⟩ u3).cell? ⟨c, 0, none⟩ = some u0 ∧ ((((w.setCell ⟨c, 0, none⟩ u0).setCell ⟨c, 1, none⟩ u1).setCell ⟨c, 2, none⟩ u2).setCell ⟨c, 3, none⟩ u3).cell? ⟨c, 1, none⟩ = some u1 ∧
    ((((w.setCell ⟨c, 0, none⟩ u0).setCell ⟨c, 1, none⟩ u1).setCell ⟨c, 2, none⟩ u2).setCell ⟨c, 3, none⟩ u3).cell? ⟨c, 2, none⟩ = some u2 ∧ ((((w.setCell ⟨c, 0, none⟩ u0).setCell ⟨c, 1, none⟩ u1).setCell ⟨c, 2, none⟩ u2).setCell ⟨c, 3, none⟩ u3).cell? ⟨c, 3, none⟩ = some u3 ∧
    ((((w.setCell ⟨c, 0, none⟩ u0).setCell ⟨c, 1, none⟩ u1).setCell ⟨c, 2, none⟩ u2).setCell ⟨c, 3, none⟩ u3).cell? ⟨d, 0, none⟩ = some v0 ∧ ((((w.setCell ⟨c, 0, none⟩ u0).setCell ⟨c, 1, none⟩ u1).setCell ⟨c, 2, none⟩ u2).setCell ⟨c, 3, none⟩ u3).cell? ⟨d, 1, none⟩ = some v1 ∧
    ((((w.setCell ⟨c, 0, none⟩ u0).setCell ⟨c, 1, none⟩ u1).setCell ⟨c, 2, none⟩ u2).setCell ⟨c, 3, none⟩ u3).cell? ⟨d, 2, none⟩ = some v2 ∧ ((((w.setCell ⟨c, 0, none⟩ u0).setCell ⟨c, 1, none⟩ u1).setCell ⟨c, 2, none⟩ u2).setCell ⟨c, 3, none⟩ u3).cell? ⟨d, 3, none⟩ = some v3 ∧
    Row ((((w.setCell ⟨c, 0, none⟩ u0).setCell ⟨c, 1, none⟩ u1).setCell ⟨c, 2, none⟩ u2).setCell ⟨c, 3, none⟩ u3) r ∧ Below W.heap.size W ((((w.setCell ⟨c, 0, none⟩ u0).setCell ⟨c, 1, none⟩ u1).setCell ⟨c, 2, none⟩ u2).setCell ⟨c, 3, none⟩ u3) ∧
    Seg ((((w.setCell ⟨c, 0, none⟩ u0).setCell ⟨c, 1, none⟩ u1).setCell ⟨c, 2, none⟩ u2).setCell ⟨c, 3, none⟩ u3) p1 X1 l1 ∧ Seg ((((w.setCell ⟨c, 0, none⟩ u0).setCell ⟨c, 1, none⟩ u1).setCell ⟨c, 2, none⟩ u2).setCell ⟨c, 3, none⟩ u3) p2 X2 l2 ∧
    Seg ((((w.setCell ⟨c, 0, none⟩ u0).setCell ⟨c, 1, none⟩ u1).setCell ⟨c, 2, none⟩ u2).setCell ⟨c, 3, none⟩ u3) p3 X3 l3 ∧ Seg ((((w.setCell ⟨c, 0, none⟩ u0).setCell ⟨c, 1, none⟩ u1).setCell ⟨c, 2, none⟩ u2).setCell ⟨c, 3, none⟩ u3) p4 X4 l4 := by
  have e := set4_same (u0 := u0) (u1 := u1) (u2 := u2) (u3 := u3) h0 h1 h2 h3
  exact ⟨e.1, e.2.1, e.2.2.1, e.2.2.2, (set4_far ne).trans g0, (set4_far ne).trans g1, (set4_far ne).trans g2, (set4_far ne).trans g3,
    (((gR.setCell _ _).setCell _ _).setCell _ _).setCell _ _, bsetW (bsetW (bsetW (bsetW hBW ge) ge) ge) ge, s1.set4 h0 h1 h2 h3, s2.set4 h0 h1 h2 h3, s3.set4 h0 h1 h2 h3, s4.set4 h0 h1 h2 h3⟩

set_option maxHeartbeats 4000000 in
set_option maxRecDepth 100000 in
theorem qMul_is (s0 : Bool) (a0 : Option Addr) (n0 c0 X0 : Nat) (b0 : Option Addr) (m0 d0 Y0 : Nat) (s1 : Bool) (a1 : Option Addr) (n1 c1 X1 : Nat) (b1 : Option Addr) (m1 d1 Y1 : Nat) (Z : Int) (V : Nat) (w : World) (hc0 : n0 ≤ c0) (hm0 : n0 ≤ 35184372087808) (hS0 : Seg w a0 X0 n0) (hd0 : m0 ≤ d0) (hk0 : m0 ≤ 35184372087808) (hT0 : Seg w b0 Y0 m0) (hc1 : n1 ≤ c1) (hm1 : n1 ≤ 35184372087808) (hS1 : Seg w a1 X1 n1) (hd1 : m1 ≤ d1) (hk1 : m1 ≤ 35184372087808) (hT1 : Seg w b1 Y1 m1) (hL : Low (rn s0 X0 Y0 * rn s1 X1 Y1) ((rd Y0 : Nat) * (rd Y1 : Nat)) Z V) :
    Calls Try.prog 17 #[Value.agg #[Value.bool s0, Value.slice a0 n0 c0, Value.slice b0 m0 d0], Value.agg #[Value.bool s1, Value.slice a1 n1 c1, Value.slice b1 m1 d1]] w fun e w' => ∃ p q, e = .returned (.agg #[.bool (ng Z), .slice p (ln (am Z)) (ln (am Z)), .slice q (ln V) (ln V)]) ∧ New w w' p (am Z) (ln (am Z)) ∧ New w w' q V (ln V) := by
  have HL := hide' hL
  clear hL
  obtain ⟨P, hP⟩ : ∃ P, rn s0 X0 Y0 * rn s1 X1 Y1 = P := ⟨_, rfl⟩
  obtain ⟨D, hD⟩ : ∃ D, rd Y0 * rd Y1 = D := ⟨_, rfl⟩
  have hL := HL.out
  rw [hP, ← Int.natCast_mul, hD] at hL
  have lP : ln (am P) ≤ 70368744176010 := by rw [← hP, am_mul]; have := ln_prod (Nat.lt_of_le_of_lt (rn_am s0 X0 Y0) hS0.1) (Nat.lt_of_le_of_lt (rn_am s1 X1 Y1) hS1.1); omega
  have lD : ln D ≤ 70368744176012 := by rw [← hD]; have := ln_prod (rd_lt hT0.1) (rd_lt hT1.1); omega
  have H4' := fun w' zq11 zm11 zd11 zq12 zm12 zd12 (g1 : zm11 ≤ zd11) (g2 : zm11 ≤ 35184372087808) k1 (g3 : zm12 ≤ zd12) (g4 : zm12 ≤ 35184372087808) k2 => wMul_is false zq11 zm11 zd11 (rd Y0) false zq12 zm12 zd12 (rd Y1) (D : Nat) w' g1 (by omega) k1 g3 (by omega) k2 (by rw [sg_mul, hD]; rfl)
  rw [ng_nat, am_nat] at H4'
  have H4 := hide' H4'
  have H5 := hide' (fun w' p q k1 k2 => lowest_is (ng P) p (ln (am P)) (ln (am P)) (am P) q (ln D) (ln D) D V Z w' (Nat.le_refl _) (by omega) k1 (Nat.le_refl _) (by omega) k2 (by rw [sg_na]; exact hL))
  have HP := hide' hP
  clear hL hP hD H4' HL
  have HR0 := hide' (fun w' k1 k2 => read_is s0 a0 n0 c0 X0 b0 m0 d0 Y0 35184372087808 w' hc0 hm0 k1 hd0 hk0 k2 (by omega) (by omega))
  have HR1 := hide' (fun w' k1 k2 => read_is s1 a1 n1 c1 X1 b1 m1 d1 Y1 35184372087808 w' hc1 hm1 k1 hd1 hk1 k2 (by omega) (by omega))
  go_enter Try.func17, Try.ntmps17
  go_upto_region 1 with fail
  obtain ⟨W, hW⟩ : ∃ W, (((w.alloc (.cells #[.bool s0, .slice a0 n0 c0, .slice b0 m0 d0] 27)).alloc (.cells #[.bool s1, .slice a1 n1 c1, .slice b1 m1 d1] 27)).alloc (.cells #[.bool false, .slice none 0 0, .slice none 0 0] 27)) = W := ⟨_, rfl⟩
  have q00 : W.cell? ⟨w.heap.size, 0, none⟩ = some (.bool s0) := by subst hW; go_simp
  have q01 : W.cell? ⟨w.heap.size, 1, none⟩ = some (.slice a0 n0 c0) := by subst hW; go_simp
  have q02 : W.cell? ⟨w.heap.size, 2, none⟩ = some (.slice b0 m0 d0) := by subst hW; go_simp
  have q10 : W.cell? ⟨w.heap.size + 1, 0, none⟩ = some (.bool s1) := by subst hW; go_simp
  have q11 : W.cell? ⟨w.heap.size + 1, 1, none⟩ = some (.slice a1 n1 c1) := by subst hW; go_simp
  have q12 : W.cell? ⟨w.heap.size + 1, 2, none⟩ = some (.slice b1 m1 d1) := by subst hW; go_simp
  have r00 : W.cell? ⟨w.heap.size + 1 + 1, 0, none⟩ = some (.bool false) := by subst hW; go_simp
  have r01 : W.cell? ⟨w.heap.size + 1 + 1, 1, none⟩ = some (.slice none 0 0) := by subst hW; go_simp
  have r02 : W.cell? ⟨w.heap.size + 1 + 1, 2, none⟩ = some (.slice none 0 0) := by subst hW; go_simp
  have hB : Below w.heap.size w W := by subst hW; exact ((((Below.refl _ _).alloc (by (try simp only [World.size_alloc]); omega) _).alloc (by (try simp only [World.size_alloc]); omega) _).alloc (by (try simp only [World.size_alloc]); omega) _)
  have hR0 : Row W (w.heap.size + 1 + 1) := by
    have := row_new (((w.alloc (.cells #[.bool s0, .slice a0 n0 c0, .slice b0 m0 d0] 27)).alloc (.cells #[.bool s1, .slice a1 n1 c1, .slice b1 m1 d1] 27))) #[.bool false, .slice none 0 0, .slice none 0 0] 27
    try simp only [World.size_alloc] at this
    subst hW; exact this
  have hz : W.heap.size = w.heap.size + 1 + 1 + 1 := by subst hW; simp only [World.size_alloc]
  rw [hW]
  clear hW
  have hBW : Below W.heap.size W W := Below.refl _ _
  have hz1 := Nat.le_of_eq hz
  have hz2 := Nat.le_of_eq hz.symm
  clear hz
  go_cut [5, 6] from 7 to 10 (fun s5 s6 wx => ∃ c d zs11 zp11 zn11 zc11 zX11 zq11 zm11 zd11 zs12 zp12 zn12 zc12 zX12 zq12 zm12 zd12, s5 = .pointer (some ⟨c, 0, none⟩) ∧ s6 = .pointer (some ⟨d, 0, none⟩) ∧ W.heap.size ≤ c ∧ W.heap.size ≤ d ∧ Below W.heap.size W wx ∧ wx.cell? ⟨c, 0, none⟩ = some (.bool zs11) ∧ wx.cell? ⟨c, 1, none⟩ = some (.slice zp11 zn11 zc11) ∧ wx.cell? ⟨c, 2, none⟩ = some (.bool false) ∧ wx.cell? ⟨c, 3, none⟩ = some (.slice zq11 zm11 zd11) ∧ wx.cell? ⟨d, 0, none⟩ = some (.bool zs12) ∧ wx.cell? ⟨d, 1, none⟩ = some (.slice zp12 zn12 zc12) ∧ wx.cell? ⟨d, 2, none⟩ = some (.bool false) ∧ wx.cell? ⟨d, 3, none⟩ = some (.slice zq12 zm12 zd12) ∧ zn11 ≤ zc11 ∧ zn11 ≤ 35184372087808 ∧ zm11 ≤ zd11 ∧ zm11 ≤ 35184372087808 ∧ Seg wx zp11 zX11 zn11 ∧ Seg wx zq11 (rd Y0) zm11 ∧ sg zs11 zX11 = rn s0 X0 Y0 ∧ zn12 ≤ zc12 ∧ zn12 ≤ 35184372087808 ∧ zm12 ≤ zd12 ∧ zm12 ≤ 35184372087808 ∧ Seg wx zp12 zX12 zn12 ∧ Seg wx zq12 (rd Y1) zm12 ∧ sg zs12 zX12 = rn s1 X1 Y1)
  case first =>
    have Qq00 := q00
    have Qq01 := q01
    have Qq02 := q02
    have Qq10 := q10
    have Qq11 := q11
    have Qq12 := q12
    clear q00 q01 q02 q10 q11 q12 r00 r01 r02 hR0
    replace hBW := hBW.drew
    refine wp_region_held_drew (S := (fun w' => w'.cell? ⟨w.heap.size, 0, none⟩ = some (.bool s0) ∧ w'.cell? ⟨w.heap.size, 1, none⟩ = some (.slice a0 n0 c0) ∧ w'.cell? ⟨w.heap.size, 2, none⟩ = some (.slice b0 m0 d0) ∧ w'.cell? ⟨w.heap.size + 1, 0, none⟩ = some (.bool s1) ∧ w'.cell? ⟨w.heap.size + 1, 1, none⟩ = some (.slice a1 n1 c1) ∧ w'.cell? ⟨w.heap.size + 1, 2, none⟩ = some (.slice b1 m1 d1) ∧ Below w.heap.size w w')) (by kernel_rfl) (kp6 (W := W) hBW ⟨Qq00, Qq01, Qq02, Qq10, Qq11, Qq12, hB⟩) (fun hHeld => ?_)
    generalize W.drew = w0 at hBW hHeld ⊢
    refine take' 0 (v := ?_) rfl (by kernel_rfl) (by kernel_rfl) (by kernel_rfl) (fun _ _ _ h => h) (Or.inl ⟨by rfl, ?_⟩) (by assumption) ?_
    rotate_left
    · intro w9 hSw
      go_simp
      first | done | with_reducible rfl
    simp only [Act.put, List.setIfInBounds_toArray, List.set_cons_zero, List.set_cons_succ]
    refine take' 2 (v := ?_) rfl (by kernel_rfl) (by kernel_rfl) (by kernel_rfl) (fun _ _ _ h => h) (Or.inl ⟨by rfl, ?_⟩) (by assumption) ?_
    rotate_left
    · intro w9 hSw
      go_simp
      first | done | with_reducible rfl
    simp only [Act.put, List.setIfInBounds_toArray, List.set_cons_zero, List.set_cons_succ]
    refine wpAnyH_ready (rs := [1, 4, 5]) (by kernel_rfl) (by simp) ?_
    refine consT rfl (fun K hK => ?_) ?_
    · skip
      go_simp
      refine Calls.mono (HR0.out _ (sb hS0 hB hBW) (sb hT0 hB hBW)) ?_
      rintro e w1 ⟨zs11, zp11, zn11, zc11, zX11, zq11, zm11, zd11, rfl, ga11, gb11, gc11, gd11, kS11, kT11, ge11, bb11⟩
      replace hBW := hBW.trans (bb11.mono hBW.size)
      clear bb11
      go_wp2_with fail
      refine hK.out _ _ (kp6 (W := W) hBW ⟨Qq00, Qq01, Qq02, Qq10, Qq11, Qq12, hB⟩) ?_
      clear hHeld
      intro hHeld
      clear hK K
      try simp only [Act.put, List.setIfInBounds_toArray, List.set_cons_zero, List.set_cons_succ]
      refine wpAnyH_ready (rs := [3, 4, 5]) (by kernel_rfl) (by simp) ?_
      refine consT rfl (fun K hK => ?_) ?_
      · skip
        go_simp
        refine Calls.mono (HR1.out _ (sb hS1 hB hBW) (sb hT1 hB hBW)) ?_
        rintro e w13 ⟨zs12, zp12, zn12, zc12, zX12, zq12, zm12, zd12, rfl, ga12, gb12, gc12, gd12, kS12, kT12, ge12, bb12⟩
        replace hBW := hBW.trans (bb12.mono hBW.size)
        replace kS11 := kS11.later bb12
        replace kT11 := kT11.later bb12
        clear bb12
        go_wp2_with fail
        refine hK.out _ _ (kp6 (W := W) hBW ⟨Qq00, Qq01, Qq02, Qq10, Qq11, Qq12, hB⟩) ?_
        clear hHeld
        intro hHeld
        clear hK K
        try simp only [Act.put, List.setIfInBounds_toArray, List.set_cons_zero, List.set_cons_succ]
        refine wpAnyH_ready (rs := [4, 5]) (by kernel_rfl) (by simp) ?_
        refine consT rfl (fun K hK => ?_) ?_
        · skip
          go_simp
          have bb := below_alloc (w := w13) (.cells #[.bool false, .slice none 0 0, .bool false, .slice none 0 0] 41)
          have lcge := hBW.size
          replace hBW := hBW.trans (bb.mono hBW.size)
          replace kS11 := kS11.later bb
          replace kT11 := kT11.later bb
          replace kS12 := kS12.later bb
          replace kT12 := kT12.later bb
          clear bb
          have lc0 : (w13.alloc (.cells #[.bool false, .slice none 0 0, .bool false, .slice none 0 0] 41)).cell? ⟨w13.heap.size, 0, none⟩ = some (.bool false) := by go_simp
          have lc1 : (w13.alloc (.cells #[.bool false, .slice none 0 0, .bool false, .slice none 0 0] 41)).cell? ⟨w13.heap.size, 1, none⟩ = some (.slice none 0 0) := by go_simp
          have lc2 : (w13.alloc (.cells #[.bool false, .slice none 0 0, .bool false, .slice none 0 0] 41)).cell? ⟨w13.heap.size, 2, none⟩ = some (.bool false) := by go_simp
          have lc3 : (w13.alloc (.cells #[.bool false, .slice none 0 0, .bool false, .slice none 0 0] 41)).cell? ⟨w13.heap.size, 3, none⟩ = some (.slice none 0 0) := by go_simp
          have lcR : Row (w13.alloc (.cells #[.bool false, .slice none 0 0, .bool false, .slice none 0 0] 41)) w13.heap.size := row_new w13 _ 41
          clear hHeld
          generalize (w13.alloc (.cells #[.bool false, .slice none 0 0, .bool false, .slice none 0 0] 41)) = w134 at hBW lc0 lc1 lc2 lc3 lcR kS11 kT11 kS12 kT12 ⊢
          generalize w13.heap.size = c at lcge lc0 lc1 lc2 lc3 lcR ⊢
          refine hK.out _ _ (kp6 (W := W) hBW ⟨Qq00, Qq01, Qq02, Qq10, Qq11, Qq12, hB⟩) ?_
          intro hHeld
          clear hK K
          try simp only [Act.put, List.setIfInBounds_toArray, List.set_cons_zero, List.set_cons_succ]
          refine wpAnyH_ready (rs := [5]) (by kernel_rfl) (by simp) ?_
          refine consT rfl (fun K hK => ?_) ?_
          · skip
            go_simp
            have bb := below_alloc (w := w134) (.cells #[.bool false, .slice none 0 0, .bool false, .slice none 0 0] 41)
            have ldge := hBW.size
            have lab := lcR.lt
            replace hBW := hBW.trans (bb.mono hBW.size)
            replace kS11 := kS11.later bb
            replace kT11 := kT11.later bb
            replace kS12 := kS12.later bb
            replace kT12 := kT12.later bb
            replace lc0 := below_cell bb lc0
            replace lc1 := below_cell bb lc1
            replace lc2 := below_cell bb lc2
            replace lc3 := below_cell bb lc3
            replace lcR := below_row bb lcR
            clear bb
            have ld0 : (w134.alloc (.cells #[.bool false, .slice none 0 0, .bool false, .slice none 0 0] 41)).cell? ⟨w134.heap.size, 0, none⟩ = some (.bool false) := by go_simp
            have ld1 : (w134.alloc (.cells #[.bool false, .slice none 0 0, .bool false, .slice none 0 0] 41)).cell? ⟨w134.heap.size, 1, none⟩ = some (.slice none 0 0) := by go_simp
            have ld2 : (w134.alloc (.cells #[.bool false, .slice none 0 0, .bool false, .slice none 0 0] 41)).cell? ⟨w134.heap.size, 2, none⟩ = some (.bool false) := by go_simp
            have ld3 : (w134.alloc (.cells #[.bool false, .slice none 0 0, .bool false, .slice none 0 0] 41)).cell? ⟨w134.heap.size, 3, none⟩ = some (.slice none 0 0) := by go_simp
            have ldR : Row (w134.alloc (.cells #[.bool false, .slice none 0 0, .bool false, .slice none 0 0] 41)) w134.heap.size := row_new w134 _ 41
            clear hHeld
            generalize (w134.alloc (.cells #[.bool false, .slice none 0 0, .bool false, .slice none 0 0] 41)) = w1345 at hBW ld0 ld1 ld2 ld3 ldR lc0 lc1 lc2 lc3 lcR kS11 kT11 kS12 kT12 ⊢
            generalize w134.heap.size = d at ldge ld0 ld1 ld2 ld3 ldR lab ⊢
            refine hK.out _ _ (kp6 (W := W) hBW ⟨Qq00, Qq01, Qq02, Qq10, Qq11, Qq12, hB⟩) ?_
            intro hHeld
            clear hK K
            try simp only [Act.put, List.setIfInBounds_toArray, List.set_cons_zero, List.set_cons_succ]
            have lcd : c ≠ d := by omega
            clear lab
            refine wpAnyH_ready (rs := [6]) (by kernel_rfl) (by simp) ?_
            refine cons' rfl (fun K hK => ?_)
            have lf := fun o => lcR.frozen o
            have X := stored4 (u0 := .bool zs11) (u1 := .slice zp11 zn11 zc11) (u2 := .bool false) (u3 := .slice zq11 zm11 zd11) lc0 lc1 lc2 lc3 ld0 ld1 ld2 ld3 ldR hBW lcge lcd kS11 kT11 kS12 kT12
            go_simp
            clear lc0 lc1 lc2 lc3 ld0 ld1 ld2 ld3 lf lcR ldR hHeld hBW kS11 kT11 kS12 kT12
            generalize ((((w1345.setCell ⟨c, 0, none⟩ (.bool zs11)).setCell ⟨c, 1, none⟩ (.slice zp11 zn11 zc11)).setCell ⟨c, 2, none⟩ (.bool false)).setCell ⟨c, 3, none⟩ (.slice zq11 zm11 zd11)) = wl1 at X ⊢
            obtain ⟨lc0, lc1, lc2, lc3, ld0, ld1, ld2, ld3, ldR, hBW, kS11, kT11, kS12, kT12⟩ := X
            have lcR := ldR
            refine hK.out _ _ (kp6 (W := W) hBW ⟨Qq00, Qq01, Qq02, Qq10, Qq11, Qq12, hB⟩) ?_
            intro hHeld
            clear hK K
            try simp only [Act.put, List.setIfInBounds_toArray, List.set_cons_zero, List.set_cons_succ]
            refine wpAnyH_ready (rs := [7]) (by kernel_rfl) (by simp) ?_
            refine cons' rfl (fun K hK => ?_)
            have lf := fun o => ldR.frozen o
            have X := stored4 (u0 := .bool zs12) (u1 := .slice zp12 zn12 zc12) (u2 := .bool false) (u3 := .slice zq12 zm12 zd12) ld0 ld1 ld2 ld3 lc0 lc1 lc2 lc3 lcR hBW ldge lcd.symm kS11 kT11 kS12 kT12
            go_simp
            clear ld0 ld1 ld2 ld3 lc0 lc1 lc2 lc3 lf ldR lcR hHeld hBW kS11 kT11 kS12 kT12
            generalize ((((wl1.setCell ⟨d, 0, none⟩ (.bool zs12)).setCell ⟨d, 1, none⟩ (.slice zp12 zn12 zc12)).setCell ⟨d, 2, none⟩ (.bool false)).setCell ⟨d, 3, none⟩ (.slice zq12 zm12 zd12)) = wl2 at X ⊢
            obtain ⟨ld0, ld1, ld2, ld3, lc0, lc1, lc2, lc3, lcR, hBW, kS11, kT11, kS12, kT12⟩ := X
            have ldR := lcR
            refine hK.out _ _ (kp6 (W := W) hBW ⟨Qq00, Qq01, Qq02, Qq10, Qq11, Qq12, hB⟩) ?_
            intro hHeld
            clear hK K
            try simp only [Act.put, List.setIfInBounds_toArray, List.set_cons_zero, List.set_cons_succ]
            refine wpAnyH_done (by kernel_rfl) ?_ _
            go_wp2_with fail
            go_meet
            exact ⟨c, d, zs11, zp11, zn11, zc11, zX11, zq11, zm11, zd11, zs12, zp12, zn12, zc12, zX12, zq12, zm12, zd12, rfl, rfl, lcge, ldge, hBW, lc0, lc1, lc2, lc3, ld0, ld1, ld2, ld3, ga11, gb11, gc11, gd11, kS11, kT11, ge11, ga12, gb12, gc12, gd12, kS12, kT12, ge12⟩
          exact AllReadyH.nil
        refine consT rfl (fun K hK => ?_) ?_
        · skip
          go_simp
          have bb := below_alloc (w := w13) (.cells #[.bool false, .slice none 0 0, .bool false, .slice none 0 0] 41)
          have ldge := hBW.size
          replace hBW := hBW.trans (bb.mono hBW.size)
          replace kS11 := kS11.later bb
          replace kT11 := kT11.later bb
          replace kS12 := kS12.later bb
          replace kT12 := kT12.later bb
          clear bb
          have ld0 : (w13.alloc (.cells #[.bool false, .slice none 0 0, .bool false, .slice none 0 0] 41)).cell? ⟨w13.heap.size, 0, none⟩ = some (.bool false) := by go_simp
          have ld1 : (w13.alloc (.cells #[.bool false, .slice none 0 0, .bool false, .slice none 0 0] 41)).cell? ⟨w13.heap.size, 1, none⟩ = some (.slice none 0 0) := by go_simp
          have ld2 : (w13.alloc (.cells #[.bool false, .slice none 0 0, .bool false, .slice none 0 0] 41)).cell? ⟨w13.heap.size, 2, none⟩ = some (.bool false) := by go_simp
          have ld3 : (w13.alloc (.cells #[.bool false, .slice none 0 0, .bool false, .slice none 0 0] 41)).cell? ⟨w13.heap.size, 3, none⟩ = some (.slice none 0 0) := by go_simp
          have ldR : Row (w13.alloc (.cells #[.bool false, .slice none 0 0, .bool false, .slice none 0 0] 41)) w13.heap.size := row_new w13 _ 41
          clear hHeld
          generalize (w13.alloc (.cells #[.bool false, .slice none 0 0, .bool false, .slice none 0 0] 41)) = w135 at hBW ld0 ld1 ld2 ld3 ldR kS11 kT11 kS12 kT12 ⊢
          generalize w13.heap.size = d at ldge ld0 ld1 ld2 ld3 ldR ⊢
          refine hK.out _ _ (kp6 (W := W) hBW ⟨Qq00, Qq01, Qq02, Qq10, Qq11, Qq12, hB⟩) ?_
          intro hHeld
          clear hK K
          try simp only [Act.put, List.setIfInBounds_toArray, List.set_cons_zero, List.set_cons_succ]
          refine wpAnyH_ready (rs := [4]) (by kernel_rfl) (by simp) ?_
          refine consT rfl (fun K hK => ?_) ?_
          · skip
            go_simp
            have bb := below_alloc (w := w135) (.cells #[.bool false, .slice none 0 0, .bool false, .slice none 0 0] 41)
            have lcge := hBW.size
            have lab := ldR.lt
            replace hBW := hBW.trans (bb.mono hBW.size)
            replace kS11 := kS11.later bb
            replace kT11 := kT11.later bb
            replace kS12 := kS12.later bb
            replace kT12 := kT12.later bb
            replace ld0 := below_cell bb ld0
            replace ld1 := below_cell bb ld1
            replace ld2 := below_cell bb ld2
            replace ld3 := below_cell bb ld3
            replace ldR := below_row bb ldR
            clear bb
            have lc0 : (w135.alloc (.cells #[.bool false, .slice none 0 0, .bool false, .slice none 0 0] 41)).cell? ⟨w135.heap.size, 0, none⟩ = some (.bool false) := by go_simp
            have lc1 : (w135.alloc (.cells #[.bool false, .slice none 0 0, .bool false, .slice none 0 0] 41)).cell? ⟨w135.heap.size, 1, none⟩ = some (.slice none 0 0) := by go_simp
            have lc2 : (w135.alloc (.cells #[.bool false, .slice none 0 0, .bool false, .slice none 0 0] 41)).cell? ⟨w135.heap.size, 2, none⟩ = some (.bool false) := by go_simp
            have lc3 : (w135.alloc (.cells #[.bool false, .slice none 0 0, .bool false, .slice none 0 0] 41)).cell? ⟨w135.heap.size, 3, none⟩ = some (.slice none 0 0) := by go_simp
            have lcR : Row (w135.alloc (.cells #[.bool false, .slice none 0 0, .bool false, .slice none 0 0] 41)) w135.heap.size := row_new w135 _ 41
            clear hHeld
            generalize (w135.alloc (.cells #[.bool false, .slice none 0 0, .bool false, .slice none 0 0] 41)) = w1354 at hBW lc0 lc1 lc2 lc3 lcR ld0 ld1 ld2 ld3 ldR kS11 kT11 kS12 kT12 ⊢
            generalize w135.heap.size = c at lcge lc0 lc1 lc2 lc3 lcR lab ⊢
            refine hK.out _ _ (kp6 (W := W) hBW ⟨Qq00, Qq01, Qq02, Qq10, Qq11, Qq12, hB⟩) ?_
            intro hHeld
            clear hK K
            try simp only [Act.put, List.setIfInBounds_toArray, List.set_cons_zero, List.set_cons_succ]
            have lcd : c ≠ d := by omega
            clear lab
            refine wpAnyH_ready (rs := [6]) (by kernel_rfl) (by simp) ?_
            refine cons' rfl (fun K hK => ?_)
            have lf := fun o => lcR.frozen o
            have X := stored4 (u0 := .bool zs11) (u1 := .slice zp11 zn11 zc11) (u2 := .bool false) (u3 := .slice zq11 zm11 zd11) lc0 lc1 lc2 lc3 ld0 ld1 ld2 ld3 ldR hBW lcge lcd kS11 kT11 kS12 kT12
            go_simp
            clear lc0 lc1 lc2 lc3 ld0 ld1 ld2 ld3 lf lcR ldR hHeld hBW kS11 kT11 kS12 kT12
            generalize ((((w1354.setCell ⟨c, 0, none⟩ (.bool zs11)).setCell ⟨c, 1, none⟩ (.slice zp11 zn11 zc11)).setCell ⟨c, 2, none⟩ (.bool false)).setCell ⟨c, 3, none⟩ (.slice zq11 zm11 zd11)) = wl1 at X ⊢
            obtain ⟨lc0, lc1, lc2, lc3, ld0, ld1, ld2, ld3, ldR, hBW, kS11, kT11, kS12, kT12⟩ := X
            have lcR := ldR
            refine hK.out _ _ (kp6 (W := W) hBW ⟨Qq00, Qq01, Qq02, Qq10, Qq11, Qq12, hB⟩) ?_
            intro hHeld
            clear hK K
            try simp only [Act.put, List.setIfInBounds_toArray, List.set_cons_zero, List.set_cons_succ]
            refine wpAnyH_ready (rs := [7]) (by kernel_rfl) (by simp) ?_
            refine cons' rfl (fun K hK => ?_)
            have lf := fun o => ldR.frozen o
            have X := stored4 (u0 := .bool zs12) (u1 := .slice zp12 zn12 zc12) (u2 := .bool false) (u3 := .slice zq12 zm12 zd12) ld0 ld1 ld2 ld3 lc0 lc1 lc2 lc3 lcR hBW ldge lcd.symm kS11 kT11 kS12 kT12
            go_simp
            clear ld0 ld1 ld2 ld3 lc0 lc1 lc2 lc3 lf ldR lcR hHeld hBW kS11 kT11 kS12 kT12
            generalize ((((wl1.setCell ⟨d, 0, none⟩ (.bool zs12)).setCell ⟨d, 1, none⟩ (.slice zp12 zn12 zc12)).setCell ⟨d, 2, none⟩ (.bool false)).setCell ⟨d, 3, none⟩ (.slice zq12 zm12 zd12)) = wl2 at X ⊢
            obtain ⟨ld0, ld1, ld2, ld3, lc0, lc1, lc2, lc3, lcR, hBW, kS11, kT11, kS12, kT12⟩ := X
            have ldR := lcR
            refine hK.out _ _ (kp6 (W := W) hBW ⟨Qq00, Qq01, Qq02, Qq10, Qq11, Qq12, hB⟩) ?_
            intro hHeld
            clear hK K
            try simp only [Act.put, List.setIfInBounds_toArray, List.set_cons_zero, List.set_cons_succ]
            refine wpAnyH_done (by kernel_rfl) ?_ _
            go_wp2_with fail
            go_meet
            exact ⟨c, d, zs11, zp11, zn11, zc11, zX11, zq11, zm11, zd11, zs12, zp12, zn12, zc12, zX12, zq12, zm12, zd12, rfl, rfl, lcge, ldge, hBW, lc0, lc1, lc2, lc3, ld0, ld1, ld2, ld3, ga11, gb11, gc11, gd11, kS11, kT11, ge11, ga12, gb12, gc12, gd12, kS12, kT12, ge12⟩
          exact AllReadyH.nil
        exact AllReadyH.nil
      refine consT rfl (fun K hK => ?_) ?_
      · skip
        go_simp
        have bb := below_alloc (w := w1) (.cells #[.bool false, .slice none 0 0, .bool false, .slice none 0 0] 41)
        have lcge := hBW.size
        replace hBW := hBW.trans (bb.mono hBW.size)
        replace kS11 := kS11.later bb
        replace kT11 := kT11.later bb
        clear bb
        have lc0 : (w1.alloc (.cells #[.bool false, .slice none 0 0, .bool false, .slice none 0 0] 41)).cell? ⟨w1.heap.size, 0, none⟩ = some (.bool false) := by go_simp
        have lc1 : (w1.alloc (.cells #[.bool false, .slice none 0 0, .bool false, .slice none 0 0] 41)).cell? ⟨w1.heap.size, 1, none⟩ = some (.slice none 0 0) := by go_simp
        have lc2 : (w1.alloc (.cells #[.bool false, .slice none 0 0, .bool false, .slice none 0 0] 41)).cell? ⟨w1.heap.size, 2, none⟩ = some (.bool false) := by go_simp
        have lc3 : (w1.alloc (.cells #[.bool false, .slice none 0 0, .bool false, .slice none 0 0] 41)).cell? ⟨w1.heap.size, 3, none⟩ = some (.slice none 0 0) := by go_simp
        have lcR : Row (w1.alloc (.cells #[.bool false, .slice none 0 0, .bool false, .slice none 0 0] 41)) w1.heap.size := row_new w1 _ 41
        clear hHeld
        generalize (w1.alloc (.cells #[.bool false, .slice none 0 0, .bool false, .slice none 0 0] 41)) = w14 at hBW lc0 lc1 lc2 lc3 lcR kS11 kT11 ⊢
        generalize w1.heap.size = c at lcge lc0 lc1 lc2 lc3 lcR ⊢
        refine hK.out _ _ (kp6 (W := W) hBW ⟨Qq00, Qq01, Qq02, Qq10, Qq11, Qq12, hB⟩) ?_
        intro hHeld
        clear hK K
        try simp only [Act.put, List.setIfInBounds_toArray, List.set_cons_zero, List.set_cons_succ]
        refine wpAnyH_ready (rs := [3, 5]) (by kernel_rfl) (by simp) ?_
        refine consT rfl (fun K hK => ?_) ?_
        · skip
          go_simp
          refine Calls.mono (HR1.out _ (sb hS1 hB hBW) (sb hT1 hB hBW)) ?_
          rintro e w143 ⟨zs12, zp12, zn12, zc12, zX12, zq12, zm12, zd12, rfl, ga12, gb12, gc12, gd12, kS12, kT12, ge12, bb12⟩
          replace hBW := hBW.trans (bb12.mono hBW.size)
          replace kS11 := kS11.later bb12
          replace kT11 := kT11.later bb12
          replace lc0 := below_cell bb12 lc0
          replace lc1 := below_cell bb12 lc1
          replace lc2 := below_cell bb12 lc2
          replace lc3 := below_cell bb12 lc3
          replace lcR := below_row bb12 lcR
          clear bb12
          go_wp2_with fail
          refine hK.out _ _ (kp6 (W := W) hBW ⟨Qq00, Qq01, Qq02, Qq10, Qq11, Qq12, hB⟩) ?_
          clear hHeld
          intro hHeld
          clear hK K
          try simp only [Act.put, List.setIfInBounds_toArray, List.set_cons_zero, List.set_cons_succ]
          refine wpAnyH_ready (rs := [5]) (by kernel_rfl) (by simp) ?_
          refine consT rfl (fun K hK => ?_) ?_
          · skip
            go_simp
            have bb := below_alloc (w := w143) (.cells #[.bool false, .slice none 0 0, .bool false, .slice none 0 0] 41)
            have ldge := hBW.size
            have lab := lcR.lt
            replace hBW := hBW.trans (bb.mono hBW.size)
            replace kS11 := kS11.later bb
            replace kT11 := kT11.later bb
            replace kS12 := kS12.later bb
            replace kT12 := kT12.later bb
            replace lc0 := below_cell bb lc0
            replace lc1 := below_cell bb lc1
            replace lc2 := below_cell bb lc2
            replace lc3 := below_cell bb lc3
            replace lcR := below_row bb lcR
            clear bb
            have ld0 : (w143.alloc (.cells #[.bool false, .slice none 0 0, .bool false, .slice none 0 0] 41)).cell? ⟨w143.heap.size, 0, none⟩ = some (.bool false) := by go_simp
            have ld1 : (w143.alloc (.cells #[.bool false, .slice none 0 0, .bool false, .slice none 0 0] 41)).cell? ⟨w143.heap.size, 1, none⟩ = some (.slice none 0 0) := by go_simp
            have ld2 : (w143.alloc (.cells #[.bool false, .slice none 0 0, .bool false, .slice none 0 0] 41)).cell? ⟨w143.heap.size, 2, none⟩ = some (.bool false) := by go_simp
            have ld3 : (w143.alloc (.cells #[.bool false, .slice none 0 0, .bool false, .slice none 0 0] 41)).cell? ⟨w143.heap.size, 3, none⟩ = some (.slice none 0 0) := by go_simp
            have ldR : Row (w143.alloc (.cells #[.bool false, .slice none 0 0, .bool false, .slice none 0 0] 41)) w143.heap.size := row_new w143 _ 41
            clear hHeld
            generalize (w143.alloc (.cells #[.bool false, .slice none 0 0, .bool false, .slice none 0 0] 41)) = w1435 at hBW ld0 ld1 ld2 ld3 ldR lc0 lc1 lc2 lc3 lcR kS11 kT11 kS12 kT12 ⊢
            generalize w143.heap.size = d at ldge ld0 ld1 ld2 ld3 ldR lab ⊢
            refine hK.out _ _ (kp6 (W := W) hBW ⟨Qq00, Qq01, Qq02, Qq10, Qq11, Qq12, hB⟩) ?_
            intro hHeld
            clear hK K
            try simp only [Act.put, List.setIfInBounds_toArray, List.set_cons_zero, List.set_cons_succ]
            have lcd : c ≠ d := by omega
            clear lab
            refine wpAnyH_ready (rs := [6]) (by kernel_rfl) (by simp) ?_
            refine cons' rfl (fun K hK => ?_)
            have lf := fun o => lcR.frozen o
            have X := stored4 (u0 := .bool zs11) (u1 := .slice zp11 zn11 zc11) (u2 := .bool false) (u3 := .slice zq11 zm11 zd11) lc0 lc1 lc2 lc3 ld0 ld1 ld2 ld3 ldR hBW lcge lcd kS11 kT11 kS12 kT12
            go_simp
            clear lc0 lc1 lc2 lc3 ld0 ld1 ld2 ld3 lf lcR ldR hHeld hBW kS11 kT11 kS12 kT12
            generalize ((((w1435.setCell ⟨c, 0, none⟩ (.bool zs11)).setCell ⟨c, 1, none⟩ (.slice zp11 zn11 zc11)).setCell ⟨c, 2, none⟩ (.bool false)).setCell ⟨c, 3, none⟩ (.slice zq11 zm11 zd11)) = wl1 at X ⊢
            obtain ⟨lc0, lc1, lc2, lc3, ld0, ld1, ld2, ld3, ldR, hBW, kS11, kT11, kS12, kT12⟩ := X
            have lcR := ldR
            refine hK.out _ _ (kp6 (W := W) hBW ⟨Qq00, Qq01, Qq02, Qq10, Qq11, Qq12, hB⟩) ?_
            intro hHeld
            clear hK K
            try simp only [Act.put, List.setIfInBounds_toArray, List.set_cons_zero, List.set_cons_succ]
            refine wpAnyH_ready (rs := [7]) (by kernel_rfl) (by simp) ?_
            refine cons' rfl (fun K hK => ?_)
            have lf := fun o => ldR.frozen o
            have X := stored4 (u0 := .bool zs12) (u1 := .slice zp12 zn12 zc12) (u2 := .bool false) (u3 := .slice zq12 zm12 zd12) ld0 ld1 ld2 ld3 lc0 lc1 lc2 lc3 lcR hBW ldge lcd.symm kS11 kT11 kS12 kT12
            go_simp
            clear ld0 ld1 ld2 ld3 lc0 lc1 lc2 lc3 lf ldR lcR hHeld hBW kS11 kT11 kS12 kT12
            generalize ((((wl1.setCell ⟨d, 0, none⟩ (.bool zs12)).setCell ⟨d, 1, none⟩ (.slice zp12 zn12 zc12)).setCell ⟨d, 2, none⟩ (.bool false)).setCell ⟨d, 3, none⟩ (.slice zq12 zm12 zd12)) = wl2 at X ⊢
            obtain ⟨ld0, ld1, ld2, ld3, lc0, lc1, lc2, lc3, lcR, hBW, kS11, kT11, kS12, kT12⟩ := X
            have ldR := lcR
            refine hK.out _ _ (kp6 (W := W) hBW ⟨Qq00, Qq01, Qq02, Qq10, Qq11, Qq12, hB⟩) ?_
            intro hHeld
            clear hK K
            try simp only [Act.put, List.setIfInBounds_toArray, List.set_cons_zero, List.set_cons_succ]
            refine wpAnyH_done (by kernel_rfl) ?_ _
            go_wp2_with fail
            go_meet
            exact ⟨c, d, zs11, zp11, zn11, zc11, zX11, zq11, zm11, zd11, zs12, zp12, zn12, zc12, zX12, zq12, zm12, zd12, rfl, rfl, lcge, ldge, hBW, lc0, lc1, lc2, lc3, ld0, ld1, ld2, ld3, ga11, gb11, gc11, gd11, kS11, kT11, ge11, ga12, gb12, gc12, gd12, kS12, kT12, ge12⟩
          exact AllReadyH.nil
        refine consT rfl (fun K hK => ?_) ?_
        · skip
          go_simp
          have bb := below_alloc (w := w14) (.cells #[.bool false, .slice none 0 0, .bool false, .slice none 0 0] 41)
          have ldge := hBW.size
          have lab := lcR.lt
          replace hBW := hBW.trans (bb.mono hBW.size)
          replace kS11 := kS11.later bb
          replace kT11 := kT11.later bb
          replace lc0 := below_cell bb lc0
          replace lc1 := below_cell bb lc1
          replace lc2 := below_cell bb lc2
          replace lc3 := below_cell bb lc3
          replace lcR := below_row bb lcR
          clear bb
          have ld0 : (w14.alloc (.cells #[.bool false, .slice none 0 0, .bool false, .slice none 0 0] 41)).cell? ⟨w14.heap.size, 0, none⟩ = some (.bool false) := by go_simp
          have ld1 : (w14.alloc (.cells #[.bool false, .slice none 0 0, .bool false, .slice none 0 0] 41)).cell? ⟨w14.heap.size, 1, none⟩ = some (.slice none 0 0) := by go_simp
          have ld2 : (w14.alloc (.cells #[.bool false, .slice none 0 0, .bool false, .slice none 0 0] 41)).cell? ⟨w14.heap.size, 2, none⟩ = some (.bool false) := by go_simp
          have ld3 : (w14.alloc (.cells #[.bool false, .slice none 0 0, .bool false, .slice none 0 0] 41)).cell? ⟨w14.heap.size, 3, none⟩ = some (.slice none 0 0) := by go_simp
          have ldR : Row (w14.alloc (.cells #[.bool false, .slice none 0 0, .bool false, .slice none 0 0] 41)) w14.heap.size := row_new w14 _ 41
          clear hHeld
          generalize (w14.alloc (.cells #[.bool false, .slice none 0 0, .bool false, .slice none 0 0] 41)) = w145 at hBW ld0 ld1 ld2 ld3 ldR lc0 lc1 lc2 lc3 lcR kS11 kT11 ⊢
          generalize w14.heap.size = d at ldge ld0 ld1 ld2 ld3 ldR lab ⊢
          refine hK.out _ _ (kp6 (W := W) hBW ⟨Qq00, Qq01, Qq02, Qq10, Qq11, Qq12, hB⟩) ?_
          intro hHeld
          clear hK K
          try simp only [Act.put, List.setIfInBounds_toArray, List.set_cons_zero, List.set_cons_succ]
          refine wpAnyH_ready (rs := [3]) (by kernel_rfl) (by simp) ?_
          refine consT rfl (fun K hK => ?_) ?_
          · skip
            go_simp
            refine Calls.mono (HR1.out _ (sb hS1 hB hBW) (sb hT1 hB hBW)) ?_
            rintro e w1453 ⟨zs12, zp12, zn12, zc12, zX12, zq12, zm12, zd12, rfl, ga12, gb12, gc12, gd12, kS12, kT12, ge12, bb12⟩
            replace hBW := hBW.trans (bb12.mono hBW.size)
            replace kS11 := kS11.later bb12
            replace kT11 := kT11.later bb12
            replace lc0 := below_cell bb12 lc0
            replace lc1 := below_cell bb12 lc1
            replace lc2 := below_cell bb12 lc2
            replace lc3 := below_cell bb12 lc3
            replace lcR := below_row bb12 lcR
            replace ld0 := below_cell bb12 ld0
            replace ld1 := below_cell bb12 ld1
            replace ld2 := below_cell bb12 ld2
            replace ld3 := below_cell bb12 ld3
            replace ldR := below_row bb12 ldR
            clear bb12
            go_wp2_with fail
            refine hK.out _ _ (kp6 (W := W) hBW ⟨Qq00, Qq01, Qq02, Qq10, Qq11, Qq12, hB⟩) ?_
            clear hHeld
            intro hHeld
            clear hK K
            try simp only [Act.put, List.setIfInBounds_toArray, List.set_cons_zero, List.set_cons_succ]
            have lcd : c ≠ d := by omega
            clear lab
            refine wpAnyH_ready (rs := [6]) (by kernel_rfl) (by simp) ?_
            refine cons' rfl (fun K hK => ?_)
            have lf := fun o => lcR.frozen o
            have X := stored4 (u0 := .bool zs11) (u1 := .slice zp11 zn11 zc11) (u2 := .bool false) (u3 := .slice zq11 zm11 zd11) lc0 lc1 lc2 lc3 ld0 ld1 ld2 ld3 ldR hBW lcge lcd kS11 kT11 kS12 kT12
            go_simp
            clear lc0 lc1 lc2 lc3 ld0 ld1 ld2 ld3 lf lcR ldR hHeld hBW kS11 kT11 kS12 kT12
            generalize ((((w1453.setCell ⟨c, 0, none⟩ (.bool zs11)).setCell ⟨c, 1, none⟩ (.slice zp11 zn11 zc11)).setCell ⟨c, 2, none⟩ (.bool false)).setCell ⟨c, 3, none⟩ (.slice zq11 zm11 zd11)) = wl1 at X ⊢
            obtain ⟨lc0, lc1, lc2, lc3, ld0, ld1, ld2, ld3, ldR, hBW, kS11, kT11, kS12, kT12⟩ := X
            have lcR := ldR
            refine hK.out _ _ (kp6 (W := W) hBW ⟨Qq00, Qq01, Qq02, Qq10, Qq11, Qq12, hB⟩) ?_
            intro hHeld
            clear hK K
            try simp only [Act.put, List.setIfInBounds_toArray, List.set_cons_zero, List.set_cons_succ]
            refine wpAnyH_ready (rs := [7]) (by kernel_rfl) (by simp) ?_
            refine cons' rfl (fun K hK => ?_)
            have lf := fun o => ldR.frozen o
            have X := stored4 (u0 := .bool zs12) (u1 := .slice zp12 zn12 zc12) (u2 := .bool false) (u3 := .slice zq12 zm12 zd12) ld0 ld1 ld2 ld3 lc0 lc1 lc2 lc3 lcR hBW ldge lcd.symm kS11 kT11 kS12 kT12
            go_simp
            clear ld0 ld1 ld2 ld3 lc0 lc1 lc2 lc3 lf ldR lcR hHeld hBW kS11 kT11 kS12 kT12
            generalize ((((wl1.setCell ⟨d, 0, none⟩ (.bool zs12)).setCell ⟨d, 1, none⟩ (.slice zp12 zn12 zc12)).setCell ⟨d, 2, none⟩ (.bool false)).setCell ⟨d, 3, none⟩ (.slice zq12 zm12 zd12)) = wl2 at X ⊢
            obtain ⟨ld0, ld1, ld2, ld3, lc0, lc1, lc2, lc3, lcR, hBW, kS11, kT11, kS12, kT12⟩ := X
            have ldR := lcR
            refine hK.out _ _ (kp6 (W := W) hBW ⟨Qq00, Qq01, Qq02, Qq10, Qq11, Qq12, hB⟩) ?_
            intro hHeld
            clear hK K
            try simp only [Act.put, List.setIfInBounds_toArray, List.set_cons_zero, List.set_cons_succ]
            refine wpAnyH_done (by kernel_rfl) ?_ _
            go_wp2_with fail
            go_meet
            exact ⟨c, d, zs11, zp11, zn11, zc11, zX11, zq11, zm11, zd11, zs12, zp12, zn12, zc12, zX12, zq12, zm12, zd12, rfl, rfl, lcge, ldge, hBW, lc0, lc1, lc2, lc3, ld0, ld1, ld2, ld3, ga11, gb11, gc11, gd11, kS11, kT11, ge11, ga12, gb12, gc12, gd12, kS12, kT12, ge12⟩
          exact AllReadyH.nil
        exact AllReadyH.nil
      refine consT rfl (fun K hK => ?_) ?_
      · skip
        go_simp
        have bb := below_alloc (w := w1) (.cells #[.bool false, .slice none 0 0, .bool false, .slice none 0 0] 41)
        have ldge := hBW.size
        replace hBW := hBW.trans (bb.mono hBW.size)
        replace kS11 := kS11.later bb
        replace kT11 := kT11.later bb
        clear bb
        have ld0 : (w1.alloc (.cells #[.bool false, .slice none 0 0, .bool false, .slice none 0 0] 41)).cell? ⟨w1.heap.size, 0, none⟩ = some (.bool false) := by go_simp
        have ld1 : (w1.alloc (.cells #[.bool false, .slice none 0 0, .bool false, .slice none 0 0] 41)).cell? ⟨w1.heap.size, 1, none⟩ = some (.slice none 0 0) := by go_simp
        have ld2 : (w1.alloc (.cells #[.bool false, .slice none 0 0, .bool false, .slice none 0 0] 41)).cell? ⟨w1.heap.size, 2, none⟩ = some (.bool false) := by go_simp
        have ld3 : (w1.alloc (.cells #[.bool false, .slice none 0 0, .bool false, .slice none 0 0] 41)).cell? ⟨w1.heap.size, 3, none⟩ = some (.slice none 0 0) := by go_simp
        have ldR : Row (w1.alloc (.cells #[.bool false, .slice none 0 0, .bool false, .slice none 0 0] 41)) w1.heap.size := row_new w1 _ 41
        clear hHeld
        generalize (w1.alloc (.cells #[.bool false, .slice none 0 0, .bool false, .slice none 0 0] 41)) = w15 at hBW ld0 ld1 ld2 ld3 ldR kS11 kT11 ⊢
        generalize w1.heap.size = d at ldge ld0 ld1 ld2 ld3 ldR ⊢
        refine hK.out _ _ (kp6 (W := W) hBW ⟨Qq00, Qq01, Qq02, Qq10, Qq11, Qq12, hB⟩) ?_
        intro hHeld
        clear hK K
        try simp only [Act.put, List.setIfInBounds_toArray, List.set_cons_zero, List.set_cons_succ]
        refine wpAnyH_ready (rs := [3, 4]) (by kernel_rfl) (by simp) ?_
        refine consT rfl (fun K hK => ?_) ?_
        · skip
          go_simp
          refine Calls.mono (HR1.out _ (sb hS1 hB hBW) (sb hT1 hB hBW)) ?_
          rintro e w153 ⟨zs12, zp12, zn12, zc12, zX12, zq12, zm12, zd12, rfl, ga12, gb12, gc12, gd12, kS12, kT12, ge12, bb12⟩
          replace hBW := hBW.trans (bb12.mono hBW.size)
          replace kS11 := kS11.later bb12
          replace kT11 := kT11.later bb12
          replace ld0 := below_cell bb12 ld0
          replace ld1 := below_cell bb12 ld1
          replace ld2 := below_cell bb12 ld2
          replace ld3 := below_cell bb12 ld3
          replace ldR := below_row bb12 ldR
          clear bb12
          go_wp2_with fail
          refine hK.out _ _ (kp6 (W := W) hBW ⟨Qq00, Qq01, Qq02, Qq10, Qq11, Qq12, hB⟩) ?_
          clear hHeld
          intro hHeld
          clear hK K
          try simp only [Act.put, List.setIfInBounds_toArray, List.set_cons_zero, List.set_cons_succ]
          refine wpAnyH_ready (rs := [4]) (by kernel_rfl) (by simp) ?_
          refine consT rfl (fun K hK => ?_) ?_
          · skip
            go_simp
            have bb := below_alloc (w := w153) (.cells #[.bool false, .slice none 0 0, .bool false, .slice none 0 0] 41)
            have lcge := hBW.size
            have lab := ldR.lt
            replace hBW := hBW.trans (bb.mono hBW.size)
            replace kS11 := kS11.later bb
            replace kT11 := kT11.later bb
            replace kS12 := kS12.later bb
            replace kT12 := kT12.later bb
            replace ld0 := below_cell bb ld0
            replace ld1 := below_cell bb ld1
            replace ld2 := below_cell bb ld2
            replace ld3 := below_cell bb ld3
            replace ldR := below_row bb ldR
            clear bb
            have lc0 : (w153.alloc (.cells #[.bool false, .slice none 0 0, .bool false, .slice none 0 0] 41)).cell? ⟨w153.heap.size, 0, none⟩ = some (.bool false) := by go_simp
            have lc1 : (w153.alloc (.cells #[.bool false, .slice none 0 0, .bool false, .slice none 0 0] 41)).cell? ⟨w153.heap.size, 1, none⟩ = some (.slice none 0 0) := by go_simp
            have lc2 : (w153.alloc (.cells #[.bool false, .slice none 0 0, .bool false, .slice none 0 0] 41)).cell? ⟨w153.heap.size, 2, none⟩ = some (.bool false) := by go_simp
            have lc3 : (w153.alloc (.cells #[.bool false, .slice none 0 0, .bool false, .slice none 0 0] 41)).cell? ⟨w153.heap.size, 3, none⟩ = some (.slice none 0 0) := by go_simp
            have lcR : Row (w153.alloc (.cells #[.bool false, .slice none 0 0, .bool false, .slice none 0 0] 41)) w153.heap.size := row_new w153 _ 41
            clear hHeld
            generalize (w153.alloc (.cells #[.bool false, .slice none 0 0, .bool false, .slice none 0 0] 41)) = w1534 at hBW lc0 lc1 lc2 lc3 lcR ld0 ld1 ld2 ld3 ldR kS11 kT11 kS12 kT12 ⊢
            generalize w153.heap.size = c at lcge lc0 lc1 lc2 lc3 lcR lab ⊢
            refine hK.out _ _ (kp6 (W := W) hBW ⟨Qq00, Qq01, Qq02, Qq10, Qq11, Qq12, hB⟩) ?_
            intro hHeld
            clear hK K
            try simp only [Act.put, List.setIfInBounds_toArray, List.set_cons_zero, List.set_cons_succ]
            have lcd : c ≠ d := by omega
            clear lab
            refine wpAnyH_ready (rs := [6]) (by kernel_rfl) (by simp) ?_
            refine cons' rfl (fun K hK => ?_)
            have lf := fun o => lcR.frozen o
            have X := stored4 (u0 := .bool zs11) (u1 := .slice zp11 zn11 zc11) (u2 := .bool false) (u3 := .slice zq11 zm11 zd11) lc0 lc1 lc2 lc3 ld0 ld1 ld2 ld3 ldR hBW lcge lcd kS11 kT11 kS12 kT12
            go_simp
            clear lc0 lc1 lc2 lc3 ld0 ld1 ld2 ld3 lf lcR ldR hHeld hBW kS11 kT11 kS12 kT12
            generalize ((((w1534.setCell ⟨c, 0, none⟩ (.bool zs11)).setCell ⟨c, 1, none⟩ (.slice zp11 zn11 zc11)).setCell ⟨c, 2, none⟩ (.bool false)).setCell ⟨c, 3, none⟩ (.slice zq11 zm11 zd11)) = wl1 at X ⊢
            obtain ⟨lc0, lc1, lc2, lc3, ld0, ld1, ld2, ld3, ldR, hBW, kS11, kT11, kS12, kT12⟩ := X
            have lcR := ldR
            refine hK.out _ _ (kp6 (W := W) hBW ⟨Qq00, Qq01, Qq02, Qq10, Qq11, Qq12, hB⟩) ?_
            intro hHeld
            clear hK K
            try simp only [Act.put, List.setIfInBounds_toArray, List.set_cons_zero, List.set_cons_succ]
            refine wpAnyH_ready (rs := [7]) (by kernel_rfl) (by simp) ?_
            refine cons' rfl (fun K hK => ?_)
            have lf := fun o => ldR.frozen o
            have X := stored4 (u0 := .bool zs12) (u1 := .slice zp12 zn12 zc12) (u2 := .bool false) (u3 := .slice zq12 zm12 zd12) ld0 ld1 ld2 ld3 lc0 lc1 lc2 lc3 lcR hBW ldge lcd.symm kS11 kT11 kS12 kT12
            go_simp
            clear ld0 ld1 ld2 ld3 lc0 lc1 lc2 lc3 lf ldR lcR hHeld hBW kS11 kT11 kS12 kT12
            generalize ((((wl1.setCell ⟨d, 0, none⟩ (.bool zs12)).setCell ⟨d, 1, none⟩ (.slice zp12 zn12 zc12)).setCell ⟨d, 2, none⟩ (.bool false)).setCell ⟨d, 3, none⟩ (.slice zq12 zm12 zd12)) = wl2 at X ⊢
            obtain ⟨ld0, ld1, ld2, ld3, lc0, lc1, lc2, lc3, lcR, hBW, kS11, kT11, kS12, kT12⟩ := X
            have ldR := lcR
            refine hK.out _ _ (kp6 (W := W) hBW ⟨Qq00, Qq01, Qq02, Qq10, Qq11, Qq12, hB⟩) ?_
            intro hHeld
            clear hK K
            try simp only [Act.put, List.setIfInBounds_toArray, List.set_cons_zero, List.set_cons_succ]
            refine wpAnyH_done (by kernel_rfl) ?_ _
            go_wp2_with fail
            go_meet
            exact ⟨c, d, zs11, zp11, zn11, zc11, zX11, zq11, zm11, zd11, zs12, zp12, zn12, zc12, zX12, zq12, zm12, zd12, rfl, rfl, lcge, ldge, hBW, lc0, lc1, lc2, lc3, ld0, ld1, ld2, ld3, ga11, gb11, gc11, gd11, kS11, kT11, ge11, ga12, gb12, gc12, gd12, kS12, kT12, ge12⟩
          exact AllReadyH.nil
        refine consT rfl (fun K hK => ?_) ?_
        · skip
          go_simp
          have bb := below_alloc (w := w15) (.cells #[.bool false, .slice none 0 0, .bool false, .slice none 0 0] 41)
          have lcge := hBW.size
          have lab := ldR.lt
          replace hBW := hBW.trans (bb.mono hBW.size)
          replace kS11 := kS11.later bb
          replace kT11 := kT11.later bb
          replace ld0 := below_cell bb ld0
          replace ld1 := below_cell bb ld1
          replace ld2 := below_cell bb ld2
          replace ld3 := below_cell bb ld3
          replace ldR := below_row bb ldR
          clear bb
          have lc0 : (w15.alloc (.cells #[.bool false, .slice none 0 0, .bool false, .slice none 0 0] 41)).cell? ⟨w15.heap.size, 0, none⟩ = some (.bool false) := by go_simp
          have lc1 : (w15.alloc (.cells #[.bool false, .slice none 0 0, .bool false, .slice none 0 0] 41)).cell? ⟨w15.heap.size, 1, none⟩ = some (.slice none 0 0) := by go_simp
          have lc2 : (w15.alloc (.cells #[.bool false, .slice none 0 0, .bool false, .slice none 0 0] 41)).cell? ⟨w15.heap.size, 2, none⟩ = some (.bool false) := by go_simp
          have lc3 : (w15.alloc (.cells #[.bool false, .slice none 0 0, .bool false, .slice none 0 0] 41)).cell? ⟨w15.heap.size, 3, none⟩ = some (.slice none 0 0) := by go_simp
          have lcR : Row (w15.alloc (.cells #[.bool false, .slice none 0 0, .bool false, .slice none 0 0] 41)) w15.heap.size := row_new w15 _ 41
          clear hHeld
          generalize (w15.alloc (.cells #[.bool false, .slice none 0 0, .bool false, .slice none 0 0] 41)) = w154 at hBW lc0 lc1 lc2 lc3 lcR ld0 ld1 ld2 ld3 ldR kS11 kT11 ⊢
          generalize w15.heap.size = c at lcge lc0 lc1 lc2 lc3 lcR lab ⊢
          refine hK.out _ _ (kp6 (W := W) hBW ⟨Qq00, Qq01, Qq02, Qq10, Qq11, Qq12, hB⟩) ?_
          intro hHeld
          clear hK K
          try simp only [Act.put, List.setIfInBounds_toArray, List.set_cons_zero, List.set_cons_succ]
          refine wpAnyH_ready (rs := [3]) (by kernel_rfl) (by simp) ?_
          refine consT rfl (fun K hK => ?_) ?_
          · skip
            go_simp
            refine Calls.mono (HR1.out _ (sb hS1 hB hBW) (sb hT1 hB hBW)) ?_
            rintro e w1543 ⟨zs12, zp12, zn12, zc12, zX12, zq12, zm12, zd12, rfl, ga12, gb12, gc12, gd12, kS12, kT12, ge12, bb12⟩
            replace hBW := hBW.trans (bb12.mono hBW.size)
            replace kS11 := kS11.later bb12
            replace kT11 := kT11.later bb12
            replace lc0 := below_cell bb12 lc0
            replace lc1 := below_cell bb12 lc1
            replace lc2 := below_cell bb12 lc2
            replace lc3 := below_cell bb12 lc3
            replace lcR := below_row bb12 lcR
            replace ld0 := below_cell bb12 ld0
            replace ld1 := below_cell bb12 ld1
            replace ld2 := below_cell bb12 ld2
            replace ld3 := below_cell bb12 ld3
            replace ldR := below_row bb12 ldR
            clear bb12
            go_wp2_with fail
            refine hK.out _ _ (kp6 (W := W) hBW ⟨Qq00, Qq01, Qq02, Qq10, Qq11, Qq12, hB⟩) ?_
            clear hHeld
            intro hHeld
            clear hK K
            try simp only [Act.put, List.setIfInBounds_toArray, List.set_cons_zero, List.set_cons_succ]
            have lcd : c ≠ d := by omega
            clear lab
            refine wpAnyH_ready (rs := [6]) (by kernel_rfl) (by simp) ?_
            refine cons' rfl (fun K hK => ?_)
            have lf := fun o => lcR.frozen o
            have X := stored4 (u0 := .bool zs11) (u1 := .slice zp11 zn11 zc11) (u2 := .bool false) (u3 := .slice zq11 zm11 zd11) lc0 lc1 lc2 lc3 ld0 ld1 ld2 ld3 ldR hBW lcge lcd kS11 kT11 kS12 kT12
            go_simp
            clear lc0 lc1 lc2 lc3 ld0 ld1 ld2 ld3 lf lcR ldR hHeld hBW kS11 kT11 kS12 kT12
            generalize ((((w1543.setCell ⟨c, 0, none⟩ (.bool zs11)).setCell ⟨c, 1, none⟩ (.slice zp11 zn11 zc11)).setCell ⟨c, 2, none⟩ (.bool false)).setCell ⟨c, 3, none⟩ (.slice zq11 zm11 zd11)) = wl1 at X ⊢
            obtain ⟨lc0, lc1, lc2, lc3, ld0, ld1, ld2, ld3, ldR, hBW, kS11, kT11, kS12, kT12⟩ := X
            have lcR := ldR
            refine hK.out _ _ (kp6 (W := W) hBW ⟨Qq00, Qq01, Qq02, Qq10, Qq11, Qq12, hB⟩) ?_
            intro hHeld
            clear hK K
            try simp only [Act.put, List.setIfInBounds_toArray, List.set_cons_zero, List.set_cons_succ]
            refine wpAnyH_ready (rs := [7]) (by kernel_rfl) (by simp) ?_
            refine cons' rfl (fun K hK => ?_)
            have lf := fun o => ldR.frozen o
            have X := stored4 (u0 := .bool zs12) (u1 := .slice zp12 zn12 zc12) (u2 := .bool false) (u3 := .slice zq12 zm12 zd12) ld0 ld1 ld2 ld3 lc0 lc1 lc2 lc3 lcR hBW ldge lcd.symm kS11 kT11 kS12 kT12
            go_simp
            clear ld0 ld1 ld2 ld3 lc0 lc1 lc2 lc3 lf ldR lcR hHeld hBW kS11 kT11 kS12 kT12
            generalize ((((wl1.setCell ⟨d, 0, none⟩ (.bool zs12)).setCell ⟨d, 1, none⟩ (.slice zp12 zn12 zc12)).setCell ⟨d, 2, none⟩ (.bool false)).setCell ⟨d, 3, none⟩ (.slice zq12 zm12 zd12)) = wl2 at X ⊢
            obtain ⟨ld0, ld1, ld2, ld3, lc0, lc1, lc2, lc3, lcR, hBW, kS11, kT11, kS12, kT12⟩ := X
            have ldR := lcR
            refine hK.out _ _ (kp6 (W := W) hBW ⟨Qq00, Qq01, Qq02, Qq10, Qq11, Qq12, hB⟩) ?_
            intro hHeld
            clear hK K
            try simp only [Act.put, List.setIfInBounds_toArray, List.set_cons_zero, List.set_cons_succ]
            refine wpAnyH_done (by kernel_rfl) ?_ _
            go_wp2_with fail
            go_meet
            exact ⟨c, d, zs11, zp11, zn11, zc11, zX11, zq11, zm11, zd11, zs12, zp12, zn12, zc12, zX12, zq12, zm12, zd12, rfl, rfl, lcge, ldge, hBW, lc0, lc1, lc2, lc3, ld0, ld1, ld2, ld3, ga11, gb11, gc11, gd11, kS11, kT11, ge11, ga12, gb12, gc12, gd12, kS12, kT12, ge12⟩
          exact AllReadyH.nil
        exact AllReadyH.nil
      exact AllReadyH.nil
    refine consT rfl (fun K hK => ?_) ?_
    · skip
      go_simp
      have bb := below_alloc (w := w0) (.cells #[.bool false, .slice none 0 0, .bool false, .slice none 0 0] 41)
      have lcge := hBW.size
      replace hBW := hBW.trans (bb.mono hBW.size)
      clear bb
      have lc0 : (w0.alloc (.cells #[.bool false, .slice none 0 0, .bool false, .slice none 0 0] 41)).cell? ⟨w0.heap.size, 0, none⟩ = some (.bool false) := by go_simp
      have lc1 : (w0.alloc (.cells #[.bool false, .slice none 0 0, .bool false, .slice none 0 0] 41)).cell? ⟨w0.heap.size, 1, none⟩ = some (.slice none 0 0) := by go_simp
      have lc2 : (w0.alloc (.cells #[.bool false, .slice none 0 0, .bool false, .slice none 0 0] 41)).cell? ⟨w0.heap.size, 2, none⟩ = some (.bool false) := by go_simp
      have lc3 : (w0.alloc (.cells #[.bool false, .slice none 0 0, .bool false, .slice none 0 0] 41)).cell? ⟨w0.heap.size, 3, none⟩ = some (.slice none 0 0) := by go_simp
      have lcR : Row (w0.alloc (.cells #[.bool false, .slice none 0 0, .bool false, .slice none 0 0] 41)) w0.heap.size := row_new w0 _ 41
      clear hHeld
      generalize (w0.alloc (.cells #[.bool false, .slice none 0 0, .bool false, .slice none 0 0] 41)) = w4 at hBW lc0 lc1 lc2 lc3 lcR ⊢
      generalize w0.heap.size = c at lcge lc0 lc1 lc2 lc3 lcR ⊢
      refine hK.out _ _ (kp6 (W := W) hBW ⟨Qq00, Qq01, Qq02, Qq10, Qq11, Qq12, hB⟩) ?_
      intro hHeld
      clear hK K
      try simp only [Act.put, List.setIfInBounds_toArray, List.set_cons_zero, List.set_cons_succ]
      refine wpAnyH_ready (rs := [1, 5]) (by kernel_rfl) (by simp) ?_
      refine consT rfl (fun K hK => ?_) ?_
      · skip
        go_simp
        refine Calls.mono (HR0.out _ (sb hS0 hB hBW) (sb hT0 hB hBW)) ?_
        rintro e w41 ⟨zs11, zp11, zn11, zc11, zX11, zq11, zm11, zd11, rfl, ga11, gb11, gc11, gd11, kS11, kT11, ge11, bb11⟩
        replace hBW := hBW.trans (bb11.mono hBW.size)
        replace lc0 := below_cell bb11 lc0
        replace lc1 := below_cell bb11 lc1
        replace lc2 := below_cell bb11 lc2
        replace lc3 := below_cell bb11 lc3
        replace lcR := below_row bb11 lcR
        clear bb11
        go_wp2_with fail
        refine hK.out _ _ (kp6 (W := W) hBW ⟨Qq00, Qq01, Qq02, Qq10, Qq11, Qq12, hB⟩) ?_
        clear hHeld
        intro hHeld
        clear hK K
        try simp only [Act.put, List.setIfInBounds_toArray, List.set_cons_zero, List.set_cons_succ]
        refine wpAnyH_ready (rs := [3, 5]) (by kernel_rfl) (by simp) ?_
        refine consT rfl (fun K hK => ?_) ?_
        · skip
          go_simp
          refine Calls.mono (HR1.out _ (sb hS1 hB hBW) (sb hT1 hB hBW)) ?_
          rintro e w413 ⟨zs12, zp12, zn12, zc12, zX12, zq12, zm12, zd12, rfl, ga12, gb12, gc12, gd12, kS12, kT12, ge12, bb12⟩
          replace hBW := hBW.trans (bb12.mono hBW.size)
          replace kS11 := kS11.later bb12
          replace kT11 := kT11.later bb12
          replace lc0 := below_cell bb12 lc0
          replace lc1 := below_cell bb12 lc1
          replace lc2 := below_cell bb12 lc2
          replace lc3 := below_cell bb12 lc3
          replace lcR := below_row bb12 lcR
          clear bb12
          go_wp2_with fail
          refine hK.out _ _ (kp6 (W := W) hBW ⟨Qq00, Qq01, Qq02, Qq10, Qq11, Qq12, hB⟩) ?_
          clear hHeld
          intro hHeld
          clear hK K
          try simp only [Act.put, List.setIfInBounds_toArray, List.set_cons_zero, List.set_cons_succ]
          refine wpAnyH_ready (rs := [5]) (by kernel_rfl) (by simp) ?_
          refine consT rfl (fun K hK => ?_) ?_
          · skip
            go_simp
            have bb := below_alloc (w := w413) (.cells #[.bool false, .slice none 0 0, .bool false, .slice none 0 0] 41)
            have ldge := hBW.size
            have lab := lcR.lt
            replace hBW := hBW.trans (bb.mono hBW.size)
            replace kS11 := kS11.later bb
            replace kT11 := kT11.later bb
            replace kS12 := kS12.later bb
            replace kT12 := kT12.later bb
            replace lc0 := below_cell bb lc0
            replace lc1 := below_cell bb lc1
            replace lc2 := below_cell bb lc2
            replace lc3 := below_cell bb lc3
            replace lcR := below_row bb lcR
            clear bb
            have ld0 : (w413.alloc (.cells #[.bool false, .slice none 0 0, .bool false, .slice none 0 0] 41)).cell? ⟨w413.heap.size, 0, none⟩ = some (.bool false) := by go_simp
            have ld1 : (w413.alloc (.cells #[.bool false, .slice none 0 0, .bool false, .slice none 0 0] 41)).cell? ⟨w413.heap.size, 1, none⟩ = some (.slice none 0 0) := by go_simp
            have ld2 : (w413.alloc (.cells #[.bool false, .slice none 0 0, .bool false, .slice none 0 0] 41)).cell? ⟨w413.heap.size, 2, none⟩ = some (.bool false) := by go_simp
            have ld3 : (w413.alloc (.cells #[.bool false, .slice none 0 0, .bool false, .slice none 0 0] 41)).cell? ⟨w413.heap.size, 3, none⟩ = some (.slice none 0 0) := by go_simp
            have ldR : Row (w413.alloc (.cells #[.bool false, .slice none 0 0, .bool false, .slice none 0 0] 41)) w413.heap.size := row_new w413 _ 41
            clear hHeld
            generalize (w413.alloc (.cells #[.bool false, .slice none 0 0, .bool false, .slice none 0 0] 41)) = w4135 at hBW ld0 ld1 ld2 ld3 ldR lc0 lc1 lc2 lc3 lcR kS11 kT11 kS12 kT12 ⊢
            generalize w413.heap.size = d at ldge ld0 ld1 ld2 ld3 ldR lab ⊢
            refine hK.out _ _ (kp6 (W := W) hBW ⟨Qq00, Qq01, Qq02, Qq10, Qq11, Qq12, hB⟩) ?_
            intro hHeld
            clear hK K
            try simp only [Act.put, List.setIfInBounds_toArray, List.set_cons_zero, List.set_cons_succ]
            have lcd : c ≠ d := by omega
            clear lab
            refine wpAnyH_ready (rs := [6]) (by kernel_rfl) (by simp) ?_
            refine cons' rfl (fun K hK => ?_)
            have lf := fun o => lcR.frozen o
            have X := stored4 (u0 := .bool zs11) (u1 := .slice zp11 zn11 zc11) (u2 := .bool false) (u3 := .slice zq11 zm11 zd11) lc0 lc1 lc2 lc3 ld0 ld1 ld2 ld3 ldR hBW lcge lcd kS11 kT11 kS12 kT12
            go_simp
            clear lc0 lc1 lc2 lc3 ld0 ld1 ld2 ld3 lf lcR ldR hHeld hBW kS11 kT11 kS12 kT12
            generalize ((((w4135.setCell ⟨c, 0, none⟩ (.bool zs11)).setCell ⟨c, 1, none⟩ (.slice zp11 zn11 zc11)).setCell ⟨c, 2, none⟩ (.bool false)).setCell ⟨c, 3, none⟩ (.slice zq11 zm11 zd11)) = wl1 at X ⊢
            obtain ⟨lc0, lc1, lc2, lc3, ld0, ld1, ld2, ld3, ldR, hBW, kS11, kT11, kS12, kT12⟩ := X
            have lcR := ldR
            refine hK.out _ _ (kp6 (W := W) hBW ⟨Qq00, Qq01, Qq02, Qq10, Qq11, Qq12, hB⟩) ?_
            intro hHeld
            clear hK K
            try simp only [Act.put, List.setIfInBounds_toArray, List.set_cons_zero, List.set_cons_succ]
            refine wpAnyH_ready (rs := [7]) (by kernel_rfl) (by simp) ?_
            refine cons' rfl (fun K hK => ?_)
            have lf := fun o => ldR.frozen o
            have X := stored4 (u0 := .bool zs12) (u1 := .slice zp12 zn12 zc12) (u2 := .bool false) (u3 := .slice zq12 zm12 zd12) ld0 ld1 ld2 ld3 lc0 lc1 lc2 lc3 lcR hBW ldge lcd.symm kS11 kT11 kS12 kT12
            go_simp
            clear ld0 ld1 ld2 ld3 lc0 lc1 lc2 lc3 lf ldR lcR hHeld hBW kS11 kT11 kS12 kT12
            generalize ((((wl1.setCell ⟨d, 0, none⟩ (.bool zs12)).setCell ⟨d, 1, none⟩ (.slice zp12 zn12 zc12)).setCell ⟨d, 2, none⟩ (.bool false)).setCell ⟨d, 3, none⟩ (.slice zq12 zm12 zd12)) = wl2 at X ⊢
            obtain ⟨ld0, ld1, ld2, ld3, lc0, lc1, lc2, lc3, lcR, hBW, kS11, kT11, kS12, kT12⟩ := X
            have ldR := lcR
            refine hK.out _ _ (kp6 (W := W) hBW ⟨Qq00, Qq01, Qq02, Qq10, Qq11, Qq12, hB⟩) ?_
            intro hHeld
            clear hK K
            try simp only [Act.put, List.setIfInBounds_toArray, List.set_cons_zero, List.set_cons_succ]
            refine wpAnyH_done (by kernel_rfl) ?_ _
            go_wp2_with fail
            go_meet
            exact ⟨c, d, zs11, zp11, zn11, zc11, zX11, zq11, zm11, zd11, zs12, zp12, zn12, zc12, zX12, zq12, zm12, zd12, rfl, rfl, lcge, ldge, hBW, lc0, lc1, lc2, lc3, ld0, ld1, ld2, ld3, ga11, gb11, gc11, gd11, kS11, kT11, ge11, ga12, gb12, gc12, gd12, kS12, kT12, ge12⟩
          exact AllReadyH.nil
        refine consT rfl (fun K hK => ?_) ?_
        · skip
          go_simp
          have bb := below_alloc (w := w41) (.cells #[.bool false, .slice none 0 0, .bool false, .slice none 0 0] 41)
          have ldge := hBW.size
          have lab := lcR.lt
          replace hBW := hBW.trans (bb.mono hBW.size)
          replace kS11 := kS11.later bb
          replace kT11 := kT11.later bb
          replace lc0 := below_cell bb lc0
          replace lc1 := below_cell bb lc1
          replace lc2 := below_cell bb lc2
          replace lc3 := below_cell bb lc3
          replace lcR := below_row bb lcR
          clear bb
          have ld0 : (w41.alloc (.cells #[.bool false, .slice none 0 0, .bool false, .slice none 0 0] 41)).cell? ⟨w41.heap.size, 0, none⟩ = some (.bool false) := by go_simp
          have ld1 : (w41.alloc (.cells #[.bool false, .slice none 0 0, .bool false, .slice none 0 0] 41)).cell? ⟨w41.heap.size, 1, none⟩ = some (.slice none 0 0) := by go_simp
          have ld2 : (w41.alloc (.cells #[.bool false, .slice none 0 0, .bool false, .slice none 0 0] 41)).cell? ⟨w41.heap.size, 2, none⟩ = some (.bool false) := by go_simp
          have ld3 : (w41.alloc (.cells #[.bool false, .slice none 0 0, .bool false, .slice none 0 0] 41)).cell? ⟨w41.heap.size, 3, none⟩ = some (.slice none 0 0) := by go_simp
          have ldR : Row (w41.alloc (.cells #[.bool false, .slice none 0 0, .bool false, .slice none 0 0] 41)) w41.heap.size := row_new w41 _ 41
          clear hHeld
          generalize (w41.alloc (.cells #[.bool false, .slice none 0 0, .bool false, .slice none 0 0] 41)) = w415 at hBW ld0 ld1 ld2 ld3 ldR lc0 lc1 lc2 lc3 lcR kS11 kT11 ⊢
          generalize w41.heap.size = d at ldge ld0 ld1 ld2 ld3 ldR lab ⊢
          refine hK.out _ _ (kp6 (W := W) hBW ⟨Qq00, Qq01, Qq02, Qq10, Qq11, Qq12, hB⟩) ?_
          intro hHeld
          clear hK K
          try simp only [Act.put, List.setIfInBounds_toArray, List.set_cons_zero, List.set_cons_succ]
          refine wpAnyH_ready (rs := [3]) (by kernel_rfl) (by simp) ?_
          refine consT rfl (fun K hK => ?_) ?_
          · skip
            go_simp
            refine Calls.mono (HR1.out _ (sb hS1 hB hBW) (sb hT1 hB hBW)) ?_
            rintro e w4153 ⟨zs12, zp12, zn12, zc12, zX12, zq12, zm12, zd12, rfl, ga12, gb12, gc12, gd12, kS12, kT12, ge12, bb12⟩
            replace hBW := hBW.trans (bb12.mono hBW.size)
            replace kS11 := kS11.later bb12
            replace kT11 := kT11.later bb12
            replace lc0 := below_cell bb12 lc0
            replace lc1 := below_cell bb12 lc1
            replace lc2 := below_cell bb12 lc2
            replace lc3 := below_cell bb12 lc3
            replace lcR := below_row bb12 lcR
            replace ld0 := below_cell bb12 ld0
            replace ld1 := below_cell bb12 ld1
            replace ld2 := below_cell bb12 ld2
            replace ld3 := below_cell bb12 ld3
            replace ldR := below_row bb12 ldR
            clear bb12
            go_wp2_with fail
            refine hK.out _ _ (kp6 (W := W) hBW ⟨Qq00, Qq01, Qq02, Qq10, Qq11, Qq12, hB⟩) ?_
            clear hHeld
            intro hHeld
            clear hK K
            try simp only [Act.put, List.setIfInBounds_toArray, List.set_cons_zero, List.set_cons_succ]
            have lcd : c ≠ d := by omega
            clear lab
            refine wpAnyH_ready (rs := [6]) (by kernel_rfl) (by simp) ?_
            refine cons' rfl (fun K hK => ?_)
            have lf := fun o => lcR.frozen o
            have X := stored4 (u0 := .bool zs11) (u1 := .slice zp11 zn11 zc11) (u2 := .bool false) (u3 := .slice zq11 zm11 zd11) lc0 lc1 lc2 lc3 ld0 ld1 ld2 ld3 ldR hBW lcge lcd kS11 kT11 kS12 kT12
            go_simp
            clear lc0 lc1 lc2 lc3 ld0 ld1 ld2 ld3 lf lcR ldR hHeld hBW kS11 kT11 kS12 kT12
            generalize ((((w4153.setCell ⟨c, 0, none⟩ (.bool zs11)).setCell ⟨c, 1, none⟩ (.slice zp11 zn11 zc11)).setCell ⟨c, 2, none⟩ (.bool false)).setCell ⟨c, 3, none⟩ (.slice zq11 zm11 zd11)) = wl1 at X ⊢
            obtain ⟨lc0, lc1, lc2, lc3, ld0, ld1, ld2, ld3, ldR, hBW, kS11, kT11, kS12, kT12⟩ := X
            have lcR := ldR
            refine hK.out _ _ (kp6 (W := W) hBW ⟨Qq00, Qq01, Qq02, Qq10, Qq11, Qq12, hB⟩) ?_
            intro hHeld
            clear hK K
            try simp only [Act.put, List.setIfInBounds_toArray, List.set_cons_zero, List.set_cons_succ]
            refine wpAnyH_ready (rs := [7]) (by kernel_rfl) (by simp) ?_
            refine cons' rfl (fun K hK => ?_)
            have lf := fun o => ldR.frozen o
            have X := stored4 (u0 := .bool zs12) (u1 := .slice zp12 zn12 zc12) (u2 := .bool false) (u3 := .slice zq12 zm12 zd12) ld0 ld1 ld2 ld3 lc0 lc1 lc2 lc3 lcR hBW ldge lcd.symm kS11 kT11 kS12 kT12
            go_simp
            clear ld0 ld1 ld2 ld3 lc0 lc1 lc2 lc3 lf ldR lcR hHeld hBW kS11 kT11 kS12 kT12
            generalize ((((wl1.setCell ⟨d, 0, none⟩ (.bool zs12)).setCell ⟨d, 1, none⟩ (.slice zp12 zn12 zc12)).setCell ⟨d, 2, none⟩ (.bool false)).setCell ⟨d, 3, none⟩ (.slice zq12 zm12 zd12)) = wl2 at X ⊢
            obtain ⟨ld0, ld1, ld2, ld3, lc0, lc1, lc2, lc3, lcR, hBW, kS11, kT11, kS12, kT12⟩ := X
            have ldR := lcR
            refine hK.out _ _ (kp6 (W := W) hBW ⟨Qq00, Qq01, Qq02, Qq10, Qq11, Qq12, hB⟩) ?_
            intro hHeld
            clear hK K
            try simp only [Act.put, List.setIfInBounds_toArray, List.set_cons_zero, List.set_cons_succ]
            refine wpAnyH_done (by kernel_rfl) ?_ _
            go_wp2_with fail
            go_meet
            exact ⟨c, d, zs11, zp11, zn11, zc11, zX11, zq11, zm11, zd11, zs12, zp12, zn12, zc12, zX12, zq12, zm12, zd12, rfl, rfl, lcge, ldge, hBW, lc0, lc1, lc2, lc3, ld0, ld1, ld2, ld3, ga11, gb11, gc11, gd11, kS11, kT11, ge11, ga12, gb12, gc12, gd12, kS12, kT12, ge12⟩
          exact AllReadyH.nil
        exact AllReadyH.nil
      refine consT rfl (fun K hK => ?_) ?_
      · skip
        go_simp
        have bb := below_alloc (w := w4) (.cells #[.bool false, .slice none 0 0, .bool false, .slice none 0 0] 41)
        have ldge := hBW.size
        have lab := lcR.lt
        replace hBW := hBW.trans (bb.mono hBW.size)
        replace lc0 := below_cell bb lc0
        replace lc1 := below_cell bb lc1
        replace lc2 := below_cell bb lc2
        replace lc3 := below_cell bb lc3
        replace lcR := below_row bb lcR
        clear bb
        have ld0 : (w4.alloc (.cells #[.bool false, .slice none 0 0, .bool false, .slice none 0 0] 41)).cell? ⟨w4.heap.size, 0, none⟩ = some (.bool false) := by go_simp
        have ld1 : (w4.alloc (.cells #[.bool false, .slice none 0 0, .bool false, .slice none 0 0] 41)).cell? ⟨w4.heap.size, 1, none⟩ = some (.slice none 0 0) := by go_simp
        have ld2 : (w4.alloc (.cells #[.bool false, .slice none 0 0, .bool false, .slice none 0 0] 41)).cell? ⟨w4.heap.size, 2, none⟩ = some (.bool false) := by go_simp
        have ld3 : (w4.alloc (.cells #[.bool false, .slice none 0 0, .bool false, .slice none 0 0] 41)).cell? ⟨w4.heap.size, 3, none⟩ = some (.slice none 0 0) := by go_simp
        have ldR : Row (w4.alloc (.cells #[.bool false, .slice none 0 0, .bool false, .slice none 0 0] 41)) w4.heap.size := row_new w4 _ 41
        clear hHeld
        generalize (w4.alloc (.cells #[.bool false, .slice none 0 0, .bool false, .slice none 0 0] 41)) = w45 at hBW ld0 ld1 ld2 ld3 ldR lc0 lc1 lc2 lc3 lcR ⊢
        generalize w4.heap.size = d at ldge ld0 ld1 ld2 ld3 ldR lab ⊢
        refine hK.out _ _ (kp6 (W := W) hBW ⟨Qq00, Qq01, Qq02, Qq10, Qq11, Qq12, hB⟩) ?_
        intro hHeld
        clear hK K
        try simp only [Act.put, List.setIfInBounds_toArray, List.set_cons_zero, List.set_cons_succ]
        refine wpAnyH_ready (rs := [1]) (by kernel_rfl) (by simp) ?_
        refine consT rfl (fun K hK => ?_) ?_
        · skip
          go_simp
          refine Calls.mono (HR0.out _ (sb hS0 hB hBW) (sb hT0 hB hBW)) ?_
          rintro e w451 ⟨zs11, zp11, zn11, zc11, zX11, zq11, zm11, zd11, rfl, ga11, gb11, gc11, gd11, kS11, kT11, ge11, bb11⟩
          replace hBW := hBW.trans (bb11.mono hBW.size)
          replace lc0 := below_cell bb11 lc0
          replace lc1 := below_cell bb11 lc1
          replace lc2 := below_cell bb11 lc2
          replace lc3 := below_cell bb11 lc3
          replace lcR := below_row bb11 lcR
          replace ld0 := below_cell bb11 ld0
          replace ld1 := below_cell bb11 ld1
          replace ld2 := below_cell bb11 ld2
          replace ld3 := below_cell bb11 ld3
          replace ldR := below_row bb11 ldR
          clear bb11
          go_wp2_with fail
          refine hK.out _ _ (kp6 (W := W) hBW ⟨Qq00, Qq01, Qq02, Qq10, Qq11, Qq12, hB⟩) ?_
          clear hHeld
          intro hHeld
          clear hK K
          try simp only [Act.put, List.setIfInBounds_toArray, List.set_cons_zero, List.set_cons_succ]
          refine wpAnyH_ready (rs := [3]) (by kernel_rfl) (by simp) ?_
          refine consT rfl (fun K hK => ?_) ?_
          · skip
            go_simp
            refine Calls.mono (HR1.out _ (sb hS1 hB hBW) (sb hT1 hB hBW)) ?_
            rintro e w4513 ⟨zs12, zp12, zn12, zc12, zX12, zq12, zm12, zd12, rfl, ga12, gb12, gc12, gd12, kS12, kT12, ge12, bb12⟩
            replace hBW := hBW.trans (bb12.mono hBW.size)
            replace kS11 := kS11.later bb12
            replace kT11 := kT11.later bb12
            replace lc0 := below_cell bb12 lc0
            replace lc1 := below_cell bb12 lc1
            replace lc2 := below_cell bb12 lc2
            replace lc3 := below_cell bb12 lc3
            replace lcR := below_row bb12 lcR
            replace ld0 := below_cell bb12 ld0
            replace ld1 := below_cell bb12 ld1
            replace ld2 := below_cell bb12 ld2
            replace ld3 := below_cell bb12 ld3
            replace ldR := below_row bb12 ldR
            clear bb12
            go_wp2_with fail
            refine hK.out _ _ (kp6 (W := W) hBW ⟨Qq00, Qq01, Qq02, Qq10, Qq11, Qq12, hB⟩) ?_
            clear hHeld
            intro hHeld
            clear hK K
            try simp only [Act.put, List.setIfInBounds_toArray, List.set_cons_zero, List.set_cons_succ]
            have lcd : c ≠ d := by omega
            clear lab
            refine wpAnyH_ready (rs := [6]) (by kernel_rfl) (by simp) ?_
            refine cons' rfl (fun K hK => ?_)
            have lf := fun o => lcR.frozen o
            have X := stored4 (u0 := .bool zs11) (u1 := .slice zp11 zn11 zc11) (u2 := .bool false) (u3 := .slice zq11 zm11 zd11) lc0 lc1 lc2 lc3 ld0 ld1 ld2 ld3 ldR hBW lcge lcd kS11 kT11 kS12 kT12
            go_simp
            clear lc0 lc1 lc2 lc3 ld0 ld1 ld2 ld3 lf lcR ldR hHeld hBW kS11 kT11 kS12 kT12
            generalize ((((w4513.setCell ⟨c, 0, none⟩ (.bool zs11)).setCell ⟨c, 1, none⟩ (.slice zp11 zn11 zc11)).setCell ⟨c, 2, none⟩ (.bool false)).setCell ⟨c, 3, none⟩ (.slice zq11 zm11 zd11)) = wl1 at X ⊢
            obtain ⟨lc0, lc1, lc2, lc3, ld0, ld1, ld2, ld3, ldR, hBW, kS11, kT11, kS12, kT12⟩ := X
            have lcR := ldR
            refine hK.out _ _ (kp6 (W := W) hBW ⟨Qq00, Qq01, Qq02, Qq10, Qq11, Qq12, hB⟩) ?_
            intro hHeld
            clear hK K
            try simp only [Act.put, List.setIfInBounds_toArray, List.set_cons_zero, List.set_cons_succ]
            refine wpAnyH_ready (rs := [7]) (by kernel_rfl) (by simp) ?_
            refine cons' rfl (fun K hK => ?_)
            have lf := fun o => ldR.frozen o
            have X := stored4 (u0 := .bool zs12) (u1 := .slice zp12 zn12 zc12) (u2 := .bool false) (u3 := .slice zq12 zm12 zd12) ld0 ld1 ld2 ld3 lc0 lc1 lc2 lc3 lcR hBW ldge lcd.symm kS11 kT11 kS12 kT12
            go_simp
            clear ld0 ld1 ld2 ld3 lc0 lc1 lc2 lc3 lf ldR lcR hHeld hBW kS11 kT11 kS12 kT12
            generalize ((((wl1.setCell ⟨d, 0, none⟩ (.bool zs12)).setCell ⟨d, 1, none⟩ (.slice zp12 zn12 zc12)).setCell ⟨d, 2, none⟩ (.bool false)).setCell ⟨d, 3, none⟩ (.slice zq12 zm12 zd12)) = wl2 at X ⊢
            obtain ⟨ld0, ld1, ld2, ld3, lc0, lc1, lc2, lc3, lcR, hBW, kS11, kT11, kS12, kT12⟩ := X
            have ldR := lcR
            refine hK.out _ _ (kp6 (W := W) hBW ⟨Qq00, Qq01, Qq02, Qq10, Qq11, Qq12, hB⟩) ?_
            intro hHeld
            clear hK K
            try simp only [Act.put, List.setIfInBounds_toArray, List.set_cons_zero, List.set_cons_succ]
            refine wpAnyH_done (by kernel_rfl) ?_ _
            go_wp2_with fail
            go_meet
            exact ⟨c, d, zs11, zp11, zn11, zc11, zX11, zq11, zm11, zd11, zs12, zp12, zn12, zc12, zX12, zq12, zm12, zd12, rfl, rfl, lcge, ldge, hBW, lc0, lc1, lc2, lc3, ld0, ld1, ld2, ld3, ga11, gb11, gc11, gd11, kS11, kT11, ge11, ga12, gb12, gc12, gd12, kS12, kT12, ge12⟩
          exact AllReadyH.nil
        exact AllReadyH.nil
      exact AllReadyH.nil
    refine consT rfl (fun K hK => ?_) ?_
    · skip
      go_simp
      have bb := below_alloc (w := w0) (.cells #[.bool false, .slice none 0 0, .bool false, .slice none 0 0] 41)
      have ldge := hBW.size
      replace hBW := hBW.trans (bb.mono hBW.size)
      clear bb
      have ld0 : (w0.alloc (.cells #[.bool false, .slice none 0 0, .bool false, .slice none 0 0] 41)).cell? ⟨w0.heap.size, 0, none⟩ = some (.bool false) := by go_simp
      have ld1 : (w0.alloc (.cells #[.bool false, .slice none 0 0, .bool false, .slice none 0 0] 41)).cell? ⟨w0.heap.size, 1, none⟩ = some (.slice none 0 0) := by go_simp
      have ld2 : (w0.alloc (.cells #[.bool false, .slice none 0 0, .bool false, .slice none 0 0] 41)).cell? ⟨w0.heap.size, 2, none⟩ = some (.bool false) := by go_simp
      have ld3 : (w0.alloc (.cells #[.bool false, .slice none 0 0, .bool false, .slice none 0 0] 41)).cell? ⟨w0.heap.size, 3, none⟩ = some (.slice none 0 0) := by go_simp
      have ldR : Row (w0.alloc (.cells #[.bool false, .slice none 0 0, .bool false, .slice none 0 0] 41)) w0.heap.size := row_new w0 _ 41
      clear hHeld
      generalize (w0.alloc (.cells #[.bool false, .slice none 0 0, .bool false, .slice none 0 0] 41)) = w5 at hBW ld0 ld1 ld2 ld3 ldR ⊢
      generalize w0.heap.size = d at ldge ld0 ld1 ld2 ld3 ldR ⊢
      refine hK.out _ _ (kp6 (W := W) hBW ⟨Qq00, Qq01, Qq02, Qq10, Qq11, Qq12, hB⟩) ?_
      intro hHeld
      clear hK K
      try simp only [Act.put, List.setIfInBounds_toArray, List.set_cons_zero, List.set_cons_succ]
      refine wpAnyH_ready (rs := [1, 4]) (by kernel_rfl) (by simp) ?_
      refine consT rfl (fun K hK => ?_) ?_
      · skip
        go_simp
        refine Calls.mono (HR0.out _ (sb hS0 hB hBW) (sb hT0 hB hBW)) ?_
        rintro e w51 ⟨zs11, zp11, zn11, zc11, zX11, zq11, zm11, zd11, rfl, ga11, gb11, gc11, gd11, kS11, kT11, ge11, bb11⟩
        replace hBW := hBW.trans (bb11.mono hBW.size)
        replace ld0 := below_cell bb11 ld0
        replace ld1 := below_cell bb11 ld1
        replace ld2 := below_cell bb11 ld2
        replace ld3 := below_cell bb11 ld3
        replace ldR := below_row bb11 ldR
        clear bb11
        go_wp2_with fail
        refine hK.out _ _ (kp6 (W := W) hBW ⟨Qq00, Qq01, Qq02, Qq10, Qq11, Qq12, hB⟩) ?_
        clear hHeld
        intro hHeld
        clear hK K
        try simp only [Act.put, List.setIfInBounds_toArray, List.set_cons_zero, List.set_cons_succ]
        refine wpAnyH_ready (rs := [3, 4]) (by kernel_rfl) (by simp) ?_
        refine consT rfl (fun K hK => ?_) ?_
        · skip
          go_simp
          refine Calls.mono (HR1.out _ (sb hS1 hB hBW) (sb hT1 hB hBW)) ?_
          rintro e w513 ⟨zs12, zp12, zn12, zc12, zX12, zq12, zm12, zd12, rfl, ga12, gb12, gc12, gd12, kS12, kT12, ge12, bb12⟩
          replace hBW := hBW.trans (bb12.mono hBW.size)
          replace kS11 := kS11.later bb12
          replace kT11 := kT11.later bb12
          replace ld0 := below_cell bb12 ld0
          replace ld1 := below_cell bb12 ld1
          replace ld2 := below_cell bb12 ld2
          replace ld3 := below_cell bb12 ld3
          replace ldR := below_row bb12 ldR
          clear bb12
          go_wp2_with fail
          refine hK.out _ _ (kp6 (W := W) hBW ⟨Qq00, Qq01, Qq02, Qq10, Qq11, Qq12, hB⟩) ?_
          clear hHeld
          intro hHeld
          clear hK K
          try simp only [Act.put, List.setIfInBounds_toArray, List.set_cons_zero, List.set_cons_succ]
          refine wpAnyH_ready (rs := [4]) (by kernel_rfl) (by simp) ?_
          refine consT rfl (fun K hK => ?_) ?_
          · skip
            go_simp
            have bb := below_alloc (w := w513) (.cells #[.bool false, .slice none 0 0, .bool false, .slice none 0 0] 41)
            have lcge := hBW.size
            have lab := ldR.lt
            replace hBW := hBW.trans (bb.mono hBW.size)
            replace kS11 := kS11.later bb
            replace kT11 := kT11.later bb
            replace kS12 := kS12.later bb
            replace kT12 := kT12.later bb
            replace ld0 := below_cell bb ld0
            replace ld1 := below_cell bb ld1
            replace ld2 := below_cell bb ld2
            replace ld3 := below_cell bb ld3
            replace ldR := below_row bb ldR
            clear bb
            have lc0 : (w513.alloc (.cells #[.bool false, .slice none 0 0, .bool false, .slice none 0 0] 41)).cell? ⟨w513.heap.size, 0, none⟩ = some (.bool false) := by go_simp
            have lc1 : (w513.alloc (.cells #[.bool false, .slice none 0 0, .bool false, .slice none 0 0] 41)).cell? ⟨w513.heap.size, 1, none⟩ = some (.slice none 0 0) := by go_simp
            have lc2 : (w513.alloc (.cells #[.bool false, .slice none 0 0, .bool false, .slice none 0 0] 41)).cell? ⟨w513.heap.size, 2, none⟩ = some (.bool false) := by go_simp
            have lc3 : (w513.alloc (.cells #[.bool false, .slice none 0 0, .bool false, .slice none 0 0] 41)).cell? ⟨w513.heap.size, 3, none⟩ = some (.slice none 0 0) := by go_simp
            have lcR : Row (w513.alloc (.cells #[.bool false, .slice none 0 0, .bool false, .slice none 0 0] 41)) w513.heap.size := row_new w513 _ 41
            clear hHeld
            generalize (w513.alloc (.cells #[.bool false, .slice none 0 0, .bool false, .slice none 0 0] 41)) = w5134 at hBW lc0 lc1 lc2 lc3 lcR ld0 ld1 ld2 ld3 ldR kS11 kT11 kS12 kT12 ⊢
            generalize w513.heap.size = c at lcge lc0 lc1 lc2 lc3 lcR lab ⊢
            refine hK.out _ _ (kp6 (W := W) hBW ⟨Qq00, Qq01, Qq02, Qq10, Qq11, Qq12, hB⟩) ?_
            intro hHeld
            clear hK K
            try simp only [Act.put, List.setIfInBounds_toArray, List.set_cons_zero, List.set_cons_succ]
            have lcd : c ≠ d := by omega
            clear lab
            refine wpAnyH_ready (rs := [6]) (by kernel_rfl) (by simp) ?_
            refine cons' rfl (fun K hK => ?_)
            have lf := fun o => lcR.frozen o
            have X := stored4 (u0 := .bool zs11) (u1 := .slice zp11 zn11 zc11) (u2 := .bool false) (u3 := .slice zq11 zm11 zd11) lc0 lc1 lc2 lc3 ld0 ld1 ld2 ld3 ldR hBW lcge lcd kS11 kT11 kS12 kT12
            go_simp
            clear lc0 lc1 lc2 lc3 ld0 ld1 ld2 ld3 lf lcR ldR hHeld hBW kS11 kT11 kS12 kT12
            generalize ((((w5134.setCell ⟨c, 0, none⟩ (.bool zs11)).setCell ⟨c, 1, none⟩ (.slice zp11 zn11 zc11)).setCell ⟨c, 2, none⟩ (.bool false)).setCell ⟨c, 3, none⟩ (.slice zq11 zm11 zd11)) = wl1 at X ⊢
            obtain ⟨lc0, lc1, lc2, lc3, ld0, ld1, ld2, ld3, ldR, hBW, kS11, kT11, kS12, kT12⟩ := X
            have lcR := ldR
            refine hK.out _ _ (kp6 (W := W) hBW ⟨Qq00, Qq01, Qq02, Qq10, Qq11, Qq12, hB⟩) ?_
            intro hHeld
            clear hK K
            try simp only [Act.put, List.setIfInBounds_toArray, List.set_cons_zero, List.set_cons_succ]
            refine wpAnyH_ready (rs := [7]) (by kernel_rfl) (by simp) ?_
            refine cons' rfl (fun K hK => ?_)
            have lf := fun o => ldR.frozen o
            have X := stored4 (u0 := .bool zs12) (u1 := .slice zp12 zn12 zc12) (u2 := .bool false) (u3 := .slice zq12 zm12 zd12) ld0 ld1 ld2 ld3 lc0 lc1 lc2 lc3 lcR hBW ldge lcd.symm kS11 kT11 kS12 kT12
            go_simp
            clear ld0 ld1 ld2 ld3 lc0 lc1 lc2 lc3 lf ldR lcR hHeld hBW kS11 kT11 kS12 kT12
            generalize ((((wl1.setCell ⟨d, 0, none⟩ (.bool zs12)).setCell ⟨d, 1, none⟩ (.slice zp12 zn12 zc12)).setCell ⟨d, 2, none⟩ (.bool false)).setCell ⟨d, 3, none⟩ (.slice zq12 zm12 zd12)) = wl2 at X ⊢
            obtain ⟨ld0, ld1, ld2, ld3, lc0, lc1, lc2, lc3, lcR, hBW, kS11, kT11, kS12, kT12⟩ := X
            have ldR := lcR
            refine hK.out _ _ (kp6 (W := W) hBW ⟨Qq00, Qq01, Qq02, Qq10, Qq11, Qq12, hB⟩) ?_
            intro hHeld
            clear hK K
            try simp only [Act.put, List.setIfInBounds_toArray, List.set_cons_zero, List.set_cons_succ]
            refine wpAnyH_done (by kernel_rfl) ?_ _
            go_wp2_with fail
            go_meet
            exact ⟨c, d, zs11, zp11, zn11, zc11, zX11, zq11, zm11, zd11, zs12, zp12, zn12, zc12, zX12, zq12, zm12, zd12, rfl, rfl, lcge, ldge, hBW, lc0, lc1, lc2, lc3, ld0, ld1, ld2, ld3, ga11, gb11, gc11, gd11, kS11, kT11, ge11, ga12, gb12, gc12, gd12, kS12, kT12, ge12⟩
          exact AllReadyH.nil
        refine consT rfl (fun K hK => ?_) ?_
        · skip
          go_simp
          have bb := below_alloc (w := w51) (.cells #[.bool false, .slice none 0 0, .bool false, .slice none 0 0] 41)
          have lcge := hBW.size
          have lab := ldR.lt
          replace hBW := hBW.trans (bb.mono hBW.size)
          replace kS11 := kS11.later bb
          replace kT11 := kT11.later bb
          replace ld0 := below_cell bb ld0
          replace ld1 := below_cell bb ld1
          replace ld2 := below_cell bb ld2
          replace ld3 := below_cell bb ld3
          replace ldR := below_row bb ldR
          clear bb
          have lc0 : (w51.alloc (.cells #[.bool false, .slice none 0 0, .bool false, .slice none 0 0] 41)).cell? ⟨w51.heap.size, 0, none⟩ = some (.bool false) := by go_simp
          have lc1 : (w51.alloc (.cells #[.bool false, .slice none 0 0, .bool false, .slice none 0 0] 41)).cell? ⟨w51.heap.size, 1, none⟩ = some (.slice none 0 0) := by go_simp
          have lc2 : (w51.alloc (.cells #[.bool false, .slice none 0 0, .bool false, .slice none 0 0] 41)).cell? ⟨w51.heap.size, 2, none⟩ = some (.bool false) := by go_simp
          have lc3 : (w51.alloc (.cells #[.bool false, .slice none 0 0, .bool false, .slice none 0 0] 41)).cell? ⟨w51.heap.size, 3, none⟩ = some (.slice none 0 0) := by go_simp
          have lcR : Row (w51.alloc (.cells #[.bool false, .slice none 0 0, .bool false, .slice none 0 0] 41)) w51.heap.size := row_new w51 _ 41
          clear hHeld
          generalize (w51.alloc (.cells #[.bool false, .slice none 0 0, .bool false, .slice none 0 0] 41)) = w514 at hBW lc0 lc1 lc2 lc3 lcR ld0 ld1 ld2 ld3 ldR kS11 kT11 ⊢
          generalize w51.heap.size = c at lcge lc0 lc1 lc2 lc3 lcR lab ⊢
          refine hK.out _ _ (kp6 (W := W) hBW ⟨Qq00, Qq01, Qq02, Qq10, Qq11, Qq12, hB⟩) ?_
          intro hHeld
          clear hK K
          try simp only [Act.put, List.setIfInBounds_toArray, List.set_cons_zero, List.set_cons_succ]
          refine wpAnyH_ready (rs := [3]) (by kernel_rfl) (by simp) ?_
          refine consT rfl (fun K hK => ?_) ?_
          · skip
            go_simp
            refine Calls.mono (HR1.out _ (sb hS1 hB hBW) (sb hT1 hB hBW)) ?_
            rintro e w5143 ⟨zs12, zp12, zn12, zc12, zX12, zq12, zm12, zd12, rfl, ga12, gb12, gc12, gd12, kS12, kT12, ge12, bb12⟩
            replace hBW := hBW.trans (bb12.mono hBW.size)
            replace kS11 := kS11.later bb12
            replace kT11 := kT11.later bb12
            replace lc0 := below_cell bb12 lc0
            replace lc1 := below_cell bb12 lc1
            replace lc2 := below_cell bb12 lc2
            replace lc3 := below_cell bb12 lc3
            replace lcR := below_row bb12 lcR
            replace ld0 := below_cell bb12 ld0
            replace ld1 := below_cell bb12 ld1
            replace ld2 := below_cell bb12 ld2
            replace ld3 := below_cell bb12 ld3
            replace ldR := below_row bb12 ldR
            clear bb12
            go_wp2_with fail
            refine hK.out _ _ (kp6 (W := W) hBW ⟨Qq00, Qq01, Qq02, Qq10, Qq11, Qq12, hB⟩) ?_
            clear hHeld
            intro hHeld
            clear hK K
            try simp only [Act.put, List.setIfInBounds_toArray, List.set_cons_zero, List.set_cons_succ]
            have lcd : c ≠ d := by omega
            clear lab
            refine wpAnyH_ready (rs := [6]) (by kernel_rfl) (by simp) ?_
            refine cons' rfl (fun K hK => ?_)
            have lf := fun o => lcR.frozen o
            have X := stored4 (u0 := .bool zs11) (u1 := .slice zp11 zn11 zc11) (u2 := .bool false) (u3 := .slice zq11 zm11 zd11) lc0 lc1 lc2 lc3 ld0 ld1 ld2 ld3 ldR hBW lcge lcd kS11 kT11 kS12 kT12
            go_simp
            clear lc0 lc1 lc2 lc3 ld0 ld1 ld2 ld3 lf lcR ldR hHeld hBW kS11 kT11 kS12 kT12
            generalize ((((w5143.setCell ⟨c, 0, none⟩ (.bool zs11)).setCell ⟨c, 1, none⟩ (.slice zp11 zn11 zc11)).setCell ⟨c, 2, none⟩ (.bool false)).setCell ⟨c, 3, none⟩ (.slice zq11 zm11 zd11)) = wl1 at X ⊢
            obtain ⟨lc0, lc1, lc2, lc3, ld0, ld1, ld2, ld3, ldR, hBW, kS11, kT11, kS12, kT12⟩ := X
            have lcR := ldR
            refine hK.out _ _ (kp6 (W := W) hBW ⟨Qq00, Qq01, Qq02, Qq10, Qq11, Qq12, hB⟩) ?_
            intro hHeld
            clear hK K
            try simp only [Act.put, List.setIfInBounds_toArray, List.set_cons_zero, List.set_cons_succ]
            refine wpAnyH_ready (rs := [7]) (by kernel_rfl) (by simp) ?_
            refine cons' rfl (fun K hK => ?_)
            have lf := fun o => ldR.frozen o
            have X := stored4 (u0 := .bool zs12) (u1 := .slice zp12 zn12 zc12) (u2 := .bool false) (u3 := .slice zq12 zm12 zd12) ld0 ld1 ld2 ld3 lc0 lc1 lc2 lc3 lcR hBW ldge lcd.symm kS11 kT11 kS12 kT12
            go_simp
            clear ld0 ld1 ld2 ld3 lc0 lc1 lc2 lc3 lf ldR lcR hHeld hBW kS11 kT11 kS12 kT12
            generalize ((((wl1.setCell ⟨d, 0, none⟩ (.bool zs12)).setCell ⟨d, 1, none⟩ (.slice zp12 zn12 zc12)).setCell ⟨d, 2, none⟩ (.bool false)).setCell ⟨d, 3, none⟩ (.slice zq12 zm12 zd12)) = wl2 at X ⊢
            obtain ⟨ld0, ld1, ld2, ld3, lc0, lc1, lc2, lc3, lcR, hBW, kS11, kT11, kS12, kT12⟩ := X
            have ldR := lcR
            refine hK.out _ _ (kp6 (W := W) hBW ⟨Qq00, Qq01, Qq02, Qq10, Qq11, Qq12, hB⟩) ?_
            intro hHeld
            clear hK K
            try simp only [Act.put, List.setIfInBounds_toArray, List.set_cons_zero, List.set_cons_succ]
            refine wpAnyH_done (by kernel_rfl) ?_ _
            go_wp2_with fail
            go_meet
            exact ⟨c, d, zs11, zp11, zn11, zc11, zX11, zq11, zm11, zd11, zs12, zp12, zn12, zc12, zX12, zq12, zm12, zd12, rfl, rfl, lcge, ldge, hBW, lc0, lc1, lc2, lc3, ld0, ld1, ld2, ld3, ga11, gb11, gc11, gd11, kS11, kT11, ge11, ga12, gb12, gc12, gd12, kS12, kT12, ge12⟩
          exact AllReadyH.nil
        exact AllReadyH.nil
      refine consT rfl (fun K hK => ?_) ?_
      · skip
        go_simp
        have bb := below_alloc (w := w5) (.cells #[.bool false, .slice none 0 0, .bool false, .slice none 0 0] 41)
        have lcge := hBW.size
        have lab := ldR.lt
        replace hBW := hBW.trans (bb.mono hBW.size)
        replace ld0 := below_cell bb ld0
        replace ld1 := below_cell bb ld1
        replace ld2 := below_cell bb ld2
        replace ld3 := below_cell bb ld3
        replace ldR := below_row bb ldR
        clear bb
        have lc0 : (w5.alloc (.cells #[.bool false, .slice none 0 0, .bool false, .slice none 0 0] 41)).cell? ⟨w5.heap.size, 0, none⟩ = some (.bool false) := by go_simp
        have lc1 : (w5.alloc (.cells #[.bool false, .slice none 0 0, .bool false, .slice none 0 0] 41)).cell? ⟨w5.heap.size, 1, none⟩ = some (.slice none 0 0) := by go_simp
        have lc2 : (w5.alloc (.cells #[.bool false, .slice none 0 0, .bool false, .slice none 0 0] 41)).cell? ⟨w5.heap.size, 2, none⟩ = some (.bool false) := by go_simp
        have lc3 : (w5.alloc (.cells #[.bool false, .slice none 0 0, .bool false, .slice none 0 0] 41)).cell? ⟨w5.heap.size, 3, none⟩ = some (.slice none 0 0) := by go_simp
        have lcR : Row (w5.alloc (.cells #[.bool false, .slice none 0 0, .bool false, .slice none 0 0] 41)) w5.heap.size := row_new w5 _ 41
        clear hHeld
        generalize (w5.alloc (.cells #[.bool false, .slice none 0 0, .bool false, .slice none 0 0] 41)) = w54 at hBW lc0 lc1 lc2 lc3 lcR ld0 ld1 ld2 ld3 ldR ⊢
        generalize w5.heap.size = c at lcge lc0 lc1 lc2 lc3 lcR lab ⊢
        refine hK.out _ _ (kp6 (W := W) hBW ⟨Qq00, Qq01, Qq02, Qq10, Qq11, Qq12, hB⟩) ?_
        intro hHeld
        clear hK K
        try simp only [Act.put, List.setIfInBounds_toArray, List.set_cons_zero, List.set_cons_succ]
        refine wpAnyH_ready (rs := [1]) (by kernel_rfl) (by simp) ?_
        refine consT rfl (fun K hK => ?_) ?_
        · skip
          go_simp
          refine Calls.mono (HR0.out _ (sb hS0 hB hBW) (sb hT0 hB hBW)) ?_
          rintro e w541 ⟨zs11, zp11, zn11, zc11, zX11, zq11, zm11, zd11, rfl, ga11, gb11, gc11, gd11, kS11, kT11, ge11, bb11⟩
          replace hBW := hBW.trans (bb11.mono hBW.size)
          replace lc0 := below_cell bb11 lc0
          replace lc1 := below_cell bb11 lc1
          replace lc2 := below_cell bb11 lc2
          replace lc3 := below_cell bb11 lc3
          replace lcR := below_row bb11 lcR
          replace ld0 := below_cell bb11 ld0
          replace ld1 := below_cell bb11 ld1
          replace ld2 := below_cell bb11 ld2
          replace ld3 := below_cell bb11 ld3
          replace ldR := below_row bb11 ldR
          clear bb11
          go_wp2_with fail
          refine hK.out _ _ (kp6 (W := W) hBW ⟨Qq00, Qq01, Qq02, Qq10, Qq11, Qq12, hB⟩) ?_
          clear hHeld
          intro hHeld
          clear hK K
          try simp only [Act.put, List.setIfInBounds_toArray, List.set_cons_zero, List.set_cons_succ]
          refine wpAnyH_ready (rs := [3]) (by kernel_rfl) (by simp) ?_
          refine consT rfl (fun K hK => ?_) ?_
          · skip
            go_simp
            refine Calls.mono (HR1.out _ (sb hS1 hB hBW) (sb hT1 hB hBW)) ?_
            rintro e w5413 ⟨zs12, zp12, zn12, zc12, zX12, zq12, zm12, zd12, rfl, ga12, gb12, gc12, gd12, kS12, kT12, ge12, bb12⟩
            replace hBW := hBW.trans (bb12.mono hBW.size)
            replace kS11 := kS11.later bb12
            replace kT11 := kT11.later bb12
            replace lc0 := below_cell bb12 lc0
            replace lc1 := below_cell bb12 lc1
            replace lc2 := below_cell bb12 lc2
            replace lc3 := below_cell bb12 lc3
            replace lcR := below_row bb12 lcR
            replace ld0 := below_cell bb12 ld0
            replace ld1 := below_cell bb12 ld1
            replace ld2 := below_cell bb12 ld2
            replace ld3 := below_cell bb12 ld3
            replace ldR := below_row bb12 ldR
            clear bb12
            go_wp2_with fail
            refine hK.out _ _ (kp6 (W := W) hBW ⟨Qq00, Qq01, Qq02, Qq10, Qq11, Qq12, hB⟩) ?_
            clear hHeld
            intro hHeld
            clear hK K
            try simp only [Act.put, List.setIfInBounds_toArray, List.set_cons_zero, List.set_cons_succ]
            have lcd : c ≠ d := by omega
            clear lab
            refine wpAnyH_ready (rs := [6]) (by kernel_rfl) (by simp) ?_
            refine cons' rfl (fun K hK => ?_)
            have lf := fun o => lcR.frozen o
            have X := stored4 (u0 := .bool zs11) (u1 := .slice zp11 zn11 zc11) (u2 := .bool false) (u3 := .slice zq11 zm11 zd11) lc0 lc1 lc2 lc3 ld0 ld1 ld2 ld3 ldR hBW lcge lcd kS11 kT11 kS12 kT12
            go_simp
            clear lc0 lc1 lc2 lc3 ld0 ld1 ld2 ld3 lf lcR ldR hHeld hBW kS11 kT11 kS12 kT12
            generalize ((((w5413.setCell ⟨c, 0, none⟩ (.bool zs11)).setCell ⟨c, 1, none⟩ (.slice zp11 zn11 zc11)).setCell ⟨c, 2, none⟩ (.bool false)).setCell ⟨c, 3, none⟩ (.slice zq11 zm11 zd11)) = wl1 at X ⊢
            obtain ⟨lc0, lc1, lc2, lc3, ld0, ld1, ld2, ld3, ldR, hBW, kS11, kT11, kS12, kT12⟩ := X
            have lcR := ldR
            refine hK.out _ _ (kp6 (W := W) hBW ⟨Qq00, Qq01, Qq02, Qq10, Qq11, Qq12, hB⟩) ?_
            intro hHeld
            clear hK K
            try simp only [Act.put, List.setIfInBounds_toArray, List.set_cons_zero, List.set_cons_succ]
            refine wpAnyH_ready (rs := [7]) (by kernel_rfl) (by simp) ?_
            refine cons' rfl (fun K hK => ?_)
            have lf := fun o => ldR.frozen o
            have X := stored4 (u0 := .bool zs12) (u1 := .slice zp12 zn12 zc12) (u2 := .bool false) (u3 := .slice zq12 zm12 zd12) ld0 ld1 ld2 ld3 lc0 lc1 lc2 lc3 lcR hBW ldge lcd.symm kS11 kT11 kS12 kT12
            go_simp
            clear ld0 ld1 ld2 ld3 lc0 lc1 lc2 lc3 lf ldR lcR hHeld hBW kS11 kT11 kS12 kT12
            generalize ((((wl1.setCell ⟨d, 0, none⟩ (.bool zs12)).setCell ⟨d, 1, none⟩ (.slice zp12 zn12 zc12)).setCell ⟨d, 2, none⟩ (.bool false)).setCell ⟨d, 3, none⟩ (.slice zq12 zm12 zd12)) = wl2 at X ⊢
            obtain ⟨ld0, ld1, ld2, ld3, lc0, lc1, lc2, lc3, lcR, hBW, kS11, kT11, kS12, kT12⟩ := X
            have ldR := lcR
            refine hK.out _ _ (kp6 (W := W) hBW ⟨Qq00, Qq01, Qq02, Qq10, Qq11, Qq12, hB⟩) ?_
            intro hHeld
            clear hK K
            try simp only [Act.put, List.setIfInBounds_toArray, List.set_cons_zero, List.set_cons_succ]
            refine wpAnyH_done (by kernel_rfl) ?_ _
            go_wp2_with fail
            go_meet
            exact ⟨c, d, zs11, zp11, zn11, zc11, zX11, zq11, zm11, zd11, zs12, zp12, zn12, zc12, zX12, zq12, zm12, zd12, rfl, rfl, lcge, ldge, hBW, lc0, lc1, lc2, lc3, ld0, ld1, ld2, ld3, ga11, gb11, gc11, gd11, kS11, kT11, ge11, ga12, gb12, gc12, gd12, kS12, kT12, ge12⟩
          exact AllReadyH.nil
        exact AllReadyH.nil
      exact AllReadyH.nil
    exact AllReadyH.nil
  case rest =>
  clear hBW HR0 HR1
  obtain ⟨c, d, zs11, zp11, zn11, zc11, zX11, zq11, zm11, zd11, zs12, zp12, zn12, zc12, zX12, zq12, zm12, zd12, rfl, rfl, lcge, ldge, hBW, lc0, lc1, lc2, lc3, ld0, ld1, ld2, ld3, ga11, gb11, gc11, gd11, kS11, kT11, ge11, ga12, gb12, gc12, gd12, kS12, kT12, ge12⟩ := hcut
  replace q00 := below_cell hBW q00
  replace q01 := below_cell hBW q01
  replace q02 := below_cell hBW q02
  replace q10 := below_cell hBW q10
  replace q11 := below_cell hBW q11
  replace q12 := below_cell hBW q12
  replace r00 := below_cell hBW r00
  replace r01 := below_cell hBW r01
  replace r02 := below_cell hBW r02
  replace hR0 := below_row hBW hR0
  have hp : sg zs11 zX11 * sg zs12 zX12 = P := by rw [ge11, ge12]; exact HP.out
  go_wp2_with fail
  replace hBW := hBW.drew
  replace kS11 := kS11.drew
  replace kT11 := kT11.drew
  replace kS12 := kS12.drew
  replace kT12 := kT12.drew
  first
    | go_region_held3 (fun w' => w'.cell? ⟨c, 0, none⟩ = some (.bool zs11) ∧ w'.cell? ⟨c, 1, none⟩ = some (.slice zp11 zn11 zc11) ∧ w'.cell? ⟨c, 2, none⟩ = some (.bool false) ∧ w'.cell? ⟨c, 3, none⟩ = some (.slice zq11 zm11 zd11) ∧ w'.cell? ⟨d, 0, none⟩ = some (.bool zs12) ∧ w'.cell? ⟨d, 1, none⟩ = some (.slice zp12 zn12 zc12) ∧ w'.cell? ⟨d, 2, none⟩ = some (.bool false) ∧ w'.cell? ⟨d, 3, none⟩ = some (.slice zq12 zm12 zd12) ∧ Below w.heap.size w w')
        (first | exact ⟨lc0, lc1, lc2, lc3, ld0, ld1, ld2, ld3, hB.trans (hBW.mono hB.size)⟩ | exact kp8 b21 (by assumption) | exact kp8 b22 (by assumption) | exact kp8 b23 (by assumption) | exact kp8 (below_alloc _) (by assumption) | exact kp8 (below_alloc _) ⟨lc0, lc1, lc2, lc3, ld0, ld1, ld2, ld3, hB.trans (hBW.mono hB.size)⟩ | exact kpT8_3 (by assumption) (by omega) (by omega) (by omega) (by omega) (by omega) (by omega) (by omega) (by omega) (by omega))
        (first
          | (go_at_call 40; go_at_call_of 40 (Value.agg #[Value.bool zs11, Value.slice zp11 zn11 zc11]); go_at_call_of 40 (Value.agg #[Value.bool zs12, Value.slice zp12 zn12 zc12]); refine (wMul_is zs11 zp11 zn11 zc11 zX11 zs12 zp12 zn12 zc12 zX12 P _ ga11 (by omega) kS11 ga12 (by omega) kS12 hp).mono ?_; rintro e w21 ⟨a21, rfl, h1⟩; have b21 := h1.below; replace h1 := h1.back hBW; replace hBW := hBW.trans (b21.mono hBW.size); replace q00 := below_cell b21 q00; replace q01 := below_cell b21 q01; replace q02 := below_cell b21 q02; replace q10 := below_cell b21 q10; replace q11 := below_cell b21 q11; replace q12 := below_cell b21 q12; replace r00 := below_cell b21 r00; replace r01 := below_cell b21 r01; replace r02 := below_cell b21 r02; replace lc0 := below_cell b21 lc0; replace lc1 := below_cell b21 lc1; replace lc2 := below_cell b21 lc2; replace lc3 := below_cell b21 lc3; replace ld0 := below_cell b21 ld0; replace ld1 := below_cell b21 ld1; replace ld2 := below_cell b21 ld2; replace ld3 := below_cell b21 ld3; replace hR0 := below_row b21 hR0; replace kS11 := kS11.later b21; replace kT11 := kT11.later b21; replace kS12 := kS12.later b21; replace kT12 := kT12.later b21)
          | (go_at_call 40; go_at_call_of 40 (Value.agg #[Value.bool false, Value.slice zq11 zm11 zd11]); go_at_call_of 40 (Value.agg #[Value.bool false, Value.slice zq12 zm12 zd12]); refine (H4.out _ zq11 zm11 zd11 zq12 zm12 zd12 gc11 gd11 kT11 gc12 gd12 kT12).mono ?_; rintro e w22 ⟨a22, rfl, h2⟩; have b22 := h2.below; replace h2 := h2.back hBW; replace hBW := hBW.trans (b22.mono hBW.size); replace q00 := below_cell b22 q00; replace q01 := below_cell b22 q01; replace q02 := below_cell b22 q02; replace q10 := below_cell b22 q10; replace q11 := below_cell b22 q11; replace q12 := below_cell b22 q12; replace r00 := below_cell b22 r00; replace r01 := below_cell b22 r01; replace r02 := below_cell b22 r02; replace lc0 := below_cell b22 lc0; replace lc1 := below_cell b22 lc1; replace lc2 := below_cell b22 lc2; replace lc3 := below_cell b22 lc3; replace ld0 := below_cell b22 ld0; replace ld1 := below_cell b22 ld1; replace ld2 := below_cell b22 ld2; replace ld3 := below_cell b22 ld3; replace hR0 := below_row b22 hR0; replace kS11 := kS11.later b22; replace kT11 := kT11.later b22; replace kS12 := kS12.later b22; replace kT12 := kT12.later b22; replace h1 := h1.later b22)
          | (go_at_call 32; (fail_if_success clear b23); refine (H5.out _ a21 a22 h1.seg h2.seg).mono ?_; rintro e w23 ⟨p23, q23, rfl, hp23, hq23⟩; have b23 := hp23.below; replace hp23 := hp23.back hBW; replace hq23 := hq23.back hBW; replace hBW := hBW.trans (b23.mono hBW.size); replace q00 := below_cell b23 q00; replace q01 := below_cell b23 q01; replace q02 := below_cell b23 q02; replace q10 := below_cell b23 q10; replace q11 := below_cell b23 q11; replace q12 := below_cell b23 q12; replace r00 := below_cell b23 r00; replace r01 := below_cell b23 r01; replace r02 := below_cell b23 r02; replace lc0 := below_cell b23 lc0; replace lc1 := below_cell b23 lc1; replace lc2 := below_cell b23 lc2; replace lc3 := below_cell b23 lc3; replace ld0 := below_cell b23 ld0; replace ld1 := below_cell b23 ld1; replace ld2 := below_cell b23 ld2; replace ld3 := below_cell b23 ld3; replace hR0 := below_row b23 hR0; replace kS11 := kS11.later b23; replace kT11 := kT11.later b23; replace kS12 := kS12.later b23; replace kT12 := kT12.later b23; replace h1 := h1.later b23; replace h2 := h2.later b23; have fz := fun o => hR0.frozen o))
    | fail
  have fz0 := fun o => hR0.frozen o
  go_wp2
  all_goals refine bodyPost_ret (v := Value.agg #[Value.bool (ng Z), Value.slice p23 (ln (am Z)) (ln (am Z)), Value.slice q23 (ln V) (ln V)]) (by rw [results_cell rfl]; go_simp) rfl ?_
  all_goals exact ⟨p23, q23, rfl, hp23.mid hB (((((Mid.refl _ _ _).set _ _ (by omega) (by omega) _).set _ _ (by omega) (by omega) _).set _ _ (by omega) (by omega) _)), hq23.mid hB (((((Mid.refl _ _ _).set _ _ (by omega) (by omega) _).set _ _ (by omega) (by omega) _).set _ _ (by omega) (by omega) _))⟩
end Go.Proofs.Ytkdmciiighjffaa
