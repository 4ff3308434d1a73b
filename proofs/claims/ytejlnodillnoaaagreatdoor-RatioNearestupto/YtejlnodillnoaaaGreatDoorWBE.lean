import Derived.Test.YtejlnodillnoaaaGreatDoorWJ7
import Derived.Test.YtejlnodillnoaaaGreatDoorWIA
import Derived.Test.YtejlnodillnoaaaGreatDoorWQ2
import Derived.Test.YtejlnodillnoaaaGreatDoorRegS
import Derived.Test.YtejlnodillnoaaaGreatDoorNumN2
import Derived.Test.YtejlnodillnoaaaGreatDoorNumN4
import Derived.Test.YtejlnodillnoaaaGreatDoorWJ1
import Derived.Deep.RegionHeld
import Derived.Test.YtejlnodillnoaaaGreatDoorNumX
import Derived.Test.YtejlnodillnoaaaGreatDoorWBC
import Derived.Test.YtejlnodillnoaaaGreatDoorWJ4
set_option linter.unusedSimpArgs false
namespace Go.Proofs.YtejlnodillnoaaaGreatDoor
open Go.RowKit Go.Shelf
set_option linter.unusedVariables false
attribute [local go_sem] Oper.semAt_some
structure NV where
  s : Bool
  a : Option Addr
  n : Nat
  c : Nat
  X : Nat
def NV.val (x : NV) : Int := sg x.s x.X
def NV.ok (x : NV) (W : World) : Prop := Seg W x.a x.X x.n ∧ x.n ≤ x.c ∧ x.n ≤ 35184372088000
theorem NV.ok.later {x : NV} {W W' : World} (h : x.ok W) (hb : Below W.heap.size W W') : x.ok W' := ⟨h.1.later hb, h.2⟩
theorem NV.ok.ch {x : NV} {c : Nat} {W W' : World} (h : x.ok W) (k : Ch c W W') (hno : ∀ o i, W.cell? ⟨c, o, none⟩ ≠ some (.int .u32 i)) : x.ok W' := ⟨h.1.ch k hno, h.2⟩
structure KpB (base : Nat) (W W' : World) : Prop where
  blk : ∀ c cur t, base ≤ c → Blk W c cur t → Blk W' c cur t
  seg : ∀ a X n, Seg W a X n → Seg W' a X n
  size : W.heap.size ≤ W'.heap.size
theorem KpB.trans {base : Nat} {A B C : World} (h : KpB base A B) (k : KpB base B C) : KpB base A C := ⟨fun c cur t hc hb => k.blk c cur t hc (h.blk c cur t hc hb), fun a X n hs => k.seg a X n (h.seg a X n hs), Nat.le_trans h.size k.size⟩
theorem KpB.ok {base : Nat} {W W' : World} {x : NV} (h : KpB base W W') (k : x.ok W) : x.ok W' := ⟨h.seg _ _ _ k.1, k.2⟩
theorem Blk.set2s {c : Nat} {W : World} {u0 u1 : Value} {t : TypeId} (h : Blk W c #[u0, u1] t) (v0 v1 : Value) :
    Ch c W ((W.setCell ⟨c, 0, none⟩ v0).setCell ⟨c, 1, none⟩ v1) ∧ Blk ((W.setCell ⟨c, 0, none⟩ v0).setCell ⟨c, 1, none⟩ v1) c #[v0, v1] t := by
  refine ⟨(Ch.set v0).trans (Ch.set v1), ?_⟩
  simp [Blk, World.setCell, Array.getElem?_modify, show W.heap[c]? = _ from h]
theorem lnp {Z : Int} {X n : Nat} (h : am Z ≤ X + 1) (hX : X < BB ^ n) : ln (am Z) ≤ n + 1 := by
  refine ln_le_of_lt ?_
  rw [Nat.pow_succ]
  have h2 : BB ^ n * 2 ≤ BB ^ n * BB := Nat.mul_le_mul_left _ (by rw [BB_eq]; omega)
  have := BBp n
  omega
theorem fr_rest {V : Nat} {Zg : Int} (hV : V ≠ 0) (h : sgn Zg = 0 ∨ sgn Zg = sgn (sg false V)) (hlt : am Zg < V) : 0 ≤ Zg ∧ Zg < (V : Int) := by
  have h1 : sgn (sg false V) = 1 := by simp [sg, sgn, hV]
  have h2 : ¬ Zg < 0 := fun hn => by
    have h3 : sgn Zg = -1 := by simp [sgn, hn]
    rw [h1, h3] at h
    omega
  unfold am at hlt
  omega
theorem fr_step {A Zf Zg : Int} {Y : Nat} (hY : Y ≠ 0) (e : Zf * (Y : Int) + Zg = A) (h0 : 0 ≤ Zg) (h1 : Zg < Y) : A / (Y : Int) = Zf ∧ A % (Y : Int) = Zg := by
  have hd : (Y : Int) ≠ 0 := by omega
  subst e
  constructor
  · rw [Int.add_comm, Int.add_mul_ediv_right _ _ hd, Int.ediv_eq_zero_of_lt h0 h1, Int.zero_add]
  · rw [Int.add_comm, Int.add_mul_emod_self_right, Int.emod_eq_of_lt h0 h1]
open Go.RowKit
theorem cell_ltU {w : World} {c o : Nat} {v : Value} (h : w.cell? ⟨c, o, none⟩ = some v) : c < w.heap.size := World.block_lt_of_cell? w _ h
theorem floorE_is (Z V T G : Int) (p q : Option Addr) (w : World) (hV : 0 < V) (l1 : ln (am Z) ≤ 70368744177650) (l2 : ln (am V) ≤ 70368744177650) (k1 : Seg w p (am Z) (ln (am Z))) (k2 : Seg w q (am V) (ln (am V))) (hT : Z / V = T) (hG : Z % V = G) :
    Calls Tryz.prog 66 #[.agg #[.bool (ng Z), .slice p (ln (am Z)) (ln (am Z))], .agg #[.bool (ng V), .slice q (ln (am V)) (ln (am V))]] w fun e w' => ∃ aq ar, e = .returned (.tuple #[.agg #[.bool (ng T), .slice aq (ln (am T)) (ln (am T))], .agg #[.bool (ng G), .slice ar (ln (am G)) (ln (am G))], .int .i64 0]) ∧ New w w' aq (am T) (ln (am T)) ∧ New w w' ar (am G) (ln (am G)) := by
  have hV0 : am V ≠ 0 := by unfold am; omega
  have hn : ng V = false := by unfold ng; exact decide_eq_false (by omega)
  have eV : ((am V : Nat) : Int) = V := by unfold am; omega
  obtain ⟨Zf, Zg, he, hsg, hlt, hle, hcall⟩ := floor_of (ng Z) p (ln (am Z)) (ln (am Z)) (am Z) (ng V) q (ln (am V)) (ln (am V)) (am V) (Nat.le_refl _) l1 (Nat.le_refl _) l2 hV0
  rw [hn] at he hsg
  have hZg := fr_rest hV0 hsg hlt
  obtain ⟨hcd, hcm⟩ := fr_step (A := Z) (Zf := Zf) (Zg := Zg) hV0 (by rw [sg_na] at he; simpa [sg] using he) hZg.1 hZg.2
  rw [eV, hT] at hcd
  rw [eV, hG] at hcm
  subst hcd hcm
  exact hcall w k1 k2
set_option maxHeartbeats 8000000 in
set_option maxRecDepth 100000 in
theorem upTo_is (Z0 Z1 Z2 Z3 T : Int) (p0 p1 p2 p3 : Option Addr) (a : Option Addr) (n c M : Nat) (A B : Int) (w : World) (h0 : Seg w p0 (am Z0) (ln (am Z0))) (l0 : ln (am Z0) ≤ 35184372087900) (h1 : Seg w p1 (am Z1) (ln (am Z1))) (l1 : ln (am Z1) ≤ 35184372087900) (h2 : Seg w p2 (am Z2) (ln (am Z2))) (l2 : ln (am Z2) ≤ 35184372087900) (h3 : Seg w p3 (am Z3) (ln (am Z3))) (l3 : ln (am Z3) ≤ 35184372087900) (hc : n ≤ c) (hn : n ≤ 35184372087808) (hS : Seg w a M n) (hZ3 : 0 < Z3) (hZ1 : 0 ≤ Z1 ∧ Z1 ≤ M) (hT : ((M : Int) - Z1) / Z3 = T) (hA : Z2 * T + Z0 = A) (hB : Z3 * T + Z1 = B) :
    Calls Tryz.prog 52 #[.agg #[.bool (ng Z0), .slice p0 (ln (am Z0)) (ln (am Z0)), .bool (ng Z1), .slice p1 (ln (am Z1)) (ln (am Z1)), .bool (ng Z2), .slice p2 (ln (am Z2)) (ln (am Z2)), .bool (ng Z3), .slice p3 (ln (am Z3)) (ln (am Z3))], .agg #[.bool false, .slice a n c]] w fun e w' => ∃ pa pb, e = .returned (.agg #[.bool (ng A), .slice pa (ln (am A)) (ln (am A)), .bool (ng B), .slice pb (ln (am B)) (ln (am B))]) ∧ Below w.heap.size w w' ∧ Seg w' pa (am A) (ln (am A)) ∧ Seg w' pb (am B) (ln (am B)) := by
  obtain ⟨Zs, hZs⟩ : ∃ Z, (M : Int) - Z1 = Z := ⟨_, rfl⟩
  rw [hZs] at hT
  obtain ⟨G, hG⟩ : ∃ Z, Zs % Z3 = Z := ⟨_, rfl⟩
  have hs0 : 0 ≤ Zs := by omega
  have lS : ln (am Zs) ≤ n := ln_le_of_lt (Nat.lt_of_le_of_lt (show am Zs ≤ M by unfold am; omega) hS.1)
  have lT : ln (am T) ≤ n := by
    have h9 : T ≤ Zs := by rw [← hT]; exact Int.ediv_le_self _ hs0
    have h8 : 0 ≤ T := by rw [← hT]; exact Int.ediv_nonneg hs0 (by omega)
    exact ln_le_of_lt (Nat.lt_of_le_of_lt (show am T ≤ M by unfold am; omega) hS.1)
  have GS := hide' (fun w' k1 k2 => wSub_is false a n c M (ng Z1) p1 (ln (am Z1)) (ln (am Z1)) (am Z1) Zs w' hc (by omega) k1 (Nat.le_refl _) (by omega) k2 (by rw [sg_na]; simpa [sg] using hZs))
  have GF := hide' (fun w' p k1 k2 => floorE_is Zs Z3 T G p p3 w' hZ3 (by omega) (by omega) k1 k2 hT hG)
  have GM := hide' (fun w' p k0 k1 k2 k3 k4 => mixed_is Z0 Z1 Z2 Z3 p0 p1 p2 p3 (ng T) p (ln (am T)) (ln (am T)) (am T) A B w' k0 (by omega) k1 (by omega) k2 (by omega) k3 (by omega) (Nat.le_refl _) (by omega) k4 (by rw [sg_na]; exact hA) (by rw [sg_na]; exact hB))
  clear hT hG hZs hs0 hA hB
  have bel : Below w.heap.size w w := Below.refl _ _
  have bb := below_alloc (w := w) (.cells #[.bool (ng Z0), .slice p0 (ln (am Z0)) (ln (am Z0)), .bool (ng Z1), .slice p1 (ln (am Z1)) (ln (am Z1)), .bool (ng Z2), .slice p2 (ln (am Z2)) (ln (am Z2)), .bool (ng Z3), .slice p3 (ln (am Z3)) (ln (am Z3))] 68)
  replace h0 := h0.later bb
  replace h1 := h1.later bb
  replace h2 := h2.later bb
  replace h3 := h3.later bb
  replace hS := hS.later bb
  replace bel := bel.trans (bb.mono bel.size)
  clear bb
  have qv := Blk.new w #[.bool (ng Z0), .slice p0 (ln (am Z0)) (ln (am Z0)), .bool (ng Z1), .slice p1 (ln (am Z1)) (ln (am Z1)), .bool (ng Z2), .slice p2 (ln (am Z2)) (ln (am Z2)), .bool (ng Z3), .slice p3 (ln (am Z3)) (ln (am Z3))] 68
  have bb := below_alloc (w := (w.alloc (.cells #[.bool (ng Z0), .slice p0 (ln (am Z0)) (ln (am Z0)), .bool (ng Z1), .slice p1 (ln (am Z1)) (ln (am Z1)), .bool (ng Z2), .slice p2 (ln (am Z2)) (ln (am Z2)), .bool (ng Z3), .slice p3 (ln (am Z3)) (ln (am Z3))] 68))) (.cells #[.bool false, .slice a n c] 25)
  replace h0 := h0.later bb
  replace h1 := h1.later bb
  replace h2 := h2.later bb
  replace h3 := h3.later bb
  replace hS := hS.later bb
  replace qv := qv.later bb
  replace bel := bel.trans (bb.mono bel.size)
  clear bb
  have ql := Blk.new (w.alloc (.cells #[.bool (ng Z0), .slice p0 (ln (am Z0)) (ln (am Z0)), .bool (ng Z1), .slice p1 (ln (am Z1)) (ln (am Z1)), .bool (ng Z2), .slice p2 (ln (am Z2)) (ln (am Z2)), .bool (ng Z3), .slice p3 (ln (am Z3)) (ln (am Z3))] 68)) #[.bool false, .slice a n c] 25
  simp only [World.size_alloc] at ql
  have bb := below_alloc (w := ((w.alloc (.cells #[.bool (ng Z0), .slice p0 (ln (am Z0)) (ln (am Z0)), .bool (ng Z1), .slice p1 (ln (am Z1)) (ln (am Z1)), .bool (ng Z2), .slice p2 (ln (am Z2)) (ln (am Z2)), .bool (ng Z3), .slice p3 (ln (am Z3)) (ln (am Z3))] 68)).alloc (.cells #[.bool false, .slice a n c] 25))) (.cells #[.bool false, .slice none 0 0, .bool false, .slice none 0 0] 43)
  replace h0 := h0.later bb
  replace h1 := h1.later bb
  replace h2 := h2.later bb
  replace h3 := h3.later bb
  replace hS := hS.later bb
  replace qv := qv.later bb
  replace ql := ql.later bb
  replace bel := bel.trans (bb.mono bel.size)
  clear bb
  have qo := Blk.new ((w.alloc (.cells #[.bool (ng Z0), .slice p0 (ln (am Z0)) (ln (am Z0)), .bool (ng Z1), .slice p1 (ln (am Z1)) (ln (am Z1)), .bool (ng Z2), .slice p2 (ln (am Z2)) (ln (am Z2)), .bool (ng Z3), .slice p3 (ln (am Z3)) (ln (am Z3))] 68)).alloc (.cells #[.bool false, .slice a n c] 25)) #[.bool false, .slice none 0 0, .bool false, .slice none 0 0] 43
  simp only [World.size_alloc] at qo
  go_enter Tryz.func52, Tryz.ntmps52
  go_wp2_with fail
  obtain ⟨W0, hW⟩ : ∃ W, (((w.alloc (.cells #[.bool (ng Z0), .slice p0 (ln (am Z0)) (ln (am Z0)), .bool (ng Z1), .slice p1 (ln (am Z1)) (ln (am Z1)), .bool (ng Z2), .slice p2 (ln (am Z2)) (ln (am Z2)), .bool (ng Z3), .slice p3 (ln (am Z3)) (ln (am Z3))] 68)).alloc (.cells #[.bool false, .slice a n c] 25)).alloc (.cells #[.bool false, .slice none 0 0, .bool false, .slice none 0 0] 43)) = W := ⟨_, rfl⟩
  rw [hW] at bel h0 h1 h2 h3 hS qv ql qo ⊢
  clear hW
  have lqo := qo.lt
  have hbs := bel.size
  have bT : Below W0.heap.size W0 W0 := Below.refl _ _
  go_cut [5, 6, 7] from 8 to 20 (fun s5_ s6_ s7_ wx => ∃ (wh9 : World) (c5 c6 : Nat) (pt : Option Addr), wh9 = wx ∧ s5_ = .pointer (some ⟨c5, 0, none⟩) ∧ s6_ = .pointer (some ⟨c6, 0, none⟩) ∧ s7_ = .int .i64 0 ∧ Blk wx c5 #[.bool (ng T), .slice pt (ln (am T)) (ln (am T))] 25 ∧ Seg wx pt (am T) (ln (am T)) ∧ W0.heap.size ≤ c5 ∧ Below W0.heap.size W0 wx)
  case first =>
    have qv_0 := qv.cell 0
    have qv_1 := qv.cell 1
    have qv_2 := qv.cell 2
    have qv_3 := qv.cell 3
    have qv_4 := qv.cell 4
    have qv_5 := qv.cell 5
    have qv_6 := qv.cell 6
    have qv_7 := qv.cell 7
    have ql_0 := ql.cell 0
    have ql_1 := ql.cell 1
    simp only [List.getElem?_toArray, List.getElem?_cons_zero, List.getElem?_cons_succ] at qv_0 qv_1 qv_2 qv_3 qv_4 qv_5 qv_6 qv_7 ql_0 ql_1
    have bD : Below W0.heap.size W0 W0.drew := (Below.refl _ _).drew
    have kqv_0 := below_cell bD qv_0
    have kqv_1 := below_cell bD qv_1
    have kqv_2 := below_cell bD qv_2
    have kqv_3 := below_cell bD qv_3
    have kqv_4 := below_cell bD qv_4
    have kqv_5 := below_cell bD qv_5
    have kqv_6 := below_cell bD qv_6
    have kqv_7 := below_cell bD qv_7
    have kql_0 := below_cell bD ql_0
    have kql_1 := below_cell bD ql_1
    replace bT := bT.trans (bD.mono bT.size)
    replace h0 := h0.later bD
    replace h1 := h1.later bD
    replace h2 := h2.later bD
    replace h3 := h3.later bD
    replace hS := hS.later bD
    replace qv := qv.later bD
    replace ql := ql.later bD
    replace qo := qo.later bD
    refine wp_region_held_drew (S := fun w' => w'.cell? ⟨w.heap.size, 0, none⟩ = some (.bool (ng Z0)) ∧ w'.cell? ⟨w.heap.size, 1, none⟩ = some (.slice p0 (ln (am Z0)) (ln (am Z0))) ∧ w'.cell? ⟨w.heap.size, 2, none⟩ = some (.bool (ng Z1)) ∧ w'.cell? ⟨w.heap.size, 3, none⟩ = some (.slice p1 (ln (am Z1)) (ln (am Z1))) ∧ w'.cell? ⟨w.heap.size, 4, none⟩ = some (.bool (ng Z2)) ∧ w'.cell? ⟨w.heap.size, 5, none⟩ = some (.slice p2 (ln (am Z2)) (ln (am Z2))) ∧ w'.cell? ⟨w.heap.size, 6, none⟩ = some (.bool (ng Z3)) ∧ w'.cell? ⟨w.heap.size, 7, none⟩ = some (.slice p3 (ln (am Z3)) (ln (am Z3))) ∧ w'.cell? ⟨w.heap.size + 1, 0, none⟩ = some (.bool false) ∧ w'.cell? ⟨w.heap.size + 1, 1, none⟩ = some (.slice a n c)) (by kernel_rfl) ⟨kqv_0, kqv_1, kqv_2, kqv_3, kqv_4, kqv_5, kqv_6, kqv_7, kql_0, kql_1⟩ (fun hHeld => ?_)
    clear kqv_0 kqv_1 kqv_2 kqv_3 kqv_4 kqv_5 kqv_6 kqv_7 kql_0 kql_1
    generalize W0.drew = w0F at bD h0 h1 h2 h3 hS qv ql qo bT hHeld ⊢
    clear bD qv_0 qv_1 qv_2 qv_3 qv_4 qv_5 qv_6 qv_7 ql_0 ql_1
    have lqv := qv.lt
    have lql := ql.lt
    clear qv ql qo h0 h2 GM
    refine tk 0 (v := ?_) rfl (Or.inl ⟨by rfl, ?_⟩) ?_
    rotate_left
    · intro w9 hSw
      go_simp
      first | done | with_reducible rfl
    simp only [pP, pN, pS, pZ, pC]
    refine tk 1 (v := ?_) rfl (Or.inl ⟨by rfl, ?_⟩) ?_
    rotate_left
    · intro w9 hSw
      go_simp
      first | done | with_reducible rfl
    simp only [pP, pN, pS, pZ, pC]
    refine tk 2 (v := ?_) rfl (Or.inl ⟨by rfl, ?_⟩) ?_
    rotate_left
    · intro w9 hSw
      go_simp
      first | done | with_reducible rfl
    simp only [pP, pN, pS, pZ, pC]
    refine tk 3 (v := ?_) rfl (Or.inl ⟨by rfl, ?_⟩) ?_
    rotate_left
    · intro w9 hSw
      go_simp
      first | done | with_reducible rfl
    simp only [pP, pN, pS, pZ, pC]
    refine tk 5 (v := ?_) rfl (Or.inl ⟨by rfl, ?_⟩) ?_
    rotate_left
    · intro w9 hSw
      go_simp
      first | done | with_reducible rfl
    simp only [pP, pN, pS, pZ, pC]
    refine tk 6 (v := ?_) rfl (Or.inl ⟨by rfl, ?_⟩) ?_
    rotate_left
    · intro w9 hSw
      go_simp
      first | done | with_reducible rfl
    simp only [pP, pN, pS, pZ, pC]
    refine tk 7 (v := ?_) rfl (Or.inl ⟨by rfl, ?_⟩) ?_
    rotate_left
    · intro w9 hSw
      go_simp
      first | done | with_reducible rfl
    simp only [pP, pN, pS, pZ, pC]
    refine wpAnyH_ready (rs := [4, 13, 14]) (by kernel_rfl) (by simp) ?_
    refine consT rfl (fun KK hKK => ?_) ?_
    · skip
      go_simp
      refine (GS.out _ hS h1).mono ?_
      rintro e w1 ⟨ps, rfl, n1⟩
      have bC := n1.below
      replace bT := bT.trans (bC.mono bT.size)
      replace h1 := h1.later bC
      replace h3 := h3.later bC
      replace hS := hS.later bC
      replace hHeld := (⟨below_cell bC hHeld.1, below_cell bC hHeld.2.1, below_cell bC hHeld.2.2.1, below_cell bC hHeld.2.2.2.1, below_cell bC hHeld.2.2.2.2.1, below_cell bC hHeld.2.2.2.2.2.1, below_cell bC hHeld.2.2.2.2.2.2.1, below_cell bC hHeld.2.2.2.2.2.2.2.1, below_cell bC hHeld.2.2.2.2.2.2.2.2.1, below_cell bC hHeld.2.2.2.2.2.2.2.2.2⟩ : _ ∧ _ ∧ _ ∧ _ ∧ _ ∧ _ ∧ _ ∧ _ ∧ _ ∧ _)
      clear bC
      go_wp2_with fail
      have ks := n1.seg
      clear n1
      refine hKK.out _ _ hHeld ?_
      clear hHeld
      intro hHeld
      clear hKK KK
      try simp only [pP, pN, pS, pZ, pC]
      refine wpAnyH_ready (rs := [8, 13, 14]) (by kernel_rfl) (by simp) ?_
      refine consT rfl (fun KK hKK => ?_) ?_
      · skip
        go_simp
        refine (GF.out _ ps ks h3).mono ?_
        rintro e w2 ⟨pt, pg, rfl, n1, n2⟩
        have bC := n1.below
        replace bT := bT.trans (bC.mono bT.size)
        replace h1 := h1.later bC
        replace h3 := h3.later bC
        replace hS := hS.later bC
        replace ks := ks.later bC
        replace hHeld := (⟨below_cell bC hHeld.1, below_cell bC hHeld.2.1, below_cell bC hHeld.2.2.1, below_cell bC hHeld.2.2.2.1, below_cell bC hHeld.2.2.2.2.1, below_cell bC hHeld.2.2.2.2.2.1, below_cell bC hHeld.2.2.2.2.2.2.1, below_cell bC hHeld.2.2.2.2.2.2.2.1, below_cell bC hHeld.2.2.2.2.2.2.2.2.1, below_cell bC hHeld.2.2.2.2.2.2.2.2.2⟩ : _ ∧ _ ∧ _ ∧ _ ∧ _ ∧ _ ∧ _ ∧ _ ∧ _ ∧ _)
        clear bC
        go_wp2_with fail
        have kt := n1.seg
        have kg := n2.seg
        clear n1 n2
        refine hKK.out _ _ hHeld ?_
        clear hHeld
        intro hHeld
        clear hKK KK
        try simp only [pP, pN, pS, pZ, pC]
        refine tk 9 (v := ?_) rfl (Or.inl ⟨by rfl, ?_⟩) ?_
        rotate_left
        · intro w9 hSw
          go_simp
          first | done | with_reducible rfl
        simp only [pP, pN, pS, pZ, pC]
        refine tk 10 (v := ?_) rfl (Or.inl ⟨by rfl, ?_⟩) ?_
        rotate_left
        · intro w9 hSw
          go_simp
          first | done | with_reducible rfl
        simp only [pP, pN, pS, pZ, pC]
        refine tk 11 (v := ?_) rfl (Or.inl ⟨by rfl, ?_⟩) ?_
        rotate_left
        · intro w9 hSw
          go_simp
          first | done | with_reducible rfl
        simp only [pP, pN, pS, pZ, pC]
        refine tk 12 (v := ?_) rfl (Or.inl ⟨by rfl, ?_⟩) ?_
        rotate_left
        · intro w9 hSw
          go_simp
          first | done | with_reducible rfl
        simp only [pP, pN, pS, pZ, pC]
        refine wpAnyH_ready (rs := [13, 14]) (by kernel_rfl) (by simp) ?_
        refine consT rfl (fun KK hKK => ?_) ?_
        · skip
          go_simp
          have q5 := Blk.new w2 #[.bool false, .slice none 0 0] 25
          have bA := below_alloc (w := w2) (.cells #[.bool false, .slice none 0 0] 25)
          have hq5ge := bT.size
          have hq5c0 := cell_ltU hHeld.1
          have hq5c1 := cell_ltU hHeld.2.1
          have hq5c2 := cell_ltU hHeld.2.2.1
          have hq5c3 := cell_ltU hHeld.2.2.2.1
          have hq5c4 := cell_ltU hHeld.2.2.2.2.1
          have hq5c5 := cell_ltU hHeld.2.2.2.2.2.1
          have hq5c6 := cell_ltU hHeld.2.2.2.2.2.2.1
          have hq5c7 := cell_ltU hHeld.2.2.2.2.2.2.2.1
          have hq5c8 := cell_ltU hHeld.2.2.2.2.2.2.2.2.1
          have hq5c9 := cell_ltU hHeld.2.2.2.2.2.2.2.2.2
          generalize w2.alloc (.cells #[.bool false, .slice none 0 0] 25) = w3 at q5 bA ⊢
          replace bT := bT.trans (bA.mono bT.size)
          replace h1 := h1.later bA
          replace h3 := h3.later bA
          replace hS := hS.later bA
          replace ks := ks.later bA
          replace kt := kt.later bA
          replace kg := kg.later bA
          replace hHeld := (⟨below_cell bA hHeld.1, below_cell bA hHeld.2.1, below_cell bA hHeld.2.2.1, below_cell bA hHeld.2.2.2.1, below_cell bA hHeld.2.2.2.2.1, below_cell bA hHeld.2.2.2.2.2.1, below_cell bA hHeld.2.2.2.2.2.2.1, below_cell bA hHeld.2.2.2.2.2.2.2.1, below_cell bA hHeld.2.2.2.2.2.2.2.2.1, below_cell bA hHeld.2.2.2.2.2.2.2.2.2⟩ : _ ∧ _ ∧ _ ∧ _ ∧ _ ∧ _ ∧ _ ∧ _ ∧ _ ∧ _)
          clear bA
          refine hKK.out _ _ hHeld ?_
          clear hHeld
          intro hHeld
          clear hKK KK
          try simp only [pP, pN, pS, pZ, pC]
          obtain ⟨cq5, hcc⟩ : ∃ cc, w2.heap.size = cc := ⟨_, rfl⟩
          rw [hcc] at q5 hq5ge hq5c0 hq5c1 hq5c2 hq5c3 hq5c4 hq5c5 hq5c6 hq5c7 hq5c8 hq5c9
          try rw [hcc]
          clear hcc
          refine wpAnyH_ready (rs := [14]) (by kernel_rfl) (by simp) ?_
          refine cons' rfl (fun KK hKK => ?_)
          go_simp
          have q6 := Blk.new w3 #[.bool false, .slice none 0 0] 25
          have bA := below_alloc (w := w3) (.cells #[.bool false, .slice none 0 0] 25)
          have hq6ge := bT.size
          have hq6q5 := q5.lt
          have hq6c0 := cell_ltU hHeld.1
          have hq6c1 := cell_ltU hHeld.2.1
          have hq6c2 := cell_ltU hHeld.2.2.1
          have hq6c3 := cell_ltU hHeld.2.2.2.1
          have hq6c4 := cell_ltU hHeld.2.2.2.2.1
          have hq6c5 := cell_ltU hHeld.2.2.2.2.2.1
          have hq6c6 := cell_ltU hHeld.2.2.2.2.2.2.1
          have hq6c7 := cell_ltU hHeld.2.2.2.2.2.2.2.1
          have hq6c8 := cell_ltU hHeld.2.2.2.2.2.2.2.2.1
          have hq6c9 := cell_ltU hHeld.2.2.2.2.2.2.2.2.2
          generalize w3.alloc (.cells #[.bool false, .slice none 0 0] 25) = w4 at q6 bA ⊢
          replace bT := bT.trans (bA.mono bT.size)
          replace h1 := h1.later bA
          replace h3 := h3.later bA
          replace hS := hS.later bA
          replace ks := ks.later bA
          replace kt := kt.later bA
          replace kg := kg.later bA
          replace q5 := q5.later bA
          replace hHeld := (⟨below_cell bA hHeld.1, below_cell bA hHeld.2.1, below_cell bA hHeld.2.2.1, below_cell bA hHeld.2.2.2.1, below_cell bA hHeld.2.2.2.2.1, below_cell bA hHeld.2.2.2.2.2.1, below_cell bA hHeld.2.2.2.2.2.2.1, below_cell bA hHeld.2.2.2.2.2.2.2.1, below_cell bA hHeld.2.2.2.2.2.2.2.2.1, below_cell bA hHeld.2.2.2.2.2.2.2.2.2⟩ : _ ∧ _ ∧ _ ∧ _ ∧ _ ∧ _ ∧ _ ∧ _ ∧ _ ∧ _)
          clear bA
          refine hKK.out _ _ hHeld ?_
          clear hHeld
          intro hHeld
          clear hKK KK
          try simp only [pP, pN, pS, pZ, pC]
          obtain ⟨cq6, hcc⟩ : ∃ cc, w3.heap.size = cc := ⟨_, rfl⟩
          rw [hcc] at q6 hq6ge hq6q5 hq6c0 hq6c1 hq6c2 hq6c3 hq6c4 hq6c5 hq6c6 hq6c7 hq6c8 hq6c9
          try rw [hcc]
          clear hcc
          refine wpAnyH_ready (rs := [15]) (by kernel_rfl) (by simp) ?_
          refine cons' rfl (fun KK hKK => ?_)
          have z0 := q5.cell 0
          have z1 := q5.cell 1
          simp only [List.getElem?_toArray, List.getElem?_cons_zero, List.getElem?_cons_succ] at z0 z1
          have fz := fun o => q5.frozen o
          obtain ⟨c9, q9⟩ := q5.set2s (.bool (ng T)) (.slice pt (ln (am T)) (ln (am T)))
          have hno := q5.no (by simp)
          replace h1 := h1.ch c9 hno
          replace h3 := h3.ch c9 hno
          replace hS := hS.ch c9 hno
          replace ks := ks.ch c9 hno
          replace kt := kt.ch c9 hno
          replace kg := kg.ch c9 hno
          replace q6 := q6.ch c9 (by omega)
          replace bT := bT.trans (c9.below (by omega))
          have hH2 := (⟨(World.cell?_of_block (w := w4) (a := ⟨w.heap.size, 0, none⟩) (c9.other (w.heap.size) (by omega))).trans hHeld.1, (World.cell?_of_block (w := w4) (a := ⟨w.heap.size, 1, none⟩) (c9.other (w.heap.size) (by omega))).trans hHeld.2.1, (World.cell?_of_block (w := w4) (a := ⟨w.heap.size, 2, none⟩) (c9.other (w.heap.size) (by omega))).trans hHeld.2.2.1, (World.cell?_of_block (w := w4) (a := ⟨w.heap.size, 3, none⟩) (c9.other (w.heap.size) (by omega))).trans hHeld.2.2.2.1, (World.cell?_of_block (w := w4) (a := ⟨w.heap.size, 4, none⟩) (c9.other (w.heap.size) (by omega))).trans hHeld.2.2.2.2.1, (World.cell?_of_block (w := w4) (a := ⟨w.heap.size, 5, none⟩) (c9.other (w.heap.size) (by omega))).trans hHeld.2.2.2.2.2.1, (World.cell?_of_block (w := w4) (a := ⟨w.heap.size, 6, none⟩) (c9.other (w.heap.size) (by omega))).trans hHeld.2.2.2.2.2.2.1, (World.cell?_of_block (w := w4) (a := ⟨w.heap.size, 7, none⟩) (c9.other (w.heap.size) (by omega))).trans hHeld.2.2.2.2.2.2.2.1, (World.cell?_of_block (w := w4) (a := ⟨w.heap.size + 1, 0, none⟩) (c9.other (w.heap.size + 1) (by omega))).trans hHeld.2.2.2.2.2.2.2.2.1, (World.cell?_of_block (w := w4) (a := ⟨w.heap.size + 1, 1, none⟩) (c9.other (w.heap.size + 1) (by omega))).trans hHeld.2.2.2.2.2.2.2.2.2⟩ : _ ∧ _ ∧ _ ∧ _ ∧ _ ∧ _ ∧ _ ∧ _ ∧ _ ∧ _)
          go_simp
          clear z0 z1 fz hno c9
          replace q5 := q9
          refine hKK.out _ _ hH2 ?_
          clear hHeld
          intro hHeld
          clear hKK KK
          try simp only [pP, pN, pS, pZ, pC]
          clear hH2
          generalize ((w4.setCell ⟨cq5, 0, none⟩ (.bool (ng T))).setCell ⟨cq5, 1, none⟩ (.slice pt (ln (am T)) (ln (am T)))) = w5 at bT h1 h3 hS ks kt kg q5 q6 hHeld ⊢
          refine wpAnyH_ready (rs := [16]) (by kernel_rfl) (by simp) ?_
          refine cons' rfl (fun KK hKK => ?_)
          have z0 := q6.cell 0
          have z1 := q6.cell 1
          simp only [List.getElem?_toArray, List.getElem?_cons_zero, List.getElem?_cons_succ] at z0 z1
          have fz := fun o => q6.frozen o
          obtain ⟨c9, q9⟩ := q6.set2s (.bool (ng G)) (.slice pg (ln (am G)) (ln (am G)))
          have hno := q6.no (by simp)
          replace h1 := h1.ch c9 hno
          replace h3 := h3.ch c9 hno
          replace hS := hS.ch c9 hno
          replace ks := ks.ch c9 hno
          replace kt := kt.ch c9 hno
          replace kg := kg.ch c9 hno
          replace q5 := q5.ch c9 (by omega)
          replace bT := bT.trans (c9.below (by omega))
          have hH2 := (⟨(World.cell?_of_block (w := w5) (a := ⟨w.heap.size, 0, none⟩) (c9.other (w.heap.size) (by omega))).trans hHeld.1, (World.cell?_of_block (w := w5) (a := ⟨w.heap.size, 1, none⟩) (c9.other (w.heap.size) (by omega))).trans hHeld.2.1, (World.cell?_of_block (w := w5) (a := ⟨w.heap.size, 2, none⟩) (c9.other (w.heap.size) (by omega))).trans hHeld.2.2.1, (World.cell?_of_block (w := w5) (a := ⟨w.heap.size, 3, none⟩) (c9.other (w.heap.size) (by omega))).trans hHeld.2.2.2.1, (World.cell?_of_block (w := w5) (a := ⟨w.heap.size, 4, none⟩) (c9.other (w.heap.size) (by omega))).trans hHeld.2.2.2.2.1, (World.cell?_of_block (w := w5) (a := ⟨w.heap.size, 5, none⟩) (c9.other (w.heap.size) (by omega))).trans hHeld.2.2.2.2.2.1, (World.cell?_of_block (w := w5) (a := ⟨w.heap.size, 6, none⟩) (c9.other (w.heap.size) (by omega))).trans hHeld.2.2.2.2.2.2.1, (World.cell?_of_block (w := w5) (a := ⟨w.heap.size, 7, none⟩) (c9.other (w.heap.size) (by omega))).trans hHeld.2.2.2.2.2.2.2.1, (World.cell?_of_block (w := w5) (a := ⟨w.heap.size + 1, 0, none⟩) (c9.other (w.heap.size + 1) (by omega))).trans hHeld.2.2.2.2.2.2.2.2.1, (World.cell?_of_block (w := w5) (a := ⟨w.heap.size + 1, 1, none⟩) (c9.other (w.heap.size + 1) (by omega))).trans hHeld.2.2.2.2.2.2.2.2.2⟩ : _ ∧ _ ∧ _ ∧ _ ∧ _ ∧ _ ∧ _ ∧ _ ∧ _ ∧ _)
          go_simp
          clear z0 z1 fz hno c9
          replace q6 := q9
          refine hKK.out _ _ hH2 ?_
          clear hHeld
          intro hHeld
          clear hKK KK
          try simp only [pP, pN, pS, pZ, pC]
          clear hH2
          generalize ((w5.setCell ⟨cq6, 0, none⟩ (.bool (ng G))).setCell ⟨cq6, 1, none⟩ (.slice pg (ln (am G)) (ln (am G)))) = w6 at bT h1 h3 hS ks kt kg q5 q6 hHeld ⊢
          refine tk 17 (v := ?_) rfl (Or.inl ⟨by rfl, ?_⟩) ?_
          rotate_left
          · intro w9 hSw
            go_simp
            first | done | with_reducible rfl
          simp only [pP, pN, pS, pZ, pC]
          refine wpAnyH_done (by kernel_rfl) ?_ _
          go_wp2_with fail
          go_meet
          exact ⟨_, cq5, cq6, pt, rfl, rfl, rfl, rfl, q5, kt, hq5ge, bT⟩
        refine consT rfl (fun KK hKK => ?_) ?_
        · skip
          go_simp
          have q6 := Blk.new w2 #[.bool false, .slice none 0 0] 25
          have bA := below_alloc (w := w2) (.cells #[.bool false, .slice none 0 0] 25)
          have hq6ge := bT.size
          have hq6c0 := cell_ltU hHeld.1
          have hq6c1 := cell_ltU hHeld.2.1
          have hq6c2 := cell_ltU hHeld.2.2.1
          have hq6c3 := cell_ltU hHeld.2.2.2.1
          have hq6c4 := cell_ltU hHeld.2.2.2.2.1
          have hq6c5 := cell_ltU hHeld.2.2.2.2.2.1
          have hq6c6 := cell_ltU hHeld.2.2.2.2.2.2.1
          have hq6c7 := cell_ltU hHeld.2.2.2.2.2.2.2.1
          have hq6c8 := cell_ltU hHeld.2.2.2.2.2.2.2.2.1
          have hq6c9 := cell_ltU hHeld.2.2.2.2.2.2.2.2.2
          generalize w2.alloc (.cells #[.bool false, .slice none 0 0] 25) = w7 at q6 bA ⊢
          replace bT := bT.trans (bA.mono bT.size)
          replace h1 := h1.later bA
          replace h3 := h3.later bA
          replace hS := hS.later bA
          replace ks := ks.later bA
          replace kt := kt.later bA
          replace kg := kg.later bA
          replace hHeld := (⟨below_cell bA hHeld.1, below_cell bA hHeld.2.1, below_cell bA hHeld.2.2.1, below_cell bA hHeld.2.2.2.1, below_cell bA hHeld.2.2.2.2.1, below_cell bA hHeld.2.2.2.2.2.1, below_cell bA hHeld.2.2.2.2.2.2.1, below_cell bA hHeld.2.2.2.2.2.2.2.1, below_cell bA hHeld.2.2.2.2.2.2.2.2.1, below_cell bA hHeld.2.2.2.2.2.2.2.2.2⟩ : _ ∧ _ ∧ _ ∧ _ ∧ _ ∧ _ ∧ _ ∧ _ ∧ _ ∧ _)
          clear bA
          refine hKK.out _ _ hHeld ?_
          clear hHeld
          intro hHeld
          clear hKK KK
          try simp only [pP, pN, pS, pZ, pC]
          obtain ⟨cq6, hcc⟩ : ∃ cc, w2.heap.size = cc := ⟨_, rfl⟩
          rw [hcc] at q6 hq6ge hq6c0 hq6c1 hq6c2 hq6c3 hq6c4 hq6c5 hq6c6 hq6c7 hq6c8 hq6c9
          try rw [hcc]
          clear hcc
          refine wpAnyH_ready (rs := [13]) (by kernel_rfl) (by simp) ?_
          refine cons' rfl (fun KK hKK => ?_)
          go_simp
          have q5 := Blk.new w7 #[.bool false, .slice none 0 0] 25
          have bA := below_alloc (w := w7) (.cells #[.bool false, .slice none 0 0] 25)
          have hq5ge := bT.size
          have hq5q6 := q6.lt
          have hq5c0 := cell_ltU hHeld.1
          have hq5c1 := cell_ltU hHeld.2.1
          have hq5c2 := cell_ltU hHeld.2.2.1
          have hq5c3 := cell_ltU hHeld.2.2.2.1
          have hq5c4 := cell_ltU hHeld.2.2.2.2.1
          have hq5c5 := cell_ltU hHeld.2.2.2.2.2.1
          have hq5c6 := cell_ltU hHeld.2.2.2.2.2.2.1
          have hq5c7 := cell_ltU hHeld.2.2.2.2.2.2.2.1
          have hq5c8 := cell_ltU hHeld.2.2.2.2.2.2.2.2.1
          have hq5c9 := cell_ltU hHeld.2.2.2.2.2.2.2.2.2
          generalize w7.alloc (.cells #[.bool false, .slice none 0 0] 25) = w8 at q5 bA ⊢
          replace bT := bT.trans (bA.mono bT.size)
          replace h1 := h1.later bA
          replace h3 := h3.later bA
          replace hS := hS.later bA
          replace ks := ks.later bA
          replace kt := kt.later bA
          replace kg := kg.later bA
          replace q6 := q6.later bA
          replace hHeld := (⟨below_cell bA hHeld.1, below_cell bA hHeld.2.1, below_cell bA hHeld.2.2.1, below_cell bA hHeld.2.2.2.1, below_cell bA hHeld.2.2.2.2.1, below_cell bA hHeld.2.2.2.2.2.1, below_cell bA hHeld.2.2.2.2.2.2.1, below_cell bA hHeld.2.2.2.2.2.2.2.1, below_cell bA hHeld.2.2.2.2.2.2.2.2.1, below_cell bA hHeld.2.2.2.2.2.2.2.2.2⟩ : _ ∧ _ ∧ _ ∧ _ ∧ _ ∧ _ ∧ _ ∧ _ ∧ _ ∧ _)
          clear bA
          refine hKK.out _ _ hHeld ?_
          clear hHeld
          intro hHeld
          clear hKK KK
          try simp only [pP, pN, pS, pZ, pC]
          obtain ⟨cq5, hcc⟩ : ∃ cc, w7.heap.size = cc := ⟨_, rfl⟩
          rw [hcc] at q5 hq5ge hq5q6 hq5c0 hq5c1 hq5c2 hq5c3 hq5c4 hq5c5 hq5c6 hq5c7 hq5c8 hq5c9
          try rw [hcc]
          clear hcc
          refine wpAnyH_ready (rs := [15]) (by kernel_rfl) (by simp) ?_
          refine cons' rfl (fun KK hKK => ?_)
          have z0 := q5.cell 0
          have z1 := q5.cell 1
          simp only [List.getElem?_toArray, List.getElem?_cons_zero, List.getElem?_cons_succ] at z0 z1
          have fz := fun o => q5.frozen o
          obtain ⟨c9, q9⟩ := q5.set2s (.bool (ng T)) (.slice pt (ln (am T)) (ln (am T)))
          have hno := q5.no (by simp)
          replace h1 := h1.ch c9 hno
          replace h3 := h3.ch c9 hno
          replace hS := hS.ch c9 hno
          replace ks := ks.ch c9 hno
          replace kt := kt.ch c9 hno
          replace kg := kg.ch c9 hno
          replace q6 := q6.ch c9 (by omega)
          replace bT := bT.trans (c9.below (by omega))
          have hH2 := (⟨(World.cell?_of_block (w := w8) (a := ⟨w.heap.size, 0, none⟩) (c9.other (w.heap.size) (by omega))).trans hHeld.1, (World.cell?_of_block (w := w8) (a := ⟨w.heap.size, 1, none⟩) (c9.other (w.heap.size) (by omega))).trans hHeld.2.1, (World.cell?_of_block (w := w8) (a := ⟨w.heap.size, 2, none⟩) (c9.other (w.heap.size) (by omega))).trans hHeld.2.2.1, (World.cell?_of_block (w := w8) (a := ⟨w.heap.size, 3, none⟩) (c9.other (w.heap.size) (by omega))).trans hHeld.2.2.2.1, (World.cell?_of_block (w := w8) (a := ⟨w.heap.size, 4, none⟩) (c9.other (w.heap.size) (by omega))).trans hHeld.2.2.2.2.1, (World.cell?_of_block (w := w8) (a := ⟨w.heap.size, 5, none⟩) (c9.other (w.heap.size) (by omega))).trans hHeld.2.2.2.2.2.1, (World.cell?_of_block (w := w8) (a := ⟨w.heap.size, 6, none⟩) (c9.other (w.heap.size) (by omega))).trans hHeld.2.2.2.2.2.2.1, (World.cell?_of_block (w := w8) (a := ⟨w.heap.size, 7, none⟩) (c9.other (w.heap.size) (by omega))).trans hHeld.2.2.2.2.2.2.2.1, (World.cell?_of_block (w := w8) (a := ⟨w.heap.size + 1, 0, none⟩) (c9.other (w.heap.size + 1) (by omega))).trans hHeld.2.2.2.2.2.2.2.2.1, (World.cell?_of_block (w := w8) (a := ⟨w.heap.size + 1, 1, none⟩) (c9.other (w.heap.size + 1) (by omega))).trans hHeld.2.2.2.2.2.2.2.2.2⟩ : _ ∧ _ ∧ _ ∧ _ ∧ _ ∧ _ ∧ _ ∧ _ ∧ _ ∧ _)
          go_simp
          clear z0 z1 fz hno c9
          replace q5 := q9
          refine hKK.out _ _ hH2 ?_
          clear hHeld
          intro hHeld
          clear hKK KK
          try simp only [pP, pN, pS, pZ, pC]
          clear hH2
          generalize ((w8.setCell ⟨cq5, 0, none⟩ (.bool (ng T))).setCell ⟨cq5, 1, none⟩ (.slice pt (ln (am T)) (ln (am T)))) = w9 at bT h1 h3 hS ks kt kg q6 q5 hHeld ⊢
          refine wpAnyH_ready (rs := [16]) (by kernel_rfl) (by simp) ?_
          refine cons' rfl (fun KK hKK => ?_)
          have z0 := q6.cell 0
          have z1 := q6.cell 1
          simp only [List.getElem?_toArray, List.getElem?_cons_zero, List.getElem?_cons_succ] at z0 z1
          have fz := fun o => q6.frozen o
          obtain ⟨c9, q9⟩ := q6.set2s (.bool (ng G)) (.slice pg (ln (am G)) (ln (am G)))
          have hno := q6.no (by simp)
          replace h1 := h1.ch c9 hno
          replace h3 := h3.ch c9 hno
          replace hS := hS.ch c9 hno
          replace ks := ks.ch c9 hno
          replace kt := kt.ch c9 hno
          replace kg := kg.ch c9 hno
          replace q5 := q5.ch c9 (by omega)
          replace bT := bT.trans (c9.below (by omega))
          have hH2 := (⟨(World.cell?_of_block (w := w9) (a := ⟨w.heap.size, 0, none⟩) (c9.other (w.heap.size) (by omega))).trans hHeld.1, (World.cell?_of_block (w := w9) (a := ⟨w.heap.size, 1, none⟩) (c9.other (w.heap.size) (by omega))).trans hHeld.2.1, (World.cell?_of_block (w := w9) (a := ⟨w.heap.size, 2, none⟩) (c9.other (w.heap.size) (by omega))).trans hHeld.2.2.1, (World.cell?_of_block (w := w9) (a := ⟨w.heap.size, 3, none⟩) (c9.other (w.heap.size) (by omega))).trans hHeld.2.2.2.1, (World.cell?_of_block (w := w9) (a := ⟨w.heap.size, 4, none⟩) (c9.other (w.heap.size) (by omega))).trans hHeld.2.2.2.2.1, (World.cell?_of_block (w := w9) (a := ⟨w.heap.size, 5, none⟩) (c9.other (w.heap.size) (by omega))).trans hHeld.2.2.2.2.2.1, (World.cell?_of_block (w := w9) (a := ⟨w.heap.size, 6, none⟩) (c9.other (w.heap.size) (by omega))).trans hHeld.2.2.2.2.2.2.1, (World.cell?_of_block (w := w9) (a := ⟨w.heap.size, 7, none⟩) (c9.other (w.heap.size) (by omega))).trans hHeld.2.2.2.2.2.2.2.1, (World.cell?_of_block (w := w9) (a := ⟨w.heap.size + 1, 0, none⟩) (c9.other (w.heap.size + 1) (by omega))).trans hHeld.2.2.2.2.2.2.2.2.1, (World.cell?_of_block (w := w9) (a := ⟨w.heap.size + 1, 1, none⟩) (c9.other (w.heap.size + 1) (by omega))).trans hHeld.2.2.2.2.2.2.2.2.2⟩ : _ ∧ _ ∧ _ ∧ _ ∧ _ ∧ _ ∧ _ ∧ _ ∧ _ ∧ _)
          go_simp
          clear z0 z1 fz hno c9
          replace q6 := q9
          refine hKK.out _ _ hH2 ?_
          clear hHeld
          intro hHeld
          clear hKK KK
          try simp only [pP, pN, pS, pZ, pC]
          clear hH2
          generalize ((w9.setCell ⟨cq6, 0, none⟩ (.bool (ng G))).setCell ⟨cq6, 1, none⟩ (.slice pg (ln (am G)) (ln (am G)))) = w10 at bT h1 h3 hS ks kt kg q6 q5 hHeld ⊢
          refine tk 17 (v := ?_) rfl (Or.inl ⟨by rfl, ?_⟩) ?_
          rotate_left
          · intro w9 hSw
            go_simp
            first | done | with_reducible rfl
          simp only [pP, pN, pS, pZ, pC]
          refine wpAnyH_done (by kernel_rfl) ?_ _
          go_wp2_with fail
          go_meet
          exact ⟨_, cq5, cq6, pt, rfl, rfl, rfl, rfl, q5, kt, hq5ge, bT⟩
        exact AllReadyH.nil
      refine consT rfl (fun KK hKK => ?_) ?_
      · skip
        go_simp
        have q5 := Blk.new w1 #[.bool false, .slice none 0 0] 25
        have bA := below_alloc (w := w1) (.cells #[.bool false, .slice none 0 0] 25)
        have hq5ge := bT.size
        have hq5c0 := cell_ltU hHeld.1
        have hq5c1 := cell_ltU hHeld.2.1
        have hq5c2 := cell_ltU hHeld.2.2.1
        have hq5c3 := cell_ltU hHeld.2.2.2.1
        have hq5c4 := cell_ltU hHeld.2.2.2.2.1
        have hq5c5 := cell_ltU hHeld.2.2.2.2.2.1
        have hq5c6 := cell_ltU hHeld.2.2.2.2.2.2.1
        have hq5c7 := cell_ltU hHeld.2.2.2.2.2.2.2.1
        have hq5c8 := cell_ltU hHeld.2.2.2.2.2.2.2.2.1
        have hq5c9 := cell_ltU hHeld.2.2.2.2.2.2.2.2.2
        generalize w1.alloc (.cells #[.bool false, .slice none 0 0] 25) = w11 at q5 bA ⊢
        replace bT := bT.trans (bA.mono bT.size)
        replace h1 := h1.later bA
        replace h3 := h3.later bA
        replace hS := hS.later bA
        replace ks := ks.later bA
        replace hHeld := (⟨below_cell bA hHeld.1, below_cell bA hHeld.2.1, below_cell bA hHeld.2.2.1, below_cell bA hHeld.2.2.2.1, below_cell bA hHeld.2.2.2.2.1, below_cell bA hHeld.2.2.2.2.2.1, below_cell bA hHeld.2.2.2.2.2.2.1, below_cell bA hHeld.2.2.2.2.2.2.2.1, below_cell bA hHeld.2.2.2.2.2.2.2.2.1, below_cell bA hHeld.2.2.2.2.2.2.2.2.2⟩ : _ ∧ _ ∧ _ ∧ _ ∧ _ ∧ _ ∧ _ ∧ _ ∧ _ ∧ _)
        clear bA
        refine hKK.out _ _ hHeld ?_
        clear hHeld
        intro hHeld
        clear hKK KK
        try simp only [pP, pN, pS, pZ, pC]
        obtain ⟨cq5, hcc⟩ : ∃ cc, w1.heap.size = cc := ⟨_, rfl⟩
        rw [hcc] at q5 hq5ge hq5c0 hq5c1 hq5c2 hq5c3 hq5c4 hq5c5 hq5c6 hq5c7 hq5c8 hq5c9
        try rw [hcc]
        clear hcc
        refine wpAnyH_ready (rs := [8, 14]) (by kernel_rfl) (by simp) ?_
        refine consT rfl (fun KK hKK => ?_) ?_
        · skip
          go_simp
          refine (GF.out _ ps ks h3).mono ?_
          rintro e w12 ⟨pt, pg, rfl, n1, n2⟩
          have bC := n1.below
          replace bT := bT.trans (bC.mono bT.size)
          replace h1 := h1.later bC
          replace h3 := h3.later bC
          replace hS := hS.later bC
          replace ks := ks.later bC
          replace q5 := q5.later bC
          replace hHeld := (⟨below_cell bC hHeld.1, below_cell bC hHeld.2.1, below_cell bC hHeld.2.2.1, below_cell bC hHeld.2.2.2.1, below_cell bC hHeld.2.2.2.2.1, below_cell bC hHeld.2.2.2.2.2.1, below_cell bC hHeld.2.2.2.2.2.2.1, below_cell bC hHeld.2.2.2.2.2.2.2.1, below_cell bC hHeld.2.2.2.2.2.2.2.2.1, below_cell bC hHeld.2.2.2.2.2.2.2.2.2⟩ : _ ∧ _ ∧ _ ∧ _ ∧ _ ∧ _ ∧ _ ∧ _ ∧ _ ∧ _)
          clear bC
          go_wp2_with fail
          have kt := n1.seg
          have kg := n2.seg
          clear n1 n2
          refine hKK.out _ _ hHeld ?_
          clear hHeld
          intro hHeld
          clear hKK KK
          try simp only [pP, pN, pS, pZ, pC]
          refine tk 9 (v := ?_) rfl (Or.inl ⟨by rfl, ?_⟩) ?_
          rotate_left
          · intro w9 hSw
            go_simp
            first | done | with_reducible rfl
          simp only [pP, pN, pS, pZ, pC]
          refine tk 10 (v := ?_) rfl (Or.inl ⟨by rfl, ?_⟩) ?_
          rotate_left
          · intro w9 hSw
            go_simp
            first | done | with_reducible rfl
          simp only [pP, pN, pS, pZ, pC]
          refine tk 11 (v := ?_) rfl (Or.inl ⟨by rfl, ?_⟩) ?_
          rotate_left
          · intro w9 hSw
            go_simp
            first | done | with_reducible rfl
          simp only [pP, pN, pS, pZ, pC]
          refine tk 12 (v := ?_) rfl (Or.inl ⟨by rfl, ?_⟩) ?_
          rotate_left
          · intro w9 hSw
            go_simp
            first | done | with_reducible rfl
          simp only [pP, pN, pS, pZ, pC]
          refine wpAnyH_ready (rs := [14]) (by kernel_rfl) (by simp) ?_
          refine cons' rfl (fun KK hKK => ?_)
          go_simp
          have q6 := Blk.new w12 #[.bool false, .slice none 0 0] 25
          have bA := below_alloc (w := w12) (.cells #[.bool false, .slice none 0 0] 25)
          have hq6ge := bT.size
          have hq6q5 := q5.lt
          have hq6c0 := cell_ltU hHeld.1
          have hq6c1 := cell_ltU hHeld.2.1
          have hq6c2 := cell_ltU hHeld.2.2.1
          have hq6c3 := cell_ltU hHeld.2.2.2.1
          have hq6c4 := cell_ltU hHeld.2.2.2.2.1
          have hq6c5 := cell_ltU hHeld.2.2.2.2.2.1
          have hq6c6 := cell_ltU hHeld.2.2.2.2.2.2.1
          have hq6c7 := cell_ltU hHeld.2.2.2.2.2.2.2.1
          have hq6c8 := cell_ltU hHeld.2.2.2.2.2.2.2.2.1
          have hq6c9 := cell_ltU hHeld.2.2.2.2.2.2.2.2.2
          generalize w12.alloc (.cells #[.bool false, .slice none 0 0] 25) = w13 at q6 bA ⊢
          replace bT := bT.trans (bA.mono bT.size)
          replace h1 := h1.later bA
          replace h3 := h3.later bA
          replace hS := hS.later bA
          replace ks := ks.later bA
          replace q5 := q5.later bA
          replace kt := kt.later bA
          replace kg := kg.later bA
          replace hHeld := (⟨below_cell bA hHeld.1, below_cell bA hHeld.2.1, below_cell bA hHeld.2.2.1, below_cell bA hHeld.2.2.2.1, below_cell bA hHeld.2.2.2.2.1, below_cell bA hHeld.2.2.2.2.2.1, below_cell bA hHeld.2.2.2.2.2.2.1, below_cell bA hHeld.2.2.2.2.2.2.2.1, below_cell bA hHeld.2.2.2.2.2.2.2.2.1, below_cell bA hHeld.2.2.2.2.2.2.2.2.2⟩ : _ ∧ _ ∧ _ ∧ _ ∧ _ ∧ _ ∧ _ ∧ _ ∧ _ ∧ _)
          clear bA
          refine hKK.out _ _ hHeld ?_
          clear hHeld
          intro hHeld
          clear hKK KK
          try simp only [pP, pN, pS, pZ, pC]
          obtain ⟨cq6, hcc⟩ : ∃ cc, w12.heap.size = cc := ⟨_, rfl⟩
          rw [hcc] at q6 hq6ge hq6q5 hq6c0 hq6c1 hq6c2 hq6c3 hq6c4 hq6c5 hq6c6 hq6c7 hq6c8 hq6c9
          try rw [hcc]
          clear hcc
          refine wpAnyH_ready (rs := [15]) (by kernel_rfl) (by simp) ?_
          refine cons' rfl (fun KK hKK => ?_)
          have z0 := q5.cell 0
          have z1 := q5.cell 1
          simp only [List.getElem?_toArray, List.getElem?_cons_zero, List.getElem?_cons_succ] at z0 z1
          have fz := fun o => q5.frozen o
          obtain ⟨c9, q9⟩ := q5.set2s (.bool (ng T)) (.slice pt (ln (am T)) (ln (am T)))
          have hno := q5.no (by simp)
          replace h1 := h1.ch c9 hno
          replace h3 := h3.ch c9 hno
          replace hS := hS.ch c9 hno
          replace ks := ks.ch c9 hno
          replace kt := kt.ch c9 hno
          replace kg := kg.ch c9 hno
          replace q6 := q6.ch c9 (by omega)
          replace bT := bT.trans (c9.below (by omega))
          have hH2 := (⟨(World.cell?_of_block (w := w13) (a := ⟨w.heap.size, 0, none⟩) (c9.other (w.heap.size) (by omega))).trans hHeld.1, (World.cell?_of_block (w := w13) (a := ⟨w.heap.size, 1, none⟩) (c9.other (w.heap.size) (by omega))).trans hHeld.2.1, (World.cell?_of_block (w := w13) (a := ⟨w.heap.size, 2, none⟩) (c9.other (w.heap.size) (by omega))).trans hHeld.2.2.1, (World.cell?_of_block (w := w13) (a := ⟨w.heap.size, 3, none⟩) (c9.other (w.heap.size) (by omega))).trans hHeld.2.2.2.1, (World.cell?_of_block (w := w13) (a := ⟨w.heap.size, 4, none⟩) (c9.other (w.heap.size) (by omega))).trans hHeld.2.2.2.2.1, (World.cell?_of_block (w := w13) (a := ⟨w.heap.size, 5, none⟩) (c9.other (w.heap.size) (by omega))).trans hHeld.2.2.2.2.2.1, (World.cell?_of_block (w := w13) (a := ⟨w.heap.size, 6, none⟩) (c9.other (w.heap.size) (by omega))).trans hHeld.2.2.2.2.2.2.1, (World.cell?_of_block (w := w13) (a := ⟨w.heap.size, 7, none⟩) (c9.other (w.heap.size) (by omega))).trans hHeld.2.2.2.2.2.2.2.1, (World.cell?_of_block (w := w13) (a := ⟨w.heap.size + 1, 0, none⟩) (c9.other (w.heap.size + 1) (by omega))).trans hHeld.2.2.2.2.2.2.2.2.1, (World.cell?_of_block (w := w13) (a := ⟨w.heap.size + 1, 1, none⟩) (c9.other (w.heap.size + 1) (by omega))).trans hHeld.2.2.2.2.2.2.2.2.2⟩ : _ ∧ _ ∧ _ ∧ _ ∧ _ ∧ _ ∧ _ ∧ _ ∧ _ ∧ _)
          go_simp
          clear z0 z1 fz hno c9
          replace q5 := q9
          refine hKK.out _ _ hH2 ?_
          clear hHeld
          intro hHeld
          clear hKK KK
          try simp only [pP, pN, pS, pZ, pC]
          clear hH2
          generalize ((w13.setCell ⟨cq5, 0, none⟩ (.bool (ng T))).setCell ⟨cq5, 1, none⟩ (.slice pt (ln (am T)) (ln (am T)))) = w14 at bT h1 h3 hS ks q5 kt kg q6 hHeld ⊢
          refine wpAnyH_ready (rs := [16]) (by kernel_rfl) (by simp) ?_
          refine cons' rfl (fun KK hKK => ?_)
          have z0 := q6.cell 0
          have z1 := q6.cell 1
          simp only [List.getElem?_toArray, List.getElem?_cons_zero, List.getElem?_cons_succ] at z0 z1
          have fz := fun o => q6.frozen o
          obtain ⟨c9, q9⟩ := q6.set2s (.bool (ng G)) (.slice pg (ln (am G)) (ln (am G)))
          have hno := q6.no (by simp)
          replace h1 := h1.ch c9 hno
          replace h3 := h3.ch c9 hno
          replace hS := hS.ch c9 hno
          replace ks := ks.ch c9 hno
          replace q5 := q5.ch c9 (by omega)
          replace kt := kt.ch c9 hno
          replace kg := kg.ch c9 hno
          replace bT := bT.trans (c9.below (by omega))
          have hH2 := (⟨(World.cell?_of_block (w := w14) (a := ⟨w.heap.size, 0, none⟩) (c9.other (w.heap.size) (by omega))).trans hHeld.1, (World.cell?_of_block (w := w14) (a := ⟨w.heap.size, 1, none⟩) (c9.other (w.heap.size) (by omega))).trans hHeld.2.1, (World.cell?_of_block (w := w14) (a := ⟨w.heap.size, 2, none⟩) (c9.other (w.heap.size) (by omega))).trans hHeld.2.2.1, (World.cell?_of_block (w := w14) (a := ⟨w.heap.size, 3, none⟩) (c9.other (w.heap.size) (by omega))).trans hHeld.2.2.2.1, (World.cell?_of_block (w := w14) (a := ⟨w.heap.size, 4, none⟩) (c9.other (w.heap.size) (by omega))).trans hHeld.2.2.2.2.1, (World.cell?_of_block (w := w14) (a := ⟨w.heap.size, 5, none⟩) (c9.other (w.heap.size) (by omega))).trans hHeld.2.2.2.2.2.1, (World.cell?_of_block (w := w14) (a := ⟨w.heap.size, 6, none⟩) (c9.other (w.heap.size) (by omega))).trans hHeld.2.2.2.2.2.2.1, (World.cell?_of_block (w := w14) (a := ⟨w.heap.size, 7, none⟩) (c9.other (w.heap.size) (by omega))).trans hHeld.2.2.2.2.2.2.2.1, (World.cell?_of_block (w := w14) (a := ⟨w.heap.size + 1, 0, none⟩) (c9.other (w.heap.size + 1) (by omega))).trans hHeld.2.2.2.2.2.2.2.2.1, (World.cell?_of_block (w := w14) (a := ⟨w.heap.size + 1, 1, none⟩) (c9.other (w.heap.size + 1) (by omega))).trans hHeld.2.2.2.2.2.2.2.2.2⟩ : _ ∧ _ ∧ _ ∧ _ ∧ _ ∧ _ ∧ _ ∧ _ ∧ _ ∧ _)
          go_simp
          clear z0 z1 fz hno c9
          replace q6 := q9
          refine hKK.out _ _ hH2 ?_
          clear hHeld
          intro hHeld
          clear hKK KK
          try simp only [pP, pN, pS, pZ, pC]
          clear hH2
          generalize ((w14.setCell ⟨cq6, 0, none⟩ (.bool (ng G))).setCell ⟨cq6, 1, none⟩ (.slice pg (ln (am G)) (ln (am G)))) = w15 at bT h1 h3 hS ks q5 kt kg q6 hHeld ⊢
          refine tk 17 (v := ?_) rfl (Or.inl ⟨by rfl, ?_⟩) ?_
          rotate_left
          · intro w9 hSw
            go_simp
            first | done | with_reducible rfl
          simp only [pP, pN, pS, pZ, pC]
          refine wpAnyH_done (by kernel_rfl) ?_ _
          go_wp2_with fail
          go_meet
          exact ⟨_, cq5, cq6, pt, rfl, rfl, rfl, rfl, q5, kt, hq5ge, bT⟩
        refine consT rfl (fun KK hKK => ?_) ?_
        · skip
          go_simp
          have q6 := Blk.new w11 #[.bool false, .slice none 0 0] 25
          have bA := below_alloc (w := w11) (.cells #[.bool false, .slice none 0 0] 25)
          have hq6ge := bT.size
          have hq6q5 := q5.lt
          have hq6c0 := cell_ltU hHeld.1
          have hq6c1 := cell_ltU hHeld.2.1
          have hq6c2 := cell_ltU hHeld.2.2.1
          have hq6c3 := cell_ltU hHeld.2.2.2.1
          have hq6c4 := cell_ltU hHeld.2.2.2.2.1
          have hq6c5 := cell_ltU hHeld.2.2.2.2.2.1
          have hq6c6 := cell_ltU hHeld.2.2.2.2.2.2.1
          have hq6c7 := cell_ltU hHeld.2.2.2.2.2.2.2.1
          have hq6c8 := cell_ltU hHeld.2.2.2.2.2.2.2.2.1
          have hq6c9 := cell_ltU hHeld.2.2.2.2.2.2.2.2.2
          generalize w11.alloc (.cells #[.bool false, .slice none 0 0] 25) = w16 at q6 bA ⊢
          replace bT := bT.trans (bA.mono bT.size)
          replace h1 := h1.later bA
          replace h3 := h3.later bA
          replace hS := hS.later bA
          replace ks := ks.later bA
          replace q5 := q5.later bA
          replace hHeld := (⟨below_cell bA hHeld.1, below_cell bA hHeld.2.1, below_cell bA hHeld.2.2.1, below_cell bA hHeld.2.2.2.1, below_cell bA hHeld.2.2.2.2.1, below_cell bA hHeld.2.2.2.2.2.1, below_cell bA hHeld.2.2.2.2.2.2.1, below_cell bA hHeld.2.2.2.2.2.2.2.1, below_cell bA hHeld.2.2.2.2.2.2.2.2.1, below_cell bA hHeld.2.2.2.2.2.2.2.2.2⟩ : _ ∧ _ ∧ _ ∧ _ ∧ _ ∧ _ ∧ _ ∧ _ ∧ _ ∧ _)
          clear bA
          refine hKK.out _ _ hHeld ?_
          clear hHeld
          intro hHeld
          clear hKK KK
          try simp only [pP, pN, pS, pZ, pC]
          obtain ⟨cq6, hcc⟩ : ∃ cc, w11.heap.size = cc := ⟨_, rfl⟩
          rw [hcc] at q6 hq6ge hq6q5 hq6c0 hq6c1 hq6c2 hq6c3 hq6c4 hq6c5 hq6c6 hq6c7 hq6c8 hq6c9
          try rw [hcc]
          clear hcc
          refine wpAnyH_ready (rs := [8]) (by kernel_rfl) (by simp) ?_
          refine cons' rfl (fun KK hKK => ?_)
          go_simp
          refine (GF.out _ ps ks h3).mono ?_
          rintro e w17 ⟨pt, pg, rfl, n1, n2⟩
          have bC := n1.below
          replace bT := bT.trans (bC.mono bT.size)
          replace h1 := h1.later bC
          replace h3 := h3.later bC
          replace hS := hS.later bC
          replace ks := ks.later bC
          replace q5 := q5.later bC
          replace q6 := q6.later bC
          replace hHeld := (⟨below_cell bC hHeld.1, below_cell bC hHeld.2.1, below_cell bC hHeld.2.2.1, below_cell bC hHeld.2.2.2.1, below_cell bC hHeld.2.2.2.2.1, below_cell bC hHeld.2.2.2.2.2.1, below_cell bC hHeld.2.2.2.2.2.2.1, below_cell bC hHeld.2.2.2.2.2.2.2.1, below_cell bC hHeld.2.2.2.2.2.2.2.2.1, below_cell bC hHeld.2.2.2.2.2.2.2.2.2⟩ : _ ∧ _ ∧ _ ∧ _ ∧ _ ∧ _ ∧ _ ∧ _ ∧ _ ∧ _)
          clear bC
          go_wp2_with fail
          have kt := n1.seg
          have kg := n2.seg
          clear n1 n2
          refine hKK.out _ _ hHeld ?_
          clear hHeld
          intro hHeld
          clear hKK KK
          try simp only [pP, pN, pS, pZ, pC]
          refine tk 9 (v := ?_) rfl (Or.inl ⟨by rfl, ?_⟩) ?_
          rotate_left
          · intro w9 hSw
            go_simp
            first | done | with_reducible rfl
          simp only [pP, pN, pS, pZ, pC]
          refine tk 10 (v := ?_) rfl (Or.inl ⟨by rfl, ?_⟩) ?_
          rotate_left
          · intro w9 hSw
            go_simp
            first | done | with_reducible rfl
          simp only [pP, pN, pS, pZ, pC]
          refine tk 11 (v := ?_) rfl (Or.inl ⟨by rfl, ?_⟩) ?_
          rotate_left
          · intro w9 hSw
            go_simp
            first | done | with_reducible rfl
          simp only [pP, pN, pS, pZ, pC]
          refine tk 12 (v := ?_) rfl (Or.inl ⟨by rfl, ?_⟩) ?_
          rotate_left
          · intro w9 hSw
            go_simp
            first | done | with_reducible rfl
          simp only [pP, pN, pS, pZ, pC]
          refine wpAnyH_ready (rs := [15]) (by kernel_rfl) (by simp) ?_
          refine cons' rfl (fun KK hKK => ?_)
          have z0 := q5.cell 0
          have z1 := q5.cell 1
          simp only [List.getElem?_toArray, List.getElem?_cons_zero, List.getElem?_cons_succ] at z0 z1
          have fz := fun o => q5.frozen o
          obtain ⟨c9, q9⟩ := q5.set2s (.bool (ng T)) (.slice pt (ln (am T)) (ln (am T)))
          have hno := q5.no (by simp)
          replace h1 := h1.ch c9 hno
          replace h3 := h3.ch c9 hno
          replace hS := hS.ch c9 hno
          replace ks := ks.ch c9 hno
          replace q6 := q6.ch c9 (by omega)
          replace kt := kt.ch c9 hno
          replace kg := kg.ch c9 hno
          replace bT := bT.trans (c9.below (by omega))
          have hH2 := (⟨(World.cell?_of_block (w := w17) (a := ⟨w.heap.size, 0, none⟩) (c9.other (w.heap.size) (by omega))).trans hHeld.1, (World.cell?_of_block (w := w17) (a := ⟨w.heap.size, 1, none⟩) (c9.other (w.heap.size) (by omega))).trans hHeld.2.1, (World.cell?_of_block (w := w17) (a := ⟨w.heap.size, 2, none⟩) (c9.other (w.heap.size) (by omega))).trans hHeld.2.2.1, (World.cell?_of_block (w := w17) (a := ⟨w.heap.size, 3, none⟩) (c9.other (w.heap.size) (by omega))).trans hHeld.2.2.2.1, (World.cell?_of_block (w := w17) (a := ⟨w.heap.size, 4, none⟩) (c9.other (w.heap.size) (by omega))).trans hHeld.2.2.2.2.1, (World.cell?_of_block (w := w17) (a := ⟨w.heap.size, 5, none⟩) (c9.other (w.heap.size) (by omega))).trans hHeld.2.2.2.2.2.1, (World.cell?_of_block (w := w17) (a := ⟨w.heap.size, 6, none⟩) (c9.other (w.heap.size) (by omega))).trans hHeld.2.2.2.2.2.2.1, (World.cell?_of_block (w := w17) (a := ⟨w.heap.size, 7, none⟩) (c9.other (w.heap.size) (by omega))).trans hHeld.2.2.2.2.2.2.2.1, (World.cell?_of_block (w := w17) (a := ⟨w.heap.size + 1, 0, none⟩) (c9.other (w.heap.size + 1) (by omega))).trans hHeld.2.2.2.2.2.2.2.2.1, (World.cell?_of_block (w := w17) (a := ⟨w.heap.size + 1, 1, none⟩) (c9.other (w.heap.size + 1) (by omega))).trans hHeld.2.2.2.2.2.2.2.2.2⟩ : _ ∧ _ ∧ _ ∧ _ ∧ _ ∧ _ ∧ _ ∧ _ ∧ _ ∧ _)
          go_simp
          clear z0 z1 fz hno c9
          replace q5 := q9
          refine hKK.out _ _ hH2 ?_
          clear hHeld
          intro hHeld
          clear hKK KK
          try simp only [pP, pN, pS, pZ, pC]
          clear hH2
          generalize ((w17.setCell ⟨cq5, 0, none⟩ (.bool (ng T))).setCell ⟨cq5, 1, none⟩ (.slice pt (ln (am T)) (ln (am T)))) = w18 at bT h1 h3 hS ks q5 q6 kt kg hHeld ⊢
          refine wpAnyH_ready (rs := [16]) (by kernel_rfl) (by simp) ?_
          refine cons' rfl (fun KK hKK => ?_)
          have z0 := q6.cell 0
          have z1 := q6.cell 1
          simp only [List.getElem?_toArray, List.getElem?_cons_zero, List.getElem?_cons_succ] at z0 z1
          have fz := fun o => q6.frozen o
          obtain ⟨c9, q9⟩ := q6.set2s (.bool (ng G)) (.slice pg (ln (am G)) (ln (am G)))
          have hno := q6.no (by simp)
          replace h1 := h1.ch c9 hno
          replace h3 := h3.ch c9 hno
          replace hS := hS.ch c9 hno
          replace ks := ks.ch c9 hno
          replace q5 := q5.ch c9 (by omega)
          replace kt := kt.ch c9 hno
          replace kg := kg.ch c9 hno
          replace bT := bT.trans (c9.below (by omega))
          have hH2 := (⟨(World.cell?_of_block (w := w18) (a := ⟨w.heap.size, 0, none⟩) (c9.other (w.heap.size) (by omega))).trans hHeld.1, (World.cell?_of_block (w := w18) (a := ⟨w.heap.size, 1, none⟩) (c9.other (w.heap.size) (by omega))).trans hHeld.2.1, (World.cell?_of_block (w := w18) (a := ⟨w.heap.size, 2, none⟩) (c9.other (w.heap.size) (by omega))).trans hHeld.2.2.1, (World.cell?_of_block (w := w18) (a := ⟨w.heap.size, 3, none⟩) (c9.other (w.heap.size) (by omega))).trans hHeld.2.2.2.1, (World.cell?_of_block (w := w18) (a := ⟨w.heap.size, 4, none⟩) (c9.other (w.heap.size) (by omega))).trans hHeld.2.2.2.2.1, (World.cell?_of_block (w := w18) (a := ⟨w.heap.size, 5, none⟩) (c9.other (w.heap.size) (by omega))).trans hHeld.2.2.2.2.2.1, (World.cell?_of_block (w := w18) (a := ⟨w.heap.size, 6, none⟩) (c9.other (w.heap.size) (by omega))).trans hHeld.2.2.2.2.2.2.1, (World.cell?_of_block (w := w18) (a := ⟨w.heap.size, 7, none⟩) (c9.other (w.heap.size) (by omega))).trans hHeld.2.2.2.2.2.2.2.1, (World.cell?_of_block (w := w18) (a := ⟨w.heap.size + 1, 0, none⟩) (c9.other (w.heap.size + 1) (by omega))).trans hHeld.2.2.2.2.2.2.2.2.1, (World.cell?_of_block (w := w18) (a := ⟨w.heap.size + 1, 1, none⟩) (c9.other (w.heap.size + 1) (by omega))).trans hHeld.2.2.2.2.2.2.2.2.2⟩ : _ ∧ _ ∧ _ ∧ _ ∧ _ ∧ _ ∧ _ ∧ _ ∧ _ ∧ _)
          go_simp
          clear z0 z1 fz hno c9
          replace q6 := q9
          refine hKK.out _ _ hH2 ?_
          clear hHeld
          intro hHeld
          clear hKK KK
          try simp only [pP, pN, pS, pZ, pC]
          clear hH2
          generalize ((w18.setCell ⟨cq6, 0, none⟩ (.bool (ng G))).setCell ⟨cq6, 1, none⟩ (.slice pg (ln (am G)) (ln (am G)))) = w19 at bT h1 h3 hS ks q5 q6 kt kg hHeld ⊢
          refine tk 17 (v := ?_) rfl (Or.inl ⟨by rfl, ?_⟩) ?_
          rotate_left
          · intro w9 hSw
            go_simp
            first | done | with_reducible rfl
          simp only [pP, pN, pS, pZ, pC]
          refine wpAnyH_done (by kernel_rfl) ?_ _
          go_wp2_with fail
          go_meet
          exact ⟨_, cq5, cq6, pt, rfl, rfl, rfl, rfl, q5, kt, hq5ge, bT⟩
        exact AllReadyH.nil
      refine consT rfl (fun KK hKK => ?_) ?_
      · skip
        go_simp
        have q6 := Blk.new w1 #[.bool false, .slice none 0 0] 25
        have bA := below_alloc (w := w1) (.cells #[.bool false, .slice none 0 0] 25)
        have hq6ge := bT.size
        have hq6c0 := cell_ltU hHeld.1
        have hq6c1 := cell_ltU hHeld.2.1
        have hq6c2 := cell_ltU hHeld.2.2.1
        have hq6c3 := cell_ltU hHeld.2.2.2.1
        have hq6c4 := cell_ltU hHeld.2.2.2.2.1
        have hq6c5 := cell_ltU hHeld.2.2.2.2.2.1
        have hq6c6 := cell_ltU hHeld.2.2.2.2.2.2.1
        have hq6c7 := cell_ltU hHeld.2.2.2.2.2.2.2.1
        have hq6c8 := cell_ltU hHeld.2.2.2.2.2.2.2.2.1
        have hq6c9 := cell_ltU hHeld.2.2.2.2.2.2.2.2.2
        generalize w1.alloc (.cells #[.bool false, .slice none 0 0] 25) = w20 at q6 bA ⊢
        replace bT := bT.trans (bA.mono bT.size)
        replace h1 := h1.later bA
        replace h3 := h3.later bA
        replace hS := hS.later bA
        replace ks := ks.later bA
        replace hHeld := (⟨below_cell bA hHeld.1, below_cell bA hHeld.2.1, below_cell bA hHeld.2.2.1, below_cell bA hHeld.2.2.2.1, below_cell bA hHeld.2.2.2.2.1, below_cell bA hHeld.2.2.2.2.2.1, below_cell bA hHeld.2.2.2.2.2.2.1, below_cell bA hHeld.2.2.2.2.2.2.2.1, below_cell bA hHeld.2.2.2.2.2.2.2.2.1, below_cell bA hHeld.2.2.2.2.2.2.2.2.2⟩ : _ ∧ _ ∧ _ ∧ _ ∧ _ ∧ _ ∧ _ ∧ _ ∧ _ ∧ _)
        clear bA
        refine hKK.out _ _ hHeld ?_
        clear hHeld
        intro hHeld
        clear hKK KK
        try simp only [pP, pN, pS, pZ, pC]
        obtain ⟨cq6, hcc⟩ : ∃ cc, w1.heap.size = cc := ⟨_, rfl⟩
        rw [hcc] at q6 hq6ge hq6c0 hq6c1 hq6c2 hq6c3 hq6c4 hq6c5 hq6c6 hq6c7 hq6c8 hq6c9
        try rw [hcc]
        clear hcc
        refine wpAnyH_ready (rs := [8, 13]) (by kernel_rfl) (by simp) ?_
        refine consT rfl (fun KK hKK => ?_) ?_
        · skip
          go_simp
          refine (GF.out _ ps ks h3).mono ?_
          rintro e w21 ⟨pt, pg, rfl, n1, n2⟩
          have bC := n1.below
          replace bT := bT.trans (bC.mono bT.size)
          replace h1 := h1.later bC
          replace h3 := h3.later bC
          replace hS := hS.later bC
          replace ks := ks.later bC
          replace q6 := q6.later bC
          replace hHeld := (⟨below_cell bC hHeld.1, below_cell bC hHeld.2.1, below_cell bC hHeld.2.2.1, below_cell bC hHeld.2.2.2.1, below_cell bC hHeld.2.2.2.2.1, below_cell bC hHeld.2.2.2.2.2.1, below_cell bC hHeld.2.2.2.2.2.2.1, below_cell bC hHeld.2.2.2.2.2.2.2.1, below_cell bC hHeld.2.2.2.2.2.2.2.2.1, below_cell bC hHeld.2.2.2.2.2.2.2.2.2⟩ : _ ∧ _ ∧ _ ∧ _ ∧ _ ∧ _ ∧ _ ∧ _ ∧ _ ∧ _)
          clear bC
          go_wp2_with fail
          have kt := n1.seg
          have kg := n2.seg
          clear n1 n2
          refine hKK.out _ _ hHeld ?_
          clear hHeld
          intro hHeld
          clear hKK KK
          try simp only [pP, pN, pS, pZ, pC]
          refine tk 9 (v := ?_) rfl (Or.inl ⟨by rfl, ?_⟩) ?_
          rotate_left
          · intro w9 hSw
            go_simp
            first | done | with_reducible rfl
          simp only [pP, pN, pS, pZ, pC]
          refine tk 10 (v := ?_) rfl (Or.inl ⟨by rfl, ?_⟩) ?_
          rotate_left
          · intro w9 hSw
            go_simp
            first | done | with_reducible rfl
          simp only [pP, pN, pS, pZ, pC]
          refine tk 11 (v := ?_) rfl (Or.inl ⟨by rfl, ?_⟩) ?_
          rotate_left
          · intro w9 hSw
            go_simp
            first | done | with_reducible rfl
          simp only [pP, pN, pS, pZ, pC]
          refine tk 12 (v := ?_) rfl (Or.inl ⟨by rfl, ?_⟩) ?_
          rotate_left
          · intro w9 hSw
            go_simp
            first | done | with_reducible rfl
          simp only [pP, pN, pS, pZ, pC]
          refine wpAnyH_ready (rs := [13]) (by kernel_rfl) (by simp) ?_
          refine cons' rfl (fun KK hKK => ?_)
          go_simp
          have q5 := Blk.new w21 #[.bool false, .slice none 0 0] 25
          have bA := below_alloc (w := w21) (.cells #[.bool false, .slice none 0 0] 25)
          have hq5ge := bT.size
          have hq5q6 := q6.lt
          have hq5c0 := cell_ltU hHeld.1
          have hq5c1 := cell_ltU hHeld.2.1
          have hq5c2 := cell_ltU hHeld.2.2.1
          have hq5c3 := cell_ltU hHeld.2.2.2.1
          have hq5c4 := cell_ltU hHeld.2.2.2.2.1
          have hq5c5 := cell_ltU hHeld.2.2.2.2.2.1
          have hq5c6 := cell_ltU hHeld.2.2.2.2.2.2.1
          have hq5c7 := cell_ltU hHeld.2.2.2.2.2.2.2.1
          have hq5c8 := cell_ltU hHeld.2.2.2.2.2.2.2.2.1
          have hq5c9 := cell_ltU hHeld.2.2.2.2.2.2.2.2.2
          generalize w21.alloc (.cells #[.bool false, .slice none 0 0] 25) = w22 at q5 bA ⊢
          replace bT := bT.trans (bA.mono bT.size)
          replace h1 := h1.later bA
          replace h3 := h3.later bA
          replace hS := hS.later bA
          replace ks := ks.later bA
          replace q6 := q6.later bA
          replace kt := kt.later bA
          replace kg := kg.later bA
          replace hHeld := (⟨below_cell bA hHeld.1, below_cell bA hHeld.2.1, below_cell bA hHeld.2.2.1, below_cell bA hHeld.2.2.2.1, below_cell bA hHeld.2.2.2.2.1, below_cell bA hHeld.2.2.2.2.2.1, below_cell bA hHeld.2.2.2.2.2.2.1, below_cell bA hHeld.2.2.2.2.2.2.2.1, below_cell bA hHeld.2.2.2.2.2.2.2.2.1, below_cell bA hHeld.2.2.2.2.2.2.2.2.2⟩ : _ ∧ _ ∧ _ ∧ _ ∧ _ ∧ _ ∧ _ ∧ _ ∧ _ ∧ _)
          clear bA
          refine hKK.out _ _ hHeld ?_
          clear hHeld
          intro hHeld
          clear hKK KK
          try simp only [pP, pN, pS, pZ, pC]
          obtain ⟨cq5, hcc⟩ : ∃ cc, w21.heap.size = cc := ⟨_, rfl⟩
          rw [hcc] at q5 hq5ge hq5q6 hq5c0 hq5c1 hq5c2 hq5c3 hq5c4 hq5c5 hq5c6 hq5c7 hq5c8 hq5c9
          try rw [hcc]
          clear hcc
          refine wpAnyH_ready (rs := [15]) (by kernel_rfl) (by simp) ?_
          refine cons' rfl (fun KK hKK => ?_)
          have z0 := q5.cell 0
          have z1 := q5.cell 1
          simp only [List.getElem?_toArray, List.getElem?_cons_zero, List.getElem?_cons_succ] at z0 z1
          have fz := fun o => q5.frozen o
          obtain ⟨c9, q9⟩ := q5.set2s (.bool (ng T)) (.slice pt (ln (am T)) (ln (am T)))
          have hno := q5.no (by simp)
          replace h1 := h1.ch c9 hno
          replace h3 := h3.ch c9 hno
          replace hS := hS.ch c9 hno
          replace ks := ks.ch c9 hno
          replace q6 := q6.ch c9 (by omega)
          replace kt := kt.ch c9 hno
          replace kg := kg.ch c9 hno
          replace bT := bT.trans (c9.below (by omega))
          have hH2 := (⟨(World.cell?_of_block (w := w22) (a := ⟨w.heap.size, 0, none⟩) (c9.other (w.heap.size) (by omega))).trans hHeld.1, (World.cell?_of_block (w := w22) (a := ⟨w.heap.size, 1, none⟩) (c9.other (w.heap.size) (by omega))).trans hHeld.2.1, (World.cell?_of_block (w := w22) (a := ⟨w.heap.size, 2, none⟩) (c9.other (w.heap.size) (by omega))).trans hHeld.2.2.1, (World.cell?_of_block (w := w22) (a := ⟨w.heap.size, 3, none⟩) (c9.other (w.heap.size) (by omega))).trans hHeld.2.2.2.1, (World.cell?_of_block (w := w22) (a := ⟨w.heap.size, 4, none⟩) (c9.other (w.heap.size) (by omega))).trans hHeld.2.2.2.2.1, (World.cell?_of_block (w := w22) (a := ⟨w.heap.size, 5, none⟩) (c9.other (w.heap.size) (by omega))).trans hHeld.2.2.2.2.2.1, (World.cell?_of_block (w := w22) (a := ⟨w.heap.size, 6, none⟩) (c9.other (w.heap.size) (by omega))).trans hHeld.2.2.2.2.2.2.1, (World.cell?_of_block (w := w22) (a := ⟨w.heap.size, 7, none⟩) (c9.other (w.heap.size) (by omega))).trans hHeld.2.2.2.2.2.2.2.1, (World.cell?_of_block (w := w22) (a := ⟨w.heap.size + 1, 0, none⟩) (c9.other (w.heap.size + 1) (by omega))).trans hHeld.2.2.2.2.2.2.2.2.1, (World.cell?_of_block (w := w22) (a := ⟨w.heap.size + 1, 1, none⟩) (c9.other (w.heap.size + 1) (by omega))).trans hHeld.2.2.2.2.2.2.2.2.2⟩ : _ ∧ _ ∧ _ ∧ _ ∧ _ ∧ _ ∧ _ ∧ _ ∧ _ ∧ _)
          go_simp
          clear z0 z1 fz hno c9
          replace q5 := q9
          refine hKK.out _ _ hH2 ?_
          clear hHeld
          intro hHeld
          clear hKK KK
          try simp only [pP, pN, pS, pZ, pC]
          clear hH2
          generalize ((w22.setCell ⟨cq5, 0, none⟩ (.bool (ng T))).setCell ⟨cq5, 1, none⟩ (.slice pt (ln (am T)) (ln (am T)))) = w23 at bT h1 h3 hS ks q6 kt kg q5 hHeld ⊢
          refine wpAnyH_ready (rs := [16]) (by kernel_rfl) (by simp) ?_
          refine cons' rfl (fun KK hKK => ?_)
          have z0 := q6.cell 0
          have z1 := q6.cell 1
          simp only [List.getElem?_toArray, List.getElem?_cons_zero, List.getElem?_cons_succ] at z0 z1
          have fz := fun o => q6.frozen o
          obtain ⟨c9, q9⟩ := q6.set2s (.bool (ng G)) (.slice pg (ln (am G)) (ln (am G)))
          have hno := q6.no (by simp)
          replace h1 := h1.ch c9 hno
          replace h3 := h3.ch c9 hno
          replace hS := hS.ch c9 hno
          replace ks := ks.ch c9 hno
          replace kt := kt.ch c9 hno
          replace kg := kg.ch c9 hno
          replace q5 := q5.ch c9 (by omega)
          replace bT := bT.trans (c9.below (by omega))
          have hH2 := (⟨(World.cell?_of_block (w := w23) (a := ⟨w.heap.size, 0, none⟩) (c9.other (w.heap.size) (by omega))).trans hHeld.1, (World.cell?_of_block (w := w23) (a := ⟨w.heap.size, 1, none⟩) (c9.other (w.heap.size) (by omega))).trans hHeld.2.1, (World.cell?_of_block (w := w23) (a := ⟨w.heap.size, 2, none⟩) (c9.other (w.heap.size) (by omega))).trans hHeld.2.2.1, (World.cell?_of_block (w := w23) (a := ⟨w.heap.size, 3, none⟩) (c9.other (w.heap.size) (by omega))).trans hHeld.2.2.2.1, (World.cell?_of_block (w := w23) (a := ⟨w.heap.size, 4, none⟩) (c9.other (w.heap.size) (by omega))).trans hHeld.2.2.2.2.1, (World.cell?_of_block (w := w23) (a := ⟨w.heap.size, 5, none⟩) (c9.other (w.heap.size) (by omega))).trans hHeld.2.2.2.2.2.1, (World.cell?_of_block (w := w23) (a := ⟨w.heap.size, 6, none⟩) (c9.other (w.heap.size) (by omega))).trans hHeld.2.2.2.2.2.2.1, (World.cell?_of_block (w := w23) (a := ⟨w.heap.size, 7, none⟩) (c9.other (w.heap.size) (by omega))).trans hHeld.2.2.2.2.2.2.2.1, (World.cell?_of_block (w := w23) (a := ⟨w.heap.size + 1, 0, none⟩) (c9.other (w.heap.size + 1) (by omega))).trans hHeld.2.2.2.2.2.2.2.2.1, (World.cell?_of_block (w := w23) (a := ⟨w.heap.size + 1, 1, none⟩) (c9.other (w.heap.size + 1) (by omega))).trans hHeld.2.2.2.2.2.2.2.2.2⟩ : _ ∧ _ ∧ _ ∧ _ ∧ _ ∧ _ ∧ _ ∧ _ ∧ _ ∧ _)
          go_simp
          clear z0 z1 fz hno c9
          replace q6 := q9
          refine hKK.out _ _ hH2 ?_
          clear hHeld
          intro hHeld
          clear hKK KK
          try simp only [pP, pN, pS, pZ, pC]
          clear hH2
          generalize ((w23.setCell ⟨cq6, 0, none⟩ (.bool (ng G))).setCell ⟨cq6, 1, none⟩ (.slice pg (ln (am G)) (ln (am G)))) = w24 at bT h1 h3 hS ks q6 kt kg q5 hHeld ⊢
          refine tk 17 (v := ?_) rfl (Or.inl ⟨by rfl, ?_⟩) ?_
          rotate_left
          · intro w9 hSw
            go_simp
            first | done | with_reducible rfl
          simp only [pP, pN, pS, pZ, pC]
          refine wpAnyH_done (by kernel_rfl) ?_ _
          go_wp2_with fail
          go_meet
          exact ⟨_, cq5, cq6, pt, rfl, rfl, rfl, rfl, q5, kt, hq5ge, bT⟩
        refine consT rfl (fun KK hKK => ?_) ?_
        · skip
          go_simp
          have q5 := Blk.new w20 #[.bool false, .slice none 0 0] 25
          have bA := below_alloc (w := w20) (.cells #[.bool false, .slice none 0 0] 25)
          have hq5ge := bT.size
          have hq5q6 := q6.lt
          have hq5c0 := cell_ltU hHeld.1
          have hq5c1 := cell_ltU hHeld.2.1
          have hq5c2 := cell_ltU hHeld.2.2.1
          have hq5c3 := cell_ltU hHeld.2.2.2.1
          have hq5c4 := cell_ltU hHeld.2.2.2.2.1
          have hq5c5 := cell_ltU hHeld.2.2.2.2.2.1
          have hq5c6 := cell_ltU hHeld.2.2.2.2.2.2.1
          have hq5c7 := cell_ltU hHeld.2.2.2.2.2.2.2.1
          have hq5c8 := cell_ltU hHeld.2.2.2.2.2.2.2.2.1
          have hq5c9 := cell_ltU hHeld.2.2.2.2.2.2.2.2.2
          generalize w20.alloc (.cells #[.bool false, .slice none 0 0] 25) = w25 at q5 bA ⊢
          replace bT := bT.trans (bA.mono bT.size)
          replace h1 := h1.later bA
          replace h3 := h3.later bA
          replace hS := hS.later bA
          replace ks := ks.later bA
          replace q6 := q6.later bA
          replace hHeld := (⟨below_cell bA hHeld.1, below_cell bA hHeld.2.1, below_cell bA hHeld.2.2.1, below_cell bA hHeld.2.2.2.1, below_cell bA hHeld.2.2.2.2.1, below_cell bA hHeld.2.2.2.2.2.1, below_cell bA hHeld.2.2.2.2.2.2.1, below_cell bA hHeld.2.2.2.2.2.2.2.1, below_cell bA hHeld.2.2.2.2.2.2.2.2.1, below_cell bA hHeld.2.2.2.2.2.2.2.2.2⟩ : _ ∧ _ ∧ _ ∧ _ ∧ _ ∧ _ ∧ _ ∧ _ ∧ _ ∧ _)
          clear bA
          refine hKK.out _ _ hHeld ?_
          clear hHeld
          intro hHeld
          clear hKK KK
          try simp only [pP, pN, pS, pZ, pC]
          obtain ⟨cq5, hcc⟩ : ∃ cc, w20.heap.size = cc := ⟨_, rfl⟩
          rw [hcc] at q5 hq5ge hq5q6 hq5c0 hq5c1 hq5c2 hq5c3 hq5c4 hq5c5 hq5c6 hq5c7 hq5c8 hq5c9
          try rw [hcc]
          clear hcc
          refine wpAnyH_ready (rs := [8]) (by kernel_rfl) (by simp) ?_
          refine cons' rfl (fun KK hKK => ?_)
          go_simp
          refine (GF.out _ ps ks h3).mono ?_
          rintro e w26 ⟨pt, pg, rfl, n1, n2⟩
          have bC := n1.below
          replace bT := bT.trans (bC.mono bT.size)
          replace h1 := h1.later bC
          replace h3 := h3.later bC
          replace hS := hS.later bC
          replace ks := ks.later bC
          replace q6 := q6.later bC
          replace q5 := q5.later bC
          replace hHeld := (⟨below_cell bC hHeld.1, below_cell bC hHeld.2.1, below_cell bC hHeld.2.2.1, below_cell bC hHeld.2.2.2.1, below_cell bC hHeld.2.2.2.2.1, below_cell bC hHeld.2.2.2.2.2.1, below_cell bC hHeld.2.2.2.2.2.2.1, below_cell bC hHeld.2.2.2.2.2.2.2.1, below_cell bC hHeld.2.2.2.2.2.2.2.2.1, below_cell bC hHeld.2.2.2.2.2.2.2.2.2⟩ : _ ∧ _ ∧ _ ∧ _ ∧ _ ∧ _ ∧ _ ∧ _ ∧ _ ∧ _)
          clear bC
          go_wp2_with fail
          have kt := n1.seg
          have kg := n2.seg
          clear n1 n2
          refine hKK.out _ _ hHeld ?_
          clear hHeld
          intro hHeld
          clear hKK KK
          try simp only [pP, pN, pS, pZ, pC]
          refine tk 9 (v := ?_) rfl (Or.inl ⟨by rfl, ?_⟩) ?_
          rotate_left
          · intro w9 hSw
            go_simp
            first | done | with_reducible rfl
          simp only [pP, pN, pS, pZ, pC]
          refine tk 10 (v := ?_) rfl (Or.inl ⟨by rfl, ?_⟩) ?_
          rotate_left
          · intro w9 hSw
            go_simp
            first | done | with_reducible rfl
          simp only [pP, pN, pS, pZ, pC]
          refine tk 11 (v := ?_) rfl (Or.inl ⟨by rfl, ?_⟩) ?_
          rotate_left
          · intro w9 hSw
            go_simp
            first | done | with_reducible rfl
          simp only [pP, pN, pS, pZ, pC]
          refine tk 12 (v := ?_) rfl (Or.inl ⟨by rfl, ?_⟩) ?_
          rotate_left
          · intro w9 hSw
            go_simp
            first | done | with_reducible rfl
          simp only [pP, pN, pS, pZ, pC]
          refine wpAnyH_ready (rs := [15]) (by kernel_rfl) (by simp) ?_
          refine cons' rfl (fun KK hKK => ?_)
          have z0 := q5.cell 0
          have z1 := q5.cell 1
          simp only [List.getElem?_toArray, List.getElem?_cons_zero, List.getElem?_cons_succ] at z0 z1
          have fz := fun o => q5.frozen o
          obtain ⟨c9, q9⟩ := q5.set2s (.bool (ng T)) (.slice pt (ln (am T)) (ln (am T)))
          have hno := q5.no (by simp)
          replace h1 := h1.ch c9 hno
          replace h3 := h3.ch c9 hno
          replace hS := hS.ch c9 hno
          replace ks := ks.ch c9 hno
          replace q6 := q6.ch c9 (by omega)
          replace kt := kt.ch c9 hno
          replace kg := kg.ch c9 hno
          replace bT := bT.trans (c9.below (by omega))
          have hH2 := (⟨(World.cell?_of_block (w := w26) (a := ⟨w.heap.size, 0, none⟩) (c9.other (w.heap.size) (by omega))).trans hHeld.1, (World.cell?_of_block (w := w26) (a := ⟨w.heap.size, 1, none⟩) (c9.other (w.heap.size) (by omega))).trans hHeld.2.1, (World.cell?_of_block (w := w26) (a := ⟨w.heap.size, 2, none⟩) (c9.other (w.heap.size) (by omega))).trans hHeld.2.2.1, (World.cell?_of_block (w := w26) (a := ⟨w.heap.size, 3, none⟩) (c9.other (w.heap.size) (by omega))).trans hHeld.2.2.2.1, (World.cell?_of_block (w := w26) (a := ⟨w.heap.size, 4, none⟩) (c9.other (w.heap.size) (by omega))).trans hHeld.2.2.2.2.1, (World.cell?_of_block (w := w26) (a := ⟨w.heap.size, 5, none⟩) (c9.other (w.heap.size) (by omega))).trans hHeld.2.2.2.2.2.1, (World.cell?_of_block (w := w26) (a := ⟨w.heap.size, 6, none⟩) (c9.other (w.heap.size) (by omega))).trans hHeld.2.2.2.2.2.2.1, (World.cell?_of_block (w := w26) (a := ⟨w.heap.size, 7, none⟩) (c9.other (w.heap.size) (by omega))).trans hHeld.2.2.2.2.2.2.2.1, (World.cell?_of_block (w := w26) (a := ⟨w.heap.size + 1, 0, none⟩) (c9.other (w.heap.size + 1) (by omega))).trans hHeld.2.2.2.2.2.2.2.2.1, (World.cell?_of_block (w := w26) (a := ⟨w.heap.size + 1, 1, none⟩) (c9.other (w.heap.size + 1) (by omega))).trans hHeld.2.2.2.2.2.2.2.2.2⟩ : _ ∧ _ ∧ _ ∧ _ ∧ _ ∧ _ ∧ _ ∧ _ ∧ _ ∧ _)
          go_simp
          clear z0 z1 fz hno c9
          replace q5 := q9
          refine hKK.out _ _ hH2 ?_
          clear hHeld
          intro hHeld
          clear hKK KK
          try simp only [pP, pN, pS, pZ, pC]
          clear hH2
          generalize ((w26.setCell ⟨cq5, 0, none⟩ (.bool (ng T))).setCell ⟨cq5, 1, none⟩ (.slice pt (ln (am T)) (ln (am T)))) = w27 at bT h1 h3 hS ks q6 q5 kt kg hHeld ⊢
          refine wpAnyH_ready (rs := [16]) (by kernel_rfl) (by simp) ?_
          refine cons' rfl (fun KK hKK => ?_)
          have z0 := q6.cell 0
          have z1 := q6.cell 1
          simp only [List.getElem?_toArray, List.getElem?_cons_zero, List.getElem?_cons_succ] at z0 z1
          have fz := fun o => q6.frozen o
          obtain ⟨c9, q9⟩ := q6.set2s (.bool (ng G)) (.slice pg (ln (am G)) (ln (am G)))
          have hno := q6.no (by simp)
          replace h1 := h1.ch c9 hno
          replace h3 := h3.ch c9 hno
          replace hS := hS.ch c9 hno
          replace ks := ks.ch c9 hno
          replace q5 := q5.ch c9 (by omega)
          replace kt := kt.ch c9 hno
          replace kg := kg.ch c9 hno
          replace bT := bT.trans (c9.below (by omega))
          have hH2 := (⟨(World.cell?_of_block (w := w27) (a := ⟨w.heap.size, 0, none⟩) (c9.other (w.heap.size) (by omega))).trans hHeld.1, (World.cell?_of_block (w := w27) (a := ⟨w.heap.size, 1, none⟩) (c9.other (w.heap.size) (by omega))).trans hHeld.2.1, (World.cell?_of_block (w := w27) (a := ⟨w.heap.size, 2, none⟩) (c9.other (w.heap.size) (by omega))).trans hHeld.2.2.1, (World.cell?_of_block (w := w27) (a := ⟨w.heap.size, 3, none⟩) (c9.other (w.heap.size) (by omega))).trans hHeld.2.2.2.1, (World.cell?_of_block (w := w27) (a := ⟨w.heap.size, 4, none⟩) (c9.other (w.heap.size) (by omega))).trans hHeld.2.2.2.2.1, (World.cell?_of_block (w := w27) (a := ⟨w.heap.size, 5, none⟩) (c9.other (w.heap.size) (by omega))).trans hHeld.2.2.2.2.2.1, (World.cell?_of_block (w := w27) (a := ⟨w.heap.size, 6, none⟩) (c9.other (w.heap.size) (by omega))).trans hHeld.2.2.2.2.2.2.1, (World.cell?_of_block (w := w27) (a := ⟨w.heap.size, 7, none⟩) (c9.other (w.heap.size) (by omega))).trans hHeld.2.2.2.2.2.2.2.1, (World.cell?_of_block (w := w27) (a := ⟨w.heap.size + 1, 0, none⟩) (c9.other (w.heap.size + 1) (by omega))).trans hHeld.2.2.2.2.2.2.2.2.1, (World.cell?_of_block (w := w27) (a := ⟨w.heap.size + 1, 1, none⟩) (c9.other (w.heap.size + 1) (by omega))).trans hHeld.2.2.2.2.2.2.2.2.2⟩ : _ ∧ _ ∧ _ ∧ _ ∧ _ ∧ _ ∧ _ ∧ _ ∧ _ ∧ _)
          go_simp
          clear z0 z1 fz hno c9
          replace q6 := q9
          refine hKK.out _ _ hH2 ?_
          clear hHeld
          intro hHeld
          clear hKK KK
          try simp only [pP, pN, pS, pZ, pC]
          clear hH2
          generalize ((w27.setCell ⟨cq6, 0, none⟩ (.bool (ng G))).setCell ⟨cq6, 1, none⟩ (.slice pg (ln (am G)) (ln (am G)))) = w28 at bT h1 h3 hS ks q6 q5 kt kg hHeld ⊢
          refine tk 17 (v := ?_) rfl (Or.inl ⟨by rfl, ?_⟩) ?_
          rotate_left
          · intro w9 hSw
            go_simp
            first | done | with_reducible rfl
          simp only [pP, pN, pS, pZ, pC]
          refine wpAnyH_done (by kernel_rfl) ?_ _
          go_wp2_with fail
          go_meet
          exact ⟨_, cq5, cq6, pt, rfl, rfl, rfl, rfl, q5, kt, hq5ge, bT⟩
        exact AllReadyH.nil
      exact AllReadyH.nil
    refine consT rfl (fun KK hKK => ?_) ?_
    · skip
      go_simp
      have q5 := Blk.new w0F #[.bool false, .slice none 0 0] 25
      have bA := below_alloc (w := w0F) (.cells #[.bool false, .slice none 0 0] 25)
      have hq5ge := bT.size
      have hq5c0 := cell_ltU hHeld.1
      have hq5c1 := cell_ltU hHeld.2.1
      have hq5c2 := cell_ltU hHeld.2.2.1
      have hq5c3 := cell_ltU hHeld.2.2.2.1
      have hq5c4 := cell_ltU hHeld.2.2.2.2.1
      have hq5c5 := cell_ltU hHeld.2.2.2.2.2.1
      have hq5c6 := cell_ltU hHeld.2.2.2.2.2.2.1
      have hq5c7 := cell_ltU hHeld.2.2.2.2.2.2.2.1
      have hq5c8 := cell_ltU hHeld.2.2.2.2.2.2.2.2.1
      have hq5c9 := cell_ltU hHeld.2.2.2.2.2.2.2.2.2
      generalize w0F.alloc (.cells #[.bool false, .slice none 0 0] 25) = w29 at q5 bA ⊢
      replace bT := bT.trans (bA.mono bT.size)
      replace h1 := h1.later bA
      replace h3 := h3.later bA
      replace hS := hS.later bA
      replace hHeld := (⟨below_cell bA hHeld.1, below_cell bA hHeld.2.1, below_cell bA hHeld.2.2.1, below_cell bA hHeld.2.2.2.1, below_cell bA hHeld.2.2.2.2.1, below_cell bA hHeld.2.2.2.2.2.1, below_cell bA hHeld.2.2.2.2.2.2.1, below_cell bA hHeld.2.2.2.2.2.2.2.1, below_cell bA hHeld.2.2.2.2.2.2.2.2.1, below_cell bA hHeld.2.2.2.2.2.2.2.2.2⟩ : _ ∧ _ ∧ _ ∧ _ ∧ _ ∧ _ ∧ _ ∧ _ ∧ _ ∧ _)
      clear bA
      refine hKK.out _ _ hHeld ?_
      clear hHeld
      intro hHeld
      clear hKK KK
      try simp only [pP, pN, pS, pZ, pC]
      obtain ⟨cq5, hcc⟩ : ∃ cc, w0F.heap.size = cc := ⟨_, rfl⟩
      rw [hcc] at q5 hq5ge hq5c0 hq5c1 hq5c2 hq5c3 hq5c4 hq5c5 hq5c6 hq5c7 hq5c8 hq5c9
      try rw [hcc]
      clear hcc
      refine wpAnyH_ready (rs := [4, 14]) (by kernel_rfl) (by simp) ?_
      refine consT rfl (fun KK hKK => ?_) ?_
      · skip
        go_simp
        refine (GS.out _ hS h1).mono ?_
        rintro e w30 ⟨ps, rfl, n1⟩
        have bC := n1.below
        replace bT := bT.trans (bC.mono bT.size)
        replace h1 := h1.later bC
        replace h3 := h3.later bC
        replace hS := hS.later bC
        replace q5 := q5.later bC
        replace hHeld := (⟨below_cell bC hHeld.1, below_cell bC hHeld.2.1, below_cell bC hHeld.2.2.1, below_cell bC hHeld.2.2.2.1, below_cell bC hHeld.2.2.2.2.1, below_cell bC hHeld.2.2.2.2.2.1, below_cell bC hHeld.2.2.2.2.2.2.1, below_cell bC hHeld.2.2.2.2.2.2.2.1, below_cell bC hHeld.2.2.2.2.2.2.2.2.1, below_cell bC hHeld.2.2.2.2.2.2.2.2.2⟩ : _ ∧ _ ∧ _ ∧ _ ∧ _ ∧ _ ∧ _ ∧ _ ∧ _ ∧ _)
        clear bC
        go_wp2_with fail
        have ks := n1.seg
        clear n1
        refine hKK.out _ _ hHeld ?_
        clear hHeld
        intro hHeld
        clear hKK KK
        try simp only [pP, pN, pS, pZ, pC]
        refine wpAnyH_ready (rs := [8, 14]) (by kernel_rfl) (by simp) ?_
        refine consT rfl (fun KK hKK => ?_) ?_
        · skip
          go_simp
          refine (GF.out _ ps ks h3).mono ?_
          rintro e w31 ⟨pt, pg, rfl, n1, n2⟩
          have bC := n1.below
          replace bT := bT.trans (bC.mono bT.size)
          replace h1 := h1.later bC
          replace h3 := h3.later bC
          replace hS := hS.later bC
          replace q5 := q5.later bC
          replace ks := ks.later bC
          replace hHeld := (⟨below_cell bC hHeld.1, below_cell bC hHeld.2.1, below_cell bC hHeld.2.2.1, below_cell bC hHeld.2.2.2.1, below_cell bC hHeld.2.2.2.2.1, below_cell bC hHeld.2.2.2.2.2.1, below_cell bC hHeld.2.2.2.2.2.2.1, below_cell bC hHeld.2.2.2.2.2.2.2.1, below_cell bC hHeld.2.2.2.2.2.2.2.2.1, below_cell bC hHeld.2.2.2.2.2.2.2.2.2⟩ : _ ∧ _ ∧ _ ∧ _ ∧ _ ∧ _ ∧ _ ∧ _ ∧ _ ∧ _)
          clear bC
          go_wp2_with fail
          have kt := n1.seg
          have kg := n2.seg
          clear n1 n2
          refine hKK.out _ _ hHeld ?_
          clear hHeld
          intro hHeld
          clear hKK KK
          try simp only [pP, pN, pS, pZ, pC]
          refine tk 9 (v := ?_) rfl (Or.inl ⟨by rfl, ?_⟩) ?_
          rotate_left
          · intro w9 hSw
            go_simp
            first | done | with_reducible rfl
          simp only [pP, pN, pS, pZ, pC]
          refine tk 10 (v := ?_) rfl (Or.inl ⟨by rfl, ?_⟩) ?_
          rotate_left
          · intro w9 hSw
            go_simp
            first | done | with_reducible rfl
          simp only [pP, pN, pS, pZ, pC]
          refine tk 11 (v := ?_) rfl (Or.inl ⟨by rfl, ?_⟩) ?_
          rotate_left
          · intro w9 hSw
            go_simp
            first | done | with_reducible rfl
          simp only [pP, pN, pS, pZ, pC]
          refine tk 12 (v := ?_) rfl (Or.inl ⟨by rfl, ?_⟩) ?_
          rotate_left
          · intro w9 hSw
            go_simp
            first | done | with_reducible rfl
          simp only [pP, pN, pS, pZ, pC]
          refine wpAnyH_ready (rs := [14]) (by kernel_rfl) (by simp) ?_
          refine cons' rfl (fun KK hKK => ?_)
          go_simp
          have q6 := Blk.new w31 #[.bool false, .slice none 0 0] 25
          have bA := below_alloc (w := w31) (.cells #[.bool false, .slice none 0 0] 25)
          have hq6ge := bT.size
          have hq6q5 := q5.lt
          have hq6c0 := cell_ltU hHeld.1
          have hq6c1 := cell_ltU hHeld.2.1
          have hq6c2 := cell_ltU hHeld.2.2.1
          have hq6c3 := cell_ltU hHeld.2.2.2.1
          have hq6c4 := cell_ltU hHeld.2.2.2.2.1
          have hq6c5 := cell_ltU hHeld.2.2.2.2.2.1
          have hq6c6 := cell_ltU hHeld.2.2.2.2.2.2.1
          have hq6c7 := cell_ltU hHeld.2.2.2.2.2.2.2.1
          have hq6c8 := cell_ltU hHeld.2.2.2.2.2.2.2.2.1
          have hq6c9 := cell_ltU hHeld.2.2.2.2.2.2.2.2.2
          generalize w31.alloc (.cells #[.bool false, .slice none 0 0] 25) = w32 at q6 bA ⊢
          replace bT := bT.trans (bA.mono bT.size)
          replace h1 := h1.later bA
          replace h3 := h3.later bA
          replace hS := hS.later bA
          replace q5 := q5.later bA
          replace ks := ks.later bA
          replace kt := kt.later bA
          replace kg := kg.later bA
          replace hHeld := (⟨below_cell bA hHeld.1, below_cell bA hHeld.2.1, below_cell bA hHeld.2.2.1, below_cell bA hHeld.2.2.2.1, below_cell bA hHeld.2.2.2.2.1, below_cell bA hHeld.2.2.2.2.2.1, below_cell bA hHeld.2.2.2.2.2.2.1, below_cell bA hHeld.2.2.2.2.2.2.2.1, below_cell bA hHeld.2.2.2.2.2.2.2.2.1, below_cell bA hHeld.2.2.2.2.2.2.2.2.2⟩ : _ ∧ _ ∧ _ ∧ _ ∧ _ ∧ _ ∧ _ ∧ _ ∧ _ ∧ _)
          clear bA
          refine hKK.out _ _ hHeld ?_
          clear hHeld
          intro hHeld
          clear hKK KK
          try simp only [pP, pN, pS, pZ, pC]
          obtain ⟨cq6, hcc⟩ : ∃ cc, w31.heap.size = cc := ⟨_, rfl⟩
          rw [hcc] at q6 hq6ge hq6q5 hq6c0 hq6c1 hq6c2 hq6c3 hq6c4 hq6c5 hq6c6 hq6c7 hq6c8 hq6c9
          try rw [hcc]
          clear hcc
          refine wpAnyH_ready (rs := [15]) (by kernel_rfl) (by simp) ?_
          refine cons' rfl (fun KK hKK => ?_)
          have z0 := q5.cell 0
          have z1 := q5.cell 1
          simp only [List.getElem?_toArray, List.getElem?_cons_zero, List.getElem?_cons_succ] at z0 z1
          have fz := fun o => q5.frozen o
          obtain ⟨c9, q9⟩ := q5.set2s (.bool (ng T)) (.slice pt (ln (am T)) (ln (am T)))
          have hno := q5.no (by simp)
          replace h1 := h1.ch c9 hno
          replace h3 := h3.ch c9 hno
          replace hS := hS.ch c9 hno
          replace ks := ks.ch c9 hno
          replace kt := kt.ch c9 hno
          replace kg := kg.ch c9 hno
          replace q6 := q6.ch c9 (by omega)
          replace bT := bT.trans (c9.below (by omega))
          have hH2 := (⟨(World.cell?_of_block (w := w32) (a := ⟨w.heap.size, 0, none⟩) (c9.other (w.heap.size) (by omega))).trans hHeld.1, (World.cell?_of_block (w := w32) (a := ⟨w.heap.size, 1, none⟩) (c9.other (w.heap.size) (by omega))).trans hHeld.2.1, (World.cell?_of_block (w := w32) (a := ⟨w.heap.size, 2, none⟩) (c9.other (w.heap.size) (by omega))).trans hHeld.2.2.1, (World.cell?_of_block (w := w32) (a := ⟨w.heap.size, 3, none⟩) (c9.other (w.heap.size) (by omega))).trans hHeld.2.2.2.1, (World.cell?_of_block (w := w32) (a := ⟨w.heap.size, 4, none⟩) (c9.other (w.heap.size) (by omega))).trans hHeld.2.2.2.2.1, (World.cell?_of_block (w := w32) (a := ⟨w.heap.size, 5, none⟩) (c9.other (w.heap.size) (by omega))).trans hHeld.2.2.2.2.2.1, (World.cell?_of_block (w := w32) (a := ⟨w.heap.size, 6, none⟩) (c9.other (w.heap.size) (by omega))).trans hHeld.2.2.2.2.2.2.1, (World.cell?_of_block (w := w32) (a := ⟨w.heap.size, 7, none⟩) (c9.other (w.heap.size) (by omega))).trans hHeld.2.2.2.2.2.2.2.1, (World.cell?_of_block (w := w32) (a := ⟨w.heap.size + 1, 0, none⟩) (c9.other (w.heap.size + 1) (by omega))).trans hHeld.2.2.2.2.2.2.2.2.1, (World.cell?_of_block (w := w32) (a := ⟨w.heap.size + 1, 1, none⟩) (c9.other (w.heap.size + 1) (by omega))).trans hHeld.2.2.2.2.2.2.2.2.2⟩ : _ ∧ _ ∧ _ ∧ _ ∧ _ ∧ _ ∧ _ ∧ _ ∧ _ ∧ _)
          go_simp
          clear z0 z1 fz hno c9
          replace q5 := q9
          refine hKK.out _ _ hH2 ?_
          clear hHeld
          intro hHeld
          clear hKK KK
          try simp only [pP, pN, pS, pZ, pC]
          clear hH2
          generalize ((w32.setCell ⟨cq5, 0, none⟩ (.bool (ng T))).setCell ⟨cq5, 1, none⟩ (.slice pt (ln (am T)) (ln (am T)))) = w33 at bT h1 h3 hS q5 ks kt kg q6 hHeld ⊢
          refine wpAnyH_ready (rs := [16]) (by kernel_rfl) (by simp) ?_
          refine cons' rfl (fun KK hKK => ?_)
          have z0 := q6.cell 0
          have z1 := q6.cell 1
          simp only [List.getElem?_toArray, List.getElem?_cons_zero, List.getElem?_cons_succ] at z0 z1
          have fz := fun o => q6.frozen o
          obtain ⟨c9, q9⟩ := q6.set2s (.bool (ng G)) (.slice pg (ln (am G)) (ln (am G)))
          have hno := q6.no (by simp)
          replace h1 := h1.ch c9 hno
          replace h3 := h3.ch c9 hno
          replace hS := hS.ch c9 hno
          replace q5 := q5.ch c9 (by omega)
          replace ks := ks.ch c9 hno
          replace kt := kt.ch c9 hno
          replace kg := kg.ch c9 hno
          replace bT := bT.trans (c9.below (by omega))
          have hH2 := (⟨(World.cell?_of_block (w := w33) (a := ⟨w.heap.size, 0, none⟩) (c9.other (w.heap.size) (by omega))).trans hHeld.1, (World.cell?_of_block (w := w33) (a := ⟨w.heap.size, 1, none⟩) (c9.other (w.heap.size) (by omega))).trans hHeld.2.1, (World.cell?_of_block (w := w33) (a := ⟨w.heap.size, 2, none⟩) (c9.other (w.heap.size) (by omega))).trans hHeld.2.2.1, (World.cell?_of_block (w := w33) (a := ⟨w.heap.size, 3, none⟩) (c9.other (w.heap.size) (by omega))).trans hHeld.2.2.2.1, (World.cell?_of_block (w := w33) (a := ⟨w.heap.size, 4, none⟩) (c9.other (w.heap.size) (by omega))).trans hHeld.2.2.2.2.1, (World.cell?_of_block (w := w33) (a := ⟨w.heap.size, 5, none⟩) (c9.other (w.heap.size) (by omega))).trans hHeld.2.2.2.2.2.1, (World.cell?_of_block (w := w33) (a := ⟨w.heap.size, 6, none⟩) (c9.other (w.heap.size) (by omega))).trans hHeld.2.2.2.2.2.2.1, (World.cell?_of_block (w := w33) (a := ⟨w.heap.size, 7, none⟩) (c9.other (w.heap.size) (by omega))).trans hHeld.2.2.2.2.2.2.2.1, (World.cell?_of_block (w := w33) (a := ⟨w.heap.size + 1, 0, none⟩) (c9.other (w.heap.size + 1) (by omega))).trans hHeld.2.2.2.2.2.2.2.2.1, (World.cell?_of_block (w := w33) (a := ⟨w.heap.size + 1, 1, none⟩) (c9.other (w.heap.size + 1) (by omega))).trans hHeld.2.2.2.2.2.2.2.2.2⟩ : _ ∧ _ ∧ _ ∧ _ ∧ _ ∧ _ ∧ _ ∧ _ ∧ _ ∧ _)
          go_simp
          clear z0 z1 fz hno c9
          replace q6 := q9
          refine hKK.out _ _ hH2 ?_
          clear hHeld
          intro hHeld
          clear hKK KK
          try simp only [pP, pN, pS, pZ, pC]
          clear hH2
          generalize ((w33.setCell ⟨cq6, 0, none⟩ (.bool (ng G))).setCell ⟨cq6, 1, none⟩ (.slice pg (ln (am G)) (ln (am G)))) = w34 at bT h1 h3 hS q5 ks kt kg q6 hHeld ⊢
          refine tk 17 (v := ?_) rfl (Or.inl ⟨by rfl, ?_⟩) ?_
          rotate_left
          · intro w9 hSw
            go_simp
            first | done | with_reducible rfl
          simp only [pP, pN, pS, pZ, pC]
          refine wpAnyH_done (by kernel_rfl) ?_ _
          go_wp2_with fail
          go_meet
          exact ⟨_, cq5, cq6, pt, rfl, rfl, rfl, rfl, q5, kt, hq5ge, bT⟩
        refine consT rfl (fun KK hKK => ?_) ?_
        · skip
          go_simp
          have q6 := Blk.new w30 #[.bool false, .slice none 0 0] 25
          have bA := below_alloc (w := w30) (.cells #[.bool false, .slice none 0 0] 25)
          have hq6ge := bT.size
          have hq6q5 := q5.lt
          have hq6c0 := cell_ltU hHeld.1
          have hq6c1 := cell_ltU hHeld.2.1
          have hq6c2 := cell_ltU hHeld.2.2.1
          have hq6c3 := cell_ltU hHeld.2.2.2.1
          have hq6c4 := cell_ltU hHeld.2.2.2.2.1
          have hq6c5 := cell_ltU hHeld.2.2.2.2.2.1
          have hq6c6 := cell_ltU hHeld.2.2.2.2.2.2.1
          have hq6c7 := cell_ltU hHeld.2.2.2.2.2.2.2.1
          have hq6c8 := cell_ltU hHeld.2.2.2.2.2.2.2.2.1
          have hq6c9 := cell_ltU hHeld.2.2.2.2.2.2.2.2.2
          generalize w30.alloc (.cells #[.bool false, .slice none 0 0] 25) = w35 at q6 bA ⊢
          replace bT := bT.trans (bA.mono bT.size)
          replace h1 := h1.later bA
          replace h3 := h3.later bA
          replace hS := hS.later bA
          replace q5 := q5.later bA
          replace ks := ks.later bA
          replace hHeld := (⟨below_cell bA hHeld.1, below_cell bA hHeld.2.1, below_cell bA hHeld.2.2.1, below_cell bA hHeld.2.2.2.1, below_cell bA hHeld.2.2.2.2.1, below_cell bA hHeld.2.2.2.2.2.1, below_cell bA hHeld.2.2.2.2.2.2.1, below_cell bA hHeld.2.2.2.2.2.2.2.1, below_cell bA hHeld.2.2.2.2.2.2.2.2.1, below_cell bA hHeld.2.2.2.2.2.2.2.2.2⟩ : _ ∧ _ ∧ _ ∧ _ ∧ _ ∧ _ ∧ _ ∧ _ ∧ _ ∧ _)
          clear bA
          refine hKK.out _ _ hHeld ?_
          clear hHeld
          intro hHeld
          clear hKK KK
          try simp only [pP, pN, pS, pZ, pC]
          obtain ⟨cq6, hcc⟩ : ∃ cc, w30.heap.size = cc := ⟨_, rfl⟩
          rw [hcc] at q6 hq6ge hq6q5 hq6c0 hq6c1 hq6c2 hq6c3 hq6c4 hq6c5 hq6c6 hq6c7 hq6c8 hq6c9
          try rw [hcc]
          clear hcc
          refine wpAnyH_ready (rs := [8]) (by kernel_rfl) (by simp) ?_
          refine cons' rfl (fun KK hKK => ?_)
          go_simp
          refine (GF.out _ ps ks h3).mono ?_
          rintro e w36 ⟨pt, pg, rfl, n1, n2⟩
          have bC := n1.below
          replace bT := bT.trans (bC.mono bT.size)
          replace h1 := h1.later bC
          replace h3 := h3.later bC
          replace hS := hS.later bC
          replace q5 := q5.later bC
          replace ks := ks.later bC
          replace q6 := q6.later bC
          replace hHeld := (⟨below_cell bC hHeld.1, below_cell bC hHeld.2.1, below_cell bC hHeld.2.2.1, below_cell bC hHeld.2.2.2.1, below_cell bC hHeld.2.2.2.2.1, below_cell bC hHeld.2.2.2.2.2.1, below_cell bC hHeld.2.2.2.2.2.2.1, below_cell bC hHeld.2.2.2.2.2.2.2.1, below_cell bC hHeld.2.2.2.2.2.2.2.2.1, below_cell bC hHeld.2.2.2.2.2.2.2.2.2⟩ : _ ∧ _ ∧ _ ∧ _ ∧ _ ∧ _ ∧ _ ∧ _ ∧ _ ∧ _)
          clear bC
          go_wp2_with fail
          have kt := n1.seg
          have kg := n2.seg
          clear n1 n2
          refine hKK.out _ _ hHeld ?_
          clear hHeld
          intro hHeld
          clear hKK KK
          try simp only [pP, pN, pS, pZ, pC]
          refine tk 9 (v := ?_) rfl (Or.inl ⟨by rfl, ?_⟩) ?_
          rotate_left
          · intro w9 hSw
            go_simp
            first | done | with_reducible rfl
          simp only [pP, pN, pS, pZ, pC]
          refine tk 10 (v := ?_) rfl (Or.inl ⟨by rfl, ?_⟩) ?_
          rotate_left
          · intro w9 hSw
            go_simp
            first | done | with_reducible rfl
          simp only [pP, pN, pS, pZ, pC]
          refine tk 11 (v := ?_) rfl (Or.inl ⟨by rfl, ?_⟩) ?_
          rotate_left
          · intro w9 hSw
            go_simp
            first | done | with_reducible rfl
          simp only [pP, pN, pS, pZ, pC]
          refine tk 12 (v := ?_) rfl (Or.inl ⟨by rfl, ?_⟩) ?_
          rotate_left
          · intro w9 hSw
            go_simp
            first | done | with_reducible rfl
          simp only [pP, pN, pS, pZ, pC]
          refine wpAnyH_ready (rs := [15]) (by kernel_rfl) (by simp) ?_
          refine cons' rfl (fun KK hKK => ?_)
          have z0 := q5.cell 0
          have z1 := q5.cell 1
          simp only [List.getElem?_toArray, List.getElem?_cons_zero, List.getElem?_cons_succ] at z0 z1
          have fz := fun o => q5.frozen o
          obtain ⟨c9, q9⟩ := q5.set2s (.bool (ng T)) (.slice pt (ln (am T)) (ln (am T)))
          have hno := q5.no (by simp)
          replace h1 := h1.ch c9 hno
          replace h3 := h3.ch c9 hno
          replace hS := hS.ch c9 hno
          replace ks := ks.ch c9 hno
          replace q6 := q6.ch c9 (by omega)
          replace kt := kt.ch c9 hno
          replace kg := kg.ch c9 hno
          replace bT := bT.trans (c9.below (by omega))
          have hH2 := (⟨(World.cell?_of_block (w := w36) (a := ⟨w.heap.size, 0, none⟩) (c9.other (w.heap.size) (by omega))).trans hHeld.1, (World.cell?_of_block (w := w36) (a := ⟨w.heap.size, 1, none⟩) (c9.other (w.heap.size) (by omega))).trans hHeld.2.1, (World.cell?_of_block (w := w36) (a := ⟨w.heap.size, 2, none⟩) (c9.other (w.heap.size) (by omega))).trans hHeld.2.2.1, (World.cell?_of_block (w := w36) (a := ⟨w.heap.size, 3, none⟩) (c9.other (w.heap.size) (by omega))).trans hHeld.2.2.2.1, (World.cell?_of_block (w := w36) (a := ⟨w.heap.size, 4, none⟩) (c9.other (w.heap.size) (by omega))).trans hHeld.2.2.2.2.1, (World.cell?_of_block (w := w36) (a := ⟨w.heap.size, 5, none⟩) (c9.other (w.heap.size) (by omega))).trans hHeld.2.2.2.2.2.1, (World.cell?_of_block (w := w36) (a := ⟨w.heap.size, 6, none⟩) (c9.other (w.heap.size) (by omega))).trans hHeld.2.2.2.2.2.2.1, (World.cell?_of_block (w := w36) (a := ⟨w.heap.size, 7, none⟩) (c9.other (w.heap.size) (by omega))).trans hHeld.2.2.2.2.2.2.2.1, (World.cell?_of_block (w := w36) (a := ⟨w.heap.size + 1, 0, none⟩) (c9.other (w.heap.size + 1) (by omega))).trans hHeld.2.2.2.2.2.2.2.2.1, (World.cell?_of_block (w := w36) (a := ⟨w.heap.size + 1, 1, none⟩) (c9.other (w.heap.size + 1) (by omega))).trans hHeld.2.2.2.2.2.2.2.2.2⟩ : _ ∧ _ ∧ _ ∧ _ ∧ _ ∧ _ ∧ _ ∧ _ ∧ _ ∧ _)
          go_simp
          clear z0 z1 fz hno c9
          replace q5 := q9
          refine hKK.out _ _ hH2 ?_
          clear hHeld
          intro hHeld
          clear hKK KK
          try simp only [pP, pN, pS, pZ, pC]
          clear hH2
          generalize ((w36.setCell ⟨cq5, 0, none⟩ (.bool (ng T))).setCell ⟨cq5, 1, none⟩ (.slice pt (ln (am T)) (ln (am T)))) = w37 at bT h1 h3 hS q5 ks q6 kt kg hHeld ⊢
          refine wpAnyH_ready (rs := [16]) (by kernel_rfl) (by simp) ?_
          refine cons' rfl (fun KK hKK => ?_)
          have z0 := q6.cell 0
          have z1 := q6.cell 1
          simp only [List.getElem?_toArray, List.getElem?_cons_zero, List.getElem?_cons_succ] at z0 z1
          have fz := fun o => q6.frozen o
          obtain ⟨c9, q9⟩ := q6.set2s (.bool (ng G)) (.slice pg (ln (am G)) (ln (am G)))
          have hno := q6.no (by simp)
          replace h1 := h1.ch c9 hno
          replace h3 := h3.ch c9 hno
          replace hS := hS.ch c9 hno
          replace q5 := q5.ch c9 (by omega)
          replace ks := ks.ch c9 hno
          replace kt := kt.ch c9 hno
          replace kg := kg.ch c9 hno
          replace bT := bT.trans (c9.below (by omega))
          have hH2 := (⟨(World.cell?_of_block (w := w37) (a := ⟨w.heap.size, 0, none⟩) (c9.other (w.heap.size) (by omega))).trans hHeld.1, (World.cell?_of_block (w := w37) (a := ⟨w.heap.size, 1, none⟩) (c9.other (w.heap.size) (by omega))).trans hHeld.2.1, (World.cell?_of_block (w := w37) (a := ⟨w.heap.size, 2, none⟩) (c9.other (w.heap.size) (by omega))).trans hHeld.2.2.1, (World.cell?_of_block (w := w37) (a := ⟨w.heap.size, 3, none⟩) (c9.other (w.heap.size) (by omega))).trans hHeld.2.2.2.1, (World.cell?_of_block (w := w37) (a := ⟨w.heap.size, 4, none⟩) (c9.other (w.heap.size) (by omega))).trans hHeld.2.2.2.2.1, (World.cell?_of_block (w := w37) (a := ⟨w.heap.size, 5, none⟩) (c9.other (w.heap.size) (by omega))).trans hHeld.2.2.2.2.2.1, (World.cell?_of_block (w := w37) (a := ⟨w.heap.size, 6, none⟩) (c9.other (w.heap.size) (by omega))).trans hHeld.2.2.2.2.2.2.1, (World.cell?_of_block (w := w37) (a := ⟨w.heap.size, 7, none⟩) (c9.other (w.heap.size) (by omega))).trans hHeld.2.2.2.2.2.2.2.1, (World.cell?_of_block (w := w37) (a := ⟨w.heap.size + 1, 0, none⟩) (c9.other (w.heap.size + 1) (by omega))).trans hHeld.2.2.2.2.2.2.2.2.1, (World.cell?_of_block (w := w37) (a := ⟨w.heap.size + 1, 1, none⟩) (c9.other (w.heap.size + 1) (by omega))).trans hHeld.2.2.2.2.2.2.2.2.2⟩ : _ ∧ _ ∧ _ ∧ _ ∧ _ ∧ _ ∧ _ ∧ _ ∧ _ ∧ _)
          go_simp
          clear z0 z1 fz hno c9
          replace q6 := q9
          refine hKK.out _ _ hH2 ?_
          clear hHeld
          intro hHeld
          clear hKK KK
          try simp only [pP, pN, pS, pZ, pC]
          clear hH2
          generalize ((w37.setCell ⟨cq6, 0, none⟩ (.bool (ng G))).setCell ⟨cq6, 1, none⟩ (.slice pg (ln (am G)) (ln (am G)))) = w38 at bT h1 h3 hS q5 ks q6 kt kg hHeld ⊢
          refine tk 17 (v := ?_) rfl (Or.inl ⟨by rfl, ?_⟩) ?_
          rotate_left
          · intro w9 hSw
            go_simp
            first | done | with_reducible rfl
          simp only [pP, pN, pS, pZ, pC]
          refine wpAnyH_done (by kernel_rfl) ?_ _
          go_wp2_with fail
          go_meet
          exact ⟨_, cq5, cq6, pt, rfl, rfl, rfl, rfl, q5, kt, hq5ge, bT⟩
        exact AllReadyH.nil
      refine consT rfl (fun KK hKK => ?_) ?_
      · skip
        go_simp
        have q6 := Blk.new w29 #[.bool false, .slice none 0 0] 25
        have bA := below_alloc (w := w29) (.cells #[.bool false, .slice none 0 0] 25)
        have hq6ge := bT.size
        have hq6q5 := q5.lt
        have hq6c0 := cell_ltU hHeld.1
        have hq6c1 := cell_ltU hHeld.2.1
        have hq6c2 := cell_ltU hHeld.2.2.1
        have hq6c3 := cell_ltU hHeld.2.2.2.1
        have hq6c4 := cell_ltU hHeld.2.2.2.2.1
        have hq6c5 := cell_ltU hHeld.2.2.2.2.2.1
        have hq6c6 := cell_ltU hHeld.2.2.2.2.2.2.1
        have hq6c7 := cell_ltU hHeld.2.2.2.2.2.2.2.1
        have hq6c8 := cell_ltU hHeld.2.2.2.2.2.2.2.2.1
        have hq6c9 := cell_ltU hHeld.2.2.2.2.2.2.2.2.2
        generalize w29.alloc (.cells #[.bool false, .slice none 0 0] 25) = w39 at q6 bA ⊢
        replace bT := bT.trans (bA.mono bT.size)
        replace h1 := h1.later bA
        replace h3 := h3.later bA
        replace hS := hS.later bA
        replace q5 := q5.later bA
        replace hHeld := (⟨below_cell bA hHeld.1, below_cell bA hHeld.2.1, below_cell bA hHeld.2.2.1, below_cell bA hHeld.2.2.2.1, below_cell bA hHeld.2.2.2.2.1, below_cell bA hHeld.2.2.2.2.2.1, below_cell bA hHeld.2.2.2.2.2.2.1, below_cell bA hHeld.2.2.2.2.2.2.2.1, below_cell bA hHeld.2.2.2.2.2.2.2.2.1, below_cell bA hHeld.2.2.2.2.2.2.2.2.2⟩ : _ ∧ _ ∧ _ ∧ _ ∧ _ ∧ _ ∧ _ ∧ _ ∧ _ ∧ _)
        clear bA
        refine hKK.out _ _ hHeld ?_
        clear hHeld
        intro hHeld
        clear hKK KK
        try simp only [pP, pN, pS, pZ, pC]
        obtain ⟨cq6, hcc⟩ : ∃ cc, w29.heap.size = cc := ⟨_, rfl⟩
        rw [hcc] at q6 hq6ge hq6q5 hq6c0 hq6c1 hq6c2 hq6c3 hq6c4 hq6c5 hq6c6 hq6c7 hq6c8 hq6c9
        try rw [hcc]
        clear hcc
        refine wpAnyH_ready (rs := [4]) (by kernel_rfl) (by simp) ?_
        refine cons' rfl (fun KK hKK => ?_)
        go_simp
        refine (GS.out _ hS h1).mono ?_
        rintro e w40 ⟨ps, rfl, n1⟩
        have bC := n1.below
        replace bT := bT.trans (bC.mono bT.size)
        replace h1 := h1.later bC
        replace h3 := h3.later bC
        replace hS := hS.later bC
        replace q5 := q5.later bC
        replace q6 := q6.later bC
        replace hHeld := (⟨below_cell bC hHeld.1, below_cell bC hHeld.2.1, below_cell bC hHeld.2.2.1, below_cell bC hHeld.2.2.2.1, below_cell bC hHeld.2.2.2.2.1, below_cell bC hHeld.2.2.2.2.2.1, below_cell bC hHeld.2.2.2.2.2.2.1, below_cell bC hHeld.2.2.2.2.2.2.2.1, below_cell bC hHeld.2.2.2.2.2.2.2.2.1, below_cell bC hHeld.2.2.2.2.2.2.2.2.2⟩ : _ ∧ _ ∧ _ ∧ _ ∧ _ ∧ _ ∧ _ ∧ _ ∧ _ ∧ _)
        clear bC
        go_wp2_with fail
        have ks := n1.seg
        clear n1
        refine hKK.out _ _ hHeld ?_
        clear hHeld
        intro hHeld
        clear hKK KK
        try simp only [pP, pN, pS, pZ, pC]
        refine wpAnyH_ready (rs := [8]) (by kernel_rfl) (by simp) ?_
        refine cons' rfl (fun KK hKK => ?_)
        go_simp
        refine (GF.out _ ps ks h3).mono ?_
        rintro e w41 ⟨pt, pg, rfl, n1, n2⟩
        have bC := n1.below
        replace bT := bT.trans (bC.mono bT.size)
        replace h1 := h1.later bC
        replace h3 := h3.later bC
        replace hS := hS.later bC
        replace q5 := q5.later bC
        replace q6 := q6.later bC
        replace ks := ks.later bC
        replace hHeld := (⟨below_cell bC hHeld.1, below_cell bC hHeld.2.1, below_cell bC hHeld.2.2.1, below_cell bC hHeld.2.2.2.1, below_cell bC hHeld.2.2.2.2.1, below_cell bC hHeld.2.2.2.2.2.1, below_cell bC hHeld.2.2.2.2.2.2.1, below_cell bC hHeld.2.2.2.2.2.2.2.1, below_cell bC hHeld.2.2.2.2.2.2.2.2.1, below_cell bC hHeld.2.2.2.2.2.2.2.2.2⟩ : _ ∧ _ ∧ _ ∧ _ ∧ _ ∧ _ ∧ _ ∧ _ ∧ _ ∧ _)
        clear bC
        go_wp2_with fail
        have kt := n1.seg
        have kg := n2.seg
        clear n1 n2
        refine hKK.out _ _ hHeld ?_
        clear hHeld
        intro hHeld
        clear hKK KK
        try simp only [pP, pN, pS, pZ, pC]
        refine tk 9 (v := ?_) rfl (Or.inl ⟨by rfl, ?_⟩) ?_
        rotate_left
        · intro w9 hSw
          go_simp
          first | done | with_reducible rfl
        simp only [pP, pN, pS, pZ, pC]
        refine tk 10 (v := ?_) rfl (Or.inl ⟨by rfl, ?_⟩) ?_
        rotate_left
        · intro w9 hSw
          go_simp
          first | done | with_reducible rfl
        simp only [pP, pN, pS, pZ, pC]
        refine tk 11 (v := ?_) rfl (Or.inl ⟨by rfl, ?_⟩) ?_
        rotate_left
        · intro w9 hSw
          go_simp
          first | done | with_reducible rfl
        simp only [pP, pN, pS, pZ, pC]
        refine tk 12 (v := ?_) rfl (Or.inl ⟨by rfl, ?_⟩) ?_
        rotate_left
        · intro w9 hSw
          go_simp
          first | done | with_reducible rfl
        simp only [pP, pN, pS, pZ, pC]
        refine wpAnyH_ready (rs := [15]) (by kernel_rfl) (by simp) ?_
        refine cons' rfl (fun KK hKK => ?_)
        have z0 := q5.cell 0
        have z1 := q5.cell 1
        simp only [List.getElem?_toArray, List.getElem?_cons_zero, List.getElem?_cons_succ] at z0 z1
        have fz := fun o => q5.frozen o
        obtain ⟨c9, q9⟩ := q5.set2s (.bool (ng T)) (.slice pt (ln (am T)) (ln (am T)))
        have hno := q5.no (by simp)
        replace h1 := h1.ch c9 hno
        replace h3 := h3.ch c9 hno
        replace hS := hS.ch c9 hno
        replace q6 := q6.ch c9 (by omega)
        replace ks := ks.ch c9 hno
        replace kt := kt.ch c9 hno
        replace kg := kg.ch c9 hno
        replace bT := bT.trans (c9.below (by omega))
        have hH2 := (⟨(World.cell?_of_block (w := w41) (a := ⟨w.heap.size, 0, none⟩) (c9.other (w.heap.size) (by omega))).trans hHeld.1, (World.cell?_of_block (w := w41) (a := ⟨w.heap.size, 1, none⟩) (c9.other (w.heap.size) (by omega))).trans hHeld.2.1, (World.cell?_of_block (w := w41) (a := ⟨w.heap.size, 2, none⟩) (c9.other (w.heap.size) (by omega))).trans hHeld.2.2.1, (World.cell?_of_block (w := w41) (a := ⟨w.heap.size, 3, none⟩) (c9.other (w.heap.size) (by omega))).trans hHeld.2.2.2.1, (World.cell?_of_block (w := w41) (a := ⟨w.heap.size, 4, none⟩) (c9.other (w.heap.size) (by omega))).trans hHeld.2.2.2.2.1, (World.cell?_of_block (w := w41) (a := ⟨w.heap.size, 5, none⟩) (c9.other (w.heap.size) (by omega))).trans hHeld.2.2.2.2.2.1, (World.cell?_of_block (w := w41) (a := ⟨w.heap.size, 6, none⟩) (c9.other (w.heap.size) (by omega))).trans hHeld.2.2.2.2.2.2.1, (World.cell?_of_block (w := w41) (a := ⟨w.heap.size, 7, none⟩) (c9.other (w.heap.size) (by omega))).trans hHeld.2.2.2.2.2.2.2.1, (World.cell?_of_block (w := w41) (a := ⟨w.heap.size + 1, 0, none⟩) (c9.other (w.heap.size + 1) (by omega))).trans hHeld.2.2.2.2.2.2.2.2.1, (World.cell?_of_block (w := w41) (a := ⟨w.heap.size + 1, 1, none⟩) (c9.other (w.heap.size + 1) (by omega))).trans hHeld.2.2.2.2.2.2.2.2.2⟩ : _ ∧ _ ∧ _ ∧ _ ∧ _ ∧ _ ∧ _ ∧ _ ∧ _ ∧ _)
        go_simp
        clear z0 z1 fz hno c9
        replace q5 := q9
        refine hKK.out _ _ hH2 ?_
        clear hHeld
        intro hHeld
        clear hKK KK
        try simp only [pP, pN, pS, pZ, pC]
        clear hH2
        generalize ((w41.setCell ⟨cq5, 0, none⟩ (.bool (ng T))).setCell ⟨cq5, 1, none⟩ (.slice pt (ln (am T)) (ln (am T)))) = w42 at bT h1 h3 hS q5 q6 ks kt kg hHeld ⊢
        refine wpAnyH_ready (rs := [16]) (by kernel_rfl) (by simp) ?_
        refine cons' rfl (fun KK hKK => ?_)
        have z0 := q6.cell 0
        have z1 := q6.cell 1
        simp only [List.getElem?_toArray, List.getElem?_cons_zero, List.getElem?_cons_succ] at z0 z1
        have fz := fun o => q6.frozen o
        obtain ⟨c9, q9⟩ := q6.set2s (.bool (ng G)) (.slice pg (ln (am G)) (ln (am G)))
        have hno := q6.no (by simp)
        replace h1 := h1.ch c9 hno
        replace h3 := h3.ch c9 hno
        replace hS := hS.ch c9 hno
        replace q5 := q5.ch c9 (by omega)
        replace ks := ks.ch c9 hno
        replace kt := kt.ch c9 hno
        replace kg := kg.ch c9 hno
        replace bT := bT.trans (c9.below (by omega))
        have hH2 := (⟨(World.cell?_of_block (w := w42) (a := ⟨w.heap.size, 0, none⟩) (c9.other (w.heap.size) (by omega))).trans hHeld.1, (World.cell?_of_block (w := w42) (a := ⟨w.heap.size, 1, none⟩) (c9.other (w.heap.size) (by omega))).trans hHeld.2.1, (World.cell?_of_block (w := w42) (a := ⟨w.heap.size, 2, none⟩) (c9.other (w.heap.size) (by omega))).trans hHeld.2.2.1, (World.cell?_of_block (w := w42) (a := ⟨w.heap.size, 3, none⟩) (c9.other (w.heap.size) (by omega))).trans hHeld.2.2.2.1, (World.cell?_of_block (w := w42) (a := ⟨w.heap.size, 4, none⟩) (c9.other (w.heap.size) (by omega))).trans hHeld.2.2.2.2.1, (World.cell?_of_block (w := w42) (a := ⟨w.heap.size, 5, none⟩) (c9.other (w.heap.size) (by omega))).trans hHeld.2.2.2.2.2.1, (World.cell?_of_block (w := w42) (a := ⟨w.heap.size, 6, none⟩) (c9.other (w.heap.size) (by omega))).trans hHeld.2.2.2.2.2.2.1, (World.cell?_of_block (w := w42) (a := ⟨w.heap.size, 7, none⟩) (c9.other (w.heap.size) (by omega))).trans hHeld.2.2.2.2.2.2.2.1, (World.cell?_of_block (w := w42) (a := ⟨w.heap.size + 1, 0, none⟩) (c9.other (w.heap.size + 1) (by omega))).trans hHeld.2.2.2.2.2.2.2.2.1, (World.cell?_of_block (w := w42) (a := ⟨w.heap.size + 1, 1, none⟩) (c9.other (w.heap.size + 1) (by omega))).trans hHeld.2.2.2.2.2.2.2.2.2⟩ : _ ∧ _ ∧ _ ∧ _ ∧ _ ∧ _ ∧ _ ∧ _ ∧ _ ∧ _)
        go_simp
        clear z0 z1 fz hno c9
        replace q6 := q9
        refine hKK.out _ _ hH2 ?_
        clear hHeld
        intro hHeld
        clear hKK KK
        try simp only [pP, pN, pS, pZ, pC]
        clear hH2
        generalize ((w42.setCell ⟨cq6, 0, none⟩ (.bool (ng G))).setCell ⟨cq6, 1, none⟩ (.slice pg (ln (am G)) (ln (am G)))) = w43 at bT h1 h3 hS q5 q6 ks kt kg hHeld ⊢
        refine tk 17 (v := ?_) rfl (Or.inl ⟨by rfl, ?_⟩) ?_
        rotate_left
        · intro w9 hSw
          go_simp
          first | done | with_reducible rfl
        simp only [pP, pN, pS, pZ, pC]
        refine wpAnyH_done (by kernel_rfl) ?_ _
        go_wp2_with fail
        go_meet
        exact ⟨_, cq5, cq6, pt, rfl, rfl, rfl, rfl, q5, kt, hq5ge, bT⟩
      exact AllReadyH.nil
    refine consT rfl (fun KK hKK => ?_) ?_
    · skip
      go_simp
      have q6 := Blk.new w0F #[.bool false, .slice none 0 0] 25
      have bA := below_alloc (w := w0F) (.cells #[.bool false, .slice none 0 0] 25)
      have hq6ge := bT.size
      have hq6c0 := cell_ltU hHeld.1
      have hq6c1 := cell_ltU hHeld.2.1
      have hq6c2 := cell_ltU hHeld.2.2.1
      have hq6c3 := cell_ltU hHeld.2.2.2.1
      have hq6c4 := cell_ltU hHeld.2.2.2.2.1
      have hq6c5 := cell_ltU hHeld.2.2.2.2.2.1
      have hq6c6 := cell_ltU hHeld.2.2.2.2.2.2.1
      have hq6c7 := cell_ltU hHeld.2.2.2.2.2.2.2.1
      have hq6c8 := cell_ltU hHeld.2.2.2.2.2.2.2.2.1
      have hq6c9 := cell_ltU hHeld.2.2.2.2.2.2.2.2.2
      generalize w0F.alloc (.cells #[.bool false, .slice none 0 0] 25) = w44 at q6 bA ⊢
      replace bT := bT.trans (bA.mono bT.size)
      replace h1 := h1.later bA
      replace h3 := h3.later bA
      replace hS := hS.later bA
      replace hHeld := (⟨below_cell bA hHeld.1, below_cell bA hHeld.2.1, below_cell bA hHeld.2.2.1, below_cell bA hHeld.2.2.2.1, below_cell bA hHeld.2.2.2.2.1, below_cell bA hHeld.2.2.2.2.2.1, below_cell bA hHeld.2.2.2.2.2.2.1, below_cell bA hHeld.2.2.2.2.2.2.2.1, below_cell bA hHeld.2.2.2.2.2.2.2.2.1, below_cell bA hHeld.2.2.2.2.2.2.2.2.2⟩ : _ ∧ _ ∧ _ ∧ _ ∧ _ ∧ _ ∧ _ ∧ _ ∧ _ ∧ _)
      clear bA
      refine hKK.out _ _ hHeld ?_
      clear hHeld
      intro hHeld
      clear hKK KK
      try simp only [pP, pN, pS, pZ, pC]
      obtain ⟨cq6, hcc⟩ : ∃ cc, w0F.heap.size = cc := ⟨_, rfl⟩
      rw [hcc] at q6 hq6ge hq6c0 hq6c1 hq6c2 hq6c3 hq6c4 hq6c5 hq6c6 hq6c7 hq6c8 hq6c9
      try rw [hcc]
      clear hcc
      refine wpAnyH_ready (rs := [4, 13]) (by kernel_rfl) (by simp) ?_
      refine consT rfl (fun KK hKK => ?_) ?_
      · skip
        go_simp
        refine (GS.out _ hS h1).mono ?_
        rintro e w45 ⟨ps, rfl, n1⟩
        have bC := n1.below
        replace bT := bT.trans (bC.mono bT.size)
        replace h1 := h1.later bC
        replace h3 := h3.later bC
        replace hS := hS.later bC
        replace q6 := q6.later bC
        replace hHeld := (⟨below_cell bC hHeld.1, below_cell bC hHeld.2.1, below_cell bC hHeld.2.2.1, below_cell bC hHeld.2.2.2.1, below_cell bC hHeld.2.2.2.2.1, below_cell bC hHeld.2.2.2.2.2.1, below_cell bC hHeld.2.2.2.2.2.2.1, below_cell bC hHeld.2.2.2.2.2.2.2.1, below_cell bC hHeld.2.2.2.2.2.2.2.2.1, below_cell bC hHeld.2.2.2.2.2.2.2.2.2⟩ : _ ∧ _ ∧ _ ∧ _ ∧ _ ∧ _ ∧ _ ∧ _ ∧ _ ∧ _)
        clear bC
        go_wp2_with fail
        have ks := n1.seg
        clear n1
        refine hKK.out _ _ hHeld ?_
        clear hHeld
        intro hHeld
        clear hKK KK
        try simp only [pP, pN, pS, pZ, pC]
        refine wpAnyH_ready (rs := [8, 13]) (by kernel_rfl) (by simp) ?_
        refine consT rfl (fun KK hKK => ?_) ?_
        · skip
          go_simp
          refine (GF.out _ ps ks h3).mono ?_
          rintro e w46 ⟨pt, pg, rfl, n1, n2⟩
          have bC := n1.below
          replace bT := bT.trans (bC.mono bT.size)
          replace h1 := h1.later bC
          replace h3 := h3.later bC
          replace hS := hS.later bC
          replace q6 := q6.later bC
          replace ks := ks.later bC
          replace hHeld := (⟨below_cell bC hHeld.1, below_cell bC hHeld.2.1, below_cell bC hHeld.2.2.1, below_cell bC hHeld.2.2.2.1, below_cell bC hHeld.2.2.2.2.1, below_cell bC hHeld.2.2.2.2.2.1, below_cell bC hHeld.2.2.2.2.2.2.1, below_cell bC hHeld.2.2.2.2.2.2.2.1, below_cell bC hHeld.2.2.2.2.2.2.2.2.1, below_cell bC hHeld.2.2.2.2.2.2.2.2.2⟩ : _ ∧ _ ∧ _ ∧ _ ∧ _ ∧ _ ∧ _ ∧ _ ∧ _ ∧ _)
          clear bC
          go_wp2_with fail
          have kt := n1.seg
          have kg := n2.seg
          clear n1 n2
          refine hKK.out _ _ hHeld ?_
          clear hHeld
          intro hHeld
          clear hKK KK
          try simp only [pP, pN, pS, pZ, pC]
          refine tk 9 (v := ?_) rfl (Or.inl ⟨by rfl, ?_⟩) ?_
          rotate_left
          · intro w9 hSw
            go_simp
            first | done | with_reducible rfl
          simp only [pP, pN, pS, pZ, pC]
          refine tk 10 (v := ?_) rfl (Or.inl ⟨by rfl, ?_⟩) ?_
          rotate_left
          · intro w9 hSw
            go_simp
            first | done | with_reducible rfl
          simp only [pP, pN, pS, pZ, pC]
          refine tk 11 (v := ?_) rfl (Or.inl ⟨by rfl, ?_⟩) ?_
          rotate_left
          · intro w9 hSw
            go_simp
            first | done | with_reducible rfl
          simp only [pP, pN, pS, pZ, pC]
          refine tk 12 (v := ?_) rfl (Or.inl ⟨by rfl, ?_⟩) ?_
          rotate_left
          · intro w9 hSw
            go_simp
            first | done | with_reducible rfl
          simp only [pP, pN, pS, pZ, pC]
          refine wpAnyH_ready (rs := [13]) (by kernel_rfl) (by simp) ?_
          refine cons' rfl (fun KK hKK => ?_)
          go_simp
          have q5 := Blk.new w46 #[.bool false, .slice none 0 0] 25
          have bA := below_alloc (w := w46) (.cells #[.bool false, .slice none 0 0] 25)
          have hq5ge := bT.size
          have hq5q6 := q6.lt
          have hq5c0 := cell_ltU hHeld.1
          have hq5c1 := cell_ltU hHeld.2.1
          have hq5c2 := cell_ltU hHeld.2.2.1
          have hq5c3 := cell_ltU hHeld.2.2.2.1
          have hq5c4 := cell_ltU hHeld.2.2.2.2.1
          have hq5c5 := cell_ltU hHeld.2.2.2.2.2.1
          have hq5c6 := cell_ltU hHeld.2.2.2.2.2.2.1
          have hq5c7 := cell_ltU hHeld.2.2.2.2.2.2.2.1
          have hq5c8 := cell_ltU hHeld.2.2.2.2.2.2.2.2.1
          have hq5c9 := cell_ltU hHeld.2.2.2.2.2.2.2.2.2
          generalize w46.alloc (.cells #[.bool false, .slice none 0 0] 25) = w47 at q5 bA ⊢
          replace bT := bT.trans (bA.mono bT.size)
          replace h1 := h1.later bA
          replace h3 := h3.later bA
          replace hS := hS.later bA
          replace q6 := q6.later bA
          replace ks := ks.later bA
          replace kt := kt.later bA
          replace kg := kg.later bA
          replace hHeld := (⟨below_cell bA hHeld.1, below_cell bA hHeld.2.1, below_cell bA hHeld.2.2.1, below_cell bA hHeld.2.2.2.1, below_cell bA hHeld.2.2.2.2.1, below_cell bA hHeld.2.2.2.2.2.1, below_cell bA hHeld.2.2.2.2.2.2.1, below_cell bA hHeld.2.2.2.2.2.2.2.1, below_cell bA hHeld.2.2.2.2.2.2.2.2.1, below_cell bA hHeld.2.2.2.2.2.2.2.2.2⟩ : _ ∧ _ ∧ _ ∧ _ ∧ _ ∧ _ ∧ _ ∧ _ ∧ _ ∧ _)
          clear bA
          refine hKK.out _ _ hHeld ?_
          clear hHeld
          intro hHeld
          clear hKK KK
          try simp only [pP, pN, pS, pZ, pC]
          obtain ⟨cq5, hcc⟩ : ∃ cc, w46.heap.size = cc := ⟨_, rfl⟩
          rw [hcc] at q5 hq5ge hq5q6 hq5c0 hq5c1 hq5c2 hq5c3 hq5c4 hq5c5 hq5c6 hq5c7 hq5c8 hq5c9
          try rw [hcc]
          clear hcc
          refine wpAnyH_ready (rs := [15]) (by kernel_rfl) (by simp) ?_
          refine cons' rfl (fun KK hKK => ?_)
          have z0 := q5.cell 0
          have z1 := q5.cell 1
          simp only [List.getElem?_toArray, List.getElem?_cons_zero, List.getElem?_cons_succ] at z0 z1
          have fz := fun o => q5.frozen o
          obtain ⟨c9, q9⟩ := q5.set2s (.bool (ng T)) (.slice pt (ln (am T)) (ln (am T)))
          have hno := q5.no (by simp)
          replace h1 := h1.ch c9 hno
          replace h3 := h3.ch c9 hno
          replace hS := hS.ch c9 hno
          replace q6 := q6.ch c9 (by omega)
          replace ks := ks.ch c9 hno
          replace kt := kt.ch c9 hno
          replace kg := kg.ch c9 hno
          replace bT := bT.trans (c9.below (by omega))
          have hH2 := (⟨(World.cell?_of_block (w := w47) (a := ⟨w.heap.size, 0, none⟩) (c9.other (w.heap.size) (by omega))).trans hHeld.1, (World.cell?_of_block (w := w47) (a := ⟨w.heap.size, 1, none⟩) (c9.other (w.heap.size) (by omega))).trans hHeld.2.1, (World.cell?_of_block (w := w47) (a := ⟨w.heap.size, 2, none⟩) (c9.other (w.heap.size) (by omega))).trans hHeld.2.2.1, (World.cell?_of_block (w := w47) (a := ⟨w.heap.size, 3, none⟩) (c9.other (w.heap.size) (by omega))).trans hHeld.2.2.2.1, (World.cell?_of_block (w := w47) (a := ⟨w.heap.size, 4, none⟩) (c9.other (w.heap.size) (by omega))).trans hHeld.2.2.2.2.1, (World.cell?_of_block (w := w47) (a := ⟨w.heap.size, 5, none⟩) (c9.other (w.heap.size) (by omega))).trans hHeld.2.2.2.2.2.1, (World.cell?_of_block (w := w47) (a := ⟨w.heap.size, 6, none⟩) (c9.other (w.heap.size) (by omega))).trans hHeld.2.2.2.2.2.2.1, (World.cell?_of_block (w := w47) (a := ⟨w.heap.size, 7, none⟩) (c9.other (w.heap.size) (by omega))).trans hHeld.2.2.2.2.2.2.2.1, (World.cell?_of_block (w := w47) (a := ⟨w.heap.size + 1, 0, none⟩) (c9.other (w.heap.size + 1) (by omega))).trans hHeld.2.2.2.2.2.2.2.2.1, (World.cell?_of_block (w := w47) (a := ⟨w.heap.size + 1, 1, none⟩) (c9.other (w.heap.size + 1) (by omega))).trans hHeld.2.2.2.2.2.2.2.2.2⟩ : _ ∧ _ ∧ _ ∧ _ ∧ _ ∧ _ ∧ _ ∧ _ ∧ _ ∧ _)
          go_simp
          clear z0 z1 fz hno c9
          replace q5 := q9
          refine hKK.out _ _ hH2 ?_
          clear hHeld
          intro hHeld
          clear hKK KK
          try simp only [pP, pN, pS, pZ, pC]
          clear hH2
          generalize ((w47.setCell ⟨cq5, 0, none⟩ (.bool (ng T))).setCell ⟨cq5, 1, none⟩ (.slice pt (ln (am T)) (ln (am T)))) = w48 at bT h1 h3 hS q6 ks kt kg q5 hHeld ⊢
          refine wpAnyH_ready (rs := [16]) (by kernel_rfl) (by simp) ?_
          refine cons' rfl (fun KK hKK => ?_)
          have z0 := q6.cell 0
          have z1 := q6.cell 1
          simp only [List.getElem?_toArray, List.getElem?_cons_zero, List.getElem?_cons_succ] at z0 z1
          have fz := fun o => q6.frozen o
          obtain ⟨c9, q9⟩ := q6.set2s (.bool (ng G)) (.slice pg (ln (am G)) (ln (am G)))
          have hno := q6.no (by simp)
          replace h1 := h1.ch c9 hno
          replace h3 := h3.ch c9 hno
          replace hS := hS.ch c9 hno
          replace ks := ks.ch c9 hno
          replace kt := kt.ch c9 hno
          replace kg := kg.ch c9 hno
          replace q5 := q5.ch c9 (by omega)
          replace bT := bT.trans (c9.below (by omega))
          have hH2 := (⟨(World.cell?_of_block (w := w48) (a := ⟨w.heap.size, 0, none⟩) (c9.other (w.heap.size) (by omega))).trans hHeld.1, (World.cell?_of_block (w := w48) (a := ⟨w.heap.size, 1, none⟩) (c9.other (w.heap.size) (by omega))).trans hHeld.2.1, (World.cell?_of_block (w := w48) (a := ⟨w.heap.size, 2, none⟩) (c9.other (w.heap.size) (by omega))).trans hHeld.2.2.1, (World.cell?_of_block (w := w48) (a := ⟨w.heap.size, 3, none⟩) (c9.other (w.heap.size) (by omega))).trans hHeld.2.2.2.1, (World.cell?_of_block (w := w48) (a := ⟨w.heap.size, 4, none⟩) (c9.other (w.heap.size) (by omega))).trans hHeld.2.2.2.2.1, (World.cell?_of_block (w := w48) (a := ⟨w.heap.size, 5, none⟩) (c9.other (w.heap.size) (by omega))).trans hHeld.2.2.2.2.2.1, (World.cell?_of_block (w := w48) (a := ⟨w.heap.size, 6, none⟩) (c9.other (w.heap.size) (by omega))).trans hHeld.2.2.2.2.2.2.1, (World.cell?_of_block (w := w48) (a := ⟨w.heap.size, 7, none⟩) (c9.other (w.heap.size) (by omega))).trans hHeld.2.2.2.2.2.2.2.1, (World.cell?_of_block (w := w48) (a := ⟨w.heap.size + 1, 0, none⟩) (c9.other (w.heap.size + 1) (by omega))).trans hHeld.2.2.2.2.2.2.2.2.1, (World.cell?_of_block (w := w48) (a := ⟨w.heap.size + 1, 1, none⟩) (c9.other (w.heap.size + 1) (by omega))).trans hHeld.2.2.2.2.2.2.2.2.2⟩ : _ ∧ _ ∧ _ ∧ _ ∧ _ ∧ _ ∧ _ ∧ _ ∧ _ ∧ _)
          go_simp
          clear z0 z1 fz hno c9
          replace q6 := q9
          refine hKK.out _ _ hH2 ?_
          clear hHeld
          intro hHeld
          clear hKK KK
          try simp only [pP, pN, pS, pZ, pC]
          clear hH2
          generalize ((w48.setCell ⟨cq6, 0, none⟩ (.bool (ng G))).setCell ⟨cq6, 1, none⟩ (.slice pg (ln (am G)) (ln (am G)))) = w49 at bT h1 h3 hS q6 ks kt kg q5 hHeld ⊢
          refine tk 17 (v := ?_) rfl (Or.inl ⟨by rfl, ?_⟩) ?_
          rotate_left
          · intro w9 hSw
            go_simp
            first | done | with_reducible rfl
          simp only [pP, pN, pS, pZ, pC]
          refine wpAnyH_done (by kernel_rfl) ?_ _
          go_wp2_with fail
          go_meet
          exact ⟨_, cq5, cq6, pt, rfl, rfl, rfl, rfl, q5, kt, hq5ge, bT⟩
        refine consT rfl (fun KK hKK => ?_) ?_
        · skip
          go_simp
          have q5 := Blk.new w45 #[.bool false, .slice none 0 0] 25
          have bA := below_alloc (w := w45) (.cells #[.bool false, .slice none 0 0] 25)
          have hq5ge := bT.size
          have hq5q6 := q6.lt
          have hq5c0 := cell_ltU hHeld.1
          have hq5c1 := cell_ltU hHeld.2.1
          have hq5c2 := cell_ltU hHeld.2.2.1
          have hq5c3 := cell_ltU hHeld.2.2.2.1
          have hq5c4 := cell_ltU hHeld.2.2.2.2.1
          have hq5c5 := cell_ltU hHeld.2.2.2.2.2.1
          have hq5c6 := cell_ltU hHeld.2.2.2.2.2.2.1
          have hq5c7 := cell_ltU hHeld.2.2.2.2.2.2.2.1
          have hq5c8 := cell_ltU hHeld.2.2.2.2.2.2.2.2.1
          have hq5c9 := cell_ltU hHeld.2.2.2.2.2.2.2.2.2
          generalize w45.alloc (.cells #[.bool false, .slice none 0 0] 25) = w50 at q5 bA ⊢
          replace bT := bT.trans (bA.mono bT.size)
          replace h1 := h1.later bA
          replace h3 := h3.later bA
          replace hS := hS.later bA
          replace q6 := q6.later bA
          replace ks := ks.later bA
          replace hHeld := (⟨below_cell bA hHeld.1, below_cell bA hHeld.2.1, below_cell bA hHeld.2.2.1, below_cell bA hHeld.2.2.2.1, below_cell bA hHeld.2.2.2.2.1, below_cell bA hHeld.2.2.2.2.2.1, below_cell bA hHeld.2.2.2.2.2.2.1, below_cell bA hHeld.2.2.2.2.2.2.2.1, below_cell bA hHeld.2.2.2.2.2.2.2.2.1, below_cell bA hHeld.2.2.2.2.2.2.2.2.2⟩ : _ ∧ _ ∧ _ ∧ _ ∧ _ ∧ _ ∧ _ ∧ _ ∧ _ ∧ _)
          clear bA
          refine hKK.out _ _ hHeld ?_
          clear hHeld
          intro hHeld
          clear hKK KK
          try simp only [pP, pN, pS, pZ, pC]
          obtain ⟨cq5, hcc⟩ : ∃ cc, w45.heap.size = cc := ⟨_, rfl⟩
          rw [hcc] at q5 hq5ge hq5q6 hq5c0 hq5c1 hq5c2 hq5c3 hq5c4 hq5c5 hq5c6 hq5c7 hq5c8 hq5c9
          try rw [hcc]
          clear hcc
          refine wpAnyH_ready (rs := [8]) (by kernel_rfl) (by simp) ?_
          refine cons' rfl (fun KK hKK => ?_)
          go_simp
          refine (GF.out _ ps ks h3).mono ?_
          rintro e w51 ⟨pt, pg, rfl, n1, n2⟩
          have bC := n1.below
          replace bT := bT.trans (bC.mono bT.size)
          replace h1 := h1.later bC
          replace h3 := h3.later bC
          replace hS := hS.later bC
          replace q6 := q6.later bC
          replace ks := ks.later bC
          replace q5 := q5.later bC
          replace hHeld := (⟨below_cell bC hHeld.1, below_cell bC hHeld.2.1, below_cell bC hHeld.2.2.1, below_cell bC hHeld.2.2.2.1, below_cell bC hHeld.2.2.2.2.1, below_cell bC hHeld.2.2.2.2.2.1, below_cell bC hHeld.2.2.2.2.2.2.1, below_cell bC hHeld.2.2.2.2.2.2.2.1, below_cell bC hHeld.2.2.2.2.2.2.2.2.1, below_cell bC hHeld.2.2.2.2.2.2.2.2.2⟩ : _ ∧ _ ∧ _ ∧ _ ∧ _ ∧ _ ∧ _ ∧ _ ∧ _ ∧ _)
          clear bC
          go_wp2_with fail
          have kt := n1.seg
          have kg := n2.seg
          clear n1 n2
          refine hKK.out _ _ hHeld ?_
          clear hHeld
          intro hHeld
          clear hKK KK
          try simp only [pP, pN, pS, pZ, pC]
          refine tk 9 (v := ?_) rfl (Or.inl ⟨by rfl, ?_⟩) ?_
          rotate_left
          · intro w9 hSw
            go_simp
            first | done | with_reducible rfl
          simp only [pP, pN, pS, pZ, pC]
          refine tk 10 (v := ?_) rfl (Or.inl ⟨by rfl, ?_⟩) ?_
          rotate_left
          · intro w9 hSw
            go_simp
            first | done | with_reducible rfl
          simp only [pP, pN, pS, pZ, pC]
          refine tk 11 (v := ?_) rfl (Or.inl ⟨by rfl, ?_⟩) ?_
          rotate_left
          · intro w9 hSw
            go_simp
            first | done | with_reducible rfl
          simp only [pP, pN, pS, pZ, pC]
          refine tk 12 (v := ?_) rfl (Or.inl ⟨by rfl, ?_⟩) ?_
          rotate_left
          · intro w9 hSw
            go_simp
            first | done | with_reducible rfl
          simp only [pP, pN, pS, pZ, pC]
          refine wpAnyH_ready (rs := [15]) (by kernel_rfl) (by simp) ?_
          refine cons' rfl (fun KK hKK => ?_)
          have z0 := q5.cell 0
          have z1 := q5.cell 1
          simp only [List.getElem?_toArray, List.getElem?_cons_zero, List.getElem?_cons_succ] at z0 z1
          have fz := fun o => q5.frozen o
          obtain ⟨c9, q9⟩ := q5.set2s (.bool (ng T)) (.slice pt (ln (am T)) (ln (am T)))
          have hno := q5.no (by simp)
          replace h1 := h1.ch c9 hno
          replace h3 := h3.ch c9 hno
          replace hS := hS.ch c9 hno
          replace q6 := q6.ch c9 (by omega)
          replace ks := ks.ch c9 hno
          replace kt := kt.ch c9 hno
          replace kg := kg.ch c9 hno
          replace bT := bT.trans (c9.below (by omega))
          have hH2 := (⟨(World.cell?_of_block (w := w51) (a := ⟨w.heap.size, 0, none⟩) (c9.other (w.heap.size) (by omega))).trans hHeld.1, (World.cell?_of_block (w := w51) (a := ⟨w.heap.size, 1, none⟩) (c9.other (w.heap.size) (by omega))).trans hHeld.2.1, (World.cell?_of_block (w := w51) (a := ⟨w.heap.size, 2, none⟩) (c9.other (w.heap.size) (by omega))).trans hHeld.2.2.1, (World.cell?_of_block (w := w51) (a := ⟨w.heap.size, 3, none⟩) (c9.other (w.heap.size) (by omega))).trans hHeld.2.2.2.1, (World.cell?_of_block (w := w51) (a := ⟨w.heap.size, 4, none⟩) (c9.other (w.heap.size) (by omega))).trans hHeld.2.2.2.2.1, (World.cell?_of_block (w := w51) (a := ⟨w.heap.size, 5, none⟩) (c9.other (w.heap.size) (by omega))).trans hHeld.2.2.2.2.2.1, (World.cell?_of_block (w := w51) (a := ⟨w.heap.size, 6, none⟩) (c9.other (w.heap.size) (by omega))).trans hHeld.2.2.2.2.2.2.1, (World.cell?_of_block (w := w51) (a := ⟨w.heap.size, 7, none⟩) (c9.other (w.heap.size) (by omega))).trans hHeld.2.2.2.2.2.2.2.1, (World.cell?_of_block (w := w51) (a := ⟨w.heap.size + 1, 0, none⟩) (c9.other (w.heap.size + 1) (by omega))).trans hHeld.2.2.2.2.2.2.2.2.1, (World.cell?_of_block (w := w51) (a := ⟨w.heap.size + 1, 1, none⟩) (c9.other (w.heap.size + 1) (by omega))).trans hHeld.2.2.2.2.2.2.2.2.2⟩ : _ ∧ _ ∧ _ ∧ _ ∧ _ ∧ _ ∧ _ ∧ _ ∧ _ ∧ _)
          go_simp
          clear z0 z1 fz hno c9
          replace q5 := q9
          refine hKK.out _ _ hH2 ?_
          clear hHeld
          intro hHeld
          clear hKK KK
          try simp only [pP, pN, pS, pZ, pC]
          clear hH2
          generalize ((w51.setCell ⟨cq5, 0, none⟩ (.bool (ng T))).setCell ⟨cq5, 1, none⟩ (.slice pt (ln (am T)) (ln (am T)))) = w52 at bT h1 h3 hS q6 ks q5 kt kg hHeld ⊢
          refine wpAnyH_ready (rs := [16]) (by kernel_rfl) (by simp) ?_
          refine cons' rfl (fun KK hKK => ?_)
          have z0 := q6.cell 0
          have z1 := q6.cell 1
          simp only [List.getElem?_toArray, List.getElem?_cons_zero, List.getElem?_cons_succ] at z0 z1
          have fz := fun o => q6.frozen o
          obtain ⟨c9, q9⟩ := q6.set2s (.bool (ng G)) (.slice pg (ln (am G)) (ln (am G)))
          have hno := q6.no (by simp)
          replace h1 := h1.ch c9 hno
          replace h3 := h3.ch c9 hno
          replace hS := hS.ch c9 hno
          replace ks := ks.ch c9 hno
          replace q5 := q5.ch c9 (by omega)
          replace kt := kt.ch c9 hno
          replace kg := kg.ch c9 hno
          replace bT := bT.trans (c9.below (by omega))
          have hH2 := (⟨(World.cell?_of_block (w := w52) (a := ⟨w.heap.size, 0, none⟩) (c9.other (w.heap.size) (by omega))).trans hHeld.1, (World.cell?_of_block (w := w52) (a := ⟨w.heap.size, 1, none⟩) (c9.other (w.heap.size) (by omega))).trans hHeld.2.1, (World.cell?_of_block (w := w52) (a := ⟨w.heap.size, 2, none⟩) (c9.other (w.heap.size) (by omega))).trans hHeld.2.2.1, (World.cell?_of_block (w := w52) (a := ⟨w.heap.size, 3, none⟩) (c9.other (w.heap.size) (by omega))).trans hHeld.2.2.2.1, (World.cell?_of_block (w := w52) (a := ⟨w.heap.size, 4, none⟩) (c9.other (w.heap.size) (by omega))).trans hHeld.2.2.2.2.1, (World.cell?_of_block (w := w52) (a := ⟨w.heap.size, 5, none⟩) (c9.other (w.heap.size) (by omega))).trans hHeld.2.2.2.2.2.1, (World.cell?_of_block (w := w52) (a := ⟨w.heap.size, 6, none⟩) (c9.other (w.heap.size) (by omega))).trans hHeld.2.2.2.2.2.2.1, (World.cell?_of_block (w := w52) (a := ⟨w.heap.size, 7, none⟩) (c9.other (w.heap.size) (by omega))).trans hHeld.2.2.2.2.2.2.2.1, (World.cell?_of_block (w := w52) (a := ⟨w.heap.size + 1, 0, none⟩) (c9.other (w.heap.size + 1) (by omega))).trans hHeld.2.2.2.2.2.2.2.2.1, (World.cell?_of_block (w := w52) (a := ⟨w.heap.size + 1, 1, none⟩) (c9.other (w.heap.size + 1) (by omega))).trans hHeld.2.2.2.2.2.2.2.2.2⟩ : _ ∧ _ ∧ _ ∧ _ ∧ _ ∧ _ ∧ _ ∧ _ ∧ _ ∧ _)
          go_simp
          clear z0 z1 fz hno c9
          replace q6 := q9
          refine hKK.out _ _ hH2 ?_
          clear hHeld
          intro hHeld
          clear hKK KK
          try simp only [pP, pN, pS, pZ, pC]
          clear hH2
          generalize ((w52.setCell ⟨cq6, 0, none⟩ (.bool (ng G))).setCell ⟨cq6, 1, none⟩ (.slice pg (ln (am G)) (ln (am G)))) = w53 at bT h1 h3 hS q6 ks q5 kt kg hHeld ⊢
          refine tk 17 (v := ?_) rfl (Or.inl ⟨by rfl, ?_⟩) ?_
          rotate_left
          · intro w9 hSw
            go_simp
            first | done | with_reducible rfl
          simp only [pP, pN, pS, pZ, pC]
          refine wpAnyH_done (by kernel_rfl) ?_ _
          go_wp2_with fail
          go_meet
          exact ⟨_, cq5, cq6, pt, rfl, rfl, rfl, rfl, q5, kt, hq5ge, bT⟩
        exact AllReadyH.nil
      refine consT rfl (fun KK hKK => ?_) ?_
      · skip
        go_simp
        have q5 := Blk.new w44 #[.bool false, .slice none 0 0] 25
        have bA := below_alloc (w := w44) (.cells #[.bool false, .slice none 0 0] 25)
        have hq5ge := bT.size
        have hq5q6 := q6.lt
        have hq5c0 := cell_ltU hHeld.1
        have hq5c1 := cell_ltU hHeld.2.1
        have hq5c2 := cell_ltU hHeld.2.2.1
        have hq5c3 := cell_ltU hHeld.2.2.2.1
        have hq5c4 := cell_ltU hHeld.2.2.2.2.1
        have hq5c5 := cell_ltU hHeld.2.2.2.2.2.1
        have hq5c6 := cell_ltU hHeld.2.2.2.2.2.2.1
        have hq5c7 := cell_ltU hHeld.2.2.2.2.2.2.2.1
        have hq5c8 := cell_ltU hHeld.2.2.2.2.2.2.2.2.1
        have hq5c9 := cell_ltU hHeld.2.2.2.2.2.2.2.2.2
        generalize w44.alloc (.cells #[.bool false, .slice none 0 0] 25) = w54 at q5 bA ⊢
        replace bT := bT.trans (bA.mono bT.size)
        replace h1 := h1.later bA
        replace h3 := h3.later bA
        replace hS := hS.later bA
        replace q6 := q6.later bA
        replace hHeld := (⟨below_cell bA hHeld.1, below_cell bA hHeld.2.1, below_cell bA hHeld.2.2.1, below_cell bA hHeld.2.2.2.1, below_cell bA hHeld.2.2.2.2.1, below_cell bA hHeld.2.2.2.2.2.1, below_cell bA hHeld.2.2.2.2.2.2.1, below_cell bA hHeld.2.2.2.2.2.2.2.1, below_cell bA hHeld.2.2.2.2.2.2.2.2.1, below_cell bA hHeld.2.2.2.2.2.2.2.2.2⟩ : _ ∧ _ ∧ _ ∧ _ ∧ _ ∧ _ ∧ _ ∧ _ ∧ _ ∧ _)
        clear bA
        refine hKK.out _ _ hHeld ?_
        clear hHeld
        intro hHeld
        clear hKK KK
        try simp only [pP, pN, pS, pZ, pC]
        obtain ⟨cq5, hcc⟩ : ∃ cc, w44.heap.size = cc := ⟨_, rfl⟩
        rw [hcc] at q5 hq5ge hq5q6 hq5c0 hq5c1 hq5c2 hq5c3 hq5c4 hq5c5 hq5c6 hq5c7 hq5c8 hq5c9
        try rw [hcc]
        clear hcc
        refine wpAnyH_ready (rs := [4]) (by kernel_rfl) (by simp) ?_
        refine cons' rfl (fun KK hKK => ?_)
        go_simp
        refine (GS.out _ hS h1).mono ?_
        rintro e w55 ⟨ps, rfl, n1⟩
        have bC := n1.below
        replace bT := bT.trans (bC.mono bT.size)
        replace h1 := h1.later bC
        replace h3 := h3.later bC
        replace hS := hS.later bC
        replace q6 := q6.later bC
        replace q5 := q5.later bC
        replace hHeld := (⟨below_cell bC hHeld.1, below_cell bC hHeld.2.1, below_cell bC hHeld.2.2.1, below_cell bC hHeld.2.2.2.1, below_cell bC hHeld.2.2.2.2.1, below_cell bC hHeld.2.2.2.2.2.1, below_cell bC hHeld.2.2.2.2.2.2.1, below_cell bC hHeld.2.2.2.2.2.2.2.1, below_cell bC hHeld.2.2.2.2.2.2.2.2.1, below_cell bC hHeld.2.2.2.2.2.2.2.2.2⟩ : _ ∧ _ ∧ _ ∧ _ ∧ _ ∧ _ ∧ _ ∧ _ ∧ _ ∧ _)
        clear bC
        go_wp2_with fail
        have ks := n1.seg
        clear n1
        refine hKK.out _ _ hHeld ?_
        clear hHeld
        intro hHeld
        clear hKK KK
        try simp only [pP, pN, pS, pZ, pC]
        refine wpAnyH_ready (rs := [8]) (by kernel_rfl) (by simp) ?_
        refine cons' rfl (fun KK hKK => ?_)
        go_simp
        refine (GF.out _ ps ks h3).mono ?_
        rintro e w56 ⟨pt, pg, rfl, n1, n2⟩
        have bC := n1.below
        replace bT := bT.trans (bC.mono bT.size)
        replace h1 := h1.later bC
        replace h3 := h3.later bC
        replace hS := hS.later bC
        replace q6 := q6.later bC
        replace q5 := q5.later bC
        replace ks := ks.later bC
        replace hHeld := (⟨below_cell bC hHeld.1, below_cell bC hHeld.2.1, below_cell bC hHeld.2.2.1, below_cell bC hHeld.2.2.2.1, below_cell bC hHeld.2.2.2.2.1, below_cell bC hHeld.2.2.2.2.2.1, below_cell bC hHeld.2.2.2.2.2.2.1, below_cell bC hHeld.2.2.2.2.2.2.2.1, below_cell bC hHeld.2.2.2.2.2.2.2.2.1, below_cell bC hHeld.2.2.2.2.2.2.2.2.2⟩ : _ ∧ _ ∧ _ ∧ _ ∧ _ ∧ _ ∧ _ ∧ _ ∧ _ ∧ _)
        clear bC
        go_wp2_with fail
        have kt := n1.seg
        have kg := n2.seg
        clear n1 n2
        refine hKK.out _ _ hHeld ?_
        clear hHeld
        intro hHeld
        clear hKK KK
        try simp only [pP, pN, pS, pZ, pC]
        refine tk 9 (v := ?_) rfl (Or.inl ⟨by rfl, ?_⟩) ?_
        rotate_left
        · intro w9 hSw
          go_simp
          first | done | with_reducible rfl
        simp only [pP, pN, pS, pZ, pC]
        refine tk 10 (v := ?_) rfl (Or.inl ⟨by rfl, ?_⟩) ?_
        rotate_left
        · intro w9 hSw
          go_simp
          first | done | with_reducible rfl
        simp only [pP, pN, pS, pZ, pC]
        refine tk 11 (v := ?_) rfl (Or.inl ⟨by rfl, ?_⟩) ?_
        rotate_left
        · intro w9 hSw
          go_simp
          first | done | with_reducible rfl
        simp only [pP, pN, pS, pZ, pC]
        refine tk 12 (v := ?_) rfl (Or.inl ⟨by rfl, ?_⟩) ?_
        rotate_left
        · intro w9 hSw
          go_simp
          first | done | with_reducible rfl
        simp only [pP, pN, pS, pZ, pC]
        refine wpAnyH_ready (rs := [15]) (by kernel_rfl) (by simp) ?_
        refine cons' rfl (fun KK hKK => ?_)
        have z0 := q5.cell 0
        have z1 := q5.cell 1
        simp only [List.getElem?_toArray, List.getElem?_cons_zero, List.getElem?_cons_succ] at z0 z1
        have fz := fun o => q5.frozen o
        obtain ⟨c9, q9⟩ := q5.set2s (.bool (ng T)) (.slice pt (ln (am T)) (ln (am T)))
        have hno := q5.no (by simp)
        replace h1 := h1.ch c9 hno
        replace h3 := h3.ch c9 hno
        replace hS := hS.ch c9 hno
        replace q6 := q6.ch c9 (by omega)
        replace ks := ks.ch c9 hno
        replace kt := kt.ch c9 hno
        replace kg := kg.ch c9 hno
        replace bT := bT.trans (c9.below (by omega))
        have hH2 := (⟨(World.cell?_of_block (w := w56) (a := ⟨w.heap.size, 0, none⟩) (c9.other (w.heap.size) (by omega))).trans hHeld.1, (World.cell?_of_block (w := w56) (a := ⟨w.heap.size, 1, none⟩) (c9.other (w.heap.size) (by omega))).trans hHeld.2.1, (World.cell?_of_block (w := w56) (a := ⟨w.heap.size, 2, none⟩) (c9.other (w.heap.size) (by omega))).trans hHeld.2.2.1, (World.cell?_of_block (w := w56) (a := ⟨w.heap.size, 3, none⟩) (c9.other (w.heap.size) (by omega))).trans hHeld.2.2.2.1, (World.cell?_of_block (w := w56) (a := ⟨w.heap.size, 4, none⟩) (c9.other (w.heap.size) (by omega))).trans hHeld.2.2.2.2.1, (World.cell?_of_block (w := w56) (a := ⟨w.heap.size, 5, none⟩) (c9.other (w.heap.size) (by omega))).trans hHeld.2.2.2.2.2.1, (World.cell?_of_block (w := w56) (a := ⟨w.heap.size, 6, none⟩) (c9.other (w.heap.size) (by omega))).trans hHeld.2.2.2.2.2.2.1, (World.cell?_of_block (w := w56) (a := ⟨w.heap.size, 7, none⟩) (c9.other (w.heap.size) (by omega))).trans hHeld.2.2.2.2.2.2.2.1, (World.cell?_of_block (w := w56) (a := ⟨w.heap.size + 1, 0, none⟩) (c9.other (w.heap.size + 1) (by omega))).trans hHeld.2.2.2.2.2.2.2.2.1, (World.cell?_of_block (w := w56) (a := ⟨w.heap.size + 1, 1, none⟩) (c9.other (w.heap.size + 1) (by omega))).trans hHeld.2.2.2.2.2.2.2.2.2⟩ : _ ∧ _ ∧ _ ∧ _ ∧ _ ∧ _ ∧ _ ∧ _ ∧ _ ∧ _)
        go_simp
        clear z0 z1 fz hno c9
        replace q5 := q9
        refine hKK.out _ _ hH2 ?_
        clear hHeld
        intro hHeld
        clear hKK KK
        try simp only [pP, pN, pS, pZ, pC]
        clear hH2
        generalize ((w56.setCell ⟨cq5, 0, none⟩ (.bool (ng T))).setCell ⟨cq5, 1, none⟩ (.slice pt (ln (am T)) (ln (am T)))) = w57 at bT h1 h3 hS q6 q5 ks kt kg hHeld ⊢
        refine wpAnyH_ready (rs := [16]) (by kernel_rfl) (by simp) ?_
        refine cons' rfl (fun KK hKK => ?_)
        have z0 := q6.cell 0
        have z1 := q6.cell 1
        simp only [List.getElem?_toArray, List.getElem?_cons_zero, List.getElem?_cons_succ] at z0 z1
        have fz := fun o => q6.frozen o
        obtain ⟨c9, q9⟩ := q6.set2s (.bool (ng G)) (.slice pg (ln (am G)) (ln (am G)))
        have hno := q6.no (by simp)
        replace h1 := h1.ch c9 hno
        replace h3 := h3.ch c9 hno
        replace hS := hS.ch c9 hno
        replace q5 := q5.ch c9 (by omega)
        replace ks := ks.ch c9 hno
        replace kt := kt.ch c9 hno
        replace kg := kg.ch c9 hno
        replace bT := bT.trans (c9.below (by omega))
        have hH2 := (⟨(World.cell?_of_block (w := w57) (a := ⟨w.heap.size, 0, none⟩) (c9.other (w.heap.size) (by omega))).trans hHeld.1, (World.cell?_of_block (w := w57) (a := ⟨w.heap.size, 1, none⟩) (c9.other (w.heap.size) (by omega))).trans hHeld.2.1, (World.cell?_of_block (w := w57) (a := ⟨w.heap.size, 2, none⟩) (c9.other (w.heap.size) (by omega))).trans hHeld.2.2.1, (World.cell?_of_block (w := w57) (a := ⟨w.heap.size, 3, none⟩) (c9.other (w.heap.size) (by omega))).trans hHeld.2.2.2.1, (World.cell?_of_block (w := w57) (a := ⟨w.heap.size, 4, none⟩) (c9.other (w.heap.size) (by omega))).trans hHeld.2.2.2.2.1, (World.cell?_of_block (w := w57) (a := ⟨w.heap.size, 5, none⟩) (c9.other (w.heap.size) (by omega))).trans hHeld.2.2.2.2.2.1, (World.cell?_of_block (w := w57) (a := ⟨w.heap.size, 6, none⟩) (c9.other (w.heap.size) (by omega))).trans hHeld.2.2.2.2.2.2.1, (World.cell?_of_block (w := w57) (a := ⟨w.heap.size, 7, none⟩) (c9.other (w.heap.size) (by omega))).trans hHeld.2.2.2.2.2.2.2.1, (World.cell?_of_block (w := w57) (a := ⟨w.heap.size + 1, 0, none⟩) (c9.other (w.heap.size + 1) (by omega))).trans hHeld.2.2.2.2.2.2.2.2.1, (World.cell?_of_block (w := w57) (a := ⟨w.heap.size + 1, 1, none⟩) (c9.other (w.heap.size + 1) (by omega))).trans hHeld.2.2.2.2.2.2.2.2.2⟩ : _ ∧ _ ∧ _ ∧ _ ∧ _ ∧ _ ∧ _ ∧ _ ∧ _ ∧ _)
        go_simp
        clear z0 z1 fz hno c9
        replace q6 := q9
        refine hKK.out _ _ hH2 ?_
        clear hHeld
        intro hHeld
        clear hKK KK
        try simp only [pP, pN, pS, pZ, pC]
        clear hH2
        generalize ((w57.setCell ⟨cq6, 0, none⟩ (.bool (ng G))).setCell ⟨cq6, 1, none⟩ (.slice pg (ln (am G)) (ln (am G)))) = w58 at bT h1 h3 hS q6 q5 ks kt kg hHeld ⊢
        refine tk 17 (v := ?_) rfl (Or.inl ⟨by rfl, ?_⟩) ?_
        rotate_left
        · intro w9 hSw
          go_simp
          first | done | with_reducible rfl
        simp only [pP, pN, pS, pZ, pC]
        refine wpAnyH_done (by kernel_rfl) ?_ _
        go_wp2_with fail
        go_meet
        exact ⟨_, cq5, cq6, pt, rfl, rfl, rfl, rfl, q5, kt, hq5ge, bT⟩
      exact AllReadyH.nil
    exact AllReadyH.nil
  case rest =>
    obtain ⟨wc59, c5, c6, pt, hwv, rfl, rfl, rfl, q5, kt, g5, bT⟩ := hcut
    subst hwv
    replace h0 := h0.later bT
    replace h1 := h1.later bT
    replace h2 := h2.later bT
    replace h3 := h3.later bT
    replace hS := hS.later bT
    replace qv := qv.later bT
    replace ql := ql.later bT
    replace qo := qo.later bT
    replace bel := bel.trans (bT.mono bel.size)
    clear bT
    clear GS GF hbs
    have qv_0 := qv.cell 0
    have qv_1 := qv.cell 1
    have qv_2 := qv.cell 2
    have qv_3 := qv.cell 3
    have qv_4 := qv.cell 4
    have qv_5 := qv.cell 5
    have qv_6 := qv.cell 6
    have qv_7 := qv.cell 7
    have q5_0 := q5.cell 0
    have q5_1 := q5.cell 1
    simp only [List.getElem?_toArray, List.getElem?_cons_zero, List.getElem?_cons_succ] at qv_0 qv_1 qv_2 qv_3 qv_4 qv_5 qv_6 qv_7 q5_0 q5_1
    go_wp2_with fail
    clear qv_0 qv_1 qv_2 qv_3 qv_4 qv_5 qv_6 qv_7 q5_0 q5_1
    refine (GM.out _ pt h0 h1 h2 h3 kt).mono ?_
    rintro e w60 ⟨pa, pb, rfl, b1, ka, kb⟩
    have bb := b1
    replace h0 := h0.later bb
    replace h1 := h1.later bb
    replace h2 := h2.later bb
    replace h3 := h3.later bb
    replace hS := hS.later bb
    replace qv := qv.later bb
    replace ql := ql.later bb
    replace qo := qo.later bb
    replace kt := kt.later bb
    replace q5 := q5.later bb
    replace bel := bel.trans (bb.mono bel.size)
    clear bb
    clear b1
    clear qv ql q5 h0 h1 h2 h3 hS kt
    have qo_0 := qo.cell 0
    have qo_1 := qo.cell 1
    have qo_2 := qo.cell 2
    have qo_3 := qo.cell 3
    simp only [List.getElem?_toArray, List.getElem?_cons_zero, List.getElem?_cons_succ] at qo_0 qo_1 qo_2 qo_3
    have fz := fun o => qo.frozen o
    go_wp2
    obtain ⟨c9, q9⟩ := qo.set4 (.bool (ng A)) (.slice pa (ln (am A)) (ln (am A))) (.bool (ng B)) (.slice pb (ln (am B)) (ln (am B)))
    have hno := qo.no (by simp)
    replace ka := ka.ch c9 hno
    replace kb := kb.ch c9 hno
    replace bel := bel.trans (c9.below (by omega))
    clear qo_0 qo_1 qo_2 qo_3
    clear fz hno
    replace qo := q9
    have qo_0 := qo.cell 0
    have qo_1 := qo.cell 1
    have qo_2 := qo.cell 2
    have qo_3 := qo.cell 3
    simp only [List.getElem?_toArray, List.getElem?_cons_zero, List.getElem?_cons_succ] at qo_0 qo_1 qo_2 qo_3
    refine bodyPost_ret (v := .agg #[.bool (ng A), .slice pa (ln (am A)) (ln (am A)), .bool (ng B), .slice pb (ln (am B)) (ln (am B))]) (by rw [results_cell rfl]; go_simp) rfl ?_
    exact ⟨pa, pb, rfl, bel, ka, kb⟩
def stpL (r : Loop) : Loop := { r with state := .done, pending := some .ret }
def GoesR (D : Nat) (J R : World → Prop) (Kp : World → World → Prop) (V : World) : Exit → Act → World → Prop
  | .normal, _, W => (∀ r, Bk D r V → Bk D r W) ∧ Kp V W ∧ J W
  | .ret, _, W => (∀ r, Bk D r V → Bk D r W) ∧ R W
  | _, _, _ => False
variable {P : Program} {n : Nat}
theorem range_ret {α : Type} {g : Operand} {ps : Array Tmp} {assign body : Code} {Q : Exit → Act → World → Prop} {a : Act} {w : World} {gf : Nat} {lb : Array Value}
    (hg : a.eval g = .func (.func gf) #[] lb) (eg : ∀ args w, (callFunc gf args).run P w = .ok (.enter gf args) w)
    (encs : α → Array Value) (hps : ∀ x, (encs x).size = ps.size)
    (J : List α → World → Prop) (R : World → Prop) (Px : List α → α → World → Prop) (Kp : World → World → Prop) (Ax : List α → α → Act → World → Prop)
    (hJ : ∀ s W r r', Bk w.heap.size r W → J s W → J s (W.putObj (w.heap.size + 1) (.loop r')))
    (hR : ∀ W r r', Bk w.heap.size r W → R W → R (W.putObj (w.heap.size + 1) (.loop r')))
    (hA : ∀ s x a' W r r', Bk w.heap.size r W → Ax s x a' W → Ax s x a' (W.putObj (w.heap.size + 1) (.loop r')))
    (hKb : ∀ W r r', Bk w.heap.size r W → Kp W (W.putObj (w.heap.size + 1) (.loop r'))) (hKt : ∀ A B C, Kp A B → Kp B C → Kp A C)
    (hassign : ∀ s x W r (K : Act → World → Prop), Bk w.heap.size r W → J s W → Px s x W → (∀ a' W', Below W.heap.size W W' → Kp W W' → Ax s x a' W' → K a' W') →
      assign.wpIn (Fence.wide.inRound (w.heap.size + 1)) (n - 1 - 1) P (Exit.then K (fun _ _ _ => False)) { tmps := (ps.zip (encs x)).foldl (fun t (p, v) => t.setIfInBounds p v) a.tmps, defers := [] } W)
    (hbody : ∀ s x a' V r, Bk w.heap.size r V → Ax s x a' V → body.wpIn (Fence.wide.inRound (w.heap.size + 1)) (n - 1 - 1) P (GoesR w.heap.size (J (s ++ [x])) R Kp V) a' V)
    (hiter : ∀ r W1, Bk w.heap.size r W1 → W1 = (w.alloc (.deferred (some []))).alloc (.loop r) →
      (∀ s x W, Bk w.heap.size r W → J s W → Px s x W → YieldAt Fence.wide (n - 1 - 1) P (w.heap.size + 1) (encs x) W fun e W' => (e = .returned (.bool true) ∧ Bk w.heap.size r W' ∧ J (s ++ [x]) W' ∧ Kp W W') ∨ (e = .returned (.bool false) ∧ Bk w.heap.size (stpL r) W' ∧ R W')) →
      CallsIn Fence.wide (n - 1) P gf (#[.func (.yield (w.heap.size + 1)) #[] #[]] ++ lb) W1 fun e W' => (∃ v, e = .returned v) ∧
        ((Bk w.heap.size r W' ∧ ∀ r', Q .normal { a with defers := { target := .collected w.heap.size, args := #[] } :: a.defers } (W'.putObj (w.heap.size + 1) (.loop r'))) ∨
         (Bk w.heap.size (stpL r) W' ∧ ∀ r', Code.ret.wpIn Fence.wide n P Q { a with defers := { target := .collected w.heap.size, args := #[] } :: a.defers } (W'.putObj (w.heap.size + 1) (.loop r'))))) :
    (Code.rangeFunc g ps assign body).wpIn Fence.wide n P Q a w := by
  refine wpIn_rangeFunc ?_
  intro fn hfn
  have hl1 : ((w.alloc (.deferred (some []))).alloc (.loop { state := .ready, pending := none, fn, tmps := a.tmps, params := ps, assign, body, defers := w.heap.size })).heap[w.heap.size + 1]? = some (.loop { state := .ready, pending := none, fn, tmps := a.tmps, params := ps, assign, body, defers := w.heap.size }) := by
    have := World.alloc_heap_new (w.alloc (.deferred (some []))) (.loop { state := .ready, pending := none, fn, tmps := a.tmps, params := ps, assign, body, defers := w.heap.size })
    rwa [World.size_alloc] at this
  have hd1 : ((w.alloc (.deferred (some []))).alloc (.loop { state := .ready, pending := none, fn, tmps := a.tmps, params := ps, assign, body, defers := w.heap.size })).heap[w.heap.size]? = some (.deferred (some [])) :=
    (Below.heap_alloc _ _ _ (by simp)).trans (World.alloc_heap_new w _)
  obtain ⟨W1, hW1⟩ : ∃ W1, (w.alloc (.deferred (some []))).alloc (.loop { state := .ready, pending := none, fn, tmps := a.tmps, params := ps, assign, body, defers := w.heap.size }) = W1 := ⟨_, rfl⟩
  have hen := run_enterLoop_outer (P := P) (w := w) fn a.tmps ps assign body
  rw [hW1] at hen hl1 hd1
  refine ⟨w.heap.size + 1, [{ target := .collected w.heap.size, args := #[] }], W1, { target := .fn (.func gf) lb, args := #[.func (.yield (w.heap.size + 1)) #[] #[]] }, W1, gf,
    #[.func (.yield (w.heap.size + 1)) #[] #[]] ++ lb, W1, hen, ?_, fun _ _ => trivial, ?_, fun h => (by simp [Fence.wide] at h), ?_⟩
  · simp only [resolve, hg]
    simp [go_sem]
  · simp [invoke, go_sem, eg]
  · refine (hiter _ _ ⟨hd1, hl1⟩ hW1.symm ?_).mono ?_
    · intro s x W hk hj hp
      have hy := run_yield (P := P) (args := encs x) hk.lp (hps x)
      refine ⟨fn, _, assign, body, hy, roundIn_of_wpIn trivial (hassign s x W _ _ hk hj hp ?_)⟩
      intro a' Wa hb hka hax
      have hk2 := hk.below hb
      refine ⟨_, run_beginRound hk2.lp rfl, ?_⟩
      have hk3 := hk2.put { state := .busy, pending := none, fn, tmps := a.tmps, params := ps, assign, body, defers := w.heap.size }
      refine wpIn_mono (hbody s x a' _ _ hk3 (hA s x a' _ _ _ hk2 hax)) ?_
      rintro e a3 W3 hp3
      cases e with
      | normal =>
        obtain ⟨hbk, hkp, hj3⟩ := hp3
        have hk4 := hbk _ hk3
        exact ⟨_, _, run_endRound none hk4.lp, Or.inl ⟨rfl, hk4.put _, hJ _ _ _ _ hk4 hj3, hKt _ _ _ hka (hKt _ _ _ (hKb _ _ _ hk2) (hKt _ _ _ hkp (hKb _ _ _ hk4)))⟩⟩
      | ret =>
        obtain ⟨hbk, hr3⟩ := hp3
        have hk4 := hbk _ hk3
        exact ⟨_, _, run_endRound (some .ret) hk4.lp, Or.inr ⟨rfl, hk4.put _, hR _ _ _ hk4 hr3⟩⟩
      | exit id => exact hp3.elim
      | goto t => exact hp3.elim
      | panic ch => exact hp3.elim
      | outgrown => exact hp3.elim
    · rintro e W2 ⟨⟨v, rfl⟩, ⟨hk, hq⟩ | ⟨hk, hq⟩⟩
      · exact ⟨none, _, run_endLoop hk.lp (by simp), hq _⟩
      · exact ⟨some .ret, _, run_endLoop hk.lp (by simp [stpL]), hq _⟩
def noDef (ops : Array Oper) : Bool := ops.all fun o => match o.op with | .defer _ => false | _ => true
theorem noDef_at {ops : Array Oper} (h : noDef ops = true) {i : Nat} {o : Oper} (ho : ops[i]? = some o) : ∀ c, o.op ≠ .defer c := fun c e => by
  obtain ⟨hi, hh⟩ := Array.getElem?_eq_some_iff.1 ho
  have h1 := Array.all_eq_true.1 h i hi
  rw [hh, e] at h1
  cases h1
theorem rowsIn_round {l n : Nat} {row : String} {args : Array Value} {w : World} {R : Value → World → Prop} (h : Rows P row args w R) : RowsIn (Fence.wide.inRound l) n P row args w R :=
  fun c cs _ => by
    obtain ⟨v, w', r, s⟩ := h c cs
    exact ⟨v, w', r, stepsIn_wide.2 s⟩
theorem operIn_round {l n : Nat} {o : Oper} {a : Act} {w : World} {K : Act → World → Prop} {Q : Exit → Act → World → Prop} (hd : ∀ c, o.op ≠ .defer c) (h : o.wp P a w K Q) : o.wpIn (Fence.wide.inRound l) n P a w K Q := by
  refine ⟨fun _ _ => trivial, ?_⟩
  show o.uponIn _ n P a K Q ((o.semAt (some l) a.eval).run P w)
  rw [Oper.semAt_some l _ _ hd]
  unfold Oper.wp at h
  generalize (execOp a.eval o).run P w = r at h ⊢
  cases r with
  | ok x w' =>
    cases x with
    | value v => exact h
    | skip => exact h
    | «defer» d => exact h
    | enter f args => exact ⟨fun h9 => by simp [Fence.wide] at h9, CallsIn.inRound l (callsIn_wide.2 h)⟩
    | row row args => exact ⟨fun h9 => by simp [Fence.wide] at h9, rowsIn_round h⟩
    | round l' f tmps assign body => exact h.elim
    | _ => exact h.elim
  | halt x w' => cases x <;> simp only [Oper.upon, Oper.uponIn] at h ⊢ <;> exact h
theorem opIn_round {l n i : Nat} {ops : Array Oper} {a : Act} {w : World} {K : Act → World → Prop} {Q : Exit → Act → World → Prop} (hn : noDef ops = true) (hq : ¬ LetsOut Q) (h : wpOp P ops Q i K a w) : wpOpIn (Fence.wide.inRound l) n P ops Q i K a w := by
  unfold wpOp at h
  unfold wpOpIn
  cases ho : ops[i]? with
  | none =>
    rw [ho] at h
    exact h
  | some o =>
    rw [ho] at h
    simp only at h ⊢
    split at h
    · rename_i hw
      rw [if_pos hw]
      rcases h with h | ⟨_, h⟩
      · exact operIn_round (noDef_at hn ho) h
      · exact absurd h hq
    · rename_i hw
      rw [if_neg hw]
      exact ⟨fun _ _ => trivial, h⟩
theorem anyIn_round {l n : Nat} {ops : Array Oper} {md : Region.Mode} {Q : Exit → Act → World → Prop} (hn : noDef ops = true) (hq : ¬ LetsOut Q) : ∀ (fuel : Nat) (L : Array Bool) (a : Act) (w : World), wpAny P md ops Q fuel L a w → wpAnyIn (Fence.wide.inRound l) n P md ops Q fuel L a w
  | 0, _, _, _, h => h
  | fuel + 1, _, _, _, h => ⟨h.1, fun i hi => opIn_round hn hq (wpOp_mono (fun a w h' => anyIn_round hn hq fuel _ a w h') (h.2 i hi))⟩
theorem region_round {l n id : Nat} {ops : Array Oper} {a : Act} {w : World} {Q : Exit → Act → World → Prop} {S : World → Prop} (hm : P.follows .mixedOrders = true) (hn : noDef ops = true) (hq : ¬ LetsOut Q) (hS : S w.drew)
    (h : S w.drew → wpAnyH P .any ops Q S ops.size (Array.replicate ops.size false) a w.drew) : (Code.region id ops true).wpIn (Fence.wide.inRound l) n P Q a w :=
  wpIn_region_any hm (anyIn_round hn hq _ _ _ _ (wpAny_of_held _ _ _ _ (h hS)))
theorem blk_putLoop {W : World} {D c : Nat} {r : Loop} {cur : Array Value} {t : TypeId} (h : Blk W c cur t) (hk : Bk D r W) (r' : Loop) : Blk (W.putObj (D + 1) (.loop r')) c cur t := cells_putLoop h hk r'
theorem blk_putDfr {W : World} {D c : Nat} {r : Loop} {cur : Array Value} {t : TypeId} (h : Blk W c cur t) (hk : Bk D r W) (o : Obj) : Blk (W.putObj D o) c cur t := cells_putDfr h hk o
theorem KpB.put {base D : Nat} {W : World} {r : Loop} (hk : Bk D r W) (r' : Loop) : KpB base W (W.putObj (D + 1) (.loop r')) := ⟨fun c cur t _ h => blk_putLoop h hk r', fun a X n h => h.putLoop hk r', by simp⟩
theorem KpB.below {base : Nat} {W W' : World} (h : Below W.heap.size W W') : KpB base W W' := ⟨fun c cur t _ k => k.later h, fun a X n k => k.later h, h.size⟩
theorem KpB.ch {base c : Nat} {W W' : World} (k : Ch c W W') (hc : c < base) (hno : ∀ o i, W.cell? ⟨c, o, none⟩ ≠ some (.int .u32 i)) : KpB base W W' := ⟨fun e cur t he h => h.ch k (by omega), fun a X n h => h.ch k hno, Nat.le_of_eq k.size.symm⟩
attribute [local go_sem] Oper.semAt_some
open Classical in
noncomputable def numC (c o : Nat) (W : World) : Nat := if h : ∃ r a n cap, W.cell? ⟨c, o, none⟩ = some (.slice a n cap) ∧ Seg W a r n then h.choose else 0
theorem seg_uniqC {w : World} {a : Option Addr} {X Y n : Nat} (h : Seg w a X n) (k : Seg w a Y n) : X = Y := by
  rcases Nat.eq_zero_or_pos n with h0 | h0
  · subst h0
    rw [h.zero, k.zero]
  · obtain ⟨b, off, rfl, hl, hc⟩ := h.2 h0
    have hk := k.cells
    refine dg_ext h.1 k.1 fun i hi => ?_
    have h1 := hc i hi
    rw [hk i hi] at h1
    simp only [Option.some.injEq, Value.int.injEq, true_and] at h1
    omega
theorem numC_eq {c o : Nat} {W : World} {a : Option Addr} {r n cap : Nat} (hc : W.cell? ⟨c, o, none⟩ = some (.slice a n cap)) (h : Seg W a r n) : numC c o W = r := by
  have hx : ∃ r a n cap, W.cell? ⟨c, o, none⟩ = some (.slice a n cap) ∧ Seg W a r n := ⟨r, a, n, cap, hc, h⟩
  unfold numC
  rw [dif_pos hx]
  have sp := hx.choose_spec
  generalize hx.choose = q at sp ⊢
  obtain ⟨a', n', cap', hc', hs'⟩ := sp
  rw [hc] at hc'
  simp only [Option.some.injEq, Value.slice.injEq] at hc'
  obtain ⟨rfl, rfl, rfl⟩ := hc'
  exact seg_uniqC hs' h
set_option maxRecDepth 100000 in
set_option maxHeartbeats 4000000 in
theorem numbersR_is (D : Nat) (r rS : Loop) (w : World) (cF : Nat) (a b : NV) (J : List NV → World → Prop) (R : World → Prop) (L : List Int)
    (hJb : ∀ s W W', J s W → Below W.heap.size W W' → J s W') (hJc : ∀ s (W W' : World) e, J s W → w.heap.size ≤ e → Ch e W W' → (∀ o i, W.cell? ⟨e, o, none⟩ ≠ some (.int .u32 i)) → J s W')
    (hqF : Blk w cF #[.bool a.s, .slice a.a a.n a.c, .bool false, .slice b.a b.n b.c] 43) (ha : a.ok w) (hb : b.ok w) (hb0 : b.X ≠ 0) (hL : cf a.val b.X = L) (hsz : a.n ≤ 35184372087808 ∧ b.n ≤ 35184372087808) (hJ0 : J [] w) (hk : Bk D r w)
    (hY : ∀ s x W, Bk D r W → J s W → x.ok W → (∃ rest, s.map NV.val ++ x.val :: rest = L) → YieldAt Fence.wide 1 Tryz.prog (D + 1) #[.agg #[.bool x.s, .slice x.a x.n x.c]] W fun e W' => (e = .returned (.bool true) ∧ Bk D r W' ∧ J (s ++ [x]) W' ∧ KpB w.heap.size W W') ∨ (e = .returned (.bool false) ∧ Bk D rS W' ∧ R W')) :
    CallsIn Fence.wide 2 Tryz.prog 84 #[.func (.yield (D + 1)) #[] #[], .pointer (some ⟨cF, 0, none⟩)] w fun e W' => (∃ v, e = .returned v) ∧ ((Bk D r W' ∧ ∃ s, s.map NV.val = L ∧ J s W') ∨ (Bk D rS W' ∧ R W')) := by
  refine callsIn_of_wp Tryz.func84 rfl trivial ?_ rfl
  simp only [Tryz.ntmps84, List.size_toArray, List.length_cons, List.length_nil, Nat.reduceAdd, Nat.reduceSub, Array.replicate_succ, Array.replicate_zero, List.push_toArray, List.append_toArray, List.nil_append, List.cons_append]
  have f0 := hqF.cell 0
  have f1 := hqF.cell 1
  have f2 := hqF.cell 2
  have f3 := hqF.cell 3
  simp only [List.getElem?_toArray, List.getElem?_cons_zero, List.getElem?_cons_succ] at f0 f1 f2 f3
  have HY := hide' hY
  have HJB := hide' hJb
  have HJC := hide' hJc
  clear hY hJb hJc
  gi_wp2
  gi_loopw [] (fun wr => ∃ (s : List NV) (a b : NV), Blk wr w.heap.size #[.bool a.s, .slice a.a a.n a.c, .bool false, .slice b.a b.n b.c] 43 ∧ b.X ≠ 0 ∧ a.ok wr ∧ b.ok wr ∧ (a.n ≤ 35184372087808 ∧ b.n ≤ 35184372087808) ∧ s.map NV.val ++ cf a.val b.X = L ∧ J s wr ∧ Bk D r wr)
    (fun wr => numC w.heap.size 3 wr)
  case atStart =>
    have b0 := (Below.refl w.heap.size w).alloc (Nat.le_refl _) (.cells #[.bool a.s, .slice a.a a.n a.c, .bool false, .slice b.a b.n b.c] 43)
    exact ⟨[], a, b, Blk.new w _ _, hb0, ha.later b0, hb.later b0, hsz, by rw [hL]; rfl, HJB.out _ _ _ hJ0 b0, hk.below b0⟩
  case round =>
    clear f0 f1 f2 f3 hqF ha hb hb0 hL hsz hJ0 hk
    obtain ⟨s, a, b, hX, hV0, ha, hb, hsz, hcf, hJs, hkr⟩ := hrel
    obtain ⟨Zf, Zg, he, hsg, hlt, hle, hcall⟩ := floor_of a.s a.a a.n a.c a.X false b.a b.n b.c b.X ha.2.1 (by omega) hb.2.1 (by omega) hV0
    have hZg := fr_rest hV0 hsg hlt
    obtain ⟨hcd, hcm⟩ := fr_step (A := a.val) (Zf := Zf) (Zg := Zg) hV0 (by simpa [sg, NV.val] using he) hZg.1 hZg.2
    have lF : ln (am Zf) ≤ a.n + 1 := lnp hle ha.1.1
    have lG : ln (am Zg) ≤ b.n := ln_le_of_lt (Nat.lt_trans hlt hb.1.1)
    have hrest : ∃ rest, s.map NV.val ++ Zf :: rest = L := by
      rw [← hcf]
      by_cases h0 : Zg = 0
      · exact ⟨[], by rw [cf_end hV0 (hcm.trans h0), hcd]⟩
      · exact ⟨_, by rw [cf_on hV0 (by rw [hcm]; exact h0), hcd]⟩
    have x0 := hX.cell 0
    have x1 := hX.cell 1
    have x2 := hX.cell 2
    have x3 := hX.cell 3
    simp only [List.getElem?_toArray, List.getElem?_cons_zero, List.getElem?_cons_succ] at x0 x1 x2 x3
    have hme := hide' (numC_eq x3 hb.1)
    have hC := hide' (hcall wr ha.1 hb.1)
    have HF := hide' (And.intro hcf (And.intro hcd hcm))
    have HR := hide' hrest
    have hwl := hX.lt
    clear hcall hcf he hsg hcd hcm hrest
    gi_wp2_with (refine ⟨trivial, ?_⟩; gi_at_call 66; refine (callsIn_wide.2 hC.out).mono ?_; rintro e w2 ⟨aq, ar, rfl, nq, nr⟩)
    clear hC x0 x1 x2 x3
    have b2 := nq.below
    have sz2 := b2.size
    have b4 : Below w2.heap.size w2 ((w2.alloc (.cells #[.bool (ng Zf), .slice aq (ln (am Zf)) (ln (am Zf))] 25)).alloc (.cells #[.bool (ng Zg), .slice ar (ln (am Zg)) (ln (am Zg))] 25)) :=
      ((Below.refl w2.heap.size w2).alloc (Nat.le_refl _) _).alloc (by simp) _
    have bx5 := Blk.new (w2.alloc (.cells #[.bool (ng Zf), .slice aq (ln (am Zf)) (ln (am Zf))] 25)) #[.bool (ng Zg), .slice ar (ln (am Zg)) (ln (am Zg))] 25
    rw [World.size_alloc] at bx5
    have hJ4 := HJB.out _ _ _ (HJB.out _ _ _ hJs b2) b4
    have hk4 := (hkr.below b2).below b4
    have s4q := nq.seg.later b4
    have s4r := nr.seg.later b4
    have sq4 := (hb.later b2).later b4
    have hX4 := (hX.later b2).later b4
    obtain ⟨rest, hrest⟩ := HR.out
    obtain ⟨fn, tmps, assign, body, hy, hR⟩ := HY.out s (⟨ng Zf, aq, ln (am Zf), ln (am Zf), am Zf⟩ : NV) _ hk4 hJ4 ⟨s4q, Nat.le_refl _, by show ln (am Zf) ≤ _; omega⟩ ⟨rest, by show _ ++ sg (ng Zf) (am Zf) :: _ = _; rw [sg_na]; exact hrest⟩
    rw [hy]
    gi_wp2
    refine hR.mono ?_
    clear hR hy hrest rest HR
    rintro e W5 (⟨rfl, hk5, hJ5, hK5⟩ | ⟨rfl, hk5, hR5⟩)
    · have y5 := hK5.blk _ _ _ (by omega) bx5
      have sr5 := hK5.seg _ _ _ s4r
      have sq5 := hK5.ok sq4
      have hX5 := hK5.blk _ _ _ (Nat.le_refl _) hX4
      clear b2 b4 bx5 hJ4 hk4 s4q s4r sq4 hX4 hK5 nq nr hX ha hb hkr hJs
      have y0 := y5.cell 0
      have y1 := y5.cell 1
      simp only [List.getElem?_toArray, List.getElem?_cons_zero, List.getElem?_cons_succ] at y0 y1
      have hC := hide' (wSign_is (ng Zg) ar (ln (am Zg)) (ln (am Zg)) (am Zg) Zg W5 (Nat.le_refl _) (by omega) sr5 (sg_na Zg))
      by_cases h0 : Zg = 0
      · have hs0 := hide' (show sgn Zg = 0 by rw [h0]; rfl)
        have H0 := hide' h0
        clear h0
        gi_wp2_with (refine ⟨trivial, ?_⟩; gi_at_call 24; refine (callsIn_wide.2 hC.out).mono ?_; rintro e w6 ⟨rfl, b6⟩; rw [hs0.out])
        refine bodyPost_ret (results_none rfl _ _ _) rfl ?_
        obtain ⟨hcf, hcd, hcm⟩ := HF.out
        refine ⟨⟨_, rfl⟩, Or.inl ⟨hk5.below b6, _, ?_, HJB.out _ _ _ hJ5 b6⟩⟩
        rw [← hcf, cf_end hV0 (hcm.trans H0.out), hcd, List.map_append]
        show _ ++ [sg (ng Zf) (am Zf)] = _
        rw [sg_na]
      · have hs1 := hide' (show sgn Zg = 1 by simp [sgn, h0]; omega)
        have H0 := hide' h0
        clear h0
        gi_wp2_with (refine ⟨trivial, ?_⟩; gi_at_call 24; refine (callsIn_wide.2 hC.out).mono ?_; rintro e w6 ⟨rfl, b6⟩; rw [hs1.out]; have y6 := y5.later b6; have hX6 := hX5.later b6; have yy0 := y6.cell 0; have yy1 := y6.cell 1; have xx0 := hX6.cell 0; have xx1 := hX6.cell 1; have xx2 := hX6.cell 2; have xx3 := hX6.cell 3; have zz := fun o => hX6.frozen o; simp only [List.getElem?_toArray, List.getElem?_cons_zero, List.getElem?_cons_succ] at yy0 yy1 xx0 xx1 xx2 xx3)
        have hng : ng Zg = false := by simp [ng]; omega
        rw [hng]
        obtain ⟨c7, h7⟩ := hX6.set4 (.bool false) (.slice b.a b.n b.c) (.bool false) (.slice ar (ln (am Zg)) (ln (am Zg)))
        have hno := hX6.no (by simp)
        have hZp : am Zg ≠ 0 := by have := H0.out; unfold am; omega
        have hJ7 := HJC.out _ _ _ _ (HJB.out _ _ _ hJ5 b6) (Nat.le_refl _) c7 hno
        have hk7 := (hk5.below b6).ch c7 hX6
        have sq7 := (sq5.later b6).ch c7 hno
        have sr7 := (sr5.later b6).ch c7 hno
        obtain ⟨hcf, hcd, hcm⟩ := HF.out
        go_roundw
        case rel =>
          refine ⟨s ++ [(⟨ng Zf, aq, ln (am Zf), ln (am Zf), am Zf⟩ : NV)], ⟨false, b.a, b.n, b.c, b.X⟩, ⟨false, ar, ln (am Zg), ln (am Zg), am Zg⟩, h7, hZp, sq7, ⟨sr7, Nat.le_refl _, by show ln (am Zg) ≤ _; omega⟩, ⟨hsz.2, by show ln (am Zg) ≤ _; omega⟩, ?_, hJ7, hk7⟩
          rw [← hcf, cf_on hV0 (by rw [hcm]; exact H0.out), hcd, hcm, List.map_append]
          have e1 : sg false b.X = (b.X : Int) := by simp [sg]
          have e2 : Zg.toNat = am Zg := by unfold am; omega
          show (_ ++ [sg (ng Zf) (am Zf)]) ++ cf (sg false b.X) (am Zg) = _
          rw [e1, e2, sg_na]
          simp
        case measure =>
          have h9 := h7.cell 3
          simp only [List.getElem?_toArray, List.getElem?_cons_zero, List.getElem?_cons_succ] at h9
          rw [hme.out, numC_eq h9 sr7]
          exact hlt
    · gi_wp2
      refine ⟨trivial, ?_⟩
      gi_wp2
      refine bodyPost_ret (results_none rfl _ _ _) rfl ?_
      exact ⟨⟨_, rfl⟩, Or.inr ⟨hk5, hR5⟩⟩
attribute [local go_sem] Oper.semAt_some
theorem results_cc {fn : Func} {p p2 : Tmp} {ty ty2 : TypeId} (h : fn.results = #[.cell p ty, .cell p2 ty2]) (tmps : Array Value) (P : Program) (w : World) :
    (results fn tmps).run P w = ((asAddr (tmps.getD p undef)).run P w).andThen fun a w1 => ((loadVar ty a).run P w1).andThen fun v w2 => ((asAddr (tmps.getD p2 undef)).run P w2).andThen fun a2 w3 => ((loadVar ty2 a2).run P w3).andThen fun v2 w4 => .ok (.tuple #[v, v2]) w4 := by
  simp only [results, h]
  simp [Sem.run_bind]
theorem Blk.set1 {c : Nat} {W : World} {u0 : Value} {t : TypeId} (h : Blk W c #[u0] t) (v0 : Value) :
    Ch c W (W.setCell ⟨c, 0, none⟩ v0) ∧ Blk (W.setCell ⟨c, 0, none⟩ v0) c #[v0] t := by
  refine ⟨Ch.set v0, ?_⟩
  simp [Blk, World.setCell, Array.getElem?_modify, show W.heap[c]? = _ from h]
structure FXB (n₀ cl : Nat) (w0 : World) (A : RatV) (a : Option Addr) (n c M : Nat) (W : World) : Prop where
  qr : Blk W n₀ #[.bool A.s, .slice A.a A.n A.c, .slice A.b A.m A.e] 27
  qo : Blk W (n₀ + 1) #[.bool false, .slice none 0 0, .slice none 0 0] 27
  qe : Blk W (n₀ + 2) #[.int .i64 0] 28
  ql : Blk W cl #[.bool false, .slice a n c] 25
  okA : A.ok W
  sM : Seg W a M n
  bel : Below n₀ w0 W
  lo : n₀ + 2 < cl
theorem FXB.later {n₀ cl : Nat} {w0 : World} {A : RatV} {a : Option Addr} {n c M : Nat} {W W' : World} (h : FXB n₀ cl w0 A a n c M W) (hb : Below W.heap.size W W') : FXB n₀ cl w0 A a n c M W' := by
  have := h.qr.lt
  exact ⟨h.qr.later hb, h.qo.later hb, h.qe.later hb, h.ql.later hb, h.okA.on hb, h.sM.later hb, h.bel.trans (hb.mono (by omega)), h.lo⟩
theorem FXB.ch {n₀ cl e : Nat} {w0 : World} {A : RatV} {a : Option Addr} {n c M : Nat} {W W' : World} (h : FXB n₀ cl w0 A a n c M W) (k : Ch e W W') (he : cl < e) (hno : ∀ o i, W.cell? ⟨e, o, none⟩ ≠ some (.int .u32 i)) : FXB n₀ cl w0 A a n c M W' := by
  have := h.lo
  exact ⟨h.qr.ch k (by omega), h.qo.ch k (by omega), h.qe.ch k (by omega), h.ql.ch k (by omega), h.okA.ch k hno, h.sM.ch k hno, h.bel.trans (k.below (by omega)), h.lo⟩
theorem RatV.ok.putLoop {D : Nat} {r : Loop} {W : World} {q : RatV} (h : q.ok W) (hk : Bk D r W) (r' : Loop) : q.ok (W.putObj (D + 1) (.loop r')) := ⟨h.1.putLoop hk r', h.2.1, h.2.2.1, h.2.2.2.1.putLoop hk r', h.2.2.2.2⟩
theorem RatV.ok.putDfr {D : Nat} {r : Loop} {W : World} {q : RatV} (h : q.ok W) (hk : Bk D r W) (o : Obj) : q.ok (W.putObj D o) := ⟨h.1.putDfr hk o, h.2.1, h.2.2.1, h.2.2.2.1.putDfr hk o, h.2.2.2.2⟩
theorem FXB.put {n₀ cl D : Nat} {w0 : World} {A : RatV} {a : Option Addr} {n c M : Nat} {W : World} {r : Loop} (h : FXB n₀ cl w0 A a n c M W) (hk : Bk D r W) (hD : n₀ ≤ D + 1) (r' : Loop) : FXB n₀ cl w0 A a n c M (W.putObj (D + 1) (.loop r')) :=
  ⟨blk_putLoop h.qr hk r', blk_putLoop h.qo hk r', blk_putLoop h.qe hk r', blk_putLoop h.ql hk r', h.okA.putLoop hk r', h.sM.putLoop hk r', below_putLoop h.bel hk hD _, h.lo⟩
structure JB (n₀ cl B : Nat) (w0 : World) (A : RatV) (a : Option Addr) (n c M : Nat) (s : List NV) (W : World) : Prop where
  ex : ∃ (Z0 Z1 Z2 Z3 : Int) (p0 p1 p2 p3 : Option Addr), cvg (s.map NV.val) ((0, 1), (1, 0)) = ((Z0, Z1), (Z2, Z3)) ∧
    Blk W B #[.bool (ng Z0), .slice p0 (ln (am Z0)) (ln (am Z0)), .bool (ng Z1), .slice p1 (ln (am Z1)) (ln (am Z1)), .bool (ng Z2), .slice p2 (ln (am Z2)) (ln (am Z2)), .bool (ng Z3), .slice p3 (ln (am Z3)) (ln (am Z3))] 68 ∧
    Seg W p0 (am Z0) (ln (am Z0)) ∧ Seg W p1 (am Z1) (ln (am Z1)) ∧ Seg W p2 (am Z2) (ln (am Z2)) ∧ Seg W p3 (am Z3) (ln (am Z3)) ∧
    (Z1 ≤ M ∧ Z3 ≤ M ∧ ln (am Z0) ≤ 1999990 ∧ ln (am Z1) ≤ 1999990 ∧ ln (am Z2) ≤ 1999990 ∧ ln (am Z3) ≤ 1999990)
  fx : FXB n₀ cl w0 A a n c M W
  lo : cl < B
theorem JB.lt {n₀ cl B : Nat} {w0 : World} {A : RatV} {a : Option Addr} {n c M : Nat} {s : List NV} {W : World} (h : JB n₀ cl B w0 A a n c M s W) : B < W.heap.size := by
  obtain ⟨_, _, _, _, _, _, _, _, _, hb, _⟩ := h.ex
  exact hb.lt
theorem JB.below {n₀ cl B : Nat} {w0 : World} {A : RatV} {a : Option Addr} {n c M : Nat} {s : List NV} {W W' : World} (h : JB n₀ cl B w0 A a n c M s W) (hb : Below W.heap.size W W') : JB n₀ cl B w0 A a n c M s W' := by
  obtain ⟨Z0, Z1, Z2, Z3, p0, p1, p2, p3, e, hB, s0, s1, s2, s3, bd⟩ := h.ex
  exact ⟨⟨Z0, Z1, Z2, Z3, p0, p1, p2, p3, e, hB.later hb, s0.later hb, s1.later hb, s2.later hb, s3.later hb, bd⟩, h.fx.later hb, h.lo⟩
theorem JB.ch {n₀ cl B e' : Nat} {w0 : World} {A : RatV} {a : Option Addr} {n c M : Nat} {s : List NV} {W W' : World} (h : JB n₀ cl B w0 A a n c M s W) (k : Ch e' W W') (hc : B < e') (hno : ∀ o i, W.cell? ⟨e', o, none⟩ ≠ some (.int .u32 i)) : JB n₀ cl B w0 A a n c M s W' := by
  obtain ⟨Z0, Z1, Z2, Z3, p0, p1, p2, p3, e, hB, s0, s1, s2, s3, bd⟩ := h.ex
  have := h.lo
  exact ⟨⟨Z0, Z1, Z2, Z3, p0, p1, p2, p3, e, hB.ch k (by omega), s0.ch k hno, s1.ch k hno, s2.ch k hno, s3.ch k hno, bd⟩, h.fx.ch k (by omega) hno, h.lo⟩
theorem JB.put {n₀ cl B D : Nat} {w0 : World} {A : RatV} {a : Option Addr} {n c M : Nat} {s : List NV} {W : World} {r : Loop} (h : JB n₀ cl B w0 A a n c M s W) (hk : Bk D r W) (hD : n₀ ≤ D + 1) (r' : Loop) : JB n₀ cl B w0 A a n c M s (W.putObj (D + 1) (.loop r')) := by
  obtain ⟨Z0, Z1, Z2, Z3, p0, p1, p2, p3, e, hB, s0, s1, s2, s3, bd⟩ := h.ex
  exact ⟨⟨Z0, Z1, Z2, Z3, p0, p1, p2, p3, e, blk_putLoop hB hk r', s0.putLoop hk r', s1.putLoop hk r', s2.putLoop hk r', s3.putLoop hk r', bd⟩, h.fx.put hk hD r', h.lo⟩
structure RB (n₀ : Nat) (w0 : World) (r : Rat) (M : Nat) (W : World) : Prop where
  ex : ∃ (b : Rat) (p q : Option Addr), Nrs r M b ∧ sz 2000000 b ∧ Blk W (n₀ + 1) #[.bool (ng b.num), .slice p (ln (am b.num)) (ln (am b.num)), .slice q (ln b.den) (ln b.den)] 27 ∧ Blk W (n₀ + 2) #[.int .i64 0] 28 ∧ (nR b p q).ok W
  bel : Below n₀ w0 W
theorem RB.put {n₀ D : Nat} {w0 : World} {r : Rat} {M : Nat} {W : World} {l : Loop} (h : RB n₀ w0 r M W) (hk : Bk D l W) (hD : n₀ ≤ D + 1) (l' : Loop) : RB n₀ w0 r M (W.putObj (D + 1) (.loop l')) := by
  obtain ⟨b, p, q, h1, h2, h3, h4, h5⟩ := h.ex
  exact ⟨⟨b, p, q, h1, h2, blk_putLoop h3 hk l', blk_putLoop h4 hk l', h5.putLoop hk l'⟩, below_putLoop h.bel hk hD _⟩
theorem cv_ln {A : RatV} {W : World} {s rest : List Int} {p0 q0 p1 q1 : Int} (hA : A.ok W) (hn : A.n ≤ 1999980 ∧ A.m ≤ 1999980) (e : s ++ rest = cf (rn A.s A.X A.Y) (rd A.Y)) (hc : cvg s ((0, 1), (1, 0)) = ((p0, q0), (p1, q1))) : ln (am p1) ≤ 1999990 ∧ ln (am q1) ≤ 1999990 ∧ 0 ≤ q1 ∧ (s ≠ [] → 0 < q1) := by
  have hd : rd A.Y ≠ 0 := by have := rd_pos A.Y; omega
  obtain ⟨h1, h2, h3, h4⟩ := cvg_bd hd e hc
  have ha := rn_am A.s A.X A.Y
  have hX := hA.1.1
  have hY := rd_lt hA.2.2.2.1.1
  refine ⟨?_, ?_, h2, h4⟩
  · have := lnp (Z := p1) (show am p1 ≤ A.X + 1 by unfold am at *; omega) hX
    omega
  · have := ln_le_of_lt (Nat.lt_of_le_of_lt (show am q1 ≤ rd A.Y by unfold am; omega) hY)
    omega
theorem cv_rat {p q : Int} (hq : 0 < q) (hg : Int.gcd p q = 1) (lp : ln (am p) ≤ 1999990) (lq : ln (am q) ≤ 1999990) : (Rat.divInt p q).num = p ∧ (Rat.divInt p q).den = am q ∧ sz 2000000 (Rat.divInt p q) := by
  obtain ⟨h1, h2⟩ := rat_cop hq hg
  have h3 : (Rat.divInt p q).den = am q := by unfold am; omega
  exact ⟨h1, h3, by rw [h1]; omega, by rw [h3]; omega⟩
def BestA (w : World) (r : Rat) (M : Nat) (e : Ending) (w' : World) : Prop :=
  (M = 0 ∧ e = .returned (.tuple #[.agg #[.bool false, .slice none 0 0, .slice none 0 0], .int .i64 11]) ∧ Below w.heap.size w w') ∨
  (M ≠ 0 ∧ ∃ (b : Rat) (p q : Option Addr), Nrs r M b ∧ sz 2000000 b ∧ e = .returned (.tuple #[.agg #[.bool (ng b.num), .slice p (ln (am b.num)) (ln (am b.num)), .slice q (ln b.den) (ln b.den)], .int .i64 0]) ∧ Below w.heap.size w w' ∧ (nR b p q).ok w')
set_option maxHeartbeats 8000000 in
set_option maxRecDepth 100000 in
theorem Best_zero (A : RatV) (a : Option Addr) (n c M : Nat) (w : World) (hA : A.ok w) (hn : A.n ≤ 1999980 ∧ A.m ≤ 1999980) (hc : n ≤ c) (hm : n ≤ 35184372087808) (hS : Seg w a M n) (h0 : M = 0) : Calls Tryz.prog 17 #[.agg #[.bool A.s, .slice A.a A.n A.c, .slice A.b A.m A.e], .slice a n c] w (BestA w A.val M) := by
  have GB := hide' (fun w' k => (Bits_any a n c M w' hc (by omega) k).mono (fun e w2 h => (show e = .returned (.int .i64 0) ∧ Below w'.heap.size w' w2 from ⟨by rw [h.1, h0, bl_zero]; rfl, h.2 ▸ Below.refl _ _⟩)))
  have bel : Below w.heap.size w w := Below.refl _ _
  have bb := below_alloc (w := w) (.cells #[.bool A.s, .slice A.a A.n A.c, .slice A.b A.m A.e] 27)
  replace hS := hS.later bb
  replace hA := hA.on bb
  replace bel := bel.trans (bb.mono bel.size)
  clear bb
  have qr := Blk.new w #[.bool A.s, .slice A.a A.n A.c, .slice A.b A.m A.e] 27
  have bb := below_alloc (w := (w.alloc (.cells #[.bool A.s, .slice A.a A.n A.c, .slice A.b A.m A.e] 27))) (.cells #[.bool false, .slice none 0 0, .slice none 0 0] 27)
  replace hS := hS.later bb
  replace qr := qr.later bb
  replace hA := hA.on bb
  replace bel := bel.trans (bb.mono bel.size)
  clear bb
  have qo := Blk.new (w.alloc (.cells #[.bool A.s, .slice A.a A.n A.c, .slice A.b A.m A.e] 27)) #[.bool false, .slice none 0 0, .slice none 0 0] 27
  simp only [World.size_alloc] at qo
  have bb := below_alloc (w := ((w.alloc (.cells #[.bool A.s, .slice A.a A.n A.c, .slice A.b A.m A.e] 27)).alloc (.cells #[.bool false, .slice none 0 0, .slice none 0 0] 27))) (.cells #[.int .i64 0] 28)
  replace hS := hS.later bb
  replace qr := qr.later bb
  replace qo := qo.later bb
  replace hA := hA.on bb
  replace bel := bel.trans (bb.mono bel.size)
  clear bb
  have qe := Blk.new ((w.alloc (.cells #[.bool A.s, .slice A.a A.n A.c, .slice A.b A.m A.e] 27)).alloc (.cells #[.bool false, .slice none 0 0, .slice none 0 0] 27)) #[.int .i64 0] 28
  simp only [World.size_alloc] at qe
  refine (callsIn_wide (n := 3)).1 ?_
  refine callsIn_of_wp_marks Tryz.func17 rfl trivial ?_ rfl
  simp only [Tryz.ntmps17, List.size_toArray, List.length_cons, List.length_nil, Nat.reduceAdd, Nat.reduceSub, Array.replicate_succ, Array.replicate_zero, List.push_toArray, List.append_toArray, List.nil_append, List.cons_append]
  refine wpIn_wide.2 ?_
  go_wp2_with fail
  obtain ⟨W0, hW⟩ : ∃ W, (((w.alloc (.cells #[.bool A.s, .slice A.a A.n A.c, .slice A.b A.m A.e] 27)).alloc (.cells #[.bool false, .slice none 0 0, .slice none 0 0] 27)).alloc (.cells #[.int .i64 0] 28)) = W := ⟨_, rfl⟩
  rw [hW] at bel hS qr qo qe hA ⊢
  clear hW
  refine (GB.out _ hS).mono ?_
  rintro e w1 ⟨rfl, b1⟩
  have bb := b1
  replace hS := hS.later bb
  replace qr := qr.later bb
  replace qo := qo.later bb
  replace qe := qe.later bb
  replace hA := hA.on bb
  replace bel := bel.trans (bb.mono bel.size)
  clear bb
  clear b1
  have qo_0 := qo.cell 0
  have qo_1 := qo.cell 1
  have qo_2 := qo.cell 2
  have qe_0 := qe.cell 0
  simp only [List.getElem?_toArray, List.getElem?_cons_zero, List.getElem?_cons_succ] at qo_0 qo_1 qo_2 qe_0
  have fz := fun o => qo.frozen o
  have fz2 := fun o => qe.frozen o
  go_wp2
  obtain ⟨c9, q9⟩ := qo.set3 (.bool false) (.slice none 0 0) (.slice none 0 0)
  have hno := qo.no (by simp)
  have q8 := qe.ch c9 (by omega)
  obtain ⟨c8, q7⟩ := q8.set1 (.int .i64 11)
  have hno8 := q8.no (by simp)
  have q6 := q9.ch c8 (by omega)
  have bE := bel.trans ((c9.below (by omega)).trans (c8.below (by omega)))
  clear qo_0 qo_1 qo_2 qe_0
  clear fz fz2
  have v0 := q6.cell 0
  have v1 := q6.cell 1
  have v2 := q6.cell 2
  have v3 := q7.cell 0
  simp only [List.getElem?_toArray, List.getElem?_cons_zero, List.getElem?_cons_succ] at v0 v1 v2 v3
  refine ⟨.tuple #[.agg #[.bool false, .slice none 0 0, .slice none 0 0], .int .i64 11], by rw [results_cc rfl]; go_simp, Or.inl ⟨h0, rfl, bE⟩⟩
set_option maxHeartbeats 8000000 in
set_option maxRecDepth 100000 in
theorem Best_pos (A : RatV) (a : Option Addr) (n c M : Nat) (w : World) (hA : A.ok w) (hn : A.n ≤ 1999980 ∧ A.m ≤ 1999980) (hc : n ≤ c) (hm : n ≤ 35184372087808) (hS : Seg w a M n) (h0 : M ≠ 0) : Calls Tryz.prog 17 #[.agg #[.bool A.s, .slice A.a A.n A.c, .slice A.b A.m A.e], .slice a n c] w (BestA w A.val M) := by
  have hb0 := bl_pos h0
  obtain ⟨bM, hbM⟩ : ∃ b : Int, ((bl M : Nat) : Int) = b := ⟨_, rfl⟩
  have hb1 : ¬ bM = 0 := by omega
  have GB := hide' (fun w' k => (Bits_any a n c M w' hc (by omega) k).mono (fun e w2 h => (show e = .returned (.int .i64 bM) ∧ Below w'.heap.size w' w2 from ⟨by rw [h.1, hbM], h.2 ▸ Below.refl _ _⟩)))
  obtain ⟨O, hO⟩ : ∃ O : Int, O = 0 := ⟨_, rfl⟩
  obtain ⟨I, hI⟩ : ∃ I : Int, I = 1 := ⟨_, rfl⟩
  have GI := hide' (beginning_is O I hO hI)
  have HO := hide' (And.intro hO hI)
  have GR := hide' (fun w' (k : A.ok w') => read_is A.s A.a A.n A.c A.X A.b A.m A.e A.Y 1999980 w' k.2.1 hn.1 k.1 k.2.2.2.2.1 hn.2 k.2.2.2.1 (by omega) (by omega))
  have H0 := hide' h0
  clear hbM hb0 hO hI h0
  have bel : Below w.heap.size w w := Below.refl _ _
  have bb := below_alloc (w := w) (.cells #[.bool A.s, .slice A.a A.n A.c, .slice A.b A.m A.e] 27)
  replace hS := hS.later bb
  replace hA := hA.on bb
  replace bel := bel.trans (bb.mono bel.size)
  clear bb
  have qr := Blk.new w #[.bool A.s, .slice A.a A.n A.c, .slice A.b A.m A.e] 27
  have bb := below_alloc (w := (w.alloc (.cells #[.bool A.s, .slice A.a A.n A.c, .slice A.b A.m A.e] 27))) (.cells #[.bool false, .slice none 0 0, .slice none 0 0] 27)
  replace hS := hS.later bb
  replace qr := qr.later bb
  replace hA := hA.on bb
  replace bel := bel.trans (bb.mono bel.size)
  clear bb
  have qo := Blk.new (w.alloc (.cells #[.bool A.s, .slice A.a A.n A.c, .slice A.b A.m A.e] 27)) #[.bool false, .slice none 0 0, .slice none 0 0] 27
  simp only [World.size_alloc] at qo
  have bb := below_alloc (w := ((w.alloc (.cells #[.bool A.s, .slice A.a A.n A.c, .slice A.b A.m A.e] 27)).alloc (.cells #[.bool false, .slice none 0 0, .slice none 0 0] 27))) (.cells #[.int .i64 0] 28)
  replace hS := hS.later bb
  replace qr := qr.later bb
  replace qo := qo.later bb
  replace hA := hA.on bb
  replace bel := bel.trans (bb.mono bel.size)
  clear bb
  have qe := Blk.new ((w.alloc (.cells #[.bool A.s, .slice A.a A.n A.c, .slice A.b A.m A.e] 27)).alloc (.cells #[.bool false, .slice none 0 0, .slice none 0 0] 27)) #[.int .i64 0] 28
  simp only [World.size_alloc] at qe
  refine (callsIn_wide (n := 3)).1 ?_
  refine callsIn_of_wp_marks Tryz.func17 rfl trivial ?_ rfl
  simp only [Tryz.ntmps17, List.size_toArray, List.length_cons, List.length_nil, Nat.reduceAdd, Nat.reduceSub, Array.replicate_succ, Array.replicate_zero, List.push_toArray, List.append_toArray, List.nil_append, List.cons_append]
  refine wpIn_wide.2 ?_
  go_wp2_with fail
  obtain ⟨W0, hW⟩ : ∃ W, (((w.alloc (.cells #[.bool A.s, .slice A.a A.n A.c, .slice A.b A.m A.e] 27)).alloc (.cells #[.bool false, .slice none 0 0, .slice none 0 0] 27)).alloc (.cells #[.int .i64 0] 28)) = W := ⟨_, rfl⟩
  rw [hW] at bel hS qr qo qe hA ⊢
  clear hW
  refine (GB.out _ hS).mono ?_
  rintro e w1 ⟨rfl, b1⟩
  have bb := b1
  replace hS := hS.later bb
  replace qr := qr.later bb
  replace qo := qo.later bb
  replace qe := qe.later bb
  replace hA := hA.on bb
  replace bel := bel.trans (bb.mono bel.size)
  clear bb
  clear b1
  clear GB
  have lqlqr := qr.lt
  have lqlqo := qo.lt
  have lqlqe := qe.lt
  have bb := below_alloc (w := w1) (.cells #[.bool false, .slice a n c] 25)
  replace hS := hS.later bb
  replace qr := qr.later bb
  replace qo := qo.later bb
  replace qe := qe.later bb
  replace hA := hA.on bb
  replace bel := bel.trans (bb.mono bel.size)
  clear bb
  have ql := Blk.new w1 #[.bool false, .slice a n c] 25
  go_wp2_with fail
  obtain ⟨wL, hW⟩ : ∃ W, (w1.alloc (.cells #[.bool false, .slice a n c] 25)) = W := ⟨_, rfl⟩
  rw [hW] at bel hS qr qo qe ql hA ⊢
  clear hW
  refine (GI.out _).mono ?_
  rintro e w2 ⟨p0, p1, p2, p3, rfl, b1, k0, k1, k2, k3⟩
  have bb := b1
  replace hS := hS.later bb
  replace qr := qr.later bb
  replace qo := qo.later bb
  replace qe := qe.later bb
  replace ql := ql.later bb
  replace hA := hA.on bb
  replace bel := bel.trans (bb.mono bel.size)
  clear bb
  clear b1
  clear GI
  have lqcqr := qr.lt
  have lqcqo := qo.lt
  have lqcqe := qe.lt
  have lqcql := ql.lt
  have bb := below_alloc (w := w2) (.cells #[.bool (ng O), .slice p0 (ln (am O)) (ln (am O)), .bool (ng I), .slice p1 (ln (am I)) (ln (am I)), .bool (ng I), .slice p2 (ln (am I)) (ln (am I)), .bool (ng O), .slice p3 (ln (am O)) (ln (am O))] 68)
  replace hS := hS.later bb
  replace qr := qr.later bb
  replace qo := qo.later bb
  replace qe := qe.later bb
  replace ql := ql.later bb
  replace k0 := k0.later bb
  replace k1 := k1.later bb
  replace k2 := k2.later bb
  replace k3 := k3.later bb
  replace hA := hA.on bb
  replace bel := bel.trans (bb.mono bel.size)
  clear bb
  have qc := Blk.new w2 #[.bool (ng O), .slice p0 (ln (am O)) (ln (am O)), .bool (ng I), .slice p1 (ln (am I)) (ln (am I)), .bool (ng I), .slice p2 (ln (am I)) (ln (am I)), .bool (ng O), .slice p3 (ln (am O)) (ln (am O))] 68
  have qr_0 := qr.cell 0
  have qr_1 := qr.cell 1
  have qr_2 := qr.cell 2
  simp only [List.getElem?_toArray, List.getElem?_cons_zero, List.getElem?_cons_succ] at qr_0 qr_1 qr_2
  go_wp2_with fail
  clear qr_0 qr_1 qr_2
  obtain ⟨wC, hW⟩ : ∃ W, (w2.alloc (.cells #[.bool (ng O), .slice p0 (ln (am O)) (ln (am O)), .bool (ng I), .slice p1 (ln (am I)) (ln (am I)), .bool (ng I), .slice p2 (ln (am I)) (ln (am I)), .bool (ng O), .slice p3 (ln (am O)) (ln (am O))] 68)) = W := ⟨_, rfl⟩
  rw [hW] at bel hS qr qo qe ql k0 k1 k2 k3 qc hA ⊢
  clear hW
  refine (GR.out _ hA).mono ?_
  rintro e w3 ⟨zs, zp, zn, zc, zX, zq, zm, zd, rfl, ga, gb, gc, gd, kS, kT, ge, b1⟩
  have bb := b1
  replace hS := hS.later bb
  replace qr := qr.later bb
  replace qo := qo.later bb
  replace qe := qe.later bb
  replace ql := ql.later bb
  replace k0 := k0.later bb
  replace k1 := k1.later bb
  replace k2 := k2.later bb
  replace k3 := k3.later bb
  replace qc := qc.later bb
  replace hA := hA.on bb
  replace bel := bel.trans (bb.mono bel.size)
  clear bb
  clear b1
  clear GR
  go_wp2_with fail
  refine (numbers_is zs zp zn zc false zq zm zd _).mono ?_
  rintro e wN ⟨rfl, hwN⟩
  subst hwN
  have lqFqr := qr.lt
  have lqFqo := qo.lt
  have lqFqe := qe.lt
  have lqFql := ql.lt
  have lqFqc := qc.lt
  have bb := below_alloc (w := w3) (.cells #[.bool zs, .slice zp zn zc, .bool false, .slice zq zm zd] 43)
  replace hS := hS.later bb
  replace qr := qr.later bb
  replace qo := qo.later bb
  replace qe := qe.later bb
  replace ql := ql.later bb
  replace k0 := k0.later bb
  replace k1 := k1.later bb
  replace k2 := k2.later bb
  replace k3 := k3.later bb
  replace qc := qc.later bb
  replace kS := kS.later bb
  replace kT := kT.later bb
  replace hA := hA.on bb
  replace bel := bel.trans (bb.mono bel.size)
  clear bb
  have qF := Blk.new w3 #[.bool zs, .slice zp zn zc, .bool false, .slice zq zm zd] 43
  go_wp2_with fail
  obtain ⟨wR, hW⟩ : ∃ W, (w3.alloc (.cells #[.bool zs, .slice zp zn zc, .bool false, .slice zq zm zd] 43)) = W := ⟨_, rfl⟩
  rw [hW] at bel hS qr qo qe ql k0 k1 k2 k3 qc kS kT qF hA ⊢
  clear hW
  have hlo1 : w.heap.size + 2 < w1.heap.size := by have := lqlqe; omega
  have hlo2 : w1.heap.size < w2.heap.size := by have := lqcql; omega
  have hlo3 : w2.heap.size < wR.heap.size := by have := qc.lt; omega
  have hJ0 : JB w.heap.size w1.heap.size w2.heap.size w A a n c M [] wR := by
    obtain ⟨hO, hI⟩ := HO.out
    have h9 := H0.out
    refine ⟨⟨O, I, I, O, p0, p1, p2, p3, by rw [hO, hI]; rfl, qc, k0, k1, k2, k3, ?_⟩, ⟨qr, qo, qe, ql, hA, hS, bel, hlo1⟩, hlo2⟩
    subst hO
    subst hI
    have e1 : (am 1 : Nat) = 1 := rfl
    have e0 : (am 0 : Nat) = 0 := rfl
    rw [e1, e0, ln_zero, ln_one]
    omega
  have HZ := hide' (And.intro qF (And.intro kS (And.intro kT (And.intro ga (And.intro gb (And.intro gc (And.intro gd ge)))))))
  have hD0 : rd A.Y ≠ 0 := by have := rd_pos A.Y; omega
  have HD0 := hide' hD0
  clear hD0
  clear qF kS kT ga gb gc gd ge qc k0 k1 k2 k3 qr qo qe ql hA hS
  refine (wpIn_wide (n := 3)).1 ?_
  refine range_ret (gf := 84) (lb := #[.pointer (some ⟨w3.heap.size, 0, none⟩)]) rfl (enters_of Tryz.func84 (by kernel_rfl) rfl) (fun x : NV => #[.agg #[.bool x.s, .slice x.a x.n x.c]]) (fun _ => rfl)
    (JB w.heap.size w1.heap.size w2.heap.size w A a n c M) (RB w.heap.size w A.val M) (fun s x W => x.ok W ∧ ∃ rest, s.map NV.val ++ x.val :: rest = cf (rn A.s A.X A.Y) (rd A.Y)) (KpB (wR.heap.size + 2))
    (fun s x a' V => JB w.heap.size w1.heap.size w2.heap.size w A a n c M s V ∧ x.ok V ∧ (∃ rest, s.map NV.val ++ x.val :: rest = cf (rn A.s A.X A.Y) (rd A.Y)) ∧ ∃ Bx, wR.heap.size + 2 ≤ Bx ∧ Blk V Bx #[.bool x.s, .slice x.a x.n x.c] 25 ∧ a' = { tmps := #[.agg #[.bool A.s, .slice A.a A.n A.c, .slice A.b A.m A.e], .slice a n c, .pointer (some ⟨w.heap.size, 0, none⟩), undef, .pointer (some ⟨w.heap.size + 1, 0, none⟩), .pointer (some ⟨w.heap.size + 1 + 1, 0, none⟩), .pointer (some ⟨w1.heap.size, 0, none⟩), .pointer (some ⟨w2.heap.size, 0, none⟩), .pointer (some ⟨Bx, 0, none⟩), undef, .slice a n c, .int .i64 bM, .bool false, undef, .slice a n c, .agg #[.bool false, .slice a n c], .agg #[.bool (ng O), .slice p0 (ln (am O)) (ln (am O)), .bool (ng I), .slice p1 (ln (am I)) (ln (am I)), .bool (ng I), .slice p2 (ln (am I)) (ln (am I)), .bool (ng O), .slice p3 (ln (am O)) (ln (am O))], .agg #[.bool A.s, .slice A.a A.n A.c, .slice A.b A.m A.e], .agg #[.bool zs, .slice zp zn zc, .bool false, .slice zq zm zd], .func (.func 84) #[] #[.pointer (some ⟨w3.heap.size, 0, none⟩)], .agg #[.bool x.s, .slice x.a x.n x.c], undef, undef, undef, undef, undef, undef, undef, undef, undef, undef, undef, undef, undef, undef, undef, undef, undef, undef, undef, undef, undef, undef], defers := [] })
    (fun s W r r' hk h => h.put hk (by omega) r') (fun W r r' hk h => h.put hk (by omega) r') ?hA (fun W r r' hk => KpB.put hk r') (fun A B C h k => h.trans k) ?assign ?body ?iter
  case hA =>
    rintro s x a' W r r' hk ⟨hj, hs, hl, Bx, hbx, hb, rfl⟩
    exact ⟨hj.put hk (by omega) r', ⟨hs.1.putLoop hk r', hs.2⟩, hl, Bx, hbx, blk_putLoop hb hk r', rfl⟩
  case assign =>
    rintro s x W r K hk hj ⟨hs, hl⟩ hK
    have b1 := (Below.refl W.heap.size W).alloc (Nat.le_refl _) (.cells #[.bool x.s, .slice x.a x.n x.c] 25)
    have hWl := hk.lt
    have hK' := hK _ _ b1 (KpB.below b1) ⟨hj.below b1, ⟨hs.1.later b1, hs.2⟩, hl, W.heap.size, by omega, Blk.new W _ _, rfl⟩
    clear hK
    gi_wp2
    exact hK'
  case body =>
    rintro s x a' V r hk ⟨hj, hs, ⟨rest, hrest⟩, Bx, hbx, hb, rfl⟩
    obtain ⟨Z0, Z1, Z2, Z3, p0, p1, p2, p3, e, hB, s0, s1, s2, s3, z1, z3, l0, l1, l2, l3⟩ := hj.ex
    have fx := hj.fx
    have hVl := hk.lt
    obtain ⟨M2, hM2⟩ : ∃ M, Z2 * sg x.s x.X + Z0 = M := ⟨_, rfl⟩
    obtain ⟨M3, hM3⟩ : ∃ M, Z3 * sg x.s x.X + Z1 = M := ⟨_, rfl⟩
    have e8 : cvg (s.map NV.val ++ [x.val]) ((0, 1), (1, 0)) = ((Z2, Z3), (M2, M3)) := by
      unfold cvg at e ⊢
      rw [List.foldl_append, e]
      simp only [List.foldl_cons, List.foldl_nil, cst2, NV.val]
      rw [hM2, hM3]
    obtain ⟨lM2, lM3, nM3, _⟩ := cv_ln fx.okA hn (s := s.map NV.val ++ [x.val]) (rest := rest) (by rw [← hrest]; simp) e8
    obtain ⟨_, _, nZ3, pZ3⟩ := cv_ln fx.okA hn (s := s.map NV.val) (rest := x.val :: rest) hrest e
    have GL := hide' (longer_is Z0 Z1 Z2 Z3 p0 p1 p2 p3 x.s x.a x.n x.c x.X M2 M3 V s0 (by omega) s1 (by omega) s2 (by omega) s3 (by omega) hs.2.1 (by have := hs.2.2; omega) hs.1 hM2 hM3)
    obtain ⟨C, hC⟩ : ∃ C, sgn (M3 - (M : Int)) = C := ⟨_, rfl⟩
    have GC := hide' (fun w' p (k1 : Seg w' p (am M3) (ln (am M3))) (k2 : Seg w' a M n) => wCmp_is (ng M3) p (ln (am M3)) (ln (am M3)) (am M3) false a n c M w' (Nat.le_refl _) (by omega) k1 hc (by omega) k2)
    have eC : sgn (sg (ng M3) (am M3) - sg false M) = C := by rw [sg_na, show sg false M = (M : Int) by simp [sg]]; exact hC
    rw [eC] at GC
    clear eC
    have HE := hide' (And.intro e (And.intro e8 (And.intro hM3 (And.intro hrest hM2))))
    have HC := hide' hC
    clear e e8 hrest hC hM2 hM3
    skip
    have x0 := hB.cell 0; have x1 := hB.cell 1; have x2 := hB.cell 2; have x3 := hB.cell 3; have x4 := hB.cell 4; have x5 := hB.cell 5; have x6 := hB.cell 6; have x7 := hB.cell 7; simp only [List.getElem?_toArray, List.getElem?_cons_zero, List.getElem?_cons_succ] at x0 x1 x2 x3 x4 x5 x6 x7
    have y0 := hb.cell 0; have y1 := hb.cell 1; simp only [List.getElem?_toArray, List.getElem?_cons_zero, List.getElem?_cons_succ] at y0 y1
    gi_wp2_with (refine ⟨trivial, ?_⟩; gi_at_call 48; refine (CallsIn.inRound (wR.heap.size + 1) (callsIn_wide.2 GL.out)).mono ?_; rintro e w5 ⟨pa, pb, rfl, b5, ka, kb⟩; have bA := below_alloc (w := w5) (.cells #[.bool (ng Z2), .slice p2 (ln (am Z2)) (ln (am Z2)), .bool (ng Z3), .slice p3 (ln (am Z3)) (ln (am Z3)), .bool (ng M2), .slice pa (ln (am M2)) (ln (am M2)), .bool (ng M3), .slice pb (ln (am M3)) (ln (am M3))] 68); have hl5 := (fx.ql.later b5).later bA; have u0 := hl5.cell 0; have u1 := hl5.cell 1; simp only [List.getElem?_toArray, List.getElem?_cons_zero, List.getElem?_cons_succ] at u0 u1)
    clear x0 x1 x2 x3 x4 x5 x6 x7 y0 y1 u0 u1 hl5 GL
    have h5s := b5.size
    have q9 := Blk.new w5 #[.bool (ng Z2), .slice p2 (ln (am Z2)) (ln (am Z2)), .bool (ng Z3), .slice p3 (ln (am Z3)) (ln (am Z3)), .bool (ng M2), .slice pa (ln (am M2)) (ln (am M2)), .bool (ng M3), .slice pb (ln (am M3)) (ln (am M3))] 68
    have b6 := b5.trans (bA.mono b5.size)
    obtain ⟨W6, hW6⟩ : ∃ W, w5.alloc (.cells #[.bool (ng Z2), .slice p2 (ln (am Z2)) (ln (am Z2)), .bool (ng Z3), .slice p3 (ln (am Z3)) (ln (am Z3)), .bool (ng M2), .slice pa (ln (am M2)) (ln (am M2)), .bool (ng M3), .slice pb (ln (am M3)) (ln (am M3))] 68) = W := ⟨_, rfl⟩
    replace ka := ka.later bA
    replace kb := kb.later bA
    rw [hW6] at q9 b6 ka kb ⊢
    clear hW6 bA b5
    have fx6 := fx.later b6
    have hB6 := hB.later b6
    replace s0 := s0.later b6
    replace s1 := s1.later b6
    replace s2 := s2.later b6
    replace s3 := s3.later b6
    have hk6 : ∀ r9, Bk wR.heap.size r9 V → Bk wR.heap.size r9 W6 := fun r9 h => h.below b6
    by_cases hgt : (M : Int) < M3
    · skip
      have hC1 : C = 1 := by rw [← HC.out]; unfold sgn; rw [if_neg (by omega), if_neg (by omega)]
      subst hC1
      obtain ⟨e, e8, hM3, hrest, hM2⟩ := HE.out
      have hne : s.map NV.val ≠ [] := fun h9 => by
        rw [h9] at e
        simp only [cvg, List.foldl_nil, Prod.mk.injEq] at e
        obtain ⟨⟨_, rfl⟩, _, rfl⟩ := e
        have := H0.out
        omega
      have hpos := pZ3 hne
      have hBs : Bs (rn A.s A.X A.Y) (rd A.Y) M Z0 Z1 Z2 Z3 x.val := bs_of HD0.out (by have := H0.out; omega) hrest e (by rw [show x.val = sg x.s x.X from rfl, hM3]; exact hgt) z1 z3
      obtain ⟨T, hT⟩ : ∃ T, ((M : Int) - Z1) / Z3 = T := ⟨_, rfl⟩
      obtain ⟨PB, hPB⟩ : ∃ T9, Z2 * T + Z0 = T9 := ⟨_, rfl⟩
      obtain ⟨QB, hQB⟩ : ∃ T9, Z3 * T + Z1 = T9 := ⟨_, rfl⟩
      have hDp : 0 < rd A.Y := rd_pos _
      obtain ⟨g1, g2, g3, g4, g5, g6⟩ := hBs.two hDp hT hPB hQB
      obtain ⟨f1, f2, f3, f4⟩ := hBs.big hDp hT hPB hQB
      have hZ1n := hBs.n0
      have hX := fx.okA.1.1
      have hY := rd_lt fx.okA.2.2.2.1.1
      have haX := rn_am A.s A.X A.Y
      have lPB : ln (am PB) ≤ 1999990 := by
        have := lnp (Z := PB) (show am PB ≤ A.X + 1 by unfold am at *; omega) hX
        omega
      have lQB : ln (am QB) ≤ 1999990 := by
        have := ln_le_of_lt (Nat.lt_of_le_of_lt (show am QB ≤ rd A.Y by unfold am; omega) hY)
        omega
      obtain ⟨an, ad, asz⟩ := cv_rat hpos g1 l2 l3
      obtain ⟨bn, bd, bsz⟩ := cv_rat g3 g2 lPB lQB
      have eV : A.val = Rat.divInt (rn A.s A.X A.Y) ((rd A.Y : Nat) : Int) := rfl
      rw [← eV] at g5 g6
      clear eV
      generalize Rat.divInt Z2 Z3 = ra at an ad asz g5 g6
      generalize Rat.divInt PB QB = rb at bn bd bsz g5 g6
      have GU := hide' (fun w' k0 k1 k2 k3 k4 => upTo_is Z0 Z1 Z2 Z3 T p0 p1 p2 p3 a n c M PB QB w' k0 (by omega) k1 (by omega) k2 (by omega) k3 (by omega) hc hm k4 hpos ⟨hZ1n, z1⟩ hT hPB hQB)
      have GR1 : Hid (∀ w', Calls Tryz.prog 51 #[.agg #[.bool (ng Z2), .slice p2 (ln (am Z2)) (ln (am Z2)), .bool (ng Z3), .slice p3 (ln (am Z3)) (ln (am Z3))]] w' fun e w2 => e = .returned (.agg #[.bool (ng ra.num), .slice p2 (ln (am ra.num)) (ln (am ra.num)), .slice p3 (ln ra.den) (ln ra.den)]) ∧ Below w'.heap.size w' w2) := fun w' => (frat_is Z2 Z3 p2 p3 w').mono (fun e w2 h => ⟨by rw [h.1, an, ad], h.2⟩)
      have GR2 : Hid (∀ w' pc pd, Calls Tryz.prog 51 #[.agg #[.bool (ng PB), .slice pc (ln (am PB)) (ln (am PB)), .bool (ng QB), .slice pd (ln (am QB)) (ln (am QB))]] w' fun e w2 => e = .returned (.agg #[.bool (ng rb.num), .slice pc (ln (am rb.num)) (ln (am rb.num)), .slice pd (ln rb.den) (ln rb.den)]) ∧ Below w'.heap.size w' w2) := fun w' pc pd => (frat_is PB QB pc pd w').mono (fun e w2 h => ⟨by rw [h.1, bn, bd], h.2⟩)
      have GN := hide' (fun w' pc pd k1 k2 k3 => nearer_is A ra rb p2 p3 pc pd w' k1 k2 k3 ⟨by omega, by omega⟩ (szV k1 (by omega) (by omega)) asz bsz)
      have GOA := hide' (fun (W : World) (k1 : Seg W p2 (am Z2) (ln (am Z2))) (k2 : Seg W p3 (am Z3) (ln (am Z3))) => (show (nR ra p2 p3).ok W from ⟨by show Seg W p2 (am ra.num) (ln (am ra.num)); rw [an]; exact k1, Nat.le_refl _, by show ln (am ra.num) ≤ _; rw [an]; omega, by show Seg W p3 ra.den (ln ra.den); rw [ad]; exact k2, Nat.le_refl _, by show ln ra.den ≤ _; rw [ad]; omega⟩))
      have GOB := hide' (fun (W : World) pc pd (k1 : Seg W pc (am PB) (ln (am PB))) (k2 : Seg W pd (am QB) (ln (am QB))) => (show (nR rb pc pd).ok W from ⟨by show Seg W pc (am rb.num) (ln (am rb.num)); rw [bn]; exact k1, Nat.le_refl _, by show ln (am rb.num) ≤ _; rw [bn]; omega, by show Seg W pd rb.den (ln rb.den); rw [bd]; exact k2, Nat.le_refl _, by show ln rb.den ≤ _; rw [bd]; omega⟩))
      have HG := hide' (And.intro g5 (And.intro g6 (And.intro asz bsz)))
      clear e e8 hM3 hrest hM2 hBs hT hPB hQB g1 g2 g3 g4 g5 g6 f1 f2 f3 f4 hX hY haX an ad asz bn bd bsz hne hgt
      gi_wp2_with (refine ⟨trivial, ?_⟩; gi_at_call 49; refine (CallsIn.inRound (wR.heap.size + 1) (callsIn_wide.2 (GC.out _ pb kb fx6.sM))).mono ?_; rintro e w7 ⟨rfl, b7⟩)
      clear GC
      have fx7 := fx6.later b7
      have qc := hB6.later b7
      have bV := b6.trans (b7.mono b6.size)
      have qr := fx7.qr
      have qo := fx7.qo
      have qe := fx7.qe
      have ql := fx7.ql
      have hA := fx7.okA
      have sM := fx7.sM
      have bN := fx7.bel
      have hlo9 := hj.lo
      replace s0 := s0.later b7
      replace s1 := s1.later b7
      replace s2 := s2.later b7
      replace s3 := s3.later b7
      clear fx7 fx6 hB6 b6 b7 q9 ka kb hk6 hj fx hB hb hs
      have qr_0 := qr.cell 0
      have qr_1 := qr.cell 1
      have qr_2 := qr.cell 2
      have qc_0 := qc.cell 0
      have qc_1 := qc.cell 1
      have qc_2 := qc.cell 2
      have qc_3 := qc.cell 3
      have qc_4 := qc.cell 4
      have qc_5 := qc.cell 5
      have qc_6 := qc.cell 6
      have qc_7 := qc.cell 7
      have ql_0 := ql.cell 0
      have ql_1 := ql.cell 1
      simp only [List.getElem?_toArray, List.getElem?_cons_zero, List.getElem?_cons_succ] at qr_0 qr_1 qr_2 qc_0 qc_1 qc_2 qc_3 qc_4 qc_5 qc_6 qc_7 ql_0 ql_1
      have bD : Below w7.heap.size w7 w7.drew := (Below.refl _ _).drew
      have kqr_0 := below_cell bD qr_0
      have kqr_1 := below_cell bD qr_1
      have kqr_2 := below_cell bD qr_2
      have kqc_0 := below_cell bD qc_0
      have kqc_1 := below_cell bD qc_1
      have kqc_2 := below_cell bD qc_2
      have kqc_3 := below_cell bD qc_3
      have kqc_4 := below_cell bD qc_4
      have kqc_5 := below_cell bD qc_5
      have kqc_6 := below_cell bD qc_6
      have kqc_7 := below_cell bD qc_7
      have kql_0 := below_cell bD ql_0
      have kql_1 := below_cell bD ql_1
      replace hA := hA.on bD
      replace bN := bN.trans (bD.mono bN.size)
      replace bV := bV.trans (bD.mono bV.size)
      replace qr := qr.later bD
      replace qo := qo.later bD
      replace qe := qe.later bD
      replace ql := ql.later bD
      replace qc := qc.later bD
      replace s0 := s0.later bD
      replace s1 := s1.later bD
      replace s2 := s2.later bD
      replace s3 := s3.later bD
      replace sM := sM.later bD
      refine region_round (S := fun w' => w'.cell? ⟨w.heap.size, 0, none⟩ = some (.bool A.s) ∧ w'.cell? ⟨w.heap.size, 1, none⟩ = some (.slice A.a A.n A.c) ∧ w'.cell? ⟨w.heap.size, 2, none⟩ = some (.slice A.b A.m A.e) ∧ w'.cell? ⟨w2.heap.size, 0, none⟩ = some (.bool (ng Z0)) ∧ w'.cell? ⟨w2.heap.size, 1, none⟩ = some (.slice p0 (ln (am Z0)) (ln (am Z0))) ∧ w'.cell? ⟨w2.heap.size, 2, none⟩ = some (.bool (ng Z1)) ∧ w'.cell? ⟨w2.heap.size, 3, none⟩ = some (.slice p1 (ln (am Z1)) (ln (am Z1))) ∧ w'.cell? ⟨w2.heap.size, 4, none⟩ = some (.bool (ng Z2)) ∧ w'.cell? ⟨w2.heap.size, 5, none⟩ = some (.slice p2 (ln (am Z2)) (ln (am Z2))) ∧ w'.cell? ⟨w2.heap.size, 6, none⟩ = some (.bool (ng Z3)) ∧ w'.cell? ⟨w2.heap.size, 7, none⟩ = some (.slice p3 (ln (am Z3)) (ln (am Z3))) ∧ w'.cell? ⟨w1.heap.size, 0, none⟩ = some (.bool false) ∧ w'.cell? ⟨w1.heap.size, 1, none⟩ = some (.slice a n c)) (by kernel_rfl) (by kernel_rfl) (by rintro ⟨a9, w9, h9⟩; exact h9) ⟨kqr_0, kqr_1, kqr_2, kqc_0, kqc_1, kqc_2, kqc_3, kqc_4, kqc_5, kqc_6, kqc_7, kql_0, kql_1⟩ (fun hHeld => ?_)
      clear kqr_0 kqr_1 kqr_2 kqc_0 kqc_1 kqc_2 kqc_3 kqc_4 kqc_5 kqc_6 kqc_7 kql_0 kql_1
      generalize w7.drew = w0F at bD hA qr qo qe ql qc s0 s1 s2 s3 sM bN bV hHeld ⊢
      clear bD qr_0 qr_1 qr_2 qc_0 qc_1 qc_2 qc_3 qc_4 qc_5 qc_6 qc_7 ql_0 ql_1
      refine tk 0 (v := ?_) rfl (Or.inl ⟨by rfl, ?_⟩) ?_
      rotate_left
      · intro w9 hSw
        go_simp
        first | done | with_reducible rfl
      simp only [pP, pN, pS, pZ, pC]
      refine tk 1 (v := ?_) rfl (Or.inl ⟨by rfl, ?_⟩) ?_
      rotate_left
      · intro w9 hSw
        go_simp
        first | done | with_reducible rfl
      simp only [pP, pN, pS, pZ, pC]
      refine tk 2 (v := ?_) rfl (Or.inl ⟨by rfl, ?_⟩) ?_
      rotate_left
      · intro w9 hSw
        go_simp
        first | done | with_reducible rfl
      simp only [pP, pN, pS, pZ, pC]
      refine tk 4 (v := ?_) rfl (Or.inl ⟨by rfl, ?_⟩) ?_
      rotate_left
      · intro w9 hSw
        go_simp
        first | done | with_reducible rfl
      simp only [pP, pN, pS, pZ, pC]
      refine tk 5 (v := ?_) rfl (Or.inl ⟨by rfl, ?_⟩) ?_
      rotate_left
      · intro w9 hSw
        go_simp
        first | done | with_reducible rfl
      simp only [pP, pN, pS, pZ, pC]
      refine wpAnyH_ready (rs := [3]) (by kernel_rfl) (by simp) ?_
      refine cons' rfl (fun KK hKK => ?_)
      go_simp
      refine (GR1.out _).mono ?_
      rintro e w4 ⟨rfl, b1⟩
      have bC := b1
      replace hA := hA.on bC
      replace bN := bN.trans (bC.mono bN.size)
      replace bV := bV.trans (bC.mono bV.size)
      replace qr := qr.later bC
      replace qo := qo.later bC
      replace qe := qe.later bC
      replace ql := ql.later bC
      replace qc := qc.later bC
      replace s0 := s0.later bC
      replace s1 := s1.later bC
      replace s2 := s2.later bC
      replace s3 := s3.later bC
      replace sM := sM.later bC
      replace hHeld := (⟨below_cell bC hHeld.1, below_cell bC hHeld.2.1, below_cell bC hHeld.2.2.1, below_cell bC hHeld.2.2.2.1, below_cell bC hHeld.2.2.2.2.1, below_cell bC hHeld.2.2.2.2.2.1, below_cell bC hHeld.2.2.2.2.2.2.1, below_cell bC hHeld.2.2.2.2.2.2.2.1, below_cell bC hHeld.2.2.2.2.2.2.2.2.1, below_cell bC hHeld.2.2.2.2.2.2.2.2.2.1, below_cell bC hHeld.2.2.2.2.2.2.2.2.2.2.1, below_cell bC hHeld.2.2.2.2.2.2.2.2.2.2.2.1, below_cell bC hHeld.2.2.2.2.2.2.2.2.2.2.2.2⟩ : _ ∧ _ ∧ _ ∧ _ ∧ _ ∧ _ ∧ _ ∧ _ ∧ _ ∧ _ ∧ _ ∧ _ ∧ _)
      clear bC
      go_wp2_with fail
      clear b1
      refine hKK.out _ _ hHeld ?_
      clear hHeld
      intro hHeld
      clear hKK KK
      try simp only [pP, pN, pS, pZ, pC]
      refine wpAnyH_ready (rs := [6]) (by kernel_rfl) (by simp) ?_
      refine cons' rfl (fun KK hKK => ?_)
      go_simp
      refine (GU.out _ s0 s1 s2 s3 sM).mono ?_
      rintro e w5 ⟨pc, pd, rfl, b1, kc, kd⟩
      have bC := b1
      replace hA := hA.on bC
      replace bN := bN.trans (bC.mono bN.size)
      replace bV := bV.trans (bC.mono bV.size)
      replace qr := qr.later bC
      replace qo := qo.later bC
      replace qe := qe.later bC
      replace ql := ql.later bC
      replace qc := qc.later bC
      replace s0 := s0.later bC
      replace s1 := s1.later bC
      replace s2 := s2.later bC
      replace s3 := s3.later bC
      replace sM := sM.later bC
      replace hHeld := (⟨below_cell bC hHeld.1, below_cell bC hHeld.2.1, below_cell bC hHeld.2.2.1, below_cell bC hHeld.2.2.2.1, below_cell bC hHeld.2.2.2.2.1, below_cell bC hHeld.2.2.2.2.2.1, below_cell bC hHeld.2.2.2.2.2.2.1, below_cell bC hHeld.2.2.2.2.2.2.2.1, below_cell bC hHeld.2.2.2.2.2.2.2.2.1, below_cell bC hHeld.2.2.2.2.2.2.2.2.2.1, below_cell bC hHeld.2.2.2.2.2.2.2.2.2.2.1, below_cell bC hHeld.2.2.2.2.2.2.2.2.2.2.2.1, below_cell bC hHeld.2.2.2.2.2.2.2.2.2.2.2.2⟩ : _ ∧ _ ∧ _ ∧ _ ∧ _ ∧ _ ∧ _ ∧ _ ∧ _ ∧ _ ∧ _ ∧ _ ∧ _)
      clear bC
      go_wp2_with fail
      clear b1
      refine hKK.out _ _ hHeld ?_
      clear hHeld
      intro hHeld
      clear hKK KK
      try simp only [pP, pN, pS, pZ, pC]
      refine wpAnyH_ready (rs := [7]) (by kernel_rfl) (by simp) ?_
      refine cons' rfl (fun KK hKK => ?_)
      go_simp
      refine (GR2.out _ pc pd).mono ?_
      rintro e w6 ⟨rfl, b1⟩
      have bC := b1
      replace hA := hA.on bC
      replace bN := bN.trans (bC.mono bN.size)
      replace bV := bV.trans (bC.mono bV.size)
      replace qr := qr.later bC
      replace qo := qo.later bC
      replace qe := qe.later bC
      replace ql := ql.later bC
      replace qc := qc.later bC
      replace s0 := s0.later bC
      replace s1 := s1.later bC
      replace s2 := s2.later bC
      replace s3 := s3.later bC
      replace sM := sM.later bC
      replace kc := kc.later bC
      replace kd := kd.later bC
      replace hHeld := (⟨below_cell bC hHeld.1, below_cell bC hHeld.2.1, below_cell bC hHeld.2.2.1, below_cell bC hHeld.2.2.2.1, below_cell bC hHeld.2.2.2.2.1, below_cell bC hHeld.2.2.2.2.2.1, below_cell bC hHeld.2.2.2.2.2.2.1, below_cell bC hHeld.2.2.2.2.2.2.2.1, below_cell bC hHeld.2.2.2.2.2.2.2.2.1, below_cell bC hHeld.2.2.2.2.2.2.2.2.2.1, below_cell bC hHeld.2.2.2.2.2.2.2.2.2.2.1, below_cell bC hHeld.2.2.2.2.2.2.2.2.2.2.2.1, below_cell bC hHeld.2.2.2.2.2.2.2.2.2.2.2.2⟩ : _ ∧ _ ∧ _ ∧ _ ∧ _ ∧ _ ∧ _ ∧ _ ∧ _ ∧ _ ∧ _ ∧ _ ∧ _)
      clear bC
      go_wp2_with fail
      clear b1
      refine hKK.out _ _ hHeld ?_
      clear hHeld
      intro hHeld
      clear hKK KK
      try simp only [pP, pN, pS, pZ, pC]
      have oa := GOA.out _ s2 s3
      have ob := GOB.out _ pc pd kc kd
      refine wpAnyH_ready (rs := [8]) (by kernel_rfl) (by simp) ?_
      refine cons' rfl (fun KK hKK => ?_)
      go_simp
      refine (GN.out _ pc pd hA oa ob).mono ?_
      rintro e w7 ⟨bb, pe, pf, hpick, rfl, b1, oc⟩
      have bC := b1
      replace hA := hA.on bC
      replace oa := oa.on bC
      replace ob := ob.on bC
      replace bN := bN.trans (bC.mono bN.size)
      replace bV := bV.trans (bC.mono bV.size)
      replace qr := qr.later bC
      replace qo := qo.later bC
      replace qe := qe.later bC
      replace ql := ql.later bC
      replace qc := qc.later bC
      replace s0 := s0.later bC
      replace s1 := s1.later bC
      replace s2 := s2.later bC
      replace s3 := s3.later bC
      replace sM := sM.later bC
      replace kc := kc.later bC
      replace kd := kd.later bC
      replace hHeld := (⟨below_cell bC hHeld.1, below_cell bC hHeld.2.1, below_cell bC hHeld.2.2.1, below_cell bC hHeld.2.2.2.1, below_cell bC hHeld.2.2.2.2.1, below_cell bC hHeld.2.2.2.2.2.1, below_cell bC hHeld.2.2.2.2.2.2.1, below_cell bC hHeld.2.2.2.2.2.2.2.1, below_cell bC hHeld.2.2.2.2.2.2.2.2.1, below_cell bC hHeld.2.2.2.2.2.2.2.2.2.1, below_cell bC hHeld.2.2.2.2.2.2.2.2.2.2.1, below_cell bC hHeld.2.2.2.2.2.2.2.2.2.2.2.1, below_cell bC hHeld.2.2.2.2.2.2.2.2.2.2.2.2⟩ : _ ∧ _ ∧ _ ∧ _ ∧ _ ∧ _ ∧ _ ∧ _ ∧ _ ∧ _ ∧ _ ∧ _ ∧ _)
      clear bC
      go_wp2_with fail
      clear b1
      refine hKK.out _ _ hHeld ?_
      clear hHeld
      intro hHeld
      clear hKK KK
      try simp only [pP, pN, pS, pZ, pC]
      refine wpAnyH_ready (rs := [9]) (by kernel_rfl) (by simp) ?_
      refine cons' rfl (fun KK hKK => ?_)
      have z0 := qo.cell 0
      have z1 := qo.cell 1
      have z2 := qo.cell 2
      simp only [List.getElem?_toArray, List.getElem?_cons_zero, List.getElem?_cons_succ] at z0 z1 z2
      have fz := fun o => qo.frozen o
      obtain ⟨c9, q9⟩ := qo.set3 (.bool (ng bb.num)) (.slice pe (ln (am bb.num)) (ln (am bb.num))) (.slice pf (ln bb.den) (ln bb.den))
      have hno := qo.no (by simp)
      replace qr := qr.ch c9 (by omega)
      replace qe := qe.ch c9 (by omega)
      replace ql := ql.ch c9 (by omega)
      replace qc := qc.ch c9 (by omega)
      replace s0 := s0.ch c9 hno
      replace s1 := s1.ch c9 hno
      replace s2 := s2.ch c9 hno
      replace s3 := s3.ch c9 hno
      replace sM := sM.ch c9 hno
      replace kc := kc.ch c9 hno
      replace kd := kd.ch c9 hno
      replace hA := hA.ch c9 hno
      replace oa := oa.ch c9 hno
      replace ob := ob.ch c9 hno
      replace oc := oc.ch c9 hno
      replace bN := bN.trans (c9.below (by omega))
      have hBK := fun r9 (h : Bk wR.heap.size r9 V) => (h.below bV).ch c9 qo
      have hH2 := (⟨(World.cell?_of_block (w := w7) (a := ⟨w.heap.size, 0, none⟩) (c9.other (w.heap.size) (by omega))).trans hHeld.1, (World.cell?_of_block (w := w7) (a := ⟨w.heap.size, 1, none⟩) (c9.other (w.heap.size) (by omega))).trans hHeld.2.1, (World.cell?_of_block (w := w7) (a := ⟨w.heap.size, 2, none⟩) (c9.other (w.heap.size) (by omega))).trans hHeld.2.2.1, (World.cell?_of_block (w := w7) (a := ⟨w2.heap.size, 0, none⟩) (c9.other (w2.heap.size) (by omega))).trans hHeld.2.2.2.1, (World.cell?_of_block (w := w7) (a := ⟨w2.heap.size, 1, none⟩) (c9.other (w2.heap.size) (by omega))).trans hHeld.2.2.2.2.1, (World.cell?_of_block (w := w7) (a := ⟨w2.heap.size, 2, none⟩) (c9.other (w2.heap.size) (by omega))).trans hHeld.2.2.2.2.2.1, (World.cell?_of_block (w := w7) (a := ⟨w2.heap.size, 3, none⟩) (c9.other (w2.heap.size) (by omega))).trans hHeld.2.2.2.2.2.2.1, (World.cell?_of_block (w := w7) (a := ⟨w2.heap.size, 4, none⟩) (c9.other (w2.heap.size) (by omega))).trans hHeld.2.2.2.2.2.2.2.1, (World.cell?_of_block (w := w7) (a := ⟨w2.heap.size, 5, none⟩) (c9.other (w2.heap.size) (by omega))).trans hHeld.2.2.2.2.2.2.2.2.1, (World.cell?_of_block (w := w7) (a := ⟨w2.heap.size, 6, none⟩) (c9.other (w2.heap.size) (by omega))).trans hHeld.2.2.2.2.2.2.2.2.2.1, (World.cell?_of_block (w := w7) (a := ⟨w2.heap.size, 7, none⟩) (c9.other (w2.heap.size) (by omega))).trans hHeld.2.2.2.2.2.2.2.2.2.2.1, (World.cell?_of_block (w := w7) (a := ⟨w1.heap.size, 0, none⟩) (c9.other (w1.heap.size) (by omega))).trans hHeld.2.2.2.2.2.2.2.2.2.2.2.1, (World.cell?_of_block (w := w7) (a := ⟨w1.heap.size, 1, none⟩) (c9.other (w1.heap.size) (by omega))).trans hHeld.2.2.2.2.2.2.2.2.2.2.2.2⟩ : _ ∧ _ ∧ _ ∧ _ ∧ _ ∧ _ ∧ _ ∧ _ ∧ _ ∧ _ ∧ _ ∧ _ ∧ _)
      go_simp
      clear z0 z1 z2 fz hno c9
      replace qo := q9
      refine hKK.out _ _ hH2 ?_
      clear hHeld
      intro hHeld
      clear hKK KK
      try simp only [pP, pN, pS, pZ, pC]
      clear hH2
      generalize (((w7.setCell ⟨w.heap.size + 1, 0, none⟩ (.bool (ng bb.num))).setCell ⟨w.heap.size + 1, 1, none⟩ (.slice pe (ln (am bb.num)) (ln (am bb.num)))).setCell ⟨w.heap.size + 1, 2, none⟩ (.slice pf (ln bb.den) (ln bb.den))) = w8 at bN qr qo qe ql qc s0 s1 s2 s3 sM kc kd hA oa ob oc hBK hHeld ⊢
      refine wpAnyH_ready (rs := [10]) (by kernel_rfl) (by simp) ?_
      refine cons' rfl (fun KK hKK => ?_)
      have z0 := qe.cell 0
      simp only [List.getElem?_toArray, List.getElem?_cons_zero, List.getElem?_cons_succ] at z0
      have fz := fun o => qe.frozen o
      obtain ⟨c9, q9⟩ := qe.set1 (.int .i64 0)
      have hno := qe.no (by simp)
      replace qr := qr.ch c9 (by omega)
      replace qo := qo.ch c9 (by omega)
      replace ql := ql.ch c9 (by omega)
      replace qc := qc.ch c9 (by omega)
      replace s0 := s0.ch c9 hno
      replace s1 := s1.ch c9 hno
      replace s2 := s2.ch c9 hno
      replace s3 := s3.ch c9 hno
      replace sM := sM.ch c9 hno
      replace kc := kc.ch c9 hno
      replace kd := kd.ch c9 hno
      replace hA := hA.ch c9 hno
      replace oa := oa.ch c9 hno
      replace ob := ob.ch c9 hno
      replace oc := oc.ch c9 hno
      replace bN := bN.trans (c9.below (by omega))
      replace hBK := fun r9 h => (hBK r9 h).ch c9 qe
      have hH2 := (⟨(World.cell?_of_block (w := w8) (a := ⟨w.heap.size, 0, none⟩) (c9.other (w.heap.size) (by omega))).trans hHeld.1, (World.cell?_of_block (w := w8) (a := ⟨w.heap.size, 1, none⟩) (c9.other (w.heap.size) (by omega))).trans hHeld.2.1, (World.cell?_of_block (w := w8) (a := ⟨w.heap.size, 2, none⟩) (c9.other (w.heap.size) (by omega))).trans hHeld.2.2.1, (World.cell?_of_block (w := w8) (a := ⟨w2.heap.size, 0, none⟩) (c9.other (w2.heap.size) (by omega))).trans hHeld.2.2.2.1, (World.cell?_of_block (w := w8) (a := ⟨w2.heap.size, 1, none⟩) (c9.other (w2.heap.size) (by omega))).trans hHeld.2.2.2.2.1, (World.cell?_of_block (w := w8) (a := ⟨w2.heap.size, 2, none⟩) (c9.other (w2.heap.size) (by omega))).trans hHeld.2.2.2.2.2.1, (World.cell?_of_block (w := w8) (a := ⟨w2.heap.size, 3, none⟩) (c9.other (w2.heap.size) (by omega))).trans hHeld.2.2.2.2.2.2.1, (World.cell?_of_block (w := w8) (a := ⟨w2.heap.size, 4, none⟩) (c9.other (w2.heap.size) (by omega))).trans hHeld.2.2.2.2.2.2.2.1, (World.cell?_of_block (w := w8) (a := ⟨w2.heap.size, 5, none⟩) (c9.other (w2.heap.size) (by omega))).trans hHeld.2.2.2.2.2.2.2.2.1, (World.cell?_of_block (w := w8) (a := ⟨w2.heap.size, 6, none⟩) (c9.other (w2.heap.size) (by omega))).trans hHeld.2.2.2.2.2.2.2.2.2.1, (World.cell?_of_block (w := w8) (a := ⟨w2.heap.size, 7, none⟩) (c9.other (w2.heap.size) (by omega))).trans hHeld.2.2.2.2.2.2.2.2.2.2.1, (World.cell?_of_block (w := w8) (a := ⟨w1.heap.size, 0, none⟩) (c9.other (w1.heap.size) (by omega))).trans hHeld.2.2.2.2.2.2.2.2.2.2.2.1, (World.cell?_of_block (w := w8) (a := ⟨w1.heap.size, 1, none⟩) (c9.other (w1.heap.size) (by omega))).trans hHeld.2.2.2.2.2.2.2.2.2.2.2.2⟩ : _ ∧ _ ∧ _ ∧ _ ∧ _ ∧ _ ∧ _ ∧ _ ∧ _ ∧ _ ∧ _ ∧ _ ∧ _)
      go_simp
      clear z0 fz hno c9
      replace qe := q9
      refine hKK.out _ _ hH2 ?_
      clear hHeld
      intro hHeld
      clear hKK KK
      try simp only [pP, pN, pS, pZ, pC]
      clear hH2
      generalize (w8.setCell ⟨w.heap.size + 1 + 1, 0, none⟩ (.int .i64 0)) = w9 at bN qr qo qe ql qc s0 s1 s2 s3 sM kc kd hA oa ob oc hBK hHeld ⊢
      refine wpAnyH_done (by kernel_rfl) ?_ _
      gi_wp2
      obtain ⟨g5, g6, asz, bsz⟩ := HG.out
      refine ⟨hBK, ⟨⟨bb, pe, pf, ?_, ?_, qo, qe, oc⟩, bN⟩⟩
      · rcases hpick with ⟨h1, rfl⟩ | ⟨h1, rfl⟩
        · exact g5 h1
        · exact g6 h1
      · rcases hpick with ⟨h1, rfl⟩ | ⟨h1, rfl⟩
        · exact asz
        · exact bsz
    · skip
      have hC0 : ¬ (0 < C) := by
        rw [← HC.out]
        unfold sgn
        split
        · omega
        · split <;> omega
      have hB6c := hB6
      have x0 := q9.cell 0; have x1 := q9.cell 1; have x2 := q9.cell 2; have x3 := q9.cell 3; have x4 := q9.cell 4; have x5 := q9.cell 5; have x6 := q9.cell 6; have x7 := q9.cell 7; simp only [List.getElem?_toArray, List.getElem?_cons_zero, List.getElem?_cons_succ] at x0 x1 x2 x3 x4 x5 x6 x7
      gi_wp2_with (refine ⟨trivial, ?_⟩; gi_at_call 49; refine (CallsIn.inRound (wR.heap.size + 1) (callsIn_wide.2 (GC.out _ pb kb fx6.sM))).mono ?_; rintro e w7 ⟨rfl, b7⟩; have q7 := q9.later b7; have qc := hB6.later b7; clear x0 x1 x2 x3 x4 x5 x6 x7; have x0 := q7.cell 0; have x1 := q7.cell 1; have x2 := q7.cell 2; have x3 := q7.cell 3; have x4 := q7.cell 4; have x5 := q7.cell 5; have x6 := q7.cell 6; have x7 := q7.cell 7; simp only [List.getElem?_toArray, List.getElem?_cons_zero, List.getElem?_cons_succ] at x0 x1 x2 x3 x4 x5 x6 x7; have v0 := qc.cell 0; have v1 := qc.cell 1; have v2 := qc.cell 2; have v3 := qc.cell 3; have v4 := qc.cell 4; have v5 := qc.cell 5; have v6 := qc.cell 6; have v7 := qc.cell 7; simp only [List.getElem?_toArray, List.getElem?_cons_zero, List.getElem?_cons_succ] at v0 v1 v2 v3 v4 v5 v6 v7; have fz := fun o => qc.frozen o)
      clear x0 x1 x2 x3 x4 x5 x6 x7 v0 v1 v2 v3 v4 v5 v6 v7 fz GC
      obtain ⟨c9, q8⟩ := qc.set8 (.bool (ng Z2)) (.slice p2 (ln (am Z2)) (ln (am Z2))) (.bool (ng Z3)) (.slice p3 (ln (am Z3)) (ln (am Z3))) (.bool (ng M2)) (.slice pa (ln (am M2)) (ln (am M2))) (.bool (ng M3)) (.slice pb (ln (am M3)) (ln (am M3)))
      have hno := qc.no (by simp)
      obtain ⟨e, e8, hM3, hrest, hM2⟩ := HE.out
      have hlo9 := hj.lo
      have bT := b6.trans (b7.mono b6.size)
      refine ⟨fun r9 h => ((hk6 r9 h).below b7).ch c9 qc, (KpB.below bT).trans (KpB.ch c9 (by omega) hno), ⟨⟨Z2, Z3, M2, M3, p2, p3, pa, pb, ?_, q8, (s2.later b7).ch c9 hno, (s3.later b7).ch c9 hno, (ka.later b7).ch c9 hno, (kb.later b7).ch c9 hno, z3, by omega, l2, l3, lM2, lM3⟩, (fx6.later b7).ch c9 hlo9 hno, hlo9⟩⟩
      rw [List.map_append]
      exact e8
  case iter =>
    intro r W1 hk hW1 hY
    have b1 : Below wR.heap.size wR W1 := by
      rw [hW1]
      exact ((Below.refl wR.heap.size wR).alloc (Nat.le_refl _) _).alloc (by simp) _
    obtain ⟨qF, kS, kT, ga, gb, gc, gd, ge⟩ := HZ.out
    have hW1s : W1.heap.size = wR.heap.size + 2 := by rw [hW1]; simp
    rw [← hW1s] at hY
    refine (numbersR_is wR.heap.size r (stpL r) W1 w3.heap.size ⟨zs, zp, zn, zc, zX⟩ ⟨false, zq, zm, zd, rd A.Y⟩ (JB w.heap.size w1.heap.size w2.heap.size w A a n c M) (RB w.heap.size w A.val M) (cf (rn A.s A.X A.Y) (rd A.Y)) (fun s W W' h hb => h.below hb) (fun s W W' e h he k hno => h.ch k (by omega) hno) (qF.later b1) ⟨kS.later b1, ga, by show zn ≤ _; omega⟩ ⟨kT.later b1, gc, by show zm ≤ _; omega⟩ HD0.out (by show cf (sg zs zX) (rd A.Y) = _; rw [ge]) ⟨by show zn ≤ _; omega, by show zm ≤ _; omega⟩ (hJ0.below b1) hk (fun s x W h1 h2 h3 h4 => hY s x W h1 h2 ⟨h3, h4⟩)).mono ?_
    rintro e W2 ⟨he, ⟨hk2, s, hsL, hj⟩ | ⟨hk2, hR⟩⟩
    · skip
      refine ⟨he, Or.inl ⟨hk2, fun r' => ?_⟩⟩
      have hj2 := hj.put hk2 (by omega) r'
      have hk3 := hk2.put r'
      generalize W2.putObj (wR.heap.size + 1) (.loop r') = W3 at hj2 hk3 ⊢
      clear hj hY hk2
      obtain ⟨Z0, Z1, Z2, Z3, p0, p1, p2, p3, e9, qc, s0, s1, s2, s3, z1, z3, l0, l1, l2, l3⟩ := hj2.ex
      have fx := hj2.fx
      rw [hsL] at e9
      obtain ⟨er, an, ad⟩ := cvg_whole HD0.out e9
      have ad2 : (Rat.divInt (rn A.s A.X A.Y) ((rd A.Y : Nat) : Int)).den = am Z3 := by unfold am; omega
      rw [show Rat.divInt (rn A.s A.X A.Y) ((rd A.Y : Nat) : Int) = A.val from rfl] at an ad ad2 er
      obtain ⟨ra, hra⟩ : ∃ r, A.val = r := ⟨_, rfl⟩
      rw [hra] at an ad ad2 er
      have asz : sz 2000000 ra := ⟨by rw [an]; omega, by rw [ad2]; omega⟩
      have hNr : Nrs ra M ra := nrs_self (by omega)
      have GR1 : Hid (∀ w', Calls Tryz.prog 51 #[.agg #[.bool (ng Z2), .slice p2 (ln (am Z2)) (ln (am Z2)), .bool (ng Z3), .slice p3 (ln (am Z3)) (ln (am Z3))]] w' fun e w2 => e = .returned (.agg #[.bool (ng ra.num), .slice p2 (ln (am ra.num)) (ln (am ra.num)), .slice p3 (ln ra.den) (ln ra.den)]) ∧ Below w'.heap.size w' w2) := fun w' => (frat_is Z2 Z3 p2 p3 w').mono (fun e w2 h => ⟨by rw [h.1, an, ad2], h.2⟩)
      have HN := hide' (And.intro hNr asz)
      have oa : (nR ra p2 p3).ok W3 := ⟨by show Seg W3 p2 (am ra.num) (ln (am ra.num)); rw [an]; exact s2, Nat.le_refl _, by show ln (am ra.num) ≤ _; rw [an]; omega, by show Seg W3 p3 ra.den (ln ra.den); rw [ad2]; exact s3, Nat.le_refl _, by show ln ra.den ≤ _; rw [ad2]; omega⟩
      have HV := hide' hra
      clear e9 er an ad ad2 asz hNr hra s0 s1 s2 s3
      have qo := fx.qo
      have qe := fx.qe
      have bel := fx.bel
      have hlo9 := hj2.lo
      clear hj2 fx
      have qc_0 := qc.cell 0
      have qc_1 := qc.cell 1
      have qc_2 := qc.cell 2
      have qc_3 := qc.cell 3
      have qc_4 := qc.cell 4
      have qc_5 := qc.cell 5
      have qc_6 := qc.cell 6
      have qc_7 := qc.cell 7
      simp only [List.getElem?_toArray, List.getElem?_cons_zero, List.getElem?_cons_succ] at qc_0 qc_1 qc_2 qc_3 qc_4 qc_5 qc_6 qc_7
      go_wp2_with fail
      clear qc_0 qc_1 qc_2 qc_3 qc_4 qc_5 qc_6 qc_7
      refine (GR1.out _).mono ?_
      rintro e w9 ⟨rfl, b9⟩
      have hk9 := hk3.below b9
      replace qo := qo.later b9
      replace qe := qe.later b9
      replace qc := qc.later b9
      replace oa := oa.on b9
      replace bel := bel.trans (b9.mono bel.size)
      clear b9
      have qo_0 := qo.cell 0
      have qo_1 := qo.cell 1
      have qo_2 := qo.cell 2
      have qe_0 := qe.cell 0
      simp only [List.getElem?_toArray, List.getElem?_cons_zero, List.getElem?_cons_succ] at qo_0 qo_1 qo_2 qe_0
      have fz := fun o => qo.frozen o
      have fz2 := fun o => qe.frozen o
      go_wp2
      obtain ⟨c9, q9⟩ := qo.set3 (.bool (ng ra.num)) (.slice p2 (ln (am ra.num)) (ln (am ra.num))) (.slice p3 (ln ra.den) (ln ra.den))
      have hno := qo.no (by simp)
      have q8 := qe.ch c9 (by omega)
      obtain ⟨c8, q7⟩ := q8.set1 (.int .i64 0)
      have hno8 := q8.no (by simp)
      have q6 := q9.ch c8 (by omega)
      have bE := bel.trans ((c9.below (by omega)).trans (c8.below (by omega)))
      clear qo_0 qo_1 qo_2 qe_0
      clear fz fz2
      have hkE := (hk9.ch c9 qo).ch c8 q8
      have oE := ((oa.ch c9 hno).ch c8 hno8).putDfr hkE (.deferred none)
      have q5 := blk_putDfr q6 hkE (.deferred none)
      have q4 := blk_putDfr q7 hkE (.deferred none)
      have v0 := q5.cell 0
      have v1 := q5.cell 1
      have v2 := q5.cell 2
      have v3 := q4.cell 0
      simp only [List.getElem?_toArray, List.getElem?_cons_zero, List.getElem?_cons_succ] at v0 v1 v2 v3
      have bF := below_putDfr bE (show w.heap.size ≤ wR.heap.size by omega) (.deferred none)
      refine ⟨by simp, .inl ⟨_, _, rfl, run_takeDeferred hkE.dfr, ?_⟩⟩
      refine ⟨.tuple #[.agg #[.bool (ng ra.num), .slice p2 (ln (am ra.num)) (ln (am ra.num)), .slice p3 (ln ra.den) (ln ra.den)], .int .i64 0], by rw [results_cc rfl]; go_simp, Or.inr ⟨H0.out, ra, p2, p3, by rw [HV.out]; exact HN.out.1, HN.out.2, rfl, bF, oE⟩⟩
    · skip
      refine ⟨he, Or.inr ⟨hk2, fun r' => ?_⟩⟩
      refine wpIn_ret ?_
      have hR2 := hR.put hk2 (by omega) r'
      have hk3 := hk2.put r'
      generalize W2.putObj (wR.heap.size + 1) (.loop r') = W3 at hR2 hk3 ⊢
      simp only [Exit.inBlock, Exit.then]
      clear hR hY
      obtain ⟨⟨bb, pe, pf, hN, hz, q6, q7, ob⟩, bE⟩ := hR2
      have hkE := hk3
      have oE := ob.putDfr hkE (.deferred none)
      have q5 := blk_putDfr q6 hkE (.deferred none)
      have q4 := blk_putDfr q7 hkE (.deferred none)
      have v0 := q5.cell 0
      have v1 := q5.cell 1
      have v2 := q5.cell 2
      have v3 := q4.cell 0
      simp only [List.getElem?_toArray, List.getElem?_cons_zero, List.getElem?_cons_succ] at v0 v1 v2 v3
      have bF := below_putDfr bE (show w.heap.size ≤ wR.heap.size by omega) (.deferred none)
      refine ⟨by simp, .inl ⟨_, _, rfl, run_takeDeferred hkE.dfr, ?_⟩⟩
      refine ⟨.tuple #[.agg #[.bool (ng bb.num), .slice pe (ln (am bb.num)) (ln (am bb.num)), .slice pf (ln bb.den) (ln bb.den)], .int .i64 0], by rw [results_cc rfl]; go_simp, Or.inr ⟨H0.out, bb, pe, pf, hN, hz, rfl, bF, oE⟩⟩
theorem Best_is (A : RatV) (a : Option Addr) (n c M : Nat) (w : World) (hA : A.ok w) (hn : A.n ≤ 1999980 ∧ A.m ≤ 1999980) (hc : n ≤ c) (hm : n ≤ 35184372087808) (hS : Seg w a M n) : Calls Tryz.prog 17 #[.agg #[.bool A.s, .slice A.a A.n A.c, .slice A.b A.m A.e], .slice a n c] w (BestA w A.val M) := by
  by_cases h0 : M = 0
  · exact Best_zero A a n c M w hA hn hc hm hS h0
  · exact Best_pos A a n c M w hA hn hc hm hS h0
end Go.Proofs.YtejlnodillnoaaaGreatDoor
