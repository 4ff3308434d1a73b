import Derived.Test.YtebbehlfocpjhaaGreatNumR
import Derived.Test.YtebbehlfocpjhaaGreatWQ4
import Derived.Test.YtebbehlfocpjhaaGreatWQ5
import Derived.Test.YtebbehlfocpjhaaGreatWQC
import Derived.Test.YtebbehlfocpjhaaGreatWQN
import Derived.Test.YtebbehlfocpjhaaGreatWQA
import Derived.Test.YtebbehlfocpjhaaGreatWL5
import Derived.Test.YtebbehlfocpjhaaGreatWQB
import Derived.Test.YtebbehlfocpjhaaGreatNumC
import Derived.Test.YtebbehlfocpjhaaGreatWL2
import Derived.Test.YtebbehlfocpjhaaGreatWN1
import Derived.Test.YtebbehlfocpjhaaGreatWQ7
import Derived.Test.YtebbehlfocpjhaaGreatWO0
set_option linter.unusedSimpArgs false
namespace Go.Proofs.YtebbehlfocpjhaaGreat
open Go.RowKit
set_option linter.unusedVariables false
theorem RatV.ok.on {w w' : World} {q : RatV} (h : q.ok w) (hb : Below w.heap.size w w') : q.ok w' := ⟨h.1.later hb, h.2.1, h.2.2.1, h.2.2.2.1.later hb, h.2.2.2.2.1, h.2.2.2.2.2⟩
def nR (r : Rat) (p q : Option Addr) : RatV := ⟨ng r.num, p, ln (am r.num), ln (am r.num), am r.num, q, ln r.den, ln r.den, r.den⟩
theorem nR_val (r : Rat) (p q : Option Addr) : (nR r p q).val = r := val_of r p q
def QA (w : World) (r : Rat) (e : Ending) (w' : World) : Prop := ∃ p q, e = .returned (.agg #[.bool (ng r.num), .slice p (ln (am r.num)) (ln (am r.num)), .slice q (ln r.den) (ln r.den)]) ∧ Below w.heap.size w w' ∧ (nR r p q).ok w'
theorem sz_mulY {r t : Rat} {N M : Nat} (h : sz N r) (k : sz M t) : sz (N + M) (r * t) := by
  have e : r * t = Rat.divInt (r.num * t.num) ((r.den : Int) * (t.den : Int)) := by
    rw [← Rat.divInt_mul_divInt, Rat.num_divInt_den, Rat.num_divInt_den]
  have hl := (low_of (Int.mul_ne_zero (by have := r.den_pos; omega) (by have := t.den_pos; omega)) e).le
  have a1 := lt_prod (i := N) (j := M) (Nat.lt_of_lt_of_le (ln_lt (am r.num)) (pow_mono h.1)) (Nat.lt_of_lt_of_le (ln_lt (am t.num)) (pow_mono k.1))
  have a2 := lt_prod (i := N) (j := M) (a := (r.den : Int)) (b := (t.den : Int)) (Nat.lt_of_lt_of_le (by rw [am_nat]; exact ln_lt r.den) (pow_mono h.2)) (Nat.lt_of_lt_of_le (by rw [am_nat]; exact ln_lt t.den) (pow_mono k.2))
  exact ⟨ln_le_of_lt (Nat.lt_of_le_of_lt hl.1 a1), ln_le_of_lt (Nat.lt_of_le_of_lt hl.2 a2)⟩
theorem ok_nR {w w' : World} {r : Rat} {p q : Option Addr} (hs : sz 100000000 r) (h1 : New w w' p (am r.num) (ln (am r.num))) (h2 : New w w' q r.den (ln r.den)) : (nR r p q).ok w' :=
  ⟨h1.seg, Nat.le_refl _, Nat.le_trans hs.1 (by omega), h2.seg, Nat.le_refl _, Nat.le_trans hs.2 (by omega)⟩
def sR (r : Rat) : Int := sgn r.num
theorem sR_divInt {A : Int} {D : Int} (h : 0 < D) : sR (Rat.divInt A D) = sgn A := by
  have hl := low_of (A := A) (D := D) (Int.ne_of_gt h) rfl
  have e := hl.eq
  have p := hl.pos
  unfold sR
  have h1 : sgn (A * ((Rat.divInt A D).den : Int)) = sgn ((Rat.divInt A D).num * D) := by rw [e]
  rw [sgn_mul_pos (by omega), sgn_mul_pos h] at h1
  exact h1.symm
theorem sR_val (q : RatV) : sgn (rn q.s q.X q.Y) = sR q.val := (sR_divInt (by have := rd_pos q.Y; omega)).symm
theorem sR_zero {r : Rat} (h : sR r = 0) : r = 0 := by
  unfold sR at h
  refine Rat.num_eq_zero.1 ?_
  rw [sgn_eq] at h
  exact Int.sign_eq_zero_iff_zero.1 h
theorem rn_nz {q : RatV} (h : q.val ≠ 0) : rn q.s q.X q.Y ≠ 0 := fun e => h (by unfold RatV.val; rw [e, Rat.zero_divInt])
theorem low_divY (p q : RatV) (h : q.val ≠ 0) : Low (rn p.s p.X p.Y * (rd q.Y : Nat)) ((rd p.Y : Nat) * rn q.s q.X q.Y) (p.val / q.val).num (p.val / q.val).den :=
  low_of (Int.mul_ne_zero (rd_ne _) (rn_nz h)) (by
    unfold RatV.val
    rw [Rat.div_def, Rat.inv_divInt, Rat.divInt_mul_divInt])
theorem mulQ (A B : RatV) (S : Rat) (w : World) (hA : A.ok w) (hB : B.ok w) (hn : A.n ≤ 100000000 ∧ A.m ≤ 100000000 ∧ B.n ≤ 100000000 ∧ B.m ≤ 100000000) (hS : A.val * B.val = S) (hz : sz 100000000 S) : Calls Tryz.prog 34 #[.agg #[.bool A.s, .slice A.a A.n A.c, .slice A.b A.m A.e], .agg #[.bool B.s, .slice B.a B.n B.c, .slice B.b B.m B.e]] w (QA w S) := by
  subst hS
  refine (qMul_is A.s A.a A.n A.c A.X A.b A.m A.e A.Y B.s B.a B.n B.c B.X B.b B.m B.e B.Y _ _ w hA.2.1 (by omega) hA.1 hA.2.2.2.2.1 (by omega) hA.2.2.2.1 hB.2.1 (by omega) hB.1 hB.2.2.2.2.1 (by omega) hB.2.2.2.1 (low_mul A B)).mono ?_
  rintro e w1 ⟨p, q, rfl, n1, n2⟩
  exact ⟨p, q, rfl, n1.below, ok_nR hz n1 n2⟩
theorem divQ (A B : RatV) (S : Rat) (w : World) (hA : A.ok w) (hB : B.ok w) (hn : A.n ≤ 100000000 ∧ A.m ≤ 100000000 ∧ B.n ≤ 100000000 ∧ B.m ≤ 100000000) (h0 : B.val ≠ 0) (hS : A.val / B.val = S) (hz : sz 100000000 S) : Calls Tryz.prog 33 #[.agg #[.bool A.s, .slice A.a A.n A.c, .slice A.b A.m A.e], .agg #[.bool B.s, .slice B.a B.n B.c, .slice B.b B.m B.e]] w fun e w1 => ∃ p q, e = .returned (.tuple #[.agg #[.bool (ng S.num), .slice p (ln (am S.num)) (ln (am S.num)), .slice q (ln S.den) (ln S.den)], .int .i64 0]) ∧ Below w.heap.size w w1 ∧ (nR S p q).ok w1 := by
  subst hS
  refine (qDiv_is A.s A.a A.n A.c A.X A.b A.m A.e A.Y B.s B.a B.n B.c B.X B.b B.m B.e B.Y _ _ w hA.2.1 (by omega) hA.1 hA.2.2.2.2.1 (by omega) hA.2.2.2.1 hB.2.1 (by omega) hB.1 hB.2.2.2.2.1 (by omega) hB.2.2.2.1 (low_divY A B h0)).mono ?_
  rintro e w1 ⟨p, q, rfl, n1, n2⟩
  exact ⟨p, q, rfl, n1.below, ok_nR hz n1 n2⟩
def prods (v : Nat → Int) (f g : Nat → RatV) (m : Nat) : Nat → List (Int × Nat)
  | 0 => []
  | k + 1 => prods v f g m k ++ (if 0 ≤ v k ∧ v k < (m : Int) then [(rn (f k).s (f k).X (f k).Y * rn (g (v k).toNat).s (g (v k).toNat).X (g (v k).toNat).Y, rd (f k).Y * rd (g (v k).toNat).Y)] else [])
def prl (v : Nat → Int) (f g : Nat → RatV) (m : Nat) : Nat → List Rat
  | 0 => []
  | k + 1 => prl v f g m k ++ (if 0 ≤ v k ∧ v k < (m : Int) then [(f k).val * (g (v k).toNat).val] else [])
def lv (q : Nat → RatV) (n : Nat) : List Rat := (List.range n).map fun i => (q i).val
theorem lv_succ (q : Nat → RatV) (n : Nat) : lv q (n + 1) = lv q n ++ [(q n).val] := by
  unfold lv
  rw [List.range_succ, List.map_append]
  rfl
theorem lv_congr {q q' : Nat → RatV} (n : Nat) (h : ∀ i, i < n → q i = q' i) : lv q n = lv q' n := by
  unfold lv
  exact List.map_congr_left fun i hi => by rw [h i (List.mem_range.1 hi)]
theorem low_prod {p q r : RatV} (hr : 0 < r.Y) (hL : Low (rn p.s p.X p.Y * rn q.s q.X q.Y) ((rd p.Y : Nat) * (rd q.Y : Nat)) (sg r.s r.X) r.Y) : r.val = p.val * q.val := by
  obtain ⟨e1, e2⟩ := (low_mul p q).uniq hL rfl
  unfold RatV.val
  rw [rn_of (by omega), rd_of (by omega), ← e1, ← e2, Rat.num_divInt_den]
  rfl
def PrInv (w : World) (v : Nat → Int) (f g : Nat → RatV) (m N : Nat) (k : Nat) (vo : Value) (wr : World) : Prop :=
  ∃ (j : Nat) (q : Nat → RatV), j ≤ k ∧ wr.ownsRow w.heap.size 29 3 vo j (cellsV q j) ∧ Below w.heap.size w wr ∧ (Eqv (lq q j) (prods v f g m k) ∧ lv q j = prl v f g m k) ∧
    ∀ i, i < j → (q i).ok wr ∧ (q i).low ∧ (q i).n + (q i).m + 1 ≤ N ∧ ∀ b, vo.ownBlock = some b → (q i).off b
theorem PrInv.later {w : World} {v : Nat → Int} {f g : Nat → RatV} {m N k : Nat} {vo : Value} {wr w' : World} (h : PrInv w v f g m N k vo wr) (hb : Below wr.heap.size wr w') : PrInv w v f g m N k vo w' := by
  obtain ⟨j, q, hj, hO, hB, hE, hq⟩ := h
  exact ⟨j, q, hj, own_below hO hb, hB.trans (hb.mono hB.size), hE, fun i hi => ⟨(hq i hi).1.later hb, (hq i hi).2⟩⟩
theorem PrInv.skip {w : World} {v : Nat → Int} {f g : Nat → RatV} {m N k : Nat} {vo : Value} {wr : World} (h : PrInv w v f g m N k vo wr) (hp : ¬ (0 ≤ v k ∧ v k < (m : Int))) : PrInv w v f g m N (k + 1) vo wr := by
  obtain ⟨j, q, hj, hO, hB, hE, hq⟩ := h
  refine ⟨j, q, by omega, hO, hB, ?_, hq⟩
  simp only [prods, prl]
  rw [if_neg hp, if_neg hp, List.append_nil, List.append_nil]
  exact hE
theorem lq_congr {q q' : Nat → RatV} : ∀ (n : Nat), (∀ i, i < n → q i = q' i) → lq q n = lq q' n
  | 0, _ => rfl
  | n + 1, h => by rw [lq_succ, lq_succ, lq_congr n fun i hi => h i (by omega), h n (by omega)]
theorem PrInv.push {w : World} {v : Nat → Int} {f g : Nat → RatV} {m N k : Nat} {vo : Value} {wB w1 : World} {j : Nat} {q : Nat → RatV} (hj : j ≤ k) (hB : Below w.heap.size w wB) (hE : Eqv (lq q j) (prods v f g m k) ∧ lv q j = prl v f g m k)
    (hq : ∀ i, i < j → (q i).ok wB ∧ (q i).low ∧ (q i).n + (q i).m + 1 ≤ N ∧ ∀ b, vo.ownBlock = some b → (q i).off b) (hrow : ∀ b, vo.ownBlock = some b → w.heap.size ≤ b) (hp : 0 ≤ v k ∧ v k < (m : Int))
    (r : RatV) (hr : r.ok wB) (hrl : r.low) (hrn : r.n + r.m + 1 ≤ N) (hro : ∀ b, vo.ownBlock = some b → r.off b)
    (hL : Low (rn (f k).s (f k).X (f k).Y * rn (g (v k).toNat).s (g (v k).toNat).X (g (v k).toNat).Y) ((rd (f k).Y : Nat) * (rd (g (v k).toNat).Y : Nat)) (sg r.s r.X) r.Y) {gb cap : Nat}
    (hown : w1.ownsRow w.heap.size 29 3 (.slice (some ⟨gb, 0, none⟩) (j + 1) cap) (j + 1) (cellsV q j ++ [.bool r.s, .slice r.a r.n r.c, .slice r.b r.m r.e])) (hg : wB.grownBy w1 vo.ownBlock) (hat : vo.ownBlock = some gb ∨ gb = wB.heap.size) :
    PrInv w v f g m N (k + 1) (.slice (some ⟨gb, 0, none⟩) (j + 1) cap) w1 := by
  obtain ⟨q', hq'⟩ : ∃ q' : Nat → RatV, q' = fun i => if i < j then q i else r := ⟨_, rfl⟩
  have e1 : ∀ i, i < j → q' i = q i := fun i hi => by rw [hq']; exact if_pos hi
  have e2 : q' j = r := by rw [hq']; exact if_neg (by omega)
  refine ⟨j + 1, q', by omega, ?_, hB.trans (below_grown hB.size hrow hg), ?_, fun i hi => ?_⟩
  · simp only [cellsV]
    rw [cellsV_congr j e1, e2]
    exact hown
  · have hY := hrl.pos
    refine ⟨?_, ?_⟩
    · rw [lq_succ, lq_congr j e1, e2]
      simp only [prods]
      rw [if_pos hp]
      refine hE.1.append ?_
      rw [rn_of (by omega), rd_of (by omega)]
      exact Eqv.one (by rw [Int.natCast_mul]; exact hL)
    · rw [lv_succ, lv_congr j e1, e2]
      simp only [prl]
      rw [if_pos hp, hE.2, low_prod hY hL]
  · have hoff : ∀ x : RatV, x.ok wB → (∀ b, vo.ownBlock = some b → x.off b) → ∀ b, (Value.slice (some ⟨gb, 0, none⟩) (j + 1) cap).ownBlock = some b → x.off b := by
      intro x hx ho b hb
      have : gb = b := by simpa [Value.ownBlock] using hb
      subst this
      rcases hat with h | h
      · exact ho _ h
      · exact hx.off (by omega)
    rcases Nat.lt_or_ge i j with h1 | h1
    · rw [e1 i h1]
      obtain ⟨a1, a2, a3, a4⟩ := hq i h1
      exact ⟨a1.grown hg a4, a2, a3, hoff _ a1 a4⟩
    · obtain rfl : i = j := by omega
      rw [e2]
      exact ⟨hr.grown hg hro, hrl, hrn, hoff _ hr hro⟩
theorem info_Rat : (Tryz.prog.info? 29).map (fun i => (i.zero, i.size, i.bytes)) = some (some (.agg #[.bool false, .slice none 0 0, .slice none 0 0]), 3, 56) := by kernel_rfl
theorem Seg.setR {w : World} {p : Option Addr} {X n c : Nat} {u0 u1 u2 : Value} {z0 : Bool} {a1 a2 : Option Addr} {n1 k1 n2 k2 : Nat} (h : Seg w p X n) (h0 : w.cell? ⟨c, 0, none⟩ = some (.bool z0)) (h1 : w.cell? ⟨c, 1, none⟩ = some (.slice a1 n1 k1)) (h2 : w.cell? ⟨c, 2, none⟩ = some (.slice a2 n2 k2)) :
    Seg (((w.setCell ⟨c, 0, none⟩ u0).setCell ⟨c, 1, none⟩ u1).setCell ⟨c, 2, none⟩ u2) p X n := by
  refine (h.set2 h0 h1).setB (z := .slice a2 n2 k2) ?_ (by simp)
  rw [World.cell?_setCell_other _ _ _ _ (fun e => by simp at e), World.cell?_setCell_other _ _ _ _ (fun e => by simp at e)]
  exact h2
theorem PrInv.below {w : World} {v : Nat → Int} {f g : Nat → RatV} {m N k : Nat} {vo : Value} {wr : World} (h : PrInv w v f g m N k vo wr) : Below w.heap.size w wr := by
  obtain ⟨j, q, hj, hO, hB, hE, hq⟩ := h
  exact hB
theorem PrInv.slice {w : World} {v : Nat → Int} {f g : Nat → RatV} {m N k : Nat} {vo : Value} {wr : World} (h : PrInv w v f g m N k vo wr) : ∃ a j cap, vo = .slice a j cap := by
  obtain ⟨j, q, hj, hO, hB, hE, hq⟩ := h
  obtain ⟨a, cap, e, _⟩ := own_rats hO
  exact ⟨a, j, cap, e⟩
theorem PrInv.open {w : World} {v : Nat → Int} {f g : Nat → RatV} {m N k : Nat} {a : Option Addr} {j cap : Nat} {wr : World} (h : PrInv w v f g m N k (.slice a j cap) wr) : ∃ q : Nat → RatV, j ≤ k ∧ j ≤ cap ∧ cap ≤ 9223372036854775807 ∧ RatsAt wr a j q ∧ (∀ i, i < j → (q i).ok wr ∧ (q i).low ∧ (q i).n + (q i).m + 1 ≤ N) ∧ Eqv (lq q j) (prods v f g m k) := by
  obtain ⟨j', q, hj, hO, hB, hE, hq⟩ := h
  obtain ⟨a', cap', e, h1, h2, h3⟩ := own_rats hO
  simp only [Value.slice.injEq] at e
  obtain ⟨rfl, rfl, rfl⟩ := e
  exact ⟨q, hj, h1, by simpa [maxLen] using h2, h3, fun i hi => ⟨(hq i hi).1, (hq i hi).2.1, (hq i hi).2.2.1⟩, hE.1⟩
theorem szInv {N : Nat} {t : Rat} (h : sz N t) (h0 : t ≠ 0) : sz N (t⁻¹) := by
  have hl := (low_of (A := (t.den : Int)) (D := t.num) (fun e => h0 (Rat.num_eq_zero.1 e)) (Rat.inv_def t)).le
  exact ⟨Nat.le_trans (ln_mono hl.1) h.2, Nat.le_trans (ln_mono hl.2) h.1⟩
theorem val_over (p q : Option Addr) {V : Nat} (hV : 0 < V) : (RatV.mk false p 1 1 1 q (ln V) (ln V) V).val = ((V : Nat) : Rat)⁻¹ := by
  unfold RatV.val
  rw [rn_of (Nat.ne_of_gt hV), rd_of (Nat.ne_of_gt hV)]
  show Rat.divInt 1 (V : Int) = _
  rw [Rat.divInt_eq_div, Rat.div_def, Rat.intCast_natCast]
  show (1 : Rat) * _ = _
  rw [Rat.one_mul]
theorem inv_pos' {V : Nat} (hV : 0 < V) : (0 : Rat) < ((V : Nat) : Rat)⁻¹ := by
  have h : (0 : Rat) < (V : Rat) := by exact_mod_cast hV
  exact Rat.inv_pos.2 h
set_option maxHeartbeats 4000000 in
set_option maxRecDepth 100000 in
theorem common_is (A B : RatV) (Q G : Rat) (w : World) (hA : A.ok w) (hB9 : B.ok w) (hn : A.n ≤ 100000000 ∧ A.m ≤ 100000000 ∧ B.n ≤ 100000000 ∧ B.m ≤ 100000000) (h0 : A.val ≠ 0) (hQ : B.val / A.val = Q) (hzQ : sz 100000000 Q) (hG : A.val * ((Q.den : Nat) : Rat)⁻¹ = G) (hz : sz 100000000 G) :
    Calls Tryz.prog 15 #[.agg #[.bool A.s, .slice A.a A.n A.c, .slice A.b A.m A.e], .agg #[.bool B.s, .slice B.a B.n B.c, .slice B.b B.m B.e]] w (QA w G) := by
  have G1 := hide' (fun w' (hb : Below w.heap.size w w') => divQ B A Q w' (hB9.on hb) (hA.on hb) ⟨hn.2.2.1, hn.2.2.2, hn.1, hn.2.1⟩ h0 hQ hzQ)
  have GW' := fun w' => qWhole_is 1 w' (by omega) (by omega)
  rw [show ng 1 = false from rfl, show am 1 = 1 from rfl, ln_one] at GW'
  have GW := hide' GW'
  clear GW'
  have GM := hide' (fun w' (hb : Below w.heap.size w w') p q (k1 : Seg w' p 1 1) (k2 : Seg w' q Q.den (ln Q.den)) => mulQ A (RatV.mk false p 1 1 1 q (ln Q.den) (ln Q.den) Q.den) G w' (hA.on hb) ⟨k1, Nat.le_refl _, by show 1 ≤ _; omega, k2, Nat.le_refl _, by have := hzQ.2; show ln Q.den ≤ _; omega⟩ ⟨hn.1, hn.2.1, by show 1 ≤ _; omega, hzQ.2⟩ (by rw [val_over p q Q.den_pos]; exact hG) hz)
  clear hA hB9 hn h0 hQ hzQ hG hz
  go_enter Tryz.func15, Tryz.ntmps15
  go_wp2_with fail
  obtain ⟨W, hW⟩ : ∃ W, (((w.alloc (.cells #[.bool A.s, .slice A.a A.n A.c, .slice A.b A.m A.e] 29)).alloc (.cells #[.bool B.s, .slice B.a B.n B.c, .slice B.b B.m B.e] 29)).alloc (.cells #[.bool false, .slice none 0 0, .slice none 0 0] 29)) = W := ⟨_, rfl⟩
  have q00 : W.cell? ⟨w.heap.size, 0, none⟩ = some (.bool A.s) := by subst hW; go_simp
  have q01 : W.cell? ⟨w.heap.size, 1, none⟩ = some (.slice A.a A.n A.c) := by subst hW; go_simp
  have q02 : W.cell? ⟨w.heap.size, 2, none⟩ = some (.slice A.b A.m A.e) := by subst hW; go_simp
  have q10 : W.cell? ⟨w.heap.size + 1, 0, none⟩ = some (.bool B.s) := by subst hW; go_simp
  have q11 : W.cell? ⟨w.heap.size + 1, 1, none⟩ = some (.slice B.a B.n B.c) := by subst hW; go_simp
  have q12 : W.cell? ⟨w.heap.size + 1, 2, none⟩ = some (.slice B.b B.m B.e) := by subst hW; go_simp
  have r00 : W.cell? ⟨w.heap.size + 1 + 1, 0, none⟩ = some (.bool false) := by subst hW; go_simp
  have r01 : W.cell? ⟨w.heap.size + 1 + 1, 1, none⟩ = some (.slice none 0 0) := by subst hW; go_simp
  have r02 : W.cell? ⟨w.heap.size + 1 + 1, 2, none⟩ = some (.slice none 0 0) := by subst hW; go_simp
  have hB : Below w.heap.size w W := by subst hW; exact ((((Below.refl _ _).alloc (by (try simp only [World.size_alloc]); omega) _).alloc (by (try simp only [World.size_alloc]); omega) _).alloc (by (try simp only [World.size_alloc]); omega) _)
  have hR0 : Row W (w.heap.size + 1 + 1) := by
    have := row_new (((w.alloc (.cells #[.bool A.s, .slice A.a A.n A.c, .slice A.b A.m A.e] 29)).alloc (.cells #[.bool B.s, .slice B.a B.n B.c, .slice B.b B.m B.e] 29))) #[.bool false, .slice none 0 0, .slice none 0 0] 29
    try simp only [World.size_alloc] at this
    subst hW; exact this
  have hz : W.heap.size = w.heap.size + 1 + 1 + 1 := by subst hW; simp only [World.size_alloc]
  rw [hW]
  clear hW
  have hBW : Below W.heap.size W W := Below.refl _ _
  refine (G1.out _ (hB.trans (hBW.mono hB.size))).mono ?_
  rintro e w1 ⟨x1, y1, rfl, g1, j1, _, _, k1, _, _⟩
  have b1 := g1
  replace hBW := hBW.trans (b1.mono hBW.size)
  replace q00 := below_cell b1 q00
  replace q01 := below_cell b1 q01
  replace q02 := below_cell b1 q02
  replace q10 := below_cell b1 q10
  replace q11 := below_cell b1 q11
  replace q12 := below_cell b1 q12
  replace r00 := below_cell b1 r00
  replace r01 := below_cell b1 r01
  replace r02 := below_cell b1 r02
  replace hR0 := below_row b1 hR0
  replace k1 : Seg w1 y1 Q.den (ln Q.den) := k1
  have hsz1 := hBW.size
  have hlt1hR0 := hR0.lt
  have l100 : ((w1.alloc (.cells #[.bool (ng Q.num), .slice x1 (ln (am Q.num)) (ln (am Q.num)), .slice y1 (ln Q.den) (ln Q.den)] 29))).cell? ⟨w1.heap.size, 0, none⟩ = some (.bool (ng Q.num)) := by go_simp
  have l101 : ((w1.alloc (.cells #[.bool (ng Q.num), .slice x1 (ln (am Q.num)) (ln (am Q.num)), .slice y1 (ln Q.den) (ln Q.den)] 29))).cell? ⟨w1.heap.size, 1, none⟩ = some (.slice x1 (ln (am Q.num)) (ln (am Q.num))) := by go_simp
  have l102 : ((w1.alloc (.cells #[.bool (ng Q.num), .slice x1 (ln (am Q.num)) (ln (am Q.num)), .slice y1 (ln Q.den) (ln Q.den)] 29))).cell? ⟨w1.heap.size, 2, none⟩ = some (.slice y1 (ln Q.den) (ln Q.den)) := by go_simp
  have cb1 : Below w1.heap.size w1 ((w1.alloc (.cells #[.bool (ng Q.num), .slice x1 (ln (am Q.num)) (ln (am Q.num)), .slice y1 (ln Q.den) (ln Q.den)] 29))) := ((Below.refl _ _).alloc (by (try simp only [World.size_alloc]); omega) _)
  replace hBW := hBW.trans (cb1.mono hBW.size)
  replace q00 := below_cell cb1 q00
  replace q01 := below_cell cb1 q01
  replace q02 := below_cell cb1 q02
  replace q10 := below_cell cb1 q10
  replace q11 := below_cell cb1 q11
  replace q12 := below_cell cb1 q12
  replace r00 := below_cell cb1 r00
  replace r01 := below_cell cb1 r01
  replace r02 := below_cell cb1 r02
  replace hR0 := below_row cb1 hR0
  replace k1 := k1.later cb1
  have hL10 : Row ((w1.alloc (.cells #[.bool (ng Q.num), .slice x1 (ln (am Q.num)) (ln (am Q.num)), .slice y1 (ln Q.den) (ln Q.den)] 29))) (w1.heap.size) := by
    have := row_new (w1) #[.bool (ng Q.num), .slice x1 (ln (am Q.num)) (ln (am Q.num)), .slice y1 (ln Q.den) (ln Q.den)] 29
    try simp only [World.size_alloc] at this
    exact this
  go_wp2_with fail
  generalize (w1.alloc (.cells #[.bool (ng Q.num), .slice x1 (ln (am Q.num)) (ln (am Q.num)), .slice y1 (ln Q.den) (ln Q.den)] 29)) = w1x at q00 q01 q02 q10 q11 q12 r00 r01 r02 l100 l101 l102 hR0 hL10 k1 hBW cb1 ⊢
  clear cb1
  have rA : Thr w1x (w.heap.size + 1 + 1) (.bool false) (.slice none 0 0) (.slice none 0 0) := ⟨⟨r00, r01, r02⟩, hR0⟩
  replace hB := hB.trans (hBW.mono hB.size)
  clear r00 r01 r02 hR0 hL10 q10 q11 q12 l100 l101 j1 g1 b1 G1
  have bD : Below w1x.heap.size w1x w1x.drew := (Below.refl _ _).drew
  have kq00 := below_cell bD q00
  have kq01 := below_cell bD q01
  have kq02 := below_cell bD q02
  have kl102 := below_cell bD l102
  replace hB := hB.trans (bD.mono hB.size)
  replace rA := rA.later bD
  replace k1 := k1.later bD
  refine wp_region_held_drew (S := fun w' => w'.cell? ⟨w.heap.size, 0, none⟩ = some (.bool A.s) ∧ w'.cell? ⟨w.heap.size, 1, none⟩ = some (.slice A.a A.n A.c) ∧ w'.cell? ⟨w.heap.size, 2, none⟩ = some (.slice A.b A.m A.e) ∧ w'.cell? ⟨w1.heap.size, 2, none⟩ = some (.slice y1 (ln Q.den) (ln Q.den))) (by kernel_rfl) ⟨kq00, kq01, kq02, kl102⟩ (fun hHeld => ?_)
  clear kq00 kq01 kq02 kl102
  generalize w1x.drew = w0 at bD rA k1 hB hHeld ⊢
  clear q00 q01 q02 l102
  refine tk 0 (v := ?_) rfl (Or.inl ⟨by rfl, ?_⟩) ?_
  rotate_left
  · intro w9 hSw
    go_simp
    first | done | with_reducible rfl
  simp only [pP, pN, pS, pZ, pC]
  refine tk 3 (v := ?_) rfl (Or.inl ⟨by rfl, ?_⟩) ?_
  rotate_left
  · intro w9 hSw
    go_simp
    first | done | with_reducible rfl
  simp only [pP, pN, pS, pZ, pC]
  refine tk 4 (v := ?_) rfl (Or.inl ⟨by rfl, ?_⟩) ?_
  rotate_left
  · intro w9 hSw
    go_simp
    first | done | with_reducible rfl
  simp only [pP, pN, pS, pZ, pC]
  refine wpAnyH_ready (rs := [1]) (by kernel_rfl) (by simp) ?_
  refine cons' rfl (fun KK hKK => ?_)
  go_simp
  refine (GW.out _).mono ?_
  rintro e w2 ⟨p2, q2, rfl, n2, n3⟩
  have bC := n2.below
  replace hB := hB.trans (bC.mono hB.size)
  replace rA := rA.later bC
  replace k1 := k1.later bC
  replace hHeld := (⟨below_cell bC hHeld.1, below_cell bC hHeld.2.1, below_cell bC hHeld.2.2.1, below_cell bC hHeld.2.2.2⟩ : _ ∧ _ ∧ _ ∧ _)
  clear bC
  go_wp2_with fail
  have k2 := n2.seg
  clear n2 n3 GW
  refine hKK.out _ _ hHeld ?_
  clear hHeld
  intro hHeld
  clear hKK KK
  try simp only [pP, pN, pS, pZ, pC]
  have hf := run_field0
  refine tk 2 (v := ?_) rfl (Or.inl ⟨by rfl, ?_⟩) ?_
  rotate_left
  · intro w9 hSw
    go_simp
    first | done | with_reducible rfl
  simp only [pP, pN, pS, pZ, pC]
  refine tk 5 (v := ?_) rfl (Or.inl ⟨by rfl, ?_⟩) ?_
  rotate_left
  · intro w9 hSw
    go_simp
    first | done | with_reducible rfl
  simp only [pP, pN, pS, pZ, pC]
  clear hf
  refine wpAnyH_ready (rs := [6]) (by kernel_rfl) (by simp) ?_
  refine cons' rfl (fun KK hKK => ?_)
  go_simp
  refine (GM.out _ hB p2 y1 k2 k1).mono ?_
  rintro e w3 ⟨x3, y3, rfl, b3, k3⟩
  have bC := b3
  replace hB := hB.trans (bC.mono hB.size)
  replace rA := rA.later bC
  replace k1 := k1.later bC
  replace k2 := k2.later bC
  replace hHeld := (⟨below_cell bC hHeld.1, below_cell bC hHeld.2.1, below_cell bC hHeld.2.2.1, below_cell bC hHeld.2.2.2⟩ : _ ∧ _ ∧ _ ∧ _)
  clear bC
  go_wp2_with fail
  clear b3 GM
  refine hKK.out _ _ hHeld ?_
  clear hHeld
  intro hHeld
  clear hKK KK
  try simp only [pP, pN, pS, pZ, pC]
  refine wpAnyH_ready (rs := [7]) (by kernel_rfl) (by simp) ?_
  refine cons' rfl (fun KK hKK => ?_)
  have fz := fun o => rA.2.frozen o
  have t0 := rA.1.1
  have t1 := rA.1.2.1
  have t2 := rA.1.2.2
  have g8 := rA.seg (u0 := .bool (ng G.num)) (u1 := .slice x3 (ln (am G.num)) (ln (am G.num))) (u2 := .slice y3 (ln G.den) (ln G.den)) (by simp) (by simp) (by simp) k3.1
  have g9 := rA.seg (u0 := .bool (ng G.num)) (u1 := .slice x3 (ln (am G.num)) (ln (am G.num))) (u2 := .slice y3 (ln G.den) (ln G.den)) (by simp) (by simp) (by simp) k3.2.2.2.1
  replace hB : Below w.heap.size w (set3 w3 (w.heap.size + 1 + 1) (.bool (ng G.num)) (.slice x3 (ln (am G.num)) (ln (am G.num))) (.slice y3 (ln G.den) (ln G.den))) := below_set3 hB (by omega)
  have hH2 := (⟨(set3_far (w := w3) (c := w.heap.size + 1 + 1) (b := w.heap.size) (o := 0) (u0 := .bool (ng G.num)) (u1 := .slice x3 (ln (am G.num)) (ln (am G.num))) (u2 := .slice y3 (ln G.den) (ln G.den)) (by omega)).trans hHeld.1, (set3_far (w := w3) (c := w.heap.size + 1 + 1) (b := w.heap.size) (o := 1) (u0 := .bool (ng G.num)) (u1 := .slice x3 (ln (am G.num)) (ln (am G.num))) (u2 := .slice y3 (ln G.den) (ln G.den)) (by omega)).trans hHeld.2.1, (set3_far (w := w3) (c := w.heap.size + 1 + 1) (b := w.heap.size) (o := 2) (u0 := .bool (ng G.num)) (u1 := .slice x3 (ln (am G.num)) (ln (am G.num))) (u2 := .slice y3 (ln G.den) (ln G.den)) (by omega)).trans hHeld.2.2.1, (set3_far (w := w3) (c := w.heap.size + 1 + 1) (b := w1.heap.size) (o := 2) (u0 := .bool (ng G.num)) (u1 := .slice x3 (ln (am G.num)) (ln (am G.num))) (u2 := .slice y3 (ln G.den) (ln G.den)) (by omega)).trans hHeld.2.2.2⟩ : _ ∧ _ ∧ _ ∧ _)
  have rD := rA.put (u0 := .bool (ng G.num)) (u1 := .slice x3 (ln (am G.num)) (ln (am G.num))) (u2 := .slice y3 (ln G.den) (ln G.den))
  go_simp
  clear t0 t1 t2 fz rA
  refine hKK.out _ _ hH2 ?_
  clear hHeld
  intro hHeld
  clear hKK KK
  try simp only [pP, pN, pS, pZ, pC]
  clear hH2
  try unfold set3 at g8
  try unfold set3 at g9
  try unfold set3 at rD
  try unfold set3 at hB
  try unfold set3 at hHeld
  generalize (((w3.setCell ⟨w.heap.size + 1 + 1, 0, none⟩ (.bool (ng G.num))).setCell ⟨w.heap.size + 1 + 1, 1, none⟩ (.slice x3 (ln (am G.num)) (ln (am G.num)))).setCell ⟨w.heap.size + 1 + 1, 2, none⟩ (.slice y3 (ln G.den) (ln G.den))) = w9 at g8 g9 rD hB hHeld ⊢
  refine wpAnyH_done (by kernel_rfl) ?_ _
  obtain ⟨⟨v0, v1, v2⟩, vR⟩ := rD
  go_wp2
  refine bodyPost_ret (v := .agg #[.bool (ng G.num), .slice x3 (ln (am G.num)) (ln (am G.num)), .slice y3 (ln G.den) (ln G.den)]) (by rw [results_cell rfl]; go_simp) rfl ?_
  exact ⟨x3, y3, rfl, hB, g8, Nat.le_refl _, k3.2.2.1, g9, Nat.le_refl _, k3.2.2.2.2.2⟩
def CAns (w : World) (l : List Rat) (c : Rat) (e : Ending) (w' : World) : Prop := ∃ g, Ct g l ∧ 0 < g * c ∧ QA w g e w'
theorem ct_side {g h c : Rat} (a : 0 < g * c) : 0 < g * (((h / g).den : Nat) : Rat)⁻¹ * c := by
  have e : g * (((h / g).den : Nat) : Rat)⁻¹ * c = g * c * (((h / g).den : Nat) : Rat)⁻¹ := by grind
  rw [e]
  exact Rat.mul_pos a (inv_pos' (h / g).den_pos)
set_option maxHeartbeats 2000000 in
set_option maxRecDepth 100000 in
theorem byHalvesC_many (b off len cap h : Nat) (p : Option Addr) (n c : Nat) (p' : Option Addr) (m e : Nat) (s : Bool) (l1 l2 : List Rat) (c1 c2 : Rat) (w : World) (hlen : 2 ≤ len) (hcap : len ≤ cap) (hmax : cap ≤ 9223372036854775807) (hh : h = len / 2)
    (hs1 : ∀ g, Ct g l1 → sz 10000000 g) (hs2 : ∀ g, Ct g l2 → sz 10000000 g) (hs3 : ∀ g, Ct g (l1 ++ l2) → sz 10000000 g)
    (H1 : ∀ w', Below w.heap.size w w' → Calls Tryz.prog 13 #[.slice (some ⟨b, off, none⟩) h cap, .agg #[.bool s, .slice p n c, .slice p' m e], .func (.func 15) #[] #[]] w' (CAns w' l1 c1))
    (H2 : ∀ w', Below w.heap.size w w' → Calls Tryz.prog 13 #[.slice (some ⟨b, off + h * 3, none⟩) (len - h) (cap - h), .agg #[.bool s, .slice p n c, .slice p' m e], .func (.func 15) #[] #[]] w' (CAns w' l2 c2)) :
    Calls Tryz.prog 13 #[.slice (some ⟨b, off, none⟩) len cap, .agg #[.bool s, .slice p n c, .slice p' m e], .func (.func 15) #[] #[]] w (CAns w (l1 ++ l2) c1) := by
  have G1 := hide' H1
  have G2 := hide' H2
  have G3 := hide' (fun (w' : World) (g1 g2 : Rat) (x1 y1 x2 y2 : Option Addr) (a1 : Ct g1 l1) (a2 : 0 < g1 * c1) (a3 : Ct g2 l2) (k1 : (nR g1 x1 y1).ok w') (k2 : (nR g2 x2 y2).ok w') =>
    (common_is (nR g1 x1 y1) (nR g2 x2 y2) (g2 / g1) (g1 * (((g2 / g1).den : Nat) : Rat)⁻¹) w' k1 k2 ⟨Nat.le_trans (hs1 g1 a1).1 (by omega), Nat.le_trans (hs1 g1 a1).2 (by omega), Nat.le_trans (hs2 g2 a3).1 (by omega), Nat.le_trans (hs2 g2 a3).2 (by omega)⟩ (by rw [nR_val]; exact a1.1) (by rw [nR_val, nR_val])
      (by rw [Rat.div_def]; exact (sz_mulY (hs2 g2 a3) (szInv (hs1 g1 a1) a1.1)).mono (by omega)) (by rw [nR_val]) ((hs3 _ (Ct.two a1 a3)).mono (by omega))).mono (fun e w'' hq => (⟨_, Ct.two a1 a3, ct_side a2, hq⟩ : CAns w' (l1 ++ l2) c1 e w'')))
  clear H1 H2 hs1 hs2 hs3
  have e0 : ¬ ((len : Int) = 0) := by omega
  have e1 : ¬ ((len : Int) = 1) := by omega
  have eh : wrap64 ((len : Int) / 2) = (h : Int) := by rw [wrap64_small (by omega) (by omega)]; omega
  have i0 : (0 : Int) ≤ (h : Int) := by omega
  have i1 : (h : Int) ≤ (cap : Int) := by omega
  have i2 : (h : Int) ≤ (len : Int) := by omega
  have i3 : (len : Int) ≤ (cap : Int) := by omega
  have i4 : h ≤ len := by omega
  have i5 : h ≤ cap := by omega
  have sl1 := sl_head b off len cap h i5
  have sl2 := sl_rest b off len cap h i4 (by omega)
  go_enter Tryz.func13, Tryz.ntmps13
  go_wp2_with fail
  rw [show (len : Int) / 2 = (h : Int) by omega]
  clear hh eh e0 e1
  obtain ⟨W, hW⟩ : ∃ W, ((w.alloc (.cells #[.bool s, .slice p n c, .slice p' m e] 29)).alloc (.cells #[.bool false, .slice none 0 0, .slice none 0 0] 29)) = W := ⟨_, rfl⟩
  have q00 : W.cell? ⟨w.heap.size, 0, none⟩ = some (.bool s) := by subst hW; go_simp
  have q01 : W.cell? ⟨w.heap.size, 1, none⟩ = some (.slice p n c) := by subst hW; go_simp
  have q02 : W.cell? ⟨w.heap.size, 2, none⟩ = some (.slice p' m e) := by subst hW; go_simp
  have r00 : W.cell? ⟨w.heap.size + 1, 0, none⟩ = some (.bool false) := by subst hW; go_simp
  have r01 : W.cell? ⟨w.heap.size + 1, 1, none⟩ = some (.slice none 0 0) := by subst hW; go_simp
  have r02 : W.cell? ⟨w.heap.size + 1, 2, none⟩ = some (.slice none 0 0) := by subst hW; go_simp
  have hB : Below w.heap.size w W := by subst hW; exact (((Below.refl _ _).alloc (by (try simp only [World.size_alloc]); omega) _).alloc (by (try simp only [World.size_alloc]); omega) _)
  have hR0 : Row W (w.heap.size + 1) := by
    have := row_new ((w.alloc (.cells #[.bool s, .slice p n c, .slice p' m e] 29))) #[.bool false, .slice none 0 0, .slice none 0 0] 29
    try simp only [World.size_alloc] at this
    subst hW; exact this
  have hz : W.heap.size = w.heap.size + 1 + 1 := by subst hW; simp only [World.size_alloc]
  rw [hW]
  clear hW
  have hBW : Below W.heap.size W W := Below.refl _ _
  replace hBW := hBW.drew
  first
    | go_region_held3 (fun w' => w'.cell? ⟨w.heap.size, 0, none⟩ = some (.bool s) ∧ w'.cell? ⟨w.heap.size, 1, none⟩ = some (.slice p n c) ∧ w'.cell? ⟨w.heap.size, 2, none⟩ = some (.slice p' m e) ∧ Below w.heap.size w w')
        (first | exact ⟨q00, q01, q02, hB.trans (hBW.mono hB.size)⟩ | exact kp3 b1 (by assumption) | exact kp3 b2 (by assumption) | exact kp3 b3 (by assumption) | exact kp3 (below_alloc _) (by assumption) | exact kp3 (below_alloc _) ⟨q00, q01, q02, hB.trans (hBW.mono hB.size)⟩ | exact kpT3_3 (by assumption) (by omega) (by omega) (by omega) (by omega))
        (first
          | (go_at_call 13; go_at_call_of 13 (Value.slice (some ⟨b, off, none⟩) h cap); (fail_if_success clear b1); refine (G1.out _ (hB.trans (hBW.mono hB.size))).mono ?_; rintro e w1 ⟨u1, ct1, cs1, x1, y1, rfl, g1, k1⟩; have b1 := g1; replace hBW := hBW.trans (b1.mono hBW.size); replace q00 := below_cell b1 q00; replace q01 := below_cell b1 q01; replace q02 := below_cell b1 q02; replace r00 := below_cell b1 r00; replace r01 := below_cell b1 r01; replace r02 := below_cell b1 r02; replace hR0 := below_row b1 hR0)
          | (go_at_call 13; go_at_call_of 13 (Value.slice (some ⟨b, off + h * 3, none⟩) (len - h) (cap - h)); (fail_if_success clear b2); refine (G2.out _ (hB.trans (hBW.mono hB.size))).mono ?_; rintro e w2 ⟨u2, ct2, cs2, x2, y2, rfl, g2, k2⟩; have b2 := g2; replace hBW := hBW.trans (b2.mono hBW.size); replace q00 := below_cell b2 q00; replace q01 := below_cell b2 q01; replace q02 := below_cell b2 q02; replace r00 := below_cell b2 r00; replace r01 := below_cell b2 r01; replace r02 := below_cell b2 r02; replace hR0 := below_row b2 hR0; replace k1 := k1.later b2)
          | (go_at_call 15; (fail_if_success clear b3); refine (G3.out _ u1 u2 x1 y1 x2 y2 ct1 cs1 ct2 k1 k2).mono ?_; rintro e w3 ⟨u3, ct3, cs3, x3, y3, rfl, g3, kx3, _, hl1, ky3, _, hl2⟩; have b3 := g3; replace hBW := hBW.trans (b3.mono hBW.size); replace q00 := below_cell b3 q00; replace q01 := below_cell b3 q01; replace q02 := below_cell b3 q02; replace r00 := below_cell b3 r00; replace r01 := below_cell b3 r01; replace r02 := below_cell b3 r02; replace hR0 := below_row b3 hR0; replace k1 := k1.later b3; replace k2 := k2.later b3; have fz := fun o => hR0.frozen o))
    | fail
  have fz0 := fun o => hR0.frozen o
  go_wp2
  all_goals refine bodyPost_ret (v := Value.agg #[Value.bool (ng u3.num), Value.slice x3 (ln (am u3.num)) (ln (am u3.num)), Value.slice y3 (ln u3.den) (ln u3.den)]) (by rw [results_cell rfl]; go_simp) rfl ?_
  all_goals exact ⟨u3, ct3, cs3, x3, y3, rfl, ((bset (bset (bset (hB.trans (hBW.mono hB.size)) (by omega)) (by omega)) (by omega))), kx3.setR r00 r01 r02, Nat.le_refl _, hl1, ky3.setR r00 r01 r02, Nat.le_refl _, hl2⟩
theorem lv_add (q : Nat → RatV) (i j : Nat) : lv q (i + j) = lv q i ++ lv (fun t => q (i + t)) j := by
  unfold lv
  rw [List.range_add, List.map_append, List.map_map]
  rfl
theorem byHalvesC_is : ∀ (k len : Nat) (a : Option Addr) (cap : Nat) (q : Nat → RatV) (s : Bool) (p : Option Addr) (n c : Nat) (p' : Option Addr) (m e : Nat) (w : World), len ≤ k → 0 < len → len ≤ cap → cap ≤ 9223372036854775807 → RatsAt w a len q → (∀ i, i < len → (q i).ok w) → (∀ i, i < len → (q i).low) → (∀ i, i < len → (q i).val ≠ 0) →
    (∀ i j g, i + j ≤ len → Ct g (lv (fun t => q (i + t)) j) → sz 10000000 g) →
    Calls Tryz.prog 13 #[.slice a len cap, .agg #[.bool s, .slice p n c, .slice p' m e], .func (.func 15) #[] #[]] w (CAns w (lv q len) (q 0).val)
  | 0, len, a, cap, q, s, p, n, c, p', m, e, w, hk, hp, hc, hm, hA, ho, hlo, hz, hs => by omega
  | k + 1, len, a, cap, q, s, p, n, c, p', m, e, w, hk, hp, hc, hm, hA, ho, hlo, hz, hs => by
    obtain ⟨b, off, rfl, hlt, hcell⟩ := hA (by omega)
    rcases Nat.lt_or_ge len 2 with h1 | h1
    · obtain rfl : len = 1 := by omega
      have hq := hlo 0 (by omega)
      have hok := ho 0 (by omega)
      have hz0 := hz 0 (by omega)
      have hl0 := hcell 0 (by omega)
      rw [Nat.zero_mul, Nat.add_zero] at hl0
      have e0 : lv q 1 = [(q 0).val] := rfl
      have ev := low_val hq
      rw [e0]
      refine (byHalves_one b off cap (q 0) s p n c p' m e _ w hlt hl0).mono ?_
      rintro r w' ⟨rfl, hb⟩
      have s1 := hok.1.later hb
      have s2 := hok.2.2.2.1.later hb
      have f1 : (q 0).X = am (q 0).val.num := congrArg RatV.X ev
      have f2 : (q 0).Y = (q 0).val.den := congrArg RatV.Y ev
      have f3 : (q 0).s = ng (q 0).val.num := congrArg RatV.s ev
      have n1 := hok.2.2.1
      have n2 := hok.2.2.2.2.2
      rw [hq.hn, f1] at s1 n1
      rw [hq.hm, f2] at s2 n2
      refine ⟨(q 0).val, Ct.one hz0, ?_, (q 0).a, (q 0).b, ?_, hb, s1, Nat.le_refl _, n1, s2, Nat.le_refl _, n2⟩
      · rcases (show (q 0).val < 0 ∨ 0 < (q 0).val by grind) with h | h
        · have := Rat.mul_pos (show (0 : Rat) < -(q 0).val by grind) (show (0 : Rat) < -(q 0).val by grind)
          grind
        · exact Rat.mul_pos h h
      · rw [hq.hn, hq.hc, hq.hm, hq.he, f1, f2, ← f3]
    · obtain ⟨h, hh⟩ : ∃ h, h = len / 2 := ⟨_, rfl⟩
      obtain ⟨j, hj⟩ : ∃ j, len = h + j := ⟨len - h, by omega⟩
      have hsum : lv q len = lv q h ++ lv (fun i => q (h + i)) j := by rw [hj, lv_add]
      have e1 : (fun t => q (0 + t)) = q := funext fun t => by rw [Nat.zero_add]
      rw [hsum]
      refine byHalvesC_many b off len cap h p n c p' m e s (lv q h) (lv (fun i => q (h + i)) j) (q 0).val (q h).val w h1 hc hm hh (fun g hg => hs 0 h g (by omega) (by rw [e1]; exact hg)) (fun g hg => hs h j g (by omega) hg) (fun g hg => hs 0 len g (by omega) (by rw [e1, hsum]; exact hg)) (fun w' hb => ?_) (fun w' hb => ?_)
      · exact byHalvesC_is k h _ cap q s p n c p' m e w' (by omega) (by omega) (by omega) hm (fun _ => ⟨b, off, rfl, Nat.lt_of_lt_of_le hlt hb.size, fun i hi => (hcell i (by omega)).later hb⟩) (fun i hi => (ho i (by omega)).later hb) (fun i hi => hlo i (by omega)) (fun i hi => hz i (by omega)) (fun i j' g hi => hs i j' g (by omega))
      · rw [show len - h = j by omega]
        refine byHalvesC_is k j _ (cap - h) (fun i => q (h + i)) s p n c p' m e w' (by omega) (by omega) (by omega) (by omega) (fun _ => ⟨b, off + h * 3, rfl, Nat.lt_of_lt_of_le hlt hb.size, fun i hi => ?_⟩) (fun i hi => (ho (h + i) (by omega)).later hb) (fun i hi => hlo (h + i) (by omega)) (fun i hi => hz (h + i) (by omega)) (fun i j' g hi hg => ?_)
        · have := (hcell (h + i) (by omega)).later hb
          rw [show off + h * 3 + i * 3 = off + (h + i) * 3 by omega]
          exact this
        · refine hs (h + i) j' g (by omega) ?_
          have e : (fun t => q (h + i + t)) = fun t => q (h + (i + t)) := funext fun t => by rw [Nat.add_assoc]
          rw [e]
          exact hg
end Go.Proofs.YtebbehlfocpjhaaGreat
