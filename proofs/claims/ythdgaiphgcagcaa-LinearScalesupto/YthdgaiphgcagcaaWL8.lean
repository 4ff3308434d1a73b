/-
  Layer 6: the reference's zero; how long the sum of the products is.
-/
import Derived.Test.YthdgaiphgcagcaaWQ5
import Derived.Test.YthdgaiphgcagcaaWL5
import Derived.Test.YthdgaiphgcagcaaWQE
namespace Go.Proofs.Ythdgaiphgcagcaa
open Go.RowKit
set_option linter.unusedVariables false

theorem Seg.set2 {w : World} {p : Option Addr} {X n c : Nat} {u0 u1 : Value} {z0 : Bool} {a1 : Option Addr} {n1 k1 : Nat} (h : Seg w p X n) (h0 : w.cell? ⟨c, 0, none⟩ = some (.bool z0)) (h1 : w.cell? ⟨c, 1, none⟩ = some (.slice a1 n1 k1)) :
    Seg ((w.setCell ⟨c, 0, none⟩ u0).setCell ⟨c, 1, none⟩ u1) p X n := by
  refine (h.setB h0 (by simp)).setB (z := .slice a1 n1 k1) ?_ (by simp)
  rw [World.cell?_setCell_other _ _ _ _ (fun e => by simp at e)]; exact h1


end Go.Proofs.Ythdgaiphgcagcaa

namespace Go.Proofs.Ythdgaiphgcagcaa
open Go.RowKit
set_option linter.unusedVariables false
set_option linter.unusedSimpArgs false

/-- each part's coefficient times its variable's value, where there is one: not yet in lowest terms -/
def prods (v : Nat → Int) (f g : Nat → RatV) (m : Nat) : Nat → List (Int × Nat)
  | 0 => []
  | k + 1 => prods v f g m k ++ (if 0 ≤ v k ∧ v k < (m : Int) then [(rn (f k).s (f k).X (f k).Y * rn (g (v k).toNat).s (g (v k).toNat).X (g (v k).toNat).Y, rd (f k).Y * rd (g (v k).toNat).Y)] else [])

/-- what the loop keeps -/
def PrInv (w : World) (v : Nat → Int) (f g : Nat → RatV) (m N : Nat) (k : Nat) (vo : Value) (wr : World) : Prop :=
  ∃ (j : Nat) (q : Nat → RatV), j ≤ k ∧ wr.ownsRow w.heap.size 27 3 vo j (cellsV q j) ∧ Below w.heap.size w wr ∧ Eqv (lq q j) (prods v f g m k) ∧
    ∀ i, i < j → (q i).ok wr ∧ (q i).low ∧ (q i).n + (q i).m + 1 ≤ N ∧ ∀ b, vo.ownBlock = some b → (q i).off b

theorem PrInv.later {w : World} {v : Nat → Int} {f g : Nat → RatV} {m N k : Nat} {vo : Value} {wr w' : World} (h : PrInv w v f g m N k vo wr) (hb : Below wr.heap.size wr w') : PrInv w v f g m N k vo w' := by
  obtain ⟨j, q, hj, hO, hB, hE, hq⟩ := h
  exact ⟨j, q, hj, own_below hO hb, hB.trans (hb.mono hB.size), hE, fun i hi => ⟨(hq i hi).1.later hb, (hq i hi).2⟩⟩
theorem PrInv.skip {w : World} {v : Nat → Int} {f g : Nat → RatV} {m N k : Nat} {vo : Value} {wr : World} (h : PrInv w v f g m N k vo wr) (hp : ¬ (0 ≤ v k ∧ v k < (m : Int))) : PrInv w v f g m N (k + 1) vo wr := by
  obtain ⟨j, q, hj, hO, hB, hE, hq⟩ := h
  refine ⟨j, q, by omega, hO, hB, ?_, hq⟩
  simp only [prods]
  rw [if_neg hp, List.append_nil]
  exact hE

theorem lq_congr {q q' : Nat → RatV} : ∀ (n : Nat), (∀ i, i < n → q i = q' i) → lq q n = lq q' n
  | 0, _ => rfl
  | n + 1, h => by rw [lq_succ, lq_succ, lq_congr n fun i hi => h i (by omega), h n (by omega)]
theorem PrInv.push {w : World} {v : Nat → Int} {f g : Nat → RatV} {m N k : Nat} {vo : Value} {wB w1 : World} {j : Nat} {q : Nat → RatV} (hj : j ≤ k) (hB : Below w.heap.size w wB) (hE : Eqv (lq q j) (prods v f g m k))
    (hq : ∀ i, i < j → (q i).ok wB ∧ (q i).low ∧ (q i).n + (q i).m + 1 ≤ N ∧ ∀ b, vo.ownBlock = some b → (q i).off b) (hrow : ∀ b, vo.ownBlock = some b → w.heap.size ≤ b) (hp : 0 ≤ v k ∧ v k < (m : Int))
    (r : RatV) (hr : r.ok wB) (hrl : r.low) (hrn : r.n + r.m + 1 ≤ N) (hro : ∀ b, vo.ownBlock = some b → r.off b)
    (hL : Low (rn (f k).s (f k).X (f k).Y * rn (g (v k).toNat).s (g (v k).toNat).X (g (v k).toNat).Y) ((rd (f k).Y : Nat) * (rd (g (v k).toNat).Y : Nat)) (sg r.s r.X) r.Y) {gb cap : Nat}
    (hown : w1.ownsRow w.heap.size 27 3 (.slice (some ⟨gb, 0, none⟩) (j + 1) cap) (j + 1) (cellsV q j ++ [.bool r.s, .slice r.a r.n r.c, .slice r.b r.m r.e])) (hg : wB.grownBy w1 vo.ownBlock) (hat : vo.ownBlock = some gb ∨ gb = wB.heap.size) :
    PrInv w v f g m N (k + 1) (.slice (some ⟨gb, 0, none⟩) (j + 1) cap) w1 := by
  obtain ⟨q', hq'⟩ : ∃ q' : Nat → RatV, q' = fun i => if i < j then q i else r := ⟨_, rfl⟩
  have e1 : ∀ i, i < j → q' i = q i := fun i hi => by rw [hq']; exact if_pos hi
  have e2 : q' j = r := by rw [hq']; exact if_neg (by omega)
  refine ⟨j + 1, q', by omega, ?_, hB.trans (below_grown hB.size hrow hg), ?_, fun i hi => ?_⟩
  · simp only [cellsV]
    rw [cellsV_congr j e1, e2]
    exact hown
  · rw [lq_succ, lq_congr j e1, e2]
    simp only [prods]
    rw [if_pos hp]
    refine hE.append ?_
    have hY := hrl.pos
    rw [rn_of (by omega), rd_of (by omega)]
    exact Eqv.one (by rw [Int.natCast_mul]; exact hL)
  · have hoff : ∀ x : RatV, x.ok wB → (∀ b, vo.ownBlock = some b → x.off b) → ∀ b, (Value.slice (some ⟨gb, 0, none⟩) (j + 1) cap).ownBlock = some b → x.off b := by
      intro x hx ho b hb
      have : gb = b := by simpa [Value.ownBlock] using hb
      subst this
      rcases hat with h | h
      · exact ho _ h
      · exact hx.off (by omega)
    rcases Nat.lt_or_ge i j with h1 | h1
    · rw [e1 i h1]
      obtain ⟨a1, a2, a3, a4⟩ := hq i h1
      exact ⟨a1.grown hg a4, a2, a3, hoff _ a1 a4⟩
    · obtain rfl : i = j := by omega
      rw [e2]
      exact ⟨hr.grown hg hro, hrl, hrn, hoff _ hr hro⟩

theorem info_Rat : (Try.prog.info? 27).map (fun i => (i.zero, i.size, i.bytes)) = some (some (.agg #[.bool false, .slice none 0 0, .slice none 0 0]), 3, 56) := by kernel_rfl

end Go.Proofs.Ythdgaiphgcagcaa

namespace Go.Proofs.Ythdgaiphgcagcaa
open Go.RowKit
set_option linter.unusedVariables false

theorem bulkV_all {q : Nat → RatV} {N : Nat} : ∀ (n : Nat), (∀ i, i < n → (q i).n + (q i).m + 1 ≤ N) → bulkV q n ≤ n * N
  | 0, _ => by simp [bulkV]
  | n + 1, h => by
    have h1 := bulkV_all n fun i hi => h i (by omega)
    have h2 := h n (by omega)
    simp only [bulkV, Nat.succ_mul]
    omega
theorem lden_prods_pos (v : Nat → Int) (f g : Nat → RatV) (m : Nat) : ∀ k, 0 < lden (prods v f g m k)
  | 0 => Nat.one_pos
  | k + 1 => by
    simp only [prods]
    rw [lden_append]
    refine Nat.mul_pos (lden_prods_pos v f g m k) ?_
    split
    · exact Nat.mul_pos (Nat.mul_pos (rd_pos _) (rd_pos _)) Nat.one_pos
    · exact Nat.one_pos

theorem Seg.setR {w : World} {p : Option Addr} {X n c : Nat} {u0 u1 u2 : Value} {z0 : Bool} {a1 a2 : Option Addr} {n1 k1 n2 k2 : Nat} (h : Seg w p X n) (h0 : w.cell? ⟨c, 0, none⟩ = some (.bool z0)) (h1 : w.cell? ⟨c, 1, none⟩ = some (.slice a1 n1 k1)) (h2 : w.cell? ⟨c, 2, none⟩ = some (.slice a2 n2 k2)) :
    Seg (((w.setCell ⟨c, 0, none⟩ u0).setCell ⟨c, 1, none⟩ u1).setCell ⟨c, 2, none⟩ u2) p X n := by
  refine (h.set2 h0 h1).setB (z := .slice a2 n2 k2) ?_ (by simp)
  rw [World.cell?_setCell_other _ _ _ _ (fun e => by simp at e), World.cell?_setCell_other _ _ _ _ (fun e => by simp at e)]
  exact h2
theorem PrInv.below {w : World} {v : Nat → Int} {f g : Nat → RatV} {m N k : Nat} {vo : Value} {wr : World} (h : PrInv w v f g m N k vo wr) : Below w.heap.size w wr := by
  obtain ⟨j, q, hj, hO, hB, hE, hq⟩ := h
  exact hB
theorem PrInv.slice {w : World} {v : Nat → Int} {f g : Nat → RatV} {m N k : Nat} {vo : Value} {wr : World} (h : PrInv w v f g m N k vo wr) : ∃ a j cap, vo = .slice a j cap := by
  obtain ⟨j, q, hj, hO, hB, hE, hq⟩ := h
  obtain ⟨a, cap, e, _⟩ := own_rats hO
  exact ⟨a, j, cap, e⟩
theorem PrInv.open {w : World} {v : Nat → Int} {f g : Nat → RatV} {m N k : Nat} {a : Option Addr} {j cap : Nat} {wr : World} (h : PrInv w v f g m N k (.slice a j cap) wr) : ∃ q : Nat → RatV, j ≤ k ∧ j ≤ cap ∧ cap ≤ 9223372036854775807 ∧ RatsAt wr a j q ∧ (∀ i, i < j → (q i).ok wr ∧ (q i).low ∧ (q i).n + (q i).m + 1 ≤ N) ∧ Eqv (lq q j) (prods v f g m k) := by
  obtain ⟨j', q, hj, hO, hB, hE, hq⟩ := h
  obtain ⟨a', cap', e, h1, h2, h3⟩ := own_rats hO
  simp only [Value.slice.injEq] at e
  obtain ⟨rfl, rfl, rfl⟩ := e
  exact ⟨q, hj, h1, by simpa [maxLen] using h2, h3, fun i hi => ⟨(hq i hi).1, (hq i hi).2.1, (hq i hi).2.2.1⟩, hE⟩

end Go.Proofs.Ythdgaiphgcagcaa

namespace Go.Proofs.Ythdgaiphgcagcaa
open Go.RowKit
set_option linter.unusedVariables false

set_option maxHeartbeats 2000000 in
set_option maxRecDepth 100000 in
theorem vlzero_is (w : World) : Calls Try.prog 38 #[] w fun e w' => ∃ p q, e = .returned (.agg #[.bool false, .slice p 0 0, .slice q 1 1]) ∧ New w w' p 0 0 ∧ New w w' q 1 1 := by
  have G2' := fun w' => vqWhole_is 0 w' (by omega) (by omega)
  have z1 : ng 0 = false := rfl
  have z2 : ln (am 0) = 0 := ln_zero
  have z3 : am 0 = 0 := rfl
  rw [z1, z2, ln_one, z3] at G2'
  have G2 := hide' G2'
  clear G2' z1 z2 z3
  go_enter Try.func38, Try.ntmps38
  go_wp2_with fail
  obtain ⟨W, hW⟩ : ∃ W, (w.alloc (.cells #[.bool false, .slice none 0 0, .slice none 0 0] 27)) = W := ⟨_, rfl⟩
  have r00 : W.cell? ⟨w.heap.size, 0, none⟩ = some (.bool false) := by subst hW; go_simp
  have r01 : W.cell? ⟨w.heap.size, 1, none⟩ = some (.slice none 0 0) := by subst hW; go_simp
  have r02 : W.cell? ⟨w.heap.size, 2, none⟩ = some (.slice none 0 0) := by subst hW; go_simp
  have hB : Below w.heap.size w W := by subst hW; exact ((Below.refl _ _).alloc (by (try simp only [World.size_alloc]); omega) _)
  have hR0 : Row W (w.heap.size) := by
    have := row_new (w) #[.bool false, .slice none 0 0, .slice none 0 0] 27
    try simp only [World.size_alloc] at this
    subst hW; exact this
  have hz : W.heap.size = w.heap.size + 1 := by subst hW; simp only [World.size_alloc]
  rw [hW]
  clear hW
  have hBW : Below W.heap.size W W := Below.refl _ _
  refine (G2.out _).mono ?_
  rintro e w1 ⟨p1, q1, rfl, hp1, hq1⟩
  have b1 := hp1.below
  replace hp1 := hp1.back hBW
  replace hq1 := hq1.back hBW
  replace hBW := hBW.trans (b1.mono hBW.size)
  replace r00 := below_cell b1 r00
  replace r01 := below_cell b1 r01
  replace r02 := below_cell b1 r02
  replace hR0 := below_row b1 hR0
  have fz0 := fun o => hR0.frozen o
  go_wp2
  all_goals refine bodyPost_ret (v := Value.agg #[Value.bool false, Value.slice p1 0 0, Value.slice q1 1 1]) (by rw [results_cell rfl]; go_simp) rfl ?_
  all_goals exact ⟨p1, q1, rfl, hp1.mid hB (((((Mid.refl _ _ _).set _ _ (by omega) (by omega) _).set _ _ (by omega) (by omega) _).set _ _ (by omega) (by omega) _)), hq1.mid hB (((((Mid.refl _ _ _).set _ _ (by omega) (by omega) _).set _ _ (by omega) (by omega) _).set _ _ (by omega) (by omega) _))⟩

theorem prods_le {W : World} {v : Nat → Int} {f g : Nat → RatV} {m K : Nat} : ∀ (n : Nat), (∀ i, i < n → (f i).ok W) → (∀ i, i < m → (g i).ok W) → (∀ i t, i < n → t < m → (f i).n + (f i).m + (g t).n + (g t).m ≤ K) →
    lden (prods v f g m n) ≤ BB ^ (n * (K + 1)) ∧ am (lnum (prods v f g m n)) ≤ BB ^ (n * (K + 1))
  | 0, _, _, _ => ⟨by rw [Nat.zero_mul, Nat.pow_zero]; exact Nat.le_refl _, Nat.zero_le _⟩
  | n + 1, hf, hg, hK => by
    obtain ⟨h1, h2⟩ := prods_le n (fun i hi => hf i (by omega)) hg (fun i t hi ht => hK i t (by omega) ht)
    have hB : 0 < BB := by rw [BB_eq]; omega
    have hmono : BB ^ (n * (K + 1)) ≤ BB ^ ((n + 1) * (K + 1)) := pow_mono (by rw [Nat.succ_mul]; omega)
    simp only [prods]
    split
    · rename_i hp
      obtain ⟨t, ht⟩ : ∃ t : Nat, (v n).toNat = t := ⟨_, rfl⟩
      have htm : t < m := by omega
      rw [ht]
      have k0 := hK n t (by omega) htm
      have hfn := hf n (by omega)
      have hgt := hg t htm
      have x1 : am (rn (f n).s (f n).X (f n).Y * rn (g t).s (g t).X (g t).Y) ≤ BB ^ K := by
        rw [am_mul]
        refine Nat.le_trans (Nat.mul_le_mul (Nat.le_trans (rn_am _ _ _) (Nat.le_of_lt hfn.1.1)) (Nat.le_trans (rn_am _ _ _) (Nat.le_of_lt hgt.1.1))) ?_
        rw [← Nat.pow_add]
        exact pow_mono (by omega)
      have x2 : rd (f n).Y * rd (g t).Y ≤ BB ^ K := by
        refine Nat.le_trans (Nat.mul_le_mul (rd_le hfn.2.2.2.1.1) (rd_le hgt.2.2.2.1.1)) ?_
        rw [← Nat.pow_add]
        exact pow_mono (by omega)
      rw [lden_append, lnum_append]
      generalize rn (f n).s (f n).X (f n).Y * rn (g t).s (g t).X (g t).Y = R at *
      generalize rd (f n).Y * rd (g t).Y = D at *
      have e1 : lden [(R, D)] = D := Nat.mul_one _
      have e2 : lnum [(R, D)] = R := by
        show R * ((1 : Nat) : Int) + 0 * _ = _
        simp
      rw [e1, e2]
      generalize lden (prods v f g m n) = A at *
      generalize lnum (prods v f g m n) = B at *
      have e3 : BB ^ ((n + 1) * (K + 1)) = BB ^ (n * (K + 1)) * BB ^ K * BB := by rw [Nat.succ_mul, ← Nat.add_assoc, Nat.pow_succ, Nat.pow_add]
      have p1 : A * D ≤ BB ^ (n * (K + 1)) * BB ^ K := Nat.mul_le_mul h1 x2
      have p2 : am (B * (D : Nat)) ≤ BB ^ (n * (K + 1)) * BB ^ K := by rw [am_mul]; exact Nat.mul_le_mul h2 x2
      have p3 : am (R * (A : Nat)) ≤ BB ^ (n * (K + 1)) * BB ^ K := by rw [am_mul, Nat.mul_comm]; exact Nat.mul_le_mul h1 x1
      have p7 : am (B * (D : Nat) + R * (A : Nat)) ≤ am (B * (D : Nat)) + am (R * (A : Nat)) := Int.natAbs_add_le _ _
      rw [e3]
      generalize BB ^ (n * (K + 1)) * BB ^ K = T at *
      have p8 : T * 2 ≤ T * BB := Nat.mul_le_mul_left _ (by rw [BB_eq]; omega)
      constructor <;> omega
    · rw [List.append_nil]
      exact ⟨Nat.le_trans h1 hmono, Nat.le_trans h2 hmono⟩
theorem prods_ln {W : World} {v : Nat → Int} {f g : Nat → RatV} {m K n : Nat} {Z : Int} {V : Nat} (hf : ∀ i, i < n → (f i).ok W) (hg : ∀ i, i < m → (g i).ok W) (hK : ∀ i t, i < n → t < m → (f i).n + (f i).m + (g t).n + (g t).m ≤ K)
    (hL : Low (lnum (prods v f g m n)) (lden (prods v f g m n) : Nat) Z V) : ln (am Z) ≤ n * (K + 1) + 1 ∧ ln V ≤ n * (K + 1) + 1 := by
  obtain ⟨h1, h2⟩ := prods_le (v := v) n hf hg hK
  have hl : BB ^ (n * (K + 1)) < BB ^ (n * (K + 1) + 1) := by
    rw [Nat.pow_succ]
    have : 0 < BB ^ (n * (K + 1)) := by rw [BB_eq]; exact Nat.pow_pos (by omega)
    have h3 : BB ^ (n * (K + 1)) * 2 ≤ BB ^ (n * (K + 1)) * BB := Nat.mul_le_mul_left _ (by rw [BB_eq]; omega)
    omega
  exact ln1 hL (Nat.lt_of_le_of_lt h2 hl) (by show am ((lden (prods v f g m n) : Nat) : Int) < _; exact Nat.lt_of_le_of_lt h1 hl) (Nat.le_refl _) (Nat.le_refl _)
end Go.Proofs.Ythdgaiphgcagcaa
