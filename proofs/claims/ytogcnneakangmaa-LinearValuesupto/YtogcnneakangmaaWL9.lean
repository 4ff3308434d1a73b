/-
  Layer 6: the reference's Value.
-/
import Derived.Test.YtogcnneakangmaaWL3
import Derived.Deep.AppendLies
import Derived.Laws.OwnMore
import Derived.Test.YtogcnneakangmaaWQ5
import Derived.Test.YtogcnneakangmaaWQB
import Derived.Test.YtogcnneakangmaaWQE
import Derived.Test.YtogcnneakangmaaWQ8
namespace Go.Proofs.Ytogcnneakangmaa
open Go.RowKit
set_option linter.unusedVariables false

/-- the cells of the first n of them -/
def cellsV (q : Nat → RatV) : Nat → List Value
  | 0 => []
  | n + 1 => cellsV q n ++ [.bool (q n).s, .slice (q n).a (q n).n (q n).c, .slice (q n).b (q n).m (q n).e]
theorem cellsV_length (q : Nat → RatV) : ∀ n, (cellsV q n).length = n * 3
  | 0 => rfl
  | n + 1 => by simp only [cellsV, List.length_append, cellsV_length q n, List.length_cons, List.length_nil]; omega
theorem cellsV_at (q : Nat → RatV) : ∀ (n i : Nat), i < n → (cellsV q n)[i * 3]? = some (.bool (q i).s) ∧ (cellsV q n)[i * 3 + 1]? = some (.slice (q i).a (q i).n (q i).c) ∧ (cellsV q n)[i * 3 + 2]? = some (.slice (q i).b (q i).m (q i).e)
  | 0, i, h => absurd h (by omega)
  | n + 1, i, h => by
    have hl := cellsV_length q n
    rcases Nat.lt_or_ge i n with h1 | h1
    · have := cellsV_at q n i h1
      simp only [cellsV]
      rw [List.getElem?_append_left (by omega), List.getElem?_append_left (by omega), List.getElem?_append_left (by omega)]
      exact this
    · obtain rfl : i = n := by omega
      simp only [cellsV]
      rw [List.getElem?_append_right (by omega), List.getElem?_append_right (by omega), List.getElem?_append_right (by omega), hl]
      simp [show i * 3 + 1 - i * 3 = 1 by omega, show i * 3 + 2 - i * 3 = 2 by omega]
theorem cellsV_congr {q q' : Nat → RatV} : ∀ (n : Nat), (∀ i, i < n → q i = q' i) → cellsV q n = cellsV q' n
  | 0, _ => rfl
  | n + 1, h => by simp only [cellsV]; rw [cellsV_congr n fun i hi => h i (by omega), h n (by omega)]
theorem cellsV_one (q : Nat → RatV) (n : Nat) : ∀ u ∈ [Value.bool (q n).s, .slice (q n).a (q n).n (q n).c, .slice (q n).b (q n).m (q n).e], u.oneCell' = true := by
  intro u hu
  simp only [List.mem_cons, List.not_mem_nil, or_false] at hu
  rcases hu with rfl | rfl | rfl <;> rfl

/-- such a row is a list of fractions -/
theorem own_rats {w : World} {base : Nat} {e : TypeId} {v : Value} {n : Nat} {q : Nat → RatV} (h : w.ownsRow base e 3 v n (cellsV q n)) : ∃ a cap, v = .slice a n cap ∧ n ≤ cap ∧ cap ≤ maxLen ∧ RatsAt w a n q := by
  rcases h.2 with ⟨rfl, rfl⟩ | ⟨g, cap, cur, rfl, hb, hg, hc, hm, _, _⟩
  · exact ⟨none, 0, rfl, Nat.le_refl _, by simp [maxLen], fun h => absurd h (by omega)⟩
  · refine ⟨_, cap, rfl, hc, hm, fun hn => ⟨g, 0, rfl, (Array.getElem?_eq_some_iff.1 hg).1, fun i hi => ?_⟩⟩
    obtain ⟨c0, c1, c2⟩ := cellsV_at q n i hi
    have k0 := h.cellAt (i * 3) (by omega)
    have k1 := h.cellAt (i * 3 + 1) (by omega)
    have k2 := h.cellAt (i * 3 + 2) (by omega)
    rw [c0] at k0
    rw [c1] at k1
    rw [c2] at k2
    rw [Nat.zero_add]
    exact ⟨k0, k1, k2⟩

/-- what is kept below is kept of such a row too -/
theorem own_below {w w' : World} {base : Nat} {e : TypeId} {size : Nat} {v : Value} {n : Nat} {xs : List Value} (h : w.ownsRow base e size v n xs) (hb : Below w.heap.size w w') : w'.ownsRow base e size v n xs := by
  refine ⟨h.1, ?_⟩
  rcases h.2 with h0 | ⟨g, cap, cur, hv, hg, hc, rest⟩
  · exact Or.inl h0
  · refine Or.inr ⟨g, cap, cur, hv, hg, ?_, rest⟩
    rw [hb.block g (Array.getElem?_eq_some_iff.1 hc).1]
    exact hc

/-- a number that does not lie in the row that grows is as it was -/
theorem Seg.grown {w w' : World} {a : Option Addr} {X n : Nat} {row : Option Nat} (h : Seg w a X n) (hg : w.grownBy w' row) (hne : 0 < n → ∀ ad, a = some ad → some ad.block ≠ row) : Seg w' a X n := by
  refine ⟨h.1, fun hn => ?_⟩
  obtain ⟨b, off, rfl, hl, hc⟩ := h.2 hn
  exact ⟨b, off, rfl, Nat.lt_of_lt_of_le hl hg.size, fun i hi => hg.cell (hc i hi) (hne hn ⟨b, off, none⟩ rfl)⟩

theorem below_grown {base : Nat} {w w' : World} {row : Option Nat} (hb : base ≤ w.heap.size) (hrow : ∀ k, row = some k → base ≤ k) (hg : w.grownBy w' row) : Below base w w' :=
  ⟨hg.os, hg.tape, hg.output, hg.size, fun k hk => hg.block k (by omega) (fun e => by have := hrow k e.symm; omega)⟩

/-- the fraction's numbers do not lie in that block -/
def RatV.off (q : RatV) (g : Nat) : Prop := (0 < q.n → ∀ ad, q.a = some ad → ad.block ≠ g) ∧ (0 < q.m → ∀ ad, q.b = some ad → ad.block ≠ g)
theorem RatV.ok.grown {w w' : World} {q : RatV} {row : Option Nat} (h : q.ok w) (hg : w.grownBy w' row) (hne : ∀ g, row = some g → q.off g) : q.ok w' :=
  ⟨h.1.grown hg fun hn ad e r => (hne ad.block r.symm).1 hn ad e rfl, h.2.1, h.2.2.1, h.2.2.2.1.grown hg fun hn ad e r => (hne ad.block r.symm).2 hn ad e rfl, h.2.2.2.2.1, h.2.2.2.2.2⟩
/-- a block that is not there yet is no fraction's -/
theorem RatV.ok.off {w : World} {q : RatV} (h : q.ok w) {g : Nat} (hg : w.heap.size ≤ g) : q.off g := by
  refine ⟨fun hn ad e => ?_, fun hn ad e => ?_⟩
  · obtain ⟨b, off, e', hl, _⟩ := h.1.2 hn
    rw [e] at e'
    obtain rfl := Option.some.inj e'
    show b ≠ g
    omega
  · obtain ⟨b, off, e', hl, _⟩ := h.2.2.2.1.2 hn
    rw [e] at e'
    obtain rfl := Option.some.inj e'
    show b ≠ g
    omega
end Go.Proofs.Ytogcnneakangmaa

namespace Go.Proofs.Ytogcnneakangmaa
open Go.RowKit
set_option linter.unusedVariables false
set_option linter.unusedSimpArgs false

/-- they are together the same -/
def Eqv (l m : List (Int × Nat)) : Prop := lnum l * (lden m : Nat) = lnum m * (lden l : Nat)
theorem Eqv.refl (l : List (Int × Nat)) : Eqv l l := rfl
theorem Eqv.append {l m l' m' : List (Int × Nat)} (h : Eqv l m) (k : Eqv l' m') : Eqv (l ++ l') (m ++ m') := by
  unfold Eqv at *
  rw [lnum_append, lnum_append, lden_append, lden_append, Int.natCast_mul, Int.natCast_mul]
  generalize lnum l = a at *
  generalize lnum m = b at *
  generalize lnum l' = a' at *
  generalize lnum m' = b' at *
  generalize ((lden l : Nat) : Int) = D at *
  generalize ((lden m : Nat) : Int) = E at *
  generalize ((lden l' : Nat) : Int) = D' at *
  generalize ((lden m' : Nat) : Int) = E' at *
  have e1 : (a * D' + a' * D) * (E * E') = (a * E) * (D' * E') + (a' * E') * (D * E) := by grind
  have e2 : (b * E' + b' * E) * (D * D') = (b * D) * (D' * E') + (b' * D') * (D * E) := by grind
  rw [e1, e2, h, k]
theorem Eqv.low {l m : List (Int × Nat)} {Z : Int} {V : Nat} (h : Eqv l m) (hm : 0 < lden m) (hL : Low (lnum l) (lden l : Nat) Z V) : Low (lnum m) (lden m : Nat) Z V :=
  hL.congr (by omega) h
/-- a fraction and it in lowest terms -/
theorem Eqv.one {A : Int} {D : Nat} {Z : Int} {V : Nat} (h : Low A (D : Nat) Z V) : Eqv [(Z, V)] [(A, D)] := by
  show (Z * ((1 : Nat) : Int) + 0 * _) * ((D * 1 : Nat) : Int) = (A * ((1 : Nat) : Int) + 0 * _) * ((V * 1 : Nat) : Int)
  have := h.eq
  simpa using this
/-- the fraction that an answer is -/
def RatV.of (Z : Int) (V : Nat) (a b : Option Addr) : RatV := ⟨ng Z, a, ln (am Z), ln (am Z), am Z, b, ln V, ln V, V⟩
theorem RatV.of_low {Z : Int} {V : Nat} {a b : Option Addr} (hV : 0 < V) (hc : Nat.gcd (am Z) V = 1) : (RatV.of Z V a b).low := ⟨by show ng (sg (ng Z) (am Z)) = ng Z; rw [sg_na], rfl, rfl, rfl, rfl, hV, hc⟩

set_option maxRecDepth 30000 in
theorem isPlace_in (v : Int) (n : Nat) (w : World) (h0 : 0 ≤ v) (h1 : v < (n : Int)) : Calls Try.prog 17 #[.int .i64 v, .int .i64 (n : Int)] w fun e w' => e = .returned (.bool true) ∧ w' = w := by
  go_enter Try.func17, Try.ntmps17
  go_wp2
  go_ret
  exact ⟨by simp [h0, h1], rfl⟩
set_option maxRecDepth 30000 in
theorem isPlace_out (v : Int) (n : Nat) (w : World) (h0 : ¬ (0 ≤ v ∧ v < (n : Int))) : Calls Try.prog 17 #[.int .i64 v, .int .i64 (n : Int)] w fun e w' => e = .returned (.bool false) ∧ w' = w := by
  by_cases h : 0 ≤ v
  · have h1 : ¬ v < (n : Int) := fun k => h0 ⟨h, k⟩
    clear h0
    go_enter Try.func17, Try.ntmps17
    go_wp2
    go_ret
    exact ⟨by simp [h, h1], rfl⟩
  · clear h0
    go_enter Try.func17, Try.ntmps17
    go_wp2
    go_ret
    exact ⟨by simp [h], rfl⟩
end Go.Proofs.Ytogcnneakangmaa

namespace Go.Proofs.Ytogcnneakangmaa
open Go.RowKit
set_option linter.unusedVariables false
set_option linter.unusedSimpArgs false

/-- each part's coefficient times its variable's value, where there is one: not yet in lowest terms -/
def prods (v : Nat → Int) (f g : Nat → RatV) (m : Nat) : Nat → List (Int × Nat)
  | 0 => []
  | k + 1 => prods v f g m k ++ (if 0 ≤ v k ∧ v k < (m : Int) then [(rn (f k).s (f k).X (f k).Y * rn (g (v k).toNat).s (g (v k).toNat).X (g (v k).toNat).Y, rd (f k).Y * rd (g (v k).toNat).Y)] else [])

/-- what the loop keeps -/
def PrInv (w : World) (v : Nat → Int) (f g : Nat → RatV) (m N : Nat) (k : Nat) (vo : Value) (wr : World) : Prop :=
  ∃ (j : Nat) (q : Nat → RatV), j ≤ k ∧ wr.ownsRow w.heap.size 31 3 vo j (cellsV q j) ∧ Below w.heap.size w wr ∧ Eqv (lq q j) (prods v f g m k) ∧
    ∀ i, i < j → (q i).ok wr ∧ (q i).low ∧ (q i).n + (q i).m + 1 ≤ N ∧ ∀ b, vo.ownBlock = some b → (q i).off b

theorem PrInv.later {w : World} {v : Nat → Int} {f g : Nat → RatV} {m N k : Nat} {vo : Value} {wr w' : World} (h : PrInv w v f g m N k vo wr) (hb : Below wr.heap.size wr w') : PrInv w v f g m N k vo w' := by
  obtain ⟨j, q, hj, hO, hB, hE, hq⟩ := h
  exact ⟨j, q, hj, own_below hO hb, hB.trans (hb.mono hB.size), hE, fun i hi => ⟨(hq i hi).1.later hb, (hq i hi).2⟩⟩
theorem PrInv.skip {w : World} {v : Nat → Int} {f g : Nat → RatV} {m N k : Nat} {vo : Value} {wr : World} (h : PrInv w v f g m N k vo wr) (hp : ¬ (0 ≤ v k ∧ v k < (m : Int))) : PrInv w v f g m N (k + 1) vo wr := by
  obtain ⟨j, q, hj, hO, hB, hE, hq⟩ := h
  refine ⟨j, q, by omega, hO, hB, ?_, hq⟩
  simp only [prods]
  rw [if_neg hp, List.append_nil]
  exact hE

theorem lq_congr {q q' : Nat → RatV} : ∀ (n : Nat), (∀ i, i < n → q i = q' i) → lq q n = lq q' n
  | 0, _ => rfl
  | n + 1, h => by rw [lq_succ, lq_succ, lq_congr n fun i hi => h i (by omega), h n (by omega)]
theorem PrInv.push {w : World} {v : Nat → Int} {f g : Nat → RatV} {m N k : Nat} {vo : Value} {wB w1 : World} {j : Nat} {q : Nat → RatV} (hj : j ≤ k) (hB : Below w.heap.size w wB) (hE : Eqv (lq q j) (prods v f g m k))
    (hq : ∀ i, i < j → (q i).ok wB ∧ (q i).low ∧ (q i).n + (q i).m + 1 ≤ N ∧ ∀ b, vo.ownBlock = some b → (q i).off b) (hrow : ∀ b, vo.ownBlock = some b → w.heap.size ≤ b) (hp : 0 ≤ v k ∧ v k < (m : Int))
    (r : RatV) (hr : r.ok wB) (hrl : r.low) (hrn : r.n + r.m + 1 ≤ N) (hro : ∀ b, vo.ownBlock = some b → r.off b)
    (hL : Low (rn (f k).s (f k).X (f k).Y * rn (g (v k).toNat).s (g (v k).toNat).X (g (v k).toNat).Y) ((rd (f k).Y : Nat) * (rd (g (v k).toNat).Y : Nat)) (sg r.s r.X) r.Y) {gb cap : Nat}
    (hown : w1.ownsRow w.heap.size 31 3 (.slice (some ⟨gb, 0, none⟩) (j + 1) cap) (j + 1) (cellsV q j ++ [.bool r.s, .slice r.a r.n r.c, .slice r.b r.m r.e])) (hg : wB.grownBy w1 vo.ownBlock) (hat : vo.ownBlock = some gb ∨ gb = wB.heap.size) :
    PrInv w v f g m N (k + 1) (.slice (some ⟨gb, 0, none⟩) (j + 1) cap) w1 := by
  obtain ⟨q', hq'⟩ : ∃ q' : Nat → RatV, q' = fun i => if i < j then q i else r := ⟨_, rfl⟩
  have e1 : ∀ i, i < j → q' i = q i := fun i hi => by rw [hq']; exact if_pos hi
  have e2 : q' j = r := by rw [hq']; exact if_neg (by omega)
  refine ⟨j + 1, q', by omega, ?_, hB.trans (below_grown hB.size hrow hg), ?_, fun i hi => ?_⟩
  · simp only [cellsV]
    rw [cellsV_congr j e1, e2]
    exact hown
  · rw [lq_succ, lq_congr j e1, e2]
    simp only [prods]
    rw [if_pos hp]
    refine hE.append ?_
    have hY := hrl.pos
    rw [rn_of (by omega), rd_of (by omega)]
    exact Eqv.one (by rw [Int.natCast_mul]; exact hL)
  · have hoff : ∀ x : RatV, x.ok wB → (∀ b, vo.ownBlock = some b → x.off b) → ∀ b, (Value.slice (some ⟨gb, 0, none⟩) (j + 1) cap).ownBlock = some b → x.off b := by
      intro x hx ho b hb
      have : gb = b := by simpa [Value.ownBlock] using hb
      subst this
      rcases hat with h | h
      · exact ho _ h
      · exact hx.off (by omega)
    rcases Nat.lt_or_ge i j with h1 | h1
    · rw [e1 i h1]
      obtain ⟨a1, a2, a3, a4⟩ := hq i h1
      exact ⟨a1.grown hg a4, a2, a3, hoff _ a1 a4⟩
    · obtain rfl : i = j := by omega
      rw [e2]
      exact ⟨hr.grown hg hro, hrl, hrn, hoff _ hr hro⟩

theorem info_Rat : (Try.prog.info? 31).map (fun i => (i.zero, i.size, i.bytes)) = some (some (.agg #[.bool false, .slice none 0 0, .slice none 0 0]), 3, 56) := by kernel_rfl

set_option maxHeartbeats 2000000 in
set_option maxRecDepth 100000 in
theorem products_is (af : Option Addr) (n capf : Nat) (v : Nat → Int) (f : Nat → RatV) (av : Option Addr) (m capv : Nat) (g : Nat → RatV) (K N : Nat) (w : World) (hcf : n ≤ capf) (hcv : m ≤ capv) (hn : n ≤ 1048576) (hm : m ≤ 1048576)
    (hF : FormAt w af n v f) (hfo : ∀ i, i < n → (f i).ok w) (hG : RatsAt w av m g) (hgo : ∀ i, i < m → (g i).ok w) (hK : ∀ i t, i < n → t < m → (f i).n + (f i).m + (g t).n + (g t).m ≤ K) (hKm : K ≤ 1048576) (hN : 2 * K + 5 ≤ N) :
    Calls Try.prog 10 #[.slice af n capf, .slice av m capv, .func (.func 11) #[] #[]] w fun e w' => ∃ vo, e = .returned vo ∧ PrInv w v f g m N n vo w' := by
  go_enter Try.func10, Try.ntmps10
  go_wp2_with fail
  go_loopw [7, 12] (fun vo vi wr => ∃ k : Nat, k ≤ n ∧ vi = .int .i64 k ∧ PrInv w v f g m N k vo wr) (fun _ vi _ => n - (intOf vi).toNat)
  case atStart => exact ⟨0, Nat.zero_le _, rfl, 0, fun _ => default, Nat.le_refl _, World.ownsRow_nil _ _ _ _, Below.refl _ _, rfl, fun i hi => absurd hi (by omega)⟩
  case round =>
    obtain ⟨k, hk, rfl, hI⟩ := hrel
    by_cases hlt : k < n
    · have hBk : Below w.heap.size w wr := by obtain ⟨j, q, _, _, hB, _⟩ := hI; exact hB
      obtain ⟨b, off, rfl, hb, hcell⟩ := hF (by omega)
      obtain ⟨c0, c1, c2, c3⟩ := hcell k hlt
      replace c0 := below_cell hBk c0
      replace c1 := below_cell hBk c1
      replace c2 := below_cell hBk c2
      replace c3 := below_cell hBk c3
      have i0 : (0 : Int) ≤ (k : Int) := by omega
      have i1 : (k : Int) < (n : Int) := by omega
      by_cases hp : 0 ≤ v k ∧ v k < (m : Int)
      · have P1 := hide' (fun w' => isPlace_in (v k) m w' hp.1 hp.2)
        obtain ⟨j, q, hj, hO, hB, hE, hq⟩ := hI
        obtain ⟨t, ht⟩ : ∃ t : Nat, v k = (t : Int) := ⟨(v k).toNat, by omega⟩
        have htm : t < m := by omega
        obtain ⟨b', off', rfl, hb', hcell'⟩ := hG (by omega)
        obtain ⟨d0, d1, d2⟩ := hcell' t htm
        have hf1 := hfo k hlt
        have hg1 := hgo t htm
        have hfg := hK k t hlt htm
        replace d0 := below_cell hBk d0
        replace d1 := below_cell hBk d1
        replace d2 := below_cell hBk d2
        replace hf1 := hf1.later hBk
        replace hg1 := hg1.later hBk
        obtain ⟨Z, V, hL⟩ := low_ex (rn (f k).s (f k).X (f k).Y * rn (g t).s (g t).X (g t).Y) ((rd (f k).Y : Nat) * (rd (g t).Y : Nat)) (Int.mul_ne_zero (rd_ne _) (rd_ne _))
        have lZ : ln (am Z) ≤ K + 2 ∧ ln V ≤ K + 2 := ln1 (i := (f k).n + (g t).n) (j := ((f k).m + 1) + ((g t).m + 1)) hL (lt_prod (Nat.lt_of_le_of_lt (rn_am _ _ _) hf1.1.1) (Nat.lt_of_le_of_lt (rn_am _ _ _) hg1.1.1)) (lt_prod (by show rd _ < _; exact rd_lt hf1.2.2.2.1.1) (by show rd _ < _; exact rd_lt hg1.2.2.2.1.1)) (by omega) (by omega)
        rw [ht] at c0 P1
        have t0 : (0 : Int) ≤ (t : Int) := by omega
        have t1 : (t : Int) < (m : Int) := by omega
        have G := hide' (fun w' k1 k2 k3 k4 => qMul_is (f k).s (f k).a (f k).n (f k).c (f k).X (f k).b (f k).m (f k).e (f k).Y (g t).s (g t).a (g t).n (g t).c (g t).X (g t).b (g t).m (g t).e (g t).Y Z V w' hf1.2.1 (by omega) k1 hf1.2.2.2.2.1 (by omega) k2 hg1.2.1 (by omega) k3 hg1.2.2.2.2.1 (by omega) k4 hL)
        have hrow := fun k hk => (hO.lt k hk)
        obtain ⟨i0', hi0, hz0, hz1, hz2⟩ := info_parts info_Rat
        go_wp2_with fail
        refine (P1.out _).mono ?_
        rintro e w1 ⟨rfl, rfl⟩
        go_wp2_with fail
        obtain ⟨wA, hwA⟩ : ∃ wA, wr.alloc (.cells #[.int .i64 (t : Int), .bool (f k).s, .slice (f k).a (f k).n (f k).c, .slice (f k).b (f k).m (f k).e] 42) = wA := ⟨_, rfl⟩
        have a0 : wA.drew.cell? ⟨wr.heap.size, 0, none⟩ = some (.int .i64 (t : Int)) := by subst hwA; go_simp
        have a1 : wA.drew.cell? ⟨wr.heap.size, 1, none⟩ = some (.bool (f k).s) := by subst hwA; go_simp
        have a2 : wA.drew.cell? ⟨wr.heap.size, 2, none⟩ = some (.slice (f k).a (f k).n (f k).c) := by subst hwA; go_simp
        have a3 : wA.drew.cell? ⟨wr.heap.size, 3, none⟩ = some (.slice (f k).b (f k).m (f k).e) := by subst hwA; go_simp
        have bD : Below wr.heap.size wr wA.drew := by subst hwA; exact (below_alloc _).drew
        rw [hwA]
        clear hwA
        replace d0 := below_cell bD d0
        replace d1 := below_cell bD d1
        replace d2 := below_cell bD d2
        clear c0 c1 c2 c3
        refine wp_region_held_drew (S := fun w' => w'.cell? ⟨wr.heap.size, 0, none⟩ = some (.int .i64 (t : Int)) ∧ w'.cell? ⟨wr.heap.size, 1, none⟩ = some (.bool (f k).s) ∧ w'.cell? ⟨wr.heap.size, 2, none⟩ = some (.slice (f k).a (f k).n (f k).c) ∧ w'.cell? ⟨wr.heap.size, 3, none⟩ = some (.slice (f k).b (f k).m (f k).e) ∧ w'.cell? ⟨b', off' + t * 3, none⟩ = some (.bool (g t).s) ∧ w'.cell? ⟨b', off' + t * 3 + 1, none⟩ = some (.slice (g t).a (g t).n (g t).c) ∧ w'.cell? ⟨b', off' + t * 3 + 2, none⟩ = some (.slice (g t).b (g t).m (g t).e)) (by kernel_rfl) ⟨a0, a1, a2, a3, d0, d1, d2⟩ (fun hHeld => ?_)
        generalize wA.drew = w0 at bD a0 a1 a2 a3 d0 d1 d2 hHeld ⊢
        refine take' 0 (v := ?_) rfl (by kernel_rfl) (by kernel_rfl) (by kernel_rfl) (fun _ _ _ h => h) (Or.inl ⟨by rfl, ?_⟩) (by assumption) ?_
        rotate_left
        · intro w9 hSw
          go_simp
          first | done | with_reducible rfl
        simp only [Act.put, List.setIfInBounds_toArray, List.set_cons_zero, List.set_cons_succ]
        refine take' 1 (v := ?_) rfl (by kernel_rfl) (by kernel_rfl) (by kernel_rfl) (fun _ _ _ h => h) (Or.inl ⟨by rfl, ?_⟩) (by assumption) ?_
        rotate_left
        · intro w9 hSw
          go_simp
          first | done | with_reducible rfl
        simp only [Act.put, List.setIfInBounds_toArray, List.set_cons_zero, List.set_cons_succ]
        refine take' 2 (v := ?_) rfl (by kernel_rfl) (by kernel_rfl) (by kernel_rfl) (fun _ _ _ h => h) (Or.inl ⟨by rfl, ?_⟩) (by assumption) ?_
        rotate_left
        · intro w9 hSw
          go_simp
          first | done | with_reducible rfl
        simp only [Act.put, List.setIfInBounds_toArray, List.set_cons_zero, List.set_cons_succ]
        refine take' 3 (v := ?_) rfl (by kernel_rfl) (by kernel_rfl) (by kernel_rfl) (fun _ _ _ h => h) (Or.inl ⟨by rfl, ?_⟩) (by assumption) ?_
        rotate_left
        · intro w9 hSw
          go_simp
          first | done | with_reducible rfl
        simp only [Act.put, List.setIfInBounds_toArray, List.set_cons_zero, List.set_cons_succ]
        refine take' 4 (v := ?_) rfl (by kernel_rfl) (by kernel_rfl) (by kernel_rfl) (fun _ _ _ h => h) (Or.inl ⟨by rfl, ?_⟩) (by assumption) ?_
        rotate_left
        · intro w9 hSw
          go_simp
          first | done | with_reducible rfl
        simp only [Act.put, List.setIfInBounds_toArray, List.set_cons_zero, List.set_cons_succ]
        refine take' 5 (v := ?_) rfl (by kernel_rfl) (by kernel_rfl) (by kernel_rfl) (fun _ _ _ h => h) (Or.inl ⟨by rfl, ?_⟩) (by assumption) ?_
        rotate_left
        · intro w9 hSw
          go_simp
          first | done | with_reducible rfl
        simp only [Act.put, List.setIfInBounds_toArray, List.set_cons_zero, List.set_cons_succ]
        refine take' 6 (v := ?_) rfl (by kernel_rfl) (by kernel_rfl) (by kernel_rfl) (fun _ _ _ h => h) (Or.inl ⟨by rfl, ?_⟩) (by assumption) ?_
        rotate_left
        · intro w9 hSw
          go_simp
          first | done | with_reducible rfl
        simp only [Act.put, List.setIfInBounds_toArray, List.set_cons_zero, List.set_cons_succ]
        refine take' 7 (v := ?_) rfl (by kernel_rfl) (by kernel_rfl) (by kernel_rfl) (fun _ _ _ h => h) (Or.inl ⟨by rfl, ?_⟩) (by assumption) ?_
        rotate_left
        · intro w9 hSw
          go_simp
          first | done | with_reducible rfl
        simp only [Act.put, List.setIfInBounds_toArray, List.set_cons_zero, List.set_cons_succ]
        refine take' 8 (v := ?_) rfl (by kernel_rfl) (by kernel_rfl) (by kernel_rfl) (fun _ _ _ h => h) (Or.inl ⟨by rfl, ?_⟩) (by assumption) ?_
        rotate_left
        · intro w9 hSw
          go_simp
          first | done | with_reducible rfl
        simp only [Act.put, List.setIfInBounds_toArray, List.set_cons_zero, List.set_cons_succ]
        refine wpAnyH_ready (rs := [9]) (by kernel_rfl) (by simp) ?_
        refine cons' rfl (fun KK hKK => ?_)
        go_simp
        refine (G.out _ (hf1.later bD).1 (hf1.later bD).2.2.2.1 (hg1.later bD).1 (hg1.later bD).2.2.2.1).mono ?_
        rintro e w2 ⟨p, p', rfl, n1, n2⟩
        have b2 := n1.below
        replace a0 := below_cell b2 a0
        replace a1 := below_cell b2 a1
        replace a2 := below_cell b2 a2
        replace a3 := below_cell b2 a3
        replace d0 := below_cell b2 d0
        replace d1 := below_cell b2 d1
        replace d2 := below_cell b2 d2
        go_wp2_with fail
        refine hKK.out _ _ ⟨a0, a1, a2, a3, d0, d1, d2⟩ ?_
        clear hHeld
        intro hHeld
        clear hKK KK
        try simp only [Act.put, List.setIfInBounds_toArray, List.set_cons_zero, List.set_cons_succ]
        refine wpAnyH_ready (rs := [10]) (by kernel_rfl) (by simp) ?_
        refine cons' rfl (fun KK hKK => ?_)
        go_simp
        have hnew := heap_alloc_new w2 (.cells #[.bool (ng Z), .slice p (ln (am Z)) (ln (am Z)), .slice p' (ln V) (ln V)] 31)
        have b3 := below_alloc (w := w2) (.cells #[.bool (ng Z), .slice p (ln (am Z)) (ln (am Z)), .slice p' (ln V) (ln V)] 31)
        generalize w2.alloc (.cells #[.bool (ng Z), .slice p (ln (am Z)) (ln (am Z)), .slice p' (ln V) (ln V)] 31) = w3 at hnew b3 ⊢
        replace a0 := below_cell b3 a0
        replace a1 := below_cell b3 a1
        replace a2 := below_cell b3 a2
        replace a3 := below_cell b3 a3
        replace d0 := below_cell b3 d0
        replace d1 := below_cell b3 d1
        replace d2 := below_cell b3 d2
        refine hKK.out _ _ ⟨a0, a1, a2, a3, d0, d1, d2⟩ ?_
        clear hHeld
        intro hHeld
        clear hKK KK
        try simp only [Act.put, List.setIfInBounds_toArray, List.set_cons_zero, List.set_cons_succ]
        have bT : Below wr.heap.size wr w3 := bD.trans ((b2.mono bD.size).trans (b3.mono (Nat.le_trans bD.size b2.size)))
        have s1 := bD.size
        have s2 := b2.size
        have s3 := b3.size
        have sk := hBk.size
        have hO3 := own_below hO bT
        refine wpAnyH_ready (rs := [11]) (by kernel_rfl) (by simp) ?_
        refine cons' rfl (fun KK hKK => ?_)
        refine step_append_lies _ (by rfl) _ _ _ (by rfl) w.heap.size 31 i0' _ 3 56 Try.underlying24 hi0 hz0 hz1 hz2 rfl (by omega) u7 j (cellsV q j) (by rfl) hO3
          ⟨w2.heap.size, 0, none⟩ 1 1 [.bool (ng Z), .slice p (ln (am Z)) (ln (am Z)), .slice p' (ln V) (ln V)] (by rfl) (by rfl) (World.news_of_block (cs := #[.bool (ng Z), .slice p (ln (am Z)) (ln (am Z)), .slice p' (ln V) (ln V)]) (t := 31) (fr := (0, 0)) hnew) (by simp [Value.oneCell'])
          (by omega) (by simp only [maxLen]; omega) (by omega) (by omega) w3.heap.size rfl ?_
        intro gb cap w4 hown4 hgrow hat hlt4
        have far : ∀ {c o : Nat} {u : Value}, (c < w.heap.size ∨ c = wr.heap.size) → w3.cell? ⟨c, o, none⟩ = some u → w4.cell? ⟨c, o, none⟩ = some u := fun hc hu => hgrow.cell hu (fun e => by have := hrow _ e.symm; simp only at this; omega)
        refine hKK.out _ _ ⟨far (Or.inr rfl) a0, far (Or.inr rfl) a1, far (Or.inr rfl) a2, far (Or.inr rfl) a3, far (Or.inl hb') d0, far (Or.inl hb') d1, far (Or.inl hb') d2⟩ ?_
        clear hHeld far
        intro hHeld
        clear hKK KK
        try simp only [Act.put, List.setIfInBounds_toArray, List.set_cons_zero, List.set_cons_succ]
        have I1 := hide' (PrInv.push (N := N) hj (hB.trans (bT.mono hB.size)) hE (fun i hi => ⟨(hq i hi).1.later bT, (hq i hi).2⟩) (fun b hb => (hrow b hb).1) hp (RatV.of Z V p p')
          ⟨n1.seg.later b3, Nat.le_refl _, by show ln (am Z) ≤ _; omega, n2.seg.later b3, Nat.le_refl _, by show ln V ≤ _; omega⟩ (RatV.of_low hL.pos hL.cop) (by show ln (am Z) + ln V + 1 ≤ N; omega)
          (fun b hb => by
            have h1 := (hrow b hb).2
            refine ⟨fun hn ad e => ?_, fun hn ad e => ?_⟩
            · obtain ⟨c, o, e', hl, _⟩ := n1.fresh hn
              have e2 : p = some ad := e
              rw [e'] at e2
              obtain rfl := Option.some.inj e2
              show c ≠ b
              omega
            · obtain ⟨c, o, e', hl, _⟩ := n2.fresh hn
              have e2 : p' = some ad := e
              rw [e'] at e2
              obtain rfl := Option.some.inj e2
              show c ≠ b
              omega)
          (by show Low _ _ (sg (ng Z) (am Z)) V; rw [sg_na, show (v k).toNat = t by omega]; exact hL) hown4 hgrow hat)
        clear hown4 hgrow hat hL n1 n2 hq hE hO hO3 hrow
        refine take' 12 (v := ?_) rfl (by kernel_rfl) (by kernel_rfl) (by kernel_rfl) (fun _ _ _ h => h) (Or.inl ⟨by rfl, ?_⟩) (by assumption) ?_
        rotate_left
        · intro w9 hSw
          go_simp
          first | done | with_reducible rfl
        simp only [Act.put, List.setIfInBounds_toArray, List.set_cons_zero, List.set_cons_succ]
        refine wpAnyH_done (by kernel_rfl) ?_ _
        go_wp2
        go_roundw
        case rel => exact ⟨k + 1, by omega, by go_num, I1.out⟩
        case measure => simp [intOf]; omega
      · have P1 := hide' (fun w' => isPlace_out (v k) m w' hp)
        have I1 := hide' ((hI.skip hp).later (below_alloc (w := wr) (.cells #[.int .i64 (v k), .bool (f k).s, .slice (f k).a (f k).n (f k).c, .slice (f k).b (f k).m (f k).e] 42)))
        clear hI hp
        go_wp2_with fail
        refine (P1.out _).mono ?_
        rintro e w1 ⟨rfl, rfl⟩
        go_wp2
        go_roundw
        case rel => exact ⟨k + 1, by omega, by go_num, I1.out⟩
        case measure => simp [intOf]; omega
    · obtain rfl : k = n := by omega
      have i1 : ¬ (k : Int) < (k : Int) := by omega
      go_wp2
      go_ret
      exact ⟨u7, rfl, hI⟩
end Go.Proofs.Ytogcnneakangmaa

namespace Go.Proofs.Ytogcnneakangmaa
open Go.RowKit
set_option linter.unusedVariables false

theorem bulkV_all {q : Nat → RatV} {N : Nat} : ∀ (n : Nat), (∀ i, i < n → (q i).n + (q i).m + 1 ≤ N) → bulkV q n ≤ n * N
  | 0, _ => by simp [bulkV]
  | n + 1, h => by
    have h1 := bulkV_all n fun i hi => h i (by omega)
    have h2 := h n (by omega)
    simp only [bulkV, Nat.succ_mul]
    omega
theorem lden_prods_pos (v : Nat → Int) (f g : Nat → RatV) (m : Nat) : ∀ k, 0 < lden (prods v f g m k)
  | 0 => Nat.one_pos
  | k + 1 => by
    simp only [prods]
    rw [lden_append]
    refine Nat.mul_pos (lden_prods_pos v f g m k) ?_
    split
    · exact Nat.mul_pos (Nat.mul_pos (rd_pos _) (rd_pos _)) Nat.one_pos
    · exact Nat.one_pos

theorem Seg.setR {w : World} {p : Option Addr} {X n c : Nat} {u0 u1 u2 : Value} {z0 : Bool} {a1 a2 : Option Addr} {n1 k1 n2 k2 : Nat} (h : Seg w p X n) (h0 : w.cell? ⟨c, 0, none⟩ = some (.bool z0)) (h1 : w.cell? ⟨c, 1, none⟩ = some (.slice a1 n1 k1)) (h2 : w.cell? ⟨c, 2, none⟩ = some (.slice a2 n2 k2)) :
    Seg (((w.setCell ⟨c, 0, none⟩ u0).setCell ⟨c, 1, none⟩ u1).setCell ⟨c, 2, none⟩ u2) p X n := by
  refine (h.set2 h0 h1).setB (z := .slice a2 n2 k2) ?_ (by simp)
  rw [World.cell?_setCell_other _ _ _ _ (fun e => by simp at e), World.cell?_setCell_other _ _ _ _ (fun e => by simp at e)]
  exact h2
theorem PrInv.below {w : World} {v : Nat → Int} {f g : Nat → RatV} {m N k : Nat} {vo : Value} {wr : World} (h : PrInv w v f g m N k vo wr) : Below w.heap.size w wr := by
  obtain ⟨j, q, hj, hO, hB, hE, hq⟩ := h
  exact hB
theorem PrInv.slice {w : World} {v : Nat → Int} {f g : Nat → RatV} {m N k : Nat} {vo : Value} {wr : World} (h : PrInv w v f g m N k vo wr) : ∃ a j cap, vo = .slice a j cap := by
  obtain ⟨j, q, hj, hO, hB, hE, hq⟩ := h
  obtain ⟨a, cap, e, _⟩ := own_rats hO
  exact ⟨a, j, cap, e⟩
theorem PrInv.open {w : World} {v : Nat → Int} {f g : Nat → RatV} {m N k : Nat} {a : Option Addr} {j cap : Nat} {wr : World} (h : PrInv w v f g m N k (.slice a j cap) wr) : ∃ q : Nat → RatV, j ≤ k ∧ j ≤ cap ∧ cap ≤ 9223372036854775807 ∧ RatsAt wr a j q ∧ (∀ i, i < j → (q i).ok wr ∧ (q i).low ∧ (q i).n + (q i).m + 1 ≤ N) ∧ Eqv (lq q j) (prods v f g m k) := by
  obtain ⟨j', q, hj, hO, hB, hE, hq⟩ := h
  obtain ⟨a', cap', e, h1, h2, h3⟩ := own_rats hO
  simp only [Value.slice.injEq] at e
  obtain ⟨rfl, rfl, rfl⟩ := e
  exact ⟨q, hj, h1, by simpa [maxLen] using h2, h3, fun i hi => ⟨(hq i hi).1, (hq i hi).2.1, (hq i hi).2.2.1⟩, hE⟩

set_option maxHeartbeats 2000000 in
set_option maxRecDepth 100000 in
theorem lValue_is (af : Option Addr) (n capf : Nat) (v : Nat → Int) (f : Nat → RatV) (av : Option Addr) (m capv : Nat) (g : Nat → RatV) (K : Nat) (Z : Int) (V : Nat) (w : World) (hcf : n ≤ capf) (hcv : m ≤ capv) (hn : n ≤ 1048576) (hm : m ≤ 1048576)
    (hF : FormAt w af n v f) (hfo : ∀ i, i < n → (f i).ok w) (hG : RatsAt w av m g) (hgo : ∀ i, i < m → (g i).ok w) (hK : ∀ i t, i < n → t < m → (f i).n + (f i).m + (g t).n + (g t).m ≤ K) (hKm : K ≤ 1048576) (hnK : n * (2 * K + 5) + 1 ≤ 1099511627776)
    (hL : Low (lnum (prods v f g m n)) (lden (prods v f g m n) : Nat) Z V) :
    Calls Try.prog 5 #[.slice af n capf, .slice av m capv] w fun e w' => ∃ x y, e = .returned (.agg #[.bool (ng Z), .slice x (ln (am Z)) (ln (am Z)), .slice y (ln V) (ln V)]) ∧ Below w.heap.size w w' ∧ Seg w' x (am Z) (ln (am Z)) ∧ Seg w' y V (ln V) := by
  have G1 := hide' (fun w' (hb : Below w.heap.size w w') => products_is af n capf v f av m capv g K (2 * K + 5) w' hcf hcv hn hm (fun hp => by
    obtain ⟨b, off, e, hl, hc⟩ := hF hp
    exact ⟨b, off, e, Nat.lt_of_lt_of_le hl hb.size, fun i hi => ⟨below_cell hb (hc i hi).1, (hc i hi).2.later hb⟩⟩) (fun i hi => (hfo i hi).later hb) (hG.later hb) (fun i hi => (hgo i hi).later hb) hK hKm (Nat.le_refl _))
  have G2' := fun w' => qWhole_is 0 w' (by omega) (by omega)
  have z1 : ng 0 = false := rfl
  have z2 : ln (am 0) = 0 := ln_zero
  rw [z1, z2, ln_one] at G2'
  have G2 := hide' G2'
  clear G2' z1 z2
  have G3 := hide' (fun (w' : World) (j : Nat) (hj : j ≤ n) (q : Nat → RatV) (a p p' : Option Addr) (cap : Nat) (hcap : j ≤ cap) (hmx : cap ≤ 9223372036854775807) (hR : RatsAt w' a j q) (hq : ∀ i, i < j → (q i).ok w' ∧ (q i).low ∧ (q i).n + (q i).m + 1 ≤ 2 * K + 5) (hE : Eqv (lq q j) (prods v f g m n)) (h1 : Seg w' p' 1 1) =>
    byHalves_is j j a cap q p p' Z V w' (Nat.le_refl _) hcap hmx hR (fun i hi => (hq i hi).1) (fun i hi => (hq i hi).2.1) (by
      have h1 := bulkV_all (q := q) j fun i hi => (hq i hi).2.2
      have h2 : j * (2 * K + 5) ≤ n * (2 * K + 5) := Nat.mul_le_mul_right _ hj
      omega) h1 (Eqv.low (l := prods v f g m n) (by unfold Eqv at *; exact hE.symm) (lden_lq_pos q j) hL))
  clear hF hfo hG hgo hK hKm hnK hL
  go_enter Try.func5, Try.ntmps5
  go_wp2_with fail
  obtain ⟨W, hW⟩ : ∃ W, (w.alloc (.cells #[.bool false, .slice none 0 0, .slice none 0 0] 31)) = W := ⟨_, rfl⟩
  have r00 : W.cell? ⟨w.heap.size, 0, none⟩ = some (.bool false) := by subst hW; go_simp
  have r01 : W.cell? ⟨w.heap.size, 1, none⟩ = some (.slice none 0 0) := by subst hW; go_simp
  have r02 : W.cell? ⟨w.heap.size, 2, none⟩ = some (.slice none 0 0) := by subst hW; go_simp
  have hB : Below w.heap.size w W := by subst hW; exact ((Below.refl _ _).alloc (by (try simp only [World.size_alloc]); omega) _)
  have hR0 : Row W (w.heap.size) := by
    have := row_new (w) #[.bool false, .slice none 0 0, .slice none 0 0] 31
    try simp only [World.size_alloc] at this
    subst hW; exact this
  have hz : W.heap.size = w.heap.size + 1 := by subst hW; simp only [World.size_alloc]
  rw [hW]
  clear hW
  have hBW : Below W.heap.size W W := Below.refl _ _
  refine (G1.out _ (hB.trans (hBW.mono hB.size))).mono ?_
  rintro e w1 ⟨vo, rfl, kP1⟩
  have b1 := kP1.below
  replace hBW := hBW.trans (b1.mono hBW.size)
  replace r00 := below_cell b1 r00
  replace r01 := below_cell b1 r01
  replace r02 := below_cell b1 r02
  replace hR0 := below_row b1 hR0
  obtain ⟨a, j, cap, rfl⟩ := kP1.slice
  go_wp2_with fail
  refine (G2.out _).mono ?_
  rintro e w2 ⟨p2, p2x, rfl, hp2, hq2⟩
  have b2 := hp2.below
  replace hp2 := hp2.back hBW
  replace hq2 := hq2.back hBW
  replace hBW := hBW.trans (b2.mono hBW.size)
  replace r00 := below_cell b2 r00
  replace r01 := below_cell b2 r01
  replace r02 := below_cell b2 r02
  replace hR0 := below_row b2 hR0
  replace kP1 := kP1.later b2
  go_wp2_with fail
  obtain ⟨q, j1, j2, j3, j4, j5, j6⟩ := kP1.open
  refine (G3.out _ j j1 q a p2 p2x cap j2 j3 j4 j5 j6 hq2.seg).mono ?_
  rintro e w3 ⟨x3, y3, rfl, g3, kx3, ky3⟩
  have b3 := g3
  replace hBW := hBW.trans (b3.mono hBW.size)
  replace r00 := below_cell b3 r00
  replace r01 := below_cell b3 r01
  replace r02 := below_cell b3 r02
  replace hR0 := below_row b3 hR0
  replace kP1 := kP1.later b3
  replace hp2 := hp2.later b3
  replace hq2 := hq2.later b3
  have fz0 := fun o => hR0.frozen o
  go_wp2
  all_goals refine bodyPost_ret (v := Value.agg #[Value.bool (ng Z), Value.slice x3 (ln (am Z)) (ln (am Z)), Value.slice y3 (ln V) (ln V)]) (by rw [results_cell rfl]; go_simp) rfl ?_
  all_goals exact ⟨x3, y3, rfl, ((bset (bset (bset (hB.trans (hBW.mono hB.size)) (by omega)) (by omega)) (by omega))), kx3.setR r00 r01 r02, ky3.setR r00 r01 r02⟩
end Go.Proofs.Ytogcnneakangmaa

namespace Go.Proofs.Ytogcnneakangmaa
open Go.RowKit
set_option linter.unusedVariables false

set_option maxHeartbeats 2000000 in
set_option maxRecDepth 100000 in
theorem vlzero_is (w : World) : Calls Try.prog 14 #[] w fun e w' => ∃ p q, e = .returned (.agg #[.bool false, .slice p 0 0, .slice q 1 1]) ∧ New w w' p 0 0 ∧ New w w' q 1 1 := by
  have G2' := fun w' => vqWhole_is 0 w' (by omega) (by omega)
  have z1 : ng 0 = false := rfl
  have z2 : ln (am 0) = 0 := ln_zero
  have z3 : am 0 = 0 := rfl
  rw [z1, z2, ln_one, z3] at G2'
  have G2 := hide' G2'
  clear G2' z1 z2 z3
  go_enter Try.func14, Try.ntmps14
  go_wp2_with fail
  obtain ⟨W, hW⟩ : ∃ W, (w.alloc (.cells #[.bool false, .slice none 0 0, .slice none 0 0] 31)) = W := ⟨_, rfl⟩
  have r00 : W.cell? ⟨w.heap.size, 0, none⟩ = some (.bool false) := by subst hW; go_simp
  have r01 : W.cell? ⟨w.heap.size, 1, none⟩ = some (.slice none 0 0) := by subst hW; go_simp
  have r02 : W.cell? ⟨w.heap.size, 2, none⟩ = some (.slice none 0 0) := by subst hW; go_simp
  have hB : Below w.heap.size w W := by subst hW; exact ((Below.refl _ _).alloc (by (try simp only [World.size_alloc]); omega) _)
  have hR0 : Row W (w.heap.size) := by
    have := row_new (w) #[.bool false, .slice none 0 0, .slice none 0 0] 31
    try simp only [World.size_alloc] at this
    subst hW; exact this
  have hz : W.heap.size = w.heap.size + 1 := by subst hW; simp only [World.size_alloc]
  rw [hW]
  clear hW
  have hBW : Below W.heap.size W W := Below.refl _ _
  refine (G2.out _).mono ?_
  rintro e w1 ⟨p1, q1, rfl, hp1, hq1⟩
  have b1 := hp1.below
  replace hp1 := hp1.back hBW
  replace hq1 := hq1.back hBW
  replace hBW := hBW.trans (b1.mono hBW.size)
  replace r00 := below_cell b1 r00
  replace r01 := below_cell b1 r01
  replace r02 := below_cell b1 r02
  replace hR0 := below_row b1 hR0
  have fz0 := fun o => hR0.frozen o
  go_wp2
  all_goals refine bodyPost_ret (v := Value.agg #[Value.bool false, Value.slice p1 0 0, Value.slice q1 1 1]) (by rw [results_cell rfl]; go_simp) rfl ?_
  all_goals exact ⟨p1, q1, rfl, hp1.mid hB (((((Mid.refl _ _ _).set _ _ (by omega) (by omega) _).set _ _ (by omega) (by omega) _).set _ _ (by omega) (by omega) _)), hq1.mid hB (((((Mid.refl _ _ _).set _ _ (by omega) (by omega) _).set _ _ (by omega) (by omega) _).set _ _ (by omega) (by omega) _))⟩

theorem prods_le {W : World} {v : Nat → Int} {f g : Nat → RatV} {m K : Nat} : ∀ (n : Nat), (∀ i, i < n → (f i).ok W) → (∀ i, i < m → (g i).ok W) → (∀ i t, i < n → t < m → (f i).n + (f i).m + (g t).n + (g t).m ≤ K) →
    lden (prods v f g m n) ≤ BB ^ (n * (K + 1)) ∧ am (lnum (prods v f g m n)) ≤ BB ^ (n * (K + 1))
  | 0, _, _, _ => ⟨by rw [Nat.zero_mul, Nat.pow_zero]; exact Nat.le_refl _, Nat.zero_le _⟩
  | n + 1, hf, hg, hK => by
    obtain ⟨h1, h2⟩ := prods_le n (fun i hi => hf i (by omega)) hg (fun i t hi ht => hK i t (by omega) ht)
    have hB : 0 < BB := by rw [BB_eq]; omega
    have hmono : BB ^ (n * (K + 1)) ≤ BB ^ ((n + 1) * (K + 1)) := pow_mono (by rw [Nat.succ_mul]; omega)
    simp only [prods]
    split
    · rename_i hp
      obtain ⟨t, ht⟩ : ∃ t : Nat, (v n).toNat = t := ⟨_, rfl⟩
      have htm : t < m := by omega
      rw [ht]
      have k0 := hK n t (by omega) htm
      have hfn := hf n (by omega)
      have hgt := hg t htm
      have x1 : am (rn (f n).s (f n).X (f n).Y * rn (g t).s (g t).X (g t).Y) ≤ BB ^ K := by
        rw [am_mul]
        refine Nat.le_trans (Nat.mul_le_mul (Nat.le_trans (rn_am _ _ _) (Nat.le_of_lt hfn.1.1)) (Nat.le_trans (rn_am _ _ _) (Nat.le_of_lt hgt.1.1))) ?_
        rw [← Nat.pow_add]
        exact pow_mono (by omega)
      have x2 : rd (f n).Y * rd (g t).Y ≤ BB ^ K := by
        refine Nat.le_trans (Nat.mul_le_mul (rd_le hfn.2.2.2.1.1) (rd_le hgt.2.2.2.1.1)) ?_
        rw [← Nat.pow_add]
        exact pow_mono (by omega)
      rw [lden_append, lnum_append]
      generalize rn (f n).s (f n).X (f n).Y * rn (g t).s (g t).X (g t).Y = R at *
      generalize rd (f n).Y * rd (g t).Y = D at *
      have e1 : lden [(R, D)] = D := Nat.mul_one _
      have e2 : lnum [(R, D)] = R := by
        show R * ((1 : Nat) : Int) + 0 * _ = _
        simp
      rw [e1, e2]
      generalize lden (prods v f g m n) = A at *
      generalize lnum (prods v f g m n) = B at *
      have e3 : BB ^ ((n + 1) * (K + 1)) = BB ^ (n * (K + 1)) * BB ^ K * BB := by rw [Nat.succ_mul, ← Nat.add_assoc, Nat.pow_succ, Nat.pow_add]
      have p1 : A * D ≤ BB ^ (n * (K + 1)) * BB ^ K := Nat.mul_le_mul h1 x2
      have p2 : am (B * (D : Nat)) ≤ BB ^ (n * (K + 1)) * BB ^ K := by rw [am_mul]; exact Nat.mul_le_mul h2 x2
      have p3 : am (R * (A : Nat)) ≤ BB ^ (n * (K + 1)) * BB ^ K := by rw [am_mul, Nat.mul_comm]; exact Nat.mul_le_mul h1 x1
      have p7 : am (B * (D : Nat) + R * (A : Nat)) ≤ am (B * (D : Nat)) + am (R * (A : Nat)) := Int.natAbs_add_le _ _
      rw [e3]
      generalize BB ^ (n * (K + 1)) * BB ^ K = T at *
      have p8 : T * 2 ≤ T * BB := Nat.mul_le_mul_left _ (by rw [BB_eq]; omega)
      constructor <;> omega
    · rw [List.append_nil]
      exact ⟨Nat.le_trans h1 hmono, Nat.le_trans h2 hmono⟩
theorem prods_ln {W : World} {v : Nat → Int} {f g : Nat → RatV} {m K n : Nat} {Z : Int} {V : Nat} (hf : ∀ i, i < n → (f i).ok W) (hg : ∀ i, i < m → (g i).ok W) (hK : ∀ i t, i < n → t < m → (f i).n + (f i).m + (g t).n + (g t).m ≤ K)
    (hL : Low (lnum (prods v f g m n)) (lden (prods v f g m n) : Nat) Z V) : ln (am Z) ≤ n * (K + 1) + 1 ∧ ln V ≤ n * (K + 1) + 1 := by
  obtain ⟨h1, h2⟩ := prods_le (v := v) n hf hg hK
  have hl : BB ^ (n * (K + 1)) < BB ^ (n * (K + 1) + 1) := by
    rw [Nat.pow_succ]
    have : 0 < BB ^ (n * (K + 1)) := by rw [BB_eq]; exact Nat.pow_pos (by omega)
    have h3 : BB ^ (n * (K + 1)) * 2 ≤ BB ^ (n * (K + 1)) * BB := Nat.mul_le_mul_left _ (by rw [BB_eq]; omega)
    omega
  exact ln1 hL (Nat.lt_of_le_of_lt h2 hl) (by show am ((lden (prods v f g m n) : Nat) : Int) < _; exact Nat.lt_of_le_of_lt h1 hl) (Nat.le_refl _) (Nat.le_refl _)
end Go.Proofs.Ytogcnneakangmaa

namespace Go.Proofs.Ytogcnneakangmaa
open Go.RowKit
set_option linter.unusedVariables false
set_option linter.unusedSimpArgs false

/-- what the loop keeps: the sum's variable lies in block c, the answer's in block r -/
def VInv (w : World) (r c : Nat) (v : Nat → Int) (f g : Nat → RatV) (m k : Nat) (wr : World) : Prop :=
  ∃ (Z : Int) (V : Nat) (p p' : Option Addr), Low (lnum (prods v f g m k)) (lden (prods v f g m k) : Nat) Z V ∧
    (wr.cell? ⟨c, 0, none⟩ = some (.bool (ng Z)) ∧ wr.cell? ⟨c, 1, none⟩ = some (.slice p (ln (am Z)) (ln (am Z))) ∧ wr.cell? ⟨c, 2, none⟩ = some (.slice p' (ln V) (ln V)) ∧ Row wr c) ∧
    (wr.cell? ⟨r, 0, none⟩ = some (.bool false) ∧ wr.cell? ⟨r, 1, none⟩ = some (.slice none 0 0) ∧ wr.cell? ⟨r, 2, none⟩ = some (.slice none 0 0) ∧ Row wr r) ∧
    Seg wr p (am Z) (ln (am Z)) ∧ Seg wr p' V (ln V) ∧ Below w.heap.size w wr

theorem VInv.skip {w : World} {r c : Nat} {v : Nat → Int} {f g : Nat → RatV} {m k : Nat} {wr : World} (h : VInv w r c v f g m k wr) (hp : ¬ (0 ≤ v k ∧ v k < (m : Int))) : VInv w r c v f g m (k + 1) wr := by
  obtain ⟨Z, V, p, p', hL, rest⟩ := h
  refine ⟨Z, V, p, p', ?_, rest⟩
  simp only [prods]
  rw [if_neg hp, List.append_nil]
  exact hL
theorem VInv.put {w : World} {r c : Nat} {v : Nat → Int} {f g : Nat → RatV} {m k : Nat} {w3 : World} {Z : Int} {V : Nat} {x y : Option Addr} {z0 : Bool} {a1 a2 : Option Addr} {n1 k1 n2 k2 : Nat} (hL : Low (lnum (prods v f g m k)) (lden (prods v f g m k) : Nat) Z V) (hne : c ≠ r) (hcl : w.heap.size ≤ c)
    (s0 : w3.cell? ⟨c, 0, none⟩ = some (.bool z0)) (s1 : w3.cell? ⟨c, 1, none⟩ = some (.slice a1 n1 k1)) (s2 : w3.cell? ⟨c, 2, none⟩ = some (.slice a2 n2 k2)) (sR : Row w3 c)
    (r0 : w3.cell? ⟨r, 0, none⟩ = some (.bool false)) (r1 : w3.cell? ⟨r, 1, none⟩ = some (.slice none 0 0)) (r2 : w3.cell? ⟨r, 2, none⟩ = some (.slice none 0 0)) (rR : Row w3 r) (hS : Seg w3 x (am Z) (ln (am Z))) (hT : Seg w3 y V (ln V)) (hB : Below w.heap.size w w3) :
    VInv w r c v f g m k (((w3.setCell ⟨c, 0, none⟩ (.bool (ng Z))).setCell ⟨c, 1, none⟩ (.slice x (ln (am Z)) (ln (am Z)))).setCell ⟨c, 2, none⟩ (.slice y (ln V) (ln V))) := by
  obtain ⟨q0, q1, q2⟩ := set3_same (u0 := .bool (ng Z)) (u1 := .slice x (ln (am Z)) (ln (am Z))) (u2 := .slice y (ln V) (ln V)) s0 s1 s2
  exact ⟨Z, V, x, y, hL, ⟨q0, q1, q2, ((sR.setCell _ _).setCell _ _).setCell _ _⟩, ⟨by rw [set3_far hne]; exact r0, by rw [set3_far hne]; exact r1, by rw [set3_far hne]; exact r2, ((rR.setCell _ _).setCell _ _).setCell _ _⟩, hS.setR s0 s1 s2, hT.setR s0 s1 s2, bset (bset (bset hB hcl) hcl) hcl⟩

set_option maxHeartbeats 2000000 in
set_option maxRecDepth 100000 in
theorem vlValue_is (af : Option Addr) (n capf : Nat) (v : Nat → Int) (f : Nat → RatV) (av : Option Addr) (m capv : Nat) (g : Nat → RatV) (K : Nat) (Z : Int) (V : Nat) (w : World) (hcf : n ≤ capf) (hcv : m ≤ capv) (hn : n ≤ 1048576) (hm : m ≤ 1048576)
    (hF : FormAt w af n v f) (hfo : ∀ i, i < n → (f i).ok w) (hG : RatsAt w av m g) (hgo : ∀ i, i < m → (g i).ok w) (hK : ∀ i t, i < n → t < m → (f i).n + (f i).m + (g t).n + (g t).m ≤ K) (hKm : K ≤ 1048576) (hnK : n * (2 * K + 5) + 1 ≤ 1099511627776)
    (hL : Low (lnum (prods v f g m n)) (lden (prods v f g m n) : Nat) Z V) :
    Calls Try.prog 6 #[.slice af n capf, .slice av m capv] w fun e w' => ∃ x y, e = .returned (.agg #[.bool (ng Z), .slice x (ln (am Z)) (ln (am Z)), .slice y (ln V) (ln V)]) ∧ Below w.heap.size w w' ∧ Seg w' x (am Z) (ln (am Z)) ∧ Seg w' y V (ln V) := by
  go_enter Try.func6, Try.ntmps6
  go_wp2_with fail
  obtain ⟨W, hW⟩ : ∃ W, (w.alloc (.cells #[.bool false, .slice none 0 0, .slice none 0 0] 31)) = W := ⟨_, rfl⟩
  have r00 : W.cell? ⟨w.heap.size, 0, none⟩ = some (.bool false) := by subst hW; go_simp
  have r01 : W.cell? ⟨w.heap.size, 1, none⟩ = some (.slice none 0 0) := by subst hW; go_simp
  have r02 : W.cell? ⟨w.heap.size, 2, none⟩ = some (.slice none 0 0) := by subst hW; go_simp
  have hB : Below w.heap.size w W := by subst hW; exact ((Below.refl _ _).alloc (by (try simp only [World.size_alloc]); omega) _)
  have hR0 : Row W (w.heap.size) := by
    have := row_new (w) #[.bool false, .slice none 0 0, .slice none 0 0] 31
    try simp only [World.size_alloc] at this
    subst hW; exact this
  have hz : W.heap.size = w.heap.size + 1 := by subst hW; simp only [World.size_alloc]
  rw [hW]
  clear hW
  have hBW : Below W.heap.size W W := Below.refl _ _
  refine (vlzero_is _).mono ?_
  rintro e w1 ⟨p1, q1, rfl, hp1, hq1⟩
  have b1 := hp1.below
  replace hp1 := hp1.back hBW
  replace hq1 := hq1.back hBW
  replace hBW := hBW.trans (b1.mono hBW.size)
  replace r00 := below_cell b1 r00
  replace r01 := below_cell b1 r01
  replace r02 := below_cell b1 r02
  replace hR0 := below_row b1 hR0
  go_wp2_with fail
  obtain ⟨wS, hwS⟩ : ∃ wS, w1.alloc (.cells #[.bool false, .slice p1 0 0, .slice q1 1 1] 31) = wS := ⟨_, rfl⟩
  have s0 : wS.cell? ⟨w1.heap.size, 0, none⟩ = some (.bool false) := by subst hwS; go_simp
  have s1 : wS.cell? ⟨w1.heap.size, 1, none⟩ = some (.slice p1 0 0) := by subst hwS; go_simp
  have s2 : wS.cell? ⟨w1.heap.size, 2, none⟩ = some (.slice q1 1 1) := by subst hwS; go_simp
  have sR : Row wS w1.heap.size := by subst hwS; exact row_new w1 _ 31
  have bS : Below w1.heap.size w1 wS := by subst hwS; exact below_alloc _
  rw [hwS]
  clear hwS
  have hcr : w.heap.size < w1.heap.size := hR0.lt
  have I0 : VInv w w.heap.size w1.heap.size v f g m 0 wS := ⟨0, 1, p1, q1, low_zero (by show ((1 : Nat) : Int) ≠ 0; omega), ⟨s0, by rw [show am 0 = 0 from rfl, ln_zero]; exact s1, by rw [ln_one]; exact s2, sR⟩, ⟨below_cell bS r00, below_cell bS r01, below_cell bS r02, below_row bS hR0⟩,
    by rw [show am 0 = 0 from rfl, ln_zero]; exact Seg.nil _ _, by rw [ln_one]; exact hq1.seg.later bS, (hB.trans (hBW.mono hB.size)).trans (bS.mono (Nat.le_of_lt hcr))⟩
  generalize w1.heap.size = c at *
  go_loopw [6] (fun vi wr => ∃ k : Nat, k ≤ n ∧ vi = .int .i64 k ∧ VInv w w.heap.size c v f g m k wr) (fun vi _ => n - (intOf vi).toNat)
  case atStart => exact ⟨0, Nat.zero_le _, rfl, I0⟩
  case round =>
    clear I0 s0 s1 s2 sR bS hp1 hq1 r00 r01 r02 hR0 hBW hB hz
    obtain ⟨k, hk, rfl, Zk, Vk, p, p', hLk, ⟨s0, s1, s2, sR⟩, ⟨r0, r1, r2, rR⟩, hS, hT, hBk⟩ := hrel
    by_cases hlt : k < n
    · obtain ⟨b, off, rfl, hb, hcell⟩ := hF (by omega)
      obtain ⟨c0, c1, c2, c3⟩ := hcell k hlt
      replace c0 := below_cell hBk c0
      replace c1 := below_cell hBk c1
      replace c2 := below_cell hBk c2
      replace c3 := below_cell hBk c3
      have i0 : (0 : Int) ≤ (k : Int) := by omega
      have i1 : (k : Int) < (n : Int) := by omega
      by_cases hp : 0 ≤ v k ∧ v k < (m : Int)
      · obtain ⟨t, ht⟩ : ∃ t : Nat, v k = (t : Int) := ⟨(v k).toNat, by omega⟩
        have htm : t < m := by omega
        have t0 : (0 : Int) ≤ (t : Int) := by omega
        have t1 : (t : Int) < (m : Int) := by omega
        rw [ht] at c0
        obtain ⟨b', off', rfl, hb', hcell'⟩ := hG (by omega)
        obtain ⟨d0, d1, d2⟩ := hcell' t htm
        have hf1 := (hfo k hlt).later hBk
        have hg1 := (hgo t htm).later hBk
        have hfg := hK k t hlt htm
        replace d0 := below_cell hBk d0
        replace d1 := below_cell hBk d1
        replace d2 := below_cell hBk d2
        obtain ⟨Zp, Vp, hLp⟩ := low_ex (rn (f k).s (f k).X (f k).Y * rn (g t).s (g t).X (g t).Y) ((rd (f k).Y : Nat) * (rd (g t).Y : Nat)) (Int.mul_ne_zero (rd_ne _) (rd_ne _))
        have lZp : ln (am Zp) ≤ K + 2 ∧ ln Vp ≤ K + 2 := ln1 (i := (f k).n + (g t).n) (j := ((f k).m + 1) + ((g t).m + 1)) hLp (lt_prod (Nat.lt_of_le_of_lt (rn_am _ _ _) hf1.1.1) (Nat.lt_of_le_of_lt (rn_am _ _ _) hg1.1.1)) (lt_prod (by show rd _ < _; exact rd_lt hf1.2.2.2.1.1) (by show rd _ < _; exact rd_lt hg1.2.2.2.1.1)) (by omega) (by omega)
        have lZk := prods_ln (v := v) (n := k) (fun i hi => hfo i (by omega)) hgo (fun i t hi ht => hK i t (by omega) ht) hLk
        have hkK : k * (K + 1) ≤ n * (2 * K + 5) := Nat.mul_le_mul hk (by omega)
        obtain ⟨Zn, Vn, hLn⟩ := low_ex (lnum (prods v f g m (k + 1))) (lden (prods v f g m (k + 1)) : Nat) (by have := lden_prods_pos v f g m (k + 1); omega)
        have hLa : Low (rn (ng Zk) (am Zk) Vk * (rd Vp : Nat) + rn (ng Zp) (am Zp) Vp * (rd Vk : Nat)) ((rd Vk : Nat) * (rd Vp : Nat)) Zn Vn := by
          rw [rn_nf hLk.pos, rn_nf hLp.pos, rd_nf hLk.pos, rd_nf hLp.pos]
          have e : prods v f g m (k + 1) = prods v f g m k ++ [(rn (f k).s (f k).X (f k).Y * rn (g t).s (g t).X (g t).Y, rd (f k).Y * rd (g t).Y)] := by
            simp only [prods]
            rw [if_pos hp, show (v k).toNat = t by omega]
          rw [e] at hLn
          refine low_halves hLk (l := prods v f g m k) (m := [(rn (f k).s (f k).X (f k).Y * rn (g t).s (g t).X (g t).Y, rd (f k).Y * rd (g t).Y)]) ?_ hLn
          have e1 : lden [(rn (f k).s (f k).X (f k).Y * rn (g t).s (g t).X (g t).Y, rd (f k).Y * rd (g t).Y)] = rd (f k).Y * rd (g t).Y := Nat.mul_one _
          have e2 : lnum [(rn (f k).s (f k).X (f k).Y * rn (g t).s (g t).X (g t).Y, rd (f k).Y * rd (g t).Y)] = rn (f k).s (f k).X (f k).Y * rn (g t).s (g t).X (g t).Y := by
            show _ * ((1 : Nat) : Int) + 0 * _ = _
            simp
          rw [e1, e2, Int.natCast_mul]
          exact hLp
        have GM := hide' (fun w' k1 k2 k3 k4 => vqMul_is (f k).s (f k).a (f k).n (f k).c (f k).X (f k).b (f k).m (f k).e (f k).Y (g t).s (g t).a (g t).n (g t).c (g t).X (g t).b (g t).m (g t).e (g t).Y Zp Vp w' hf1.2.1 (by omega) k1 hf1.2.2.2.2.1 (by omega) k2 hg1.2.1 (by omega) k3 hg1.2.2.2.2.1 (by omega) k4 hLp)
        have GA := hide' (fun w' x y k1 k2 k3 k4 => vqAdd_is (ng Zk) p (ln (am Zk)) (ln (am Zk)) (am Zk) p' (ln Vk) (ln Vk) Vk (ng Zp) x (ln (am Zp)) (ln (am Zp)) (am Zp) y (ln Vp) (ln Vp) Vp Zn Vn w' (Nat.le_refl _) (by omega) k1 (Nat.le_refl _) (by omega) k2 (Nat.le_refl _) (by omega) k3 (Nat.le_refl _) (by omega) k4 hLa)
        have HLn := hide' hLn
        clear hLn hLa hLp hLk hkK lZk lZp ht hp hcell hcell'
        go_wp2_with fail
        replace hBk : Below w.heap.size w wr.drew := hBk.drew
        replace hf1 : (f k).ok wr.drew := hf1
        replace hg1 : (g t).ok wr.drew := hg1
        replace hS : Seg wr.drew p (am Zk) (ln (am Zk)) := hS
        replace hT : Seg wr.drew p' Vk (ln Vk) := hT
        replace s0 : wr.drew.cell? ⟨c, 0, none⟩ = some (.bool (ng Zk)) := s0
        replace s1 : wr.drew.cell? ⟨c, 1, none⟩ = some (.slice p (ln (am Zk)) (ln (am Zk))) := s1
        replace s2 : wr.drew.cell? ⟨c, 2, none⟩ = some (.slice p' (ln Vk) (ln Vk)) := s2
        replace sR : Row wr.drew c := sR
        replace r0 : wr.drew.cell? ⟨w.heap.size, 0, none⟩ = some (.bool false) := r0
        replace r1 : wr.drew.cell? ⟨w.heap.size, 1, none⟩ = some (.slice none 0 0) := r1
        replace r2 : wr.drew.cell? ⟨w.heap.size, 2, none⟩ = some (.slice none 0 0) := r2
        replace rR : Row wr.drew w.heap.size := rR
        refine wp_region_held_drew (S := fun w' => w'.cell? ⟨b, off + k * 4, none⟩ = some (.int .i64 (t : Int)) ∧ w'.cell? ⟨b, off + k * 4 + 1, none⟩ = some (.bool (f k).s) ∧ w'.cell? ⟨b, off + k * 4 + 1 + 1, none⟩ = some (.slice (f k).a (f k).n (f k).c) ∧ w'.cell? ⟨b, off + k * 4 + 1 + 2, none⟩ = some (.slice (f k).b (f k).m (f k).e) ∧ w'.cell? ⟨b', off' + t * 3, none⟩ = some (.bool (g t).s) ∧ w'.cell? ⟨b', off' + t * 3 + 1, none⟩ = some (.slice (g t).a (g t).n (g t).c) ∧ w'.cell? ⟨b', off' + t * 3 + 2, none⟩ = some (.slice (g t).b (g t).m (g t).e)) (by kernel_rfl) ⟨c0, c1, c2, c3, d0, d1, d2⟩ (fun hHeld => ?_)
        clear c0 c1 c2 c3 d0 d1 d2
        generalize wr.drew = w0 at hBk hf1 hg1 hS hT s0 s1 s2 sR r0 r1 r2 rR hHeld ⊢
        refine take' 1 (v := ?_) rfl (by kernel_rfl) (by kernel_rfl) (by kernel_rfl) (fun _ _ _ h => h) (Or.inl ⟨by rfl, ?_⟩) (by assumption) ?_
        rotate_left
        · intro w9 hSw
          go_simp
          first | done | with_reducible rfl
        simp only [Act.put, List.setIfInBounds_toArray, List.set_cons_zero, List.set_cons_succ]
        refine take' 2 (v := ?_) rfl (by kernel_rfl) (by kernel_rfl) (by kernel_rfl) (fun _ _ _ h => h) (Or.inl ⟨by rfl, ?_⟩) (by assumption) ?_
        rotate_left
        · intro w9 hSw
          go_simp
          first | done | with_reducible rfl
        simp only [Act.put, List.setIfInBounds_toArray, List.set_cons_zero, List.set_cons_succ]
        refine take' 3 (v := ?_) rfl (by kernel_rfl) (by kernel_rfl) (by kernel_rfl) (fun _ _ _ h => h) (Or.inl ⟨by rfl, ?_⟩) (by assumption) ?_
        rotate_left
        · intro w9 hSw
          go_simp
          first | done | with_reducible rfl
        simp only [Act.put, List.setIfInBounds_toArray, List.set_cons_zero, List.set_cons_succ]
        refine take' 4 (v := ?_) rfl (by kernel_rfl) (by kernel_rfl) (by kernel_rfl) (fun _ _ _ h => h) (Or.inl ⟨by rfl, ?_⟩) (by assumption) ?_
        rotate_left
        · intro w9 hSw
          go_simp
          first | done | with_reducible rfl
        simp only [Act.put, List.setIfInBounds_toArray, List.set_cons_zero, List.set_cons_succ]
        refine take' 5 (v := ?_) rfl (by kernel_rfl) (by kernel_rfl) (by kernel_rfl) (fun _ _ _ h => h) (Or.inl ⟨by rfl, ?_⟩) (by assumption) ?_
        rotate_left
        · intro w9 hSw
          go_simp
          first | done | with_reducible rfl
        simp only [Act.put, List.setIfInBounds_toArray, List.set_cons_zero, List.set_cons_succ]
        refine take' 6 (v := ?_) rfl (by kernel_rfl) (by kernel_rfl) (by kernel_rfl) (fun _ _ _ h => h) (Or.inl ⟨by rfl, ?_⟩) (by assumption) ?_
        rotate_left
        · intro w9 hSw
          go_simp
          first | done | with_reducible rfl
        simp only [Act.put, List.setIfInBounds_toArray, List.set_cons_zero, List.set_cons_succ]
        refine take' 7 (v := ?_) rfl (by kernel_rfl) (by kernel_rfl) (by kernel_rfl) (fun _ _ _ h => h) (Or.inl ⟨by rfl, ?_⟩) (by assumption) ?_
        rotate_left
        · intro w9 hSw
          go_simp
          first | done | with_reducible rfl
        simp only [Act.put, List.setIfInBounds_toArray, List.set_cons_zero, List.set_cons_succ]
        refine take' 8 (v := ?_) rfl (by kernel_rfl) (by kernel_rfl) (by kernel_rfl) (fun _ _ _ h => h) (Or.inl ⟨by rfl, ?_⟩) (by assumption) ?_
        rotate_left
        · intro w9 hSw
          go_simp
          first | done | with_reducible rfl
        simp only [Act.put, List.setIfInBounds_toArray, List.set_cons_zero, List.set_cons_succ]
        refine take' 9 (v := ?_) rfl (by kernel_rfl) (by kernel_rfl) (by kernel_rfl) (fun _ _ _ h => h) (Or.inl ⟨by rfl, ?_⟩) (by assumption) ?_
        rotate_left
        · intro w9 hSw
          go_simp
          first | done | with_reducible rfl
        simp only [Act.put, List.setIfInBounds_toArray, List.set_cons_zero, List.set_cons_succ]
        refine take' 10 (v := ?_) rfl (by kernel_rfl) (by kernel_rfl) (by kernel_rfl) (fun _ _ _ h => h) (Or.inl ⟨by rfl, ?_⟩) (by assumption) ?_
        rotate_left
        · intro w9 hSw
          go_simp
          first | done | with_reducible rfl
        simp only [Act.put, List.setIfInBounds_toArray, List.set_cons_zero, List.set_cons_succ]
        refine take' 11 (v := ?_) rfl (by kernel_rfl) (by kernel_rfl) (by kernel_rfl) (fun _ _ _ h => h) (Or.inl ⟨by rfl, ?_⟩) (by assumption) ?_
        rotate_left
        · intro w9 hSw
          go_simp
          first | done | with_reducible rfl
        simp only [Act.put, List.setIfInBounds_toArray, List.set_cons_zero, List.set_cons_succ]
        refine take' 12 (v := ?_) rfl (by kernel_rfl) (by kernel_rfl) (by kernel_rfl) (fun _ _ _ h => h) (Or.inl ⟨by rfl, ?_⟩) (by assumption) ?_
        rotate_left
        · intro w9 hSw
          go_simp
          first | done | with_reducible rfl
        simp only [Act.put, List.setIfInBounds_toArray, List.set_cons_zero, List.set_cons_succ]
        refine take' 13 (v := ?_) rfl (by kernel_rfl) (by kernel_rfl) (by kernel_rfl) (fun _ _ _ h => h) (Or.inl ⟨by rfl, ?_⟩) (by assumption) ?_
        rotate_left
        · intro w9 hSw
          go_simp
          first | done | with_reducible rfl
        simp only [Act.put, List.setIfInBounds_toArray, List.set_cons_zero, List.set_cons_succ]
        refine wpAnyH_ready (rs := [0, 14]) (by kernel_rfl) (by simp) ?_
        refine consT rfl (fun KK hKK => ?_) ?_
        · skip
          go_simp
          refine hKK.out _ _ hHeld ?_
          clear hHeld
          intro hHeld
          clear hKK KK
          try simp only [Act.put, List.setIfInBounds_toArray, List.set_cons_zero, List.set_cons_succ]
          refine wpAnyH_ready (rs := [14]) (by kernel_rfl) (by simp) ?_
          refine cons' rfl (fun KK hKK => ?_)
          go_simp
          refine (GM.out _ hf1.1 hf1.2.2.2.1 hg1.1 hg1.2.2.2.1).mono ?_
          rintro e w2 ⟨x, y, rfl, n1, n2⟩
          have b2 := n1.below
          have hcs := hBk.size
          replace hBk := hBk.trans (b2.mono hBk.size)
          replace hf1 := hf1.later b2
          replace hg1 := hg1.later b2
          replace hS := hS.later b2
          replace hT := hT.later b2
          replace s0 := below_cell b2 s0
          replace s1 := below_cell b2 s1
          replace s2 := below_cell b2 s2
          replace r0 := below_cell b2 r0
          replace r1 := below_cell b2 r1
          replace r2 := below_cell b2 r2
          replace sR := below_row b2 sR
          replace rR := below_row b2 rR
          replace hHeld := (⟨below_cell b2 hHeld.1, below_cell b2 hHeld.2.1, below_cell b2 hHeld.2.2.1, below_cell b2 hHeld.2.2.2.1, below_cell b2 hHeld.2.2.2.2.1, below_cell b2 hHeld.2.2.2.2.2.1, below_cell b2 hHeld.2.2.2.2.2.2⟩ : _ ∧ _ ∧ _ ∧ _ ∧ _ ∧ _ ∧ _)
          clear hcs
          go_wp2_with fail
          refine hKK.out _ _ hHeld ?_
          clear hHeld
          intro hHeld
          clear hKK KK
          try simp only [Act.put, List.setIfInBounds_toArray, List.set_cons_zero, List.set_cons_succ]
          refine wpAnyH_ready (rs := [15]) (by kernel_rfl) (by simp) ?_
          refine cons' rfl (fun KK hKK => ?_)
          go_simp
          refine (GA.out _ x y hS hT n1.seg n2.seg).mono ?_
          rintro e w3 ⟨x', y', rfl, n3, n4⟩
          have b3 := n3.below
          have hcs := hBk.size
          replace hBk := hBk.trans (b3.mono hBk.size)
          replace hf1 := hf1.later b3
          replace hg1 := hg1.later b3
          replace hS := hS.later b3
          replace hT := hT.later b3
          replace s0 := below_cell b3 s0
          replace s1 := below_cell b3 s1
          replace s2 := below_cell b3 s2
          replace r0 := below_cell b3 r0
          replace r1 := below_cell b3 r1
          replace r2 := below_cell b3 r2
          replace sR := below_row b3 sR
          replace rR := below_row b3 rR
          replace hHeld := (⟨below_cell b3 hHeld.1, below_cell b3 hHeld.2.1, below_cell b3 hHeld.2.2.1, below_cell b3 hHeld.2.2.2.1, below_cell b3 hHeld.2.2.2.2.1, below_cell b3 hHeld.2.2.2.2.2.1, below_cell b3 hHeld.2.2.2.2.2.2⟩ : _ ∧ _ ∧ _ ∧ _ ∧ _ ∧ _ ∧ _)
          clear hcs
          go_wp2_with fail
          refine hKK.out _ _ hHeld ?_
          clear hHeld
          intro hHeld
          clear hKK KK
          try simp only [Act.put, List.setIfInBounds_toArray, List.set_cons_zero, List.set_cons_succ]
          refine wpAnyH_ready (rs := [16]) (by kernel_rfl) (by simp) ?_
          refine cons' rfl (fun KK hKK => ?_)
          have fz := fun o => sR.frozen o
          have I1 := hide' (VInv.put (k := k + 1) HLn.out (show c ≠ w.heap.size by omega) (by omega) s0 s1 s2 sR r0 r1 r2 rR n3.seg n4.seg hBk)
          go_simp
          refine hKK.out _ _ ⟨by rw [set3_far (by omega)]; exact hHeld.1, by rw [set3_far (by omega)]; exact hHeld.2.1, by rw [set3_far (by omega)]; exact hHeld.2.2.1, by rw [set3_far (by omega)]; exact hHeld.2.2.2.1, by rw [set3_far (by omega)]; exact hHeld.2.2.2.2.1, by rw [set3_far (by omega)]; exact hHeld.2.2.2.2.2.1, by rw [set3_far (by omega)]; exact hHeld.2.2.2.2.2.2⟩ ?_
          clear hHeld
          intro hHeld
          clear hKK KK
          try simp only [Act.put, List.setIfInBounds_toArray, List.set_cons_zero, List.set_cons_succ]
          refine wpAnyH_done (by kernel_rfl) ?_ _
          go_wp2
          go_roundw
          case rel => exact ⟨k + 1, by omega, by go_num, I1.out⟩
          case measure => simp [intOf]; omega
        refine consT rfl (fun KK hKK => ?_) ?_
        · skip
          go_simp
          refine (GM.out _ hf1.1 hf1.2.2.2.1 hg1.1 hg1.2.2.2.1).mono ?_
          rintro e w2 ⟨x, y, rfl, n1, n2⟩
          have b2 := n1.below
          have hcs := hBk.size
          replace hBk := hBk.trans (b2.mono hBk.size)
          replace hf1 := hf1.later b2
          replace hg1 := hg1.later b2
          replace hS := hS.later b2
          replace hT := hT.later b2
          replace s0 := below_cell b2 s0
          replace s1 := below_cell b2 s1
          replace s2 := below_cell b2 s2
          replace r0 := below_cell b2 r0
          replace r1 := below_cell b2 r1
          replace r2 := below_cell b2 r2
          replace sR := below_row b2 sR
          replace rR := below_row b2 rR
          replace hHeld := (⟨below_cell b2 hHeld.1, below_cell b2 hHeld.2.1, below_cell b2 hHeld.2.2.1, below_cell b2 hHeld.2.2.2.1, below_cell b2 hHeld.2.2.2.2.1, below_cell b2 hHeld.2.2.2.2.2.1, below_cell b2 hHeld.2.2.2.2.2.2⟩ : _ ∧ _ ∧ _ ∧ _ ∧ _ ∧ _ ∧ _)
          clear hcs
          go_wp2_with fail
          refine hKK.out _ _ hHeld ?_
          clear hHeld
          intro hHeld
          clear hKK KK
          try simp only [Act.put, List.setIfInBounds_toArray, List.set_cons_zero, List.set_cons_succ]
          refine wpAnyH_ready (rs := [0]) (by kernel_rfl) (by simp) ?_
          refine cons' rfl (fun KK hKK => ?_)
          go_simp
          refine hKK.out _ _ hHeld ?_
          clear hHeld
          intro hHeld
          clear hKK KK
          try simp only [Act.put, List.setIfInBounds_toArray, List.set_cons_zero, List.set_cons_succ]
          refine wpAnyH_ready (rs := [15]) (by kernel_rfl) (by simp) ?_
          refine cons' rfl (fun KK hKK => ?_)
          go_simp
          refine (GA.out _ x y hS hT n1.seg n2.seg).mono ?_
          rintro e w3 ⟨x', y', rfl, n3, n4⟩
          have b3 := n3.below
          have hcs := hBk.size
          replace hBk := hBk.trans (b3.mono hBk.size)
          replace hf1 := hf1.later b3
          replace hg1 := hg1.later b3
          replace hS := hS.later b3
          replace hT := hT.later b3
          replace s0 := below_cell b3 s0
          replace s1 := below_cell b3 s1
          replace s2 := below_cell b3 s2
          replace r0 := below_cell b3 r0
          replace r1 := below_cell b3 r1
          replace r2 := below_cell b3 r2
          replace sR := below_row b3 sR
          replace rR := below_row b3 rR
          replace hHeld := (⟨below_cell b3 hHeld.1, below_cell b3 hHeld.2.1, below_cell b3 hHeld.2.2.1, below_cell b3 hHeld.2.2.2.1, below_cell b3 hHeld.2.2.2.2.1, below_cell b3 hHeld.2.2.2.2.2.1, below_cell b3 hHeld.2.2.2.2.2.2⟩ : _ ∧ _ ∧ _ ∧ _ ∧ _ ∧ _ ∧ _)
          clear hcs
          go_wp2_with fail
          refine hKK.out _ _ hHeld ?_
          clear hHeld
          intro hHeld
          clear hKK KK
          try simp only [Act.put, List.setIfInBounds_toArray, List.set_cons_zero, List.set_cons_succ]
          refine wpAnyH_ready (rs := [16]) (by kernel_rfl) (by simp) ?_
          refine cons' rfl (fun KK hKK => ?_)
          have fz := fun o => sR.frozen o
          have I1 := hide' (VInv.put (k := k + 1) HLn.out (show c ≠ w.heap.size by omega) (by omega) s0 s1 s2 sR r0 r1 r2 rR n3.seg n4.seg hBk)
          go_simp
          refine hKK.out _ _ ⟨by rw [set3_far (by omega)]; exact hHeld.1, by rw [set3_far (by omega)]; exact hHeld.2.1, by rw [set3_far (by omega)]; exact hHeld.2.2.1, by rw [set3_far (by omega)]; exact hHeld.2.2.2.1, by rw [set3_far (by omega)]; exact hHeld.2.2.2.2.1, by rw [set3_far (by omega)]; exact hHeld.2.2.2.2.2.1, by rw [set3_far (by omega)]; exact hHeld.2.2.2.2.2.2⟩ ?_
          clear hHeld
          intro hHeld
          clear hKK KK
          try simp only [Act.put, List.setIfInBounds_toArray, List.set_cons_zero, List.set_cons_succ]
          refine wpAnyH_done (by kernel_rfl) ?_ _
          go_wp2
          go_roundw
          case rel => exact ⟨k + 1, by omega, by go_num, I1.out⟩
          case measure => simp [intOf]; omega
        exact AllReadyH.nil
      · have I1 := hide' (VInv.skip (r := w.heap.size) (c := c) ⟨Zk, Vk, p, p', hLk, ⟨s0, s1, s2, sR⟩, ⟨r0, r1, r2, rR⟩, hS, hT, hBk⟩ hp)
        by_cases h0 : 0 ≤ v k
        · have h1 : ¬ v k < (m : Int) := fun h => hp ⟨h0, h⟩
          clear hp
          go_wp2
          go_roundw
          case rel => exact ⟨k + 1, by omega, by go_num, I1.out⟩
          case measure => simp [intOf]; omega
        · clear hp
          go_wp2
          go_roundw
          case rel => exact ⟨k + 1, by omega, by go_num, I1.out⟩
          case measure => simp [intOf]; omega
    · obtain rfl : k = n := by omega
      obtain ⟨rfl, rfl⟩ := Low.uniq hL hLk rfl
      have i1 : ¬ (k : Int) < (k : Int) := by omega
      have fz0 := fun o => rR.frozen o
      go_wp2
      all_goals refine bodyPost_ret (v := Value.agg #[Value.bool (ng Z), Value.slice p (ln (am Z)) (ln (am Z)), Value.slice p' (ln V) (ln V)]) (by rw [results_cell rfl]; go_simp) rfl ?_
      all_goals exact ⟨p, p', rfl, bset (bset (bset hBk (Nat.le_refl _)) (Nat.le_refl _)) (Nat.le_refl _), hS.setR r0 r1 r2, hT.setR r0 r1 r2⟩
end Go.Proofs.Ytogcnneakangmaa
