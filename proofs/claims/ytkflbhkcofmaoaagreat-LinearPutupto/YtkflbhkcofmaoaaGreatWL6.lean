/-
  Layer 6: products of fractions.
-/
import Derived.Test.YtkflbhkcofmaoaaGreatWL5
import Derived.Test.YtkflbhkcofmaoaaGreatWQ5
import Derived.Test.YtkflbhkcofmaoaaGreatNumR
namespace Go.Proofs.YtkflbhkcofmaoaaGreat
open Go.RowKit
set_option linter.unusedVariables false
set_option linter.unusedSimpArgs false

/-- each part's coefficient times its variable's value, where there is one: not yet in lowest terms -/
def prods (v : Nat → Int) (f g : Nat → RatV) (m : Nat) : Nat → List (Int × Nat)
  | 0 => []
  | k + 1 => prods v f g m k ++ (if 0 ≤ v k ∧ v k < (m : Int) then [(rn (f k).s (f k).X (f k).Y * rn (g (v k).toNat).s (g (v k).toNat).X (g (v k).toNat).Y, rd (f k).Y * rd (g (v k).toNat).Y)] else [])

/-- the same as rational numbers -/
def prl (v : Nat → Int) (f g : Nat → RatV) (m : Nat) : Nat → List Rat
  | 0 => []
  | k + 1 => prl v f g m k ++ (if 0 ≤ v k ∧ v k < (m : Int) then [(f k).val * (g (v k).toNat).val] else [])
/-- what the first n of them are, as rational numbers -/
def lv (q : Nat → RatV) (n : Nat) : List Rat := (List.range n).map fun i => (q i).val
theorem lv_succ (q : Nat → RatV) (n : Nat) : lv q (n + 1) = lv q n ++ [(q n).val] := by
  unfold lv
  rw [List.range_succ, List.map_append]
  rfl
theorem lv_congr {q q' : Nat → RatV} (n : Nat) (h : ∀ i, i < n → q i = q' i) : lv q n = lv q' n := by
  unfold lv
  exact List.map_congr_left fun i hi => by rw [h i (List.mem_range.1 hi)]
theorem low_prod {p q r : RatV} (hr : 0 < r.Y) (hL : Low (rn p.s p.X p.Y * rn q.s q.X q.Y) ((rd p.Y : Nat) * (rd q.Y : Nat)) (sg r.s r.X) r.Y) : r.val = p.val * q.val := by
  obtain ⟨e1, e2⟩ := (low_mul p q).uniq hL rfl
  unfold RatV.val
  rw [rn_of (by omega), rd_of (by omega), ← e1, ← e2, Rat.num_divInt_den]
  rfl

/-- what the loop keeps -/
def PrInv (w : World) (v : Nat → Int) (f g : Nat → RatV) (m N : Nat) (k : Nat) (vo : Value) (wr : World) : Prop :=
  ∃ (j : Nat) (q : Nat → RatV), j ≤ k ∧ wr.ownsRow w.heap.size 31 3 vo j (cellsV q j) ∧ Below w.heap.size w wr ∧ (Eqv (lq q j) (prods v f g m k) ∧ lv q j = prl v f g m k) ∧
    ∀ i, i < j → (q i).ok wr ∧ (q i).low ∧ (q i).n + (q i).m + 1 ≤ N ∧ ∀ b, vo.ownBlock = some b → (q i).off b

theorem PrInv.later {w : World} {v : Nat → Int} {f g : Nat → RatV} {m N k : Nat} {vo : Value} {wr w' : World} (h : PrInv w v f g m N k vo wr) (hb : Below wr.heap.size wr w') : PrInv w v f g m N k vo w' := by
  obtain ⟨j, q, hj, hO, hB, hE, hq⟩ := h
  exact ⟨j, q, hj, own_below hO hb, hB.trans (hb.mono hB.size), hE, fun i hi => ⟨(hq i hi).1.later hb, (hq i hi).2⟩⟩
theorem PrInv.skip {w : World} {v : Nat → Int} {f g : Nat → RatV} {m N k : Nat} {vo : Value} {wr : World} (h : PrInv w v f g m N k vo wr) (hp : ¬ (0 ≤ v k ∧ v k < (m : Int))) : PrInv w v f g m N (k + 1) vo wr := by
  obtain ⟨j, q, hj, hO, hB, hE, hq⟩ := h
  refine ⟨j, q, by omega, hO, hB, ?_, hq⟩
  simp only [prods, prl]
  rw [if_neg hp, if_neg hp, List.append_nil, List.append_nil]
  exact hE

theorem lq_congr {q q' : Nat → RatV} : ∀ (n : Nat), (∀ i, i < n → q i = q' i) → lq q n = lq q' n
  | 0, _ => rfl
  | n + 1, h => by rw [lq_succ, lq_succ, lq_congr n fun i hi => h i (by omega), h n (by omega)]
theorem PrInv.push {w : World} {v : Nat → Int} {f g : Nat → RatV} {m N k : Nat} {vo : Value} {wB w1 : World} {j : Nat} {q : Nat → RatV} (hj : j ≤ k) (hB : Below w.heap.size w wB) (hE : Eqv (lq q j) (prods v f g m k) ∧ lv q j = prl v f g m k)
    (hq : ∀ i, i < j → (q i).ok wB ∧ (q i).low ∧ (q i).n + (q i).m + 1 ≤ N ∧ ∀ b, vo.ownBlock = some b → (q i).off b) (hrow : ∀ b, vo.ownBlock = some b → w.heap.size ≤ b) (hp : 0 ≤ v k ∧ v k < (m : Int))
    (r : RatV) (hr : r.ok wB) (hrl : r.low) (hrn : r.n + r.m + 1 ≤ N) (hro : ∀ b, vo.ownBlock = some b → r.off b)
    (hL : Low (rn (f k).s (f k).X (f k).Y * rn (g (v k).toNat).s (g (v k).toNat).X (g (v k).toNat).Y) ((rd (f k).Y : Nat) * (rd (g (v k).toNat).Y : Nat)) (sg r.s r.X) r.Y) {gb cap : Nat}
    (hown : w1.ownsRow w.heap.size 31 3 (.slice (some ⟨gb, 0, none⟩) (j + 1) cap) (j + 1) (cellsV q j ++ [.bool r.s, .slice r.a r.n r.c, .slice r.b r.m r.e])) (hg : wB.grownBy w1 vo.ownBlock) (hat : vo.ownBlock = some gb ∨ gb = wB.heap.size) :
    PrInv w v f g m N (k + 1) (.slice (some ⟨gb, 0, none⟩) (j + 1) cap) w1 := by
  obtain ⟨q', hq'⟩ : ∃ q' : Nat → RatV, q' = fun i => if i < j then q i else r := ⟨_, rfl⟩
  have e1 : ∀ i, i < j → q' i = q i := fun i hi => by rw [hq']; exact if_pos hi
  have e2 : q' j = r := by rw [hq']; exact if_neg (by omega)
  refine ⟨j + 1, q', by omega, ?_, hB.trans (below_grown hB.size hrow hg), ?_, fun i hi => ?_⟩
  · simp only [cellsV]
    rw [cellsV_congr j e1, e2]
    exact hown
  · have hY := hrl.pos
    refine ⟨?_, ?_⟩
    · rw [lq_succ, lq_congr j e1, e2]
      simp only [prods]
      rw [if_pos hp]
      refine hE.1.append ?_
      rw [rn_of (by omega), rd_of (by omega)]
      exact Eqv.one (by rw [Int.natCast_mul]; exact hL)
    · rw [lv_succ, lv_congr j e1, e2]
      simp only [prl]
      rw [if_pos hp, hE.2, low_prod hY hL]
  · have hoff : ∀ x : RatV, x.ok wB → (∀ b, vo.ownBlock = some b → x.off b) → ∀ b, (Value.slice (some ⟨gb, 0, none⟩) (j + 1) cap).ownBlock = some b → x.off b := by
      intro x hx ho b hb
      have : gb = b := by simpa [Value.ownBlock] using hb
      subst this
      rcases hat with h | h
      · exact ho _ h
      · exact hx.off (by omega)
    rcases Nat.lt_or_ge i j with h1 | h1
    · rw [e1 i h1]
      obtain ⟨a1, a2, a3, a4⟩ := hq i h1
      exact ⟨a1.grown hg a4, a2, a3, hoff _ a1 a4⟩
    · obtain rfl : i = j := by omega
      rw [e2]
      exact ⟨hr.grown hg hro, hrl, hrn, hoff _ hr hro⟩

theorem info_Rat : (Tryz.prog.info? 31).map (fun i => (i.zero, i.size, i.bytes)) = some (some (.agg #[.bool false, .slice none 0 0, .slice none 0 0]), 3, 56) := by kernel_rfl

set_option maxHeartbeats 2000000 in
set_option maxRecDepth 100000 in
theorem products_is (af : Option Addr) (n capf : Nat) (v : Nat → Int) (f : Nat → RatV) (av : Option Addr) (m capv : Nat) (g : Nat → RatV) (K N : Nat) (w : World) (hcf : n ≤ capf) (hcv : m ≤ capv) (hn : n ≤ 1048576) (hm : m ≤ 1048576)
    (hF : FormAt w af n v f) (hfo : ∀ i, i < n → (f i).ok w) (hG : RatsAt w av m g) (hgo : ∀ i, i < m → (g i).ok w) (hK : ∀ i t, i < n → t < m → (f i).n + (f i).m + (g t).n + (g t).m ≤ K) (hKm : K ≤ 274877906944) (hN : 2 * K + 5 ≤ N) :
    Calls Tryz.prog 29 #[.slice af n capf, .slice av m capv, .func (.func 18) #[] #[]] w fun e w' => ∃ vo, e = .returned vo ∧ PrInv w v f g m N n vo w' := by
  go_enter Tryz.func29, Tryz.ntmps29
  go_wp2_with fail
  go_loopw [7, 12] (fun vo vi wr => ∃ k : Nat, k ≤ n ∧ vi = .int .i64 k ∧ PrInv w v f g m N k vo wr) (fun _ vi _ => n - (intOf vi).toNat)
  case atStart => exact ⟨0, Nat.zero_le _, rfl, 0, fun _ => default, Nat.le_refl _, World.ownsRow_nil _ _ _ _, Below.refl _ _, ⟨rfl, rfl⟩, fun i hi => absurd hi (by omega)⟩
  case round =>
    obtain ⟨k, hk, rfl, hI⟩ := hrel
    by_cases hlt : k < n
    · have hBk : Below w.heap.size w wr := by obtain ⟨j, q, _, _, hB, _⟩ := hI; exact hB
      obtain ⟨b, off, rfl, hb, hcell⟩ := hF (by omega)
      obtain ⟨c0, c1, c2, c3⟩ := hcell k hlt
      replace c0 := below_cell hBk c0
      replace c1 := below_cell hBk c1
      replace c2 := below_cell hBk c2
      replace c3 := below_cell hBk c3
      have i0 : (0 : Int) ≤ (k : Int) := by omega
      have i1 : (k : Int) < (n : Int) := by omega
      by_cases hp : 0 ≤ v k ∧ v k < (m : Int)
      · have P1 := hide' (fun w' => isPlace_in (v k) m w' hp.1 hp.2)
        obtain ⟨j, q, hj, hO, hB, hE, hq⟩ := hI
        obtain ⟨t, ht⟩ : ∃ t : Nat, v k = (t : Int) := ⟨(v k).toNat, by omega⟩
        have htm : t < m := by omega
        obtain ⟨b', off', rfl, hb', hcell'⟩ := hG (by omega)
        obtain ⟨d0, d1, d2⟩ := hcell' t htm
        have hf1 := hfo k hlt
        have hg1 := hgo t htm
        have hfg := hK k t hlt htm
        replace d0 := below_cell hBk d0
        replace d1 := below_cell hBk d1
        replace d2 := below_cell hBk d2
        replace hf1 := hf1.later hBk
        replace hg1 := hg1.later hBk
        obtain ⟨Z, V, hL⟩ := low_ex (rn (f k).s (f k).X (f k).Y * rn (g t).s (g t).X (g t).Y) ((rd (f k).Y : Nat) * (rd (g t).Y : Nat)) (Int.mul_ne_zero (rd_ne _) (rd_ne _))
        have lZ : ln (am Z) ≤ K + 2 ∧ ln V ≤ K + 2 := ln1 (i := (f k).n + (g t).n) (j := ((f k).m + 1) + ((g t).m + 1)) hL (lt_prod (Nat.lt_of_le_of_lt (rn_am _ _ _) hf1.1.1) (Nat.lt_of_le_of_lt (rn_am _ _ _) hg1.1.1)) (lt_prod (by show rd _ < _; exact rd_lt hf1.2.2.2.1.1) (by show rd _ < _; exact rd_lt hg1.2.2.2.1.1)) (by omega) (by omega)
        rw [ht] at c0 P1
        have t0 : (0 : Int) ≤ (t : Int) := by omega
        have t1 : (t : Int) < (m : Int) := by omega
        have G := hide' (fun w' k1 k2 k3 k4 => qMul_is (f k).s (f k).a (f k).n (f k).c (f k).X (f k).b (f k).m (f k).e (f k).Y (g t).s (g t).a (g t).n (g t).c (g t).X (g t).b (g t).m (g t).e (g t).Y Z V w' hf1.2.1 (by omega) k1 hf1.2.2.2.2.1 (by omega) k2 hg1.2.1 (by omega) k3 hg1.2.2.2.2.1 (by omega) k4 hL)
        have hrow := fun k hk => (hO.lt k hk)
        obtain ⟨i0', hi0, hz0, hz1, hz2⟩ := info_parts info_Rat
        go_wp2_with fail
        refine (P1.out _).mono ?_
        rintro e w1 ⟨rfl, rfl⟩
        go_wp2_with fail
        obtain ⟨wA, hwA⟩ : ∃ wA, wr.alloc (.cells #[.int .i64 (t : Int), .bool (f k).s, .slice (f k).a (f k).n (f k).c, .slice (f k).b (f k).m (f k).e] 59) = wA := ⟨_, rfl⟩
        have a0 : wA.drew.cell? ⟨wr.heap.size, 0, none⟩ = some (.int .i64 (t : Int)) := by subst hwA; go_simp
        have a1 : wA.drew.cell? ⟨wr.heap.size, 1, none⟩ = some (.bool (f k).s) := by subst hwA; go_simp
        have a2 : wA.drew.cell? ⟨wr.heap.size, 2, none⟩ = some (.slice (f k).a (f k).n (f k).c) := by subst hwA; go_simp
        have a3 : wA.drew.cell? ⟨wr.heap.size, 3, none⟩ = some (.slice (f k).b (f k).m (f k).e) := by subst hwA; go_simp
        have bD : Below wr.heap.size wr wA.drew := by subst hwA; exact (below_alloc _).drew
        rw [hwA]
        clear hwA
        replace d0 := below_cell bD d0
        replace d1 := below_cell bD d1
        replace d2 := below_cell bD d2
        clear c0 c1 c2 c3
        refine wp_region_held_drew (S := fun w' => w'.cell? ⟨wr.heap.size, 0, none⟩ = some (.int .i64 (t : Int)) ∧ w'.cell? ⟨wr.heap.size, 1, none⟩ = some (.bool (f k).s) ∧ w'.cell? ⟨wr.heap.size, 2, none⟩ = some (.slice (f k).a (f k).n (f k).c) ∧ w'.cell? ⟨wr.heap.size, 3, none⟩ = some (.slice (f k).b (f k).m (f k).e) ∧ w'.cell? ⟨b', off' + t * 3, none⟩ = some (.bool (g t).s) ∧ w'.cell? ⟨b', off' + t * 3 + 1, none⟩ = some (.slice (g t).a (g t).n (g t).c) ∧ w'.cell? ⟨b', off' + t * 3 + 2, none⟩ = some (.slice (g t).b (g t).m (g t).e)) (by kernel_rfl) ⟨a0, a1, a2, a3, d0, d1, d2⟩ (fun hHeld => ?_)
        generalize wA.drew = w0 at bD a0 a1 a2 a3 d0 d1 d2 hHeld ⊢
        refine take' 0 (v := ?_) rfl (by kernel_rfl) (by kernel_rfl) (by kernel_rfl) (fun _ _ _ h => h) (Or.inl ⟨by rfl, ?_⟩) (by assumption) ?_
        rotate_left
        · intro w9 hSw
          go_simp
          first | done | with_reducible rfl
        simp only [Act.put, List.setIfInBounds_toArray, List.set_cons_zero, List.set_cons_succ]
        refine take' 1 (v := ?_) rfl (by kernel_rfl) (by kernel_rfl) (by kernel_rfl) (fun _ _ _ h => h) (Or.inl ⟨by rfl, ?_⟩) (by assumption) ?_
        rotate_left
        · intro w9 hSw
          go_simp
          first | done | with_reducible rfl
        simp only [Act.put, List.setIfInBounds_toArray, List.set_cons_zero, List.set_cons_succ]
        refine take' 2 (v := ?_) rfl (by kernel_rfl) (by kernel_rfl) (by kernel_rfl) (fun _ _ _ h => h) (Or.inl ⟨by rfl, ?_⟩) (by assumption) ?_
        rotate_left
        · intro w9 hSw
          go_simp
          first | done | with_reducible rfl
        simp only [Act.put, List.setIfInBounds_toArray, List.set_cons_zero, List.set_cons_succ]
        refine take' 3 (v := ?_) rfl (by kernel_rfl) (by kernel_rfl) (by kernel_rfl) (fun _ _ _ h => h) (Or.inl ⟨by rfl, ?_⟩) (by assumption) ?_
        rotate_left
        · intro w9 hSw
          go_simp
          first | done | with_reducible rfl
        simp only [Act.put, List.setIfInBounds_toArray, List.set_cons_zero, List.set_cons_succ]
        refine take' 4 (v := ?_) rfl (by kernel_rfl) (by kernel_rfl) (by kernel_rfl) (fun _ _ _ h => h) (Or.inl ⟨by rfl, ?_⟩) (by assumption) ?_
        rotate_left
        · intro w9 hSw
          go_simp
          first | done | with_reducible rfl
        simp only [Act.put, List.setIfInBounds_toArray, List.set_cons_zero, List.set_cons_succ]
        refine take' 5 (v := ?_) rfl (by kernel_rfl) (by kernel_rfl) (by kernel_rfl) (fun _ _ _ h => h) (Or.inl ⟨by rfl, ?_⟩) (by assumption) ?_
        rotate_left
        · intro w9 hSw
          go_simp
          first | done | with_reducible rfl
        simp only [Act.put, List.setIfInBounds_toArray, List.set_cons_zero, List.set_cons_succ]
        refine take' 6 (v := ?_) rfl (by kernel_rfl) (by kernel_rfl) (by kernel_rfl) (fun _ _ _ h => h) (Or.inl ⟨by rfl, ?_⟩) (by assumption) ?_
        rotate_left
        · intro w9 hSw
          go_simp
          first | done | with_reducible rfl
        simp only [Act.put, List.setIfInBounds_toArray, List.set_cons_zero, List.set_cons_succ]
        refine take' 7 (v := ?_) rfl (by kernel_rfl) (by kernel_rfl) (by kernel_rfl) (fun _ _ _ h => h) (Or.inl ⟨by rfl, ?_⟩) (by assumption) ?_
        rotate_left
        · intro w9 hSw
          go_simp
          first | done | with_reducible rfl
        simp only [Act.put, List.setIfInBounds_toArray, List.set_cons_zero, List.set_cons_succ]
        refine take' 8 (v := ?_) rfl (by kernel_rfl) (by kernel_rfl) (by kernel_rfl) (fun _ _ _ h => h) (Or.inl ⟨by rfl, ?_⟩) (by assumption) ?_
        rotate_left
        · intro w9 hSw
          go_simp
          first | done | with_reducible rfl
        simp only [Act.put, List.setIfInBounds_toArray, List.set_cons_zero, List.set_cons_succ]
        refine wpAnyH_ready (rs := [9]) (by kernel_rfl) (by simp) ?_
        refine cons' rfl (fun KK hKK => ?_)
        go_simp
        refine (G.out _ (hf1.later bD).1 (hf1.later bD).2.2.2.1 (hg1.later bD).1 (hg1.later bD).2.2.2.1).mono ?_
        rintro e w2 ⟨p, p', rfl, n1, n2⟩
        have b2 := n1.below
        replace a0 := below_cell b2 a0
        replace a1 := below_cell b2 a1
        replace a2 := below_cell b2 a2
        replace a3 := below_cell b2 a3
        replace d0 := below_cell b2 d0
        replace d1 := below_cell b2 d1
        replace d2 := below_cell b2 d2
        go_wp2_with fail
        refine hKK.out _ _ ⟨a0, a1, a2, a3, d0, d1, d2⟩ ?_
        clear hHeld
        intro hHeld
        clear hKK KK
        try simp only [Act.put, List.setIfInBounds_toArray, List.set_cons_zero, List.set_cons_succ]
        refine wpAnyH_ready (rs := [10]) (by kernel_rfl) (by simp) ?_
        refine cons' rfl (fun KK hKK => ?_)
        go_simp
        have hnew := heap_alloc_new w2 (.cells #[.bool (ng Z), .slice p (ln (am Z)) (ln (am Z)), .slice p' (ln V) (ln V)] 31)
        have b3 := below_alloc (w := w2) (.cells #[.bool (ng Z), .slice p (ln (am Z)) (ln (am Z)), .slice p' (ln V) (ln V)] 31)
        generalize w2.alloc (.cells #[.bool (ng Z), .slice p (ln (am Z)) (ln (am Z)), .slice p' (ln V) (ln V)] 31) = w3 at hnew b3 ⊢
        replace a0 := below_cell b3 a0
        replace a1 := below_cell b3 a1
        replace a2 := below_cell b3 a2
        replace a3 := below_cell b3 a3
        replace d0 := below_cell b3 d0
        replace d1 := below_cell b3 d1
        replace d2 := below_cell b3 d2
        refine hKK.out _ _ ⟨a0, a1, a2, a3, d0, d1, d2⟩ ?_
        clear hHeld
        intro hHeld
        clear hKK KK
        try simp only [Act.put, List.setIfInBounds_toArray, List.set_cons_zero, List.set_cons_succ]
        have bT : Below wr.heap.size wr w3 := bD.trans ((b2.mono bD.size).trans (b3.mono (Nat.le_trans bD.size b2.size)))
        have s1 := bD.size
        have s2 := b2.size
        have s3 := b3.size
        have sk := hBk.size
        have hO3 := own_below hO bT
        refine wpAnyH_ready (rs := [11]) (by kernel_rfl) (by simp) ?_
        refine cons' rfl (fun KK hKK => ?_)
        refine step_append_lies _ (by rfl) _ _ _ (by rfl) w.heap.size 31 i0' _ 3 56 Tryz.underlying36 hi0 hz0 hz1 hz2 rfl (by omega) u7 j (cellsV q j) (by rfl) hO3
          ⟨w2.heap.size, 0, none⟩ 1 1 [.bool (ng Z), .slice p (ln (am Z)) (ln (am Z)), .slice p' (ln V) (ln V)] (by rfl) (by rfl) (World.news_of_block (cs := #[.bool (ng Z), .slice p (ln (am Z)) (ln (am Z)), .slice p' (ln V) (ln V)]) (t := 31) (fr := (0, 0)) hnew) (by simp [Value.oneCell'])
          (by omega) (by simp only [maxLen]; omega) (by omega) (by omega) w3.heap.size rfl ?_
        intro gb cap w4 hown4 hgrow hat hlt4
        have far : ∀ {c o : Nat} {u : Value}, (c < w.heap.size ∨ c = wr.heap.size) → w3.cell? ⟨c, o, none⟩ = some u → w4.cell? ⟨c, o, none⟩ = some u := fun hc hu => hgrow.cell hu (fun e => by have := hrow _ e.symm; simp only at this; omega)
        refine hKK.out _ _ ⟨far (Or.inr rfl) a0, far (Or.inr rfl) a1, far (Or.inr rfl) a2, far (Or.inr rfl) a3, far (Or.inl hb') d0, far (Or.inl hb') d1, far (Or.inl hb') d2⟩ ?_
        clear hHeld far
        intro hHeld
        clear hKK KK
        try simp only [Act.put, List.setIfInBounds_toArray, List.set_cons_zero, List.set_cons_succ]
        have I1 := hide' (PrInv.push (N := N) hj (hB.trans (bT.mono hB.size)) hE (fun i hi => ⟨(hq i hi).1.later bT, (hq i hi).2⟩) (fun b hb => (hrow b hb).1) hp (RatV.of Z V p p')
          ⟨n1.seg.later b3, Nat.le_refl _, by show ln (am Z) ≤ _; omega, n2.seg.later b3, Nat.le_refl _, by show ln V ≤ _; omega⟩ (RatV.of_low hL.pos hL.cop) (by show ln (am Z) + ln V + 1 ≤ N; omega)
          (fun b hb => by
            have h1 := (hrow b hb).2
            refine ⟨fun hn ad e => ?_, fun hn ad e => ?_⟩
            · obtain ⟨c, o, e', hl, _⟩ := n1.fresh hn
              have e2 : p = some ad := e
              rw [e'] at e2
              obtain rfl := Option.some.inj e2
              show c ≠ b
              omega
            · obtain ⟨c, o, e', hl, _⟩ := n2.fresh hn
              have e2 : p' = some ad := e
              rw [e'] at e2
              obtain rfl := Option.some.inj e2
              show c ≠ b
              omega)
          (by show Low _ _ (sg (ng Z) (am Z)) V; rw [sg_na, show (v k).toNat = t by omega]; exact hL) hown4 hgrow hat)
        clear hown4 hgrow hat hL n1 n2 hq hE hO hO3 hrow
        refine take' 12 (v := ?_) rfl (by kernel_rfl) (by kernel_rfl) (by kernel_rfl) (fun _ _ _ h => h) (Or.inl ⟨by rfl, ?_⟩) (by assumption) ?_
        rotate_left
        · intro w9 hSw
          go_simp
          first | done | with_reducible rfl
        simp only [Act.put, List.setIfInBounds_toArray, List.set_cons_zero, List.set_cons_succ]
        refine wpAnyH_done (by kernel_rfl) ?_ _
        go_wp2
        go_roundw
        case rel => exact ⟨k + 1, by omega, by go_num, I1.out⟩
        case measure => simp [intOf]; omega
      · have P1 := hide' (fun w' => isPlace_out (v k) m w' hp)
        have I1 := hide' ((hI.skip hp).later (below_alloc (w := wr) (.cells #[.int .i64 (v k), .bool (f k).s, .slice (f k).a (f k).n (f k).c, .slice (f k).b (f k).m (f k).e] 59)))
        clear hI hp
        go_wp2_with fail
        refine (P1.out _).mono ?_
        rintro e w1 ⟨rfl, rfl⟩
        go_wp2
        go_roundw
        case rel => exact ⟨k + 1, by omega, by go_num, I1.out⟩
        case measure => simp [intOf]; omega
    · obtain rfl : k = n := by omega
      have i1 : ¬ (k : Int) < (k : Int) := by omega
      go_wp2
      go_ret
      exact ⟨u7, rfl, hI⟩
end Go.Proofs.YtkflbhkcofmaoaaGreat
