/-
  The value of a continued fraction that comes number by number: the program's value, handed slices.Values.
-/
import Derived.Test.YtpifbbopcngdhaaGreatDoorWJ7
namespace Go.Proofs.YtpifbbopcngdhaaGreatDoor
open Go.RowKit Go.Shelf
set_option linter.unusedVariables false
set_option linter.unusedSimpArgs false
attribute [local go_sem] Oper.semAt_some

/-- a whole number as it comes in -/
structure IV where
  s : Bool
  a : Option Addr
  n : Nat
  c : Nat
  X : Nat
def IV.val (x : IV) : Int := sg x.s x.X
def IV.ok (x : IV) (W : World) : Prop := Seg W x.a x.X x.n ∧ x.n ≤ x.c ∧ x.n ≤ 1099511627776
def wsum (s : List IV) : Nat := (s.map fun x => x.n + 1).sum
theorem wsum_snoc (s : List IV) (x : IV) : wsum (s ++ [x]) = wsum s + (x.n + 1) := by simp [wsum]
def upq (q : Nat → IV) (k : Nat) : List IV := (List.range k).map q
theorem upq_succ (q : Nat → IV) (k : Nat) : upq q (k + 1) = upq q k ++ [q k] := by simp [upq, List.range_succ]
theorem upq_wsum (q : Nat → IV) {k n : Nat} (h : k ≤ n) : wsum (upq q k) ≤ wsum (upq q n) := by
  induction n with
  | zero => obtain rfl : k = 0 := by omega
            exact Nat.le_refl _
  | succ n ih =>
    rcases Nat.lt_or_ge n k with h1 | h1
    · obtain rfl : k = n + 1 := by omega
      exact Nat.le_refl _
    · rw [upq_succ, wsum_snoc]
      have := ih h1
      omega
/-- such a list in memory -/
def IntsAt (W : World) (a : Option Addr) (len : Nat) (q : Nat → IV) : Prop :=
  0 < len → ∃ b off, a = some ⟨b, off, none⟩ ∧ b < W.heap.size ∧ ∀ i, i < len → W.cell? ⟨b, off + i * 2, none⟩ = some (.bool (q i).s) ∧ W.cell? ⟨b, off + i * 2 + 1, none⟩ = some (.slice (q i).a (q i).n (q i).c)
theorem IntsAt.below {W W' : World} {a : Option Addr} {len : Nat} {q : Nat → IV} (h : IntsAt W a len q) (hb : Below W.heap.size W W') : IntsAt W' a len q := fun hn => by
  obtain ⟨b, off, e, hl, hc⟩ := h hn
  exact ⟨b, off, e, Nat.lt_of_lt_of_le hl hb.size, fun i hi => ⟨below_cell hb (hc i hi).1, below_cell hb (hc i hi).2⟩⟩

set_option maxRecDepth 100000 in
set_option maxHeartbeats 4000000 in
theorem values1_is (D : Nat) (r : Loop) (w W1 : World) (Bs : Nat) (a : Option Addr) (len cap : Nat) (q : Nat → IV) (J : List IV → World → Prop)
    (hbel : ∀ s W, J s W → Below w.heap.size w W) (hJb : ∀ s W W', J s W → Below W.heap.size W W' → J s W')
    (hBs : w.cell? ⟨Bs, 0, none⟩ = some (.slice a len cap)) (hI : IntsAt w a len q) (hq : ∀ i, i < len → (q i).ok w) (hcap : len ≤ cap) (hl : len ≤ 8589934592) (hw : wsum (upq q len) ≤ 1099511627776)
    (hJ0 : J [] W1) (hk : Bk D r W1)
    (hY : ∀ s x W, Bk D r W → J s W → (x.ok W ∧ wsum (s ++ [x]) ≤ 1099511627776) → YieldAt Fence.wide 1 Tryz.prog (D + 1) #[.agg #[.bool x.s, .slice x.a x.n x.c]] W fun e W' => e = .returned (.bool true) ∧ Bk D r W' ∧ J (s ++ [x]) W' ∧ True) :
    CallsIn Fence.wide 2 Tryz.prog 42 #[.func (.yield (D + 1)) #[] #[], .pointer (some ⟨Bs, 0, none⟩)] W1 fun e W' => (∃ v, e = .returned v) ∧ Bk D r W' ∧ J (upq q len) W' := by
  have c1 := below_cell (hbel [] W1 hJ0) hBs
  refine callsIn_of_wp Tryz.func42 rfl trivial ?_ rfl
  simp only [Tryz.ntmps42, List.size_toArray, List.length_cons, List.length_nil, Nat.reduceAdd, Nat.reduceSub, Array.replicate_succ, Array.replicate_zero, List.push_toArray, List.append_toArray, List.nil_append, List.cons_append]
  have HY := hide' hY
  have HB := hide' hbel
  have HJ := hide' hJb
  have HQ := hide' hq
  clear hY hbel hJb hq
  gi_wp2
  gi_loopw [7] (fun i wr => ∃ k : Nat, k ≤ len ∧ i = .int .i64 k ∧ J (upq q k) wr ∧ Bk D r wr) (fun i _ => len - (intOf i).toNat)
  case atStart => exact ⟨0, Nat.zero_le _, rfl, hJ0, hk⟩
  case round =>
    obtain ⟨k, hkl, rfl, hJs, hkr⟩ := hrel
    by_cases hlt : k < len
    · have hb := HB.out _ _ hJs
      obtain ⟨b, off, rfl, hbl, hc⟩ := hI (by omega)
      obtain ⟨y0, y1⟩ := hc k hlt
      have okk := HQ.out k hlt
      replace y0 := below_cell hb y0
      replace y1 := below_cell hb y1
      clear hc hI
      have b4 : Below wr.heap.size wr (wr.alloc (.cells #[.bool (q k).s, .slice (q k).a (q k).n (q k).c] 25)) := (Below.refl wr.heap.size wr).alloc (Nat.le_refl _) _
      have hJ4 := HJ.out _ _ _ hJs b4
      have hk4 := hkr.below b4
      have hb4 := HB.out _ _ hJ4
      obtain ⟨fn, tmps, assign, body, hy, hR⟩ := HY.out (upq q k) (q k) _ hk4 hJ4 ⟨⟨okk.1.later hb4, okk.2⟩, by rw [← upq_succ]; exact Nat.le_trans (upq_wsum q hlt) hw⟩
      gi_wp2
      refine hR.mono ?_
      rintro e W5 ⟨rfl, hk5, hJ5, _⟩
      gi_wp2
      go_roundw
      case rel => exact ⟨k + 1, by omega, by simp, by rw [upq_succ]; exact hJ5, hk5⟩
      case measure => simp [intOf]; omega
    · obtain rfl : k = len := by omega
      gi_wp2
      go_end0
      exact ⟨⟨_, rfl⟩, hkr, hJs⟩
/-- how long convergents are -/
theorem cv_bd {Z2 Z0 : Int} {s : Bool} {X n k : Nat} (h2 : am Z2 < BB ^ k) (h0 : am Z0 < BB ^ k) (hX : X < BB ^ n) : am (Z2 * sg s X + Z0) < BB ^ (k + (n + 1)) := by
  have h3 : am (Z2 * sg s X + Z0) ≤ am Z2 * X + am Z0 := by
    refine Nat.le_trans (am_add _ _) ?_
    rw [am_mul, am_sg]
    exact Nat.le_refl _
  have h4 : am Z2 * X ≤ BB ^ k * BB ^ n := Nat.mul_le_mul (by omega) (by omega)
  have h5 : BB ^ k ≤ BB ^ k * BB ^ n := Nat.le_mul_of_pos_right _ (BBp n)
  have h6 : 0 < BB ^ k * BB ^ n := Nat.mul_pos (BBp k) (BBp n)
  rw [show k + (n + 1) = k + n + 1 from rfl, Nat.pow_succ, Nat.pow_add]
  have h7 : BB ^ k * BB ^ n * 2 ≤ BB ^ k * BB ^ n * BB := Nat.mul_le_mul_left _ (by rw [BB_eq]; omega)
  omega

/-- the loop's state: the variable at B holds the convergents of what has come -/
structure JV (B n₀ : Nat) (w0 : World) (s : List IV) (W : World) : Prop where
  ex : ∃ (Z0 Z1 Z2 Z3 : Int) (p0 p1 p2 p3 : Option Addr), cvg (s.map IV.val) ((0, 1), (1, 0)) = ((Z0, Z1), (Z2, Z3)) ∧
    Blk W B #[.bool (ng Z0), .slice p0 (ln (am Z0)) (ln (am Z0)), .bool (ng Z1), .slice p1 (ln (am Z1)) (ln (am Z1)), .bool (ng Z2), .slice p2 (ln (am Z2)) (ln (am Z2)), .bool (ng Z3), .slice p3 (ln (am Z3)) (ln (am Z3))] 71 ∧
    Seg W p0 (am Z0) (ln (am Z0)) ∧ Seg W p1 (am Z1) (ln (am Z1)) ∧ Seg W p2 (am Z2) (ln (am Z2)) ∧ Seg W p3 (am Z3) (ln (am Z3)) ∧
    am Z0 < BB ^ (1 + wsum s) ∧ am Z1 < BB ^ (1 + wsum s) ∧ am Z2 < BB ^ (1 + wsum s) ∧ am Z3 < BB ^ (1 + wsum s)
  res : Blk W n₀ #[.bool false, .slice none 0 0, .slice none 0 0] 27
  bel : Below n₀ w0 W
  le : n₀ < B
theorem JV.lt {B n₀ : Nat} {w0 W : World} {s : List IV} (h : JV B n₀ w0 s W) : B < W.heap.size := by
  obtain ⟨_, _, _, _, _, _, _, _, _, hb, _⟩ := h.ex
  exact hb.lt
theorem JV.below {B n₀ : Nat} {w0 W W' : World} {s : List IV} (h : JV B n₀ w0 s W) (hb : Below W.heap.size W W') : JV B n₀ w0 s W' := by
  obtain ⟨Z0, Z1, Z2, Z3, p0, p1, p2, p3, e, hB, s0, s1, s2, s3, bd⟩ := h.ex
  refine ⟨⟨Z0, Z1, Z2, Z3, p0, p1, p2, p3, e, hB.later hb, s0.later hb, s1.later hb, s2.later hb, s3.later hb, bd⟩, h.res.later hb, h.bel.trans (hb.mono ?_), h.le⟩
  have := h.lt
  have := h.le
  omega
theorem JV.put {B n₀ D : Nat} {w0 W : World} {s : List IV} {r : Loop} (h : JV B n₀ w0 s W) (hk : Bk D r W) (hD : n₀ ≤ D + 1) (r' : Loop) : JV B n₀ w0 s (W.putObj (D + 1) (.loop r')) := by
  obtain ⟨Z0, Z1, Z2, Z3, p0, p1, p2, p3, e, hB, s0, s1, s2, s3, bd⟩ := h.ex
  exact ⟨⟨Z0, Z1, Z2, Z3, p0, p1, p2, p3, e, cells_putLoop hB hk r', s0.putLoop hk r', s1.putLoop hk r', s2.putLoop hk r', s3.putLoop hk r', bd⟩, cells_putLoop h.res hk r', below_putLoop h.bel hk hD _, h.le⟩
theorem Blk.putLoop {W : World} {D c : Nat} {r : Loop} {cur : Array Value} {t : TypeId} (h : Blk W c cur t) (hk : Bk D r W) (r' : Loop) : Blk (W.putObj (D + 1) (.loop r')) c cur t := cells_putLoop h hk r'

theorem Blk.set3 {c : Nat} {W : World} {u0 u1 u2 : Value} {t : TypeId} (h : Blk W c #[u0, u1, u2] t) (v0 v1 v2 : Value) :
    Ch c W (((W.setCell ⟨c, 0, none⟩ v0).setCell ⟨c, 1, none⟩ v1).setCell ⟨c, 2, none⟩ v2) ∧ Blk (((W.setCell ⟨c, 0, none⟩ v0).setCell ⟨c, 1, none⟩ v1).setCell ⟨c, 2, none⟩ v2) c #[v0, v1, v2] t := by
  refine ⟨((Ch.set v0).trans (Ch.set v1)).trans (Ch.set v2), ?_⟩
  simp [Blk, World.setCell, Array.getElem?_modify, show W.heap[c]? = _ from h]
theorem Blk.putDfr {W : World} {D c : Nat} {r : Loop} {cur : Array Value} {t : TypeId} (h : Blk W c cur t) (hk : Bk D r W) (o : Obj) : Blk (W.putObj D o) c cur t := cells_putDfr h hk o

set_option maxRecDepth 100000 in
set_option maxHeartbeats 8000000 in
theorem value_is (w : World) (Bs : Nat) (a : Option Addr) (len cap : Nat) (q : Nat → IV) (hBs : w.cell? ⟨Bs, 0, none⟩ = some (.slice a len cap)) (hI : IntsAt w a len q) (hq : ∀ i, i < len → (q i).ok w) (hcap : len ≤ cap) (hl : len ≤ 8589934592) (hw : wsum (upq q len) ≤ 1099511627776) :
    Calls Tryz.prog 23 #[.func (.func 42) #[] #[.pointer (some ⟨Bs, 0, none⟩)]] w fun e w' => ∃ P Q pa pb, cpq ((upq q len).map IV.val) = (P, Q) ∧ e = .returned (.agg #[.bool (ng P), .slice pa (ln (am P)) (ln (am P)), .slice pb (ln (am Q)) (ln (am Q))]) ∧ Below w.heap.size w w' ∧ Seg w' pa (am P) (ln (am P)) ∧ Seg w' pb (am Q) (ln (am Q)) := by
  obtain ⟨O, hO⟩ : ∃ O : Int, O = 0 := ⟨_, rfl⟩
  obtain ⟨I, hI1⟩ : ∃ I : Int, I = 1 := ⟨_, rfl⟩
  have GB := hide' (beginning_is O I hO hI1 (w.alloc (.cells #[.bool false, .slice none 0 0, .slice none 0 0] 27)))
  have bA := below_alloc (w := w) (.cells #[.bool false, .slice none 0 0, .slice none 0 0] 27)
  have qR := Blk.new w #[.bool false, .slice none 0 0, .slice none 0 0] 27
  have HI := hide' hI
  have HQ := hide' hq
  have HW := hide' hw
  have HB := hide' hBs
  have HO := hide' (And.intro hO hI1)
  clear hI hq hw hBs hO hI1
  refine (callsIn_wide (n := 3)).1 ?_
  refine callsIn_of_wp_marks Tryz.func23 rfl trivial ?_ rfl
  simp only [Tryz.ntmps23, List.size_toArray, List.length_cons, List.length_nil, Nat.reduceAdd, Nat.reduceSub, Array.replicate_succ, Array.replicate_zero, List.push_toArray, List.append_toArray, List.nil_append, List.cons_append]
  gi_wp2_with (refine ⟨trivial, ?_⟩; gi_at_call 39; refine (callsIn_wide.2 GB.out).mono ?_; rintro e w1 ⟨p0, p1, p2, p3, rfl, b1, k0, k1, k2, k3⟩)
  have b2 := below_alloc (w := w1) (.cells #[.bool (ng O), .slice p0 (ln (am O)) (ln (am O)), .bool (ng I), .slice p1 (ln (am I)) (ln (am I)), .bool (ng I), .slice p2 (ln (am I)) (ln (am I)), .bool (ng O), .slice p3 (ln (am O)) (ln (am O))] 71)
  have bW := (bA.trans (b1.mono bA.size))
  have bX := bW.trans (b2.mono bW.size)
  have hJ0 : JV w1.heap.size w.heap.size w [] (w1.alloc (.cells #[.bool (ng O), .slice p0 (ln (am O)) (ln (am O)), .bool (ng I), .slice p1 (ln (am I)) (ln (am I)), .bool (ng I), .slice p2 (ln (am I)) (ln (am I)), .bool (ng O), .slice p3 (ln (am O)) (ln (am O))] 71)) := by
    obtain ⟨hO, hI1⟩ := HO.out
    refine ⟨⟨O, I, I, O, p0, p1, p2, p3, by rw [hO, hI1]; rfl, Blk.new w1 _ _, k0.later b2, k1.later b2, k2.later b2, k3.later b2, ?_⟩, (qR.later b1).later b2, bX, Nat.lt_of_lt_of_le (by simp) b1.size⟩
    subst hO
    subst hI1
    have e1 : (am 1 : Nat) = 1 := rfl
    have e0 : (am 0 : Nat) = 0 := rfl
    rw [e1, e0]
    simp [wsum, BB_eq]
  obtain ⟨W0, hW0⟩ : ∃ W0, w1.alloc (.cells #[.bool (ng O), .slice p0 (ln (am O)) (ln (am O)), .bool (ng I), .slice p1 (ln (am I)) (ln (am I)), .bool (ng I), .slice p2 (ln (am I)) (ln (am I)), .bool (ng O), .slice p3 (ln (am O)) (ln (am O))] 71) = W0 := ⟨_, rfl⟩
  have hsz : W0.heap.size = w1.heap.size + 1 := by rw [← hW0]; simp
  rw [hW0] at hJ0 bX ⊢
  have hle := hJ0.le
  clear hW0 b2 k0 k1 k2 k3 GB qR bA b1 bW
  refine range_all (gf := 42) (lb := #[.pointer (some ⟨Bs, 0, none⟩)]) rfl (enters_of Tryz.func42 (by kernel_rfl) rfl) (fun x : IV => #[.agg #[.bool x.s, .slice x.a x.n x.c]]) (fun _ => rfl)
    (JV w1.heap.size w.heap.size w) (fun s x W => x.ok W ∧ wsum (s ++ [x]) ≤ 1099511627776) (fun _ _ => True)
    (fun s x a' V => JV w1.heap.size w.heap.size w s V ∧ x.ok V ∧ wsum (s ++ [x]) ≤ 1099511627776 ∧ ∃ Bx, Blk V Bx #[.bool x.s, .slice x.a x.n x.c] 25 ∧ a' = { tmps := #[.func (.func 42) #[] #[.pointer (some ⟨Bs, 0, none⟩)], undef, .pointer (some ⟨w.heap.size, 0, none⟩), .pointer (some ⟨w1.heap.size, 0, none⟩), .pointer (some ⟨Bx, 0, none⟩), .agg #[.bool (ng O), .slice p0 (ln (am O)) (ln (am O)), .bool (ng I), .slice p1 (ln (am I)) (ln (am I)), .bool (ng I), .slice p2 (ln (am I)) (ln (am I)), .bool (ng O), .slice p3 (ln (am O)) (ln (am O))], .func (.func 42) #[] #[.pointer (some ⟨Bs, 0, none⟩)], .agg #[.bool x.s, .slice x.a x.n x.c], undef, undef, undef, undef, undef, undef], defers := [] })
    (fun s W r r' hk h => h.put hk (by omega) r') ?hA (fun W r r' hk => trivial) (fun A B C h k => trivial) ?assign ?body ?iter
  case hA =>
    rintro s x a' W r r' hk ⟨hj, hs, hl, Bx, hb, rfl⟩
    exact ⟨hj.put hk (by omega) r', ⟨hs.1.putLoop hk r', hs.2⟩, hl, Bx, hb.putLoop hk r', rfl⟩
  case assign =>
    rintro s x W r K hk hj ⟨hs, hl⟩ hK
    have b1 := (Below.refl W.heap.size W).alloc (Nat.le_refl _) (.cells #[.bool x.s, .slice x.a x.n x.c] 25)
    have hK' := hK _ _ b1 trivial ⟨hj.below b1, ⟨hs.1.later b1, hs.2⟩, hl, W.heap.size, Blk.new W _ _, rfl⟩
    clear hK
    gi_wp2
    exact hK'
  case body =>
    rintro s x a' V r hk ⟨hj, hs, hl, Bx, hb, rfl⟩
    obtain ⟨Z0, Z1, Z2, Z3, p0, p1, p2, p3, e, hB, s0, s1, s2, s3, d0, d1, d2, d3⟩ := hj.ex
    rw [wsum_snoc] at hl
    have l0 := ln_le_of_lt d0
    have l1 := ln_le_of_lt d1
    have l2 := ln_le_of_lt d2
    have l3 := ln_le_of_lt d3
    have GL := hide' (longer_is Z0 Z1 Z2 Z3 p0 p1 p2 p3 x.s x.a x.n x.c x.X _ _ V s0 (by omega) s1 (by omega) s2 (by omega) s3 (by omega) hs.2.1 (by have := hs.2.2; omega) hs.1 rfl rfl)
    obtain ⟨M2, hM2⟩ : ∃ M, Z2 * sg x.s x.X + Z0 = M := ⟨_, rfl⟩
    obtain ⟨M3, hM3⟩ : ∃ M, Z3 * sg x.s x.X + Z1 = M := ⟨_, rfl⟩
    have f2 := cv_bd (s := x.s) d2 d0 hs.1.1
    have f3 := cv_bd (s := x.s) d3 d1 hs.1.1
    rw [hM2] at GL f2
    rw [hM3] at GL f3
    have HF := hide' (And.intro f2 f3)
    have HD := hide' (And.intro d2 d3)
    have HE := hide' e
    have HM := hide' (And.intro hM2 hM3)
    clear f2 f3 d0 d1 d2 d3 e hM2 hM3 l0 l1 l2 l3
    have x0 := hB.cell 0
    have x1 := hB.cell 1
    have x2 := hB.cell 2
    have x3 := hB.cell 3
    have x4 := hB.cell 4
    have x5 := hB.cell 5
    have x6 := hB.cell 6
    have x7 := hB.cell 7
    have y0 := hb.cell 0
    have y1 := hb.cell 1
    simp only [List.getElem?_toArray, List.getElem?_cons_zero, List.getElem?_cons_succ] at x0 x1 x2 x3 x4 x5 x6 x7 y0 y1
    gi_wp2_with (refine ⟨trivial, ?_⟩; gi_at_call 40; refine (CallsIn.inRound (W0.heap.size + 1) (callsIn_wide.2 GL.out)).mono ?_; rintro e w5 ⟨pa, pb, rfl, b5, ka, kb⟩; have hB5 := hB.later b5; have v0 := hB5.cell 0; have v1 := hB5.cell 1; have v2 := hB5.cell 2; have v3 := hB5.cell 3; have v4 := hB5.cell 4; have v5 := hB5.cell 5; have v6 := hB5.cell 6; have v7 := hB5.cell 7; have fz := fun o => hB5.frozen o; simp only [List.getElem?_toArray, List.getElem?_cons_zero, List.getElem?_cons_succ] at v0 v1 v2 v3 v4 v5 v6 v7)
    obtain ⟨c9, q9⟩ := hB5.set8 (.bool (ng Z2)) (.slice p2 (ln (am Z2)) (ln (am Z2))) (.bool (ng Z3)) (.slice p3 (ln (am Z3)) (ln (am Z3))) (.bool (ng M2)) (.slice pa (ln (am M2)) (ln (am M2))) (.bool (ng M3)) (.slice pb (ln (am M3)) (ln (am M3)))
    have hno := hB5.no (by simp)
    obtain ⟨hM2, hM3⟩ := HM.out
    obtain ⟨f2, f3⟩ := HF.out
    obtain ⟨d2, d3⟩ := HD.out
    have hjl := hj.lt
    have b5n := b5.mono (show w.heap.size ≤ V.heap.size by omega)
    refine ⟨fun r h => (h.below b5).ch c9 hB5, trivial, ⟨⟨Z2, Z3, M2, M3, p2, p3, pa, pb, ?_, q9, (s2.later b5).ch c9 hno, (s3.later b5).ch c9 hno, ka.ch c9 hno, kb.ch c9 hno, ?_, ?_, ?_, ?_⟩, (hj.res.later b5).ch c9 (by omega), hj.bel.trans (b5n.trans (c9.below (by omega))), hle⟩⟩
    · have e9 := HE.out
      unfold cvg at e9 ⊢
      rw [List.map_append, List.foldl_append, e9]
      simp only [List.map_cons, List.map_nil, List.foldl_cons, List.foldl_nil, cst2, IV.val]
      rw [hM2, hM3]
    · rw [wsum_snoc]; exact Nat.lt_of_lt_of_le d2 (pow_mono (by omega))
    · rw [wsum_snoc]; exact Nat.lt_of_lt_of_le d3 (pow_mono (by omega))
    · rw [wsum_snoc, ← Nat.add_assoc]; exact f2
    · rw [wsum_snoc, ← Nat.add_assoc]; exact f3
  case iter =>
    intro r W1 hk hW1 hY
    have b1 : Below W0.heap.size W0 W1 := by
      rw [hW1]
      exact ((Below.refl W0.heap.size W0).alloc (Nat.le_refl _) _).alloc (by simp) _
    refine (values1_is W0.heap.size r w W1 Bs a len cap q (JV w1.heap.size w.heap.size w) (fun s W h => h.bel) (fun s W W' h hb => h.below hb) HB.out HI.out HQ.out hcap hl HW.out (hJ0.below b1) hk hY).mono ?_
    rintro e W2 ⟨he, hk2, hj⟩
    refine ⟨he, hk2, fun r' => ?_⟩
    have hj2 := hj.put hk2 (by omega) r'
    have hk3 := hk2.put r'
    generalize W2.putObj (W0.heap.size + 1) (.loop r') = W3 at hj2 hk3
    obtain ⟨Z0, Z1, Z2, Z3, q0, q1, q2, q3, e9, hB, s0, s1, s2, s3, _⟩ := hj2.ex
    have GR := hide' (frat_is Z2 Z3 q2 q3 W3)
    have HE := hide' e9
    clear e9 hj hY
    have x0 := hB.cell 0
    have x1 := hB.cell 1
    have x2 := hB.cell 2
    have x3 := hB.cell 3
    have x4 := hB.cell 4
    have x5 := hB.cell 5
    have x6 := hB.cell 6
    have x7 := hB.cell 7
    simp only [List.getElem?_toArray, List.getElem?_cons_zero, List.getElem?_cons_succ] at x0 x1 x2 x3 x4 x5 x6 x7
    gi_wp2_with (refine ⟨trivial, ?_⟩; gi_at_call 41; refine (callsIn_wide.2 GR.out).mono ?_; rintro e w6 ⟨rfl, b6⟩; have hR6 := hj2.res.later b6; have v0 := hR6.cell 0; have v1 := hR6.cell 1; have v2 := hR6.cell 2; have fz := fun o => hR6.frozen o; simp only [List.getElem?_toArray, List.getElem?_cons_zero, List.getElem?_cons_succ] at v0 v1 v2)
    obtain ⟨c9, q9⟩ := hR6.set3 (.bool (ng Z2)) (.slice q2 (ln (am Z2)) (ln (am Z2))) (.slice q3 (ln (am Z3)) (ln (am Z3)))
    have hno := hR6.no (by simp)
    rw [hsz] at hk3
    have hk7 := (hk3.below b6).ch c9 hR6
    have t2 := ((s2.later b6).ch c9 hno).putDfr hk7 (.deferred none)
    have t3 := ((s3.later b6).ch c9 hno).putDfr hk7 (.deferred none)
    have hjl := hj2.lt
    have b6n := b6.mono (show w.heap.size ≤ W3.heap.size by omega)
    have b7 := below_putDfr (hj2.bel.trans (b6n.trans (c9.below (Nat.le_refl _)))) (show w.heap.size ≤ w1.heap.size + 1 by omega) (.deferred none)
    have q8 := q9.putDfr hk7 (.deferred none)
    have z0 := q8.cell 0
    have z1 := q8.cell 1
    have z2 := q8.cell 2
    simp only [List.getElem?_toArray, List.getElem?_cons_zero, List.getElem?_cons_succ] at z0 z1 z2
    refine ⟨by simp, .inl ⟨_, _, rfl, run_takeDeferred hk7.dfr, ?_⟩⟩
    refine ⟨.agg #[.bool (ng Z2), .slice q2 (ln (am Z2)) (ln (am Z2)), .slice q3 (ln (am Z3)) (ln (am Z3))], ?_, Z2, Z3, q2, q3, ?_, rfl, b7, t2, t3⟩
    · rw [results_cell rfl]
      clear v0 v1 v2 fz
      go_simp
    · rw [← cvg_begun, HE.out]
end Go.Proofs.YtpifbbopcngdhaaGreatDoor
