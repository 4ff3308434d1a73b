/-
  Layer 5: At by numbers; what the laws of Small say.
-/
import Derived.Test.YtnifelfecildmaaGreatDoorThr3
import Derived.Test.YtnifelfecildmaaGreatDoorWG3
import Derived.Laws.OwnMore
import Derived.Test.YtnifelfecildmaaGreatDoorWD2
import Derived.Test.YtnifelfecildmaaGreatDoorWQD
import Derived.Test.YtnifelfecildmaaGreatDoorWQ9
namespace Go.Proofs.YtnifelfecildmaaGreatDoor
open Go.RowKit
set_option linter.unusedVariables false

def stM (w : World) (c o : Nat) : List Value → World
  | [] => w
  | u :: us => stM (w.setCell ⟨c, o, none⟩ u) c (o + 1) us
def cellsM (w : World) (c o : Nat) (zs : List Value) : Prop := ∀ i z, zs[i]? = some z → w.cell? ⟨c, o + i, none⟩ = some z
theorem set_farM {w : World} {c k b q : Nat} {u x : Value} (h : w.cell? ⟨b, q, none⟩ = some x) (hne : c = b → k ≠ q) : (w.setCell ⟨c, k, none⟩ u).cell? ⟨b, q, none⟩ = some x := by
  rw [World.cell?_setCell_other _ _ _ _ (fun e => by simp only [Addr.mk.injEq, and_true] at e; exact hne e.1 e.2)]
  exact h
theorem cellsM.tail {w : World} {c o : Nat} {z : Value} {zs : List Value} (h : cellsM w c o (z :: zs)) : cellsM w c (o + 1) zs := fun i y hy => by
  have := h (i + 1) y (by simpa using hy)
  rwa [show o + (i + 1) = o + 1 + i by omega] at this
theorem cellsM.head {w : World} {c o : Nat} {z : Value} {zs : List Value} (h : cellsM w c o (z :: zs)) : w.cell? ⟨c, o, none⟩ = some z := h 0 z rfl
theorem cellsM.set {w : World} {c o k : Nat} {u : Value} {zs : List Value} (h : cellsM w c o zs) (hk : k < o) : cellsM (w.setCell ⟨c, k, none⟩ u) c o zs := fun i z hz => set_farM (h i z hz) (fun _ => by omega)
theorem stM_seg : ∀ (us zs : List Value) (w : World) (c o : Nat), us.length = zs.length → cellsM w c o zs → (∀ z ∈ zs, ∀ i, z ≠ .int .u32 i) → ∀ (p : Option Addr) (X n : Nat), Seg w p X n → Seg (stM w c o us) p X n
  | [], [], w, c, o, _, _, _ => fun _ _ _ h => h
  | u :: us, z :: zs, w, c, o, hl, hc, hz => fun p X n h => stM_seg us zs _ c (o + 1) (by simpa using hl) (hc.tail.set (by omega)) (fun y hy => hz y (List.mem_cons_of_mem _ hy)) p X n (seg_setT h hc.head (hz z List.mem_cons_self))
  | [], z :: zs, w, c, o, hl, _, _ => by simp at hl
  | u :: us, [], w, c, o, hl, _, _ => by simp at hl
theorem stM_out : ∀ (us : List Value) (w : World) (c o b q : Nat) (x : Value), (c = b → q < o ∨ o + us.length ≤ q) → w.cell? ⟨b, q, none⟩ = some x → (stM w c o us).cell? ⟨b, q, none⟩ = some x
  | [], w, c, o, b, q, x, _, h => h
  | u :: us, w, c, o, b, q, x, hne, h => stM_out us _ c (o + 1) b q x (fun e => by have := hne e; simp only [List.length_cons] at this; omega) (set_farM h (fun e => by have := hne e; simp only [List.length_cons] at this; omega))
theorem stM_at : ∀ (us zs : List Value) (w : World) (c o : Nat), us.length = zs.length → cellsM w c o zs → cellsM (stM w c o us) c o us
  | [], _, w, c, o, _, _ => fun i z h => by simp at h
  | u :: us, z :: zs, w, c, o, hl, hc => fun i y hy => by
    cases i with
    | zero =>
      obtain rfl : u = y := by simpa using hy
      exact stM_out us _ c (o + 1) c o u (fun _ => by omega) (World.cell?_setCell_same _ _ _ hc.head)
    | succ i =>
      have := stM_at us zs _ c (o + 1) (by simpa using hl) (hc.tail.set (k := o) (u := u) (by omega)) i y (by simpa using hy)
      rwa [show o + (i + 1) = o + 1 + i by omega]
  | u :: us, [], w, c, o, hl, _ => by simp at hl
theorem stM_bel : ∀ (us : List Value) (w w' : World) (B c o : Nat), Below B w w' → B ≤ c → Below B w (stM w' c o us)
  | [], w, w', B, c, o, h, _ => h
  | u :: us, w, w', B, c, o, h, hc => stM_bel us w _ B c (o + 1) (h.setCell hc _) hc
theorem stM_row : ∀ (us : List Value) (w : World) (c o b : Nat), Row w b → Row (stM w c o us) b
  | [], w, c, o, b, h => h
  | u :: us, w, c, o, b, h => stM_row us _ c (o + 1) b (h.setCell _ _)
theorem stM_size : ∀ (us : List Value) (w : World) (c o : Nat), (stM w c o us).heap.size = w.heap.size
  | [], w, c, o => rfl
  | u :: us, w, c, o => by show (stM _ c (o + 1) us).heap.size = _; rw [stM_size us]; simp [World.setCell]
end Go.Proofs.YtnifelfecildmaaGreatDoor

namespace Go.Proofs.YtnifelfecildmaaGreatDoor
open Go.RowKit
set_option linter.unusedVariables false
set_option linter.unusedSimpArgs false
/-- its twelve cells -/
def GapV.cells (g : GapV) : List Value := [.bool g.lo.a.s, .slice g.lo.a.a g.lo.a.n g.lo.a.c, .slice g.lo.a.b g.lo.a.m g.lo.a.e, .bool g.lo.b.s, .slice g.lo.b.a g.lo.b.n g.lo.b.c, .slice g.lo.b.b g.lo.b.m g.lo.b.e, .bool g.hi.a.s, .slice g.hi.a.a g.hi.a.n g.hi.a.c, .slice g.hi.a.b g.hi.a.m g.hi.a.e, .bool g.hi.b.s, .slice g.hi.b.a g.hi.b.n g.hi.b.c, .slice g.hi.b.b g.hi.b.m g.hi.b.e]
theorem GapV.lies_iff (g : GapV) (w : World) (b off : Nat) : g.lies w b off ↔ cellsM w b off g.cells := by
  constructor
  · rintro ⟨h0, h1, h2, h3, h4, h5, h6, h7, h8, h9, h10, h11⟩ i z hz
    match i, hz with
    | 0, hz => obtain rfl := Option.some.inj hz; exact h0
    | 1, hz => obtain rfl := Option.some.inj hz; exact h1
    | 2, hz => obtain rfl := Option.some.inj hz; exact h2
    | 3, hz => obtain rfl := Option.some.inj hz; exact h3
    | 4, hz => obtain rfl := Option.some.inj hz; exact h4
    | 5, hz => obtain rfl := Option.some.inj hz; exact h5
    | 6, hz => obtain rfl := Option.some.inj hz; exact h6
    | 7, hz => obtain rfl := Option.some.inj hz; exact h7
    | 8, hz => obtain rfl := Option.some.inj hz; exact h8
    | 9, hz => obtain rfl := Option.some.inj hz; exact h9
    | 10, hz => obtain rfl := Option.some.inj hz; exact h10
    | 11, hz => obtain rfl := Option.some.inj hz; exact h11
    | i + 12, hz => simp [GapV.cells] at hz
  · intro h
    exact ⟨h 0 _ rfl, h 1 _ rfl, h 2 _ rfl, h 3 _ rfl, h 4 _ rfl, h 5 _ rfl, h 6 _ rfl, h 7 _ rfl, h 8 _ rfl, h 9 _ rfl, h 10 _ rfl, h 11 _ rfl⟩
theorem GapV.cells_no (g : GapV) : ∀ z ∈ g.cells, ∀ i, z ≠ .int .u32 i := by
  intro z hz i
  simp only [GapV.cells, List.mem_cons, List.not_mem_nil, or_false] at hz
  rcases hz with rfl | rfl | rfl | rfl | rfl | rfl | rfl | rfl | rfl | rfl | rfl | rfl <;> simp
theorem GapV.cells_length (g : GapV) : g.cells.length = 12 := rfl
/-- a gap stored into a list of gaps -/
theorem gaps_put {w : World} {gb n j : Nat} {k : Nat → GapV} (g : GapV) (h : GapsAt w (some ⟨gb, 0, none⟩) n k) (hj : j < n) :
    GapsAt (stM w gb (j * 12) g.cells) (some ⟨gb, 0, none⟩) n (fun i => if i = j then g else k i) ∧ ∀ p X m, Seg w p X m → Seg (stM w gb (j * 12) g.cells) p X m := by
  obtain ⟨b, off, e, hl, hc⟩ := h (by omega)
  have e := Option.some.inj e
  simp only [Addr.mk.injEq, and_true] at e
  obtain ⟨rfl, rfl⟩ := e
  have hcj := ((k j).lies_iff w gb (0 + j * 12)).1 (hc j hj)
  rw [Nat.zero_add] at hcj
  refine ⟨fun _ => ⟨gb, 0, rfl, by rw [stM_size]; exact hl, fun i hi => ?_⟩, stM_seg _ (k j).cells w gb (j * 12) rfl hcj (k j).cells_no⟩
  rw [Nat.zero_add]
  by_cases he : i = j
  · subst he
    simp only [if_true]
    exact (g.lies_iff _ _ _).2 (stM_at _ (k i).cells w gb (i * 12) rfl hcj)
  · simp only [if_neg he]
    refine ((k i).lies_iff _ _ _).2 fun t z hz => ?_
    have ht : t < 12 := by have := (List.getElem?_eq_some_iff.1 hz).1; rwa [GapV.cells_length] at this
    have hci := ((k i).lies_iff w gb (0 + i * 12)).1 (hc i hi) t z hz
    rw [Nat.zero_add] at hci
    exact stM_out _ w gb (j * 12) gb _ z (fun _ => by rw [GapV.cells_length]; omega) hci
/-- a list of gaps in a row, the first j of them with their numbers -/
def GapsO (w : World) (gb n j : Nat) (k' k : Nat → GapV) : Prop := GapsAt w (some ⟨gb, 0, none⟩) n k' ∧ ∀ i, i < j → (k' i).ok w ∧ (k' i).tiny ∧ (k' i).val = (k i).val
theorem GapsO.later {w w' : World} {gb n j : Nat} {k' k : Nat → GapV} (h : GapsO w gb n j k' k) (hb : Below w.heap.size w w') : GapsO w' gb n j k' k := ⟨h.1.later hb, fun i hi => ⟨(h.2 i hi).1.on hb, (h.2 i hi).2⟩⟩
def zeroR : RatV := ⟨false, none, 0, 0, 0, none, 0, 0, 0⟩
def zeroG : GapV := ⟨⟨zeroR, zeroR⟩, ⟨zeroR, zeroR⟩⟩
theorem made_atG (z : Array Value) (m i j : Nat) (h : i * z.size + j < m) (hj : j < z.size) : (madeCells z m)[i * z.size + j]? = z[j]? := by
  have e : (i * z.size + j) % z.size = j := by rw [Nat.add_comm, Nat.add_mul_mod_self_right, Nat.mod_eq_of_lt hj]
  unfold madeCells
  rw [Array.getElem?_map, Array.getElem?_range, if_pos h]
  simp only [Option.map_some, e]
  rw [Array.getElem?_eq_getElem hj, getElem!_pos z j hj]
/-- a copy of it, elsewhere -/
def twD (x : DelV) (p q r t : Option Addr) : DelV := ⟨twR x.a p q, twR x.b r t⟩
theorem twinD (x : DelV) (w : World) (hx : x.ok w) : Calls Tryz.prog 21 #[.agg #[.bool x.a.s, .slice x.a.a x.a.n x.a.c, .slice x.a.b x.a.m x.a.e, .bool x.b.s, .slice x.b.a x.b.n x.b.c, .slice x.b.b x.b.m x.b.e]] w fun e w' => ∃ p q r t, e = .returned (.agg #[.bool x.a.s, .slice p x.a.n x.a.n, .slice q x.a.m x.a.m, .bool x.b.s, .slice r x.b.n x.b.n, .slice t x.b.m x.b.m]) ∧ Below w.heap.size w w' ∧ (twD x p q r t).ok w' := by
  have h1 := hx.1.2.2.1
  have h2 := hx.1.2.2.2.2.2
  have h3 := hx.2.2.2.1
  have h4 := hx.2.2.2.2.2.2
  refine (dtwin_is x.a.s x.a.a x.a.n x.a.c x.a.X x.a.b x.a.m x.a.e x.a.Y x.b.s x.b.a x.b.n x.b.c x.b.X x.b.b x.b.m x.b.e x.b.Y w hx.1.2.1 (by omega) hx.1.1 hx.1.2.2.2.2.1 (by omega) hx.1.2.2.2.1 hx.2.2.1 (by omega) hx.2.1 hx.2.2.2.2.2.1 (by omega) hx.2.2.2.2.1).mono ?_
  rintro e w1 ⟨p, q, r, t, rfl, n1, n2, n3, n4⟩
  exact ⟨p, q, r, t, rfl, n1.below, ⟨n1.seg, Nat.le_refl _, h1, n2.seg, Nat.le_refl _, h2⟩, ⟨n3.seg, Nat.le_refl _, h3, n4.seg, Nat.le_refl _, h4⟩⟩
theorem info_Gap : (Tryz.prog.info? 42).map (fun i => (i.zero, i.size, i.bytes)) = some (some (.agg #[.bool false, .slice none 0 0, .slice none 0 0, .bool false, .slice none 0 0, .slice none 0 0, .bool false, .slice none 0 0, .slice none 0 0, .bool false, .slice none 0 0, .slice none 0 0]), 12, 224) := by kernel_rfl
def zgap : Array Value := #[.bool false, .slice none 0 0, .slice none 0 0, .bool false, .slice none 0 0, .slice none 0 0, .bool false, .slice none 0 0, .slice none 0 0, .bool false, .slice none 0 0, .slice none 0 0]
theorem mk_gap {ops : Array Oper} {rest : List Oper} {o : Oper} {a : Act} {Q : Exit → Act → World → Prop} (w : World)
    (hg : o.guard = none) (l c : Operand) (hop : o.op = Op.makeSlice 22 l c) (n : Nat) (hl : a.eval l = .int .i64 n) (hc : a.eval c = .int .i64 n) (hn : n ≤ 1048576)
    (hK : ∀ w', GapsAt w' (some ⟨w.heap.size, 0, none⟩) n (fun _ => zeroG) → Row w' w.heap.size → Below w.heap.size w w' → w'.heap.size = w.heap.size + 1 → wpList Tryz.prog ops Q rest (a.put o.dst (.slice (some ⟨w.heap.size, 0, none⟩) n n)) w') :
    wpList Tryz.prog ops Q (o :: rest) a w := by
  refine wpList_plain hg fun K hK' => ?_
  obtain ⟨i0, hi0, hz0, hz1, hz2⟩ := info_parts info_Gap
  have hr := run_make (P := Tryz.prog) w 22 42 i0 _ Tryz.underlying22 hi0 hz0 .i64 .i64 n n (by omega) (Int.le_refl _) (by rw [hz2]; omega) (by omega)
  simp only [Int.toNat_natCast] at hr
  rw [hz1] at hr
  have ho := World.ownsRow_lit (e := 42) (size := 12) w (madeCells zgap (n * 12)) n (Nat.le_refl _) (by simp [maxLen]; omega) (size_madeCells _ _)
  unfold Oper.wp
  simp [execOp, hop, hl, hc, hr, Result.andThen]
  refine hK' _ _ (hK _ ?_ ?_ (below_alloc _) (Array.size_push _))
  · intro hn0
    refine ⟨w.heap.size, 0, rfl, ?_, fun i hi => ?_⟩
    · show w.heap.size < (w.heap.push _).size
      rw [Array.size_push]; omega
    · refine (zeroG.lies_iff _ _ _).2 fun t z hz => ?_
      have ht : t < 12 := (List.getElem?_eq_some_iff.1 hz).1
      have hc9 := ho.cellAt (i * 12 + t) (by omega)
      have e9 : (madeCells zgap (n * 12)).toList[i * 12 + t]? = zgap[t]? := by
        rw [Array.getElem?_toList]
        exact made_atG zgap (n * 12) i t (by show i * 12 + t < _; omega) ht
      rw [e9] at hc9
      rw [Nat.zero_add]
      have e8 : zgap[t]? = zeroG.cells[t]? := by show zgap[t]? = zgap.toList[t]?; rw [Array.getElem?_toList]
      exact (show _ = zgap[t]? from hc9).trans (e8.trans hz)
  · exact row_new w _ 42
set_option maxHeartbeats 8000000 in
set_option maxRecDepth 100000 in
theorem gaps_is (a : Option Addr) (n cap : Nat) (k : Nat → GapV) (w : World) (hA : GapsAt w a n k) (hok : ∀ i, i < n → (k i).ok w ∧ (k i).tiny) (hc : n ≤ cap) (hn : n ≤ 1048576) :
    Calls Tryz.prog 8 #[.slice a n cap] w fun e w' => ∃ a' k', e = .returned (.slice a' n n) ∧ Below w.heap.size w w' ∧ GapsAt w' a' n k' ∧ ∀ i, i < n → (k' i).ok w' ∧ (k' i).tiny ∧ (k' i).val = (k i).val := by
  have HK := hide' (fun i (hi : i < n) => hok i hi)
  have HA := hide' hA
  clear hok hA
  go_enter Tryz.func8, Tryz.ntmps8
  go_wp2_with (refine mk_gap _ (by rfl) _ _ (by rfl) n (by rfl) (by rfl) hn ?_; intro w1 G0 R0 b0 s0)
  have hgb : w.heap.size < w1.heap.size := by omega
  obtain ⟨gb, hgb2⟩ : ∃ g, w.heap.size = g := ⟨_, rfl⟩
  rw [hgb2] at G0 R0 hgb ⊢
  have hge : w.heap.size ≤ gb := by omega
  clear hgb2 s0
  go_loopw [4] (fun vi wr => ∃ j : Nat, j ≤ n ∧ vi = .int .i64 j ∧ ∃ k', GapsAt wr (some ⟨gb, 0, none⟩) n k' ∧ Row wr gb ∧ Below w.heap.size w wr ∧ ∀ i, i < j → (k' i).ok wr ∧ (k' i).tiny ∧ (k' i).val = (k i).val) (fun vi _ => n - (intOf vi).toNat)
  case atStart => exact ⟨0, Nat.zero_le _, rfl, _, G0, R0, by first | exact b0 | (simpa using b0), fun i hi => absurd hi (by omega)⟩
  case round =>
    obtain ⟨j, hj, rfl, k', hG, hR, hB, hq⟩ := hrel
    clear G0 R0 b0
    by_cases hlt : j < n
    · obtain ⟨bb, off, rfl, hb, hcell⟩ := HA.out (by omega)
      obtain ⟨gk, hgk⟩ : ∃ gk, k j = gk := ⟨_, rfl⟩
      have hcj := (hcell j hlt).later hB
      obtain ⟨hok, htn⟩ := HK.out j hlt
      rw [hgk] at hcj hok htn
      obtain ⟨d0, d1, d2, d3, d4, d5, d6, d7, d8, d9, d10, d11⟩ := hcj
      rw [Nat.add_zero] at d0
      have j0 : (0 : Int) ≤ (j : Int) := by omega
      have j1 : (j : Int) < (n : Int) := by omega
      replace hok := hok.on hB
      clear hcell
      have G1 := hide' (fun w' (hb9 : Below wr.heap.size wr w') => twinD gk.lo w' (hok.1.on hb9))
      have G2 := hide' (fun w' (hb9 : Below wr.heap.size wr w') => twinD gk.hi w' (hok.2.on hb9))
      clear hok
      have GG : GapsO wr gb n j k' k := ⟨hG, hq⟩
      clear hG hq
      have bT : Below wr.heap.size wr wr := Below.refl _ _
      go_wp2_with fail
      have bD : Below wr.heap.size wr wr.drew := (Below.refl _ _).drew
      have kd0 := below_cell bD d0
      have kd1 := below_cell bD d1
      have kd2 := below_cell bD d2
      have kd3 := below_cell bD d3
      have kd4 := below_cell bD d4
      have kd5 := below_cell bD d5
      have kd6 := below_cell bD d6
      have kd7 := below_cell bD d7
      have kd8 := below_cell bD d8
      have kd9 := below_cell bD d9
      have kd10 := below_cell bD d10
      have kd11 := below_cell bD d11
      replace bT := bT.trans (bD.mono bT.size)
      replace hB := hB.trans (bD.mono hB.size)
      replace GG := GG.later bD
      replace hR := below_row bD hR
      refine wp_region_held_drew (S := fun w' => w'.cell? ⟨bb, off + j * 12, none⟩ = some (.bool gk.lo.a.s) ∧ w'.cell? ⟨bb, off + j * 12 + 1, none⟩ = some (.slice gk.lo.a.a gk.lo.a.n gk.lo.a.c) ∧ w'.cell? ⟨bb, off + j * 12 + 2, none⟩ = some (.slice gk.lo.a.b gk.lo.a.m gk.lo.a.e) ∧ w'.cell? ⟨bb, off + j * 12 + 3, none⟩ = some (.bool gk.lo.b.s) ∧ w'.cell? ⟨bb, off + j * 12 + 4, none⟩ = some (.slice gk.lo.b.a gk.lo.b.n gk.lo.b.c) ∧ w'.cell? ⟨bb, off + j * 12 + 5, none⟩ = some (.slice gk.lo.b.b gk.lo.b.m gk.lo.b.e) ∧ w'.cell? ⟨bb, off + j * 12 + 6, none⟩ = some (.bool gk.hi.a.s) ∧ w'.cell? ⟨bb, off + j * 12 + 7, none⟩ = some (.slice gk.hi.a.a gk.hi.a.n gk.hi.a.c) ∧ w'.cell? ⟨bb, off + j * 12 + 8, none⟩ = some (.slice gk.hi.a.b gk.hi.a.m gk.hi.a.e) ∧ w'.cell? ⟨bb, off + j * 12 + 9, none⟩ = some (.bool gk.hi.b.s) ∧ w'.cell? ⟨bb, off + j * 12 + 10, none⟩ = some (.slice gk.hi.b.a gk.hi.b.n gk.hi.b.c) ∧ w'.cell? ⟨bb, off + j * 12 + 11, none⟩ = some (.slice gk.hi.b.b gk.hi.b.m gk.hi.b.e)) (by kernel_rfl) ⟨kd0, kd1, kd2, kd3, kd4, kd5, kd6, kd7, kd8, kd9, kd10, kd11⟩ (fun hHeld => ?_)
      clear kd0 kd1 kd2 kd3 kd4 kd5 kd6 kd7 kd8 kd9 kd10 kd11
      generalize wr.drew = w11 at bD GG hR bT hB hHeld ⊢
      clear bD d0 d1 d2 d3 d4 d5 d6 d7 d8 d9 d10 d11
      refine take' 0 (v := ?_) rfl (by kernel_rfl) (by kernel_rfl) (by kernel_rfl) (fun _ _ _ h => h) (Or.inl ⟨by rfl, ?_⟩) (by assumption) ?_
      rotate_left
      · intro w9 hSw
        go_simp
        first | done | with_reducible rfl
      simp only [Act.put, List.setIfInBounds_toArray, List.set_cons_zero, List.set_cons_succ]
      refine take' 1 (v := ?_) rfl (by kernel_rfl) (by kernel_rfl) (by kernel_rfl) (fun _ _ _ h => h) (Or.inl ⟨by rfl, ?_⟩) (by assumption) ?_
      rotate_left
      · intro w9 hSw
        go_simp
        first | done | with_reducible rfl
      simp only [Act.put, List.setIfInBounds_toArray, List.set_cons_zero, List.set_cons_succ]
      refine take' 2 (v := ?_) rfl (by kernel_rfl) (by kernel_rfl) (by kernel_rfl) (fun _ _ _ h => h) (Or.inl ⟨by rfl, ?_⟩) (by assumption) ?_
      rotate_left
      · intro w9 hSw
        go_simp
        first | done | with_reducible rfl
      simp only [Act.put, List.setIfInBounds_toArray, List.set_cons_zero, List.set_cons_succ]
      refine take' 3 (v := ?_) rfl (by kernel_rfl) (by kernel_rfl) (by kernel_rfl) (fun _ _ _ h => h) (Or.inl ⟨by rfl, ?_⟩) (by assumption) ?_
      rotate_left
      · intro w9 hSw
        go_simp
        first | done | with_reducible rfl
      simp only [Act.put, List.setIfInBounds_toArray, List.set_cons_zero, List.set_cons_succ]
      refine take' 4 (v := ?_) rfl (by kernel_rfl) (by kernel_rfl) (by kernel_rfl) (fun _ _ _ h => h) (Or.inl ⟨by rfl, ?_⟩) (by assumption) ?_
      rotate_left
      · intro w9 hSw
        go_simp
        first | done | with_reducible rfl
      simp only [Act.put, List.setIfInBounds_toArray, List.set_cons_zero, List.set_cons_succ]
      refine take' 5 (v := ?_) rfl (by kernel_rfl) (by kernel_rfl) (by kernel_rfl) (fun _ _ _ h => h) (Or.inl ⟨by rfl, ?_⟩) (by assumption) ?_
      rotate_left
      · intro w9 hSw
        go_simp
        first | done | with_reducible rfl
      simp only [Act.put, List.setIfInBounds_toArray, List.set_cons_zero, List.set_cons_succ]
      refine take' 6 (v := ?_) rfl (by kernel_rfl) (by kernel_rfl) (by kernel_rfl) (fun _ _ _ h => h) (Or.inl ⟨by rfl, ?_⟩) (by assumption) ?_
      rotate_left
      · intro w9 hSw
        go_simp
        first | done | with_reducible rfl
      simp only [Act.put, List.setIfInBounds_toArray, List.set_cons_zero, List.set_cons_succ]
      refine take' 8 (v := ?_) rfl (by kernel_rfl) (by kernel_rfl) (by kernel_rfl) (fun _ _ _ h => h) (Or.inl ⟨by rfl, ?_⟩) (by assumption) ?_
      rotate_left
      · intro w9 hSw
        go_simp
        first | done | with_reducible rfl
      simp only [Act.put, List.setIfInBounds_toArray, List.set_cons_zero, List.set_cons_succ]
      refine take' 9 (v := ?_) rfl (by kernel_rfl) (by kernel_rfl) (by kernel_rfl) (fun _ _ _ h => h) (Or.inl ⟨by rfl, ?_⟩) (by assumption) ?_
      rotate_left
      · intro w9 hSw
        go_simp
        first | done | with_reducible rfl
      simp only [Act.put, List.setIfInBounds_toArray, List.set_cons_zero, List.set_cons_succ]
      refine take' 10 (v := ?_) rfl (by kernel_rfl) (by kernel_rfl) (by kernel_rfl) (fun _ _ _ h => h) (Or.inl ⟨by rfl, ?_⟩) (by assumption) ?_
      rotate_left
      · intro w9 hSw
        go_simp
        first | done | with_reducible rfl
      simp only [Act.put, List.setIfInBounds_toArray, List.set_cons_zero, List.set_cons_succ]
      refine take' 11 (v := ?_) rfl (by kernel_rfl) (by kernel_rfl) (by kernel_rfl) (fun _ _ _ h => h) (Or.inl ⟨by rfl, ?_⟩) (by assumption) ?_
      rotate_left
      · intro w9 hSw
        go_simp
        first | done | with_reducible rfl
      simp only [Act.put, List.setIfInBounds_toArray, List.set_cons_zero, List.set_cons_succ]
      refine take' 12 (v := ?_) rfl (by kernel_rfl) (by kernel_rfl) (by kernel_rfl) (fun _ _ _ h => h) (Or.inl ⟨by rfl, ?_⟩) (by assumption) ?_
      rotate_left
      · intro w9 hSw
        go_simp
        first | done | with_reducible rfl
      simp only [Act.put, List.setIfInBounds_toArray, List.set_cons_zero, List.set_cons_succ]
      refine wpAnyH_ready (rs := [7]) (by kernel_rfl) (by simp) ?_
      refine cons' rfl (fun KK hKK => ?_)
      go_simp
      refine (G1.out _ bT).mono ?_
      rintro e w12 ⟨p1, q1, r1, t1, rfl, b1, h1⟩
      have bC := b1
      replace bT := bT.trans (bC.mono bT.size)
      replace hB := hB.trans (bC.mono hB.size)
      replace GG := GG.later bC
      replace hR := below_row bC hR
      replace hHeld := (⟨below_cell bC hHeld.1, below_cell bC hHeld.2.1, below_cell bC hHeld.2.2.1, below_cell bC hHeld.2.2.2.1, below_cell bC hHeld.2.2.2.2.1, below_cell bC hHeld.2.2.2.2.2.1, below_cell bC hHeld.2.2.2.2.2.2.1, below_cell bC hHeld.2.2.2.2.2.2.2.1, below_cell bC hHeld.2.2.2.2.2.2.2.2.1, below_cell bC hHeld.2.2.2.2.2.2.2.2.2.1, below_cell bC hHeld.2.2.2.2.2.2.2.2.2.2.1, below_cell bC hHeld.2.2.2.2.2.2.2.2.2.2.2⟩ : _ ∧ _ ∧ _ ∧ _ ∧ _ ∧ _ ∧ _ ∧ _ ∧ _ ∧ _ ∧ _ ∧ _)
      clear bC
      go_wp2_with fail
      clear b1
      refine hKK.out _ _ hHeld ?_
      clear hHeld
      intro hHeld
      clear hKK KK
      try simp only [Act.put, List.setIfInBounds_toArray, List.set_cons_zero, List.set_cons_succ]
      refine wpAnyH_ready (rs := [13]) (by kernel_rfl) (by simp) ?_
      refine cons' rfl (fun KK hKK => ?_)
      go_simp
      refine (G2.out _ bT).mono ?_
      rintro e w13 ⟨p2, q2, r2, t2, rfl, b2, h2⟩
      have bC := b2
      replace bT := bT.trans (bC.mono bT.size)
      replace hB := hB.trans (bC.mono hB.size)
      replace GG := GG.later bC
      replace hR := below_row bC hR
      replace hHeld := (⟨below_cell bC hHeld.1, below_cell bC hHeld.2.1, below_cell bC hHeld.2.2.1, below_cell bC hHeld.2.2.2.1, below_cell bC hHeld.2.2.2.2.1, below_cell bC hHeld.2.2.2.2.2.1, below_cell bC hHeld.2.2.2.2.2.2.1, below_cell bC hHeld.2.2.2.2.2.2.2.1, below_cell bC hHeld.2.2.2.2.2.2.2.2.1, below_cell bC hHeld.2.2.2.2.2.2.2.2.2.1, below_cell bC hHeld.2.2.2.2.2.2.2.2.2.2.1, below_cell bC hHeld.2.2.2.2.2.2.2.2.2.2.2⟩ : _ ∧ _ ∧ _ ∧ _ ∧ _ ∧ _ ∧ _ ∧ _ ∧ _ ∧ _ ∧ _ ∧ _)
      clear bC
      go_wp2_with fail
      replace h1 := h1.on b2
      clear b2
      refine hKK.out _ _ hHeld ?_
      clear hHeld
      intro hHeld
      clear hKK KK
      try simp only [Act.put, List.setIfInBounds_toArray, List.set_cons_zero, List.set_cons_succ]
      refine take' 14 (v := ?_) rfl (by kernel_rfl) (by kernel_rfl) (by kernel_rfl) (fun _ _ _ h => h) (Or.inl ⟨by rfl, ?_⟩) (by assumption) ?_
      rotate_left
      · intro w9 hSw
        go_simp
        first | done | with_reducible rfl
      simp only [Act.put, List.setIfInBounds_toArray, List.set_cons_zero, List.set_cons_succ]
      refine take' 15 (v := ?_) rfl (by kernel_rfl) (by kernel_rfl) (by kernel_rfl) (fun _ _ _ h => h) (Or.inl ⟨by rfl, ?_⟩) (by assumption) ?_
      rotate_left
      · intro w9 hSw
        go_simp
        first | done | with_reducible rfl
      simp only [Act.put, List.setIfInBounds_toArray, List.set_cons_zero, List.set_cons_succ]
      refine wpAnyH_ready (rs := [16]) (by kernel_rfl) (by simp) ?_
      refine cons' rfl (fun KK hKK => ?_)
      obtain ⟨P1, P2⟩ := gaps_put ⟨twD gk.lo p1 q1 r1 t1, twD gk.hi p2 q2 r2 t2⟩ GG.1 hlt
      obtain ⟨c9, o9, e9, l9, zq⟩ := GG.1 (by omega)
      have e9 := Option.some.inj e9
      simp only [Addr.mk.injEq, and_true] at e9
      obtain ⟨rfl, rfl⟩ := e9
      obtain ⟨z0, z1, z2, z3, z4, z5, z6, z7, z8, z9, z10, z11⟩ := zq j hlt
      clear zq
      simp only [Nat.zero_add, Nat.add_zero] at z0 z1 z2 z3 z4 z5 z6 z7 z8 z9 z10 z11
      have fz := fun o => hR.frozen o
      have P5 := stM_bel [.bool gk.lo.a.s, .slice p1 gk.lo.a.n gk.lo.a.n, .slice q1 gk.lo.a.m gk.lo.a.m, .bool gk.lo.b.s, .slice r1 gk.lo.b.n gk.lo.b.n, .slice t1 gk.lo.b.m gk.lo.b.m, .bool gk.hi.a.s, .slice p2 gk.hi.a.n gk.hi.a.n, .slice q2 gk.hi.a.m gk.hi.a.m, .bool gk.hi.b.s, .slice r2 gk.hi.b.n gk.hi.b.n, .slice t2 gk.hi.b.m gk.hi.b.m] w w13 w.heap.size gb (j * 12) hB hge
      have P6 := stM_row [.bool gk.lo.a.s, .slice p1 gk.lo.a.n gk.lo.a.n, .slice q1 gk.lo.a.m gk.lo.a.m, .bool gk.lo.b.s, .slice r1 gk.lo.b.n gk.lo.b.n, .slice t1 gk.lo.b.m gk.lo.b.m, .bool gk.hi.a.s, .slice p2 gk.hi.a.n gk.hi.a.n, .slice q2 gk.hi.a.m gk.hi.a.m, .bool gk.hi.b.s, .slice r2 gk.hi.b.n gk.hi.b.n, .slice t2 gk.hi.b.m gk.hi.b.m] w13 gb (j * 12) gb hR
      have hH2 := (⟨stM_out [.bool gk.lo.a.s, .slice p1 gk.lo.a.n gk.lo.a.n, .slice q1 gk.lo.a.m gk.lo.a.m, .bool gk.lo.b.s, .slice r1 gk.lo.b.n gk.lo.b.n, .slice t1 gk.lo.b.m gk.lo.b.m, .bool gk.hi.a.s, .slice p2 gk.hi.a.n gk.hi.a.n, .slice q2 gk.hi.a.m gk.hi.a.m, .bool gk.hi.b.s, .slice r2 gk.hi.b.n gk.hi.b.n, .slice t2 gk.hi.b.m gk.hi.b.m] w13 gb (j * 12) bb _ _ (fun e => by omega) hHeld.1, stM_out [.bool gk.lo.a.s, .slice p1 gk.lo.a.n gk.lo.a.n, .slice q1 gk.lo.a.m gk.lo.a.m, .bool gk.lo.b.s, .slice r1 gk.lo.b.n gk.lo.b.n, .slice t1 gk.lo.b.m gk.lo.b.m, .bool gk.hi.a.s, .slice p2 gk.hi.a.n gk.hi.a.n, .slice q2 gk.hi.a.m gk.hi.a.m, .bool gk.hi.b.s, .slice r2 gk.hi.b.n gk.hi.b.n, .slice t2 gk.hi.b.m gk.hi.b.m] w13 gb (j * 12) bb _ _ (fun e => by omega) hHeld.2.1, stM_out [.bool gk.lo.a.s, .slice p1 gk.lo.a.n gk.lo.a.n, .slice q1 gk.lo.a.m gk.lo.a.m, .bool gk.lo.b.s, .slice r1 gk.lo.b.n gk.lo.b.n, .slice t1 gk.lo.b.m gk.lo.b.m, .bool gk.hi.a.s, .slice p2 gk.hi.a.n gk.hi.a.n, .slice q2 gk.hi.a.m gk.hi.a.m, .bool gk.hi.b.s, .slice r2 gk.hi.b.n gk.hi.b.n, .slice t2 gk.hi.b.m gk.hi.b.m] w13 gb (j * 12) bb _ _ (fun e => by omega) hHeld.2.2.1, stM_out [.bool gk.lo.a.s, .slice p1 gk.lo.a.n gk.lo.a.n, .slice q1 gk.lo.a.m gk.lo.a.m, .bool gk.lo.b.s, .slice r1 gk.lo.b.n gk.lo.b.n, .slice t1 gk.lo.b.m gk.lo.b.m, .bool gk.hi.a.s, .slice p2 gk.hi.a.n gk.hi.a.n, .slice q2 gk.hi.a.m gk.hi.a.m, .bool gk.hi.b.s, .slice r2 gk.hi.b.n gk.hi.b.n, .slice t2 gk.hi.b.m gk.hi.b.m] w13 gb (j * 12) bb _ _ (fun e => by omega) hHeld.2.2.2.1, stM_out [.bool gk.lo.a.s, .slice p1 gk.lo.a.n gk.lo.a.n, .slice q1 gk.lo.a.m gk.lo.a.m, .bool gk.lo.b.s, .slice r1 gk.lo.b.n gk.lo.b.n, .slice t1 gk.lo.b.m gk.lo.b.m, .bool gk.hi.a.s, .slice p2 gk.hi.a.n gk.hi.a.n, .slice q2 gk.hi.a.m gk.hi.a.m, .bool gk.hi.b.s, .slice r2 gk.hi.b.n gk.hi.b.n, .slice t2 gk.hi.b.m gk.hi.b.m] w13 gb (j * 12) bb _ _ (fun e => by omega) hHeld.2.2.2.2.1, stM_out [.bool gk.lo.a.s, .slice p1 gk.lo.a.n gk.lo.a.n, .slice q1 gk.lo.a.m gk.lo.a.m, .bool gk.lo.b.s, .slice r1 gk.lo.b.n gk.lo.b.n, .slice t1 gk.lo.b.m gk.lo.b.m, .bool gk.hi.a.s, .slice p2 gk.hi.a.n gk.hi.a.n, .slice q2 gk.hi.a.m gk.hi.a.m, .bool gk.hi.b.s, .slice r2 gk.hi.b.n gk.hi.b.n, .slice t2 gk.hi.b.m gk.hi.b.m] w13 gb (j * 12) bb _ _ (fun e => by omega) hHeld.2.2.2.2.2.1, stM_out [.bool gk.lo.a.s, .slice p1 gk.lo.a.n gk.lo.a.n, .slice q1 gk.lo.a.m gk.lo.a.m, .bool gk.lo.b.s, .slice r1 gk.lo.b.n gk.lo.b.n, .slice t1 gk.lo.b.m gk.lo.b.m, .bool gk.hi.a.s, .slice p2 gk.hi.a.n gk.hi.a.n, .slice q2 gk.hi.a.m gk.hi.a.m, .bool gk.hi.b.s, .slice r2 gk.hi.b.n gk.hi.b.n, .slice t2 gk.hi.b.m gk.hi.b.m] w13 gb (j * 12) bb _ _ (fun e => by omega) hHeld.2.2.2.2.2.2.1, stM_out [.bool gk.lo.a.s, .slice p1 gk.lo.a.n gk.lo.a.n, .slice q1 gk.lo.a.m gk.lo.a.m, .bool gk.lo.b.s, .slice r1 gk.lo.b.n gk.lo.b.n, .slice t1 gk.lo.b.m gk.lo.b.m, .bool gk.hi.a.s, .slice p2 gk.hi.a.n gk.hi.a.n, .slice q2 gk.hi.a.m gk.hi.a.m, .bool gk.hi.b.s, .slice r2 gk.hi.b.n gk.hi.b.n, .slice t2 gk.hi.b.m gk.hi.b.m] w13 gb (j * 12) bb _ _ (fun e => by omega) hHeld.2.2.2.2.2.2.2.1, stM_out [.bool gk.lo.a.s, .slice p1 gk.lo.a.n gk.lo.a.n, .slice q1 gk.lo.a.m gk.lo.a.m, .bool gk.lo.b.s, .slice r1 gk.lo.b.n gk.lo.b.n, .slice t1 gk.lo.b.m gk.lo.b.m, .bool gk.hi.a.s, .slice p2 gk.hi.a.n gk.hi.a.n, .slice q2 gk.hi.a.m gk.hi.a.m, .bool gk.hi.b.s, .slice r2 gk.hi.b.n gk.hi.b.n, .slice t2 gk.hi.b.m gk.hi.b.m] w13 gb (j * 12) bb _ _ (fun e => by omega) hHeld.2.2.2.2.2.2.2.2.1, stM_out [.bool gk.lo.a.s, .slice p1 gk.lo.a.n gk.lo.a.n, .slice q1 gk.lo.a.m gk.lo.a.m, .bool gk.lo.b.s, .slice r1 gk.lo.b.n gk.lo.b.n, .slice t1 gk.lo.b.m gk.lo.b.m, .bool gk.hi.a.s, .slice p2 gk.hi.a.n gk.hi.a.n, .slice q2 gk.hi.a.m gk.hi.a.m, .bool gk.hi.b.s, .slice r2 gk.hi.b.n gk.hi.b.n, .slice t2 gk.hi.b.m gk.hi.b.m] w13 gb (j * 12) bb _ _ (fun e => by omega) hHeld.2.2.2.2.2.2.2.2.2.1, stM_out [.bool gk.lo.a.s, .slice p1 gk.lo.a.n gk.lo.a.n, .slice q1 gk.lo.a.m gk.lo.a.m, .bool gk.lo.b.s, .slice r1 gk.lo.b.n gk.lo.b.n, .slice t1 gk.lo.b.m gk.lo.b.m, .bool gk.hi.a.s, .slice p2 gk.hi.a.n gk.hi.a.n, .slice q2 gk.hi.a.m gk.hi.a.m, .bool gk.hi.b.s, .slice r2 gk.hi.b.n gk.hi.b.n, .slice t2 gk.hi.b.m gk.hi.b.m] w13 gb (j * 12) bb _ _ (fun e => by omega) hHeld.2.2.2.2.2.2.2.2.2.2.1, stM_out [.bool gk.lo.a.s, .slice p1 gk.lo.a.n gk.lo.a.n, .slice q1 gk.lo.a.m gk.lo.a.m, .bool gk.lo.b.s, .slice r1 gk.lo.b.n gk.lo.b.n, .slice t1 gk.lo.b.m gk.lo.b.m, .bool gk.hi.a.s, .slice p2 gk.hi.a.n gk.hi.a.n, .slice q2 gk.hi.a.m gk.hi.a.m, .bool gk.hi.b.s, .slice r2 gk.hi.b.n gk.hi.b.n, .slice t2 gk.hi.b.m gk.hi.b.m] w13 gb (j * 12) bb _ _ (fun e => by omega) hHeld.2.2.2.2.2.2.2.2.2.2.2⟩ : _ ∧ _ ∧ _ ∧ _ ∧ _ ∧ _ ∧ _ ∧ _ ∧ _ ∧ _ ∧ _ ∧ _)
      obtain ⟨wS, hwS⟩ : ∃ wS, stM w13 gb (j * 12) [.bool gk.lo.a.s, .slice p1 gk.lo.a.n gk.lo.a.n, .slice q1 gk.lo.a.m gk.lo.a.m, .bool gk.lo.b.s, .slice r1 gk.lo.b.n gk.lo.b.n, .slice t1 gk.lo.b.m gk.lo.b.m, .bool gk.hi.a.s, .slice p2 gk.hi.a.n gk.hi.a.n, .slice q2 gk.hi.a.m gk.hi.a.m, .bool gk.hi.b.s, .slice r2 gk.hi.b.n gk.hi.b.n, .slice t2 gk.hi.b.m gk.hi.b.m] = wS := ⟨_, rfl⟩
      rw [hwS] at P5 P6 hH2
      have P1x : GapsAt wS (some ⟨gb, 0, none⟩) n (fun i => if i = j then ⟨twD gk.lo p1 q1 r1 t1, twD gk.hi p2 q2 r2 t2⟩ else k' i) := by rw [← hwS]; exact P1
      have P2x : ∀ p X m, Seg w13 p X m → Seg wS p X m := by rw [← hwS]; exact P2
      have hch : ((((((((((((w13.setCell ⟨gb, j * 12, none⟩ (.bool gk.lo.a.s)).setCell ⟨gb, j * 12 + 1, none⟩ (.slice p1 gk.lo.a.n gk.lo.a.n)).setCell ⟨gb, j * 12 + 2, none⟩ (.slice q1 gk.lo.a.m gk.lo.a.m)).setCell ⟨gb, j * 12 + 3, none⟩ (.bool gk.lo.b.s)).setCell ⟨gb, j * 12 + 4, none⟩ (.slice r1 gk.lo.b.n gk.lo.b.n)).setCell ⟨gb, j * 12 + 5, none⟩ (.slice t1 gk.lo.b.m gk.lo.b.m)).setCell ⟨gb, j * 12 + 6, none⟩ (.bool gk.hi.a.s)).setCell ⟨gb, j * 12 + 7, none⟩ (.slice p2 gk.hi.a.n gk.hi.a.n)).setCell ⟨gb, j * 12 + 8, none⟩ (.slice q2 gk.hi.a.m gk.hi.a.m)).setCell ⟨gb, j * 12 + 9, none⟩ (.bool gk.hi.b.s)).setCell ⟨gb, j * 12 + 10, none⟩ (.slice r2 gk.hi.b.n gk.hi.b.n)).setCell ⟨gb, j * 12 + 11, none⟩ (.slice t2 gk.hi.b.m gk.hi.b.m)) = wS := hwS
      clear hwS P1 P2
      have I1 := hide' (show ∃ k', GapsAt wS (some ⟨gb, 0, none⟩) n k' ∧ Row wS gb ∧ Below w.heap.size w wS ∧ ∀ i, i < j + 1 → (k' i).ok wS ∧ (k' i).tiny ∧ (k' i).val = (k i).val from
        ⟨_, P1x, P6, P5, fun i hi => by
          have kok : ∀ d : RatV, d.ok w13 → d.ok wS := fun d h => ⟨P2x _ _ _ h.1, h.2.1, h.2.2.1, P2x _ _ _ h.2.2.2.1, h.2.2.2.2.1, h.2.2.2.2.2⟩
          by_cases he : i = j
          · simp only [if_pos he]; rw [he, hgk]; exact ⟨⟨⟨kok _ h1.1, kok _ h1.2⟩, ⟨kok _ h2.1, kok _ h2.2⟩⟩, htn, rfl⟩
          · simp only [if_neg he]; obtain ⟨a1, a2, a3⟩ := GG.2 i (by omega); exact ⟨⟨⟨kok _ a1.1.1, kok _ a1.1.2⟩, ⟨kok _ a1.2.1, kok _ a1.2.2⟩⟩, a2, a3⟩⟩)
      clear P1x P2x P5 P6 GG h1 h2 G1 G2
      go_simp
      try rw [hch]
      clear hch fz z0 z1 z2 z3 z4 z5 z6 z7 z8 z9 z10 z11
      refine hKK.out _ _ hH2 ?_
      clear hHeld
      intro hHeld
      clear hKK KK
      try simp only [Act.put, List.setIfInBounds_toArray, List.set_cons_zero, List.set_cons_succ]
      clear hH2
      refine wpAnyH_done (by kernel_rfl) ?_ _
      clear hHeld hB hR bT
      go_wp2
      go_roundw
      case rel => exact ⟨j + 1, by omega, by go_num, I1.out⟩
      case measure => simp [intOf]; omega
    · obtain rfl : j = n := by omega
      have i1 : ¬ (j : Int) < (j : Int) := by omega
      go_wp2
      go_ret
      exact ⟨_, rfl, hB, k', hG, hq⟩
end Go.Proofs.YtnifelfecildmaaGreatDoor

namespace Go.Proofs.YtnifelfecildmaaGreatDoor
open Go.RowKit
set_option linter.unusedVariables false

theorem Seg.none (w : World) : Seg w none 0 0 := ⟨by simp, fun h => absurd h (by omega)⟩
set_option maxHeartbeats 4000000 in
set_option maxRecDepth 100000 in
theorem dAt_is (s0 : Bool) (a0 : Option Addr) (n0 c0 X0 : Nat) (b0 : Option Addr) (m0 d0 Y0 : Nat) (s1 : Bool) (a1 : Option Addr) (n1 c1 X1 : Nat) (b1 : Option Addr) (m1 d1 Y1 : Nat) (s4 : Bool) (a4 : Option Addr) (n4 c4 X4 : Nat) (b4 : Option Addr) (m4 d4 Y4 : Nat) (Z : Int) (V : Nat) (w : World) (hc0 : n0 ≤ c0) (hm0 : n0 ≤ 274877906944) (hS0 : Seg w a0 X0 n0) (hd0 : m0 ≤ d0) (hk0 : m0 ≤ 274877906944) (hT0 : Seg w b0 Y0 m0) (hc1 : n1 ≤ c1) (hm1 : n1 ≤ 274877906944) (hS1 : Seg w a1 X1 n1) (hd1 : m1 ≤ d1) (hk1 : m1 ≤ 274877906944) (hT1 : Seg w b1 Y1 m1) (hc4 : n4 ≤ c4) (hm4 : n4 ≤ 274877906944) (hS4 : Seg w a4 X4 n4) (hd4 : m4 ≤ d4) (hk4 : m4 ≤ 274877906944) (hT4 : Seg w b4 Y4 m4) (hL : Low (rn s0 X0 Y0 * ((rd Y1 : Nat) * (rd Y4 : Nat)) + rn s1 X1 Y1 * rn s4 X4 Y4 * (rd Y0 : Nat)) ((rd Y0 : Nat) * ((rd Y1 : Nat) * (rd Y4 : Nat))) Z V) :
    Calls Tryz.prog 23 #[Value.agg #[Value.bool s0, Value.slice a0 n0 c0, Value.slice b0 m0 d0, Value.bool s1, Value.slice a1 n1 c1, Value.slice b1 m1 d1], Value.agg #[Value.bool s4, Value.slice a4 n4 c4, Value.slice b4 m4 d4]] w fun e w' => ∃ p q, e = .returned (.agg #[.bool (ng Z), .slice p (ln (am Z)) (ln (am Z)), .slice q (ln V) (ln V)]) ∧ New w w' p (am Z) (ln (am Z)) ∧ New w w' q V (ln V) := by
  obtain ⟨Z1, V1, h1⟩ := low_ex (rn s1 X1 Y1 * rn s4 X4 Y4) _ (rd_ne2 Y1 Y4)
  obtain ⟨lZ1, lV1⟩ := lowP_ln h1 (rn_lt hS1.1) (rn_lt hS4.1) (rd_lt hT1.1) (rd_lt hT4.1)
  have hL2 : Low (rn s0 X0 Y0 * ((rd V1 : Nat) : Int) + rn (ng Z1) (am Z1) V1 * ((rd Y0 : Nat) : Int)) (((rd Y0 : Nat) : Int) * ((rd V1 : Nat) : Int)) Z V := by
    refine hL.congr (rd_ne2 Y0 V1) ?_
    rw [rn_nf h1.pos, rd_nf h1.pos]
    have e1 := h1.eq
    grind
  have G1 := hide' h1
  have G2 := hide' hL2
  clear hL h1 hL2
  go_enter Tryz.func23, Tryz.ntmps23
  go_wp2_with fail
  obtain ⟨W, hW⟩ : ∃ W, (((w.alloc (.cells #[.bool s0, .slice a0 n0 c0, .slice b0 m0 d0, .bool s1, .slice a1 n1 c1, .slice b1 m1 d1] 40)).alloc (.cells #[.bool s4, .slice a4 n4 c4, .slice b4 m4 d4] 28)).alloc (.cells #[.bool false, .slice none 0 0, .slice none 0 0] 28)) = W := ⟨_, rfl⟩
  have q00 : W.cell? ⟨w.heap.size, 0, none⟩ = some (.bool s0) := by subst hW; go_simp
  have q01 : W.cell? ⟨w.heap.size, 1, none⟩ = some (.slice a0 n0 c0) := by subst hW; go_simp
  have q02 : W.cell? ⟨w.heap.size, 2, none⟩ = some (.slice b0 m0 d0) := by subst hW; go_simp
  have q03 : W.cell? ⟨w.heap.size, 3, none⟩ = some (.bool s1) := by subst hW; go_simp
  have q04 : W.cell? ⟨w.heap.size, 4, none⟩ = some (.slice a1 n1 c1) := by subst hW; go_simp
  have q05 : W.cell? ⟨w.heap.size, 5, none⟩ = some (.slice b1 m1 d1) := by subst hW; go_simp
  have q10 : W.cell? ⟨w.heap.size + 1, 0, none⟩ = some (.bool s4) := by subst hW; go_simp
  have q11 : W.cell? ⟨w.heap.size + 1, 1, none⟩ = some (.slice a4 n4 c4) := by subst hW; go_simp
  have q12 : W.cell? ⟨w.heap.size + 1, 2, none⟩ = some (.slice b4 m4 d4) := by subst hW; go_simp
  have r00 : W.cell? ⟨w.heap.size + 1 + 1, 0, none⟩ = some (.bool false) := by subst hW; go_simp
  have r01 : W.cell? ⟨w.heap.size + 1 + 1, 1, none⟩ = some (.slice none 0 0) := by subst hW; go_simp
  have r02 : W.cell? ⟨w.heap.size + 1 + 1, 2, none⟩ = some (.slice none 0 0) := by subst hW; go_simp
  have hB : Below w.heap.size w W := by subst hW; exact ((((Below.refl _ _).alloc (by (try simp only [World.size_alloc]); omega) _).alloc (by (try simp only [World.size_alloc]); omega) _).alloc (by (try simp only [World.size_alloc]); omega) _)
  have hR0 : Row W (w.heap.size + 1 + 1) := by
    have := row_new (((w.alloc (.cells #[.bool s0, .slice a0 n0 c0, .slice b0 m0 d0, .bool s1, .slice a1 n1 c1, .slice b1 m1 d1] 40)).alloc (.cells #[.bool s4, .slice a4 n4 c4, .slice b4 m4 d4] 28))) #[.bool false, .slice none 0 0, .slice none 0 0] 28
    try simp only [World.size_alloc] at this
    subst hW; exact this
  have hz : W.heap.size = w.heap.size + 1 + 1 + 1 := by subst hW; simp only [World.size_alloc]
  rw [hW]
  clear hW
  have hBW : Below W.heap.size W W := Below.refl _ _
  replace hBW := hBW.drew
  first
    | go_region_held3 (fun w' => w'.cell? ⟨w.heap.size, 0, none⟩ = some (.bool s0) ∧ w'.cell? ⟨w.heap.size, 1, none⟩ = some (.slice a0 n0 c0) ∧ w'.cell? ⟨w.heap.size, 2, none⟩ = some (.slice b0 m0 d0) ∧ w'.cell? ⟨w.heap.size, 3, none⟩ = some (.bool s1) ∧ w'.cell? ⟨w.heap.size, 4, none⟩ = some (.slice a1 n1 c1) ∧ w'.cell? ⟨w.heap.size, 5, none⟩ = some (.slice b1 m1 d1) ∧ w'.cell? ⟨w.heap.size + 1, 0, none⟩ = some (.bool s4) ∧ w'.cell? ⟨w.heap.size + 1, 1, none⟩ = some (.slice a4 n4 c4) ∧ w'.cell? ⟨w.heap.size + 1, 2, none⟩ = some (.slice b4 m4 d4) ∧ Below w.heap.size w w')
        (first | exact ⟨q00, q01, q02, q03, q04, q05, q10, q11, q12, hB.trans (hBW.mono hB.size)⟩ | exact kp9 b41 (by assumption) | exact kp9 b42 (by assumption) | exact kp9 (below_alloc _) (by assumption) | exact kp9 (below_alloc _) ⟨q00, q01, q02, q03, q04, q05, q10, q11, q12, hB.trans (hBW.mono hB.size)⟩ | exact kpT9_3 (by assumption) (by omega) (by omega) (by omega) (by omega) (by omega) (by omega) (by omega) (by omega) (by omega) (by omega))
        (first
          | (go_at_call 45; (fail_if_success clear b41); refine (qMul_is s1 a1 n1 c1 X1 b1 m1 d1 Y1 s4 a4 n4 c4 X4 b4 m4 d4 Y4 Z1 V1 _ hc1 (by omega) (sb hS1 hB hBW) hd1 (by omega) (sb hT1 hB hBW) hc4 (by omega) (sb hS4 hB hBW) hd4 (by omega) (sb hT4 hB hBW) G1.out).mono ?_; rintro e w41 ⟨p41, q41, rfl, hp41, hq41⟩; have b41 := hp41.below; replace hp41 := hp41.back hBW; replace hq41 := hq41.back hBW; replace hBW := hBW.trans (b41.mono hBW.size); replace q00 := below_cell b41 q00; replace q01 := below_cell b41 q01; replace q02 := below_cell b41 q02; replace q03 := below_cell b41 q03; replace q04 := below_cell b41 q04; replace q05 := below_cell b41 q05; replace q10 := below_cell b41 q10; replace q11 := below_cell b41 q11; replace q12 := below_cell b41 q12; replace r00 := below_cell b41 r00; replace r01 := below_cell b41 r01; replace r02 := below_cell b41 r02; replace hR0 := below_row b41 hR0)
          | (go_at_call 44; (fail_if_success clear b42); refine (qAdd_is s0 a0 n0 c0 X0 b0 m0 d0 Y0 (ng Z1) p41 (ln (am Z1)) (ln (am Z1)) (am Z1) q41 (ln V1) (ln V1) V1 Z V _ hc0 (by omega) (sb hS0 hB hBW) hd0 (by omega) (sb hT0 hB hBW) (Nat.le_refl _) (by omega) hp41.seg (Nat.le_refl _) (by omega) hq41.seg G2.out).mono ?_; rintro e w42 ⟨p42, q42, rfl, hp42, hq42⟩; have b42 := hp42.below; replace hp42 := hp42.back hBW; replace hq42 := hq42.back hBW; replace hBW := hBW.trans (b42.mono hBW.size); replace q00 := below_cell b42 q00; replace q01 := below_cell b42 q01; replace q02 := below_cell b42 q02; replace q03 := below_cell b42 q03; replace q04 := below_cell b42 q04; replace q05 := below_cell b42 q05; replace q10 := below_cell b42 q10; replace q11 := below_cell b42 q11; replace q12 := below_cell b42 q12; replace r00 := below_cell b42 r00; replace r01 := below_cell b42 r01; replace r02 := below_cell b42 r02; replace hR0 := below_row b42 hR0; replace hp41 := hp41.later b42; replace hq41 := hq41.later b42; have fz := fun o => hR0.frozen o))
    | fail
  have fz0 := fun o => hR0.frozen o
  go_wp2
  all_goals refine bodyPost_ret (v := Value.agg #[Value.bool (ng Z), Value.slice p42 (ln (am Z)) (ln (am Z)), Value.slice q42 (ln V) (ln V)]) (by rw [results_cell rfl]; go_simp) rfl ?_
  all_goals exact ⟨p42, q42, rfl, hp42.mid hB (((((Mid.refl _ _ _).set _ _ (by omega) (by omega) _).set _ _ (by omega) (by omega) _).set _ _ (by omega) (by omega) _)), hq42.mid hB (((((Mid.refl _ _ _).set _ _ (by omega) (by omega) _).set _ _ (by omega) (by omega) _).set _ _ (by omega) (by omega) _))⟩

end Go.Proofs.YtnifelfecildmaaGreatDoor

namespace Go.Proofs.YtnifelfecildmaaGreatDoor
open Go.RowKit
set_option linter.unusedVariables false
set_option linter.unusedSimpArgs false
theorem vmulQ (A B : RatV) (S : Rat) (w : World) (hA : A.ok w) (hB : B.ok w) (hn : A.n ≤ 100000000 ∧ A.m ≤ 100000000 ∧ B.n ≤ 100000000 ∧ B.m ≤ 100000000) (hS : A.val * B.val = S) (hz : sz 100000000 S) : Calls Tryz.prog 22 #[.agg #[.bool A.s, .slice A.a A.n A.c, .slice A.b A.m A.e], .agg #[.bool B.s, .slice B.a B.n B.c, .slice B.b B.m B.e]] w (QA w S) := by
  subst hS
  refine (vqMul_is A.s A.a A.n A.c A.X A.b A.m A.e A.Y B.s B.a B.n B.c B.X B.b B.m B.e B.Y _ _ w hA.2.1 (by omega) hA.1 hA.2.2.2.2.1 (by omega) hA.2.2.2.1 hB.2.1 (by omega) hB.1 hB.2.2.2.2.1 (by omega) hB.2.2.2.1 (low_mul A B)).mono ?_
  rintro e w1 ⟨p, q, rfl, n1, n2⟩
  exact ⟨p, q, rfl, n1.below, ok_nR hz n1 n2⟩
theorem vcmpQ (A B : RatV) (w : World) (hA : A.ok w) (hB : B.ok w) (hn : A.n ≤ 100000000 ∧ A.m ≤ 100000000 ∧ B.n ≤ 100000000 ∧ B.m ≤ 100000000) (C : Int) (hS : sR (A.val - B.val) = C) : Calls Tryz.prog 15 #[.agg #[.bool A.s, .slice A.a A.n A.c, .slice A.b A.m A.e], .agg #[.bool B.s, .slice B.a B.n B.c, .slice B.b B.m B.e]] w fun e w1 => e = .returned (.int .i64 C) ∧ Below w.heap.size w w1 :=
  vqCmp_is A.s A.a A.n A.c A.X A.b A.m A.e A.Y B.s B.a B.n B.c B.X B.b B.m B.e B.Y C w hA.2.1 (by omega) hA.1 hA.2.2.2.2.1 (by omega) hA.2.2.2.1 hB.2.1 (by omega) hB.1 hB.2.2.2.2.1 (by omega) hB.2.2.2.1 ((sR_sub A B).trans hS)
theorem vsignQ (A : RatV) (w : World) (hA : A.ok w) (C : Int) (hS : sR A.val = C) : Calls Tryz.prog 14 #[.agg #[.bool A.s, .slice A.a A.n A.c, .slice A.b A.m A.e]] w fun e w1 => e = .returned (.int .i64 C) ∧ Below w.heap.size w w1 :=
  have h1 := hA.2.2.1
  have h2 := hA.2.2.2.2.2
  vqSign_is A.s A.a A.n A.c A.X A.b A.m A.e A.Y C w hA.2.1 (by omega) hA.1 hA.2.2.2.2.1 (by omega) hA.2.2.2.1 ((sR_val A).trans hS)
end Go.Proofs.YtnifelfecildmaaGreatDoor

namespace Go.Proofs.YtnifelfecildmaaGreatDoor
open Go.RowKit
set_option linter.unusedVariables false
set_option linter.unusedSimpArgs false

theorem low_at (x y t : RatV) : Low (rn x.s x.X x.Y * ((rd y.Y : Nat) * (rd t.Y : Nat)) + rn y.s y.X y.Y * rn t.s t.X t.Y * (rd x.Y : Nat)) ((rd x.Y : Nat) * ((rd y.Y : Nat) * (rd t.Y : Nat))) (x.val + t.val * y.val).num (x.val + t.val * y.val).den :=
  low_of (Int.mul_ne_zero (rd_ne _) (Int.mul_ne_zero (rd_ne _) (rd_ne _))) (by
    unfold RatV.val
    rw [Rat.mul_comm (Rat.divInt (rn t.s t.X t.Y) _), Rat.divInt_mul_divInt, Rat.divInt_add_divInt _ _ (rd_ne _) (Int.mul_ne_zero (rd_ne _) (rd_ne _))])
theorem at_sz {w : World} {d : DelV} {t : Rat} {N : Nat} (hd : d.ok w) (hk : d.tiny) (ht : sz N t) : sz (2 * 1048577 + 2 * (N + 1048577) + 3) (atR d.val t) := by
  obtain ⟨h1, h2⟩ := tiny_sz hd hk
  exact sz_addY h1 (sz_mulY ht h2)
theorem atQ (d : DelV) (t : RatV) (S : Rat) (w : World) (hd : d.ok w) (ht : t.ok w) (hk : d.tiny) (hn : t.n ≤ 100000000 ∧ t.m ≤ 100000000) (hS : atR d.val t.val = S) (hz : sz 100000000 S) : Calls Tryz.prog 23 #[.agg #[.bool d.a.s, .slice d.a.a d.a.n d.a.c, .slice d.a.b d.a.m d.a.e, .bool d.b.s, .slice d.b.a d.b.n d.b.c, .slice d.b.b d.b.m d.b.e], .agg #[.bool t.s, .slice t.a t.n t.c, .slice t.b t.m t.e]] w (QA w S) := by
  subst hS
  obtain ⟨u1, u2, u3, u4⟩ := hk
  refine (dAt_is d.a.s d.a.a d.a.n d.a.c d.a.X d.a.b d.a.m d.a.e d.a.Y d.b.s d.b.a d.b.n d.b.c d.b.X d.b.b d.b.m d.b.e d.b.Y t.s t.a t.n t.c t.X t.b t.m t.e t.Y _ _ w hd.1.2.1 (by omega) hd.1.1 hd.1.2.2.2.2.1 (by omega) hd.1.2.2.2.1 hd.2.2.1 (by omega) hd.2.1 hd.2.2.2.2.2.1 (by omega) hd.2.2.2.2.1 ht.2.1 (by omega) ht.1 ht.2.2.2.2.1 (by omega) ht.2.2.2.1 (low_at d.a d.b t)).mono ?_
  rintro e w1 ⟨p, q, rfl, n1, n2⟩
  exact ⟨p, q, rfl, n1.below, ok_nR hz n1 n2⟩
end Go.Proofs.YtnifelfecildmaaGreatDoor
