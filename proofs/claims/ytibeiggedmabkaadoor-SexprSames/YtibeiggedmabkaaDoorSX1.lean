/-
  Nodes in nodes, in memory; the reference's Alike and the law's alike.
-/
import Derived.Test.YtibeiggedmabkaaDoorSXN
import Derived.Test.YtibeiggedmabkaaDoorTKB
import Derived.Deep.Cut
namespace Go.Proofs.YtibeiggedmabkaaDoor
open Go.RowKit
set_option linter.unusedVariables false
set_option linter.unusedSimpArgs false

/-- a list of nodes in memory, and all that stands in them; P holds of the blocks in which they lie -/
inductive NdIn (w : World) (P : Nat → Prop) : Value → List Nd → Prop
  | nil (a : Option Addr) (c : Nat) : NdIn w P (.slice a 0 c) []
  | row (g off c : Nat) (kids : List Nd) (vs : Nat → Value) (hn : 0 < kids.length) (hb : kids.length ≤ 1099511627776) (hP : P g)
      (hc : ∀ i (h : i < kids.length) j, j < 6 → w.cell? ⟨g, off + i * 7 + j, none⟩ = (kids[i].t).cells[j]?)
      (hv : ∀ i, i < kids.length → w.cell? ⟨g, off + i * 7 + 6, none⟩ = some (vs i))
      (hk : ∀ i (h : i < kids.length), NdIn w P (vs i) (kids[i].kids)) : NdIn w P (.slice (some ⟨g, off, none⟩) kids.length c) kids
theorem NdIn.sl {w : World} {P : Nat → Prop} {v : Value} {l : List Nd} (h : NdIn w P v l) : ∃ a c, v = .slice a l.length c := by
  cases h with
  | nil a c => exact ⟨a, c, rfl⟩
  | row g off c => exact ⟨_, c, rfl⟩
/-- it stays where only other blocks change -/
theorem NdIn.kept {w w' : World} {P Q : Nat → Prop} {v : Value} {l : List Nd} (h : NdIn w P v l) (hk : ∀ g, P g → g < w.heap.size → w'.heap[g]? = w.heap[g]?) (hQ : ∀ g, P g → Q g) : NdIn w' Q v l := by
  induction h with
  | nil a c => exact .nil a c
  | row g off c kids vs hn hb hP hc hv _ ih =>
    have hlt : g < w.heap.size := World.block_lt_of_cell? w _ (hv 0 hn)
    have e : ∀ o, w'.cell? ⟨g, o, none⟩ = w.cell? ⟨g, o, none⟩ := fun o => World.cell?_of_block (w := w) (a := ⟨g, o, none⟩) (hk g hP hlt)
    exact .row g off c kids vs hn hb (hQ g hP) (fun i h j hj => by rw [e]; exact hc i h j hj) (fun i h => by rw [e]; exact hv i h) ih
theorem NdIn.on {w w' : World} {P : Nat → Prop} {v : Value} {l : List Nd} (h : NdIn w P v l) (hb : Below w.heap.size w w') : NdIn w' P v l := h.kept (fun g _ hg => hb.block g hg) (fun _ c => c)
set_option maxHeartbeats 8000000 in
set_option maxRecDepth 100000 in
theorem alike1 {w0 : World} {P : Nat → Prop} {v1 : Value} {kids : List Nd} (h1 : NdIn w0 P v1 kids) : ∀ {Q : Nat → Prop} {v2 : Value} (h2 : NdIn w0 Q v2 kids) (t : Tok) (w : World) (hB0 : Below w0.heap.size w0 w), Calls Tryd.prog 23 #[.agg #[.int .i64 t.k, .string t.t, .int .i64 t.b, .int .i64 t.e, .int .i64 t.l, .int .i64 t.c, v1], .agg #[.int .i64 t.k, .string t.t, .int .i64 t.b, .int .i64 t.e, .int .i64 t.l, .int .i64 t.c, v2]] w fun e w' => e = .returned (.bool true) ∧ Below w.heap.size w w' := by
  induction h1 with
  | nil a c =>
    intro Q v2 h2 t w hB0
    obtain ⟨a2, c2, e2⟩ := h2.sl
    subst e2
    clear h2
    simp only [List.length_nil]
    have b1 := below_alloc (w := w) (.cells #[.int .i64 t.k, .string t.t, .int .i64 t.b, .int .i64 t.e, .int .i64 t.l, .int .i64 t.c, .slice a 0 c] 34)
    have qA := Blk.new w #[.int .i64 t.k, .string t.t, .int .i64 t.b, .int .i64 t.e, .int .i64 t.l, .int .i64 t.c, .slice a 0 c] 34
    have e1 : (w.alloc (.cells #[.int .i64 t.k, .string t.t, .int .i64 t.b, .int .i64 t.e, .int .i64 t.l, .int .i64 t.c, .slice a 0 c] 34)).heap.size = w.heap.size + 1 := by simp
    have b2 := below_alloc (w := w.alloc (.cells #[.int .i64 t.k, .string t.t, .int .i64 t.b, .int .i64 t.e, .int .i64 t.l, .int .i64 t.c, .slice a 0 c] 34)) (.cells #[.int .i64 t.k, .string t.t, .int .i64 t.b, .int .i64 t.e, .int .i64 t.l, .int .i64 t.c, .slice a2 0 c2] 34)
    have qB := Blk.new (w.alloc (.cells #[.int .i64 t.k, .string t.t, .int .i64 t.b, .int .i64 t.e, .int .i64 t.l, .int .i64 t.c, .slice a 0 c] 34)) #[.int .i64 t.k, .string t.t, .int .i64 t.b, .int .i64 t.e, .int .i64 t.l, .int .i64 t.c, .slice a2 0 c2] 34
    rw [e1] at qB
    replace qA := qA.later b2
    have hB := b1.trans (b2.mono b1.size)
    clear b1 b2
    go_enter Tryd.func23, Tryd.ntmps23
    go_upto_region 1 with fail
    try rw [e1]
    generalize (w.alloc (.cells #[.int .i64 t.k, .string t.t, .int .i64 t.b, .int .i64 t.e, .int .i64 t.l, .int .i64 t.c, .slice a 0 c] 34)).alloc (.cells #[.int .i64 t.k, .string t.t, .int .i64 t.b, .int .i64 t.e, .int .i64 t.l, .int .i64 t.c, .slice a2 0 c2] 34) = W at qA qB hB ⊢
    clear e1
    have x0 := qA.cell 0
    have y0 := qB.cell 0
    have x1 := qA.cell 1
    have y1 := qB.cell 1
    have x2 := qA.cell 2
    have y2 := qB.cell 2
    have x3 := qA.cell 3
    have y3 := qB.cell 3
    have x4 := qA.cell 4
    have y4 := qB.cell 4
    have x5 := qA.cell 5
    have y5 := qB.cell 5
    have x6 := qA.cell 6
    have y6 := qB.cell 6
    simp only [List.getElem?_toArray, List.getElem?_cons_zero, List.getElem?_cons_succ] at x0 y0 x1 y1 x2 y2 x3 y3 x4 y4 x5 y5 x6 y6
    go_wp2_with fail
    go_loopw [5] (fun i wr => i = .int .i64 0 ∧ Blk wr w.heap.size #[.int .i64 t.k, .string t.t, .int .i64 t.b, .int .i64 t.e, .int .i64 t.l, .int .i64 t.c, .slice a 0 c] 34 ∧ Below w.heap.size w wr) (fun i _ => 0)
    case atStart => exact ⟨rfl, qA, hB⟩
    case round =>
      clear qA qB hB x0 y0 x1 y1 x2 y2 x3 y3 x4 y4 x5 y5 x6 y6
      obtain ⟨rfl, qA, hB⟩ := hrel
      have x6 := qA.cell 6
      simp only [List.getElem?_toArray, List.getElem?_cons_zero, List.getElem?_cons_succ] at x6
      go_wp2
      go_ret
      exact ⟨rfl, hB⟩
  | row g off c kids vs hn hb hP hc hv hk ih =>
    intro Q v2 h2 t w hB0
    cases h2 with
    | nil a2 c2 => exact absurd hn (by simp)
    | row g2 off2 c2 _ vs2 hn2 hb2 hQ hc2 hv2 hk2 =>
      have IH := hideT (fun k (hk3 : k < kids.length) => ih k hk3 (hk2 k hk3))
      have HC := hideT (And.intro hc (And.intro hv (And.intro hc2 hv2)))
      clear ih hc hv hc2 hv2 hk hk2 hP hQ
      have b1 := below_alloc (w := w) (.cells #[.int .i64 t.k, .string t.t, .int .i64 t.b, .int .i64 t.e, .int .i64 t.l, .int .i64 t.c, .slice (some ⟨g, off, none⟩) kids.length c] 34)
      have qA := Blk.new w #[.int .i64 t.k, .string t.t, .int .i64 t.b, .int .i64 t.e, .int .i64 t.l, .int .i64 t.c, .slice (some ⟨g, off, none⟩) kids.length c] 34
      have e1 : (w.alloc (.cells #[.int .i64 t.k, .string t.t, .int .i64 t.b, .int .i64 t.e, .int .i64 t.l, .int .i64 t.c, .slice (some ⟨g, off, none⟩) kids.length c] 34)).heap.size = w.heap.size + 1 := by simp
      have b2 := below_alloc (w := w.alloc (.cells #[.int .i64 t.k, .string t.t, .int .i64 t.b, .int .i64 t.e, .int .i64 t.l, .int .i64 t.c, .slice (some ⟨g, off, none⟩) kids.length c] 34)) (.cells #[.int .i64 t.k, .string t.t, .int .i64 t.b, .int .i64 t.e, .int .i64 t.l, .int .i64 t.c, .slice (some ⟨g2, off2, none⟩) kids.length c2] 34)
      have qB := Blk.new (w.alloc (.cells #[.int .i64 t.k, .string t.t, .int .i64 t.b, .int .i64 t.e, .int .i64 t.l, .int .i64 t.c, .slice (some ⟨g, off, none⟩) kids.length c] 34)) #[.int .i64 t.k, .string t.t, .int .i64 t.b, .int .i64 t.e, .int .i64 t.l, .int .i64 t.c, .slice (some ⟨g2, off2, none⟩) kids.length c2] 34
      rw [e1] at qB
      replace qA := qA.later b2
      have hB := b1.trans (b2.mono b1.size)
      clear b1 b2
      go_enter Tryd.func23, Tryd.ntmps23
      go_upto_region 1 with fail
      try rw [e1]
      generalize (w.alloc (.cells #[.int .i64 t.k, .string t.t, .int .i64 t.b, .int .i64 t.e, .int .i64 t.l, .int .i64 t.c, .slice (some ⟨g, off, none⟩) kids.length c] 34)).alloc (.cells #[.int .i64 t.k, .string t.t, .int .i64 t.b, .int .i64 t.e, .int .i64 t.l, .int .i64 t.c, .slice (some ⟨g2, off2, none⟩) kids.length c2] 34) = W at qA qB hB ⊢
      clear e1
      have x0 := qA.cell 0
      have y0 := qB.cell 0
      have x1 := qA.cell 1
      have y1 := qB.cell 1
      have x2 := qA.cell 2
      have y2 := qB.cell 2
      have x3 := qA.cell 3
      have y3 := qB.cell 3
      have x4 := qA.cell 4
      have y4 := qB.cell 4
      have x5 := qA.cell 5
      have y5 := qB.cell 5
      have x6 := qA.cell 6
      have y6 := qB.cell 6
      simp only [List.getElem?_toArray, List.getElem?_cons_zero, List.getElem?_cons_succ] at x0 y0 x1 y1 x2 y2 x3 y3 x4 y4 x5 y5 x6 y6
      go_wp2_with fail
      go_loopw [5] (fun i wr => ∃ k : Nat, k ≤ kids.length ∧ i = .int .i64 k ∧ Blk wr w.heap.size #[.int .i64 t.k, .string t.t, .int .i64 t.b, .int .i64 t.e, .int .i64 t.l, .int .i64 t.c, .slice (some ⟨g, off, none⟩) kids.length c] 34 ∧ Blk wr (w.heap.size + 1) #[.int .i64 t.k, .string t.t, .int .i64 t.b, .int .i64 t.e, .int .i64 t.l, .int .i64 t.c, .slice (some ⟨g2, off2, none⟩) kids.length c2] 34 ∧ Below w.heap.size w wr) (fun i _ => kids.length - (intOf i).toNat)
      case atStart => exact ⟨0, Nat.zero_le _, rfl, qA, qB, hB⟩
      case round =>
        clear qA qB hB x0 y0 x1 y1 x2 y2 x3 y3 x4 y4 x5 y5 x6 y6
        obtain ⟨k, hk, rfl, qA, qB, hB⟩ := hrel
        have x6 := qA.cell 6
        have y6 := qB.cell 6
        simp only [List.getElem?_toArray, List.getElem?_cons_zero, List.getElem?_cons_succ] at x6 y6
        by_cases hlt : k < kids.length
        · have hki : ((k : Int) < (kids.length : Int)) := by omega
          have h0 := hB0.trans (hB.mono hB0.size)
          obtain ⟨hc, hv, hc2, hv2⟩ := HC.out
          obtain ⟨T, hT⟩ : ∃ T, kids[k].t = T := ⟨_, rfl⟩
          have a0 := hc k hlt 0 (by decide)
          have a1 := hc k hlt 1 (by decide)
          have a2 := hc k hlt 2 (by decide)
          have a3 := hc k hlt 3 (by decide)
          have a4 := hc k hlt 4 (by decide)
          have a5 := hc k hlt 5 (by decide)
          rw [hT] at a0 a1 a2 a3 a4 a5
          simp only [Tok.cells, List.getElem?_cons_zero, List.getElem?_cons_succ] at a0 a1 a2 a3 a4 a5
          rw [Nat.add_zero] at a0
          have a6 := hv k hlt
          replace a0 := below_cell h0 a0
          replace a1 := below_cell h0 a1
          replace a2 := below_cell h0 a2
          replace a3 := below_cell h0 a3
          replace a4 := below_cell h0 a4
          replace a5 := below_cell h0 a5
          replace a6 := below_cell h0 a6
          have b0 := hc2 k hlt 0 (by decide)
          have b1 := hc2 k hlt 1 (by decide)
          have b2 := hc2 k hlt 2 (by decide)
          have b3 := hc2 k hlt 3 (by decide)
          have b4 := hc2 k hlt 4 (by decide)
          have b5 := hc2 k hlt 5 (by decide)
          rw [hT] at b0 b1 b2 b3 b4 b5
          simp only [Tok.cells, List.getElem?_cons_zero, List.getElem?_cons_succ] at b0 b1 b2 b3 b4 b5
          rw [Nat.add_zero] at b0
          have b6 := hv2 k hlt
          replace b0 := below_cell h0 b0
          replace b1 := below_cell h0 b1
          replace b2 := below_cell h0 b2
          replace b3 := below_cell h0 b3
          replace b4 := below_cell h0 b4
          replace b5 := below_cell h0 b5
          replace b6 := below_cell h0 b6
          have GI := hideT (fun W h => IH.out k hlt T W h)
          clear hc hv hc2 hv2 hT
          generalize vs k = u1 at a6 GI
          generalize vs2 k = u2 at b6 GI
          have hB1 := hideT hB0
          go_wp2_with fail
          have bD : Below wr.heap.size wr wr.drew := (Below.refl _ _).drew
          have kx6 := below_cell bD x6
          have ky6 := below_cell bD y6
          have ka0 := below_cell bD a0
          have ka1 := below_cell bD a1
          have ka2 := below_cell bD a2
          have ka3 := below_cell bD a3
          have ka4 := below_cell bD a4
          have ka5 := below_cell bD a5
          have ka6 := below_cell bD a6
          have kb0 := below_cell bD b0
          have kb1 := below_cell bD b1
          have kb2 := below_cell bD b2
          have kb3 := below_cell bD b3
          have kb4 := below_cell bD b4
          have kb5 := below_cell bD b5
          have kb6 := below_cell bD b6
          replace hB := hB.trans (bD.mono hB.size)
          replace qA := qA.later bD
          replace qB := qB.later bD
          refine wp_region_held_drew (S := fun w' => w'.cell? ⟨w.heap.size, 6, none⟩ = some (.slice (some ⟨g, off, none⟩) kids.length c) ∧ w'.cell? ⟨w.heap.size + 1, 6, none⟩ = some (.slice (some ⟨g2, off2, none⟩) kids.length c2) ∧ w'.cell? ⟨g, off + k * 7, none⟩ = some (.int .i64 T.k) ∧ w'.cell? ⟨g, off + k * 7 + 1, none⟩ = some (.string T.t) ∧ w'.cell? ⟨g, off + k * 7 + 2, none⟩ = some (.int .i64 T.b) ∧ w'.cell? ⟨g, off + k * 7 + 3, none⟩ = some (.int .i64 T.e) ∧ w'.cell? ⟨g, off + k * 7 + 4, none⟩ = some (.int .i64 T.l) ∧ w'.cell? ⟨g, off + k * 7 + 5, none⟩ = some (.int .i64 T.c) ∧ w'.cell? ⟨g, off + k * 7 + 6, none⟩ = some (u1) ∧ w'.cell? ⟨g2, off2 + k * 7, none⟩ = some (.int .i64 T.k) ∧ w'.cell? ⟨g2, off2 + k * 7 + 1, none⟩ = some (.string T.t) ∧ w'.cell? ⟨g2, off2 + k * 7 + 2, none⟩ = some (.int .i64 T.b) ∧ w'.cell? ⟨g2, off2 + k * 7 + 3, none⟩ = some (.int .i64 T.e) ∧ w'.cell? ⟨g2, off2 + k * 7 + 4, none⟩ = some (.int .i64 T.l) ∧ w'.cell? ⟨g2, off2 + k * 7 + 5, none⟩ = some (.int .i64 T.c) ∧ w'.cell? ⟨g2, off2 + k * 7 + 6, none⟩ = some (u2)) (by kernel_rfl) ⟨kx6, ky6, ka0, ka1, ka2, ka3, ka4, ka5, ka6, kb0, kb1, kb2, kb3, kb4, kb5, kb6⟩ (fun hHeld => ?_)
          clear kx6 ky6 ka0 ka1 ka2 ka3 ka4 ka5 ka6 kb0 kb1 kb2 kb3 kb4 kb5 kb6
          generalize wr.drew = w0 at bD qA qB hB hHeld ⊢
          clear x6 y6 a0 a1 a2 a3 a4 a5 a6 b0 b1 b2 b3 b4 b5 b6
          refine take' 0 (v := ?_) rfl (by kernel_rfl) (by kernel_rfl) (by kernel_rfl) (fun _ _ _ h => h) (Or.inl ⟨by rfl, ?_⟩) (by assumption) ?_
          rotate_left
          · intro w9 hSw
            go_simp
            first | done | with_reducible rfl
          simp only [Act.put, List.setIfInBounds_toArray, List.set_cons_zero, List.set_cons_succ]
          refine take' 1 (v := ?_) rfl (by kernel_rfl) (by kernel_rfl) (by kernel_rfl) (fun _ _ _ h => h) (Or.inl ⟨by rfl, ?_⟩) (by assumption) ?_
          rotate_left
          · intro w9 hSw
            go_simp
            first | done | with_reducible rfl
          simp only [Act.put, List.setIfInBounds_toArray, List.set_cons_zero, List.set_cons_succ]
          refine take' 2 (v := ?_) rfl (by kernel_rfl) (by kernel_rfl) (by kernel_rfl) (fun _ _ _ h => h) (Or.inl ⟨by rfl, ?_⟩) (by assumption) ?_
          rotate_left
          · intro w9 hSw
            go_simp
            first | done | with_reducible rfl
          simp only [Act.put, List.setIfInBounds_toArray, List.set_cons_zero, List.set_cons_succ]
          refine take' 3 (v := ?_) rfl (by kernel_rfl) (by kernel_rfl) (by kernel_rfl) (fun _ _ _ h => h) (Or.inl ⟨by rfl, ?_⟩) (by assumption) ?_
          rotate_left
          · intro w9 hSw
            go_simp
            first | done | with_reducible rfl
          simp only [Act.put, List.setIfInBounds_toArray, List.set_cons_zero, List.set_cons_succ]
          refine take' 4 (v := ?_) rfl (by kernel_rfl) (by kernel_rfl) (by kernel_rfl) (fun _ _ _ h => h) (Or.inl ⟨by rfl, ?_⟩) (by assumption) ?_
          rotate_left
          · intro w9 hSw
            go_simp
            first | done | with_reducible rfl
          simp only [Act.put, List.setIfInBounds_toArray, List.set_cons_zero, List.set_cons_succ]
          refine take' 5 (v := ?_) rfl (by kernel_rfl) (by kernel_rfl) (by kernel_rfl) (fun _ _ _ h => h) (Or.inl ⟨by rfl, ?_⟩) (by assumption) ?_
          rotate_left
          · intro w9 hSw
            go_simp
            first | done | with_reducible rfl
          simp only [Act.put, List.setIfInBounds_toArray, List.set_cons_zero, List.set_cons_succ]
          refine take' 6 (v := ?_) rfl (by kernel_rfl) (by kernel_rfl) (by kernel_rfl) (fun _ _ _ h => h) (Or.inl ⟨by rfl, ?_⟩) (by assumption) ?_
          rotate_left
          · intro w9 hSw
            go_simp
            first | done | with_reducible rfl
          simp only [Act.put, List.setIfInBounds_toArray, List.set_cons_zero, List.set_cons_succ]
          refine take' 7 (v := ?_) rfl (by kernel_rfl) (by kernel_rfl) (by kernel_rfl) (fun _ _ _ h => h) (Or.inl ⟨by rfl, ?_⟩) (by assumption) ?_
          rotate_left
          · intro w9 hSw
            go_simp
            first | done | with_reducible rfl
          simp only [Act.put, List.setIfInBounds_toArray, List.set_cons_zero, List.set_cons_succ]
          refine take' 8 (v := ?_) rfl (by kernel_rfl) (by kernel_rfl) (by kernel_rfl) (fun _ _ _ h => h) (Or.inl ⟨by rfl, ?_⟩) (by assumption) ?_
          rotate_left
          · intro w9 hSw
            go_simp
            first | done | with_reducible rfl
          simp only [Act.put, List.setIfInBounds_toArray, List.set_cons_zero, List.set_cons_succ]
          refine take' 9 (v := ?_) rfl (by kernel_rfl) (by kernel_rfl) (by kernel_rfl) (fun _ _ _ h => h) (Or.inl ⟨by rfl, ?_⟩) (by assumption) ?_
          rotate_left
          · intro w9 hSw
            go_simp
            first | done | with_reducible rfl
          simp only [Act.put, List.setIfInBounds_toArray, List.set_cons_zero, List.set_cons_succ]
          refine wpAnyH_ready (rs := [10]) (by kernel_rfl) (by simp) ?_
          refine cons' rfl (fun KK hKK => ?_)
          go_simp
          refine (GI.out _ (hB1.out.trans (hB.mono hB1.out.size))).mono ?_
          rintro e w5 ⟨rfl, b5⟩
          replace hB := hB.trans (b5.mono hB.size)
          replace qA := qA.later b5
          replace qB := qB.later b5
          replace hHeld := (⟨below_cell b5 hHeld.1, below_cell b5 hHeld.2.1, below_cell b5 hHeld.2.2.1, below_cell b5 hHeld.2.2.2.1, below_cell b5 hHeld.2.2.2.2.1, below_cell b5 hHeld.2.2.2.2.2.1, below_cell b5 hHeld.2.2.2.2.2.2.1, below_cell b5 hHeld.2.2.2.2.2.2.2.1, below_cell b5 hHeld.2.2.2.2.2.2.2.2.1, below_cell b5 hHeld.2.2.2.2.2.2.2.2.2.1, below_cell b5 hHeld.2.2.2.2.2.2.2.2.2.2.1, below_cell b5 hHeld.2.2.2.2.2.2.2.2.2.2.2.1, below_cell b5 hHeld.2.2.2.2.2.2.2.2.2.2.2.2.1, below_cell b5 hHeld.2.2.2.2.2.2.2.2.2.2.2.2.2.1, below_cell b5 hHeld.2.2.2.2.2.2.2.2.2.2.2.2.2.2.1, below_cell b5 hHeld.2.2.2.2.2.2.2.2.2.2.2.2.2.2.2⟩ : _ ∧ _ ∧ _ ∧ _ ∧ _ ∧ _ ∧ _ ∧ _ ∧ _ ∧ _ ∧ _ ∧ _ ∧ _ ∧ _ ∧ _ ∧ _)
          clear b5
          go_wp2_with fail
          refine hKK.out _ _ hHeld ?_
          clear hHeld
          intro hHeld
          clear hKK KK
          try simp only [Act.put, List.setIfInBounds_toArray, List.set_cons_zero, List.set_cons_succ]
          refine take' 11 (v := ?_) rfl (by kernel_rfl) (by kernel_rfl) (by kernel_rfl) (fun _ _ _ h => h) (Or.inl ⟨by rfl, ?_⟩) (by assumption) ?_
          rotate_left
          · intro w9 hSw
            go_simp
            first | done | with_reducible rfl
          simp only [Act.put, List.setIfInBounds_toArray, List.set_cons_zero, List.set_cons_succ]
          refine wpAnyH_done (by kernel_rfl) ?_ _
          clear hHeld
          go_wp2
          go_roundw
          case rel => exact ⟨k + 1, by omega, by go_num, qA, qB, hB⟩
          case measure => simp [intOf]; omega
        · have hki : ¬ ((k : Int) < (kids.length : Int)) := by omega
          go_wp2
          go_ret
          exact ⟨rfl, hB⟩

set_option maxHeartbeats 8000000 in
set_option maxRecDepth 100000 in
theorem alikeL {w0 : World} {P Q : Nat → Prop} {v1 v2 : Value} {kids : List Nd} (h1 : NdIn w0 P v1 kids) (h2 : NdIn w0 Q v2 kids) : Calls Tryd.prog 12 #[v1, v2] w0 fun e w' => e = .returned (.bool true) ∧ Below w0.heap.size w0 w' := by
  cases h1 with
  | nil a c =>
    obtain ⟨a2, c2, e2⟩ := h2.sl
    subst e2
    clear h2
    simp only [List.length_nil]
    go_enter Tryd.func12, Tryd.ntmps12
    go_wp2_with fail
    go_loopw [5] (fun i wr => i = .int .i64 0 ∧ Below w0.heap.size w0 wr) (fun i _ => 0)
    case atStart => exact ⟨rfl, Below.refl _ _⟩
    case round =>
      obtain ⟨rfl, hB⟩ := hrel
      go_wp2
      go_ret
      exact ⟨rfl, hB⟩
  | row g off c kids vs hn hb hP hc hv hk =>
    cases h2 with
    | nil a2 c2 => exact absurd hn (by simp)
    | row g2 off2 c2 _ vs2 hn2 hb2 hQ hc2 hv2 hk2 =>
      have IH := hideT (fun k (hk3 : k < kids.length) => alike1 (hk k hk3) (hk2 k hk3))
      have HC := hideT (And.intro hc (And.intro hv (And.intro hc2 hv2)))
      clear hc hv hc2 hv2 hk hk2 hP hQ
      go_enter Tryd.func12, Tryd.ntmps12
      go_wp2_with fail
      go_loopw [5] (fun i wr => ∃ k : Nat, k ≤ kids.length ∧ i = .int .i64 k ∧ Below w0.heap.size w0 wr) (fun i _ => kids.length - (intOf i).toNat)
      case atStart => exact ⟨0, Nat.zero_le _, rfl, Below.refl _ _⟩
      case round =>
        obtain ⟨k, hk, rfl, hB⟩ := hrel
        by_cases hlt : k < kids.length
        · have hki : ((k : Int) < (kids.length : Int)) := by omega
          obtain ⟨hc, hv, hc2, hv2⟩ := HC.out
          obtain ⟨T, hT⟩ : ∃ T, kids[k].t = T := ⟨_, rfl⟩
          have a0 := hc k hlt 0 (by decide)
          have a1 := hc k hlt 1 (by decide)
          have a2 := hc k hlt 2 (by decide)
          have a3 := hc k hlt 3 (by decide)
          have a4 := hc k hlt 4 (by decide)
          have a5 := hc k hlt 5 (by decide)
          rw [hT] at a0 a1 a2 a3 a4 a5
          simp only [Tok.cells, List.getElem?_cons_zero, List.getElem?_cons_succ] at a0 a1 a2 a3 a4 a5
          rw [Nat.add_zero] at a0
          have a6 := hv k hlt
          replace a0 := below_cell hB a0
          replace a1 := below_cell hB a1
          replace a2 := below_cell hB a2
          replace a3 := below_cell hB a3
          replace a4 := below_cell hB a4
          replace a5 := below_cell hB a5
          replace a6 := below_cell hB a6
          have b0 := hc2 k hlt 0 (by decide)
          have b1 := hc2 k hlt 1 (by decide)
          have b2 := hc2 k hlt 2 (by decide)
          have b3 := hc2 k hlt 3 (by decide)
          have b4 := hc2 k hlt 4 (by decide)
          have b5 := hc2 k hlt 5 (by decide)
          rw [hT] at b0 b1 b2 b3 b4 b5
          simp only [Tok.cells, List.getElem?_cons_zero, List.getElem?_cons_succ] at b0 b1 b2 b3 b4 b5
          rw [Nat.add_zero] at b0
          have b6 := hv2 k hlt
          replace b0 := below_cell hB b0
          replace b1 := below_cell hB b1
          replace b2 := below_cell hB b2
          replace b3 := below_cell hB b3
          replace b4 := below_cell hB b4
          replace b5 := below_cell hB b5
          replace b6 := below_cell hB b6
          have GI := hideT (fun W h => IH.out k hlt T W h)
          clear hc hv hc2 hv2 hT
          generalize vs k = u1 at a6 GI
          generalize vs2 k = u2 at b6 GI
          go_wp2_with fail
          have bD : Below wr.heap.size wr wr.drew := (Below.refl _ _).drew
          have ka0 := below_cell bD a0
          have ka1 := below_cell bD a1
          have ka2 := below_cell bD a2
          have ka3 := below_cell bD a3
          have ka4 := below_cell bD a4
          have ka5 := below_cell bD a5
          have ka6 := below_cell bD a6
          have kb0 := below_cell bD b0
          have kb1 := below_cell bD b1
          have kb2 := below_cell bD b2
          have kb3 := below_cell bD b3
          have kb4 := below_cell bD b4
          have kb5 := below_cell bD b5
          have kb6 := below_cell bD b6
          replace hB := hB.trans (bD.mono hB.size)
          refine wp_region_held_drew (S := fun w' => w'.cell? ⟨g, off + k * 7, none⟩ = some (.int .i64 T.k) ∧ w'.cell? ⟨g, off + k * 7 + 1, none⟩ = some (.string T.t) ∧ w'.cell? ⟨g, off + k * 7 + 2, none⟩ = some (.int .i64 T.b) ∧ w'.cell? ⟨g, off + k * 7 + 3, none⟩ = some (.int .i64 T.e) ∧ w'.cell? ⟨g, off + k * 7 + 4, none⟩ = some (.int .i64 T.l) ∧ w'.cell? ⟨g, off + k * 7 + 5, none⟩ = some (.int .i64 T.c) ∧ w'.cell? ⟨g, off + k * 7 + 6, none⟩ = some (u1) ∧ w'.cell? ⟨g2, off2 + k * 7, none⟩ = some (.int .i64 T.k) ∧ w'.cell? ⟨g2, off2 + k * 7 + 1, none⟩ = some (.string T.t) ∧ w'.cell? ⟨g2, off2 + k * 7 + 2, none⟩ = some (.int .i64 T.b) ∧ w'.cell? ⟨g2, off2 + k * 7 + 3, none⟩ = some (.int .i64 T.e) ∧ w'.cell? ⟨g2, off2 + k * 7 + 4, none⟩ = some (.int .i64 T.l) ∧ w'.cell? ⟨g2, off2 + k * 7 + 5, none⟩ = some (.int .i64 T.c) ∧ w'.cell? ⟨g2, off2 + k * 7 + 6, none⟩ = some (u2)) (by kernel_rfl) ⟨ka0, ka1, ka2, ka3, ka4, ka5, ka6, kb0, kb1, kb2, kb3, kb4, kb5, kb6⟩ (fun hHeld => ?_)
          clear ka0 ka1 ka2 ka3 ka4 ka5 ka6 kb0 kb1 kb2 kb3 kb4 kb5 kb6
          generalize wr.drew = w0 at bD hB hHeld ⊢
          clear a0 a1 a2 a3 a4 a5 a6 b0 b1 b2 b3 b4 b5 b6
          refine take' 0 (v := ?_) rfl (by kernel_rfl) (by kernel_rfl) (by kernel_rfl) (fun _ _ _ h => h) (Or.inl ⟨by rfl, ?_⟩) (by assumption) ?_
          rotate_left
          · intro w9 hSw
            go_simp
            first | done | with_reducible rfl
          simp only [Act.put, List.setIfInBounds_toArray, List.set_cons_zero, List.set_cons_succ]
          refine take' 1 (v := ?_) rfl (by kernel_rfl) (by kernel_rfl) (by kernel_rfl) (fun _ _ _ h => h) (Or.inl ⟨by rfl, ?_⟩) (by assumption) ?_
          rotate_left
          · intro w9 hSw
            go_simp
            first | done | with_reducible rfl
          simp only [Act.put, List.setIfInBounds_toArray, List.set_cons_zero, List.set_cons_succ]
          refine take' 2 (v := ?_) rfl (by kernel_rfl) (by kernel_rfl) (by kernel_rfl) (fun _ _ _ h => h) (Or.inl ⟨by rfl, ?_⟩) (by assumption) ?_
          rotate_left
          · intro w9 hSw
            go_simp
            first | done | with_reducible rfl
          simp only [Act.put, List.setIfInBounds_toArray, List.set_cons_zero, List.set_cons_succ]
          refine take' 3 (v := ?_) rfl (by kernel_rfl) (by kernel_rfl) (by kernel_rfl) (fun _ _ _ h => h) (Or.inl ⟨by rfl, ?_⟩) (by assumption) ?_
          rotate_left
          · intro w9 hSw
            go_simp
            first | done | with_reducible rfl
          simp only [Act.put, List.setIfInBounds_toArray, List.set_cons_zero, List.set_cons_succ]
          refine take' 4 (v := ?_) rfl (by kernel_rfl) (by kernel_rfl) (by kernel_rfl) (fun _ _ _ h => h) (Or.inl ⟨by rfl, ?_⟩) (by assumption) ?_
          rotate_left
          · intro w9 hSw
            go_simp
            first | done | with_reducible rfl
          simp only [Act.put, List.setIfInBounds_toArray, List.set_cons_zero, List.set_cons_succ]
          refine take' 5 (v := ?_) rfl (by kernel_rfl) (by kernel_rfl) (by kernel_rfl) (fun _ _ _ h => h) (Or.inl ⟨by rfl, ?_⟩) (by assumption) ?_
          rotate_left
          · intro w9 hSw
            go_simp
            first | done | with_reducible rfl
          simp only [Act.put, List.setIfInBounds_toArray, List.set_cons_zero, List.set_cons_succ]
          refine take' 6 (v := ?_) rfl (by kernel_rfl) (by kernel_rfl) (by kernel_rfl) (fun _ _ _ h => h) (Or.inl ⟨by rfl, ?_⟩) (by assumption) ?_
          rotate_left
          · intro w9 hSw
            go_simp
            first | done | with_reducible rfl
          simp only [Act.put, List.setIfInBounds_toArray, List.set_cons_zero, List.set_cons_succ]
          refine take' 7 (v := ?_) rfl (by kernel_rfl) (by kernel_rfl) (by kernel_rfl) (fun _ _ _ h => h) (Or.inl ⟨by rfl, ?_⟩) (by assumption) ?_
          rotate_left
          · intro w9 hSw
            go_simp
            first | done | with_reducible rfl
          simp only [Act.put, List.setIfInBounds_toArray, List.set_cons_zero, List.set_cons_succ]
          refine wpAnyH_ready (rs := [8]) (by kernel_rfl) (by simp) ?_
          refine cons' rfl (fun KK hKK => ?_)
          go_simp
          refine (GI.out _ hB).mono ?_
          rintro e w5 ⟨rfl, b5⟩
          replace hB := hB.trans (b5.mono hB.size)
          replace hHeld := (⟨below_cell b5 hHeld.1, below_cell b5 hHeld.2.1, below_cell b5 hHeld.2.2.1, below_cell b5 hHeld.2.2.2.1, below_cell b5 hHeld.2.2.2.2.1, below_cell b5 hHeld.2.2.2.2.2.1, below_cell b5 hHeld.2.2.2.2.2.2.1, below_cell b5 hHeld.2.2.2.2.2.2.2.1, below_cell b5 hHeld.2.2.2.2.2.2.2.2.1, below_cell b5 hHeld.2.2.2.2.2.2.2.2.2.1, below_cell b5 hHeld.2.2.2.2.2.2.2.2.2.2.1, below_cell b5 hHeld.2.2.2.2.2.2.2.2.2.2.2.1, below_cell b5 hHeld.2.2.2.2.2.2.2.2.2.2.2.2.1, below_cell b5 hHeld.2.2.2.2.2.2.2.2.2.2.2.2.2⟩ : _ ∧ _ ∧ _ ∧ _ ∧ _ ∧ _ ∧ _ ∧ _ ∧ _ ∧ _ ∧ _ ∧ _ ∧ _ ∧ _)
          clear b5
          go_wp2_with fail
          refine hKK.out _ _ hHeld ?_
          clear hHeld
          intro hHeld
          clear hKK KK
          try simp only [Act.put, List.setIfInBounds_toArray, List.set_cons_zero, List.set_cons_succ]
          refine take' 9 (v := ?_) rfl (by kernel_rfl) (by kernel_rfl) (by kernel_rfl) (fun _ _ _ h => h) (Or.inl ⟨by rfl, ?_⟩) (by assumption) ?_
          rotate_left
          · intro w9 hSw
            go_simp
            first | done | with_reducible rfl
          simp only [Act.put, List.setIfInBounds_toArray, List.set_cons_zero, List.set_cons_succ]
          refine wpAnyH_done (by kernel_rfl) ?_ _
          clear hHeld
          go_wp2
          go_roundw
          case rel => exact ⟨k + 1, by omega, by go_num, hB⟩
          case measure => simp [intOf]; omega
        · have hki : ¬ ((k : Int) < (kids.length : Int)) := by omega
          go_wp2
          go_ret
          exact ⟨rfl, hB⟩

end Go.Proofs.YtibeiggedmabkaaDoor
