/-
  The reader's small parts: caught, isReading, Depth, last, refusal, tell, stop.
-/
import Derived.Test.YtibeiggedmabkaaDoorSXN
import Derived.Test.YtibeiggedmabkaaDoorTKB
import Derived.Deep.Cut
namespace Go.Proofs.YtibeiggedmabkaaDoor
open Go.RowKit
set_option linter.unusedVariables false
set_option linter.unusedSimpArgs false

/-- a list of nodes in memory, and all that stands in them; P holds of the blocks in which they lie -/
inductive NdIn (w : World) (P : Nat → Prop) : Value → List Nd → Prop
  | nil (a : Option Addr) (c : Nat) : NdIn w P (.slice a 0 c) []
  | row (g off c : Nat) (kids : List Nd) (vs : Nat → Value) (hn : 0 < kids.length) (hb : kids.length ≤ 1099511627776) (hP : P g)
      (hc : ∀ i (h : i < kids.length) j, j < 6 → w.cell? ⟨g, off + i * 7 + j, none⟩ = (kids[i].t).cells[j]?)
      (hv : ∀ i, i < kids.length → w.cell? ⟨g, off + i * 7 + 6, none⟩ = some (vs i))
      (hk : ∀ i (h : i < kids.length), NdIn w P (vs i) (kids[i].kids)) : NdIn w P (.slice (some ⟨g, off, none⟩) kids.length c) kids
theorem NdIn.sl {w : World} {P : Nat → Prop} {v : Value} {l : List Nd} (h : NdIn w P v l) : ∃ a c, v = .slice a l.length c := by
  cases h with
  | nil a c => exact ⟨a, c, rfl⟩
  | row g off c => exact ⟨_, c, rfl⟩
/-- it stays where only other blocks change -/
theorem NdIn.kept {w w' : World} {P Q : Nat → Prop} {v : Value} {l : List Nd} (h : NdIn w P v l) (hk : ∀ g, P g → g < w.heap.size → w'.heap[g]? = w.heap[g]?) (hQ : ∀ g, P g → Q g) : NdIn w' Q v l := by
  induction h with
  | nil a c => exact .nil a c
  | row g off c kids vs hn hb hP hc hv _ ih =>
    have hlt : g < w.heap.size := World.block_lt_of_cell? w _ (hv 0 hn)
    have e : ∀ o, w'.cell? ⟨g, o, none⟩ = w.cell? ⟨g, o, none⟩ := fun o => World.cell?_of_block (w := w) (a := ⟨g, o, none⟩) (hk g hP hlt)
    exact .row g off c kids vs hn hb (hQ g hP) (fun i h j hj => by rw [e]; exact hc i h j hj) (fun i h => by rw [e]; exact hv i h) ih
theorem NdIn.on {w w' : World} {P : Nat → Prop} {v : Value} {l : List Nd} (h : NdIn w P v l) (hb : Below w.heap.size w w') : NdIn w' P v l := h.kept (fun g _ hg => hb.block g hg) (fun _ c => c)
set_option maxHeartbeats 8000000 in
set_option maxRecDepth 100000 in
theorem alike1 {w0 : World} {P : Nat → Prop} {v1 : Value} {kids : List Nd} (h1 : NdIn w0 P v1 kids) : ∀ {Q : Nat → Prop} {v2 : Value} (h2 : NdIn w0 Q v2 kids) (t : Tok) (w : World) (hB0 : Below w0.heap.size w0 w), Calls Tryd.prog 23 #[.agg #[.int .i64 t.k, .string t.t, .int .i64 t.b, .int .i64 t.e, .int .i64 t.l, .int .i64 t.c, v1], .agg #[.int .i64 t.k, .string t.t, .int .i64 t.b, .int .i64 t.e, .int .i64 t.l, .int .i64 t.c, v2]] w fun e w' => e = .returned (.bool true) ∧ Below w.heap.size w w' := by
  induction h1 with
  | nil a c =>
    intro Q v2 h2 t w hB0
    obtain ⟨a2, c2, e2⟩ := h2.sl
    subst e2
    clear h2
    simp only [List.length_nil]
    have b1 := below_alloc (w := w) (.cells #[.int .i64 t.k, .string t.t, .int .i64 t.b, .int .i64 t.e, .int .i64 t.l, .int .i64 t.c, .slice a 0 c] 34)
    have qA := Blk.new w #[.int .i64 t.k, .string t.t, .int .i64 t.b, .int .i64 t.e, .int .i64 t.l, .int .i64 t.c, .slice a 0 c] 34
    have e1 : (w.alloc (.cells #[.int .i64 t.k, .string t.t, .int .i64 t.b, .int .i64 t.e, .int .i64 t.l, .int .i64 t.c, .slice a 0 c] 34)).heap.size = w.heap.size + 1 := by simp
    have b2 := below_alloc (w := w.alloc (.cells #[.int .i64 t.k, .string t.t, .int .i64 t.b, .int .i64 t.e, .int .i64 t.l, .int .i64 t.c, .slice a 0 c] 34)) (.cells #[.int .i64 t.k, .string t.t, .int .i64 t.b, .int .i64 t.e, .int .i64 t.l, .int .i64 t.c, .slice a2 0 c2] 34)
    have qB := Blk.new (w.alloc (.cells #[.int .i64 t.k, .string t.t, .int .i64 t.b, .int .i64 t.e, .int .i64 t.l, .int .i64 t.c, .slice a 0 c] 34)) #[.int .i64 t.k, .string t.t, .int .i64 t.b, .int .i64 t.e, .int .i64 t.l, .int .i64 t.c, .slice a2 0 c2] 34
    rw [e1] at qB
    replace qA := qA.later b2
    have hB := b1.trans (b2.mono b1.size)
    clear b1 b2
    go_enter Tryd.func23, Tryd.ntmps23
    go_upto_region 1 with fail
    try rw [e1]
    generalize (w.alloc (.cells #[.int .i64 t.k, .string t.t, .int .i64 t.b, .int .i64 t.e, .int .i64 t.l, .int .i64 t.c, .slice a 0 c] 34)).alloc (.cells #[.int .i64 t.k, .string t.t, .int .i64 t.b, .int .i64 t.e, .int .i64 t.l, .int .i64 t.c, .slice a2 0 c2] 34) = W at qA qB hB ⊢
    clear e1
    have x0 := qA.cell 0
    have y0 := qB.cell 0
    have x1 := qA.cell 1
    have y1 := qB.cell 1
    have x2 := qA.cell 2
    have y2 := qB.cell 2
    have x3 := qA.cell 3
    have y3 := qB.cell 3
    have x4 := qA.cell 4
    have y4 := qB.cell 4
    have x5 := qA.cell 5
    have y5 := qB.cell 5
    have x6 := qA.cell 6
    have y6 := qB.cell 6
    simp only [List.getElem?_toArray, List.getElem?_cons_zero, List.getElem?_cons_succ] at x0 y0 x1 y1 x2 y2 x3 y3 x4 y4 x5 y5 x6 y6
    go_wp2_with fail
    go_loopw [5] (fun i wr => i = .int .i64 0 ∧ Blk wr w.heap.size #[.int .i64 t.k, .string t.t, .int .i64 t.b, .int .i64 t.e, .int .i64 t.l, .int .i64 t.c, .slice a 0 c] 34 ∧ Below w.heap.size w wr) (fun i _ => 0)
    case atStart => exact ⟨rfl, qA, hB⟩
    case round =>
      clear qA qB hB x0 y0 x1 y1 x2 y2 x3 y3 x4 y4 x5 y5 x6 y6
      obtain ⟨rfl, qA, hB⟩ := hrel
      have x6 := qA.cell 6
      simp only [List.getElem?_toArray, List.getElem?_cons_zero, List.getElem?_cons_succ] at x6
      go_wp2
      go_ret
      exact ⟨rfl, hB⟩
  | row g off c kids vs hn hb hP hc hv hk ih =>
    intro Q v2 h2 t w hB0
    cases h2 with
    | nil a2 c2 => exact absurd hn (by simp)
    | row g2 off2 c2 _ vs2 hn2 hb2 hQ hc2 hv2 hk2 =>
      have IH := hideT (fun k (hk3 : k < kids.length) => ih k hk3 (hk2 k hk3))
      have HC := hideT (And.intro hc (And.intro hv (And.intro hc2 hv2)))
      clear ih hc hv hc2 hv2 hk hk2 hP hQ
      have b1 := below_alloc (w := w) (.cells #[.int .i64 t.k, .string t.t, .int .i64 t.b, .int .i64 t.e, .int .i64 t.l, .int .i64 t.c, .slice (some ⟨g, off, none⟩) kids.length c] 34)
      have qA := Blk.new w #[.int .i64 t.k, .string t.t, .int .i64 t.b, .int .i64 t.e, .int .i64 t.l, .int .i64 t.c, .slice (some ⟨g, off, none⟩) kids.length c] 34
      have e1 : (w.alloc (.cells #[.int .i64 t.k, .string t.t, .int .i64 t.b, .int .i64 t.e, .int .i64 t.l, .int .i64 t.c, .slice (some ⟨g, off, none⟩) kids.length c] 34)).heap.size = w.heap.size + 1 := by simp
      have b2 := below_alloc (w := w.alloc (.cells #[.int .i64 t.k, .string t.t, .int .i64 t.b, .int .i64 t.e, .int .i64 t.l, .int .i64 t.c, .slice (some ⟨g, off, none⟩) kids.length c] 34)) (.cells #[.int .i64 t.k, .string t.t, .int .i64 t.b, .int .i64 t.e, .int .i64 t.l, .int .i64 t.c, .slice (some ⟨g2, off2, none⟩) kids.length c2] 34)
      have qB := Blk.new (w.alloc (.cells #[.int .i64 t.k, .string t.t, .int .i64 t.b, .int .i64 t.e, .int .i64 t.l, .int .i64 t.c, .slice (some ⟨g, off, none⟩) kids.length c] 34)) #[.int .i64 t.k, .string t.t, .int .i64 t.b, .int .i64 t.e, .int .i64 t.l, .int .i64 t.c, .slice (some ⟨g2, off2, none⟩) kids.length c2] 34
      rw [e1] at qB
      replace qA := qA.later b2
      have hB := b1.trans (b2.mono b1.size)
      clear b1 b2
      go_enter Tryd.func23, Tryd.ntmps23
      go_upto_region 1 with fail
      try rw [e1]
      generalize (w.alloc (.cells #[.int .i64 t.k, .string t.t, .int .i64 t.b, .int .i64 t.e, .int .i64 t.l, .int .i64 t.c, .slice (some ⟨g, off, none⟩) kids.length c] 34)).alloc (.cells #[.int .i64 t.k, .string t.t, .int .i64 t.b, .int .i64 t.e, .int .i64 t.l, .int .i64 t.c, .slice (some ⟨g2, off2, none⟩) kids.length c2] 34) = W at qA qB hB ⊢
      clear e1
      have x0 := qA.cell 0
      have y0 := qB.cell 0
      have x1 := qA.cell 1
      have y1 := qB.cell 1
      have x2 := qA.cell 2
      have y2 := qB.cell 2
      have x3 := qA.cell 3
      have y3 := qB.cell 3
      have x4 := qA.cell 4
      have y4 := qB.cell 4
      have x5 := qA.cell 5
      have y5 := qB.cell 5
      have x6 := qA.cell 6
      have y6 := qB.cell 6
      simp only [List.getElem?_toArray, List.getElem?_cons_zero, List.getElem?_cons_succ] at x0 y0 x1 y1 x2 y2 x3 y3 x4 y4 x5 y5 x6 y6
      go_wp2_with fail
      go_loopw [5] (fun i wr => ∃ k : Nat, k ≤ kids.length ∧ i = .int .i64 k ∧ Blk wr w.heap.size #[.int .i64 t.k, .string t.t, .int .i64 t.b, .int .i64 t.e, .int .i64 t.l, .int .i64 t.c, .slice (some ⟨g, off, none⟩) kids.length c] 34 ∧ Blk wr (w.heap.size + 1) #[.int .i64 t.k, .string t.t, .int .i64 t.b, .int .i64 t.e, .int .i64 t.l, .int .i64 t.c, .slice (some ⟨g2, off2, none⟩) kids.length c2] 34 ∧ Below w.heap.size w wr) (fun i _ => kids.length - (intOf i).toNat)
      case atStart => exact ⟨0, Nat.zero_le _, rfl, qA, qB, hB⟩
      case round =>
        clear qA qB hB x0 y0 x1 y1 x2 y2 x3 y3 x4 y4 x5 y5 x6 y6
        obtain ⟨k, hk, rfl, qA, qB, hB⟩ := hrel
        have x6 := qA.cell 6
        have y6 := qB.cell 6
        simp only [List.getElem?_toArray, List.getElem?_cons_zero, List.getElem?_cons_succ] at x6 y6
        by_cases hlt : k < kids.length
        · have hki : ((k : Int) < (kids.length : Int)) := by omega
          have h0 := hB0.trans (hB.mono hB0.size)
          obtain ⟨hc, hv, hc2, hv2⟩ := HC.out
          obtain ⟨T, hT⟩ : ∃ T, kids[k].t = T := ⟨_, rfl⟩
          have a0 := hc k hlt 0 (by decide)
          have a1 := hc k hlt 1 (by decide)
          have a2 := hc k hlt 2 (by decide)
          have a3 := hc k hlt 3 (by decide)
          have a4 := hc k hlt 4 (by decide)
          have a5 := hc k hlt 5 (by decide)
          rw [hT] at a0 a1 a2 a3 a4 a5
          simp only [Tok.cells, List.getElem?_cons_zero, List.getElem?_cons_succ] at a0 a1 a2 a3 a4 a5
          rw [Nat.add_zero] at a0
          have a6 := hv k hlt
          replace a0 := below_cell h0 a0
          replace a1 := below_cell h0 a1
          replace a2 := below_cell h0 a2
          replace a3 := below_cell h0 a3
          replace a4 := below_cell h0 a4
          replace a5 := below_cell h0 a5
          replace a6 := below_cell h0 a6
          have b0 := hc2 k hlt 0 (by decide)
          have b1 := hc2 k hlt 1 (by decide)
          have b2 := hc2 k hlt 2 (by decide)
          have b3 := hc2 k hlt 3 (by decide)
          have b4 := hc2 k hlt 4 (by decide)
          have b5 := hc2 k hlt 5 (by decide)
          rw [hT] at b0 b1 b2 b3 b4 b5
          simp only [Tok.cells, List.getElem?_cons_zero, List.getElem?_cons_succ] at b0 b1 b2 b3 b4 b5
          rw [Nat.add_zero] at b0
          have b6 := hv2 k hlt
          replace b0 := below_cell h0 b0
          replace b1 := below_cell h0 b1
          replace b2 := below_cell h0 b2
          replace b3 := below_cell h0 b3
          replace b4 := below_cell h0 b4
          replace b5 := below_cell h0 b5
          replace b6 := below_cell h0 b6
          have GI := hideT (fun W h => IH.out k hlt T W h)
          clear hc hv hc2 hv2 hT
          generalize vs k = u1 at a6 GI
          generalize vs2 k = u2 at b6 GI
          have hB1 := hideT hB0
          go_wp2_with fail
          have bD : Below wr.heap.size wr wr.drew := (Below.refl _ _).drew
          have kx6 := below_cell bD x6
          have ky6 := below_cell bD y6
          have ka0 := below_cell bD a0
          have ka1 := below_cell bD a1
          have ka2 := below_cell bD a2
          have ka3 := below_cell bD a3
          have ka4 := below_cell bD a4
          have ka5 := below_cell bD a5
          have ka6 := below_cell bD a6
          have kb0 := below_cell bD b0
          have kb1 := below_cell bD b1
          have kb2 := below_cell bD b2
          have kb3 := below_cell bD b3
          have kb4 := below_cell bD b4
          have kb5 := below_cell bD b5
          have kb6 := below_cell bD b6
          replace hB := hB.trans (bD.mono hB.size)
          replace qA := qA.later bD
          replace qB := qB.later bD
          refine wp_region_held_drew (S := fun w' => w'.cell? ⟨w.heap.size, 6, none⟩ = some (.slice (some ⟨g, off, none⟩) kids.length c) ∧ w'.cell? ⟨w.heap.size + 1, 6, none⟩ = some (.slice (some ⟨g2, off2, none⟩) kids.length c2) ∧ w'.cell? ⟨g, off + k * 7, none⟩ = some (.int .i64 T.k) ∧ w'.cell? ⟨g, off + k * 7 + 1, none⟩ = some (.string T.t) ∧ w'.cell? ⟨g, off + k * 7 + 2, none⟩ = some (.int .i64 T.b) ∧ w'.cell? ⟨g, off + k * 7 + 3, none⟩ = some (.int .i64 T.e) ∧ w'.cell? ⟨g, off + k * 7 + 4, none⟩ = some (.int .i64 T.l) ∧ w'.cell? ⟨g, off + k * 7 + 5, none⟩ = some (.int .i64 T.c) ∧ w'.cell? ⟨g, off + k * 7 + 6, none⟩ = some (u1) ∧ w'.cell? ⟨g2, off2 + k * 7, none⟩ = some (.int .i64 T.k) ∧ w'.cell? ⟨g2, off2 + k * 7 + 1, none⟩ = some (.string T.t) ∧ w'.cell? ⟨g2, off2 + k * 7 + 2, none⟩ = some (.int .i64 T.b) ∧ w'.cell? ⟨g2, off2 + k * 7 + 3, none⟩ = some (.int .i64 T.e) ∧ w'.cell? ⟨g2, off2 + k * 7 + 4, none⟩ = some (.int .i64 T.l) ∧ w'.cell? ⟨g2, off2 + k * 7 + 5, none⟩ = some (.int .i64 T.c) ∧ w'.cell? ⟨g2, off2 + k * 7 + 6, none⟩ = some (u2)) (by kernel_rfl) ⟨kx6, ky6, ka0, ka1, ka2, ka3, ka4, ka5, ka6, kb0, kb1, kb2, kb3, kb4, kb5, kb6⟩ (fun hHeld => ?_)
          clear kx6 ky6 ka0 ka1 ka2 ka3 ka4 ka5 ka6 kb0 kb1 kb2 kb3 kb4 kb5 kb6
          generalize wr.drew = w0 at bD qA qB hB hHeld ⊢
          clear x6 y6 a0 a1 a2 a3 a4 a5 a6 b0 b1 b2 b3 b4 b5 b6
          refine take' 0 (v := ?_) rfl (by kernel_rfl) (by kernel_rfl) (by kernel_rfl) (fun _ _ _ h => h) (Or.inl ⟨by rfl, ?_⟩) (by assumption) ?_
          rotate_left
          · intro w9 hSw
            go_simp
            first | done | with_reducible rfl
          simp only [Act.put, List.setIfInBounds_toArray, List.set_cons_zero, List.set_cons_succ]
          refine take' 1 (v := ?_) rfl (by kernel_rfl) (by kernel_rfl) (by kernel_rfl) (fun _ _ _ h => h) (Or.inl ⟨by rfl, ?_⟩) (by assumption) ?_
          rotate_left
          · intro w9 hSw
            go_simp
            first | done | with_reducible rfl
          simp only [Act.put, List.setIfInBounds_toArray, List.set_cons_zero, List.set_cons_succ]
          refine take' 2 (v := ?_) rfl (by kernel_rfl) (by kernel_rfl) (by kernel_rfl) (fun _ _ _ h => h) (Or.inl ⟨by rfl, ?_⟩) (by assumption) ?_
          rotate_left
          · intro w9 hSw
            go_simp
            first | done | with_reducible rfl
          simp only [Act.put, List.setIfInBounds_toArray, List.set_cons_zero, List.set_cons_succ]
          refine take' 3 (v := ?_) rfl (by kernel_rfl) (by kernel_rfl) (by kernel_rfl) (fun _ _ _ h => h) (Or.inl ⟨by rfl, ?_⟩) (by assumption) ?_
          rotate_left
          · intro w9 hSw
            go_simp
            first | done | with_reducible rfl
          simp only [Act.put, List.setIfInBounds_toArray, List.set_cons_zero, List.set_cons_succ]
          refine take' 4 (v := ?_) rfl (by kernel_rfl) (by kernel_rfl) (by kernel_rfl) (fun _ _ _ h => h) (Or.inl ⟨by rfl, ?_⟩) (by assumption) ?_
          rotate_left
          · intro w9 hSw
            go_simp
            first | done | with_reducible rfl
          simp only [Act.put, List.setIfInBounds_toArray, List.set_cons_zero, List.set_cons_succ]
          refine take' 5 (v := ?_) rfl (by kernel_rfl) (by kernel_rfl) (by kernel_rfl) (fun _ _ _ h => h) (Or.inl ⟨by rfl, ?_⟩) (by assumption) ?_
          rotate_left
          · intro w9 hSw
            go_simp
            first | done | with_reducible rfl
          simp only [Act.put, List.setIfInBounds_toArray, List.set_cons_zero, List.set_cons_succ]
          refine take' 6 (v := ?_) rfl (by kernel_rfl) (by kernel_rfl) (by kernel_rfl) (fun _ _ _ h => h) (Or.inl ⟨by rfl, ?_⟩) (by assumption) ?_
          rotate_left
          · intro w9 hSw
            go_simp
            first | done | with_reducible rfl
          simp only [Act.put, List.setIfInBounds_toArray, List.set_cons_zero, List.set_cons_succ]
          refine take' 7 (v := ?_) rfl (by kernel_rfl) (by kernel_rfl) (by kernel_rfl) (fun _ _ _ h => h) (Or.inl ⟨by rfl, ?_⟩) (by assumption) ?_
          rotate_left
          · intro w9 hSw
            go_simp
            first | done | with_reducible rfl
          simp only [Act.put, List.setIfInBounds_toArray, List.set_cons_zero, List.set_cons_succ]
          refine take' 8 (v := ?_) rfl (by kernel_rfl) (by kernel_rfl) (by kernel_rfl) (fun _ _ _ h => h) (Or.inl ⟨by rfl, ?_⟩) (by assumption) ?_
          rotate_left
          · intro w9 hSw
            go_simp
            first | done | with_reducible rfl
          simp only [Act.put, List.setIfInBounds_toArray, List.set_cons_zero, List.set_cons_succ]
          refine take' 9 (v := ?_) rfl (by kernel_rfl) (by kernel_rfl) (by kernel_rfl) (fun _ _ _ h => h) (Or.inl ⟨by rfl, ?_⟩) (by assumption) ?_
          rotate_left
          · intro w9 hSw
            go_simp
            first | done | with_reducible rfl
          simp only [Act.put, List.setIfInBounds_toArray, List.set_cons_zero, List.set_cons_succ]
          refine wpAnyH_ready (rs := [10]) (by kernel_rfl) (by simp) ?_
          refine cons' rfl (fun KK hKK => ?_)
          go_simp
          refine (GI.out _ (hB1.out.trans (hB.mono hB1.out.size))).mono ?_
          rintro e w5 ⟨rfl, b5⟩
          replace hB := hB.trans (b5.mono hB.size)
          replace qA := qA.later b5
          replace qB := qB.later b5
          replace hHeld := (⟨below_cell b5 hHeld.1, below_cell b5 hHeld.2.1, below_cell b5 hHeld.2.2.1, below_cell b5 hHeld.2.2.2.1, below_cell b5 hHeld.2.2.2.2.1, below_cell b5 hHeld.2.2.2.2.2.1, below_cell b5 hHeld.2.2.2.2.2.2.1, below_cell b5 hHeld.2.2.2.2.2.2.2.1, below_cell b5 hHeld.2.2.2.2.2.2.2.2.1, below_cell b5 hHeld.2.2.2.2.2.2.2.2.2.1, below_cell b5 hHeld.2.2.2.2.2.2.2.2.2.2.1, below_cell b5 hHeld.2.2.2.2.2.2.2.2.2.2.2.1, below_cell b5 hHeld.2.2.2.2.2.2.2.2.2.2.2.2.1, below_cell b5 hHeld.2.2.2.2.2.2.2.2.2.2.2.2.2.1, below_cell b5 hHeld.2.2.2.2.2.2.2.2.2.2.2.2.2.2.1, below_cell b5 hHeld.2.2.2.2.2.2.2.2.2.2.2.2.2.2.2⟩ : _ ∧ _ ∧ _ ∧ _ ∧ _ ∧ _ ∧ _ ∧ _ ∧ _ ∧ _ ∧ _ ∧ _ ∧ _ ∧ _ ∧ _ ∧ _)
          clear b5
          go_wp2_with fail
          refine hKK.out _ _ hHeld ?_
          clear hHeld
          intro hHeld
          clear hKK KK
          try simp only [Act.put, List.setIfInBounds_toArray, List.set_cons_zero, List.set_cons_succ]
          refine take' 11 (v := ?_) rfl (by kernel_rfl) (by kernel_rfl) (by kernel_rfl) (fun _ _ _ h => h) (Or.inl ⟨by rfl, ?_⟩) (by assumption) ?_
          rotate_left
          · intro w9 hSw
            go_simp
            first | done | with_reducible rfl
          simp only [Act.put, List.setIfInBounds_toArray, List.set_cons_zero, List.set_cons_succ]
          refine wpAnyH_done (by kernel_rfl) ?_ _
          clear hHeld
          go_wp2
          go_roundw
          case rel => exact ⟨k + 1, by omega, by go_num, qA, qB, hB⟩
          case measure => simp [intOf]; omega
        · have hki : ¬ ((k : Int) < (kids.length : Int)) := by omega
          go_wp2
          go_ret
          exact ⟨rfl, hB⟩

set_option maxHeartbeats 8000000 in
set_option maxRecDepth 100000 in
theorem alikeL {w0 : World} {P Q : Nat → Prop} {v1 v2 : Value} {kids : List Nd} (h1 : NdIn w0 P v1 kids) (h2 : NdIn w0 Q v2 kids) : Calls Tryd.prog 12 #[v1, v2] w0 fun e w' => e = .returned (.bool true) ∧ Below w0.heap.size w0 w' := by
  cases h1 with
  | nil a c =>
    obtain ⟨a2, c2, e2⟩ := h2.sl
    subst e2
    clear h2
    simp only [List.length_nil]
    go_enter Tryd.func12, Tryd.ntmps12
    go_wp2_with fail
    go_loopw [5] (fun i wr => i = .int .i64 0 ∧ Below w0.heap.size w0 wr) (fun i _ => 0)
    case atStart => exact ⟨rfl, Below.refl _ _⟩
    case round =>
      obtain ⟨rfl, hB⟩ := hrel
      go_wp2
      go_ret
      exact ⟨rfl, hB⟩
  | row g off c kids vs hn hb hP hc hv hk =>
    cases h2 with
    | nil a2 c2 => exact absurd hn (by simp)
    | row g2 off2 c2 _ vs2 hn2 hb2 hQ hc2 hv2 hk2 =>
      have IH := hideT (fun k (hk3 : k < kids.length) => alike1 (hk k hk3) (hk2 k hk3))
      have HC := hideT (And.intro hc (And.intro hv (And.intro hc2 hv2)))
      clear hc hv hc2 hv2 hk hk2 hP hQ
      go_enter Tryd.func12, Tryd.ntmps12
      go_wp2_with fail
      go_loopw [5] (fun i wr => ∃ k : Nat, k ≤ kids.length ∧ i = .int .i64 k ∧ Below w0.heap.size w0 wr) (fun i _ => kids.length - (intOf i).toNat)
      case atStart => exact ⟨0, Nat.zero_le _, rfl, Below.refl _ _⟩
      case round =>
        obtain ⟨k, hk, rfl, hB⟩ := hrel
        by_cases hlt : k < kids.length
        · have hki : ((k : Int) < (kids.length : Int)) := by omega
          obtain ⟨hc, hv, hc2, hv2⟩ := HC.out
          obtain ⟨T, hT⟩ : ∃ T, kids[k].t = T := ⟨_, rfl⟩
          have a0 := hc k hlt 0 (by decide)
          have a1 := hc k hlt 1 (by decide)
          have a2 := hc k hlt 2 (by decide)
          have a3 := hc k hlt 3 (by decide)
          have a4 := hc k hlt 4 (by decide)
          have a5 := hc k hlt 5 (by decide)
          rw [hT] at a0 a1 a2 a3 a4 a5
          simp only [Tok.cells, List.getElem?_cons_zero, List.getElem?_cons_succ] at a0 a1 a2 a3 a4 a5
          rw [Nat.add_zero] at a0
          have a6 := hv k hlt
          replace a0 := below_cell hB a0
          replace a1 := below_cell hB a1
          replace a2 := below_cell hB a2
          replace a3 := below_cell hB a3
          replace a4 := below_cell hB a4
          replace a5 := below_cell hB a5
          replace a6 := below_cell hB a6
          have b0 := hc2 k hlt 0 (by decide)
          have b1 := hc2 k hlt 1 (by decide)
          have b2 := hc2 k hlt 2 (by decide)
          have b3 := hc2 k hlt 3 (by decide)
          have b4 := hc2 k hlt 4 (by decide)
          have b5 := hc2 k hlt 5 (by decide)
          rw [hT] at b0 b1 b2 b3 b4 b5
          simp only [Tok.cells, List.getElem?_cons_zero, List.getElem?_cons_succ] at b0 b1 b2 b3 b4 b5
          rw [Nat.add_zero] at b0
          have b6 := hv2 k hlt
          replace b0 := below_cell hB b0
          replace b1 := below_cell hB b1
          replace b2 := below_cell hB b2
          replace b3 := below_cell hB b3
          replace b4 := below_cell hB b4
          replace b5 := below_cell hB b5
          replace b6 := below_cell hB b6
          have GI := hideT (fun W h => IH.out k hlt T W h)
          clear hc hv hc2 hv2 hT
          generalize vs k = u1 at a6 GI
          generalize vs2 k = u2 at b6 GI
          go_wp2_with fail
          have bD : Below wr.heap.size wr wr.drew := (Below.refl _ _).drew
          have ka0 := below_cell bD a0
          have ka1 := below_cell bD a1
          have ka2 := below_cell bD a2
          have ka3 := below_cell bD a3
          have ka4 := below_cell bD a4
          have ka5 := below_cell bD a5
          have ka6 := below_cell bD a6
          have kb0 := below_cell bD b0
          have kb1 := below_cell bD b1
          have kb2 := below_cell bD b2
          have kb3 := below_cell bD b3
          have kb4 := below_cell bD b4
          have kb5 := below_cell bD b5
          have kb6 := below_cell bD b6
          replace hB := hB.trans (bD.mono hB.size)
          refine wp_region_held_drew (S := fun w' => w'.cell? ⟨g, off + k * 7, none⟩ = some (.int .i64 T.k) ∧ w'.cell? ⟨g, off + k * 7 + 1, none⟩ = some (.string T.t) ∧ w'.cell? ⟨g, off + k * 7 + 2, none⟩ = some (.int .i64 T.b) ∧ w'.cell? ⟨g, off + k * 7 + 3, none⟩ = some (.int .i64 T.e) ∧ w'.cell? ⟨g, off + k * 7 + 4, none⟩ = some (.int .i64 T.l) ∧ w'.cell? ⟨g, off + k * 7 + 5, none⟩ = some (.int .i64 T.c) ∧ w'.cell? ⟨g, off + k * 7 + 6, none⟩ = some (u1) ∧ w'.cell? ⟨g2, off2 + k * 7, none⟩ = some (.int .i64 T.k) ∧ w'.cell? ⟨g2, off2 + k * 7 + 1, none⟩ = some (.string T.t) ∧ w'.cell? ⟨g2, off2 + k * 7 + 2, none⟩ = some (.int .i64 T.b) ∧ w'.cell? ⟨g2, off2 + k * 7 + 3, none⟩ = some (.int .i64 T.e) ∧ w'.cell? ⟨g2, off2 + k * 7 + 4, none⟩ = some (.int .i64 T.l) ∧ w'.cell? ⟨g2, off2 + k * 7 + 5, none⟩ = some (.int .i64 T.c) ∧ w'.cell? ⟨g2, off2 + k * 7 + 6, none⟩ = some (u2)) (by kernel_rfl) ⟨ka0, ka1, ka2, ka3, ka4, ka5, ka6, kb0, kb1, kb2, kb3, kb4, kb5, kb6⟩ (fun hHeld => ?_)
          clear ka0 ka1 ka2 ka3 ka4 ka5 ka6 kb0 kb1 kb2 kb3 kb4 kb5 kb6
          generalize wr.drew = w0 at bD hB hHeld ⊢
          clear a0 a1 a2 a3 a4 a5 a6 b0 b1 b2 b3 b4 b5 b6
          refine take' 0 (v := ?_) rfl (by kernel_rfl) (by kernel_rfl) (by kernel_rfl) (fun _ _ _ h => h) (Or.inl ⟨by rfl, ?_⟩) (by assumption) ?_
          rotate_left
          · intro w9 hSw
            go_simp
            first | done | with_reducible rfl
          simp only [Act.put, List.setIfInBounds_toArray, List.set_cons_zero, List.set_cons_succ]
          refine take' 1 (v := ?_) rfl (by kernel_rfl) (by kernel_rfl) (by kernel_rfl) (fun _ _ _ h => h) (Or.inl ⟨by rfl, ?_⟩) (by assumption) ?_
          rotate_left
          · intro w9 hSw
            go_simp
            first | done | with_reducible rfl
          simp only [Act.put, List.setIfInBounds_toArray, List.set_cons_zero, List.set_cons_succ]
          refine take' 2 (v := ?_) rfl (by kernel_rfl) (by kernel_rfl) (by kernel_rfl) (fun _ _ _ h => h) (Or.inl ⟨by rfl, ?_⟩) (by assumption) ?_
          rotate_left
          · intro w9 hSw
            go_simp
            first | done | with_reducible rfl
          simp only [Act.put, List.setIfInBounds_toArray, List.set_cons_zero, List.set_cons_succ]
          refine take' 3 (v := ?_) rfl (by kernel_rfl) (by kernel_rfl) (by kernel_rfl) (fun _ _ _ h => h) (Or.inl ⟨by rfl, ?_⟩) (by assumption) ?_
          rotate_left
          · intro w9 hSw
            go_simp
            first | done | with_reducible rfl
          simp only [Act.put, List.setIfInBounds_toArray, List.set_cons_zero, List.set_cons_succ]
          refine take' 4 (v := ?_) rfl (by kernel_rfl) (by kernel_rfl) (by kernel_rfl) (fun _ _ _ h => h) (Or.inl ⟨by rfl, ?_⟩) (by assumption) ?_
          rotate_left
          · intro w9 hSw
            go_simp
            first | done | with_reducible rfl
          simp only [Act.put, List.setIfInBounds_toArray, List.set_cons_zero, List.set_cons_succ]
          refine take' 5 (v := ?_) rfl (by kernel_rfl) (by kernel_rfl) (by kernel_rfl) (fun _ _ _ h => h) (Or.inl ⟨by rfl, ?_⟩) (by assumption) ?_
          rotate_left
          · intro w9 hSw
            go_simp
            first | done | with_reducible rfl
          simp only [Act.put, List.setIfInBounds_toArray, List.set_cons_zero, List.set_cons_succ]
          refine take' 6 (v := ?_) rfl (by kernel_rfl) (by kernel_rfl) (by kernel_rfl) (fun _ _ _ h => h) (Or.inl ⟨by rfl, ?_⟩) (by assumption) ?_
          rotate_left
          · intro w9 hSw
            go_simp
            first | done | with_reducible rfl
          simp only [Act.put, List.setIfInBounds_toArray, List.set_cons_zero, List.set_cons_succ]
          refine take' 7 (v := ?_) rfl (by kernel_rfl) (by kernel_rfl) (by kernel_rfl) (fun _ _ _ h => h) (Or.inl ⟨by rfl, ?_⟩) (by assumption) ?_
          rotate_left
          · intro w9 hSw
            go_simp
            first | done | with_reducible rfl
          simp only [Act.put, List.setIfInBounds_toArray, List.set_cons_zero, List.set_cons_succ]
          refine wpAnyH_ready (rs := [8]) (by kernel_rfl) (by simp) ?_
          refine cons' rfl (fun KK hKK => ?_)
          go_simp
          refine (GI.out _ hB).mono ?_
          rintro e w5 ⟨rfl, b5⟩
          replace hB := hB.trans (b5.mono hB.size)
          replace hHeld := (⟨below_cell b5 hHeld.1, below_cell b5 hHeld.2.1, below_cell b5 hHeld.2.2.1, below_cell b5 hHeld.2.2.2.1, below_cell b5 hHeld.2.2.2.2.1, below_cell b5 hHeld.2.2.2.2.2.1, below_cell b5 hHeld.2.2.2.2.2.2.1, below_cell b5 hHeld.2.2.2.2.2.2.2.1, below_cell b5 hHeld.2.2.2.2.2.2.2.2.1, below_cell b5 hHeld.2.2.2.2.2.2.2.2.2.1, below_cell b5 hHeld.2.2.2.2.2.2.2.2.2.2.1, below_cell b5 hHeld.2.2.2.2.2.2.2.2.2.2.2.1, below_cell b5 hHeld.2.2.2.2.2.2.2.2.2.2.2.2.1, below_cell b5 hHeld.2.2.2.2.2.2.2.2.2.2.2.2.2⟩ : _ ∧ _ ∧ _ ∧ _ ∧ _ ∧ _ ∧ _ ∧ _ ∧ _ ∧ _ ∧ _ ∧ _ ∧ _ ∧ _)
          clear b5
          go_wp2_with fail
          refine hKK.out _ _ hHeld ?_
          clear hHeld
          intro hHeld
          clear hKK KK
          try simp only [Act.put, List.setIfInBounds_toArray, List.set_cons_zero, List.set_cons_succ]
          refine take' 9 (v := ?_) rfl (by kernel_rfl) (by kernel_rfl) (by kernel_rfl) (fun _ _ _ h => h) (Or.inl ⟨by rfl, ?_⟩) (by assumption) ?_
          rotate_left
          · intro w9 hSw
            go_simp
            first | done | with_reducible rfl
          simp only [Act.put, List.setIfInBounds_toArray, List.set_cons_zero, List.set_cons_succ]
          refine wpAnyH_done (by kernel_rfl) ?_ _
          clear hHeld
          go_wp2
          go_roundw
          case rel => exact ⟨k + 1, by omega, by go_num, hB⟩
          case measure => simp [intOf]; omega
        · have hki : ¬ ((k : Int) < (kids.length : Int)) := by omega
          go_wp2
          go_ret
          exact ⟨rfl, hB⟩

end Go.Proofs.YtibeiggedmabkaaDoor

namespace Go.Proofs.YtibeiggedmabkaaDoor
open Go.RowKit
set_option linter.unusedVariables false
set_option linter.unusedSimpArgs false

/-- a reader's cells -/
def rdC (p : Option Addr) (v : Value) (d : Int) (en : Bool) (e pl : Int) : Array Value := #[.pointer p, v, .int .i64 d, .bool en, .int .i64 e, .int .i64 pl]
theorem Blk.set2 {c : Nat} {W : World} {u0 u1 : Value} {t : TypeId} (h : Blk W c #[u0, u1] t) (v0 v1 : Value) : Ch c W ((W.setCell ⟨c, 0, none⟩ v0).setCell ⟨c, 1, none⟩ v1) ∧ Blk ((W.setCell ⟨c, 0, none⟩ v0).setCell ⟨c, 1, none⟩ v1) c #[v0, v1] t := by
  obtain ⟨k1, q1⟩ := h.set (o := 0) v0
  obtain ⟨k2, q2⟩ := q1.set (o := 1) v1
  exact ⟨k1.trans k2, by simpa using q2⟩
set_option maxHeartbeats 2000000 in
set_option maxRecDepth 100000 in
theorem caught_nil (w : World) : Calls Tryd.prog 29 #[.nilIface] w fun r w' => r = .returned (.agg #[.int .i64 0, .int .i64 0]) ∧ Below w.heap.size w w' := by
  have hB := below_alloc (w := w) (.cells #[.int .i64 0, .int .i64 0] 61)
  have qT := Blk.new w #[.int .i64 0, .int .i64 0] 61
  go_enter Tryd.func29, Tryd.ntmps29
  go_upto_region 1 with fail
  generalize w.alloc (.cells #[.int .i64 0, .int .i64 0] 61) = W at hB qT ⊢
  have fz := fun o => qT.frozen o
  have t0 := qT.cell 0
  have t1 := qT.cell 1
  simp only [rdC, List.getElem?_toArray, List.getElem?_cons_zero, List.getElem?_cons_succ] at t0 t1
  go_wp2
  clear fz t0 t1
  obtain ⟨k2, q2⟩ := qT.set2 (.int .i64 0) (.int .i64 0)
  have x0 := q2.cell 0
  have x1 := q2.cell 1
  simp only [rdC, List.getElem?_toArray, List.getElem?_cons_zero, List.getElem?_cons_succ] at x0 x1
  replace hB := hB.trans ((k2.below (Nat.le_refl _)).mono (Nat.le_refl _))
  clear k2 q2 qT
  generalize (W.setCell ⟨w.heap.size, 0, none⟩ (.int .i64 0)).setCell ⟨w.heap.size, 1, none⟩ (.int .i64 0) = w9 at x0 x1 hB ⊢
  refine bodyPost_ret (v := .agg #[.int .i64 0, .int .i64 0]) (by rw [results_c rfl]; go_simp) rfl ?_
  exact ⟨rfl, hB⟩

set_option maxHeartbeats 2000000 in
set_option maxRecDepth 100000 in
theorem caught_some (e p : Int) (w : World) : Calls Tryd.prog 29 #[.iface 61 (.agg #[.int .i64 e, .int .i64 p])] w fun r w' => r = .returned (.agg #[.int .i64 e, .int .i64 p]) ∧ Below w.heap.size w w' := by
  have hta : ∀ wx : World, (Instr.typeAssert (.iface 61 (.agg #[.int .i64 e, .int .i64 p])) 20 61 false).run Tryd.prog wx = .ok (.agg #[.int .i64 e, .int .i64 p]) wx := fun wx => by
    have hu := Tryd.underlying61
    simp [Instr.typeAssert, run_underlying hu, Sem.run_bind, Result.andThen]
  have hB := below_alloc (w := w) (.cells #[.int .i64 0, .int .i64 0] 61)
  have qT := Blk.new w #[.int .i64 0, .int .i64 0] 61
  go_enter Tryd.func29, Tryd.ntmps29
  go_upto_region 1 with fail
  generalize w.alloc (.cells #[.int .i64 0, .int .i64 0] 61) = W at hB qT ⊢
  have fz := fun o => qT.frozen o
  have t0 := qT.cell 0
  have t1 := qT.cell 1
  simp only [rdC, List.getElem?_toArray, List.getElem?_cons_zero, List.getElem?_cons_succ] at t0 t1
  go_wp2
  clear fz t0 t1
  obtain ⟨k2, q2⟩ := qT.set2 (.int .i64 e) (.int .i64 p)
  have x0 := q2.cell 0
  have x1 := q2.cell 1
  simp only [rdC, List.getElem?_toArray, List.getElem?_cons_zero, List.getElem?_cons_succ] at x0 x1
  replace hB := hB.trans ((k2.below (Nat.le_refl _)).mono (Nat.le_refl _))
  clear k2 q2 qT
  generalize (W.setCell ⟨w.heap.size, 0, none⟩ (.int .i64 e)).setCell ⟨w.heap.size, 1, none⟩ (.int .i64 p) = w9 at x0 x1 hB ⊢
  refine bodyPost_ret (v := .agg #[.int .i64 e, .int .i64 p]) (by rw [results_c rfl]; go_simp) rfl ?_
  exact ⟨rfl, hB⟩

set_option maxHeartbeats 2000000 in
set_option maxRecDepth 100000 in
theorem isReading_is (b : Nat) (p : Addr) (v : Value) (d : Int) (en : Bool) (e pl : Int) (w : World) (h : Blk w b (rdC (some p) v d en e pl) 63) : Calls Tryd.prog 26 #[.pointer (some ⟨b, 0, none⟩)] w fun r w' => r = .returned (.bool true) ∧ w' = w := by
  have y0 := h.cell 0
  simp only [rdC, List.getElem?_toArray, List.getElem?_cons_zero, List.getElem?_cons_succ] at y0
  go_enter Tryd.func26, Tryd.ntmps26
  go_wp2
  go_ret
  exact ⟨rfl, rfl⟩

set_option maxHeartbeats 2000000 in
set_option maxRecDepth 100000 in
theorem isReading_no (b : Nat) (v : Value) (d : Int) (en : Bool) (e pl : Int) (w : World) (h : Blk w b (rdC none v d en e pl) 63) : Calls Tryd.prog 26 #[.pointer (some ⟨b, 0, none⟩)] w fun r w' => r = .returned (.bool false) ∧ w' = w := by
  have y0 := h.cell 0
  simp only [rdC, List.getElem?_toArray, List.getElem?_cons_zero, List.getElem?_cons_succ] at y0
  go_enter Tryd.func26, Tryd.ntmps26
  go_wp2
  go_ret
  exact ⟨rfl, rfl⟩

set_option maxHeartbeats 2000000 in
set_option maxRecDepth 100000 in
theorem rlast_is (b : Nat) (p : Option Addr) (v : Value) (d : Int) (e pl : Int) (w : World) (h : Blk w b (rdC p v d true e pl) 63) : Calls Tryd.prog 35 #[.pointer (some ⟨b, 0, none⟩)] w fun r w' => r = .returned (.agg #[.int .i64 e, .int .i64 pl]) ∧ Below w.heap.size w w' := by
  have hb0 := below_alloc (w := w) (.cells #[.int .i64 0, .int .i64 0] 61)
  replace h := h.later hb0
  have y3 := h.cell 3
  have y4 := h.cell 4
  have y5 := h.cell 5
  simp only [rdC, List.getElem?_toArray, List.getElem?_cons_zero, List.getElem?_cons_succ] at y3 y4 y5
  clear hb0
  have hB := below_alloc (w := w) (.cells #[.int .i64 0, .int .i64 0] 61)
  have qT := Blk.new w #[.int .i64 0, .int .i64 0] 61
  go_enter Tryd.func35, Tryd.ntmps35
  go_upto_region 1 with fail
  generalize w.alloc (.cells #[.int .i64 0, .int .i64 0] 61) = W at hB qT h y3 y4 y5 ⊢
  have fz := fun o => qT.frozen o
  have t0 := qT.cell 0
  have t1 := qT.cell 1
  simp only [rdC, List.getElem?_toArray, List.getElem?_cons_zero, List.getElem?_cons_succ] at t0 t1
  go_wp2
  clear fz t0 t1
  obtain ⟨k2, q2⟩ := qT.set2 (.int .i64 e) (.int .i64 pl)
  have x0 := q2.cell 0
  have x1 := q2.cell 1
  simp only [rdC, List.getElem?_toArray, List.getElem?_cons_zero, List.getElem?_cons_succ] at x0 x1
  replace hB := hB.trans ((k2.below (Nat.le_refl _)).mono (Nat.le_refl _))
  clear k2 q2 qT
  generalize (W.setCell ⟨w.heap.size, 0, none⟩ (.int .i64 e)).setCell ⟨w.heap.size, 1, none⟩ (.int .i64 pl) = w9 at x0 x1 hB ⊢
  refine bodyPost_ret (v := .agg #[.int .i64 e, .int .i64 pl]) (by rw [results_c rfl]; go_simp) rfl ?_
  exact ⟨rfl, hB⟩

set_option maxHeartbeats 2000000 in
set_option maxRecDepth 100000 in
theorem rstop_is (b : Nat) (p : Option Addr) (v : Value) (d : Int) (en : Bool) (e0 pl0 e pl : Int) (w : World) (h : Blk w b (rdC p v d en e0 pl0) 63) : Calls Tryd.prog 31 #[.pointer (some ⟨b, 0, none⟩), .agg #[.int .i64 e, .int .i64 pl]] w fun r w' => r = .returned (.tuple #[]) ∧ Blk w' b (rdC none (.slice none 0 0) d true e pl) 63 ∧ w.heap.size ≤ w'.heap.size ∧ (∀ k, k < w.heap.size → k ≠ b → w'.heap[k]? = w.heap[k]?) ∧ w'.os = w.os ∧ w'.tape = w.tape ∧ w'.output = w.output := by
  have b0 := below_alloc (w := w) (.cells #[.int .i64 e, .int .i64 pl] 61)
  have qT := Blk.new w #[.int .i64 e, .int .i64 pl] 61
  have hlt := h.lt
  replace h := h.later b0
  have e1 : (w.alloc (.cells #[.int .i64 e, .int .i64 pl] 61)).heap.size = w.heap.size + 1 := by simp
  go_enter Tryd.func31, Tryd.ntmps31
  go_upto_region 1 with fail
  generalize w.alloc (.cells #[.int .i64 e, .int .i64 pl] 61) = W at b0 qT h e1 ⊢
  have y2 := h.cell 2
  have z0 := qT.cell 0
  have z1 := qT.cell 1
  simp only [rdC, List.getElem?_toArray, List.getElem?_cons_zero, List.getElem?_cons_succ] at y2 z0 z1
  have bD : Below W.heap.size W W.drew := (Below.refl _ _).drew
  have ky2 := below_cell bD y2
  have kz0 := below_cell bD z0
  have kz1 := below_cell bD z1
  replace b0 := b0.trans (bD.mono b0.size)
  replace h := h.later bD
  replace qT := qT.later bD
  refine wp_region_held_drew (S := fun w' => w'.cell? ⟨b, 2, none⟩ = some (.int .i64 d) ∧ w'.cell? ⟨w.heap.size, 0, none⟩ = some (.int .i64 e) ∧ w'.cell? ⟨w.heap.size, 1, none⟩ = some (.int .i64 pl)) (by kernel_rfl) ⟨ky2, kz0, kz1⟩ (fun hHeld => ?_)
  clear ky2 kz0 kz1
  generalize W.drew = w0 at bD h qT b0 hHeld ⊢
  clear y2 z0 z1
  refine take' 0 (v := ?_) rfl (by kernel_rfl) (by kernel_rfl) (by kernel_rfl) (fun _ _ _ h => h) (Or.inl ⟨by rfl, ?_⟩) (by assumption) ?_
  rotate_left
  · intro w9 hSw
    go_simp
    first | done | with_reducible rfl
  simp only [Act.put, List.setIfInBounds_toArray, List.set_cons_zero, List.set_cons_succ]
  refine take' 1 (v := ?_) rfl (by kernel_rfl) (by kernel_rfl) (by kernel_rfl) (fun _ _ _ h => h) (Or.inl ⟨by rfl, ?_⟩) (by assumption) ?_
  rotate_left
  · intro w9 hSw
    go_simp
    first | done | with_reducible rfl
  simp only [Act.put, List.setIfInBounds_toArray, List.set_cons_zero, List.set_cons_succ]
  refine take' 2 (v := ?_) rfl (by kernel_rfl) (by kernel_rfl) (by kernel_rfl) (fun _ _ _ h => h) (Or.inl ⟨by rfl, ?_⟩) (by assumption) ?_
  rotate_left
  · intro w9 hSw
    go_simp
    first | done | with_reducible rfl
  simp only [Act.put, List.setIfInBounds_toArray, List.set_cons_zero, List.set_cons_succ]
  refine take' 3 (v := ?_) rfl (by kernel_rfl) (by kernel_rfl) (by kernel_rfl) (fun _ _ _ h => h) (Or.inl ⟨by rfl, ?_⟩) (by assumption) ?_
  rotate_left
  · intro w9 hSw
    go_simp
    first | done | with_reducible rfl
  simp only [Act.put, List.setIfInBounds_toArray, List.set_cons_zero, List.set_cons_succ]
  refine take' 4 (v := ?_) rfl (by kernel_rfl) (by kernel_rfl) (by kernel_rfl) (fun _ _ _ h => h) (Or.inl ⟨by rfl, ?_⟩) (by assumption) ?_
  rotate_left
  · intro w9 hSw
    go_simp
    first | done | with_reducible rfl
  simp only [Act.put, List.setIfInBounds_toArray, List.set_cons_zero, List.set_cons_succ]
  refine take' 5 (v := ?_) rfl (by kernel_rfl) (by kernel_rfl) (by kernel_rfl) (fun _ _ _ h => h) (Or.inl ⟨by rfl, ?_⟩) (by assumption) ?_
  rotate_left
  · intro w9 hSw
    go_simp
    first | done | with_reducible rfl
  simp only [Act.put, List.setIfInBounds_toArray, List.set_cons_zero, List.set_cons_succ]
  refine take' 6 (v := ?_) rfl (by kernel_rfl) (by kernel_rfl) (by kernel_rfl) (fun _ _ _ h => h) (Or.inl ⟨by rfl, ?_⟩) (by assumption) ?_
  rotate_left
  · intro w9 hSw
    go_simp
    first | done | with_reducible rfl
  simp only [Act.put, List.setIfInBounds_toArray, List.set_cons_zero, List.set_cons_succ]
  refine take' 7 (v := ?_) rfl (by kernel_rfl) (by kernel_rfl) (by kernel_rfl) (fun _ _ _ h => h) (Or.inl ⟨by rfl, ?_⟩) (by assumption) ?_
  rotate_left
  · intro w9 hSw
    go_simp
    first | done | with_reducible rfl
  simp only [Act.put, List.setIfInBounds_toArray, List.set_cons_zero, List.set_cons_succ]
  refine wpAnyH_ready (rs := [8]) (by kernel_rfl) (by simp) ?_
  refine cons' rfl (fun KK hKK => ?_)
  have fz := fun o => h.frozen o
  have t0 := h.cell 0
  have t1 := h.cell 1
  have t2 := h.cell 2
  have t3 := h.cell 3
  have t4 := h.cell 4
  have t5 := h.cell 5
  simp only [rdC, List.getElem?_toArray, List.getElem?_cons_zero, List.getElem?_cons_succ] at t0 t1 t2 t3 t4 t5
  have HH := hideT h
  clear h
  go_simp
  have h := HH.out
  clear HH fz t0 t1 t2 t3 t4 t5
  unfold rdC at h
  obtain ⟨k6, q6⟩ := h.set6 (.pointer none) (.slice none 0 0) (.int .i64 d) (.bool true) (.int .i64 e) (.int .i64 pl)
  unfold set6 at k6 q6
  have nb : w.heap.size ≠ b := by omega
  have u2 := q6.cell 2
  simp only [rdC, List.getElem?_toArray, List.getElem?_cons_zero, List.getElem?_cons_succ] at u2
  have hH2 := And.intro u2 (And.intro (k6.cell nb hHeld.2.1) (k6.cell nb hHeld.2.2))
  refine hKK.out _ _ hH2 ?_
  clear hHeld
  intro hHeld
  clear hKK KK
  try simp only [Act.put, List.setIfInBounds_toArray, List.set_cons_zero, List.set_cons_succ]
  clear hH2 u2
  refine wpAnyH_done (by kernel_rfl) ?_ _
  clear hHeld
  have hbb : ∀ k, k < w.heap.size → k ≠ b → ((((((w0.setCell ⟨b, 0, none⟩ (.pointer none)).setCell ⟨b, 1, none⟩ (.slice none 0 0)).setCell ⟨b, 2, none⟩ (.int .i64 d)).setCell ⟨b, 3, none⟩ (.bool true)).setCell ⟨b, 4, none⟩ (.int .i64 e)).setCell ⟨b, 5, none⟩ (.int .i64 pl)).heap[k]? = w.heap[k]? := fun k hk hne => (k6.other k hne).trans (b0.block k hk)
  have hsz : w.heap.size ≤ ((((((w0.setCell ⟨b, 0, none⟩ (.pointer none)).setCell ⟨b, 1, none⟩ (.slice none 0 0)).setCell ⟨b, 2, none⟩ (.int .i64 d)).setCell ⟨b, 3, none⟩ (.bool true)).setCell ⟨b, 4, none⟩ (.int .i64 e)).setCell ⟨b, 5, none⟩ (.int .i64 pl)).heap.size := by rw [k6.size]; exact b0.size
  have hso : ((((((w0.setCell ⟨b, 0, none⟩ (.pointer none)).setCell ⟨b, 1, none⟩ (.slice none 0 0)).setCell ⟨b, 2, none⟩ (.int .i64 d)).setCell ⟨b, 3, none⟩ (.bool true)).setCell ⟨b, 4, none⟩ (.int .i64 e)).setCell ⟨b, 5, none⟩ (.int .i64 pl)).os = w.os ∧ ((((((w0.setCell ⟨b, 0, none⟩ (.pointer none)).setCell ⟨b, 1, none⟩ (.slice none 0 0)).setCell ⟨b, 2, none⟩ (.int .i64 d)).setCell ⟨b, 3, none⟩ (.bool true)).setCell ⟨b, 4, none⟩ (.int .i64 e)).setCell ⟨b, 5, none⟩ (.int .i64 pl)).tape = w.tape ∧ ((((((w0.setCell ⟨b, 0, none⟩ (.pointer none)).setCell ⟨b, 1, none⟩ (.slice none 0 0)).setCell ⟨b, 2, none⟩ (.int .i64 d)).setCell ⟨b, 3, none⟩ (.bool true)).setCell ⟨b, 4, none⟩ (.int .i64 e)).setCell ⟨b, 5, none⟩ (.int .i64 pl)).output = w.output := ⟨k6.os.trans b0.os, k6.tape.trans b0.tape, k6.output.trans b0.output⟩
  generalize ((((((w0.setCell ⟨b, 0, none⟩ (.pointer none)).setCell ⟨b, 1, none⟩ (.slice none 0 0)).setCell ⟨b, 2, none⟩ (.int .i64 d)).setCell ⟨b, 3, none⟩ (.bool true)).setCell ⟨b, 4, none⟩ (.int .i64 e)).setCell ⟨b, 5, none⟩ (.int .i64 pl)) = w9 at q6 hbb hsz hso ⊢
  clear k6 h qT
  go_wp2
  first | go_end0 | skip
  exact ⟨rfl, q6, hsz, hbb, hso⟩

set_option maxHeartbeats 2000000 in
set_option maxRecDepth 100000 in
theorem rtell_is (b : Nat) (p : Option Addr) (gl n c : Nat) (d : Int) (en : Bool) (e pl : Int) (vk : Value) (w : World) (h : Blk w b (rdC p (.slice (some ⟨gl, 0, none⟩) n c) d en e pl) 63) (hn : 0 < n) (hk : w.cell? ⟨gl, 6, none⟩ = some vk) (hf : w.frozen? ⟨gl, 6, none⟩ = false) : Calls Tryd.prog 30 #[.pointer (some ⟨b, 0, none⟩)] w fun r w' => r = .returned vk ∧ w' = w.setCell ⟨gl, 6, none⟩ (.slice none 0 0) := by
  have y1 := h.cell 1
  simp only [rdC, List.getElem?_toArray, List.getElem?_cons_zero, List.getElem?_cons_succ] at y1
  have hn1 : (0 : Int) < (n : Int) := by omega
  go_enter Tryd.func30, Tryd.ntmps30
  go_wp2
  go_ret
  exact ⟨rfl, rfl⟩

end Go.Proofs.YtibeiggedmabkaaDoor
