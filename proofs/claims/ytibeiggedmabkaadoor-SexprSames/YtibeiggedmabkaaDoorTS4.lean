/-
  The scanner in memory; tell.
-/
import Derived.Test.YtibeiggedmabkaaDoorTS3
import Derived.Test.YtibeiggedmabkaaDoorTKB
import Derived.Lib.AppendStr
import Derived.Lib.UnsafeStr
import Derived.Laws.IdiomStrings
import Derived.Laws.OwnMore
namespace Go.Proofs.YtibeiggedmabkaaDoor
open Go.RowKit
set_option linter.unusedVariables false
set_option linter.unusedSimpArgs false

/-- w' is w but for the blocks of X and new ones -/
structure Kp (X : Nat → Prop) (w w' : World) : Prop where
  os : w'.os = w.os
  tape : w'.tape = w.tape
  output : w'.output = w.output
  size : w.heap.size ≤ w'.heap.size
  block : ∀ k, k < w.heap.size → ¬ X k → w'.heap[k]? = w.heap[k]?
theorem Kp.refl (X : Nat → Prop) (w : World) : Kp X w w := ⟨rfl, rfl, rfl, Nat.le_refl _, fun _ _ _ => rfl⟩
theorem Kp.trans {X Y : Nat → Prop} {w w1 w2 : World} (h : Kp X w w1) (k : Kp Y w1 w2) (hY : ∀ i, i < w.heap.size → Y i → X i) : Kp X w w2 :=
  ⟨k.os.trans h.os, k.tape.trans h.tape, k.output.trans h.output, Nat.le_trans h.size k.size, fun i hi hn => (k.block i (Nat.lt_of_lt_of_le hi h.size) (fun c => hn (hY i hi c))).trans (h.block i hi hn)⟩
theorem Kp.of {X : Nat → Prop} {w w' : World} (h : Below w.heap.size w w') : Kp X w w' := ⟨h.os, h.tape, h.output, h.size, fun k hk _ => h.block k hk⟩
theorem Kp.ch {X : Nat → Prop} {c : Nat} {w w' : World} (h : Ch c w w') (hc : X c) : Kp X w w' := ⟨h.os, h.tape, h.output, Nat.le_of_eq h.size.symm, fun k _ hn => h.other k (fun e => hn (e ▸ hc))⟩
theorem Kp.below {X : Nat → Prop} {w w' : World} (h : Kp X w w') {B : Nat} (hB : B ≤ w.heap.size) (hX : ∀ k, k < B → ¬ X k) : Below B w w' := ⟨h.os, h.tape, h.output, h.size, fun k hk => h.block k (by omega) (hX k hk)⟩
theorem Kp.grown {X : Nat → Prop} {row : Option Nat} {w w' : World} (h : w.grownBy w' row) (hX : ∀ k, row = some k → X k) : Kp X w w' :=
  ⟨h.os, h.tape, h.output, h.size, fun k hk hn => h.block k hk (fun e => hn (hX k e.symm))⟩
theorem Kp.blk {X : Nat → Prop} {w w' : World} (h : Kp X w w') {c : Nat} {cur : Array Value} {t : TypeId} (q : Blk w c cur t) (hn : ¬ X c) : Blk w' c cur t := (h.block c q.lt hn).trans q
theorem Kp.maxL {X : Nat → Prop} {w w' : World} (h : Kp X w w') (hX : ¬ X mxB) (hM : MaxL w) : MaxL w' := by
  obtain ⟨m, hm⟩ := hM
  exact ⟨m, by rw [World.cell?_of_block (w := w) (h.block _ (World.block_lt_of_cell? w _ hm) hX)]; exact hm⟩
theorem own_kp {X : Nat → Prop} {w w' : World} {base : Nat} {e : TypeId} {size : Nat} {v : Value} {n : Nat} {xs : List Value} (h : w.ownsRow base e size v n xs) (k : Kp X w w') (hX : ∀ g, v.ownBlock = some g → ¬ X g) : w'.ownsRow base e size v n xs := by
  refine ⟨h.1, ?_⟩
  rcases h.2 with h0 | ⟨g, cap, cur, hv, hg, hc, rest⟩
  · exact Or.inl h0
  · refine Or.inr ⟨g, cap, cur, hv, hg, ?_, rest⟩
    rw [k.block g (Array.getElem?_eq_some_iff.1 hc).1 (hX g (by rw [hv]; rfl))]
    exact hc
theorem own_lt {w : World} {base : Nat} {e : TypeId} {size : Nat} {v : Value} {n : Nat} {xs : List Value} (h : w.ownsRow base e size v n xs) {g : Nat} (hg : v.ownBlock = some g) : base ≤ g ∧ g < w.heap.size := by
  rcases h.2 with ⟨rfl, _⟩ | ⟨g', cap, cur, rfl, hb, hc, _⟩
  · cases hg
  · injection hg with hg
    exact ⟨by rw [← hg]; exact hb, by rw [← hg]; exact (Array.getElem?_eq_some_iff.1 hc).1⟩
theorem own_sl {w : World} {base : Nat} {e : TypeId} {size : Nat} {v : Value} {n : Nat} {xs : List Value} (h : w.ownsRow base e size v n xs) : ∃ a cap, v = .slice a n cap := by
  rcases h.2 with ⟨h1, h2⟩ | ⟨g, cap, cur, hv, _⟩
  · exact ⟨none, 0, by rw [h1, h2]⟩
  · exact ⟨_, cap, hv⟩
theorem own_str {P : Program} {w : World} {base : Nat} {e src dst : TypeId} {v : Value} {n : Nat} {l : List UInt8} (h : w.ownsRow base e 1 v n (Lib.byteCells l)) (hn : 0 < n) (hs : P.underlying src = some (.slice e)) (he : P.underlying e = some (.int .u8)) (hd : P.underlying dst = some .string) :
    (convert src dst v).run P w = .ok (.string ⟨l.toArray⟩) w := by
  have hl : l.length = n := by have := h.1; rw [Lib.byteCells_length] at this; omega
  rcases h.2 with ⟨_, h0⟩ | ⟨g, cap, cur, hv, _⟩
  · omega
  · subst hl
    have hc := h.cells (g := g) (by rw [hv]; rfl)
    rw [hv]
    exact run_convert_bytes_back w src dst e ⟨g, 0, none⟩ cap l hs he hd fun j hj => hc j _ (by simp [Lib.byteCells, hj])
/-- a scanner, as its cells say -/
structure Scan where
  st : Nat
  cv : Value
  come : List UInt8
  bB : Int
  bE : Int
  bL : Int
  bC : Int
  rd : Nat
  ln : Nat
  ah : Nat
  er : Int
def Scan.cells (S : Scan) : Array Value := #[.int .i64 S.st, S.cv, .int .i64 0, .string ⟨#[]⟩, .int .i64 S.bB, .int .i64 S.bE, .int .i64 S.bL, .int .i64 S.bC, .int .i64 S.rd, .int .i64 S.ln, .int .i64 S.ah, .int .i64 S.er]
/-- it lies at block b; what has come of a token in a row of its own, from base on -/
structure ScAt (w : World) (base b : Nat) (S : Scan) : Prop where
  blk : Blk w b S.cells 82
  lt : b < base
  mx : mxB < b
  own : w.ownsRow base 5 1 S.cv S.come.length (Lib.byteCells S.come)
/-- the blocks that a scanner may change -/
def Scan.rows (b : Nat) (cv : Value) (k : Nat) : Prop := k = b ∨ cv.ownBlock = some k
theorem ScAt.kp {X : Nat → Prop} {w w' : World} {base b : Nat} {S : Scan} (h : ScAt w base b S) (k : Kp X w w') (hX : ∀ i, Scan.rows b S.cv i → ¬ X i) : ScAt w' base b S :=
  ⟨k.blk h.blk (hX b (Or.inl rfl)), h.lt, h.mx, own_kp h.own k fun g hg => hX g (Or.inr hg)⟩
theorem strCells_is (s : ByteArray) : Lib.strCells s = Lib.byteCells s.data.toList := rfl
theorem bytes_app (a b : List UInt8) : Lib.byteCells a ++ Lib.byteCells b = Lib.byteCells (a ++ b) := by simp [Lib.byteCells]

theorem info_u8 : (Tryd.prog.info? 5).map (fun i => (i.zero, i.size, i.bytes)) = some (some (.int .u8 0), 1, 1) := by kernel_rfl
set_option maxHeartbeats 4000000 in
set_option maxRecDepth 100000 in
theorem tell_is (base b : Nat) (S : Scan) (rest : ByteArray) (w : World) (h : ScAt w base b S) (hbase : base ≤ w.heap.size) (h1 : 3 ≤ S.st) (h2 : S.st ≤ 22) (hne : 0 < S.come.length + rest.size) (hl : longEnough S.st ⟨(S.come ++ rest.data.toList).toArray⟩) (hsz : S.come.length + rest.size ≤ 4294967280) (hM : MaxL w) :
    Calls Tryd.prog 46 #[.pointer (some ⟨b, 0, none⟩), .string rest] w fun e w' => e = .returned (.agg #[.int .i64 (kindN S.st : Nat), .string (txt S.st ⟨(S.come ++ rest.data.toList).toArray⟩), .int .i64 S.bB, .int .i64 S.rd, .int .i64 S.bL, .int .i64 S.bC]) ∧ ScAt w' base b { S with st := 3, cv := .slice none 0 0, come := [] } ∧ Kp (Scan.rows b S.cv) w w' := by
  obtain ⟨i0, hi, hz0, hz1, hz2⟩ := info_parts info_u8
  obtain ⟨a0, cp, ecv⟩ := own_sl h.own
  obtain ⟨st, cv, come, bB, bE, bL, bC, rd, ln, ah, er⟩ := S
  simp only at h h1 h2 hne hl hsz ecv ⊢
  subst ecv
  have ba := below_alloc (w := w) (.cells #[.int .i64 0, .string ⟨#[]⟩, .int .i64 0, .int .i64 0, .int .i64 0, .int .i64 0] 32)
  have q4 := Blk.new w #[.int .i64 0, .string ⟨#[]⟩, .int .i64 0, .int .i64 0, .int .i64 0, .int .i64 0] 32
  have kz : Kp (Scan.rows b (.slice a0 come.length cp)) w (w.alloc (.cells #[.int .i64 0, .string ⟨#[]⟩, .int .i64 0, .int .i64 0, .int .i64 0, .int .i64 0] 32)) := Kp.of ba
  have hA := h.kp (Kp.of (X := fun _ => False) ba) (fun _ _ c => c)
  have hM2 := hM.on ba
  have hlt := h.blk.lt
  have hn4 : ¬ Scan.rows b (.slice a0 come.length cp) w.heap.size := fun c => by
    rcases c with c | c
    · omega
    · have := own_lt h.own c; omega
  generalize hW : w.alloc (.cells #[.int .i64 0, .string ⟨#[]⟩, .int .i64 0, .int .i64 0, .int .i64 0, .int .i64 0] 32) = W at ba q4 kz hA hM2
  have y0 := hA.blk.cell 0
  have y1 := hA.blk.cell 1
  have y2 := hA.blk.cell 2
  have y3 := hA.blk.cell 3
  have y4 := hA.blk.cell 4
  have y5 := hA.blk.cell 5
  have y6 := hA.blk.cell 6
  have y7 := hA.blk.cell 7
  have y8 := hA.blk.cell 8
  have y9 := hA.blk.cell 9
  have y10 := hA.blk.cell 10
  have y11 := hA.blk.cell 11
  simp only [Scan.cells, List.getElem?_toArray, List.getElem?_cons_zero, List.getElem?_cons_succ] at y0 y1 y2 y3 y4 y5 y6 y7 y8 y9 y10 y11
  have hown := hA.own
  go_enter Tryd.func46, Tryd.ntmps46
  go_wp2_with (first | (at_builtin; (try rw [hW]); go_loud (refine Lib.wpList_append_own_string _ (by rfl) _ _ _ _ (by rfl) base 5 i0 Tryd.underlying80 Tryd.underlying9 hi hz0 hz1 hz2 (.slice a0 come.length cp) come.length _ (by rfl) hown rest (by rfl) (by simp only [maxLen]; omega) (by omega) (by have := ba.size; omega) ?_); intro v1 w1 own1 gr1 hnil))
  rw [strCells_is, bytes_app] at own1
  have hcs := own_str (P := Tryd.prog) own1 hne Tryd.underlying80 Tryd.underlying5 Tryd.underlying9
  rw [hcs]
  simp only [Result.andThen]
  rw [Oper.upon_value]
  have kg : Kp (Scan.rows b (.slice a0 come.length cp)) W w1 := Kp.grown gr1 (fun k e => Or.inr e)
  replace kz := kz.trans kg (fun _ _ c => c)
  have hbg : ∀ g, (Value.slice a0 come.length cp).ownBlock = some g → g ≠ b ∧ g ≠ w.heap.size := fun g hg => ⟨fun e => by have := (own_lt h.own hg).1; have := h.lt; omega, fun e => by have := (own_lt h.own hg).2; omega⟩
  have kg2 : Kp (fun k => (Value.slice a0 come.length cp).ownBlock = some k) W w1 := Kp.grown gr1 (fun k e => e)
  have hS := kg2.blk hA.blk (fun c => (hbg b c).1 rfl)
  replace q4 := kg2.blk q4 (fun c => (hbg _ c).2 rfl)
  have hM3 : MaxL w1 := kg2.maxL (fun c => by have := (own_lt h.own c).1; have := h.lt; have := h.mx; omega) hM2
  have hsz1 : W.heap.size ≤ w1.heap.size := gr1.size
  clear kg kg2 gr1 hA hM2 hown hcs own1 hnil y0 y1 y2 y3 y4 y5 y6 y7 y8 y9 y10 y11
  have y0 := hS.cell 0
  have y1 := hS.cell 1
  have y2 := hS.cell 2
  have y3 := hS.cell 3
  have y4 := hS.cell 4
  have y5 := hS.cell 5
  have y6 := hS.cell 6
  have y7 := hS.cell 7
  have y8 := hS.cell 8
  have y9 := hS.cell 9
  have y10 := hS.cell 10
  have y11 := hS.cell 11
  simp only [Scan.cells, List.getElem?_toArray, List.getElem?_cons_zero, List.getElem?_cons_succ] at y0 y1 y2 y3 y4 y5 y6 y7 y8 y9 y10 y11
  go_wp2_with fail
  have b2 := below_alloc (w := w1) (.cells #[.int .i64 0, .string ⟨#[]⟩, .int .i64 bB, .int .i64 bE, .int .i64 bL, .int .i64 bC] 32)
  have q6 := Blk.new w1 #[.int .i64 0, .string ⟨#[]⟩, .int .i64 bB, .int .i64 bE, .int .i64 bL, .int .i64 bC] 32
  replace kz := kz.trans (Kp.of (X := Scan.rows b (.slice a0 come.length cp)) b2) (fun _ _ c => c)
  replace hS := hS.later b2
  replace q4 := q4.later b2
  replace hM3 := hM3.on b2
  replace y0 := below_cell b2 y0
  replace y8 := below_cell b2 y8
  have hn6 : w.heap.size < w1.heap.size ∧ b < w.heap.size ∧ mxB < b := by
    have e1 : W.heap.size = w.heap.size + 1 := by rw [← hW]; simp
    exact ⟨by omega, hlt, h.mx⟩
  obtain ⟨c6, hc6⟩ : ∃ c, w1.heap.size = c := ⟨_, rfl⟩
  rw [hc6] at hn6 q6
  clear hW ba hsz1
  clear y1
  clear y2
  clear y3
  clear y4
  clear y5
  clear y6
  clear y7
  clear y9
  clear y10
  clear y11
  generalize w1.alloc (.cells #[.int .i64 0, .string ⟨#[]⟩, .int .i64 bB, .int .i64 bE, .int .i64 bL, .int .i64 bC] 32) = w2 at b2 q6 kz hS q4 hM3 y0 y8 ⊢
  try rw [hc6]
  clear b2 hc6
  obtain ⟨bs, hbs⟩ : ∃ bs : ByteArray, (⟨(come ++ rest.data.toList).toArray⟩ : ByteArray) = bs := ⟨_, rfl⟩
  have hbz : bs.size ≤ 4294967280 := by rw [← hbs]; show (come ++ rest.data.toList).toArray.size ≤ _; simp only [List.size_toArray, List.length_append, Array.length_toList]; exact hsz
  rw [hbs] at hl ⊢
  try rw [hbs]
  have HBS := hideT hbs
  clear hbs
  have GK := hideT (fun w' => kind_is st h1 h2 w')
  have GT := hideT (fun w' (k : MaxL w') => text_is st bs h1 h2 hl hbz w' k)
  clear hl hbz
  have bD : Below w2.heap.size w2 w2.drew := (Below.refl _ _).drew
  have ky0 := below_cell bD y0
  have ky8 := below_cell bD y8
  replace hS := hS.later bD
  replace q4 := q4.later bD
  replace q6 := q6.later bD
  replace kz := kz.trans (Kp.of (X := Scan.rows b (.slice a0 come.length cp)) bD) (fun _ _ c => c)
  replace hM3 := hM3.on bD
  refine wp_region_held_drew (S := fun w' => w'.cell? ⟨b, 0, none⟩ = some (.int .i64 st) ∧ w'.cell? ⟨b, 8, none⟩ = some (.int .i64 rd)) (by kernel_rfl) ⟨ky0, ky8⟩ (fun hHeld => ?_)
  clear ky0 ky8
  generalize w2.drew = w3 at bD kz hM3 hS q4 q6 hHeld ⊢
  clear y0 y8
  refine take' 0 (v := ?_) rfl (by kernel_rfl) (by kernel_rfl) (by kernel_rfl) (fun _ _ _ h => h) (Or.inl ⟨by rfl, ?_⟩) (by assumption) ?_
  rotate_left
  · intro w9 hSw
    go_simp
    first | done | with_reducible rfl
  simp only [Act.put, List.setIfInBounds_toArray, List.set_cons_zero, List.set_cons_succ]
  refine take' 1 (v := ?_) rfl (by kernel_rfl) (by kernel_rfl) (by kernel_rfl) (fun _ _ _ h => h) (Or.inl ⟨by rfl, ?_⟩) (by assumption) ?_
  rotate_left
  · intro w9 hSw
    go_simp
    first | done | with_reducible rfl
  simp only [Act.put, List.setIfInBounds_toArray, List.set_cons_zero, List.set_cons_succ]
  refine take' 2 (v := ?_) rfl (by kernel_rfl) (by kernel_rfl) (by kernel_rfl) (fun _ _ _ h => h) (Or.inl ⟨by rfl, ?_⟩) (by assumption) ?_
  rotate_left
  · intro w9 hSw
    go_simp
    first | done | with_reducible rfl
  simp only [Act.put, List.setIfInBounds_toArray, List.set_cons_zero, List.set_cons_succ]
  refine take' 3 (v := ?_) rfl (by kernel_rfl) (by kernel_rfl) (by kernel_rfl) (fun _ _ _ h => h) (Or.inl ⟨by rfl, ?_⟩) (by assumption) ?_
  rotate_left
  · intro w9 hSw
    go_simp
    first | done | with_reducible rfl
  simp only [Act.put, List.setIfInBounds_toArray, List.set_cons_zero, List.set_cons_succ]
  refine take' 5 (v := ?_) rfl (by kernel_rfl) (by kernel_rfl) (by kernel_rfl) (fun _ _ _ h => h) (Or.inl ⟨by rfl, ?_⟩) (by assumption) ?_
  rotate_left
  · intro w9 hSw
    go_simp
    first | done | with_reducible rfl
  simp only [Act.put, List.setIfInBounds_toArray, List.set_cons_zero, List.set_cons_succ]
  refine take' 6 (v := ?_) rfl (by kernel_rfl) (by kernel_rfl) (by kernel_rfl) (fun _ _ _ h => h) (Or.inl ⟨by rfl, ?_⟩) (by assumption) ?_
  rotate_left
  · intro w9 hSw
    go_simp
    first | done | with_reducible rfl
  simp only [Act.put, List.setIfInBounds_toArray, List.set_cons_zero, List.set_cons_succ]
  refine take' 7 (v := ?_) rfl (by kernel_rfl) (by kernel_rfl) (by kernel_rfl) (fun _ _ _ h => h) (Or.inl ⟨by rfl, ?_⟩) (by assumption) ?_
  rotate_left
  · intro w9 hSw
    go_simp
    first | done | with_reducible rfl
  simp only [Act.put, List.setIfInBounds_toArray, List.set_cons_zero, List.set_cons_succ]
  refine take' 8 (v := ?_) rfl (by kernel_rfl) (by kernel_rfl) (by kernel_rfl) (fun _ _ _ h => h) (Or.inl ⟨by rfl, ?_⟩) (by assumption) ?_
  rotate_left
  · intro w9 hSw
    go_simp
    first | done | with_reducible rfl
  simp only [Act.put, List.setIfInBounds_toArray, List.set_cons_zero, List.set_cons_succ]
  refine take' 9 (v := ?_) rfl (by kernel_rfl) (by kernel_rfl) (by kernel_rfl) (fun _ _ _ h => h) (Or.inl ⟨by rfl, ?_⟩) (by assumption) ?_
  rotate_left
  · intro w9 hSw
    go_simp
    first | done | with_reducible rfl
  simp only [Act.put, List.setIfInBounds_toArray, List.set_cons_zero, List.set_cons_succ]
  refine take' 11 (v := ?_) rfl (by kernel_rfl) (by kernel_rfl) (by kernel_rfl) (fun _ _ _ h => h) (Or.inl ⟨by rfl, ?_⟩) (by assumption) ?_
  rotate_left
  · intro w9 hSw
    go_simp
    first | done | with_reducible rfl
  simp only [Act.put, List.setIfInBounds_toArray, List.set_cons_zero, List.set_cons_succ]
  refine take' 12 (v := ?_) rfl (by kernel_rfl) (by kernel_rfl) (by kernel_rfl) (fun _ _ _ h => h) (Or.inl ⟨by rfl, ?_⟩) (by assumption) ?_
  rotate_left
  · intro w9 hSw
    go_simp
    first | done | with_reducible rfl
  simp only [Act.put, List.setIfInBounds_toArray, List.set_cons_zero, List.set_cons_succ]
  refine take' 13 (v := ?_) rfl (by kernel_rfl) (by kernel_rfl) (by kernel_rfl) (fun _ _ _ h => h) (Or.inl ⟨by rfl, ?_⟩) (by assumption) ?_
  rotate_left
  · intro w9 hSw
    go_simp
    first | done | with_reducible rfl
  simp only [Act.put, List.setIfInBounds_toArray, List.set_cons_zero, List.set_cons_succ]
  refine take' 14 (v := ?_) rfl (by kernel_rfl) (by kernel_rfl) (by kernel_rfl) (fun _ _ _ h => h) (Or.inl ⟨by rfl, ?_⟩) (by assumption) ?_
  rotate_left
  · intro w9 hSw
    go_simp
    first | done | with_reducible rfl
  simp only [Act.put, List.setIfInBounds_toArray, List.set_cons_zero, List.set_cons_succ]
  refine wpAnyH_ready (rs := [4]) (by kernel_rfl) (by simp) ?_
  refine cons' rfl (fun KK hKK => ?_)
  go_simp
  refine (GK.out _).mono ?_
  rintro e w4 ⟨rfl, rfl⟩
  go_wp2_with fail
  refine hKK.out _ _ hHeld ?_
  clear hHeld
  intro hHeld
  clear hKK KK
  try simp only [Act.put, List.setIfInBounds_toArray, List.set_cons_zero, List.set_cons_succ]
  refine take' 15 (v := ?_) rfl (by kernel_rfl) (by kernel_rfl) (by kernel_rfl) (fun _ _ _ h => h) (Or.inl ⟨by rfl, ?_⟩) (by assumption) ?_
  rotate_left
  · intro w9 hSw
    go_simp
    first | done | with_reducible rfl
  simp only [Act.put, List.setIfInBounds_toArray, List.set_cons_zero, List.set_cons_succ]
  refine wpAnyH_ready (rs := [10]) (by kernel_rfl) (by simp) ?_
  refine cons' rfl (fun KK hKK => ?_)
  go_simp
  refine (GT.out _ hM3).mono ?_
  rintro e w5 ⟨rfl, b5⟩
  replace hS := hS.later b5
  replace q4 := q4.later b5
  replace q6 := q6.later b5
  replace hHeld := (⟨below_cell b5 hHeld.1, below_cell b5 hHeld.2⟩ : _ ∧ _)
  replace kz := kz.trans (Kp.of (X := Scan.rows b (.slice a0 come.length cp)) b5) (fun _ _ c => c)
  replace hM3 := hM3.on b5
  clear b5
  go_wp2_with fail
  refine hKK.out _ _ hHeld ?_
  clear hHeld
  intro hHeld
  clear hKK KK
  try simp only [Act.put, List.setIfInBounds_toArray, List.set_cons_zero, List.set_cons_succ]
  have nb : b ≠ c6 := by omega
  have n4 : w.heap.size ≠ c6 := by omega
  refine wpAnyH_ready (rs := [16]) (by kernel_rfl) (by simp) ?_
  refine cons' rfl (fun KK hKK => ?_)
  have fz := fun o => q6.frozen o
  have t0 := q6.cell 0
  simp only [List.getElem?_toArray, List.getElem?_cons_zero, List.getElem?_cons_succ] at t0
  have Q6 := hideT q6
  clear q6
  go_simp
  have q6 := Q6.out
  clear Q6 t0 fz
  obtain ⟨k6, q7⟩ := q6.set (o := 0) (.int .i64 (kindN st : Nat))
  clear q6
  have q6 : Blk (w5.setCell ⟨c6, 0, none⟩ (.int .i64 (kindN st : Nat))) c6 #[.int .i64 (kindN st : Nat), .string ⟨#[]⟩, .int .i64 bB, .int .i64 bE, .int .i64 bL, .int .i64 bC] 32 := by simpa using q7
  clear q7
  have hH2 := And.intro (k6.cell nb hHeld.1) (k6.cell nb hHeld.2)
  replace hS := hS.ch k6 nb
  replace q4 := q4.ch k6 n4
  replace kz := kz.trans (Kp.ch (X := fun k => k = c6) k6 rfl) (fun i hi e => by omega)
  replace hM3 := (Kp.ch (X := fun k => k = c6) k6 rfl).maxL (by show ¬ mxB = c6; omega) hM3
  clear k6
  refine hKK.out _ _ hH2 ?_
  clear hHeld
  intro hHeld
  clear hKK KK
  try simp only [Act.put, List.setIfInBounds_toArray, List.set_cons_zero, List.set_cons_succ]
  clear hH2
  generalize w5.setCell ⟨c6, 0, none⟩ (.int .i64 (kindN st : Nat)) = w6 at q6 hS q4 kz hM3 hHeld ⊢
  refine take' 17 (v := ?_) rfl (by kernel_rfl) (by kernel_rfl) (by kernel_rfl) (fun _ _ _ h => h) (Or.inl ⟨by rfl, ?_⟩) (by assumption) ?_
  rotate_left
  · intro w9 hSw
    go_simp
    first | done | with_reducible rfl
  simp only [Act.put, List.setIfInBounds_toArray, List.set_cons_zero, List.set_cons_succ]
  refine wpAnyH_ready (rs := [18]) (by kernel_rfl) (by simp) ?_
  refine cons' rfl (fun KK hKK => ?_)
  have fz := fun o => q6.frozen o
  have t0 := q6.cell 1
  simp only [List.getElem?_toArray, List.getElem?_cons_zero, List.getElem?_cons_succ] at t0
  have Q6 := hideT q6
  clear q6
  go_simp
  have q6 := Q6.out
  clear Q6 t0 fz
  obtain ⟨k6, q7⟩ := q6.set (o := 1) (.string (txt st bs))
  clear q6
  have q6 : Blk (w6.setCell ⟨c6, 1, none⟩ (.string (txt st bs))) c6 #[.int .i64 (kindN st : Nat), .string (txt st bs), .int .i64 bB, .int .i64 bE, .int .i64 bL, .int .i64 bC] 32 := by simpa using q7
  clear q7
  have hH2 := And.intro (k6.cell nb hHeld.1) (k6.cell nb hHeld.2)
  replace hS := hS.ch k6 nb
  replace q4 := q4.ch k6 n4
  replace kz := kz.trans (Kp.ch (X := fun k => k = c6) k6 rfl) (fun i hi e => by omega)
  replace hM3 := (Kp.ch (X := fun k => k = c6) k6 rfl).maxL (by show ¬ mxB = c6; omega) hM3
  clear k6
  refine hKK.out _ _ hH2 ?_
  clear hHeld
  intro hHeld
  clear hKK KK
  try simp only [Act.put, List.setIfInBounds_toArray, List.set_cons_zero, List.set_cons_succ]
  clear hH2
  generalize w6.setCell ⟨c6, 1, none⟩ (.string (txt st bs)) = w7 at q6 hS q4 kz hM3 hHeld ⊢
  refine take' 19 (v := ?_) rfl (by kernel_rfl) (by kernel_rfl) (by kernel_rfl) (fun _ _ _ h => h) (Or.inl ⟨by rfl, ?_⟩) (by assumption) ?_
  rotate_left
  · intro w9 hSw
    go_simp
    first | done | with_reducible rfl
  simp only [Act.put, List.setIfInBounds_toArray, List.set_cons_zero, List.set_cons_succ]
  refine wpAnyH_ready (rs := [20]) (by kernel_rfl) (by simp) ?_
  refine cons' rfl (fun KK hKK => ?_)
  have fz := fun o => q6.frozen o
  have t0 := q6.cell 3
  simp only [List.getElem?_toArray, List.getElem?_cons_zero, List.getElem?_cons_succ] at t0
  have Q6 := hideT q6
  clear q6
  go_simp
  have q6 := Q6.out
  clear Q6 t0 fz
  obtain ⟨k6, q7⟩ := q6.set (o := 3) (.int .i64 rd)
  clear q6
  have q6 : Blk (w7.setCell ⟨c6, 3, none⟩ (.int .i64 rd)) c6 #[.int .i64 (kindN st : Nat), .string (txt st bs), .int .i64 bB, .int .i64 rd, .int .i64 bL, .int .i64 bC] 32 := by simpa using q7
  clear q7
  have hH2 := And.intro (k6.cell nb hHeld.1) (k6.cell nb hHeld.2)
  replace hS := hS.ch k6 nb
  replace q4 := q4.ch k6 n4
  replace kz := kz.trans (Kp.ch (X := fun k => k = c6) k6 rfl) (fun i hi e => by omega)
  replace hM3 := (Kp.ch (X := fun k => k = c6) k6 rfl).maxL (by show ¬ mxB = c6; omega) hM3
  clear k6
  refine hKK.out _ _ hH2 ?_
  clear hHeld
  intro hHeld
  clear hKK KK
  try simp only [Act.put, List.setIfInBounds_toArray, List.set_cons_zero, List.set_cons_succ]
  clear hH2
  generalize w7.setCell ⟨c6, 3, none⟩ (.int .i64 rd) = w8 at q6 hS q4 kz hM3 hHeld ⊢
  refine wpAnyH_done (by kernel_rfl) ?_ _
  clear hHeld
  have s0 := hS.cell 0
  have s1 := hS.cell 1
  simp only [Scan.cells, List.getElem?_toArray, List.getElem?_cons_zero, List.getElem?_cons_succ] at s0 s1
  have fz := fun o => hS.frozen o
  have p0 := q6.cell 0
  have p1 := q6.cell 1
  have p2 := q6.cell 2
  have p3 := q6.cell 3
  have p4 := q6.cell 4
  have p5 := q6.cell 5
  have t0 := q4.cell 0
  have t1 := q4.cell 1
  have t2 := q4.cell 2
  have t3 := q4.cell 3
  have t4 := q4.cell 4
  have t5 := q4.cell 5
  simp only [List.getElem?_toArray, List.getElem?_cons_zero, List.getElem?_cons_succ] at p0 t0 p1 t1 p2 t2 p3 t3 p4 t4 p5 t5
  have fz4 := fun o => q4.frozen o
  go_wp2_with fail
  clear s0 s1 fz fz4 p0 t0 p1 t1 p2 t2 p3 t3 p4 t4 p5 t5
  obtain ⟨ka, ha⟩ := hS.set (o := 0) (.int .i64 3)
  obtain ⟨kb, hb⟩ := ha.set (o := 1) (.slice none 0 0)
  have hS2 : Blk ((w8.setCell ⟨b, 0, none⟩ (.int .i64 3)).setCell ⟨b, 1, none⟩ (.slice none 0 0)) b #[.int .i64 (3 : Nat), .slice none 0 0, .int .i64 0, .string ⟨#[]⟩, .int .i64 bB, .int .i64 bE, .int .i64 bL, .int .i64 bC, .int .i64 rd, .int .i64 ln, .int .i64 ah, .int .i64 er] 82 := by simpa [Scan.cells] using hb
  have kab := ka.trans kb
  have n4b : w.heap.size ≠ b := by omega
  replace q4 := q4.ch kab n4b
  replace kz := kz.trans (Kp.ch (X := Scan.rows b (.slice a0 come.length cp)) kab (Or.inl rfl)) (fun _ _ c => c)
  clear ka kb ha hb kab hS
  generalize (w8.setCell ⟨b, 0, none⟩ (.int .i64 3)).setCell ⟨b, 1, none⟩ (.slice none 0 0) = w9 at hS2 q4 kz ⊢
  obtain ⟨k4, q5⟩ := q4.set6 (.int .i64 (kindN st : Nat)) (.string (txt st bs)) (.int .i64 bB) (.int .i64 rd) (.int .i64 bL) (.int .i64 bC)
  unfold set6 at k4 q5
  replace hS2 := hS2.ch k4 (Ne.symm n4b)
  replace kz := kz.trans (Kp.ch (X := fun k => k = w.heap.size) k4 rfl) (fun i hi e => by omega)
  have x0 := q5.cell 0
  have x1 := q5.cell 1
  have x2 := q5.cell 2
  have x3 := q5.cell 3
  have x4 := q5.cell 4
  have x5 := q5.cell 5
  simp only [List.getElem?_toArray, List.getElem?_cons_zero, List.getElem?_cons_succ] at x0 x1 x2 x3 x4 x5
  clear k4 q5 q4
  generalize ((((((w9.setCell ⟨w.heap.size, 0, none⟩ (.int .i64 (kindN st : Nat))).setCell ⟨w.heap.size, 1, none⟩ (.string (txt st bs))).setCell ⟨w.heap.size, 2, none⟩ (.int .i64 bB)).setCell ⟨w.heap.size, 3, none⟩ (.int .i64 rd)).setCell ⟨w.heap.size, 4, none⟩ (.int .i64 bL)).setCell ⟨w.heap.size, 5, none⟩ (.int .i64 bC)) = wz at hS2 kz x0 x1 x2 x3 x4 x5 ⊢
  refine bodyPost_ret (v := .agg #[.int .i64 (kindN st : Nat), .string (txt st bs), .int .i64 bB, .int .i64 rd, .int .i64 bL, .int .i64 bC]) (by rw [results_c rfl]; go_simp) rfl ?_
  rw [HBS.out]
  exact ⟨rfl, ⟨hS2, h.lt, h.mx, World.ownsRow_nil _ _ _ _⟩, kz⟩
end Go.Proofs.YtibeiggedmabkaaDoor
