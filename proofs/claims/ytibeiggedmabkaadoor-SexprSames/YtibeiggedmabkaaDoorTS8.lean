/-
  Feed.
-/
import Derived.Test.YtibeiggedmabkaaDoorTS7
import Derived.Test.YtibeiggedmabkaaDoorTKB
import Derived.Test.YtibeiggedmabkaaDoorTAP
import Derived.Deep.AppendLies
import Derived.Deep.CutRange
namespace Go.Proofs.YtibeiggedmabkaaDoor
open Go.RowKit
set_option linter.unusedVariables false
set_option linter.unusedSimpArgs false

/-- a scanner and what has been read -/
structure RelS (S : Scan) (p : PS) : Prop where
  st : S.st = p.st
  rd : S.rd = p.rd
  ln : S.ln = p.ln
  ah : S.ah = p.ah
  low : p.st ≤ 4 → S.come = []
  hi : 4 < p.st → S.come = p.buf ∧ S.bB = p.bB ∧ S.bE = p.bB ∧ S.bL = p.bL ∧ S.bC = p.bC
/-- inside of a piece: the token's bytes from place f on are not in the scanner yet -/
structure RelF (S : Scan) (f pos : Nat) (bs : List UInt8) (r0 : Nat) (p : PS) : Prop where
  st : S.st = p.st
  ln : S.ln = p.ln
  ah : S.ah = p.ah
  rd : p.rd = r0 + pos
  low : p.st ≤ 4 → S.come = []
  hi : 4 < p.st → f ≤ pos ∧ p.buf = S.come ++ (bs.take pos).drop f ∧ S.bB = p.bB ∧ S.bE = p.bB ∧ S.bL = p.bL ∧ S.bC = p.bC
theorem oper_append {P : Program} {o : Oper} {a : Act} {w w' : World} {K : Act → World → Prop} {Q : Exit → Act → World → Prop} {t u : TypeId} {sl x : Operand} {v v' : Value} {s : ByteArray}
    (ho : o.op = .call { callee := .builtin .append, args := #[sl, x], argTypes := #[t, u] }) (hs : a.eval sl = v) (hx : a.eval x = .string s)
    (hr : (Builtin.append_ #[t, u] o.type #[v, .string s]).run P w = .ok v' w') (h : K (a.put o.dst v') w') : Oper.wp P o a w K Q := by
  unfold Oper.wp execOp
  simp only [ho, resolve, invoke, builtin, Sem.run_bind, Sem.run_pure, Result.andThen_ok, List.map_toArray, List.map_cons, List.map_nil, hs, hx, hr]
  exact h
theorem Blk.setRd {c : Nat} {W : World} {S : Scan} (h : Blk W c S.cells 82) (z : Int) (n : Nat) (hz : z = (n : Int)) : Ch c W (W.setCell ⟨c, 8, none⟩ (.int .i64 z)) ∧ Blk (W.setCell ⟨c, 8, none⟩ (.int .i64 z)) c (Scan.cells { S with rd := n }) 82 := by
  subst hz
  refine ⟨Ch.set _, ?_⟩
  simp [Blk, Scan.cells, World.setCell, Array.getElem?_modify, show W.heap[c]? = _ from h]
theorem own_ne {w : World} {b1 b2 : Nat} {e1 e2 : TypeId} {z1 z2 : Nat} {v1 v2 : Value} {n1 n2 : Nat} {x1 x2 : List Value} (h1 : w.ownsRow b1 e1 z1 v1 n1 x1) (h2 : w.ownsRow b2 e2 z2 v2 n2 x2) (hne : e1 ≠ e2) : ∀ g, v1.ownBlock = some g → v2.ownBlock ≠ some g := fun g g1 g2 => by
  rcases h1.2 with ⟨rfl, _⟩ | ⟨k1, c1, r1, rfl, _, hc1, _⟩
  · cases g1
  · rcases h2.2 with ⟨rfl, _⟩ | ⟨k2, c2, r2, rfl, _, hc2, _⟩
    · cases g2
    · injection g1 with g1
      injection g2 with g2
      simp only at g1 g2
      subst g1
      subst g2
      rw [hc1] at hc2
      injection hc2 with hc2
      injection hc2 with _ hc2 _
      exact hne hc2
theorem Blk.setCv {c : Nat} {W : World} {S : Scan} (h : Blk W c S.cells 82) (v : Value) (l : List UInt8) : Ch c W (W.setCell ⟨c, 1, none⟩ v) ∧ Blk (W.setCell ⟨c, 1, none⟩ v) c (Scan.cells { S with cv := v, come := l }) 82 := by
  refine ⟨Ch.set _, ?_⟩
  simp [Blk, Scan.cells, World.setCell, Array.getElem?_modify, show W.heap[c]? = _ from h]
theorem ext_list (s : ByteArray) (i j : Nat) : (s.extract i j).data.toList = (s.data.toList.take j).drop i := by
  rw [ByteArray.data_extract, Array.toList_extract]
  simp [List.drop_take, List.extract_eq_take_drop]
theorem Kp.iter {k : Nat} {w : World} {s : ByteArray} {p q : Nat} (h : w.heap[k]? = some (.stringIter s p)) : Kp (fun i => i = k) w (w.iterAt k s q) :=
  ⟨rfl, rfl, rfl, by simp [World.iterAt], fun i hi hn => by
    simp only [World.iterAt]
    rw [Array.getElem?_setIfInBounds_ne (fun e => hn e.symm)]⟩

/-- what does not change while a piece is read -/
structure FC (w1 : World) (base b : Nat) (cv0 : Value) : Prop where
  hb : b < w1.heap.size
  bl : b < base
  mx : mxB < b
  bs : base ≤ w1.heap.size
  ob : ∀ g, cv0.ownBlock = some g → base ≤ g ∧ g < w1.heap.size
/-- memory while a piece is read: the text's place, the scanner, the tokens that are told -/
structure FI (w1 : World) (base b : Nat) (cv0 : Value) (s : ByteArray) (wr : World) (q : Nat) (S1 : Scan) (told : Value) (T : List Tok) : Prop where
  it : wr.heap[w1.heap.size]? = some (.stringIter s q)
  sc : ScAt wr base b S1
  tl : wr.ownsRow (w1.heap.size + 1) 32 6 told T.length (tokCells T)
  kz : Kp (Scan.rows b cv0) w1 wr
  cv : S1.cv = cv0 ∨ S1.cv = .slice none 0 0
  mx : MaxL wr
  nl : T = [] → told = .slice none 0 0
section
variable {w1 wr wr' : World} {base b : Nat} {cv0 : Value} {s : ByteArray} {q : Nat} {S1 S2 : Scan} {told told' : Value} {T : List Tok}
theorem FI.lt (h : FI w1 base b cv0 s wr q S1 told T) : w1.heap.size < wr.heap.size := (Array.getElem?_eq_some_iff.1 h.it).1
theorem FI.ob (h : FI w1 base b cv0 s wr q S1 told T) (c : FC w1 base b cv0) : ∀ g, S1.cv.ownBlock = some g → base ≤ g ∧ g < w1.heap.size := fun g hg => by
  rcases h.cv with e | e
  · rw [e] at hg; exact c.ob g hg
  · rw [e] at hg; cases hg
theorem FI.on (h : FI w1 base b cv0 s wr q S1 told T) (hb : Below wr.heap.size wr wr') : FI w1 base b cv0 s wr' q S1 told T :=
  ⟨(hb.block _ h.lt).trans h.it, h.sc.kp (Kp.of (X := fun _ => False) hb) (fun _ _ c => c), own_kp h.tl (Kp.of (X := fun _ => False) hb) (fun _ _ c => c), h.kz.trans (Kp.of (X := Scan.rows b cv0) hb) (fun _ _ c => c), h.cv, h.mx.on hb, h.nl⟩
theorem FI.iter (h : FI w1 base b cv0 s wr q S1 told T) (c : FC w1 base b cv0) (q' : Nat) : FI w1 base b cv0 s (wr.iterAt w1.heap.size s q') q' S1 told T := by
  have k := Kp.iter (q := q') h.it
  refine ⟨Lib.iterAt_heap wr w1.heap.size s q q' h.it, h.sc.kp k (fun i hi e => ?_), own_kp h.tl k (fun g hg e => ?_), h.kz.trans k (fun i hi e => ?_), h.cv, k.maxL ?_ h.mx, h.nl⟩
  · rcases hi with hi | hi
    · have := c.hb; omega
    · have := (h.ob c i hi).2; omega
  · have := (own_lt h.tl hg).1; omega
  · omega
  · show ¬ mxB = w1.heap.size
    have := c.hb; have := c.mx; omega
theorem FI.put (h : FI w1 base b cv0 s wr q S1 told T) (c : FC w1 base b cv0) (k : Ch b wr wr') (blk : Blk wr' b S2.cells 82) (e1 : S2.cv = S1.cv) (e2 : S2.come = S1.come) : FI w1 base b cv0 s wr' q S2 told T := by
  have kb := Kp.ch (X := fun i => i = b) k rfl
  refine ⟨(k.other _ (by have := c.hb; omega)).trans h.it, h.sc.put k blk e1 e2, own_kp h.tl kb (fun g hg e => ?_), h.kz.trans kb (fun i hi e => Or.inl e), by rw [e1]; exact h.cv, kb.maxL ?_ h.mx, h.nl⟩
  · have := (own_lt h.tl hg).1; have := c.hb; omega
  · show ¬ mxB = b
    have := c.mx; omega
theorem FI.tell (h : FI w1 base b cv0 s wr q S1 told T) (c : FC w1 base b cv0) (k : Kp (Scan.rows b S1.cv) wr wr') (sc : ScAt wr' base b S2) (e : S2.cv = .slice none 0 0) : FI w1 base b cv0 s wr' q S2 told T := by
  have no : ∀ i, Scan.rows b S1.cv i → i < w1.heap.size ∧ i ≠ mxB := fun i hi => by
    rcases hi with hi | hi
    · have := c.hb; have := c.mx; omega
    · have := (h.ob c i hi); have := c.bl; have := c.mx; omega
  refine ⟨(k.block _ h.lt (fun x => by have := (no _ x).1; omega)).trans h.it, sc, own_kp h.tl k (fun g hg x => ?_), h.kz.trans k (fun i hi x => ?_), Or.inr e, k.maxL (fun x => (no _ x).2 rfl) h.mx, h.nl⟩
  · have := (own_lt h.tl hg).1; have := (no _ x).1; omega
  · rcases x with x | x
    · exact Or.inl x
    · rcases h.cv with e2 | e2
      · exact Or.inr (by rw [← e2]; exact x)
      · rw [e2] at x; cases x
theorem FI.grow (h : FI w1 base b cv0 s wr q S1 told T) (c : FC w1 base b cv0) (t : Tok) (gr : wr.grownBy wr' told.ownBlock) (own' : wr'.ownsRow (w1.heap.size + 1) 32 6 told' (T.length + 1) (tokCells T ++ t.cells)) : FI w1 base b cv0 s wr' q S1 told' (T ++ [t]) := by
  have k : Kp (fun i => told.ownBlock = some i) wr wr' := Kp.grown gr (fun i e => e)
  have no : ∀ i, told.ownBlock = some i → w1.heap.size + 1 ≤ i := fun i hi => (own_lt h.tl hi).1
  refine ⟨(k.block _ h.lt (fun x => by have := no _ x; omega)).trans h.it, h.sc.kp k (fun i hi x => ?_), ?_, h.kz.trans k (fun i hi x => ?_), h.cv, k.maxL (fun x => ?_) h.mx, fun x => absurd x (by simp)⟩
  · have := no _ x
    rcases hi with hi | hi
    · have := c.hb; omega
    · have := (h.ob c i hi).2; omega
  · rw [List.length_append, tokCells_app]
    exact own' 
  · have := no _ x; omega
  · have := no _ x; have := c.hb; have := c.mx; omega
end

theorem char_at {s : ByteArray} {bs : List UInt8} (hbs : s.data.toList = bs) {pos : Nat} (hp : pos < s.size) {p : PS} (hi : Inv p) :
    ((bs.take (pos + wid s pos)).drop pos).length = wid s pos ∧ 1 ≤ wid s pos ∧ pos + wid s pos ≤ s.size ∧ feedP p ((bs.take (pos + wid s pos)).drop pos) = charP p (chr s pos) ((bs.take (pos + wid s pos)).drop pos) ∧
      bs.take (pos + wid s pos) = bs.take pos ++ (bs.take (pos + wid s pos)).drop pos ∧ (chr s pos < 128 → wid s pos = 1) := by
  have hbl : bs.length = s.size := by rw [← hbs, Array.length_toList]; rfl
  obtain ⟨h1, h2⟩ := wid_in hp
  have h3 := wid_pos hp
  have hlen : ((bs.take (pos + wid s pos)).drop pos).length = wid s pos := by rw [List.length_drop, List.length_take]; omega
  have hget : ∀ k, (hk : k < s.size) → bs[k]'(by omega) = s[k] := fun k hk => by
    subst hbs
    simp
    rfl
  have hmem : ∀ u ∈ (bs.take (pos + wid s pos)).drop pos, ∃ k, pos ≤ k ∧ k < pos + wid s pos ∧ u.toNat = byt s k := fun u hu => by
    obtain ⟨j, hj, e⟩ := List.mem_iff_getElem.1 hu
    rw [hlen] at hj
    refine ⟨pos + j, by omega, by omega, ?_⟩
    rw [byt_of (by omega), ← hget (pos + j) (by omega), ← e, List.getElem_drop, List.getElem_take]
  refine ⟨hlen, h3, h1, ?_, ?_, fun hc => ?_⟩
  · by_cases hlo : byt s pos < 128
    · obtain ⟨e1, e2⟩ := chr_low hp hlo
      have hl1 : ((bs.take (pos + wid s pos)).drop pos).length = 1 := by rw [hlen, e2]
      obtain ⟨u, hu⟩ := List.length_eq_one_iff.1 hl1
      obtain ⟨k, k1, k2, k3⟩ := hmem u (by rw [hu]; exact List.mem_singleton.2 rfl)
      have : k = pos := by omega
      subst this
      rw [hu, feedP_one, k3, e1]
    · refine char_high p hi.wt hi.nr _ (chr_high hp (by omega)).1 _ (fun e => by rw [e] at hlen; simp at hlen; omega) (fun u hu => ?_)
      obtain ⟨k, k1, k2, k3⟩ := hmem u hu
      rw [k3]
      by_cases e : k = pos
      · rw [e]; omega
      · exact h2 k (by omega) k2
  · have e : (bs.take (pos + wid s pos)).take pos = bs.take pos := by rw [List.take_take]; congr 1; omega
    rw [← e, List.take_append_drop]
  · by_cases hlo : byt s pos < 128
    · exact (chr_low hp hlo).2
    · have := (chr_high hp (by omega)).1; omega
theorem over_st {st r : Nat} (hs : st ∈ waits) (h : folN st r = 23) : 4 < st := by
  simp only [waits, List.mem_cons, List.not_mem_nil, or_false] at hs
  rcases hs with rfl | rfl | hs
  · have e : folN 3 r = startN r := by simp [folN]
    have := startN_in r
    rw [← e, h] at this
    exact absurd this (by decide)
  · simp only [folN] at h
    simp at h
    split at h <;> omega
  · omega
/-- behind what was over: the scanner, and what is pure -/
structure MidA (S : Scan) (f pos : Nat) (bs : List UInt8) (P : PS) : Prop where
  st : S.st = P.st
  rd : S.rd = P.rd
  ln : S.ln = P.ln
  ah : S.ah = P.ah
  low : P.st ≤ 4 → S.come = []
  hi : 4 < P.st → f ≤ pos ∧ P.buf = S.come ++ (bs.take pos).drop f ∧ S.bB = P.bB ∧ S.bE = P.bB ∧ S.bL = P.bL ∧ S.bC = P.bC
/-- behind the place where it begins -/
structure MidB (S : Scan) (f pos : Nat) (bs : List UInt8) (P : PS) : Prop where
  rd : S.rd = P.rd
  ln : S.ln = P.ln
  ah : S.ah = P.ah
  le : f ≤ pos
  buf : P.buf = S.come ++ (bs.take pos).drop f
  bB : S.bB = P.bB
  bE : S.bE = P.bB
  bL : S.bL = P.bL
  bC : S.bC = P.bC
theorem Blk.setBg {c : Nat} {W : World} {S : Scan} (h : Blk W c S.cells 82) (z1 z2 z3 z4 : Int) :
    Ch c W ((((((W.setCell ⟨c, 2, none⟩ (.int .i64 0)).setCell ⟨c, 3, none⟩ (.string ⟨#[]⟩)).setCell ⟨c, 4, none⟩ (.int .i64 z1)).setCell ⟨c, 5, none⟩ (.int .i64 z2)).setCell ⟨c, 6, none⟩ (.int .i64 z3)).setCell ⟨c, 7, none⟩ (.int .i64 z4)) ∧
      Blk ((((((W.setCell ⟨c, 2, none⟩ (.int .i64 0)).setCell ⟨c, 3, none⟩ (.string ⟨#[]⟩)).setCell ⟨c, 4, none⟩ (.int .i64 z1)).setCell ⟨c, 5, none⟩ (.int .i64 z2)).setCell ⟨c, 6, none⟩ (.int .i64 z3)).setCell ⟨c, 7, none⟩ (.int .i64 z4)) c (Scan.cells { S with bB := z1, bE := z2, bL := z3, bC := z4 }) 82 := by
  refine ⟨Ch.trans (Ch.trans (Ch.trans (Ch.trans (Ch.trans (Ch.set _) (Ch.set _)) (Ch.set _)) (Ch.set _)) (Ch.set _)) (Ch.set _), ?_⟩
  simp [Blk, Scan.cells, World.setCell, Array.getElem?_modify, show W.heap[c]? = _ from h]
theorem Blk.setLn {c : Nat} {W : World} {S : Scan} (h : Blk W c S.cells 82) (z1 z2 : Int) (n1 n2 : Nat) (e1 : z1 = (n1 : Int)) (e2 : z2 = (n2 : Int)) :
    Ch c W ((W.setCell ⟨c, 9, none⟩ (.int .i64 z1)).setCell ⟨c, 10, none⟩ (.int .i64 z2)) ∧ Blk ((W.setCell ⟨c, 9, none⟩ (.int .i64 z1)).setCell ⟨c, 10, none⟩ (.int .i64 z2)) c (Scan.cells { S with ln := n1, ah := n2 }) 82 := by
  subst e1
  subst e2
  refine ⟨Ch.trans (Ch.set _) (Ch.set _), ?_⟩
  simp [Blk, Scan.cells, World.setCell, Array.getElem?_modify, show W.heap[c]? = _ from h]
theorem FI.kb {w1 wr wr' : World} {base b : Nat} {cv0 : Value} {s : ByteArray} {q : Nat} {S1 S2 : Scan} {told : Value} {T : List Tok} (h : FI w1 base b cv0 s wr q S1 told T) (c : FC w1 base b cv0) (k : Kp (fun i => i = b) wr wr') (sc : ScAt wr' base b S2) (e1 : S2.cv = S1.cv) : FI w1 base b cv0 s wr' q S2 told T := by
  refine ⟨(k.block _ h.lt (fun e => by have := c.hb; omega)).trans h.it, sc, own_kp h.tl k (fun g hg e => ?_), h.kz.trans k (fun i hi e => Or.inl e), by rw [e1]; exact h.cv, k.maxL ?_ h.mx, h.nl⟩
  · have := (own_lt h.tl hg).1; have := c.hb; omega
  · show ¬ mxB = b
    have := c.mx; omega
theorem drop_more {bs us : List UInt8} {pos n f : Nat} (c5 : bs.take (pos + n) = bs.take pos ++ us) (hf : f ≤ pos) (hp : pos ≤ bs.length) : (bs.take (pos + n)).drop f = (bs.take pos).drop f ++ us := by
  rw [c5, List.drop_append_of_le_length (by rw [List.length_take]; omega)]
theorem told_len (p : PS) (r : Nat) : (p.told r).length ≤ 1 := by unfold PS.told; split <;> simp
theorem info_Tok : (Tryd.prog.info? 32).map (fun i => (i.zero, i.size, i.bytes)) = some (some (.agg #[.int .i64 0, .string ⟨#[]⟩, .int .i64 0, .int .i64 0, .int .i64 0, .int .i64 0]), 6, 56) := by kernel_rfl
/-- the scanner behind a Feed -/
def FOut (w : World) (base b h0 : Nat) (v : Value) (er : Int) : Out → Prop
  | .ok q => er = 0 ∧ ∃ S, ScAt w base b S ∧ RelS S q ∧ Inv q ∧ (∀ g, S.cv.ownBlock = some g → v.ownBlock ≠ some g)
  | .bad B L C => er = 120 ∧ ScAt w base b ⟨2, .slice none 0 0, [], B, B, L, C, 0, 0, 0, 120⟩
/-- the same, and where its row lies: where it lay, or in a new block -/
def FOut2 (w : World) (base b h0 : Nat) (v : Value) (er : Int) (cv0 : Value) : Out → Prop
  | .ok q => er = 0 ∧ ∃ S, ScAt w base b S ∧ RelS S q ∧ Inv q ∧ (∀ g, S.cv.ownBlock = some g → v.ownBlock ≠ some g) ∧ (∀ g, S.cv.ownBlock = some g → cv0.ownBlock = some g ∨ h0 ≤ g)
  | .bad B L C => er = 120 ∧ ScAt w base b ⟨2, .slice none 0 0, [], B, B, L, C, 0, 0, 0, 120⟩
theorem FOut2.less {w : World} {base b h0 : Nat} {v : Value} {er : Int} {cv0 : Value} {o : Out} (h : FOut2 w base b h0 v er cv0 o) : FOut w base b h0 v er o := by
  cases o with
  | ok q => obtain ⟨h1, S, h2, h3, h4, h5, _⟩ := h; exact ⟨h1, S, h2, h3, h4, h5⟩
  | bad B L C => exact h
set_option maxHeartbeats 40000000 in
set_option maxRecDepth 100000 in
theorem feedS2 (base b : Nat) (S : Scan) (p0 : PS) (s : ByteArray) (w : World) (h : ScAt w base b S) (hbase : base ≤ w.heap.size) (hR : RelS S p0) (hi : Inv p0) (hsz : p0.rd + s.size ≤ 4294967280) (hbuf : p0.buf.length ≤ p0.rd) (hln : p0.ln ≤ p0.rd) (hM : MaxL w) :
    Calls Tryd.prog 33 #[.pointer (some ⟨b, 0, none⟩), .string s] w fun e w' => ∃ v er, e = .returned (.tuple #[v, .int .i64 er]) ∧ w'.ownsRow (w.heap.size + 1) 32 6 v (feedP p0 s.data.toList).1.length (tokCells (feedP p0 s.data.toList).1) ∧ Kp (Scan.rows b S.cv) w w' ∧ FOut2 w' base b w.heap.size v er S.cv (feedP p0 s.data.toList).2 ∧ ((feedP p0 s.data.toList).1 = [] → v = .slice none 0 0) := by
  have hst : 3 ≤ S.st := by rw [hR.st]; have := hi.wt; simp only [waits, List.mem_cons, List.not_mem_nil, or_false] at this; omega
  have GR := hideT (refusesS base b S w h hst)
  have y8 := h.cell 8
  simp only [Scan.cells, List.getElem?_toArray, List.getElem?_cons_zero, List.getElem?_cons_succ] at y8
  rw [hR.rd] at y8
  have hlt := h.blk.lt
  obtain ⟨bs, hbs⟩ : ∃ bs, s.data.toList = bs := ⟨_, rfl⟩
  have hbl : bs.length = s.size := by rw [← hbs, Array.length_toList]; rfl
  rw [hbs]
  have HBS := hideT hbs
  clear hbs
  have HR := hideT hR
  have HI := hideT hi
  clear hR hi
  go_enter Tryd.func33, Tryd.ntmps33
  go_wp2_with fail
  refine GR.out.mono ?_
  rintro e w1 ⟨rfl, rfl⟩
  go_wp2_with fail
  go_loopw [7, 9] (fun told frm wr => ∃ (pos f : Nat) (T : List Tok) (S1 : Scan) (p : PS), pos ≤ s.size ∧ frm = .int .i64 f ∧ wr.heap[w1.heap.size]? = some (.stringIter s pos) ∧ ScAt wr base b S1 ∧ wr.ownsRow (w1.heap.size + 1) 32 6 told T.length (tokCells T) ∧ Kp (Scan.rows b S.cv) w1 wr ∧ feedP p0 (bs.take pos) = (T, .ok p) ∧ Inv p ∧ RelF S1 f pos bs p0.rd p ∧ (S1.cv = S.cv ∨ S1.cv = .slice none 0 0) ∧ MaxL wr ∧ T.length ≤ pos * 2 ∧ p.ln ≤ p.rd ∧ p.buf.length ≤ p.rd ∧ (T = [] → told = .slice none 0 0)) (fun _ _ wr => s.size - wr.iterPos w1.heap.size)
  case atStart =>
    refine ⟨0, 0, [], S, p0, Nat.zero_le _, rfl, World.iter_heap _ _ _, h.kp (Kp.of (X := fun _ => False) (below_iter0 _ _ _)) (fun _ _ c => c), World.ownsRow_nil _ _ _ _, Kp.of (below_iter0 _ _ _), rfl, HI.out, ⟨HR.out.st, HR.out.ln, HR.out.ah, rfl, HR.out.low, fun c => ⟨Nat.le_refl _, by rw [(HR.out.hi c).1]; simp, (HR.out.hi c).2⟩⟩, Or.inl rfl, hM.on (below_iter0 _ _ _), Nat.le_refl _, hln, hbuf, fun _ => rfl⟩
  case round =>
    obtain ⟨pos, f, T, S1, p, hps, rfl, hit, hS, hT, kz, hfe, hi, hF, hcv, hM1, hTl, hpl, hpb, hnl⟩ := hrel
    by_cases hp : pos < s.size
    · obtain ⟨c1, c2, c3, c4, c5, c6⟩ := char_at HBS.out hp hi
      have hC : FC w1 base b S.cv := ⟨hlt, h.lt, h.mx, hbase, fun g hg => own_lt h.own hg⟩
      have fi : FI w1 base b S.cv s wr pos S1 u7 T := ⟨hit, hS, hT, kz, hcv, hM1, hnl⟩
      have HNL := hideT hnl
      clear hnl
      have hnx : ∀ ty, (Instr.next (.pointer (some ⟨w1.heap.size, 0, none⟩)) true ty).run Tryd.prog wr = _ := fun ty => Lib.run_next_any_at wr w1.heap.size s pos ty hit hp
      change ∀ ty, (Instr.next (.pointer (some ⟨w1.heap.size, 0, none⟩)) true ty).run Tryd.prog wr = .ok (.tuple #[.bool true, .int .i64 pos, .int .i32 (chr s pos : Nat)]) (wr.iterAt w1.heap.size s (pos + wid s pos)) at hnx
      have fi0 := fi.iter hC (pos + wid s pos)
      have hits := hit
      generalize hus : (bs.take (pos + wid s pos)).drop pos = us at c1 c4 c5
      have HUS := hideT hus
      clear hus
      generalize chr s pos = r at hnx c4 c6
      generalize wid s pos = n at hnx c1 c2 c3 c5 c6 fi0 HUS
      obtain ⟨W0, hW0⟩ : ∃ W0, wr.iterAt w1.heap.size s (pos + n) = W0 := ⟨_, rfl⟩
      rw [hW0] at hnx fi0
      clear hW0
      have y8 := fi0.sc.cell 8
      have y0 := fi0.sc.cell 0
      simp only [Scan.cells, List.getElem?_toArray, List.getElem?_cons_zero, List.getElem?_cons_succ] at y8 y0
      rw [hF.st] at y0
      have fz := fun o => fi0.sc.blk.frozen o
      have HC1 := hideT (And.intro c1 (And.intro c2 (And.intro c3 (And.intro c4 (And.intro c5 c6)))))
      clear c1 c2 c4 c5 c6 hS hT kz hM1
      have hposs : (p0.rd : Int) + (pos : Int) ≤ 4294967280 := by omega
      go_wp2_with fail
      clear y8 y0 fz hnx
      obtain ⟨k8, q8⟩ := fi0.sc.blk.setRd ((p0.rd : Int) + (pos : Int)) p.rd (by rw [hF.rd]; omega)
      have fi1 := fi0.put hC k8 q8 rfl rfl
      clear k8 q8 fi0 fi hits
      generalize W0.setCell ⟨b, 8, none⟩ (.int .i64 ((p0.rd : Int) + (pos : Int))) = Wa at fi1 ⊢
      refine (follow_is p.st r hi.wt _).mono ?_
      rintro e Wb ⟨rfl, bb⟩
      have fi2 := fi1.on bb
      clear bb fi1
      go_upto_if 42 with fail
      go_cut [7, 12] from 25 to 115 (fun tv nx wx => ∃ (T5 : List Tok) (S5 : Scan) (wh : World), wh = wx ∧ nx = .int .i64 (nxt p.st r : Nat) ∧ FI w1 base b S.cv s wx (pos + n) S5 tv T5 ∧ T5 = T ++ p.told r ∧ MidA S5 f pos bs (p.cut r))
      case first =>
        by_cases hq : folN p.st r = 23
        · have hst4 := over_st hi.wt hq
          have hqi : ((folN p.st r : Nat) : Int) = 23 := by rw [hq]; rfl
          obtain ⟨hf1, hf2, hf3⟩ := hF.hi hst4
          have hsl : ∀ wx : World, (Instr.slice 9 (.string s) (some (.int .i64 (f : Nat))) (some (.int .i64 (pos : Nat))) none).run Tryd.prog wx = .ok (.string (s.extract f pos)) wx := fun wx => by
            have hh := run_slice_string (P := Tryd.prog) (w := wx) 9 s .i64 .i64 (f : Nat) (pos : Nat) Tryd.underlying9 (by omega) (by omega) (by omega)
            rw [Int.toNat_natCast, Int.toNat_natCast] at hh; exact hh
          have hby : S1.come ++ (s.extract f pos).data.toList = p.buf := by rw [ext_list, HBS.out]; exact hf2.symm
          have hes : (s.extract f pos).size = pos - f := by simp only [ByteArray.size_extract]; omega
          have hbz : S1.come.length + (s.extract f pos).size = p.buf.length := by rw [← hby, List.length_append, Array.length_toList]; rfl
          have hpb1 := hi.one hst4
          have hprd := hF.rd
          have GT := hideT (tell_is base b { S1 with rd := p.rd } (s.extract f pos) Wb fi2.sc (by have := fi2.kz.size; omega) (by show 3 ≤ S1.st; rw [hF.st]; omega) (by show S1.st ≤ 22; rw [hF.st]; have := hi.wt; simp only [waits, List.mem_cons, List.not_mem_nil, or_false] at this; omega) (by show 0 < S1.come.length + _; omega) (by show longEnough S1.st ⟨(S1.come ++ _).toArray⟩; rw [hby, hF.st]; exact hi.long) (by show S1.come.length + _ ≤ _; omega) fi2.mx)
          have HH := hideT (And.intro hby (And.intro hf1 (And.intro hf2 hf3)))
          clear hby hes hbz hf1 hf2 hf3 hpb1 hprd hq
          go_wp2_with fail
          refine GT.out.mono ?_
          rintro e Wc ⟨rfl, sc3, k3⟩
          have fi3 := fi2.tell hC k3 sc3 rfl
          clear GT k3 sc3 fi2
          simp only [hF.st, HH.out.1, HH.out.2.2.2.1, HH.out.2.2.2.2.2.1, HH.out.2.2.2.2.2.2]
          obtain ⟨Wx, hwx⟩ : ∃ wx, Wc.alloc (.cells #[.int .i64 (kindN p.st : Nat), .string (txt p.st ⟨p.buf.toArray⟩), .int .i64 p.bB, .int .i64 (p.rd : Nat), .int .i64 p.bL, .int .i64 p.bC] 32) = wx := ⟨_, rfl⟩
          have hnew := heap_alloc_new Wc (.cells #[.int .i64 (kindN p.st : Nat), .string (txt p.st ⟨p.buf.toArray⟩), .int .i64 p.bB, .int .i64 (p.rd : Nat), .int .i64 p.bL, .int .i64 p.bC] 32)
          have b3 := below_alloc (w := Wc) (.cells #[.int .i64 (kindN p.st : Nat), .string (txt p.st ⟨p.buf.toArray⟩), .int .i64 p.bB, .int .i64 (p.rd : Nat), .int .i64 p.bL, .int .i64 p.bC] 32)
          rw [hwx] at hnew b3
          have fx := fi3.on b3
          have hk2 : T.length + 1 ≤ maxLen := by simp only [maxLen]; omega
          have hbl2 : (T.length + 1) * 56 ≤ 140737488355328 := by omega
          have hbB : w1.heap.size + 1 ≤ Wx.heap.size := fx.lt
          obtain ⟨i0, hi0, hz0, hz1, hz2⟩ := info_parts info_Tok
          go_wp2_with (at_builtin; (try rw [hwx]); refine wpList_append_lies _ (by rfl) _ _ _ (by rfl) (w1.heap.size + 1) 32 i0 _ 6 56 Tryd.underlying69 hi0 hz0 hz1 hz2 rfl (by omega) u7 T.length (tokCells T) (by rfl) fx.tl ⟨Wc.heap.size, 0, none⟩ 1 1 [.int .i64 (kindN p.st : Nat), .string (txt p.st ⟨p.buf.toArray⟩), .int .i64 p.bB, .int .i64 (p.rd : Nat), .int .i64 p.bL, .int .i64 p.bC] (by rfl) (by rfl) (World.news_of_block (cs := #[.int .i64 (kindN p.st : Nat), .string (txt p.st ⟨p.buf.toArray⟩), .int .i64 p.bB, .int .i64 (p.rd : Nat), .int .i64 p.bL, .int .i64 p.bC]) (t := 32) (fr := (0, 0)) hnew) (by simp [Value.oneCell']) (by omega) hk2 hbl2 hbB Wx.heap.size rfl ?_)
          intro gb cap Wd hown4 hgrow hat hlt4
          have fi4 := fx.grow hC (p.tok p.rd) hgrow hown4
          clear fx hk2 hbl2 hbB hnew b3 hwx hown4 hgrow hat hlt4 hi0 hz0 hz1 hz2
          have G3 := hideT (fun w' => follow_is 3 r (by decide) w')
          go_wp2_with fail
          refine (G3.out _).mono ?_
          rintro e We ⟨rfl, be⟩
          have fi5 := fi4.on be
          clear be fi4
          go_wp2_with fail
          go_meet
          have hq23 : folN p.st r = 23 := by omega
          refine ⟨_, _, _, rfl, ?_, fi5, ?_, ?_⟩
          · unfold nxt; rw [if_pos hq23]; simp [folN]
          · unfold PS.told; rw [if_pos hq23]
          · have e2 : p.cut r = { p with st := 3, buf := [] } := by unfold PS.cut; rw [if_pos hq23]
            rw [e2]
            exact ⟨rfl, rfl, hF.ln, hF.ah, fun _ => rfl, fun c => absurd c (by show ¬ 4 < 3; omega)⟩
        · have hqi : (((folN p.st r : Nat) : Int) == 23) = false := by rw [beq_eq_false_iff_ne]; omega
          go_wp2_with fail
          go_meet
          refine ⟨_, _, _, rfl, ?_, fi2, ?_, ?_⟩
          · unfold nxt; rw [if_neg hq]
          · unfold PS.told; rw [if_neg hq, List.append_nil]
          · have e2 : p.cut r = p := by unfold PS.cut; rw [if_neg hq]
            rw [e2]
            exact ⟨hF.st, rfl, hF.ln, hF.ah, hF.low, hF.hi⟩
      case rest =>
        clear fi2
        obtain ⟨T5, S5, wh, hwh, rfl, fi5, hT5, hA⟩ := hcut
        subst hwh
        have hcs : (p.cut r).rd = p.rd ∧ (p.cut r).ln = p.ln ∧ (p.cut r).ah = p.ah := by unfold PS.cut; split <;> exact ⟨rfl, rfl, rfl⟩
        have HT5 := hideT hT5
        have HA := hideT hA
        have HCS := hideT hcs
        clear hT5 hA hcs
        obtain ⟨g, hg⟩ : ∃ g, g = decide (4 < S5.st) := ⟨_, rfl⟩
        have GB := hideT (begunS base b S5 wh fi5.sc g hg)
        have HG := hideT hg
        clear hg
        go_wp2_with fail
        refine GB.out.mono ?_
        rintro e Wf ⟨rfl, rfl⟩
        clear GB
        go_upto_if 56 with fail
        go_cut [9] from 25 to 115 (fun fv wx => ∃ (f6 : Nat) (S6 : Scan) (wh2 : World), wh2 = wx ∧ fv = .int .i64 f6 ∧ FI w1 base b S.cv s wx (pos + n) S6 u7 T5 ∧ MidB S6 f6 pos bs (p.cut r).beg)
        case first =>
          by_cases h4 : 4 < S5.st
          · have hg2 : g = true := by rw [HG.out]; simpa using h4
            rw [hg2]
            simp only [Bool.not_true]
            clear hg2
            go_wp2_with fail
            go_meet
            have eb : (p.cut r).beg = p.cut r := by unfold PS.beg; rw [if_neg (by rw [← HA.out.st]; omega)]
            obtain ⟨m1, m2, m3, m4, m5, m6⟩ := HA.out.hi (by rw [← HA.out.st]; exact h4)
            refine ⟨_, _, _, rfl, rfl, fi5, ?_⟩
            rw [eb]
            exact ⟨HA.out.rd, HA.out.ln, HA.out.ah, m1, m2, m3, m4, m5, m6⟩
          · have hg2 : g = false := by rw [HG.out]; simpa using h4
            rw [hg2]
            simp only [Bool.not_false]
            clear hg2
            have hrd : S5.rd = p.rd := HA.out.rd.trans HCS.out.1
            have hlnn : S5.ln = p.ln := HA.out.ln.trans HCS.out.2.1
            have hahh : S5.ah = p.ah := HA.out.ah.trans HCS.out.2.2
            have hprd := hF.rd
            have hple := hi.le
            have GH := hideT (hereS base b S5 Wf fi5.sc (by omega) (by omega) (by omega))
            unfold hereV at GH
            clear hrd hlnn hahh hprd hple
            go_wp2_with fail
            refine GH.out.mono ?_
            rintro e Wg ⟨rfl, bg⟩
            have fi6 := fi5.on bg
            clear GH bg fi5
            have y2 := fi6.sc.cell 2
            have y3 := fi6.sc.cell 3
            have y4 := fi6.sc.cell 4
            have y5 := fi6.sc.cell 5
            have y6 := fi6.sc.cell 6
            have y7 := fi6.sc.cell 7
            simp only [Scan.cells, List.getElem?_toArray, List.getElem?_cons_zero, List.getElem?_cons_succ] at y2 y3 y4 y5 y6 y7
            have fz := fun o => fi6.sc.blk.frozen o
            go_wp2_with fail
            clear fz y2 y3 y4 y5 y6 y7
            obtain ⟨kc, qc⟩ := fi6.sc.blk.setBg (S5.rd : Int) (S5.rd : Int) ((S5.ln : Int) + 1) (((S5.rd - S5.ah : Nat) : Int) + 1)
            have fi7 := fi6.put hC kc qc rfl rfl
            go_meet
            have hst : (p.cut r).st ≤ 4 := by rw [← HA.out.st]; omega
            have hcm := HA.out.low hst
            refine ⟨_, _, _, rfl, rfl, fi7, ?_⟩
            refine ⟨?_, ?_, ?_, Nat.le_refl _, ?_, ?_, ?_, ?_, ?_⟩
            all_goals (unfold PS.beg; rw [if_pos hst])
            · exact HA.out.rd
            · exact HA.out.ln
            · exact HA.out.ah
            · show [] = S5.come ++ (bs.take pos).drop pos
              rw [hcm]
              simp
            · show (S5.rd : Int) = ((p.cut r).rd : Nat); rw [HA.out.rd]
            · show (S5.rd : Int) = ((p.cut r).rd : Nat); rw [HA.out.rd]
            · show (S5.ln : Int) + 1 = ((p.cut r).ln : Int) + 1; rw [HA.out.ln]
            · show ((S5.rd - S5.ah : Nat) : Int) + 1 = (((p.cut r).rd - (p.cut r).ah : Nat) : Int) + 1; rw [HA.out.rd, HA.out.ah]
        case rest =>
          clear fi5
          obtain ⟨f6, S6, wh2, hwh2, rfl, fi6, hB6⟩ := hcut
          subst hwh2
          have HB6 := hideT hB6
          clear hB6
          obtain ⟨x, hx⟩ : ∃ x, nxt p.st r = x := ⟨_, rfl⟩
          rw [hx]
          have HX := hideT hx
          clear hx
          have HBF := hideT (beg_facts hi r)
          have HFE := hideT hfe
          clear hfe
          by_cases h24 : x = 24
          · skip
            have GE2 := hideT (enterB base b S6 wh2 fi6.sc)
            have H24 := hideT h24
            have hxi : ((x : Nat) : Int) = 24 := by omega
            clear h24
            go_wp2_with fail
            refine GE2.out.mono ?_
            rintro e Wh ⟨rfl, sc7, k7⟩
            have fi7 := fi6.tell hC k7 sc7 rfl
            clear k7 sc7 fi6 GE2
            go_wp2
            refine bodyPost_ret (v := .tuple #[u7, .int .i64 120]) (by rw [results_ttB rfl]; rfl) rfl ?_
            obtain ⟨c1, c2, c3, c4, c5, c6⟩ := HC1.out
            have hch : charP p r us = (p.told r, .bad (p.cut r).beg.bB (p.cut r).beg.bL (p.cut r).beg.bC) := by unfold charP; rw [if_pos (by rw [HX.out]; exact H24.out)]
            have hfa := feed_all (feed_on HFE.out c4 c5 hch)
            rw [← HT5.out] at hfa
            try rw [hfa]
            have sc8 := fi7.sc
            rw [HB6.out.bB, HB6.out.bE, HB6.out.bL, HB6.out.bC] at sc8
            exact ⟨_, _, rfl, fi7.tl, fi7.kz, ⟨rfl, sc8⟩, fi7.nl⟩
          by_cases h25 : x = 25
          · skip
            have f1 := HBF.out.1
            have f2 := HBF.out.2.1
            have f3 := HBF.out.2.2.1
            have g1 := HB6.out.rd
            have g2 := HB6.out.ln
            have g3 := HB6.out.ah
            have hprd := hF.rd
            have hple := hi.le
            have GE2 := hideT (enterF base b S6 wh2 fi6.sc (by omega) (by omega) (by omega))
            have H25 := hideT h25
            have hxi : ((x : Nat) : Int) = 25 := by omega
            clear h25 f1 f2 f3 g1 g2 g3 hprd hple
            go_wp2_with fail
            refine GE2.out.mono ?_
            rintro e Wh ⟨rfl, sc7, k7⟩
            have fi7 := fi6.tell hC k7 sc7 rfl
            clear k7 sc7 fi6 GE2
            go_wp2
            refine bodyPost_ret (v := .tuple #[u7, .int .i64 120]) (by rw [results_ttB rfl]; rfl) rfl ?_
            obtain ⟨c1, c2, c3, c4, c5, c6⟩ := HC1.out
            have hch : charP p r us = (p.told r, .bad p.rd ((p.ln : Int) + 1) (((p.rd - p.ah : Nat) : Int) + 1)) := by unfold charP; rw [if_neg (by rw [HX.out]; exact h24), if_pos (by rw [HX.out]; exact H25.out)]
            have hfa := feed_all (feed_on HFE.out c4 c5 hch)
            rw [← HT5.out] at hfa
            try rw [hfa]
            have sc8 := fi7.sc
            rw [HB6.out.rd, HB6.out.ln, HB6.out.ah, HBF.out.1, HBF.out.2.1, HBF.out.2.2.1] at sc8
            exact ⟨_, _, rfl, fi7.tl, fi7.kz, ⟨rfl, sc8⟩, fi7.nl⟩
          have GE2 := hideT (enterS base b x S6 wh2 fi6.sc h24 h25)
          go_wp2_with fail
          refine GE2.out.mono ?_
          rintro e Wh ⟨rfl, sc7, k7⟩
          have fi7 := fi6.kb hC k7 sc7 rfl
          clear k7 sc7 fi6 GE2
          have hT5l : T5.length ≤ pos * 2 + 1 := by rw [HT5.out, List.length_append]; have := told_len p r; omega
          have hprd : p.rd = p0.rd + pos := hF.rd
          have HPRD := hideT hprd
          clear hprd
          have hrd7 : S6.rd = p.rd := HB6.out.rd.trans HBF.out.1
          have hln7 : S6.ln = p.ln := HB6.out.ln.trans HBF.out.2.1
          have hah7 : S6.ah = p.ah := HB6.out.ah.trans HBF.out.2.2.1
          have H7 := hideT (And.intro hrd7 (And.intro hln7 hah7))
          have y8 := fi7.sc.cell 8
          have y9 := fi7.sc.cell 9
          have y10 := fi7.sc.cell 10
          simp only [Scan.cells, List.getElem?_toArray, List.getElem?_cons_zero, List.getElem?_cons_succ] at y8 y9 y10
          rw [hrd7] at y8
          rw [hln7] at y9
          rw [hah7] at y10
          clear hrd7 hln7 hah7
          have fz := fun o => fi7.sc.blk.frozen o
          have hb1 : p.rd ≤ 4294967280 := by have := HPRD.out; omega
          have hb2 : p.ln ≤ 4294967280 := by omega
          have HBB := hideT (beg_buf hi r)
          have HBL := hideT (beg_len hi r hpb)
          generalize hP : (p.cut r).beg = P at HB6 HBF HBB HBL
          have HP := hideT hP
          clear hP
          by_cases h5 : x = 5
          · skip
            have x5 : ((x : Int) == 5) = true := by rw [beq_iff_eq]; omega
            have hxx : nxt p.st r = 5 ∨ nxt p.st r = 6 ∨ nxt p.st r = 9 := by rw [HX.out]; omega
            have hn1 := HC1.out.2.2.2.2.2 (nxt_low hi.wt hxx)
            have hul : us.length = 1 := by rw [HC1.out.1]; exact hn1
            have hle6 := HB6.out.le
            have hsl : ∀ wx : World, (Instr.slice 9 (.string s) (some (.int .i64 (f6 : Nat))) (some (.int .i64 ((pos : Int) + 1))) none).run Tryd.prog wx = .ok (.string (s.extract f6 (pos + 1))) wx := fun wx => by
              have hh := run_slice_string (P := Tryd.prog) (w := wx) 9 s .i64 .i64 (f6 : Nat) ((pos : Int) + 1) Tryd.underlying9 (by omega) (by omega) (by omega)
              rw [Int.toNat_natCast, show ((pos : Int) + 1).toNat = pos + 1 by omega] at hh; exact hh
            have HN1 := hideT (And.intro hn1 (And.intro hul hxx))
            have HXK := hideT h5
            clear hn1 hul hxx h5
            go_wp2_with fail
            clear y8 y9 y10 fz
            obtain ⟨k8, q8⟩ := fi7.sc.blk.setRd ((p.rd : Int) + 1) (p.rd + us.length) (by rw [HN1.out.2.1]; omega)
            have fi8 := fi7.put hC k8 q8 rfl rfl
            clear k8 q8 fi7
            generalize Wh.setCell ⟨b, 8, none⟩ (.int .i64 ((p.rd : Int) + 1)) = Wi at fi8 ⊢
            have hby : S6.come ++ (s.extract f6 (pos + 1)).data.toList = P.buf ++ us := by
              have c5 := HC1.out.2.2.2.2.1
              rw [HN1.out.1] at c5
              rw [ext_list, HBS.out, drop_more c5 HB6.out.le (by omega), HB6.out.buf, List.append_assoc]
            have hbz : S6.come.length + (s.extract f6 (pos + 1)).size = (P.buf ++ us).length := by rw [← hby, List.length_append, Array.length_toList]; rfl
            have hbz2 : (P.buf ++ us).length ≤ p.rd + 1 := by rw [List.length_append, HN1.out.2.1]; have := HBL.out; omega
            have hbz3 : 1 ≤ (P.buf ++ us).length := by rw [List.length_append, HN1.out.2.1]; omega
            have hlg : longEnough x ⟨(P.buf ++ us).toArray⟩ := by
              have e : (⟨(P.buf ++ us).toArray⟩ : ByteArray).size = (P.buf ++ us).length := by show (P.buf ++ us).toArray.size = _; simp
              refine ⟨fun c => by rw [e]; exact hbz3, fun c => ?_⟩
              rw [e, List.length_append, HN1.out.2.1]
              rcases HBF.out.2.2.2 with ⟨_, f4⟩ | ⟨f4, _⟩
              · rw [HX.out] at f4; simp only [List.mem_cons, List.not_mem_nil, or_false] at f4; omega
              · omega
            refine (tell_is base b { S6 with st := x, rd := p.rd + us.length } (s.extract f6 (pos + 1)) Wi fi8.sc (by have := fi8.kz.size; omega) (by show 3 ≤ x; have := HXK.out; omega) (by show x ≤ 22; have := HXK.out; omega) (by show 0 < S6.come.length + _; omega) (by show longEnough x ⟨(S6.come ++ _).toArray⟩; rw [hby]; exact hlg) (by show S6.come.length + _ ≤ _; have := HPRD.out; omega) fi8.mx).mono ?_
            rintro e Wj ⟨rfl, sc9, k9⟩
            have fi9 := fi8.tell hC k9 sc9 rfl
            clear k9 sc9 fi8 hbz hbz2 hbz3 hlg
            simp only [hby, HB6.out.bB, HB6.out.bL, HB6.out.bC]
            clear hby
            obtain ⟨Wk, hwx⟩ : ∃ wx, Wj.alloc (.cells #[.int .i64 (kindN x : Nat), .string (txt x ⟨(P.buf ++ us).toArray⟩), .int .i64 P.bB, .int .i64 ((p.rd : Int) + (us.length : Int)), .int .i64 P.bL, .int .i64 P.bC] 32) = wx := ⟨_, rfl⟩
            have hnew := heap_alloc_new Wj (.cells #[.int .i64 (kindN x : Nat), .string (txt x ⟨(P.buf ++ us).toArray⟩), .int .i64 P.bB, .int .i64 ((p.rd : Int) + (us.length : Int)), .int .i64 P.bL, .int .i64 P.bC] 32)
            have b3 := below_alloc (w := Wj) (.cells #[.int .i64 (kindN x : Nat), .string (txt x ⟨(P.buf ++ us).toArray⟩), .int .i64 P.bB, .int .i64 ((p.rd : Int) + (us.length : Int)), .int .i64 P.bL, .int .i64 P.bC] 32)
            rw [hwx] at hnew b3
            have fx := fi9.on b3
            have hk2 : T5.length + 1 ≤ maxLen := by simp only [maxLen]; omega
            have hbl2 : (T5.length + 1) * 56 ≤ 140737488355328 := by omega
            have hbB : w1.heap.size + 1 ≤ Wk.heap.size := fx.lt
            obtain ⟨i0, hi0, hz0, hz1, hz2⟩ := info_parts info_Tok
            go_wp2_with (at_builtin; (try rw [hwx]); refine wpList_append_lies _ (by rfl) _ _ _ (by rfl) (w1.heap.size + 1) 32 i0 _ 6 56 Tryd.underlying69 hi0 hz0 hz1 hz2 rfl (by omega) u7 T5.length (tokCells T5) (by rfl) fx.tl ⟨Wj.heap.size, 0, none⟩ 1 1 [.int .i64 (kindN x : Nat), .string (txt x ⟨(P.buf ++ us).toArray⟩), .int .i64 P.bB, .int .i64 ((p.rd : Int) + (us.length : Int)), .int .i64 P.bL, .int .i64 P.bC] (by rfl) (by rfl) (World.news_of_block (cs := #[.int .i64 (kindN x : Nat), .string (txt x ⟨(P.buf ++ us).toArray⟩), .int .i64 P.bB, .int .i64 ((p.rd : Int) + (us.length : Int)), .int .i64 P.bL, .int .i64 P.bC]) (t := 32) (fr := (0, 0)) hnew) (by simp [Value.oneCell']) (by omega) hk2 hbl2 hbB Wk.heap.size rfl ?_)
            intro gb cap Wl hown4 hgrow hat hlt4
            have fi10 := fx.grow hC ((P.add x us).tok (p.rd + us.length)) hgrow hown4
            clear fx hk2 hbl2 hbB hnew b3 hwx hown4 hgrow hat hlt4 hi0 hz0 hz1 hz2
            go_wp2
            go_roundw
            case rel =>
              obtain ⟨c1, c2, c3, c4, c5, c6⟩ := HC1.out
              have hch : charP p r us = (p.told r ++ [(P.add x us).tok (p.rd + us.length)], .ok (PS.nrm { P.add x us with st := 3 })) := by
                unfold charP
                rw [if_neg (by rw [HX.out]; exact h24), if_neg (by rw [HX.out]; exact h25), if_pos HN1.out.2.2, HX.out, HP.out]
              have hiq := hi.char (by rw [c1]; exact c2) hch
              have hfo := feed_on HFE.out c4 c5 hch
              rw [← List.append_assoc, ← HT5.out] at hfo
              refine ⟨pos + n, f6, _, _, _, c3, rfl, fi10.it, fi10.sc, fi10.tl, fi10.kz, hfo, hiq.1, ?_, fi10.cv, fi10.mx, ?_, ?_, ?_, fi10.nl⟩
              · refine ⟨by rw [nrm_st], by rw [nrm_ln]; exact HB6.out.ln, by rw [nrm_ah]; exact HB6.out.ah, by rw [hiq.2, HPRD.out, c1]; omega, fun _ => rfl, fun c => ?_⟩
                rw [nrm_st] at c
                exact absurd c (by show ¬ 4 < 3; omega)
              · rw [List.length_append]; simp only [List.length_cons, List.length_nil]; omega
              · rw [nrm_ln, hiq.2]; show P.ln ≤ _; rw [HBF.out.2.1]; omega
              · have e : (PS.nrm { P.add x us with st := 3 }).buf = [] := by unfold PS.nrm; rw [if_pos (by show (3 : Nat) ≤ 4; omega)]
                rw [e]; simp
            case measure => simp only [World.iterPos, fi10.it, hit]; have := HC1.out.2.1; omega
          by_cases h6 : x = 6
          · skip
            have x5 : ((x : Int) == 5) = false := by rw [beq_eq_false_iff_ne]; omega
            have x6 : ((x : Int) == 6) = true := by rw [beq_iff_eq]; omega
            have hxx : nxt p.st r = 5 ∨ nxt p.st r = 6 ∨ nxt p.st r = 9 := by rw [HX.out]; omega
            have hn1 := HC1.out.2.2.2.2.2 (nxt_low hi.wt hxx)
            have hul : us.length = 1 := by rw [HC1.out.1]; exact hn1
            have hle6 := HB6.out.le
            have hsl : ∀ wx : World, (Instr.slice 9 (.string s) (some (.int .i64 (f6 : Nat))) (some (.int .i64 ((pos : Int) + 1))) none).run Tryd.prog wx = .ok (.string (s.extract f6 (pos + 1))) wx := fun wx => by
              have hh := run_slice_string (P := Tryd.prog) (w := wx) 9 s .i64 .i64 (f6 : Nat) ((pos : Int) + 1) Tryd.underlying9 (by omega) (by omega) (by omega)
              rw [Int.toNat_natCast, show ((pos : Int) + 1).toNat = pos + 1 by omega] at hh; exact hh
            have HN1 := hideT (And.intro hn1 (And.intro hul hxx))
            have HXK := hideT h6
            clear hn1 hul hxx h6
            go_wp2_with fail
            clear y8 y9 y10 fz
            obtain ⟨k8, q8⟩ := fi7.sc.blk.setRd ((p.rd : Int) + 1) (p.rd + us.length) (by rw [HN1.out.2.1]; omega)
            have fi8 := fi7.put hC k8 q8 rfl rfl
            clear k8 q8 fi7
            generalize Wh.setCell ⟨b, 8, none⟩ (.int .i64 ((p.rd : Int) + 1)) = Wi at fi8 ⊢
            have hby : S6.come ++ (s.extract f6 (pos + 1)).data.toList = P.buf ++ us := by
              have c5 := HC1.out.2.2.2.2.1
              rw [HN1.out.1] at c5
              rw [ext_list, HBS.out, drop_more c5 HB6.out.le (by omega), HB6.out.buf, List.append_assoc]
            have hbz : S6.come.length + (s.extract f6 (pos + 1)).size = (P.buf ++ us).length := by rw [← hby, List.length_append, Array.length_toList]; rfl
            have hbz2 : (P.buf ++ us).length ≤ p.rd + 1 := by rw [List.length_append, HN1.out.2.1]; have := HBL.out; omega
            have hbz3 : 1 ≤ (P.buf ++ us).length := by rw [List.length_append, HN1.out.2.1]; omega
            have hlg : longEnough x ⟨(P.buf ++ us).toArray⟩ := by
              have e : (⟨(P.buf ++ us).toArray⟩ : ByteArray).size = (P.buf ++ us).length := by show (P.buf ++ us).toArray.size = _; simp
              refine ⟨fun c => by rw [e]; exact hbz3, fun c => ?_⟩
              rw [e, List.length_append, HN1.out.2.1]
              rcases HBF.out.2.2.2 with ⟨_, f4⟩ | ⟨f4, _⟩
              · rw [HX.out] at f4; simp only [List.mem_cons, List.not_mem_nil, or_false] at f4; omega
              · omega
            refine (tell_is base b { S6 with st := x, rd := p.rd + us.length } (s.extract f6 (pos + 1)) Wi fi8.sc (by have := fi8.kz.size; omega) (by show 3 ≤ x; have := HXK.out; omega) (by show x ≤ 22; have := HXK.out; omega) (by show 0 < S6.come.length + _; omega) (by show longEnough x ⟨(S6.come ++ _).toArray⟩; rw [hby]; exact hlg) (by show S6.come.length + _ ≤ _; have := HPRD.out; omega) fi8.mx).mono ?_
            rintro e Wj ⟨rfl, sc9, k9⟩
            have fi9 := fi8.tell hC k9 sc9 rfl
            clear k9 sc9 fi8 hbz hbz2 hbz3 hlg
            simp only [hby, HB6.out.bB, HB6.out.bL, HB6.out.bC]
            clear hby
            obtain ⟨Wk, hwx⟩ : ∃ wx, Wj.alloc (.cells #[.int .i64 (kindN x : Nat), .string (txt x ⟨(P.buf ++ us).toArray⟩), .int .i64 P.bB, .int .i64 ((p.rd : Int) + (us.length : Int)), .int .i64 P.bL, .int .i64 P.bC] 32) = wx := ⟨_, rfl⟩
            have hnew := heap_alloc_new Wj (.cells #[.int .i64 (kindN x : Nat), .string (txt x ⟨(P.buf ++ us).toArray⟩), .int .i64 P.bB, .int .i64 ((p.rd : Int) + (us.length : Int)), .int .i64 P.bL, .int .i64 P.bC] 32)
            have b3 := below_alloc (w := Wj) (.cells #[.int .i64 (kindN x : Nat), .string (txt x ⟨(P.buf ++ us).toArray⟩), .int .i64 P.bB, .int .i64 ((p.rd : Int) + (us.length : Int)), .int .i64 P.bL, .int .i64 P.bC] 32)
            rw [hwx] at hnew b3
            have fx := fi9.on b3
            have hk2 : T5.length + 1 ≤ maxLen := by simp only [maxLen]; omega
            have hbl2 : (T5.length + 1) * 56 ≤ 140737488355328 := by omega
            have hbB : w1.heap.size + 1 ≤ Wk.heap.size := fx.lt
            obtain ⟨i0, hi0, hz0, hz1, hz2⟩ := info_parts info_Tok
            go_wp2_with (at_builtin; (try rw [hwx]); refine wpList_append_lies _ (by rfl) _ _ _ (by rfl) (w1.heap.size + 1) 32 i0 _ 6 56 Tryd.underlying69 hi0 hz0 hz1 hz2 rfl (by omega) u7 T5.length (tokCells T5) (by rfl) fx.tl ⟨Wj.heap.size, 0, none⟩ 1 1 [.int .i64 (kindN x : Nat), .string (txt x ⟨(P.buf ++ us).toArray⟩), .int .i64 P.bB, .int .i64 ((p.rd : Int) + (us.length : Int)), .int .i64 P.bL, .int .i64 P.bC] (by rfl) (by rfl) (World.news_of_block (cs := #[.int .i64 (kindN x : Nat), .string (txt x ⟨(P.buf ++ us).toArray⟩), .int .i64 P.bB, .int .i64 ((p.rd : Int) + (us.length : Int)), .int .i64 P.bL, .int .i64 P.bC]) (t := 32) (fr := (0, 0)) hnew) (by simp [Value.oneCell']) (by omega) hk2 hbl2 hbB Wk.heap.size rfl ?_)
            intro gb cap Wl hown4 hgrow hat hlt4
            have fi10 := fx.grow hC ((P.add x us).tok (p.rd + us.length)) hgrow hown4
            clear fx hk2 hbl2 hbB hnew b3 hwx hown4 hgrow hat hlt4 hi0 hz0 hz1 hz2
            go_wp2
            go_roundw
            case rel =>
              obtain ⟨c1, c2, c3, c4, c5, c6⟩ := HC1.out
              have hch : charP p r us = (p.told r ++ [(P.add x us).tok (p.rd + us.length)], .ok (PS.nrm { P.add x us with st := 3 })) := by
                unfold charP
                rw [if_neg (by rw [HX.out]; exact h24), if_neg (by rw [HX.out]; exact h25), if_pos HN1.out.2.2, HX.out, HP.out]
              have hiq := hi.char (by rw [c1]; exact c2) hch
              have hfo := feed_on HFE.out c4 c5 hch
              rw [← List.append_assoc, ← HT5.out] at hfo
              refine ⟨pos + n, f6, _, _, _, c3, rfl, fi10.it, fi10.sc, fi10.tl, fi10.kz, hfo, hiq.1, ?_, fi10.cv, fi10.mx, ?_, ?_, ?_, fi10.nl⟩
              · refine ⟨by rw [nrm_st], by rw [nrm_ln]; exact HB6.out.ln, by rw [nrm_ah]; exact HB6.out.ah, by rw [hiq.2, HPRD.out, c1]; omega, fun _ => rfl, fun c => ?_⟩
                rw [nrm_st] at c
                exact absurd c (by show ¬ 4 < 3; omega)
              · rw [List.length_append]; simp only [List.length_cons, List.length_nil]; omega
              · rw [nrm_ln, hiq.2]; show P.ln ≤ _; rw [HBF.out.2.1]; omega
              · have e : (PS.nrm { P.add x us with st := 3 }).buf = [] := by unfold PS.nrm; rw [if_pos (by show (3 : Nat) ≤ 4; omega)]
                rw [e]; simp
            case measure => simp only [World.iterPos, fi10.it, hit]; have := HC1.out.2.1; omega
          by_cases h9 : x = 9
          · skip
            have x5 : ((x : Int) == 5) = false := by rw [beq_eq_false_iff_ne]; omega
            have x6 : ((x : Int) == 6) = false := by rw [beq_eq_false_iff_ne]; omega
            have x9 : ((x : Int) == 9) = true := by rw [beq_iff_eq]; omega
            have hxx : nxt p.st r = 5 ∨ nxt p.st r = 6 ∨ nxt p.st r = 9 := by rw [HX.out]; omega
            have hn1 := HC1.out.2.2.2.2.2 (nxt_low hi.wt hxx)
            have hul : us.length = 1 := by rw [HC1.out.1]; exact hn1
            have hle6 := HB6.out.le
            have hsl : ∀ wx : World, (Instr.slice 9 (.string s) (some (.int .i64 (f6 : Nat))) (some (.int .i64 ((pos : Int) + 1))) none).run Tryd.prog wx = .ok (.string (s.extract f6 (pos + 1))) wx := fun wx => by
              have hh := run_slice_string (P := Tryd.prog) (w := wx) 9 s .i64 .i64 (f6 : Nat) ((pos : Int) + 1) Tryd.underlying9 (by omega) (by omega) (by omega)
              rw [Int.toNat_natCast, show ((pos : Int) + 1).toNat = pos + 1 by omega] at hh; exact hh
            have HN1 := hideT (And.intro hn1 (And.intro hul hxx))
            have HXK := hideT h9
            clear hn1 hul hxx h9
            go_wp2_with fail
            clear y8 y9 y10 fz
            obtain ⟨k8, q8⟩ := fi7.sc.blk.setRd ((p.rd : Int) + 1) (p.rd + us.length) (by rw [HN1.out.2.1]; omega)
            have fi8 := fi7.put hC k8 q8 rfl rfl
            clear k8 q8 fi7
            generalize Wh.setCell ⟨b, 8, none⟩ (.int .i64 ((p.rd : Int) + 1)) = Wi at fi8 ⊢
            have hby : S6.come ++ (s.extract f6 (pos + 1)).data.toList = P.buf ++ us := by
              have c5 := HC1.out.2.2.2.2.1
              rw [HN1.out.1] at c5
              rw [ext_list, HBS.out, drop_more c5 HB6.out.le (by omega), HB6.out.buf, List.append_assoc]
            have hbz : S6.come.length + (s.extract f6 (pos + 1)).size = (P.buf ++ us).length := by rw [← hby, List.length_append, Array.length_toList]; rfl
            have hbz2 : (P.buf ++ us).length ≤ p.rd + 1 := by rw [List.length_append, HN1.out.2.1]; have := HBL.out; omega
            have hbz3 : 1 ≤ (P.buf ++ us).length := by rw [List.length_append, HN1.out.2.1]; omega
            have hlg : longEnough x ⟨(P.buf ++ us).toArray⟩ := by
              have e : (⟨(P.buf ++ us).toArray⟩ : ByteArray).size = (P.buf ++ us).length := by show (P.buf ++ us).toArray.size = _; simp
              refine ⟨fun c => by rw [e]; exact hbz3, fun c => ?_⟩
              rw [e, List.length_append, HN1.out.2.1]
              rcases HBF.out.2.2.2 with ⟨_, f4⟩ | ⟨f4, _⟩
              · rw [HX.out] at f4; simp only [List.mem_cons, List.not_mem_nil, or_false] at f4; omega
              · omega
            refine (tell_is base b { S6 with st := x, rd := p.rd + us.length } (s.extract f6 (pos + 1)) Wi fi8.sc (by have := fi8.kz.size; omega) (by show 3 ≤ x; have := HXK.out; omega) (by show x ≤ 22; have := HXK.out; omega) (by show 0 < S6.come.length + _; omega) (by show longEnough x ⟨(S6.come ++ _).toArray⟩; rw [hby]; exact hlg) (by show S6.come.length + _ ≤ _; have := HPRD.out; omega) fi8.mx).mono ?_
            rintro e Wj ⟨rfl, sc9, k9⟩
            have fi9 := fi8.tell hC k9 sc9 rfl
            clear k9 sc9 fi8 hbz hbz2 hbz3 hlg
            simp only [hby, HB6.out.bB, HB6.out.bL, HB6.out.bC]
            clear hby
            obtain ⟨Wk, hwx⟩ : ∃ wx, Wj.alloc (.cells #[.int .i64 (kindN x : Nat), .string (txt x ⟨(P.buf ++ us).toArray⟩), .int .i64 P.bB, .int .i64 ((p.rd : Int) + (us.length : Int)), .int .i64 P.bL, .int .i64 P.bC] 32) = wx := ⟨_, rfl⟩
            have hnew := heap_alloc_new Wj (.cells #[.int .i64 (kindN x : Nat), .string (txt x ⟨(P.buf ++ us).toArray⟩), .int .i64 P.bB, .int .i64 ((p.rd : Int) + (us.length : Int)), .int .i64 P.bL, .int .i64 P.bC] 32)
            have b3 := below_alloc (w := Wj) (.cells #[.int .i64 (kindN x : Nat), .string (txt x ⟨(P.buf ++ us).toArray⟩), .int .i64 P.bB, .int .i64 ((p.rd : Int) + (us.length : Int)), .int .i64 P.bL, .int .i64 P.bC] 32)
            rw [hwx] at hnew b3
            have fx := fi9.on b3
            have hk2 : T5.length + 1 ≤ maxLen := by simp only [maxLen]; omega
            have hbl2 : (T5.length + 1) * 56 ≤ 140737488355328 := by omega
            have hbB : w1.heap.size + 1 ≤ Wk.heap.size := fx.lt
            obtain ⟨i0, hi0, hz0, hz1, hz2⟩ := info_parts info_Tok
            go_wp2_with (at_builtin; (try rw [hwx]); refine wpList_append_lies _ (by rfl) _ _ _ (by rfl) (w1.heap.size + 1) 32 i0 _ 6 56 Tryd.underlying69 hi0 hz0 hz1 hz2 rfl (by omega) u7 T5.length (tokCells T5) (by rfl) fx.tl ⟨Wj.heap.size, 0, none⟩ 1 1 [.int .i64 (kindN x : Nat), .string (txt x ⟨(P.buf ++ us).toArray⟩), .int .i64 P.bB, .int .i64 ((p.rd : Int) + (us.length : Int)), .int .i64 P.bL, .int .i64 P.bC] (by rfl) (by rfl) (World.news_of_block (cs := #[.int .i64 (kindN x : Nat), .string (txt x ⟨(P.buf ++ us).toArray⟩), .int .i64 P.bB, .int .i64 ((p.rd : Int) + (us.length : Int)), .int .i64 P.bL, .int .i64 P.bC]) (t := 32) (fr := (0, 0)) hnew) (by simp [Value.oneCell']) (by omega) hk2 hbl2 hbB Wk.heap.size rfl ?_)
            intro gb cap Wl hown4 hgrow hat hlt4
            have fi10 := fx.grow hC ((P.add x us).tok (p.rd + us.length)) hgrow hown4
            clear fx hk2 hbl2 hbB hnew b3 hwx hown4 hgrow hat hlt4 hi0 hz0 hz1 hz2
            go_wp2
            go_roundw
            case rel =>
              obtain ⟨c1, c2, c3, c4, c5, c6⟩ := HC1.out
              have hch : charP p r us = (p.told r ++ [(P.add x us).tok (p.rd + us.length)], .ok (PS.nrm { P.add x us with st := 3 })) := by
                unfold charP
                rw [if_neg (by rw [HX.out]; exact h24), if_neg (by rw [HX.out]; exact h25), if_pos HN1.out.2.2, HX.out, HP.out]
              have hiq := hi.char (by rw [c1]; exact c2) hch
              have hfo := feed_on HFE.out c4 c5 hch
              rw [← List.append_assoc, ← HT5.out] at hfo
              refine ⟨pos + n, f6, _, _, _, c3, rfl, fi10.it, fi10.sc, fi10.tl, fi10.kz, hfo, hiq.1, ?_, fi10.cv, fi10.mx, ?_, ?_, ?_, fi10.nl⟩
              · refine ⟨by rw [nrm_st], by rw [nrm_ln]; exact HB6.out.ln, by rw [nrm_ah]; exact HB6.out.ah, by rw [hiq.2, HPRD.out, c1]; omega, fun _ => rfl, fun c => ?_⟩
                rw [nrm_st] at c
                exact absurd c (by show ¬ 4 < 3; omega)
              · rw [List.length_append]; simp only [List.length_cons, List.length_nil]; omega
              · rw [nrm_ln, hiq.2]; show P.ln ≤ _; rw [HBF.out.2.1]; omega
              · have e : (PS.nrm { P.add x us with st := 3 }).buf = [] := by unfold PS.nrm; rw [if_pos (by show (3 : Nat) ≤ 4; omega)]
                rw [e]; simp
            case measure => simp only [World.iterPos, fi10.it, hit]; have := HC1.out.2.1; omega
          have x5 : ((x : Int) == 5) = false := by rw [beq_eq_false_iff_ne]; omega
          have x6 : ((x : Int) == 6) = false := by rw [beq_eq_false_iff_ne]; omega
          have x9 : ((x : Int) == 9) = false := by rw [beq_eq_false_iff_ne]; omega
          have hxx : ¬ (nxt p.st r = 5 ∨ nxt p.st r = 6 ∨ nxt p.st r = 9) := by rw [HX.out]; omega
          have HXX := hideT hxx
          clear hxx
          have hmore : (bs.take (pos + n)).drop f6 = (bs.take pos).drop f6 ++ us := drop_more HC1.out.2.2.2.2.1 HB6.out.le (by omega)
          have HMO := hideT hmore
          clear hmore
          have hcome : x ≤ 4 → S6.come = [] := fun c => by
            have e1 := HBB.out (by rw [HX.out]; omega)
            have e2 := HB6.out.buf
            rw [e1] at e2
            exact (List.append_eq_nil_iff.1 e2.symm).1
          have HCO := hideT hcome
          clear hcome
          by_cases h10 : r = 10
          · have r10 : ((r : Int) == 10) = true := by rw [beq_iff_eq]; omega
            have H10 := hideT h10
            clear h10
            go_wp2
            clear y8 y9 y10 fz
            have hn1 := HC1.out.2.2.2.2.2 (by have := H10.out; omega)
            have hul : us.length = 1 := by rw [HC1.out.1]; exact hn1
            obtain ⟨k8, q8⟩ := fi7.sc.blk.setLn ((p.ln : Int) + 1) ((p0.rd : Int) + (pos : Int) + 1) (p.ln + 1) (p.rd + us.length) (by omega) (by have := HPRD.out; omega)
            have fi8 := fi7.put hC k8 q8 rfl rfl
            go_roundw
            case rel =>
              obtain ⟨c1, c2, c3, c4, c5, c6⟩ := HC1.out
              have hch : charP p r us = (p.told r, .ok (PS.nrm { P.add x us with ln := p.ln + 1, ah := p.rd + us.length })) := by
                unfold charP
                rw [if_neg (by rw [HX.out]; exact h24), if_neg (by rw [HX.out]; exact h25), if_neg HXX.out, if_pos H10.out, HX.out, HP.out]
              have hiq := hi.char (by rw [c1]; exact c2) hch
              have hfo := feed_on HFE.out c4 c5 hch
              rw [← HT5.out] at hfo
              refine ⟨pos + n, f6, _, _, _, c3, rfl, fi8.it, fi8.sc, fi8.tl, fi8.kz, hfo, hiq.1, ?_, fi8.cv, fi8.mx, ?_, ?_, ?_, fi8.nl⟩
              · refine ⟨by rw [nrm_st]; rfl, by rw [nrm_ln], by rw [nrm_ah], by rw [hiq.2, HPRD.out, c1]; omega, fun c => ?_, fun c => ?_⟩
                · rw [nrm_st] at c; exact HCO.out c
                · rw [nrm_st] at c
                  rw [nrm_buf _ c]
                  refine ⟨by have := HB6.out.le; omega, ?_, HB6.out.bB, HB6.out.bE, HB6.out.bL, HB6.out.bC⟩
                  show P.buf ++ us = _
                  rw [HMO.out, HB6.out.buf, List.append_assoc]
              · omega
              · rw [nrm_ln, hiq.2]; show p.ln + 1 ≤ _; omega
              · rw [hiq.2]
                unfold PS.nrm
                split
                · simp
                · show (P.buf ++ us).length ≤ _; rw [List.length_append]; have := HBL.out; omega
            case measure => simp only [World.iterPos, fi8.it, hit]; have := HC1.out.2.1; omega
          · have r10 : ((r : Int) == 10) = false := by rw [beq_eq_false_iff_ne]; omega
            have H10 := hideT h10
            clear h10
            go_wp2
            clear y8 y9 y10 fz
            go_roundw
            case rel =>
              obtain ⟨c1, c2, c3, c4, c5, c6⟩ := HC1.out
              have hch : charP p r us = (p.told r, .ok (PS.nrm (P.add x us))) := by
                unfold charP
                rw [if_neg (by rw [HX.out]; exact h24), if_neg (by rw [HX.out]; exact h25), if_neg HXX.out, if_neg H10.out, HX.out, HP.out]
              have hiq := hi.char (by rw [c1]; exact c2) hch
              have hfo := feed_on HFE.out c4 c5 hch
              rw [← HT5.out] at hfo
              refine ⟨pos + n, f6, _, _, _, c3, rfl, fi7.it, fi7.sc, fi7.tl, fi7.kz, hfo, hiq.1, ?_, fi7.cv, fi7.mx, ?_, ?_, ?_, fi7.nl⟩
              · refine ⟨by rw [nrm_st]; rfl, by rw [nrm_ln]; exact HB6.out.ln, by rw [nrm_ah]; exact HB6.out.ah, by rw [hiq.2, HPRD.out, c1]; omega, fun c => ?_, fun c => ?_⟩
                · rw [nrm_st] at c; exact HCO.out c
                · rw [nrm_st] at c
                  rw [nrm_buf _ c]
                  refine ⟨by have := HB6.out.le; omega, ?_, HB6.out.bB, HB6.out.bE, HB6.out.bL, HB6.out.bC⟩
                  show P.buf ++ us = _
                  rw [HMO.out, HB6.out.buf, List.append_assoc]
              · omega
              · rw [nrm_ln, hiq.2]; show P.ln ≤ _; rw [HBF.out.2.1]; omega
              · rw [hiq.2]
                unfold PS.nrm
                split
                · simp
                · show (P.buf ++ us).length ≤ _; rw [List.length_append]; have := HBL.out; omega
            case measure => simp only [World.iterPos, fi7.it, hit]; have := HC1.out.2.1; omega
    · have hnx : ∀ ty, (Instr.next (.pointer (some ⟨w1.heap.size, 0, none⟩)) true ty).run Tryd.prog wr = _ := fun ty => Lib.run_next_end_at wr w1.heap.size s pos ty hit hp
      have e : pos = s.size := by omega
      subst e
      rw [show bs.take s.size = bs by rw [← hbl]; exact List.take_length] at hfe
      have HNL := hideT hnl
      clear hnl
      have y8 := hS.cell 8
      simp only [Scan.cells, List.getElem?_toArray, List.getElem?_cons_zero, List.getElem?_cons_succ] at y8
      have fz := fun o => hS.blk.frozen o
      go_wp2_with fail
      clear y8 fz
      obtain ⟨k8, q8⟩ := hS.blk.setRd ((p0.rd : Int) + (s.size : Int)) (p0.rd + s.size) (by omega)
      have hS2 := hS.put k8 q8 rfl rfl
      have kb := Kp.ch (X := fun i => i = b) k8 rfl
      replace kz := kz.trans kb (fun i _ e => Or.inl e)
      replace hT := own_kp hT kb (fun g hg e => by have := (own_lt hT hg).1; omega)
      have nbm : ¬ mxB = b := by have := h.mx; omega
      replace hM1 := kb.maxL nbm hM1
      clear k8 q8 kb hS hit
      generalize wr.setCell ⟨b, 8, none⟩ (.int .i64 ((p0.rd : Int) + (s.size : Int))) = wa at hS2 kz hT hM1 ⊢
      by_cases h4 : 4 < S1.st
      · refine (begunS base b _ wa hS2 true (by simpa using h4)).mono ?_
        rintro e w2 ⟨rfl, rfl⟩
        obtain ⟨hf1, hf2, hf3⟩ := hF.hi (by rw [← hF.st]; exact h4)
        obtain ⟨a0, cp, ecv⟩ := own_sl hS2.own
        obtain ⟨st, cv, come, bB, bE, bL, bC, rd, ln, ah, er⟩ := S1
        simp only at hS2 hcv ecv h4 hf2 hf3 hF ⊢
        subst ecv
        have y1 := hS2.cell 1
        simp only [Scan.cells, List.getElem?_toArray, List.getElem?_cons_zero, List.getElem?_cons_succ] at y1
        have fz := fun o => hS2.blk.frozen o
        have hsl : ∀ wx : World, (Instr.slice 9 (.string s) (some (.int .i64 (f : Nat))) none none).run Tryd.prog wx = .ok (.string (s.extract f s.size)) wx := fun wx => by
          have hh := run_slice_string_l (P := Tryd.prog) (t := 9) (s := s) (w := wx) Tryd.underlying9 .i64 (f : Nat) (by omega) (by omega)
          rw [Int.toNat_natCast] at hh; exact hh
        have hxs : (s.extract f s.size).size = s.size - f := by simp only [ByteArray.size_extract]; omega
        have hlen : come.length + (s.size - f) = p.buf.length := by rw [hf2, List.length_append, List.length_drop, List.length_take, hbl]; omega
        have HPR := hideT (And.intro hF.rd (And.intro hlen (And.intro hxs (And.intro hf2 hf3))))
        clear hlen hxs hf2 hf3
        have hown1 : (Value.slice a0 come.length cp).ownBlock = S.cv.ownBlock ∨ (Value.slice a0 come.length cp).ownBlock = none := hcv.imp (fun hc => by rw [hc]) (fun hc => by rw [hc]; rfl)
        go_wp2_with fail
        clear fz y1
        have bD : Below w2.heap.size w2 w2.drew := (Below.refl _ _).drew
        replace hS2 := hS2.kp (Kp.of (X := fun _ => False) bD) (fun _ _ c => c)
        replace hT := own_kp hT (Kp.of (X := fun _ => False) bD) (fun _ _ c => c)
        replace kz := kz.trans (Kp.of (X := Scan.rows b S.cv) bD) (fun _ _ c => c)
        replace hM1 := hM1.on bD
        refine wp_region_held_drew (S := fun w' => True) (by kernel_rfl) trivial (fun hHeld => ?_)
        generalize w2.drew = wd at bD hS2 hT kz hM1  hHeld ⊢
        clear bD
        refine take' 0 (v := ?_) rfl (by kernel_rfl) (by kernel_rfl) (by kernel_rfl) (fun _ _ _ h => h) (Or.inl ⟨by rfl, ?_⟩) (by assumption) ?_
        rotate_left
        · intro w9 hSw
          go_simp
          first | done | with_reducible rfl
        simp only [Act.put, List.setIfInBounds_toArray, List.set_cons_zero, List.set_cons_succ]
        refine take' 1 (v := ?_) rfl (by kernel_rfl) (by kernel_rfl) (by kernel_rfl) (fun _ _ _ h => h) (Or.inl ⟨by rfl, ?_⟩) (by assumption) ?_
        rotate_left
        · intro w9 hSw
          go_simp
          first | done | with_reducible rfl
        simp only [Act.put, List.setIfInBounds_toArray, List.set_cons_zero, List.set_cons_succ]
        refine take' 2 (v := ?_) rfl (by kernel_rfl) (by kernel_rfl) (by kernel_rfl) (fun _ _ _ h => h) (Or.inl ⟨by rfl, ?_⟩) (by assumption) ?_
        rotate_left
        · intro w9 hSw
          go_simp
          first | done | with_reducible rfl
        simp only [Act.put, List.setIfInBounds_toArray, List.set_cons_zero, List.set_cons_succ]
        refine take' 3 (v := ?_) rfl (by kernel_rfl) (by kernel_rfl) (by kernel_rfl) (fun _ _ _ h => h) (Or.inl ⟨by rfl, ?_⟩) (by assumption) ?_
        rotate_left
        · intro w9 hSw
          go_simp
          first | done | with_reducible rfl
        simp only [Act.put, List.setIfInBounds_toArray, List.set_cons_zero, List.set_cons_succ]
        refine take' 5 (v := ?_) rfl (by kernel_rfl) (by kernel_rfl) (by kernel_rfl) (fun _ _ _ h => h) (Or.inl ⟨by rfl, ?_⟩) (by assumption) ?_
        rotate_left
        · intro w9 hSw
          go_simp
          first | done | with_reducible rfl
        simp only [Act.put, List.setIfInBounds_toArray, List.set_cons_zero, List.set_cons_succ]
        refine take' 6 (v := ?_) rfl (by kernel_rfl) (by kernel_rfl) (by kernel_rfl) (fun _ _ _ h => h) (Or.inl ⟨by rfl, ?_⟩) (by assumption) ?_
        rotate_left
        · intro w9 hSw
          go_simp
          first | done | with_reducible rfl
        simp only [Act.put, List.setIfInBounds_toArray, List.set_cons_zero, List.set_cons_succ]
        refine take' 7 (v := ?_) rfl (by kernel_rfl) (by kernel_rfl) (by kernel_rfl) (fun _ _ _ h => h) (Or.inl ⟨by rfl, ?_⟩) (by assumption) ?_
        rotate_left
        · intro w9 hSw
          go_simp
          first | done | with_reducible rfl
        simp only [Act.put, List.setIfInBounds_toArray, List.set_cons_zero, List.set_cons_succ]
        refine wpAnyH_ready (rs := [4]) (by kernel_rfl) (by simp) ?_
        refine cons' rfl (fun KK hKK => ?_)
        have y1 := hS2.cell 1
        simp only [Scan.cells, List.getElem?_toArray, List.getElem?_cons_zero, List.getElem?_cons_succ] at y1
        go_simp
        clear y1
        refine hKK.out _ _ hHeld ?_
        clear hHeld
        intro hHeld
        clear hKK KK
        try simp only [Act.put, List.setIfInBounds_toArray, List.set_cons_zero, List.set_cons_succ]
        obtain ⟨i0, hi0, hz0, hz1, hz2⟩ := info_parts info_u8
        obtain ⟨v1, w3, hr, own3, gr3, hrb0⟩ := run_append_at (P := Tryd.prog) wd base 80 9 80 5 i0 Tryd.underlying80 Tryd.underlying9 hi0 hz0 hz1 hz2 (.slice a0 come.length cp) come.length _ hS2.own (s.extract f s.size) (by obtain ⟨e1, e2, e3, _⟩ := HPR.out; rw [e3]; simp only [maxLen]; omega) (by obtain ⟨e1, e2, e3, _⟩ := HPR.out; rw [e3]; omega) (by have := kz.size; omega)
        have HRB := hideT (show ∀ g, v1.ownBlock = some g → S.cv.ownBlock = some g ∨ w1.heap.size ≤ g from fun g hg => (hrb0 g hg).elim (fun c => hown1.elim (fun d => Or.inl (d ▸ c)) (fun d => by rw [d] at c; cases c)) (fun c => Or.inr (by have := kz.size; omega)))
        clear hrb0
        have kg : Kp (fun k => (Value.slice a0 come.length cp).ownBlock = some k) wd w3 := Kp.grown gr3 (fun k e => e)
        have nog : ¬ (Value.slice a0 come.length cp).ownBlock = some b := fun c => by have := (own_lt hS2.own c).1; have := h.lt; omega
        have hSb := kg.blk hS2.blk nog
        replace hT := own_kp hT kg (fun g hg c => own_ne hS2.own hT (by decide) g c hg)
        replace hM1 := kg.maxL (fun c => by have := (own_lt hS2.own c).1; have := h.lt; have := h.mx; omega) hM1
        replace kz := kz.trans kg (fun k _ e => hown1.elim (fun hc => Or.inr (by rw [← hc]; exact e)) (fun hc => by rw [hc] at e; cases e))
        rw [strCells_is, bytes_app, ext_list, HPR.out.2.2.1] at own3
        refine wpAnyH_ready (rs := [8]) (by kernel_rfl) (by simp) ?_
        refine cons' rfl (fun KK hKK => ?_)
        rw [if_pos (by kernel_rfl)]
        refine oper_append (by rfl) (by rfl) (by rfl) hr ?_
        clear hr gr3 kg hS2
        refine hKK.out _ _ hHeld ?_
        clear hHeld
        intro hHeld
        clear hKK KK
        try simp only [Act.put, List.setIfInBounds_toArray, List.set_cons_zero, List.set_cons_succ]
        obtain ⟨a1, c1, ev1⟩ := own_sl own3
        subst ev1
        refine take' 9 (v := ?_) rfl (by kernel_rfl) (by kernel_rfl) (by kernel_rfl) (fun _ _ _ h => h) (Or.inl ⟨by rfl, ?_⟩) (by assumption) ?_
        rotate_left
        · intro w9 hSw
          go_simp
          first | done | with_reducible rfl
        simp only [Act.put, List.setIfInBounds_toArray, List.set_cons_zero, List.set_cons_succ]
        refine take' 10 (v := ?_) rfl (by kernel_rfl) (by kernel_rfl) (by kernel_rfl) (fun _ _ _ h => h) (Or.inl ⟨by rfl, ?_⟩) (by assumption) ?_
        rotate_left
        · intro w9 hSw
          go_simp
          first | done | with_reducible rfl
        simp only [Act.put, List.setIfInBounds_toArray, List.set_cons_zero, List.set_cons_succ]
        refine wpAnyH_ready (rs := [11]) (by kernel_rfl) (by simp) ?_
        refine cons' rfl (fun KK hKK => ?_)
        have fz := fun o => hSb.frozen o
        have t1 := hSb.cell 1
        simp only [Scan.cells, List.getElem?_toArray, List.getElem?_cons_zero, List.getElem?_cons_succ] at t1
        have HSB := hideT hSb
        clear hSb
        go_simp
        clear t1 fz
        obtain ⟨k1, q1⟩ := HSB.out.setCv (.slice a1 (come.length + (s.size - f)) c1) (come ++ (s.data.toList.take s.size).drop f)
        have kb1 := Kp.ch (X := fun i => i = b) k1 rfl
        have own4 := own_kp own3 kb1 (fun g hg e => by have := (own_lt own3 hg).1; have := h.lt; omega)
        replace hT := own_kp hT kb1 (fun g hg e => by have := (own_lt hT hg).1; omega)
        replace kz := kz.trans kb1 (fun i _ e => Or.inl e)
        have hbuf2 : come ++ (s.data.toList.take s.size).drop f = p.buf := by rw [HPR.out.2.2.2.1, HBS.out]
        rw [hbuf2] at q1 own4
        clear k1 kb1 own3 HSB
        generalize w3.setCell ⟨b, 1, none⟩ (.slice a1 (come.length + (s.size - f)) c1) = w4 at q1 own4 hT kz ⊢
        rw [HPR.out.2.1] at own4
        refine hKK.out _ _ hHeld ?_
        clear hHeld
        intro hHeld
        clear hKK KK
        try simp only [Act.put, List.setIfInBounds_toArray, List.set_cons_zero, List.set_cons_succ]
        refine wpAnyH_done (by kernel_rfl) ?_ _
        clear hHeld
        obtain ⟨ta, tc, etv⟩ := own_sl hT
        subst etv
        go_wp2
        refine bodyPost_ret (v := .tuple #[.slice ta T.length tc, .int .i64 0]) (by rw [results_ttB rfl]; rfl) rfl ?_
        try rw [hfe]
        refine ⟨_, _, rfl, hT, kz, ⟨rfl, _, ⟨q1, h.lt, h.mx, ?_⟩, ⟨hF.st, hF.rd.symm, hF.ln, hF.ah, fun c => absurd c (by rw [← hF.st]; exact Nat.not_le.2 h4), fun c => ⟨rfl, HPR.out.2.2.2.2⟩⟩, hi, ?_, HRB.out⟩, HNL.out⟩
        · rw [HPR.out.2.1]; exact own4
        · intro g hg
          exact own_ne (own4) hT (by decide) g (by rw [← HPR.out.2.1]; exact hg)
      · refine (begunS base b _ wa hS2 false (by simpa using h4)).mono ?_
        rintro e w2 ⟨rfl, rfl⟩
        obtain ⟨ta, tc, etv⟩ := own_sl hT
        subst etv
        go_wp2
        refine bodyPost_ret (v := .tuple #[.slice ta T.length tc, .int .i64 0]) (by rw [results_ttB rfl]; rfl) rfl ?_
        rw [hfe]
        refine ⟨_, _, rfl, hT, kz, ⟨rfl, _, hS2, ⟨hF.st, hF.rd.symm, hF.ln, hF.ah, hF.low, fun c => absurd c (by rw [← hF.st]; exact h4)⟩, hi, fun g hg => ?_, fun g hg => hcv.elim (fun hc => Or.inl (by rw [← hc]; exact hg)) (fun hc => by rw [hc] at hg; cases hg)⟩, HNL.out⟩
        intro e2
        have h5 := (own_lt hT e2).1
        rcases hcv with hc | hc
        · rw [hc] at hg; have := (own_lt h.own hg).2; omega
        · rw [hc] at hg; cases hg
theorem feedS (base b : Nat) (S : Scan) (p0 : PS) (s : ByteArray) (w : World) (h : ScAt w base b S) (hbase : base ≤ w.heap.size) (hR : RelS S p0) (hi : Inv p0) (hsz : p0.rd + s.size ≤ 4294967280) (hbuf : p0.buf.length ≤ p0.rd) (hln : p0.ln ≤ p0.rd) (hM : MaxL w) :
    Calls Tryd.prog 33 #[.pointer (some ⟨b, 0, none⟩), .string s] w fun e w' => ∃ v er, e = .returned (.tuple #[v, .int .i64 er]) ∧ w'.ownsRow (w.heap.size + 1) 32 6 v (feedP p0 s.data.toList).1.length (tokCells (feedP p0 s.data.toList).1) ∧ Kp (Scan.rows b S.cv) w w' ∧ FOut w' base b w.heap.size v er (feedP p0 s.data.toList).2 ∧ ((feedP p0 s.data.toList).1 = [] → v = .slice none 0 0) := by
  refine (feedS2 base b S p0 s w h hbase hR hi hsz hbuf hln hM).mono ?_
  rintro e w' ⟨v, er, h1, h2, h3, h4, h5⟩
  exact ⟨v, er, h1, h2, h3, h4.less, h5⟩

end Go.Proofs.YtibeiggedmabkaaDoor
