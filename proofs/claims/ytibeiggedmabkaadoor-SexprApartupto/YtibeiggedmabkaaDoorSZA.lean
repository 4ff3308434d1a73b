/-
  SexprPlays: the walk.
-/
import Derived.Test.YtibeiggedmabkaaDoorSZ9
namespace Go.Proofs.YtibeiggedmabkaaDoor
open Go.RowKit
set_option linter.unusedVariables false
set_option linter.unusedSimpArgs false
def tots (g : Nat → ByteArray) : Nat → Nat
  | 0 => 0
  | k + 1 => tots g k + (g k).size
theorem tots_mono (g : Nat → ByteArray) {a b : Nat} (h : a ≤ b) : tots g a ≤ tots g b := by
  induction b with
  | zero => have : a = 0 := by omega
            rw [this]; exact Nat.le_refl _
  | succ b ih =>
    by_cases e : a = b + 1
    · rw [e]; exact Nat.le_refl _
    · have := ih (by omega)
      simp only [tots]
      omega
/-- a list of strings that came in -/
def StrsAt (w : World) (a : Option Addr) (n : Nat) (g : Nat → ByteArray) : Prop := 0 < n → ∃ b off, a = some ⟨b, off, none⟩ ∧ ∀ i, i < n → w.cell? ⟨b, off + i, none⟩ = some (.string (g i))
def depF : RS → Int
  | .go o _ => o.length
  | .over d _ _ => d
theorem RfR.dep {rs : RS} {tx : ByteArray} {told : Nat} {dep : Int} {ov : Bool} {co q : Int} (h : RfR rs tx told dep ov co q) : dep = depF rs := by
  cases rs with
  | go o p => obtain ⟨_, _, _, h, _⟩ := h; exact h
  | over d e q2 => exact h.1
theorem RdI.depth {w : World} {base b sc : Nat} {X P : Nat → Prop} {rs : RS} (h : RdI w base b sc X P rs) : ∃ p v en e q, Blk w b (rdC p v (depF rs) en e q) 63 := by
  cases rs with
  | go o p =>
    obtain ⟨gl, c, lv, S, bs, h1, h2, _⟩ := h
    have hl := h2.len
    have := h1.blk
    have e : ((lv.length : Int) - 1) = (o.length : Int) := by simp only at hl; omega
    rw [e] at this
    exact ⟨_, _, _, _, _, this⟩
  | over d e q => exact ⟨_, _, _, _, _, h.1⟩
theorem FedI.nd {w w' : World} {base b sc : Nat} {X P : Nat → Prop} {v : Value} {N : List Nd} {rs : RS} (h : FedI w w' base b sc X P v N rs) (hl : N.length ≤ 1099511627776) : ∃ Q, NdIn w' Q v N ∧ ∀ g, Q g → TyN w' g := by
  obtain ⟨K, P', X', t, _, r, _⟩ := h
  refine ⟨fun g => P' g ∨ v.ownBlock = some g, ndin_of (Q := fun g => P' g ∨ v.ownBlock = some g) t.own t.kn (fun g c => Or.inl c) (fun g c => Or.inr c) (by rw [t.kn.1]; exact hl), fun g hg => hg.elim (fun c => (r.xb.2 g c).2) (fun c => own_ty t.own c)⟩
theorem tyn_ne {w : World} {c : Nat} {cur : Array Value} {t : TypeId} (q : Blk w c cur t) (ht : t ≠ 34) : ¬ TyN w c := by
  rintro ⟨cu, h⟩
  rw [show w.heap[c]? = _ from q] at h
  injection h with h
  injection h with _ h2 _
  exact ht h2
theorem endF_over (rs : RS) : ∀ o p, (endF rs).2.2.2 ≠ .go o p := by
  intro o2 p2 h
  cases rs with
  | over d e q => simp only [endF] at h; cases h
  | go o p =>
    simp only [endF] at h
    rcases hbb : buildB ⟨[], o⟩ (endP p).1 with s2 | ⟨s2, c, q3⟩
    · rw [hbb] at h
      simp only at h
      split at h
      · cases h
      · split at h <;> cases h
    · rw [hbb] at h
      cases h
theorem feedF_rdR {rs : RS} {S : List UInt8} {B : Nat} (hi : ∀ o p, rs = .go o p → Inv p ∧ p.rd ≤ B) : ∀ o p, (feedF rs S).2.2 = .go o p → p.rd ≤ B + S.length := by
  intro o2 p2 h
  cases rs with
  | over d e q => simp only [feedF] at h; cases h
  | go o p =>
    have := hi o p rfl
    rw [feedF_rd this.1 h]
    omega
theorem RdI.inv {w : World} {base b sc : Nat} {X P : Nat → Prop} {o : List Opn} {p : PS} (h : RdI w base b sc X P (.go o p)) : Inv p := by
  obtain ⟨gl, c, lv, S, bs, h1, h2, h3, h4, h5, h6, h7, h8, _⟩ := h
  exact h8
theorem vfeedR {rs : RS} {tx : ByteArray} {told : Nat} {dep : Int} {ov : Bool} {co q : Int} (h : RfR rs tx told dep ov co q) (pc : ByteArray) (w : World) (hsz : tx.size + pc.size ≤ 400000000) : Calls Tryd.prog 17 #[.agg #[.string tx, .int .i64 (told : Nat), .int .i64 dep, .bool ov, .int .i64 co, .int .i64 q], .string pc] w fun r w' => ∃ tx' told' dep' ov' co' q' v Q, r = .returned (.tuple #[.agg #[.string tx', .int .i64 (told' : Nat), .int .i64 dep', .bool ov', .int .i64 co', .int .i64 q'], v, .int .i64 (feedF rs pc.data.toList).2.1]) ∧ RfR (feedF rs pc.data.toList).2.2 tx' told' dep' ov' co' q' ∧ NdIn w' Q v (feedF rs pc.data.toList).1 ∧ (∀ g, Q g → w.heap.size ≤ g) ∧ Below w.heap.size w w' ∧ tx'.size ≤ tx.size + pc.size := by
  cases rs with
  | go o p =>
    obtain ⟨N0, h1, rfl, rfl, rfl, rfl, rfl⟩ := h
    refine (vfeed_go tx N0 o p pc w h1 hsz).mono ?_
    rintro r w' ⟨told', dep', ov', co', q', v, Q, rfl, h2, h3, h3q, h4⟩
    exact ⟨_, _, _, _, _, _, v, Q, rfl, h2, h3, h3q, h4, by rw [ByteArray.size_append]; exact Nat.le_refl _⟩
  | over d e q2 =>
    obtain ⟨rfl, rfl, rfl, rfl⟩ := h
    by_cases hc : co = 0
    · refine (vfeed_over0 tx told _ co q pc w hc).mono ?_
      rintro r w' ⟨rfl, hb⟩
      exact ⟨tx, told, _, true, co, q, _, fun _ => False, by simp only [feedF, if_pos hc], ⟨rfl, rfl, rfl, rfl⟩, .nil none 0, fun g c => c.elim, hb, by omega⟩
    · refine (vfeed_over tx told _ co q pc w hc).mono ?_
      rintro r w' ⟨rfl, hb⟩
      exact ⟨tx, told, _, true, co, q, _, fun _ => False, by simp only [feedF, if_neg hc], ⟨rfl, rfl, rfl, rfl⟩, .nil none 0, fun g c => c.elim, hb, by omega⟩
theorem vendR {rs : RS} {tx : ByteArray} {told : Nat} {dep : Int} {ov : Bool} {co q : Int} (h : RfR rs tx told dep ov co q) (w : World) (hsz : tx.size ≤ 400000000) : Calls Tryd.prog 20 #[.agg #[.string tx, .int .i64 (told : Nat), .int .i64 dep, .bool ov, .int .i64 co, .int .i64 q]] w fun r w' => ∃ tx' told' dep' ov' co' q' v Q, r = .returned (.tuple #[.agg #[.string tx', .int .i64 (told' : Nat), .int .i64 dep', .bool ov', .int .i64 co', .int .i64 q'], v, .int .i64 (endF rs).2.1, .int .i64 (endF rs).2.2.1]) ∧ RfR (endF rs).2.2.2 tx' told' dep' ov' co' q' ∧ NdIn w' Q v (endF rs).1 ∧ (∀ g, Q g → w.heap.size ≤ g) ∧ Below w.heap.size w w' ∧ tx'.size ≤ tx.size := by
  cases rs with
  | go o p =>
    obtain ⟨N0, h1, rfl, rfl, rfl, rfl, rfl⟩ := h
    refine (vend_go tx N0 o p w h1 hsz).mono ?_
    rintro r w' ⟨told', dep', ov', co', q', v, Q, rfl, h2, h3, h3q, h4⟩
    exact ⟨_, _, _, _, _, _, v, Q, rfl, h2, h3, h3q, h4, Nat.le_refl _⟩
  | over d e q2 =>
    obtain ⟨rfl, rfl, rfl, rfl⟩ := h
    refine (vend_over tx told _ co q w).mono ?_
    rintro r w' ⟨rfl, hb⟩
    exact ⟨tx, told, _, true, co, q, _, fun _ => False, rfl, ⟨rfl, rfl, rfl, rfl⟩, .nil none 0, fun g c => c.elim, hb, by omega⟩
set_option maxHeartbeats 16000000 in
set_option maxRecDepth 100000 in
theorem plays_walk (a : Option Addr) (n cc : Nat) (g : Nat → ByteArray) (w : World) (hS : StrsAt w a n g) (ht : tots g n ≤ 1048576) (hn : n ≤ 1048576) (hM : MaxL w) (hmx : mxB < w.heap.size) : Calls Tryd.prog 6 #[.slice a n cc] w fun r w' => r = .returned (.bool true) ∧ Below w.heap.size w w' := by
  have GN := hideT (newI w hmx)
  go_enter Tryd.func6, Tryd.ntmps6
  go_wp2_with fail
  refine GN.out.mono ?_
  rintro e w1 ⟨b, sc, X0, rfl, r0, b1⟩
  clear GN
  have hM1 := hM.on b1
  have hmx1 := Nat.lt_of_lt_of_le hmx b1.size
  have GL := hideT (lives_is w1 hM1 hmx1)
  go_wp2_with fail
  refine GL.out.mono ?_
  rintro e w2 ⟨rfl, b2⟩
  clear GL
  have r2 := r0.later b2
  have hM2 := hM1.on b2
  have hB := b1.trans (b2.mono b1.size)
  clear r0 hM1
  have b3 := below_alloc (w := w2) (.cells #[.string ⟨#[]⟩, .int .i64 0, .int .i64 0, .bool false, .int .i64 0, .int .i64 0] 40)
  have q4 := Blk.new w2 #[.string ⟨#[]⟩, .int .i64 0, .int .i64 0, .bool false, .int .i64 0, .int .i64 0] 40
  have r3 := r2.later b3
  have hM3 := hM2.on b3
  have hB3 := hB.trans (b3.mono hB.size)
  have hX4 : ¬ X0 w2.heap.size := fun c => by have := (r2.xb.1 _ c).2; omega
  have b4 := below_alloc (w := w2.alloc (.cells #[.string ⟨#[]⟩, .int .i64 0, .int .i64 0, .bool false, .int .i64 0, .int .i64 0] 40)) (.cells #[] 34)
  have q44 := q4.later b4
  have r4 := r3.later b4
  have hM4 := hM3.on b4
  have hB4 := hB3.trans (b4.mono hB3.size)
  have INI := hideT (And.intro q44 (And.intro r4 (And.intro hM4 (And.intro hB4 hX4))))
  have hbs := hB.size
  clear b3 b4 q4 q44 r2 r3 r4 hM2 hM3 hM4 hB hB3 hB4 hX4 b1 b2 hmx1
  go_wp2_with fail
  generalize hc4 : w2.heap.size = c4 at INI hbs ⊢
  clear hc4
  go_loopw [7] (fun i wr => ∃ (k : Nat) (rs : RS) (X P : Nat → Prop) (tx : ByteArray) (told : Nat) (dep : Int) (ov : Bool) (co q : Int), k ≤ n ∧ i = .int .i64 k ∧ Blk wr c4 #[.string tx, .int .i64 (told : Nat), .int .i64 dep, .bool ov, .int .i64 co, .int .i64 q] 40 ∧ RdI wr w.heap.size b sc X P rs ∧ RfR rs tx told dep ov co q ∧ ¬ X c4 ∧ MaxL wr ∧ Below w.heap.size w wr ∧ (∀ o p, rs = .go o p → p.rd ≤ tots g k) ∧ tx.size ≤ tots g k) (fun i _ => n - (intOf i).toNat)
  case atStart => exact ⟨0, rs0, _, _, ⟨#[]⟩, 0, 0, false, 0, 0, Nat.zero_le _, rfl, INI.out.1, INI.out.2.1, rfR_zero, INI.out.2.2.2.2, INI.out.2.2.1, INI.out.2.2.2.1, fun o p e => by injection e with _ e2; rw [← e2]; exact Nat.le_refl _, Nat.le_refl _⟩
  case round =>
    clear INI
    obtain ⟨k, rs, X, P, tx, told, dep, ov, co, q, hk, rfl, q4, rI, rf, hX, hMr, hBr, hrd, htx⟩ := hrel
    by_cases hkl : k < n
    · have hki : (k : Int) < (n : Int) := by omega
      obtain ⟨bq, off, hac, hcell⟩ := hS (by omega)
      have hcz := below_at hBr (World.block_lt_of_cell? w _ (hcell k hkl)) (hcell k hkl)
      subst hac
      have htk : tots g (k + 1) = tots g k + (g k).size := rfl
      have htm := tots_mono g (show k + 1 ≤ n by omega)
      obtain ⟨pc, hpc⟩ : ∃ pc, g k = pc := ⟨_, rfl⟩
      rw [hpc] at hcz htk
      have HC0 := hideT (hcell k hkl)
      rw [hpc] at HC0
      have hpl : pc.data.toList.length = pc.size := by rw [Array.length_toList]; rfl
      have G1 := hideT (feedR rI (pc) hMr (fun o p e => by have := hrd o p e; omega))
      have hRD := feedF_rdR (rs := rs) (S := (pc).data.toList) (B := tots g k) (fun o p e => ⟨(e ▸ rI).inv, hrd o p e⟩)
      have hfew := feedF_few rs (pc).data.toList
      have G2 := hideT (fun W => vfeedR rf (pc) W (by omega))
      rcases hx : feedF rs (pc).data.toList with ⟨N2, e2, rs2⟩
      simp only [hx] at G1 G2 hfew hRD
      rw [hpl] at hRD hfew
      have HT := hideT (And.intro htk (And.intro htm (And.intro hpl (And.intro hpc hx))))
      have hsmall : N2.length ≤ 1099511627776 := by omega
      clear htk hpl hpc hx hcell
      go_wp2_with fail
      refine G1.out.mono ?_
      rintro e w4 ⟨v1, rfl, fd, ch⟩
      clear G1
      obtain ⟨Q1, nd1, hty⟩ := fd.nd (by omega)
      obtain ⟨K2, P2, X2, _, _, rI2, m2, _⟩ := fd
      have hlt4 := q4.lt
      replace q4 := ch.blk q4 hX (by decide) (by decide)
      have hX2 : ¬ X2 c4 := fun c => hX (m2 c4 c hlt4)
      have hM4 := ch.maxL hMr (by omega)
      have hB4 := hBr.trans (ch.below hBr.size (Nat.le_refl _))
      obtain ⟨a1, c1, ev1⟩ := nd1.sl
      subst ev1
      clear ch m2 rI hX hMr hBr
      have hcz4 := below_at hB4 (World.block_lt_of_cell? w _ HC0.out) HC0.out
      have hbq : bq < w.heap.size := World.block_lt_of_cell? w _ HC0.out
      clear hcz
      go_wp2_with fail
      have bD : Below w4.heap.size w4 w4.drew := (Below.refl _ _).drew
      have khcz4 := below_cell bD hcz4
      replace rI2 := rI2.later bD
      replace hty := fun g hg => (hty g hg).of (bD.block g (hty g hg).lt)
      replace nd1 := nd1.on bD
      replace hM4 := hM4.on bD
      replace hB4 := hB4.trans (bD.mono hB4.size)
      replace q4 := q4.later bD
      refine wp_region_held_drew (S := fun w' => w'.cell? ⟨bq, off + k, none⟩ = some (.string pc)) (by kernel_rfl) khcz4 (fun hHeld => ?_)
      clear khcz4
      generalize w4.drew = w5 at bD rI2 nd1 hM4 hB4 hty q4 hHeld ⊢
      clear bD hcz4
      refine take' 1 (v := ?_) rfl (by kernel_rfl) (by kernel_rfl) (by kernel_rfl) (fun _ _ _ h => h) (Or.inl ⟨by rfl, ?_⟩) (by assumption) ?_
      rotate_left
      · intro w9 hSw
        go_simp
        first | done | with_reducible rfl
      simp only [Act.put, List.setIfInBounds_toArray, List.set_cons_zero, List.set_cons_succ]
      refine take' 2 (v := ?_) rfl (by kernel_rfl) (by kernel_rfl) (by kernel_rfl) (fun _ _ _ h => h) (Or.inl ⟨by rfl, ?_⟩) (by assumption) ?_
      rotate_left
      · intro w9 hSw
        go_simp
        first | done | with_reducible rfl
      simp only [Act.put, List.setIfInBounds_toArray, List.set_cons_zero, List.set_cons_succ]
      refine take' 3 (v := ?_) rfl (by kernel_rfl) (by kernel_rfl) (by kernel_rfl) (fun _ _ _ h => h) (Or.inl ⟨by rfl, ?_⟩) (by assumption) ?_
      rotate_left
      · intro w9 hSw
        go_simp
        first | done | with_reducible rfl
      simp only [Act.put, List.setIfInBounds_toArray, List.set_cons_zero, List.set_cons_succ]
      refine take' 4 (v := ?_) rfl (by kernel_rfl) (by kernel_rfl) (by kernel_rfl) (fun _ _ _ h => h) (Or.inl ⟨by rfl, ?_⟩) (by assumption) ?_
      rotate_left
      · intro w9 hSw
        go_simp
        first | done | with_reducible rfl
      simp only [Act.put, List.setIfInBounds_toArray, List.set_cons_zero, List.set_cons_succ]
      refine wpAnyH_ready (rs := [0]) (by kernel_rfl) (by simp) ?_
      refine cons' rfl (fun KK hKK => ?_)
      have x0 := q4.cell 0
      have x1 := q4.cell 1
      have x2 := q4.cell 2
      have x3 := q4.cell 3
      have x4 := q4.cell 4
      have x5 := q4.cell 5
      simp only [List.getElem?_toArray, List.getElem?_cons_zero, List.getElem?_cons_succ] at x0 x1 x2 x3 x4 x5
      go_simp
      clear x0 x1 x2 x3 x4 x5
      refine hKK.out _ _ hHeld ?_
      clear hHeld
      intro hHeld
      clear hKK KK
      try simp only [Act.put, List.setIfInBounds_toArray, List.set_cons_zero, List.set_cons_succ]
      refine wpAnyH_ready (rs := [5]) (by kernel_rfl) (by simp) ?_
      refine cons' rfl (fun KK hKK => ?_)
      go_simp
      refine (G2.out _).mono ?_
      rintro r5 w6 ⟨tx2, told2, dep2, ov2, co2, q2, v2, Q2, rfl, rf2, nd2, hq2, b5, htx2⟩
      have hl5 := q4.lt
      replace rI2 := rI2.later b5
      replace hty := fun g hg => (hty g hg).of (b5.block g (hty g hg).lt)
      replace nd1 := nd1.on b5
      replace hM4 := hM4.on b5
      replace hB4 := hB4.trans (b5.mono hB4.size)
      replace q4 := q4.later b5
      replace hHeld := below_cell b5 hHeld
      clear b5 G2
      have hdep := rf2.dep
      subst hdep
      obtain ⟨a2, c2, ev2⟩ := nd2.sl
      subst ev2
      have nP : ¬ P2 c4 := fun c => tyn_ne q4 (by decide) (rI2.xb.2 c4 c).2
      have nQ1 : ¬ Q1 c4 := fun c => tyn_ne q4 (by decide) (hty c4 c)
      have nQ2 : ¬ Q2 c4 := fun c => by have := hq2 c4 c; omega
      clear hq2 hl5 hty
      go_wp2_with fail
      refine hKK.out _ _ hHeld ?_
      clear hHeld
      intro hHeld
      clear hKK KK
      try simp only [Act.put, List.setIfInBounds_toArray, List.set_cons_zero, List.set_cons_succ]
      refine take' 6 (v := ?_) rfl (by kernel_rfl) (by kernel_rfl) (by kernel_rfl) (fun _ _ _ h => h) (Or.inl ⟨by rfl, ?_⟩) (by assumption) ?_
      rotate_left
      · intro w9 hSw
        go_simp
        first | done | with_reducible rfl
      simp only [Act.put, List.setIfInBounds_toArray, List.set_cons_zero, List.set_cons_succ]
      refine take' 7 (v := ?_) rfl (by kernel_rfl) (by kernel_rfl) (by kernel_rfl) (fun _ _ _ h => h) (Or.inl ⟨by rfl, ?_⟩) (by assumption) ?_
      rotate_left
      · intro w9 hSw
        go_simp
        first | done | with_reducible rfl
      simp only [Act.put, List.setIfInBounds_toArray, List.set_cons_zero, List.set_cons_succ]
      refine take' 8 (v := ?_) rfl (by kernel_rfl) (by kernel_rfl) (by kernel_rfl) (fun _ _ _ h => h) (Or.inl ⟨by rfl, ?_⟩) (by assumption) ?_
      rotate_left
      · intro w9 hSw
        go_simp
        first | done | with_reducible rfl
      simp only [Act.put, List.setIfInBounds_toArray, List.set_cons_zero, List.set_cons_succ]
      refine take' 9 (v := ?_) rfl (by kernel_rfl) (by kernel_rfl) (by kernel_rfl) (fun _ _ _ h => h) (Or.inl ⟨by rfl, ?_⟩) (by assumption) ?_
      rotate_left
      · intro w9 hSw
        go_simp
        first | done | with_reducible rfl
      simp only [Act.put, List.setIfInBounds_toArray, List.set_cons_zero, List.set_cons_succ]
      refine wpAnyH_ready (rs := [10]) (by kernel_rfl) (by simp) ?_
      refine cons' rfl (fun KK hKK => ?_)
      have fz := fun o => q4.frozen o
      have t0 := q4.cell 0
      have t1 := q4.cell 1
      have t2 := q4.cell 2
      have t3 := q4.cell 3
      have t4 := q4.cell 4
      have t5 := q4.cell 5
      simp only [List.getElem?_toArray, List.getElem?_cons_zero, List.getElem?_cons_succ] at t0 t1 t2 t3 t4 t5
      go_simp
      clear fz t0 t1 t2 t3 t4 t5
      obtain ⟨ks0, _⟩ := q4.set6 (.string tx2) (.int .i64 (told2 : Nat)) (.int .i64 (depF rs2)) (.bool ov2) (.int .i64 co2) (.int .i64 q2)
      have hH2 := ks0.cell (show bq ≠ c4 by omega) hHeld
      unfold set6 at hH2 ks0
      clear ks0
      obtain ⟨ks, q9⟩ := q4.set6 (.string tx2) (.int .i64 (told2 : Nat)) (.int .i64 (depF rs2)) (.bool ov2) (.int .i64 co2) (.int .i64 q2)
      unfold set6 at ks q9
      have kk := Kp.ch (X := fun i => i = c4) ks rfl
      have rI3 := rI2.kp kk (fun i hi e => hX2 (e ▸ hi)) (fun g hg e => nP (e ▸ hg)) (fun i e _ => by subst e; exact ⟨_, _, q4, by decide, by decide⟩)
      have nd1b := nd1.kept (Q := Q1) (fun g hg hl => ks.other g (fun e => nQ1 (e ▸ hg))) (fun _ c => c)
      have nd2b := nd2.kept (Q := Q2) (fun g hg hl => ks.other g (fun e => nQ2 (e ▸ hg))) (fun _ c => c)
      have hM6 := kk.maxL (show ¬ mxB = c4 by omega) hM4
      have hB6 := hB4.trans (ks.below (B := w.heap.size) hbs)
      clear ks kk rI2 nd1 nd2 hM4 hB4 q4 nP nQ1 nQ2
      generalize ((((((w6.setCell ⟨c4, 0, none⟩ (.string tx2)).setCell ⟨c4, 1, none⟩ (.int .i64 (told2 : Nat))).setCell ⟨c4, 2, none⟩ (.int .i64 (depF rs2))).setCell ⟨c4, 3, none⟩ (.bool ov2)).setCell ⟨c4, 4, none⟩ (.int .i64 co2)).setCell ⟨c4, 5, none⟩ (.int .i64 q2)) = w7 at q9 rI3 nd1b nd2b hM6 hB6 hH2 ⊢
      have q4 := q9
      clear q9
      refine hKK.out _ _ hH2 ?_
      clear hHeld
      intro hHeld
      clear hKK KK
      try simp only [Act.put, List.setIfInBounds_toArray, List.set_cons_zero, List.set_cons_succ]
      clear hH2
      refine take' 11 (v := ?_) rfl (by kernel_rfl) (by kernel_rfl) (by kernel_rfl) (fun _ _ _ h => h) (Or.inl ⟨by rfl, ?_⟩) (by assumption) ?_
      rotate_left
      · intro w9 hSw
        go_simp
        first | done | with_reducible rfl
      simp only [Act.put, List.setIfInBounds_toArray, List.set_cons_zero, List.set_cons_succ]
      refine take' 12 (v := ?_) rfl (by kernel_rfl) (by kernel_rfl) (by kernel_rfl) (fun _ _ _ h => h) (Or.inl ⟨by rfl, ?_⟩) (by assumption) ?_
      rotate_left
      · intro w9 hSw
        go_simp
        first | done | with_reducible rfl
      simp only [Act.put, List.setIfInBounds_toArray, List.set_cons_zero, List.set_cons_succ]
      refine wpAnyH_done (by kernel_rfl) ?_ _
      clear hHeld
      go_wp2_with fail
      have y2 := q4.cell 2
      simp only [List.getElem?_toArray, List.getElem?_cons_zero, List.getElem?_cons_succ] at y2
      have bD : Below w7.heap.size w7 w7.drew := (Below.refl _ _).drew
      have ky2 := below_cell bD y2
      replace rI3 := rI3.later bD
      replace nd1b := nd1b.on bD
      replace nd2b := nd2b.on bD
      replace hM6 := hM6.on bD
      replace hB6 := hB6.trans (bD.mono hB6.size)
      replace q4 := q4.later bD
      refine wp_region_held_drew (S := fun w' => w'.cell? ⟨c4, 2, none⟩ = some (.int .i64 (depF rs2))) (by kernel_rfl) ky2 (fun hHeld => ?_)
      clear ky2
      generalize w7.drew = w10 at bD rI3 nd1b nd2b hM6 hB6 q4 hHeld ⊢
      clear bD y2
      refine take' 0 (v := ?_) rfl (by kernel_rfl) (by kernel_rfl) (by kernel_rfl) (fun _ _ _ h => h) (Or.inl ⟨by rfl, ?_⟩) (by assumption) ?_
      rotate_left
      · intro w9 hSw
        go_simp
        first | done | with_reducible rfl
      simp only [Act.put, List.setIfInBounds_toArray, List.set_cons_zero, List.set_cons_succ]
      refine take' 1 (v := ?_) rfl (by kernel_rfl) (by kernel_rfl) (by kernel_rfl) (fun _ _ _ h => h) (Or.inl ⟨by rfl, ?_⟩) (by assumption) ?_
      rotate_left
      · intro w9 hSw
        go_simp
        first | done | with_reducible rfl
      simp only [Act.put, List.setIfInBounds_toArray, List.set_cons_zero, List.set_cons_succ]
      refine take' 2 (v := ?_) rfl (by kernel_rfl) (by kernel_rfl) (by kernel_rfl) (fun _ _ _ h => h) (Or.inl ⟨by rfl, ?_⟩) (by assumption) ?_
      rotate_left
      · intro w9 hSw
        go_simp
        first | done | with_reducible rfl
      simp only [Act.put, List.setIfInBounds_toArray, List.set_cons_zero, List.set_cons_succ]
      refine take' 3 (v := ?_) rfl (by kernel_rfl) (by kernel_rfl) (by kernel_rfl) (fun _ _ _ h => h) (Or.inl ⟨by rfl, ?_⟩) (by assumption) ?_
      rotate_left
      · intro w9 hSw
        go_simp
        first | done | with_reducible rfl
      simp only [Act.put, List.setIfInBounds_toArray, List.set_cons_zero, List.set_cons_succ]
      refine take' 4 (v := ?_) rfl (by kernel_rfl) (by kernel_rfl) (by kernel_rfl) (fun _ _ _ h => h) (Or.inl ⟨by rfl, ?_⟩) (by assumption) ?_
      rotate_left
      · intro w9 hSw
        go_simp
        first | done | with_reducible rfl
      simp only [Act.put, List.setIfInBounds_toArray, List.set_cons_zero, List.set_cons_succ]
      refine take' 5 (v := ?_) rfl (by kernel_rfl) (by kernel_rfl) (by kernel_rfl) (fun _ _ _ h => h) (Or.inl ⟨by rfl, ?_⟩) (by assumption) ?_
      rotate_left
      · intro w9 hSw
        go_simp
        first | done | with_reducible rfl
      simp only [Act.put, List.setIfInBounds_toArray, List.set_cons_zero, List.set_cons_succ]
      refine wpAnyH_ready (rs := [6]) (by kernel_rfl) (by simp) ?_
      refine cons' rfl (fun KK hKK => ?_)
      go_simp
      refine (alikeL nd1b nd2b).mono ?_
      rintro e w11 ⟨rfl, b11⟩
      replace rI3 := rI3.later b11
      replace nd1b := nd1b.on b11
      replace nd2b := nd2b.on b11
      replace hM6 := hM6.on b11
      replace hB6 := hB6.trans (b11.mono hB6.size)
      replace q4 := q4.later b11
      replace hHeld := below_cell b11 hHeld
      clear b11
      go_wp2_with fail
      refine hKK.out _ _ hHeld ?_
      clear hHeld
      intro hHeld
      clear hKK KK
      try simp only [Act.put, List.setIfInBounds_toArray, List.set_cons_zero, List.set_cons_succ]
      refine take' 7 (v := ?_) rfl (by kernel_rfl) (by kernel_rfl) (by kernel_rfl) (fun _ _ _ h => h) (Or.inl ⟨by rfl, ?_⟩) (by assumption) ?_
      rotate_left
      · intro w9 hSw
        go_simp
        first | done | with_reducible rfl
      simp only [Act.put, List.setIfInBounds_toArray, List.set_cons_zero, List.set_cons_succ]
      refine take' 8 (v := ?_) rfl (by kernel_rfl) (by kernel_rfl) (by kernel_rfl) (fun _ _ _ h => h) (Or.inl ⟨by rfl, ?_⟩) (by assumption) ?_
      rotate_left
      · intro w9 hSw
        go_simp
        first | done | with_reducible rfl
      simp only [Act.put, List.setIfInBounds_toArray, List.set_cons_zero, List.set_cons_succ]
      refine take' 9 (v := ?_) rfl (by kernel_rfl) (by kernel_rfl) (by kernel_rfl) (fun _ _ _ h => h) (Or.inl ⟨by rfl, ?_⟩) (by assumption) ?_
      rotate_left
      · intro w9 hSw
        go_simp
        first | done | with_reducible rfl
      simp only [Act.put, List.setIfInBounds_toArray, List.set_cons_zero, List.set_cons_succ]
      refine take' 10 (v := ?_) rfl (by kernel_rfl) (by kernel_rfl) (by kernel_rfl) (fun _ _ _ h => h) (Or.inl ⟨by rfl, ?_⟩) (by assumption) ?_
      rotate_left
      · intro w9 hSw
        go_simp
        first | done | with_reducible rfl
      simp only [Act.put, List.setIfInBounds_toArray, List.set_cons_zero, List.set_cons_succ]
      refine take' 12 (v := ?_) rfl (by kernel_rfl) (by kernel_rfl) (by kernel_rfl) (fun _ _ _ h => h) (Or.inl ⟨by rfl, ?_⟩) (by assumption) ?_
      rotate_left
      · intro w9 hSw
        go_simp
        first | done | with_reducible rfl
      simp only [Act.put, List.setIfInBounds_toArray, List.set_cons_zero, List.set_cons_succ]
      refine take' 13 (v := ?_) rfl (by kernel_rfl) (by kernel_rfl) (by kernel_rfl) (fun _ _ _ h => h) (Or.inl ⟨by rfl, ?_⟩) (by assumption) ?_
      rotate_left
      · intro w9 hSw
        go_simp
        first | done | with_reducible rfl
      simp only [Act.put, List.setIfInBounds_toArray, List.set_cons_zero, List.set_cons_succ]
      refine wpAnyH_ready (rs := [11]) (by kernel_rfl) (by simp) ?_
      refine cons' rfl (fun KK hKK => ?_)
      go_simp
      obtain ⟨p5, v5, en5, e5, q5, hblk⟩ := rI3.depth
      refine (depth_is b p5 v5 _ en5 e5 q5 _ hblk).mono ?_
      rintro e w12 ⟨rfl, rfl⟩
      clear hblk
      go_wp2_with fail
      refine hKK.out _ _ hHeld ?_
      clear hHeld
      intro hHeld
      clear hKK KK
      try simp only [Act.put, List.setIfInBounds_toArray, List.set_cons_zero, List.set_cons_succ]
      refine take' 14 (v := ?_) rfl (by kernel_rfl) (by kernel_rfl) (by kernel_rfl) (fun _ _ _ h => h) (Or.inl ⟨by rfl, ?_⟩) (by assumption) ?_
      rotate_left
      · intro w9 hSw
        go_simp
        first | done | with_reducible rfl
      simp only [Act.put, List.setIfInBounds_toArray, List.set_cons_zero, List.set_cons_succ]
      refine take' 15 (v := ?_) rfl (by kernel_rfl) (by kernel_rfl) (by kernel_rfl) (fun _ _ _ h => h) (Or.inl ⟨by rfl, ?_⟩) (by assumption) ?_
      rotate_left
      · intro w9 hSw
        go_simp
        first | done | with_reducible rfl
      simp only [Act.put, List.setIfInBounds_toArray, List.set_cons_zero, List.set_cons_succ]
      refine wpAnyH_done (by kernel_rfl) ?_ _
      clear hHeld
      go_wp2
      go_roundw
      case rel => exact ⟨k + 1, rs2, X2, P2, tx2, told2, depF rs2, ov2, co2, q2, by omega, by go_num, q4, rI3, rf2, hX2, hM6, hB6, fun o p e => by rw [HT.out.1]; exact hRD o p e, by rw [HT.out.1]; omega⟩
      case measure => simp [intOf]; omega
    · have hki : ¬ (k : Int) < (n : Int) := by omega
      have htm := tots_mono g hk
      have HI2 := hideT (show ∃ (k : Nat) (rs : RS) (X P : Nat → Prop) (tx : ByteArray) (told : Nat) (dep : Int) (ov : Bool) (co q : Int), k ≤ 2 ∧ Blk wr c4 #[.string tx, .int .i64 (told : Nat), .int .i64 dep, .bool ov, .int .i64 co, .int .i64 q] 40 ∧ RdI wr w.heap.size b sc X P rs ∧ RfR rs tx told dep ov co q ∧ ¬ X c4 ∧ MaxL wr ∧ Below w.heap.size w wr ∧ (∀ o p, rs = .go o p → p.rd ≤ 2097152) ∧ tx.size ≤ 2097152 from ⟨0, rs, X, P, tx, told, dep, ov, co, q, Nat.zero_le _, q4, rI, rf, hX, hMr, hBr, fun o p e => by have := hrd o p e; omega, by omega⟩)
      clear q4 rI rf hX hMr hBr hrd htx htm
      go_wp2_with fail
      go_loopw [10] (fun i wr => ∃ (k : Nat) (rs : RS) (X P : Nat → Prop) (tx : ByteArray) (told : Nat) (dep : Int) (ov : Bool) (co q : Int), k ≤ 2 ∧ i = .int .i64 k ∧ Blk wr c4 #[.string tx, .int .i64 (told : Nat), .int .i64 dep, .bool ov, .int .i64 co, .int .i64 q] 40 ∧ RdI wr w.heap.size b sc X P rs ∧ RfR rs tx told dep ov co q ∧ ¬ X c4 ∧ MaxL wr ∧ Below w.heap.size w wr ∧ (∀ o p, rs = .go o p → p.rd ≤ 2097152) ∧ tx.size ≤ 2097152) (fun i _ => 2 - (intOf i).toNat)
      case atStart => obtain ⟨_, rs, X, P, tx, told, dep, ov, co, q, _, h⟩ := HI2.out; exact ⟨0, rs, X, P, tx, told, dep, ov, co, q, Nat.zero_le _, rfl, h⟩
      case round =>
        clear HI2
        obtain ⟨k, rs, X, P, tx, told, dep, ov, co, q, hk2, rfl, q4, rI, rf, hX, hMr, hBr, hrd, htx⟩ := hrel
        by_cases hk2l : k < 2
        · have hki2 : (k : Int) < 2 := by omega
          have G1 := hideT (endR rI hMr (fun o p e => by have := hrd o p e; omega))
          have hfew := endF_few rs
          have G2 := hideT (fun W => vendR rf W (by omega))
          have hov := endF_over rs
          rcases hx : endF rs with ⟨N2, e2, pl2, rs2⟩
          simp only [hx] at G1 G2 hfew hov
          clear hx
          go_wp2_with fail
          refine G1.out.mono ?_
          rintro e w4 ⟨v1, rfl, fd, ch⟩
          clear G1
          obtain ⟨Q1, nd1, hty⟩ := fd.nd (by omega)
          obtain ⟨K2, P2, X2, _, _, rI2, m2, _⟩ := fd
          have hlt4 := q4.lt
          replace q4 := ch.blk q4 hX (by decide) (by decide)
          have hX2 : ¬ X2 c4 := fun c => hX (m2 c4 c hlt4)
          have hM4 := ch.maxL hMr (by omega)
          have hB4 := hBr.trans (ch.below hBr.size (Nat.le_refl _))
          obtain ⟨a1, c1, ev1⟩ := nd1.sl
          subst ev1
          clear ch m2 rI hX hMr hBr
          have x0 := q4.cell 0
          have x1 := q4.cell 1
          have x2 := q4.cell 2
          have x3 := q4.cell 3
          have x4 := q4.cell 4
          have x5 := q4.cell 5
          simp only [List.getElem?_toArray, List.getElem?_cons_zero, List.getElem?_cons_succ] at x0 x1 x2 x3 x4 x5
          go_wp2_with fail
          clear x0 x1 x2 x3 x4 x5
          refine (G2.out _).mono ?_
          rintro r5 w6 ⟨tx2, told2, dep2, ov2, co2, q2, v2, Q2, rfl, rf2, nd2, hq2, b5, htx2⟩
          have hl5 := q4.lt
          replace q4 := q4.later b5
          replace rI2 := rI2.later b5
          replace hty := fun g hg => (hty g hg).of (b5.block g (hty g hg).lt)
          replace nd1 := nd1.on b5
          replace hM4 := hM4.on b5
          replace hB4 := hB4.trans (b5.mono hB4.size)
          clear b5 G2
          have hdep := rf2.dep
          subst hdep
          obtain ⟨a2, c2, ev2⟩ := nd2.sl
          subst ev2
          have nP : ¬ P2 c4 := fun c => tyn_ne q4 (by decide) (rI2.xb.2 c4 c).2
          have nQ1 : ¬ Q1 c4 := fun c => tyn_ne q4 (by decide) (hty c4 c)
          have nQ2 : ¬ Q2 c4 := fun c => by have := hq2 c4 c; omega
          clear hq2 hl5 hty
          have fz := fun o => q4.frozen o
          have t0 := q4.cell 0
          have t1 := q4.cell 1
          have t2 := q4.cell 2
          have t3 := q4.cell 3
          have t4 := q4.cell 4
          have t5 := q4.cell 5
          simp only [List.getElem?_toArray, List.getElem?_cons_zero, List.getElem?_cons_succ] at t0 t1 t2 t3 t4 t5
          go_upto_region 20 with fail
          clear fz t0 t1 t2 t3 t4 t5
          obtain ⟨ks, q9⟩ := q4.set6 (.string tx2) (.int .i64 (told2 : Nat)) (.int .i64 (depF rs2)) (.bool ov2) (.int .i64 co2) (.int .i64 q2)
          unfold set6 at ks q9
          have kk := Kp.ch (X := fun i => i = c4) ks rfl
          have rI3 := rI2.kp kk (fun i hi e => hX2 (e ▸ hi)) (fun g hg e => nP (e ▸ hg)) (fun i e _ => by subst e; exact ⟨_, _, q4, by decide, by decide⟩)
          have nd1b := nd1.kept (Q := Q1) (fun g hg hl => ks.other g (fun e => nQ1 (e ▸ hg))) (fun _ c => c)
          have nd2b := nd2.kept (Q := Q2) (fun g hg hl => ks.other g (fun e => nQ2 (e ▸ hg))) (fun _ c => c)
          have hM6 := kk.maxL (show ¬ mxB = c4 by omega) hM4
          have hB6 := hB4.trans (ks.below (B := w.heap.size) hbs)
          clear ks kk rI2 nd1 nd2 hM4 hB4 q4 nP nQ1 nQ2
          generalize ((((((w6.setCell ⟨c4, 0, none⟩ (.string tx2)).setCell ⟨c4, 1, none⟩ (.int .i64 (told2 : Nat))).setCell ⟨c4, 2, none⟩ (.int .i64 (depF rs2))).setCell ⟨c4, 3, none⟩ (.bool ov2)).setCell ⟨c4, 4, none⟩ (.int .i64 co2)).setCell ⟨c4, 5, none⟩ (.int .i64 q2)) = w7 at q9 rI3 nd1b nd2b hM6 hB6 ⊢
          have q4 := q9
          clear q9
          go_wp2_with fail
          have y2 := q4.cell 2
          simp only [List.getElem?_toArray, List.getElem?_cons_zero, List.getElem?_cons_succ] at y2
          have bD : Below w7.heap.size w7 w7.drew := (Below.refl _ _).drew
          have ky2 := below_cell bD y2
          replace rI3 := rI3.later bD
          replace nd1b := nd1b.on bD
          replace nd2b := nd2b.on bD
          replace hM6 := hM6.on bD
          replace hB6 := hB6.trans (bD.mono hB6.size)
          replace q4 := q4.later bD
          refine wp_region_held_drew (S := fun w' => w'.cell? ⟨c4, 2, none⟩ = some (.int .i64 (depF rs2))) (by kernel_rfl) ky2 (fun hHeld => ?_)
          clear ky2
          generalize w7.drew = w10 at bD rI3 nd1b nd2b hM6 hB6 q4 hHeld ⊢
          clear bD y2
          refine take' 0 (v := ?_) rfl (by kernel_rfl) (by kernel_rfl) (by kernel_rfl) (fun _ _ _ h => h) (Or.inl ⟨by rfl, ?_⟩) (by assumption) ?_
          rotate_left
          · intro w9 hSw
            go_simp
            first | done | with_reducible rfl
          simp only [Act.put, List.setIfInBounds_toArray, List.set_cons_zero, List.set_cons_succ]
          refine take' 1 (v := ?_) rfl (by kernel_rfl) (by kernel_rfl) (by kernel_rfl) (fun _ _ _ h => h) (Or.inl ⟨by rfl, ?_⟩) (by assumption) ?_
          rotate_left
          · intro w9 hSw
            go_simp
            first | done | with_reducible rfl
          simp only [Act.put, List.setIfInBounds_toArray, List.set_cons_zero, List.set_cons_succ]
          refine take' 2 (v := ?_) rfl (by kernel_rfl) (by kernel_rfl) (by kernel_rfl) (fun _ _ _ h => h) (Or.inl ⟨by rfl, ?_⟩) (by assumption) ?_
          rotate_left
          · intro w9 hSw
            go_simp
            first | done | with_reducible rfl
          simp only [Act.put, List.setIfInBounds_toArray, List.set_cons_zero, List.set_cons_succ]
          refine take' 3 (v := ?_) rfl (by kernel_rfl) (by kernel_rfl) (by kernel_rfl) (fun _ _ _ h => h) (Or.inl ⟨by rfl, ?_⟩) (by assumption) ?_
          rotate_left
          · intro w9 hSw
            go_simp
            first | done | with_reducible rfl
          simp only [Act.put, List.setIfInBounds_toArray, List.set_cons_zero, List.set_cons_succ]
          refine take' 4 (v := ?_) rfl (by kernel_rfl) (by kernel_rfl) (by kernel_rfl) (fun _ _ _ h => h) (Or.inl ⟨by rfl, ?_⟩) (by assumption) ?_
          rotate_left
          · intro w9 hSw
            go_simp
            first | done | with_reducible rfl
          simp only [Act.put, List.setIfInBounds_toArray, List.set_cons_zero, List.set_cons_succ]
          refine take' 5 (v := ?_) rfl (by kernel_rfl) (by kernel_rfl) (by kernel_rfl) (fun _ _ _ h => h) (Or.inl ⟨by rfl, ?_⟩) (by assumption) ?_
          rotate_left
          · intro w9 hSw
            go_simp
            first | done | with_reducible rfl
          simp only [Act.put, List.setIfInBounds_toArray, List.set_cons_zero, List.set_cons_succ]
          refine take' 6 (v := ?_) rfl (by kernel_rfl) (by kernel_rfl) (by kernel_rfl) (fun _ _ _ h => h) (Or.inl ⟨by rfl, ?_⟩) (by assumption) ?_
          rotate_left
          · intro w9 hSw
            go_simp
            first | done | with_reducible rfl
          simp only [Act.put, List.setIfInBounds_toArray, List.set_cons_zero, List.set_cons_succ]
          refine take' 7 (v := ?_) rfl (by kernel_rfl) (by kernel_rfl) (by kernel_rfl) (fun _ _ _ h => h) (Or.inl ⟨by rfl, ?_⟩) (by assumption) ?_
          rotate_left
          · intro w9 hSw
            go_simp
            first | done | with_reducible rfl
          simp only [Act.put, List.setIfInBounds_toArray, List.set_cons_zero, List.set_cons_succ]
          refine take' 8 (v := ?_) rfl (by kernel_rfl) (by kernel_rfl) (by kernel_rfl) (fun _ _ _ h => h) (Or.inl ⟨by rfl, ?_⟩) (by assumption) ?_
          rotate_left
          · intro w9 hSw
            go_simp
            first | done | with_reducible rfl
          simp only [Act.put, List.setIfInBounds_toArray, List.set_cons_zero, List.set_cons_succ]
          refine take' 9 (v := ?_) rfl (by kernel_rfl) (by kernel_rfl) (by kernel_rfl) (fun _ _ _ h => h) (Or.inl ⟨by rfl, ?_⟩) (by assumption) ?_
          rotate_left
          · intro w9 hSw
            go_simp
            first | done | with_reducible rfl
          simp only [Act.put, List.setIfInBounds_toArray, List.set_cons_zero, List.set_cons_succ]
          refine take' 10 (v := ?_) rfl (by kernel_rfl) (by kernel_rfl) (by kernel_rfl) (fun _ _ _ h => h) (Or.inl ⟨by rfl, ?_⟩) (by assumption) ?_
          rotate_left
          · intro w9 hSw
            go_simp
            first | done | with_reducible rfl
          simp only [Act.put, List.setIfInBounds_toArray, List.set_cons_zero, List.set_cons_succ]
          refine wpAnyH_ready (rs := [11]) (by kernel_rfl) (by simp) ?_
          refine cons' rfl (fun KK hKK => ?_)
          go_simp
          refine (alikeL nd1b nd2b).mono ?_
          rintro e w11 ⟨rfl, b11⟩
          replace rI3 := rI3.later b11
          replace nd1b := nd1b.on b11
          replace nd2b := nd2b.on b11
          replace hM6 := hM6.on b11
          replace hB6 := hB6.trans (b11.mono hB6.size)
          replace q4 := q4.later b11
          replace hHeld := below_cell b11 hHeld
          clear b11
          go_wp2_with fail
          refine hKK.out _ _ hHeld ?_
          clear hHeld
          intro hHeld
          clear hKK KK
          try simp only [Act.put, List.setIfInBounds_toArray, List.set_cons_zero, List.set_cons_succ]
          refine take' 12 (v := ?_) rfl (by kernel_rfl) (by kernel_rfl) (by kernel_rfl) (fun _ _ _ h => h) (Or.inl ⟨by rfl, ?_⟩) (by assumption) ?_
          rotate_left
          · intro w9 hSw
            go_simp
            first | done | with_reducible rfl
          simp only [Act.put, List.setIfInBounds_toArray, List.set_cons_zero, List.set_cons_succ]
          refine take' 13 (v := ?_) rfl (by kernel_rfl) (by kernel_rfl) (by kernel_rfl) (fun _ _ _ h => h) (Or.inl ⟨by rfl, ?_⟩) (by assumption) ?_
          rotate_left
          · intro w9 hSw
            go_simp
            first | done | with_reducible rfl
          simp only [Act.put, List.setIfInBounds_toArray, List.set_cons_zero, List.set_cons_succ]
          refine take' 14 (v := ?_) rfl (by kernel_rfl) (by kernel_rfl) (by kernel_rfl) (fun _ _ _ h => h) (Or.inl ⟨by rfl, ?_⟩) (by assumption) ?_
          rotate_left
          · intro w9 hSw
            go_simp
            first | done | with_reducible rfl
          simp only [Act.put, List.setIfInBounds_toArray, List.set_cons_zero, List.set_cons_succ]
          refine take' 15 (v := ?_) rfl (by kernel_rfl) (by kernel_rfl) (by kernel_rfl) (fun _ _ _ h => h) (Or.inl ⟨by rfl, ?_⟩) (by assumption) ?_
          rotate_left
          · intro w9 hSw
            go_simp
            first | done | with_reducible rfl
          simp only [Act.put, List.setIfInBounds_toArray, List.set_cons_zero, List.set_cons_succ]
          refine take' 17 (v := ?_) rfl (by kernel_rfl) (by kernel_rfl) (by kernel_rfl) (fun _ _ _ h => h) (Or.inl ⟨by rfl, ?_⟩) (by assumption) ?_
          rotate_left
          · intro w9 hSw
            go_simp
            first | done | with_reducible rfl
          simp only [Act.put, List.setIfInBounds_toArray, List.set_cons_zero, List.set_cons_succ]
          refine take' 18 (v := ?_) rfl (by kernel_rfl) (by kernel_rfl) (by kernel_rfl) (fun _ _ _ h => h) (Or.inl ⟨by rfl, ?_⟩) (by assumption) ?_
          rotate_left
          · intro w9 hSw
            go_simp
            first | done | with_reducible rfl
          simp only [Act.put, List.setIfInBounds_toArray, List.set_cons_zero, List.set_cons_succ]
          refine wpAnyH_ready (rs := [16]) (by kernel_rfl) (by simp) ?_
          refine cons' rfl (fun KK hKK => ?_)
          go_simp
          obtain ⟨p5, v5, en5, e5, q5, hblk⟩ := rI3.depth
          refine (depth_is b p5 v5 _ en5 e5 q5 _ hblk).mono ?_
          rintro e w12 ⟨rfl, rfl⟩
          clear hblk
          go_wp2_with fail
          refine hKK.out _ _ hHeld ?_
          clear hHeld
          intro hHeld
          clear hKK KK
          try simp only [Act.put, List.setIfInBounds_toArray, List.set_cons_zero, List.set_cons_succ]
          refine take' 19 (v := ?_) rfl (by kernel_rfl) (by kernel_rfl) (by kernel_rfl) (fun _ _ _ h => h) (Or.inl ⟨by rfl, ?_⟩) (by assumption) ?_
          rotate_left
          · intro w9 hSw
            go_simp
            first | done | with_reducible rfl
          simp only [Act.put, List.setIfInBounds_toArray, List.set_cons_zero, List.set_cons_succ]
          refine take' 20 (v := ?_) rfl (by kernel_rfl) (by kernel_rfl) (by kernel_rfl) (fun _ _ _ h => h) (Or.inl ⟨by rfl, ?_⟩) (by assumption) ?_
          rotate_left
          · intro w9 hSw
            go_simp
            first | done | with_reducible rfl
          simp only [Act.put, List.setIfInBounds_toArray, List.set_cons_zero, List.set_cons_succ]
          refine wpAnyH_done (by kernel_rfl) ?_ _
          clear hHeld
          go_wp2
          go_roundw
          case rel => exact ⟨k + 1, rs2, X2, P2, tx2, told2, depF rs2, ov2, co2, q2, by omega, by go_num, q4, rI3, rf2, hX2, hM6, hB6, fun o p e => absurd e (hov o p), by omega⟩
          case measure => simp [intOf]; omega
        · have hki2 : ¬ (k : Int) < 2 := by omega
          have hpl : (⟨#[97, 32]⟩ : ByteArray).data.toList.length = 2 := rfl
          have hpz : (⟨#[97, 32]⟩ : ByteArray).size = 2 := rfl
          have G1 := hideT (feedR rI ((⟨#[97, 32]⟩ : ByteArray)) hMr (fun o p e => by have := hrd o p e; omega))
          have hRD := feedF_rdR (rs := rs) (S := ((⟨#[97, 32]⟩ : ByteArray)).data.toList) (B := 2097152) (fun o p e => ⟨(e ▸ rI).inv, hrd o p e⟩)
          have hfew := feedF_few rs ((⟨#[97, 32]⟩ : ByteArray)).data.toList
          have G2 := hideT (fun W => vfeedR rf ((⟨#[97, 32]⟩ : ByteArray)) W (by omega))
          rcases hx : feedF rs ((⟨#[97, 32]⟩ : ByteArray)).data.toList with ⟨N2, e2, rs2⟩
          simp only [hx] at G1 G2 hfew hRD
          rw [hpl] at hfew
          clear hx hRD hpl hpz
          go_wp2_with fail
          refine G1.out.mono ?_
          rintro e w4 ⟨v1, rfl, fd, ch⟩
          clear G1
          obtain ⟨Q1, nd1, hty⟩ := fd.nd (by omega)
          obtain ⟨K2, P2, X2, _, _, rI2, m2, _⟩ := fd
          have hlt4 := q4.lt
          replace q4 := ch.blk q4 hX (by decide) (by decide)
          have hX2 : ¬ X2 c4 := fun c => hX (m2 c4 c hlt4)
          have hM4 := ch.maxL hMr (by omega)
          have hB4 := hBr.trans (ch.below hBr.size (Nat.le_refl _))
          obtain ⟨a1, c1, ev1⟩ := nd1.sl
          subst ev1
          clear ch m2 rI hX hMr hBr
          have x0 := q4.cell 0
          have x1 := q4.cell 1
          have x2 := q4.cell 2
          have x3 := q4.cell 3
          have x4 := q4.cell 4
          have x5 := q4.cell 5
          simp only [List.getElem?_toArray, List.getElem?_cons_zero, List.getElem?_cons_succ] at x0 x1 x2 x3 x4 x5
          go_wp2_with fail
          clear x0 x1 x2 x3 x4 x5
          refine (G2.out _).mono ?_
          rintro r5 w6 ⟨tx2, told2, dep2, ov2, co2, q2, v2, Q2, rfl, rf2, nd2, hq2, b5, htx2⟩
          replace nd1 := nd1.on b5
          replace hB4 := hB4.trans (b5.mono hB4.size)
          obtain ⟨a2, c2, ev2⟩ := nd2.sl
          subst ev2
          have GA := hideT (alikeL nd1 nd2)
          clear b5 G2 rf2 hq2 nd1 nd2
          go_wp2_with fail
          refine GA.out.mono ?_
          rintro e w8 ⟨rfl, b8⟩
          go_wp2
          go_ret
          exact ⟨rfl, hB4.trans (b8.mono hB4.size)⟩

end Go.Proofs.YtibeiggedmabkaaDoor
