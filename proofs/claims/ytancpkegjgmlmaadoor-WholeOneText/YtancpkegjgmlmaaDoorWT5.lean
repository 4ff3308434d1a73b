/-
  Layer 1's texts: a scale grows.
-/
import Derived.Test.YtancpkegjgmlmaaDoorWT4
import Derived.Deep.RegionLaw
import Derived.Deep.AppendLies
namespace Go.Proofs.YtancpkegjgmlmaaDoor
open Go.RowKit
set_option linter.unusedVariables false

/-- a number's list does not lie in the block that v owns -/
def Away (a : Option Addr) (v : Value) : Prop := ∀ g, v.ownBlock = some g → ∀ o, a ≠ some ⟨g, o, none⟩
structure Sc (w : World) (B p b n k : Nat) (v : Value) (xs : List Value) (an : Option Addr) : Prop where
  row : Row w p
  pB : B ≤ p
  c0 : w.cell? ⟨p, 0, none⟩ = some (.int .i64 b)
  c1 : w.cell? ⟨p, 1, none⟩ = some (.int .i64 n)
  c2 : w.cell? ⟨p, 2, none⟩ = some v
  c3 : w.cell? ⟨p, 3, none⟩ = some (.slice an (ln (b ^ (n * 2 ^ k))) (ln (b ^ (n * 2 ^ k))))
  own : w.ownsRow B 23 1 v k xs
  vp : v.ownBlock ≠ some p
  olds : ∀ i, i < k → ∃ a, xs[i]? = some (.slice a (ln (b ^ (n * 2 ^ i))) (ln (b ^ (n * 2 ^ i)))) ∧ Seg w a (b ^ (n * 2 ^ i)) (ln (b ^ (n * 2 ^ i))) ∧ (∀ o, a ≠ some ⟨p, o, none⟩) ∧ Away a v
  next : Seg w an (b ^ (n * 2 ^ k)) (ln (b ^ (n * 2 ^ k)))
  np : ∀ o, an ≠ some ⟨p, o, none⟩
  nv : Away an v
/-- a list that lies in no block that has changed -/
theorem Seg.grown {w w' : World} {a : Option Addr} {X n : Nat} {row : Option Nat} (h : Seg w a X n) (hg : w.grownBy w' row) (ha : ∀ g, row = some g → ∀ o, a ≠ some ⟨g, o, none⟩) : Seg w' a X n := by
  refine ⟨h.1, fun hn => ?_⟩
  obtain ⟨b, off, e, hlt, hc⟩ := h.2 hn
  refine ⟨b, off, e, Nat.lt_of_lt_of_le hlt hg.size, fun i hi => ?_⟩
  rw [hg.cell_far ⟨b, off + i, none⟩ hlt (fun he => ha b he.symm off e)]
  exact hc i hi
theorem info_nat : ∃ i, Tryd.prog.info? 23 = some i ∧ i.zero = some (.slice none 0 0) ∧ i.size = 1 ∧ i.bytes = 24 := by
  have h : (Tryd.prog.info? 23).map (fun i => (i.zero, i.size, i.bytes)) = some (some (.slice none 0 0), 1, 24) := by kernel_rfl
  cases hi : Tryd.prog.info? 23 with
  | none => rw [hi] at h; cases h
  | some i =>
    rw [hi] at h
    simp only [Option.map_some, Option.some.injEq, Prod.mk.injEq] at h
    exact ⟨i, rfl, h.1, h.2.1, h.2.2⟩

theorem ownsL {w w' : World} {B e s n : Nat} {v : Value} {xs : List Value} (hb : Below w.heap.size w w') (h : w.ownsRow B e s v n xs) : w'.ownsRow B e s v n xs := by
  refine ⟨h.1, h.2.imp id ?_⟩
  rintro ⟨g, cap, cur, e1, e2, e3, r⟩
  have hlt : g < w.heap.size := (Array.getElem?_eq_some_iff.1 e3).1
  exact ⟨g, cap, cur, e1, e2, by rw [hb.block g hlt]; exact e3, r⟩
theorem setW (w : World) (p o : Nat) (u : Value) : Wr p o (o + 1) w (w.setCell ⟨p, o, none⟩ u) := (Wr.refl p o (o + 1) w).setCell o (Nat.le_refl _) (by omega) u
theorem Seg.setFar {w : World} {a : Option Addr} {X n p o : Nat} {u : Value} (h : Seg w a X n) (hne : ∀ o, a ≠ some ⟨p, o, none⟩) : Seg (w.setCell ⟨p, o, none⟩ u) a X n := h.wr (setW w p o u) hne
theorem ownsW {w w' : World} {B e s n p lo hi : Nat} {v : Value} {xs : List Value} (hw : Wr p lo hi w w') (hne : v.ownBlock ≠ some p) (h : w.ownsRow B e s v n xs) : w'.ownsRow B e s v n xs := by
  refine ⟨h.1, h.2.imp id ?_⟩
  rintro ⟨g, cap, cur, e1, e2, e3, r⟩
  have hlt : g < w.heap.size := (Array.getElem?_eq_some_iff.1 e3).1
  exact ⟨g, cap, cur, e1, e2, by rw [hw.other g hlt (fun e => hne (by rw [e1, e]; rfl))]; exact e3, r⟩
theorem grown_below {w w' : World} {row : Option Nat} {B : Nat} (h : w.grownBy w' row) (hB : B ≤ w.heap.size) (hr : ∀ g, row = some g → B ≤ g) : Below B w w' :=
  ⟨h.os, h.tape, h.output, h.size, fun k hk => h.block k (by omega) (fun e => by have := hr k e.symm; omega)⟩
theorem owns_ge {w : World} {B e s n g : Nat} {v : Value} {xs : List Value} (h : w.ownsRow B e s v n xs) (hg : v.ownBlock = some g) : B ≤ g := by
  rcases h.2 with ⟨rfl, _⟩ | ⟨g', cap, cur, rfl, hb, _⟩
  · cases hg
  · have : g' = g := by simpa [Value.ownBlock] using hg
    omega
/-- behind the append, and the store of the new powers -/
structure Sm (w W2 : World) (B p b n k : Nat) (v : Value) (xs : List Value) (an : Option Addr) : Prop where
  row : Row W2 p
  pB : B ≤ p
  c0 : W2.cell? ⟨p, 0, none⟩ = some (.int .i64 b)
  c1 : W2.cell? ⟨p, 1, none⟩ = some (.int .i64 n)
  c2 : W2.cell? ⟨p, 2, none⟩ = some v
  c3 : W2.cell? ⟨p, 3, none⟩ = some (.slice an (ln (b ^ (n * 2 ^ k))) (ln (b ^ (n * 2 ^ k))))
  own : W2.ownsRow B 23 1 v (k + 1) xs
  vp : v.ownBlock ≠ some p
  olds : ∀ i, i < k + 1 → ∃ a, xs[i]? = some (.slice a (ln (b ^ (n * 2 ^ i))) (ln (b ^ (n * 2 ^ i)))) ∧ Seg W2 a (b ^ (n * 2 ^ i)) (ln (b ^ (n * 2 ^ i))) ∧ (∀ o, a ≠ some ⟨p, o, none⟩) ∧ Away a v
  next : Seg W2 an (b ^ (n * 2 ^ k)) (ln (b ^ (n * 2 ^ k)))
  below : Below B w W2
theorem ln_pw {b m : Nat} (hb : 2 ≤ b) : 0 < ln (b ^ m) := by
  have : b ^ m ≠ 0 := Nat.pos_iff_ne_zero.1 (Nat.pow_pos (by omega))
  exact Nat.pos_of_ne_zero (fun e => this (ln_eq_zero.1 e))
theorem grow_mid {w w1 : World} {B p b n k N g cap : Nat} {v : Value} {xs : List Value} {an : Option Addr} (hS : Sc w B p b n k v xs an) (hB : B ≤ w.heap.size) (hb : 2 ≤ b) (hN : b ^ (n * 2 ^ k) = N)
    (hown : w1.ownsRow B 23 1 (.slice (some ⟨g, 0, none⟩) (k + 1) cap) (k + 1) (xs ++ [.slice an (ln N) (ln N)])) (hgrow : (w.alloc (.cells #[.slice an (ln N) (ln N)] 23)).grownBy w1 v.ownBlock) (hat : v.ownBlock = some g ∨ g = w.heap.size + 1) :
    Sm w (w1.setCell ⟨p, 2, none⟩ (.slice (some ⟨g, 0, none⟩) (k + 1) cap)) B p b n k (.slice (some ⟨g, 0, none⟩) (k + 1) cap) (xs ++ [.slice an (ln N) (ln N)]) an := by
  subst hN
  have ba := below_alloc (w := w) (.cells #[.slice an (ln (b ^ (n * 2 ^ k))) (ln (b ^ (n * 2 ^ k)))] 23)
  have hplt := hS.row.lt
  have hp1 : p < (w.alloc (.cells #[.slice an (ln (b ^ (n * 2 ^ k))) (ln (b ^ (n * 2 ^ k)))] 23)).heap.size := Nat.lt_of_lt_of_le hplt ba.size
  have far := fun o => hgrow.cell_far ⟨p, o, none⟩ (by exact hp1) (fun e => hS.vp e.symm)
  have hgp : g ≠ p := by
    rcases hat with h | h
    · intro e; exact hS.vp (by rw [h, e])
    · omega
  have rowa : Row w1 p := by
    obtain ⟨cur, t, hr⟩ := hS.row.alloc (.cells #[.slice an (ln (b ^ (n * 2 ^ k))) (ln (b ^ (n * 2 ^ k)))] 23)
    exact ⟨cur, t, by rw [hgrow.block p hp1 (fun e => hS.vp e.symm)]; exact hr⟩
  have seg1 : ∀ {a : Option Addr} {X m : Nat}, Seg w a X m → Away a v → Seg w1 a X m := fun h ha => (segL ba h).grown hgrow ha
  have away1 : ∀ {a : Option Addr} {X m : Nat}, Seg w a X m → 0 < m → Away a v → Away a (.slice (some ⟨g, 0, none⟩) (k + 1) cap) := fun {a X m} h hm ha g' hg' o => by
    have e : g' = g := by simpa [Value.ownBlock] using hg'.symm
    subst e
    rcases hat with h1 | h1
    · exact ha g' h1 o
    · exact h.ne_new hm (by omega) o
  refine ⟨rowa.setCell _ _, hS.pB, ?_, ?_, ?_, ?_, ownsW (setW w1 p 2 _) (by simpa [Value.ownBlock] using hgp) hown, by simpa [Value.ownBlock] using hgp, ?_, (seg1 hS.next hS.nv).setFar hS.np, ?_⟩
  · rw [World.cell?_setCell_other _ _ _ _ (fun e => by simp at e), far 0]; exact cellL ba hS.c0
  · rw [World.cell?_setCell_other _ _ _ _ (fun e => by simp at e), far 1]; exact cellL ba hS.c1
  · exact World.cell?_setCell_same _ _ _ ((far 2).trans (cellL ba hS.c2))
  · rw [World.cell?_setCell_other _ _ _ _ (fun e => by simp at e), far 3]; exact cellL ba hS.c3
  · intro i hi
    have hlen : xs.length = k := by have := hS.own.1; omega
    by_cases e : i = k
    · subst e
      exact ⟨an, by rw [List.getElem?_append_right (by omega), hlen]; simp, (seg1 hS.next hS.nv).setFar hS.np, hS.np, away1 hS.next (ln_pw hb) hS.nv⟩
    · obtain ⟨a, e1, e2, e3, e4⟩ := hS.olds i (by omega)
      exact ⟨a, by rw [List.getElem?_append_left (by omega)]; exact e1, (seg1 e2 e4).setFar e3, e3, away1 e2 (ln_pw hb) e4⟩
  · have h1 : Below B w (w.alloc (.cells #[.slice an (ln (b ^ (n * 2 ^ k))) (ln (b ^ (n * 2 ^ k)))] 23)) := ba.mono hB
    have h2 := grown_below hgrow (Nat.le_trans hB ba.size) (fun g hg => owns_ge hS.own hg)
    exact (h1.trans h2).setCell hS.pB _
theorem grow_end {w W2 w3 : World} {B p b n k N : Nat} {v : Value} {xs : List Value} {an a3 : Option Addr} (hS : Sm w W2 B p b n k v xs an) (hB : B ≤ W2.heap.size) (hb : 2 ≤ b) (hN : b ^ (n * 2 ^ k) = N) (h3 : New W2 w3 a3 (N * N) (ln (N * N))) :
    Sc (w3.setCell ⟨p, 3, none⟩ (.slice a3 (ln (N * N)) (ln (N * N)))) B p b n (k + 1) v xs a3 ∧ Below B w (w3.setCell ⟨p, 3, none⟩ (.slice a3 (ln (N * N)) (ln (N * N)))) := by
  subst hN
  have hb3 := h3.below
  have hplt := hS.row.lt
  have e : b ^ (n * 2 ^ k) * b ^ (n * 2 ^ k) = b ^ (n * 2 ^ (k + 1)) := by rw [← Nat.pow_add, Nat.pow_succ, ← Nat.mul_assoc]; congr 1; omega
  rw [e] at h3 ⊢
  have np3 : ∀ o, a3 ≠ some ⟨p, o, none⟩ := by
    obtain ⟨b', off', e', hb', _⟩ := h3.fresh (ln_pw hb)
    intro o he
    rw [e'] at he
    simp at he
    try omega
  refine ⟨⟨(below_row hb3 hS.row).setCell _ _, hS.pB, ?_, ?_, ?_, ?_, ownsW (setW w3 p 3 _) hS.vp (ownsL hb3 hS.own), hS.vp, ?_, h3.seg.setFar np3, np3, ?_⟩, (hS.below.trans (hb3.mono hB)).setCell hS.pB _⟩
  · rw [World.cell?_setCell_other _ _ _ _ (fun e => by simp at e)]; exact cellL hb3 hS.c0
  · rw [World.cell?_setCell_other _ _ _ _ (fun e => by simp at e)]; exact cellL hb3 hS.c1
  · rw [World.cell?_setCell_other _ _ _ _ (fun e => by simp at e)]; exact cellL hb3 hS.c2
  · exact World.cell?_setCell_same _ _ _ (cellL hb3 hS.c3)
  · intro i hi
    obtain ⟨a, e1, e2, e3, e4⟩ := hS.olds i hi
    exact ⟨a, e1, (segL hb3 e2).setFar e3, e3, e4⟩
  · intro g hg o
    have hlt : g < W2.heap.size := by
      rcases hS.own.2 with ⟨rfl, _⟩ | ⟨g', cap, cur, rfl, _, hg', _⟩
      · cases hg
      · have : g' = g := by simpa [Value.ownBlock] using hg
        subst this
        exact (Array.getElem?_eq_some_iff.1 hg').1
    obtain ⟨b', off', e', hb', _⟩ := h3.fresh (ln_pw hb)
    intro he
    rw [e'] at he
    simp at he
    try omega

set_option maxHeartbeats 4000000 in
set_option maxRecDepth 100000 in
theorem grow_any (B p b n k N : Nat) (v : Value) (xs : List Value) (an : Option Addr) (w : World) (hS : Sc w B p b n k v xs an) (hB : B ≤ w.heap.size) (hb0 : 2 ≤ b) (hk : k ≤ 48) (hN : b ^ (n * 2 ^ k) = N) (hl : ln N ≤ 35184372088832) :
    Calls Tryd.prog 35 #[.pointer (some ⟨p, 0, none⟩)] w fun e w' => e = .returned (.tuple #[]) ∧ Below B w w' ∧ ∃ v' an', Sc w' B p b n (k + 1) v' (xs ++ [.slice an (ln N) (ln N)]) an' := by
  have hS0 := hide' hS
  obtain ⟨row, pB, c0, c1, c2, c3, own, vp, olds, next, np, nv⟩ := hS
  obtain ⟨i0, hi, hz0, hz1, hz2⟩ := info_nat
  rw [hN] at c3 next
  have HN := hide' hN
  have HO := hide' olds
  clear hN olds
  go_enter Tryd.func35, Tryd.ntmps35
  go_wp2_with fail
  have ba := below_alloc (w := w) (.cells #[.slice an (ln N) (ln N)] 23)
  have c2a := cellL ba c2
  have c3a := cellL ba c3
  have owna := ownsL ba own
  have rowa := row.alloc (.cells #[.slice an (ln N) (ln N)] 23)
  have hza : (w.alloc (.cells #[.slice an (ln N) (ln N)] 23)).heap.size = w.heap.size + 1 := World.size_alloc _ _
  have newa : (w.alloc (.cells #[.slice an (ln N) (ln N)] 23)).heap[w.heap.size]? = some (.cells #[.slice an (ln N) (ln N)] 23 (0, 0)) := by
    show (w.heap.push _)[w.heap.size]? = _
    rw [Array.getElem?_push, if_pos rfl]
  have hplt := row.lt
  go_region_law ((refine step_append_lies _ rfl (.tmp 6) (.tmp 11) 52 rfl B 23 i0 (.slice none 0 0) 1 24 Tryd.underlying52 hi hz0 hz1 hz2 rfl (by decide) v k xs rfl owna ⟨w.heap.size, 0, none⟩ 1 1 [.slice an (ln N) (ln N)] rfl rfl (World.news_of_block (cs := #[.slice an (ln N) (ln N)]) newa) (by intro u hu; simp at hu; subst hu; rfl) (by omega) (by unfold maxLen; omega) (by omega) (by exact Nat.le_trans hB ba.size) (w.heap.size + 1) hza ?_; intro g cap w1 hown hgrow hat hlt; have d2 := hgrow.cell_far ⟨p, 2, none⟩ (by exact Nat.lt_of_lt_of_le hplt ba.size) (fun e => vp e.symm); have fz : ∀ o, w1.frozen? ⟨p, o, none⟩ = false := fun o => (hgrow.frozen_far ⟨p, o, none⟩ (by exact Nat.lt_of_lt_of_le hplt ba.size) (fun e => vp e.symm)).trans (rowa.frozen o)))
  all_goals have hM := grow_mid hS0.out hB hb0 HN.out hown ⟨hgrow.os, hgrow.tape, hgrow.output, hgrow.size, hgrow.block⟩ hat
  all_goals clear c0 c1 c2 c3 c2a c3a owna rowa newa hza ba own vp next np nv hown hgrow hat hlt d2 fz row HO hS0 hplt
  all_goals obtain ⟨V', hV'⟩ : ∃ V', Value.slice (some ⟨g, 0, none⟩) (k + 1) cap = V' := ⟨_, rfl⟩
  all_goals rw [hV'] at hM ⊢
  all_goals generalize w1.setCell ⟨p, 2, none⟩ V' = W2 at hM ⊢
  all_goals have hMM := hide' hM
  all_goals obtain ⟨row, pB', c0, c1, c2, c3, own, vp, olds, next, bel⟩ := hM
  all_goals rw [HN.out] at c3 next
  all_goals have fz := fun o => row.frozen o
  all_goals clear olds own c0 c1 c2
  all_goals go_wp2_with fail
  all_goals go_region_with ((go_at_call 51; refine (Mul_is an an (ln N) (ln N) N (ln N) (ln N) N (N * N) _ (Nat.le_refl _) hl (by exact next) (Nat.le_refl _) hl (by exact next) rfl).mono ?_; rintro e w3 ⟨a3, rfl, h3⟩; replace h3 := h3.back ((Below.refl W2.heap.size W2).drew); have e3 := cellL h3.below c3; have fz3 := fun o => (below_row h3.below row).frozen o))
  all_goals go_wp2_with fail
  all_goals go_end0
  all_goals have hE := grow_end hMM.out (Nat.le_trans hB bel.size) hb0 HN.out h3
  all_goals exact ⟨rfl, hE.2, V', a3, hE.1⟩
end Go.Proofs.YtancpkegjgmlmaaDoor
