/-
  heap: push, has, knows, Push, raise, Bump of a heap of two variables.
-/
import Derived.Test.YtccmppedofkckaaHP3
import Derived.RegionTactic
import Derived.ChangeAlike
import Derived.BigRegion
import Derived.Laws.AppendOwnNone
namespace Go.Proofs.Ytccmppedofkckaa
open Go.RowKit
set_option linter.unusedVariables false
set_option linter.unusedSimpArgs false
theorem below_at {B : Nat} {w w' : World} (h : Below B w w') {p : Addr} {v : Value} (hp : p.block < B) (hc : w.cell? p = some v) : w'.cell? p = some v := by
  rw [h.cell hp]; exact hc
theorem below_frz {B : Nat} {w w' : World} (h : Below B w w') {p : Addr} (hp : p.block < B) (hc : w.frozen? p = false) : w'.frozen? p = false := by
  rw [World.frozen?_of_block (h.block p.block hp)]; exact hc
theorem below_grown {base : Nat} {w w' : World} {row : Option Nat} (hb : base ≤ w.heap.size) (hrow : ∀ k, row = some k → base ≤ k) (hg : w.grownBy w' row) : Below base w w' :=
  ⟨hg.os, hg.tape, hg.output, hg.size, fun k hk => hg.block k (by omega) (fun e => by have := hrow k e.symm; omega)⟩
theorem own_below {w w' : World} {base : Nat} {e : TypeId} {size : Nat} {v : Value} {n : Nat} {xs : List Value} (h : w.ownsRow base e size v n xs) (hb : Below w.heap.size w w') : w'.ownsRow base e size v n xs := by
  refine ⟨h.1, ?_⟩
  rcases h.2 with h0 | ⟨g, cap, cur, hv, hg, hc, rest⟩
  · exact Or.inl h0
  · refine Or.inr ⟨g, cap, cur, hv, hg, ?_, rest⟩
    rw [hb.block g (Array.getElem?_eq_some_iff.1 hc).1]
    exact hc
theorem below_alloc {w : World} (o : Obj) : Below w.heap.size w (w.alloc o) := (Below.refl _ _).alloc (Nat.le_refl _) _
theorem info_i : (Try.prog.info? 3).bind (fun i => i.zero.map fun z => (z, i.size, i.bytes)) = some (.int .i64 0, 1, 8) := by kernel_rfl
theorem info_parts {P : Program} {e : TypeId} {z : Value} {s b : Nat} (h : (P.info? e).bind (fun i => i.zero.map fun z => (z, i.size, i.bytes)) = some (z, s, b)) : ∃ i, P.info? e = some i ∧ i.zero = some z ∧ i.size = s ∧ i.bytes = b := by
  cases hi : P.info? e with
  | none => rw [hi] at h; cases h
  | some i =>
    rw [hi] at h
    cases hz : i.zero with
    | none => simp [hz] at h
    | some z' =>
      simp [hz] at h
      exact ⟨i, rfl, by rw [hz, h.1], h.2.1, h.2.2⟩
theorem HS.grown {W0 w : World} {B b s p : Nat} {v : Value} {f1 : Nat} {q0 q1 : Int} {xs : List Int} (h : HS W0 w B b s p v f1 q0 q1 xs) {w9 : World} {v9 : Value} {ys : List Int} (hb : Below B w w9) (ho : w9.ownsRow B 3 1 v9 ys.length (hv ys)) : HS W0 (w9.setCell ⟨b, 1, none⟩ v9) B b s p v9 f1 q0 q1 ys := by
  have bs := h.bs
  have bp := h.bp
  have lB := h.lB
  have hs := hb.size
  refine ⟨h.gb, h.gs, h.gp, h.gB, (h.bel.trans (hb.mono h.gB)).setCell h.gb _, h.lb, h.ls, h.lp, h.bs, h.bp, h.sp, ?_, near (below_at hb h.lb h.c0) (by omega), same (below_at hb h.lb h.c1), near (below_at hb h.lb h.c2) (by omega), near (below_at hb h.lb h.c3) (by omega), far (below_at hb h.ls h.s0) (by simp; omega), far (below_at hb h.ls h.s1) (by simp; omega), far (below_at hb h.lp h.p0) (by simp; omega), far (below_at hb h.lp h.p1) (by simp; omega), frz (below_frz hb h.lb h.fb), frz (below_frz hb h.ls h.fs), frz (below_frz hb h.lp h.f0), frz (below_frz hb h.lp h.fp), own_far ho h.lb⟩
  rw [World.size_setCell]
  omega
set_option maxHeartbeats 2000000 in
set_option maxRecDepth 100000 in
theorem push0 (W0 w : World) (B b s p : Nat) (v : Value) (h : HS W0 w B b s p v 0 0 0 ([] : List Int)) :
    Calls Try.prog 15 #[.pointer (some ⟨b, 0, none⟩), .int .i64 0] w fun e w' => e = .returned (.tuple #[]) ∧ ∃ v', HS W0 w' B b s p v' 0 1 0 [0] := by
  obtain ⟨i0, hi0, hz0, hz1, hz2⟩ := info_parts info_i
  have c1 := h.c1
  have fb := h.fb
  have lb := h.lb
  have hB9 := h.lB
  have hO := h.own
  obtain ⟨wB, hwB⟩ : ∃ wB, w.alloc (.cells #[.int .i64 0] 3) = wB := ⟨_, rfl⟩
  have hnew := heap_alloc_new w (.cells #[.int .i64 0] 3)
  have b3 := below_alloc (w := w) (.cells #[.int .i64 0] 3)
  rw [hwB] at hnew b3
  have hO3 := own_below hO b3
  have s3 := b3.size
  have hrow := fun k hk => (hO.lt k hk)
  have hbB : B ≤ wB.heap.size := by omega
  have HG := hide' (fun (gb cap : Nat) (w9 : World) (hown : w9.ownsRow B 3 1 (.slice (some ⟨gb, 0, none⟩) 1 cap) 1 (hv [0])) (hgrow : wB.grownBy w9 v.ownBlock) => show HS W0 (w9.setCell ⟨b, 1, none⟩ (.slice (some ⟨gb, 0, none⟩) 1 cap)) B b s p (.slice (some ⟨gb, 0, none⟩) 1 cap) 0 0 0 [0] from h.grown ((b3.mono h.lB).trans (below_grown hbB (fun k hk => (hrow k hk).1) hgrow)) hown)
  have HC := hide' (fun (gb cap : Nat) (w9 : World) (hgrow : wB.grownBy w9 v.ownBlock) => show w9.cell? ⟨b, 1, none⟩ = some v ∧ w9.frozen? ⟨b, 1, none⟩ = false from ⟨below_at ((b3.mono h.lB).trans (below_grown hbB (fun k hk => (hrow k hk).1) hgrow)) h.lb h.c1, below_frz ((b3.mono h.lB).trans (below_grown hbB (fun k hk => (hrow k hk).1) hgrow)) h.lb h.fb⟩)
  have HR := hide' (fun w9 v9 (h : HS W0 w9 B b s p v9 0 0 0 [0]) => rise0_0 W0 w9 B b s p v9 0 0 0 [0] h (by simp))
  clear h hrow fb
  go_enter Try.func15, Try.ntmps15
  go_wp2_with (at_builtin; (try rw [hwB]); refine wpList_append_lies _ (by rfl) _ _ _ (by rfl) B 3 i0 _ 1 8 Try.underlying38 hi0 hz0 hz1 hz2 rfl (by omega) _ 0 (hv ([] : List Int)) (by rfl) hO3 ⟨w.heap.size, 0, none⟩ 1 1 [.int .i64 0] (by rfl) (by rfl) (World.news_of_block (cs := #[.int .i64 0]) (t := 3) (fr := (0, 0)) hnew) (by simp [Value.oneCell']) (by omega) (by simp only [maxLen]; omega) (by omega) hbB wB.heap.size rfl ?_)
  intro gb cap w9 hown4 hgrow hat hlt4
  have K1 := HG.out gb cap w9 hown4 hgrow
  obtain ⟨K2, K3⟩ := HC.out gb cap w9 hgrow
  have K4 := hide' (HR.out _ _ K1)
  have K5 := K1.c1
  clear K1 HG HC HR hown4 hgrow hat hlt4 hnew b3 hO3 hO
  go_wp2_with fail
  refine K4.out.mono ?_
  rintro e w' ⟨rfl, h⟩
  have H9 := hide' h
  clear h
  go_wp2
  go_end0
  exact ⟨rfl, _, H9.out⟩
set_option maxHeartbeats 2000000 in
set_option maxRecDepth 100000 in
theorem push1 (W0 w : World) (B b s p : Nat) (v : Value) (h : HS W0 w B b s p v 0 1 0 [0]) :
    Calls Try.prog 15 #[.pointer (some ⟨b, 0, none⟩), .int .i64 1] w fun e w' => e = .returned (.tuple #[]) ∧ ∃ v', HS W0 w' B b s p v' 0 1 2 [0, 1] := by
  obtain ⟨i0, hi0, hz0, hz1, hz2⟩ := info_parts info_i
  have c1 := h.c1
  have fb := h.fb
  have lb := h.lb
  have hB9 := h.lB
  have hO := h.own
  obtain ⟨wB, hwB⟩ : ∃ wB, w.alloc (.cells #[.int .i64 1] 3) = wB := ⟨_, rfl⟩
  have hnew := heap_alloc_new w (.cells #[.int .i64 1] 3)
  have b3 := below_alloc (w := w) (.cells #[.int .i64 1] 3)
  rw [hwB] at hnew b3
  have hO3 := own_below hO b3
  have s3 := b3.size
  have hrow := fun k hk => (hO.lt k hk)
  have hbB : B ≤ wB.heap.size := by omega
  have HG := hide' (fun (gb cap : Nat) (w9 : World) (hown : w9.ownsRow B 3 1 (.slice (some ⟨gb, 0, none⟩) 2 cap) 2 (hv [0, 1])) (hgrow : wB.grownBy w9 v.ownBlock) => show HS W0 (w9.setCell ⟨b, 1, none⟩ (.slice (some ⟨gb, 0, none⟩) 2 cap)) B b s p (.slice (some ⟨gb, 0, none⟩) 2 cap) 0 1 0 [0, 1] from h.grown ((b3.mono h.lB).trans (below_grown hbB (fun k hk => (hrow k hk).1) hgrow)) hown)
  have HC := hide' (fun (gb cap : Nat) (w9 : World) (hgrow : wB.grownBy w9 v.ownBlock) => show w9.cell? ⟨b, 1, none⟩ = some v ∧ w9.frozen? ⟨b, 1, none⟩ = false from ⟨below_at ((b3.mono h.lB).trans (below_grown hbB (fun k hk => (hrow k hk).1) hgrow)) h.lb h.c1, below_frz ((b3.mono h.lB).trans (below_grown hbB (fun k hk => (hrow k hk).1) hgrow)) h.lb h.fb⟩)
  have HR := hide' (fun w9 v9 (h : HS W0 w9 B b s p v9 0 1 0 [0, 1]) => riseA W0 w9 B b s p v9 1 0 h)
  clear h hrow fb
  go_enter Try.func15, Try.ntmps15
  go_wp2_with (at_builtin; (try rw [hwB]); refine wpList_append_lies _ (by rfl) _ _ _ (by rfl) B 3 i0 _ 1 8 Try.underlying38 hi0 hz0 hz1 hz2 rfl (by omega) _ 1 (hv [0]) (by rfl) hO3 ⟨w.heap.size, 0, none⟩ 1 1 [.int .i64 1] (by rfl) (by rfl) (World.news_of_block (cs := #[.int .i64 1]) (t := 3) (fr := (0, 0)) hnew) (by simp [Value.oneCell']) (by omega) (by simp only [maxLen]; omega) (by omega) hbB wB.heap.size rfl ?_)
  intro gb cap w9 hown4 hgrow hat hlt4
  have K1 := HG.out gb cap w9 hown4 hgrow
  obtain ⟨K2, K3⟩ := HC.out gb cap w9 hgrow
  have K4 := hide' (HR.out _ _ K1)
  have K5 := K1.c1
  clear K1 HG HC HR hown4 hgrow hat hlt4 hnew b3 hO3 hO
  go_wp2_with fail
  refine K4.out.mono ?_
  rintro e w' ⟨rfl, h⟩
  have H9 := hide' h
  clear h
  go_wp2
  go_end0
  exact ⟨rfl, _, H9.out⟩
end Go.Proofs.Ytccmppedofkckaa
