/-
  analyse: resolve.
-/
import Derived.Test.YtbcbgglhhfdbcabANE
namespace Go.Proofs.Ytbcbgglhhfdbcab
open Go.RowKit Go.Shelf
set_option linter.unusedVariables false
set_option linter.unusedSimpArgs false
attribute [local go_sem] Oper.semAt_some
theorem FaAt.putObj {W : World} {ow : Nat → Nat} {t q N : Nat} {L : List Int} (h : FaAt W ow t q N L) {x : Nat} (hx : ow x ≠ t) (o : Obj) : FaAt (W.putObj x o) ow t q N L := by
  obtain ⟨m, s, hr⟩ := h.raw
  exact ⟨⟨m, s, hr.keep (fun y hy e => World.putObj_heap_other (fun e2 => hx (by rw [← e2]; exact e))) fun _ _ => rfl⟩, h.hp, h.nd, h.ok, h.len⟩
theorem FaAt.mono {W : World} {ow : Nat → Nat} {t q N N' : Nat} {L : List Int} (h : FaAt W ow t q N L) (hN : N ≤ N') : FaAt W ow t q N' L := by
  obtain ⟨m, s, hr⟩ := h.raw
  exact ⟨⟨m, s, hr.blk, hr.mp.mono hN, hr.row, hr.oq, hr.om⟩, h.hp, h.nd, h.ok, h.len⟩
theorem App.putObj {w W : World} {ow ow' : Nat → Nat} {t : Nat} (h : App ow ow' t w W) {x : Nat} (hx : w.heap.size ≤ x) (o : Obj) : App ow ow' t w (W.putObj x o) :=
  ⟨h.os, h.tape, h.output, by simpa using h.size, fun y hy e => (World.putObj_heap_other (by omega)).trans (h.block y hy e), h.same, fun y cs e => (World.putObj_heap_other (by have := (Array.getElem?_eq_some_iff.1 e).1; omega)).trans (h.kt y cs e), fun hi y hy => h.hi hi y (by simpa using hy)⟩
/-- a round's state: what was put so far -/
structure JR (ow : Nat → Nat) (t q N : Nat) (L : List Int) (W0 : World) (P : Int → Bool) (s : List Int) (W : World) : Prop where
  ex : ∃ ow' L', FaAt W ow' t q (N + s.length) L' ∧ (∀ z, z ∈ L' ↔ z ∈ L ∨ (z ∈ s ∧ P z = true)) ∧ App ow ow' t W0 W ∧ ow' W0.heap.size = 0 ∧ ow' (W0.heap.size + 1) = 0
theorem JR.below {ow : Nat → Nat} {t q N : Nat} {L : List Int} {W0 W W' : World} {P : Int → Bool} {s : List Int} (h : JR ow t q N L W0 P s W) (hb : Below W.heap.size W W') : JR ow t q N L W0 P s W' := by
  obtain ⟨ow', L', h1, h2, h3, h4⟩ := h.ex
  exact ⟨ow', L', h1.later hb, h2, h3.trans (App.of_below hb), h4⟩
theorem JR.put {ow : Nat → Nat} {t q N : Nat} {L : List Int} {W0 W : World} {P : Int → Bool} {s : List Int} (h : JR ow t q N L W0 P s W) (ht : t ≠ 0) (r' : Obj) : JR ow t q N L W0 P s (W.putObj (W0.heap.size + 1) r') := by
  obtain ⟨ow', L', h1, h2, h3, h4, h5⟩ := h.ex
  exact ⟨ow', L', h1.putObj (by rw [h5]; exact fun e => ht e.symm) _, h2, h3.putObj (by omega) _, h4, h5⟩
theorem JR.bel {ow : Nat → Nat} {t q N : Nat} {L : List Int} {W0 W : World} {P : Int → Bool} {s : List Int} (h : JR ow t q N L W0 P s W) (ht : t ≠ 0) {B : Nat} (hB : ∀ x, x < B → ow x = 0) (hs : B ≤ W0.heap.size) : Below B W0 W := by
  obtain ⟨ow', L', h1, h2, h3, h4, h5⟩ := h.ex
  exact h3.bel hB hs ht
theorem JR.cell {ow : Nat → Nat} {t q N : Nat} {L : List Int} {W0 W : World} {P : Int → Bool} {s : List Int} (h : JR ow t q N L W0 P s W) (ht : t ≠ 0) {p : Addr} {v : Value} (hp : ow p.block = 0) (hc : W0.cell? p = some v) : W.cell? p = some v := by
  obtain ⟨ow', L', h1, h2, h3, h4, h5⟩ := h.ex
  rw [World.cell?_of_block (w := W0) (h3.block p.block (World.block_lt_of_cell? W0 p hc) (by rw [hp]; exact fun e => ht e.symm))]
  exact hc
theorem JR.put1 {ow : Nat → Nat} {t q N : Nat} {L : List Int} {W0 V W : World} {P : Int → Bool} {s : List Int} {x : Int} {ow1 ow2 : Nat → Nat} {L1 L2 : List Int} (h1 : FaAt V ow1 t q (N + s.length) L1) (h2 : ∀ z, z ∈ L1 ↔ z ∈ L ∨ (z ∈ s ∧ P z = true)) (h3 : App ow ow1 t W0 V) (h4 : ow1 W0.heap.size = 0 ∧ ow1 (W0.heap.size + 1) = 0) (hs : W0.heap.size + 1 < V.heap.size)
    (k1 : FaAt W ow2 t q (N + s.length + 1) L2) (k2 : ∀ z, z ∈ L2 ↔ z = x ∨ z ∈ L1) (k3 : App ow1 ow2 t V W) (hP : P x = true) : JR ow t q N L W0 P (s ++ [x]) W :=
  ⟨ow2, L2, by rw [List.length_append]; exact k1, fun z => by
    rw [k2, h2, List.mem_append, List.mem_singleton]
    constructor
    · rintro (e | e | e)
      · exact Or.inr ⟨Or.inr e, e ▸ hP⟩
      · exact Or.inl e
      · exact Or.inr ⟨Or.inl e.1, e.2⟩
    · rintro (e | ⟨e | e, e2⟩)
      · exact Or.inr (Or.inl e)
      · exact Or.inr (Or.inr ⟨e, e2⟩)
      · exact Or.inl e, h3.trans k3, (k3.same _ (by omega)).trans h4.1, (k3.same _ hs).trans h4.2⟩
theorem Bk.app {ow ow' : Nat → Nat} {t D : Nat} {V W : World} {r : Loop} (h : Bk D r V) (k : App ow ow' t V W) (h1 : ow D ≠ t) (h2 : ow (D + 1) ≠ t) : Bk D r W := by
  have hl := h.lt
  exact ⟨(k.block D (by omega) h1).trans h.dfr, (k.block (D + 1) hl h2).trans h.lp⟩
set_option maxRecDepth 100000 in
set_option maxHeartbeats 8000000 in
theorem resolve_is (base b G N0 : Nat) (a : Option Addr) (ca : Nat) (C : List (List Int)) (f : Nat → Option Addr × Nat) (ma : Option Addr) (mc : Nat) (M : List Mk) (wT : World) (hT : TrR wT base b G N0 (.slice a C.length ca) (.slice ma M.length mc) (plA M)) (hd : Dst M) (hC : CsAt wT a C f) (hM : MsAt wT ma M) (hM9 : M.length ≤ 1048575) (p ρ : Nat) (hp : p < M.length) (hρ : (M.getD p default).r = (ρ : Int)) (hρC : ρ < C.length) (hfl : ∀ x ∈ C.getD ρ [], x ≠ (M.getD p default).l → flsV M x = true) (hcl : (C.getD ρ []).length ≤ 1048576) (ow : Nat → Nat) (t q N : Nat) (L : List Int) (w : World) (hb : Below wT.heap.size wT w) (hlow : ∀ x, x < wT.heap.size → ow x = 0) (hhi : ∀ x, w.heap.size ≤ x → ow x = 0) (ht : t ≠ 0) (hN : N < 2305843009213693952) (hF : FaAt w ow t q N L) :
    Calls Try.prog 30 #[.pointer (some ⟨b, 0, none⟩), .int .i64 (p : Int), .pointer (some ⟨q, 0, none⟩)] w fun e w' => e = .returned (.int .i64 (ρ : Int)) ∧ ∃ ow' L', FaAt w' ow' t q (N + (cauL C M p).length) L' ∧ (∀ z, z ∈ L' ↔ z ∈ L ∨ z ∈ cauL C M p) ∧ App ow ow' t w w' := by
  have hcl2 : (cauL C M p).length ≤ 1048576 := by unfold cauL; rw [List.length_map, hρ, Int.toNat_natCast]; exact Nat.le_trans (List.length_filter_le _ _) hcl
  refine (callsIn_wide (n := 3)).1 ?_
  refine callsIn_of_wp_marks Try.func30 rfl trivial ?_ rfl
  simp only [Try.ntmps30, List.size_toArray, List.length_cons, List.length_nil, Nat.reduceAdd, Nat.reduceSub, Array.replicate_succ, Array.replicate_zero, List.push_toArray, List.append_toArray, List.nil_append, List.cons_append]
  obtain ⟨wA, hwA⟩ : ∃ wA, w.alloc (.cells #[.pointer (some ⟨q, 0, none⟩)] 59) = wA := ⟨_, rfl⟩
  have bA := below_alloc (w := w) (.cells #[.pointer (some ⟨q, 0, none⟩)] 59)
  have nA := heap_alloc_new w (.cells #[.pointer (some ⟨q, 0, none⟩)] 59)
  have sA := size_alloc w (.cells #[.pointer (some ⟨q, 0, none⟩)] 59)
  rw [hwA] at bA nA sA
  have GC := hide' (causes_is b p wA)
  have HST := hide' (And.intro hT (And.intro hC hM))
  clear hT hC hM
  have HFA := hide' hF
  clear hF
  gi_wp2_with (refine ⟨trivial, ?_⟩; (try rw [hwA]); gi_at_call 65; refine (callsIn_wide.2 GC.out).mono ?_; rintro e W0 ⟨p1, p2, rfl, k1, k2, hp1, hp2, b2⟩)
  try simp only
  have bW : Below w.heap.size w W0 := bA.trans (b2.mono bA.size)
  have hs0 := b2.size
  have kq := below_cell b2 (show wA.cell? ⟨w.heap.size, 0, none⟩ = some (.pointer (some ⟨q, 0, none⟩)) from cell_of_row wA w.heap.size 0 _ _ _ nA)
  have HBW := hide' (And.intro bW (And.intro (show wT.heap.size ≤ W0.heap.size from Nat.le_trans hb.size bW.size) (show w.heap.size + 1 ≤ W0.heap.size by omega)))
  have ow1 : ow W0.heap.size = 0 := hhi _ (by omega)
  have ow2 : ow (W0.heap.size + 1) = 0 := hhi _ (by omega)
  have owp1 : ow p1 = 0 := hhi _ (by omega)
  have owp2 : ow p2 = 0 := hhi _ (by omega)
  have owq : ow w.heap.size = 0 := hhi _ (Nat.le_refl _)
  refine range_all (gf := 77) (lb := #[.pointer (some ⟨p1, 0, none⟩), .pointer (some ⟨p2, 0, none⟩)]) rfl (enters_of Try.func77 (by kernel_rfl) rfl) (fun x : Int => #[.int .i64 x]) (fun _ => rfl)
    (JR ow t q N L W0 (fun _ => true)) (fun s x W => (0 ≤ x ∧ x < (M.length : Int) ∧ s.length < 1048576)) KM
    (fun s x a' V => JR ow t q N L W0 (fun _ => true) s V ∧ (0 ≤ x ∧ x < (M.length : Int) ∧ s.length < 1048576) ∧ a' = { tmps := #[.pointer (some ⟨b, 0, none⟩), .int .i64 (p : Int), .pointer (some ⟨q, 0, none⟩), undef, undef, .pointer (some ⟨w.heap.size, 0, none⟩), .int .i64 0, .int .i64 x, .pointer (some ⟨b, 0, none⟩), .int .i64 (p : Int), .func (.func 77) #[] #[.pointer (some ⟨p1, 0, none⟩), .pointer (some ⟨p2, 0, none⟩)], .int .i64 x, undef, undef, undef, undef, undef, undef, undef, undef, undef, undef, undef], defers := [] })
    (fun s W r r' hk h => h.put ht _) ?hA (fun W r r' hk => KM.putLoop hk r') (fun A B C h k => h.trans k) ?assign ?body ?iter
  case hA =>
    rintro s x a' W r r' hk ⟨hj, hl, rfl⟩
    exact ⟨hj.put ht _, hl, rfl⟩
  case assign =>
    rintro s x W r K hk hj hl hK
    have hK' := hK _ _ (Below.refl W.heap.size W) (KM.refl W) ⟨hj, hl, rfl⟩
    clear hK
    gi_wp2
    exact hK'
  case body =>
    rintro s x a' V r hk ⟨hj, hl, rfl⟩
    have hcq := hj.cell ht (p := ⟨w.heap.size, 0, none⟩) owq kq
    obtain ⟨ow', L', j1, j2, j3, j4, j5⟩ := hj.ex
    have GP := hide' (fput_is ow' t q (N + s.length) L' x (by omega) ht (by omega) V j1)
    have HQ := hide' (And.intro hk (And.intro j2 (And.intro j3 (And.intro j4 (And.intro j5 j1)))))
    clear hj j1 j2 j3 j4 j5 hk
    gi_wp2_with (refine ⟨trivial, ?_⟩; gi_at_call 26; refine (CallsIn.inRound (W0.heap.size + 1) (callsIn_wide.2 GP.out)).mono ?_; rintro e w5 ⟨⟨v, rfl⟩, ow5, L5, k1, k2, k3⟩)
    obtain ⟨hk, j2, j3, j4, j5, j1⟩ := HQ.out
    exact ⟨fun r h => h.app k3 (by rw [j4]; exact fun e => ht e.symm) (by rw [j5]; exact fun e => ht e.symm), fun y cs e => k3.kt y cs e, JR.put1 j1 (fun z => by rw [j2 z]; simp) j3 ⟨j4, j5⟩ hk.lt k1 k2 k3 rfl⟩
  case iter =>
    intro r W1 hk hW1 hY
    have b1 : Below W0.heap.size W0 W1 := by
      rw [hW1]
      exact ((Below.refl W0.heap.size W0).alloc (Nat.le_refl _) _).alloc (by simp) _
    have hJ0 : JR ow t q N L W0 (fun _ => true) [] W1 := ⟨ow, L, by rw [List.length_nil]; exact ((HFA.out.later HBW.out.1).later b1), fun z => by simp, App.of_below b1, ow1, ow2⟩
    have hbT : Below wT.heap.size wT W0 := hb.trans (HBW.out.1.mono hb.size)
    refine (causes1_is W0.heap.size r wT W1 p1 p2 base b G N0 a ca C f ma mc M p ρ (JR ow t q N L W0 (fun _ => true)) (fun _ => False) HST.out.1 hd HST.out.2.1 HST.out.2.2 hp hM9 hρ hρC hfl (fun s W h => hbT.trans (h.bel ht hlow hbT.size)) (fun s W h => ⟨h.cell ht (p := ⟨p1, 0, none⟩) owp1 k1, h.cell ht (p := ⟨p2, 0, none⟩) owp2 k2⟩) (fun s W W' h k => h.below k) hJ0 hk (fun s x W h1 h2 h3 => (hY s x W h1 h2 ⟨h3.1, h3.2.1, by omega⟩).mono fun e W' h9 => Or.inl h9)).mono ?_
    rintro e W2 ⟨he, hq9⟩
    obtain ⟨hk2, hj⟩ := hq9.resolve_right id
    refine ⟨he, hk2, fun r' => ?_⟩
    have hj2 := hj.put ht (.loop r')
    have hk3 := hk2.put r'
    generalize W2.putObj (W0.heap.size + 1) (.loop r') = W3 at hj2 hk3
    have bT3 := hbT.trans (hj2.bel ht hlow hbT.size)
    have c1 := below_cell bT3 HST.out.1.c1
    obtain ⟨bq, off, rfl, ⟨_, _, ck⟩, _⟩ := HST.out.2.2.el rfl hp
    replace ck := below_cell bT3 ck
    rw [hρ] at ck
    obtain ⟨n, hn⟩ : ∃ n, M.length = n := ⟨_, rfl⟩
    rw [hn] at c1
    have i1 : (p : Int) < (n : Int) := by omega
    have i0 : (0 : Int) ≤ (p : Int) := by omega
    have HJ3 := hide' hj2
    have HK3 := hide' hk3
    clear hj2 hk3 hj hk2 hY hJ0 hk
    gi_wp2
    refine ⟨by simp, .inl ⟨_, _, rfl, run_takeDeferred HK3.out.dfr, ?_⟩⟩
    refine ⟨_, results_tmp rfl _ _ _, rfl, ?_⟩
    obtain ⟨ow', L', j1, j2, j3, j4, j5⟩ := HJ3.out.ex
    exact ⟨ow', L', j1.putObj (by rw [j4]; exact fun e => ht e.symm) _, fun z => by rw [j2 z]; simp, ((App.of_below HBW.out.1).trans j3).putObj (by have := HBW.out.1.size; omega) _⟩
end Go.Proofs.Ytbcbgglhhfdbcab
