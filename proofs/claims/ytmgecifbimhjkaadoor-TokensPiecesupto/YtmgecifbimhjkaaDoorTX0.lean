/-
  The law's same, of slices that begin anywhere; End and Feed of a scanner that has failed or ended.
-/
import Derived.Test.YtmgecifbimhjkaaDoorTSB
import Derived.Deep.Cut
namespace Go.Proofs.YtmgecifbimhjkaaDoor
open Go.RowKit
set_option linter.unusedVariables false
set_option linter.unusedSimpArgs false

/-- a slice of tokens that lies somewhere -/
def TokSl (w : World) (v : Value) (L : List Tok) : Prop := ∃ a c, v = .slice a L.length c ∧ (0 < L.length → ∃ g off, a = some ⟨g, off, none⟩ ∧ ∀ k j (hk : k < L.length), j < 6 → w.cell? ⟨g, off + k * 6 + j, none⟩ = (L[k]).cells[j]?)
theorem TokSl.on {w w' : World} {v : Value} {L : List Tok} (h : TokSl w v L) (hb : Below w.heap.size w w') : TokSl w' v L := by
  obtain ⟨a, c, e, hc⟩ := h
  refine ⟨a, c, e, fun hl => ?_⟩
  obtain ⟨g, off, ea, hx⟩ := hc hl
  refine ⟨g, off, ea, fun k j hk hj => ?_⟩
  have h0 := hx k j hk hj
  have h6 : j < (L[k]).cells.length := hj
  rw [List.getElem?_eq_getElem h6] at h0 ⊢
  exact below_cell hb h0
theorem own_tokSl {w : World} {base : Nat} {v : Value} {L : List Tok} (h : w.ownsRow base 23 6 v L.length (tokCells L)) : TokSl w v L := by
  obtain ⟨a, c, e⟩ := own_sl h
  refine ⟨a, c, e, fun hl => ?_⟩
  rcases h.2 with ⟨_, h0⟩ | ⟨g, p1, r1, hv1, _⟩
  · omega
  rw [e] at hv1 h
  injection hv1 with hv1 _ hc1
  subst hv1
  exact ⟨g, 0, rfl, fun k j hk hj => by rw [Nat.zero_add]; exact own_tok h k j hk hj⟩
theorem addr_add (g off m : Nat) : (⟨g, off, none⟩ : Addr).add m = ⟨g, off + m, none⟩ := by
  unfold Addr.add
  split
  · simp_all
  · simp
/-- what is left behind some first ones -/
theorem own_rest {w : World} {base : Nat} {a : Option Addr} {n c : Nat} {T1 T2 : List Tok} (h : w.ownsRow base 23 6 (.slice a n c) (T1 ++ T2).length (tokCells (T1 ++ T2))) (hn : n = (T1 ++ T2).length) : TokSl w (sliced a T1.length n c 6) T2 := by
  unfold sliced
  have hl : n - T1.length = T2.length := by rw [hn, List.length_append]; omega
  rw [hl]
  refine ⟨_, _, rfl, fun hp => ?_⟩
  obtain ⟨a2, c2, e2, hx⟩ := own_tokSl h
  injection e2 with e2 _ e3
  subst e2
  obtain ⟨g, off, ea, hx2⟩ := hx (by rw [List.length_append]; omega)
  clear hx
  subst ea
  have hcn : n ≤ c := by
    rcases h.2 with ⟨h0, _⟩ | ⟨g', cap', cur, hv', _, _, hnc, _⟩
    · cases h0
    · injection hv' with _ q1 q2
      rw [← q2] at hnc
      rw [hn]; exact hnc
  have hne : ¬ c = T1.length := by
    rw [hn, List.length_append] at hcn
    omega
  refine ⟨g, off + T1.length * 6, by rw [if_neg hne, Option.map_some, addr_add], fun k j hk hj => ?_⟩
  have h2 : T1.length + k < (T1 ++ T2).length := by rw [List.length_append]; omega
  have := hx2 (T1.length + k) j h2 hj
  rw [show off + (T1.length + k) * 6 + j = off + T1.length * 6 + k * 6 + j by omega] at this
  rw [this]
  congr 2
  rw [List.getElem_append_right (by omega)]
  congr 1
  omega
theorem slice_toks (a : Option Addr) (n c l : Nat) (h : l ≤ n) (wx : World) : (Instr.slice 29 (.slice a n c) (some (.int .i64 (l : Nat))) none none).run Tryd.prog wx = .ok (sliced a l n c 6) wx := by
  rw [run_slice_l wx 29 a n c (by kernel_rfl) .i64 (l : Nat) (by omega) (by omega), Int.toNat_natCast]
  have hs : (sizeOf (Tryd.prog.elem 29)).run Tryd.prog wx = .ok 6 wx := by
    have e : Tryd.prog.elem 29 = 23 := by kernel_rfl
    rw [e]
    go_simp
  rw [hs]
  rfl
set_option maxHeartbeats 4000000 in
set_option maxRecDepth 100000 in
theorem same_at (v1 v2 : Value) (L : List Tok) (w : World) (h1 : TokSl w v1 L) (h2 : TokSl w v2 L) (hl : L.length ≤ 100000000000) : Calls Tryd.prog 16 #[v1, v2] w fun e w' => e = .returned (.bool true) ∧ Below w.heap.size w w' := by
  obtain ⟨a1, c1, e1, x1⟩ := h1
  obtain ⟨a2, c2, e2, x2⟩ := h2
  subst e1
  subst e2
  have H1 := hideT x1
  have H2 := hideT x2
  clear x1 x2
  go_enter Tryd.func16, Tryd.ntmps16
  go_wp2_with fail
  go_loopw [5] (fun i wr => ∃ k : Nat, k ≤ L.length ∧ i = .int .i64 k ∧ Below w.heap.size w wr) (fun i _ => L.length - (intOf i).toNat)
  case atStart => exact ⟨0, Nat.zero_le _, rfl, Below.refl _ _⟩
  case round =>
    obtain ⟨k, hk, rfl, hB⟩ := hrel
    by_cases hlt : k < L.length
    · have hki : ((k : Int) < (L.length : Int)) := by omega
      obtain ⟨g1, o1, ea1, y1⟩ := H1.out (by omega)
      obtain ⟨g2, o2, ea2, y2⟩ := H2.out (by omega)
      subst ea1
      subst ea2
      obtain ⟨t, ht⟩ : ∃ t, L[k] = t := ⟨_, rfl⟩
      have z10 := y1 k 0 hlt (by decide)
      have z20 := y2 k 0 hlt (by decide)
      have z11 := y1 k 1 hlt (by decide)
      have z21 := y2 k 1 hlt (by decide)
      have z12 := y1 k 2 hlt (by decide)
      have z22 := y2 k 2 hlt (by decide)
      have z13 := y1 k 3 hlt (by decide)
      have z23 := y2 k 3 hlt (by decide)
      have z14 := y1 k 4 hlt (by decide)
      have z24 := y2 k 4 hlt (by decide)
      have z15 := y1 k 5 hlt (by decide)
      have z25 := y2 k 5 hlt (by decide)
      rw [ht] at z10 z20 z11 z21 z12 z22 z13 z23 z14 z24 z15 z25
      simp only [Tok.cells, List.getElem?_cons_zero, List.getElem?_cons_succ] at z10 z20 z11 z21 z12 z22 z13 z23 z14 z24 z15 z25
      clear ht y1 y2
      rw [Nat.add_zero] at z10 z20
      replace z10 := below_cell hB z10
      replace z20 := below_cell hB z20
      replace z11 := below_cell hB z11
      replace z21 := below_cell hB z21
      replace z12 := below_cell hB z12
      replace z22 := below_cell hB z22
      replace z13 := below_cell hB z13
      replace z23 := below_cell hB z23
      replace z14 := below_cell hB z14
      replace z24 := below_cell hB z24
      replace z15 := below_cell hB z15
      replace z25 := below_cell hB z25
      go_wp2_with fail
      go_quiet (fail)
      go_wp2
      go_roundw
      case rel => exact ⟨k + 1, by omega, by go_num, hB.trans ⟨rfl, rfl, rfl, Nat.le_refl _, fun _ _ => rfl⟩⟩
      case measure => simp [intOf]; omega
    · have hki : ¬ ((k : Int) < (L.length : Int)) := by omega
      go_wp2
      go_ret
      exact ⟨rfl, hB⟩

set_option maxHeartbeats 4000000 in
theorem refuses_failed (base b : Nat) (S : Scan) (w : World) (h : ScAt w base b S) (hs : S.st = 2) : Calls Tryd.prog 24 #[.pointer (some ⟨b, 0, none⟩)] w fun e w' => e = .returned (.int .i64 S.er) ∧ w' = w := by
  have y0 := h.blk.cell 0
  have y11 := h.blk.cell 11
  simp only [Scan.cells, List.getElem?_toArray, List.getElem?_cons_zero, List.getElem?_cons_succ] at y0 y11
  rw [hs] at y0
  go_enter Tryd.func24, Tryd.ntmps24
  go_wp2
  go_ret
  exact ⟨rfl, rfl⟩
set_option maxHeartbeats 4000000 in
theorem end_failed (base b : Nat) (S : Scan) (w : World) (h : ScAt w base b S) (hs : S.st = 2) (he : S.er ≠ 0) : Calls Tryd.prog 15 #[.pointer (some ⟨b, 0, none⟩)] w fun e w' => e = .returned (.tuple #[.slice none 0 0, .int .i64 S.er]) ∧ w' = w := by
  have GR := hideT (refuses_failed base b S w h hs)
  have x0 : (S.er != 0) = true := by rw [bne_iff_ne]; exact he
  clear he
  go_enter Tryd.func15, Tryd.ntmps15
  go_wp2_with fail
  refine GR.out.mono ?_
  rintro e w1 ⟨rfl, hw1⟩
  rw [hw1]
  go_wp2
  refine bodyPost_ret (v := .tuple #[.slice none 0 0, .int .i64 S.er]) (by rw [results_ttB rfl]; rfl) rfl ?_
  exact ⟨rfl, rfl⟩

end Go.Proofs.YtmgecifbimhjkaaDoor
