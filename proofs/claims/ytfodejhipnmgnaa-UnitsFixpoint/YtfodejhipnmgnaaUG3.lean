/-
  units: the law's made: a store of clauses in which some literals were decided.
-/
import Derived.Test.YtfodejhipnmgnaaUG2
namespace Go.Proofs.Ytfodejhipnmgnaa
open Go.RowKit
set_option linter.unusedVariables false
set_option linter.unusedSimpArgs false
def addL (u : US) (f : Nat → Cla) : Nat → US
  | 0 => u
  | k + 1 => addG (addL u f k) (ofF (f k).n (f k).g)
def decL (u : US) (d : Nat → Int) : Nat → US
  | 0 => u
  | k + 1 => decF (decL u d k) (d k)
theorem addL_ok {u : US} {f : Nat → Cla} (h : Iv u) (h0 : u.cl.length = 0) : ∀ k, Iv (addL u f k) ∧ (addL u f k).cl.length ≤ k ∧ (addL u f k).tr = u.tr ∧ (addL u f k).mks = u.mks
  | 0 => ⟨h, by show u.cl.length ≤ 0; omega, rfl, rfl⟩
  | k + 1 => by
    obtain ⟨a, b, c, d⟩ := addL_ok h h0 k
    have e := addG_len (addL u f k) (ofF (f k).n (f k).g)
    have e2 := addG_tr (addL u f k) (ofF (f k).n (f k).g)
    exact ⟨addG_iv a, by show (addG _ _).cl.length ≤ k + 1; omega, e2.1.trans c, e2.2.trans d⟩
theorem decL_ok {u : US} {d : Nat → Int} (h : Iv u) : ∀ k, Iv (decL u d k) ∧ (decL u d k).tr.length = u.tr.length ∧ (decL u d k).cl = u.cl
  | 0 => ⟨h, rfl, rfl⟩
  | k + 1 => by
    obtain ⟨a, b, c⟩ := decL_ok h k
    have e := decF_tr (decL u d k) (d k)
    exact ⟨decF_iv a, e.1.trans b, e.2.trans c⟩
/-- the store that made gives -/
def madeU (n cn : Nat) (f : Nat → Cla) (dn : Nat) (d : Nat → Int) : US := decL (addL (us0 n) f cn) d dn
theorem made_iv {n cn : Nat} {f : Nat → Cla} {dn : Nat} {d : Nat → Int} (hn : n ≤ 262144) : Iv (madeU n cn f dn d) := (decL_ok (addL_ok (us0_iv hn) rfl cn).1 dn).1
/-- what made tells -/
def MdA (w : World) (u : US) (e : Ending) (w' : World) : Prop := ∃ (b : Nat) (ow : Nat → Tg) (V : SV), e = .returned (.pointer (some ⟨b, 0, none⟩)) ∧ UM w' ow b V u ∧ Below w.heap.size w w' ∧ (∀ x, x < w.heap.size → ow x = .oth)
set_option maxHeartbeats 8000000 in
set_option maxRecDepth 100000 in
theorem made_is (n : Nat) (hn : n ≤ 262144) (ca : Option Addr) (cn cc : Nat) (f : Nat → Cla) (da : Option Addr) (dn dc : Nat) (d : Nat → Int) (hcl : ∀ i, i < cn → (f i).n ≤ 17592186044416) (w : World) (hC : ClasAt w ca cn f) (hD : LitsAt w da dn d) :
    Calls Try.prog 18 #[.int .i64 n, .slice ca cn cc, .slice da dn dc] w fun e w' => MdA w (madeU n cn f dn d) e w' := by
  obtain ⟨TQ, hTQ⟩ : ∃ TQ, MdA w (madeU n cn f dn d) = TQ := ⟨_, rfl⟩
  change Calls _ _ _ _ (MdA w (madeU n cn f dn d))
  rw [hTQ]
  replace hTQ := hide' hTQ
  have GN := hide' (new_ok n hn w)
  have HC := hide' (And.intro hC hD)
  have hdn := hD.1
  have hcn := hC.1
  clear hC hD
  obtain ⟨U0, hU0⟩ : ∃ U0, us0 n = U0 := ⟨_, rfl⟩
  rw [hU0] at GN
  have HI := hide' (show Iv U0 ∧ U0.cl.length = 0 from by rw [← hU0]; exact ⟨us0_iv hn, rfl⟩)
  have HU := hide' hU0
  clear hU0
  go_enter Try.func18, Try.ntmps18
  go_wp2_with fail
  refine GN.out.mono ?_
  rintro e w1 ⟨b, ow, V, rfl, hU, hB, _, ho⟩
  clear GN
  have I0 := hide' (And.intro hU (And.intro hB ho))
  clear hU hB ho
  go_wp2_with fail
  go_loopw [9] (fun vi wr => ∃ (k : Nat) (ow1 : Nat → Tg) (V1 : SV), k ≤ cn ∧ vi = .int .i64 k ∧ UM wr ow1 b V1 (addL U0 f k) ∧ Below w.heap.size w wr ∧ ∀ x, x < w.heap.size → ow1 x = .oth) (fun vi _ => cn - (intOf vi).toNat)
  case atStart => exact ⟨0, ow, V, Nat.zero_le _, rfl, I0.out.1, I0.out.2.1, I0.out.2.2⟩
  case round =>
    clear I0
    obtain ⟨k, ow1, V1, hk, rfl, hU, hB, ho⟩ := hrel
    by_cases hlt : k < cn
    · obtain ⟨bb, off, rfl, hcell⟩ := HC.out.1.2.2 (by omega)
      have ck := below_cell hB (hcell k hlt)
      have i1 : (k : Int) < (cn : Int) := by omega
      obtain ⟨Ik, lk, _⟩ := addL_ok (f := f) HI.out.1 HI.out.2 k
      have GA := hide' (add_any ow1 b V1 (addL U0 f k) (f k).a (f k).n (f k).c (f k).g (hcl k hlt) Ik wr hU ((HC.out.1.2.1 k hlt).later hB))
      have HB := hide' (And.intro hB (And.intro ho (show w.heap.size ≤ wr.heap.size from hB.size)))
      clear hcell hU hB ho Ik lk
      go_wp2_with fail
      refine GA.out.mono ?_
      rintro e w2 ⟨⟨z, rfl⟩, ow2, V2, h2, S2⟩
      clear GA
      have HN := hide' (show UM w2 ow2 b V2 (addL U0 f (k + 1)) ∧ Below w.heap.size w w2 ∧ ∀ x, x < w.heap.size → ow2 x = .oth from ⟨h2, HB.out.1.trans (S2.below HB.out.2.1 HB.out.2.2), fun x hx => (S2.same x (by have := HB.out.2.2; omega)).trans (HB.out.2.1 x hx)⟩)
      clear h2 S2 HB
      go_wp2
      go_roundw
      case rel => exact ⟨k + 1, ow2, V2, by omega, by go_num, HN.out.1, HN.out.2.1, HN.out.2.2⟩
      case measure => simp only [intOf]; omega
    · obtain rfl : k = cn := by omega
      have i1 : ¬ (k : Int) < (k : Int) := by omega
      obtain ⟨Ik, lk, _⟩ := addL_ok (f := f) HI.out.1 HI.out.2 k
      obtain ⟨U1, hU1⟩ : ∃ U1, addL U0 f k = U1 := ⟨_, rfl⟩
      rw [hU1] at Ik hU
      have I1 := hide' (And.intro hU (And.intro hB ho))
      replace Ik := hide' Ik
      have HU1 := hide' hU1
      clear hU hB ho hU1 lk
      go_wp2_with fail
      go_loopw [10] (fun vi wr => ∃ (j : Nat) (ow1 : Nat → Tg) (V1 : SV), j ≤ dn ∧ vi = .int .i64 j ∧ UM wr ow1 b V1 (decL U1 d j) ∧ Below w.heap.size w wr ∧ ∀ x, x < w.heap.size → ow1 x = .oth) (fun vi _ => dn - (intOf vi).toNat)
      case atStart => exact ⟨0, ow1, V1, Nat.zero_le _, rfl, I1.out.1, I1.out.2.1, I1.out.2.2⟩
      case round =>
        clear I1
        obtain ⟨j, ow3, V3, hj, rfl, hU, hB, ho⟩ := hrel
        by_cases hlt2 : j < dn
        · obtain ⟨bb, off, rfl, hcell⟩ := HC.out.2.2.2 (by omega)
          have ck := below_cell hB (hcell j hlt2)
          have i2 : (j : Int) < (dn : Int) := by omega
          have hdj := HC.out.2.2.1 j hlt2
          have GD := hide' (decide_is ow3 b V3 (decL U1 d j) (d j) hdj.1 hdj.2 (decL_ok Ik.out j).1 wr hU)
          have HN9 := hide' (show decL U1 d (j + 1) = decF (decL U1 d j) (d j) from rfl)
          obtain ⟨y, hy⟩ : ∃ y, d j = y := ⟨_, rfl⟩
          rw [hy] at ck GD hdj HN9
          have HB := hide' (And.intro hB (And.intro ho (show w.heap.size ≤ wr.heap.size from hB.size)))
          clear hcell hU hB ho hy
          go_wp2_with fail
          refine GD.out.mono ?_
          rintro e w2 ⟨⟨z, rfl⟩, ow4, V4, h2, S2, _⟩
          clear GD
          have HN := hide' (show UM w2 ow4 b V4 (decL U1 d (j + 1)) ∧ Below w.heap.size w w2 ∧ ∀ x, x < w.heap.size → ow4 x = .oth from ⟨by rw [HN9.out]; exact h2, HB.out.1.trans (S2.below HB.out.2.1 HB.out.2.2), fun x hx => (S2.same x (by have := HB.out.2.2; omega)).trans (HB.out.2.1 x hx)⟩)
          clear h2 S2 HB
          go_wp2
          go_roundw
          case rel => exact ⟨j + 1, ow4, V4, by omega, by go_num, HN.out.1, HN.out.2.1, HN.out.2.2⟩
          case measure => simp only [intOf]; omega
        · obtain rfl : j = dn := by omega
          have i2 : ¬ (j : Int) < (j : Int) := by omega
          have HX := hide' (show TQ (.returned (.pointer (some ⟨b, 0, none⟩))) wr from by rw [← hTQ.out]; exact ⟨b, ow3, V3, rfl, by unfold madeU; rw [HU.out, HU1.out]; exact hU, hB, ho⟩)
          clear hU hB ho
          go_wp2
          first | exact HX.out | (go_ret; exact HX.out)
end Go.Proofs.Ytfodejhipnmgnaa
