/-
  units: two stores beside each other; a list of clauses that a call makes.
-/
import Derived.Test.YtfodejhipnmgnaaUQ9
namespace Go.Proofs.Ytfodejhipnmgnaa
open Go.RowKit
set_option linter.unusedVariables false
set_option linter.unusedSimpArgs false
theorem UM.apart {w w' : World} {owa owa' owb : Nat → Tg} {b : Nat} {V : SV} {u : US} (hU : UM w owb b V u) (S : Step owa owa' w w') (hd : ∀ x, owa x ≠ .oth → owb x = .oth) : UM w' owb b V u ∧ ∀ x, owa' x ≠ .oth → owb x = .oth := by
  refine ⟨hU.keep S.chg.size fun x hx hne => S.chg.block x hx ?_, fun x hx => ?_⟩
  · by_cases e : owa x = .oth
    · exact e
    · exact absurd (hd x e) hne
  · by_cases hl : x < w.heap.size
    · rw [S.same x hl] at hx; exact hd x hx
    · exact hU.hi x (by omega)
theorem dj_swap {owa owb : Nat → Tg} (h : ∀ x, owa x ≠ .oth → owb x = .oth) : ∀ x, owb x ≠ .oth → owa x = .oth := fun x hx => by
  by_cases e : owa x = .oth
  · exact e
  · exact absurd (h x e) hx
set_option maxRecDepth 30000 in
theorem cutCg (ao : Option Addr) (n cap hi : Nat) (h2 : hi ≤ cap) (w : World) : (Instr.slice 34 (.slice ao n cap) none (some (.int .i64 hi)) none).run Try.prog w = .ok (.slice ao hi cap) w := by
  rw [run_slice_h (P := Try.prog) w 34 _ n cap Try.underlying34 .i64 _ (by omega) (by omega)]
  have es : (sizeOf (Try.prog.elem 34)).run Try.prog w = .ok 1 w := by kernel_rfl
  rw [es]
  simp only [Result.andThen, sliced, Int.toNat_natCast, Nat.zero_mul, Nat.sub_zero]
  have ea : ao.map (fun a => a.add 0) = ao := by cases ao <;> simp [Addr.add]
  rw [ea]; simp
theorem cutC (ao : Option Addr) (n cap k : Nat) (hk : k = 1048576) (h2 : k ≤ cap) (w : World) : (Instr.slice 34 (.slice ao n cap) none (some (.int .i64 1048576)) none).run Try.prog w = .ok (.slice ao k cap) w := by
  subst hk
  exact cutCg ao n cap 1048576 h2 w
/-- the first k clauses of a list as cells -/
def clk (f : Nat → Cla) (k : Nat) : List Value := (List.range k).map fun j => .slice (f j).a (f j).n (f j).c
theorem clk_succ (f : Nat → Cla) (k : Nat) : clk f (k + 1) = clk f k ++ [.slice (f k).a (f k).n (f k).c] := by simp [clk, List.range_succ]
theorem own_clas {w : World} {base n : Nat} {v : Value} {f : Nat → Cla} (h : w.ownsRow base 41 1 v n (clk f n)) (hn : n ≤ 1048576) (hl : ∀ i, i < n → LitsAt w (f i).a (f i).n (f i).g) : ∃ a c, v = .slice a n c ∧ ClasAt w a n f := by
  rcases h.2 with ⟨e, h0⟩ | ⟨g, cap, cur, hv, _, hg, _, _, _, ht⟩
  · subst h0
    exact ⟨none, 0, e, by omega, fun i hi => absurd hi (by omega), fun h => absurd h (by omega)⟩
  · refine ⟨some ⟨g, 0, none⟩, cap, hv, by omega, hl, fun _ => ⟨g, 0, rfl, fun i hi => ?_⟩⟩
    rw [Nat.zero_add, cell_of_row w g i _ _ _ hg]
    have h1 : (cur.toList.take (n * 1))[i]? = (clk f n)[i]? := by rw [ht]
    rw [List.getElem?_take_of_lt (by omega)] at h1
    rw [← Array.getElem?_toList, h1]
    simp [clk, hi]
/-- the same clauses the other way round: the same decisions, and the same clauses in another order -/
theorem made_pair {n cn : Nat} {f f' : Nat → Cla} {dn : Nat} {d : Nat → Int} (hn : n ≤ 262144) (hc : cn ≤ 1048576) (hf : ∀ i, i < cn → f' i = f (cn - 1 - i)) :
    (madeU n cn f' dn d).mks = (madeU n cn f dn d).mks ∧ (madeU n cn f' dn d).tr = (madeU n cn f dn d).tr ∧ ∀ L, Has (madeU n cn f' dn d) L ↔ Has (madeU n cn f dn d) L := by
  have a := addL_ok (f := f) (us0_iv hn) rfl cn
  have b := addL_ok (f := f') (us0_iv hn) rfl cn
  have s := decL_same (u := addL (us0 n) f' cn) (u' := addL (us0 n) f cn) (d := d) (b.2.2.1.trans a.2.2.1.symm) (b.2.2.2.trans a.2.2.2.symm) dn
  refine ⟨s.2, s.1, fun L => ?_⟩
  rw [made_has hc, made_has hc]
  constructor
  · rintro ⟨i, h1, h2, h3⟩
    exact ⟨cn - 1 - i, by omega, by rw [h2, hf i h1], h3⟩
  · rintro ⟨i, h1, h2, h3⟩
    exact ⟨cn - 1 - i, by omega, by rw [h2, hf (cn - 1 - i) (by omega), show cn - 1 - (cn - 1 - i) = i by omega], h3⟩
theorem isl_lo {u : US} (hr : Rd u) {x : Int} (h : IsL u x) : -9223372036854775808 < x := by
  have h1 := hr.nT
  obtain ⟨a, b, c⟩ := h
  omega
end Go.Proofs.Ytfodejhipnmgnaa
