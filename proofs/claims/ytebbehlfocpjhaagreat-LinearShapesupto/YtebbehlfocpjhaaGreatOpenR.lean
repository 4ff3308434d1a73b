import Derived.Test.YtebbehlfocpjhaaGreatOpenL
import Derived.Test.YtebbehlfocpjhaaGreatWN4
set_option linter.unusedSimpArgs false
namespace Go.Proofs.YtebbehlfocpjhaaGreat
open Go.ChangeShapes Go.WideShapes Go.ChangeAt Go.RowKit Go.Deep
set_option linter.unusedVariables false
set_option maxRecDepth 100000 in
theorem open_RatV {H : Type} {enc : TypeId × Value → H} {W : World} {r : Reach} {b0 : Nat} {v : Value} {d : DataW H} {p : List MemPlace}
    (hv : Value.okWide Tryz.prog W r b0 29 v) (h : DataW.Trod enc Tryz.prog W 0 (fun _ => true) true 29 v d p)
    (hsz : (d.weights Tryz.prog 29).all (· ≤ reachBytes) = true) :
    ∃ q : RatV, v = .agg #[.bool q.s, .slice q.a q.n q.c, .slice q.b q.m q.e] ∧ q.ok W ∧ q.n + q.m + 1 ≤ Rows.uptoBulk d := by
  obtain ⟨cs, rfl, hcs⟩ := okWide_struct Tryz.underlying29 hv
  obtain ⟨fuel, hf⟩ := h
  rw [cells_Rat] at hcs
  obtain ⟨c0, c1, c2, rfl⟩ : ∃ c0 c1 c2, cs = #[c0, c1, c2] := by
    match cs, hcs with
    | ⟨[c0, c1, c2]⟩, _ => exact ⟨c0, c1, c2, rfl⟩
  simp only [Value.cells] at hf
  obtain ⟨q, rfl, rfl, rfl, hok, hb⟩ := open_Rat3 hf hsz
  exact ⟨q, rfl, hok, hb⟩
def mos (v : Nat → Int) (f : Nat → RatV) (n : Nat) : List Mo := (List.range n).map fun i => (v i, f i)
theorem mos_length (v : Nat → Int) (f : Nat → RatV) (n : Nat) : (mos v f n).length = n := by unfold mos; rw [List.length_map, List.length_range]
theorem mos_mem {v : Nat → Int} {f : Nat → RatV} {n : Nat} {p : Mo} (h : p ∈ mos v f n) : ∃ i, i < n ∧ p = (v i, f i) := by
  obtain ⟨i, hi, rfl⟩ := List.mem_map.1 h
  exact ⟨i, List.mem_range.1 hi, rfl⟩
theorem mos_at {w : World} {a : Option Addr} {n : Nat} {v : Nat → Int} {f : Nat → RatV} (h : FormAt w a n v f) : FAt w a (mos v f n) := fun hn => by
  have h0 : 0 < n := by
    rcases Nat.eq_zero_or_pos n with e | e
    · subst e; exact absurd rfl hn
    · exact e
  obtain ⟨b, off, e, hl, hc⟩ := h h0
  refine ⟨b, off, e, hl, fun i p hi => ?_⟩
  unfold mos at hi
  rw [List.getElem?_map] at hi
  have hin : i < n := by
    rcases Nat.lt_or_ge i n with h1 | h1
    · exact h1
    · rw [List.getElem?_eq_none (by rw [List.length_range]; exact h1)] at hi; cases hi
  rw [List.getElem?_range hin] at hi
  obtain rfl := Option.some.inj hi
  exact hc i hin
theorem bulk_at {q : Nat → RatV} : ∀ (n i : Nat), i < n → (q i).n + (q i).m + n ≤ bulkV q n
  | 0, i, h => absurd h (by omega)
  | n + 1, i, h => by
    simp only [bulkV]
    rcases Nat.lt_or_ge i n with h1 | h1
    · have := bulk_at (q := q) n i h1
      omega
    · obtain rfl : i = n := by omega
      have : i ≤ bulkV q i := by
        clear h h1
        induction i with
        | zero => exact Nat.zero_le _
        | succ i ih => simp only [bulkV]; omega
      omega
theorem bulk_n {q : Nat → RatV} : ∀ (n : Nat), n ≤ bulkV q n
  | 0 => Nat.zero_le _
  | n + 1 => by have := bulk_n (q := q) n; simp only [bulkV]; omega
end Go.Proofs.YtebbehlfocpjhaaGreat
