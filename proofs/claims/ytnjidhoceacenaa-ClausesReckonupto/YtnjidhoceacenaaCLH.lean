/-
  clauses: Resolve of both.
-/
import Derived.Test.YtnjidhoceacenaaCLG
import Derived.Test.YtnjidhoceacenaaCLD
namespace Go.Proofs.Ytnjidhoceacenaa
open Go.RowKit
set_option linter.unusedVariables false
set_option linter.unusedSimpArgs false
/-- may two clauses be resolved by an atom? -/
def rsv (g : Nat → Int) (n : Nat) (g' : Nat → Int) (n' : Nat) (x : Int) : Bool :=
  allN isLit g n && allN isLit g' n' && decide (1 ≤ x) && decide (x ∈ lst g n) && decide (-x ∈ lst g' n')
/-- what is left of both -/
def rest2 (g : Nat → Int) (n : Nat) (g' : Nat → Int) (n' : Nat) (x : Int) : List Int := woL x (lst g n) ++ woL (-x) (lst g' n')
theorem own_more {w w1 w2 : World} {v v' : Value} {s t : List Int} (h : Own w w1 v s) (h2 : w2.ownsRow w.heap.size 3 1 v' (s.length + t.length) (iv s ++ iv t)) (h3 : w1.grownBy w2 v.ownBlock) : Own w w2 v' (s ++ t) := by
  refine ⟨by rw [List.length_append, iv_append]; exact h2, h.2.grown h3 h.2.size fun k hk => (h.1.lt k hk).1⟩
theorem own_src {w w1 : World} {gb cap n : Nat} {s : List Int} (h : Own w w1 (.slice (some ⟨gb, 0, none⟩) n cap) s) (hn : s.length = n) : ∀ j u, (iv s)[j]? = some u → w1.cell? ((⟨gb, 0, none⟩ : Addr).add j) = some u := fun j u hj => by
  subst hn
  have hj1 : j < s.length := by have := (List.getElem?_eq_some_iff.1 hj).1; rwa [iv_length] at this
  rw [Addr.add_lit, Nat.zero_add, h.1.cellAt j (by omega), hj]
theorem rest_lit {g : Nat → Int} {n : Nat} {g' : Nat → Int} {n' : Nat} {x : Int} (h : allN isLit g n = true) (h' : allN isLit g' n' = true) : ∀ z ∈ rest2 g n g' n' x, isLit z = true := fun z hz => by
  rcases List.mem_append.1 hz with hz | hz
  · exact lst_lit h z (woL_mem hz)
  · exact lst_lit h' z (woL_mem hz)
theorem rest_ok {w w' : World} {a a' : Option Addr} {g : Nat → Int} {n : Nat} {g' : Nat → Int} {n' : Nat} {x : Int} (h : LitsAt w a n g) (h' : LitsAt w' a' n' g') : okL (rest2 g n g' n' x) := fun z hz => by
  rcases List.mem_append.1 hz with hz | hz
  · exact lst_ok h z (woL_mem hz)
  · exact lst_ok h' z (woL_mem hz)
theorem rest_len (g : Nat → Int) (n : Nat) (g' : Nat → Int) (n' : Nat) (x : Int) : (rest2 g n g' n' x).length ≤ n + n' := by
  have h1 := woL_len x (lst g n)
  have h2 := woL_len (-x) (lst g' n')
  rw [lst_length] at h1 h2
  unfold rest2
  rw [List.length_append]
  omega
set_option maxHeartbeats 4000000 in
set_option maxRecDepth 100000 in
theorem pRes_no (a : Option Addr) (n c : Nat) (g : Nat → Int) (a' : Option Addr) (n' c' : Nat) (g' : Nat → Int) (x : Int) (w : World) (h : LitsAt w a n g) (h' : LitsAt w a' n' g') (hx : -9223372036854775808 ≤ x ∧ x ≤ 9223372036854775807) (hr : rsv g n g' n' x = false) :
    Calls Try.prog 7 #[.slice a n c, .slice a' n' c', .int .i64 x] w fun e w' => e = .returned (.tuple #[.slice none 0 0, .int .i64 180]) ∧ Below w.heap.size w w' := by
  unfold rsv at hr
  have G1 := hide' (fun w' (hb : Below w.heap.size w w') => areLiterals_is a n c g w' (h.later hb))
  have G2 := hide' (fun w' (hb : Below w.heap.size w w') => areLiterals_is a' n' c' g' w' (h'.later hb))
  have G3 := hide' (fun w' (hb : Below w.heap.size w w') => contains_is a n c g x w' (h.later hb))
  have G4 := hide' (fun w' (hb : Below w.heap.size w w') => contains_is a' n' c' g' (-x) w' (h'.later hb))
  obtain ⟨la, hla⟩ : ∃ q, allN isLit g n = q := ⟨_, rfl⟩
  rw [hla] at hr G1
  obtain ⟨lb, hlb⟩ : ∃ q, allN isLit g' n' = q := ⟨_, rfl⟩
  rw [hlb] at hr G2
  obtain ⟨ca, hca⟩ : ∃ q, decide (x ∈ lst g n) = q := ⟨_, rfl⟩
  rw [hca] at hr G3
  obtain ⟨cb, hcb⟩ : ∃ q, decide (-x ∈ lst g' n') = q := ⟨_, rfl⟩
  rw [hcb] at hr G4
  clear h h' hla hlb hca hcb
  have HR := hide' hr
  clear hr
  have hB := Below.refl w.heap.size w
  go_enter Try.func7, Try.ntmps7
  cases la
  · skip
    go_wp2_with fail
    refine (G1.out _ hB).mono ?_
    rintro e w9 ⟨rfl, b9⟩
    replace hB := hB.trans (b9.mono hB.size)
    clear b9
    go_wp2
    refine bodyPost_ret (v := .tuple #[.slice none 0 0, .int .i64 180]) (by rw [results_tt rfl]; rfl) rfl ?_
    exact ⟨rfl, hB⟩
  · skip
    go_wp2_with fail
    refine (G1.out _ hB).mono ?_
    rintro e w9 ⟨rfl, b9⟩
    replace hB := hB.trans (b9.mono hB.size)
    clear b9
    cases lb
    · skip
      go_wp2_with fail
      refine (G2.out _ hB).mono ?_
      rintro e w9 ⟨rfl, b9⟩
      replace hB := hB.trans (b9.mono hB.size)
      clear b9
      go_wp2
      refine bodyPost_ret (v := .tuple #[.slice none 0 0, .int .i64 180]) (by rw [results_tt rfl]; rfl) rfl ?_
      exact ⟨rfl, hB⟩
    · skip
      go_wp2_with fail
      refine (G2.out _ hB).mono ?_
      rintro e w9 ⟨rfl, b9⟩
      replace hB := hB.trans (b9.mono hB.size)
      clear b9
      by_cases h1 : x < 1
      · skip
        go_wp2
        refine bodyPost_ret (v := .tuple #[.slice none 0 0, .int .i64 180]) (by rw [results_tt rfl]; rfl) rfl ?_
        exact ⟨rfl, hB⟩
      · skip
        cases ca
        · skip
          go_wp2_with fail
          refine (G3.out _ hB).mono ?_
          rintro e w9 ⟨rfl, b9⟩
          replace hB := hB.trans (b9.mono hB.size)
          clear b9
          go_wp2
          refine bodyPost_ret (v := .tuple #[.slice none 0 0, .int .i64 180]) (by rw [results_tt rfl]; rfl) rfl ?_
          exact ⟨rfl, hB⟩
        · skip
          go_wp2_with fail
          refine (G3.out _ hB).mono ?_
          rintro e w9 ⟨rfl, b9⟩
          replace hB := hB.trans (b9.mono hB.size)
          clear b9
          cases cb
          · skip
            go_wp2_with fail
            refine (G4.out _ hB).mono ?_
            rintro e w9 ⟨rfl, b9⟩
            replace hB := hB.trans (b9.mono hB.size)
            clear b9
            go_wp2
            refine bodyPost_ret (v := .tuple #[.slice none 0 0, .int .i64 180]) (by rw [results_tt rfl]; rfl) rfl ?_
            exact ⟨rfl, hB⟩
          · skip
            have hr := HR.out
            simp at hr
            omega
set_option maxHeartbeats 4000000 in
set_option maxRecDepth 100000 in
theorem rRes_no (a : Option Addr) (n c : Nat) (g : Nat → Int) (a' : Option Addr) (n' c' : Nat) (g' : Nat → Int) (x : Int) (w : World) (h : LitsAt w a n g) (h' : LitsAt w a' n' g') (hx : -9223372036854775808 ≤ x ∧ x ≤ 9223372036854775807) (hr : rsv g n g' n' x = false) :
    Calls Try.prog 8 #[.slice a n c, .slice a' n' c', .int .i64 x] w fun e w' => e = .returned (.tuple #[.slice none 0 0, .int .i64 180]) ∧ Below w.heap.size w w' := by
  unfold rsv at hr
  have G1 := hide' (fun w' (hb : Below w.heap.size w w') => Literals_is a n c g w' (h.later hb))
  have G2 := hide' (fun w' (hb : Below w.heap.size w w') => Literals_is a' n' c' g' w' (h'.later hb))
  have G3 := hide' (fun w' (hb : Below w.heap.size w w') => Has_is a n c g x w' (h.later hb))
  have G4 := hide' (fun w' (hb : Below w.heap.size w w') => Has_is a' n' c' g' (-x) w' (h'.later hb))
  obtain ⟨la, hla⟩ : ∃ q, allN isLit g n = q := ⟨_, rfl⟩
  rw [hla] at hr G1
  obtain ⟨lb, hlb⟩ : ∃ q, allN isLit g' n' = q := ⟨_, rfl⟩
  rw [hlb] at hr G2
  obtain ⟨ca, hca⟩ : ∃ q, decide (x ∈ lst g n) = q := ⟨_, rfl⟩
  rw [hca] at hr G3
  obtain ⟨cb, hcb⟩ : ∃ q, decide (-x ∈ lst g' n') = q := ⟨_, rfl⟩
  rw [hcb] at hr G4
  clear h h' hla hlb hca hcb
  have HR := hide' hr
  clear hr
  have hB := Below.refl w.heap.size w
  go_enter Try.func8, Try.ntmps8
  by_cases h1 : x < 1
  · skip
    go_wp2
    refine bodyPost_ret (v := .tuple #[.slice none 0 0, .int .i64 180]) (by rw [results_tt rfl]; rfl) rfl ?_
    exact ⟨rfl, hB⟩
  · skip
    cases la
    · skip
      go_wp2_with fail
      refine (G1.out _ hB).mono ?_
      rintro e w9 ⟨rfl, b9⟩
      replace hB := hB.trans (b9.mono hB.size)
      clear b9
      go_wp2
      refine bodyPost_ret (v := .tuple #[.slice none 0 0, .int .i64 180]) (by rw [results_tt rfl]; rfl) rfl ?_
      exact ⟨rfl, hB⟩
    · skip
      go_wp2_with fail
      refine (G1.out _ hB).mono ?_
      rintro e w9 ⟨rfl, b9⟩
      replace hB := hB.trans (b9.mono hB.size)
      clear b9
      cases lb
      · skip
        go_wp2_with fail
        refine (G2.out _ hB).mono ?_
        rintro e w9 ⟨rfl, b9⟩
        replace hB := hB.trans (b9.mono hB.size)
        clear b9
        go_wp2
        refine bodyPost_ret (v := .tuple #[.slice none 0 0, .int .i64 180]) (by rw [results_tt rfl]; rfl) rfl ?_
        exact ⟨rfl, hB⟩
      · skip
        go_wp2_with fail
        refine (G2.out _ hB).mono ?_
        rintro e w9 ⟨rfl, b9⟩
        replace hB := hB.trans (b9.mono hB.size)
        clear b9
        cases ca
        · skip
          go_wp2_with fail
          refine (G3.out _ hB).mono ?_
          rintro e w9 ⟨rfl, b9⟩
          replace hB := hB.trans (b9.mono hB.size)
          clear b9
          go_wp2
          refine bodyPost_ret (v := .tuple #[.slice none 0 0, .int .i64 180]) (by rw [results_tt rfl]; rfl) rfl ?_
          exact ⟨rfl, hB⟩
        · skip
          go_wp2_with fail
          refine (G3.out _ hB).mono ?_
          rintro e w9 ⟨rfl, b9⟩
          replace hB := hB.trans (b9.mono hB.size)
          clear b9
          cases cb
          · skip
            go_wp2_with fail
            refine (G4.out _ hB).mono ?_
            rintro e w9 ⟨rfl, b9⟩
            replace hB := hB.trans (b9.mono hB.size)
            clear b9
            go_wp2
            refine bodyPost_ret (v := .tuple #[.slice none 0 0, .int .i64 180]) (by rw [results_tt rfl]; rfl) rfl ?_
            exact ⟨rfl, hB⟩
          · skip
            have hr := HR.out
            simp at hr
            omega
set_option maxHeartbeats 4000000 in
set_option maxRecDepth 100000 in
theorem pRes_is (a : Option Addr) (n c : Nat) (g : Nat → Int) (a' : Option Addr) (n' c' : Nat) (g' : Nat → Int) (x : Int) (w : World) (h : LitsAt w a n g) (h' : LitsAt w a' n' g') (hx : -9223372036854775808 ≤ x ∧ x ≤ 9223372036854775807) (hn : n ≤ 2097152) (hn' : n' ≤ 2097152) (hr : rsv g n g' n' x = true) :
    Calls Try.prog 7 #[.slice a n c, .slice a' n' c', .int .i64 x] w fun e w' => ∃ v s, e = .returned (.tuple #[v, .int .i64 0]) ∧ Nrm (rest2 g n g' n' x) s ∧ Own w w' v s := by
  obtain ⟨i0, hi0, hz0, hz1, hz2⟩ := info_parts info_i
  unfold rsv at hr
  simp only [Bool.and_eq_true] at hr
  obtain ⟨⟨⟨⟨hla, hlb⟩, h1⟩, hca⟩, hcb⟩ := hr
  have hx1 := of_decide_eq_true h1
  clear h1
  have hlt : ¬ x < 1 := by omega
  have G1 := hide' (fun w' (hb : Below w.heap.size w w') => areLiterals_is a n c g w' (h.later hb))
  have G2 := hide' (fun w' (hb : Below w.heap.size w w') => areLiterals_is a' n' c' g' w' (h'.later hb))
  have G3 := hide' (fun w' (hb : Below w.heap.size w w') => contains_is a n c g x w' (h.later hb))
  have G4 := hide' (fun w' (hb : Below w.heap.size w w') => contains_is a' n' c' g' (-x) w' (h'.later hb))
  rw [hla] at G1
  rw [hlb] at G2
  rw [hca] at G3
  rw [hcb] at G4
  have G5 := hide' (fun w' (hb : Below w.heap.size w w') => without_is a n c g x w' (h.later hb) (by omega))
  have G6 := hide' (fun w' (hb : Below w.heap.size w w') => without_is a' n' c' g' (-x) w' (h'.later hb) (by omega))
  have hrl := rest_len g n g' n' x
  have G7 := hide' (fun v w4 (hO : Own w w4 v (rest2 g n g' n' x)) => tidy_is w v (rest2 g n g' n' x) w4 hO (rest_lit hla hlb) (rest_ok h h') (by omega))
  have hl1 := woL_len x (lst g n)
  have hl2 := woL_len (-x) (lst g' n')
  rw [lst_length] at hl1 hl2
  have HE := hide' (show rest2 g n g' n' x = woL x (lst g n) ++ woL (-x) (lst g' n') from rfl)
  generalize rest2 g n g' n' x = rr at G7 hrl HE ⊢
  generalize woL x (lst g n) = sa at G5 hl1 HE
  generalize woL (-x) (lst g' n') = sb at G6 hl2 HE
  clear h h' hla hlb hca hcb
  have hB := Below.refl w.heap.size w
  go_enter Try.func7, Try.ntmps7
  go_wp2_with fail
  refine (G1.out _ hB).mono ?_
  rintro e w9 ⟨rfl, b9⟩
  replace hB := hB.trans (b9.mono hB.size)
  clear b9
  go_wp2_with fail
  refine (G2.out _ hB).mono ?_
  rintro e w9 ⟨rfl, b9⟩
  replace hB := hB.trans (b9.mono hB.size)
  clear b9
  go_wp2_with fail
  refine (G3.out _ hB).mono ?_
  rintro e w9 ⟨rfl, b9⟩
  replace hB := hB.trans (b9.mono hB.size)
  clear b9
  go_wp2_with fail
  refine (G4.out _ hB).mono ?_
  rintro e w9 ⟨rfl, b9⟩
  replace hB := hB.trans (b9.mono hB.size)
  clear b9
  go_wp2_with fail
  refine (G5.out _ hB).mono ?_
  rintro e wA ⟨vA, rfl, hOA⟩
  have HA := hide' (own_base hOA hB)
  have hBA := hOA.2
  replace hB := hB.trans (hBA.mono hB.size)
  clear hOA
  go_wp2_with fail
  refine (G6.out _ hB).mono ?_
  rintro e wB ⟨vB, rfl, hOB⟩
  have HB := hide' (own_base hOB hB)
  have hBB := hOB.2
  replace hB := hB.trans (hBB.mono hB.size)
  clear hOB
  have HA2 := hide' (HA.out.later hBB)
  clear hBA hBB HA
  have hEx := HB.out
  have hcsx := hEx.1.2
  rcases hcsx with ⟨rfl, h0⟩ | ⟨gbx, capx, cur, rfl, hgb, hg, hnc, hcm, hcs, htake⟩
  · skip
    have HO9 := hide' (show Own w _ _ (sa ++ sb) from by rw [List.length_eq_zero_iff.1 h0, List.append_nil]; exact HA2.out)
    have hown := HA2.out.1
    clear hEx h0
    go_wp2_with (at_builtin; refine wpList_append_own_none rfl _ _ 23 rfl w.heap.size 3 i0 1 Try.underlying23 hi0 _ _ _ rfl hown rfl ?_)
    clear hown
    have G8 := hide' (G7.out _ _ (by rw [HE.out]; exact HO9.out))
    go_wp2_with fail
    refine G8.out.mono ?_
    rintro e w8 ⟨v8, s8, rfl, hN, hO⟩
    have HN := hide' hN
    have HO := hide' hO
    clear hN hO G8
    go_wp2
    refine bodyPost_ret (v := .tuple #[v8, .int .i64 0]) (by rw [results_tt rfl]; rfl) rfl ?_
    first | exact ⟨v8, rfl, s8, HN.out, HO.out⟩ | exact ⟨v8, s8, rfl, HN.out, HO.out⟩
  · skip
    have hown := HA2.out.1
    have HSR := hide' (own_src hEx rfl)
    have hbz := hEx.2.size
    clear hEx hgb hg hnc hcm hcs htake
    go_wp2_with (at_builtin; refine wpList_append_own _ rfl _ _ 23 rfl w.heap.size 3 i0 (.int .i64 0) 1 8 Try.underlying23 hi0 hz0 hz1 hz2 rfl (by omega) _ _ _ rfl hown ⟨gbx, 0, none⟩ (sb).length capx (iv (sb)) rfl ?qc1 ?qc2 ?qc3 ?qc4 ?qc5 ?qc6 ?_)
    case qc1 => rw [iv_length, Nat.mul_one]
    case qc2 => exact HSR.out
    case qc3 => exact iv_one _
    case qc4 => simp only [maxLen]; (try simp only [List.length_nil]); omega
    case qc5 => (try simp only [List.length_nil]); omega
    case qc6 => exact hbz
    intro v9x w9x hown4 hgrow hnil
    have HO9 := hide' (own_more (s := sa) (t := sb) HA2.out (by first | exact hown4 | (rw [List.length_nil, Nat.zero_add]; exact hown4)) hgrow)
    clear hown hown4 hgrow hnil HSR hbz
    have G8 := hide' (G7.out _ _ (by rw [HE.out]; exact HO9.out))
    go_wp2_with fail
    refine G8.out.mono ?_
    rintro e w8 ⟨v8, s8, rfl, hN, hO⟩
    have HN := hide' hN
    have HO := hide' hO
    clear hN hO G8
    go_wp2
    refine bodyPost_ret (v := .tuple #[v8, .int .i64 0]) (by rw [results_tt rfl]; rfl) rfl ?_
    first | exact ⟨v8, rfl, s8, HN.out, HO.out⟩ | exact ⟨v8, s8, rfl, HN.out, HO.out⟩
set_option maxHeartbeats 4000000 in
set_option maxRecDepth 100000 in
theorem rRes_is (a : Option Addr) (n c : Nat) (g : Nat → Int) (a' : Option Addr) (n' c' : Nat) (g' : Nat → Int) (x : Int) (w : World) (h : LitsAt w a n g) (h' : LitsAt w a' n' g') (hx : -9223372036854775808 ≤ x ∧ x ≤ 9223372036854775807) (hn : n ≤ 2097152) (hn' : n' ≤ 2097152) (hr : rsv g n g' n' x = true) :
    Calls Try.prog 8 #[.slice a n c, .slice a' n' c', .int .i64 x] w fun e w' => ∃ v s, e = .returned (.tuple #[v, .int .i64 0]) ∧ Nrm (rest2 g n g' n' x) s ∧ Own w w' v s := by
  obtain ⟨i0, hi0, hz0, hz1, hz2⟩ := info_parts info_i
  unfold rsv at hr
  simp only [Bool.and_eq_true] at hr
  obtain ⟨⟨⟨⟨hla, hlb⟩, h1⟩, hca⟩, hcb⟩ := hr
  have hx1 := of_decide_eq_true h1
  clear h1
  have hlt : ¬ x < 1 := by omega
  have G1 := hide' (fun w' (hb : Below w.heap.size w w') => Literals_is a n c g w' (h.later hb))
  have G2 := hide' (fun w' (hb : Below w.heap.size w w') => Literals_is a' n' c' g' w' (h'.later hb))
  have G3 := hide' (fun w' (hb : Below w.heap.size w w') => Has_is a n c g x w' (h.later hb))
  have G4 := hide' (fun w' (hb : Below w.heap.size w w') => Has_is a' n' c' g' (-x) w' (h'.later hb))
  rw [hla] at G1
  rw [hlb] at G2
  rw [hca] at G3
  rw [hcb] at G4
  have G5 := hide' (fun w' (hb : Below w.heap.size w w') => rWithout_is a n c g x w' (h.later hb) (by omega))
  have G6 := hide' (fun w' (hb : Below w.heap.size w w') => rWithout_is a' n' c' g' (-x) w' (h'.later hb) (by omega))
  have hrl := rest_len g n g' n' x
  have G7 := hide' (fun v w4 (hO : Own w w4 v (rest2 g n g' n' x)) => show Calls Try.prog 5 #[v] w4 fun e w' => ∃ v s b, e = .returned (.tuple #[v, .bool b, .int .i64 0]) ∧ Nrm (rest2 g n g' n' x) s ∧ Own w w' v s from by
    obtain ⟨va, cap, rfl, hcap, hL⟩ := own_lits hO.1 (rest_ok h h')
    have h9 := rNorm_is va (rest2 g n g' n' x).length cap _ w4 hL (allN_true.2 fun i hi => rest_lit (x := x) hla hlb _ (by simp [List.getD, List.getElem?_eq_getElem hi])) (by omega)
    rw [lst_of] at h9
    refine h9.mono ?_
    rintro e w' ⟨v, s, rfl, hN, hO2, _⟩
    exact ⟨v, s, _, rfl, hN, own_base hO2 hO.2⟩)
  have hl1 := woL_len x (lst g n)
  have hl2 := woL_len (-x) (lst g' n')
  rw [lst_length] at hl1 hl2
  have HE := hide' (show rest2 g n g' n' x = woL x (lst g n) ++ woL (-x) (lst g' n') from rfl)
  generalize rest2 g n g' n' x = rr at G7 hrl HE ⊢
  generalize woL x (lst g n) = sa at G5 hl1 HE
  generalize woL (-x) (lst g' n') = sb at G6 hl2 HE
  clear h h' hla hlb hca hcb
  have hB := Below.refl w.heap.size w
  go_enter Try.func8, Try.ntmps8
  go_wp2_with fail
  refine (G1.out _ hB).mono ?_
  rintro e w9 ⟨rfl, b9⟩
  replace hB := hB.trans (b9.mono hB.size)
  clear b9
  go_wp2_with fail
  refine (G2.out _ hB).mono ?_
  rintro e w9 ⟨rfl, b9⟩
  replace hB := hB.trans (b9.mono hB.size)
  clear b9
  go_wp2_with fail
  refine (G3.out _ hB).mono ?_
  rintro e w9 ⟨rfl, b9⟩
  replace hB := hB.trans (b9.mono hB.size)
  clear b9
  go_wp2_with fail
  refine (G4.out _ hB).mono ?_
  rintro e w9 ⟨rfl, b9⟩
  replace hB := hB.trans (b9.mono hB.size)
  clear b9
  go_wp2_with fail
  refine (G5.out _ hB).mono ?_
  rintro e wA ⟨vA, rfl, hOA⟩
  have HA := hide' (own_base hOA hB)
  have hBA := hOA.2
  replace hB := hB.trans (hBA.mono hB.size)
  clear hOA
  have HN0 := hide' (show Own w wA (.slice none 0 0) [] from ⟨World.ownsRow_nil _ _ _ _, hB⟩)
  clear hBA
  have hEx := HA.out
  have hcsx := hEx.1.2
  rcases hcsx with ⟨rfl, h0⟩ | ⟨gbx, capx, cur, rfl, hgb, hg, hnc, hcm, hcs, htake⟩
  · skip
    have HO9 := hide' (show Own w _ _ ([] ++ sa) from by rw [List.length_eq_zero_iff.1 h0, List.append_nil]; exact HN0.out)
    have hown := HN0.out.1
    clear hEx h0
    go_wp2_with (at_builtin; refine wpList_append_own_none rfl _ _ 23 rfl w.heap.size 3 i0 1 Try.underlying23 hi0 _ _ _ rfl hown rfl ?_)
    clear hown
    have HD := HO9
    clear HO9
    simp only [List.nil_append] at HD
    replace hB := HD.out.2
    go_wp2_with fail
    refine (G6.out _ hB).mono ?_
    rintro e wB ⟨vB, rfl, hOB⟩
    have HB := hide' (own_base hOB hB)
    have hBB := hOB.2
    replace hB := hB.trans (hBB.mono hB.size)
    clear hOB
    have HA2 := hide' (HD.out.later hBB)
    clear hBB HD
    have hEy := HB.out
    have hcsy := hEy.1.2
    rcases hcsy with ⟨rfl, h0⟩ | ⟨gby, capy, cur, rfl, hgb, hg, hnc, hcm, hcs, htake⟩
    · skip
      have HO9 := hide' (show Own w _ _ (sa ++ sb) from by rw [List.length_eq_zero_iff.1 h0, List.append_nil]; exact HA2.out)
      have hown := HA2.out.1
      clear hEy h0
      go_wp2_with (at_builtin; refine wpList_append_own_none rfl _ _ 23 rfl w.heap.size 3 i0 1 Try.underlying23 hi0 _ _ _ rfl hown rfl ?_)
      clear hown
      have G8 := hide' (G7.out _ _ (by rw [HE.out]; exact HO9.out))
      go_wp2_with fail
      refine G8.out.mono ?_
      rintro e w8 ⟨v8, s8, b8, rfl, hN, hO⟩
      have HN := hide' hN
      have HO := hide' hO
      clear hN hO G8
      go_wp2
      refine bodyPost_ret (v := .tuple #[v8, .int .i64 0]) (by rw [results_tt rfl]; rfl) rfl ?_
      first | exact ⟨v8, rfl, s8, HN.out, HO.out⟩ | exact ⟨v8, s8, rfl, HN.out, HO.out⟩
    · skip
      have hown := HA2.out.1
      have HSR := hide' (own_src hEy rfl)
      have hbz := hEy.2.size
      clear hEy hgb hg hnc hcm hcs htake
      go_wp2_with (at_builtin; refine wpList_append_own _ rfl _ _ 23 rfl w.heap.size 3 i0 (.int .i64 0) 1 8 Try.underlying23 hi0 hz0 hz1 hz2 rfl (by omega) _ _ _ rfl hown ⟨gby, 0, none⟩ (sb).length capy (iv (sb)) rfl ?qc1 ?qc2 ?qc3 ?qc4 ?qc5 ?qc6 ?_)
      case qc1 => rw [iv_length, Nat.mul_one]
      case qc2 => exact HSR.out
      case qc3 => exact iv_one _
      case qc4 => simp only [maxLen]; (try simp only [List.length_nil]); omega
      case qc5 => (try simp only [List.length_nil]); omega
      case qc6 => exact hbz
      intro v9y w9y hown4 hgrow hnil
      have HO9 := hide' (own_more (s := sa) (t := sb) HA2.out (by first | exact hown4 | (rw [List.length_nil, Nat.zero_add]; exact hown4)) hgrow)
      clear hown hown4 hgrow hnil HSR hbz
      have G8 := hide' (G7.out _ _ (by rw [HE.out]; exact HO9.out))
      go_wp2_with fail
      refine G8.out.mono ?_
      rintro e w8 ⟨v8, s8, b8, rfl, hN, hO⟩
      have HN := hide' hN
      have HO := hide' hO
      clear hN hO G8
      go_wp2
      refine bodyPost_ret (v := .tuple #[v8, .int .i64 0]) (by rw [results_tt rfl]; rfl) rfl ?_
      first | exact ⟨v8, rfl, s8, HN.out, HO.out⟩ | exact ⟨v8, s8, rfl, HN.out, HO.out⟩
  · skip
    have hown := HN0.out.1
    have HSR := hide' (own_src hEx rfl)
    have hbz := hEx.2.size
    clear hEx hgb hg hnc hcm hcs htake
    go_wp2_with (at_builtin; refine wpList_append_own _ rfl _ _ 23 rfl w.heap.size 3 i0 (.int .i64 0) 1 8 Try.underlying23 hi0 hz0 hz1 hz2 rfl (by omega) _ _ _ rfl hown ⟨gbx, 0, none⟩ (sa).length capx (iv (sa)) rfl ?qc1 ?qc2 ?qc3 ?qc4 ?qc5 ?qc6 ?_)
    case qc1 => rw [iv_length, Nat.mul_one]
    case qc2 => exact HSR.out
    case qc3 => exact iv_one _
    case qc4 => simp only [maxLen]; (try simp only [List.length_nil]); omega
    case qc5 => (try simp only [List.length_nil]); omega
    case qc6 => exact hbz
    intro v9x w9x hown4 hgrow hnil
    have HO9 := hide' (own_more (s := []) (t := sa) HN0.out (by first | exact hown4 | (rw [List.length_nil, Nat.zero_add]; exact hown4)) hgrow)
    clear hown hown4 hgrow hnil HSR hbz
    have HD := HO9
    clear HO9
    simp only [List.nil_append] at HD
    replace hB := HD.out.2
    go_wp2_with fail
    refine (G6.out _ hB).mono ?_
    rintro e wB ⟨vB, rfl, hOB⟩
    have HB := hide' (own_base hOB hB)
    have hBB := hOB.2
    replace hB := hB.trans (hBB.mono hB.size)
    clear hOB
    have HA2 := hide' (HD.out.later hBB)
    clear hBB HD
    have hEy := HB.out
    have hcsy := hEy.1.2
    rcases hcsy with ⟨rfl, h0⟩ | ⟨gby, capy, cur, rfl, hgb, hg, hnc, hcm, hcs, htake⟩
    · skip
      have HO9 := hide' (show Own w _ _ (sa ++ sb) from by rw [List.length_eq_zero_iff.1 h0, List.append_nil]; exact HA2.out)
      have hown := HA2.out.1
      clear hEy h0
      go_wp2_with (at_builtin; refine wpList_append_own_none rfl _ _ 23 rfl w.heap.size 3 i0 1 Try.underlying23 hi0 _ _ _ rfl hown rfl ?_)
      clear hown
      have G8 := hide' (G7.out _ _ (by rw [HE.out]; exact HO9.out))
      go_wp2_with fail
      refine G8.out.mono ?_
      rintro e w8 ⟨v8, s8, b8, rfl, hN, hO⟩
      have HN := hide' hN
      have HO := hide' hO
      clear hN hO G8
      go_wp2
      refine bodyPost_ret (v := .tuple #[v8, .int .i64 0]) (by rw [results_tt rfl]; rfl) rfl ?_
      first | exact ⟨v8, rfl, s8, HN.out, HO.out⟩ | exact ⟨v8, s8, rfl, HN.out, HO.out⟩
    · skip
      have hown := HA2.out.1
      have HSR := hide' (own_src hEy rfl)
      have hbz := hEy.2.size
      clear hEy hgb hg hnc hcm hcs htake
      go_wp2_with (at_builtin; refine wpList_append_own _ rfl _ _ 23 rfl w.heap.size 3 i0 (.int .i64 0) 1 8 Try.underlying23 hi0 hz0 hz1 hz2 rfl (by omega) _ _ _ rfl hown ⟨gby, 0, none⟩ (sb).length capy (iv (sb)) rfl ?qc1 ?qc2 ?qc3 ?qc4 ?qc5 ?qc6 ?_)
      case qc1 => rw [iv_length, Nat.mul_one]
      case qc2 => exact HSR.out
      case qc3 => exact iv_one _
      case qc4 => simp only [maxLen]; (try simp only [List.length_nil]); omega
      case qc5 => (try simp only [List.length_nil]); omega
      case qc6 => exact hbz
      intro v9y w9y hown4 hgrow hnil
      have HO9 := hide' (own_more (s := sa) (t := sb) HA2.out (by first | exact hown4 | (rw [List.length_nil, Nat.zero_add]; exact hown4)) hgrow)
      clear hown hown4 hgrow hnil HSR hbz
      have G8 := hide' (G7.out _ _ (by rw [HE.out]; exact HO9.out))
      go_wp2_with fail
      refine G8.out.mono ?_
      rintro e w8 ⟨v8, s8, b8, rfl, hN, hO⟩
      have HN := hide' hN
      have HO := hide' hO
      clear hN hO G8
      go_wp2
      refine bodyPost_ret (v := .tuple #[v8, .int .i64 0]) (by rw [results_tt rfl]; rfl) rfl ?_
      first | exact ⟨v8, rfl, s8, HN.out, HO.out⟩ | exact ⟨v8, s8, rfl, HN.out, HO.out⟩
end Go.Proofs.Ytnjidhoceacenaa
