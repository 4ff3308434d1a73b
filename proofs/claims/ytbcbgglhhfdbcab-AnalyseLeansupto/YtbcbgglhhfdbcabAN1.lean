/-
  analyse: the reference's literal, place, has, without, set, level.
-/
import Derived.Test.YtbcbgglhhfdbcabAN0
namespace Go.Proofs.Ytbcbgglhhfdbcab
open Go.RowKit
set_option linter.unusedVariables false
set_option linter.unusedSimpArgs false
/-- is it in a list -/
def hasL (l : List Int) (x : Int) : Bool := l.contains x
theorem hasL_iff {l : List Int} {x : Int} : hasL l x = true ↔ x ∈ l := by unfold hasL; simp
/-- each once -/
def ded (l : List Int) : List Int := l.foldl (fun s x => if hasL s x then s else s ++ [x]) []
theorem ded_snoc (l : List Int) (x : Int) : ded (l ++ [x]) = if hasL (ded l) x then ded l else ded l ++ [x] := by unfold ded; rw [List.foldl_append]; rfl
theorem ded_spec (l : List Int) : (ded l).Nodup ∧ (∀ x, x ∈ ded l ↔ x ∈ l) ∧ (ded l).length ≤ l.length := by
  refine snoc_ind (P := fun l => (ded l).Nodup ∧ (∀ x, x ∈ ded l ↔ x ∈ l) ∧ (ded l).length ≤ l.length) ?_ ?_ l
  · exact ⟨List.nodup_nil, fun x => Iff.rfl, Nat.le_refl _⟩
  · intro l a ih
    obtain ⟨h1, h2, h3⟩ := ih
    rw [ded_snoc]
    cases h : hasL (ded l) a with
    | true =>
      rw [if_pos rfl]
      have := hasL_iff.1 h
      refine ⟨h1, fun x => ?_, by simp; omega⟩
      rw [List.mem_append, List.mem_singleton, h2]
      exact ⟨Or.inl, fun q => q.elim id fun e => by rw [e]; exact (h2 a).1 this⟩
    | false =>
      rw [if_neg (by simp)]
      have hn : a ∉ ded l := fun q => by rw [hasL_iff.2 q] at h; cases h
      refine ⟨List.nodup_append.2 ⟨h1, List.nodup_cons.2 ⟨List.not_mem_nil, List.nodup_nil⟩, fun x hx y hy e => by rw [List.mem_singleton] at hy; subst hy; subst e; exact hn hx⟩, fun x => ?_, by simp; omega⟩
      rw [List.mem_append, List.mem_append, h2]
theorem ded_ok {l : List Int} (h : okL l) : okL (ded l) := fun x hx => h x (((ded_spec l).2.1 x).1 hx)
/-- a list without a literal -/
def wo (l : List Int) (x : Int) : List Int := l.filter (fun y => y != x)
theorem wo_snoc (l : List Int) (y x : Int) : wo (l ++ [y]) x = if y != x then wo l x ++ [y] else wo l x := by
  unfold wo; rw [List.filter_append]; cases h : (y != x) <;> simp [List.filter_cons, h]
theorem wo_le (l : List Int) (x : Int) : (wo l x).length ≤ l.length := List.length_filter_le _ _
theorem wo_mem {l : List Int} {x y : Int} : y ∈ wo l x ↔ y ∈ l ∧ y ≠ x := by unfold wo; simp
theorem wo_ok {l : List Int} {x : Int} (h : okL l) : okL (wo l x) := fun y hy => h y (wo_mem.1 hy).1
theorem okL_snoc {l : List Int} {y : Int} (h : okL l) (h1 : -9223372036854775808 ≤ y) (h2 : y ≤ 9223372036854775807) : okL (l ++ [y]) := fun x hx => by
  rcases List.mem_append.1 hx with e | e
  · exact h x e
  · rw [List.mem_singleton] at e; subst e; exact ⟨h1, h2⟩
theorem okL_take {l : List Int} (h : okL l) (k : Nat) : okL (l.take k) := fun x hx => h x (List.mem_of_mem_take hx)
set_option maxHeartbeats 2000000 in
set_option maxRecDepth 100000 in
theorem rlit_is (x : Int) (w : World) :
    Calls Try.prog 66 #[.int .i64 x] w fun e w' => e = .returned (.bool (isLit x)) ∧ w' = w := by
  unfold isLit
  by_cases h0 : x = 0
  · subst h0
    go_enter Try.func66, Try.ntmps66
    go_wp2
    go_ret
    exact ⟨by simp, rfl⟩
  · have e0 : (x != 0) = true := by simp [h0]
    replace h0 := hide' h0
    go_enter Try.func66, Try.ntmps66
    go_wp2
    go_ret
    exact ⟨by have := h0.out; simp [this, bne]; try rfl, rfl⟩
set_option maxHeartbeats 2000000 in
set_option maxRecDepth 100000 in
theorem rplace_is (ma : Option Addr) (mc : Nat) (l : List Mk) (x : Int) (w : World) (h : MsAt w ma l) :
    Calls Try.prog 34 #[.slice ma l.length mc, .int .i64 x] w fun e w' => e = .returned (.int .i64 (plV l x)) ∧ w' = w := by
  obtain ⟨n, hn⟩ : ∃ n, l.length = n := ⟨_, rfl⟩
  have hM := h.1
  have HA := hide' h
  have hP : plV l x = fstN (fun j => decide ((l.getD j default).l = x)) n := by unfold plV; rw [hn]
  rw [hn] at hM ⊢
  have HP := hide' hP
  replace hn := hide' hn
  clear hP h
  go_enter Try.func34, Try.ntmps34
  go_wp2_with fail
  go_loopw [5] (fun vi wr => ∃ k : Nat, k ≤ n ∧ vi = .int .i64 k ∧ (∀ i, i < k → (l.getD i default).l ≠ x) ∧ wr = w) (fun vi _ => n - (intOf vi).toNat)
  case atStart => exact ⟨0, Nat.zero_le _, rfl, fun i hi => absurd hi (by omega), rfl⟩
  case round =>
    obtain ⟨k, hk, rfl, hb, rfl⟩ := hrel
    have HB := hide' hb
    clear hb
    by_cases hlt : k < n
    · have i1 : (k : Int) < (n : Int) := by omega
      have i0 : (0 : Int) ≤ (k : Int) := by omega
      obtain ⟨bq, off, rfl, ⟨ck, _, _⟩, _⟩ := HA.out.el hn.out hlt
      obtain ⟨y, hy⟩ : ∃ y, (l.getD k default).l = y := ⟨_, rfl⟩
      rw [hy] at ck
      have HY := hide' hy
      clear hy
      by_cases hyx : y = x
      · have HF := hide' (show plV l x = (k : Int) from HP.out.trans <| fstN_at (p := fun j => decide ((l.getD j default).l = x)) (by show decide ((l.getD k default).l = x) = true; rw [HY.out]; simp [hyx]) (fun i hi => decide_eq_false (HB.out i hi)) hlt)
        subst hyx
        clear HB
        go_wp2
        go_ret
        exact ⟨(by rw [HF.out]; try rfl), rfl⟩
      · have HN := hide' (show ∀ i, i < k + 1 → (l.getD i default).l ≠ x from fun i hi => by rcases Nat.lt_or_ge i k with e | e; exact HB.out i e; (obtain rfl : i = k := by omega); rw [HY.out]; exact hyx)
        have hb9 : (y == x) = false := by simp [hyx]
        have hyx' := hide' hyx
        clear hyx HB
        go_wp2
        go_roundw
        case rel => exact ⟨k + 1, by omega, by go_num, HN.out, by first | rfl | trivial⟩
        case measure => simp only [intOf]; omega
    · obtain rfl : k = n := by omega
      have i1 : ¬ (k : Int) < (k : Int) := by omega
      have HF := hide' (show plV l x = -1 from HP.out.trans <| fstN_none fun i hi => decide_eq_false (HB.out i hi))
      clear HB
      go_wp2
      go_ret
      exact ⟨(by rw [HF.out]; try rfl), rfl⟩
set_option maxHeartbeats 2000000 in
set_option maxRecDepth 100000 in
theorem rhas_is (a : Option Addr) (c : Nat) (l : List Int) (x : Int) (w : World) (h : LsAt w a l) :
    Calls Try.prog 35 #[.slice a l.length c, .int .i64 x] w fun e w' => e = .returned (.bool (hasL l x)) ∧ w' = w := by
  obtain ⟨n, hn⟩ : ∃ n, l.length = n := ⟨_, rfl⟩
  have hM := h.1
  have HA := hide' h
  rw [hn] at hM ⊢
  replace hn := hide' hn
  clear h
  go_enter Try.func35, Try.ntmps35
  go_wp2_with fail
  go_loopw [5] (fun vi wr => ∃ k : Nat, k ≤ n ∧ vi = .int .i64 k ∧ x ∉ l.take k ∧ wr = w) (fun vi _ => n - (intOf vi).toNat)
  case atStart => exact ⟨0, Nat.zero_le _, rfl, by simp, rfl⟩
  case round =>
    obtain ⟨k, hk, rfl, hb, rfl⟩ := hrel
    have HB := hide' hb
    clear hb
    by_cases hlt : k < n
    · skip
      obtain ⟨bb, off, rfl, ck, hlo, hhi⟩ := HA.out.el hn.out hlt
      obtain ⟨y, hy⟩ : ∃ y, l.getD k 0 = y := ⟨_, rfl⟩
      rw [hy] at ck hlo hhi
      have HY := hide' hy
      clear hy
      have i1 : (k : Int) < (n : Int) := by omega
      have i0 : (0 : Int) ≤ (k : Int) := by omega
      by_cases hyx : y = x
      · have HF := hide' (show hasL l x = true from hasL_iff.2 (by rw [← hyx, ← HY.out]; exact getD_mem (by have := hn.out; omega)))
        subst hyx
        clear HB
        go_wp2
        go_ret
        exact ⟨(by rw [HF.out]; try rfl), rfl⟩
      · have HN := hide' (show x ∉ l.take (k + 1) from by rw [take_snoc l 0 hn.out hlt, HY.out, List.mem_append, List.mem_singleton]; exact fun e => e.elim HB.out (fun e => hyx e.symm))
        have hb9 : (y == x) = false := by simp [hyx]
        have hyx' := hide' hyx
        clear hyx HB
        go_wp2
        go_roundw
        case rel => exact ⟨k + 1, by omega, by go_num, HN.out, by first | rfl | trivial⟩
        case measure => simp only [intOf]; omega
    · obtain rfl : k = n := by omega
      have i1 : ¬ (k : Int) < (k : Int) := by omega
      have HF := hide' (show hasL l x = false from by rw [Bool.eq_false_iff]; exact fun e => HB.out (by rw [take_all l hn.out]; exact hasL_iff.1 e))
      clear HB
      go_wp2
      go_ret
      exact ⟨(by rw [HF.out]; try rfl), rfl⟩
set_option maxHeartbeats 2000000 in
set_option maxRecDepth 100000 in
theorem rwithout_is (a : Option Addr) (c : Nat) (l : List Int) (x : Int) (w : World) (h : LsAt w a l) (hl : l.length ≤ 8796093022208) :
    Calls Try.prog 55 #[.slice a l.length c, .int .i64 x] w fun e w' => ∃ v, e = .returned v ∧ Own w.heap.size w' v (wo l x) ∧ Below w.heap.size w w' := by
  obtain ⟨ii, hii, hiz, his, hib⟩ := info_parts info_i
  rw [show l.length = l.length from rfl] at hl
  have hl9 := hl
  obtain ⟨n, hn⟩ : ∃ n, l.length = n := ⟨_, rfl⟩
  have hM := h.1
  have HA := hide' h
  rw [hn] at hM ⊢
  replace hn := hide' hn
  clear h
  rw [hn.out] at hl9
  clear hl
  go_enter Try.func55, Try.ntmps55
  go_wp2
  go_loopw [5, 6] (fun vo vi wr => ∃ k : Nat, k ≤ n ∧ vi = .int .i64 k ∧ Own w.heap.size wr vo (wo (l.take k) x) ∧ Below w.heap.size w wr) (fun _ vi _ => n - (intOf vi).toNat)
  case atStart => exact ⟨0, Nat.zero_le _, rfl, Own.empty _, below_alloc _⟩
  case round =>
    obtain ⟨k, hk, rfl, hO, hB⟩ := hrel
    by_cases hlt : k < n
    · skip
      obtain ⟨bb, off, rfl, ck, hlo, hhi⟩ := HA.out.el hn.out hlt
      replace ck := below_cell hB ck
      obtain ⟨y, hy⟩ : ∃ y, l.getD k 0 = y := ⟨_, rfl⟩
      rw [hy] at ck hlo hhi
      have HY := hide' hy
      clear hy
      have i1 : (k : Int) < (n : Int) := by omega
      have i0 : (0 : Int) ≤ (k : Int) := by omega
      have e9 := wo_snoc (l.take k) y x
      rw [← HY.out, ← take_snoc l 0 hn.out hlt, HY.out] at e9
      have hm9 : (wo (l.take k) x).length ≤ k := Nat.le_trans (wo_le _ _) (by rw [List.length_take]; omega)
      obtain ⟨s, hs⟩ : ∃ s, wo (l.take k) x = s := ⟨_, rfl⟩
      rw [hs] at hO e9 hm9
      clear hs
      cases e : (y != x)
      · rw [e, if_neg (by simp)] at e9
        have HN := hide' e9
        clear e9
        go_wp2
        go_roundw
        case rel => exact ⟨k + 1, by omega, by go_num, by rw [HN.out]; exact hO, hB⟩
        case measure => simp only [intOf]; omega
      · rw [e, if_pos rfl] at e9
        have HN := hide' e9
        clear e9
        obtain ⟨m, hm⟩ : ∃ m, s.length = m := ⟨_, rfl⟩
        rw [hm] at hm9
        obtain ⟨wB, hwB⟩ : ∃ wB, wr.alloc (.cells #[.int .i64 y] 3) = wB := ⟨_, rfl⟩
        have hnew := heap_alloc_new wr (.cells #[.int .i64 y] 3)
        have b3 := below_alloc (w := wr) (.cells #[.int .i64 y] 3)
        rw [hwB] at hnew b3
        have hO3 : Own w.heap.size wB _ s := hO.later b3
        unfold Own at hO3
        rw [hm] at hO3
        have s3 := b3.size
        have s4 := hB.size
        have hbB : w.heap.size ≤ wB.heap.size := by omega
        have hbl : (m + 1) * 8 ≤ 140737488355328 := by omega
        have hml : m + 1 ≤ maxLen := by simp only [maxLen]; omega
        have hrow := fun k hk => (hO3.lt k hk)
        have hO3 := hide' hO3
        have HMM := hide' hm
        have HBE := hide' (And.intro hB b3)
        clear hO hm s4 hB b3
        go_wp2_with (at_builtin; (try rw [hwB]); refine wpList_append_lies _ (by rfl) _ _ _ (by rfl) (w.heap.size) 3 ii _ 1 8 Try.underlying26 hii hiz his hib rfl (by omega) _ m (iv s) (by rfl) hO3.out ⟨wr.heap.size, 0, none⟩ 1 1 [.int .i64 y] (by rfl) (by rfl) (World.news_of_block (cs := #[.int .i64 y]) (t := 3) (fr := (0, 0)) hnew) (by simp [Value.oneCell']) (by omega) hml hbl hbB wB.heap.size rfl ?_)
        intro gb cap w9 hown4 hgrow hat hlt4
        have hO : Own (w.heap.size) w9 (.slice (some ⟨gb, 0, none⟩) (m + 1) cap) (s ++ [y]) := by unfold Own; rw [List.length_append, HMM.out, iv_append]; exact hown4
        have hB3 := HBE.out.1.trans (HBE.out.2.mono HBE.out.1.size)
        have hB := hB3.trans (below_grown hB3.size (fun k hk => (hrow k hk).1) hgrow)
        have hm := HMM.out
        have hgb : w.heap.size ≤ gb := by rcases hat with h | h; (exact (hrow _ h).1); omega
        clear hgrow hat hnew hB3 hrow s3 hbB hbl hwB hO3 HBE HMM hown4 hlt4 hml
        have I1 := hide' (And.intro hO hB)
        clear hO hB hgb
        go_wp2
        go_roundw
        case rel => exact ⟨k + 1, by omega, by go_num, by rw [HN.out]; exact I1.out.1, I1.out.2⟩
        case measure => simp only [intOf]; omega
    · obtain rfl : k = n := by omega
      have i1 : ¬ (k : Int) < (k : Int) := by omega
      have I1 := hide' (And.intro hO hB)
      rw [take_all l hn.out] at I1
      clear hO hB
      go_wp2
      go_ret
      exact ⟨_, rfl, I1.out.1, I1.out.2⟩
set_option maxHeartbeats 2000000 in
set_option maxRecDepth 100000 in
theorem rset_is (a : Option Addr) (c : Nat) (l : List Int) (w : World) (h : LsAt w a l) (hl : l.length ≤ 8796093022208) :
    Calls Try.prog 47 #[.slice a l.length c] w fun e w' => ∃ v, e = .returned v ∧ Own w.heap.size w' v (ded l) ∧ Below w.heap.size w w' := by
  obtain ⟨ii, hii, hiz, his, hib⟩ := info_parts info_i
  rw [show l.length = l.length from rfl] at hl
  have hl9 := hl
  obtain ⟨n, hn⟩ : ∃ n, l.length = n := ⟨_, rfl⟩
  have hM := h.1
  have HA := hide' h
  rw [hn] at hM ⊢
  replace hn := hide' hn
  clear h
  rw [hn.out] at hl9
  clear hl
  go_enter Try.func47, Try.ntmps47
  go_wp2
  go_loopw [3, 4] (fun vo vi wr => ∃ k : Nat, k ≤ n ∧ vi = .int .i64 k ∧ Own w.heap.size wr vo (ded (l.take k)) ∧ Below w.heap.size w wr) (fun _ vi _ => n - (intOf vi).toNat)
  case atStart => exact ⟨0, Nat.zero_le _, rfl, Own.empty _, below_alloc _⟩
  case round =>
    obtain ⟨k, hk, rfl, hO, hB⟩ := hrel
    by_cases hlt : k < n
    · skip
      obtain ⟨bb, off, rfl, ck, hlo, hhi⟩ := HA.out.el hn.out hlt
      replace ck := below_cell hB ck
      obtain ⟨y, hy⟩ : ∃ y, l.getD k 0 = y := ⟨_, rfl⟩
      rw [hy] at ck hlo hhi
      have HY := hide' hy
      clear hy
      have i1 : (k : Int) < (n : Int) := by omega
      have i0 : (0 : Int) ≤ (k : Int) := by omega
      have e9 := ded_snoc (l.take k) y
      rw [← HY.out, ← take_snoc l 0 hn.out hlt, HY.out] at e9
      have hm9 : (ded (l.take k)).length ≤ k := Nat.le_trans (ded_spec _).2.2 (by rw [List.length_take]; omega)
      have ho9 : okL (ded (l.take k)) := ded_ok (okL_take HA.out.2.1 k)
      obtain ⟨s, hs⟩ : ∃ s, ded (l.take k) = s := ⟨_, rfl⟩
      rw [hs] at hO e9 hm9 ho9
      clear hs
      obtain ⟨av, cv, rfl, _, hsl⟩ := hO.ls ho9 (by omega)
      have GH := hide' (rhas_is av cv s y wr hsl)
      clear hsl ho9
      obtain ⟨m, hm⟩ : ∃ m, s.length = m := ⟨_, rfl⟩
      rw [hm] at hm9 GH hO ⊢
      cases e : hasL s y
      · rw [e, if_neg (by simp)] at e9
        have HN := hide' e9
        rw [e] at GH
        clear e9 e
        go_wp2_with fail
        refine (GH.out).mono ?_
        rintro e w1 ⟨rfl, hw9⟩
        rw [hw9]
        clear hw9
        obtain ⟨wB, hwB⟩ : ∃ wB, wr.alloc (.cells #[.int .i64 y] 3) = wB := ⟨_, rfl⟩
        have hnew := heap_alloc_new wr (.cells #[.int .i64 y] 3)
        have b3 := below_alloc (w := wr) (.cells #[.int .i64 y] 3)
        rw [hwB] at hnew b3
        have hO3 : Own w.heap.size wB _ s := hO.later b3
        unfold Own at hO3
        rw [hm] at hO3
        have s3 := b3.size
        have s4 := hB.size
        have hbB : w.heap.size ≤ wB.heap.size := by omega
        have hbl : (m + 1) * 8 ≤ 140737488355328 := by omega
        have hml : m + 1 ≤ maxLen := by simp only [maxLen]; omega
        have hrow := fun k hk => (hO3.lt k hk)
        have hO3 := hide' hO3
        have HMM := hide' hm
        have HBE := hide' (And.intro hB b3)
        clear hO hm s4 hB b3
        go_wp2_with (at_builtin; (try rw [hwB]); refine wpList_append_lies _ (by rfl) _ _ _ (by rfl) (w.heap.size) 3 ii _ 1 8 Try.underlying26 hii hiz his hib rfl (by omega) _ m (iv s) (by rfl) hO3.out ⟨wr.heap.size, 0, none⟩ 1 1 [.int .i64 y] (by rfl) (by rfl) (World.news_of_block (cs := #[.int .i64 y]) (t := 3) (fr := (0, 0)) hnew) (by simp [Value.oneCell']) (by omega) hml hbl hbB wB.heap.size rfl ?_)
        intro gb cap w9 hown4 hgrow hat hlt4
        have hO : Own (w.heap.size) w9 (.slice (some ⟨gb, 0, none⟩) (m + 1) cap) (s ++ [y]) := by unfold Own; rw [List.length_append, HMM.out, iv_append]; exact hown4
        have hB3 := HBE.out.1.trans (HBE.out.2.mono HBE.out.1.size)
        have hB := hB3.trans (below_grown hB3.size (fun k hk => (hrow k hk).1) hgrow)
        have hm := HMM.out
        have hgb : w.heap.size ≤ gb := by rcases hat with h | h; (exact (hrow _ h).1); omega
        clear hgrow hat hnew hB3 hrow s3 hbB hbl hwB hO3 HBE HMM hown4 hlt4 hml
        have I1 := hide' (And.intro hO hB)
        clear hO hB hgb
        go_wp2
        go_roundw
        case rel => exact ⟨k + 1, by omega, by go_num, by rw [HN.out]; exact I1.out.1, I1.out.2⟩
        case measure => simp only [intOf]; omega
      · rw [e, if_pos rfl] at e9
        have HN := hide' e9
        rw [e] at GH
        clear e9 e
        go_wp2_with fail
        refine (GH.out).mono ?_
        rintro e w1 ⟨rfl, hw9⟩
        rw [hw9]
        clear hw9
        go_wp2
        go_roundw
        case rel => exact ⟨k + 1, by omega, by go_num, by rw [HN.out]; exact hO, hB⟩
        case measure => simp only [intOf]; omega
    · obtain rfl : k = n := by omega
      have i1 : ¬ (k : Int) < (k : Int) := by omega
      have I1 := hide' (And.intro hO hB)
      rw [take_all l hn.out] at I1
      clear hO hB
      go_wp2
      go_ret
      exact ⟨_, rfl, I1.out.1, I1.out.2⟩
set_option maxHeartbeats 2000000 in
set_option maxRecDepth 100000 in
theorem rlevel_is (ma : Option Addr) (mc : Nat) (M : List Mk) (x : Int) (w : World) (h : MsAt w ma M) (hx : -9223372036854775808 < x ∧ x ≤ 9223372036854775807) (p : Nat) (hp : plV M (-x) = p) (hl : p < M.length) :
    Calls Try.prog 48 #[.slice ma M.length mc, .int .i64 x] w fun e w' => e = .returned (.int .i64 (M.getD p default).v) ∧ w' = w := by
  have GP := hide' (rplace_is ma mc M (-x) w h)
  rw [hp] at GP
  have hw9 := wrap_neg hx.1 hx.2
  have hw8 := wrap_neg0 hx.1 hx.2
  obtain ⟨bq, off, rfl, ⟨_, ck, _⟩, _⟩ := h.el rfl hl
  obtain ⟨n, hn⟩ : ∃ n, M.length = n := ⟨_, rfl⟩
  rw [hn] at hl GP ⊢
  obtain ⟨y, hy⟩ : ∃ y, (M.getD p default).v = y := ⟨_, rfl⟩
  rw [hy] at ck ⊢
  replace hx := hide' hx
  clear hy hn h hp
  have i1 : (p : Int) < (n : Int) := by omega
  have i0 : (0 : Int) ≤ (p : Int) := by omega
  go_enter Try.func48, Try.ntmps48
  go_wp2_with fail
  refine (GP.out).mono ?_
  rintro e w1 ⟨rfl, hw9⟩
  rw [hw9]
  clear hw9
  go_wp2
  go_ret
  exact ⟨rfl, rfl⟩
end Go.Proofs.Ytbcbgglhhfdbcab
