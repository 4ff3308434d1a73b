/-
  clauses: Clone, SortFunc and Compact of a clause; tidy.
-/
import Derived.Test.YtnjidhoceacenaaCLE
namespace Go.Proofs.Ytnjidhoceacenaa
open Go.RowKit
set_option linter.unusedVariables false
set_option linter.unusedSimpArgs false
theorem lits_of {s : List Int} (h : ∀ z ∈ s, isLit z = true) (ho : okL s) : ∀ z ∈ s, -9223372036854775808 < z ∧ z ≤ 9223372036854775807 := fun z hz => by
  have h1 := h z hz
  have h2 := ho z hz
  unfold isLit at h1
  simp at h1
  omega
set_option maxHeartbeats 4000000 in
set_option maxRecDepth 100000 in
theorem clone_is (a : Option Addr) (n c : Nat) (g : Nat → Int) (w : World) (h : LitsAt w a n g) (hn : n ≤ 4194304) :
    Calls Try.prog 13 #[.slice a n c] w fun e w' => ∃ v, e = .returned v ∧ Own w w' v (lst g n) := by
  have hqn : ∀ (w : World) (a : Option Addr) (n c n' c' : Nat), (binOp .eql 23 (.slice a n c) (.slice none n' c')).run Try.prog w = .ok (.bool a.isNone) w := fun w a n c n' c' => Lib.run_eql_slice_nil w _ _ a n c n' c' Try.underlying23
  obtain ⟨i0, hi0, hz0, hz1, hz2⟩ := info_parts info_i
  cases a with
  | none =>
    have h0 : n = 0 := by by_cases e : n = 0; (exact e); obtain ⟨b, off, e1, _⟩ := h.2.2 (by omega); cases e1
    subst h0
    clear h
    go_enter Try.func13, Try.ntmps13
    go_wp2
    go_ret
    exact ⟨_, rfl, World.ownsRow_nil _ _ _ _, Below.refl _ _⟩
  | some x =>
    have hc : ∀ j u, (iv (lst g n))[j]? = some u → w.cell? (x.add j) = some u := fun j u hj => by
      have hj1 : j < n := by have := (List.getElem?_eq_some_iff.1 hj).1; rwa [iv_length, lst_length] at this
      obtain ⟨b, off, e1, hcc⟩ := h.2.2 (by omega)
      injection e1 with e1
      subst e1
      rw [Addr.add_lit, hcc j hj1, ← hj, iv_at (z := g j)]
      rw [List.getElem?_eq_getElem (by rw [lst_length]; exact hj1), lst_get]
    have A := hide' hc
    clear hc h
    go_enter Try.func13, Try.ntmps13
    go_wp2_with (at_builtin; refine wpList_append_own _ rfl _ _ 23 rfl w.heap.size 3 i0 (.int .i64 0) 1 8 Try.underlying23 hi0 hz0 hz1 hz2 rfl (by omega) _ _ _ rfl (World.ownsRow_made w #[] 0 (Nat.le_refl _) (Nat.zero_le _) (by simp)) x n c (iv (lst g n)) rfl ?qc1 ?qc2 ?qc3 ?qc4 ?qc5 ?qc6 ?_)
    case qc1 => rw [iv_length, lst_length, Nat.mul_one]
    case qc2 => intro j u hj; exact Lib.cell?_alloc_some _ (A.out j u hj)
    case qc3 => exact iv_one _
    case qc4 => simp only [maxLen]; omega
    case qc5 => omega
    case qc6 => simp
    intro v' w1 hown hgrow hnil
    have I1 := hide' (show Own w w1 v' (lst g n) from ⟨(by rw [lst_length]; simpa using hown), ((Below.refl _ w).alloc (Nat.le_refl _) _).grown hgrow (by simp) (by intro k hk; simp [Value.ownBlock] at hk; omega)⟩)
    clear hown hgrow hnil
    go_wp2
    go_ret
    exact ⟨v', rfl, I1.out⟩
set_option maxHeartbeats 4000000 in
set_option maxRecDepth 100000 in
theorem ins_none (w : World) :
    Calls Try.prog 48 #[.slice none 0 0, .int .i64 0, .int .i64 0, .func (.func 28) #[] #[]] w fun e w' => e = .returned (.tuple #[]) ∧ w' = w := by
  go_enter Try.func48, Try.ntmps48
  go_wp2
  refine wp_loop_rounds 1 ?_
  rw [rounds_succ]
  go_wp2
  go_end0
  exact ⟨rfl, rfl⟩
set_option maxHeartbeats 4000000 in
set_option maxRecDepth 100000 in
theorem pdq_none (w : World) :
    Calls Try.prog 40 #[.slice none 0 0, .int .i64 0, .int .i64 0, .int .i64 0, .func (.func 28) #[] #[]] w fun e w' => e = .returned (.tuple #[]) ∧ w' = w := by
  have H := hide' (ins_none w)
  go_enter Try.func40, Try.ntmps40
  go_wp2
  refine wp_loop_rounds 1 ?_
  rw [rounds_succ]
  go_wp2_with fail
  refine H.out.mono ?_
  rintro e w1 ⟨rfl, rfl⟩
  go_wp2
  (try simp only [Exit.inBlock, Exit.then])
  refine bodyPost_ret (results_none rfl _ _ _) rfl ?_
  exact ⟨rfl, rfl⟩
set_option maxHeartbeats 4000000 in
set_option maxRecDepth 100000 in
theorem sortF_none (w : World) :
    Calls Try.prog 27 #[.slice none 0 0, .func (.func 28) #[] #[]] w fun e w' => e = .returned (.tuple #[]) ∧ w' = w := by
  have H := hide' (pdq_none w)
  have L := hide' (Any.bits_Len Try.laysLen 0 w (by omega) (by omega))
  change Hid (Calls Try.prog 41 _ _ _) at L
  go_enter Try.func27, Try.ntmps27
  go_wp2_with fail
  refine L.out.mono ?_
  rintro e w1 ⟨rfl, rfl⟩
  go_wp2_with fail
  refine H.out.mono ?_
  rintro e w1 ⟨rfl, rfl⟩
  go_wp2
  go_end0
  exact ⟨rfl, rfl⟩
theorem cmpV (blk n : Nat) (w : World) : CmpLays1 Try.prog 28 #[] encL cfV blk 0 n w := fun m os dk hs x y =>
  (byAtom_is x.1 y.1 x.2 y.2 _).mono fun e w' h => by
    obtain ⟨h1, o, h2⟩ := h
    exact ⟨h1, 0, #[o], by rw [h2, Sort.alloc_eq_grow]; rfl⟩
theorem bits62 (n : Nat) (h : n < 4611686018427387904) : Lib.bitLen n < 4611686018427387904 := Nat.lt_of_le_of_lt (Lib.bitLen_le n 62 (by omega) (by omega)) (by omega)
set_option maxHeartbeats 4000000 in
set_option maxRecDepth 100000 in
theorem sortF_is (gb cap : Nat) (d : Array LitV) (w : World) (hH : Sort.Holds encL w gb 0 d) (hb : gb < w.heap.size) (hsz : d.size < 4611686018427387904) :
    Calls Try.prog 27 #[.slice (some ⟨gb, 0, none⟩) d.size cap, .func (.func 28) #[] #[]] w fun e w' => e = .returned (.tuple #[]) ∧ ∃ d' n os, Sort.PermIn 0 d.size d d' ∧ Sort.SortedIn (ltOf cfV) 0 d.size d' ∧ w' = sortWorld encL w gb 0 n d' os := by
  have eg : ∀ args w, (callFunc 28 args).run Try.prog w = .ok (.enter 28 args) w := enters_of Try.func28 (by kernel_rfl) rfl
  have hp := Any.pdqsortCmpFunc_all Try.laysPdq encL cfV 28 #[] swoV gb 0 cap d w eg (cmpV gb d.size w) ⟨fun _ => rfl, hH, hb⟩ (d.size + 1) 0 d.size (Lib.bitLen d.size) d w (by omega) rfl (SW.start hH) (Nat.zero_le _) (Nat.le_refl _) hsz (bits62 _ hsz) (Or.inl rfl)
  change Calls Try.prog 40 _ _ _ at hp
  have HP := hide' hp
  have L := Any.bits_Len Try.laysLen (d.size : Int) w (by omega) (by omega)
  rw [Int.toNat_natCast] at L
  change Calls Try.prog 41 _ _ _ at L
  have L9 := hide' L
  clear L
  have L := L9
  clear L9
  have hS := Sort.pdq_sorts (ltOf cfV) swoV d 0 d.size (Lib.bitLen d.size) true true (Nat.zero_le _) (Nat.le_refl _) (Or.inl rfl)
  generalize Sort.pdq (ltOf cfV) d 0 d.size (Lib.bitLen d.size) true true = d9 at HP hS
  have HS := hide' hS
  generalize Lib.bitLen d.size = bl at HP L
  have wr : IntKind.u64.wrap (d.size : Int) = d.size := by simp [IntKind.wrap, IntKind.bits, IntKind.signed]; omega
  have HK := hide' (show ∀ n os, ∃ d' n' os', Sort.PermIn 0 d.size d d' ∧ Sort.SortedIn (ltOf cfV) 0 d.size d' ∧ sortWorld encL w gb 0 n d9 os = sortWorld encL w gb 0 n' d' os' from fun n os => ⟨d9, n, os, HS.out.1, HS.out.2, rfl⟩)
  clear hS hp hH HS
  go_enter Try.func27, Try.ntmps27
  go_wp2_with fail
  refine L.out.mono ?_
  rintro e w1 ⟨rfl, rfl⟩
  go_wp2_with fail
  refine HP.out.mono ?_
  rintro e w1 ⟨rfl, n, os, rfl⟩
  go_wp2
  go_end0
  exact ⟨rfl, HK.out n os⟩
set_option maxHeartbeats 4000000 in
set_option maxRecDepth 100000 in
theorem tidy_is (w0 : World) (v : Value) (s : List Int) (w : World) (hO : Own w0 w v s) (hl : ∀ z ∈ s, isLit z = true) (ho : okL s) (hn : s.length ≤ 9223372036854) :
    Calls Try.prog 12 #[v] w fun e w' => ∃ v' s', e = .returned v' ∧ Nrm s s' ∧ Own w0 w' v' s' := by
  have hv := lits_of hl ho
  have hcases := hO.1.2
  rcases hcases with ⟨rfl, h0⟩ | ⟨gb, cap, cur, rfl, hgb, hg, hnc, hcm, hcs, htake⟩
  · obtain rfl := List.length_eq_zero_iff.1 h0
    have H := hide' (sortF_none w)
    have HO := hide' hO
    clear hO hl ho hn hv h0
    have HC : Hid (∀ w, Calls Try.prog 29 #[.slice none 0 0] w fun e w' => e = .returned (.slice none 0 0) ∧ w' = w) := hide' (fun w => by
      go_enter Try.func29, Try.ntmps29
      go_wp2
      go_ret
      exact ⟨rfl, rfl⟩)
    go_enter Try.func12, Try.ntmps12
    go_wp2_with fail
    refine H.out.mono ?_
    rintro e w1 ⟨rfl, rfl⟩
    go_wp2_with fail
    refine (HC.out _).mono ?_
    rintro e w1 ⟨rfl, rfl⟩
    go_wp2
    go_ret
    exact ⟨_, [], rfl, ⟨List.Pairwise.nil, fun x => Iff.rfl⟩, HO.out⟩
  · skip
    have hgl : gb < w.heap.size := (Array.getElem?_eq_some_iff.1 hg).1
    have hlv : (toV s hv).toArray.size = s.length := by rw [List.size_toArray, ← unV_length, unV_toV]
    have HS := sortF_is gb cap (toV s hv).toArray w (holds_ownV hO rfl hv) hgl (by omega)
    rw [hlv] at HS
    have HS := hide' HS
    have HC := hide' (fun (d' : Array LitV) (n : Nat) (os : Array Obj) (h1 : Sort.PermIn 0 s.length (toV s hv).toArray d') (h2 : Sort.SortedIn (ltOf cfV) 0 s.length d') => show ∃ t : List Int, Nrm s (Lib.compactUpTo t.toArray t.toArray.size) ∧ t.length = s.length ∧ Own w0 (sortWorld encL w gb 0 n d' os) (.slice (some ⟨gb, 0, none⟩) s.length cap) t from by
      have hsz : d'.size = s.length := by rw [h1.1]; exact hlv
      have hpm : (unV d'.toList).Perm s := by
        have h3 := h1.2.2
        have e1 : d'.extract 0 s.length = d' := by rw [← hsz]; simp
        have e2 : (toV s hv).toArray.extract 0 s.length = (toV s hv).toArray := by rw [← hlv]; simp
        rw [e1, e2] at h3
        have h4 := h3.map (fun x : LitV => x.1)
        have e3 := unV_toV s hv
        unfold unV at e3 ⊢
        simp only [List.toList_toArray] at h4
        rw [e3] at h4
        exact h4
      have hl2 : (unV d'.toList).length = s.length := hpm.length_eq
      refine ⟨unV d'.toList, compact_is hpm (fun i j hij hj => ?_), hl2, ?_⟩
      · have hj2 : j < s.length := by rw [List.size_toArray, hl2] at hj; exact hj
        have h5 := h2 i j (Nat.zero_le _) hij hj2
        rw [ltV] at h5
        rw [arr_map_get d' j (by omega), arr_map_get d' i (by omega)]
        exact of_decide_eq_false h5
      · unfold sortWorld
        rw [putRow_un]
        exact own_sorted hO rfl hl2)
    have HC2 := hide' (fun (t : List Int) (w1 : World) (h : Own w0 w1 (.slice (some ⟨gb, 0, none⟩) s.length cap) t) (hl : t.length = s.length) => show Calls Try.prog 29 #[.slice (some ⟨gb, 0, none⟩) s.length cap] w1 fun e w' => ∃ v', e = .returned v' ∧ Own w0 w' v' (Lib.compactUpTo t.toArray t.toArray.size) from by
      have h3 := AnyE.slices_Compact Try.laysCompact (Value.int .i64) (fun _ => rfl) (EqlAt.intD _ _ _) (NeqAt.intD _ _ _) 0 (fun w => Try.zeroValue3 w) gb 0 cap t.toArray w1 (holds_own h hl) (by simp; omega) (by simp; omega)
      change Calls Try.prog 29 _ _ _ at h3
      rw [show t.toArray.size = s.length from by simp [hl]] at h3 ⊢
      refine h3.mono ?_
      rintro e w' ⟨rfl, q, rfl⟩
      have hcl := compact_le t.toArray
      rw [show t.toArray.size = s.length from by simp [hl]] at hcl
      refine ⟨_, rfl, ?_⟩
      have h9 := own_sorted (m := q) (os := #[]) (ts := Lib.compactUpTo t.toArray s.length ++ List.replicate (s.length - (Lib.compactUpTo t.toArray s.length).length) 0) h hl (by rw [List.length_append, List.length_replicate]; omega)
      rw [Sort.grow_empty] at h9
      exact own_cut h9 (by rw [List.length_append, List.length_replicate]; omega))
    clear hO
    have HH := hide' (And.intro hcs htake)
    clear hcs htake hg
    obtain ⟨m, hm⟩ : ∃ m, s.length = m := ⟨_, rfl⟩
    simp only [hm] at HS HC HC2 hnc hn ⊢
    clear HH hlv
    go_enter Try.func12, Try.ntmps12
    go_wp2_with fail
    refine HS.out.mono ?_
    rintro e w1 ⟨rfl, d', n, os, h1, h2, rfl⟩
    obtain ⟨t, hN, htl, hO⟩ := HC.out d' n os h1 h2
    have H3 := hide' (HC2.out t _ hO htl)
    have HN := hide' hN
    clear h1 h2 hO hN HC HC2 HS
    generalize sortWorld encL w gb 0 n d' os = w9 at H3 ⊢
    go_wp2_with fail
    refine H3.out.mono ?_
    rintro e w1 ⟨v', rfl, hO⟩
    have HO := hide' hO
    clear hO
    go_wp2
    go_ret
    exact ⟨v', _, rfl, HN.out, HO.out⟩
end Go.Proofs.Ytnjidhoceacenaa
