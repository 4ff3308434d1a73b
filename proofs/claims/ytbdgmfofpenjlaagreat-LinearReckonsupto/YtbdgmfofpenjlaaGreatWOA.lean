/-
  Layer 6: Vars of both; the law's sameInts.
-/
import Derived.Test.YtbdgmfofpenjlaaGreatWO5
import Derived.Test.YtbdgmfofpenjlaaGreatWN11
namespace Go.Proofs.YtbdgmfofpenjlaaGreat
open Go.RowKit
set_option linter.unusedVariables false
set_option linter.unusedSimpArgs false

/-- an answer that is a list of numbers -/
def IAns (w : World) (zs : List Int) (e : Ending) (w' : World) : Prop := ∃ a c, e = .returned (.slice a zs.length c) ∧ Below w.heap.size w w' ∧ IAt w' a zs ∧ zs.length ≤ c
theorem LInv.ans {w : World} {zs : List Int} {vo : Value} {wr : World} (h : LInv w zs vo wr) : IAns w zs (.returned vo) wr := by
  obtain ⟨a, c, rfl, hc, hI⟩ := own_ints h.1
  exact ⟨a, c, rfl, h.2, hI, hc⟩
theorem IAns.from {w W : World} {zs : List Int} {e : Ending} {w' : World} (h : IAns W zs e w') (hB : Below w.heap.size w W) : IAns w zs e w' := by
  obtain ⟨a, c, he, hb, r⟩ := h
  exact ⟨a, c, he, hB.trans (hb.mono hB.size), r⟩
theorem vs_fo {L : List Mo} {l : Fo} (h : fo L = l) : vs L = l.map (·.1) := by
  rw [← h]
  unfold vs fo
  rw [List.map_map]
  rfl

set_option maxHeartbeats 4000000 in
set_option maxRecDepth 100000 in
theorem lVars_is (a : Option Addr) (ca : Nat) (L : List Mo) (w : World) (hm : L.length ≤ 1048576) (G0 : Calls Tryz.prog 5 #[.slice a L.length ca] w (FAns w (nfm (fo L)))) :
    Calls Tryz.prog 15 #[.slice a L.length ca] w (IAns w ((nfm (fo L)).map (·.1))) := by
  obtain ⟨i0, hi0, hz0, hz1, hz2⟩ := info_parts info_int
  have hln := nfm_length (fo L)
  rw [fo_length] at hln
  have G := hide' G0
  clear G0
  obtain ⟨T, hT⟩ : ∃ T, nfm (fo L) = T := ⟨_, rfl⟩
  rw [hT] at G hln ⊢
  clear hT
  obtain ⟨ZZ, hZZ⟩ : ∃ ZZ, T.map (·.1) = ZZ := ⟨_, rfl⟩
  rw [hZZ]
  replace hZZ := hide' hZZ
  go_enter Tryz.func15, Tryz.ntmps15
  go_wp2_with fail
  refine G.out.mono ?_
  rintro e w1 ⟨a1, c1, R, rfl, b1, s1, e1, f1⟩
  have HV := hide' (show vs R = ZZ by rw [vs_fo f1]; exact hZZ.out)
  have hlR : R.length ≤ 1048576 := by rw [← fo_length R, f1]; omega
  have hF := s1.lies
  have hcR := s1.len
  clear s1 e1 f1 G hln
  go_wp2_with fail
  go_loopw [3, 9] (fun vo vi wr => ∃ k : Nat, k ≤ R.length ∧ vi = .int .i64 k ∧ LInv w1 (vs (R.take k)) vo wr) (fun _ vi _ => R.length - (intOf vi).toNat)
  case atStart => exact ⟨0, Nat.zero_le _, rfl, World.ownsRow_nil _ _ _ _, Below.refl _ _⟩
  case round =>
    obtain ⟨k, hk, rfl, hO, hB⟩ := hrel
    by_cases hlt : k < R.length
    · skip
      obtain ⟨p, hp⟩ : ∃ p, R[k]? = some p := ⟨R[k], List.getElem?_eq_getElem hlt⟩
      obtain ⟨bb, off, rfl, hb, hcell⟩ := hF (by intro e; rw [e] at hlt; simp at hlt)
      obtain ⟨c0, d1, d2, d3⟩ := hcell k p hp
      replace c0 := below_cell hB c0
      replace d1 := below_cell hB d1
      replace d2 := below_cell hB d2
      replace d3 := below_cell hB d3
      obtain ⟨t1, t2⟩ := take_split hp
      have hv : vs (R.take (k + 1)) = vs (R.take k) ++ [p.1] := by rw [t1]; unfold vs; rw [List.map_append]; rfl
      obtain ⟨x, q⟩ := p
      simp only at c0 d1 d2 d3 hv
      clear t1 t2 hp hcell
      have i1 : (0 : Int) ≤ (k : Int) := by omega
      have i2 : (k : Int) < (R.length : Int) := by omega
      obtain ⟨zs, hzs⟩ : ∃ zs, vs (R.take k) = zs := ⟨_, rfl⟩
      rw [hzs] at hO
      have hzl : zs.length ≤ 2097152 := by rw [← hzs, vs_length, List.length_take]; omega
      obtain ⟨wM, hwM⟩ : ∃ wM, wr.alloc (.cells #[.int .i64 x, .bool q.s, .slice q.a q.n q.c, .slice q.b q.m q.e] 41) = wM := ⟨_, rfl⟩
      have bM : Below wr.heap.size wr wM := by subst hwM; exact below_alloc _
      have a0 : wM.cell? ⟨wr.heap.size, 0, none⟩ = some (.int .i64 x) := by subst hwM; go_simp
      replace hO := own_below hO bM
      replace hB := hB.trans (bM.mono hB.size)
      obtain ⟨wB, hwB⟩ : ∃ wB, wM.alloc (.cells #[.int .i64 x] 3) = wB := ⟨_, rfl⟩
      have hnew := heap_alloc_new wM (.cells #[.int .i64 x] 3)
      have b3 := below_alloc (w := wM) (.cells #[.int .i64 x] 3)
      rw [hwB] at hnew b3
      have hO3 := own_below hO b3
      have s3 := b3.size
      have s4 := hB.size
      have hbB : w1.heap.size ≤ wB.heap.size := by omega
      have hbl : (zs.length + 1) * 8 ≤ 140737488355328 := by omega
      have hrow := fun k hk => (hO.lt k hk)
      go_wp2_with (at_builtin; (try rw [hwM]); (try rw [hwB]); refine wpList_append_lies _ (by rfl) _ _ _ (by rfl) w1.heap.size 3 i0 _ 1 8 Tryz.underlying36 hi0 hz0 hz1 hz2 rfl (by omega) u3 zs.length (iv zs) (by rfl) hO3 ⟨wM.heap.size, 0, none⟩ 1 1 [.int .i64 x] (by rfl) (by rfl) (World.news_of_block (cs := #[.int .i64 x]) (t := 3) (fr := (0, 0)) hnew) (by simp [Value.oneCell']) (by omega) (by simp only [maxLen]; omega) hbl hbB wB.heap.size rfl ?_)
      intro gb cap w9 hown4 hgrow hat hlt4
      have hB3 := hB.trans (b3.mono hB.size)
      have b9 := below_grown hB3.size (fun k hk => (hrow k hk).1) hgrow
      have I1 : LInv w1 (zs ++ [x]) (.slice (some ⟨gb, 0, none⟩) (zs.length + 1) cap) w9 := ⟨by rw [List.length_append, iv_append]; exact hown4, hB3.trans b9⟩
      replace I1 := hide' I1
      replace hzs := hide' hzs
      clear hown4 hgrow hat hnew b3 hO3 hB3 b9 hrow s3 hbB hbl hO hB
      go_wp2
      go_roundw
      case rel => exact ⟨k + 1, by omega, by go_num, by rw [hv, hzs.out]; exact I1.out⟩
      case measure => simp [intOf]; omega
    · obtain rfl : k = R.length := by omega
      have i1 : ¬ (R.length : Int) < (R.length : Int) := by omega
      rw [List.take_length, HV.out] at hO
      obtain ⟨ai, ci, e9, h9⟩ := (show LInv w1 ZZ u3 wr from ⟨hO, hB⟩).ans.from b1
      obtain rfl : u3 = .slice ai ZZ.length ci := by injection e9
      have I1 := hide' (show IAns w ZZ (.returned (.slice ai ZZ.length ci)) wr from ⟨ai, ci, rfl, h9⟩)
      clear hO h9 e9
      go_wp2
      go_ret
      exact I1.out

set_option maxHeartbeats 4000000 in
set_option maxRecDepth 100000 in
theorem vlVars_is (a : Option Addr) (ca : Nat) (L : List Mo) (w : World) (hm : L.length ≤ 1048576) (G0 : Calls Tryz.prog 6 #[.slice a L.length ca] w (FAns w (nfm (fo L)))) :
    Calls Tryz.prog 16 #[.slice a L.length ca] w (IAns w ((nfm (fo L)).map (·.1))) := by
  obtain ⟨i0, hi0, hz0, hz1, hz2⟩ := info_parts info_int
  have hln := nfm_length (fo L)
  rw [fo_length] at hln
  have G := hide' G0
  clear G0
  obtain ⟨T, hT⟩ : ∃ T, nfm (fo L) = T := ⟨_, rfl⟩
  rw [hT] at G hln ⊢
  clear hT
  obtain ⟨ZZ, hZZ⟩ : ∃ ZZ, T.map (·.1) = ZZ := ⟨_, rfl⟩
  rw [hZZ]
  replace hZZ := hide' hZZ
  go_enter Tryz.func16, Tryz.ntmps16
  go_wp2_with fail
  refine G.out.mono ?_
  rintro e w1 ⟨a1, c1, R, rfl, b1, s1, e1, f1⟩
  have HV := hide' (show vs R = ZZ by rw [vs_fo f1]; exact hZZ.out)
  have hlR : R.length ≤ 1048576 := by rw [← fo_length R, f1]; omega
  have hF := s1.lies
  have hcR := s1.len
  clear s1 e1 f1 G hln
  go_wp2_with fail
  go_loopw [3, 5] (fun vo vi wr => ∃ k : Nat, k ≤ R.length ∧ vi = .int .i64 k ∧ LInv w1 (vs (R.take k)) vo wr) (fun _ vi _ => R.length - (intOf vi).toNat)
  case atStart => exact ⟨0, Nat.zero_le _, rfl, World.ownsRow_nil _ _ _ _, Below.refl _ _⟩
  case round =>
    obtain ⟨k, hk, rfl, hO, hB⟩ := hrel
    by_cases hlt : k < R.length
    · skip
      obtain ⟨p, hp⟩ : ∃ p, R[k]? = some p := ⟨R[k], List.getElem?_eq_getElem hlt⟩
      obtain ⟨bb, off, rfl, hb, hcell⟩ := hF (by intro e; rw [e] at hlt; simp at hlt)
      obtain ⟨c0, d1, d2, d3⟩ := hcell k p hp
      replace c0 := below_cell hB c0
      replace d1 := below_cell hB d1
      replace d2 := below_cell hB d2
      replace d3 := below_cell hB d3
      obtain ⟨t1, t2⟩ := take_split hp
      have hv : vs (R.take (k + 1)) = vs (R.take k) ++ [p.1] := by rw [t1]; unfold vs; rw [List.map_append]; rfl
      obtain ⟨x, q⟩ := p
      simp only at c0 d1 d2 d3 hv
      clear t1 t2 hp hcell
      have i1 : (0 : Int) ≤ (k : Int) := by omega
      have i2 : (k : Int) < (R.length : Int) := by omega
      obtain ⟨zs, hzs⟩ : ∃ zs, vs (R.take k) = zs := ⟨_, rfl⟩
      rw [hzs] at hO
      have hzl : zs.length ≤ 2097152 := by rw [← hzs, vs_length, List.length_take]; omega
      obtain ⟨wB, hwB⟩ : ∃ wB, wr.alloc (.cells #[.int .i64 x] 3) = wB := ⟨_, rfl⟩
      have hnew := heap_alloc_new wr (.cells #[.int .i64 x] 3)
      have b3 := below_alloc (w := wr) (.cells #[.int .i64 x] 3)
      rw [hwB] at hnew b3
      have hO3 := own_below hO b3
      have s3 := b3.size
      have s4 := hB.size
      have hbB : w1.heap.size ≤ wB.heap.size := by omega
      have hbl : (zs.length + 1) * 8 ≤ 140737488355328 := by omega
      have hrow := fun k hk => (hO.lt k hk)
      go_wp2_with (at_builtin; (try rw [hwB]); refine wpList_append_lies _ (by rfl) _ _ _ (by rfl) w1.heap.size 3 i0 _ 1 8 Tryz.underlying36 hi0 hz0 hz1 hz2 rfl (by omega) u3 zs.length (iv zs) (by rfl) hO3 ⟨wr.heap.size, 0, none⟩ 1 1 [.int .i64 x] (by rfl) (by rfl) (World.news_of_block (cs := #[.int .i64 x]) (t := 3) (fr := (0, 0)) hnew) (by simp [Value.oneCell']) (by omega) (by simp only [maxLen]; omega) hbl hbB wB.heap.size rfl ?_)
      intro gb cap w9 hown4 hgrow hat hlt4
      have hB3 := hB.trans (b3.mono hB.size)
      have b9 := below_grown hB3.size (fun k hk => (hrow k hk).1) hgrow
      have I1 : LInv w1 (zs ++ [x]) (.slice (some ⟨gb, 0, none⟩) (zs.length + 1) cap) w9 := ⟨by rw [List.length_append, iv_append]; exact hown4, hB3.trans b9⟩
      replace I1 := hide' I1
      replace hzs := hide' hzs
      clear hown4 hgrow hat hnew b3 hO3 hB3 b9 hrow s3 hbB hbl hO hB
      go_wp2
      go_roundw
      case rel => exact ⟨k + 1, by omega, by go_num, by rw [hv, hzs.out]; exact I1.out⟩
      case measure => simp [intOf]; omega
    · obtain rfl : k = R.length := by omega
      have i1 : ¬ (R.length : Int) < (R.length : Int) := by omega
      rw [List.take_length, HV.out] at hO
      obtain ⟨ai, ci, e9, h9⟩ := (show LInv w1 ZZ u3 wr from ⟨hO, hB⟩).ans.from b1
      obtain rfl : u3 = .slice ai ZZ.length ci := by injection e9
      have I1 := hide' (show IAns w ZZ (.returned (.slice ai ZZ.length ci)) wr from ⟨ai, ci, rfl, h9⟩)
      clear hO h9 e9
      go_wp2
      go_ret
      exact I1.out

set_option maxHeartbeats 4000000 in
set_option maxRecDepth 100000 in
theorem sameInts_is (a : Option Addr) (ca : Nat) (b : Option Addr) (cb : Nat) (zs : List Int) (w : World) (hF : IAt w a zs) (hG : IAt w b zs) (hca : zs.length ≤ ca) (hcb : zs.length ≤ cb) (hm : zs.length ≤ 2097152) :
    Calls Tryz.prog 14 #[.slice a zs.length ca, .slice b zs.length cb] w fun e w' => e = .returned (.bool true) ∧ Below w.heap.size w w' := by
  go_enter Tryz.func14, Tryz.ntmps14
  go_wp2_with fail
  go_loopw [5] (fun vi wr => ∃ k : Nat, k ≤ zs.length ∧ vi = .int .i64 k ∧ Below w.heap.size w wr) (fun vi _ => zs.length - (intOf vi).toNat)
  case atStart => exact ⟨0, Nat.zero_le _, rfl, Below.refl _ _⟩
  case round =>
    obtain ⟨k, hk, rfl, hB⟩ := hrel
    by_cases hlt : k < zs.length
    · obtain ⟨z, hz⟩ : ∃ z, zs[k]? = some z := ⟨zs[k], List.getElem?_eq_getElem hlt⟩
      obtain ⟨b1, o1, rfl, hb1, hc1⟩ := hF (by intro e; rw [e] at hlt; simp at hlt)
      obtain ⟨b2, o2, rfl, hb2, hc2⟩ := hG (by intro e; rw [e] at hlt; simp at hlt)
      have c0 := below_cell hB (hc1 k z hz)
      have d0 := below_cell hB (hc2 k z hz)
      clear hc1 hc2 hz
      have i1 : (0 : Int) ≤ (k : Int) := by omega
      have i2 : (k : Int) < (zs.length : Int) := by omega
      go_wp2_with fail
      have bD : Below wr.heap.size wr wr.drew := (Below.refl _ _).drew
      have kc0 := below_cell bD c0
      have kd0 := below_cell bD d0
      replace hB := hB.trans (bD.mono hB.size)
      refine wp_region_held_drew (S := fun w' => w'.cell? ⟨b1, o1 + k, none⟩ = some (.int .i64 z) ∧ w'.cell? ⟨b2, o2 + k, none⟩ = some (.int .i64 z)) (by kernel_rfl) ⟨kc0, kd0⟩ (fun hHeld => ?_)
      clear kc0 kd0
      generalize wr.drew = w0 at bD hB hHeld ⊢
      clear c0 d0 bD
      refine take' 0 (v := ?_) rfl (by kernel_rfl) (by kernel_rfl) (by kernel_rfl) (fun _ _ _ h => h) (Or.inl ⟨by rfl, ?_⟩) (by assumption) ?_
      rotate_left
      · intro w9 hSw
        go_simp
        first | done | with_reducible rfl
      simp only [Act.put, List.setIfInBounds_toArray, List.set_cons_zero, List.set_cons_succ]
      refine take' 1 (v := ?_) rfl (by kernel_rfl) (by kernel_rfl) (by kernel_rfl) (fun _ _ _ h => h) (Or.inl ⟨by rfl, ?_⟩) (by assumption) ?_
      rotate_left
      · intro w9 hSw
        go_simp
        first | done | with_reducible rfl
      simp only [Act.put, List.setIfInBounds_toArray, List.set_cons_zero, List.set_cons_succ]
      refine take' 2 (v := ?_) rfl (by kernel_rfl) (by kernel_rfl) (by kernel_rfl) (fun _ _ _ h => h) (Or.inl ⟨by rfl, ?_⟩) (by assumption) ?_
      rotate_left
      · intro w9 hSw
        go_simp
        first | done | with_reducible rfl
      simp only [Act.put, List.setIfInBounds_toArray, List.set_cons_zero, List.set_cons_succ]
      refine take' 3 (v := ?_) rfl (by kernel_rfl) (by kernel_rfl) (by kernel_rfl) (fun _ _ _ h => h) (Or.inl ⟨by rfl, ?_⟩) (by assumption) ?_
      rotate_left
      · intro w9 hSw
        go_simp
        first | done | with_reducible rfl
      simp only [Act.put, List.setIfInBounds_toArray, List.set_cons_zero, List.set_cons_succ]
      refine take' 4 (v := ?_) rfl (by kernel_rfl) (by kernel_rfl) (by kernel_rfl) (fun _ _ _ h => h) (Or.inl ⟨by rfl, ?_⟩) (by assumption) ?_
      rotate_left
      · intro w9 hSw
        go_simp
        first | done | with_reducible rfl
      simp only [Act.put, List.setIfInBounds_toArray, List.set_cons_zero, List.set_cons_succ]
      refine take' 5 (v := ?_) rfl (by kernel_rfl) (by kernel_rfl) (by kernel_rfl) (fun _ _ _ h => h) (Or.inl ⟨by rfl, ?_⟩) (by assumption) ?_
      rotate_left
      · intro w9 hSw
        go_simp
        first | done | with_reducible rfl
      simp only [Act.put, List.setIfInBounds_toArray, List.set_cons_zero, List.set_cons_succ]
      refine take' 6 (v := ?_) rfl (by kernel_rfl) (by kernel_rfl) (by kernel_rfl) (fun _ _ _ h => h) (Or.inl ⟨by rfl, ?_⟩) (by assumption) ?_
      rotate_left
      · intro w9 hSw
        go_simp
        first | done | with_reducible rfl
      simp only [Act.put, List.setIfInBounds_toArray, List.set_cons_zero, List.set_cons_succ]
      refine take' 7 (v := ?_) rfl (by kernel_rfl) (by kernel_rfl) (by kernel_rfl) (fun _ _ _ h => h) (Or.inl ⟨by rfl, ?_⟩) (by assumption) ?_
      rotate_left
      · intro w9 hSw
        go_simp
        first | done | with_reducible rfl
      simp only [Act.put, List.setIfInBounds_toArray, List.set_cons_zero, List.set_cons_succ]
      refine take' 8 (v := ?_) rfl (by kernel_rfl) (by kernel_rfl) (by kernel_rfl) (fun _ _ _ h => h) (Or.inl ⟨by rfl, ?_⟩) (by assumption) ?_
      rotate_left
      · intro w9 hSw
        go_simp
        first | done | with_reducible rfl
      simp only [Act.put, List.setIfInBounds_toArray, List.set_cons_zero, List.set_cons_succ]
      refine wpAnyH_done (by kernel_rfl) ?_ _
      go_wp2
      go_roundw
      case rel => exact ⟨k + 1, by omega, by go_num, hB⟩
      case measure => simp [intOf]; omega
    · obtain rfl : k = zs.length := by omega
      have i1 : ¬ (zs.length : Int) < (zs.length : Int) := by omega
      go_wp2
      go_ret
      exact ⟨rfl, hB⟩
end Go.Proofs.YtbdgmfofpenjlaaGreat
