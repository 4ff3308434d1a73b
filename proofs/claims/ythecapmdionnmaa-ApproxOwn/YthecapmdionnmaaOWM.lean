/-
  Copies of numbers by the statements' own means: a list that grows limb by limb.
-/
import Derived.Test.YthecapmdionnmaaOW3
import Derived.Test.YthecapmdionnmaaWQ0
namespace Go.Proofs.Ythecapmdionnmaa
open Go.RowKit
set_option linter.unusedVariables false
set_option linter.unusedSimpArgs false

theorem info_u32M : (Try.prog.info? 49).map (fun i => (i.zero, i.size, i.bytes)) = some (some (.int .u32 0), 1, 4) := by kernel_rfl
/-- the first n limbs of a number, as cells -/
def limbsM (X n : Nat) : List Value := (List.range n).map fun i => .int .u32 (dg X i : Nat)
theorem limbsM_length (X n : Nat) : (limbsM X n).length = n := by simp [limbsM]
theorem limbsM_succ (X n : Nat) : limbsM X (n + 1) = limbsM X n ++ [.int .u32 (dg X n : Nat)] := by
  unfold limbsM
  rw [List.range_succ, List.map_append]
  rfl
theorem limbsM_at {X n i : Nat} (h : i < n) : (limbsM X n)[i]? = some (.int .u32 (dg X i : Nat)) := by
  unfold limbsM
  rw [List.getElem?_map, List.getElem?_range h]
  rfl
theorem own_copy {w w' : World} {v : Value} {X n : Nat} (hX : X < BB ^ n) (h : w'.ownsRow w.heap.size 49 1 v n (limbsM X n)) (hB : Below w.heap.size w w') : ∃ p c, v = .slice p n c ∧ n ≤ c ∧ New w w' p X n := by
  rcases h.2 with ⟨rfl, rfl⟩ | ⟨g, cap, cur, rfl, hb, hg, hc, hm, _, _⟩
  · exact ⟨none, 0, rfl, Nat.le_refl _, ⟨hX, fun h => absurd h (by omega)⟩, hB, fun h => absurd h (by omega)⟩
  · have hgl := (Array.getElem?_eq_some_iff.1 hg).1
    refine ⟨_, cap, rfl, hc, ⟨hX, fun hn => ⟨g, 0, rfl, hgl, fun i hi => ?_⟩⟩, hB, fun _ => ⟨g, 0, rfl, hb, cur, _, hg⟩⟩
    have h := h.cellAt i (by omega)
    rw [limbsM_at hi] at h
    rw [Nat.zero_add]
    exact h

set_option maxHeartbeats 2000000 in
set_option maxRecDepth 100000 in
theorem memNat_is (a : Option Addr) (n c X : Nat) (w : World) (hn : n ≤ 35184372087808) (hS : Seg w a X n) :
    Calls Try.prog 25 #[.slice a n c] w fun e w' => ∃ p c', e = .returned (.slice p n c') ∧ n ≤ c' ∧ New w w' p X n := by
  obtain ⟨i0, hi0, hz0, hz1, hz2⟩ := info_parts info_u32M
  go_enter Try.func25, Try.ntmps25
  go_wp2_with fail
  go_loopw [3, 4] (fun vo vi wr => ∃ k : Nat, k ≤ n ∧ vi = .int .i64 k ∧ wr.ownsRow w.heap.size 49 1 vo k (limbsM X k) ∧ Below w.heap.size w wr) (fun _ vi _ => n - (intOf vi).toNat)
  case atStart => exact ⟨0, Nat.zero_le _, rfl, World.ownsRow_nil _ _ _ _, Below.refl _ _⟩
  case round =>
    obtain ⟨k, hk, rfl, hO, hB⟩ := hrel
    by_cases hlt : k < n
    · have hSr := hS.later hB
      obtain ⟨bb, off, rfl, hb, hcell⟩ := hSr.2 (by omega)
      have c0 := hcell k hlt
      have i1 : (0 : Int) ≤ (k : Int) := by omega
      have i2 : (k : Int) < (n : Int) := by omega
      obtain ⟨x, hx⟩ : ∃ x : Int, ((dg X k : Nat) : Int) = x := ⟨_, rfl⟩
      rw [hx] at c0
      obtain ⟨zs, hzs⟩ : ∃ zs, limbsM X k = zs := ⟨_, rfl⟩
      rw [hzs] at hO
      obtain ⟨wB, hwB⟩ : ∃ wB, wr.alloc (.cells #[.int .u32 x] 49) = wB := ⟨_, rfl⟩
      have hnew := heap_alloc_new wr (.cells #[.int .u32 x] 49)
      have b3 := below_alloc (w := wr) (.cells #[.int .u32 x] 49)
      rw [hwB] at hnew b3
      have hO3 := own_belowO hO b3
      have s3 := b3.size
      have s4 := hB.size
      have hbB : w.heap.size ≤ wB.heap.size := by omega
      have hbl : (k + 1) * 4 ≤ 140737488355328 := by omega
      have hrow := fun k hk => (hO.lt k hk)
      clear hcell
      go_wp2_with (at_builtin; (try rw [hwB]); refine wpList_append_lies _ (by rfl) _ _ _ (by rfl) w.heap.size 49 i0 _ 1 4 A_under_nat hi0 hz0 hz1 hz2 rfl (by omega) u3 k zs (by rfl) hO3 ⟨wr.heap.size, 0, none⟩ 1 1 [.int .u32 x] (by rfl) (by rfl) (World.news_of_block (cs := #[.int .u32 x]) (t := 49) (fr := (0, 0)) hnew) (by simp [Value.oneCell']) (by omega) (by simp only [maxLen]; omega) hbl hbB wB.heap.size rfl ?_)
      intro gb cap w9 hown4 hgrow hat hlt4
      have hB3 := hB.trans (b3.mono hB.size)
      have b9 := below_grownO hB3.size (fun k hk => (hrow k hk).1) hgrow
      have I1 : w9.ownsRow w.heap.size 49 1 (.slice (some ⟨gb, 0, none⟩) (k + 1) cap) (k + 1) (limbsM X (k + 1)) ∧ Below w.heap.size w w9 := ⟨by rw [limbsM_succ, hzs, hx]; exact hown4, hB3.trans b9⟩
      replace I1 := hide' I1
      clear hown4 hgrow hat hnew b3 hO3 hB3 b9 hrow s3 hbB hbl hO hB hzs hx
      go_wp2
      go_roundw
      case rel => exact ⟨k + 1, by omega, by go_num, I1.out⟩
      case measure => simp [intOf]; omega
    · obtain rfl : k = n := by omega
      have i1 : ¬ (k : Int) < (k : Int) := by omega
      obtain ⟨p, c1, rfl, hc1, hC⟩ := own_copy hS.1 hO hB
      go_wp2
      go_ret
      exact ⟨p, c1, rfl, hc1, hC⟩

set_option maxHeartbeats 1000000 in
theorem memInt_is (s : Bool) (ao : Option Addr) (n cap X : Nat) (w : World) (hm : n ≤ 35184372087808) (hS : Seg w ao X n) :
    Calls Try.prog 24 #[.agg #[.bool s, .slice ao n cap]] w fun e w' => ∃ ao' c', e = .returned (.agg #[.bool s, .slice ao' n c']) ∧ n ≤ c' ∧ New w w' ao' X n := by
  go_enter Try.func24, Try.ntmps24
  go_wp2_with fail
  obtain ⟨W, hW⟩ : ∃ W, ((w.alloc (.cells #[.bool s, .slice ao n cap] 25)).alloc (.cells #[.bool false, .slice none 0 0] 25)) = W := ⟨_, rfl⟩
  have q00 : W.cell? ⟨w.heap.size, 0, none⟩ = some (.bool s) := by subst hW; go_simp
  have q01 : W.cell? ⟨w.heap.size, 1, none⟩ = some (.slice ao n cap) := by subst hW; go_simp
  have r00 : W.cell? ⟨w.heap.size + 1, 0, none⟩ = some (.bool false) := by subst hW; go_simp
  have r01 : W.cell? ⟨w.heap.size + 1, 1, none⟩ = some (.slice none 0 0) := by subst hW; go_simp
  have hB : Below w.heap.size w W := by subst hW; exact (((Below.refl _ _).alloc (by (try simp only [World.size_alloc]); omega) _).alloc (by (try simp only [World.size_alloc]); omega) _)
  have hR0 : Row W (w.heap.size + 1) := by
    have := row_new ((w.alloc (.cells #[.bool s, .slice ao n cap] 25))) #[.bool false, .slice none 0 0] 25
    try simp only [World.size_alloc] at this
    subst hW; exact this
  have hz : W.heap.size = w.heap.size + 1 + 1 := by subst hW; simp only [World.size_alloc]
  rw [hW]
  clear hW
  have hBW : Below W.heap.size W W := Below.refl _ _
  replace hBW := hBW.drew
  first
    | go_region_held3 (fun w' => w'.cell? ⟨w.heap.size, 0, none⟩ = some (.bool s) ∧ w'.cell? ⟨w.heap.size, 1, none⟩ = some (.slice ao n cap) ∧ Below w.heap.size w w')
        (first | exact ⟨q00, q01, hB.trans (hBW.mono hB.size)⟩ | exact kp2 b1 (by assumption) | exact kp2 (below_alloc _) (by assumption) | exact kp2 (below_alloc _) ⟨q00, q01, hB.trans (hBW.mono hB.size)⟩ | exact kpT2_2 (by assumption) (by omega) (by omega) (by omega))
        (first
          | (go_at_call 25; (fail_if_success clear b1); refine (memNat_is ao n cap X _ hm (sb hS hB hBW)).mono ?_; rintro e w1 ⟨a1, c1, rfl, g1, hn1⟩; have b1 := hn1.below; replace hn1 := hn1.back hBW; replace hBW := hBW.trans (b1.mono hBW.size); replace q00 := below_cell b1 q00; replace q01 := below_cell b1 q01; replace r00 := below_cell b1 r00; replace r01 := below_cell b1 r01; replace hR0 := below_row b1 hR0; have fz := fun o => hR0.frozen o))
    | fail
  have fz0 := fun o => hR0.frozen o
  go_wp2
  all_goals refine bodyPost_ret (v := .agg #[.bool s, .slice a1 n c1]) (by rw [results_cell rfl]; go_simp) rfl ?_
  all_goals exact ⟨a1, c1, rfl, g1, hn1.mid hB ((((Mid.refl _ _ _).set _ _ (by omega) (by omega) _).set _ _ (by omega) (by omega) _))⟩

set_option maxHeartbeats 2000000 in
theorem memRat_is (s0 : Bool) (a0 : Option Addr) (n0 c0 X0 : Nat) (b0 : Option Addr) (m0 d0 Y0 : Nat) (w : World) (hc0 : n0 ≤ c0) (hm0 : n0 ≤ 35184372087808) (hS0 : Seg w a0 X0 n0) (hd0 : m0 ≤ d0) (hk0 : m0 ≤ 35184372087808) (hT0 : Seg w b0 Y0 m0) :
    Calls Try.prog 12 #[Value.agg #[Value.bool s0, Value.slice a0 n0 c0, Value.slice b0 m0 d0]] w fun e w' => ∃ p c q d, e = .returned (.agg #[.bool s0, .slice p n0 c, .slice q m0 d]) ∧ n0 ≤ c ∧ m0 ≤ d ∧ New w w' p X0 n0 ∧ New w w' q Y0 m0 := by
  go_enter Try.func12, Try.ntmps12
  go_wp2_with fail
  obtain ⟨W, hW⟩ : ∃ W, ((w.alloc (.cells #[.bool s0, .slice a0 n0 c0, .slice b0 m0 d0] 27)).alloc (.cells #[.bool false, .slice none 0 0, .slice none 0 0] 27)) = W := ⟨_, rfl⟩
  have q00 : W.cell? ⟨w.heap.size, 0, none⟩ = some (.bool s0) := by subst hW; go_simp
  have q01 : W.cell? ⟨w.heap.size, 1, none⟩ = some (.slice a0 n0 c0) := by subst hW; go_simp
  have q02 : W.cell? ⟨w.heap.size, 2, none⟩ = some (.slice b0 m0 d0) := by subst hW; go_simp
  have r00 : W.cell? ⟨w.heap.size + 1, 0, none⟩ = some (.bool false) := by subst hW; go_simp
  have r01 : W.cell? ⟨w.heap.size + 1, 1, none⟩ = some (.slice none 0 0) := by subst hW; go_simp
  have r02 : W.cell? ⟨w.heap.size + 1, 2, none⟩ = some (.slice none 0 0) := by subst hW; go_simp
  have hB : Below w.heap.size w W := by subst hW; exact (((Below.refl _ _).alloc (by (try simp only [World.size_alloc]); omega) _).alloc (by (try simp only [World.size_alloc]); omega) _)
  have hR0 : Row W (w.heap.size + 1) := by
    have := row_new ((w.alloc (.cells #[.bool s0, .slice a0 n0 c0, .slice b0 m0 d0] 27))) #[.bool false, .slice none 0 0, .slice none 0 0] 27
    try simp only [World.size_alloc] at this
    subst hW; exact this
  have hz : W.heap.size = w.heap.size + 1 + 1 := by subst hW; simp only [World.size_alloc]
  rw [hW]
  clear hW
  have hBW : Below W.heap.size W W := Below.refl _ _
  replace hBW := hBW.drew
  first
    | go_region_held3 (fun w' => w'.cell? ⟨w.heap.size, 0, none⟩ = some (.bool s0) ∧ w'.cell? ⟨w.heap.size, 1, none⟩ = some (.slice a0 n0 c0) ∧ w'.cell? ⟨w.heap.size, 2, none⟩ = some (.slice b0 m0 d0) ∧ Below w.heap.size w w')
        (first | exact ⟨q00, q01, q02, hB.trans (hBW.mono hB.size)⟩ | exact kp3 b41 (by assumption) | exact kp3 b42 (by assumption) | exact kp3 (below_alloc _) (by assumption) | exact kp3 (below_alloc _) ⟨q00, q01, q02, hB.trans (hBW.mono hB.size)⟩ | exact kpT3_3 (by assumption) (by omega) (by omega) (by omega) (by omega))
        (first
          | (go_at_call 24; (fail_if_success clear b41); refine (memInt_is s0 a0 n0 c0 X0 _ hm0 (sb hS0 hB hBW)).mono ?_; rintro e w41 ⟨a41, c41, rfl, g41, hn41⟩; have b41 := hn41.below; replace hn41 := hn41.back hBW; replace hBW := hBW.trans (b41.mono hBW.size); replace q00 := below_cell b41 q00; replace q01 := below_cell b41 q01; replace q02 := below_cell b41 q02; replace r00 := below_cell b41 r00; replace r01 := below_cell b41 r01; replace r02 := below_cell b41 r02; replace hR0 := below_row b41 hR0)
          | (go_at_call 25; (fail_if_success clear b42); refine (memNat_is b0 m0 d0 Y0 _ hk0 (sb hT0 hB hBW)).mono ?_; rintro e w42 ⟨a42, c42, rfl, g42, hn42⟩; have b42 := hn42.below; replace hn42 := hn42.back hBW; replace hBW := hBW.trans (b42.mono hBW.size); replace q00 := below_cell b42 q00; replace q01 := below_cell b42 q01; replace q02 := below_cell b42 q02; replace r00 := below_cell b42 r00; replace r01 := below_cell b42 r01; replace r02 := below_cell b42 r02; replace hR0 := below_row b42 hR0; replace hn41 := hn41.later b42; have fz := fun o => hR0.frozen o))
    | fail
  have fz0 := fun o => hR0.frozen o
  go_wp2
  all_goals refine bodyPost_ret (v := .agg #[.bool s0, .slice a41 n0 c41, .slice a42 m0 c42]) (by rw [results_cell rfl]; go_simp) rfl ?_
  all_goals exact ⟨a41, c41, a42, c42, rfl, g41, g42, hn41.mid hB (((((Mid.refl _ _ _).set _ _ (by omega) (by omega) _).set _ _ (by omega) (by omega) _).set _ _ (by omega) (by omega) _)), hn42.mid hB (((((Mid.refl _ _ _).set _ _ (by omega) (by omega) _).set _ _ (by omega) (by omega) _).set _ _ (by omega) (by omega) _))⟩
end Go.Proofs.Ythecapmdionnmaa
