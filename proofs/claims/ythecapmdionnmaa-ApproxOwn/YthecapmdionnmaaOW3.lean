/-
  Room and Kept: a list with marks behind it, which must stay.
-/
import Derived.Test.YthecapmdionnmaaOW2
namespace Go.Proofs.Ythecapmdionnmaa
open Go.RowKit
set_option linter.unusedVariables false
set_option linter.unusedSimpArgs false
/-- the first n limbs of a number, as cells -/
def lim (X n : Nat) : List Value := (List.range n).map fun i => .int .u32 (dg X i : Nat)
theorem lim_len (X n : Nat) : (lim X n).length = n := by simp [lim]
theorem lim_succ (X n : Nat) : lim X (n + 1) = lim X n ++ [.int .u32 (dg X n : Nat)] := by unfold lim; rw [List.range_succ, List.map_append]; rfl
theorem lim_at {X n i : Nat} (h : i < n) : (lim X n)[i]? = some (.int .u32 (dg X i : Nat)) := by unfold lim; rw [List.getElem?_map, List.getElem?_range h]; rfl
/-- the marks behind it -/
def rms (k : Nat) : List Value := (List.range k).map fun (i : Nat) => .int .u32 (1515847680 + (i : Int))
theorem rms_succ (k : Nat) : rms (k + 1) = rms k ++ [.int .u32 (1515847680 + (k : Int))] := by unfold rms; rw [List.range_succ, List.map_append]; rfl
theorem rms_at {k i : Nat} (h : i < k) : (rms k)[i]? = some (.int .u32 (1515847680 + (i : Int))) := by unfold rms; rw [List.getElem?_map, List.getElem?_range h]; rfl
/-- a list of n limbs with its marks, in the block g -/
def RoomAt (w : World) (g n X : Nat) : Prop := Row w g ∧ (∀ j, j < n → w.cell? ⟨g, j, none⟩ = some (.int .u32 (dg X j : Nat))) ∧ ∀ j, j < 5 → w.cell? ⟨g, n + j, none⟩ = some (.int .u32 (1515847680 + (j : Int)))
theorem RoomAt.later {w w' : World} {g n X : Nat} (h : RoomAt w g n X) (hb : Below w.heap.size w w') : RoomAt w' g n X := ⟨below_row hb h.1, fun j hj => below_cell hb (h.2.1 j hj), fun j hj => below_cell hb (h.2.2 j hj)⟩
theorem RoomAt.seg {w : World} {g n X : Nat} (h : RoomAt w g n X) (hX : X < BB ^ n) : Seg w (some ⟨g, 0, none⟩) X n := ⟨hX, fun _ => ⟨g, 0, rfl, h.1.lt, fun i hi => by rw [Nat.zero_add]; exact h.2.1 i hi⟩⟩
theorem room_of {w : World} {base TU g cap n X : Nat} (h : w.ownsRow base TU 1 (.slice (some ⟨g, 0, none⟩) (n + 5) cap) (n + 5) (lim X n ++ rms 5)) : RoomAt w g n X ∧ base ≤ g ∧ n + 5 ≤ cap := by
  have hc := fun j hj => h.cellAt j hj
  have hb := h.lt g rfl
  rcases h.2 with ⟨e, _⟩ | ⟨g', cap', cur, e, h1, h2, h3, _⟩
  · cases e
  · simp only [Value.slice.injEq, Option.some.injEq, Addr.mk.injEq, and_true, true_and] at e
    obtain ⟨rfl, rfl⟩ := e
    refine ⟨⟨⟨cur, _, h2⟩, fun j hj => ?_, fun j hj => ?_⟩, hb.1, h3⟩
    · rw [hc j (by omega), List.getElem?_append_left (by rw [lim_len]; exact hj), lim_at hj]
    · rw [hc (n + j) (by omega), List.getElem?_append_right (by rw [lim_len]; omega), lim_len, Nat.add_sub_cancel_left, rms_at hj]
set_option maxHeartbeats 4000000 in
set_option maxRecDepth 100000 in
theorem room_is (a : Option Addr) (n c X : Nat) (w : World) (hn : n ≤ 35184372087900) (hS : Seg w a X n) :
    Calls Try.prog 4 #[.slice a n c] w fun e w' => ∃ g cap, e = .returned (.tuple #[.slice (some ⟨g, 0, none⟩) n cap, .slice (some ⟨g, 0, none⟩) (n + 5) cap]) ∧ n + 5 ≤ cap ∧ w.heap.size ≤ g ∧ RoomAt w' g n X ∧ Below w.heap.size w w' := by
  obtain ⟨i0, hi0, hz0, hz1, hz2⟩ := info_parts infoU
  go_enter Try.func4, Try.ntmps4
  go_wp2_with fail
  go_loopw [4, 5] (fun vo vi wr => ∃ k : Nat, k ≤ n ∧ vi = .int .i64 k ∧ wr.ownsRow w.heap.size 49 1 vo k (lim X k) ∧ Below w.heap.size w wr) (fun _ vi _ => n - (intOf vi).toNat)
  case atStart => exact ⟨0, Nat.zero_le _, rfl, World.ownsRow_nil _ _ _ _, Below.refl _ _⟩
  case round =>
    obtain ⟨k, hk, rfl, hO, hB⟩ := hrel
    by_cases hlt : k < n
    · have i2 : ((k : Int) < (n : Int)) := by omega
      have i1 : (0 : Int) ≤ (k : Int) := by omega
      have hSr := hS.below hB (Nat.le_refl _)
      obtain ⟨bb, off, rfl, hb, hcell⟩ := hSr.2 (by omega)
      have c0 := hcell k hlt
      obtain ⟨x, hx⟩ : ∃ x : Int, ((dg X k : Nat) : Int) = x := ⟨_, rfl⟩
      rw [hx] at c0
      obtain ⟨zs, hzs⟩ : ∃ zs, lim X k = zs := ⟨_, rfl⟩
      rw [hzs] at hO
      clear hcell
      obtain ⟨wB, hwB⟩ : ∃ wB, wr.alloc (.cells #[.int .u32 x] 49) = wB := ⟨_, rfl⟩
      have hnew := heap_alloc_new wr (.cells #[.int .u32 x] 49)
      have b3 := below_alloc (w := wr) (.cells #[.int .u32 x] 49)
      rw [hwB] at hnew b3
      have s3 := b3.size
      have s4 := hB.size
      have hbb : w.heap.size ≤ wB.heap.size := by omega
      have hO8 := own_belowO hO b3
      have hrow := hide' (fun g hg => (hO.lt g hg).1)
      go_wp2_with (at_builtin; (try rw [hwB]); refine wpList_append_lies _ (by rfl) _ _ _ (by rfl) w.heap.size 49 i0 _ 1 4 Try.underlying22 hi0 hz0 hz1 hz2 rfl (by omega) u4 (k) zs (by rfl) hO8 ⟨wr.heap.size, 0, none⟩ 1 1 [.int .u32 x] (by rfl) (by rfl) (World.news_of_block (cs := #[.int .u32 x]) (t := 49) (fr := (0, 0)) hnew) (by simp [Value.oneCell']) (by omega) (by simp only [maxLen]; omega) (by omega) hbb wB.heap.size rfl ?_)
      intro gb cap w9 hown hgr hat hlt4
      have I1 := hide' (show w9.ownsRow w.heap.size 49 1 (.slice (some ⟨gb, 0, none⟩) (k + 1) cap) (k + 1) (lim X (k + 1)) ∧ Below w.heap.size w w9 from ⟨by rw [lim_succ, hzs, hx]; exact hown, (hB.trans (b3.mono hB.size)).trans (below_grownO hbb hrow.out hgr)⟩)
      clear hown hgr hat hnew b3 hO8 hrow hO hB
      go_wp2
      go_roundw
      case rel => exact ⟨k + 1, by omega, by go_num, I1.out⟩
      case measure => simp [intOf]; omega
    · have ek : n = k := by omega
      subst ek
      have i2 : ¬ ((n : Int) < (n : Int)) := by omega
      go_wp2_with fail
      go_loopw [4, 6] (fun vo vi wr => ∃ k : Nat, k ≤ 5 ∧ vi = .int .i64 k ∧ wr.ownsRow w.heap.size 49 1 vo (n + k) (lim X n ++ rms k) ∧ Below w.heap.size w wr) (fun _ vi _ => 5 - (intOf vi).toNat)
      case atStart => exact ⟨0, Nat.zero_le _, rfl, by rw [show rms 0 = [] from rfl, List.append_nil]; exact hO, hB⟩
      case round =>
        clear hO hB
        obtain ⟨k, hk, rfl, hO, hB⟩ := hrel
        by_cases hlt5 : k < 5
        · have k2 : ((k : Int) < 5) := by omega
          have k1 : (0 : Int) ≤ (k : Int) := by omega
          obtain ⟨zs, hzs⟩ : ∃ zs, lim X n ++ rms k = zs := ⟨_, rfl⟩
          rw [hzs] at hO
          obtain ⟨wB, hwB⟩ : ∃ wB, wr.alloc (.cells #[.int .u32 (1515847680 + (k : Int))] 49) = wB := ⟨_, rfl⟩
          have hnew := heap_alloc_new wr (.cells #[.int .u32 (1515847680 + (k : Int))] 49)
          have b3 := below_alloc (w := wr) (.cells #[.int .u32 (1515847680 + (k : Int))] 49)
          rw [hwB] at hnew b3
          have s3 := b3.size
          have s4 := hB.size
          have hbb : w.heap.size ≤ wB.heap.size := by omega
          have hO8 := own_belowO hO b3
          have hrow := hide' (fun g hg => (hO.lt g hg).1)
          go_wp2_with (at_builtin; (try rw [hwB]); refine wpList_append_lies _ (by rfl) _ _ _ (by rfl) w.heap.size 49 i0 _ 1 4 Try.underlying22 hi0 hz0 hz1 hz2 rfl (by omega) u4 (n + k) zs (by rfl) hO8 ⟨wr.heap.size, 0, none⟩ 1 1 [.int .u32 (1515847680 + (k : Int))] (by rfl) (by rfl) (World.news_of_block (cs := #[.int .u32 (1515847680 + (k : Int))]) (t := 49) (fr := (0, 0)) hnew) (by simp [Value.oneCell']) (by omega) (by simp only [maxLen]; omega) (by omega) hbb wB.heap.size rfl ?_)
          intro gb cap w9 hown hgr hat hlt4
          have I1 := hide' (show w9.ownsRow w.heap.size 49 1 (.slice (some ⟨gb, 0, none⟩) (n + k + 1) cap) (n + k + 1) (lim X n ++ rms (k + 1)) ∧ Below w.heap.size w w9 from ⟨by rw [rms_succ, ← List.append_assoc, hzs]; exact hown, (hB.trans (b3.mono hB.size)).trans (below_grownO hbb hrow.out hgr)⟩)
          clear hown hgr hat hnew b3 hO8 hrow hO hB
          go_wp2
          go_roundw
          case rel => exact ⟨k + 1, by omega, by go_num, I1.out⟩
          case measure => simp [intOf]; omega
        · have ek : 5 = k := by omega
          subst ek
          have k2 : ¬ (((5 : Nat) : Int) < 5) := by omega
          obtain ⟨g, cap, e4, hg1, hg2⟩ := hO.form (by omega)
          subst e4
          obtain ⟨hR, hg3, hg4⟩ := room_of hO
          replace hR := hide' hR
          clear hO
          have y1 : (n : Int) ≤ (cap : Int) := by omega
          have y2 : n ≤ cap := by omega
          go_wp2
          go_ret2
          exact ⟨g, cap, rfl, hg4, hg3, hR.out, hB⟩
set_option maxHeartbeats 4000000 in
set_option maxRecDepth 100000 in
theorem kept_is (a : Option Addr) (n c X g cap : Nat) (w : World) (hn : n ≤ 35184372087900) (hS : Seg w a X n) (hR : RoomAt w g n X) :
    Calls Try.prog 8 #[.slice (some ⟨g, 0, none⟩) (n + 5) cap, .slice a n c] w fun e w' => e = .returned (.bool true) ∧ Below w.heap.size w w' := by
  have HR := hide' hR
  clear hR
  have z1 : (((n + 5 : Nat) : Int) != (n : Int) + 5) = false := by simp
  go_enter Try.func8, Try.ntmps8
  go_wp2_with fail
  go_loopw [5] (fun vi wr => ∃ k : Nat, k ≤ n ∧ vi = .int .i64 k ∧ Below w.heap.size w wr) (fun vi _ => n - (intOf vi).toNat)
  case atStart => exact ⟨0, Nat.zero_le _, rfl, Below.refl _ _⟩
  case round =>
    obtain ⟨k, hk, rfl, hB⟩ := hrel
    by_cases hlt : k < n
    · have i2 : ((k : Int) < (n : Int)) := by omega
      have i1 : (0 : Int) ≤ (k : Int) := by omega
      have i3 : ((k : Int) < (n : Int) + 5) := by omega
      have hSr := hS.below hB (Nat.le_refl _)
      obtain ⟨bb, off, rfl, hb, hcell⟩ := hSr.2 (by omega)
      have q0 := hcell k hlt
      have q1 := below_cell hB (HR.out.2.1 k hlt)
      clear hcell
      obtain ⟨x, hx⟩ : ∃ x : Int, ((dg X k : Nat) : Int) = x := ⟨_, rfl⟩
      rw [hx] at q0 q1
      have hne : (x != x) = false := by simp
      go_wp2_with fail
      have bD : Below wr.heap.size wr wr.drew := (Below.refl _ _).drew
      have kq0 := below_cell bD q0
      have kq1 := below_cell bD q1
      replace hB := hB.trans (bD.mono hB.size)
      refine wp_region_held_drew (S := fun w' => w'.cell? ⟨bb, off + k, none⟩ = some (.int .u32 x) ∧ w'.cell? ⟨g, k, none⟩ = some (.int .u32 x)) (by kernel_rfl) ⟨kq0, kq1⟩ (fun hHeld => ?_)
      clear kq0 kq1
      generalize wr.drew = wF at bD hB hHeld ⊢
      clear bD q0 q1
      refine take' 0 (v := ?_) rfl (by kernel_rfl) (by kernel_rfl) (by kernel_rfl) (fun _ _ _ h => h) (Or.inl ⟨by rfl, ?_⟩) (by assumption) ?_
      rotate_left
      · intro w9 hSw
        go_simp
        first | done | with_reducible rfl
      simp only [Act.put, List.setIfInBounds_toArray, List.set_cons_zero, List.set_cons_succ]
      refine take' 1 (v := ?_) rfl (by kernel_rfl) (by kernel_rfl) (by kernel_rfl) (fun _ _ _ h => h) (Or.inl ⟨by rfl, ?_⟩) (by assumption) ?_
      rotate_left
      · intro w9 hSw
        go_simp
        first | done | with_reducible rfl
      simp only [Act.put, List.setIfInBounds_toArray, List.set_cons_zero, List.set_cons_succ]
      refine take' 2 (v := ?_) rfl (by kernel_rfl) (by kernel_rfl) (by kernel_rfl) (fun _ _ _ h => h) (Or.inl ⟨by rfl, ?_⟩) (by assumption) ?_
      rotate_left
      · intro w9 hSw
        go_simp
        first | done | with_reducible rfl
      simp only [Act.put, List.setIfInBounds_toArray, List.set_cons_zero, List.set_cons_succ]
      refine take' 3 (v := ?_) rfl (by kernel_rfl) (by kernel_rfl) (by kernel_rfl) (fun _ _ _ h => h) (Or.inl ⟨by rfl, ?_⟩) (by assumption) ?_
      rotate_left
      · intro w9 hSw
        go_simp
        first | done | with_reducible rfl
      simp only [Act.put, List.setIfInBounds_toArray, List.set_cons_zero, List.set_cons_succ]
      refine take' 4 (v := ?_) rfl (by kernel_rfl) (by kernel_rfl) (by kernel_rfl) (fun _ _ _ h => h) (Or.inl ⟨by rfl, ?_⟩) (by assumption) ?_
      rotate_left
      · intro w9 hSw
        go_simp
        first | done | with_reducible rfl
      simp only [Act.put, List.setIfInBounds_toArray, List.set_cons_zero, List.set_cons_succ]
      refine take' 5 (v := ?_) rfl (by kernel_rfl) (by kernel_rfl) (by kernel_rfl) (fun _ _ _ h => h) (Or.inl ⟨by rfl, ?_⟩) (by assumption) ?_
      rotate_left
      · intro w9 hSw
        go_simp
        first | done | with_reducible rfl
      simp only [Act.put, List.setIfInBounds_toArray, List.set_cons_zero, List.set_cons_succ]
      refine take' 6 (v := ?_) rfl (by kernel_rfl) (by kernel_rfl) (by kernel_rfl) (fun _ _ _ h => h) (Or.inl ⟨by rfl, ?_⟩) (by assumption) ?_
      rotate_left
      · intro w9 hSw
        go_simp
        first | done | with_reducible rfl
      simp only [Act.put, List.setIfInBounds_toArray, List.set_cons_zero, List.set_cons_succ]
      refine take' 7 (v := ?_) rfl (by kernel_rfl) (by kernel_rfl) (by kernel_rfl) (fun _ _ _ h => h) (Or.inl ⟨by rfl, ?_⟩) (by assumption) ?_
      rotate_left
      · intro w9 hSw
        go_simp
        first | done | with_reducible rfl
      simp only [Act.put, List.setIfInBounds_toArray, List.set_cons_zero, List.set_cons_succ]
      refine take' 8 (v := ?_) rfl (by kernel_rfl) (by kernel_rfl) (by kernel_rfl) (fun _ _ _ h => h) (Or.inl ⟨by rfl, ?_⟩) (by assumption) ?_
      rotate_left
      · intro w9 hSw
        go_simp
        first | done | with_reducible rfl
      simp only [Act.put, List.setIfInBounds_toArray, List.set_cons_zero, List.set_cons_succ]
      refine wpAnyH_done (by kernel_rfl) ?_ _
      clear hHeld
      go_wp2
      go_roundw
      case rel => exact ⟨k + 1, by omega, by go_num, hB⟩
      case measure => simp [intOf]; omega
    · have i2 : ¬ ((k : Int) < (n : Int)) := by omega
      clear hlt hk
      go_wp2_with fail
      go_loopw [6] (fun vi wr => ∃ k : Nat, k ≤ 5 ∧ vi = .int .i64 k ∧ Below w.heap.size w wr) (fun vi _ => 5 - (intOf vi).toNat)
      case atStart => exact ⟨0, Nat.zero_le _, rfl, hB⟩
      case round =>
        clear hB
        obtain ⟨j, hj, rfl, hB⟩ := hrel
        by_cases hlt : j < 5
        · have j2 : ((j : Int) < 5) := by omega
          have j1 : (0 : Int) ≤ (j : Int) := by omega
          have j3 : (0 : Int) ≤ (n : Int) + (j : Int) := by omega
          have j4 : ((n : Int) + (j : Int) < (n : Int) + 5) := by omega
          have q1 := below_cell hB (HR.out.2.2 j hlt)
          have hne : ((1515847680 + (j : Int)) != (1515847680 + (j : Int))) = false := by simp
          go_wp2
          go_roundw
          case rel => exact ⟨j + 1, by omega, by go_num, hB⟩
          case measure => simp [intOf]; omega
        · have j2 : ¬ ((j : Int) < 5) := by omega
          go_wp2
          go_ret
          exact ⟨rfl, hB⟩
end Go.Proofs.Ythecapmdionnmaa
