/-
  Layer 6: the reference's sorted: the walk.
-/
import Derived.Test.YtildhkefkeeflaaWO2
namespace Go.Proofs.Ytildhkefkeeflaa
open Go.RowKit
set_option linter.unusedVariables false
set_option linter.unusedSimpArgs false

theorem info_int : (Try.prog.info? 3).map (fun i => (i.zero, i.size, i.bytes)) = some (some (.int .i64 0), 1, 8) := by kernel_rfl
/-- what the outer loop keeps -/
def SInv (w : World) (zs : List Int) (k : Nat) (vo : Value) (wr : World) : Prop :=
  ∃ ys : List Int, wr.ownsRow w.heap.size 3 1 vo ys.length (iv ys) ∧ Below w.heap.size w wr ∧ Srt ys (zs.take k)
/-- an answer that is the numbers, rising, each once -/
def SAns (w : World) (zs : List Int) (e : Ending) (w' : World) : Prop := ∃ vo, e = .returned vo ∧ SInv w zs zs.length vo w'
theorem own_at {w : World} {base : Nat} {e : TypeId} {v : Value} {ys : List Int} (h : w.ownsRow base e 1 v ys.length (iv ys)) {j : Nat} {y : Int} (hj : ys[j]? = some y) : ∃ g cap, v = .slice (some ⟨g, 0, none⟩) ys.length cap ∧ ys.length ≤ cap ∧ base ≤ g ∧ g < w.heap.size ∧ w.cell? ⟨g, j, none⟩ = some (.int .i64 y) := by
  have hl := (List.getElem?_eq_some_iff.1 hj).1
  rcases h.2 with ⟨rfl, h0⟩ | ⟨g, cap, cur, rfl, hb, hg, hc, hm, _, _⟩
  · omega
  · refine ⟨g, cap, rfl, hc, hb, (Array.getElem?_eq_some_iff.1 hg).1, ?_⟩
    have k1 := h.cellAt j (by omega)
    rw [iv_at hj] at k1
    exact k1

set_option maxHeartbeats 8000000 in
set_option maxRecDepth 100000 in
theorem vsorted_is (a : Option Addr) (cap0 : Nat) (zs : List Int) (w : World) (hF : IAt w a zs) (hc : zs.length ≤ cap0) (hm : zs.length ≤ 2097152) :
    Calls Try.prog 27 #[.slice a zs.length cap0] w (SAns w zs) := by
  obtain ⟨i0, hi0, hz0, hz1, hz2⟩ := info_parts info_int
  go_enter Try.func27, Try.ntmps27
  go_wp2_with fail
  go_loopw [3, 4] (fun vo vi wr => ∃ k : Nat, k ≤ zs.length ∧ vi = .int .i64 k ∧ SInv w zs k vo wr) (fun _ vi _ => zs.length - (intOf vi).toNat)
  case atStart => exact ⟨0, Nat.zero_le _, rfl, [], World.ownsRow_nil _ _ _ _, Below.refl _ _, List.Pairwise.nil, fun z => by simp, Nat.le_refl _⟩
  case round =>
    obtain ⟨k, hk, rfl, ys, hO, hB, hY⟩ := hrel
    by_cases hlt : k < zs.length
    · obtain ⟨x, hx⟩ : ∃ x, zs[k]? = some x := ⟨zs[k], List.getElem?_eq_getElem hlt⟩
      obtain ⟨b, off, rfl, hb, hcell⟩ := hF (by intro e; rw [e] at hlt; simp at hlt)
      have hcx := hcell k x hx
      obtain ⟨t1, t2⟩ := take_split hx
      clear t2 hx hcell
      have hyl : ys.length ≤ k := by have := hY.len; rw [List.length_take] at this; omega
      have i0' : (0 : Int) ≤ (k : Int) := by omega
      have i1 : (k : Int) < (zs.length : Int) := by omega
      obtain ⟨n, hn⟩ : ∃ n, ys.length = n := ⟨_, rfl⟩
      have hvs : ∃ ao co, u3 = .slice ao n co := by
        obtain ⟨ao, co, e, _, _⟩ := own_ints hO
        exact ⟨ao, co, by rw [e, hn]⟩
      obtain ⟨ao, co, rfl⟩ := hvs
      have l0 : (0 : Int) ≤ (n : Int) := by omega
      have hnk : n ≤ 2097152 := by omega
      rw [hn] at hO
      have HY := hide' (And.intro hn (And.intro hY (And.intro t1 hyl)))
      clear hn hY t1 hyl
      go_wp2_with fail
      go_loopw [5] (fun vi wr => ∃ j : Nat, j ≤ n ∧ vi = .int .i64 j ∧ wr.ownsRow w.heap.size 3 1 (.slice ao n co) n (iv ys) ∧ Below w.heap.size w wr ∧ ∀ i y, i < j → ys[i]? = some y → y < x) (fun vi _ => n - (intOf vi).toNat)
      case atStart => exact ⟨0, Nat.zero_le _, rfl, hO, hB, fun i y hi => absurd hi (by omega)⟩
      case round =>
        clear hO hB
        obtain ⟨j, hj, rfl, hO, hB, hlo⟩ := hrel
        have j0 : (0 : Int) ≤ (j : Int) := by omega
        have c0 := below_cell hB hcx
        by_cases hjn : j < n
        · obtain ⟨y, hy⟩ : ∃ y, ys[j]? = some y := ⟨ys[j]'(by have := HY.out.1; omega), List.getElem?_eq_getElem _⟩
          obtain ⟨g, cp, hv, hcp, hbg, hgl, cy⟩ := own_at (ys := ys) (by rw [HY.out.1]; exact hO) hy
          rw [HY.out.1] at hv
          simp only [Value.slice.injEq, true_and] at hv
          obtain ⟨rfl, rfl⟩ := hv
          have j1 : (j : Int) < (n : Int) := by omega
          by_cases hyx : y < x
          · go_wp2_with fail
            have bD : Below wr.heap.size wr wr.drew := (Below.refl _ _).drew
            have kcy := below_cell bD cy
            have kc0 := below_cell bD c0
            replace hB := hB.trans (bD.mono hB.size)
            refine wp_region_held_drew (S := fun w' => w'.cell? ⟨g, j, none⟩ = some (.int .i64 y) ∧ w'.cell? ⟨b, off + k, none⟩ = some (.int .i64 x)) (by kernel_rfl) ⟨kcy, kc0⟩ (fun hHeld => ?_)
            clear kcy kc0
            generalize wr.drew = w5 at bD hB hHeld ⊢
            replace hO := own_below hO bD
            replace c0 := below_cell bD c0
            replace cy := below_cell bD cy
            refine take' 0 (v := ?_) rfl (by kernel_rfl) (by kernel_rfl) (by kernel_rfl) (fun _ _ _ h => h) (Or.inl ⟨by rfl, ?_⟩) (by assumption) ?_
            rotate_left
            · intro w9 hSw
              go_simp
              first | done | with_reducible rfl
            simp only [Act.put, List.setIfInBounds_toArray, List.set_cons_zero, List.set_cons_succ]
            refine take' 1 (v := ?_) rfl (by kernel_rfl) (by kernel_rfl) (by kernel_rfl) (fun _ _ _ h => h) (Or.inl ⟨by rfl, ?_⟩) (by assumption) ?_
            rotate_left
            · intro w9 hSw
              go_simp
              first | done | with_reducible rfl
            simp only [Act.put, List.setIfInBounds_toArray, List.set_cons_zero, List.set_cons_succ]
            refine take' 2 (v := ?_) rfl (by kernel_rfl) (by kernel_rfl) (by kernel_rfl) (fun _ _ _ h => h) (Or.inl ⟨by rfl, ?_⟩) (by assumption) ?_
            rotate_left
            · intro w9 hSw
              go_simp
              first | done | with_reducible rfl
            simp only [Act.put, List.setIfInBounds_toArray, List.set_cons_zero, List.set_cons_succ]
            refine take' 3 (v := ?_) rfl (by kernel_rfl) (by kernel_rfl) (by kernel_rfl) (fun _ _ _ h => h) (Or.inl ⟨by rfl, ?_⟩) (by assumption) ?_
            rotate_left
            · intro w9 hSw
              go_simp
              first | done | with_reducible rfl
            simp only [Act.put, List.setIfInBounds_toArray, List.set_cons_zero, List.set_cons_succ]
            try simp only [hjn, decide_true, decide_false, gt_iff_lt, ge_iff_le]
            refine take' 4 (v := ?_) rfl (by kernel_rfl) (by kernel_rfl) (by kernel_rfl) (fun _ _ _ h => h) (Or.inl ⟨by rfl, ?_⟩) (by assumption) ?_
            rotate_left
            · intro w9 hSw
              go_simp
              first | done | with_reducible rfl
            simp only [Act.put, List.setIfInBounds_toArray, List.set_cons_zero, List.set_cons_succ]
            refine take' 5 (v := ?_) rfl (by kernel_rfl) (by kernel_rfl) (by kernel_rfl) (fun _ _ _ h => h) (Or.inl ⟨by rfl, ?_⟩) (by assumption) ?_
            rotate_left
            · intro w9 hSw
              go_simp
              first | done | with_reducible rfl
            simp only [Act.put, List.setIfInBounds_toArray, List.set_cons_zero, List.set_cons_succ]
            refine take' 6 (v := ?_) rfl (by kernel_rfl) (by kernel_rfl) (by kernel_rfl) (fun _ _ _ h => h) (Or.inl ⟨by rfl, ?_⟩) (by assumption) ?_
            rotate_left
            · intro w9 hSw
              go_simp
              first | done | with_reducible rfl
            simp only [Act.put, List.setIfInBounds_toArray, List.set_cons_zero, List.set_cons_succ]
            refine take' 7 (v := ?_) rfl (by kernel_rfl) (by kernel_rfl) (by kernel_rfl) (fun _ _ _ h => h) (Or.inl ⟨by rfl, ?_⟩) (by assumption) ?_
            rotate_left
            · intro w9 hSw
              go_simp
              first | done | with_reducible rfl
            simp only [Act.put, List.setIfInBounds_toArray, List.set_cons_zero, List.set_cons_succ]
            refine take' 8 (v := ?_) rfl (by kernel_rfl) (by kernel_rfl) (by kernel_rfl) (fun _ _ _ h => h) (Or.inl ⟨by rfl, ?_⟩) (by assumption) ?_
            rotate_left
            · intro w9 hSw
              go_simp
              first | done | with_reducible rfl
            simp only [Act.put, List.setIfInBounds_toArray, List.set_cons_zero, List.set_cons_succ]
            refine take' 9 (v := ?_) rfl (by kernel_rfl) (by kernel_rfl) (by kernel_rfl) (fun _ _ _ h => h) (Or.inl ⟨by rfl, ?_⟩) (by assumption) ?_
            rotate_left
            · intro w9 hSw
              go_simp
              first | done | with_reducible rfl
            simp only [Act.put, List.setIfInBounds_toArray, List.set_cons_zero, List.set_cons_succ]
            refine take' 10 (v := ?_) rfl (by kernel_rfl) (by kernel_rfl) (by kernel_rfl) (fun _ _ _ h => h) (Or.inl ⟨by rfl, ?_⟩) (by assumption) ?_
            rotate_left
            · intro w9 hSw
              go_simp
              first | done | with_reducible rfl
            simp only [Act.put, List.setIfInBounds_toArray, List.set_cons_zero, List.set_cons_succ]
            refine take' 11 (v := ?_) rfl (by kernel_rfl) (by kernel_rfl) (by kernel_rfl) (fun _ _ _ h => h) (Or.inl ⟨by rfl, ?_⟩) (by assumption) ?_
            rotate_left
            · intro w9 hSw
              go_simp
              first | done | with_reducible rfl
            simp only [Act.put, List.setIfInBounds_toArray, List.set_cons_zero, List.set_cons_succ]
            refine take' 12 (v := ?_) rfl (by kernel_rfl) (by kernel_rfl) (by kernel_rfl) (fun _ _ _ h => h) (Or.inl ⟨by rfl, ?_⟩) (by assumption) ?_
            rotate_left
            · intro w9 hSw
              go_simp
              first | done | with_reducible rfl
            simp only [Act.put, List.setIfInBounds_toArray, List.set_cons_zero, List.set_cons_succ]
            refine take' 13 (v := ?_) rfl (by kernel_rfl) (by kernel_rfl) (by kernel_rfl) (fun _ _ _ h => h) (Or.inl ⟨by rfl, ?_⟩) (by assumption) ?_
            rotate_left
            · intro w9 hSw
              go_simp
              first | done | with_reducible rfl
            simp only [Act.put, List.setIfInBounds_toArray, List.set_cons_zero, List.set_cons_succ]
            try simp only [hyx, decide_true, decide_false, gt_iff_lt, ge_iff_le]
            refine take' 14 (v := ?_) rfl (by kernel_rfl) (by kernel_rfl) (by kernel_rfl) (fun _ _ _ h => h) (Or.inl ⟨by rfl, ?_⟩) (by assumption) ?_
            rotate_left
            · intro w9 hSw
              go_simp
              first | done | with_reducible rfl
            simp only [Act.put, List.setIfInBounds_toArray, List.set_cons_zero, List.set_cons_succ]
            refine wpAnyH_done (by kernel_rfl) ?_ _
            clear hHeld bD
            go_wp2
            go_roundw
            case rel => exact ⟨j + 1, by omega, by go_num, hO, hB, fun i z hi hz => by
              rcases Nat.lt_or_ge i j with h1 | h1
              · exact hlo i z h1 hz
              · obtain rfl : i = j := by omega
                rw [hy] at hz; obtain rfl := Option.some.inj hz; exact hyx⟩
            case measure => simp [intOf]; omega
          · have hyx2 : ¬ (y : Int) < x := hyx
            by_cases hye : y = x
            · have hyb : (y == x) = true := by simp [hye]
              go_wp2_with fail
              have bD : Below wr.heap.size wr wr.drew := (Below.refl _ _).drew
              have kcy := below_cell bD cy
              have kc0 := below_cell bD c0
              replace hB := hB.trans (bD.mono hB.size)
              refine wp_region_held_drew (S := fun w' => w'.cell? ⟨g, j, none⟩ = some (.int .i64 y) ∧ w'.cell? ⟨b, off + k, none⟩ = some (.int .i64 x)) (by kernel_rfl) ⟨kcy, kc0⟩ (fun hHeld => ?_)
              clear kcy kc0
              generalize wr.drew = w5 at bD hB hHeld ⊢
              replace hO := own_below hO bD
              replace c0 := below_cell bD c0
              replace cy := below_cell bD cy
              refine take' 0 (v := ?_) rfl (by kernel_rfl) (by kernel_rfl) (by kernel_rfl) (fun _ _ _ h => h) (Or.inl ⟨by rfl, ?_⟩) (by assumption) ?_
              rotate_left
              · intro w9 hSw
                go_simp
                first | done | with_reducible rfl
              simp only [Act.put, List.setIfInBounds_toArray, List.set_cons_zero, List.set_cons_succ]
              refine take' 1 (v := ?_) rfl (by kernel_rfl) (by kernel_rfl) (by kernel_rfl) (fun _ _ _ h => h) (Or.inl ⟨by rfl, ?_⟩) (by assumption) ?_
              rotate_left
              · intro w9 hSw
                go_simp
                first | done | with_reducible rfl
              simp only [Act.put, List.setIfInBounds_toArray, List.set_cons_zero, List.set_cons_succ]
              refine take' 2 (v := ?_) rfl (by kernel_rfl) (by kernel_rfl) (by kernel_rfl) (fun _ _ _ h => h) (Or.inl ⟨by rfl, ?_⟩) (by assumption) ?_
              rotate_left
              · intro w9 hSw
                go_simp
                first | done | with_reducible rfl
              simp only [Act.put, List.setIfInBounds_toArray, List.set_cons_zero, List.set_cons_succ]
              refine take' 3 (v := ?_) rfl (by kernel_rfl) (by kernel_rfl) (by kernel_rfl) (fun _ _ _ h => h) (Or.inl ⟨by rfl, ?_⟩) (by assumption) ?_
              rotate_left
              · intro w9 hSw
                go_simp
                first | done | with_reducible rfl
              simp only [Act.put, List.setIfInBounds_toArray, List.set_cons_zero, List.set_cons_succ]
              try simp only [hjn, decide_true, decide_false, gt_iff_lt, ge_iff_le]
              refine take' 4 (v := ?_) rfl (by kernel_rfl) (by kernel_rfl) (by kernel_rfl) (fun _ _ _ h => h) (Or.inl ⟨by rfl, ?_⟩) (by assumption) ?_
              rotate_left
              · intro w9 hSw
                go_simp
                first | done | with_reducible rfl
              simp only [Act.put, List.setIfInBounds_toArray, List.set_cons_zero, List.set_cons_succ]
              refine take' 5 (v := ?_) rfl (by kernel_rfl) (by kernel_rfl) (by kernel_rfl) (fun _ _ _ h => h) (Or.inl ⟨by rfl, ?_⟩) (by assumption) ?_
              rotate_left
              · intro w9 hSw
                go_simp
                first | done | with_reducible rfl
              simp only [Act.put, List.setIfInBounds_toArray, List.set_cons_zero, List.set_cons_succ]
              refine take' 6 (v := ?_) rfl (by kernel_rfl) (by kernel_rfl) (by kernel_rfl) (fun _ _ _ h => h) (Or.inl ⟨by rfl, ?_⟩) (by assumption) ?_
              rotate_left
              · intro w9 hSw
                go_simp
                first | done | with_reducible rfl
              simp only [Act.put, List.setIfInBounds_toArray, List.set_cons_zero, List.set_cons_succ]
              refine take' 7 (v := ?_) rfl (by kernel_rfl) (by kernel_rfl) (by kernel_rfl) (fun _ _ _ h => h) (Or.inl ⟨by rfl, ?_⟩) (by assumption) ?_
              rotate_left
              · intro w9 hSw
                go_simp
                first | done | with_reducible rfl
              simp only [Act.put, List.setIfInBounds_toArray, List.set_cons_zero, List.set_cons_succ]
              refine take' 8 (v := ?_) rfl (by kernel_rfl) (by kernel_rfl) (by kernel_rfl) (fun _ _ _ h => h) (Or.inl ⟨by rfl, ?_⟩) (by assumption) ?_
              rotate_left
              · intro w9 hSw
                go_simp
                first | done | with_reducible rfl
              simp only [Act.put, List.setIfInBounds_toArray, List.set_cons_zero, List.set_cons_succ]
              refine take' 9 (v := ?_) rfl (by kernel_rfl) (by kernel_rfl) (by kernel_rfl) (fun _ _ _ h => h) (Or.inl ⟨by rfl, ?_⟩) (by assumption) ?_
              rotate_left
              · intro w9 hSw
                go_simp
                first | done | with_reducible rfl
              simp only [Act.put, List.setIfInBounds_toArray, List.set_cons_zero, List.set_cons_succ]
              refine take' 10 (v := ?_) rfl (by kernel_rfl) (by kernel_rfl) (by kernel_rfl) (fun _ _ _ h => h) (Or.inl ⟨by rfl, ?_⟩) (by assumption) ?_
              rotate_left
              · intro w9 hSw
                go_simp
                first | done | with_reducible rfl
              simp only [Act.put, List.setIfInBounds_toArray, List.set_cons_zero, List.set_cons_succ]
              refine take' 11 (v := ?_) rfl (by kernel_rfl) (by kernel_rfl) (by kernel_rfl) (fun _ _ _ h => h) (Or.inl ⟨by rfl, ?_⟩) (by assumption) ?_
              rotate_left
              · intro w9 hSw
                go_simp
                first | done | with_reducible rfl
              simp only [Act.put, List.setIfInBounds_toArray, List.set_cons_zero, List.set_cons_succ]
              refine take' 12 (v := ?_) rfl (by kernel_rfl) (by kernel_rfl) (by kernel_rfl) (fun _ _ _ h => h) (Or.inl ⟨by rfl, ?_⟩) (by assumption) ?_
              rotate_left
              · intro w9 hSw
                go_simp
                first | done | with_reducible rfl
              simp only [Act.put, List.setIfInBounds_toArray, List.set_cons_zero, List.set_cons_succ]
              refine take' 13 (v := ?_) rfl (by kernel_rfl) (by kernel_rfl) (by kernel_rfl) (fun _ _ _ h => h) (Or.inl ⟨by rfl, ?_⟩) (by assumption) ?_
              rotate_left
              · intro w9 hSw
                go_simp
                first | done | with_reducible rfl
              simp only [Act.put, List.setIfInBounds_toArray, List.set_cons_zero, List.set_cons_succ]
              try simp only [hyx, decide_true, decide_false, gt_iff_lt, ge_iff_le]
              refine take' 14 (v := ?_) rfl (by kernel_rfl) (by kernel_rfl) (by kernel_rfl) (fun _ _ _ h => h) (Or.inl ⟨by rfl, ?_⟩) (by assumption) ?_
              rotate_left
              · intro w9 hSw
                go_simp
                first | done | with_reducible rfl
              simp only [Act.put, List.setIfInBounds_toArray, List.set_cons_zero, List.set_cons_succ]
              refine wpAnyH_done (by kernel_rfl) ?_ _
              clear hHeld bD
              go_wp2_with fail
              have bD : Below w5.heap.size w5 w5.drew := (Below.refl _ _).drew
              have kcy := below_cell bD cy
              have kc0 := below_cell bD c0
              replace hB := hB.trans (bD.mono hB.size)
              refine wp_region_held_drew (S := fun w' => w'.cell? ⟨g, j, none⟩ = some (.int .i64 y) ∧ w'.cell? ⟨b, off + k, none⟩ = some (.int .i64 x)) (by kernel_rfl) ⟨kcy, kc0⟩ (fun hHeld => ?_)
              clear kcy kc0
              generalize w5.drew = w6 at bD hB hHeld ⊢
              replace hO := own_below hO bD
              replace c0 := below_cell bD c0
              replace cy := below_cell bD cy
              refine take' 0 (v := ?_) rfl (by kernel_rfl) (by kernel_rfl) (by kernel_rfl) (fun _ _ _ h => h) (Or.inl ⟨by rfl, ?_⟩) (by assumption) ?_
              rotate_left
              · intro w9 hSw
                go_simp
                first | done | with_reducible rfl
              simp only [Act.put, List.setIfInBounds_toArray, List.set_cons_zero, List.set_cons_succ]
              refine take' 1 (v := ?_) rfl (by kernel_rfl) (by kernel_rfl) (by kernel_rfl) (fun _ _ _ h => h) (Or.inl ⟨by rfl, ?_⟩) (by assumption) ?_
              rotate_left
              · intro w9 hSw
                go_simp
                first | done | with_reducible rfl
              simp only [Act.put, List.setIfInBounds_toArray, List.set_cons_zero, List.set_cons_succ]
              refine take' 2 (v := ?_) rfl (by kernel_rfl) (by kernel_rfl) (by kernel_rfl) (fun _ _ _ h => h) (Or.inl ⟨by rfl, ?_⟩) (by assumption) ?_
              rotate_left
              · intro w9 hSw
                go_simp
                first | done | with_reducible rfl
              simp only [Act.put, List.setIfInBounds_toArray, List.set_cons_zero, List.set_cons_succ]
              refine take' 3 (v := ?_) rfl (by kernel_rfl) (by kernel_rfl) (by kernel_rfl) (fun _ _ _ h => h) (Or.inl ⟨by rfl, ?_⟩) (by assumption) ?_
              rotate_left
              · intro w9 hSw
                go_simp
                first | done | with_reducible rfl
              simp only [Act.put, List.setIfInBounds_toArray, List.set_cons_zero, List.set_cons_succ]
              try simp only [hjn, decide_true, decide_false, gt_iff_lt, ge_iff_le]
              refine take' 4 (v := ?_) rfl (by kernel_rfl) (by kernel_rfl) (by kernel_rfl) (fun _ _ _ h => h) (Or.inl ⟨by rfl, ?_⟩) (by assumption) ?_
              rotate_left
              · intro w9 hSw
                go_simp
                first | done | with_reducible rfl
              simp only [Act.put, List.setIfInBounds_toArray, List.set_cons_zero, List.set_cons_succ]
              refine take' 5 (v := ?_) rfl (by kernel_rfl) (by kernel_rfl) (by kernel_rfl) (fun _ _ _ h => h) (Or.inl ⟨by rfl, ?_⟩) (by assumption) ?_
              rotate_left
              · intro w9 hSw
                go_simp
                first | done | with_reducible rfl
              simp only [Act.put, List.setIfInBounds_toArray, List.set_cons_zero, List.set_cons_succ]
              refine take' 6 (v := ?_) rfl (by kernel_rfl) (by kernel_rfl) (by kernel_rfl) (fun _ _ _ h => h) (Or.inl ⟨by rfl, ?_⟩) (by assumption) ?_
              rotate_left
              · intro w9 hSw
                go_simp
                first | done | with_reducible rfl
              simp only [Act.put, List.setIfInBounds_toArray, List.set_cons_zero, List.set_cons_succ]
              refine take' 7 (v := ?_) rfl (by kernel_rfl) (by kernel_rfl) (by kernel_rfl) (fun _ _ _ h => h) (Or.inl ⟨by rfl, ?_⟩) (by assumption) ?_
              rotate_left
              · intro w9 hSw
                go_simp
                first | done | with_reducible rfl
              simp only [Act.put, List.setIfInBounds_toArray, List.set_cons_zero, List.set_cons_succ]
              refine take' 8 (v := ?_) rfl (by kernel_rfl) (by kernel_rfl) (by kernel_rfl) (fun _ _ _ h => h) (Or.inl ⟨by rfl, ?_⟩) (by assumption) ?_
              rotate_left
              · intro w9 hSw
                go_simp
                first | done | with_reducible rfl
              simp only [Act.put, List.setIfInBounds_toArray, List.set_cons_zero, List.set_cons_succ]
              refine take' 9 (v := ?_) rfl (by kernel_rfl) (by kernel_rfl) (by kernel_rfl) (fun _ _ _ h => h) (Or.inl ⟨by rfl, ?_⟩) (by assumption) ?_
              rotate_left
              · intro w9 hSw
                go_simp
                first | done | with_reducible rfl
              simp only [Act.put, List.setIfInBounds_toArray, List.set_cons_zero, List.set_cons_succ]
              refine take' 10 (v := ?_) rfl (by kernel_rfl) (by kernel_rfl) (by kernel_rfl) (fun _ _ _ h => h) (Or.inl ⟨by rfl, ?_⟩) (by assumption) ?_
              rotate_left
              · intro w9 hSw
                go_simp
                first | done | with_reducible rfl
              simp only [Act.put, List.setIfInBounds_toArray, List.set_cons_zero, List.set_cons_succ]
              refine take' 11 (v := ?_) rfl (by kernel_rfl) (by kernel_rfl) (by kernel_rfl) (fun _ _ _ h => h) (Or.inl ⟨by rfl, ?_⟩) (by assumption) ?_
              rotate_left
              · intro w9 hSw
                go_simp
                first | done | with_reducible rfl
              simp only [Act.put, List.setIfInBounds_toArray, List.set_cons_zero, List.set_cons_succ]
              refine take' 12 (v := ?_) rfl (by kernel_rfl) (by kernel_rfl) (by kernel_rfl) (fun _ _ _ h => h) (Or.inl ⟨by rfl, ?_⟩) (by assumption) ?_
              rotate_left
              · intro w9 hSw
                go_simp
                first | done | with_reducible rfl
              simp only [Act.put, List.setIfInBounds_toArray, List.set_cons_zero, List.set_cons_succ]
              refine take' 13 (v := ?_) rfl (by kernel_rfl) (by kernel_rfl) (by kernel_rfl) (fun _ _ _ h => h) (Or.inl ⟨by rfl, ?_⟩) (by assumption) ?_
              rotate_left
              · intro w9 hSw
                go_simp
                first | done | with_reducible rfl
              simp only [Act.put, List.setIfInBounds_toArray, List.set_cons_zero, List.set_cons_succ]
              try simp only [hyb, decide_true, decide_false, gt_iff_lt, ge_iff_le]
              refine take' 14 (v := ?_) rfl (by kernel_rfl) (by kernel_rfl) (by kernel_rfl) (fun _ _ _ h => h) (Or.inl ⟨by rfl, ?_⟩) (by assumption) ?_
              rotate_left
              · intro w9 hSw
                go_simp
                first | done | with_reducible rfl
              simp only [Act.put, List.setIfInBounds_toArray, List.set_cons_zero, List.set_cons_succ]
              refine wpAnyH_done (by kernel_rfl) ?_ _
              clear hHeld bD
              have I1 := hide' (show SInv w zs (k + 1) (.slice (some ⟨g, 0, none⟩) n co) w6 from ⟨ys, by rw [HY.out.1]; exact hO, hB, by rw [HY.out.2.2.1]; exact HY.out.2.1.same (by rw [← hye]; exact hy)⟩)
              go_wp2
              go_roundw
              case rel => exact ⟨k + 1, by omega, by go_num, I1.out⟩
              case measure => simp [intOf]; omega
            · have hyb : (y == x) = false := by simp [hye]
              have hhi : ∀ z, ys[j]? = some z → x < z := fun z hz => by rw [hy] at hz; obtain rfl := Option.some.inj hz; omega
              go_wp2_with fail
              have bD : Below wr.heap.size wr wr.drew := (Below.refl _ _).drew
              have kcy := below_cell bD cy
              have kc0 := below_cell bD c0
              replace hB := hB.trans (bD.mono hB.size)
              refine wp_region_held_drew (S := fun w' => w'.cell? ⟨g, j, none⟩ = some (.int .i64 y) ∧ w'.cell? ⟨b, off + k, none⟩ = some (.int .i64 x)) (by kernel_rfl) ⟨kcy, kc0⟩ (fun hHeld => ?_)
              clear kcy kc0
              generalize wr.drew = w5 at bD hB hHeld ⊢
              replace hO := own_below hO bD
              replace c0 := below_cell bD c0
              replace cy := below_cell bD cy
              refine take' 0 (v := ?_) rfl (by kernel_rfl) (by kernel_rfl) (by kernel_rfl) (fun _ _ _ h => h) (Or.inl ⟨by rfl, ?_⟩) (by assumption) ?_
              rotate_left
              · intro w9 hSw
                go_simp
                first | done | with_reducible rfl
              simp only [Act.put, List.setIfInBounds_toArray, List.set_cons_zero, List.set_cons_succ]
              refine take' 1 (v := ?_) rfl (by kernel_rfl) (by kernel_rfl) (by kernel_rfl) (fun _ _ _ h => h) (Or.inl ⟨by rfl, ?_⟩) (by assumption) ?_
              rotate_left
              · intro w9 hSw
                go_simp
                first | done | with_reducible rfl
              simp only [Act.put, List.setIfInBounds_toArray, List.set_cons_zero, List.set_cons_succ]
              refine take' 2 (v := ?_) rfl (by kernel_rfl) (by kernel_rfl) (by kernel_rfl) (fun _ _ _ h => h) (Or.inl ⟨by rfl, ?_⟩) (by assumption) ?_
              rotate_left
              · intro w9 hSw
                go_simp
                first | done | with_reducible rfl
              simp only [Act.put, List.setIfInBounds_toArray, List.set_cons_zero, List.set_cons_succ]
              refine take' 3 (v := ?_) rfl (by kernel_rfl) (by kernel_rfl) (by kernel_rfl) (fun _ _ _ h => h) (Or.inl ⟨by rfl, ?_⟩) (by assumption) ?_
              rotate_left
              · intro w9 hSw
                go_simp
                first | done | with_reducible rfl
              simp only [Act.put, List.setIfInBounds_toArray, List.set_cons_zero, List.set_cons_succ]
              try simp only [hjn, decide_true, decide_false, gt_iff_lt, ge_iff_le]
              refine take' 4 (v := ?_) rfl (by kernel_rfl) (by kernel_rfl) (by kernel_rfl) (fun _ _ _ h => h) (Or.inl ⟨by rfl, ?_⟩) (by assumption) ?_
              rotate_left
              · intro w9 hSw
                go_simp
                first | done | with_reducible rfl
              simp only [Act.put, List.setIfInBounds_toArray, List.set_cons_zero, List.set_cons_succ]
              refine take' 5 (v := ?_) rfl (by kernel_rfl) (by kernel_rfl) (by kernel_rfl) (fun _ _ _ h => h) (Or.inl ⟨by rfl, ?_⟩) (by assumption) ?_
              rotate_left
              · intro w9 hSw
                go_simp
                first | done | with_reducible rfl
              simp only [Act.put, List.setIfInBounds_toArray, List.set_cons_zero, List.set_cons_succ]
              refine take' 6 (v := ?_) rfl (by kernel_rfl) (by kernel_rfl) (by kernel_rfl) (fun _ _ _ h => h) (Or.inl ⟨by rfl, ?_⟩) (by assumption) ?_
              rotate_left
              · intro w9 hSw
                go_simp
                first | done | with_reducible rfl
              simp only [Act.put, List.setIfInBounds_toArray, List.set_cons_zero, List.set_cons_succ]
              refine take' 7 (v := ?_) rfl (by kernel_rfl) (by kernel_rfl) (by kernel_rfl) (fun _ _ _ h => h) (Or.inl ⟨by rfl, ?_⟩) (by assumption) ?_
              rotate_left
              · intro w9 hSw
                go_simp
                first | done | with_reducible rfl
              simp only [Act.put, List.setIfInBounds_toArray, List.set_cons_zero, List.set_cons_succ]
              refine take' 8 (v := ?_) rfl (by kernel_rfl) (by kernel_rfl) (by kernel_rfl) (fun _ _ _ h => h) (Or.inl ⟨by rfl, ?_⟩) (by assumption) ?_
              rotate_left
              · intro w9 hSw
                go_simp
                first | done | with_reducible rfl
              simp only [Act.put, List.setIfInBounds_toArray, List.set_cons_zero, List.set_cons_succ]
              refine take' 9 (v := ?_) rfl (by kernel_rfl) (by kernel_rfl) (by kernel_rfl) (fun _ _ _ h => h) (Or.inl ⟨by rfl, ?_⟩) (by assumption) ?_
              rotate_left
              · intro w9 hSw
                go_simp
                first | done | with_reducible rfl
              simp only [Act.put, List.setIfInBounds_toArray, List.set_cons_zero, List.set_cons_succ]
              refine take' 10 (v := ?_) rfl (by kernel_rfl) (by kernel_rfl) (by kernel_rfl) (fun _ _ _ h => h) (Or.inl ⟨by rfl, ?_⟩) (by assumption) ?_
              rotate_left
              · intro w9 hSw
                go_simp
                first | done | with_reducible rfl
              simp only [Act.put, List.setIfInBounds_toArray, List.set_cons_zero, List.set_cons_succ]
              refine take' 11 (v := ?_) rfl (by kernel_rfl) (by kernel_rfl) (by kernel_rfl) (fun _ _ _ h => h) (Or.inl ⟨by rfl, ?_⟩) (by assumption) ?_
              rotate_left
              · intro w9 hSw
                go_simp
                first | done | with_reducible rfl
              simp only [Act.put, List.setIfInBounds_toArray, List.set_cons_zero, List.set_cons_succ]
              refine take' 12 (v := ?_) rfl (by kernel_rfl) (by kernel_rfl) (by kernel_rfl) (fun _ _ _ h => h) (Or.inl ⟨by rfl, ?_⟩) (by assumption) ?_
              rotate_left
              · intro w9 hSw
                go_simp
                first | done | with_reducible rfl
              simp only [Act.put, List.setIfInBounds_toArray, List.set_cons_zero, List.set_cons_succ]
              refine take' 13 (v := ?_) rfl (by kernel_rfl) (by kernel_rfl) (by kernel_rfl) (fun _ _ _ h => h) (Or.inl ⟨by rfl, ?_⟩) (by assumption) ?_
              rotate_left
              · intro w9 hSw
                go_simp
                first | done | with_reducible rfl
              simp only [Act.put, List.setIfInBounds_toArray, List.set_cons_zero, List.set_cons_succ]
              try simp only [hyx, decide_true, decide_false, gt_iff_lt, ge_iff_le]
              refine take' 14 (v := ?_) rfl (by kernel_rfl) (by kernel_rfl) (by kernel_rfl) (fun _ _ _ h => h) (Or.inl ⟨by rfl, ?_⟩) (by assumption) ?_
              rotate_left
              · intro w9 hSw
                go_simp
                first | done | with_reducible rfl
              simp only [Act.put, List.setIfInBounds_toArray, List.set_cons_zero, List.set_cons_succ]
              refine wpAnyH_done (by kernel_rfl) ?_ _
              clear hHeld bD
              go_wp2_with fail
              have bD : Below w5.heap.size w5 w5.drew := (Below.refl _ _).drew
              have kcy := below_cell bD cy
              have kc0 := below_cell bD c0
              replace hB := hB.trans (bD.mono hB.size)
              refine wp_region_held_drew (S := fun w' => w'.cell? ⟨g, j, none⟩ = some (.int .i64 y) ∧ w'.cell? ⟨b, off + k, none⟩ = some (.int .i64 x)) (by kernel_rfl) ⟨kcy, kc0⟩ (fun hHeld => ?_)
              clear kcy kc0
              generalize w5.drew = w6 at bD hB hHeld ⊢
              replace hO := own_below hO bD
              replace c0 := below_cell bD c0
              replace cy := below_cell bD cy
              refine take' 0 (v := ?_) rfl (by kernel_rfl) (by kernel_rfl) (by kernel_rfl) (fun _ _ _ h => h) (Or.inl ⟨by rfl, ?_⟩) (by assumption) ?_
              rotate_left
              · intro w9 hSw
                go_simp
                first | done | with_reducible rfl
              simp only [Act.put, List.setIfInBounds_toArray, List.set_cons_zero, List.set_cons_succ]
              refine take' 1 (v := ?_) rfl (by kernel_rfl) (by kernel_rfl) (by kernel_rfl) (fun _ _ _ h => h) (Or.inl ⟨by rfl, ?_⟩) (by assumption) ?_
              rotate_left
              · intro w9 hSw
                go_simp
                first | done | with_reducible rfl
              simp only [Act.put, List.setIfInBounds_toArray, List.set_cons_zero, List.set_cons_succ]
              refine take' 2 (v := ?_) rfl (by kernel_rfl) (by kernel_rfl) (by kernel_rfl) (fun _ _ _ h => h) (Or.inl ⟨by rfl, ?_⟩) (by assumption) ?_
              rotate_left
              · intro w9 hSw
                go_simp
                first | done | with_reducible rfl
              simp only [Act.put, List.setIfInBounds_toArray, List.set_cons_zero, List.set_cons_succ]
              refine take' 3 (v := ?_) rfl (by kernel_rfl) (by kernel_rfl) (by kernel_rfl) (fun _ _ _ h => h) (Or.inl ⟨by rfl, ?_⟩) (by assumption) ?_
              rotate_left
              · intro w9 hSw
                go_simp
                first | done | with_reducible rfl
              simp only [Act.put, List.setIfInBounds_toArray, List.set_cons_zero, List.set_cons_succ]
              try simp only [hjn, decide_true, decide_false, gt_iff_lt, ge_iff_le]
              refine take' 4 (v := ?_) rfl (by kernel_rfl) (by kernel_rfl) (by kernel_rfl) (fun _ _ _ h => h) (Or.inl ⟨by rfl, ?_⟩) (by assumption) ?_
              rotate_left
              · intro w9 hSw
                go_simp
                first | done | with_reducible rfl
              simp only [Act.put, List.setIfInBounds_toArray, List.set_cons_zero, List.set_cons_succ]
              refine take' 5 (v := ?_) rfl (by kernel_rfl) (by kernel_rfl) (by kernel_rfl) (fun _ _ _ h => h) (Or.inl ⟨by rfl, ?_⟩) (by assumption) ?_
              rotate_left
              · intro w9 hSw
                go_simp
                first | done | with_reducible rfl
              simp only [Act.put, List.setIfInBounds_toArray, List.set_cons_zero, List.set_cons_succ]
              refine take' 6 (v := ?_) rfl (by kernel_rfl) (by kernel_rfl) (by kernel_rfl) (fun _ _ _ h => h) (Or.inl ⟨by rfl, ?_⟩) (by assumption) ?_
              rotate_left
              · intro w9 hSw
                go_simp
                first | done | with_reducible rfl
              simp only [Act.put, List.setIfInBounds_toArray, List.set_cons_zero, List.set_cons_succ]
              refine take' 7 (v := ?_) rfl (by kernel_rfl) (by kernel_rfl) (by kernel_rfl) (fun _ _ _ h => h) (Or.inl ⟨by rfl, ?_⟩) (by assumption) ?_
              rotate_left
              · intro w9 hSw
                go_simp
                first | done | with_reducible rfl
              simp only [Act.put, List.setIfInBounds_toArray, List.set_cons_zero, List.set_cons_succ]
              refine take' 8 (v := ?_) rfl (by kernel_rfl) (by kernel_rfl) (by kernel_rfl) (fun _ _ _ h => h) (Or.inl ⟨by rfl, ?_⟩) (by assumption) ?_
              rotate_left
              · intro w9 hSw
                go_simp
                first | done | with_reducible rfl
              simp only [Act.put, List.setIfInBounds_toArray, List.set_cons_zero, List.set_cons_succ]
              refine take' 9 (v := ?_) rfl (by kernel_rfl) (by kernel_rfl) (by kernel_rfl) (fun _ _ _ h => h) (Or.inl ⟨by rfl, ?_⟩) (by assumption) ?_
              rotate_left
              · intro w9 hSw
                go_simp
                first | done | with_reducible rfl
              simp only [Act.put, List.setIfInBounds_toArray, List.set_cons_zero, List.set_cons_succ]
              refine take' 10 (v := ?_) rfl (by kernel_rfl) (by kernel_rfl) (by kernel_rfl) (fun _ _ _ h => h) (Or.inl ⟨by rfl, ?_⟩) (by assumption) ?_
              rotate_left
              · intro w9 hSw
                go_simp
                first | done | with_reducible rfl
              simp only [Act.put, List.setIfInBounds_toArray, List.set_cons_zero, List.set_cons_succ]
              refine take' 11 (v := ?_) rfl (by kernel_rfl) (by kernel_rfl) (by kernel_rfl) (fun _ _ _ h => h) (Or.inl ⟨by rfl, ?_⟩) (by assumption) ?_
              rotate_left
              · intro w9 hSw
                go_simp
                first | done | with_reducible rfl
              simp only [Act.put, List.setIfInBounds_toArray, List.set_cons_zero, List.set_cons_succ]
              refine take' 12 (v := ?_) rfl (by kernel_rfl) (by kernel_rfl) (by kernel_rfl) (fun _ _ _ h => h) (Or.inl ⟨by rfl, ?_⟩) (by assumption) ?_
              rotate_left
              · intro w9 hSw
                go_simp
                first | done | with_reducible rfl
              simp only [Act.put, List.setIfInBounds_toArray, List.set_cons_zero, List.set_cons_succ]
              refine take' 13 (v := ?_) rfl (by kernel_rfl) (by kernel_rfl) (by kernel_rfl) (fun _ _ _ h => h) (Or.inl ⟨by rfl, ?_⟩) (by assumption) ?_
              rotate_left
              · intro w9 hSw
                go_simp
                first | done | with_reducible rfl
              simp only [Act.put, List.setIfInBounds_toArray, List.set_cons_zero, List.set_cons_succ]
              try simp only [hyb, decide_true, decide_false, gt_iff_lt, ge_iff_le]
              refine take' 14 (v := ?_) rfl (by kernel_rfl) (by kernel_rfl) (by kernel_rfl) (fun _ _ _ h => h) (Or.inl ⟨by rfl, ?_⟩) (by assumption) ?_
              rotate_left
              · intro w9 hSw
                go_simp
                first | done | with_reducible rfl
              simp only [Act.put, List.setIfInBounds_toArray, List.set_cons_zero, List.set_cons_succ]
              refine wpAnyH_done (by kernel_rfl) ?_ _
              clear hHeld bD
              clear cy hgl hcp hye hyb hyx2 hyx
              obtain ⟨wB, hwB⟩ : ∃ wB, w6.alloc (.cells #[.int .i64 0] 3) = wB := ⟨_, rfl⟩
              have hnew := heap_alloc_new w6 (.cells #[.int .i64 0] 3)
              have b3 := below_alloc (w := w6) (.cells #[.int .i64 0] 3)
              rw [hwB] at hnew b3
              have hO3 := own_below hO b3
              have s3 := b3.size
              have s4 := hB.size
              have hbB : w.heap.size ≤ wB.heap.size := by omega
              have hbl : (n + 1) * 8 ≤ 140737488355328 := by omega
              have hrow := fun k hk => (hO.lt k hk)
              go_wp2_with (at_builtin; (try rw [hwB]); refine wpList_append_lies _ (by rfl) _ _ _ (by rfl) w.heap.size 3 i0 _ 1 8 Try.underlying24 hi0 hz0 hz1 hz2 rfl (by omega) _ n (iv ys) (by rfl) hO3 ⟨w6.heap.size, 0, none⟩ 1 1 [.int .i64 0] (by rfl) (by rfl) (World.news_of_block (cs := #[.int .i64 0]) (t := 3) (fr := (0, 0)) hnew) (by simp [Value.oneCell']) (by omega) (by simp only [maxLen]; omega) hbl hbB wB.heap.size rfl ?_)
              intro gb cap w9 hown4 hgrow hat hlt4
              have hB3 := hB.trans (b3.mono hB.size)
              have b9 := below_grown hB3.size (fun k hk => (hrow k hk).1) hgrow
              have hB9 := hB3.trans b9
              have hgb : w.heap.size ≤ gb := by
                rcases hat with h | h
                · exact (hrow _ h).1
                · omega
              have hO9 : w9.ownsRow w.heap.size 3 1 (.slice (some ⟨gb, 0, none⟩) (n + 1) cap) (n + 1) (iv (shf ys n)) := by
                have e := shf_top ys
                rw [HY.out.1] at e
                rw [e, iv_append]
                exact hown4
              clear hown4 hgrow hat hwB hnew b3 hO3 hB3 b9 hrow s3 hbB hbl
              have c9 := below_cell hB9 hcx
              clear hO hB s4 c0
              obtain ⟨N1, hN1⟩ : ∃ N1, n + 1 = N1 := ⟨_, rfl⟩
              rw [hN1] at hO9 ⊢
              have q0 : (N1 : Int) - 1 = (n : Int) := by omega
              have q1 : IntKind.i64.wrap (n : Int) = (n : Int) := Go.IntWalk.i64_in _ (by omega)
              have q2 : (0 : Int) ≤ (N1 : Int) := by omega
              have q3 : (N1 : Int) ≤ 2097153 := by omega
              have HN := hide' hN1
              clear hN1
              go_wp2_with fail
              go_loopw [6] (fun vi wr => ∃ m : Nat, j ≤ m ∧ m ≤ n ∧ vi = .int .i64 m ∧ wr.ownsRow w.heap.size 3 1 (.slice (some ⟨gb, 0, none⟩) N1 cap) N1 (iv (shf ys m)) ∧ Below w.heap.size w wr) (fun vi _ => (intOf vi).toNat - j)
              case atStart => exact ⟨n, hj, Nat.le_refl _, by first | rfl | rw [q0] | go_num, hO9, hB9⟩
              case round =>
                clear hO9 hB9 c9
                obtain ⟨m, hjm, hmn, rfl, hO, hB⟩ := hrel
                have c9 := below_cell hB hcx
                by_cases hlt9 : j < m
                · obtain ⟨m9, hm9⟩ : ∃ m9, m = m9 + 1 := ⟨m - 1, by omega⟩
                  obtain ⟨z, hz⟩ : ∃ z, ys[m9]? = some z := ⟨ys[m9]'(by have := HY.out.1; omega), List.getElem?_eq_getElem _⟩
                  have hat : (shf ys m)[m9]? = some z := by rw [hm9, shf_at (by have := HY.out.1; omega)]; exact hz
                  have hc9 := hO.cellAt m9 (by have := HN.out; omega)
                  rw [iv_at hat] at hc9
                  have hfz := hO.frozenAt m
                  have hst := (hO.stored m (.int .i64 z)).1
                  rw [iv_set, hm9, shf_step (by have := HY.out.1; omega) hz, ← hm9] at hst
                  have hc8 : ∃ z8, (shf ys m)[m]? = some z8 := ⟨_, List.getElem?_eq_getElem (by rw [shf_length (by have := HY.out.1; omega)]; have := HY.out.1; omega)⟩
                  obtain ⟨z8, hz8⟩ := hc8
                  have hd9 := hO.cellAt m (by have := HN.out; omega)
                  rw [iv_at hz8] at hd9
                  have m0 : (m : Int) - 1 = (m9 : Int) := by omega
                  have m1 : (0 : Int) ≤ (m9 : Int) := by omega
                  have m2 : (m9 : Int) < (N1 : Int) := by have := HN.out; omega
                  have m3 : (m : Int) < (N1 : Int) := by have := HN.out; omega
                  have m4 : (0 : Int) ≤ (m : Int) := by omega
                  have m5 : IntKind.i64.wrap (m9 : Int) = (m9 : Int) := Go.IntWalk.i64_in _ (by omega)
                  have m6 : (j : Int) < (m : Int) := by omega
                  have I1 := hide' (And.intro hst (bset (c := gb) (o := m) (u := .int .i64 z) hB hgb))
                  have HM := hide' hm9
                  clear hm9 hst hat hz hz8
                  go_wp2
                  go_roundw
                  case rel => exact ⟨m9, by have := HM.out; omega, by have := HM.out; omega, by first | rfl | rw [m0] | go_num, I1.out.1, I1.out.2⟩
                  case measure => have := HM.out; simp [intOf]; omega
                · obtain rfl : m = j := by omega
                  have m6 : ¬ (m : Int) < (m : Int) := by omega
                  have hc8 : ∃ z8, (shf ys m)[m]? = some z8 := ⟨_, List.getElem?_eq_getElem (by rw [shf_length (by have := HY.out.1; omega)]; have := HY.out.1; omega)⟩
                  obtain ⟨z8, hz8⟩ := hc8
                  have hd9 := hO.cellAt m (by have := HN.out; omega)
                  rw [iv_at hz8] at hd9
                  have hfz := hO.frozenAt m
                  have hst := (hO.stored m (.int .i64 x)).1
                  rw [iv_set, shf_put (by have := HY.out.1; omega)] at hst
                  have m3 : (m : Int) < (N1 : Int) := by have := HN.out; omega
                  have m4 : (0 : Int) ≤ (m : Int) := by omega
                  have hY9 := HY.out.2.1.put (x := x) (j := m) (by have := HY.out.1; omega) hlo hhi
                  rw [← HY.out.2.2.1] at hY9
                  have hl9 : (ys.take m ++ x :: ys.drop m).length = N1 := by have := HY.out.1; have := HN.out; simp only [List.length_append, List.length_take, List.length_cons, List.length_drop]; omega
                  have I1 := hide' (And.intro (show _ from (by rw [hl9]; exact hst : ((wr.setCell ⟨gb, m, none⟩ (.int .i64 x)).ownsRow w.heap.size 3 1 (.slice (some ⟨gb, 0, none⟩) N1 cap) (ys.take m ++ x :: ys.drop m).length (iv (ys.take m ++ x :: ys.drop m))))) (And.intro (bset (c := gb) (o := m) (u := .int .i64 x) hB hgb) hY9))
                  clear hst hY9 hl9 hz8
                  go_wp2
                  go_roundw
                  case rel => exact ⟨k + 1, by omega, by go_num, _, I1.out.1, I1.out.2.1, I1.out.2.2⟩
                  case measure => simp [intOf]; omega
        · have hhi : ∀ z, ys[j]? = some z → x < z := fun z hz => by have h1 := (List.getElem?_eq_some_iff.1 hz).1; have := HY.out.1; omega
          go_wp2_with fail
          have bD : Below wr.heap.size wr wr.drew := (Below.refl _ _).drew
          replace hB := hB.trans (bD.mono hB.size)
          refine wp_region_held_drew (S := fun w' => True) (by kernel_rfl) trivial (fun hHeld => ?_)
          generalize wr.drew = w5 at bD hB hHeld ⊢
          replace hO := own_below hO bD
          replace c0 := below_cell bD c0
          refine take' 0 (v := ?_) rfl (by kernel_rfl) (by kernel_rfl) (by kernel_rfl) (fun _ _ _ h => h) (Or.inl ⟨by rfl, ?_⟩) (by assumption) ?_
          rotate_left
          · intro w9 hSw
            go_simp
            first | done | with_reducible rfl
          simp only [Act.put, List.setIfInBounds_toArray, List.set_cons_zero, List.set_cons_succ]
          refine take' 1 (v := ?_) rfl (by kernel_rfl) (by kernel_rfl) (by kernel_rfl) (fun _ _ _ h => h) (Or.inl ⟨by rfl, ?_⟩) (by assumption) ?_
          rotate_left
          · intro w9 hSw
            go_simp
            first | done | with_reducible rfl
          simp only [Act.put, List.setIfInBounds_toArray, List.set_cons_zero, List.set_cons_succ]
          refine take' 2 (v := ?_) rfl (by kernel_rfl) (by kernel_rfl) (by kernel_rfl) (fun _ _ _ h => h) (Or.inl ⟨by rfl, ?_⟩) (by assumption) ?_
          rotate_left
          · intro w9 hSw
            go_simp
            first | done | with_reducible rfl
          simp only [Act.put, List.setIfInBounds_toArray, List.set_cons_zero, List.set_cons_succ]
          refine take' 3 (v := ?_) rfl (by kernel_rfl) (by kernel_rfl) (by kernel_rfl) (fun _ _ _ h => h) (Or.inl ⟨by rfl, ?_⟩) (by assumption) ?_
          rotate_left
          · intro w9 hSw
            go_simp
            first | done | with_reducible rfl
          simp only [Act.put, List.setIfInBounds_toArray, List.set_cons_zero, List.set_cons_succ]
          try simp only [hjn, decide_true, decide_false, gt_iff_lt, ge_iff_le]
          refine take' 4 (v := ?_) rfl (by kernel_rfl) (by kernel_rfl) (by kernel_rfl) (fun _ _ _ h => h) (Or.inl ⟨by rfl, ?_⟩) (by assumption) ?_
          rotate_left
          · intro w9 hSw
            go_simp
            first | done | with_reducible rfl
          simp only [Act.put, List.setIfInBounds_toArray, List.set_cons_zero, List.set_cons_succ]
          refine take' 5 (v := undef) rfl (by kernel_rfl) (by kernel_rfl) (by kernel_rfl) (fun _ _ _ h => h) (Or.inr ⟨by rfl, rfl⟩) (by assumption) ?_
          simp only [Act.put, List.setIfInBounds_toArray, List.set_cons_zero, List.set_cons_succ]
          refine take' 6 (v := undef) rfl (by kernel_rfl) (by kernel_rfl) (by kernel_rfl) (fun _ _ _ h => h) (Or.inr ⟨by rfl, rfl⟩) (by assumption) ?_
          simp only [Act.put, List.setIfInBounds_toArray, List.set_cons_zero, List.set_cons_succ]
          refine take' 7 (v := undef) rfl (by kernel_rfl) (by kernel_rfl) (by kernel_rfl) (fun _ _ _ h => h) (Or.inr ⟨by rfl, rfl⟩) (by assumption) ?_
          simp only [Act.put, List.setIfInBounds_toArray, List.set_cons_zero, List.set_cons_succ]
          refine take' 8 (v := undef) rfl (by kernel_rfl) (by kernel_rfl) (by kernel_rfl) (fun _ _ _ h => h) (Or.inr ⟨by rfl, rfl⟩) (by assumption) ?_
          simp only [Act.put, List.setIfInBounds_toArray, List.set_cons_zero, List.set_cons_succ]
          refine take' 9 (v := undef) rfl (by kernel_rfl) (by kernel_rfl) (by kernel_rfl) (fun _ _ _ h => h) (Or.inr ⟨by rfl, rfl⟩) (by assumption) ?_
          simp only [Act.put, List.setIfInBounds_toArray, List.set_cons_zero, List.set_cons_succ]
          refine take' 10 (v := undef) rfl (by kernel_rfl) (by kernel_rfl) (by kernel_rfl) (fun _ _ _ h => h) (Or.inr ⟨by rfl, rfl⟩) (by assumption) ?_
          simp only [Act.put, List.setIfInBounds_toArray, List.set_cons_zero, List.set_cons_succ]
          refine take' 11 (v := undef) rfl (by kernel_rfl) (by kernel_rfl) (by kernel_rfl) (fun _ _ _ h => h) (Or.inr ⟨by rfl, rfl⟩) (by assumption) ?_
          simp only [Act.put, List.setIfInBounds_toArray, List.set_cons_zero, List.set_cons_succ]
          refine take' 12 (v := undef) rfl (by kernel_rfl) (by kernel_rfl) (by kernel_rfl) (fun _ _ _ h => h) (Or.inr ⟨by rfl, rfl⟩) (by assumption) ?_
          simp only [Act.put, List.setIfInBounds_toArray, List.set_cons_zero, List.set_cons_succ]
          refine take' 13 (v := undef) rfl (by kernel_rfl) (by kernel_rfl) (by kernel_rfl) (fun _ _ _ h => h) (Or.inr ⟨by rfl, rfl⟩) (by assumption) ?_
          simp only [Act.put, List.setIfInBounds_toArray, List.set_cons_zero, List.set_cons_succ]
          refine take' 14 (v := ?_) rfl (by kernel_rfl) (by kernel_rfl) (by kernel_rfl) (fun _ _ _ h => h) (Or.inl ⟨by rfl, ?_⟩) (by assumption) ?_
          rotate_left
          · intro w9 hSw
            go_simp
            first | done | with_reducible rfl
          simp only [Act.put, List.setIfInBounds_toArray, List.set_cons_zero, List.set_cons_succ]
          refine wpAnyH_done (by kernel_rfl) ?_ _
          clear hHeld bD
          go_wp2_with fail
          have bD : Below w5.heap.size w5 w5.drew := (Below.refl _ _).drew
          replace hB := hB.trans (bD.mono hB.size)
          refine wp_region_held_drew (S := fun w' => True) (by kernel_rfl) trivial (fun hHeld => ?_)
          generalize w5.drew = w6 at bD hB hHeld ⊢
          replace hO := own_below hO bD
          replace c0 := below_cell bD c0
          refine take' 0 (v := ?_) rfl (by kernel_rfl) (by kernel_rfl) (by kernel_rfl) (fun _ _ _ h => h) (Or.inl ⟨by rfl, ?_⟩) (by assumption) ?_
          rotate_left
          · intro w9 hSw
            go_simp
            first | done | with_reducible rfl
          simp only [Act.put, List.setIfInBounds_toArray, List.set_cons_zero, List.set_cons_succ]
          refine take' 1 (v := ?_) rfl (by kernel_rfl) (by kernel_rfl) (by kernel_rfl) (fun _ _ _ h => h) (Or.inl ⟨by rfl, ?_⟩) (by assumption) ?_
          rotate_left
          · intro w9 hSw
            go_simp
            first | done | with_reducible rfl
          simp only [Act.put, List.setIfInBounds_toArray, List.set_cons_zero, List.set_cons_succ]
          refine take' 2 (v := ?_) rfl (by kernel_rfl) (by kernel_rfl) (by kernel_rfl) (fun _ _ _ h => h) (Or.inl ⟨by rfl, ?_⟩) (by assumption) ?_
          rotate_left
          · intro w9 hSw
            go_simp
            first | done | with_reducible rfl
          simp only [Act.put, List.setIfInBounds_toArray, List.set_cons_zero, List.set_cons_succ]
          refine take' 3 (v := ?_) rfl (by kernel_rfl) (by kernel_rfl) (by kernel_rfl) (fun _ _ _ h => h) (Or.inl ⟨by rfl, ?_⟩) (by assumption) ?_
          rotate_left
          · intro w9 hSw
            go_simp
            first | done | with_reducible rfl
          simp only [Act.put, List.setIfInBounds_toArray, List.set_cons_zero, List.set_cons_succ]
          try simp only [hjn, decide_true, decide_false, gt_iff_lt, ge_iff_le]
          refine take' 4 (v := ?_) rfl (by kernel_rfl) (by kernel_rfl) (by kernel_rfl) (fun _ _ _ h => h) (Or.inl ⟨by rfl, ?_⟩) (by assumption) ?_
          rotate_left
          · intro w9 hSw
            go_simp
            first | done | with_reducible rfl
          simp only [Act.put, List.setIfInBounds_toArray, List.set_cons_zero, List.set_cons_succ]
          refine take' 5 (v := undef) rfl (by kernel_rfl) (by kernel_rfl) (by kernel_rfl) (fun _ _ _ h => h) (Or.inr ⟨by rfl, rfl⟩) (by assumption) ?_
          simp only [Act.put, List.setIfInBounds_toArray, List.set_cons_zero, List.set_cons_succ]
          refine take' 6 (v := undef) rfl (by kernel_rfl) (by kernel_rfl) (by kernel_rfl) (fun _ _ _ h => h) (Or.inr ⟨by rfl, rfl⟩) (by assumption) ?_
          simp only [Act.put, List.setIfInBounds_toArray, List.set_cons_zero, List.set_cons_succ]
          refine take' 7 (v := undef) rfl (by kernel_rfl) (by kernel_rfl) (by kernel_rfl) (fun _ _ _ h => h) (Or.inr ⟨by rfl, rfl⟩) (by assumption) ?_
          simp only [Act.put, List.setIfInBounds_toArray, List.set_cons_zero, List.set_cons_succ]
          refine take' 8 (v := undef) rfl (by kernel_rfl) (by kernel_rfl) (by kernel_rfl) (fun _ _ _ h => h) (Or.inr ⟨by rfl, rfl⟩) (by assumption) ?_
          simp only [Act.put, List.setIfInBounds_toArray, List.set_cons_zero, List.set_cons_succ]
          refine take' 9 (v := undef) rfl (by kernel_rfl) (by kernel_rfl) (by kernel_rfl) (fun _ _ _ h => h) (Or.inr ⟨by rfl, rfl⟩) (by assumption) ?_
          simp only [Act.put, List.setIfInBounds_toArray, List.set_cons_zero, List.set_cons_succ]
          refine take' 10 (v := undef) rfl (by kernel_rfl) (by kernel_rfl) (by kernel_rfl) (fun _ _ _ h => h) (Or.inr ⟨by rfl, rfl⟩) (by assumption) ?_
          simp only [Act.put, List.setIfInBounds_toArray, List.set_cons_zero, List.set_cons_succ]
          refine take' 11 (v := undef) rfl (by kernel_rfl) (by kernel_rfl) (by kernel_rfl) (fun _ _ _ h => h) (Or.inr ⟨by rfl, rfl⟩) (by assumption) ?_
          simp only [Act.put, List.setIfInBounds_toArray, List.set_cons_zero, List.set_cons_succ]
          refine take' 12 (v := undef) rfl (by kernel_rfl) (by kernel_rfl) (by kernel_rfl) (fun _ _ _ h => h) (Or.inr ⟨by rfl, rfl⟩) (by assumption) ?_
          simp only [Act.put, List.setIfInBounds_toArray, List.set_cons_zero, List.set_cons_succ]
          refine take' 13 (v := undef) rfl (by kernel_rfl) (by kernel_rfl) (by kernel_rfl) (fun _ _ _ h => h) (Or.inr ⟨by rfl, rfl⟩) (by assumption) ?_
          simp only [Act.put, List.setIfInBounds_toArray, List.set_cons_zero, List.set_cons_succ]
          refine take' 14 (v := ?_) rfl (by kernel_rfl) (by kernel_rfl) (by kernel_rfl) (fun _ _ _ h => h) (Or.inl ⟨by rfl, ?_⟩) (by assumption) ?_
          rotate_left
          · intro w9 hSw
            go_simp
            first | done | with_reducible rfl
          simp only [Act.put, List.setIfInBounds_toArray, List.set_cons_zero, List.set_cons_succ]
          refine wpAnyH_done (by kernel_rfl) ?_ _
          clear hHeld bD
          clear hjn
          obtain ⟨wB, hwB⟩ : ∃ wB, w6.alloc (.cells #[.int .i64 0] 3) = wB := ⟨_, rfl⟩
          have hnew := heap_alloc_new w6 (.cells #[.int .i64 0] 3)
          have b3 := below_alloc (w := w6) (.cells #[.int .i64 0] 3)
          rw [hwB] at hnew b3
          have hO3 := own_below hO b3
          have s3 := b3.size
          have s4 := hB.size
          have hbB : w.heap.size ≤ wB.heap.size := by omega
          have hbl : (n + 1) * 8 ≤ 140737488355328 := by omega
          have hrow := fun k hk => (hO.lt k hk)
          go_wp2_with (at_builtin; (try rw [hwB]); refine wpList_append_lies _ (by rfl) _ _ _ (by rfl) w.heap.size 3 i0 _ 1 8 Try.underlying24 hi0 hz0 hz1 hz2 rfl (by omega) _ n (iv ys) (by rfl) hO3 ⟨w6.heap.size, 0, none⟩ 1 1 [.int .i64 0] (by rfl) (by rfl) (World.news_of_block (cs := #[.int .i64 0]) (t := 3) (fr := (0, 0)) hnew) (by simp [Value.oneCell']) (by omega) (by simp only [maxLen]; omega) hbl hbB wB.heap.size rfl ?_)
          intro gb cap w9 hown4 hgrow hat hlt4
          have hB3 := hB.trans (b3.mono hB.size)
          have b9 := below_grown hB3.size (fun k hk => (hrow k hk).1) hgrow
          have hB9 := hB3.trans b9
          have hgb : w.heap.size ≤ gb := by
            rcases hat with h | h
            · exact (hrow _ h).1
            · omega
          have hO9 : w9.ownsRow w.heap.size 3 1 (.slice (some ⟨gb, 0, none⟩) (n + 1) cap) (n + 1) (iv (shf ys n)) := by
            have e := shf_top ys
            rw [HY.out.1] at e
            rw [e, iv_append]
            exact hown4
          clear hown4 hgrow hat hwB hnew b3 hO3 hB3 b9 hrow s3 hbB hbl
          have c9 := below_cell hB9 hcx
          clear hO hB s4 c0
          obtain ⟨N1, hN1⟩ : ∃ N1, n + 1 = N1 := ⟨_, rfl⟩
          rw [hN1] at hO9 ⊢
          have q0 : (N1 : Int) - 1 = (n : Int) := by omega
          have q1 : IntKind.i64.wrap (n : Int) = (n : Int) := Go.IntWalk.i64_in _ (by omega)
          have q2 : (0 : Int) ≤ (N1 : Int) := by omega
          have q3 : (N1 : Int) ≤ 2097153 := by omega
          have HN := hide' hN1
          clear hN1
          go_wp2_with fail
          go_loopw [6] (fun vi wr => ∃ m : Nat, j ≤ m ∧ m ≤ n ∧ vi = .int .i64 m ∧ wr.ownsRow w.heap.size 3 1 (.slice (some ⟨gb, 0, none⟩) N1 cap) N1 (iv (shf ys m)) ∧ Below w.heap.size w wr) (fun vi _ => (intOf vi).toNat - j)
          case atStart => exact ⟨n, hj, Nat.le_refl _, by first | rfl | rw [q0] | go_num, hO9, hB9⟩
          case round =>
            clear hO9 hB9 c9
            obtain ⟨m, hjm, hmn, rfl, hO, hB⟩ := hrel
            have c9 := below_cell hB hcx
            by_cases hlt9 : j < m
            · obtain ⟨m9, hm9⟩ : ∃ m9, m = m9 + 1 := ⟨m - 1, by omega⟩
              obtain ⟨z, hz⟩ : ∃ z, ys[m9]? = some z := ⟨ys[m9]'(by have := HY.out.1; omega), List.getElem?_eq_getElem _⟩
              have hat : (shf ys m)[m9]? = some z := by rw [hm9, shf_at (by have := HY.out.1; omega)]; exact hz
              have hc9 := hO.cellAt m9 (by have := HN.out; omega)
              rw [iv_at hat] at hc9
              have hfz := hO.frozenAt m
              have hst := (hO.stored m (.int .i64 z)).1
              rw [iv_set, hm9, shf_step (by have := HY.out.1; omega) hz, ← hm9] at hst
              have hc8 : ∃ z8, (shf ys m)[m]? = some z8 := ⟨_, List.getElem?_eq_getElem (by rw [shf_length (by have := HY.out.1; omega)]; have := HY.out.1; omega)⟩
              obtain ⟨z8, hz8⟩ := hc8
              have hd9 := hO.cellAt m (by have := HN.out; omega)
              rw [iv_at hz8] at hd9
              have m0 : (m : Int) - 1 = (m9 : Int) := by omega
              have m1 : (0 : Int) ≤ (m9 : Int) := by omega
              have m2 : (m9 : Int) < (N1 : Int) := by have := HN.out; omega
              have m3 : (m : Int) < (N1 : Int) := by have := HN.out; omega
              have m4 : (0 : Int) ≤ (m : Int) := by omega
              have m5 : IntKind.i64.wrap (m9 : Int) = (m9 : Int) := Go.IntWalk.i64_in _ (by omega)
              have m6 : (j : Int) < (m : Int) := by omega
              have I1 := hide' (And.intro hst (bset (c := gb) (o := m) (u := .int .i64 z) hB hgb))
              have HM := hide' hm9
              clear hm9 hst hat hz hz8
              go_wp2
              go_roundw
              case rel => exact ⟨m9, by have := HM.out; omega, by have := HM.out; omega, by first | rfl | rw [m0] | go_num, I1.out.1, I1.out.2⟩
              case measure => have := HM.out; simp [intOf]; omega
            · obtain rfl : m = j := by omega
              have m6 : ¬ (m : Int) < (m : Int) := by omega
              have hc8 : ∃ z8, (shf ys m)[m]? = some z8 := ⟨_, List.getElem?_eq_getElem (by rw [shf_length (by have := HY.out.1; omega)]; have := HY.out.1; omega)⟩
              obtain ⟨z8, hz8⟩ := hc8
              have hd9 := hO.cellAt m (by have := HN.out; omega)
              rw [iv_at hz8] at hd9
              have hfz := hO.frozenAt m
              have hst := (hO.stored m (.int .i64 x)).1
              rw [iv_set, shf_put (by have := HY.out.1; omega)] at hst
              have m3 : (m : Int) < (N1 : Int) := by have := HN.out; omega
              have m4 : (0 : Int) ≤ (m : Int) := by omega
              have hY9 := HY.out.2.1.put (x := x) (j := m) (by have := HY.out.1; omega) hlo hhi
              rw [← HY.out.2.2.1] at hY9
              have hl9 : (ys.take m ++ x :: ys.drop m).length = N1 := by have := HY.out.1; have := HN.out; simp only [List.length_append, List.length_take, List.length_cons, List.length_drop]; omega
              have I1 := hide' (And.intro (show _ from (by rw [hl9]; exact hst : ((wr.setCell ⟨gb, m, none⟩ (.int .i64 x)).ownsRow w.heap.size 3 1 (.slice (some ⟨gb, 0, none⟩) N1 cap) (ys.take m ++ x :: ys.drop m).length (iv (ys.take m ++ x :: ys.drop m))))) (And.intro (bset (c := gb) (o := m) (u := .int .i64 x) hB hgb) hY9))
              clear hst hY9 hl9 hz8
              go_wp2
              go_roundw
              case rel => exact ⟨k + 1, by omega, by go_num, _, I1.out.1, I1.out.2.1, I1.out.2.2⟩
              case measure => simp [intOf]; omega
    · obtain rfl : k = zs.length := by omega
      have i1 : ¬ (zs.length : Int) < (zs.length : Int) := by omega
      go_wp2
      go_ret
      exact ⟨u3, rfl, ys, hO, hB, hY⟩
end Go.Proofs.Ytildhkefkeeflaa
