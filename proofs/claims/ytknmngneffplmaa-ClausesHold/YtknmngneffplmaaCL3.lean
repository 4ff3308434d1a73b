/-
  clauses.Holds of both; ClausesHold's walk.
-/
import Derived.Test.YtknmngneffplmaaCL2
namespace Go.Proofs.Ytknmngneffplmaa
open Go.RowKit
set_option linter.unusedVariables false
set_option linter.unusedSimpArgs false
/-- a clause's truth -/
def claT (m : Nat) (v : Nat → Bool) (k : Cla) : Bool := !allN (fun x => !litT m v x) k.g k.n
/-- all of a clause are literals -/
def claL (k : Cla) : Bool := allN isLit k.g k.n
theorem claL_lit {k : Cla} (h : claL k = true) : ∀ i, i < k.n → isLit (k.g i) = true := allN_true.1 h
theorem first_bad {p : Nat → Bool} {n : Nat} (h : ¬ ∀ i, i < n → p i = true) : ∃ k, k < n ∧ p k = false := by
  induction n with
  | zero => exact absurd (fun i hi => absurd hi (by omega)) h
  | succ n ih =>
    by_cases h1 : ∀ i, i < n → p i = true
    · refine ⟨n, by omega, ?_⟩
      cases hp : p n with
      | false => rfl
      | true => exact absurd (fun i hi => by by_cases e : i = n; (rw [e]; exact hp); exact h1 i (by omega)) h
    · obtain ⟨k, hk, e⟩ := ih h1
      exact ⟨k, by omega, e⟩
set_option maxHeartbeats 2000000 in
set_option maxRecDepth 100000 in
theorem Holds1_is (k : Cla) (va : Option Addr) (m vc cb : Nat) (v : Nat → Bool) (w : World) (h : LitsAt w k.a k.n k.g) (hv : TruthsAt w va m v) (hl : claL k = true) (hcb : w.cell? ⟨cb, 0, none⟩ = some (.slice va m vc)) :
    Calls Try.prog 28 #[.slice k.a k.n k.c, .pointer (some ⟨cb, 0, none⟩)] w fun e w' => e = .returned (.bool (!claT m v k)) ∧ Below w.heap.size w w' := by
  have H := hide' (isTrue_is k.a k.n k.c k.g va m vc v w h hv (claL_lit hl))
  change Hid (Calls _ _ _ _ fun e w' => e = .returned (.bool (claT m v k)) ∧ Below w.heap.size w w') at H
  generalize claT m v k = r at H ⊢
  clear h hv hl
  go_enter Try.func28, Try.ntmps28
  go_wp2_with fail
  refine H.out.mono ?_
  rintro e w1 ⟨rfl, b1⟩
  go_wp2
  go_ret
  exact ⟨rfl, b1⟩
set_option maxHeartbeats 2000000 in
set_option maxRecDepth 100000 in
theorem indexC (a : Option Addr) (n c : Nat) (f : Nat → Cla) (cb : Nat) (p : Nat → Bool) (w : World) (h : ClasAt w a n f) (hp : ∀ w' i, Below w.heap.size w w' → i < n → Calls Try.prog 28 #[.slice (f i).a (f i).n (f i).c, .pointer (some ⟨cb, 0, none⟩)] w' fun e w'' => e = .returned (.bool (p i)) ∧ Below w'.heap.size w' w'') :
    Calls Try.prog 27 #[.slice a n c, .func (.func 28) #[] #[.pointer (some ⟨cb, 0, none⟩)]] w fun e w' => e = .returned (.int .i64 (fstN p n)) ∧ Below w.heap.size w w' := by
  have HP := hide' hp
  have HL := hide' h
  have hn1 := h.1
  clear hp h
  go_enter Try.func27, Try.ntmps27
  go_wp2
  go_loopw [8] (fun vi wr => ∃ k : Nat, k ≤ n ∧ vi = .int .i64 k ∧ (∀ i, i < k → p i = false) ∧ Below w.heap.size w wr) (fun vi _ => n - (intOf vi).toNat)
  case atStart => exact ⟨0, Nat.zero_le _, rfl, fun i hi => absurd hi (by omega), Below.refl _ _⟩
  case round =>
    obtain ⟨k, hk, rfl, hb, hB⟩ := hrel
    have HB := hide' hb
    clear hb
    by_cases hlt : k < n
    · obtain ⟨b, off, rfl, hc⟩ := HL.out.2.2 (by omega)
      have hck := below_cell hB (hc k hlt)
      clear hc
      have hki : ((k : Int) < (n : Int)) := by omega
      have HK := hide' (HP.out wr k hB hlt)
      obtain ⟨xa, hxa⟩ : ∃ x, (f k).a = x := ⟨_, rfl⟩
      obtain ⟨xn, hxn⟩ : ∃ x, (f k).n = x := ⟨_, rfl⟩
      obtain ⟨xc, hxc⟩ : ∃ x, (f k).c = x := ⟨_, rfl⟩
      rw [hxa, hxn, hxc] at hck HK
      clear hxa hxn hxc
      cases hy : p k
      · rw [hy] at HK
        have HN := hide' (show ∀ i, i < k + 1 → p i = false from fun i hi => by by_cases e : i = k; (rw [e]; exact hy); exact HB.out i (by omega))
        clear hy
        go_wp2_with fail
        refine HK.out.mono ?_
        rintro e w1 ⟨rfl, b1⟩
        replace hB := hB.trans (b1.mono hB.size)
        clear b1
        go_wp2
        go_roundw
        case rel => exact ⟨k + 1, by omega, by go_simp, HN.out, hB⟩
        case measure => simp only [intOf]; omega
      · rw [hy] at HK
        have HN := hide' (show fstN p n = k from fstN_at hy HB.out hlt)
        clear hy
        go_wp2_with fail
        refine HK.out.mono ?_
        rintro e w1 ⟨rfl, b1⟩
        replace hB := hB.trans (b1.mono hB.size)
        clear b1
        go_wp2
        go_ret
        exact ⟨(by rw [HN.out]; try rfl), hB⟩
    · have hki : ¬ ((k : Int) < (n : Int)) := by omega
      have HN := hide' (show fstN p n = -1 from fstN_none fun i hi => HB.out i (by omega))
      go_wp2
      go_ret
      exact ⟨(by rw [HN.out]; try rfl), hB⟩
set_option maxHeartbeats 2000000 in
set_option maxRecDepth 100000 in
theorem Holds_is (a : Option Addr) (n c : Nat) (f : Nat → Cla) (va : Option Addr) (m vc : Nat) (v : Nat → Bool) (w : World) (h : ClasAt w a n f) (hv : TruthsAt w va m v) (hl : ∀ i, i < n → claL (f i) = true) :
    Calls Try.prog 12 #[.slice a n c, .slice va m vc] w fun e w' => e = .returned (.tuple #[.int .i64 (fstN (fun i => !claT m v (f i)) n), .int .i64 0]) ∧ Below w.heap.size w w' := by
  have GL := hide' (fun w' i (hb : Below w.heap.size w w') (hi : i < n) => (show Calls Try.prog 14 #[.slice (f i).a (f i).n (f i).c] w' fun e w'' => e = .returned (.bool (claL (f i))) ∧ Below w'.heap.size w' w'' from areLiterals_is (f i).a (f i).n (f i).c (f i).g w' ((h.2.1 i hi).later hb)))
  have bA := below_alloc (w := w) (.cells #[.slice va m vc] 32)
  have d0 : (w.alloc (.cells #[.slice va m vc] 32)).cell? ⟨w.heap.size, 0, none⟩ = some (.slice va m vc) := by go_simp
  have GI := hide' (fun w' (hb : Below (w.alloc (.cells #[.slice va m vc] 32)).heap.size (w.alloc (.cells #[.slice va m vc] 32)) w') => indexC a n c f w.heap.size (fun i => !claT m v (f i)) w' ((h.later bA).later hb) (fun w2 i hb2 hi => Holds1_is (f i) va m vc w.heap.size v w2 ((((h.2.1 i hi).later bA).later hb).later hb2) (((hv.later bA).later hb).later hb2) (hl i hi) (below_cell hb2 (below_cell hb d0))))
  have HL := hide' h
  have HG := hide' hl
  have hn1 := h.1
  clear h hv hl
  go_enter Try.func12, Try.ntmps12
  go_wp2
  obtain ⟨wA, hwA⟩ : ∃ x, w.alloc (.cells #[.slice va m vc] 32) = x := ⟨_, rfl⟩
  rw [hwA] at bA GI ⊢
  clear d0 hwA
  go_loopw [10] (fun vi wr => ∃ k : Nat, k ≤ n ∧ vi = .int .i64 k ∧ (∀ i, i < k → claL (f i) = true) ∧ Below wA.heap.size wA wr) (fun vi _ => n - (intOf vi).toNat)
  case atStart => exact ⟨0, Nat.zero_le _, rfl, fun i hi => absurd hi (by omega), Below.refl _ _⟩
  case round =>
    obtain ⟨k, hk, rfl, hb, hB0⟩ := hrel
    have HB := hide' hb
    clear hb
    have hB : Below w.heap.size w wr := bA.trans (hB0.mono bA.size)
    by_cases hlt : k < n
    · skip
      obtain ⟨b, off, rfl, hc⟩ := HL.out.2.2 (by omega)
      have hck := below_cell hB (hc k hlt)
      clear hc
      have hki : ((k : Int) < (n : Int)) := by omega
      have HK := hide' (GL.out wr k hB hlt)
      obtain ⟨xa, hxa⟩ : ∃ x, (f k).a = x := ⟨_, rfl⟩
      obtain ⟨xn, hxn⟩ : ∃ x, (f k).n = x := ⟨_, rfl⟩
      obtain ⟨xc, hxc⟩ : ∃ x, (f k).c = x := ⟨_, rfl⟩
      rw [hxa, hxn, hxc] at hck HK
      clear hxa hxn hxc
      cases hy : claL (f k)
      · rw [hy] at HK
        exact absurd (HG.out k hlt) (by rw [hy]; decide)
      · rw [hy] at HK
        have HN := hide' (show ∀ i, i < k + 1 → claL (f i) = true from fun i hi => by by_cases e : i = k; (rw [e]; exact hy); exact HB.out i (by omega))
        clear hy
        go_wp2_with fail
        refine HK.out.mono ?_
        rintro e w1 ⟨rfl, b1⟩
        replace hB0 := hB0.trans (b1.mono hB0.size)
        clear b1 hB
        go_wp2
        go_roundw
        case rel => exact ⟨k + 1, by omega, by go_simp, HN.out, hB0⟩
        case measure => simp only [intOf]; omega
    · have hki : ¬ ((k : Int) < (n : Int)) := by omega
      obtain ⟨r, hr⟩ : ∃ r, fstN (fun i => !claT m v (f i)) n = r := ⟨_, rfl⟩
      rw [hr] at GI
      have HR := hide' hr
      clear hr
      go_wp2_with fail
      refine (GI.out _ hB0).mono ?_
      rintro e w1 ⟨rfl, b1⟩
      replace hB := hB.trans (b1.mono hB.size)
      clear b1
      go_wp2
      refine bodyPost_ret (v := .tuple #[.int .i64 r, .int .i64 0]) (by rw [results_tt rfl]; rfl) rfl ?_
      exact ⟨(by rw [HR.out]), hB⟩
set_option maxHeartbeats 2000000 in
set_option maxRecDepth 100000 in
theorem rHolds_is (a : Option Addr) (n c : Nat) (f : Nat → Cla) (va : Option Addr) (m vc : Nat) (v : Nat → Bool) (w : World) (h : ClasAt w a n f) (hv : TruthsAt w va m v) (hl : ∀ i, i < n → claL (f i) = true) :
    Calls Try.prog 13 #[.slice a n c, .slice va m vc] w fun e w' => e = .returned (.tuple #[.int .i64 (fstN (fun i => !claT m v (f i)) n), .int .i64 0]) ∧ Below w.heap.size w w' := by
  have GL := hide' (fun w' i (hb : Below w.heap.size w w') (hi : i < n) => (show Calls Try.prog 18 #[.slice (f i).a (f i).n (f i).c] w' fun e w'' => e = .returned (.bool (claL (f i))) ∧ Below w'.heap.size w' w'' from Literals_is (f i).a (f i).n (f i).c (f i).g w' ((h.2.1 i hi).later hb)))
  have GM := hide' (fun w' i (hb : Below w.heap.size w w') (hi : i < n) => (show Calls Try.prog 30 #[.slice (f i).a (f i).n (f i).c, .slice va m vc] w' fun e w'' => e = .returned (.bool (claT m v (f i))) ∧ Below w'.heap.size w' w'' from Made_is (f i).a (f i).n (f i).c (f i).g va m vc v w' ((h.2.1 i hi).later hb) (hv.later hb) (claL_lit (hl i hi))))
  have HL := hide' h
  have HG := hide' hl
  have hn1 := h.1
  clear h hv hl
  go_enter Try.func13, Try.ntmps13
  go_wp2
  go_loopw [6] (fun vi wr => ∃ k : Nat, k ≤ n ∧ vi = .int .i64 k ∧ (∀ i, i < k → claL (f i) = true) ∧ Below w.heap.size w wr) (fun vi _ => n - (intOf vi).toNat)
  case atStart => exact ⟨0, Nat.zero_le _, rfl, fun i hi => absurd hi (by omega), Below.refl _ _⟩
  case round =>
    obtain ⟨k, hk, rfl, hb, hB0⟩ := hrel
    have HB := hide' hb
    clear hb
    have hB : Below w.heap.size w wr := hB0
    by_cases hlt : k < n
    · skip
      obtain ⟨b, off, rfl, hc⟩ := HL.out.2.2 (by omega)
      have hck := below_cell hB (hc k hlt)
      clear hc
      have hki : ((k : Int) < (n : Int)) := by omega
      have HK := hide' (GL.out wr k hB hlt)
      obtain ⟨xa, hxa⟩ : ∃ x, (f k).a = x := ⟨_, rfl⟩
      obtain ⟨xn, hxn⟩ : ∃ x, (f k).n = x := ⟨_, rfl⟩
      obtain ⟨xc, hxc⟩ : ∃ x, (f k).c = x := ⟨_, rfl⟩
      rw [hxa, hxn, hxc] at hck HK
      clear hxa hxn hxc
      cases hy : claL (f k)
      · rw [hy] at HK
        exact absurd (HG.out k hlt) (by rw [hy]; decide)
      · rw [hy] at HK
        have HN := hide' (show ∀ i, i < k + 1 → claL (f i) = true from fun i hi => by by_cases e : i = k; (rw [e]; exact hy); exact HB.out i (by omega))
        clear hy
        go_wp2_with fail
        refine HK.out.mono ?_
        rintro e w1 ⟨rfl, b1⟩
        replace hB0 := hB0.trans (b1.mono hB0.size)
        clear b1 hB
        go_wp2
        go_roundw
        case rel => exact ⟨k + 1, by omega, by go_simp, HN.out, hB0⟩
        case measure => simp only [intOf]; omega
    · have hki : ¬ ((k : Int) < (n : Int)) := by omega
      clear HB
      go_wp2
      go_loopw [8] (fun vi wq => ∃ k : Nat, k ≤ n ∧ vi = .int .i64 k ∧ (∀ i, i < k → (!claT m v (f i)) = false) ∧ Below w.heap.size w wq) (fun vi _ => n - (intOf vi).toNat)
      case atStart => exact ⟨0, Nat.zero_le _, rfl, fun i hi => absurd hi (by omega), hB⟩
      case round =>
        clear hB hB0 hki
        obtain ⟨k, hk, rfl, hb, hB⟩ := hrel
        have HB := hide' hb
        clear hb
        by_cases hlt : k < n
        · skip
          obtain ⟨b, off, rfl, hc⟩ := HL.out.2.2 (by omega)
          have hck := below_cell hB (hc k hlt)
          clear hc
          have hki : ((k : Int) < (n : Int)) := by omega
          have HK := hide' (GM.out _ k hB hlt)
          obtain ⟨xa, hxa⟩ : ∃ x, (f k).a = x := ⟨_, rfl⟩
          obtain ⟨xn, hxn⟩ : ∃ x, (f k).n = x := ⟨_, rfl⟩
          obtain ⟨xc, hxc⟩ : ∃ x, (f k).c = x := ⟨_, rfl⟩
          rw [hxa, hxn, hxc] at hck HK
          clear hxa hxn hxc
          cases hy : claT m v (f k)
          · rw [hy] at HK
            have HN := hide' (show fstN (fun i => !claT m v (f i)) n = k from fstN_at (p := fun i => !claT m v (f i)) (by show (!claT m v (f k)) = true; rw [hy]; rfl) HB.out hlt)
            clear hy
            go_wp2_with fail
            refine HK.out.mono ?_
            rintro e w1 ⟨rfl, b1⟩
            replace hB := hB.trans (b1.mono hB.size)
            clear b1
            go_wp2
            refine bodyPost_ret (v := .tuple #[.int .i64 k, .int .i64 0]) (by rw [results_tt rfl]; rfl) rfl ?_
            exact ⟨(by rw [HN.out]), hB⟩
          · rw [hy] at HK
            have HN := hide' (show ∀ i, i < k + 1 → (!claT m v (f i)) = false from fun i hi => by by_cases e : i = k; (rw [e, hy]; rfl); exact HB.out i (by omega))
            clear hy
            go_wp2_with fail
            refine HK.out.mono ?_
            rintro e w1 ⟨rfl, b1⟩
            replace hB := hB.trans (b1.mono hB.size)
            clear b1
            go_wp2
            go_roundw
            case rel => exact ⟨k + 1, by omega, by go_simp, HN.out, hB⟩
            case measure => simp only [intOf]; omega
        · have hki : ¬ ((k : Int) < (n : Int)) := by omega
          have HN := hide' (show fstN (fun i => !claT m v (f i)) n = -1 from fstN_none fun i hi => HB.out i (by omega))
          go_wp2
          refine bodyPost_ret (v := .tuple #[.int .i64 (-1), .int .i64 0]) (by rw [results_tt rfl]; rfl) rfl ?_
          exact ⟨(by rw [HN.out]), hB⟩
set_option maxHeartbeats 2000000 in
set_option maxRecDepth 100000 in
theorem Holds_no (a : Option Addr) (n c : Nat) (f : Nat → Cla) (va : Option Addr) (m vc : Nat) (v : Nat → Bool) (w : World) (h : ClasAt w a n f) (hv : TruthsAt w va m v) (hl : ¬ ∀ i, i < n → claL (f i) = true) :
    Calls Try.prog 12 #[.slice a n c, .slice va m vc] w fun e w' => e = .returned (.tuple #[.int .i64 0, .int .i64 180]) ∧ Below w.heap.size w w' := by
  have GL := hide' (fun w' i (hb : Below w.heap.size w w') (hi : i < n) => (show Calls Try.prog 14 #[.slice (f i).a (f i).n (f i).c] w' fun e w'' => e = .returned (.bool (claL (f i))) ∧ Below w'.heap.size w' w'' from areLiterals_is (f i).a (f i).n (f i).c (f i).g w' ((h.2.1 i hi).later hb)))
  have HL := hide' h
  have HG := hide' hl
  have hn1 := h.1
  clear h hv hl
  go_enter Try.func12, Try.ntmps12
  go_wp2
  have bA := below_alloc (w := w) (.cells #[.slice va m vc] 32)
  obtain ⟨wA, hwA⟩ : ∃ x, w.alloc (.cells #[.slice va m vc] 32) = x := ⟨_, rfl⟩
  rw [hwA] at bA ⊢
  clear hwA
  go_loopw [10] (fun vi wr => ∃ k : Nat, k ≤ n ∧ vi = .int .i64 k ∧ (∀ i, i < k → claL (f i) = true) ∧ Below wA.heap.size wA wr) (fun vi _ => n - (intOf vi).toNat)
  case atStart => exact ⟨0, Nat.zero_le _, rfl, fun i hi => absurd hi (by omega), Below.refl _ _⟩
  case round =>
    obtain ⟨k, hk, rfl, hb, hB0⟩ := hrel
    have HB := hide' hb
    clear hb
    have hB : Below w.heap.size w wr := bA.trans (hB0.mono bA.size)
    by_cases hlt : k < n
    · skip
      obtain ⟨b, off, rfl, hc⟩ := HL.out.2.2 (by omega)
      have hck := below_cell hB (hc k hlt)
      clear hc
      have hki : ((k : Int) < (n : Int)) := by omega
      have HK := hide' (GL.out wr k hB hlt)
      obtain ⟨xa, hxa⟩ : ∃ x, (f k).a = x := ⟨_, rfl⟩
      obtain ⟨xn, hxn⟩ : ∃ x, (f k).n = x := ⟨_, rfl⟩
      obtain ⟨xc, hxc⟩ : ∃ x, (f k).c = x := ⟨_, rfl⟩
      rw [hxa, hxn, hxc] at hck HK
      clear hxa hxn hxc
      cases hy : claL (f k)
      · rw [hy] at HK
        clear hy
        go_wp2_with fail
        refine HK.out.mono ?_
        rintro e w1 ⟨rfl, b1⟩
        replace hB := hB.trans (b1.mono hB.size)
        clear b1
        go_wp2
        refine bodyPost_ret (v := .tuple #[.int .i64 0, .int .i64 180]) (by rw [results_tt rfl]; rfl) rfl ?_
        exact ⟨rfl, hB⟩
      · rw [hy] at HK
        have HN := hide' (show ∀ i, i < k + 1 → claL (f i) = true from fun i hi => by by_cases e : i = k; (rw [e]; exact hy); exact HB.out i (by omega))
        clear hy
        go_wp2_with fail
        refine HK.out.mono ?_
        rintro e w1 ⟨rfl, b1⟩
        replace hB0 := hB0.trans (b1.mono hB0.size)
        clear b1 hB
        go_wp2
        go_roundw
        case rel => exact ⟨k + 1, by omega, by go_simp, HN.out, hB0⟩
        case measure => simp only [intOf]; omega
    · have hki : ¬ ((k : Int) < (n : Int)) := by omega
      exact absurd (fun i hi => HB.out i (by omega)) HG.out
set_option maxHeartbeats 2000000 in
set_option maxRecDepth 100000 in
theorem rHolds_no (a : Option Addr) (n c : Nat) (f : Nat → Cla) (va : Option Addr) (m vc : Nat) (v : Nat → Bool) (w : World) (h : ClasAt w a n f) (hv : TruthsAt w va m v) (hl : ¬ ∀ i, i < n → claL (f i) = true) :
    Calls Try.prog 13 #[.slice a n c, .slice va m vc] w fun e w' => e = .returned (.tuple #[.int .i64 0, .int .i64 180]) ∧ Below w.heap.size w w' := by
  have GL := hide' (fun w' i (hb : Below w.heap.size w w') (hi : i < n) => (show Calls Try.prog 18 #[.slice (f i).a (f i).n (f i).c] w' fun e w'' => e = .returned (.bool (claL (f i))) ∧ Below w'.heap.size w' w'' from Literals_is (f i).a (f i).n (f i).c (f i).g w' ((h.2.1 i hi).later hb)))
  have HL := hide' h
  have HG := hide' hl
  have hn1 := h.1
  clear h hv hl
  go_enter Try.func13, Try.ntmps13
  go_wp2
  go_loopw [6] (fun vi wr => ∃ k : Nat, k ≤ n ∧ vi = .int .i64 k ∧ (∀ i, i < k → claL (f i) = true) ∧ Below w.heap.size w wr) (fun vi _ => n - (intOf vi).toNat)
  case atStart => exact ⟨0, Nat.zero_le _, rfl, fun i hi => absurd hi (by omega), Below.refl _ _⟩
  case round =>
    obtain ⟨k, hk, rfl, hb, hB0⟩ := hrel
    have HB := hide' hb
    clear hb
    have hB : Below w.heap.size w wr := hB0
    by_cases hlt : k < n
    · skip
      obtain ⟨b, off, rfl, hc⟩ := HL.out.2.2 (by omega)
      have hck := below_cell hB (hc k hlt)
      clear hc
      have hki : ((k : Int) < (n : Int)) := by omega
      have HK := hide' (GL.out wr k hB hlt)
      obtain ⟨xa, hxa⟩ : ∃ x, (f k).a = x := ⟨_, rfl⟩
      obtain ⟨xn, hxn⟩ : ∃ x, (f k).n = x := ⟨_, rfl⟩
      obtain ⟨xc, hxc⟩ : ∃ x, (f k).c = x := ⟨_, rfl⟩
      rw [hxa, hxn, hxc] at hck HK
      clear hxa hxn hxc
      cases hy : claL (f k)
      · rw [hy] at HK
        clear hy
        go_wp2_with fail
        refine HK.out.mono ?_
        rintro e w1 ⟨rfl, b1⟩
        replace hB := hB.trans (b1.mono hB.size)
        clear b1
        go_wp2
        refine bodyPost_ret (v := .tuple #[.int .i64 0, .int .i64 180]) (by rw [results_tt rfl]; rfl) rfl ?_
        exact ⟨rfl, hB⟩
      · rw [hy] at HK
        have HN := hide' (show ∀ i, i < k + 1 → claL (f i) = true from fun i hi => by by_cases e : i = k; (rw [e]; exact hy); exact HB.out i (by omega))
        clear hy
        go_wp2_with fail
        refine HK.out.mono ?_
        rintro e w1 ⟨rfl, b1⟩
        replace hB0 := hB0.trans (b1.mono hB0.size)
        clear b1 hB
        go_wp2
        go_roundw
        case rel => exact ⟨k + 1, by omega, by go_simp, HN.out, hB0⟩
        case measure => simp only [intOf]; omega
    · have hki : ¬ ((k : Int) < (n : Int)) := by omega
      exact absurd (fun i hi => HB.out i (by omega)) HG.out
set_option maxHeartbeats 2000000 in
set_option maxRecDepth 100000 in
theorem hold_walk_is (a : Option Addr) (n c : Nat) (f : Nat → Cla) (va : Option Addr) (m vc : Nat) (v : Nat → Bool) (w : World) (h : ClasAt w a n f) (hv : TruthsAt w va m v) (hl : ∀ i, i < n → claL (f i) = true) :
    Calls Try.prog 4 #[.slice a n c, .slice va m vc] w fun e w' => e = .returned (.bool true) ∧ Below w.heap.size w w' := by
  have G1 := hide' (Holds_is a n c f va m vc v w h hv hl)
  have G2 := hide' (fun w' (hb : Below w.heap.size w w') => rHolds_is a n c f va m vc v w' (h.later hb) (hv.later hb) hl)
  clear h hv hl
  generalize fstN (fun i => !claT m v (f i)) n = r at G1 G2
  go_enter Try.func4, Try.ntmps4
  go_wp2_with fail
  refine G1.out.mono ?_
  rintro e w1 ⟨rfl, b1⟩
  go_wp2_with fail
  refine (G2.out _ b1).mono ?_
  rintro e w2 ⟨rfl, b2⟩
  replace b1 := b1.trans (b2.mono b1.size)
  clear b2
  go_wp2
  go_ret
  exact ⟨rfl, b1⟩
set_option maxHeartbeats 2000000 in
set_option maxRecDepth 100000 in
theorem hold_walk_no (a : Option Addr) (n c : Nat) (f : Nat → Cla) (va : Option Addr) (m vc : Nat) (v : Nat → Bool) (w : World) (h : ClasAt w a n f) (hv : TruthsAt w va m v) (hl : ¬ ∀ i, i < n → claL (f i) = true) :
    Calls Try.prog 4 #[.slice a n c, .slice va m vc] w fun e w' => e = .returned (.bool true) ∧ Below w.heap.size w w' := by
  have G1 := hide' (Holds_no a n c f va m vc v w h hv hl)
  have G2 := hide' (fun w' (hb : Below w.heap.size w w') => rHolds_no a n c f va m vc v w' (h.later hb) (hv.later hb) hl)
  clear h hv hl
  go_enter Try.func4, Try.ntmps4
  go_wp2_with fail
  refine G1.out.mono ?_
  rintro e w1 ⟨rfl, b1⟩
  go_wp2_with fail
  refine (G2.out _ b1).mono ?_
  rintro e w2 ⟨rfl, b2⟩
  replace b1 := b1.trans (b2.mono b1.size)
  clear b2
  go_wp2
  go_ret
  exact ⟨rfl, b1⟩
end Go.Proofs.Ytknmngneffplmaa
