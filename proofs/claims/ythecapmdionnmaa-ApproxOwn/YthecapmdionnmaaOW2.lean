/-
  Spoil.
-/
import Derived.Test.YthecapmdionnmaaOW1
namespace Go.Proofs.Ythecapmdionnmaa
open Go.RowKit
set_option linter.unusedVariables false
set_option linter.unusedSimpArgs false
/-- what is not one of the lists stays -/
def Ox (L : Nat) (A : Nat → Option Addr) (n : Nat → Nat) (w w' : World) : Prop := ∀ b, b < w.heap.size → (∀ i, i < L → 0 < n i → ∀ o, A i ≠ some ⟨b, o, none⟩) → w'.heap[b]? = w.heap[b]?
structure Bx (lo L : Nat) (A : Nat → Option Addr) (n : Nat → Nat) (w w' : World) : Prop where
  bel : Below lo w w'
  ox : Ox L A n w w'
theorem Bx.size {lo L : Nat} {A : Nat → Option Addr} {n : Nat → Nat} {w w' : World} (h : Bx lo L A n w w') : w.heap.size ≤ w'.heap.size := h.bel.size
theorem Bx.refl (lo L : Nat) (A : Nat → Option Addr) (n : Nat → Nat) (w : World) : Bx lo L A n w w := ⟨Below.refl _ _, fun _ _ _ => rfl⟩
theorem Bx.add {lo L : Nat} {A : Nat → Option Addr} {n : Nat → Nat} {w w1 w2 : World} (h : Bx lo L A n w w1) (k : Below w1.heap.size w1 w2) (hl : lo ≤ w1.heap.size) : Bx lo L A n w w2 :=
  ⟨h.bel.trans (k.mono hl), fun b hb hne => (k.block b (Nat.lt_of_lt_of_le hb h.size)).trans (h.ox b hb hne)⟩
theorem Bx.set {lo L i b o off : Nat} {A : Nat → Option Addr} {n : Nat → Nat} {w w1 : World} {v : Value} (h : Bx lo L A n w w1) (hi : i < L) (hn : 0 < n i) (e : A i = some ⟨b, off, none⟩) (hl : lo ≤ b) : Bx lo L A n w (w1.setCell ⟨b, o, none⟩ v) :=
  ⟨h.bel.trans ((Ch.set _).below hl), fun c hc hne => ((Ch.set _).other c (fun g => by subst g; exact hne i hi hn off e)).trans (h.ox c hc hne)⟩
theorem infoU : (Try.prog.info? 49).map (fun i => (i.zero, i.size, i.bytes)) = some (some (.int .u32 0), 1, 4) := by kernel_rfl
theorem infoS : (Try.prog.info? 22).map (fun i => (i.zero, i.size, i.bytes)) = some (some (.slice none 0 0), 1, 24) := by kernel_rfl
set_option maxHeartbeats 8000000 in
set_option maxRecDepth 100000 in
theorem spoil_ox (lo bl ol L cl : Nat) (A : Nat → Option Addr) (n : Nat → Nat) (f0 : Nat → Nat → Int) (w : World) (hL : L ≤ 1000000) (hn : ∀ i, i < L → n i ≤ 1073741824) (hlo : lo ≤ w.heap.size) (h0 : Ls w lo bl ol L A n f0) :
    Calls Try.prog 13 #[.slice (some ⟨bl, ol, none⟩) L cl] w fun e w' => e = .returned (.bool true) ∧ Bx lo L A n w w' := by
  have HN := hide' hn
  clear hn
  go_enter Try.func13, Try.ntmps13
  go_wp2_with fail
  go_loopw [3] (fun vi wr => ∃ (i : Nat) (f : Nat → Nat → Int), i ≤ L ∧ vi = .int .i64 i ∧ Ls wr lo bl ol L A n f ∧ (∀ i1, i1 < i → ∀ j, j < n i1 → f i1 j = mrk i1 j) ∧ Bx lo L A n w wr) (fun vi _ => L - (intOf vi).toNat)
  case atStart => exact ⟨0, f0, Nat.zero_le _, rfl, h0, fun i1 c => absurd c (Nat.not_lt_zero _), Bx.refl _ _ _ _ _⟩
  case round =>
    clear h0
    obtain ⟨i, f, hi, rfl, hf, hfm, bel⟩ := hrel
    by_cases hlt : i < L
    · have i2 : ((i : Int) < (L : Int)) := by omega
      have i1 : (0 : Int) ≤ (i : Int) := by omega
      have HF := hide' hf
      have HM := hide' hfm
      clear hf hfm
      have r0 := HF.out.row i hlt
      obtain ⟨N, hN⟩ : ∃ N, n i = N := ⟨_, rfl⟩
      rw [hN] at r0
      have N1 : N ≤ 1073741824 := by rw [← hN]; exact HN.out i hlt
      replace hN := hide' hN
      obtain ⟨ai, hai⟩ : ∃ ai, A i = ai := ⟨_, rfl⟩
      rw [hai] at r0
      replace hai := hide' hai
      go_wp2_with fail
      go_loopw [4] (fun vk wq => ∃ (k : Nat) (f : Nat → Nat → Int), k ≤ N ∧ vk = .int .i64 k ∧ Ls wq lo bl ol L A n f ∧ (∀ i1, i1 < i → ∀ j, j < n i1 → f i1 j = mrk i1 j) ∧ (∀ j, j < k → f i j = mrk i j) ∧ Bx lo L A n w wq) (fun vk _ => N - (intOf vk).toNat)
      case atStart => exact ⟨0, f, Nat.zero_le _, rfl, HF.out, HM.out, fun j c => absurd c (Nat.not_lt_zero _), bel⟩
      case round =>
        clear HF HM r0 bel
        obtain ⟨k, f, hk, rfl, hf, hfm, hfk, bel⟩ := hrel
        have HF := hide' hf
        have HM := hide' hfm
        have HK := hide' hfk
        clear hf hfm hfk
        have r0 := HF.out.row i hlt
        rw [hN.out, hai.out] at r0
        by_cases hkn : k < N
        · have k2 : ((k : Int) < (N : Int)) := by omega
          have k1 : (0 : Int) ≤ (k : Int) := by omega
          obtain ⟨b, off, eA, hb1, hb2, hb3, hb4⟩ := HF.out.lst i hlt (by rw [hN.out]; omega)
          rw [hai.out] at eA
          subst eA
          have c0 := hb4 k (by rw [hN.out]; exact hkn)
          have fz := fun o => hb3.frozen o
          have GM := hide' (fun w' => mark_is i k w' (by omega) (by omega))
          obtain ⟨v, hv⟩ : ∃ v, mrk i k = v := ⟨_, rfl⟩
          rw [hv] at GM
          replace hv := hide' hv
          clear hb4
          go_wp2_with fail
          have hlw : lo ≤ wr.heap.size := Nat.le_trans hlo bel.size
          have bD : Below wr.heap.size wr wr.drew := (Below.refl _ _).drew
          have kr0 := below_cell bD r0
          refine wp_region_held_drew (S := fun w' => w'.cell? ⟨bl, ol + i, none⟩ = some (.slice (some ⟨b, off, none⟩) N N)) (by kernel_rfl) kr0 (fun hHeld => ?_)
          clear kr0
          generalize hwF : wr.drew = wF at bD hHeld ⊢
          have c1 := below_cell bD c0
          have fz1 := fun o => (below_row bD hb3).frozen o
          clear c0 fz
          refine take' 0 (v := ?_) rfl (by kernel_rfl) (by kernel_rfl) (by kernel_rfl) (fun _ _ _ h => h) (Or.inl ⟨by rfl, ?_⟩) (by assumption) ?_
          rotate_left
          · intro w9 hSw
            go_simp
            first | done | with_reducible rfl
          simp only [Act.put, List.setIfInBounds_toArray, List.set_cons_zero, List.set_cons_succ]
          refine take' 1 (v := ?_) rfl (by kernel_rfl) (by kernel_rfl) (by kernel_rfl) (fun _ _ _ h => h) (Or.inl ⟨by rfl, ?_⟩) (by assumption) ?_
          rotate_left
          · intro w9 hSw
            go_simp
            first | done | with_reducible rfl
          simp only [Act.put, List.setIfInBounds_toArray, List.set_cons_zero, List.set_cons_succ]
          refine take' 2 (v := ?_) rfl (by kernel_rfl) (by kernel_rfl) (by kernel_rfl) (fun _ _ _ h => h) (Or.inl ⟨by rfl, ?_⟩) (by assumption) ?_
          rotate_left
          · intro w9 hSw
            go_simp
            first | done | with_reducible rfl
          simp only [Act.put, List.setIfInBounds_toArray, List.set_cons_zero, List.set_cons_succ]
          refine take' 3 (v := ?_) rfl (by kernel_rfl) (by kernel_rfl) (by kernel_rfl) (fun _ _ _ h => h) (Or.inl ⟨by rfl, ?_⟩) (by assumption) ?_
          rotate_left
          · intro w9 hSw
            go_simp
            first | done | with_reducible rfl
          simp only [Act.put, List.setIfInBounds_toArray, List.set_cons_zero, List.set_cons_succ]
          refine take' 4 (v := ?_) rfl (by kernel_rfl) (by kernel_rfl) (by kernel_rfl) (fun _ _ _ h => h) (Or.inl ⟨by rfl, ?_⟩) (by assumption) ?_
          rotate_left
          · intro w9 hSw
            go_simp
            first | done | with_reducible rfl
          simp only [Act.put, List.setIfInBounds_toArray, List.set_cons_zero, List.set_cons_succ]
          refine take' 5 (v := ?_) rfl (by kernel_rfl) (by kernel_rfl) (by kernel_rfl) (fun _ _ _ h => h) (Or.inl ⟨by rfl, ?_⟩) (by assumption) ?_
          rotate_left
          · intro w9 hSw
            go_simp
            first | done | with_reducible rfl
          simp only [Act.put, List.setIfInBounds_toArray, List.set_cons_zero, List.set_cons_succ]
          refine take' 6 (v := ?_) rfl (by kernel_rfl) (by kernel_rfl) (by kernel_rfl) (fun _ _ _ h => h) (Or.inl ⟨by rfl, ?_⟩) (by assumption) ?_
          rotate_left
          · intro w9 hSw
            go_simp
            first | done | with_reducible rfl
          simp only [Act.put, List.setIfInBounds_toArray, List.set_cons_zero, List.set_cons_succ]
          refine wpAnyH_ready (rs := [7]) (by kernel_rfl) (by simp) ?_
          refine cons' rfl (fun KK hKK => ?_)
          go_simp
          refine (GM.out _).mono ?_
          rintro e w7 ⟨rfl, rfl⟩
          go_wp2_with fail
          refine hKK.out _ _ hHeld ?_
          clear hHeld
          intro hHeld
          clear hKK KK
          try simp only [Act.put, List.setIfInBounds_toArray, List.set_cons_zero, List.set_cons_succ]
          refine take' 8 (v := ?_) rfl (by kernel_rfl) (by kernel_rfl) (by kernel_rfl) (fun _ _ _ h => h) (Or.inl ⟨by rfl, ?_⟩) (by assumption) ?_
          rotate_left
          · intro w9 hSw
            go_simp
            first | done | with_reducible rfl
          simp only [Act.put, List.setIfInBounds_toArray, List.set_cons_zero, List.set_cons_succ]
          refine wpAnyH_ready (rs := [9]) (by kernel_rfl) (by simp) ?_
          refine cons' rfl (fun KK hKK => ?_)
          obtain ⟨hS, hS2⟩ := (HF.out.later bD).set hlt (show k < n i by rw [hN.out]; exact hkn) hai.out v
          have bel2 : Bx lo L A n w (w7.setCell ⟨b, off + k, none⟩ (.int .u32 v)) := (bel.add bD hlw).set hlt (show 0 < n i by rw [hN.out]; omega) hai.out hb1
          have hH2 : (w7.setCell ⟨b, off + k, none⟩ (.int .u32 v)).cell? ⟨bl, ol + i, none⟩ = some (.slice (some ⟨b, off, none⟩) N N) := by have := hS.row i hlt; rw [hN.out, hai.out] at this; exact this
          have HS := hide' hS
          clear hS
          go_simp
          refine hKK.out _ _ hH2 ?_
          clear hHeld
          intro hHeld
          clear hKK KK
          try simp only [Act.put, List.setIfInBounds_toArray, List.set_cons_zero, List.set_cons_succ]
          refine wpAnyH_done (by kernel_rfl) ?_ _
          go_wp2
          go_roundw
          case rel => exact ⟨k + 1, upd f i k v, by omega, by go_num, HS.out, fun i1 c1 j cj => by unfold upd; rw [if_neg (fun c => by omega)]; exact HM.out i1 c1 j cj, fun j cj => by unfold upd; by_cases e : j = k; rw [if_pos ⟨rfl, e⟩, e]; exact hv.out.symm; rw [if_neg (fun c => e c.2)]; exact HK.out j (by omega), bel2⟩
          case measure => simp [intOf]; omega
        · have k2 : ¬ ((k : Int) < (N : Int)) := by omega
          go_wp2
          go_roundw
          case rel => exact ⟨i + 1, f, by omega, by go_num, HF.out, fun i1 c1 j cj => by by_cases e : i1 = i; subst e; exact HK.out j (by rw [hN.out] at cj; omega); exact HM.out i1 (by omega) j cj, bel⟩
          case measure => simp [intOf]; omega
    · have eL : L = i := by omega
      subst eL
      have i2 : ¬ ((L : Int) < (L : Int)) := by omega
      have H1 := hide' (hf.congr (g := mrk) hfm)
      clear hf hfm hi hlt
      have hlw : lo ≤ wr.heap.size := Nat.le_trans hlo bel.size
      obtain ⟨w1, hw1⟩ : ∃ w1, wr = w1 := ⟨_, rfl⟩
      rw [hw1] at H1 bel hlw ⊢
      clear hw1
      obtain ⟨i0, hi0, hz0, hz1, hz2⟩ := info_parts infoU
      obtain ⟨j0, hj0, hy0, hy1, hy2⟩ := info_parts infoS
      go_wp2_with fail
      go_loopw [5, 6] (fun vg vi wr => ∃ (i : Nat) (cs : List Value), i ≤ L ∧ vi = .int .i64 i ∧ wr.ownsRow w1.heap.size 22 1 vg i cs ∧ GI wr w1.heap.size 49 n vg i cs ∧ Below w1.heap.size w1 wr) (fun _ vi _ => L - (intOf vi).toNat)
      case atStart => exact ⟨0, [], Nat.zero_le _, rfl, World.ownsRow_nil _ _ _ _, fun k c => absurd c (Nat.not_lt_zero _), Below.refl _ _⟩
      case round =>
        obtain ⟨i, cs, hi, rfl, hO, hG, hB⟩ := hrel
        by_cases hlt : i < L
        · have i2 : ((i : Int) < (L : Int)) := by omega
          have i1 : (0 : Int) ≤ (i : Int) := by omega
          have HO := hide' hO
          have HG := hide' hG
          clear hO hG
          have H2 := hide' (H1.out.later hB)
          have r0 := H2.out.row i hlt
          have HD := hide' (H2.out.olds hlt)
          obtain ⟨N, hN⟩ : ∃ N, n i = N := ⟨_, rfl⟩
          rw [hN] at r0 HD
          have N1 : N ≤ 1073741824 := by rw [← hN]; exact HN.out i hlt
          replace hN := hide' hN
          obtain ⟨ai, hai⟩ : ∃ ai, A i = ai := ⟨_, rfl⟩
          rw [hai] at r0 HD
          replace hai := hide' hai
          obtain ⟨wI, hwI⟩ : ∃ wI, wr = wI := ⟨_, rfl⟩
          rw [hwI] at HO HG hB H2 r0 HD ⊢
          clear hwI
          go_wp2_with fail
          go_loopw [7, 8] (fun v7 vk wq => ∃ k : Nat, k ≤ 16 ∧ vk = .int .i64 k ∧ (k = 0 ∧ v7 = .slice ai N N ∧ wq = wI ∨ 1 ≤ k ∧ wq.ownsRow wI.heap.size 49 1 v7 (N + k) (mks i (N + k)) ∧ Below wI.heap.size wI wq)) (fun _ vk _ => 16 - (intOf vk).toNat)
          case atStart => exact ⟨0, by omega, rfl, .inl ⟨rfl, rfl, rfl⟩⟩
          case round =>
            obtain ⟨k, hk, rfl, hor⟩ := hrel
            clear r0
            by_cases hk16 : k < 16
            · have k2 : ((k : Int) < 16) := by omega
              rcases hor with ⟨rfl, rfl, rfl⟩ | ⟨hk1, hO7, hB7⟩
              · skip
                have GM := hide' (fun w' => mark_is i N w' (by omega) (by omega))
                obtain ⟨v, hv⟩ : ∃ v, mrk i N = v := ⟨_, rfl⟩
                rw [hv] at GM
                replace hv := hide' hv
                obtain ⟨wB, hwB⟩ : ∃ wB, wr.alloc (.cells #[.int .u32 v] 49) = wB := ⟨_, rfl⟩
                have hnew := heap_alloc_new wr (.cells #[.int .u32 v] 49)
                have b3 := below_alloc (w := wr) (.cells #[.int .u32 v] 49)
                rw [hwB] at hnew b3
                have s3 := b3.size
                go_wp2_with fail
                refine (GM.out _).mono ?_
                rintro e w7 ⟨rfl, rfl⟩
                clear GM
                have hd1 := HD.out.1
                have hd2 := hide' (fun b e j u hj => below_cell b3 (HD.out.2 b e j u hj))
                go_wp2_with (at_builtin; (try rw [hwB]); refine wpList_append_grows _ rfl _ _ _ rfl 49 i0 _ 1 4 Try.underlying22 hi0 hz0 hz1 hz2 rfl (by omega) ai N N (mks i N) (by rfl) hd1 (by rw [mks_len]; omega) hd2.out ⟨w7.heap.size, 0, none⟩ 1 1 [.int .u32 v] (by rfl) (by rfl) (World.news_of_block (cs := #[.int .u32 v]) (t := 49) (fr := (0, 0)) hnew) (by simp [Value.oneCell']) (by omega) (by simp only [maxLen]; omega) (by omega) ?_)
                intro v9 w9 hown hgr
                have I1 := hide' (show w9.ownsRow w7.heap.size 49 1 v9 (N + (0 + 1)) (mks i (N + (0 + 1))) ∧ Below w7.heap.size w7 w9 from ⟨by rw [Nat.zero_add, mks_succ, hv.out]; exact own_monoO hown s3, b3.trans (below_grownO s3 (fun k hk => by cases hk) hgr)⟩)
                clear hown hgr hnew b3 hd1 hd2
                go_wp2
                go_roundw
                case rel => exact ⟨0 + 1, by omega, by go_num, .inr ⟨by omega, I1.out⟩⟩
                case measure => simp [intOf]
              · skip
                obtain ⟨g7, c7, e7, _, _⟩ := hO7.form (by omega)
                subst e7
                have GM := hide' (fun w' => mark_is i (N + k) w' (by omega) (by omega))
                obtain ⟨v, hv⟩ : ∃ v, mrk i (N + k) = v := ⟨_, rfl⟩
                rw [hv] at GM
                replace hv := hide' hv
                obtain ⟨wB, hwB⟩ : ∃ wB, wr.alloc (.cells #[.int .u32 v] 49) = wB := ⟨_, rfl⟩
                have hnew := heap_alloc_new wr (.cells #[.int .u32 v] 49)
                have b3 := below_alloc (w := wr) (.cells #[.int .u32 v] 49)
                rw [hwB] at hnew b3
                have s3 := b3.size
                go_wp2_with fail
                refine (GM.out _).mono ?_
                rintro e w7 ⟨rfl, rfl⟩
                clear GM
                have hO8 := own_belowO hO7 b3
                have hbb : wI.heap.size ≤ wB.heap.size := Nat.le_trans hB7.size s3
                have hrow := fun g hg => (hO7.lt g hg).1
                obtain ⟨zs, hzs⟩ : ∃ zs, mks i (N + k) = zs := ⟨_, rfl⟩
                rw [hzs] at hO8
                replace hzs := hide' hzs
                go_wp2_with (at_builtin; (try rw [hwB]); refine wpList_append_lies _ (by rfl) _ _ _ (by rfl) wI.heap.size 49 i0 _ 1 4 Try.underlying22 hi0 hz0 hz1 hz2 rfl (by omega) (.slice (some ⟨g7, 0, none⟩) (N + k) c7) (N + k) zs (by rfl) hO8 ⟨w7.heap.size, 0, none⟩ 1 1 [.int .u32 v] (by rfl) (by rfl) (World.news_of_block (cs := #[.int .u32 v]) (t := 49) (fr := (0, 0)) hnew) (by simp [Value.oneCell']) (by omega) (by simp only [maxLen]; omega) (by omega) hbb wB.heap.size rfl ?_)
                intro gb cap w9 hown hgr hat hlt4
                have I1 := hide' (show w9.ownsRow wI.heap.size 49 1 (.slice (some ⟨gb, 0, none⟩) (N + k + 1) cap) (N + (k + 1)) (mks i (N + (k + 1))) ∧ Below wI.heap.size wI w9 from ⟨by rw [← Nat.add_assoc, mks_succ, hv.out, hzs.out]; exact hown, (hB7.trans (b3.mono hB7.size)).trans (below_grownO hbb hrow hgr)⟩)
                clear hown hgr hat hnew b3 hO8 hrow hO7 hB7
                go_wp2
                go_roundw
                case rel => exact ⟨k + 1, by omega, by go_num, .inr ⟨by omega, I1.out⟩⟩
                case measure => simp [intOf]; omega
            · have k2 : ¬ ((k : Int) < 16) := by omega
              have ek : 16 = k := by omega
              subst ek
              rcases hor with ⟨h, _⟩ | ⟨_, hO7, hB7⟩
              · exact absurd h (by decide)
              obtain ⟨g7, c7, e7, _, _⟩ := hO7.form (by omega)
              subst e7
              obtain ⟨wB, hwB⟩ : ∃ wB, wr.alloc (.cells #[.slice (some ⟨g7, 0, none⟩) (N + 16) c7] 22) = wB := ⟨_, rfl⟩
              have hnew := heap_alloc_new wr (.cells #[.slice (some ⟨g7, 0, none⟩) (N + 16) c7] 22)
              have b3 := below_alloc (w := wr) (.cells #[.slice (some ⟨g7, 0, none⟩) (N + 16) c7] 22)
              rw [hwB] at hnew b3
              have s3 := b3.size
              have s4 := hB.size
              have s5 := hB7.size
              have hbb : w1.heap.size ≤ wB.heap.size := by omega
              have hO8 := own_belowO (own_belowO HO.out hB7) b3
              have hrow := hide' (fun g hg => (HO.out.lt g hg).1)
              go_wp2_with (at_builtin; (try rw [hwB]); refine wpList_append_lies _ (by rfl) _ _ _ (by rfl) w1.heap.size 22 j0 _ 1 24 Try.underlying45 hj0 hy0 hy1 hy2 rfl (by omega) u5 i cs (by rfl) hO8 ⟨wr.heap.size, 0, none⟩ 1 1 [.slice (some ⟨g7, 0, none⟩) (N + 16) c7] (by rfl) (by rfl) (World.news_of_block (cs := #[.slice (some ⟨g7, 0, none⟩) (N + 16) c7]) (t := 22) (fr := (0, 0)) hnew) (by simp [Value.oneCell']) (by omega) (by simp only [maxLen]; omega) (by omega) hbb wB.heap.size rfl ?_)
              intro gb cap w9 hown hgr hat hlt4
              have I1 := hide' (show w9.ownsRow w1.heap.size 22 1 (.slice (some ⟨gb, 0, none⟩) (i + 1) cap) (i + 1) (cs ++ [.slice (some ⟨g7, 0, none⟩) (N + 16) c7]) ∧ GI w9 w1.heap.size 49 n (.slice (some ⟨gb, 0, none⟩) (i + 1) cap) (i + 1) (cs ++ [.slice (some ⟨g7, 0, none⟩) (N + 16) c7]) ∧ Below w1.heap.size w1 w9 from ⟨hown, by have h := HG.out.push HO.out hB7 b3 (by rw [hN.out]; exact hO7) s4 hgr hat (m := i + 1) (cap := cap); rw [hN.out] at h; exact h, ((hB.trans (hB7.mono hB.size)).trans (b3.mono (by omega))).trans (below_grownO hbb hrow.out hgr)⟩)
              clear hown hgr hat hnew b3 hO8 hrow hO7 hB7
              go_wp2
              go_roundw
              case rel => exact ⟨i + 1, _, by omega, by go_num, I1.out⟩
              case measure => simp [intOf]; omega
        · have eL : L = i := by omega
          subst eL
          have i2 : ¬ ((L : Int) < (L : Int)) := by omega
          have H2 := hide' (H1.out.later hB)
          have HG := hide' hG
          have HO := hide' hO
          have hbel := bel.add hB hlw
          have hlw2 : lo ≤ wr.heap.size := Nat.le_trans hlw hB.size
          clear hO hG hB bel hi hlt
          obtain ⟨w2, hw2⟩ : ∃ w2, wr = w2 := ⟨_, rfl⟩
          rw [hw2] at H2 HG HO hbel hlw2 ⊢
          clear hw2
          go_wp2_with fail
          go_loopw [9] (fun vi wr => ∃ i : Nat, i ≤ L ∧ vi = .int .i64 i ∧ Below w2.heap.size w2 wr) (fun vi _ => L - (intOf vi).toNat)
          case atStart => exact ⟨0, Nat.zero_le _, rfl, Below.refl _ _⟩
          case round =>
            obtain ⟨i, hi, rfl, hB⟩ := hrel
            by_cases hlt : i < L
            · have i2 : ((i : Int) < (L : Int)) := by omega
              have i1 : (0 : Int) ≤ (i : Int) := by omega
              obtain ⟨N, hN⟩ : ∃ N, n i = N := ⟨_, rfl⟩
              have N1 : N ≤ 1073741824 := by rw [← hN]; exact HN.out i hlt
              obtain ⟨ai, hai⟩ : ∃ ai, A i = ai := ⟨_, rfl⟩
              obtain ⟨gb, cb, eb, _, _⟩ := HO.out.form (by omega)
              subst eb
              obtain ⟨gi, ci, f1, f2, f3⟩ := HG.out i hlt
              have r1 := HO.out.cellAt i (by omega)
              rw [f1] at r1
              have r0 := H2.out.row i hlt
              rw [hN] at r0 r1 f2
              rw [hai] at r0
              have F2 := hide' f2
              clear f1 f2 f3
              replace hN := hide' hN
              replace hai := hide' hai
              have q0 := below_cell hB r0
              go_wp2_with fail
              go_loopw [10] (fun vk wq => ∃ k : Nat, k ≤ N ∧ vk = .int .i64 k ∧ Below w2.heap.size w2 wq) (fun vk _ => N - (intOf vk).toNat)
              case atStart => exact ⟨0, Nat.zero_le _, rfl, hB⟩
              case round =>
                clear hB
                obtain ⟨k, hk, rfl, hB⟩ := hrel
                try clear q0
                have q0 := below_cell hB r0
                by_cases hkn : k < N
                · have k2 : ((k : Int) < ((N : Nat) : Int)) := by omega
                  have k1 : (0 : Int) ≤ (k : Int) := by omega
                  obtain ⟨b, off, eA, _, _, _, hb4⟩ := H2.out.lst i hlt (by rw [hN.out]; omega)
                  rw [hai.out] at eA
                  subst eA
                  have q1 := below_cell hB (hb4 k (by rw [hN.out]; exact hkn))
                  clear hb4
                  have GM := hide' (fun w' => mark_is i k w' (by omega) (by omega))
                  obtain ⟨v, hv⟩ : ∃ v, mrk i k = v := ⟨_, rfl⟩
                  rw [hv] at GM q1
                  clear hv
                  have hne : (v != v) = false := by simp
                  go_wp2_with fail
                  have bD : Below wr.heap.size wr wr.drew := (Below.refl _ _).drew
                  have kq0 := below_cell bD q0
                  have kq1 := below_cell bD q1
                  replace hB := hB.trans (bD.mono hB.size)
                  refine wp_region_held_drew (S := fun w' => w'.cell? ⟨bl, ol + i, none⟩ = some (.slice (some ⟨b, off, none⟩) N N) ∧ w'.cell? ⟨b, off + k, none⟩ = some (.int .u32 v)) (by kernel_rfl) ⟨kq0, kq1⟩ (fun hHeld => ?_)
                  clear kq0 kq1
                  generalize wr.drew = wF at bD hB hHeld ⊢
                  clear bD q0 q1
                  refine take' 0 (v := ?_) rfl (by kernel_rfl) (by kernel_rfl) (by kernel_rfl) (fun _ _ _ h => h) (Or.inl ⟨by rfl, ?_⟩) (by assumption) ?_
                  rotate_left
                  · intro w9 hSw
                    go_simp
                    first | done | with_reducible rfl
                  simp only [Act.put, List.setIfInBounds_toArray, List.set_cons_zero, List.set_cons_succ]
                  refine take' 1 (v := ?_) rfl (by kernel_rfl) (by kernel_rfl) (by kernel_rfl) (fun _ _ _ h => h) (Or.inl ⟨by rfl, ?_⟩) (by assumption) ?_
                  rotate_left
                  · intro w9 hSw
                    go_simp
                    first | done | with_reducible rfl
                  simp only [Act.put, List.setIfInBounds_toArray, List.set_cons_zero, List.set_cons_succ]
                  refine take' 2 (v := ?_) rfl (by kernel_rfl) (by kernel_rfl) (by kernel_rfl) (fun _ _ _ h => h) (Or.inl ⟨by rfl, ?_⟩) (by assumption) ?_
                  rotate_left
                  · intro w9 hSw
                    go_simp
                    first | done | with_reducible rfl
                  simp only [Act.put, List.setIfInBounds_toArray, List.set_cons_zero, List.set_cons_succ]
                  refine take' 3 (v := ?_) rfl (by kernel_rfl) (by kernel_rfl) (by kernel_rfl) (fun _ _ _ h => h) (Or.inl ⟨by rfl, ?_⟩) (by assumption) ?_
                  rotate_left
                  · intro w9 hSw
                    go_simp
                    first | done | with_reducible rfl
                  simp only [Act.put, List.setIfInBounds_toArray, List.set_cons_zero, List.set_cons_succ]
                  refine take' 4 (v := ?_) rfl (by kernel_rfl) (by kernel_rfl) (by kernel_rfl) (fun _ _ _ h => h) (Or.inl ⟨by rfl, ?_⟩) (by assumption) ?_
                  rotate_left
                  · intro w9 hSw
                    go_simp
                    first | done | with_reducible rfl
                  simp only [Act.put, List.setIfInBounds_toArray, List.set_cons_zero, List.set_cons_succ]
                  refine take' 5 (v := ?_) rfl (by kernel_rfl) (by kernel_rfl) (by kernel_rfl) (fun _ _ _ h => h) (Or.inl ⟨by rfl, ?_⟩) (by assumption) ?_
                  rotate_left
                  · intro w9 hSw
                    go_simp
                    first | done | with_reducible rfl
                  simp only [Act.put, List.setIfInBounds_toArray, List.set_cons_zero, List.set_cons_succ]
                  refine take' 6 (v := ?_) rfl (by kernel_rfl) (by kernel_rfl) (by kernel_rfl) (fun _ _ _ h => h) (Or.inl ⟨by rfl, ?_⟩) (by assumption) ?_
                  rotate_left
                  · intro w9 hSw
                    go_simp
                    first | done | with_reducible rfl
                  simp only [Act.put, List.setIfInBounds_toArray, List.set_cons_zero, List.set_cons_succ]
                  refine take' 7 (v := ?_) rfl (by kernel_rfl) (by kernel_rfl) (by kernel_rfl) (fun _ _ _ h => h) (Or.inl ⟨by rfl, ?_⟩) (by assumption) ?_
                  rotate_left
                  · intro w9 hSw
                    go_simp
                    first | done | with_reducible rfl
                  simp only [Act.put, List.setIfInBounds_toArray, List.set_cons_zero, List.set_cons_succ]
                  refine take' 8 (v := ?_) rfl (by kernel_rfl) (by kernel_rfl) (by kernel_rfl) (fun _ _ _ h => h) (Or.inl ⟨by rfl, ?_⟩) (by assumption) ?_
                  rotate_left
                  · intro w9 hSw
                    go_simp
                    first | done | with_reducible rfl
                  simp only [Act.put, List.setIfInBounds_toArray, List.set_cons_zero, List.set_cons_succ]
                  refine wpAnyH_ready (rs := [9]) (by kernel_rfl) (by simp) ?_
                  refine cons' rfl (fun KK hKK => ?_)
                  go_simp
                  refine (GM.out _).mono ?_
                  rintro e w7 ⟨rfl, rfl⟩
                  go_wp2_with fail
                  refine hKK.out _ _ hHeld ?_
                  clear hHeld
                  intro hHeld
                  clear hKK KK
                  try simp only [Act.put, List.setIfInBounds_toArray, List.set_cons_zero, List.set_cons_succ]
                  refine take' 10 (v := ?_) rfl (by kernel_rfl) (by kernel_rfl) (by kernel_rfl) (fun _ _ _ h => h) (Or.inl ⟨by rfl, ?_⟩) (by assumption) ?_
                  rotate_left
                  · intro w9 hSw
                    go_simp
                    first | done | with_reducible rfl
                  simp only [Act.put, List.setIfInBounds_toArray, List.set_cons_zero, List.set_cons_succ]
                  refine wpAnyH_done (by kernel_rfl) ?_ _
                  clear hHeld
                  go_wp2
                  go_roundw
                  case rel => exact ⟨k + 1, by omega, by go_num, hB⟩
                  case measure => simp [intOf]; omega
                · have k2 : ¬ ((k : Int) < ((N : Nat) : Int)) := by omega
                  clear hkn hk
                  have q5 := below_cell hB r1
                  go_wp2_with fail
                  clear q5
                  go_loopw [11] (fun vk wq => ∃ k : Nat, k ≤ (N + 16) ∧ vk = .int .i64 k ∧ Below w2.heap.size w2 wq) (fun vk _ => (N + 16) - (intOf vk).toNat)
                  case atStart => exact ⟨0, Nat.zero_le _, rfl, hB⟩
                  case round =>
                    clear hB
                    obtain ⟨k, hk, rfl, hB⟩ := hrel
                    try clear q0
                    have q0 := below_cell hB r1
                    by_cases hkn : k < (N + 16)
                    · have k2 : ((k : Int) < (((N + 16) : Nat) : Int)) := by omega
                      have k3 : ((k : Int) < (N : Int) + 16) := by omega
                      have k1 : (0 : Int) ≤ (k : Int) := by omega
                      have q1 := F2.out.cellAt k (by omega)
                      rw [mks_at hkn] at q1
                      replace q1 := below_cell hB q1
                      have GM := hide' (fun w' => mark_is i k w' (by omega) (by omega))
                      obtain ⟨v, hv⟩ : ∃ v, mrk i k = v := ⟨_, rfl⟩
                      rw [hv] at GM q1
                      clear hv
                      have hne : (v != v) = false := by simp
                      go_wp2_with fail
                      have bD : Below wr.heap.size wr wr.drew := (Below.refl _ _).drew
                      have kq0 := below_cell bD q0
                      have kq1 := below_cell bD q1
                      replace hB := hB.trans (bD.mono hB.size)
                      refine wp_region_held_drew (S := fun w' => w'.cell? ⟨gb, i, none⟩ = some (.slice (some ⟨gi, 0, none⟩) (N + 16) ci) ∧ w'.cell? ⟨gi, k, none⟩ = some (.int .u32 v)) (by kernel_rfl) ⟨kq0, kq1⟩ (fun hHeld => ?_)
                      clear kq0 kq1
                      generalize wr.drew = wF at bD hB hHeld ⊢
                      clear bD q0 q1
                      refine take' 0 (v := ?_) rfl (by kernel_rfl) (by kernel_rfl) (by kernel_rfl) (fun _ _ _ h => h) (Or.inl ⟨by rfl, ?_⟩) (by assumption) ?_
                      rotate_left
                      · intro w9 hSw
                        go_simp
                        first | done | with_reducible rfl
                      simp only [Act.put, List.setIfInBounds_toArray, List.set_cons_zero, List.set_cons_succ]
                      refine take' 1 (v := ?_) rfl (by kernel_rfl) (by kernel_rfl) (by kernel_rfl) (fun _ _ _ h => h) (Or.inl ⟨by rfl, ?_⟩) (by assumption) ?_
                      rotate_left
                      · intro w9 hSw
                        go_simp
                        first | done | with_reducible rfl
                      simp only [Act.put, List.setIfInBounds_toArray, List.set_cons_zero, List.set_cons_succ]
                      refine take' 2 (v := ?_) rfl (by kernel_rfl) (by kernel_rfl) (by kernel_rfl) (fun _ _ _ h => h) (Or.inl ⟨by rfl, ?_⟩) (by assumption) ?_
                      rotate_left
                      · intro w9 hSw
                        go_simp
                        first | done | with_reducible rfl
                      simp only [Act.put, List.setIfInBounds_toArray, List.set_cons_zero, List.set_cons_succ]
                      refine take' 3 (v := ?_) rfl (by kernel_rfl) (by kernel_rfl) (by kernel_rfl) (fun _ _ _ h => h) (Or.inl ⟨by rfl, ?_⟩) (by assumption) ?_
                      rotate_left
                      · intro w9 hSw
                        go_simp
                        first | done | with_reducible rfl
                      simp only [Act.put, List.setIfInBounds_toArray, List.set_cons_zero, List.set_cons_succ]
                      refine take' 4 (v := ?_) rfl (by kernel_rfl) (by kernel_rfl) (by kernel_rfl) (fun _ _ _ h => h) (Or.inl ⟨by rfl, ?_⟩) (by assumption) ?_
                      rotate_left
                      · intro w9 hSw
                        go_simp
                        first | done | with_reducible rfl
                      simp only [Act.put, List.setIfInBounds_toArray, List.set_cons_zero, List.set_cons_succ]
                      refine take' 5 (v := ?_) rfl (by kernel_rfl) (by kernel_rfl) (by kernel_rfl) (fun _ _ _ h => h) (Or.inl ⟨by rfl, ?_⟩) (by assumption) ?_
                      rotate_left
                      · intro w9 hSw
                        go_simp
                        first | done | with_reducible rfl
                      simp only [Act.put, List.setIfInBounds_toArray, List.set_cons_zero, List.set_cons_succ]
                      refine take' 6 (v := ?_) rfl (by kernel_rfl) (by kernel_rfl) (by kernel_rfl) (fun _ _ _ h => h) (Or.inl ⟨by rfl, ?_⟩) (by assumption) ?_
                      rotate_left
                      · intro w9 hSw
                        go_simp
                        first | done | with_reducible rfl
                      simp only [Act.put, List.setIfInBounds_toArray, List.set_cons_zero, List.set_cons_succ]
                      refine take' 7 (v := ?_) rfl (by kernel_rfl) (by kernel_rfl) (by kernel_rfl) (fun _ _ _ h => h) (Or.inl ⟨by rfl, ?_⟩) (by assumption) ?_
                      rotate_left
                      · intro w9 hSw
                        go_simp
                        first | done | with_reducible rfl
                      simp only [Act.put, List.setIfInBounds_toArray, List.set_cons_zero, List.set_cons_succ]
                      refine take' 8 (v := ?_) rfl (by kernel_rfl) (by kernel_rfl) (by kernel_rfl) (fun _ _ _ h => h) (Or.inl ⟨by rfl, ?_⟩) (by assumption) ?_
                      rotate_left
                      · intro w9 hSw
                        go_simp
                        first | done | with_reducible rfl
                      simp only [Act.put, List.setIfInBounds_toArray, List.set_cons_zero, List.set_cons_succ]
                      refine wpAnyH_ready (rs := [9]) (by kernel_rfl) (by simp) ?_
                      refine cons' rfl (fun KK hKK => ?_)
                      go_simp
                      refine (GM.out _).mono ?_
                      rintro e w7 ⟨rfl, rfl⟩
                      go_wp2_with fail
                      refine hKK.out _ _ hHeld ?_
                      clear hHeld
                      intro hHeld
                      clear hKK KK
                      try simp only [Act.put, List.setIfInBounds_toArray, List.set_cons_zero, List.set_cons_succ]
                      refine take' 10 (v := ?_) rfl (by kernel_rfl) (by kernel_rfl) (by kernel_rfl) (fun _ _ _ h => h) (Or.inl ⟨by rfl, ?_⟩) (by assumption) ?_
                      rotate_left
                      · intro w9 hSw
                        go_simp
                        first | done | with_reducible rfl
                      simp only [Act.put, List.setIfInBounds_toArray, List.set_cons_zero, List.set_cons_succ]
                      refine wpAnyH_done (by kernel_rfl) ?_ _
                      clear hHeld
                      go_wp2
                      go_roundw
                      case rel => exact ⟨k + 1, by omega, by go_num, hB⟩
                      case measure => simp [intOf]; omega
                    · have k2 : ¬ ((k : Int) < (((N + 16) : Nat) : Int)) := by omega
                      have k3 : ¬ ((k : Int) < (N : Int) + 16) := by omega
                      go_wp2
                      go_roundw
                      case rel => exact ⟨i + 1, by omega, by go_num, hB⟩
                      case measure => simp [intOf]; omega
            · have eL : L = i := by omega
              subst eL
              have i2 : ¬ ((L : Int) < (L : Int)) := by omega
              go_wp2
              go_ret
              exact ⟨rfl, hbel.add hB hlw2⟩
theorem spoil_is (lo bl ol L cl : Nat) (A : Nat → Option Addr) (n : Nat → Nat) (f0 : Nat → Nat → Int) (w : World) (hL : L ≤ 1000000) (hn : ∀ i, i < L → n i ≤ 1073741824) (hlo : lo ≤ w.heap.size) (h0 : Ls w lo bl ol L A n f0) :
    Calls Try.prog 13 #[.slice (some ⟨bl, ol, none⟩) L cl] w fun e w' => e = .returned (.bool true) ∧ Below lo w w' := by
  refine (spoil_ox lo bl ol L cl A n f0 w hL hn hlo h0).mono ?_
  rintro e w' ⟨rfl, h⟩
  exact ⟨rfl, h.bel⟩
end Go.Proofs.Ythecapmdionnmaa
