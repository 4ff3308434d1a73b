/-
  SexprSames: Same, the program's and the reference's.
-/
import Derived.Test.YtibeiggedmabkaaDoorSS0
namespace Go.Proofs.YtibeiggedmabkaaDoor
open Go.RowKit
set_option linter.unusedVariables false
set_option linter.unusedSimpArgs false
theorem isListZ (t : TokZ) (v : Value) (bv : Bool) (hbv : decide (t.k = 0) = bv) (w : World) : Calls Tryd.prog 24 #[.agg #[.int .i64 t.k, .string t.t, .int .i64 t.b, .int .i64 t.e, .int .i64 t.l, .int .i64 t.c, v]] w fun e w' => e = .returned (.bool bv) ∧ Below w.heap.size w w' := by
  subst hbv
  have b1 := below_alloc (w := w) (.cells #[.int .i64 t.k, .string t.t, .int .i64 t.b, .int .i64 t.e, .int .i64 t.l, .int .i64 t.c, v] 34)
  go_enter Tryd.func24, Tryd.ntmps24
  go_wp2
  go_ret
  exact ⟨rfl, b1⟩

set_option maxHeartbeats 8000000 in
set_option maxRecDepth 100000 in
theorem rsame {w0 : World} {v1 : Value} {kids : List NdZ} (h1 : ZIn w0 v1 kids) : ∀ {v2 : Value} {kids2 : List NdZ} (h2 : ZIn w0 v2 kids2) (t t2 : TokZ) (w : World) (hB0 : Below w0.heap.size w0 w), Calls Tryd.prog 13 #[.agg #[.int .i64 t.k, .string t.t, .int .i64 t.b, .int .i64 t.e, .int .i64 t.l, .int .i64 t.c, v1], .agg #[.int .i64 t2.k, .string t2.t, .int .i64 t2.b, .int .i64 t2.e, .int .i64 t2.l, .int .i64 t2.c, v2]] w fun e w' => e = .returned (.bool (sameZ (.mk t kids) (.mk t2 kids2))) ∧ Below w.heap.size w w' := by
  induction h1 with
  | mk a g off c kids vs ha hb hc hv hk ih =>
    intro v2 kids2 h2 t t2 w hB0
    cases h2 with
    | mk a2 g2 off2 c2 kids2 vs2 ha2 hb2 hc2 hv2 hk2 =>
      have IH := hideT (fun k (hk3 : k < kids.length) (hk4 : k < kids2.length) => ih k hk3 (hk2 k hk4))
      have HC := hideT (And.intro hc (And.intro hv (And.intro hc2 hv2)))
      clear ih hc hv hc2 hv2 hk hk2
      have b1 := below_alloc (w := w) (.cells #[.int .i64 t.k, .string t.t, .int .i64 t.b, .int .i64 t.e, .int .i64 t.l, .int .i64 t.c, .slice a kids.length c] 34)
      have qA := Blk.new w #[.int .i64 t.k, .string t.t, .int .i64 t.b, .int .i64 t.e, .int .i64 t.l, .int .i64 t.c, .slice a kids.length c] 34
      have e1 : (w.alloc (.cells #[.int .i64 t.k, .string t.t, .int .i64 t.b, .int .i64 t.e, .int .i64 t.l, .int .i64 t.c, .slice a kids.length c] 34)).heap.size = w.heap.size + 1 := by simp
      have b2 := below_alloc (w := w.alloc (.cells #[.int .i64 t.k, .string t.t, .int .i64 t.b, .int .i64 t.e, .int .i64 t.l, .int .i64 t.c, .slice a kids.length c] 34)) (.cells #[.int .i64 t2.k, .string t2.t, .int .i64 t2.b, .int .i64 t2.e, .int .i64 t2.l, .int .i64 t2.c, .slice a2 kids2.length c2] 34)
      have qB := Blk.new (w.alloc (.cells #[.int .i64 t.k, .string t.t, .int .i64 t.b, .int .i64 t.e, .int .i64 t.l, .int .i64 t.c, .slice a kids.length c] 34)) #[.int .i64 t2.k, .string t2.t, .int .i64 t2.b, .int .i64 t2.e, .int .i64 t2.l, .int .i64 t2.c, .slice a2 kids2.length c2] 34
      rw [e1] at qB
      replace qA := qA.later b2
      have hB := b1.trans (b2.mono b1.size)
      clear b1 b2
      have SZ : sameZ (.mk t kids) (.mk t2 kids2) = (if t.k = t2.k then (if t.k = 0 then sameL kids kids2 else (t.t.toList == t2.t.toList)) else false) := by simp only [sameZ]
      generalize sameZ (.mk t kids) (.mk t2 kids2) = res at SZ ⊢
      go_enter Tryd.func13, Tryd.ntmps13
      go_upto_region 1 with fail
      try rw [e1]
      generalize (w.alloc (.cells #[.int .i64 t.k, .string t.t, .int .i64 t.b, .int .i64 t.e, .int .i64 t.l, .int .i64 t.c, .slice a kids.length c] 34)).alloc (.cells #[.int .i64 t2.k, .string t2.t, .int .i64 t2.b, .int .i64 t2.e, .int .i64 t2.l, .int .i64 t2.c, .slice a2 kids2.length c2] 34) = W at qA qB hB ⊢
      clear e1
      have x0 := qA.cell 0
      have y0 := qB.cell 0
      have x1 := qA.cell 1
      have y1 := qB.cell 1
      have x2 := qA.cell 2
      have y2 := qB.cell 2
      have x3 := qA.cell 3
      have y3 := qB.cell 3
      have x4 := qA.cell 4
      have y4 := qB.cell 4
      have x5 := qA.cell 5
      have y5 := qB.cell 5
      have x6 := qA.cell 6
      have y6 := qB.cell 6
      simp only [List.getElem?_toArray, List.getElem?_cons_zero, List.getElem?_cons_succ] at x0 y0 x1 y1 x2 y2 x3 y3 x4 y4 x5 y5 x6 y6
      by_cases hkk : t.k = t2.k
      · rw [if_pos hkk] at SZ
        have hkb : (t.k != t2.k) = false := by simp [hkk]
        clear hkk
        by_cases h0 : t.k = 0
        · rw [if_pos h0] at SZ
          have h0b : (t.k != 0) = false := by simp [h0]
          clear h0
          by_cases hln : kids.length = kids2.length
          · skip
            have hlb : ((kids.length : Int) != (kids2.length : Int)) = false := by simp [hln]
            have HQ := hideT hln
            clear hln
            replace SZ := hideT SZ
            go_wp2_with fail
            go_loopw [5] (fun i wr => ∃ k : Nat, k ≤ kids.length ∧ i = .int .i64 k ∧ Blk wr w.heap.size #[.int .i64 t.k, .string t.t, .int .i64 t.b, .int .i64 t.e, .int .i64 t.l, .int .i64 t.c, .slice a kids.length c] 34 ∧ Blk wr (w.heap.size + 1) #[.int .i64 t2.k, .string t2.t, .int .i64 t2.b, .int .i64 t2.e, .int .i64 t2.l, .int .i64 t2.c, .slice a2 kids2.length c2] 34 ∧ Below w.heap.size w wr ∧ (∀ i (h : i < kids.length) (h2 : i < kids2.length), i < k → sameZ kids[i] kids2[i] = true)) (fun i _ => kids.length - (intOf i).toNat)
            case atStart => exact ⟨0, Nat.zero_le _, rfl, qA, qB, hB, fun i _ _ c => absurd c (Nat.not_lt_zero _)⟩
            case round =>
              clear qA qB hB x0 y0 x1 y1 x2 y2 x3 y3 x4 y4 x5 y5 x6 y6
              obtain ⟨k, hk, rfl, qA, qB, hB, hall⟩ := hrel
              have x6 := qA.cell 6
              have y6 := qB.cell 6
              simp only [List.getElem?_toArray, List.getElem?_cons_zero, List.getElem?_cons_succ] at x6 y6
              by_cases hlt : k < kids.length
              · have hki : ((k : Int) < (kids.length : Int)) := by omega
                have hlt2 : k < kids2.length := by have := HQ.out; omega
                have hki2 : ((k : Int) < (kids2.length : Int)) := by omega
                have ea := ha (by omega)
                have ea2 := ha2 (by omega)
                subst ea ea2
                have h0 := hB0.trans (hB.mono hB0.size)
                obtain ⟨hc, hv, hc2, hv2⟩ := HC.out
                obtain ⟨T, KT, hT⟩ : ∃ T KT, kids[k] = .mk T KT := by rcases kids[k] with ⟨T, KT⟩; exact ⟨T, KT, rfl⟩
                obtain ⟨U, KU, hU⟩ : ∃ U KU, kids2[k] = .mk U KU := by rcases kids2[k] with ⟨T, KT⟩; exact ⟨T, KT, rfl⟩
                have a0 := hc k hlt 0 (by decide)
                have a1 := hc k hlt 1 (by decide)
                have a2 := hc k hlt 2 (by decide)
                have a3 := hc k hlt 3 (by decide)
                have a4 := hc k hlt 4 (by decide)
                have a5 := hc k hlt 5 (by decide)
                rw [hT] at a0 a1 a2 a3 a4 a5
                simp only [NdZ.t, TokZ.cells, List.getElem?_cons_zero, List.getElem?_cons_succ] at a0 a1 a2 a3 a4 a5
                rw [Nat.add_zero] at a0
                have a6 := hv k hlt
                replace a0 := below_cell h0 a0
                replace a1 := below_cell h0 a1
                replace a2 := below_cell h0 a2
                replace a3 := below_cell h0 a3
                replace a4 := below_cell h0 a4
                replace a5 := below_cell h0 a5
                replace a6 := below_cell h0 a6
                have b0 := hc2 k hlt2 0 (by decide)
                have b1 := hc2 k hlt2 1 (by decide)
                have b2 := hc2 k hlt2 2 (by decide)
                have b3 := hc2 k hlt2 3 (by decide)
                have b4 := hc2 k hlt2 4 (by decide)
                have b5 := hc2 k hlt2 5 (by decide)
                rw [hU] at b0 b1 b2 b3 b4 b5
                simp only [NdZ.t, TokZ.cells, List.getElem?_cons_zero, List.getElem?_cons_succ] at b0 b1 b2 b3 b4 b5
                rw [Nat.add_zero] at b0
                have b6 := hv2 k hlt2
                replace b0 := below_cell h0 b0
                replace b1 := below_cell h0 b1
                replace b2 := below_cell h0 b2
                replace b3 := below_cell h0 b3
                replace b4 := below_cell h0 b4
                replace b5 := below_cell h0 b5
                replace b6 := below_cell h0 b6
                have GI := hideT (fun W h => IH.out k hlt hlt2 T U W h)
                rw [hT, hU] at GI
                simp only [NdZ.kids] at GI
                have HN := hideT (sameL_not kids kids2 k hlt hlt2)
                rw [hT, hU] at HN
                have HA := hideT (And.intro hT hU)
                clear hc hv hc2 hv2 hT hU
                generalize vs k = u1 at a6 GI
                generalize vs2 k = u2 at b6 GI
                have hB1 := hideT hB0
                generalize hr : sameZ (.mk T KT) (.mk U KU) = rr at GI HN
                go_wp2_with fail
                have bD : Below wr.heap.size wr wr.drew := (Below.refl _ _).drew
                have kx6 := below_cell bD x6
                have ky6 := below_cell bD y6
                have ka0 := below_cell bD a0
                have ka1 := below_cell bD a1
                have ka2 := below_cell bD a2
                have ka3 := below_cell bD a3
                have ka4 := below_cell bD a4
                have ka5 := below_cell bD a5
                have ka6 := below_cell bD a6
                have kb0 := below_cell bD b0
                have kb1 := below_cell bD b1
                have kb2 := below_cell bD b2
                have kb3 := below_cell bD b3
                have kb4 := below_cell bD b4
                have kb5 := below_cell bD b5
                have kb6 := below_cell bD b6
                replace hB := hB.trans (bD.mono hB.size)
                replace qA := qA.later bD
                replace qB := qB.later bD
                refine wp_region_held_drew (S := fun w' => w'.cell? ⟨w.heap.size, 6, none⟩ = some (.slice (some ⟨g, off, none⟩) kids.length c) ∧ w'.cell? ⟨w.heap.size + 1, 6, none⟩ = some (.slice (some ⟨g2, off2, none⟩) kids2.length c2) ∧ w'.cell? ⟨g, off + k * 7, none⟩ = some (.int .i64 T.k) ∧ w'.cell? ⟨g, off + k * 7 + 1, none⟩ = some (.string T.t) ∧ w'.cell? ⟨g, off + k * 7 + 2, none⟩ = some (.int .i64 T.b) ∧ w'.cell? ⟨g, off + k * 7 + 3, none⟩ = some (.int .i64 T.e) ∧ w'.cell? ⟨g, off + k * 7 + 4, none⟩ = some (.int .i64 T.l) ∧ w'.cell? ⟨g, off + k * 7 + 5, none⟩ = some (.int .i64 T.c) ∧ w'.cell? ⟨g, off + k * 7 + 6, none⟩ = some (u1) ∧ w'.cell? ⟨g2, off2 + k * 7, none⟩ = some (.int .i64 U.k) ∧ w'.cell? ⟨g2, off2 + k * 7 + 1, none⟩ = some (.string U.t) ∧ w'.cell? ⟨g2, off2 + k * 7 + 2, none⟩ = some (.int .i64 U.b) ∧ w'.cell? ⟨g2, off2 + k * 7 + 3, none⟩ = some (.int .i64 U.e) ∧ w'.cell? ⟨g2, off2 + k * 7 + 4, none⟩ = some (.int .i64 U.l) ∧ w'.cell? ⟨g2, off2 + k * 7 + 5, none⟩ = some (.int .i64 U.c) ∧ w'.cell? ⟨g2, off2 + k * 7 + 6, none⟩ = some (u2)) (by kernel_rfl) ⟨kx6, ky6, ka0, ka1, ka2, ka3, ka4, ka5, ka6, kb0, kb1, kb2, kb3, kb4, kb5, kb6⟩ (fun hHeld => ?_)
                clear kx6 ky6 ka0 ka1 ka2 ka3 ka4 ka5 ka6 kb0 kb1 kb2 kb3 kb4 kb5 kb6
                generalize wr.drew = w0 at bD qA qB hB hHeld ⊢
                clear x6 y6 a0 a1 a2 a3 a4 a5 a6 b0 b1 b2 b3 b4 b5 b6
                refine take' 0 (v := ?_) rfl (by kernel_rfl) (by kernel_rfl) (by kernel_rfl) (fun _ _ _ h => h) (Or.inl ⟨by rfl, ?_⟩) (by assumption) ?_
                rotate_left
                · intro w9 hSw
                  go_simp
                  first | done | with_reducible rfl
                simp only [Act.put, List.setIfInBounds_toArray, List.set_cons_zero, List.set_cons_succ]
                refine take' 1 (v := ?_) rfl (by kernel_rfl) (by kernel_rfl) (by kernel_rfl) (fun _ _ _ h => h) (Or.inl ⟨by rfl, ?_⟩) (by assumption) ?_
                rotate_left
                · intro w9 hSw
                  go_simp
                  first | done | with_reducible rfl
                simp only [Act.put, List.setIfInBounds_toArray, List.set_cons_zero, List.set_cons_succ]
                refine take' 2 (v := ?_) rfl (by kernel_rfl) (by kernel_rfl) (by kernel_rfl) (fun _ _ _ h => h) (Or.inl ⟨by rfl, ?_⟩) (by assumption) ?_
                rotate_left
                · intro w9 hSw
                  go_simp
                  first | done | with_reducible rfl
                simp only [Act.put, List.setIfInBounds_toArray, List.set_cons_zero, List.set_cons_succ]
                refine take' 3 (v := ?_) rfl (by kernel_rfl) (by kernel_rfl) (by kernel_rfl) (fun _ _ _ h => h) (Or.inl ⟨by rfl, ?_⟩) (by assumption) ?_
                rotate_left
                · intro w9 hSw
                  go_simp
                  first | done | with_reducible rfl
                simp only [Act.put, List.setIfInBounds_toArray, List.set_cons_zero, List.set_cons_succ]
                refine take' 4 (v := ?_) rfl (by kernel_rfl) (by kernel_rfl) (by kernel_rfl) (fun _ _ _ h => h) (Or.inl ⟨by rfl, ?_⟩) (by assumption) ?_
                rotate_left
                · intro w9 hSw
                  go_simp
                  first | done | with_reducible rfl
                simp only [Act.put, List.setIfInBounds_toArray, List.set_cons_zero, List.set_cons_succ]
                refine take' 5 (v := ?_) rfl (by kernel_rfl) (by kernel_rfl) (by kernel_rfl) (fun _ _ _ h => h) (Or.inl ⟨by rfl, ?_⟩) (by assumption) ?_
                rotate_left
                · intro w9 hSw
                  go_simp
                  first | done | with_reducible rfl
                simp only [Act.put, List.setIfInBounds_toArray, List.set_cons_zero, List.set_cons_succ]
                refine take' 6 (v := ?_) rfl (by kernel_rfl) (by kernel_rfl) (by kernel_rfl) (fun _ _ _ h => h) (Or.inl ⟨by rfl, ?_⟩) (by assumption) ?_
                rotate_left
                · intro w9 hSw
                  go_simp
                  first | done | with_reducible rfl
                simp only [Act.put, List.setIfInBounds_toArray, List.set_cons_zero, List.set_cons_succ]
                refine take' 7 (v := ?_) rfl (by kernel_rfl) (by kernel_rfl) (by kernel_rfl) (fun _ _ _ h => h) (Or.inl ⟨by rfl, ?_⟩) (by assumption) ?_
                rotate_left
                · intro w9 hSw
                  go_simp
                  first | done | with_reducible rfl
                simp only [Act.put, List.setIfInBounds_toArray, List.set_cons_zero, List.set_cons_succ]
                refine take' 8 (v := ?_) rfl (by kernel_rfl) (by kernel_rfl) (by kernel_rfl) (fun _ _ _ h => h) (Or.inl ⟨by rfl, ?_⟩) (by assumption) ?_
                rotate_left
                · intro w9 hSw
                  go_simp
                  first | done | with_reducible rfl
                simp only [Act.put, List.setIfInBounds_toArray, List.set_cons_zero, List.set_cons_succ]
                refine take' 9 (v := ?_) rfl (by kernel_rfl) (by kernel_rfl) (by kernel_rfl) (fun _ _ _ h => h) (Or.inl ⟨by rfl, ?_⟩) (by assumption) ?_
                rotate_left
                · intro w9 hSw
                  go_simp
                  first | done | with_reducible rfl
                simp only [Act.put, List.setIfInBounds_toArray, List.set_cons_zero, List.set_cons_succ]
                refine wpAnyH_ready (rs := [10]) (by kernel_rfl) (by simp) ?_
                refine cons' rfl (fun KK hKK => ?_)
                go_simp
                refine (GI.out _ (hB1.out.trans (hB.mono hB1.out.size))).mono ?_
                rintro e w5 ⟨rfl, b5⟩
                replace hB := hB.trans (b5.mono hB.size)
                replace qA := qA.later b5
                replace qB := qB.later b5
                replace hHeld := (⟨below_cell b5 hHeld.1, below_cell b5 hHeld.2.1, below_cell b5 hHeld.2.2.1, below_cell b5 hHeld.2.2.2.1, below_cell b5 hHeld.2.2.2.2.1, below_cell b5 hHeld.2.2.2.2.2.1, below_cell b5 hHeld.2.2.2.2.2.2.1, below_cell b5 hHeld.2.2.2.2.2.2.2.1, below_cell b5 hHeld.2.2.2.2.2.2.2.2.1, below_cell b5 hHeld.2.2.2.2.2.2.2.2.2.1, below_cell b5 hHeld.2.2.2.2.2.2.2.2.2.2.1, below_cell b5 hHeld.2.2.2.2.2.2.2.2.2.2.2.1, below_cell b5 hHeld.2.2.2.2.2.2.2.2.2.2.2.2.1, below_cell b5 hHeld.2.2.2.2.2.2.2.2.2.2.2.2.2.1, below_cell b5 hHeld.2.2.2.2.2.2.2.2.2.2.2.2.2.2.1, below_cell b5 hHeld.2.2.2.2.2.2.2.2.2.2.2.2.2.2.2⟩ : _ ∧ _ ∧ _ ∧ _ ∧ _ ∧ _ ∧ _ ∧ _ ∧ _ ∧ _ ∧ _ ∧ _ ∧ _ ∧ _ ∧ _ ∧ _)
                clear b5
                go_wp2_with fail
                refine hKK.out _ _ hHeld ?_
                clear hHeld
                intro hHeld
                clear hKK KK
                try simp only [Act.put, List.setIfInBounds_toArray, List.set_cons_zero, List.set_cons_succ]
                refine take' 11 (v := ?_) rfl (by kernel_rfl) (by kernel_rfl) (by kernel_rfl) (fun _ _ _ h => h) (Or.inl ⟨by rfl, ?_⟩) (by assumption) ?_
                rotate_left
                · intro w9 hSw
                  go_simp
                  first | done | with_reducible rfl
                simp only [Act.put, List.setIfInBounds_toArray, List.set_cons_zero, List.set_cons_succ]
                refine wpAnyH_done (by kernel_rfl) ?_ _
                clear hHeld
                cases rr with
                | false => go_wp2; go_ret; exact ⟨by have q := SZ.out; rw [HN.out (by trivial)] at q; subst q; rfl, hB⟩
                | true =>
                  go_wp2
                  go_roundw
                  case rel => exact ⟨k + 1, by omega, by go_num, qA, qB, hB, fun i h h2 hi => (Nat.lt_or_ge i k).elim (fun c => hall i h h2 c) (fun c => by have e : i = k := (by omega); subst e; rw [HA.out.1, HA.out.2]; exact hr)⟩
                  case measure => simp [intOf]; omega
              · have hki : ¬ ((k : Int) < (kids.length : Int)) := by omega
                go_wp2
                go_ret
                exact ⟨by have q := SZ.out; rw [sameL_all kids kids2 HQ.out (fun i h h2 => hall i h h2 (by omega))] at q; subst q; rfl, hB⟩
          · rw [sameL_len _ _ hln] at SZ
            have hlb : ((kids.length : Int) != (kids2.length : Int)) = true := by simp; omega
            clear hln
            replace SZ := hideT SZ
            go_wp2
            go_ret
            exact ⟨by have q := SZ.out; subst q; rfl, hB⟩
        · rw [if_neg h0] at SZ
          have h0b : (t.k != 0) = true := by simp [h0]
          clear h0
          replace SZ := hideT SZ
          go_wp2
          go_ret
          exact ⟨by have q := SZ.out; subst q; rfl, hB⟩
      · rw [if_neg hkk] at SZ
        have hkb : (t.k != t2.k) = true := by simp [hkk]
        clear hkk
        replace SZ := hideT SZ
        go_wp2
        go_ret
        exact ⟨by have q := SZ.out; subst q; rfl, hB⟩

set_option maxHeartbeats 8000000 in
set_option maxRecDepth 100000 in
theorem psame {w0 : World} {v1 : Value} {kids : List NdZ} (h1 : ZIn w0 v1 kids) : ∀ {v2 : Value} {kids2 : List NdZ} (h2 : ZIn w0 v2 kids2) (t t2 : TokZ) (w : World) (hB0 : Below w0.heap.size w0 w), Calls Tryd.prog 14 #[.agg #[.int .i64 t.k, .string t.t, .int .i64 t.b, .int .i64 t.e, .int .i64 t.l, .int .i64 t.c, v1], .agg #[.int .i64 t2.k, .string t2.t, .int .i64 t2.b, .int .i64 t2.e, .int .i64 t2.l, .int .i64 t2.c, v2]] w fun e w' => e = .returned (.bool (sameZ (.mk t kids) (.mk t2 kids2))) ∧ Below w.heap.size w w' := by
  induction h1 with
  | mk a g off c kids vs ha hb hc hv hk ih =>
    intro v2 kids2 h2 t t2 w hB0
    cases h2 with
    | mk a2 g2 off2 c2 kids2 vs2 ha2 hb2 hc2 hv2 hk2 =>
      have IH := hideT (fun k (hk3 : k < kids.length) (hk4 : k < kids2.length) => ih k hk3 (hk2 k hk4))
      have HC := hideT (And.intro hc (And.intro hv (And.intro hc2 hv2)))
      clear ih hc hv hc2 hv2 hk hk2
      have b1 := below_alloc (w := w) (.cells #[.int .i64 t.k, .string t.t, .int .i64 t.b, .int .i64 t.e, .int .i64 t.l, .int .i64 t.c, .slice a kids.length c] 34)
      have qA := Blk.new w #[.int .i64 t.k, .string t.t, .int .i64 t.b, .int .i64 t.e, .int .i64 t.l, .int .i64 t.c, .slice a kids.length c] 34
      have e1 : (w.alloc (.cells #[.int .i64 t.k, .string t.t, .int .i64 t.b, .int .i64 t.e, .int .i64 t.l, .int .i64 t.c, .slice a kids.length c] 34)).heap.size = w.heap.size + 1 := by simp
      have b2 := below_alloc (w := w.alloc (.cells #[.int .i64 t.k, .string t.t, .int .i64 t.b, .int .i64 t.e, .int .i64 t.l, .int .i64 t.c, .slice a kids.length c] 34)) (.cells #[.int .i64 t2.k, .string t2.t, .int .i64 t2.b, .int .i64 t2.e, .int .i64 t2.l, .int .i64 t2.c, .slice a2 kids2.length c2] 34)
      have qB := Blk.new (w.alloc (.cells #[.int .i64 t.k, .string t.t, .int .i64 t.b, .int .i64 t.e, .int .i64 t.l, .int .i64 t.c, .slice a kids.length c] 34)) #[.int .i64 t2.k, .string t2.t, .int .i64 t2.b, .int .i64 t2.e, .int .i64 t2.l, .int .i64 t2.c, .slice a2 kids2.length c2] 34
      rw [e1] at qB
      replace qA := qA.later b2
      have hB := b1.trans (b2.mono b1.size)
      clear b1 b2
      have SZ : sameZ (.mk t kids) (.mk t2 kids2) = (if t.k = t2.k then (if t.k = 0 then sameL kids kids2 else (t.t.toList == t2.t.toList)) else false) := by simp only [sameZ]
      generalize sameZ (.mk t kids) (.mk t2 kids2) = res at SZ ⊢
      go_enter Tryd.func14, Tryd.ntmps14
      go_upto_region 1 with fail
      try rw [e1]
      generalize (w.alloc (.cells #[.int .i64 t.k, .string t.t, .int .i64 t.b, .int .i64 t.e, .int .i64 t.l, .int .i64 t.c, .slice a kids.length c] 34)).alloc (.cells #[.int .i64 t2.k, .string t2.t, .int .i64 t2.b, .int .i64 t2.e, .int .i64 t2.l, .int .i64 t2.c, .slice a2 kids2.length c2] 34) = W at qA qB hB ⊢
      clear e1
      have x0 := qA.cell 0
      have y0 := qB.cell 0
      have x1 := qA.cell 1
      have y1 := qB.cell 1
      have x2 := qA.cell 2
      have y2 := qB.cell 2
      have x3 := qA.cell 3
      have y3 := qB.cell 3
      have x4 := qA.cell 4
      have y4 := qB.cell 4
      have x5 := qA.cell 5
      have y5 := qB.cell 5
      have x6 := qA.cell 6
      have y6 := qB.cell 6
      simp only [List.getElem?_toArray, List.getElem?_cons_zero, List.getElem?_cons_succ] at x0 y0 x1 y1 x2 y2 x3 y3 x4 y4 x5 y5 x6 y6
      by_cases h0 : t.k = 0
      · have hd : decide (t.k = 0) = true := decide_eq_true h0
        by_cases h02 : t2.k = 0
        · have hd2 : decide (t2.k = 0) = true := decide_eq_true h02
          rw [if_pos (h0.trans h02.symm), if_pos h0] at SZ
          have HD := hideT (And.intro hd hd2)
          clear hd hd2 h0 h02
          by_cases hln : kids.length = kids2.length
          · skip
            have hlb : ((kids.length : Int) != (kids2.length : Int)) = false := by simp [hln]
            have HQ := hideT hln
            clear hln
            replace SZ := hideT SZ
            go_wp2_with fail
            refine (isListZ t (.slice a kids.length c) true (HD.out.1) _).mono ?_
            rintro e wa ⟨rfl, ba⟩
            replace qA := qA.later ba
            replace qB := qB.later ba
            replace hB := hB.trans (ba.mono hB.size)
            clear ba x0 y0 x1 y1 x2 y2 x3 y3 x4 y4 x5 y5 x6 y6
            have x0 := qA.cell 0
            have y0 := qB.cell 0
            have x1 := qA.cell 1
            have y1 := qB.cell 1
            have x2 := qA.cell 2
            have y2 := qB.cell 2
            have x3 := qA.cell 3
            have y3 := qB.cell 3
            have x4 := qA.cell 4
            have y4 := qB.cell 4
            have x5 := qA.cell 5
            have y5 := qB.cell 5
            have x6 := qA.cell 6
            have y6 := qB.cell 6
            simp only [List.getElem?_toArray, List.getElem?_cons_zero, List.getElem?_cons_succ] at x0 y0 x1 y1 x2 y2 x3 y3 x4 y4 x5 y5 x6 y6
            go_wp2_with fail
            refine (isListZ t2 (.slice a2 kids2.length c2) true (HD.out.2) _).mono ?_
            rintro e wa ⟨rfl, ba⟩
            replace qA := qA.later ba
            replace qB := qB.later ba
            replace hB := hB.trans (ba.mono hB.size)
            clear ba x0 y0 x1 y1 x2 y2 x3 y3 x4 y4 x5 y5 x6 y6
            have x0 := qA.cell 0
            have y0 := qB.cell 0
            have x1 := qA.cell 1
            have y1 := qB.cell 1
            have x2 := qA.cell 2
            have y2 := qB.cell 2
            have x3 := qA.cell 3
            have y3 := qB.cell 3
            have x4 := qA.cell 4
            have y4 := qB.cell 4
            have x5 := qA.cell 5
            have y5 := qB.cell 5
            have x6 := qA.cell 6
            have y6 := qB.cell 6
            simp only [List.getElem?_toArray, List.getElem?_cons_zero, List.getElem?_cons_succ] at x0 y0 x1 y1 x2 y2 x3 y3 x4 y4 x5 y5 x6 y6
            go_wp2_with fail
            go_loopw [40] (fun i wr => ∃ k : Nat, k ≤ kids.length ∧ i = .int .i64 k ∧ Blk wr w.heap.size #[.int .i64 t.k, .string t.t, .int .i64 t.b, .int .i64 t.e, .int .i64 t.l, .int .i64 t.c, .slice a kids.length c] 34 ∧ Blk wr (w.heap.size + 1) #[.int .i64 t2.k, .string t2.t, .int .i64 t2.b, .int .i64 t2.e, .int .i64 t2.l, .int .i64 t2.c, .slice a2 kids2.length c2] 34 ∧ Below w.heap.size w wr ∧ (∀ i (h : i < kids.length) (h2 : i < kids2.length), i < k → sameZ kids[i] kids2[i] = true)) (fun i _ => kids.length - (intOf i).toNat)
            case atStart => exact ⟨0, Nat.zero_le _, rfl, qA, qB, hB, fun i _ _ c => absurd c (Nat.not_lt_zero _)⟩
            case round =>
              clear qA qB hB x0 y0 x1 y1 x2 y2 x3 y3 x4 y4 x5 y5 x6 y6
              obtain ⟨k, hk, rfl, qA, qB, hB, hall⟩ := hrel
              have x6 := qA.cell 6
              have y6 := qB.cell 6
              simp only [List.getElem?_toArray, List.getElem?_cons_zero, List.getElem?_cons_succ] at x6 y6
              by_cases hlt : k < kids.length
              · have hki : ((k : Int) < (kids.length : Int)) := by omega
                have hlt2 : k < kids2.length := by have := HQ.out; omega
                have hki2 : ((k : Int) < (kids2.length : Int)) := by omega
                have ea := ha (by omega)
                have ea2 := ha2 (by omega)
                subst ea ea2
                have h0 := hB0.trans (hB.mono hB0.size)
                obtain ⟨hc, hv, hc2, hv2⟩ := HC.out
                obtain ⟨T, KT, hT⟩ : ∃ T KT, kids[k] = .mk T KT := by rcases kids[k] with ⟨T, KT⟩; exact ⟨T, KT, rfl⟩
                obtain ⟨U, KU, hU⟩ : ∃ U KU, kids2[k] = .mk U KU := by rcases kids2[k] with ⟨T, KT⟩; exact ⟨T, KT, rfl⟩
                have a0 := hc k hlt 0 (by decide)
                have a1 := hc k hlt 1 (by decide)
                have a2 := hc k hlt 2 (by decide)
                have a3 := hc k hlt 3 (by decide)
                have a4 := hc k hlt 4 (by decide)
                have a5 := hc k hlt 5 (by decide)
                rw [hT] at a0 a1 a2 a3 a4 a5
                simp only [NdZ.t, TokZ.cells, List.getElem?_cons_zero, List.getElem?_cons_succ] at a0 a1 a2 a3 a4 a5
                rw [Nat.add_zero] at a0
                have a6 := hv k hlt
                replace a0 := below_cell h0 a0
                replace a1 := below_cell h0 a1
                replace a2 := below_cell h0 a2
                replace a3 := below_cell h0 a3
                replace a4 := below_cell h0 a4
                replace a5 := below_cell h0 a5
                replace a6 := below_cell h0 a6
                have b0 := hc2 k hlt2 0 (by decide)
                have b1 := hc2 k hlt2 1 (by decide)
                have b2 := hc2 k hlt2 2 (by decide)
                have b3 := hc2 k hlt2 3 (by decide)
                have b4 := hc2 k hlt2 4 (by decide)
                have b5 := hc2 k hlt2 5 (by decide)
                rw [hU] at b0 b1 b2 b3 b4 b5
                simp only [NdZ.t, TokZ.cells, List.getElem?_cons_zero, List.getElem?_cons_succ] at b0 b1 b2 b3 b4 b5
                rw [Nat.add_zero] at b0
                have b6 := hv2 k hlt2
                replace b0 := below_cell h0 b0
                replace b1 := below_cell h0 b1
                replace b2 := below_cell h0 b2
                replace b3 := below_cell h0 b3
                replace b4 := below_cell h0 b4
                replace b5 := below_cell h0 b5
                replace b6 := below_cell h0 b6
                have GI := hideT (fun W h => IH.out k hlt hlt2 T U W h)
                rw [hT, hU] at GI
                simp only [NdZ.kids] at GI
                have HN := hideT (sameL_not kids kids2 k hlt hlt2)
                rw [hT, hU] at HN
                have HA := hideT (And.intro hT hU)
                clear hc hv hc2 hv2 hT hU
                generalize vs k = u1 at a6 GI
                generalize vs2 k = u2 at b6 GI
                have hB1 := hideT hB0
                generalize hr : sameZ (.mk T KT) (.mk U KU) = rr at GI HN
                go_wp2_with fail
                have bD : Below wr.heap.size wr wr.drew := (Below.refl _ _).drew
                have kx6 := below_cell bD x6
                have ky6 := below_cell bD y6
                have ka0 := below_cell bD a0
                have ka1 := below_cell bD a1
                have ka2 := below_cell bD a2
                have ka3 := below_cell bD a3
                have ka4 := below_cell bD a4
                have ka5 := below_cell bD a5
                have ka6 := below_cell bD a6
                have kb0 := below_cell bD b0
                have kb1 := below_cell bD b1
                have kb2 := below_cell bD b2
                have kb3 := below_cell bD b3
                have kb4 := below_cell bD b4
                have kb5 := below_cell bD b5
                have kb6 := below_cell bD b6
                replace hB := hB.trans (bD.mono hB.size)
                replace qA := qA.later bD
                replace qB := qB.later bD
                refine wp_region_held_drew (S := fun w' => w'.cell? ⟨w.heap.size, 6, none⟩ = some (.slice (some ⟨g, off, none⟩) kids.length c) ∧ w'.cell? ⟨w.heap.size + 1, 6, none⟩ = some (.slice (some ⟨g2, off2, none⟩) kids2.length c2) ∧ w'.cell? ⟨g, off + k * 7, none⟩ = some (.int .i64 T.k) ∧ w'.cell? ⟨g, off + k * 7 + 1, none⟩ = some (.string T.t) ∧ w'.cell? ⟨g, off + k * 7 + 2, none⟩ = some (.int .i64 T.b) ∧ w'.cell? ⟨g, off + k * 7 + 3, none⟩ = some (.int .i64 T.e) ∧ w'.cell? ⟨g, off + k * 7 + 4, none⟩ = some (.int .i64 T.l) ∧ w'.cell? ⟨g, off + k * 7 + 5, none⟩ = some (.int .i64 T.c) ∧ w'.cell? ⟨g, off + k * 7 + 6, none⟩ = some (u1) ∧ w'.cell? ⟨g2, off2 + k * 7, none⟩ = some (.int .i64 U.k) ∧ w'.cell? ⟨g2, off2 + k * 7 + 1, none⟩ = some (.string U.t) ∧ w'.cell? ⟨g2, off2 + k * 7 + 2, none⟩ = some (.int .i64 U.b) ∧ w'.cell? ⟨g2, off2 + k * 7 + 3, none⟩ = some (.int .i64 U.e) ∧ w'.cell? ⟨g2, off2 + k * 7 + 4, none⟩ = some (.int .i64 U.l) ∧ w'.cell? ⟨g2, off2 + k * 7 + 5, none⟩ = some (.int .i64 U.c) ∧ w'.cell? ⟨g2, off2 + k * 7 + 6, none⟩ = some (u2)) (by kernel_rfl) ⟨kx6, ky6, ka0, ka1, ka2, ka3, ka4, ka5, ka6, kb0, kb1, kb2, kb3, kb4, kb5, kb6⟩ (fun hHeld => ?_)
                clear kx6 ky6 ka0 ka1 ka2 ka3 ka4 ka5 ka6 kb0 kb1 kb2 kb3 kb4 kb5 kb6
                generalize wr.drew = w0 at bD qA qB hB hHeld ⊢
                clear x6 y6 a0 a1 a2 a3 a4 a5 a6 b0 b1 b2 b3 b4 b5 b6
                refine take' 0 (v := ?_) rfl (by kernel_rfl) (by kernel_rfl) (by kernel_rfl) (fun _ _ _ h => h) (Or.inl ⟨by rfl, ?_⟩) (by assumption) ?_
                rotate_left
                · intro w9 hSw
                  go_simp
                  first | done | with_reducible rfl
                simp only [Act.put, List.setIfInBounds_toArray, List.set_cons_zero, List.set_cons_succ]
                refine take' 1 (v := ?_) rfl (by kernel_rfl) (by kernel_rfl) (by kernel_rfl) (fun _ _ _ h => h) (Or.inl ⟨by rfl, ?_⟩) (by assumption) ?_
                rotate_left
                · intro w9 hSw
                  go_simp
                  first | done | with_reducible rfl
                simp only [Act.put, List.setIfInBounds_toArray, List.set_cons_zero, List.set_cons_succ]
                refine take' 2 (v := ?_) rfl (by kernel_rfl) (by kernel_rfl) (by kernel_rfl) (fun _ _ _ h => h) (Or.inl ⟨by rfl, ?_⟩) (by assumption) ?_
                rotate_left
                · intro w9 hSw
                  go_simp
                  first | done | with_reducible rfl
                simp only [Act.put, List.setIfInBounds_toArray, List.set_cons_zero, List.set_cons_succ]
                refine take' 3 (v := ?_) rfl (by kernel_rfl) (by kernel_rfl) (by kernel_rfl) (fun _ _ _ h => h) (Or.inl ⟨by rfl, ?_⟩) (by assumption) ?_
                rotate_left
                · intro w9 hSw
                  go_simp
                  first | done | with_reducible rfl
                simp only [Act.put, List.setIfInBounds_toArray, List.set_cons_zero, List.set_cons_succ]
                refine take' 4 (v := ?_) rfl (by kernel_rfl) (by kernel_rfl) (by kernel_rfl) (fun _ _ _ h => h) (Or.inl ⟨by rfl, ?_⟩) (by assumption) ?_
                rotate_left
                · intro w9 hSw
                  go_simp
                  first | done | with_reducible rfl
                simp only [Act.put, List.setIfInBounds_toArray, List.set_cons_zero, List.set_cons_succ]
                refine take' 5 (v := ?_) rfl (by kernel_rfl) (by kernel_rfl) (by kernel_rfl) (fun _ _ _ h => h) (Or.inl ⟨by rfl, ?_⟩) (by assumption) ?_
                rotate_left
                · intro w9 hSw
                  go_simp
                  first | done | with_reducible rfl
                simp only [Act.put, List.setIfInBounds_toArray, List.set_cons_zero, List.set_cons_succ]
                refine take' 6 (v := ?_) rfl (by kernel_rfl) (by kernel_rfl) (by kernel_rfl) (fun _ _ _ h => h) (Or.inl ⟨by rfl, ?_⟩) (by assumption) ?_
                rotate_left
                · intro w9 hSw
                  go_simp
                  first | done | with_reducible rfl
                simp only [Act.put, List.setIfInBounds_toArray, List.set_cons_zero, List.set_cons_succ]
                refine take' 7 (v := ?_) rfl (by kernel_rfl) (by kernel_rfl) (by kernel_rfl) (fun _ _ _ h => h) (Or.inl ⟨by rfl, ?_⟩) (by assumption) ?_
                rotate_left
                · intro w9 hSw
                  go_simp
                  first | done | with_reducible rfl
                simp only [Act.put, List.setIfInBounds_toArray, List.set_cons_zero, List.set_cons_succ]
                refine take' 8 (v := ?_) rfl (by kernel_rfl) (by kernel_rfl) (by kernel_rfl) (fun _ _ _ h => h) (Or.inl ⟨by rfl, ?_⟩) (by assumption) ?_
                rotate_left
                · intro w9 hSw
                  go_simp
                  first | done | with_reducible rfl
                simp only [Act.put, List.setIfInBounds_toArray, List.set_cons_zero, List.set_cons_succ]
                refine take' 9 (v := ?_) rfl (by kernel_rfl) (by kernel_rfl) (by kernel_rfl) (fun _ _ _ h => h) (Or.inl ⟨by rfl, ?_⟩) (by assumption) ?_
                rotate_left
                · intro w9 hSw
                  go_simp
                  first | done | with_reducible rfl
                simp only [Act.put, List.setIfInBounds_toArray, List.set_cons_zero, List.set_cons_succ]
                refine wpAnyH_ready (rs := [10]) (by kernel_rfl) (by simp) ?_
                refine cons' rfl (fun KK hKK => ?_)
                go_simp
                refine (GI.out _ (hB1.out.trans (hB.mono hB1.out.size))).mono ?_
                rintro e w5 ⟨rfl, b5⟩
                replace hB := hB.trans (b5.mono hB.size)
                replace qA := qA.later b5
                replace qB := qB.later b5
                replace hHeld := (⟨below_cell b5 hHeld.1, below_cell b5 hHeld.2.1, below_cell b5 hHeld.2.2.1, below_cell b5 hHeld.2.2.2.1, below_cell b5 hHeld.2.2.2.2.1, below_cell b5 hHeld.2.2.2.2.2.1, below_cell b5 hHeld.2.2.2.2.2.2.1, below_cell b5 hHeld.2.2.2.2.2.2.2.1, below_cell b5 hHeld.2.2.2.2.2.2.2.2.1, below_cell b5 hHeld.2.2.2.2.2.2.2.2.2.1, below_cell b5 hHeld.2.2.2.2.2.2.2.2.2.2.1, below_cell b5 hHeld.2.2.2.2.2.2.2.2.2.2.2.1, below_cell b5 hHeld.2.2.2.2.2.2.2.2.2.2.2.2.1, below_cell b5 hHeld.2.2.2.2.2.2.2.2.2.2.2.2.2.1, below_cell b5 hHeld.2.2.2.2.2.2.2.2.2.2.2.2.2.2.1, below_cell b5 hHeld.2.2.2.2.2.2.2.2.2.2.2.2.2.2.2⟩ : _ ∧ _ ∧ _ ∧ _ ∧ _ ∧ _ ∧ _ ∧ _ ∧ _ ∧ _ ∧ _ ∧ _ ∧ _ ∧ _ ∧ _ ∧ _)
                clear b5
                go_wp2_with fail
                refine hKK.out _ _ hHeld ?_
                clear hHeld
                intro hHeld
                clear hKK KK
                try simp only [Act.put, List.setIfInBounds_toArray, List.set_cons_zero, List.set_cons_succ]
                refine take' 11 (v := ?_) rfl (by kernel_rfl) (by kernel_rfl) (by kernel_rfl) (fun _ _ _ h => h) (Or.inl ⟨by rfl, ?_⟩) (by assumption) ?_
                rotate_left
                · intro w9 hSw
                  go_simp
                  first | done | with_reducible rfl
                simp only [Act.put, List.setIfInBounds_toArray, List.set_cons_zero, List.set_cons_succ]
                refine wpAnyH_done (by kernel_rfl) ?_ _
                clear hHeld
                cases rr with
                | false => go_wp2; go_ret; exact ⟨by have q := SZ.out; rw [HN.out (by trivial)] at q; subst q; rfl, hB⟩
                | true =>
                  go_wp2
                  go_roundw
                  case rel => exact ⟨k + 1, by omega, by go_num, qA, qB, hB, fun i h h2 hi => (Nat.lt_or_ge i k).elim (fun c => hall i h h2 c) (fun c => by have e : i = k := (by omega); subst e; rw [HA.out.1, HA.out.2]; exact hr)⟩
                  case measure => simp [intOf]; omega
              · have hki : ¬ ((k : Int) < (kids.length : Int)) := by omega
                go_wp2
                go_ret
                exact ⟨by have q := SZ.out; rw [sameL_all kids kids2 HQ.out (fun i h h2 => hall i h h2 (by omega))] at q; subst q; rfl, hB⟩
          · rw [sameL_len _ _ hln] at SZ
            have hlb : ((kids.length : Int) != (kids2.length : Int)) = true := by simp; omega
            clear hln
            replace SZ := hideT SZ
            go_wp2_with fail
            refine (isListZ t (.slice a kids.length c) true (HD.out.1) _).mono ?_
            rintro e wa ⟨rfl, ba⟩
            replace qA := qA.later ba
            replace qB := qB.later ba
            replace hB := hB.trans (ba.mono hB.size)
            clear ba x0 y0 x1 y1 x2 y2 x3 y3 x4 y4 x5 y5 x6 y6
            have x0 := qA.cell 0
            have y0 := qB.cell 0
            have x1 := qA.cell 1
            have y1 := qB.cell 1
            have x2 := qA.cell 2
            have y2 := qB.cell 2
            have x3 := qA.cell 3
            have y3 := qB.cell 3
            have x4 := qA.cell 4
            have y4 := qB.cell 4
            have x5 := qA.cell 5
            have y5 := qB.cell 5
            have x6 := qA.cell 6
            have y6 := qB.cell 6
            simp only [List.getElem?_toArray, List.getElem?_cons_zero, List.getElem?_cons_succ] at x0 y0 x1 y1 x2 y2 x3 y3 x4 y4 x5 y5 x6 y6
            go_wp2_with fail
            refine (isListZ t2 (.slice a2 kids2.length c2) true (HD.out.2) _).mono ?_
            rintro e wa ⟨rfl, ba⟩
            replace qA := qA.later ba
            replace qB := qB.later ba
            replace hB := hB.trans (ba.mono hB.size)
            clear ba x0 y0 x1 y1 x2 y2 x3 y3 x4 y4 x5 y5 x6 y6
            have x0 := qA.cell 0
            have y0 := qB.cell 0
            have x1 := qA.cell 1
            have y1 := qB.cell 1
            have x2 := qA.cell 2
            have y2 := qB.cell 2
            have x3 := qA.cell 3
            have y3 := qB.cell 3
            have x4 := qA.cell 4
            have y4 := qB.cell 4
            have x5 := qA.cell 5
            have y5 := qB.cell 5
            have x6 := qA.cell 6
            have y6 := qB.cell 6
            simp only [List.getElem?_toArray, List.getElem?_cons_zero, List.getElem?_cons_succ] at x0 y0 x1 y1 x2 y2 x3 y3 x4 y4 x5 y5 x6 y6
            go_wp2
            go_ret
            exact ⟨by have q := SZ.out; subst q; rfl, hB⟩
        · have hd2 : decide (t2.k = 0) = false := decide_eq_false h02
          have hkk : ¬ t.k = t2.k := fun c => h02 (c.symm.trans h0)
          rw [if_neg hkk] at SZ
          have HD := hideT (And.intro hd hd2)
          have hkb : (t.k == t2.k) = false := by simp [hkk]
          clear hd hd2 hkk h0 h02
          replace SZ := hideT SZ
          go_wp2_with fail
          refine (isListZ t (.slice a kids.length c) true (HD.out.1) _).mono ?_
          rintro e wa ⟨rfl, ba⟩
          replace qA := qA.later ba
          replace qB := qB.later ba
          replace hB := hB.trans (ba.mono hB.size)
          clear ba x0 y0 x1 y1 x2 y2 x3 y3 x4 y4 x5 y5 x6 y6
          have x0 := qA.cell 0
          have y0 := qB.cell 0
          have x1 := qA.cell 1
          have y1 := qB.cell 1
          have x2 := qA.cell 2
          have y2 := qB.cell 2
          have x3 := qA.cell 3
          have y3 := qB.cell 3
          have x4 := qA.cell 4
          have y4 := qB.cell 4
          have x5 := qA.cell 5
          have y5 := qB.cell 5
          have x6 := qA.cell 6
          have y6 := qB.cell 6
          simp only [List.getElem?_toArray, List.getElem?_cons_zero, List.getElem?_cons_succ] at x0 y0 x1 y1 x2 y2 x3 y3 x4 y4 x5 y5 x6 y6
          go_wp2_with fail
          refine (isListZ t2 (.slice a2 kids2.length c2) false (HD.out.2) _).mono ?_
          rintro e wa ⟨rfl, ba⟩
          replace qA := qA.later ba
          replace qB := qB.later ba
          replace hB := hB.trans (ba.mono hB.size)
          clear ba x0 y0 x1 y1 x2 y2 x3 y3 x4 y4 x5 y5 x6 y6
          have x0 := qA.cell 0
          have y0 := qB.cell 0
          have x1 := qA.cell 1
          have y1 := qB.cell 1
          have x2 := qA.cell 2
          have y2 := qB.cell 2
          have x3 := qA.cell 3
          have y3 := qB.cell 3
          have x4 := qA.cell 4
          have y4 := qB.cell 4
          have x5 := qA.cell 5
          have y5 := qB.cell 5
          have x6 := qA.cell 6
          have y6 := qB.cell 6
          simp only [List.getElem?_toArray, List.getElem?_cons_zero, List.getElem?_cons_succ] at x0 y0 x1 y1 x2 y2 x3 y3 x4 y4 x5 y5 x6 y6
          go_wp2
          go_ret
          exact ⟨by have q := SZ.out; subst q; rfl, hB⟩
      · have hd : decide (t.k = 0) = false := decide_eq_false h0
        by_cases hkk : t.k = t2.k
        · rw [if_pos hkk, if_neg h0] at SZ
          have HD := hideT hd
          have hkb : (t.k == t2.k) = true := by simp [hkk]
          clear hd hkk h0
          replace SZ := hideT SZ
          go_wp2_with fail
          refine (isListZ t (.slice a kids.length c) false (HD.out) _).mono ?_
          rintro e wa ⟨rfl, ba⟩
          replace qA := qA.later ba
          replace qB := qB.later ba
          replace hB := hB.trans (ba.mono hB.size)
          clear ba x0 y0 x1 y1 x2 y2 x3 y3 x4 y4 x5 y5 x6 y6
          have x0 := qA.cell 0
          have y0 := qB.cell 0
          have x1 := qA.cell 1
          have y1 := qB.cell 1
          have x2 := qA.cell 2
          have y2 := qB.cell 2
          have x3 := qA.cell 3
          have y3 := qB.cell 3
          have x4 := qA.cell 4
          have y4 := qB.cell 4
          have x5 := qA.cell 5
          have y5 := qB.cell 5
          have x6 := qA.cell 6
          have y6 := qB.cell 6
          simp only [List.getElem?_toArray, List.getElem?_cons_zero, List.getElem?_cons_succ] at x0 y0 x1 y1 x2 y2 x3 y3 x4 y4 x5 y5 x6 y6
          go_wp2
          go_ret
          exact ⟨by have q := SZ.out; subst q; rfl, hB⟩
        · rw [if_neg hkk] at SZ
          have HD := hideT hd
          have hkb : (t.k == t2.k) = false := by simp [hkk]
          clear hd hkk h0
          replace SZ := hideT SZ
          go_wp2_with fail
          refine (isListZ t (.slice a kids.length c) false (HD.out) _).mono ?_
          rintro e wa ⟨rfl, ba⟩
          replace qA := qA.later ba
          replace qB := qB.later ba
          replace hB := hB.trans (ba.mono hB.size)
          clear ba x0 y0 x1 y1 x2 y2 x3 y3 x4 y4 x5 y5 x6 y6
          have x0 := qA.cell 0
          have y0 := qB.cell 0
          have x1 := qA.cell 1
          have y1 := qB.cell 1
          have x2 := qA.cell 2
          have y2 := qB.cell 2
          have x3 := qA.cell 3
          have y3 := qB.cell 3
          have x4 := qA.cell 4
          have y4 := qB.cell 4
          have x5 := qA.cell 5
          have y5 := qB.cell 5
          have x6 := qA.cell 6
          have y6 := qB.cell 6
          simp only [List.getElem?_toArray, List.getElem?_cons_zero, List.getElem?_cons_succ] at x0 y0 x1 y1 x2 y2 x3 y3 x4 y4 x5 y5 x6 y6
          go_wp2
          go_ret
          exact ⟨by have q := SZ.out; subst q; rfl, hB⟩

end Go.Proofs.YtibeiggedmabkaaDoor
