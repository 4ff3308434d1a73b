/-
  SexprAgain: the walk.
-/
import Derived.Test.YtpfmamimhhnbiaaDoorSPG
namespace Go.Proofs.YtpfmamimhhnbiaaDoor
open Go.RowKit
set_option linter.unusedVariables false
set_option linter.unusedSimpArgs false
theorem ReadA.z {w w0 : World} {v : Value} {N : List Nd} (h : ReadA w w0 v N) (hl : N.length ≤ 1099511627776) : ZIn w v (toZL N) := by
  obtain ⟨K, Q, h2, h4⟩ := h
  exact (ndin_of (Q := fun g => Q g ∨ v.ownBlock = some g) h2.own h2.kn (fun g c => Or.inl c) (fun g c => Or.inr c) (by rw [h2.kn.1]; exact hl)).toZ
theorem len_wg : ∀ l : List NdZ, l.length ≤ wgL l
  | [] => Nat.le_refl _
  | .mk t k :: l => by simp only [List.length_cons, wgL, wgZ]; have := len_wg l; omega
set_option maxHeartbeats 8000000 in
set_option maxRecDepth 100000 in
theorem again_walk (tx : ByteArray) (w : World) (hsz : tx.size ≤ 1048576) (hM : MaxL w) (hmx : mxB < w.heap.size) : Calls Tryd.prog 4 #[.string tx] w fun r w' => r = .returned (.bool true) ∧ Below w.heap.size w w' := by
  have G1 := hideT (read_is tx w (by omega) hM hmx)
  obtain ⟨hgd, hwg⟩ := read_good tx.data.toList
  rw [Array.length_toList] at hwg
  replace hwg : wgL (toZL (readF tx.data.toList).1) ≤ 5 * tx.size := hwg
  rw [readG_F] at G1
  obtain ⟨rr, hrr⟩ : ∃ rr, readF tx.data.toList = rr := ⟨_, rfl⟩
  rw [hrr] at G1 hgd hwg
  clear hrr
  obtain ⟨L, hL⟩ : ∃ L, toZL rr.1 = L := ⟨_, rfl⟩
  have hln : rr.1.length ≤ 5242880 := by have := len_wg (toZL rr.1); rw [toZL_len] at this; omega
  rw [hL] at hwg
  have hall : ∀ i (h : i < L.length), erZ L[i] = 0 ∧ dok 1000 L[i] = true := fun i h => by subst hL; rw [toZL_at _ i (by rw [← toZL_len]; exact h) h]; exact hgd _ (List.getElem_mem _)
  obtain ⟨ms, hms, hrl⟩ := read_seq L (fun x hx => by obtain ⟨i, hi, e⟩ := List.getElem_of_mem hx; rw [← e]; exact hall i hi)
  have HALL := hideT hall
  have HMS := hideT (And.intro hms hrl)
  have HW := hideT (show wgL L ≤ 5242880 by omega)
  clear hgd hall hms hrl hwg
  go_enter Tryd.func4, Tryd.ntmps4
  go_wp2_with fail
  refine G1.out.mono ?_
  rintro e w1 ⟨v1, rfl, ra, b1⟩
  clear G1
  have Z1 := ra.z (by omega)
  rw [hL] at Z1
  obtain ⟨a, c, ev⟩ := Z1.sh
  subst ev
  clear ra hln hL
  have GL := hideT (lives_is w1 (hM.on b1) (Nat.lt_of_lt_of_le hmx b1.size))
  generalize rr.2.1 = r1
  generalize rr.2.2 = r2
  go_wp2_with fail
  refine GL.out.mono ?_
  rintro e w2 ⟨rfl, b2⟩
  clear GL
  replace Z1 := Z1.on b2
  have hB := b1.trans (b2.mono b1.size)
  clear b1 b2
  have HM := hideT (And.intro (hM.on hB) (Nat.lt_of_lt_of_le hmx hB.size))
  have HB := hideT hB
  have HZ := hideT Z1
  clear hM hmx hB hsz
  generalize hvq : Value.slice a L.length c = vq at Z1
  cases Z1 with
  | mk aq g off cq _ vs ha hb hc hv hk =>
    injection hvq with q1 q2 q3
    subst q1 q3
    clear q2
    have HC := hideT (And.intro hc hv)
    have HK := hideT hk
    have HA := hideT ha
    clear hc hv hk ha
    go_wp2_with fail
    go_loopw [6, 7] (fun o i wr => ∃ (k : Nat) (s : ByteArray), k ≤ L.length ∧ i = .int .i64 k ∧ o = .string s ∧ s.data.toList = txS (L.take k) ∧ Below w2.heap.size w2 wr) (fun o i wr => L.length - (intOf i).toNat)
    case atStart => exact ⟨0, ⟨#[]⟩, Nat.zero_le _, rfl, rfl, by simp [txS], Below.refl _ _⟩
    case round =>
      obtain ⟨k, s, hk, rfl, rfl, hs, hB⟩ := hrel
      have hss : s.size ≤ 20971520 := by have h1 := txS_len (L.take k); have h2 := wgL_take_le L k; have h3 := HW.out; rw [← hs, Array.length_toList] at h1; show s.data.size ≤ _; omega
      have HS := hideT hs
      clear hs
      by_cases hlt : k < L.length
      · have hki : ((k : Int) < (L.length : Int)) := by omega
        have ea := HA.out (by omega)
        subst ea
        obtain ⟨hc, hv⟩ := HC.out
        obtain ⟨T, hT⟩ : ∃ T, L[k].t = T := ⟨_, rfl⟩
        have a0 := hc k hlt 0 (by decide)
        have a1 := hc k hlt 1 (by decide)
        have a2 := hc k hlt 2 (by decide)
        have a3 := hc k hlt 3 (by decide)
        have a4 := hc k hlt 4 (by decide)
        have a5 := hc k hlt 5 (by decide)
        rw [hT] at a0 a1 a2 a3 a4 a5
        simp only [TokZ.cells, List.getElem?_cons_zero, List.getElem?_cons_succ] at a0 a1 a2 a3 a4 a5
        rw [Nat.add_zero] at a0
        have a6 := hv k hlt
        replace a0 := below_cell hB a0
        replace a1 := below_cell hB a1
        replace a2 := below_cell hB a2
        replace a3 := below_cell hB a3
        replace a4 := below_cell hB a4
        replace a5 := below_cell hB a5
        replace a6 := below_cell hB a6
        have e1 : NdZ.mk T L[k].kids = L[k] := by rw [← hT, ndz_eta]
        have hpc := prC_of (HALL.out k hlt).2 (HALL.out k hlt).1
        have hwk : wgZ L[k] ≤ 5242880 := by have := wgL_mem hlt; have := HW.out; omega
        have GP := hideT (pprint_is T wr ((HK.out k hlt).on hB) (HM.out.1.on hB) (Nat.lt_of_lt_of_le HM.out.2 hB.size) (by rw [e1]; omega))
        rw [e1, hpc.1, hpc.2] at GP
        obtain ⟨p, hp⟩ : ∃ p, (⟨(txZ L[k]).toArray⟩ : ByteArray) = p := ⟨_, rfl⟩
        rw [hp] at GP
        have hps : p.size ≤ 20971520 := by have := tx_wg L[k]; rw [← hp]; show (txZ L[k]).toArray.size ≤ _; rw [List.size_toArray]; omega
        have HNX := hideT (show (s ++ (p ++ ⟨#[32]⟩)).data.toList = txS (L.take (k + 1)) by rw [txS_take hlt, ← HS.out, ← hp]; simp)
        clear hT hc hv e1 hpc hwk hp
        obtain ⟨ua, uc, eu⟩ := (HK.out k hlt).sh
        obtain ⟨un, hun⟩ : ∃ un, L[k].kids.length = un := ⟨_, rfl⟩
        rw [hun] at eu
        rw [eu] at a6 GP
        clear eu hun
        go_wp2_with fail
        refine GP.out.mono ?_
        rintro e w5 ⟨rfl, b5⟩
        replace hB := hB.trans (b5.mono hB.size)
        clear b5 GP a6 a0 a1 a2 a3 a4 a5
        have h32 : (⟨#[32]⟩ : ByteArray).size = 1 := rfl
        go_wp2
        go_roundw
        case rel => exact ⟨k + 1, _, by omega, by go_num, rfl, HNX.out, hB⟩
        case measure => simp [intOf]; omega
      · have hki : ¬ ((k : Int) < (L.length : Int)) := by omega
        have hsx : s.data.toList = txS L := by have h1 := HS.out; rw [List.take_of_length_le (by omega)] at h1; exact h1
        have GR := hideT (read_is s wr (by omega) (HM.out.1.on hB) (Nat.lt_of_lt_of_le HM.out.2 hB.size))
        rw [hsx, readG_F, HMS.out.1] at GR
        simp only at GR
        clear hsx
        have hml := RdL_len HMS.out.2
        go_wp2_with fail
        refine GR.out.mono ?_
        rintro e w3 ⟨v3, rfl, ra, b3⟩
        clear GR
        have Z3 := ra.z (by rw [hml]; omega)
        obtain ⟨M, hM⟩ : ∃ M, toZL ms = M := ⟨_, rfl⟩
        have hMl : M.length = L.length := by rw [← hM, toZL_len, hml]
        rw [hM] at Z3
        obtain ⟨a3, c3, ev3⟩ := Z3.sh
        rw [hMl] at ev3
        subst ev3
        clear ra
        have hsm : ∀ i (h : i < L.length) (h2 : i < M.length), sameZ L[i] M[i] = true := fun i h h2 => by subst hM; rw [toZL_at _ i (by rw [hml]; exact h) h2, sameZ_comm]; exact (rd_same _ _ (RdL_at HMS.out.2 i h (by rw [hml]; exact h))).1
        have HSM := hideT hsm
        have ZL := HZ.out.on (hB.trans (b3.mono hB.size))
        have HBB := hideT (HB.out.trans ((hB.trans (b3.mono hB.size)).mono HB.out.size))
        clear hsm hM hml b3 hB
        have hll : ((L.length : Int) != (L.length : Int)) = false := by simp
        generalize hvq : Value.slice a L.length c = vq at ZL
        cases ZL with
        | mk aq g4 off4 cq _ vs4 ha4 hb4 hc4 hv4 hk4 =>
          injection hvq with q1 q2 q3
          subst q1 q3
          clear q2
          have HZ4 := hideT (And.intro ha4 (And.intro hc4 (And.intro hv4 hk4)))
          clear ha4 hc4 hv4 hk4
          generalize hvq : Value.slice a3 L.length c3 = vq at Z3
          cases Z3 with
          | mk a5 g5 off5 c5 _ vs5 ha5 hb5 hc5 hv5 hk5 =>
            injection hvq with q1 q2 q3
            subst q1 q3
            rw [← q2]
            clear q2
            have Y3 := hideT (And.intro ha5 (And.intro hc5 (And.intro hv5 (And.intro hk5 hMl))))
            clear ha5 hc5 hv5 hk5 hMl hb5
            go_wp2_with fail
            go_loopw [13] (fun i wr => ∃ k : Nat, k ≤ L.length ∧ i = .int .i64 k ∧ Below w3.heap.size w3 wr) (fun i wr => L.length - (intOf i).toNat)
            case atStart => exact ⟨0, Nat.zero_le _, rfl, Below.refl _ _⟩
            case round =>
              obtain ⟨k, hk, rfl, hB⟩ := hrel
              by_cases hlt : k < L.length
              · have hki : ((k : Int) < (L.length : Int)) := by omega
                obtain ⟨ha5, hc5, hv5, hk5, hMl⟩ := Y3.out
                obtain ⟨ha4, hc4, hv4, hk4⟩ := HZ4.out
                have ea := ha4 (by omega)
                subst ea
                have hlt2 : k < M.length := by omega
                have ea := ha5 (by omega)
                subst ea
                obtain ⟨T, hT⟩ : ∃ T, L[k].t = T := ⟨_, rfl⟩
                obtain ⟨U, hU⟩ : ∃ U, M[k].t = U := ⟨_, rfl⟩
                have a0 := hc4 k hlt 0 (by decide)
                have a1 := hc4 k hlt 1 (by decide)
                have a2 := hc4 k hlt 2 (by decide)
                have a3 := hc4 k hlt 3 (by decide)
                have a4 := hc4 k hlt 4 (by decide)
                have a5 := hc4 k hlt 5 (by decide)
                rw [hT] at a0 a1 a2 a3 a4 a5
                simp only [TokZ.cells, List.getElem?_cons_zero, List.getElem?_cons_succ] at a0 a1 a2 a3 a4 a5
                rw [Nat.add_zero] at a0
                have a6 := hv4 k hlt
                replace a0 := below_cell hB a0
                replace a1 := below_cell hB a1
                replace a2 := below_cell hB a2
                replace a3 := below_cell hB a3
                replace a4 := below_cell hB a4
                replace a5 := below_cell hB a5
                replace a6 := below_cell hB a6
                have b0 := hc5 k hlt2 0 (by decide)
                have b1 := hc5 k hlt2 1 (by decide)
                have b2 := hc5 k hlt2 2 (by decide)
                have b3 := hc5 k hlt2 3 (by decide)
                have b4 := hc5 k hlt2 4 (by decide)
                have b5 := hc5 k hlt2 5 (by decide)
                rw [hU] at b0 b1 b2 b3 b4 b5
                simp only [TokZ.cells, List.getElem?_cons_zero, List.getElem?_cons_succ] at b0 b1 b2 b3 b4 b5
                rw [Nat.add_zero] at b0
                have b6 := hv5 k hlt2
                replace b0 := below_cell hB b0
                replace b1 := below_cell hB b1
                replace b2 := below_cell hB b2
                replace b3 := below_cell hB b3
                replace b4 := below_cell hB b4
                replace b5 := below_cell hB b5
                replace b6 := below_cell hB b6
                have GI := hideT (fun W hW => psame (hk4 k hlt) (hk5 k hlt2) T U W hW)
                have es : sameZ (.mk T L[k].kids) (.mk U M[k].kids) = true := by rw [← hT, ← hU, ndz_eta, ndz_eta]; exact HSM.out k hlt hlt2
                rw [es] at GI
                generalize vs4 k = u1 at a6 GI
                generalize vs5 k = u2 at b6 GI
                clear es hT hU hc4 hv4 hk4 hc5 hv5 hk5 ha4 ha5 hMl
                go_wp2_with fail
                have bD : Below wr.heap.size wr wr.drew := (Below.refl _ _).drew
                have ka0 := below_cell bD a0
                have ka1 := below_cell bD a1
                have ka2 := below_cell bD a2
                have ka3 := below_cell bD a3
                have ka4 := below_cell bD a4
                have ka5 := below_cell bD a5
                have ka6 := below_cell bD a6
                have kb0 := below_cell bD b0
                have kb1 := below_cell bD b1
                have kb2 := below_cell bD b2
                have kb3 := below_cell bD b3
                have kb4 := below_cell bD b4
                have kb5 := below_cell bD b5
                have kb6 := below_cell bD b6
                replace hB := hB.trans (bD.mono hB.size)
                refine wp_region_held_drew (S := fun w' => w'.cell? ⟨g4, off4 + k * 7, none⟩ = some (.int .i64 T.k) ∧ w'.cell? ⟨g4, off4 + k * 7 + 1, none⟩ = some (.string T.t) ∧ w'.cell? ⟨g4, off4 + k * 7 + 2, none⟩ = some (.int .i64 T.b) ∧ w'.cell? ⟨g4, off4 + k * 7 + 3, none⟩ = some (.int .i64 T.e) ∧ w'.cell? ⟨g4, off4 + k * 7 + 4, none⟩ = some (.int .i64 T.l) ∧ w'.cell? ⟨g4, off4 + k * 7 + 5, none⟩ = some (.int .i64 T.c) ∧ w'.cell? ⟨g4, off4 + k * 7 + 6, none⟩ = some (u1) ∧ w'.cell? ⟨g5, off5 + k * 7, none⟩ = some (.int .i64 U.k) ∧ w'.cell? ⟨g5, off5 + k * 7 + 1, none⟩ = some (.string U.t) ∧ w'.cell? ⟨g5, off5 + k * 7 + 2, none⟩ = some (.int .i64 U.b) ∧ w'.cell? ⟨g5, off5 + k * 7 + 3, none⟩ = some (.int .i64 U.e) ∧ w'.cell? ⟨g5, off5 + k * 7 + 4, none⟩ = some (.int .i64 U.l) ∧ w'.cell? ⟨g5, off5 + k * 7 + 5, none⟩ = some (.int .i64 U.c) ∧ w'.cell? ⟨g5, off5 + k * 7 + 6, none⟩ = some (u2)) (by kernel_rfl) ⟨ka0, ka1, ka2, ka3, ka4, ka5, ka6, kb0, kb1, kb2, kb3, kb4, kb5, kb6⟩ (fun hHeld => ?_)
                clear ka0 ka1 ka2 ka3 ka4 ka5 ka6 kb0 kb1 kb2 kb3 kb4 kb5 kb6
                generalize wr.drew = w0 at bD hB hHeld ⊢
                clear a0 a1 a2 a3 a4 a5 a6 b0 b1 b2 b3 b4 b5 b6
                refine take' 0 (v := ?_) rfl (by kernel_rfl) (by kernel_rfl) (by kernel_rfl) (fun _ _ _ h => h) (Or.inl ⟨by rfl, ?_⟩) (by assumption) ?_
                rotate_left
                · intro w9 hSw
                  go_simp
                  first | done | with_reducible rfl
                simp only [Act.put, List.setIfInBounds_toArray, List.set_cons_zero, List.set_cons_succ]
                refine take' 1 (v := ?_) rfl (by kernel_rfl) (by kernel_rfl) (by kernel_rfl) (fun _ _ _ h => h) (Or.inl ⟨by rfl, ?_⟩) (by assumption) ?_
                rotate_left
                · intro w9 hSw
                  go_simp
                  first | done | with_reducible rfl
                simp only [Act.put, List.setIfInBounds_toArray, List.set_cons_zero, List.set_cons_succ]
                refine take' 2 (v := ?_) rfl (by kernel_rfl) (by kernel_rfl) (by kernel_rfl) (fun _ _ _ h => h) (Or.inl ⟨by rfl, ?_⟩) (by assumption) ?_
                rotate_left
                · intro w9 hSw
                  go_simp
                  first | done | with_reducible rfl
                simp only [Act.put, List.setIfInBounds_toArray, List.set_cons_zero, List.set_cons_succ]
                refine take' 3 (v := ?_) rfl (by kernel_rfl) (by kernel_rfl) (by kernel_rfl) (fun _ _ _ h => h) (Or.inl ⟨by rfl, ?_⟩) (by assumption) ?_
                rotate_left
                · intro w9 hSw
                  go_simp
                  first | done | with_reducible rfl
                simp only [Act.put, List.setIfInBounds_toArray, List.set_cons_zero, List.set_cons_succ]
                refine take' 4 (v := ?_) rfl (by kernel_rfl) (by kernel_rfl) (by kernel_rfl) (fun _ _ _ h => h) (Or.inl ⟨by rfl, ?_⟩) (by assumption) ?_
                rotate_left
                · intro w9 hSw
                  go_simp
                  first | done | with_reducible rfl
                simp only [Act.put, List.setIfInBounds_toArray, List.set_cons_zero, List.set_cons_succ]
                refine take' 5 (v := ?_) rfl (by kernel_rfl) (by kernel_rfl) (by kernel_rfl) (fun _ _ _ h => h) (Or.inl ⟨by rfl, ?_⟩) (by assumption) ?_
                rotate_left
                · intro w9 hSw
                  go_simp
                  first | done | with_reducible rfl
                simp only [Act.put, List.setIfInBounds_toArray, List.set_cons_zero, List.set_cons_succ]
                refine take' 6 (v := ?_) rfl (by kernel_rfl) (by kernel_rfl) (by kernel_rfl) (fun _ _ _ h => h) (Or.inl ⟨by rfl, ?_⟩) (by assumption) ?_
                rotate_left
                · intro w9 hSw
                  go_simp
                  first | done | with_reducible rfl
                simp only [Act.put, List.setIfInBounds_toArray, List.set_cons_zero, List.set_cons_succ]
                refine take' 7 (v := ?_) rfl (by kernel_rfl) (by kernel_rfl) (by kernel_rfl) (fun _ _ _ h => h) (Or.inl ⟨by rfl, ?_⟩) (by assumption) ?_
                rotate_left
                · intro w9 hSw
                  go_simp
                  first | done | with_reducible rfl
                simp only [Act.put, List.setIfInBounds_toArray, List.set_cons_zero, List.set_cons_succ]
                refine wpAnyH_ready (rs := [8]) (by kernel_rfl) (by simp) ?_
                refine cons' rfl (fun KK hKK => ?_)
                go_simp
                refine (GI.out _ hB).mono ?_
                rintro e w5 ⟨rfl, b5⟩
                replace hB := hB.trans (b5.mono hB.size)
                replace hHeld := (⟨below_cell b5 hHeld.1, below_cell b5 hHeld.2.1, below_cell b5 hHeld.2.2.1, below_cell b5 hHeld.2.2.2.1, below_cell b5 hHeld.2.2.2.2.1, below_cell b5 hHeld.2.2.2.2.2.1, below_cell b5 hHeld.2.2.2.2.2.2.1, below_cell b5 hHeld.2.2.2.2.2.2.2.1, below_cell b5 hHeld.2.2.2.2.2.2.2.2.1, below_cell b5 hHeld.2.2.2.2.2.2.2.2.2.1, below_cell b5 hHeld.2.2.2.2.2.2.2.2.2.2.1, below_cell b5 hHeld.2.2.2.2.2.2.2.2.2.2.2.1, below_cell b5 hHeld.2.2.2.2.2.2.2.2.2.2.2.2.1, below_cell b5 hHeld.2.2.2.2.2.2.2.2.2.2.2.2.2⟩ : _ ∧ _ ∧ _ ∧ _ ∧ _ ∧ _ ∧ _ ∧ _ ∧ _ ∧ _ ∧ _ ∧ _ ∧ _ ∧ _)
                clear b5
                go_wp2_with fail
                refine hKK.out _ _ hHeld ?_
                clear hHeld
                intro hHeld
                clear hKK KK
                try simp only [Act.put, List.setIfInBounds_toArray, List.set_cons_zero, List.set_cons_succ]
                refine take' 9 (v := ?_) rfl (by kernel_rfl) (by kernel_rfl) (by kernel_rfl) (fun _ _ _ h => h) (Or.inl ⟨by rfl, ?_⟩) (by assumption) ?_
                rotate_left
                · intro w9 hSw
                  go_simp
                  first | done | with_reducible rfl
                simp only [Act.put, List.setIfInBounds_toArray, List.set_cons_zero, List.set_cons_succ]
                refine wpAnyH_done (by kernel_rfl) ?_ _
                clear hHeld
                go_wp2
                go_roundw
                case rel => exact ⟨k + 1, by omega, by go_num, hB⟩
                case measure => simp [intOf]; omega
              · have hki : ¬ ((k : Int) < (L.length : Int)) := by omega
                go_wp2
                go_ret
                exact ⟨rfl, HBB.out.trans (hB.mono HBB.out.size)⟩

end Go.Proofs.YtpfmamimhhnbiaaDoor
