/-
  Layer 1's texts: Text, whole.
-/
import Derived.Test.YtancpkegjgmlmaaDoorWTB
namespace Go.Proofs.YtancpkegjgmlmaaDoor
open Go.RowKit
set_option linter.unusedVariables false

theorem pow_room {b n k X D : Nat} (hb0 : 2 ≤ b) (hn1 : 1 ≤ n) (hD : D ≤ 140737488355328) (hX : X < b ^ D) (h : b ^ (n * 2 ^ k) ≤ X) : k + 1 ≤ 48 ∧ n * 2 ^ (k + 1) ≤ 281474976710656 := by
  have h3 : n * 2 ^ k < D := (Nat.pow_lt_pow_iff_right (a := b) (by omega)).1 (Nat.lt_of_le_of_lt h hX)
  have h4 : 2 ^ k ≤ n * 2 ^ k := Nat.le_mul_of_pos_left _ (by omega)
  have h5 : 2 ^ k < 2 ^ 47 := Nat.lt_of_le_of_lt h4 (Nat.lt_of_lt_of_le h3 (by clear h hX h3 h4; rw [show (2 : Nat) ^ 47 = 140737488355328 by decide]; exact hD))
  have h6 := (Nat.pow_lt_pow_iff_right (a := 2) (by decide)).1 h5
  refine ⟨by clear h3 h4 h5 h hX; omega, ?_⟩
  rw [Nat.pow_succ, ← Nat.mul_assoc]
  obtain ⟨Q, hQ⟩ : ∃ Q, n * 2 ^ k = Q := ⟨_, rfl⟩
  rw [hQ] at h3 ⊢
  clear h4 h5 h6 hQ h hX
  omega
theorem Sc.drewN {w : World} {B p b n k q : Nat} {v : Value} {xs : List Value} {an : Option Addr} (h : Sc w B p b n k v xs an) : Sc (w.drewN q) B p b n k v xs an := ⟨h.row, h.pB, h.c0, h.c1, h.c2, h.c3, h.own, h.vp, h.olds, h.next, h.np, h.nv⟩
set_option maxHeartbeats 4000000 in
set_option maxRecDepth 100000 in
theorem Text_dig (a : Option Addr) (na cap X b D : Nat) (hb0 : 2 ≤ b) (hb : b ≤ 16) (w : World) (h : Digs w) (hca : na ≤ cap) (hna : na ≤ 70368744177660) (hD : D ≤ 140737488355328) (hXD : X < b ^ D) (hS : Seg w a X na) :
    Calls Tryd.prog 22 #[.slice a na cap, .int .i64 b] w fun e w' => ∃ t, e = .returned (.tuple #[.string t, .int .i64 0]) ∧ isTx b X t ∧ Below w.heap.size w w' := by
  have H := hide' (isBase_ok b hb0 hb)
  have H2 := hide' (trim_any a na cap X w hca (by omega) hS)
  have H3 := hide' (scaleOf_any b hb0 hb)
  have HH := hide' h
  have hl0 : ln X ≤ D / 8 + 1 := ln_le_of_lt (Nat.lt_trans hXD (lt8 hb))
  have hl : ln X ≤ 17592186044417 := by omega
  have HXD := hide' hXD
  clear hXD hl0
  go_enter Tryd.func22, Tryd.ntmps22
  go_wp2_with fail
  refine (H.out _).mono ?_
  rintro e w0 ⟨rfl, rfl⟩
  go_wp2_with fail
  refine H2.out.mono ?_
  rintro e w1 ⟨ax, rfl, rfl, ht⟩
  have hSx := hS.trm ht
  go_wp2_with fail
  refine (H3.out _).mono ?_
  rintro e w2 ⟨n, a2, rfl, h2, hn1, hn31, hlt⟩
  have hB := h2.below
  have ba := below_alloc (w := w2) (.cells #[.int .i64 b, .int .i64 n, .slice none 0 0, .slice a2 (ln (b ^ n)) (ln (b ^ n))] 54)
  have hBa := hB.trans (ba.mono hB.size)
  have hSc : Sc (w2.alloc (.cells #[.int .i64 b, .int .i64 n, .slice none 0 0, .slice a2 (ln (b ^ n)) (ln (b ^ n))] 54)) w0.heap.size w2.heap.size b n 0 (.slice none 0 0) [] a2 := by
    refine ⟨row_new _ _ _, hB.size, by go_simp, by go_simp, by go_simp, ?_, World.ownsRow_nil _ _ _ _, by simp [Value.ownBlock], fun i hi => absurd hi (by omega), ?_, ?_, fun g hg => by cases hg⟩
    · rw [Nat.pow_zero, Nat.mul_one]; go_simp
    · rw [Nat.pow_zero, Nat.mul_one]; exact segL ba h2.seg
    · exact h2.seg.ne_new (ln_pw hb0) (Nat.le_refl _)
  have hlt' := hide' hlt
  clear hlt
  go_wp2_with fail
  generalize w2.alloc (.cells #[.int .i64 b, .int .i64 n, .slice none 0 0, .slice a2 (ln (b ^ n)) (ln (b ^ n))] 54) = W at hBa hSc ⊢
  go_loopw [16] (fun _ wr => ∃ k v xs an, Sc wr w0.heap.size w2.heap.size b n k v xs an ∧ Below w0.heap.size w0 wr ∧ k ≤ 48 ∧ n * 2 ^ k ≤ 281474976710656) (fun _ wr => 49 - lenAt w2.heap.size wr)
  case atStart => exact ⟨0, _, _, _, hSc, hBa, by omega, by rw [Nat.pow_zero]; omega⟩
  case round =>
    obtain ⟨k, v, xs, an, hSS, hbel, hk, hk2⟩ := hrel
    obtain ⟨ao, co, rfl, hcap, hpw⟩ := hSS.form
    obtain ⟨N, hN⟩ : ∃ N, b ^ (n * 2 ^ k) = N := ⟨_, rfl⟩
    obtain ⟨Q, hQ⟩ : ∃ Q, n * 2 ^ k = Q := ⟨_, rfl⟩
    have hQ4 : Q ≤ 281474976710656 := by rw [← hQ]; exact hk2
    have HQ := hide' hQ
    have HK2 := hide' hk2
    have HN := hide' hN
    have c0 := hSS.c0
    have c2 := hSS.c2
    have c3 := hSS.c3
    have c1 := hSS.c1
    have nx := hSS.next
    rw [hN] at c3 nx
    have hlN : ln N ≤ Q / 8 + 1 := by rw [← hN, hQ]; exact ln_le_of_lt (lt8 hb)
    have hl0 := lenAt_of c2
    clear hQ hk2 hN
    have sx := hSx.below hbel (Nat.le_refl _)
    have HCm := hide' (Cmp_any ax an (ln X) (ln X) X (ln N) (ln N) N wr (Nat.le_refl _) (by omega) sx (Nat.le_refl _) (by omega) nx)
    by_cases hq : N ≤ X
    · have hcm : ¬ (cmpI X N < 0) := by unfold cmpI; split <;> (try split) <;> omega
      have hcm2 : (0 : Int) ≤ cmpI X N := by omega
      obtain ⟨hk39, hn2⟩ := pow_room (b := b) (n := n) (k := k) hb0 hn1 hD HXD.out (by rw [HN.out]; exact hq)
      have HN2 := hide' hn2
      clear hn2
      go_wp2_with fail
      refine HCm.out.mono ?_
      rintro e w3 ⟨rfl, q3, rfl⟩
      have HG := hide' (grow_any w0.heap.size w2.heap.size b n k N _ xs an _ (hSS.drewN (q := q3)) hbel.size hb0 (by omega) HN.out (Nat.le_trans (ln_mono hq) (by omega)))
      go_wp2_with fail
      refine HG.out.mono ?_
      rintro e w4 ⟨rfl, bel4, v', an', hS'⟩
      go_wp2
      go_roundw
      case rel => exact ⟨k + 1, v', _, an', hS', (below_drewN (q := q3) hbel).trans bel4, hk39, HN2.out⟩
      case measure =>
        obtain ⟨ao', cap', rfl, _, _⟩ := hS'.form
        have hl1 := lenAt_of hS'.c2
        rw [hl0, hl1]
        omega
    · have hcm : cmpI X N = -1 := cmpI_lt (by omega)
      rw [hcm] at HCm
      have hXN : X < b ^ Q := by rw [← HQ.out, HN.out]; omega
      have hsh : wrap64 ((n : Int) * 2 ^ k) = (Q : Int) := shl_is HQ.out (by omega)
      have HXN := hide' hXN
      clear hXN
      go_wp2_with fail
      refine HCm.out.mono ?_
      rintro e w3 ⟨rfl, q3, rfl⟩
      have d0 : (wr.drewN q3).cell? ⟨w2.heap.size, 0, none⟩ = _ := c0
      have d1 : (wr.drewN q3).cell? ⟨w2.heap.size, 1, none⟩ = _ := c1
      have d2 : (wr.drewN q3).cell? ⟨w2.heap.size, 2, none⟩ = _ := c2
      go_wp2_with fail
      clear hsh
      have hQ1 : 1 ≤ Q := by rw [← HQ.out]; exact Nat.mul_pos hn1 (Nat.pow_pos (by decide))
      have hS3 := hSS.drewN (q := q3)
      have hpw3 : Pw (wr.drewN q3) ao b n k := hpw
      have sx3 : Seg (wr.drewN q3) ax X (ln X) := sx
      have bel3 := below_drewN (q := q3) hbel
      generalize wr.drewN q3 = W3 at d0 d1 d2 hS3 hpw3 sx3 bel3 ⊢
      clear hSS hpw sx hbel c0 c1 c2 c3 nx HCm hl0
      rw [mkB Q (by omega)]
      simp only [Result.andThen]
      rw [Oper.upon_value]
      have b4 := below_alloc (w := W3) (.cells (madeCells #[.int .u8 0] Q) 5)
      have r4 := row_new W3 (madeCells #[.int .u8 0] Q) 5
      have HW := hide' (write_any w2.heap.size b n k co W3.heap.size ao W3 hb0 hb hlt'.out hn1 hcap hk HK2.out (HH.out.below bel3) d0 d2 hpw3 (Nat.le_refl _) k 0 Q Q X ax _ (Nat.le_refl _) HQ.out (Nat.le_refl _) b4 r4 (fun j hj => ⟨_, mkB_cell Q _ j W3 hj⟩) (segL b4 sx3) (fun h => sx3.ne_new h (Nat.le_refl _)) HXN.out)
      have e2 := cellL b4 d2
      generalize W3.alloc (.cells (madeCells #[.int .u8 0] Q) 5) = W4 at b4 r4 HW e2 ⊢
      go_wp2_with fail
      refine HW.out.mono ?_
      rintro e w5 ⟨rfl, hw5, hc5⟩
      have bel4 := bel3.trans (b4.mono bel3.size)
      have bel5 := bel4.trans (hw5.below (B := w0.heap.size) bel3.size bel4.size)
      have HNo := hide' (noughts_any W3.heap.size Q (fun j => dgt b X Q j) w5 (HH.out.below bel5) hQ1 (by omega) (fun j hj => by have := hc5 j hj; rw [Nat.zero_add] at this; exact this) (fun j hj => Nat.lt_of_lt_of_le (dgt_lt hb0) hb))
      have HC5 := hide' hc5
      clear hc5
      go_wp2_with fail
      refine HNo.out.mono ?_
      rintro e w6 ⟨c, rfl, hcl, hz, hor, q6, rfl⟩
      have HT := hide' (tl_isTx hb0 hb HXN.out hcl hz hor)
      have hcv := fun cap => run_convert_bytes_back (P := Tryd.prog) (w5.drewN q6) 62 9 5 ⟨W3.heap.size, c, none⟩ cap (tl b X Q c) Tryd.underlying62 Tryd.underlying5 Tryd.underlying9 (fun j hj => by
        have h1 := HC5.out (c + j) (by rw [tl_length] at hj; omega)
        rw [Nat.zero_add] at h1
        rw [tl_at hb0 hb hj]
        have : (⟨W3.heap.size, c, none⟩ : Addr).add j = ⟨W3.heap.size, c + j, none⟩ := by unfold Addr.add; split <;> simp_all
        rw [this]
        exact h1)
      rw [tl_length] at hcv
      have hci : (c : Int) ≤ (Q : Int) := by omega
      have hci2 : (0 : Int) ≤ (c : Int) := by omega
      have hci3 : ¬ (Q - c = 0) := by omega
      have hci4 : ¬ (Q ≤ c) := by omega
      have hci5 : ¬ (c = Q) := by omega
      have hci6 : (c : Int) < (Q : Int) := by omega
      clear hz hor
      go_wp2
      go_ret2
      exact ⟨_, rfl, HT.out, below_drewN bel5⟩
theorem Text_any (a : Option Addr) (na cap X b : Nat) (hb0 : 2 ≤ b) (hb : b ≤ 16) (w : World) (h : Digs w) (hca : na ≤ cap) (hna : na ≤ 1073741824) (hS : Seg w a X na) :
    Calls Tryd.prog 22 #[.slice a na cap, .int .i64 b] w fun e w' => ∃ t, e = .returned (.tuple #[.string t, .int .i64 0]) ∧ isTx b X t ∧ Below w.heap.size w w' := by
  refine Text_dig a na cap X b (32 * na) hb0 hb w h hca (by omega) (by omega) ?_ hS
  have h1 := hS.1
  rw [show BB ^ na = 2 ^ (32 * na) by rw [Nat.pow_mul]; rfl] at h1
  exact Nat.lt_of_lt_of_le h1 (Nat.pow_le_pow_left hb0 _)
end Go.Proofs.YtancpkegjgmlmaaDoor
