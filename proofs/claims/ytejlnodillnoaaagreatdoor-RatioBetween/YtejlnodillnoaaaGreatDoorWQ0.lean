import Derived.Test.YtejlnodillnoaaaGreatDoorW15
import Derived.Test.YtejlnodillnoaaaGreatDoorRegZ
import Derived.Deep.LoopGhost
import Derived.Test.YtejlnodillnoaaaGreatDoorNumQ
import Derived.Test.YtejlnodillnoaaaGreatDoorWI7
set_option linter.unusedSimpArgs false
namespace Go.Proofs.YtejlnodillnoaaaGreatDoor
open Go.RowKit
set_option linter.unusedVariables false
structure Stp (w0 w : World) (b um vm u0 v0 u1 v1 : Nat) (ev : Bool) : Prop where
  c0 : w.cell? ⟨b, 0, none⟩ = some (.int .u64 um)
  c1 : w.cell? ⟨b, 1, none⟩ = some (.int .u64 vm)
  c2 : w.cell? ⟨b, 2, none⟩ = some (.int .u64 u0)
  c3 : w.cell? ⟨b, 3, none⟩ = some (.int .u64 v0)
  c4 : w.cell? ⟨b, 4, none⟩ = some (.bool ev)
  d0 : w.cell? ⟨b + 1, 0, none⟩ = some (.int .u64 u1)
  d1 : w.cell? ⟨b + 1, 1, none⟩ = some (.int .u64 v1)
  rb : Row w b
  rd : Row w (b + 1)
  be : Below w0.heap.size w0 w
structure Res (w : World) (b : Nat) : Prop where
  r0 : w.cell? ⟨b, 0, none⟩ = some (.int .u64 0)
  r1 : w.cell? ⟨b, 1, none⟩ = some (.int .u64 0)
  r2 : w.cell? ⟨b, 2, none⟩ = some (.int .u64 0)
  r3 : w.cell? ⟨b, 3, none⟩ = some (.int .u64 0)
  r4 : w.cell? ⟨b, 4, none⟩ = some (.bool false)
  rr : Row w b
theorem Res.drewN {w : World} {b n : Nat} (h : Res w b) : Res (w.drewN n) b := ⟨h.r0, h.r1, h.r2, h.r3, h.r4, h.rr⟩
theorem Res.setCell {w : World} {b b' o : Nat} (h : Res w b) (u : Value) (hne : b < b') : Res (w.setCell ⟨b', o, none⟩ u) b := by
  have k : ∀ o', (w.setCell ⟨b', o, none⟩ u).cell? ⟨b, o', none⟩ = w.cell? ⟨b, o', none⟩ := fun o' => World.cell?_setCell_far _ _ _ _ (by show b' ≠ b; omega)
  exact ⟨by rw [k]; exact h.r0, by rw [k]; exact h.r1, by rw [k]; exact h.r2, by rw [k]; exact h.r3, by rw [k]; exact h.r4, h.rr.setCell _ _⟩
theorem Stp.step {w0 w : World} {b n um vm u0 v0 u1 v1 U V : Nat} {A B : Int} {ev : Bool} (h : Stp w0 w b um vm u0 v0 u1 v1 ev) (hb : w0.heap.size ≤ b) (hA : A = U) (hB : B = V) :
    Stp w0 ((((((((w.drewN n).setCell ⟨b, 0, none⟩ (.int .u64 u0)).setCell ⟨b, 1, none⟩ (.int .u64 v0)).setCell ⟨b, 2, none⟩ (.int .u64 u1)).setCell ⟨b, 3, none⟩ (.int .u64 v1)).setCell ⟨b + 1, 0, none⟩ (.int .u64 A)).setCell ⟨b + 1, 1, none⟩ (.int .u64 B)).setCell ⟨b, 4, none⟩ (.bool !ev)) b u0 v0 u1 v1 U V (!ev) := by
  obtain ⟨c0, c1, c2, c3, c4, d0, d1, rb, rd, be⟩ := h
  subst hA hB
  have be' := below_drewN (q := n) be
  refine ⟨by go_simp, by go_simp, by go_simp, by go_simp, by go_simp, by go_simp, by go_simp, ?_, ?_, ?_⟩
  · exact ((((((rb.drewN.setCell _ _).setCell _ _).setCell _ _).setCell _ _).setCell _ _).setCell _ _).setCell _ _
  · exact ((((((rd.drewN.setCell _ _).setCell _ _).setCell _ _).setCell _ _).setCell _ _).setCell _ _).setCell _ _
  · exact ((((((be'.setCell (by exact hb) _).setCell (by exact hb) _).setCell (by exact hb) _).setCell (by exact hb) _).setCell (by exact Nat.le_succ_of_le hb) _).setCell (by exact Nat.le_succ_of_le hb) _).setCell (by exact hb) _
set_option maxHeartbeats 4000000 in
theorem gcdSteps_any (X Y H xh yh xl yl : Nat) (w : World) (hX : X = xh * H + xl) (hY : Y = yh * H + yl) (hxl : xl < H) (hyl : yl < H) (hxh : xh < 18446744073709551616) (hle : yh ≤ xh) :
    Calls Tryz.prog 138 #[.int .u64 xh, .int .u64 yh] w fun r w' => ∃ (um vm u0 v0 : Nat) (ev : Bool), r = .returned (.agg #[.int .u64 um, .int .u64 vm, .int .u64 u0, .int .u64 v0, .bool ev]) ∧ Told X Y um vm u0 v0 ev ∧ Below w.heap.size w w' := by
  have hyh : yh < 18446744073709551616 := by omega
  have HS : Hid (∀ x y u0 v0 u1 v1 ev, Leh X Y xh yh x y u0 v0 u1 v1 ev → v1 ≤ y → v0 + v1 + y ≤ x → Leh X Y xh yh y (x % y) u1 v1 (u0 + x / y * u1) (v0 + x / y * v1) (!ev) ∧ Told X Y u0 v0 u1 v1 (!ev)) := fun _ _ _ _ _ _ _ L c1 c2 => leh_step hX hY hxl hyl hxh hle L c1 c2
  have HB : Hid (∀ x y u0 v0 u1 v1 ev, Leh X Y xh yh x y u0 v0 u1 v1 ev → v1 ≤ y → _) := fun _ _ _ _ _ _ _ L c1 => leh_bounds L hxh hle c1
  have HI := hid15 (leh_start (X := X) (Y := Y) hle)
  clear hX hY hxl hyl hle
  go_enter Tryz.func138, Tryz.ntmps138
  go_wp2
  go_loopw [0, 1] (fun vx vy wr => ∃ (x y um vm u0 v0 u1 v1 : Nat) (ev : Bool), vx = .int .u64 x ∧ vy = .int .u64 y ∧ x < 18446744073709551616 ∧ y < 18446744073709551616 ∧ v1 < 18446744073709551616 ∧ Leh X Y xh yh x y u0 v0 u1 v1 ev ∧ Told X Y um vm u0 v0 ev ∧ Stp w wr (w.heap.size + 1) um vm u0 v0 u1 v1 ev ∧ Res wr w.heap.size) (fun _ vy _ => (intOf vy).toNat)
  case atStart =>
    refine ⟨xh, yh, 0, 0, 1, 0, 0, 1, false, rfl, rfl, hxh, hyh, by omega, HI.out, Or.inl rfl, ?_, ?_⟩
    · refine ⟨by go_simp, by go_simp, by go_simp, by go_simp, by go_simp, by go_simp, by go_simp, ?_, ?_, ?_⟩
      · have := row_new (w.alloc (.cells #[.int .u64 0, .int .u64 0, .int .u64 0, .int .u64 0, .bool false] 135)) #[.int .u64 0, .int .u64 0, .int .u64 1, .int .u64 0, .bool false] 135
        rw [size_alloc] at this
        exact this.alloc _
      · have := row_new ((w.alloc (.cells #[.int .u64 0, .int .u64 0, .int .u64 0, .int .u64 0, .bool false] 135)).alloc (.cells #[.int .u64 0, .int .u64 0, .int .u64 1, .int .u64 0, .bool false] 135)) #[.int .u64 0, .int .u64 1] 133
        rw [size_alloc, size_alloc] at this
        exact this
      · exact (((Below.refl _ _).alloc (Nat.le_refl _) _).alloc (by rw [size_alloc]; omega) _).alloc (by rw [size_alloc, size_alloc]; omega) _
    · exact ⟨by go_simp, by go_simp, by go_simp, by go_simp, by go_simp, ((row_new _ _ _).alloc _).alloc _⟩
  case round =>
    obtain ⟨x, y, um, vm, u0, v0, u1, v1, ev, rfl, rfl, hx, hy, hv1, hL, hT, hS, hR⟩ := hrel
    have HL := hid15 hL
    have HT := hid15 hT
    have hyx := hL.le
    clear hL hT
    have HP := hid15 hS
    have HRs := hid15 hR
    obtain ⟨c0, c1, c2, c3, c4, d0, d1, rb, rd, be⟩ := hS
    obtain ⟨r0, r1, r2, r3, r4, rr0⟩ := hR
    have hfz3 := fun o => rr0.frozen o
    have hfz := fun o => rb.frozen o
    have hfz2 := fun o => rd.frozen o
    by_cases k1 : v1 ≤ y
    · obtain ⟨b1, b2, b3, b4, b5, b6⟩ := HB.out _ _ _ _ _ _ _ HL.out k1
      by_cases k2 : v0 + v1 + y ≤ x
      · have hyp : 1 ≤ y := by have := HL.out.v1p; omega
        have hyz : ((y : Int) == 0) = false := by rw [beq_eq_false_iff_ne]; omega
        have hyz2 : ¬ y = 0 := by omega
        obtain ⟨qq, hqq⟩ : ∃ q, q = x / y := ⟨_, rfl⟩
        obtain ⟨rr, hrr⟩ : ∃ r, r = x % y := ⟨_, rfl⟩
        have hqw : IntKind.u64.wrap ((x : Int) / (y : Int)) = (qq : Int) := by
          have e : (x : Int) / (y : Int) = ((x / y : Nat) : Int) := by simp
          have : x / y ≤ x := Nat.div_le_self _ _
          rw [e, hqq, IntKind.wrap_u64]; omega
        have hrw : (x : Int) % (y : Int) = (rr : Int) := by rw [hrr]; simp
        rw [← hqq] at b5 b6
        have p1 : 0 ≤ (qq : Int) * (u1 : Int) ∧ (u0 : Int) + (qq : Int) * (u1 : Int) ≤ 18446744073709551615 := by rw [← Int.natCast_mul]; omega
        have p2 : 0 ≤ (qq : Int) * (v1 : Int) ∧ (v0 : Int) + (qq : Int) * (v1 : Int) ≤ 18446744073709551615 := by rw [← Int.natCast_mul]; omega
        obtain ⟨p11, p12⟩ := p1
        obtain ⟨p21, p22⟩ := p2
        have HQ := hid15 hqq
        have HR := hid15 hrr
        have K1 := hid15 k1
        have K2 := hid15 k2
        clear hqq hrr b5 b6
        go_wp2
        go_quiet (fail)
        go_wp2
        have hD : (wr.drewN nq).drew.cell? ⟨w.heap.size + 1 + 1, 0, none⟩ = some (.int .u64 u1) ∧ (wr.drewN nq).drew.cell? ⟨w.heap.size + 1 + 1, 1, none⟩ = some (.int .u64 v1) := ⟨d0, d1⟩
        have hC : (wr.drewN nq).drew.cell? ⟨w.heap.size + 1, 2, none⟩ = some (.int .u64 u0) ∧ (wr.drewN nq).drew.cell? ⟨w.heap.size + 1, 3, none⟩ = some (.int .u64 v0) := ⟨c2, c3⟩
        refine AnyZ.begin (S := fun k w' => if k = true then w'.cell? ⟨w.heap.size + 1 + 1, 0, none⟩ = some (.int .u64 u1) ∧ w'.cell? ⟨w.heap.size + 1 + 1, 1, none⟩ = some (.int .u64 v1) else w'.cell? ⟨w.heap.size + 1, 2, none⟩ = some (.int .u64 u0) ∧ w'.cell? ⟨w.heap.size + 1, 3, none⟩ = some (.int .u64 v0)) (z := fun k i => if k = true then i == 24 else Nat.ble 20 i) 25 rfl (by kernel_rfl) ?_
        refine AnyZ.take (i := 0) (v := ?_) true rfl (by kernel_rfl) (by kernel_rfl) (by kernel_rfl) (by kernel_rfl) (fun _ _ _ h => h) ?_ hD ?_
        rotate_left
        · intro w9 hSw
          simp only [if_true] at hSw
          obtain ⟨hS1, hS2⟩ := hSw
          go_simp
          first | done | with_reducible rfl
        simp only [pP, pN, pS, pZ, pC]
        refine AnyZ.take (i := 1) (v := ?_) false rfl (by kernel_rfl) (by kernel_rfl) (by kernel_rfl) (by kernel_rfl) (fun _ _ _ h => h) ?_ hC ?_
        rotate_left
        · intro w9 hSw
          simp only [Bool.false_eq_true, if_false] at hSw
          obtain ⟨hS1, hS2⟩ := hSw
          go_simp
          first | done | with_reducible rfl
        simp only [pP, pN, pS, pZ, pC]
        refine AnyZ.take (i := 2) (v := ?_) true rfl (by kernel_rfl) (by kernel_rfl) (by kernel_rfl) (by kernel_rfl) (fun _ _ _ h => h) ?_ hD ?_
        rotate_left
        · intro w9 hSw
          simp only [if_true] at hSw
          obtain ⟨hS1, hS2⟩ := hSw
          go_simp
          first | done | with_reducible rfl
        simp only [pP, pN, pS, pZ, pC]
        refine AnyZ.take (i := 3) (v := ?_) true rfl (by kernel_rfl) (by kernel_rfl) (by kernel_rfl) (by kernel_rfl) (fun _ _ _ h => h) ?_ hD ?_
        rotate_left
        · intro w9 hSw
          simp only [if_true] at hSw
          obtain ⟨hS1, hS2⟩ := hSw
          go_simp
          first | done | with_reducible rfl
        simp only [pP, pN, pS, pZ, pC]
        refine AnyZ.take (i := 4) (v := ?_) true rfl (by kernel_rfl) (by kernel_rfl) (by kernel_rfl) (by kernel_rfl) (fun _ _ _ h => h) ?_ hD ?_
        rotate_left
        · intro w9 hSw
          simp only [if_true] at hSw
          obtain ⟨hS1, hS2⟩ := hSw
          go_simp
          first | done | with_reducible rfl
        simp only [pP, pN, pS, pZ, pC]
        refine AnyZ.take (i := 5) (v := ?_) false rfl (by kernel_rfl) (by kernel_rfl) (by kernel_rfl) (by kernel_rfl) (fun _ _ _ h => h) ?_ hC ?_
        rotate_left
        · intro w9 hSw
          simp only [Bool.false_eq_true, if_false] at hSw
          obtain ⟨hS1, hS2⟩ := hSw
          go_simp
          first | done | with_reducible rfl
        simp only [pP, pN, pS, pZ, pC]
        refine AnyZ.take (i := 6) (v := ?_) true rfl (by kernel_rfl) (by kernel_rfl) (by kernel_rfl) (by kernel_rfl) (fun _ _ _ h => h) ?_ hD ?_
        rotate_left
        · intro w9 hSw
          simp only [if_true] at hSw
          obtain ⟨hS1, hS2⟩ := hSw
          go_simp
          first | done | with_reducible rfl
        simp only [pP, pN, pS, pZ, pC]
        refine AnyZ.take (i := 7) (v := ?_) true rfl (by kernel_rfl) (by kernel_rfl) (by kernel_rfl) (by kernel_rfl) (fun _ _ _ h => h) ?_ hD ?_
        rotate_left
        · intro w9 hSw
          simp only [if_true] at hSw
          obtain ⟨hS1, hS2⟩ := hSw
          go_simp
          first | done | with_reducible rfl
        simp only [pP, pN, pS, pZ, pC]
        refine AnyZ.take (i := 8) (v := ?_) true rfl (by kernel_rfl) (by kernel_rfl) (by kernel_rfl) (by kernel_rfl) (fun _ _ _ h => h) ?_ hD ?_
        rotate_left
        · intro w9 hSw
          simp only [if_true] at hSw
          obtain ⟨hS1, hS2⟩ := hSw
          go_simp
          first | done | with_reducible rfl
        simp only [pP, pN, pS, pZ, pC]
        refine AnyZ.take (i := 9) (v := ?_) true rfl (by kernel_rfl) (by kernel_rfl) (by kernel_rfl) (by kernel_rfl) (fun _ _ _ h => h) ?_ hD ?_
        rotate_left
        · intro w9 hSw
          simp only [if_true] at hSw
          obtain ⟨hS1, hS2⟩ := hSw
          go_simp
          first | done | with_reducible rfl
        simp only [pP, pN, pS, pZ, pC]
        refine AnyZ.take (i := 10) (v := ?_) true rfl (by kernel_rfl) (by kernel_rfl) (by kernel_rfl) (by kernel_rfl) (fun _ _ _ h => h) ?_ hD ?_
        rotate_left
        · intro w9 hSw
          simp only [if_true] at hSw
          obtain ⟨hS1, hS2⟩ := hSw
          go_simp
          first | done | with_reducible rfl
        simp only [pP, pN, pS, pZ, pC]
        refine AnyZ.take (i := 11) (v := ?_) true rfl (by kernel_rfl) (by kernel_rfl) (by kernel_rfl) (by kernel_rfl) (fun _ _ _ h => h) ?_ hD ?_
        rotate_left
        · intro w9 hSw
          simp only [if_true] at hSw
          obtain ⟨hS1, hS2⟩ := hSw
          go_simp
          first | done | with_reducible rfl
        simp only [pP, pN, pS, pZ, pC]
        refine AnyZ.take (i := 12) (v := ?_) true rfl (by kernel_rfl) (by kernel_rfl) (by kernel_rfl) (by kernel_rfl) (fun _ _ _ h => h) ?_ hD ?_
        rotate_left
        · intro w9 hSw
          simp only [if_true] at hSw
          obtain ⟨hS1, hS2⟩ := hSw
          go_simp
          first | done | with_reducible rfl
        simp only [pP, pN, pS, pZ, pC]
        refine AnyZ.take (i := 13) (v := ?_) false rfl (by kernel_rfl) (by kernel_rfl) (by kernel_rfl) (by kernel_rfl) (fun _ _ _ h => h) ?_ hC ?_
        rotate_left
        · intro w9 hSw
          simp only [Bool.false_eq_true, if_false] at hSw
          obtain ⟨hS1, hS2⟩ := hSw
          go_simp
          first | done | with_reducible rfl
        simp only [pP, pN, pS, pZ, pC]
        refine AnyZ.take (i := 14) (v := ?_) true rfl (by kernel_rfl) (by kernel_rfl) (by kernel_rfl) (by kernel_rfl) (fun _ _ _ h => h) ?_ hD ?_
        rotate_left
        · intro w9 hSw
          simp only [if_true] at hSw
          obtain ⟨hS1, hS2⟩ := hSw
          go_simp
          first | done | with_reducible rfl
        simp only [pP, pN, pS, pZ, pC]
        refine AnyZ.take (i := 15) (v := ?_) true rfl (by kernel_rfl) (by kernel_rfl) (by kernel_rfl) (by kernel_rfl) (fun _ _ _ h => h) ?_ hD ?_
        rotate_left
        · intro w9 hSw
          simp only [if_true] at hSw
          obtain ⟨hS1, hS2⟩ := hSw
          go_simp
          first | done | with_reducible rfl
        simp only [pP, pN, pS, pZ, pC]
        refine AnyZ.take (i := 16) (v := ?_) true rfl (by kernel_rfl) (by kernel_rfl) (by kernel_rfl) (by kernel_rfl) (fun _ _ _ h => h) ?_ hD ?_
        rotate_left
        · intro w9 hSw
          simp only [if_true] at hSw
          obtain ⟨hS1, hS2⟩ := hSw
          go_simp
          first | done | with_reducible rfl
        simp only [pP, pN, pS, pZ, pC]
        refine AnyZ.take (i := 17) (v := ?_) true rfl (by kernel_rfl) (by kernel_rfl) (by kernel_rfl) (by kernel_rfl) (fun _ _ _ h => h) ?_ hD ?_
        rotate_left
        · intro w9 hSw
          simp only [if_true] at hSw
          obtain ⟨hS1, hS2⟩ := hSw
          go_simp
          first | done | with_reducible rfl
        simp only [pP, pN, pS, pZ, pC]
        refine AnyZ.take (i := 18) (v := ?_) true rfl (by kernel_rfl) (by kernel_rfl) (by kernel_rfl) (by kernel_rfl) (fun _ _ _ h => h) ?_ hD ?_
        rotate_left
        · intro w9 hSw
          simp only [if_true] at hSw
          obtain ⟨hS1, hS2⟩ := hSw
          go_simp
          first | done | with_reducible rfl
        simp only [pP, pN, pS, pZ, pC]
        refine AnyZ.take (i := 19) (v := ?_) true rfl (by kernel_rfl) (by kernel_rfl) (by kernel_rfl) (by kernel_rfl) (fun _ _ _ h => h) ?_ hD ?_
        rotate_left
        · intro w9 hSw
          simp only [if_true] at hSw
          obtain ⟨hS1, hS2⟩ := hSw
          go_simp
          first | done | with_reducible rfl
        simp only [pP, pN, pS, pZ, pC]
        refine AnyZ.take (i := 20) (v := ?_) true rfl (by kernel_rfl) (by kernel_rfl) (by kernel_rfl) (by kernel_rfl) (fun _ _ _ h => h) ?_ hD ?_
        rotate_left
        · intro w9 hSw
          simp only [if_true] at hSw
          obtain ⟨hS1, hS2⟩ := hSw
          go_simp
          first | done | with_reducible rfl
        simp only [pP, pN, pS, pZ, pC]
        refine AnyZ.next (i := 21) rfl (by kernel_rfl) (fun K hK => ?_)
        go_simp
        refine hK.out _ _ ?_ ?_
        · intro k hz hS
          cases k
          · exact absurd hz (by decide)
          · simp only [if_true] at hS ⊢
            obtain ⟨hS1, hS2⟩ := hS
            go_keep
        try simp only [pP, pN, pS, pZ, pC]
        refine AnyZ.next (i := 22) rfl (by kernel_rfl) (fun K hK => ?_)
        go_simp
        refine hK.out _ _ ?_ ?_
        · intro k hz hS
          cases k
          · exact absurd hz (by decide)
          · simp only [if_true] at hS ⊢
            obtain ⟨hS1, hS2⟩ := hS
            go_keep
        try simp only [pP, pN, pS, pZ, pC]
        refine AnyZ.next (i := 23) rfl (by kernel_rfl) (fun K hK => ?_)
        go_simp
        refine hK.out _ _ ?_ ?_
        · intro k hz hS
          cases k
          · exact absurd hz (by decide)
          · simp only [if_true] at hS ⊢
            obtain ⟨hS1, hS2⟩ := hS
            go_keep
        try simp only [pP, pN, pS, pZ, pC]
        refine AnyZ.next (i := 24) rfl (by kernel_rfl) (fun K hK => ?_)
        go_simp
        refine hK.out _ _ ?_ ?_
        · intro k hz
          cases k <;> exact absurd hz (by decide)
        refine AnyZ.done (by kernel_rfl) ?_
        have hU : IntKind.u64.wrap ((u0 : Int) + IntKind.u64.wrap ((qq : Int) * (u1 : Int))) = ((u0 + qq * u1 : Nat) : Int) := by
          rw [IntKind.wrap_u64, IntKind.wrap_u64, Int.natCast_add, Int.natCast_mul]; omega
        have hV : IntKind.u64.wrap ((v0 : Int) + IntKind.u64.wrap ((qq : Int) * (v1 : Int))) = ((v0 + qq * v1 : Nat) : Int) := by
          rw [IntKind.wrap_u64, IntKind.wrap_u64, Int.natCast_add, Int.natCast_mul]; omega
        rw [hU, hV]
        clear hU hV hD hC
        go_wp2
        refine ⟨⟨y, rr, u0, v0, u1, v1, u0 + qq * u1, v0 + qq * v1, !ev, rfl, rfl, hy, ?_, ?_, ?_, ?_, ?_, ?_⟩, ?_⟩
        · rw [HR.out]; exact Nat.lt_trans (Nat.mod_lt _ hyp) hy
        · have e : ((v0 + qq * v1 : Nat) : Int) = (v0 : Int) + (qq : Int) * (v1 : Int) := by simp
          omega
        · have := (HS.out _ _ _ _ _ _ _ HL.out K1.out K2.out).1
          rw [← HQ.out, ← HR.out] at this
          exact this
        · exact (HS.out _ _ _ _ _ _ _ HL.out K1.out K2.out).2
        · exact HP.out.step (Nat.le_succ _) (by simp) (by simp)
        · exact ((((((HRs.out.drewN.setCell _ (by omega)).setCell _ (by omega)).setCell _ (by omega)).setCell _ (by omega)).setCell _ (by omega)).setCell _ (by omega)).setCell _ (by omega)
        · show rr < y
          rw [HR.out]; exact Nat.mod_lt _ hyp
      · have K2 := hid15 k2
        go_wp2
        try simp only [Exit.inBlock, Exit.then]
        refine bodyPost_ret (v := .agg #[.int .u64 um, .int .u64 vm, .int .u64 u0, .int .u64 v0, .bool ev]) (by rw [results_cell rfl]; go_simp) rfl ?_
        exact ⟨um, vm, u0, v0, ev, rfl, HT.out, ((((be.setCell (by exact Nat.le_refl _) _).setCell (by exact Nat.le_refl _) _).setCell (by exact Nat.le_refl _) _).setCell (by exact Nat.le_refl _) _).setCell (by exact Nat.le_refl _) _⟩
    · go_wp2
      try simp only [Exit.inBlock, Exit.then]
      refine bodyPost_ret (v := .agg #[.int .u64 um, .int .u64 vm, .int .u64 u0, .int .u64 v0, .bool ev]) (by rw [results_cell rfl]; go_simp) rfl ?_
      exact ⟨um, vm, u0, v0, ev, rfl, HT.out, ((((be.setCell (by exact Nat.le_refl _) _).setCell (by exact Nat.le_refl _) _).setCell (by exact Nat.le_refl _) _).setCell (by exact Nat.le_refl _) _).setCell (by exact Nat.le_refl _) _⟩
theorem timesLess_is (ao ao2 : Option Addr) (n cap X m k cap2 Y q L P : Nat) (w : World) (hn : n ≤ 70368744177664) (hk : k ≤ 70368744177664) (hmm : m < 4294967296) (hqq : q < 4294967296) (hL : L = max n k) (hS : Seg w ao X n) (hS2 : Seg w ao2 Y k)
    (h : P + q * Y = m * X) (hlt : P < BB ^ L) :
    Calls Tryz.prog 140 #[.slice ao n cap, .int .u64 m, .slice ao2 k cap2, .int .u64 q] w fun r w' => ∃ a', r = .returned (.slice a' (ln P) (ln P)) ∧ New w w' a' P (ln P) := by
  have e : m * X - q * Y = P := by omega
  have := timesLess_any ao ao2 n cap X m k cap2 Y q L w hn hk hmm hqq hL hS hS2 (by omega) (by rw [e]; exact hlt)
  rwa [e] at this
theorem below_cellOf {w w' : World} (h : Below w.heap.size w w') {a : Addr} {v : Value} (hc : w.cell? a = some v) : w'.cell? a = some v := by
  rw [h.cell (World.block_lt_of_cell? w a hc)]
  exact hc
set_option maxHeartbeats 2000000 in
theorem gcdStep_any (ao ao2 : Option Addr) (n m X Y : Nat) (w : World) (hn : n = ln X) (hm : m = ln Y) (hb : n ≤ 70368744177663) (hS : Seg w ao X n) (hS2 : Seg w ao2 Y m) (h3 : 3 ≤ m) (hle : Y ≤ X) :
    Calls Tryz.prog 121 #[.slice ao n n, .slice ao2 m m] w fun r w' => ∃ a1 a2 P Q, r = .returned (.tuple #[.slice a1 (ln P) (ln P), .slice a2 (ln Q) (ln Q)]) ∧ Q < P ∧ P ≤ Y ∧ Nat.gcd P Q = Nat.gcd X Y ∧ (New w w' a1 P (ln P) ∨ (a1 = ao2 ∧ P = Y)) ∧ New w w' a2 Q (ln Q) := by
  have hmn : m ≤ n := by rw [hm]; exact ln_le_of_lt (Nat.lt_of_le_of_lt hle hS.1)
  obtain ⟨h, xh, yh, hxh, hyh, hxb, HW⟩ := highWords_any ao ao2 n n X m m Y w (by omega) (by omega) hS hS2 hn.symm (by omega) hle
  have hX := Nat.div_add_mod X (2 ^ h)
  have hY := Nat.div_add_mod Y (2 ^ h)
  have hxl := Nat.mod_lt X (Nat.two_pow_pos h)
  have hyl := Nat.mod_lt Y (Nat.two_pow_pos h)
  rw [← hxh, Nat.mul_comm] at hX
  rw [← hyh, Nat.mul_comm] at hY
  have hhle : yh ≤ xh := by rw [hxh, hyh]; exact Nat.div_le_div_right hle
  have hYn : Y < BB ^ n := Nat.lt_of_le_of_lt hle hS.1
  have HG : Hid (∀ w, _) := fun w => gcdSteps_any X Y (2 ^ h) xh yh (X % 2 ^ h) (Y % 2 ^ h) w hX.symm hY.symm hxl hyl hxb hhle
  have HW' := hid15 HW
  have HN := hid15 hn
  have HM := hid15 hm
  clear hX hY hxl hyl hhle HW hn hm hxh hyh
  go_enter Tryz.func121, Tryz.ntmps121
  go_wp2_with fail
  refine HW'.out.mono ?_
  rintro e w1 ⟨rfl, hd⟩
  go_wp2_with fail
  refine (HG.out _).mono ?_
  rintro e w2 ⟨um, vm, u0, v0, ev, rfl, hT, hB2⟩
  have HT := hid15 hT
  clear hT
  by_cases h0 : vm = 0
  · subst h0
    go_wp2_with fail
    have hB3 : Below w.heap.size w (w2.alloc (.cells #[.int .u64 um, .int .u64 0, .int .u64 u0, .int .u64 v0, .bool ev] 135)) := (((hd.below _).trans (hB2.mono (hd.below w.heap.size).size))).alloc (Nat.le_trans (hd.below w.heap.size).size hB2.size) _
    have hYp : Y ≠ 0 := by intro hy; rw [HM.out, hy, ln_zero] at h3; omega
    refine (euclidStep_any ao ao2 n n X m Y _ (Nat.le_refl _) hb (by omega) (hS.below hB3 (Nat.le_refl _)) (hS2.below hB3 (Nat.le_refl _)) hYp).mono ?_
    rintro e w4 ⟨ar, rfl, hN⟩
    go_wp2
    go_ret2
    refine ⟨ao2, ar, Y, X % Y, by rw [← HM.out]; rfl, Nat.mod_lt _ (by omega), Nat.le_refl _, ?_, Or.inr ⟨rfl, rfl⟩, hN.back hB3⟩
    rw [Nat.gcd_comm X Y, Nat.gcd_rec Y X, Nat.gcd_comm]
  · rcases HT.out with h9 | ⟨t1, t2, t3, t4, P, Q, hQP, hPY, hgcd, heq⟩
    · exact absurd h9 h0
    have HE := hid15 heq
    have hQP' := hid15 hQP
    have hPY' := hid15 hPY
    have hgcd' := hid15 hgcd
    have hPb : P < BB ^ n := Nat.lt_of_le_of_lt hPY hYn
    have hQb : Q < BB ^ n := Nat.lt_trans hQP hPb
    clear heq hQP hPY hgcd
    cases ev
    · have HE1 : Hid (P + um * X = vm * Y) := by
        rcases HE.out with ⟨h, _⟩ | ⟨_, h, _⟩
        · cases h
        · exact h
      have HE2 : Hid (Q + v0 * Y = u0 * X) := by
        rcases HE.out with ⟨h, _⟩ | ⟨_, _, h⟩
        · cases h
        · exact h
      go_wp2_with fail
      have hB3 : Below w.heap.size w (w2.alloc (.cells #[.int .u64 um, .int .u64 vm, .int .u64 u0, .int .u64 v0, .bool false] 135)) := (((hd.below _).trans (hB2.mono (hd.below w.heap.size).size))).alloc (Nat.le_trans (hd.below w.heap.size).size hB2.size) _
      have q0 : (w2.alloc (.cells #[.int .u64 um, .int .u64 vm, .int .u64 u0, .int .u64 v0, .bool false] 135)).cell? ⟨w2.heap.size, 0, none⟩ = some (.int .u64 um) := by go_simp
      have q1 : (w2.alloc (.cells #[.int .u64 um, .int .u64 vm, .int .u64 u0, .int .u64 v0, .bool false] 135)).cell? ⟨w2.heap.size, 1, none⟩ = some (.int .u64 vm) := by go_simp
      have q2 : (w2.alloc (.cells #[.int .u64 um, .int .u64 vm, .int .u64 u0, .int .u64 v0, .bool false] 135)).cell? ⟨w2.heap.size, 2, none⟩ = some (.int .u64 u0) := by go_simp
      have q3 : (w2.alloc (.cells #[.int .u64 um, .int .u64 vm, .int .u64 u0, .int .u64 v0, .bool false] 135)).cell? ⟨w2.heap.size, 3, none⟩ = some (.int .u64 v0) := by go_simp
      generalize w2.alloc (.cells #[.int .u64 um, .int .u64 vm, .int .u64 u0, .int .u64 v0, .bool false] 135) = W at hB3 q0 q1 q2 q3 ⊢
      go_region_held3 (fun w' => w'.cell? ⟨w2.heap.size, 0, none⟩ = some (.int .u64 um) ∧ w'.cell? ⟨w2.heap.size, 1, none⟩ = some (.int .u64 vm) ∧ w'.cell? ⟨w2.heap.size, 2, none⟩ = some (.int .u64 u0) ∧ w'.cell? ⟨w2.heap.size, 3, none⟩ = some (.int .u64 v0) ∧ Below W.heap.size W w')
        (first | exact ⟨q0, q1, q2, q3, (Below.refl _ _).drew⟩ | exact ⟨below_cellOf hn2.below g0, below_cellOf hn2.below g1, below_cellOf hn2.below g2, below_cellOf hn2.below g3, gB.trans (hn2.below.mono gB.size)⟩ | exact ⟨below_cellOf hn1.below g0, below_cellOf hn1.below g1, below_cellOf hn1.below g2, below_cellOf hn1.below g3, gB.trans (hn1.below.mono gB.size)⟩)
        (first
          | (go_at_call_of 140 (Value.int .u64 (vm : Int)); obtain ⟨g0, g1, g2, g3, gB⟩ := (by assumption : _ ∧ _ ∧ _ ∧ _ ∧ Below W.heap.size W _); refine (timesLess_is ao2 ao m m Y vm n n X um n P _ (by omega) (by omega) t2 t1 (by omega) (hS2.below (hB3.trans (gB.mono hB3.size)) (Nat.le_refl _)) (hS.below (hB3.trans (gB.mono hB3.size)) (Nat.le_refl _)) HE1.out hPb).mono ?_; rintro e w5 ⟨a1, rfl, hn1⟩)
          | (go_at_call_of 140 (Value.int .u64 (u0 : Int)); obtain ⟨g0, g1, g2, g3, gB⟩ := (by assumption : _ ∧ _ ∧ _ ∧ _ ∧ Below W.heap.size W _); refine (timesLess_is ao ao2 n n X u0 m m Y v0 n Q _ (by omega) (by omega) t3 t4 (by omega) (hS.below (hB3.trans (gB.mono hB3.size)) (Nat.le_refl _)) (hS2.below (hB3.trans (gB.mono hB3.size)) (Nat.le_refl _)) HE2.out hQb).mono ?_; rintro e w6 ⟨a2, rfl, hn2⟩))
      have hB5 := hB3.drew.trans (hn1.below.mono hB3.drew.size)
      go_wp2
      go_ret2
      exact ⟨a1, a2, P, Q, rfl, hQP'.out, hPY'.out, hgcd'.out, Or.inl ((hn1.later hn2.below).back hB3.drew), hn2.back hB5⟩
    · have HE1 : Hid (P + vm * Y = um * X) := by
        rcases HE.out with ⟨_, h, _⟩ | ⟨h, _⟩
        · exact h
        · cases h
      have HE2 : Hid (Q + u0 * X = v0 * Y) := by
        rcases HE.out with ⟨_, _, h⟩ | ⟨h, _⟩
        · exact h
        · cases h
      go_wp2_with fail
      have hB3 : Below w.heap.size w (w2.alloc (.cells #[.int .u64 um, .int .u64 vm, .int .u64 u0, .int .u64 v0, .bool true] 135)) := (((hd.below _).trans (hB2.mono (hd.below w.heap.size).size))).alloc (Nat.le_trans (hd.below w.heap.size).size hB2.size) _
      have q0 : (w2.alloc (.cells #[.int .u64 um, .int .u64 vm, .int .u64 u0, .int .u64 v0, .bool true] 135)).cell? ⟨w2.heap.size, 0, none⟩ = some (.int .u64 um) := by go_simp
      have q1 : (w2.alloc (.cells #[.int .u64 um, .int .u64 vm, .int .u64 u0, .int .u64 v0, .bool true] 135)).cell? ⟨w2.heap.size, 1, none⟩ = some (.int .u64 vm) := by go_simp
      have q2 : (w2.alloc (.cells #[.int .u64 um, .int .u64 vm, .int .u64 u0, .int .u64 v0, .bool true] 135)).cell? ⟨w2.heap.size, 2, none⟩ = some (.int .u64 u0) := by go_simp
      have q3 : (w2.alloc (.cells #[.int .u64 um, .int .u64 vm, .int .u64 u0, .int .u64 v0, .bool true] 135)).cell? ⟨w2.heap.size, 3, none⟩ = some (.int .u64 v0) := by go_simp
      generalize w2.alloc (.cells #[.int .u64 um, .int .u64 vm, .int .u64 u0, .int .u64 v0, .bool true] 135) = W at hB3 q0 q1 q2 q3 ⊢
      go_region_held3 (fun w' => w'.cell? ⟨w2.heap.size, 0, none⟩ = some (.int .u64 um) ∧ w'.cell? ⟨w2.heap.size, 1, none⟩ = some (.int .u64 vm) ∧ w'.cell? ⟨w2.heap.size, 2, none⟩ = some (.int .u64 u0) ∧ w'.cell? ⟨w2.heap.size, 3, none⟩ = some (.int .u64 v0) ∧ Below W.heap.size W w')
        (first | exact ⟨q0, q1, q2, q3, (Below.refl _ _).drew⟩ | exact ⟨below_cellOf hn2.below g0, below_cellOf hn2.below g1, below_cellOf hn2.below g2, below_cellOf hn2.below g3, gB.trans (hn2.below.mono gB.size)⟩ | exact ⟨below_cellOf hn1.below g0, below_cellOf hn1.below g1, below_cellOf hn1.below g2, below_cellOf hn1.below g3, gB.trans (hn1.below.mono gB.size)⟩)
        (first
          | (go_at_call_of 140 (Value.int .u64 (um : Int)); obtain ⟨g0, g1, g2, g3, gB⟩ := (by assumption : _ ∧ _ ∧ _ ∧ _ ∧ Below W.heap.size W _); refine (timesLess_is ao ao2 n n X um m m Y vm n P _ (by omega) (by omega) t1 t2 (by omega) (hS.below (hB3.trans (gB.mono hB3.size)) (Nat.le_refl _)) (hS2.below (hB3.trans (gB.mono hB3.size)) (Nat.le_refl _)) HE1.out hPb).mono ?_; rintro e w5 ⟨a1, rfl, hn1⟩)
          | (go_at_call_of 140 (Value.int .u64 (v0 : Int)); obtain ⟨g0, g1, g2, g3, gB⟩ := (by assumption : _ ∧ _ ∧ _ ∧ _ ∧ Below W.heap.size W _); refine (timesLess_is ao2 ao m m Y v0 n n X u0 n Q _ (by omega) (by omega) t4 t3 (by omega) (hS2.below (hB3.trans (gB.mono hB3.size)) (Nat.le_refl _)) (hS.below (hB3.trans (gB.mono hB3.size)) (Nat.le_refl _)) HE2.out hQb).mono ?_; rintro e w6 ⟨a2, rfl, hn2⟩))
      have hB5 := hB3.drew.trans (hn1.below.mono hB3.drew.size)
      go_wp2
      go_ret2
      exact ⟨a1, a2, P, Q, rfl, hQP'.out, hPY'.out, hgcd'.out, Or.inl ((hn1.later hn2.below).back hB3.drew), hn2.back hB5⟩
theorem small2 {Z : Nat} (h : ln Z ≤ 2) : Z < 18446744073709551616 := by
  have h1 := ln_lt Z
  have h2 : BB ^ ln Z ≤ BB ^ 2 := pow_mono h
  have h3 : BB ^ 2 = 18446744073709551616 := by rw [BB_eq]
  omega
set_option maxHeartbeats 2000000 in
theorem Gcd_any (ao ao2 : Option Addr) (n cap X m cap2 Y : Nat) (w : World) (hc : n ≤ cap) (hm : n ≤ 70368744177663) (hS : Seg w ao X n) (hc2 : m ≤ cap2) (hm2 : m ≤ 70368744177663) (hS2 : Seg w ao2 Y m) :
    Calls Tryz.prog 110 #[.slice ao n cap, .slice ao2 m cap2] w fun e w' => ∃ ag, e = .returned (.slice ag (ln (Nat.gcd X Y)) (ln (Nat.gcd X Y))) ∧ New w w' ag (Nat.gcd X Y) (ln (Nat.gcd X Y)) := by
  have hl := ln_le_of_lt hS.1
  have hl2 := ln_le_of_lt hS2.1
  by_cases hlt : X < Y
  · have HL : Hid (X < Y) := hlt
    have hcm : cmpI X Y < 0 := by rw [cmpI_lt hlt]; omega
    clear hlt
    go_enter Tryz.func110, Tryz.ntmps110
    go_wp2_with fail
    refine (Norm_any _ _ _ X _ hc (by omega) hS).mono ?_
    rintro e w1 ⟨a1, rfl, hn1⟩
    go_wp2_with fail
    refine (Norm_any _ _ _ Y _ hc2 (by omega) (hS2.below hn1.below (Nat.le_refl _))).mono ?_
    rintro e w2 ⟨a2, rfl, hn2⟩
    go_wp2_with fail
    refine (Cmp_any _ _ _ _ X _ _ Y _ (Nat.le_refl _) (by omega) (hn1.later hn2.below).seg (Nat.le_refl _) (by omega) hn2.seg).mono ?_
    rintro e w3 ⟨rfl, hdr⟩
    go_wp2_with fail
    have hs1 := (hn1.later hn2.below).later (hdr.below _)
    have hs2 := (hn2.back hn1.below).later (hdr.below _)
    go_loopg [5, 6] X (fun k vx vy wr => ∃ ax ay A B, vx = .slice ax (ln A) (ln A) ∧ vy = .slice ay (ln B) (ln B) ∧ B = k ∧ B ≤ A ∧ ln A ≤ 70368744177663 ∧ Nat.gcd A B = Nat.gcd X Y ∧ New w wr ax A (ln A) ∧ New w wr ay B (ln B))
    case atStart => exact ⟨a2, a1, Y, X, rfl, rfl, rfl, (Nat.le_of_lt HL.out), by omega, (Nat.gcd_comm _ _), hs2, hs1⟩
    case round =>
      clear hn1 hn2 hs1 hs2 hdr
      obtain ⟨ax, ay, A, B, rfl, rfl, hk, hBA, hA9, hg, hNx, hNy⟩ := hrel
      have hlm : ln B ≤ ln A := ln_mono hBA
      have HBA := hid15 hBA
      have HGC := hid15 hg
      have HK := hid15 hk
      clear hBA hg hk
      by_cases hb3 : 2 < ln B
      · go_wp2_with fail
        refine (gcdStep_any ax ay _ _ A B _ rfl rfl hA9 hNx.seg hNy.seg hb3 HBA.out).mono ?_
        rintro e w5 ⟨b1, b2, P, Q, rfl, hQP, hPB, hgc, hn5, hn6⟩
        have HQ := hid15 hQP
        have HP := hid15 hPB
        have HG5 := hid15 hgc
        clear hQP hPB hgc
        go_wp2_with fail
        go_roundg Q
        case measure => have := HQ.out; have := HP.out; have := HK.out; omega
        case rel =>
          have hlP : ln P ≤ ln B := ln_mono HP.out
          refine ⟨b1, b2, P, Q, rfl, rfl, rfl, Nat.le_of_lt HQ.out, by omega, by rw [HG5.out, HGC.out], ?_, hn6.back hNy.below⟩
          rcases hn5 with h5 | ⟨rfl, rfl⟩
          · exact h5.back hNy.below
          · exact hNy.later hn6.below
      · by_cases hb0 : ln B = 0
        · have hB0 : B = 0 := ln_eq_zero.1 hb0
          have HB0 := hid15 hB0
          clear hB0
          go_wp2_with fail
          go_ret
          have e : Nat.gcd X Y = A := by rw [← HGC.out, HB0.out, Nat.gcd_zero_right]
          rw [e]
          exact ⟨ax, rfl, hNx⟩
        · by_cases ha : 2 < ln A
          · have hBp : B ≠ 0 := fun h => hb0 (ln_eq_zero.2 h)
            go_wp2_with fail
            refine (euclidStep_any ax ay _ _ A _ B _ (Nat.le_refl _) hA9 (by omega) hNx.seg hNy.seg hBp).mono ?_
            rintro e w5 ⟨ar, rfl, hn5⟩
            have hlr : ln (A % B) ≤ ln B := ln_mono (Nat.le_of_lt (Nat.mod_lt _ (by omega)))
            have hy5 := hNy.later hn5.below
            have hr5 := hn5.back hNy.below
            obtain ⟨R, hR⟩ : ∃ R, R = A % B := ⟨_, rfl⟩
            rw [← hR] at hlr hr5 ⊢
            have HR := hid15 hR
            clear hR hn5
            by_cases hr0 : ln R = 0
            · have HR0 := hid15 (ln_eq_zero.1 hr0)
              go_wp2_with fail
              go_ret
              have e : Nat.gcd X Y = B := by rw [← HGC.out, Nat.gcd_comm, Nat.gcd_rec, ← HR.out, HR0.out, Nat.gcd_zero_left]
              rw [e]
              exact ⟨ay, rfl, hy5⟩
            · go_wp2_with fail
              refine (word_any _ _ _ B _ (by omega) hy5.seg).mono ?_
              rintro e w6 ⟨rfl, rfl⟩
              go_wp2_with fail
              refine (word_any _ _ _ R _ (by omega) hr5.seg).mono ?_
              rintro e w6 ⟨rfl, rfl⟩
              go_wp2_with fail
              obtain ⟨G, hG⟩ : ∃ G, G = Nat.gcd B R := ⟨_, rfl⟩
              have hGl : G < 18446744073709551616 := by rw [hG]; exact Nat.lt_of_le_of_lt (Nat.gcd_le_right _ (Nat.pos_of_ne_zero fun h => hr0 (ln_eq_zero.2 h))) (small2 (by omega))
              have hgw := gcdOfWords_any B R w5 (small2 (by omega)) (small2 (by omega))
              rw [← hG] at hgw
              have HG := hid15 hG
              clear hG
              refine hgw.mono ?_
              clear hgw
              rintro e w7 ⟨rfl, hd7⟩
              go_wp2_with fail
              refine (Of_any G _ hGl).mono ?_
              rintro e w8 ⟨a8, rfl, hn8⟩
              go_wp2
              go_ret
              have e : Nat.gcd X Y = G := by rw [← HGC.out, HG.out, HR.out, Nat.gcd_comm A B, Nat.gcd_rec B A, Nat.gcd_comm B]
              rw [e]
              exact ⟨a8, rfl, hn8.back (hy5.below.trans (hd7.below _))⟩
          · go_wp2_with fail
            refine (word_any _ _ _ A _ (by omega) hNx.seg).mono ?_
            rintro e w6 ⟨rfl, rfl⟩
            go_wp2_with fail
            refine (word_any _ _ _ B _ (by omega) hNy.seg).mono ?_
            rintro e w6 ⟨rfl, rfl⟩
            go_wp2_with fail
            obtain ⟨G, hG⟩ : ∃ G, G = Nat.gcd A B := ⟨_, rfl⟩
            have hGl : G < 18446744073709551616 := by rw [hG]; exact Nat.lt_of_le_of_lt (Nat.gcd_le_right _ (Nat.pos_of_ne_zero fun h => hb0 (ln_eq_zero.2 h))) (small2 (by omega))
            have hgw := gcdOfWords_any A B wr (small2 (by omega)) (small2 (by omega))
            rw [← hG] at hgw
            have HG := hid15 hG
            clear hG
            refine hgw.mono ?_
            clear hgw
            rintro e w7 ⟨rfl, hd7⟩
            go_wp2_with fail
            refine (Of_any G _ hGl).mono ?_
            rintro e w8 ⟨a8, rfl, hn8⟩
            go_wp2
            go_ret
            have e : Nat.gcd X Y = G := by rw [← HGC.out, HG.out]
            rw [e]
            exact ⟨a8, rfl, hn8.back (hNx.below.trans (hd7.below _))⟩
  · have HL : Hid (Y ≤ X) := Nat.le_of_not_lt hlt
    have hcm : ¬ cmpI X Y < 0 := by unfold cmpI; rw [if_neg hlt]; split <;> simp
    clear hlt
    go_enter Tryz.func110, Tryz.ntmps110
    go_wp2_with fail
    refine (Norm_any _ _ _ X _ hc (by omega) hS).mono ?_
    rintro e w1 ⟨a1, rfl, hn1⟩
    go_wp2_with fail
    refine (Norm_any _ _ _ Y _ hc2 (by omega) (hS2.below hn1.below (Nat.le_refl _))).mono ?_
    rintro e w2 ⟨a2, rfl, hn2⟩
    go_wp2_with fail
    refine (Cmp_any _ _ _ _ X _ _ Y _ (Nat.le_refl _) (by omega) (hn1.later hn2.below).seg (Nat.le_refl _) (by omega) hn2.seg).mono ?_
    rintro e w3 ⟨rfl, hdr⟩
    go_wp2_with fail
    have hs1 := (hn1.later hn2.below).later (hdr.below _)
    have hs2 := (hn2.back hn1.below).later (hdr.below _)
    go_loopg [5, 6] Y (fun k vx vy wr => ∃ ax ay A B, vx = .slice ax (ln A) (ln A) ∧ vy = .slice ay (ln B) (ln B) ∧ B = k ∧ B ≤ A ∧ ln A ≤ 70368744177663 ∧ Nat.gcd A B = Nat.gcd X Y ∧ New w wr ax A (ln A) ∧ New w wr ay B (ln B))
    case atStart => exact ⟨a1, a2, X, Y, rfl, rfl, rfl, HL.out, by omega, rfl, hs1, hs2⟩
    case round =>
      clear hn1 hn2 hs1 hs2 hdr
      obtain ⟨ax, ay, A, B, rfl, rfl, hk, hBA, hA9, hg, hNx, hNy⟩ := hrel
      have hlm : ln B ≤ ln A := ln_mono hBA
      have HBA := hid15 hBA
      have HGC := hid15 hg
      have HK := hid15 hk
      clear hBA hg hk
      by_cases hb3 : 2 < ln B
      · go_wp2_with fail
        refine (gcdStep_any ax ay _ _ A B _ rfl rfl hA9 hNx.seg hNy.seg hb3 HBA.out).mono ?_
        rintro e w5 ⟨b1, b2, P, Q, rfl, hQP, hPB, hgc, hn5, hn6⟩
        have HQ := hid15 hQP
        have HP := hid15 hPB
        have HG5 := hid15 hgc
        clear hQP hPB hgc
        go_wp2_with fail
        go_roundg Q
        case measure => have := HQ.out; have := HP.out; have := HK.out; omega
        case rel =>
          have hlP : ln P ≤ ln B := ln_mono HP.out
          refine ⟨b1, b2, P, Q, rfl, rfl, rfl, Nat.le_of_lt HQ.out, by omega, by rw [HG5.out, HGC.out], ?_, hn6.back hNy.below⟩
          rcases hn5 with h5 | ⟨rfl, rfl⟩
          · exact h5.back hNy.below
          · exact hNy.later hn6.below
      · by_cases hb0 : ln B = 0
        · have hB0 : B = 0 := ln_eq_zero.1 hb0
          have HB0 := hid15 hB0
          clear hB0
          go_wp2_with fail
          go_ret
          have e : Nat.gcd X Y = A := by rw [← HGC.out, HB0.out, Nat.gcd_zero_right]
          rw [e]
          exact ⟨ax, rfl, hNx⟩
        · by_cases ha : 2 < ln A
          · have hBp : B ≠ 0 := fun h => hb0 (ln_eq_zero.2 h)
            go_wp2_with fail
            refine (euclidStep_any ax ay _ _ A _ B _ (Nat.le_refl _) hA9 (by omega) hNx.seg hNy.seg hBp).mono ?_
            rintro e w5 ⟨ar, rfl, hn5⟩
            have hlr : ln (A % B) ≤ ln B := ln_mono (Nat.le_of_lt (Nat.mod_lt _ (by omega)))
            have hy5 := hNy.later hn5.below
            have hr5 := hn5.back hNy.below
            obtain ⟨R, hR⟩ : ∃ R, R = A % B := ⟨_, rfl⟩
            rw [← hR] at hlr hr5 ⊢
            have HR := hid15 hR
            clear hR hn5
            by_cases hr0 : ln R = 0
            · have HR0 := hid15 (ln_eq_zero.1 hr0)
              go_wp2_with fail
              go_ret
              have e : Nat.gcd X Y = B := by rw [← HGC.out, Nat.gcd_comm, Nat.gcd_rec, ← HR.out, HR0.out, Nat.gcd_zero_left]
              rw [e]
              exact ⟨ay, rfl, hy5⟩
            · go_wp2_with fail
              refine (word_any _ _ _ B _ (by omega) hy5.seg).mono ?_
              rintro e w6 ⟨rfl, rfl⟩
              go_wp2_with fail
              refine (word_any _ _ _ R _ (by omega) hr5.seg).mono ?_
              rintro e w6 ⟨rfl, rfl⟩
              go_wp2_with fail
              obtain ⟨G, hG⟩ : ∃ G, G = Nat.gcd B R := ⟨_, rfl⟩
              have hGl : G < 18446744073709551616 := by rw [hG]; exact Nat.lt_of_le_of_lt (Nat.gcd_le_right _ (Nat.pos_of_ne_zero fun h => hr0 (ln_eq_zero.2 h))) (small2 (by omega))
              have hgw := gcdOfWords_any B R w5 (small2 (by omega)) (small2 (by omega))
              rw [← hG] at hgw
              have HG := hid15 hG
              clear hG
              refine hgw.mono ?_
              clear hgw
              rintro e w7 ⟨rfl, hd7⟩
              go_wp2_with fail
              refine (Of_any G _ hGl).mono ?_
              rintro e w8 ⟨a8, rfl, hn8⟩
              go_wp2
              go_ret
              have e : Nat.gcd X Y = G := by rw [← HGC.out, HG.out, HR.out, Nat.gcd_comm A B, Nat.gcd_rec B A, Nat.gcd_comm B]
              rw [e]
              exact ⟨a8, rfl, hn8.back (hy5.below.trans (hd7.below _))⟩
          · go_wp2_with fail
            refine (word_any _ _ _ A _ (by omega) hNx.seg).mono ?_
            rintro e w6 ⟨rfl, rfl⟩
            go_wp2_with fail
            refine (word_any _ _ _ B _ (by omega) hNy.seg).mono ?_
            rintro e w6 ⟨rfl, rfl⟩
            go_wp2_with fail
            obtain ⟨G, hG⟩ : ∃ G, G = Nat.gcd A B := ⟨_, rfl⟩
            have hGl : G < 18446744073709551616 := by rw [hG]; exact Nat.lt_of_le_of_lt (Nat.gcd_le_right _ (Nat.pos_of_ne_zero fun h => hb0 (ln_eq_zero.2 h))) (small2 (by omega))
            have hgw := gcdOfWords_any A B wr (small2 (by omega)) (small2 (by omega))
            rw [← hG] at hgw
            have HG := hid15 hG
            clear hG
            refine hgw.mono ?_
            clear hgw
            rintro e w7 ⟨rfl, hd7⟩
            go_wp2_with fail
            refine (Of_any G _ hGl).mono ?_
            rintro e w8 ⟨a8, rfl, hn8⟩
            go_wp2
            go_ret
            have e : Nat.gcd X Y = G := by rw [← HGC.out, HG.out]
            rw [e]
            exact ⟨a8, rfl, hn8.back (hNx.below.trans (hd7.below _))⟩
theorem Gcd_is (ao ao2 : Option Addr) (n cap X m cap2 Y G : Nat) (w : World) (hc : n ≤ cap) (hm : n ≤ 70368744177663) (hS : Seg w ao X n) (hc2 : m ≤ cap2) (hm2 : m ≤ 70368744177663) (hS2 : Seg w ao2 Y m) (h : Nat.gcd X Y = G) :
    Calls Tryz.prog 110 #[.slice ao n cap, .slice ao2 m cap2] w fun e w' => ∃ ag, e = .returned (.slice ag (ln G) (ln G)) ∧ New w w' ag G (ln G) := by
  have := Gcd_any ao ao2 n cap X m cap2 Y w hc hm hS hc2 hm2 hS2
  rwa [h] at this
theorem Seg.later {w1 w' : World} {a : Option Addr} {Z n : Nat} (h : Seg w1 a Z n) (hb : Below w1.heap.size w1 w') : Seg w' a Z n := h.below hb (Nat.le_refl _)
theorem bset {w w' : World} {c o : Nat} {u : Value} (h : Below w.heap.size w w') (hc : w.heap.size ≤ c) : Below w.heap.size w (w'.setCell ⟨c, o, none⟩ u) := h.setCell hc _
theorem results_ct {fn : Func} {p u : Tmp} {ty : TypeId} (h : fn.results = #[.cell p ty, .tmp u]) (tmps : Array Value) (P : Program) (w : World) :
    (results fn tmps).run P w = ((asAddr (tmps.getD p undef)).run P w).andThen fun a w1 => ((loadVar ty a).run P w1).andThen fun v w2 => .ok (.tuple #[v, tmps.getD u undef]) w2 := by
  simp only [results, h]
  simp [Sem.run_bind]
theorem kp3 {w W W' : World} {p0 p1 p2 : Addr} {v0 v1 v2 : Value} (hb : Below W.heap.size W W') (h : W.cell? p0 = some v0 ∧ W.cell? p1 = some v1 ∧ W.cell? p2 = some v2 ∧ Below w.heap.size w W) : W'.cell? p0 = some v0 ∧ W'.cell? p1 = some v1 ∧ W'.cell? p2 = some v2 ∧ Below w.heap.size w W' :=
  ⟨below_cell hb h.1, below_cell hb h.2.1, below_cell hb h.2.2.1, h.2.2.2.trans (hb.mono h.2.2.2.size)⟩
theorem kpT2_2 {w W : World} {b0 o0 b1 o1 c : Nat} {v0 v1 u0 u1 : Value} (h : W.cell? ⟨b0, o0, none⟩ = some v0 ∧ W.cell? ⟨b1, o1, none⟩ = some v1 ∧ Below w.heap.size w W) (hne0 : c ≠ b0) (hne1 : c ≠ b1) (hc : w.heap.size ≤ c) :
    ((W.setCell ⟨c, 0, none⟩ u0).setCell ⟨c, 1, none⟩ u1).cell? ⟨b0, o0, none⟩ = some v0 ∧ ((W.setCell ⟨c, 0, none⟩ u0).setCell ⟨c, 1, none⟩ u1).cell? ⟨b1, o1, none⟩ = some v1 ∧ Below w.heap.size w ((W.setCell ⟨c, 0, none⟩ u0).setCell ⟨c, 1, none⟩ u1) :=
  ⟨by rw [World.cell?_setCell_far _ _ _ _ (by exact hne0), World.cell?_setCell_far _ _ _ _ (by exact hne0)]; exact h.1, by rw [World.cell?_setCell_far _ _ _ _ (by exact hne1), World.cell?_setCell_far _ _ _ _ (by exact hne1)]; exact h.2.1, ((h.2.2.setCell hc _).setCell hc _)⟩
theorem kpT3_3 {w W : World} {b0 o0 b1 o1 b2 o2 c : Nat} {v0 v1 v2 u0 u1 u2 : Value} (h : W.cell? ⟨b0, o0, none⟩ = some v0 ∧ W.cell? ⟨b1, o1, none⟩ = some v1 ∧ W.cell? ⟨b2, o2, none⟩ = some v2 ∧ Below w.heap.size w W) (hne0 : c ≠ b0) (hne1 : c ≠ b1) (hne2 : c ≠ b2) (hc : w.heap.size ≤ c) :
    (((W.setCell ⟨c, 0, none⟩ u0).setCell ⟨c, 1, none⟩ u1).setCell ⟨c, 2, none⟩ u2).cell? ⟨b0, o0, none⟩ = some v0 ∧ (((W.setCell ⟨c, 0, none⟩ u0).setCell ⟨c, 1, none⟩ u1).setCell ⟨c, 2, none⟩ u2).cell? ⟨b1, o1, none⟩ = some v1 ∧ (((W.setCell ⟨c, 0, none⟩ u0).setCell ⟨c, 1, none⟩ u1).setCell ⟨c, 2, none⟩ u2).cell? ⟨b2, o2, none⟩ = some v2 ∧ Below w.heap.size w (((W.setCell ⟨c, 0, none⟩ u0).setCell ⟨c, 1, none⟩ u1).setCell ⟨c, 2, none⟩ u2) :=
  ⟨by rw [World.cell?_setCell_far _ _ _ _ (by exact hne0), World.cell?_setCell_far _ _ _ _ (by exact hne0), World.cell?_setCell_far _ _ _ _ (by exact hne0)]; exact h.1, by rw [World.cell?_setCell_far _ _ _ _ (by exact hne1), World.cell?_setCell_far _ _ _ _ (by exact hne1), World.cell?_setCell_far _ _ _ _ (by exact hne1)]; exact h.2.1, by rw [World.cell?_setCell_far _ _ _ _ (by exact hne2), World.cell?_setCell_far _ _ _ _ (by exact hne2), World.cell?_setCell_far _ _ _ _ (by exact hne2)]; exact h.2.2.1, (((h.2.2.2.setCell hc _).setCell hc _).setCell hc _)⟩
theorem kpT4_3 {w W : World} {b0 o0 b1 o1 b2 o2 b3 o3 c : Nat} {v0 v1 v2 v3 u0 u1 u2 : Value} (h : W.cell? ⟨b0, o0, none⟩ = some v0 ∧ W.cell? ⟨b1, o1, none⟩ = some v1 ∧ W.cell? ⟨b2, o2, none⟩ = some v2 ∧ W.cell? ⟨b3, o3, none⟩ = some v3 ∧ Below w.heap.size w W) (hne0 : c ≠ b0) (hne1 : c ≠ b1) (hne2 : c ≠ b2) (hne3 : c ≠ b3) (hc : w.heap.size ≤ c) :
    (((W.setCell ⟨c, 0, none⟩ u0).setCell ⟨c, 1, none⟩ u1).setCell ⟨c, 2, none⟩ u2).cell? ⟨b0, o0, none⟩ = some v0 ∧ (((W.setCell ⟨c, 0, none⟩ u0).setCell ⟨c, 1, none⟩ u1).setCell ⟨c, 2, none⟩ u2).cell? ⟨b1, o1, none⟩ = some v1 ∧ (((W.setCell ⟨c, 0, none⟩ u0).setCell ⟨c, 1, none⟩ u1).setCell ⟨c, 2, none⟩ u2).cell? ⟨b2, o2, none⟩ = some v2 ∧ (((W.setCell ⟨c, 0, none⟩ u0).setCell ⟨c, 1, none⟩ u1).setCell ⟨c, 2, none⟩ u2).cell? ⟨b3, o3, none⟩ = some v3 ∧ Below w.heap.size w (((W.setCell ⟨c, 0, none⟩ u0).setCell ⟨c, 1, none⟩ u1).setCell ⟨c, 2, none⟩ u2) :=
  ⟨by rw [World.cell?_setCell_far _ _ _ _ (by exact hne0), World.cell?_setCell_far _ _ _ _ (by exact hne0), World.cell?_setCell_far _ _ _ _ (by exact hne0)]; exact h.1, by rw [World.cell?_setCell_far _ _ _ _ (by exact hne1), World.cell?_setCell_far _ _ _ _ (by exact hne1), World.cell?_setCell_far _ _ _ _ (by exact hne1)]; exact h.2.1, by rw [World.cell?_setCell_far _ _ _ _ (by exact hne2), World.cell?_setCell_far _ _ _ _ (by exact hne2), World.cell?_setCell_far _ _ _ _ (by exact hne2)]; exact h.2.2.1, by rw [World.cell?_setCell_far _ _ _ _ (by exact hne3), World.cell?_setCell_far _ _ _ _ (by exact hne3), World.cell?_setCell_far _ _ _ _ (by exact hne3)]; exact h.2.2.2.1, (((h.2.2.2.2.setCell hc _).setCell hc _).setCell hc _)⟩
theorem kpT6_3 {w W : World} {b0 o0 b1 o1 b2 o2 b3 o3 b4 o4 b5 o5 c : Nat} {v0 v1 v2 v3 v4 v5 u0 u1 u2 : Value} (h : W.cell? ⟨b0, o0, none⟩ = some v0 ∧ W.cell? ⟨b1, o1, none⟩ = some v1 ∧ W.cell? ⟨b2, o2, none⟩ = some v2 ∧ W.cell? ⟨b3, o3, none⟩ = some v3 ∧ W.cell? ⟨b4, o4, none⟩ = some v4 ∧ W.cell? ⟨b5, o5, none⟩ = some v5 ∧ Below w.heap.size w W) (hne0 : c ≠ b0) (hne1 : c ≠ b1) (hne2 : c ≠ b2) (hne3 : c ≠ b3) (hne4 : c ≠ b4) (hne5 : c ≠ b5) (hc : w.heap.size ≤ c) :
    (((W.setCell ⟨c, 0, none⟩ u0).setCell ⟨c, 1, none⟩ u1).setCell ⟨c, 2, none⟩ u2).cell? ⟨b0, o0, none⟩ = some v0 ∧ (((W.setCell ⟨c, 0, none⟩ u0).setCell ⟨c, 1, none⟩ u1).setCell ⟨c, 2, none⟩ u2).cell? ⟨b1, o1, none⟩ = some v1 ∧ (((W.setCell ⟨c, 0, none⟩ u0).setCell ⟨c, 1, none⟩ u1).setCell ⟨c, 2, none⟩ u2).cell? ⟨b2, o2, none⟩ = some v2 ∧ (((W.setCell ⟨c, 0, none⟩ u0).setCell ⟨c, 1, none⟩ u1).setCell ⟨c, 2, none⟩ u2).cell? ⟨b3, o3, none⟩ = some v3 ∧ (((W.setCell ⟨c, 0, none⟩ u0).setCell ⟨c, 1, none⟩ u1).setCell ⟨c, 2, none⟩ u2).cell? ⟨b4, o4, none⟩ = some v4 ∧ (((W.setCell ⟨c, 0, none⟩ u0).setCell ⟨c, 1, none⟩ u1).setCell ⟨c, 2, none⟩ u2).cell? ⟨b5, o5, none⟩ = some v5 ∧ Below w.heap.size w (((W.setCell ⟨c, 0, none⟩ u0).setCell ⟨c, 1, none⟩ u1).setCell ⟨c, 2, none⟩ u2) :=
  ⟨by rw [World.cell?_setCell_far _ _ _ _ (by exact hne0), World.cell?_setCell_far _ _ _ _ (by exact hne0), World.cell?_setCell_far _ _ _ _ (by exact hne0)]; exact h.1, by rw [World.cell?_setCell_far _ _ _ _ (by exact hne1), World.cell?_setCell_far _ _ _ _ (by exact hne1), World.cell?_setCell_far _ _ _ _ (by exact hne1)]; exact h.2.1, by rw [World.cell?_setCell_far _ _ _ _ (by exact hne2), World.cell?_setCell_far _ _ _ _ (by exact hne2), World.cell?_setCell_far _ _ _ _ (by exact hne2)]; exact h.2.2.1, by rw [World.cell?_setCell_far _ _ _ _ (by exact hne3), World.cell?_setCell_far _ _ _ _ (by exact hne3), World.cell?_setCell_far _ _ _ _ (by exact hne3)]; exact h.2.2.2.1, by rw [World.cell?_setCell_far _ _ _ _ (by exact hne4), World.cell?_setCell_far _ _ _ _ (by exact hne4), World.cell?_setCell_far _ _ _ _ (by exact hne4)]; exact h.2.2.2.2.1, by rw [World.cell?_setCell_far _ _ _ _ (by exact hne5), World.cell?_setCell_far _ _ _ _ (by exact hne5), World.cell?_setCell_far _ _ _ _ (by exact hne5)]; exact h.2.2.2.2.2.1, (((h.2.2.2.2.2.2.setCell hc _).setCell hc _).setCell hc _)⟩
theorem kpT6_2 {w W : World} {b0 o0 b1 o1 b2 o2 b3 o3 b4 o4 b5 o5 c : Nat} {v0 v1 v2 v3 v4 v5 u0 u1 : Value} (h : W.cell? ⟨b0, o0, none⟩ = some v0 ∧ W.cell? ⟨b1, o1, none⟩ = some v1 ∧ W.cell? ⟨b2, o2, none⟩ = some v2 ∧ W.cell? ⟨b3, o3, none⟩ = some v3 ∧ W.cell? ⟨b4, o4, none⟩ = some v4 ∧ W.cell? ⟨b5, o5, none⟩ = some v5 ∧ Below w.heap.size w W) (hne0 : c ≠ b0) (hne1 : c ≠ b1) (hne2 : c ≠ b2) (hne3 : c ≠ b3) (hne4 : c ≠ b4) (hne5 : c ≠ b5) (hc : w.heap.size ≤ c) :
    ((W.setCell ⟨c, 0, none⟩ u0).setCell ⟨c, 1, none⟩ u1).cell? ⟨b0, o0, none⟩ = some v0 ∧ ((W.setCell ⟨c, 0, none⟩ u0).setCell ⟨c, 1, none⟩ u1).cell? ⟨b1, o1, none⟩ = some v1 ∧ ((W.setCell ⟨c, 0, none⟩ u0).setCell ⟨c, 1, none⟩ u1).cell? ⟨b2, o2, none⟩ = some v2 ∧ ((W.setCell ⟨c, 0, none⟩ u0).setCell ⟨c, 1, none⟩ u1).cell? ⟨b3, o3, none⟩ = some v3 ∧ ((W.setCell ⟨c, 0, none⟩ u0).setCell ⟨c, 1, none⟩ u1).cell? ⟨b4, o4, none⟩ = some v4 ∧ ((W.setCell ⟨c, 0, none⟩ u0).setCell ⟨c, 1, none⟩ u1).cell? ⟨b5, o5, none⟩ = some v5 ∧ Below w.heap.size w ((W.setCell ⟨c, 0, none⟩ u0).setCell ⟨c, 1, none⟩ u1) :=
  ⟨by rw [World.cell?_setCell_far _ _ _ _ (by exact hne0), World.cell?_setCell_far _ _ _ _ (by exact hne0)]; exact h.1, by rw [World.cell?_setCell_far _ _ _ _ (by exact hne1), World.cell?_setCell_far _ _ _ _ (by exact hne1)]; exact h.2.1, by rw [World.cell?_setCell_far _ _ _ _ (by exact hne2), World.cell?_setCell_far _ _ _ _ (by exact hne2)]; exact h.2.2.1, by rw [World.cell?_setCell_far _ _ _ _ (by exact hne3), World.cell?_setCell_far _ _ _ _ (by exact hne3)]; exact h.2.2.2.1, by rw [World.cell?_setCell_far _ _ _ _ (by exact hne4), World.cell?_setCell_far _ _ _ _ (by exact hne4)]; exact h.2.2.2.2.1, by rw [World.cell?_setCell_far _ _ _ _ (by exact hne5), World.cell?_setCell_far _ _ _ _ (by exact hne5)]; exact h.2.2.2.2.2.1, ((h.2.2.2.2.2.2.setCell hc _).setCell hc _)⟩
theorem al2 {X w1 : World} {u0 u1 : Value} {t : TypeId} (b : Below (X.alloc (.cells #[u0, u1] t)).heap.size (X.alloc (.cells #[u0, u1] t)) w1) : w1.cell? ⟨X.heap.size, 0, none⟩ = some u0 ∧ w1.cell? ⟨X.heap.size, 1, none⟩ = some u1 ∧ Row w1 X.heap.size :=
  ⟨below_cell b (by go_simp), below_cell b (by go_simp), below_row b (row_new X _ t)⟩
set_option maxHeartbeats 1000000 in
theorem wGcd_is (s : Bool) (ao : Option Addr) (n cap X : Nat) (t : Bool) (ao2 : Option Addr) (m cap2 Y G : Nat) (w : World) (hc : n ≤ cap) (hm : n ≤ 70368744177663) (hS : Seg w ao X n) (hc2 : m ≤ cap2) (hm2 : m ≤ 70368744177663) (hS2 : Seg w ao2 Y m) (h : Nat.gcd X Y = G) :
    Calls Tryz.prog 96 #[.agg #[.bool s, .slice ao n cap], .agg #[.bool t, .slice ao2 m cap2]] w fun e w' => ∃ ag, e = .returned (.slice ag (ln G) (ln G)) ∧ New w w' ag G (ln G) := by
  have HG := hide' (fun w' k1 k2 => Gcd_is ao ao2 n cap X m cap2 Y G w' hc hm k1 hc2 hm2 k2 h)
  clear h
  go_enter Tryz.func96, Tryz.ntmps96
  go_wp2_with fail
  obtain ⟨W, hW⟩ : ∃ W, ((w.alloc (.cells #[.bool s, .slice ao n cap] 25)).alloc (.cells #[.bool t, .slice ao2 m cap2] 25)) = W := ⟨_, rfl⟩
  have q00 : W.cell? ⟨w.heap.size, 0, none⟩ = some (.bool s) := by subst hW; go_simp
  have q01 : W.cell? ⟨w.heap.size, 1, none⟩ = some (.slice ao n cap) := by subst hW; go_simp
  have q10 : W.cell? ⟨w.heap.size + 1, 0, none⟩ = some (.bool t) := by subst hW; go_simp
  have q11 : W.cell? ⟨w.heap.size + 1, 1, none⟩ = some (.slice ao2 m cap2) := by subst hW; go_simp
  have hB : Below w.heap.size w W := by subst hW; exact (((Below.refl _ _).alloc (by (try simp only [World.size_alloc]); omega) _).alloc (by (try simp only [World.size_alloc]); omega) _)
  have hz : W.heap.size = w.heap.size + 1 + 1 := by subst hW; simp only [World.size_alloc]
  rw [hW]
  clear hW
  have hBW : Below W.heap.size W W := Below.refl _ _
  refine (HG.out _ (sb hS hB hBW) (sb hS2 hB hBW)).mono ?_
  rintro e w1 ⟨a1, rfl, hn⟩
  have b1 := hn.below
  replace hn := hn.back hBW
  replace hBW := hBW.trans (b1.mono hBW.size)
  replace q00 := below_cell b1 q00
  replace q01 := below_cell b1 q01
  replace q10 := below_cell b1 q10
  replace q11 := below_cell b1 q11
  go_wp2
  go_ret
  exact ⟨a1, rfl, hn.back hB⟩
set_option maxHeartbeats 1000000 in
theorem read_nz (s : Bool) (ao : Option Addr) (n cap : Nat) (ao2 : Option Addr) (m cap2 Y : Nat) (w : World) (hc2 : m ≤ cap2) (hm2 : m ≤ 70368744177664) (hS2 : Seg w ao2 Y m) (hY : Y ≠ 0) :
    Calls Tryz.prog 22 #[.agg #[.bool s, .slice ao n cap, .slice ao2 m cap2]] w fun e w' => e = .returned (.agg #[.bool s, .slice ao n cap, .bool false, .slice ao2 m cap2]) ∧ Below w.heap.size w w' := by
  obtain ⟨Z, hZ⟩ : ∃ Z, sg false Y = Z := ⟨_, rfl⟩
  have hx : (sgn Z == 0) = false := by rw [← hZ, sgn_sg hY]; rfl
  have HZ := hide' hZ
  clear hZ
  go_enter Tryz.func22, Tryz.ntmps22
  go_wp2_with fail
  obtain ⟨W, hW⟩ : ∃ W, (((w.alloc (.cells #[.bool s, .slice ao n cap, .slice ao2 m cap2] 27)).alloc (.cells #[.bool false, .slice none 0 0, .bool false, .slice none 0 0] 43)).alloc (.cells #[.bool false, .slice ao2 m cap2] 25)) = W := ⟨_, rfl⟩
  have q00 : W.cell? ⟨w.heap.size, 0, none⟩ = some (.bool s) := by subst hW; go_simp
  have q01 : W.cell? ⟨w.heap.size, 1, none⟩ = some (.slice ao n cap) := by subst hW; go_simp
  have q02 : W.cell? ⟨w.heap.size, 2, none⟩ = some (.slice ao2 m cap2) := by subst hW; go_simp
  have r00 : W.cell? ⟨w.heap.size + 1, 0, none⟩ = some (.bool false) := by subst hW; go_simp
  have r01 : W.cell? ⟨w.heap.size + 1, 1, none⟩ = some (.slice none 0 0) := by subst hW; go_simp
  have r02 : W.cell? ⟨w.heap.size + 1, 2, none⟩ = some (.bool false) := by subst hW; go_simp
  have r03 : W.cell? ⟨w.heap.size + 1, 3, none⟩ = some (.slice none 0 0) := by subst hW; go_simp
  have r10 : W.cell? ⟨w.heap.size + 1 + 1, 0, none⟩ = some (.bool false) := by subst hW; go_simp
  have r11 : W.cell? ⟨w.heap.size + 1 + 1, 1, none⟩ = some (.slice ao2 m cap2) := by subst hW; go_simp
  have hB : Below w.heap.size w W := by subst hW; exact ((((Below.refl _ _).alloc (by (try simp only [World.size_alloc]); omega) _).alloc (by (try simp only [World.size_alloc]); omega) _).alloc (by (try simp only [World.size_alloc]); omega) _)
  have hR0 : Row W (w.heap.size + 1) := by
    have := row_new ((w.alloc (.cells #[.bool s, .slice ao n cap, .slice ao2 m cap2] 27))) #[.bool false, .slice none 0 0, .bool false, .slice none 0 0] 43
    try simp only [World.size_alloc] at this
    subst hW; exact (this.alloc _)
  have hR1 : Row W (w.heap.size + 1 + 1) := by
    have := row_new (((w.alloc (.cells #[.bool s, .slice ao n cap, .slice ao2 m cap2] 27)).alloc (.cells #[.bool false, .slice none 0 0, .bool false, .slice none 0 0] 43))) #[.bool false, .slice ao2 m cap2] 25
    try simp only [World.size_alloc] at this
    subst hW; exact this
  have hz : W.heap.size = w.heap.size + 1 + 1 + 1 := by subst hW; simp only [World.size_alloc]
  rw [hW]
  clear hW
  have hBW : Below W.heap.size W W := Below.refl _ _
  refine (wSign_is false ao2 m cap2 Y Z _ hc2 hm2 (sb hS2 hB hBW) HZ.out).mono ?_
  rintro e w1 ⟨rfl, b1⟩
  replace hBW := hBW.trans (b1.mono hBW.size)
  replace q00 := below_cell b1 q00
  replace q01 := below_cell b1 q01
  replace q02 := below_cell b1 q02
  replace r00 := below_cell b1 r00
  replace r01 := below_cell b1 r01
  replace r02 := below_cell b1 r02
  replace r03 := below_cell b1 r03
  replace r10 := below_cell b1 r10
  replace r11 := below_cell b1 r11
  replace hR0 := below_row b1 hR0
  replace hR1 := below_row b1 hR1
  have fz0 := fun o => hR0.frozen o
  have fz1 := fun o => hR1.frozen o
  go_wp2
  all_goals refine bodyPost_ret (v := .agg #[.bool s, .slice ao n cap, .bool false, .slice ao2 m cap2]) (by rw [results_cell rfl]; go_simp) rfl ?_
  all_goals exact ⟨rfl, ((bset (bset (bset (bset (hB.trans (hBW.mono hB.size)) (by omega)) (by omega)) (by omega)) (by omega)))⟩
set_option maxHeartbeats 1000000 in
set_option maxRecDepth 30000 in
theorem read_z (s : Bool) (ao : Option Addr) (n cap : Nat) (ao2 : Option Addr) (m cap2 : Nat) (w : World) (hc2 : m ≤ cap2) (hm2 : m ≤ 70368744177664) (hS2 : Seg w ao2 0 m) :
    Calls Tryz.prog 22 #[.agg #[.bool s, .slice ao n cap, .slice ao2 m cap2]] w fun e w' => ∃ p q, e = .returned (.agg #[.bool (ng 0), .slice p (ln (am 0)) (ln (am 0)), .bool (ng 1), .slice q (ln (am 1)) (ln (am 1))]) ∧ New w w' p (am 0) (ln (am 0)) ∧ New w w' q (am 1) (ln (am 1)) := by
  obtain ⟨Z0, hZ0⟩ : ∃ Z0 : Int, 0 = Z0 := ⟨_, rfl⟩
  obtain ⟨Z1, hZ1⟩ : ∃ Z1 : Int, 1 = Z1 := ⟨_, rfl⟩
  have H0 : ∀ w', Calls Tryz.prog 62 #[.int .i64 0] w' fun e w'' => ∃ ao', e = .returned (.agg #[.bool (ng Z0), .slice ao' (ln (am Z0)) (ln (am Z0))]) ∧ New w' w'' ao' (am Z0) (ln (am Z0)) := fun w' => hZ0 ▸ wOf_is 0 w' (by omega) (by omega)
  have H1 : ∀ w', Calls Tryz.prog 62 #[.int .i64 1] w' fun e w'' => ∃ ao', e = .returned (.agg #[.bool (ng Z1), .slice ao' (ln (am Z1)) (ln (am Z1))]) ∧ New w' w'' ao' (am Z1) (ln (am Z1)) := fun w' => hZ1 ▸ wOf_is 1 w' (by omega) (by omega)
  rw [show am 0 = am Z0 from congrArg am hZ0, show am 1 = am Z1 from congrArg am hZ1, show ng 0 = ng Z0 from congrArg ng hZ0, show ng 1 = ng Z1 from congrArg ng hZ1]
  have G0 := hide' H0
  have G1 := hide' H1
  clear H0 H1 hZ0 hZ1
  go_enter Tryz.func22, Tryz.ntmps22
  go_wp2_with fail
  obtain ⟨W, hW⟩ : ∃ W, (((w.alloc (.cells #[.bool s, .slice ao n cap, .slice ao2 m cap2] 27)).alloc (.cells #[.bool false, .slice none 0 0, .bool false, .slice none 0 0] 43)).alloc (.cells #[.bool false, .slice ao2 m cap2] 25)) = W := ⟨_, rfl⟩
  have q00 : W.cell? ⟨w.heap.size, 0, none⟩ = some (.bool s) := by subst hW; go_simp
  have q01 : W.cell? ⟨w.heap.size, 1, none⟩ = some (.slice ao n cap) := by subst hW; go_simp
  have q02 : W.cell? ⟨w.heap.size, 2, none⟩ = some (.slice ao2 m cap2) := by subst hW; go_simp
  have r00 : W.cell? ⟨w.heap.size + 1, 0, none⟩ = some (.bool false) := by subst hW; go_simp
  have r01 : W.cell? ⟨w.heap.size + 1, 1, none⟩ = some (.slice none 0 0) := by subst hW; go_simp
  have r02 : W.cell? ⟨w.heap.size + 1, 2, none⟩ = some (.bool false) := by subst hW; go_simp
  have r03 : W.cell? ⟨w.heap.size + 1, 3, none⟩ = some (.slice none 0 0) := by subst hW; go_simp
  have r10 : W.cell? ⟨w.heap.size + 1 + 1, 0, none⟩ = some (.bool false) := by subst hW; go_simp
  have r11 : W.cell? ⟨w.heap.size + 1 + 1, 1, none⟩ = some (.slice ao2 m cap2) := by subst hW; go_simp
  have hB : Below w.heap.size w W := by subst hW; exact ((((Below.refl _ _).alloc (by (try simp only [World.size_alloc]); omega) _).alloc (by (try simp only [World.size_alloc]); omega) _).alloc (by (try simp only [World.size_alloc]); omega) _)
  have hR0 : Row W (w.heap.size + 1) := by
    have := row_new ((w.alloc (.cells #[.bool s, .slice ao n cap, .slice ao2 m cap2] 27))) #[.bool false, .slice none 0 0, .bool false, .slice none 0 0] 43
    try simp only [World.size_alloc] at this
    subst hW; exact (this.alloc _)
  have hR1 : Row W (w.heap.size + 1 + 1) := by
    have := row_new (((w.alloc (.cells #[.bool s, .slice ao n cap, .slice ao2 m cap2] 27)).alloc (.cells #[.bool false, .slice none 0 0, .bool false, .slice none 0 0] 43))) #[.bool false, .slice ao2 m cap2] 25
    try simp only [World.size_alloc] at this
    subst hW; exact this
  have hz : W.heap.size = w.heap.size + 1 + 1 + 1 := by subst hW; simp only [World.size_alloc]
  rw [hW]
  clear hW
  have hBW : Below W.heap.size W W := Below.refl _ _
  refine (wSign_is false ao2 m cap2 0 0 _ hc2 hm2 (sb hS2 hB hBW) rfl).mono ?_
  rintro e w1 ⟨rfl, b1⟩
  replace hBW := hBW.trans (b1.mono hBW.size)
  replace q00 := below_cell b1 q00
  replace q01 := below_cell b1 q01
  replace q02 := below_cell b1 q02
  replace r00 := below_cell b1 r00
  replace r01 := below_cell b1 r01
  replace r02 := below_cell b1 r02
  replace r03 := below_cell b1 r03
  replace r10 := below_cell b1 r10
  replace r11 := below_cell b1 r11
  replace hR0 := below_row b1 hR0
  replace hR1 := below_row b1 hR1
  rw [sgn_zero]
  go_wp2_with fail
  refine (G0.out _).mono ?_
  rintro e w2 ⟨a2, rfl, hn⟩
  have b2 := hn.below
  replace hn := hn.back hBW
  replace hBW := hBW.trans (b2.mono hBW.size)
  replace q00 := below_cell b2 q00
  replace q01 := below_cell b2 q01
  replace q02 := below_cell b2 q02
  replace r00 := below_cell b2 r00
  replace r01 := below_cell b2 r01
  replace r02 := below_cell b2 r02
  replace r03 := below_cell b2 r03
  replace r10 := below_cell b2 r10
  replace r11 := below_cell b2 r11
  replace hR0 := below_row b2 hR0
  replace hR1 := below_row b2 hR1
  go_wp2_with fail
  refine (G1.out _).mono ?_
  rintro e w3 ⟨a3, rfl, hk⟩
  have b3 := hk.below
  replace hk := hk.back hBW
  replace hBW := hBW.trans (b3.mono hBW.size)
  replace q00 := below_cell b3 q00
  replace q01 := below_cell b3 q01
  replace q02 := below_cell b3 q02
  replace r00 := below_cell b3 r00
  replace r01 := below_cell b3 r01
  replace r02 := below_cell b3 r02
  replace r03 := below_cell b3 r03
  replace r10 := below_cell b3 r10
  replace r11 := below_cell b3 r11
  replace hR0 := below_row b3 hR0
  replace hR1 := below_row b3 hR1
  replace hn := hn.later b3
  have fz0 := fun o => hR0.frozen o
  have fz1 := fun o => hR1.frozen o
  go_wp2
  all_goals refine bodyPost_ret (v := .agg #[.bool (ng Z0), .slice a2 (ln (am Z0)) (ln (am Z0)), .bool (ng Z1), .slice a3 (ln (am Z1)) (ln (am Z1))]) (by rw [results_cell rfl]; go_simp) rfl ?_
  all_goals exact ⟨a2, a3, rfl, hn.mid hB ((((((Mid.refl _ _ _).set _ _ (by omega) (by omega) _).set _ _ (by omega) (by omega) _).set _ _ (by omega) (by omega) _).set _ _ (by omega) (by omega) _)), hk.mid hB ((((((Mid.refl _ _ _).set _ _ (by omega) (by omega) _).set _ _ (by omega) (by omega) _).set _ _ (by omega) (by omega) _).set _ _ (by omega) (by omega) _))⟩
end Go.Proofs.YtejlnodillnoaaaGreatDoor
