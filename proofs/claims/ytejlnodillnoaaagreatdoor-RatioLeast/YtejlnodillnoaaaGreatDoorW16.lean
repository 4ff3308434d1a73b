/-
  gcdSteps, gcdStep, Gcd.
-/
import Derived.Test.YtejlnodillnoaaaGreatDoorW15
import Derived.Test.YtejlnodillnoaaaGreatDoorRegZ
namespace Go.Proofs.YtejlnodillnoaaaGreatDoor
open Go.RowKit
set_option linter.unusedVariables false
/-- the two structs of gcdSteps in memory: s in the block b, ahead in the block behind it -/
structure Stp (w0 w : World) (b um vm u0 v0 u1 v1 : Nat) (ev : Bool) : Prop where
  c0 : w.cell? ⟨b, 0, none⟩ = some (.int .u64 um)
  c1 : w.cell? ⟨b, 1, none⟩ = some (.int .u64 vm)
  c2 : w.cell? ⟨b, 2, none⟩ = some (.int .u64 u0)
  c3 : w.cell? ⟨b, 3, none⟩ = some (.int .u64 v0)
  c4 : w.cell? ⟨b, 4, none⟩ = some (.bool ev)
  d0 : w.cell? ⟨b + 1, 0, none⟩ = some (.int .u64 u1)
  d1 : w.cell? ⟨b + 1, 1, none⟩ = some (.int .u64 v1)
  rb : Row w b
  rd : Row w (b + 1)
  be : Below w0.heap.size w0 w

/-- the room of gcdSteps' result, untouched -/
structure Res (w : World) (b : Nat) : Prop where
  r0 : w.cell? ⟨b, 0, none⟩ = some (.int .u64 0)
  r1 : w.cell? ⟨b, 1, none⟩ = some (.int .u64 0)
  r2 : w.cell? ⟨b, 2, none⟩ = some (.int .u64 0)
  r3 : w.cell? ⟨b, 3, none⟩ = some (.int .u64 0)
  r4 : w.cell? ⟨b, 4, none⟩ = some (.bool false)
  rr : Row w b
theorem Res.drewN {w : World} {b n : Nat} (h : Res w b) : Res (w.drewN n) b := ⟨h.r0, h.r1, h.r2, h.r3, h.r4, h.rr⟩
theorem Res.setCell {w : World} {b b' o : Nat} (h : Res w b) (u : Value) (hne : b < b') : Res (w.setCell ⟨b', o, none⟩ u) b := by
  have k : ∀ o', (w.setCell ⟨b', o, none⟩ u).cell? ⟨b, o', none⟩ = w.cell? ⟨b, o', none⟩ := fun o' => World.cell?_setCell_far _ _ _ _ (by show b' ≠ b; omega)
  exact ⟨by rw [k]; exact h.r0, by rw [k]; exact h.r1, by rw [k]; exact h.r2, by rw [k]; exact h.r3, by rw [k]; exact h.r4, h.rr.setCell _ _⟩

theorem Stp.step {w0 w : World} {b n um vm u0 v0 u1 v1 U V : Nat} {A B : Int} {ev : Bool} (h : Stp w0 w b um vm u0 v0 u1 v1 ev) (hb : w0.heap.size ≤ b) (hA : A = U) (hB : B = V) :
    Stp w0 ((((((((w.drewN n).setCell ⟨b, 0, none⟩ (.int .u64 u0)).setCell ⟨b, 1, none⟩ (.int .u64 v0)).setCell ⟨b, 2, none⟩ (.int .u64 u1)).setCell ⟨b, 3, none⟩ (.int .u64 v1)).setCell ⟨b + 1, 0, none⟩ (.int .u64 A)).setCell ⟨b + 1, 1, none⟩ (.int .u64 B)).setCell ⟨b, 4, none⟩ (.bool !ev)) b u0 v0 u1 v1 U V (!ev) := by
  obtain ⟨c0, c1, c2, c3, c4, d0, d1, rb, rd, be⟩ := h
  subst hA hB
  have be' := below_drewN (q := n) be
  refine ⟨by go_simp, by go_simp, by go_simp, by go_simp, by go_simp, by go_simp, by go_simp, ?_, ?_, ?_⟩
  · exact ((((((rb.drewN.setCell _ _).setCell _ _).setCell _ _).setCell _ _).setCell _ _).setCell _ _).setCell _ _
  · exact ((((((rd.drewN.setCell _ _).setCell _ _).setCell _ _).setCell _ _).setCell _ _).setCell _ _).setCell _ _
  · exact ((((((be'.setCell (by exact hb) _).setCell (by exact hb) _).setCell (by exact hb) _).setCell (by exact hb) _).setCell (by exact Nat.le_succ_of_le hb) _).setCell (by exact Nat.le_succ_of_le hb) _).setCell (by exact hb) _

set_option maxHeartbeats 4000000 in
theorem gcdSteps_any (X Y H xh yh xl yl : Nat) (w : World) (hX : X = xh * H + xl) (hY : Y = yh * H + yl) (hxl : xl < H) (hyl : yl < H) (hxh : xh < 18446744073709551616) (hle : yh ≤ xh) :
    Calls Tryz.prog 138 #[.int .u64 xh, .int .u64 yh] w fun r w' => ∃ (um vm u0 v0 : Nat) (ev : Bool), r = .returned (.agg #[.int .u64 um, .int .u64 vm, .int .u64 u0, .int .u64 v0, .bool ev]) ∧ Told X Y um vm u0 v0 ev ∧ Below w.heap.size w w' := by
  have hyh : yh < 18446744073709551616 := by omega
  have HS : Hid (∀ x y u0 v0 u1 v1 ev, Leh X Y xh yh x y u0 v0 u1 v1 ev → v1 ≤ y → v0 + v1 + y ≤ x → Leh X Y xh yh y (x % y) u1 v1 (u0 + x / y * u1) (v0 + x / y * v1) (!ev) ∧ Told X Y u0 v0 u1 v1 (!ev)) := fun _ _ _ _ _ _ _ L c1 c2 => leh_step hX hY hxl hyl hxh hle L c1 c2
  have HB : Hid (∀ x y u0 v0 u1 v1 ev, Leh X Y xh yh x y u0 v0 u1 v1 ev → v1 ≤ y → _) := fun _ _ _ _ _ _ _ L c1 => leh_bounds L hxh hle c1
  have HI := hid15 (leh_start (X := X) (Y := Y) hle)
  clear hX hY hxl hyl hle
  go_enter Tryz.func138, Tryz.ntmps138
  go_wp2
  go_loopw [0, 1] (fun vx vy wr => ∃ (x y um vm u0 v0 u1 v1 : Nat) (ev : Bool), vx = .int .u64 x ∧ vy = .int .u64 y ∧ x < 18446744073709551616 ∧ y < 18446744073709551616 ∧ v1 < 18446744073709551616 ∧ Leh X Y xh yh x y u0 v0 u1 v1 ev ∧ Told X Y um vm u0 v0 ev ∧ Stp w wr (w.heap.size + 1) um vm u0 v0 u1 v1 ev ∧ Res wr w.heap.size) (fun _ vy _ => (intOf vy).toNat)
  case atStart =>
    refine ⟨xh, yh, 0, 0, 1, 0, 0, 1, false, rfl, rfl, hxh, hyh, by omega, HI.out, Or.inl rfl, ?_, ?_⟩
    · refine ⟨by go_simp, by go_simp, by go_simp, by go_simp, by go_simp, by go_simp, by go_simp, ?_, ?_, ?_⟩
      · have := row_new (w.alloc (.cells #[.int .u64 0, .int .u64 0, .int .u64 0, .int .u64 0, .bool false] 135)) #[.int .u64 0, .int .u64 0, .int .u64 1, .int .u64 0, .bool false] 135
        rw [size_alloc] at this
        exact this.alloc _
      · have := row_new ((w.alloc (.cells #[.int .u64 0, .int .u64 0, .int .u64 0, .int .u64 0, .bool false] 135)).alloc (.cells #[.int .u64 0, .int .u64 0, .int .u64 1, .int .u64 0, .bool false] 135)) #[.int .u64 0, .int .u64 1] 133
        rw [size_alloc, size_alloc] at this
        exact this
      · exact (((Below.refl _ _).alloc (Nat.le_refl _) _).alloc (by rw [size_alloc]; omega) _).alloc (by rw [size_alloc, size_alloc]; omega) _
    · exact ⟨by go_simp, by go_simp, by go_simp, by go_simp, by go_simp, ((row_new _ _ _).alloc _).alloc _⟩
  case round =>
    obtain ⟨x, y, um, vm, u0, v0, u1, v1, ev, rfl, rfl, hx, hy, hv1, hL, hT, hS, hR⟩ := hrel
    have HL := hid15 hL
    have HT := hid15 hT
    have hyx := hL.le
    clear hL hT
    have HP := hid15 hS
    have HRs := hid15 hR
    obtain ⟨c0, c1, c2, c3, c4, d0, d1, rb, rd, be⟩ := hS
    obtain ⟨r0, r1, r2, r3, r4, rr0⟩ := hR
    have hfz3 := fun o => rr0.frozen o
    have hfz := fun o => rb.frozen o
    have hfz2 := fun o => rd.frozen o
    by_cases k1 : v1 ≤ y
    · obtain ⟨b1, b2, b3, b4, b5, b6⟩ := HB.out _ _ _ _ _ _ _ HL.out k1
      by_cases k2 : v0 + v1 + y ≤ x
      · have hyp : 1 ≤ y := by have := HL.out.v1p; omega
        have hyz : ((y : Int) == 0) = false := by rw [beq_eq_false_iff_ne]; omega
        have hyz2 : ¬ y = 0 := by omega
        obtain ⟨qq, hqq⟩ : ∃ q, q = x / y := ⟨_, rfl⟩
        obtain ⟨rr, hrr⟩ : ∃ r, r = x % y := ⟨_, rfl⟩
        have hqw : IntKind.u64.wrap ((x : Int) / (y : Int)) = (qq : Int) := by
          have e : (x : Int) / (y : Int) = ((x / y : Nat) : Int) := by simp
          have : x / y ≤ x := Nat.div_le_self _ _
          rw [e, hqq, IntKind.wrap_u64]; omega
        have hrw : (x : Int) % (y : Int) = (rr : Int) := by rw [hrr]; simp
        rw [← hqq] at b5 b6
        have p1 : 0 ≤ (qq : Int) * (u1 : Int) ∧ (u0 : Int) + (qq : Int) * (u1 : Int) ≤ 18446744073709551615 := by rw [← Int.natCast_mul]; omega
        have p2 : 0 ≤ (qq : Int) * (v1 : Int) ∧ (v0 : Int) + (qq : Int) * (v1 : Int) ≤ 18446744073709551615 := by rw [← Int.natCast_mul]; omega
        obtain ⟨p11, p12⟩ := p1
        obtain ⟨p21, p22⟩ := p2
        have HQ := hid15 hqq
        have HR := hid15 hrr
        have K1 := hid15 k1
        have K2 := hid15 k2
        clear hqq hrr b5 b6
        go_wp2
        go_quiet (fail)
        go_wp2
        have hD : (wr.drewN nq).drew.cell? ⟨w.heap.size + 1 + 1, 0, none⟩ = some (.int .u64 u1) ∧ (wr.drewN nq).drew.cell? ⟨w.heap.size + 1 + 1, 1, none⟩ = some (.int .u64 v1) := ⟨d0, d1⟩
        have hC : (wr.drewN nq).drew.cell? ⟨w.heap.size + 1, 2, none⟩ = some (.int .u64 u0) ∧ (wr.drewN nq).drew.cell? ⟨w.heap.size + 1, 3, none⟩ = some (.int .u64 v0) := ⟨c2, c3⟩
        refine AnyZ.begin (S := fun k w' => if k = true then w'.cell? ⟨w.heap.size + 1 + 1, 0, none⟩ = some (.int .u64 u1) ∧ w'.cell? ⟨w.heap.size + 1 + 1, 1, none⟩ = some (.int .u64 v1) else w'.cell? ⟨w.heap.size + 1, 2, none⟩ = some (.int .u64 u0) ∧ w'.cell? ⟨w.heap.size + 1, 3, none⟩ = some (.int .u64 v0)) (z := fun k i => if k = true then i == 24 else Nat.ble 20 i) 25 rfl (by kernel_rfl) ?_
        refine AnyZ.take (i := 0) (v := ?_) true rfl (by kernel_rfl) (by kernel_rfl) (by kernel_rfl) (by kernel_rfl) (fun _ _ _ h => h) ?_ hD ?_
        rotate_left
        · intro w9 hSw
          simp only [if_true] at hSw
          obtain ⟨hS1, hS2⟩ := hSw
          go_simp
          first | done | with_reducible rfl
        simp only [Act.put, List.setIfInBounds_toArray, List.set_cons_zero, List.set_cons_succ]
        refine AnyZ.take (i := 1) (v := ?_) false rfl (by kernel_rfl) (by kernel_rfl) (by kernel_rfl) (by kernel_rfl) (fun _ _ _ h => h) ?_ hC ?_
        rotate_left
        · intro w9 hSw
          simp only [Bool.false_eq_true, if_false] at hSw
          obtain ⟨hS1, hS2⟩ := hSw
          go_simp
          first | done | with_reducible rfl
        simp only [Act.put, List.setIfInBounds_toArray, List.set_cons_zero, List.set_cons_succ]
        refine AnyZ.take (i := 2) (v := ?_) true rfl (by kernel_rfl) (by kernel_rfl) (by kernel_rfl) (by kernel_rfl) (fun _ _ _ h => h) ?_ hD ?_
        rotate_left
        · intro w9 hSw
          simp only [if_true] at hSw
          obtain ⟨hS1, hS2⟩ := hSw
          go_simp
          first | done | with_reducible rfl
        simp only [Act.put, List.setIfInBounds_toArray, List.set_cons_zero, List.set_cons_succ]
        refine AnyZ.take (i := 3) (v := ?_) true rfl (by kernel_rfl) (by kernel_rfl) (by kernel_rfl) (by kernel_rfl) (fun _ _ _ h => h) ?_ hD ?_
        rotate_left
        · intro w9 hSw
          simp only [if_true] at hSw
          obtain ⟨hS1, hS2⟩ := hSw
          go_simp
          first | done | with_reducible rfl
        simp only [Act.put, List.setIfInBounds_toArray, List.set_cons_zero, List.set_cons_succ]
        refine AnyZ.take (i := 4) (v := ?_) true rfl (by kernel_rfl) (by kernel_rfl) (by kernel_rfl) (by kernel_rfl) (fun _ _ _ h => h) ?_ hD ?_
        rotate_left
        · intro w9 hSw
          simp only [if_true] at hSw
          obtain ⟨hS1, hS2⟩ := hSw
          go_simp
          first | done | with_reducible rfl
        simp only [Act.put, List.setIfInBounds_toArray, List.set_cons_zero, List.set_cons_succ]
        refine AnyZ.take (i := 5) (v := ?_) false rfl (by kernel_rfl) (by kernel_rfl) (by kernel_rfl) (by kernel_rfl) (fun _ _ _ h => h) ?_ hC ?_
        rotate_left
        · intro w9 hSw
          simp only [Bool.false_eq_true, if_false] at hSw
          obtain ⟨hS1, hS2⟩ := hSw
          go_simp
          first | done | with_reducible rfl
        simp only [Act.put, List.setIfInBounds_toArray, List.set_cons_zero, List.set_cons_succ]
        refine AnyZ.take (i := 6) (v := ?_) true rfl (by kernel_rfl) (by kernel_rfl) (by kernel_rfl) (by kernel_rfl) (fun _ _ _ h => h) ?_ hD ?_
        rotate_left
        · intro w9 hSw
          simp only [if_true] at hSw
          obtain ⟨hS1, hS2⟩ := hSw
          go_simp
          first | done | with_reducible rfl
        simp only [Act.put, List.setIfInBounds_toArray, List.set_cons_zero, List.set_cons_succ]
        refine AnyZ.take (i := 7) (v := ?_) true rfl (by kernel_rfl) (by kernel_rfl) (by kernel_rfl) (by kernel_rfl) (fun _ _ _ h => h) ?_ hD ?_
        rotate_left
        · intro w9 hSw
          simp only [if_true] at hSw
          obtain ⟨hS1, hS2⟩ := hSw
          go_simp
          first | done | with_reducible rfl
        simp only [Act.put, List.setIfInBounds_toArray, List.set_cons_zero, List.set_cons_succ]
        refine AnyZ.take (i := 8) (v := ?_) true rfl (by kernel_rfl) (by kernel_rfl) (by kernel_rfl) (by kernel_rfl) (fun _ _ _ h => h) ?_ hD ?_
        rotate_left
        · intro w9 hSw
          simp only [if_true] at hSw
          obtain ⟨hS1, hS2⟩ := hSw
          go_simp
          first | done | with_reducible rfl
        simp only [Act.put, List.setIfInBounds_toArray, List.set_cons_zero, List.set_cons_succ]
        refine AnyZ.take (i := 9) (v := ?_) true rfl (by kernel_rfl) (by kernel_rfl) (by kernel_rfl) (by kernel_rfl) (fun _ _ _ h => h) ?_ hD ?_
        rotate_left
        · intro w9 hSw
          simp only [if_true] at hSw
          obtain ⟨hS1, hS2⟩ := hSw
          go_simp
          first | done | with_reducible rfl
        simp only [Act.put, List.setIfInBounds_toArray, List.set_cons_zero, List.set_cons_succ]
        refine AnyZ.take (i := 10) (v := ?_) true rfl (by kernel_rfl) (by kernel_rfl) (by kernel_rfl) (by kernel_rfl) (fun _ _ _ h => h) ?_ hD ?_
        rotate_left
        · intro w9 hSw
          simp only [if_true] at hSw
          obtain ⟨hS1, hS2⟩ := hSw
          go_simp
          first | done | with_reducible rfl
        simp only [Act.put, List.setIfInBounds_toArray, List.set_cons_zero, List.set_cons_succ]
        refine AnyZ.take (i := 11) (v := ?_) true rfl (by kernel_rfl) (by kernel_rfl) (by kernel_rfl) (by kernel_rfl) (fun _ _ _ h => h) ?_ hD ?_
        rotate_left
        · intro w9 hSw
          simp only [if_true] at hSw
          obtain ⟨hS1, hS2⟩ := hSw
          go_simp
          first | done | with_reducible rfl
        simp only [Act.put, List.setIfInBounds_toArray, List.set_cons_zero, List.set_cons_succ]
        refine AnyZ.take (i := 12) (v := ?_) true rfl (by kernel_rfl) (by kernel_rfl) (by kernel_rfl) (by kernel_rfl) (fun _ _ _ h => h) ?_ hD ?_
        rotate_left
        · intro w9 hSw
          simp only [if_true] at hSw
          obtain ⟨hS1, hS2⟩ := hSw
          go_simp
          first | done | with_reducible rfl
        simp only [Act.put, List.setIfInBounds_toArray, List.set_cons_zero, List.set_cons_succ]
        refine AnyZ.take (i := 13) (v := ?_) false rfl (by kernel_rfl) (by kernel_rfl) (by kernel_rfl) (by kernel_rfl) (fun _ _ _ h => h) ?_ hC ?_
        rotate_left
        · intro w9 hSw
          simp only [Bool.false_eq_true, if_false] at hSw
          obtain ⟨hS1, hS2⟩ := hSw
          go_simp
          first | done | with_reducible rfl
        simp only [Act.put, List.setIfInBounds_toArray, List.set_cons_zero, List.set_cons_succ]
        refine AnyZ.take (i := 14) (v := ?_) true rfl (by kernel_rfl) (by kernel_rfl) (by kernel_rfl) (by kernel_rfl) (fun _ _ _ h => h) ?_ hD ?_
        rotate_left
        · intro w9 hSw
          simp only [if_true] at hSw
          obtain ⟨hS1, hS2⟩ := hSw
          go_simp
          first | done | with_reducible rfl
        simp only [Act.put, List.setIfInBounds_toArray, List.set_cons_zero, List.set_cons_succ]
        refine AnyZ.take (i := 15) (v := ?_) true rfl (by kernel_rfl) (by kernel_rfl) (by kernel_rfl) (by kernel_rfl) (fun _ _ _ h => h) ?_ hD ?_
        rotate_left
        · intro w9 hSw
          simp only [if_true] at hSw
          obtain ⟨hS1, hS2⟩ := hSw
          go_simp
          first | done | with_reducible rfl
        simp only [Act.put, List.setIfInBounds_toArray, List.set_cons_zero, List.set_cons_succ]
        refine AnyZ.take (i := 16) (v := ?_) true rfl (by kernel_rfl) (by kernel_rfl) (by kernel_rfl) (by kernel_rfl) (fun _ _ _ h => h) ?_ hD ?_
        rotate_left
        · intro w9 hSw
          simp only [if_true] at hSw
          obtain ⟨hS1, hS2⟩ := hSw
          go_simp
          first | done | with_reducible rfl
        simp only [Act.put, List.setIfInBounds_toArray, List.set_cons_zero, List.set_cons_succ]
        refine AnyZ.take (i := 17) (v := ?_) true rfl (by kernel_rfl) (by kernel_rfl) (by kernel_rfl) (by kernel_rfl) (fun _ _ _ h => h) ?_ hD ?_
        rotate_left
        · intro w9 hSw
          simp only [if_true] at hSw
          obtain ⟨hS1, hS2⟩ := hSw
          go_simp
          first | done | with_reducible rfl
        simp only [Act.put, List.setIfInBounds_toArray, List.set_cons_zero, List.set_cons_succ]
        refine AnyZ.take (i := 18) (v := ?_) true rfl (by kernel_rfl) (by kernel_rfl) (by kernel_rfl) (by kernel_rfl) (fun _ _ _ h => h) ?_ hD ?_
        rotate_left
        · intro w9 hSw
          simp only [if_true] at hSw
          obtain ⟨hS1, hS2⟩ := hSw
          go_simp
          first | done | with_reducible rfl
        simp only [Act.put, List.setIfInBounds_toArray, List.set_cons_zero, List.set_cons_succ]
        refine AnyZ.take (i := 19) (v := ?_) true rfl (by kernel_rfl) (by kernel_rfl) (by kernel_rfl) (by kernel_rfl) (fun _ _ _ h => h) ?_ hD ?_
        rotate_left
        · intro w9 hSw
          simp only [if_true] at hSw
          obtain ⟨hS1, hS2⟩ := hSw
          go_simp
          first | done | with_reducible rfl
        simp only [Act.put, List.setIfInBounds_toArray, List.set_cons_zero, List.set_cons_succ]
        refine AnyZ.take (i := 20) (v := ?_) true rfl (by kernel_rfl) (by kernel_rfl) (by kernel_rfl) (by kernel_rfl) (fun _ _ _ h => h) ?_ hD ?_
        rotate_left
        · intro w9 hSw
          simp only [if_true] at hSw
          obtain ⟨hS1, hS2⟩ := hSw
          go_simp
          first | done | with_reducible rfl
        simp only [Act.put, List.setIfInBounds_toArray, List.set_cons_zero, List.set_cons_succ]
        refine AnyZ.next (i := 21) rfl (by kernel_rfl) (fun K hK => ?_)
        go_simp
        refine hK.out _ _ ?_ ?_
        · intro k hz hS
          cases k
          · exact absurd hz (by decide)
          · simp only [if_true] at hS ⊢
            obtain ⟨hS1, hS2⟩ := hS
            go_keep
        try simp only [Act.put, List.setIfInBounds_toArray, List.set_cons_zero, List.set_cons_succ]
        refine AnyZ.next (i := 22) rfl (by kernel_rfl) (fun K hK => ?_)
        go_simp
        refine hK.out _ _ ?_ ?_
        · intro k hz hS
          cases k
          · exact absurd hz (by decide)
          · simp only [if_true] at hS ⊢
            obtain ⟨hS1, hS2⟩ := hS
            go_keep
        try simp only [Act.put, List.setIfInBounds_toArray, List.set_cons_zero, List.set_cons_succ]
        refine AnyZ.next (i := 23) rfl (by kernel_rfl) (fun K hK => ?_)
        go_simp
        refine hK.out _ _ ?_ ?_
        · intro k hz hS
          cases k
          · exact absurd hz (by decide)
          · simp only [if_true] at hS ⊢
            obtain ⟨hS1, hS2⟩ := hS
            go_keep
        try simp only [Act.put, List.setIfInBounds_toArray, List.set_cons_zero, List.set_cons_succ]
        refine AnyZ.next (i := 24) rfl (by kernel_rfl) (fun K hK => ?_)
        go_simp
        refine hK.out _ _ ?_ ?_
        · intro k hz
          cases k <;> exact absurd hz (by decide)
        refine AnyZ.done (by kernel_rfl) ?_
        have hU : IntKind.u64.wrap ((u0 : Int) + IntKind.u64.wrap ((qq : Int) * (u1 : Int))) = ((u0 + qq * u1 : Nat) : Int) := by
          rw [IntKind.wrap_u64, IntKind.wrap_u64, Int.natCast_add, Int.natCast_mul]; omega
        have hV : IntKind.u64.wrap ((v0 : Int) + IntKind.u64.wrap ((qq : Int) * (v1 : Int))) = ((v0 + qq * v1 : Nat) : Int) := by
          rw [IntKind.wrap_u64, IntKind.wrap_u64, Int.natCast_add, Int.natCast_mul]; omega
        rw [hU, hV]
        clear hU hV hD hC
        go_wp2
        refine ⟨⟨y, rr, u0, v0, u1, v1, u0 + qq * u1, v0 + qq * v1, !ev, rfl, rfl, hy, ?_, ?_, ?_, ?_, ?_, ?_⟩, ?_⟩
        · rw [HR.out]; exact Nat.lt_trans (Nat.mod_lt _ hyp) hy
        · have e : ((v0 + qq * v1 : Nat) : Int) = (v0 : Int) + (qq : Int) * (v1 : Int) := by simp
          omega
        · have := (HS.out _ _ _ _ _ _ _ HL.out K1.out K2.out).1
          rw [← HQ.out, ← HR.out] at this
          exact this
        · exact (HS.out _ _ _ _ _ _ _ HL.out K1.out K2.out).2
        · exact HP.out.step (Nat.le_succ _) (by simp) (by simp)
        · exact ((((((HRs.out.drewN.setCell _ (by omega)).setCell _ (by omega)).setCell _ (by omega)).setCell _ (by omega)).setCell _ (by omega)).setCell _ (by omega)).setCell _ (by omega)
        · show rr < y
          rw [HR.out]; exact Nat.mod_lt _ hyp
      · have K2 := hid15 k2
        go_wp2
        try simp only [Exit.inBlock, Exit.then]
        refine bodyPost_ret (v := .agg #[.int .u64 um, .int .u64 vm, .int .u64 u0, .int .u64 v0, .bool ev]) (by rw [results_cell rfl]; go_simp) rfl ?_
        exact ⟨um, vm, u0, v0, ev, rfl, HT.out, ((((be.setCell (by exact Nat.le_refl _) _).setCell (by exact Nat.le_refl _) _).setCell (by exact Nat.le_refl _) _).setCell (by exact Nat.le_refl _) _).setCell (by exact Nat.le_refl _) _⟩
    · go_wp2
      try simp only [Exit.inBlock, Exit.then]
      refine bodyPost_ret (v := .agg #[.int .u64 um, .int .u64 vm, .int .u64 u0, .int .u64 v0, .bool ev]) (by rw [results_cell rfl]; go_simp) rfl ?_
      exact ⟨um, vm, u0, v0, ev, rfl, HT.out, ((((be.setCell (by exact Nat.le_refl _) _).setCell (by exact Nat.le_refl _) _).setCell (by exact Nat.le_refl _) _).setCell (by exact Nat.le_refl _) _).setCell (by exact Nat.le_refl _) _⟩
end Go.Proofs.YtejlnodillnoaaaGreatDoor
