/-
  gcdSteps, gcdStep, Gcd.
-/
import Derived.Test.YtkfdgpidhghhdaaGreatDoorProg
import Derived.OrdersHeld
import Derived.Deep.RegionHeld3
import Derived.Test.YtkfdgpidhghhdaaGreatDoorW15
namespace Go.Proofs.YtkfdgpidhghhdaaGreatDoor
open Go
set_option linter.unusedVariables false

section
variable {P : Program} {ops : Array Oper} {Q : Exit → Act → World → Prop} {md : Region.Mode} {S : Bool → World → Prop} {z : Bool → Nat → Bool}

/-- whatever order comes; behind operation i the condition k is kept, but where z k i -/
def AnyZ (P : Program) (md : Region.Mode) (ops : Array Oper) (Q : Exit → Act → World → Prop) (S : Bool → World → Prop) (z : Bool → Nat → Bool) : Nat → Array Bool → Act → World → Prop
  | 0, L, a, w => Region.ready md ops L = [] ∧ Q .normal a w
  | n + 1, L, a, w => (Region.ready md ops L = [] → Q .normal a w) ∧
      ∀ i ∈ Region.ready md ops L, wpOp P ops Q i (fun a' w' => (∀ k, z k i = false → S k w → S k w') ∧ AnyZ P md ops Q S z n (L.setIfInBounds i true) a' w') a w

theorem AnyZ.any : ∀ {n : Nat} {L : Array Bool} {a : Act} {w : World}, AnyZ P md ops Q S z n L a w → wpAny P md ops Q n L a w
  | 0, _, _, _, h => h
  | n + 1, _, _, _, h => ⟨h.1, fun i hi => wpOp_mono (fun _ _ h' => AnyZ.any h'.2) (h.2 i hi)⟩

theorem AnyZ.begin {id : Nat} {a : Act} {w : World} (n : Nat) (hn : ops.size = n) (hm : P.follows .mixedOrders = true)
    (h : AnyZ P .any ops Q S z n (Array.replicate n false) a w.drew) : (Code.region id ops true).wp P Q a w := by
  subst hn
  exact wp_region_any hm h.any

/-- every operation of z k that has not come up waits for number i -/
def waitsAll (md : Region.Mode) (ops : Array Oper) (zk : Nat → Bool) (i : Nat) : Bool :=
  (List.range ops.size).all fun j => !zk j || j == i || ((ops[j]?).map (·.after.any fun e => Region.binds md e && e.on == i)).getD true

theorem waitsAll_ne {zk : Nat → Bool} {i j : Nat} {L : Array Bool} (hw : waitsAll md ops zk i = true) (hj : j ∈ Region.ready md ops L) (hji : j ≠ i) (hi : i ∈ Region.ready md ops L) : zk j = false := by
  obtain ⟨_, oj, hoj, hall⟩ := mem_ready.1 hj
  have hjn : j < ops.size := by
    rcases Nat.lt_or_ge j ops.size with h | h
    · exact h
    · rw [Array.getElem?_eq_none h] at hoj; cases hoj
  have h1 := List.all_eq_true.1 hw j (List.mem_range.2 hjn)
  rw [hoj] at h1
  cases hz : zk j with
  | false => rfl
  | true =>
    exfalso
    simp only [hz, Bool.not_true, Bool.false_or, Option.map_some, Option.getD_some, Bool.or_eq_true, beq_iff_eq] at h1
    rcases h1 with h1 | h1
    · exact hji h1
    · rw [Array.any_eq_true'] at h1
      obtain ⟨e, he, hb⟩ := h1
      rw [Bool.and_eq_true, beq_iff_eq] at hb
      have h2 := hall e he hb.1
      rw [hb.2] at h2
      have h3 := (mem_ready.1 hi).1
      rcases Nat.lt_or_ge i L.size with h' | h'
      · simp [h'] at h2 h3; rw [h3] at h2; cases h2
      · simp [Array.getElem?_eq_none h'] at h2

/-- number i, which yields v wherever the condition k holds, comes first -/
theorem AnyZ.first {i : Nat} {oi : Oper} {v : Value} (k : Bool) (hi : ops[i]? = some oi) (hsel : ∀ (j : Nat) (o : Oper) cs b, ops[j]? = some o → o.op ≠ .select cs b)
    (hQ : ∀ c a w, Q (.panic c) (a.put oi.dst v) w → Q (.panic c) a w) (hwt : waitsAll md ops (z k) i = true) :
    ∀ (n : Nat) (L : Array Bool) (a : Act) (w : World),
      (∀ j oj, ops[j]? = some oj → j ≠ i → L.getD j true = false → (∀ e ∈ oj.after, Region.binds md e = true → e.on ≠ i) → oi.apart ops oj = true) →
      i ∈ Region.ready md ops L → YieldsIf P ops (S k) oi v a → S k w →
      AnyZ P md ops Q S z n (L.setIfInBounds i true) (a.put oi.dst v) w → AnyZ P md ops Q S z (n + 1) L a w := by
  intro n
  induction n with
  | zero =>
    intro L a w _ hr hy hS H
    refine ⟨fun h => (by rw [h] at hr; cases hr), fun j hj => ?_⟩
    by_cases hji : j = i
    · subst hji; exact hy.wpOp hi hS ⟨fun _ _ h => h, H⟩
    · have := ready_mono hj hji
      rw [H.1] at this
      cases this
  | succ n ih =>
    intro L a w hfree hr hy hS H
    refine ⟨fun h => (by rw [h] at hr; cases hr), fun j hj => ?_⟩
    by_cases hji : j = i
    · subst hji; exact hy.wpOp hi hS ⟨fun _ _ h => h, H⟩
    · obtain ⟨hjL, oj, hoj, hall⟩ := mem_ready.1 hj
      have hiL := (mem_ready.1 hr).1
      have hno : ∀ e ∈ oj.after, Region.binds md e = true → e.on ≠ i := by
        intro e he hb hei
        have h2 := hall e he hb
        rw [hei] at h2
        rcases Nat.lt_or_ge i L.size with h' | h'
        · simp [h'] at h2 hiL; rw [hiL] at h2; cases h2
        · simp [Array.getElem?_eq_none h'] at h2
      have step := wpOp_putIf hoj (hfree j oj hoj hji hjL hno) (fun cs b => hsel i oi cs b hi) (fun cs b => hsel j oj cs b hoj) hQ hy (H.2 j (ready_mono hj hji))
      have hzj := waitsAll_ne hwt hj hji hr
      refine wpOp_mono (fun a' w' h => ⟨h.2.1, ih (L.setIfInBounds j true) a' w' ?_ (ready_mono hr (Ne.symm hji)) h.1 (h.2.1 k hzj hS) ?_⟩) step
      · intro m om hm hmi hmL hmn
        refine hfree m om hm hmi ?_ hmn
        by_cases hjm : j = m
        · exact hjm ▸ hjL
        · rwa [getD_set_ne true hjm] at hmL
      · rw [Array.setIfInBounds_comm _ _ hji]
        exact h.2.2

theorem AnyZ.take {i : Nat} {d : Option Tmp} {op : Op} {ty : TypeId} {pos : String} {af : Array Edge} {v : Value} {n : Nat} {L : Array Bool} {a : Act} {w : World} (k : Bool) (hi : ops[i]? = some ⟨d, op, ty, pos, af, none⟩)
    (hs : Region.noSelect ops = true) (hf : Region.free md ops L i = true) (hr : (Region.ready md ops L).contains i = true) (hwt : waitsAll md ops (z k) i = true)
    (hQ : ∀ c a w, Q (.panic c) (a.put d v) w → Q (.panic c) a w) (hy : ∀ w, S k w → (execOp a.eval ⟨d, op, ty, pos, af, none⟩).run P w = .ok (.value v) w) (hS : S k w)
    (h : AnyZ P md ops Q S z n (L.setIfInBounds i true) (a.put d v) w) : AnyZ P md ops Q S z (n + 1) L a w :=
  AnyZ.first k hi (Region.noSelect_spec hs) hQ hwt n L a w (Region.free_spec hi hf) (by simpa using hr) (Or.inl ⟨rfl, hy⟩) hS h

/-- one alone may come up -/
theorem AnyZ.next {i : Nat} {d : Option Tmp} {op : Op} {ty : TypeId} {pos : String} {af : Array Edge} {n : Nat} {L : Array Bool} {a : Act} {w : World} (hi : ops[i]? = some ⟨d, op, ty, pos, af, none⟩) (hr : Region.ready md ops L = [i]) 
    (h : ∀ K' : Act → World → Prop, Shut (∀ a' w', (∀ k, z k i = false → S k w → S k w') → AnyZ P md ops Q S z n (L.setIfInBounds i true) a' w' → K' a' w') → Oper.wp P ⟨d, op, ty, pos, af, none⟩ a w K' Q) :
    AnyZ P md ops Q S z (n + 1) L a w := by
  refine ⟨fun h0 => (by rw [hr] at h0; cases h0), fun j hj => ?_⟩
  rw [hr, List.mem_singleton] at hj
  subst hj
  refine wpOp_step hi (fun K' hK => ?_)
  have hw : Region.wanted ⟨d, op, ty, pos, af, none⟩ (yielded ops a.tmps) = true := rfl
  rw [if_pos hw]
  exact h K' (fun a' w' h1 h2 => hK a' w' ⟨h1, h2⟩)

theorem AnyZ.done {n : Nat} {L : Array Bool} {a : Act} {w : World} (hr : Region.ready md ops L = []) (h : Q .normal a w) : AnyZ P md ops Q S z n L a w := by
  cases n with
  | zero => exact ⟨hr, h⟩
  | succ n => exact ⟨fun _ => h, by rw [hr]; simp⟩
end
end Go.Proofs.YtkfdgpidhghhdaaGreatDoor

namespace Go.Proofs.YtkfdgpidhghhdaaGreatDoor
open Go.RowKit
set_option linter.unusedVariables false
/-- the two structs of gcdSteps in memory: s in the block b, ahead in the block behind it -/
structure Stp (w0 w : World) (b um vm u0 v0 u1 v1 : Nat) (ev : Bool) : Prop where
  c0 : w.cell? ⟨b, 0, none⟩ = some (.int .u64 um)
  c1 : w.cell? ⟨b, 1, none⟩ = some (.int .u64 vm)
  c2 : w.cell? ⟨b, 2, none⟩ = some (.int .u64 u0)
  c3 : w.cell? ⟨b, 3, none⟩ = some (.int .u64 v0)
  c4 : w.cell? ⟨b, 4, none⟩ = some (.bool ev)
  d0 : w.cell? ⟨b + 1, 0, none⟩ = some (.int .u64 u1)
  d1 : w.cell? ⟨b + 1, 1, none⟩ = some (.int .u64 v1)
  rb : Row w b
  rd : Row w (b + 1)
  be : Below w0.heap.size w0 w

/-- the room of gcdSteps' result, untouched -/
structure Res (w : World) (b : Nat) : Prop where
  r0 : w.cell? ⟨b, 0, none⟩ = some (.int .u64 0)
  r1 : w.cell? ⟨b, 1, none⟩ = some (.int .u64 0)
  r2 : w.cell? ⟨b, 2, none⟩ = some (.int .u64 0)
  r3 : w.cell? ⟨b, 3, none⟩ = some (.int .u64 0)
  r4 : w.cell? ⟨b, 4, none⟩ = some (.bool false)
  rr : Row w b
theorem Res.drewN {w : World} {b n : Nat} (h : Res w b) : Res (w.drewN n) b := ⟨h.r0, h.r1, h.r2, h.r3, h.r4, h.rr⟩
theorem Res.setCell {w : World} {b b' o : Nat} (h : Res w b) (u : Value) (hne : b < b') : Res (w.setCell ⟨b', o, none⟩ u) b := by
  have k : ∀ o', (w.setCell ⟨b', o, none⟩ u).cell? ⟨b, o', none⟩ = w.cell? ⟨b, o', none⟩ := fun o' => World.cell?_setCell_far _ _ _ _ (by show b' ≠ b; omega)
  exact ⟨by rw [k]; exact h.r0, by rw [k]; exact h.r1, by rw [k]; exact h.r2, by rw [k]; exact h.r3, by rw [k]; exact h.r4, h.rr.setCell _ _⟩

theorem Stp.step {w0 w : World} {b n um vm u0 v0 u1 v1 U V : Nat} {A B : Int} {ev : Bool} (h : Stp w0 w b um vm u0 v0 u1 v1 ev) (hb : w0.heap.size ≤ b) (hA : A = U) (hB : B = V) :
    Stp w0 ((((((((w.drewN n).setCell ⟨b, 0, none⟩ (.int .u64 u0)).setCell ⟨b, 1, none⟩ (.int .u64 v0)).setCell ⟨b, 2, none⟩ (.int .u64 u1)).setCell ⟨b, 3, none⟩ (.int .u64 v1)).setCell ⟨b + 1, 0, none⟩ (.int .u64 A)).setCell ⟨b + 1, 1, none⟩ (.int .u64 B)).setCell ⟨b, 4, none⟩ (.bool !ev)) b u0 v0 u1 v1 U V (!ev) := by
  obtain ⟨c0, c1, c2, c3, c4, d0, d1, rb, rd, be⟩ := h
  subst hA hB
  have be' := below_drewN (q := n) be
  refine ⟨by go_simp, by go_simp, by go_simp, by go_simp, by go_simp, by go_simp, by go_simp, ?_, ?_, ?_⟩
  · exact ((((((rb.drewN.setCell _ _).setCell _ _).setCell _ _).setCell _ _).setCell _ _).setCell _ _).setCell _ _
  · exact ((((((rd.drewN.setCell _ _).setCell _ _).setCell _ _).setCell _ _).setCell _ _).setCell _ _).setCell _ _
  · exact ((((((be'.setCell (by exact hb) _).setCell (by exact hb) _).setCell (by exact hb) _).setCell (by exact hb) _).setCell (by exact Nat.le_succ_of_le hb) _).setCell (by exact Nat.le_succ_of_le hb) _).setCell (by exact hb) _

set_option maxHeartbeats 4000000 in
theorem gcdSteps_any (X Y H xh yh xl yl : Nat) (w : World) (hX : X = xh * H + xl) (hY : Y = yh * H + yl) (hxl : xl < H) (hyl : yl < H) (hxh : xh < 18446744073709551616) (hle : yh ≤ xh) :
    Calls Tryz.prog 120 #[.int .u64 xh, .int .u64 yh] w fun r w' => ∃ (um vm u0 v0 : Nat) (ev : Bool), r = .returned (.agg #[.int .u64 um, .int .u64 vm, .int .u64 u0, .int .u64 v0, .bool ev]) ∧ Told X Y um vm u0 v0 ev ∧ Below w.heap.size w w' := by
  have hyh : yh < 18446744073709551616 := by omega
  have HS : Hid (∀ x y u0 v0 u1 v1 ev, Leh X Y xh yh x y u0 v0 u1 v1 ev → v1 ≤ y → v0 + v1 + y ≤ x → Leh X Y xh yh y (x % y) u1 v1 (u0 + x / y * u1) (v0 + x / y * v1) (!ev) ∧ Told X Y u0 v0 u1 v1 (!ev)) := fun _ _ _ _ _ _ _ L c1 c2 => leh_step hX hY hxl hyl hxh hle L c1 c2
  have HB : Hid (∀ x y u0 v0 u1 v1 ev, Leh X Y xh yh x y u0 v0 u1 v1 ev → v1 ≤ y → _) := fun _ _ _ _ _ _ _ L c1 => leh_bounds L hxh hle c1
  have HI := hid15 (leh_start (X := X) (Y := Y) hle)
  clear hX hY hxl hyl hle
  go_enter Tryz.func120, Tryz.ntmps120
  go_wp2
  go_loopw [0, 1] (fun vx vy wr => ∃ (x y um vm u0 v0 u1 v1 : Nat) (ev : Bool), vx = .int .u64 x ∧ vy = .int .u64 y ∧ x < 18446744073709551616 ∧ y < 18446744073709551616 ∧ v1 < 18446744073709551616 ∧ Leh X Y xh yh x y u0 v0 u1 v1 ev ∧ Told X Y um vm u0 v0 ev ∧ Stp w wr (w.heap.size + 1) um vm u0 v0 u1 v1 ev ∧ Res wr w.heap.size) (fun _ vy _ => (intOf vy).toNat)
  case atStart =>
    refine ⟨xh, yh, 0, 0, 1, 0, 0, 1, false, rfl, rfl, hxh, hyh, by omega, HI.out, Or.inl rfl, ?_, ?_⟩
    · refine ⟨by go_simp, by go_simp, by go_simp, by go_simp, by go_simp, by go_simp, by go_simp, ?_, ?_, ?_⟩
      · have := row_new (w.alloc (.cells #[.int .u64 0, .int .u64 0, .int .u64 0, .int .u64 0, .bool false] 149)) #[.int .u64 0, .int .u64 0, .int .u64 1, .int .u64 0, .bool false] 149
        rw [size_alloc] at this
        exact this.alloc _
      · have := row_new ((w.alloc (.cells #[.int .u64 0, .int .u64 0, .int .u64 0, .int .u64 0, .bool false] 149)).alloc (.cells #[.int .u64 0, .int .u64 0, .int .u64 1, .int .u64 0, .bool false] 149)) #[.int .u64 0, .int .u64 1] 147
        rw [size_alloc, size_alloc] at this
        exact this
      · exact (((Below.refl _ _).alloc (Nat.le_refl _) _).alloc (by rw [size_alloc]; omega) _).alloc (by rw [size_alloc, size_alloc]; omega) _
    · exact ⟨by go_simp, by go_simp, by go_simp, by go_simp, by go_simp, ((row_new _ _ _).alloc _).alloc _⟩
  case round =>
    obtain ⟨x, y, um, vm, u0, v0, u1, v1, ev, rfl, rfl, hx, hy, hv1, hL, hT, hS, hR⟩ := hrel
    have HL := hid15 hL
    have HT := hid15 hT
    have hyx := hL.le
    clear hL hT
    have HP := hid15 hS
    have HRs := hid15 hR
    obtain ⟨c0, c1, c2, c3, c4, d0, d1, rb, rd, be⟩ := hS
    obtain ⟨r0, r1, r2, r3, r4, rr0⟩ := hR
    have hfz3 := fun o => rr0.frozen o
    have hfz := fun o => rb.frozen o
    have hfz2 := fun o => rd.frozen o
    by_cases k1 : v1 ≤ y
    · obtain ⟨b1, b2, b3, b4, b5, b6⟩ := HB.out _ _ _ _ _ _ _ HL.out k1
      by_cases k2 : v0 + v1 + y ≤ x
      · have hyp : 1 ≤ y := by have := HL.out.v1p; omega
        have hyz : ((y : Int) == 0) = false := by rw [beq_eq_false_iff_ne]; omega
        have hyz2 : ¬ y = 0 := by omega
        obtain ⟨qq, hqq⟩ : ∃ q, q = x / y := ⟨_, rfl⟩
        obtain ⟨rr, hrr⟩ : ∃ r, r = x % y := ⟨_, rfl⟩
        have hqw : IntKind.u64.wrap ((x : Int) / (y : Int)) = (qq : Int) := by
          have e : (x : Int) / (y : Int) = ((x / y : Nat) : Int) := by simp
          have : x / y ≤ x := Nat.div_le_self _ _
          rw [e, hqq, IntKind.wrap_u64]; omega
        have hrw : (x : Int) % (y : Int) = (rr : Int) := by rw [hrr]; simp
        rw [← hqq] at b5 b6
        have p1 : 0 ≤ (qq : Int) * (u1 : Int) ∧ (u0 : Int) + (qq : Int) * (u1 : Int) ≤ 18446744073709551615 := by rw [← Int.natCast_mul]; omega
        have p2 : 0 ≤ (qq : Int) * (v1 : Int) ∧ (v0 : Int) + (qq : Int) * (v1 : Int) ≤ 18446744073709551615 := by rw [← Int.natCast_mul]; omega
        obtain ⟨p11, p12⟩ := p1
        obtain ⟨p21, p22⟩ := p2
        have HQ := hid15 hqq
        have HR := hid15 hrr
        have K1 := hid15 k1
        have K2 := hid15 k2
        clear hqq hrr b5 b6
        go_wp2
        go_quiet (fail)
        go_wp2
        have hD : (wr.drewN nq).drew.cell? ⟨w.heap.size + 1 + 1, 0, none⟩ = some (.int .u64 u1) ∧ (wr.drewN nq).drew.cell? ⟨w.heap.size + 1 + 1, 1, none⟩ = some (.int .u64 v1) := ⟨d0, d1⟩
        have hC : (wr.drewN nq).drew.cell? ⟨w.heap.size + 1, 2, none⟩ = some (.int .u64 u0) ∧ (wr.drewN nq).drew.cell? ⟨w.heap.size + 1, 3, none⟩ = some (.int .u64 v0) := ⟨c2, c3⟩
        refine AnyZ.begin (S := fun k w' => if k = true then w'.cell? ⟨w.heap.size + 1 + 1, 0, none⟩ = some (.int .u64 u1) ∧ w'.cell? ⟨w.heap.size + 1 + 1, 1, none⟩ = some (.int .u64 v1) else w'.cell? ⟨w.heap.size + 1, 2, none⟩ = some (.int .u64 u0) ∧ w'.cell? ⟨w.heap.size + 1, 3, none⟩ = some (.int .u64 v0)) (z := fun k i => if k = true then i == 24 else Nat.ble 20 i) 25 rfl (by kernel_rfl) ?_
        refine AnyZ.take (i := 0) (v := ?_) true rfl (by kernel_rfl) (by kernel_rfl) (by kernel_rfl) (by kernel_rfl) (fun _ _ _ h => h) ?_ hD ?_
        rotate_left
        · intro w9 hSw
          simp only [if_true] at hSw
          obtain ⟨hS1, hS2⟩ := hSw
          go_simp
          first | done | with_reducible rfl
        simp only [Act.put, List.setIfInBounds_toArray, List.set_cons_zero, List.set_cons_succ]
        refine AnyZ.take (i := 1) (v := ?_) false rfl (by kernel_rfl) (by kernel_rfl) (by kernel_rfl) (by kernel_rfl) (fun _ _ _ h => h) ?_ hC ?_
        rotate_left
        · intro w9 hSw
          simp only [Bool.false_eq_true, if_false] at hSw
          obtain ⟨hS1, hS2⟩ := hSw
          go_simp
          first | done | with_reducible rfl
        simp only [Act.put, List.setIfInBounds_toArray, List.set_cons_zero, List.set_cons_succ]
        refine AnyZ.take (i := 2) (v := ?_) true rfl (by kernel_rfl) (by kernel_rfl) (by kernel_rfl) (by kernel_rfl) (fun _ _ _ h => h) ?_ hD ?_
        rotate_left
        · intro w9 hSw
          simp only [if_true] at hSw
          obtain ⟨hS1, hS2⟩ := hSw
          go_simp
          first | done | with_reducible rfl
        simp only [Act.put, List.setIfInBounds_toArray, List.set_cons_zero, List.set_cons_succ]
        refine AnyZ.take (i := 3) (v := ?_) true rfl (by kernel_rfl) (by kernel_rfl) (by kernel_rfl) (by kernel_rfl) (fun _ _ _ h => h) ?_ hD ?_
        rotate_left
        · intro w9 hSw
          simp only [if_true] at hSw
          obtain ⟨hS1, hS2⟩ := hSw
          go_simp
          first | done | with_reducible rfl
        simp only [Act.put, List.setIfInBounds_toArray, List.set_cons_zero, List.set_cons_succ]
        refine AnyZ.take (i := 4) (v := ?_) true rfl (by kernel_rfl) (by kernel_rfl) (by kernel_rfl) (by kernel_rfl) (fun _ _ _ h => h) ?_ hD ?_
        rotate_left
        · intro w9 hSw
          simp only [if_true] at hSw
          obtain ⟨hS1, hS2⟩ := hSw
          go_simp
          first | done | with_reducible rfl
        simp only [Act.put, List.setIfInBounds_toArray, List.set_cons_zero, List.set_cons_succ]
        refine AnyZ.take (i := 5) (v := ?_) false rfl (by kernel_rfl) (by kernel_rfl) (by kernel_rfl) (by kernel_rfl) (fun _ _ _ h => h) ?_ hC ?_
        rotate_left
        · intro w9 hSw
          simp only [Bool.false_eq_true, if_false] at hSw
          obtain ⟨hS1, hS2⟩ := hSw
          go_simp
          first | done | with_reducible rfl
        simp only [Act.put, List.setIfInBounds_toArray, List.set_cons_zero, List.set_cons_succ]
        refine AnyZ.take (i := 6) (v := ?_) true rfl (by kernel_rfl) (by kernel_rfl) (by kernel_rfl) (by kernel_rfl) (fun _ _ _ h => h) ?_ hD ?_
        rotate_left
        · intro w9 hSw
          simp only [if_true] at hSw
          obtain ⟨hS1, hS2⟩ := hSw
          go_simp
          first | done | with_reducible rfl
        simp only [Act.put, List.setIfInBounds_toArray, List.set_cons_zero, List.set_cons_succ]
        refine AnyZ.take (i := 7) (v := ?_) true rfl (by kernel_rfl) (by kernel_rfl) (by kernel_rfl) (by kernel_rfl) (fun _ _ _ h => h) ?_ hD ?_
        rotate_left
        · intro w9 hSw
          simp only [if_true] at hSw
          obtain ⟨hS1, hS2⟩ := hSw
          go_simp
          first | done | with_reducible rfl
        simp only [Act.put, List.setIfInBounds_toArray, List.set_cons_zero, List.set_cons_succ]
        refine AnyZ.take (i := 8) (v := ?_) true rfl (by kernel_rfl) (by kernel_rfl) (by kernel_rfl) (by kernel_rfl) (fun _ _ _ h => h) ?_ hD ?_
        rotate_left
        · intro w9 hSw
          simp only [if_true] at hSw
          obtain ⟨hS1, hS2⟩ := hSw
          go_simp
          first | done | with_reducible rfl
        simp only [Act.put, List.setIfInBounds_toArray, List.set_cons_zero, List.set_cons_succ]
        refine AnyZ.take (i := 9) (v := ?_) true rfl (by kernel_rfl) (by kernel_rfl) (by kernel_rfl) (by kernel_rfl) (fun _ _ _ h => h) ?_ hD ?_
        rotate_left
        · intro w9 hSw
          simp only [if_true] at hSw
          obtain ⟨hS1, hS2⟩ := hSw
          go_simp
          first | done | with_reducible rfl
        simp only [Act.put, List.setIfInBounds_toArray, List.set_cons_zero, List.set_cons_succ]
        refine AnyZ.take (i := 10) (v := ?_) true rfl (by kernel_rfl) (by kernel_rfl) (by kernel_rfl) (by kernel_rfl) (fun _ _ _ h => h) ?_ hD ?_
        rotate_left
        · intro w9 hSw
          simp only [if_true] at hSw
          obtain ⟨hS1, hS2⟩ := hSw
          go_simp
          first | done | with_reducible rfl
        simp only [Act.put, List.setIfInBounds_toArray, List.set_cons_zero, List.set_cons_succ]
        refine AnyZ.take (i := 11) (v := ?_) true rfl (by kernel_rfl) (by kernel_rfl) (by kernel_rfl) (by kernel_rfl) (fun _ _ _ h => h) ?_ hD ?_
        rotate_left
        · intro w9 hSw
          simp only [if_true] at hSw
          obtain ⟨hS1, hS2⟩ := hSw
          go_simp
          first | done | with_reducible rfl
        simp only [Act.put, List.setIfInBounds_toArray, List.set_cons_zero, List.set_cons_succ]
        refine AnyZ.take (i := 12) (v := ?_) true rfl (by kernel_rfl) (by kernel_rfl) (by kernel_rfl) (by kernel_rfl) (fun _ _ _ h => h) ?_ hD ?_
        rotate_left
        · intro w9 hSw
          simp only [if_true] at hSw
          obtain ⟨hS1, hS2⟩ := hSw
          go_simp
          first | done | with_reducible rfl
        simp only [Act.put, List.setIfInBounds_toArray, List.set_cons_zero, List.set_cons_succ]
        refine AnyZ.take (i := 13) (v := ?_) false rfl (by kernel_rfl) (by kernel_rfl) (by kernel_rfl) (by kernel_rfl) (fun _ _ _ h => h) ?_ hC ?_
        rotate_left
        · intro w9 hSw
          simp only [Bool.false_eq_true, if_false] at hSw
          obtain ⟨hS1, hS2⟩ := hSw
          go_simp
          first | done | with_reducible rfl
        simp only [Act.put, List.setIfInBounds_toArray, List.set_cons_zero, List.set_cons_succ]
        refine AnyZ.take (i := 14) (v := ?_) true rfl (by kernel_rfl) (by kernel_rfl) (by kernel_rfl) (by kernel_rfl) (fun _ _ _ h => h) ?_ hD ?_
        rotate_left
        · intro w9 hSw
          simp only [if_true] at hSw
          obtain ⟨hS1, hS2⟩ := hSw
          go_simp
          first | done | with_reducible rfl
        simp only [Act.put, List.setIfInBounds_toArray, List.set_cons_zero, List.set_cons_succ]
        refine AnyZ.take (i := 15) (v := ?_) true rfl (by kernel_rfl) (by kernel_rfl) (by kernel_rfl) (by kernel_rfl) (fun _ _ _ h => h) ?_ hD ?_
        rotate_left
        · intro w9 hSw
          simp only [if_true] at hSw
          obtain ⟨hS1, hS2⟩ := hSw
          go_simp
          first | done | with_reducible rfl
        simp only [Act.put, List.setIfInBounds_toArray, List.set_cons_zero, List.set_cons_succ]
        refine AnyZ.take (i := 16) (v := ?_) true rfl (by kernel_rfl) (by kernel_rfl) (by kernel_rfl) (by kernel_rfl) (fun _ _ _ h => h) ?_ hD ?_
        rotate_left
        · intro w9 hSw
          simp only [if_true] at hSw
          obtain ⟨hS1, hS2⟩ := hSw
          go_simp
          first | done | with_reducible rfl
        simp only [Act.put, List.setIfInBounds_toArray, List.set_cons_zero, List.set_cons_succ]
        refine AnyZ.take (i := 17) (v := ?_) true rfl (by kernel_rfl) (by kernel_rfl) (by kernel_rfl) (by kernel_rfl) (fun _ _ _ h => h) ?_ hD ?_
        rotate_left
        · intro w9 hSw
          simp only [if_true] at hSw
          obtain ⟨hS1, hS2⟩ := hSw
          go_simp
          first | done | with_reducible rfl
        simp only [Act.put, List.setIfInBounds_toArray, List.set_cons_zero, List.set_cons_succ]
        refine AnyZ.take (i := 18) (v := ?_) true rfl (by kernel_rfl) (by kernel_rfl) (by kernel_rfl) (by kernel_rfl) (fun _ _ _ h => h) ?_ hD ?_
        rotate_left
        · intro w9 hSw
          simp only [if_true] at hSw
          obtain ⟨hS1, hS2⟩ := hSw
          go_simp
          first | done | with_reducible rfl
        simp only [Act.put, List.setIfInBounds_toArray, List.set_cons_zero, List.set_cons_succ]
        refine AnyZ.take (i := 19) (v := ?_) true rfl (by kernel_rfl) (by kernel_rfl) (by kernel_rfl) (by kernel_rfl) (fun _ _ _ h => h) ?_ hD ?_
        rotate_left
        · intro w9 hSw
          simp only [if_true] at hSw
          obtain ⟨hS1, hS2⟩ := hSw
          go_simp
          first | done | with_reducible rfl
        simp only [Act.put, List.setIfInBounds_toArray, List.set_cons_zero, List.set_cons_succ]
        refine AnyZ.take (i := 20) (v := ?_) true rfl (by kernel_rfl) (by kernel_rfl) (by kernel_rfl) (by kernel_rfl) (fun _ _ _ h => h) ?_ hD ?_
        rotate_left
        · intro w9 hSw
          simp only [if_true] at hSw
          obtain ⟨hS1, hS2⟩ := hSw
          go_simp
          first | done | with_reducible rfl
        simp only [Act.put, List.setIfInBounds_toArray, List.set_cons_zero, List.set_cons_succ]
        refine AnyZ.next (i := 21) rfl (by kernel_rfl) (fun K hK => ?_)
        go_simp
        refine hK.out _ _ ?_ ?_
        · intro k hz hS
          cases k
          · exact absurd hz (by decide)
          · simp only [if_true] at hS ⊢
            obtain ⟨hS1, hS2⟩ := hS
            go_keep
        try simp only [Act.put, List.setIfInBounds_toArray, List.set_cons_zero, List.set_cons_succ]
        refine AnyZ.next (i := 22) rfl (by kernel_rfl) (fun K hK => ?_)
        go_simp
        refine hK.out _ _ ?_ ?_
        · intro k hz hS
          cases k
          · exact absurd hz (by decide)
          · simp only [if_true] at hS ⊢
            obtain ⟨hS1, hS2⟩ := hS
            go_keep
        try simp only [Act.put, List.setIfInBounds_toArray, List.set_cons_zero, List.set_cons_succ]
        refine AnyZ.next (i := 23) rfl (by kernel_rfl) (fun K hK => ?_)
        go_simp
        refine hK.out _ _ ?_ ?_
        · intro k hz hS
          cases k
          · exact absurd hz (by decide)
          · simp only [if_true] at hS ⊢
            obtain ⟨hS1, hS2⟩ := hS
            go_keep
        try simp only [Act.put, List.setIfInBounds_toArray, List.set_cons_zero, List.set_cons_succ]
        refine AnyZ.next (i := 24) rfl (by kernel_rfl) (fun K hK => ?_)
        go_simp
        refine hK.out _ _ ?_ ?_
        · intro k hz
          cases k <;> exact absurd hz (by decide)
        refine AnyZ.done (by kernel_rfl) ?_
        have hU : IntKind.u64.wrap ((u0 : Int) + IntKind.u64.wrap ((qq : Int) * (u1 : Int))) = ((u0 + qq * u1 : Nat) : Int) := by
          rw [IntKind.wrap_u64, IntKind.wrap_u64, Int.natCast_add, Int.natCast_mul]; omega
        have hV : IntKind.u64.wrap ((v0 : Int) + IntKind.u64.wrap ((qq : Int) * (v1 : Int))) = ((v0 + qq * v1 : Nat) : Int) := by
          rw [IntKind.wrap_u64, IntKind.wrap_u64, Int.natCast_add, Int.natCast_mul]; omega
        rw [hU, hV]
        clear hU hV hD hC
        go_wp2
        refine ⟨⟨y, rr, u0, v0, u1, v1, u0 + qq * u1, v0 + qq * v1, !ev, rfl, rfl, hy, ?_, ?_, ?_, ?_, ?_, ?_⟩, ?_⟩
        · rw [HR.out]; exact Nat.lt_trans (Nat.mod_lt _ hyp) hy
        · have e : ((v0 + qq * v1 : Nat) : Int) = (v0 : Int) + (qq : Int) * (v1 : Int) := by simp
          omega
        · have := (HS.out _ _ _ _ _ _ _ HL.out K1.out K2.out).1
          rw [← HQ.out, ← HR.out] at this
          exact this
        · exact (HS.out _ _ _ _ _ _ _ HL.out K1.out K2.out).2
        · exact HP.out.step (Nat.le_succ _) (by simp) (by simp)
        · exact ((((((HRs.out.drewN.setCell _ (by omega)).setCell _ (by omega)).setCell _ (by omega)).setCell _ (by omega)).setCell _ (by omega)).setCell _ (by omega)).setCell _ (by omega)
        · show rr < y
          rw [HR.out]; exact Nat.mod_lt _ hyp
      · have K2 := hid15 k2
        go_wp2
        try simp only [Exit.inBlock, Exit.then]
        refine bodyPost_ret (v := .agg #[.int .u64 um, .int .u64 vm, .int .u64 u0, .int .u64 v0, .bool ev]) (by rw [results_cell rfl]; go_simp) rfl ?_
        exact ⟨um, vm, u0, v0, ev, rfl, HT.out, ((((be.setCell (by exact Nat.le_refl _) _).setCell (by exact Nat.le_refl _) _).setCell (by exact Nat.le_refl _) _).setCell (by exact Nat.le_refl _) _).setCell (by exact Nat.le_refl _) _⟩
    · go_wp2
      try simp only [Exit.inBlock, Exit.then]
      refine bodyPost_ret (v := .agg #[.int .u64 um, .int .u64 vm, .int .u64 u0, .int .u64 v0, .bool ev]) (by rw [results_cell rfl]; go_simp) rfl ?_
      exact ⟨um, vm, u0, v0, ev, rfl, HT.out, ((((be.setCell (by exact Nat.le_refl _) _).setCell (by exact Nat.le_refl _) _).setCell (by exact Nat.le_refl _) _).setCell (by exact Nat.le_refl _) _).setCell (by exact Nat.le_refl _) _⟩
end Go.Proofs.YtkfdgpidhghhdaaGreatDoor
