/-
  Rats: what is carried along.
-/
import Derived.Test.YtjbeagbkjmaeeaaGreatDoorWI4
import Derived.Test.YtjbeagbkjmaeeaaGreatDoorW11
import Derived.Test.YtjbeagbkjmaeeaaGreatDoorWIm
import Derived.Test.YtjbeagbkjmaeeaaGreatDoorNumI
import Derived.Test.YtjbeagbkjmaeeaaGreatDoorW17
namespace Go.Proofs.YtjbeagbkjmaeeaaGreatDoor
open Go.RowKit
set_option linter.unusedVariables false

set_option maxHeartbeats 2000000 in
set_option maxRecDepth 100000 in
theorem wQuo_is (s : Bool) (ao : Option Addr) (n cap X : Nat) (t : Bool) (ao2 : Option Addr) (m cap2 Y P R : Nat) (Zq Zr : Int) (w : World) (hc : n ≤ cap) (hm : n ≤ 70368744177663) (hS : Seg w ao X n) (hc2 : m ≤ cap2) (hm2 : m ≤ 70368744177663) (hS2 : Seg w ao2 Y m) (h : X = P * Y + R) (hR : R < Y) (hq : sg (s != t) P = Zq) (hr : sg s R = Zr) :
    Calls Tryz.prog 48 #[.agg #[.bool s, .slice ao n cap], .agg #[.bool t, .slice ao2 m cap2]] w fun e w' => ∃ aq ar, e = .returned (.tuple #[.agg #[.bool (ng Zq), .slice aq (ln (am Zq)) (ln (am Zq))], .agg #[.bool (ng Zr), .slice ar (ln (am Zr)) (ln (am Zr))], .int .i64 0]) ∧ New w w' aq (am Zq) (ln (am Zq)) ∧ New w w' ar (am Zr) (ln (am Zr)) := by
  have hP : P ≤ X := by
    have h1 : P * 1 ≤ P * Y := Nat.mul_le_mul_left P (by omega)
    omega
  have hlp : ln P ≤ 70368744177664 := by have := ln_le_of_lt (Nat.lt_of_le_of_lt hP hS.1); omega
  have hlr : ln R ≤ 70368744177664 := by have := ln_le_of_lt (Nat.lt_trans hR hS2.1); omega
  have HD : ∀ w', Seg w' ao X n → Seg w' ao2 Y m → _ := fun w' k1 k2 => Div_is ao ao2 n cap X m cap2 Y P R w' hc hm k1 hc2 hm2 k2 h hR
  have HDh := hide' HD
  clear h hR HD hP
  go_enter Tryz.func48, Tryz.ntmps48
  go_wp2_with fail
  obtain ⟨W, hW⟩ : ∃ W, ((((w.alloc (.cells #[.bool s, .slice ao n cap] 25)).alloc (.cells #[.bool t, .slice ao2 m cap2] 25)).alloc (.cells #[.bool false, .slice none 0 0] 25)).alloc (.cells #[.bool false, .slice none 0 0] 25)) = W := ⟨_, rfl⟩
  have q00 : W.cell? ⟨w.heap.size, 0, none⟩ = some (.bool s) := by subst hW; go_simp
  have q01 : W.cell? ⟨w.heap.size, 1, none⟩ = some (.slice ao n cap) := by subst hW; go_simp
  have q10 : W.cell? ⟨w.heap.size + 1, 0, none⟩ = some (.bool t) := by subst hW; go_simp
  have q11 : W.cell? ⟨w.heap.size + 1, 1, none⟩ = some (.slice ao2 m cap2) := by subst hW; go_simp
  have r00 : W.cell? ⟨w.heap.size + 1 + 1, 0, none⟩ = some (.bool false) := by subst hW; go_simp
  have r01 : W.cell? ⟨w.heap.size + 1 + 1, 1, none⟩ = some (.slice none 0 0) := by subst hW; go_simp
  have r10 : W.cell? ⟨w.heap.size + 1 + 1 + 1, 0, none⟩ = some (.bool false) := by subst hW; go_simp
  have r11 : W.cell? ⟨w.heap.size + 1 + 1 + 1, 1, none⟩ = some (.slice none 0 0) := by subst hW; go_simp
  have hB : Below w.heap.size w W := by subst hW; exact (((((Below.refl _ _).alloc (by (try simp only [World.size_alloc]); omega) _).alloc (by (try simp only [World.size_alloc]); omega) _).alloc (by (try simp only [World.size_alloc]); omega) _).alloc (by (try simp only [World.size_alloc]); omega) _)
  have hR0 : Row W (w.heap.size + 1 + 1) := by
    have := row_new (((w.alloc (.cells #[.bool s, .slice ao n cap] 25)).alloc (.cells #[.bool t, .slice ao2 m cap2] 25))) #[.bool false, .slice none 0 0] 25
    try simp only [World.size_alloc] at this
    subst hW; exact (this.alloc _)
  have hR1 : Row W (w.heap.size + 1 + 1 + 1) := by
    have := row_new ((((w.alloc (.cells #[.bool s, .slice ao n cap] 25)).alloc (.cells #[.bool t, .slice ao2 m cap2] 25)).alloc (.cells #[.bool false, .slice none 0 0] 25))) #[.bool false, .slice none 0 0] 25
    try simp only [World.size_alloc] at this
    subst hW; exact this
  have hz : W.heap.size = w.heap.size + 1 + 1 + 1 + 1 := by subst hW; simp only [World.size_alloc]
  rw [hW]
  clear hW
  have hBW : Below W.heap.size W W := Below.refl _ _
  refine (HDh.out _ (sb hS hB hBW) (sb hS2 hB hBW)).mono ?_
  rintro e w1 ⟨a1, c1, rfl, hn, hk⟩
  have b1 := hn.below
  replace hBW := hBW.trans (b1.mono hBW.size)
  replace q00 := below_cell b1 q00
  replace q01 := below_cell b1 q01
  replace q10 := below_cell b1 q10
  replace q11 := below_cell b1 q11
  replace r00 := below_cell b1 r00
  replace r01 := below_cell b1 r01
  replace r10 := below_cell b1 r10
  replace r11 := below_cell b1 r11
  replace hR0 := below_row b1 hR0
  replace hR1 := below_row b1 hR1
  go_wp2_with fail
  replace hBW := hBW.drew
  replace hn := hn.drew
  replace hk := hk.drew
  first
    | go_region_held3 (fun w' => w'.cell? ⟨w.heap.size, 0, none⟩ = some (.bool s) ∧ w'.cell? ⟨w.heap.size, 1, none⟩ = some (.slice ao n cap) ∧ w'.cell? ⟨w.heap.size + 1, 0, none⟩ = some (.bool t) ∧ w'.cell? ⟨w.heap.size + 1, 1, none⟩ = some (.slice ao2 m cap2) ∧ Below w.heap.size w w')
        (first | exact ⟨q00, q01, q10, q11, hB.trans (hBW.mono hB.size)⟩ | exact kp4 b2 (by assumption) | exact kp4 b3 (by assumption) | exact kp4 b4 (by assumption) | exact kp4 b5 (by assumption) | exact kp4 (below_alloc _) (by assumption) | exact kpS4 (kpS4 (by assumption) (by omega) (by omega)  (by omega)) (by omega) (by omega)  (by omega))
        (first
          | (go_at_call 86; go_at_call_of 86 (Value.agg #[.bool s, .slice ao n cap]); refine (side_any s _ _).mono ?_; rintro e w2 ⟨rfl, b2⟩; replace hBW := hBW.trans (b2.mono hBW.size); replace q00 := below_cell b2 q00; replace q01 := below_cell b2 q01; replace q10 := below_cell b2 q10; replace q11 := below_cell b2 q11; replace r00 := below_cell b2 r00; replace r01 := below_cell b2 r01; replace r10 := below_cell b2 r10; replace r11 := below_cell b2 r11; replace hR0 := below_row b2 hR0; replace hR1 := below_row b2 hR1; replace hn := hn.later b2; replace hk := hk.later b2)
          | (go_at_call 86; go_at_call_of 86 (Value.agg #[.bool t, .slice ao2 m cap2]); refine (side_any t _ _).mono ?_; rintro e w3 ⟨rfl, b3⟩; replace hBW := hBW.trans (b3.mono hBW.size); replace q00 := below_cell b3 q00; replace q01 := below_cell b3 q01; replace q10 := below_cell b3 q10; replace q11 := below_cell b3 q11; replace r00 := below_cell b3 r00; replace r01 := below_cell b3 r01; replace r10 := below_cell b3 r10; replace r11 := below_cell b3 r11; replace hR0 := below_row b3 hR0; replace hR1 := below_row b3 hR1; replace hn := hn.later b3; replace hk := hk.later b3)
          | (go_at_call 85; go_at_call_of 85 (Value.slice a1 (ln P) (ln P)); refine (signed2 a1 (ln P) (ln P) s t _ (by omega)).mono ?_; rintro e w4 ⟨rfl, b4⟩; replace hBW := hBW.trans (b4.mono hBW.size); replace q00 := below_cell b4 q00; replace q01 := below_cell b4 q01; replace q10 := below_cell b4 q10; replace q11 := below_cell b4 q11; replace r00 := below_cell b4 r00; replace r01 := below_cell b4 r01; replace r10 := below_cell b4 r10; replace r11 := below_cell b4 r11; replace hR0 := below_row b4 hR0; replace hR1 := below_row b4 hR1; replace hn := hn.later b4; replace hk := hk.later b4)
          | (go_at_call 85; go_at_call_of 85 (Value.slice c1 (ln R) (ln R)); refine (signed1 c1 (ln R) (ln R) s _ (by omega)).mono ?_; rintro e w5 ⟨rfl, b5⟩; replace hBW := hBW.trans (b5.mono hBW.size); replace q00 := below_cell b5 q00; replace q01 := below_cell b5 q01; replace q10 := below_cell b5 q10; replace q11 := below_cell b5 q11; replace r00 := below_cell b5 r00; replace r01 := below_cell b5 r01; replace r10 := below_cell b5 r10; replace r11 := below_cell b5 r11; replace hR0 := below_row b5 hR0; replace hR1 := below_row b5 hR1; replace hn := hn.later b5; replace hk := hk.later b5; have fz0 := fun o => hR0.frozen o; have fz1 := fun o => hR1.frozen o))
    | fail
  go_wp2
  refine bodyPost_ret (v := .tuple #[.agg #[.bool ((s != t) && decide (0 < ln P)), .slice a1 (ln P) (ln P)], .agg #[.bool (s && decide (0 < ln R)), .slice c1 (ln R) (ln R)], .int .i64 0]) (by rw [results_cct rfl]; go_simp) rfl ?_
  exact ⟨a1, c1, res_eq3 hq hr, NewI (hn.ret2 hB (by omega) (by omega) (by omega) (by omega) _ _ _ _) hq, NewI (hk.ret2 hB (by omega) (by omega) (by omega) (by omega) _ _ _ _) hr⟩
end Go.Proofs.YtjbeagbkjmaeeaaGreatDoor

namespace Go.Proofs.YtjbeagbkjmaeeaaGreatDoor
set_option linter.unusedVariables false

/-- what is above, as a number is read -/
def rn (s : Bool) (X Y : Nat) : Int := if Y = 0 then 0 else sg s X
/-- what is below -/
def rd (Y : Nat) : Nat := if Y = 0 then 1 else Y
theorem rd_pos (Y : Nat) : 0 < rd Y := by unfold rd; split <;> omega
theorem rd_ne (Y : Nat) : ((rd Y : Nat) : Int) ≠ 0 := by have := rd_pos Y; omega
theorem rn_of {s : Bool} {X Y : Nat} (h : Y ≠ 0) : rn s X Y = sg s X := if_neg h
theorem rd_of {Y : Nat} (h : Y ≠ 0) : rd Y = Y := if_neg h
theorem rn_nf {Z : Int} {V : Nat} (h : 0 < V) : rn (ng Z) (am Z) V = Z := by rw [rn_of (by omega), sg_na]
theorem rd_nf {V : Nat} (h : 0 < V) : rd V = V := rd_of (by omega)
theorem rn_am (s : Bool) (X Y : Nat) : am (rn s X Y) ≤ X := by
  unfold rn; split
  · simp [am]
  · rw [am_sg]; exact Nat.le_refl _
theorem am_mul (a b : Int) : am (a * b) = am a * am b := Int.natAbs_mul a b
theorem am_neg (a : Int) : am (-a) = am a := Int.natAbs_neg a

/-- Z / V is A / D, in lowest terms -/
structure Low (A D Z : Int) (V : Nat) : Prop where
  ne : D ≠ 0
  pos : 0 < V
  eq : Z * D = A * V
  cop : Nat.gcd (am Z) V = 1

theorem mul_cancel {a b c : Int} (h : c ≠ 0) (e : a * c = b * c) : a = b := Int.eq_of_mul_eq_mul_right h e

theorem Low.congr {A D A' D' Z : Int} {V : Nat} (h : Low A D Z V) (hD : D' ≠ 0) (e : A * D' = A' * D) : Low A' D' Z V := by
  refine ⟨hD, h.pos, mul_cancel h.ne ?_, h.cop⟩
  have h1 := h.eq
  grind
theorem Low.cross {A D Z A' D' Z' : Int} {V V' : Nat} (h : Low A D Z V) (k : Low A' D' Z' V') (e : A * D' = A' * D) : Z * V' = Z' * V := by
  refine mul_cancel h.ne (mul_cancel k.ne ?_)
  have h1 := h.eq
  have h2 := k.eq
  grind
theorem cop_uniq {a b c d : Nat} (h1 : Nat.gcd a b = 1) (h2 : Nat.gcd c d = 1) (hb : 0 < b) (hd : 0 < d) (e : a * d = c * b) : b = d ∧ a = c := by
  have k1 : b ∣ d := Nat.Coprime.dvd_of_dvd_mul_left (k := b) (m := a) (n := d) (by rw [Nat.Coprime, Nat.gcd_comm]; exact h1) ⟨c, by rw [e, Nat.mul_comm]⟩
  have k2 : d ∣ b := Nat.Coprime.dvd_of_dvd_mul_left (k := d) (m := c) (n := b) (by rw [Nat.Coprime, Nat.gcd_comm]; exact h2) ⟨a, by rw [← e, Nat.mul_comm]⟩
  have hbd := Nat.dvd_antisymm k1 k2
  subst hbd
  exact ⟨rfl, Nat.eq_of_mul_eq_mul_right hb e⟩
theorem cross_uniq {Z Z' : Int} {V V' : Nat} (h1 : Nat.gcd (am Z) V = 1) (h2 : Nat.gcd (am Z') V' = 1) (hV : 0 < V) (hV' : 0 < V') (e : Z * V' = Z' * V) : Z = Z' ∧ V = V' := by
  have e2 : am Z * V' = am Z' * V := by
    have := congrArg am e
    rwa [am_mul, am_mul, am_nat, am_nat] at this
  obtain ⟨k1, k2⟩ := cop_uniq h1 h2 hV hV' e2
  subst k1
  exact ⟨mul_cancel (by omega) e, rfl⟩
theorem Low.uniq {A D Z A' D' Z' : Int} {V V' : Nat} (h : Low A D Z V) (k : Low A' D' Z' V') (e : A * D' = A' * D) : Z = Z' ∧ V = V' :=
  cross_uniq h.cop k.cop h.pos k.pos (h.cross k e)
/-- what lowest makes -/
theorem low_made (s t : Bool) {X Y P Q g : Nat} (hY : Y ≠ 0) (hg : g = Nat.gcd X Y) (hP : X = P * g) (hQ : Y = Q * g) : Low (sg s X) (sg t Y) (if t then -(sg s P) else sg s P) Q := by
  have hg0 : 0 < g := by rw [hg]; exact Nat.gcd_pos_of_pos_right _ (by omega)
  have hQ0 : 0 < Q := by
    rcases Nat.eq_zero_or_pos Q with e | e
    · rw [e, Nat.zero_mul] at hQ; omega
    · exact e
  refine ⟨fun e => hY (sg_eq_zero.1 e), hQ0, ?_, ?_⟩
  · subst hP hQ
    cases s <;> cases t <;> simp only [sg, if_true, Bool.false_eq_true, if_false, Int.natCast_mul] <;> grind
  · have h1 : am (if t then -(sg s P) else sg s P) = P := by
      cases t
      · simp only [Bool.false_eq_true, if_false]; exact am_sg _ _
      · simp only [if_true]; rw [am_neg]; exact am_sg _ _
    rw [h1]
    have h2 : Nat.gcd P Q * g = g := by
      rw [← Nat.gcd_mul_right, ← hP, ← hQ, ← hg]
    exact Nat.eq_of_mul_eq_mul_right hg0 (by rw [h2, Nat.one_mul])
theorem gcd_parts (X Y : Nat) : ∃ P Q, X = P * Nat.gcd X Y ∧ Y = Q * Nat.gcd X Y := by
  obtain ⟨p, hp⟩ := Nat.gcd_dvd_left X Y
  obtain ⟨q, hq⟩ := Nat.gcd_dvd_right X Y
  exact ⟨p, q, by rw [Nat.mul_comm]; exact hp, by rw [Nat.mul_comm]; exact hq⟩
theorem low_ex (A D : Int) (hD : D ≠ 0) : ∃ Z V, Low A D Z V := by
  obtain ⟨P, Q, hP, hQ⟩ := gcd_parts (am A) (am D)
  have := low_made (ng A) (ng D) (fun e => hD (am_eq_zero.1 e)) rfl hP hQ
  rw [sg_na, sg_na] at this
  exact ⟨_, _, this⟩
theorem Low.le {A D Z : Int} {V : Nat} (h : Low A D Z V) : am Z ≤ am A ∧ V ≤ am D := by
  have e2 : am Z * am D = am A * V := by
    have := congrArg am h.eq
    rwa [am_mul, am_mul, am_nat] at this
  have hD : 0 < am D := Nat.pos_of_ne_zero fun e => h.ne (am_eq_zero.1 e)
  have k1 : V ∣ am D := Nat.Coprime.dvd_of_dvd_mul_left (k := V) (m := am Z) (n := am D) (by rw [Nat.Coprime, Nat.gcd_comm]; exact h.cop) ⟨am A, by rw [e2, Nat.mul_comm]⟩
  have k2 : V ≤ am D := Nat.le_of_dvd hD k1
  refine ⟨?_, k2⟩
  refine Nat.le_of_mul_le_mul_right (c := V) ?_ h.pos
  rw [← e2]
  exact Nat.mul_le_mul_left _ k2
/-- a number in lowest terms already -/
theorem Low.self {Z : Int} {V : Nat} (hV : 0 < V) (hc : Nat.gcd (am Z) V = 1) : Low Z V Z V := ⟨by omega, hV, rfl, hc⟩
theorem Low.zero {D Z : Int} {V : Nat} (h : Low 0 D Z V) : Z = 0 ∧ V = 1 := by
  have e := h.eq
  rw [Int.zero_mul] at e
  have hZ : Z = 0 := by
    rcases Int.mul_eq_zero.1 e with k | k
    · exact k
    · exact absurd k h.ne
  subst hZ
  have := h.cop
  simp [am] at this
  exact ⟨rfl, this⟩
theorem low_zero {D : Int} (hD : D ≠ 0) : Low 0 D 0 1 := ⟨hD, by omega, by simp, by simp [am]⟩
/-- the sign of what is above -/
theorem sgn_mul_pos {a b : Int} (h : 0 < b) : sgn (a * b) = sgn a := by
  rcases Int.lt_trichotomy a 0 with k | k | k
  · rw [sgn_neg k, sgn_neg (Int.mul_neg_of_neg_of_pos k h)]
  · subst k; rw [Int.zero_mul]
  · rw [sgn_pos k, sgn_pos (Int.mul_pos k h)]
theorem Low.sgn {A D Z : Int} {V : Nat} (h : Low A D Z V) (hD : 0 < D) : sgn Z = Proofs.YtjbeagbkjmaeeaaGreatDoor.sgn A := by
  have h1 := sgn_mul_pos (a := Z) hD
  have h2 := sgn_mul_pos (a := A) (b := (V : Int)) (by have := h.pos; omega)
  rw [← h1, h.eq, h2]
end Go.Proofs.YtjbeagbkjmaeeaaGreatDoor

namespace Go.Proofs.YtjbeagbkjmaeeaaGreatDoor
open Go.RowKit
set_option linter.unusedVariables false

theorem Seg.later {w1 w' : World} {a : Option Addr} {Z n : Nat} (h : Seg w1 a Z n) (hb : Below w1.heap.size w1 w') : Seg w' a Z n := h.below hb (Nat.le_refl _)
theorem bset {w w' : World} {c o : Nat} {u : Value} (h : Below w.heap.size w w') (hc : w.heap.size ≤ c) : Below w.heap.size w (w'.setCell ⟨c, o, none⟩ u) := h.setCell hc _
theorem results_ct {fn : Func} {p u : Tmp} {ty : TypeId} (h : fn.results = #[.cell p ty, .tmp u]) (tmps : Array Value) (P : Program) (w : World) :
    (results fn tmps).run P w = ((asAddr (tmps.getD p undef)).run P w).andThen fun a w1 => ((loadVar ty a).run P w1).andThen fun v w2 => .ok (.tuple #[v, tmps.getD u undef]) w2 := by
  simp only [results, h]
  simp [Sem.run_bind]
theorem kp3 {w W W' : World} {p0 p1 p2 : Addr} {v0 v1 v2 : Value} (hb : Below W.heap.size W W') (h : W.cell? p0 = some v0 ∧ W.cell? p1 = some v1 ∧ W.cell? p2 = some v2 ∧ Below w.heap.size w W) : W'.cell? p0 = some v0 ∧ W'.cell? p1 = some v1 ∧ W'.cell? p2 = some v2 ∧ Below w.heap.size w W' :=
  ⟨below_cell hb h.1, below_cell hb h.2.1, below_cell hb h.2.2.1, h.2.2.2.trans (hb.mono h.2.2.2.size)⟩
theorem kp5 {w W W' : World} {p0 p1 p2 p3 p4 : Addr} {v0 v1 v2 v3 v4 : Value} (hb : Below W.heap.size W W') (h : W.cell? p0 = some v0 ∧ W.cell? p1 = some v1 ∧ W.cell? p2 = some v2 ∧ W.cell? p3 = some v3 ∧ W.cell? p4 = some v4 ∧ Below w.heap.size w W) : W'.cell? p0 = some v0 ∧ W'.cell? p1 = some v1 ∧ W'.cell? p2 = some v2 ∧ W'.cell? p3 = some v3 ∧ W'.cell? p4 = some v4 ∧ Below w.heap.size w W' :=
  ⟨below_cell hb h.1, below_cell hb h.2.1, below_cell hb h.2.2.1, below_cell hb h.2.2.2.1, below_cell hb h.2.2.2.2.1, h.2.2.2.2.2.trans (hb.mono h.2.2.2.2.2.size)⟩
theorem kpT3_3 {w W : World} {b0 o0 b1 o1 b2 o2 c : Nat} {v0 v1 v2 u0 u1 u2 : Value} (h : W.cell? ⟨b0, o0, none⟩ = some v0 ∧ W.cell? ⟨b1, o1, none⟩ = some v1 ∧ W.cell? ⟨b2, o2, none⟩ = some v2 ∧ Below w.heap.size w W) (hne0 : c ≠ b0) (hne1 : c ≠ b1) (hne2 : c ≠ b2) (hc : w.heap.size ≤ c) :
    (((W.setCell ⟨c, 0, none⟩ u0).setCell ⟨c, 1, none⟩ u1).setCell ⟨c, 2, none⟩ u2).cell? ⟨b0, o0, none⟩ = some v0 ∧ (((W.setCell ⟨c, 0, none⟩ u0).setCell ⟨c, 1, none⟩ u1).setCell ⟨c, 2, none⟩ u2).cell? ⟨b1, o1, none⟩ = some v1 ∧ (((W.setCell ⟨c, 0, none⟩ u0).setCell ⟨c, 1, none⟩ u1).setCell ⟨c, 2, none⟩ u2).cell? ⟨b2, o2, none⟩ = some v2 ∧ Below w.heap.size w (((W.setCell ⟨c, 0, none⟩ u0).setCell ⟨c, 1, none⟩ u1).setCell ⟨c, 2, none⟩ u2) :=
  ⟨by rw [World.cell?_setCell_far _ _ _ _ (by exact hne0), World.cell?_setCell_far _ _ _ _ (by exact hne0), World.cell?_setCell_far _ _ _ _ (by exact hne0)]; exact h.1, by rw [World.cell?_setCell_far _ _ _ _ (by exact hne1), World.cell?_setCell_far _ _ _ _ (by exact hne1), World.cell?_setCell_far _ _ _ _ (by exact hne1)]; exact h.2.1, by rw [World.cell?_setCell_far _ _ _ _ (by exact hne2), World.cell?_setCell_far _ _ _ _ (by exact hne2), World.cell?_setCell_far _ _ _ _ (by exact hne2)]; exact h.2.2.1, (((h.2.2.2.setCell hc _).setCell hc _).setCell hc _)⟩
set_option maxHeartbeats 1000000 in
theorem wGcd_is (s : Bool) (ao : Option Addr) (n cap X : Nat) (t : Bool) (ao2 : Option Addr) (m cap2 Y G : Nat) (w : World) (hc : n ≤ cap) (hm : n ≤ 70368744177663) (hS : Seg w ao X n) (hc2 : m ≤ cap2) (hm2 : m ≤ 70368744177663) (hS2 : Seg w ao2 Y m) (h : Nat.gcd X Y = G) :
    Calls Tryz.prog 47 #[.agg #[.bool s, .slice ao n cap], .agg #[.bool t, .slice ao2 m cap2]] w fun e w' => ∃ ag, e = .returned (.slice ag (ln G) (ln G)) ∧ New w w' ag G (ln G) := by
  have HG := hide' (fun w' k1 k2 => Gcd_is ao ao2 n cap X m cap2 Y G w' hc hm k1 hc2 hm2 k2 h)
  clear h
  go_enter Tryz.func47, Tryz.ntmps47
  go_wp2_with fail
  obtain ⟨W, hW⟩ : ∃ W, ((w.alloc (.cells #[.bool s, .slice ao n cap] 25)).alloc (.cells #[.bool t, .slice ao2 m cap2] 25)) = W := ⟨_, rfl⟩
  have q00 : W.cell? ⟨w.heap.size, 0, none⟩ = some (.bool s) := by subst hW; go_simp
  have q01 : W.cell? ⟨w.heap.size, 1, none⟩ = some (.slice ao n cap) := by subst hW; go_simp
  have q10 : W.cell? ⟨w.heap.size + 1, 0, none⟩ = some (.bool t) := by subst hW; go_simp
  have q11 : W.cell? ⟨w.heap.size + 1, 1, none⟩ = some (.slice ao2 m cap2) := by subst hW; go_simp
  have hB : Below w.heap.size w W := by subst hW; exact (((Below.refl _ _).alloc (by (try simp only [World.size_alloc]); omega) _).alloc (by (try simp only [World.size_alloc]); omega) _)
  have hz : W.heap.size = w.heap.size + 1 + 1 := by subst hW; simp only [World.size_alloc]
  rw [hW]
  clear hW
  have hBW : Below W.heap.size W W := Below.refl _ _
  refine (HG.out _ (sb hS hB hBW) (sb hS2 hB hBW)).mono ?_
  rintro e w1 ⟨a1, rfl, hn⟩
  have b1 := hn.below
  replace hn := hn.back hBW
  replace hBW := hBW.trans (b1.mono hBW.size)
  replace q00 := below_cell b1 q00
  replace q01 := below_cell b1 q01
  replace q10 := below_cell b1 q10
  replace q11 := below_cell b1 q11
  go_wp2
  go_ret
  exact ⟨a1, rfl, hn.back hB⟩

set_option maxHeartbeats 1000000 in
theorem read_nz (s : Bool) (ao : Option Addr) (n cap : Nat) (ao2 : Option Addr) (m cap2 Y : Nat) (w : World) (hc2 : m ≤ cap2) (hm2 : m ≤ 70368744177664) (hS2 : Seg w ao2 Y m) (hY : Y ≠ 0) :
    Calls Tryz.prog 55 #[.agg #[.bool s, .slice ao n cap, .slice ao2 m cap2]] w fun e w' => e = .returned (.agg #[.bool s, .slice ao n cap, .bool false, .slice ao2 m cap2]) ∧ Below w.heap.size w w' := by
  obtain ⟨Z, hZ⟩ : ∃ Z, sg false Y = Z := ⟨_, rfl⟩
  have hx : (sgn Z == 0) = false := by rw [← hZ, sgn_sg hY]; rfl
  have HZ := hide' hZ
  clear hZ
  go_enter Tryz.func55, Tryz.ntmps55
  go_wp2_with fail
  obtain ⟨W, hW⟩ : ∃ W, (((w.alloc (.cells #[.bool s, .slice ao n cap, .slice ao2 m cap2] 27)).alloc (.cells #[.bool false, .slice none 0 0, .bool false, .slice none 0 0] 53)).alloc (.cells #[.bool false, .slice ao2 m cap2] 25)) = W := ⟨_, rfl⟩
  have q00 : W.cell? ⟨w.heap.size, 0, none⟩ = some (.bool s) := by subst hW; go_simp
  have q01 : W.cell? ⟨w.heap.size, 1, none⟩ = some (.slice ao n cap) := by subst hW; go_simp
  have q02 : W.cell? ⟨w.heap.size, 2, none⟩ = some (.slice ao2 m cap2) := by subst hW; go_simp
  have r00 : W.cell? ⟨w.heap.size + 1, 0, none⟩ = some (.bool false) := by subst hW; go_simp
  have r01 : W.cell? ⟨w.heap.size + 1, 1, none⟩ = some (.slice none 0 0) := by subst hW; go_simp
  have r02 : W.cell? ⟨w.heap.size + 1, 2, none⟩ = some (.bool false) := by subst hW; go_simp
  have r03 : W.cell? ⟨w.heap.size + 1, 3, none⟩ = some (.slice none 0 0) := by subst hW; go_simp
  have r10 : W.cell? ⟨w.heap.size + 1 + 1, 0, none⟩ = some (.bool false) := by subst hW; go_simp
  have r11 : W.cell? ⟨w.heap.size + 1 + 1, 1, none⟩ = some (.slice ao2 m cap2) := by subst hW; go_simp
  have hB : Below w.heap.size w W := by subst hW; exact ((((Below.refl _ _).alloc (by (try simp only [World.size_alloc]); omega) _).alloc (by (try simp only [World.size_alloc]); omega) _).alloc (by (try simp only [World.size_alloc]); omega) _)
  have hR0 : Row W (w.heap.size + 1) := by
    have := row_new ((w.alloc (.cells #[.bool s, .slice ao n cap, .slice ao2 m cap2] 27))) #[.bool false, .slice none 0 0, .bool false, .slice none 0 0] 53
    try simp only [World.size_alloc] at this
    subst hW; exact (this.alloc _)
  have hR1 : Row W (w.heap.size + 1 + 1) := by
    have := row_new (((w.alloc (.cells #[.bool s, .slice ao n cap, .slice ao2 m cap2] 27)).alloc (.cells #[.bool false, .slice none 0 0, .bool false, .slice none 0 0] 53))) #[.bool false, .slice ao2 m cap2] 25
    try simp only [World.size_alloc] at this
    subst hW; exact this
  have hz : W.heap.size = w.heap.size + 1 + 1 + 1 := by subst hW; simp only [World.size_alloc]
  rw [hW]
  clear hW
  have hBW : Below W.heap.size W W := Below.refl _ _
  refine (wSign_is false ao2 m cap2 Y Z _ hc2 hm2 (sb hS2 hB hBW) HZ.out).mono ?_
  rintro e w1 ⟨rfl, b1⟩
  replace hBW := hBW.trans (b1.mono hBW.size)
  replace q00 := below_cell b1 q00
  replace q01 := below_cell b1 q01
  replace q02 := below_cell b1 q02
  replace r00 := below_cell b1 r00
  replace r01 := below_cell b1 r01
  replace r02 := below_cell b1 r02
  replace r03 := below_cell b1 r03
  replace r10 := below_cell b1 r10
  replace r11 := below_cell b1 r11
  replace hR0 := below_row b1 hR0
  replace hR1 := below_row b1 hR1
  have fz0 := fun o => hR0.frozen o
  have fz1 := fun o => hR1.frozen o
  go_wp2
  all_goals refine bodyPost_ret (v := .agg #[.bool s, .slice ao n cap, .bool false, .slice ao2 m cap2]) (by rw [results_cell rfl]; go_simp) rfl ?_
  all_goals exact ⟨rfl, ((bset (bset (bset (bset (hB.trans (hBW.mono hB.size)) (by omega)) (by omega)) (by omega)) (by omega)))⟩

set_option maxHeartbeats 1000000 in
set_option maxRecDepth 30000 in
theorem read_z (s : Bool) (ao : Option Addr) (n cap : Nat) (ao2 : Option Addr) (m cap2 : Nat) (w : World) (hc2 : m ≤ cap2) (hm2 : m ≤ 70368744177664) (hS2 : Seg w ao2 0 m) :
    Calls Tryz.prog 55 #[.agg #[.bool s, .slice ao n cap, .slice ao2 m cap2]] w fun e w' => ∃ p q, e = .returned (.agg #[.bool (ng 0), .slice p (ln (am 0)) (ln (am 0)), .bool (ng 1), .slice q (ln (am 1)) (ln (am 1))]) ∧ New w w' p (am 0) (ln (am 0)) ∧ New w w' q (am 1) (ln (am 1)) := by
  obtain ⟨Z0, hZ0⟩ : ∃ Z0 : Int, 0 = Z0 := ⟨_, rfl⟩
  obtain ⟨Z1, hZ1⟩ : ∃ Z1 : Int, 1 = Z1 := ⟨_, rfl⟩
  have H0 : ∀ w', Calls Tryz.prog 89 #[.int .i64 0] w' fun e w'' => ∃ ao', e = .returned (.agg #[.bool (ng Z0), .slice ao' (ln (am Z0)) (ln (am Z0))]) ∧ New w' w'' ao' (am Z0) (ln (am Z0)) := fun w' => hZ0 ▸ wOf_is 0 w' (by omega) (by omega)
  have H1 : ∀ w', Calls Tryz.prog 89 #[.int .i64 1] w' fun e w'' => ∃ ao', e = .returned (.agg #[.bool (ng Z1), .slice ao' (ln (am Z1)) (ln (am Z1))]) ∧ New w' w'' ao' (am Z1) (ln (am Z1)) := fun w' => hZ1 ▸ wOf_is 1 w' (by omega) (by omega)
  rw [show am 0 = am Z0 from congrArg am hZ0, show am 1 = am Z1 from congrArg am hZ1, show ng 0 = ng Z0 from congrArg ng hZ0, show ng 1 = ng Z1 from congrArg ng hZ1]
  have G0 := hide' H0
  have G1 := hide' H1
  clear H0 H1 hZ0 hZ1
  go_enter Tryz.func55, Tryz.ntmps55
  go_wp2_with fail
  obtain ⟨W, hW⟩ : ∃ W, (((w.alloc (.cells #[.bool s, .slice ao n cap, .slice ao2 m cap2] 27)).alloc (.cells #[.bool false, .slice none 0 0, .bool false, .slice none 0 0] 53)).alloc (.cells #[.bool false, .slice ao2 m cap2] 25)) = W := ⟨_, rfl⟩
  have q00 : W.cell? ⟨w.heap.size, 0, none⟩ = some (.bool s) := by subst hW; go_simp
  have q01 : W.cell? ⟨w.heap.size, 1, none⟩ = some (.slice ao n cap) := by subst hW; go_simp
  have q02 : W.cell? ⟨w.heap.size, 2, none⟩ = some (.slice ao2 m cap2) := by subst hW; go_simp
  have r00 : W.cell? ⟨w.heap.size + 1, 0, none⟩ = some (.bool false) := by subst hW; go_simp
  have r01 : W.cell? ⟨w.heap.size + 1, 1, none⟩ = some (.slice none 0 0) := by subst hW; go_simp
  have r02 : W.cell? ⟨w.heap.size + 1, 2, none⟩ = some (.bool false) := by subst hW; go_simp
  have r03 : W.cell? ⟨w.heap.size + 1, 3, none⟩ = some (.slice none 0 0) := by subst hW; go_simp
  have r10 : W.cell? ⟨w.heap.size + 1 + 1, 0, none⟩ = some (.bool false) := by subst hW; go_simp
  have r11 : W.cell? ⟨w.heap.size + 1 + 1, 1, none⟩ = some (.slice ao2 m cap2) := by subst hW; go_simp
  have hB : Below w.heap.size w W := by subst hW; exact ((((Below.refl _ _).alloc (by (try simp only [World.size_alloc]); omega) _).alloc (by (try simp only [World.size_alloc]); omega) _).alloc (by (try simp only [World.size_alloc]); omega) _)
  have hR0 : Row W (w.heap.size + 1) := by
    have := row_new ((w.alloc (.cells #[.bool s, .slice ao n cap, .slice ao2 m cap2] 27))) #[.bool false, .slice none 0 0, .bool false, .slice none 0 0] 53
    try simp only [World.size_alloc] at this
    subst hW; exact (this.alloc _)
  have hR1 : Row W (w.heap.size + 1 + 1) := by
    have := row_new (((w.alloc (.cells #[.bool s, .slice ao n cap, .slice ao2 m cap2] 27)).alloc (.cells #[.bool false, .slice none 0 0, .bool false, .slice none 0 0] 53))) #[.bool false, .slice ao2 m cap2] 25
    try simp only [World.size_alloc] at this
    subst hW; exact this
  have hz : W.heap.size = w.heap.size + 1 + 1 + 1 := by subst hW; simp only [World.size_alloc]
  rw [hW]
  clear hW
  have hBW : Below W.heap.size W W := Below.refl _ _
  refine (wSign_is false ao2 m cap2 0 0 _ hc2 hm2 (sb hS2 hB hBW) rfl).mono ?_
  rintro e w1 ⟨rfl, b1⟩
  replace hBW := hBW.trans (b1.mono hBW.size)
  replace q00 := below_cell b1 q00
  replace q01 := below_cell b1 q01
  replace q02 := below_cell b1 q02
  replace r00 := below_cell b1 r00
  replace r01 := below_cell b1 r01
  replace r02 := below_cell b1 r02
  replace r03 := below_cell b1 r03
  replace r10 := below_cell b1 r10
  replace r11 := below_cell b1 r11
  replace hR0 := below_row b1 hR0
  replace hR1 := below_row b1 hR1
  rw [sgn_zero]
  go_wp2_with fail
  refine (G0.out _).mono ?_
  rintro e w2 ⟨a2, rfl, hn⟩
  have b2 := hn.below
  replace hn := hn.back hBW
  replace hBW := hBW.trans (b2.mono hBW.size)
  replace q00 := below_cell b2 q00
  replace q01 := below_cell b2 q01
  replace q02 := below_cell b2 q02
  replace r00 := below_cell b2 r00
  replace r01 := below_cell b2 r01
  replace r02 := below_cell b2 r02
  replace r03 := below_cell b2 r03
  replace r10 := below_cell b2 r10
  replace r11 := below_cell b2 r11
  replace hR0 := below_row b2 hR0
  replace hR1 := below_row b2 hR1
  go_wp2_with fail
  refine (G1.out _).mono ?_
  rintro e w3 ⟨a3, rfl, hk⟩
  have b3 := hk.below
  replace hk := hk.back hBW
  replace hBW := hBW.trans (b3.mono hBW.size)
  replace q00 := below_cell b3 q00
  replace q01 := below_cell b3 q01
  replace q02 := below_cell b3 q02
  replace r00 := below_cell b3 r00
  replace r01 := below_cell b3 r01
  replace r02 := below_cell b3 r02
  replace r03 := below_cell b3 r03
  replace r10 := below_cell b3 r10
  replace r11 := below_cell b3 r11
  replace hR0 := below_row b3 hR0
  replace hR1 := below_row b3 hR1
  replace hn := hn.later b3
  have fz0 := fun o => hR0.frozen o
  have fz1 := fun o => hR1.frozen o
  go_wp2
  all_goals refine bodyPost_ret (v := .agg #[.bool (ng Z0), .slice a2 (ln (am Z0)) (ln (am Z0)), .bool (ng Z1), .slice a3 (ln (am Z1)) (ln (am Z1))]) (by rw [results_cell rfl]; go_simp) rfl ?_
  all_goals exact ⟨a2, a3, rfl, hn.mid hB ((((((Mid.refl _ _ _).set _ _ (by omega) (by omega) _).set _ _ (by omega) (by omega) _).set _ _ (by omega) (by omega) _).set _ _ (by omega) (by omega) _)), hk.mid hB ((((((Mid.refl _ _ _).set _ _ (by omega) (by omega) _).set _ _ (by omega) (by omega) _).set _ _ (by omega) (by omega) _).set _ _ (by omega) (by omega) _))⟩
end Go.Proofs.YtjbeagbkjmaeeaaGreatDoor
