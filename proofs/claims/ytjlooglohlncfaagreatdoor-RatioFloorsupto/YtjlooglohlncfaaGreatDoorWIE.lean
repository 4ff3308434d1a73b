/-
  Both sides of the three ways to divide, at once.
-/
import Derived.Test.YtjlooglohlncfaaGreatDoorWIA
import Derived.Test.YtjlooglohlncfaaGreatDoorWIC
import Derived.Test.YtjlooglohlncfaaGreatDoorWID
namespace Go.Proofs.YtjlooglohlncfaaGreatDoor
open Go.RowKit
set_option linter.unusedVariables false

theorem Fre.mono {lo lo' : Nat} {w' : World} {a : Option Addr} {Z n : Nat} (h : Fre lo w' a Z n) (hl : lo' ≤ lo) : Fre lo' w' a Z n :=
  ⟨h.seg, fun hn => by obtain ⟨b, off, e, hb, hr⟩ := h.fresh hn; exact ⟨b, off, e, Nat.le_trans hl hb, hr⟩⟩
/-- a function of two Ints hands back the two numbers Z and V, and no error -/
def Two (fn : Nat) (s : Bool) (ao : Option Addr) (n cap X : Nat) (t : Bool) (ao2 : Option Addr) (m cap2 Y : Nat) (Z V : Int) : Prop :=
  ∀ w', Seg w' ao X n → Seg w' ao2 Y m → Calls Tryz.prog fn #[.agg #[.bool s, .slice ao n cap], .agg #[.bool t, .slice ao2 m cap2]] w' fun e w'' => ∃ aq ar, e = .returned (.tuple #[.agg #[.bool (ng Z), .slice aq (ln (am Z)) (ln (am Z))], .agg #[.bool (ng V), .slice ar (ln (am V)) (ln (am V))], .int .i64 0]) ∧ New w' w'' aq (am Z) (ln (am Z)) ∧ New w' w'' ar (am V) (ln (am V))

theorem uniq {t : Bool} {Y : Nat} {u v u' v' : Int} (hY : Y ≠ 0) (h : u * sg t Y + v = u' * sg t Y + v') (h0 : 0 ≤ v) (h1 : am v < Y) (h0' : 0 ≤ v') (h1' : am v' < Y) : u = u' ∧ v = v' := by
  have hd : (u - u') * sg t Y = v' - v := by rw [Int.sub_mul]; omega
  have habs : (u - u').natAbs * Y = (v' - v).natAbs := by rw [← hd, Int.natAbs_mul, sg_abs]
  have hlt : (v' - v).natAbs < Y := by unfold am at h1 h1'; omega
  have hz : (u - u').natAbs = 0 := by
    rcases Nat.eq_zero_or_pos (u - u').natAbs with h' | h'
    · exact h'
    · have : 1 * Y ≤ (u - u').natAbs * Y := Nat.mul_le_mul_right _ h'
      omega
  have e : u = u' := by omega
  subst e
  exact ⟨rfl, by omega⟩

theorem quo2 (s : Bool) (ao : Option Addr) (n cap X : Nat) (t : Bool) (ao2 : Option Addr) (m cap2 Y : Nat) (hc : n ≤ cap) (hm : n ≤ 70368744177640) (hc2 : m ≤ cap2) (hm2 : m ≤ 70368744177640) (hY : Y ≠ 0) :
    ∃ (Zq Zr : Int), am Zr < Y ∧ am Zq ≤ X ∧ Two 45 s ao n cap X t ao2 m cap2 Y Zq Zr ∧ Two 60 s ao n cap X t ao2 m cap2 Y Zq Zr := by
  obtain ⟨P, R, Zq, Zr, h, hR, hq, hr, hsum, hlr, hlq, K⟩ := quo_of s ao n cap X t ao2 m cap2 Y hc (by omega) hc2 (by omega) hY
  exact ⟨Zq, Zr, hlr, hlq, K, fun w' k1 k2 => vQuo_is s ao n cap X t ao2 m cap2 Y P R Zq Zr w' (by omega) k1 (by omega) k2 h hR hq hr⟩

theorem floor2 (s : Bool) (ao : Option Addr) (n cap X : Nat) (t : Bool) (ao2 : Option Addr) (m cap2 Y : Nat) (hc : n ≤ cap) (hm : n ≤ 70368744177640) (hc2 : m ≤ cap2) (hm2 : m ≤ 70368744177640) (hY : Y ≠ 0) :
    ∃ (Zq Zr : Int), am Zr ≤ Y + Y ∧ am Zq ≤ X + 1 ∧ Two 59 s ao n cap X t ao2 m cap2 Y Zq Zr ∧ Two 38 s ao n cap X t ao2 m cap2 Y Zq Zr := by
  obtain ⟨P, R, Zq, Zr, h, hR, hq, hr, hsum, hlr, hlq, K⟩ := quo_of s ao n cap X t ao2 m cap2 Y hc (by omega) hc2 (by omega) hY
  by_cases hlow : sgn Zr * sd t < 0
  · refine ⟨Zq - 1, Zr + sg t Y, ?_, ?_, fun w' k1 k2 => wFloor_low s ao n cap X t ao2 m cap2 Y P R Zq Zr _ _ w' hc (by omega) k1 hc2 (by omega) k2 h hR hq hr hlow rfl rfl, fun w' k1 k2 => vFloor_low s ao n cap X t ao2 m cap2 Y P R Zq Zr _ _ w' (by omega) k1 (by omega) k2 h hR hq hr hlow rfl rfl⟩
    · have := sg_bounds t Y; unfold am at hlr ⊢; omega
    · unfold am at hlq ⊢; omega
  · exact ⟨Zq, Zr, by omega, by omega, fun w' k1 k2 => wFloor_high s ao n cap X t ao2 m cap2 Y P R Zq Zr w' hc (by omega) k1 hc2 (by omega) k2 h hR hq hr hlow, fun w' k1 k2 => vFloor_high s ao n cap X t ao2 m cap2 Y P R Zq Zr w' (by omega) k1 (by omega) k2 h hR hq hr hlow⟩


end Go.Proofs.YtjlooglohlncfaaGreatDoor
