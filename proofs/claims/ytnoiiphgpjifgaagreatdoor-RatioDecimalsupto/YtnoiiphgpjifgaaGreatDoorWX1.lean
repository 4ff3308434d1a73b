import Derived.Test.YtnoiiphgpjifgaaGreatDoorWTH
import Derived.Test.YtnoiiphgpjifgaaGreatDoorWTD
import Derived.Test.YtnoiiphgpjifgaaGreatDoorW3
set_option linter.unusedSimpArgs false
namespace Go.Proofs.YtnoiiphgpjifgaaGreatDoor
open Go.RowKit
set_option linter.unusedVariables false
set_option maxHeartbeats 1000000 in
theorem digits_is (a : Option Addr) (n cap X : Nat) (t : ByteArray) (w : World) (h : Digs w) (hc : n ≤ cap) (hn : n ≤ 1073741824) (hS : Seg w a X n) (ht : isTx 10 X t) :
    Calls Tryz.prog 21 #[.slice a n cap] w fun e w' => e = .returned (.string t) ∧ Below w.heap.size w w' := by
  have HT := hide' ht
  clear ht
  go_enter Tryz.func21, Tryz.ntmps21
  go_wp2_with fail
  refine (Text_any a n cap X 10 (by omega) (by omega) w h hc hn hS).mono ?_
  rintro e w1 ⟨u, rfl, hu, b1⟩
  obtain rfl := hu.uniq (by omega) HT.out
  go_wp2
  go_ret
  exact ⟨rfl, b1⟩
set_option maxHeartbeats 1000000 in
theorem vdigits_is (a : Option Addr) (n cap X : Nat) (t : ByteArray) (w : World) (hn : n ≤ 1073741824) (hS : Seg w a X n) (ht : isTx 10 X t) :
    Calls Tryz.prog 33 #[.slice a n cap] w fun e w' => e = .returned (.string t) ∧ Below w.heap.size w w' := by
  have HT := hide' ht
  clear ht
  go_enter Tryz.func33, Tryz.ntmps33
  go_wp2_with fail
  refine (rText_any a n cap X 10 (by omega) (by omega) w hn hS).mono ?_
  rintro e w1 ⟨u, rfl, hu, b1⟩
  obtain rfl := hu.uniq (by omega) HT.out
  go_wp2
  go_ret
  exact ⟨rfl, b1⟩
set_option maxHeartbeats 1000000 in
theorem rSame_any (ao ao2 : Option Addr) (n cap X m cap2 Y : Nat) (w : World) (hm : n ≤ 70368744177664) (hm2 : m ≤ 70368744177664) (hS : Seg w ao X n) (hS2 : Seg w ao2 Y m) :
    Calls Tryz.prog 29 #[.slice ao n cap, .slice ao2 m cap2] w fun e w' => e = .returned (.bool (sameB n m X Y)) ∧ Dr w w' := by
  by_cases hnm : n = m
  · subst hnm
    go_enter Tryz.func29, Tryz.ntmps29
    go_wp2
    go_loopw [5] (fun i wr => ∃ k : Nat, k ≤ n ∧ i = .int .i64 k ∧ Dr w wr ∧ ∀ j, j < k → dg X j = dg Y j) (fun i _ => n - (intOf i).toNat)
    case atStart => exact ⟨0, Nat.zero_le _, rfl, Dr.refl _, fun j hj => absurd hj (by omega)⟩
    case round =>
      obtain ⟨k, hk, rfl, hdr, hd⟩ := hrel
      have HD : Hid (∀ j, j < k → dg X j = dg Y j) := hd
      clear hd
      by_cases hlt : k < n
      · have hTr := hS.dr hdr
        have hTr2 := hS2.dr hdr
        obtain ⟨b, off, rfl, hb', hcell⟩ := hTr.2 (by omega)
        obtain ⟨b2, off2, rfl, hb2', hcell2⟩ := hTr2.2 (by omega)
        have h1 := dg_lt X k
        have h2 := dg_lt Y k
        by_cases hx : dg X k = dg Y k
        · have hxb : (((dg X k : Nat) : Int) != ((dg Y k : Nat) : Int)) = false := by rw [hx]; simp
          have HX : Hid (dg X k = dg Y k) := hx
          clear hx
          go_wp2
          go_quiet (fail)
          go_wp2
          go_roundw
          case rel => exact ⟨k + 1, by omega, by go_num, hdr.drewN _, fun j hj => by
            by_cases e : j = k
            · rw [e]; exact HX.out
            · exact HD.out j (by omega)⟩
          case measure => simp [intOf]; omega
        · have hxb : (((dg X k : Nat) : Int) != ((dg Y k : Nat) : Int)) = true := by rw [bne_iff_ne]; omega
          have e : sameB n n X Y = false := by
            unfold sameB; rw [decide_eq_false]; rintro ⟨_, rfl⟩; exact hx rfl
          go_wp2
          go_quiet (fail)
          go_wp2
          go_ret
          exact ⟨by rw [e]; rfl, hdr.drewN _⟩
      · go_wp2
        go_ret
        have e : X = Y := dg_ext hS.1 hS2.1 fun i hi => HD.out i (by omega)
        exact ⟨by simp [sameB, e], hdr⟩
  · have hb : (((n : Nat) : Int) != ((m : Nat) : Int)) = true := by rw [bne_iff_ne]; omega
    have e : sameB n m X Y = false := by simp [sameB, hnm]
    go_enter Tryz.func29, Tryz.ntmps29
    go_wp2
    go_ret
    exact ⟨by rw [e]; rfl, Dr.refl _⟩
end Go.Proofs.YtnoiiphgpjifgaaGreatDoor
