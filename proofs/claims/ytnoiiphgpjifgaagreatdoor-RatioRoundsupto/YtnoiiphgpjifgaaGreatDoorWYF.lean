import Derived.Test.YtnoiiphgpjifgaaGreatDoorWPT
import Derived.Shelf.Strings.Repeat
import Derived.Test.YtnoiiphgpjifgaaGreatDoorWYE
set_option linter.unusedSimpArgs false
namespace Go.Proofs
open Go.Shelf
def Tryz.lays105_ren : Go.Shelf.Ren := ⟨fun | 105 => 49 | 212 => 81 | 99 => 82 | 165 => 83 | 166 => 84 | 170 => 85 | 169 => 86 | 263 => 110 | 264 => 111 | 206 => 99 | 240 => 112 | 241 => 113 | 276 => 128 | 277 => 129 | n => n, fun | 9 => 9 | 3 => 3 | 4 => 4 | 20 => 20 | 0 => 0 | 46 => 65 | 109 => 90 | 5 => 5 | 72 => 96 | 76 => 100 | 51 => 38 | 146 => 118 | 53 => 73 | 148 => 120 | 70 => 93 | 37 => 94 | 75 => 99 | 127 => 122 | 164 => 134 | 80 => 103 | n => n, fun | n => n⟩
theorem Tryz.lays105 : Go.Proofs.Lays.n105 Tryz.prog Tryz.lays105_ren := {
  mixed := by kernel_rfl
  f99 := Tryz.func82.trans (congrArg some (by kernel_rfl))
  f105 := Tryz.func49.trans (congrArg some (by kernel_rfl))
  f165 := Tryz.func83.trans (congrArg some (by kernel_rfl))
  f166 := Tryz.func84.trans (congrArg some (by kernel_rfl))
  f169 := Tryz.func86.trans (congrArg some (by kernel_rfl))
  f170 := Tryz.func85.trans (congrArg some (by kernel_rfl))
  f206 := Tryz.func99.trans (congrArg some (by kernel_rfl))
  f212 := Tryz.func81.trans (congrArg some (by kernel_rfl))
  f240 := Tryz.func112.trans (congrArg some (by kernel_rfl))
  f241 := Tryz.func113.trans (congrArg some (by kernel_rfl))
  f263 := Tryz.func110.trans (congrArg some (by kernel_rfl))
  f264 := Tryz.func111.trans (congrArg some (by kernel_rfl))
  f276 := Tryz.func128.trans (congrArg some (by kernel_rfl))
  f277 := Tryz.func129.trans (congrArg some (by kernel_rfl))
  t0 := Tryz.underlying0
  a0 := Tryz.isAgg0
  z0 := Tryz.sizeOf0
  v0 := Tryz.zeroValue0
  t3 := Tryz.underlying3
  a3 := Tryz.isAgg3
  z3 := Tryz.sizeOf3
  v3 := Tryz.zeroValue3
  t4 := Tryz.underlying4
  a4 := Tryz.isAgg4
  z4 := Tryz.sizeOf4
  v4 := Tryz.zeroValue4
  t5 := Tryz.underlying5
  a5 := Tryz.isAgg5
  z5 := Tryz.sizeOf5
  v5 := Tryz.zeroValue5
  t9 := Tryz.underlying9
  a9 := Tryz.isAgg9
  z9 := Tryz.sizeOf9
  v9 := Tryz.zeroValue9
  t20 := Tryz.underlying20
  a20 := Tryz.isAgg20
  z20 := Tryz.sizeOf20
  v20 := Tryz.zeroValue20
  t37 := Tryz.underlying94
  a37 := Tryz.isAgg94
  z37 := Tryz.sizeOf94
  v37 := Tryz.zeroValue94
  t46 := Tryz.underlying65
  a46 := Tryz.isAgg65
  z46 := Tryz.sizeOf65
  v46 := Tryz.zeroValue65
  t51 := Tryz.underlying38
  a51 := Tryz.isAgg38
  z51 := Tryz.sizeOf38
  v51 := Tryz.zeroValue38
  t53 := Tryz.underlying73
  a53 := Tryz.isAgg73
  z53 := Tryz.sizeOf73
  v53 := Tryz.zeroValue73
  t70 := Tryz.underlying93
  a70 := Tryz.isAgg93
  z70 := Tryz.sizeOf93
  v70 := Tryz.zeroValue93
  t72 := Tryz.underlying96
  a72 := Tryz.isAgg96
  z72 := Tryz.sizeOf96
  v72 := Tryz.zeroValue96
  t75 := Tryz.underlying99
  a75 := Tryz.isAgg99
  z75 := Tryz.sizeOf99
  v75 := Tryz.zeroValue99
  t76 := Tryz.underlying100
  a76 := Tryz.isAgg100
  z76 := Tryz.sizeOf100
  v76 := Tryz.zeroValue100
  t109 := Tryz.underlying90
  a109 := Tryz.isAgg90
  z109 := Tryz.sizeOf90
  v109 := Tryz.zeroValue90
  t127 := Tryz.underlying122
  a127 := Tryz.isAgg122
  z127 := Tryz.sizeOf122
  v127 := Tryz.zeroValue122
  t146 := Tryz.underlying118
  a146 := Tryz.isAgg118
  z146 := Tryz.sizeOf118
  v146 := Tryz.zeroValue118
  t148 := Tryz.underlying120
  a148 := Tryz.isAgg120
  z148 := Tryz.sizeOf120
  v148 := Tryz.zeroValue120
  t164 := Tryz.underlying134
  a164 := Tryz.isAgg134
  z164 := Tryz.sizeOf134
  v164 := Tryz.zeroValue134 }
theorem Tryz.Builder_Extra_105 : Builder.Extra Tryz.prog Tryz.lays105_ren := {
  sizeBuilder := by kernel_rfl
  liesBuilder := by kernel_rfl
  t5 := Tryz.underlying5
  a5 := Tryz.isAgg5
  z5 := Tryz.sizeOf5
  v5 := Tryz.zeroValue5
  infoByte := by kernel_rfl
  cellsByte := by kernel_rfl
  sizeByte := by kernel_rfl
  neB5 := by decide }
end Go.Proofs
namespace Go.Proofs.YtnoiiphgpjifgaaGreatDoor
open Go.RowKit
theorem repeatL_at : ∀ (k : Nat), (Lib.repeatL [48] k).length = k ∧ ∀ x ∈ Lib.repeatL [48] k, x = 48
  | 0 => ⟨rfl, fun x hx => by simp [Lib.repeatL] at hx⟩
  | k + 1 => by
    obtain ⟨h1, h2⟩ := repeatL_at k
    refine ⟨by simp [Lib.repeatL, h1]; try omega, fun x hx => ?_⟩
    rw [Lib.repeatL, List.mem_append] at hx
    rcases hx with h | h
    · simpa using h
    · exact h2 x h
theorem noughts : Noughts := fun k hk w => by
  obtain ⟨h1, h2⟩ := repeatL_at k
  refine (Any.strings_Repeat Tryz.lays105 Tryz.Builder_Extra_105 ⟨#[48]⟩ k w (by omega) (by show 1 * k ≤ _; omega)).mono ?_
  rintro e w' ⟨he, hb⟩
  have hs : (⟨(Lib.repeatL [48] k).toArray⟩ : ByteArray).size = k := by show (Lib.repeatL [48] k).toArray.size = k; rw [List.size_toArray]; exact h1
  refine ⟨⟨(Lib.repeatL [48] k).toArray⟩, he, hs, fun j hj => ?_, hb⟩
  rw [byt_of hj]
  have : (⟨(Lib.repeatL [48] k).toArray⟩ : ByteArray)[j] = 48 := h2 _ (by
    show (Lib.repeatL [48] k).toArray[j] ∈ _
    simp)
  rw [this]
  rfl
set_option linter.unusedVariables false
theorem rnd_am {A D : Int} (hD : 0 < D) : am (rnd A D) ≤ am A + 2 := by
  obtain ⟨Z, G, h⟩ := fl_ex A hD
  obtain ⟨e1, e2⟩ := fl_is hD h
  have h1 := h.am hD
  unfold rnd
  rw [e1, e2]
  unfold am at *
  split <;> omega
theorem dec_ln {s : Bool} {X Y n p : Nat} {Q M : Int} (hX : X < BB ^ n) (hn : n ≤ 1048576) (hp : p ≤ 1000) (hQ : rn s X Y * ((10 ^ p : Nat) : Int) = Q) (hM : rnd Q ((rd Y : Nat) : Int) = M) : ln (am M) ≤ 1048704 := by
  have lp := ten_lnP hp
  have lQ : am Q < BB ^ (n + 126) := by
    rw [← hQ, am_mul, am_nat, Nat.pow_add]
    have h1 := rn_am s X Y
    have h2 : 10 ^ p < BB ^ 126 := Nat.lt_of_lt_of_le (ln_lt (10 ^ p)) (Nat.pow_le_pow_right (by rw [BB_eq]; omega) lp)
    exact Nat.mul_lt_mul_of_lt_of_lt (Nat.lt_of_le_of_lt h1 hX) h2
  have h3 := rnd_am (A := Q) (D := ((rd Y : Nat) : Int)) (by have := rd_pos Y; omega)
  rw [hM] at h3
  exact Nat.le_trans (ln_succ (n := n + 126) h3 lQ (by omega)) (by omega)
set_option maxHeartbeats 4000000 in
set_option maxRecDepth 100000 in
theorem vdec_no (A : RatV) (z : Int) (w : World) (h1 : -9223372036854775808 ≤ z) (h2 : z ≤ 9223372036854775807) (hz : z < 0 ∨ 1000 < z) :
    Calls Tryz.prog 7 #[.agg #[.bool A.s, .slice A.a A.n A.c, .slice A.b A.m A.e], .int .i64 z] w fun e w' => e = .returned (.tuple #[.string ⟨#[]⟩, .int .i64 32]) ∧ Below w.heap.size w w' := by
  have bb := below_alloc (w := w) (.cells #[.bool A.s, .slice A.a A.n A.c, .slice A.b A.m A.e] 27)
  rcases hz with hz | hz
  · go_enter Tryz.func7, Tryz.ntmps7
    go_wp2
    go_ret2
    exact ⟨rfl, bb⟩
  · have i1 : ¬ (z < 0) := by omega
    go_enter Tryz.func7, Tryz.ntmps7
    go_wp2
    go_ret2
    exact ⟨rfl, bb⟩
theorem five {w : World} (h : Digs w) : Digits w := ⟨h 0 (by omega), h 1 (by omega), h 2 (by omega), h 3 (by omega), h 4 (by omega)⟩
end Go.Proofs.YtnoiiphgpjifgaaGreatDoor
