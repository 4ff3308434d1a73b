/-
  clauses: the library's sort, Clone, Compact, DeleteFunc, BinarySearch at a clause (laid in the dump's own numbers: shelf18.sh ahead of gen.py); literals in order, and each once.
-/
import Derived.Test.YtnjidhoceacenaaCLC
import Derived.Shelf.Small.Bits
import Derived.Shelf.SlicesG.SearchI
import Derived.Shelf.SlicesE.Clone
import Derived.Shelf.SlicesE.Compact
import Derived.Shelf.SlicesE.DeleteFunc
import Derived.Shelf.SlSortCmp.Whole1
import Derived.Shelf.SortM.Plain
import Derived.Sort.OwnSortedInts
namespace Go.Proofs
open Go.Shelf
def Try.laysLen_ren : Go.Shelf.Ren := ⟨fun | 125 => 41 | 128 => 56 | 129 => 57 | n => n, fun | 46 => 50 | 3 => 3 | 51 => 65 | 53 => 67 | 4 => 4 | 5 => 5 | 9 => 9 | n => n, fun | n => n⟩
theorem Try.laysLen : Go.Proofs.Lays.n125 Try.prog Try.laysLen_ren := {
  mixed := by kernel_rfl
  f125 := Try.func41.trans (congrArg some (by kernel_rfl))
  f128 := Try.func56.trans (congrArg some (by kernel_rfl))
  f129 := Try.func57.trans (congrArg some (by kernel_rfl))
  t3 := Try.underlying3
  a3 := Try.isAgg3
  z3 := Try.sizeOf3
  v3 := Try.zeroValue3
  t4 := Try.underlying4
  a4 := Try.isAgg4
  z4 := Try.sizeOf4
  v4 := Try.zeroValue4
  t5 := Try.underlying5
  a5 := Try.isAgg5
  z5 := Try.sizeOf5
  v5 := Try.zeroValue5
  t9 := Try.underlying9
  a9 := Try.isAgg9
  z9 := Try.sizeOf9
  v9 := Try.zeroValue9
  t46 := Try.underlying50
  a46 := Try.isAgg50
  z46 := Try.sizeOf50
  v46 := Try.zeroValue50
  t51 := Try.underlying65
  a51 := Try.isAgg65
  z51 := Try.sizeOf65
  v51 := Try.zeroValue65
  t53 := Try.underlying67
  a53 := Try.isAgg67
  z53 := Try.sizeOf67
  v53 := Try.zeroValue67 }
def Try.laysPdq_ren : Go.Shelf.Ren := ⟨fun | 14 => 40 | 20 => 48 | 21 => 49 | 22 => 50 | 23 => 51 | 24 => 52 | 25 => 53 | 26 => 54 | 27 => 55 | 46 => 66 | 47 => 67 | 48 => 68 | 49 => 69 | 50 => 70 | 15 => 41 | 57 => 74 | 28 => 56 | 29 => 57 | n => n, fun | 24 => 3 | 22 => 22 | 3 => 3 | 25 => 45 | 4 => 4 | 0 => 0 | 46 => 59 | 45 => 58 | 50 => 40 | 66 => 73 | 39 => 50 | 55 => 67 | 70 => 77 | 76 => 81 | 77 => 82 | 53 => 65 | 5 => 5 | 9 => 9 | n => n, fun | n => n⟩
theorem Try.laysPdq : Go.Proofs.SlLaysF.n14 Try.prog Try.laysPdq_ren := {
  mixed := by kernel_rfl
  f14 := ⟨Try.f40.name, by decide, Try.func40.trans (congrArg some (by kernel_rfl))⟩
  f15 := Try.func41.trans (congrArg some (by kernel_rfl))
  f20 := ⟨Try.f48.name, by decide, Try.func48.trans (congrArg some (by kernel_rfl))⟩
  f21 := ⟨Try.f49.name, by decide, Try.func49.trans (congrArg some (by kernel_rfl))⟩
  f22 := ⟨Try.f50.name, by decide, Try.func50.trans (congrArg some (by kernel_rfl))⟩
  f23 := ⟨Try.f51.name, by decide, Try.func51.trans (congrArg some (by kernel_rfl))⟩
  f24 := ⟨Try.f52.name, by decide, Try.func52.trans (congrArg some (by kernel_rfl))⟩
  f25 := ⟨Try.f53.name, by decide, Try.func53.trans (congrArg some (by kernel_rfl))⟩
  f26 := ⟨Try.f54.name, by decide, Try.func54.trans (congrArg some (by kernel_rfl))⟩
  f27 := ⟨Try.f55.name, by decide, Try.func55.trans (congrArg some (by kernel_rfl))⟩
  f28 := Try.func56.trans (congrArg some (by kernel_rfl))
  f29 := Try.func57.trans (congrArg some (by kernel_rfl))
  f46 := ⟨Try.f66.name, by decide, Try.func66.trans (congrArg some (by kernel_rfl))⟩
  f47 := Try.func67.trans (congrArg some (by kernel_rfl))
  f48 := Try.func68.trans (congrArg some (by kernel_rfl))
  f49 := ⟨Try.f69.name, by decide, Try.func69.trans (congrArg some (by kernel_rfl))⟩
  f50 := ⟨Try.f70.name, by decide, Try.func70.trans (congrArg some (by kernel_rfl))⟩
  f57 := ⟨Try.f74.name, by decide, Try.func74.trans (congrArg some (by kernel_rfl))⟩
  t0 := Try.underlying0
  a0 := Try.isAgg0
  z0 := Try.sizeOf0
  v0 := Try.zeroValue0
  t3 := Try.underlying3
  a3 := Try.isAgg3
  z3 := Try.sizeOf3
  v3 := Try.zeroValue3
  t4 := Try.underlying4
  a4 := Try.isAgg4
  z4 := Try.sizeOf4
  v4 := Try.zeroValue4
  t5 := Try.underlying5
  a5 := Try.isAgg5
  z5 := Try.sizeOf5
  v5 := Try.zeroValue5
  t9 := Try.underlying9
  a9 := Try.isAgg9
  z9 := Try.sizeOf9
  v9 := Try.zeroValue9
  t22 := Try.underlying22
  a22 := Try.isAgg22
  z22 := Try.sizeOf22
  v22 := Try.zeroValue22
  a24 := Try.isAgg3
  z24 := Try.sizeOf3
  t25 := Try.underlying45
  a25 := Try.isAgg45
  z25 := Try.sizeOf45
  v25 := Try.zeroValue45
  t39 := Try.underlying50
  a39 := Try.isAgg50
  z39 := Try.sizeOf50
  v39 := Try.zeroValue50
  t45 := Try.underlying58
  a45 := Try.isAgg58
  z45 := Try.sizeOf58
  v45 := Try.zeroValue58
  t46 := Try.underlying59
  a46 := Try.isAgg59
  z46 := Try.sizeOf59
  v46 := Try.zeroValue59
  t50 := Try.underlying40
  a50 := Try.isAgg40
  z50 := Try.sizeOf40
  v50 := Try.zeroValue40
  t53 := Try.underlying65
  a53 := Try.isAgg65
  z53 := Try.sizeOf65
  v53 := Try.zeroValue65
  t55 := Try.underlying67
  a55 := Try.isAgg67
  z55 := Try.sizeOf67
  v55 := Try.zeroValue67
  t66 := Try.underlying73
  a66 := Try.isAgg73
  z66 := Try.sizeOf73
  v66 := Try.zeroValue73
  t70 := Try.underlying77
  a70 := Try.isAgg77
  z70 := Try.sizeOf77
  v70 := Try.zeroValue77
  t76 := Try.underlying81
  a76 := Try.isAgg81
  z76 := Try.sizeOf81
  v76 := Try.zeroValue81
  t77 := Try.underlying82
  a77 := Try.isAgg82
  z77 := Try.sizeOf82
  v77 := Try.zeroValue82 }
def Try.laysClone_ren : Go.Shelf.Ren := ⟨fun | 41 => 13 | n => n, fun | 22 => 23 | 23 => 3 | 4 => 4 | n => n, fun | n => n⟩
theorem Try.laysClone : Go.Proofs.SlLaysE0.n41 Try.prog Try.laysClone_ren := {
  mixed := by kernel_rfl
  f41 := ⟨Try.f13.name, by decide, Try.func13.trans (congrArg some (by kernel_rfl))⟩
  t4 := Try.underlying4
  a4 := Try.isAgg4
  z4 := Try.sizeOf4
  v4 := Try.zeroValue4
  t22 := Try.underlying23
  a22 := Try.isAgg23
  z22 := Try.sizeOf23
  v22 := Try.zeroValue23 }
def Try.laysCompact_ren : Go.Shelf.Ren := ⟨fun | 43 => 29 | n => n, fun | 22 => 23 | 23 => 3 | 3 => 3 | 4 => 4 | 0 => 0 | n => n, fun | n => n⟩
theorem Try.laysCompact : Go.Proofs.SlLaysE.n43 Try.prog Try.laysCompact_ren := {
  mixed := by kernel_rfl
  f43 := ⟨Try.f29.name, by decide, Try.func29.trans (congrArg some (by kernel_rfl))⟩
  t0 := Try.underlying0
  a0 := Try.isAgg0
  z0 := Try.sizeOf0
  v0 := Try.zeroValue0
  t3 := Try.underlying3
  a3 := Try.isAgg3
  z3 := Try.sizeOf3
  v3 := Try.zeroValue3
  t4 := Try.underlying4
  a4 := Try.isAgg4
  z4 := Try.sizeOf4
  v4 := Try.zeroValue4
  t22 := Try.underlying23
  a22 := Try.isAgg23
  z22 := Try.sizeOf23
  v22 := Try.zeroValue23
  a23 := Try.isAgg3
  z23 := Try.sizeOf3 }
def Try.laysDelete_ren : Go.Shelf.Ren := ⟨fun | 10 => 32 | 6 => 39 | n => n, fun | 22 => 23 | 23 => 3 | 25 => 43 | 3 => 3 | 4 => 4 | 0 => 0 | n => n, fun | n => n⟩
theorem Try.laysDelete : Go.Proofs.SlLaysH.n10 Try.prog Try.laysDelete_ren := {
  mixed := by kernel_rfl
  f6 := ⟨Try.f39.name, by decide, Try.func39.trans (congrArg some (by kernel_rfl))⟩
  f10 := ⟨Try.f32.name, by decide, Try.func32.trans (congrArg some (by kernel_rfl))⟩
  t0 := Try.underlying0
  a0 := Try.isAgg0
  z0 := Try.sizeOf0
  v0 := Try.zeroValue0
  t3 := Try.underlying3
  a3 := Try.isAgg3
  z3 := Try.sizeOf3
  v3 := Try.zeroValue3
  t4 := Try.underlying4
  a4 := Try.isAgg4
  z4 := Try.sizeOf4
  v4 := Try.zeroValue4
  t22 := Try.underlying23
  a22 := Try.isAgg23
  z22 := Try.sizeOf23
  v22 := Try.zeroValue23
  a23 := Try.isAgg3
  z23 := Try.sizeOf3
  t25 := Try.underlying43
  a25 := Try.isAgg43
  z25 := Try.sizeOf43
  v25 := Try.zeroValue43 }
def Try.laysSearch_ren : Go.Shelf.Ren := ⟨fun | 49 => 23 | 59 => 37 | 60 => 38 | 68 => 47 | n => n, fun | 22 => 22 | 23 => 3 | 3 => 3 | 4 => 4 | 51 => 50 | 0 => 0 | n => n, fun | n => n⟩
theorem Try.laysSearch : Go.Proofs.SlLaysN.n49 Try.prog Try.laysSearch_ren := {
  mixed := by kernel_rfl
  f49 := ⟨Try.f23.name, by decide, Try.func23.trans (congrArg some (by kernel_rfl))⟩
  f59 := ⟨Try.f37.name, by decide, Try.func37.trans (congrArg some (by kernel_rfl))⟩
  f60 := ⟨Try.f38.name, by decide, Try.func38.trans (congrArg some (by kernel_rfl))⟩
  f68 := ⟨Try.f47.name, by decide, Try.func47.trans (congrArg some (by kernel_rfl))⟩
  t0 := Try.underlying0
  a0 := Try.isAgg0
  z0 := Try.sizeOf0
  v0 := Try.zeroValue0
  t3 := Try.underlying3
  a3 := Try.isAgg3
  z3 := Try.sizeOf3
  v3 := Try.zeroValue3
  t4 := Try.underlying4
  a4 := Try.isAgg4
  z4 := Try.sizeOf4
  v4 := Try.zeroValue4
  t22 := Try.underlying22
  a22 := Try.isAgg22
  z22 := Try.sizeOf22
  v22 := Try.zeroValue22
  t23 := Try.underlying3
  a23 := Try.isAgg3
  z23 := Try.sizeOf3
  v23 := Try.zeroValue3
  t51 := Try.underlying50
  a51 := Try.isAgg50
  z51 := Try.sizeOf50
  v51 := Try.zeroValue50 }
def Try.laysSorts_ren : Go.Shelf.Ren := ⟨fun | 5 => 35 | 8 => 41 | 7 => 46 | 19 => 56 | 20 => 57 | 10 => 58 | 11 => 59 | 12 => 60 | 13 => 61 | 14 => 62 | 15 => 63 | 16 => 37 | 17 => 64 | 18 => 65 | 30 => 71 | 31 => 67 | 32 => 68 | 33 => 72 | 34 => 73 | 35 => 47 | 40 => 75 | n => n, fun | 23 => 22 | 25 => 3 | 3 => 3 | 32 => 50 | 22 => 22 | 0 => 0 | 44 => 65 | 46 => 67 | 4 => 4 | 36 => 59 | 35 => 58 | 41 => 40 | 5 => 5 | 9 => 9 | 53 => 73 | 57 => 77 | 63 => 81 | 64 => 82 | n => n, fun | n => n⟩
theorem Try.laysSorts : Go.Proofs.SlLaysM.n5 Try.prog Try.laysSorts_ren := {
  mixed := by kernel_rfl
  f5 := ⟨Try.f35.name, by decide, Try.func35.trans (congrArg some (by kernel_rfl))⟩
  f7 := ⟨Try.f46.name, by decide, Try.func46.trans (congrArg some (by kernel_rfl))⟩
  f8 := Try.func41.trans (congrArg some (by kernel_rfl))
  f10 := ⟨Try.f58.name, by decide, Try.func58.trans (congrArg some (by kernel_rfl))⟩
  f11 := ⟨Try.f59.name, by decide, Try.func59.trans (congrArg some (by kernel_rfl))⟩
  f12 := ⟨Try.f60.name, by decide, Try.func60.trans (congrArg some (by kernel_rfl))⟩
  f13 := ⟨Try.f61.name, by decide, Try.func61.trans (congrArg some (by kernel_rfl))⟩
  f14 := ⟨Try.f62.name, by decide, Try.func62.trans (congrArg some (by kernel_rfl))⟩
  f15 := ⟨Try.f63.name, by decide, Try.func63.trans (congrArg some (by kernel_rfl))⟩
  f16 := ⟨Try.f37.name, by decide, Try.func37.trans (congrArg some (by kernel_rfl))⟩
  f17 := ⟨Try.f64.name, by decide, Try.func64.trans (congrArg some (by kernel_rfl))⟩
  f18 := ⟨Try.f65.name, by decide, Try.func65.trans (congrArg some (by kernel_rfl))⟩
  f19 := Try.func56.trans (congrArg some (by kernel_rfl))
  f20 := Try.func57.trans (congrArg some (by kernel_rfl))
  f30 := ⟨Try.f71.name, by decide, Try.func71.trans (congrArg some (by kernel_rfl))⟩
  f31 := Try.func67.trans (congrArg some (by kernel_rfl))
  f32 := Try.func68.trans (congrArg some (by kernel_rfl))
  f33 := ⟨Try.f72.name, by decide, Try.func72.trans (congrArg some (by kernel_rfl))⟩
  f34 := ⟨Try.f73.name, by decide, Try.func73.trans (congrArg some (by kernel_rfl))⟩
  f35 := ⟨Try.f47.name, by decide, Try.func47.trans (congrArg some (by kernel_rfl))⟩
  f40 := ⟨Try.f75.name, by decide, Try.func75.trans (congrArg some (by kernel_rfl))⟩
  t0 := Try.underlying0
  a0 := Try.isAgg0
  z0 := Try.sizeOf0
  v0 := Try.zeroValue0
  t3 := Try.underlying3
  a3 := Try.isAgg3
  z3 := Try.sizeOf3
  v3 := Try.zeroValue3
  t4 := Try.underlying4
  a4 := Try.isAgg4
  z4 := Try.sizeOf4
  v4 := Try.zeroValue4
  t5 := Try.underlying5
  a5 := Try.isAgg5
  z5 := Try.sizeOf5
  v5 := Try.zeroValue5
  t9 := Try.underlying9
  a9 := Try.isAgg9
  z9 := Try.sizeOf9
  v9 := Try.zeroValue9
  t22 := Try.underlying22
  a22 := Try.isAgg22
  z22 := Try.sizeOf22
  v22 := Try.zeroValue22
  t23 := Try.underlying22
  a23 := Try.isAgg22
  z23 := Try.sizeOf22
  v23 := Try.zeroValue22
  t25 := Try.underlying3
  a25 := Try.isAgg3
  z25 := Try.sizeOf3
  v25 := Try.zeroValue3
  t32 := Try.underlying50
  a32 := Try.isAgg50
  z32 := Try.sizeOf50
  v32 := Try.zeroValue50
  t35 := Try.underlying58
  a35 := Try.isAgg58
  z35 := Try.sizeOf58
  v35 := Try.zeroValue58
  t36 := Try.underlying59
  a36 := Try.isAgg59
  z36 := Try.sizeOf59
  v36 := Try.zeroValue59
  t41 := Try.underlying40
  a41 := Try.isAgg40
  z41 := Try.sizeOf40
  v41 := Try.zeroValue40
  t44 := Try.underlying65
  a44 := Try.isAgg65
  z44 := Try.sizeOf65
  v44 := Try.zeroValue65
  t46 := Try.underlying67
  a46 := Try.isAgg67
  z46 := Try.sizeOf67
  v46 := Try.zeroValue67
  t53 := Try.underlying73
  a53 := Try.isAgg73
  z53 := Try.sizeOf73
  v53 := Try.zeroValue73
  t57 := Try.underlying77
  a57 := Try.isAgg77
  z57 := Try.sizeOf77
  v57 := Try.zeroValue77
  t63 := Try.underlying81
  a63 := Try.isAgg81
  z63 := Try.sizeOf81
  v63 := Try.zeroValue81
  t64 := Try.underlying82
  a64 := Try.isAgg82
  z64 := Try.sizeOf82
  v64 := Try.zeroValue82 }
end Go.Proofs
namespace Go.Proofs.Ytnjidhoceacenaa
open Go.RowKit
set_option linter.unusedVariables false
set_option linter.unusedSimpArgs false
/-- an int that is not the least one -/
def LitV : Type := {z : Int // -9223372036854775808 < z ∧ z ≤ 9223372036854775807}
instance : Inhabited LitV := ⟨⟨1, by omega⟩⟩
def encL (x : LitV) : Value := .int .i64 x.1
def cfV (x y : LitV) : Int := cfL x.1 y.1
theorem ltV (x y : LitV) : ltOf cfV x y = decide (ahd x.1 y.1) := by
  unfold ltOf cfV
  exact decide_eq_decide.2 (cfL_lt _ _)
theorem ahd_ntrans {x y z : Int} (h1 : ¬ ahd x y) (h2 : ¬ ahd y z) : ¬ ahd x z := by
  have a1 := atm_cases x
  have a2 := atm_cases y
  have a3 := atm_cases z
  unfold ahd at *
  omega
theorem swoV : Sort.SWO (ltOf cfV) where
  irrefl x := by rw [ltV]; exact decide_eq_false (ahd_irrefl _)
  trans x y z h1 h2 := by rw [ltV] at *; exact decide_eq_true (ahd_trans (of_decide_eq_true h1) (of_decide_eq_true h2))
  ntrans x y z h1 h2 := by rw [ltV] at *; exact decide_eq_false (ahd_ntrans (of_decide_eq_false h1) (of_decide_eq_false h2))
/-- a list of such ints -/
def toV : (s : List Int) → (∀ z ∈ s, -9223372036854775808 < z ∧ z ≤ 9223372036854775807) → List LitV
  | [], _ => []
  | z :: s, h => ⟨z, h z List.mem_cons_self⟩ :: toV s (fun y hy => h y (List.mem_cons_of_mem _ hy))
def unV (s : List LitV) : List Int := s.map (·.1)
theorem unV_toV : ∀ (s : List Int) (h : ∀ z ∈ s, -9223372036854775808 < z ∧ z ≤ 9223372036854775807), unV (toV s h) = s
  | [], _ => rfl
  | z :: s, h => by simp only [toV, unV, List.map_cons]; exact congrArg (z :: ·) (unV_toV s _)
theorem unV_length (s : List LitV) : (unV s).length = s.length := List.length_map _
theorem arr_map_get (d : Array LitV) (i : Nat) (hi : i < d.size) : ((unV d.toList).toArray)[i]! = (d[i]!).1 := by
  rw [getElem!_pos _ i (by simpa [unV] using hi), getElem!_pos d i hi]
  simp [unV]
theorem putRow_un (w : World) (blk off : Nat) (d : Array LitV) : Sort.putRow encL w blk off d = Sort.putRow (Value.int .i64) w blk off (unV d.toList).toArray := by
  unfold Sort.putRow
  congr 1
  funext c
  unfold Sort.putCells
  congr 1
  funext k x
  have hs : (unV d.toList).toArray.size = d.size := by simp [unV]
  rw [hs]
  by_cases h : off ≤ k ∧ k < off + d.size
  · rw [if_pos h, if_pos h, arr_map_get d _ (by omega)]
    rfl
  · rw [if_neg h, if_neg h]
/-- a row of a call's own holds its literals -/
theorem holds_own {w w1 : World} {g cap n : Nat} {s : List Int} (h : Own w w1 (.slice (some ⟨g, 0, none⟩) n cap) s) (hn : s.length = n) : Sort.Holds (Value.int .i64) w1 g 0 s.toArray := by
  subst hn
  intro j hj
  have hj' : j < s.length := by simpa using hj
  refine ⟨?_, by rw [Nat.zero_add]; exact h.1.frozenAt j⟩
  rw [Nat.zero_add, h.1.cellAt j (by omega), iv_at (z := s[j]) (List.getElem?_eq_getElem hj')]
  simp [hj']
theorem holds_ownV {w w1 : World} {g cap n : Nat} {s : List Int} (h : Own w w1 (.slice (some ⟨g, 0, none⟩) n cap) s) (hn : s.length = n) (hv : ∀ z ∈ s, -9223372036854775808 < z ∧ z ≤ 9223372036854775807) : Sort.Holds encL w1 g 0 (toV s hv).toArray := by
  have h1 := holds_own h hn
  have hl : (toV s hv).length = s.length := by rw [← unV_length, unV_toV]
  intro j hj
  have hj2 : j < (toV s hv).length := by simpa using hj
  have h2 := h1 j (by simp; omega)
  refine ⟨?_, h2.2⟩
  rw [h2.1]
  have e : s.toArray[j]! = ((toV s hv).toArray[j]!).1 := by
    have := arr_map_get (toV s hv).toArray j (by simpa using hj2)
    simp only [List.toList_toArray, unV_toV] at this
    exact this
  rw [e]
  rfl
/-- a row of a call's own with other literals in it, and other blocks behind all -/
theorem own_sorted {w w1 : World} {g cap n m : Nat} {os : Array Obj} {s ts : List Int} (h : Own w w1 (.slice (some ⟨g, 0, none⟩) n cap) s) (hn : s.length = n) (hl : ts.length = s.length) :
    Own w (Sort.grow (Sort.putRow (Value.int .i64) (Sort.ahead w1 m) g 0 ts.toArray) os) (.slice (some ⟨g, 0, none⟩) n cap) ts := by
  subst hn
  obtain ⟨h1, h2⟩ := h
  rcases h1.2 with ⟨h', _⟩ | ⟨g', cap', cur, h', hb, hg, hnc, hcm, hcs, htake⟩
  · simp at h'
  · simp only [Value.slice.injEq, Option.some.injEq, Addr.mk.injEq, and_true, true_and] at h'
    obtain ⟨rfl, rfl⟩ := h'
    have h3 := ownsRow_sortedI (n := m) (os := os) hl hb hg hnc hcm hcs
    refine ⟨?_, h2.trans (below_grown h2.size (fun k hk => by injection hk with hk; subst hk; exact hb) (grownBy_sortedI ts.toArray))⟩
    rw [hl]
    exact h3
theorem own_grow {w w1 : World} {v : Value} {s : List Int} (h : Own w w1 v s) (m : Nat) (os : Array Obj) : Own w (Sort.grow (Sort.ahead w1 m) os) v s :=
  h.later ⟨rfl, rfl, rfl, by show w1.heap.size ≤ (w1.heap ++ os).size; rw [Array.size_append]; omega, fun _ hj => Sort.heap_grow_old (Sort.ahead w1 m) os hj⟩
/-- the first ones of a row -/
theorem own_cut {w w1 : World} {g cap n : Nat} {ts zs : List Int} (h : Own w w1 (.slice (some ⟨g, 0, none⟩) n cap) (ts ++ zs)) (hn : (ts ++ zs).length = n) :
    Own w w1 (.slice (some ⟨g, 0, none⟩) ts.length cap) ts := by
  subst hn
  obtain ⟨h1, h2⟩ := h
  refine ⟨?_, h2⟩
  rcases h1.2 with ⟨h', _⟩ | ⟨g', cap', cur, h', hb, hg, hnc, hcm, hcs, htake⟩
  · simp at h'
  · simp only [Value.slice.injEq, Option.some.injEq, Addr.mk.injEq, and_true, true_and] at h'
    obtain ⟨rfl, rfl⟩ := h'
    rw [List.length_append] at hnc htake
    refine ⟨by simp [iv], .inr ⟨g, cap, cur, rfl, hb, hg, by omega, hcm, hcs, ?_⟩⟩
    rw [Nat.mul_one] at htake ⊢
    have : (cur.toList.take (ts.length + zs.length)).take ts.length = (iv (ts ++ zs)).take ts.length := by rw [htake]
    rw [List.take_take, Nat.min_eq_left (by omega)] at this
    rw [this, iv_append, List.take_left' (iv_length ts)]
/-- in order, and each once -/
theorem compact_nrm (d : Array Int) (hs : ∀ i j, i < j → j < d.size → ¬ ahd d[j]! d[i]!) : ∀ m, m ≤ d.size →
    (Lib.compactUpTo d m).Pairwise ahd ∧ (∀ x, x ∈ Lib.compactUpTo d m ↔ ∃ i, i < m ∧ d[i]! = x)
  | 0, _ => ⟨by simp [Lib.compactUpTo], fun x => by simp [Lib.compactUpTo]⟩
  | m + 1, hm => by
    obtain ⟨h1, h2⟩ := compact_nrm d hs m (by omega)
    rw [Lib.compactUpTo_succ]
    by_cases hk : Lib.keeps d m = true
    · rw [if_pos hk]
      refine ⟨List.pairwise_append.2 ⟨h1, by simp, fun x hx y hy => ?_⟩, fun x => ?_⟩
      · obtain rfl := List.mem_singleton.1 hy
        obtain ⟨i, hi, rfl⟩ := (h2 x).1 hx
        have hne : m ≠ 0 := by omega
        have h3 : d[m]! ≠ d[m - 1]! := by
          unfold Lib.keeps at hk
          simp [hne] at hk
          exact hk
        have h4 : ahd d[m - 1]! d[m]! := by
          rcases ahd_tri h3 with h | h
          · exact absurd h (hs (m - 1) m (by omega) (by omega))
          · exact h
        by_cases e : i = m - 1
        · subst e; exact h4
        · have h5 : ¬ ahd d[m - 1]! d[i]! := hs i (m - 1) (by omega) (by omega)
          by_cases e2 : d[i]! = d[m - 1]!
          · rw [e2]; exact h4
          · rcases ahd_tri e2 with h | h
            · exact ahd_trans h h4
            · exact absurd h h5
      · rw [List.mem_append, List.mem_singleton, h2]
        constructor
        · rintro (⟨i, hi, e⟩ | e)
          · exact ⟨i, by omega, e⟩
          · exact ⟨m, by omega, e.symm⟩
        · rintro ⟨i, hi, e⟩
          by_cases e2 : i = m
          · subst e2; exact Or.inr e.symm
          · exact Or.inl ⟨i, by omega, e⟩
    · rw [if_neg hk, List.append_nil]
      refine ⟨h1, fun x => ?_⟩
      rw [h2]
      have h3 : m ≠ 0 ∧ d[m]! = d[m - 1]! := by
        unfold Lib.keeps at hk
        simp at hk
        exact ⟨hk.1, hk.2⟩
      constructor
      · rintro ⟨i, hi, e⟩; exact ⟨i, by omega, e⟩
      · rintro ⟨i, hi, e⟩
        by_cases e2 : i = m
        · subst e2; exact ⟨i - 1, by omega, by rw [← h3.2]; exact e⟩
        · exact ⟨i, by omega, e⟩
theorem mem_arr (s : List Int) (x : Int) : x ∈ s ↔ ∃ i, i < s.toArray.size ∧ s.toArray[i]! = x := by
  constructor
  · intro h
    obtain ⟨i, hi, e⟩ := List.getElem_of_mem h
    exact ⟨i, by simpa using hi, by simp [hi, e]⟩
  · rintro ⟨i, hi, e⟩
    have hi' : i < s.length := by simpa using hi
    rw [← e]
    simp [hi']
/-- what Compact makes of a sorted list -/
theorem compact_is {s t : List Int} (hp : t.Perm s) (hs : ∀ i j, i < j → j < t.toArray.size → ¬ ahd t.toArray[j]! t.toArray[i]!) : Nrm s (Lib.compactUpTo t.toArray t.toArray.size) := by
  have h := compact_nrm t.toArray hs t.toArray.size (Nat.le_refl _)
  exact ⟨h.1, fun x => by rw [h.2, ← mem_arr]; exact hp.mem_iff⟩
theorem compact_le (d : Array Int) : (Lib.compactUpTo d d.size).length ≤ d.size := by
  unfold Lib.compactUpTo
  rw [List.length_map]
  have := List.length_filter_le (Lib.keeps d) (List.range d.size)
  rwa [List.length_range] at this
end Go.Proofs.Ytnjidhoceacenaa
