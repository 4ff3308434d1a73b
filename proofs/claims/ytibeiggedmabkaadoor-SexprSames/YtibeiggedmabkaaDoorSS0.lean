/-
  SexprSames: trees that come in (any Kind), and when two are the Same: pure.
-/
import Derived.Test.YtibeiggedmabkaaDoorSX1
namespace Go.Proofs.YtibeiggedmabkaaDoor
open Go.RowKit
set_option linter.unusedVariables false
set_option linter.unusedSimpArgs false
structure TokZ where
  k : Int
  t : ByteArray
  b : Int
  e : Int
  l : Int
  c : Int
def TokZ.cells (t : TokZ) : List Value := [.int .i64 t.k, .string t.t, .int .i64 t.b, .int .i64 t.e, .int .i64 t.l, .int .i64 t.c]
inductive NdZ where
  | mk (t : TokZ) (kids : List NdZ)
def NdZ.t : NdZ → TokZ
  | .mk t _ => t
def NdZ.kids : NdZ → List NdZ
  | .mk _ k => k
mutual
def sameZ : NdZ → NdZ → Bool
  | .mk t k, .mk t2 k2 => if t.k = t2.k then (if t.k = 0 then sameL k k2 else (t.t.toList == t2.t.toList)) else false
def sameL : List NdZ → List NdZ → Bool
  | [], [] => true
  | x :: a, y :: b => sameZ x y && sameL a b
  | [], _ :: _ => false
  | _ :: _, [] => false
end
theorem bytes_comm (a b : List UInt8) : (a == b) = (b == a) := by
  rw [Bool.eq_iff_iff]
  simp only [beq_iff_eq]
  exact eq_comm
mutual
theorem sameZ_comm : ∀ a b : NdZ, sameZ a b = sameZ b a
  | .mk t k, .mk t2 k2 => by
    simp only [sameZ]
    by_cases h : t.k = t2.k
    · rw [if_pos h, if_pos h.symm, ← h, sameL_comm k k2, bytes_comm]
    · rw [if_neg h, if_neg (fun c => h c.symm)]
theorem sameL_comm : ∀ a b : List NdZ, sameL a b = sameL b a
  | [], [] => rfl
  | x :: a, y :: b => by simp only [sameL]; rw [sameZ_comm x y, sameL_comm a b]
  | [], _ :: _ => by simp only [sameL]
  | _ :: _, [] => by simp only [sameL]
end
theorem sameL_all : ∀ (a b : List NdZ), a.length = b.length → (∀ i (h : i < a.length) (h2 : i < b.length), sameZ a[i] b[i] = true) → sameL a b = true
  | [], [], _, _ => by simp only [sameL]
  | x :: a, y :: b, hl, h => by
    simp only [sameL, Bool.and_eq_true]
    exact ⟨h 0 (by simp) (by simp), sameL_all a b (by simpa using hl) (fun i h1 h2 => by have := h (i + 1) (by simpa using h1) (by simpa using h2); simpa using this)⟩
  | [], _ :: _, hl, _ => by simp at hl
  | _ :: _, [], hl, _ => by simp at hl
theorem sameL_not : ∀ (a b : List NdZ) (i : Nat) (h : i < a.length) (h2 : i < b.length), sameZ a[i] b[i] = false → sameL a b = false
  | x :: a, y :: b, 0, _, _, h => by simp only [sameL, List.getElem_cons_zero] at h ⊢; rw [h]; rfl
  | x :: a, y :: b, i + 1, h1, h2, h => by
    simp only [sameL]
    rw [sameL_not a b i (by simpa using h1) (by simpa using h2) (by simpa using h), Bool.and_false]
  | [], _, _, h, _, _ => by simp at h
  | _ :: _, [], _, _, h, _ => by simp at h
theorem sameL_len : ∀ (a b : List NdZ), a.length ≠ b.length → sameL a b = false
  | [], [], h => absurd rfl h
  | x :: a, y :: b, h => by simp only [sameL]; rw [sameL_len a b (fun c => h (by simp [c])), Bool.and_false]
  | [], _ :: _, _ => by simp only [sameL]
  | _ :: _, [], _ => by simp only [sameL]
/-- a list of nodes that came in, and all that stands in them -/
inductive ZIn (w : World) : Value → List NdZ → Prop
  | mk (a : Option Addr) (g off c : Nat) (kids : List NdZ) (vs : Nat → Value) (ha : 0 < kids.length → a = some ⟨g, off, none⟩) (hb : kids.length ≤ 9223372036854775807)
      (hc : ∀ i (h : i < kids.length) j, j < 6 → w.cell? ⟨g, off + i * 7 + j, none⟩ = (kids[i].t).cells[j]?)
      (hv : ∀ i, i < kids.length → w.cell? ⟨g, off + i * 7 + 6, none⟩ = some (vs i))
      (hk : ∀ i (h : i < kids.length), ZIn w (vs i) (kids[i].kids)) : ZIn w (.slice a kids.length c) kids
end Go.Proofs.YtibeiggedmabkaaDoor
