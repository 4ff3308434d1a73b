import Derived.Test.YtejlnodillnoaaaGreatDoorNum
set_option linter.unusedSimpArgs false
namespace Go.Proofs.YtejlnodillnoaaaGreatDoor
set_option linter.unusedVariables false
def cpq : List Int → Int × Int
  | [] => (1, 0)
  | x :: l => (x * (cpq l).1 + (cpq l).2, (cpq l).1)
def cst2 (c : (Int × Int) × (Int × Int)) (x : Int) : (Int × Int) × (Int × Int) := (c.2, (c.2.1 * x + c.1.1, c.2.2 * x + c.1.2))
def cvg (l : List Int) (c : (Int × Int) × (Int × Int)) : (Int × Int) × (Int × Int) := l.foldl cst2 c
theorem cvg_is : ∀ (l : List Int) (c : (Int × Int) × (Int × Int)), (cvg l c).2 = (c.2.1 * (cpq l).1 + c.1.1 * (cpq l).2, c.2.2 * (cpq l).1 + c.1.2 * (cpq l).2)
  | [], c => by simp [cvg, cpq]
  | x :: l, c => by
    have h := cvg_is l (cst2 c x)
    have e : cvg (x :: l) c = cvg l (cst2 c x) := rfl
    rw [e, h]
    simp only [cst2, cpq]
    refine Prod.ext ?_ ?_
    · show (c.2.1 * x + c.1.1) * (cpq l).1 + c.2.1 * (cpq l).2 = c.2.1 * (x * (cpq l).1 + (cpq l).2) + c.1.1 * (cpq l).1
      grind
    · show (c.2.2 * x + c.1.2) * (cpq l).1 + c.2.2 * (cpq l).2 = c.2.2 * (x * (cpq l).1 + (cpq l).2) + c.1.2 * (cpq l).1
      grind
theorem cvg_begun (l : List Int) : (cvg l ((0, 1), (1, 0))).2 = cpq l := by
  rw [cvg_is]
  refine Prod.ext ?_ ?_
  · show (1 : Int) * (cpq l).1 + 0 * (cpq l).2 = (cpq l).1
    omega
  · show (0 : Int) * (cpq l).1 + 1 * (cpq l).2 = (cpq l).2
    omega
theorem cpq_cop : ∀ (l : List Int), Int.gcd (cpq l).1 (cpq l).2 = 1
  | [] => by decide
  | x :: l => by
    show Int.gcd (x * (cpq l).1 + (cpq l).2) (cpq l).1 = 1
    rw [Int.gcd_comm, Int.add_comm, Int.mul_comm, Int.gcd_add_mul_left_right]
    exact cpq_cop l
theorem cpq_pos : ∀ (l : List Int), (∀ x ∈ l, 0 < x) → 0 < (cpq l).1 ∧ 0 ≤ (cpq l).2
  | [], _ => by decide
  | x :: l, h => by
    obtain ⟨h1, h2⟩ := cpq_pos l fun y hy => h y (List.mem_cons_of_mem _ hy)
    have h3 := Int.mul_pos (h x (List.mem_cons_self ..)) h1
    show 0 < x * (cpq l).1 + (cpq l).2 ∧ 0 ≤ (cpq l).1
    omega
end Go.Proofs.YtejlnodillnoaaaGreatDoor
