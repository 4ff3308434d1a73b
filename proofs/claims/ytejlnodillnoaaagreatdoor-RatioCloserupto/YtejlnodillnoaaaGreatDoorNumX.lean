import Derived.Test.YtejlnodillnoaaaGreatDoorNum
set_option linter.unusedSimpArgs false
namespace Go.Proofs.YtejlnodillnoaaaGreatDoor
set_option linter.unusedVariables false
theorem mod_nat {n : Int} {d : Nat} (hd : d ≠ 0) : ((n % (d : Int)).toNat : Int) = n % (d : Int) ∧ (n % (d : Int)).toNat < d := by
  have h1 := Int.emod_nonneg n (show (d : Int) ≠ 0 by omega)
  have h2 := Int.emod_lt_of_pos n (show (0 : Int) < (d : Int) by omega)
  omega
def cf (n : Int) (d : Nat) : List Int :=
  if h : d = 0 then [] else if n % (d : Int) = 0 then [n / (d : Int)] else n / (d : Int) :: cf (d : Int) (n % (d : Int)).toNat
termination_by d
decreasing_by exact (mod_nat h).2
theorem cf_end {n : Int} {d : Nat} (hd : d ≠ 0) (h : n % (d : Int) = 0) : cf n d = [n / (d : Int)] := by
  rw [cf, dif_neg hd, if_pos h]
theorem cf_on {n : Int} {d : Nat} (hd : d ≠ 0) (h : n % (d : Int) ≠ 0) : cf n d = n / (d : Int) :: cf (d : Int) (n % (d : Int)).toNat := by
  rw [cf, dif_neg hd, if_neg h]
end Go.Proofs.YtejlnodillnoaaaGreatDoor
