import Derived.Test.YtejlnodillnoaaaGreatDoorNum
set_option linter.unusedSimpArgs false
namespace Go.Proofs.YtejlnodillnoaaaGreatDoor
set_option linter.unusedVariables false
theorem mod_nat {n:Int} {d:Nat} (hd:d≠0):((n % (d:Int)).toNat:Int)=n % (d:Int)∧(n % (d:Int)).toNat < d:=by
 have h1:=Int.emod_nonneg n (show (d:Int)≠0 by omega)
 have h2:=Int.emod_lt_of_pos n (show (0:Int) < (d:Int) by omega)
 omega
def cf (n:Int) (d:Nat):List Int :=
 if h:d=0 then [] else if n % (d:Int)=0 then [n / (d:Int)] else n / (d:Int) :: cf (d:Int) (n % (d:Int)).toNat
termination_by d
decreasing_by exact (mod_nat h).2
theorem cf_end {n:Int} {d:Nat} (hd:d≠0) (h:n % (d:Int)=0):cf n d=[n / (d:Int)]:=by
 rw [cf,dif_neg hd,if_pos h]
theorem cf_on {n:Int} {d:Nat} (hd:d≠0) (h:n % (d:Int)≠0):cf n d=n / (d:Int) :: cf (d:Int) (n % (d:Int)).toNat:=by
 rw [cf,dif_neg hd,if_neg h]
theorem mod_half {a b:Nat} (hb:b≠0) (h:b≤a):2*(a % b) < a:=by
 have h1:=Nat.mod_lt a (show 0 < b by omega)
 have h2:=Nat.div_add_mod a b
 have h3:1≤a / b:=(Nat.le_div_iff_mul_le (by omega)).2 (by omega)
 have h4:b*1≤b*(a / b):=Nat.mul_le_mul_left _ h3
 omega
theorem cf_length:∀ (k:Nat) (n:Int) (d:Nat),d < 2 ^ k→(cf n d).length≤2*k+1
 | 0,n,d,h=>by
  have:d=0:=by simpa using h
  rw [cf,dif_pos this];simp
 | k+1,n,d,h=>by
  by_cases hd:d=0
  ·rw [cf,dif_pos hd];simp
  ·by_cases h0:n % (d:Int)=0
   ·rw [cf_end hd h0];simp
   ·obtain ⟨e1,e2⟩:=mod_nat (n:=n) hd
    rw [cf_on hd h0]
    generalize (n % (d:Int)).toNat=r at e1 e2
    have hr:r≠0:=fun e=>h0 (by rw [←e1,e];rfl)
    by_cases h1:((d:Nat):Int) % (r:Int)=0
    ·rw [cf_end hr h1];simp only [List.length_cons,List.length_nil];omega
    ·rw [cf_on hr h1]
     have e3:(((d:Nat):Int) % (r:Int)).toNat=d % r:=by rw [←Int.natCast_emod];rfl
     rw [e3]
     have h2:=mod_half hr (Nat.le_of_lt e2)
     have h3:d % r < 2 ^ k:=by rw [Nat.pow_succ] at h;omega
     have h4:=cf_length k (r:Int) (d % r) h3
     simp only [List.length_cons]
     omega
end Go.Proofs.YtejlnodillnoaaaGreatDoor
