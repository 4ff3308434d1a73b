import Derived.Test.YtlklfkkbdcglbaaGreatWQ8
import Derived.Test.YtlklfkkbdcglbaaGreatOpenL
set_option linter.unusedSimpArgs false
namespace Go.Proofs.YtlklfkkbdcglbaaGreat
set_option linter.unusedVariables false
def lnum:List (Int × Nat)→Int
 | []=>0
 | x :: l=>x.1*(lden l:Nat)+lnum l*(x.2:Nat)
where
 lden:List (Int × Nat)→Nat
 | []=>1
 | x :: l=>x.2*lden l
abbrev lden:=lnum.lden
theorem lden_append:∀ (l m:List (Int × Nat)),lden (l ++ m)=lden l*lden m
 | [],m=>by simp [lden,lnum.lden]
 | x :: l,m=>by
  have:=lden_append l m
  show x.2*lden (l ++ m)=x.2*lden l*lden m
  rw [this,Nat.mul_assoc]
theorem lnum_append:∀ (l m:List (Int × Nat)),lnum (l ++ m)=lnum l*(lden m:Nat)+lnum m*(lden l:Nat)
 | [],m=>by
  show lnum m=0*_+lnum m*((1:Nat):Int)
  simp
 | x :: l,m=>by
  have h1:=lnum_append l m
  have h2:=lden_append l m
  show x.1*(lden (l ++ m):Nat)+lnum (l ++ m)*(x.2:Nat)=(x.1*(lden l:Nat)+lnum l*(x.2:Nat))*(lden m:Nat)+lnum m*((x.2*lden l:Nat):Int)
  rw [h1,h2,Int.natCast_mul,Int.natCast_mul,Int.add_mul,Int.add_mul]
  have e1:x.1*((lden l:Int)*(lden m:Int))=x.1*(lden l:Int)*(lden m:Int):=(Int.mul_assoc _ _ _).symm
  have e2:lnum l*(lden m:Int)*(x.2:Int)=lnum l*(x.2:Int)*(lden m:Int):=by rw [Int.mul_assoc,Int.mul_comm (lden m:Int),←Int.mul_assoc]
  have e3:lnum m*(lden l:Int)*(x.2:Int)=lnum m*((x.2:Int)*(lden l:Int)):=by rw [Int.mul_assoc,Int.mul_comm (lden l:Int)]
  rw [e1,e2,e3,Int.add_assoc]
theorem lden_pos:∀ {l:List (Int × Nat)},(∀ x∈l,0 < x.2)→0 < lden l
 | [],_=>Nat.one_pos
 | x :: l,h=>Nat.mul_pos (h x List.mem_cons_self) (lden_pos fun y hy=>h y (List.mem_cons_of_mem _ hy))
theorem low_sum {l m:List (Int × Nat)} {Z1 Z2 Z:Int} {V1 V2 V:Nat} (h1:Low (lnum l) (lden l:Nat) Z1 V1) (h2:Low (lnum m) (lden m:Nat) Z2 V2) (h:Low (Z1*(V2:Nat)+Z2*(V1:Nat)) ((V1:Int)*(V2:Nat)) Z V):Low (lnum (l ++ m)) (lden (l ++ m):Nat) Z V:=by
 have e1:=h1.eq
 have e2:=h2.eq
 refine h.congr ?_ ?_
 ·rw [lden_append]
  have n1:=h1.ne
  have n2:=h2.ne
  rw [Int.natCast_mul]
  exact Int.mul_ne_zero n1 n2
 ·rw [lnum_append,lden_append,Int.natCast_mul]
  have a1:Z1*(lden l:Int)=lnum l*(V1:Int):=by have:=e1;omega
  have a2:Z2*(lden m:Int)=lnum m*(V2:Int):=by have:=e2;omega
  grind
open Go.RowKit
theorem lt_prod {a b:Int} {i j:Nat} (ha:am a < BB ^ i) (hb:am b < BB ^ j):am (a*b) < BB ^ (i+j):=by
 rw [am_mul,Nat.pow_add]
 exact Nat.mul_lt_mul'' ha hb
theorem lt_sum {a b:Int} {i j k:Nat} (ha:am a < BB ^ i) (hb:am b < BB ^ j) (hi:i+1≤k) (hj:j+1≤k):am (a+b) < BB ^ k :=
 Nat.lt_of_lt_of_le (Nat.lt_of_le_of_lt (am_add a b) (ln_lt (am a+am b))) (pow_mono (ln_sum ha hb hi hj))
theorem ln1 {A D Z:Int} {V i j k:Nat} (h:Low A D Z V) (hA:am A < BB ^ i) (hD:am D < BB ^ j) (hi:i≤k) (hj:j≤k):ln (am Z)≤k∧ln V≤k :=
 ⟨Nat.le_trans (ln_le_of_lt (Nat.lt_of_le_of_lt h.le.1 hA)) hi,Nat.le_trans (ln_le_of_lt (Nat.lt_of_le_of_lt h.le.2 hD)) hj⟩
def lq (q:Nat→RatV) (n:Nat):List (Int × Nat):=(List.range n).map fun i=>(rn (q i).s (q i).X (q i).Y,rd (q i).Y)
theorem lq_zero (q:Nat→RatV):lq q 0=[]:=rfl
theorem lq_succ (q:Nat→RatV) (n:Nat):lq q (n+1)=lq q n ++ [(rn (q n).s (q n).X (q n).Y,rd (q n).Y)]:=by
 unfold lq
 rw [List.range_succ,List.map_append]
 rfl
theorem lq_add (q:Nat→RatV) (i:Nat):∀ j,lq q (i+j)=lq q i ++ lq (fun k=>q (i+k)) j
 | 0=>by simp [lq_zero]
 | j+1=>by
  rw [←Nat.add_assoc,lq_succ,lq_add q i j,lq_succ,List.append_assoc]
theorem bulkV_add (q:Nat→RatV) (i:Nat):∀ j,bulkV q (i+j)=bulkV q i+bulkV (fun k=>q (i+k)) j
 | 0=>by simp [bulkV]
 | j+1=>by
  rw [←Nat.add_assoc]
  simp only [bulkV,bulkV_add q i j]
  omega
theorem lden_lq_pos (q:Nat→RatV) (n:Nat):0 < lden (lq q n):=by
 refine lden_pos fun x hx=>?_
 unfold lq at hx
 obtain ⟨i,_,rfl⟩:=List.mem_map.1 hx
 exact rd_pos _
theorem rd_le {Y n:Nat} (h:Y < BB ^ n):rd Y≤BB ^ n:=by
 unfold rd
 split
 ·exact Nat.pos_of_ne_zero (by rw [BB_eq];exact Nat.pos_iff_ne_zero.1 (Nat.pow_pos (by omega)))
 ·omega
theorem lq_le {W:World} {q:Nat→RatV}:∀ (n:Nat),(∀ i,i < n→(q i).ok W)→lden (lq q n)≤BB ^ bulkV q n∧am (lnum (lq q n))≤BB ^ bulkV q n
 | 0,_=>by
  rw [lq_zero]
  exact ⟨Nat.le_refl _,Nat.zero_le _⟩
 | n+1,h=>by
  obtain ⟨h1,h2⟩:=lq_le n fun i hi=>h i (by omega)
  have hn:=h n (by omega)
  have hY:=rd_le hn.2.2.2.1.1
  have hX:am (rn (q n).s (q n).X (q n).Y)≤BB ^ (q n).n:=Nat.le_trans (rn_am _ _ _) (Nat.le_of_lt hn.1.1)
  rw [lq_succ,lden_append,lnum_append]
  have e1:lden [(rn (q n).s (q n).X (q n).Y,rd (q n).Y)]=rd (q n).Y:=Nat.mul_one _
  have e2:lnum [(rn (q n).s (q n).X (q n).Y,rd (q n).Y)]=rn (q n).s (q n).X (q n).Y:=by
   show rn (q n).s (q n).X (q n).Y*((1:Nat):Int)+0*_=_
   simp
  rw [e1,e2]
  generalize rn (q n).s (q n).X (q n).Y=R at *
  generalize rd (q n).Y=D at *
  generalize lden (lq q n)=A at *
  generalize lnum (lq q n)=B at *
  simp only [bulkV]
  generalize bulkV q n=k at *
  generalize (q n).n=i at *
  generalize (q n).m=j at *
  have p1:A*D≤BB ^ (k+j):=by rw [Nat.pow_add];exact Nat.mul_le_mul h1 hY
  have p2:am (B*(D:Nat))≤BB ^ (k+j):=by rw [am_mul,Nat.pow_add];exact Nat.mul_le_mul h2 hY
  have p3:am (R*(A:Nat))≤BB ^ (i+k):=by rw [am_mul,Nat.pow_add];exact Nat.mul_le_mul hX h1
  have p4:BB ^ (k+j)≤BB ^ (k+(i+j)):=pow_mono (by omega)
  have p5:BB ^ (i+k)≤BB ^ (k+(i+j)):=pow_mono (by omega)
  have p6:BB ^ (k+(i+j+1))=BB ^ (k+(i+j))*BB:=by rw [←Nat.add_assoc,Nat.pow_succ]
  have p7:am (B*(D:Nat)+R*(A:Nat))≤am (B*(D:Nat))+am (R*(A:Nat)):=Int.natAbs_add_le _ _
  have p8:BB ^ (k+(i+j))*2≤BB ^ (k+(i+j))*BB:=Nat.mul_le_mul_left _ (by rw [BB_eq];omega)
  rw [p6]
  constructor <;> omega
theorem lq_ln {W:World} {q:Nat→RatV} {n:Nat} {Z:Int} {V:Nat} (h:∀ i,i < n→(q i).ok W) (hL:Low (lnum (lq q n)) (lden (lq q n):Nat) Z V):ln (am Z)≤bulkV q n+1∧ln V≤bulkV q n+1:=by
 obtain ⟨h1,h2⟩:=lq_le n h
 have hl:BB ^ bulkV q n < BB ^ (bulkV q n+1):=by
  rw [Nat.pow_succ]
  have:0 < BB ^ bulkV q n:=by rw [BB_eq];exact Nat.pow_pos (by omega)
  have h3:BB ^ bulkV q n*2≤BB ^ bulkV q n*BB:=Nat.mul_le_mul_left _ (by rw [BB_eq];omega)
  omega
 exact ln1 hL (Nat.lt_of_le_of_lt h2 hl) (by show am ((lden (lq q n):Nat):Int) < _;exact Nat.lt_of_le_of_lt h1 hl) (Nat.le_refl _) (Nat.le_refl _)
end Go.Proofs.YtlklfkkbdcglbaaGreat
