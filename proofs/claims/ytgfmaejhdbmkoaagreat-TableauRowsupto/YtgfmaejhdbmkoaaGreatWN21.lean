import Derived.Test.YtgfmaejhdbmkoaaGreatNumS
import Derived.Test.YtgfmaejhdbmkoaaGreatWO0
import Derived.Test.YtgfmaejhdbmkoaaGreatWL6
import Derived.Test.YtgfmaejhdbmkoaaGreatWQB
import Derived.Below
import Derived.Test.YtgfmaejhdbmkoaaGreatWN17
set_option linter.unusedSimpArgs false
namespace Go.Proofs.YtgfmaejhdbmkoaaGreat
open Go.RowKit
set_option linter.unusedVariables false
def rs (q:Nat→RatV):Nat→Rat
 | 0=>0
 | n+1=>rs q n+(q n).val
theorem rs_div (q:Nat→RatV):∀ n,rs q n=Rat.divInt (lnum (lq q n)) ((lden (lq q n):Nat):Int)
 | 0=>by show (0:Rat)=Rat.divInt 0 _;rw [Rat.zero_divInt]
 | n+1=>by
  have hp:=lden_lq_pos q n
  simp only [rs]
  rw [rs_div q n,lq_succ,lnum_append,lden_append]
  unfold RatV.val
  rw [Rat.divInt_add_divInt _ _ (by omega) (rd_ne _)]
  have e1:lden [(rn (q n).s (q n).X (q n).Y,rd (q n).Y)]=rd (q n).Y:=Nat.mul_one _
  have e2:lnum [(rn (q n).s (q n).X (q n).Y,rd (q n).Y)]=rn (q n).s (q n).X (q n).Y:=by
   show _*((1:Nat):Int)+0*_=_
   simp
  rw [e1,e2,Int.natCast_mul]
theorem rs_low (q:Nat→RatV) (n:Nat):Low (lnum (lq q n)) ((lden (lq q n):Nat):Int) (rs q n).num (rs q n).den:=low_of (by have:=lden_lq_pos q n;omega) (rs_div q n)
theorem rs_congr {q q':Nat→RatV}:∀ (n:Nat),(∀ i,i < n→q' i=q i)→rs q' n=rs q n
 | 0,_=>rfl
 | n+1,h=>by simp only [rs];rw [rs_congr n fun i hi=>h i (by omega),h n (by omega)]
theorem bulkV_congr {q q':Nat→RatV}:∀ (n:Nat),(∀ i,i < n→q' i=q i)→bulkV q' n=bulkV q n
 | 0,_=>rfl
 | n+1,h=>by simp only [bulkV];rw [bulkV_congr n fun i hi=>h i (by omega),h n (by omega)]
def oth (x:Int) (L:List Mo):List Mo:=L.filter fun p=>!(p.1 == x)
def mine (x:Int) (L:List Mo):List Mo:=L.filter fun p=>p.1 == x
def AInv (w:World) (L:List Mo) (x:Int) (k:Nat) (vo vt:Value) (wr:World):Prop :=
 ∃ (j:Nat) (q:Nat→RatV),j≤k∧wr.ownsRow w.heap.size 55 3 vo j (cellsV q j)∧wr.ownsRow w.heap.size 57 4 vt (oth x (L.take k)).length (xZ0 (oth x (L.take k)))∧Below w.heap.size w wr ∧
  (∀ b,vo.ownBlock=some b→vt.ownBlock≠some b)∧(∀ i,i < j→(q i).ok wr∧(q i).low∧(∀ b,vo.ownBlock=some b→(q i).off b)∧(∀ b,vt.ownBlock=some b→(q i).off b)) ∧
  rs q j=co x (fo (L.take k))∧bulkV q j≤bulkL (mine x (L.take k))
theorem AInv.below {w:World} {L:List Mo} {x:Int} {k:Nat} {vo vt:Value} {wr:World} (h:AInv w L x k vo vt wr):Below w.heap.size w wr:=by
 obtain ⟨j,q,_,_,_,hB,_⟩:=h
 exact hB
theorem Four.far4 {w:World} {c b o:Nat} {u0 u1 u2 u3:Value} (h:c=b→4≤o):(set4 w c u0 u1 u2 u3).cell? ⟨b,o,none⟩=w.cell? ⟨b,o,none⟩:=by
 have hne:∀ i,i < 4→(⟨b,o,none⟩:Addr)≠⟨c,i,none⟩:=fun i hi e=>by
  simp only [Addr.mk.injEq] at e
  have:=h e.1.symm
  omega
 unfold set4
 rw [World.cell?_setCell_other _ _ _ _ (by first | exact hne 3 (by omega) | exact (hne 3 (by omega)).symm),World.cell?_setCell_other _ _ _ _ (by first | exact hne 2 (by omega) | exact (hne 2 (by omega)).symm),World.cell?_setCell_other _ _ _ _ (by first | exact hne 1 (by omega) | exact (hne 1 (by omega)).symm),World.cell?_setCell_other _ _ _ _ (by first | exact hne 0 (by omega) | exact (hne 0 (by omega)).symm)]
theorem Four.fat {w:World} {c:Nat} {u0 u1 u2 u3 z0 z1 z2 z3:Value} (h:Four w c z0 z1 z2 z3) (k0:∀ i,z0≠.int .i64 i) (k1:∀ i,z1≠.int .i64 i) (k2:∀ i,z2≠.int .i64 i) (k3:∀ i,z3≠.int .i64 i) {a:Option Addr} {L:List Mo} (hF:FAt w a L):FAt (set4 w c u0 u1 u2 u3) a L:=fun hn=>by
 obtain ⟨b,off,e,hl,hc⟩:=hF hn
 have hsz:(set4 w c u0 u1 u2 u3).heap.size=w.heap.size:=by simp only [set4,World.size_setCell]
 refine ⟨b,off,e,by rw [hsz];exact hl,fun i p hi=>?_⟩
 have hm:=hc i p hi
 obtain ⟨o,ho⟩:∃ o,off+i*4=o:=⟨_,rfl⟩
 rw [ho] at hm ⊢
 have h4:c=b→4≤o:=fun e=>by
  subst e
  obtain ⟨⟨h0,h1,h2,h3⟩,_⟩:=h
  have m0:=hm.1
  rcases Nat.lt_or_ge o 4 with hlt | hge
  ·exfalso
   match o,hlt,m0 with
   | 0,_,m0=>rw [h0] at m0;exact k0 _ (Option.some.inj m0)
   | 1,_,m0=>rw [h1] at m0;exact k1 _ (Option.some.inj m0)
   | 2,_,m0=>rw [h2] at m0;exact k2 _ (Option.some.inj m0)
   | 3,_,m0=>rw [h3] at m0;exact k3 _ (Option.some.inj m0)
  ·exact hge
 refine ⟨by rw [Four.far4 h4];exact hm.1,by rw [Four.far4 (fun e=>by have:=h4 e;omega)];exact hm.2.1,by rw [Four.far4 (fun e=>by have:=h4 e;omega)];exact hm.2.2.1,by rw [Four.far4 (fun e=>by have:=h4 e;omega)];exact hm.2.2.2⟩
theorem Four.ok {w:World} {c:Nat} {u0 u1 u2 u3 z0 z1 z2 z3:Value} (h:Four w c z0 z1 z2 z3) (k0:∀ i,z0≠.int .u32 i) (k1:∀ i,z1≠.int .u32 i) (k2:∀ i,z2≠.int .u32 i) (k3:∀ i,z3≠.int .u32 i) {p:Mo} (hE:Ent w p):Ent (set4 w c u0 u1 u2 u3) p :=
 ⟨⟨h.seg k0 k1 k2 k3 hE.ok.1,hE.ok.2.1,hE.ok.2.2.1,h.seg k0 k1 k2 k3 hE.ok.2.2.2.1,hE.ok.2.2.2.2.1,hE.ok.2.2.2.2.2⟩,hE.low⟩
def AfAns (w:World) (l:Fo) (s:Rat) (e:Ending) (w':World):Prop :=
 ∃ a c R p q,e=.returned (.agg #[.slice a (R:List Mo).length c,.bool (ng s.num),.slice p (ln (am s.num)) (ln (am s.num)),.slice q (ln s.den) (ln s.den)])∧Below w.heap.size w w' ∧
  Sl w' a c R∧(∀ p∈R,Ent w' p)∧fo R=l∧Seg w' p (am s.num) (ln (am s.num))∧Seg w' q s.den (ln s.den)
theorem sz_zero (N:Nat) (h:1≤N):sz N 0:=⟨by show ln 0≤_;rw [xX7];omega,by show ln 1≤_;rw [ln_one];omega⟩
theorem nrm.sub {l m:Fo} (h:nrm l) (hs:List.Sublist m l):nrm m:=⟨h.1.sublist hs,fun p hp=>h.2 p (hs.subset hp)⟩
end Go.Proofs.YtgfmaejhdbmkoaaGreat
