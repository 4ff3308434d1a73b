import Derived.Test.YtgfmaejhdbmkoaaGreatRows
import Derived.Test.YtgfmaejhdbmkoaaGreatMem
import Derived.ProofKit
import Derived.OpenShut
import Derived.ShutString
import Derived.ChangeOld
import Derived.JoinedCond
import Derived.Deep.CondSized
import Derived.Sort.Row
import Derived.ChangeSame
import Derived.Deep.Slices
import Derived.Test.YtgfmaejhdbmkoaaGreatNumQ
import Derived.Test.YtgfmaejhdbmkoaaGreatWQ9
set_option linter.unusedSimpArgs false
namespace Go.Proofs.YtgfmaejhdbmkoaaGreat
open Go.ChangeShapes Go.WideShapes Go.ChangeAt Go.RowKit
set_option linter.unusedVariables false
theorem own:ownKnob Tryz.prog.godebug=none:=by kernel_rfl
theorem laidOut:laidOutB Tryz.prog=true:=by kernel_rfl
theorem bytes_u32:Tryz.prog.bytesOf 89=4:=by kernel_rfl
def valL:List Int→Nat
 | []=>0
 | z :: r=>valL r*BB+z.toNat
theorem valL_lt:∀ (l:List Int),(∀ z∈l,0≤z∧z < 4294967296)→valL l < BB ^ l.length
 | [],_=>by simp [valL]
 | z :: r,h=>by
  have h1:=valL_lt r fun x hx=>h x (List.mem_cons_of_mem _ hx)
  have h2:=h z List.mem_cons_self
  simp only [valL,List.length_cons,xQ7]
  have:(valL r+1)*BB≤BB ^ r.length*BB:=Nat.mul_le_mul_right _ h1
  rw [Nat.add_mul,BB_eq] at this
  rw [BB_eq]
  omega
theorem valL_dg:∀ (l:List Int) (i:Nat),(∀ z∈l,0≤z∧z < 4294967296)→i < l.length→((dg (valL l) i:Nat):Int)=l.getD i 0
 | [],i,_,hi=>absurd hi (by simp)
 | z :: r,i,h,hi=>by
  have h2:=h z List.mem_cons_self
  simp only [valL]
  cases i with
  | zero =>
   rw [dg0,←BB_eq,Nat.mul_comm,Nat.mul_add_mod,BB_eq,Nat.mod_eq_of_lt (by omega)]
   simp;omega
  | succ i =>
   have e:dg (valL r*BB+z.toNat) (i+1)=dg (valL r) i:=by
    have:=dg_hi (valL r) z.toNat (i+1) 1 (by omega) (by rw [Nat.pow_one,BB_eq];omega)
    rw [Nat.pow_one] at this
    exact this
   rw [e,valL_dg r i (fun x hx=>h x (List.mem_cons_of_mem _ hx)) (by simpa using hi)]
   simp
theorem wf_u32 {n:Int} (h:(Lit.int .u32 n).wf=true):0≤n∧n < 4294967296:=by
 have:=bounds_u32 h
 omega
set_option maxRecDepth 30000 in
theorem open_nat {H:Type} {enc:TypeId × Value→H} {W:World} {a:Option Addr} {len cap:Nat} {d:DataW H} {p:List MemPlace} {t:TypeId} (ht:Tryz.prog.underlying t=some (.slice 89))
  (h:DataW.Trod enc Tryz.prog W 0 (fun _=>true) true t (.slice a len cap) d p) (hsz:∀ elems spare,d=.slice elems spare→(elems.length+spare.length)*Tryz.prog.bytesOf 89≤reachBytes) :
  ∃ X,Seg W a X len∧len≤cap∧len≤35184372087808∧len+1≤Rows.uptoBulk d:=by
 obtain ⟨fuel,hf⟩:=h
 rcases open_ints ht Tryz.underlying89 (by kernel_rfl) hf with ⟨hcs,hx⟩ | ⟨x,l,c,zs,hcs,_,hl,hm,hz,hx,hcell,hwz⟩
 ·simp [Value.cells] at hcs
  obtain ⟨rfl,rfl,rfl⟩:=hcs
  simp only [Prod.mk.injEq] at hx
  obtain ⟨rfl,rfl⟩:=hx
  exact ⟨0,Seg.nil _ _,Nat.le_refl _,by omega,by simp [Rows.uptoBulk]⟩
 ·simp [Value.cells] at hcs
  obtain ⟨rfl,rfl,rfl⟩:=hcs
  simp only [Prod.mk.injEq] at hx
  obtain ⟨rfl,rfl⟩:=hx
  simp only [if_true] at hz
  have hs:=hsz _ _ rfl
  rw [bytes_u32] at hs
  simp only [lits,List.length_map,List.length_take,List.length_drop,reachBytes] at hs
  have hlim:∀ z∈zs.take len,0≤z∧z < 4294967296:=fun z hz'=>wf_u32 (hwz z (List.mem_of_mem_take hz'))
  have hlen:(zs.take len).length=len:=by simp;omega
  have hbulk:∀ (l:List Int),l.length≤Rows.uptoBulkAll (lits (H:=H) .u32 l):=by
   intro l
   induction l with
   | nil=>simp [lits,Rows.uptoBulkAll]
   | cons z r ih=>simp only [lits,List.map_cons,Rows.uptoBulkAll,Rows.uptoBulk,List.length_cons] at ih ⊢;omega
  refine ⟨valL (zs.take len),⟨by have:=valL_lt _ hlim;rwa [hlen] at this,fun hn=>?_⟩,hl,by omega,?_⟩
  ·obtain ⟨b,off,spot⟩:=x
   have hspot:spot=none:=by simpa [Addr.add] using World.cell?_spot (hcell 0 (by omega))
   subst hspot
   have hc:∀ i,i < len→W.cell? ⟨b,off+i,none⟩=some (.int .u32 (dg (valL (zs.take len)) i:Nat)):=by
    intro i hi
    have h1:=hcell i (by omega)
    have ea:(Addr.mk b off none).add i=⟨b,off+i,none⟩:=by unfold Addr.add;split <;> simp_all
    rw [ea] at h1
    rw [h1,valL_dg _ _ hlim (by omega)]
    congr 2
    simp [hi]
   refine ⟨b,off,rfl,?_,hc⟩
   have:=hc 0 hn
   obtain ⟨cur,e,fr,hb,_⟩:=Sort.cells_of_cell? this
   exact (Array.getElem?_eq_some_iff.1 hb).1
  ·have:=hbulk (zs.take len)
   simp only [Rows.uptoBulk]
   omega
theorem cells_bool:Tryz.prog.cellsOf 4=1:=by kernel_rfl
theorem cells_nat:Tryz.prog.cellsOf 51=1:=by kernel_rfl
theorem cells_Int:Tryz.prog.cellsOf 53=2:=by kernel_rfl
theorem sized_at {H:Type} {P:Program}:∀ {ts:List TypeId} {ds:List (DataW H)} (j:Nat) {t:TypeId} {d:DataW H},(DataW.weightsEach P ts ds).all (·≤reachBytes)=true→ts[j]?=some t→ds[j]?=some d→(d.weights P t).all (·≤reachBytes)=true:=by
 intro ts ds j t d h ht hd
 rw [List.all_eq_true] at h ⊢
 exact fun x hx=>h x (DataW.weights_mem_each ht hd x hx)
theorem cells_Rat:Tryz.prog.cellsOf 55=3:=by kernel_rfl
open Go.ChangeShapes Go.WideShapes Go.ChangeAt Go.RowKit Go.Deep
structure RatV where
 s:Bool
 a:Option Addr
 n:Nat
 c:Nat
 X:Nat
 b:Option Addr
 m:Nat
 e:Nat
 Y:Nat
instance:Inhabited RatV:=⟨⟨false,none,0,0,0,none,0,0,0⟩⟩
def RatV.ok (W:World) (q:RatV):Prop:=Seg W q.a q.X q.n∧q.n≤q.c∧q.n≤35184372087808∧Seg W q.b q.Y q.m∧q.m≤q.e∧q.m≤35184372087808
def RatV.lies (W:World) (b off:Nat) (q:RatV):Prop :=
 W.cell? ⟨b,off,none⟩=some (.bool q.s)∧W.cell? ⟨b,off+1,none⟩=some (.slice q.a q.n q.c)∧W.cell? ⟨b,off+2,none⟩=some (.slice q.b q.m q.e)
def RatsAt (W:World) (a:Option Addr) (n:Nat) (q:Nat→RatV):Prop :=
 0 < n→∃ b off,a=some ⟨b,off,none⟩∧b < W.heap.size∧∀ i,i < n→(q i).lies W b (off+i*3)
def bulkV (q:Nat→RatV):Nat→Nat
 | 0=>0
 | n+1=>bulkV q n+((q n).n+(q n).m+1)
theorem bulkAll_append {H:Type}:∀ (l m:List (DataW H)),Rows.uptoBulkAll (l ++ m)=Rows.uptoBulkAll l+Rows.uptoBulkAll m
 | [],m=>by simp [Rows.uptoBulkAll]
 | d :: l,m=>by simp only [List.cons_append,Rows.uptoBulkAll,bulkAll_append l m];omega
theorem weightsAll_mem {H:Type} {P:Program} {t:TypeId} {f:Nat→Bool}:∀ {l:List (DataW H)} {d:DataW H},(DataW.weightsAll P t l).all f=true→d∈l→(d.weights P t).all f=true
 | [],_,_,h=>by simp at h
 | c :: l,d,h,hm=>by
  simp only [DataW.weightsAll,List.all_append,Bool.and_eq_true] at h
  rcases List.mem_cons.1 hm with rfl | hm
  ·exact h.1
  ·exact weightsAll_mem h.2 hm
def MonoAt (W:World) (b off:Nat) (v:Int) (q:RatV):Prop:=W.cell? ⟨b,off,none⟩=some (.int .i64 v)∧q.lies W b (off+1)
def FormAt (W:World) (a:Option Addr) (n:Nat) (v:Nat→Int) (q:Nat→RatV):Prop :=
 0 < n→∃ b off,a=some ⟨b,off,none⟩∧b < W.heap.size∧∀ i,i < n→MonoAt W b (off+i*4) (v i) (q i)
theorem cells_Mono:Tryz.prog.cellsOf 57=4:=by kernel_rfl
theorem cells_int:Tryz.prog.cellsOf 3=1:=by kernel_rfl
theorem bytes_Mono:Tryz.prog.bytesOf 57=64:=by kernel_rfl
def lnum:List (Int × Nat)→Int
 | []=>0
 | x :: l=>x.1*(lden l:Nat)+lnum l*(x.2:Nat)
where
 lden:List (Int × Nat)→Nat
 | []=>1
 | x :: l=>x.2*lden l
abbrev lden:=lnum.lden
theorem lden_append:∀ (l m:List (Int × Nat)),lden (l ++ m)=lden l*lden m
 | [],m=>by simp [lden,lnum.lden]
 | x :: l,m=>by
  have:=lden_append l m
  show x.2*lden (l ++ m)=x.2*lden l*lden m
  rw [this,Nat.mul_assoc]
theorem lnum_append:∀ (l m:List (Int × Nat)),lnum (l ++ m)=lnum l*(lden m:Nat)+lnum m*(lden l:Nat)
 | [],m=>by
  show lnum m=0*_+lnum m*((1:Nat):Int)
  simp
 | x :: l,m=>by
  have h1:=lnum_append l m
  have h2:=lden_append l m
  show x.1*(lden (l ++ m):Nat)+lnum (l ++ m)*(x.2:Nat)=(x.1*(lden l:Nat)+lnum l*(x.2:Nat))*(lden m:Nat)+lnum m*((x.2*lden l:Nat):Int)
  rw [h1,h2,Int.natCast_mul,Int.natCast_mul,Int.add_mul,Int.add_mul]
  have e1:x.1*((lden l:Int)*(lden m:Int))=x.1*(lden l:Int)*(lden m:Int):=(Int.mul_assoc _ _ _).symm
  have e2:lnum l*(lden m:Int)*(x.2:Int)=lnum l*(x.2:Int)*(lden m:Int):=by rw [Int.mul_assoc,Int.mul_comm (lden m:Int),←Int.mul_assoc]
  have e3:lnum m*(lden l:Int)*(x.2:Int)=lnum m*((x.2:Int)*(lden l:Int)):=by rw [Int.mul_assoc,Int.mul_comm (lden l:Int)]
  rw [e1,e2,e3,Int.add_assoc]
theorem lden_pos:∀ {l:List (Int × Nat)},(∀ x∈l,0 < x.2)→0 < lden l
 | [],_=>Nat.one_pos
 | x :: l,h=>Nat.mul_pos (h x List.mem_cons_self) (lden_pos fun y hy=>h y (List.mem_cons_of_mem _ hy))
theorem low_sum {l m:List (Int × Nat)} {Z1 Z2 Z:Int} {V1 V2 V:Nat} (h1:Low (lnum l) (lden l:Nat) Z1 V1) (h2:Low (lnum m) (lden m:Nat) Z2 V2) (h:Low (Z1*(V2:Nat)+Z2*(V1:Nat)) ((V1:Int)*(V2:Nat)) Z V):Low (lnum (l ++ m)) (lden (l ++ m):Nat) Z V:=by
 have e1:=h1.eq
 have e2:=h2.eq
 refine h.congr ?_ ?_
 ·rw [lden_append]
  have n1:=h1.ne
  have n2:=h2.ne
  rw [Int.natCast_mul]
  exact Int.mul_ne_zero n1 n2
 ·rw [lnum_append,lden_append,Int.natCast_mul]
  have a1:Z1*(lden l:Int)=lnum l*(V1:Int):=by have:=e1;omega
  have a2:Z2*(lden m:Int)=lnum m*(V2:Int):=by have:=e2;omega
  grind
def lq (q:Nat→RatV) (n:Nat):List (Int × Nat):=(List.range n).map fun i=>(rn (q i).s (q i).X (q i).Y,rd (q i).Y)
theorem lq_zero (q:Nat→RatV):lq q 0=[]:=rfl
theorem lq_succ (q:Nat→RatV) (n:Nat):lq q (n+1)=lq q n ++ [(rn (q n).s (q n).X (q n).Y,rd (q n).Y)]:=by
 unfold lq
 rw [List.range_succ,List.map_append]
 rfl
theorem lq_add (q:Nat→RatV) (i:Nat):∀ j,lq q (i+j)=lq q i ++ lq (fun k=>q (i+k)) j
 | 0=>by simp [lq_zero]
 | j+1=>by
  rw [←Nat.add_assoc,lq_succ,lq_add q i j,lq_succ,List.append_assoc]
theorem bulkV_add (q:Nat→RatV) (i:Nat):∀ j,bulkV q (i+j)=bulkV q i+bulkV (fun k=>q (i+k)) j
 | 0=>by simp [bulkV]
 | j+1=>by
  rw [←Nat.add_assoc]
  simp only [bulkV,bulkV_add q i j]
  omega
theorem lden_lq_pos (q:Nat→RatV) (n:Nat):0 < lden (lq q n):=by
 refine lden_pos fun x hx=>?_
 unfold lq at hx
 obtain ⟨i,_,rfl⟩:=List.mem_map.1 hx
 exact rd_pos _
theorem rd_le {Y n:Nat} (h:Y < BB ^ n):rd Y≤BB ^ n:=by
 unfold rd
 split
 ·exact Nat.pos_of_ne_zero (by rw [BB_eq];exact Nat.pos_iff_ne_zero.1 (Nat.pow_pos (by omega)))
 ·omega
theorem lq_le {W:World} {q:Nat→RatV}:∀ (n:Nat),(∀ i,i < n→(q i).ok W)→lden (lq q n)≤BB ^ bulkV q n∧am (lnum (lq q n))≤BB ^ bulkV q n
 | 0,_=>by
  rw [lq_zero]
  exact ⟨Nat.le_refl _,Nat.zero_le _⟩
 | n+1,h=>by
  obtain ⟨h1,h2⟩:=lq_le n fun i hi=>h i (by omega)
  have hn:=h n (by omega)
  have hY:=rd_le hn.2.2.2.1.1
  have hX:am (rn (q n).s (q n).X (q n).Y)≤BB ^ (q n).n:=Nat.le_trans (rn_am _ _ _) (Nat.le_of_lt hn.1.1)
  rw [lq_succ,lden_append,lnum_append]
  have e1:lden [(rn (q n).s (q n).X (q n).Y,rd (q n).Y)]=rd (q n).Y:=Nat.mul_one _
  have e2:lnum [(rn (q n).s (q n).X (q n).Y,rd (q n).Y)]=rn (q n).s (q n).X (q n).Y:=by
   show rn (q n).s (q n).X (q n).Y*((1:Nat):Int)+0*_=_
   simp
  rw [e1,e2]
  generalize rn (q n).s (q n).X (q n).Y=R at *
  generalize rd (q n).Y=D at *
  generalize lden (lq q n)=A at *
  generalize lnum (lq q n)=B at *
  simp only [bulkV]
  generalize bulkV q n=k at *
  generalize (q n).n=i at *
  generalize (q n).m=j at *
  have p1:A*D≤BB ^ (k+j):=by rw [Nat.pow_add];exact Nat.mul_le_mul h1 hY
  have p2:am (B*(D:Nat))≤BB ^ (k+j):=by rw [am_mul,Nat.pow_add];exact Nat.mul_le_mul h2 hY
  have p3:am (R*(A:Nat))≤BB ^ (i+k):=by rw [am_mul,Nat.pow_add];exact Nat.mul_le_mul hX h1
  have p4:BB ^ (k+j)≤BB ^ (k+(i+j)):=xX4 (by omega)
  have p5:BB ^ (i+k)≤BB ^ (k+(i+j)):=xX4 (by omega)
  have p6:BB ^ (k+(i+j+1))=BB ^ (k+(i+j))*BB:=by rw [←Nat.add_assoc,Nat.pow_succ]
  have p7:am (B*(D:Nat)+R*(A:Nat))≤am (B*(D:Nat))+am (R*(A:Nat)):=Int.natAbs_add_le _ _
  have p8:BB ^ (k+(i+j))*2≤BB ^ (k+(i+j))*BB:=Nat.mul_le_mul_left _ (by rw [BB_eq];omega)
  rw [p6]
  constructor <;> omega
theorem lq_ln {W:World} {q:Nat→RatV} {n:Nat} {Z:Int} {V:Nat} (h:∀ i,i < n→(q i).ok W) (hL:Low (lnum (lq q n)) (lden (lq q n):Nat) Z V):ln (am Z)≤bulkV q n+1∧ln V≤bulkV q n+1:=by
 obtain ⟨h1,h2⟩:=lq_le n h
 have hl:BB ^ bulkV q n < BB ^ (bulkV q n+1):=by
  rw [Nat.pow_succ]
  have:0 < BB ^ bulkV q n:=by rw [BB_eq];exact Nat.pow_pos (by omega)
  have h3:BB ^ bulkV q n*2≤BB ^ bulkV q n*BB:=Nat.mul_le_mul_left _ (by rw [BB_eq];omega)
  omega
 exact ln1 hL (Nat.lt_of_le_of_lt h2 hl) (by show am ((lden (lq q n):Nat):Int) < _;exact Nat.lt_of_le_of_lt h1 hl) (Nat.le_refl _) (Nat.le_refl _)
end Go.Proofs.YtgfmaejhdbmkoaaGreat
