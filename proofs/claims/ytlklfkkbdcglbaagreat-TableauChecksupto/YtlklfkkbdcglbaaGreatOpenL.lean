import Derived.Test.YtlklfkkbdcglbaaGreatRows
import Derived.Test.YtlklfkkbdcglbaaGreatMem
import Derived.ProofKit
import Derived.OpenShut
import Derived.ShutString
import Derived.ChangeOld
import Derived.JoinedCond
import Derived.Deep.CondSized
import Derived.Sort.Row
import Derived.ChangeSame
import Derived.Deep.Slices
set_option linter.unusedSimpArgs false
namespace Go.Proofs.YtlklfkkbdcglbaaGreat
open Go.ChangeShapes Go.WideShapes Go.ChangeAt Go.RowKit
set_option linter.unusedVariables false
theorem own:ownKnob Tryz.prog.godebug=none:=by kernel_rfl
theorem laidOut:laidOutB Tryz.prog=true:=by kernel_rfl
theorem bytes_u32:Tryz.prog.bytesOf 123=4:=by kernel_rfl
def valL:List Int→Nat
 | []=>0
 | z :: r=>valL r*BB+z.toNat
theorem valL_lt:∀ (l:List Int),(∀ z∈l,0≤z∧z < 4294967296)→valL l < BB ^ l.length
 | [],_=>by simp [valL]
 | z :: r,h=>by
  have h1:=valL_lt r fun x hx=>h x (List.mem_cons_of_mem _ hx)
  have h2:=h z List.mem_cons_self
  simp only [valL,List.length_cons,pow_succ']
  have:(valL r+1)*BB≤BB ^ r.length*BB:=Nat.mul_le_mul_right _ h1
  rw [Nat.add_mul,BB_eq] at this
  rw [BB_eq]
  omega
theorem valL_dg:∀ (l:List Int) (i:Nat),(∀ z∈l,0≤z∧z < 4294967296)→i < l.length→((dg (valL l) i:Nat):Int)=l.getD i 0
 | [],i,_,hi=>absurd hi (by simp)
 | z :: r,i,h,hi=>by
  have h2:=h z List.mem_cons_self
  simp only [valL]
  cases i with
  | zero =>
   rw [dg0,←BB_eq,Nat.mul_comm,Nat.mul_add_mod,BB_eq,Nat.mod_eq_of_lt (by omega)]
   simp;omega
  | succ i =>
   have e:dg (valL r*BB+z.toNat) (i+1)=dg (valL r) i:=by
    have:=dg_hi (valL r) z.toNat (i+1) 1 (by omega) (by rw [Nat.pow_one,BB_eq];omega)
    rw [Nat.pow_one] at this
    exact this
   rw [e,valL_dg r i (fun x hx=>h x (List.mem_cons_of_mem _ hx)) (by simpa using hi)]
   simp
theorem wf_u32 {n:Int} (h:(Lit.int .u32 n).wf=true):0≤n∧n < 4294967296:=by
 have:=bounds_u32 h
 omega
set_option maxRecDepth 30000 in
theorem open_nat {H:Type} {enc:TypeId × Value→H} {W:World} {a:Option Addr} {len cap:Nat} {d:DataW H} {p:List MemPlace} {t:TypeId} (ht:Tryz.prog.underlying t=some (.slice 123))
  (h:DataW.Trod enc Tryz.prog W 0 (fun _=>true) true t (.slice a len cap) d p) (hsz:∀ elems spare,d=.slice elems spare→(elems.length+spare.length)*Tryz.prog.bytesOf 123≤reachBytes) :
  ∃ X,Seg W a X len∧len≤cap∧len≤35184372087808∧len+1≤Rows.uptoBulk d:=by
 obtain ⟨fuel,hf⟩:=h
 rcases open_ints ht Tryz.underlying123 (by kernel_rfl) hf with ⟨hcs,hx⟩ | ⟨x,l,c,zs,hcs,_,hl,hm,hz,hx,hcell,hwz⟩
 ·simp [Value.cells] at hcs
  obtain ⟨rfl,rfl,rfl⟩:=hcs
  simp only [Prod.mk.injEq] at hx
  obtain ⟨rfl,rfl⟩:=hx
  exact ⟨0,Seg.nil _ _,Nat.le_refl _,by omega,by simp [Rows.uptoBulk]⟩
 ·simp [Value.cells] at hcs
  obtain ⟨rfl,rfl,rfl⟩:=hcs
  simp only [Prod.mk.injEq] at hx
  obtain ⟨rfl,rfl⟩:=hx
  simp only [if_true] at hz
  have hs:=hsz _ _ rfl
  rw [bytes_u32] at hs
  simp only [lits,List.length_map,List.length_take,List.length_drop,reachBytes] at hs
  have hlim:∀ z∈zs.take len,0≤z∧z < 4294967296:=fun z hz'=>wf_u32 (hwz z (List.mem_of_mem_take hz'))
  have hlen:(zs.take len).length=len:=by simp;omega
  have hbulk:∀ (l:List Int),l.length≤Rows.uptoBulkAll (lits (H:=H) .u32 l):=by
   intro l
   induction l with
   | nil=>simp [lits,Rows.uptoBulkAll]
   | cons z r ih=>simp only [lits,List.map_cons,Rows.uptoBulkAll,Rows.uptoBulk,List.length_cons] at ih ⊢;omega
  refine ⟨valL (zs.take len),⟨by have:=valL_lt _ hlim;rwa [hlen] at this,fun hn=>?_⟩,hl,by omega,?_⟩
  ·obtain ⟨b,off,spot⟩:=x
   have hspot:spot=none:=by simpa [Addr.add] using World.cell?_spot (hcell 0 (by omega))
   subst hspot
   have hc:∀ i,i < len→W.cell? ⟨b,off+i,none⟩=some (.int .u32 (dg (valL (zs.take len)) i:Nat)):=by
    intro i hi
    have h1:=hcell i (by omega)
    have ea:(Addr.mk b off none).add i=⟨b,off+i,none⟩:=by unfold Addr.add;split <;> simp_all
    rw [ea] at h1
    rw [h1,valL_dg _ _ hlim (by omega)]
    congr 2
    simp [hi]
   refine ⟨b,off,rfl,?_,hc⟩
   have:=hc 0 hn
   obtain ⟨cur,e,fr,hb,_⟩:=Sort.cells_of_cell? this
   exact (Array.getElem?_eq_some_iff.1 hb).1
  ·have:=hbulk (zs.take len)
   simp only [Rows.uptoBulk]
   omega
theorem cells_bool:Tryz.prog.cellsOf 4=1:=by kernel_rfl
theorem cells_nat:Tryz.prog.cellsOf 70=1:=by kernel_rfl
theorem cells_Int:Tryz.prog.cellsOf 72=2:=by kernel_rfl
theorem sized_at {H:Type} {P:Program}:∀ {ts:List TypeId} {ds:List (DataW H)} (j:Nat) {t:TypeId} {d:DataW H},(DataW.weightsEach P ts ds).all (·≤reachBytes)=true→ts[j]?=some t→ds[j]?=some d→(d.weights P t).all (·≤reachBytes)=true:=by
 intro ts ds j t d h ht hd
 rw [List.all_eq_true] at h ⊢
 exact fun x hx=>h x (DataW.weights_mem_each ht hd x hx)
theorem cells_Rat:Tryz.prog.cellsOf 74=3:=by kernel_rfl
open Go.ChangeShapes Go.WideShapes Go.ChangeAt Go.RowKit Go.Deep
structure RatV where
 s:Bool
 a:Option Addr
 n:Nat
 c:Nat
 X:Nat
 b:Option Addr
 m:Nat
 e:Nat
 Y:Nat
instance:Inhabited RatV:=⟨⟨false,none,0,0,0,none,0,0,0⟩⟩
def RatV.ok (W:World) (q:RatV):Prop:=Seg W q.a q.X q.n∧q.n≤q.c∧q.n≤35184372087808∧Seg W q.b q.Y q.m∧q.m≤q.e∧q.m≤35184372087808
def RatV.lies (W:World) (b off:Nat) (q:RatV):Prop :=
 W.cell? ⟨b,off,none⟩=some (.bool q.s)∧W.cell? ⟨b,off+1,none⟩=some (.slice q.a q.n q.c)∧W.cell? ⟨b,off+2,none⟩=some (.slice q.b q.m q.e)
def RatsAt (W:World) (a:Option Addr) (n:Nat) (q:Nat→RatV):Prop :=
 0 < n→∃ b off,a=some ⟨b,off,none⟩∧b < W.heap.size∧∀ i,i < n→(q i).lies W b (off+i*3)
def bulkV (q:Nat→RatV):Nat→Nat
 | 0=>0
 | n+1=>bulkV q n+((q n).n+(q n).m+1)
theorem bulkAll_append {H:Type}:∀ (l m:List (DataW H)),Rows.uptoBulkAll (l ++ m)=Rows.uptoBulkAll l+Rows.uptoBulkAll m
 | [],m=>by simp [Rows.uptoBulkAll]
 | d :: l,m=>by simp only [List.cons_append,Rows.uptoBulkAll,bulkAll_append l m];omega
theorem weightsAll_mem {H:Type} {P:Program} {t:TypeId} {f:Nat→Bool}:∀ {l:List (DataW H)} {d:DataW H},(DataW.weightsAll P t l).all f=true→d∈l→(d.weights P t).all f=true
 | [],_,_,h=>by simp at h
 | c :: l,d,h,hm=>by
  simp only [DataW.weightsAll,List.all_append,Bool.and_eq_true] at h
  rcases List.mem_cons.1 hm with rfl | hm
  ·exact h.1
  ·exact weightsAll_mem h.2 hm
def MonoAt (W:World) (b off:Nat) (v:Int) (q:RatV):Prop:=W.cell? ⟨b,off,none⟩=some (.int .i64 v)∧q.lies W b (off+1)
def FormAt (W:World) (a:Option Addr) (n:Nat) (v:Nat→Int) (q:Nat→RatV):Prop :=
 0 < n→∃ b off,a=some ⟨b,off,none⟩∧b < W.heap.size∧∀ i,i < n→MonoAt W b (off+i*4) (v i) (q i)
theorem cells_Mono:Tryz.prog.cellsOf 76=4:=by kernel_rfl
theorem cells_int:Tryz.prog.cellsOf 3=1:=by kernel_rfl
theorem bytes_Mono:Tryz.prog.bytesOf 76=64:=by kernel_rfl
end Go.Proofs.YtlklfkkbdcglbaaGreat
