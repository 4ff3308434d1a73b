import Derived.Test.YtgfmaejhdbmkoaaGreatMem
import Derived.Maps.OwnSet
import Derived.Maps.RangeWalk
import Derived.Test.YtgfmaejhdbmkoaaGreatNumS
import Derived.Test.YtgfmaejhdbmkoaaGreatWN4
import Derived.Test.YtgfmaejhdbmkoaaGreatWO0
import Derived.Test.YtgfmaejhdbmkoaaGreatWC1
set_option linter.unusedSimpArgs false
namespace Go.Proofs.YtgfmaejhdbmkoaaGreat
open Go.RowKit Go.Maps Go.ChangeMaps Go.MapKept
set_option linter.unusedVariables false
def RV (v:Value):Option (DataW Value × List MemPlace):=some (.held v,[])
def wfI (v:Int):Prop:=(Lit.int .i64 v).wf=true
theorem wfI_of {v:Int} (h1:-9223372036854775808≤v) (h2:v≤9223372036854775807):wfI v:=by
 unfold wfI
 have h3:IntKind.i64.min = -9223372036854775808:=by decide
 simp [Lit.wf,IntKind.wrap,h3]
 omega
structure MIs (D:DataW Value) (f:Int→Option Value):Prop where
 isMap:IsMap D
 has:∀ v,wfI v→Maps.has D (.int .i64 v)=(f v).isSome
 val:∀ v x,f v=some x→∀ z,D.atKey (.int .i64 v) z=.held x
 wf:∀ v x,f v=some x→wfI v
def fput (f:Int→Option Value) (v:Int) (x:Value):Int→Option Value:=fun u=>if u=v then some x else f u
variable {P:Program} {kt:TypeId}
def MapI (P:Program) (kt:TypeId) (w:World) (b n:Nat) (f:Int→Option Value):Prop:=∃ D:DataW Value,w.ownsMap P kt RV b n D∧MIs D f
theorem key_of (hk:P.underlying kt=some (.int .i64)) {v:Int} (hv:wfI v):keyOf P kt (.int .i64 v)=some (.int .i64 v):=keyOf_int_mk hk hv
theorem lit_ne {u v:Int} (h:u≠v):(Lit.int .i64 u)≠.int .i64 v:=fun e=>h (by injection e)
theorem isKey (hk:P.underlying kt=some (.int .i64)) {v:Int} (hv:wfI v):WideAt.IsKeyLit (Lit.int .i64 v):=(int_keyed hk).key (key_of hk hv)
theorem MapI.made (w:World) (P:Program) (kt:TypeId):MapI P kt (w.alloc (.map #[] 0)) w.heap.size 0 (fun _=>none) :=
 ⟨.map [],World.ownsMap_made w P kt RV,⟨[],rfl⟩,fun _ _=>rfl,fun _ _ h=>(by cases h),fun _ _ h=>(by cases h)⟩
theorem MapI.lt {w:World} {b n:Nat} {f:Int→Option Value} (h:MapI P kt w b n f):b < w.heap.size:=by
 obtain ⟨D,h1,_⟩:=h
 exact h1.lt
theorem MapI.mono {w:World} {b n m:Nat} {f:Int→Option Value} (h:MapI P kt w b n f) (hn:n≤m):MapI P kt w b m f:=by
 obtain ⟨D,h1,h2⟩:=h
 exact ⟨D,h1.mono hn,h2⟩
theorem MapI.block {w w':World} {b n:Nat} {f:Int→Option Value} (h:MapI P kt w b n f) (hb:w'.heap[b]?=w.heap[b]?):MapI P kt w' b n f:=by
 obtain ⟨D,⟨es,clock,h1,h2⟩,h3⟩:=h
 exact ⟨D,⟨es,clock,hb.trans h1,h2⟩,h3⟩
theorem MapI.later {w w':World} {b n:Nat} {f:Int→Option Value} (h:MapI P kt w b n f) (hb:Below w.heap.size w w'):MapI P kt w' b n f:=h.block (hb.block b h.lt)
theorem MapI.nocells {w:World} {b n:Nat} {f:Int→Option Value} (h:MapI P kt w b n f) {cs:Array Value} {t:TypeId} {fr:Nat × Nat}:w.heap[b]?≠some (.cells cs t fr):=by
 obtain ⟨D,⟨es,clock,h1,h2⟩,h3⟩:=h
 rw [h1]
 intro e
 cases e
theorem MapI.key {w:World} {b n:Nat} {f:Int→Option Value} (h:MapI P kt w b n f) {v:Int} {x:Value} (hv:f v=some x):wfI v:=by
 obtain ⟨D,h1,h2⟩:=h
 exact h2.wf v x hv
structure Mvd (b:Nat) (w w':World):Prop where
 os:w'.os=w.os
 tape:w'.tape=w.tape
 output:w'.output=w.output
 size:w'.heap.size=w.heap.size
 block:∀ i,i≠b→w'.heap[i]?=w.heap[i]?
 map:∀ cs t fr,w.heap[b]?≠some (.cells cs t fr)
theorem Mvd.below {b B:Nat} {w w':World} (h:Mvd b w w') (hB:B≤b):Below B w w':=⟨h.os,h.tape,h.output,Nat.le_of_eq h.size.symm,fun k hk=>h.block k (by omega)⟩
theorem Mvd.cell {b:Nat} {w w':World} (h:Mvd b w w') {a:Addr} {u:Value} (hc:w.cell? a=some u):w'.cell? a=some u:=by
 have:w'.cell? a=w.cell? a:=by
  by_cases hb:a.block=b
  ·exfalso
   unfold World.cell? at hc
   cases hg:w.heap[a.block]? with
   | none=>simp [hg] at hc
   | some o =>
    cases o with
    | cells cs t fr=>exact h.map cs t fr (by rw [←hb,hg])
    | _=>simp [hg] at hc
  ·exact World.cell?_of_block (w:=w) (h.block _ hb)
 rw [this]
 exact hc
theorem mvd_of {b n:Nat} {f:Int→Option Value} {w w':World} (h:MapI P kt w b n f) (ht:w.mapTurned w' b):Mvd b w w':=by
 obtain ⟨es,clock,es',clock',hb,rfl⟩:=ht
 exact ⟨rfl,rfl,rfl,by simp [setBlock],fun i hi=>heap_setBlock_other hb _ hi,fun cs t fr e=>h.nocells e⟩
section
variable {e:TypeId} (w:World) {ops:Array Oper} {rest:List Oper} {o:Oper} {a:Act} {Q:Exit→Act→World→Prop}
theorem look_run {b n:Nat} {f:Int→Option Value} (h:MapI P kt w b n f) (hk:P.underlying kt=some (.int .i64)) {t:TypeId} (ht:P.underlying t=some (.map kt e)) {z:Value} (hz:(zeroValue e).run P w=.ok z w) (c:Bool) {v:Int} (hv:wfI v) :
  (Instr.lookup t (.map (some b)) (.int .i64 v) c).run P w=.ok (if c then .tuple #[(f v).getD z,.bool (f v).isSome] else (f v).getD z) w:=by
 obtain ⟨D,⟨es,clock,hb,F,_,hD⟩,hM⟩:=h
 have hh:=hM.has v hv
 rcases Maps.fit_look c (int_keyed hk) ht hz hb F (key_of hk hv) with ⟨hrun,_,hat⟩ | ⟨e0,y,_,_,hrun,hRv,hat,_⟩
 ·rw [←hD] at hat
  have h0:=Maps.has_false_of_atKey hat
  rw [h0] at hh
  cases hf:f v with
  | none=>rw [hrun];simp
  | some x=>rw [hf] at hh;cases hh
 ·rw [←hD] at hat
  have h0:=Maps.has_true_of_atKey hat
  rw [h0] at hh
  cases hf:f v with
  | none=>rw [hf] at hh;cases hh
  | some x =>
   have h1:=hat .nil
   rw [hM.val v x hf .nil] at h1
   have h2:y.1=.held e0.val:=by
    simp only [RV,Option.some.injEq] at hRv
    rw [←hRv]
   rw [h2] at h1
   injection h1 with h1
   rw [hrun,h1]
   simp
theorem xZ3 (hg:o.guard=none) (m x:Operand) (t:TypeId) (c:Bool) (hop:o.op=Op.lookup t m x c) (hk:P.underlying kt=some (.int .i64)) (ht:P.underlying t=some (.map kt e)) {z:Value} (hz:(zeroValue e).run P w=.ok z w) (b n:Nat) (f:Int→Option Value)
  (hm:a.eval m=.map (some b)) (h:MapI P kt w b n f) (v:Int) (hx:a.eval x=.int .i64 v) (hv:wfI v) (r:Option Value) (hr:f v=r)
  (hK:wpList P ops Q rest (a.put o.dst (if c then .tuple #[r.getD z,.bool r.isSome] else r.getD z)) w):wpList P ops Q (o :: rest) a w:=by
 refine wpList_plain hg fun K' hK'=>?_
 have hrun:=look_run w h hk ht hz c hv
 rw [hr] at hrun
 unfold Oper.wp
 simp only [execOp,hop,hm,hx]
 simp [hrun,Result.andThen]
 exact hK' _ _ hK
theorem store_run {b n:Nat} {f:Int→Option Value} (h:MapI P kt w b n f) (hk:P.underlying kt=some (.int .i64)) {t:TypeId} (ht:P.underlying t=some (.map kt e)) (hn:n < maxLen) {v:Int} (hv:wfI v) (x:Value) :
  ∃ w',(Instr.mapUpdate t (.map (some b)) (.int .i64 v) x).run P w=.ok () w'∧MapI P kt w' b (n+1) (fput f v x)∧Mvd b w w':=by
 obtain ⟨D,hO,hM⟩:=id h
 obtain ⟨w',hrun,hO',hT⟩:=hO.store (int_keyed hk) ht hn (key_of hk hv) (d:=.held x) (ps:=[]) (val:=x) rfl
 refine ⟨w',hrun,⟨_,hO',hM.isMap.put _ _,fun u hu=>?_,fun u y hu zz=>?_,fun u y hu=>?_⟩,mvd_of h hT⟩
 ·unfold fput
  by_cases e1:u=v
  ·subst e1
   rw [Maps.has_put_same hM.isMap (isKey hk hv),if_pos rfl]
   rfl
  ·rw [Maps.has_put_other (lit_ne e1),if_neg e1,hM.has u hu]
 ·unfold fput at hu
  by_cases e1:u=v
  ·subst e1
   rw [if_pos rfl] at hu
   injection hu with hu
   rw [Maps.atKey_put_same hM.isMap (isKey hk hv),hu]
  ·rw [if_neg e1] at hu
   rw [Maps.atKey_put_other (lit_ne e1),hM.val u y hu]
 ·unfold fput at hu
  by_cases e1:u=v
  ·subst e1;exact hv
  ·rw [if_neg e1] at hu;exact hM.wf u y hu
theorem wpList_put (hg:o.guard=none) (m x y:Operand) (t:TypeId) (hop:o.op=Op.mapUpdate t m x y) (hk:P.underlying kt=some (.int .i64)) (ht:P.underlying t=some (.map kt e)) (b n:Nat) (f:Int→Option Value)
  (hm:a.eval m=.map (some b)) (h:MapI P kt w b n f) (hn:n < maxLen) (v:Int) (hx:a.eval x=.int .i64 v) (hv:wfI v) (s:Value) (hy:a.eval y=s)
  (hK:∀ w',MapI P kt w' b (n+1) (fput f v s)→Mvd b w w'→wpList P ops Q rest (a.put o.dst undef) w'):wpList P ops Q (o :: rest) a w:=by
 refine wpList_plain hg fun K' hK'=>?_
 obtain ⟨w',hrun,r1,r2⟩:=store_run w h hk ht hn hv s
 unfold Oper.wp
 simp [execOp,hop,hm,hx,hy,hrun,Result.andThen]
 exact hK' _ _ (hK w' r1 r2)
def RngI (P:Program) (kt:TypeId) (w:World) (b r n:Nat) (f:Int→Option Value) (left:Int→Bool) (cnt:Nat):Prop :=
 ∃ (D:DataW Value) (lf:Lit→Bool),w.ranges P kt RV b r n D lf cnt∧MIs D f∧∀ v,wfI v→lf (.int .i64 v)=left v
theorem RngI.map {b r n:Nat} {f:Int→Option Value} {left:Int→Bool} {cnt:Nat} (h:RngI P kt w b r n f left cnt):MapI P kt w b n f:=by
 obtain ⟨D,lf,h1,h2,_⟩:=h
 exact ⟨D,h1.owns,h2⟩
theorem RngI.lt {b r n:Nat} {f:Int→Option Value} {left:Int→Bool} {cnt:Nat} (h:RngI P kt w b r n f left cnt):r < w.heap.size:=by
 obtain ⟨D,lf,h1,h2,_⟩:=h
 exact h1.lt
theorem RngI.block {w':World} {b r n:Nat} {f:Int→Option Value} {left:Int→Bool} {cnt:Nat} (h:RngI P kt w b r n f left cnt) (hb:w'.heap[b]?=w.heap[b]?) (hr:w'.heap[r]?=w.heap[r]?):RngI P kt w' b r n f left cnt:=by
 obtain ⟨D,lf,⟨es,clock,since,seen,c0,h1,h2,h3,h4,h5,h6⟩,h7⟩:=h
 exact ⟨D,lf,⟨es,clock,since,seen,c0,hb.trans h1,h2,h3,h4,hr.trans h5,h6⟩,h7⟩
theorem RngI.later {w':World} {b r n:Nat} {f:Int→Option Value} {left:Int→Bool} {cnt:Nat} (h:RngI P kt w b r n f left cnt) (hb:Below w.heap.size w w'):RngI P kt w' b r n f left cnt:=h.block w (hb.block b (h.map w).lt) (hb.block r (h.lt w))
theorem wpList_rng (hg:o.guard=none) (m:Operand) (t:TypeId) (hop:o.op=Op.range t m) (hk:P.underlying kt=some (.int .i64)) (ht:P.underlying t=some (.map kt e)) (b n:Nat) (f:Int→Option Value)
  (hm:a.eval m=.map (some b)) (h:MapI P kt w b n f)
  (hK:∀ w' cnt,RngI P kt w' b w.heap.size n f (fun v=>(f v).isSome) cnt→cnt≤n→Below w.heap.size w w'→w'.heap.size=w.heap.size+1→wpList P ops Q rest (a.put o.dst (.pointer (some ⟨w.heap.size,0,none⟩))) w'):wpList P ops Q (o :: rest) a w:=by
 obtain ⟨D,hO,hM⟩:=id h
 refine wpList_range_own w hg m t hop kt e (int_keyed hk) ht RV b n D hm hO fun w1 h1 hg1 hs1=>hK w1 _ ⟨D,_,h1,hM,hM.has⟩ hO.size_le ⟨hg1.os,hg1.tape,hg1.output,by omega,fun i hi=>hg1.block i hi (by simp)⟩ hs1
theorem wpList_nxt (hg:o.guard=none) (it:Operand) (hop:o.op=Op.next it false) (hk:P.underlying kt=some (.int .i64)) (b r n:Nat) (f:Int→Option Value) (left:Int→Bool) (cnt:Nat)
  (hit:a.eval it=.pointer (some ⟨r,0,none⟩)) (h:RngI P kt w b r n f left cnt)
  (hDone:(∀ v x,f v=some x→left v=false)→wpList P ops Q rest (a.put o.dst (.tuple #[.bool false])) w)
  (hMore:∀ (v:Int) (x:Value) (w':World) (cnt':Nat),f v=some x→left v=true→RngI P kt w' b r n f (fun z=>left z && !decide (z=v)) cnt'→cnt' < cnt→w.grownBy w' (some r)→w'.heap.size=w.heap.size →
   (Instr.entry (.pointer (some ⟨r,0,none⟩))).run P w'=.ok (.tuple #[.int .i64 v,x]) w'→wpList P ops Q rest (a.put o.dst (.tuple #[.bool true,.int .i64 v,x])) w'):wpList P ops Q (o :: rest) a w:=by
 obtain ⟨D,lf,hR,hM,hL⟩:=id h
 refine wpList_next_ranges w hg it hop kt (int_keyed hk) RV (fun v:Int=>Value.int .i64 v) (fun x:Value=>x) (fun key kl hkey=>?_) (fun v y _=>⟨v,rfl⟩) b r n D lf cnt hit hR (fun h0 hl=>hDone fun v x hx=>?_) fun v x kl y w' cnt' hkey hlk hRv hat hR' hlt hgr hsz hen=>?_
 ·obtain ⟨x,rfl,_⟩:=Maps.keyOf_int_inv hk hkey
  exact ⟨x,rfl⟩
 ·rw [←hL v (hM.wf v x hx)]
  exact hl _
 ·obtain ⟨v',e1,rfl,hw'⟩:=Maps.keyOf_int_inv hk hkey
  obtain rfl:v=v':=by injection e1
  have hy:y.1=.held x:=by
   simp only [RV,Option.some.injEq] at hRv
   rw [←hRv]
  have hh:=Maps.has_true_of_atKey hat
  rw [hM.has v hw'] at hh
  have hfx:f v=some x:=by
   cases hf:f v with
   | none=>rw [hf] at hh;cases hh
   | some x' =>
    have h1:=hat .nil
    rw [hM.val v x' hf .nil,hy] at h1
    injection h1 with h1
    rw [h1]
  refine hMore v x w' cnt' hfx (by rw [←hL v hw'];exact hlk) ⟨D,_,hR',hM,fun u hu=>?_⟩ hlt hgr hsz hen
  rw [hL u hu]
  by_cases e2:u=v
  ·subst e2
   rw [WideAt.sameKey_self (isKey hk hu)]
   simp
  ·rw [Maps.sameKey_ne (lit_ne e2)]
   simp [e2]
end
abbrev Tb:=List (Int × Fo)
def lk {α:Type}:List (Int × α)→Int→Option α
 | [],_=>none
 | r :: R,v=>if r.1=v then some r.2 else lk R v
theorem lk_none {α:Type}:∀ {R:List (Int × α)} {v:Int},lk R v=none↔∀ r∈R,r.1≠v
 | [],v=>⟨fun _ r hr=>absurd hr (by simp),fun _=>rfl⟩
 | r :: R,v=>by
  simp only [lk]
  constructor
  ·intro h s hs
   split at h
   ·cases h
   ·rename_i hne
    rcases List.mem_cons.1 hs with rfl | hs
    ·exact hne
    ·exact lk_none.1 h s hs
  ·intro h
   rw [if_neg (h r List.mem_cons_self)]
   exact lk_none.2 fun s hs=>h s (List.mem_cons_of_mem _ hs)
theorem lk_mem {α:Type}:∀ {R:List (Int × α)} {v:Int} {f:α},lk R v=some f→(v,f)∈R
 | [],v,f,h=>by cases h
 | r :: R,v,f,h=>by
  simp only [lk] at h
  split at h
  ·rename_i e
   cases h
   rw [←e]
   exact List.mem_cons_self
  ·exact List.mem_cons_of_mem _ (lk_mem h)
theorem lk_append {α:Type}:∀ (R S:List (Int × α)) (v:Int),lk (R ++ S) v=(lk R v).or (lk S v)
 | [],S,v=>rfl
 | r :: R,S,v=>by
  simp only [List.cons_append,lk]
  split
  ·rfl
  ·exact lk_append R S v
theorem lk_map {α β:Type} (g:α→β):∀ (R:List (Int × α)) (v:Int),lk (R.map fun r=>(r.1,g r.2)) v=(lk R v).map g
 | [],v=>rfl
 | r :: R,v=>by
  simp only [List.map_cons,lk]
  split
  ·rfl
  ·exact lk_map g R v
def onceK {α:Type} (R:List (Int × α)):Prop:=R.Pairwise fun a b=>a.1≠b.1
theorem lk_of_mem {α:Type}:∀ {R:List (Int × α)} {v:Int} {f:α},onceK R→(v,f)∈R→lk R v=some f
 | [],v,f,_,h=>by simp at h
 | r :: R,v,f,hK,h=>by
  have h1:=List.pairwise_cons.1 hK
  simp only [lk]
  rcases List.mem_cons.1 h with rfl | h
  ·rw [if_pos rfl]
  ·rw [if_neg (h1.1 _ h)]
   exact lk_of_mem h1.2 h
def rising {α:Type} (R:List (Int × α)):Prop:=R.Pairwise fun a b=>a.1 < b.1
theorem rising.once {α:Type} {R:List (Int × α)} (h:rising R):onceK R:=h.imp fun hab=>by omega
theorem rising.uniq {α:Type}:∀ {R S:List (Int × α)},rising R→rising S→(∀ v,lk R v=lk S v)→R=S
 | [],[],_,_,_=>rfl
 | [],s :: S,_,_,h=>by
  have:=h s.1
  simp [lk] at this
 | r :: R,[],_,_,h=>by
  have:=h r.1
  simp [lk] at this
 | r :: R,s :: S,hR,hS,h=>by
  have hR':=List.pairwise_cons.1 hR
  have hS':=List.pairwise_cons.1 hS
  have e1:r.1=s.1:=by
   rcases Int.lt_trichotomy r.1 s.1 with h1 | h1 | h1
   ·have h2:=h r.1
    simp only [lk,if_true] at h2
    rw [if_neg (by omega)] at h2
    have h3:=lk_mem h2.symm
    have h4:=hS'.1 _ h3
    simp only at h4
    omega
   ·exact h1
   ·have h2:=h s.1
    simp only [lk,if_true] at h2
    rw [if_neg (by omega)] at h2
    have h3:=lk_mem h2
    have h4:=hR'.1 _ h3
    simp only at h4
    omega
  have e2:r.2=s.2:=by
   have h2:=h r.1
   simp only [lk,if_true] at h2
   rw [if_pos e1.symm] at h2
   exact Option.some.inj h2
  have e:r=s:=Prod.ext e1 e2
  subst e
  rw [rising.uniq hR'.2 hS'.2 fun v=>by
   by_cases hv:r.1=v
   ·have a1:lk R v=none:=lk_none.2 fun q hq=>by have:=hR'.1 q hq;omega
    have a2:lk S v=none:=lk_none.2 fun q hq=>by have:=hS'.1 q hq;omega
    rw [a1,a2]
   ·have h2:=h v
    simp only [lk] at h2
    rw [if_neg hv,if_neg hv] at h2
    exact h2]
structure mayBe (V:Int) (R:Tb):Prop where
 lo:0≤V
 hi:V≤65536
 once:onceK R
 basic:∀ r∈R,0≤r.1∧r.1 < V
 vars:∀ r∈R,∀ p∈nfm r.2,(0≤p.1∧p.1 < V)∧lk R p.1=none
structure NrmT (R M:Tb):Prop where
 rise:rising M
 same:∀ v,lk M v=(lk R v).map nfm
theorem NrmT.uniq {R M N:Tb} (h:NrmT R M) (k:NrmT R N):M=N:=h.rise.uniq k.rise fun v=>by rw [h.same,k.same]
theorem onceK.append {α:Type} {R:List (Int × α)} {r:Int × α} (h:onceK R) (hn:lk R r.1=none):onceK (R ++ [r]):=by
 refine List.pairwise_append.2 ⟨h,by simp,fun a ha b hb=>?_⟩
 obtain rfl:=List.mem_singleton.1 hb
 exact lk_none.1 hn a ha
theorem onceK.take {α:Type} {R:List (Int × α)} (h:onceK R) (k:Nat):onceK (R.take k):=h.sublist (List.take_sublist k R)
theorem onceK.fresh {α:Type} {R:List (Int × α)} (h:onceK R) {k:Nat} {r:Int × α} (hk:R[k]?=some r):lk (R.take k) r.1=none:=by
 refine lk_none.2 fun s hs=>?_
 obtain ⟨i,hi,rfl⟩:=List.mem_iff_getElem.1 hs
 have hi2:i < k∧i < R.length:=by simpa [List.length_take,Nat.lt_min] using hi
 obtain ⟨hkl,rfl⟩:=List.getElem?_eq_some_iff.1 hk
 rw [List.getElem_take]
 exact (List.pairwise_iff_getElem.1 h) i k hi2.2 hkl hi2.1
theorem take_snoc {α:Type} {R:List α} {k:Nat} {r:α} (hk:R[k]?=some r):R.take (k+1)=R.take k ++ [r]:=by
 rw [List.take_add_one,hk]
 rfl
theorem not_once {α:Type} {R:List (Int × α)} {k:Nat} {r:Int × α} (hk:R[k]?=some r) {f:α} (hf:lk (R.take k) r.1=some f):¬ onceK R:=fun h=>by
 rw [h.fresh hk] at hf
 cases hf
def gal (R:Tb) (v:Int):Fo:=((lk R v).map nfm).getD [(v,1)]
def exL (R:Tb):Fo→Fo
 | []=>[]
 | p :: l=>fmap (fun r=>p.2*r) (gal R p.1) ++ exL R l
def exF (R:Tb) (f:Fo):Fo:=nfm (exL R (nfm f))
theorem exL_append (R:Tb):∀ (l m:Fo),exL R (l ++ m)=exL R l ++ exL R m
 | [],m=>rfl
 | p :: l,m=>by simp only [List.cons_append,exL,exL_append R l m,List.append_assoc]
def inV (V:Int) (f:Fo):Prop:=∀ p∈nfm f,0≤p.1∧p.1 < V
open Go.ChangeShapes Go.WideShapes Go.ChangeAt Go.RowKit Go.Deep
def mos (v:Nat→Int) (f:Nat→RatV) (n:Nat):List Mo:=(List.range n).map fun i=>(v i,f i)
theorem mos_length (v:Nat→Int) (f:Nat→RatV) (n:Nat):(mos v f n).length=n:=by unfold mos;rw [List.length_map,List.length_range]
theorem mos_mem {v:Nat→Int} {f:Nat→RatV} {n:Nat} {p:Mo} (h:p∈mos v f n):∃ i,i < n∧p=(v i,f i):=by
 obtain ⟨i,hi,rfl⟩:=List.mem_map.1 h
 exact ⟨i,List.mem_range.1 hi,rfl⟩
theorem mos_at {w:World} {a:Option Addr} {n:Nat} {v:Nat→Int} {f:Nat→RatV} (h:FormAt w a n v f):FAt w a (mos v f n):=fun hn=>by
 have h0:0 < n:=by
  rcases Nat.eq_zero_or_pos n with e | e
  ·subst e;exact absurd rfl hn
  ·exact e
 obtain ⟨b,off,e,hl,hc⟩:=h h0
 refine ⟨b,off,e,hl,fun i p hi=>?_⟩
 unfold mos at hi
 rw [List.getElem?_map] at hi
 have hin:i < n:=by
  rcases Nat.lt_or_ge i n with h1 | h1
  ·exact h1
  ·rw [List.getElem?_eq_none (by rw [List.length_range];exact h1)] at hi;cases hi
 rw [List.getElem?_range hin] at hi
 obtain rfl:=Option.some.inj hi
 exact hc i hin
open Go.RowKit
structure Kc (w w':World):Prop where
 size:w.heap.size≤w'.heap.size
 cell:∀ a u,w.cell? a=some u→w'.cell? a=some u
theorem Kc.refl (w:World):Kc w w:=⟨Nat.le_refl _,fun _ _ h=>h⟩
theorem Kc.trans {a b c:World} (h:Kc a b) (k:Kc b c):Kc a c:=⟨Nat.le_trans h.size k.size,fun x u hx=>k.cell x u (h.cell x u hx)⟩
theorem Kc.of {w w':World} (h:Below w.heap.size w w'):Kc w w':=⟨h.size,fun a u hc=>by
 obtain ⟨b,off,sp⟩:=a
 have hsp:sp=none:=World.cell?_spot hc
 subst hsp
 exact xQ0 h hc⟩
theorem Mvd.kc {b:Nat} {w w':World} (h:Mvd b w w'):Kc w w':=⟨Nat.le_of_eq h.size.symm,fun a u hc=>h.cell hc⟩
theorem RngI.step {P:Program} {kt:TypeId} {w w':World} {b r n:Nat} {f:Int→Option Value} {left:Int→Bool} {cnt:Nat} (h:RngI P kt w b r n f left cnt) (hg:w.grownBy w' (some r)):Kc w w':=by
 obtain ⟨D,lf,⟨es,clock,since,seen,c0,h1,h2,h3,h4,h5,h6⟩,h7⟩:=h
 refine ⟨hg.size,fun a u hc=>?_⟩
 refine hg.cell hc fun e=>?_
 injection e with e
 unfold World.cell? at hc
 rw [e,h5] at hc
 simp at hc
theorem RngI.bel {P:Program} {kt:TypeId} {w w':World} {b r n B:Nat} {f:Int→Option Value} {left:Int→Bool} {cnt:Nat} (h:RngI P kt w b r n f left cnt) (hg:w.grownBy w' (some r)) (hs:w.heap.size≤w'.heap.size) (hB:B≤r):Below B w w' :=
 ⟨hg.os,hg.tape,hg.output,hs,fun i hi=>hg.block i (by have:=h.lt;omega) (fun e=>by injection e with e;omega)⟩
theorem Seg.kc {w w':World} {a:Option Addr} {X n:Nat} (h:Seg w a X n) (hb:Kc w w'):Seg w' a X n:=by
 refine ⟨h.1,fun hn=>?_⟩
 obtain ⟨b,off,rfl,hl,hc⟩:=h.2 hn
 exact ⟨b,off,rfl,Nat.lt_of_lt_of_le hl hb.size,fun i hi=>hb.cell _ _ (hc i hi)⟩
theorem okR_kc {w w':World} {q:RatV} (h:q.ok w) (hb:Kc w w'):q.ok w':=⟨h.1.kc hb,h.2.1,h.2.2.1,h.2.2.2.1.kc hb,h.2.2.2.2.1,h.2.2.2.2.2⟩
theorem MonoAt.kc {w w':World} {b off:Nat} {v:Int} {q:RatV} (h:MonoAt w b off v q) (hb:Kc w w'):MonoAt w' b off v q:=⟨hb.cell _ _ h.1,hb.cell _ _ h.2.1,hb.cell _ _ h.2.2.1,hb.cell _ _ h.2.2.2⟩
theorem FAt.kc {w w':World} {a:Option Addr} {L:List Mo} (h:FAt w a L) (hb:Kc w w'):FAt w' a L:=fun hn=>by
 obtain ⟨b,off,e,hl,hc⟩:=h hn
 exact ⟨b,off,e,Nat.lt_of_lt_of_le hl hb.size,fun i p hi=>(hc i p hi).kc hb⟩
theorem Sl.kc {w w':World} {a:Option Addr} {c:Nat} {L:List Mo} (h:Sl w a c L) (hb:Kc w w'):Sl w' a c L:=⟨h.lies.kc hb,h.len,h.nn⟩
theorem Ent.kc {w w':World} {p:Mo} (h:Ent w p) (hb:Kc w w'):Ent w' p:=⟨okR_kc h.ok hb,h.low⟩
theorem Ents.kc {w w':World} {R:List Mo} (h:Ents w R) (hb:Kc w w'):Ents w' R:=fun p hp=>(h p hp).kc hb
structure FV where
 a:Option Addr
 c:Nat
 L:List Mo
instance:Inhabited FV:=⟨⟨none,0,[]⟩⟩
def FV.val (F:FV):Value:=.slice F.a F.L.length F.c
def FV.fo (F:FV):Fo:=Go.Proofs.YtgfmaejhdbmkoaaGreat.fo F.L
structure FV.ok (w:World) (F:FV):Prop where
 lies:FAt w F.a F.L
 nums:∀ p∈F.L,p.2.ok w
 len:F.L.length≤F.c
theorem FV.ok.kc {w w':World} {F:FV} (h:F.ok w) (hb:Kc w w'):F.ok w':=⟨h.lies.kc hb,fun p hp=>okR_kc (h.nums p hp) hb,h.len⟩
theorem FV.ok.later {w w':World} {F:FV} (h:F.ok w) (hb:Below w.heap.size w w'):F.ok w':=h.kc (Kc.of hb)
structure FV.nk (w:World) (F:FV):Prop where
 sl:Sl w F.a F.c F.L
 en:Ents w F.L
theorem FV.nk.kc {w w':World} {F:FV} (h:F.nk w) (hb:Kc w w'):F.nk w':=⟨h.sl.kc hb,h.en.kc hb⟩
theorem FV.nk.later {w w':World} {F:FV} (h:F.nk w) (hb:Below w.heap.size w w'):F.nk w':=h.kc (Kc.of hb)
theorem FV.nk.ok {w:World} {F:FV} (h:F.nk w):F.ok w:=⟨h.sl.lies,fun p hp=>(h.en p hp).ok,h.sl.len⟩
abbrev RowV:=Int × FV
def cells2 (r:RowV):List Value:=[.int .i64 r.1,r.2.val]
def cellsR:List RowV→List Value
 | []=>[]
 | r :: R=>cells2 r ++ cellsR R
theorem cellsR_append:∀ (L M:List RowV),cellsR (L ++ M)=cellsR L ++ cellsR M
 | [],M=>rfl
 | p :: L,M=>by simp only [List.cons_append,cellsR,cellsR_append L M,List.append_assoc]
theorem cellsR_at:∀ (L:List RowV) (i j:Nat) (p:RowV),L[i]?=some p→j < 2→(cellsR L)[i*2+j]?=(cells2 p)[j]?
 | [],i,j,p,h,_=>by simp at h
 | q :: L,0,j,p,h,hj=>by
  simp only [List.getElem?_cons_zero,Option.some.injEq] at h
  subst h
  rw [cellsR,List.getElem?_append_left (by simp only [cells2,List.length_cons,List.length_nil];omega),Nat.zero_mul,Nat.zero_add]
 | q :: L,i+1,j,p,h,hj=>by
  rw [List.getElem?_cons_succ] at h
  rw [cellsR,List.getElem?_append_right (by simp only [cells2,List.length_cons,List.length_nil];omega)]
  rw [show (i+1)*2+j - (cells2 q).length=i*2+j by simp only [cells2,List.length_cons,List.length_nil];omega]
  exact cellsR_at L i j p h hj
def TAt (W:World) (a:Option Addr) (R:List RowV):Prop :=
 R≠[]→∃ b off,a=some ⟨b,off,none⟩∧b < W.heap.size∧∀ i p,R[i]?=some p→W.cell? ⟨b,off+i*2,none⟩=some (.int .i64 p.1)∧W.cell? ⟨b,off+i*2+1,none⟩=some p.2.val
theorem TAt.kc {w w':World} {a:Option Addr} {R:List RowV} (h:TAt w a R) (hb:Kc w w'):TAt w' a R:=fun hn=>by
 obtain ⟨b,off,e,hl,hc⟩:=h hn
 exact ⟨b,off,e,Nat.lt_of_lt_of_le hl hb.size,fun i p hi=>⟨hb.cell _ _ (hc i p hi).1,hb.cell _ _ (hc i p hi).2⟩⟩
theorem TAt.later {w w':World} {a:Option Addr} {R:List RowV} (h:TAt w a R) (hb:Below w.heap.size w w'):TAt w' a R:=h.kc (Kc.of hb)
theorem own_tab {w:World} {base:Nat} {e:TypeId} {v:Value} {R:List RowV} (h:w.ownsRow base e 2 v R.length (cellsR R)):∃ a cap,v=.slice a R.length cap∧R.length≤cap∧cap≤maxLen∧TAt w a R:=by
 rcases h.2 with ⟨rfl,h0⟩ | ⟨g,cap,cur,rfl,hb,hg,hc,hm,_,_⟩
 ·exact ⟨none,0,by rw [h0],by omega,by simp [maxLen],fun hn=>absurd (List.eq_nil_of_length_eq_zero h0) hn⟩
 ·refine ⟨_,cap,rfl,hc,hm,fun hn=>⟨g,0,rfl,(Array.getElem?_eq_some_iff.1 hg).1,fun i p hi=>?_⟩⟩
  have hil:i < R.length:=(List.getElem?_eq_some_iff.1 hi).1
  have k:∀ j,j < 2→w.cell? ⟨g,i*2+j,none⟩=(cells2 p)[j]?:=fun j hj=>by
   have k1:=h.cellAt (i*2+j) (by omega)
   rw [cellsR_at R i j p hi hj] at k1
   exact k1
  rw [Nat.zero_add]
  exact ⟨k 0 (by omega),k 1 (by omega)⟩
def tb (R:List RowV):Tb:=R.map fun r=>(r.1,r.2.fo)
theorem tb_length (R:List RowV):(tb R).length=R.length:=List.length_map _
theorem tb_at {R:List RowV} {i:Nat} {r:RowV} (h:R[i]?=some r):(tb R)[i]?=some (r.1,r.2.fo):=by unfold tb;rw [List.getElem?_map,h];rfl
theorem tb_lk (R:List RowV) (v:Int):lk (tb R) v=(lk R v).map FV.fo:=lk_map FV.fo R v
theorem tb_take (R:List RowV) (k:Nat):tb (R.take k)=(tb R).take k:=by unfold tb;rw [List.map_take]
structure TIn (w:World) (a:Option Addr) (R:List RowV):Prop where
 at_:TAt w a R
 forms:∀ r∈R,r.2.ok w
 wf:∀ r∈R,wfI r.1
theorem TIn.kc {w w':World} {a:Option Addr} {R:List RowV} (h:TIn w a R) (hb:Kc w w'):TIn w' a R:=⟨h.at_.kc hb,fun r hr=>(h.forms r hr).kc hb,h.wf⟩
theorem TIn.later {w w':World} {a:Option Addr} {R:List RowV} (h:TIn w a R) (hb:Below w.heap.size w w'):TIn w' a R:=h.kc (Kc.of hb)
structure TNk (w:World) (a:Option Addr) (R:List RowV):Prop where
 at_:TAt w a R
 forms:∀ r∈R,r.2.nk w
 wf:∀ r∈R,wfI r.1
theorem TNk.kc {w w':World} {a:Option Addr} {R:List RowV} (h:TNk w a R) (hb:Kc w w'):TNk w' a R:=⟨h.at_.kc hb,fun r hr=>(h.forms r hr).kc hb,h.wf⟩
theorem TNk.later {w w':World} {a:Option Addr} {R:List RowV} (h:TNk w a R) (hb:Below w.heap.size w w'):TNk w' a R:=h.kc (Kc.of hb)
theorem TNk.tin {w:World} {a:Option Addr} {R:List RowV} (h:TNk w a R):TIn w a R:=⟨h.at_,fun r hr=>(h.forms r hr).ok,h.wf⟩
def bul:List Mo→Nat
 | []=>0
 | p :: L=>p.2.n+p.2.m+7+bul L
def bulT:List RowV→Nat
 | []=>0
 | r :: R=>bul r.2.L+3+bulT R
theorem bulT_mem:∀ {R:List RowV} {r:RowV},r∈R→bul r.2.L+3≤bulT R
 | [],r,h=>by simp at h
 | s :: R,r,h=>by
  simp only [bulT]
  rcases List.mem_cons.1 h with rfl | h
  ·omega
  ·have:=bulT_mem h;omega
theorem bulT_len:∀ (R:List RowV),3*R.length≤bulT R
 | []=>Nat.zero_le _
 | r :: R=>by have:=bulT_len R;simp only [bulT,List.length_cons];omega
theorem bul_len:∀ (L:List Mo),7*L.length≤bul L
 | []=>Nat.zero_le _
 | r :: R=>by have:=bul_len R;simp only [bul,List.length_cons];omega
theorem bul_bulkL:∀ (L:List Mo),bulkL L+5*L.length=bul L
 | []=>rfl
 | r :: R=>by have:=bul_bulkL R;simp only [bul,bulkL,List.length_cons];omega
theorem bul_mem:∀ {L:List Mo} {p:Mo},p∈L→p.2.n+p.2.m+7≤bul L
 | [],r,h=>by simp at h
 | s :: R,r,h=>by
  simp only [bul]
  rcases List.mem_cons.1 h with rfl | h
  ·omega
  ·have:=bul_mem h;omega
structure FV.off (F:FV) (g:Nat):Prop where
 row:F.L≠[]→∀ ad,F.a=some ad→ad.block≠g
 nums:∀ p∈F.L,p.2.off g
theorem FV.ok.off {w:World} {F:FV} (h:F.ok w) {g:Nat} (hg:w.heap.size≤g):F.off g:=⟨fun hn ad e=>by
 obtain ⟨b,off,e',hl,_⟩:=h.lies hn
 rw [e] at e'
 obtain rfl:=Option.some.inj e'
 simp only
 omega,fun p hp=>(h.nums p hp).off hg⟩
theorem FAt.grown {w w':World} {a:Option Addr} {L:List Mo} {row:Option Nat} (h:FAt w a L) (hg:w.grownBy w' row) (hne:∀ g,row=some g→L≠[]→∀ ad,a=some ad→ad.block≠g):FAt w' a L:=fun hn=>by
 obtain ⟨b,off,e,hl,hc⟩:=h hn
 have hb:some b≠row:=fun er=>hne b er.symm hn ⟨b,off,none⟩ e rfl
 exact ⟨b,off,e,Nat.lt_of_lt_of_le hl hg.size,fun i p hi=>⟨hg.cell (hc i p hi).1 hb,hg.cell (hc i p hi).2.1 hb,hg.cell (hc i p hi).2.2.1 hb,hg.cell (hc i p hi).2.2.2 hb⟩⟩
theorem FV.ok.grown {w w':World} {F:FV} {row:Option Nat} (h:F.ok w) (hg:w.grownBy w' row) (hne:∀ g,row=some g→F.off g):F.ok w' :=
 ⟨h.lies.grown hg fun g e=>(hne g e).row,fun p hp=>(h.nums p hp).grown hg fun g e=>(hne g e).nums p hp,h.len⟩
theorem FV.nk.grown {w w':World} {F:FV} {row:Option Nat} (h:F.nk w) (hg:w.grownBy w' row) (hne:∀ g,row=some g→F.off g):F.nk w' :=
 ⟨⟨h.sl.lies.grown hg fun g e=>(hne g e).row,h.sl.len,h.sl.nn⟩,fun p hp=>⟨(h.en p hp).ok.grown hg fun g e=>(hne g e).nums p hp,(h.en p hp).low⟩⟩
structure FV.frm (F:FV) (B:Nat):Prop where
 row:F.L≠[]→∀ ad,F.a=some ad→B≤ad.block
 nums:∀ p∈F.L,p.2.frm B
theorem FV.frm.off {F:FV} {B g:Nat} (h:F.frm B) (hg:g < B):F.off g:=⟨fun hn ad e=>by have:=h.row hn ad e;omega,fun p hp=>(h.nums p hp).off hg⟩
theorem FV.frm.mono {F:FV} {B C:Nat} (h:F.frm B) (hg:C≤B):F.frm C:=⟨fun hn ad e=>Nat.le_trans hg (h.row hn ad e),fun p hp=>(h.nums p hp).mono hg⟩
theorem isVar_is (x n:Int) (w:World):Calls Tryz.prog 17 #[.int .i64 x,.int .i64 n] w fun e w'=>e=.returned (.bool (decide (0≤x) && decide (x < n)))∧w'=w:=by
 by_cases h1:0≤x
 ·by_cases h2:x < n
  ·go_enter Tryz.func17,Tryz.ntmps17
   go_wp2
   go_ret
   simp [h1,h2]
  ·go_enter Tryz.func17,Tryz.ntmps17
   go_wp2
   go_ret
   simp [h1,h2]
 ·go_enter Tryz.func17,Tryz.ntmps17
  go_wp2
  go_ret
  simp
  omega
def newV (v:Int):Int:=if v < 0 then 0 else if 65536 < v then 0 else v
def newE (v:Int):Int:=if v < 0 then 1 else if 65536 < v then 2 else 0
theorem pNew_is (v:Int) (w:World):Calls Tryz.prog 29 #[.int .i64 v] w fun e w'=>e=.returned (.tuple #[.agg #[.int .i64 (newV v),.slice none 0 0],.int .i64 (newE v)])∧Below w.heap.size w w':=by
 by_cases h1:v < 0
 ·have eV:newV v=0:=by unfold newV;(repeat split) <;> omega
  have eE:newE v=1:=by unfold newE;(repeat split) <;> omega
  rw [eV,eE]
  clear eV eE
  have c1:v < 0:=h1
  clear h1
  have bA:=xQ2 (w:=w) (.cells #[.int .i64 0,.slice none 0 0] 24)
  go_enter Tryz.func29,Tryz.ntmps29
  go_wp2
  refine bodyPost_ret (v:=.tuple #[.agg #[.int .i64 (0),.slice none 0 0],.int .i64 1]) (by rw [results_ct rfl];go_simp) rfl ?_
  exact ⟨rfl,by first | exact bA | exact xQ2 _ | (refine Below.setCell bA ?_ _;exact Nat.le_refl _) | (refine Below.setCell (Below.setCell bA ?_ _) ?_ _ <;> exact Nat.le_refl _)⟩
 by_cases h2:65536 < v
 ·have eV:newV v=0:=by unfold newV;(repeat split) <;> omega
  have eE:newE v=2:=by unfold newE;(repeat split) <;> omega
  rw [eV,eE]
  clear eV eE
  have c1:¬ v < 0:=h1
  have c2:65536 < v:=h2
  have c3:((65536:Int) < v)=True:=eq_true h2
  clear h1 h2
  have bA:=xQ2 (w:=w) (.cells #[.int .i64 0,.slice none 0 0] 24)
  go_enter Tryz.func29,Tryz.ntmps29
  go_wp2
  refine bodyPost_ret (v:=.tuple #[.agg #[.int .i64 (0),.slice none 0 0],.int .i64 2]) (by rw [results_ct rfl];go_simp) rfl ?_
  exact ⟨rfl,by first | exact bA | exact xQ2 _ | (refine Below.setCell bA ?_ _;exact Nat.le_refl _) | (refine Below.setCell (Below.setCell bA ?_ _) ?_ _ <;> exact Nat.le_refl _)⟩
 ·have eV:newV v=v:=by unfold newV;(repeat split) <;> omega
  have eE:newE v=0:=by unfold newE;(repeat split) <;> omega
  rw [eV,eE]
  clear eV eE
  have c1:¬ v < 0:=h1
  have c3:((65536:Int) < v)=False:=eq_false h2
  clear h1 h2
  have bA:=xQ2 (w:=w) (.cells #[.int .i64 0,.slice none 0 0] 24)
  go_enter Tryz.func29,Tryz.ntmps29
  go_wp2
  refine bodyPost_ret (v:=.tuple #[.agg #[.int .i64 (v),.slice none 0 0],.int .i64 0]) (by rw [results_ct rfl];go_simp) rfl ?_
  exact ⟨rfl,by first | exact bA | exact xQ2 _ | (refine Below.setCell bA ?_ _;exact Nat.le_refl _) | (refine Below.setCell (Below.setCell bA ?_ _) ?_ _ <;> exact Nat.le_refl _)⟩
def ixF {α:Type}:List (Int × α)→Int→Nat→Int
 | [],_,_=>-1
 | r :: R,v,i=>if r.1=v then (i:Int) else ixF R v (i+1)
def ix {α:Type} (R:List (Int × α)) (v:Int):Int:=ixF R v 0
theorem ixF_cases {α:Type}:∀ (R:List (Int × α)) (v:Int) (i:Nat),(ixF R v i = -1∧lk R v=none)∨∃ (k:Nat) (f:α),k < R.length∧ixF R v i=((i+k:Nat):Int)∧R[k]?=some (v,f)∧lk R v=some f∧lk (R.take k) v=none
 | [],v,i=>Or.inl ⟨rfl,rfl⟩
 | r :: R,v,i=>by
  by_cases h:r.1=v
  ·refine Or.inr ⟨0,r.2,by simp,by simp [ixF,h],?_,by simp [lk,h],rfl⟩
   rw [List.getElem?_cons_zero,←h]
  ·rcases ixF_cases R v (i+1) with ⟨h1,h2⟩ | ⟨k,f,h1,h2,h3,h4,h5⟩
   ·exact Or.inl ⟨by simp [ixF,h,h1],by simp [lk,h,h2]⟩
   ·refine Or.inr ⟨k+1,f,by simpa using h1,by simp only [ixF,if_neg h,h2];omega,by rw [List.getElem?_cons_succ];exact h3,by simp [lk,h,h4],?_⟩
    rw [List.take_succ_cons]
    simp only [lk,if_neg h]
    exact h5
theorem ix_cases {α:Type} (R:List (Int × α)) (v:Int):(ix R v = -1∧lk R v=none)∨∃ (k:Nat) (f:α),k < R.length∧ix R v=(k:Int)∧R[k]?=some (v,f)∧lk R v=some f∧lk (R.take k) v=none:=by
 rcases ixF_cases R v 0 with h | ⟨k,f,h1,h2,h3⟩
 ·exact Or.inl h
 ·exact Or.inr ⟨k,f,h1,by unfold ix;rw [h2];omega,h3⟩
theorem ris_is (V v:Int) (a:Option Addr) (n c:Nat) (w:World):Calls Tryz.prog 20 #[.agg #[.int .i64 V,.slice a n c],.int .i64 v] w fun e w'=>e=.returned (.bool (decide (0≤v) && decide (v < V)))∧Below w.heap.size w w':=by
 have bA:=xQ2 (w:=w) (.cells #[.int .i64 V,.slice a n c] 24)
 by_cases h1:0≤v
 ·by_cases h2:v < V
  ·go_enter Tryz.func20,Tryz.ntmps20
   go_wp2
   go_ret
   exact ⟨by first | (simp [h1,h2];done) | (simp;omega),bA⟩
  ·go_enter Tryz.func20,Tryz.ntmps20
   go_wp2
   go_ret
   exact ⟨by first | (simp [h1,h2];done) | (simp;omega),bA⟩
 ·go_enter Tryz.func20,Tryz.ntmps20
  go_wp2
  go_ret
  exact ⟨by first | (simp [h1];done) | (simp;omega),bA⟩
set_option maxHeartbeats 4000000 in
set_option maxRecDepth 100000 in
theorem rrow_is (V v:Int) (a:Option Addr) (c:Nat) (R:List RowV) (w:World) (hT:TAt w a R) (hc:R.length≤c) (hm:R.length≤2097152):Calls Tryz.prog 21 #[.agg #[.int .i64 V,.slice a R.length c],.int .i64 v] w fun e w'=>e=.returned (.int .i64 (ix R v))∧Below w.heap.size w w':=by
 have H:=xQ1 (ix_cases R v)
 have bA:=xQ2 (w:=w) (.cells #[.int .i64 V,.slice a R.length c] 24)
 go_enter Tryz.func21,Tryz.ntmps21
 go_wp2_with fail
 have m1:(w.alloc (.cells #[.int .i64 V,.slice a R.length c] 24)).cell? ⟨w.heap.size,1,none⟩=some (.slice a R.length c):=by go_simp
 obtain ⟨wA,hwA⟩:∃ wA,w.alloc (.cells #[.int .i64 V,.slice a R.length c] 24)=wA:=⟨_,rfl⟩
 rw [hwA] at bA m1 ⊢
 clear hwA
 go_loopw [5] (fun vi wr=>∃ k:Nat,k≤R.length∧vi=.int .i64 k∧lk (R.take k) v=none∧wr=wA) (fun vi _=>R.length - (intOf vi).toNat)
 case atStart=>exact ⟨0,Nat.zero_le _,rfl,rfl,rfl⟩
 case round =>
  obtain ⟨k,hk,rfl,hN,rfl⟩:=hrel
  have HN:=xQ1 hN
  clear hN
  by_cases hlt:k < R.length
  ·obtain ⟨r,hr⟩:∃ r,R[k]?=some r:=⟨R[k],List.getElem?_eq_getElem hlt⟩
   obtain ⟨bb,off,rfl,hbb,hcell⟩:=hT (by intro e;rw [e] at hlt;simp at hlt)
   have d0:=xQ0 bA (hcell k r hr).1
   clear hcell
   have hki:((k:Int) < (R.length:Int)):=by omega
   by_cases hv:r.1=v
   ·have HE:=xQ1 (show ix R v=(k:Int) from by
      rcases H.out with ⟨h1,h2⟩ | ⟨j,f,h1,h2,h3,h4,h5⟩
      ·exact absurd hv (lk_none.1 h2 r (List.mem_of_getElem? hr))
      ·rw [h2]
       rcases Nat.lt_trichotomy j k with hh | hh | hh
       ·exact absurd rfl (lk_none.1 HN.out (v,f) (List.mem_take_iff_getElem.2 ⟨j,by omega,by rw [List.getElem?_eq_some_iff] at h3;exact h3.2⟩))
       ·rw [hh]
       ·exact absurd hv (lk_none.1 h5 r (List.mem_take_iff_getElem.2 ⟨k,by omega,by rw [List.getElem?_eq_some_iff] at hr;exact hr.2⟩)))
    rw [hv] at d0
    clear hr hv H HN
    go_wp2
    go_ret
    exact ⟨(by rw [HE.out];try rfl),bA⟩
   ·have HM:=xQ1 (show lk (R.take (k+1)) v=none from by rw [take_snoc hr,lk_append,HN.out];simp [lk,hv])
    clear hr H HN
    go_wp2
    go_roundw
    case rel=>exact ⟨k+1,by omega,by go_num,HM.out,(by first | rfl | trivial)⟩
    case measure=>simp only [intOf];omega
  ·obtain rfl:k=R.length:=by omega
   have HE:=xQ1 (show ix R v = -1 from by
     rcases H.out with ⟨h1,h2⟩ | ⟨j,f,h1,h2,h3,h4,h5⟩
     ·exact h1
     ·have:=HN.out
      rw [List.take_length] at this
      rw [this] at h4
      cases h4)
   have hki:¬ ((R.length:Int) < (R.length:Int)):=by omega
   clear H HN
   go_wp2
   go_ret
   exact ⟨(by rw [HE.out];try rfl),bA⟩
def oneF (v:Int) (ad:Option Addr) (p q:Option Addr):FV:=⟨ad,1,[(v,RatV.of (1:Int) (1:Nat) p q)]⟩
theorem oneF_fo (v:Int) (ad p q:Option Addr):(oneF v ad p q).fo=[(v,1)]:=by
 show [(v,(RatV.of (1:Int) (1:Nat) p q).val)]=_
 rw [show RatV.of (1:Int) (1:Nat) p q=RatV.of (1:Rat).num (1:Rat).den p q from rfl,val_ofR]
set_option maxHeartbeats 4000000 in
set_option maxRecDepth 100000 in
theorem alone_is (v:Int) (w:World):Calls Tryz.prog 70 #[.int .i64 v] w fun e w'=>∃ F:FV,e=.returned F.val∧F.fo=[(v,1)]∧F.nk w'∧F.frm w.heap.size∧Below w.heap.size w w'∧bulkL F.L=4∧F.L.length=1:=by
 have G:=xQ1 (show ∀ w',Calls Tryz.prog 88 #[.int .i64 1] w' fun e w''=>∃ p q,e=.returned (.agg #[.bool (ng 1),.slice p (ln (am 1)) (ln (am 1)),.slice q (ln 1) (ln 1)])∧New w' w'' p (am 1) (ln (am 1))∧New w' w'' q 1 (ln 1) from fun w'=>qWhole_is 1 w' (by omega) (by omega))
 go_enter Tryz.func70,Tryz.ntmps70
 go_wp2_with fail
 refine (G.out _).mono ?_
 rintro e w1 ⟨p,q,rfl,n1,n2⟩
 clear G
 have b2:=xQ2 (w:=w1) (.cells #[.int .i64 v,.bool (ng 1),.slice p (ln (am 1)) (ln (am 1)),.slice q (ln 1) (ln 1)] 57)
 have f4:=four_new w1 (.int .i64 v) (.bool (ng 1)) (.slice p (ln (am 1)) (ln (am 1))) (.slice q (ln 1) (ln 1)) 57
 obtain ⟨w2,hw2⟩:∃ w2,w1.alloc (.cells #[.int .i64 v,.bool (ng 1),.slice p (ln (am 1)) (ln (am 1)),.slice q (ln 1) (ln 1)] 57)=w2:=⟨_,rfl⟩
 rw [hw2] at b2 f4
 have hB:=n1.below.trans (b2.mono n1.below.size)
 have hx:=xQ1 (show ∃ F:FV,(Ending.returned (Value.slice (some ⟨w1.heap.size,0,none⟩) 1 1))=Ending.returned F.val∧F.fo=[(v,1)]∧F.nk w2∧F.frm w.heap.size∧Below w.heap.size w w2∧bulkL F.L=4∧F.L.length=1 from by
  refine ⟨oneF v (some ⟨w1.heap.size,0,none⟩) p q,rfl,oneF_fo _ _ _ _,⟨⟨fun _=>⟨w1.heap.size,0,rfl,f4.2.lt,fun i pp hi=>?_⟩,Nat.le_refl _,fun h=>(by cases h)⟩,fun pp hp=>?_⟩,⟨fun _ ad e=>?_,fun pp hp=>?_⟩,hB,?_,rfl⟩
  ·cases i with
   | zero =>
    simp only [oneF,List.getElem?_cons_zero,Option.some.injEq] at hi
    subst hi
    exact ⟨f4.1.1,f4.1.2.1,f4.1.2.2.1,f4.1.2.2.2⟩
   | succ i=>simp [oneF] at hi
  ·obtain rfl:=List.mem_singleton.1 hp
   exact ⟨⟨n1.seg.later b2,Nat.le_refl _,by show ln (am 1)≤_;rw [show am 1=1 from rfl,ln_one];omega,n2.seg.later b2,Nat.le_refl _,by show ln 1≤_;rw [show 1=1 from rfl,ln_one];omega⟩,ofR_low 1 p q⟩
  ·injection e with e
   rw [←e]
   exact n1.below.size
  ·obtain rfl:=List.mem_singleton.1 hp
   exact ⟨fun hn ad e=>n1.fr hn ad e,fun hn ad e=>n2.fr hn ad e⟩
  ·show ln (am 1)+ln 1+2+0=4
   rw [show am 1=1 from rfl,ln_one])
 clear n1 n2 f4 hB b2
 go_wp2
 go_ret
 try rw [hw2]
 exact hx.out
end Go.Proofs.YtgfmaejhdbmkoaaGreat
