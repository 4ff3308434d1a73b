import Derived.Test.YtgfmaejhdbmkoaaGreatMem
import Derived.RangeFuncNested
import Derived.RangeFuncBound
import Derived.RangeFuncCalls
import Derived.RangeFuncLeaves
import Derived.Shelf.Abstract
import Derived.Shelf.RegionOpen
import Derived.OwnWalkIn
import Derived.TacticsInMore
import Derived.LoopNIn
import Derived.LoopIn
import Derived.Maps.AppendAt
import Derived.Test.YtgfmaejhdbmkoaaGreatGT4
import Derived.Test.YtgfmaejhdbmkoaaGreatWO2
import Derived.RangeFuncRecord
import Derived.RangeFuncBox
import Derived.Shelf.SlGeneric
import Derived.Ground.SlgmProg
import Derived.Shelf.Small.Bits
import Derived.Shelf.SortM.Plain
import Derived.Shelf.SortM.SortNone
import Derived.Sort.OwnSortedInts
set_option linter.unusedSimpArgs false
namespace Go.Proofs.YtgfmaejhdbmkoaaGreat
open Go.RowKit Go.Shelf
set_option linter.unusedVariables false
structure Bk (D:Nat) (r:Loop) (W:World):Prop where
 dfr:W.heap[D]?=some (.deferred (some []))
 lp:W.heap[D+1]?=some (.loop r)
theorem Bk.lt {D:Nat} {r:Loop} {W:World} (h:Bk D r W):D+1 < W.heap.size:=(Array.getElem?_eq_some_iff.1 h.lp).1
theorem Bk.below {D:Nat} {r:Loop} {W W':World} (h:Bk D r W) (hb:Below W.heap.size W W'):Bk D r W':=by
 have:=h.lt
 exact ⟨(hb.block D (by omega)).trans h.dfr,(hb.block (D+1) (by omega)).trans h.lp⟩
theorem Bk.put {D:Nat} {r:Loop} {W:World} (h:Bk D r W) (r':Loop):Bk D r' (W.putObj (D+1) (.loop r')) :=
 ⟨(World.putObj_heap_other (by omega)).trans h.dfr,World.putObj_heap_same h.lt⟩
def Goes (D:Nat) (J:World→Prop) (Kp:World→World→Prop) (V:World):Exit→Act→World→Prop
 | .normal,_,W=>(∀ r,Bk D r V→Bk D r W)∧Kp V W∧J W
 | _,_,_=>False
variable {P:Program} {n:Nat}
theorem range_all {α:Type} {g:Operand} {ps:Array Tmp} {assign body:Code} {Q:Exit→Act→World→Prop} {a:Act} {w:World} {gf:Nat} {lb:Array Value}
  (hg:a.eval g=.func (.func gf) #[] lb) (eg:∀ args w,(callFunc gf args).run P w=.ok (.enter gf args) w)
  (encs:α→Array Value) (hps:∀ x,(encs x).size=ps.size)
  (J:List α→World→Prop) (Px:List α→α→World→Prop) (Kp:World→World→Prop) (Ax:List α→α→Act→World→Prop)
  (hJ:∀ s W r r',Bk w.heap.size r W→J s W→J s (W.putObj (w.heap.size+1) (.loop r')))
  (hA:∀ s x a' W r r',Bk w.heap.size r W→Ax s x a' W→Ax s x a' (W.putObj (w.heap.size+1) (.loop r')))
  (hKb:∀ W r r',Bk w.heap.size r W→Kp W (W.putObj (w.heap.size+1) (.loop r'))) (hKt:∀ A B C,Kp A B→Kp B C→Kp A C)
  (hassign:∀ s x W r (K:Act→World→Prop),Bk w.heap.size r W→J s W→Px s x W→(∀ a' W',Below W.heap.size W W'→Kp W W'→Ax s x a' W'→K a' W') →
   assign.wpIn (Fence.wide.inRound (w.heap.size+1)) (n - 1 - 1) P (Exit.then K (fun _ _ _=>False)) { tmps:=(ps.zip (encs x)).foldl (fun t (p,v)=>t.setIfInBounds p v) a.tmps,defers:=[] } W)
  (hbody:∀ s x a' V r,Bk w.heap.size r V→Ax s x a' V→body.wpIn (Fence.wide.inRound (w.heap.size+1)) (n - 1 - 1) P (Goes w.heap.size (J (s ++ [x])) Kp V) a' V)
  (hiter:∀ r W1,Bk w.heap.size r W1→W1=(w.alloc (.deferred (some []))).alloc (.loop r) →
   (∀ s x W,Bk w.heap.size r W→J s W→Px s x W→YieldAt Fence.wide (n - 1 - 1) P (w.heap.size+1) (encs x) W fun e W'=>e=.returned (.bool true)∧Bk w.heap.size r W'∧J (s ++ [x]) W'∧Kp W W') →
   CallsIn Fence.wide (n - 1) P gf (#[.func (.yield (w.heap.size+1)) #[] #[]] ++ lb) W1 fun e W'=>(∃ v,e=.returned v)∧Bk w.heap.size r W' ∧
    ∀ r',Q .normal { a with defers:={ target:=.collected w.heap.size,args:=#[] } :: a.defers } (W'.putObj (w.heap.size+1) (.loop r'))) :
  (Code.rangeFunc g ps assign body).wpIn Fence.wide n P Q a w:=by
 refine wpIn_rangeFunc ?_
 intro fn hfn
 have hl1:((w.alloc (.deferred (some []))).alloc (.loop { state:=.ready,pending:=none,fn,tmps:=a.tmps,params:=ps,assign,body,defers:=w.heap.size })).heap[w.heap.size+1]?=some (.loop { state:=.ready,pending:=none,fn,tmps:=a.tmps,params:=ps,assign,body,defers:=w.heap.size }):=by
  have:=World.alloc_heap_new (w.alloc (.deferred (some []))) (.loop { state:=.ready,pending:=none,fn,tmps:=a.tmps,params:=ps,assign,body,defers:=w.heap.size })
  rwa [World.size_alloc] at this
 have hd1:((w.alloc (.deferred (some []))).alloc (.loop { state:=.ready,pending:=none,fn,tmps:=a.tmps,params:=ps,assign,body,defers:=w.heap.size })).heap[w.heap.size]?=some (.deferred (some [])) :=
  (Below.heap_alloc _ _ _ (by simp)).trans (World.alloc_heap_new w _)
 obtain ⟨W1,hW1⟩:∃ W1,(w.alloc (.deferred (some []))).alloc (.loop { state:=.ready,pending:=none,fn,tmps:=a.tmps,params:=ps,assign,body,defers:=w.heap.size })=W1:=⟨_,rfl⟩
 have hen:=run_enterLoop_outer (P:=P) (w:=w) fn a.tmps ps assign body
 rw [hW1] at hen hl1 hd1
 refine ⟨w.heap.size+1,[{ target:=.collected w.heap.size,args:=#[] }],W1,{ target:=.fn (.func gf) lb,args:=#[.func (.yield (w.heap.size+1)) #[] #[]] },W1,gf,
  #[.func (.yield (w.heap.size + 1)) #[] #[]] ++ lb, W1, hen, ?_, fun _ _ => trivial, ?_, fun h => (by simp [Fence.wide] at h), ?_⟩
 ·simp only [resolve,hg]
  simp [go_sem]
 ·simp [invoke,go_sem,eg]
 ·refine (hiter _ _ ⟨hd1,hl1⟩ hW1.symm ?_).mono ?_
  ·intro s x W hk hj hp
   have hy:=run_yield (P:=P) (args:=encs x) hk.lp (hps x)
   refine ⟨fn,_,assign,body,hy,roundIn_of_wpIn trivial (hassign s x W _ _ hk hj hp ?_)⟩
   intro a' Wa hb hka hax
   have hk2:=hk.below hb
   refine ⟨_,run_beginRound hk2.lp rfl,?_⟩
   have hk3:=hk2.put { state:=.busy,pending:=none,fn,tmps:=a.tmps,params:=ps,assign,body,defers:=w.heap.size }
   refine wpIn_mono (hbody s x a' _ _ hk3 (hA s x a' _ _ _ hk2 hax)) ?_
   rintro e a3 W3 hp3
   cases e with
   | normal =>
    obtain ⟨hbk,hkp,hj3⟩:=hp3
    have hk4:=hbk _ hk3
    exact ⟨_,_,run_endRound none hk4.lp,rfl,hk4.put _,hJ _ _ _ _ hk4 hj3,hKt _ _ _ hka (hKt _ _ _ (hKb _ _ _ hk2) (hKt _ _ _ hkp (hKb _ _ _ hk4)))⟩
   | ret=>exact hp3.elim
   | exit id=>exact hp3.elim
   | goto t=>exact hp3.elim
   | panic ch=>exact hp3.elim
   | outgrown=>exact hp3.elim
  ·rintro e W2 ⟨⟨v,rfl⟩,hk,hq⟩
   exact ⟨none,_,run_endLoop hk.lp (by simp),hq _⟩
theorem Seg.putLoop {W:World} {D:Nat} {r:Loop} {ao:Option Addr} {X n:Nat} (h:Seg W ao X n) (hk:Bk D r W) (r':Loop):Seg (W.putObj (D+1) (.loop r')) ao X n:=by
 refine ⟨h.1,fun hn=>?_⟩
 obtain ⟨b,off,e,hl,hc⟩:=h.2 hn
 refine ⟨b,off,e,by simpa using hl,fun i hi=>?_⟩
 have hb:b≠D+1:=fun e=>by
  have:=hc i hi
  simp [World.cell?,e,hk.lp] at this
 rw [World.cell?_of_block (w:=W) (World.putObj_heap_other hb)]
 exact hc i hi
theorem below_putLoop {W w:World} {D B:Nat} {r:Loop} (h:Below B w W) (hk:Bk D r W) (hB:B≤D+1) (r':Obj):Below B w (W.putObj (D+1) r') :=
 h.trans ⟨rfl,rfl,rfl,by simp,fun k hk=>World.putObj_heap_other (by omega)⟩
theorem cells_putLoop {W:World} {D k:Nat} {r:Loop} {cur:Array Value} {t:TypeId} {fz:Nat × Nat} (h:W.heap[k]?=some (.cells cur t fz)) (hk:Bk D r W) (r':Loop):(W.putObj (D+1) (.loop r')).heap[k]?=some (.cells cur t fz):=by
 have hb:k≠D+1:=fun e=>by rw [e,hk.lp] at h;simp at h
 rw [World.putObj_heap_other hb]
 exact h
theorem below_putDfr {W w:World} {D B:Nat} (h:Below B w W) (hB:B≤D) (o:Obj):Below B w (W.putObj D o) :=
 h.trans ⟨rfl,rfl,rfl,by simp,fun k hk=>World.putObj_heap_other (by omega)⟩
theorem cells_putDfr {W:World} {D k:Nat} {r:Loop} {cur:Array Value} {t:TypeId} {fz:Nat × Nat} (h:W.heap[k]?=some (.cells cur t fz)) (hk:Bk D r W) (o:Obj):(W.putObj D o).heap[k]?=some (.cells cur t fz):=by
 have hb:k≠D:=fun e=>by rw [e,hk.dfr] at h;simp at h
 rw [World.putObj_heap_other hb]
 exact h
end Go.Proofs.YtgfmaejhdbmkoaaGreat
namespace Go.Proofs
open Go.Shelf
def Tryz.laysSorts_ren:Go.Shelf.Ren:=⟨fun | 5=>58 | 8=>79 | 7=>78 | 19=>112 | 20=>113 | 10=>103 | 11=>104 | 12=>105 | 13=>106 | 14=>107 | 15=>108 | 16=>109 | 17=>110 | 18=>111 | 30=>126 | 31=>127 | 32=>128 | 33=>129 | 34=>130 | 35=>131 | 40=>142 | n=>n,fun | 23=>32 | 25=>3 | 3=>3 | 32=>116 | 22=>32 | 0=>0 | 44=>89 | 46=>125 | 4=>4 | 36=>138 | 35=>137 | 41=>142 | 5=>5 | 9=>9 | 53=>152 | 57=>156 | 63=>163 | 64=>164 | n=>n,fun | n=>n⟩
theorem Tryz.laysSorts:Go.Proofs.SlLaysM.n5 Tryz.prog Tryz.laysSorts_ren:={
 mixed:=by kernel_rfl
 f5:=⟨Tryz.f58.name,by decide,Tryz.func58.trans (congrArg some (by kernel_rfl))⟩
 f7:=⟨Tryz.f78.name,by decide,Tryz.func78.trans (congrArg some (by kernel_rfl))⟩
 f8:=Tryz.func79.trans (congrArg some (by kernel_rfl))
 f10:=⟨Tryz.f103.name,by decide,Tryz.func103.trans (congrArg some (by kernel_rfl))⟩
 f11:=⟨Tryz.f104.name,by decide,Tryz.func104.trans (congrArg some (by kernel_rfl))⟩
 f12:=⟨Tryz.f105.name,by decide,Tryz.func105.trans (congrArg some (by kernel_rfl))⟩
 f13:=⟨Tryz.f106.name,by decide,Tryz.func106.trans (congrArg some (by kernel_rfl))⟩
 f14:=⟨Tryz.f107.name,by decide,Tryz.func107.trans (congrArg some (by kernel_rfl))⟩
 f15:=⟨Tryz.f108.name,by decide,Tryz.func108.trans (congrArg some (by kernel_rfl))⟩
 f16:=⟨Tryz.f109.name,by decide,Tryz.func109.trans (congrArg some (by kernel_rfl))⟩
 f17:=⟨Tryz.f110.name,by decide,Tryz.func110.trans (congrArg some (by kernel_rfl))⟩
 f18:=⟨Tryz.f111.name,by decide,Tryz.func111.trans (congrArg some (by kernel_rfl))⟩
 f19:=Tryz.func112.trans (congrArg some (by kernel_rfl))
 f20:=Tryz.func113.trans (congrArg some (by kernel_rfl))
 f30:=⟨Tryz.f126.name,by decide,Tryz.func126.trans (congrArg some (by kernel_rfl))⟩
 f31:=Tryz.func127.trans (congrArg some (by kernel_rfl))
 f32:=Tryz.func128.trans (congrArg some (by kernel_rfl))
 f33:=⟨Tryz.f129.name,by decide,Tryz.func129.trans (congrArg some (by kernel_rfl))⟩
 f34:=⟨Tryz.f130.name,by decide,Tryz.func130.trans (congrArg some (by kernel_rfl))⟩
 f35:=⟨Tryz.f131.name,by decide,Tryz.func131.trans (congrArg some (by kernel_rfl))⟩
 f40:=⟨Tryz.f142.name,by decide,Tryz.func142.trans (congrArg some (by kernel_rfl))⟩
 t0:=Tryz.underlying0
 a0:=Tryz.isAgg0
 z0:=Tryz.sizeOf0
 v0:=Tryz.zeroValue0
 t3:=Tryz.underlying3
 a3:=Tryz.isAgg3
 z3:=Tryz.sizeOf3
 v3:=Tryz.zeroValue3
 t4:=Tryz.underlying4
 a4:=Tryz.isAgg4
 z4:=Tryz.sizeOf4
 v4:=Tryz.zeroValue4
 t5:=Tryz.underlying5
 a5:=Tryz.isAgg5
 z5:=Tryz.sizeOf5
 v5:=Tryz.zeroValue5
 t9:=Tryz.underlying9
 a9:=Tryz.isAgg9
 z9:=Tryz.sizeOf9
 v9:=Tryz.zeroValue9
 t22:=Tryz.underlying32
 a22:=Tryz.isAgg32
 z22:=Tryz.sizeOf32
 v22:=Tryz.zeroValue32
 t23:=Tryz.underlying32
 a23:=Tryz.isAgg32
 z23:=Tryz.sizeOf32
 v23:=Tryz.zeroValue32
 t25:=Tryz.underlying3
 a25:=Tryz.isAgg3
 z25:=Tryz.sizeOf3
 v25:=Tryz.zeroValue3
 t32:=Tryz.underlying116
 a32:=Tryz.isAgg116
 z32:=Tryz.sizeOf116
 v32:=Tryz.zeroValue116
 t35:=Tryz.underlying137
 a35:=Tryz.isAgg137
 z35:=Tryz.sizeOf137
 v35:=Tryz.zeroValue137
 t36:=Tryz.underlying138
 a36:=Tryz.isAgg138
 z36:=Tryz.sizeOf138
 v36:=Tryz.zeroValue138
 t41:=Tryz.underlying142
 a41:=Tryz.isAgg142
 z41:=Tryz.sizeOf142
 v41:=Tryz.zeroValue142
 t44:=Tryz.underlying89
 a44:=Tryz.isAgg89
 z44:=Tryz.sizeOf89
 v44:=Tryz.zeroValue89
 t46:=Tryz.underlying125
 a46:=Tryz.isAgg125
 z46:=Tryz.sizeOf125
 v46:=Tryz.zeroValue125
 t53:=Tryz.underlying152
 a53:=Tryz.isAgg152
 z53:=Tryz.sizeOf152
 v53:=Tryz.zeroValue152
 t57:=Tryz.underlying156
 a57:=Tryz.isAgg156
 z57:=Tryz.sizeOf156
 v57:=Tryz.zeroValue156
 t63:=Tryz.underlying163
 a63:=Tryz.isAgg163
 z63:=Tryz.sizeOf163
 v63:=Tryz.zeroValue163
 t64:=Tryz.underlying164
 a64:=Tryz.isAgg164
 z64:=Tryz.sizeOf164
 v64:=Tryz.zeroValue164 }
end Go.Proofs
namespace Go.Proofs.YtgfmaejhdbmkoaaGreat
open Go.RowKit Go.Shelf
set_option linter.unusedVariables false
attribute [local go_sem] Oper.semAt_some
theorem info_i:(Tryz.prog.info? 3).map (fun i=>(i.zero,i.size,i.bytes))=some (some (.int .i64 0),1,8):=by kernel_rfl
theorem ownsRow_keep {w w':World} {base:Nat} {e:TypeId} {size:Nat} {v:Value} {n:Nat} {xs:List Value} (h:w.ownsRow base e size v n xs) (hb:∀ (k:Nat) cur t fz,w.heap[k]?=some (Obj.cells cur t fz)→w'.heap[k]?=some (Obj.cells cur t fz)):w'.ownsRow base e size v n xs:=by
 refine ⟨h.1,?_⟩
 rcases h.2 with h0 | ⟨g,cap,cur,hv,hg,hc,rest⟩
 ·exact Or.inl h0
 ·exact Or.inr ⟨g,cap,cur,hv,hg,hb g _ _ _ hc,rest⟩
theorem wpListIn_append_liesI {F:Fence} {n':Nat} {P:Program} (w:World) {ops:Array Oper} {rest:List Oper} {o:Oper} {a:Act} {Q:Exit→Act→World→Prop} (hgd:o.guard=none) (s x:Operand) (t:TypeId)
  (ho:o.op=.call { callee:=.builtin .append,args:=#[s,x],argTypes:=#[t,t] })
  (base:Nat) (e:TypeId) (i:TypeInfo) (z:Value) (size bytes:Nat) (ht:P.underlying t=some (.slice e)) (hi:P.info? e=some i) (hz:i.zero=some z)
  (hsize:i.size=size) (hby:i.bytes=bytes) (hzs:z.cells.size=size) (hsz:0 < size)
  (v:Value) (n:Nat) (xs:List Value) (hs:a.eval s=v) (hown:w.ownsRow base e size v n xs)
  (ad:Addr) (m c:Nat) (news:List Value) (hx:a.eval x=.slice (some ad) m c) (hl:news.length=m*size) (hnews:∀ j u,news[j]?=some u→w.cell? (ad.add j)=some u) (h1:∀ u∈news,u.oneCell'=true)
  (hm:0 < m) (h63:n+m≤maxLen) (hbytes:(n+m)*bytes≤140737488355328) (hbase:base≤w.heap.size) (H:Nat) (hH:w.heap.size=H)
  (h:∀ g cap w',w'.ownsRow base e size (.slice (some ⟨g,0,none⟩) (n+m) cap) (n+m) (xs ++ news)→w.grownBy w' v.ownBlock→(v.ownBlock=some g∨g=H)→g < w'.heap.size→wpListIn F n' P ops Q rest (a.put o.dst (.slice (some ⟨g,0,none⟩) (n+m) cap)) w'):wpListIn F n' P ops Q (o :: rest) a w:=by
 obtain ⟨g,cap,w',hr,h2,h3,h4,h5⟩:=run_append_lies (P:=P) w t o.type base e i z size bytes ht hi hz hsize hby hzs hsz v n xs hown ad m c news hl hnews h1 hm h63 hbytes hbase H hH
 refine wpListIn_plain hgd fun K hK=>?_
 unfold Oper.wpIn
 refine ⟨?_,?_⟩
 ·simp [Oper.about,ho,resolve,Target.leads,Sem.run_pure]
 ·rw [Oper.semAt_plain F _ _ (by rw [ho];intro c hc';cases hc')]
  simp [execOp,ho,resolve,invoke,builtin,hs,hx,hr,Result.andThen]
  exact hK _ _ (h g cap w' h2 h3 h4 h5)
theorem Bk.others {D:Nat} {r:Loop} {V W:World} (h:Bk D r V) (k:KeepsOthers V W):Bk D r W:=⟨k.same _ _ h.dfr rfl,k.same _ _ h.lp rfl⟩
def Own (w w':World) (v:Value) (s:List Int):Prop:=w'.ownsRow w.heap.size 3 1 v s.length (iv s)∧Below w.heap.size w w'
theorem Own.later {w w1 w2:World} {v:Value} {s:List Int} (h:Own w w1 v s) (hb:Below w1.heap.size w1 w2):Own w w2 v s:=⟨xQ6 h.1 hb,h.2.trans (hb.mono h.2.size)⟩
theorem own_base {w w1 w2:World} {v:Value} {s:List Int} (h:Own w1 w2 v s) (hb:Below w.heap.size w w1):Own w w2 v s:=by
 obtain ⟨h1,h2⟩:=h
 have hs:=hb.size
 refine ⟨⟨h1.1,?_⟩,hb.trans (h2.mono hs)⟩
 rcases h1.2 with h' | ⟨g,cap,cur,h',hg,rest⟩
 ·exact Or.inl h'
 ·exact Or.inr ⟨g,cap,cur,h',by omega,rest⟩
theorem holds_own {w w1:World} {g cap n:Nat} {s:List Int} (h:Own w w1 (.slice (some ⟨g,0,none⟩) n cap) s) (hn:s.length=n):Sort.Holds (Value.int .i64) w1 g 0 s.toArray:=by
 subst hn
 intro j hj
 have hj':j < s.length:=by simpa using hj
 refine ⟨?_,by rw [Nat.zero_add];exact h.1.frozenAt j⟩
 rw [Nat.zero_add,h.1.cellAt j (by omega),iv_at (z:=s[j]) (List.getElem?_eq_getElem hj')]
 simp [hj']
theorem own_sorted {w w1:World} {g cap n m:Nat} {os:Array Obj} {s ts:List Int} (h:Own w w1 (.slice (some ⟨g,0,none⟩) n cap) s) (hn:s.length=n) (hl:ts.length=s.length) :
  Own w (Sort.grow (Sort.putRow (Value.int .i64) (Sort.ahead w1 m) g 0 ts.toArray) os) (.slice (some ⟨g,0,none⟩) n cap) ts:=by
 subst hn
 obtain ⟨h1,h2⟩:=h
 rcases h1.2 with ⟨h',_⟩ | ⟨g',cap',cur,h',hb,hg,hnc,hcm,hcs,htake⟩
 ·simp at h'
 ·simp only [Value.slice.injEq,Option.some.injEq,Addr.mk.injEq,and_true,true_and] at h'
  obtain ⟨rfl,rfl⟩:=h'
  have h3:=ownsRow_sortedI (n:=m) (os:=os) hl hb hg hnc hcm hcs
  refine ⟨?_,h2.trans (xQ8 h2.size (fun k hk=>by injection hk with hk;subst hk;exact hb) (grownBy_sortedI ts.toArray))⟩
  rw [hl]
  exact h3
structure JL (w0:World) (s:List Int) (W:World):Prop where
 ex:∃ v,Boxed W w0.heap.size 32 v∧W.ownsRow w0.heap.size 3 1 v s.length (iv s)
 bel:Below w0.heap.size w0 W
theorem JL.lt {w0 W:World} {s:List Int} (h:JL w0 s W):w0.heap.size < W.heap.size:=by
 obtain ⟨v,hv,hr⟩:=h.ex
 exact hv.lt
theorem JL.put {w0 W:World} {D:Nat} {s:List Int} {r:Loop} (h:JL w0 s W) (hk:Bk D r W) (hD:w0.heap.size≤D+1) (r':Loop):JL w0 s (W.putObj (D+1) (.loop r')):=by
 obtain ⟨v,hv,hr⟩:=h.ex
 exact ⟨⟨v,cells_putLoop hv hk r',ownsRow_keep hr fun k cur t fz hh=>cells_putLoop hh hk r'⟩,below_putLoop h.bel hk hD _⟩
theorem JL.below {w0 W W':World} {s:List Int} (h:JL w0 s W) (hb:Below W.heap.size W W'):JL w0 s W':=by
 obtain ⟨v,hv,hr⟩:=h.ex
 have hl:=h.lt
 exact ⟨⟨v,(hb.block _ hl).trans hv,ownsRow_keep hr fun k cur t fz hh=>(hb.block k (Array.getElem?_eq_some_iff.1 hh).1).trans hh⟩,h.bel.trans (hb.mono (by omega))⟩
theorem JL.appended {w0 V w1:World} {s:List Int} {x:Int} {v:Value} {tmp:Obj} {g cap:Nat}
  (h:JL w0 s V) (hv:Boxed V w0.heap.size 32 v) (hrow:V.ownsRow w0.heap.size 3 1 v s.length (iv s))
  (hown:w1.ownsRow w0.heap.size 3 1 (.slice (some ⟨g,0,none⟩) (s.length+1) cap) (s.length+1) (iv s ++ [.int .i64 x])) (hgrow:(V.alloc tmp).grownBy w1 v.ownBlock) :
  Boxed w1 w0.heap.size 32 v∧JL w0 (s ++ [x]) (w1.setCell ⟨w0.heap.size,0,none⟩ (.slice (some ⟨g,0,none⟩) (s.length+1) cap))∧KeepsOthers V (w1.setCell ⟨w0.heap.size,0,none⟩ (.slice (some ⟨g,0,none⟩) (s.length+1) cap)):=by
 have hsz:=hgrow.size
 simp only [World.size_alloc] at hsz
 obtain ⟨hv1,hv2,hr2,hk2,hb2⟩:=hv.appended (by decide) hrow (by have:=h.lt;omega) (Nat.le_refl _) hown hgrow
 refine ⟨hv1,⟨⟨_,hv2,?_⟩,h.bel.trans hb2⟩,hk2⟩
 rw [iv_append,List.length_append]
 exact hr2
def KSrt (l s:List Int):Prop:=s.Pairwise (·≤·)∧∀ x,x∈s↔x∈l
theorem ksrt_merge (l:List Int):KSrt l (l.mergeSort fun x y=>decide (x≤y)):=by
 refine ⟨?_,fun x=>(List.mergeSort_perm l _).mem_iff⟩
 have h:=List.pairwise_mergeSort (le:=fun x y:Int=>decide (x≤y)) (fun a b c h1 h2=>by simp at *;omega) (fun a b=>by simp;omega) l
 exact h.imp fun {a b} hab=>by simpa using hab
structure KM (W W':World):Prop where
 size:W.heap.size≤W'.heap.size
 map:∀ (k:Nat) es cl,W.heap[k]?=some (Obj.map es cl)→W'.heap[k]?=some (Obj.map es cl)
 iter:∀ (k:Nat) m s x c,W.heap[k]?=some (Obj.mapIter m s x c)→W'.heap[k]?=some (Obj.mapIter m s x c)
theorem KM.trans {A B C:World} (h:KM A B) (k:KM B C):KM A C:=⟨Nat.le_trans h.size k.size,fun i es cl hi=>k.map i es cl (h.map i es cl hi),fun i m s x c hi=>k.iter i m s x c (h.iter i m s x c hi)⟩
theorem KM.refl (A:World):KM A A:=⟨Nat.le_refl _,fun _ _ _ h=>h,fun _ _ _ _ _ h=>h⟩
theorem KM.of {V W:World} (h:KeepsOthers V W):KM V W:=⟨h.size,fun k es cl hk=>h.same k _ hk rfl,fun k m s x c hk=>h.same k _ hk rfl⟩
theorem KM.putLoop {D:Nat} {r:Loop} {W:World} (h:Bk D r W) (r':Loop):KM W (W.putObj (D+1) (.loop r')):=⟨by simp,fun k es cl hk=>by
 rw [World.putObj_heap_other (fun e=>by rw [e,h.lp] at hk;cases hk)];exact hk,fun k m s x c hk=>by
 rw [World.putObj_heap_other (fun e=>by rw [e,h.lp] at hk;cases hk)];exact hk⟩
theorem RngI.km {P:Program} {kt:TypeId} {w w':World} {b r n:Nat} {f:Int→Option Value} {left:Int→Bool} {cnt:Nat} (h:RngI P kt w b r n f left cnt) (hk:KM w w'):RngI P kt w' b r n f left cnt:=by
 obtain ⟨D,lf,⟨es,clock,since,seen,c0,h1,h2,h3,h4,h5,h6⟩,h7⟩:=h
 exact ⟨D,lf,⟨es,clock,since,seen,c0,hk.map _ _ _ h1,h2,h3,h4,hk.iter _ _ _ _ _ h5,h6⟩,h7⟩
theorem RngI.iterAt {P:Program} {kt:TypeId} {w:World} {b r n:Nat} {f:Int→Option Value} {left:Int→Bool} {cnt:Nat} (h:RngI P kt w b r n f left cnt):∃ m s x c,w.heap[r]?=some (Obj.mapIter m s x c):=by
 obtain ⟨D,lf,⟨es,clock,since,seen,c0,h1,h2,h3,h4,h5,h6⟩,h7⟩:=h
 exact ⟨_,_,_,_,h5⟩
theorem JL.next {w0 W W':World} {s:List Int} {P:Program} {kt:TypeId} {b it n:Nat} {f:Int→Option Value} {left:Int→Bool} {cnt:Nat} (h:JL w0 s W) (hR:RngI P kt W b it n f left cnt) (hg:W.grownBy W' (some it)) (hi:w0.heap.size≤it):JL w0 s W':=by
 obtain ⟨m,s',x,c,hm⟩:=hR.iterAt
 have key:∀ (k:Nat) cur t fz,W.heap[k]?=some (Obj.cells cur t fz)→W'.heap[k]?=some (Obj.cells cur t fz):=fun k cur t fz hk=>(hg.block k (Array.getElem?_eq_some_iff.1 hk).1 (fun e=>by injection e with e;rw [e,hm] at hk;cases hk)).trans hk
 obtain ⟨v,hv,hr⟩:=h.ex
 have hb:=h.bel
 exact ⟨⟨v,key _ _ _ _ hv,ownsRow_keep hr key⟩,hb.trans (xQ8 hb.size (fun k e=>by injection e with e;omega) hg)⟩
theorem Bk.next {D:Nat} {r:Loop} {W W':World} {P:Program} {kt:TypeId} {b it n:Nat} {f:Int→Option Value} {left:Int→Bool} {cnt:Nat} (h:Bk D r W) (hR:RngI P kt W b it n f left cnt) (hg:W.grownBy W' (some it)):Bk D r W':=by
 obtain ⟨m,s',x,c,hm⟩:=hR.iterAt
 exact ⟨(hg.block D (by have:=h.lt;omega) (fun e=>by injection e with e;have:=h.dfr;rw [e,hm] at this;cases this)).trans h.dfr,(hg.block (D+1) h.lt (fun e=>by injection e with e;have:=h.lp;rw [e,hm] at this;cases this)).trans h.lp⟩
structure Met (f:Int→Option Value) (left:Int→Bool) (s:List Int) (n cnt:Nat):Prop where
 nodup:s.Nodup
 mem:∀ v,v∈s↔f v≠none∧left v=false
 cnt:s.length+cnt≤n
theorem Met.start {f:Int→Option Value} {n cnt:Nat} (h:cnt≤n):Met f (fun v=>(f v).isSome) [] n cnt:=⟨List.nodup_nil,fun v=>by cases hf:f v <;> simp [hf],by simpa using h⟩
theorem Met.step {f:Int→Option Value} {left:Int→Bool} {s:List Int} {n c c':Nat} (h:Met f left s n c) {v:Int} {x:Value} (hf:f v=some x) (hl:left v=true) (hc:c' < c):Met f (fun z=>left z && !decide (z=v)) (s ++ [v]) n c':=by
 have hn:v ∉ s:=fun hm=>by have:=((h.mem v).1 hm).2;rw [hl] at this;cases this
 refine ⟨List.nodup_append.2 ⟨h.nodup,by simp,fun a ha b hb e=>by rw [List.mem_singleton.1 hb] at e;rw [e] at ha;exact hn ha⟩,fun u=>?_,by have:=h.cnt;rw [List.length_append];simp;omega⟩
 rw [List.mem_append,List.mem_singleton,h.mem u]
 by_cases e:u=v
 ·subst e
  simp [hf]
 ·simp [e]
theorem Met.done {f:Int→Option Value} {left:Int→Bool} {s:List Int} {n c:Nat} (h:Met f left s n c) (hd:∀ v x,f v=some x→left v=false):∀ v,v∈s↔f v≠none:=fun v=>by
 rw [h.mem v]
 constructor
 ·exact fun h=>h.1
 ·intro hv
  refine ⟨hv,?_⟩
  cases hf:f v with
  | none=>exact absurd hf hv
  | some x=>exact hd v x hf
set_option maxRecDepth 100000 in
set_option maxHeartbeats 4000000 in
theorem keys1_is (D:Nat) (r:Loop) (w0 W1:World) (Bs b n:Nat) (f:Int→Option Value) (hBs:W1.cell? ⟨Bs,0,none⟩=some (.map (some b))) (hM:MapI Tryz.prog 3 W1 b n f) (hJ0:JL w0 [] W1) (hk:Bk D r W1)
  (hY:∀ s x W,Bk D r W→JL w0 s W→s.length < n→YieldAt Fence.wide 1 Tryz.prog (D+1) #[.int .i64 x] W fun e W'=>e=.returned (.bool true)∧Bk D r W'∧JL w0 (s ++ [x]) W'∧KM W W') :
  CallsIn Fence.wide 2 Tryz.prog 59 #[.func (.yield (D+1)) #[] #[],.pointer (some ⟨Bs,0,none⟩)] W1 fun e W'=>(∃ v,e=.returned v)∧Bk D r W'∧∃ s,JL w0 s W'∧s.Nodup∧s.length≤n∧∀ v,v∈s↔f v≠none:=by
 have HY:=xQ1 hY
 clear hY
 refine callsIn_wide.2 ?_
 have hsz:=hJ0.bel.size
 have HJ:=xQ1 hJ0
 have HK:=xQ1 hk
 clear hJ0 hk
 go_enter Tryz.func59,Tryz.ntmps59
 go_wp2_with (at_range;refine wpList_rng _ rfl _ 40 rfl xZ9 xZ7 b n f rfl hM ?_;intro w1 cnt0 hR0 hcn hb1 hs1)
 try go_frame
 have hJ1:=HJ.out.below hb1
 have hk1:=HK.out.below hb1
 have HM0:=xQ1 (Met.start (f:=f) hcn)
 clear hM hBs hb1 hs1 hcn HJ HK
 obtain ⟨it,hit⟩:∃ it,W1.heap.size=it:=⟨_,rfl⟩
 rw [hit] at hR0 hsz ⊢
 clear hit
 go_loopg [3] cnt0 (fun cnt v3 wr=>∃ s left,JL w0 s wr∧Bk D r wr∧RngI Tryz.prog 3 wr b it n f left cnt∧Met f left s n cnt)
 case atStart=>exact ⟨[],_,hJ1,hk1,hR0,HM0.out⟩
 case round =>
  clear hJ1 hk1 hR0 HM0
  obtain ⟨s,left,hJ,hk,hR,hMt⟩:=hrel
  have HJ:=xQ1 hJ
  have HK:=xQ1 hk
  have HMt:=xQ1 hMt
  clear hJ hk hMt
  go_wp2_with (at_next;refine wpList_nxt _ rfl _ rfl xZ9 b it n f left gk rfl hR ?_ ?_)
  ·intro hdone
   have HZ:=xQ1 (HMt.out.done hdone)
   clear hdone hR HY
   go_wp2
   have HF:Bk D r wr∧∃ s,JL w0 s wr∧s.Nodup∧s.length≤n∧∀ v,v∈s↔f v≠none:=⟨HK.out,s,HJ.out,HMt.out.nodup,Nat.le_trans (Nat.le_add_right _ _) HMt.out.cnt,HZ.out⟩
   first | exact ⟨⟨_,rfl⟩,HF⟩ | (refine bodyPost_ret (results_none rfl _ _ _) rfl ?_;exact ⟨⟨_,rfl⟩,HF⟩) | (refine bodyPost_end0 rfl rfl ?_;exact ⟨⟨_,rfl⟩,HF⟩) | (go_end0;exact ⟨⟨_,rfl⟩,HF⟩)
  ·intro v x w2 cnt2 hfx hlx hR2 hlt2 hg2 hs2 hen
   have hJ2:=HJ.out.next hR hg2 hsz
   have hk2:=HK.out.next hR hg2
   have HM2:=xQ1 (HMt.out.step hfx hlx hlt2)
   obtain ⟨fn,tmps,assign,body,hy,hRR⟩:=HY.out s v _ hk2 hJ2 (by have:=HMt.out.cnt;omega)
   have HR2:=xQ1 hR2
   clear hs2 hg2 hfx hlx hR hR2 hJ2 hk2 HJ HK HMt
   go_upto_region 3 with fail
   refine (wpIn_wide (n:=2)).1 ?_
   gi_wp2
   refine hRR.mono ?_
   clear hRR hy
   rintro e W5 ⟨rfl,hk5,hJ5,hK5⟩
   have HX:=xQ1 (show ∃ s left,JL w0 s W5∧Bk D r W5∧RngI Tryz.prog 3 W5 b it n f left cnt2∧Met f left s n cnt2 from ⟨_,_,hJ5,hk5,HR2.out.km hK5,HM2.out⟩)
   clear hk5 hJ5 hK5 HR2 HM2
   gi_wp2
   go_wp2
   go_roundg cnt2
   case measure=>exact hlt2
   case rel=>exact HX.out
set_option maxRecDepth 100000 in
set_option maxHeartbeats 4000000 in
theorem appendKeys_is (w:World) (Bs b n:Nat) (f:Int→Option Value) (hBs:w.cell? ⟨Bs,0,none⟩=some (.map (some b))) (hM:MapI Tryz.prog 3 w b n f) (hn:n≤4194304) :
  Calls Tryz.prog 77 #[.slice none 0 0,.func (.func 59) #[] #[.pointer (some ⟨Bs,0,none⟩)]] w fun e w'=>∃ v s,e=.returned v∧Own w w' v s∧s.Nodup∧s.length≤n∧(∀ x,x∈s↔f x≠none):=by
 refine (callsIn_wide (n:=3)).1 ?_
 refine callsIn_of_wp_marks Tryz.func77 rfl trivial ?_ rfl
 simp only [Tryz.ntmps77,List.size_toArray,List.length_cons,List.length_nil,Nat.reduceAdd,Nat.reduceSub,Array.replicate_succ,Array.replicate_zero,List.push_toArray,List.append_toArray,List.nil_append,List.cons_append]
 obtain ⟨i0,hi,hz0,hz1,hz2⟩:=info_parts info_i
 have bO:=Boxed.new w 32 (.slice none 0 0)
 have b0:=(Below.refl w.heap.size w).alloc (Nat.le_refl _) (.cells #[.slice none 0 0] 32)
 have hJ0:JL w [] (w.alloc (.cells #[.slice none 0 0] 32)):=⟨⟨_,bO,World.ownsRow_nil _ _ _ _⟩,b0⟩
 gi_wp2
 obtain ⟨W0,hW0⟩:∃ W0,w.alloc (.cells #[.slice none 0 0] 32)=W0:=⟨_,rfl⟩
 have hsz:W0.heap.size=w.heap.size+1:=by rw [←hW0];simp
 rw [hW0] at bO b0 hJ0 ⊢
 have bw:Below w.heap.size w W0:=b0
 refine range_all (gf:=59) (lb:=#[.pointer (some ⟨Bs,0,none⟩)]) rfl (enters_of Tryz.func59 (by kernel_rfl) rfl) (fun x=>#[.int .i64 x]) (fun _=>rfl)
  (JL w) (fun s x W=>s.length < n) KM
  (fun s x a' V=>JL w s V∧s.length < n∧a' = { tmps:=#[.slice none 0 0,.func (.func 59) #[] #[.pointer (some ⟨Bs,0,none⟩)],.pointer (some ⟨w.heap.size,0,none⟩),undef,.slice none 0 0,.int .i64 x,.func (.func 59) #[] #[.pointer (some ⟨Bs,0,none⟩)],.int .i64 x,undef,undef,undef,undef,undef],defers:=[] })
  (fun s W r r' hk h=>h.put hk (by omega) r') ?hA (fun W r r' hk=>KM.putLoop hk r') (fun A B C h k=>h.trans k) ?assign ?body ?iter
 case hA =>
  rintro s x a' W r r' hk ⟨hj,hl,rfl⟩
  exact ⟨hj.put hk (by omega) r',hl,rfl⟩
 case assign =>
  rintro s x W r K hk hj hl hK
  have hK':=hK _ _ (Below.refl W.heap.size W) (KM.refl W) ⟨hj,hl,rfl⟩
  clear hK
  gi_wp2
  exact hK'
 case body =>
  rintro s x a' V r hk ⟨hj,hl,rfl⟩
  obtain ⟨v,hv,hrow⟩:=hj.ex
  have hcv:=hv.cell
  have hlt:=hj.lt
  gi_wp2_with (gi_at_builtin;refine wpListIn_append_liesI _ rfl _ _ 32 rfl w.heap.size 3 i0 _ 1 8 Tryz.underlying32 hi hz0 hz1 hz2 rfl (by decide) _ _ _ rfl (ownsRow_keep hrow fun k cur t fz hh=>(Below.heap_alloc _ _ _ (Array.getElem?_eq_some_iff.1 hh).1).trans hh) ⟨V.heap.size,0,none⟩ 1 1 [.int .i64 x] rfl rfl (World.news_of_block (World.alloc_heap_new V _)) (by simp [Value.oneCell']) (by decide) (by simp [maxLen];omega) (by omega) (by simp;omega) (V.heap.size+1) (by simp) ?_;intro g cap w1 hown' hgrow hg hglt;obtain ⟨hv1,hJ9,hO9⟩:=hj.appended hv hrow hown' hgrow;have hc1:=hv1.cell;have hf1:=hv1.frozen)
  exact ⟨fun r h=>h.others hO9,KM.of hO9,hJ9⟩
 case iter =>
  intro r W1 hk hW1 hY
  have b1:Below W0.heap.size W0 W1:=by
   rw [hW1]
   exact ((Below.refl W0.heap.size W0).alloc (Nat.le_refl _) _).alloc (by simp) _
  refine (keys1_is W0.heap.size r w W1 Bs b n f (xQ0 b1 (xQ0 bw hBs)) ((hM.later bw).later b1) (hJ0.below b1) hk hY).mono ?_
  rintro e W2 ⟨he,hk2,s,hj,hnd,hsl,hmem⟩
  refine ⟨he,hk2,fun r'=>?_⟩
  have hj2:=hj.put hk2 (by omega) r'
  have hk3:=hk2.put r'
  generalize W2.putObj (W0.heap.size+1) (.loop r')=W3 at hj2 hk3
  obtain ⟨v,hv,hrow⟩:=hj2.ex
  have hcv:=hv.cell
  gi_wp2
  refine ⟨by simp,.inl ⟨_,_,rfl,run_takeDeferred hk3.dfr,?_⟩⟩
  exact ⟨_,results_tmp rfl _ _ _,v,s,rfl,⟨ownsRow_keep hrow fun k cur t fz hh=>cells_putDfr hh hk3 _,below_putDfr hj2.bel (by omega) _⟩,hnd,hsl,hmem⟩
set_option maxHeartbeats 4000000 in
set_option maxRecDepth 100000 in
theorem collectK_is (w:World) (Bs b n:Nat) (f:Int→Option Value) (hBs:w.cell? ⟨Bs,0,none⟩=some (.map (some b))) (hM:MapI Tryz.prog 3 w b n f) (hn:n≤4194304) :
  Calls Tryz.prog 57 #[.func (.func 59) #[] #[.pointer (some ⟨Bs,0,none⟩)]] w fun e w'=>∃ v s,e=.returned v∧Own w w' v s∧s.Nodup∧s.length≤n∧(∀ x,x∈s↔f x≠none):=by
 have H:=xQ1 (appendKeys_is w Bs b n f hBs hM hn)
 clear hBs hM
 go_enter Tryz.func57,Tryz.ntmps57
 go_wp2_with fail
 refine H.out.mono ?_
 rintro e w1 ⟨v,s,rfl,hO,hnd,hsl,hmem⟩
 have HO:=xQ1 (And.intro hO (And.intro hnd (And.intro hsl hmem)))
 clear hO hnd hsl hmem
 go_wp2
 go_ret
 exact ⟨v,s,rfl,HO.out⟩
set_option maxHeartbeats 4000000 in
set_option maxRecDepth 100000 in
theorem sortL_is (w0:World) (v:Value) (s:List Int) (w:World) (hO:Own w0 w v s) (hn:s.length≤9223372036854) :
  Calls Tryz.prog 58 #[v] w fun e w'=>e=.returned (.tuple #[])∧∃ t,t.Pairwise (·≤·)∧t.Perm s∧Own w0 w' v t:=by
 have hcases:=hO.1.2
 rcases hcases with ⟨rfl,h0⟩ | ⟨gb,cap,cur,rfl,hgb,hg,hnc,hcm,hcs,htake⟩
 ·obtain rfl:=List.length_eq_zero_iff.1 h0
  have h3:=AnyM.slices_Sort_int_none Tryz.laysSorts none 0 w
  change Calls Tryz.prog 58 _ _ _ at h3
  refine h3.mono ?_
  rintro e w' ⟨rfl,rfl⟩
  exact ⟨rfl,[],List.Pairwise.nil,List.Perm.refl _,hO⟩
 have hgl:gb < w.heap.size:=(Array.getElem?_eq_some_iff.1 hg).1
 have h3:=AnyM.slices_Sort_int Tryz.laysSorts gb 0 cap s w (holds_own hO rfl) hgl (by omega)
 change Calls Tryz.prog 58 _ _ _ at h3
 refine h3.mono ?_
 rintro e w' ⟨rfl,m,os,rfl⟩
 exact ⟨rfl,_,(ksrt_merge s).1,List.mergeSort_perm s _,own_sorted hO rfl (List.mergeSort_perm s _).length_eq⟩
set_option maxHeartbeats 4000000 in
set_option maxRecDepth 100000 in
theorem sortedK_is (w:World) (Bs b n:Nat) (f:Int→Option Value) (hBs:w.cell? ⟨Bs,0,none⟩=some (.map (some b))) (hM:MapI Tryz.prog 3 w b n f) (hn:n≤4194304) :
  Calls Tryz.prog 40 #[.func (.func 59) #[] #[.pointer (some ⟨Bs,0,none⟩)]] w fun e w'=>∃ v s,e=.returned v∧Own w w' v s∧s.Pairwise (· < ·)∧s.length≤n∧(∀ x,x∈s↔f x≠none):=by
 have H:=xQ1 (collectK_is w Bs b n f hBs hM hn)
 have H2:=xQ1 (fun v s w1 (hO:Own w w1 v s) (hl:s.length≤9223372036854)=>sortL_is w v s w1 hO hl)
 clear hBs hM
 go_enter Tryz.func40,Tryz.ntmps40
 go_wp2_with fail
 refine H.out.mono ?_
 rintro e w1 ⟨v,s,rfl,hO,hnd,hsl,hmem⟩
 have hl:s.length≤9223372036854:=by omega
 have H3:=xQ1 (H2.out v s w1 hO hl)
 have HN:=xQ1 (And.intro hnd (And.intro hsl hmem))
 clear hO H H2 hnd hsl hmem
 go_wp2_with fail
 refine H3.out.mono ?_
 rintro e w2 ⟨rfl,t,hS,ht,hO⟩
 have HX:=xQ1 (show Own w w2 v t∧t.Pairwise (· < ·)∧t.length≤n∧(∀ x,x∈t↔f x≠none) from ⟨hO,by
  have h1:t.Nodup:=ht.nodup_iff.2 HN.out.1
  exact hS.imp₂ (fun a b h2 h3=>by have:a≠b:=h3;omega) h1,by rw [ht.length_eq];exact HN.out.2.1,fun x=>by rw [ht.mem_iff];exact HN.out.2.2 x⟩)
 clear hS ht hO HN H3
 go_wp2
 go_ret
 exact ⟨v,t,rfl,HX.out⟩
set_option maxHeartbeats 4000000 in
set_option maxRecDepth 100000 in
theorem basics_is (w:World) (b n:Nat) (f:Int→Option Value) (hM:MapI Tryz.prog 3 w b n f) (hn:n≤4194304) :
  Calls Tryz.prog 24 #[.map (some b)] w fun e w'=>∃ v s,e=.returned v∧Own w w' v s∧s.Pairwise (· < ·)∧s.length≤n∧(∀ x,x∈s↔f x≠none):=by
 have GK:Hid (∀ w,Calls Tryz.prog 41 #[.map (some b)] w fun e w'=>e=.returned (.func (.func 59) #[] #[.pointer (some ⟨w.heap.size,0,none⟩)])∧w'=w.alloc (.cells #[.map (some b)] 40)):=xQ1 (fun w=>by
  go_enter Tryz.func41,Tryz.ntmps41
  go_wp2
  go_ret
  exact ⟨rfl,rfl⟩)
 have bA:=xQ2 (w:=w) (.cells #[.map (some b)] 40)
 have d0:(w.alloc (.cells #[.map (some b)] 40)).cell? ⟨w.heap.size,0,none⟩=some (.map (some b)):=by go_simp
 have GS:=xQ1 (sortedK_is (w.alloc (.cells #[.map (some b)] 40)) w.heap.size b n f d0 (hM.later bA) hn)
 have GO:=xQ1 (fun v s w2 (hO:Own (w.alloc (.cells #[.map (some b)] 40)) w2 v s)=>show Own w w2 v s from own_base hO bA)
 clear d0 hM bA
 go_enter Tryz.func24,Tryz.ntmps24
 go_wp2_with fail
 refine (GK.out _).mono ?_
 rintro e w1 ⟨rfl,rfl⟩
 go_wp2_with fail
 refine GS.out.mono ?_
 rintro e w2 ⟨v,s,rfl,hO,h2,h3⟩
 have HX:=xQ1 (And.intro (GO.out v s w2 hO) (And.intro h2 h3))
 clear hO h2 h3 GS GK GO
 go_wp2
 go_ret
 exact ⟨v,s,rfl,HX.out⟩
end Go.Proofs.YtgfmaejhdbmkoaaGreat
