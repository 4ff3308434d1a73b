import Derived.Test.YtlklfkkbdcglbaaGreatWN3
set_option linter.unusedSimpArgs false
namespace Go.Proofs.YtlklfkkbdcglbaaGreat
open Go.RowKit
set_option linter.unusedVariables false
structure Sl (w:World) (a:Option Addr) (c:Nat) (L:List Mo):Prop where
 lies:FAt w a L
 len:L.length≤c
 nn:a=none→c=0
theorem Sl.later {w w':World} {a:Option Addr} {c:Nat} {L:List Mo} (h:Sl w a c L) (hb:Below w.heap.size w w'):Sl w' a c L:=⟨h.lies.later hb,h.len,h.nn⟩
theorem Sl.of {w:World} {base:Nat} {e:TypeId} {v:Value} {L:List Mo} (h:w.ownsRow base e 4 v L.length (cellsF L)):∃ a c,v=.slice a L.length c∧Sl w a c L:=by
 rcases h.2 with ⟨rfl,h0⟩ | ⟨g,cap,cur,rfl,hb,hg,hc,hm,_,_⟩
 ·exact ⟨none,0,by rw [h0],fun hn=>absurd (List.eq_nil_of_length_eq_zero h0) hn,by omega,fun _=>rfl⟩
 ·obtain ⟨a,cap',e,h1,h2,h3⟩:=own_form h
  simp only [Value.slice.injEq] at e
  obtain ⟨rfl,_,rfl⟩:=e
  exact ⟨_,_,rfl,h3,h1,fun h=>by cases h⟩
theorem run_append_form {w:World} (base:Nat) (vo:Value) (R L:List Mo) (a:Option Addr) (ca:Nat) (t ty:TypeId) (ht:Tryz.prog.underlying t=some (.slice 76)) (hown:w.ownsRow base 76 4 vo R.length (cellsF R)) (hL:Sl w a ca L) (hlen:R.length+L.length≤4194304) (hbase:base≤w.heap.size) :
  ∃ v' w',(Builtin.append_ #[t,t] ty #[vo,.slice a L.length ca]).run Tryz.prog w=.ok v' w'∧w'.ownsRow base 76 4 v' (R ++ L).length (cellsF (R ++ L))∧w.grownBy w' vo.ownBlock∧(v'.ownBlock=vo.ownBlock∨v'.ownBlock=some w.heap.size):=by
 obtain ⟨i0,hi0,hz0,hz1,hz2⟩:=info_parts info_Mono
 cases a with
 | none =>
  have hc:=hL.nn rfl
  have hl:L=[]:=by
   cases L with
   | nil=>rfl
   | cons p L=>obtain ⟨b,off,e,_⟩:=hL.lies (by simp);cases e
  subst hl hc
  exact ⟨vo,w,run_append_owned_none (P:=Tryz.prog) (w:=w) base t ty 76 i0 4 ht hi0 vo R.length (cellsF R) hown,by rw [List.append_nil];exact hown,⟨rfl,rfl,rfl,Nat.le_refl _,fun _ _ _=>rfl⟩,Or.inl rfl⟩
 | some ad =>
  have hnews:∀ j u,(cellsF L)[j]?=some u→w.cell? (ad.add j)=some u:=by
   cases L with
   | nil=>intro j u hu;simp [cellsF] at hu
   | cons p L =>
    obtain ⟨b,off,e,_⟩:=hL.lies (by simp)
    obtain rfl:=Option.some.inj e
    exact hL.lies.cells
  obtain ⟨v',w',hr,h2,h3,_,h5⟩:=run_append_own_at (P:=Tryz.prog) w base t ty 76 i0 _ 4 64 ht hi0 hz0 hz1 hz2 rfl (by omega) vo R.length (cellsF R) hown ad L.length ca (cellsF L) (cellsF_length L) hnews (cellsF_one L) (by simp only [maxLen];omega) (by omega) hbase
  exact ⟨v',w',hr,by rw [cellsF_append,List.length_append];exact h2,h3,h5⟩
theorem wpList_append_form {w:World} {ops:Array Oper} {rest:List Oper} {o:Oper} {act:Act} {Q:Exit→Act→World→Prop} (hgd:o.guard=none) (s x:Operand) (t:TypeId)
  (ho:o.op=.call { callee:=.builtin .append,args:=#[s,x],argTypes:=#[t,t] }) (base:Nat) (vo:Value) (R L:List Mo) (a:Option Addr) (ca:Nat) (ht:Tryz.prog.underlying t=some (.slice 76)) (hs:act.eval s=vo) (hx:act.eval x=.slice a L.length ca)
  (hown:w.ownsRow base 76 4 vo R.length (cellsF R)) (hL:Sl w a ca L) (hlen:R.length+L.length≤4194304) (hbase:base≤w.heap.size)
  (h:∀ v' w',w'.ownsRow base 76 4 v' (R ++ L).length (cellsF (R ++ L))→w.grownBy w' vo.ownBlock→(v'.ownBlock=vo.ownBlock∨v'.ownBlock=some w.heap.size)→wpList Tryz.prog ops Q rest (act.put o.dst v') w'):wpList Tryz.prog ops Q (o :: rest) act w:=by
 refine wpList_plain hgd fun K hK=>?_
 obtain ⟨v',w',hr,h2,h3,h5⟩:=run_append_form base vo R L a ca t o.type ht hown hL hlen hbase
 unfold Oper.wp execOp
 simp only [ho,resolve,invoke,builtin,Sem.run_bind,Sem.run_pure,Result.andThen_ok,List.map_toArray,List.map_cons,List.map_nil,hs,hx,hr]
 exact hK _ _ (h v' w' h2 h3 h5)
theorem own_push {w1:World} {base:Nat} {e:TypeId} {v:Value} {R:List Mo} {p:Mo} (h:w1.ownsRow base e 4 v (R.length+1) (cellsF R ++ cells4 p)):w1.ownsRow base e 4 v (R ++ [p]).length (cellsF (R ++ [p])):=by
 rw [cellsF_append,List.length_append]
 have e:cellsF [p]=cells4 p:=List.append_nil _
 rw [e]
 exact h
theorem grw_push {vo:Value} {wB w1:World} {R:List Mo} {p:Mo} (hR:∀ q∈R,Grw vo wB q) (hp:Grw vo wB p) (hg:wB.grownBy w1 vo.ownBlock) {gb j cap:Nat} (hat:vo.ownBlock=some gb∨gb=wB.heap.size):∀ q∈R ++ [p],Grw (.slice (some ⟨gb,0,none⟩) j cap) w1 q:=by
 intro q hq
 rcases List.mem_append.1 hq with hq | hq
 ·exact (hR q hq).grown hg hat
 ·rw [List.mem_singleton] at hq
  subst hq
  exact hp.grown hg hat
theorem grw_all {vo v':Value} {wB w1:World} {R L:List Mo} (hR:∀ q∈R,Grw vo wB q) (hL:∀ q∈L,Grw vo wB q) (hg:wB.grownBy w1 vo.ownBlock) (hat:v'.ownBlock=vo.ownBlock∨v'.ownBlock=some wB.heap.size):∀ q∈R ++ L,Grw v' w1 q:=by
 intro q hq
 have h:Grw vo wB q:=by
  rcases List.mem_append.1 hq with hq | hq
  ·exact hR q hq
  ·exact hL q hq
 refine ⟨h.ok.grown hg h.off,h.low,fun b hb=>?_⟩
 rcases hat with h1 | h1
 ·rw [h1] at hb;exact h.off b hb
 ·rw [h1] at hb;obtain rfl:=Option.some.inj hb;exact h.ok.off (Nat.le_refl _)
structure EntS (w:World) (p:Mo):Prop where
 ent:Ent w p
 ln1:p.2.n≤1099511627776
 ln2:p.2.m≤1099511627776
theorem EntS.later {w w':World} {p:Mo} (h:EntS w p) (hb:Below w.heap.size w w'):EntS w' p:=⟨h.ent.later hb,h.ln1,h.ln2⟩
def MInv (w:World) (T:Fo) (K:Nat) (va vb vo:Value) (wr:World):Prop :=
 ∃ (a:Option Addr) (ca:Nat) (L:List Mo) (b:Option Addr) (cb:Nat) (M R:List Mo),va=.slice a L.length ca∧vb=.slice b M.length cb∧Sl w a ca L∧Sl w b cb M∧(∀ p∈L,EntS w p)∧(∀ p∈M,EntS w p) ∧
  wr.ownsRow w.heap.size 76 4 vo R.length (cellsF R)∧Below w.heap.size w wr∧(∀ p∈R,Grw vo wr p)∧fo R ++ mrg (fo L) (fo M)=T∧R.length+L.length+M.length≤K
def slen:Value→Nat
 | .slice _ n _=>n
 | _=>0
def FAns (w:World) (T:Fo) (e:Ending) (w':World):Prop :=
 ∃ (a:Option Addr) (c:Nat) (R:List Mo),e=.returned (.slice a R.length c)∧Below w.heap.size w w'∧Sl w' a c R∧(∀ p∈R,Ent w' p)∧fo R=T
def FNew (w:World) (B:Nat) (T:Fo) (e:Ending) (w':World):Prop :=
 ∃ (a:Option Addr) (c:Nat) (R:List Mo),e=.returned (.slice a R.length c)∧Below w.heap.size w w'∧Sl w' a c R∧(∀ p∈R,Ent w' p)∧fo R=T∧∀ ad,a=some ad→B≤ad.block∧Row w' ad.block
theorem FNew.ans {w:World} {B:Nat} {T:Fo} {e:Ending} {w':World} (h:FNew w B T e w'):FAns w T e w':=by
 obtain ⟨a,c,R,h1,h2,h3,h4,h5,_⟩:=h
 exact ⟨a,c,R,h1,h2,h3,h4,h5⟩
theorem own_new {w:World} {base:Nat} {e:TypeId} {size n m:Nat} {xs:List Value} {a:Option Addr} {c:Nat} (h:w.ownsRow base e size (.slice a m c) n xs):∀ ad,a=some ad→base≤ad.block∧Row w ad.block:=fun ad e=>by
 subst e
 refine ⟨(h.lt ad.block rfl).1,?_⟩
 rcases h.2 with ⟨h0,_⟩ | ⟨g,cap,cur,hv,hb,hg,_⟩
 ·cases h0
 ·simp only [Value.slice.injEq,Option.some.injEq] at hv
  obtain ⟨rfl,_⟩:=hv
  exact ⟨cur,_,hg⟩
theorem mrg_lt {x y:Int} {r t:Rat} {l m:Fo} (h:x < y):mrg ((x,r) :: l) ((y,t) :: m)=(x,r) :: mrg l ((y,t) :: m):=by rw [mrg];exact if_pos h
theorem mrg_gt {x y:Int} {r t:Rat} {l m:Fo} (h:y < x):mrg ((x,r) :: l) ((y,t) :: m)=(y,t) :: mrg ((x,r) :: l) m:=by
 rw [mrg]
 have h1:¬ x < y:=by omega
 rw [if_neg h1]
 exact if_pos h
theorem mrg_eq {x y:Int} {r t:Rat} {l m:Fo} (h:x=y):mrg ((x,r) :: l) ((y,t) :: m)=if r+t=0 then mrg l m else (x,r+t) :: mrg l m:=by
 subst h
 rw [mrg]
 have h1:¬ x < x:=by omega
 rw [if_neg h1,if_neg h1]
theorem mrg_nil_right (l:Fo):mrg l []=l:=by cases l <;> rw [mrg]
theorem mrg_nil_left (l:Fo):mrg [] l=l:=by rw [mrg]
end Go.Proofs.YtlklfkkbdcglbaaGreat
