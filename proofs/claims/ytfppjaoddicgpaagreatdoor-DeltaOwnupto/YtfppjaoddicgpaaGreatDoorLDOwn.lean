import Derived.Test.YtfppjaoddicgpaaGreatDoorOpenQ
import Derived.Test.YtfppjaoddicgpaaGreatDoorLDOwnW
import Derived.Test.YtfppjaoddicgpaaGreatDoorCards
import Derived.Test.YtfppjaoddicgpaaGreatDoorTie
import Derived.Deep.DeepHandedRow
import Derived.Lib.LaidTab
set_option linter.unusedSimpArgs false
namespace Go.Proofs.YtfppjaoddicgpaaGreatDoor
open Go.ChangeShapes Go.WideShapes Go.ChangeAt Go.RowKit
set_option linter.unusedVariables false
theorem cells_Delta:Tryz.prog.cellsOf 29=6:=by kernel_rfl
set_option maxRecDepth 100000 in
theorem open_Rat2 {H:Type} {enc:TypeId × Value→H} {W:World} {c0 c1 c2:Value} {d:DataW H} {p:List MemPlace}
  (h:DataW.Trod enc Tryz.prog W 0 (fun _=>true) true 27 (.agg #[c0,c1,c2]) d p)
  (hsz:(d.weights Tryz.prog 27).all (·≤reachBytes)=true) :
  ∃ s a n c X b m e Y,c0=.bool s∧c1=.slice a n c∧c2=.slice b m e∧Seg W a X n∧n≤c∧n≤35184372087808∧Seg W b Y m∧m≤e∧m≤35184372087808∧n+1≤Rows.uptoBulk d∧m+1≤Rows.uptoBulk d:=by
 obtain ⟨fuel,hf⟩:=h
 obtain ⟨y0,y1,n,hx,hl,h0,h1⟩:=trod_struct2 Tryz.underlying27 hf
 simp only [Value.cells,List.drop_zero,cells_Int,cells_nat] at h0 h1
 change DataW.trod enc _ _ _ _ _ n 25 [c0,c1]=_ at h0
 change DataW.trod enc _ _ _ _ _ n 23 [c2]=_ at h1
 simp only [Prod.mk.injEq] at hx
 obtain ⟨rfl,rfl⟩:=hx
 have hc2:∃ a len cap,c2=.slice a len cap:=by
  rcases open_ints A_under_nat Tryz.underlying57 (by kernel_rfl) h1 with ⟨hcs,_⟩ | ⟨x,l,c,zs,hcs,_⟩
  ·simp at hcs;exact ⟨_,_,_,hcs⟩
  ·simp at hcs;exact ⟨_,_,_,hcs⟩
 obtain ⟨b,m,e,rfl⟩:=hc2
 obtain ⟨y0d,y0p⟩:=y0
 obtain ⟨y1d,y1p⟩:=y1
 have hu:=Tryz.underlying27
 simp only [DataW.weights,hu,DataW.weightsEach,List.map] at hsz
 simp only [List.all_append,Bool.and_eq_true] at hsz
 obtain ⟨s,a,len,cap,X,rfl,rfl,hS,hc,hb,hu0⟩:=open_Int2 (c0:=c0) (c1:=c1) (d:=y0d) (p:=y0p) ⟨n,h0⟩ hsz.1
 obtain ⟨Y,hT,hd,hk,hu1⟩:=open_nat (len:=m) (cap:=e) (a:=b) (d:=y1d) (p:=y1p) A_under_nat ⟨n,h1⟩ (fun elems spare e=>by
  have e':y1d=.slice elems spare:=e
  subst e'
  have h2:=hsz.2.1
  simp only [DataW.weights,A_under_nat] at h2
  simp only [List.all_cons,Bool.and_eq_true,decide_eq_true_eq] at h2
  exact h2.1)
 exact ⟨s,a,len,cap,X,b,m,e,Y,rfl,rfl,rfl,hS,hc,hb,hT,hd,hk,by simp only [Rows.uptoBulk,Rows.uptoBulkAll] at hu0 hu1 ⊢;omega,by simp only [Rows.uptoBulk,Rows.uptoBulkAll] at hu0 hu1 ⊢;omega⟩
set_option maxRecDepth 100000 in
theorem open_Delta {H:Type} {enc:TypeId × Value→H} {W:World} {r:Reach} {b0:Nat} {v:Value} {d:DataW H} {p:List MemPlace}
  (hv:Value.okWide Tryz.prog W r b0 29 v) (h:DataW.Trod enc Tryz.prog W 0 (fun _=>true) true 29 v d p)
  (hsz:(d.weights Tryz.prog 29).all (·≤reachBytes)=true) :
  ∃ s a n c X b m e Y s2 a2 n2 c2 X2 b2 m2 e2 Y2,v=.agg #[.bool s,.slice a n c,.slice b m e,.bool s2,.slice a2 n2 c2,.slice b2 m2 e2] ∧
   Seg W a X n∧n≤c∧n≤35184372087808∧Seg W b Y m∧m≤e∧m≤35184372087808∧n+1≤Rows.uptoBulk d∧m+1≤Rows.uptoBulk d ∧
   Seg W a2 X2 n2∧n2≤c2∧n2≤35184372087808∧Seg W b2 Y2 m2∧m2≤e2∧m2≤35184372087808∧n2+1≤Rows.uptoBulk d∧m2+1≤Rows.uptoBulk d:=by
 obtain ⟨cs,rfl,hcs⟩:=okWide_struct Tryz.underlying29 hv
 obtain ⟨fuel,hf⟩:=h
 obtain ⟨y0,y1,k,hx,hl,h0,h1⟩:=trod_struct2 Tryz.underlying29 hf
 rw [cells_Delta] at hcs
 obtain ⟨c0,c1,c2,c3,c4,c5,rfl⟩:∃ c0 c1 c2 c3 c4 c5,cs=#[c0,c1,c2,c3,c4,c5]:=by
  match cs,hcs with
  | ⟨[c0,c1,c2,c3,c4,c5]⟩,_=>exact ⟨c0,c1,c2,c3,c4,c5,rfl⟩
 simp only [Value.cells,List.drop_zero,cells_Rat] at h0 h1
 change DataW.trod enc _ _ _ _ _ k 27 [c0,c1,c2]=_ at h0
 change DataW.trod enc _ _ _ _ _ k 27 [c3,c4,c5]=_ at h1
 simp only [Prod.mk.injEq] at hx
 obtain ⟨rfl,rfl⟩:=hx
 obtain ⟨y0d,y0p⟩:=y0
 obtain ⟨y1d,y1p⟩:=y1
 have hu:=Tryz.underlying29
 simp only [DataW.weights,hu,DataW.weightsEach,List.map] at hsz
 simp only [List.all_append,Bool.and_eq_true] at hsz
 obtain ⟨s,a,n,c,X,b,m,e,Y,rfl,rfl,rfl,hS,hc,hb,hT,hd,hk,hu0,hv0⟩:=open_Rat2 (c0:=c0) (c1:=c1) (c2:=c2) (d:=y0d) (p:=y0p) ⟨k,h0⟩ hsz.1
 obtain ⟨s2,a2,n2,c2,X2,b2,m2,e2,Y2,rfl,rfl,rfl,hS2,hc2,hb2,hT2,hd2,hk2,hu2,hv2⟩:=open_Rat2 (c0:=c3) (c1:=c4) (c2:=c5) (d:=y1d) (p:=y1p) ⟨k,h1⟩ hsz.2.1
 refine ⟨s,a,n,c,X,b,m,e,Y,s2,a2,n2,c2,X2,b2,m2,e2,Y2,rfl,hS,hc,hb,hT,hd,hk,?_,?_,hS2,hc2,hb2,hT2,hd2,hk2,?_,?_⟩ <;>
  (simp only [Rows.uptoBulk,Rows.uptoBulkAll] at hu0 hv0 hu2 hv2 ⊢;omega)
end Go.Proofs.YtfppjaoddicgpaaGreatDoor
namespace Go.Proofs.YtfppjaoddicgpaaGreatDoor.deltaOwn
open Go.ChangeShapes Go.WideShapes Go.ChangeAt Go.RowKit Go.Proofs.YtfppjaoddicgpaaGreatDoor
set_option linter.unusedVariables false
theorem gTab : Tryz.prog.globalNamed "fulcrum/nat.digits" = some 3 := by kernel_rfl
theorem gTabType:(Tryz.prog.globals[3]?).map (·.type)=some 175:=by kernel_rfl
theorem cellsA:Tryz.prog.cellsOf 175=16:=by kernel_rfl
theorem cells8:Tryz.prog.cellsOf 5=1:=by kernel_rfl
theorem table {W : World} (h : laidMetH Tryz.prog Rows.deltaOwnUptoRow.laid W) : Lib.TabIs Tryz.prog W "fulcrum/nat.digits" .u8 [48, 49, 50, 51, 52, 53, 54, 55, 56, 57, 97, 98, 99, 100, 101, 102] :=
 Lib.tabIs_of_head (rest := [("unicode/utf8.acceptRanges", Rows.laid_unicode_utf8_acceptRanges), ("unicode/utf8.first", Rows.laid_unicode_utf8_first)]) gTab gTabType Tryz.underlying175 Tryz.underlying5 cells8 cellsA h
theorem digits_of {W:World} (h:laidMetH Tryz.prog Rows.deltaOwnUptoRow.laid W):Digits W :=
 ⟨(table h).cell gTab 0 (by decide),(table h).cell gTab 1 (by decide),(table h).cell gTab 2 (by decide),(table h).cell gTab 3 (by decide),(table h).cell gTab 4 (by decide)⟩
set_option maxRecDepth 100000 in
theorem contract (H:Type) (enc:TypeId × Value→H) (W:World) (base:Nat) (args:Array Value) (ds gs:List (DataW H)) (before:List MemPlace)
  (hval:∀ (j:Nat) t v,Tryz.f3.params[j]?=some t→args[j]?=some v→Value.okWide Tryz.prog W .any base t v)
  (hW:DataW.Whole enc Tryz.prog Tryz.f3.params.toList Rows.deltaOwnSpec.vars false W args.toList ds gs before)
  (hsz:(DataW.weightsEach Tryz.prog (Tryz.f3.params.toList ++ Rows.deltaOwnSpec.plain.varTypes Tryz.prog) (ds ++ gs)).all (·≤reachBytes)=true) (hk:Rows.uptoSmall H (ds ++ gs)=true) (hL:laidMetH Tryz.prog Rows.deltaOwnUptoRow.laid W) :
  Calls Tryz.prog 3 args W fun e W'=>∃ v,e=.returned v∧Rows.deltaOwnSpec.post enc Tryz.prog Tryz.f3 false true false false W args v W':=by
 have hW':=hW
 obtain ⟨p,q,hA0,hV,rfl,hfz,hnd⟩:=hW
 have hA:DataW.TrodAll enc Tryz.prog W 0 (fun _=>true) true Tryz.f3.params.toList args.toList ds p:=hA0
 rw [Tryz.params3] at hA hval hsz
 obtain ⟨v0,vs0,d0,ds0,p0,q0,hargs,rfl,rfl,h0,r0⟩:=trodAll_cons hA
 obtain ⟨v1,vs1,d1,ds1,p1,q1,rfl,rfl,rfl,h1,r1⟩:=trodAll_cons r0
 obtain ⟨v2,vs2,d2,ds2,p2,q2,rfl,rfl,rfl,h2,r2⟩:=trodAll_cons r1
 obtain ⟨rfl,rfl,rfl⟩:=trodAll_nil r2
 obtain rfl:args=#[v0,v1,v2]:=by cases args;simp_all
 obtain ⟨rfl,rfl⟩:=trodVars_none hV
 have lt0:∀ x∈p0,x.block < W.heap.size:=by obtain ⟨m,hm⟩:=h0;exact DataW.trod_lt m _ _ _ hm
 obtain ⟨rs0,ra0,rn0,rc0,rX0,rb0,rm0,re0,rY0,ss0,sa0,sn0,sc0,sX0,sb0,sm0,se0,sY0,rfl,hS0,hc0,hb0,hT0,hd0,hk0,hu0,hv0,gS0,gc0,gb0,gT0,gd0,gk0,gu0,gv0⟩:=open_Delta (hval 0 29 v0 rfl rfl) h0 (sized_at 0 hsz rfl rfl)
 have lt1:∀ x∈p1,x.block < W.heap.size:=by obtain ⟨m,hm⟩:=h1;exact DataW.trod_lt m _ _ _ hm
 obtain ⟨rs1,ra1,rn1,rc1,rX1,rb1,rm1,re1,rY1,ss1,sa1,sn1,sc1,sX1,sb1,sm1,se1,sY1,rfl,hS1,hc1,hb1,hT1,hd1,hk1,hu1,hv1,gS1,gc1,gb1,gT1,gd1,gk1,gu1,gv1⟩:=open_Delta (hval 1 29 v1 rfl rfl) h1 (sized_at 1 hsz rfl rfl)
 have lt2:∀ x∈p2,x.block < W.heap.size:=by obtain ⟨m,hm⟩:=h2;exact DataW.trod_lt m _ _ _ hm
 obtain ⟨rs2,ra2,rn2,rc2,rX2,rb2,rm2,re2,rY2,rfl,hS2,hc2,hb2,hT2,hd2,hk2,hu2,hv2⟩:=open_Rat (hval 2 27 v2 rfl rfl) h2 (sized_at 2 hsz rfl rfl)
 clear hA0
 have hbulk:=of_decide_eq_true hk
 simp only [List.append_nil,Rows.uptoBulkAll] at hbulk
 replace gb0:sn0≤1048576:=by omega
 replace gk0:sm0≤1048576:=by omega
 replace hb0:rn0≤1048576:=by omega
 replace hk0:rm0≤1048576:=by omega
 replace gb1:sn1≤1048576:=by omega
 replace gk1:sm1≤1048576:=by omega
 replace hb1:rn1≤1048576:=by omega
 replace hk1:rm1≤1048576:=by omega
 replace hb2:rn2≤1048576:=by omega
 replace hk2:rm2≤1048576:=by omega
 simp only [List.append_nil] at hW'
 refine (walk rs0 ra0 rn0 rc0 rX0 rb0 rm0 re0 rY0 ss0 sa0 sn0 sc0 sX0 sb0 sm0 se0 sY0 rs1 ra1 rn1 rc1 rX1 rb1 rm1 re1 rY1 ss1 sa1 sn1 sc1 sX1 sb1 sm1 se1 sY1 rs2 ra2 rn2 rc2 rX2 rb2 rm2 re2 rY2 W hc0 hb0 hS0 hd0 hk0 hT0 gc0 gb0 gS0 gd0 gk0 gT0 hc1 hb1 hS1 hd1 hk1 hT1 gc1 gb1 gS1 gd1 gk1 gT1 hc2 hb2 hS2 hd2 hk2 hT2 (digits_of hL)).mono fun e W' ⟨he,bel⟩=>?_
 subst he
 exact ⟨_,rfl,_,_,_,[],_,[],hW',trodAll_mk1 (shut_bool Tryz.underlying4 _),(trodAll_cons_mk (Below.trod laidOut (by kernel_rfl) (of_decide_eq_true (by kernel_rfl)) h0 bel lt0) (trodAll_cons_mk (Below.trod laidOut (by kernel_rfl) (of_decide_eq_true (by kernel_rfl)) h1 bel lt1) (trodAll_cons_mk (Below.trod laidOut (by kernel_rfl) (of_decide_eq_true (by kernel_rfl)) h2 bel lt2) trodAll_mk0))),rfl,bel.frame _,fun h=>by cases h⟩
def setCells (cs:Array Value):Obj→Obj
 | .cells _ t frozen=>.cells cs t frozen
 | o=>o
set_option maxRecDepth 100000 in
noncomputable def laidWorld (os:Os):World :=
 { World.holding Tryz.prog os ⟨#[],#[],[]⟩ with heap:=((((World.holding Tryz.prog os ⟨#[],#[],[]⟩).heap.modify 3 (setCells #[.int .u8 48,.int .u8 49,.int .u8 50,.int .u8 51,.int .u8 52,.int .u8 53,.int .u8 54,.int .u8 55,.int .u8 56,.int .u8 57,.int .u8 97,.int .u8 98,.int .u8 99,.int .u8 100,.int .u8 101,.int .u8 102])).modify 2 (setCells #[.int .u8 128,.int .u8 191,.int .u8 160,.int .u8 191,.int .u8 128,.int .u8 159,.int .u8 144,.int .u8 191,.int .u8 128,.int .u8 143,.int .u8 0,.int .u8 0,.int .u8 0,.int .u8 0,.int .u8 0,.int .u8 0,.int .u8 0,.int .u8 0,.int .u8 0,.int .u8 0,.int .u8 0,.int .u8 0,.int .u8 0,.int .u8 0,.int .u8 0,.int .u8 0,.int .u8 0,.int .u8 0,.int .u8 0,.int .u8 0,.int .u8 0,.int .u8 0])).modify 1 (setCells #[.int .u8 240,.int .u8 240,.int .u8 240,.int .u8 240,.int .u8 240,.int .u8 240,.int .u8 240,.int .u8 240,.int .u8 240,.int .u8 240,.int .u8 240,.int .u8 240,.int .u8 240,.int .u8 240,.int .u8 240,.int .u8 240,.int .u8 240,.int .u8 240,.int .u8 240,.int .u8 240,.int .u8 240,.int .u8 240,.int .u8 240,.int .u8 240,.int .u8 240,.int .u8 240,.int .u8 240,.int .u8 240,.int .u8 240,.int .u8 240,.int .u8 240,.int .u8 240,.int .u8 240,.int .u8 240,.int .u8 240,.int .u8 240,.int .u8 240,.int .u8 240,.int .u8 240,.int .u8 240,.int .u8 240,.int .u8 240,.int .u8 240,.int .u8 240,.int .u8 240,.int .u8 240,.int .u8 240,.int .u8 240,.int .u8 240,.int .u8 240,.int .u8 240,.int .u8 240,.int .u8 240,.int .u8 240,.int .u8 240,.int .u8 240,.int .u8 240,.int .u8 240,.int .u8 240,.int .u8 240,.int .u8 240,.int .u8 240,.int .u8 240,.int .u8 240,.int .u8 240,.int .u8 240,.int .u8 240,.int .u8 240,.int .u8 240,.int .u8 240,.int .u8 240,.int .u8 240,.int .u8 240,.int .u8 240,.int .u8 240,.int .u8 240,.int .u8 240,.int .u8 240,.int .u8 240,.int .u8 240,.int .u8 240,.int .u8 240,.int .u8 240,.int .u8 240,.int .u8 240,.int .u8 240,.int .u8 240,.int .u8 240,.int .u8 240,.int .u8 240,.int .u8 240,.int .u8 240,.int .u8 240,.int .u8 240,.int .u8 240,.int .u8 240,.int .u8 240,.int .u8 240,.int .u8 240,.int .u8 240,.int .u8 240,.int .u8 240,.int .u8 240,.int .u8 240,.int .u8 240,.int .u8 240,.int .u8 240,.int .u8 240,.int .u8 240,.int .u8 240,.int .u8 240,.int .u8 240,.int .u8 240,.int .u8 240,.int .u8 240,.int .u8 240,.int .u8 240,.int .u8 240,.int .u8 240,.int .u8 240,.int .u8 240,.int .u8 240,.int .u8 240,.int .u8 240,.int .u8 240,.int .u8 240,.int .u8 240,.int .u8 240,.int .u8 241,.int .u8 241,.int .u8 241,.int .u8 241,.int .u8 241,.int .u8 241,.int .u8 241,.int .u8 241,.int .u8 241,.int .u8 241,.int .u8 241,.int .u8 241,.int .u8 241,.int .u8 241,.int .u8 241,.int .u8 241,.int .u8 241,.int .u8 241,.int .u8 241,.int .u8 241,.int .u8 241,.int .u8 241,.int .u8 241,.int .u8 241,.int .u8 241,.int .u8 241,.int .u8 241,.int .u8 241,.int .u8 241,.int .u8 241,.int .u8 241,.int .u8 241,.int .u8 241,.int .u8 241,.int .u8 241,.int .u8 241,.int .u8 241,.int .u8 241,.int .u8 241,.int .u8 241,.int .u8 241,.int .u8 241,.int .u8 241,.int .u8 241,.int .u8 241,.int .u8 241,.int .u8 241,.int .u8 241,.int .u8 241,.int .u8 241,.int .u8 241,.int .u8 241,.int .u8 241,.int .u8 241,.int .u8 241,.int .u8 241,.int .u8 241,.int .u8 241,.int .u8 241,.int .u8 241,.int .u8 241,.int .u8 241,.int .u8 241,.int .u8 241,.int .u8 241,.int .u8 241,.int .u8 2,.int .u8 2,.int .u8 2,.int .u8 2,.int .u8 2,.int .u8 2,.int .u8 2,.int .u8 2,.int .u8 2,.int .u8 2,.int .u8 2,.int .u8 2,.int .u8 2,.int .u8 2,.int .u8 2,.int .u8 2,.int .u8 2,.int .u8 2,.int .u8 2,.int .u8 2,.int .u8 2,.int .u8 2,.int .u8 2,.int .u8 2,.int .u8 2,.int .u8 2,.int .u8 2,.int .u8 2,.int .u8 2,.int .u8 2,.int .u8 19,.int .u8 3,.int .u8 3,.int .u8 3,.int .u8 3,.int .u8 3,.int .u8 3,.int .u8 3,.int .u8 3,.int .u8 3,.int .u8 3,.int .u8 3,.int .u8 3,.int .u8 35,.int .u8 3,.int .u8 3,.int .u8 52,.int .u8 4,.int .u8 4,.int .u8 4,.int .u8 68,.int .u8 241,.int .u8 241,.int .u8 241,.int .u8 241,.int .u8 241,.int .u8 241,.int .u8 241,.int .u8 241,.int .u8 241,.int .u8 241,.int .u8 241])) }
set_option maxRecDepth 100000 in
theorem laid_met (os:Os):laidMet Tryz.prog Rows.deltaOwnUptoRow.laid ((laidWorld os).forCall (fun _ _=>0) ⟨#[],#[.agg #[.bool false,.slice none 0 0,.slice none 0 0,.bool false,.slice none 0 0,.slice none 0 0],.agg #[.bool false,.slice none 0 0,.slice none 0 0,.bool false,.slice none 0 0,.slice none 0 0],.agg #[.bool false,.slice none 0 0,.slice none 0 0]],[]⟩).memory :=
 laidMet_of_run' 8 (by kernel_rfl) (by kernel_rfl)
theorem reads (os:Os) {H:Type} (enc:TypeId × Value→H):∃ places,DataW.whole enc Tryz.prog ((laidWorld os).forCall (fun _ _=>0) ⟨#[],#[.agg #[.bool false,.slice none 0 0,.slice none 0 0,.bool false,.slice none 0 0,.slice none 0 0],.agg #[.bool false,.slice none 0 0,.slice none 0 0,.bool false,.slice none 0 0,.slice none 0 0],.agg #[.bool false,.slice none 0 0,.slice none 0 0]],[]⟩).memory Tryz.f3.params.toList Rows.deltaOwnSpec.vars false [Value.agg #[.bool false,.slice none 0 0,.slice none 0 0,.bool false,.slice none 0 0,.slice none 0 0],Value.agg #[.bool false,.slice none 0 0,.slice none 0 0,.bool false,.slice none 0 0,.slice none 0 0],Value.agg #[.bool false,.slice none 0 0,.slice none 0 0]] 8=some ([.agg [.agg [.agg [.lit (.bool false),.nil],.nil],.agg [.agg [.lit (.bool false),.nil],.nil]],.agg [.agg [.agg [.lit (.bool false),.nil],.nil],.agg [.agg [.lit (.bool false),.nil],.nil]],.agg [.agg [.lit (.bool false),.nil],.nil]],[],places) :=
 ⟨[],by kernel_rfl⟩
set_option maxRecDepth 100000 in
theorem liftedUpto (os:Os) (started:os.Started) (H:Type) (enc:TypeId × Value→H) (F:Stop.Interp) :
  ReturnsInHanded {} Tryz.checked os 3 .any ((Rows.OpenSpec.upto Rows.deltaOwnSpec).preRow enc Tryz.prog Tryz.f3 Rows.deltaOwnUptoRow.domain false Rows.deltaOwnUptoRow.laid) (((Rows.OpenSpec.upto Rows.deltaOwnSpec).at F).post enc Tryz.prog Tryz.f3 false true false false):=by
 obtain ⟨places,hx⟩:=reads os enc
 refine returnsInHanded_of_row (C:=Tryz.checked) (s:=Rows.OpenSpec.upto Rows.deltaOwnSpec) own started (by kernel_rfl) Tryz.func3
  (witness_row_at (enc:=enc) (C:=Tryz.checked) false (laidWorld os) #[.agg #[.bool false,.slice none 0 0,.slice none 0 0,.bool false,.slice none 0 0,.slice none 0 0],.agg #[.bool false,.slice none 0 0,.slice none 0 0,.bool false,.slice none 0 0,.slice none 0 0],.agg #[.bool false,.slice none 0 0,.slice none 0 0]] rfl (by kernel_rfl) (by kernel_rfl) (by kernel_rfl)
   (OpenSpec.preRow_of_cond 8 hx (by kernel_rfl) (fun k hk=>by cases hk;kernel_rfl) (by kernel_rfl) (laid_met os))) ?_
 intro W base args ds gs before hval hW _ hk hsz hL hSh _
 exact contract H enc W base args ds gs before hval hW hsz (hk _ rfl) hL
theorem saidUpto:Rows.DeltaOwnUptoSaid :=
 OpenClaim.holds_of_cond 3 Tryz.f3 rfl rfl rfl rfl rfl rfl rfl ⟨rfl,rfl,rfl,rfl,rfl⟩ rfl rfl rfl rfl rfl (by kernel_rfl) Tryz.func3 (by kernel_rfl)
  (of_decide_eq_true (by kernel_rfl)) (by unfold Func.isWrapper;first | (rw [if_pos (by decide +kernel)];kernel_rfl) | (rw [if_neg (by decide +kernel)];exact ⟨rfl,rfl⟩))
  (fun os started H enc _ F=>by rw [OpenClaim.pre_eq_preRow];exact liftedUpto os started H enc F)
theorem plain (f : FuncId) (fn : Func) (hf : Tryz.pinned.checked.prog.funcNamed "fulcrum/fulcrumlaw05.DeltaOwn" = some f) (hfn : Tryz.pinned.checked.prog.funcs[f]? = some fn) :
  false=Tryz.pinned.checked.prog.looks []∧∀ (j:Nat) t,fn.params[j]?=some t→Tryz.pinned.checked.prog.wantsStandIn t=false:=by
 obtain rfl : f = 3 := Option.some.inj ((show Tryz.prog.funcNamed "fulcrum/fulcrumlaw05.DeltaOwn" = some 3 by kernel_rfl).symm.trans hf) |>.symm
 obtain rfl:fn=Tryz.f3:=(Option.some.inj (Tryz.func3.symm.trans hfn)).symm
 refine ⟨by kernel_rfl,fun j t ht=>?_⟩
 rw [Tryz.params3] at ht
 have hm:=Array.mem_of_getElem? ht
 simp only [List.mem_toArray,List.mem_cons,List.not_mem_nil,or_false] at hm
 rcases hm with rfl | rfl | rfl
 ·exact (show Tryz.prog.wantsStandIn 29=false by kernel_rfl)
 ·exact (show Tryz.prog.wantsStandIn 29=false by kernel_rfl)
 ·exact (show Tryz.prog.wantsStandIn 27=false by kernel_rfl)
theorem cardUpto:Rows.DeltaOwnUptoCardSaid :=
 Claim7.holds_tied_plain_at .later [] _ _ _ _ saidUpto (fun _ h=>by cases h) (by kernel_rfl) (fun _ h=>by cases h) deltaOwnUpto_row_tie rfl ⟨rfl,rfl⟩ (by kernel_rfl) rfl plain (by kernel_rfl)
end Go.Proofs.YtfppjaoddicgpaaGreatDoor.deltaOwn
namespace Go.Proofs.YtfppjaoddicgpaaGreatDoor
theorem deltaOwn_holds:Rows.DeltaOwnUptoCardSaid:=deltaOwn.cardUpto
#print axioms deltaOwn_holds
end Go.Proofs.YtfppjaoddicgpaaGreatDoor
