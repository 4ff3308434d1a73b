import Derived.Test.YtejlnodillnoaaaGreatDoorWJ2
import Derived.Test.YtejlnodillnoaaaGreatDoorWIA
import Derived.Test.YtejlnodillnoaaaGreatDoorNumX
import Derived.Test.YtejlnodillnoaaaGreatDoorWQ1
set_option linter.unusedSimpArgs false
namespace Go.Proofs.YtejlnodillnoaaaGreatDoor
open Go.RowKit Go.Shelf
set_option linter.unusedVariables false
attribute [local go_sem] Oper.semAt_some
open Classical in
noncomputable def numAt (c o:Nat) (W:World):Nat:=if h:∃ r a n cap,W.cell? ⟨c,o,none⟩=some (.slice a n cap)∧Seg W a r n then h.choose else 0
theorem seg_uniqJ {w:World} {a:Option Addr} {X Y n:Nat} (h:Seg w a X n) (k:Seg w a Y n):X=Y:=by
 rcases Nat.eq_zero_or_pos n with h0 | h0
 ·subst h0
  rw [h.zero,k.zero]
 ·obtain ⟨b,off,rfl,hl,hc⟩:=h.2 h0
  have hk:=k.cells
  refine dg_ext h.1 k.1 fun i hi=>?_
  have h1:=hc i hi
  rw [hk i hi] at h1
  simp only [Option.some.injEq,Value.int.injEq,true_and] at h1
  omega
theorem numAt_eq {c o:Nat} {W:World} {a:Option Addr} {r n cap:Nat} (hc:W.cell? ⟨c,o,none⟩=some (.slice a n cap)) (h:Seg W a r n):numAt c o W=r:=by
 have hx:∃ r a n cap,W.cell? ⟨c,o,none⟩=some (.slice a n cap)∧Seg W a r n:=⟨r,a,n,cap,hc,h⟩
 unfold numAt
 rw [dif_pos hx]
 have sp:=hx.choose_spec
 generalize hx.choose=q at sp ⊢
 obtain ⟨a',n',cap',hc',hs'⟩:=sp
 rw [hc] at hc'
 simp only [Option.some.injEq,Value.slice.injEq] at hc'
 obtain ⟨rfl,rfl,rfl⟩:=hc'
 exact seg_uniqJ hs' h
theorem cf_step {A Zf Zg:Int} {Y:Nat} (hY:Y≠0) (e:Zf*(Y:Int)+Zg=A) (h0:0≤Zg) (h1:Zg < Y):A / (Y:Int)=Zf∧A % (Y:Int)=Zg:=by
 have hd:(Y:Int)≠0:=by omega
 subst e
 constructor
 ·rw [Int.add_comm,Int.add_mul_ediv_right _ _ hd,Int.ediv_eq_zero_of_lt h0 h1,Int.zero_add]
 ·rw [Int.add_comm,Int.add_mul_emod_self_right,Int.emod_eq_of_lt h0 h1]
attribute [local go_sem] Oper.semAt_some
theorem info_IntJ:(Tryz.prog.info? 25).map (fun i=>(i.zero,i.size,i.bytes))=some (some (.agg #[.bool false,.slice none 0 0]),2,32):=by kernel_rfl
structure IL (base:Nat) (W:World) (v:Value) (l:List Int):Prop where
 ex:∃ s:List (Int × Option Addr),s.map Prod.fst=l∧W.ownsRow base 25 2 v s.length (cellsI s)∧∀ x∈s,Seg W x.2 (am x.1) (ln (am x.1))
theorem IL.below {base:Nat} {W W':World} {v:Value} {l:List Int} (h:IL base W v l) (hb:Below W.heap.size W W'):IL base W' v l:=by
 obtain ⟨s,e,hr,hs⟩:=h.ex
 exact ⟨s,e,ownsRow_keep hr fun k cur t fz hh=>(hb.block k (Array.getElem?_eq_some_iff.1 hh).1).trans hh,fun x hx=>(hs x hx).below hb (Nat.le_refl _)⟩
theorem IL.base {base base':Nat} {W:World} {v:Value} {l:List Int} (h:IL base W v l) (hb:base'≤base):IL base' W v l:=by
 obtain ⟨s,e,hr,hs⟩:=h.ex
 refine ⟨s,e,⟨hr.1,?_⟩,hs⟩
 rcases hr.2 with h0 | ⟨g,cap,cur,hv,hg,hc,rest⟩
 ·exact Or.inl h0
 ·exact Or.inr ⟨g,cap,cur,hv,by omega,hc,rest⟩
theorem numbers_is (s:Bool) (ao:Option Addr) (n cap:Nat) (t:Bool) (ao2:Option Addr) (m cap2:Nat) (w:World) :
  Calls Tryz.prog 47 #[.agg #[.bool s,.slice ao n cap,.bool t,.slice ao2 m cap2]] w fun e w'=>e=.returned (.func (.func 84) #[] #[.pointer (some ⟨w.heap.size,0,none⟩)])∧w'=w.alloc (.cells #[.bool s,.slice ao n cap,.bool t,.slice ao2 m cap2] 43):=by
 go_enter Tryz.func47,Tryz.ntmps47
 go_wp2
 go_ret
 exact ⟨rfl,rfl⟩
end Go.Proofs.YtejlnodillnoaaaGreatDoor
