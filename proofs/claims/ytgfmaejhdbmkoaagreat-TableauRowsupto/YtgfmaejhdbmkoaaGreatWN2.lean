import Derived.Test.YtgfmaejhdbmkoaaGreatNumR
import Derived.Test.YtgfmaejhdbmkoaaGreatWL5
import Derived.Laws.MakeOwn
import Derived.Test.YtgfmaejhdbmkoaaGreatWQE
set_option linter.unusedSimpArgs false
namespace Go.Proofs.YtgfmaejhdbmkoaaGreat
open Go.RowKit
set_option linter.unusedVariables false
abbrev Mo:=Int × RatV
def fo (L:List Mo):Fo:=L.map fun p=>(p.1,p.2.val)
theorem xZ1 (L M:List Mo):fo (L ++ M)=fo L ++ fo M:=List.map_append
theorem fo_cons (p:Mo) (L:List Mo):fo (p :: L)=(p.1,p.2.val) :: fo L:=rfl
theorem xX3 (L:List Mo):(fo L).length=L.length:=List.length_map _
def cells4 (p:Mo):List Value:=[.int .i64 p.1,.bool p.2.s,.slice p.2.a p.2.n p.2.c,.slice p.2.b p.2.m p.2.e]
def xZ0:List Mo→List Value
 | []=>[]
 | p :: L=>cells4 p ++ xZ0 L
theorem cellsF_append:∀ (L M:List Mo),xZ0 (L ++ M)=xZ0 L ++ xZ0 M
 | [],M=>rfl
 | p :: L,M=>by simp only [List.cons_append,xZ0,cellsF_append L M,List.append_assoc]
theorem cellsF_length:∀ (L:List Mo),(xZ0 L).length=L.length*4
 | []=>rfl
 | p :: L=>by simp only [xZ0,cells4,List.length_append,cellsF_length L,List.length_cons,List.length_nil];omega
theorem cellsF_at:∀ (L:List Mo) (i j:Nat) (p:Mo),L[i]?=some p→j < 4→(xZ0 L)[i*4+j]?=(cells4 p)[j]?
 | [],i,j,p,h,_=>by simp at h
 | q :: L,0,j,p,h,hj=>by
  simp only [List.getElem?_cons_zero,Option.some.injEq] at h
  subst h
  rw [xZ0,List.getElem?_append_left (by simp only [cells4,List.length_cons,List.length_nil];omega),Nat.zero_mul,Nat.zero_add]
 | q :: L,i+1,j,p,h,hj=>by
  rw [List.getElem?_cons_succ] at h
  rw [xZ0,List.getElem?_append_right (by simp only [cells4,List.length_cons,List.length_nil];omega)]
  rw [show (i+1)*4+j - (cells4 q).length=i*4+j by simp only [cells4,List.length_cons,List.length_nil];omega]
  exact cellsF_at L i j p h hj
theorem cells4_one (p:Mo):∀ u∈cells4 p,u.oneCell'=true:=by
 intro u hu
 simp only [cells4,List.mem_cons,List.not_mem_nil,or_false] at hu
 rcases hu with rfl | rfl | rfl | rfl <;> rfl
theorem cellsF_one:∀ (L:List Mo),∀ u∈xZ0 L,u.oneCell'=true
 | [],u,hu=>by simp [xZ0] at hu
 | p :: L,u,hu=>by
  simp only [xZ0,List.mem_append] at hu
  rcases hu with h | h
  ·exact cells4_one p u h
  ·exact cellsF_one L u h
def FAt (W:World) (a:Option Addr) (L:List Mo):Prop :=
 L≠[]→∃ b off,a=some ⟨b,off,none⟩∧b < W.heap.size∧∀ i p,L[i]?=some p→MonoAt W b (off+i*4) p.1 p.2
theorem MonoAt.later {w w':World} {b off:Nat} {v:Int} {q:RatV} (h:MonoAt w b off v q) (hb:Below w.heap.size w w'):MonoAt w' b off v q:=⟨xQ0 hb h.1,h.2.later hb⟩
theorem FAt.later {w w':World} {a:Option Addr} {L:List Mo} (h:FAt w a L) (hb:Below w.heap.size w w'):FAt w' a L:=fun hn=>by
 obtain ⟨b,off,e,hl,hc⟩:=h hn
 exact ⟨b,off,e,Nat.lt_of_lt_of_le hl hb.size,fun i p hi=>(hc i p hi).later hb⟩
theorem FAt.nil (w:World) (a:Option Addr):FAt w a []:=fun h=>absurd rfl h
theorem FAt.head {w:World} {a:Option Addr} {p:Mo} {L:List Mo} (h:FAt w a (p :: L)):∃ b off,a=some ⟨b,off,none⟩∧b < w.heap.size∧MonoAt w b off p.1 p.2∧FAt w (some ⟨b,off+4,none⟩) L:=by
 obtain ⟨b,off,e,hl,hc⟩:=h (by simp)
 refine ⟨b,off,e,hl,by have:=hc 0 p rfl;rw [Nat.zero_mul,Nat.add_zero] at this;exact this,fun _=>⟨b,off+4,rfl,hl,fun i q hi=>?_⟩⟩
 have:=hc (i+1) q (by rw [List.getElem?_cons_succ];exact hi)
 rw [show off+4+i*4=off+(i+1)*4 by omega]
 exact this
theorem FAt.cells {w:World} {b off:Nat} {L:List Mo} (h:FAt w (some ⟨b,off,none⟩) L):∀ j u,(xZ0 L)[j]?=some u→w.cell? ((⟨b,off,none⟩:Addr).add j)=some u:=by
 intro j u hu
 have hadd:(⟨b,off,none⟩:Addr).add j=⟨b,off+j,none⟩:=by unfold Addr.add;split <;> simp_all
 rw [hadd]
 have hj:j < L.length*4:=by
  have:=(List.getElem?_eq_some_iff.1 hu).1
  rwa [cellsF_length] at this
 have hi:j / 4 < L.length:=by omega
 obtain ⟨b',off',e,hl,hc⟩:=h (by intro e;rw [e] at hi;simp at hi)
 obtain ⟨rfl,rfl⟩:b=b'∧off=off':=by simpa using e
 have hp:L[j / 4]?=some L[j / 4]:=List.getElem?_eq_getElem hi
 obtain ⟨c0,c1,c2,c3⟩:=hc _ _ hp
 have h4:=cellsF_at L (j / 4) (j % 4) _ hp (by omega)
 rw [show j / 4*4+j % 4=j by omega,hu] at h4
 obtain ⟨k,hk⟩:∃ k,j % 4=k:=⟨_,rfl⟩
 have hjk:off+j=off+j / 4*4+k:=by omega
 rw [hk] at h4
 rw [hjk]
 match k,(show k < 4 by omega) with
 | 0,_=>simp only [cells4,List.getElem?_cons_zero] at h4;rw [h4];exact c0
 | 1,_=>simp only [cells4,List.getElem?_cons_zero,List.getElem?_cons_succ] at h4;rw [h4];exact c1
 | 2,_=>simp only [cells4,List.getElem?_cons_zero,List.getElem?_cons_succ] at h4;rw [h4];exact c2
 | 3,_=>simp only [cells4,List.getElem?_cons_zero,List.getElem?_cons_succ] at h4;rw [h4];exact c3
theorem own_form {w:World} {base:Nat} {e:TypeId} {v:Value} {L:List Mo} (h:w.ownsRow base e 4 v L.length (xZ0 L)):∃ a cap,v=.slice a L.length cap∧L.length≤cap∧cap≤maxLen∧FAt w a L:=by
 rcases h.2 with ⟨rfl,h0⟩ | ⟨g,cap,cur,rfl,hb,hg,hc,hm,_,_⟩
 ·exact ⟨none,0,by rw [h0],by omega,by simp [maxLen],fun hn=>absurd (List.eq_nil_of_length_eq_zero h0) hn⟩
 ·refine ⟨_,cap,rfl,hc,hm,fun hn=>⟨g,0,rfl,(Array.getElem?_eq_some_iff.1 hg).1,fun i p hi=>?_⟩⟩
  have hil:i < L.length:=(List.getElem?_eq_some_iff.1 hi).1
  have k:∀ j,j < 4→w.cell? ⟨g,i*4+j,none⟩=(cells4 p)[j]?:=fun j hj=>by
   have k1:=h.cellAt (i*4+j) (by omega)
   rw [cellsF_at L i j p hi hj] at k1
   exact k1
  rw [Nat.zero_add]
  exact ⟨k 0 (by omega),k 1 (by omega),k 2 (by omega),k 3 (by omega)⟩
structure Ent (w:World) (p:Mo):Prop where
 ok:p.2.ok w
 low:p.2.low
theorem Ent.later {w w':World} {p:Mo} (h:Ent w p) (hb:Below w.heap.size w w'):Ent w' p:=⟨h.ok.later hb,h.low⟩
structure Grw (vo:Value) (wr:World) (p:Mo):Prop where
 ok:p.2.ok wr
 low:p.2.low
 off:∀ b,vo.ownBlock=some b→p.2.off b
theorem Grw.ent {vo:Value} {wr:World} {p:Mo} (h:Grw vo wr p):Ent wr p:=⟨h.ok,h.low⟩
theorem Grw.later {vo:Value} {wr w':World} {p:Mo} (h:Grw vo wr p) (hb:Below wr.heap.size wr w'):Grw vo w' p:=⟨h.ok.later hb,h.low,h.off⟩
theorem Grw.grown {vo:Value} {wB w1:World} {p:Mo} (h:Grw vo wB p) (hg:wB.grownBy w1 vo.ownBlock) {gb j cap:Nat} (hat:vo.ownBlock=some gb∨gb=wB.heap.size):Grw (.slice (some ⟨gb,0,none⟩) j cap) w1 p:=by
 refine ⟨h.ok.grown hg h.off,h.low,fun b hb=>?_⟩
 have:gb=b:=by simpa [Value.ownBlock] using hb
 subst this
 rcases hat with h1 | h1
 ·exact h.off _ h1
 ·exact h.ok.off (by omega)
theorem Ent.grw {w wr:World} {vo:Value} {p:Mo} (h:Ent w p) (hb:Below w.heap.size w wr) (hrow:∀ b,vo.ownBlock=some b→w.heap.size≤b):Grw vo wr p:=⟨h.ok.later hb,h.low,fun b e=>h.ok.off (hrow b e)⟩
theorem low_val {q:RatV} (h:q.low):q=RatV.of q.val.num q.val.den q.a q.b:=by
 have hY:=h.pos
 have h1:=(Low.self (Z:=sg q.s q.X) hY (by rw [am_sg];exact h.cop))
 have h2:=q.val_low
 rw [rn_of (by omega),rd_of (by omega)] at h2
 obtain ⟨e1,e2⟩:=h2.uniq h1 rfl
 obtain ⟨s,a,n,c,X,b,m,e,Y⟩:=q
 have k1:=h.hs
 have k2:=h.hn
 have k3:=h.hc
 have k4:=h.hm
 have k5:=h.he
 simp only at *
 unfold RatV.of
 rw [e1,e2,k1,am_sg]
 subst k2 k3 k4 k5
 rfl
theorem val_ofR (r:Rat) (a b:Option Addr):(RatV.of r.num r.den a b).val=r:=val_of r a b
theorem ofR_low (r:Rat) (a b:Option Addr):(RatV.of r.num r.den a b).low:=RatV.of_low r.den_pos r.reduced
theorem info_Mono:(Tryz.prog.info? 57).map (fun i=>(i.zero,i.size,i.bytes))=some (some (.agg #[.int .i64 0,.bool false,.slice none 0 0,.slice none 0 0]),4,64):=by kernel_rfl
theorem A_elem_M (w:World):(sizeOf (Tryz.prog.elem 25)).run Tryz.prog w=.ok 4 w:=by kernel_rfl
set_option maxRecDepth 30000 in
theorem sl_restM (b off len cap h:Nat) (hl:h≤len) (hc:len≤cap):∃ a',(∀ w,(Instr.slice 25 (.slice (some ⟨b,off,none⟩) len cap) (some (.int .i64 (h:Int))) none none).run Tryz.prog w=.ok (.slice a' (len - h) (cap - h)) w)∧a'≠none∧(h < len→a'=some ⟨b,off+h*4,none⟩):=by
 refine ⟨if cap=h then some ⟨b,off,none⟩ else (some (⟨b,off,none⟩:Addr)).map (·.add (h*4)),fun w=>?_,?_,fun hlt=>?_⟩
 ·rw [run_slice_l (P:=Tryz.prog) w 25 _ len cap Tryz.underlying25 .i64 _ (by omega) (by omega)]
  rw [A_elem_M]
  simp [Result.andThen,sliced]
 ·split <;> simp
 ·rw [if_neg (by omega)]
  unfold Addr.add
  simp only [Option.map]
  split
  ·simp_all
  ·rfl
theorem A_elem_F (w:World):(sizeOf (Tryz.prog.elem 26)).run Tryz.prog w=.ok 4 w:=by kernel_rfl
set_option maxRecDepth 30000 in
theorem sl_headF (b off len cap h:Nat) (hc:h≤cap) (w:World) :
  (Instr.slice 26 (.slice (some ⟨b,off,none⟩) len cap) none (some (.int .i64 (h:Int))) none).run Tryz.prog w=.ok (.slice (some ⟨b,off,none⟩) h cap) w:=by
 rw [run_slice_h (P:=Tryz.prog) w 26 _ len cap Tryz.underlying26 .i64 _ (by omega) (by omega)]
 rw [A_elem_F]
 simp [Result.andThen,sliced,Addr.add]
set_option maxRecDepth 30000 in
theorem sl_restF (b off len cap h:Nat) (hl:h≤len) (hc:len≤cap):∃ a',(∀ w,(Instr.slice 26 (.slice (some ⟨b,off,none⟩) len cap) (some (.int .i64 (h:Int))) none none).run Tryz.prog w=.ok (.slice a' (len - h) (cap - h)) w)∧a'≠none∧(h < len→a'=some ⟨b,off+h*4,none⟩):=by
 refine ⟨if cap=h then some ⟨b,off,none⟩ else (some (⟨b,off,none⟩:Addr)).map (·.add (h*4)),fun w=>?_,?_,fun hlt=>?_⟩
 ·rw [run_slice_l (P:=Tryz.prog) w 26 _ len cap Tryz.underlying26 .i64 _ (by omega) (by omega)]
  rw [A_elem_F]
  simp [Result.andThen,sliced]
 ·split <;> simp
 ·rw [if_neg (by omega)]
  unfold Addr.add
  simp only [Option.map]
  split
  ·simp_all
  ·rfl
def ord (x y:Int):Int:=if x < y then -1 else if y < x then 1 else 0
set_option maxRecDepth 30000 in
theorem isNaN_is (x:Int) (w:World):Calls Tryz.prog 131 #[.int .i64 x] w fun e w'=>e=.returned (.bool false)∧w'=w:=by
 go_enter Tryz.func131,Tryz.ntmps131
 go_wp2
 go_ret
 exact ⟨by simp,rfl⟩
set_option maxRecDepth 30000 in
set_option maxHeartbeats 1000000 in
theorem Compare_is (x y:Int) (w:World):Calls Tryz.prog 118 #[.int .i64 x,.int .i64 y] w fun e w'=>e=.returned (.int .i64 (ord x y))∧w'=w:=by
 have P1:=xQ1 (fun w'=>isNaN_is x w')
 have P2:=xQ1 (fun w'=>isNaN_is y w')
 unfold ord
 by_cases h1:x < y
 ·rw [if_pos h1]
  go_enter Tryz.func118,Tryz.ntmps118
  go_wp2_with fail
  refine (P1.out _).mono ?_
  rintro e w1 ⟨rfl,rfl⟩
  go_wp2_with fail
  refine (P2.out _).mono ?_
  rintro e w1 ⟨rfl,rfl⟩
  go_wp2
  go_ret
  exact ⟨rfl,rfl⟩
 ·rw [if_neg h1]
  by_cases h2:y < x
  ·rw [if_pos h2]
   go_enter Tryz.func118,Tryz.ntmps118
   go_wp2_with fail
   refine (P1.out _).mono ?_
   rintro e w1 ⟨rfl,rfl⟩
   go_wp2_with fail
   refine (P2.out _).mono ?_
   rintro e w1 ⟨rfl,rfl⟩
   go_wp2
   go_ret
   exact ⟨rfl,rfl⟩
  ·rw [if_neg h2]
   go_enter Tryz.func118,Tryz.ntmps118
   go_wp2_with fail
   refine (P1.out _).mono ?_
   rintro e w1 ⟨rfl,rfl⟩
   go_wp2_with fail
   refine (P2.out _).mono ?_
   rintro e w1 ⟨rfl,rfl⟩
   go_wp2
   go_ret
   exact ⟨rfl,rfl⟩
set_option maxRecDepth 30000 in
set_option maxHeartbeats 1000000 in
theorem byVar_is (x y:Int) (s:Bool) (a:Option Addr) (n c:Nat) (b:Option Addr) (m d:Nat) (s':Bool) (a':Option Addr) (n' c':Nat) (b':Option Addr) (m' d':Nat) (w:World) :
  Calls Tryz.prog 96 #[.agg #[.int .i64 x,.bool s,.slice a n c,.slice b m d],.agg #[.int .i64 y,.bool s',.slice a' n' c',.slice b' m' d']] w fun e w'=>e=.returned (.int .i64 (ord x y))∧Below w.heap.size w w':=by
 have P1:=xQ1 (fun w'=>Compare_is x y w')
 go_enter Tryz.func96,Tryz.ntmps96
 go_wp2_with fail
 refine (P1.out _).mono ?_
 rintro e w1 ⟨rfl,rfl⟩
 go_wp2
 go_ret
 exact ⟨rfl,((Below.refl _ _).alloc (Nat.le_refl _) _).alloc (by simp only [World.size_alloc];omega) _⟩
end Go.Proofs.YtgfmaejhdbmkoaaGreat
