import Derived.Test.YtgfmaejhdbmkoaaGreatWC1
import Derived.Test.YtgfmaejhdbmkoaaGreatGT5
import Derived.Test.YtgfmaejhdbmkoaaGreatGT8
set_option linter.unusedSimpArgs false
namespace Go.Proofs.YtgfmaejhdbmkoaaGreat
open Go.RowKit
set_option linter.unusedVariables false
def cb (k:Nat→Wtd):Nat→Nat
 | 0=>0
 | n+1=>cb k n+(2*((k n).C.n+(k n).C.m+(k n).D.n+(k n).D.m)+5)
def CInR (w:World) (k:Nat→Wtd) (T:Fo) (j:Nat) (vo vc:Value) (wr:World) (R:List Mo) (q:Nat→RatV):Prop :=
 wr.ownsRow w.heap.size 57 4 vo R.length (xZ0 R)∧wr.ownsRow w.heap.size 55 3 vc j (cellsV q j)∧Below w.heap.size w wr∧(∀ b,vo.ownBlock=some b→vc.ownBlock≠some b) ∧
  (∀ p∈R,p.2.ok wr∧p.2.low∧(∀ b,vo.ownBlock=some b→p.2.off b)∧∀ b,vc.ownBlock=some b→p.2.off b)∧(∀ i,i < j→(q i).ok wr∧(q i).low∧(∀ b,vo.ownBlock=some b→(q i).off b)∧∀ b,vc.ownBlock=some b→(q i).off b) ∧
  fo R=T∧rs q j=cst k j∧bulkV q j≤cb k j
def CIn (w:World) (k:Nat→Wtd) (T:Fo) (j:Nat) (vo vc:Value) (wr:World):Prop:=∃ (R:List Mo) (q:Nat→RatV),CInR w k T j vo vc wr R q
theorem CIn.nil (w:World) (k:Nat→Wtd):CIn w k (flat k 0) 0 (.slice none 0 0) (.slice none 0 0) w :=
 ⟨[],fun _=>default,World.ownsRow_nil _ _ _ _,World.ownsRow_nil _ _ _ _,Below.refl _ _,fun b h=>by simp [Value.ownBlock] at h,fun p hp=>by simp at hp,fun i hi=>absurd hi (by omega),rfl,rfl,Nat.le_refl _⟩
theorem CIn.below {w:World} {k:Nat→Wtd} {T:Fo} {j:Nat} {vo vc:Value} {wr:World} (h:CIn w k T j vo vc wr):Below w.heap.size w wr:=by
 obtain ⟨R,q,_,_,hB,_⟩:=h
 exact hB
theorem CIn.later {w:World} {k:Nat→Wtd} {T:Fo} {j:Nat} {vo vc:Value} {wr w':World} (h:CIn w k T j vo vc wr) (hb:Below wr.heap.size wr w'):CIn w k T j vo vc w':=by
 obtain ⟨R,q,hO,hC,hB,hne,hR,hq,h1,h2,h3⟩:=h
 exact ⟨R,q,xQ6 hO hb,xQ6 hC hb,hB.trans (hb.mono hB.size),hne,fun p hp=>⟨(hR p hp).1.later hb,(hR p hp).2⟩,fun i hi=>⟨(hq i hi).1.later hb,(hq i hi).2⟩,h1,h2,h3⟩
theorem CInR.form {w:World} {k:Nat→Wtd} {T:Fo} {j:Nat} {vo vc:Value} {wr w2 w3:World} {R1:List Mo} {v':Value} {R:List Mo} {q:Nat→RatV} (h:CInR w k T j vo vc wr R q) (b2:Below wr.heap.size wr w2) (hE:∀ p∈R1,Ent w2 p) (hF:∀ p∈R1,p.2.frm wr.heap.size)
  (hown:w3.ownsRow w.heap.size 57 4 v' (R ++ R1).length (xZ0 (R ++ R1))) (hg:w2.grownBy w3 vo.ownBlock) (hat:v'.ownBlock=vo.ownBlock∨v'.ownBlock=some w2.heap.size):CInR w k (T ++ fo R1) j v' vc w3 (R ++ R1) q:=by
 obtain ⟨hO,hC,hB,hne,hR,hq,h1,h2,h3⟩:=h
 have hB2:=hB.trans (b2.mono hB.size)
 have s2:=b2.size
 have off':∀ x:RatV,x.ok w2→(∀ b,vo.ownBlock=some b→x.off b)→∀ b,v'.ownBlock=some b→x.off b:=fun x hx ho b hb=>by
  rcases hat with e | e
  ·exact ho b (by rw [←e];exact hb)
  ·rw [e] at hb
   obtain rfl:=Option.some.inj hb
   exact hx.off (Nat.le_refl _)
 refine ⟨hown,?_,hB2.trans (xQ8 hB2.size (fun g hg9=>(hO.lt g hg9).1) hg),?_,?_,?_,by rw [xZ1,h1],h2,h3⟩
 ·refine World.ownsRow.kept (xQ6 hC b2) hg ?_
  cases hu:vc.ownBlock with
  | none=>exact Or.inl rfl
  | some bb=>exact Or.inr fun e=>hne bb e.symm hu
 ·intro b hb hv
  rcases hat with e | e
  ·exact hne b (by rw [←e];exact hb) hv
  ·rw [e] at hb
   have:=(hC.lt b hv).2
   have:w2.heap.size=b:=Option.some.inj hb
   omega
 ·intro p hp
  rcases List.mem_append.1 hp with h | h
  ·obtain ⟨a1,a2,a3,a4⟩:=hR p h
   exact ⟨(a1.later b2).grown hg a3,a2,off' _ (a1.later b2) a3,a4⟩
  ·have hf:=hF p h
   have ho:∀ b,vo.ownBlock=some b→p.2.off b:=fun b hb=>hf.off (hO.lt b hb).2
   exact ⟨(hE p h).ok.grown hg ho,(hE p h).low,off' _ (hE p h).ok ho,fun b hb=>hf.off (hC.lt b hb).2⟩
 ·intro i hi
  obtain ⟨a1,a2,a3,a4⟩:=hq i hi
  exact ⟨(a1.later b2).grown hg a3,a2,off' _ (a1.later b2) a3,a4⟩
theorem CInR.const {w:World} {k:Nat→Wtd} {T:Fo} {j:Nat} {vo vc:Value} {wr w2 w3:World} {gb cap:Nat} {r:RatV} {R:List Mo} {q:Nat→RatV} (h:CInR w k T j vo vc wr R q) (b2:Below wr.heap.size wr w2) (hr:r.ok w2) (hl:r.low) (hf:r.frm wr.heap.size) (hv:r.val=(k j).C.val*(k j).D.val) (hn:r.n+r.m+1≤2*((k j).C.n+(k j).C.m+(k j).D.n+(k j).D.m)+5)
  (hown:w3.ownsRow w.heap.size 55 3 (.slice (some ⟨gb,0,none⟩) (j+1) cap) (j+1) (cellsV q j ++ [.bool r.s,.slice r.a r.n r.c,.slice r.b r.m r.e])) (hg:w2.grownBy w3 vc.ownBlock) (hat:vc.ownBlock=some gb∨gb=w2.heap.size):CIn w k T (j+1) vo (.slice (some ⟨gb,0,none⟩) (j+1) cap) w3:=by
 obtain ⟨hO,hC,hB,hne,hR,hq,h1,h2,h3⟩:=h
 have hB2:=hB.trans (b2.mono hB.size)
 have s2:=b2.size
 have off':∀ x:RatV,x.ok w2→(∀ b,vc.ownBlock=some b→x.off b)→∀ b,(Value.slice (some ⟨gb,0,none⟩) (j+1) cap).ownBlock=some b→x.off b:=fun x hx ho b hb=>by
  have:gb=b:=by simpa [Value.ownBlock] using hb
  subst this
  rcases hat with e | e
  ·exact ho gb e
  ·exact hx.off (by omega)
 obtain ⟨q',hq'⟩:∃ q':Nat→RatV,q'=fun i=>if i < j then q i else r:=⟨_,rfl⟩
 have e1:∀ i,i < j→q' i=q i:=fun i hi=>by rw [hq'];exact if_pos hi
 have e2:q' j=r:=by rw [hq'];exact if_neg (by omega)
 refine ⟨R,q',?_,?_,hB2.trans (xQ8 hB2.size (fun g hg9=>(hC.lt g hg9).1) hg),?_,?_,?_,h1,?_,?_⟩
 ·refine World.ownsRow.kept (xQ6 hO b2) hg ?_
  cases hu:vo.ownBlock with
  | none=>exact Or.inl rfl
  | some bb=>exact Or.inr fun e=>hne bb hu e.symm
 ·simp only [cellsV]
  rw [cellsV_congr j e1,e2]
  exact hown
 ·intro b hb hv
  have:gb=b:=by simpa [Value.ownBlock] using hv
  subst this
  rcases hat with e | e
  ·exact hne gb hb e
  ·have:=(hO.lt gb hb).2;omega
 ·intro p hp
  obtain ⟨a1,a2,a3,a4⟩:=hR p hp
  exact ⟨(a1.later b2).grown hg a4,a2,a3,off' _ (a1.later b2) a4⟩
 ·intro i hi
  rcases Nat.lt_or_ge i j with h5 | h5
  ·rw [e1 i h5]
   obtain ⟨a1,a2,a3,a4⟩:=hq i h5
   exact ⟨(a1.later b2).grown hg a4,a2,a3,off' _ (a1.later b2) a4⟩
  ·obtain rfl:i=j:=by omega
   rw [e2]
   have ho:∀ b,vc.ownBlock=some b→r.off b:=fun b hb=>hf.off (hC.lt b hb).2
   exact ⟨hr.grown hg ho,hl,fun b hb=>hf.off (hO.lt b hb).2,off' _ hr ho⟩
 ·simp only [rs,cst]
  rw [rs_congr j e1,e2,h2,hv]
 ·simp only [bulkV,cb]
  rw [bulkV_congr j e1,e2]
  omega
theorem CIn.open {w:World} {k:Nat→Wtd} {T:Fo} {j:Nat} {vo vc:Value} {wr:World} (h:CIn w k T j vo vc wr):∃ a c R a2 c2 q,vo=.slice a (R:List Mo).length c∧vc=.slice a2 j c2∧Sl wr a c R∧(∀ p∈R,Ent wr p)∧fo R=T∧RatsAt wr a2 j q∧j≤c2∧c2≤9223372036854775807∧(∀ i,i < j→(q i).ok wr∧(q i).low)∧rs q j=cst k j∧bulkV q j≤cb k j:=by
 obtain ⟨R,q,hO,hC,hB,hne,hR,hq,h1,h2,h3⟩:=h
 obtain ⟨a,c,e,hs⟩:=Sl.of hO
 obtain ⟨a2,c2,e2,l1,l2,hr⟩:=own_rats hC
 exact ⟨a,c,R,a2,c2,q,e,e2,hs,fun p hp=>⟨(hR p hp).1,(hR p hp).2.1⟩,h1,hr,l1,by simpa [maxLen] using l2,fun i hi=>⟨(hq i hi).1,(hq i hi).2.1⟩,h2,h3⟩
def Wtd.lies (W:Wtd) (w:World) (b off:Nat):Prop :=
 w.cell? ⟨b,off+0,none⟩=some (.slice W.a W.L.length W.c)∧w.cell? ⟨b,off+1,none⟩=some (.bool W.D.s)∧w.cell? ⟨b,off+2,none⟩=some (.slice W.D.a W.D.n W.D.c)∧w.cell? ⟨b,off+3,none⟩=some (.slice W.D.b W.D.m W.D.e)∧w.cell? ⟨b,off+4,none⟩=some (.bool W.C.s)∧w.cell? ⟨b,off+5,none⟩=some (.slice W.C.a W.C.n W.C.c)∧w.cell? ⟨b,off+6,none⟩=some (.slice W.C.b W.C.m W.C.e)
theorem Wtd.lies.later {W:Wtd} {w w':World} {b off:Nat} (h:W.lies w b off) (hb:Below w.heap.size w w'):W.lies w' b off:=by
 obtain ⟨h0,h1,h2,h3,h4,h5,h6⟩:=h
 exact ⟨xQ0 hb h0,xQ0 hb h1,xQ0 hb h2,xQ0 hb h3,xQ0 hb h4,xQ0 hb h5,xQ0 hb h6⟩
def WtsAt (w:World) (a:Option Addr) (n:Nat) (k:Nat→Wtd):Prop:=0 < n→∃ b off,a=some ⟨b,off,none⟩∧b < w.heap.size∧∀ i,i < n→(k i).lies w b (off+i*7)
theorem WtsAt.later {w w':World} {a:Option Addr} {n:Nat} {k:Nat→Wtd} (h:WtsAt w a n k) (hb:Below w.heap.size w w'):WtsAt w' a n k:=fun hn=>by
 obtain ⟨b,off,e,hl,hc⟩:=h hn
 exact ⟨b,off,e,Nat.lt_of_lt_of_le hl hb.size,fun i hi=>(hc i hi).later hb⟩
structure Wtd.ok (w:World) (W:Wtd):Prop where
 form:FAt w W.a W.L
 parts:∀ p∈W.L,p.2.ok w
 len:W.L.length≤W.c
 con:W.D.ok w
 coef:W.C.ok w
theorem Wtd.ok.later {w w':World} {W:Wtd} (h:W.ok w) (hb:Below w.heap.size w w'):W.ok w':=⟨h.form.later hb,fun p hp=>(h.parts p hp).later hb,h.len,h.con.later hb,h.coef.later hb⟩
def Wtd.bulk (W:Wtd):Nat:=bulkL W.L+W.D.n+W.D.m+W.C.n+W.C.m+1
def bulkW (k:Nat→Wtd):Nat→Nat
 | 0=>0
 | n+1=>bulkW k n+(k n).bulk
theorem bulkW_at {k:Nat→Wtd}:∀ (n i:Nat),i < n→(k i).bulk≤bulkW k n
 | 0,i,h=>absurd h (by omega)
 | n+1,i,h=>by
  simp only [bulkW]
  rcases Nat.lt_or_ge i n with h1 | h1
  ·have:=bulkW_at (k:=k) n i h1;omega
  ·obtain rfl:i=n:=by omega
   omega
theorem bulkW_n {k:Nat→Wtd}:∀ (n:Nat),n≤bulkW k n
 | 0=>Nat.zero_le _
 | n+1=>by have:=bulkW_n (k:=k) n;simp only [bulkW,Wtd.bulk];omega
theorem bulkW_mono {k:Nat→Wtd} {i n:Nat} (h:i≤n):bulkW k i≤bulkW k n:=by
 induction n with
 | zero =>
  obtain rfl:i=0:=by omega
  exact Nat.le_refl _
 | succ n ih =>
  rcases Nat.lt_or_ge i (n+1) with h1 | h1
  ·have:=ih (by omega);simp only [bulkW];omega
  ·obtain rfl:i=n+1:=by omega
   exact Nat.le_refl _
theorem bulkL_len:∀ (L:List Mo),2*L.length≤bulkL L
 | []=>Nat.zero_le _
 | p :: L=>by have:=bulkL_len L;simp only [bulkL,List.length_cons];omega
theorem flat_len {k:Nat→Wtd}:∀ n,2*(flat k n).length≤bulkW k n
 | 0=>Nat.le_refl _
 | n+1=>by
  have h1:=flat_len (k:=k) n
  have h2:=bulkL_len (k n).L
  simp only [flat,bulkW,Wtd.bulk,List.length_append]
  rw [fmap_length,xX3]
  omega
theorem fb_le {w:World} {k:Nat→Wtd}:∀ n,(∀ i,i < n→(k i).ok w)→fb k n≤5*bulkW k n
 | 0,_=>Nat.le_refl _
 | n+1,h=>by
  have h1:=fb_le n fun i hi=>h i (by omega)
  have h2:=wts_bulk (k n).L (h n (by omega)).parts
  obtain ⟨h3,h4⟩:=norm_sz (h n (by omega)).coef
  simp only [fb,bulkW,Wtd.bulk,wt]
  omega
theorem cb_le {k:Nat→Wtd}:∀ n,cb k n≤5*bulkW k n
 | 0=>Nat.le_refl _
 | n+1=>by
  have h1:=cb_le (k:=k) n
  simp only [cb,bulkW,Wtd.bulk]
  omega
set_option maxHeartbeats 8000000 in
set_option maxRecDepth 100000 in
theorem lCombine_is (a:Option Addr) (n cap:Nat) (k:Nat→Wtd) (w:World) (hA:WtsAt w a n k) (hok:∀ i,i < n→(k i).ok w) (hc:n≤cap) (hb:bulkW k n≤2097152) :
  Calls Tryz.prog 71 #[.slice a n cap] w (AfAns w (nfm (flat k n)) (cst k n)):=by
 obtain ⟨i0,hi0,hz0,hz1,hz2⟩:=info_parts info_Rat
 have hn:=bulkW_n (k:=k) n
 have HB:=xQ1 (fun i (hi:i < n)=>bulkW_at (k:=k) n i hi)
 have GT:=xQ1 (fun i (hi:i < n) w' (hb9:Below w.heap.size w w')=>times_new (k i).C (k i).a (k i).c (k i).L 100000000 w' ((hok i hi).later hb9).form ((hok i hi).later hb9).parts (hok i hi).len (by have h:=HB.out i hi;have h2:=bulkL_len (k i).L;unfold Wtd.bulk at h;omega) ((hok i hi).later hb9).coef (fun p hp=>by have h:=HB.out i hi;have h2:=bulkL_at (k i).L p hp;unfold Wtd.bulk at h;omega) (by have h:=HB.out i hi;unfold Wtd.bulk at h;omega) (by omega))
 have GM:=xQ1 (fun i (hi:i < n) w' (hb9:Below w.heap.size w w')=>qMul_is (k i).C.s (k i).C.a (k i).C.n (k i).C.c (k i).C.X (k i).C.b (k i).C.m (k i).C.e (k i).C.Y (k i).D.s (k i).D.a (k i).D.n (k i).D.c (k i).D.X (k i).D.b (k i).D.m (k i).D.e (k i).D.Y _ _ w' (hok i hi).coef.2.1 (by have h:=HB.out i hi;unfold Wtd.bulk at h;omega) ((hok i hi).coef.later hb9).1 (hok i hi).coef.2.2.2.2.1 (by have h:=HB.out i hi;unfold Wtd.bulk at h;omega) ((hok i hi).coef.later hb9).2.2.2.1 (hok i hi).con.2.1 (by have h:=HB.out i hi;unfold Wtd.bulk at h;omega) ((hok i hi).con.later hb9).1 (hok i hi).con.2.2.2.2.1 (by have h:=HB.out i hi;unfold Wtd.bulk at h;omega) ((hok i hi).con.later hb9).2.2.2.1 (low_mul (k i).C (k i).D))
 have GZ:=xQ1 (fun i (hi:i < n)=>show ln (am ((k i).C.val*(k i).D.val).num)+ln ((k i).C.val*(k i).D.val).den+1≤2*((k i).C.n+(k i).C.m+(k i).D.n+(k i).D.m)+5 from Nat.le_trans (mul_wt (hok i hi).coef (hok i hi).con) (by omega))
 have GL:=xQ1 (fun j (hj:j≤n)=>show 2*(flat k j).length≤2097152 from Nat.le_trans (flat_len j) (Nat.le_trans (bulkW_mono hj) hb))
 have HC:=xQ1 (fun i (hi:i < n)=>(hok i hi).len)
 have FI:=xQ1 (flat_fine k n (by have:=fb_le (w:=w) n hok;omega))
 have CBn:=xQ1 (show cb k n+1≤1099511627776 by have:=cb_le (k:=k) n;omega)
 have G2':=fun w'=>qWhole_is 0 w' (by omega) (by omega)
 rw [show ng 0=false from rfl,show ln (am 0)=0 from xX7,ln_one] at G2'
 have G2:=xQ1 G2'
 clear G2'
 have HA:=xQ1 hA
 obtain ⟨TT,hTT⟩:∃ TT,AfAns w (nfm (flat k n)) (cst k n)=TT:=⟨_,rfl⟩
 rw [hTT]
 replace hTT:=xQ1 hTT
 clear hA hok
 go_enter Tryz.func71,Tryz.ntmps71
 go_wp2_with fail
 obtain ⟨wA,hwA⟩:∃ wA,w.alloc (.cells #[.slice none 0 0,.bool false,.slice none 0 0,.slice none 0 0] 102)=wA:=⟨_,rfl⟩
 have bA:Below w.heap.size w wA:=by subst hwA;exact xQ2 _
 have rA:Four wA w.heap.size (.slice none 0 0) (.bool false) (.slice none 0 0) (.slice none 0 0):=by subst hwA;exact four_new w _ _ _ _ 102
 have lA:w.heap.size < wA.heap.size:=rA.2.lt
 rw [hwA]
 clear hwA
 go_loopw [3,4,9] (fun vo vc vi wr=>∃ j:Nat,j≤n∧vi=.int .i64 j∧CIn wA k (flat k j) j vo vc wr) (fun _ _ vi _=>n - (intOf vi).toNat)
 case atStart=>exact ⟨0,Nat.zero_le _,rfl,CIn.nil _ _⟩
 case round =>
  obtain ⟨j,hj,rfl,hI⟩:=hrel
  have hBI:=hI.below
  by_cases hlt:j < n
  ·obtain ⟨bb,off,rfl,hbb,hcell⟩:=HA.out (by omega)
   have hBw:=bA.trans (hBI.mono bA.size)
   have hcj:=(hcell j hlt).later hBw
   have T1:=xQ1 (fun w' hb9=>GT.out j hlt w' hb9)
   have M1:=xQ1 (fun w' hb9=>GM.out j hlt w' hb9)
   have Z1:=GZ.out j hlt
   have L1:=GL.out (j+1) (by omega)
   have L0:=GL.out j hj
   have HCj:=HC.out j hlt
   have HBj:=HB.out j hlt
   have hfl:flat k (j+1)=flat k j ++ fmap (fun r=>(k j).C.val*r) (fo (k j).L):=rfl
   obtain ⟨W,hW⟩:∃ W,k j=W:=⟨_,rfl⟩
   rw [hW] at hcj T1 M1 Z1 hfl HCj HBj
   obtain ⟨d0,d1,d2,d3,d4,d5,d6⟩:=hcj
   rw [Nat.add_zero] at d0
   have j0:(0:Int)≤(j:Int):=by omega
   have j1:(j:Int) < (n:Int):=by omega
   replace hfl:=xQ1 hfl
   replace L1:=xQ1 L1
   replace L0:=xQ1 L0
   replace Z1:=xQ1 Z1
   obtain ⟨R,q,hI⟩:=hI
   replace hI:=xQ1 hI
   replace hW:=xQ1 hW
   clear hcell GT GM GZ GL HC HB HA
   obtain ⟨wM,hwM⟩:∃ wM,wr.alloc (.cells #[.slice W.a W.L.length W.c,.bool W.D.s,.slice W.D.a W.D.n W.D.c,.slice W.D.b W.D.m W.D.e,.bool W.C.s,.slice W.C.a W.C.n W.C.c,.slice W.C.b W.C.m W.C.e] 104)=wM:=⟨_,rfl⟩
   have bM:Below wr.heap.size wr wM:=by subst hwM;exact xQ2 _
   have m0:wM.cell? ⟨wr.heap.size,0,none⟩=some (.slice W.a W.L.length W.c):=by subst hwM;go_simp
   have m1:wM.cell? ⟨wr.heap.size,1,none⟩=some (.bool W.D.s):=by subst hwM;go_simp
   have m2:wM.cell? ⟨wr.heap.size,2,none⟩=some (.slice W.D.a W.D.n W.D.c):=by subst hwM;go_simp
   have m3:wM.cell? ⟨wr.heap.size,3,none⟩=some (.slice W.D.b W.D.m W.D.e):=by subst hwM;go_simp
   have m4:wM.cell? ⟨wr.heap.size,4,none⟩=some (.bool W.C.s):=by subst hwM;go_simp
   have m5:wM.cell? ⟨wr.heap.size,5,none⟩=some (.slice W.C.a W.C.n W.C.c):=by subst hwM;go_simp
   have m6:wM.cell? ⟨wr.heap.size,6,none⟩=some (.slice W.C.b W.C.m W.C.e):=by subst hwM;go_simp
   go_wp2_with fail
   clear hwM d0 d1 d2 d3 d4 d5 d6
   refine (T1.out _ (hBw.trans (bM.mono hBw.size))).mono ?_
   rintro e w2 ⟨a1,c1,R1,rfl,b2,s1,E1,f1,fr1⟩
   have bT:Below wr.heap.size wr w2:=bM.trans (b2.mono bM.size)
   replace m1:=xQ0 b2 m1
   replace m2:=xQ0 b2 m2
   replace m3:=xQ0 b2 m3
   replace m4:=xQ0 b2 m4
   replace m5:=xQ0 b2 m5
   replace m6:=xQ0 b2 m6
   have hO:=hI.out.1
   have hO2:=xQ6 hO bT
   have hs2:wA.heap.size≤w2.heap.size:=Nat.le_trans hBI.size bT.size
   have hlen:R.length+R1.length≤4194304:=by
    have h:=L1.out
    rw [hfl.out,List.length_append,fmap_length,xX3] at h
    have h1:=congrArg List.length f1
    rw [xX3,fmap_length,xX3] at h1
    have h2:R.length=(flat k j).length:=by rw [←hI.out.2.2.2.2.2.2.1,xX3]
    omega
   go_wp2_with (at_builtin;refine xJ4 (by rfl) _ _ _ (by rfl) wA.heap.size u3 R R1 a1 c1 Tryz.underlying26 (by rfl) (by rfl) hO2 s1 hlen hs2 ?_)
   intro v' w3 hown hgrow hat
   have I1:=xQ1 (show CInR wA k (flat k (j+1)) j v' u4 w3 (R ++ R1) q by
    have h:=hI.out.form bT E1 (fun p hp=>(fr1 p hp).mono bM.size) (by rw [List.length_append];exact hown) hgrow hat
    rw [f1] at h;rw [hfl.out];exact h)
   replace m1:=hgrow.cell m1 (fun e=>by have:=(hO.lt wr.heap.size e.symm).2;omega)
   replace m2:=hgrow.cell m2 (fun e=>by have:=(hO.lt wr.heap.size e.symm).2;omega)
   replace m3:=hgrow.cell m3 (fun e=>by have:=(hO.lt wr.heap.size e.symm).2;omega)
   replace m4:=hgrow.cell m4 (fun e=>by have:=(hO.lt wr.heap.size e.symm).2;omega)
   replace m5:=hgrow.cell m5 (fun e=>by have:=(hO.lt wr.heap.size e.symm).2;omega)
   replace m6:=hgrow.cell m6 (fun e=>by have:=(hO.lt wr.heap.size e.symm).2;omega)
   clear hown hgrow hat hO hO2 s1 E1 fr1 f1 hI bT b2 bM hlen hs2
   have hB3:=I1.out.2.2.1
   have hBw3:Below w.heap.size w w3:=bA.trans (hB3.mono bA.size)
   obtain ⟨r,hr⟩:∃ r,W.C.val*W.D.val=r:=⟨_,rfl⟩
   rw [hr] at M1 Z1
   replace hr:=xQ1 hr
   go_wp2_with fail
   refine (M1.out _ hBw3).mono ?_
   rintro e w4 ⟨p,p',rfl,n1,n2⟩
   have b4:=n1.below
   obtain ⟨w5,hw5⟩:∃ w5,w4.alloc (.cells #[.bool (ng r.num),.slice p (ln (am r.num)) (ln (am r.num)),.slice p' (ln r.den) (ln r.den)] 55)=w5:=⟨_,rfl⟩
   have hnew:=heap_alloc_new w4 (.cells #[.bool (ng r.num),.slice p (ln (am r.num)) (ln (am r.num)),.slice p' (ln r.den) (ln r.den)] 55)
   have b5:=xQ2 (w:=w4) (.cells #[.bool (ng r.num),.slice p (ln (am r.num)) (ln (am r.num)),.slice p' (ln r.den) (ln r.den)] 55)
   rw [hw5] at hnew b5
   have bT:Below w3.heap.size w3 w5:=b4.trans (b5.mono b4.size)
   have hO3:=xQ6 I1.out.2.1 bT
   have s4:=b4.size
   have s5:=b5.size
   have s3:=hB3.size
   have hbs:wA.heap.size≤w5.heap.size:=by omega
   have hbl:(j+1)*56≤140737488355328:=by omega
   have hj1:j+1≤maxLen:=by simp only [maxLen];omega
   have zr:=Z1.out
   have hbu:2*(W.C.n+W.C.m+W.D.n+W.D.m)≤4194304:=by have h:=HBj;unfold Wtd.bulk at h;omega
   have gok:(RatV.of r.num r.den p p').ok w5:=⟨n1.seg.later b5,Nat.le_refl _,by show ln (am r.num)≤_;omega,n2.seg.later b5,Nat.le_refl _,by show ln r.den≤_;omega⟩
   have gfr:(RatV.of r.num r.den p p').frm w3.heap.size:=⟨fun hn ad e=>n1.fr hn ad e,fun hn ad e=>n2.fr hn ad e⟩
   have gv:(RatV.of r.num r.den p p').val=(k j).C.val*(k j).D.val:=by rw [hW.out,val_ofR,hr.out]
   have gn:(RatV.of r.num r.den p p').n+(RatV.of r.num r.den p p').m+1≤2*((k j).C.n+(k j).C.m+(k j).D.n+(k j).D.m)+5:=by rw [hW.out];exact zr
   go_wp2_with (at_builtin;(try rw [hw5]);refine wpList_append_lies _ (by rfl) _ _ _ (by rfl) wA.heap.size 55 i0 _ 3 56 Tryz.underlying126 hi0 hz0 hz1 hz2 rfl (by omega) u4 j (cellsV q j) (by rfl) hO3 ⟨w4.heap.size,0,none⟩ 1 1 [.bool (ng r.num),.slice p (ln (am r.num)) (ln (am r.num)),.slice p' (ln r.den) (ln r.den)] (by rfl) (by rfl) (World.news_of_block (cs:=#[.bool (ng r.num),.slice p (ln (am r.num)) (ln (am r.num)),.slice p' (ln r.den) (ln r.den)]) (t:=55) (fr:=(0,0)) hnew) (by simp [Value.oneCell']) (by omega) hj1 hbl hbs w5.heap.size rfl ?_)
   intro gb cap9 w9 hown4 hgrow hat hlt4
   have I2:=xQ1 (I1.out.const bT gok (ofR_low r p p') gfr gv gn hown4 hgrow hat)
   clear hown4 hgrow hat hlt4 gok gfr gv gn hO3 hnew b4 b5 bT n1 n2 I1 hB3 hBw3 zr hbu hbs hbl hj1 s3 s4 s5 m1 m2 m3 m4 m5 m6 M1 T1
   go_wp2
   go_roundw
   case rel=>exact ⟨j+1,by omega,by go_num,I2.out⟩
   case measure=>simp [intOf];omega
  ·obtain rfl:j=n:=by omega
   have i1:¬ (j:Int) < (j:Int):=by omega
   obtain ⟨ao,co9,R,a2,c2,q,rfl,rfl,hS,hE,hfo,hRA,hjc,hcm,hq,hrs,hbk⟩:=hI.open
   have hRl:R.length≤1048576:=by have h:=GL.out j hj;rw [←hfo,xX3] at h;omega
   have G1:=collectF_is R.length R ao co9 wr (Nat.le_refl _) hS hE hRl (by rw [hfo];exact FI.out)
   rw [hfo] at G1
   replace G1:=xQ1 G1
   have GH:=xQ1 (fun w' (hb9:Below wr.heap.size wr w') p p' (h1:Seg w' p' 1 1)=>byHalves_is j j a2 c2 q p p' (rs q j).num (rs q j).den w' (Nat.le_refl _) hjc hcm (hRA.later hb9) (fun i hi=>(hq i hi).1.later hb9) (fun i hi=>(hq i hi).2) (by have:=CBn.out;omega) h1 (rs_low q j))
   rw [hrs] at GH
   obtain ⟨s,hs⟩:∃ s,cst k j=s:=⟨_,rfl⟩
   rw [hs] at GH
   have rB:=rA.later hBI
   have hB:=bA.trans (hBI.mono bA.size)
   clear hI hS hE hfo hRA hq hrs hbk GT GM GZ GL HC HB HA FI CBn hRl rA bA hBI
   go_wp2_with fail
   refine G1.out.mono ?_
   rintro e w2 ⟨a3,c3,R3,rfl,b2,s3,E3,f3⟩
   go_wp2_with fail
   refine (G2.out _).mono ?_
   rintro e w3 ⟨p,p',rfl,n1,n2⟩
   have b3:=n1.below
   go_wp2_with fail
   refine (GH.out _ (b2.trans (b3.mono b2.size)) p p' n2.seg).mono ?_
   rintro e w4 ⟨x3,y3,rfl,b4,g1,g2⟩
   have b34:=b3.trans (b4.mono b3.size)
   replace s3:=s3.later b34
   have E4:Ents w4 R3:=fun p hp=>(E3 p hp).later b34
   have b24:=b2.trans (b34.mono b2.size)
   replace rB:=rB.later b24
   replace hB:=hB.trans (b24.mono hB.size)
   clear b2 b3 b4 b34 b24 n1 n2 G1 G2 GH E3
   have fz:=fun o=>rB.2.frozen o
   have z0:=rB.1.1
   have z1:=rB.1.2.1
   have z2:=rB.1.2.2.1
   have z3:=rB.1.2.2.2
   replace g1:=rB.seg (u0:=.slice a3 R3.length c3) (u1:=.bool (ng s.num)) (u2:=.slice x3 (ln (am s.num)) (ln (am s.num))) (u3:=.slice y3 (ln s.den) (ln s.den)) (by simp) (by simp) (by simp) (by simp) g1
   replace g2:=rB.seg (u0:=.slice a3 R3.length c3) (u1:=.bool (ng s.num)) (u2:=.slice x3 (ln (am s.num)) (ln (am s.num))) (u3:=.slice y3 (ln s.den) (ln s.den)) (by simp) (by simp) (by simp) (by simp) g2
   have s7:Sl _ a3 c3 R3:=⟨rB.fat (u0:=.slice a3 R3.length c3) (u1:=.bool (ng s.num)) (u2:=.slice x3 (ln (am s.num)) (ln (am s.num))) (u3:=.slice y3 (ln s.den) (ln s.den)) (by simp) (by simp) (by simp) (by simp) s3.lies,s3.len,s3.nn⟩
   have E7:Ents _ R3:=fun p hp=>rB.ok (u0:=.slice a3 R3.length c3) (u1:=.bool (ng s.num)) (u2:=.slice x3 (ln (am s.num)) (ln (am s.num))) (u3:=.slice y3 (ln s.den) (ln s.den)) (by simp) (by simp) (by simp) (by simp) (E4 p hp)
   replace hB:=below_set4 (u0:=.slice a3 R3.length c3) (u1:=.bool (ng s.num)) (u2:=.slice x3 (ln (am s.num)) (ln (am s.num))) (u3:=.slice y3 (ln s.den) (ln s.den)) hB (Nat.le_refl _)
   have rD:=rB.put (u0:=.slice a3 R3.length c3) (u1:=.bool (ng s.num)) (u2:=.slice x3 (ln (am s.num)) (ln (am s.num))) (u3:=.slice y3 (ln s.den) (ln s.den))
   clear rB s3 E4
   go_wp2
   obtain ⟨⟨v0,v1,v2,v3⟩,vR⟩:=rD
   refine bodyPost_ret (v:=.agg #[.slice a3 R3.length c3,.bool (ng s.num),.slice x3 (ln (am s.num)) (ln (am s.num)),.slice y3 (ln s.den) (ln s.den)]) (by rw [xQ5 rfl];go_simp) rfl ?_
   rw [←hTT.out,hs]
   exact ⟨a3,c3,R3,x3,y3,rfl,hB,s7,E7,f3,g1,g2⟩
def zeroV:RatV:=⟨false,none,0,0,0,none,0,0,0⟩
theorem zeroV_ok (w:World):zeroV.ok w:=⟨Seg.nil _ _,Nat.le_refl _,Nat.zero_le _,Seg.nil _ _,Nat.le_refl _,Nat.zero_le _⟩
def wtd (F:FV) (C:RatV):Wtd:=⟨F.a,F.c,F.L,zeroV,C⟩
def cells7 (W:Wtd):List Value:=[.slice W.a W.L.length W.c,.bool W.D.s,.slice W.D.a W.D.n W.D.c,.slice W.D.b W.D.m W.D.e,.bool W.C.s,.slice W.C.a W.C.n W.C.c,.slice W.C.b W.C.m W.C.e]
def cellsW (k:Nat→Wtd):Nat→List Value
 | 0=>[]
 | n+1=>cellsW k n ++ cells7 (k n)
theorem cellsW_length (k:Nat→Wtd):∀ n,(cellsW k n).length=n*7
 | 0=>rfl
 | n+1=>by simp only [cellsW,cells7,List.length_append,cellsW_length k n,List.length_cons,List.length_nil];omega
theorem cellsW_at (k:Nat→Wtd):∀ (n i j:Nat),i < n→j < 7→(cellsW k n)[i*7+j]?=(cells7 (k i))[j]?
 | 0,i,j,h,_=>absurd h (by omega)
 | n+1,i,j,h,hj=>by
  have hl:=cellsW_length k n
  simp only [cellsW]
  rcases Nat.lt_or_ge i n with h1 | h1
  ·rw [List.getElem?_append_left (by omega)]
   exact cellsW_at k n i j h1 hj
  ·obtain rfl:i=n:=by omega
   rw [List.getElem?_append_right (by omega),hl,show i*7+j - i*7=j by omega]
theorem cellsW_congr {k k':Nat→Wtd}:∀ (n:Nat),(∀ i,i < n→k i=k' i)→cellsW k n=cellsW k' n
 | 0,_=>rfl
 | n+1,h=>by simp only [cellsW];rw [cellsW_congr n fun i hi=>h i (by omega),h n (by omega)]
theorem own_wts {w:World} {base:Nat} {e:TypeId} {v:Value} {n:Nat} {k:Nat→Wtd} (h:w.ownsRow base e 7 v n (cellsW k n)):∃ a cap,v=.slice a n cap∧n≤cap∧WtsAt w a n k:=by
 rcases h.2 with ⟨rfl,rfl⟩ | ⟨g,cap,cur,rfl,hb,hg,hc,hm,_,_⟩
 ·exact ⟨none,0,rfl,Nat.le_refl _,fun h=>absurd h (by omega)⟩
 ·refine ⟨_,cap,rfl,hc,fun hn=>⟨g,0,rfl,(Array.getElem?_eq_some_iff.1 hg).1,fun i hi=>?_⟩⟩
  have key:∀ j,j < 7→w.cell? ⟨g,i*7+j,none⟩=(cells7 (k i))[j]?:=fun j hj=>by
   have k1:=h.cellAt (i*7+j) (by omega)
   rw [cellsW_at k n i j hi hj] at k1
   exact k1
  rw [Nat.zero_add]
  exact ⟨key 0 (by omega),key 1 (by omega),key 2 (by omega),key 3 (by omega),key 4 (by omega),key 5 (by omega),key 6 (by omega)⟩
theorem flat_congr {k k':Nat→Wtd}:∀ (n:Nat),(∀ i,i < n→k i=k' i)→flat k n=flat k' n
 | 0,_=>rfl
 | n+1,h=>by simp only [flat];rw [flat_congr n fun i hi=>h i (by omega),h n (by omega)]
theorem bulkW_congr {k k':Nat→Wtd}:∀ (n:Nat),(∀ i,i < n→k i=k' i)→bulkW k n=bulkW k' n
 | 0,_=>rfl
 | n+1,h=>by simp only [bulkW];rw [bulkW_congr n fun i hi=>h i (by omega),h n (by omega)]
def cost1 (g:Int→Option FV) (p:Mo):Nat:=(match g p.1 with | some F=>bulkL F.L | none=>4)+p.2.n+p.2.m+1
def costL (g:Int→Option FV):List Mo→Nat
 | []=>0
 | p :: L=>cost1 g p+costL g L
theorem costL_append (g:Int→Option FV):∀ (L M:List Mo),costL g (L ++ M)=costL g L+costL g M
 | [],M=>by simp [costL]
 | p :: L,M=>by simp only [List.cons_append,costL,costL_append g L M];omega
structure ExI (w1:World) (T:Tb) (g:Int→Option FV) (FL:List Mo) (j:Nat) (k:Nat→Wtd) (vo:Value) (wr:World):Prop where
 bel:Below w1.heap.size w1 wr
 own:wr.ownsRow w1.heap.size 104 7 vo j (cellsW k j)
 ok:∀ i,i < j→∃ (F:FV) (C:RatV),k i=wtd F C∧F.ok wr∧C.ok wr∧∀ b,vo.ownBlock=some b→F.off b∧C.off b
 flat:flat k j=exL T (fo (FL.take j))
 bulk:bulkW k j≤costL g (FL.take j)
theorem ExI.nil (w1:World) (T:Tb) (g:Int→Option FV) (FL:List Mo):ExI w1 T g FL 0 (fun _=>wtd default zeroV) (.slice none 0 0) w1:=⟨Below.refl _ _,World.ownsRow_nil _ _ _ _,fun i hi=>absurd hi (by omega),rfl,Nat.zero_le _⟩
theorem ExI.push {w1:World} {T:Tb} {g:Int→Option FV} {FL:List Mo} {j:Nat} {k:Nat→Wtd} {vo:Value} {wr wB w9:World} (h:ExI w1 T g FL j k vo wr) (hb:Below wr.heap.size wr wB) {p:Mo} (hp:FL[j]?=some p) {F:FV} (hF:F.ok wB) (hC:p.2.ok wB) (ho:∀ b,vo.ownBlock=some b→F.off b∧p.2.off b)
  (hfo:F.fo=gal T p.1) (hbk:bulkL F.L+p.2.n+p.2.m+1≤cost1 g p) {gb cap:Nat}
  (hown:w9.ownsRow w1.heap.size 104 7 (.slice (some ⟨gb,0,none⟩) (j+1) cap) (j+1) (cellsW k j ++ cells7 (wtd F p.2))) (hg:wB.grownBy w9 vo.ownBlock) (hat:vo.ownBlock=some gb∨gb=wB.heap.size) :
  ∃ k',ExI w1 T g FL (j+1) k' (.slice (some ⟨gb,0,none⟩) (j+1) cap) w9:=by
 obtain ⟨k',hk'⟩:∃ k':Nat→Wtd,k'=fun i=>if i < j then k i else wtd F p.2:=⟨_,rfl⟩
 have e1:∀ i,i < j→k' i=k i:=fun i hi=>by rw [hk'];exact if_pos hi
 have e2:k' j=wtd F p.2:=by rw [hk'];exact if_neg (by omega)
 have hlt:=fun b (hb:vo.ownBlock=some b)=>h.own.lt b hb
 have hall:∀ (G:FV) (C:RatV),G.ok wB→C.ok wB→(∀ b,vo.ownBlock=some b→G.off b∧C.off b)→G.ok w9∧C.ok w9∧∀ b,(Value.slice (some ⟨gb,0,none⟩) (j+1) cap).ownBlock=some b→G.off b∧C.off b:=by
  intro G C hG hC2 hGo
  refine ⟨hG.grown hg fun b e=>(hGo b e).1,hC2.grown hg fun b e=>(hGo b e).2,fun b hb2=>?_⟩
  have:gb=b:=by simpa [Value.ownBlock] using hb2
  subst this
  rcases hat with h | h
  ·exact hGo _ h
  ·exact ⟨hG.off (by omega),hC2.off (by omega)⟩
 refine ⟨k',h.bel.trans ((hb.mono h.bel.size).trans (xQ8 (Nat.le_trans h.bel.size hb.size) (fun b hb=>(hlt b hb).1) hg)),?_,fun i hi=>?_,?_,?_⟩
 ·simp only [cellsW]
  rw [cellsW_congr j e1,e2]
  exact hown
 ·rcases Nat.lt_or_ge i j with h1 | h1
  ·obtain ⟨G,C,a1,a2,a3,a4⟩:=h.ok i h1
   obtain ⟨b1,b2,b3⟩:=hall G C (a2.later hb) (a3.later hb) a4
   exact ⟨G,C,(e1 i h1).trans a1,b1,b2,b3⟩
  ·obtain rfl:i=j:=by omega
   obtain ⟨b1,b2,b3⟩:=hall F p.2 hF hC ho
   exact ⟨F,p.2,e2,b1,b2,b3⟩
 ·simp only [Go.Proofs.YtgfmaejhdbmkoaaGreat.flat]
  rw [flat_congr j e1,e2,h.flat,take_snoc hp,xZ1,exL_append]
  show _ ++ fmap (fun r=>p.2.val*r) F.fo=_ ++ exL T [(p.1,p.2.val)]
  rw [hfo]
  simp [exL]
 ·simp only [bulkW]
  rw [bulkW_congr j e1,e2,take_snoc hp,costL_append]
  have hb9:=h.bulk
  have h9:(wtd F p.2).bulk=bulkL F.L+p.2.n+p.2.m+1:=by unfold Wtd.bulk wtd zeroV;simp only;omega
  simp only [costL]
  omega
def ExA (w:World) (V:Int) (T:Tb) (f:Fo) (e:Ending) (w':World):Prop:=Below w.heap.size w w' ∧
 ((inV V f∧∃ F:FV,e=.returned (.tuple #[F.val,.int .i64 0])∧F.fo=exF T f∧F.nk w')∨(¬ inV V f∧e=.returned (.tuple #[.slice none 0 0,.int .i64 61])))
theorem gal_some {w:World} {g:Int→Option FV} {T:Tb} (h:RF w g T) {v:Int} {F:FV} (hv:g v=some F):F.fo=gal T v:=by
 obtain ⟨f,hf,e⟩:=h.hit hv
 unfold gal
 rw [hf,e]
 rfl
theorem gal_none {w:World} {g:Int→Option FV} {T:Tb} (h:RF w g T) {v:Int} (hv:g v=none):gal T v=[(v,1)]:=by
 unfold gal
 rw [h.miss.1 hv]
 rfl
theorem info_Wt:(Tryz.prog.info? 104).map (fun i=>(i.zero,i.size,i.bytes))=some (some (.agg #[.slice none 0 0,.bool false,.slice none 0 0,.slice none 0 0,.bool false,.slice none 0 0,.slice none 0 0]),7,136):=by kernel_rfl
theorem run_fieldA (v0 v1 v2 v3:Value) (w:World):(Instr.field 102 (.agg #[v0,v1,v2,v3]) 0).run Tryz.prog w=.ok v0 w:=by kernel_rfl
set_option maxHeartbeats 16000000 in
set_option maxRecDepth 100000 in
theorem pexpress_is (V:Int) (b n:Nat) (g:Int→Option FV) (T:Tb) (X:FV) (w:World) (hM:MapT w b n g) (hG:RF w g T) (hX:X.sm w) (hw:wfo X.fo) (hcost:∀ FL:List Mo,(∀ p∈FL,p.2.low)→fo FL=nfm X.fo→costL g FL≤2097152) :
  Calls Tryz.prog 47 #[.int .i64 V,.map (some b),X.val] w (ExA w V T X.fo):=by
 obtain ⟨i0,hi0,hz0,hz1,hz2⟩:=info_parts info_Wt
 obtain ⟨TQ,hTQ⟩:∃ TQ,ExA w V T X.fo=TQ:=⟨_,rfl⟩
 rw [hTQ]
 replace hTQ:=xQ1 hTQ
 have GN:=xQ1 (fun w' (hb:Below w.heap.size w w')=>lNorm_new X.a X.c X.L w' ((hX.later hb).ok.lies) ((hX.later hb).ok.nums) hX.ok.len hX.len (fun p hp=>by have:=bul_mem hp;have:=hX.b;omega) (thin_of (sm_wts hX)))
 have GI:=xQ1 (fun x w'=>isVar_is x V w')
 have GO:=xQ1 (fun x w'=>alone_is x w')
 have HM:=xQ1 hM
 have HG:=xQ1 hG
 have HC:=xQ1 hcost
 have HW:=xQ1 hw.nfm
 have hXl:=hX.len
 obtain ⟨Xa,Xc,XL⟩:=X
 unfold FV.val
 simp only at GN HC HW hXl hTQ ⊢
 have hf:=run_fieldA
 clear hM hG hX hw hcost
 go_enter Tryz.func47,Tryz.ntmps47
 go_wp2_with fail
 refine (GN.out w (Below.refl _ _)).mono ?_
 rintro e w1 ⟨fa,fc,FL,rfl,b1,s1,E1,f1,hnew0⟩
 clear GN hnew0
 have hFl:FL.length≤1048576:=by
  have h:=congrArg List.length f1
  have h2:=xJ0 (fo XL)
  rw [xX3] at h h2
  omega
 have HF1:=xQ1 (show fo FL=nfm (FV.fo ⟨Xa,Xc,XL⟩) from f1)
 have HCo:=xQ1 (HC.out FL (fun p hp=>(E1 p hp).low) f1)
 clear HC f1
 have hFat:=s1.lies
 have HE:=xQ1 E1
 clear E1
 have hFc:=s1.len
 clear s1
 go_wp2_with fail
 go_loopw [8,16] (fun vo vi wr=>∃ (j:Nat) (k:Nat→Wtd),j≤FL.length∧vi=.int .i64 j∧ExI w1 T g FL j k vo wr∧∀ i p,i < j→FL[i]?=some p→0≤p.1∧p.1 < V) (fun _ vi _=>FL.length - (intOf vi).toNat)
 case atStart=>exact ⟨0,_,Nat.zero_le _,rfl,ExI.nil _ _ _ _,fun i p hi=>absurd hi (by omega)⟩
 case round =>
  obtain ⟨j,k,hj,rfl,hI,hN⟩:=hrel
  have HN:=xQ1 hN
  have HI:=xQ1 hI
  clear hN
  have hB:=hI.bel
  have hBw:=b1.trans (hB.mono b1.size)
  by_cases hlt:j < FL.length
  ·obtain ⟨p,hp⟩:∃ p,FL[j]?=some p:=⟨FL[j],List.getElem?_eq_getElem hlt⟩
   have hpm:=List.mem_of_getElem? hp
   obtain ⟨bb,off,rfl,hbb,hcell⟩:=hFat (by intro e;rw [e] at hlt;simp at hlt)
   obtain ⟨d0,d1,d2,d3⟩:=hcell j p hp
   replace d0:=xQ0 hB d0
   replace d1:=xQ0 hB d1
   replace d2:=xQ0 hB d2
   replace d3:=xQ0 hB d3
   have hv:wfI p.1:=HW.out (p.1,p.2.val) (by rw [←HF1.out];exact List.mem_map.2 ⟨p,hpm,rfl⟩)
   have HBad:=xQ1 (fun (h:¬ (0≤p.1∧p.1 < V))=>show ¬ inV V (FV.fo ⟨Xa,Xc,XL⟩) from fun hin=>h (hin (p.1,p.2.val) (by rw [←HF1.out];exact List.mem_map.2 ⟨p,hpm,rfl⟩)))
   have HT:=xQ1 (fun (h:0≤p.1∧p.1 < V)=>show ∀ i q,i < j+1→FL[i]?=some q→0≤q.1∧q.1 < V from fun i q hi hq=>by
     by_cases e:i=j
     ·subst e;rw [hp] at hq;cases hq;exact h
     ·exact HN.out i q (by omega) hq)
   have hpo:p.2.ok w1:=(HE.out p hpm).ok
   have PU:=xQ1 (fun wB w9 (hb:Below wr.heap.size wr wB) (F:FV) hF hC ho hfo hbk gb cap hown hg hat=>hI.push (wB:=wB) (w9:=w9) (gb:=gb) (cap:=cap) hb hp (F:=F) hF hC ho hfo hbk hown hg hat)
   have HOf:=xQ1 (fun b (hb:u8.ownBlock=some b)=>show p.2.off b from hpo.off (hI.own.lt b hb).1)
   have HLt:=xQ1 (fun b (hb:u8.ownBlock=some b)=>hI.own.lt b hb)
   have HOw:=xQ1 hI.own
   have HPo:=xQ1 (fun w' (hb:Below w1.heap.size w1 w')=>hpo.later hb)
   have HCs:=xQ1 (show cost1 g p=(match g p.1 with | some F=>bulkL F.L | none=>4)+p.2.n+p.2.m+1 from rfl)
   have HMr:=xQ1 (HM.out.later hBw)
   obtain ⟨x,q⟩:=p
   simp only at d0 d1 d2 d3 hv HBad HT PU HOf HPo HCs
   have i1:(0:Int)≤(j:Int):=by omega
   have i2:(j:Int) < (FL.length:Int):=by omega
   have bA:=xQ2 (w:=wr) (.cells #[.int .i64 x,.bool q.s,.slice q.a q.n q.c,.slice q.b q.m q.e] 57)
   have m0:(wr.alloc (.cells #[.int .i64 x,.bool q.s,.slice q.a q.n q.c,.slice q.b q.m q.e] 57)).cell? ⟨wr.heap.size,0,none⟩=some (.int .i64 x):=by go_simp
   have m1:(wr.alloc (.cells #[.int .i64 x,.bool q.s,.slice q.a q.n q.c,.slice q.b q.m q.e] 57)).cell? ⟨wr.heap.size,1,none⟩=some (.bool q.s):=by go_simp
   have m2:(wr.alloc (.cells #[.int .i64 x,.bool q.s,.slice q.a q.n q.c,.slice q.b q.m q.e] 57)).cell? ⟨wr.heap.size,2,none⟩=some (.slice q.a q.n q.c):=by go_simp
   have m3:(wr.alloc (.cells #[.int .i64 x,.bool q.s,.slice q.a q.n q.c,.slice q.b q.m q.e] 57)).cell? ⟨wr.heap.size,3,none⟩=some (.slice q.b q.m q.e):=by go_simp
   obtain ⟨wA,hwA⟩:∃ wA,wr.alloc (.cells #[.int .i64 x,.bool q.s,.slice q.a q.n q.c,.slice q.b q.m q.e] 57)=wA:=⟨_,rfl⟩
   rw [hwA] at bA m0 m1 m2 m3
   have hMA:=HMr.out.later bA
   clear hcell hpm hp hpo hI HMr hFat
   have HD:=xQ1 (GI.out x wA)
   cases hd:(decide (0≤x) && decide (x < V)) with
   | false =>
    have HD2:=HD.out
    rw [hd] at HD2
    replace HD2:=xQ1 HD2
    have HZ:=xQ1 (show ∀ w',Below w.heap.size w w'→ExA w V T (FV.fo ⟨Xa,Xc,XL⟩) (.returned (.tuple #[.slice none 0 0,.int .i64 61])) w' from fun w' hb=>⟨hb,Or.inr ⟨HBad.out (fun h=>by simp [h.1,h.2] at hd),rfl⟩⟩)
    rw [hTQ.out] at HZ
    have hBz:=hBw.trans (bA.mono hBw.size)
    clear hd HD HBad HT PU
    go_wp2_with fail
    refine HD2.out.mono ?_
    rintro e w2 ⟨rfl,hw2⟩
    subst hw2
    go_wp2
    first | exact HZ.out _ hBz | (go_ret;exact HZ.out _ hBz) | (refine bodyPost_ret (v:=.tuple #[.slice none 0 0,.int .i64 61]) (by rw [results_tt rfl];go_simp) rfl ?_;exact HZ.out _ hBz)
   | true =>
    have HD2:=HD.out
    rw [hd] at HD2
    replace HD2:=xQ1 HD2
    have HB:=xQ1 (HT.out (by simp at hd;exact hd))
    clear hd HD HBad HT
    go_wp2_with fail
    refine HD2.out.mono ?_
    rintro e w2 ⟨rfl,hw2⟩
    subst hw2
    cases hg:g x with
    | none =>
     have hrr:=mapf_none hg
     have HGal:=xQ1 (gal_none HG.out hg)
     have hC1:=HCs.out
     rw [hg] at hC1
     simp only at hC1
     replace hC1:=xQ1 hC1
     clear hg HCs
     go_wp2_with (at_lookup;(try rw [hwA]);refine xZ3 _ rfl _ _ 40 true rfl xZ9 xZ7 (zeroF _) b n (mapf g) rfl hMA x rfl hv none hrr ?_)
     go_wp2_with fail
     refine (GO.out x _).mono ?_
     rintro e w5 ⟨⟨Fa,Fc,FF⟩,rfl,hfo,hnk,hfrm,b5,hb4,hl1⟩
     clear hl1
     have bT:Below wr.heap.size wr w5:=bA.trans (b5.mono bA.size)
     replace m1:=xQ0 b5 m1
     replace m2:=xQ0 b5 m2
     replace m3:=xQ0 b5 m3
     have HEx:=xQ1 (fun b (hb:u8.ownBlock=some b)=>hfrm.off (show b < w2.heap.size by have:=(HLt.out b hb).2;have:=bA.size;omega))
     have HNk:=xQ1 hnk
     have HFo:=xQ1 hfo
     have HB4:=xQ1 hb4
     clear hnk hfo hfrm hb4
     unfold FV.val
     simp only
     have hnew:=heap_alloc_new w5 (.cells #[.slice Fa FF.length Fc,.bool false,.slice none 0 0,.slice none 0 0,.bool q.s,.slice q.a q.n q.c,.slice q.b q.m q.e] 104)
     have bX:=xQ2 (w:=w5) (.cells #[.slice Fa FF.length Fc,.bool false,.slice none 0 0,.slice none 0 0,.bool q.s,.slice q.a q.n q.c,.slice q.b q.m q.e] 104)
     obtain ⟨wX,hwX⟩:∃ wX,w5.alloc (.cells #[.slice Fa FF.length Fc,.bool false,.slice none 0 0,.slice none 0 0,.bool q.s,.slice q.a q.n q.c,.slice q.b q.m q.e] 104)=wX:=⟨_,rfl⟩
     rw [hwX] at hnew bX
     have bT2:=bT.trans (bX.mono bT.size)
     have hO3:=xQ6 HOw.out bT2
     have s3:=bT2.size
     have s4:=hB.size
     have hbs:w1.heap.size≤wX.heap.size:=by omega
     have hbl:(j+1)*136≤140737488355328:=by omega
     have hkm:j+1≤maxLen:=by simp only [maxLen];omega
     have PF:=xQ1 (fun w9 gb cap hown hg hat=>PU.out wX w9 bT2 ⟨Fa,Fc,FF⟩ (HNk.out.ok.later bX) (HPo.out _ (hB.trans (bT2.mono hB.size))) (fun b hb=>⟨HEx.out b hb,HOf.out b hb⟩) (by rw [HGal.out];exact HFo.out) (by rw [hC1.out];have h4:bulkL FF=4:=HB4.out;show bulkL FF+q.n+q.m+1≤4+q.n+q.m+1;omega) gb cap hown hg hat)
     go_wp2_with (at_builtin;(try rw [hwX]);refine wpList_append_lies _ (by rfl) _ _ _ (by rfl) w1.heap.size 104 i0 _ 7 136 Tryz.underlying99 hi0 hz0 hz1 hz2 rfl (by omega) u8 j (cellsW k j) (by rfl) hO3 ⟨w5.heap.size,0,none⟩ 1 1 [.slice Fa FF.length Fc,.bool false,.slice none 0 0,.slice none 0 0,.bool q.s,.slice q.a q.n q.c,.slice q.b q.m q.e] (by rfl) (by rfl) (World.news_of_block (cs:=#[.slice Fa FF.length Fc,.bool false,.slice none 0 0,.slice none 0 0,.bool q.s,.slice q.a q.n q.c,.slice q.b q.m q.e]) (t:=104) (fr:=(0,0)) hnew) (by simp [Value.oneCell']) (by omega) hkm hbl hbs wX.heap.size rfl ?_;intro gb cap w9 hown4 hgrow hat hlt4;obtain ⟨k',hk'⟩:=PF.out w9 gb cap hown4 hgrow hat;have KI:=xQ1 hk';clear hk' hown4 hgrow hat hlt4 PF hO3 hnew)
     try go_roundw
     case rel=>exact ⟨j+1,k',by omega,by go_num,KI.out,HB.out⟩
     case measure=>simp only [intOf];omega
    | some G =>
     have hrr:=mapf_some hg
     have HGal:=xQ1 (gal_some HG.out hg)
     have hC1:=HCs.out
     rw [hg] at hC1
     simp only at hC1
     replace hC1:=xQ1 hC1
     have HNk:=xQ1 ((HG.out.nk x G hg).later hBw)
     have HEx:=xQ1 (fun b (hb:u8.ownBlock=some b)=>(HG.out.nk x G hg).ok.off (show w.heap.size≤b by have:=(HLt.out b hb).1;have:=b1.size;omega))
     clear hg HCs
     obtain ⟨Fa,Fc,FF⟩:=G
     unfold FV.val at hrr
     simp only at hrr
     have bT:=bA
     have hnew:=heap_alloc_new w2 (.cells #[.slice Fa FF.length Fc,.bool false,.slice none 0 0,.slice none 0 0,.bool q.s,.slice q.a q.n q.c,.slice q.b q.m q.e] 104)
     have bX:=xQ2 (w:=w2) (.cells #[.slice Fa FF.length Fc,.bool false,.slice none 0 0,.slice none 0 0,.bool q.s,.slice q.a q.n q.c,.slice q.b q.m q.e] 104)
     obtain ⟨wX,hwX⟩:∃ wX,w2.alloc (.cells #[.slice Fa FF.length Fc,.bool false,.slice none 0 0,.slice none 0 0,.bool q.s,.slice q.a q.n q.c,.slice q.b q.m q.e] 104)=wX:=⟨_,rfl⟩
     rw [hwX] at hnew bX
     have bT2:=bT.trans (bX.mono bT.size)
     have hO3:=xQ6 HOw.out bT2
     have s3:=bT2.size
     have s4:=hB.size
     have hbs:w1.heap.size≤wX.heap.size:=by omega
     have hbl:(j+1)*136≤140737488355328:=by omega
     have hkm:j+1≤maxLen:=by simp only [maxLen];omega
     have PF:=xQ1 (fun w9 gb cap hown hg hat=>PU.out wX w9 bT2 ⟨Fa,Fc,FF⟩ ((HNk.out.later bA).ok.later bX) (HPo.out _ (hB.trans (bT2.mono hB.size))) (fun b hb=>⟨HEx.out b hb,HOf.out b hb⟩) HGal.out (by rw [hC1.out];exact Nat.le_refl _) gb cap hown hg hat)
     go_wp2_with (first | (at_lookup;(try rw [hwA]);refine xZ3 _ rfl _ _ 40 true rfl xZ9 xZ7 (zeroF _) b n (mapf g) rfl hMA x rfl hv (some (.slice Fa FF.length Fc)) hrr ?_) | (at_builtin;(try rw [hwX]);refine wpList_append_lies _ (by rfl) _ _ _ (by rfl) w1.heap.size 104 i0 _ 7 136 Tryz.underlying99 hi0 hz0 hz1 hz2 rfl (by omega) u8 j (cellsW k j) (by rfl) hO3 ⟨w2.heap.size,0,none⟩ 1 1 [.slice Fa FF.length Fc,.bool false,.slice none 0 0,.slice none 0 0,.bool q.s,.slice q.a q.n q.c,.slice q.b q.m q.e] (by rfl) (by rfl) (World.news_of_block (cs:=#[.slice Fa FF.length Fc,.bool false,.slice none 0 0,.slice none 0 0,.bool q.s,.slice q.a q.n q.c,.slice q.b q.m q.e]) (t:=104) (fr:=(0,0)) hnew) (by simp [Value.oneCell']) (by omega) hkm hbl hbs wX.heap.size rfl ?_;intro gb cap w9 hown4 hgrow hat hlt4;obtain ⟨k',hk'⟩:=PF.out w9 gb cap hown4 hgrow hat;have KI:=xQ1 hk';clear hk' hown4 hgrow hat hlt4 PF hO3 hnew))
     try go_roundw
     case rel=>exact ⟨j+1,k',by omega,by go_num,KI.out,HB.out⟩
     case measure=>simp only [intOf];omega
  ·obtain rfl:j=FL.length:=by omega
   have i2:¬ (FL.length:Int) < (FL.length:Int):=by omega
   obtain ⟨aw,cw,rfl,hcw,hWA⟩:=own_wts hI.own
   have hfl:=hI.flat
   have hbk:=hI.bulk
   rw [List.take_length] at hfl hbk
   have HIn:=xQ1 (show inV V (FV.fo ⟨Xa,Xc,XL⟩) from fun p hp=>by
     rw [←HF1.out] at hp
     obtain ⟨s,hs,rfl⟩:=List.mem_map.1 hp
     obtain ⟨i,hi,rfl⟩:=List.mem_iff_getElem.1 hs
     exact HN.out i _ hi (List.getElem?_eq_getElem hi))
   have GCm:=xQ1 (lCombine_is aw FL.length cw k wr hWA (fun i hi=>by
     obtain ⟨F,C,e,a1,a2,_⟩:=hI.ok i hi
     rw [e]
     exact ⟨a1.lies,a1.nums,a1.len,zeroV_ok _,a2⟩) hcw (Nat.le_trans hbk HCo.out))
   have HFl:=xQ1 (show nfm (flat k FL.length)=exF T (FV.fo ⟨Xa,Xc,XL⟩) by unfold exF;rw [hfl,HF1.out])
   obtain ⟨cc,hcc⟩:∃ cc,cst k FL.length=cc:=⟨_,rfl⟩
   rw [HFl.out,hcc] at GCm
   clear hcc hfl hbk hWA hI HI HN HE GI GO HM HG HCo HW HF1
   go_wp2_with fail
   refine GCm.out.mono ?_
   rintro e w9 ⟨ra,rc,RR,pp,qq,rfl,b9,s9,E9,f9,_,_⟩
   have HX:=xQ1 (show ExA w V T (FV.fo ⟨Xa,Xc,XL⟩) (.returned (.tuple #[.slice ra RR.length rc,.int .i64 0])) w9 from ⟨hBw.trans (b9.mono hBw.size),Or.inl ⟨HIn.out,⟨ra,rc,RR⟩,rfl,f9,s9,E9⟩⟩)
   rw [hTQ.out] at HX
   clear b9 s9 E9 f9 GCm HFl HIn
   go_wp2
   first | exact HX.out | (go_ret;exact HX.out) | (refine bodyPost_ret (v:=.tuple #[.slice ra RR.length rc,.int .i64 0]) (by rw [results_tt rfl];go_simp) rfl ?_;exact HX.out)
end Go.Proofs.YtgfmaejhdbmkoaaGreat
