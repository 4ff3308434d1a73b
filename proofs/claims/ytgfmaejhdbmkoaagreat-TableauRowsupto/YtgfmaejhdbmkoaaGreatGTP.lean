import Derived.Test.YtgfmaejhdbmkoaaGreatGTI
import Derived.Test.YtgfmaejhdbmkoaaGreatWN11
import Derived.Test.YtgfmaejhdbmkoaaGreatWO5
import Derived.Test.YtgfmaejhdbmkoaaGreatWN9
import Derived.Test.YtgfmaejhdbmkoaaGreatWQ9
import Derived.Test.YtgfmaejhdbmkoaaGreatWN21
import Derived.Test.YtgfmaejhdbmkoaaGreatWO7
import Derived.Test.YtgfmaejhdbmkoaaGreatGTF
import Derived.Test.YtgfmaejhdbmkoaaGreatWN17
set_option linter.unusedSimpArgs false
namespace Go.Proofs.YtgfmaejhdbmkoaaGreat
open Go.RowKit
set_option linter.unusedVariables false
theorem new7 (w:World) (cs:Array Value) (t:TypeId):(w.alloc (.cells cs t)).heap[w.heap.size]?=some (.cells cs t (0,0)):=World.alloc_heap_new w _
theorem row_nk {w:World} {b:Nat} {x:Int} {F:FV} (h:TAt w (some ⟨b,0,none⟩) [(x,F)]) (hF:F.nk w) (hx:wfI x):TNk w (some ⟨b,0,none⟩) [(x,F)] :=
 ⟨h,fun r hr=>by obtain rfl:=List.mem_singleton.1 hr;exact hF,fun r hr=>by obtain rfl:=List.mem_singleton.1 hr;exact hx⟩
theorem short_S {S:List RowV} (h:tb S=[(2,[(0,1),(1,1)])]):∀ r∈S,r.2.L.length≤2097152:=fun r hr=>by
 have h1:(r.1,r.2.fo)∈tb S:=List.mem_map.2 ⟨r,hr,rfl⟩
 rw [h] at h1
 simp at h1
 have h2:=congrArg List.length h1.2
 unfold FV.fo at h2
 rw [xX3] at h2
 simp at h2
 omega
set_option maxHeartbeats 16000000 in
set_option maxRecDepth 100000 in
theorem lives_is (w:World):Calls Tryz.prog 15 #[] w fun e w'=>e=.returned (.bool true)∧Below w.heap.size w w':=by
 have GN:=xQ1 (fun w'=>pNew_is 2 w')
 rw [show newV 2=2 from rfl,show newE 2=0 from rfl] at GN
 have GM:=xQ1 (fun v w'=>mono1_is v w')
 have GD:=xQ1 (fun w' b P Q B C (h:FAt w' (some ⟨b,0,none⟩) [(1,P),(0,Q)]) (hP:OneQ w' B P) (hQ:OneQ w' C Q)=>define2_is h hP hQ)
 have GA:=xQ1 (fun w' a c (S:List RowV) (hS:TNk w' a S) (hc:S.length≤c) (h1:S.length≤1) (hs:tb S=[(2,[(0,1),(1,1)])]) b F (hR:TNk w' (some ⟨b,0,none⟩) [(2,F)]) (hf:F.fo=[(0,1),(1,1)])=>alike_is 3 a c S (some ⟨b,0,none⟩) 1 [(2,F)] w' hS hR hc (Nat.le_refl _) (by omega) (short_S hs) (by rw [hs];show _=[((2:Int),F.fo)];rw [hf]))
 go_enter Tryz.func15,Tryz.ntmps15
 go_wp2_with fail
 refine (GN.out w).mono ?_
 rintro e w1 ⟨rfl,b1⟩
 clear GN
 have bA:=xQ2 (w:=w1) (.cells #[.int .i64 2,.slice none 0 0] 24)
 have kb:=Bk2.new w1 2 none 0 0 24
 have hBw:=b1.trans (bA.mono b1.size)
 have hrb:=b1.size
 clear b1 bA
 go_wp2_with fail
 obtain ⟨wA,hwA⟩:∃ wA,w1.alloc (.cells #[.int .i64 2,.slice none 0 0] 24)=wA:=⟨_,rfl⟩
 rw [hwA] at kb hBw ⊢
 clear hwA
 obtain ⟨rb,hr⟩:∃ rb,w1.heap.size=rb:=⟨_,rfl⟩
 rw [hr] at kb hrb ⊢
 clear hr
 try go_wp2_with fail
 have bD:Below wA.heap.size wA wA.drew:=(Below.refl _ _).drew
 replace hBw:=hBw.trans (bD.mono hBw.size)
 replace kb:=kb.later bD
 refine wp_region_held_drew (S:=fun w'=>True) (by kernel_rfl) trivial (fun hHeld=>?_)
 generalize wA.drew=w4 at bD kb hBw hHeld ⊢
 clear bD
 refine wpAnyH_ready (rs:=[0,1]) (by kernel_rfl) (by simp) ?_
 refine consT rfl (fun KK hKK=>?_) ?_
 ·skip
  have z0:=kb.cell0
  have z1:=kb.cell1
  go_simp
  clear z0 z1
  refine hKK.out _ _ hHeld ?_
  clear hHeld
  intro hHeld
  clear hKK KK
  try simp only [pA]
  refine wpAnyH_ready (rs:=[1]) (by kernel_rfl) (by simp) ?_
  refine xX0 rfl (fun KK hKK=>?_)
  go_simp
  refine (GM.out 1 _).mono ?_
  rintro e w5 ⟨P,rfl,qP,bN⟩
  have bC:=bN
  replace hBw:=hBw.trans (bC.mono hBw.size)
  replace kb:=kb.later bC
  clear bC
  go_wp2_with fail
  clear bN
  refine hKK.out _ _ hHeld ?_
  clear hHeld
  intro hHeld
  clear hKK KK
  try simp only [pA]
  refine wpAnyH_ready (rs:=[2]) (by kernel_rfl) (by simp) ?_
  refine xX0 rfl (fun KK hKK=>?_)
  go_simp
  refine (GM.out 0 _).mono ?_
  rintro e w6 ⟨Q,rfl,qQ,bN⟩
  have bC:=bN
  replace hBw:=hBw.trans (bC.mono hBw.size)
  replace kb:=kb.later bC
  replace qP:=qP.later bC
  clear bC
  go_wp2_with fail
  clear bN
  refine hKK.out _ _ hHeld ?_
  clear hHeld
  intro hHeld
  clear hKK KK
  try simp only [pA]
  refine wpAnyH_ready (rs:=[3]) (by kernel_rfl) (by simp) ?_
  refine xX0 rfl (fun KK hKK=>?_)
  go_simp
  have hat:=two_at (new7 w6 #[.int .i64 1,.bool P.s,.slice P.a P.n P.c,.slice P.b P.m P.e,.int .i64 0,.bool Q.s,.slice Q.a Q.n Q.c,.slice Q.b Q.m Q.e] 57)
  have b3:=xQ2 (w:=w6) (.cells #[.int .i64 1,.bool P.s,.slice P.a P.n P.c,.slice P.b P.m P.e,.int .i64 0,.bool Q.s,.slice Q.a Q.n Q.c,.slice Q.b Q.m Q.e] 57)
  generalize w6.alloc (.cells #[.int .i64 1,.bool P.s,.slice P.a P.n P.c,.slice P.b P.m P.e,.int .i64 0,.bool Q.s,.slice Q.a Q.n Q.c,.slice Q.b Q.m Q.e] 57)=w7 at hat b3 ⊢
  replace hBw:=hBw.trans (b3.mono hBw.size)
  replace kb:=kb.later b3
  replace qP:=qP.later b3
  replace qQ:=qQ.later b3
  clear b3
  refine hKK.out _ _ hHeld ?_
  clear hHeld
  intro hHeld
  clear hKK KK
  try simp only [pA]
  refine wpAnyH_ready (rs:=[4]) (by kernel_rfl) (by simp) ?_
  refine xX0 rfl (fun KK hKK=>?_)
  have h7:=kb.lt
  go_simp
  refine (GD.out _ _ _ _ _ _ hat qP qQ).mono ?_
  rintro e w8 ⟨a,c,S,rfl,hn,hc,h1,hs,b8,hf⟩
  have bC:=b8
  replace hBw:=hBw.trans (bC.mono hBw.size)
  replace kb:=kb.later bC
  replace qP:=qP.later bC
  replace qQ:=qQ.later bC
  replace hat:=hat.later bC
  clear bC
  go_wp2_with fail
  have hne:∀ ad,a=some ad→S≠[]→ad.block≠rb:=fun ad e h=>by have h2:=hf ad e h;omega
  clear b8 h7 hf hat qP qQ GD
  refine hKK.out _ _ hHeld ?_
  clear hHeld
  intro hHeld
  clear hKK KK
  try simp only [pA]
  refine tk 5 (v:=?_) rfl (Or.inl ⟨by rfl,?_⟩) ?_
  rotate_left
  ·intro w9 hSw
   go_simp
   try with_reducible rfl
  simp only [pA]
  refine tk 6 (v:=?_) rfl (Or.inl ⟨by rfl,?_⟩) ?_
  rotate_left
  ·intro w9 hSw
   go_simp
   try with_reducible rfl
  simp only [pA]
  refine tk 7 (v:=?_) rfl (Or.inl ⟨by rfl,?_⟩) ?_
  rotate_left
  ·intro w9 hSw
   go_simp
   try with_reducible rfl
  simp only [pA]
  refine tk 8 (v:=?_) rfl (Or.inl ⟨by rfl,?_⟩) ?_
  rotate_left
  ·intro w9 hSw
   go_simp
   try with_reducible rfl
  simp only [pA]
  refine wpAnyH_ready (rs:=[9]) (by kernel_rfl) (by simp) ?_
  refine xX0 rfl (fun KK hKK=>?_)
  have z0:=kb.cell0
  have z1:=kb.cell1
  have fz:=fun o=>kb.row.frozen o
  have hy0:((w8.setCell ⟨rb,0,none⟩ (.int .i64 3)).setCell ⟨rb,1,none⟩ (.slice a S.length c)).cell? ⟨rb,0,none⟩=some (.int .i64 3):=(World.cell?_setCell_other _ _ _ _ (fun e=>by simp at e)).trans (World.cell?_setCell_same _ _ _ z0)
  have hy1:((w8.setCell ⟨rb,0,none⟩ (.int .i64 3)).setCell ⟨rb,1,none⟩ (.slice a S.length c)).cell? ⟨rb,1,none⟩=some (.slice a S.length c):=World.cell?_setCell_same _ _ _ ((World.cell?_setCell_other _ _ _ _ (fun e=>by simp at e)).trans z1)
  replace hn:TNk ((w8.setCell ⟨rb,0,none⟩ (.int .i64 3)).setCell ⟨rb,1,none⟩ (.slice a S.length c)) a S:=(hn.set kb hne).set (kb.set (b:=none) (k:=0) (l:=0)) hne
  replace hBw:Below w.heap.size w ((w8.setCell ⟨rb,0,none⟩ (.int .i64 3)).setCell ⟨rb,1,none⟩ (.slice a S.length c)):=(hBw.setCell hrb _).setCell hrb _
  clear kb hne
  go_simp
  refine hKK.out _ _ hHeld ?_
  clear hHeld
  intro hHeld
  clear hKK KK
  try simp only [pA]
  clear z0 z1 fz
  generalize ((w8.setCell ⟨rb,0,none⟩ (.int .i64 3)).setCell ⟨rb,1,none⟩ (.slice a S.length c))=w9 at hy0 hy1 hn hBw ⊢
  refine tk 10 (v:=?_) rfl (Or.inl ⟨by rfl,?_⟩) ?_
  rotate_left
  ·intro w9 hSw
   go_simp
   try with_reducible rfl
  simp only [pA]
  refine tk 11 (v:=?_) rfl (Or.inl ⟨by rfl,?_⟩) ?_
  rotate_left
  ·intro w9 hSw
   go_simp
   try with_reducible rfl
  simp only [pA]
  refine wpAnyH_done (by kernel_rfl) ?_ _
  try clear hHeld
  go_wp2_with fail
  have bD:Below w9.heap.size w9 w9.drew:=(Below.refl _ _).drew
  have khy0:=xQ0 bD hy0
  have khy1:=xQ0 bD hy1
  replace hBw:=hBw.trans (bD.mono hBw.size)
  replace hn:=hn.later bD
  refine wp_region_held_drew (S:=fun w'=>w'.cell? ⟨rb,0,none⟩=some (.int .i64 3)∧w'.cell? ⟨rb,1,none⟩=some (.slice a S.length c)) (by kernel_rfl) ⟨khy0,khy1⟩ (fun hHeld=>?_)
  clear khy0 khy1
  generalize w9.drew=v4 at bD hn hBw hHeld ⊢
  clear bD hy0 hy1
  refine tk 0 (v:=?_) rfl (Or.inl ⟨by rfl,?_⟩) ?_
  rotate_left
  ·intro w9 hSw
   go_simp
   try with_reducible rfl
  simp only [pA]
  refine tk 1 (v:=?_) rfl (Or.inl ⟨by rfl,?_⟩) ?_
  rotate_left
  ·intro w9 hSw
   go_simp
   try with_reducible rfl
  simp only [pA]
  refine tk 2 (v:=?_) rfl (Or.inl ⟨by rfl,?_⟩) ?_
  rotate_left
  ·intro w9 hSw
   go_simp
   try with_reducible rfl
  simp only [pA]
  refine tk 3 (v:=?_) rfl (Or.inl ⟨by rfl,?_⟩) ?_
  rotate_left
  ·intro w9 hSw
   go_simp
   try with_reducible rfl
  simp only [pA]
  refine tk 4 (v:=?_) rfl (Or.inl ⟨by rfl,?_⟩) ?_
  rotate_left
  ·intro w9 hSw
   go_simp
   try with_reducible rfl
  simp only [pA]
  refine tk 5 (v:=?_) rfl (Or.inl ⟨by rfl,?_⟩) ?_
  rotate_left
  ·intro w9 hSw
   go_simp
   try with_reducible rfl
  simp only [pA]
  refine tk 6 (v:=?_) rfl (Or.inl ⟨by rfl,?_⟩) ?_
  rotate_left
  ·intro w9 hSw
   go_simp
   try with_reducible rfl
  simp only [pA]
  refine tk 7 (v:=?_) rfl (Or.inl ⟨by rfl,?_⟩) ?_
  rotate_left
  ·intro w9 hSw
   go_simp
   try with_reducible rfl
  simp only [pA]
  refine wpAnyH_ready (rs:=[8]) (by kernel_rfl) (by simp) ?_
  refine xX0 rfl (fun KK hKK=>?_)
  go_simp
  refine (GM.out 0 _).mono ?_
  rintro e v5 ⟨P,rfl,qP,bN⟩
  have bC:=bN
  replace hBw:=hBw.trans (bC.mono hBw.size)
  replace hn:=hn.later bC
  replace hHeld:=(⟨xQ0 bC hHeld.1,xQ0 bC hHeld.2⟩:_∧_)
  clear bC
  go_wp2_with fail
  clear bN
  refine hKK.out _ _ hHeld ?_
  clear hHeld
  intro hHeld
  clear hKK KK
  try simp only [pA]
  refine wpAnyH_ready (rs:=[9]) (by kernel_rfl) (by simp) ?_
  refine xX0 rfl (fun KK hKK=>?_)
  go_simp
  refine (GM.out 1 _).mono ?_
  rintro e v6 ⟨Q,rfl,qQ,bN⟩
  have bC:=bN
  replace hBw:=hBw.trans (bC.mono hBw.size)
  replace hn:=hn.later bC
  replace qP:=qP.later bC
  replace hHeld:=(⟨xQ0 bC hHeld.1,xQ0 bC hHeld.2⟩:_∧_)
  clear bC
  go_wp2_with fail
  clear bN
  refine hKK.out _ _ hHeld ?_
  clear hHeld
  intro hHeld
  clear hKK KK
  try simp only [pA]
  refine wpAnyH_ready (rs:=[10]) (by kernel_rfl) (by simp) ?_
  refine xX0 rfl (fun KK hKK=>?_)
  go_simp
  have hat:=two_at (new7 v6 #[.int .i64 0,.bool P.s,.slice P.a P.n P.c,.slice P.b P.m P.e,.int .i64 1,.bool Q.s,.slice Q.a Q.n Q.c,.slice Q.b Q.m Q.e] 57)
  have b3:=xQ2 (w:=v6) (.cells #[.int .i64 0,.bool P.s,.slice P.a P.n P.c,.slice P.b P.m P.e,.int .i64 1,.bool Q.s,.slice Q.a Q.n Q.c,.slice Q.b Q.m Q.e] 57)
  generalize v6.alloc (.cells #[.int .i64 0,.bool P.s,.slice P.a P.n P.c,.slice P.b P.m P.e,.int .i64 1,.bool Q.s,.slice Q.a Q.n Q.c,.slice Q.b Q.m Q.e] 57)=v7 at hat b3 ⊢
  replace hBw:=hBw.trans (b3.mono hBw.size)
  replace hn:=hn.later b3
  replace qP:=qP.later b3
  replace qQ:=qQ.later b3
  replace hHeld:=(⟨xQ0 b3 hHeld.1,xQ0 b3 hHeld.2⟩:_∧_)
  clear b3
  refine hKK.out _ _ hHeld ?_
  clear hHeld
  intro hHeld
  clear hKK KK
  try simp only [pA]
  have hFk:=two_nk hat qP qQ
  have hFo:=two_fo (b:=v6.heap.size) (x:=0) (y:=1) qP qQ
  clear hat qP qQ
  refine tk 11 (v:=?_) rfl (Or.inl ⟨by rfl,?_⟩) ?_
  rotate_left
  ·intro w9 hSw
   go_simp
   try with_reducible rfl
  simp only [pA]
  refine wpAnyH_ready (rs:=[12]) (by kernel_rfl) (by simp) ?_
  refine xX0 rfl (fun KK hKK=>?_)
  go_simp
  have hrw:TAt _ (some ⟨v7.heap.size,0,none⟩) [((2:Int),(⟨some ⟨v6.heap.size,0,none⟩,2,[(0,P),(1,Q)]⟩:FV))]:=row_at (new7 v7 #[.int .i64 2,.slice (some ⟨v6.heap.size,0,none⟩) 2 2] 46)
  have b3:=xQ2 (w:=v7) (.cells #[.int .i64 2,.slice (some ⟨v6.heap.size,0,none⟩) 2 2] 46)
  generalize v7.alloc (.cells #[.int .i64 2,.slice (some ⟨v6.heap.size,0,none⟩) 2 2] 46)=v8 at hrw b3 ⊢
  replace hBw:=hBw.trans (b3.mono hBw.size)
  replace hn:=hn.later b3
  replace hFk:=hFk.later b3
  replace hHeld:=(⟨xQ0 b3 hHeld.1,xQ0 b3 hHeld.2⟩:_∧_)
  clear b3
  refine hKK.out _ _ hHeld ?_
  clear hHeld
  intro hHeld
  clear hKK KK
  try simp only [pA]
  have hRk:=row_nk hrw hFk (wfI_of (by omega) (by omega))
  clear hrw hFk
  refine tk 13 (v:=?_) rfl (Or.inl ⟨by rfl,?_⟩) ?_
  rotate_left
  ·intro w9 hSw
   go_simp
   try with_reducible rfl
  simp only [pA]
  refine wpAnyH_ready (rs:=[14]) (by kernel_rfl) (by simp) ?_
  refine xX0 rfl (fun KK hKK=>?_)
  go_simp
  refine (GA.out _ a c S hn hc h1 hs _ _ hRk hFo).mono ?_
  rintro e v9 ⟨rfl,b9⟩
  have bC:=b9
  replace hBw:=hBw.trans (bC.mono hBw.size)
  replace hn:=hn.later bC
  replace hRk:=hRk.later bC
  replace hHeld:=(⟨xQ0 bC hHeld.1,xQ0 bC hHeld.2⟩:_∧_)
  clear bC
  go_wp2_with fail
  clear b9
  refine hKK.out _ _ hHeld ?_
  clear hHeld
  intro hHeld
  clear hKK KK
  try simp only [pA]
  refine tk 15 (v:=?_) rfl (Or.inl ⟨by rfl,?_⟩) ?_
  rotate_left
  ·intro w9 hSw
   go_simp
   try with_reducible rfl
  simp only [pA]
  refine tk 16 (v:=?_) rfl (Or.inl ⟨by rfl,?_⟩) ?_
  rotate_left
  ·intro w9 hSw
   go_simp
   try with_reducible rfl
  simp only [pA]
  refine wpAnyH_done (by kernel_rfl) ?_ _
  go_wp2
  first | exact ⟨rfl,hBw⟩ | (go_ret;exact ⟨rfl,hBw⟩)
 refine consT rfl (fun KK hKK=>?_) ?_
 ·skip
  go_simp
  refine (GM.out 1 _).mono ?_
  rintro e w5 ⟨P,rfl,qP,bN⟩
  have bC:=bN
  replace hBw:=hBw.trans (bC.mono hBw.size)
  replace kb:=kb.later bC
  clear bC
  go_wp2_with fail
  clear bN
  refine hKK.out _ _ hHeld ?_
  clear hHeld
  intro hHeld
  clear hKK KK
  try simp only [pA]
  refine wpAnyH_ready (rs:=[0,2]) (by kernel_rfl) (by simp) ?_
  refine consT rfl (fun KK hKK=>?_) ?_
  ·skip
   have z0:=kb.cell0
   have z1:=kb.cell1
   go_simp
   clear z0 z1
   refine hKK.out _ _ hHeld ?_
   clear hHeld
   intro hHeld
   clear hKK KK
   try simp only [pA]
   refine wpAnyH_ready (rs:=[2]) (by kernel_rfl) (by simp) ?_
   refine xX0 rfl (fun KK hKK=>?_)
   go_simp
   refine (GM.out 0 _).mono ?_
   rintro e w6 ⟨Q,rfl,qQ,bN⟩
   have bC:=bN
   replace hBw:=hBw.trans (bC.mono hBw.size)
   replace kb:=kb.later bC
   replace qP:=qP.later bC
   clear bC
   go_wp2_with fail
   clear bN
   refine hKK.out _ _ hHeld ?_
   clear hHeld
   intro hHeld
   clear hKK KK
   try simp only [pA]
   refine wpAnyH_ready (rs:=[3]) (by kernel_rfl) (by simp) ?_
   refine xX0 rfl (fun KK hKK=>?_)
   go_simp
   have hat:=two_at (new7 w6 #[.int .i64 1,.bool P.s,.slice P.a P.n P.c,.slice P.b P.m P.e,.int .i64 0,.bool Q.s,.slice Q.a Q.n Q.c,.slice Q.b Q.m Q.e] 57)
   have b3:=xQ2 (w:=w6) (.cells #[.int .i64 1,.bool P.s,.slice P.a P.n P.c,.slice P.b P.m P.e,.int .i64 0,.bool Q.s,.slice Q.a Q.n Q.c,.slice Q.b Q.m Q.e] 57)
   generalize w6.alloc (.cells #[.int .i64 1,.bool P.s,.slice P.a P.n P.c,.slice P.b P.m P.e,.int .i64 0,.bool Q.s,.slice Q.a Q.n Q.c,.slice Q.b Q.m Q.e] 57)=w7 at hat b3 ⊢
   replace hBw:=hBw.trans (b3.mono hBw.size)
   replace kb:=kb.later b3
   replace qP:=qP.later b3
   replace qQ:=qQ.later b3
   clear b3
   refine hKK.out _ _ hHeld ?_
   clear hHeld
   intro hHeld
   clear hKK KK
   try simp only [pA]
   refine wpAnyH_ready (rs:=[4]) (by kernel_rfl) (by simp) ?_
   refine xX0 rfl (fun KK hKK=>?_)
   have h7:=kb.lt
   go_simp
   refine (GD.out _ _ _ _ _ _ hat qP qQ).mono ?_
   rintro e w8 ⟨a,c,S,rfl,hn,hc,h1,hs,b8,hf⟩
   have bC:=b8
   replace hBw:=hBw.trans (bC.mono hBw.size)
   replace kb:=kb.later bC
   replace qP:=qP.later bC
   replace qQ:=qQ.later bC
   replace hat:=hat.later bC
   clear bC
   go_wp2_with fail
   have hne:∀ ad,a=some ad→S≠[]→ad.block≠rb:=fun ad e h=>by have h2:=hf ad e h;omega
   clear b8 h7 hf hat qP qQ GD
   refine hKK.out _ _ hHeld ?_
   clear hHeld
   intro hHeld
   clear hKK KK
   try simp only [pA]
   refine tk 5 (v:=?_) rfl (Or.inl ⟨by rfl,?_⟩) ?_
   rotate_left
   ·intro w9 hSw
    go_simp
    try with_reducible rfl
   simp only [pA]
   refine tk 6 (v:=?_) rfl (Or.inl ⟨by rfl,?_⟩) ?_
   rotate_left
   ·intro w9 hSw
    go_simp
    try with_reducible rfl
   simp only [pA]
   refine tk 7 (v:=?_) rfl (Or.inl ⟨by rfl,?_⟩) ?_
   rotate_left
   ·intro w9 hSw
    go_simp
    try with_reducible rfl
   simp only [pA]
   refine tk 8 (v:=?_) rfl (Or.inl ⟨by rfl,?_⟩) ?_
   rotate_left
   ·intro w9 hSw
    go_simp
    try with_reducible rfl
   simp only [pA]
   refine wpAnyH_ready (rs:=[9]) (by kernel_rfl) (by simp) ?_
   refine xX0 rfl (fun KK hKK=>?_)
   have z0:=kb.cell0
   have z1:=kb.cell1
   have fz:=fun o=>kb.row.frozen o
   have hy0:((w8.setCell ⟨rb,0,none⟩ (.int .i64 3)).setCell ⟨rb,1,none⟩ (.slice a S.length c)).cell? ⟨rb,0,none⟩=some (.int .i64 3):=(World.cell?_setCell_other _ _ _ _ (fun e=>by simp at e)).trans (World.cell?_setCell_same _ _ _ z0)
   have hy1:((w8.setCell ⟨rb,0,none⟩ (.int .i64 3)).setCell ⟨rb,1,none⟩ (.slice a S.length c)).cell? ⟨rb,1,none⟩=some (.slice a S.length c):=World.cell?_setCell_same _ _ _ ((World.cell?_setCell_other _ _ _ _ (fun e=>by simp at e)).trans z1)
   replace hn:TNk ((w8.setCell ⟨rb,0,none⟩ (.int .i64 3)).setCell ⟨rb,1,none⟩ (.slice a S.length c)) a S:=(hn.set kb hne).set (kb.set (b:=none) (k:=0) (l:=0)) hne
   replace hBw:Below w.heap.size w ((w8.setCell ⟨rb,0,none⟩ (.int .i64 3)).setCell ⟨rb,1,none⟩ (.slice a S.length c)):=(hBw.setCell hrb _).setCell hrb _
   clear kb hne
   go_simp
   refine hKK.out _ _ hHeld ?_
   clear hHeld
   intro hHeld
   clear hKK KK
   try simp only [pA]
   clear z0 z1 fz
   generalize ((w8.setCell ⟨rb,0,none⟩ (.int .i64 3)).setCell ⟨rb,1,none⟩ (.slice a S.length c))=w9 at hy0 hy1 hn hBw ⊢
   refine tk 10 (v:=?_) rfl (Or.inl ⟨by rfl,?_⟩) ?_
   rotate_left
   ·intro w9 hSw
    go_simp
    try with_reducible rfl
   simp only [pA]
   refine tk 11 (v:=?_) rfl (Or.inl ⟨by rfl,?_⟩) ?_
   rotate_left
   ·intro w9 hSw
    go_simp
    try with_reducible rfl
   simp only [pA]
   refine wpAnyH_done (by kernel_rfl) ?_ _
   try clear hHeld
   go_wp2_with fail
   have bD:Below w9.heap.size w9 w9.drew:=(Below.refl _ _).drew
   have khy0:=xQ0 bD hy0
   have khy1:=xQ0 bD hy1
   replace hBw:=hBw.trans (bD.mono hBw.size)
   replace hn:=hn.later bD
   refine wp_region_held_drew (S:=fun w'=>w'.cell? ⟨rb,0,none⟩=some (.int .i64 3)∧w'.cell? ⟨rb,1,none⟩=some (.slice a S.length c)) (by kernel_rfl) ⟨khy0,khy1⟩ (fun hHeld=>?_)
   clear khy0 khy1
   generalize w9.drew=v4 at bD hn hBw hHeld ⊢
   clear bD hy0 hy1
   refine tk 0 (v:=?_) rfl (Or.inl ⟨by rfl,?_⟩) ?_
   rotate_left
   ·intro w9 hSw
    go_simp
    try with_reducible rfl
   simp only [pA]
   refine tk 1 (v:=?_) rfl (Or.inl ⟨by rfl,?_⟩) ?_
   rotate_left
   ·intro w9 hSw
    go_simp
    try with_reducible rfl
   simp only [pA]
   refine tk 2 (v:=?_) rfl (Or.inl ⟨by rfl,?_⟩) ?_
   rotate_left
   ·intro w9 hSw
    go_simp
    try with_reducible rfl
   simp only [pA]
   refine tk 3 (v:=?_) rfl (Or.inl ⟨by rfl,?_⟩) ?_
   rotate_left
   ·intro w9 hSw
    go_simp
    try with_reducible rfl
   simp only [pA]
   refine tk 4 (v:=?_) rfl (Or.inl ⟨by rfl,?_⟩) ?_
   rotate_left
   ·intro w9 hSw
    go_simp
    try with_reducible rfl
   simp only [pA]
   refine tk 5 (v:=?_) rfl (Or.inl ⟨by rfl,?_⟩) ?_
   rotate_left
   ·intro w9 hSw
    go_simp
    try with_reducible rfl
   simp only [pA]
   refine tk 6 (v:=?_) rfl (Or.inl ⟨by rfl,?_⟩) ?_
   rotate_left
   ·intro w9 hSw
    go_simp
    try with_reducible rfl
   simp only [pA]
   refine tk 7 (v:=?_) rfl (Or.inl ⟨by rfl,?_⟩) ?_
   rotate_left
   ·intro w9 hSw
    go_simp
    try with_reducible rfl
   simp only [pA]
   refine wpAnyH_ready (rs:=[8]) (by kernel_rfl) (by simp) ?_
   refine xX0 rfl (fun KK hKK=>?_)
   go_simp
   refine (GM.out 0 _).mono ?_
   rintro e v5 ⟨P,rfl,qP,bN⟩
   have bC:=bN
   replace hBw:=hBw.trans (bC.mono hBw.size)
   replace hn:=hn.later bC
   replace hHeld:=(⟨xQ0 bC hHeld.1,xQ0 bC hHeld.2⟩:_∧_)
   clear bC
   go_wp2_with fail
   clear bN
   refine hKK.out _ _ hHeld ?_
   clear hHeld
   intro hHeld
   clear hKK KK
   try simp only [pA]
   refine wpAnyH_ready (rs:=[9]) (by kernel_rfl) (by simp) ?_
   refine xX0 rfl (fun KK hKK=>?_)
   go_simp
   refine (GM.out 1 _).mono ?_
   rintro e v6 ⟨Q,rfl,qQ,bN⟩
   have bC:=bN
   replace hBw:=hBw.trans (bC.mono hBw.size)
   replace hn:=hn.later bC
   replace qP:=qP.later bC
   replace hHeld:=(⟨xQ0 bC hHeld.1,xQ0 bC hHeld.2⟩:_∧_)
   clear bC
   go_wp2_with fail
   clear bN
   refine hKK.out _ _ hHeld ?_
   clear hHeld
   intro hHeld
   clear hKK KK
   try simp only [pA]
   refine wpAnyH_ready (rs:=[10]) (by kernel_rfl) (by simp) ?_
   refine xX0 rfl (fun KK hKK=>?_)
   go_simp
   have hat:=two_at (new7 v6 #[.int .i64 0,.bool P.s,.slice P.a P.n P.c,.slice P.b P.m P.e,.int .i64 1,.bool Q.s,.slice Q.a Q.n Q.c,.slice Q.b Q.m Q.e] 57)
   have b3:=xQ2 (w:=v6) (.cells #[.int .i64 0,.bool P.s,.slice P.a P.n P.c,.slice P.b P.m P.e,.int .i64 1,.bool Q.s,.slice Q.a Q.n Q.c,.slice Q.b Q.m Q.e] 57)
   generalize v6.alloc (.cells #[.int .i64 0,.bool P.s,.slice P.a P.n P.c,.slice P.b P.m P.e,.int .i64 1,.bool Q.s,.slice Q.a Q.n Q.c,.slice Q.b Q.m Q.e] 57)=v7 at hat b3 ⊢
   replace hBw:=hBw.trans (b3.mono hBw.size)
   replace hn:=hn.later b3
   replace qP:=qP.later b3
   replace qQ:=qQ.later b3
   replace hHeld:=(⟨xQ0 b3 hHeld.1,xQ0 b3 hHeld.2⟩:_∧_)
   clear b3
   refine hKK.out _ _ hHeld ?_
   clear hHeld
   intro hHeld
   clear hKK KK
   try simp only [pA]
   have hFk:=two_nk hat qP qQ
   have hFo:=two_fo (b:=v6.heap.size) (x:=0) (y:=1) qP qQ
   clear hat qP qQ
   refine tk 11 (v:=?_) rfl (Or.inl ⟨by rfl,?_⟩) ?_
   rotate_left
   ·intro w9 hSw
    go_simp
    try with_reducible rfl
   simp only [pA]
   refine wpAnyH_ready (rs:=[12]) (by kernel_rfl) (by simp) ?_
   refine xX0 rfl (fun KK hKK=>?_)
   go_simp
   have hrw:TAt _ (some ⟨v7.heap.size,0,none⟩) [((2:Int),(⟨some ⟨v6.heap.size,0,none⟩,2,[(0,P),(1,Q)]⟩:FV))]:=row_at (new7 v7 #[.int .i64 2,.slice (some ⟨v6.heap.size,0,none⟩) 2 2] 46)
   have b3:=xQ2 (w:=v7) (.cells #[.int .i64 2,.slice (some ⟨v6.heap.size,0,none⟩) 2 2] 46)
   generalize v7.alloc (.cells #[.int .i64 2,.slice (some ⟨v6.heap.size,0,none⟩) 2 2] 46)=v8 at hrw b3 ⊢
   replace hBw:=hBw.trans (b3.mono hBw.size)
   replace hn:=hn.later b3
   replace hFk:=hFk.later b3
   replace hHeld:=(⟨xQ0 b3 hHeld.1,xQ0 b3 hHeld.2⟩:_∧_)
   clear b3
   refine hKK.out _ _ hHeld ?_
   clear hHeld
   intro hHeld
   clear hKK KK
   try simp only [pA]
   have hRk:=row_nk hrw hFk (wfI_of (by omega) (by omega))
   clear hrw hFk
   refine tk 13 (v:=?_) rfl (Or.inl ⟨by rfl,?_⟩) ?_
   rotate_left
   ·intro w9 hSw
    go_simp
    try with_reducible rfl
   simp only [pA]
   refine wpAnyH_ready (rs:=[14]) (by kernel_rfl) (by simp) ?_
   refine xX0 rfl (fun KK hKK=>?_)
   go_simp
   refine (GA.out _ a c S hn hc h1 hs _ _ hRk hFo).mono ?_
   rintro e v9 ⟨rfl,b9⟩
   have bC:=b9
   replace hBw:=hBw.trans (bC.mono hBw.size)
   replace hn:=hn.later bC
   replace hRk:=hRk.later bC
   replace hHeld:=(⟨xQ0 bC hHeld.1,xQ0 bC hHeld.2⟩:_∧_)
   clear bC
   go_wp2_with fail
   clear b9
   refine hKK.out _ _ hHeld ?_
   clear hHeld
   intro hHeld
   clear hKK KK
   try simp only [pA]
   refine tk 15 (v:=?_) rfl (Or.inl ⟨by rfl,?_⟩) ?_
   rotate_left
   ·intro w9 hSw
    go_simp
    try with_reducible rfl
   simp only [pA]
   refine tk 16 (v:=?_) rfl (Or.inl ⟨by rfl,?_⟩) ?_
   rotate_left
   ·intro w9 hSw
    go_simp
    try with_reducible rfl
   simp only [pA]
   refine wpAnyH_done (by kernel_rfl) ?_ _
   go_wp2
   first | exact ⟨rfl,hBw⟩ | (go_ret;exact ⟨rfl,hBw⟩)
  refine consT rfl (fun KK hKK=>?_) ?_
  ·skip
   go_simp
   refine (GM.out 0 _).mono ?_
   rintro e w6 ⟨Q,rfl,qQ,bN⟩
   have bC:=bN
   replace hBw:=hBw.trans (bC.mono hBw.size)
   replace kb:=kb.later bC
   replace qP:=qP.later bC
   clear bC
   go_wp2_with fail
   clear bN
   refine hKK.out _ _ hHeld ?_
   clear hHeld
   intro hHeld
   clear hKK KK
   try simp only [pA]
   refine wpAnyH_ready (rs:=[0,3]) (by kernel_rfl) (by simp) ?_
   refine consT rfl (fun KK hKK=>?_) ?_
   ·skip
    have z0:=kb.cell0
    have z1:=kb.cell1
    go_simp
    clear z0 z1
    refine hKK.out _ _ hHeld ?_
    clear hHeld
    intro hHeld
    clear hKK KK
    try simp only [pA]
    refine wpAnyH_ready (rs:=[3]) (by kernel_rfl) (by simp) ?_
    refine xX0 rfl (fun KK hKK=>?_)
    go_simp
    have hat:=two_at (new7 w6 #[.int .i64 1,.bool P.s,.slice P.a P.n P.c,.slice P.b P.m P.e,.int .i64 0,.bool Q.s,.slice Q.a Q.n Q.c,.slice Q.b Q.m Q.e] 57)
    have b3:=xQ2 (w:=w6) (.cells #[.int .i64 1,.bool P.s,.slice P.a P.n P.c,.slice P.b P.m P.e,.int .i64 0,.bool Q.s,.slice Q.a Q.n Q.c,.slice Q.b Q.m Q.e] 57)
    generalize w6.alloc (.cells #[.int .i64 1,.bool P.s,.slice P.a P.n P.c,.slice P.b P.m P.e,.int .i64 0,.bool Q.s,.slice Q.a Q.n Q.c,.slice Q.b Q.m Q.e] 57)=w7 at hat b3 ⊢
    replace hBw:=hBw.trans (b3.mono hBw.size)
    replace kb:=kb.later b3
    replace qP:=qP.later b3
    replace qQ:=qQ.later b3
    clear b3
    refine hKK.out _ _ hHeld ?_
    clear hHeld
    intro hHeld
    clear hKK KK
    try simp only [pA]
    refine wpAnyH_ready (rs:=[4]) (by kernel_rfl) (by simp) ?_
    refine xX0 rfl (fun KK hKK=>?_)
    have h7:=kb.lt
    go_simp
    refine (GD.out _ _ _ _ _ _ hat qP qQ).mono ?_
    rintro e w8 ⟨a,c,S,rfl,hn,hc,h1,hs,b8,hf⟩
    have bC:=b8
    replace hBw:=hBw.trans (bC.mono hBw.size)
    replace kb:=kb.later bC
    replace qP:=qP.later bC
    replace qQ:=qQ.later bC
    replace hat:=hat.later bC
    clear bC
    go_wp2_with fail
    have hne:∀ ad,a=some ad→S≠[]→ad.block≠rb:=fun ad e h=>by have h2:=hf ad e h;omega
    clear b8 h7 hf hat qP qQ GD
    refine hKK.out _ _ hHeld ?_
    clear hHeld
    intro hHeld
    clear hKK KK
    try simp only [pA]
    refine tk 5 (v:=?_) rfl (Or.inl ⟨by rfl,?_⟩) ?_
    rotate_left
    ·intro w9 hSw
     go_simp
     try with_reducible rfl
    simp only [pA]
    refine tk 6 (v:=?_) rfl (Or.inl ⟨by rfl,?_⟩) ?_
    rotate_left
    ·intro w9 hSw
     go_simp
     try with_reducible rfl
    simp only [pA]
    refine tk 7 (v:=?_) rfl (Or.inl ⟨by rfl,?_⟩) ?_
    rotate_left
    ·intro w9 hSw
     go_simp
     try with_reducible rfl
    simp only [pA]
    refine tk 8 (v:=?_) rfl (Or.inl ⟨by rfl,?_⟩) ?_
    rotate_left
    ·intro w9 hSw
     go_simp
     try with_reducible rfl
    simp only [pA]
    refine wpAnyH_ready (rs:=[9]) (by kernel_rfl) (by simp) ?_
    refine xX0 rfl (fun KK hKK=>?_)
    have z0:=kb.cell0
    have z1:=kb.cell1
    have fz:=fun o=>kb.row.frozen o
    have hy0:((w8.setCell ⟨rb,0,none⟩ (.int .i64 3)).setCell ⟨rb,1,none⟩ (.slice a S.length c)).cell? ⟨rb,0,none⟩=some (.int .i64 3):=(World.cell?_setCell_other _ _ _ _ (fun e=>by simp at e)).trans (World.cell?_setCell_same _ _ _ z0)
    have hy1:((w8.setCell ⟨rb,0,none⟩ (.int .i64 3)).setCell ⟨rb,1,none⟩ (.slice a S.length c)).cell? ⟨rb,1,none⟩=some (.slice a S.length c):=World.cell?_setCell_same _ _ _ ((World.cell?_setCell_other _ _ _ _ (fun e=>by simp at e)).trans z1)
    replace hn:TNk ((w8.setCell ⟨rb,0,none⟩ (.int .i64 3)).setCell ⟨rb,1,none⟩ (.slice a S.length c)) a S:=(hn.set kb hne).set (kb.set (b:=none) (k:=0) (l:=0)) hne
    replace hBw:Below w.heap.size w ((w8.setCell ⟨rb,0,none⟩ (.int .i64 3)).setCell ⟨rb,1,none⟩ (.slice a S.length c)):=(hBw.setCell hrb _).setCell hrb _
    clear kb hne
    go_simp
    refine hKK.out _ _ hHeld ?_
    clear hHeld
    intro hHeld
    clear hKK KK
    try simp only [pA]
    clear z0 z1 fz
    generalize ((w8.setCell ⟨rb,0,none⟩ (.int .i64 3)).setCell ⟨rb,1,none⟩ (.slice a S.length c))=w9 at hy0 hy1 hn hBw ⊢
    refine tk 10 (v:=?_) rfl (Or.inl ⟨by rfl,?_⟩) ?_
    rotate_left
    ·intro w9 hSw
     go_simp
     try with_reducible rfl
    simp only [pA]
    refine tk 11 (v:=?_) rfl (Or.inl ⟨by rfl,?_⟩) ?_
    rotate_left
    ·intro w9 hSw
     go_simp
     try with_reducible rfl
    simp only [pA]
    refine wpAnyH_done (by kernel_rfl) ?_ _
    try clear hHeld
    go_wp2_with fail
    have bD:Below w9.heap.size w9 w9.drew:=(Below.refl _ _).drew
    have khy0:=xQ0 bD hy0
    have khy1:=xQ0 bD hy1
    replace hBw:=hBw.trans (bD.mono hBw.size)
    replace hn:=hn.later bD
    refine wp_region_held_drew (S:=fun w'=>w'.cell? ⟨rb,0,none⟩=some (.int .i64 3)∧w'.cell? ⟨rb,1,none⟩=some (.slice a S.length c)) (by kernel_rfl) ⟨khy0,khy1⟩ (fun hHeld=>?_)
    clear khy0 khy1
    generalize w9.drew=v4 at bD hn hBw hHeld ⊢
    clear bD hy0 hy1
    refine tk 0 (v:=?_) rfl (Or.inl ⟨by rfl,?_⟩) ?_
    rotate_left
    ·intro w9 hSw
     go_simp
     try with_reducible rfl
    simp only [pA]
    refine tk 1 (v:=?_) rfl (Or.inl ⟨by rfl,?_⟩) ?_
    rotate_left
    ·intro w9 hSw
     go_simp
     try with_reducible rfl
    simp only [pA]
    refine tk 2 (v:=?_) rfl (Or.inl ⟨by rfl,?_⟩) ?_
    rotate_left
    ·intro w9 hSw
     go_simp
     try with_reducible rfl
    simp only [pA]
    refine tk 3 (v:=?_) rfl (Or.inl ⟨by rfl,?_⟩) ?_
    rotate_left
    ·intro w9 hSw
     go_simp
     try with_reducible rfl
    simp only [pA]
    refine tk 4 (v:=?_) rfl (Or.inl ⟨by rfl,?_⟩) ?_
    rotate_left
    ·intro w9 hSw
     go_simp
     try with_reducible rfl
    simp only [pA]
    refine tk 5 (v:=?_) rfl (Or.inl ⟨by rfl,?_⟩) ?_
    rotate_left
    ·intro w9 hSw
     go_simp
     try with_reducible rfl
    simp only [pA]
    refine tk 6 (v:=?_) rfl (Or.inl ⟨by rfl,?_⟩) ?_
    rotate_left
    ·intro w9 hSw
     go_simp
     try with_reducible rfl
    simp only [pA]
    refine tk 7 (v:=?_) rfl (Or.inl ⟨by rfl,?_⟩) ?_
    rotate_left
    ·intro w9 hSw
     go_simp
     try with_reducible rfl
    simp only [pA]
    refine wpAnyH_ready (rs:=[8]) (by kernel_rfl) (by simp) ?_
    refine xX0 rfl (fun KK hKK=>?_)
    go_simp
    refine (GM.out 0 _).mono ?_
    rintro e v5 ⟨P,rfl,qP,bN⟩
    have bC:=bN
    replace hBw:=hBw.trans (bC.mono hBw.size)
    replace hn:=hn.later bC
    replace hHeld:=(⟨xQ0 bC hHeld.1,xQ0 bC hHeld.2⟩:_∧_)
    clear bC
    go_wp2_with fail
    clear bN
    refine hKK.out _ _ hHeld ?_
    clear hHeld
    intro hHeld
    clear hKK KK
    try simp only [pA]
    refine wpAnyH_ready (rs:=[9]) (by kernel_rfl) (by simp) ?_
    refine xX0 rfl (fun KK hKK=>?_)
    go_simp
    refine (GM.out 1 _).mono ?_
    rintro e v6 ⟨Q,rfl,qQ,bN⟩
    have bC:=bN
    replace hBw:=hBw.trans (bC.mono hBw.size)
    replace hn:=hn.later bC
    replace qP:=qP.later bC
    replace hHeld:=(⟨xQ0 bC hHeld.1,xQ0 bC hHeld.2⟩:_∧_)
    clear bC
    go_wp2_with fail
    clear bN
    refine hKK.out _ _ hHeld ?_
    clear hHeld
    intro hHeld
    clear hKK KK
    try simp only [pA]
    refine wpAnyH_ready (rs:=[10]) (by kernel_rfl) (by simp) ?_
    refine xX0 rfl (fun KK hKK=>?_)
    go_simp
    have hat:=two_at (new7 v6 #[.int .i64 0,.bool P.s,.slice P.a P.n P.c,.slice P.b P.m P.e,.int .i64 1,.bool Q.s,.slice Q.a Q.n Q.c,.slice Q.b Q.m Q.e] 57)
    have b3:=xQ2 (w:=v6) (.cells #[.int .i64 0,.bool P.s,.slice P.a P.n P.c,.slice P.b P.m P.e,.int .i64 1,.bool Q.s,.slice Q.a Q.n Q.c,.slice Q.b Q.m Q.e] 57)
    generalize v6.alloc (.cells #[.int .i64 0,.bool P.s,.slice P.a P.n P.c,.slice P.b P.m P.e,.int .i64 1,.bool Q.s,.slice Q.a Q.n Q.c,.slice Q.b Q.m Q.e] 57)=v7 at hat b3 ⊢
    replace hBw:=hBw.trans (b3.mono hBw.size)
    replace hn:=hn.later b3
    replace qP:=qP.later b3
    replace qQ:=qQ.later b3
    replace hHeld:=(⟨xQ0 b3 hHeld.1,xQ0 b3 hHeld.2⟩:_∧_)
    clear b3
    refine hKK.out _ _ hHeld ?_
    clear hHeld
    intro hHeld
    clear hKK KK
    try simp only [pA]
    have hFk:=two_nk hat qP qQ
    have hFo:=two_fo (b:=v6.heap.size) (x:=0) (y:=1) qP qQ
    clear hat qP qQ
    refine tk 11 (v:=?_) rfl (Or.inl ⟨by rfl,?_⟩) ?_
    rotate_left
    ·intro w9 hSw
     go_simp
     try with_reducible rfl
    simp only [pA]
    refine wpAnyH_ready (rs:=[12]) (by kernel_rfl) (by simp) ?_
    refine xX0 rfl (fun KK hKK=>?_)
    go_simp
    have hrw:TAt _ (some ⟨v7.heap.size,0,none⟩) [((2:Int),(⟨some ⟨v6.heap.size,0,none⟩,2,[(0,P),(1,Q)]⟩:FV))]:=row_at (new7 v7 #[.int .i64 2,.slice (some ⟨v6.heap.size,0,none⟩) 2 2] 46)
    have b3:=xQ2 (w:=v7) (.cells #[.int .i64 2,.slice (some ⟨v6.heap.size,0,none⟩) 2 2] 46)
    generalize v7.alloc (.cells #[.int .i64 2,.slice (some ⟨v6.heap.size,0,none⟩) 2 2] 46)=v8 at hrw b3 ⊢
    replace hBw:=hBw.trans (b3.mono hBw.size)
    replace hn:=hn.later b3
    replace hFk:=hFk.later b3
    replace hHeld:=(⟨xQ0 b3 hHeld.1,xQ0 b3 hHeld.2⟩:_∧_)
    clear b3
    refine hKK.out _ _ hHeld ?_
    clear hHeld
    intro hHeld
    clear hKK KK
    try simp only [pA]
    have hRk:=row_nk hrw hFk (wfI_of (by omega) (by omega))
    clear hrw hFk
    refine tk 13 (v:=?_) rfl (Or.inl ⟨by rfl,?_⟩) ?_
    rotate_left
    ·intro w9 hSw
     go_simp
     try with_reducible rfl
    simp only [pA]
    refine wpAnyH_ready (rs:=[14]) (by kernel_rfl) (by simp) ?_
    refine xX0 rfl (fun KK hKK=>?_)
    go_simp
    refine (GA.out _ a c S hn hc h1 hs _ _ hRk hFo).mono ?_
    rintro e v9 ⟨rfl,b9⟩
    have bC:=b9
    replace hBw:=hBw.trans (bC.mono hBw.size)
    replace hn:=hn.later bC
    replace hRk:=hRk.later bC
    replace hHeld:=(⟨xQ0 bC hHeld.1,xQ0 bC hHeld.2⟩:_∧_)
    clear bC
    go_wp2_with fail
    clear b9
    refine hKK.out _ _ hHeld ?_
    clear hHeld
    intro hHeld
    clear hKK KK
    try simp only [pA]
    refine tk 15 (v:=?_) rfl (Or.inl ⟨by rfl,?_⟩) ?_
    rotate_left
    ·intro w9 hSw
     go_simp
     try with_reducible rfl
    simp only [pA]
    refine tk 16 (v:=?_) rfl (Or.inl ⟨by rfl,?_⟩) ?_
    rotate_left
    ·intro w9 hSw
     go_simp
     try with_reducible rfl
    simp only [pA]
    refine wpAnyH_done (by kernel_rfl) ?_ _
    go_wp2
    first | exact ⟨rfl,hBw⟩ | (go_ret;exact ⟨rfl,hBw⟩)
   refine consT rfl (fun KK hKK=>?_) ?_
   ·skip
    go_simp
    have hat:=two_at (new7 w6 #[.int .i64 1,.bool P.s,.slice P.a P.n P.c,.slice P.b P.m P.e,.int .i64 0,.bool Q.s,.slice Q.a Q.n Q.c,.slice Q.b Q.m Q.e] 57)
    have b3:=xQ2 (w:=w6) (.cells #[.int .i64 1,.bool P.s,.slice P.a P.n P.c,.slice P.b P.m P.e,.int .i64 0,.bool Q.s,.slice Q.a Q.n Q.c,.slice Q.b Q.m Q.e] 57)
    generalize w6.alloc (.cells #[.int .i64 1,.bool P.s,.slice P.a P.n P.c,.slice P.b P.m P.e,.int .i64 0,.bool Q.s,.slice Q.a Q.n Q.c,.slice Q.b Q.m Q.e] 57)=w7 at hat b3 ⊢
    replace hBw:=hBw.trans (b3.mono hBw.size)
    replace kb:=kb.later b3
    replace qP:=qP.later b3
    replace qQ:=qQ.later b3
    clear b3
    refine hKK.out _ _ hHeld ?_
    clear hHeld
    intro hHeld
    clear hKK KK
    try simp only [pA]
    refine wpAnyH_ready (rs:=[0]) (by kernel_rfl) (by simp) ?_
    refine xX0 rfl (fun KK hKK=>?_)
    have z0:=kb.cell0
    have z1:=kb.cell1
    go_simp
    clear z0 z1
    refine hKK.out _ _ hHeld ?_
    clear hHeld
    intro hHeld
    clear hKK KK
    try simp only [pA]
    refine wpAnyH_ready (rs:=[4]) (by kernel_rfl) (by simp) ?_
    refine xX0 rfl (fun KK hKK=>?_)
    have h7:=kb.lt
    go_simp
    refine (GD.out _ _ _ _ _ _ hat qP qQ).mono ?_
    rintro e w8 ⟨a,c,S,rfl,hn,hc,h1,hs,b8,hf⟩
    have bC:=b8
    replace hBw:=hBw.trans (bC.mono hBw.size)
    replace kb:=kb.later bC
    replace qP:=qP.later bC
    replace qQ:=qQ.later bC
    replace hat:=hat.later bC
    clear bC
    go_wp2_with fail
    have hne:∀ ad,a=some ad→S≠[]→ad.block≠rb:=fun ad e h=>by have h2:=hf ad e h;omega
    clear b8 h7 hf hat qP qQ GD
    refine hKK.out _ _ hHeld ?_
    clear hHeld
    intro hHeld
    clear hKK KK
    try simp only [pA]
    refine tk 5 (v:=?_) rfl (Or.inl ⟨by rfl,?_⟩) ?_
    rotate_left
    ·intro w9 hSw
     go_simp
     try with_reducible rfl
    simp only [pA]
    refine tk 6 (v:=?_) rfl (Or.inl ⟨by rfl,?_⟩) ?_
    rotate_left
    ·intro w9 hSw
     go_simp
     try with_reducible rfl
    simp only [pA]
    refine tk 7 (v:=?_) rfl (Or.inl ⟨by rfl,?_⟩) ?_
    rotate_left
    ·intro w9 hSw
     go_simp
     try with_reducible rfl
    simp only [pA]
    refine tk 8 (v:=?_) rfl (Or.inl ⟨by rfl,?_⟩) ?_
    rotate_left
    ·intro w9 hSw
     go_simp
     try with_reducible rfl
    simp only [pA]
    refine wpAnyH_ready (rs:=[9]) (by kernel_rfl) (by simp) ?_
    refine xX0 rfl (fun KK hKK=>?_)
    have z0:=kb.cell0
    have z1:=kb.cell1
    have fz:=fun o=>kb.row.frozen o
    have hy0:((w8.setCell ⟨rb,0,none⟩ (.int .i64 3)).setCell ⟨rb,1,none⟩ (.slice a S.length c)).cell? ⟨rb,0,none⟩=some (.int .i64 3):=(World.cell?_setCell_other _ _ _ _ (fun e=>by simp at e)).trans (World.cell?_setCell_same _ _ _ z0)
    have hy1:((w8.setCell ⟨rb,0,none⟩ (.int .i64 3)).setCell ⟨rb,1,none⟩ (.slice a S.length c)).cell? ⟨rb,1,none⟩=some (.slice a S.length c):=World.cell?_setCell_same _ _ _ ((World.cell?_setCell_other _ _ _ _ (fun e=>by simp at e)).trans z1)
    replace hn:TNk ((w8.setCell ⟨rb,0,none⟩ (.int .i64 3)).setCell ⟨rb,1,none⟩ (.slice a S.length c)) a S:=(hn.set kb hne).set (kb.set (b:=none) (k:=0) (l:=0)) hne
    replace hBw:Below w.heap.size w ((w8.setCell ⟨rb,0,none⟩ (.int .i64 3)).setCell ⟨rb,1,none⟩ (.slice a S.length c)):=(hBw.setCell hrb _).setCell hrb _
    clear kb hne
    go_simp
    refine hKK.out _ _ hHeld ?_
    clear hHeld
    intro hHeld
    clear hKK KK
    try simp only [pA]
    clear z0 z1 fz
    generalize ((w8.setCell ⟨rb,0,none⟩ (.int .i64 3)).setCell ⟨rb,1,none⟩ (.slice a S.length c))=w9 at hy0 hy1 hn hBw ⊢
    refine tk 10 (v:=?_) rfl (Or.inl ⟨by rfl,?_⟩) ?_
    rotate_left
    ·intro w9 hSw
     go_simp
     try with_reducible rfl
    simp only [pA]
    refine tk 11 (v:=?_) rfl (Or.inl ⟨by rfl,?_⟩) ?_
    rotate_left
    ·intro w9 hSw
     go_simp
     try with_reducible rfl
    simp only [pA]
    refine wpAnyH_done (by kernel_rfl) ?_ _
    try clear hHeld
    go_wp2_with fail
    have bD:Below w9.heap.size w9 w9.drew:=(Below.refl _ _).drew
    have khy0:=xQ0 bD hy0
    have khy1:=xQ0 bD hy1
    replace hBw:=hBw.trans (bD.mono hBw.size)
    replace hn:=hn.later bD
    refine wp_region_held_drew (S:=fun w'=>w'.cell? ⟨rb,0,none⟩=some (.int .i64 3)∧w'.cell? ⟨rb,1,none⟩=some (.slice a S.length c)) (by kernel_rfl) ⟨khy0,khy1⟩ (fun hHeld=>?_)
    clear khy0 khy1
    generalize w9.drew=v4 at bD hn hBw hHeld ⊢
    clear bD hy0 hy1
    refine tk 0 (v:=?_) rfl (Or.inl ⟨by rfl,?_⟩) ?_
    rotate_left
    ·intro w9 hSw
     go_simp
     try with_reducible rfl
    simp only [pA]
    refine tk 1 (v:=?_) rfl (Or.inl ⟨by rfl,?_⟩) ?_
    rotate_left
    ·intro w9 hSw
     go_simp
     try with_reducible rfl
    simp only [pA]
    refine tk 2 (v:=?_) rfl (Or.inl ⟨by rfl,?_⟩) ?_
    rotate_left
    ·intro w9 hSw
     go_simp
     try with_reducible rfl
    simp only [pA]
    refine tk 3 (v:=?_) rfl (Or.inl ⟨by rfl,?_⟩) ?_
    rotate_left
    ·intro w9 hSw
     go_simp
     try with_reducible rfl
    simp only [pA]
    refine tk 4 (v:=?_) rfl (Or.inl ⟨by rfl,?_⟩) ?_
    rotate_left
    ·intro w9 hSw
     go_simp
     try with_reducible rfl
    simp only [pA]
    refine tk 5 (v:=?_) rfl (Or.inl ⟨by rfl,?_⟩) ?_
    rotate_left
    ·intro w9 hSw
     go_simp
     try with_reducible rfl
    simp only [pA]
    refine tk 6 (v:=?_) rfl (Or.inl ⟨by rfl,?_⟩) ?_
    rotate_left
    ·intro w9 hSw
     go_simp
     try with_reducible rfl
    simp only [pA]
    refine tk 7 (v:=?_) rfl (Or.inl ⟨by rfl,?_⟩) ?_
    rotate_left
    ·intro w9 hSw
     go_simp
     try with_reducible rfl
    simp only [pA]
    refine wpAnyH_ready (rs:=[8]) (by kernel_rfl) (by simp) ?_
    refine xX0 rfl (fun KK hKK=>?_)
    go_simp
    refine (GM.out 0 _).mono ?_
    rintro e v5 ⟨P,rfl,qP,bN⟩
    have bC:=bN
    replace hBw:=hBw.trans (bC.mono hBw.size)
    replace hn:=hn.later bC
    replace hHeld:=(⟨xQ0 bC hHeld.1,xQ0 bC hHeld.2⟩:_∧_)
    clear bC
    go_wp2_with fail
    clear bN
    refine hKK.out _ _ hHeld ?_
    clear hHeld
    intro hHeld
    clear hKK KK
    try simp only [pA]
    refine wpAnyH_ready (rs:=[9]) (by kernel_rfl) (by simp) ?_
    refine xX0 rfl (fun KK hKK=>?_)
    go_simp
    refine (GM.out 1 _).mono ?_
    rintro e v6 ⟨Q,rfl,qQ,bN⟩
    have bC:=bN
    replace hBw:=hBw.trans (bC.mono hBw.size)
    replace hn:=hn.later bC
    replace qP:=qP.later bC
    replace hHeld:=(⟨xQ0 bC hHeld.1,xQ0 bC hHeld.2⟩:_∧_)
    clear bC
    go_wp2_with fail
    clear bN
    refine hKK.out _ _ hHeld ?_
    clear hHeld
    intro hHeld
    clear hKK KK
    try simp only [pA]
    refine wpAnyH_ready (rs:=[10]) (by kernel_rfl) (by simp) ?_
    refine xX0 rfl (fun KK hKK=>?_)
    go_simp
    have hat:=two_at (new7 v6 #[.int .i64 0,.bool P.s,.slice P.a P.n P.c,.slice P.b P.m P.e,.int .i64 1,.bool Q.s,.slice Q.a Q.n Q.c,.slice Q.b Q.m Q.e] 57)
    have b3:=xQ2 (w:=v6) (.cells #[.int .i64 0,.bool P.s,.slice P.a P.n P.c,.slice P.b P.m P.e,.int .i64 1,.bool Q.s,.slice Q.a Q.n Q.c,.slice Q.b Q.m Q.e] 57)
    generalize v6.alloc (.cells #[.int .i64 0,.bool P.s,.slice P.a P.n P.c,.slice P.b P.m P.e,.int .i64 1,.bool Q.s,.slice Q.a Q.n Q.c,.slice Q.b Q.m Q.e] 57)=v7 at hat b3 ⊢
    replace hBw:=hBw.trans (b3.mono hBw.size)
    replace hn:=hn.later b3
    replace qP:=qP.later b3
    replace qQ:=qQ.later b3
    replace hHeld:=(⟨xQ0 b3 hHeld.1,xQ0 b3 hHeld.2⟩:_∧_)
    clear b3
    refine hKK.out _ _ hHeld ?_
    clear hHeld
    intro hHeld
    clear hKK KK
    try simp only [pA]
    have hFk:=two_nk hat qP qQ
    have hFo:=two_fo (b:=v6.heap.size) (x:=0) (y:=1) qP qQ
    clear hat qP qQ
    refine tk 11 (v:=?_) rfl (Or.inl ⟨by rfl,?_⟩) ?_
    rotate_left
    ·intro w9 hSw
     go_simp
     try with_reducible rfl
    simp only [pA]
    refine wpAnyH_ready (rs:=[12]) (by kernel_rfl) (by simp) ?_
    refine xX0 rfl (fun KK hKK=>?_)
    go_simp
    have hrw:TAt _ (some ⟨v7.heap.size,0,none⟩) [((2:Int),(⟨some ⟨v6.heap.size,0,none⟩,2,[(0,P),(1,Q)]⟩:FV))]:=row_at (new7 v7 #[.int .i64 2,.slice (some ⟨v6.heap.size,0,none⟩) 2 2] 46)
    have b3:=xQ2 (w:=v7) (.cells #[.int .i64 2,.slice (some ⟨v6.heap.size,0,none⟩) 2 2] 46)
    generalize v7.alloc (.cells #[.int .i64 2,.slice (some ⟨v6.heap.size,0,none⟩) 2 2] 46)=v8 at hrw b3 ⊢
    replace hBw:=hBw.trans (b3.mono hBw.size)
    replace hn:=hn.later b3
    replace hFk:=hFk.later b3
    replace hHeld:=(⟨xQ0 b3 hHeld.1,xQ0 b3 hHeld.2⟩:_∧_)
    clear b3
    refine hKK.out _ _ hHeld ?_
    clear hHeld
    intro hHeld
    clear hKK KK
    try simp only [pA]
    have hRk:=row_nk hrw hFk (wfI_of (by omega) (by omega))
    clear hrw hFk
    refine tk 13 (v:=?_) rfl (Or.inl ⟨by rfl,?_⟩) ?_
    rotate_left
    ·intro w9 hSw
     go_simp
     try with_reducible rfl
    simp only [pA]
    refine wpAnyH_ready (rs:=[14]) (by kernel_rfl) (by simp) ?_
    refine xX0 rfl (fun KK hKK=>?_)
    go_simp
    refine (GA.out _ a c S hn hc h1 hs _ _ hRk hFo).mono ?_
    rintro e v9 ⟨rfl,b9⟩
    have bC:=b9
    replace hBw:=hBw.trans (bC.mono hBw.size)
    replace hn:=hn.later bC
    replace hRk:=hRk.later bC
    replace hHeld:=(⟨xQ0 bC hHeld.1,xQ0 bC hHeld.2⟩:_∧_)
    clear bC
    go_wp2_with fail
    clear b9
    refine hKK.out _ _ hHeld ?_
    clear hHeld
    intro hHeld
    clear hKK KK
    try simp only [pA]
    refine tk 15 (v:=?_) rfl (Or.inl ⟨by rfl,?_⟩) ?_
    rotate_left
    ·intro w9 hSw
     go_simp
     try with_reducible rfl
    simp only [pA]
    refine tk 16 (v:=?_) rfl (Or.inl ⟨by rfl,?_⟩) ?_
    rotate_left
    ·intro w9 hSw
     go_simp
     try with_reducible rfl
    simp only [pA]
    refine wpAnyH_done (by kernel_rfl) ?_ _
    go_wp2
    first | exact ⟨rfl,hBw⟩ | (go_ret;exact ⟨rfl,hBw⟩)
   exact AllReadyH.nil
  exact AllReadyH.nil
 exact AllReadyH.nil
def hd:Fo→Int
 | []=>0
 | p :: _=>sgn p.2.num
def Ld (c:Int→Rat) (s:Int):Prop:=(s=0∧∀ x,c x=0)∨(s≠0∧∃ x,sgn (c x).num=s∧∀ y,y < x→c y=0)
theorem Ld.uniq {c:Int→Rat} {s t:Int} (h:Ld c s) (k:Ld c t):s=t:=by
 rcases h with ⟨rfl,h⟩ | ⟨hs,x,hx,h⟩
 ·rcases k with ⟨rfl,_⟩ | ⟨ht,y,hy,_⟩
  ·rfl
  ·rw [h y] at hy;exact hy
 ·rcases k with ⟨rfl,k⟩ | ⟨ht,y,hy,k⟩
  ·rw [k x] at hx;exact hx.symm
  ·rcases Int.lt_trichotomy x y with e | e | e
   ·rw [k x e] at hx;exact absurd hx.symm hs
   ·rw [←hx,←hy,e]
   ·rw [h y e] at hy;exact absurd hy.symm ht
theorem Ld.congr {c d:Int→Rat} {s:Int} (h:Ld c s) (e:∀ x,c x=d x):Ld d s:=by
 have:c=d:=funext e
 rw [←this];exact h
theorem sgn_le {r:Rat}:sgn r.num≤0↔r≤0:=by
 have h1:=Rat.num_nonneg (q:=r)
 have h2:=Rat.num_eq_zero (q:=r)
 unfold sgn
 split
 ·rename_i h
  have:¬ 0≤r:=fun k=>by have:=h1.2 k;omega
  exact ⟨fun _=>by grind,fun _=>by omega⟩
 ·split
  ·rename_i h k
   have:=h2.1 k
   exact ⟨fun _=>by rw [this];exact Rat.le_refl,fun _=>by omega⟩
  ·rename_i h k
   have a:0≤r:=h1.1 (by omega)
   have b:r≠0:=fun e=>k (h2.2 e)
   exact ⟨fun e=>by omega,fun e=>absurd (show r=0 by grind) b⟩
theorem Ld.add {c d:Int→Rat} {s t u:Int} (h:Ld c s) (k:Ld d t) (j:Ld (fun x=>c x+d x) u) (hs:s≤0) (ht:t≤0):u≤0:=by
 rcases h with ⟨rfl,h⟩ | ⟨hs0,x,hx,h⟩
 ·have:u=t:=j.uniq (k.congr fun y=>by rw [h y,Rat.zero_add])
  omega
 ·rcases k with ⟨rfl,k⟩ | ⟨ht0,y,hy,k⟩
  ·have:u=s:=j.uniq ((show Ld c s from Or.inr ⟨hs0,x,hx,h⟩).congr fun y=>by rw [k y,Rat.add_zero])
   omega
  ·have cx:c x≤0:=sgn_le.1 (by omega)
   have dy:d y≤0:=sgn_le.1 (by omega)
   have cx0:c x≠0:=fun e=>by rw [e] at hx;exact hs0 hx.symm
   have dy0:d y≠0:=fun e=>by rw [e] at hy;exact ht0 hy.symm
   have mk:∀ z,(∀ y',y' < z→c y'+d y'=0)→c z+d z≤0→c z+d z≠0→u≤0:=fun z h1 h2 h3=>by
    have e:u=sgn (c z+d z).num:=j.uniq (Or.inr ⟨fun e=>h3 ((sgn_num _).1 e),z,rfl,h1⟩)
    rw [e]
    exact sgn_le.2 h2
   rcases Int.lt_trichotomy x y with e | e | e
   ·refine mk x (fun z hz=>by rw [h z hz,k z (by omega)];exact Rat.add_zero _) (by rw [k x e,Rat.add_zero];exact cx) (by rw [k x e,Rat.add_zero];exact cx0)
   ·subst e
    exact mk x (fun z hz=>by rw [h z hz,k z hz];exact Rat.add_zero _) (by grind) (by grind)
   ·refine mk y (fun z hz=>by rw [h z (by omega),k z hz];exact Rat.add_zero _) (by rw [h y e,Rat.zero_add];exact dy) (by rw [h y e,Rat.zero_add];exact dy0)
theorem sz_add {r t:Rat} {N M:Nat} (h:sz N r) (k:sz M t):sz (2*N+2*M+3) (r+t):=by
 have e:co 0 [(0,r),(0,t)]=r+t:=by simp [co];grind
 rw [←e]
 refine (co_sz 0 _).mono ?_
 simp only [wts,wt]
 have:=h.1;have:=h.2;have:=k.1;have:=k.2
 omega
theorem nrm_take {m:Fo} {M:Nat} (hm:nrm m) (h:∀ y,sz M (co y m)) (hM:1≤M) (k:Nat) (x:Int):sz M (co x (m.take k)):=by
 have hsub:=List.take_sublist k m
 by_cases hx:∃ p∈m.take k,p.1=x
 ·obtain ⟨p,hp,rfl⟩:=hx
  rw [(hm.sub hsub).co_mem hp,←hm.co_mem (hsub.subset hp)]
  exact h _
 ·rw [co_zero fun p hp e=>hx ⟨p,hp,e⟩]
  exact sz_zero M hM
theorem fine_two {l m:Fo} {N M:Nat} (hl:∀ k x,sz N (co x (l.take k))) (hm:nrm m) (h:∀ y,sz M (co y m)) (hM:1≤M) (k:Nat) (x:Int):sz (2*N+2*M+3) (co x ((l ++ m).take k)):=by
 rw [List.take_append,co_append]
 exact sz_add (hl k x) (nrm_take hm h hM _ x)
def dr (x:Int) (r:Int × Fo):Rat:=co x r.2 - (if r.1=x then 1 else 0)
def ev (x:Int) (l:Fo):Tb→Rat
 | []=>0
 | r :: T=>co r.1 l*dr x r+ev x l T
def ac1 (f:Fo) (r:Int × Fo):Fo:=(r.1,-(co r.1 f)) :: fmap (fun z=>co r.1 f*z) r.2
def acS (f:Fo):Tb→Fo
 | []=>[]
 | r :: T=>ac1 f r ++ acS f T
theorem wt_mulE (r t:Rat):wt (r*t)≤wt r+wt t:=by
 have e:r*t=Rat.divInt (r.num*t.num) ((r.den:Int)*(t.den:Int)):=by
  rw [←Rat.divInt_mul_divInt,Rat.num_divInt_den,Rat.num_divInt_den]
 have hl:=(low_of (Int.mul_ne_zero (by have:=r.den_pos;omega) (by have:=t.den_pos;omega)) e).le
 have a1:=lt_prod (i:=ln (am r.num)) (j:=ln (am t.num)) (xJ3 (am r.num)) (xJ3 (am t.num))
 have a2:am ((r.den:Int)*(t.den:Int)) < BB ^ (ln r.den+ln t.den):=lt_prod (by show r.den < _;exact xJ3 r.den) (by show t.den < _;exact xJ3 t.den)
 have b1:=xQ4 (Nat.lt_of_le_of_lt hl.1 a1)
 have b2:=xQ4 (Nat.lt_of_le_of_lt hl.2 a2)
 unfold wt
 omega
theorem wts_fmapE (c:Rat):∀ l:Fo,wts (fmap (fun z=>c*z) l)≤l.length*wt c+wts l
 | []=>Nat.zero_le _
 | p :: l=>by
  have ih:=wts_fmapE c l
  have h1:=wt_mulE c p.2
  show wt (c*p.2)+wts (fmap (fun z=>c*z) l)≤(l.length+1)*wt c+(wt p.2+wts l)
  rw [Nat.add_mul]
  omega
theorem wt_neg (r:Rat):wt (-r)=wt r:=by unfold wt;rw [Rat.neg_num,Rat.neg_den,am_neg]
theorem wt_sz {N:Nat} {r:Rat} (h:sz N r):wt r≤2*N+1:=by unfold wt;have:=h.1;have:=h.2;omega
def cntT:Tb→Nat
 | []=>0
 | r :: T=>r.2.length+1+cntT T
def wtsT:Tb→Nat
 | []=>0
 | r :: T=>wts r.2+wtsT T
theorem wts_acS (f:Fo):∀ T:Tb,wts (acS f T)≤cntT T*(2*wts f+3)+wtsT T
 | []=>Nat.zero_le _
 | r :: T=>by
  have ih:=wts_acS f T
  have h1:=wt_sz (co_sz r.1 f)
  have h2:=wts_fmapE (co r.1 f) r.2
  have h3:r.2.length*wt (co r.1 f)≤r.2.length*(2*wts f+3):=Nat.mul_le_mul_left _ (by omega)
  simp only [acS,cntT,wtsT]
  rw [wts_append,Nat.add_mul,Nat.add_mul,Nat.one_mul]
  show wt (-(co r.1 f))+wts (fmap (fun z=>co r.1 f*z) r.2)+wts (acS f T)≤_
  rw [wt_neg]
  omega
theorem acS_length (f:Fo):∀ T:Tb,(acS f T).length=cntT T
 | []=>rfl
 | r :: T=>by
  simp only [acS,cntT,ac1,List.length_append,List.length_cons,fmap_length,acS_length f T]
theorem cnt_bul {w:World}:∀ {R:List RowV},(∀ r∈R,r.2.ok w)→3*cntT (tb R)≤bulT R∧wtsT (tb R)≤bulT R
 | [],_=>⟨Nat.zero_le _,Nat.zero_le _⟩
 | r :: R,h=>by
  have ih:=cnt_bul fun s hs=>h s (List.mem_cons_of_mem _ hs)
  have h1:=bul_len r.2.L
  have h2:=bul_bulkL r.2.L
  have h3:=wts_bulk r.2.L (h r List.mem_cons_self).nums
  have h4:r.2.fo.length=r.2.L.length:=xX3 _
  have h5:wts r.2.fo=wts (fo r.2.L):=rfl
  show 3*(r.2.fo.length+1+cntT (tb R))≤bul r.2.L+3+bulT R∧wts r.2.fo+wtsT (tb R)≤bul r.2.L+3+bulT R
  omega
theorem bulT_take:∀ (R:List RowV) (k:Nat),bulT (R.take k)≤bulT R
 | [],k=>by simp
 | r :: R,0=>Nat.zero_le _
 | r :: R,k+1=>by have:=bulT_take R k;simp only [List.take_succ_cons,bulT];omega
theorem area {n B b:Nat} (h1:3*n≤b) (h2:b+B≤1048576):n*(2*B+3)≤183255000000:=by
 have e:(3*n+B)*(3*n+B)≤1048576*1048576:=Nat.mul_le_mul (by omega) (by omega)
 have e2:4*(3*n*B)≤(3*n+B)*(3*n+B):=by
  have h1:0≤(((3*n:Nat):Int) - B)*(((3*n:Nat):Int) - B):=by
   rcases Int.le_total 0 (((3*n:Nat):Int) - B) with h2 | h2
   ·exact Int.mul_nonneg h2 h2
   ·exact Int.mul_nonneg_of_nonpos_of_nonpos h2 h2
  have h2:(((3*n:Nat):Int)+B)*(((3*n:Nat):Int)+B)=4*(((3*n:Nat):Int)*B)+(((3*n:Nat):Int) - B)*(((3*n:Nat):Int) - B):=by grind
  have h3:(4*(((3*n:Nat):Int)*B))≤(((3*n:Nat):Int)+B)*(((3*n:Nat):Int)+B):=by omega
  exact_mod_cast h3
 have e3:n*(2*B+3)=2*(n*B)+3*n:=by grind
 have e4:4*(3*n*B)=12*(n*B):=by grind
 omega
theorem ac_fits {w:World} {f:Fo} {R:List RowV} {B:Nat} (hR:∀ r∈R,r.2.ok w) (hb:bulT R+B≤1048576) (hf:wts f≤B) (hfl:7*f.length≤B) (k:Nat) :
  wts (f ++ acS f ((tb R).take k))≤183260000000∧(nfm (f ++ acS f ((tb R).take k))).length≤349526:=by
 rw [←tb_take]
 have h1:=cnt_bul (R:=R.take k) fun r hr=>hR r (List.mem_of_mem_take hr)
 have h2:=bulT_take R k
 have h3:=wts_acS f (tb (R.take k))
 have h4:=area (n:=cntT (tb (R.take k))) (B:=wts f) h1.1 (by omega)
 have h5:=xJ0 (f ++ acS f (tb (R.take k)))
 rw [List.length_append,acS_length] at h5
 rw [wts_append]
 have h6:3*cntT (tb (R.take k))≤bulT (R.take k):=h1.1
 constructor <;> omega
structure Exp (w:World) (f:Fo) (B:Nat) (R:List RowV):Prop where
 ok:∀ r∈R,r.2.ok w
 b:bulT R+B≤1048576
 wB:wts f≤B
 len:7*f.length≤B
theorem Exp.cs {w:World} {f:Fo} {B:Nat} {R:List RowV} (h:Exp w f B R) (k:Nat) (x:Int):sz 183260000001 (co x (nfm (f ++ acS f ((tb R).take k)))):=by
 rw [nfm_co]
 exact (co_sz x _).mono (by have:=(ac_fits h.ok h.b h.wB h.len k).1;omega)
theorem Exp.csz {w:World} {f:Fo} {B:Nat} {R:List RowV} (h:Exp w f B R) (v:Int):sz (B+1) (co v f):=(co_sz v f).mono (by have:=h.wB;omega)
def lessF (g:Fo) (v:Int) (c:Rat):Fo:=nfm (g ++ fmap (fun z=>-z) [(v,c)])
theorem Exp.sub {w:World} {f:Fo} {B:Nat} {R:List RowV} (h:Exp w f B R) (k:Nat) (v:Int) (j:Nat) (x:Int) :
  sz 1099511627776 (co x ((nfm (f ++ acS f ((tb R).take k)) ++ nfm (fmap (fun z=>(-1:Rat)*z) [(v,co v f)])).take j)):=by
 have hb:=h.b
 refine (fine_two (fun i y=>nrm_take (nfm_nrm _) (h.cs k) (by omega) i y) (nfm_nrm _) (M:=B+3) (fun y=>?_) (by omega) j x).mono (by omega)
 rw [nfm_co,co_scale]
 have h1:sz 1 (-1:Rat):=⟨by show ln (am (-1))≤1;rw [show am (-1)=1 from rfl,ln_one];exact Nat.le_refl _,by show ln 1≤1;rw [ln_one];exact Nat.le_refl _⟩
 have h2:sz (B+2) (co y [(v,co v f)]):=by
  simp only [co]
  split
  ·rw [Rat.add_zero];exact (h.csz v).mono (by omega)
  ·rw [Rat.add_zero];exact ⟨by show ln (am 0)≤_;rw [show am 0=0 from rfl];exact Nat.le_trans (xQ4 (n:=0) (by simp)) (Nat.zero_le _),by show ln 1≤_;rw [ln_one];omega⟩
 exact (sz_mul h1 h2).mono (by omega)
theorem Exp.less {w:World} {f:Fo} {B:Nat} {R:List RowV} (h:Exp w f B R) (k:Nat) (v:Int) (x:Int):sz 183270000000 (co x (lessF (nfm (f ++ acS f ((tb R).take k))) v (co v f))):=by
 have e:co x (lessF (nfm (f ++ acS f ((tb R).take k))) v (co v f))=co x ((f ++ acS f ((tb R).take k)) ++ fmap (fun z=>-z) [(v,co v f)]):=by
  unfold lessF
  rw [nfm_co,co_append,nfm_co,←co_append]
 rw [e]
 refine (co_sz x _).mono ?_
 rw [wts_append]
 have h1:=(ac_fits h.ok h.b h.wB h.len k).1
 have h2:=wt_sz (h.csz v)
 have h3:wts (fmap (fun z=>-z) [(v,co v f)])=wt (-(co v f))+0:=rfl
 have hb:=h.b
 rw [h3,wt_neg]
 omega
theorem Exp.scale {w:World} {f:Fo} {B:Nat} {R:List RowV} (h:Exp w f B R) {r:RowV} (hr:r∈R) (v:Int) (x:Int):sz 2097155 (co x (nfm (fmap (fun z=>co v f*z) r.2.fo))):=by
 rw [nfm_co,co_scale]
 have h1:=wts_bulk r.2.L (h.ok r hr).nums
 have h2:=bulT_mem hr
 have h3:=bul_bulkL r.2.L
 have h4:wts r.2.fo=wts (fo r.2.L):=rfl
 have hb:=h.b
 exact (sz_mul (h.csz v) (co_sz x r.2.fo)).mono (by omega)
theorem Exp.add {w:World} {f:Fo} {B:Nat} {R:List RowV} (h:Exp w f B R) (k:Nat) {r:RowV} (hr:r∈R) (v:Int) (j:Nat) (x:Int) :
  sz 1099511627776 (co x ((lessF (nfm (f ++ acS f ((tb R).take k))) v (co v f) ++ nfm (fmap (fun z=>co v f*z) r.2.fo)).take j)) :=
 (fine_two (fun i y=>nrm_take (nfm_nrm _) (h.less k v) (by omega) i y) (nfm_nrm _) (fun y=>h.scale hr v y) (by omega) j x).mono (by omega)
end Go.Proofs.YtgfmaejhdbmkoaaGreat
