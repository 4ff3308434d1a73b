import Derived.Test.YtlklfkkbdcglbaaGreatGTI
set_option linter.unusedSimpArgs false
namespace Go.Proofs.YtlklfkkbdcglbaaGreat
open Go.RowKit
set_option linter.unusedVariables false
theorem new7 (w:World) (cs:Array Value) (t:TypeId):(w.alloc (.cells cs t)).heap[w.heap.size]?=some (.cells cs t (0,0)):=World.alloc_heap_new w _
theorem row_nk {w:World} {b:Nat} {x:Int} {F:FV} (h:TAt w (some ⟨b,0,none⟩) [(x,F)]) (hF:F.nk w) (hx:wfI x):TNk w (some ⟨b,0,none⟩) [(x,F)] :=
 ⟨h,fun r hr=>by obtain rfl:=List.mem_singleton.1 hr;exact hF,fun r hr=>by obtain rfl:=List.mem_singleton.1 hr;exact hx⟩
theorem short_S {S:List RowV} (h:tb S=[(2,[(0,1),(1,1)])]):∀ r∈S,r.2.L.length≤2097152:=fun r hr=>by
 have h1:(r.1,r.2.fo)∈tb S:=List.mem_map.2 ⟨r,hr,rfl⟩
 rw [h] at h1
 simp at h1
 have h2:=congrArg List.length h1.2
 unfold FV.fo at h2
 rw [fo_length] at h2
 simp at h2
 omega
set_option maxHeartbeats 16000000 in
set_option maxRecDepth 100000 in
theorem lives_is (w:World):Calls Tryz.prog 17 #[] w fun e w'=>e=.returned (.bool true)∧Below w.heap.size w w':=by
 have GN:=hide' (fun w'=>pNew_is 2 w')
 rw [show newV 2=2 from rfl,show newE 2=0 from rfl] at GN
 have GM:=hide' (fun v w'=>mono1_is v w')
 have GD:=hide' (fun w' b P Q B C (h:FAt w' (some ⟨b,0,none⟩) [(1,P),(0,Q)]) (hP:OneQ w' B P) (hQ:OneQ w' C Q)=>define2_is h hP hQ)
 have GA:=hide' (fun w' a c (S:List RowV) (hS:TNk w' a S) (hc:S.length≤c) (h1:S.length≤1) (hs:tb S=[(2,[(0,1),(1,1)])]) b F (hR:TNk w' (some ⟨b,0,none⟩) [(2,F)]) (hf:F.fo=[(0,1),(1,1)])=>alike_is 3 a c S (some ⟨b,0,none⟩) 1 [(2,F)] w' hS hR hc (Nat.le_refl _) (by omega) (short_S hs) (by rw [hs];show _=[((2:Int),F.fo)];rw [hf]))
 go_enter Tryz.func17,Tryz.ntmps17
 go_wp2_with fail
 refine (GN.out w).mono ?_
 rintro e w1 ⟨rfl,b1⟩
 clear GN
 have bA:=below_alloc (w:=w1) (.cells #[.int .i64 2,.slice none 0 0] 24)
 have kb:=Bk2.new w1 2 none 0 0 24
 have hBw:=b1.trans (bA.mono b1.size)
 have hrb:=b1.size
 clear b1 bA
 go_wp2_with fail
 obtain ⟨wA,hwA⟩:∃ wA,w1.alloc (.cells #[.int .i64 2,.slice none 0 0] 24)=wA:=⟨_,rfl⟩
 rw [hwA] at kb hBw ⊢
 clear hwA
 obtain ⟨rb,hr⟩:∃ rb,w1.heap.size=rb:=⟨_,rfl⟩
 rw [hr] at kb hrb ⊢
 clear hr
 try go_wp2_with fail
 have bD:Below wA.heap.size wA wA.drew:=(Below.refl _ _).drew
 replace hBw:=hBw.trans (bD.mono hBw.size)
 replace kb:=kb.later bD
 refine wp_region_held_drew (S:=fun w'=>True) (by kernel_rfl) trivial (fun hHeld=>?_)
 generalize wA.drew=w4 at bD kb hBw hHeld ⊢
 clear bD
 refine wpAnyH_ready (rs:=[0,1]) (by kernel_rfl) (by simp) ?_
 refine consT rfl (fun KK hKK=>?_) ?_
 ·skip
  have z0:=kb.cell0
  have z1:=kb.cell1
  go_simp
  clear z0 z1
  refine hKK.out _ _ hHeld ?_
  clear hHeld
  intro hHeld
  clear hKK KK
  try simp only [pP,pN,pS,pZ,pC]
  refine wpAnyH_ready (rs:=[1]) (by kernel_rfl) (by simp) ?_
  refine cons' rfl (fun KK hKK=>?_)
  go_simp
  refine (GM.out 1 _).mono ?_
  rintro e w5 ⟨P,rfl,qP,bN⟩
  have bC:=bN
  replace hBw:=hBw.trans (bC.mono hBw.size)
  replace kb:=kb.later bC
  clear bC
  go_wp2_with fail
  clear bN
  refine hKK.out _ _ hHeld ?_
  clear hHeld
  intro hHeld
  clear hKK KK
  try simp only [pP,pN,pS,pZ,pC]
  refine wpAnyH_ready (rs:=[2]) (by kernel_rfl) (by simp) ?_
  refine cons' rfl (fun KK hKK=>?_)
  go_simp
  refine (GM.out 0 _).mono ?_
  rintro e w6 ⟨Q,rfl,qQ,bN⟩
  have bC:=bN
  replace hBw:=hBw.trans (bC.mono hBw.size)
  replace kb:=kb.later bC
  replace qP:=qP.later bC
  clear bC
  go_wp2_with fail
  clear bN
  refine hKK.out _ _ hHeld ?_
  clear hHeld
  intro hHeld
  clear hKK KK
  try simp only [pP,pN,pS,pZ,pC]
  refine wpAnyH_ready (rs:=[3]) (by kernel_rfl) (by simp) ?_
  refine cons' rfl (fun KK hKK=>?_)
  go_simp
  have hat:=two_at (new7 w6 #[.int .i64 1,.bool P.s,.slice P.a P.n P.c,.slice P.b P.m P.e,.int .i64 0,.bool Q.s,.slice Q.a Q.n Q.c,.slice Q.b Q.m Q.e] 76)
  have b3:=below_alloc (w:=w6) (.cells #[.int .i64 1,.bool P.s,.slice P.a P.n P.c,.slice P.b P.m P.e,.int .i64 0,.bool Q.s,.slice Q.a Q.n Q.c,.slice Q.b Q.m Q.e] 76)
  generalize w6.alloc (.cells #[.int .i64 1,.bool P.s,.slice P.a P.n P.c,.slice P.b P.m P.e,.int .i64 0,.bool Q.s,.slice Q.a Q.n Q.c,.slice Q.b Q.m Q.e] 76)=w7 at hat b3 ⊢
  replace hBw:=hBw.trans (b3.mono hBw.size)
  replace kb:=kb.later b3
  replace qP:=qP.later b3
  replace qQ:=qQ.later b3
  clear b3
  refine hKK.out _ _ hHeld ?_
  clear hHeld
  intro hHeld
  clear hKK KK
  try simp only [pP,pN,pS,pZ,pC]
  refine wpAnyH_ready (rs:=[4]) (by kernel_rfl) (by simp) ?_
  refine cons' rfl (fun KK hKK=>?_)
  have h7:=kb.lt
  go_simp
  refine (GD.out _ _ _ _ _ _ hat qP qQ).mono ?_
  rintro e w8 ⟨a,c,S,rfl,hn,hc,h1,hs,b8,hf⟩
  have bC:=b8
  replace hBw:=hBw.trans (bC.mono hBw.size)
  replace kb:=kb.later bC
  replace qP:=qP.later bC
  replace qQ:=qQ.later bC
  replace hat:=hat.later bC
  clear bC
  go_wp2_with fail
  have hne:∀ ad,a=some ad→S≠[]→ad.block≠rb:=fun ad e h=>by have h2:=hf ad e h;omega
  clear b8 h7 hf hat qP qQ GD
  refine hKK.out _ _ hHeld ?_
  clear hHeld
  intro hHeld
  clear hKK KK
  try simp only [pP,pN,pS,pZ,pC]
  refine tk 5 (v:=?_) rfl (Or.inl ⟨by rfl,?_⟩) ?_
  rotate_left
  ·intro w9 hSw
   go_simp
   first | done | with_reducible rfl
  simp only [pP,pN,pS,pZ,pC]
  refine tk 6 (v:=?_) rfl (Or.inl ⟨by rfl,?_⟩) ?_
  rotate_left
  ·intro w9 hSw
   go_simp
   first | done | with_reducible rfl
  simp only [pP,pN,pS,pZ,pC]
  refine tk 7 (v:=?_) rfl (Or.inl ⟨by rfl,?_⟩) ?_
  rotate_left
  ·intro w9 hSw
   go_simp
   first | done | with_reducible rfl
  simp only [pP,pN,pS,pZ,pC]
  refine tk 8 (v:=?_) rfl (Or.inl ⟨by rfl,?_⟩) ?_
  rotate_left
  ·intro w9 hSw
   go_simp
   first | done | with_reducible rfl
  simp only [pP,pN,pS,pZ,pC]
  refine wpAnyH_ready (rs:=[9]) (by kernel_rfl) (by simp) ?_
  refine cons' rfl (fun KK hKK=>?_)
  have z0:=kb.cell0
  have z1:=kb.cell1
  have fz:=fun o=>kb.row.frozen o
  have hy0:((w8.setCell ⟨rb,0,none⟩ (.int .i64 3)).setCell ⟨rb,1,none⟩ (.slice a S.length c)).cell? ⟨rb,0,none⟩=some (.int .i64 3):=(World.cell?_setCell_other _ _ _ _ (fun e=>by simp at e)).trans (World.cell?_setCell_same _ _ _ z0)
  have hy1:((w8.setCell ⟨rb,0,none⟩ (.int .i64 3)).setCell ⟨rb,1,none⟩ (.slice a S.length c)).cell? ⟨rb,1,none⟩=some (.slice a S.length c):=World.cell?_setCell_same _ _ _ ((World.cell?_setCell_other _ _ _ _ (fun e=>by simp at e)).trans z1)
  replace hn:TNk ((w8.setCell ⟨rb,0,none⟩ (.int .i64 3)).setCell ⟨rb,1,none⟩ (.slice a S.length c)) a S:=(hn.set kb hne).set (kb.set (b:=none) (k:=0) (l:=0)) hne
  replace hBw:Below w.heap.size w ((w8.setCell ⟨rb,0,none⟩ (.int .i64 3)).setCell ⟨rb,1,none⟩ (.slice a S.length c)):=(hBw.setCell hrb _).setCell hrb _
  clear kb hne
  go_simp
  refine hKK.out _ _ hHeld ?_
  clear hHeld
  intro hHeld
  clear hKK KK
  try simp only [pP,pN,pS,pZ,pC]
  clear z0 z1 fz
  generalize ((w8.setCell ⟨rb,0,none⟩ (.int .i64 3)).setCell ⟨rb,1,none⟩ (.slice a S.length c))=w9 at hy0 hy1 hn hBw ⊢
  refine tk 10 (v:=?_) rfl (Or.inl ⟨by rfl,?_⟩) ?_
  rotate_left
  ·intro w9 hSw
   go_simp
   first | done | with_reducible rfl
  simp only [pP,pN,pS,pZ,pC]
  refine tk 11 (v:=?_) rfl (Or.inl ⟨by rfl,?_⟩) ?_
  rotate_left
  ·intro w9 hSw
   go_simp
   first | done | with_reducible rfl
  simp only [pP,pN,pS,pZ,pC]
  refine wpAnyH_done (by kernel_rfl) ?_ _
  try clear hHeld
  go_wp2_with fail
  have bD:Below w9.heap.size w9 w9.drew:=(Below.refl _ _).drew
  have khy0:=below_cell bD hy0
  have khy1:=below_cell bD hy1
  replace hBw:=hBw.trans (bD.mono hBw.size)
  replace hn:=hn.later bD
  refine wp_region_held_drew (S:=fun w'=>w'.cell? ⟨rb,0,none⟩=some (.int .i64 3)∧w'.cell? ⟨rb,1,none⟩=some (.slice a S.length c)) (by kernel_rfl) ⟨khy0,khy1⟩ (fun hHeld=>?_)
  clear khy0 khy1
  generalize w9.drew=v4 at bD hn hBw hHeld ⊢
  clear bD hy0 hy1
  refine tk 0 (v:=?_) rfl (Or.inl ⟨by rfl,?_⟩) ?_
  rotate_left
  ·intro w9 hSw
   go_simp
   first | done | with_reducible rfl
  simp only [pP,pN,pS,pZ,pC]
  refine tk 1 (v:=?_) rfl (Or.inl ⟨by rfl,?_⟩) ?_
  rotate_left
  ·intro w9 hSw
   go_simp
   first | done | with_reducible rfl
  simp only [pP,pN,pS,pZ,pC]
  refine tk 2 (v:=?_) rfl (Or.inl ⟨by rfl,?_⟩) ?_
  rotate_left
  ·intro w9 hSw
   go_simp
   first | done | with_reducible rfl
  simp only [pP,pN,pS,pZ,pC]
  refine tk 3 (v:=?_) rfl (Or.inl ⟨by rfl,?_⟩) ?_
  rotate_left
  ·intro w9 hSw
   go_simp
   first | done | with_reducible rfl
  simp only [pP,pN,pS,pZ,pC]
  refine tk 4 (v:=?_) rfl (Or.inl ⟨by rfl,?_⟩) ?_
  rotate_left
  ·intro w9 hSw
   go_simp
   first | done | with_reducible rfl
  simp only [pP,pN,pS,pZ,pC]
  refine tk 5 (v:=?_) rfl (Or.inl ⟨by rfl,?_⟩) ?_
  rotate_left
  ·intro w9 hSw
   go_simp
   first | done | with_reducible rfl
  simp only [pP,pN,pS,pZ,pC]
  refine tk 6 (v:=?_) rfl (Or.inl ⟨by rfl,?_⟩) ?_
  rotate_left
  ·intro w9 hSw
   go_simp
   first | done | with_reducible rfl
  simp only [pP,pN,pS,pZ,pC]
  refine tk 7 (v:=?_) rfl (Or.inl ⟨by rfl,?_⟩) ?_
  rotate_left
  ·intro w9 hSw
   go_simp
   first | done | with_reducible rfl
  simp only [pP,pN,pS,pZ,pC]
  refine wpAnyH_ready (rs:=[8]) (by kernel_rfl) (by simp) ?_
  refine cons' rfl (fun KK hKK=>?_)
  go_simp
  refine (GM.out 0 _).mono ?_
  rintro e v5 ⟨P,rfl,qP,bN⟩
  have bC:=bN
  replace hBw:=hBw.trans (bC.mono hBw.size)
  replace hn:=hn.later bC
  replace hHeld:=(⟨below_cell bC hHeld.1,below_cell bC hHeld.2⟩:_∧_)
  clear bC
  go_wp2_with fail
  clear bN
  refine hKK.out _ _ hHeld ?_
  clear hHeld
  intro hHeld
  clear hKK KK
  try simp only [pP,pN,pS,pZ,pC]
  refine wpAnyH_ready (rs:=[9]) (by kernel_rfl) (by simp) ?_
  refine cons' rfl (fun KK hKK=>?_)
  go_simp
  refine (GM.out 1 _).mono ?_
  rintro e v6 ⟨Q,rfl,qQ,bN⟩
  have bC:=bN
  replace hBw:=hBw.trans (bC.mono hBw.size)
  replace hn:=hn.later bC
  replace qP:=qP.later bC
  replace hHeld:=(⟨below_cell bC hHeld.1,below_cell bC hHeld.2⟩:_∧_)
  clear bC
  go_wp2_with fail
  clear bN
  refine hKK.out _ _ hHeld ?_
  clear hHeld
  intro hHeld
  clear hKK KK
  try simp only [pP,pN,pS,pZ,pC]
  refine wpAnyH_ready (rs:=[10]) (by kernel_rfl) (by simp) ?_
  refine cons' rfl (fun KK hKK=>?_)
  go_simp
  have hat:=two_at (new7 v6 #[.int .i64 0,.bool P.s,.slice P.a P.n P.c,.slice P.b P.m P.e,.int .i64 1,.bool Q.s,.slice Q.a Q.n Q.c,.slice Q.b Q.m Q.e] 76)
  have b3:=below_alloc (w:=v6) (.cells #[.int .i64 0,.bool P.s,.slice P.a P.n P.c,.slice P.b P.m P.e,.int .i64 1,.bool Q.s,.slice Q.a Q.n Q.c,.slice Q.b Q.m Q.e] 76)
  generalize v6.alloc (.cells #[.int .i64 0,.bool P.s,.slice P.a P.n P.c,.slice P.b P.m P.e,.int .i64 1,.bool Q.s,.slice Q.a Q.n Q.c,.slice Q.b Q.m Q.e] 76)=v7 at hat b3 ⊢
  replace hBw:=hBw.trans (b3.mono hBw.size)
  replace hn:=hn.later b3
  replace qP:=qP.later b3
  replace qQ:=qQ.later b3
  replace hHeld:=(⟨below_cell b3 hHeld.1,below_cell b3 hHeld.2⟩:_∧_)
  clear b3
  refine hKK.out _ _ hHeld ?_
  clear hHeld
  intro hHeld
  clear hKK KK
  try simp only [pP,pN,pS,pZ,pC]
  have hFk:=two_nk hat qP qQ
  have hFo:=two_fo (b:=v6.heap.size) (x:=0) (y:=1) qP qQ
  clear hat qP qQ
  refine tk 11 (v:=?_) rfl (Or.inl ⟨by rfl,?_⟩) ?_
  rotate_left
  ·intro w9 hSw
   go_simp
   first | done | with_reducible rfl
  simp only [pP,pN,pS,pZ,pC]
  refine wpAnyH_ready (rs:=[12]) (by kernel_rfl) (by simp) ?_
  refine cons' rfl (fun KK hKK=>?_)
  go_simp
  have hrw:TAt _ (some ⟨v7.heap.size,0,none⟩) [((2:Int),(⟨some ⟨v6.heap.size,0,none⟩,2,[(0,P),(1,Q)]⟩:FV))]:=row_at (new7 v7 #[.int .i64 2,.slice (some ⟨v6.heap.size,0,none⟩) 2 2] 65)
  have b3:=below_alloc (w:=v7) (.cells #[.int .i64 2,.slice (some ⟨v6.heap.size,0,none⟩) 2 2] 65)
  generalize v7.alloc (.cells #[.int .i64 2,.slice (some ⟨v6.heap.size,0,none⟩) 2 2] 65)=v8 at hrw b3 ⊢
  replace hBw:=hBw.trans (b3.mono hBw.size)
  replace hn:=hn.later b3
  replace hFk:=hFk.later b3
  replace hHeld:=(⟨below_cell b3 hHeld.1,below_cell b3 hHeld.2⟩:_∧_)
  clear b3
  refine hKK.out _ _ hHeld ?_
  clear hHeld
  intro hHeld
  clear hKK KK
  try simp only [pP,pN,pS,pZ,pC]
  have hRk:=row_nk hrw hFk (wfI_of (by omega) (by omega))
  clear hrw hFk
  refine tk 13 (v:=?_) rfl (Or.inl ⟨by rfl,?_⟩) ?_
  rotate_left
  ·intro w9 hSw
   go_simp
   first | done | with_reducible rfl
  simp only [pP,pN,pS,pZ,pC]
  refine wpAnyH_ready (rs:=[14]) (by kernel_rfl) (by simp) ?_
  refine cons' rfl (fun KK hKK=>?_)
  go_simp
  refine (GA.out _ a c S hn hc h1 hs _ _ hRk hFo).mono ?_
  rintro e v9 ⟨rfl,b9⟩
  have bC:=b9
  replace hBw:=hBw.trans (bC.mono hBw.size)
  replace hn:=hn.later bC
  replace hRk:=hRk.later bC
  replace hHeld:=(⟨below_cell bC hHeld.1,below_cell bC hHeld.2⟩:_∧_)
  clear bC
  go_wp2_with fail
  clear b9
  refine hKK.out _ _ hHeld ?_
  clear hHeld
  intro hHeld
  clear hKK KK
  try simp only [pP,pN,pS,pZ,pC]
  refine tk 15 (v:=?_) rfl (Or.inl ⟨by rfl,?_⟩) ?_
  rotate_left
  ·intro w9 hSw
   go_simp
   first | done | with_reducible rfl
  simp only [pP,pN,pS,pZ,pC]
  refine tk 16 (v:=?_) rfl (Or.inl ⟨by rfl,?_⟩) ?_
  rotate_left
  ·intro w9 hSw
   go_simp
   first | done | with_reducible rfl
  simp only [pP,pN,pS,pZ,pC]
  refine wpAnyH_done (by kernel_rfl) ?_ _
  go_wp2
  first | exact ⟨rfl,hBw⟩ | (go_ret;exact ⟨rfl,hBw⟩)
 refine consT rfl (fun KK hKK=>?_) ?_
 ·skip
  go_simp
  refine (GM.out 1 _).mono ?_
  rintro e w5 ⟨P,rfl,qP,bN⟩
  have bC:=bN
  replace hBw:=hBw.trans (bC.mono hBw.size)
  replace kb:=kb.later bC
  clear bC
  go_wp2_with fail
  clear bN
  refine hKK.out _ _ hHeld ?_
  clear hHeld
  intro hHeld
  clear hKK KK
  try simp only [pP,pN,pS,pZ,pC]
  refine wpAnyH_ready (rs:=[0,2]) (by kernel_rfl) (by simp) ?_
  refine consT rfl (fun KK hKK=>?_) ?_
  ·skip
   have z0:=kb.cell0
   have z1:=kb.cell1
   go_simp
   clear z0 z1
   refine hKK.out _ _ hHeld ?_
   clear hHeld
   intro hHeld
   clear hKK KK
   try simp only [pP,pN,pS,pZ,pC]
   refine wpAnyH_ready (rs:=[2]) (by kernel_rfl) (by simp) ?_
   refine cons' rfl (fun KK hKK=>?_)
   go_simp
   refine (GM.out 0 _).mono ?_
   rintro e w6 ⟨Q,rfl,qQ,bN⟩
   have bC:=bN
   replace hBw:=hBw.trans (bC.mono hBw.size)
   replace kb:=kb.later bC
   replace qP:=qP.later bC
   clear bC
   go_wp2_with fail
   clear bN
   refine hKK.out _ _ hHeld ?_
   clear hHeld
   intro hHeld
   clear hKK KK
   try simp only [pP,pN,pS,pZ,pC]
   refine wpAnyH_ready (rs:=[3]) (by kernel_rfl) (by simp) ?_
   refine cons' rfl (fun KK hKK=>?_)
   go_simp
   have hat:=two_at (new7 w6 #[.int .i64 1,.bool P.s,.slice P.a P.n P.c,.slice P.b P.m P.e,.int .i64 0,.bool Q.s,.slice Q.a Q.n Q.c,.slice Q.b Q.m Q.e] 76)
   have b3:=below_alloc (w:=w6) (.cells #[.int .i64 1,.bool P.s,.slice P.a P.n P.c,.slice P.b P.m P.e,.int .i64 0,.bool Q.s,.slice Q.a Q.n Q.c,.slice Q.b Q.m Q.e] 76)
   generalize w6.alloc (.cells #[.int .i64 1,.bool P.s,.slice P.a P.n P.c,.slice P.b P.m P.e,.int .i64 0,.bool Q.s,.slice Q.a Q.n Q.c,.slice Q.b Q.m Q.e] 76)=w7 at hat b3 ⊢
   replace hBw:=hBw.trans (b3.mono hBw.size)
   replace kb:=kb.later b3
   replace qP:=qP.later b3
   replace qQ:=qQ.later b3
   clear b3
   refine hKK.out _ _ hHeld ?_
   clear hHeld
   intro hHeld
   clear hKK KK
   try simp only [pP,pN,pS,pZ,pC]
   refine wpAnyH_ready (rs:=[4]) (by kernel_rfl) (by simp) ?_
   refine cons' rfl (fun KK hKK=>?_)
   have h7:=kb.lt
   go_simp
   refine (GD.out _ _ _ _ _ _ hat qP qQ).mono ?_
   rintro e w8 ⟨a,c,S,rfl,hn,hc,h1,hs,b8,hf⟩
   have bC:=b8
   replace hBw:=hBw.trans (bC.mono hBw.size)
   replace kb:=kb.later bC
   replace qP:=qP.later bC
   replace qQ:=qQ.later bC
   replace hat:=hat.later bC
   clear bC
   go_wp2_with fail
   have hne:∀ ad,a=some ad→S≠[]→ad.block≠rb:=fun ad e h=>by have h2:=hf ad e h;omega
   clear b8 h7 hf hat qP qQ GD
   refine hKK.out _ _ hHeld ?_
   clear hHeld
   intro hHeld
   clear hKK KK
   try simp only [pP,pN,pS,pZ,pC]
   refine tk 5 (v:=?_) rfl (Or.inl ⟨by rfl,?_⟩) ?_
   rotate_left
   ·intro w9 hSw
    go_simp
    first | done | with_reducible rfl
   simp only [pP,pN,pS,pZ,pC]
   refine tk 6 (v:=?_) rfl (Or.inl ⟨by rfl,?_⟩) ?_
   rotate_left
   ·intro w9 hSw
    go_simp
    first | done | with_reducible rfl
   simp only [pP,pN,pS,pZ,pC]
   refine tk 7 (v:=?_) rfl (Or.inl ⟨by rfl,?_⟩) ?_
   rotate_left
   ·intro w9 hSw
    go_simp
    first | done | with_reducible rfl
   simp only [pP,pN,pS,pZ,pC]
   refine tk 8 (v:=?_) rfl (Or.inl ⟨by rfl,?_⟩) ?_
   rotate_left
   ·intro w9 hSw
    go_simp
    first | done | with_reducible rfl
   simp only [pP,pN,pS,pZ,pC]
   refine wpAnyH_ready (rs:=[9]) (by kernel_rfl) (by simp) ?_
   refine cons' rfl (fun KK hKK=>?_)
   have z0:=kb.cell0
   have z1:=kb.cell1
   have fz:=fun o=>kb.row.frozen o
   have hy0:((w8.setCell ⟨rb,0,none⟩ (.int .i64 3)).setCell ⟨rb,1,none⟩ (.slice a S.length c)).cell? ⟨rb,0,none⟩=some (.int .i64 3):=(World.cell?_setCell_other _ _ _ _ (fun e=>by simp at e)).trans (World.cell?_setCell_same _ _ _ z0)
   have hy1:((w8.setCell ⟨rb,0,none⟩ (.int .i64 3)).setCell ⟨rb,1,none⟩ (.slice a S.length c)).cell? ⟨rb,1,none⟩=some (.slice a S.length c):=World.cell?_setCell_same _ _ _ ((World.cell?_setCell_other _ _ _ _ (fun e=>by simp at e)).trans z1)
   replace hn:TNk ((w8.setCell ⟨rb,0,none⟩ (.int .i64 3)).setCell ⟨rb,1,none⟩ (.slice a S.length c)) a S:=(hn.set kb hne).set (kb.set (b:=none) (k:=0) (l:=0)) hne
   replace hBw:Below w.heap.size w ((w8.setCell ⟨rb,0,none⟩ (.int .i64 3)).setCell ⟨rb,1,none⟩ (.slice a S.length c)):=(hBw.setCell hrb _).setCell hrb _
   clear kb hne
   go_simp
   refine hKK.out _ _ hHeld ?_
   clear hHeld
   intro hHeld
   clear hKK KK
   try simp only [pP,pN,pS,pZ,pC]
   clear z0 z1 fz
   generalize ((w8.setCell ⟨rb,0,none⟩ (.int .i64 3)).setCell ⟨rb,1,none⟩ (.slice a S.length c))=w9 at hy0 hy1 hn hBw ⊢
   refine tk 10 (v:=?_) rfl (Or.inl ⟨by rfl,?_⟩) ?_
   rotate_left
   ·intro w9 hSw
    go_simp
    first | done | with_reducible rfl
   simp only [pP,pN,pS,pZ,pC]
   refine tk 11 (v:=?_) rfl (Or.inl ⟨by rfl,?_⟩) ?_
   rotate_left
   ·intro w9 hSw
    go_simp
    first | done | with_reducible rfl
   simp only [pP,pN,pS,pZ,pC]
   refine wpAnyH_done (by kernel_rfl) ?_ _
   try clear hHeld
   go_wp2_with fail
   have bD:Below w9.heap.size w9 w9.drew:=(Below.refl _ _).drew
   have khy0:=below_cell bD hy0
   have khy1:=below_cell bD hy1
   replace hBw:=hBw.trans (bD.mono hBw.size)
   replace hn:=hn.later bD
   refine wp_region_held_drew (S:=fun w'=>w'.cell? ⟨rb,0,none⟩=some (.int .i64 3)∧w'.cell? ⟨rb,1,none⟩=some (.slice a S.length c)) (by kernel_rfl) ⟨khy0,khy1⟩ (fun hHeld=>?_)
   clear khy0 khy1
   generalize w9.drew=v4 at bD hn hBw hHeld ⊢
   clear bD hy0 hy1
   refine tk 0 (v:=?_) rfl (Or.inl ⟨by rfl,?_⟩) ?_
   rotate_left
   ·intro w9 hSw
    go_simp
    first | done | with_reducible rfl
   simp only [pP,pN,pS,pZ,pC]
   refine tk 1 (v:=?_) rfl (Or.inl ⟨by rfl,?_⟩) ?_
   rotate_left
   ·intro w9 hSw
    go_simp
    first | done | with_reducible rfl
   simp only [pP,pN,pS,pZ,pC]
   refine tk 2 (v:=?_) rfl (Or.inl ⟨by rfl,?_⟩) ?_
   rotate_left
   ·intro w9 hSw
    go_simp
    first | done | with_reducible rfl
   simp only [pP,pN,pS,pZ,pC]
   refine tk 3 (v:=?_) rfl (Or.inl ⟨by rfl,?_⟩) ?_
   rotate_left
   ·intro w9 hSw
    go_simp
    first | done | with_reducible rfl
   simp only [pP,pN,pS,pZ,pC]
   refine tk 4 (v:=?_) rfl (Or.inl ⟨by rfl,?_⟩) ?_
   rotate_left
   ·intro w9 hSw
    go_simp
    first | done | with_reducible rfl
   simp only [pP,pN,pS,pZ,pC]
   refine tk 5 (v:=?_) rfl (Or.inl ⟨by rfl,?_⟩) ?_
   rotate_left
   ·intro w9 hSw
    go_simp
    first | done | with_reducible rfl
   simp only [pP,pN,pS,pZ,pC]
   refine tk 6 (v:=?_) rfl (Or.inl ⟨by rfl,?_⟩) ?_
   rotate_left
   ·intro w9 hSw
    go_simp
    first | done | with_reducible rfl
   simp only [pP,pN,pS,pZ,pC]
   refine tk 7 (v:=?_) rfl (Or.inl ⟨by rfl,?_⟩) ?_
   rotate_left
   ·intro w9 hSw
    go_simp
    first | done | with_reducible rfl
   simp only [pP,pN,pS,pZ,pC]
   refine wpAnyH_ready (rs:=[8]) (by kernel_rfl) (by simp) ?_
   refine cons' rfl (fun KK hKK=>?_)
   go_simp
   refine (GM.out 0 _).mono ?_
   rintro e v5 ⟨P,rfl,qP,bN⟩
   have bC:=bN
   replace hBw:=hBw.trans (bC.mono hBw.size)
   replace hn:=hn.later bC
   replace hHeld:=(⟨below_cell bC hHeld.1,below_cell bC hHeld.2⟩:_∧_)
   clear bC
   go_wp2_with fail
   clear bN
   refine hKK.out _ _ hHeld ?_
   clear hHeld
   intro hHeld
   clear hKK KK
   try simp only [pP,pN,pS,pZ,pC]
   refine wpAnyH_ready (rs:=[9]) (by kernel_rfl) (by simp) ?_
   refine cons' rfl (fun KK hKK=>?_)
   go_simp
   refine (GM.out 1 _).mono ?_
   rintro e v6 ⟨Q,rfl,qQ,bN⟩
   have bC:=bN
   replace hBw:=hBw.trans (bC.mono hBw.size)
   replace hn:=hn.later bC
   replace qP:=qP.later bC
   replace hHeld:=(⟨below_cell bC hHeld.1,below_cell bC hHeld.2⟩:_∧_)
   clear bC
   go_wp2_with fail
   clear bN
   refine hKK.out _ _ hHeld ?_
   clear hHeld
   intro hHeld
   clear hKK KK
   try simp only [pP,pN,pS,pZ,pC]
   refine wpAnyH_ready (rs:=[10]) (by kernel_rfl) (by simp) ?_
   refine cons' rfl (fun KK hKK=>?_)
   go_simp
   have hat:=two_at (new7 v6 #[.int .i64 0,.bool P.s,.slice P.a P.n P.c,.slice P.b P.m P.e,.int .i64 1,.bool Q.s,.slice Q.a Q.n Q.c,.slice Q.b Q.m Q.e] 76)
   have b3:=below_alloc (w:=v6) (.cells #[.int .i64 0,.bool P.s,.slice P.a P.n P.c,.slice P.b P.m P.e,.int .i64 1,.bool Q.s,.slice Q.a Q.n Q.c,.slice Q.b Q.m Q.e] 76)
   generalize v6.alloc (.cells #[.int .i64 0,.bool P.s,.slice P.a P.n P.c,.slice P.b P.m P.e,.int .i64 1,.bool Q.s,.slice Q.a Q.n Q.c,.slice Q.b Q.m Q.e] 76)=v7 at hat b3 ⊢
   replace hBw:=hBw.trans (b3.mono hBw.size)
   replace hn:=hn.later b3
   replace qP:=qP.later b3
   replace qQ:=qQ.later b3
   replace hHeld:=(⟨below_cell b3 hHeld.1,below_cell b3 hHeld.2⟩:_∧_)
   clear b3
   refine hKK.out _ _ hHeld ?_
   clear hHeld
   intro hHeld
   clear hKK KK
   try simp only [pP,pN,pS,pZ,pC]
   have hFk:=two_nk hat qP qQ
   have hFo:=two_fo (b:=v6.heap.size) (x:=0) (y:=1) qP qQ
   clear hat qP qQ
   refine tk 11 (v:=?_) rfl (Or.inl ⟨by rfl,?_⟩) ?_
   rotate_left
   ·intro w9 hSw
    go_simp
    first | done | with_reducible rfl
   simp only [pP,pN,pS,pZ,pC]
   refine wpAnyH_ready (rs:=[12]) (by kernel_rfl) (by simp) ?_
   refine cons' rfl (fun KK hKK=>?_)
   go_simp
   have hrw:TAt _ (some ⟨v7.heap.size,0,none⟩) [((2:Int),(⟨some ⟨v6.heap.size,0,none⟩,2,[(0,P),(1,Q)]⟩:FV))]:=row_at (new7 v7 #[.int .i64 2,.slice (some ⟨v6.heap.size,0,none⟩) 2 2] 65)
   have b3:=below_alloc (w:=v7) (.cells #[.int .i64 2,.slice (some ⟨v6.heap.size,0,none⟩) 2 2] 65)
   generalize v7.alloc (.cells #[.int .i64 2,.slice (some ⟨v6.heap.size,0,none⟩) 2 2] 65)=v8 at hrw b3 ⊢
   replace hBw:=hBw.trans (b3.mono hBw.size)
   replace hn:=hn.later b3
   replace hFk:=hFk.later b3
   replace hHeld:=(⟨below_cell b3 hHeld.1,below_cell b3 hHeld.2⟩:_∧_)
   clear b3
   refine hKK.out _ _ hHeld ?_
   clear hHeld
   intro hHeld
   clear hKK KK
   try simp only [pP,pN,pS,pZ,pC]
   have hRk:=row_nk hrw hFk (wfI_of (by omega) (by omega))
   clear hrw hFk
   refine tk 13 (v:=?_) rfl (Or.inl ⟨by rfl,?_⟩) ?_
   rotate_left
   ·intro w9 hSw
    go_simp
    first | done | with_reducible rfl
   simp only [pP,pN,pS,pZ,pC]
   refine wpAnyH_ready (rs:=[14]) (by kernel_rfl) (by simp) ?_
   refine cons' rfl (fun KK hKK=>?_)
   go_simp
   refine (GA.out _ a c S hn hc h1 hs _ _ hRk hFo).mono ?_
   rintro e v9 ⟨rfl,b9⟩
   have bC:=b9
   replace hBw:=hBw.trans (bC.mono hBw.size)
   replace hn:=hn.later bC
   replace hRk:=hRk.later bC
   replace hHeld:=(⟨below_cell bC hHeld.1,below_cell bC hHeld.2⟩:_∧_)
   clear bC
   go_wp2_with fail
   clear b9
   refine hKK.out _ _ hHeld ?_
   clear hHeld
   intro hHeld
   clear hKK KK
   try simp only [pP,pN,pS,pZ,pC]
   refine tk 15 (v:=?_) rfl (Or.inl ⟨by rfl,?_⟩) ?_
   rotate_left
   ·intro w9 hSw
    go_simp
    first | done | with_reducible rfl
   simp only [pP,pN,pS,pZ,pC]
   refine tk 16 (v:=?_) rfl (Or.inl ⟨by rfl,?_⟩) ?_
   rotate_left
   ·intro w9 hSw
    go_simp
    first | done | with_reducible rfl
   simp only [pP,pN,pS,pZ,pC]
   refine wpAnyH_done (by kernel_rfl) ?_ _
   go_wp2
   first | exact ⟨rfl,hBw⟩ | (go_ret;exact ⟨rfl,hBw⟩)
  refine consT rfl (fun KK hKK=>?_) ?_
  ·skip
   go_simp
   refine (GM.out 0 _).mono ?_
   rintro e w6 ⟨Q,rfl,qQ,bN⟩
   have bC:=bN
   replace hBw:=hBw.trans (bC.mono hBw.size)
   replace kb:=kb.later bC
   replace qP:=qP.later bC
   clear bC
   go_wp2_with fail
   clear bN
   refine hKK.out _ _ hHeld ?_
   clear hHeld
   intro hHeld
   clear hKK KK
   try simp only [pP,pN,pS,pZ,pC]
   refine wpAnyH_ready (rs:=[0,3]) (by kernel_rfl) (by simp) ?_
   refine consT rfl (fun KK hKK=>?_) ?_
   ·skip
    have z0:=kb.cell0
    have z1:=kb.cell1
    go_simp
    clear z0 z1
    refine hKK.out _ _ hHeld ?_
    clear hHeld
    intro hHeld
    clear hKK KK
    try simp only [pP,pN,pS,pZ,pC]
    refine wpAnyH_ready (rs:=[3]) (by kernel_rfl) (by simp) ?_
    refine cons' rfl (fun KK hKK=>?_)
    go_simp
    have hat:=two_at (new7 w6 #[.int .i64 1,.bool P.s,.slice P.a P.n P.c,.slice P.b P.m P.e,.int .i64 0,.bool Q.s,.slice Q.a Q.n Q.c,.slice Q.b Q.m Q.e] 76)
    have b3:=below_alloc (w:=w6) (.cells #[.int .i64 1,.bool P.s,.slice P.a P.n P.c,.slice P.b P.m P.e,.int .i64 0,.bool Q.s,.slice Q.a Q.n Q.c,.slice Q.b Q.m Q.e] 76)
    generalize w6.alloc (.cells #[.int .i64 1,.bool P.s,.slice P.a P.n P.c,.slice P.b P.m P.e,.int .i64 0,.bool Q.s,.slice Q.a Q.n Q.c,.slice Q.b Q.m Q.e] 76)=w7 at hat b3 ⊢
    replace hBw:=hBw.trans (b3.mono hBw.size)
    replace kb:=kb.later b3
    replace qP:=qP.later b3
    replace qQ:=qQ.later b3
    clear b3
    refine hKK.out _ _ hHeld ?_
    clear hHeld
    intro hHeld
    clear hKK KK
    try simp only [pP,pN,pS,pZ,pC]
    refine wpAnyH_ready (rs:=[4]) (by kernel_rfl) (by simp) ?_
    refine cons' rfl (fun KK hKK=>?_)
    have h7:=kb.lt
    go_simp
    refine (GD.out _ _ _ _ _ _ hat qP qQ).mono ?_
    rintro e w8 ⟨a,c,S,rfl,hn,hc,h1,hs,b8,hf⟩
    have bC:=b8
    replace hBw:=hBw.trans (bC.mono hBw.size)
    replace kb:=kb.later bC
    replace qP:=qP.later bC
    replace qQ:=qQ.later bC
    replace hat:=hat.later bC
    clear bC
    go_wp2_with fail
    have hne:∀ ad,a=some ad→S≠[]→ad.block≠rb:=fun ad e h=>by have h2:=hf ad e h;omega
    clear b8 h7 hf hat qP qQ GD
    refine hKK.out _ _ hHeld ?_
    clear hHeld
    intro hHeld
    clear hKK KK
    try simp only [pP,pN,pS,pZ,pC]
    refine tk 5 (v:=?_) rfl (Or.inl ⟨by rfl,?_⟩) ?_
    rotate_left
    ·intro w9 hSw
     go_simp
     first | done | with_reducible rfl
    simp only [pP,pN,pS,pZ,pC]
    refine tk 6 (v:=?_) rfl (Or.inl ⟨by rfl,?_⟩) ?_
    rotate_left
    ·intro w9 hSw
     go_simp
     first | done | with_reducible rfl
    simp only [pP,pN,pS,pZ,pC]
    refine tk 7 (v:=?_) rfl (Or.inl ⟨by rfl,?_⟩) ?_
    rotate_left
    ·intro w9 hSw
     go_simp
     first | done | with_reducible rfl
    simp only [pP,pN,pS,pZ,pC]
    refine tk 8 (v:=?_) rfl (Or.inl ⟨by rfl,?_⟩) ?_
    rotate_left
    ·intro w9 hSw
     go_simp
     first | done | with_reducible rfl
    simp only [pP,pN,pS,pZ,pC]
    refine wpAnyH_ready (rs:=[9]) (by kernel_rfl) (by simp) ?_
    refine cons' rfl (fun KK hKK=>?_)
    have z0:=kb.cell0
    have z1:=kb.cell1
    have fz:=fun o=>kb.row.frozen o
    have hy0:((w8.setCell ⟨rb,0,none⟩ (.int .i64 3)).setCell ⟨rb,1,none⟩ (.slice a S.length c)).cell? ⟨rb,0,none⟩=some (.int .i64 3):=(World.cell?_setCell_other _ _ _ _ (fun e=>by simp at e)).trans (World.cell?_setCell_same _ _ _ z0)
    have hy1:((w8.setCell ⟨rb,0,none⟩ (.int .i64 3)).setCell ⟨rb,1,none⟩ (.slice a S.length c)).cell? ⟨rb,1,none⟩=some (.slice a S.length c):=World.cell?_setCell_same _ _ _ ((World.cell?_setCell_other _ _ _ _ (fun e=>by simp at e)).trans z1)
    replace hn:TNk ((w8.setCell ⟨rb,0,none⟩ (.int .i64 3)).setCell ⟨rb,1,none⟩ (.slice a S.length c)) a S:=(hn.set kb hne).set (kb.set (b:=none) (k:=0) (l:=0)) hne
    replace hBw:Below w.heap.size w ((w8.setCell ⟨rb,0,none⟩ (.int .i64 3)).setCell ⟨rb,1,none⟩ (.slice a S.length c)):=(hBw.setCell hrb _).setCell hrb _
    clear kb hne
    go_simp
    refine hKK.out _ _ hHeld ?_
    clear hHeld
    intro hHeld
    clear hKK KK
    try simp only [pP,pN,pS,pZ,pC]
    clear z0 z1 fz
    generalize ((w8.setCell ⟨rb,0,none⟩ (.int .i64 3)).setCell ⟨rb,1,none⟩ (.slice a S.length c))=w9 at hy0 hy1 hn hBw ⊢
    refine tk 10 (v:=?_) rfl (Or.inl ⟨by rfl,?_⟩) ?_
    rotate_left
    ·intro w9 hSw
     go_simp
     first | done | with_reducible rfl
    simp only [pP,pN,pS,pZ,pC]
    refine tk 11 (v:=?_) rfl (Or.inl ⟨by rfl,?_⟩) ?_
    rotate_left
    ·intro w9 hSw
     go_simp
     first | done | with_reducible rfl
    simp only [pP,pN,pS,pZ,pC]
    refine wpAnyH_done (by kernel_rfl) ?_ _
    try clear hHeld
    go_wp2_with fail
    have bD:Below w9.heap.size w9 w9.drew:=(Below.refl _ _).drew
    have khy0:=below_cell bD hy0
    have khy1:=below_cell bD hy1
    replace hBw:=hBw.trans (bD.mono hBw.size)
    replace hn:=hn.later bD
    refine wp_region_held_drew (S:=fun w'=>w'.cell? ⟨rb,0,none⟩=some (.int .i64 3)∧w'.cell? ⟨rb,1,none⟩=some (.slice a S.length c)) (by kernel_rfl) ⟨khy0,khy1⟩ (fun hHeld=>?_)
    clear khy0 khy1
    generalize w9.drew=v4 at bD hn hBw hHeld ⊢
    clear bD hy0 hy1
    refine tk 0 (v:=?_) rfl (Or.inl ⟨by rfl,?_⟩) ?_
    rotate_left
    ·intro w9 hSw
     go_simp
     first | done | with_reducible rfl
    simp only [pP,pN,pS,pZ,pC]
    refine tk 1 (v:=?_) rfl (Or.inl ⟨by rfl,?_⟩) ?_
    rotate_left
    ·intro w9 hSw
     go_simp
     first | done | with_reducible rfl
    simp only [pP,pN,pS,pZ,pC]
    refine tk 2 (v:=?_) rfl (Or.inl ⟨by rfl,?_⟩) ?_
    rotate_left
    ·intro w9 hSw
     go_simp
     first | done | with_reducible rfl
    simp only [pP,pN,pS,pZ,pC]
    refine tk 3 (v:=?_) rfl (Or.inl ⟨by rfl,?_⟩) ?_
    rotate_left
    ·intro w9 hSw
     go_simp
     first | done | with_reducible rfl
    simp only [pP,pN,pS,pZ,pC]
    refine tk 4 (v:=?_) rfl (Or.inl ⟨by rfl,?_⟩) ?_
    rotate_left
    ·intro w9 hSw
     go_simp
     first | done | with_reducible rfl
    simp only [pP,pN,pS,pZ,pC]
    refine tk 5 (v:=?_) rfl (Or.inl ⟨by rfl,?_⟩) ?_
    rotate_left
    ·intro w9 hSw
     go_simp
     first | done | with_reducible rfl
    simp only [pP,pN,pS,pZ,pC]
    refine tk 6 (v:=?_) rfl (Or.inl ⟨by rfl,?_⟩) ?_
    rotate_left
    ·intro w9 hSw
     go_simp
     first | done | with_reducible rfl
    simp only [pP,pN,pS,pZ,pC]
    refine tk 7 (v:=?_) rfl (Or.inl ⟨by rfl,?_⟩) ?_
    rotate_left
    ·intro w9 hSw
     go_simp
     first | done | with_reducible rfl
    simp only [pP,pN,pS,pZ,pC]
    refine wpAnyH_ready (rs:=[8]) (by kernel_rfl) (by simp) ?_
    refine cons' rfl (fun KK hKK=>?_)
    go_simp
    refine (GM.out 0 _).mono ?_
    rintro e v5 ⟨P,rfl,qP,bN⟩
    have bC:=bN
    replace hBw:=hBw.trans (bC.mono hBw.size)
    replace hn:=hn.later bC
    replace hHeld:=(⟨below_cell bC hHeld.1,below_cell bC hHeld.2⟩:_∧_)
    clear bC
    go_wp2_with fail
    clear bN
    refine hKK.out _ _ hHeld ?_
    clear hHeld
    intro hHeld
    clear hKK KK
    try simp only [pP,pN,pS,pZ,pC]
    refine wpAnyH_ready (rs:=[9]) (by kernel_rfl) (by simp) ?_
    refine cons' rfl (fun KK hKK=>?_)
    go_simp
    refine (GM.out 1 _).mono ?_
    rintro e v6 ⟨Q,rfl,qQ,bN⟩
    have bC:=bN
    replace hBw:=hBw.trans (bC.mono hBw.size)
    replace hn:=hn.later bC
    replace qP:=qP.later bC
    replace hHeld:=(⟨below_cell bC hHeld.1,below_cell bC hHeld.2⟩:_∧_)
    clear bC
    go_wp2_with fail
    clear bN
    refine hKK.out _ _ hHeld ?_
    clear hHeld
    intro hHeld
    clear hKK KK
    try simp only [pP,pN,pS,pZ,pC]
    refine wpAnyH_ready (rs:=[10]) (by kernel_rfl) (by simp) ?_
    refine cons' rfl (fun KK hKK=>?_)
    go_simp
    have hat:=two_at (new7 v6 #[.int .i64 0,.bool P.s,.slice P.a P.n P.c,.slice P.b P.m P.e,.int .i64 1,.bool Q.s,.slice Q.a Q.n Q.c,.slice Q.b Q.m Q.e] 76)
    have b3:=below_alloc (w:=v6) (.cells #[.int .i64 0,.bool P.s,.slice P.a P.n P.c,.slice P.b P.m P.e,.int .i64 1,.bool Q.s,.slice Q.a Q.n Q.c,.slice Q.b Q.m Q.e] 76)
    generalize v6.alloc (.cells #[.int .i64 0,.bool P.s,.slice P.a P.n P.c,.slice P.b P.m P.e,.int .i64 1,.bool Q.s,.slice Q.a Q.n Q.c,.slice Q.b Q.m Q.e] 76)=v7 at hat b3 ⊢
    replace hBw:=hBw.trans (b3.mono hBw.size)
    replace hn:=hn.later b3
    replace qP:=qP.later b3
    replace qQ:=qQ.later b3
    replace hHeld:=(⟨below_cell b3 hHeld.1,below_cell b3 hHeld.2⟩:_∧_)
    clear b3
    refine hKK.out _ _ hHeld ?_
    clear hHeld
    intro hHeld
    clear hKK KK
    try simp only [pP,pN,pS,pZ,pC]
    have hFk:=two_nk hat qP qQ
    have hFo:=two_fo (b:=v6.heap.size) (x:=0) (y:=1) qP qQ
    clear hat qP qQ
    refine tk 11 (v:=?_) rfl (Or.inl ⟨by rfl,?_⟩) ?_
    rotate_left
    ·intro w9 hSw
     go_simp
     first | done | with_reducible rfl
    simp only [pP,pN,pS,pZ,pC]
    refine wpAnyH_ready (rs:=[12]) (by kernel_rfl) (by simp) ?_
    refine cons' rfl (fun KK hKK=>?_)
    go_simp
    have hrw:TAt _ (some ⟨v7.heap.size,0,none⟩) [((2:Int),(⟨some ⟨v6.heap.size,0,none⟩,2,[(0,P),(1,Q)]⟩:FV))]:=row_at (new7 v7 #[.int .i64 2,.slice (some ⟨v6.heap.size,0,none⟩) 2 2] 65)
    have b3:=below_alloc (w:=v7) (.cells #[.int .i64 2,.slice (some ⟨v6.heap.size,0,none⟩) 2 2] 65)
    generalize v7.alloc (.cells #[.int .i64 2,.slice (some ⟨v6.heap.size,0,none⟩) 2 2] 65)=v8 at hrw b3 ⊢
    replace hBw:=hBw.trans (b3.mono hBw.size)
    replace hn:=hn.later b3
    replace hFk:=hFk.later b3
    replace hHeld:=(⟨below_cell b3 hHeld.1,below_cell b3 hHeld.2⟩:_∧_)
    clear b3
    refine hKK.out _ _ hHeld ?_
    clear hHeld
    intro hHeld
    clear hKK KK
    try simp only [pP,pN,pS,pZ,pC]
    have hRk:=row_nk hrw hFk (wfI_of (by omega) (by omega))
    clear hrw hFk
    refine tk 13 (v:=?_) rfl (Or.inl ⟨by rfl,?_⟩) ?_
    rotate_left
    ·intro w9 hSw
     go_simp
     first | done | with_reducible rfl
    simp only [pP,pN,pS,pZ,pC]
    refine wpAnyH_ready (rs:=[14]) (by kernel_rfl) (by simp) ?_
    refine cons' rfl (fun KK hKK=>?_)
    go_simp
    refine (GA.out _ a c S hn hc h1 hs _ _ hRk hFo).mono ?_
    rintro e v9 ⟨rfl,b9⟩
    have bC:=b9
    replace hBw:=hBw.trans (bC.mono hBw.size)
    replace hn:=hn.later bC
    replace hRk:=hRk.later bC
    replace hHeld:=(⟨below_cell bC hHeld.1,below_cell bC hHeld.2⟩:_∧_)
    clear bC
    go_wp2_with fail
    clear b9
    refine hKK.out _ _ hHeld ?_
    clear hHeld
    intro hHeld
    clear hKK KK
    try simp only [pP,pN,pS,pZ,pC]
    refine tk 15 (v:=?_) rfl (Or.inl ⟨by rfl,?_⟩) ?_
    rotate_left
    ·intro w9 hSw
     go_simp
     first | done | with_reducible rfl
    simp only [pP,pN,pS,pZ,pC]
    refine tk 16 (v:=?_) rfl (Or.inl ⟨by rfl,?_⟩) ?_
    rotate_left
    ·intro w9 hSw
     go_simp
     first | done | with_reducible rfl
    simp only [pP,pN,pS,pZ,pC]
    refine wpAnyH_done (by kernel_rfl) ?_ _
    go_wp2
    first | exact ⟨rfl,hBw⟩ | (go_ret;exact ⟨rfl,hBw⟩)
   refine consT rfl (fun KK hKK=>?_) ?_
   ·skip
    go_simp
    have hat:=two_at (new7 w6 #[.int .i64 1,.bool P.s,.slice P.a P.n P.c,.slice P.b P.m P.e,.int .i64 0,.bool Q.s,.slice Q.a Q.n Q.c,.slice Q.b Q.m Q.e] 76)
    have b3:=below_alloc (w:=w6) (.cells #[.int .i64 1,.bool P.s,.slice P.a P.n P.c,.slice P.b P.m P.e,.int .i64 0,.bool Q.s,.slice Q.a Q.n Q.c,.slice Q.b Q.m Q.e] 76)
    generalize w6.alloc (.cells #[.int .i64 1,.bool P.s,.slice P.a P.n P.c,.slice P.b P.m P.e,.int .i64 0,.bool Q.s,.slice Q.a Q.n Q.c,.slice Q.b Q.m Q.e] 76)=w7 at hat b3 ⊢
    replace hBw:=hBw.trans (b3.mono hBw.size)
    replace kb:=kb.later b3
    replace qP:=qP.later b3
    replace qQ:=qQ.later b3
    clear b3
    refine hKK.out _ _ hHeld ?_
    clear hHeld
    intro hHeld
    clear hKK KK
    try simp only [pP,pN,pS,pZ,pC]
    refine wpAnyH_ready (rs:=[0]) (by kernel_rfl) (by simp) ?_
    refine cons' rfl (fun KK hKK=>?_)
    have z0:=kb.cell0
    have z1:=kb.cell1
    go_simp
    clear z0 z1
    refine hKK.out _ _ hHeld ?_
    clear hHeld
    intro hHeld
    clear hKK KK
    try simp only [pP,pN,pS,pZ,pC]
    refine wpAnyH_ready (rs:=[4]) (by kernel_rfl) (by simp) ?_
    refine cons' rfl (fun KK hKK=>?_)
    have h7:=kb.lt
    go_simp
    refine (GD.out _ _ _ _ _ _ hat qP qQ).mono ?_
    rintro e w8 ⟨a,c,S,rfl,hn,hc,h1,hs,b8,hf⟩
    have bC:=b8
    replace hBw:=hBw.trans (bC.mono hBw.size)
    replace kb:=kb.later bC
    replace qP:=qP.later bC
    replace qQ:=qQ.later bC
    replace hat:=hat.later bC
    clear bC
    go_wp2_with fail
    have hne:∀ ad,a=some ad→S≠[]→ad.block≠rb:=fun ad e h=>by have h2:=hf ad e h;omega
    clear b8 h7 hf hat qP qQ GD
    refine hKK.out _ _ hHeld ?_
    clear hHeld
    intro hHeld
    clear hKK KK
    try simp only [pP,pN,pS,pZ,pC]
    refine tk 5 (v:=?_) rfl (Or.inl ⟨by rfl,?_⟩) ?_
    rotate_left
    ·intro w9 hSw
     go_simp
     first | done | with_reducible rfl
    simp only [pP,pN,pS,pZ,pC]
    refine tk 6 (v:=?_) rfl (Or.inl ⟨by rfl,?_⟩) ?_
    rotate_left
    ·intro w9 hSw
     go_simp
     first | done | with_reducible rfl
    simp only [pP,pN,pS,pZ,pC]
    refine tk 7 (v:=?_) rfl (Or.inl ⟨by rfl,?_⟩) ?_
    rotate_left
    ·intro w9 hSw
     go_simp
     first | done | with_reducible rfl
    simp only [pP,pN,pS,pZ,pC]
    refine tk 8 (v:=?_) rfl (Or.inl ⟨by rfl,?_⟩) ?_
    rotate_left
    ·intro w9 hSw
     go_simp
     first | done | with_reducible rfl
    simp only [pP,pN,pS,pZ,pC]
    refine wpAnyH_ready (rs:=[9]) (by kernel_rfl) (by simp) ?_
    refine cons' rfl (fun KK hKK=>?_)
    have z0:=kb.cell0
    have z1:=kb.cell1
    have fz:=fun o=>kb.row.frozen o
    have hy0:((w8.setCell ⟨rb,0,none⟩ (.int .i64 3)).setCell ⟨rb,1,none⟩ (.slice a S.length c)).cell? ⟨rb,0,none⟩=some (.int .i64 3):=(World.cell?_setCell_other _ _ _ _ (fun e=>by simp at e)).trans (World.cell?_setCell_same _ _ _ z0)
    have hy1:((w8.setCell ⟨rb,0,none⟩ (.int .i64 3)).setCell ⟨rb,1,none⟩ (.slice a S.length c)).cell? ⟨rb,1,none⟩=some (.slice a S.length c):=World.cell?_setCell_same _ _ _ ((World.cell?_setCell_other _ _ _ _ (fun e=>by simp at e)).trans z1)
    replace hn:TNk ((w8.setCell ⟨rb,0,none⟩ (.int .i64 3)).setCell ⟨rb,1,none⟩ (.slice a S.length c)) a S:=(hn.set kb hne).set (kb.set (b:=none) (k:=0) (l:=0)) hne
    replace hBw:Below w.heap.size w ((w8.setCell ⟨rb,0,none⟩ (.int .i64 3)).setCell ⟨rb,1,none⟩ (.slice a S.length c)):=(hBw.setCell hrb _).setCell hrb _
    clear kb hne
    go_simp
    refine hKK.out _ _ hHeld ?_
    clear hHeld
    intro hHeld
    clear hKK KK
    try simp only [pP,pN,pS,pZ,pC]
    clear z0 z1 fz
    generalize ((w8.setCell ⟨rb,0,none⟩ (.int .i64 3)).setCell ⟨rb,1,none⟩ (.slice a S.length c))=w9 at hy0 hy1 hn hBw ⊢
    refine tk 10 (v:=?_) rfl (Or.inl ⟨by rfl,?_⟩) ?_
    rotate_left
    ·intro w9 hSw
     go_simp
     first | done | with_reducible rfl
    simp only [pP,pN,pS,pZ,pC]
    refine tk 11 (v:=?_) rfl (Or.inl ⟨by rfl,?_⟩) ?_
    rotate_left
    ·intro w9 hSw
     go_simp
     first | done | with_reducible rfl
    simp only [pP,pN,pS,pZ,pC]
    refine wpAnyH_done (by kernel_rfl) ?_ _
    try clear hHeld
    go_wp2_with fail
    have bD:Below w9.heap.size w9 w9.drew:=(Below.refl _ _).drew
    have khy0:=below_cell bD hy0
    have khy1:=below_cell bD hy1
    replace hBw:=hBw.trans (bD.mono hBw.size)
    replace hn:=hn.later bD
    refine wp_region_held_drew (S:=fun w'=>w'.cell? ⟨rb,0,none⟩=some (.int .i64 3)∧w'.cell? ⟨rb,1,none⟩=some (.slice a S.length c)) (by kernel_rfl) ⟨khy0,khy1⟩ (fun hHeld=>?_)
    clear khy0 khy1
    generalize w9.drew=v4 at bD hn hBw hHeld ⊢
    clear bD hy0 hy1
    refine tk 0 (v:=?_) rfl (Or.inl ⟨by rfl,?_⟩) ?_
    rotate_left
    ·intro w9 hSw
     go_simp
     first | done | with_reducible rfl
    simp only [pP,pN,pS,pZ,pC]
    refine tk 1 (v:=?_) rfl (Or.inl ⟨by rfl,?_⟩) ?_
    rotate_left
    ·intro w9 hSw
     go_simp
     first | done | with_reducible rfl
    simp only [pP,pN,pS,pZ,pC]
    refine tk 2 (v:=?_) rfl (Or.inl ⟨by rfl,?_⟩) ?_
    rotate_left
    ·intro w9 hSw
     go_simp
     first | done | with_reducible rfl
    simp only [pP,pN,pS,pZ,pC]
    refine tk 3 (v:=?_) rfl (Or.inl ⟨by rfl,?_⟩) ?_
    rotate_left
    ·intro w9 hSw
     go_simp
     first | done | with_reducible rfl
    simp only [pP,pN,pS,pZ,pC]
    refine tk 4 (v:=?_) rfl (Or.inl ⟨by rfl,?_⟩) ?_
    rotate_left
    ·intro w9 hSw
     go_simp
     first | done | with_reducible rfl
    simp only [pP,pN,pS,pZ,pC]
    refine tk 5 (v:=?_) rfl (Or.inl ⟨by rfl,?_⟩) ?_
    rotate_left
    ·intro w9 hSw
     go_simp
     first | done | with_reducible rfl
    simp only [pP,pN,pS,pZ,pC]
    refine tk 6 (v:=?_) rfl (Or.inl ⟨by rfl,?_⟩) ?_
    rotate_left
    ·intro w9 hSw
     go_simp
     first | done | with_reducible rfl
    simp only [pP,pN,pS,pZ,pC]
    refine tk 7 (v:=?_) rfl (Or.inl ⟨by rfl,?_⟩) ?_
    rotate_left
    ·intro w9 hSw
     go_simp
     first | done | with_reducible rfl
    simp only [pP,pN,pS,pZ,pC]
    refine wpAnyH_ready (rs:=[8]) (by kernel_rfl) (by simp) ?_
    refine cons' rfl (fun KK hKK=>?_)
    go_simp
    refine (GM.out 0 _).mono ?_
    rintro e v5 ⟨P,rfl,qP,bN⟩
    have bC:=bN
    replace hBw:=hBw.trans (bC.mono hBw.size)
    replace hn:=hn.later bC
    replace hHeld:=(⟨below_cell bC hHeld.1,below_cell bC hHeld.2⟩:_∧_)
    clear bC
    go_wp2_with fail
    clear bN
    refine hKK.out _ _ hHeld ?_
    clear hHeld
    intro hHeld
    clear hKK KK
    try simp only [pP,pN,pS,pZ,pC]
    refine wpAnyH_ready (rs:=[9]) (by kernel_rfl) (by simp) ?_
    refine cons' rfl (fun KK hKK=>?_)
    go_simp
    refine (GM.out 1 _).mono ?_
    rintro e v6 ⟨Q,rfl,qQ,bN⟩
    have bC:=bN
    replace hBw:=hBw.trans (bC.mono hBw.size)
    replace hn:=hn.later bC
    replace qP:=qP.later bC
    replace hHeld:=(⟨below_cell bC hHeld.1,below_cell bC hHeld.2⟩:_∧_)
    clear bC
    go_wp2_with fail
    clear bN
    refine hKK.out _ _ hHeld ?_
    clear hHeld
    intro hHeld
    clear hKK KK
    try simp only [pP,pN,pS,pZ,pC]
    refine wpAnyH_ready (rs:=[10]) (by kernel_rfl) (by simp) ?_
    refine cons' rfl (fun KK hKK=>?_)
    go_simp
    have hat:=two_at (new7 v6 #[.int .i64 0,.bool P.s,.slice P.a P.n P.c,.slice P.b P.m P.e,.int .i64 1,.bool Q.s,.slice Q.a Q.n Q.c,.slice Q.b Q.m Q.e] 76)
    have b3:=below_alloc (w:=v6) (.cells #[.int .i64 0,.bool P.s,.slice P.a P.n P.c,.slice P.b P.m P.e,.int .i64 1,.bool Q.s,.slice Q.a Q.n Q.c,.slice Q.b Q.m Q.e] 76)
    generalize v6.alloc (.cells #[.int .i64 0,.bool P.s,.slice P.a P.n P.c,.slice P.b P.m P.e,.int .i64 1,.bool Q.s,.slice Q.a Q.n Q.c,.slice Q.b Q.m Q.e] 76)=v7 at hat b3 ⊢
    replace hBw:=hBw.trans (b3.mono hBw.size)
    replace hn:=hn.later b3
    replace qP:=qP.later b3
    replace qQ:=qQ.later b3
    replace hHeld:=(⟨below_cell b3 hHeld.1,below_cell b3 hHeld.2⟩:_∧_)
    clear b3
    refine hKK.out _ _ hHeld ?_
    clear hHeld
    intro hHeld
    clear hKK KK
    try simp only [pP,pN,pS,pZ,pC]
    have hFk:=two_nk hat qP qQ
    have hFo:=two_fo (b:=v6.heap.size) (x:=0) (y:=1) qP qQ
    clear hat qP qQ
    refine tk 11 (v:=?_) rfl (Or.inl ⟨by rfl,?_⟩) ?_
    rotate_left
    ·intro w9 hSw
     go_simp
     first | done | with_reducible rfl
    simp only [pP,pN,pS,pZ,pC]
    refine wpAnyH_ready (rs:=[12]) (by kernel_rfl) (by simp) ?_
    refine cons' rfl (fun KK hKK=>?_)
    go_simp
    have hrw:TAt _ (some ⟨v7.heap.size,0,none⟩) [((2:Int),(⟨some ⟨v6.heap.size,0,none⟩,2,[(0,P),(1,Q)]⟩:FV))]:=row_at (new7 v7 #[.int .i64 2,.slice (some ⟨v6.heap.size,0,none⟩) 2 2] 65)
    have b3:=below_alloc (w:=v7) (.cells #[.int .i64 2,.slice (some ⟨v6.heap.size,0,none⟩) 2 2] 65)
    generalize v7.alloc (.cells #[.int .i64 2,.slice (some ⟨v6.heap.size,0,none⟩) 2 2] 65)=v8 at hrw b3 ⊢
    replace hBw:=hBw.trans (b3.mono hBw.size)
    replace hn:=hn.later b3
    replace hFk:=hFk.later b3
    replace hHeld:=(⟨below_cell b3 hHeld.1,below_cell b3 hHeld.2⟩:_∧_)
    clear b3
    refine hKK.out _ _ hHeld ?_
    clear hHeld
    intro hHeld
    clear hKK KK
    try simp only [pP,pN,pS,pZ,pC]
    have hRk:=row_nk hrw hFk (wfI_of (by omega) (by omega))
    clear hrw hFk
    refine tk 13 (v:=?_) rfl (Or.inl ⟨by rfl,?_⟩) ?_
    rotate_left
    ·intro w9 hSw
     go_simp
     first | done | with_reducible rfl
    simp only [pP,pN,pS,pZ,pC]
    refine wpAnyH_ready (rs:=[14]) (by kernel_rfl) (by simp) ?_
    refine cons' rfl (fun KK hKK=>?_)
    go_simp
    refine (GA.out _ a c S hn hc h1 hs _ _ hRk hFo).mono ?_
    rintro e v9 ⟨rfl,b9⟩
    have bC:=b9
    replace hBw:=hBw.trans (bC.mono hBw.size)
    replace hn:=hn.later bC
    replace hRk:=hRk.later bC
    replace hHeld:=(⟨below_cell bC hHeld.1,below_cell bC hHeld.2⟩:_∧_)
    clear bC
    go_wp2_with fail
    clear b9
    refine hKK.out _ _ hHeld ?_
    clear hHeld
    intro hHeld
    clear hKK KK
    try simp only [pP,pN,pS,pZ,pC]
    refine tk 15 (v:=?_) rfl (Or.inl ⟨by rfl,?_⟩) ?_
    rotate_left
    ·intro w9 hSw
     go_simp
     first | done | with_reducible rfl
    simp only [pP,pN,pS,pZ,pC]
    refine tk 16 (v:=?_) rfl (Or.inl ⟨by rfl,?_⟩) ?_
    rotate_left
    ·intro w9 hSw
     go_simp
     first | done | with_reducible rfl
    simp only [pP,pN,pS,pZ,pC]
    refine wpAnyH_done (by kernel_rfl) ?_ _
    go_wp2
    first | exact ⟨rfl,hBw⟩ | (go_ret;exact ⟨rfl,hBw⟩)
   exact AllReadyH.nil
  exact AllReadyH.nil
 exact AllReadyH.nil
end Go.Proofs.YtlklfkkbdcglbaaGreat
