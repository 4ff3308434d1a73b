import Derived.Test.YtfppjaoddicgpaaGreatDoorOW1
import Derived.Test.YtfppjaoddicgpaaGreatDoorOWS
set_option linter.unusedSimpArgs false
namespace Go.Proofs.YtfppjaoddicgpaaGreatDoor
open Go.RowKit
set_option linter.unusedVariables false
def Ox (L:Nat) (A:Nat→Option Addr) (n:Nat→Nat) (w w':World):Prop:=∀ b,b < w.heap.size→(∀ i,i < L→0 < n i→∀ o,A i≠some ⟨b,o,none⟩)→w'.heap[b]?=w.heap[b]?
structure Bx (lo L:Nat) (A:Nat→Option Addr) (n:Nat→Nat) (w w':World):Prop where
 bel:Below lo w w'
 ox:Ox L A n w w'
theorem Bx.size {lo L:Nat} {A:Nat→Option Addr} {n:Nat→Nat} {w w':World} (h:Bx lo L A n w w'):w.heap.size≤w'.heap.size:=h.bel.size
theorem Bx.refl (lo L:Nat) (A:Nat→Option Addr) (n:Nat→Nat) (w:World):Bx lo L A n w w:=⟨Below.refl _ _,fun _ _ _=>rfl⟩
theorem Bx.add {lo L:Nat} {A:Nat→Option Addr} {n:Nat→Nat} {w w1 w2:World} (h:Bx lo L A n w w1) (k:Below w1.heap.size w1 w2) (hl:lo≤w1.heap.size):Bx lo L A n w w2 :=
 ⟨h.bel.trans (k.mono hl),fun b hb hne=>(k.block b (Nat.lt_of_lt_of_le hb h.size)).trans (h.ox b hb hne)⟩
theorem Bx.set {lo L i b o off:Nat} {A:Nat→Option Addr} {n:Nat→Nat} {w w1:World} {v:Value} (h:Bx lo L A n w w1) (hi:i < L) (hn:0 < n i) (e:A i=some ⟨b,off,none⟩) (hl:lo≤b):Bx lo L A n w (w1.setCell ⟨b,o,none⟩ v) :=
 ⟨h.bel.trans ((Ch.set _).below hl),fun c hc hne=>((Ch.set _).other c (fun g=>by subst g;exact hne i hi hn off e)).trans (h.ox c hc hne)⟩
theorem infoU:(Tryz.prog.info? 57).map (fun i=>(i.zero,i.size,i.bytes))=some (some (.int .u32 0),1,4):=by kernel_rfl
theorem infoS:(Tryz.prog.info? 22).map (fun i=>(i.zero,i.size,i.bytes))=some (some (.slice none 0 0),1,24):=by kernel_rfl
set_option maxHeartbeats 8000000 in
set_option maxRecDepth 100000 in
theorem spoil_ox (lo bl ol L cl:Nat) (A:Nat→Option Addr) (n:Nat→Nat) (f0:Nat→Nat→Int) (w:World) (hL:L≤1000000) (hn:∀ i,i < L→n i≤1073741824) (hlo:lo≤w.heap.size) (h0:Ls w lo bl ol L A n f0) :
  Calls Tryz.prog 12 #[.slice (some ⟨bl,ol,none⟩) L cl] w fun e w'=>e=.returned (.bool true)∧Bx lo L A n w w':=by
 have HN:=hide' hn
 clear hn
 go_enter Tryz.func12,Tryz.ntmps12
 go_wp2_with fail
 go_loopw [3] (fun vi wr=>∃ (i:Nat) (f:Nat→Nat→Int),i≤L∧vi=.int .i64 i∧Ls wr lo bl ol L A n f∧(∀ i1,i1 < i→∀ j,j < n i1→f i1 j=mrk i1 j)∧Bx lo L A n w wr) (fun vi _=>L - (intOf vi).toNat)
 case atStart=>exact ⟨0,f0,Nat.zero_le _,rfl,h0,fun i1 c=>absurd c (Nat.not_lt_zero _),Bx.refl _ _ _ _ _⟩
 case round =>
  clear h0
  obtain ⟨i,f,hi,rfl,hf,hfm,bel⟩:=hrel
  by_cases hlt:i < L
  ·have i2:((i:Int) < (L:Int)):=by omega
   have i1:(0:Int)≤(i:Int):=by omega
   have HF:=hide' hf
   have HM:=hide' hfm
   clear hf hfm
   have r0:=HF.out.row i hlt
   obtain ⟨N,hN⟩:∃ N,n i=N:=⟨_,rfl⟩
   rw [hN] at r0
   have N1:N≤1073741824:=by rw [←hN];exact HN.out i hlt
   replace hN:=hide' hN
   obtain ⟨ai,hai⟩:∃ ai,A i=ai:=⟨_,rfl⟩
   rw [hai] at r0
   replace hai:=hide' hai
   go_wp2_with fail
   go_loopw [4] (fun vk wq=>∃ (k:Nat) (f:Nat→Nat→Int),k≤N∧vk=.int .i64 k∧Ls wq lo bl ol L A n f∧(∀ i1,i1 < i→∀ j,j < n i1→f i1 j=mrk i1 j)∧(∀ j,j < k→f i j=mrk i j)∧Bx lo L A n w wq) (fun vk _=>N - (intOf vk).toNat)
   case atStart=>exact ⟨0,f,Nat.zero_le _,rfl,HF.out,HM.out,fun j c=>absurd c (Nat.not_lt_zero _),bel⟩
   case round =>
    clear HF HM r0 bel
    obtain ⟨k,f,hk,rfl,hf,hfm,hfk,bel⟩:=hrel
    have HF:=hide' hf
    have HM:=hide' hfm
    have HK:=hide' hfk
    clear hf hfm hfk
    have r0:=HF.out.row i hlt
    rw [hN.out,hai.out] at r0
    by_cases hkn:k < N
    ·have k2:((k:Int) < (N:Int)):=by omega
     have k1:(0:Int)≤(k:Int):=by omega
     obtain ⟨b,off,eA,hb1,hb2,hb3,hb4⟩:=HF.out.lst i hlt (by rw [hN.out];omega)
     rw [hai.out] at eA
     subst eA
     have c0:=hb4 k (by rw [hN.out];exact hkn)
     have fz:=fun o=>hb3.frozen o
     have GM:=hide' (fun w'=>mark_is i k w' (by omega) (by omega))
     obtain ⟨v,hv⟩:∃ v,mrk i k=v:=⟨_,rfl⟩
     rw [hv] at GM
     replace hv:=hide' hv
     clear hb4
     go_wp2_with fail
     have hlw:lo≤wr.heap.size:=Nat.le_trans hlo bel.size
     have bD:Below wr.heap.size wr wr.drew:=(Below.refl _ _).drew
     have kr0:=below_cell bD r0
     refine wp_region_held_drew (S:=fun w'=>w'.cell? ⟨bl,ol+i,none⟩=some (.slice (some ⟨b,off,none⟩) N N)) (by kernel_rfl) kr0 (fun hHeld=>?_)
     clear kr0
     generalize hwF:wr.drew=wF at bD hHeld ⊢
     have c1:=below_cell bD c0
     have fz1:=fun o=>(below_row bD hb3).frozen o
     clear c0 fz
     refine tk 0 (v:=?_) rfl (Or.inl ⟨by rfl,?_⟩) ?_
     rotate_left
     ·intro w9 hSw
      go_simp
      first | done | with_reducible rfl
     simp only [pP,pN,pS,pZ,pC]
     refine tk 1 (v:=?_) rfl (Or.inl ⟨by rfl,?_⟩) ?_
     rotate_left
     ·intro w9 hSw
      go_simp
      first | done | with_reducible rfl
     simp only [pP,pN,pS,pZ,pC]
     refine tk 2 (v:=?_) rfl (Or.inl ⟨by rfl,?_⟩) ?_
     rotate_left
     ·intro w9 hSw
      go_simp
      first | done | with_reducible rfl
     simp only [pP,pN,pS,pZ,pC]
     refine tk 3 (v:=?_) rfl (Or.inl ⟨by rfl,?_⟩) ?_
     rotate_left
     ·intro w9 hSw
      go_simp
      first | done | with_reducible rfl
     simp only [pP,pN,pS,pZ,pC]
     refine tk 4 (v:=?_) rfl (Or.inl ⟨by rfl,?_⟩) ?_
     rotate_left
     ·intro w9 hSw
      go_simp
      first | done | with_reducible rfl
     simp only [pP,pN,pS,pZ,pC]
     refine tk 5 (v:=?_) rfl (Or.inl ⟨by rfl,?_⟩) ?_
     rotate_left
     ·intro w9 hSw
      go_simp
      first | done | with_reducible rfl
     simp only [pP,pN,pS,pZ,pC]
     refine tk 6 (v:=?_) rfl (Or.inl ⟨by rfl,?_⟩) ?_
     rotate_left
     ·intro w9 hSw
      go_simp
      first | done | with_reducible rfl
     simp only [pP,pN,pS,pZ,pC]
     refine wpAnyH_ready (rs:=[7]) (by kernel_rfl) (by simp) ?_
     refine cons' rfl (fun KK hKK=>?_)
     go_simp
     refine (GM.out _).mono ?_
     rintro e w7 ⟨rfl,rfl⟩
     go_wp2_with fail
     refine hKK.out _ _ hHeld ?_
     clear hHeld
     intro hHeld
     clear hKK KK
     try simp only [pP,pN,pS,pZ,pC]
     refine tk 8 (v:=?_) rfl (Or.inl ⟨by rfl,?_⟩) ?_
     rotate_left
     ·intro w9 hSw
      go_simp
      first | done | with_reducible rfl
     simp only [pP,pN,pS,pZ,pC]
     refine wpAnyH_ready (rs:=[9]) (by kernel_rfl) (by simp) ?_
     refine cons' rfl (fun KK hKK=>?_)
     obtain ⟨hS,hS2⟩:=(HF.out.later bD).set hlt (show k < n i by rw [hN.out];exact hkn) hai.out v
     have bel2:Bx lo L A n w (w7.setCell ⟨b,off+k,none⟩ (.int .u32 v)):=(bel.add bD hlw).set hlt (show 0 < n i by rw [hN.out];omega) hai.out hb1
     have hH2:(w7.setCell ⟨b,off+k,none⟩ (.int .u32 v)).cell? ⟨bl,ol+i,none⟩=some (.slice (some ⟨b,off,none⟩) N N):=by have:=hS.row i hlt;rw [hN.out,hai.out] at this;exact this
     have HS:=hide' hS
     clear hS
     go_simp
     refine hKK.out _ _ hH2 ?_
     clear hHeld
     intro hHeld
     clear hKK KK
     try simp only [pP,pN,pS,pZ,pC]
     refine wpAnyH_done (by kernel_rfl) ?_ _
     go_wp2
     go_roundw
     case rel=>exact ⟨k+1,upd f i k v,by omega,by go_num,HS.out,fun i1 c1 j cj=>by unfold upd;rw [if_neg (fun c=>by omega)];exact HM.out i1 c1 j cj,fun j cj=>by unfold upd;by_cases e:j=k;rw [if_pos ⟨rfl,e⟩,e];exact hv.out.symm;rw [if_neg (fun c=>e c.2)];exact HK.out j (by omega),bel2⟩
     case measure=>simp [intOf];omega
    ·have k2:¬ ((k:Int) < (N:Int)):=by omega
     go_wp2
     go_roundw
     case rel=>exact ⟨i+1,f,by omega,by go_num,HF.out,fun i1 c1 j cj=>by by_cases e:i1=i;subst e;exact HK.out j (by rw [hN.out] at cj;omega);exact HM.out i1 (by omega) j cj,bel⟩
     case measure=>simp [intOf];omega
  ·have eL:L=i:=by omega
   subst eL
   have i2:¬ ((L:Int) < (L:Int)):=by omega
   have H1:=hide' (hf.congr (g:=mrk) hfm)
   clear hf hfm hi hlt
   have hlw:lo≤wr.heap.size:=Nat.le_trans hlo bel.size
   obtain ⟨w1,hw1⟩:∃ w1,wr=w1:=⟨_,rfl⟩
   rw [hw1] at H1 bel hlw ⊢
   clear hw1
   obtain ⟨i0,hi0,hz0,hz1,hz2⟩:=info_parts infoU
   obtain ⟨j0,hj0,hy0,hy1,hy2⟩:=info_parts infoS
   go_wp2_with fail
   go_loopw [5,6] (fun vg vi wr=>∃ (i:Nat) (cs:List Value),i≤L∧vi=.int .i64 i∧wr.ownsRow w1.heap.size 22 1 vg i cs∧GI wr w1.heap.size 57 n vg i cs∧Below w1.heap.size w1 wr) (fun _ vi _=>L - (intOf vi).toNat)
   case atStart=>exact ⟨0,[],Nat.zero_le _,rfl,World.ownsRow_nil _ _ _ _,fun k c=>absurd c (Nat.not_lt_zero _),Below.refl _ _⟩
   case round =>
    obtain ⟨i,cs,hi,rfl,hO,hG,hB⟩:=hrel
    by_cases hlt:i < L
    ·have i2:((i:Int) < (L:Int)):=by omega
     have i1:(0:Int)≤(i:Int):=by omega
     have HO:=hide' hO
     have HG:=hide' hG
     clear hO hG
     have H2:=hide' (H1.out.later hB)
     have r0:=H2.out.row i hlt
     have HD:=hide' (H2.out.olds hlt)
     obtain ⟨N,hN⟩:∃ N,n i=N:=⟨_,rfl⟩
     rw [hN] at r0 HD
     have N1:N≤1073741824:=by rw [←hN];exact HN.out i hlt
     replace hN:=hide' hN
     obtain ⟨ai,hai⟩:∃ ai,A i=ai:=⟨_,rfl⟩
     rw [hai] at r0 HD
     replace hai:=hide' hai
     obtain ⟨wI,hwI⟩:∃ wI,wr=wI:=⟨_,rfl⟩
     rw [hwI] at HO HG hB H2 r0 HD ⊢
     clear hwI
     go_wp2_with fail
     go_loopw [7,8] (fun v7 vk wq=>∃ k:Nat,k≤16∧vk=.int .i64 k∧(k=0∧v7=.slice ai N N∧wq=wI∨1≤k∧wq.ownsRow wI.heap.size 57 1 v7 (N+k) (mks i (N+k))∧Below wI.heap.size wI wq)) (fun _ vk _=>16 - (intOf vk).toNat)
     case atStart=>exact ⟨0,by omega,rfl,.inl ⟨rfl,rfl,rfl⟩⟩
     case round =>
      obtain ⟨k,hk,rfl,hor⟩:=hrel
      clear r0
      by_cases hk16:k < 16
      ·have k2:((k:Int) < 16):=by omega
       rcases hor with ⟨rfl,rfl,rfl⟩ | ⟨hk1,hO7,hB7⟩
       ·skip
        have GM:=hide' (fun w'=>mark_is i N w' (by omega) (by omega))
        obtain ⟨v,hv⟩:∃ v,mrk i N=v:=⟨_,rfl⟩
        rw [hv] at GM
        replace hv:=hide' hv
        obtain ⟨wB,hwB⟩:∃ wB,wr.alloc (.cells #[.int .u32 v] 57)=wB:=⟨_,rfl⟩
        have hnew:=heap_alloc_new wr (.cells #[.int .u32 v] 57)
        have b3:=below_alloc (w:=wr) (.cells #[.int .u32 v] 57)
        rw [hwB] at hnew b3
        have s3:=b3.size
        go_wp2_with fail
        refine (GM.out _).mono ?_
        rintro e w7 ⟨rfl,rfl⟩
        clear GM
        have hd1:=HD.out.1
        have hd2:=hide' (fun b e j u hj=>below_cell b3 (HD.out.2 b e j u hj))
        go_wp2_with (at_builtin;(try rw [hwB]);refine wpList_append_grows _ rfl _ _ _ rfl 57 i0 _ 1 4 Tryz.underlying22 hi0 hz0 hz1 hz2 rfl (by omega) ai N N (mks i N) (by rfl) hd1 (by rw [mks_len];omega) hd2.out ⟨w7.heap.size,0,none⟩ 1 1 [.int .u32 v] (by rfl) (by rfl) (World.news_of_block (cs:=#[.int .u32 v]) (t:=57) (fr:=(0,0)) hnew) (by simp [Value.oneCell']) (by omega) (by simp only [maxLen];omega) (by omega) ?_)
        intro v9 w9 hown hgr
        have I1:=hide' (show w9.ownsRow w7.heap.size 57 1 v9 (N+(0+1)) (mks i (N+(0+1)))∧Below w7.heap.size w7 w9 from ⟨by rw [Nat.zero_add,mks_succ,hv.out];exact own_monoO hown s3,b3.trans (below_grownO s3 (fun k hk=>by cases hk) hgr)⟩)
        clear hown hgr hnew b3 hd1 hd2
        go_wp2
        go_roundw
        case rel=>exact ⟨0+1,by omega,by go_num,.inr ⟨by omega,I1.out⟩⟩
        case measure=>simp [intOf]
       ·skip
        obtain ⟨g7,c7,e7,_,_⟩:=hO7.form (by omega)
        subst e7
        have GM:=hide' (fun w'=>mark_is i (N+k) w' (by omega) (by omega))
        obtain ⟨v,hv⟩:∃ v,mrk i (N+k)=v:=⟨_,rfl⟩
        rw [hv] at GM
        replace hv:=hide' hv
        obtain ⟨wB,hwB⟩:∃ wB,wr.alloc (.cells #[.int .u32 v] 57)=wB:=⟨_,rfl⟩
        have hnew:=heap_alloc_new wr (.cells #[.int .u32 v] 57)
        have b3:=below_alloc (w:=wr) (.cells #[.int .u32 v] 57)
        rw [hwB] at hnew b3
        have s3:=b3.size
        go_wp2_with fail
        refine (GM.out _).mono ?_
        rintro e w7 ⟨rfl,rfl⟩
        clear GM
        have hO8:=own_belowO hO7 b3
        have hbb:wI.heap.size≤wB.heap.size:=Nat.le_trans hB7.size s3
        have hrow:=fun g hg=>(hO7.lt g hg).1
        obtain ⟨zs,hzs⟩:∃ zs,mks i (N+k)=zs:=⟨_,rfl⟩
        rw [hzs] at hO8
        replace hzs:=hide' hzs
        go_wp2_with (at_builtin;(try rw [hwB]);refine wpList_append_lies _ (by rfl) _ _ _ (by rfl) wI.heap.size 57 i0 _ 1 4 Tryz.underlying22 hi0 hz0 hz1 hz2 rfl (by omega) (.slice (some ⟨g7,0,none⟩) (N+k) c7) (N+k) zs (by rfl) hO8 ⟨w7.heap.size,0,none⟩ 1 1 [.int .u32 v] (by rfl) (by rfl) (World.news_of_block (cs:=#[.int .u32 v]) (t:=57) (fr:=(0,0)) hnew) (by simp [Value.oneCell']) (by omega) (by simp only [maxLen];omega) (by omega) hbb wB.heap.size rfl ?_)
        intro gb cap w9 hown hgr hat hlt4
        have I1:=hide' (show w9.ownsRow wI.heap.size 57 1 (.slice (some ⟨gb,0,none⟩) (N+k+1) cap) (N+(k+1)) (mks i (N+(k+1)))∧Below wI.heap.size wI w9 from ⟨by rw [←Nat.add_assoc,mks_succ,hv.out,hzs.out];exact hown,(hB7.trans (b3.mono hB7.size)).trans (below_grownO hbb hrow hgr)⟩)
        clear hown hgr hat hnew b3 hO8 hrow hO7 hB7
        go_wp2
        go_roundw
        case rel=>exact ⟨k+1,by omega,by go_num,.inr ⟨by omega,I1.out⟩⟩
        case measure=>simp [intOf];omega
      ·have k2:¬ ((k:Int) < 16):=by omega
       have ek:16=k:=by omega
       subst ek
       rcases hor with ⟨h,_⟩ | ⟨_,hO7,hB7⟩
       ·exact absurd h (by decide)
       obtain ⟨g7,c7,e7,_,_⟩:=hO7.form (by omega)
       subst e7
       obtain ⟨wB,hwB⟩:∃ wB,wr.alloc (.cells #[.slice (some ⟨g7,0,none⟩) (N+16) c7] 22)=wB:=⟨_,rfl⟩
       have hnew:=heap_alloc_new wr (.cells #[.slice (some ⟨g7,0,none⟩) (N+16) c7] 22)
       have b3:=below_alloc (w:=wr) (.cells #[.slice (some ⟨g7,0,none⟩) (N+16) c7] 22)
       rw [hwB] at hnew b3
       have s3:=b3.size
       have s4:=hB.size
       have s5:=hB7.size
       have hbb:w1.heap.size≤wB.heap.size:=by omega
       have hO8:=own_belowO (own_belowO HO.out hB7) b3
       have hrow:=hide' (fun g hg=>(HO.out.lt g hg).1)
       go_wp2_with (at_builtin;(try rw [hwB]);refine wpList_append_lies _ (by rfl) _ _ _ (by rfl) w1.heap.size 22 j0 _ 1 24 Tryz.underlying36 hj0 hy0 hy1 hy2 rfl (by omega) u5 i cs (by rfl) hO8 ⟨wr.heap.size,0,none⟩ 1 1 [.slice (some ⟨g7,0,none⟩) (N+16) c7] (by rfl) (by rfl) (World.news_of_block (cs:=#[.slice (some ⟨g7,0,none⟩) (N+16) c7]) (t:=22) (fr:=(0,0)) hnew) (by simp [Value.oneCell']) (by omega) (by simp only [maxLen];omega) (by omega) hbb wB.heap.size rfl ?_)
       intro gb cap w9 hown hgr hat hlt4
       have I1:=hide' (show w9.ownsRow w1.heap.size 22 1 (.slice (some ⟨gb,0,none⟩) (i+1) cap) (i+1) (cs ++ [.slice (some ⟨g7,0,none⟩) (N+16) c7])∧GI w9 w1.heap.size 57 n (.slice (some ⟨gb,0,none⟩) (i+1) cap) (i+1) (cs ++ [.slice (some ⟨g7,0,none⟩) (N+16) c7])∧Below w1.heap.size w1 w9 from ⟨hown,by have h:=HG.out.push HO.out hB7 b3 (by rw [hN.out];exact hO7) s4 hgr hat (m:=i+1) (cap:=cap);rw [hN.out] at h;exact h,((hB.trans (hB7.mono hB.size)).trans (b3.mono (by omega))).trans (below_grownO hbb hrow.out hgr)⟩)
       clear hown hgr hat hnew b3 hO8 hrow hO7 hB7
       go_wp2
       go_roundw
       case rel=>exact ⟨i+1,_,by omega,by go_num,I1.out⟩
       case measure=>simp [intOf];omega
    ·have eL:L=i:=by omega
     subst eL
     have i2:¬ ((L:Int) < (L:Int)):=by omega
     have H2:=hide' (H1.out.later hB)
     have HG:=hide' hG
     have HO:=hide' hO
     have hbel:=bel.add hB hlw
     have hlw2:lo≤wr.heap.size:=Nat.le_trans hlw hB.size
     clear hO hG hB bel hi hlt
     obtain ⟨w2,hw2⟩:∃ w2,wr=w2:=⟨_,rfl⟩
     rw [hw2] at H2 HG HO hbel hlw2 ⊢
     clear hw2
     go_wp2_with fail
     go_loopw [9] (fun vi wr=>∃ i:Nat,i≤L∧vi=.int .i64 i∧Below w2.heap.size w2 wr) (fun vi _=>L - (intOf vi).toNat)
     case atStart=>exact ⟨0,Nat.zero_le _,rfl,Below.refl _ _⟩
     case round =>
      obtain ⟨i,hi,rfl,hB⟩:=hrel
      by_cases hlt:i < L
      ·have i2:((i:Int) < (L:Int)):=by omega
       have i1:(0:Int)≤(i:Int):=by omega
       obtain ⟨N,hN⟩:∃ N,n i=N:=⟨_,rfl⟩
       have N1:N≤1073741824:=by rw [←hN];exact HN.out i hlt
       obtain ⟨ai,hai⟩:∃ ai,A i=ai:=⟨_,rfl⟩
       obtain ⟨gb,cb,eb,_,_⟩:=HO.out.form (by omega)
       subst eb
       obtain ⟨gi,ci,f1,f2,f3⟩:=HG.out i hlt
       have r1:=HO.out.cellAt i (by omega)
       rw [f1] at r1
       have r0:=H2.out.row i hlt
       rw [hN] at r0 r1 f2
       rw [hai] at r0
       have F2:=hide' f2
       clear f1 f2 f3
       replace hN:=hide' hN
       replace hai:=hide' hai
       have q0:=below_cell hB r0
       go_wp2_with fail
       go_loopw [10] (fun vk wq=>∃ k:Nat,k≤N∧vk=.int .i64 k∧Below w2.heap.size w2 wq) (fun vk _=>N - (intOf vk).toNat)
       case atStart=>exact ⟨0,Nat.zero_le _,rfl,hB⟩
       case round =>
        clear hB
        obtain ⟨k,hk,rfl,hB⟩:=hrel
        try clear q0
        have q0:=below_cell hB r0
        by_cases hkn:k < N
        ·have k2:((k:Int) < ((N:Nat):Int)):=by omega
         have k1:(0:Int)≤(k:Int):=by omega
         obtain ⟨b,off,eA,_,_,_,hb4⟩:=H2.out.lst i hlt (by rw [hN.out];omega)
         rw [hai.out] at eA
         subst eA
         have q1:=below_cell hB (hb4 k (by rw [hN.out];exact hkn))
         clear hb4
         have GM:=hide' (fun w'=>mark_is i k w' (by omega) (by omega))
         obtain ⟨v,hv⟩:∃ v,mrk i k=v:=⟨_,rfl⟩
         rw [hv] at GM q1
         clear hv
         have hne:(v != v)=false:=by simp
         go_wp2_with fail
         have bD:Below wr.heap.size wr wr.drew:=(Below.refl _ _).drew
         have kq0:=below_cell bD q0
         have kq1:=below_cell bD q1
         replace hB:=hB.trans (bD.mono hB.size)
         refine wp_region_held_drew (S:=fun w'=>w'.cell? ⟨bl,ol+i,none⟩=some (.slice (some ⟨b,off,none⟩) N N)∧w'.cell? ⟨b,off+k,none⟩=some (.int .u32 v)) (by kernel_rfl) ⟨kq0,kq1⟩ (fun hHeld=>?_)
         clear kq0 kq1
         generalize wr.drew=wF at bD hB hHeld ⊢
         clear bD q0 q1
         refine tk 0 (v:=?_) rfl (Or.inl ⟨by rfl,?_⟩) ?_
         rotate_left
         ·intro w9 hSw
          go_simp
          first | done | with_reducible rfl
         simp only [pP,pN,pS,pZ,pC]
         refine tk 1 (v:=?_) rfl (Or.inl ⟨by rfl,?_⟩) ?_
         rotate_left
         ·intro w9 hSw
          go_simp
          first | done | with_reducible rfl
         simp only [pP,pN,pS,pZ,pC]
         refine tk 2 (v:=?_) rfl (Or.inl ⟨by rfl,?_⟩) ?_
         rotate_left
         ·intro w9 hSw
          go_simp
          first | done | with_reducible rfl
         simp only [pP,pN,pS,pZ,pC]
         refine tk 3 (v:=?_) rfl (Or.inl ⟨by rfl,?_⟩) ?_
         rotate_left
         ·intro w9 hSw
          go_simp
          first | done | with_reducible rfl
         simp only [pP,pN,pS,pZ,pC]
         refine tk 4 (v:=?_) rfl (Or.inl ⟨by rfl,?_⟩) ?_
         rotate_left
         ·intro w9 hSw
          go_simp
          first | done | with_reducible rfl
         simp only [pP,pN,pS,pZ,pC]
         refine tk 5 (v:=?_) rfl (Or.inl ⟨by rfl,?_⟩) ?_
         rotate_left
         ·intro w9 hSw
          go_simp
          first | done | with_reducible rfl
         simp only [pP,pN,pS,pZ,pC]
         refine tk 6 (v:=?_) rfl (Or.inl ⟨by rfl,?_⟩) ?_
         rotate_left
         ·intro w9 hSw
          go_simp
          first | done | with_reducible rfl
         simp only [pP,pN,pS,pZ,pC]
         refine tk 7 (v:=?_) rfl (Or.inl ⟨by rfl,?_⟩) ?_
         rotate_left
         ·intro w9 hSw
          go_simp
          first | done | with_reducible rfl
         simp only [pP,pN,pS,pZ,pC]
         refine tk 8 (v:=?_) rfl (Or.inl ⟨by rfl,?_⟩) ?_
         rotate_left
         ·intro w9 hSw
          go_simp
          first | done | with_reducible rfl
         simp only [pP,pN,pS,pZ,pC]
         refine wpAnyH_ready (rs:=[9]) (by kernel_rfl) (by simp) ?_
         refine cons' rfl (fun KK hKK=>?_)
         go_simp
         refine (GM.out _).mono ?_
         rintro e w7 ⟨rfl,rfl⟩
         go_wp2_with fail
         refine hKK.out _ _ hHeld ?_
         clear hHeld
         intro hHeld
         clear hKK KK
         try simp only [pP,pN,pS,pZ,pC]
         refine tk 10 (v:=?_) rfl (Or.inl ⟨by rfl,?_⟩) ?_
         rotate_left
         ·intro w9 hSw
          go_simp
          first | done | with_reducible rfl
         simp only [pP,pN,pS,pZ,pC]
         refine wpAnyH_done (by kernel_rfl) ?_ _
         clear hHeld
         go_wp2
         go_roundw
         case rel=>exact ⟨k+1,by omega,by go_num,hB⟩
         case measure=>simp [intOf];omega
        ·have k2:¬ ((k:Int) < ((N:Nat):Int)):=by omega
         clear hkn hk
         have q5:=below_cell hB r1
         go_wp2_with fail
         clear q5
         go_loopw [11] (fun vk wq=>∃ k:Nat,k≤(N+16)∧vk=.int .i64 k∧Below w2.heap.size w2 wq) (fun vk _=>(N+16) - (intOf vk).toNat)
         case atStart=>exact ⟨0,Nat.zero_le _,rfl,hB⟩
         case round =>
          clear hB
          obtain ⟨k,hk,rfl,hB⟩:=hrel
          try clear q0
          have q0:=below_cell hB r1
          by_cases hkn:k < (N+16)
          ·have k2:((k:Int) < (((N+16):Nat):Int)):=by omega
           have k3:((k:Int) < (N:Int)+16):=by omega
           have k1:(0:Int)≤(k:Int):=by omega
           have q1:=F2.out.cellAt k (by omega)
           rw [mks_at hkn] at q1
           replace q1:=below_cell hB q1
           have GM:=hide' (fun w'=>mark_is i k w' (by omega) (by omega))
           obtain ⟨v,hv⟩:∃ v,mrk i k=v:=⟨_,rfl⟩
           rw [hv] at GM q1
           clear hv
           have hne:(v != v)=false:=by simp
           go_wp2_with fail
           have bD:Below wr.heap.size wr wr.drew:=(Below.refl _ _).drew
           have kq0:=below_cell bD q0
           have kq1:=below_cell bD q1
           replace hB:=hB.trans (bD.mono hB.size)
           refine wp_region_held_drew (S:=fun w'=>w'.cell? ⟨gb,i,none⟩=some (.slice (some ⟨gi,0,none⟩) (N+16) ci)∧w'.cell? ⟨gi,k,none⟩=some (.int .u32 v)) (by kernel_rfl) ⟨kq0,kq1⟩ (fun hHeld=>?_)
           clear kq0 kq1
           generalize wr.drew=wF at bD hB hHeld ⊢
           clear bD q0 q1
           refine tk 0 (v:=?_) rfl (Or.inl ⟨by rfl,?_⟩) ?_
           rotate_left
           ·intro w9 hSw
            go_simp
            first | done | with_reducible rfl
           simp only [pP,pN,pS,pZ,pC]
           refine tk 1 (v:=?_) rfl (Or.inl ⟨by rfl,?_⟩) ?_
           rotate_left
           ·intro w9 hSw
            go_simp
            first | done | with_reducible rfl
           simp only [pP,pN,pS,pZ,pC]
           refine tk 2 (v:=?_) rfl (Or.inl ⟨by rfl,?_⟩) ?_
           rotate_left
           ·intro w9 hSw
            go_simp
            first | done | with_reducible rfl
           simp only [pP,pN,pS,pZ,pC]
           refine tk 3 (v:=?_) rfl (Or.inl ⟨by rfl,?_⟩) ?_
           rotate_left
           ·intro w9 hSw
            go_simp
            first | done | with_reducible rfl
           simp only [pP,pN,pS,pZ,pC]
           refine tk 4 (v:=?_) rfl (Or.inl ⟨by rfl,?_⟩) ?_
           rotate_left
           ·intro w9 hSw
            go_simp
            first | done | with_reducible rfl
           simp only [pP,pN,pS,pZ,pC]
           refine tk 5 (v:=?_) rfl (Or.inl ⟨by rfl,?_⟩) ?_
           rotate_left
           ·intro w9 hSw
            go_simp
            first | done | with_reducible rfl
           simp only [pP,pN,pS,pZ,pC]
           refine tk 6 (v:=?_) rfl (Or.inl ⟨by rfl,?_⟩) ?_
           rotate_left
           ·intro w9 hSw
            go_simp
            first | done | with_reducible rfl
           simp only [pP,pN,pS,pZ,pC]
           refine tk 7 (v:=?_) rfl (Or.inl ⟨by rfl,?_⟩) ?_
           rotate_left
           ·intro w9 hSw
            go_simp
            first | done | with_reducible rfl
           simp only [pP,pN,pS,pZ,pC]
           refine tk 8 (v:=?_) rfl (Or.inl ⟨by rfl,?_⟩) ?_
           rotate_left
           ·intro w9 hSw
            go_simp
            first | done | with_reducible rfl
           simp only [pP,pN,pS,pZ,pC]
           refine wpAnyH_ready (rs:=[9]) (by kernel_rfl) (by simp) ?_
           refine cons' rfl (fun KK hKK=>?_)
           go_simp
           refine (GM.out _).mono ?_
           rintro e w7 ⟨rfl,rfl⟩
           go_wp2_with fail
           refine hKK.out _ _ hHeld ?_
           clear hHeld
           intro hHeld
           clear hKK KK
           try simp only [pP,pN,pS,pZ,pC]
           refine tk 10 (v:=?_) rfl (Or.inl ⟨by rfl,?_⟩) ?_
           rotate_left
           ·intro w9 hSw
            go_simp
            first | done | with_reducible rfl
           simp only [pP,pN,pS,pZ,pC]
           refine wpAnyH_done (by kernel_rfl) ?_ _
           clear hHeld
           go_wp2
           go_roundw
           case rel=>exact ⟨k+1,by omega,by go_num,hB⟩
           case measure=>simp [intOf];omega
          ·have k2:¬ ((k:Int) < (((N+16):Nat):Int)):=by omega
           have k3:¬ ((k:Int) < (N:Int)+16):=by omega
           go_wp2
           go_roundw
           case rel=>exact ⟨i+1,by omega,by go_num,hB⟩
           case measure=>simp [intOf];omega
      ·have eL:L=i:=by omega
       subst eL
       have i2:¬ ((L:Int) < (L:Int)):=by omega
       go_wp2
       go_ret
       exact ⟨rfl,hbel.add hB hlw2⟩
theorem spoil_is (lo bl ol L cl:Nat) (A:Nat→Option Addr) (n:Nat→Nat) (f0:Nat→Nat→Int) (w:World) (hL:L≤1000000) (hn:∀ i,i < L→n i≤1073741824) (hlo:lo≤w.heap.size) (h0:Ls w lo bl ol L A n f0) :
  Calls Tryz.prog 12 #[.slice (some ⟨bl,ol,none⟩) L cl] w fun e w'=>e=.returned (.bool true)∧Below lo w w':=by
 refine (spoil_ox lo bl ol L cl A n f0 w hL hn hlo h0).mono ?_
 rintro e w' ⟨rfl,h⟩
 exact ⟨rfl,h.bel⟩
def rowV (P:Nat→Option Addr) (N:Nat→Nat) (m:Nat):List Value:=(List.range m).map fun i=>.slice (P i) (N i) (N i)
theorem rowV_succ (P:Nat→Option Addr) (N:Nat→Nat) (m:Nat):rowV P N (m+1)=rowV P N m ++ [.slice (P m) (N m) (N m)]:=by unfold rowV;rw [List.range_succ,List.map_append];rfl
theorem rowV_at {P:Nat→Option Addr} {N:Nat→Nat} {m i:Nat} (h:i < m):(rowV P N m)[i]?=some (.slice (P i) (N i) (N i)):=by unfold rowV;rw [List.getElem?_map,List.getElem?_range h];rfl
set_option maxHeartbeats 4000000 in
set_option maxRecDepth 100000 in
theorem OfDelta_is (s s2:Bool) (p q r t:Option Addr) (n c m d k c2 l d2:Nat) (w:World) :
  Calls Tryz.prog 11 #[.agg #[.bool s,.slice p n c,.slice q m d,.bool s2,.slice r k c2,.slice t l d2]] w fun e w'=>∃ bl,e=.returned (.slice (some ⟨bl,0,none⟩) 4 4)∧w.heap.size≤bl∧Blk w' bl #[.slice p n c,.slice q m d,.slice r k c2,.slice t l d2] 22∧Below w.heap.size w w':=by
 have h1:=Blk.new (w.alloc (.cells #[.bool s,.slice p n c,.slice q m d,.bool s2,.slice r k c2,.slice t l d2] 29)) #[.slice p n c,.slice q m d,.slice r k c2,.slice t l d2] 22
 have h2:Below w.heap.size w ((w.alloc (.cells #[.bool s,.slice p n c,.slice q m d,.bool s2,.slice r k c2,.slice t l d2] 29)).alloc (.cells #[.slice p n c,.slice q m d,.slice r k c2,.slice t l d2] 22)):=((Below.refl _ _).alloc (Nat.le_refl _) _).alloc (by rw [World.size_alloc];omega) _
 simp only [World.size_alloc] at h1
 go_enter Tryz.func11,Tryz.ntmps11
 go_wp2
 go_ret
 exact ⟨w.heap.size+1,rfl,by omega,h1,h2⟩
set_option maxHeartbeats 4000000 in
set_option maxRecDepth 100000 in
theorem both_is (base bl m cb k:Nat) (v:Value) (cs:List Value) (P:Nat→Option Addr) (N:Nat→Nat) (w:World) (hm:m≤1000000) (hk:k≤1000000) (hb:base≤w.heap.size) (hO0:w.ownsRow base 22 1 v k cs) (hne0:v.ownBlock≠some bl) (hlt0:0 < m→bl < w.heap.size) (hR0:∀ j,j < m→w.cell? ⟨bl,j,none⟩=some (.slice (P j) (N j) (N j))) :
  Calls Tryz.prog 10 #[v,.slice (some ⟨bl,0,none⟩) m cb] w fun e w'=>∃ v',e=.returned v'∧w'.ownsRow base 22 1 v' (k+m) (cs ++ rowV P N m)∧Below base w w':=by
 obtain ⟨j0,hj0,hy0,hy1,hy2⟩:=info_parts infoS
 have HR0:=hide' hR0
 clear hR0
 go_enter Tryz.func10,Tryz.ntmps10
 go_wp2_with fail
 go_loopw [0,5] (fun vo vi wr=>∃ i:Nat,i≤m∧vi=.int .i64 i∧wr.ownsRow base 22 1 vo (k+i) (cs ++ rowV P N i)∧vo.ownBlock≠some bl∧(∀ j,j < m→wr.cell? ⟨bl,j,none⟩=some (.slice (P j) (N j) (N j)))∧Below base w wr) (fun _ vi _=>m - (intOf vi).toNat)
 case atStart=>exact ⟨0,Nat.zero_le _,rfl,by rw [show rowV P N 0=[] from rfl,List.append_nil];exact hO0,hne0,HR0.out,Below.refl _ _⟩
 case round =>
  clear hO0 hne0 HR0
  obtain ⟨i,hi,rfl,hO,hne,hR,hB⟩:=hrel
  by_cases hlt:i < m
  ·have i2:((i:Int) < (m:Int)):=by omega
   have i1:(0:Int)≤(i:Int):=by omega
   have c0:=hR i hlt
   have HR:=hide' hR
   have HN:=hide' hne
   clear hR hne
   obtain ⟨p,hp⟩:∃ p,P i=p:=⟨_,rfl⟩
   obtain ⟨V,hV⟩:∃ V,N i=V:=⟨_,rfl⟩
   rw [hp,hV] at c0
   replace hp:=hide' hp
   replace hV:=hide' hV
   obtain ⟨zs,hzs⟩:∃ zs,cs ++ rowV P N i=zs:=⟨_,rfl⟩
   rw [hzs] at hO
   replace hzs:=hide' hzs
   obtain ⟨wB,hwB⟩:∃ wB,wr.alloc (.cells #[.slice p V V] 22)=wB:=⟨_,rfl⟩
   have hnew:=heap_alloc_new wr (.cells #[.slice p V V] 22)
   have b3:=below_alloc (w:=wr) (.cells #[.slice p V V] 22)
   rw [hwB] at hnew b3
   have s3:=b3.size
   have s4:=hB.size
   have hbb:base≤wB.heap.size:=by omega
   have hO8:=own_belowO hO b3
   have hrow:=hide' (fun g hg=>(hO.lt g hg).1)
   have hl1:bl < wB.heap.size:=Nat.lt_of_lt_of_le (hlt0 (by omega)) (by omega)
   have HW:=hide' (show wr.heap.size < wB.heap.size by rw [←hwB,World.size_alloc];omega)
   go_wp2_with (at_builtin;(try rw [hwB]);refine wpList_append_lies _ (by rfl) _ _ _ (by rfl) base 22 j0 _ 1 24 Tryz.underlying36 hj0 hy0 hy1 hy2 rfl (by omega) u0 (k+i) zs (by rfl) hO8 ⟨wr.heap.size,0,none⟩ 1 1 [.slice p V V] (by rfl) (by rfl) (World.news_of_block (cs:=#[.slice p V V]) (t:=22) (fr:=(0,0)) hnew) (by simp [Value.oneCell']) (by omega) (by simp only [maxLen];omega) (by omega) hbb wB.heap.size rfl ?_)
   intro gb cap w9 hown hgr hat hlt4
   have I1:=hide' (show w9.ownsRow base 22 1 (.slice (some ⟨gb,0,none⟩) (k+i+1) cap) (k+(i+1)) (cs ++ rowV P N (i+1))∧(Value.slice (some ⟨gb,0,none⟩) (k+i+1) cap).ownBlock≠some bl∧(∀ j,j < m→w9.cell? ⟨bl,j,none⟩=some (.slice (P j) (N j) (N j)))∧Below base w w9 by
    refine ⟨by rw [←Nat.add_assoc,rowV_succ,←List.append_assoc,hzs.out,hp.out,hV.out];exact hown,fun e=>?_,fun j hj=>?_,(hB.trans (b3.mono (by omega))).trans (below_grownO hbb hrow.out hgr)⟩
    ·have e2:gb=bl:=by simpa [Value.ownBlock] using e
     rcases hat with h | h
     ·exact HN.out (by rw [h,e2])
     ·omega
    ·exact (World.cell?_of_block (w:=wB) (a:=⟨bl,j,none⟩) (hgr.block bl hl1 (fun e=>HN.out e.symm))).trans (below_cell b3 (HR.out j hj)))
   clear hown hgr hat hnew b3 hO8 hrow hO hB HR HN HW
   go_wp2
   go_roundw
   case rel=>exact ⟨i+1,by omega,by go_num,I1.out⟩
   case measure=>simp [intOf];omega
  ·have ei:m=i:=by omega
   subst ei
   have i2:¬ ((m:Int) < (m:Int)):=by omega
   go_wp2
   go_ret
   exact ⟨_,rfl,hO,hB⟩
def Sml (g:GapV) (S:Int) (U:Nat):Prop:=(¬ badG g.val∧S=(smallG [g.val]).num∧U=(smallG [g.val]).den)∨(badG g.val∧S=0∧U=0)
theorem sml_ex (g:GapV):∃ S U,Sml g S U:=by
 by_cases h:badG g.val
 ·exact ⟨0,0,Or.inr ⟨h,rfl,rfl⟩⟩
 ·exact ⟨_,_,Or.inl ⟨h,rfl,rfl⟩⟩
theorem gl_one (g:GapV):gl (fun _=>g) 1=[g.val]:=rfl
theorem small1_ap (g:GapV) (a:Option Addr) (cap:Nat) (S:Int) (U:Nat) (w:World) (hA:GapsAt w a 1 (fun _=>g)) (hok:g.ok w) (ht:g.tiny) (hc:1≤cap) (hS:Sml g S U) :
  Calls Tryz.prog 24 #[.slice a 1 cap] w fun e w'=>∃ p q er,e=.returned (.tuple #[.agg #[.bool (ng S),.slice p (ln (am S)) (ln (am S)),.slice q (ln U) (ln U)],.int .i64 er])∧New w w' p (am S) (ln (am S))∧New w w' q U (ln U)∧Ap p (ln (am S)) q (ln U):=by
 refine (Small_ow a 1 cap (fun _=>g) w hA (fun i hi=>⟨hok,ht⟩) hc (by omega)).mono ?_
 rw [gl_one]
 have e1:ln (am 0)=0:=ln_zero
 have e3:ln 0=0:=ln_zero
 have e2:ng 0=false:=rfl
 rintro e w' (⟨hb,p,q,rfl,hB,ho⟩ | ⟨⟨i,hi,hb⟩,rfl,hB⟩)
 ·rcases hS with ⟨_,rfl,rfl⟩ | ⟨hb2,_⟩
  ·obtain ⟨n1,n2⟩:=ho.news hB
   exact ⟨p,q,0,rfl,n1,n2,ho.2.2.2⟩
  ·exact absurd hb2 (hb 0 (by omega))
 ·rcases hS with ⟨hb2,_⟩ | ⟨_,rfl,rfl⟩
  ·exact absurd hb hb2
  ·rw [e1,e2,e3]
   exact ⟨none,none,51,rfl,New.nil none hB,New.nil none hB,fun h=>absurd h (by omega)⟩
abbrev Lst:=Option Addr × Nat
def Nw (lo hi:Nat) (W:World) (x:Lst):Prop:=Seg W x.1 x.2 (ln x.2)∧(0 < ln x.2→∃ b off,x.1=some ⟨b,off,none⟩∧lo≤b∧b < hi∧Row W b)
def ApL (x y:Lst):Prop:=Ap x.1 (ln x.2) y.1 (ln y.2)
def AL (W:World) (lo hi:Nat) (xs:List Lst):Prop:=(∀ x∈xs,Nw lo hi W x)∧xs.Pairwise ApL
theorem Nw.later {lo hi:Nat} {W W':World} {x:Lst} (h:Nw lo hi W x) (hb:Below W.heap.size W W'):Nw lo hi W' x :=
 ⟨h.1.below hb (Nat.le_refl _),fun hn=>by obtain ⟨b,off,e,h1,h2,h3⟩:=h.2 hn;exact ⟨b,off,e,h1,h2,below_row hb h3⟩⟩
theorem Nw.wide {lo hi lo' hi':Nat} {W:World} {x:Lst} (h:Nw lo hi W x) (h1:lo'≤lo) (h2:hi≤hi'):Nw lo' hi' W x :=
 ⟨h.1,fun hn=>by obtain ⟨b,off,e,k1,k2,k3⟩:=h.2 hn;exact ⟨b,off,e,by omega,by omega,k3⟩⟩
theorem Nw.of {w w':World} {a:Option Addr} {X:Nat} (h:New w w' a X (ln X)):Nw w.heap.size w'.heap.size w' (a,X) :=
 ⟨h.seg,fun hn=>by
  obtain ⟨b,off,e,h1,h2⟩:=h.fresh hn
  exact ⟨b,off,e,h1,h2.lt,h2⟩⟩
theorem Nw.ap {lo mi hi:Nat} {W:World} {x y:Lst} (h:Nw lo mi W x) (k:Nw mi hi W y):ApL x y:=fun hn hm a i b j e1 e2=>by
 obtain ⟨c,o,e3,h1,h2,_⟩:=h.2 hn
 obtain ⟨d,u,e4,k1,k2,_⟩:=k.2 hm
 rw [e1] at e3
 rw [e2] at e4
 obtain ⟨rfl,_⟩:a=c∧i=o:=by simpa using e3
 obtain ⟨rfl,_⟩:b=d∧j=u:=by simpa using e4
 omega
theorem AL.nil (W:World) (lo hi:Nat):AL W lo hi []:=⟨fun x h=>absurd h (by simp),List.Pairwise.nil⟩
theorem AL.later {lo hi:Nat} {W W':World} {xs:List Lst} (h:AL W lo hi xs) (hb:Below W.heap.size W W'):AL W' lo hi xs:=⟨fun x hx=>(h.1 x hx).later hb,h.2⟩
theorem AL.wide {lo hi lo' hi':Nat} {W:World} {xs:List Lst} (h:AL W lo hi xs) (h1:lo'≤lo) (h2:hi≤hi'):AL W lo' hi' xs:=⟨fun x hx=>(h.1 x hx).wide h1 h2,h.2⟩
theorem AL.add {lo mi hi:Nat} {W:World} {xs ys:List Lst} (h:AL W lo mi xs) (k:AL W mi hi ys) (h1:lo≤mi) (h2:mi≤hi):AL W lo hi (xs ++ ys) :=
 ⟨fun x hx=>by
  rcases List.mem_append.1 hx with c | c
  ·exact (h.1 x c).wide (Nat.le_refl _) h2
  ·exact (k.1 x c).wide h1 (Nat.le_refl _),List.pairwise_append.2 ⟨h.2,k.2,fun x hx y hy=>(h.1 x hx).ap (k.1 y hy)⟩⟩
theorem AL.perm {lo hi:Nat} {W:World} {xs ys:List Lst} (h:AL W lo hi xs) (e:xs.Perm ys):AL W lo hi ys :=
 ⟨fun x hx=>h.1 x (e.mem_iff.2 hx),(e.pairwise_iff (fun {x y} (k:ApL x y)=>(Ap.symm k:ApL y x))).1 h.2⟩
theorem AL.two {w w':World} {p q:Option Addr} {X Y:Nat} (h1:New w w' p X (ln X)) (h2:New w w' q Y (ln Y)) (ha:Ap p (ln X) q (ln Y)):AL w' w.heap.size w'.heap.size [(p,X),(q,Y)]:=by
 refine ⟨fun x hx=>?_,?_⟩
 ·simp only [List.mem_cons,List.not_mem_nil,or_false] at hx
  rcases hx with rfl | rfl
  ·exact Nw.of h1
  ·exact Nw.of h2
 ·simp only [List.pairwise_cons,List.mem_cons,List.not_mem_nil,or_false,forall_eq,false_implies,implies_true,List.Pairwise.nil,and_true]
  exact ha
theorem AL.four {w w':World} {p q r t:Option Addr} {X Y X2 Y2:Nat} (h1:New w w' p X (ln X)) (h2:New w w' q Y (ln Y)) (h3:New w w' r X2 (ln X2)) (h4:New w w' t Y2 (ln Y2)) (hf:Four p (ln X) q (ln Y) r (ln X2) t (ln Y2)):AL w' w.heap.size w'.heap.size [(p,X),(q,Y),(r,X2),(t,Y2)]:=by
 obtain ⟨f1,f2,f3,f4,f5,f6⟩:=hf
 refine ⟨fun x hx=>?_,?_⟩
 ·simp only [List.mem_cons,List.not_mem_nil,or_false] at hx
  rcases hx with rfl | rfl | rfl | rfl
  ·exact Nw.of h1
  ·exact Nw.of h2
  ·exact Nw.of h3
  ·exact Nw.of h4
 ·refine List.pairwise_cons.2 ⟨fun y hy=>?_,List.pairwise_cons.2 ⟨fun y hy=>?_,List.pairwise_cons.2 ⟨fun y hy=>?_,List.pairwise_cons.2 ⟨fun y hy=>absurd hy (by simp),List.Pairwise.nil⟩⟩⟩⟩
  ·simp only [List.mem_cons,List.not_mem_nil,or_false] at hy
   rcases hy with rfl | rfl | rfl
   ·exact f1
   ·exact f3
   ·exact f4
  ·simp only [List.mem_cons,List.not_mem_nil,or_false] at hy
   rcases hy with rfl | rfl
   ·exact f5
   ·exact f6
  ·simp only [List.mem_cons,List.not_mem_nil,or_false] at hy
   rcases hy with rfl
   exact f2
theorem AL.ls {W:World} {lo hi bl ol:Nat} {xs:List Lst} (h:AL W lo hi xs) (hbl:hi≤bl) (hr:∀ i (hi:i < xs.length),W.cell? ⟨bl,ol+i,none⟩=some (.slice xs[i].1 (ln xs[i].2) (ln xs[i].2))) :
  Ls W lo bl ol xs.length (fun i=>(xs.getD i (none,0)).1) (fun i=>ln (xs.getD i (none,0)).2) (fun i j=>((dg (xs.getD i (none,0)).2 j:Nat):Int)):=by
 have g:∀ i (hi:i < xs.length),xs.getD i (none,0)=xs[i]:=fun i hi=>by simp [List.getD,List.getElem?_eq_getElem hi]
 refine ⟨fun i hi=>by simp only [g i hi];exact hr i hi,fun i hi hn=>?_,fun i k hi hk hne hn hm b off c off' e1 e2=>?_⟩
 ·simp only [g i hi] at hn ⊢
  obtain ⟨s1,s2⟩:=h.1 xs[i] (List.getElem_mem hi)
  obtain ⟨b,off,e,h1,h2,h3⟩:=s2 hn
  obtain ⟨b',off',e',h4,h5⟩:=s1.2 hn
  rw [e] at e'
  obtain ⟨rfl,rfl⟩:b=b'∧off=off':=by simpa using e'
  exact ⟨b,off,e,h1,by omega,h3,h5⟩
 ·simp only [g i hi] at hn e1
  simp only [g k hk] at hm e2
  have hp:=List.pairwise_iff_getElem.1 h.2
  rcases Nat.lt_or_ge i k with c1 | c1
  ·exact hp i k hi hk c1 hn hm b off c off' e1 e2
  ·exact fun e3=>hp k i hk hi (by omega) hm hn c off' b off e2 e1 e3.symm
theorem AL.join {lo H mi hi:Nat} {W:World} {xs ys:List Lst} (h:AL W lo H xs) (k:AL W mi hi ys) (h0:H≤mi) (h1:lo≤mi) (h2:mi≤hi):AL W lo hi (xs ++ ys):=(h.wide (Nat.le_refl _) h0).add k h1 h2
theorem gaps_one {W:World} {c:Nat} {t:TypeId} (s0:Bool) (a0:Option Addr) (n0 c0 X0:Nat) (b0:Option Addr) (m0 d0 Y0:Nat) (s1:Bool) (a1:Option Addr) (n1 c1 X1:Nat) (b1:Option Addr) (m1 d1 Y1:Nat) (s2:Bool) (a2:Option Addr) (n2 c2 X2:Nat) (b2:Option Addr) (m2 d2 Y2:Nat) (s3:Bool) (a3:Option Addr) (n3 c3 X3:Nat) (b3:Option Addr) (m3 d3 Y3:Nat) (h:Blk W c #[.bool s0,.slice a0 n0 c0,.slice b0 m0 d0,.bool s1,.slice a1 n1 c1,.slice b1 m1 d1,.bool s2,.slice a2 n2 c2,.slice b2 m2 d2,.bool s3,.slice a3 n3 c3,.slice b3 m3 d3] t):GapsAt W (some ⟨c,0,none⟩) 1 (fun _=>(⟨⟨⟨s0,a0,n0,c0,X0,b0,m0,d0,Y0⟩,⟨s1,a1,n1,c1,X1,b1,m1,d1,Y1⟩⟩,⟨⟨s2,a2,n2,c2,X2,b2,m2,d2,Y2⟩,⟨s3,a3,n3,c3,X3,b3,m3,d3,Y3⟩⟩⟩:GapV)):=fun _=>⟨c,0,rfl,h.lt,fun i hi=>by
 obtain rfl:i=0:=by omega
 refine ⟨?_,?_,?_,?_,?_,?_,?_,?_,?_,?_,?_,?_⟩
 ·have:=h.cell 0;simpa using this
 ·have:=h.cell 1;simpa using this
 ·have:=h.cell 2;simpa using this
 ·have:=h.cell 3;simpa using this
 ·have:=h.cell 4;simpa using this
 ·have:=h.cell 5;simpa using this
 ·have:=h.cell 6;simpa using this
 ·have:=h.cell 7;simpa using this
 ·have:=h.cell 8;simpa using this
 ·have:=h.cell 9;simpa using this
 ·have:=h.cell 10;simpa using this
 ·have:=h.cell 11;simpa using this⟩
def AnsP (w:World) (Z0:Int) (V0:Nat) (W0:Int) (U0:Nat) (Z1:Int) (V1:Nat) (W1:Int) (U1:Nat) (Z2:Int) (V2:Nat) (W2:Int) (U2:Nat) (Z3:Int) (V3:Nat) (W3:Int) (U3:Nat) (Z4:Int) (V4:Nat) (W4:Int) (U4:Nat) (Z5:Int) (V5:Nat) (W5:Int) (U5:Nat) (Z6:Int) (V6:Nat) (W6:Int) (U6:Nat) (e:Ending) (w':World):Prop:=∃ bl p0 q0 r0 t0 p1 q1 r1 t1 p2 q2 r2 t2 p3 q3 r3 t3 p4 q4 r4 t4 p5 q5 r5 t5 p6 q6 r6 t6,e=.returned (.slice (some ⟨bl,0,none⟩) 7 7)∧Below w.heap.size w w'∧Blk w' bl #[.bool (ng Z0),.slice p0 (ln (am Z0)) (ln (am Z0)),.slice q0 (ln V0) (ln V0),.bool (ng W0),.slice r0 (ln (am W0)) (ln (am W0)),.slice t0 (ln U0) (ln U0),.bool (ng Z1),.slice p1 (ln (am Z1)) (ln (am Z1)),.slice q1 (ln V1) (ln V1),.bool (ng W1),.slice r1 (ln (am W1)) (ln (am W1)),.slice t1 (ln U1) (ln U1),.bool (ng Z2),.slice p2 (ln (am Z2)) (ln (am Z2)),.slice q2 (ln V2) (ln V2),.bool (ng W2),.slice r2 (ln (am W2)) (ln (am W2)),.slice t2 (ln U2) (ln U2),.bool (ng Z3),.slice p3 (ln (am Z3)) (ln (am Z3)),.slice q3 (ln V3) (ln V3),.bool (ng W3),.slice r3 (ln (am W3)) (ln (am W3)),.slice t3 (ln U3) (ln U3),.bool (ng Z4),.slice p4 (ln (am Z4)) (ln (am Z4)),.slice q4 (ln V4) (ln V4),.bool (ng W4),.slice r4 (ln (am W4)) (ln (am W4)),.slice t4 (ln U4) (ln U4),.bool (ng Z5),.slice p5 (ln (am Z5)) (ln (am Z5)),.slice q5 (ln V5) (ln V5),.bool (ng W5),.slice r5 (ln (am W5)) (ln (am W5)),.slice t5 (ln U5) (ln U5),.bool (ng Z6),.slice p6 (ln (am Z6)) (ln (am Z6)),.slice q6 (ln V6) (ln V6),.bool (ng W6),.slice r6 (ln (am W6)) (ln (am W6)),.slice t6 (ln U6) (ln U6)] 29∧AL w' w.heap.size bl [(p0,am Z0),(q0,V0),(r0,am W0),(t0,U0),(p1,am Z1),(q1,V1),(r1,am W1),(t1,U1),(p2,am Z2),(q2,V2),(r2,am W2),(t2,U2),(p3,am Z3),(q3,V3),(r3,am W3),(t3,U3),(p4,am Z4),(q4,V4),(r4,am W4),(t4,U4),(p5,am Z5),(q5,V5),(r5,am W5),(t5,U5),(p6,am Z6),(q6,V6),(r6,am W6),(t6,U6)]
set_option maxHeartbeats 8000000 in
set_option maxRecDepth 100000 in
theorem answers_is (s0:Bool) (a0:Option Addr) (n0 c0 X0:Nat) (b0:Option Addr) (m0 d0 Y0:Nat) (s1:Bool) (a1:Option Addr) (n1 c1 X1:Nat) (b1:Option Addr) (m1 d1 Y1:Nat) (s2:Bool) (a2:Option Addr) (n2 c2 X2:Nat) (b2:Option Addr) (m2 d2 Y2:Nat) (s3:Bool) (a3:Option Addr) (n3 c3 X3:Nat) (b3:Option Addr) (m3 d3 Y3:Nat) (s4:Bool) (a4:Option Addr) (n4 c4 X4:Nat) (b4:Option Addr) (m4 d4 Y4:Nat) (Z0 W0 Z1 W1 Z2 W2 Z3 W3 Z4 W4 Z5 W5 Z6 W6:Int) (V0 U0 V1 U1 V2 U2 V3 U3 V4 U4 V5 U5 V6 U6:Nat) (w:World) (hc0:n0≤c0) (hm0:n0≤1048576) (hS0:Seg w a0 X0 n0) (hd0:m0≤d0) (hk0:m0≤1048576) (hT0:Seg w b0 Y0 m0) (hc1:n1≤c1) (hm1:n1≤1048576) (hS1:Seg w a1 X1 n1) (hd1:m1≤d1) (hk1:m1≤1048576) (hT1:Seg w b1 Y1 m1) (hc2:n2≤c2) (hm2:n2≤1048576) (hS2:Seg w a2 X2 n2) (hd2:m2≤d2) (hk2:m2≤1048576) (hT2:Seg w b2 Y2 m2) (hc3:n3≤c3) (hm3:n3≤1048576) (hS3:Seg w a3 X3 n3) (hd3:m3≤d3) (hk3:m3≤1048576) (hT3:Seg w b3 Y3 m3) (hc4:n4≤c4) (hm4:n4≤1048576) (hS4:Seg w a4 X4 n4) (hd4:m4≤d4) (hk4:m4≤1048576) (hT4:Seg w b4 Y4 m4) (l0:Low (rn s0 X0 Y0) (rd Y0:Nat) Z0 V0) (j0:Low (rn s1 X1 Y1) (rd Y1:Nat) W0 U0) (l1:Low (rn s4 X4 Y4) (rd Y4:Nat) Z1 V1) (j1:W1=0∧U1=1) (l2:Low (-(rn s0 X0 Y0)) (rd Y0:Nat) Z2 V2) (j2:Low (-(rn s1 X1 Y1)) (rd Y1:Nat) W2 U2) (l3:Low (rn s0 X0 Y0*(rd Y2:Nat)+rn s2 X2 Y2*(rd Y0:Nat)) ((rd Y0:Nat)*(rd Y2:Nat)) Z3 V3) (j3:Low (rn s1 X1 Y1*(rd Y3:Nat)+rn s3 X3 Y3*(rd Y1:Nat)) ((rd Y1:Nat)*(rd Y3:Nat)) W3 U3) (l4:Low (rn s0 X0 Y0*(rd Y2:Nat)+-(rn s2 X2 Y2)*(rd Y0:Nat)) ((rd Y0:Nat)*(rd Y2:Nat)) Z4 V4) (j4:Low (rn s1 X1 Y1*(rd Y3:Nat)+-(rn s3 X3 Y3)*(rd Y1:Nat)) ((rd Y1:Nat)*(rd Y3:Nat)) W4 U4) (l5:Low (rn s4 X4 Y4*rn s0 X0 Y0) ((rd Y4:Nat)*(rd Y0:Nat)) Z5 V5) (j5:Low (rn s4 X4 Y4*rn s1 X1 Y1) ((rd Y4:Nat)*(rd Y1:Nat)) W5 U5) (l6:Low (rn s0 X0 Y0*((rd Y1:Nat)*(rd Y4:Nat))+rn s1 X1 Y1*rn s4 X4 Y4*(rd Y0:Nat)) ((rd Y0:Nat)*((rd Y1:Nat)*(rd Y4:Nat))) Z6 V6) (j6:Sml (⟨⟨⟨s0,a0,n0,c0,X0,b0,m0,d0,Y0⟩,⟨s1,a1,n1,c1,X1,b1,m1,d1,Y1⟩⟩,⟨⟨s2,a2,n2,c2,X2,b2,m2,d2,Y2⟩,⟨s3,a3,n3,c3,X3,b3,m3,d3,Y3⟩⟩⟩:GapV) W6 U6) :
  Calls Tryz.prog 7 #[Value.agg #[Value.bool s0,Value.slice a0 n0 c0,Value.slice b0 m0 d0,Value.bool s1,Value.slice a1 n1 c1,Value.slice b1 m1 d1],Value.agg #[Value.bool s2,Value.slice a2 n2 c2,Value.slice b2 m2 d2,Value.bool s3,Value.slice a3 n3 c3,Value.slice b3 m3 d3],Value.agg #[Value.bool s4,Value.slice a4 n4 c4,Value.slice b4 m4 d4]] w (AnsP w Z0 V0 W0 U0 Z1 V1 W1 U1 Z2 V2 W2 U2 Z3 V3 W3 U3 Z4 V4 W4 U4 Z5 V5 W5 U5 Z6 V6 W6 U6):=by
 have H0:=hide' (fun w' x0 y0 x1 y1=>dNorm_ap s0 a0 n0 c0 X0 b0 m0 d0 Y0 s1 a1 n1 c1 X1 b1 m1 d1 Y1 Z0 V0 W0 U0 w' hc0 (by omega) x0 hd0 (by omega) y0 hc1 (by omega) x1 hd1 (by omega) y1 l0 j0)
 have H1:=hide' (fun w' x4 y4=>dOf_ap s4 a4 n4 c4 X4 b4 m4 d4 Y4 Z1 V1 W1 U1 w' hc4 (by omega) x4 hd4 (by omega) y4 l1 j1.1 j1.2)
 have H2:=hide' (fun w' x0 y0 x1 y1=>dNeg_ap s0 a0 n0 c0 X0 b0 m0 d0 Y0 s1 a1 n1 c1 X1 b1 m1 d1 Y1 Z2 V2 W2 U2 w' hc0 (by omega) x0 hd0 (by omega) y0 hc1 (by omega) x1 hd1 (by omega) y1 l2 j2)
 have H3:=hide' (fun w' x0 y0 x1 y1 x2 y2 x3 y3=>dAdd_ap s0 a0 n0 c0 X0 b0 m0 d0 Y0 s1 a1 n1 c1 X1 b1 m1 d1 Y1 s2 a2 n2 c2 X2 b2 m2 d2 Y2 s3 a3 n3 c3 X3 b3 m3 d3 Y3 Z3 V3 W3 U3 w' hc0 (by omega) x0 hd0 (by omega) y0 hc1 (by omega) x1 hd1 (by omega) y1 hc2 (by omega) x2 hd2 (by omega) y2 hc3 (by omega) x3 hd3 (by omega) y3 l3 j3)
 have H4:=hide' (fun w' x0 y0 x1 y1 x2 y2 x3 y3=>dSub_ap s0 a0 n0 c0 X0 b0 m0 d0 Y0 s1 a1 n1 c1 X1 b1 m1 d1 Y1 s2 a2 n2 c2 X2 b2 m2 d2 Y2 s3 a3 n3 c3 X3 b3 m3 d3 Y3 Z4 V4 W4 U4 w' hc0 (by omega) x0 hd0 (by omega) y0 hc1 (by omega) x1 hd1 (by omega) y1 hc2 (by omega) x2 hd2 (by omega) y2 hc3 (by omega) x3 hd3 (by omega) y3 l4 j4)
 have H5:=hide' (fun w' x4 y4 x0 y0 x1 y1=>dScale_ap s4 a4 n4 c4 X4 b4 m4 d4 Y4 s0 a0 n0 c0 X0 b0 m0 d0 Y0 s1 a1 n1 c1 X1 b1 m1 d1 Y1 Z5 V5 W5 U5 w' hc4 (by omega) x4 hd4 (by omega) y4 hc0 (by omega) x0 hd0 (by omega) y0 hc1 (by omega) x1 hd1 (by omega) y1 l5 j5)
 have H6:=hide' (fun w' x0 y0 x1 y1 x4 y4=>dAt_ap s0 a0 n0 c0 X0 b0 m0 d0 Y0 s1 a1 n1 c1 X1 b1 m1 d1 Y1 s4 a4 n4 c4 X4 b4 m4 d4 Y4 Z6 V6 w' hc0 (by omega) x0 hd0 (by omega) y0 hc1 (by omega) x1 hd1 (by omega) y1 hc4 (by omega) x4 hd4 (by omega) y4 l6)
 have HS:=hide' (fun w' c (x0:Seg w' a0 X0 n0) (y0:Seg w' b0 Y0 m0) (x1:Seg w' a1 X1 n1) (y1:Seg w' b1 Y1 m1) (x2:Seg w' a2 X2 n2) (y2:Seg w' b2 Y2 m2) (x3:Seg w' a3 X3 n3) (y3:Seg w' b3 Y3 m3) (hA:GapsAt w' (some ⟨c,0,none⟩) 1 (fun _=>(⟨⟨⟨s0,a0,n0,c0,X0,b0,m0,d0,Y0⟩,⟨s1,a1,n1,c1,X1,b1,m1,d1,Y1⟩⟩,⟨⟨s2,a2,n2,c2,X2,b2,m2,d2,Y2⟩,⟨s3,a3,n3,c3,X3,b3,m3,d3,Y3⟩⟩⟩:GapV)))=>small1_ap (⟨⟨⟨s0,a0,n0,c0,X0,b0,m0,d0,Y0⟩,⟨s1,a1,n1,c1,X1,b1,m1,d1,Y1⟩⟩,⟨⟨s2,a2,n2,c2,X2,b2,m2,d2,Y2⟩,⟨s3,a3,n3,c3,X3,b3,m3,d3,Y3⟩⟩⟩:GapV) (some ⟨c,0,none⟩) 1 W6 U6 w' hA ⟨⟨⟨x0,hc0,Nat.le_trans hm0 (by omega),y0,hd0,Nat.le_trans hk0 (by omega)⟩,⟨x1,hc1,Nat.le_trans hm1 (by omega),y1,hd1,Nat.le_trans hk1 (by omega)⟩⟩,⟨⟨x2,hc2,Nat.le_trans hm2 (by omega),y2,hd2,Nat.le_trans hk2 (by omega)⟩,⟨x3,hc3,Nat.le_trans hm3 (by omega),y3,hd3,Nat.le_trans hk3 (by omega)⟩⟩⟩ ⟨⟨hm0,hk0,hm1,hk1⟩,⟨hm2,hk2,hm3,hk3⟩⟩ (Nat.le_refl _) j6)
 clear l0 j0 l1 j1 l2 j2 l3 j3 l4 j4 l5 j5 l6 j6
 have bel:Below w.heap.size w w:=Below.refl _ _
 have bb:=below_alloc (w:=w) (.cells #[.bool s0,.slice a0 n0 c0,.slice b0 m0 d0,.bool s1,.slice a1 n1 c1,.slice b1 m1 d1] 29)
 replace hS0:=hS0.later bb
 replace hT0:=hT0.later bb
 replace hS1:=hS1.later bb
 replace hT1:=hT1.later bb
 replace hS2:=hS2.later bb
 replace hT2:=hT2.later bb
 replace hS3:=hS3.later bb
 replace hT3:=hT3.later bb
 replace hS4:=hS4.later bb
 replace hT4:=hT4.later bb
 replace bel:=bel.trans (bb.mono bel.size)
 clear bb
 have qa:=Blk.new w #[.bool s0,.slice a0 n0 c0,.slice b0 m0 d0,.bool s1,.slice a1 n1 c1,.slice b1 m1 d1] 29
 have bb:=below_alloc (w:=(w.alloc (.cells #[.bool s0,.slice a0 n0 c0,.slice b0 m0 d0,.bool s1,.slice a1 n1 c1,.slice b1 m1 d1] 29))) (.cells #[.bool s2,.slice a2 n2 c2,.slice b2 m2 d2,.bool s3,.slice a3 n3 c3,.slice b3 m3 d3] 29)
 replace hS0:=hS0.later bb
 replace hT0:=hT0.later bb
 replace hS1:=hS1.later bb
 replace hT1:=hT1.later bb
 replace hS2:=hS2.later bb
 replace hT2:=hT2.later bb
 replace hS3:=hS3.later bb
 replace hT3:=hT3.later bb
 replace hS4:=hS4.later bb
 replace hT4:=hT4.later bb
 replace qa:=qa.later bb
 replace bel:=bel.trans (bb.mono bel.size)
 clear bb
 have qb:=Blk.new (w.alloc (.cells #[.bool s0,.slice a0 n0 c0,.slice b0 m0 d0,.bool s1,.slice a1 n1 c1,.slice b1 m1 d1] 29)) #[.bool s2,.slice a2 n2 c2,.slice b2 m2 d2,.bool s3,.slice a3 n3 c3,.slice b3 m3 d3] 29
 simp only [World.size_alloc] at qb
 have bb:=below_alloc (w:=((w.alloc (.cells #[.bool s0,.slice a0 n0 c0,.slice b0 m0 d0,.bool s1,.slice a1 n1 c1,.slice b1 m1 d1] 29)).alloc (.cells #[.bool s2,.slice a2 n2 c2,.slice b2 m2 d2,.bool s3,.slice a3 n3 c3,.slice b3 m3 d3] 29))) (.cells #[.bool s4,.slice a4 n4 c4,.slice b4 m4 d4] 27)
 replace hS0:=hS0.later bb
 replace hT0:=hT0.later bb
 replace hS1:=hS1.later bb
 replace hT1:=hT1.later bb
 replace hS2:=hS2.later bb
 replace hT2:=hT2.later bb
 replace hS3:=hS3.later bb
 replace hT3:=hT3.later bb
 replace hS4:=hS4.later bb
 replace hT4:=hT4.later bb
 replace qa:=qa.later bb
 replace qb:=qb.later bb
 replace bel:=bel.trans (bb.mono bel.size)
 clear bb
 have qc:=Blk.new ((w.alloc (.cells #[.bool s0,.slice a0 n0 c0,.slice b0 m0 d0,.bool s1,.slice a1 n1 c1,.slice b1 m1 d1] 29)).alloc (.cells #[.bool s2,.slice a2 n2 c2,.slice b2 m2 d2,.bool s3,.slice a3 n3 c3,.slice b3 m3 d3] 29)) #[.bool s4,.slice a4 n4 c4,.slice b4 m4 d4] 27
 simp only [World.size_alloc] at qc
 have bb:=below_alloc (w:=(((w.alloc (.cells #[.bool s0,.slice a0 n0 c0,.slice b0 m0 d0,.bool s1,.slice a1 n1 c1,.slice b1 m1 d1] 29)).alloc (.cells #[.bool s2,.slice a2 n2 c2,.slice b2 m2 d2,.bool s3,.slice a3 n3 c3,.slice b3 m3 d3] 29)).alloc (.cells #[.bool s4,.slice a4 n4 c4,.slice b4 m4 d4] 27))) (.cells #[.bool s0,.slice a0 n0 c0,.slice b0 m0 d0,.bool s1,.slice a1 n1 c1,.slice b1 m1 d1,.bool s2,.slice a2 n2 c2,.slice b2 m2 d2,.bool s3,.slice a3 n3 c3,.slice b3 m3 d3] 48)
 replace hS0:=hS0.later bb
 replace hT0:=hT0.later bb
 replace hS1:=hS1.later bb
 replace hT1:=hT1.later bb
 replace hS2:=hS2.later bb
 replace hT2:=hT2.later bb
 replace hS3:=hS3.later bb
 replace hT3:=hT3.later bb
 replace hS4:=hS4.later bb
 replace hT4:=hT4.later bb
 replace qa:=qa.later bb
 replace qb:=qb.later bb
 replace qc:=qc.later bb
 replace bel:=bel.trans (bb.mono bel.size)
 clear bb
 have qg:=Blk.new (((w.alloc (.cells #[.bool s0,.slice a0 n0 c0,.slice b0 m0 d0,.bool s1,.slice a1 n1 c1,.slice b1 m1 d1] 29)).alloc (.cells #[.bool s2,.slice a2 n2 c2,.slice b2 m2 d2,.bool s3,.slice a3 n3 c3,.slice b3 m3 d3] 29)).alloc (.cells #[.bool s4,.slice a4 n4 c4,.slice b4 m4 d4] 27)) #[.bool s0,.slice a0 n0 c0,.slice b0 m0 d0,.bool s1,.slice a1 n1 c1,.slice b1 m1 d1,.bool s2,.slice a2 n2 c2,.slice b2 m2 d2,.bool s3,.slice a3 n3 c3,.slice b3 m3 d3] 48
 simp only [World.size_alloc] at qg
 go_enter Tryz.func7,Tryz.ntmps7
 go_wp2_with fail
 obtain ⟨wH,hW⟩:∃ W,((((w.alloc (.cells #[.bool s0,.slice a0 n0 c0,.slice b0 m0 d0,.bool s1,.slice a1 n1 c1,.slice b1 m1 d1] 29)).alloc (.cells #[.bool s2,.slice a2 n2 c2,.slice b2 m2 d2,.bool s3,.slice a3 n3 c3,.slice b3 m3 d3] 29)).alloc (.cells #[.bool s4,.slice a4 n4 c4,.slice b4 m4 d4] 27)).alloc (.cells #[.bool s0,.slice a0 n0 c0,.slice b0 m0 d0,.bool s1,.slice a1 n1 c1,.slice b1 m1 d1,.bool s2,.slice a2 n2 c2,.slice b2 m2 d2,.bool s3,.slice a3 n3 c3,.slice b3 m3 d3] 48))=W:=⟨_,rfl⟩
 rw [hW] at bel hS0 hT0 hS1 hT1 hS2 hT2 hS3 hT3 hS4 hT4 qa qb qc qg ⊢
 clear hW
 have hW0:=bel.size
 refine (HS.out _ _ hS0 hT0 hS1 hT1 hS2 hT2 hS3 hT3 (gaps_one s0 a0 n0 c0 X0 b0 m0 d0 Y0 s1 a1 n1 c1 X1 b1 m1 d1 Y1 s2 a2 n2 c2 X2 b2 m2 d2 Y2 s3 a3 n3 c3 X3 b3 m3 d3 Y3 qg)).mono ?_
 rintro e wS ⟨r6,t6,er,rfl,nS,nT,apS⟩
 have bb:=nS.below
 replace hS0:=hS0.later bb
 replace hT0:=hT0.later bb
 replace hS1:=hS1.later bb
 replace hT1:=hT1.later bb
 replace hS2:=hS2.later bb
 replace hT2:=hT2.later bb
 replace hS3:=hS3.later bb
 replace hT3:=hT3.later bb
 replace hS4:=hS4.later bb
 replace hT4:=hT4.later bb
 replace qa:=qa.later bb
 replace qb:=qb.later bb
 replace qc:=qc.later bb
 replace qg:=qg.later bb
 replace bel:=bel.trans (bb.mono bel.size)
 clear bb
 have acc:=(AL.two nS nT apS).wide hW0 (Nat.le_refl _)
 clear nS nT apS hW0
 clear qg
 have bN:Below wS.heap.size wS wS:=Below.refl _ _
 have lqsqa:=qa.lt
 have lqsqb:=qb.lt
 have lqsqc:=qc.lt
 have bb:=below_alloc (w:=wS) (.cells #[.bool (ng W6),.slice r6 (ln (am W6)) (ln (am W6)),.slice t6 (ln U6) (ln U6)] 27)
 replace hS0:=hS0.later bb
 replace hT0:=hT0.later bb
 replace hS1:=hS1.later bb
 replace hT1:=hT1.later bb
 replace hS2:=hS2.later bb
 replace hT2:=hT2.later bb
 replace hS3:=hS3.later bb
 replace hT3:=hT3.later bb
 replace hS4:=hS4.later bb
 replace hT4:=hT4.later bb
 replace qa:=qa.later bb
 replace qb:=qb.later bb
 replace qc:=qc.later bb
 replace acc:=acc.later bb
 replace bel:=bel.trans (bb.mono bel.size)
 replace bN:=bN.trans (bb.mono bN.size)
 clear bb
 have qs:=Blk.new wS #[.bool (ng W6),.slice r6 (ln (am W6)) (ln (am W6)),.slice t6 (ln U6) (ln U6)] 27
 have qa_0:=qa.cell 0
 have qa_1:=qa.cell 1
 have qa_2:=qa.cell 2
 have qa_3:=qa.cell 3
 have qa_4:=qa.cell 4
 have qa_5:=qa.cell 5
 have qb_0:=qb.cell 0
 have qb_1:=qb.cell 1
 have qb_2:=qb.cell 2
 have qb_3:=qb.cell 3
 have qb_4:=qb.cell 4
 have qb_5:=qb.cell 5
 have qc_0:=qc.cell 0
 have qc_1:=qc.cell 1
 have qc_2:=qc.cell 2
 simp only [List.getElem?_toArray,List.getElem?_cons_zero,List.getElem?_cons_succ] at qa_0 qa_1 qa_2 qa_3 qa_4 qa_5 qb_0 qb_1 qb_2 qb_3 qb_4 qb_5 qc_0 qc_1 qc_2
 go_wp2_with fail
 clear qa_0 qa_1 qa_2 qa_3 qa_4 qa_5 qb_0 qb_1 qb_2 qb_3 qb_4 qb_5 qc_0 qc_1 qc_2
 obtain ⟨wN,hW⟩:∃ W,(wS.alloc (.cells #[.bool (ng W6),.slice r6 (ln (am W6)) (ln (am W6)),.slice t6 (ln U6) (ln U6)] 27))=W:=⟨_,rfl⟩
 rw [hW] at bel bN hS0 hT0 hS1 hT1 hS2 hT2 hS3 hT3 hS4 hT4 qa qb qc acc qs ⊢
 clear hW
 have qa_0:=qa.cell 0
 have qa_1:=qa.cell 1
 have qa_2:=qa.cell 2
 have qa_3:=qa.cell 3
 have qa_4:=qa.cell 4
 have qa_5:=qa.cell 5
 have qb_0:=qb.cell 0
 have qb_1:=qb.cell 1
 have qb_2:=qb.cell 2
 have qb_3:=qb.cell 3
 have qb_4:=qb.cell 4
 have qb_5:=qb.cell 5
 have qc_0:=qc.cell 0
 have qc_1:=qc.cell 1
 have qc_2:=qc.cell 2
 have qs_0:=qs.cell 0
 have qs_1:=qs.cell 1
 have qs_2:=qs.cell 2
 simp only [List.getElem?_toArray,List.getElem?_cons_zero,List.getElem?_cons_succ] at qa_0 qa_1 qa_2 qa_3 qa_4 qa_5 qb_0 qb_1 qb_2 qb_3 qb_4 qb_5 qc_0 qc_1 qc_2 qs_0 qs_1 qs_2
 have bD:Below wN.heap.size wN wN.drew:=(Below.refl _ _).drew
 have kqa_0:=below_cell bD qa_0
 have kqa_1:=below_cell bD qa_1
 have kqa_2:=below_cell bD qa_2
 have kqa_3:=below_cell bD qa_3
 have kqa_4:=below_cell bD qa_4
 have kqa_5:=below_cell bD qa_5
 have kqb_0:=below_cell bD qb_0
 have kqb_1:=below_cell bD qb_1
 have kqb_2:=below_cell bD qb_2
 have kqb_3:=below_cell bD qb_3
 have kqb_4:=below_cell bD qb_4
 have kqb_5:=below_cell bD qb_5
 have kqc_0:=below_cell bD qc_0
 have kqc_1:=below_cell bD qc_1
 have kqc_2:=below_cell bD qc_2
 have kqs_0:=below_cell bD qs_0
 have kqs_1:=below_cell bD qs_1
 have kqs_2:=below_cell bD qs_2
 replace bel:=bel.trans (bD.mono bel.size)
 replace bN:=bN.trans (bD.mono bN.size)
 replace hS0:=hS0.later bD
 replace hT0:=hT0.later bD
 replace hS1:=hS1.later bD
 replace hT1:=hT1.later bD
 replace hS2:=hS2.later bD
 replace hT2:=hT2.later bD
 replace hS3:=hS3.later bD
 replace hT3:=hT3.later bD
 replace hS4:=hS4.later bD
 replace hT4:=hT4.later bD
 replace qa:=qa.later bD
 replace qb:=qb.later bD
 replace qc:=qc.later bD
 replace acc:=acc.later bD
 replace qs:=qs.later bD
 refine wp_region_held_drew (S:=fun w'=>w'.cell? ⟨w.heap.size,0,none⟩=some (.bool s0)∧w'.cell? ⟨w.heap.size,1,none⟩=some (.slice a0 n0 c0)∧w'.cell? ⟨w.heap.size,2,none⟩=some (.slice b0 m0 d0)∧w'.cell? ⟨w.heap.size,3,none⟩=some (.bool s1)∧w'.cell? ⟨w.heap.size,4,none⟩=some (.slice a1 n1 c1)∧w'.cell? ⟨w.heap.size,5,none⟩=some (.slice b1 m1 d1)∧w'.cell? ⟨w.heap.size+1,0,none⟩=some (.bool s2)∧w'.cell? ⟨w.heap.size+1,1,none⟩=some (.slice a2 n2 c2)∧w'.cell? ⟨w.heap.size+1,2,none⟩=some (.slice b2 m2 d2)∧w'.cell? ⟨w.heap.size+1,3,none⟩=some (.bool s3)∧w'.cell? ⟨w.heap.size+1,4,none⟩=some (.slice a3 n3 c3)∧w'.cell? ⟨w.heap.size+1,5,none⟩=some (.slice b3 m3 d3)∧w'.cell? ⟨w.heap.size+1+1,0,none⟩=some (.bool s4)∧w'.cell? ⟨w.heap.size+1+1,1,none⟩=some (.slice a4 n4 c4)∧w'.cell? ⟨w.heap.size+1+1,2,none⟩=some (.slice b4 m4 d4)∧w'.cell? ⟨wS.heap.size,0,none⟩=some (.bool (ng W6))∧w'.cell? ⟨wS.heap.size,1,none⟩=some (.slice r6 (ln (am W6)) (ln (am W6)))∧w'.cell? ⟨wS.heap.size,2,none⟩=some (.slice t6 (ln U6) (ln U6))) (by kernel_rfl) ⟨kqa_0,kqa_1,kqa_2,kqa_3,kqa_4,kqa_5,kqb_0,kqb_1,kqb_2,kqb_3,kqb_4,kqb_5,kqc_0,kqc_1,kqc_2,kqs_0,kqs_1,kqs_2⟩ (fun hHeld=>?_)
 clear kqa_0 kqa_1 kqa_2 kqa_3 kqa_4 kqa_5 kqb_0 kqb_1 kqb_2 kqb_3 kqb_4 kqb_5 kqc_0 kqc_1 kqc_2 kqs_0 kqs_1 kqs_2
 generalize wN.drew=wF0 at bD hS0 hT0 hS1 hT1 hS2 hT2 hS3 hT3 hS4 hT4 qa qb qc acc qs bel bN hHeld ⊢
 clear bD qa_0 qa_1 qa_2 qa_3 qa_4 qa_5 qb_0 qb_1 qb_2 qb_3 qb_4 qb_5 qc_0 qc_1 qc_2 qs_0 qs_1 qs_2
 refine tk 0 (v:=?_) rfl (Or.inl ⟨by rfl,?_⟩) ?_
 rotate_left
 ·intro w9 hSw
  go_simp
  first | done | with_reducible rfl
 simp only [pP,pN,pS,pZ,pC]
 refine tk 2 (v:=?_) rfl (Or.inl ⟨by rfl,?_⟩) ?_
 rotate_left
 ·intro w9 hSw
  go_simp
  first | done | with_reducible rfl
 simp only [pP,pN,pS,pZ,pC]
 refine tk 4 (v:=?_) rfl (Or.inl ⟨by rfl,?_⟩) ?_
 rotate_left
 ·intro w9 hSw
  go_simp
  first | done | with_reducible rfl
 simp only [pP,pN,pS,pZ,pC]
 refine tk 6 (v:=?_) rfl (Or.inl ⟨by rfl,?_⟩) ?_
 rotate_left
 ·intro w9 hSw
  go_simp
  first | done | with_reducible rfl
 simp only [pP,pN,pS,pZ,pC]
 refine tk 7 (v:=?_) rfl (Or.inl ⟨by rfl,?_⟩) ?_
 rotate_left
 ·intro w9 hSw
  go_simp
  first | done | with_reducible rfl
 simp only [pP,pN,pS,pZ,pC]
 refine tk 9 (v:=?_) rfl (Or.inl ⟨by rfl,?_⟩) ?_
 rotate_left
 ·intro w9 hSw
  go_simp
  first | done | with_reducible rfl
 simp only [pP,pN,pS,pZ,pC]
 refine tk 10 (v:=?_) rfl (Or.inl ⟨by rfl,?_⟩) ?_
 rotate_left
 ·intro w9 hSw
  go_simp
  first | done | with_reducible rfl
 simp only [pP,pN,pS,pZ,pC]
 refine tk 12 (v:=?_) rfl (Or.inl ⟨by rfl,?_⟩) ?_
 rotate_left
 ·intro w9 hSw
  go_simp
  first | done | with_reducible rfl
 simp only [pP,pN,pS,pZ,pC]
 refine tk 13 (v:=?_) rfl (Or.inl ⟨by rfl,?_⟩) ?_
 rotate_left
 ·intro w9 hSw
  go_simp
  first | done | with_reducible rfl
 simp only [pP,pN,pS,pZ,pC]
 refine tk 15 (v:=?_) rfl (Or.inl ⟨by rfl,?_⟩) ?_
 rotate_left
 ·intro w9 hSw
  go_simp
  first | done | with_reducible rfl
 simp only [pP,pN,pS,pZ,pC]
 refine tk 16 (v:=?_) rfl (Or.inl ⟨by rfl,?_⟩) ?_
 rotate_left
 ·intro w9 hSw
  go_simp
  first | done | with_reducible rfl
 simp only [pP,pN,pS,pZ,pC]
 refine tk 18 (v:=?_) rfl (Or.inl ⟨by rfl,?_⟩) ?_
 rotate_left
 ·intro w9 hSw
  go_simp
  first | done | with_reducible rfl
 simp only [pP,pN,pS,pZ,pC]
 refine wpAnyH_ready (rs:=[1]) (by kernel_rfl) (by simp) ?_
 refine cons' rfl (fun KK hKK=>?_)
 have hz:=bN.size
 have hz2:=bel.size
 go_simp
 refine (H0.out _ hS0 hT0 hS1 hT1).mono ?_
 rintro e w2 ⟨p0,q0,r0,t0,rfl,n1,n2,n3,n4,hf⟩
 have bC:=n1.below
 replace bel:=bel.trans (bC.mono bel.size)
 replace bN:=bN.trans (bC.mono bN.size)
 replace hS0:=hS0.later bC
 replace hT0:=hT0.later bC
 replace hS1:=hS1.later bC
 replace hT1:=hT1.later bC
 replace hS2:=hS2.later bC
 replace hT2:=hT2.later bC
 replace hS3:=hS3.later bC
 replace hT3:=hT3.later bC
 replace hS4:=hS4.later bC
 replace hT4:=hT4.later bC
 replace qa:=qa.later bC
 replace qb:=qb.later bC
 replace qc:=qc.later bC
 replace acc:=acc.later bC
 replace qs:=qs.later bC
 replace hHeld:=(⟨below_cell bC hHeld.1,below_cell bC hHeld.2.1,below_cell bC hHeld.2.2.1,below_cell bC hHeld.2.2.2.1,below_cell bC hHeld.2.2.2.2.1,below_cell bC hHeld.2.2.2.2.2.1,below_cell bC hHeld.2.2.2.2.2.2.1,below_cell bC hHeld.2.2.2.2.2.2.2.1,below_cell bC hHeld.2.2.2.2.2.2.2.2.1,below_cell bC hHeld.2.2.2.2.2.2.2.2.2.1,below_cell bC hHeld.2.2.2.2.2.2.2.2.2.2.1,below_cell bC hHeld.2.2.2.2.2.2.2.2.2.2.2.1,below_cell bC hHeld.2.2.2.2.2.2.2.2.2.2.2.2.1,below_cell bC hHeld.2.2.2.2.2.2.2.2.2.2.2.2.2.1,below_cell bC hHeld.2.2.2.2.2.2.2.2.2.2.2.2.2.2.1,below_cell bC hHeld.2.2.2.2.2.2.2.2.2.2.2.2.2.2.2.1,below_cell bC hHeld.2.2.2.2.2.2.2.2.2.2.2.2.2.2.2.2.1,below_cell bC hHeld.2.2.2.2.2.2.2.2.2.2.2.2.2.2.2.2.2⟩:_∧_∧_∧_∧_∧_∧_∧_∧_∧_∧_∧_∧_∧_∧_∧_∧_∧_)
 clear bC
 go_wp2_with fail
 refine hKK.out _ _ hHeld ?_
 clear hHeld
 intro hHeld
 clear hKK KK
 try simp only [pP,pN,pS,pZ,pC]
 replace acc:=acc.join (AL.four n1 n2 n3 n4 hf) (by first | exact Nat.le_refl _ | exact hz) hz2 n1.below.size
 clear n1 n2 n3 n4 hf hz hz2
 refine wpAnyH_ready (rs:=[3]) (by kernel_rfl) (by simp) ?_
 refine cons' rfl (fun KK hKK=>?_)
 have hz:=bN.size
 have hz2:=bel.size
 go_simp
 refine (H1.out _ hS4 hT4).mono ?_
 rintro e w3 ⟨p1,q1,r1,t1,rfl,n1,n2,n3,n4,hf⟩
 have bC:=n1.below
 replace bel:=bel.trans (bC.mono bel.size)
 replace bN:=bN.trans (bC.mono bN.size)
 replace hS0:=hS0.later bC
 replace hT0:=hT0.later bC
 replace hS1:=hS1.later bC
 replace hT1:=hT1.later bC
 replace hS2:=hS2.later bC
 replace hT2:=hT2.later bC
 replace hS3:=hS3.later bC
 replace hT3:=hT3.later bC
 replace hS4:=hS4.later bC
 replace hT4:=hT4.later bC
 replace qa:=qa.later bC
 replace qb:=qb.later bC
 replace qc:=qc.later bC
 replace acc:=acc.later bC
 replace qs:=qs.later bC
 replace hHeld:=(⟨below_cell bC hHeld.1,below_cell bC hHeld.2.1,below_cell bC hHeld.2.2.1,below_cell bC hHeld.2.2.2.1,below_cell bC hHeld.2.2.2.2.1,below_cell bC hHeld.2.2.2.2.2.1,below_cell bC hHeld.2.2.2.2.2.2.1,below_cell bC hHeld.2.2.2.2.2.2.2.1,below_cell bC hHeld.2.2.2.2.2.2.2.2.1,below_cell bC hHeld.2.2.2.2.2.2.2.2.2.1,below_cell bC hHeld.2.2.2.2.2.2.2.2.2.2.1,below_cell bC hHeld.2.2.2.2.2.2.2.2.2.2.2.1,below_cell bC hHeld.2.2.2.2.2.2.2.2.2.2.2.2.1,below_cell bC hHeld.2.2.2.2.2.2.2.2.2.2.2.2.2.1,below_cell bC hHeld.2.2.2.2.2.2.2.2.2.2.2.2.2.2.1,below_cell bC hHeld.2.2.2.2.2.2.2.2.2.2.2.2.2.2.2.1,below_cell bC hHeld.2.2.2.2.2.2.2.2.2.2.2.2.2.2.2.2.1,below_cell bC hHeld.2.2.2.2.2.2.2.2.2.2.2.2.2.2.2.2.2⟩:_∧_∧_∧_∧_∧_∧_∧_∧_∧_∧_∧_∧_∧_∧_∧_∧_∧_)
 clear bC
 go_wp2_with fail
 refine hKK.out _ _ hHeld ?_
 clear hHeld
 intro hHeld
 clear hKK KK
 try simp only [pP,pN,pS,pZ,pC]
 replace acc:=acc.join (AL.four n1 n2 n3 n4 hf) (by first | exact Nat.le_refl _ | exact hz) hz2 n1.below.size
 clear n1 n2 n3 n4 hf hz hz2
 refine wpAnyH_ready (rs:=[5]) (by kernel_rfl) (by simp) ?_
 refine cons' rfl (fun KK hKK=>?_)
 have hz:=bN.size
 have hz2:=bel.size
 go_simp
 refine (H2.out _ hS0 hT0 hS1 hT1).mono ?_
 rintro e w4 ⟨p2,q2,r2,t2,rfl,n1,n2,n3,n4,hf⟩
 have bC:=n1.below
 replace bel:=bel.trans (bC.mono bel.size)
 replace bN:=bN.trans (bC.mono bN.size)
 replace hS0:=hS0.later bC
 replace hT0:=hT0.later bC
 replace hS1:=hS1.later bC
 replace hT1:=hT1.later bC
 replace hS2:=hS2.later bC
 replace hT2:=hT2.later bC
 replace hS3:=hS3.later bC
 replace hT3:=hT3.later bC
 replace hS4:=hS4.later bC
 replace hT4:=hT4.later bC
 replace qa:=qa.later bC
 replace qb:=qb.later bC
 replace qc:=qc.later bC
 replace acc:=acc.later bC
 replace qs:=qs.later bC
 replace hHeld:=(⟨below_cell bC hHeld.1,below_cell bC hHeld.2.1,below_cell bC hHeld.2.2.1,below_cell bC hHeld.2.2.2.1,below_cell bC hHeld.2.2.2.2.1,below_cell bC hHeld.2.2.2.2.2.1,below_cell bC hHeld.2.2.2.2.2.2.1,below_cell bC hHeld.2.2.2.2.2.2.2.1,below_cell bC hHeld.2.2.2.2.2.2.2.2.1,below_cell bC hHeld.2.2.2.2.2.2.2.2.2.1,below_cell bC hHeld.2.2.2.2.2.2.2.2.2.2.1,below_cell bC hHeld.2.2.2.2.2.2.2.2.2.2.2.1,below_cell bC hHeld.2.2.2.2.2.2.2.2.2.2.2.2.1,below_cell bC hHeld.2.2.2.2.2.2.2.2.2.2.2.2.2.1,below_cell bC hHeld.2.2.2.2.2.2.2.2.2.2.2.2.2.2.1,below_cell bC hHeld.2.2.2.2.2.2.2.2.2.2.2.2.2.2.2.1,below_cell bC hHeld.2.2.2.2.2.2.2.2.2.2.2.2.2.2.2.2.1,below_cell bC hHeld.2.2.2.2.2.2.2.2.2.2.2.2.2.2.2.2.2⟩:_∧_∧_∧_∧_∧_∧_∧_∧_∧_∧_∧_∧_∧_∧_∧_∧_∧_)
 clear bC
 go_wp2_with fail
 refine hKK.out _ _ hHeld ?_
 clear hHeld
 intro hHeld
 clear hKK KK
 try simp only [pP,pN,pS,pZ,pC]
 replace acc:=acc.join (AL.four n1 n2 n3 n4 hf) (by first | exact Nat.le_refl _ | exact hz) hz2 n1.below.size
 clear n1 n2 n3 n4 hf hz hz2
 refine wpAnyH_ready (rs:=[8]) (by kernel_rfl) (by simp) ?_
 refine cons' rfl (fun KK hKK=>?_)
 have hz:=bN.size
 have hz2:=bel.size
 go_simp
 refine (H3.out _ hS0 hT0 hS1 hT1 hS2 hT2 hS3 hT3).mono ?_
 rintro e w5 ⟨p3,q3,r3,t3,rfl,n1,n2,n3,n4,hf⟩
 have bC:=n1.below
 replace bel:=bel.trans (bC.mono bel.size)
 replace bN:=bN.trans (bC.mono bN.size)
 replace hS0:=hS0.later bC
 replace hT0:=hT0.later bC
 replace hS1:=hS1.later bC
 replace hT1:=hT1.later bC
 replace hS2:=hS2.later bC
 replace hT2:=hT2.later bC
 replace hS3:=hS3.later bC
 replace hT3:=hT3.later bC
 replace hS4:=hS4.later bC
 replace hT4:=hT4.later bC
 replace qa:=qa.later bC
 replace qb:=qb.later bC
 replace qc:=qc.later bC
 replace acc:=acc.later bC
 replace qs:=qs.later bC
 replace hHeld:=(⟨below_cell bC hHeld.1,below_cell bC hHeld.2.1,below_cell bC hHeld.2.2.1,below_cell bC hHeld.2.2.2.1,below_cell bC hHeld.2.2.2.2.1,below_cell bC hHeld.2.2.2.2.2.1,below_cell bC hHeld.2.2.2.2.2.2.1,below_cell bC hHeld.2.2.2.2.2.2.2.1,below_cell bC hHeld.2.2.2.2.2.2.2.2.1,below_cell bC hHeld.2.2.2.2.2.2.2.2.2.1,below_cell bC hHeld.2.2.2.2.2.2.2.2.2.2.1,below_cell bC hHeld.2.2.2.2.2.2.2.2.2.2.2.1,below_cell bC hHeld.2.2.2.2.2.2.2.2.2.2.2.2.1,below_cell bC hHeld.2.2.2.2.2.2.2.2.2.2.2.2.2.1,below_cell bC hHeld.2.2.2.2.2.2.2.2.2.2.2.2.2.2.1,below_cell bC hHeld.2.2.2.2.2.2.2.2.2.2.2.2.2.2.2.1,below_cell bC hHeld.2.2.2.2.2.2.2.2.2.2.2.2.2.2.2.2.1,below_cell bC hHeld.2.2.2.2.2.2.2.2.2.2.2.2.2.2.2.2.2⟩:_∧_∧_∧_∧_∧_∧_∧_∧_∧_∧_∧_∧_∧_∧_∧_∧_∧_)
 clear bC
 go_wp2_with fail
 refine hKK.out _ _ hHeld ?_
 clear hHeld
 intro hHeld
 clear hKK KK
 try simp only [pP,pN,pS,pZ,pC]
 replace acc:=acc.join (AL.four n1 n2 n3 n4 hf) (by first | exact Nat.le_refl _ | exact hz) hz2 n1.below.size
 clear n1 n2 n3 n4 hf hz hz2
 refine wpAnyH_ready (rs:=[11]) (by kernel_rfl) (by simp) ?_
 refine cons' rfl (fun KK hKK=>?_)
 have hz:=bN.size
 have hz2:=bel.size
 go_simp
 refine (H4.out _ hS0 hT0 hS1 hT1 hS2 hT2 hS3 hT3).mono ?_
 rintro e w6 ⟨p4,q4,r4,t4,rfl,n1,n2,n3,n4,hf⟩
 have bC:=n1.below
 replace bel:=bel.trans (bC.mono bel.size)
 replace bN:=bN.trans (bC.mono bN.size)
 replace hS0:=hS0.later bC
 replace hT0:=hT0.later bC
 replace hS1:=hS1.later bC
 replace hT1:=hT1.later bC
 replace hS2:=hS2.later bC
 replace hT2:=hT2.later bC
 replace hS3:=hS3.later bC
 replace hT3:=hT3.later bC
 replace hS4:=hS4.later bC
 replace hT4:=hT4.later bC
 replace qa:=qa.later bC
 replace qb:=qb.later bC
 replace qc:=qc.later bC
 replace acc:=acc.later bC
 replace qs:=qs.later bC
 replace hHeld:=(⟨below_cell bC hHeld.1,below_cell bC hHeld.2.1,below_cell bC hHeld.2.2.1,below_cell bC hHeld.2.2.2.1,below_cell bC hHeld.2.2.2.2.1,below_cell bC hHeld.2.2.2.2.2.1,below_cell bC hHeld.2.2.2.2.2.2.1,below_cell bC hHeld.2.2.2.2.2.2.2.1,below_cell bC hHeld.2.2.2.2.2.2.2.2.1,below_cell bC hHeld.2.2.2.2.2.2.2.2.2.1,below_cell bC hHeld.2.2.2.2.2.2.2.2.2.2.1,below_cell bC hHeld.2.2.2.2.2.2.2.2.2.2.2.1,below_cell bC hHeld.2.2.2.2.2.2.2.2.2.2.2.2.1,below_cell bC hHeld.2.2.2.2.2.2.2.2.2.2.2.2.2.1,below_cell bC hHeld.2.2.2.2.2.2.2.2.2.2.2.2.2.2.1,below_cell bC hHeld.2.2.2.2.2.2.2.2.2.2.2.2.2.2.2.1,below_cell bC hHeld.2.2.2.2.2.2.2.2.2.2.2.2.2.2.2.2.1,below_cell bC hHeld.2.2.2.2.2.2.2.2.2.2.2.2.2.2.2.2.2⟩:_∧_∧_∧_∧_∧_∧_∧_∧_∧_∧_∧_∧_∧_∧_∧_∧_∧_)
 clear bC
 go_wp2_with fail
 refine hKK.out _ _ hHeld ?_
 clear hHeld
 intro hHeld
 clear hKK KK
 try simp only [pP,pN,pS,pZ,pC]
 replace acc:=acc.join (AL.four n1 n2 n3 n4 hf) (by first | exact Nat.le_refl _ | exact hz) hz2 n1.below.size
 clear n1 n2 n3 n4 hf hz hz2
 refine wpAnyH_ready (rs:=[14]) (by kernel_rfl) (by simp) ?_
 refine cons' rfl (fun KK hKK=>?_)
 have hz:=bN.size
 have hz2:=bel.size
 go_simp
 refine (H5.out _ hS4 hT4 hS0 hT0 hS1 hT1).mono ?_
 rintro e w7 ⟨p5,q5,r5,t5,rfl,n1,n2,n3,n4,hf⟩
 have bC:=n1.below
 replace bel:=bel.trans (bC.mono bel.size)
 replace bN:=bN.trans (bC.mono bN.size)
 replace hS0:=hS0.later bC
 replace hT0:=hT0.later bC
 replace hS1:=hS1.later bC
 replace hT1:=hT1.later bC
 replace hS2:=hS2.later bC
 replace hT2:=hT2.later bC
 replace hS3:=hS3.later bC
 replace hT3:=hT3.later bC
 replace hS4:=hS4.later bC
 replace hT4:=hT4.later bC
 replace qa:=qa.later bC
 replace qb:=qb.later bC
 replace qc:=qc.later bC
 replace acc:=acc.later bC
 replace qs:=qs.later bC
 replace hHeld:=(⟨below_cell bC hHeld.1,below_cell bC hHeld.2.1,below_cell bC hHeld.2.2.1,below_cell bC hHeld.2.2.2.1,below_cell bC hHeld.2.2.2.2.1,below_cell bC hHeld.2.2.2.2.2.1,below_cell bC hHeld.2.2.2.2.2.2.1,below_cell bC hHeld.2.2.2.2.2.2.2.1,below_cell bC hHeld.2.2.2.2.2.2.2.2.1,below_cell bC hHeld.2.2.2.2.2.2.2.2.2.1,below_cell bC hHeld.2.2.2.2.2.2.2.2.2.2.1,below_cell bC hHeld.2.2.2.2.2.2.2.2.2.2.2.1,below_cell bC hHeld.2.2.2.2.2.2.2.2.2.2.2.2.1,below_cell bC hHeld.2.2.2.2.2.2.2.2.2.2.2.2.2.1,below_cell bC hHeld.2.2.2.2.2.2.2.2.2.2.2.2.2.2.1,below_cell bC hHeld.2.2.2.2.2.2.2.2.2.2.2.2.2.2.2.1,below_cell bC hHeld.2.2.2.2.2.2.2.2.2.2.2.2.2.2.2.2.1,below_cell bC hHeld.2.2.2.2.2.2.2.2.2.2.2.2.2.2.2.2.2⟩:_∧_∧_∧_∧_∧_∧_∧_∧_∧_∧_∧_∧_∧_∧_∧_∧_∧_)
 clear bC
 go_wp2_with fail
 refine hKK.out _ _ hHeld ?_
 clear hHeld
 intro hHeld
 clear hKK KK
 try simp only [pP,pN,pS,pZ,pC]
 replace acc:=acc.join (AL.four n1 n2 n3 n4 hf) (by first | exact Nat.le_refl _ | exact hz) hz2 n1.below.size
 clear n1 n2 n3 n4 hf hz hz2
 refine wpAnyH_ready (rs:=[17]) (by kernel_rfl) (by simp) ?_
 refine cons' rfl (fun KK hKK=>?_)
 have hz:=bN.size
 have hz2:=bel.size
 go_simp
 refine (H6.out _ hS0 hT0 hS1 hT1 hS4 hT4).mono ?_
 rintro e w8 ⟨p6,q6,rfl,n1,n2,hf⟩
 have bC:=n1.below
 replace bel:=bel.trans (bC.mono bel.size)
 replace bN:=bN.trans (bC.mono bN.size)
 replace hS0:=hS0.later bC
 replace hT0:=hT0.later bC
 replace hS1:=hS1.later bC
 replace hT1:=hT1.later bC
 replace hS2:=hS2.later bC
 replace hT2:=hT2.later bC
 replace hS3:=hS3.later bC
 replace hT3:=hT3.later bC
 replace hS4:=hS4.later bC
 replace hT4:=hT4.later bC
 replace qa:=qa.later bC
 replace qb:=qb.later bC
 replace qc:=qc.later bC
 replace acc:=acc.later bC
 replace qs:=qs.later bC
 replace hHeld:=(⟨below_cell bC hHeld.1,below_cell bC hHeld.2.1,below_cell bC hHeld.2.2.1,below_cell bC hHeld.2.2.2.1,below_cell bC hHeld.2.2.2.2.1,below_cell bC hHeld.2.2.2.2.2.1,below_cell bC hHeld.2.2.2.2.2.2.1,below_cell bC hHeld.2.2.2.2.2.2.2.1,below_cell bC hHeld.2.2.2.2.2.2.2.2.1,below_cell bC hHeld.2.2.2.2.2.2.2.2.2.1,below_cell bC hHeld.2.2.2.2.2.2.2.2.2.2.1,below_cell bC hHeld.2.2.2.2.2.2.2.2.2.2.2.1,below_cell bC hHeld.2.2.2.2.2.2.2.2.2.2.2.2.1,below_cell bC hHeld.2.2.2.2.2.2.2.2.2.2.2.2.2.1,below_cell bC hHeld.2.2.2.2.2.2.2.2.2.2.2.2.2.2.1,below_cell bC hHeld.2.2.2.2.2.2.2.2.2.2.2.2.2.2.2.1,below_cell bC hHeld.2.2.2.2.2.2.2.2.2.2.2.2.2.2.2.2.1,below_cell bC hHeld.2.2.2.2.2.2.2.2.2.2.2.2.2.2.2.2.2⟩:_∧_∧_∧_∧_∧_∧_∧_∧_∧_∧_∧_∧_∧_∧_∧_∧_∧_)
 clear bC
 go_wp2_with fail
 refine hKK.out _ _ hHeld ?_
 clear hHeld
 intro hHeld
 clear hKK KK
 try simp only [pP,pN,pS,pZ,pC]
 replace acc:=acc.join (AL.two n1 n2 hf) (by first | exact Nat.le_refl _ | exact hz) hz2 n1.below.size
 clear n1 n2 hf hz hz2
 refine tk 19 (v:=?_) rfl (Or.inl ⟨by rfl,?_⟩) ?_
 rotate_left
 ·intro w9 hSw
  go_simp
  first | done | with_reducible rfl
 simp only [pP,pN,pS,pZ,pC]
 refine wpAnyH_ready (rs:=[20]) (by kernel_rfl) (by simp) ?_
 refine cons' rfl (fun KK hKK=>?_)
 go_simp
 have qR:=Blk.new w8 #[.bool (ng Z0),.slice p0 (ln (am Z0)) (ln (am Z0)),.slice q0 (ln V0) (ln V0),.bool (ng W0),.slice r0 (ln (am W0)) (ln (am W0)),.slice t0 (ln U0) (ln U0),.bool (ng Z1),.slice p1 (ln (am Z1)) (ln (am Z1)),.slice q1 (ln V1) (ln V1),.bool (ng W1),.slice r1 (ln (am W1)) (ln (am W1)),.slice t1 (ln U1) (ln U1),.bool (ng Z2),.slice p2 (ln (am Z2)) (ln (am Z2)),.slice q2 (ln V2) (ln V2),.bool (ng W2),.slice r2 (ln (am W2)) (ln (am W2)),.slice t2 (ln U2) (ln U2),.bool (ng Z3),.slice p3 (ln (am Z3)) (ln (am Z3)),.slice q3 (ln V3) (ln V3),.bool (ng W3),.slice r3 (ln (am W3)) (ln (am W3)),.slice t3 (ln U3) (ln U3),.bool (ng Z4),.slice p4 (ln (am Z4)) (ln (am Z4)),.slice q4 (ln V4) (ln V4),.bool (ng W4),.slice r4 (ln (am W4)) (ln (am W4)),.slice t4 (ln U4) (ln U4),.bool (ng Z5),.slice p5 (ln (am Z5)) (ln (am Z5)),.slice q5 (ln V5) (ln V5),.bool (ng W5),.slice r5 (ln (am W5)) (ln (am W5)),.slice t5 (ln U5) (ln U5),.bool (ng Z6),.slice p6 (ln (am Z6)) (ln (am Z6)),.slice q6 (ln V6) (ln V6),.bool (ng W6),.slice r6 (ln (am W6)) (ln (am W6)),.slice t6 (ln U6) (ln U6)] 29
 have bA:=below_alloc (w:=w8) (.cells #[.bool (ng Z0),.slice p0 (ln (am Z0)) (ln (am Z0)),.slice q0 (ln V0) (ln V0),.bool (ng W0),.slice r0 (ln (am W0)) (ln (am W0)),.slice t0 (ln U0) (ln U0),.bool (ng Z1),.slice p1 (ln (am Z1)) (ln (am Z1)),.slice q1 (ln V1) (ln V1),.bool (ng W1),.slice r1 (ln (am W1)) (ln (am W1)),.slice t1 (ln U1) (ln U1),.bool (ng Z2),.slice p2 (ln (am Z2)) (ln (am Z2)),.slice q2 (ln V2) (ln V2),.bool (ng W2),.slice r2 (ln (am W2)) (ln (am W2)),.slice t2 (ln U2) (ln U2),.bool (ng Z3),.slice p3 (ln (am Z3)) (ln (am Z3)),.slice q3 (ln V3) (ln V3),.bool (ng W3),.slice r3 (ln (am W3)) (ln (am W3)),.slice t3 (ln U3) (ln U3),.bool (ng Z4),.slice p4 (ln (am Z4)) (ln (am Z4)),.slice q4 (ln V4) (ln V4),.bool (ng W4),.slice r4 (ln (am W4)) (ln (am W4)),.slice t4 (ln U4) (ln U4),.bool (ng Z5),.slice p5 (ln (am Z5)) (ln (am Z5)),.slice q5 (ln V5) (ln V5),.bool (ng W5),.slice r5 (ln (am W5)) (ln (am W5)),.slice t5 (ln U5) (ln U5),.bool (ng Z6),.slice p6 (ln (am Z6)) (ln (am Z6)),.slice q6 (ln V6) (ln V6),.bool (ng W6),.slice r6 (ln (am W6)) (ln (am W6)),.slice t6 (ln U6) (ln U6)] 29)
 generalize w8.alloc (.cells #[.bool (ng Z0),.slice p0 (ln (am Z0)) (ln (am Z0)),.slice q0 (ln V0) (ln V0),.bool (ng W0),.slice r0 (ln (am W0)) (ln (am W0)),.slice t0 (ln U0) (ln U0),.bool (ng Z1),.slice p1 (ln (am Z1)) (ln (am Z1)),.slice q1 (ln V1) (ln V1),.bool (ng W1),.slice r1 (ln (am W1)) (ln (am W1)),.slice t1 (ln U1) (ln U1),.bool (ng Z2),.slice p2 (ln (am Z2)) (ln (am Z2)),.slice q2 (ln V2) (ln V2),.bool (ng W2),.slice r2 (ln (am W2)) (ln (am W2)),.slice t2 (ln U2) (ln U2),.bool (ng Z3),.slice p3 (ln (am Z3)) (ln (am Z3)),.slice q3 (ln V3) (ln V3),.bool (ng W3),.slice r3 (ln (am W3)) (ln (am W3)),.slice t3 (ln U3) (ln U3),.bool (ng Z4),.slice p4 (ln (am Z4)) (ln (am Z4)),.slice q4 (ln V4) (ln V4),.bool (ng W4),.slice r4 (ln (am W4)) (ln (am W4)),.slice t4 (ln U4) (ln U4),.bool (ng Z5),.slice p5 (ln (am Z5)) (ln (am Z5)),.slice q5 (ln V5) (ln V5),.bool (ng W5),.slice r5 (ln (am W5)) (ln (am W5)),.slice t5 (ln U5) (ln U5),.bool (ng Z6),.slice p6 (ln (am Z6)) (ln (am Z6)),.slice q6 (ln V6) (ln V6),.bool (ng W6),.slice r6 (ln (am W6)) (ln (am W6)),.slice t6 (ln U6) (ln U6)] 29)=w9 at qR bA ⊢
 replace bel:=bel.trans (bA.mono bel.size)
 replace bN:=bN.trans (bA.mono bN.size)
 replace hS0:=hS0.later bA
 replace hT0:=hT0.later bA
 replace hS1:=hS1.later bA
 replace hT1:=hT1.later bA
 replace hS2:=hS2.later bA
 replace hT2:=hT2.later bA
 replace hS3:=hS3.later bA
 replace hT3:=hT3.later bA
 replace hS4:=hS4.later bA
 replace hT4:=hT4.later bA
 replace qa:=qa.later bA
 replace qb:=qb.later bA
 replace qc:=qc.later bA
 replace acc:=acc.later bA
 replace qs:=qs.later bA
 replace hHeld:=(⟨below_cell bA hHeld.1,below_cell bA hHeld.2.1,below_cell bA hHeld.2.2.1,below_cell bA hHeld.2.2.2.1,below_cell bA hHeld.2.2.2.2.1,below_cell bA hHeld.2.2.2.2.2.1,below_cell bA hHeld.2.2.2.2.2.2.1,below_cell bA hHeld.2.2.2.2.2.2.2.1,below_cell bA hHeld.2.2.2.2.2.2.2.2.1,below_cell bA hHeld.2.2.2.2.2.2.2.2.2.1,below_cell bA hHeld.2.2.2.2.2.2.2.2.2.2.1,below_cell bA hHeld.2.2.2.2.2.2.2.2.2.2.2.1,below_cell bA hHeld.2.2.2.2.2.2.2.2.2.2.2.2.1,below_cell bA hHeld.2.2.2.2.2.2.2.2.2.2.2.2.2.1,below_cell bA hHeld.2.2.2.2.2.2.2.2.2.2.2.2.2.2.1,below_cell bA hHeld.2.2.2.2.2.2.2.2.2.2.2.2.2.2.2.1,below_cell bA hHeld.2.2.2.2.2.2.2.2.2.2.2.2.2.2.2.2.1,below_cell bA hHeld.2.2.2.2.2.2.2.2.2.2.2.2.2.2.2.2.2⟩:_∧_∧_∧_∧_∧_∧_∧_∧_∧_∧_∧_∧_∧_∧_∧_∧_∧_)
 clear bA
 refine hKK.out _ _ hHeld ?_
 clear hHeld
 intro hHeld
 clear hKK KK
 try simp only [pP,pN,pS,pZ,pC]
 obtain ⟨cR,hcR⟩:∃ c,w8.heap.size=c:=⟨_,rfl⟩
 rw [hcR] at qR acc
 try rw [hcR]
 clear hcR
 refine tk 21 (v:=?_) rfl (Or.inl ⟨by rfl,?_⟩) ?_
 rotate_left
 ·intro w9 hSw
  go_simp
  first | done | with_reducible rfl
 simp only [pP,pN,pS,pZ,pC]
 refine wpAnyH_done (by kernel_rfl) ?_ _
 go_wp2
 have e:=List.perm_append_comm (l₁:=[(r6,am W6),(t6,U6)]) (l₂:=[(p0,am Z0),(q0,V0),(r0,am W0),(t0,U0),(p1,am Z1),(q1,V1),(r1,am W1),(t1,U1),(p2,am Z2),(q2,V2),(r2,am W2),(t2,U2),(p3,am Z3),(q3,V3),(r3,am W3),(t3,U3),(p4,am Z4),(q4,V4),(r4,am W4),(t4,U4),(p5,am Z5),(q5,V5),(r5,am W5),(t5,U5),(p6,am Z6),(q6,V6)])
 simp only [List.cons_append,List.nil_append] at e acc
 go_ret
 unfold AnsP
 exact ⟨cR,p0,q0,r0,t0,p1,q1,r1,t1,p2,q2,r2,t2,p3,q3,r3,t3,p4,q4,r4,t4,p5,q5,r5,t5,p6,q6,r6,t6,rfl,bel,qR,acc.perm e⟩
end Go.Proofs.YtfppjaoddicgpaaGreatDoor
