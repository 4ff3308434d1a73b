import Derived.Test.YtgfmaejhdbmkoaaGreatWO2
import Derived.Test.YtgfmaejhdbmkoaaGreatWN7
set_option linter.unusedSimpArgs false
namespace Go.Proofs.YtgfmaejhdbmkoaaGreat
open Go.RowKit
set_option linter.unusedVariables false
theorem info_int:(Tryz.prog.info? 3).map (fun i=>(i.zero,i.size,i.bytes))=some (some (.int .i64 0),1,8):=by kernel_rfl
def SInv (w:World) (zs:List Int) (k:Nat) (vo:Value) (wr:World):Prop :=
 ∃ ys:List Int,wr.ownsRow w.heap.size 3 1 vo ys.length (iv ys)∧Below w.heap.size w wr∧Srt ys (zs.take k)
def SAns (w:World) (zs:List Int) (e:Ending) (w':World):Prop:=∃ vo,e=.returned vo∧SInv w zs zs.length vo w'
theorem own_at {w:World} {base:Nat} {e:TypeId} {v:Value} {ys:List Int} (h:w.ownsRow base e 1 v ys.length (iv ys)) {j:Nat} {y:Int} (hj:ys[j]?=some y):∃ g cap,v=.slice (some ⟨g,0,none⟩) ys.length cap∧ys.length≤cap∧base≤g∧g < w.heap.size∧w.cell? ⟨g,j,none⟩=some (.int .i64 y):=by
 have hl:=(List.getElem?_eq_some_iff.1 hj).1
 rcases h.2 with ⟨rfl,h0⟩ | ⟨g,cap,cur,rfl,hb,hg,hc,hm,_,_⟩
 ·omega
 ·refine ⟨g,cap,rfl,hc,hb,(Array.getElem?_eq_some_iff.1 hg).1,?_⟩
  have k1:=h.cellAt j (by omega)
  rw [iv_at hj] at k1
  exact k1
set_option maxHeartbeats 8000000 in
set_option maxRecDepth 100000 in
theorem vsorted_is (a:Option Addr) (cap0:Nat) (zs:List Int) (w:World) (hF:IAt w a zs) (hc:zs.length≤cap0) (hm:zs.length≤2097152) :
  Calls Tryz.prog 56 #[.slice a zs.length cap0] w (SAns w zs):=by
 obtain ⟨i0,hi0,hz0,hz1,hz2⟩:=info_parts info_int
 go_enter Tryz.func56,Tryz.ntmps56
 go_wp2_with fail
 go_loopw [3,4] (fun vo vi wr=>∃ k:Nat,k≤zs.length∧vi=.int .i64 k∧SInv w zs k vo wr) (fun _ vi _=>zs.length - (intOf vi).toNat)
 case atStart=>exact ⟨0,Nat.zero_le _,rfl,[],World.ownsRow_nil _ _ _ _,Below.refl _ _,List.Pairwise.nil,fun z=>by simp,Nat.le_refl _⟩
 case round =>
  obtain ⟨k,hk,rfl,ys,hO,hB,hY⟩:=hrel
  by_cases hlt:k < zs.length
  ·obtain ⟨x,hx⟩:∃ x,zs[k]?=some x:=⟨zs[k],List.getElem?_eq_getElem hlt⟩
   obtain ⟨b,off,rfl,hb,hcell⟩:=hF (by intro e;rw [e] at hlt;simp at hlt)
   have hcx:=hcell k x hx
   obtain ⟨t1,t2⟩:=xJ6 hx
   clear t2 hx hcell
   have hyl:ys.length≤k:=by have:=hY.len;rw [List.length_take] at this;omega
   have i0':(0:Int)≤(k:Int):=by omega
   have i1:(k:Int) < (zs.length:Int):=by omega
   obtain ⟨n,hn⟩:∃ n,ys.length=n:=⟨_,rfl⟩
   have hvs:∃ ao co,u3=.slice ao n co:=by
    obtain ⟨ao,co,e,_,_⟩:=own_ints hO
    exact ⟨ao,co,by rw [e,hn]⟩
   obtain ⟨ao,co,rfl⟩:=hvs
   have l0:(0:Int)≤(n:Int):=by omega
   have hnk:n≤2097152:=by omega
   rw [hn] at hO
   have HY:=xQ1 (And.intro hn (And.intro hY (And.intro t1 hyl)))
   clear hn hY t1 hyl
   go_wp2_with fail
   go_loopw [5] (fun vi wr=>∃ j:Nat,j≤n∧vi=.int .i64 j∧wr.ownsRow w.heap.size 3 1 (.slice ao n co) n (iv ys)∧Below w.heap.size w wr∧∀ i y,i < j→ys[i]?=some y→y < x) (fun vi _=>n - (intOf vi).toNat)
   case atStart=>exact ⟨0,Nat.zero_le _,rfl,hO,hB,fun i y hi=>absurd hi (by omega)⟩
   case round =>
    clear hO hB
    obtain ⟨j,hj,rfl,hO,hB,hlo⟩:=hrel
    have j0:(0:Int)≤(j:Int):=by omega
    have c0:=xQ0 hB hcx
    by_cases hjn:j < n
    ·obtain ⟨y,hy⟩:∃ y,ys[j]?=some y:=⟨ys[j]'(by have:=HY.out.1;omega),List.getElem?_eq_getElem _⟩
     obtain ⟨g,cp,hv,hcp,hbg,hgl,cy⟩:=own_at (ys:=ys) (by rw [HY.out.1];exact hO) hy
     rw [HY.out.1] at hv
     simp only [Value.slice.injEq,true_and] at hv
     obtain ⟨rfl,rfl⟩:=hv
     have j1:(j:Int) < (n:Int):=by omega
     by_cases hyx:y < x
     ·go_wp2_with fail
      have bD:Below wr.heap.size wr wr.drew:=(Below.refl _ _).drew
      have kcy:=xQ0 bD cy
      have kc0:=xQ0 bD c0
      replace hB:=hB.trans (bD.mono hB.size)
      refine wp_region_held_drew (S:=fun w'=>w'.cell? ⟨g,j,none⟩=some (.int .i64 y)∧w'.cell? ⟨b,off+k,none⟩=some (.int .i64 x)) (by kernel_rfl) ⟨kcy,kc0⟩ (fun hHeld=>?_)
      clear kcy kc0
      generalize wr.drew=w5 at bD hB hHeld ⊢
      replace hO:=xQ6 hO bD
      replace c0:=xQ0 bD c0
      replace cy:=xQ0 bD cy
      refine tk 0 (v:=?_) rfl (Or.inl ⟨by rfl,?_⟩) ?_
      rotate_left
      ·intro w9 hSw
       go_simp
       try with_reducible rfl
      simp only [pA]
      refine tk 1 (v:=?_) rfl (Or.inl ⟨by rfl,?_⟩) ?_
      rotate_left
      ·intro w9 hSw
       go_simp
       try with_reducible rfl
      simp only [pA]
      refine tk 2 (v:=?_) rfl (Or.inl ⟨by rfl,?_⟩) ?_
      rotate_left
      ·intro w9 hSw
       go_simp
       try with_reducible rfl
      simp only [pA]
      refine tk 3 (v:=?_) rfl (Or.inl ⟨by rfl,?_⟩) ?_
      rotate_left
      ·intro w9 hSw
       go_simp
       try with_reducible rfl
      simp only [pA]
      try simp only [hjn,decide_true,decide_false,gt_iff_lt,ge_iff_le]
      refine tk 4 (v:=?_) rfl (Or.inl ⟨by rfl,?_⟩) ?_
      rotate_left
      ·intro w9 hSw
       go_simp
       try with_reducible rfl
      simp only [pA]
      refine tk 5 (v:=?_) rfl (Or.inl ⟨by rfl,?_⟩) ?_
      rotate_left
      ·intro w9 hSw
       go_simp
       try with_reducible rfl
      simp only [pA]
      refine tk 6 (v:=?_) rfl (Or.inl ⟨by rfl,?_⟩) ?_
      rotate_left
      ·intro w9 hSw
       go_simp
       try with_reducible rfl
      simp only [pA]
      refine tk 7 (v:=?_) rfl (Or.inl ⟨by rfl,?_⟩) ?_
      rotate_left
      ·intro w9 hSw
       go_simp
       try with_reducible rfl
      simp only [pA]
      refine tk 8 (v:=?_) rfl (Or.inl ⟨by rfl,?_⟩) ?_
      rotate_left
      ·intro w9 hSw
       go_simp
       try with_reducible rfl
      simp only [pA]
      refine tk 9 (v:=?_) rfl (Or.inl ⟨by rfl,?_⟩) ?_
      rotate_left
      ·intro w9 hSw
       go_simp
       try with_reducible rfl
      simp only [pA]
      refine tk 10 (v:=?_) rfl (Or.inl ⟨by rfl,?_⟩) ?_
      rotate_left
      ·intro w9 hSw
       go_simp
       try with_reducible rfl
      simp only [pA]
      refine tk 11 (v:=?_) rfl (Or.inl ⟨by rfl,?_⟩) ?_
      rotate_left
      ·intro w9 hSw
       go_simp
       try with_reducible rfl
      simp only [pA]
      refine tk 12 (v:=?_) rfl (Or.inl ⟨by rfl,?_⟩) ?_
      rotate_left
      ·intro w9 hSw
       go_simp
       try with_reducible rfl
      simp only [pA]
      refine tk 13 (v:=?_) rfl (Or.inl ⟨by rfl,?_⟩) ?_
      rotate_left
      ·intro w9 hSw
       go_simp
       try with_reducible rfl
      simp only [pA]
      try simp only [hyx,decide_true,decide_false,gt_iff_lt,ge_iff_le]
      refine tk 14 (v:=?_) rfl (Or.inl ⟨by rfl,?_⟩) ?_
      rotate_left
      ·intro w9 hSw
       go_simp
       try with_reducible rfl
      simp only [pA]
      refine wpAnyH_done (by kernel_rfl) ?_ _
      clear hHeld bD
      go_wp2
      go_roundw
      case rel=>exact ⟨j+1,by omega,by go_num,hO,hB,fun i z hi hz=>by
       rcases Nat.lt_or_ge i j with h1 | h1
       ·exact hlo i z h1 hz
       ·obtain rfl:i=j:=by omega
        rw [hy] at hz;obtain rfl:=Option.some.inj hz;exact hyx⟩
      case measure=>simp [intOf];omega
     ·have hyx2:¬ (y:Int) < x:=hyx
      by_cases hye:y=x
      ·have hyb:(y == x)=true:=by simp [hye]
       go_wp2_with fail
       have bD:Below wr.heap.size wr wr.drew:=(Below.refl _ _).drew
       have kcy:=xQ0 bD cy
       have kc0:=xQ0 bD c0
       replace hB:=hB.trans (bD.mono hB.size)
       refine wp_region_held_drew (S:=fun w'=>w'.cell? ⟨g,j,none⟩=some (.int .i64 y)∧w'.cell? ⟨b,off+k,none⟩=some (.int .i64 x)) (by kernel_rfl) ⟨kcy,kc0⟩ (fun hHeld=>?_)
       clear kcy kc0
       generalize wr.drew=w5 at bD hB hHeld ⊢
       replace hO:=xQ6 hO bD
       replace c0:=xQ0 bD c0
       replace cy:=xQ0 bD cy
       refine tk 0 (v:=?_) rfl (Or.inl ⟨by rfl,?_⟩) ?_
       rotate_left
       ·intro w9 hSw
        go_simp
        try with_reducible rfl
       simp only [pA]
       refine tk 1 (v:=?_) rfl (Or.inl ⟨by rfl,?_⟩) ?_
       rotate_left
       ·intro w9 hSw
        go_simp
        try with_reducible rfl
       simp only [pA]
       refine tk 2 (v:=?_) rfl (Or.inl ⟨by rfl,?_⟩) ?_
       rotate_left
       ·intro w9 hSw
        go_simp
        try with_reducible rfl
       simp only [pA]
       refine tk 3 (v:=?_) rfl (Or.inl ⟨by rfl,?_⟩) ?_
       rotate_left
       ·intro w9 hSw
        go_simp
        try with_reducible rfl
       simp only [pA]
       try simp only [hjn,decide_true,decide_false,gt_iff_lt,ge_iff_le]
       refine tk 4 (v:=?_) rfl (Or.inl ⟨by rfl,?_⟩) ?_
       rotate_left
       ·intro w9 hSw
        go_simp
        try with_reducible rfl
       simp only [pA]
       refine tk 5 (v:=?_) rfl (Or.inl ⟨by rfl,?_⟩) ?_
       rotate_left
       ·intro w9 hSw
        go_simp
        try with_reducible rfl
       simp only [pA]
       refine tk 6 (v:=?_) rfl (Or.inl ⟨by rfl,?_⟩) ?_
       rotate_left
       ·intro w9 hSw
        go_simp
        try with_reducible rfl
       simp only [pA]
       refine tk 7 (v:=?_) rfl (Or.inl ⟨by rfl,?_⟩) ?_
       rotate_left
       ·intro w9 hSw
        go_simp
        try with_reducible rfl
       simp only [pA]
       refine tk 8 (v:=?_) rfl (Or.inl ⟨by rfl,?_⟩) ?_
       rotate_left
       ·intro w9 hSw
        go_simp
        try with_reducible rfl
       simp only [pA]
       refine tk 9 (v:=?_) rfl (Or.inl ⟨by rfl,?_⟩) ?_
       rotate_left
       ·intro w9 hSw
        go_simp
        try with_reducible rfl
       simp only [pA]
       refine tk 10 (v:=?_) rfl (Or.inl ⟨by rfl,?_⟩) ?_
       rotate_left
       ·intro w9 hSw
        go_simp
        try with_reducible rfl
       simp only [pA]
       refine tk 11 (v:=?_) rfl (Or.inl ⟨by rfl,?_⟩) ?_
       rotate_left
       ·intro w9 hSw
        go_simp
        try with_reducible rfl
       simp only [pA]
       refine tk 12 (v:=?_) rfl (Or.inl ⟨by rfl,?_⟩) ?_
       rotate_left
       ·intro w9 hSw
        go_simp
        try with_reducible rfl
       simp only [pA]
       refine tk 13 (v:=?_) rfl (Or.inl ⟨by rfl,?_⟩) ?_
       rotate_left
       ·intro w9 hSw
        go_simp
        try with_reducible rfl
       simp only [pA]
       try simp only [hyx,decide_true,decide_false,gt_iff_lt,ge_iff_le]
       refine tk 14 (v:=?_) rfl (Or.inl ⟨by rfl,?_⟩) ?_
       rotate_left
       ·intro w9 hSw
        go_simp
        try with_reducible rfl
       simp only [pA]
       refine wpAnyH_done (by kernel_rfl) ?_ _
       clear hHeld bD
       go_wp2_with fail
       have bD:Below w5.heap.size w5 w5.drew:=(Below.refl _ _).drew
       have kcy:=xQ0 bD cy
       have kc0:=xQ0 bD c0
       replace hB:=hB.trans (bD.mono hB.size)
       refine wp_region_held_drew (S:=fun w'=>w'.cell? ⟨g,j,none⟩=some (.int .i64 y)∧w'.cell? ⟨b,off+k,none⟩=some (.int .i64 x)) (by kernel_rfl) ⟨kcy,kc0⟩ (fun hHeld=>?_)
       clear kcy kc0
       generalize w5.drew=w6 at bD hB hHeld ⊢
       replace hO:=xQ6 hO bD
       replace c0:=xQ0 bD c0
       replace cy:=xQ0 bD cy
       refine tk 0 (v:=?_) rfl (Or.inl ⟨by rfl,?_⟩) ?_
       rotate_left
       ·intro w9 hSw
        go_simp
        try with_reducible rfl
       simp only [pA]
       refine tk 1 (v:=?_) rfl (Or.inl ⟨by rfl,?_⟩) ?_
       rotate_left
       ·intro w9 hSw
        go_simp
        try with_reducible rfl
       simp only [pA]
       refine tk 2 (v:=?_) rfl (Or.inl ⟨by rfl,?_⟩) ?_
       rotate_left
       ·intro w9 hSw
        go_simp
        try with_reducible rfl
       simp only [pA]
       refine tk 3 (v:=?_) rfl (Or.inl ⟨by rfl,?_⟩) ?_
       rotate_left
       ·intro w9 hSw
        go_simp
        try with_reducible rfl
       simp only [pA]
       try simp only [hjn,decide_true,decide_false,gt_iff_lt,ge_iff_le]
       refine tk 4 (v:=?_) rfl (Or.inl ⟨by rfl,?_⟩) ?_
       rotate_left
       ·intro w9 hSw
        go_simp
        try with_reducible rfl
       simp only [pA]
       refine tk 5 (v:=?_) rfl (Or.inl ⟨by rfl,?_⟩) ?_
       rotate_left
       ·intro w9 hSw
        go_simp
        try with_reducible rfl
       simp only [pA]
       refine tk 6 (v:=?_) rfl (Or.inl ⟨by rfl,?_⟩) ?_
       rotate_left
       ·intro w9 hSw
        go_simp
        try with_reducible rfl
       simp only [pA]
       refine tk 7 (v:=?_) rfl (Or.inl ⟨by rfl,?_⟩) ?_
       rotate_left
       ·intro w9 hSw
        go_simp
        try with_reducible rfl
       simp only [pA]
       refine tk 8 (v:=?_) rfl (Or.inl ⟨by rfl,?_⟩) ?_
       rotate_left
       ·intro w9 hSw
        go_simp
        try with_reducible rfl
       simp only [pA]
       refine tk 9 (v:=?_) rfl (Or.inl ⟨by rfl,?_⟩) ?_
       rotate_left
       ·intro w9 hSw
        go_simp
        try with_reducible rfl
       simp only [pA]
       refine tk 10 (v:=?_) rfl (Or.inl ⟨by rfl,?_⟩) ?_
       rotate_left
       ·intro w9 hSw
        go_simp
        try with_reducible rfl
       simp only [pA]
       refine tk 11 (v:=?_) rfl (Or.inl ⟨by rfl,?_⟩) ?_
       rotate_left
       ·intro w9 hSw
        go_simp
        try with_reducible rfl
       simp only [pA]
       refine tk 12 (v:=?_) rfl (Or.inl ⟨by rfl,?_⟩) ?_
       rotate_left
       ·intro w9 hSw
        go_simp
        try with_reducible rfl
       simp only [pA]
       refine tk 13 (v:=?_) rfl (Or.inl ⟨by rfl,?_⟩) ?_
       rotate_left
       ·intro w9 hSw
        go_simp
        try with_reducible rfl
       simp only [pA]
       try simp only [hyb,decide_true,decide_false,gt_iff_lt,ge_iff_le]
       refine tk 14 (v:=?_) rfl (Or.inl ⟨by rfl,?_⟩) ?_
       rotate_left
       ·intro w9 hSw
        go_simp
        try with_reducible rfl
       simp only [pA]
       refine wpAnyH_done (by kernel_rfl) ?_ _
       clear hHeld bD
       have I1:=xQ1 (show SInv w zs (k+1) (.slice (some ⟨g,0,none⟩) n co) w6 from ⟨ys,by rw [HY.out.1];exact hO,hB,by rw [HY.out.2.2.1];exact HY.out.2.1.same (by rw [←hye];exact hy)⟩)
       go_wp2
       go_roundw
       case rel=>exact ⟨k+1,by omega,by go_num,I1.out⟩
       case measure=>simp [intOf];omega
      ·have hyb:(y == x)=false:=by simp [hye]
       have hhi:∀ z,ys[j]?=some z→x < z:=fun z hz=>by rw [hy] at hz;obtain rfl:=Option.some.inj hz;omega
       go_wp2_with fail
       have bD:Below wr.heap.size wr wr.drew:=(Below.refl _ _).drew
       have kcy:=xQ0 bD cy
       have kc0:=xQ0 bD c0
       replace hB:=hB.trans (bD.mono hB.size)
       refine wp_region_held_drew (S:=fun w'=>w'.cell? ⟨g,j,none⟩=some (.int .i64 y)∧w'.cell? ⟨b,off+k,none⟩=some (.int .i64 x)) (by kernel_rfl) ⟨kcy,kc0⟩ (fun hHeld=>?_)
       clear kcy kc0
       generalize wr.drew=w5 at bD hB hHeld ⊢
       replace hO:=xQ6 hO bD
       replace c0:=xQ0 bD c0
       replace cy:=xQ0 bD cy
       refine tk 0 (v:=?_) rfl (Or.inl ⟨by rfl,?_⟩) ?_
       rotate_left
       ·intro w9 hSw
        go_simp
        try with_reducible rfl
       simp only [pA]
       refine tk 1 (v:=?_) rfl (Or.inl ⟨by rfl,?_⟩) ?_
       rotate_left
       ·intro w9 hSw
        go_simp
        try with_reducible rfl
       simp only [pA]
       refine tk 2 (v:=?_) rfl (Or.inl ⟨by rfl,?_⟩) ?_
       rotate_left
       ·intro w9 hSw
        go_simp
        try with_reducible rfl
       simp only [pA]
       refine tk 3 (v:=?_) rfl (Or.inl ⟨by rfl,?_⟩) ?_
       rotate_left
       ·intro w9 hSw
        go_simp
        try with_reducible rfl
       simp only [pA]
       try simp only [hjn,decide_true,decide_false,gt_iff_lt,ge_iff_le]
       refine tk 4 (v:=?_) rfl (Or.inl ⟨by rfl,?_⟩) ?_
       rotate_left
       ·intro w9 hSw
        go_simp
        try with_reducible rfl
       simp only [pA]
       refine tk 5 (v:=?_) rfl (Or.inl ⟨by rfl,?_⟩) ?_
       rotate_left
       ·intro w9 hSw
        go_simp
        try with_reducible rfl
       simp only [pA]
       refine tk 6 (v:=?_) rfl (Or.inl ⟨by rfl,?_⟩) ?_
       rotate_left
       ·intro w9 hSw
        go_simp
        try with_reducible rfl
       simp only [pA]
       refine tk 7 (v:=?_) rfl (Or.inl ⟨by rfl,?_⟩) ?_
       rotate_left
       ·intro w9 hSw
        go_simp
        try with_reducible rfl
       simp only [pA]
       refine tk 8 (v:=?_) rfl (Or.inl ⟨by rfl,?_⟩) ?_
       rotate_left
       ·intro w9 hSw
        go_simp
        try with_reducible rfl
       simp only [pA]
       refine tk 9 (v:=?_) rfl (Or.inl ⟨by rfl,?_⟩) ?_
       rotate_left
       ·intro w9 hSw
        go_simp
        try with_reducible rfl
       simp only [pA]
       refine tk 10 (v:=?_) rfl (Or.inl ⟨by rfl,?_⟩) ?_
       rotate_left
       ·intro w9 hSw
        go_simp
        try with_reducible rfl
       simp only [pA]
       refine tk 11 (v:=?_) rfl (Or.inl ⟨by rfl,?_⟩) ?_
       rotate_left
       ·intro w9 hSw
        go_simp
        try with_reducible rfl
       simp only [pA]
       refine tk 12 (v:=?_) rfl (Or.inl ⟨by rfl,?_⟩) ?_
       rotate_left
       ·intro w9 hSw
        go_simp
        try with_reducible rfl
       simp only [pA]
       refine tk 13 (v:=?_) rfl (Or.inl ⟨by rfl,?_⟩) ?_
       rotate_left
       ·intro w9 hSw
        go_simp
        try with_reducible rfl
       simp only [pA]
       try simp only [hyx,decide_true,decide_false,gt_iff_lt,ge_iff_le]
       refine tk 14 (v:=?_) rfl (Or.inl ⟨by rfl,?_⟩) ?_
       rotate_left
       ·intro w9 hSw
        go_simp
        try with_reducible rfl
       simp only [pA]
       refine wpAnyH_done (by kernel_rfl) ?_ _
       clear hHeld bD
       go_wp2_with fail
       have bD:Below w5.heap.size w5 w5.drew:=(Below.refl _ _).drew
       have kcy:=xQ0 bD cy
       have kc0:=xQ0 bD c0
       replace hB:=hB.trans (bD.mono hB.size)
       refine wp_region_held_drew (S:=fun w'=>w'.cell? ⟨g,j,none⟩=some (.int .i64 y)∧w'.cell? ⟨b,off+k,none⟩=some (.int .i64 x)) (by kernel_rfl) ⟨kcy,kc0⟩ (fun hHeld=>?_)
       clear kcy kc0
       generalize w5.drew=w6 at bD hB hHeld ⊢
       replace hO:=xQ6 hO bD
       replace c0:=xQ0 bD c0
       replace cy:=xQ0 bD cy
       refine tk 0 (v:=?_) rfl (Or.inl ⟨by rfl,?_⟩) ?_
       rotate_left
       ·intro w9 hSw
        go_simp
        try with_reducible rfl
       simp only [pA]
       refine tk 1 (v:=?_) rfl (Or.inl ⟨by rfl,?_⟩) ?_
       rotate_left
       ·intro w9 hSw
        go_simp
        try with_reducible rfl
       simp only [pA]
       refine tk 2 (v:=?_) rfl (Or.inl ⟨by rfl,?_⟩) ?_
       rotate_left
       ·intro w9 hSw
        go_simp
        try with_reducible rfl
       simp only [pA]
       refine tk 3 (v:=?_) rfl (Or.inl ⟨by rfl,?_⟩) ?_
       rotate_left
       ·intro w9 hSw
        go_simp
        try with_reducible rfl
       simp only [pA]
       try simp only [hjn,decide_true,decide_false,gt_iff_lt,ge_iff_le]
       refine tk 4 (v:=?_) rfl (Or.inl ⟨by rfl,?_⟩) ?_
       rotate_left
       ·intro w9 hSw
        go_simp
        try with_reducible rfl
       simp only [pA]
       refine tk 5 (v:=?_) rfl (Or.inl ⟨by rfl,?_⟩) ?_
       rotate_left
       ·intro w9 hSw
        go_simp
        try with_reducible rfl
       simp only [pA]
       refine tk 6 (v:=?_) rfl (Or.inl ⟨by rfl,?_⟩) ?_
       rotate_left
       ·intro w9 hSw
        go_simp
        try with_reducible rfl
       simp only [pA]
       refine tk 7 (v:=?_) rfl (Or.inl ⟨by rfl,?_⟩) ?_
       rotate_left
       ·intro w9 hSw
        go_simp
        try with_reducible rfl
       simp only [pA]
       refine tk 8 (v:=?_) rfl (Or.inl ⟨by rfl,?_⟩) ?_
       rotate_left
       ·intro w9 hSw
        go_simp
        try with_reducible rfl
       simp only [pA]
       refine tk 9 (v:=?_) rfl (Or.inl ⟨by rfl,?_⟩) ?_
       rotate_left
       ·intro w9 hSw
        go_simp
        try with_reducible rfl
       simp only [pA]
       refine tk 10 (v:=?_) rfl (Or.inl ⟨by rfl,?_⟩) ?_
       rotate_left
       ·intro w9 hSw
        go_simp
        try with_reducible rfl
       simp only [pA]
       refine tk 11 (v:=?_) rfl (Or.inl ⟨by rfl,?_⟩) ?_
       rotate_left
       ·intro w9 hSw
        go_simp
        try with_reducible rfl
       simp only [pA]
       refine tk 12 (v:=?_) rfl (Or.inl ⟨by rfl,?_⟩) ?_
       rotate_left
       ·intro w9 hSw
        go_simp
        try with_reducible rfl
       simp only [pA]
       refine tk 13 (v:=?_) rfl (Or.inl ⟨by rfl,?_⟩) ?_
       rotate_left
       ·intro w9 hSw
        go_simp
        try with_reducible rfl
       simp only [pA]
       try simp only [hyb,decide_true,decide_false,gt_iff_lt,ge_iff_le]
       refine tk 14 (v:=?_) rfl (Or.inl ⟨by rfl,?_⟩) ?_
       rotate_left
       ·intro w9 hSw
        go_simp
        try with_reducible rfl
       simp only [pA]
       refine wpAnyH_done (by kernel_rfl) ?_ _
       clear hHeld bD
       clear cy hgl hcp hye hyb hyx2 hyx
       obtain ⟨wB,hwB⟩:∃ wB,w6.alloc (.cells #[.int .i64 0] 3)=wB:=⟨_,rfl⟩
       have hnew:=heap_alloc_new w6 (.cells #[.int .i64 0] 3)
       have b3:=xQ2 (w:=w6) (.cells #[.int .i64 0] 3)
       rw [hwB] at hnew b3
       have hO3:=xQ6 hO b3
       have s3:=b3.size
       have s4:=hB.size
       have hbB:w.heap.size≤wB.heap.size:=by omega
       have hbl:(n+1)*8≤140737488355328:=by omega
       have hrow:=fun k hk=>(hO.lt k hk)
       go_wp2_with (at_builtin;(try rw [hwB]);refine wpList_append_lies _ (by rfl) _ _ _ (by rfl) w.heap.size 3 i0 _ 1 8 Tryz.underlying32 hi0 hz0 hz1 hz2 rfl (by omega) _ n (iv ys) (by rfl) hO3 ⟨w6.heap.size,0,none⟩ 1 1 [.int .i64 0] (by rfl) (by rfl) (World.news_of_block (cs:=#[.int .i64 0]) (t:=3) (fr:=(0,0)) hnew) (by simp [Value.oneCell']) (by omega) (by simp only [maxLen];omega) hbl hbB wB.heap.size rfl ?_)
       intro gb cap w9 hown4 hgrow hat hlt4
       have hB3:=hB.trans (b3.mono hB.size)
       have b9:=xQ8 hB3.size (fun k hk=>(hrow k hk).1) hgrow
       have hB9:=hB3.trans b9
       have hgb:w.heap.size≤gb:=by
        rcases hat with h | h
        ·exact (hrow _ h).1
        ·omega
       have hO9:w9.ownsRow w.heap.size 3 1 (.slice (some ⟨gb,0,none⟩) (n+1) cap) (n+1) (iv (shf ys n)):=by
        have e:=shf_top ys
        rw [HY.out.1] at e
        rw [e,iv_append]
        exact hown4
       clear hown4 hgrow hat hwB hnew b3 hO3 hB3 b9 hrow s3 hbB hbl
       have c9:=xQ0 hB9 hcx
       clear hO hB s4 c0
       obtain ⟨N1,hN1⟩:∃ N1,n+1=N1:=⟨_,rfl⟩
       rw [hN1] at hO9 ⊢
       have q0:(N1:Int) - 1=(n:Int):=by omega
       have q1:IntKind.i64.wrap (n:Int)=(n:Int):=Go.IntWalk.i64_in _ (by omega)
       have q2:(0:Int)≤(N1:Int):=by omega
       have q3:(N1:Int)≤2097153:=by omega
       have HN:=xQ1 hN1
       clear hN1
       go_wp2_with fail
       go_loopw [6] (fun vi wr=>∃ m:Nat,j≤m∧m≤n∧vi=.int .i64 m∧wr.ownsRow w.heap.size 3 1 (.slice (some ⟨gb,0,none⟩) N1 cap) N1 (iv (shf ys m))∧Below w.heap.size w wr) (fun vi _=>(intOf vi).toNat - j)
       case atStart=>exact ⟨n,hj,Nat.le_refl _,by first | rfl | rw [q0] | go_num,hO9,hB9⟩
       case round =>
        clear hO9 hB9 c9
        obtain ⟨m,hjm,hmn,rfl,hO,hB⟩:=hrel
        have c9:=xQ0 hB hcx
        by_cases hlt9:j < m
        ·obtain ⟨m9,hm9⟩:∃ m9,m=m9+1:=⟨m - 1,by omega⟩
         obtain ⟨z,hz⟩:∃ z,ys[m9]?=some z:=⟨ys[m9]'(by have:=HY.out.1;omega),List.getElem?_eq_getElem _⟩
         have hat:(shf ys m)[m9]?=some z:=by rw [hm9,shf_at (by have:=HY.out.1;omega)];exact hz
         have hc9:=hO.cellAt m9 (by have:=HN.out;omega)
         rw [iv_at hat] at hc9
         have hfz:=hO.frozenAt m
         have hst:=(hO.stored m (.int .i64 z)).1
         rw [iv_set,hm9,shf_step (by have:=HY.out.1;omega) hz,←hm9] at hst
         have hc8:∃ z8,(shf ys m)[m]?=some z8:=⟨_,List.getElem?_eq_getElem (by rw [shf_length (by have:=HY.out.1;omega)];have:=HY.out.1;omega)⟩
         obtain ⟨z8,hz8⟩:=hc8
         have hd9:=hO.cellAt m (by have:=HN.out;omega)
         rw [iv_at hz8] at hd9
         have m0:(m:Int) - 1=(m9:Int):=by omega
         have m1:(0:Int)≤(m9:Int):=by omega
         have m2:(m9:Int) < (N1:Int):=by have:=HN.out;omega
         have m3:(m:Int) < (N1:Int):=by have:=HN.out;omega
         have m4:(0:Int)≤(m:Int):=by omega
         have m5:IntKind.i64.wrap (m9:Int)=(m9:Int):=Go.IntWalk.i64_in _ (by omega)
         have m6:(j:Int) < (m:Int):=by omega
         have I1:=xQ1 (And.intro hst (bset (c:=gb) (o:=m) (u:=.int .i64 z) hB hgb))
         have HM:=xQ1 hm9
         clear hm9 hst hat hz hz8
         go_wp2
         go_roundw
         case rel=>exact ⟨m9,by have:=HM.out;omega,by have:=HM.out;omega,by first | rfl | rw [m0] | go_num,I1.out.1,I1.out.2⟩
         case measure=>have:=HM.out;simp [intOf];omega
        ·obtain rfl:m=j:=by omega
         have m6:¬ (m:Int) < (m:Int):=by omega
         have hc8:∃ z8,(shf ys m)[m]?=some z8:=⟨_,List.getElem?_eq_getElem (by rw [shf_length (by have:=HY.out.1;omega)];have:=HY.out.1;omega)⟩
         obtain ⟨z8,hz8⟩:=hc8
         have hd9:=hO.cellAt m (by have:=HN.out;omega)
         rw [iv_at hz8] at hd9
         have hfz:=hO.frozenAt m
         have hst:=(hO.stored m (.int .i64 x)).1
         rw [iv_set,shf_put (by have:=HY.out.1;omega)] at hst
         have m3:(m:Int) < (N1:Int):=by have:=HN.out;omega
         have m4:(0:Int)≤(m:Int):=by omega
         have hY9:=HY.out.2.1.put (x:=x) (j:=m) (by have:=HY.out.1;omega) hlo hhi
         rw [←HY.out.2.2.1] at hY9
         have hl9:(ys.take m ++ x :: ys.drop m).length=N1:=by have:=HY.out.1;have:=HN.out;simp only [List.length_append,List.length_take,List.length_cons,List.length_drop];omega
         have I1:=xQ1 (And.intro (show _ from (by rw [hl9];exact hst:((wr.setCell ⟨gb,m,none⟩ (.int .i64 x)).ownsRow w.heap.size 3 1 (.slice (some ⟨gb,0,none⟩) N1 cap) (ys.take m ++ x :: ys.drop m).length (iv (ys.take m ++ x :: ys.drop m))))) (And.intro (bset (c:=gb) (o:=m) (u:=.int .i64 x) hB hgb) hY9))
         clear hst hY9 hl9 hz8
         go_wp2
         go_roundw
         case rel=>exact ⟨k+1,by omega,by go_num,_,I1.out.1,I1.out.2.1,I1.out.2.2⟩
         case measure=>simp [intOf];omega
    ·have hhi:∀ z,ys[j]?=some z→x < z:=fun z hz=>by have h1:=(List.getElem?_eq_some_iff.1 hz).1;have:=HY.out.1;omega
     go_wp2_with fail
     have bD:Below wr.heap.size wr wr.drew:=(Below.refl _ _).drew
     replace hB:=hB.trans (bD.mono hB.size)
     refine wp_region_held_drew (S:=fun w'=>True) (by kernel_rfl) trivial (fun hHeld=>?_)
     generalize wr.drew=w5 at bD hB hHeld ⊢
     replace hO:=xQ6 hO bD
     replace c0:=xQ0 bD c0
     refine tk 0 (v:=?_) rfl (Or.inl ⟨by rfl,?_⟩) ?_
     rotate_left
     ·intro w9 hSw
      go_simp
      try with_reducible rfl
     simp only [pA]
     refine tk 1 (v:=?_) rfl (Or.inl ⟨by rfl,?_⟩) ?_
     rotate_left
     ·intro w9 hSw
      go_simp
      try with_reducible rfl
     simp only [pA]
     refine tk 2 (v:=?_) rfl (Or.inl ⟨by rfl,?_⟩) ?_
     rotate_left
     ·intro w9 hSw
      go_simp
      try with_reducible rfl
     simp only [pA]
     refine tk 3 (v:=?_) rfl (Or.inl ⟨by rfl,?_⟩) ?_
     rotate_left
     ·intro w9 hSw
      go_simp
      try with_reducible rfl
     simp only [pA]
     try simp only [hjn,decide_true,decide_false,gt_iff_lt,ge_iff_le]
     refine tk 4 (v:=?_) rfl (Or.inl ⟨by rfl,?_⟩) ?_
     rotate_left
     ·intro w9 hSw
      go_simp
      try with_reducible rfl
     simp only [pA]
     refine tk 5 (v:=undef) rfl (Or.inr ⟨by rfl,rfl⟩) ?_
     simp only [pA]
     refine tk 6 (v:=undef) rfl (Or.inr ⟨by rfl,rfl⟩) ?_
     simp only [pA]
     refine tk 7 (v:=undef) rfl (Or.inr ⟨by rfl,rfl⟩) ?_
     simp only [pA]
     refine tk 8 (v:=undef) rfl (Or.inr ⟨by rfl,rfl⟩) ?_
     simp only [pA]
     refine tk 9 (v:=undef) rfl (Or.inr ⟨by rfl,rfl⟩) ?_
     simp only [pA]
     refine tk 10 (v:=undef) rfl (Or.inr ⟨by rfl,rfl⟩) ?_
     simp only [pA]
     refine tk 11 (v:=undef) rfl (Or.inr ⟨by rfl,rfl⟩) ?_
     simp only [pA]
     refine tk 12 (v:=undef) rfl (Or.inr ⟨by rfl,rfl⟩) ?_
     simp only [pA]
     refine tk 13 (v:=undef) rfl (Or.inr ⟨by rfl,rfl⟩) ?_
     simp only [pA]
     refine tk 14 (v:=?_) rfl (Or.inl ⟨by rfl,?_⟩) ?_
     rotate_left
     ·intro w9 hSw
      go_simp
      try with_reducible rfl
     simp only [pA]
     refine wpAnyH_done (by kernel_rfl) ?_ _
     clear hHeld bD
     go_wp2_with fail
     have bD:Below w5.heap.size w5 w5.drew:=(Below.refl _ _).drew
     replace hB:=hB.trans (bD.mono hB.size)
     refine wp_region_held_drew (S:=fun w'=>True) (by kernel_rfl) trivial (fun hHeld=>?_)
     generalize w5.drew=w6 at bD hB hHeld ⊢
     replace hO:=xQ6 hO bD
     replace c0:=xQ0 bD c0
     refine tk 0 (v:=?_) rfl (Or.inl ⟨by rfl,?_⟩) ?_
     rotate_left
     ·intro w9 hSw
      go_simp
      try with_reducible rfl
     simp only [pA]
     refine tk 1 (v:=?_) rfl (Or.inl ⟨by rfl,?_⟩) ?_
     rotate_left
     ·intro w9 hSw
      go_simp
      try with_reducible rfl
     simp only [pA]
     refine tk 2 (v:=?_) rfl (Or.inl ⟨by rfl,?_⟩) ?_
     rotate_left
     ·intro w9 hSw
      go_simp
      try with_reducible rfl
     simp only [pA]
     refine tk 3 (v:=?_) rfl (Or.inl ⟨by rfl,?_⟩) ?_
     rotate_left
     ·intro w9 hSw
      go_simp
      try with_reducible rfl
     simp only [pA]
     try simp only [hjn,decide_true,decide_false,gt_iff_lt,ge_iff_le]
     refine tk 4 (v:=?_) rfl (Or.inl ⟨by rfl,?_⟩) ?_
     rotate_left
     ·intro w9 hSw
      go_simp
      try with_reducible rfl
     simp only [pA]
     refine tk 5 (v:=undef) rfl (Or.inr ⟨by rfl,rfl⟩) ?_
     simp only [pA]
     refine tk 6 (v:=undef) rfl (Or.inr ⟨by rfl,rfl⟩) ?_
     simp only [pA]
     refine tk 7 (v:=undef) rfl (Or.inr ⟨by rfl,rfl⟩) ?_
     simp only [pA]
     refine tk 8 (v:=undef) rfl (Or.inr ⟨by rfl,rfl⟩) ?_
     simp only [pA]
     refine tk 9 (v:=undef) rfl (Or.inr ⟨by rfl,rfl⟩) ?_
     simp only [pA]
     refine tk 10 (v:=undef) rfl (Or.inr ⟨by rfl,rfl⟩) ?_
     simp only [pA]
     refine tk 11 (v:=undef) rfl (Or.inr ⟨by rfl,rfl⟩) ?_
     simp only [pA]
     refine tk 12 (v:=undef) rfl (Or.inr ⟨by rfl,rfl⟩) ?_
     simp only [pA]
     refine tk 13 (v:=undef) rfl (Or.inr ⟨by rfl,rfl⟩) ?_
     simp only [pA]
     refine tk 14 (v:=?_) rfl (Or.inl ⟨by rfl,?_⟩) ?_
     rotate_left
     ·intro w9 hSw
      go_simp
      try with_reducible rfl
     simp only [pA]
     refine wpAnyH_done (by kernel_rfl) ?_ _
     clear hHeld bD
     clear hjn
     obtain ⟨wB,hwB⟩:∃ wB,w6.alloc (.cells #[.int .i64 0] 3)=wB:=⟨_,rfl⟩
     have hnew:=heap_alloc_new w6 (.cells #[.int .i64 0] 3)
     have b3:=xQ2 (w:=w6) (.cells #[.int .i64 0] 3)
     rw [hwB] at hnew b3
     have hO3:=xQ6 hO b3
     have s3:=b3.size
     have s4:=hB.size
     have hbB:w.heap.size≤wB.heap.size:=by omega
     have hbl:(n+1)*8≤140737488355328:=by omega
     have hrow:=fun k hk=>(hO.lt k hk)
     go_wp2_with (at_builtin;(try rw [hwB]);refine wpList_append_lies _ (by rfl) _ _ _ (by rfl) w.heap.size 3 i0 _ 1 8 Tryz.underlying32 hi0 hz0 hz1 hz2 rfl (by omega) _ n (iv ys) (by rfl) hO3 ⟨w6.heap.size,0,none⟩ 1 1 [.int .i64 0] (by rfl) (by rfl) (World.news_of_block (cs:=#[.int .i64 0]) (t:=3) (fr:=(0,0)) hnew) (by simp [Value.oneCell']) (by omega) (by simp only [maxLen];omega) hbl hbB wB.heap.size rfl ?_)
     intro gb cap w9 hown4 hgrow hat hlt4
     have hB3:=hB.trans (b3.mono hB.size)
     have b9:=xQ8 hB3.size (fun k hk=>(hrow k hk).1) hgrow
     have hB9:=hB3.trans b9
     have hgb:w.heap.size≤gb:=by
      rcases hat with h | h
      ·exact (hrow _ h).1
      ·omega
     have hO9:w9.ownsRow w.heap.size 3 1 (.slice (some ⟨gb,0,none⟩) (n+1) cap) (n+1) (iv (shf ys n)):=by
      have e:=shf_top ys
      rw [HY.out.1] at e
      rw [e,iv_append]
      exact hown4
     clear hown4 hgrow hat hwB hnew b3 hO3 hB3 b9 hrow s3 hbB hbl
     have c9:=xQ0 hB9 hcx
     clear hO hB s4 c0
     obtain ⟨N1,hN1⟩:∃ N1,n+1=N1:=⟨_,rfl⟩
     rw [hN1] at hO9 ⊢
     have q0:(N1:Int) - 1=(n:Int):=by omega
     have q1:IntKind.i64.wrap (n:Int)=(n:Int):=Go.IntWalk.i64_in _ (by omega)
     have q2:(0:Int)≤(N1:Int):=by omega
     have q3:(N1:Int)≤2097153:=by omega
     have HN:=xQ1 hN1
     clear hN1
     go_wp2_with fail
     go_loopw [6] (fun vi wr=>∃ m:Nat,j≤m∧m≤n∧vi=.int .i64 m∧wr.ownsRow w.heap.size 3 1 (.slice (some ⟨gb,0,none⟩) N1 cap) N1 (iv (shf ys m))∧Below w.heap.size w wr) (fun vi _=>(intOf vi).toNat - j)
     case atStart=>exact ⟨n,hj,Nat.le_refl _,by first | rfl | rw [q0] | go_num,hO9,hB9⟩
     case round =>
      clear hO9 hB9 c9
      obtain ⟨m,hjm,hmn,rfl,hO,hB⟩:=hrel
      have c9:=xQ0 hB hcx
      by_cases hlt9:j < m
      ·obtain ⟨m9,hm9⟩:∃ m9,m=m9+1:=⟨m - 1,by omega⟩
       obtain ⟨z,hz⟩:∃ z,ys[m9]?=some z:=⟨ys[m9]'(by have:=HY.out.1;omega),List.getElem?_eq_getElem _⟩
       have hat:(shf ys m)[m9]?=some z:=by rw [hm9,shf_at (by have:=HY.out.1;omega)];exact hz
       have hc9:=hO.cellAt m9 (by have:=HN.out;omega)
       rw [iv_at hat] at hc9
       have hfz:=hO.frozenAt m
       have hst:=(hO.stored m (.int .i64 z)).1
       rw [iv_set,hm9,shf_step (by have:=HY.out.1;omega) hz,←hm9] at hst
       have hc8:∃ z8,(shf ys m)[m]?=some z8:=⟨_,List.getElem?_eq_getElem (by rw [shf_length (by have:=HY.out.1;omega)];have:=HY.out.1;omega)⟩
       obtain ⟨z8,hz8⟩:=hc8
       have hd9:=hO.cellAt m (by have:=HN.out;omega)
       rw [iv_at hz8] at hd9
       have m0:(m:Int) - 1=(m9:Int):=by omega
       have m1:(0:Int)≤(m9:Int):=by omega
       have m2:(m9:Int) < (N1:Int):=by have:=HN.out;omega
       have m3:(m:Int) < (N1:Int):=by have:=HN.out;omega
       have m4:(0:Int)≤(m:Int):=by omega
       have m5:IntKind.i64.wrap (m9:Int)=(m9:Int):=Go.IntWalk.i64_in _ (by omega)
       have m6:(j:Int) < (m:Int):=by omega
       have I1:=xQ1 (And.intro hst (bset (c:=gb) (o:=m) (u:=.int .i64 z) hB hgb))
       have HM:=xQ1 hm9
       clear hm9 hst hat hz hz8
       go_wp2
       go_roundw
       case rel=>exact ⟨m9,by have:=HM.out;omega,by have:=HM.out;omega,by first | rfl | rw [m0] | go_num,I1.out.1,I1.out.2⟩
       case measure=>have:=HM.out;simp [intOf];omega
      ·obtain rfl:m=j:=by omega
       have m6:¬ (m:Int) < (m:Int):=by omega
       have hc8:∃ z8,(shf ys m)[m]?=some z8:=⟨_,List.getElem?_eq_getElem (by rw [shf_length (by have:=HY.out.1;omega)];have:=HY.out.1;omega)⟩
       obtain ⟨z8,hz8⟩:=hc8
       have hd9:=hO.cellAt m (by have:=HN.out;omega)
       rw [iv_at hz8] at hd9
       have hfz:=hO.frozenAt m
       have hst:=(hO.stored m (.int .i64 x)).1
       rw [iv_set,shf_put (by have:=HY.out.1;omega)] at hst
       have m3:(m:Int) < (N1:Int):=by have:=HN.out;omega
       have m4:(0:Int)≤(m:Int):=by omega
       have hY9:=HY.out.2.1.put (x:=x) (j:=m) (by have:=HY.out.1;omega) hlo hhi
       rw [←HY.out.2.2.1] at hY9
       have hl9:(ys.take m ++ x :: ys.drop m).length=N1:=by have:=HY.out.1;have:=HN.out;simp only [List.length_append,List.length_take,List.length_cons,List.length_drop];omega
       have I1:=xQ1 (And.intro (show _ from (by rw [hl9];exact hst:((wr.setCell ⟨gb,m,none⟩ (.int .i64 x)).ownsRow w.heap.size 3 1 (.slice (some ⟨gb,0,none⟩) N1 cap) (ys.take m ++ x :: ys.drop m).length (iv (ys.take m ++ x :: ys.drop m))))) (And.intro (bset (c:=gb) (o:=m) (u:=.int .i64 x) hB hgb) hY9))
       clear hst hY9 hl9 hz8
       go_wp2
       go_roundw
       case rel=>exact ⟨k+1,by omega,by go_num,_,I1.out.1,I1.out.2.1,I1.out.2.2⟩
       case measure=>simp [intOf];omega
  ·obtain rfl:k=zs.length:=by omega
   have i1:¬ (zs.length:Int) < (zs.length:Int):=by omega
   go_wp2
   go_ret
   exact ⟨u3,rfl,ys,hO,hB,hY⟩
def vs (L:List Mo):List Int:=L.map (·.1)
theorem vs_length (L:List Mo):(vs L).length=L.length:=List.length_map _
theorem own_mono {w:World} {base base':Nat} {e:TypeId} {size:Nat} {v:Value} {n:Nat} {xs:List Value} (h:w.ownsRow base e size v n xs) (hb:base'≤base):w.ownsRow base' e size v n xs:=by
 refine ⟨h.1,?_⟩
 rcases h.2 with h0 | ⟨g,cap,cur,hv,hg,rest⟩
 ·exact Or.inl h0
 ·exact Or.inr ⟨g,cap,cur,hv,Nat.le_trans hb hg,rest⟩
theorem SAns.from {w W:World} {zs:List Int} {e:Ending} {w':World} (h:SAns W zs e w') (hB:Below w.heap.size w W):SAns w zs e w':=by
 obtain ⟨vo,he,ys,hO,hb,hY⟩:=h
 exact ⟨vo,he,ys,own_mono hO hB.size,hB.trans (hb.mono hB.size),hY⟩
def LInv (w:World) (zs:List Int) (vo:Value) (wr:World):Prop:=wr.ownsRow w.heap.size 3 1 vo zs.length (iv zs)∧Below w.heap.size w wr
set_option maxHeartbeats 8000000 in
set_option maxRecDepth 100000 in
theorem vall_is (a:Option Addr) (ca:Nat) (L:List Mo) (b:Option Addr) (cb:Nat) (M:List Mo) (w:World) (hF:FAt w a L) (hG:FAt w b M) (hca:L.length≤ca) (hcb:M.length≤cb) (hm:L.length+M.length≤2097152) :
  Calls Tryz.prog 38 #[.slice a L.length ca,.slice b M.length cb] w (SAns w (vs L ++ vs M)):=by
 obtain ⟨i0,hi0,hz0,hz1,hz2⟩:=info_parts info_int
 obtain ⟨ZZ,hZZ⟩:∃ ZZ,vs L ++ vs M=ZZ:=⟨_,rfl⟩
 rw [hZZ]
 replace hZZ:=xQ1 hZZ
 go_enter Tryz.func38,Tryz.ntmps38
 go_wp2_with fail
 go_loopw [5,6] (fun vo vi wr=>∃ k:Nat,k≤L.length∧vi=.int .i64 k∧LInv w (vs (L.take k)) vo wr) (fun _ vi _=>L.length - (intOf vi).toNat)
 case atStart=>exact ⟨0,Nat.zero_le _,rfl,World.ownsRow_nil _ _ _ _,Below.refl _ _⟩
 case round =>
  obtain ⟨k,hk,rfl,hO,hB⟩:=hrel
  by_cases hlt:k < L.length
  ·skip
   obtain ⟨p,hp⟩:∃ p,L[k]?=some p:=⟨L[k],List.getElem?_eq_getElem hlt⟩
   obtain ⟨bb,off,rfl,hb,hcell⟩:=hF (by intro e;rw [e] at hlt;simp at hlt)
   obtain ⟨c0,_,_,_⟩:=hcell k p hp
   replace c0:=xQ0 hB c0
   obtain ⟨t1,t2⟩:=xJ6 hp
   have hv:vs (L.take (k+1))=vs (L.take k) ++ [p.1]:=by rw [t1];unfold vs;rw [List.map_append];rfl
   obtain ⟨x,q⟩:=p
   simp only at c0 hv
   clear t1 t2 hp hcell
   have i1:(0:Int)≤(k:Int):=by omega
   have i2:(k:Int) < (L.length:Int):=by omega
   obtain ⟨zs,hzs⟩:∃ zs,vs (L.take k)=zs:=⟨_,rfl⟩
   rw [hzs] at hO
   have hzl:zs.length≤2097152:=by rw [←hzs];rw [vs_length,List.length_take];omega
   obtain ⟨wB,hwB⟩:∃ wB,wr.alloc (.cells #[.int .i64 x] 3)=wB:=⟨_,rfl⟩
   have hnew:=heap_alloc_new wr (.cells #[.int .i64 x] 3)
   have b3:=xQ2 (w:=wr) (.cells #[.int .i64 x] 3)
   rw [hwB] at hnew b3
   have hO3:=xQ6 hO b3
   have s3:=b3.size
   have s4:=hB.size
   have hbB:w.heap.size≤wB.heap.size:=by omega
   have hbl:(zs.length+1)*8≤140737488355328:=by omega
   have hrow:=fun k hk=>(hO.lt k hk)
   go_wp2_with (at_builtin;(try rw [hwB]);refine wpList_append_lies _ (by rfl) _ _ _ (by rfl) w.heap.size 3 i0 _ 1 8 Tryz.underlying32 hi0 hz0 hz1 hz2 rfl (by omega) u5 zs.length (iv zs) (by rfl) hO3 ⟨wr.heap.size,0,none⟩ 1 1 [.int .i64 x] (by rfl) (by rfl) (World.news_of_block (cs:=#[.int .i64 x]) (t:=3) (fr:=(0,0)) hnew) (by simp [Value.oneCell']) (by omega) (by simp only [maxLen];omega) hbl hbB wB.heap.size rfl ?_)
   intro gb cap w9 hown4 hgrow hat hlt4
   have hB3:=hB.trans (b3.mono hB.size)
   have b9:=xQ8 hB3.size (fun k hk=>(hrow k hk).1) hgrow
   have I1:LInv w (zs ++ [x]) (.slice (some ⟨gb,0,none⟩) (zs.length+1) cap) w9:=⟨by rw [List.length_append,iv_append];exact hown4,hB3.trans b9⟩
   replace I1:=xQ1 I1
   replace hzs:=xQ1 hzs
   clear hown4 hgrow hat hwB hnew b3 hO3 hB3 b9 hrow s3 hbB hbl hO hB
   go_wp2
   go_roundw
   case rel=>exact ⟨k+1,by omega,by go_num,by rw [hv,hzs.out];exact I1.out⟩
   case measure=>simp [intOf];omega
  ·obtain rfl:k=L.length:=by omega
   have i1:¬ (L.length:Int) < (L.length:Int):=by omega
   rw [List.take_length] at hO
   go_wp2_with fail
   go_loopw [5,7] (fun vo vi wr=>∃ k:Nat,k≤M.length∧vi=.int .i64 k∧LInv w (vs L ++ vs (M.take k)) vo wr) (fun _ vi _=>M.length - (intOf vi).toNat)
   case atStart=>exact ⟨0,Nat.zero_le _,rfl,by show LInv w (vs L ++ []) _ _;rw [List.append_nil];exact ⟨hO,hB⟩⟩
   case round =>
    clear hO hB hk hlt i1
    obtain ⟨k,hk,rfl,hO,hB⟩:=hrel
    by_cases hlt:k < M.length
    ·skip
     obtain ⟨p,hp⟩:∃ p,M[k]?=some p:=⟨M[k],List.getElem?_eq_getElem hlt⟩
     obtain ⟨bb,off,rfl,hb,hcell⟩:=hG (by intro e;rw [e] at hlt;simp at hlt)
     obtain ⟨c0,_,_,_⟩:=hcell k p hp
     replace c0:=xQ0 hB c0
     obtain ⟨t1,t2⟩:=xJ6 hp
     have hv:vs (M.take (k+1))=vs (M.take k) ++ [p.1]:=by rw [t1];unfold vs;rw [List.map_append];rfl
     obtain ⟨x,q⟩:=p
     simp only at c0 hv
     clear t1 t2 hp hcell
     have i1:(0:Int)≤(k:Int):=by omega
     have i2:(k:Int) < (M.length:Int):=by omega
     obtain ⟨zs,hzs⟩:∃ zs,vs L ++ vs (M.take k)=zs:=⟨_,rfl⟩
     rw [hzs] at hO
     have hzl:zs.length≤2097152:=by rw [←hzs];rw [List.length_append,vs_length,vs_length,List.length_take];omega
     obtain ⟨wB,hwB⟩:∃ wB,wr.alloc (.cells #[.int .i64 x] 3)=wB:=⟨_,rfl⟩
     have hnew:=heap_alloc_new wr (.cells #[.int .i64 x] 3)
     have b3:=xQ2 (w:=wr) (.cells #[.int .i64 x] 3)
     rw [hwB] at hnew b3
     have hO3:=xQ6 hO b3
     have s3:=b3.size
     have s4:=hB.size
     have hbB:w.heap.size≤wB.heap.size:=by omega
     have hbl:(zs.length+1)*8≤140737488355328:=by omega
     have hrow:=fun k hk=>(hO.lt k hk)
     go_wp2_with (at_builtin;(try rw [hwB]);refine wpList_append_lies _ (by rfl) _ _ _ (by rfl) w.heap.size 3 i0 _ 1 8 Tryz.underlying32 hi0 hz0 hz1 hz2 rfl (by omega) u5 zs.length (iv zs) (by rfl) hO3 ⟨wr.heap.size,0,none⟩ 1 1 [.int .i64 x] (by rfl) (by rfl) (World.news_of_block (cs:=#[.int .i64 x]) (t:=3) (fr:=(0,0)) hnew) (by simp [Value.oneCell']) (by omega) (by simp only [maxLen];omega) hbl hbB wB.heap.size rfl ?_)
     intro gb cap w9 hown4 hgrow hat hlt4
     have hB3:=hB.trans (b3.mono hB.size)
     have b9:=xQ8 hB3.size (fun k hk=>(hrow k hk).1) hgrow
     have I1:LInv w (zs ++ [x]) (.slice (some ⟨gb,0,none⟩) (zs.length+1) cap) w9:=⟨by rw [List.length_append,iv_append];exact hown4,hB3.trans b9⟩
     replace I1:=xQ1 I1
     replace hzs:=xQ1 hzs
     clear hown4 hgrow hat hwB hnew b3 hO3 hB3 b9 hrow s3 hbB hbl hO hB
     go_wp2
     go_roundw
     case rel=>exact ⟨k+1,by omega,by go_num,by rw [hv,←List.append_assoc,hzs.out];exact I1.out⟩
     case measure=>simp [intOf];omega
    ·obtain rfl:k=M.length:=by omega
     have i1:¬ (M.length:Int) < (M.length:Int):=by omega
     rw [List.take_length,hZZ.out] at hO
     have hl:ZZ.length≤2097152:=by rw [←hZZ.out,List.length_append,vs_length,vs_length];omega
     obtain ⟨ai,ci,rfl,hci,hI⟩:=own_ints hO
     have G:=xQ1 (vsorted_is ai ci ZZ wr hI hci hl)
     clear hI hO
     go_wp2_with fail
     refine G.out.mono ?_
     rintro e w9 h9
     have h8:=h9.from hB
     obtain ⟨vo,rfl,h7⟩:=h8
     clear h9
     go_wp2
     go_ret
     exact ⟨vo,rfl,h7⟩
def cl (l:Fo):List Int→Fo
 | []=>[]
 | x :: ys=>(if co x l=0 then [] else [(x,co x l)]) ++ cl l ys
theorem cl_append (l:Fo):∀ (ys zs:List Int),cl l (ys ++ zs)=cl l ys ++ cl l zs
 | [],zs=>rfl
 | y :: ys,zs=>by simp only [List.cons_append,cl,cl_append l ys zs,List.append_assoc]
theorem cl_mem (l:Fo):∀ (ys:List Int) (p:Int × Rat),p∈cl l ys→p.1∈ys∧p.2≠0
 | [],p,h=>by simp [cl] at h
 | y :: ys,p,h=>by
  simp only [cl,List.mem_append] at h
  rcases h with h | h
  ·split at h
   ·simp at h
   ·rename_i hne
    rw [List.mem_singleton] at h
    subst h
    exact ⟨List.mem_cons_self,hne⟩
  ·have:=cl_mem l ys p h
   exact ⟨List.mem_cons_of_mem _ this.1,this.2⟩
theorem cl_nrm (l:Fo):∀ (ys:List Int),ys.Pairwise (· < ·)→nrm (cl l ys)
 | [],_=>nrm.nil
 | y :: ys,h=>by
  have h1:=(List.pairwise_cons.1 h).1
  have h2:=cl_nrm l ys (List.pairwise_cons.1 h).2
  simp only [cl]
  split
  ·exact h2
  ·rename_i hne
   exact h2.cons (fun q hq=>h1 q.1 (cl_mem l ys q hq).1) hne
theorem cl_co (l:Fo) (x:Int):∀ (ys:List Int),ys.Pairwise (· < ·)→co x (cl l ys)=if x∈ys then co x l else 0
 | [],_=>by simp [cl,co]
 | y :: ys,h=>by
  have h1:=(List.pairwise_cons.1 h).1
  have h2:=cl_co l x ys (List.pairwise_cons.1 h).2
  simp only [cl]
  rw [co_append,h2]
  by_cases hx:x=y
  ·subst hx
   have hn:x ∉ ys:=fun hm=>by have:=h1 x hm;omega
   rw [if_neg hn,if_pos List.mem_cons_self,Rat.add_zero]
   split
   ·rename_i h0;rw [h0];rfl
   ·simp only [co,if_true];exact Rat.add_zero _
  ·have e0:co x (if co y l=0 then [] else [(y,co y l)])=0:=by
    split
    ·rfl
    ·simp only [co]
     rw [if_neg (fun h=>hx h.symm)]
     exact Rat.add_zero _
   rw [e0,Rat.zero_add]
   simp only [List.mem_cons,hx,false_or]
theorem co_none {x:Int} {L:List Mo} (h:x ∉ vs L):co x (fo L)=0:=co_zero fun p hp=>by
 obtain ⟨q,hq,rfl⟩:=List.mem_map.1 hp
 intro e
 exact h (List.mem_map.2 ⟨q,hq,e⟩)
theorem cl_all {L:List Mo} {ys:List Int} (h:Srt ys (vs L ++ vs [])):cl (fo L) ys=nfm (fo L):=by
 refine nfm_uniq (cl_nrm _ _ h.up) fun x=>?_
 rw [cl_co _ _ _ h.up]
 split
 ·rfl
 ·rename_i hn
  refine (co_none fun hm=>hn ?_).symm
  rw [h.mem]
  exact List.mem_append_left _ hm
def NInv (w:World) (l:Fo) (ys:List Int) (k:Nat) (vo:Value) (wr:World):Prop :=
 ∃ R:List Mo,R.length≤k∧wr.ownsRow w.heap.size 57 4 vo R.length (xZ0 R)∧Below w.heap.size w wr∧(∀ p∈R,Grw vo wr p)∧fo R=cl l (ys.take k)
theorem NInv.later {w:World} {l:Fo} {ys:List Int} {k:Nat} {vo:Value} {wr w':World} (h:NInv w l ys k vo wr) (hb:Below wr.heap.size wr w'):NInv w l ys k vo w':=by
 obtain ⟨R,h1,h2,h3,h4,h5⟩:=h
 exact ⟨R,h1,xQ6 h2 hb,h3.trans (hb.mono h3.size),fun p hp=>(h4 p hp).later hb,h5⟩
set_option maxHeartbeats 8000000 in
set_option maxRecDepth 100000 in
theorem vlNormF_is (a:Option Addr) (ca:Nat) (L:List Mo) (w:World) (hF:FAt w a L) (hok:∀ p∈L,p.2.ok w∧p.2.n≤1099511627776∧p.2.m≤1099511627776) (hc:L.length≤ca) (hm:L.length≤1048576) (hw:∀ k x,sz 1099511627776 (co x (fo (L.take k)))) :
  Calls Tryz.prog 22 #[.slice a L.length ca] w (FAns w (nfm (fo L))):=by
 obtain ⟨i0,hi0,hz0,hz1,hz2⟩:=info_parts info_Mono
 obtain ⟨TT,hTT⟩:∃ TT,nfm (fo L)=TT:=⟨_,rfl⟩
 rw [hTT]
 replace hTT:=xQ1 hTT
 have GA:=xQ1 (vall_is a ca L none 0 [] w hF (FAt.nil _ _) hc (Nat.le_refl _) (by simp only [List.length_nil];omega))
 have GC:=xQ1 (fun w' x (hb:Below w.heap.size w w')=>vlCoefF_is a ca L x w' (hF.later hb) (fun p hp=>⟨(hok p hp).1.later hb,(hok p hp).2⟩) hc hm (fun k=>hw k x))
 clear hF hok hc
 rw [show ([]:List Mo).length=0 from rfl] at GA
 go_enter Tryz.func22,Tryz.ntmps22
 go_wp2_with fail
 refine GA.out.mono ?_
 rintro e w2 ⟨vi,rfl,ys,hOI,hB2,hY⟩
 clear GA
 obtain ⟨ai,ci,rfl,hci,hI⟩:=own_ints hOI
 rw [List.take_length] at hY
 have HC:=xQ1 (cl_all hY)
 have hyl:ys.length≤1048576:=by have:=hY.len;rw [List.length_append,vs_length] at this;simp only [vs,List.map_nil,List.length_nil] at this;omega
 clear hY hOI
 obtain ⟨l,hl⟩:∃ l,fo L=l:=⟨_,rfl⟩
 have HS:=xQ1 (fun x=>show sz 1099511627776 (co x l) by have h:=hw L.length x;rw [List.take_length,hl] at h;exact h)
 rw [hl] at GC HC hTT
 clear hl hw
 go_wp2_with fail
 go_loopw [3,5] (fun vo vi wr=>∃ k:Nat,k≤ys.length∧vi=.int .i64 k∧NInv w2 l ys k vo wr) (fun _ vi _=>ys.length - (intOf vi).toNat)
 case atStart=>exact ⟨0,Nat.zero_le _,rfl,[],Nat.le_refl _,World.ownsRow_nil _ _ _ _,Below.refl _ _,fun p hp=>by simp at hp,rfl⟩
 case round =>
  obtain ⟨k,hk,rfl,hN⟩:=hrel
  by_cases hlt:k < ys.length
  ·obtain ⟨x,hx⟩:∃ x,ys[k]?=some x:=⟨ys[k],List.getElem?_eq_getElem hlt⟩
   obtain ⟨bb,off,rfl,hb,hcell⟩:=hI (by intro e;rw [e] at hlt;simp at hlt)
   have hBk:Below w2.heap.size w2 wr:=by obtain ⟨R,_,_,h,_⟩:=hN;exact h
   have c0:=xQ0 hBk (hcell k x hx)
   obtain ⟨t1,t2⟩:=xJ6 hx
   clear t2 hx hcell
   obtain ⟨s,hs⟩:∃ s,co x l=s:=⟨_,rfl⟩
   have G1:=xQ1 (GC.out wr x (hB2.trans (hBk.mono hB2.size)))
   have hsz:=HS.out x
   rw [hs] at G1 hsz
   have hfo:cl l (ys.take (k+1))=cl l (ys.take k) ++ (if s=0 then [] else [(x,s)]):=by rw [t1,cl_append];simp only [cl];rw [hs,List.append_nil]
   clear t1 hs
   have G2:=fun w' p q k1 k2=>vqSign_is (ng s.num) p (ln (am s.num)) (ln (am s.num)) (am s.num) q (ln s.den) (ln s.den) s.den (sgn s.num) w' (Nat.le_refl _) (Nat.le_trans hsz.1 (by omega)) k1 (Nat.le_refl _) (Nat.le_trans hsz.2 (by omega)) k2 (by rw [rn_nf s.den_pos])
   have i1:(0:Int)≤(k:Int):=by omega
   have i2:(k:Int) < (ys.length:Int):=by omega
   go_wp2_with fail
   refine G1.out.mono ?_
   rintro e w3 ⟨p,q,rfl,b3,g1,g2,f1,f2⟩
   go_wp2_with fail
   obtain ⟨wA,hwA⟩:∃ wA,w3.alloc (.cells #[.bool (ng s.num),.slice p (ln (am s.num)) (ln (am s.num)),.slice q (ln s.den) (ln s.den)] 55)=wA:=⟨_,rfl⟩
   have bA:Below w3.heap.size w3 wA:=by subst hwA;exact xQ2 _
   have a0:wA.cell? ⟨w3.heap.size,0,none⟩=some (.bool (ng s.num)):=by subst hwA;go_simp
   have a1:wA.cell? ⟨w3.heap.size,1,none⟩=some (.slice p (ln (am s.num)) (ln (am s.num))):=by subst hwA;go_simp
   have a2:wA.cell? ⟨w3.heap.size,2,none⟩=some (.slice q (ln s.den) (ln s.den)):=by subst hwA;go_simp
   rw [hwA]
   clear hwA
   replace g1:=g1.later bA
   replace g2:=g2.later bA
   have bT:=b3.trans (bA.mono b3.size)
   have hs3:=b3.size
   replace c0:=xQ0 bT c0
   have hN3:=hN.later bT
   have hN0:=xQ1 hN
   clear hN b3 bA G1
   by_cases h0:s=0
   ·skip
    have hC0:sgn s.num=0:=(sgn_num s).2 h0
    rw [hC0] at G2
    rw [if_pos h0,List.append_nil] at hfo
    replace G2:=xQ1 G2
    clear h0
    refine (G2.out _ p q g1 g2).mono ?_
    rintro e w4 ⟨rfl,b4⟩
    replace a0:=xQ0 b4 a0
    replace a1:=xQ0 b4 a1
    replace a2:=xQ0 b4 a2
    replace c0:=xQ0 b4 c0
    replace g1:=g1.later b4
    replace g2:=g2.later b4
    replace hN3:=hN3.later b4
    replace bT:=bT.trans (b4.mono bT.size)
    clear b4 G2
    have I1:=xQ1 (show NInv w2 l ys (k+1) u3 w4 from by obtain ⟨R,h1,h2,h3,h4,h5⟩:=hN3;exact ⟨R,by omega,h2,h3,h4,by rw [h5,hfo]⟩)
    clear hN3
    go_wp2
    go_roundw
    case rel=>exact ⟨k+1,by omega,by go_num,I1.out⟩
    case measure=>simp [intOf];omega
   ·skip
    have hC0:¬ sgn s.num=0:=fun h=>h0 ((sgn_num s).1 h)
    obtain ⟨C,hC⟩:∃ C,sgn s.num=C:=⟨_,rfl⟩
    rw [hC] at G2 hC0
    rw [if_neg h0] at hfo
    have hCb:(C == 0)=false:=by simp [hC0]
    clear hC
    replace G2:=xQ1 G2
    clear h0
    refine (G2.out _ p q g1 g2).mono ?_
    rintro e w4 ⟨rfl,b4⟩
    replace a0:=xQ0 b4 a0
    replace a1:=xQ0 b4 a1
    replace a2:=xQ0 b4 a2
    replace c0:=xQ0 b4 c0
    replace g1:=g1.later b4
    replace g2:=g2.later b4
    replace hN3:=hN3.later b4
    replace bT:=bT.trans (b4.mono bT.size)
    clear b4 G2
    obtain ⟨R,hRl,hO,hB,hR,hfR⟩:=hN3
    have hrow:=fun k hk=>(hO.lt k hk)
    have hrow0:∀ b,u3.ownBlock=some b→b < wr.heap.size:=fun b e=>by obtain ⟨R0,_,hO0,_⟩:=hN0.out;exact (hO0.lt b e).2
    have gN:Grw u3 w4 (x,RatV.of s.num s.den p q):=⟨⟨g1,Nat.le_refl _,Nat.le_trans hsz.1 (by omega),g2,Nat.le_refl _,Nat.le_trans hsz.2 (by omega)⟩,ofR_low s p q,fun b e=>⟨fun hn ad e2 h=>by have h1:=f1 hn ad e2;have h2:=hrow0 b e;omega,fun hn ad e2 h=>by have h1:=f2 hn ad e2;have h2:=hrow0 b e;omega⟩⟩
    have hs4:w3.heap.size < w4.heap.size:=World.block_lt_of_cell? w4 ⟨w3.heap.size,0,none⟩ a0
    have hso:∀ b,u3.ownBlock=some b→b < w3.heap.size:=fun b e=>by have:=hrow0 b e;omega
    clear g1 g2 f1 f2 hN0 bT
    go_wp2_with fail
    have bD:Below w4.heap.size w4 w4.drew:=(Below.refl _ _).drew
    have kc0:=xQ0 bD c0
    have ka0:=xQ0 bD a0
    have ka1:=xQ0 bD a1
    have ka2:=xQ0 bD a2
    refine wp_region_held_drew (S:=fun w'=>w'.cell? ⟨bb,off+k,none⟩=some (.int .i64 x)∧w'.cell? ⟨w3.heap.size,0,none⟩=some (.bool (ng s.num))∧w'.cell? ⟨w3.heap.size,1,none⟩=some (.slice p (ln (am s.num)) (ln (am s.num)))∧w'.cell? ⟨w3.heap.size,2,none⟩=some (.slice q (ln s.den) (ln s.den))) (by kernel_rfl) ⟨kc0,ka0,ka1,ka2⟩ (fun hHeld=>?_)
    clear kc0 ka0 ka1 ka2
    generalize w4.drew=w0 at bD hHeld ⊢
    clear c0 a0 a1 a2
    refine tk 0 (v:=?_) rfl (Or.inl ⟨by rfl,?_⟩) ?_
    rotate_left
    ·intro w9 hSw
     go_simp
     try with_reducible rfl
    simp only [pA]
    refine tk 1 (v:=?_) rfl (Or.inl ⟨by rfl,?_⟩) ?_
    rotate_left
    ·intro w9 hSw
     go_simp
     try with_reducible rfl
    simp only [pA]
    refine tk 2 (v:=?_) rfl (Or.inl ⟨by rfl,?_⟩) ?_
    rotate_left
    ·intro w9 hSw
     go_simp
     try with_reducible rfl
    simp only [pA]
    refine tk 3 (v:=?_) rfl (Or.inl ⟨by rfl,?_⟩) ?_
    rotate_left
    ·intro w9 hSw
     go_simp
     try with_reducible rfl
    simp only [pA]
    refine tk 4 (v:=?_) rfl (Or.inl ⟨by rfl,?_⟩) ?_
    rotate_left
    ·intro w9 hSw
     go_simp
     try with_reducible rfl
    simp only [pA]
    refine tk 5 (v:=?_) rfl (Or.inl ⟨by rfl,?_⟩) ?_
    rotate_left
    ·intro w9 hSw
     go_simp
     try with_reducible rfl
    simp only [pA]
    refine tk 6 (v:=?_) rfl (Or.inl ⟨by rfl,?_⟩) ?_
    rotate_left
    ·intro w9 hSw
     go_simp
     try with_reducible rfl
    simp only [pA]
    refine wpAnyH_ready (rs:=[7]) (by kernel_rfl) (by simp) ?_
    refine xX0 rfl (fun KK hKK=>?_)
    go_simp
    have hnew:=heap_alloc_new w0 (.cells #[.int .i64 x,.bool (ng s.num),.slice p (ln (am s.num)) (ln (am s.num)),.slice q (ln s.den) (ln s.den)] 57)
    have b3:=xQ2 (w:=w0) (.cells #[.int .i64 x,.bool (ng s.num),.slice p (ln (am s.num)) (ln (am s.num)),.slice q (ln s.den) (ln s.den)] 57)
    generalize w0.alloc (.cells #[.int .i64 x,.bool (ng s.num),.slice p (ln (am s.num)) (ln (am s.num)),.slice q (ln s.den) (ln s.den)] 57)=w8 at hnew b3 ⊢
    replace hHeld:=(⟨xQ0 b3 hHeld.1,xQ0 b3 hHeld.2.1,xQ0 b3 hHeld.2.2.1,xQ0 b3 hHeld.2.2.2⟩:_∧_∧_∧_)
    refine hKK.out _ _ hHeld ?_
    clear hHeld
    intro hHeld
    clear hKK KK
    try simp only [pA]
    have bT:=bD.trans (b3.mono bD.size)
    have hO3:=xQ6 hO bT
    have s3:=b3.size
    have s4:=bD.size
    have s5:=hB.size
    refine wpAnyH_ready (rs:=[8]) (by kernel_rfl) (by simp) ?_
    refine xX0 rfl (fun KK hKK=>?_)
    refine step_append_lies _ (by rfl) _ _ _ (by rfl) w2.heap.size 57 i0 _ 4 64 Tryz.underlying26 hi0 hz0 hz1 hz2 rfl (by omega) u3 R.length (xZ0 R) (by rfl) hO3
     ⟨w0.heap.size,0,none⟩ 1 1 (cells4 (x,RatV.of s.num s.den p q)) (by rfl) (by rfl) (World.news_of_block (cs:=#[.int .i64 x,.bool (ng s.num),.slice p (ln (am s.num)) (ln (am s.num)),.slice q (ln s.den) (ln s.den)]) (t:=57) (fr:=(0,0)) hnew) (cells4_one _)
     (by omega) (by simp only [maxLen];omega) (by omega) (by omega) w8.heap.size rfl ?_
    intro gb cap w9 hown4 hgrow hat hlt4
    have far:∀ {c o:Nat} {u:Value},(c < w2.heap.size∨c=w3.heap.size)→w8.cell? ⟨c,o,none⟩=some u→w9.cell? ⟨c,o,none⟩=some u:=fun hc hu=>hgrow.cell hu (fun e=>by have h1:=hrow _ e.symm;have h2:=hso _ e.symm;simp only at h1 h2;omega)
    refine hKK.out _ _ ⟨far (Or.inl hb) hHeld.1,far (Or.inr rfl) hHeld.2.1,far (Or.inr rfl) hHeld.2.2.1,far (Or.inr rfl) hHeld.2.2.2⟩ ?_
    clear hHeld
    intro hHeld
    clear hKK KK
    try simp only [pA]
    have hBT:=hB.trans (bT.mono hB.size)
    have I1:=xQ1 (show NInv w2 l ys (k+1) (.slice (some ⟨gb,0,none⟩) (R.length+1) cap) w9 from ⟨R ++ [(x,RatV.of s.num s.den p q)],by rw [List.length_append];simp only [List.length_cons,List.length_nil];omega,own_push hown4,hBT.trans (xQ8 hBT.size (fun k hk=>(hrow k hk).1) hgrow),grw_push (fun q hq=>(hR q hq).later bT) (gN.later bT) (j:=R.length+1) (cap:=cap) hgrow hat,by rw [xZ1,hfR,hfo];show _ ++ [(x,(RatV.of s.num s.den p q).val)]=_;rw [val_ofR]⟩)
    clear hown4 hgrow hat far gN hO3 hnew hR hO hfR
    refine tk 9 (v:=?_) rfl (Or.inl ⟨by rfl,?_⟩) ?_
    rotate_left
    ·intro w9 hSw
     go_simp
     try with_reducible rfl
    simp only [pA]
    refine wpAnyH_done (by kernel_rfl) ?_ _
    go_wp2
    go_roundw
    case rel=>exact ⟨k+1,by omega,by go_num,I1.out⟩
    case measure=>simp [intOf];omega
  ·obtain rfl:k=ys.length:=by omega
   have i1:¬ (ys.length:Int) < (ys.length:Int):=by omega
   obtain ⟨R,hRl,hO,hB,hR,hfR⟩:=hN
   obtain ⟨a3,c3,rfl,s3⟩:=Sl.of hO
   rw [List.take_length,HC.out,hTT.out] at hfR
   have I1:=xQ1 (show FAns w TT (.returned (.slice a3 R.length c3)) wr from ⟨a3,c3,R,rfl,hB2.trans (hB.mono hB2.size),s3,fun p hp=>(hR p hp).ent,hfR⟩)
   clear hO hR s3 hfR
   go_wp2
   go_ret
   exact I1.out
theorem vlNorm_is (a:Option Addr) (ca:Nat) (L:List Mo) (w:World) (hF:FAt w a L) (hok:∀ p∈L,p.2.ok w∧p.2.n≤1099511627776∧p.2.m≤1099511627776) (hc:L.length≤ca) (hm:L.length≤1048576) (hw:wts (fo L)+1≤1099511627776) :
  Calls Tryz.prog 22 #[.slice a L.length ca] w (FAns w (nfm (fo L))) :=
 vlNormF_is a ca L w hF hok hc hm fun k x=>(co_sz x (fo (L.take k))).mono (by have:=wts_take L k;omega)
end Go.Proofs.YtgfmaejhdbmkoaaGreat
