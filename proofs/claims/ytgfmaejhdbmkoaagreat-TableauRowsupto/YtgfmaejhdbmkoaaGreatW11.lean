import Derived.Test.YtgfmaejhdbmkoaaGreatW9
import Derived.Test.YtgfmaejhdbmkoaaGreatNumD
import Derived.Test.YtgfmaejhdbmkoaaGreatW5
set_option linter.unusedSimpArgs false
namespace Go.Proofs.YtgfmaejhdbmkoaaGreat
open Go.RowKit
set_option linter.unusedVariables false
theorem wrap_div {a b:Nat} (h:a < 18446744073709551616):IntKind.u64.wrap ((a:Int) / (b:Int))=((a / b:Nat):Int):=by
 have h1:=Nat.div_le_self a b
 rw [IntKind.wrap_u64,←Int.natCast_ediv]
 generalize a / b=q at *
 omega
theorem ne_addr' {b1 o1 b:Nat} (h:b1≠b):∀ o,some (Addr.mk b1 o1 none)≠some (Addr.mk b o none):=by
 intro o e;simp only [Option.some.injEq,Addr.mk.injEq] at e;exact h e.1
theorem or_high {a b:Nat} (ha:a < 4294967296) (hb:b < 4294967296) :
  bits BinOp.or IntKind.u64 ((a:Int)*4294967296) (b:Int)=((a*4294967296+b:Nat):Int):=by
 have e:(a:Int)*4294967296=((a*4294967296:Nat):Int):=by omega
 rw [e,u64_or_nat _ _ (by omega) (by omega),nat_join 32 _ _ (by omega) (by omega)]
set_option maxHeartbeats 4000000 in
theorem guess_raw (b off n cap b2 o2 cap2 u2 u1 u0 d1 d2:Nat) (w:World) (hn:2≤n) (hm:n≤140737488355328) (h2:u2 < 4294967296) (h1:u1 < 4294967296) (h0:u0 < 4294967296) (hd1:d1 < 4294967296) (hd2:d2 < 4294967296) (htop:2147483648≤d1) (hud:u2≤d1)
  (c2:w.cell? ⟨b,off+n,none⟩=some (.int .u32 (u2:Nat))) (c1:w.cell? ⟨b,off+(n - 1),none⟩=some (.int .u32 (u1:Nat))) (c0:w.cell? ⟨b,off+(n - 2),none⟩=some (.int .u32 (u0:Nat)))
  (e1:w.cell? ⟨b2,o2+(n - 1),none⟩=some (.int .u32 (d1:Nat))) (e2:w.cell? ⟨b2,o2+(n - 2),none⟩=some (.int .u32 (d2:Nat))) :
  Calls Tryz.prog 158 #[.slice (some ⟨b,off,none⟩) (n+1) cap,.slice (some ⟨b2,o2,none⟩) n cap2] w fun e w'=>e=.returned (.int .u32 (guessB 4294967296 (u2*4294967296+u1) d1 d2 u0:Nat))∧Dr w w':=by
 obtain ⟨high,hh⟩:∃ h,h=u2*4294967296+u1:=⟨_,rfl⟩
 rw [←hh]
 have hor:bits BinOp.or IntKind.u64 ((u2:Int)*4294967296) (u1:Int)=(high:Int):=by rw [hh];exact or_high h2 h1
 have hhl:high < 18446744073709551616:=by omega
 have HH:Hid (high=u2*4294967296+u1):=hh
 clear hh
 obtain ⟨M,hM⟩:∃ M,M=guessB 4294967296 high d1 d2 u0:=⟨_,rfl⟩
 rw [←hM]
 have HM:Hid (M=guessB 4294967296 high d1 d2 u0):=hM
 clear hM
 have hML:M≤4294967295:=by have:=g_le (B:=4294967296) high d1 d2 u0;rw [HM.out];omega
 go_enter Tryz.func158,Tryz.ntmps158
 go_wp2_with fail
 go_quiet (fail)
 go_wp2_with fail
 go_quiet (fail)
 go_wp2_with fail
 go_loopw [7,8] (fun vm vr wr=>∃ m rest:Nat,vm=.int .u64 (m:Nat)∧vr=.int .u64 (rest:Nat)∧m*d1+rest=high∧rest < 4294967296∧M≤m∧m≤4294967297∧Dr w wr) (fun vm _ _=>(intOf vm).toNat)
 case atStart =>
  refine ⟨high / d1,high % d1,by rw [wrap_div hhl],by simp,?_,?_,?_,?_,by repeat (first | exact Dr.refl _ | refine Dr.drewN ?_ _)⟩
  ·have:=Nat.div_add_mod high d1;rw [Nat.mul_comm] at this;exact this
  ·exact Nat.lt_trans (Nat.mod_lt _ (by omega)) hd1
  ·rw [HM.out];exact g_start (by omega) (by omega) h0
  ·have k1:high / d1 < 4294967298:=(Nat.div_lt_iff_lt_mul (by omega)).2 (by
    have k3:=HH.out
    have k4:u2*4294967296≤d1*4294967296:=Nat.mul_le_mul_right _ hud
    omega)
   omega
 case round =>
  obtain ⟨m,rest,rfl,rfl,heq,hrest,hMm,hmB,hdr⟩:=hrel
  have EQ:Hid (m*d1+rest=high):=heq
  clear heq hor
  have c1':wr.cell? ⟨b2,o2+(n - 1),none⟩=some (.int .u32 (d1:Nat)):=by obtain ⟨q,rfl⟩:=hdr;exact e1
  have c2':wr.cell? ⟨b2,o2+(n - 2),none⟩=some (.int .u32 (d2:Nat)):=by obtain ⟨q,rfl⟩:=hdr;exact e2
  have c3':wr.cell? ⟨b,off+(n - 2),none⟩=some (.int .u32 (u0:Nat)):=by obtain ⟨q,rfl⟩:=hdr;exact c0
  clear c0 c1 c2 e1 e2
  by_cases hA:4294967296≤m
  ·have hg:(((m:Int) / 4294967296) != 0)=true:=by rw [bne_iff_ne];omega
   have HCond:Hid (4294967296≤m∨high*4294967296+u0 < m*(d1*4294967296+d2)):=Or.inl hA
   have hs:M+1≤m:=by rw [HM.out];exact g_step (by omega) HCond.out (by rw [←HM.out];exact hMm)
   have EQ':Hid ((m - 1)*d1+(rest+d1)=high):=by
    have:=EQ.out
    show _=_
    obtain ⟨m',rfl⟩:∃ m',m=m'+1:=⟨m - 1,by omega⟩
    rw [Nat.add_sub_cancel];rw [Nat.add_mul] at this;omega
   by_cases hR:4294967296≤rest+d1
   ·have hRb:(((rest:Int)+(d1:Int)) / 4294967296 != 0)=true:=by rw [bne_iff_ne];omega
    have FIN:Hid (m - 1=M):=by
     have hlt:m - 1 < 4294967296:=by
      by_cases hx:m - 1 < 4294967296
      ·exact hx
      ·exfalso
       have k1:4294967296*d1≤(m - 1)*d1:=Nat.mul_le_mul_right _ (by omega)
       have k2:=EQ'.out
       have k3:=HH.out
       have k4:u2*4294967296≤d1*4294967296:=Nat.mul_le_mul_right _ hud
       omega
     show _=_
     rw [HM.out]
     exact g_exit (B:=4294967296) (by omega) hlt (g_break EQ'.out hlt hd2 hR) (by rw [←HM.out];omega)
    have hm1:1≤m:=by omega
    clear hs
    go_wp2_with fail
    go_quiet (fail)
    go_wp2
    go_ret
    refine ⟨xJ7 ?_,hdr.drewN _⟩
    have:=FIN.out
    omega
   ·have hRb:(((rest:Int)+(d1:Int)) / 4294967296 != 0)=false:=by rw [bne_eq_false_iff_eq];omega
    go_wp2_with fail
    go_quiet (fail)
    go_wp2
    go_roundw
    case rel=>exact ⟨m - 1,rest+d1,by go_num,by go_num,EQ'.out,by omega,by omega,by omega,hdr.drewN _⟩
    case measure=>simp [intOf];omega
  ·have hg:(((m:Int) / 4294967296) != 0)=false:=by rw [bne_eq_false_iff_eq];omega
   obtain ⟨t,ht⟩:∃ t,t=rest*4294967296+u0:=⟨_,rfl⟩
   have hot:bits BinOp.or IntKind.u64 ((rest:Int)*4294967296) (u0:Int)=(t:Int):=by rw [ht];exact or_high hrest h0
   have hp:=prod_int (a:=m) (b:=d2) (by omega) hd2
   obtain ⟨hp0,hp1⟩:=hp
   by_cases hC:t < m*d2
   ·have hCi:(t:Int) < (m:Int)*(d2:Int):=by rw [←Int.natCast_mul];omega
    have HCond:Hid (4294967296≤m∨high*4294967296+u0 < m*(d1*4294967296+d2)):=Or.inr ((g_cond EQ.out).1 (by rw [←ht];exact hC))
    clear ht hC
    have hs:M+1≤m:=by rw [HM.out];exact g_step (by omega) HCond.out (by rw [←HM.out];exact hMm)
    have EQ':Hid ((m - 1)*d1+(rest+d1)=high):=by
     have:=EQ.out
     show _=_
     obtain ⟨m',rfl⟩:∃ m',m=m'+1:=⟨m - 1,by omega⟩
     rw [Nat.add_sub_cancel];rw [Nat.add_mul] at this;omega
    by_cases hR:4294967296≤rest+d1
    ·have hRb:(((rest:Int)+(d1:Int)) / 4294967296 != 0)=true:=by rw [bne_iff_ne];omega
     have FIN:Hid (m - 1=M):=by
      have hlt:m - 1 < 4294967296:=by
       by_cases hx:m - 1 < 4294967296
       ·exact hx
       ·exfalso
        have k1:4294967296*d1≤(m - 1)*d1:=Nat.mul_le_mul_right _ (by omega)
        have k2:=EQ'.out
        have k3:=HH.out
        have k4:u2*4294967296≤d1*4294967296:=Nat.mul_le_mul_right _ hud
        omega
      show _=_
      rw [HM.out]
      exact g_exit (B:=4294967296) (by omega) hlt (g_break EQ'.out hlt hd2 hR) (by rw [←HM.out];omega)
     have hm1:1≤m:=by omega
     clear hs
     go_wp2_with fail
     go_quiet (fail)
     go_wp2
     go_ret
     refine ⟨xJ7 ?_,hdr.drewN _⟩
     have:=FIN.out
     omega
    ·have hRb:(((rest:Int)+(d1:Int)) / 4294967296 != 0)=false:=by rw [bne_eq_false_iff_eq];omega
     go_wp2_with fail
     go_quiet (fail)
     go_wp2
     go_roundw
     case rel=>exact ⟨m - 1,rest+d1,by go_num,by go_num,EQ'.out,by omega,by omega,by omega,hdr.drewN _⟩
     case measure=>simp [intOf];omega
   ·have hCi:¬ (t:Int) < (m:Int)*(d2:Int):=by rw [←Int.natCast_mul];omega
    have FIN:Hid (m=M):=by
     show _=_
     rw [HM.out]
     refine g_exit (B:=4294967296) (by omega) (by omega) ?_ (by rw [←HM.out];exact hMm)
     by_cases hx:m*(d1*4294967296+d2)≤high*4294967296+u0
     ·exact hx
     ·exfalso
      have:=(g_cond (B:=4294967296) (d2:=d2) (u0:=u0) EQ.out).2 (by omega)
      rw [←ht] at this;exact hC this
    clear ht hC
    go_wp2_with fail
    go_quiet (fail)
    go_wp2
    go_ret
    refine ⟨xJ7 ?_,hdr.drewN _⟩
    have:=FIN.out
    omega
theorem st_digit {v t:Nat} (hv:v < 4294967296):∃ z c',z < 4294967296∧v+c'*BB=t+z∧(((v:Int) - ((t:Int) % 4294967296)) % 4294967296=(z:Int))∧c'=t / 4294967296+(if v < t % 4294967296 then 1 else 0):=by
 refine ⟨(v+4294967296 - t % 4294967296) % 4294967296,_,Nat.mod_lt _ (by omega),?_,?_,rfl⟩
 ·rw [BB_eq];split <;> omega
 ·omega
set_option maxHeartbeats 4000000 in
theorem subTimes_any (b off n cap V b2 o2 cap2 D m:Nat) (w:World) (hm:n≤140737488355328) (hn:0 < n) (hmm:m < 4294967296) (hne:b2≠b) (hrow:Row w b) (hS:Seg w (some ⟨b,off,none⟩) V (n+1)) (hS2:Seg w (some ⟨b2,o2,none⟩) D n) :
  Calls Tryz.prog 159 #[.slice (some ⟨b,off,none⟩) (n+1) cap,.slice (some ⟨b2,o2,none⟩) n cap2,.int .u32 m] w fun e w'=>e=.returned (.bool (decide (V < m*D)))∧Wr b off (off+(n+1)) w w'∧∃ R,Seg w' (some ⟨b,off,none⟩) R (n+1)∧(m*D≤V→R=V - m*D)∧(V < m*D→R+m*D=V+BB ^ (n+1)):=by
 go_enter Tryz.func159,Tryz.ntmps159
 go_wp2
 go_loopw [7,13] (fun vc i wr=>∃ k c N:Nat,k≤n∧i=.int .i64 k∧vc=.int .u64 (c:Nat)∧N < BB ^ k∧V % BB ^ k+c*BB ^ k=m*(D % BB ^ k)+N∧Wr b off (off+(n+1)) w wr∧Seg wr (some ⟨b,off,none⟩) (mix N V k) (n+1)) (fun _ i _=>n - (intOf i).toNat)
 case atStart=>exact ⟨0,0,0,Nat.zero_le _,rfl,rfl,by simp,by simp [Nat.mod_one],Wr.refl _ _ _ _,by rw [mix_zero];exact hS⟩
 case round =>
  obtain ⟨k,c,N,hk,rfl,rfl,hN,heq,hwr,hseg⟩:=hrel
  have hcm:=st_bound heq hN
  have EQ:Hid (V % BB ^ k+c*BB ^ k=m*(D % BB ^ k)+N):=heq
  have HN:Hid (N < BB ^ k):=hN
  clear heq hN
  by_cases hlt:k < n
  ·have hcx:=hseg.rest k (Nat.le_refl _) (by omega)
   have hfz:=fun o=>(hwr.row hrow).frozen o
   have hcell2:=(hS2.wr hwr (ne_addr' hne)).cells k hlt
   obtain ⟨v,hv⟩:∃ v,v=dg V k:=⟨_,rfl⟩
   obtain ⟨d,hd⟩:∃ d,d=dg D k:=⟨_,rfl⟩
   have hv32:v < 4294967296:=by rw [hv];exact xZ2 _ _
   have hd32:d < 4294967296:=by rw [hd];exact xZ2 _ _
   rw [←hv] at hcx
   rw [←hd] at hcell2
   obtain ⟨hp0,hp1⟩:=prod_int hd32 hmm
   obtain ⟨z,c',hz,hzc,hzv,hc'⟩:=st_digit (t:=d*m+c) hv32
   have ST:=st_step EQ.out (by rw [←hv,←hd];exact hzc)
   have HST:Hid (V % BB ^ (k+1)+c'*BB ^ (k+1)=m*(D % BB ^ (k+1))+(N+z*BB ^ k)):=ST
   have HZV:Hid (((v:Int) - (((d*m+c:Nat):Int) % 4294967296)) % 4294967296=(z:Int)):=hzv
   have HC':Hid (c'=(d*m+c) / 4294967296+(if v < (d*m+c) % 4294967296 then 1 else 0)):=hc'
   have hcast:((d*m+c:Nat):Int)=(d:Int)*(m:Int)+(c:Int):=by rw [Int.natCast_add,Int.natCast_mul]
   have HCA:Hid (((d*m+c:Nat):Int)=(d:Int)*(m:Int)+(c:Int)):=hcast
   have HD:Hid (d=dg D k):=hd
   have NXT:Hid (N+z*BB ^ k < BB ^ (k+1)):=by
    have:=HN.out
    show _ < _
    have h2:(z+1)*BB ^ k≤BB*BB ^ k:=Nat.mul_le_mul_right _ (by rw [BB_eq];omega)
    rw [Nat.add_mul,Nat.mul_comm BB,←xQ7] at h2
    omega
   have SEG:Hid (∀ wv (vv:Int),Seg wv (some ⟨b,off,none⟩) (mix N V k) (n+1)→vv=(z:Nat)→Seg (wv.setCell ⟨b,off+k,none⟩ (.int .u32 vv)) (some ⟨b,off,none⟩) (mix (N+z*BB ^ k) V (k+1)) (n+1)):=by
    intro wv vv hsg hvv
    have e1:mix N V k=mix (N+z*BB ^ k) V k:=by
     unfold mix
     rw [Nat.mod_eq_of_lt HN.out,Nat.add_mul_mod_self_right,Nat.mod_eq_of_lt HN.out]
    rw [e1] at hsg
    refine hsg.set (by omega) hS.1 ?_
    have:=dg_hi z N k k (Nat.le_refl _) HN.out
    rw [Nat.sub_self,dg0,Nat.mod_eq_of_lt hz,Nat.add_comm] at this
    rw [this];exact hvv
   clear hv hd hzv hzc hc' ST hcast
   by_cases hb:(v:Int) < ((d:Int)*(m:Int)+(c:Int)) % 4294967296
   all_goals
    go_wp2
    go_roundw
    case rel =>
     have a1:=HZV.out
     have a2:=HC'.out
     have a3:=HCA.out
     refine ⟨k+1,c',N+z*BB ^ k,by omega,by go_num,?_,NXT.out,HST.out,?_,?_⟩
     ·congr 1
      split at a2 <;> omega
     ·exact hwr.setCell (off+k) (by omega) (by omega) _
     ·refine SEG.out _ _ hseg ?_
      rw [a3] at a1
      first | exact a1 | (rw [IntKind.wrap_u32'];exact a1) | omega
    case measure=>simp [intOf];omega
  ·have hkm:k=n:=by omega
   subst hkm
   have hcx:=hseg.rest k (Nat.le_refl _) (by omega)
   have hfz:=fun o=>(hwr.row hrow).frozen o
   obtain ⟨v,hv⟩:∃ v,v=dg V k:=⟨_,rfl⟩
   have hv32:v < 4294967296:=by rw [hv];exact xZ2 _ _
   rw [←hv] at hcx
   have hVt:V=v*BB ^ k+V % BB ^ k:=by
    have:=xZ8 V k
    have e:V / BB ^ k=v:=by
     rw [hv,dg,Nat.mod_eq_of_lt]
     exact (Nat.div_lt_iff_lt_mul (BBp k)).2 (by rw [Nat.mul_comm,←xQ7];exact hS.1)
    rw [e] at this;exact this
   have hbase:=EQ.out
   rw [Nat.mod_eq_of_lt hS2.1] at hbase
   obtain ⟨z,hz,hzc⟩:∃ z:Nat,z < 4294967296∧((c≤v∧z=v - c)∨(v < c∧z+c=v+4294967296)):=by
    by_cases h:c≤v
    ·exact ⟨v - c,by omega,Or.inl ⟨h,rfl⟩⟩
    ·exact ⟨v+4294967296 - c,by omega,Or.inr ⟨by omega,by omega⟩⟩
   have hR1:c≤v→m*D≤V∧N+(v - c)*BB ^ k=V - m*D:=by
    intro h
    have:(v - c)*BB ^ k=v*BB ^ k - c*BB ^ k:=Nat.sub_mul _ _ _
    have h2:c*BB ^ k≤v*BB ^ k:=Nat.mul_le_mul_right _ h
    omega
   have hR2:v < c→V < m*D∧∀ z,z+c=v+4294967296→N+z*BB ^ k+m*D=V+BB ^ (k+1):=by
    intro h
    have h1:=HN.out
    have h2:(v+1)*BB ^ k≤c*BB ^ k:=Nat.mul_le_mul_right _ h
    rw [Nat.add_mul] at h2
    refine ⟨by omega,fun z hz'=>?_⟩
    have h3:(z+c)*BB ^ k=(v+BB)*BB ^ k:=by rw [hz',BB_eq]
    rw [Nat.add_mul,Nat.add_mul,Nat.mul_comm BB,←xQ7] at h3
    omega
   have RES:Hid (∀ wv (vv:Int),Seg wv (some ⟨b,off,none⟩) (mix N V k) (k+1)→vv=(z:Nat)→Seg (wv.setCell ⟨b,off+k,none⟩ (.int .u32 vv)) (some ⟨b,off,none⟩) (N+z*BB ^ k) (k+1)):=by
    intro wv vv hsg hvv
    have e1:mix N V k=mix (N+z*BB ^ k) V k:=by
     unfold mix
     rw [Nat.mod_eq_of_lt HN.out,Nat.add_mul_mod_self_right,Nat.mod_eq_of_lt HN.out]
    rw [e1] at hsg
    have hb2:N+z*BB ^ k < BB ^ (k+1):=by
     have:=HN.out
     have h2:(z+1)*BB ^ k≤BB*BB ^ k:=Nat.mul_le_mul_right _ (by rw [BB_eq];omega)
     rw [Nat.add_mul,Nat.mul_comm BB,←xQ7] at h2
     omega
    have:=hsg.set (v:=vv) (by omega) hS.1 (by
     have:=dg_hi z N k k (Nat.le_refl _) HN.out
     rw [Nat.sub_self,dg0,Nat.mod_eq_of_lt hz,Nat.add_comm] at this
     rw [this];exact hvv)
    rwa [mix_full hS.1 hb2] at this
   have HR1:Hid (c≤v→m*D≤V∧N+(v - c)*BB ^ k=V - m*D):=hR1
   have HR2:Hid (v < c→V < m*D∧∀ z,z+c=v+4294967296→N+z*BB ^ k+m*D=V+BB ^ (k+1)):=hR2
   clear hR1 hR2 hbase hVt hv
   rcases hzc with ⟨hle,hze⟩ | ⟨hlt2,hze⟩
   ·have HZ:Hid (z=v - c):=hze
    clear hze
    have hdec:¬ V < m*D:=by have:=(HR1.out hle).1;omega
    have HDF:Hid (decide (V < m*D)=false):=decide_eq_false hdec
    have hvc:¬ (v:Int) < (c:Int):=by omega
    clear hdec
    go_wp2
    go_ret
    refine ⟨by rw [HDF.out];rfl,hwr.setCell (off+k) (by omega) (by omega) _,N+z*BB ^ k,RES.out _ _ hseg ?_,fun _=>?_,fun h=>?_⟩
    ·have:=HZ.out;omega
    ·rw [HZ.out];exact (HR1.out hle).2
    ·have:=(HR1.out hle).1;omega
   ·have HZ:Hid (z+c=v+4294967296):=hze
    clear hze
    have HDF:Hid (decide (V < m*D)=true):=decide_eq_true (HR2.out hlt2).1
    have hvc:(v:Int) < (c:Int):=by omega
    go_wp2
    go_ret
    refine ⟨by rw [HDF.out];rfl,hwr.setCell (off+k) (by omega) (by omega) _,N+z*BB ^ k,RES.out _ _ hseg ?_,fun h=>?_,fun _=>?_⟩
    ·have:=HZ.out;first | omega | (rw [IntKind.wrap_u32'];omega)
    ·have:=(HR2.out hlt2).1;omega
    ·exact (HR2.out hlt2).2 z HZ.out
set_option maxHeartbeats 4000000 in
theorem takeTimes_any (b off n cap V b2 o2 cap2 D:Nat) (w:World) (hn:2≤n) (hm:n≤70368744177664) (hne:b2≠b) (hrow:Row w b) (hS:Seg w (some ⟨b,off,none⟩) V (n+1)) (hS2:Seg w (some ⟨b2,o2,none⟩) D n) (htop:2147483648≤dg D (n - 1)) (hVD:V < D*4294967296) :
  Calls Tryz.prog 151 #[.slice (some ⟨b,off,none⟩) (n+1) cap,.slice (some ⟨b2,o2,none⟩) n cap2] w fun e w'=>e=.returned (.int .u32 (V / D:Nat))∧Wr b off (off+(n+1)) w w'∧Seg w' (some ⟨b,off,none⟩) (V % D) (n+1):=by
 obtain ⟨k,rfl⟩:∃ k,n=k+2:=⟨n - 2,by omega⟩
 have hDp:0 < D:=by
  by_cases h:D=0
  ·subst h;rw [dg_zero] at htop;omega
  ·omega
 have eV:V=((dg V (k+2)*4294967296+dg V (k+1))*4294967296+dg V k)*BB ^ k+V % BB ^ k:=by
  have a0:=xZ8 V k
  have a1:=xJ5 V k
  have a2:=xJ5 V (k+1)
  have a3:V / BB ^ (k+2)=dg V (k+2):=by
   rw [dg,Nat.mod_eq_of_lt]
   exact (Nat.div_lt_iff_lt_mul (BBp _)).2 (by rw [Nat.mul_comm,←xQ7];exact hS.1)
  rw [show k+1+1=k+2 from rfl,a3] at a2
  rw [a2] at a1
  rw [a1,BB_eq] at a0
  rw [BB_eq];exact a0
 have eD:D=(dg D (k+1)*4294967296+dg D k)*BB ^ k+D % BB ^ k:=by
  have a0:=xZ8 D k
  have a1:=xJ5 D k
  have a3:D / BB ^ (k+1)=dg D (k+1):=by
   rw [dg,Nat.mod_eq_of_lt]
   exact (Nat.div_lt_iff_lt_mul (BBp _)).2 (by rw [Nat.mul_comm,←xQ7];exact hS2.1)
  rw [a3] at a1
  rw [a1,BB_eq] at a0
  rw [BB_eq];exact a0
 rw [show k+2 - 1=k+1 by omega] at htop
 have hK:=knuth (B:=4294967296) (by omega) (BBp k) eV eD (Nat.mod_lt _ (BBp k)) (Nat.mod_lt _ (BBp k)) (by omega) hVD
 have hud:dg V (k+2)≤dg D (k+1):=by
  by_cases h:dg V (k+2)≤dg D (k+1)
  ·exact h
  ·exfalso
   have h1:(dg D (k+1)+1)*BB ^ (k+2)≤dg V (k+2)*BB ^ (k+2):=Nat.mul_le_mul_right _ (by omega)
   have h2:dg V (k+2)*BB ^ (k+2)≤V:=by
    have e:V / BB ^ (k+2)=dg V (k+2):=by
     rw [dg,Nat.mod_eq_of_lt]
     exact (Nat.div_lt_iff_lt_mul (BBp _)).2 (by rw [Nat.mul_comm,←xQ7];exact hS.1)
    rw [←e];exact Nat.div_mul_le_self _ _
   have h3:D < (dg D (k+1)+1)*BB ^ (k+1):=by
    have a:=xZ8 D (k+1)
    have e:D / BB ^ (k+1)=dg D (k+1):=by
     rw [dg,Nat.mod_eq_of_lt]
     exact (Nat.div_lt_iff_lt_mul (BBp _)).2 (by rw [Nat.mul_comm,←xQ7];exact hS2.1)
    have l:D % BB ^ (k+1) < BB ^ (k+1):=Nat.mod_lt _ (BBp _)
    rw [e] at a
    rw [Nat.add_mul];omega
   have h4:D*BB < (dg D (k+1)+1)*BB ^ (k+1)*BB:=Nat.mul_lt_mul_of_pos_right h3 BB_pos
   rw [Nat.mul_assoc,←xQ7,show k+1+1=k+2 from rfl] at h4
   rw [←BB_eq] at hVD
   exact absurd (Nat.lt_of_lt_of_le (Nat.lt_trans hVD h4) (Nat.le_trans h1 h2)) (Nat.lt_irrefl _)
 obtain ⟨M,hM⟩:∃ M,M=guessB 4294967296 (dg V (k+2)*4294967296+dg V (k+1)) (dg D (k+1)) (dg D k) (dg V k):=⟨_,rfl⟩
 rw [←hM] at hK
 have hML:M < 4294967296:=by have:=g_le (B:=4294967296) (dg V (k+2)*4294967296+dg V (k+1)) (dg D (k+1)) (dg D k) (dg V k);rw [hM];omega
 have GU:=guess_raw b off (k+2) cap b2 o2 cap2 (dg V (k+2)) (dg V (k+1)) (dg V k) (dg D (k+1)) (dg D k) w (by omega) (by omega) (xZ2 _ _) (xZ2 _ _) (xZ2 _ _) (xZ2 _ _) (xZ2 _ _) htop hud
  (hS.cells (k+2) (by omega)) (hS.cells (k+1) (by omega)) (hS.cells k (by omega)) (hS2.cells (k+1) (by omega)) (hS2.cells k (by omega))
 rw [←hM] at GU
 have HQ:Hid (V / D≤M∧M≤V / D+1):=hK
 have HGU:Hid (Calls Tryz.prog 158 #[.slice (some ⟨b,off,none⟩) (k+2+1) cap,.slice (some ⟨b2,o2,none⟩) (k+2) cap2] w fun e w'=>e=.returned (.int .u32 (M:Nat))∧Dr w w'):=GU
 have HVD:Hid (V / D*D+V % D=V∧V % D < D):=⟨by have:=Nat.div_add_mod V D;rw [Nat.mul_comm] at this;exact this,Nat.mod_lt _ hDp⟩
 clear GU hK hM eV eD hud htop
 go_enter Tryz.func151,Tryz.ntmps151
 go_wp2_with fail
 refine HGU.out.mono ?_
 clear HGU
 rintro e w1 ⟨rfl,hdr⟩
 have hS1:=hS.dr hdr
 have hS21:=hS2.dr hdr
 by_cases hM0:M=0
 ·have hb0:((M:Int) != 0)=false:=by rw [hM0];rfl
  have HM0:Hid (M=0):=hM0
  clear hM0
  go_wp2
  go_ret
  have h1:=HQ.out.1
  have h2:=HVD.out.1
  rw [HM0.out] at h1
  have h3:V / D=0:=Nat.le_zero.1 h1
  rw [h3,Nat.zero_mul,Nat.zero_add] at h2
  refine ⟨xJ7 ?_,Wr.of_dr hdr,by rw [h2];exact hS1⟩
  rw [h3,HM0.out]
 ·have hb0:((M:Int) != 0)=true:=by rw [bne_iff_ne];omega
  go_wp2_with fail
  refine (subTimes_any b off (k+2) cap V b2 o2 cap2 D M w1 (by omega) (by omega) hML hne (hrow.dr hdr) hS1 hS21).mono ?_
  rintro e w2 ⟨rfl,hwr,R,hsR,hR1,hR2⟩
  have HR1:Hid (M*D≤V→R=V - M*D):=hR1
  have HR2:Hid (V < M*D→R+M*D=V+BB ^ (k+2+1)):=hR2
  clear hR1 hR2
  by_cases hlt:V < M*D
  ·have HL:Hid (V < M*D):=hlt
   have hdt:decide (V < M*D)=true:=decide_eq_true hlt
   clear hlt
   go_wp2_with fail
   refine (addInto_any b off (k+2+1) cap R (some ⟨b2,o2,none⟩) (k+2) cap2 D w2 (by omega) (by omega) (hwr.row (hrow.dr hdr)) hsR (hS21.wr hwr (ne_addr' hne)) (ne_addr' hne)).mono ?_
   rintro e w3 ⟨rfl,hwr3,hs3⟩
   go_wp2
   go_ret
   have hq:M=V / D+1:=by
    have h1:=HQ.out
    have h2:=HVD.out
    have h3:=HL.out
    by_cases e:M=V / D
    ·exfalso
     rw [e] at h3
     generalize V / D*D=t at *
     generalize V % D=r at *
     omega
    ·generalize V / D=qq at *
     omega
   have hfin:(R+D) % BB ^ (k+2+1)=V % D:=by
    have h1:=HR2.out HL.out
    have h2:=HVD.out
    rw [hq,Nat.add_mul,Nat.one_mul] at h1
    have h4:R+D=V % D+BB ^ (k+2+1):=by
     generalize V / D*D=t at *
     generalize V % D=r at *
     omega
    rw [h4,Nat.add_mod_right,Nat.mod_eq_of_lt (Nat.lt_of_le_of_lt (Nat.mod_le _ _) hS.1)]
   rw [hfin] at hs3
   refine ⟨xJ7 ?_,(Wr.of_dr hdr).trans (hwr.trans hwr3),hs3⟩
   rw [hq];generalize V / D=qq at *;omega
  ·have HL:Hid (¬ V < M*D):=hlt
   have hdt:decide (V < M*D)=false:=decide_eq_false hlt
   clear hlt
   go_wp2
   go_ret
   have hq:M=V / D:=by
    have h1:=HQ.out
    have h3:M*D≤V:=Nat.le_of_not_lt HL.out
    have h4:=(Nat.le_div_iff_mul_le hDp).2 h3
    generalize V / D=qq at *
    omega
   have hR:=HR1.out (Nat.le_of_not_lt HL.out)
   have h2:=HVD.out
   rw [hq] at hR
   have hR':R=V % D:=by
    generalize V / D*D=t at *
    generalize V % D=r at *
    omega
   rw [hR'] at hsR
   exact ⟨xJ7 (by rw [hq]),(Wr.of_dr hdr).trans hwr,hsR⟩
theorem LeadingZeros32_any (x:Nat) (w:World) (h:x < 4294967296) (hb:bl x≤32) :
  Calls Tryz.prog 149 #[.int .u32 x] w fun e w'=>e=.returned (.int .i64 (32 - bl x:Nat))∧w=w':=by
 go_enter Tryz.func149,Tryz.ntmps149
 go_wp2_with fail
 refine (Len32_any _ _ h).mono ?_
 rintro e w' ⟨rfl,rfl⟩
 go_wp2
 go_ret
 exact ⟨xJ7 (by omega),rfl⟩
theorem Seg.setOther {w:World} {ao:Option Addr} {X n g o:Nat} {u:Value} (h:Seg w ao X n) (hne:∀ o,ao≠some ⟨g,o,none⟩):Seg (w.setCell ⟨g,o,none⟩ u) ao X n :=
 h.wr ((Wr.refl g 0 (o+1) w).setCell o (by omega) (by omega) u) hne
set_option maxHeartbeats 4000000 in
theorem divByLimb_any (b1 o1 n cap X y:Nat) (w:World) (hm:n≤70368744177664) (hn:0 < n) (hy:0 < y) (hy32:y < 4294967296) (hS:Seg w (some ⟨b1,o1,none⟩) X n) :
  Calls Tryz.prog 140 #[.slice (some ⟨b1,o1,none⟩) n cap,.int .u32 y] w fun e w'=>∃ aq ar,e=.returned (.tuple #[.slice aq (ln (X / y)) (ln (X / y)),.slice ar (ln (X % y)) (ln (X % y))])∧New w w' aq (X / y) (ln (X / y))∧New w w' ar (X % y) (ln (X % y)):=by
 have hb1:=hS.lt hn
 have hZ:X / y < BB ^ n:=Nat.lt_of_le_of_lt (Nat.div_le_self _ _) hS.1
 have HZ:Hid (X / y < BB ^ n):=hZ
 clear hZ
 go_enter Tryz.func140,Tryz.ntmps140
 go_wp2_with (at_make;refine mk_law _ rfl _ _ rfl _ n rfl rfl rfl hm ?_;intro w1 hnew hrow)
 have hlt1:=hrow.lt
 go_loopw [7,8] (fun c i wr=>∃ k:Nat,k≤n∧i=.int .i64 ((k:Int) - 1)∧c=.int .u64 (rcy X y k:Nat)∧Wr w.heap.size 0 (0+n) w1 wr∧Seg wr (some ⟨w.heap.size,0,none⟩) (mix 0 (X / y) k) n) (fun _ i _=>(intOf i+1).toNat)
 case atStart=>exact ⟨n,Nat.le_refl _,rfl,by unfold rcy;rw [div_big hS.1,Nat.zero_mod];rfl,Wr.refl _ _ _ _,by rw [mix_full HZ.out (BBp n)];exact hnew.seg⟩
 case round =>
  obtain ⟨k,hk,rfl,rfl,hwr,hseg⟩:=hrel
  have hB:Below w.heap.size w wr:=hnew.below.trans (hwr.below (Nat.le_refl _) hnew.below.size)
  by_cases hlt:0 < k
  ·obtain ⟨j,rfl⟩:∃ j,k=j+1:=⟨k - 1,by omega⟩
   have hcast:((j+1:Nat):Int) - 1=(j:Nat):=by omega
   rw [hcast]
   have hcy:=rcy_lt hy X (j+1)
   have hcx:=hseg.cells j (by omega)
   rw [Nat.zero_add] at hcx
   have hfz:=fun o=>(hwr.row hrow).frozen o
   have hcell:=(hS.below hB (Nat.le_refl _)).cells j (by omega)
   have h2:=xZ2 X j
   obtain ⟨t,ht⟩:∃ t,t=rcy X y (j+1)*4294967296+dg X j:=⟨_,rfl⟩
   have htl:t < 18446744073709551616:=by omega
   have e0:bits BinOp.or IntKind.u64 (((rcy X y (j+1):Nat):Int)*4294967296) ((dg X j:Nat):Int)=(t:Nat):=by rw [ht];exact or_high (by omega) h2
   have E1:Hid (t / y % 4294967296=dg (X / y) j):=by show _=_;rw [ht];exact lim_dg X y j
   have E2:Hid (t % y=rcy X y j):=by show _=_;rw [ht];exact lim_cy X y j
   have hyz:(1:Int)≤(y:Int):=by omega
   have HW:=wrap_div (b:=y) htl
   have hc32:rcy X y (j+1) < 4294967296:=by omega
   clear hcy ht
   go_wp2
   go_roundw
   case rel =>
    have e1:=E1.out
    refine ⟨j,by omega,by go_num,?_,?_,?_⟩
    ·rw [←E2.out];simp
    ·have:=hwr.setCell (0+j) (by omega) (by omega) (.int .u32 (((t / y:Nat):Int) % 4294967296))
     rw [Nat.zero_add] at this
     simpa using this
    ·have:=hseg.setDown (by omega) HZ.out (v:=((t / y:Nat):Int) % 4294967296) (by rw [←e1];simp)
     rw [Nat.zero_add] at this
     simpa using this
   case measure=>simp [intOf]
  ·have hk0:k=0:=by omega
   subst hk0
   rw [mix_zero] at hseg
   have hr0:rcy X y 0=X % y:=by unfold rcy;rw [Nat.pow_zero,Nat.div_one]
   have hr32:X % y < 4294967296:=Nat.lt_trans (Nat.mod_lt _ hy) hy32
   rw [hr0]
   clear hr0
   have hN:New w wr (some ⟨w.heap.size,0,none⟩) (X / y) n:=⟨hseg,hB,fun _=>⟨_,_,rfl,Nat.le_refl _,hwr.row hrow⟩⟩
   go_wp2_with fail
   refine (xX5 _ _ _ (X / y) _ (Nat.le_refl _) (by omega) hseg).mono ?_
   rintro e w4 ⟨a4,rfl,rfl,ht4⟩
   go_wp2_with fail
   have OF:=Of_any (X % y) wr (by omega)
   rw [Int.natCast_emod] at OF
   refine OF.mono ?_
   rintro e w5 ⟨a5,rfl,hn5⟩
   clear OF
   go_wp2
   go_ret2
   exact ⟨_,_,rfl,(hN.trm ht4).later hn5.below,hn5.back hB⟩
theorem lead {Y n:Nat} (hn:0 < n) (hY:Y < BB ^ n) (ht:dg Y (n - 1)≠0) :
  bl (dg Y (n - 1))≤32∧1≤bl (dg Y (n - 1))∧2 ^ (32 - bl (dg Y (n - 1)))*Y < BB ^ n∧2147483648≤dg (2 ^ (32 - bl (dg Y (n - 1)))*Y) (n - 1):=by
 obtain ⟨k,rfl⟩:∃ k,n=k+1:=⟨n - 1,by omega⟩
 rw [Nat.add_sub_cancel] at ht ⊢
 have hd:=xZ2 Y k
 have e:Y / BB ^ k=dg Y k:=by
  rw [dg,Nat.mod_eq_of_lt]
  exact (Nat.div_lt_iff_lt_mul (BBp k)).2 (by rw [Nat.mul_comm,←xQ7];exact hY)
 have a:=bl_lt (dg Y k)
 have c:=bl_le ht
 have hb32:bl (dg Y k)≤32:=by have:=bl_le_len (n:=1) (X:=dg Y k) (by rw [Nat.pow_one,BB_eq];exact hd);omega
 have hb1:1≤bl (dg Y k):=by rw [bl_pos ht];omega
 refine ⟨hb32,hb1,?_,?_⟩
 ·have h1:Y < (dg Y k+1)*BB ^ k:=by
   have s:=xZ8 Y k
   have l:Y % BB ^ k < BB ^ k:=Nat.mod_lt _ (BBp k)
   rw [e] at s;rw [Nat.add_mul];omega
  have h2:2 ^ (32 - bl (dg Y k))*Y < 2 ^ (32 - bl (dg Y k))*((dg Y k+1)*BB ^ k):=Nat.mul_lt_mul_of_pos_left h1 (Nat.two_pow_pos _)
  refine Nat.lt_of_lt_of_le h2 ?_
  rw [←Nat.mul_assoc,xQ7,Nat.mul_comm (BB ^ k) BB]
  refine Nat.mul_le_mul_right _ ?_
  refine Nat.le_trans (Nat.mul_le_mul_left _ a) ?_
  rw [←Nat.pow_add,Nat.sub_add_cancel hb32,BB_eq]
  exact Nat.le_refl _
 ·have h3:2147483648*BB ^ k≤2 ^ (32 - bl (dg Y k))*Y:=by
   have h4:2 ^ (bl (dg Y k) - 1)*BB ^ k≤Y:=by
    refine Nat.le_trans (Nat.mul_le_mul_right _ c) ?_
    rw [←e];exact Nat.div_mul_le_self _ _
   refine Nat.le_trans ?_ (Nat.mul_le_mul_left _ h4)
   rw [←Nat.mul_assoc,←Nat.pow_add,show 32 - bl (dg Y k)+(bl (dg Y k) - 1)=31 by omega]
   exact Nat.le_refl _
  have h5:2147483648≤2 ^ (32 - bl (dg Y k))*Y / BB ^ k:=(Nat.le_div_iff_mul_le (BBp k)).2 h3
  have h6:2 ^ (32 - bl (dg Y k))*Y < BB ^ (k+1):=by
   have h1:Y < (dg Y k+1)*BB ^ k:=by
    have s:=xZ8 Y k
    have l:Y % BB ^ k < BB ^ k:=Nat.mod_lt _ (BBp k)
    rw [e] at s;rw [Nat.add_mul];omega
   have h2:2 ^ (32 - bl (dg Y k))*Y < 2 ^ (32 - bl (dg Y k))*((dg Y k+1)*BB ^ k):=Nat.mul_lt_mul_of_pos_left h1 (Nat.two_pow_pos _)
   refine Nat.lt_of_lt_of_le h2 ?_
   rw [←Nat.mul_assoc,xQ7,Nat.mul_comm (BB ^ k) BB]
   refine Nat.mul_le_mul_right _ ?_
   refine Nat.le_trans (Nat.mul_le_mul_left _ a) ?_
   rw [←Nat.pow_add,Nat.sub_add_cancel hb32,BB_eq]
   exact Nat.le_refl _
  rw [dg,Nat.mod_eq_of_lt]
  ·exact h5
  ·exact (Nat.div_lt_iff_lt_mul (BBp k)).2 (by rw [Nat.mul_comm BB,←xQ7];exact h6)
set_option maxHeartbeats 8000000 in
theorem divByLimbs_any (b1 o1 N cap X b2 o2 n cap2 Y:Nat) (w:World) (hm:N≤70368744177663) (hn:2≤n) (hnN:n≤N) (hc1:N≤cap) (hX:Seg w (some ⟨b1,o1,none⟩) X N) (hY:Seg w (some ⟨b2,o2,none⟩) Y n) (htop:dg Y (n - 1)≠0) :
  Calls Tryz.prog 141 #[.slice (some ⟨b1,o1,none⟩) N cap,.slice (some ⟨b2,o2,none⟩) n cap2] w fun e w'=>∃ aq ar,e=.returned (.tuple #[.slice aq (ln (X / Y)) (ln (X / Y)),.slice ar (ln (X % Y)) (ln (X % Y))])∧New w w' aq (X / Y) (ln (X / Y))∧New w w' ar (X % Y) (ln (X % Y)):=by
 obtain ⟨hb32,hb1',hDlt,hDtop⟩:=lead (by omega) hY.1 htop
 have hby:=hY.lt (by omega)
 have hbx:=hX.lt (by omega)
 obtain ⟨up,hup⟩:∃ u,u=32 - bl (dg Y (n - 1)):=⟨_,rfl⟩
 rw [←hup] at hDlt hDtop
 have hup31:up≤31:=by omega
 have hcy:=hY.cells (n - 1) (by omega)
 have LZ:=LeadingZeros32_any (dg Y (n - 1)) w (xZ2 _ _) hb32
 rw [←hup] at LZ
 have HLZ:Hid (Calls Tryz.prog 149 #[.int .u32 (dg Y (n - 1):Nat)] w fun e w'=>e=.returned (.int .i64 (up:Nat))∧w=w'):=LZ
 have HDL:Hid (2 ^ up*Y < BB ^ n∧2147483648≤dg (2 ^ up*Y) (n - 1)):=⟨hDlt,hDtop⟩
 clear hup hb32 hb1' hDlt hDtop LZ htop
 go_enter Tryz.func141,Tryz.ntmps141
 go_wp2_with fail
 refine HLZ.out.mono ?_
 clear HLZ
 rintro e w' ⟨rfl,rfl⟩
 go_wp2_with (at_make;refine mk_law _ rfl _ _ rfl _ n rfl rfl rfl (by omega) ?_;intro w1 hnew hrow)
 have SU:=shiftUp_any w.heap.size 0 n n 0 (some ⟨b2,o2,none⟩) cap2 Y up w1 (by omega) hup31 hrow hnew.seg (hY.below hnew.below (Nat.le_refl _)) (ne_addr' (by omega))
 rw [Nat.div_eq_of_lt HDL.out.1,Nat.mod_eq_of_lt HDL.out.1] at SU
 obtain ⟨D,hD⟩:∃ D,D=2 ^ up*Y:=⟨_,rfl⟩
 rw [←hD] at SU
 have HDD:Hid (D=2 ^ up*Y):=hD
 have HDB:Hid (D < BB ^ n∧2147483648≤dg D (n - 1)):=by rw [hD];exact HDL.out
 clear hD HDL
 refine SU.mono ?_
 clear SU
 rintro e w2 ⟨rfl,hwr2,hsd2⟩
 have hB2:Below w.heap.size w w2:=hnew.below.trans (hwr2.below (Nat.le_refl _) hnew.below.size)
 have hrd2:=hwr2.row hrow
 have hlt2:w.heap.size < w2.heap.size:=hrd2.lt
 clear hnew hrow hwr2
 have hs1:=sl_h (some ⟨w2.heap.size,0,none⟩) (N+1) (N+1) N (N:Int) rfl (by omega)
 go_wp2_with (at_make;refine mk_law _ rfl _ _ rfl _ (N+1) rfl rfl (by go_num) (by omega) ?_;intro w3 hnew3 hrow3)
 have hB3:Below w.heap.size w w3:=hB2.trans (hnew3.below.mono (by omega))
 have hsd3:=hsd2.below hnew3.below (Nat.le_refl _)
 have hrd3:=hrd2.below hnew3.below hlt2
 have hlt3:=hrow3.lt
 have hlo3:Seg w3 (some ⟨w2.heap.size,0,none⟩) 0 N:=by have:=hnew3.seg.take N (by omega);rwa [Nat.zero_mod] at this
 obtain ⟨V,hV⟩:∃ V,V=2 ^ up*X:=⟨_,rfl⟩
 have SU:=shiftUp_any w2.heap.size 0 N (N+1) 0 (some ⟨b1,o1,none⟩) cap X up w3 (by omega) hup31 hrow3 hlo3 (hX.below hB3 (Nat.le_refl _)) (ne_addr' (by omega))
 rw [←hV] at SU
 obtain ⟨c,hc⟩:∃ c,c=V / BB ^ N:=⟨_,rfl⟩
 rw [←hc] at SU
 have hVlt:V < BB ^ (N+1):=by
  have h1:=two_le hup31
  have h2:2 ^ up*X≤2147483648*X:=Nat.mul_le_mul_right _ h1
  have h3:=hX.1
  rw [hV,xQ7,BB_eq]
  rw [BB_eq] at h3
  omega
 have hc32:c < 4294967296:=by
  rw [hc,←BB_eq];exact (Nat.div_lt_iff_lt_mul (BBp N)).2 (by rw [Nat.mul_comm BB,←xQ7];exact hVlt)
 have HC:Hid (c=V / BB ^ N):=hc
 have HV:Hid (V=2 ^ up*X):=hV
 have HVL:Hid (V < BB ^ (N+1)):=hVlt
 clear hc hV hVlt
 refine SU.mono ?_
 clear SU
 rintro e w4 ⟨rfl,hwr4,hsl4⟩
 have hck:w4.cell? ⟨w2.heap.size,N,none⟩=some (.int .u32 (dg 0 N:Nat)):=by
  rw [hwr4.cell _ (by omega)];have:=hnew3.seg.cells N (by omega);rwa [Nat.zero_add] at this
 have hfz:=fun o=>(hwr4.row hrow3).frozen o
 have hsl5:Seg (w4.setCell ⟨w2.heap.size,N,none⟩ (.int .u32 (c:Nat))) (some ⟨w2.heap.size,0,none⟩) V (N+1):=by
  have h3:=hnew3.seg.splice (i:=0) (n:=N) (by rw [Nat.add_zero];exact hwr4) (by rw [Nat.add_zero];exact hsl4) (by omega) (by omega)
  have h4:=h3.store (i:=N) (d:=c) (by omega) hc32 (v:=(c:Nat)) rfl
  have h5:=put_two (q:=0) HVL.out
  rw [Nat.zero_add,Nat.pow_zero,Nat.mul_one] at h5
  rw [HC.out,h5,Nat.zero_add] at h4
  rw [HC.out];exact h4
 have hlt4:w2.heap.size < w4.heap.size:=Nat.lt_of_lt_of_le hlt3 hwr4.size
 have hB5:Below w.heap.size w (w4.setCell ⟨w2.heap.size,N,none⟩ (.int .u32 (c:Nat))):=hB3.trans ((hwr4.below (by omega) hB3.size).setCell (show w.heap.size≤w2.heap.size by omega) _)
 have hsd5:Seg (w4.setCell ⟨w2.heap.size,N,none⟩ (.int .u32 (c:Nat))) (some ⟨w.heap.size,0,none⟩) D n:=(hsd3.wr hwr4 (ne_addr' (by omega))).setOther (ne_addr' (by omega))
 have hrd5:Row (w4.setCell ⟨w2.heap.size,N,none⟩ (.int .u32 (c:Nat))) w.heap.size:=(hrd3.of_wr hwr4 (by omega)).setCell _ _
 have hrl5:Row (w4.setCell ⟨w2.heap.size,N,none⟩ (.int .u32 (c:Nat))) w2.heap.size:=(hwr4.row hrow3).setCell _ _
 clear hsl4 hnew3 hsd3 hrd3 hlo3 hsd2 hrd2
 go_wp2_with (at_make;refine mk_law _ rfl _ _ rfl _ (N - n+1) rfl rfl (by go_num) (by omega) ?_;rw [World.size_setCell];intro w6 hnew6 hrow6)
 have hlt6:=hrow6.lt
 have hsz5:(w4.setCell ⟨w2.heap.size,N,none⟩ (.int .u32 (c:Nat))).heap.size=w4.heap.size:=World.size_setCell _ _ _
 have hB6:Below w.heap.size w w6:=hB5.trans (hnew6.below.mono (by rw [hsz5];omega))
 have hsd6:=hsd5.below hnew6.below (Nat.le_refl _)
 have hsl6:=hsl5.below hnew6.below (Nat.le_refl _)
 have hrd6:=hrd5.below hnew6.below (by rw [hsz5];omega)
 have hrl6:=hrl5.below hnew6.below (by rw [hsz5];omega)
 have hsq6:=hnew6.seg
 have hDp:0 < D:=by
  by_cases h:D=0
  ·have:=HDB.out.2;rw [h,dg_zero] at this;omega
  ·omega
 have hDge:2147483648*BB ^ (n - 1)≤D:=by
  have h1:=HDB.out
  have h2:dg D (n - 1)=D / BB ^ (n - 1):=by
   rw [dg,Nat.mod_eq_of_lt]
   exact (Nat.div_lt_iff_lt_mul (BBp _)).2 (by rw [Nat.mul_comm BB,←xQ7,Nat.sub_add_cancel (by omega)];exact h1.1)
  rw [h2] at h1
  exact (Nat.le_div_iff_mul_le (BBp _)).1 h1.2
 have hVD:V < D*BB ^ (N - n+1):=by
  have h1:2 ^ up*X < 2147483648*BB ^ N:=Nat.lt_of_le_of_lt (Nat.mul_le_mul_right _ (two_le hup31)) (Nat.mul_lt_mul_of_pos_left hX.1 (by omega))
  rw [←HV.out] at h1
  refine Nat.lt_of_lt_of_le h1 (Nat.le_trans ?_ (Nat.mul_le_mul_right _ hDge))
  rw [Nat.mul_assoc,←Nat.pow_add,show n - 1+(N - n+1)=N by omega]
  exact Nat.le_refl _
 have HVD:Hid (V < D*BB ^ (N - n+1)):=hVD
 have HQ:Hid (V / D < BB ^ (N - n+1)):=(Nat.div_lt_iff_lt_mul hDp).2 (by rw [Nat.mul_comm];exact hVD)
 clear hVD hDge hsz5 hnew6 hB5 hsd5 hsl5 hrd5 hrl5 hck hfz hs1
 go_loopw [10] (fun i wr=>∃ k:Nat,k≤N - n+1∧i=.int .i64 ((k:Int) - 1)∧Below w.heap.size w wr∧w4.heap.size < wr.heap.size∧Row wr w.heap.size∧Row wr w2.heap.size∧Row wr w4.heap.size∧Seg wr (some ⟨w.heap.size,0,none⟩) D n∧Seg wr (some ⟨w2.heap.size,0,none⟩) (V % (D*BB ^ k)) (N+1)∧Seg wr (some ⟨w4.heap.size,0,none⟩) (mix 0 (V / D) k) (N - n+1)) (fun i _=>(intOf i+1).toNat)
 case atStart=>exact ⟨N - n+1,Nat.le_refl _,by go_num,hB6,hlt6,hrd6,hrl6,hrow6,hsd6,by rw [Nat.mod_eq_of_lt HVD.out];exact hsl6,by rw [mix_full HQ.out (BBp _)];exact hsq6⟩
 case round =>
  clear hB6 hlt6 hrd6 hrl6 hrow6 hsd6 hsl6 hsq6
  obtain ⟨k,hk,rfl,hB,hlt6,hrd,hrl,hrq,hsd,hsl,hsq⟩:=hrel
  by_cases hlt:0 < k
  ·obtain ⟨j,rfl⟩:∃ j,k=j+1:=⟨k - 1,by omega⟩
   have hcast:((j+1:Nat):Int) - 1=(j:Nat):=by omega
   rw [hcast]
   have hslc:=sl_lh w2.heap.size 0 (N+1) (N+1) j (n+1) (j:Int) ((j:Int)+(n:Int)+1) rfl (by omega) (by omega) (by omega)
   rw [Nat.zero_add] at hslc
   have hLlt:V % (D*BB ^ (j+1)) < BB ^ (j+(n+1)):=by
    refine Nat.lt_of_lt_of_le (Nat.mod_lt _ (Nat.mul_pos hDp (BBp _))) ?_
    rw [show j+(n+1)=n+(j+1) by omega,Nat.pow_add BB n (j+1)]
    exact Nat.mul_le_mul_right _ (Nat.le_of_lt HDB.out.1)
   obtain ⟨Wv,hWv⟩:∃ W,W=V / BB ^ j % (D*BB):=⟨_,rfl⟩
   have hWlt:Wv < D*4294967296:=by rw [hWv,BB_eq];exact Nat.mod_lt _ (by omega)
   have hpart:Seg wr (some ⟨w2.heap.size,j,none⟩) Wv (n+1):=by
    have:=(hsl.drop j (by omega)).take (n+1) (by omega)
    rw [dv_part,←hWv,Nat.zero_add,Nat.mod_eq_of_lt] at this
    ·exact this
    ·refine Nat.lt_of_lt_of_le hWlt ?_
     rw [xQ7,BB_eq]
     exact Nat.mul_le_mul_right _ (by rw [←BB_eq];exact Nat.le_of_lt HDB.out.1)
   have TT:=takeTimes_any w2.heap.size j n (N+1 - j) Wv w.heap.size 0 n D wr hn (by omega) (by omega) hrl hpart hsd HDB.out.2 hWlt
   have hm1:Wv / D=dg (V / D) j:=by rw [hWv];exact dv_dg
   have hr1:put (V % (D*BB ^ (j+1))) j (n+1) (Wv % D)=V % (D*BB ^ j):=by rw [hWv];exact dv_rest hLlt
   rw [hm1] at TT
   have HTT:Hid (Calls Tryz.prog 151 #[.slice (some ⟨w2.heap.size,j,none⟩) (n+1) (N+1 - j),.slice (some ⟨w.heap.size,0,none⟩) n n] wr fun e w'=>e=.returned (.int .u32 (dg (V / D) j:Nat))∧Wr w2.heap.size j (j+(n+1)) wr w'∧Seg w' (some ⟨w2.heap.size,j,none⟩) (Wv % D) (n+1)):=TT
   have HR:Hid (put (V % (D*BB ^ (j+1))) j (n+1) (Wv % D)=V % (D*BB ^ j)):=hr1
   clear TT hm1 hr1 hWv hWlt hLlt hpart
   have hd32:=xZ2 (V / D) j
   go_wp2_with fail
   refine HTT.out.mono ?_
   clear HTT
   rintro e w8 ⟨rfl,hwr8,hs8⟩
   have hq8:=(hsq.wr hwr8 (ne_addr' (by omega)))
   have hck:=hq8.cells j (by omega)
   rw [Nat.zero_add] at hck
   have hrq8:=hrq.of_wr hwr8 (by omega)
   have hfz:=fun o=>hrq8.frozen o
   have hl8:Seg w8 (some ⟨w2.heap.size,0,none⟩) (V % (D*BB ^ j)) (N+1):=by
    have:=hsl.splice (i:=j) (n:=n+1) (by rw [Nat.zero_add];exact hwr8) (by rw [Nat.zero_add];exact hs8) (by omega) (by omega)
    rwa [HR.out] at this
   have hd8:=hsd.wr hwr8 (ne_addr' (by omega))
   have hsz8:=hwr8.size
   go_wp2
   go_roundw
   case rel =>
    refine ⟨j,by omega,by go_num,?_,?_,?_,?_,?_,?_,?_,?_⟩
    ·exact hB.trans ((hwr8.below (by omega) (by omega)).setCell (show w.heap.size≤w4.heap.size by omega) _)
    ·rw [World.size_setCell];omega
    ·exact (hrd.of_wr hwr8 (by omega)).setCell _ _
    ·exact (hwr8.row hrl).setCell _ _
    ·exact hrq8.setCell _ _
    ·exact hd8.setOther (ne_addr' (by omega))
    ·exact hl8.setOther (ne_addr' (by omega))
    ·have:=hq8.setDown (by omega) HQ.out (v:=(dg (V / D) j:Nat)) rfl
     rwa [Nat.zero_add] at this
   case measure=>simp [intOf]
  ·have hk0:k=0:=by omega
   subst hk0
   rw [Nat.pow_zero,Nat.mul_one] at hsl
   rw [mix_zero] at hsq
   have hs2:=sl_h (some ⟨w2.heap.size,0,none⟩) (N+1) (N+1) n (n:Int) rfl (by omega)
   have hVDx:Hid (V / D=X / Y∧V % D / 2 ^ up=X % Y):=by
    show _∧_
    rw [HV.out,HDD.out,Nat.mul_div_mul_left _ _ (Nat.two_pow_pos up),Nat.mul_mod_mul_left,Nat.mul_div_cancel_left _ (Nat.two_pow_pos up)]
    exact ⟨rfl,rfl⟩
   have hrem:Seg wr (some ⟨w2.heap.size,0,none⟩) (V % D) n:=by
    have:=hsl.take n (by omega)
    rwa [Nat.mod_eq_of_lt (Nat.lt_trans (Nat.mod_lt _ hDp) HDB.out.1)] at this
   go_wp2_with (at_make;refine mk_law _ rfl _ _ rfl _ n rfl rfl rfl (by omega) ?_;intro w9 hnew9 hrow9)
   refine (shiftDown_any wr.heap.size 0 n n 0 _ _ (V % D) up w9 (by omega) hup31 hrow9 hnew9.seg (hrem.below hnew9.below (Nat.le_refl _)) (ne_addr' (by omega))).mono ?_
   rintro e w10 ⟨rfl,hwr10,hs10⟩
   rw [hVDx.out.2] at hs10
   rw [hVDx.out.1] at hsq
   have hB9:Below wr.heap.size wr w10:=hnew9.below.trans (hwr10.below (Nat.le_refl _) hnew9.below.size)
   have hB10:Below w.heap.size w w10:=hB.trans (hB9.mono (by omega))
   have hq10:=hsq.below hB9 (Nat.le_refl _)
   have hNq:New w w10 (some ⟨w4.heap.size,0,none⟩) (X / Y) (N - n+1):=⟨hq10,hB10,fun _=>⟨_,_,rfl,by omega,hrq.below hB9 hlt6⟩⟩
   have hNr:New w w10 (some ⟨wr.heap.size,0,none⟩) (X % Y) n:=⟨hs10,hB10,fun _=>⟨_,_,rfl,by omega,hwr10.row hrow9⟩⟩
   go_wp2_with fail
   refine (xX5 _ _ _ (X / Y) _ (Nat.le_refl _) (by omega) hq10).mono ?_
   rintro e w11 ⟨a4,rfl,rfl,ht4⟩
   go_wp2_with fail
   refine (xX5 _ _ _ (X % Y) _ (Nat.le_refl _) (by omega) hs10).mono ?_
   rintro e w12 ⟨a5,rfl,rfl,ht5⟩
   go_wp2
   go_ret2
   exact ⟨_,_,rfl,hNq.trm ht4,hNr.trm ht5⟩
set_option maxHeartbeats 4000000 in
theorem Div_any (ao ao2:Option Addr) (n cap X m cap2 Y:Nat) (w:World) (hc:n≤cap) (hm:n≤70368744177663) (hS:Seg w ao X n) (hc2:m≤cap2) (hm2:m≤70368744177663) (hS2:Seg w ao2 Y m) (hY0:Y≠0) :
  Calls Tryz.prog 120 #[.slice ao n cap,.slice ao2 m cap2] w fun e w'=>∃ aq ar,e=.returned (.tuple #[.slice aq (ln (X / Y)) (ln (X / Y)),.slice ar (ln (X % Y)) (ln (X % Y)),.int .i64 0])∧New w w' aq (X / Y) (ln (X / Y))∧New w w' ar (X % Y) (ln (X % Y)):=by
 have hl:=xQ4 hS.1
 have hl2:=xQ4 hS2.1
 have hy0:0 < ln Y:=by have:=mt ln_eq_zero.1 hY0;omega
 have hby:(((ln Y:Nat):Int) == 0)=false:=by rw [beq_eq_false_iff_ne];omega
 have HT:Hid (dg Y (ln Y - 1)≠0):=dg_top hY0
 have HY0:Hid (Y≠0):=hY0
 clear hY0
 by_cases hlt:X < Y
 ·have HL:Hid (X < Y):=hlt
  have hcm:cmpI X Y < 0:=by rw [cmpI_lt hlt];omega
  clear hlt
  go_enter Tryz.func120,Tryz.ntmps120
  go_wp2_with fail
  refine (xX5 _ _ _ X _ hc (by omega) hS).mono ?_
  rintro e w1 ⟨a1,rfl,rfl,ht⟩
  have hT:=hS.trm ht
  go_wp2_with fail
  refine (xX5 _ _ _ Y _ hc2 (by omega) hS2).mono ?_
  rintro e w1 ⟨a2,rfl,rfl,ht2⟩
  have hT2:=hS2.trm ht2
  go_wp2_with fail
  refine (Cmp_any _ _ _ _ X _ _ Y _ (Nat.le_refl _) (by omega) hT (Nat.le_refl _) (by omega) hT2).mono ?_
  rintro e w2 ⟨rfl,hdr⟩
  go_wp2_with fail
  refine (Norm_any _ _ _ X _ (Nat.le_refl _) (by omega) (hT.dr hdr)).mono ?_
  rintro e w3 ⟨a3,rfl,hn3⟩
  go_wp2
  go_ret3
  have e1:X / Y=0:=Nat.div_eq_of_lt HL.out
  have e2:X % Y=X:=Nat.mod_eq_of_lt HL.out
  have hB:=hn3.back (hdr.below w.heap.size)
  rw [e1,e2,xX7]
  exact ⟨none,a3,rfl,New.nil _ hB.below,hB⟩
 ·have HL:Hid (Y≤X):=Nat.le_of_not_lt hlt
  have hcm:¬ cmpI X Y < 0:=by unfold cmpI;rw [if_neg hlt];split <;> simp
  have hlm:ln Y≤ln X:=xZ4 (Nat.le_of_not_lt hlt)
  clear hlt
  by_cases h1:ln Y=1
  ·have hb1:(((ln Y:Nat):Int) == 1)=true:=by rw [h1];rfl
   have H1:Hid (ln Y=1):=h1
   have hYd:Y=dg Y 0∧Y < 4294967296:=by
    have:=xJ3 Y
    rw [h1,Nat.pow_one,BB_eq] at this
    exact ⟨by rw [dg0,Nat.mod_eq_of_lt this],this⟩
   have HYd:Hid (Y=dg Y 0∧Y < 4294967296):=hYd
   clear h1 hYd
   go_enter Tryz.func120,Tryz.ntmps120
   go_wp2_with fail
   refine (xX5 _ _ _ X _ hc (by omega) hS).mono ?_
   rintro e w1 ⟨a1,rfl,rfl,ht⟩
   have hT:=hS.trm ht
   go_wp2_with fail
   refine (xX5 _ _ _ Y _ hc2 (by omega) hS2).mono ?_
   rintro e w1 ⟨a2,rfl,rfl,ht2⟩
   have hT2:=hS2.trm ht2
   obtain ⟨b1,o1,rfl,hb1',_⟩:=hT.2 (by omega)
   obtain ⟨b2,o2,rfl,hb2',_⟩:=hT2.2 hy0
   go_wp2_with fail
   refine (Cmp_any _ _ _ _ X _ _ Y _ (Nat.le_refl _) (by omega) hT (Nat.le_refl _) (by omega) hT2).mono ?_
   rintro e w2 ⟨rfl,hdr⟩
   have hc0:=(hT2.dr hdr).cells 0 hy0
   rw [←HYd.out.1,Nat.add_zero] at hc0
   go_wp2_with fail
   refine (divByLimb_any _ _ _ _ X Y _ (by omega) (by omega) (Nat.pos_of_ne_zero HY0.out) HYd.out.2 (hT.dr hdr)).mono ?_
   rintro e w3 ⟨aq,ar,rfl,hq,hr⟩
   go_wp2
   go_ret3
   exact ⟨_,_,rfl,hq.back (hdr.below _),hr.back (hdr.below _)⟩
  ·have hb1:(((ln Y:Nat):Int) == 1)=false:=by rw [beq_eq_false_iff_ne];omega
   go_enter Tryz.func120,Tryz.ntmps120
   go_wp2_with fail
   refine (xX5 _ _ _ X _ hc (by omega) hS).mono ?_
   rintro e w1 ⟨a1,rfl,rfl,ht⟩
   have hT:=hS.trm ht
   go_wp2_with fail
   refine (xX5 _ _ _ Y _ hc2 (by omega) hS2).mono ?_
   rintro e w1 ⟨a2,rfl,rfl,ht2⟩
   have hT2:=hS2.trm ht2
   obtain ⟨b1,o1,rfl,hb1',_⟩:=hT.2 (by omega)
   obtain ⟨b2,o2,rfl,hb2',_⟩:=hT2.2 hy0
   go_wp2_with fail
   refine (Cmp_any _ _ _ _ X _ _ Y _ (Nat.le_refl _) (by omega) hT (Nat.le_refl _) (by omega) hT2).mono ?_
   rintro e w2 ⟨rfl,hdr⟩
   go_wp2_with fail
   refine (divByLimbs_any _ _ _ _ X _ _ _ _ Y _ (by omega) (by omega) hlm (Nat.le_refl _) (hT.dr hdr) (hT2.dr hdr) HT.out).mono ?_
   rintro e w3 ⟨aq,ar,rfl,hq,hr⟩
   go_wp2
   go_ret3
   exact ⟨_,_,rfl,hq.back (hdr.below _),hr.back (hdr.below _)⟩
theorem Div_is (ao ao2:Option Addr) (n cap X m cap2 Y P R:Nat) (w:World) (hc:n≤cap) (hm:n≤70368744177663) (hS:Seg w ao X n) (hc2:m≤cap2) (hm2:m≤70368744177663) (hS2:Seg w ao2 Y m) (h:X=P*Y+R) (hR:R < Y) :
  Calls Tryz.prog 120 #[.slice ao n cap,.slice ao2 m cap2] w fun e w'=>∃ aq ar,e=.returned (.tuple #[.slice aq (ln P) (ln P),.slice ar (ln R) (ln R),.int .i64 0])∧New w w' aq P (ln P)∧New w w' ar R (ln R):=by
 have e1:X / Y=P:=by rw [h,Nat.mul_comm,Nat.mul_add_div (by omega),Nat.div_eq_of_lt hR,Nat.add_zero]
 have e2:X % Y=R:=by rw [h,Nat.mul_comm,Nat.mul_add_mod,Nat.mod_eq_of_lt hR]
 have:=Div_any ao ao2 n cap X m cap2 Y w hc hm hS hc2 hm2 hS2 (by omega)
 rwa [e1,e2] at this
end Go.Proofs.YtgfmaejhdbmkoaaGreat
