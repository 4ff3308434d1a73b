import Derived.Test.YtgfmaejhdbmkoaaGreatWN7
set_option linter.unusedSimpArgs false
namespace Go.Proofs.YtgfmaejhdbmkoaaGreat
open Go.RowKit
set_option linter.unusedVariables false
def fmap (g:Rat→Rat) (l:Fo):Fo:=l.map fun p=>(p.1,g p.2)
theorem fmap_snoc (g:Rat→Rat) (l:Fo) (p:Int × Rat):fmap g (l ++ [p])=fmap g l ++ [(p.1,g p.2)]:=by unfold fmap;rw [List.map_append];rfl
def RAns (w:World) (r:Rat) (e:Ending) (w':World):Prop :=
 ∃ p q,e=.returned (.agg #[.bool (ng r.num),.slice p (ln (am r.num)) (ln (am r.num)),.slice q (ln r.den) (ln r.den)])∧New w w' p (am r.num) (ln (am r.num))∧New w w' q r.den (ln r.den)
def TInv (w:World) (g:Rat→Rat) (L:List Mo) (k:Nat) (vo:Value) (wr:World):Prop :=
 ∃ R:List Mo,R.length=k∧wr.ownsRow w.heap.size 57 4 vo R.length (xZ0 R)∧Below w.heap.size w wr∧(∀ p∈R,Grw vo wr p)∧fo R=fmap g (fo (L.take k))
set_option maxHeartbeats 2000000 in
set_option maxRecDepth 100000 in
theorem times1_is (cb:Nat) (C q:RatV) (w:World) (hl:C.lies w cb 0) (hC:C.ok w) (hq:q.ok w) (l1:C.n≤1099511627776) (l2:C.m≤1099511627776) (l3:q.n≤1099511627776) (l4:q.m≤1099511627776) :
  Calls Tryz.prog 115 #[.agg #[.bool q.s,.slice q.a q.n q.c,.slice q.b q.m q.e],.pointer (some ⟨cb,0,none⟩)] w (RAns w (C.val*q.val)):=by
 obtain ⟨h0,h1,h2⟩:=hl
 have G:=xQ1 (fun w' k1 k2 k3 k4=>qMul_is C.s C.a C.n C.c C.X C.b C.m C.e C.Y q.s q.a q.n q.c q.X q.b q.m q.e q.Y _ _ w' hC.2.1 l1 k1 hC.2.2.2.2.1 l2 k2 hq.2.1 l3 k3 hq.2.2.2.2.1 l4 k4 (low_mul C q))
 have k1:=hC.1
 have k2:=hC.2.2.2.1
 have k3:=hq.1
 have k4:=hq.2.2.2.1
 clear hC hq l1 l2 l3 l4
 obtain ⟨r,hr⟩:∃ r,C.val*q.val=r:=⟨_,rfl⟩
 rw [hr] at G ⊢
 clear hr
 go_enter Tryz.func115,Tryz.ntmps115
 have hB0:Below w.heap.size w ((w.alloc (.cells #[.bool q.s,.slice q.a q.n q.c,.slice q.b q.m q.e] 55)).alloc (.cells #[.bool false,.slice none 0 0,.slice none 0 0] 55)):=((Below.refl _ _).alloc (Nat.le_refl _) _).alloc (by simp only [World.size_alloc];omega) _
 have j0:=xQ0 hB0 h0
 have j1:=xQ0 hB0 h1
 have j2:=xQ0 hB0 h2
 simp only [Nat.zero_add] at j0 j1 j2
 go_wp2_with fail
 obtain ⟨W,hW⟩:∃ W,((w.alloc (.cells #[.bool q.s,.slice q.a q.n q.c,.slice q.b q.m q.e] 55)).alloc (.cells #[.bool false,.slice none 0 0,.slice none 0 0] 55))=W:=⟨_,rfl⟩
 have q00:W.cell? ⟨w.heap.size,0,none⟩=some (.bool q.s):=by subst hW;go_simp
 have q01:W.cell? ⟨w.heap.size,1,none⟩=some (.slice q.a q.n q.c):=by subst hW;go_simp
 have q02:W.cell? ⟨w.heap.size,2,none⟩=some (.slice q.b q.m q.e):=by subst hW;go_simp
 have r00:W.cell? ⟨w.heap.size+1,0,none⟩=some (.bool false):=by subst hW;go_simp
 have r01:W.cell? ⟨w.heap.size+1,1,none⟩=some (.slice none 0 0):=by subst hW;go_simp
 have r02:W.cell? ⟨w.heap.size+1,2,none⟩=some (.slice none 0 0):=by subst hW;go_simp
 have hB:Below w.heap.size w W:=by subst hW;exact (((Below.refl _ _).alloc (by (try simp only [World.size_alloc]);omega) _).alloc (by (try simp only [World.size_alloc]);omega) _)
 have hR0:Row W (w.heap.size+1):=by
  have:=xQ9 ((w.alloc (.cells #[.bool q.s,.slice q.a q.n q.c,.slice q.b q.m q.e] 55))) #[.bool false,.slice none 0 0,.slice none 0 0] 55
  try simp only [World.size_alloc] at this
  subst hW;exact this
 have hz:W.heap.size=w.heap.size+1+1:=by subst hW;simp only [World.size_alloc]
 rw [hW]
 clear hW
 have hBW:Below W.heap.size W W:=Below.refl _ _
 clear hB0 j0 j1 j2
 refine (G.out _ (k1.later hB) (k2.later hB) (k3.later hB) (k4.later hB)).mono ?_
 rintro e w1 ⟨p1,q1,rfl,hp1,hq1⟩
 have b1:=hp1.below
 replace hp1:=hp1.back hBW
 replace hq1:=hq1.back hBW
 replace hBW:=hBW.trans (b1.mono hBW.size)
 replace q00:=xQ0 b1 q00
 replace q01:=xQ0 b1 q01
 replace q02:=xQ0 b1 q02
 replace r00:=xQ0 b1 r00
 replace r01:=xQ0 b1 r01
 replace r02:=xQ0 b1 r02
 replace hR0:=xQ3 b1 hR0
 have fz0:=fun o=>hR0.frozen o
 go_wp2
 all_goals refine bodyPost_ret (v:=Value.agg #[Value.bool (ng r.num),Value.slice p1 (ln (am r.num)) (ln (am r.num)),Value.slice q1 (ln r.den) (ln r.den)]) (by rw [xQ5 rfl];go_simp) rfl ?_
 all_goals exact ⟨p1,q1,rfl,hp1.mid hB (((((Mid.refl _ _ _).set _ _ (by omega) (by omega) _).set _ _ (by omega) (by omega) _).set _ _ (by omega) (by omega) _)),hq1.mid hB (((((Mid.refl _ _ _).set _ _ (by omega) (by omega) _).set _ _ (by omega) (by omega) _).set _ _ (by omega) (by omega) _))⟩
theorem mul_sz {w w':World} {C q:RatV} {K:Nat} (hC:C.ok w) (hq:q.ok w') (hK:C.n+C.m+q.n+q.m≤K):sz (K+2) (C.val*q.val) :=
 ln1 (i:=C.n+q.n) (j:=(C.m+1)+(q.m+1)) (low_mul C q) (lt_prod (Nat.lt_of_le_of_lt (rn_am _ _ _) hC.1.1) (Nat.lt_of_le_of_lt (rn_am _ _ _) hq.1.1)) (lt_prod (by show rd _ < _;exact rd_lt hC.2.2.2.1.1) (by show rd _ < _;exact rd_lt hq.2.2.2.1.1)) (by omega) (by omega)
theorem fmap_length (g:Rat→Rat) (l:Fo):(fmap g l).length=l.length:=List.length_map _
theorem TInv.ans {w:World} {g:Rat→Rat} {L:List Mo} {vo:Value} {w':World} (h:TInv w g L L.length vo w'):FAns w (fmap g (fo L)) (.returned vo) w':=by
 obtain ⟨R,hl,hO,hB,hR,hf⟩:=h
 obtain ⟨a,c,rfl,hs⟩:=Sl.of hO
 exact ⟨a,c,R,rfl,hB,hs,fun p hp=>(hR p hp).ent,by rw [hf,List.take_length]⟩
theorem FAns.from {w W:World} {T:Fo} {e:Ending} {w':World} (h:FAns W T e w') (hB:Below w.heap.size w W):FAns w T e w':=by
 obtain ⟨a,c,R,he,hb,hs,hE,hf⟩:=h
 exact ⟨a,c,R,he,hB.trans (hb.mono hB.size),hs,hE,hf⟩
end Go.Proofs.YtgfmaejhdbmkoaaGreat
