/-
  The reference's Build.
-/
import Derived.Test.YtibeiggedmabkaaDoorSZ3
import Derived.Test.YtibeiggedmabkaaDoorSXA
namespace Go.Proofs.YtibeiggedmabkaaDoor
open Go.RowKit
set_option linter.unusedVariables false
set_option linter.unusedSimpArgs false
/-- a Built, as it is handed back -/
def BuiltA (w : World) (base : Nat) (s : BS) (code pl : Int) (r : Ending) : Prop :=
  ∃ ov lv x0 P, r = .returned (.agg #[x0.v, ov, .int .i64 code, .int .i64 pl]) ∧ BdAt w base ov lv x0 P ∧ RelB (lv ++ [x0]) s ∧ (∀ x ∈ lv ++ [x0], x.K.length ≤ 900000000)
def BuildE (w : World) (base : Nat) (x : BR) (r : Ending) : Prop :=
  match x with
  | .ok s => BuiltA w base s 0 0 r
  | .bad s c q => BuiltA w base s c q r
def lvR : Lv := ⟨⟨0, ⟨#[]⟩, 0, 0, 0, 0⟩, .slice none 0 0, [], []⟩
/-- an opening bracket as the reference keeps it -/
def opR (T : Tok) : Tok := ⟨0, ⟨#[]⟩, T.b, 0, T.l, T.c⟩
theorem RelB.openR {lv : List Lv} {s : BS} (h : RelB lv s) (T : Tok) : RelB (⟨opR T, .slice none 0 0, [], []⟩ :: lv) { s with opn := ⟨T.b, T.l, T.c, []⟩ :: s.opn } :=
  .more _ _ _ _ _ h rfl rfl rfl rfl rfl rfl
theorem RelB.tail {x : Lv} {L : List Lv} {s : BS} {o : Opn} {os : List Opn} (h : RelB (x :: L) s) (hs : s.opn = o :: os) (e : Int) : RelB L ⟨s.nodes, os⟩ ∧ Nd.mk (shT x.t e) x.N = o.node e := by
  cases h with
  | one => cases hs
  | more _ _ ns os2 o2 h hk ht hb hl hc hn =>
    simp only [List.cons.injEq] at hs
    obtain ⟨rfl, rfl⟩ := hs
    exact ⟨h, by simp only [Opn.node, shT, hk, ht, hb, hl, hc, hn]⟩
theorem own_below2 {w w' : World} {base : Nat} {e : TypeId} {size : Nat} {v : Value} {n : Nat} {xs : List Value} (h : w.ownsRow base e size v n xs) (hb : Below w.heap.size w w') : w'.ownsRow base e size v n xs := own_kp h (Kp.of (X := fun _ => False) hb) (fun _ _ c => c)
theorem keepB {w w' : World} {B c : Nat} {cur : Array Value} {t : TypeId} (h : Blk w c cur t) (hb : Below B w w') (hc : c < B) : Blk w' c cur t := (hb.block c hc).trans h
theorem bd_none {w : World} {base : Nat} (hb : base ≤ w.heap.size) : BdAt w base (.slice none 0 0) [] lvR (fun _ => False) :=
  ⟨World.ownsRow_nil _ _ _ _, fun x hx => by rw [List.mem_singleton.1 hx]; exact World.ownsRow_nil _ _ _ _, fun x hx => by rw [List.mem_singleton.1 hx]; exact ⟨rfl, fun i hi => absurd hi (Nat.not_lt_zero _)⟩, List.pairwise_singleton _ _, fun x hx g hg => by rw [List.mem_singleton.1 hx] at hg; simp [lvR, Value.ownBlock] at hg, fun g hg => hg.elim, hb⟩
set_option maxHeartbeats 16000000 in
set_option maxRecDepth 100000 in
theorem build_is (v : Value) (ts : List Tok) (base2 : Nat) (w : World) (hv : w.ownsRow base2 32 6 v ts.length (tokCells ts)) (hts : ts.length ≤ 900000000) : Calls Tryd.prog 39 #[v] w fun r w' => BuildE w' (w.heap.size + 2) (buildB b0 ts) r ∧ Below w.heap.size w w' := by
  obtain ⟨a0, cv, ev⟩ := own_sl hv
  subst ev
  have HV := hideT hv
  clear hv
  have b1 := below_alloc (w := w) (.cells #[.slice none 0 0, .slice none 0 0, .int .i64 0, .int .i64 0] 54)
  have q2 := Blk.new w #[.slice none 0 0, .slice none 0 0, .int .i64 0, .int .i64 0] 54
  have e1 : (w.alloc (.cells #[.slice none 0 0, .slice none 0 0, .int .i64 0, .int .i64 0] 54)).heap.size = w.heap.size + 1 := by simp
  have b2 := below_alloc (w := w.alloc (.cells #[.slice none 0 0, .slice none 0 0, .int .i64 0, .int .i64 0] 54)) (.cells #[.slice none 0 0, .slice none 0 0, .int .i64 0, .int .i64 0] 54)
  have q3 := Blk.new (w.alloc (.cells #[.slice none 0 0, .slice none 0 0, .int .i64 0, .int .i64 0] 54)) #[.slice none 0 0, .slice none 0 0, .int .i64 0, .int .i64 0] 54
  rw [e1] at q3
  replace q2 := q2.later b2
  have hB := b1.trans (b2.mono b1.size)
  have e2 : w.heap.size + 2 ≤ ((w.alloc (.cells #[.slice none 0 0, .slice none 0 0, .int .i64 0, .int .i64 0] 54)).alloc (.cells #[.slice none 0 0, .slice none 0 0, .int .i64 0, .int .i64 0] 54)).heap.size := by simp
  have hbd := bd_none (w := (w.alloc (.cells #[.slice none 0 0, .slice none 0 0, .int .i64 0, .int .i64 0] 54)).alloc (.cells #[.slice none 0 0, .slice none 0 0, .int .i64 0, .int .i64 0] 54)) e2
  have INI := hideT (And.intro q2 (And.intro q3 (And.intro hB hbd)))
  clear b1 b2 q2 q3 e1 e2 hB hbd
  go_enter Tryd.func39, Tryd.ntmps39
  go_wp2_with fail
  go_loopw [4] (fun i wr => ∃ (k : Nat) (s : BS) (ov : Value) (lv : List Lv) (x0 : Lv) (P : Nat → Prop), k ≤ ts.length ∧ lv.length ≤ 1000 ∧ i = .int .i64 k ∧ buildB b0 (ts.take k) = .ok s ∧ Blk wr (w.heap.size + 1) #[x0.v, ov, .int .i64 0, .int .i64 0] 54 ∧ Blk wr w.heap.size #[.slice none 0 0, .slice none 0 0, .int .i64 0, .int .i64 0] 54 ∧ BdAt wr (w.heap.size + 2) ov lv x0 P ∧ RelB (lv ++ [x0]) s ∧ (∀ x ∈ lv ++ [x0], x.K.length ≤ k) ∧ Below w.heap.size w wr) (fun i _ => ts.length - (intOf i).toNat)
  case atStart => exact ⟨0, b0, .slice none 0 0, [], lvR, fun _ => False, Nat.zero_le _, Nat.zero_le _, rfl, rfl, INI.out.2.1, INI.out.1, INI.out.2.2.2, .one lvR, fun x hx => by rw [List.mem_singleton.1 hx]; exact Nat.le_refl _, INI.out.2.2.1⟩
  case round =>
    clear INI
    obtain ⟨k, s, ov, lv, x0, P, hk, hfw, rfl, hbk, q3, q2, hbd, hrl, hkl, hB⟩ := hrel
    have HBK := hideT hbk
    clear hbk
    obtain ⟨oa, oc, eo⟩ := own_sl hbd.own
    obtain ⟨na, nc, en⟩ := own_sl (hbd.ok x0 (by simp))
    have hlen := hrl.len
    simp only [List.length_append, List.length_cons, List.length_nil] at hlen
    have HLEN := hideT hlen
    clear hlen
    by_cases hlt : k < ts.length
    · have hki : ((k : Int) < (ts.length : Int)) := by omega
      have hvr : wr.ownsRow base2 32 6 (.slice a0 ts.length cv) ts.length (tokCells ts) := own_below2 HV.out hB
      rcases hvr.2 with ⟨_, h0⟩ | ⟨g1, p1, r1, hv1, _⟩
      · omega
      injection hv1 with hv1 _ hc1
      subst hv1
      obtain ⟨t, ht⟩ : ∃ t, ts[k] = t := ⟨_, rfl⟩
      have z0 := own_tok hvr k 0 hlt (by decide)
      have z1 := own_tok hvr k 1 hlt (by decide)
      have z2 := own_tok hvr k 2 hlt (by decide)
      have z3 := own_tok hvr k 3 hlt (by decide)
      have z4 := own_tok hvr k 4 hlt (by decide)
      have z5 := own_tok hvr k 5 hlt (by decide)
      rw [ht] at z0 z1 z2 z3 z4 z5
      simp only [Tok.cells, List.getElem?_toArray, List.getElem?_cons_zero, List.getElem?_cons_succ] at z0 z1 z2 z3 z4 z5
      rw [Nat.add_zero] at z0
      have HT := hideT ht
      have HK := hideT hlt
      clear ht hvr hc1
      have bA := below_alloc (w := wr) (.cells #[.int .i64 t.k, .string t.t, .int .i64 t.b, .int .i64 t.e, .int .i64 t.l, .int .i64 t.c] 32)
      have qA := Blk.new wr #[.int .i64 t.k, .string t.t, .int .i64 t.b, .int .i64 t.e, .int .i64 t.l, .int .i64 t.c] 32
      have hwr := hB.size
      have hlw := hbd.low
      replace q3 := q3.later bA
      replace q2 := q2.later bA
      replace hbd := hbd.later bA
      replace hB := hB.trans (bA.mono hB.size)
      have hsA := bA.size
      clear bA
      go_upto_region 6 with fail
      generalize wr.alloc (.cells #[.int .i64 t.k, .string t.t, .int .i64 t.b, .int .i64 t.e, .int .i64 t.l, .int .i64 t.c] 32) = W at qA q3 q2 hbd hB hsA ⊢
      clear z0 z1 z2 z3 z4 z5
      obtain ⟨c5, hc5⟩ : ∃ c5, wr.heap.size = c5 := ⟨_, rfl⟩
      rw [hc5] at qA hwr hlw hsA ⊢
      clear hc5
      have p0 := qA.cell 0
      have p1 := qA.cell 1
      have p2 := qA.cell 2
      have p3 := qA.cell 3
      have p4 := qA.cell 4
      have p5 := qA.cell 5
      simp only [Tok.cells, List.getElem?_toArray, List.getElem?_cons_zero, List.getElem?_cons_succ] at p0 p1 p2 p3 p4 p5
      have HBD := hideT (And.intro hbd (And.intro hrl hkl))
      clear hbd hrl hkl
      subst eo
      rw [en] at q3
      have y0 := q3.cell 0
      have y1 := q3.cell 1
      have y2 := q3.cell 2
      have y3 := q3.cell 3
      simp only [Tok.cells, List.getElem?_toArray, List.getElem?_cons_zero, List.getElem?_cons_succ] at y0 y1 y2 y3
      by_cases hk1 : t.k = 1
      · have xk : ((t.k : Int) == 1) = true := by rw [beq_iff_eq]; omega
        by_cases hd : lv.length = 1000
        · have xd : ((lv.length : Int) == 1000) = true := by rw [beq_iff_eq]; omega
          have HST := hideT (show stepB s t = .bad s 132 t.b by rw [stepB, if_pos hk1, if_pos (by have := HLEN.out; omega)])
          clear hk1 hd
          go_wp2_with fail
          have HBW := hideT HBD.out.1
          clear y0 y1 y2 y3
          obtain ⟨bd0, hr0, hk0⟩ := HBD.out
          clear HBW
          have bD : Below W.heap.size W W.drew := (Below.refl _ _).drew
          have kp2 := below_cell bD p2
          replace bd0 := bd0.later bD
          replace hB := hB.trans (bD.mono hB.size)
          replace qA := qA.later bD
          replace q2 := q2.later bD
          replace q3 := q3.later bD
          refine wp_region_held_drew (S := fun w' => w'.cell? ⟨c5, 2, none⟩ = some (.int .i64 t.b)) (by kernel_rfl) kp2 (fun hHeld => ?_)
          clear kp2
          generalize W.drew = w8 at bD bd0 qA q2 q3 hB hHeld ⊢
          clear bD
          refine take' 0 (v := ?_) rfl (by kernel_rfl) (by kernel_rfl) (by kernel_rfl) (fun _ _ _ h => h) (Or.inl ⟨by rfl, ?_⟩) (by assumption) ?_
          rotate_left
          · intro w9 hSw
            go_simp
            first | done | with_reducible rfl
          simp only [Act.put, List.setIfInBounds_toArray, List.set_cons_zero, List.set_cons_succ]
          refine take' 2 (v := ?_) rfl (by kernel_rfl) (by kernel_rfl) (by kernel_rfl) (fun _ _ _ h => h) (Or.inl ⟨by rfl, ?_⟩) (by assumption) ?_
          rotate_left
          · intro w9 hSw
            go_simp
            first | done | with_reducible rfl
          simp only [Act.put, List.setIfInBounds_toArray, List.set_cons_zero, List.set_cons_succ]
          refine take' 1 (v := ?_) rfl (by kernel_rfl) (by kernel_rfl) (by kernel_rfl) (fun _ _ _ h => h) (Or.inl ⟨by rfl, ?_⟩) (by assumption) ?_
          rotate_left
          · intro w9 hSw
            go_simp
            first | done | with_reducible rfl
          simp only [Act.put, List.setIfInBounds_toArray, List.set_cons_zero, List.set_cons_succ]
          refine wpAnyH_ready (rs := [3]) (by kernel_rfl) (by simp) ?_
          refine cons' rfl (fun KK hKK => ?_)
          have fz := fun o => q3.frozen o
          have u1 := q3.cell 2
          simp only [Tok.cells, List.getElem?_toArray, List.getElem?_cons_zero, List.getElem?_cons_succ] at u1
          go_simp
          clear fz u1
          obtain ⟨ks, q8⟩ := q3.set (o := 2) (.int .i64 132)
          have q9 : Blk (w8.setCell ⟨w.heap.size + 1, 2, none⟩ (.int .i64 132)) (w.heap.size + 1) #[.slice na x0.K.length nc, .slice oa lv.length oc, .int .i64 132, .int .i64 0] 54 := by simpa using q8
          clear q3 q8
          have q3 := q9
          clear q9
          have hH2 := ks.cell (by omega) hHeld
          replace qA := qA.ch ks (by omega)
          replace q2 := q2.ch ks (by omega)
          replace hB := hB.trans (ks.below (B := w.heap.size) (by omega))
          replace bd0 := bd0.kp (Kp.ch (X := fun i => i = w.heap.size + 1) ks rfl) (fun i e => Or.inl (by omega))
          clear ks
          generalize w8.setCell ⟨w.heap.size + 1, 2, none⟩ (.int .i64 132) = w9 at hH2 q3 qA q2 hB bd0 ⊢
          refine hKK.out _ _ hH2 ?_
          clear hHeld
          intro hHeld
          clear hKK KK
          try simp only [Act.put, List.setIfInBounds_toArray, List.set_cons_zero, List.set_cons_succ]
          clear hH2
          refine take' 4 (v := ?_) rfl (by kernel_rfl) (by kernel_rfl) (by kernel_rfl) (fun _ _ _ h => h) (Or.inl ⟨by rfl, ?_⟩) (by assumption) ?_
          rotate_left
          · intro w9 hSw
            go_simp
            first | done | with_reducible rfl
          simp only [Act.put, List.setIfInBounds_toArray, List.set_cons_zero, List.set_cons_succ]
          refine wpAnyH_ready (rs := [5]) (by kernel_rfl) (by simp) ?_
          refine cons' rfl (fun KK hKK => ?_)
          have fz := fun o => q3.frozen o
          have u1 := q3.cell 3
          simp only [Tok.cells, List.getElem?_toArray, List.getElem?_cons_zero, List.getElem?_cons_succ] at u1
          go_simp
          clear fz u1
          obtain ⟨ks, q8⟩ := q3.set (o := 3) (.int .i64 t.b)
          have q9 : Blk (w9.setCell ⟨w.heap.size + 1, 3, none⟩ (.int .i64 t.b)) (w.heap.size + 1) #[.slice na x0.K.length nc, .slice oa lv.length oc, .int .i64 132, .int .i64 t.b] 54 := by simpa using q8
          clear q3 q8
          have q3 := q9
          clear q9
          have hH2 := ks.cell (by omega) hHeld
          replace qA := qA.ch ks (by omega)
          replace q2 := q2.ch ks (by omega)
          replace hB := hB.trans (ks.below (B := w.heap.size) (by omega))
          replace bd0 := bd0.kp (Kp.ch (X := fun i => i = w.heap.size + 1) ks rfl) (fun i e => Or.inl (by omega))
          clear ks
          generalize w9.setCell ⟨w.heap.size + 1, 3, none⟩ (.int .i64 t.b) = w10 at hH2 q3 qA q2 hB bd0 ⊢
          refine hKK.out _ _ hH2 ?_
          clear hHeld
          intro hHeld
          clear hKK KK
          try simp only [Act.put, List.setIfInBounds_toArray, List.set_cons_zero, List.set_cons_succ]
          clear hH2
          refine wpAnyH_done (by kernel_rfl) ?_ _
          clear hHeld
          have y0 := q3.cell 0
          have y1 := q3.cell 1
          have y2 := q3.cell 2
          have y3 := q3.cell 3
          have z0 := q2.cell 0
          have z1 := q2.cell 1
          have z2 := q2.cell 2
          have z3 := q2.cell 3
          simp only [Tok.cells, List.getElem?_toArray, List.getElem?_cons_zero, List.getElem?_cons_succ] at y0 z0 y1 z1 y2 z2 y3 z3
          have fz := fun o => q2.frozen o
          go_wp2
          clear fz y0 z0 y1 z1 y2 z2 y3 z3
          obtain ⟨k9, q9⟩ := q2.set4s (.slice na x0.K.length nc) (.slice oa lv.length oc) (.int .i64 132) (.int .i64 t.b)
          have u0 := q9.cell 0
          have u1 := q9.cell 1
          have u2 := q9.cell 2
          have u3 := q9.cell 3
          simp only [Tok.cells, List.getElem?_toArray, List.getElem?_cons_zero, List.getElem?_cons_succ] at u0 u1 u2 u3
          replace bd0 := bd0.kp (Kp.ch (X := fun i => i = w.heap.size) k9 rfl) (fun i e => Or.inl (by omega))
          replace hB := hB.trans (k9.below (B := w.heap.size) (Nat.le_refl _))
          clear k9 q9
          generalize ((((w10.setCell ⟨w.heap.size, 0, none⟩ (.slice na x0.K.length nc)).setCell ⟨w.heap.size, 1, none⟩ (.slice oa lv.length oc)).setCell ⟨w.heap.size, 2, none⟩ (.int .i64 132)).setCell ⟨w.heap.size, 3, none⟩ (.int .i64 t.b)) = w11 at bd0 hB u0 u1 u2 u3 ⊢
          have hb2 : buildB b0 ts = .bad s 132 t.b := by have e := buildB_ok HBK.out t; rw [HST.out, ← HT.out, ← take_snoc HK.out] at e; have := buildB_bad e (ts.drop (k + 1)); rw [List.take_append_drop] at this; exact HT.out ▸ this
          refine bodyPost_ret (v := .agg #[.slice na x0.K.length nc, .slice oa lv.length oc, .int .i64 132, .int .i64 t.b]) (by rw [results_c rfl]; go_simp) rfl ?_
          refine ⟨?_, hB⟩
          rw [hb2]
          exact ⟨_, lv, x0, P, by rw [en], bd0, hr0, fun x hx => by have := hk0 x hx; omega⟩
        · have xd : ((lv.length : Int) == 1000) = false := by rw [beq_eq_false_iff_ne]; omega
          have HST := hideT (show stepB s t = .ok { s with opn := ⟨t.b, t.l, t.c, []⟩ :: s.opn } by rw [stepB, if_pos hk1, if_neg (by have := HLEN.out; omega)])
          have hfw2 : lv.length + 1 ≤ 1000 := by omega
          clear hk1 hd
          obtain ⟨bd0, hr0, hk0⟩ := HBD.out
          have b5 := below_alloc (w := W) (.cells #[.int .i64 0, .string ⟨#[]⟩, .int .i64 t.b, .int .i64 0, .int .i64 t.l, .int .i64 t.c, .slice none 0 0] 34)
          have hnew := heap_alloc_new W (.cells #[.int .i64 0, .string ⟨#[]⟩, .int .i64 t.b, .int .i64 0, .int .i64 t.l, .int .i64 t.c, .slice none 0 0] 34)
          have bd5 := bd0.later b5
          have q35 := q3.later b5
          have q25 := q2.later b5
          have hB5 := hB.trans (b5.mono hB.size)
          have hs5 : w.heap.size + 2 ≤ (W.alloc (.cells #[.int .i64 0, .string ⟨#[]⟩, .int .i64 t.b, .int .i64 0, .int .i64 t.l, .int .i64 t.c, .slice none 0 0] 34)).heap.size := bd5.low
          have e5 : W.heap.size + 1 ≤ (W.alloc (.cells #[.int .i64 0, .string ⟨#[]⟩, .int .i64 t.b, .int .i64 0, .int .i64 t.l, .int .i64 t.c, .slice none 0 0] 34)).heap.size := by simp
          have E5 := hideT (show (W.alloc (.cells #[.int .i64 0, .string ⟨#[]⟩, .int .i64 t.b, .int .i64 0, .int .i64 t.l, .int .i64 t.c, .slice none 0 0] 34)).heap.size = W.heap.size + 1 by simp)
          obtain ⟨i0, hi0, hz0, hz1, hz2⟩ := info_parts info_Node
          have own5 := bd5.own
          rw [← lsOf_len lv] at own5
          have hlsl := lsOf_len lv
          skip
          have HO := hideT (And.intro own5 (And.intro bd5 (And.intro hr0 hk0)))
          rw [hlsl] at own5
          clear bd0 bd5 hr0 hk0 hlsl
          go_wp2_with (at_builtin; refine wpList_append_lies _ (by rfl) _ _ _ (by rfl) (w.heap.size + 2) 34 i0 _ 7 80 Tryd.underlying22 hi0 hz0 hz1 hz2 rfl (by omega) (.slice oa lv.length oc) lv.length (nvCells (lsOf lv)) (by rfl) own5 ⟨W.heap.size, 0, none⟩ 1 1 [.int .i64 0, .string ⟨#[]⟩, .int .i64 t.b, .int .i64 0, .int .i64 t.l, .int .i64 t.c, .slice none 0 0] (by rfl) (by rfl) (World.news_of_block (cs := #[.int .i64 0, .string ⟨#[]⟩, .int .i64 t.b, .int .i64 0, .int .i64 t.l, .int .i64 t.c, .slice none 0 0]) (t := 34) (fr := (0, 0)) hnew) (by simp [Value.oneCell']) (by omega) (by simp only [maxLen]; omega) (by omega) hs5 (W.alloc (.cells #[.int .i64 0, .string ⟨#[]⟩, .int .i64 t.b, .int .i64 0, .int .i64 t.l, .int .i64 t.c, .slice none 0 0] 34)).heap.size rfl ?_)
          intro gb cap w3 hown4 hgrow hat hlt4
          have kg := Kp.grown hgrow (fun k e => e)
          obtain ⟨_, bd5, hr0, hk0⟩ := HO.out
          have bd6 := bd5.open (opR t) kg (ov' := .slice (some ⟨gb, 0, none⟩) (lv.length + 1) cap) (by rw [nvCells_app]; exact hown4) (by rcases hat with c | c; exact Or.inl (by rw [c]; rfl); exact Or.inr ⟨gb, rfl, by have := E5.out; omega⟩)
          have hnv : ∀ g, (Value.slice oa lv.length oc).ownBlock = some g → w.heap.size + 2 ≤ g := fun g hg => (own_lt bd5.own hg).1
          have q36 := kg.blk q35 (fun c => by have := hnv _ c; omega)
          have q26 := kg.blk q25 (fun c => by have := hnv _ c; omega)
          have hB6 := hB5.trans (kg.below (B := w.heap.size) (by omega) (fun g hg c => by have := hnv _ c; omega))
          clear HO own5 hown4 hgrow kg hat hlt4 hnew b5 q35 q25 hB5 hs5 e5 hi0 hz0 hz1 hz2 bd5 q3 q2 hB qA p0 p1 p2 p3 p4 p5 y0 y1 y2 y3 hnv
          have y1 := q36.cell 1
          simp only [Tok.cells, List.getElem?_toArray, List.getElem?_cons_zero, List.getElem?_cons_succ] at y1
          have fz := fun o => q36.frozen o
          go_wp2
          clear fz y1
          obtain ⟨k9, q9⟩ := q36.set (o := 1) (.slice (some ⟨gb, 0, none⟩) (lv.length + 1) cap)
          have q9b : Blk (w3.setCell ⟨w.heap.size + 1, 1, none⟩ (.slice (some ⟨gb, 0, none⟩) (lv.length + 1) cap)) (w.heap.size + 1) #[.slice na x0.K.length nc, .slice (some ⟨gb, 0, none⟩) (lv.length + 1) cap, .int .i64 0, .int .i64 0] 54 := by simpa using q9
          have bd9 := bd6.kp (Kp.ch (X := fun i => i = w.heap.size + 1) k9 rfl) (fun i e => Or.inl (by omega))
          have hB9 := hB6.trans (k9.below (B := w.heap.size) (by omega))
          have q29 := q26.ch k9 (by omega)
          clear k9 q9 q36 q26 bd6 hB6
          generalize w3.setCell ⟨w.heap.size + 1, 1, none⟩ (.slice (some ⟨gb, 0, none⟩) (lv.length + 1) cap) = w11 at q9b bd9 hB9 q29 ⊢
          go_roundw
          case rel => exact ⟨k + 1, { s with opn := ⟨t.b, t.l, t.c, []⟩ :: s.opn }, _, ⟨opR t, .slice none 0 0, [], []⟩ :: lv, x0, P, HK.out, hfw2, by go_num, by rw [take_snoc HK.out, HT.out, buildB_ok HBK.out t]; exact HST.out, by rw [en]; exact q9b, q29, bd9, hr0.openR t, fun x hx => by rcases List.mem_cons.1 hx with e | e; (rw [e]; exact Nat.zero_le _); (have := hk0 x e; omega), hB9⟩
          case measure => simp [intOf]; have := HK.out; omega
      · have xk : ((t.k : Int) == 1) = false := by rw [beq_eq_false_iff_ne]; omega
        by_cases hk2 : t.k = 2
        · have xk2 : ((t.k : Int) == 2) = true := by rw [beq_iff_eq]; omega
          rcases hso : s.opn with _ | ⟨o, os⟩
          · have xd : ((lv.length : Int) == 0) = true := by rw [beq_iff_eq]; have hlen := HLEN.out; rw [hso] at hlen; simp at hlen; rw [hlen]; rfl
            have HST := hideT (show stepB s t = .bad s 130 t.b by rw [stepB, if_neg hk1, if_pos hk2, hso])
            clear hk1 hk2 hso
            go_wp2_with fail
            have HBW := hideT HBD.out.1
            clear y0 y1 y2 y3
            obtain ⟨bd0, hr0, hk0⟩ := HBD.out
            clear HBW
            have bD : Below W.heap.size W W.drew := (Below.refl _ _).drew
            have kp2 := below_cell bD p2
            replace bd0 := bd0.later bD
            replace hB := hB.trans (bD.mono hB.size)
            replace qA := qA.later bD
            replace q2 := q2.later bD
            replace q3 := q3.later bD
            refine wp_region_held_drew (S := fun w' => w'.cell? ⟨c5, 2, none⟩ = some (.int .i64 t.b)) (by kernel_rfl) kp2 (fun hHeld => ?_)
            clear kp2
            generalize W.drew = w8 at bD bd0 qA q2 q3 hB hHeld ⊢
            clear bD
            refine take' 0 (v := ?_) rfl (by kernel_rfl) (by kernel_rfl) (by kernel_rfl) (fun _ _ _ h => h) (Or.inl ⟨by rfl, ?_⟩) (by assumption) ?_
            rotate_left
            · intro w9 hSw
              go_simp
              first | done | with_reducible rfl
            simp only [Act.put, List.setIfInBounds_toArray, List.set_cons_zero, List.set_cons_succ]
            refine take' 2 (v := ?_) rfl (by kernel_rfl) (by kernel_rfl) (by kernel_rfl) (fun _ _ _ h => h) (Or.inl ⟨by rfl, ?_⟩) (by assumption) ?_
            rotate_left
            · intro w9 hSw
              go_simp
              first | done | with_reducible rfl
            simp only [Act.put, List.setIfInBounds_toArray, List.set_cons_zero, List.set_cons_succ]
            refine take' 1 (v := ?_) rfl (by kernel_rfl) (by kernel_rfl) (by kernel_rfl) (fun _ _ _ h => h) (Or.inl ⟨by rfl, ?_⟩) (by assumption) ?_
            rotate_left
            · intro w9 hSw
              go_simp
              first | done | with_reducible rfl
            simp only [Act.put, List.setIfInBounds_toArray, List.set_cons_zero, List.set_cons_succ]
            refine wpAnyH_ready (rs := [3]) (by kernel_rfl) (by simp) ?_
            refine cons' rfl (fun KK hKK => ?_)
            have fz := fun o => q3.frozen o
            have u1 := q3.cell 2
            simp only [Tok.cells, List.getElem?_toArray, List.getElem?_cons_zero, List.getElem?_cons_succ] at u1
            go_simp
            clear fz u1
            obtain ⟨ks, q8⟩ := q3.set (o := 2) (.int .i64 130)
            have q9 : Blk (w8.setCell ⟨w.heap.size + 1, 2, none⟩ (.int .i64 130)) (w.heap.size + 1) #[.slice na x0.K.length nc, .slice oa lv.length oc, .int .i64 130, .int .i64 0] 54 := by simpa using q8
            clear q3 q8
            have q3 := q9
            clear q9
            have hH2 := ks.cell (by omega) hHeld
            replace qA := qA.ch ks (by omega)
            replace q2 := q2.ch ks (by omega)
            replace hB := hB.trans (ks.below (B := w.heap.size) (by omega))
            replace bd0 := bd0.kp (Kp.ch (X := fun i => i = w.heap.size + 1) ks rfl) (fun i e => Or.inl (by omega))
            clear ks
            generalize w8.setCell ⟨w.heap.size + 1, 2, none⟩ (.int .i64 130) = w9 at hH2 q3 qA q2 hB bd0 ⊢
            refine hKK.out _ _ hH2 ?_
            clear hHeld
            intro hHeld
            clear hKK KK
            try simp only [Act.put, List.setIfInBounds_toArray, List.set_cons_zero, List.set_cons_succ]
            clear hH2
            refine take' 4 (v := ?_) rfl (by kernel_rfl) (by kernel_rfl) (by kernel_rfl) (fun _ _ _ h => h) (Or.inl ⟨by rfl, ?_⟩) (by assumption) ?_
            rotate_left
            · intro w9 hSw
              go_simp
              first | done | with_reducible rfl
            simp only [Act.put, List.setIfInBounds_toArray, List.set_cons_zero, List.set_cons_succ]
            refine wpAnyH_ready (rs := [5]) (by kernel_rfl) (by simp) ?_
            refine cons' rfl (fun KK hKK => ?_)
            have fz := fun o => q3.frozen o
            have u1 := q3.cell 3
            simp only [Tok.cells, List.getElem?_toArray, List.getElem?_cons_zero, List.getElem?_cons_succ] at u1
            go_simp
            clear fz u1
            obtain ⟨ks, q8⟩ := q3.set (o := 3) (.int .i64 t.b)
            have q9 : Blk (w9.setCell ⟨w.heap.size + 1, 3, none⟩ (.int .i64 t.b)) (w.heap.size + 1) #[.slice na x0.K.length nc, .slice oa lv.length oc, .int .i64 130, .int .i64 t.b] 54 := by simpa using q8
            clear q3 q8
            have q3 := q9
            clear q9
            have hH2 := ks.cell (by omega) hHeld
            replace qA := qA.ch ks (by omega)
            replace q2 := q2.ch ks (by omega)
            replace hB := hB.trans (ks.below (B := w.heap.size) (by omega))
            replace bd0 := bd0.kp (Kp.ch (X := fun i => i = w.heap.size + 1) ks rfl) (fun i e => Or.inl (by omega))
            clear ks
            generalize w9.setCell ⟨w.heap.size + 1, 3, none⟩ (.int .i64 t.b) = w10 at hH2 q3 qA q2 hB bd0 ⊢
            refine hKK.out _ _ hH2 ?_
            clear hHeld
            intro hHeld
            clear hKK KK
            try simp only [Act.put, List.setIfInBounds_toArray, List.set_cons_zero, List.set_cons_succ]
            clear hH2
            refine wpAnyH_done (by kernel_rfl) ?_ _
            clear hHeld
            have y0 := q3.cell 0
            have y1 := q3.cell 1
            have y2 := q3.cell 2
            have y3 := q3.cell 3
            have z0 := q2.cell 0
            have z1 := q2.cell 1
            have z2 := q2.cell 2
            have z3 := q2.cell 3
            simp only [Tok.cells, List.getElem?_toArray, List.getElem?_cons_zero, List.getElem?_cons_succ] at y0 z0 y1 z1 y2 z2 y3 z3
            have fz := fun o => q2.frozen o
            go_wp2
            clear fz y0 z0 y1 z1 y2 z2 y3 z3
            obtain ⟨k9, q9⟩ := q2.set4s (.slice na x0.K.length nc) (.slice oa lv.length oc) (.int .i64 130) (.int .i64 t.b)
            have u0 := q9.cell 0
            have u1 := q9.cell 1
            have u2 := q9.cell 2
            have u3 := q9.cell 3
            simp only [Tok.cells, List.getElem?_toArray, List.getElem?_cons_zero, List.getElem?_cons_succ] at u0 u1 u2 u3
            replace bd0 := bd0.kp (Kp.ch (X := fun i => i = w.heap.size) k9 rfl) (fun i e => Or.inl (by omega))
            replace hB := hB.trans (k9.below (B := w.heap.size) (Nat.le_refl _))
            clear k9 q9
            generalize ((((w10.setCell ⟨w.heap.size, 0, none⟩ (.slice na x0.K.length nc)).setCell ⟨w.heap.size, 1, none⟩ (.slice oa lv.length oc)).setCell ⟨w.heap.size, 2, none⟩ (.int .i64 130)).setCell ⟨w.heap.size, 3, none⟩ (.int .i64 t.b)) = w11 at bd0 hB u0 u1 u2 u3 ⊢
            have hb2 : buildB b0 ts = .bad s 130 t.b := by have e := buildB_ok HBK.out t; rw [HST.out, ← HT.out, ← take_snoc HK.out] at e; have := buildB_bad e (ts.drop (k + 1)); rw [List.take_append_drop] at this; exact HT.out ▸ this
            refine bodyPost_ret (v := .agg #[.slice na x0.K.length nc, .slice oa lv.length oc, .int .i64 130, .int .i64 t.b]) (by rw [results_c rfl]; go_simp) rfl ?_
            refine ⟨?_, hB⟩
            rw [hb2]
            exact ⟨_, lv, x0, P, by rw [en], bd0, hr0, fun x hx => by have := hk0 x hx; omega⟩
          · rcases lv with _ | ⟨x, r⟩
            · have hlen := HLEN.out; rw [hso] at hlen; simp at hlen
            have HST := hideT (show stepB s t = .ok (({ s with opn := os } : BS).push (o.node t.e)) by rw [stepB, if_neg hk1, if_pos hk2, hso])
            have xd : ((((x :: r).length : Nat) : Int) == 0) = false := by rw [beq_eq_false_iff_ne]; simp only [List.length_cons]; omega
            obtain ⟨bd0, hr0, hk0⟩ := HBD.out
            have hxm : x ∈ (x :: r) ++ [x0] := List.mem_cons_self
            obtain ⟨gl, oc2, eo2, hcc⟩ := own_form bd0.own (by simp)
            injection eo2 with eo2 _ eo3
            subst eo2
            subst eo3
            obtain ⟨xa, xc, exv⟩ := own_sl (bd0.ok x hxm)
            obtain ⟨hr1, hnd⟩ := RelB.tail (L := r ++ [x0]) hr0 hso t.e
            simp only [List.length_cons] at xd bd0 hcc hfw q3 y1 ⊢
            have g0 : W.cell? ⟨gl, r.length * 7 + 0, none⟩ = (x.t.cells ++ [x.v])[0]? := by have e := lsOf_len r; rw [bd0.own.cellAt _ (by first | omega | (simp only [List.length_cons]; omega)), lsOf_cons, ← e]; exact nv_at (lsOf r) (x.t, x.v) 0 (by omega)
            have g1 : W.cell? ⟨gl, r.length * 7 + 1, none⟩ = (x.t.cells ++ [x.v])[1]? := by have e := lsOf_len r; rw [bd0.own.cellAt _ (by first | omega | (simp only [List.length_cons]; omega)), lsOf_cons, ← e]; exact nv_at (lsOf r) (x.t, x.v) 1 (by omega)
            have g2 : W.cell? ⟨gl, r.length * 7 + 2, none⟩ = (x.t.cells ++ [x.v])[2]? := by have e := lsOf_len r; rw [bd0.own.cellAt _ (by first | omega | (simp only [List.length_cons]; omega)), lsOf_cons, ← e]; exact nv_at (lsOf r) (x.t, x.v) 2 (by omega)
            have g3 : W.cell? ⟨gl, r.length * 7 + 3, none⟩ = (x.t.cells ++ [x.v])[3]? := by have e := lsOf_len r; rw [bd0.own.cellAt _ (by first | omega | (simp only [List.length_cons]; omega)), lsOf_cons, ← e]; exact nv_at (lsOf r) (x.t, x.v) 3 (by omega)
            have g4 : W.cell? ⟨gl, r.length * 7 + 4, none⟩ = (x.t.cells ++ [x.v])[4]? := by have e := lsOf_len r; rw [bd0.own.cellAt _ (by first | omega | (simp only [List.length_cons]; omega)), lsOf_cons, ← e]; exact nv_at (lsOf r) (x.t, x.v) 4 (by omega)
            have g5 : W.cell? ⟨gl, r.length * 7 + 5, none⟩ = (x.t.cells ++ [x.v])[5]? := by have e := lsOf_len r; rw [bd0.own.cellAt _ (by first | omega | (simp only [List.length_cons]; omega)), lsOf_cons, ← e]; exact nv_at (lsOf r) (x.t, x.v) 5 (by omega)
            have g6 : W.cell? ⟨gl, r.length * 7 + 6, none⟩ = (x.t.cells ++ [x.v])[6]? := by have e := lsOf_len r; rw [bd0.own.cellAt _ (by first | omega | (simp only [List.length_cons]; omega)), lsOf_cons, ← e]; exact nv_at (lsOf r) (x.t, x.v) 6 (by omega)
            rw [exv] at g0 g1 g2 g3 g4 g5 g6
            simp only [Tok.cells, List.cons_append, List.nil_append, List.getElem?_cons_zero, List.getElem?_cons_succ] at g0 g1 g2 g3 g4 g5 g6
            rw [Nat.add_zero] at g0
            have b7 := below_alloc (w := W) (.cells #[.int .i64 x.t.k, .string x.t.t, .int .i64 x.t.b, .int .i64 x.t.e, .int .i64 x.t.l, .int .i64 x.t.c, .slice xa x.K.length xc] 34)
            have q7 := Blk.new W #[.int .i64 x.t.k, .string x.t.t, .int .i64 x.t.b, .int .i64 x.t.e, .int .i64 x.t.l, .int .i64 x.t.c, .slice xa x.K.length xc] 34
            have bA := qA.later b7
            have hlw7 : W.heap.size ≤ W.heap.size := Nat.le_refl _
            have hdi : (r.length : Int) < (r.length : Int) + 1 := by omega
            have hdn : r.length < r.length + 1 := by omega
            have HX := hideT (And.intro bd0 (And.intro hr1 (And.intro hnd hk0)))
            clear bd0 hr0 hk0 hr1 hnd hso hk1 hk2 HBD
            go_upto_region 19 with fail
            replace q3 := q3.later b7
            replace q2 := q2.later b7
            generalize hW7 : W.alloc (.cells #[.int .i64 x.t.k, .string x.t.t, .int .i64 x.t.b, .int .i64 x.t.e, .int .i64 x.t.l, .int .i64 x.t.c, .slice xa x.K.length xc] 34) = W7 at b7 q7 bA q3 q2 ⊢
            clear hW7
            obtain ⟨c7, hc7⟩ : ∃ c7, W.heap.size = c7 := ⟨_, rfl⟩
            have h57 : c5 < c7 := by have := qA.lt; omega
            have HB7 := hideT b7
            rw [hc7] at q7 ⊢
            have HC7 := hideT hc7
            clear hc7 b7 p0 p1 p2 p3 p4 p5 g0 g1 g2 g3 g4 g5 g6
            have u3 := q7.cell 3
            have v3 := bA.cell 3
            simp only [Tok.cells, List.getElem?_toArray, List.getElem?_cons_zero, List.getElem?_cons_succ] at u3 v3
            have fz := fun o => q7.frozen o
            go_upto_region 20 with fail
            clear u3 v3 fz
            obtain ⟨k8, q8⟩ := q7.set (o := 3) (.int .i64 t.e)
            have q8b : Blk (W7.setCell ⟨c7, 3, none⟩ (.int .i64 t.e)) c7 #[.int .i64 x.t.k, .string x.t.t, .int .i64 x.t.b, .int .i64 t.e, .int .i64 x.t.l, .int .i64 x.t.c, .slice xa x.K.length xc] 34 := by simpa using q8
            have b8 : Below W.heap.size W (W7.setCell ⟨c7, 3, none⟩ (.int .i64 t.e)) := HB7.out.trans (k8.below (B := W.heap.size) (by rw [HC7.out]; exact Nat.le_refl _))
            replace q3 := q3.ch k8 (by omega)
            replace q2 := q2.ch k8 (by omega)
            clear k8 q8 q7 bA HB7
            generalize W7.setCell ⟨c7, 3, none⟩ (.int .i64 t.e) = W8 at q8b b8 q3 q2 ⊢
            have hsl := slice_h (some ⟨gl, 0, none⟩) (r.length + 1) oc r.length (by omega)
            clear y0 y1 y2 y3
            have y0 := q3.cell 0
            have y1 := q3.cell 1
            have y2 := q3.cell 2
            have y3 := q3.cell 3
            simp only [Tok.cells, List.getElem?_toArray, List.getElem?_cons_zero, List.getElem?_cons_succ] at y0 y1 y2 y3
            have fz := fun o => q3.frozen o
            have HB8 := hideT b8
            clear b8
            go_upto_region 21 with fail
            clear fz y0 y1 y2 y3 hsl
            obtain ⟨k9, q9⟩ := q3.set (o := 1) (.slice (some ⟨gl, 0, none⟩) r.length oc)
            have q9b : Blk (W8.setCell ⟨w.heap.size + 1, 1, none⟩ (.slice (some ⟨gl, 0, none⟩) r.length oc)) (w.heap.size + 1) #[.slice na x0.K.length nc, .slice (some ⟨gl, 0, none⟩) r.length oc, .int .i64 0, .int .i64 0] 54 := by simpa using q9
            obtain ⟨bd0, hr1, hnd, hk0⟩ := HX.out
            have bd8 := (bd0.later HB8.out).kp (Kp.ch (X := fun i => i = w.heap.size + 1) k9 rfl) (fun i e => Or.inl (by omega))
            have hB8 := (hB.trans (HB8.out.mono hB.size)).trans (k9.below (B := w.heap.size) (by omega))
            replace q2 := q2.ch k9 (by omega)
            replace q8b := q8b.ch k9 (by omega)
            clear k9 q9 q3 hB HB8 bd0
            generalize W8.setCell ⟨w.heap.size + 1, 1, none⟩ (.slice (some ⟨gl, 0, none⟩) r.length oc) = W9 at q9b bd8 hB8 q2 q8b ⊢
            have q3 := q9b
            have hB := hB8
            clear q9b hB8
            obtain ⟨bdc, hnc⟩ := bd8.cut (by have := hk0 x hxm; omega)
            rw [exv] at hnc
            have GP := hideT (pushB bdc hr1 (B := k) (fun y hy => hk0 y (List.mem_cons_of_mem _ hy)) (by omega) (by omega) (shT x.t t.e) xa x.K.length xc x.N (by rw [← exv] at hnc ⊢; exact hnc) 0 0)
            rw [en, hnd] at GP
            clear bd8 bdc hr1 hnd hnc hk0 HX
            have y0 := q3.cell 0
            have y1 := q3.cell 1
            have y2 := q3.cell 2
            have y3 := q3.cell 3
            have p0 := q8b.cell 0
            have p1 := q8b.cell 1
            have p2 := q8b.cell 2
            have p3 := q8b.cell 3
            have p4 := q8b.cell 4
            have p5 := q8b.cell 5
            have p6 := q8b.cell 6
            simp only [Tok.cells, List.getElem?_toArray, List.getElem?_cons_zero, List.getElem?_cons_succ] at y0 y1 y2 y3 p0 p1 p2 p3 p4 p5 p6
            go_wp2_with fail
            refine GP.out.mono ?_
            clear GP y0 y1 y2 y3 p0 p1 p2 p3 p4 p5 p6
            rintro e w3 ⟨lv2, x2_, rfl, bd2, hr2, hl2, hk2, b3⟩
            obtain ⟨ma, mc, em⟩ := own_sl (bd2.ok x2_ (by simp))
            rw [em]
            replace q3 := keepB q3 b3 (by omega)
            replace q2 := keepB q2 b3 (by omega)
            replace hB := hB.trans (b3.mono (by omega))
            have y0 := q3.cell 0
            have y1 := q3.cell 1
            have y2 := q3.cell 2
            have y3 := q3.cell 3
            simp only [Tok.cells, List.getElem?_toArray, List.getElem?_cons_zero, List.getElem?_cons_succ] at y0 y1 y2 y3
            have fz := fun o => q3.frozen o
            go_wp2
            clear fz y0 y1 y2 y3
            obtain ⟨k9, q9⟩ := q3.set4s (.slice ma x2_.K.length mc) (.slice (some ⟨gl, 0, none⟩) r.length oc) (.int .i64 0) (.int .i64 0)
            replace bd2 := bd2.kp (Kp.ch (X := fun i => i = w.heap.size + 1) k9 rfl) (fun i e => Or.inl (by omega))
            replace hB := hB.trans (k9.below (B := w.heap.size) (by omega))
            replace q2 := q2.ch k9 (by omega)
            clear k9
            generalize ((((w3.setCell ⟨w.heap.size + 1, 0, none⟩ (.slice ma x2_.K.length mc)).setCell ⟨w.heap.size + 1, 1, none⟩ (.slice (some ⟨gl, 0, none⟩) r.length oc)).setCell ⟨w.heap.size + 1, 2, none⟩ (.int .i64 0)).setCell ⟨w.heap.size + 1, 3, none⟩ (.int .i64 0)) = w11 at bd2 hB q9 q2 ⊢
            go_roundw
            case rel => exact ⟨k + 1, _, _, lv2, x2_, _, HK.out, by rw [hl2]; omega, by go_num, by rw [take_snoc HK.out, HT.out, buildB_ok HBK.out t]; exact HST.out, by rw [em]; exact q9, q2, bd2, hr2, fun x hx => by have := hk2 x hx; omega, hB⟩
            case measure => simp [intOf]; have := HK.out; omega
        · have xk2 : ((t.k : Int) == 2) = false := by rw [beq_eq_false_iff_ne]; omega
          have HST := hideT (show stepB s t = .ok (s.push (.mk t [])) by rw [stepB, if_neg hk1, if_neg hk2])
          obtain ⟨bd0, hr0, hk0⟩ := HBD.out
          have GP := hideT (pushB bd0 hr0 hk0 (by omega) hfw t none 0 0 [] (.nil none 0) 0 0)
          rw [en] at GP
          clear bd0 hr0 hk0 HBD hk1 hk2
          go_wp2_with fail
          refine GP.out.mono ?_
          clear GP y0 y1 y2 y3 p0 p1 p2 p3 p4 p5
          rintro e w3 ⟨lv2, x2_, rfl, bd2, hr2, hl2, hk2, b3⟩
          obtain ⟨ma, mc, em⟩ := own_sl (bd2.ok x2_ (by simp))
          rw [em]
          replace q3 := keepB q3 b3 (by omega)
          replace q2 := keepB q2 b3 (by omega)
          replace hB := hB.trans (b3.mono (by omega))
          have y0 := q3.cell 0
          have y1 := q3.cell 1
          have y2 := q3.cell 2
          have y3 := q3.cell 3
          simp only [Tok.cells, List.getElem?_toArray, List.getElem?_cons_zero, List.getElem?_cons_succ] at y0 y1 y2 y3
          have fz := fun o => q3.frozen o
          go_wp2
          clear fz y0 y1 y2 y3
          obtain ⟨k9, q9⟩ := q3.set4s (.slice ma x2_.K.length mc) (.slice oa lv.length oc) (.int .i64 0) (.int .i64 0)
          replace bd2 := bd2.kp (Kp.ch (X := fun i => i = w.heap.size + 1) k9 rfl) (fun i e => Or.inl (by omega))
          replace hB := hB.trans (k9.below (B := w.heap.size) (by omega))
          replace q2 := q2.ch k9 (by omega)
          clear k9
          generalize ((((w3.setCell ⟨w.heap.size + 1, 0, none⟩ (.slice ma x2_.K.length mc)).setCell ⟨w.heap.size + 1, 1, none⟩ (.slice oa lv.length oc)).setCell ⟨w.heap.size + 1, 2, none⟩ (.int .i64 0)).setCell ⟨w.heap.size + 1, 3, none⟩ (.int .i64 0)) = w11 at bd2 hB q9 q2 ⊢
          go_roundw
          case rel => exact ⟨k + 1, _, _, lv2, x2_, _, HK.out, by rw [hl2]; omega, by go_num, by rw [take_snoc HK.out, HT.out, buildB_ok HBK.out t]; exact HST.out, by rw [em]; exact q9, q2, bd2, hr2, fun x hx => by have := hk2 x hx; omega, hB⟩
          case measure => simp [intOf]; have := HK.out; omega
    · have hki : ¬ ((k : Int) < (ts.length : Int)) := by omega
      have ek : k = ts.length := by omega
      have hbk := HBK.out
      rw [ek, List.take_length] at hbk
      have HB2 := hideT hbk
      clear HBK hbk ek HLEN
      subst eo
      rw [en] at q3
      have y0 := q3.cell 0
      have y1 := q3.cell 1
      have y2 := q3.cell 2
      have y3 := q3.cell 3
      have z0 := q2.cell 0
      have z1 := q2.cell 1
      have z2 := q2.cell 2
      have z3 := q2.cell 3
      simp only [Tok.cells, List.getElem?_toArray, List.getElem?_cons_zero, List.getElem?_cons_succ] at y0 z0 y1 z1 y2 z2 y3 z3
      have fz := fun o => q2.frozen o
      have HBD := hideT (And.intro hbd (And.intro hrl hkl))
      clear hbd hrl hkl
      go_wp2
      clear fz y0 z0 y1 z1 y2 z2 y3 z3
      obtain ⟨k9, q9⟩ := q2.set4s (.slice na x0.K.length nc) (.slice oa lv.length oc) (.int .i64 0) (.int .i64 0)
      have u0 := q9.cell 0
      have u1 := q9.cell 1
      have u2 := q9.cell 2
      have u3 := q9.cell 3
      simp only [Tok.cells, List.getElem?_toArray, List.getElem?_cons_zero, List.getElem?_cons_succ] at u0 u1 u2 u3
      obtain ⟨bd0, hr0, hk0⟩ := HBD.out
      replace bd0 := bd0.kp (Kp.ch (X := fun i => i = w.heap.size) k9 rfl) (fun i e => Or.inl (by omega))
      replace hB := hB.trans (k9.below (B := w.heap.size) (Nat.le_refl _))
      clear k9 q9 HBD
      generalize ((((wr.setCell ⟨w.heap.size, 0, none⟩ (.slice na x0.K.length nc)).setCell ⟨w.heap.size, 1, none⟩ (.slice oa lv.length oc)).setCell ⟨w.heap.size, 2, none⟩ (.int .i64 0)).setCell ⟨w.heap.size, 3, none⟩ (.int .i64 0)) = w11 at bd0 hB u0 u1 u2 u3 ⊢
      refine bodyPost_ret (v := .agg #[.slice na x0.K.length nc, .slice oa lv.length oc, .int .i64 0, .int .i64 0]) (by rw [results_c rfl]; go_simp) rfl ?_
      refine ⟨?_, hB⟩
      rw [HB2.out]
      exact ⟨_, lv, x0, P, by rw [en], bd0, hr0, fun x hx => by have := hk0 x hx; omega⟩
end Go.Proofs.YtibeiggedmabkaaDoor
