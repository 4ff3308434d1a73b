/-
  Lists of nodes behind one another; Read.
-/
import Derived.Test.YtibeiggedmabkaaDoorSXK
import Derived.Laws.AppendOwnNone
namespace Go.Proofs.YtibeiggedmabkaaDoor
open Go.RowKit
set_option linter.unusedVariables false
set_option linter.unusedSimpArgs false
theorem run_append_zero {P : Program} {w : World} (base : Nat) (t ty e : TypeId) (i : TypeInfo) (size : Nat) (ht : P.underlying t = some (.slice e)) (hi : P.info? e = some i)
    (v : Value) (n : Nat) (xs : List Value) (hown : w.ownsRow base e size v n xs) (a : Option Addr) (c : Nat) :
    (Builtin.append_ #[t, t] ty #[v, .slice a 0 c]).run P w = .ok v w := by
  rcases hown.2 with ⟨rfl, rfl⟩ | ⟨g, cap, cur, rfl, _, _, hnc, _⟩
  · cases a <;> simp [Builtin.append_, run_underlying ht, sizeOf, typeInfo, hi, Builtin.lenOf, Builtin.firstCells, loadCells, loadCellsFrom]
  · cases a <;> simp [Builtin.append_, run_underlying ht, sizeOf, typeInfo, hi, Builtin.lenOf, Builtin.firstCells, hnc, storeCells, loadCells, loadCellsFrom]
theorem wpList_append_zero {P : Program} {w : World} {ops : Array Oper} {rest : List Oper} {o : Oper} {a : Act} {Q : Exit → Act → World → Prop} (hgd : o.guard = none) (s x : Operand) (t : TypeId)
    (ho : o.op = .call { callee := .builtin .append, args := #[s, x], argTypes := #[t, t] })
    (base : Nat) (e : TypeId) (i : TypeInfo) (size : Nat) (ht : P.underlying t = some (.slice e)) (hi : P.info? e = some i)
    (v : Value) (n : Nat) (xs : List Value) (hs : a.eval s = v) (hown : w.ownsRow base e size v n xs) (ad : Option Addr) (c : Nat) (hx : a.eval x = .slice ad 0 c)
    (h : wpList P ops Q rest (a.put o.dst v) w) : wpList P ops Q (o :: rest) a w := by
  refine wpList_plain hgd fun K hK => ?_
  have hrun := run_append_zero (P := P) (w := w) base t o.type e i size ht hi v n xs hown ad c
  unfold Oper.wp
  simp [execOp, ho, resolve, invoke, builtin, hs, hx, hrun, Result.andThen]
  exact hK _ _ h
theorem nvCells_one {K : List (Tok × Value)} (hK : ∀ x ∈ K, ∃ a n c, x.2 = Value.slice a n c) : ∀ u ∈ nvCells K, u.oneCell' = true := by
  intro u hu
  obtain ⟨x, hx, hu⟩ := List.mem_flatMap.1 hu
  obtain ⟨a, n, c, e⟩ := hK x hx
  rw [e] at hu
  simp only [Tok.cells, List.mem_append, List.mem_cons, List.not_mem_nil, or_false] at hu
  rcases hu with (rfl | rfl | rfl | rfl | rfl | rfl) | rfl <;> simp [Value.oneCell']
theorem KN.sls {w : World} {P : Nat → Prop} {K : List (Tok × Value)} {N : List Nd} (h : KN w P K N) : ∀ x ∈ K, ∃ a n c, x.2 = Value.slice a n c := by
  intro x hx
  obtain ⟨i, hi, e⟩ := List.getElem_of_mem hx
  obtain ⟨a, c, e2⟩ := (h.2 i hi (by rw [← h.1]; exact hi)).2.sl
  exact ⟨a, _, c, by rw [← e]; exact e2⟩
theorem KN.app {w : World} {P : Nat → Prop} {K L : List (Tok × Value)} {M N : List Nd} (h : KN w P K M) (g : KN w P L N) : KN w P (K ++ L) (M ++ N) := by
  refine ⟨by rw [List.length_append, List.length_append, h.1, g.1], fun i h1 h2 => ?_⟩
  by_cases hi : i < K.length
  · rw [List.getElem_append_left hi, List.getElem_append_left (by rw [← h.1]; exact hi)]
    exact h.2 i hi (by rw [← h.1]; exact hi)
  · rw [List.getElem_append_right (by omega), List.getElem_append_right (by rw [← h.1]; omega)]
    simp only [List.length_append] at h1
    have hm := h.1
    have := g.2 (i - K.length) (by omega) (by have := g.1; omega)
    simpa only [hm] using this
theorem push_few (s : BS) (n : Nd) : (s.push n).nodes.length ≤ s.nodes.length + 1 := by
  unfold BS.push
  split <;> simp
theorem stepB_few (s : BS) (T : Tok) : (∀ s2, stepB s T = .ok s2 → s2.nodes.length ≤ s.nodes.length + 1) ∧ (∀ s2 c q, stepB s T = .bad s2 c q → s2.nodes.length ≤ s.nodes.length + 1) := by
  unfold stepB
  by_cases h1 : T.k = 1
  · rw [if_pos h1]
    by_cases h2 : s.opn.length = 1000
    · rw [if_pos h2]; exact ⟨fun s2 e => (by cases e), fun s2 c q e => (by injection e with e; rw [← e]; omega)⟩
    · rw [if_neg h2]; exact ⟨fun s2 e => (by injection e with e; rw [← e]; exact Nat.le_succ _), fun s2 c q e => (by cases e)⟩
  rw [if_neg h1]
  by_cases h2 : T.k = 2
  · rw [if_pos h2]
    rcases s with ⟨ns, _ | ⟨o, r⟩⟩
    · exact ⟨fun s2 e => (by cases e), fun s2 c q e => (by injection e with e; rw [← e]; omega)⟩
    · exact ⟨fun s2 e => (by injection e with e; rw [← e]; exact push_few ⟨ns, r⟩ _), fun s2 c q e => (by cases e)⟩
  · rw [if_neg h2]
    exact ⟨fun s2 e => (by injection e with e; rw [← e]; exact push_few s _), fun s2 c q e => (by cases e)⟩
theorem buildB_few (l : List Tok) : ∀ s : BS, (∀ s2, buildB s l = .ok s2 → s2.nodes.length ≤ s.nodes.length + l.length) ∧ (∀ s2 c q, buildB s l = .bad s2 c q → s2.nodes.length ≤ s.nodes.length + l.length) := by
  induction l with
  | nil => exact fun s => ⟨fun s2 e => (by injection e with e; rw [← e]; exact Nat.le_refl _), fun s2 c q e => (by cases e)⟩
  | cons T l ih =>
    intro s
    have h1 := stepB_few s T
    simp only [buildB, List.length_cons]
    rcases hs : stepB s T with s3 | ⟨s3, c3, q3⟩
    · have h2 := h1.1 s3 hs
      exact ⟨fun s2 e => by have := (ih s3).1 s2 e; omega, fun s2 c q e => by have := (ih s3).2 s2 c q e; omega⟩
    · have h2 := h1.2 s3 c3 q3 hs
      exact ⟨fun s2 e => (by cases e), fun s2 c q e => (by injection e with e; rw [← e]; omega)⟩
theorem feedF_few (rs : RS) (S : List UInt8) : (feedF rs S).1.length ≤ S.length * 2 := by
  cases rs with
  | over d e q => simp [feedF]
  | go o p =>
    rcases hf : feedP p S with ⟨ts, out⟩
    have hl := feed_len2 p S
    rw [hf] at hl
    simp only at hl
    rw [feedF_fed hf]
    have hb := buildB_few ts ⟨[], o⟩
    rcases hbb : buildB ⟨[], o⟩ ts with s | ⟨s, c, q⟩
    · have := hb.1 s hbb
      simp only [List.length_nil] at this
      cases out <;> simp only [fedB] <;> omega
    · have := hb.2 s c q hbb
      simp only [List.length_nil] at this
      simp only [fedB]
      omega
theorem endF_few (rs : RS) : (endF rs).1.length ≤ 1 := by
  cases rs with
  | over d e q => simp [endF]
  | go o p =>
    have hl := end_len p
    have hb := buildB_few (endP p).1 ⟨[], o⟩
    simp only [endF]
    rcases hbb : buildB ⟨[], o⟩ (endP p).1 with s | ⟨s, c, q⟩
    · have := hb.1 s hbb
      simp only [List.length_nil] at this
      simp only
      split
      · simp only; omega
      · split <;> simp only <;> omega
    · have := hb.2 s c q hbb
      simp only [List.length_nil] at this
      simp only
      omega
theorem feedF_rd {o : List Opn} {p : PS} {S : List UInt8} (hi : Inv p) {o2 : List Opn} {q : PS} (h : (feedF (.go o p) S).2.2 = .go o2 q) : q.rd = p.rd + S.length := by
  rcases hf : feedP p S with ⟨ts, out⟩
  rw [feedF_fed hf] at h
  rcases hbb : buildB ⟨[], o⟩ ts with s | ⟨s, c, q3⟩
  · rw [hbb] at h
    cases out with
    | ok q4 =>
      simp only [fedB] at h
      injection h with _ h
      subst h
      exact (feed_rd S hi hf).2.1
    | bad B L C => simp only [fedB] at h; cases h
  · rw [hbb] at h
    simp only [fedB] at h
    cases h
theorem results_t3 {fn : Func} {p u t : Tmp} (h : fn.results = #[.tmp p, .tmp u, .tmp t]) (tmps : Array Value) (P : Program) (w : World) :
    (results fn tmps).run P w = .ok (.tuple #[tmps.getD p undef, tmps.getD u undef, tmps.getD t undef]) w := by simp [results, h]
/-- a list of nodes behind another one -/
theorem wpList_app_nodes {w : World} {ops : Array Oper} {rest : List Oper} {o : Oper} {a : Act} {Q : Exit → Act → World → Prop} (hgd : o.guard = none) (sl x : Operand) (ho : o.op = .call { callee := .builtin .append, args := #[sl, x], argTypes := #[22, 22] })
    (base base2 : Nat) (v v2 : Value) (K K2 : List (Tok × Value)) (hs : a.eval sl = v) (hown : w.ownsRow base 34 7 v K.length (nvCells K)) (hx : a.eval x = v2) (hown2 : w.ownsRow base2 34 7 v2 K2.length (nvCells K2)) (hk2 : ∀ x ∈ K2, ∃ a n c, x.2 = Value.slice a n c) (hlen : K.length + K2.length ≤ 100000000000) (hbase : base ≤ w.heap.size)
    (h : ∀ v' w', w'.ownsRow base 34 7 v' (K ++ K2).length (nvCells (K ++ K2)) → w.grownBy w' v.ownBlock → (v'.ownBlock = v.ownBlock ∨ v'.ownBlock = some w.heap.size) → wpList Tryd.prog ops Q rest (a.put o.dst v') w') : wpList Tryd.prog ops Q (o :: rest) a w := by
  obtain ⟨i0, hi0, hz0, hz1, hz2⟩ := info_parts info_Node
  by_cases h2 : K2 = []
  · subst h2
    obtain ⟨ad, c, e2⟩ := own_sl hown2
    refine wpList_append_zero hgd sl x 22 ho base 34 i0 7 Tryd.underlying22 hi0 v K.length (nvCells K) hs hown ad c (by rw [hx]; exact e2) ?_
    exact h v w (by rw [List.append_nil]; exact hown) ⟨rfl, rfl, rfl, Nat.le_refl _, fun _ _ _ => rfl⟩ (Or.inl rfl)
  · have hl2 : 0 < K2.length := List.length_pos_iff.2 h2
    rcases hown2.2 with ⟨_, h0⟩ | ⟨g, cap, cur, hv, _⟩
    · omega
    · have hc := hown2.cells (g := g) (by rw [hv]; rfl)
      refine wpList_append_lies w hgd sl x 22 ho base 34 i0 _ 7 80 Tryd.underlying22 hi0 hz0 hz1 hz2 rfl (by omega) v K.length (nvCells K) hs hown ⟨g, 0, none⟩ K2.length cap (nvCells K2) (by rw [hx]; exact hv) (nvCells_len K2) hc (nvCells_one hk2) hl2 (by simp only [maxLen]; omega) (by omega) hbase w.heap.size rfl ?_
      intro g2 cap2 w' o2 gr hg _
      exact h _ w' (by rw [List.length_append, nvCells_app]; exact o2) gr (hg.elim (fun e => Or.inl e.symm) (fun e => Or.inr (by rw [e]; rfl)))

/-- the answer of Read: nodes in new memory -/
def ReadA (w w0 : World) (v : Value) (N : List Nd) : Prop := ∃ K Q, Told w w0.heap.size Q v N K ∧ ∀ g, Q g → w0.heap.size ≤ g ∧ TyN w g
set_option maxHeartbeats 8000000 in
set_option maxRecDepth 100000 in
theorem read_is (s : ByteArray) (w : World) (hs : s.size ≤ 400000000) (hM : MaxL w) (hmx : mxB < w.heap.size) : Calls Tryd.prog 9 #[.string s] w fun r w' => ∃ v, r = .returned (.tuple #[v, .int .i64 (readG s.data.toList).2.1, .int .i64 (readG s.data.toList).2.2]) ∧ ReadA w' w v (readG s.data.toList).1 ∧ Below w.heap.size w w' := by
  have hend : ∀ o p, (feedF rs0 s.data.toList).2.2 = .go o p → p.rd ≤ 400000000 := fun o p e => by rw [feedF_rd Inv_pI e, Array.length_toList]; show 0 + s.size ≤ _; omega
  have hf1 := feedF_few rs0 s.data.toList
  rw [Array.length_toList] at hf1
  replace hf1 : (feedF rs0 s.data.toList).1.length ≤ s.size * 2 := hf1
  obtain ⟨fd, hfd⟩ : ∃ fd, feedF rs0 s.data.toList = fd := ⟨_, rfl⟩
  have hf2 := endF_few fd.2.2
  obtain ⟨en, hen⟩ : ∃ en, endF fd.2.2 = en := ⟨_, rfl⟩
  have hG : readG s.data.toList = (fd.1 ++ en.1, en.2.1, en.2.2.1) := by unfold readG; rw [hfd, hen]
  rw [hG]
  rw [hfd] at hend hf1
  rw [hen] at hf2
  have HE := hideT (And.intro hfd (And.intro hen hend))
  clear hG hfd hen hend
  simp only
  have G1 := hideT (newI w hmx)
  go_enter Tryd.func9, Tryd.ntmps9
  go_wp2_with fail
  refine G1.out.mono ?_
  rintro r w1 ⟨b, sc, X, rfl, h1, b1⟩
  clear G1
  have hM1 := hM.on b1
  have G2 := hideT (feedR h1 s hM1 (fun o p e => by injection e with _ e2; rw [← e2]; show 0 + s.size ≤ _; omega))
  rw [HE.out.1] at G2
  go_wp2_with fail
  refine G2.out.mono ?_
  rintro r w2 ⟨v2, rfl, ⟨K2, P2, X2, t2, x2, h2, m2, n2⟩, c2⟩
  clear G2
  have hM2 := c2.maxL hM1 hmx
  have B2 := c2.below b1.size (Nat.le_refl _)
  have hB2 := b1.trans B2
  have G3 := hideT (endR h2 hM2 HE.out.2.2)
  rw [HE.out.2.1] at G3
  obtain ⟨va, vc, ev2⟩ := own_sl t2.own
  have T2 := hideT t2
  subst ev2
  clear t2
  go_wp2_with fail
  refine G3.out.mono ?_
  rintro r w3 ⟨v3, rfl, ⟨K3, P3, X3, t3, x3, h3, m3, n3⟩, c3⟩
  clear G3
  have xp2 := h2.xb
  have xp3 := h3.xb
  have t2b := T2.out.chg c3 (fun g hg => (x2 g hg).1) (fun g hg => xp2.2 g hg)
  have B3 := hB2.trans (c3.below hB2.size (Nat.le_refl _))
  have hl2 := hB2.size
  have hl3 := c3.size
  go_wp2_with (at_builtin; refine wpList_app_nodes (by rfl) _ _ (by rfl) w.heap.size w.heap.size _ v3 K2 K3 (by rfl) t2b.own (by rfl) t3.own t3.kn.sls (by have := t2b.kn.1; have := t3.kn.1; omega) (by omega) ?_)
  intro v4 w4 own4 gr4 at4
  have kg : Kp (fun k => (Value.slice va K2.length vc).ownBlock = some k) w3 w4 := Kp.grown gr4 (fun k e => e)
  have q2 : ∀ g, P2 g → (Value.slice va K2.length vc).ownBlock ≠ some g := fun g hg e => T2.out.off g e hg
  have q3 : ∀ g, P3 g → (Value.slice va K2.length vc).ownBlock ≠ some g := fun g hg e => by
    have hlt := (own_lt T2.out.own e).2
    rcases n3 g hg hlt with c | c
    · exact T2.out.off g e c
    · exact (x2 g e).1 c
  have hne : ∀ g, v4.ownBlock = some g → (Value.slice va K2.length vc).ownBlock = some g ∨ w3.heap.size ≤ g := fun g hg => by
    rcases at4 with c | c
    · exact Or.inl (c ▸ hg)
    · right; rw [c] at hg; injection hg with hg; omega
  have TT : Told w4 w.heap.size (fun g => P2 g ∨ P3 g) v4 (fd.1 ++ en.1) (K2 ++ K3) := by
    refine ⟨by rw [List.length_append]; exact own4, ?_, fun g hg c => ?_⟩
    · exact KN.app ((t2b.kn).kept (fun g hg hl => kg.block g hl (q2 g hg)) (fun g c => Or.inl c)) ((t3.kn).kept (fun g hg hl => kg.block g hl (q3 g hg)) (fun g c => Or.inr c))
    · rcases hne g hg with e | e
      · rcases c with c | c
        · exact q2 g c e
        · exact q3 g c e
      · rcases c with c | c
        · have := (xp2.2 g c).2.lt; omega
        · have := (xp3.2 g c).2.lt; omega
  have ty4 : ∀ g, P2 g ∨ P3 g → w.heap.size ≤ g ∧ TyN w4 g := fun g hg => by
    rcases hg with c | c
    · have tg := (xp2.2 g c).2
      refine ⟨Nat.le_of_not_lt (fun hl => ?_), (tg.of (c3.heap tg (xp2.2 g c).1)).of (kg.block g (Nat.lt_of_lt_of_le tg.lt hl3) (q2 g c))⟩
      rcases n2 g c (Nat.lt_of_lt_of_le hl b1.size) with d | d
      · exact d
      · have := (h1.xb.1 g d).1; omega
    · have tg := (xp3.2 g c).2
      refine ⟨Nat.le_of_not_lt (fun hl => ?_), tg.of (kg.block g tg.lt (q3 g c))⟩
      rcases n3 g c (Nat.lt_of_lt_of_le hl hl2) with d | d
      · rcases n2 g d (Nat.lt_of_lt_of_le hl b1.size) with f | f
        · exact f
        · have := (h1.xb.1 g f).1; omega
      · have := (h2.xb.1 g d).1; omega
  have B4 := B3.trans (kg.below (B := w.heap.size) B3.size (fun g hg e => by have := (own_lt T2.out.own e).1; omega))
  have RA : ReadA w4 w v4 (fd.1 ++ en.1) := ⟨_, _, TT, ty4⟩
  clear TT ty4 own4 gr4 at4 kg q2 q3 hne t2b xp2 xp3 h1 h2 h3
  go_wp2
  refine bodyPost_ret (v := .tuple #[v4, .int .i64 en.2.1, .int .i64 en.2.2.1]) (by rw [results_t3 rfl]; rfl) rfl ?_
  exact ⟨v4, rfl, RA, B4⟩

end Go.Proofs.YtibeiggedmabkaaDoor
