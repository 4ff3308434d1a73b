/-
  All.
-/
import Derived.Test.YtpfmamimhhnbiaaGreatDoorTS9
namespace Go.Proofs.YtpfmamimhhnbiaaGreatDoor
open Go.RowKit
set_option linter.unusedVariables false
set_option linter.unusedSimpArgs false

/-- nothing has been read -/
def pI : PS := ⟨3, [], 0, 0, 0, 0, 0, 0⟩
theorem Inv_pI : Inv pI := ⟨by decide, rfl, Nat.le_refl _, fun c => absurd c (by decide), fun c => absurd c (by decide)⟩
def sI : Scan := ⟨3, .slice none 0 0, [], 0, 0, 0, 0, 0, 0, 0, 0⟩
theorem RelS_I : RelS sI pI := ⟨rfl, rfl, rfl, rfl, fun _ => rfl, fun c => absurd c (by decide)⟩
/-- what All tells of a text's bytes, and its error -/
def allP (bs : List UInt8) : List Tok × Int :=
  match feedP pI bs with
  | (ts, .bad _ _ _) => (ts, 120)
  | (ts, .ok q) => (ts ++ (endP q).1, (endP q).2)
/-- where All's error stands: its place, its line, its column -/
def allE (bs : List UInt8) : Int × Int × Int :=
  match feedP pI bs with
  | (_, .bad B L C) => (B, L, C)
  | (_, .ok q) => (q.bB, q.bL, q.bC)
theorem own_mono {w : World} {b1 b2 : Nat} {e : TypeId} {z : Nat} {v : Value} {n : Nat} {x : List Value} (h : w.ownsRow b1 e z v n x) (hb : b2 ≤ b1) : w.ownsRow b2 e z v n x := by
  refine ⟨h.1, ?_⟩
  rcases h.2 with h0 | ⟨g, cap, cur, hv, hg, rest⟩
  · exact Or.inl h0
  · exact Or.inr ⟨g, cap, cur, hv, by omega, rest⟩
theorem end_len (q : PS) : (endP q).1.length ≤ 1 := by
  unfold endP
  repeat' split
  all_goals simp
theorem charP_lens {p q : PS} (hi : Inv p) {r : Nat} {u : UInt8} {ts : List Tok} (h : charP p r [u] = (ts, .ok q)) : (p.buf.length ≤ p.rd → q.buf.length ≤ q.rd) ∧ (p.ln ≤ p.rd → q.ln ≤ q.rd) ∧ ts.length ≤ 2 := by
  have k := hi.char (us := [u]) (Nat.le_refl 1) h
  have hb := beg_facts hi r
  have ht := told_len p r
  have hbl := fun c => beg_len hi r c
  have hq : q.rd = p.rd + 1 := k.2
  unfold charP at h
  generalize (p.cut r).beg = P at h hb hbl
  generalize nxt p.st r = x at h hb
  by_cases h24 : x = 24
  · rw [if_pos h24] at h; injection h with _ h; cases h
  rw [if_neg h24] at h
  by_cases h25 : x = 25
  · rw [if_pos h25] at h; injection h with _ h; cases h
  rw [if_neg h25] at h
  have nb : ∀ Q : PS, Q.buf.length ≤ P.buf.length + 1 → Q.nrm.buf.length ≤ P.buf.length + 1 := fun Q c => by
    unfold PS.nrm
    split
    · simp
    · exact c
  have hP := hb.2.1
  by_cases h5 : x = 5 ∨ x = 6 ∨ x = 9
  · rw [if_pos h5] at h
    injection h with h1 h2
    injection h2 with h2
    refine ⟨fun c => ?_, fun c => ?_, ?_⟩
    · have := nb { P.add x [u] with st := 3 } (by show (P.buf ++ [u]).length ≤ _; simp)
      rw [h2] at this
      have := hbl c; omega
    · rw [hq, ← h2, nrm_ln]; show P.ln ≤ _; omega
    · rw [← h1, List.length_append]; simp only [List.length_cons, List.length_nil]; omega
  rw [if_neg h5] at h
  by_cases h10 : r = 10
  · rw [if_pos h10] at h
    injection h with h1 h2
    injection h2 with h2
    refine ⟨fun c => ?_, fun c => ?_, by rw [← h1]; omega⟩
    · have := nb { P.add x [u] with ln := p.ln + 1, ah := p.rd + 1 } (by show (P.buf ++ [u]).length ≤ _; simp)
      have e : (PS.nrm { P.add x [u] with ln := p.ln + 1, ah := p.rd + 1 }) = q := h2
      rw [e] at this
      have := hbl c; omega
    · rw [hq, ← h2, nrm_ln]; show p.ln + 1 ≤ _; omega
  · rw [if_neg h10] at h
    injection h with h1 h2
    injection h2 with h2
    refine ⟨fun c => ?_, fun c => ?_, by rw [← h1]; omega⟩
    · have := nb (P.add x [u]) (by show (P.buf ++ [u]).length ≤ _; simp)
      rw [h2] at this
      have := hbl c; omega
    · rw [hq, ← h2, nrm_ln]; show P.ln ≤ _; omega
theorem feed_rd {p : PS} (bs : List UInt8) (hi : Inv p) {ts : List Tok} {q : PS} (h : feedP p bs = (ts, .ok q)) : Inv q ∧ q.rd = p.rd + bs.length ∧ (p.buf.length ≤ p.rd → q.buf.length ≤ q.rd) ∧ (p.ln ≤ p.rd → q.ln ≤ q.rd) ∧ ts.length ≤ bs.length * 2 := by
  induction bs generalizing p ts q with
  | nil =>
    simp only [feedP] at h
    injection h with h1 h2
    injection h2 with h2
    subst h2
    subst h1
    exact ⟨hi, rfl, id, id, Nat.le_refl _⟩
  | cons u us ih =>
    simp only [feedP] at h
    rcases hc : charP p u.toNat [u] with ⟨t1, o1⟩
    rw [hc] at h
    cases o1 with
    | bad B L C => simp only at h; injection h with _ h; cases h
    | ok q1 =>
      simp only at h
      have k1 := hi.char (us := [u]) (Nat.le_refl 1) hc
      have f1 := beg_facts hi u.toNat
      rcases hf : feedP q1 us with ⟨t2, o2⟩
      rw [hf] at h
      simp only at h
      injection h with h1 h2
      subst h2
      obtain ⟨g1, g2, g3, g4, g5⟩ := ih k1.1 hf
      have hd := charP_lens hi hc
      refine ⟨g1, by rw [g2, k1.2]; simp only [List.length_cons, List.length_nil]; omega, fun c => g3 (hd.1 c), fun c => g4 (hd.2.1 c), ?_⟩
      rw [← h1, List.length_append, List.length_cons]
      have := hd.2.2
      omega

theorem results_ttc {fn : Func} {p u t : Tmp} {ty : TypeId} (h : fn.results = #[.tmp p, .tmp u, .cell t ty]) (tmps : Array Value) (P : Program) (w : World) :
    (results fn tmps).run P w = ((asAddr (tmps.getD t undef)).run P w).andThen fun a w1 => ((loadVar ty a).run P w1).andThen fun v w2 => .ok (.tuple #[tmps.getD p undef, tmps.getD u undef, v]) w2 := by
  simp only [results, h]
  simp [Sem.run_bind]
set_option maxHeartbeats 8000000 in
set_option maxRecDepth 100000 in
theorem all_at (s : ByteArray) (w : World) (hsz : s.size ≤ 4294967280) (hM : MaxL w) (hmx : mxB < w.heap.size) : Calls Tryz.prog 82 #[.string s] w fun e w' => ∃ (v : Value) (z2 z3 z4 z5 : Int), e = .returned (.tuple #[v, .int .i64 (allP s.data.toList).2, .agg #[.int .i64 0, .string ⟨#[]⟩, .int .i64 z2, .int .i64 z3, .int .i64 z4, .int .i64 z5]]) ∧ w'.ownsRow w.heap.size 23 6 v (allP s.data.toList).1.length (tokCells (allP s.data.toList).1) ∧ Below w.heap.size w w' ∧ ((allP s.data.toList).1 = [] → v = .slice none 0 0) ∧ ((allP s.data.toList).2 ≠ 0 → z2 = (allE s.data.toList).1 ∧ z3 = (allE s.data.toList).1 ∧ z4 = (allE s.data.toList).2.1 ∧ z5 = (allE s.data.toList).2.2) ∧ ((allP s.data.toList).2 = 0 → z2 = 0 ∧ z3 = 0 ∧ z4 = 0 ∧ z5 = 0) := by
  have b0 := below_alloc (w := w) (.cells #[.int .i64 0, .string ⟨#[]⟩, .int .i64 0, .int .i64 0, .int .i64 0, .int .i64 0] 23)
  have qT := Blk.new w #[.int .i64 0, .string ⟨#[]⟩, .int .i64 0, .int .i64 0, .int .i64 0, .int .i64 0] 23
  have e0 : (w.alloc (.cells #[.int .i64 0, .string ⟨#[]⟩, .int .i64 0, .int .i64 0, .int .i64 0, .int .i64 0] 23)).heap.size = w.heap.size + 1 := by simp
  have hM0 := hM.on b0
  have b1 := below_alloc (w := w.alloc (.cells #[.int .i64 0, .string ⟨#[]⟩, .int .i64 0, .int .i64 0, .int .i64 0, .int .i64 0] 23)) (.cells #[.int .i64 3, .slice none 0 0, .int .i64 0, .string ⟨#[]⟩, .int .i64 0, .int .i64 0, .int .i64 0, .int .i64 0, .int .i64 0, .int .i64 0, .int .i64 0, .int .i64 0] 86)
  have q1 := Blk.new (w.alloc (.cells #[.int .i64 0, .string ⟨#[]⟩, .int .i64 0, .int .i64 0, .int .i64 0, .int .i64 0] 23)) #[.int .i64 3, .slice none 0 0, .int .i64 0, .string ⟨#[]⟩, .int .i64 0, .int .i64 0, .int .i64 0, .int .i64 0, .int .i64 0, .int .i64 0, .int .i64 0, .int .i64 0] 86
  have e1 : ((w.alloc (.cells #[.int .i64 0, .string ⟨#[]⟩, .int .i64 0, .int .i64 0, .int .i64 0, .int .i64 0] 23)).alloc (.cells #[.int .i64 3, .slice none 0 0, .int .i64 0, .string ⟨#[]⟩, .int .i64 0, .int .i64 0, .int .i64 0, .int .i64 0, .int .i64 0, .int .i64 0, .int .i64 0, .int .i64 0] 86)).heap.size = w.heap.size + 2 := by simp
  rw [e0] at q1
  have bz := b0.trans (b1.mono b0.size)
  replace qT := qT.later b1
  have hM1 := hM0.on b1
  have hnw := fun W => new_is W
  go_enter Tryz.func82, Tryz.ntmps82
  go_wp2_with fail
  refine (hnw _).mono ?_
  rintro e w1 ⟨rfl, hw⟩
  rw [← hw] at b1 q1 e1 bz qT hM1
  clear hw hnw hM0 b1 b0
  have sc : ScAt w1 (w.heap.size + 2) (w.heap.size + 1) sI := ⟨q1, by omega, by omega, World.ownsRow_nil _ _ _ _⟩
  obtain ⟨bs, hbs⟩ : ∃ bs, s.data.toList = bs := ⟨_, rfl⟩
  have G := hideT (feedS (w.heap.size + 2) (w.heap.size + 1) sI pI s w1 sc (by omega) RelS_I Inv_pI (by show 0 + s.size ≤ _; omega) (Nat.le_refl _) (Nat.le_refl _) hM1)
  rw [hbs] at G
  have HBS := hideT hbs
  clear hbs q1
  try rw [e0]
  clear e0
  go_wp2_with fail
  refine G.out.mono ?_
  rintro e w2 ⟨v, er, rfl, own, kz, hout, hnl⟩
  clear G sc
  have hM2 : MaxL w2 := kz.maxL (fun c => by rcases c with c | c; omega; cases c) hM1
  have qT2 := kz.blk qT (fun c => by rcases c with c | c; omega; cases c)
  have bz2 : Below w.heap.size w w2 := bz.trans (kz.below (by omega) (fun k hk c => by rcases c with c | c; omega; cases c))
  have hsz2 := kz.size
  clear bz qT hM1
  rcases hf : feedP pI bs with ⟨ts, o⟩
  rw [hf] at own hout hnl
  simp only at own hout hnl
  cases o with
  | bad B L C =>
    obtain ⟨rfl, sc2⟩ := hout
    have ha : allP bs = (ts, 120) := by unfold allP; rw [hf]
    have HA := hideT ha
    have HE := hideT (show allE bs = (B, L, C) by unfold allE; rw [hf])
    clear ha hf
    have GA := hideT (at_failed (w.heap.size + 2) (w.heap.size + 1) _ w2 sc2 rfl)
    go_wp2_with fail
    refine GA.out.mono ?_
    rintro e w3 ⟨rfl, b3⟩
    replace qT2 := qT2.later b3
    replace bz2 := bz2.trans (b3.mono bz2.size)
    replace own := own_kp own (Kp.of (X := fun _ => False) b3) (fun _ _ c => c)
    clear b3 GA sc2
    have fz := fun o => qT2.frozen o
    have t0 := qT2.cell 0
    have t1 := qT2.cell 1
    have t2 := qT2.cell 2
    have t3 := qT2.cell 3
    have t4 := qT2.cell 4
    have t5 := qT2.cell 5
    simp only [Scan.cells, List.getElem?_toArray, List.getElem?_cons_zero, List.getElem?_cons_succ] at t0 t1 t2 t3 t4 t5
    go_wp2
    clear fz t0 t1 t2 t3 t4 t5
    obtain ⟨k6, q6⟩ := qT2.set6 (.int .i64 0) (.string ⟨#[]⟩) (.int .i64 B) (.int .i64 B) (.int .i64 L) (.int .i64 C)
    unfold set6 at k6 q6
    have x0 := q6.cell 0
    have x1 := q6.cell 1
    have x2 := q6.cell 2
    have x3 := q6.cell 3
    have x4 := q6.cell 4
    have x5 := q6.cell 5
    simp only [Scan.cells, List.getElem?_toArray, List.getElem?_cons_zero, List.getElem?_cons_succ] at x0 x1 x2 x3 x4 x5
    have kb := Kp.ch (X := fun i => i = w.heap.size) k6 rfl
    have bz3 := bz2.trans ((k6.below (Nat.le_refl _)).mono (Nat.le_refl _))
    have own3 := own_kp own kb (fun g hg e => by have := (own_lt own hg).1; omega)
    clear k6 q6 qT2 kb
    generalize ((((((w3.setCell ⟨w.heap.size, 0, none⟩ (.int .i64 0)).setCell ⟨w.heap.size, 1, none⟩ (.string ⟨#[]⟩)).setCell ⟨w.heap.size, 2, none⟩ (.int .i64 B)).setCell ⟨w.heap.size, 3, none⟩ (.int .i64 B)).setCell ⟨w.heap.size, 4, none⟩ (.int .i64 L)).setCell ⟨w.heap.size, 5, none⟩ (.int .i64 C)) = w9 at x0 x1 x2 x3 x4 x5 bz3 own3 ⊢
    refine bodyPost_ret (v := .tuple #[v, .int .i64 120, .agg #[.int .i64 0, .string ⟨#[]⟩, .int .i64 B, .int .i64 B, .int .i64 L, .int .i64 C]]) (by rw [results_ttc rfl]; go_simp) rfl ?_
    rw [HBS.out, HA.out, HE.out]
    exact ⟨_, _, _, _, _, rfl, own_mono own3 (by omega), bz3, hnl, fun _ => ⟨rfl, rfl, rfl, rfl⟩, fun c => absurd (show (120 : Int) = 0 from c) (by decide)⟩
  | ok q =>
    obtain ⟨rfl, S2, sc2, r2, i2, hne2⟩ := hout
    obtain ⟨f1, f2, f3, f4, f5⟩ := feed_rd bs Inv_pI hf
    have hbl : bs.length = s.size := by rw [← HBS.out, Array.length_toList]; rfl
    have f2b : q.rd = s.size := by rw [f2, hbl]; show 0 + s.size = _; omega
    have ha : allP bs = (ts ++ (endP q).1, (endP q).2) := by unfold allP; rw [hf]
    have HA := hideT ha
    have HE := hideT (show allE bs = (q.bB, q.bL, q.bC) by unfold allE; rw [hf])
    have GEn := hideT (endS (w.heap.size + 2) (w.heap.size + 1) S2 q w2 sc2 (by omega) r2 i2 (by omega) (f3 (Nat.le_refl _)) hM2)
    have hts : ts.length ≤ 8589934560 := by omega
    have hel : (endP q).1.length ≤ 1 := end_len q
    clear ha hf f1 f2 f3 f4 f5 hbl f2b hM2
    go_wp2_with fail
    refine GEn.out.mono ?_
    rintro e w3 ⟨v2, rfl, own2, kz2, ⟨S3, sc3, hst3⟩, hnl2⟩
    clear GEn
    have hcb : ∀ g, S2.cv.ownBlock = some g → w.heap.size + 2 ≤ g := fun g hg => (own_lt sc2.own hg).1
    replace own := own_kp own kz2 (fun g hg c => by rcases c with c | c; (have := (own_lt own hg).1; omega); exact hne2 g c hg)
    replace qT2 := kz2.blk qT2 (fun c => by rcases c with c | c; omega; have := hcb _ c; omega)
    replace bz2 : Below w.heap.size w w3 := bz2.trans (kz2.below (by omega) (fun k hk c => by rcases c with c | c; omega; have := hcb _ c; omega))
    have hsz3 := kz2.size
    clear kz2 sc2 r2 i2 hne2 hcb
    obtain ⟨ee, hee⟩ : ∃ ee, (endP q).2 = ee := ⟨_, rfl⟩
    obtain ⟨te, hte⟩ : ∃ te, (endP q).1 = te := ⟨_, rfl⟩
    rw [hee] at hst3 ⊢
    rw [hte] at own2 hnl2 hel
    have HA2 : Hid (allP bs = (ts ++ te, ee)) := hideT (by rw [← hee, ← hte]; exact HA.out)
    clear HA hee hte
    replace own := own_mono (b2 := w1.heap.size) own (by omega)
    go_wp2_with (at_builtin; refine wpList_app_toks (by rfl) _ _ (by rfl) w1.heap.size w2.heap.size v v2 ts te (by rfl) own (by rfl) own2 hnl2 (by omega) (by omega) ?_)
    intro v3 w4 own3 gr3 hv3
    have kg : Kp (fun k => v.ownBlock = some k) w3 w4 := Kp.grown gr3 (fun k e => e)
    have hvb : ∀ g, v.ownBlock = some g → w1.heap.size ≤ g := fun g hg => (own_lt own hg).1
    replace qT2 := kg.blk qT2 (fun c => by have := hvb _ c; omega)
    replace bz2 : Below w.heap.size w w4 := bz2.trans (kg.below (by omega) (fun k hk c => by have := hvb _ c; omega))
    have hnn : ts ++ te = [] → v3 = .slice none 0 0 := fun c => by obtain ⟨d1, d2⟩ := List.append_eq_nil_iff.1 c; rw [hv3 d1 d2]; exact hnl d1
    have sc4 := sc3.kp kg (fun i hi c => by rcases hi with hi | hi; (have := hvb _ c; omega); exact own_ne sc3.own own (by decide) i hi c)
    have own : w4.ownsRow (w.heap.size + 2) 23 6 v3 (ts ++ te).length (tokCells (ts ++ te)) := by first | exact own3 | (rw [List.length_append]; exact own3)
    clear gr3 kg hvb own2 own3 sc3 hv3 hnl hnl2
    by_cases hz : ee = 0
    · subst hz
      have fz := fun o => qT2.frozen o
      have t0 := qT2.cell 0
      have t1 := qT2.cell 1
      have t2 := qT2.cell 2
      have t3 := qT2.cell 3
      have t4 := qT2.cell 4
      have t5 := qT2.cell 5
      simp only [Scan.cells, List.getElem?_toArray, List.getElem?_cons_zero, List.getElem?_cons_succ] at t0 t1 t2 t3 t4 t5
      go_wp2
      clear fz t0 t1 t2 t3 t4 t5
      obtain ⟨k6, q6⟩ := qT2.set6 (.int .i64 0) (.string ⟨#[]⟩) (.int .i64 0) (.int .i64 0) (.int .i64 0) (.int .i64 0)
      unfold set6 at k6 q6
      have x0 := q6.cell 0
      have x1 := q6.cell 1
      have x2 := q6.cell 2
      have x3 := q6.cell 3
      have x4 := q6.cell 4
      have x5 := q6.cell 5
      simp only [Scan.cells, List.getElem?_toArray, List.getElem?_cons_zero, List.getElem?_cons_succ] at x0 x1 x2 x3 x4 x5
      have kb := Kp.ch (X := fun i => i = w.heap.size) k6 rfl
      have bz3 := bz2.trans ((k6.below (Nat.le_refl _)).mono (Nat.le_refl _))
      have own3 := own_kp own kb (fun g hg e => by have := (own_lt own hg).1; omega)
      clear k6 q6 qT2 kb
      generalize ((((((w4.setCell ⟨w.heap.size, 0, none⟩ (.int .i64 0)).setCell ⟨w.heap.size, 1, none⟩ (.string ⟨#[]⟩)).setCell ⟨w.heap.size, 2, none⟩ (.int .i64 0)).setCell ⟨w.heap.size, 3, none⟩ (.int .i64 0)).setCell ⟨w.heap.size, 4, none⟩ (.int .i64 0)).setCell ⟨w.heap.size, 5, none⟩ (.int .i64 0)) = w9 at x0 x1 x2 x3 x4 x5 bz3 own3 ⊢
      refine bodyPost_ret (v := .tuple #[v3, .int .i64 0, .agg #[.int .i64 0, .string ⟨#[]⟩, .int .i64 0, .int .i64 0, .int .i64 0, .int .i64 0]]) (by rw [results_ttc rfl]; go_simp) rfl ?_
      rw [HBS.out, HA2.out]
      exact ⟨_, _, _, _, _, rfl, own_mono own3 (by omega), bz3, hnn, fun c => absurd rfl c, fun _ => ⟨rfl, rfl, rfl, rfl⟩⟩
    · have xz : (ee == 0) = false := by rw [beq_eq_false_iff_ne]; exact hz
      have HS3 := hideT (hst3 hz).2
      have HZZ := hideT hz
      have GA := hideT (at_failed (w.heap.size + 2) (w.heap.size + 1) S3 w4 sc4 (hst3 hz).1)
      clear hz hst3
      go_wp2_with fail
      refine GA.out.mono ?_
      rintro e w5 ⟨rfl, b5⟩
      replace qT2 := qT2.later b5
      replace bz2 := bz2.trans (b5.mono bz2.size)
      replace own := own_kp own (Kp.of (X := fun _ => False) b5) (fun _ _ c => c)
      clear b5 GA sc4
      have fz := fun o => qT2.frozen o
      have t0 := qT2.cell 0
      have t1 := qT2.cell 1
      have t2 := qT2.cell 2
      have t3 := qT2.cell 3
      have t4 := qT2.cell 4
      have t5 := qT2.cell 5
      simp only [Scan.cells, List.getElem?_toArray, List.getElem?_cons_zero, List.getElem?_cons_succ] at t0 t1 t2 t3 t4 t5
      go_wp2
      clear fz t0 t1 t2 t3 t4 t5
      obtain ⟨k6, q6⟩ := qT2.set6 (.int .i64 0) (.string ⟨#[]⟩) (.int .i64 S3.bB) (.int .i64 S3.bE) (.int .i64 S3.bL) (.int .i64 S3.bC)
      unfold set6 at k6 q6
      have x0 := q6.cell 0
      have x1 := q6.cell 1
      have x2 := q6.cell 2
      have x3 := q6.cell 3
      have x4 := q6.cell 4
      have x5 := q6.cell 5
      simp only [Scan.cells, List.getElem?_toArray, List.getElem?_cons_zero, List.getElem?_cons_succ] at x0 x1 x2 x3 x4 x5
      have kb := Kp.ch (X := fun i => i = w.heap.size) k6 rfl
      have bz3 := bz2.trans ((k6.below (Nat.le_refl _)).mono (Nat.le_refl _))
      have own3 := own_kp own kb (fun g hg e => by have := (own_lt own hg).1; omega)
      clear k6 q6 qT2 kb
      generalize ((((((w5.setCell ⟨w.heap.size, 0, none⟩ (.int .i64 0)).setCell ⟨w.heap.size, 1, none⟩ (.string ⟨#[]⟩)).setCell ⟨w.heap.size, 2, none⟩ (.int .i64 S3.bB)).setCell ⟨w.heap.size, 3, none⟩ (.int .i64 S3.bE)).setCell ⟨w.heap.size, 4, none⟩ (.int .i64 S3.bL)).setCell ⟨w.heap.size, 5, none⟩ (.int .i64 S3.bC)) = w9 at x0 x1 x2 x3 x4 x5 bz3 own3 ⊢
      refine bodyPost_ret (v := .tuple #[v3, .int .i64 ee, .agg #[.int .i64 0, .string ⟨#[]⟩, .int .i64 S3.bB, .int .i64 S3.bE, .int .i64 S3.bL, .int .i64 S3.bC]]) (by rw [results_ttc rfl]; go_simp) rfl ?_
      rw [HBS.out, HA2.out, HE.out]
      exact ⟨_, _, _, _, _, rfl, own_mono own3 (by omega), bz3, hnn, fun _ => HS3.out, fun c => absurd c HZZ.out⟩
theorem all_is (s : ByteArray) (w : World) (hsz : s.size ≤ 4294967280) (hM : MaxL w) (hmx : mxB < w.heap.size) : Calls Tryz.prog 82 #[.string s] w fun e w' => ∃ (v : Value) (z2 z3 z4 z5 : Int), e = .returned (.tuple #[v, .int .i64 (allP s.data.toList).2, .agg #[.int .i64 0, .string ⟨#[]⟩, .int .i64 z2, .int .i64 z3, .int .i64 z4, .int .i64 z5]]) ∧ w'.ownsRow w.heap.size 23 6 v (allP s.data.toList).1.length (tokCells (allP s.data.toList).1) ∧ Below w.heap.size w w' ∧ ((allP s.data.toList).1 = [] → v = .slice none 0 0) := by
  refine (all_at s w hsz hM hmx).mono ?_
  rintro e w' ⟨v, z2, z3, z4, z5, h1, h2, h3, h4, _, _⟩
  exact ⟨v, z2, z3, z4, z5, h1, h2, h3, h4⟩
end Go.Proofs.YtpfmamimhhnbiaaGreatDoor
