/-
  Lists of nodes behind one another; Read.
-/
import Derived.Test.YtpfmamimhhnbiaaGreatDoorSXJ
import Derived.Laws.AppendOwnNone
namespace Go.Proofs.YtpfmamimhhnbiaaGreatDoor
open Go.RowKit
set_option linter.unusedVariables false
set_option linter.unusedSimpArgs false
theorem bodyD_put2 {P : Program} {fn : Func} {R : Ending → World → Prop} {K K2 : Act → World → Prop} {a : Act} {d : Nat} {v : Value} {c : List PanicEntry} {w : World} (hr : ∀ T : Array Value, results fn (T.setIfInBounds d v) = results fn T) (h : Exit.then K (Exit.then K2 (bodyPostD P fn R)) (.panic c) (a.put (some d) v) w) : Exit.then K (Exit.then K2 (bodyPostD P fn R)) (.panic c) a w :=
  Leaves.congr (hr a.tmps) h
/-- why no piece is taken any more -/
def refV (e : Int) : Int := if e = 0 then 131 else e
theorem run_field61 (v0 v1 : Value) (w : World) : (Instr.field 35 (.agg #[v0, v1]) 0).run Tryz.prog w = .ok v0 w := by kernel_rfl
set_option maxHeartbeats 4000000 in
set_option maxRecDepth 100000 in
theorem refusal_is (b : Nat) (d e q : Int) (w : World) (h : Blk w b (rdC none (.slice none 0 0) d true e q) 65) : Calls Tryz.prog 33 #[.pointer (some ⟨b, 0, none⟩)] w fun r w' => r = .returned (.int .i64 (refV e)) ∧ Below w.heap.size w w' := by
  have G := hideT (rlast_is b none (.slice none 0 0) d e q w h)
  have hf := run_field61 (.int .i64 e) (.int .i64 q)
  by_cases he : e = 0
  · have x0 : (e != 0) = false := by rw [he]; rfl
    have ev : refV e = 131 := by unfold refV; rw [if_pos he]
    rw [ev]
    clear ev he
    go_enter Tryz.func33, Tryz.ntmps33
    go_wp2_with fail
    refine G.out.mono ?_
    rintro r w1 ⟨rfl, b1⟩
    go_wp2
    go_ret
    exact ⟨rfl, b1⟩
  · have x0 : (e != 0) = true := by rw [bne_iff_ne]; exact he
    have ev : refV e = e := by unfold refV; rw [if_neg he]
    rw [ev]
    clear ev he
    go_enter Tryz.func33, Tryz.ntmps33
    go_wp2_with fail
    refine G.out.mono ?_
    rintro r w1 ⟨rfl, b1⟩
    go_wp2
    go_ret
    exact ⟨rfl, b1⟩

set_option maxHeartbeats 8000000 in
set_option maxRecDepth 100000 in
theorem feedOver (b : Nat) (d e q : Int) (pc : ByteArray) (w : World) (h : Blk w b (rdC none (.slice none 0 0) d true e q) 65) : Calls Tryz.prog 25 #[.pointer (some ⟨b, 0, none⟩), .string pc] w fun r w' => r = .returned (.tuple #[.slice none 0 0, .int .i64 (refV e)]) ∧ Below w.heap.size w w' := by
  have b1 := below_alloc (w := w) (.cells #[.pointer (some ⟨b, 0, none⟩)] 54)
  have q1 := Blk.new w #[.pointer (some ⟨b, 0, none⟩)] 54
  have e1 : (w.alloc (.cells #[.pointer (some ⟨b, 0, none⟩)] 54)).heap.size = w.heap.size + 1 := by simp
  have b2 := below_alloc (w := w.alloc (.cells #[.pointer (some ⟨b, 0, none⟩)] 54)) (.cells #[.slice none 0 0] 24)
  have q2 := Blk.new (w.alloc (.cells #[.pointer (some ⟨b, 0, none⟩)] 54)) #[.slice none 0 0] 24
  have e2 : ((w.alloc (.cells #[.pointer (some ⟨b, 0, none⟩)] 54)).alloc (.cells #[.slice none 0 0] 24)).heap.size = w.heap.size + 2 := by simp
  have b3 := below_alloc (w := (w.alloc (.cells #[.pointer (some ⟨b, 0, none⟩)] 54)).alloc (.cells #[.slice none 0 0] 24)) (.cells #[.int .i64 0] 28)
  have q3 := Blk.new ((w.alloc (.cells #[.pointer (some ⟨b, 0, none⟩)] 54)).alloc (.cells #[.slice none 0 0] 24)) #[.int .i64 0] 28
  have e3 : (((w.alloc (.cells #[.pointer (some ⟨b, 0, none⟩)] 54)).alloc (.cells #[.slice none 0 0] 24)).alloc (.cells #[.int .i64 0] 28)).heap.size = w.heap.size + 3 := by simp
  rw [e1] at q2
  rw [e2] at q3
  replace q1 := (q1.later b2).later b3
  replace q2 := q2.later b3
  have bT := (b1.trans (b2.mono b1.size)).trans (b3.mono (b1.trans (b2.mono b1.size)).size)
  clear b1 b2 b3
  have hbl := h.lt
  have h3 := h.later bT
  go_enter_defers Tryz.func25, Tryz.ntmps25
  go_upto_region 1 with fail
  try rw [e1]
  try rw [e2]
  generalize ((w.alloc (.cells #[.pointer (some ⟨b, 0, none⟩)] 54)).alloc (.cells #[.slice none 0 0] 24)).alloc (.cells #[.int .i64 0] 28) = W at q1 q2 q3 bT e3 h3 ⊢
  clear e1 e2
  have t0 := q1.cell 0
  simp only [List.getElem?_toArray, List.getElem?_cons_zero] at t0
  go_wp2_with fail
  refine (isReading_no b _ _ _ _ _ W h3).mono ?_
  rintro r w1 ⟨rfl, rfl⟩
  go_wp2_with fail
  refine (refusal_is b d e q w1 h3).mono ?_
  rintro r w2 ⟨rfl, b2⟩
  clear t0
  have e5 := b2.size
  replace q1 := q1.later b2
  replace q2 := q2.later b2
  replace q3 := q3.later b2
  replace bT := bT.trans (b2.mono bT.size)
  clear b2 h3
  have f2 := fun o => q2.frozen o
  have f3 := fun o => q3.frozen o
  have t2 := q2.cell 0
  have t3 := q3.cell 0
  simp only [List.getElem?_toArray, List.getElem?_cons_zero] at t2 t3
  go_wp2_with fail
  clear f2 f3 t2 t3
  obtain ⟨k2, z2⟩ := q2.set (o := 0) (.slice none 0 0)
  have z2b : Blk (w2.setCell ⟨w.heap.size + 1, 0, none⟩ (.slice none 0 0)) (w.heap.size + 1) #[.slice none 0 0] 24 := by simpa using z2
  have y3 := q3.ch k2 (by omega)
  obtain ⟨k3, z3⟩ := y3.set (o := 0) (.int .i64 (refV e))
  have z3b : Blk ((w2.setCell ⟨w.heap.size + 1, 0, none⟩ (.slice none 0 0)).setCell ⟨w.heap.size + 2, 0, none⟩ (.int .i64 (refV e))) (w.heap.size + 2) #[.int .i64 (refV e)] 28 := by simpa using z3
  have z4 := z2b.ch k3 (by omega)
  have hB : Below w.heap.size w _ := bT.trans (((k2.below (B := w.heap.size) (by omega)).trans (k3.below (B := w.heap.size) (by omega))).mono (Nat.le_refl _))
  have g1 := z4.cell 0
  have g2 := z3b.cell 0
  simp only [List.getElem?_toArray, List.getElem?_cons_zero] at g1 g2
  clear k2 k3 z2 z2b z3 z3b z4 y3 q1 q2 q3
  generalize (w2.setCell ⟨w.heap.size + 1, 0, none⟩ (.slice none 0 0)).setCell ⟨w.heap.size + 2, 0, none⟩ (.int .i64 (refV e)) = w9 at hB g1 g2 ⊢
  simp [bodyPostD, Leaves, settle, results, Tryz.results25, go_sem, g1, g2]
  exact hB

set_option maxHeartbeats 8000000 in
set_option maxRecDepth 100000 in
theorem endOver (b : Nat) (d e q : Int) (w : World) (h : Blk w b (rdC none (.slice none 0 0) d true e q) 65) : Calls Tryz.prog 26 #[.pointer (some ⟨b, 0, none⟩)] w fun r w' => r = .returned (.tuple #[.slice none 0 0, .int .i64 e, .int .i64 q]) ∧ Below w.heap.size w w' := by
  have b1 := below_alloc (w := w) (.cells #[.pointer (some ⟨b, 0, none⟩)] 54)
  have q1 := Blk.new w #[.pointer (some ⟨b, 0, none⟩)] 54
  have e1 : (w.alloc (.cells #[.pointer (some ⟨b, 0, none⟩)] 54)).heap.size = w.heap.size + 1 := by simp
  have b2 := below_alloc (w := w.alloc (.cells #[.pointer (some ⟨b, 0, none⟩)] 54)) (.cells #[.slice none 0 0] 24)
  have q2 := Blk.new (w.alloc (.cells #[.pointer (some ⟨b, 0, none⟩)] 54)) #[.slice none 0 0] 24
  have e2 : ((w.alloc (.cells #[.pointer (some ⟨b, 0, none⟩)] 54)).alloc (.cells #[.slice none 0 0] 24)).heap.size = w.heap.size + 2 := by simp
  have b3 := below_alloc (w := (w.alloc (.cells #[.pointer (some ⟨b, 0, none⟩)] 54)).alloc (.cells #[.slice none 0 0] 24)) (.cells #[.int .i64 0] 28)
  have q3 := Blk.new ((w.alloc (.cells #[.pointer (some ⟨b, 0, none⟩)] 54)).alloc (.cells #[.slice none 0 0] 24)) #[.int .i64 0] 28
  have e3 : (((w.alloc (.cells #[.pointer (some ⟨b, 0, none⟩)] 54)).alloc (.cells #[.slice none 0 0] 24)).alloc (.cells #[.int .i64 0] 28)).heap.size = w.heap.size + 3 := by simp
  rw [e1] at q2
  rw [e2] at q3
  have b4 := below_alloc (w := ((w.alloc (.cells #[.pointer (some ⟨b, 0, none⟩)] 54)).alloc (.cells #[.slice none 0 0] 24)).alloc (.cells #[.int .i64 0] 28)) (.cells #[.int .i64 0] 3)
  have q4 := Blk.new (((w.alloc (.cells #[.pointer (some ⟨b, 0, none⟩)] 54)).alloc (.cells #[.slice none 0 0] 24)).alloc (.cells #[.int .i64 0] 28)) #[.int .i64 0] 3
  have e4 : ((((w.alloc (.cells #[.pointer (some ⟨b, 0, none⟩)] 54)).alloc (.cells #[.slice none 0 0] 24)).alloc (.cells #[.int .i64 0] 28)).alloc (.cells #[.int .i64 0] 3)).heap.size = w.heap.size + 4 := by simp
  rw [e3] at q4
  replace q1 := ((q1.later b2).later b3).later b4
  replace q2 := (q2.later b3).later b4
  replace q3 := q3.later b4
  have bT3 := (b1.trans (b2.mono b1.size)).trans (b3.mono (b1.trans (b2.mono b1.size)).size)
  have bT := bT3.trans (b4.mono bT3.size)
  clear b1 b2 b3 b4 bT3
  have hbl := h.lt
  have h3 := h.later bT
  go_enter_defers Tryz.func26, Tryz.ntmps26
  go_upto_region 1 with fail
  try rw [e1]
  try rw [e2]
  try rw [e3]
  generalize (((w.alloc (.cells #[.pointer (some ⟨b, 0, none⟩)] 54)).alloc (.cells #[.slice none 0 0] 24)).alloc (.cells #[.int .i64 0] 28)).alloc (.cells #[.int .i64 0] 3) = W at q1 q2 q3 q4 bT e4 h3 ⊢
  clear e1 e2 e3
  have t0 := q1.cell 0
  simp only [List.getElem?_toArray, List.getElem?_cons_zero] at t0
  go_wp2_with fail
  refine (isReading_no b _ _ _ _ _ W h3).mono ?_
  rintro r w1 ⟨rfl, rfl⟩
  go_wp2_with fail
  refine (rlast_is b _ _ d e q w1 h3).mono ?_
  rintro r w2 ⟨rfl, b2⟩
  clear t0
  have e5 := b2.size
  replace q1 := q1.later b2
  replace q2 := q2.later b2
  replace q3 := q3.later b2
  replace q4 := q4.later b2
  replace bT := bT.trans (b2.mono bT.size)
  clear b2 h3
  have bA := below_alloc (w := w2) (.cells #[.int .i64 e, .int .i64 q] 35)
  have qF := Blk.new w2 #[.int .i64 e, .int .i64 q] 35
  replace q2 := q2.later bA
  replace q3 := q3.later bA
  replace q4 := q4.later bA
  replace bT := bT.trans (bA.mono bT.size)
  clear bA q1
  go_upto_region 3 with fail
  generalize w2.alloc (.cells #[.int .i64 e, .int .i64 q] 35) = wF at q2 q3 q4 qF bT ⊢
  have ef : w.heap.size + 4 ≤ w2.heap.size := by omega
  generalize w2.heap.size = f at qF ef ⊢
  have z0 := qF.cell 0
  have z1 := qF.cell 1
  simp only [rdC, List.getElem?_toArray, List.getElem?_cons_zero, List.getElem?_cons_succ] at z0 z1
  have bD : Below wF.heap.size wF wF.drew := (Below.refl _ _).drew
  have kz0 := below_cell bD z0
  have kz1 := below_cell bD z1
  replace bT := bT.trans (bD.mono bT.size)
  replace q2 := q2.later bD
  replace q3 := q3.later bD
  replace q4 := q4.later bD
  replace qF := qF.later bD
  refine wp_region_held_drew (S := fun w' => w'.cell? ⟨f, 0, none⟩ = some (.int .i64 e) ∧ w'.cell? ⟨f, 1, none⟩ = some (.int .i64 q)) (by kernel_rfl) ⟨kz0, kz1⟩ (fun hHeld => ?_)
  clear kz0 kz1
  generalize wF.drew = w0 at bD q2 q3 q4 qF bT hHeld ⊢
  clear z0 z1
  refine take' 0 (v := ?_) rfl (by kernel_rfl) (by kernel_rfl) (by kernel_rfl) (fun _ _ _ h => bodyD_put2 (fun T => by simp [results, Tryz.results26]) h) (Or.inl ⟨by rfl, ?_⟩) (by assumption) ?_
  rotate_left
  · intro w9 hSw
    go_simp
    first | done | with_reducible rfl
  simp only [Act.put, List.setIfInBounds_toArray, List.set_cons_zero, List.set_cons_succ]
  refine take' 1 (v := ?_) rfl (by kernel_rfl) (by kernel_rfl) (by kernel_rfl) (fun _ _ _ h => bodyD_put2 (fun T => by simp [results, Tryz.results26]) h) (Or.inl ⟨by rfl, ?_⟩) (by assumption) ?_
  rotate_left
  · intro w9 hSw
    go_simp
    first | done | with_reducible rfl
  simp only [Act.put, List.setIfInBounds_toArray, List.set_cons_zero, List.set_cons_succ]
  refine take' 2 (v := ?_) rfl (by kernel_rfl) (by kernel_rfl) (by kernel_rfl) (fun _ _ _ h => bodyD_put2 (fun T => by simp [results, Tryz.results26]) h) (Or.inl ⟨by rfl, ?_⟩) (by assumption) ?_
  rotate_left
  · intro w9 hSw
    go_simp
    first | done | with_reducible rfl
  simp only [Act.put, List.setIfInBounds_toArray, List.set_cons_zero, List.set_cons_succ]
  refine take' 3 (v := ?_) rfl (by kernel_rfl) (by kernel_rfl) (by kernel_rfl) (fun _ _ _ h => bodyD_put2 (fun T => by simp [results, Tryz.results26]) h) (Or.inl ⟨by rfl, ?_⟩) (by assumption) ?_
  rotate_left
  · intro w9 hSw
    go_simp
    first | done | with_reducible rfl
  simp only [Act.put, List.setIfInBounds_toArray, List.set_cons_zero, List.set_cons_succ]
  refine wpAnyH_ready (rs := [4]) (by kernel_rfl) (by simp) ?_
  refine cons' rfl (fun KK hKK => ?_)
  have fz := fun o => q2.frozen o
  have u1 := q2.cell 0
  simp only [rdC, List.getElem?_toArray, List.getElem?_cons_zero, List.getElem?_cons_succ] at u1
  go_simp
  clear fz u1
  obtain ⟨ks, q8⟩ := q2.set (o := 0) (.slice none 0 0)
  have q9 : Blk (w0.setCell ⟨w.heap.size + 1, 0, none⟩ (.slice none 0 0)) (w.heap.size + 1) #[.slice none 0 0] 24 := by simpa using q8
  clear q2 q8
  have q2 := q9
  clear q9
  have hH2 := (⟨ks.cell (by omega) hHeld.1, ks.cell (by omega) hHeld.2⟩ : _ ∧ _)
  replace q3 := q3.ch ks (by omega)
  replace q4 := q4.ch ks (by omega)
  replace qF := qF.ch ks (by omega)
  replace bT := bT.trans ((ks.below (B := w.heap.size) (by omega)).mono (Nat.le_refl _))
  clear ks
  generalize w0.setCell ⟨w.heap.size + 1, 0, none⟩ (.slice none 0 0) = w5 at hH2 bT q2 q3 q4 qF ⊢
  refine hKK.out _ _ hH2 ?_
  clear hHeld
  intro hHeld
  clear hKK KK
  try simp only [Act.put, List.setIfInBounds_toArray, List.set_cons_zero, List.set_cons_succ]
  clear hH2
  refine wpAnyH_ready (rs := [5]) (by kernel_rfl) (by simp) ?_
  refine cons' rfl (fun KK hKK => ?_)
  have fz := fun o => q3.frozen o
  have u1 := q3.cell 0
  simp only [rdC, List.getElem?_toArray, List.getElem?_cons_zero, List.getElem?_cons_succ] at u1
  go_simp
  clear fz u1
  obtain ⟨ks, q8⟩ := q3.set (o := 0) (.int .i64 e)
  have q9 : Blk (w5.setCell ⟨w.heap.size + 2, 0, none⟩ (.int .i64 e)) (w.heap.size + 2) #[.int .i64 e] 28 := by simpa using q8
  clear q3 q8
  have q3 := q9
  clear q9
  have hH2 := (⟨ks.cell (by omega) hHeld.1, ks.cell (by omega) hHeld.2⟩ : _ ∧ _)
  replace q2 := q2.ch ks (by omega)
  replace q4 := q4.ch ks (by omega)
  replace qF := qF.ch ks (by omega)
  replace bT := bT.trans ((ks.below (B := w.heap.size) (by omega)).mono (Nat.le_refl _))
  clear ks
  generalize w5.setCell ⟨w.heap.size + 2, 0, none⟩ (.int .i64 e) = w6 at hH2 bT q2 q3 q4 qF ⊢
  refine hKK.out _ _ hH2 ?_
  clear hHeld
  intro hHeld
  clear hKK KK
  try simp only [Act.put, List.setIfInBounds_toArray, List.set_cons_zero, List.set_cons_succ]
  clear hH2
  refine wpAnyH_ready (rs := [6]) (by kernel_rfl) (by simp) ?_
  refine cons' rfl (fun KK hKK => ?_)
  have fz := fun o => q4.frozen o
  have u1 := q4.cell 0
  simp only [rdC, List.getElem?_toArray, List.getElem?_cons_zero, List.getElem?_cons_succ] at u1
  go_simp
  clear fz u1
  obtain ⟨ks, q8⟩ := q4.set (o := 0) (.int .i64 q)
  have q9 : Blk (w6.setCell ⟨w.heap.size + 3, 0, none⟩ (.int .i64 q)) (w.heap.size + 3) #[.int .i64 q] 3 := by simpa using q8
  clear q4 q8
  have q4 := q9
  clear q9
  have hH2 := (⟨ks.cell (by omega) hHeld.1, ks.cell (by omega) hHeld.2⟩ : _ ∧ _)
  replace q2 := q2.ch ks (by omega)
  replace q3 := q3.ch ks (by omega)
  replace qF := qF.ch ks (by omega)
  replace bT := bT.trans ((ks.below (B := w.heap.size) (by omega)).mono (Nat.le_refl _))
  clear ks
  generalize w6.setCell ⟨w.heap.size + 3, 0, none⟩ (.int .i64 q) = w7 at hH2 bT q2 q3 q4 qF ⊢
  refine hKK.out _ _ hH2 ?_
  clear hHeld
  intro hHeld
  clear hKK KK
  try simp only [Act.put, List.setIfInBounds_toArray, List.set_cons_zero, List.set_cons_succ]
  clear hH2
  refine wpAnyH_done (by kernel_rfl) ?_ _
  clear hHeld
  go_wp2_with fail
  have g1 := q2.cell 0
  have g2 := q3.cell 0
  have g3 := q4.cell 0
  simp only [List.getElem?_toArray, List.getElem?_cons_zero] at g1 g2 g3
  simp [bodyPostD, Leaves, settle, results, Tryz.results26, go_sem, g1, g2, g3]
  exact bT

/-- FEED, of any reader -/
theorem feedR {w : World} {base b sc : Nat} {X P : Nat → Prop} {rs : RS} (h : RdI w base b sc X P rs) (pc : ByteArray) (hM : MaxL w) (hsz : ∀ o p, rs = .go o p → p.rd + pc.size ≤ 400000000) :
    Calls Tryz.prog 25 #[.pointer (some ⟨b, 0, none⟩), .string pc] w fun r w' => ∃ v, r = .returned (.tuple #[v, .int .i64 (feedF rs pc.data.toList).2.1]) ∧ FedI w w' base b sc X P v (feedF rs pc.data.toList).1 (feedF rs pc.data.toList).2.2 ∧ Chg w w' base X := by
  cases rs with
  | go o p => exact feedGo h pc hM (hsz o p rfl)
  | over d e q =>
    obtain ⟨h1, h2, h3, h4⟩ := id h
    refine (feedOver b d e q pc w h1).mono ?_
    rintro r w' ⟨rfl, hb⟩
    exact ⟨_, rfl, ⟨[], P, X, told_none, (fun g hg => by cases hg), h.later hb, fun k hk _ => hk, fun g hg _ => Or.inl hg⟩, ⟨fun _ => False, Kp.of hb, fun k hk => hk.elim⟩⟩
/-- END, of any reader -/
theorem endR {w : World} {base b sc : Nat} {X P : Nat → Prop} {rs : RS} (h : RdI w base b sc X P rs) (hM : MaxL w) (hsz : ∀ o p, rs = .go o p → p.rd ≤ 400000000) :
    Calls Tryz.prog 26 #[.pointer (some ⟨b, 0, none⟩)] w fun r w' => ∃ v, r = .returned (.tuple #[v, .int .i64 (endF rs).2.1, .int .i64 (endF rs).2.2.1]) ∧ FedI w w' base b sc X P v (endF rs).1 (endF rs).2.2.2 ∧ Chg w w' base X := by
  cases rs with
  | go o p => exact endGo h hM (hsz o p rfl)
  | over d e q =>
    obtain ⟨h1, h2, h3, h4⟩ := id h
    refine (endOver b d e q w h1).mono ?_
    rintro r w' ⟨rfl, hb⟩
    exact ⟨_, rfl, ⟨[], P, X, told_none, (fun g hg => by cases hg), h.later hb, fun k hk _ => hk, fun g hg _ => Or.inl hg⟩, ⟨fun _ => False, Kp.of hb, fun k hk => hk.elim⟩⟩
/-- NEWREADER -/
theorem newI (w : World) (hM : mxB < w.heap.size) : Calls Tryz.prog 24 #[] w fun r w' => ∃ b sc X, r = .returned (.pointer (some ⟨b, 0, none⟩)) ∧ RdI w' w.heap.size b sc X (fun _ => False) rs0 ∧ Below w.heap.size w w' := by
  refine (newR_at w hM).mono ?_
  rintro r w' ⟨b, sc, gl, rfl, h1, h2, n1, n2, l1, l2, l3, hB⟩
  exact ⟨b, sc, _, rfl, ⟨gl, 1, [lv00], sI, w'.heap.size, h1, relB_00, fun x hx => by rw [List.mem_singleton.1 hx]; exact Nat.zero_le _, fun _ => Iff.rfl, h2, Nat.le_refl _, RelS_I, Inv_pI, Nat.le_refl _, Nat.le_refl _, l2, l1⟩, hB⟩
end Go.Proofs.YtpfmamimhhnbiaaGreatDoor

namespace Go.Proofs.YtpfmamimhhnbiaaGreatDoor
open Go.RowKit
set_option linter.unusedVariables false
set_option linter.unusedSimpArgs false
theorem run_append_zero {P : Program} {w : World} (base : Nat) (t ty e : TypeId) (i : TypeInfo) (size : Nat) (ht : P.underlying t = some (.slice e)) (hi : P.info? e = some i)
    (v : Value) (n : Nat) (xs : List Value) (hown : w.ownsRow base e size v n xs) (a : Option Addr) (c : Nat) :
    (Builtin.append_ #[t, t] ty #[v, .slice a 0 c]).run P w = .ok v w := by
  rcases hown.2 with ⟨rfl, rfl⟩ | ⟨g, cap, cur, rfl, _, _, hnc, _⟩
  · cases a <;> simp [Builtin.append_, run_underlying ht, sizeOf, typeInfo, hi, Builtin.lenOf, Builtin.firstCells, loadCells, loadCellsFrom]
  · cases a <;> simp [Builtin.append_, run_underlying ht, sizeOf, typeInfo, hi, Builtin.lenOf, Builtin.firstCells, hnc, storeCells, loadCells, loadCellsFrom]
theorem wpList_append_zero {P : Program} {w : World} {ops : Array Oper} {rest : List Oper} {o : Oper} {a : Act} {Q : Exit → Act → World → Prop} (hgd : o.guard = none) (s x : Operand) (t : TypeId)
    (ho : o.op = .call { callee := .builtin .append, args := #[s, x], argTypes := #[t, t] })
    (base : Nat) (e : TypeId) (i : TypeInfo) (size : Nat) (ht : P.underlying t = some (.slice e)) (hi : P.info? e = some i)
    (v : Value) (n : Nat) (xs : List Value) (hs : a.eval s = v) (hown : w.ownsRow base e size v n xs) (ad : Option Addr) (c : Nat) (hx : a.eval x = .slice ad 0 c)
    (h : wpList P ops Q rest (a.put o.dst v) w) : wpList P ops Q (o :: rest) a w := by
  refine wpList_plain hgd fun K hK => ?_
  have hrun := run_append_zero (P := P) (w := w) base t o.type e i size ht hi v n xs hown ad c
  unfold Oper.wp
  simp [execOp, ho, resolve, invoke, builtin, hs, hx, hrun, Result.andThen]
  exact hK _ _ h
theorem nvCells_one {K : List (Tok × Value)} (hK : ∀ x ∈ K, ∃ a n c, x.2 = Value.slice a n c) : ∀ u ∈ nvCells K, u.oneCell' = true := by
  intro u hu
  obtain ⟨x, hx, hu⟩ := List.mem_flatMap.1 hu
  obtain ⟨a, n, c, e⟩ := hK x hx
  rw [e] at hu
  simp only [Tok.cells, List.mem_append, List.mem_cons, List.not_mem_nil, or_false] at hu
  rcases hu with (rfl | rfl | rfl | rfl | rfl | rfl) | rfl <;> simp [Value.oneCell']
theorem KN.sls {w : World} {P : Nat → Prop} {K : List (Tok × Value)} {N : List Nd} (h : KN w P K N) : ∀ x ∈ K, ∃ a n c, x.2 = Value.slice a n c := by
  intro x hx
  obtain ⟨i, hi, e⟩ := List.getElem_of_mem hx
  obtain ⟨a, c, e2⟩ := (h.2 i hi (by rw [← h.1]; exact hi)).2.sl
  exact ⟨a, _, c, by rw [← e]; exact e2⟩
theorem KN.app {w : World} {P : Nat → Prop} {K L : List (Tok × Value)} {M N : List Nd} (h : KN w P K M) (g : KN w P L N) : KN w P (K ++ L) (M ++ N) := by
  refine ⟨by rw [List.length_append, List.length_append, h.1, g.1], fun i h1 h2 => ?_⟩
  by_cases hi : i < K.length
  · rw [List.getElem_append_left hi, List.getElem_append_left (by rw [← h.1]; exact hi)]
    exact h.2 i hi (by rw [← h.1]; exact hi)
  · rw [List.getElem_append_right (by omega), List.getElem_append_right (by rw [← h.1]; omega)]
    simp only [List.length_append] at h1
    have hm := h.1
    have := g.2 (i - K.length) (by omega) (by have := g.1; omega)
    simpa only [hm] using this
theorem push_few (s : BS) (n : Nd) : (s.push n).nodes.length ≤ s.nodes.length + 1 := by
  unfold BS.push
  split <;> simp
theorem stepB_few (s : BS) (T : Tok) : (∀ s2, stepB s T = .ok s2 → s2.nodes.length ≤ s.nodes.length + 1) ∧ (∀ s2 c q, stepB s T = .bad s2 c q → s2.nodes.length ≤ s.nodes.length + 1) := by
  unfold stepB
  by_cases h1 : T.k = 1
  · rw [if_pos h1]
    by_cases h2 : s.opn.length = 1000
    · rw [if_pos h2]; exact ⟨fun s2 e => (by cases e), fun s2 c q e => (by injection e with e; rw [← e]; omega)⟩
    · rw [if_neg h2]; exact ⟨fun s2 e => (by injection e with e; rw [← e]; exact Nat.le_succ _), fun s2 c q e => (by cases e)⟩
  rw [if_neg h1]
  by_cases h2 : T.k = 2
  · rw [if_pos h2]
    rcases s with ⟨ns, _ | ⟨o, r⟩⟩
    · exact ⟨fun s2 e => (by cases e), fun s2 c q e => (by injection e with e; rw [← e]; omega)⟩
    · exact ⟨fun s2 e => (by injection e with e; rw [← e]; exact push_few ⟨ns, r⟩ _), fun s2 c q e => (by cases e)⟩
  · rw [if_neg h2]
    exact ⟨fun s2 e => (by injection e with e; rw [← e]; exact push_few s _), fun s2 c q e => (by cases e)⟩
theorem buildB_few (l : List Tok) : ∀ s : BS, (∀ s2, buildB s l = .ok s2 → s2.nodes.length ≤ s.nodes.length + l.length) ∧ (∀ s2 c q, buildB s l = .bad s2 c q → s2.nodes.length ≤ s.nodes.length + l.length) := by
  induction l with
  | nil => exact fun s => ⟨fun s2 e => (by injection e with e; rw [← e]; exact Nat.le_refl _), fun s2 c q e => (by cases e)⟩
  | cons T l ih =>
    intro s
    have h1 := stepB_few s T
    simp only [buildB, List.length_cons]
    rcases hs : stepB s T with s3 | ⟨s3, c3, q3⟩
    · have h2 := h1.1 s3 hs
      exact ⟨fun s2 e => by have := (ih s3).1 s2 e; omega, fun s2 c q e => by have := (ih s3).2 s2 c q e; omega⟩
    · have h2 := h1.2 s3 c3 q3 hs
      exact ⟨fun s2 e => (by cases e), fun s2 c q e => (by injection e with e; rw [← e]; omega)⟩
theorem feedF_few (rs : RS) (S : List UInt8) : (feedF rs S).1.length ≤ S.length * 2 := by
  cases rs with
  | over d e q => simp [feedF]
  | go o p =>
    rcases hf : feedP p S with ⟨ts, out⟩
    have hl := feed_len2 p S
    rw [hf] at hl
    simp only at hl
    rw [feedF_fed hf]
    have hb := buildB_few ts ⟨[], o⟩
    rcases hbb : buildB ⟨[], o⟩ ts with s | ⟨s, c, q⟩
    · have := hb.1 s hbb
      simp only [List.length_nil] at this
      cases out <;> simp only [fedB] <;> omega
    · have := hb.2 s c q hbb
      simp only [List.length_nil] at this
      simp only [fedB]
      omega
theorem endF_few (rs : RS) : (endF rs).1.length ≤ 1 := by
  cases rs with
  | over d e q => simp [endF]
  | go o p =>
    have hl := end_len p
    have hb := buildB_few (endP p).1 ⟨[], o⟩
    simp only [endF]
    rcases hbb : buildB ⟨[], o⟩ (endP p).1 with s | ⟨s, c, q⟩
    · have := hb.1 s hbb
      simp only [List.length_nil] at this
      simp only
      split
      · simp only; omega
      · split <;> simp only <;> omega
    · have := hb.2 s c q hbb
      simp only [List.length_nil] at this
      simp only
      omega
theorem feedF_rd {o : List Opn} {p : PS} {S : List UInt8} (hi : Inv p) {o2 : List Opn} {q : PS} (h : (feedF (.go o p) S).2.2 = .go o2 q) : q.rd = p.rd + S.length := by
  rcases hf : feedP p S with ⟨ts, out⟩
  rw [feedF_fed hf] at h
  rcases hbb : buildB ⟨[], o⟩ ts with s | ⟨s, c, q3⟩
  · rw [hbb] at h
    cases out with
    | ok q4 =>
      simp only [fedB] at h
      injection h with _ h
      subst h
      exact (feed_rd S hi hf).2.1
    | bad B L C => simp only [fedB] at h; cases h
  · rw [hbb] at h
    simp only [fedB] at h
    cases h
theorem results_t3 {fn : Func} {p u t : Tmp} (h : fn.results = #[.tmp p, .tmp u, .tmp t]) (tmps : Array Value) (P : Program) (w : World) :
    (results fn tmps).run P w = .ok (.tuple #[tmps.getD p undef, tmps.getD u undef, tmps.getD t undef]) w := by simp [results, h]
/-- a list of nodes behind another one -/
theorem wpList_app_nodes {w : World} {ops : Array Oper} {rest : List Oper} {o : Oper} {a : Act} {Q : Exit → Act → World → Prop} (hgd : o.guard = none) (sl x : Operand) (ho : o.op = .call { callee := .builtin .append, args := #[sl, x], argTypes := #[24, 24] })
    (base base2 : Nat) (v v2 : Value) (K K2 : List (Tok × Value)) (hs : a.eval sl = v) (hown : w.ownsRow base 26 7 v K.length (nvCells K)) (hx : a.eval x = v2) (hown2 : w.ownsRow base2 26 7 v2 K2.length (nvCells K2)) (hk2 : ∀ x ∈ K2, ∃ a n c, x.2 = Value.slice a n c) (hlen : K.length + K2.length ≤ 100000000000) (hbase : base ≤ w.heap.size)
    (h : ∀ v' w', w'.ownsRow base 26 7 v' (K ++ K2).length (nvCells (K ++ K2)) → w.grownBy w' v.ownBlock → (v'.ownBlock = v.ownBlock ∨ v'.ownBlock = some w.heap.size) → wpList Tryz.prog ops Q rest (a.put o.dst v') w') : wpList Tryz.prog ops Q (o :: rest) a w := by
  obtain ⟨i0, hi0, hz0, hz1, hz2⟩ := info_parts info_Node
  by_cases h2 : K2 = []
  · subst h2
    obtain ⟨ad, c, e2⟩ := own_sl hown2
    refine wpList_append_zero hgd sl x 24 ho base 26 i0 7 Tryz.underlying24 hi0 v K.length (nvCells K) hs hown ad c (by rw [hx]; exact e2) ?_
    exact h v w (by rw [List.append_nil]; exact hown) ⟨rfl, rfl, rfl, Nat.le_refl _, fun _ _ _ => rfl⟩ (Or.inl rfl)
  · have hl2 : 0 < K2.length := List.length_pos_iff.2 h2
    rcases hown2.2 with ⟨_, h0⟩ | ⟨g, cap, cur, hv, _⟩
    · omega
    · have hc := hown2.cells (g := g) (by rw [hv]; rfl)
      refine wpList_append_lies w hgd sl x 24 ho base 26 i0 _ 7 80 Tryz.underlying24 hi0 hz0 hz1 hz2 rfl (by omega) v K.length (nvCells K) hs hown ⟨g, 0, none⟩ K2.length cap (nvCells K2) (by rw [hx]; exact hv) (nvCells_len K2) hc (nvCells_one hk2) hl2 (by simp only [maxLen]; omega) (by omega) hbase w.heap.size rfl ?_
      intro g2 cap2 w' o2 gr hg _
      exact h _ w' (by rw [List.length_append, nvCells_app]; exact o2) gr (hg.elim (fun e => Or.inl e.symm) (fun e => Or.inr (by rw [e]; rfl)))

/-- the answer of Read: nodes in new memory -/
def ReadA (w w0 : World) (v : Value) (N : List Nd) : Prop := ∃ K Q, Told w w0.heap.size Q v N K ∧ ∀ g, Q g → w0.heap.size ≤ g ∧ TyN w g
set_option maxHeartbeats 8000000 in
set_option maxRecDepth 100000 in
theorem read_is (s : ByteArray) (w : World) (hs : s.size ≤ 400000000) (hM : MaxL w) (hmx : mxB < w.heap.size) : Calls Tryz.prog 18 #[.string s] w fun r w' => ∃ v, r = .returned (.tuple #[v, .int .i64 (readG s.data.toList).2.1, .int .i64 (readG s.data.toList).2.2]) ∧ ReadA w' w v (readG s.data.toList).1 ∧ Below w.heap.size w w' := by
  have hend : ∀ o p, (feedF rs0 s.data.toList).2.2 = .go o p → p.rd ≤ 400000000 := fun o p e => by rw [feedF_rd Inv_pI e, Array.length_toList]; show 0 + s.size ≤ _; omega
  have hf1 := feedF_few rs0 s.data.toList
  rw [Array.length_toList] at hf1
  replace hf1 : (feedF rs0 s.data.toList).1.length ≤ s.size * 2 := hf1
  obtain ⟨fd, hfd⟩ : ∃ fd, feedF rs0 s.data.toList = fd := ⟨_, rfl⟩
  have hf2 := endF_few fd.2.2
  obtain ⟨en, hen⟩ : ∃ en, endF fd.2.2 = en := ⟨_, rfl⟩
  have hG : readG s.data.toList = (fd.1 ++ en.1, en.2.1, en.2.2.1) := by unfold readG; rw [hfd, hen]
  rw [hG]
  rw [hfd] at hend hf1
  rw [hen] at hf2
  have HE := hideT (And.intro hfd (And.intro hen hend))
  clear hG hfd hen hend
  simp only
  have G1 := hideT (newI w hmx)
  go_enter Tryz.func18, Tryz.ntmps18
  go_wp2_with fail
  refine G1.out.mono ?_
  rintro r w1 ⟨b, sc, X, rfl, h1, b1⟩
  clear G1
  have hM1 := hM.on b1
  have G2 := hideT (feedR h1 s hM1 (fun o p e => by injection e with _ e2; rw [← e2]; show 0 + s.size ≤ _; omega))
  rw [HE.out.1] at G2
  go_wp2_with fail
  refine G2.out.mono ?_
  rintro r w2 ⟨v2, rfl, ⟨K2, P2, X2, t2, x2, h2, m2, n2⟩, c2⟩
  clear G2
  have hM2 := c2.maxL hM1 hmx
  have B2 := c2.below b1.size (Nat.le_refl _)
  have hB2 := b1.trans B2
  have G3 := hideT (endR h2 hM2 HE.out.2.2)
  rw [HE.out.2.1] at G3
  obtain ⟨va, vc, ev2⟩ := own_sl t2.own
  have T2 := hideT t2
  subst ev2
  clear t2
  go_wp2_with fail
  refine G3.out.mono ?_
  rintro r w3 ⟨v3, rfl, ⟨K3, P3, X3, t3, x3, h3, m3, n3⟩, c3⟩
  clear G3
  have xp2 := h2.xb
  have xp3 := h3.xb
  have t2b := T2.out.chg c3 (fun g hg => (x2 g hg).1) (fun g hg => xp2.2 g hg)
  have B3 := hB2.trans (c3.below hB2.size (Nat.le_refl _))
  have hl2 := hB2.size
  have hl3 := c3.size
  go_wp2_with (at_builtin; refine wpList_app_nodes (by rfl) _ _ (by rfl) w.heap.size w.heap.size _ v3 K2 K3 (by rfl) t2b.own (by rfl) t3.own t3.kn.sls (by have := t2b.kn.1; have := t3.kn.1; omega) (by omega) ?_)
  intro v4 w4 own4 gr4 at4
  have kg : Kp (fun k => (Value.slice va K2.length vc).ownBlock = some k) w3 w4 := Kp.grown gr4 (fun k e => e)
  have q2 : ∀ g, P2 g → (Value.slice va K2.length vc).ownBlock ≠ some g := fun g hg e => T2.out.off g e hg
  have q3 : ∀ g, P3 g → (Value.slice va K2.length vc).ownBlock ≠ some g := fun g hg e => by
    have hlt := (own_lt T2.out.own e).2
    rcases n3 g hg hlt with c | c
    · exact T2.out.off g e c
    · exact (x2 g e).1 c
  have hne : ∀ g, v4.ownBlock = some g → (Value.slice va K2.length vc).ownBlock = some g ∨ w3.heap.size ≤ g := fun g hg => by
    rcases at4 with c | c
    · exact Or.inl (c ▸ hg)
    · right; rw [c] at hg; injection hg with hg; omega
  have TT : Told w4 w.heap.size (fun g => P2 g ∨ P3 g) v4 (fd.1 ++ en.1) (K2 ++ K3) := by
    refine ⟨by rw [List.length_append]; exact own4, ?_, fun g hg c => ?_⟩
    · exact KN.app ((t2b.kn).kept (fun g hg hl => kg.block g hl (q2 g hg)) (fun g c => Or.inl c)) ((t3.kn).kept (fun g hg hl => kg.block g hl (q3 g hg)) (fun g c => Or.inr c))
    · rcases hne g hg with e | e
      · rcases c with c | c
        · exact q2 g c e
        · exact q3 g c e
      · rcases c with c | c
        · have := (xp2.2 g c).2.lt; omega
        · have := (xp3.2 g c).2.lt; omega
  have ty4 : ∀ g, P2 g ∨ P3 g → w.heap.size ≤ g ∧ TyN w4 g := fun g hg => by
    rcases hg with c | c
    · have tg := (xp2.2 g c).2
      refine ⟨Nat.le_of_not_lt (fun hl => ?_), (tg.of (c3.heap tg (xp2.2 g c).1)).of (kg.block g (Nat.lt_of_lt_of_le tg.lt hl3) (q2 g c))⟩
      rcases n2 g c (Nat.lt_of_lt_of_le hl b1.size) with d | d
      · exact d
      · have := (h1.xb.1 g d).1; omega
    · have tg := (xp3.2 g c).2
      refine ⟨Nat.le_of_not_lt (fun hl => ?_), tg.of (kg.block g tg.lt (q3 g c))⟩
      rcases n3 g c (Nat.lt_of_lt_of_le hl hl2) with d | d
      · rcases n2 g d (Nat.lt_of_lt_of_le hl b1.size) with f | f
        · exact f
        · have := (h1.xb.1 g f).1; omega
      · have := (h2.xb.1 g d).1; omega
  have B4 := B3.trans (kg.below (B := w.heap.size) B3.size (fun g hg e => by have := (own_lt T2.out.own e).1; omega))
  have RA : ReadA w4 w v4 (fd.1 ++ en.1) := ⟨_, _, TT, ty4⟩
  clear TT ty4 own4 gr4 at4 kg q2 q3 hne t2b xp2 xp3 h1 h2 h3
  go_wp2
  refine bodyPost_ret (v := .tuple #[v4, .int .i64 en.2.1, .int .i64 en.2.2.1]) (by rw [results_t3 rfl]; rfl) rfl ?_
  exact ⟨v4, rfl, RA, B4⟩

end Go.Proofs.YtpfmamimhhnbiaaGreatDoor
