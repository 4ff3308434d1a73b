/-
  A reader that is over: Feed and End; Depth.
-/
import Derived.Test.YtibeiggedmabkaaDoorSXJ
namespace Go.Proofs.YtibeiggedmabkaaDoor
open Go.RowKit
set_option linter.unusedVariables false
set_option linter.unusedSimpArgs false
theorem bodyD_put2 {P : Program} {fn : Func} {R : Ending → World → Prop} {K K2 : Act → World → Prop} {a : Act} {d : Nat} {v : Value} {c : List PanicEntry} {w : World} (hr : ∀ T : Array Value, results fn (T.setIfInBounds d v) = results fn T) (h : Exit.then K (Exit.then K2 (bodyPostD P fn R)) (.panic c) (a.put (some d) v) w) : Exit.then K (Exit.then K2 (bodyPostD P fn R)) (.panic c) a w :=
  Leaves.congr (hr a.tmps) h
/-- why no piece is taken any more -/
def refV (e : Int) : Int := if e = 0 then 131 else e
theorem run_field61 (v0 v1 : Value) (w : World) : (Instr.field 61 (.agg #[v0, v1]) 0).run Tryd.prog w = .ok v0 w := by kernel_rfl
set_option maxHeartbeats 4000000 in
set_option maxRecDepth 100000 in
theorem refusal_is (b : Nat) (d e q : Int) (w : World) (h : Blk w b (rdC none (.slice none 0 0) d true e q) 63) : Calls Tryd.prog 27 #[.pointer (some ⟨b, 0, none⟩)] w fun r w' => r = .returned (.int .i64 (refV e)) ∧ Below w.heap.size w w' := by
  have G := hideT (rlast_is b none (.slice none 0 0) d e q w h)
  have hf := run_field61 (.int .i64 e) (.int .i64 q)
  by_cases he : e = 0
  · have x0 : (e != 0) = false := by rw [he]; rfl
    have ev : refV e = 131 := by unfold refV; rw [if_pos he]
    rw [ev]
    clear ev he
    go_enter Tryd.func27, Tryd.ntmps27
    go_wp2_with fail
    refine G.out.mono ?_
    rintro r w1 ⟨rfl, b1⟩
    go_wp2
    go_ret
    exact ⟨rfl, b1⟩
  · have x0 : (e != 0) = true := by rw [bne_iff_ne]; exact he
    have ev : refV e = e := by unfold refV; rw [if_neg he]
    rw [ev]
    clear ev he
    go_enter Tryd.func27, Tryd.ntmps27
    go_wp2_with fail
    refine G.out.mono ?_
    rintro r w1 ⟨rfl, b1⟩
    go_wp2
    go_ret
    exact ⟨rfl, b1⟩

set_option maxHeartbeats 8000000 in
set_option maxRecDepth 100000 in
theorem feedOver (b : Nat) (d e q : Int) (pc : ByteArray) (w : World) (h : Blk w b (rdC none (.slice none 0 0) d true e q) 63) : Calls Tryd.prog 16 #[.pointer (some ⟨b, 0, none⟩), .string pc] w fun r w' => r = .returned (.tuple #[.slice none 0 0, .int .i64 (refV e)]) ∧ Below w.heap.size w w' := by
  have b1 := below_alloc (w := w) (.cells #[.pointer (some ⟨b, 0, none⟩)] 37)
  have q1 := Blk.new w #[.pointer (some ⟨b, 0, none⟩)] 37
  have e1 : (w.alloc (.cells #[.pointer (some ⟨b, 0, none⟩)] 37)).heap.size = w.heap.size + 1 := by simp
  have b2 := below_alloc (w := w.alloc (.cells #[.pointer (some ⟨b, 0, none⟩)] 37)) (.cells #[.slice none 0 0] 22)
  have q2 := Blk.new (w.alloc (.cells #[.pointer (some ⟨b, 0, none⟩)] 37)) #[.slice none 0 0] 22
  have e2 : ((w.alloc (.cells #[.pointer (some ⟨b, 0, none⟩)] 37)).alloc (.cells #[.slice none 0 0] 22)).heap.size = w.heap.size + 2 := by simp
  have b3 := below_alloc (w := (w.alloc (.cells #[.pointer (some ⟨b, 0, none⟩)] 37)).alloc (.cells #[.slice none 0 0] 22)) (.cells #[.int .i64 0] 23)
  have q3 := Blk.new ((w.alloc (.cells #[.pointer (some ⟨b, 0, none⟩)] 37)).alloc (.cells #[.slice none 0 0] 22)) #[.int .i64 0] 23
  have e3 : (((w.alloc (.cells #[.pointer (some ⟨b, 0, none⟩)] 37)).alloc (.cells #[.slice none 0 0] 22)).alloc (.cells #[.int .i64 0] 23)).heap.size = w.heap.size + 3 := by simp
  rw [e1] at q2
  rw [e2] at q3
  replace q1 := (q1.later b2).later b3
  replace q2 := q2.later b3
  have bT := (b1.trans (b2.mono b1.size)).trans (b3.mono (b1.trans (b2.mono b1.size)).size)
  clear b1 b2 b3
  have hbl := h.lt
  have h3 := h.later bT
  go_enter_defers Tryd.func16, Tryd.ntmps16
  go_upto_region 1 with fail
  try rw [e1]
  try rw [e2]
  generalize ((w.alloc (.cells #[.pointer (some ⟨b, 0, none⟩)] 37)).alloc (.cells #[.slice none 0 0] 22)).alloc (.cells #[.int .i64 0] 23) = W at q1 q2 q3 bT e3 h3 ⊢
  clear e1 e2
  have t0 := q1.cell 0
  simp only [List.getElem?_toArray, List.getElem?_cons_zero] at t0
  go_wp2_with fail
  refine (isReading_no b _ _ _ _ _ W h3).mono ?_
  rintro r w1 ⟨rfl, rfl⟩
  go_wp2_with fail
  refine (refusal_is b d e q w1 h3).mono ?_
  rintro r w2 ⟨rfl, b2⟩
  clear t0
  have e5 := b2.size
  replace q1 := q1.later b2
  replace q2 := q2.later b2
  replace q3 := q3.later b2
  replace bT := bT.trans (b2.mono bT.size)
  clear b2 h3
  have f2 := fun o => q2.frozen o
  have f3 := fun o => q3.frozen o
  have t2 := q2.cell 0
  have t3 := q3.cell 0
  simp only [List.getElem?_toArray, List.getElem?_cons_zero] at t2 t3
  go_wp2_with fail
  clear f2 f3 t2 t3
  obtain ⟨k2, z2⟩ := q2.set (o := 0) (.slice none 0 0)
  have z2b : Blk (w2.setCell ⟨w.heap.size + 1, 0, none⟩ (.slice none 0 0)) (w.heap.size + 1) #[.slice none 0 0] 22 := by simpa using z2
  have y3 := q3.ch k2 (by omega)
  obtain ⟨k3, z3⟩ := y3.set (o := 0) (.int .i64 (refV e))
  have z3b : Blk ((w2.setCell ⟨w.heap.size + 1, 0, none⟩ (.slice none 0 0)).setCell ⟨w.heap.size + 2, 0, none⟩ (.int .i64 (refV e))) (w.heap.size + 2) #[.int .i64 (refV e)] 23 := by simpa using z3
  have z4 := z2b.ch k3 (by omega)
  have hB : Below w.heap.size w _ := bT.trans (((k2.below (B := w.heap.size) (by omega)).trans (k3.below (B := w.heap.size) (by omega))).mono (Nat.le_refl _))
  have g1 := z4.cell 0
  have g2 := z3b.cell 0
  simp only [List.getElem?_toArray, List.getElem?_cons_zero] at g1 g2
  clear k2 k3 z2 z2b z3 z3b z4 y3 q1 q2 q3
  generalize (w2.setCell ⟨w.heap.size + 1, 0, none⟩ (.slice none 0 0)).setCell ⟨w.heap.size + 2, 0, none⟩ (.int .i64 (refV e)) = w9 at hB g1 g2 ⊢
  simp [bodyPostD, Leaves, settle, results, Tryd.results16, go_sem, g1, g2]
  exact hB

set_option maxHeartbeats 8000000 in
set_option maxRecDepth 100000 in
theorem endOver (b : Nat) (d e q : Int) (w : World) (h : Blk w b (rdC none (.slice none 0 0) d true e q) 63) : Calls Tryd.prog 19 #[.pointer (some ⟨b, 0, none⟩)] w fun r w' => r = .returned (.tuple #[.slice none 0 0, .int .i64 e, .int .i64 q]) ∧ Below w.heap.size w w' := by
  have b1 := below_alloc (w := w) (.cells #[.pointer (some ⟨b, 0, none⟩)] 37)
  have q1 := Blk.new w #[.pointer (some ⟨b, 0, none⟩)] 37
  have e1 : (w.alloc (.cells #[.pointer (some ⟨b, 0, none⟩)] 37)).heap.size = w.heap.size + 1 := by simp
  have b2 := below_alloc (w := w.alloc (.cells #[.pointer (some ⟨b, 0, none⟩)] 37)) (.cells #[.slice none 0 0] 22)
  have q2 := Blk.new (w.alloc (.cells #[.pointer (some ⟨b, 0, none⟩)] 37)) #[.slice none 0 0] 22
  have e2 : ((w.alloc (.cells #[.pointer (some ⟨b, 0, none⟩)] 37)).alloc (.cells #[.slice none 0 0] 22)).heap.size = w.heap.size + 2 := by simp
  have b3 := below_alloc (w := (w.alloc (.cells #[.pointer (some ⟨b, 0, none⟩)] 37)).alloc (.cells #[.slice none 0 0] 22)) (.cells #[.int .i64 0] 23)
  have q3 := Blk.new ((w.alloc (.cells #[.pointer (some ⟨b, 0, none⟩)] 37)).alloc (.cells #[.slice none 0 0] 22)) #[.int .i64 0] 23
  have e3 : (((w.alloc (.cells #[.pointer (some ⟨b, 0, none⟩)] 37)).alloc (.cells #[.slice none 0 0] 22)).alloc (.cells #[.int .i64 0] 23)).heap.size = w.heap.size + 3 := by simp
  rw [e1] at q2
  rw [e2] at q3
  have b4 := below_alloc (w := ((w.alloc (.cells #[.pointer (some ⟨b, 0, none⟩)] 37)).alloc (.cells #[.slice none 0 0] 22)).alloc (.cells #[.int .i64 0] 23)) (.cells #[.int .i64 0] 3)
  have q4 := Blk.new (((w.alloc (.cells #[.pointer (some ⟨b, 0, none⟩)] 37)).alloc (.cells #[.slice none 0 0] 22)).alloc (.cells #[.int .i64 0] 23)) #[.int .i64 0] 3
  have e4 : ((((w.alloc (.cells #[.pointer (some ⟨b, 0, none⟩)] 37)).alloc (.cells #[.slice none 0 0] 22)).alloc (.cells #[.int .i64 0] 23)).alloc (.cells #[.int .i64 0] 3)).heap.size = w.heap.size + 4 := by simp
  rw [e3] at q4
  replace q1 := ((q1.later b2).later b3).later b4
  replace q2 := (q2.later b3).later b4
  replace q3 := q3.later b4
  have bT3 := (b1.trans (b2.mono b1.size)).trans (b3.mono (b1.trans (b2.mono b1.size)).size)
  have bT := bT3.trans (b4.mono bT3.size)
  clear b1 b2 b3 b4 bT3
  have hbl := h.lt
  have h3 := h.later bT
  go_enter_defers Tryd.func19, Tryd.ntmps19
  go_upto_region 1 with fail
  try rw [e1]
  try rw [e2]
  try rw [e3]
  generalize (((w.alloc (.cells #[.pointer (some ⟨b, 0, none⟩)] 37)).alloc (.cells #[.slice none 0 0] 22)).alloc (.cells #[.int .i64 0] 23)).alloc (.cells #[.int .i64 0] 3) = W at q1 q2 q3 q4 bT e4 h3 ⊢
  clear e1 e2 e3
  have t0 := q1.cell 0
  simp only [List.getElem?_toArray, List.getElem?_cons_zero] at t0
  go_wp2_with fail
  refine (isReading_no b _ _ _ _ _ W h3).mono ?_
  rintro r w1 ⟨rfl, rfl⟩
  go_wp2_with fail
  refine (rlast_is b _ _ d e q w1 h3).mono ?_
  rintro r w2 ⟨rfl, b2⟩
  clear t0
  have e5 := b2.size
  replace q1 := q1.later b2
  replace q2 := q2.later b2
  replace q3 := q3.later b2
  replace q4 := q4.later b2
  replace bT := bT.trans (b2.mono bT.size)
  clear b2 h3
  have bA := below_alloc (w := w2) (.cells #[.int .i64 e, .int .i64 q] 61)
  have qF := Blk.new w2 #[.int .i64 e, .int .i64 q] 61
  replace q2 := q2.later bA
  replace q3 := q3.later bA
  replace q4 := q4.later bA
  replace bT := bT.trans (bA.mono bT.size)
  clear bA q1
  go_upto_region 3 with fail
  generalize w2.alloc (.cells #[.int .i64 e, .int .i64 q] 61) = wF at q2 q3 q4 qF bT ⊢
  have ef : w.heap.size + 4 ≤ w2.heap.size := by omega
  generalize w2.heap.size = f at qF ef ⊢
  have z0 := qF.cell 0
  have z1 := qF.cell 1
  simp only [rdC, List.getElem?_toArray, List.getElem?_cons_zero, List.getElem?_cons_succ] at z0 z1
  have bD : Below wF.heap.size wF wF.drew := (Below.refl _ _).drew
  have kz0 := below_cell bD z0
  have kz1 := below_cell bD z1
  replace bT := bT.trans (bD.mono bT.size)
  replace q2 := q2.later bD
  replace q3 := q3.later bD
  replace q4 := q4.later bD
  replace qF := qF.later bD
  refine wp_region_held_drew (S := fun w' => w'.cell? ⟨f, 0, none⟩ = some (.int .i64 e) ∧ w'.cell? ⟨f, 1, none⟩ = some (.int .i64 q)) (by kernel_rfl) ⟨kz0, kz1⟩ (fun hHeld => ?_)
  clear kz0 kz1
  generalize wF.drew = w0 at bD q2 q3 q4 qF bT hHeld ⊢
  clear z0 z1
  refine take' 0 (v := ?_) rfl (by kernel_rfl) (by kernel_rfl) (by kernel_rfl) (fun _ _ _ h => bodyD_put2 (fun T => by simp [results, Tryd.results19]) h) (Or.inl ⟨by rfl, ?_⟩) (by assumption) ?_
  rotate_left
  · intro w9 hSw
    go_simp
    first | done | with_reducible rfl
  simp only [Act.put, List.setIfInBounds_toArray, List.set_cons_zero, List.set_cons_succ]
  refine take' 1 (v := ?_) rfl (by kernel_rfl) (by kernel_rfl) (by kernel_rfl) (fun _ _ _ h => bodyD_put2 (fun T => by simp [results, Tryd.results19]) h) (Or.inl ⟨by rfl, ?_⟩) (by assumption) ?_
  rotate_left
  · intro w9 hSw
    go_simp
    first | done | with_reducible rfl
  simp only [Act.put, List.setIfInBounds_toArray, List.set_cons_zero, List.set_cons_succ]
  refine take' 2 (v := ?_) rfl (by kernel_rfl) (by kernel_rfl) (by kernel_rfl) (fun _ _ _ h => bodyD_put2 (fun T => by simp [results, Tryd.results19]) h) (Or.inl ⟨by rfl, ?_⟩) (by assumption) ?_
  rotate_left
  · intro w9 hSw
    go_simp
    first | done | with_reducible rfl
  simp only [Act.put, List.setIfInBounds_toArray, List.set_cons_zero, List.set_cons_succ]
  refine take' 3 (v := ?_) rfl (by kernel_rfl) (by kernel_rfl) (by kernel_rfl) (fun _ _ _ h => bodyD_put2 (fun T => by simp [results, Tryd.results19]) h) (Or.inl ⟨by rfl, ?_⟩) (by assumption) ?_
  rotate_left
  · intro w9 hSw
    go_simp
    first | done | with_reducible rfl
  simp only [Act.put, List.setIfInBounds_toArray, List.set_cons_zero, List.set_cons_succ]
  refine wpAnyH_ready (rs := [4]) (by kernel_rfl) (by simp) ?_
  refine cons' rfl (fun KK hKK => ?_)
  have fz := fun o => q2.frozen o
  have u1 := q2.cell 0
  simp only [rdC, List.getElem?_toArray, List.getElem?_cons_zero, List.getElem?_cons_succ] at u1
  go_simp
  clear fz u1
  obtain ⟨ks, q8⟩ := q2.set (o := 0) (.slice none 0 0)
  have q9 : Blk (w0.setCell ⟨w.heap.size + 1, 0, none⟩ (.slice none 0 0)) (w.heap.size + 1) #[.slice none 0 0] 22 := by simpa using q8
  clear q2 q8
  have q2 := q9
  clear q9
  have hH2 := (⟨ks.cell (by omega) hHeld.1, ks.cell (by omega) hHeld.2⟩ : _ ∧ _)
  replace q3 := q3.ch ks (by omega)
  replace q4 := q4.ch ks (by omega)
  replace qF := qF.ch ks (by omega)
  replace bT := bT.trans ((ks.below (B := w.heap.size) (by omega)).mono (Nat.le_refl _))
  clear ks
  generalize w0.setCell ⟨w.heap.size + 1, 0, none⟩ (.slice none 0 0) = w5 at hH2 bT q2 q3 q4 qF ⊢
  refine hKK.out _ _ hH2 ?_
  clear hHeld
  intro hHeld
  clear hKK KK
  try simp only [Act.put, List.setIfInBounds_toArray, List.set_cons_zero, List.set_cons_succ]
  clear hH2
  refine wpAnyH_ready (rs := [5]) (by kernel_rfl) (by simp) ?_
  refine cons' rfl (fun KK hKK => ?_)
  have fz := fun o => q3.frozen o
  have u1 := q3.cell 0
  simp only [rdC, List.getElem?_toArray, List.getElem?_cons_zero, List.getElem?_cons_succ] at u1
  go_simp
  clear fz u1
  obtain ⟨ks, q8⟩ := q3.set (o := 0) (.int .i64 e)
  have q9 : Blk (w5.setCell ⟨w.heap.size + 2, 0, none⟩ (.int .i64 e)) (w.heap.size + 2) #[.int .i64 e] 23 := by simpa using q8
  clear q3 q8
  have q3 := q9
  clear q9
  have hH2 := (⟨ks.cell (by omega) hHeld.1, ks.cell (by omega) hHeld.2⟩ : _ ∧ _)
  replace q2 := q2.ch ks (by omega)
  replace q4 := q4.ch ks (by omega)
  replace qF := qF.ch ks (by omega)
  replace bT := bT.trans ((ks.below (B := w.heap.size) (by omega)).mono (Nat.le_refl _))
  clear ks
  generalize w5.setCell ⟨w.heap.size + 2, 0, none⟩ (.int .i64 e) = w6 at hH2 bT q2 q3 q4 qF ⊢
  refine hKK.out _ _ hH2 ?_
  clear hHeld
  intro hHeld
  clear hKK KK
  try simp only [Act.put, List.setIfInBounds_toArray, List.set_cons_zero, List.set_cons_succ]
  clear hH2
  refine wpAnyH_ready (rs := [6]) (by kernel_rfl) (by simp) ?_
  refine cons' rfl (fun KK hKK => ?_)
  have fz := fun o => q4.frozen o
  have u1 := q4.cell 0
  simp only [rdC, List.getElem?_toArray, List.getElem?_cons_zero, List.getElem?_cons_succ] at u1
  go_simp
  clear fz u1
  obtain ⟨ks, q8⟩ := q4.set (o := 0) (.int .i64 q)
  have q9 : Blk (w6.setCell ⟨w.heap.size + 3, 0, none⟩ (.int .i64 q)) (w.heap.size + 3) #[.int .i64 q] 3 := by simpa using q8
  clear q4 q8
  have q4 := q9
  clear q9
  have hH2 := (⟨ks.cell (by omega) hHeld.1, ks.cell (by omega) hHeld.2⟩ : _ ∧ _)
  replace q2 := q2.ch ks (by omega)
  replace q3 := q3.ch ks (by omega)
  replace qF := qF.ch ks (by omega)
  replace bT := bT.trans ((ks.below (B := w.heap.size) (by omega)).mono (Nat.le_refl _))
  clear ks
  generalize w6.setCell ⟨w.heap.size + 3, 0, none⟩ (.int .i64 q) = w7 at hH2 bT q2 q3 q4 qF ⊢
  refine hKK.out _ _ hH2 ?_
  clear hHeld
  intro hHeld
  clear hKK KK
  try simp only [Act.put, List.setIfInBounds_toArray, List.set_cons_zero, List.set_cons_succ]
  clear hH2
  refine wpAnyH_done (by kernel_rfl) ?_ _
  clear hHeld
  go_wp2_with fail
  have g1 := q2.cell 0
  have g2 := q3.cell 0
  have g3 := q4.cell 0
  simp only [List.getElem?_toArray, List.getElem?_cons_zero] at g1 g2 g3
  simp [bodyPostD, Leaves, settle, results, Tryd.results19, go_sem, g1, g2, g3]
  exact bT

set_option maxHeartbeats 2000000 in
theorem depth_is (b : Nat) (p : Option Addr) (v : Value) (d : Int) (en : Bool) (e q : Int) (w : World) (h : Blk w b (rdC p v d en e q) 63) : Calls Tryd.prog 18 #[.pointer (some ⟨b, 0, none⟩)] w fun r w' => r = .returned (.int .i64 d) ∧ w' = w := by
  have y2 := h.cell 2
  simp only [rdC, List.getElem?_toArray, List.getElem?_cons_zero, List.getElem?_cons_succ] at y2
  go_enter Tryd.func18, Tryd.ntmps18
  go_wp2
  go_ret
  exact ⟨rfl, rfl⟩

/-- FEED, of any reader -/
theorem feedR {w : World} {base b sc : Nat} {X P : Nat → Prop} {rs : RS} (h : RdI w base b sc X P rs) (pc : ByteArray) (hM : MaxL w) (hsz : ∀ o p, rs = .go o p → p.rd + pc.size ≤ 400000000) :
    Calls Tryd.prog 16 #[.pointer (some ⟨b, 0, none⟩), .string pc] w fun r w' => ∃ v, r = .returned (.tuple #[v, .int .i64 (feedF rs pc.data.toList).2.1]) ∧ FedI w w' base b sc X P v (feedF rs pc.data.toList).1 (feedF rs pc.data.toList).2.2 ∧ Chg w w' base X := by
  cases rs with
  | go o p => exact feedGo h pc hM (hsz o p rfl)
  | over d e q =>
    obtain ⟨h1, h2, h3, h4⟩ := id h
    refine (feedOver b d e q pc w h1).mono ?_
    rintro r w' ⟨rfl, hb⟩
    exact ⟨_, rfl, ⟨[], P, X, told_none, (fun g hg => by cases hg), h.later hb, fun k hk _ => hk, fun g hg _ => Or.inl hg⟩, ⟨fun _ => False, Kp.of hb, fun k hk => hk.elim⟩⟩
/-- END, of any reader -/
theorem endR {w : World} {base b sc : Nat} {X P : Nat → Prop} {rs : RS} (h : RdI w base b sc X P rs) (hM : MaxL w) (hsz : ∀ o p, rs = .go o p → p.rd ≤ 400000000) :
    Calls Tryd.prog 19 #[.pointer (some ⟨b, 0, none⟩)] w fun r w' => ∃ v, r = .returned (.tuple #[v, .int .i64 (endF rs).2.1, .int .i64 (endF rs).2.2.1]) ∧ FedI w w' base b sc X P v (endF rs).1 (endF rs).2.2.2 ∧ Chg w w' base X := by
  cases rs with
  | go o p => exact endGo h hM (hsz o p rfl)
  | over d e q =>
    obtain ⟨h1, h2, h3, h4⟩ := id h
    refine (endOver b d e q w h1).mono ?_
    rintro r w' ⟨rfl, hb⟩
    exact ⟨_, rfl, ⟨[], P, X, told_none, (fun g hg => by cases hg), h.later hb, fun k hk _ => hk, fun g hg _ => Or.inl hg⟩, ⟨fun _ => False, Kp.of hb, fun k hk => hk.elim⟩⟩
/-- NEWREADER -/
theorem newI (w : World) (hM : mxB < w.heap.size) : Calls Tryd.prog 15 #[] w fun r w' => ∃ b sc X, r = .returned (.pointer (some ⟨b, 0, none⟩)) ∧ RdI w' w.heap.size b sc X (fun _ => False) rs0 ∧ Below w.heap.size w w' := by
  refine (newR_at w hM).mono ?_
  rintro r w' ⟨b, sc, gl, rfl, h1, h2, n1, n2, l1, l2, l3, hB⟩
  exact ⟨b, sc, _, rfl, ⟨gl, 1, [lv00], sI, w'.heap.size, h1, relB_00, fun x hx => by rw [List.mem_singleton.1 hx]; exact Nat.zero_le _, fun _ => Iff.rfl, h2, Nat.le_refl _, RelS_I, Inv_pI, Nat.le_refl _, Nat.le_refl _, l2, l1⟩, hB⟩
end Go.Proofs.YtibeiggedmabkaaDoor
