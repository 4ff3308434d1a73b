/-
  Feed, whole.
-/
import Derived.Test.YtibeiggedmabkaaDoorSXG
namespace Go.Proofs.YtibeiggedmabkaaDoor
open Go.RowKit
set_option linter.unusedVariables false
set_option linter.unusedSimpArgs false
theorem stepB_ne {s s2 : BS} {T : Tok} {c q : Int} (h : stepB s T = .bad s2 c q) : c ≠ 0 := by
  unfold stepB at h
  split at h
  · split at h
    · injection h with _ h _; omega
    · cases h
  · split at h
    · split at h
      · injection h with _ h _; omega
      · cases h
    · cases h
theorem buildB_ne {ts : List Tok} : ∀ {s s2 : BS} {c q : Int}, buildB s ts = .bad s2 c q → c ≠ 0 := by
  induction ts with
  | nil => intro s s2 c q h; cases h
  | cons T l ih =>
    intro s s2 c q h
    simp only [buildB] at h
    split at h
    · exact ih h
    · rename_i s3 c3 q3 hs
      injection h with _ h2 _
      subst h2
      exact stepB_ne hs
/-- a list of nodes that is told: its row, what stands in it -/
structure Told (w : World) (base : Nat) (P : Nat → Prop) (v : Value) (N : List Nd) (K : List (Tok × Value)) : Prop where
  own : w.ownsRow base 34 7 v K.length (nvCells K)
  kn : KN w P K N
  off : ∀ g, v.ownBlock = some g → ¬ P g
/-- a block that is neither a scanner's nor its bytes -/
def Frm (w : World) (k : Nat) : Prop := ∃ cur t, w.heap[k]? = some (.cells cur t (0, 0)) ∧ t ≠ 5 ∧ t ≠ 82
/-- the answer where all is well so far -/
def FeedOk (base b : Nat) (p : Option Addr) (B : Nat) (s2 : BS) (wm : Nat) (X0 P0 : Nat → Prop) (r : Ending) (w' : World) : Prop :=
  ∃ v K gl c P lv, r = .returned (.tuple #[v, .int .i64 0]) ∧ Told w' base P v s2.nodes K ∧ (∀ g, v.ownBlock = some g → ¬ RdX b gl lv g ∧ (g < wm → X0 g)) ∧ RdAt w' base b p false 0 0 gl c P lv ∧ RelB lv ⟨[], s2.opn⟩ ∧ (∀ x ∈ lv, x.K.length ≤ B) ∧ (∀ k, RdX b gl lv k → k < wm → X0 k) ∧ (∀ g, P g → g < wm → P0 g ∨ X0 g)
/-- and where something is wrong -/
def FeedBad (base b : Nat) (e q : Int) (s2 : BS) (wm : Nat) (X0 P0 : Nat → Prop) (rs : Value → List Value) (r : Ending) (w' : World) : Prop :=
  ∃ v K P, r = .returned (.tuple (rs v).toArray) ∧ Told w' base P v s2.nodes K ∧ (∀ g, v.ownBlock = some g → g ≠ b ∧ (g < wm → X0 g)) ∧ (∀ g, P g → g ≠ b ∧ TyN w' g ∧ (g < wm → P0 g ∨ X0 g)) ∧ Blk w' b (rdC none (.slice none 0 0) s2.opn.length true e q) 63
/-- Feed's answer, by what the tokens make -/
def FeedE (base b : Nat) (p : Option Addr) (B : Nat) (x : BR) (e apl : Int) (wm : Nat) (X0 P0 : Nat → Prop) (r : Ending) (w' : World) : Prop :=
  match x with
  | .ok s2 => if e = 0 then FeedOk base b p B s2 wm X0 P0 r w' else FeedBad base b e apl s2 wm X0 P0 (fun v => [v, .int .i64 e]) r w'
  | .bad s2 cc qq => FeedBad base b cc qq s2 wm X0 P0 (fun v => [v, .int .i64 cc]) r w'
theorem Kp.weak {X Y : Nat → Prop} {w w' : World} (h : Kp X w w') (hY : ∀ k, X k → Y k) : Kp Y w w' := ⟨h.os, h.tape, h.output, h.size, fun k hk hn => h.block k hk (fun c => hn (hY k c))⟩
theorem own_frm {w : World} {base n : Nat} {v : Value} {xs : List Value} (h : w.ownsRow base 34 7 v n xs) {g : Nat} (hg : v.ownBlock = some g) : Frm w g := by
  obtain ⟨cur, hc⟩ := own_ty h hg
  exact ⟨cur, _, hc, by decide, by decide⟩
theorem rd_frm {w : World} {base b : Nat} {p : Option Addr} {en : Bool} {er pl : Int} {gl c : Nat} {P : Nat → Prop} {lv : List Lv} (h : RdAt w base b p en er pl gl c P lv) : ∀ k, RdX b gl lv k → Frm w k := fun k hk => by
  rcases hk with e | e | ⟨x, hx, e⟩
  · subst e; exact ⟨_, _, h.blk, by decide, by decide⟩
  · subst e; exact own_frm h.own rfl
  · exact own_frm (h.ok x hx) e
set_option maxHeartbeats 8000000 in
set_option maxRecDepth 100000 in
theorem rfeed {w : World} {base b : Nat} {sc : Nat} {gl c : Nat} {P Y : Nat → Prop} {lv : List Lv} {B : Nat} {s : BS} {Ps : World → Prop} (h : RdAt w base b (some ⟨sc, 0, none⟩) false 0 0 gl c P lv) (hr : RelB lv s) (h6 : ∀ x ∈ lv, x.K.length ≤ B) (pc : ByteArray) (ts : List Tok) (e apl : Int) (hB : B + ts.length ≤ 1000000000) (hYX : ∀ i, RdX b gl lv i → ¬ Y i) (hYP : ∀ g, P g → ¬ Y g) (hYl : ∀ g, Y g → g < w.heap.size) (hsc : ∀ W, Below w.heap.size w W → Calls Tryd.prog 33 #[.pointer (some ⟨sc, 0, none⟩), .string pc] W fun r w2 => ∃ v, r = .returned (.tuple #[v, .int .i64 e]) ∧ w2.ownsRow W.heap.size 32 6 v ts.length (tokCells ts) ∧ Kp Y W w2 ∧ (e ≠ 0 → ∀ wr, Kp (Frm w2) w2 wr → Calls Tryd.prog 43 #[.pointer (some ⟨sc, 0, none⟩)] wr fun r w' => ∃ c0 c1 c3 c4 c5, r = .returned (.agg #[c0, c1, .int .i64 apl, c3, c4, c5]) ∧ Below wr.heap.size wr w') ∧ Ps w2) :
    Calls Tryd.prog 16 #[.pointer (some ⟨b, 0, none⟩), .string pc] w fun r w' => (∃ w2, Ps w2 ∧ Kp (Frm w2) w2 w') ∧ Kp (fun k => RdX b gl lv k ∨ Y k) w w' ∧ FeedE base b (some ⟨sc, 0, none⟩) (B + ts.length) (buildB s ts) e apl w.heap.size (RdX b gl lv) P r w' := by
  have hmf : ∀ (fn : Fn) (first cap : Array Value) (w : World), (Instr.makeFunc fn first cap).run Tryd.prog w = .ok (.func fn first cap) w := fun _ _ _ _ => rfl
  have b1 := below_alloc (w := w) (.cells #[.pointer (some ⟨b, 0, none⟩)] 37)
  have q1 := Blk.new w #[.pointer (some ⟨b, 0, none⟩)] 37
  have e1 : (w.alloc (.cells #[.pointer (some ⟨b, 0, none⟩)] 37)).heap.size = w.heap.size + 1 := by simp
  have b2 := below_alloc (w := w.alloc (.cells #[.pointer (some ⟨b, 0, none⟩)] 37)) (.cells #[.slice none 0 0] 22)
  have q2 := Blk.new (w.alloc (.cells #[.pointer (some ⟨b, 0, none⟩)] 37)) #[.slice none 0 0] 22
  have e2 : ((w.alloc (.cells #[.pointer (some ⟨b, 0, none⟩)] 37)).alloc (.cells #[.slice none 0 0] 22)).heap.size = w.heap.size + 2 := by simp
  have b3 := below_alloc (w := (w.alloc (.cells #[.pointer (some ⟨b, 0, none⟩)] 37)).alloc (.cells #[.slice none 0 0] 22)) (.cells #[.int .i64 0] 23)
  have q3 := Blk.new ((w.alloc (.cells #[.pointer (some ⟨b, 0, none⟩)] 37)).alloc (.cells #[.slice none 0 0] 22)) #[.int .i64 0] 23
  have e3 : (((w.alloc (.cells #[.pointer (some ⟨b, 0, none⟩)] 37)).alloc (.cells #[.slice none 0 0] 22)).alloc (.cells #[.int .i64 0] 23)).heap.size = w.heap.size + 3 := by simp
  rw [e1] at q2
  rw [e2] at q3
  replace q1 := (q1.later b2).later b3
  replace q2 := q2.later b3
  have bT := (b1.trans (b2.mono b1.size)).trans (b3.mono (b1.trans (b2.mono b1.size)).size)
  clear b1 b2 b3
  have hbl := h.blk.lt
  have h3 := h.later bT
  go_enter_defers Tryd.func16, Tryd.ntmps16
  go_upto_region 1 with fail
  try rw [e1]
  try rw [e2]
  generalize ((w.alloc (.cells #[.pointer (some ⟨b, 0, none⟩)] 37)).alloc (.cells #[.slice none 0 0] 22)).alloc (.cells #[.int .i64 0] 23) = W at q1 q2 q3 bT e3 h3 ⊢
  clear e1 e2
  have t0 := q1.cell 0
  simp only [List.getElem?_toArray, List.getElem?_cons_zero] at t0
  go_wp2_with fail
  refine (isReading_is b ⟨sc, 0, none⟩ _ _ _ _ _ W h3.blk).mono ?_
  rintro r w1 ⟨rfl, rfl⟩
  go_wp2_with fail
  clear t0
  have e4 : w.heap.size + 3 ≤ w1.heap.size := by omega
  clear e3
  have y0 := q1.cell 0
  have z0 := h3.blk.cell 0
  simp only [rdC, List.getElem?_toArray, List.getElem?_cons_zero] at y0 z0
  have bD : Below w1.heap.size w1 w1.drew := (Below.refl _ _).drew
  have ky0 := below_cell bD y0
  have kz0 := below_cell bD z0
  replace bT := bT.trans (bD.mono bT.size)
  replace q1 := q1.later bD
  replace q2 := q2.later bD
  replace q3 := q3.later bD
  replace h3 := h3.later bD
  replace e4 := Nat.le_trans e4 bD.size
  refine wp_region_held_drew (S := fun w' => w'.cell? ⟨w.heap.size, 0, none⟩ = some (.pointer (some ⟨b, 0, none⟩)) ∧ w'.cell? ⟨b, 0, none⟩ = some (.pointer (some ⟨sc, 0, none⟩))) (by kernel_rfl) ⟨ky0, kz0⟩ (fun hHeld => ?_)
  clear ky0 kz0
  generalize w1.drew = w0 at bD e4 q1 q2 q3 h3 bT hHeld ⊢
  clear bD
  clear y0 z0
  refine take' 0 (v := ?_) rfl (by kernel_rfl) (by kernel_rfl) (by kernel_rfl) (fun _ _ _ h => bodyD_put (fun T => by simp [results, Tryd.results16]) h) (Or.inl ⟨by rfl, ?_⟩) (by assumption) ?_
  rotate_left
  · intro w9 hSw
    go_simp
    first | done | with_reducible rfl
  simp only [Act.put, List.setIfInBounds_toArray, List.set_cons_zero, List.set_cons_succ]
  refine take' 1 (v := ?_) rfl (by kernel_rfl) (by kernel_rfl) (by kernel_rfl) (fun _ _ _ h => bodyD_put (fun T => by simp [results, Tryd.results16]) h) (Or.inl ⟨by rfl, ?_⟩) (by assumption) ?_
  rotate_left
  · intro w9 hSw
    go_simp
    first | done | with_reducible rfl
  simp only [Act.put, List.setIfInBounds_toArray, List.set_cons_zero, List.set_cons_succ]
  refine take' 2 (v := ?_) rfl (by kernel_rfl) (by kernel_rfl) (by kernel_rfl) (fun _ _ _ h => bodyD_put (fun T => by simp [results, Tryd.results16]) h) (Or.inl ⟨by rfl, ?_⟩) (by assumption) ?_
  rotate_left
  · intro w9 hSw
    go_simp
    first | done | with_reducible rfl
  simp only [Act.put, List.setIfInBounds_toArray, List.set_cons_zero, List.set_cons_succ]
  refine take' 3 (v := ?_) rfl (by kernel_rfl) (by kernel_rfl) (by kernel_rfl) (fun _ _ _ h => bodyD_put (fun T => by simp [results, Tryd.results16]) h) (Or.inl ⟨by rfl, ?_⟩) (by assumption) ?_
  rotate_left
  · intro w9 hSw
    go_simp
    first | done | with_reducible rfl
  simp only [Act.put, List.setIfInBounds_toArray, List.set_cons_zero, List.set_cons_succ]
  refine take' 4 (v := ?_) rfl (by kernel_rfl) (by kernel_rfl) (by kernel_rfl) (fun _ _ _ h => bodyD_put (fun T => by simp [results, Tryd.results16]) h) (Or.inl ⟨by rfl, ?_⟩) (by assumption) ?_
  rotate_left
  · intro w9 hSw
    go_simp
    first | done | with_reducible rfl
  simp only [Act.put, List.setIfInBounds_toArray, List.set_cons_zero, List.set_cons_succ]
  refine take' 5 (v := ?_) rfl (by kernel_rfl) (by kernel_rfl) (by kernel_rfl) (fun _ _ _ h => bodyD_put (fun T => by simp [results, Tryd.results16]) h) (Or.inl ⟨by rfl, ?_⟩) (by assumption) ?_
  rotate_left
  · intro w9 hSw
    go_simp
    first | done | with_reducible rfl
  simp only [Act.put, List.setIfInBounds_toArray, List.set_cons_zero, List.set_cons_succ]
  refine wpAnyH_ready (rs := [6]) (by kernel_rfl) (by simp) ?_
  refine cons' rfl (fun KK hKK => ?_)
  go_simp
  refine (hsc w0 bT).mono ?_
  rintro r2 w2 ⟨v, rfl, own, kY, hat0, hPs⟩
  have nY : ∀ k, w.heap.size ≤ k → ¬ Y k := fun k hk c => by have := hYl k c; omega
  have hl2 := kY.size
  have hH2 := (⟨cell_kp kY (nY _ (Nat.le_refl _)) hHeld.1, cell_kp kY (hYX b (Or.inl rfl)) hHeld.2⟩ : _ ∧ _)
  replace q1 := kY.blk q1 (nY _ (Nat.le_refl _))
  replace q2 := kY.blk q2 (nY _ (by omega))
  replace q3 := kY.blk q3 (nY _ (by omega))
  replace h3 := h3.kp kY hYX hYP
  have hvx : ∀ g, v.ownBlock = some g → ¬ RdX b gl lv g := fun g hg c => by
    have h1 := (own_lt own hg).1
    rcases c with c | c | ⟨x, hx, c⟩
    · omega
    · have := (own_lt h.own (g := gl) rfl).2; omega
    · have := (own_lt (h.ok x hx) c).2; omega
  have fX : ∀ k, RdX b gl lv k → Frm w2 k := rd_frm h3
  have fQ : ∀ k, k = w.heap.size + 1 ∨ k = w.heap.size + 2 → Frm w2 k := fun k hk => by
    rcases hk with e | e
    · subst e; exact ⟨_, _, q2, by decide, by decide⟩
    · subst e; exact ⟨_, _, q3, by decide, by decide⟩
  have hat : e ≠ 0 → ∀ wr, Kp (RdX b gl lv) w2 wr → _ := fun c wr k => hat0 c wr (k.weak fX)
  clear hat0
  have FRM := hideT (And.intro fX (And.intro fQ hPs))
  clear fX fQ hPs
  go_wp2_with fail
  refine hKK.out _ _ hH2 ?_
  clear hHeld
  intro hHeld
  clear hKK KK
  try simp only [Act.put, List.setIfInBounds_toArray, List.set_cons_zero, List.set_cons_succ]
  clear hH2
  refine take' 7 (v := ?_) rfl (by kernel_rfl) (by kernel_rfl) (by kernel_rfl) (fun _ _ _ h => bodyD_put (fun T => by simp [results, Tryd.results16]) h) (Or.inl ⟨by rfl, ?_⟩) (by assumption) ?_
  rotate_left
  · intro w9 hSw
    go_simp
    first | done | with_reducible rfl
  simp only [Act.put, List.setIfInBounds_toArray, List.set_cons_zero, List.set_cons_succ]
  refine take' 8 (v := ?_) rfl (by kernel_rfl) (by kernel_rfl) (by kernel_rfl) (fun _ _ _ h => bodyD_put (fun T => by simp [results, Tryd.results16]) h) (Or.inl ⟨by rfl, ?_⟩) (by assumption) ?_
  rotate_left
  · intro w9 hSw
    go_simp
    first | done | with_reducible rfl
  simp only [Act.put, List.setIfInBounds_toArray, List.set_cons_zero, List.set_cons_succ]
  refine wpAnyH_ready (rs := [9]) (by kernel_rfl) (by simp) ?_
  refine cons' rfl (fun KK hKK => ?_)
  go_simp
  refine (rtake h3 hr h6 v ts w0.heap.size own hvx hB e apl (fun c => ⟨_, rfl, hat c⟩)).mono ?_
  rintro r3 w3 hE
  have HAT := hideT hat
  clear hat
  have nX : ∀ k, w.heap.size ≤ k → ¬ RdX b gl lv k := fun k hk c => by
    rcases c with c | c | ⟨x, hx, c⟩
    · omega
    · have := (own_lt h.own (g := gl) rfl).2; omega
    · have := (own_lt (h.ok x hx) c).2; omega
  have kz : Kp (fun k => RdX b gl lv k ∨ Y k) w w2 := (Kp.of (X := fun k => RdX b gl lv k ∨ Y k) bT).trans kY (fun _ _ c => Or.inr c)
  rcases hbb : buildB s ts with s2 | ⟨s2, cc, qq⟩
  · rw [hbb] at hE
    obtain ⟨e5, gl2, c2, P2, lv2, a1, a2, a3, a4, a5, a6⟩ := hE
    by_cases he : e = 0
    · rw [if_pos he] at e5
      subst e5
      subst he
      have z0 := a1.blk.cell 0
      simp only [rdC, List.getElem?_toArray, List.getElem?_cons_zero] at z0
      have hH2 := (⟨cell_kp a3 (nX _ (Nat.le_refl _)) hHeld.1, z0⟩ : _ ∧ _)
      clear z0
      go_wp2_with fail
      refine hKK.out _ _ hH2 ?_
      clear hHeld
      intro hHeld
      clear hKK KK
      try simp only [Act.put, List.setIfInBounds_toArray, List.set_cons_zero, List.set_cons_succ]
      clear hH2
      refine wpAnyH_done (by kernel_rfl) ?_ _
      clear hHeld
      go_wp2_with fail
      have hd2 := a2.len
      replace kz := kz.trans a3 (fun _ _ c => Or.inl c)
      replace q1 := a3.blk q1 (nX _ (Nat.le_refl _))
      replace q2 := a3.blk q2 (nX _ (by omega))
      replace q3 := a3.blk q3 (nX _ (by omega))
      have hgX : ∀ k, RdX b gl2 lv2 k → k < w.heap.size ∨ w2.heap.size ≤ k := fun k hk => by
        by_cases hl : k < w2.heap.size
        · exact Or.inl (Nat.lt_of_not_le (fun c => nX k c (a4 k hk hl)))
        · exact Or.inr (by omega)
      have hg2 := hgX gl2 (Or.inr (Or.inl rfl))
      obtain ⟨ini, x, ex, exN, hrl⟩ := a2.last
      have hxm : x ∈ lv2 := by rw [ex]; simp
      obtain ⟨ka, kc, ev⟩ := own_sl (a1.ok x hxm)
      have hn1 : 0 < lv2.length := by rw [ex]; simp
      have hk1 : w3.cell? ⟨gl2, 6, none⟩ = some (.slice ka x.K.length kc) := by
        rw [a1.own.cellAt 6 (by omega), ex, nv_first, ← ev]; rfl
      have hZ : ∀ y ∈ lv2, ∀ g, y.v.ownBlock = some g → ¬ (g = b ∨ g = gl2 ∨ g = w.heap.size + 1 ∨ g = w.heap.size + 2) := fun y hy g hg c => by
        have := hgX g (Or.inr (Or.inr ⟨y, hy, hg⟩))
        rcases c with c | c | c | c
        · exact (a1.far y hy g hg).1 c
        · exact (a1.far y hy g hg).2.1 c
        · omega
        · omega
      have hZP : ∀ g, P2 g → ¬ (g = b ∨ g = gl2 ∨ g = w.heap.size + 1 ∨ g = w.heap.size + 2) := fun g hg c => by
        have h5 : g < w.heap.size ∨ w2.heap.size ≤ g := by
          rcases a5 g hg with d | d | d
          · exact Or.inl (h.pf g d).2.2
          · exact Or.inl (Nat.lt_of_not_le (fun c => nX g c d))
          · exact Or.inr d
        rcases c with c | c | c | c
        · exact (a1.pf g hg).1 c
        · exact (a1.pf g hg).2.1 c
        · omega
        · omega
      have hkx : x.K.length ≤ 1099511627776 := by have := a6 x hxm; omega
      have FIN := hideT (And.intro kz (And.intro a4 (And.intro a2 (And.intro exN (And.intro hrl (And.intro a6 (And.intro a3 a5)))))))
      clear kz a4 exN hrl a3 a5
      refine leaves_cons (f := 28) (args := #[.pointer (some ⟨w.heap.size, 0, none⟩), .pointer (some ⟨w.heap.size + 1, 0, none⟩), .pointer (some ⟨w.heap.size + 2, 0, none⟩)]) (by simp) (by simp [go_sem]) ?_
      refine (feed_idle 37 22 23 w.heap.size (w.heap.size + 1) (w.heap.size + 2) b gl2 lv2.length c2 _ _ _ _ _ ka x.K.length kc _ _ 0 0 w3 q1 q2 q3 a1.blk hn1 hk1 (a1.own.frozenAt _) (by omega) (by omega) (by omega) (by omega) (by omega) (by omega) (by omega) (by omega) (by omega) a1.gb).mono ?_
      rintro e5 u' w4 ⟨rfl, rfl, f1, f2, f3, f4, f5⟩
      have g1 := f1.cell 0
      have g2 := f2.cell 0
      simp only [List.getElem?_toArray, List.getElem?_cons_zero] at g1 g2
      obtain ⟨kz, a4, _, exN, hrl, _, a3, a5⟩ := FIN.out
      obtain ⟨fX, fQ, hPs⟩ := FRM.out
      have kw : Kp (fun k => RdX b gl lv k ∨ Y k) w w4 := kz.trans f5 (fun i hi c => Or.inl (by
        rcases c with c | c | c | c
        · exact Or.inl c
        · exact a4 i (Or.inr (Or.inl c)) (by omega)
        · omega
        · omega))
      have kF : Kp (Frm w2) w2 w4 := (a3.weak fX).trans f5 (fun i hi c => by
        rcases c with c | c | c | c
        · exact fX i (Or.inl c)
        · exact fX i (a4 i (Or.inr (Or.inl c)) hi)
        · exact fQ i (Or.inl c)
        · exact fQ i (Or.inr c))
      have h5x : ∀ g, P2 g → g < w.heap.size → P g ∨ RdX b gl lv g := fun g hg hl => by
        rcases a5 g hg with d | d | d
        · exact Or.inl d
        · exact Or.inr d
        · omega
      have h4x : ∀ k, RdX b gl2 lv2 k → k < w.heap.size → RdX b gl lv k := fun k hk hl => a4 k hk (by omega)
      have hvX : x.v.ownBlock = (Value.slice ka x.K.length kc).ownBlock := by rw [← ev]
      have hP3 : ∀ g, P2 g → g < w3.heap.size → w4.heap[g]? = w3.heap[g]? := fun g hg hl => f5.block g hl (hZP g hg)
      have TL : Told w4 base P2 (.slice ka x.K.length kc) s2.nodes x.K := ⟨by rw [← ev]; exact own_kp (a1.ok x hxm) f5 (hZ x hxm), by rw [← exN]; exact (a1.kn x hxm).kept hP3 (fun _ c => c), fun g hg => (a1.far x hxm g (hvX.trans hg)).2.2⟩
      have T := (rd_tell (ex ▸ a1) (by rw [← ex]; exact f3) f4 f5 (ex ▸ hZ) hZP hkx).1
      have hap := List.pairwise_append.1 (ex ▸ a1.ap)
      have hRX : ∀ k, RdX b gl2 (ini ++ [(⟨x.t, .slice none 0 0, [], []⟩ : Lv)]) k → RdX b gl2 lv2 k := fun k hk => by
        rcases hk with c | c | ⟨y, hy, c⟩
        · exact Or.inl c
        · exact Or.inr (Or.inl c)
        · rcases List.mem_append.1 hy with e5 | e5
          · exact Or.inr (Or.inr ⟨y, by rw [ex]; exact List.mem_append_left _ e5, c⟩)
          · rw [List.mem_singleton.1 e5] at c; simp [Value.ownBlock] at c
      have FO : FeedOk base b (some ⟨sc, 0, none⟩) (B + ts.length) s2 w.heap.size (RdX b gl lv) P (.returned (.tuple #[.slice ka x.K.length kc, .int .i64 0])) w4 := by
        refine ⟨_, x.K, gl2, c2, P2, _, rfl, TL, fun g hg => ⟨fun c => ?_, fun hl => h4x g (Or.inr (Or.inr ⟨x, hxm, hvX.trans hg⟩)) hl⟩, T, hrl _, fun y hy => ?_, fun k hk hl => h4x k (hRX k hk) hl, h5x⟩
        · have hgx := hvX.trans hg
          rcases c with c | c | ⟨y, hy, c⟩
          · exact (a1.far x hxm g hgx).1 c
          · exact (a1.far x hxm g hgx).2.1 c
          · rcases List.mem_append.1 hy with e5 | e5
            · exact hap.2.2 y e5 x (by simp) g c hgx
            · rw [List.mem_singleton.1 e5] at c; simp [Value.ownBlock] at c
        · rcases List.mem_append.1 hy with e5 | e5
          · exact a6 y (by rw [ex]; exact List.mem_append_left _ e5)
          · rw [List.mem_singleton.1 e5]; simp
      have FP : FeedE base b (some ⟨sc, 0, none⟩) (B + ts.length) (buildB s ts) 0 apl w.heap.size (RdX b gl lv) P (.returned (.tuple #[.slice ka x.K.length kc, .int .i64 0])) w4 := by rw [hbb]; exact FO
      clear hbb FO
      simp [Leaves, settle, results, Tryd.results16, go_sem, g1, g2]
      exact ⟨⟨w2, hPs, kF⟩, kw, FP⟩
    · rw [if_neg he] at e5
      subst e5
      have hne := he
      clear hHeld
      go_wp2_with fail
      have hd2 := a2.len
      replace kz := kz.trans a3 (fun _ _ c => Or.inl c)
      replace q1 := a3.blk q1 (nX _ (Nat.le_refl _))
      replace q2 := a3.blk q2 (nX _ (by omega))
      replace q3 := a3.blk q3 (nX _ (by omega))
      have hgX : ∀ k, RdX b gl2 lv2 k → k < w.heap.size ∨ w2.heap.size ≤ k := fun k hk => by
        by_cases hl : k < w2.heap.size
        · exact Or.inl (Nat.lt_of_not_le (fun c => nX k c (a4 k hk hl)))
        · exact Or.inr (by omega)
      have hg2 := hgX gl2 (Or.inr (Or.inl rfl))
      obtain ⟨ini, x, ex, exN, hrl⟩ := a2.last
      have hxm : x ∈ lv2 := by rw [ex]; simp
      obtain ⟨ka, kc, ev⟩ := own_sl (a1.ok x hxm)
      have hn1 : 0 < lv2.length := by rw [ex]; simp
      have hk1 : w3.cell? ⟨gl2, 6, none⟩ = some (.slice ka x.K.length kc) := by
        rw [a1.own.cellAt 6 (by omega), ex, nv_first, ← ev]; rfl
      have hZ : ∀ y ∈ lv2, ∀ g, y.v.ownBlock = some g → ¬ (g = b ∨ g = gl2 ∨ g = w.heap.size + 1 ∨ g = w.heap.size + 2) := fun y hy g hg c => by
        have := hgX g (Or.inr (Or.inr ⟨y, hy, hg⟩))
        rcases c with c | c | c | c
        · exact (a1.far y hy g hg).1 c
        · exact (a1.far y hy g hg).2.1 c
        · omega
        · omega
      have hZP : ∀ g, P2 g → ¬ (g = b ∨ g = gl2 ∨ g = w.heap.size + 1 ∨ g = w.heap.size + 2) := fun g hg c => by
        have h5 : g < w.heap.size ∨ w2.heap.size ≤ g := by
          rcases a5 g hg with d | d | d
          · exact Or.inl (h.pf g d).2.2
          · exact Or.inl (Nat.lt_of_not_le (fun c => nX g c d))
          · exact Or.inr d
        rcases c with c | c | c | c
        · exact (a1.pf g hg).1 c
        · exact (a1.pf g hg).2.1 c
        · omega
        · omega
      have hkx : x.K.length ≤ 1099511627776 := by have := a6 x hxm; omega
      have FIN := hideT (And.intro kz (And.intro a4 (And.intro a2 (And.intro exN (And.intro hrl (And.intro a6 (And.intro a3 a5)))))))
      clear kz a4 exN hrl a3 a5
      refine leaves_cons (f := 28) (args := #[.pointer (some ⟨w.heap.size, 0, none⟩), .pointer (some ⟨w.heap.size + 1, 0, none⟩), .pointer (some ⟨w.heap.size + 2, 0, none⟩)]) (by simp) (by simp [go_sem]) ?_
      refine (feed_catch 37 22 23 w.heap.size (w.heap.size + 1) (w.heap.size + 2) b gl2 lv2.length c2 _ _ _ _ _ ka x.K.length kc _ _ e apl w3 q1 q2 q3 a1.blk hn1 hk1 (a1.own.frozenAt _) (by omega) (by omega) (by omega) (by omega) (by omega) (by omega) (by omega) (by omega) (by omega) a1.gb hne).mono ?_
      rintro e5 u' w4 ⟨rfl, rfl, f1, f2, f3, f5⟩
      have g1 := f1.cell 0
      have g2 := f2.cell 0
      simp only [List.getElem?_toArray, List.getElem?_cons_zero] at g1 g2
      obtain ⟨kz, a4, _, exN, hrl, _, a3, a5⟩ := FIN.out
      obtain ⟨fX, fQ, hPs⟩ := FRM.out
      have kw : Kp (fun k => RdX b gl lv k ∨ Y k) w w4 := kz.trans f5 (fun i hi c => Or.inl (by
        rcases c with c | c | c | c
        · exact Or.inl c
        · exact a4 i (Or.inr (Or.inl c)) (by omega)
        · omega
        · omega))
      have kF : Kp (Frm w2) w2 w4 := (a3.weak fX).trans f5 (fun i hi c => by
        rcases c with c | c | c | c
        · exact fX i (Or.inl c)
        · exact fX i (a4 i (Or.inr (Or.inl c)) hi)
        · exact fQ i (Or.inl c)
        · exact fQ i (Or.inr c))
      have h5x : ∀ g, P2 g → g < w.heap.size → P g ∨ RdX b gl lv g := fun g hg hl => by
        rcases a5 g hg with d | d | d
        · exact Or.inl d
        · exact Or.inr d
        · omega
      have h4x : ∀ k, RdX b gl2 lv2 k → k < w.heap.size → RdX b gl lv k := fun k hk hl => a4 k hk (by omega)
      have hvX : x.v.ownBlock = (Value.slice ka x.K.length kc).ownBlock := by rw [← ev]
      have hP3 : ∀ g, P2 g → g < w3.heap.size → w4.heap[g]? = w3.heap[g]? := fun g hg hl => f5.block g hl (hZP g hg)
      have TL : Told w4 base P2 (.slice ka x.K.length kc) s2.nodes x.K := ⟨by rw [← ev]; exact own_kp (a1.ok x hxm) f5 (hZ x hxm), by rw [← exN]; exact (a1.kn x hxm).kept hP3 (fun _ c => c), fun g hg => (a1.far x hxm g (hvX.trans hg)).2.2⟩
      have ed : ((lv2.length : Int) - 1) = (s2.opn.length : Int) := by omega
      rw [ed] at f3
      have FO : FeedBad base b e apl s2 w.heap.size (RdX b gl lv) P (fun v => [v, .int .i64 e]) (.returned (.tuple #[.slice ka x.K.length kc, .int .i64 e])) w4 := ⟨_, x.K, P2, rfl, TL, fun g hg => ⟨(a1.far x hxm g (hvX.trans hg)).1, fun hl => h4x g (Or.inr (Or.inr ⟨x, hxm, hvX.trans hg⟩)) hl⟩, fun g hg => ⟨(a1.pf g hg).1, (a1.ty g hg).of (hP3 g hg (a1.pf g hg).2.2), h5x g hg⟩, f3⟩
      have FP : FeedE base b (some ⟨sc, 0, none⟩) (B + ts.length) (buildB s ts) e apl w.heap.size (RdX b gl lv) P (.returned (.tuple #[.slice ka x.K.length kc, .int .i64 e])) w4 := by rw [hbb]; show (if e = 0 then _ else _); rw [if_neg hne]; exact FO
      clear hbb FO
      simp [Leaves, settle, results, Tryd.results16, go_sem, g1, g2]
      exact ⟨⟨w2, hPs, kF⟩, kw, FP⟩
  · rw [hbb] at hE
    obtain ⟨e5, gl2, c2, P2, lv2, a1, a2, a3, a4, a5, a6⟩ := hE
    subst e5
    have hne := buildB_ne hbb
    clear hHeld
    go_wp2_with fail
    have hd2 := a2.len
    replace kz := kz.trans a3 (fun _ _ c => Or.inl c)
    replace q1 := a3.blk q1 (nX _ (Nat.le_refl _))
    replace q2 := a3.blk q2 (nX _ (by omega))
    replace q3 := a3.blk q3 (nX _ (by omega))
    have hgX : ∀ k, RdX b gl2 lv2 k → k < w.heap.size ∨ w2.heap.size ≤ k := fun k hk => by
      by_cases hl : k < w2.heap.size
      · exact Or.inl (Nat.lt_of_not_le (fun c => nX k c (a4 k hk hl)))
      · exact Or.inr (by omega)
    have hg2 := hgX gl2 (Or.inr (Or.inl rfl))
    obtain ⟨ini, x, ex, exN, hrl⟩ := a2.last
    have hxm : x ∈ lv2 := by rw [ex]; simp
    obtain ⟨ka, kc, ev⟩ := own_sl (a1.ok x hxm)
    have hn1 : 0 < lv2.length := by rw [ex]; simp
    have hk1 : w3.cell? ⟨gl2, 6, none⟩ = some (.slice ka x.K.length kc) := by
      rw [a1.own.cellAt 6 (by omega), ex, nv_first, ← ev]; rfl
    have hZ : ∀ y ∈ lv2, ∀ g, y.v.ownBlock = some g → ¬ (g = b ∨ g = gl2 ∨ g = w.heap.size + 1 ∨ g = w.heap.size + 2) := fun y hy g hg c => by
      have := hgX g (Or.inr (Or.inr ⟨y, hy, hg⟩))
      rcases c with c | c | c | c
      · exact (a1.far y hy g hg).1 c
      · exact (a1.far y hy g hg).2.1 c
      · omega
      · omega
    have hZP : ∀ g, P2 g → ¬ (g = b ∨ g = gl2 ∨ g = w.heap.size + 1 ∨ g = w.heap.size + 2) := fun g hg c => by
      have h5 : g < w.heap.size ∨ w2.heap.size ≤ g := by
        rcases a5 g hg with d | d | d
        · exact Or.inl (h.pf g d).2.2
        · exact Or.inl (Nat.lt_of_not_le (fun c => nX g c d))
        · exact Or.inr d
      rcases c with c | c | c | c
      · exact (a1.pf g hg).1 c
      · exact (a1.pf g hg).2.1 c
      · omega
      · omega
    have hkx : x.K.length ≤ 1099511627776 := by have := a6 x hxm; omega
    have FIN := hideT (And.intro kz (And.intro a4 (And.intro a2 (And.intro exN (And.intro hrl (And.intro a6 (And.intro a3 a5)))))))
    clear kz a4 exN hrl a3 a5
    refine leaves_cons (f := 28) (args := #[.pointer (some ⟨w.heap.size, 0, none⟩), .pointer (some ⟨w.heap.size + 1, 0, none⟩), .pointer (some ⟨w.heap.size + 2, 0, none⟩)]) (by simp) (by simp [go_sem]) ?_
    refine (feed_catch 37 22 23 w.heap.size (w.heap.size + 1) (w.heap.size + 2) b gl2 lv2.length c2 _ _ _ _ _ ka x.K.length kc _ _ cc qq w3 q1 q2 q3 a1.blk hn1 hk1 (a1.own.frozenAt _) (by omega) (by omega) (by omega) (by omega) (by omega) (by omega) (by omega) (by omega) (by omega) a1.gb hne).mono ?_
    rintro e5 u' w4 ⟨rfl, rfl, f1, f2, f3, f5⟩
    have g1 := f1.cell 0
    have g2 := f2.cell 0
    simp only [List.getElem?_toArray, List.getElem?_cons_zero] at g1 g2
    obtain ⟨kz, a4, _, exN, hrl, _, a3, a5⟩ := FIN.out
    obtain ⟨fX, fQ, hPs⟩ := FRM.out
    have kw : Kp (fun k => RdX b gl lv k ∨ Y k) w w4 := kz.trans f5 (fun i hi c => Or.inl (by
      rcases c with c | c | c | c
      · exact Or.inl c
      · exact a4 i (Or.inr (Or.inl c)) (by omega)
      · omega
      · omega))
    have kF : Kp (Frm w2) w2 w4 := (a3.weak fX).trans f5 (fun i hi c => by
      rcases c with c | c | c | c
      · exact fX i (Or.inl c)
      · exact fX i (a4 i (Or.inr (Or.inl c)) hi)
      · exact fQ i (Or.inl c)
      · exact fQ i (Or.inr c))
    have h5x : ∀ g, P2 g → g < w.heap.size → P g ∨ RdX b gl lv g := fun g hg hl => by
      rcases a5 g hg with d | d | d
      · exact Or.inl d
      · exact Or.inr d
      · omega
    have h4x : ∀ k, RdX b gl2 lv2 k → k < w.heap.size → RdX b gl lv k := fun k hk hl => a4 k hk (by omega)
    have hvX : x.v.ownBlock = (Value.slice ka x.K.length kc).ownBlock := by rw [← ev]
    have hP3 : ∀ g, P2 g → g < w3.heap.size → w4.heap[g]? = w3.heap[g]? := fun g hg hl => f5.block g hl (hZP g hg)
    have TL : Told w4 base P2 (.slice ka x.K.length kc) s2.nodes x.K := ⟨by rw [← ev]; exact own_kp (a1.ok x hxm) f5 (hZ x hxm), by rw [← exN]; exact (a1.kn x hxm).kept hP3 (fun _ c => c), fun g hg => (a1.far x hxm g (hvX.trans hg)).2.2⟩
    have ed : ((lv2.length : Int) - 1) = (s2.opn.length : Int) := by omega
    rw [ed] at f3
    have FO : FeedBad base b cc qq s2 w.heap.size (RdX b gl lv) P (fun v => [v, .int .i64 cc]) (.returned (.tuple #[.slice ka x.K.length kc, .int .i64 cc])) w4 := ⟨_, x.K, P2, rfl, TL, fun g hg => ⟨(a1.far x hxm g (hvX.trans hg)).1, fun hl => h4x g (Or.inr (Or.inr ⟨x, hxm, hvX.trans hg⟩)) hl⟩, fun g hg => ⟨(a1.pf g hg).1, (a1.ty g hg).of (hP3 g hg (a1.pf g hg).2.2), h5x g hg⟩, f3⟩
    have FP : FeedE base b (some ⟨sc, 0, none⟩) (B + ts.length) (buildB s ts) e apl w.heap.size (RdX b gl lv) P (.returned (.tuple #[.slice ka x.K.length kc, .int .i64 cc])) w4 := by rw [hbb]; exact FO
    clear hbb FO
    simp [Leaves, settle, results, Tryd.results16, go_sem, g1, g2]
    exact ⟨⟨w2, hPs, kF⟩, kw, FP⟩
end Go.Proofs.YtibeiggedmabkaaDoor
