/-
  End, whole.
-/
import Derived.Test.YtibeiggedmabkaaDoorSXH
namespace Go.Proofs.YtibeiggedmabkaaDoor
open Go.RowKit
set_option linter.unusedVariables false
set_option linter.unusedSimpArgs false
/-- End's answer, by what the tokens make -/
def EndE (base b : Nat) (x : BR) (e apl : Int) (wm : Nat) (X0 P0 : Nat → Prop) (r : Ending) (w' : World) : Prop :=
  match x with
  | .ok s2 => if e ≠ 0 then FeedBad base b e apl s2 wm X0 P0 (fun v => [v, .int .i64 e, .int .i64 apl]) r w' else if s2.opn ≠ [] then FeedBad base b 131 s2.first s2 wm X0 P0 (fun v => [v, .int .i64 131, .int .i64 s2.first]) r w' else FeedBad base b 0 0 s2 wm X0 P0 (fun v => [v, .int .i64 0, .int .i64 0]) r w'
  | .bad s2 cc qq => FeedBad base b cc qq s2 wm X0 P0 (fun v => [v, .int .i64 cc, .int .i64 qq]) r w'
/-- the outermost list that is open -/
theorem RelB.firstL {lv : List Lv} {s : BS} (h : RelB lv s) (hs : s.opn ≠ []) : ∃ (z : Tok × Value) (y : Lv) (rest : List (Tok × Value)), lsOf lv = z :: (y.t, y.v) :: rest ∧ y.t.b = s.first := by
  induction h with
  | one x => exact absurd rfl hs
  | more x r ns os o h hk ht hb hl hc hn ih =>
    by_cases ho : os = []
    · subst ho
      cases h with
      | one y => exact ⟨(y.t, y.v), x, [], by simp [lsOf], by simp [BS.first, hb]⟩
    · obtain ⟨z, y, rest, e, e2⟩ := ih ho
      refine ⟨z, y, rest ++ [(x.t, x.v)], by rw [lsOf_cons, e]; rfl, ?_⟩
      rw [e2]
      simp only [BS.first]
      rw [List.getLast?_cons]
      cases hq : os.getLast? with
      | none => exact absurd (List.getLast?_eq_none_iff.1 hq) ho
      | some q => rfl
set_option maxHeartbeats 8000000 in
set_option maxRecDepth 100000 in
theorem rend {w : World} {base b : Nat} {sc : Nat} {gl c : Nat} {P Y : Nat → Prop} {lv : List Lv} {B : Nat} {s : BS} (h : RdAt w base b (some ⟨sc, 0, none⟩) false 0 0 gl c P lv) (hr : RelB lv s) (h6 : ∀ x ∈ lv, x.K.length ≤ B) (ts : List Tok) (e apl : Int) (hB : B + ts.length ≤ 1000000000) (hYX : ∀ i, RdX b gl lv i → ¬ Y i) (hYP : ∀ g, P g → ¬ Y g) (hYl : ∀ g, Y g → g < w.heap.size) (hsc : ∀ W, Below w.heap.size w W → Calls Tryd.prog 37 #[.pointer (some ⟨sc, 0, none⟩)] W fun r w2 => ∃ v, r = .returned (.tuple #[v, .int .i64 e]) ∧ w2.ownsRow W.heap.size 32 6 v ts.length (tokCells ts) ∧ Kp Y W w2 ∧ (e ≠ 0 → ∀ wr, Kp (Frm w2) w2 wr → Calls Tryd.prog 43 #[.pointer (some ⟨sc, 0, none⟩)] wr fun r w' => ∃ c0 c1 c3 c4 c5, r = .returned (.agg #[c0, c1, .int .i64 apl, c3, c4, c5]) ∧ Below wr.heap.size wr w')) :
    Calls Tryd.prog 19 #[.pointer (some ⟨b, 0, none⟩)] w fun r w' => Kp (fun k => RdX b gl lv k ∨ Y k) w w' ∧ EndE base b (buildB s ts) e apl w.heap.size (RdX b gl lv) P r w' := by
  have hmf : ∀ (fn : Fn) (first cap : Array Value) (w : World), (Instr.makeFunc fn first cap).run Tryd.prog w = .ok (.func fn first cap) w := fun _ _ _ _ => rfl
  have b1 := below_alloc (w := w) (.cells #[.pointer (some ⟨b, 0, none⟩)] 37)
  have q1 := Blk.new w #[.pointer (some ⟨b, 0, none⟩)] 37
  have e1 : (w.alloc (.cells #[.pointer (some ⟨b, 0, none⟩)] 37)).heap.size = w.heap.size + 1 := by simp
  have b2 := below_alloc (w := w.alloc (.cells #[.pointer (some ⟨b, 0, none⟩)] 37)) (.cells #[.slice none 0 0] 22)
  have q2 := Blk.new (w.alloc (.cells #[.pointer (some ⟨b, 0, none⟩)] 37)) #[.slice none 0 0] 22
  have e2 : ((w.alloc (.cells #[.pointer (some ⟨b, 0, none⟩)] 37)).alloc (.cells #[.slice none 0 0] 22)).heap.size = w.heap.size + 2 := by simp
  have b3 := below_alloc (w := (w.alloc (.cells #[.pointer (some ⟨b, 0, none⟩)] 37)).alloc (.cells #[.slice none 0 0] 22)) (.cells #[.int .i64 0] 23)
  have q3 := Blk.new ((w.alloc (.cells #[.pointer (some ⟨b, 0, none⟩)] 37)).alloc (.cells #[.slice none 0 0] 22)) #[.int .i64 0] 23
  have e3 : (((w.alloc (.cells #[.pointer (some ⟨b, 0, none⟩)] 37)).alloc (.cells #[.slice none 0 0] 22)).alloc (.cells #[.int .i64 0] 23)).heap.size = w.heap.size + 3 := by simp
  have b4 := below_alloc (w := ((w.alloc (.cells #[.pointer (some ⟨b, 0, none⟩)] 37)).alloc (.cells #[.slice none 0 0] 22)).alloc (.cells #[.int .i64 0] 23)) (.cells #[.int .i64 0] 3)
  have q4 := Blk.new (((w.alloc (.cells #[.pointer (some ⟨b, 0, none⟩)] 37)).alloc (.cells #[.slice none 0 0] 22)).alloc (.cells #[.int .i64 0] 23)) #[.int .i64 0] 3
  have e4z : ((((w.alloc (.cells #[.pointer (some ⟨b, 0, none⟩)] 37)).alloc (.cells #[.slice none 0 0] 22)).alloc (.cells #[.int .i64 0] 23)).alloc (.cells #[.int .i64 0] 3)).heap.size = w.heap.size + 4 := by simp
  rw [e1] at q2
  rw [e2] at q3
  rw [e3] at q4
  replace q1 := ((q1.later b2).later b3).later b4
  replace q2 := (q2.later b3).later b4
  replace q3 := q3.later b4
  have bT3 := (b1.trans (b2.mono b1.size)).trans (b3.mono (b1.trans (b2.mono b1.size)).size)
  have bT := bT3.trans (b4.mono bT3.size)
  clear b1 b2 b3 b4 bT3
  have hbl := h.blk.lt
  have h3 := h.later bT
  go_enter_defers Tryd.func19, Tryd.ntmps19
  go_upto_region 1 with fail
  try rw [e1]
  try rw [e2]
  try rw [e3]
  generalize (((w.alloc (.cells #[.pointer (some ⟨b, 0, none⟩)] 37)).alloc (.cells #[.slice none 0 0] 22)).alloc (.cells #[.int .i64 0] 23)).alloc (.cells #[.int .i64 0] 3) = W at q1 q2 q3 q4 bT e4z h3 ⊢
  clear e1 e2 e3
  have t0 := q1.cell 0
  simp only [List.getElem?_toArray, List.getElem?_cons_zero] at t0
  go_wp2_with fail
  refine (isReading_is b ⟨sc, 0, none⟩ _ _ _ _ _ W h3.blk).mono ?_
  rintro r w1 ⟨rfl, rfl⟩
  go_wp2_with fail
  clear t0
  have e4 : w.heap.size + 4 ≤ w1.heap.size := by omega
  clear e4z
  have y0 := q1.cell 0
  have z0 := h3.blk.cell 0
  simp only [rdC, List.getElem?_toArray, List.getElem?_cons_zero] at y0 z0
  have bD : Below w1.heap.size w1 w1.drew := (Below.refl _ _).drew
  have ky0 := below_cell bD y0
  have kz0 := below_cell bD z0
  replace bT := bT.trans (bD.mono bT.size)
  replace q1 := q1.later bD
  replace q2 := q2.later bD
  replace q3 := q3.later bD
  replace q4 := q4.later bD
  replace h3 := h3.later bD
  replace e4 := Nat.le_trans e4 bD.size
  refine wp_region_held_drew (S := fun w' => w'.cell? ⟨w.heap.size, 0, none⟩ = some (.pointer (some ⟨b, 0, none⟩)) ∧ w'.cell? ⟨b, 0, none⟩ = some (.pointer (some ⟨sc, 0, none⟩))) (by kernel_rfl) ⟨ky0, kz0⟩ (fun hHeld => ?_)
  clear ky0 kz0
  generalize w1.drew = w0 at bD e4 q1 q2 q3 q4 h3 bT hHeld ⊢
  clear bD
  clear y0 z0
  refine take' 0 (v := ?_) rfl (by kernel_rfl) (by kernel_rfl) (by kernel_rfl) (fun _ _ _ h => bodyD_put (fun T => by simp [results, Tryd.results19]) h) (Or.inl ⟨by rfl, ?_⟩) (by assumption) ?_
  rotate_left
  · intro w9 hSw
    go_simp
    first | done | with_reducible rfl
  simp only [Act.put, List.setIfInBounds_toArray, List.set_cons_zero, List.set_cons_succ]
  refine take' 1 (v := ?_) rfl (by kernel_rfl) (by kernel_rfl) (by kernel_rfl) (fun _ _ _ h => bodyD_put (fun T => by simp [results, Tryd.results19]) h) (Or.inl ⟨by rfl, ?_⟩) (by assumption) ?_
  rotate_left
  · intro w9 hSw
    go_simp
    first | done | with_reducible rfl
  simp only [Act.put, List.setIfInBounds_toArray, List.set_cons_zero, List.set_cons_succ]
  refine take' 2 (v := ?_) rfl (by kernel_rfl) (by kernel_rfl) (by kernel_rfl) (fun _ _ _ h => bodyD_put (fun T => by simp [results, Tryd.results19]) h) (Or.inl ⟨by rfl, ?_⟩) (by assumption) ?_
  rotate_left
  · intro w9 hSw
    go_simp
    first | done | with_reducible rfl
  simp only [Act.put, List.setIfInBounds_toArray, List.set_cons_zero, List.set_cons_succ]
  refine take' 3 (v := ?_) rfl (by kernel_rfl) (by kernel_rfl) (by kernel_rfl) (fun _ _ _ h => bodyD_put (fun T => by simp [results, Tryd.results19]) h) (Or.inl ⟨by rfl, ?_⟩) (by assumption) ?_
  rotate_left
  · intro w9 hSw
    go_simp
    first | done | with_reducible rfl
  simp only [Act.put, List.setIfInBounds_toArray, List.set_cons_zero, List.set_cons_succ]
  refine take' 4 (v := ?_) rfl (by kernel_rfl) (by kernel_rfl) (by kernel_rfl) (fun _ _ _ h => bodyD_put (fun T => by simp [results, Tryd.results19]) h) (Or.inl ⟨by rfl, ?_⟩) (by assumption) ?_
  rotate_left
  · intro w9 hSw
    go_simp
    first | done | with_reducible rfl
  simp only [Act.put, List.setIfInBounds_toArray, List.set_cons_zero, List.set_cons_succ]
  refine wpAnyH_ready (rs := [5]) (by kernel_rfl) (by simp) ?_
  refine cons' rfl (fun KK hKK => ?_)
  go_simp
  refine (hsc w0 bT).mono ?_
  rintro r2 w2 ⟨v, rfl, own, kY, hat0⟩
  have nY : ∀ k, w.heap.size ≤ k → ¬ Y k := fun k hk c => by have := hYl k c; omega
  have hl2 := kY.size
  have hH2 := (⟨cell_kp kY (nY _ (Nat.le_refl _)) hHeld.1, cell_kp kY (hYX b (Or.inl rfl)) hHeld.2⟩ : _ ∧ _)
  replace q1 := kY.blk q1 (nY _ (Nat.le_refl _))
  replace q2 := kY.blk q2 (nY _ (by omega))
  replace q3 := kY.blk q3 (nY _ (by omega))
  replace q4 := kY.blk q4 (nY _ (by omega))
  replace h3 := h3.kp kY hYX hYP
  have hvx : ∀ g, v.ownBlock = some g → ¬ RdX b gl lv g := fun g hg c => by
    have h1 := (own_lt own hg).1
    rcases c with c | c | ⟨x, hx, c⟩
    · omega
    · have := (own_lt h.own (g := gl) rfl).2; omega
    · have := (own_lt (h.ok x hx) c).2; omega
  have fX : ∀ k, RdX b gl lv k → Frm w2 k := rd_frm h3
  have hat : e ≠ 0 → ∀ wr, Kp (RdX b gl lv) w2 wr → _ := fun c wr k => hat0 c wr (k.weak fX)
  clear hat0
  clear fX
  go_wp2_with fail
  refine hKK.out _ _ hH2 ?_
  clear hHeld
  intro hHeld
  clear hKK KK
  try simp only [Act.put, List.setIfInBounds_toArray, List.set_cons_zero, List.set_cons_succ]
  clear hH2
  refine take' 6 (v := ?_) rfl (by kernel_rfl) (by kernel_rfl) (by kernel_rfl) (fun _ _ _ h => bodyD_put (fun T => by simp [results, Tryd.results19]) h) (Or.inl ⟨by rfl, ?_⟩) (by assumption) ?_
  rotate_left
  · intro w9 hSw
    go_simp
    first | done | with_reducible rfl
  simp only [Act.put, List.setIfInBounds_toArray, List.set_cons_zero, List.set_cons_succ]
  refine take' 7 (v := ?_) rfl (by kernel_rfl) (by kernel_rfl) (by kernel_rfl) (fun _ _ _ h => bodyD_put (fun T => by simp [results, Tryd.results19]) h) (Or.inl ⟨by rfl, ?_⟩) (by assumption) ?_
  rotate_left
  · intro w9 hSw
    go_simp
    first | done | with_reducible rfl
  simp only [Act.put, List.setIfInBounds_toArray, List.set_cons_zero, List.set_cons_succ]
  refine wpAnyH_ready (rs := [8]) (by kernel_rfl) (by simp) ?_
  refine cons' rfl (fun KK hKK => ?_)
  go_simp
  refine (rtake h3 hr h6 v ts w0.heap.size own hvx hB e apl (fun c => ⟨_, rfl, hat c⟩)).mono ?_
  rintro r3 w3 hE
  have HAT := hideT hat
  clear hat
  have nX : ∀ k, w.heap.size ≤ k → ¬ RdX b gl lv k := fun k hk c => by
    rcases c with c | c | ⟨x, hx, c⟩
    · omega
    · have := (own_lt h.own (g := gl) rfl).2; omega
    · have := (own_lt (h.ok x hx) c).2; omega
  have kz : Kp (fun k => RdX b gl lv k ∨ Y k) w w2 := (Kp.of (X := fun k => RdX b gl lv k ∨ Y k) bT).trans kY (fun _ _ c => Or.inr c)
  rcases hbb : buildB s ts with s2 | ⟨s2, cc, qq⟩
  · rw [hbb] at hE
    obtain ⟨e5, gl2, c2, P2, lv2, a1, a2, a3, a4, a5, a6⟩ := hE
    by_cases he : e = 0
    · rw [if_pos he] at e5
      subst e5
      have z0 := a1.blk.cell 0
      simp only [rdC, List.getElem?_toArray, List.getElem?_cons_zero] at z0
      have hH2 := (⟨cell_kp a3 (nX _ (Nat.le_refl _)) hHeld.1, z0⟩ : _ ∧ _)
      clear z0
      go_wp2_with fail
      refine hKK.out _ _ hH2 ?_
      clear hHeld
      intro hHeld
      clear hKK KK
      try simp only [Act.put, List.setIfInBounds_toArray, List.set_cons_zero, List.set_cons_succ]
      clear hH2
      refine wpAnyH_done (by kernel_rfl) ?_ _
      have hd2 := a2.len
      have ed0 : ((lv2.length : Int) - 1) = (s2.opn.length : Int) := by omega
      have u0 := cell_kp a3 (nX _ (Nat.le_refl _)) (q1.cell 0)
      have u2 := a1.blk.cell 2
      rw [ed0] at u2
      have u1 := a1.blk.cell 1
      simp only [rdC, List.getElem?_toArray, List.getElem?_cons_zero, List.getElem?_cons_succ] at u0 u1 u2
      clear hHeld ed0
      by_cases hop : s2.opn = []
      · have hz : (s2.opn.length : Int) = 0 := by rw [hop]; rfl
        rw [hz] at u2
        have HOP := hideT hop
        clear hop hz hd2
        go_wp2_with fail
        clear u0 u1 u2
        have hop := HOP.out
        have hd2 := a2.len
        replace kz := kz.trans a3 (fun _ _ c => Or.inl c)
        replace q1 := a3.blk q1 (nX _ (Nat.le_refl _))
        replace q2 := a3.blk q2 (nX _ (by omega))
        replace q3 := a3.blk q3 (nX _ (by omega))
        replace q4 := a3.blk q4 (nX _ (by omega))
        have hgX : ∀ k, RdX b gl2 lv2 k → k < w.heap.size ∨ w2.heap.size ≤ k := fun k hk => by
          by_cases hl : k < w2.heap.size
          · exact Or.inl (Nat.lt_of_not_le (fun c => nX k c (a4 k hk hl)))
          · exact Or.inr (by omega)
        have hg2 := hgX gl2 (Or.inr (Or.inl rfl))
        obtain ⟨ini, x, ex, exN, hrl⟩ := a2.last
        have hxm : x ∈ lv2 := by rw [ex]; simp
        obtain ⟨ka, kc, ev⟩ := own_sl (a1.ok x hxm)
        have hn1 : 0 < lv2.length := by rw [ex]; simp
        have hk1 : w3.cell? ⟨gl2, 6, none⟩ = some (.slice ka x.K.length kc) := by
          rw [a1.own.cellAt 6 (by omega), ex, nv_first, ← ev]; rfl
        have hZ : ∀ y ∈ lv2, ∀ g, y.v.ownBlock = some g → ¬ (g = b ∨ g = gl2 ∨ g = w.heap.size + 1 ∨ g = w.heap.size + 2 ∨ g = w.heap.size + 3) := fun y hy g hg c => by
          have := hgX g (Or.inr (Or.inr ⟨y, hy, hg⟩))
          rcases c with c | c | c | c | c
          · exact (a1.far y hy g hg).1 c
          · exact (a1.far y hy g hg).2.1 c
          · omega
          · omega
          · omega
        have hZP : ∀ g, P2 g → ¬ (g = b ∨ g = gl2 ∨ g = w.heap.size + 1 ∨ g = w.heap.size + 2 ∨ g = w.heap.size + 3) := fun g hg c => by
          have h5 : g < w.heap.size ∨ w2.heap.size ≤ g := by
            rcases a5 g hg with d | d | d
            · exact Or.inl (h.pf g d).2.2
            · exact Or.inl (Nat.lt_of_not_le (fun c => nX g c d))
            · exact Or.inr d
          rcases c with c | c | c | c | c
          · exact (a1.pf g hg).1 c
          · exact (a1.pf g hg).2.1 c
          · omega
          · omega
          · omega
        have hkx : x.K.length ≤ 1099511627776 := by have := a6 x hxm; omega
        have FIN := hideT (And.intro kz (And.intro a4 (And.intro a2 (And.intro exN (And.intro hrl (And.intro a6 (And.intro a3 a5)))))))
        clear kz a4 exN hrl a3 a5
        refine leaves_cons (f := 36) (args := #[.pointer (some ⟨w.heap.size, 0, none⟩), .pointer (some ⟨w.heap.size + 1, 0, none⟩), .pointer (some ⟨w.heap.size + 2, 0, none⟩), .pointer (some ⟨w.heap.size + 3, 0, none⟩)]) (by simp) (by simp [go_sem]) ?_
        refine (end_idle 37 22 23 3 w.heap.size (w.heap.size + 1) (w.heap.size + 2) (w.heap.size + 3) b gl2 lv2.length c2 _ _ _ _ _ ka x.K.length kc _ _ _ 0 0 w3 q1 q2 q3 q4 a1.blk hn1 hk1 (a1.own.frozenAt _) (by omega) (by omega) (by omega) (by omega) (by omega) (by omega) (by omega) (by omega) (by omega) a1.gb (by omega) (by omega) (by omega) (by omega) (by omega)).mono ?_
        rintro e5 u' w4 ⟨rfl, rfl, f1, f2, f2c, f3, f5⟩
        have g1 := f1.cell 0
        have g2 := f2.cell 0
        have g3 := f2c.cell 0
        simp only [List.getElem?_toArray, List.getElem?_cons_zero] at g1 g2 g3
        obtain ⟨kz, a4, _, exN, hrl, _, a3, a5⟩ := FIN.out
        skip
        have kw : Kp (fun k => RdX b gl lv k ∨ Y k) w w4 := kz.trans f5 (fun i hi c => Or.inl (by
          rcases c with c | c | c | c | c
          · exact Or.inl c
          · exact a4 i (Or.inr (Or.inl c)) (by omega)
          · omega
          · omega
          · omega))
        have h5x : ∀ g, P2 g → g < w.heap.size → P g ∨ RdX b gl lv g := fun g hg hl => by
          rcases a5 g hg with d | d | d
          · exact Or.inl d
          · exact Or.inr d
          · omega
        have h4x : ∀ k, RdX b gl2 lv2 k → k < w.heap.size → RdX b gl lv k := fun k hk hl => a4 k hk (by omega)
        have hvX : x.v.ownBlock = (Value.slice ka x.K.length kc).ownBlock := by rw [← ev]
        have hP3 : ∀ g, P2 g → g < w3.heap.size → w4.heap[g]? = w3.heap[g]? := fun g hg hl => f5.block g hl (hZP g hg)
        have TL : Told w4 base P2 (.slice ka x.K.length kc) s2.nodes x.K := ⟨by rw [← ev]; exact own_kp (a1.ok x hxm) f5 (hZ x hxm), by rw [← exN]; exact (a1.kn x hxm).kept hP3 (fun _ c => c), fun g hg => (a1.far x hxm g (hvX.trans hg)).2.2⟩
        have ed : ((lv2.length : Int) - 1) = (s2.opn.length : Int) := by omega
        rw [ed] at f3
        have FO : FeedBad base b 0 0 s2 w.heap.size (RdX b gl lv) P (fun v => [v, .int .i64 0, .int .i64 0]) (.returned (.tuple #[.slice ka x.K.length kc, .int .i64 0, .int .i64 0])) w4 := ⟨_, x.K, P2, rfl, TL, fun g hg => ⟨(a1.far x hxm g (hvX.trans hg)).1, fun hl => h4x g (Or.inr (Or.inr ⟨x, hxm, hvX.trans hg⟩)) hl⟩, fun g hg => ⟨(a1.pf g hg).1, (a1.ty g hg).of (hP3 g hg (a1.pf g hg).2.2), h5x g hg⟩, f3⟩
        have FP : EndE base b (buildB s ts) e apl w.heap.size (RdX b gl lv) P (.returned (.tuple #[.slice ka x.K.length kc, .int .i64 0, .int .i64 0])) w4 := by rw [hbb]; show (if e ≠ 0 then _ else _); rw [if_neg (by simpa using he), if_neg (by simpa using hop)]; exact FO
        clear hbb FO
        simp [Leaves, settle, results, Tryd.results19, go_sem, g1, g2, g3]
        exact ⟨kw, FP⟩
      · have hop1 : 0 < s2.opn.length := List.length_pos_iff.2 hop
        have hz : (0 : Int) < (s2.opn.length : Int) := by omega
        obtain ⟨zz, yy, rest, e8, e9⟩ := a2.firstL hop
        have u3 : w3.cell? ⟨gl2, 9, none⟩ = some (.int .i64 s2.first) := by
          rw [a1.own.cellAt 9 (by omega), e8, ← e9]; simp [nvCells, Tok.cells]
        have hl1 : (1 : Int) < (lv2.length : Int) := by omega
        obtain ⟨ff, hff⟩ : ∃ ff, s2.first = ff := ⟨_, rfl⟩
        rw [hff] at u3
        have HOP := hideT (And.intro hop hff)
        clear hop hff e8 e9 hd2
        go_wp2_with fail
        clear u0 u1 u2 u3 hz hl1 hop1
        obtain ⟨hop, hff⟩ := HOP.out
        show Leaves _ _ _ _ _ (.panicking (flt 131 ff)) _
        have hd2 := a2.len
        replace kz := kz.trans a3 (fun _ _ c => Or.inl c)
        replace q1 := a3.blk q1 (nX _ (Nat.le_refl _))
        replace q2 := a3.blk q2 (nX _ (by omega))
        replace q3 := a3.blk q3 (nX _ (by omega))
        replace q4 := a3.blk q4 (nX _ (by omega))
        have hgX : ∀ k, RdX b gl2 lv2 k → k < w.heap.size ∨ w2.heap.size ≤ k := fun k hk => by
          by_cases hl : k < w2.heap.size
          · exact Or.inl (Nat.lt_of_not_le (fun c => nX k c (a4 k hk hl)))
          · exact Or.inr (by omega)
        have hg2 := hgX gl2 (Or.inr (Or.inl rfl))
        obtain ⟨ini, x, ex, exN, hrl⟩ := a2.last
        have hxm : x ∈ lv2 := by rw [ex]; simp
        obtain ⟨ka, kc, ev⟩ := own_sl (a1.ok x hxm)
        have hn1 : 0 < lv2.length := by rw [ex]; simp
        have hk1 : w3.cell? ⟨gl2, 6, none⟩ = some (.slice ka x.K.length kc) := by
          rw [a1.own.cellAt 6 (by omega), ex, nv_first, ← ev]; rfl
        have hZ : ∀ y ∈ lv2, ∀ g, y.v.ownBlock = some g → ¬ (g = b ∨ g = gl2 ∨ g = w.heap.size + 1 ∨ g = w.heap.size + 2 ∨ g = w.heap.size + 3) := fun y hy g hg c => by
          have := hgX g (Or.inr (Or.inr ⟨y, hy, hg⟩))
          rcases c with c | c | c | c | c
          · exact (a1.far y hy g hg).1 c
          · exact (a1.far y hy g hg).2.1 c
          · omega
          · omega
          · omega
        have hZP : ∀ g, P2 g → ¬ (g = b ∨ g = gl2 ∨ g = w.heap.size + 1 ∨ g = w.heap.size + 2 ∨ g = w.heap.size + 3) := fun g hg c => by
          have h5 : g < w.heap.size ∨ w2.heap.size ≤ g := by
            rcases a5 g hg with d | d | d
            · exact Or.inl (h.pf g d).2.2
            · exact Or.inl (Nat.lt_of_not_le (fun c => nX g c d))
            · exact Or.inr d
          rcases c with c | c | c | c | c
          · exact (a1.pf g hg).1 c
          · exact (a1.pf g hg).2.1 c
          · omega
          · omega
          · omega
        have hkx : x.K.length ≤ 1099511627776 := by have := a6 x hxm; omega
        have FIN := hideT (And.intro kz (And.intro a4 (And.intro a2 (And.intro exN (And.intro hrl (And.intro a6 (And.intro a3 a5)))))))
        clear kz a4 exN hrl a3 a5
        refine leaves_cons (f := 36) (args := #[.pointer (some ⟨w.heap.size, 0, none⟩), .pointer (some ⟨w.heap.size + 1, 0, none⟩), .pointer (some ⟨w.heap.size + 2, 0, none⟩), .pointer (some ⟨w.heap.size + 3, 0, none⟩)]) (by simp) (by simp [go_sem]) ?_
        refine (end_catch 37 22 23 3 w.heap.size (w.heap.size + 1) (w.heap.size + 2) (w.heap.size + 3) b gl2 lv2.length c2 _ _ _ _ _ ka x.K.length kc _ _ _ 131 ff w3 q1 q2 q3 q4 a1.blk hn1 hk1 (a1.own.frozenAt _) (by omega) (by omega) (by omega) (by omega) (by omega) (by omega) (by omega) (by omega) (by omega) a1.gb (by omega) (by omega) (by omega) (by omega) (by omega)).mono ?_
        rintro e5 u' w4 ⟨rfl, rfl, f1, f2, f2c, f3, f5⟩
        have g1 := f1.cell 0
        have g2 := f2.cell 0
        have g3 := f2c.cell 0
        simp only [List.getElem?_toArray, List.getElem?_cons_zero] at g1 g2 g3
        obtain ⟨kz, a4, _, exN, hrl, _, a3, a5⟩ := FIN.out
        skip
        have kw : Kp (fun k => RdX b gl lv k ∨ Y k) w w4 := kz.trans f5 (fun i hi c => Or.inl (by
          rcases c with c | c | c | c | c
          · exact Or.inl c
          · exact a4 i (Or.inr (Or.inl c)) (by omega)
          · omega
          · omega
          · omega))
        have h5x : ∀ g, P2 g → g < w.heap.size → P g ∨ RdX b gl lv g := fun g hg hl => by
          rcases a5 g hg with d | d | d
          · exact Or.inl d
          · exact Or.inr d
          · omega
        have h4x : ∀ k, RdX b gl2 lv2 k → k < w.heap.size → RdX b gl lv k := fun k hk hl => a4 k hk (by omega)
        have hvX : x.v.ownBlock = (Value.slice ka x.K.length kc).ownBlock := by rw [← ev]
        have hP3 : ∀ g, P2 g → g < w3.heap.size → w4.heap[g]? = w3.heap[g]? := fun g hg hl => f5.block g hl (hZP g hg)
        have TL : Told w4 base P2 (.slice ka x.K.length kc) s2.nodes x.K := ⟨by rw [← ev]; exact own_kp (a1.ok x hxm) f5 (hZ x hxm), by rw [← exN]; exact (a1.kn x hxm).kept hP3 (fun _ c => c), fun g hg => (a1.far x hxm g (hvX.trans hg)).2.2⟩
        have ed : ((lv2.length : Int) - 1) = (s2.opn.length : Int) := by omega
        rw [ed] at f3
        have FO : FeedBad base b 131 ff s2 w.heap.size (RdX b gl lv) P (fun v => [v, .int .i64 131, .int .i64 ff]) (.returned (.tuple #[.slice ka x.K.length kc, .int .i64 131, .int .i64 ff])) w4 := ⟨_, x.K, P2, rfl, TL, fun g hg => ⟨(a1.far x hxm g (hvX.trans hg)).1, fun hl => h4x g (Or.inr (Or.inr ⟨x, hxm, hvX.trans hg⟩)) hl⟩, fun g hg => ⟨(a1.pf g hg).1, (a1.ty g hg).of (hP3 g hg (a1.pf g hg).2.2), h5x g hg⟩, f3⟩
        have FP : EndE base b (buildB s ts) e apl w.heap.size (RdX b gl lv) P (.returned (.tuple #[.slice ka x.K.length kc, .int .i64 131, .int .i64 ff])) w4 := by rw [hbb]; show (if e ≠ 0 then _ else _); rw [if_neg (by simpa using he), if_pos hop, hff]; exact FO
        clear hbb FO
        simp [Leaves, settle, results, Tryd.results19, go_sem, g1, g2, g3]
        exact ⟨kw, FP⟩
    · rw [if_neg he] at e5
      subst e5
      clear hHeld
      go_wp2_with fail
      have hd2 := a2.len
      replace kz := kz.trans a3 (fun _ _ c => Or.inl c)
      replace q1 := a3.blk q1 (nX _ (Nat.le_refl _))
      replace q2 := a3.blk q2 (nX _ (by omega))
      replace q3 := a3.blk q3 (nX _ (by omega))
      replace q4 := a3.blk q4 (nX _ (by omega))
      have hgX : ∀ k, RdX b gl2 lv2 k → k < w.heap.size ∨ w2.heap.size ≤ k := fun k hk => by
        by_cases hl : k < w2.heap.size
        · exact Or.inl (Nat.lt_of_not_le (fun c => nX k c (a4 k hk hl)))
        · exact Or.inr (by omega)
      have hg2 := hgX gl2 (Or.inr (Or.inl rfl))
      obtain ⟨ini, x, ex, exN, hrl⟩ := a2.last
      have hxm : x ∈ lv2 := by rw [ex]; simp
      obtain ⟨ka, kc, ev⟩ := own_sl (a1.ok x hxm)
      have hn1 : 0 < lv2.length := by rw [ex]; simp
      have hk1 : w3.cell? ⟨gl2, 6, none⟩ = some (.slice ka x.K.length kc) := by
        rw [a1.own.cellAt 6 (by omega), ex, nv_first, ← ev]; rfl
      have hZ : ∀ y ∈ lv2, ∀ g, y.v.ownBlock = some g → ¬ (g = b ∨ g = gl2 ∨ g = w.heap.size + 1 ∨ g = w.heap.size + 2 ∨ g = w.heap.size + 3) := fun y hy g hg c => by
        have := hgX g (Or.inr (Or.inr ⟨y, hy, hg⟩))
        rcases c with c | c | c | c | c
        · exact (a1.far y hy g hg).1 c
        · exact (a1.far y hy g hg).2.1 c
        · omega
        · omega
        · omega
      have hZP : ∀ g, P2 g → ¬ (g = b ∨ g = gl2 ∨ g = w.heap.size + 1 ∨ g = w.heap.size + 2 ∨ g = w.heap.size + 3) := fun g hg c => by
        have h5 : g < w.heap.size ∨ w2.heap.size ≤ g := by
          rcases a5 g hg with d | d | d
          · exact Or.inl (h.pf g d).2.2
          · exact Or.inl (Nat.lt_of_not_le (fun c => nX g c d))
          · exact Or.inr d
        rcases c with c | c | c | c | c
        · exact (a1.pf g hg).1 c
        · exact (a1.pf g hg).2.1 c
        · omega
        · omega
        · omega
      have hkx : x.K.length ≤ 1099511627776 := by have := a6 x hxm; omega
      have FIN := hideT (And.intro kz (And.intro a4 (And.intro a2 (And.intro exN (And.intro hrl (And.intro a6 (And.intro a3 a5)))))))
      clear kz a4 exN hrl a3 a5
      refine leaves_cons (f := 36) (args := #[.pointer (some ⟨w.heap.size, 0, none⟩), .pointer (some ⟨w.heap.size + 1, 0, none⟩), .pointer (some ⟨w.heap.size + 2, 0, none⟩), .pointer (some ⟨w.heap.size + 3, 0, none⟩)]) (by simp) (by simp [go_sem]) ?_
      refine (end_catch 37 22 23 3 w.heap.size (w.heap.size + 1) (w.heap.size + 2) (w.heap.size + 3) b gl2 lv2.length c2 _ _ _ _ _ ka x.K.length kc _ _ _ e apl w3 q1 q2 q3 q4 a1.blk hn1 hk1 (a1.own.frozenAt _) (by omega) (by omega) (by omega) (by omega) (by omega) (by omega) (by omega) (by omega) (by omega) a1.gb (by omega) (by omega) (by omega) (by omega) (by omega)).mono ?_
      rintro e5 u' w4 ⟨rfl, rfl, f1, f2, f2c, f3, f5⟩
      have g1 := f1.cell 0
      have g2 := f2.cell 0
      have g3 := f2c.cell 0
      simp only [List.getElem?_toArray, List.getElem?_cons_zero] at g1 g2 g3
      obtain ⟨kz, a4, _, exN, hrl, _, a3, a5⟩ := FIN.out
      skip
      have kw : Kp (fun k => RdX b gl lv k ∨ Y k) w w4 := kz.trans f5 (fun i hi c => Or.inl (by
        rcases c with c | c | c | c | c
        · exact Or.inl c
        · exact a4 i (Or.inr (Or.inl c)) (by omega)
        · omega
        · omega
        · omega))
      have h5x : ∀ g, P2 g → g < w.heap.size → P g ∨ RdX b gl lv g := fun g hg hl => by
        rcases a5 g hg with d | d | d
        · exact Or.inl d
        · exact Or.inr d
        · omega
      have h4x : ∀ k, RdX b gl2 lv2 k → k < w.heap.size → RdX b gl lv k := fun k hk hl => a4 k hk (by omega)
      have hvX : x.v.ownBlock = (Value.slice ka x.K.length kc).ownBlock := by rw [← ev]
      have hP3 : ∀ g, P2 g → g < w3.heap.size → w4.heap[g]? = w3.heap[g]? := fun g hg hl => f5.block g hl (hZP g hg)
      have TL : Told w4 base P2 (.slice ka x.K.length kc) s2.nodes x.K := ⟨by rw [← ev]; exact own_kp (a1.ok x hxm) f5 (hZ x hxm), by rw [← exN]; exact (a1.kn x hxm).kept hP3 (fun _ c => c), fun g hg => (a1.far x hxm g (hvX.trans hg)).2.2⟩
      have ed : ((lv2.length : Int) - 1) = (s2.opn.length : Int) := by omega
      rw [ed] at f3
      have FO : FeedBad base b e apl s2 w.heap.size (RdX b gl lv) P (fun v => [v, .int .i64 e, .int .i64 apl]) (.returned (.tuple #[.slice ka x.K.length kc, .int .i64 e, .int .i64 apl])) w4 := ⟨_, x.K, P2, rfl, TL, fun g hg => ⟨(a1.far x hxm g (hvX.trans hg)).1, fun hl => h4x g (Or.inr (Or.inr ⟨x, hxm, hvX.trans hg⟩)) hl⟩, fun g hg => ⟨(a1.pf g hg).1, (a1.ty g hg).of (hP3 g hg (a1.pf g hg).2.2), h5x g hg⟩, f3⟩
      have FP : EndE base b (buildB s ts) e apl w.heap.size (RdX b gl lv) P (.returned (.tuple #[.slice ka x.K.length kc, .int .i64 e, .int .i64 apl])) w4 := by rw [hbb]; show (if e ≠ 0 then _ else _); rw [if_pos he]; exact FO
      clear hbb FO
      simp [Leaves, settle, results, Tryd.results19, go_sem, g1, g2, g3]
      exact ⟨kw, FP⟩
  · rw [hbb] at hE
    obtain ⟨e5, gl2, c2, P2, lv2, a1, a2, a3, a4, a5, a6⟩ := hE
    subst e5
    clear hHeld
    go_wp2_with fail
    have hd2 := a2.len
    replace kz := kz.trans a3 (fun _ _ c => Or.inl c)
    replace q1 := a3.blk q1 (nX _ (Nat.le_refl _))
    replace q2 := a3.blk q2 (nX _ (by omega))
    replace q3 := a3.blk q3 (nX _ (by omega))
    replace q4 := a3.blk q4 (nX _ (by omega))
    have hgX : ∀ k, RdX b gl2 lv2 k → k < w.heap.size ∨ w2.heap.size ≤ k := fun k hk => by
      by_cases hl : k < w2.heap.size
      · exact Or.inl (Nat.lt_of_not_le (fun c => nX k c (a4 k hk hl)))
      · exact Or.inr (by omega)
    have hg2 := hgX gl2 (Or.inr (Or.inl rfl))
    obtain ⟨ini, x, ex, exN, hrl⟩ := a2.last
    have hxm : x ∈ lv2 := by rw [ex]; simp
    obtain ⟨ka, kc, ev⟩ := own_sl (a1.ok x hxm)
    have hn1 : 0 < lv2.length := by rw [ex]; simp
    have hk1 : w3.cell? ⟨gl2, 6, none⟩ = some (.slice ka x.K.length kc) := by
      rw [a1.own.cellAt 6 (by omega), ex, nv_first, ← ev]; rfl
    have hZ : ∀ y ∈ lv2, ∀ g, y.v.ownBlock = some g → ¬ (g = b ∨ g = gl2 ∨ g = w.heap.size + 1 ∨ g = w.heap.size + 2 ∨ g = w.heap.size + 3) := fun y hy g hg c => by
      have := hgX g (Or.inr (Or.inr ⟨y, hy, hg⟩))
      rcases c with c | c | c | c | c
      · exact (a1.far y hy g hg).1 c
      · exact (a1.far y hy g hg).2.1 c
      · omega
      · omega
      · omega
    have hZP : ∀ g, P2 g → ¬ (g = b ∨ g = gl2 ∨ g = w.heap.size + 1 ∨ g = w.heap.size + 2 ∨ g = w.heap.size + 3) := fun g hg c => by
      have h5 : g < w.heap.size ∨ w2.heap.size ≤ g := by
        rcases a5 g hg with d | d | d
        · exact Or.inl (h.pf g d).2.2
        · exact Or.inl (Nat.lt_of_not_le (fun c => nX g c d))
        · exact Or.inr d
      rcases c with c | c | c | c | c
      · exact (a1.pf g hg).1 c
      · exact (a1.pf g hg).2.1 c
      · omega
      · omega
      · omega
    have hkx : x.K.length ≤ 1099511627776 := by have := a6 x hxm; omega
    have FIN := hideT (And.intro kz (And.intro a4 (And.intro a2 (And.intro exN (And.intro hrl (And.intro a6 (And.intro a3 a5)))))))
    clear kz a4 exN hrl a3 a5
    refine leaves_cons (f := 36) (args := #[.pointer (some ⟨w.heap.size, 0, none⟩), .pointer (some ⟨w.heap.size + 1, 0, none⟩), .pointer (some ⟨w.heap.size + 2, 0, none⟩), .pointer (some ⟨w.heap.size + 3, 0, none⟩)]) (by simp) (by simp [go_sem]) ?_
    refine (end_catch 37 22 23 3 w.heap.size (w.heap.size + 1) (w.heap.size + 2) (w.heap.size + 3) b gl2 lv2.length c2 _ _ _ _ _ ka x.K.length kc _ _ _ cc qq w3 q1 q2 q3 q4 a1.blk hn1 hk1 (a1.own.frozenAt _) (by omega) (by omega) (by omega) (by omega) (by omega) (by omega) (by omega) (by omega) (by omega) a1.gb (by omega) (by omega) (by omega) (by omega) (by omega)).mono ?_
    rintro e5 u' w4 ⟨rfl, rfl, f1, f2, f2c, f3, f5⟩
    have g1 := f1.cell 0
    have g2 := f2.cell 0
    have g3 := f2c.cell 0
    simp only [List.getElem?_toArray, List.getElem?_cons_zero] at g1 g2 g3
    obtain ⟨kz, a4, _, exN, hrl, _, a3, a5⟩ := FIN.out
    skip
    have kw : Kp (fun k => RdX b gl lv k ∨ Y k) w w4 := kz.trans f5 (fun i hi c => Or.inl (by
      rcases c with c | c | c | c | c
      · exact Or.inl c
      · exact a4 i (Or.inr (Or.inl c)) (by omega)
      · omega
      · omega
      · omega))
    have h5x : ∀ g, P2 g → g < w.heap.size → P g ∨ RdX b gl lv g := fun g hg hl => by
      rcases a5 g hg with d | d | d
      · exact Or.inl d
      · exact Or.inr d
      · omega
    have h4x : ∀ k, RdX b gl2 lv2 k → k < w.heap.size → RdX b gl lv k := fun k hk hl => a4 k hk (by omega)
    have hvX : x.v.ownBlock = (Value.slice ka x.K.length kc).ownBlock := by rw [← ev]
    have hP3 : ∀ g, P2 g → g < w3.heap.size → w4.heap[g]? = w3.heap[g]? := fun g hg hl => f5.block g hl (hZP g hg)
    have TL : Told w4 base P2 (.slice ka x.K.length kc) s2.nodes x.K := ⟨by rw [← ev]; exact own_kp (a1.ok x hxm) f5 (hZ x hxm), by rw [← exN]; exact (a1.kn x hxm).kept hP3 (fun _ c => c), fun g hg => (a1.far x hxm g (hvX.trans hg)).2.2⟩
    have ed : ((lv2.length : Int) - 1) = (s2.opn.length : Int) := by omega
    rw [ed] at f3
    have FO : FeedBad base b cc qq s2 w.heap.size (RdX b gl lv) P (fun v => [v, .int .i64 cc, .int .i64 qq]) (.returned (.tuple #[.slice ka x.K.length kc, .int .i64 cc, .int .i64 qq])) w4 := ⟨_, x.K, P2, rfl, TL, fun g hg => ⟨(a1.far x hxm g (hvX.trans hg)).1, fun hl => h4x g (Or.inr (Or.inr ⟨x, hxm, hvX.trans hg⟩)) hl⟩, fun g hg => ⟨(a1.pf g hg).1, (a1.ty g hg).of (hP3 g hg (a1.pf g hg).2.2), h5x g hg⟩, f3⟩
    have FP : EndE base b (buildB s ts) e apl w.heap.size (RdX b gl lv) P (.returned (.tuple #[.slice ka x.K.length kc, .int .i64 cc, .int .i64 qq])) w4 := by rw [hbb]; exact FO
    clear hbb FO
    simp [Leaves, settle, results, Tryd.results19, go_sem, g1, g2, g3]
    exact ⟨kw, FP⟩
end Go.Proofs.YtibeiggedmabkaaDoor
