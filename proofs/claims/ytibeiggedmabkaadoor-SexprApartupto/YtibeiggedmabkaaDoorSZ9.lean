/-
  The reference's Feed and End, of a reader that reads.
-/
import Derived.Test.YtibeiggedmabkaaDoorSZ8
namespace Go.Proofs.YtibeiggedmabkaaDoor
open Go.RowKit
set_option linter.unusedVariables false
set_option linter.unusedSimpArgs false
/-- the reference's reader, and the program's without memory -/
def RfR : RS → ByteArray → Nat → Int → Bool → Int → Int → Prop
  | .go o p, tx, told, dep, ov, co, q => ∃ N0, feedF rs0 tx.data.toList = (N0, 0, .go o p) ∧ told = N0.length ∧ dep = o.length ∧ ov = false ∧ co = 0 ∧ q = 0
  | .over d e q', tx, told, dep, ov, co, q => dep = d ∧ ov = true ∧ co = e ∧ q = q'
theorem rfR_zero : RfR rs0 ⟨#[]⟩ 0 0 false 0 0 := ⟨[], rfl, rfl, rfl, rfl, rfl, rfl⟩
set_option maxHeartbeats 16000000 in
set_option maxRecDepth 100000 in
theorem vfeed_go (tx : ByteArray) (N0 : List Nd) (o : List Opn) (p : PS) (pc : ByteArray) (w : World) (h : feedF rs0 tx.data.toList = (N0, 0, .go o p)) (hsz : tx.size + pc.size ≤ 400000000) : Calls Tryd.prog 17 #[.agg #[.string tx, .int .i64 (N0.length : Nat), .int .i64 (o.length : Nat), .bool false, .int .i64 0, .int .i64 0], .string pc] w fun r w' => ∃ told' dep' ov' co' q' v Q, r = .returned (.tuple #[.agg #[.string (tx ++ pc), .int .i64 (told' : Nat), .int .i64 dep', .bool ov', .int .i64 co', .int .i64 q'], v, .int .i64 (feedF (.go o p) pc.data.toList).2.1]) ∧ RfR (feedF (.go o p) pc.data.toList).2.2 (tx ++ pc) told' dep' ov' co' q' ∧ NdIn w' Q v (feedF (.go o p) pc.data.toList).1 ∧ (∀ g, Q g → w.heap.size ≤ g) ∧ Below w.heap.size w w' := by
  have hby : (tx ++ pc).data.toList = tx.data.toList ++ pc.data.toList := by simp [ByteArray.data_append]
  have GW := hideT (fun W => whole_is (tx ++ pc) (tx.data.toList ++ pc.data.toList) hby false W (by rw [ByteArray.size_append]; exact hsz))
  have REL := feed_rel (y := pc.data.toList) h
  have HBY := hideT hby
  clear hby
  obtain ⟨tz, htz⟩ : ∃ tz, tx ++ pc = tz := ⟨_, rfl⟩
  have HTZ := hideT htz
  rw [htz] at GW HBY
  change Hid (∀ W, Calls _ _ _ W fun r w' => BuiltW w' W (wF false (tx.data.toList ++ pc.data.toList)).1 (wF false (tx.data.toList ++ pc.data.toList)).2.1 (wF false (tx.data.toList ++ pc.data.toList)).2.2 r ∧ Below W.heap.size W w') at GW
  rcases hwf : wF false (tx.data.toList ++ pc.data.toList) with ⟨s2, code, pl⟩
  rw [hwf] at GW REL
  simp only at GW REL
  rcases hx : (feedF (.go o p) pc.data.toList) with ⟨N2, e2, rs2⟩
  rw [hx] at REL
  simp only at REL ⊢
  have HREL := hideT REL
  have hle := REL.2.1
  have hco := REL.2.2.1
  have HDR := hideT REL.1
  clear REL
  have hcode : code = e2 := HREL.out.2.2.1
  subst hcode
  have HH := hideT (And.intro h hwf)
  clear h hwf hx hco
  have b2 := below_alloc (w := w) (.cells #[.string tx, .int .i64 (N0.length : Nat), .int .i64 (o.length : Nat), .bool false, .int .i64 0, .int .i64 0] 40)
  have q2 := Blk.new w #[.string tx, .int .i64 (N0.length : Nat), .int .i64 (o.length : Nat), .bool false, .int .i64 0, .int .i64 0] 40
  have e2 : (w.alloc (.cells #[.string tx, .int .i64 (N0.length : Nat), .int .i64 (o.length : Nat), .bool false, .int .i64 0, .int .i64 0] 40)).heap.size = w.heap.size + 1 := by simp
  have b4 := below_alloc (w := w.alloc (.cells #[.string tx, .int .i64 (N0.length : Nat), .int .i64 (o.length : Nat), .bool false, .int .i64 0, .int .i64 0] 40)) (.cells #[.string ⟨#[]⟩, .int .i64 0, .int .i64 0, .bool false, .int .i64 0, .int .i64 0] 40)
  have q4 := Blk.new (w.alloc (.cells #[.string tx, .int .i64 (N0.length : Nat), .int .i64 (o.length : Nat), .bool false, .int .i64 0, .int .i64 0] 40)) #[.string ⟨#[]⟩, .int .i64 0, .int .i64 0, .bool false, .int .i64 0, .int .i64 0] 40
  have e4 : ((w.alloc (.cells #[.string tx, .int .i64 (N0.length : Nat), .int .i64 (o.length : Nat), .bool false, .int .i64 0, .int .i64 0] 40)).alloc (.cells #[.string ⟨#[]⟩, .int .i64 0, .int .i64 0, .bool false, .int .i64 0, .int .i64 0] 40)).heap.size = w.heap.size + 2 := by simp
  rw [e2] at q4
  replace q2 := q2.later b4
  have hB := b2.trans (b4.mono b2.size)
  clear b2 b4
  go_enter Tryd.func17, Tryd.ntmps17
  go_upto_region 1 with fail
  try rw [e2]
  generalize (w.alloc (.cells #[.string tx, .int .i64 (N0.length : Nat), .int .i64 (o.length : Nat), .bool false, .int .i64 0, .int .i64 0] 40)).alloc (.cells #[.string ⟨#[]⟩, .int .i64 0, .int .i64 0, .bool false, .int .i64 0, .int .i64 0] 40) = W at hB q2 q4 e4 ⊢
  have e4i : w.heap.size + 2 ≤ W.heap.size := by omega
  clear e2 e4
  have y3 := q2.cell 3
  have y0 := q2.cell 0
  have fz := fun o => q2.frozen o
  simp only [List.getElem?_toArray, List.getElem?_cons_zero, List.getElem?_cons_succ] at y3 y0
  go_upto_region 6 with fail
  clear y3 y0 fz
  try rw [htz]
  clear htz
  obtain ⟨k5, q5⟩ := q2.set (o := 0) (.string tz)
  have q7 : Blk (W.setCell ⟨w.heap.size, 0, none⟩ (.string tz)) w.heap.size #[.string tz, .int .i64 (N0.length : Nat), .int .i64 (o.length : Nat), .bool false, .int .i64 0, .int .i64 0] 40 := by simpa using q5
  replace q4 := q4.ch k5 (by omega)
  replace hB := hB.trans (k5.below (B := w.heap.size) (Nat.le_refl _))
  have e5i : w.heap.size + 2 ≤ (W.setCell ⟨w.heap.size, 0, none⟩ (.string tz)).heap.size := by rw [k5.size]; exact e4i
  clear k5 q5 q2 e4i
  have q2 := q7
  clear q7
  generalize W.setCell ⟨w.heap.size, 0, none⟩ (.string tz) = W5 at q2 q4 hB e5i ⊢
  have e4i := e5i
  clear e5i
  have bD : Below W5.heap.size W5 W5.drew := (Below.refl _ _).drew
  replace e4i := Nat.le_trans e4i bD.size
  replace hB := hB.trans (bD.mono hB.size)
  replace q2 := q2.later bD
  replace q4 := q4.later bD
  refine wp_region_held_drew (S := fun w' => True) (by kernel_rfl) trivial (fun hHeld => ?_)
  generalize W5.drew = w5 at bD e4i q2 q4 hB hHeld ⊢
  clear bD
  refine take' 1 (v := ?_) rfl (by kernel_rfl) (by kernel_rfl) (by kernel_rfl) (fun _ _ _ h => h) (Or.inl ⟨by rfl, ?_⟩) (by assumption) ?_
  rotate_left
  · intro w9 hSw
    go_simp
    first | done | with_reducible rfl
  simp only [Act.put, List.setIfInBounds_toArray, List.set_cons_zero, List.set_cons_succ]
  refine wpAnyH_ready (rs := [0, 2]) (by kernel_rfl) (by simp) ?_
  refine consTX rfl (fun KK hKK => ?_) ?_
  · skip
    have x0 := q2.cell 0
    have x1 := q2.cell 1
    have x2 := q2.cell 2
    have x3 := q2.cell 3
    have x4 := q2.cell 4
    have x5 := q2.cell 5
    simp only [List.getElem?_toArray, List.getElem?_cons_zero, List.getElem?_cons_succ] at x0 x1 x2 x3 x4 x5
    go_simp
    clear x0 x1 x2 x3 x4 x5
    refine hKK.out _ _ hHeld ?_
    clear hHeld
    intro hHeld
    clear hKK KK
    try simp only [Act.put, List.setIfInBounds_toArray, List.set_cons_zero, List.set_cons_succ]
    refine wpAnyH_ready (rs := [2]) (by kernel_rfl) (by simp) ?_
    refine cons' rfl (fun KK hKK => ?_)
    have x0 := q2.cell 0
    simp only [List.getElem?_toArray, List.getElem?_cons_zero, List.getElem?_cons_succ] at x0
    go_simp
    clear x0
    refine hKK.out _ _ hHeld ?_
    clear hHeld
    intro hHeld
    clear hKK KK
    try simp only [Act.put, List.setIfInBounds_toArray, List.set_cons_zero, List.set_cons_succ]
    refine wpAnyH_ready (rs := [3]) (by kernel_rfl) (by simp) ?_
    refine cons' rfl (fun KK hKK => ?_)
    go_simp
    refine (GW.out _).mono ?_
    rintro r1 w6 ⟨hbw, b6⟩
    obtain ⟨na, nc, oa, oc, P, rfl, nd, hPw, hNl⟩ := hbw.nd3
    clear hbw
    have hP5 : ∀ g, P g → w.heap.size + 2 ≤ g := fun g hg => Nat.le_trans e4i (hPw g hg)
    clear hPw
    replace e4i := Nat.le_trans e4i b6.size
    replace hB := hB.trans (b6.mono hB.size)
    replace q2 := q2.later b6
    replace q4 := q4.later b6
    clear b6
    go_wp2_with fail
    refine hKK.out _ _ hHeld ?_
    clear hHeld
    intro hHeld
    clear hKK KK
    try simp only [Act.put, List.setIfInBounds_toArray, List.set_cons_zero, List.set_cons_succ]
    by_cases hc0 : code = 0
    · have HC := hideT hc0
      subst hc0
      refine wpAnyH_ready (rs := [4]) (by kernel_rfl) (by simp) ?_
      refine cons' rfl (fun KK hKK => ?_)
      go_simp
      have GT := hideT (takes_ok tz N0.length (o.length : Nat) false 0 0 na nc oa s2.opn.length oc pl s2.nodes P w6 nd hle hNl)
      refine GT.out.mono ?_
      rintro r2 w7 ⟨v, Q, rfl, nd7, hQ, b7⟩
      clear GT nd hNl
      have hs6 := e4i
      replace e4i := Nat.le_trans e4i b7.size
      replace hB := hB.trans (b7.mono hB.size)
      replace q2 := q2.later b7
      replace q4 := q4.later b7
      clear b7
      rw [HDR.out] at nd7
      obtain ⟨va, vc, ev⟩ := nd7.sl
      subst ev
      have hP : ∀ g, Q g → w.heap.size + 2 ≤ g := fun g hg => by rcases hQ g hg with c | c; exact hP5 g c; omega
      have nd := nd7
      clear nd7 hQ hP5
      go_wp2_with fail
      refine hKK.out _ _ hHeld ?_
      clear hHeld
      intro hHeld
      clear hKK KK
      try simp only [Act.put, List.setIfInBounds_toArray, List.set_cons_zero, List.set_cons_succ]
      refine take' 5 (v := ?_) rfl (by kernel_rfl) (by kernel_rfl) (by kernel_rfl) (fun _ _ _ h => h) (Or.inl ⟨by rfl, ?_⟩) (by assumption) ?_
      rotate_left
      · intro w9 hSw
        go_simp
        first | done | with_reducible rfl
      simp only [Act.put, List.setIfInBounds_toArray, List.set_cons_zero, List.set_cons_succ]
      refine take' 6 (v := ?_) rfl (by kernel_rfl) (by kernel_rfl) (by kernel_rfl) (fun _ _ _ h => h) (Or.inl ⟨by rfl, ?_⟩) (by assumption) ?_
      rotate_left
      · intro w9 hSw
        go_simp
        first | done | with_reducible rfl
      simp only [Act.put, List.setIfInBounds_toArray, List.set_cons_zero, List.set_cons_succ]
      refine take' 7 (v := ?_) rfl (by kernel_rfl) (by kernel_rfl) (by kernel_rfl) (fun _ _ _ h => h) (Or.inl ⟨by rfl, ?_⟩) (by assumption) ?_
      rotate_left
      · intro w9 hSw
        go_simp
        first | done | with_reducible rfl
      simp only [Act.put, List.setIfInBounds_toArray, List.set_cons_zero, List.set_cons_succ]
      refine wpAnyH_ready (rs := [8]) (by kernel_rfl) (by simp) ?_
      refine cons' rfl (fun KK hKK => ?_)
      have fz := fun o => q2.frozen o
      have t0 := q2.cell 0
      have t1 := q2.cell 1
      have t2 := q2.cell 2
      have t3 := q2.cell 3
      have t4 := q2.cell 4
      have t5 := q2.cell 5
      simp only [List.getElem?_toArray, List.getElem?_cons_zero, List.getElem?_cons_succ] at t0 t1 t2 t3 t4 t5
      go_simp
      clear fz t0 t1 t2 t3 t4 t5
      obtain ⟨ks, q9⟩ := q2.set6 (.string tz) (.int .i64 (s2.nodes.length : Nat)) (.int .i64 (s2.opn.length : Nat)) (.bool false) (.int .i64 0) (.int .i64 0)
      unfold set6 at ks q9
      replace q4 := q4.ch ks (by omega)
      replace hB := hB.trans (ks.below (B := w.heap.size) (Nat.le_refl _))
      replace nd := nd.kept (fun g hg hl => (Kp.ch (X := fun i => i = w.heap.size) ks rfl).block g hl (fun e => by have := hP g hg; omega)) (fun _ c => c)
      clear ks q2
      generalize ((((((w7.setCell ⟨w.heap.size, 0, none⟩ (.string tz)).setCell ⟨w.heap.size, 1, none⟩ (.int .i64 (s2.nodes.length : Nat))).setCell ⟨w.heap.size, 2, none⟩ (.int .i64 (s2.opn.length : Nat))).setCell ⟨w.heap.size, 3, none⟩ (.bool false)).setCell ⟨w.heap.size, 4, none⟩ (.int .i64 0)).setCell ⟨w.heap.size, 5, none⟩ (.int .i64 0)) = w8 at q9 q4 hB nd ⊢
      have q2 := q9
      clear q9
      refine hKK.out _ _ hHeld ?_
      clear hHeld
      intro hHeld
      clear hKK KK
      try simp only [Act.put, List.setIfInBounds_toArray, List.set_cons_zero, List.set_cons_succ]
      refine take' 9 (v := ?_) rfl (by kernel_rfl) (by kernel_rfl) (by kernel_rfl) (fun _ _ _ h => h) (Or.inl ⟨by rfl, ?_⟩) (by assumption) ?_
      rotate_left
      · intro w9 hSw
        go_simp
        first | done | with_reducible rfl
      simp only [Act.put, List.setIfInBounds_toArray, List.set_cons_zero, List.set_cons_succ]
      refine wpAnyH_done (by kernel_rfl) ?_ _
      clear hHeld
      have HQ9 := hideT (show ∀ g, Q g → w.heap.size ≤ g from fun g hg => by have := hP g hg; omega)
      replace hP : ∀ g, Q g → g ≠ w.heap.size + 1 := fun g hg => by have := hP g hg; omega
      go_wp2_with fail
      have y0 := q2.cell 0
      have y1 := q2.cell 1
      have y2 := q2.cell 2
      have y3 := q2.cell 3
      have y4 := q2.cell 4
      have y5 := q2.cell 5
      simp only [List.getElem?_toArray, List.getElem?_cons_zero, List.getElem?_cons_succ] at y0 y1 y2 y3 y4 y5
      have bD : Below w8.heap.size w8 w8.drew := (Below.refl _ _).drew
      have ky0 := below_cell bD y0
      have ky1 := below_cell bD y1
      have ky2 := below_cell bD y2
      have ky3 := below_cell bD y3
      have ky4 := below_cell bD y4
      have ky5 := below_cell bD y5
      replace nd := nd.on bD
      replace hB := hB.trans (bD.mono hB.size)
      replace q2 := q2.later bD
      replace q4 := q4.later bD
      refine wp_region_held_drew (S := fun w' => w'.cell? ⟨w.heap.size, 0, none⟩ = some (.string tz) ∧ w'.cell? ⟨w.heap.size, 1, none⟩ = some (.int .i64 (s2.nodes.length : Nat)) ∧ w'.cell? ⟨w.heap.size, 2, none⟩ = some (.int .i64 (s2.opn.length : Nat)) ∧ w'.cell? ⟨w.heap.size, 3, none⟩ = some (.bool false) ∧ w'.cell? ⟨w.heap.size, 4, none⟩ = some (.int .i64 0) ∧ w'.cell? ⟨w.heap.size, 5, none⟩ = some (.int .i64 0)) (by kernel_rfl) ⟨ky0, ky1, ky2, ky3, ky4, ky5⟩ (fun hHeld => ?_)
      clear ky0 ky1 ky2 ky3 ky4 ky5
      generalize w8.drew = w20 at bD nd q2 q4 hB hHeld ⊢
      clear bD y0 y1 y2 y3 y4 y5
      refine take' 0 (v := ?_) rfl (by kernel_rfl) (by kernel_rfl) (by kernel_rfl) (fun _ _ _ h => h) (Or.inl ⟨by rfl, ?_⟩) (by assumption) ?_
      rotate_left
      · intro w9 hSw
        go_simp
        first | done | with_reducible rfl
      simp only [Act.put, List.setIfInBounds_toArray, List.set_cons_zero, List.set_cons_succ]
      refine take' 1 (v := ?_) rfl (by kernel_rfl) (by kernel_rfl) (by kernel_rfl) (fun _ _ _ h => h) (Or.inl ⟨by rfl, ?_⟩) (by assumption) ?_
      rotate_left
      · intro w9 hSw
        go_simp
        first | done | with_reducible rfl
      simp only [Act.put, List.setIfInBounds_toArray, List.set_cons_zero, List.set_cons_succ]
      refine take' 2 (v := ?_) rfl (by kernel_rfl) (by kernel_rfl) (by kernel_rfl) (fun _ _ _ h => h) (Or.inl ⟨by rfl, ?_⟩) (by assumption) ?_
      rotate_left
      · intro w9 hSw
        go_simp
        first | done | with_reducible rfl
      simp only [Act.put, List.setIfInBounds_toArray, List.set_cons_zero, List.set_cons_succ]
      refine take' 3 (v := ?_) rfl (by kernel_rfl) (by kernel_rfl) (by kernel_rfl) (fun _ _ _ h => h) (Or.inl ⟨by rfl, ?_⟩) (by assumption) ?_
      rotate_left
      · intro w9 hSw
        go_simp
        first | done | with_reducible rfl
      simp only [Act.put, List.setIfInBounds_toArray, List.set_cons_zero, List.set_cons_succ]
      refine wpAnyH_ready (rs := [4]) (by kernel_rfl) (by simp) ?_
      refine cons' rfl (fun KK hKK => ?_)
      have fz := fun o => q4.frozen o
      have t0 := q4.cell 0
      have t1 := q4.cell 1
      have t2 := q4.cell 2
      have t3 := q4.cell 3
      have t4 := q4.cell 4
      have t5 := q4.cell 5
      simp only [List.getElem?_toArray, List.getElem?_cons_zero, List.getElem?_cons_succ] at t0 t1 t2 t3 t4 t5
      go_simp
      clear fz t0 t1 t2 t3 t4 t5
      obtain ⟨ks, q9⟩ := q4.set6 (.string tz) (.int .i64 (s2.nodes.length : Nat)) (.int .i64 (s2.opn.length : Nat)) (.bool false) (.int .i64 0) (.int .i64 0)
      unfold set6 at ks q9
      have hH2 := (⟨ks.cell (by omega) hHeld.1, ks.cell (by omega) hHeld.2.1, ks.cell (by omega) hHeld.2.2.1, ks.cell (by omega) hHeld.2.2.2.1, ks.cell (by omega) hHeld.2.2.2.2.1, ks.cell (by omega) hHeld.2.2.2.2.2⟩ : _ ∧ _ ∧ _ ∧ _ ∧ _ ∧ _)
      replace hB := hB.trans (ks.below (B := w.heap.size) (by omega))
      replace nd := nd.kept (fun g hg hl => (Kp.ch (X := fun i => i = w.heap.size + 1) ks rfl).block g hl (fun e => hP _ hg e)) (fun _ c => c)
      clear ks q4 q2
      generalize ((((((w20.setCell ⟨w.heap.size + 1, 0, none⟩ (.string tz)).setCell ⟨w.heap.size + 1, 1, none⟩ (.int .i64 (s2.nodes.length : Nat))).setCell ⟨w.heap.size + 1, 2, none⟩ (.int .i64 (s2.opn.length : Nat))).setCell ⟨w.heap.size + 1, 3, none⟩ (.bool false)).setCell ⟨w.heap.size + 1, 4, none⟩ (.int .i64 0)).setCell ⟨w.heap.size + 1, 5, none⟩ (.int .i64 0)) = w21 at hH2 q9 hB nd ⊢
      refine hKK.out _ _ hH2 ?_
      clear hHeld
      intro hHeld
      clear hKK KK
      try simp only [Act.put, List.setIfInBounds_toArray, List.set_cons_zero, List.set_cons_succ]
      clear hH2
      refine take' 5 (v := ?_) rfl (by kernel_rfl) (by kernel_rfl) (by kernel_rfl) (fun _ _ _ h => h) (Or.inl ⟨by rfl, ?_⟩) (by assumption) ?_
      rotate_left
      · intro w9 hSw
        go_simp
        first | done | with_reducible rfl
      simp only [Act.put, List.setIfInBounds_toArray, List.set_cons_zero, List.set_cons_succ]
      refine take' 6 (v := ?_) rfl (by kernel_rfl) (by kernel_rfl) (by kernel_rfl) (fun _ _ _ h => h) (Or.inl ⟨by rfl, ?_⟩) (by assumption) ?_
      rotate_left
      · intro w9 hSw
        go_simp
        first | done | with_reducible rfl
      simp only [Act.put, List.setIfInBounds_toArray, List.set_cons_zero, List.set_cons_succ]
      refine wpAnyH_done (by kernel_rfl) ?_ _
      clear hHeld
      have t0 := q9.cell 0
      have t1 := q9.cell 1
      have t2 := q9.cell 2
      have t3 := q9.cell 3
      have t4 := q9.cell 4
      have t5 := q9.cell 5
      simp only [List.getElem?_toArray, List.getElem?_cons_zero, List.getElem?_cons_succ] at t0 t1 t2 t3 t4 t5
      go_wp2
      refine bodyPost_ret (v := .tuple #[.agg #[.string tz, .int .i64 (s2.nodes.length : Nat), .int .i64 (s2.opn.length : Nat), .bool false, .int .i64 0, .int .i64 0], .slice va N2.length vc, .int .i64 0]) (by rw [results_ct3 rfl]; go_simp) rfl ?_
      refine ⟨_, _, _, _, _, _, _, by rw [HTZ.out], ?_, nd, HQ9.out, hB⟩
      have hr := HREL.out.2.2.2
      rcases rs2 with ⟨o2, p2⟩ | ⟨d, e, q⟩
      · simp only at hr
        obtain ⟨h1, _, h3⟩ := hr
        exact ⟨s2.nodes, by rw [HTZ.out, HBY.out]; exact h3, rfl, by rw [h1], rfl, rfl, rfl⟩
      · have hr2 : s2.opn.length = d ∧ ((0 : Int), pl) = (e, q) ∧ e ≠ 0 := hr
        exact absurd (congrArg Prod.fst hr2.2.1).symm hr2.2.2
    · have HC := hideT hc0
      refine wpAnyH_ready (rs := [4]) (by kernel_rfl) (by simp) ?_
      refine cons' rfl (fun KK hKK => ?_)
      go_simp
      have GT := hideT (takes_bad tz N0.length (o.length : Nat) false 0 0 na nc oa s2.opn.length oc code pl s2.nodes P w6 nd hle hNl HC.out)
      refine GT.out.mono ?_
      rintro r2 w7 ⟨v, Q, rfl, nd7, hQ, b7⟩
      clear GT nd hNl
      have hs6 := e4i
      replace e4i := Nat.le_trans e4i b7.size
      replace hB := hB.trans (b7.mono hB.size)
      replace q2 := q2.later b7
      replace q4 := q4.later b7
      clear b7
      rw [HDR.out] at nd7
      obtain ⟨va, vc, ev⟩ := nd7.sl
      subst ev
      have hP : ∀ g, Q g → w.heap.size + 2 ≤ g := fun g hg => by rcases hQ g hg with c | c; exact hP5 g c; omega
      have nd := nd7
      clear nd7 hQ hP5
      go_wp2_with fail
      refine hKK.out _ _ hHeld ?_
      clear hHeld
      intro hHeld
      clear hKK KK
      try simp only [Act.put, List.setIfInBounds_toArray, List.set_cons_zero, List.set_cons_succ]
      refine take' 5 (v := ?_) rfl (by kernel_rfl) (by kernel_rfl) (by kernel_rfl) (fun _ _ _ h => h) (Or.inl ⟨by rfl, ?_⟩) (by assumption) ?_
      rotate_left
      · intro w9 hSw
        go_simp
        first | done | with_reducible rfl
      simp only [Act.put, List.setIfInBounds_toArray, List.set_cons_zero, List.set_cons_succ]
      refine take' 6 (v := ?_) rfl (by kernel_rfl) (by kernel_rfl) (by kernel_rfl) (fun _ _ _ h => h) (Or.inl ⟨by rfl, ?_⟩) (by assumption) ?_
      rotate_left
      · intro w9 hSw
        go_simp
        first | done | with_reducible rfl
      simp only [Act.put, List.setIfInBounds_toArray, List.set_cons_zero, List.set_cons_succ]
      refine take' 7 (v := ?_) rfl (by kernel_rfl) (by kernel_rfl) (by kernel_rfl) (fun _ _ _ h => h) (Or.inl ⟨by rfl, ?_⟩) (by assumption) ?_
      rotate_left
      · intro w9 hSw
        go_simp
        first | done | with_reducible rfl
      simp only [Act.put, List.setIfInBounds_toArray, List.set_cons_zero, List.set_cons_succ]
      refine wpAnyH_ready (rs := [8]) (by kernel_rfl) (by simp) ?_
      refine cons' rfl (fun KK hKK => ?_)
      have fz := fun o => q2.frozen o
      have t0 := q2.cell 0
      have t1 := q2.cell 1
      have t2 := q2.cell 2
      have t3 := q2.cell 3
      have t4 := q2.cell 4
      have t5 := q2.cell 5
      simp only [List.getElem?_toArray, List.getElem?_cons_zero, List.getElem?_cons_succ] at t0 t1 t2 t3 t4 t5
      go_simp
      clear fz t0 t1 t2 t3 t4 t5
      obtain ⟨ks, q9⟩ := q2.set6 (.string tz) (.int .i64 (s2.nodes.length : Nat)) (.int .i64 (s2.opn.length : Nat)) (.bool true) (.int .i64 code) (.int .i64 pl)
      unfold set6 at ks q9
      replace q4 := q4.ch ks (by omega)
      replace hB := hB.trans (ks.below (B := w.heap.size) (Nat.le_refl _))
      replace nd := nd.kept (fun g hg hl => (Kp.ch (X := fun i => i = w.heap.size) ks rfl).block g hl (fun e => by have := hP g hg; omega)) (fun _ c => c)
      clear ks q2
      generalize ((((((w7.setCell ⟨w.heap.size, 0, none⟩ (.string tz)).setCell ⟨w.heap.size, 1, none⟩ (.int .i64 (s2.nodes.length : Nat))).setCell ⟨w.heap.size, 2, none⟩ (.int .i64 (s2.opn.length : Nat))).setCell ⟨w.heap.size, 3, none⟩ (.bool true)).setCell ⟨w.heap.size, 4, none⟩ (.int .i64 code)).setCell ⟨w.heap.size, 5, none⟩ (.int .i64 pl)) = w8 at q9 q4 hB nd ⊢
      have q2 := q9
      clear q9
      refine hKK.out _ _ hHeld ?_
      clear hHeld
      intro hHeld
      clear hKK KK
      try simp only [Act.put, List.setIfInBounds_toArray, List.set_cons_zero, List.set_cons_succ]
      refine take' 9 (v := ?_) rfl (by kernel_rfl) (by kernel_rfl) (by kernel_rfl) (fun _ _ _ h => h) (Or.inl ⟨by rfl, ?_⟩) (by assumption) ?_
      rotate_left
      · intro w9 hSw
        go_simp
        first | done | with_reducible rfl
      simp only [Act.put, List.setIfInBounds_toArray, List.set_cons_zero, List.set_cons_succ]
      refine wpAnyH_done (by kernel_rfl) ?_ _
      clear hHeld
      have HQ9 := hideT (show ∀ g, Q g → w.heap.size ≤ g from fun g hg => by have := hP g hg; omega)
      replace hP : ∀ g, Q g → g ≠ w.heap.size + 1 := fun g hg => by have := hP g hg; omega
      go_wp2_with fail
      have y0 := q2.cell 0
      have y1 := q2.cell 1
      have y2 := q2.cell 2
      have y3 := q2.cell 3
      have y4 := q2.cell 4
      have y5 := q2.cell 5
      simp only [List.getElem?_toArray, List.getElem?_cons_zero, List.getElem?_cons_succ] at y0 y1 y2 y3 y4 y5
      have bD : Below w8.heap.size w8 w8.drew := (Below.refl _ _).drew
      have ky0 := below_cell bD y0
      have ky1 := below_cell bD y1
      have ky2 := below_cell bD y2
      have ky3 := below_cell bD y3
      have ky4 := below_cell bD y4
      have ky5 := below_cell bD y5
      replace nd := nd.on bD
      replace hB := hB.trans (bD.mono hB.size)
      replace q2 := q2.later bD
      replace q4 := q4.later bD
      refine wp_region_held_drew (S := fun w' => w'.cell? ⟨w.heap.size, 0, none⟩ = some (.string tz) ∧ w'.cell? ⟨w.heap.size, 1, none⟩ = some (.int .i64 (s2.nodes.length : Nat)) ∧ w'.cell? ⟨w.heap.size, 2, none⟩ = some (.int .i64 (s2.opn.length : Nat)) ∧ w'.cell? ⟨w.heap.size, 3, none⟩ = some (.bool true) ∧ w'.cell? ⟨w.heap.size, 4, none⟩ = some (.int .i64 code) ∧ w'.cell? ⟨w.heap.size, 5, none⟩ = some (.int .i64 pl)) (by kernel_rfl) ⟨ky0, ky1, ky2, ky3, ky4, ky5⟩ (fun hHeld => ?_)
      clear ky0 ky1 ky2 ky3 ky4 ky5
      generalize w8.drew = w20 at bD nd q2 q4 hB hHeld ⊢
      clear bD y0 y1 y2 y3 y4 y5
      refine take' 0 (v := ?_) rfl (by kernel_rfl) (by kernel_rfl) (by kernel_rfl) (fun _ _ _ h => h) (Or.inl ⟨by rfl, ?_⟩) (by assumption) ?_
      rotate_left
      · intro w9 hSw
        go_simp
        first | done | with_reducible rfl
      simp only [Act.put, List.setIfInBounds_toArray, List.set_cons_zero, List.set_cons_succ]
      refine take' 1 (v := ?_) rfl (by kernel_rfl) (by kernel_rfl) (by kernel_rfl) (fun _ _ _ h => h) (Or.inl ⟨by rfl, ?_⟩) (by assumption) ?_
      rotate_left
      · intro w9 hSw
        go_simp
        first | done | with_reducible rfl
      simp only [Act.put, List.setIfInBounds_toArray, List.set_cons_zero, List.set_cons_succ]
      refine take' 2 (v := ?_) rfl (by kernel_rfl) (by kernel_rfl) (by kernel_rfl) (fun _ _ _ h => h) (Or.inl ⟨by rfl, ?_⟩) (by assumption) ?_
      rotate_left
      · intro w9 hSw
        go_simp
        first | done | with_reducible rfl
      simp only [Act.put, List.setIfInBounds_toArray, List.set_cons_zero, List.set_cons_succ]
      refine take' 3 (v := ?_) rfl (by kernel_rfl) (by kernel_rfl) (by kernel_rfl) (fun _ _ _ h => h) (Or.inl ⟨by rfl, ?_⟩) (by assumption) ?_
      rotate_left
      · intro w9 hSw
        go_simp
        first | done | with_reducible rfl
      simp only [Act.put, List.setIfInBounds_toArray, List.set_cons_zero, List.set_cons_succ]
      refine wpAnyH_ready (rs := [4]) (by kernel_rfl) (by simp) ?_
      refine cons' rfl (fun KK hKK => ?_)
      have fz := fun o => q4.frozen o
      have t0 := q4.cell 0
      have t1 := q4.cell 1
      have t2 := q4.cell 2
      have t3 := q4.cell 3
      have t4 := q4.cell 4
      have t5 := q4.cell 5
      simp only [List.getElem?_toArray, List.getElem?_cons_zero, List.getElem?_cons_succ] at t0 t1 t2 t3 t4 t5
      go_simp
      clear fz t0 t1 t2 t3 t4 t5
      obtain ⟨ks, q9⟩ := q4.set6 (.string tz) (.int .i64 (s2.nodes.length : Nat)) (.int .i64 (s2.opn.length : Nat)) (.bool true) (.int .i64 code) (.int .i64 pl)
      unfold set6 at ks q9
      have hH2 := (⟨ks.cell (by omega) hHeld.1, ks.cell (by omega) hHeld.2.1, ks.cell (by omega) hHeld.2.2.1, ks.cell (by omega) hHeld.2.2.2.1, ks.cell (by omega) hHeld.2.2.2.2.1, ks.cell (by omega) hHeld.2.2.2.2.2⟩ : _ ∧ _ ∧ _ ∧ _ ∧ _ ∧ _)
      replace hB := hB.trans (ks.below (B := w.heap.size) (by omega))
      replace nd := nd.kept (fun g hg hl => (Kp.ch (X := fun i => i = w.heap.size + 1) ks rfl).block g hl (fun e => hP _ hg e)) (fun _ c => c)
      clear ks q4 q2
      generalize ((((((w20.setCell ⟨w.heap.size + 1, 0, none⟩ (.string tz)).setCell ⟨w.heap.size + 1, 1, none⟩ (.int .i64 (s2.nodes.length : Nat))).setCell ⟨w.heap.size + 1, 2, none⟩ (.int .i64 (s2.opn.length : Nat))).setCell ⟨w.heap.size + 1, 3, none⟩ (.bool true)).setCell ⟨w.heap.size + 1, 4, none⟩ (.int .i64 code)).setCell ⟨w.heap.size + 1, 5, none⟩ (.int .i64 pl)) = w21 at hH2 q9 hB nd ⊢
      refine hKK.out _ _ hH2 ?_
      clear hHeld
      intro hHeld
      clear hKK KK
      try simp only [Act.put, List.setIfInBounds_toArray, List.set_cons_zero, List.set_cons_succ]
      clear hH2
      refine take' 5 (v := ?_) rfl (by kernel_rfl) (by kernel_rfl) (by kernel_rfl) (fun _ _ _ h => h) (Or.inl ⟨by rfl, ?_⟩) (by assumption) ?_
      rotate_left
      · intro w9 hSw
        go_simp
        first | done | with_reducible rfl
      simp only [Act.put, List.setIfInBounds_toArray, List.set_cons_zero, List.set_cons_succ]
      refine take' 6 (v := ?_) rfl (by kernel_rfl) (by kernel_rfl) (by kernel_rfl) (fun _ _ _ h => h) (Or.inl ⟨by rfl, ?_⟩) (by assumption) ?_
      rotate_left
      · intro w9 hSw
        go_simp
        first | done | with_reducible rfl
      simp only [Act.put, List.setIfInBounds_toArray, List.set_cons_zero, List.set_cons_succ]
      refine wpAnyH_done (by kernel_rfl) ?_ _
      clear hHeld
      have t0 := q9.cell 0
      have t1 := q9.cell 1
      have t2 := q9.cell 2
      have t3 := q9.cell 3
      have t4 := q9.cell 4
      have t5 := q9.cell 5
      simp only [List.getElem?_toArray, List.getElem?_cons_zero, List.getElem?_cons_succ] at t0 t1 t2 t3 t4 t5
      go_wp2
      refine bodyPost_ret (v := .tuple #[.agg #[.string tz, .int .i64 (s2.nodes.length : Nat), .int .i64 (s2.opn.length : Nat), .bool true, .int .i64 code, .int .i64 pl], .slice va N2.length vc, .int .i64 code]) (by rw [results_ct3 rfl]; go_simp) rfl ?_
      refine ⟨_, _, _, _, _, _, _, by rw [HTZ.out], ?_, nd, HQ9.out, hB⟩
      have hr := HREL.out.2.2.2
      rcases rs2 with ⟨o2, p2⟩ | ⟨d, e, q⟩
      · have hr2 : s2.opn.length = o2.length ∧ code = 0 ∧ _ := hr
        exact absurd hr2.2.1 HC.out
      · have hr2 : s2.opn.length = d ∧ (code, pl) = (e, q) ∧ e ≠ 0 := hr
        obtain ⟨h1, h2, h3⟩ := hr2
        exact ⟨by rw [h1], rfl, congrArg Prod.fst h2, congrArg Prod.snd h2⟩
  refine consTX rfl (fun KK hKK => ?_) ?_
  · skip
    have x0 := q2.cell 0
    simp only [List.getElem?_toArray, List.getElem?_cons_zero, List.getElem?_cons_succ] at x0
    go_simp
    clear x0
    refine hKK.out _ _ hHeld ?_
    clear hHeld
    intro hHeld
    clear hKK KK
    try simp only [Act.put, List.setIfInBounds_toArray, List.set_cons_zero, List.set_cons_succ]
    refine wpAnyH_ready (rs := [0, 3]) (by kernel_rfl) (by simp) ?_
    refine consTX rfl (fun KK hKK => ?_) ?_
    · skip
      have x0 := q2.cell 0
      have x1 := q2.cell 1
      have x2 := q2.cell 2
      have x3 := q2.cell 3
      have x4 := q2.cell 4
      have x5 := q2.cell 5
      simp only [List.getElem?_toArray, List.getElem?_cons_zero, List.getElem?_cons_succ] at x0 x1 x2 x3 x4 x5
      go_simp
      clear x0 x1 x2 x3 x4 x5
      refine hKK.out _ _ hHeld ?_
      clear hHeld
      intro hHeld
      clear hKK KK
      try simp only [Act.put, List.setIfInBounds_toArray, List.set_cons_zero, List.set_cons_succ]
      refine wpAnyH_ready (rs := [3]) (by kernel_rfl) (by simp) ?_
      refine cons' rfl (fun KK hKK => ?_)
      go_simp
      refine (GW.out _).mono ?_
      rintro r1 w6 ⟨hbw, b6⟩
      obtain ⟨na, nc, oa, oc, P, rfl, nd, hPw, hNl⟩ := hbw.nd3
      clear hbw
      have hP5 : ∀ g, P g → w.heap.size + 2 ≤ g := fun g hg => Nat.le_trans e4i (hPw g hg)
      clear hPw
      replace e4i := Nat.le_trans e4i b6.size
      replace hB := hB.trans (b6.mono hB.size)
      replace q2 := q2.later b6
      replace q4 := q4.later b6
      clear b6
      go_wp2_with fail
      refine hKK.out _ _ hHeld ?_
      clear hHeld
      intro hHeld
      clear hKK KK
      try simp only [Act.put, List.setIfInBounds_toArray, List.set_cons_zero, List.set_cons_succ]
      by_cases hc0 : code = 0
      · have HC := hideT hc0
        subst hc0
        refine wpAnyH_ready (rs := [4]) (by kernel_rfl) (by simp) ?_
        refine cons' rfl (fun KK hKK => ?_)
        go_simp
        have GT := hideT (takes_ok tz N0.length (o.length : Nat) false 0 0 na nc oa s2.opn.length oc pl s2.nodes P w6 nd hle hNl)
        refine GT.out.mono ?_
        rintro r2 w7 ⟨v, Q, rfl, nd7, hQ, b7⟩
        clear GT nd hNl
        have hs6 := e4i
        replace e4i := Nat.le_trans e4i b7.size
        replace hB := hB.trans (b7.mono hB.size)
        replace q2 := q2.later b7
        replace q4 := q4.later b7
        clear b7
        rw [HDR.out] at nd7
        obtain ⟨va, vc, ev⟩ := nd7.sl
        subst ev
        have hP : ∀ g, Q g → w.heap.size + 2 ≤ g := fun g hg => by rcases hQ g hg with c | c; exact hP5 g c; omega
        have nd := nd7
        clear nd7 hQ hP5
        go_wp2_with fail
        refine hKK.out _ _ hHeld ?_
        clear hHeld
        intro hHeld
        clear hKK KK
        try simp only [Act.put, List.setIfInBounds_toArray, List.set_cons_zero, List.set_cons_succ]
        refine take' 5 (v := ?_) rfl (by kernel_rfl) (by kernel_rfl) (by kernel_rfl) (fun _ _ _ h => h) (Or.inl ⟨by rfl, ?_⟩) (by assumption) ?_
        rotate_left
        · intro w9 hSw
          go_simp
          first | done | with_reducible rfl
        simp only [Act.put, List.setIfInBounds_toArray, List.set_cons_zero, List.set_cons_succ]
        refine take' 6 (v := ?_) rfl (by kernel_rfl) (by kernel_rfl) (by kernel_rfl) (fun _ _ _ h => h) (Or.inl ⟨by rfl, ?_⟩) (by assumption) ?_
        rotate_left
        · intro w9 hSw
          go_simp
          first | done | with_reducible rfl
        simp only [Act.put, List.setIfInBounds_toArray, List.set_cons_zero, List.set_cons_succ]
        refine take' 7 (v := ?_) rfl (by kernel_rfl) (by kernel_rfl) (by kernel_rfl) (fun _ _ _ h => h) (Or.inl ⟨by rfl, ?_⟩) (by assumption) ?_
        rotate_left
        · intro w9 hSw
          go_simp
          first | done | with_reducible rfl
        simp only [Act.put, List.setIfInBounds_toArray, List.set_cons_zero, List.set_cons_succ]
        refine wpAnyH_ready (rs := [8]) (by kernel_rfl) (by simp) ?_
        refine cons' rfl (fun KK hKK => ?_)
        have fz := fun o => q2.frozen o
        have t0 := q2.cell 0
        have t1 := q2.cell 1
        have t2 := q2.cell 2
        have t3 := q2.cell 3
        have t4 := q2.cell 4
        have t5 := q2.cell 5
        simp only [List.getElem?_toArray, List.getElem?_cons_zero, List.getElem?_cons_succ] at t0 t1 t2 t3 t4 t5
        go_simp
        clear fz t0 t1 t2 t3 t4 t5
        obtain ⟨ks, q9⟩ := q2.set6 (.string tz) (.int .i64 (s2.nodes.length : Nat)) (.int .i64 (s2.opn.length : Nat)) (.bool false) (.int .i64 0) (.int .i64 0)
        unfold set6 at ks q9
        replace q4 := q4.ch ks (by omega)
        replace hB := hB.trans (ks.below (B := w.heap.size) (Nat.le_refl _))
        replace nd := nd.kept (fun g hg hl => (Kp.ch (X := fun i => i = w.heap.size) ks rfl).block g hl (fun e => by have := hP g hg; omega)) (fun _ c => c)
        clear ks q2
        generalize ((((((w7.setCell ⟨w.heap.size, 0, none⟩ (.string tz)).setCell ⟨w.heap.size, 1, none⟩ (.int .i64 (s2.nodes.length : Nat))).setCell ⟨w.heap.size, 2, none⟩ (.int .i64 (s2.opn.length : Nat))).setCell ⟨w.heap.size, 3, none⟩ (.bool false)).setCell ⟨w.heap.size, 4, none⟩ (.int .i64 0)).setCell ⟨w.heap.size, 5, none⟩ (.int .i64 0)) = w8 at q9 q4 hB nd ⊢
        have q2 := q9
        clear q9
        refine hKK.out _ _ hHeld ?_
        clear hHeld
        intro hHeld
        clear hKK KK
        try simp only [Act.put, List.setIfInBounds_toArray, List.set_cons_zero, List.set_cons_succ]
        refine take' 9 (v := ?_) rfl (by kernel_rfl) (by kernel_rfl) (by kernel_rfl) (fun _ _ _ h => h) (Or.inl ⟨by rfl, ?_⟩) (by assumption) ?_
        rotate_left
        · intro w9 hSw
          go_simp
          first | done | with_reducible rfl
        simp only [Act.put, List.setIfInBounds_toArray, List.set_cons_zero, List.set_cons_succ]
        refine wpAnyH_done (by kernel_rfl) ?_ _
        clear hHeld
        have HQ9 := hideT (show ∀ g, Q g → w.heap.size ≤ g from fun g hg => by have := hP g hg; omega)
        replace hP : ∀ g, Q g → g ≠ w.heap.size + 1 := fun g hg => by have := hP g hg; omega
        go_wp2_with fail
        have y0 := q2.cell 0
        have y1 := q2.cell 1
        have y2 := q2.cell 2
        have y3 := q2.cell 3
        have y4 := q2.cell 4
        have y5 := q2.cell 5
        simp only [List.getElem?_toArray, List.getElem?_cons_zero, List.getElem?_cons_succ] at y0 y1 y2 y3 y4 y5
        have bD : Below w8.heap.size w8 w8.drew := (Below.refl _ _).drew
        have ky0 := below_cell bD y0
        have ky1 := below_cell bD y1
        have ky2 := below_cell bD y2
        have ky3 := below_cell bD y3
        have ky4 := below_cell bD y4
        have ky5 := below_cell bD y5
        replace nd := nd.on bD
        replace hB := hB.trans (bD.mono hB.size)
        replace q2 := q2.later bD
        replace q4 := q4.later bD
        refine wp_region_held_drew (S := fun w' => w'.cell? ⟨w.heap.size, 0, none⟩ = some (.string tz) ∧ w'.cell? ⟨w.heap.size, 1, none⟩ = some (.int .i64 (s2.nodes.length : Nat)) ∧ w'.cell? ⟨w.heap.size, 2, none⟩ = some (.int .i64 (s2.opn.length : Nat)) ∧ w'.cell? ⟨w.heap.size, 3, none⟩ = some (.bool false) ∧ w'.cell? ⟨w.heap.size, 4, none⟩ = some (.int .i64 0) ∧ w'.cell? ⟨w.heap.size, 5, none⟩ = some (.int .i64 0)) (by kernel_rfl) ⟨ky0, ky1, ky2, ky3, ky4, ky5⟩ (fun hHeld => ?_)
        clear ky0 ky1 ky2 ky3 ky4 ky5
        generalize w8.drew = w20 at bD nd q2 q4 hB hHeld ⊢
        clear bD y0 y1 y2 y3 y4 y5
        refine take' 0 (v := ?_) rfl (by kernel_rfl) (by kernel_rfl) (by kernel_rfl) (fun _ _ _ h => h) (Or.inl ⟨by rfl, ?_⟩) (by assumption) ?_
        rotate_left
        · intro w9 hSw
          go_simp
          first | done | with_reducible rfl
        simp only [Act.put, List.setIfInBounds_toArray, List.set_cons_zero, List.set_cons_succ]
        refine take' 1 (v := ?_) rfl (by kernel_rfl) (by kernel_rfl) (by kernel_rfl) (fun _ _ _ h => h) (Or.inl ⟨by rfl, ?_⟩) (by assumption) ?_
        rotate_left
        · intro w9 hSw
          go_simp
          first | done | with_reducible rfl
        simp only [Act.put, List.setIfInBounds_toArray, List.set_cons_zero, List.set_cons_succ]
        refine take' 2 (v := ?_) rfl (by kernel_rfl) (by kernel_rfl) (by kernel_rfl) (fun _ _ _ h => h) (Or.inl ⟨by rfl, ?_⟩) (by assumption) ?_
        rotate_left
        · intro w9 hSw
          go_simp
          first | done | with_reducible rfl
        simp only [Act.put, List.setIfInBounds_toArray, List.set_cons_zero, List.set_cons_succ]
        refine take' 3 (v := ?_) rfl (by kernel_rfl) (by kernel_rfl) (by kernel_rfl) (fun _ _ _ h => h) (Or.inl ⟨by rfl, ?_⟩) (by assumption) ?_
        rotate_left
        · intro w9 hSw
          go_simp
          first | done | with_reducible rfl
        simp only [Act.put, List.setIfInBounds_toArray, List.set_cons_zero, List.set_cons_succ]
        refine wpAnyH_ready (rs := [4]) (by kernel_rfl) (by simp) ?_
        refine cons' rfl (fun KK hKK => ?_)
        have fz := fun o => q4.frozen o
        have t0 := q4.cell 0
        have t1 := q4.cell 1
        have t2 := q4.cell 2
        have t3 := q4.cell 3
        have t4 := q4.cell 4
        have t5 := q4.cell 5
        simp only [List.getElem?_toArray, List.getElem?_cons_zero, List.getElem?_cons_succ] at t0 t1 t2 t3 t4 t5
        go_simp
        clear fz t0 t1 t2 t3 t4 t5
        obtain ⟨ks, q9⟩ := q4.set6 (.string tz) (.int .i64 (s2.nodes.length : Nat)) (.int .i64 (s2.opn.length : Nat)) (.bool false) (.int .i64 0) (.int .i64 0)
        unfold set6 at ks q9
        have hH2 := (⟨ks.cell (by omega) hHeld.1, ks.cell (by omega) hHeld.2.1, ks.cell (by omega) hHeld.2.2.1, ks.cell (by omega) hHeld.2.2.2.1, ks.cell (by omega) hHeld.2.2.2.2.1, ks.cell (by omega) hHeld.2.2.2.2.2⟩ : _ ∧ _ ∧ _ ∧ _ ∧ _ ∧ _)
        replace hB := hB.trans (ks.below (B := w.heap.size) (by omega))
        replace nd := nd.kept (fun g hg hl => (Kp.ch (X := fun i => i = w.heap.size + 1) ks rfl).block g hl (fun e => hP _ hg e)) (fun _ c => c)
        clear ks q4 q2
        generalize ((((((w20.setCell ⟨w.heap.size + 1, 0, none⟩ (.string tz)).setCell ⟨w.heap.size + 1, 1, none⟩ (.int .i64 (s2.nodes.length : Nat))).setCell ⟨w.heap.size + 1, 2, none⟩ (.int .i64 (s2.opn.length : Nat))).setCell ⟨w.heap.size + 1, 3, none⟩ (.bool false)).setCell ⟨w.heap.size + 1, 4, none⟩ (.int .i64 0)).setCell ⟨w.heap.size + 1, 5, none⟩ (.int .i64 0)) = w21 at hH2 q9 hB nd ⊢
        refine hKK.out _ _ hH2 ?_
        clear hHeld
        intro hHeld
        clear hKK KK
        try simp only [Act.put, List.setIfInBounds_toArray, List.set_cons_zero, List.set_cons_succ]
        clear hH2
        refine take' 5 (v := ?_) rfl (by kernel_rfl) (by kernel_rfl) (by kernel_rfl) (fun _ _ _ h => h) (Or.inl ⟨by rfl, ?_⟩) (by assumption) ?_
        rotate_left
        · intro w9 hSw
          go_simp
          first | done | with_reducible rfl
        simp only [Act.put, List.setIfInBounds_toArray, List.set_cons_zero, List.set_cons_succ]
        refine take' 6 (v := ?_) rfl (by kernel_rfl) (by kernel_rfl) (by kernel_rfl) (fun _ _ _ h => h) (Or.inl ⟨by rfl, ?_⟩) (by assumption) ?_
        rotate_left
        · intro w9 hSw
          go_simp
          first | done | with_reducible rfl
        simp only [Act.put, List.setIfInBounds_toArray, List.set_cons_zero, List.set_cons_succ]
        refine wpAnyH_done (by kernel_rfl) ?_ _
        clear hHeld
        have t0 := q9.cell 0
        have t1 := q9.cell 1
        have t2 := q9.cell 2
        have t3 := q9.cell 3
        have t4 := q9.cell 4
        have t5 := q9.cell 5
        simp only [List.getElem?_toArray, List.getElem?_cons_zero, List.getElem?_cons_succ] at t0 t1 t2 t3 t4 t5
        go_wp2
        refine bodyPost_ret (v := .tuple #[.agg #[.string tz, .int .i64 (s2.nodes.length : Nat), .int .i64 (s2.opn.length : Nat), .bool false, .int .i64 0, .int .i64 0], .slice va N2.length vc, .int .i64 0]) (by rw [results_ct3 rfl]; go_simp) rfl ?_
        refine ⟨_, _, _, _, _, _, _, by rw [HTZ.out], ?_, nd, HQ9.out, hB⟩
        have hr := HREL.out.2.2.2
        rcases rs2 with ⟨o2, p2⟩ | ⟨d, e, q⟩
        · simp only at hr
          obtain ⟨h1, _, h3⟩ := hr
          exact ⟨s2.nodes, by rw [HTZ.out, HBY.out]; exact h3, rfl, by rw [h1], rfl, rfl, rfl⟩
        · have hr2 : s2.opn.length = d ∧ ((0 : Int), pl) = (e, q) ∧ e ≠ 0 := hr
          exact absurd (congrArg Prod.fst hr2.2.1).symm hr2.2.2
      · have HC := hideT hc0
        refine wpAnyH_ready (rs := [4]) (by kernel_rfl) (by simp) ?_
        refine cons' rfl (fun KK hKK => ?_)
        go_simp
        have GT := hideT (takes_bad tz N0.length (o.length : Nat) false 0 0 na nc oa s2.opn.length oc code pl s2.nodes P w6 nd hle hNl HC.out)
        refine GT.out.mono ?_
        rintro r2 w7 ⟨v, Q, rfl, nd7, hQ, b7⟩
        clear GT nd hNl
        have hs6 := e4i
        replace e4i := Nat.le_trans e4i b7.size
        replace hB := hB.trans (b7.mono hB.size)
        replace q2 := q2.later b7
        replace q4 := q4.later b7
        clear b7
        rw [HDR.out] at nd7
        obtain ⟨va, vc, ev⟩ := nd7.sl
        subst ev
        have hP : ∀ g, Q g → w.heap.size + 2 ≤ g := fun g hg => by rcases hQ g hg with c | c; exact hP5 g c; omega
        have nd := nd7
        clear nd7 hQ hP5
        go_wp2_with fail
        refine hKK.out _ _ hHeld ?_
        clear hHeld
        intro hHeld
        clear hKK KK
        try simp only [Act.put, List.setIfInBounds_toArray, List.set_cons_zero, List.set_cons_succ]
        refine take' 5 (v := ?_) rfl (by kernel_rfl) (by kernel_rfl) (by kernel_rfl) (fun _ _ _ h => h) (Or.inl ⟨by rfl, ?_⟩) (by assumption) ?_
        rotate_left
        · intro w9 hSw
          go_simp
          first | done | with_reducible rfl
        simp only [Act.put, List.setIfInBounds_toArray, List.set_cons_zero, List.set_cons_succ]
        refine take' 6 (v := ?_) rfl (by kernel_rfl) (by kernel_rfl) (by kernel_rfl) (fun _ _ _ h => h) (Or.inl ⟨by rfl, ?_⟩) (by assumption) ?_
        rotate_left
        · intro w9 hSw
          go_simp
          first | done | with_reducible rfl
        simp only [Act.put, List.setIfInBounds_toArray, List.set_cons_zero, List.set_cons_succ]
        refine take' 7 (v := ?_) rfl (by kernel_rfl) (by kernel_rfl) (by kernel_rfl) (fun _ _ _ h => h) (Or.inl ⟨by rfl, ?_⟩) (by assumption) ?_
        rotate_left
        · intro w9 hSw
          go_simp
          first | done | with_reducible rfl
        simp only [Act.put, List.setIfInBounds_toArray, List.set_cons_zero, List.set_cons_succ]
        refine wpAnyH_ready (rs := [8]) (by kernel_rfl) (by simp) ?_
        refine cons' rfl (fun KK hKK => ?_)
        have fz := fun o => q2.frozen o
        have t0 := q2.cell 0
        have t1 := q2.cell 1
        have t2 := q2.cell 2
        have t3 := q2.cell 3
        have t4 := q2.cell 4
        have t5 := q2.cell 5
        simp only [List.getElem?_toArray, List.getElem?_cons_zero, List.getElem?_cons_succ] at t0 t1 t2 t3 t4 t5
        go_simp
        clear fz t0 t1 t2 t3 t4 t5
        obtain ⟨ks, q9⟩ := q2.set6 (.string tz) (.int .i64 (s2.nodes.length : Nat)) (.int .i64 (s2.opn.length : Nat)) (.bool true) (.int .i64 code) (.int .i64 pl)
        unfold set6 at ks q9
        replace q4 := q4.ch ks (by omega)
        replace hB := hB.trans (ks.below (B := w.heap.size) (Nat.le_refl _))
        replace nd := nd.kept (fun g hg hl => (Kp.ch (X := fun i => i = w.heap.size) ks rfl).block g hl (fun e => by have := hP g hg; omega)) (fun _ c => c)
        clear ks q2
        generalize ((((((w7.setCell ⟨w.heap.size, 0, none⟩ (.string tz)).setCell ⟨w.heap.size, 1, none⟩ (.int .i64 (s2.nodes.length : Nat))).setCell ⟨w.heap.size, 2, none⟩ (.int .i64 (s2.opn.length : Nat))).setCell ⟨w.heap.size, 3, none⟩ (.bool true)).setCell ⟨w.heap.size, 4, none⟩ (.int .i64 code)).setCell ⟨w.heap.size, 5, none⟩ (.int .i64 pl)) = w8 at q9 q4 hB nd ⊢
        have q2 := q9
        clear q9
        refine hKK.out _ _ hHeld ?_
        clear hHeld
        intro hHeld
        clear hKK KK
        try simp only [Act.put, List.setIfInBounds_toArray, List.set_cons_zero, List.set_cons_succ]
        refine take' 9 (v := ?_) rfl (by kernel_rfl) (by kernel_rfl) (by kernel_rfl) (fun _ _ _ h => h) (Or.inl ⟨by rfl, ?_⟩) (by assumption) ?_
        rotate_left
        · intro w9 hSw
          go_simp
          first | done | with_reducible rfl
        simp only [Act.put, List.setIfInBounds_toArray, List.set_cons_zero, List.set_cons_succ]
        refine wpAnyH_done (by kernel_rfl) ?_ _
        clear hHeld
        have HQ9 := hideT (show ∀ g, Q g → w.heap.size ≤ g from fun g hg => by have := hP g hg; omega)
        replace hP : ∀ g, Q g → g ≠ w.heap.size + 1 := fun g hg => by have := hP g hg; omega
        go_wp2_with fail
        have y0 := q2.cell 0
        have y1 := q2.cell 1
        have y2 := q2.cell 2
        have y3 := q2.cell 3
        have y4 := q2.cell 4
        have y5 := q2.cell 5
        simp only [List.getElem?_toArray, List.getElem?_cons_zero, List.getElem?_cons_succ] at y0 y1 y2 y3 y4 y5
        have bD : Below w8.heap.size w8 w8.drew := (Below.refl _ _).drew
        have ky0 := below_cell bD y0
        have ky1 := below_cell bD y1
        have ky2 := below_cell bD y2
        have ky3 := below_cell bD y3
        have ky4 := below_cell bD y4
        have ky5 := below_cell bD y5
        replace nd := nd.on bD
        replace hB := hB.trans (bD.mono hB.size)
        replace q2 := q2.later bD
        replace q4 := q4.later bD
        refine wp_region_held_drew (S := fun w' => w'.cell? ⟨w.heap.size, 0, none⟩ = some (.string tz) ∧ w'.cell? ⟨w.heap.size, 1, none⟩ = some (.int .i64 (s2.nodes.length : Nat)) ∧ w'.cell? ⟨w.heap.size, 2, none⟩ = some (.int .i64 (s2.opn.length : Nat)) ∧ w'.cell? ⟨w.heap.size, 3, none⟩ = some (.bool true) ∧ w'.cell? ⟨w.heap.size, 4, none⟩ = some (.int .i64 code) ∧ w'.cell? ⟨w.heap.size, 5, none⟩ = some (.int .i64 pl)) (by kernel_rfl) ⟨ky0, ky1, ky2, ky3, ky4, ky5⟩ (fun hHeld => ?_)
        clear ky0 ky1 ky2 ky3 ky4 ky5
        generalize w8.drew = w20 at bD nd q2 q4 hB hHeld ⊢
        clear bD y0 y1 y2 y3 y4 y5
        refine take' 0 (v := ?_) rfl (by kernel_rfl) (by kernel_rfl) (by kernel_rfl) (fun _ _ _ h => h) (Or.inl ⟨by rfl, ?_⟩) (by assumption) ?_
        rotate_left
        · intro w9 hSw
          go_simp
          first | done | with_reducible rfl
        simp only [Act.put, List.setIfInBounds_toArray, List.set_cons_zero, List.set_cons_succ]
        refine take' 1 (v := ?_) rfl (by kernel_rfl) (by kernel_rfl) (by kernel_rfl) (fun _ _ _ h => h) (Or.inl ⟨by rfl, ?_⟩) (by assumption) ?_
        rotate_left
        · intro w9 hSw
          go_simp
          first | done | with_reducible rfl
        simp only [Act.put, List.setIfInBounds_toArray, List.set_cons_zero, List.set_cons_succ]
        refine take' 2 (v := ?_) rfl (by kernel_rfl) (by kernel_rfl) (by kernel_rfl) (fun _ _ _ h => h) (Or.inl ⟨by rfl, ?_⟩) (by assumption) ?_
        rotate_left
        · intro w9 hSw
          go_simp
          first | done | with_reducible rfl
        simp only [Act.put, List.setIfInBounds_toArray, List.set_cons_zero, List.set_cons_succ]
        refine take' 3 (v := ?_) rfl (by kernel_rfl) (by kernel_rfl) (by kernel_rfl) (fun _ _ _ h => h) (Or.inl ⟨by rfl, ?_⟩) (by assumption) ?_
        rotate_left
        · intro w9 hSw
          go_simp
          first | done | with_reducible rfl
        simp only [Act.put, List.setIfInBounds_toArray, List.set_cons_zero, List.set_cons_succ]
        refine wpAnyH_ready (rs := [4]) (by kernel_rfl) (by simp) ?_
        refine cons' rfl (fun KK hKK => ?_)
        have fz := fun o => q4.frozen o
        have t0 := q4.cell 0
        have t1 := q4.cell 1
        have t2 := q4.cell 2
        have t3 := q4.cell 3
        have t4 := q4.cell 4
        have t5 := q4.cell 5
        simp only [List.getElem?_toArray, List.getElem?_cons_zero, List.getElem?_cons_succ] at t0 t1 t2 t3 t4 t5
        go_simp
        clear fz t0 t1 t2 t3 t4 t5
        obtain ⟨ks, q9⟩ := q4.set6 (.string tz) (.int .i64 (s2.nodes.length : Nat)) (.int .i64 (s2.opn.length : Nat)) (.bool true) (.int .i64 code) (.int .i64 pl)
        unfold set6 at ks q9
        have hH2 := (⟨ks.cell (by omega) hHeld.1, ks.cell (by omega) hHeld.2.1, ks.cell (by omega) hHeld.2.2.1, ks.cell (by omega) hHeld.2.2.2.1, ks.cell (by omega) hHeld.2.2.2.2.1, ks.cell (by omega) hHeld.2.2.2.2.2⟩ : _ ∧ _ ∧ _ ∧ _ ∧ _ ∧ _)
        replace hB := hB.trans (ks.below (B := w.heap.size) (by omega))
        replace nd := nd.kept (fun g hg hl => (Kp.ch (X := fun i => i = w.heap.size + 1) ks rfl).block g hl (fun e => hP _ hg e)) (fun _ c => c)
        clear ks q4 q2
        generalize ((((((w20.setCell ⟨w.heap.size + 1, 0, none⟩ (.string tz)).setCell ⟨w.heap.size + 1, 1, none⟩ (.int .i64 (s2.nodes.length : Nat))).setCell ⟨w.heap.size + 1, 2, none⟩ (.int .i64 (s2.opn.length : Nat))).setCell ⟨w.heap.size + 1, 3, none⟩ (.bool true)).setCell ⟨w.heap.size + 1, 4, none⟩ (.int .i64 code)).setCell ⟨w.heap.size + 1, 5, none⟩ (.int .i64 pl)) = w21 at hH2 q9 hB nd ⊢
        refine hKK.out _ _ hH2 ?_
        clear hHeld
        intro hHeld
        clear hKK KK
        try simp only [Act.put, List.setIfInBounds_toArray, List.set_cons_zero, List.set_cons_succ]
        clear hH2
        refine take' 5 (v := ?_) rfl (by kernel_rfl) (by kernel_rfl) (by kernel_rfl) (fun _ _ _ h => h) (Or.inl ⟨by rfl, ?_⟩) (by assumption) ?_
        rotate_left
        · intro w9 hSw
          go_simp
          first | done | with_reducible rfl
        simp only [Act.put, List.setIfInBounds_toArray, List.set_cons_zero, List.set_cons_succ]
        refine take' 6 (v := ?_) rfl (by kernel_rfl) (by kernel_rfl) (by kernel_rfl) (fun _ _ _ h => h) (Or.inl ⟨by rfl, ?_⟩) (by assumption) ?_
        rotate_left
        · intro w9 hSw
          go_simp
          first | done | with_reducible rfl
        simp only [Act.put, List.setIfInBounds_toArray, List.set_cons_zero, List.set_cons_succ]
        refine wpAnyH_done (by kernel_rfl) ?_ _
        clear hHeld
        have t0 := q9.cell 0
        have t1 := q9.cell 1
        have t2 := q9.cell 2
        have t3 := q9.cell 3
        have t4 := q9.cell 4
        have t5 := q9.cell 5
        simp only [List.getElem?_toArray, List.getElem?_cons_zero, List.getElem?_cons_succ] at t0 t1 t2 t3 t4 t5
        go_wp2
        refine bodyPost_ret (v := .tuple #[.agg #[.string tz, .int .i64 (s2.nodes.length : Nat), .int .i64 (s2.opn.length : Nat), .bool true, .int .i64 code, .int .i64 pl], .slice va N2.length vc, .int .i64 code]) (by rw [results_ct3 rfl]; go_simp) rfl ?_
        refine ⟨_, _, _, _, _, _, _, by rw [HTZ.out], ?_, nd, HQ9.out, hB⟩
        have hr := HREL.out.2.2.2
        rcases rs2 with ⟨o2, p2⟩ | ⟨d, e, q⟩
        · have hr2 : s2.opn.length = o2.length ∧ code = 0 ∧ _ := hr
          exact absurd hr2.2.1 HC.out
        · have hr2 : s2.opn.length = d ∧ (code, pl) = (e, q) ∧ e ≠ 0 := hr
          obtain ⟨h1, h2, h3⟩ := hr2
          exact ⟨by rw [h1], rfl, congrArg Prod.fst h2, congrArg Prod.snd h2⟩
    refine consTX rfl (fun KK hKK => ?_) ?_
    · skip
      go_simp
      refine (GW.out _).mono ?_
      rintro r1 w6 ⟨hbw, b6⟩
      obtain ⟨na, nc, oa, oc, P, rfl, nd, hPw, hNl⟩ := hbw.nd3
      clear hbw
      have hP5 : ∀ g, P g → w.heap.size + 2 ≤ g := fun g hg => Nat.le_trans e4i (hPw g hg)
      clear hPw
      replace e4i := Nat.le_trans e4i b6.size
      replace hB := hB.trans (b6.mono hB.size)
      replace q2 := q2.later b6
      replace q4 := q4.later b6
      clear b6
      go_wp2_with fail
      refine hKK.out _ _ hHeld ?_
      clear hHeld
      intro hHeld
      clear hKK KK
      try simp only [Act.put, List.setIfInBounds_toArray, List.set_cons_zero, List.set_cons_succ]
      refine wpAnyH_ready (rs := [0]) (by kernel_rfl) (by simp) ?_
      refine cons' rfl (fun KK hKK => ?_)
      have x0 := q2.cell 0
      have x1 := q2.cell 1
      have x2 := q2.cell 2
      have x3 := q2.cell 3
      have x4 := q2.cell 4
      have x5 := q2.cell 5
      simp only [List.getElem?_toArray, List.getElem?_cons_zero, List.getElem?_cons_succ] at x0 x1 x2 x3 x4 x5
      go_simp
      clear x0 x1 x2 x3 x4 x5
      refine hKK.out _ _ hHeld ?_
      clear hHeld
      intro hHeld
      clear hKK KK
      try simp only [Act.put, List.setIfInBounds_toArray, List.set_cons_zero, List.set_cons_succ]
      by_cases hc0 : code = 0
      · have HC := hideT hc0
        subst hc0
        refine wpAnyH_ready (rs := [4]) (by kernel_rfl) (by simp) ?_
        refine cons' rfl (fun KK hKK => ?_)
        go_simp
        have GT := hideT (takes_ok tz N0.length (o.length : Nat) false 0 0 na nc oa s2.opn.length oc pl s2.nodes P w6 nd hle hNl)
        refine GT.out.mono ?_
        rintro r2 w7 ⟨v, Q, rfl, nd7, hQ, b7⟩
        clear GT nd hNl
        have hs6 := e4i
        replace e4i := Nat.le_trans e4i b7.size
        replace hB := hB.trans (b7.mono hB.size)
        replace q2 := q2.later b7
        replace q4 := q4.later b7
        clear b7
        rw [HDR.out] at nd7
        obtain ⟨va, vc, ev⟩ := nd7.sl
        subst ev
        have hP : ∀ g, Q g → w.heap.size + 2 ≤ g := fun g hg => by rcases hQ g hg with c | c; exact hP5 g c; omega
        have nd := nd7
        clear nd7 hQ hP5
        go_wp2_with fail
        refine hKK.out _ _ hHeld ?_
        clear hHeld
        intro hHeld
        clear hKK KK
        try simp only [Act.put, List.setIfInBounds_toArray, List.set_cons_zero, List.set_cons_succ]
        refine take' 5 (v := ?_) rfl (by kernel_rfl) (by kernel_rfl) (by kernel_rfl) (fun _ _ _ h => h) (Or.inl ⟨by rfl, ?_⟩) (by assumption) ?_
        rotate_left
        · intro w9 hSw
          go_simp
          first | done | with_reducible rfl
        simp only [Act.put, List.setIfInBounds_toArray, List.set_cons_zero, List.set_cons_succ]
        refine take' 6 (v := ?_) rfl (by kernel_rfl) (by kernel_rfl) (by kernel_rfl) (fun _ _ _ h => h) (Or.inl ⟨by rfl, ?_⟩) (by assumption) ?_
        rotate_left
        · intro w9 hSw
          go_simp
          first | done | with_reducible rfl
        simp only [Act.put, List.setIfInBounds_toArray, List.set_cons_zero, List.set_cons_succ]
        refine take' 7 (v := ?_) rfl (by kernel_rfl) (by kernel_rfl) (by kernel_rfl) (fun _ _ _ h => h) (Or.inl ⟨by rfl, ?_⟩) (by assumption) ?_
        rotate_left
        · intro w9 hSw
          go_simp
          first | done | with_reducible rfl
        simp only [Act.put, List.setIfInBounds_toArray, List.set_cons_zero, List.set_cons_succ]
        refine wpAnyH_ready (rs := [8]) (by kernel_rfl) (by simp) ?_
        refine cons' rfl (fun KK hKK => ?_)
        have fz := fun o => q2.frozen o
        have t0 := q2.cell 0
        have t1 := q2.cell 1
        have t2 := q2.cell 2
        have t3 := q2.cell 3
        have t4 := q2.cell 4
        have t5 := q2.cell 5
        simp only [List.getElem?_toArray, List.getElem?_cons_zero, List.getElem?_cons_succ] at t0 t1 t2 t3 t4 t5
        go_simp
        clear fz t0 t1 t2 t3 t4 t5
        obtain ⟨ks, q9⟩ := q2.set6 (.string tz) (.int .i64 (s2.nodes.length : Nat)) (.int .i64 (s2.opn.length : Nat)) (.bool false) (.int .i64 0) (.int .i64 0)
        unfold set6 at ks q9
        replace q4 := q4.ch ks (by omega)
        replace hB := hB.trans (ks.below (B := w.heap.size) (Nat.le_refl _))
        replace nd := nd.kept (fun g hg hl => (Kp.ch (X := fun i => i = w.heap.size) ks rfl).block g hl (fun e => by have := hP g hg; omega)) (fun _ c => c)
        clear ks q2
        generalize ((((((w7.setCell ⟨w.heap.size, 0, none⟩ (.string tz)).setCell ⟨w.heap.size, 1, none⟩ (.int .i64 (s2.nodes.length : Nat))).setCell ⟨w.heap.size, 2, none⟩ (.int .i64 (s2.opn.length : Nat))).setCell ⟨w.heap.size, 3, none⟩ (.bool false)).setCell ⟨w.heap.size, 4, none⟩ (.int .i64 0)).setCell ⟨w.heap.size, 5, none⟩ (.int .i64 0)) = w8 at q9 q4 hB nd ⊢
        have q2 := q9
        clear q9
        refine hKK.out _ _ hHeld ?_
        clear hHeld
        intro hHeld
        clear hKK KK
        try simp only [Act.put, List.setIfInBounds_toArray, List.set_cons_zero, List.set_cons_succ]
        refine take' 9 (v := ?_) rfl (by kernel_rfl) (by kernel_rfl) (by kernel_rfl) (fun _ _ _ h => h) (Or.inl ⟨by rfl, ?_⟩) (by assumption) ?_
        rotate_left
        · intro w9 hSw
          go_simp
          first | done | with_reducible rfl
        simp only [Act.put, List.setIfInBounds_toArray, List.set_cons_zero, List.set_cons_succ]
        refine wpAnyH_done (by kernel_rfl) ?_ _
        clear hHeld
        have HQ9 := hideT (show ∀ g, Q g → w.heap.size ≤ g from fun g hg => by have := hP g hg; omega)
        replace hP : ∀ g, Q g → g ≠ w.heap.size + 1 := fun g hg => by have := hP g hg; omega
        go_wp2_with fail
        have y0 := q2.cell 0
        have y1 := q2.cell 1
        have y2 := q2.cell 2
        have y3 := q2.cell 3
        have y4 := q2.cell 4
        have y5 := q2.cell 5
        simp only [List.getElem?_toArray, List.getElem?_cons_zero, List.getElem?_cons_succ] at y0 y1 y2 y3 y4 y5
        have bD : Below w8.heap.size w8 w8.drew := (Below.refl _ _).drew
        have ky0 := below_cell bD y0
        have ky1 := below_cell bD y1
        have ky2 := below_cell bD y2
        have ky3 := below_cell bD y3
        have ky4 := below_cell bD y4
        have ky5 := below_cell bD y5
        replace nd := nd.on bD
        replace hB := hB.trans (bD.mono hB.size)
        replace q2 := q2.later bD
        replace q4 := q4.later bD
        refine wp_region_held_drew (S := fun w' => w'.cell? ⟨w.heap.size, 0, none⟩ = some (.string tz) ∧ w'.cell? ⟨w.heap.size, 1, none⟩ = some (.int .i64 (s2.nodes.length : Nat)) ∧ w'.cell? ⟨w.heap.size, 2, none⟩ = some (.int .i64 (s2.opn.length : Nat)) ∧ w'.cell? ⟨w.heap.size, 3, none⟩ = some (.bool false) ∧ w'.cell? ⟨w.heap.size, 4, none⟩ = some (.int .i64 0) ∧ w'.cell? ⟨w.heap.size, 5, none⟩ = some (.int .i64 0)) (by kernel_rfl) ⟨ky0, ky1, ky2, ky3, ky4, ky5⟩ (fun hHeld => ?_)
        clear ky0 ky1 ky2 ky3 ky4 ky5
        generalize w8.drew = w20 at bD nd q2 q4 hB hHeld ⊢
        clear bD y0 y1 y2 y3 y4 y5
        refine take' 0 (v := ?_) rfl (by kernel_rfl) (by kernel_rfl) (by kernel_rfl) (fun _ _ _ h => h) (Or.inl ⟨by rfl, ?_⟩) (by assumption) ?_
        rotate_left
        · intro w9 hSw
          go_simp
          first | done | with_reducible rfl
        simp only [Act.put, List.setIfInBounds_toArray, List.set_cons_zero, List.set_cons_succ]
        refine take' 1 (v := ?_) rfl (by kernel_rfl) (by kernel_rfl) (by kernel_rfl) (fun _ _ _ h => h) (Or.inl ⟨by rfl, ?_⟩) (by assumption) ?_
        rotate_left
        · intro w9 hSw
          go_simp
          first | done | with_reducible rfl
        simp only [Act.put, List.setIfInBounds_toArray, List.set_cons_zero, List.set_cons_succ]
        refine take' 2 (v := ?_) rfl (by kernel_rfl) (by kernel_rfl) (by kernel_rfl) (fun _ _ _ h => h) (Or.inl ⟨by rfl, ?_⟩) (by assumption) ?_
        rotate_left
        · intro w9 hSw
          go_simp
          first | done | with_reducible rfl
        simp only [Act.put, List.setIfInBounds_toArray, List.set_cons_zero, List.set_cons_succ]
        refine take' 3 (v := ?_) rfl (by kernel_rfl) (by kernel_rfl) (by kernel_rfl) (fun _ _ _ h => h) (Or.inl ⟨by rfl, ?_⟩) (by assumption) ?_
        rotate_left
        · intro w9 hSw
          go_simp
          first | done | with_reducible rfl
        simp only [Act.put, List.setIfInBounds_toArray, List.set_cons_zero, List.set_cons_succ]
        refine wpAnyH_ready (rs := [4]) (by kernel_rfl) (by simp) ?_
        refine cons' rfl (fun KK hKK => ?_)
        have fz := fun o => q4.frozen o
        have t0 := q4.cell 0
        have t1 := q4.cell 1
        have t2 := q4.cell 2
        have t3 := q4.cell 3
        have t4 := q4.cell 4
        have t5 := q4.cell 5
        simp only [List.getElem?_toArray, List.getElem?_cons_zero, List.getElem?_cons_succ] at t0 t1 t2 t3 t4 t5
        go_simp
        clear fz t0 t1 t2 t3 t4 t5
        obtain ⟨ks, q9⟩ := q4.set6 (.string tz) (.int .i64 (s2.nodes.length : Nat)) (.int .i64 (s2.opn.length : Nat)) (.bool false) (.int .i64 0) (.int .i64 0)
        unfold set6 at ks q9
        have hH2 := (⟨ks.cell (by omega) hHeld.1, ks.cell (by omega) hHeld.2.1, ks.cell (by omega) hHeld.2.2.1, ks.cell (by omega) hHeld.2.2.2.1, ks.cell (by omega) hHeld.2.2.2.2.1, ks.cell (by omega) hHeld.2.2.2.2.2⟩ : _ ∧ _ ∧ _ ∧ _ ∧ _ ∧ _)
        replace hB := hB.trans (ks.below (B := w.heap.size) (by omega))
        replace nd := nd.kept (fun g hg hl => (Kp.ch (X := fun i => i = w.heap.size + 1) ks rfl).block g hl (fun e => hP _ hg e)) (fun _ c => c)
        clear ks q4 q2
        generalize ((((((w20.setCell ⟨w.heap.size + 1, 0, none⟩ (.string tz)).setCell ⟨w.heap.size + 1, 1, none⟩ (.int .i64 (s2.nodes.length : Nat))).setCell ⟨w.heap.size + 1, 2, none⟩ (.int .i64 (s2.opn.length : Nat))).setCell ⟨w.heap.size + 1, 3, none⟩ (.bool false)).setCell ⟨w.heap.size + 1, 4, none⟩ (.int .i64 0)).setCell ⟨w.heap.size + 1, 5, none⟩ (.int .i64 0)) = w21 at hH2 q9 hB nd ⊢
        refine hKK.out _ _ hH2 ?_
        clear hHeld
        intro hHeld
        clear hKK KK
        try simp only [Act.put, List.setIfInBounds_toArray, List.set_cons_zero, List.set_cons_succ]
        clear hH2
        refine take' 5 (v := ?_) rfl (by kernel_rfl) (by kernel_rfl) (by kernel_rfl) (fun _ _ _ h => h) (Or.inl ⟨by rfl, ?_⟩) (by assumption) ?_
        rotate_left
        · intro w9 hSw
          go_simp
          first | done | with_reducible rfl
        simp only [Act.put, List.setIfInBounds_toArray, List.set_cons_zero, List.set_cons_succ]
        refine take' 6 (v := ?_) rfl (by kernel_rfl) (by kernel_rfl) (by kernel_rfl) (fun _ _ _ h => h) (Or.inl ⟨by rfl, ?_⟩) (by assumption) ?_
        rotate_left
        · intro w9 hSw
          go_simp
          first | done | with_reducible rfl
        simp only [Act.put, List.setIfInBounds_toArray, List.set_cons_zero, List.set_cons_succ]
        refine wpAnyH_done (by kernel_rfl) ?_ _
        clear hHeld
        have t0 := q9.cell 0
        have t1 := q9.cell 1
        have t2 := q9.cell 2
        have t3 := q9.cell 3
        have t4 := q9.cell 4
        have t5 := q9.cell 5
        simp only [List.getElem?_toArray, List.getElem?_cons_zero, List.getElem?_cons_succ] at t0 t1 t2 t3 t4 t5
        go_wp2
        refine bodyPost_ret (v := .tuple #[.agg #[.string tz, .int .i64 (s2.nodes.length : Nat), .int .i64 (s2.opn.length : Nat), .bool false, .int .i64 0, .int .i64 0], .slice va N2.length vc, .int .i64 0]) (by rw [results_ct3 rfl]; go_simp) rfl ?_
        refine ⟨_, _, _, _, _, _, _, by rw [HTZ.out], ?_, nd, HQ9.out, hB⟩
        have hr := HREL.out.2.2.2
        rcases rs2 with ⟨o2, p2⟩ | ⟨d, e, q⟩
        · simp only at hr
          obtain ⟨h1, _, h3⟩ := hr
          exact ⟨s2.nodes, by rw [HTZ.out, HBY.out]; exact h3, rfl, by rw [h1], rfl, rfl, rfl⟩
        · have hr2 : s2.opn.length = d ∧ ((0 : Int), pl) = (e, q) ∧ e ≠ 0 := hr
          exact absurd (congrArg Prod.fst hr2.2.1).symm hr2.2.2
      · have HC := hideT hc0
        refine wpAnyH_ready (rs := [4]) (by kernel_rfl) (by simp) ?_
        refine cons' rfl (fun KK hKK => ?_)
        go_simp
        have GT := hideT (takes_bad tz N0.length (o.length : Nat) false 0 0 na nc oa s2.opn.length oc code pl s2.nodes P w6 nd hle hNl HC.out)
        refine GT.out.mono ?_
        rintro r2 w7 ⟨v, Q, rfl, nd7, hQ, b7⟩
        clear GT nd hNl
        have hs6 := e4i
        replace e4i := Nat.le_trans e4i b7.size
        replace hB := hB.trans (b7.mono hB.size)
        replace q2 := q2.later b7
        replace q4 := q4.later b7
        clear b7
        rw [HDR.out] at nd7
        obtain ⟨va, vc, ev⟩ := nd7.sl
        subst ev
        have hP : ∀ g, Q g → w.heap.size + 2 ≤ g := fun g hg => by rcases hQ g hg with c | c; exact hP5 g c; omega
        have nd := nd7
        clear nd7 hQ hP5
        go_wp2_with fail
        refine hKK.out _ _ hHeld ?_
        clear hHeld
        intro hHeld
        clear hKK KK
        try simp only [Act.put, List.setIfInBounds_toArray, List.set_cons_zero, List.set_cons_succ]
        refine take' 5 (v := ?_) rfl (by kernel_rfl) (by kernel_rfl) (by kernel_rfl) (fun _ _ _ h => h) (Or.inl ⟨by rfl, ?_⟩) (by assumption) ?_
        rotate_left
        · intro w9 hSw
          go_simp
          first | done | with_reducible rfl
        simp only [Act.put, List.setIfInBounds_toArray, List.set_cons_zero, List.set_cons_succ]
        refine take' 6 (v := ?_) rfl (by kernel_rfl) (by kernel_rfl) (by kernel_rfl) (fun _ _ _ h => h) (Or.inl ⟨by rfl, ?_⟩) (by assumption) ?_
        rotate_left
        · intro w9 hSw
          go_simp
          first | done | with_reducible rfl
        simp only [Act.put, List.setIfInBounds_toArray, List.set_cons_zero, List.set_cons_succ]
        refine take' 7 (v := ?_) rfl (by kernel_rfl) (by kernel_rfl) (by kernel_rfl) (fun _ _ _ h => h) (Or.inl ⟨by rfl, ?_⟩) (by assumption) ?_
        rotate_left
        · intro w9 hSw
          go_simp
          first | done | with_reducible rfl
        simp only [Act.put, List.setIfInBounds_toArray, List.set_cons_zero, List.set_cons_succ]
        refine wpAnyH_ready (rs := [8]) (by kernel_rfl) (by simp) ?_
        refine cons' rfl (fun KK hKK => ?_)
        have fz := fun o => q2.frozen o
        have t0 := q2.cell 0
        have t1 := q2.cell 1
        have t2 := q2.cell 2
        have t3 := q2.cell 3
        have t4 := q2.cell 4
        have t5 := q2.cell 5
        simp only [List.getElem?_toArray, List.getElem?_cons_zero, List.getElem?_cons_succ] at t0 t1 t2 t3 t4 t5
        go_simp
        clear fz t0 t1 t2 t3 t4 t5
        obtain ⟨ks, q9⟩ := q2.set6 (.string tz) (.int .i64 (s2.nodes.length : Nat)) (.int .i64 (s2.opn.length : Nat)) (.bool true) (.int .i64 code) (.int .i64 pl)
        unfold set6 at ks q9
        replace q4 := q4.ch ks (by omega)
        replace hB := hB.trans (ks.below (B := w.heap.size) (Nat.le_refl _))
        replace nd := nd.kept (fun g hg hl => (Kp.ch (X := fun i => i = w.heap.size) ks rfl).block g hl (fun e => by have := hP g hg; omega)) (fun _ c => c)
        clear ks q2
        generalize ((((((w7.setCell ⟨w.heap.size, 0, none⟩ (.string tz)).setCell ⟨w.heap.size, 1, none⟩ (.int .i64 (s2.nodes.length : Nat))).setCell ⟨w.heap.size, 2, none⟩ (.int .i64 (s2.opn.length : Nat))).setCell ⟨w.heap.size, 3, none⟩ (.bool true)).setCell ⟨w.heap.size, 4, none⟩ (.int .i64 code)).setCell ⟨w.heap.size, 5, none⟩ (.int .i64 pl)) = w8 at q9 q4 hB nd ⊢
        have q2 := q9
        clear q9
        refine hKK.out _ _ hHeld ?_
        clear hHeld
        intro hHeld
        clear hKK KK
        try simp only [Act.put, List.setIfInBounds_toArray, List.set_cons_zero, List.set_cons_succ]
        refine take' 9 (v := ?_) rfl (by kernel_rfl) (by kernel_rfl) (by kernel_rfl) (fun _ _ _ h => h) (Or.inl ⟨by rfl, ?_⟩) (by assumption) ?_
        rotate_left
        · intro w9 hSw
          go_simp
          first | done | with_reducible rfl
        simp only [Act.put, List.setIfInBounds_toArray, List.set_cons_zero, List.set_cons_succ]
        refine wpAnyH_done (by kernel_rfl) ?_ _
        clear hHeld
        have HQ9 := hideT (show ∀ g, Q g → w.heap.size ≤ g from fun g hg => by have := hP g hg; omega)
        replace hP : ∀ g, Q g → g ≠ w.heap.size + 1 := fun g hg => by have := hP g hg; omega
        go_wp2_with fail
        have y0 := q2.cell 0
        have y1 := q2.cell 1
        have y2 := q2.cell 2
        have y3 := q2.cell 3
        have y4 := q2.cell 4
        have y5 := q2.cell 5
        simp only [List.getElem?_toArray, List.getElem?_cons_zero, List.getElem?_cons_succ] at y0 y1 y2 y3 y4 y5
        have bD : Below w8.heap.size w8 w8.drew := (Below.refl _ _).drew
        have ky0 := below_cell bD y0
        have ky1 := below_cell bD y1
        have ky2 := below_cell bD y2
        have ky3 := below_cell bD y3
        have ky4 := below_cell bD y4
        have ky5 := below_cell bD y5
        replace nd := nd.on bD
        replace hB := hB.trans (bD.mono hB.size)
        replace q2 := q2.later bD
        replace q4 := q4.later bD
        refine wp_region_held_drew (S := fun w' => w'.cell? ⟨w.heap.size, 0, none⟩ = some (.string tz) ∧ w'.cell? ⟨w.heap.size, 1, none⟩ = some (.int .i64 (s2.nodes.length : Nat)) ∧ w'.cell? ⟨w.heap.size, 2, none⟩ = some (.int .i64 (s2.opn.length : Nat)) ∧ w'.cell? ⟨w.heap.size, 3, none⟩ = some (.bool true) ∧ w'.cell? ⟨w.heap.size, 4, none⟩ = some (.int .i64 code) ∧ w'.cell? ⟨w.heap.size, 5, none⟩ = some (.int .i64 pl)) (by kernel_rfl) ⟨ky0, ky1, ky2, ky3, ky4, ky5⟩ (fun hHeld => ?_)
        clear ky0 ky1 ky2 ky3 ky4 ky5
        generalize w8.drew = w20 at bD nd q2 q4 hB hHeld ⊢
        clear bD y0 y1 y2 y3 y4 y5
        refine take' 0 (v := ?_) rfl (by kernel_rfl) (by kernel_rfl) (by kernel_rfl) (fun _ _ _ h => h) (Or.inl ⟨by rfl, ?_⟩) (by assumption) ?_
        rotate_left
        · intro w9 hSw
          go_simp
          first | done | with_reducible rfl
        simp only [Act.put, List.setIfInBounds_toArray, List.set_cons_zero, List.set_cons_succ]
        refine take' 1 (v := ?_) rfl (by kernel_rfl) (by kernel_rfl) (by kernel_rfl) (fun _ _ _ h => h) (Or.inl ⟨by rfl, ?_⟩) (by assumption) ?_
        rotate_left
        · intro w9 hSw
          go_simp
          first | done | with_reducible rfl
        simp only [Act.put, List.setIfInBounds_toArray, List.set_cons_zero, List.set_cons_succ]
        refine take' 2 (v := ?_) rfl (by kernel_rfl) (by kernel_rfl) (by kernel_rfl) (fun _ _ _ h => h) (Or.inl ⟨by rfl, ?_⟩) (by assumption) ?_
        rotate_left
        · intro w9 hSw
          go_simp
          first | done | with_reducible rfl
        simp only [Act.put, List.setIfInBounds_toArray, List.set_cons_zero, List.set_cons_succ]
        refine take' 3 (v := ?_) rfl (by kernel_rfl) (by kernel_rfl) (by kernel_rfl) (fun _ _ _ h => h) (Or.inl ⟨by rfl, ?_⟩) (by assumption) ?_
        rotate_left
        · intro w9 hSw
          go_simp
          first | done | with_reducible rfl
        simp only [Act.put, List.setIfInBounds_toArray, List.set_cons_zero, List.set_cons_succ]
        refine wpAnyH_ready (rs := [4]) (by kernel_rfl) (by simp) ?_
        refine cons' rfl (fun KK hKK => ?_)
        have fz := fun o => q4.frozen o
        have t0 := q4.cell 0
        have t1 := q4.cell 1
        have t2 := q4.cell 2
        have t3 := q4.cell 3
        have t4 := q4.cell 4
        have t5 := q4.cell 5
        simp only [List.getElem?_toArray, List.getElem?_cons_zero, List.getElem?_cons_succ] at t0 t1 t2 t3 t4 t5
        go_simp
        clear fz t0 t1 t2 t3 t4 t5
        obtain ⟨ks, q9⟩ := q4.set6 (.string tz) (.int .i64 (s2.nodes.length : Nat)) (.int .i64 (s2.opn.length : Nat)) (.bool true) (.int .i64 code) (.int .i64 pl)
        unfold set6 at ks q9
        have hH2 := (⟨ks.cell (by omega) hHeld.1, ks.cell (by omega) hHeld.2.1, ks.cell (by omega) hHeld.2.2.1, ks.cell (by omega) hHeld.2.2.2.1, ks.cell (by omega) hHeld.2.2.2.2.1, ks.cell (by omega) hHeld.2.2.2.2.2⟩ : _ ∧ _ ∧ _ ∧ _ ∧ _ ∧ _)
        replace hB := hB.trans (ks.below (B := w.heap.size) (by omega))
        replace nd := nd.kept (fun g hg hl => (Kp.ch (X := fun i => i = w.heap.size + 1) ks rfl).block g hl (fun e => hP _ hg e)) (fun _ c => c)
        clear ks q4 q2
        generalize ((((((w20.setCell ⟨w.heap.size + 1, 0, none⟩ (.string tz)).setCell ⟨w.heap.size + 1, 1, none⟩ (.int .i64 (s2.nodes.length : Nat))).setCell ⟨w.heap.size + 1, 2, none⟩ (.int .i64 (s2.opn.length : Nat))).setCell ⟨w.heap.size + 1, 3, none⟩ (.bool true)).setCell ⟨w.heap.size + 1, 4, none⟩ (.int .i64 code)).setCell ⟨w.heap.size + 1, 5, none⟩ (.int .i64 pl)) = w21 at hH2 q9 hB nd ⊢
        refine hKK.out _ _ hH2 ?_
        clear hHeld
        intro hHeld
        clear hKK KK
        try simp only [Act.put, List.setIfInBounds_toArray, List.set_cons_zero, List.set_cons_succ]
        clear hH2
        refine take' 5 (v := ?_) rfl (by kernel_rfl) (by kernel_rfl) (by kernel_rfl) (fun _ _ _ h => h) (Or.inl ⟨by rfl, ?_⟩) (by assumption) ?_
        rotate_left
        · intro w9 hSw
          go_simp
          first | done | with_reducible rfl
        simp only [Act.put, List.setIfInBounds_toArray, List.set_cons_zero, List.set_cons_succ]
        refine take' 6 (v := ?_) rfl (by kernel_rfl) (by kernel_rfl) (by kernel_rfl) (fun _ _ _ h => h) (Or.inl ⟨by rfl, ?_⟩) (by assumption) ?_
        rotate_left
        · intro w9 hSw
          go_simp
          first | done | with_reducible rfl
        simp only [Act.put, List.setIfInBounds_toArray, List.set_cons_zero, List.set_cons_succ]
        refine wpAnyH_done (by kernel_rfl) ?_ _
        clear hHeld
        have t0 := q9.cell 0
        have t1 := q9.cell 1
        have t2 := q9.cell 2
        have t3 := q9.cell 3
        have t4 := q9.cell 4
        have t5 := q9.cell 5
        simp only [List.getElem?_toArray, List.getElem?_cons_zero, List.getElem?_cons_succ] at t0 t1 t2 t3 t4 t5
        go_wp2
        refine bodyPost_ret (v := .tuple #[.agg #[.string tz, .int .i64 (s2.nodes.length : Nat), .int .i64 (s2.opn.length : Nat), .bool true, .int .i64 code, .int .i64 pl], .slice va N2.length vc, .int .i64 code]) (by rw [results_ct3 rfl]; go_simp) rfl ?_
        refine ⟨_, _, _, _, _, _, _, by rw [HTZ.out], ?_, nd, HQ9.out, hB⟩
        have hr := HREL.out.2.2.2
        rcases rs2 with ⟨o2, p2⟩ | ⟨d, e, q⟩
        · have hr2 : s2.opn.length = o2.length ∧ code = 0 ∧ _ := hr
          exact absurd hr2.2.1 HC.out
        · have hr2 : s2.opn.length = d ∧ (code, pl) = (e, q) ∧ e ≠ 0 := hr
          obtain ⟨h1, h2, h3⟩ := hr2
          exact ⟨by rw [h1], rfl, congrArg Prod.fst h2, congrArg Prod.snd h2⟩
    exact AllReadyH.nil
  exact AllReadyH.nil

end Go.Proofs.YtibeiggedmabkaaDoor
