import Derived.Test.YtlklfkkbdcglbaaGreatWO5
import Derived.Test.YtlklfkkbdcglbaaGreatWN9
import Derived.Test.YtlklfkkbdcglbaaGreatGTF
import Derived.Test.YtlklfkkbdcglbaaGreatWN11
import Derived.Test.YtlklfkkbdcglbaaGreatWN17
import Derived.Test.YtlklfkkbdcglbaaGreatWQ9
import Derived.Test.YtlklfkkbdcglbaaGreatWN21
import Derived.Test.YtlklfkkbdcglbaaGreatWO7
import Derived.Test.YtlklfkkbdcglbaaGreatGTJ
import Derived.Test.YtlklfkkbdcglbaaGreatGTG
set_option linter.unusedSimpArgs false
namespace Go.Proofs.YtlklfkkbdcglbaaGreat
open Go.RowKit
set_option linter.unusedVariables false
set_option maxHeartbeats 8000000 in
set_option maxRecDepth 100000 in
theorem vlScaleF_is (C : RatV) (a : Option Addr) (c : Nat) (L : List Mo) (K : Nat) (w : World) (hF : FAt w a L) (hok : ∀ p ∈ L, p.2.ok w) (hc : L.length ≤ c) (hm : L.length ≤ 1048576) (hC : C.ok w) (hK : ∀ p ∈ L, C.n + C.m + p.2.n + p.2.m ≤ K) (hCK : C.n + C.m ≤ K) (hKm : K ≤ 17179869184) (hnK : ∀ k x, sz 1099511627776 (co x ((fmap (fun r => C.val * r) (fo L)).take k))) :
    Calls Tryz.prog 91 #[.agg #[.bool C.s, .slice C.a C.n C.c, .slice C.b C.m C.e], .slice a L.length c] w (FAns w (nfm (fmap (fun r => C.val * r) (fo L)))) := by
  obtain ⟨i0, hi0, hz0, hz1, hz2⟩ := info_parts info_Mono
  have hszL : ∀ p ∈ fmap (fun r => C.val * r) (fo L), sz (K + 2) p.2 := fun p hp => by
    obtain ⟨p1, hp1, rfl⟩ := List.mem_map.1 hp
    obtain ⟨p2, hp2, rfl⟩ := List.mem_map.1 hp1
    exact mul_sz hC (hok p2 hp2) (hK p2 hp2)
  have GN := xQ2 (fun w' a2 c2 (R : List Mo) (hs : Sl w' a2 c2 R) (hE : ∀ p ∈ R, Ent w' p) (hf : fo R = fmap (fun r => C.val * r) (fo L)) => vlNormF_is a2 c2 R w' hs.lies (fun p hp => by
    have h1 : (p.1, p.2.val) ∈ fmap (fun r => C.val * r) (fo L) := by rw [← hf]; exact List.mem_map.2 ⟨p, hp, rfl⟩
    have h2 : sz (K + 2) p.2.val := hszL _ h1
    obtain ⟨e1, e2⟩ := low_ns (hE p hp).low
    exact ⟨(hE p hp).ok, by rw [e1]; have := h2.1; omega, by rw [e2]; have := h2.2; omega⟩) hs.len (by have h := congrArg List.length hf; rw [xQ8, fmap_length, xQ8] at h; omega) (fun k x => by rw [show fo (R.take k) = (fo R).take k by unfold fo; rw [List.map_take], hf]; exact hnK k x))
  obtain ⟨TT, hTT⟩ : ∃ TT, nfm (fmap (fun r => C.val * r) (fo L)) = TT := ⟨_, rfl⟩
  rw [hTT]
  replace hTT := xQ2 hTT
  clear hszL hnK
  go_enter Tryz.func91, Tryz.ntmps91
  go_wp2_with fail
  obtain ⟨wA, hwA⟩ : ∃ wA, w.alloc (.cells #[.bool C.s, .slice C.a C.n C.c, .slice C.b C.m C.e] 74) = wA := ⟨_, rfl⟩
  have bA : Below w.heap.size w wA := by subst hwA; exact xQ1 _
  have a0 : wA.cell? ⟨w.heap.size, 0, none⟩ = some (.bool C.s) := by subst hwA; go_simp
  have a1 : wA.cell? ⟨w.heap.size, 1, none⟩ = some (.slice C.a C.n C.c) := by subst hwA; go_simp
  have a2 : wA.cell? ⟨w.heap.size, 2, none⟩ = some (.slice C.b C.m C.e) := by subst hwA; go_simp
  have hwz : w.heap.size < wA.heap.size := by subst hwA; simp only [World.size_alloc]; omega
  rw [hwA]
  clear hwA
  replace hF := hF.later bA
  replace hok := fun p hp => (hok p hp).later bA
  replace hC := hC.later bA
  go_loopw [5, 6] (fun vo vi wr => ∃ k : Nat, k ≤ L.length ∧ vi = .int .i64 k ∧ TInv wA (fun r => C.val * r) L k vo wr) (fun _ vi _ => L.length - (intOf vi).toNat)
  case atStart => exact ⟨0, Nat.zero_le _, rfl, [], rfl, World.ownsRow_nil _ _ _ _, Below.refl _ _, fun p hp => by simp at hp, rfl⟩
  case round =>
    obtain ⟨k, hk, rfl, R, hRl, hO, hB, hR, hfo⟩ := hrel
    by_cases hlt : k < L.length
    · obtain ⟨p, hp⟩ : ∃ p, L[k]? = some p := ⟨L[k], List.getElem?_eq_getElem hlt⟩
      obtain ⟨b, off, rfl, hb, hcell⟩ := hF (by intro e; rw [e] at hlt; simp at hlt)
      obtain ⟨c0, c1, c2, c3⟩ := hcell k p hp
      replace c0 := xQ0 hB c0
      replace c1 := xQ0 hB c1
      replace c2 := xQ0 hB c2
      replace c3 := xQ0 hB c3
      replace a0 := xQ0 hB a0
      replace a1 := xQ0 hB a1
      replace a2 := xQ0 hB a2
      have hmem := List.mem_of_getElem? hp
      have hq := (hok p hmem).later hB
      have hC1 := hC.later hB
      have hKp := hK p hmem
      have hsz := mul_sz hC1 hq hKp
      obtain ⟨t1, t2⟩ := xJ5 hp
      have hfo' : fo (L.take (k + 1)) = fo (L.take k) ++ [(p.1, p.2.val)] := by rw [t1, xZ0]; rfl
      clear t1 t2 hp hmem
      obtain ⟨x, q⟩ := p
      simp only at c0 c1 c2 c3 hsz hfo' hq hKp
      have GM := xQ2 (fun w' k1 k2 k3 k4 => vqMul_is C.s C.a C.n C.c C.X C.b C.m C.e C.Y q.s q.a q.n q.c q.X q.b q.m q.e q.Y _ _ w' hC1.2.1 (by omega) k1 hC1.2.2.2.2.1 (by omega) k2 hq.2.1 (by omega) k3 hq.2.2.2.2.1 (by omega) k4 (low_mul C q))
      obtain ⟨r, hr⟩ : ∃ r, C.val * q.val = r := ⟨_, rfl⟩
      rw [hr] at GM hsz
      have k1 := hC1.1
      have k2 := hC1.2.2.2.1
      have k3 := hq.1
      have k4 := hq.2.2.2.1
      clear hC1 hq hcell
      have i1 : (0 : Int) ≤ (k : Int) := by omega
      have i2 : (k : Int) < (L.length : Int) := by omega
      have hrow := fun k hk => (hO.lt k hk)
      go_wp2_with fail
      have bT : Below wr.heap.size wr wr := Below.refl _ _
      have bD : Below wr.heap.size wr wr.drew := (Below.refl _ _).drew
      have kc0 := xQ0 bD c0
      have kc1 := xQ0 bD c1
      have kc2 := xQ0 bD c2
      have kc3 := xQ0 bD c3
      have ka0 := xQ0 bD a0
      have ka1 := xQ0 bD a1
      have ka2 := xQ0 bD a2
      replace bT := bT.trans (bD.mono bT.size)
      replace k1 := k1.later bD
      replace k2 := k2.later bD
      replace k3 := k3.later bD
      replace k4 := k4.later bD
      refine wp_region_held_drew (S := fun w' => w'.cell? ⟨b, off + k * 4, none⟩ = some (.int .i64 x) ∧ w'.cell? ⟨b, off + k * 4 + 1, none⟩ = some (.bool q.s) ∧ w'.cell? ⟨b, off + k * 4 + 1 + 1, none⟩ = some (.slice q.a q.n q.c) ∧ w'.cell? ⟨b, off + k * 4 + 1 + 2, none⟩ = some (.slice q.b q.m q.e) ∧ w'.cell? ⟨w.heap.size, 0, none⟩ = some (.bool C.s) ∧ w'.cell? ⟨w.heap.size, 1, none⟩ = some (.slice C.a C.n C.c) ∧ w'.cell? ⟨w.heap.size, 2, none⟩ = some (.slice C.b C.m C.e)) (by kernel_rfl) ⟨kc0, kc1, kc2, kc3, ka0, ka1, ka2⟩ (fun hHeld => ?_)
      clear kc0 kc1 kc2 kc3 ka0 ka1 ka2
      generalize wr.drew = w0 at bD k1 k2 k3 k4 bT hHeld ⊢
      clear c0 c1 c2 c3 a0 a1 a2 bD
      refine tk 0 (v := ?_) rfl (Or.inl ⟨by rfl, ?_⟩) ?_
      rotate_left
      · intro w9 hSw
        go_simp
        try with_reducible rfl
      simp only [pP, pN, pS, pZ, pC]
      refine tk 1 (v := ?_) rfl (Or.inl ⟨by rfl, ?_⟩) ?_
      rotate_left
      · intro w9 hSw
        go_simp
        try with_reducible rfl
      simp only [pP, pN, pS, pZ, pC]
      refine tk 2 (v := ?_) rfl (Or.inl ⟨by rfl, ?_⟩) ?_
      rotate_left
      · intro w9 hSw
        go_simp
        try with_reducible rfl
      simp only [pP, pN, pS, pZ, pC]
      refine tk 3 (v := ?_) rfl (Or.inl ⟨by rfl, ?_⟩) ?_
      rotate_left
      · intro w9 hSw
        go_simp
        try with_reducible rfl
      simp only [pP, pN, pS, pZ, pC]
      refine tk 4 (v := ?_) rfl (Or.inl ⟨by rfl, ?_⟩) ?_
      rotate_left
      · intro w9 hSw
        go_simp
        try with_reducible rfl
      simp only [pP, pN, pS, pZ, pC]
      refine tk 5 (v := ?_) rfl (Or.inl ⟨by rfl, ?_⟩) ?_
      rotate_left
      · intro w9 hSw
        go_simp
        try with_reducible rfl
      simp only [pP, pN, pS, pZ, pC]
      refine tk 6 (v := ?_) rfl (Or.inl ⟨by rfl, ?_⟩) ?_
      rotate_left
      · intro w9 hSw
        go_simp
        try with_reducible rfl
      simp only [pP, pN, pS, pZ, pC]
      refine tk 7 (v := ?_) rfl (Or.inl ⟨by rfl, ?_⟩) ?_
      rotate_left
      · intro w9 hSw
        go_simp
        try with_reducible rfl
      simp only [pP, pN, pS, pZ, pC]
      refine tk 8 (v := ?_) rfl (Or.inl ⟨by rfl, ?_⟩) ?_
      rotate_left
      · intro w9 hSw
        go_simp
        try with_reducible rfl
      simp only [pP, pN, pS, pZ, pC]
      refine tk 9 (v := ?_) rfl (Or.inl ⟨by rfl, ?_⟩) ?_
      rotate_left
      · intro w9 hSw
        go_simp
        try with_reducible rfl
      simp only [pP, pN, pS, pZ, pC]
      refine tk 10 (v := ?_) rfl (Or.inl ⟨by rfl, ?_⟩) ?_
      rotate_left
      · intro w9 hSw
        go_simp
        try with_reducible rfl
      simp only [pP, pN, pS, pZ, pC]
      refine tk 11 (v := ?_) rfl (Or.inl ⟨by rfl, ?_⟩) ?_
      rotate_left
      · intro w9 hSw
        go_simp
        try with_reducible rfl
      simp only [pP, pN, pS, pZ, pC]
      refine wpAnyH_ready (rs := [12]) (by kernel_rfl) (by simp) ?_
      refine xX1 rfl (fun KK hKK => ?_)
      go_simp
      refine (GM.out _ k1 k2 k3 k4).mono ?_
      rintro e w2 ⟨p, p', rfl, n1, n2⟩
      have b2 := n1.below
      have sA := bT.size
      replace bT := bT.trans (b2.mono bT.size)
      replace k1 := k1.later b2
      replace k2 := k2.later b2
      replace k3 := k3.later b2
      replace k4 := k4.later b2
      replace hHeld := (⟨xQ0 b2 hHeld.1, xQ0 b2 hHeld.2.1, xQ0 b2 hHeld.2.2.1, xQ0 b2 hHeld.2.2.2.1, xQ0 b2 hHeld.2.2.2.2.1, xQ0 b2 hHeld.2.2.2.2.2.1, xQ0 b2 hHeld.2.2.2.2.2.2⟩ : _ ∧ _ ∧ _ ∧ _ ∧ _ ∧ _ ∧ _)
      go_wp2_with fail
      refine hKK.out _ _ hHeld ?_
      clear hHeld
      intro hHeld
      clear hKK KK
      try simp only [pP, pN, pS, pZ, pC]
      refine tk 13 (v := ?_) rfl (Or.inl ⟨by rfl, ?_⟩) ?_
      rotate_left
      · intro w9 hSw
        go_simp
        try with_reducible rfl
      simp only [pP, pN, pS, pZ, pC]
      refine wpAnyH_ready (rs := [14]) (by kernel_rfl) (by simp) ?_
      refine xX1 rfl (fun KK hKK => ?_)
      go_simp
      have hnew := heap_alloc_new w2 (.cells #[.int .i64 x, .bool (ng r.num), .slice p (ln (am r.num)) (ln (am r.num)), .slice p' (ln r.den) (ln r.den)] 76)
      have b3 := xQ1 (w := w2) (.cells #[.int .i64 x, .bool (ng r.num), .slice p (ln (am r.num)) (ln (am r.num)), .slice p' (ln r.den) (ln r.den)] 76)
      generalize w2.alloc (.cells #[.int .i64 x, .bool (ng r.num), .slice p (ln (am r.num)) (ln (am r.num)), .slice p' (ln r.den) (ln r.den)] 76) = w3 at hnew b3 ⊢
      replace bT := bT.trans (b3.mono bT.size)
      replace k1 := k1.later b3
      replace k2 := k2.later b3
      replace k3 := k3.later b3
      replace k4 := k4.later b3
      replace hHeld := (⟨xQ0 b3 hHeld.1, xQ0 b3 hHeld.2.1, xQ0 b3 hHeld.2.2.1, xQ0 b3 hHeld.2.2.2.1, xQ0 b3 hHeld.2.2.2.2.1, xQ0 b3 hHeld.2.2.2.2.2.1, xQ0 b3 hHeld.2.2.2.2.2.2⟩ : _ ∧ _ ∧ _ ∧ _ ∧ _ ∧ _ ∧ _)
      refine hKK.out _ _ hHeld ?_
      clear hHeld
      intro hHeld
      clear hKK KK
      try simp only [pP, pN, pS, pZ, pC]
      have hO3 := xQ6 hO bT
      have s2 := b2.size
      have s3 := b3.size
      have s4 := bT.size
      have s5 := hB.size
      have gN : Grw u5 w3 (x, RatV.of r.num r.den p p') := ⟨⟨n1.seg.later b3, Nat.le_refl _, Nat.le_trans hsz.1 (by omega), n2.seg.later b3, Nat.le_refl _, Nat.le_trans hsz.2 (by omega)⟩, ofR_low r p p', fun b e => ⟨fun hn ad e2 h => by have h1 := n1.fr hn ad e2; have h2 := (hrow b e).2; omega, fun hn ad e2 h => by have h1 := n2.fr hn ad e2; have h2 := (hrow b e).2; omega⟩⟩
      refine wpAnyH_ready (rs := [15]) (by kernel_rfl) (by simp) ?_
      refine xX1 rfl (fun KK hKK => ?_)
      refine step_append_lies _ (by rfl) _ _ _ (by rfl) wA.heap.size 76 i0 _ 4 64 Tryz.underlying35 hi0 hz0 hz1 hz2 rfl (by omega) u5 R.length (xX9 R) (by rfl) hO3
        ⟨w2.heap.size, 0, none⟩ 1 1 (cells4 (x, RatV.of r.num r.den p p')) (by rfl) (by rfl) (World.news_of_block (cs := #[.int .i64 x, .bool (ng r.num), .slice p (ln (am r.num)) (ln (am r.num)), .slice p' (ln r.den) (ln r.den)]) (t := 76) (fr := (0, 0)) hnew) (cells4_one _)
        (by omega) (by simp only [maxLen]; omega) (by omega) (by omega) w3.heap.size rfl ?_
      intro gb cap w9 hown4 hgrow hat hlt4
      have far : ∀ {c o : Nat} {u : Value}, c < wA.heap.size → w3.cell? ⟨c, o, none⟩ = some u → w9.cell? ⟨c, o, none⟩ = some u := fun hc hu => hgrow.cell hu (fun e => by have := hrow _ e.symm; simp only at this; omega)
      refine hKK.out _ _ ⟨far hb hHeld.1, far hb hHeld.2.1, far hb hHeld.2.2.1, far hb hHeld.2.2.2.1, far hwz hHeld.2.2.2.2.1, far hwz hHeld.2.2.2.2.2.1, far hwz hHeld.2.2.2.2.2.2⟩ ?_
      clear hHeld
      intro hHeld
      clear hKK KK
      try simp only [pP, pN, pS, pZ, pC]
      have hBT := hB.trans (bT.mono hB.size)
      have I1 := xQ2 (And.intro (own_push hown4) (And.intro (hBT.trans (xX0 hBT.size (fun k hk => (hrow k hk).1) hgrow)) (grw_push (fun q hq => (hR q hq).later bT) gN (j := R.length + 1) (cap := cap) hgrow hat)))
      clear hown4 hgrow hat far gN hO3 hnew n1 n2
      refine tk 16 (v := ?_) rfl (Or.inl ⟨by rfl, ?_⟩) ?_
      rotate_left
      · intro w9 hSw
        go_simp
        try with_reducible rfl
      simp only [pP, pN, pS, pZ, pC]
      refine wpAnyH_done (by kernel_rfl) ?_ _
      go_wp2
      go_roundw
      case rel => exact ⟨k + 1, by omega, by go_num, R ++ [(x, RatV.of r.num r.den p p')], by rw [List.length_append, hRl]; rfl, by have h := I1.out.1; rw [hRl] at h; exact h, I1.out.2.1, by have h := I1.out.2.2; rw [hRl] at h; exact h, by rw [xZ0, hfo, hfo', fmap_snoc, hr]; show _ ++ [(x, (RatV.of r.num r.den p p').val)] = _; rw [val_ofR]⟩
      case measure => simp [intOf]; omega
    · obtain rfl : k = L.length := by omega
      have i1 : ¬ (L.length : Int) < (L.length : Int) := by omega
      obtain ⟨a3, c3, rfl, s3⟩ := Sl.of hO
      rw [List.take_length] at hfo
      have G := xQ2 (GN.out wr a3 c3 R s3 (fun p hp => (hR p hp).ent) hfo)
      rw [hfo, hTT.out] at G
      clear GN hO hR s3 hfo hRl
      go_wp2_with fail
      refine G.out.mono ?_
      rintro e w9 h9
      have h8 := h9.from (bA.trans (hB.mono bA.size))
      obtain ⟨a2, c2, R2, rfl, h7⟩ := h8
      clear h9
      go_wp2
      go_ret
      exact ⟨a2, c2, R2, rfl, h7⟩
theorem lk_drop {α : Type} {u v : Int} (h : v ≠ u) : ∀ (R : List (Int × α)), lk (R.filter fun r => !(r.1 == u)) v = lk R v
  | [] => rfl
  | r :: R => by
    by_cases e : r.1 = u
    · rw [List.filter_cons_of_neg (by simp [e])]
      simp only [lk]
      rw [if_neg (by rw [e]; exact fun e2 => h e2.symm)]
      exact lk_drop h R
    · rw [List.filter_cons_of_pos (by simp [e])]
      simp only [lk]
      rw [lk_drop h R]
theorem bulT_drop {u : Int} : ∀ (R : List RowV), bulT (R.filter fun r => !(r.1 == u)) ≤ bulT R
  | [] => Nat.le_refl _
  | r :: R => by
    have ih := bulT_drop (u := u) R
    by_cases e : r.1 = u
    · rw [List.filter_cons_of_neg (by simp [e])]
      simp only [bulT]; omega
    · rw [List.filter_cons_of_pos (by simp [e])]
      simp only [bulT]; omega
theorem bulT_out {u : Int} {X : FV} : ∀ {R : List RowV}, lk R u = some X → bulT (R.filter fun r => !(r.1 == u)) + (bul X.L + 3) ≤ bulT R
  | [], h => by simp [lk] at h
  | r :: R, h => by
    simp only [lk] at h
    by_cases e : r.1 = u
    · rw [if_pos e] at h
      obtain rfl := Option.some.inj h
      rw [List.filter_cons_of_neg (by simp [e])]
      have := bulT_drop (u := u) R
      simp only [bulT]; omega
    · rw [if_neg e] at h
      have ih := bulT_out h
      rw [List.filter_cons_of_pos (by simp [e])]
      simp only [bulT]; omega
theorem bulkL_nfm {w w' : World} {F X : FV} (hF : F.nk w) (hX : X.ok w') (h : F.fo = nfm X.fo) : bulkL F.L ≤ 2 * bul X.L := by
  have h1 := bulkL_low F.L fun p hp => (hF.en p hp).low
  have h2 := wts_nfm X.fo
  have h3 := xZ9 X.fo
  have h4 := wts_bulk X.L hX.nums
  have h5 := bul_bulkL X.L
  have h6 := congrArg List.length h
  have h7 : X.fo.length = X.L.length := xQ8 _
  have h8 : F.fo.length = F.L.length := xQ8 _
  have h9 : wts (fo F.L) = wts (nfm X.fo) := congrArg wts h
  have h10 : wts (fo X.L) = wts X.fo := rfl
  omega
theorem costL_le {g : Int → Option FV} : ∀ (FL : List Mo) (R : List RowV), (FL.map (·.1)).Pairwise (· ≠ ·) → (∀ p ∈ FL, ∀ F, g p.1 = some F → ∃ X, lk R p.1 = some X ∧ bulkL F.L ≤ 2 * bul X.L) → costL g FL ≤ 2 * bulT R + 4 * FL.length + bulkL FL
  | [], R, _, _ => Nat.zero_le _
  | p :: FL, R, hd, hg => by
    rw [List.map_cons, List.pairwise_cons] at hd
    have ih : ∀ (R' : List RowV), (∀ q ∈ FL, ∀ F, g q.1 = some F → ∃ X, lk R' q.1 = some X ∧ bulkL F.L ≤ 2 * bul X.L) → _ := fun R' => costL_le FL R' hd.2
    simp only [costL, bulkL, List.length_cons]
    cases hp : g p.1 with
    | none =>
      have := ih R fun q hq => hg q (List.mem_cons_of_mem _ hq)
      simp only [cost1, hp]
      omega
    | some F =>
      obtain ⟨X, hX, hb⟩ := hg p List.mem_cons_self F hp
      have h1 := bulT_out hX
      have := ih (R.filter fun r => !(r.1 == p.1)) fun q hq F hF => by
        obtain ⟨Y, hY, hb⟩ := hg q (List.mem_cons_of_mem _ hq) F hF
        exact ⟨Y, by rw [lk_drop (fun e => hd.1 q.1 (List.mem_map.2 ⟨q, hq, rfl⟩) e.symm)]; exact hY, hb⟩
      simp only [cost1, hp]
      omega
theorem cost_fits {w w' : World} {a : Option Addr} {R : List RowV} {X : FV} (hT : TIn w a R) (hX : X.sm w) (hb : bulT R + bul X.L ≤ 1048576) (w1 : World) (g : Int → Option FV) (hG : RF w1 g (tb R)) (FL : List Mo) (hl : ∀ p ∈ FL, p.2.low) (hf : fo FL = nfm X.fo) : costL g FL ≤ 2097152 := by
  have hn := xJ8 X.fo
  have h1 := costL_le (g := g) FL R (by
    have h := hn.1
    rw [← hf] at h
    unfold fo at h
    rw [List.pairwise_map] at h ⊢
    exact h.imp fun hab => by simp only at hab; omega) fun p hp F hF => by
      obtain ⟨f, hlk, e⟩ := hG.hit hF
      rw [tb_lk] at hlk
      cases hr : lk R p.1 with
      | none => rw [hr] at hlk; cases hlk
      | some Y =>
        rw [hr] at hlk
        have e2 : Y.fo = f := Option.some.inj hlk
        exact ⟨Y, rfl, bulkL_nfm (hG.nk _ _ hF) (hT.forms _ (lk_mem hr)) (by rw [e, e2])⟩
  have h2 := bulkL_low FL hl
  have h3 := wts_nfm X.fo
  have h4 := xZ9 X.fo
  have h5 := wts_bulk X.L hX.ok.nums
  have h6 := bul_bulkL X.L
  have h7 : X.fo.length = X.L.length := xQ8 _
  have h8 := congrArg List.length hf
  rw [xQ8] at h8
  rw [hf] at h2
  have h10 : wts (fo X.L) = wts X.fo := rfl
  omega
def dr (x : Int) (r : Int × Fo) : Rat := co x r.2 - (if r.1 = x then 1 else 0)
def dv (x v : Int) : Tb → Rat
  | [] => 0
  | r :: T => (if r.1 = v then dr x r else 0) + dv x v T
def ev (x : Int) (l : Fo) : Tb → Rat
  | [] => 0
  | r :: T => co r.1 l * dr x r + ev x l T
theorem dv_none {x v : Int} : ∀ {T : Tb}, (∀ r ∈ T, r.1 ≠ v) → dv x v T = 0
  | [], _ => rfl
  | r :: T, h => by
    simp only [dv]
    rw [if_neg (h r List.mem_cons_self), dv_none fun q hq => h q (List.mem_cons_of_mem _ hq)]
    exact Rat.add_zero _
theorem co_gal (x v : Int) : ∀ {T : Tb}, onceK T → co x (gal T v) = (if v = x then 1 else 0) + dv x v T
  | [], _ => by
    show co x [(v, 1)] = _
    simp only [co, dv]
  | r :: T, h => by
    have h1 := List.pairwise_cons.1 h
    by_cases e : r.1 = v
    · have hg : gal (r :: T) v = nfm r.2 := by unfold gal; simp [lk, e]
      rw [hg, nfm_co]
      simp only [dv]
      rw [if_pos e, dv_none fun q hq => fun e2 => h1.1 q hq (e.trans e2.symm)]
      unfold dr
      rw [e]
      grind
    · have hg : gal (r :: T) v = gal T v := by unfold gal; simp only [lk, if_neg e]
      rw [hg, co_gal x v h1.2]
      simp only [dv]
      rw [if_neg e]
      grind
theorem ev_cons (x : Int) (p : Int × Rat) (l : Fo) : ∀ T : Tb, ev x (p :: l) T = p.2 * dv x p.1 T + ev x l T
  | [] => by simp only [ev, dv]; grind
  | r :: T => by
    simp only [ev, dv, ev_cons x p l T, co]
    by_cases e : p.1 = r.1
    · rw [if_pos e, if_pos e.symm]; grind
    · rw [if_neg e, if_neg fun e2 => e e2.symm]; grind
theorem ev_nil (x : Int) : ∀ T : Tb, ev x [] T = 0
  | [] => rfl
  | r :: T => by simp only [ev, ev_nil x T, co]; grind
theorem co_exL (x : Int) {T : Tb} (h : onceK T) : ∀ l : Fo, co x (exL T l) = co x l + ev x l T
  | [] => by rw [ev_nil]; simp only [exL, co]; grind
  | p :: l => by
    simp only [exL]
    rw [xJ1, co_scale, co_gal x p.1 h, co_exL x h l, ev_cons]
    simp only [co]
    by_cases e : p.1 = x
    · rw [if_pos e, if_pos e]; grind
    · rw [if_neg e, if_neg e]; grind
theorem ev_nfm (x : Int) (l : Fo) : ∀ T : Tb, ev x (nfm l) T = ev x l T
  | [] => rfl
  | r :: T => by simp only [ev, ev_nfm x l T, nfm_co]
def ac1 (f : Fo) (r : Int × Fo) : Fo := (r.1, -(co r.1 f)) :: fmap (fun z => co r.1 f * z) r.2
def acS (f : Fo) : Tb → Fo
  | [] => []
  | r :: T => ac1 f r ++ acS f T
theorem acS_append (f : Fo) : ∀ S T : Tb, acS f (S ++ T) = acS f S ++ acS f T
  | [], T => rfl
  | r :: S, T => by simp only [List.cons_append, acS, acS_append f S T, List.append_assoc]
theorem co_acS (x : Int) (f : Fo) : ∀ T : Tb, co x (acS f T) = ev x f T
  | [] => rfl
  | r :: T => by
    simp only [acS, ev]
    rw [xJ1, co_acS x f T]
    unfold ac1 dr
    simp only [co]
    rw [co_scale]
    by_cases e : r.1 = x
    · rw [if_pos e, if_pos e, e]; grind
    · rw [if_neg e, if_neg e]; grind
theorem acS_exF {T : Tb} (h : onceK T) (f : Fo) : nfm (f ++ acS f T) = exF T f := by
  refine nfm_uniq (xJ8 _) fun x => ?_
  rw [nfm_co, xJ1, co_acS, co_exL x h, nfm_co, ev_nfm]
theorem acS_step (f g : Fo) (S : Tb) (r : Int × Fo) (hg : g = nfm (f ++ acS f S)) : nfm (nfm (g ++ fmap (fun z => -z) [(r.1, co r.1 f)]) ++ nfm (fmap (fun z => co r.1 f * z) r.2)) = nfm (f ++ acS f (S ++ [r])) := by
  refine (nfm_uniq (xJ8 _) fun x => ?_)
  rw [nfm_co, xJ1, nfm_co, xJ1, nfm_co, co_neg, hg, nfm_co, acS_append, ← List.append_assoc, xJ1 (x := x) (l := f ++ acS f S)]
  show co x (f ++ acS f S) + -(co x [(r.1, co r.1 f)]) + co x (fmap (fun z => co r.1 f * z) r.2) = co x (f ++ acS f S) + co x (ac1 f r ++ [])
  unfold ac1
  rw [List.append_nil]
  simp only [co]
  grind
def hd : Fo → Int
  | [] => 0
  | p :: _ => sgn p.2.num
def Ld (c : Int → Rat) (s : Int) : Prop := (s = 0 ∧ ∀ x, c x = 0) ∨ (s ≠ 0 ∧ ∃ x, sgn (c x).num = s ∧ ∀ y, y < x → c y = 0)
theorem Ld.uniq {c : Int → Rat} {s t : Int} (h : Ld c s) (k : Ld c t) : s = t := by
  rcases h with ⟨rfl, h⟩ | ⟨hs, x, hx, h⟩
  · rcases k with ⟨rfl, _⟩ | ⟨ht, y, hy, _⟩
    · rfl
    · rw [h y] at hy; exact hy
  · rcases k with ⟨rfl, k⟩ | ⟨ht, y, hy, k⟩
    · rw [k x] at hx; exact hx.symm
    · rcases Int.lt_trichotomy x y with e | e | e
      · rw [k x e] at hx; exact absurd hx.symm hs
      · rw [← hx, ← hy, e]
      · rw [h y e] at hy; exact absurd hy.symm ht
theorem Ld.congr {c d : Int → Rat} {s : Int} (h : Ld c s) (e : ∀ x, c x = d x) : Ld d s := by
  have : c = d := funext e
  rw [← this]; exact h
theorem sgn_le {r : Rat} : sgn r.num ≤ 0 ↔ r ≤ 0 := by
  have h1 := Rat.num_nonneg (q := r)
  have h2 := Rat.num_eq_zero (q := r)
  unfold sgn
  split
  · rename_i h
    have : ¬ 0 ≤ r := fun k => by have := h1.2 k; omega
    exact ⟨fun _ => by grind, fun _ => by omega⟩
  · split
    · rename_i h k
      have := h2.1 k
      exact ⟨fun _ => by rw [this]; exact Rat.le_refl, fun _ => by omega⟩
    · rename_i h k
      have a : 0 ≤ r := h1.1 (by omega)
      have b : r ≠ 0 := fun e => k (h2.2 e)
      exact ⟨fun e => by omega, fun e => absurd (show r = 0 by grind) b⟩
theorem Ld.add {c d : Int → Rat} {s t u : Int} (h : Ld c s) (k : Ld d t) (j : Ld (fun x => c x + d x) u) (hs : s ≤ 0) (ht : t ≤ 0) : u ≤ 0 := by
  rcases h with ⟨rfl, h⟩ | ⟨hs0, x, hx, h⟩
  · have : u = t := j.uniq (k.congr fun y => by rw [h y, Rat.zero_add])
    omega
  · rcases k with ⟨rfl, k⟩ | ⟨ht0, y, hy, k⟩
    · have : u = s := j.uniq ((show Ld c s from Or.inr ⟨hs0, x, hx, h⟩).congr fun y => by rw [k y, Rat.add_zero])
      omega
    · have cx : c x ≤ 0 := sgn_le.1 (by omega)
      have dy : d y ≤ 0 := sgn_le.1 (by omega)
      have cx0 : c x ≠ 0 := fun e => by rw [e] at hx; exact hs0 hx.symm
      have dy0 : d y ≠ 0 := fun e => by rw [e] at hy; exact ht0 hy.symm
      have mk : ∀ z, (∀ y', y' < z → c y' + d y' = 0) → c z + d z ≤ 0 → c z + d z ≠ 0 → u ≤ 0 := fun z h1 h2 h3 => by
        have e : u = sgn (c z + d z).num := j.uniq (Or.inr ⟨fun e => h3 ((sgn_num _).1 e), z, rfl, h1⟩)
        rw [e]
        exact sgn_le.2 h2
      rcases Int.lt_trichotomy x y with e | e | e
      · refine mk x (fun z hz => by rw [h z hz, k z (by omega)]; exact Rat.add_zero _) (by rw [k x e, Rat.add_zero]; exact cx) (by rw [k x e, Rat.add_zero]; exact cx0)
      · subst e
        exact mk x (fun z hz => by rw [h z hz, k z hz]; exact Rat.add_zero _) (by grind) (by grind)
      · refine mk y (fun z hz => by rw [h z (by omega), k z hz]; exact Rat.add_zero _) (by rw [h y e, Rat.zero_add]; exact dy) (by rw [h y e, Rat.zero_add]; exact dy0)
set_option maxHeartbeats 2000000 in
set_option maxRecDepth 100000 in
theorem vlAddF_is (a : Option Addr) (ca : Nat) (L : List Mo) (b : Option Addr) (cb : Nat) (M : List Mo) (w : World) (sa : Sl w a ca L) (sb : Sl w b cb M) (hL : ∀ p ∈ L, p.2.ok w ∧ p.2.n ≤ 1099511627776 ∧ p.2.m ≤ 1099511627776) (hM : ∀ p ∈ M, p.2.ok w ∧ p.2.n ≤ 1099511627776 ∧ p.2.m ≤ 1099511627776) (hm : L.length + M.length ≤ 1048576) (hw : ∀ k x, sz 1099511627776 (co x ((fo L ++ fo M).take k))) :
    Calls Tryz.prog 90 #[.slice a L.length ca, .slice b M.length cb] w (FAns w (nfm (fo L ++ fo M))) := by
  have GN := xQ2 (fun w' (hb : Below w.heap.size w w') a3 c3 (s3 : Sl w' a3 c3 (L ++ M)) => vlNormF_is a3 c3 (L ++ M) w' s3.lies (fun p hp => by rcases List.mem_append.1 hp with h | h; exact ⟨(hL p h).1.later hb, (hL p h).2⟩; exact ⟨(hM p h).1.later hb, (hM p h).2⟩) s3.len (by rw [List.length_append]; omega) (fun k x => by rw [show fo ((L ++ M).take k) = (fo L ++ fo M).take k by rw [← xZ0]; unfold fo; rw [List.map_take]]; exact hw k x))
  rw [← xZ0]
  obtain ⟨TT, hTT⟩ : ∃ TT, nfm (fo (L ++ M)) = TT := ⟨_, rfl⟩
  rw [hTT] at GN ⊢
  clear hL hM hw hTT
  have hm1 : ([] : List Mo).length + L.length ≤ 4194304 := by simp only [List.length_nil]; omega
  have hm2 : L.length + M.length ≤ 4194304 := by omega
  have hO0 : w.ownsRow w.heap.size 76 4 (.slice none 0 0) ([] : List Mo).length (xX9 []) := World.ownsRow_nil _ _ _ _
  have hle := Nat.le_refl w.heap.size
  go_enter Tryz.func90, Tryz.ntmps90
  go_wp2_with (at_builtin; refine xZ7 (by rfl) _ _ _ (by rfl) w.heap.size (.slice none 0 0) [] L a ca Tryz.underlying35 (by rfl) (by rfl) hO0 sa hm1 hle ?_)
  intro v1 w1 hO1 hg1 hat1
  have b1 : Below w.heap.size w w1 := xX0 (Nat.le_refl _) (fun k h => by simp [Value.ownBlock] at h) hg1
  have hs1 := b1.size
  have sb1 := sb.later b1
  have hrow1 : ∀ k, v1.ownBlock = some k → w.heap.size ≤ k := fun k hk => by rcases hat1 with h | h; (rw [h] at hk; simp [Value.ownBlock] at hk); (rw [h] at hk; obtain rfl := Option.some.inj hk; exact Nat.le_refl _)
  replace hO1 : w1.ownsRow w.heap.size 76 4 v1 L.length (xX9 L) := by simpa using hO1
  clear hO0 hg1 hat1 sa sb
  go_wp2_with (at_builtin; refine xZ7 (by rfl) _ _ _ (by rfl) w.heap.size v1 L M b cb Tryz.underlying35 (by rfl) (by rfl) hO1 sb1 hm2 hs1 ?_)
  intro v2 w2 hO2 hg2 hat2
  have b2 : Below w.heap.size w1 w2 := xX0 hs1 hrow1 hg2
  have hB := b1.trans b2
  replace hO2 : w2.ownsRow w.heap.size 76 4 v2 (L ++ M).length (xX9 (L ++ M)) := by rw [List.length_append]; first | exact hO2 | simpa using hO2
  obtain ⟨a3, c3, rfl, s3⟩ := Sl.of hO2
  have G := xQ2 (GN.out _ hB a3 c3 s3)
  clear GN hO2 hg2 hat2 hO1 hrow1 sb1 s3
  obtain ⟨nn, hnn⟩ : ∃ nn, (L ++ M).length = nn := ⟨_, rfl⟩
  rw [hnn] at G ⊢
  clear hnn
  go_wp2_with fail
  refine G.out.mono ?_
  rintro e w3 h3
  have h4 := h3.from hB
  obtain ⟨a4, c4, R4, rfl, h5⟩ := h4
  clear h3
  go_wp2
  go_ret
  exact ⟨a4, c4, R4, rfl, h5⟩
theorem sub_same (l m : Fo) : nfm (l ++ nfm (fmap (fun r => (-1 : Rat) * r) m)) = nfm (l ++ fmap (fun r => -r) m) := nfm_uniq (xJ8 _) fun x => by rw [nfm_co, xJ1, nfm_co, xJ1, co_scale, co_neg]; grind
set_option maxHeartbeats 2000000 in
set_option maxRecDepth 100000 in
theorem vlSubF_is (a : Option Addr) (ca : Nat) (L : List Mo) (b : Option Addr) (cb : Nat) (M : List Mo) (K : Nat) (w : World) (sa : Sl w a ca L) (sb : Sl w b cb M) (hL : ∀ p ∈ L, p.2.ok w ∧ p.2.n ≤ 1099511627776 ∧ p.2.m ≤ 1099511627776) (hM : ∀ p ∈ M, p.2.ok w) (hm : L.length + M.length ≤ 1048576) (hK : ∀ p ∈ M, 2 + p.2.n + p.2.m ≤ K) (hK2 : 2 ≤ K) (hKm : K ≤ 17179869184)
    (hS : ∀ k x, sz 1099511627776 (co x ((fmap (fun r => (-1 : Rat) * r) (fo M)).take k))) (hA : ∀ k x, sz 1099511627776 (co x ((fo L ++ nfm (fmap (fun r => (-1 : Rat) * r) (fo M))).take k))) :
    Calls Tryz.prog 63 #[.slice a L.length ca, .slice b M.length cb] w (FAns w (nfm (fo L ++ fmap (fun r => -r) (fo M)))) := by
  have GW : ∀ w', Calls Tryz.prog 64 #[.int .i64 (-1)] w' fun e w'' => ∃ p q, e = .returned (.agg #[.bool (ng (-1 : Rat).num), .slice p (ln (am (-1 : Rat).num)) (ln (am (-1 : Rat).num)), .slice q (ln (-1 : Rat).den) (ln (-1 : Rat).den)]) ∧ New w' w'' p (am (-1 : Rat).num) (ln (am (-1 : Rat).num)) ∧ New w' w'' q (-1 : Rat).den (ln (-1 : Rat).den) := fun w' => vqWhole_is (-1) w' (by omega) (by omega)
  have l1 : ln (am (-1 : Rat).num) = 1 := by show ln (am (-1)) = _; rw [show am (-1) = 1 from rfl, ln_one]
  have l2 : ln (-1 : Rat).den = 1 := by show ln 1 = _; exact ln_one
  have hx : ∀ x, sz 1099511627776 (co x (fmap (fun r => (-1 : Rat) * r) (fo M))) := fun x => by have h := hS (fmap (fun r => (-1 : Rat) * r) (fo M)).length x; rwa [List.take_length] at h
  have GS' := fun w' (hb : Below w.heap.size w w') p q (k1 : Seg w' p (am (-1 : Rat).num) (ln (am (-1 : Rat).num))) (k2 : Seg w' q (-1 : Rat).den (ln (-1 : Rat).den)) => vlScaleF_is (RatV.of (-1 : Rat).num (-1 : Rat).den p q) b cb M K w' (sb.lies.later hb) (fun p hp => (hM p hp).later hb) sb.len (by omega) ⟨k1, Nat.le_refl _, by show ln (am (-1 : Rat).num) ≤ _; omega, k2, Nat.le_refl _, by show ln (-1 : Rat).den ≤ _; omega⟩ (fun p hp => by have := hK p hp; show ln (am (-1 : Rat).num) + ln (-1 : Rat).den + p.2.n + p.2.m ≤ K; omega) (by show ln (am (-1 : Rat).num) + ln (-1 : Rat).den ≤ K; omega) hKm (by rw [val_ofR]; exact hS)
  simp only [val_ofR] at GS'
  have hln := xZ9 (fmap (fun r => (-1 : Rat) * r) (fo M))
  rw [fmap_length, xQ8] at hln
  have GA := xQ2 (fun w' (hb : Below w.heap.size w w') a2 c2 (R : List Mo) (s2 : Sl w' a2 c2 R) (he : ∀ p ∈ R, Ent w' p) (hf : fo R = nfm (fmap (fun r => (-1 : Rat) * r) (fo M))) => vlAddF_is a ca L a2 c2 R w' (sa.later hb) s2 (fun p hp => ⟨(hL p hp).1.later hb, (hL p hp).2⟩) (fun p hp => by have h := entS_sz he hf hx p hp; exact ⟨h.ent.ok, h.ln1, h.ln2⟩) (by rw [← xQ8 R, hf]; omega) (by rw [hf]; exact hA))
  have HE := xQ2 (sub_same (fo L) (fo M))
  obtain ⟨TT, hTT⟩ : ∃ TT, nfm (fo L ++ fmap (fun r => -r) (fo M)) = TT := ⟨_, rfl⟩
  rw [hTT] at HE ⊢
  clear hx hS hA
  obtain ⟨m1, hm1⟩ : ∃ m1 : Rat, -1 = m1 := ⟨_, rfl⟩
  rw [hm1] at GW GS' GA HE
  have GS := xQ2 GS'
  replace GW := xQ2 GW
  clear GS' hm1 hTT l1 l2 hln sa sb hL hM hm hK hK2 hKm
  go_enter Tryz.func63, Tryz.ntmps63
  go_wp2_with fail
  refine (GW.out _).mono ?_
  rintro e w1 ⟨p, q, rfl, n1, n2⟩
  have b1 := n1.below
  have k1 := n1.seg
  have k2 := n2.seg
  clear n1 n2
  go_wp2_with fail
  refine (GS.out _ b1 p q k1 k2).mono ?_
  rintro e w2 ⟨a2, c2, R2, rfl, b2, s2, e2, f2⟩
  have hB := b1.trans (b2.mono b1.size)
  go_wp2_with fail
  refine (GA.out _ hB a2 c2 R2 s2 e2 f2).mono ?_
  rintro e w3 h3
  rw [f2, HE.out] at h3
  have h4 := h3.from hB
  obtain ⟨a4, c4, R4, rfl, h5⟩ := h4
  clear h3
  go_wp2
  go_ret
  exact ⟨a4, c4, R4, rfl, h5⟩
theorem sz_add {r t : Rat} {N M : Nat} (h : sz N r) (k : sz M t) : sz (2 * N + 2 * M + 3) (r + t) := by
  have e : co 0 [(0, r), (0, t)] = r + t := by simp [co]; grind
  rw [← e]
  refine (co_sz 0 _).mono ?_
  simp only [wts, wt]
  have := h.1; have := h.2; have := k.1; have := k.2
  omega
theorem nrm_take {m : Fo} {M : Nat} (hm : nrm m) (h : ∀ y, sz M (co y m)) (hM : 1 ≤ M) (k : Nat) (x : Int) : sz M (co x (m.take k)) := by
  have hsub := List.take_sublist k m
  by_cases hx : ∃ p ∈ m.take k, p.1 = x
  · obtain ⟨p, hp, rfl⟩ := hx
    rw [(hm.sub hsub).co_mem hp, ← hm.co_mem (hsub.subset hp)]
    exact h _
  · rw [co_zero fun p hp e => hx ⟨p, hp, e⟩]
    exact sz_zero M hM
theorem fine_two {l m : Fo} {N M : Nat} (hl : ∀ k x, sz N (co x (l.take k))) (hm : nrm m) (h : ∀ y, sz M (co y m)) (hM : 1 ≤ M) (k : Nat) (x : Int) : sz (2 * N + 2 * M + 3) (co x ((l ++ m).take k)) := by
  rw [List.take_append, xJ1]
  exact sz_add (hl k x) (nrm_take hm h hM _ x)
theorem wt_mulE (r t : Rat) : wt (r * t) ≤ wt r + wt t := by
  have e : r * t = Rat.divInt (r.num * t.num) ((r.den : Int) * (t.den : Int)) := by
    rw [← Rat.divInt_mul_divInt, Rat.num_divInt_den, Rat.num_divInt_den]
  have hl := (low_of (Int.mul_ne_zero (by have := r.den_pos; omega) (by have := t.den_pos; omega)) e).le
  have a1 := lt_prod (i := ln (am r.num)) (j := ln (am t.num)) (xJ2 (am r.num)) (xJ2 (am t.num))
  have a2 : am ((r.den : Int) * (t.den : Int)) < BB ^ (ln r.den + ln t.den) := lt_prod (by show r.den < _; exact xJ2 r.den) (by show t.den < _; exact xJ2 t.den)
  have b1 := xQ4 (Nat.lt_of_le_of_lt hl.1 a1)
  have b2 := xQ4 (Nat.lt_of_le_of_lt hl.2 a2)
  unfold wt
  omega
theorem wts_fmapE (c : Rat) : ∀ l : Fo, wts (fmap (fun z => c * z) l) ≤ l.length * wt c + wts l
  | [] => Nat.zero_le _
  | p :: l => by
    have ih := wts_fmapE c l
    have h1 := wt_mulE c p.2
    show wt (c * p.2) + wts (fmap (fun z => c * z) l) ≤ (l.length + 1) * wt c + (wt p.2 + wts l)
    rw [Nat.add_mul]
    omega
theorem wt_neg (r : Rat) : wt (-r) = wt r := by unfold wt; rw [Rat.neg_num, Rat.neg_den, am_neg]
theorem wt_sz {N : Nat} {r : Rat} (h : sz N r) : wt r ≤ 2 * N + 1 := by unfold wt; have := h.1; have := h.2; omega
def cntT : Tb → Nat
  | [] => 0
  | r :: T => r.2.length + 1 + cntT T
def wtsT : Tb → Nat
  | [] => 0
  | r :: T => wts r.2 + wtsT T
theorem wts_acS (f : Fo) : ∀ T : Tb, wts (acS f T) ≤ cntT T * (2 * wts f + 3) + wtsT T
  | [] => Nat.zero_le _
  | r :: T => by
    have ih := wts_acS f T
    have h1 := wt_sz (co_sz r.1 f)
    have h2 := wts_fmapE (co r.1 f) r.2
    have h3 : r.2.length * wt (co r.1 f) ≤ r.2.length * (2 * wts f + 3) := Nat.mul_le_mul_left _ (by omega)
    simp only [acS, cntT, wtsT]
    rw [wts_append, Nat.add_mul, Nat.add_mul, Nat.one_mul]
    show wt (-(co r.1 f)) + wts (fmap (fun z => co r.1 f * z) r.2) + wts (acS f T) ≤ _
    rw [wt_neg]
    omega
theorem acS_length (f : Fo) : ∀ T : Tb, (acS f T).length = cntT T
  | [] => rfl
  | r :: T => by
    simp only [acS, cntT, ac1, List.length_append, List.length_cons, fmap_length, acS_length f T]
theorem cnt_bul {w : World} : ∀ {R : List RowV}, (∀ r ∈ R, r.2.ok w) → 3 * cntT (tb R) ≤ bulT R ∧ wtsT (tb R) ≤ bulT R
  | [], _ => ⟨Nat.zero_le _, Nat.zero_le _⟩
  | r :: R, h => by
    have ih := cnt_bul fun s hs => h s (List.mem_cons_of_mem _ hs)
    have h1 := bul_len r.2.L
    have h2 := bul_bulkL r.2.L
    have h3 := wts_bulk r.2.L (h r List.mem_cons_self).nums
    have h4 : r.2.fo.length = r.2.L.length := xQ8 _
    have h5 : wts r.2.fo = wts (fo r.2.L) := rfl
    show 3 * (r.2.fo.length + 1 + cntT (tb R)) ≤ bul r.2.L + 3 + bulT R ∧ wts r.2.fo + wtsT (tb R) ≤ bul r.2.L + 3 + bulT R
    omega
theorem bulT_take : ∀ (R : List RowV) (k : Nat), bulT (R.take k) ≤ bulT R
  | [], k => by simp
  | r :: R, 0 => Nat.zero_le _
  | r :: R, k + 1 => by have := bulT_take R k; simp only [List.take_succ_cons, bulT]; omega
theorem area {n B b : Nat} (h1 : 3 * n ≤ b) (h2 : b + B ≤ 1048576) : n * (2 * B + 3) ≤ 183255000000 := by
  have e : (3 * n + B) * (3 * n + B) ≤ 1048576 * 1048576 := Nat.mul_le_mul (by omega) (by omega)
  have e2 : 4 * (3 * n * B) ≤ (3 * n + B) * (3 * n + B) := by
    have h1 : 0 ≤ (((3 * n : Nat) : Int) - B) * (((3 * n : Nat) : Int) - B) := by
      rcases Int.le_total 0 (((3 * n : Nat) : Int) - B) with h2 | h2
      · exact Int.mul_nonneg h2 h2
      · exact Int.mul_nonneg_of_nonpos_of_nonpos h2 h2
    have h2 : (((3 * n : Nat) : Int) + B) * (((3 * n : Nat) : Int) + B) = 4 * (((3 * n : Nat) : Int) * B) + (((3 * n : Nat) : Int) - B) * (((3 * n : Nat) : Int) - B) := by grind
    have h3 : (4 * (((3 * n : Nat) : Int) * B)) ≤ (((3 * n : Nat) : Int) + B) * (((3 * n : Nat) : Int) + B) := by omega
    exact_mod_cast h3
  have e3 : n * (2 * B + 3) = 2 * (n * B) + 3 * n := by grind
  have e4 : 4 * (3 * n * B) = 12 * (n * B) := by grind
  omega
theorem ac_fits {w : World} {f : Fo} {R : List RowV} {B : Nat} (hR : ∀ r ∈ R, r.2.ok w) (hb : bulT R + B ≤ 1048576) (hf : wts f ≤ B) (hfl : 7 * f.length ≤ B) (k : Nat) :
    wts (f ++ acS f ((tb R).take k)) ≤ 183260000000 ∧ (nfm (f ++ acS f ((tb R).take k))).length ≤ 349526 := by
  rw [← tb_take]
  have h1 := cnt_bul (R := R.take k) fun r hr => hR r (List.mem_of_mem_take hr)
  have h2 := bulT_take R k
  have h3 := wts_acS f (tb (R.take k))
  have h4 := area (n := cntT (tb (R.take k))) (B := wts f) h1.1 (by omega)
  have h5 := xZ9 (f ++ acS f (tb (R.take k)))
  rw [List.length_append, acS_length] at h5
  rw [wts_append]
  have h6 : 3 * cntT (tb (R.take k)) ≤ bulT (R.take k) := h1.1
  constructor <;> omega
structure Exp (w : World) (f : Fo) (B : Nat) (R : List RowV) : Prop where
  ok : ∀ r ∈ R, r.2.ok w
  b : bulT R + B ≤ 1048576
  wB : wts f ≤ B
  len : 7 * f.length ≤ B
theorem Exp.cs {w : World} {f : Fo} {B : Nat} {R : List RowV} (h : Exp w f B R) (k : Nat) (x : Int) : sz 183260000001 (co x (nfm (f ++ acS f ((tb R).take k)))) := by
  rw [nfm_co]
  exact (co_sz x _).mono (by have := (ac_fits h.ok h.b h.wB h.len k).1; omega)
theorem Exp.csz {w : World} {f : Fo} {B : Nat} {R : List RowV} (h : Exp w f B R) (v : Int) : sz (B + 1) (co v f) := (co_sz v f).mono (by have := h.wB; omega)
def lessF (g : Fo) (v : Int) (c : Rat) : Fo := nfm (g ++ fmap (fun z => -z) [(v, c)])
theorem Exp.sub {w : World} {f : Fo} {B : Nat} {R : List RowV} (h : Exp w f B R) (k : Nat) (v : Int) (j : Nat) (x : Int) :
    sz 1099511627776 (co x ((nfm (f ++ acS f ((tb R).take k)) ++ nfm (fmap (fun z => (-1 : Rat) * z) [(v, co v f)])).take j)) := by
  have hb := h.b
  refine (fine_two (fun i y => nrm_take (xJ8 _) (h.cs k) (by omega) i y) (xJ8 _) (M := B + 3) (fun y => ?_) (by omega) j x).mono (by omega)
  rw [nfm_co, co_scale]
  have h1 : sz 1 (-1 : Rat) := ⟨by show ln (am (-1)) ≤ 1; rw [show am (-1) = 1 from rfl, ln_one]; exact Nat.le_refl _, by show ln 1 ≤ 1; rw [ln_one]; exact Nat.le_refl _⟩
  have h2 : sz (B + 2) (co y [(v, co v f)]) := by
    simp only [co]
    split
    · rw [Rat.add_zero]; exact (h.csz v).mono (by omega)
    · rw [Rat.add_zero]; exact ⟨by show ln (am 0) ≤ _; rw [show am 0 = 0 from rfl]; exact Nat.le_trans (xQ4 (n := 0) (by simp)) (Nat.zero_le _), by show ln 1 ≤ _; rw [ln_one]; omega⟩
  exact (sz_mul h1 h2).mono (by omega)
theorem Exp.less {w : World} {f : Fo} {B : Nat} {R : List RowV} (h : Exp w f B R) (k : Nat) (v : Int) (x : Int) : sz 183270000000 (co x (lessF (nfm (f ++ acS f ((tb R).take k))) v (co v f))) := by
  have e : co x (lessF (nfm (f ++ acS f ((tb R).take k))) v (co v f)) = co x ((f ++ acS f ((tb R).take k)) ++ fmap (fun z => -z) [(v, co v f)]) := by
    unfold lessF
    rw [nfm_co, xJ1, nfm_co, ← xJ1]
  rw [e]
  refine (co_sz x _).mono ?_
  rw [wts_append]
  have h1 := (ac_fits h.ok h.b h.wB h.len k).1
  have h2 := wt_sz (h.csz v)
  have h3 : wts (fmap (fun z => -z) [(v, co v f)]) = wt (-(co v f)) + 0 := rfl
  have hb := h.b
  rw [h3, wt_neg]
  omega
theorem Exp.scale {w : World} {f : Fo} {B : Nat} {R : List RowV} (h : Exp w f B R) {r : RowV} (hr : r ∈ R) (v : Int) (x : Int) : sz 2097155 (co x (nfm (fmap (fun z => co v f * z) r.2.fo))) := by
  rw [nfm_co, co_scale]
  have h1 := wts_bulk r.2.L (h.ok r hr).nums
  have h2 := bulT_mem hr
  have h3 := bul_bulkL r.2.L
  have h4 : wts r.2.fo = wts (fo r.2.L) := rfl
  have hb := h.b
  exact (sz_mul (h.csz v) (co_sz x r.2.fo)).mono (by omega)
theorem Exp.add {w : World} {f : Fo} {B : Nat} {R : List RowV} (h : Exp w f B R) (k : Nat) {r : RowV} (hr : r ∈ R) (v : Int) (j : Nat) (x : Int) :
    sz 1099511627776 (co x ((lessF (nfm (f ++ acS f ((tb R).take k))) v (co v f) ++ nfm (fmap (fun z => co v f * z) r.2.fo)).take j)) :=
  (fine_two (fun i y => nrm_take (xJ8 _) (h.less k v) (by omega) i y) (xJ8 _) (fun y => h.scale hr v y) (by omega) j x).mono (by omega)
structure RxI (w1 : World) (f : Fo) (T : Tb) (k : Nat) (vo : Value) (wr : World) : Prop where
  bel : Below w1.heap.size w1 wr
  form : ∃ (a : Option Addr) (c : Nat) (L : List Mo), vo = .slice a L.length c ∧ Sl wr a c L ∧ Ents wr L ∧ fo L = nfm (f ++ acS f (T.take k))
theorem mono_at {w : World} {b : Nat} {x : Int} {P : RatV} {t : TypeId} (h : w.heap[b]? = some (.cells #[.int .i64 x, .bool P.s, .slice P.a P.n P.c, .slice P.b P.m P.e] t (0, 0))) : Sl w (some ⟨b, 0, none⟩) 1 [(x, P)] :=
  ⟨fun _ => by
    refine ⟨b, 0, rfl, (Array.getElem?_eq_some_iff.1 h).1, fun i p hi => ?_⟩
    match i with
    | 0 =>
      simp only [List.getElem?_cons_zero, Option.some.injEq] at hi
      subst hi
      refine ⟨?_, ?_, ?_, ?_⟩ <;> simp [World.cell?, h]
    | i + 1 => simp at hi, Nat.le_refl _, fun h => (by cases h)⟩
set_option maxHeartbeats 16000000 in
set_option maxRecDepth 100000 in
theorem rexpress_is (V : Int) (a : Option Addr) (c : Nat) (R : List RowV) (X : FV) (w : World) (hT : TIn w a R) (hc : R.length ≤ c) (hX : X.sm w) (hb : bulT R + bul X.L ≤ 1048576) :
    Calls Tryz.prog 61 #[.agg #[.int .i64 V, .slice a R.length c], X.val] w (FAns w (nfm (X.fo ++ acS X.fo (tb R)))) := by
  obtain ⟨TQ, hTQ⟩ : ∃ TQ, FAns w (nfm (X.fo ++ acS X.fo (tb R))) = TQ := ⟨_, rfl⟩
  rw [hTQ]
  replace hTQ := xQ2 hTQ
  have hlen : 3 * R.length ≤ 1048576 := by have := bulT_len R; omega
  have HEx := xQ2 (show Exp w X.fo (bul X.L) R from ⟨hT.forms, hb, by have h1 := wts_bulk X.L hX.ok.nums; have h2 := bul_bulkL X.L; show wts (fo X.L) ≤ _; omega, by have h1 := bul_len X.L; have h2 : X.fo.length = X.L.length := xQ8 _; omega⟩)
  have GN := xQ2 (fun w' (hb : Below w.heap.size w w') => rNormF_is X w' (hX.later hb))
  have GC := xQ2 (fun v w' (hb9 : Below w.heap.size w w') => show Calls Tryz.prog 60 #[X.val, .int .i64 v] w' (FrAns w' (co v X.fo)) from vlCoef_is X.a X.c X.L v w' ((hX.later hb9).ok.lies) (fun p hp => ⟨(hX.later hb9).ok.nums p hp, by have := bul_mem hp; omega, by have := bul_mem hp; omega⟩) hX.ok.len hX.len (sm_wts hX))
  obtain ⟨f, hf⟩ : ∃ f, X.fo = f := ⟨_, rfl⟩
  rw [hf] at hTQ GN GC HEx
  clear hf
  obtain ⟨B, hB9⟩ : ∃ B, bul X.L = B := ⟨_, rfl⟩
  rw [hB9] at HEx hb
  clear hB9 hX
  obtain ⟨Xv, hXv⟩ : ∃ v, X.val = v := ⟨_, rfl⟩
  rw [hXv] at GN GC ⊢
  clear hXv
  have bA := xQ1 (w := w) (.cells #[.int .i64 V, .slice a R.length c] 24)
  have m1 : (w.alloc (.cells #[.int .i64 V, .slice a R.length c] 24)).cell? ⟨w.heap.size, 1, none⟩ = some (.slice a R.length c) := by go_simp
  go_enter Tryz.func61, Tryz.ntmps61
  go_wp2_with fail
  obtain ⟨wA, hwA⟩ : ∃ wA, w.alloc (.cells #[.int .i64 V, .slice a R.length c] 24) = wA := ⟨_, rfl⟩
  rw [hwA] at bA m1 ⊢
  clear hwA
  refine (GN.out _ bA).mono ?_
  rintro e w1 ⟨a0, c0, L0, rfl, b1, s0, E0, f0⟩
  clear GN
  replace m1 := xQ0 b1 m1
  have hB1 := bA.trans (b1.mono bA.size)
  clear bA b1
  have I0 : RxI w1 f (tb R) 0 (.slice a0 L0.length c0) w1 := ⟨Below.refl _ _, a0, c0, L0, rfl, s0, E0, by rw [f0]; simp [acS]⟩
  clear s0 E0 f0
  have HT := xQ2 hT
  clear hT
  go_wp2_with fail
  go_loopw [5, 6] (fun vo vi wr => ∃ k : Nat, k ≤ R.length ∧ vi = .int .i64 k ∧ RxI w1 f (tb R) k vo wr) (fun _ vi _ => R.length - (intOf vi).toNat)
  case atStart => exact ⟨0, Nat.zero_le _, rfl, I0⟩
  case round =>
    clear I0
    obtain ⟨k, hk, rfl, hI⟩ := hrel
    have hB := hI.bel
    have hBw := hB1.trans (hB.mono hB1.size)
    have n1 := xQ0 hB m1
    obtain ⟨a2, c2, L, rfl, sL, EL, fL⟩ := hI.form
    clear hI
    by_cases hlt : k < R.length
    · obtain ⟨r, hr⟩ : ∃ r, R[k]? = some r := ⟨R[k], List.getElem?_eq_getElem hlt⟩
      have hrm := List.mem_of_getElem? hr
      obtain ⟨bb, off, rfl, hbb, hcell⟩ := HT.out.at_ (by intro e; rw [e] at hlt; simp at hlt)
      obtain ⟨d0, d1⟩ := hcell k r hr
      replace d0 := xQ0 hBw d0
      replace d1 := xQ0 hBw d1
      have hFr := (HT.out.forms r hrm).later hBw
      have hts : (tb R).take (k + 1) = (tb R).take k ++ [(r.1, r.2.fo)] := take_snoc (tb_at hr)
      have hbr := bulT_mem hrm
      have hbl := bul_len r.2.L
      have hlL : L.length ≤ 349526 := by have h := congrArg List.length fL; rw [xQ8] at h; have := (ac_fits HEx.out.ok HEx.out.b HEx.out.wB HEx.out.len k).2; omega
      have hEL := entS_sz EL fL (fun x => by have h := HEx.out.cs k x; rw [nfm_co] at h; exact h.mono (by omega))
      have GSc := xQ2 (fun (C : RatV) w' (hb9 : Below wr.heap.size wr w') (hC : C.ok w') (hv : C.val = co r.1 f) (hn : C.n ≤ B + 1) (hm : C.m ≤ B + 1) => show Calls Tryz.prog 91 #[.agg #[.bool C.s, .slice C.a C.n C.c, .slice C.b C.m C.e], r.2.val] w' (FAns w' (nfm (fmap (fun z => co r.1 f * z) r.2.fo))) from by
          have h := vlScaleF_is C r.2.a r.2.c r.2.L 8388608 w' (hFr.later hb9).lies (hFr.later hb9).nums hFr.len (by omega) hC (fun p hp => by have := bul_mem hp; omega) (by omega) (by omega) (fun j x => by
              have h2 : fine (fmap (fun z => co r.1 f * z) r.2.fo) := fine_scale (HEx.out.csz r.1) (by have h1 := wts_bulk r.2.L hFr.nums; have h3 := bul_bulkL r.2.L; have h4 : wts r.2.fo = wts (fo r.2.L) := rfl; omega)
              have h3 := h2 0 j x; rw [List.drop_zero] at h3; rw [hv]; exact h3)
          rw [hv] at h; exact h)
      have GSu := xQ2 (fun b2 (C : RatV) w' (hb9 : Below wr.heap.size wr w') (hM : Sl w' (some ⟨b2, 0, none⟩) 1 [(r.1, C)]) (hC : C.ok w') (hv : C.val = co r.1 f) (hn : C.n ≤ B + 1) (hm : C.m ≤ B + 1) => show Calls Tryz.prog 63 #[.slice a2 L.length c2, .slice (some ⟨b2, 0, none⟩) 1 1] w' (FAns w' (lessF (nfm (f ++ acS f ((tb R).take k))) r.1 (co r.1 f))) from by
          have e : fo [(r.1, C)] = [(r.1, co r.1 f)] := by show [(r.1, C.val)] = _; rw [hv]
          have h := vlSubF_is a2 c2 L (some ⟨b2, 0, none⟩) 1 [(r.1, C)] 8388608 w' (sL.later hb9) hM (fun p hp => ⟨(hEL p hp).ent.ok.later hb9, (hEL p hp).ln1, (hEL p hp).ln2⟩) (fun p hp => by obtain rfl := List.mem_singleton.1 hp; exact hC) (by simp only [List.length_cons, List.length_nil]; omega) (fun p hp => by obtain rfl := List.mem_singleton.1 hp; show 2 + C.n + C.m ≤ _; omega) (by omega) (by omega) (fun j x => by
              have h2 : fine (fmap (fun z => (-1 : Rat) * z) [(r.1, co r.1 f)]) := fine_scale (N := 1) ⟨by show ln (am (-1)) ≤ 1; rw [show am (-1) = 1 from rfl, ln_one]; exact Nat.le_refl _, by show ln 1 ≤ 1; rw [ln_one]; exact Nat.le_refl _⟩ (by have h5 := wt_sz (HEx.out.csz r.1); show 1 + (wt (co r.1 f) + 0 + 1) ≤ _; omega)
              have h3 := h2 0 j x; rw [List.drop_zero] at h3; rw [e]; exact h3) (fun j x => by rw [fL, e]; exact HEx.out.sub k r.1 j x)
          rw [e, fL] at h; exact h)
      have GAd := xQ2 (fun a4 c4 (M : List Mo) a5 c5 (N : List Mo) w' (sM : Sl w' a4 c4 M) (EM : Ents w' M) (fM : fo M = lessF (nfm (f ++ acS f ((tb R).take k))) r.1 (co r.1 f)) (sN : Sl w' a5 c5 N) (EN : Ents w' N) (fN : fo N = nfm (fmap (fun z => co r.1 f * z) r.2.fo)) => show Calls Tryz.prog 90 #[.slice a4 M.length c4, .slice a5 N.length c5] w' (FAns w' (nfm (f ++ acS f ((tb R).take (k + 1))))) from by
          have e1 := entS_sz EM (l := nfm (f ++ acS f ((tb R).take k)) ++ fmap (fun z => -z) [(r.1, co r.1 f)]) fM (fun x => by have h := HEx.out.less k r.1 x; unfold lessF at h; rw [nfm_co] at h; exact h.mono (by omega))
          have e2 := entS_sz EN fN (fun x => by have h := HEx.out.scale hrm r.1 x; rw [nfm_co] at h; exact h.mono (by omega))
          have l1 : M.length ≤ 349527 := by have h := congrArg List.length fM; rw [xQ8] at h; unfold lessF at h; have h2 := xZ9 (nfm (f ++ acS f ((tb R).take k)) ++ fmap (fun z => -z) [(r.1, co r.1 f)]); rw [List.length_append, fmap_length] at h2; have h3 := (ac_fits HEx.out.ok HEx.out.b HEx.out.wB HEx.out.len k).2; simp only [List.length_cons, List.length_nil] at h2; omega
          have l2 : N.length ≤ 149797 := by have h := congrArg List.length fN; rw [xQ8] at h; have h2 := xZ9 (fmap (fun z => co r.1 f * z) r.2.fo); rw [fmap_length] at h2; have h3 : r.2.fo.length = r.2.L.length := xQ8 _; omega
          have h := vlAddF_is a4 c4 M a5 c5 N w' sM sN (fun p hp => ⟨(e1 p hp).ent.ok, (e1 p hp).ln1, (e1 p hp).ln2⟩) (fun p hp => ⟨(e2 p hp).ent.ok, (e2 p hp).ln1, (e2 p hp).ln2⟩) (by omega) (fun j x => by rw [fM, fN]; exact HEx.out.add k hrm r.1 j x)
          rw [fM, fN] at h
          have h2 := acS_step f (nfm (f ++ acS f ((tb R).take k))) ((tb R).take k) (r.1, r.2.fo) rfl
          simp only at h2; unfold lessF at h; rw [h2, ← hts] at h; exact h)
      have Hcs := xQ2 (HEx.out.csz r.1)
      obtain ⟨v, Y⟩ := r
      obtain ⟨Ya, Yc, YL⟩ := Y
      unfold FV.val at d1 GSc
      simp only at d0 d1 GSc GSu GAd Hcs
      obtain ⟨q, hq⟩ : ∃ q, co v f = q := ⟨_, rfl⟩
      have GC2 := xQ2 (fun w' (hb9 : Below w.heap.size w w') => GC.out v w' hb9)
      rw [hq] at GC2 GSc GSu Hcs
      try rw [hq] at GAd
      clear hq
      have j0 : (0 : Int) ≤ (k : Int) := by omega
      have j1 : (k : Int) < (R.length : Int) := by omega
      clear hcell hr hrm hFr hts hbr hbl hEL sL EL fL
      go_wp2_with fail
      refine (GC2.out _ hBw).mono ?_
      rintro e w2 ⟨p, p', rfl, b2, sp, sq, _, _⟩
      clear GC2
      obtain ⟨C, hC⟩ : ∃ C, RatV.of q.num q.den p p' = C := ⟨_, rfl⟩
      have hCo : C.ok w2 := by subst hC; exact ⟨sp, Nat.le_refl _, by show ln (am q.num) ≤ _; have := Hcs.out.1; omega, sq, Nat.le_refl _, by show ln q.den ≤ _; have := Hcs.out.2; omega⟩
      have hCv : C.val = q ∧ C.n ≤ B + 1 ∧ C.m ≤ B + 1 := by subst hC; exact ⟨val_ofR q p p', Hcs.out.1, Hcs.out.2⟩
      have hCe : ng q.num = C.s ∧ p = C.a ∧ ln (am q.num) = C.n ∧ ln (am q.num) = C.c ∧ p' = C.b ∧ ln q.den = C.m ∧ ln q.den = C.e := by subst hC; exact ⟨rfl, rfl, rfl, rfl, rfl, rfl, rfl⟩
      obtain ⟨e1, e2, e3, e4, e5, e6, e7⟩ := hCe
      have eV : (Value.agg #[.bool (ng q.num), .slice p (ln (am q.num)) (ln (am q.num)), .slice p' (ln q.den) (ln q.den)]) = .agg #[.bool C.s, .slice C.a C.n C.c, .slice C.b C.m C.e] := by subst hC; rfl
      rw [eV]
      clear eV e1 e2 e3 e4 e5 e6 e7 hC sp sq
      replace n1 := xQ0 b2 n1
      replace d0 := xQ0 b2 d0
      replace d1 := xQ0 b2 d1
      have bT : Below wr.heap.size wr w2 := b2
      have bX := xQ1 (w := w2) (.cells #[.bool C.s, .slice C.a C.n C.c, .slice C.b C.m C.e] 74)
      have y0 : (w2.alloc (.cells #[.bool C.s, .slice C.a C.n C.c, .slice C.b C.m C.e] 74)).cell? ⟨w2.heap.size, 0, none⟩ = some (.bool C.s) := by go_simp
      have y1 : (w2.alloc (.cells #[.bool C.s, .slice C.a C.n C.c, .slice C.b C.m C.e] 74)).cell? ⟨w2.heap.size, 1, none⟩ = some (.slice C.a C.n C.c) := by go_simp
      have y2 : (w2.alloc (.cells #[.bool C.s, .slice C.a C.n C.c, .slice C.b C.m C.e] 74)).cell? ⟨w2.heap.size, 2, none⟩ = some (.slice C.b C.m C.e) := by go_simp
      obtain ⟨wX, hwX⟩ : ∃ wX, w2.alloc (.cells #[.bool C.s, .slice C.a C.n C.c, .slice C.b C.m C.e] 74) = wX := ⟨_, rfl⟩
      rw [hwX] at bX y0 y1 y2
      replace n1 := xQ0 bX n1
      replace d0 := xQ0 bX d0
      replace d1 := xQ0 bX d1
      replace hCo := hCo.later bX
      replace bT := bT.trans (bX.mono bT.size)
      clear bX
      go_wp2_with (rw [hwX])
      have hM := mono_at (x := v) (P := C) (new7 wX #[.int .i64 v, .bool C.s, .slice C.a C.n C.c, .slice C.b C.m C.e] 76)
      have bY := xQ1 (w := wX) (.cells #[.int .i64 v, .bool C.s, .slice C.a C.n C.c, .slice C.b C.m C.e] 76)
      obtain ⟨b3, hb3⟩ : ∃ b3, wX.heap.size = b3 := ⟨_, rfl⟩
      rw [hb3] at hM ⊢
      obtain ⟨wY, hwY⟩ : ∃ wY, wX.alloc (.cells #[.int .i64 v, .bool C.s, .slice C.a C.n C.c, .slice C.b C.m C.e] 76) = wY := ⟨_, rfl⟩
      rw [hwY] at hM bY ⊢
      clear hwY hwX hb3
      replace n1 := xQ0 bY n1
      replace d0 := xQ0 bY d0
      replace d1 := xQ0 bY d1
      replace y0 := xQ0 bY y0
      replace y1 := xQ0 bY y1
      replace y2 := xQ0 bY y2
      replace hCo := hCo.later bY
      replace bT := bT.trans (bY.mono bT.size)
      clear bY
      refine (GSu.out b3 C wY bT hM hCo hCv.1 hCv.2.1 hCv.2.2).mono ?_
      rintro e w4 ⟨a4, c4, M, rfl, b4, sM, EM, fM⟩
      clear GSu hM
      replace n1 := xQ0 b4 n1
      replace d0 := xQ0 b4 d0
      replace d1 := xQ0 b4 d1
      replace y0 := xQ0 b4 y0
      replace y1 := xQ0 b4 y1
      replace y2 := xQ0 b4 y2
      replace hCo := hCo.later b4
      replace bT := bT.trans (b4.mono bT.size)
      clear b4
      have EM2 : Ents w4 M := EM
      clear EM
      go_wp2_with fail
      have bD : Below w4.heap.size w4 w4.drew := (Below.refl _ _).drew
      have kn1 := xQ0 bD n1
      have kd1 := xQ0 bD d1
      have ky0 := xQ0 bD y0
      have ky1 := xQ0 bD y1
      have ky2 := xQ0 bD y2
      replace bT := bT.trans (bD.mono bT.size)
      replace hCo := hCo.later bD
      replace sM := sM.later bD
      replace EM2 := EM2.later bD
      refine wp_region_held_drew (S := fun w' => w'.cell? ⟨w.heap.size, 1, none⟩ = some (.slice (some ⟨bb, off, none⟩) R.length c) ∧ w'.cell? ⟨bb, off + k * 2 + 1, none⟩ = some (.slice Ya YL.length Yc) ∧ w'.cell? ⟨w2.heap.size, 0, none⟩ = some (.bool C.s) ∧ w'.cell? ⟨w2.heap.size, 1, none⟩ = some (.slice C.a C.n C.c) ∧ w'.cell? ⟨w2.heap.size, 2, none⟩ = some (.slice C.b C.m C.e)) (by kernel_rfl) ⟨kn1, kd1, ky0, ky1, ky2⟩ (fun hHeld => ?_)
      clear kn1 kd1 ky0 ky1 ky2
      generalize w4.drew = u4 at bD hCo sM EM2 bT hHeld ⊢
      clear bD n1 d1 y0 y1 y2
      refine tk 0 (v := ?_) rfl (Or.inl ⟨by rfl, ?_⟩) ?_
      rotate_left
      · intro w9 hSw
        go_simp
        try with_reducible rfl
      simp only [pP, pN, pS, pZ, pC]
      refine tk 1 (v := ?_) rfl (Or.inl ⟨by rfl, ?_⟩) ?_
      rotate_left
      · intro w9 hSw
        go_simp
        try with_reducible rfl
      simp only [pP, pN, pS, pZ, pC]
      refine tk 2 (v := ?_) rfl (Or.inl ⟨by rfl, ?_⟩) ?_
      rotate_left
      · intro w9 hSw
        go_simp
        try with_reducible rfl
      simp only [pP, pN, pS, pZ, pC]
      refine tk 3 (v := ?_) rfl (Or.inl ⟨by rfl, ?_⟩) ?_
      rotate_left
      · intro w9 hSw
        go_simp
        try with_reducible rfl
      simp only [pP, pN, pS, pZ, pC]
      refine tk 4 (v := ?_) rfl (Or.inl ⟨by rfl, ?_⟩) ?_
      rotate_left
      · intro w9 hSw
        go_simp
        try with_reducible rfl
      simp only [pP, pN, pS, pZ, pC]
      refine tk 5 (v := ?_) rfl (Or.inl ⟨by rfl, ?_⟩) ?_
      rotate_left
      · intro w9 hSw
        go_simp
        try with_reducible rfl
      simp only [pP, pN, pS, pZ, pC]
      refine tk 6 (v := ?_) rfl (Or.inl ⟨by rfl, ?_⟩) ?_
      rotate_left
      · intro w9 hSw
        go_simp
        try with_reducible rfl
      simp only [pP, pN, pS, pZ, pC]
      refine tk 7 (v := ?_) rfl (Or.inl ⟨by rfl, ?_⟩) ?_
      rotate_left
      · intro w9 hSw
        go_simp
        try with_reducible rfl
      simp only [pP, pN, pS, pZ, pC]
      refine wpAnyH_ready (rs := [8]) (by kernel_rfl) (by simp) ?_
      refine xX1 rfl (fun KK hKK => ?_)
      go_simp
      refine (GSc.out C _ bT hCo hCv.1 hCv.2.1 hCv.2.2).mono ?_
      rintro e u5 ⟨a5, c5, N5, rfl, b5, sN, EN, fN⟩
      have bC := b5
      replace bT := bT.trans (bC.mono bT.size)
      replace hCo := hCo.later bC
      replace sM := sM.later bC
      replace EM2 := EM2.later bC
      replace hHeld := (⟨xQ0 bC hHeld.1, xQ0 bC hHeld.2.1, xQ0 bC hHeld.2.2.1, xQ0 bC hHeld.2.2.2.1, xQ0 bC hHeld.2.2.2.2⟩ : _ ∧ _ ∧ _ ∧ _ ∧ _)
      clear bC
      go_wp2_with fail
      have EN2 : Ents u5 N5 := EN
      clear b5 GSc EN hCo
      refine hKK.out _ _ hHeld ?_
      clear hHeld
      intro hHeld
      clear hKK KK
      try simp only [pP, pN, pS, pZ, pC]
      refine wpAnyH_ready (rs := [9]) (by kernel_rfl) (by simp) ?_
      refine xX1 rfl (fun KK hKK => ?_)
      go_simp
      refine (GAd.out a4 c4 M a5 c5 N5 _ sM EM2 fM sN EN2 fN).mono ?_
      rintro e u6 ⟨a6, c6, Q, rfl, b6, sQ, EQ, fQ⟩
      have bC := b6
      replace bT := bT.trans (bC.mono bT.size)
      replace sM := sM.later bC
      replace EM2 := EM2.later bC
      replace sN := sN.later bC
      replace EN2 := EN2.later bC
      replace hHeld := (⟨xQ0 bC hHeld.1, xQ0 bC hHeld.2.1, xQ0 bC hHeld.2.2.1, xQ0 bC hHeld.2.2.2.1, xQ0 bC hHeld.2.2.2.2⟩ : _ ∧ _ ∧ _ ∧ _ ∧ _)
      clear bC
      go_wp2_with fail
      have EQ2 : Ents u6 Q := EQ
      clear b6 GAd EQ sM EM2 sN EN2 fM fN
      refine hKK.out _ _ hHeld ?_
      clear hHeld
      intro hHeld
      clear hKK KK
      try simp only [pP, pN, pS, pZ, pC]
      refine tk 10 (v := ?_) rfl (Or.inl ⟨by rfl, ?_⟩) ?_
      rotate_left
      · intro w9 hSw
        go_simp
        try with_reducible rfl
      simp only [pP, pN, pS, pZ, pC]
      refine wpAnyH_done (by kernel_rfl) ?_ _
      go_wp2
      go_roundw
      case rel => exact ⟨k + 1, by omega, by go_num, hB.trans (bT.mono hB.size), a6, c6, Q, rfl, sQ, EQ2, fQ⟩
      case measure => simp only [intOf]; omega
    · obtain rfl : k = R.length := by omega
      have j0 : ¬ (R.length : Int) < (R.length : Int) := by omega
      have eT : (tb R).take R.length = tb R := by rw [← tb_length R, List.take_length]
      rw [eT] at fL
      have HX := xQ2 (show FAns w (nfm (f ++ acS f (tb R))) (.returned (.slice a2 L.length c2)) wr from ⟨a2, c2, L, rfl, hBw, sL, EL, fL⟩)
      rw [hTQ.out] at HX
      clear sL EL fL HEx GC HT
      go_wp2
      first | exact HX.out | (go_ret; exact HX.out)
def GrA (w : World) (V : Int) (T : Tb) (n : Nat) (e : Ending) (w' : World) : Prop :=
  ((¬ mayBe V T ∧ e = .returned (.tuple #[noTb, .int .i64 0, .int .i64 70])) ∨ (mayBe V T ∧ V = 65536 ∧ e = .returned (.tuple #[noTb, .int .i64 0, .int .i64 2]))) ∧ Below w.heap.size w w' ∨
  (mayBe V T ∧ V ≠ 65536 ∧ ∃ v S, e = .returned (.tuple #[v, .int .i64 V, .int .i64 0]) ∧ TbA w (V + 1) S v w' ∧ NrmT T (tb S) ∧ S.length ≤ n)
set_option maxHeartbeats 16000000 in
set_option maxRecDepth 100000 in
theorem pGrow_is (V : Int) (a : Option Addr) (c : Nat) (R : List RowV) (w : World) (hT : TIn w a R) (hc : R.length ≤ c) (hbu : bulT R ≤ 1048576) (hw : ∀ r ∈ R, wfo r.2.fo) :
    Calls Tryz.prog 18 #[.agg #[.int .i64 V, .slice a R.length c]] w (GrA w V (tb R) R.length) := by
  obtain ⟨TQ, hTQ⟩ : ∃ TQ, GrA w V (tb R) R.length = TQ := ⟨_, rfl⟩
  rw [hTQ]
  replace hTQ := xQ2 hTQ
  have hlen : 3 * R.length ≤ 1048576 := by have := bulT_len R; omega
  have GR := xQ2 (fun w' (hb : Below w.heap.size w w') => tabRead_is V a c R w' (hT.later hb) hc hbu hw)
  clear hT hw
  have b1 := xQ1 (w := w) (.cells #[.int .i64 V, .slice a R.length c] 24)
  have b2 := xQ1 (w := w.alloc (.cells #[.int .i64 V, .slice a R.length c] 24)) (.cells #[.int .i64 0, .slice none 0 0] 24)
  have m0 : ((w.alloc (.cells #[.int .i64 V, .slice a R.length c] 24)).alloc (.cells #[.int .i64 0, .slice none 0 0] 24)).cell? ⟨w.heap.size, 0, none⟩ = some (.int .i64 V) := by go_simp
  have m1 : ((w.alloc (.cells #[.int .i64 V, .slice a R.length c] 24)).alloc (.cells #[.int .i64 0, .slice none 0 0] 24)).cell? ⟨w.heap.size, 1, none⟩ = some (.slice a R.length c) := by go_simp
  have k2 : Bk2 ((w.alloc (.cells #[.int .i64 V, .slice a R.length c] 24)).alloc (.cells #[.int .i64 0, .slice none 0 0] 24)) (w.heap.size + 1) 0 none 0 0 := by have := Bk2.new (w.alloc (.cells #[.int .i64 V, .slice a R.length c] 24)) 0 none 0 0 24; simpa using this
  have hsz : ((w.alloc (.cells #[.int .i64 V, .slice a R.length c] 24)).alloc (.cells #[.int .i64 0, .slice none 0 0] 24)).heap.size = w.heap.size + 1 + 1 := by simp
  have hBw := b1.trans (b2.mono b1.size)
  clear b1 b2
  go_enter Tryz.func18, Tryz.ntmps18
  go_wp2_with fail
  obtain ⟨wA, hwA⟩ : ∃ wA, ((w.alloc (.cells #[.int .i64 V, .slice a R.length c] 24)).alloc (.cells #[.int .i64 0, .slice none 0 0] 24)) = wA := ⟨_, rfl⟩
  rw [hwA] at m0 m1 hBw k2 hsz ⊢
  clear hwA
  obtain ⟨rb, hrb⟩ : ∃ rb, w.heap.size + 1 = rb := ⟨_, rfl⟩
  rw [hrb] at k2 hsz
  try rw [hrb]
  have HQ := xQ2 (show w.heap.size ≤ rb ∧ rb < wA.heap.size ∧ w.heap.size ≠ rb by omega)
  clear hrb hsz
  refine (GR.out _ hBw).mono ?_
  rintro e w1 ⟨b1, ⟨hmb, rfl⟩ | ⟨hmb, b, g, rfl, hbb, hM, hRF⟩⟩
  · skip
    replace m0 := xQ0 b1 m0
    replace m1 := xQ0 b1 m1
    replace k2 := k2.later b1
    replace hBw := hBw.trans (b1.mono hBw.size)
    have hs1 := b1.size
    clear b1 GR
    have z0 := k2.cell0
    have z1 := k2.cell1
    have fz := fun o => k2.row.frozen o
    have HX := xQ2 (show ∀ w', Below w.heap.size w w' → GrA w V (tb R) R.length (.returned (.tuple #[noTb, .int .i64 0, .int .i64 70])) w' from fun w' hb => Or.inl ⟨Or.inl ⟨hmb, rfl⟩, hb⟩)
    rw [hTQ.out] at HX
    clear hmb k2
    go_wp2
    first | exact HX.out _ (by first | exact hBw | (refine Below.setCell (Below.setCell hBw ?_ _) ?_ _ <;> exact HQ.out.1)) | (refine bodyPost_ret (v := .tuple #[noTb, .int .i64 0, .int .i64 70]) (by rw [xZ3 rfl]; go_simp) rfl ?_; exact HX.out _ (by first | exact hBw | (refine Below.setCell (Below.setCell hBw ?_ _) ?_ _ <;> exact HQ.out.1)))
  · skip
    replace m0 := xQ0 b1 m0
    replace m1 := xQ0 b1 m1
    replace k2 := k2.later b1
    replace hBw := hBw.trans (b1.mono hBw.size)
    have hs1 := b1.size
    clear b1 GR
    have HMB := xQ2 hmb
    have HR3 := xQ2 hRF
    have HMP := xQ2 hM
    have hV := xQ2 (show 0 ≤ V ∧ V ≤ 65536 from ⟨hmb.lo, hmb.hi⟩)
    clear hmb hRF hM
    by_cases hv : V = 65536
    · have z0 := k2.cell0
      have z1 := k2.cell1
      have fz := fun o => k2.row.frozen o
      have HVV := xQ2 hv
      rw [hv] at m0
      have HX := xQ2 (show ∀ w', Below w.heap.size w w' → GrA w V (tb R) R.length (.returned (.tuple #[noTb, .int .i64 0, .int .i64 2])) w' from fun w' hb => Or.inl ⟨Or.inr ⟨HMB.out, HVV.out, rfl⟩, hb⟩)
      rw [hTQ.out] at HX
      clear hv k2 HR3 HMP
      go_wp2
      first | exact HX.out _ (by first | exact hBw | (refine Below.setCell (Below.setCell hBw ?_ _) ?_ _ <;> exact HQ.out.1)) | (refine bodyPost_ret (v := .tuple #[noTb, .int .i64 0, .int .i64 2]) (by rw [xZ3 rfl]; go_simp) rfl ?_; exact HX.out _ (by first | exact hBw | (refine Below.setCell (Below.setCell hBw ?_ _) ?_ _ <;> exact HQ.out.1)))
    · have HVN := xQ2 hv
      have hVs := hV.out
      have hq3 : rb < w1.heap.size := k2.lt
      go_wp2_with fail
      have bT : Below w1.heap.size w1 w1 := Below.refl _ _
      have GU := xQ2 (fun w' (hb : Below w1.heap.size w1 w') => (told_is (V + 1) b R.length g w' (HMP.out.later hb) (by omega) (HR3.out.later hb).nk))
      have hwr : IntKind.i64.wrap (V + 1) = V + 1 := by rw [IntKind.wrap_i64]; omega
      have bD : Below w1.heap.size w1 w1.drew := (Below.refl _ _).drew
      have km0 := xQ0 bD m0
      replace hBw := hBw.trans (bD.mono hBw.size)
      replace bT := bT.trans (bD.mono bT.size)
      replace k2 := k2.later bD
      refine wp_region_held_drew (S := fun w' => w'.cell? ⟨w.heap.size, 0, none⟩ = some (.int .i64 V)) (by kernel_rfl) km0 (fun hHeld => ?_)
      clear km0
      generalize w1.drew = w4 at bD k2 hBw bT hHeld ⊢
      clear bD m0
      have hs4 := bT.size
      refine tk 0 (v := ?_) rfl (Or.inl ⟨by rfl, ?_⟩) ?_
      rotate_left
      · intro w9 hSw
        go_simp
        try with_reducible rfl
      simp only [pP, pN, pS, pZ, pC]
      refine tk 1 (v := ?_) rfl (Or.inl ⟨by rfl, ?_⟩) ?_
      rotate_left
      · intro w9 hSw
        go_simp
        try with_reducible rfl
      simp only [pP, pN, pS, pZ, pC]
      refine tk 2 (v := ?_) rfl (Or.inl ⟨by rfl, ?_⟩) ?_
      rotate_left
      · intro w9 hSw
        go_simp
        try with_reducible rfl
      simp only [pP, pN, pS, pZ, pC]
      refine tk 3 (v := ?_) rfl (Or.inl ⟨by rfl, ?_⟩) ?_
      rotate_left
      · intro w9 hSw
        go_simp
        try with_reducible rfl
      simp only [pP, pN, pS, pZ, pC]
      refine tk 5 (v := ?_) rfl (Or.inl ⟨by rfl, ?_⟩) ?_
      rotate_left
      · intro w9 hSw
        go_simp
        try with_reducible rfl
      simp only [pP, pN, pS, pZ, pC]
      refine tk 6 (v := ?_) rfl (Or.inl ⟨by rfl, ?_⟩) ?_
      rotate_left
      · intro w9 hSw
        go_simp
        try with_reducible rfl
      simp only [pP, pN, pS, pZ, pC]
      refine wpAnyH_ready (rs := [4]) (by kernel_rfl) (by simp) ?_
      refine xX1 rfl (fun KK hKK => ?_)
      go_simp
      try rw [hwr]
      refine (GU.out _ bT).mono ?_
      rintro e w5 ⟨v, S, rfl, ⟨⟨ar, cr, rfl, hn, hl, hff⟩, hb5, hr⟩, hSl, hlk⟩
      have HNR := xQ2 (nrmT_of HR3.out hlk hr)
      have hq4 : rb < w4.heap.size := by omega
      have hw4 := hBw.size
      have HSl := xQ2 hSl
      clear hSl hlk
      have bC := hb5
      replace hBw := hBw.trans (bC.mono hBw.size)
      replace bT := bT.trans (bC.mono bT.size)
      replace k2 := k2.later bC
      replace hHeld := xQ0 bC hHeld
      clear bC hb5 GU HMP
      go_wp2_with fail
      refine hKK.out _ _ hHeld ?_
      clear hHeld
      intro hHeld
      clear hKK KK
      try simp only [pP, pN, pS, pZ, pC]
      refine wpAnyH_ready (rs := [7]) (by kernel_rfl) (by simp) ?_
      refine xX1 rfl (fun KK hKK => ?_)
      have HX := xQ2 (show GrA w V (tb R) R.length (.returned (.tuple #[.agg #[.int .i64 (V + 1), .slice ar S.length cr], .int .i64 V, .int .i64 0])) ((w5.setCell ⟨rb, 0, none⟩ (.int .i64 (V + 1))).setCell ⟨rb, 1, none⟩ (.slice ar S.length cr)) from Or.inr ⟨HMB.out, HVN.out, _, S, rfl, TbA.store hn hl hff hw4 hBw hr k2 hq4 HQ.out.1, HNR.out, HSl.out⟩)
      rw [hTQ.out] at HX
      have z0 := k2.cell0
      have z1 := k2.cell1
      have fz := fun o => k2.row.frozen o
      have hH2 := far1 (q := rb) (o := 1) (u := .slice ar S.length cr) (far1 (q := rb) (o := 0) (u := .int .i64 (V + 1)) hHeld HQ.out.2.2) HQ.out.2.2
      have hy0 : ((w5.setCell ⟨rb, 0, none⟩ (.int .i64 (V + 1))).setCell ⟨rb, 1, none⟩ (.slice ar S.length cr)).cell? ⟨rb, 0, none⟩ = some (.int .i64 (V + 1)) := (World.cell?_setCell_other _ _ _ _ (fun e => by simp at e)).trans (World.cell?_setCell_same _ _ _ z0)
      have hy1 : ((w5.setCell ⟨rb, 0, none⟩ (.int .i64 (V + 1))).setCell ⟨rb, 1, none⟩ (.slice ar S.length cr)).cell? ⟨rb, 1, none⟩ = some (.slice ar S.length cr) := World.cell?_setCell_same _ _ _ ((World.cell?_setCell_other _ _ _ _ (fun e => by simp at e)).trans z1)
      clear hn hl hff hr k2 hBw bT
      go_simp
      refine hKK.out _ _ hH2 ?_
      clear hHeld
      intro hHeld
      clear hKK KK
      try simp only [pP, pN, pS, pZ, pC]
      clear hH2 z0 z1 fz
      generalize ((w5.setCell ⟨rb, 0, none⟩ (.int .i64 (V + 1))).setCell ⟨rb, 1, none⟩ (.slice ar S.length cr)) = w7 at HX hy0 hy1 hHeld ⊢
      refine tk 8 (v := ?_) rfl (Or.inl ⟨by rfl, ?_⟩) ?_
      rotate_left
      · intro w9 hSw
        go_simp
        try with_reducible rfl
      simp only [pP, pN, pS, pZ, pC]
      refine tk 9 (v := ?_) rfl (Or.inl ⟨by rfl, ?_⟩) ?_
      rotate_left
      · intro w9 hSw
        go_simp
        try with_reducible rfl
      simp only [pP, pN, pS, pZ, pC]
      refine wpAnyH_done (by kernel_rfl) ?_ _
      go_wp2
      first | exact HX.out | (refine bodyPost_ret (v := .tuple #[.agg #[.int .i64 (V + 1), .slice ar S.length cr], .int .i64 V, .int .i64 0]) (by rw [xZ3 rfl]; go_simp) rfl ?_; exact HX.out)
def EpA (w : World) (V : Int) (T : Tb) (f : Fo) (e : Ending) (w' : World) : Prop := Below w.heap.size w w' ∧
  ((¬ mayBe V T ∧ e = .returned (.tuple #[.slice none 0 0, .int .i64 70])) ∨ (mayBe V T ∧ ¬ inV V f ∧ e = .returned (.tuple #[.slice none 0 0, .int .i64 61])) ∨
   (mayBe V T ∧ inV V f ∧ ∃ F : FV, e = .returned (.tuple #[F.val, .int .i64 0]) ∧ F.fo = exF T f ∧ F.nk w'))
set_option maxHeartbeats 8000000 in
set_option maxRecDepth 100000 in
theorem rExpressT_is (V : Int) (a : Option Addr) (c : Nat) (R : List RowV) (X : FV) (w : World) (hT : TIn w a R) (hc : R.length ≤ c) (hw : ∀ r ∈ R, wfo r.2.fo) (hX : X.sm w) (hwX : wfo X.fo) (hb : bulT R + bul X.L ≤ 1048576) :
    Calls Tryz.prog 34 #[.agg #[.int .i64 V, .slice a R.length c], X.val] w (EpA w V (tb R) X.fo) := by
  obtain ⟨TQ, hTQ⟩ : ∃ TQ, EpA w V (tb R) X.fo = TQ := ⟨_, rfl⟩
  rw [hTQ]
  replace hTQ := xQ2 hTQ
  have GC := xQ2 (fun w' (hb9 : Below w.heap.size w w') => rCheck_is V a c R w' ⟨hT.later hb9, by omega⟩ hc)
  have GK := xQ2 (fun w' (hb9 : Below w.heap.size w w') => rknows_is V a R.length c X w' (hX.later hb9))
  have GX := xQ2 (fun w' (hb9 : Below w.heap.size w w') => rexpress_is V a c R X w' (hT.later hb9) hc (hX.later hb9) hb)
  clear hT hw hX hwX hb
  obtain ⟨f, hf⟩ : ∃ f, X.fo = f := ⟨_, rfl⟩
  rw [hf] at hTQ GX GK
  clear hf
  obtain ⟨Xv, hXv⟩ : ∃ v, X.val = v := ⟨_, rfl⟩
  rw [hXv] at GX GK ⊢
  clear hXv
  have b1 := xQ1 (w := w) (.cells #[.int .i64 V, .slice a R.length c] 24)
  have m0 : (w.alloc (.cells #[.int .i64 V, .slice a R.length c] 24)).cell? ⟨w.heap.size, 0, none⟩ = some (.int .i64 V) := by go_simp
  have m1 : (w.alloc (.cells #[.int .i64 V, .slice a R.length c] 24)).cell? ⟨w.heap.size, 1, none⟩ = some (.slice a R.length c) := by go_simp
  have hBw := b1
  clear b1
  go_enter Tryz.func34, Tryz.ntmps34
  go_wp2_with fail
  obtain ⟨wA, hwA⟩ : ∃ wA, (w.alloc (.cells #[.int .i64 V, .slice a R.length c] 24)) = wA := ⟨_, rfl⟩
  rw [hwA] at m0 m1 hBw ⊢
  clear hwA
  refine (GC.out _ hBw).mono ?_
  rintro e w1 ⟨b1, ⟨hmb, rfl⟩ | ⟨hmb, rfl⟩⟩
  · have hB := hBw.trans (b1.mono hBw.size)
    replace m0 := xQ0 b1 m0
    replace m1 := xQ0 b1 m1
    have HMB := xQ2 hmb
    have HD := xQ2 (GK.out w1 hB)
    clear GC GK hmb b1 hBw
    cases hd : inVs V (vsN f) with
    | false =>
      have HD2 := HD.out
      rw [hd] at HD2
      replace HD2 := xQ2 HD2
      have HIn := xQ2 (show ¬ inV V f from by rw [← inVs_iff, hd]; simp)
      clear hd HD
      go_wp2_with fail
      refine HD2.out.mono ?_
      rintro e w2 ⟨rfl, b2⟩
      have hB2 := hB.trans (b2.mono hB.size)
      have HX := xQ2 (show EpA w V (tb R) f (.returned (.tuple #[.slice none 0 0, .int .i64 61])) _ from ⟨hB2, Or.inr (Or.inl ⟨HMB.out, HIn.out, rfl⟩)⟩)
      rw [hTQ.out] at HX
      go_wp2
      first | exact HX.out | (go_ret; exact HX.out) | (refine bodyPost_ret (v := .tuple #[.slice none 0 0, .int .i64 61]) (by rw [results_tt rfl]; go_simp) rfl ?_; exact HX.out)
    | true =>
      have HD2 := HD.out
      rw [hd] at HD2
      replace HD2 := xQ2 HD2
      have HIn := xQ2 (show inV V f from by exact inVs_iff.1 hd)
      clear hd HD
      go_wp2_with fail
      refine HD2.out.mono ?_
      rintro e w2 ⟨rfl, b2⟩
      have hB2 := hB.trans (b2.mono hB.size)
      replace m0 := xQ0 b2 m0
      replace m1 := xQ0 b2 m1
      clear b2 HD2
      go_wp2_with fail
      refine (GX.out _ hB2).mono ?_
      rintro e w3 ⟨a3, c3, L3, rfl, b3, s3, E3, f3⟩
      have hB3 := hB2.trans (b3.mono hB2.size)
      have HX := xQ2 (show EpA w V (tb R) f (.returned (.tuple #[.slice a3 L3.length c3, .int .i64 0])) _ from ⟨hB3, Or.inr (Or.inr ⟨HMB.out, HIn.out, ⟨a3, c3, L3⟩, rfl, by rw [← acS_exF HMB.out.once]; exact f3, s3, E3⟩)⟩)
      rw [hTQ.out] at HX
      go_wp2
      first | exact HX.out | (go_ret; exact HX.out) | (refine bodyPost_ret (v := .tuple #[.slice a3 L3.length c3, .int .i64 0]) (by rw [results_tt rfl]; go_simp) rfl ?_; exact HX.out)
  · have hB := hBw.trans (b1.mono hBw.size)
    clear GC GK GX
    have HX := xQ2 (show EpA w V (tb R) f (.returned (.tuple #[.slice none 0 0, .int .i64 70])) _ from ⟨hB, Or.inl ⟨hmb, rfl⟩⟩)
    rw [hTQ.out] at HX
    go_wp2
    first | exact HX.out | (go_ret; exact HX.out) | (refine bodyPost_ret (v := .tuple #[.slice none 0 0, .int .i64 70]) (by rw [results_tt rfl]; go_simp) rfl ?_; exact HX.out)
theorem Bk2.setP {w : World} {c : Nat} {z y : Int} {a : Option Addr} {n m : Nat} (h : Bk2 w c z a n m) : Bk2 (w.setCell ⟨c, 0, none⟩ (.int .i64 y)) c y a n m := h.set (b := a) (k := 0) (l := 0)
theorem Bk2.setA {w : World} {c : Nat} {z : Int} {a b : Option Addr} {n m k l : Nat} (h : Bk2 w c z a n m) : Bk2 (w.setCell ⟨c, 1, none⟩ (.slice b k l)) c z b k l := by
  obtain ⟨t, ht⟩ := h
  refine ⟨t, ?_⟩
  simp [World.setCell, Array.getElem?_modify, ht]
theorem Bk2.other {w : World} {c d o : Nat} {u : Value} {z : Int} {a : Option Addr} {n m : Nat} (h : Bk2 w c z a n m) (hd : c ≠ d) : Bk2 (w.setCell ⟨d, o, none⟩ u) c z a n m := by
  obtain ⟨t, ht⟩ := h
  exact ⟨t, by rw [Below.heap_setCell _ _ _ _ hd]; exact ht⟩
set_option maxHeartbeats 16000000 in
set_option maxRecDepth 100000 in
theorem rGrow_is (V : Int) (a : Option Addr) (c : Nat) (R : List RowV) (w : World) (hT : TSm w a R) (hc : R.length ≤ c) :
    Calls Tryz.prog 19 #[.agg #[.int .i64 V, .slice a R.length c]] w (GrA w V (tb R) R.length) := by
  obtain ⟨TQ, hTQ⟩ : ∃ TQ, GrA w V (tb R) R.length = TQ := ⟨_, rfl⟩
  rw [hTQ]
  replace hTQ := xQ2 hTQ
  have GC := xQ2 (fun w' (hb : Below w.heap.size w w') => rCheck_is V a c R w' (hT.later hb) hc)
  have GS := xQ2 (fun w' (hb : Below w.heap.size w w') (h : mayBe V (tb R)) => rsortedO_is V a c R w' (hT.later hb) hc h)
  clear hT
  have b1 := xQ1 (w := w) (.cells #[.int .i64 V, .slice a R.length c] 24)
  have b2 := xQ1 (w := w.alloc (.cells #[.int .i64 V, .slice a R.length c] 24)) (.cells #[.int .i64 0, .slice none 0 0] 24)
  have m0 : ((w.alloc (.cells #[.int .i64 V, .slice a R.length c] 24)).alloc (.cells #[.int .i64 0, .slice none 0 0] 24)).cell? ⟨w.heap.size, 0, none⟩ = some (.int .i64 V) := by go_simp
  have m1 : ((w.alloc (.cells #[.int .i64 V, .slice a R.length c] 24)).alloc (.cells #[.int .i64 0, .slice none 0 0] 24)).cell? ⟨w.heap.size, 1, none⟩ = some (.slice a R.length c) := by go_simp
  have k2 : Bk2 ((w.alloc (.cells #[.int .i64 V, .slice a R.length c] 24)).alloc (.cells #[.int .i64 0, .slice none 0 0] 24)) (w.heap.size + 1) 0 none 0 0 := by have := Bk2.new (w.alloc (.cells #[.int .i64 V, .slice a R.length c] 24)) 0 none 0 0 24; simpa using this
  have hsz : ((w.alloc (.cells #[.int .i64 V, .slice a R.length c] 24)).alloc (.cells #[.int .i64 0, .slice none 0 0] 24)).heap.size = w.heap.size + 1 + 1 := by simp
  have hBw := b1.trans (b2.mono b1.size)
  clear b1 b2
  go_enter Tryz.func19, Tryz.ntmps19
  go_wp2_with fail
  obtain ⟨wA, hwA⟩ : ∃ wA, ((w.alloc (.cells #[.int .i64 V, .slice a R.length c] 24)).alloc (.cells #[.int .i64 0, .slice none 0 0] 24)) = wA := ⟨_, rfl⟩
  rw [hwA] at m0 m1 hBw k2 hsz ⊢
  clear hwA
  obtain ⟨rb, hrb⟩ : ∃ rb, w.heap.size + 1 = rb := ⟨_, rfl⟩
  rw [hrb] at k2 hsz
  try rw [hrb]
  have HQ := xQ2 (show w.heap.size ≤ rb ∧ rb < wA.heap.size ∧ w.heap.size ≠ rb by omega)
  clear hrb hsz
  refine (GC.out _ hBw).mono ?_
  rintro e w1 ⟨b1, ⟨hmb, rfl⟩ | ⟨hmb, rfl⟩⟩
  · skip
    replace m0 := xQ0 b1 m0
    replace m1 := xQ0 b1 m1
    replace k2 := k2.later b1
    replace hBw := hBw.trans (b1.mono hBw.size)
    have hs1 := b1.size
    clear b1 GC
    have HMB := xQ2 hmb
    have hV := xQ2 (show 0 ≤ V ∧ V ≤ 65536 from ⟨hmb.lo, hmb.hi⟩)
    clear hmb
    by_cases hv : V = 65536
    · have z0 := k2.cell0
      have z1 := k2.cell1
      have fz := fun o => k2.row.frozen o
      have HVV := xQ2 hv
      rw [hv] at m0
      have HX := xQ2 (show ∀ w', Below w.heap.size w w' → GrA w V (tb R) R.length (.returned (.tuple #[noTb, .int .i64 0, .int .i64 2])) w' from fun w' hb => Or.inl ⟨Or.inr ⟨HMB.out, HVV.out, rfl⟩, hb⟩)
      rw [hTQ.out] at HX
      clear hv k2 GS
      go_wp2
      first | exact HX.out _ (by first | exact hBw | (refine Below.setCell (Below.setCell hBw ?_ _) ?_ _ <;> exact HQ.out.1)) | (refine bodyPost_ret (v := .tuple #[noTb, .int .i64 0, .int .i64 2]) (by rw [xZ3 rfl]; go_simp) rfl ?_; exact HX.out _ (by first | exact hBw | (refine Below.setCell (Below.setCell hBw ?_ _) ?_ _ <;> exact HQ.out.1)))
    · have HVN := xQ2 hv
      have hVs := hV.out
      have hq3 : rb < w1.heap.size := k2.lt
      have G2 := xQ2 (GS.out w1 hBw HMB.out)
      clear GS
      go_wp2_with fail
      refine G2.out.mono ?_
      rintro e w2 ⟨ar, cr, S, base, rfl, ⟨⟨ar2, cr2, he2, hn, hl, hf⟩, hb2, hr⟩, hN, hSl, _, _, _, _⟩
      obtain ⟨e1, e2⟩ : ar = ar2 ∧ cr = cr2 := by simp at he2; exact he2
      subst e1 e2
      have hq8 := hBw.size
      replace m0 := xQ0 hb2 m0
      replace m1 := xQ0 hb2 m1
      replace k2 := k2.later hb2
      replace hBw := hBw.trans (hb2.mono hBw.size)
      have hs2 := hb2.size
      clear hb2 G2 he2
      have hla : ∀ ad, ar = some ad → S ≠ [] → ad.block < w2.heap.size := fun ad e h => by obtain ⟨b9, o9, e9, h9, _⟩ := hn.at_ h; rw [e] at e9; obtain rfl := Option.some.inj e9; exact h9
      have HSl := xQ2 hSl
      clear hSl
      have bY := xQ1 (w := w2) (.cells #[.int .i64 (V + 1), .slice ar S.length cr] 24)
      have kZ := Bk2.new w2 (V + 1) ar S.length cr 24
      have hq4 : rb < w2.heap.size := k2.lt
      have hq5 := hBw.size
      have hwr : IntKind.i64.wrap (V + 1) = V + 1 := by rw [IntKind.wrap_i64]; omega
      go_wp2_with fail
      obtain ⟨wZ, hwZ⟩ : ∃ wZ, w2.alloc (.cells #[.int .i64 (V + 1), .slice ar S.length cr] 24) = wZ := ⟨_, rfl⟩
      rw [hwZ] at bY kZ ⊢
      clear hwZ
      have n0 := xQ0 bY m0
      have k3 := k2.later bY
      have hn2 := hn.later bY
      have hB2 := hBw.trans (bY.mono hBw.size)
      clear bY m1 m0 k2 hn hBw
      obtain ⟨cy, hcy⟩ : ∃ cy, w2.heap.size = cy := ⟨_, rfl⟩
      rw [hcy] at kZ hq4 hq5
      try rw [hcy]
      have x0 := kZ.cell0
      have x1 := kZ.cell1
      have bD : Below wZ.heap.size wZ wZ.drew := (Below.refl _ _).drew
      have kn0 := xQ0 bD n0
      have kx0 := xQ0 bD x0
      have kx1 := xQ0 bD x1
      replace hB2 := hB2.trans (bD.mono hB2.size)
      replace k3 := k3.later bD
      replace hn2 := hn2.later bD
      refine wp_region_held_drew (S := fun w' => w'.cell? ⟨w.heap.size, 0, none⟩ = some (.int .i64 V) ∧ w'.cell? ⟨cy, 0, none⟩ = some (.int .i64 (V + 1)) ∧ w'.cell? ⟨cy, 1, none⟩ = some (.slice ar S.length cr)) (by kernel_rfl) ⟨kn0, kx0, kx1⟩ (fun hHeld => ?_)
      clear kn0 kx0 kx1
      generalize wZ.drew = w5 at bD k3 hn2 hB2 hHeld ⊢
      clear bD n0 x0 x1
      refine tk 0 (v := ?_) rfl (Or.inl ⟨by rfl, ?_⟩) ?_
      rotate_left
      · intro w9 hSw
        go_simp
        try with_reducible rfl
      simp only [pP, pN, pS, pZ, pC]
      refine tk 1 (v := ?_) rfl (Or.inl ⟨by rfl, ?_⟩) ?_
      rotate_left
      · intro w9 hSw
        go_simp
        try with_reducible rfl
      simp only [pP, pN, pS, pZ, pC]
      refine tk 2 (v := ?_) rfl (Or.inl ⟨by rfl, ?_⟩) ?_
      rotate_left
      · intro w9 hSw
        go_simp
        try with_reducible rfl
      simp only [pP, pN, pS, pZ, pC]
      refine wpAnyH_ready (rs := [3]) (by kernel_rfl) (by simp) ?_
      refine xX1 rfl (fun KK hKK => ?_)
      have HX := xQ2 (show GrA w V (tb R) R.length (.returned (.tuple #[.agg #[.int .i64 (V + 1), .slice ar S.length cr], .int .i64 V, .int .i64 0])) ((w5.setCell ⟨rb, 0, none⟩ (.int .i64 (V + 1))).setCell ⟨rb, 1, none⟩ (.slice ar S.length cr)) from Or.inr ⟨HMB.out, HVN.out, _, S, rfl, TbA.store hn2 hl hf hq8 hB2 hr k3 hq3 HQ.out.1, hN, Nat.le_of_eq HSl.out⟩)
      rw [hTQ.out] at HX
      have z0 := k3.cell0
      have z1 := k3.cell1
      have fz := fun o => k3.row.frozen o
      have hcr : cy ≠ rb := by omega
      have g0 := far1 (q := rb) (o := 1) (u := .slice ar S.length cr) (far1 (q := rb) (o := 0) (u := .int .i64 (V + 1)) hHeld.1 HQ.out.2.2) HQ.out.2.2
      have g1 := far1 (q := rb) (o := 1) (u := .slice ar S.length cr) (far1 (q := rb) (o := 0) (u := .int .i64 (V + 1)) hHeld.2.1 hcr) hcr
      have g2 := far1 (q := rb) (o := 1) (u := .slice ar S.length cr) (far1 (q := rb) (o := 0) (u := .int .i64 (V + 1)) hHeld.2.2 hcr) hcr
      have hH2 := (⟨g0, g1, g2⟩ : _ ∧ _ ∧ _)
      clear g0 g1 g2
      have hy0 : ((w5.setCell ⟨rb, 0, none⟩ (.int .i64 (V + 1))).setCell ⟨rb, 1, none⟩ (.slice ar S.length cr)).cell? ⟨rb, 0, none⟩ = some (.int .i64 (V + 1)) := (World.cell?_setCell_other _ _ _ _ (fun e => by simp at e)).trans (World.cell?_setCell_same _ _ _ z0)
      have hy1 : ((w5.setCell ⟨rb, 0, none⟩ (.int .i64 (V + 1))).setCell ⟨rb, 1, none⟩ (.slice ar S.length cr)).cell? ⟨rb, 1, none⟩ = some (.slice ar S.length cr) := World.cell?_setCell_same _ _ _ ((World.cell?_setCell_other _ _ _ _ (fun e => by simp at e)).trans z1)
      clear hn2 hl hf hr k3 hB2 kZ
      go_simp
      refine hKK.out _ _ hH2 ?_
      clear hHeld
      intro hHeld
      clear hKK KK
      try simp only [pP, pN, pS, pZ, pC]
      clear hH2 z0 z1 fz
      generalize ((w5.setCell ⟨rb, 0, none⟩ (.int .i64 (V + 1))).setCell ⟨rb, 1, none⟩ (.slice ar S.length cr)) = w7 at HX hy0 hy1 hHeld ⊢
      refine tk 4 (v := ?_) rfl (Or.inl ⟨by rfl, ?_⟩) ?_
      rotate_left
      · intro w9 hSw
        go_simp
        try with_reducible rfl
      simp only [pP, pN, pS, pZ, pC]
      refine tk 5 (v := ?_) rfl (Or.inl ⟨by rfl, ?_⟩) ?_
      rotate_left
      · intro w9 hSw
        go_simp
        try with_reducible rfl
      simp only [pP, pN, pS, pZ, pC]
      refine wpAnyH_done (by kernel_rfl) ?_ _
      go_wp2
      first | exact HX.out | (refine bodyPost_ret (v := .tuple #[.agg #[.int .i64 (V + 1), .slice ar S.length cr], .int .i64 V, .int .i64 0]) (by rw [xZ3 rfl]; go_simp) rfl ?_; exact HX.out)
  · skip
    replace m0 := xQ0 b1 m0
    replace m1 := xQ0 b1 m1
    replace k2 := k2.later b1
    replace hBw := hBw.trans (b1.mono hBw.size)
    have hs1 := b1.size
    clear b1 GC
    have z0 := k2.cell0
    have z1 := k2.cell1
    have fz := fun o => k2.row.frozen o
    have HX := xQ2 (show ∀ w', Below w.heap.size w w' → GrA w V (tb R) R.length (.returned (.tuple #[noTb, .int .i64 0, .int .i64 70])) w' from fun w' hb => Or.inl ⟨Or.inl ⟨hmb, rfl⟩, hb⟩)
    rw [hTQ.out] at HX
    clear hmb k2 GS
    go_wp2
    first | exact HX.out _ (by first | exact hBw | (refine Below.setCell (Below.setCell hBw ?_ _) ?_ _ <;> exact HQ.out.1)) | (refine bodyPost_ret (v := .tuple #[noTb, .int .i64 0, .int .i64 70]) (by rw [xZ3 rfl]; go_simp) rfl ?_; exact HX.out _ (by first | exact hBw | (refine Below.setCell (Below.setCell hBw ?_ _) ?_ _ <;> exact HQ.out.1)))
end Go.Proofs.YtlklfkkbdcglbaaGreat
