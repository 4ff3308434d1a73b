import Derived.Test.YtlklfkkbdcglbaaGreatWO5
import Derived.Test.YtlklfkkbdcglbaaGreatWN9
import Derived.Test.YtlklfkkbdcglbaaGreatGTF
import Derived.Test.YtlklfkkbdcglbaaGreatWN11
import Derived.Test.YtlklfkkbdcglbaaGreatWN17
import Derived.Test.YtlklfkkbdcglbaaGreatWQ9
import Derived.Test.YtlklfkkbdcglbaaGreatWN21
import Derived.Test.YtlklfkkbdcglbaaGreatWO7
import Derived.Test.YtlklfkkbdcglbaaGreatGTJ
import Derived.Test.YtlklfkkbdcglbaaGreatGT4
import Derived.Test.YtlklfkkbdcglbaaGreatGTE
set_option linter.unusedSimpArgs false
namespace Go.Proofs.YtlklfkkbdcglbaaGreat
open Go.RowKit
set_option linter.unusedVariables false
set_option maxHeartbeats 8000000 in
set_option maxRecDepth 100000 in
theorem vlScaleF_is (C : RatV) (a : Option Addr) (c : Nat) (L : List Mo) (K : Nat) (w : World) (hF : FAt w a L) (hok : ∀ p ∈ L, p.2.ok w) (hc : L.length ≤ c) (hm : L.length ≤ 1048576) (hC : C.ok w) (hK : ∀ p ∈ L, C.n + C.m + p.2.n + p.2.m ≤ K) (hCK : C.n + C.m ≤ K) (hKm : K ≤ 17179869184) (hnK : ∀ k x, sz 1099511627776 (co x ((fmap (fun r => C.val * r) (fo L)).take k))) :
    Calls Tryz.prog 91 #[.agg #[.bool C.s, .slice C.a C.n C.c, .slice C.b C.m C.e], .slice a L.length c] w (FAns w (nfm (fmap (fun r => C.val * r) (fo L)))) := by
  obtain ⟨i0, hi0, hz0, hz1, hz2⟩ := info_parts info_Mono
  have hszL : ∀ p ∈ fmap (fun r => C.val * r) (fo L), sz (K + 2) p.2 := fun p hp => by
    obtain ⟨p1, hp1, rfl⟩ := List.mem_map.1 hp
    obtain ⟨p2, hp2, rfl⟩ := List.mem_map.1 hp1
    exact mul_sz hC (hok p2 hp2) (hK p2 hp2)
  have GN := hide' (fun w' a2 c2 (R : List Mo) (hs : Sl w' a2 c2 R) (hE : ∀ p ∈ R, Ent w' p) (hf : fo R = fmap (fun r => C.val * r) (fo L)) => vlNormF_is a2 c2 R w' hs.lies (fun p hp => by
    have h1 : (p.1, p.2.val) ∈ fmap (fun r => C.val * r) (fo L) := by rw [← hf]; exact List.mem_map.2 ⟨p, hp, rfl⟩
    have h2 : sz (K + 2) p.2.val := hszL _ h1
    obtain ⟨e1, e2⟩ := low_ns (hE p hp).low
    exact ⟨(hE p hp).ok, by rw [e1]; have := h2.1; omega, by rw [e2]; have := h2.2; omega⟩) hs.len (by have h := congrArg List.length hf; rw [fo_length, fmap_length, fo_length] at h; omega) (fun k x => by rw [show fo (R.take k) = (fo R).take k by unfold fo; rw [List.map_take], hf]; exact hnK k x))
  obtain ⟨TT, hTT⟩ : ∃ TT, nfm (fmap (fun r => C.val * r) (fo L)) = TT := ⟨_, rfl⟩
  rw [hTT]
  replace hTT := hide' hTT
  clear hszL hnK
  go_enter Tryz.func91, Tryz.ntmps91
  go_wp2_with fail
  obtain ⟨wA, hwA⟩ : ∃ wA, w.alloc (.cells #[.bool C.s, .slice C.a C.n C.c, .slice C.b C.m C.e] 74) = wA := ⟨_, rfl⟩
  have bA : Below w.heap.size w wA := by subst hwA; exact below_alloc _
  have a0 : wA.cell? ⟨w.heap.size, 0, none⟩ = some (.bool C.s) := by subst hwA; go_simp
  have a1 : wA.cell? ⟨w.heap.size, 1, none⟩ = some (.slice C.a C.n C.c) := by subst hwA; go_simp
  have a2 : wA.cell? ⟨w.heap.size, 2, none⟩ = some (.slice C.b C.m C.e) := by subst hwA; go_simp
  have hwz : w.heap.size < wA.heap.size := by subst hwA; simp only [World.size_alloc]; omega
  rw [hwA]
  clear hwA
  replace hF := hF.later bA
  replace hok := fun p hp => (hok p hp).later bA
  replace hC := hC.later bA
  go_loopw [5, 6] (fun vo vi wr => ∃ k : Nat, k ≤ L.length ∧ vi = .int .i64 k ∧ TInv wA (fun r => C.val * r) L k vo wr) (fun _ vi _ => L.length - (intOf vi).toNat)
  case atStart => exact ⟨0, Nat.zero_le _, rfl, [], rfl, World.ownsRow_nil _ _ _ _, Below.refl _ _, fun p hp => by simp at hp, rfl⟩
  case round =>
    obtain ⟨k, hk, rfl, R, hRl, hO, hB, hR, hfo⟩ := hrel
    by_cases hlt : k < L.length
    · obtain ⟨p, hp⟩ : ∃ p, L[k]? = some p := ⟨L[k], List.getElem?_eq_getElem hlt⟩
      obtain ⟨b, off, rfl, hb, hcell⟩ := hF (by intro e; rw [e] at hlt; simp at hlt)
      obtain ⟨c0, c1, c2, c3⟩ := hcell k p hp
      replace c0 := below_cell hB c0
      replace c1 := below_cell hB c1
      replace c2 := below_cell hB c2
      replace c3 := below_cell hB c3
      replace a0 := below_cell hB a0
      replace a1 := below_cell hB a1
      replace a2 := below_cell hB a2
      have hmem := List.mem_of_getElem? hp
      have hq := (hok p hmem).later hB
      have hC1 := hC.later hB
      have hKp := hK p hmem
      have hsz := mul_sz hC1 hq hKp
      obtain ⟨t1, t2⟩ := take_split hp
      have hfo' : fo (L.take (k + 1)) = fo (L.take k) ++ [(p.1, p.2.val)] := by rw [t1, fo_append]; rfl
      clear t1 t2 hp hmem
      obtain ⟨x, q⟩ := p
      simp only at c0 c1 c2 c3 hsz hfo' hq hKp
      have GM := hide' (fun w' k1 k2 k3 k4 => vqMul_is C.s C.a C.n C.c C.X C.b C.m C.e C.Y q.s q.a q.n q.c q.X q.b q.m q.e q.Y _ _ w' hC1.2.1 (by omega) k1 hC1.2.2.2.2.1 (by omega) k2 hq.2.1 (by omega) k3 hq.2.2.2.2.1 (by omega) k4 (low_mul C q))
      obtain ⟨r, hr⟩ : ∃ r, C.val * q.val = r := ⟨_, rfl⟩
      rw [hr] at GM hsz
      have k1 := hC1.1
      have k2 := hC1.2.2.2.1
      have k3 := hq.1
      have k4 := hq.2.2.2.1
      clear hC1 hq hcell
      have i1 : (0 : Int) ≤ (k : Int) := by omega
      have i2 : (k : Int) < (L.length : Int) := by omega
      have hrow := fun k hk => (hO.lt k hk)
      go_wp2_with fail
      have bT : Below wr.heap.size wr wr := Below.refl _ _
      have bD : Below wr.heap.size wr wr.drew := (Below.refl _ _).drew
      have kc0 := below_cell bD c0
      have kc1 := below_cell bD c1
      have kc2 := below_cell bD c2
      have kc3 := below_cell bD c3
      have ka0 := below_cell bD a0
      have ka1 := below_cell bD a1
      have ka2 := below_cell bD a2
      replace bT := bT.trans (bD.mono bT.size)
      replace k1 := k1.later bD
      replace k2 := k2.later bD
      replace k3 := k3.later bD
      replace k4 := k4.later bD
      refine wp_region_held_drew (S := fun w' => w'.cell? ⟨b, off + k * 4, none⟩ = some (.int .i64 x) ∧ w'.cell? ⟨b, off + k * 4 + 1, none⟩ = some (.bool q.s) ∧ w'.cell? ⟨b, off + k * 4 + 1 + 1, none⟩ = some (.slice q.a q.n q.c) ∧ w'.cell? ⟨b, off + k * 4 + 1 + 2, none⟩ = some (.slice q.b q.m q.e) ∧ w'.cell? ⟨w.heap.size, 0, none⟩ = some (.bool C.s) ∧ w'.cell? ⟨w.heap.size, 1, none⟩ = some (.slice C.a C.n C.c) ∧ w'.cell? ⟨w.heap.size, 2, none⟩ = some (.slice C.b C.m C.e)) (by kernel_rfl) ⟨kc0, kc1, kc2, kc3, ka0, ka1, ka2⟩ (fun hHeld => ?_)
      clear kc0 kc1 kc2 kc3 ka0 ka1 ka2
      generalize wr.drew = w0 at bD k1 k2 k3 k4 bT hHeld ⊢
      clear c0 c1 c2 c3 a0 a1 a2 bD
      refine tk 0 (v := ?_) rfl (Or.inl ⟨by rfl, ?_⟩) ?_
      rotate_left
      · intro w9 hSw
        go_simp
        first | done | with_reducible rfl
      simp only [pP, pN, pS, pZ, pC]
      refine tk 1 (v := ?_) rfl (Or.inl ⟨by rfl, ?_⟩) ?_
      rotate_left
      · intro w9 hSw
        go_simp
        first | done | with_reducible rfl
      simp only [pP, pN, pS, pZ, pC]
      refine tk 2 (v := ?_) rfl (Or.inl ⟨by rfl, ?_⟩) ?_
      rotate_left
      · intro w9 hSw
        go_simp
        first | done | with_reducible rfl
      simp only [pP, pN, pS, pZ, pC]
      refine tk 3 (v := ?_) rfl (Or.inl ⟨by rfl, ?_⟩) ?_
      rotate_left
      · intro w9 hSw
        go_simp
        first | done | with_reducible rfl
      simp only [pP, pN, pS, pZ, pC]
      refine tk 4 (v := ?_) rfl (Or.inl ⟨by rfl, ?_⟩) ?_
      rotate_left
      · intro w9 hSw
        go_simp
        first | done | with_reducible rfl
      simp only [pP, pN, pS, pZ, pC]
      refine tk 5 (v := ?_) rfl (Or.inl ⟨by rfl, ?_⟩) ?_
      rotate_left
      · intro w9 hSw
        go_simp
        first | done | with_reducible rfl
      simp only [pP, pN, pS, pZ, pC]
      refine tk 6 (v := ?_) rfl (Or.inl ⟨by rfl, ?_⟩) ?_
      rotate_left
      · intro w9 hSw
        go_simp
        first | done | with_reducible rfl
      simp only [pP, pN, pS, pZ, pC]
      refine tk 7 (v := ?_) rfl (Or.inl ⟨by rfl, ?_⟩) ?_
      rotate_left
      · intro w9 hSw
        go_simp
        first | done | with_reducible rfl
      simp only [pP, pN, pS, pZ, pC]
      refine tk 8 (v := ?_) rfl (Or.inl ⟨by rfl, ?_⟩) ?_
      rotate_left
      · intro w9 hSw
        go_simp
        first | done | with_reducible rfl
      simp only [pP, pN, pS, pZ, pC]
      refine tk 9 (v := ?_) rfl (Or.inl ⟨by rfl, ?_⟩) ?_
      rotate_left
      · intro w9 hSw
        go_simp
        first | done | with_reducible rfl
      simp only [pP, pN, pS, pZ, pC]
      refine tk 10 (v := ?_) rfl (Or.inl ⟨by rfl, ?_⟩) ?_
      rotate_left
      · intro w9 hSw
        go_simp
        first | done | with_reducible rfl
      simp only [pP, pN, pS, pZ, pC]
      refine tk 11 (v := ?_) rfl (Or.inl ⟨by rfl, ?_⟩) ?_
      rotate_left
      · intro w9 hSw
        go_simp
        first | done | with_reducible rfl
      simp only [pP, pN, pS, pZ, pC]
      refine wpAnyH_ready (rs := [12]) (by kernel_rfl) (by simp) ?_
      refine cons' rfl (fun KK hKK => ?_)
      go_simp
      refine (GM.out _ k1 k2 k3 k4).mono ?_
      rintro e w2 ⟨p, p', rfl, n1, n2⟩
      have b2 := n1.below
      have sA := bT.size
      replace bT := bT.trans (b2.mono bT.size)
      replace k1 := k1.later b2
      replace k2 := k2.later b2
      replace k3 := k3.later b2
      replace k4 := k4.later b2
      replace hHeld := (⟨below_cell b2 hHeld.1, below_cell b2 hHeld.2.1, below_cell b2 hHeld.2.2.1, below_cell b2 hHeld.2.2.2.1, below_cell b2 hHeld.2.2.2.2.1, below_cell b2 hHeld.2.2.2.2.2.1, below_cell b2 hHeld.2.2.2.2.2.2⟩ : _ ∧ _ ∧ _ ∧ _ ∧ _ ∧ _ ∧ _)
      go_wp2_with fail
      refine hKK.out _ _ hHeld ?_
      clear hHeld
      intro hHeld
      clear hKK KK
      try simp only [pP, pN, pS, pZ, pC]
      refine tk 13 (v := ?_) rfl (Or.inl ⟨by rfl, ?_⟩) ?_
      rotate_left
      · intro w9 hSw
        go_simp
        first | done | with_reducible rfl
      simp only [pP, pN, pS, pZ, pC]
      refine wpAnyH_ready (rs := [14]) (by kernel_rfl) (by simp) ?_
      refine cons' rfl (fun KK hKK => ?_)
      go_simp
      have hnew := heap_alloc_new w2 (.cells #[.int .i64 x, .bool (ng r.num), .slice p (ln (am r.num)) (ln (am r.num)), .slice p' (ln r.den) (ln r.den)] 76)
      have b3 := below_alloc (w := w2) (.cells #[.int .i64 x, .bool (ng r.num), .slice p (ln (am r.num)) (ln (am r.num)), .slice p' (ln r.den) (ln r.den)] 76)
      generalize w2.alloc (.cells #[.int .i64 x, .bool (ng r.num), .slice p (ln (am r.num)) (ln (am r.num)), .slice p' (ln r.den) (ln r.den)] 76) = w3 at hnew b3 ⊢
      replace bT := bT.trans (b3.mono bT.size)
      replace k1 := k1.later b3
      replace k2 := k2.later b3
      replace k3 := k3.later b3
      replace k4 := k4.later b3
      replace hHeld := (⟨below_cell b3 hHeld.1, below_cell b3 hHeld.2.1, below_cell b3 hHeld.2.2.1, below_cell b3 hHeld.2.2.2.1, below_cell b3 hHeld.2.2.2.2.1, below_cell b3 hHeld.2.2.2.2.2.1, below_cell b3 hHeld.2.2.2.2.2.2⟩ : _ ∧ _ ∧ _ ∧ _ ∧ _ ∧ _ ∧ _)
      refine hKK.out _ _ hHeld ?_
      clear hHeld
      intro hHeld
      clear hKK KK
      try simp only [pP, pN, pS, pZ, pC]
      have hO3 := own_below hO bT
      have s2 := b2.size
      have s3 := b3.size
      have s4 := bT.size
      have s5 := hB.size
      have gN : Grw u5 w3 (x, RatV.of r.num r.den p p') := ⟨⟨n1.seg.later b3, Nat.le_refl _, Nat.le_trans hsz.1 (by omega), n2.seg.later b3, Nat.le_refl _, Nat.le_trans hsz.2 (by omega)⟩, ofR_low r p p', fun b e => ⟨fun hn ad e2 h => by have h1 := n1.fr hn ad e2; have h2 := (hrow b e).2; omega, fun hn ad e2 h => by have h1 := n2.fr hn ad e2; have h2 := (hrow b e).2; omega⟩⟩
      refine wpAnyH_ready (rs := [15]) (by kernel_rfl) (by simp) ?_
      refine cons' rfl (fun KK hKK => ?_)
      refine step_append_lies _ (by rfl) _ _ _ (by rfl) wA.heap.size 76 i0 _ 4 64 Tryz.underlying35 hi0 hz0 hz1 hz2 rfl (by omega) u5 R.length (cellsF R) (by rfl) hO3
        ⟨w2.heap.size, 0, none⟩ 1 1 (cells4 (x, RatV.of r.num r.den p p')) (by rfl) (by rfl) (World.news_of_block (cs := #[.int .i64 x, .bool (ng r.num), .slice p (ln (am r.num)) (ln (am r.num)), .slice p' (ln r.den) (ln r.den)]) (t := 76) (fr := (0, 0)) hnew) (cells4_one _)
        (by omega) (by simp only [maxLen]; omega) (by omega) (by omega) w3.heap.size rfl ?_
      intro gb cap w9 hown4 hgrow hat hlt4
      have far : ∀ {c o : Nat} {u : Value}, c < wA.heap.size → w3.cell? ⟨c, o, none⟩ = some u → w9.cell? ⟨c, o, none⟩ = some u := fun hc hu => hgrow.cell hu (fun e => by have := hrow _ e.symm; simp only at this; omega)
      refine hKK.out _ _ ⟨far hb hHeld.1, far hb hHeld.2.1, far hb hHeld.2.2.1, far hb hHeld.2.2.2.1, far hwz hHeld.2.2.2.2.1, far hwz hHeld.2.2.2.2.2.1, far hwz hHeld.2.2.2.2.2.2⟩ ?_
      clear hHeld
      intro hHeld
      clear hKK KK
      try simp only [pP, pN, pS, pZ, pC]
      have hBT := hB.trans (bT.mono hB.size)
      have I1 := hide' (And.intro (own_push hown4) (And.intro (hBT.trans (below_grown hBT.size (fun k hk => (hrow k hk).1) hgrow)) (grw_push (fun q hq => (hR q hq).later bT) gN (j := R.length + 1) (cap := cap) hgrow hat)))
      clear hown4 hgrow hat far gN hO3 hnew n1 n2
      refine tk 16 (v := ?_) rfl (Or.inl ⟨by rfl, ?_⟩) ?_
      rotate_left
      · intro w9 hSw
        go_simp
        first | done | with_reducible rfl
      simp only [pP, pN, pS, pZ, pC]
      refine wpAnyH_done (by kernel_rfl) ?_ _
      go_wp2
      go_roundw
      case rel => exact ⟨k + 1, by omega, by go_num, R ++ [(x, RatV.of r.num r.den p p')], by rw [List.length_append, hRl]; rfl, by have h := I1.out.1; rw [hRl] at h; exact h, I1.out.2.1, by have h := I1.out.2.2; rw [hRl] at h; exact h, by rw [fo_append, hfo, hfo', fmap_snoc, hr]; show _ ++ [(x, (RatV.of r.num r.den p p').val)] = _; rw [val_ofR]⟩
      case measure => simp [intOf]; omega
    · obtain rfl : k = L.length := by omega
      have i1 : ¬ (L.length : Int) < (L.length : Int) := by omega
      obtain ⟨a3, c3, rfl, s3⟩ := Sl.of hO
      rw [List.take_length] at hfo
      have G := hide' (GN.out wr a3 c3 R s3 (fun p hp => (hR p hp).ent) hfo)
      rw [hfo, hTT.out] at G
      clear GN hO hR s3 hfo hRl
      go_wp2_with fail
      refine G.out.mono ?_
      rintro e w9 h9
      have h8 := h9.from (bA.trans (hB.mono bA.size))
      obtain ⟨a2, c2, R2, rfl, h7⟩ := h8
      clear h9
      go_wp2
      go_ret
      exact ⟨a2, c2, R2, rfl, h7⟩
theorem lk_drop {α : Type} {u v : Int} (h : v ≠ u) : ∀ (R : List (Int × α)), lk (R.filter fun r => !(r.1 == u)) v = lk R v
  | [] => rfl
  | r :: R => by
    by_cases e : r.1 = u
    · rw [List.filter_cons_of_neg (by simp [e])]
      simp only [lk]
      rw [if_neg (by rw [e]; exact fun e2 => h e2.symm)]
      exact lk_drop h R
    · rw [List.filter_cons_of_pos (by simp [e])]
      simp only [lk]
      rw [lk_drop h R]
theorem bulT_drop {u : Int} : ∀ (R : List RowV), bulT (R.filter fun r => !(r.1 == u)) ≤ bulT R
  | [] => Nat.le_refl _
  | r :: R => by
    have ih := bulT_drop (u := u) R
    by_cases e : r.1 = u
    · rw [List.filter_cons_of_neg (by simp [e])]
      simp only [bulT]; omega
    · rw [List.filter_cons_of_pos (by simp [e])]
      simp only [bulT]; omega
theorem bulT_out {u : Int} {X : FV} : ∀ {R : List RowV}, lk R u = some X → bulT (R.filter fun r => !(r.1 == u)) + (bul X.L + 3) ≤ bulT R
  | [], h => by simp [lk] at h
  | r :: R, h => by
    simp only [lk] at h
    by_cases e : r.1 = u
    · rw [if_pos e] at h
      obtain rfl := Option.some.inj h
      rw [List.filter_cons_of_neg (by simp [e])]
      have := bulT_drop (u := u) R
      simp only [bulT]; omega
    · rw [if_neg e] at h
      have ih := bulT_out h
      rw [List.filter_cons_of_pos (by simp [e])]
      simp only [bulT]; omega
theorem bulkL_nfm {w w' : World} {F X : FV} (hF : F.nk w) (hX : X.ok w') (h : F.fo = nfm X.fo) : bulkL F.L ≤ 2 * bul X.L := by
  have h1 := bulkL_low F.L fun p hp => (hF.en p hp).low
  have h2 := wts_nfm X.fo
  have h3 := nfm_length X.fo
  have h4 := wts_bulk X.L hX.nums
  have h5 := bul_bulkL X.L
  have h6 := congrArg List.length h
  have h7 : X.fo.length = X.L.length := fo_length _
  have h8 : F.fo.length = F.L.length := fo_length _
  have h9 : wts (fo F.L) = wts (nfm X.fo) := congrArg wts h
  have h10 : wts (fo X.L) = wts X.fo := rfl
  omega
theorem costL_le {g : Int → Option FV} : ∀ (FL : List Mo) (R : List RowV), (FL.map (·.1)).Pairwise (· ≠ ·) → (∀ p ∈ FL, ∀ F, g p.1 = some F → ∃ X, lk R p.1 = some X ∧ bulkL F.L ≤ 2 * bul X.L) → costL g FL ≤ 2 * bulT R + 4 * FL.length + bulkL FL
  | [], R, _, _ => Nat.zero_le _
  | p :: FL, R, hd, hg => by
    rw [List.map_cons, List.pairwise_cons] at hd
    have ih : ∀ (R' : List RowV), (∀ q ∈ FL, ∀ F, g q.1 = some F → ∃ X, lk R' q.1 = some X ∧ bulkL F.L ≤ 2 * bul X.L) → _ := fun R' => costL_le FL R' hd.2
    simp only [costL, bulkL, List.length_cons]
    cases hp : g p.1 with
    | none =>
      have := ih R fun q hq => hg q (List.mem_cons_of_mem _ hq)
      simp only [cost1, hp]
      omega
    | some F =>
      obtain ⟨X, hX, hb⟩ := hg p List.mem_cons_self F hp
      have h1 := bulT_out hX
      have := ih (R.filter fun r => !(r.1 == p.1)) fun q hq F hF => by
        obtain ⟨Y, hY, hb⟩ := hg q (List.mem_cons_of_mem _ hq) F hF
        exact ⟨Y, by rw [lk_drop (fun e => hd.1 q.1 (List.mem_map.2 ⟨q, hq, rfl⟩) e.symm)]; exact hY, hb⟩
      simp only [cost1, hp]
      omega
theorem cost_fits {w w' : World} {a : Option Addr} {R : List RowV} {X : FV} (hT : TIn w a R) (hX : X.sm w) (hb : bulT R + bul X.L ≤ 1048576) (w1 : World) (g : Int → Option FV) (hG : RF w1 g (tb R)) (FL : List Mo) (hl : ∀ p ∈ FL, p.2.low) (hf : fo FL = nfm X.fo) : costL g FL ≤ 2097152 := by
  have hn := nfm_nrm X.fo
  have h1 := costL_le (g := g) FL R (by
    have h := hn.1
    rw [← hf] at h
    unfold fo at h
    rw [List.pairwise_map] at h ⊢
    exact h.imp fun hab => by simp only at hab; omega) fun p hp F hF => by
      obtain ⟨f, hlk, e⟩ := hG.hit hF
      rw [tb_lk] at hlk
      cases hr : lk R p.1 with
      | none => rw [hr] at hlk; cases hlk
      | some Y =>
        rw [hr] at hlk
        have e2 : Y.fo = f := Option.some.inj hlk
        exact ⟨Y, rfl, bulkL_nfm (hG.nk _ _ hF) (hT.forms _ (lk_mem hr)) (by rw [e, e2])⟩
  have h2 := bulkL_low FL hl
  have h3 := wts_nfm X.fo
  have h4 := nfm_length X.fo
  have h5 := wts_bulk X.L hX.ok.nums
  have h6 := bul_bulkL X.L
  have h7 : X.fo.length = X.L.length := fo_length _
  have h8 := congrArg List.length hf
  rw [fo_length] at h8
  rw [hf] at h2
  have h10 : wts (fo X.L) = wts X.fo := rfl
  omega
def dr (x : Int) (r : Int × Fo) : Rat := co x r.2 - (if r.1 = x then 1 else 0)
def dv (x v : Int) : Tb → Rat
  | [] => 0
  | r :: T => (if r.1 = v then dr x r else 0) + dv x v T
def ev (x : Int) (l : Fo) : Tb → Rat
  | [] => 0
  | r :: T => co r.1 l * dr x r + ev x l T
theorem dv_none {x v : Int} : ∀ {T : Tb}, (∀ r ∈ T, r.1 ≠ v) → dv x v T = 0
  | [], _ => rfl
  | r :: T, h => by
    simp only [dv]
    rw [if_neg (h r List.mem_cons_self), dv_none fun q hq => h q (List.mem_cons_of_mem _ hq)]
    exact Rat.add_zero _
theorem co_gal (x v : Int) : ∀ {T : Tb}, onceK T → co x (gal T v) = (if v = x then 1 else 0) + dv x v T
  | [], _ => by
    show co x [(v, 1)] = _
    simp only [co, dv]
  | r :: T, h => by
    have h1 := List.pairwise_cons.1 h
    by_cases e : r.1 = v
    · have hg : gal (r :: T) v = nfm r.2 := by unfold gal; simp [lk, e]
      rw [hg, nfm_co]
      simp only [dv]
      rw [if_pos e, dv_none fun q hq => fun e2 => h1.1 q hq (e.trans e2.symm)]
      unfold dr
      rw [e]
      grind
    · have hg : gal (r :: T) v = gal T v := by unfold gal; simp only [lk, if_neg e]
      rw [hg, co_gal x v h1.2]
      simp only [dv]
      rw [if_neg e]
      grind
theorem ev_cons (x : Int) (p : Int × Rat) (l : Fo) : ∀ T : Tb, ev x (p :: l) T = p.2 * dv x p.1 T + ev x l T
  | [] => by simp only [ev, dv]; grind
  | r :: T => by
    simp only [ev, dv, ev_cons x p l T, co]
    by_cases e : p.1 = r.1
    · rw [if_pos e, if_pos e.symm]; grind
    · rw [if_neg e, if_neg fun e2 => e e2.symm]; grind
theorem ev_nil (x : Int) : ∀ T : Tb, ev x [] T = 0
  | [] => rfl
  | r :: T => by simp only [ev, ev_nil x T, co]; grind
theorem co_exL (x : Int) {T : Tb} (h : onceK T) : ∀ l : Fo, co x (exL T l) = co x l + ev x l T
  | [] => by rw [ev_nil]; simp only [exL, co]; grind
  | p :: l => by
    simp only [exL]
    rw [co_append, co_scale, co_gal x p.1 h, co_exL x h l, ev_cons]
    simp only [co]
    by_cases e : p.1 = x
    · rw [if_pos e, if_pos e]; grind
    · rw [if_neg e, if_neg e]; grind
theorem ev_nfm (x : Int) (l : Fo) : ∀ T : Tb, ev x (nfm l) T = ev x l T
  | [] => rfl
  | r :: T => by simp only [ev, ev_nfm x l T, nfm_co]
def ac1 (f : Fo) (r : Int × Fo) : Fo := (r.1, -(co r.1 f)) :: fmap (fun z => co r.1 f * z) r.2
def acS (f : Fo) : Tb → Fo
  | [] => []
  | r :: T => ac1 f r ++ acS f T
theorem acS_append (f : Fo) : ∀ S T : Tb, acS f (S ++ T) = acS f S ++ acS f T
  | [], T => rfl
  | r :: S, T => by simp only [List.cons_append, acS, acS_append f S T, List.append_assoc]
theorem co_acS (x : Int) (f : Fo) : ∀ T : Tb, co x (acS f T) = ev x f T
  | [] => rfl
  | r :: T => by
    simp only [acS, ev]
    rw [co_append, co_acS x f T]
    unfold ac1 dr
    simp only [co]
    rw [co_scale]
    by_cases e : r.1 = x
    · rw [if_pos e, if_pos e, e]; grind
    · rw [if_neg e, if_neg e]; grind
theorem acS_exF {T : Tb} (h : onceK T) (f : Fo) : nfm (f ++ acS f T) = exF T f := by
  refine nfm_uniq (nfm_nrm _) fun x => ?_
  rw [nfm_co, co_append, co_acS, co_exL x h, nfm_co, ev_nfm]
theorem acS_step (f g : Fo) (S : Tb) (r : Int × Fo) (hg : g = nfm (f ++ acS f S)) : nfm (nfm (g ++ fmap (fun z => -z) [(r.1, co r.1 f)]) ++ nfm (fmap (fun z => co r.1 f * z) r.2)) = nfm (f ++ acS f (S ++ [r])) := by
  refine (nfm_uniq (nfm_nrm _) fun x => ?_)
  rw [nfm_co, co_append, nfm_co, co_append, nfm_co, co_neg, hg, nfm_co, acS_append, ← List.append_assoc, co_append (x := x) (l := f ++ acS f S)]
  show co x (f ++ acS f S) + -(co x [(r.1, co r.1 f)]) + co x (fmap (fun z => co r.1 f * z) r.2) = co x (f ++ acS f S) + co x (ac1 f r ++ [])
  unfold ac1
  rw [List.append_nil]
  simp only [co]
  grind
def hd : Fo → Int
  | [] => 0
  | p :: _ => sgn p.2.num
def Ld (c : Int → Rat) (s : Int) : Prop := (s = 0 ∧ ∀ x, c x = 0) ∨ (s ≠ 0 ∧ ∃ x, sgn (c x).num = s ∧ ∀ y, y < x → c y = 0)
theorem Ld.uniq {c : Int → Rat} {s t : Int} (h : Ld c s) (k : Ld c t) : s = t := by
  rcases h with ⟨rfl, h⟩ | ⟨hs, x, hx, h⟩
  · rcases k with ⟨rfl, _⟩ | ⟨ht, y, hy, _⟩
    · rfl
    · rw [h y] at hy; exact hy
  · rcases k with ⟨rfl, k⟩ | ⟨ht, y, hy, k⟩
    · rw [k x] at hx; exact hx.symm
    · rcases Int.lt_trichotomy x y with e | e | e
      · rw [k x e] at hx; exact absurd hx.symm hs
      · rw [← hx, ← hy, e]
      · rw [h y e] at hy; exact absurd hy.symm ht
theorem Ld.congr {c d : Int → Rat} {s : Int} (h : Ld c s) (e : ∀ x, c x = d x) : Ld d s := by
  have : c = d := funext e
  rw [← this]; exact h
theorem sgn_le {r : Rat} : sgn r.num ≤ 0 ↔ r ≤ 0 := by
  have h1 := Rat.num_nonneg (q := r)
  have h2 := Rat.num_eq_zero (q := r)
  unfold sgn
  split
  · rename_i h
    have : ¬ 0 ≤ r := fun k => by have := h1.2 k; omega
    exact ⟨fun _ => by grind, fun _ => by omega⟩
  · split
    · rename_i h k
      have := h2.1 k
      exact ⟨fun _ => by rw [this]; exact Rat.le_refl, fun _ => by omega⟩
    · rename_i h k
      have a : 0 ≤ r := h1.1 (by omega)
      have b : r ≠ 0 := fun e => k (h2.2 e)
      exact ⟨fun e => by omega, fun e => absurd (show r = 0 by grind) b⟩
theorem Ld.add {c d : Int → Rat} {s t u : Int} (h : Ld c s) (k : Ld d t) (j : Ld (fun x => c x + d x) u) (hs : s ≤ 0) (ht : t ≤ 0) : u ≤ 0 := by
  rcases h with ⟨rfl, h⟩ | ⟨hs0, x, hx, h⟩
  · have : u = t := j.uniq (k.congr fun y => by rw [h y, Rat.zero_add])
    omega
  · rcases k with ⟨rfl, k⟩ | ⟨ht0, y, hy, k⟩
    · have : u = s := j.uniq ((show Ld c s from Or.inr ⟨hs0, x, hx, h⟩).congr fun y => by rw [k y, Rat.add_zero])
      omega
    · have cx : c x ≤ 0 := sgn_le.1 (by omega)
      have dy : d y ≤ 0 := sgn_le.1 (by omega)
      have cx0 : c x ≠ 0 := fun e => by rw [e] at hx; exact hs0 hx.symm
      have dy0 : d y ≠ 0 := fun e => by rw [e] at hy; exact ht0 hy.symm
      have mk : ∀ z, (∀ y', y' < z → c y' + d y' = 0) → c z + d z ≤ 0 → c z + d z ≠ 0 → u ≤ 0 := fun z h1 h2 h3 => by
        have e : u = sgn (c z + d z).num := j.uniq (Or.inr ⟨fun e => h3 ((sgn_num _).1 e), z, rfl, h1⟩)
        rw [e]
        exact sgn_le.2 h2
      rcases Int.lt_trichotomy x y with e | e | e
      · refine mk x (fun z hz => by rw [h z hz, k z (by omega)]; exact Rat.add_zero _) (by rw [k x e, Rat.add_zero]; exact cx) (by rw [k x e, Rat.add_zero]; exact cx0)
      · subst e
        exact mk x (fun z hz => by rw [h z hz, k z hz]; exact Rat.add_zero _) (by grind) (by grind)
      · refine mk y (fun z hz => by rw [h z (by omega), k z hz]; exact Rat.add_zero _) (by rw [h y e, Rat.zero_add]; exact dy) (by rw [h y e, Rat.zero_add]; exact dy0)
set_option maxHeartbeats 2000000 in
set_option maxRecDepth 100000 in
theorem vlAddF_is (a : Option Addr) (ca : Nat) (L : List Mo) (b : Option Addr) (cb : Nat) (M : List Mo) (w : World) (sa : Sl w a ca L) (sb : Sl w b cb M) (hL : ∀ p ∈ L, p.2.ok w ∧ p.2.n ≤ 1099511627776 ∧ p.2.m ≤ 1099511627776) (hM : ∀ p ∈ M, p.2.ok w ∧ p.2.n ≤ 1099511627776 ∧ p.2.m ≤ 1099511627776) (hm : L.length + M.length ≤ 1048576) (hw : ∀ k x, sz 1099511627776 (co x ((fo L ++ fo M).take k))) :
    Calls Tryz.prog 90 #[.slice a L.length ca, .slice b M.length cb] w (FAns w (nfm (fo L ++ fo M))) := by
  have GN := hide' (fun w' (hb : Below w.heap.size w w') a3 c3 (s3 : Sl w' a3 c3 (L ++ M)) => vlNormF_is a3 c3 (L ++ M) w' s3.lies (fun p hp => by rcases List.mem_append.1 hp with h | h; exact ⟨(hL p h).1.later hb, (hL p h).2⟩; exact ⟨(hM p h).1.later hb, (hM p h).2⟩) s3.len (by rw [List.length_append]; omega) (fun k x => by rw [show fo ((L ++ M).take k) = (fo L ++ fo M).take k by rw [← fo_append]; unfold fo; rw [List.map_take]]; exact hw k x))
  rw [← fo_append]
  obtain ⟨TT, hTT⟩ : ∃ TT, nfm (fo (L ++ M)) = TT := ⟨_, rfl⟩
  rw [hTT] at GN ⊢
  clear hL hM hw hTT
  have hm1 : ([] : List Mo).length + L.length ≤ 4194304 := by simp only [List.length_nil]; omega
  have hm2 : L.length + M.length ≤ 4194304 := by omega
  have hO0 : w.ownsRow w.heap.size 76 4 (.slice none 0 0) ([] : List Mo).length (cellsF []) := World.ownsRow_nil _ _ _ _
  have hle := Nat.le_refl w.heap.size
  go_enter Tryz.func90, Tryz.ntmps90
  go_wp2_with (at_builtin; refine wpList_append_form (by rfl) _ _ _ (by rfl) w.heap.size (.slice none 0 0) [] L a ca Tryz.underlying35 (by rfl) (by rfl) hO0 sa hm1 hle ?_)
  intro v1 w1 hO1 hg1 hat1
  have b1 : Below w.heap.size w w1 := below_grown (Nat.le_refl _) (fun k h => by simp [Value.ownBlock] at h) hg1
  have hs1 := b1.size
  have sb1 := sb.later b1
  have hrow1 : ∀ k, v1.ownBlock = some k → w.heap.size ≤ k := fun k hk => by rcases hat1 with h | h; (rw [h] at hk; simp [Value.ownBlock] at hk); (rw [h] at hk; obtain rfl := Option.some.inj hk; exact Nat.le_refl _)
  replace hO1 : w1.ownsRow w.heap.size 76 4 v1 L.length (cellsF L) := by simpa using hO1
  clear hO0 hg1 hat1 sa sb
  go_wp2_with (at_builtin; refine wpList_append_form (by rfl) _ _ _ (by rfl) w.heap.size v1 L M b cb Tryz.underlying35 (by rfl) (by rfl) hO1 sb1 hm2 hs1 ?_)
  intro v2 w2 hO2 hg2 hat2
  have b2 : Below w.heap.size w1 w2 := below_grown hs1 hrow1 hg2
  have hB := b1.trans b2
  replace hO2 : w2.ownsRow w.heap.size 76 4 v2 (L ++ M).length (cellsF (L ++ M)) := by rw [List.length_append]; first | exact hO2 | simpa using hO2
  obtain ⟨a3, c3, rfl, s3⟩ := Sl.of hO2
  have G := hide' (GN.out _ hB a3 c3 s3)
  clear GN hO2 hg2 hat2 hO1 hrow1 sb1 s3
  obtain ⟨nn, hnn⟩ : ∃ nn, (L ++ M).length = nn := ⟨_, rfl⟩
  rw [hnn] at G ⊢
  clear hnn
  go_wp2_with fail
  refine G.out.mono ?_
  rintro e w3 h3
  have h4 := h3.from hB
  obtain ⟨a4, c4, R4, rfl, h5⟩ := h4
  clear h3
  go_wp2
  go_ret
  exact ⟨a4, c4, R4, rfl, h5⟩
theorem sub_same (l m : Fo) : nfm (l ++ nfm (fmap (fun r => (-1 : Rat) * r) m)) = nfm (l ++ fmap (fun r => -r) m) := nfm_uniq (nfm_nrm _) fun x => by rw [nfm_co, co_append, nfm_co, co_append, co_scale, co_neg]; grind
set_option maxHeartbeats 2000000 in
set_option maxRecDepth 100000 in
theorem vlSubF_is (a : Option Addr) (ca : Nat) (L : List Mo) (b : Option Addr) (cb : Nat) (M : List Mo) (K : Nat) (w : World) (sa : Sl w a ca L) (sb : Sl w b cb M) (hL : ∀ p ∈ L, p.2.ok w ∧ p.2.n ≤ 1099511627776 ∧ p.2.m ≤ 1099511627776) (hM : ∀ p ∈ M, p.2.ok w) (hm : L.length + M.length ≤ 1048576) (hK : ∀ p ∈ M, 2 + p.2.n + p.2.m ≤ K) (hK2 : 2 ≤ K) (hKm : K ≤ 17179869184)
    (hS : ∀ k x, sz 1099511627776 (co x ((fmap (fun r => (-1 : Rat) * r) (fo M)).take k))) (hA : ∀ k x, sz 1099511627776 (co x ((fo L ++ nfm (fmap (fun r => (-1 : Rat) * r) (fo M))).take k))) :
    Calls Tryz.prog 63 #[.slice a L.length ca, .slice b M.length cb] w (FAns w (nfm (fo L ++ fmap (fun r => -r) (fo M)))) := by
  have GW : ∀ w', Calls Tryz.prog 64 #[.int .i64 (-1)] w' fun e w'' => ∃ p q, e = .returned (.agg #[.bool (ng (-1 : Rat).num), .slice p (ln (am (-1 : Rat).num)) (ln (am (-1 : Rat).num)), .slice q (ln (-1 : Rat).den) (ln (-1 : Rat).den)]) ∧ New w' w'' p (am (-1 : Rat).num) (ln (am (-1 : Rat).num)) ∧ New w' w'' q (-1 : Rat).den (ln (-1 : Rat).den) := fun w' => vqWhole_is (-1) w' (by omega) (by omega)
  have l1 : ln (am (-1 : Rat).num) = 1 := by show ln (am (-1)) = _; rw [show am (-1) = 1 from rfl, ln_one]
  have l2 : ln (-1 : Rat).den = 1 := by show ln 1 = _; exact ln_one
  have hx : ∀ x, sz 1099511627776 (co x (fmap (fun r => (-1 : Rat) * r) (fo M))) := fun x => by have h := hS (fmap (fun r => (-1 : Rat) * r) (fo M)).length x; rwa [List.take_length] at h
  have GS' := fun w' (hb : Below w.heap.size w w') p q (k1 : Seg w' p (am (-1 : Rat).num) (ln (am (-1 : Rat).num))) (k2 : Seg w' q (-1 : Rat).den (ln (-1 : Rat).den)) => vlScaleF_is (RatV.of (-1 : Rat).num (-1 : Rat).den p q) b cb M K w' (sb.lies.later hb) (fun p hp => (hM p hp).later hb) sb.len (by omega) ⟨k1, Nat.le_refl _, by show ln (am (-1 : Rat).num) ≤ _; omega, k2, Nat.le_refl _, by show ln (-1 : Rat).den ≤ _; omega⟩ (fun p hp => by have := hK p hp; show ln (am (-1 : Rat).num) + ln (-1 : Rat).den + p.2.n + p.2.m ≤ K; omega) (by show ln (am (-1 : Rat).num) + ln (-1 : Rat).den ≤ K; omega) hKm (by rw [val_ofR]; exact hS)
  simp only [val_ofR] at GS'
  have hln := nfm_length (fmap (fun r => (-1 : Rat) * r) (fo M))
  rw [fmap_length, fo_length] at hln
  have GA := hide' (fun w' (hb : Below w.heap.size w w') a2 c2 (R : List Mo) (s2 : Sl w' a2 c2 R) (he : ∀ p ∈ R, Ent w' p) (hf : fo R = nfm (fmap (fun r => (-1 : Rat) * r) (fo M))) => vlAddF_is a ca L a2 c2 R w' (sa.later hb) s2 (fun p hp => ⟨(hL p hp).1.later hb, (hL p hp).2⟩) (fun p hp => by have h := entS_sz he hf hx p hp; exact ⟨h.ent.ok, h.ln1, h.ln2⟩) (by rw [← fo_length R, hf]; omega) (by rw [hf]; exact hA))
  have HE := hide' (sub_same (fo L) (fo M))
  obtain ⟨TT, hTT⟩ : ∃ TT, nfm (fo L ++ fmap (fun r => -r) (fo M)) = TT := ⟨_, rfl⟩
  rw [hTT] at HE ⊢
  clear hx hS hA
  obtain ⟨m1, hm1⟩ : ∃ m1 : Rat, -1 = m1 := ⟨_, rfl⟩
  rw [hm1] at GW GS' GA HE
  have GS := hide' GS'
  replace GW := hide' GW
  clear GS' hm1 hTT l1 l2 hln sa sb hL hM hm hK hK2 hKm
  go_enter Tryz.func63, Tryz.ntmps63
  go_wp2_with fail
  refine (GW.out _).mono ?_
  rintro e w1 ⟨p, q, rfl, n1, n2⟩
  have b1 := n1.below
  have k1 := n1.seg
  have k2 := n2.seg
  clear n1 n2
  go_wp2_with fail
  refine (GS.out _ b1 p q k1 k2).mono ?_
  rintro e w2 ⟨a2, c2, R2, rfl, b2, s2, e2, f2⟩
  have hB := b1.trans (b2.mono b1.size)
  go_wp2_with fail
  refine (GA.out _ hB a2 c2 R2 s2 e2 f2).mono ?_
  rintro e w3 h3
  rw [f2, HE.out] at h3
  have h4 := h3.from hB
  obtain ⟨a4, c4, R4, rfl, h5⟩ := h4
  clear h3
  go_wp2
  go_ret
  exact ⟨a4, c4, R4, rfl, h5⟩
theorem sz_add {r t : Rat} {N M : Nat} (h : sz N r) (k : sz M t) : sz (2 * N + 2 * M + 3) (r + t) := by
  have e : co 0 [(0, r), (0, t)] = r + t := by simp [co]; grind
  rw [← e]
  refine (co_sz 0 _).mono ?_
  simp only [wts, wt]
  have := h.1; have := h.2; have := k.1; have := k.2
  omega
theorem nrm_take {m : Fo} {M : Nat} (hm : nrm m) (h : ∀ y, sz M (co y m)) (hM : 1 ≤ M) (k : Nat) (x : Int) : sz M (co x (m.take k)) := by
  have hsub := List.take_sublist k m
  by_cases hx : ∃ p ∈ m.take k, p.1 = x
  · obtain ⟨p, hp, rfl⟩ := hx
    rw [(hm.sub hsub).co_mem hp, ← hm.co_mem (hsub.subset hp)]
    exact h _
  · rw [co_zero fun p hp e => hx ⟨p, hp, e⟩]
    exact sz_zero M hM
theorem fine_two {l m : Fo} {N M : Nat} (hl : ∀ k x, sz N (co x (l.take k))) (hm : nrm m) (h : ∀ y, sz M (co y m)) (hM : 1 ≤ M) (k : Nat) (x : Int) : sz (2 * N + 2 * M + 3) (co x ((l ++ m).take k)) := by
  rw [List.take_append, co_append]
  exact sz_add (hl k x) (nrm_take hm h hM _ x)
theorem wt_mulE (r t : Rat) : wt (r * t) ≤ wt r + wt t := by
  have e : r * t = Rat.divInt (r.num * t.num) ((r.den : Int) * (t.den : Int)) := by
    rw [← Rat.divInt_mul_divInt, Rat.num_divInt_den, Rat.num_divInt_den]
  have hl := (low_of (Int.mul_ne_zero (by have := r.den_pos; omega) (by have := t.den_pos; omega)) e).le
  have a1 := lt_prod (i := ln (am r.num)) (j := ln (am t.num)) (ln_lt (am r.num)) (ln_lt (am t.num))
  have a2 : am ((r.den : Int) * (t.den : Int)) < BB ^ (ln r.den + ln t.den) := lt_prod (by show r.den < _; exact ln_lt r.den) (by show t.den < _; exact ln_lt t.den)
  have b1 := ln_le_of_lt (Nat.lt_of_le_of_lt hl.1 a1)
  have b2 := ln_le_of_lt (Nat.lt_of_le_of_lt hl.2 a2)
  unfold wt
  omega
theorem wts_fmapE (c : Rat) : ∀ l : Fo, wts (fmap (fun z => c * z) l) ≤ l.length * wt c + wts l
  | [] => Nat.zero_le _
  | p :: l => by
    have ih := wts_fmapE c l
    have h1 := wt_mulE c p.2
    show wt (c * p.2) + wts (fmap (fun z => c * z) l) ≤ (l.length + 1) * wt c + (wt p.2 + wts l)
    rw [Nat.add_mul]
    omega
theorem wt_neg (r : Rat) : wt (-r) = wt r := by unfold wt; rw [Rat.neg_num, Rat.neg_den, am_neg]
theorem wt_sz {N : Nat} {r : Rat} (h : sz N r) : wt r ≤ 2 * N + 1 := by unfold wt; have := h.1; have := h.2; omega
def cntT : Tb → Nat
  | [] => 0
  | r :: T => r.2.length + 1 + cntT T
def wtsT : Tb → Nat
  | [] => 0
  | r :: T => wts r.2 + wtsT T
theorem wts_acS (f : Fo) : ∀ T : Tb, wts (acS f T) ≤ cntT T * (2 * wts f + 3) + wtsT T
  | [] => Nat.zero_le _
  | r :: T => by
    have ih := wts_acS f T
    have h1 := wt_sz (co_sz r.1 f)
    have h2 := wts_fmapE (co r.1 f) r.2
    have h3 : r.2.length * wt (co r.1 f) ≤ r.2.length * (2 * wts f + 3) := Nat.mul_le_mul_left _ (by omega)
    simp only [acS, cntT, wtsT]
    rw [wts_append, Nat.add_mul, Nat.add_mul, Nat.one_mul]
    show wt (-(co r.1 f)) + wts (fmap (fun z => co r.1 f * z) r.2) + wts (acS f T) ≤ _
    rw [wt_neg]
    omega
theorem acS_length (f : Fo) : ∀ T : Tb, (acS f T).length = cntT T
  | [] => rfl
  | r :: T => by
    simp only [acS, cntT, ac1, List.length_append, List.length_cons, fmap_length, acS_length f T]
theorem cnt_bul {w : World} : ∀ {R : List RowV}, (∀ r ∈ R, r.2.ok w) → 3 * cntT (tb R) ≤ bulT R ∧ wtsT (tb R) ≤ bulT R
  | [], _ => ⟨Nat.zero_le _, Nat.zero_le _⟩
  | r :: R, h => by
    have ih := cnt_bul fun s hs => h s (List.mem_cons_of_mem _ hs)
    have h1 := bul_len r.2.L
    have h2 := bul_bulkL r.2.L
    have h3 := wts_bulk r.2.L (h r List.mem_cons_self).nums
    have h4 : r.2.fo.length = r.2.L.length := fo_length _
    have h5 : wts r.2.fo = wts (fo r.2.L) := rfl
    show 3 * (r.2.fo.length + 1 + cntT (tb R)) ≤ bul r.2.L + 3 + bulT R ∧ wts r.2.fo + wtsT (tb R) ≤ bul r.2.L + 3 + bulT R
    omega
theorem bulT_take : ∀ (R : List RowV) (k : Nat), bulT (R.take k) ≤ bulT R
  | [], k => by simp
  | r :: R, 0 => Nat.zero_le _
  | r :: R, k + 1 => by have := bulT_take R k; simp only [List.take_succ_cons, bulT]; omega
theorem area {n B b : Nat} (h1 : 3 * n ≤ b) (h2 : b + B ≤ 1048576) : n * (2 * B + 3) ≤ 183255000000 := by
  have e : (3 * n + B) * (3 * n + B) ≤ 1048576 * 1048576 := Nat.mul_le_mul (by omega) (by omega)
  have e2 : 4 * (3 * n * B) ≤ (3 * n + B) * (3 * n + B) := by
    have h1 : 0 ≤ (((3 * n : Nat) : Int) - B) * (((3 * n : Nat) : Int) - B) := by
      rcases Int.le_total 0 (((3 * n : Nat) : Int) - B) with h2 | h2
      · exact Int.mul_nonneg h2 h2
      · exact Int.mul_nonneg_of_nonpos_of_nonpos h2 h2
    have h2 : (((3 * n : Nat) : Int) + B) * (((3 * n : Nat) : Int) + B) = 4 * (((3 * n : Nat) : Int) * B) + (((3 * n : Nat) : Int) - B) * (((3 * n : Nat) : Int) - B) := by grind
    have h3 : (4 * (((3 * n : Nat) : Int) * B)) ≤ (((3 * n : Nat) : Int) + B) * (((3 * n : Nat) : Int) + B) := by omega
    exact_mod_cast h3
  have e3 : n * (2 * B + 3) = 2 * (n * B) + 3 * n := by grind
  have e4 : 4 * (3 * n * B) = 12 * (n * B) := by grind
  omega
theorem ac_fits {w : World} {f : Fo} {R : List RowV} {B : Nat} (hR : ∀ r ∈ R, r.2.ok w) (hb : bulT R + B ≤ 1048576) (hf : wts f ≤ B) (hfl : 7 * f.length ≤ B) (k : Nat) :
    wts (f ++ acS f ((tb R).take k)) ≤ 183260000000 ∧ (nfm (f ++ acS f ((tb R).take k))).length ≤ 349526 := by
  rw [← tb_take]
  have h1 := cnt_bul (R := R.take k) fun r hr => hR r (List.mem_of_mem_take hr)
  have h2 := bulT_take R k
  have h3 := wts_acS f (tb (R.take k))
  have h4 := area (n := cntT (tb (R.take k))) (B := wts f) h1.1 (by omega)
  have h5 := nfm_length (f ++ acS f (tb (R.take k)))
  rw [List.length_append, acS_length] at h5
  rw [wts_append]
  have h6 : 3 * cntT (tb (R.take k)) ≤ bulT (R.take k) := h1.1
  constructor <;> omega
structure Exp (w : World) (f : Fo) (B : Nat) (R : List RowV) : Prop where
  ok : ∀ r ∈ R, r.2.ok w
  b : bulT R + B ≤ 1048576
  wB : wts f ≤ B
  len : 7 * f.length ≤ B
theorem Exp.cs {w : World} {f : Fo} {B : Nat} {R : List RowV} (h : Exp w f B R) (k : Nat) (x : Int) : sz 183260000001 (co x (nfm (f ++ acS f ((tb R).take k)))) := by
  rw [nfm_co]
  exact (co_sz x _).mono (by have := (ac_fits h.ok h.b h.wB h.len k).1; omega)
theorem Exp.csz {w : World} {f : Fo} {B : Nat} {R : List RowV} (h : Exp w f B R) (v : Int) : sz (B + 1) (co v f) := (co_sz v f).mono (by have := h.wB; omega)
def lessF (g : Fo) (v : Int) (c : Rat) : Fo := nfm (g ++ fmap (fun z => -z) [(v, c)])
theorem Exp.sub {w : World} {f : Fo} {B : Nat} {R : List RowV} (h : Exp w f B R) (k : Nat) (v : Int) (j : Nat) (x : Int) :
    sz 1099511627776 (co x ((nfm (f ++ acS f ((tb R).take k)) ++ nfm (fmap (fun z => (-1 : Rat) * z) [(v, co v f)])).take j)) := by
  have hb := h.b
  refine (fine_two (fun i y => nrm_take (nfm_nrm _) (h.cs k) (by omega) i y) (nfm_nrm _) (M := B + 3) (fun y => ?_) (by omega) j x).mono (by omega)
  rw [nfm_co, co_scale]
  have h1 : sz 1 (-1 : Rat) := ⟨by show ln (am (-1)) ≤ 1; rw [show am (-1) = 1 from rfl, ln_one]; exact Nat.le_refl _, by show ln 1 ≤ 1; rw [ln_one]; exact Nat.le_refl _⟩
  have h2 : sz (B + 2) (co y [(v, co v f)]) := by
    simp only [co]
    split
    · rw [Rat.add_zero]; exact (h.csz v).mono (by omega)
    · rw [Rat.add_zero]; exact ⟨by show ln (am 0) ≤ _; rw [show am 0 = 0 from rfl]; exact Nat.le_trans (ln_le_of_lt (n := 0) (by simp)) (Nat.zero_le _), by show ln 1 ≤ _; rw [ln_one]; omega⟩
  exact (sz_mul h1 h2).mono (by omega)
theorem Exp.less {w : World} {f : Fo} {B : Nat} {R : List RowV} (h : Exp w f B R) (k : Nat) (v : Int) (x : Int) : sz 183270000000 (co x (lessF (nfm (f ++ acS f ((tb R).take k))) v (co v f))) := by
  have e : co x (lessF (nfm (f ++ acS f ((tb R).take k))) v (co v f)) = co x ((f ++ acS f ((tb R).take k)) ++ fmap (fun z => -z) [(v, co v f)]) := by
    unfold lessF
    rw [nfm_co, co_append, nfm_co, ← co_append]
  rw [e]
  refine (co_sz x _).mono ?_
  rw [wts_append]
  have h1 := (ac_fits h.ok h.b h.wB h.len k).1
  have h2 := wt_sz (h.csz v)
  have h3 : wts (fmap (fun z => -z) [(v, co v f)]) = wt (-(co v f)) + 0 := rfl
  have hb := h.b
  rw [h3, wt_neg]
  omega
theorem Exp.scale {w : World} {f : Fo} {B : Nat} {R : List RowV} (h : Exp w f B R) {r : RowV} (hr : r ∈ R) (v : Int) (x : Int) : sz 2097155 (co x (nfm (fmap (fun z => co v f * z) r.2.fo))) := by
  rw [nfm_co, co_scale]
  have h1 := wts_bulk r.2.L (h.ok r hr).nums
  have h2 := bulT_mem hr
  have h3 := bul_bulkL r.2.L
  have h4 : wts r.2.fo = wts (fo r.2.L) := rfl
  have hb := h.b
  exact (sz_mul (h.csz v) (co_sz x r.2.fo)).mono (by omega)
theorem Exp.add {w : World} {f : Fo} {B : Nat} {R : List RowV} (h : Exp w f B R) (k : Nat) {r : RowV} (hr : r ∈ R) (v : Int) (j : Nat) (x : Int) :
    sz 1099511627776 (co x ((lessF (nfm (f ++ acS f ((tb R).take k))) v (co v f) ++ nfm (fmap (fun z => co v f * z) r.2.fo)).take j)) :=
  (fine_two (fun i y => nrm_take (nfm_nrm _) (h.less k v) (by omega) i y) (nfm_nrm _) (fun y => h.scale hr v y) (by omega) j x).mono (by omega)
structure RxI (w1 : World) (f : Fo) (T : Tb) (k : Nat) (vo : Value) (wr : World) : Prop where
  bel : Below w1.heap.size w1 wr
  form : ∃ (a : Option Addr) (c : Nat) (L : List Mo), vo = .slice a L.length c ∧ Sl wr a c L ∧ Ents wr L ∧ fo L = nfm (f ++ acS f (T.take k))
theorem mono_at {w : World} {b : Nat} {x : Int} {P : RatV} {t : TypeId} (h : w.heap[b]? = some (.cells #[.int .i64 x, .bool P.s, .slice P.a P.n P.c, .slice P.b P.m P.e] t (0, 0))) : Sl w (some ⟨b, 0, none⟩) 1 [(x, P)] :=
  ⟨fun _ => by
    refine ⟨b, 0, rfl, (Array.getElem?_eq_some_iff.1 h).1, fun i p hi => ?_⟩
    match i with
    | 0 =>
      simp only [List.getElem?_cons_zero, Option.some.injEq] at hi
      subst hi
      refine ⟨?_, ?_, ?_, ?_⟩ <;> simp [World.cell?, h]
    | i + 1 => simp at hi, Nat.le_refl _, fun h => (by cases h)⟩
set_option maxHeartbeats 16000000 in
set_option maxRecDepth 100000 in
theorem rexpress_is (V : Int) (a : Option Addr) (c : Nat) (R : List RowV) (X : FV) (w : World) (hT : TIn w a R) (hc : R.length ≤ c) (hX : X.sm w) (hb : bulT R + bul X.L ≤ 1048576) :
    Calls Tryz.prog 61 #[.agg #[.int .i64 V, .slice a R.length c], X.val] w (FAns w (nfm (X.fo ++ acS X.fo (tb R)))) := by
  obtain ⟨TQ, hTQ⟩ : ∃ TQ, FAns w (nfm (X.fo ++ acS X.fo (tb R))) = TQ := ⟨_, rfl⟩
  rw [hTQ]
  replace hTQ := hide' hTQ
  have hlen : 3 * R.length ≤ 1048576 := by have := bulT_len R; omega
  have HEx := hide' (show Exp w X.fo (bul X.L) R from ⟨hT.forms, hb, by have h1 := wts_bulk X.L hX.ok.nums; have h2 := bul_bulkL X.L; show wts (fo X.L) ≤ _; omega, by have h1 := bul_len X.L; have h2 : X.fo.length = X.L.length := fo_length _; omega⟩)
  have GN := hide' (fun w' (hb : Below w.heap.size w w') => rNormF_is X w' (hX.later hb))
  have GC := hide' (fun v w' (hb9 : Below w.heap.size w w') => show Calls Tryz.prog 60 #[X.val, .int .i64 v] w' (FrAns w' (co v X.fo)) from vlCoef_is X.a X.c X.L v w' ((hX.later hb9).ok.lies) (fun p hp => ⟨(hX.later hb9).ok.nums p hp, by have := bul_mem hp; omega, by have := bul_mem hp; omega⟩) hX.ok.len hX.len (sm_wts hX))
  obtain ⟨f, hf⟩ : ∃ f, X.fo = f := ⟨_, rfl⟩
  rw [hf] at hTQ GN GC HEx
  clear hf
  obtain ⟨B, hB9⟩ : ∃ B, bul X.L = B := ⟨_, rfl⟩
  rw [hB9] at HEx hb
  clear hB9 hX
  obtain ⟨Xv, hXv⟩ : ∃ v, X.val = v := ⟨_, rfl⟩
  rw [hXv] at GN GC ⊢
  clear hXv
  have bA := below_alloc (w := w) (.cells #[.int .i64 V, .slice a R.length c] 24)
  have m1 : (w.alloc (.cells #[.int .i64 V, .slice a R.length c] 24)).cell? ⟨w.heap.size, 1, none⟩ = some (.slice a R.length c) := by go_simp
  go_enter Tryz.func61, Tryz.ntmps61
  go_wp2_with fail
  obtain ⟨wA, hwA⟩ : ∃ wA, w.alloc (.cells #[.int .i64 V, .slice a R.length c] 24) = wA := ⟨_, rfl⟩
  rw [hwA] at bA m1 ⊢
  clear hwA
  refine (GN.out _ bA).mono ?_
  rintro e w1 ⟨a0, c0, L0, rfl, b1, s0, E0, f0⟩
  clear GN
  replace m1 := below_cell b1 m1
  have hB1 := bA.trans (b1.mono bA.size)
  clear bA b1
  have I0 : RxI w1 f (tb R) 0 (.slice a0 L0.length c0) w1 := ⟨Below.refl _ _, a0, c0, L0, rfl, s0, E0, by rw [f0]; simp [acS]⟩
  clear s0 E0 f0
  have HT := hide' hT
  clear hT
  go_wp2_with fail
  go_loopw [5, 6] (fun vo vi wr => ∃ k : Nat, k ≤ R.length ∧ vi = .int .i64 k ∧ RxI w1 f (tb R) k vo wr) (fun _ vi _ => R.length - (intOf vi).toNat)
  case atStart => exact ⟨0, Nat.zero_le _, rfl, I0⟩
  case round =>
    clear I0
    obtain ⟨k, hk, rfl, hI⟩ := hrel
    have hB := hI.bel
    have hBw := hB1.trans (hB.mono hB1.size)
    have n1 := below_cell hB m1
    obtain ⟨a2, c2, L, rfl, sL, EL, fL⟩ := hI.form
    clear hI
    by_cases hlt : k < R.length
    · obtain ⟨r, hr⟩ : ∃ r, R[k]? = some r := ⟨R[k], List.getElem?_eq_getElem hlt⟩
      have hrm := List.mem_of_getElem? hr
      obtain ⟨bb, off, rfl, hbb, hcell⟩ := HT.out.at_ (by intro e; rw [e] at hlt; simp at hlt)
      obtain ⟨d0, d1⟩ := hcell k r hr
      replace d0 := below_cell hBw d0
      replace d1 := below_cell hBw d1
      have hFr := (HT.out.forms r hrm).later hBw
      have hts : (tb R).take (k + 1) = (tb R).take k ++ [(r.1, r.2.fo)] := take_snoc (tb_at hr)
      have hbr := bulT_mem hrm
      have hbl := bul_len r.2.L
      have hlL : L.length ≤ 349526 := by have h := congrArg List.length fL; rw [fo_length] at h; have := (ac_fits HEx.out.ok HEx.out.b HEx.out.wB HEx.out.len k).2; omega
      have hEL := entS_sz EL fL (fun x => by have h := HEx.out.cs k x; rw [nfm_co] at h; exact h.mono (by omega))
      have GSc := hide' (fun (C : RatV) w' (hb9 : Below wr.heap.size wr w') (hC : C.ok w') (hv : C.val = co r.1 f) (hn : C.n ≤ B + 1) (hm : C.m ≤ B + 1) => show Calls Tryz.prog 91 #[.agg #[.bool C.s, .slice C.a C.n C.c, .slice C.b C.m C.e], r.2.val] w' (FAns w' (nfm (fmap (fun z => co r.1 f * z) r.2.fo))) from by
          have h := vlScaleF_is C r.2.a r.2.c r.2.L 8388608 w' (hFr.later hb9).lies (hFr.later hb9).nums hFr.len (by omega) hC (fun p hp => by have := bul_mem hp; omega) (by omega) (by omega) (fun j x => by
              have h2 : fine (fmap (fun z => co r.1 f * z) r.2.fo) := fine_scale (HEx.out.csz r.1) (by have h1 := wts_bulk r.2.L hFr.nums; have h3 := bul_bulkL r.2.L; have h4 : wts r.2.fo = wts (fo r.2.L) := rfl; omega)
              have h3 := h2 0 j x; rw [List.drop_zero] at h3; rw [hv]; exact h3)
          rw [hv] at h; exact h)
      have GSu := hide' (fun b2 (C : RatV) w' (hb9 : Below wr.heap.size wr w') (hM : Sl w' (some ⟨b2, 0, none⟩) 1 [(r.1, C)]) (hC : C.ok w') (hv : C.val = co r.1 f) (hn : C.n ≤ B + 1) (hm : C.m ≤ B + 1) => show Calls Tryz.prog 63 #[.slice a2 L.length c2, .slice (some ⟨b2, 0, none⟩) 1 1] w' (FAns w' (lessF (nfm (f ++ acS f ((tb R).take k))) r.1 (co r.1 f))) from by
          have e : fo [(r.1, C)] = [(r.1, co r.1 f)] := by show [(r.1, C.val)] = _; rw [hv]
          have h := vlSubF_is a2 c2 L (some ⟨b2, 0, none⟩) 1 [(r.1, C)] 8388608 w' (sL.later hb9) hM (fun p hp => ⟨(hEL p hp).ent.ok.later hb9, (hEL p hp).ln1, (hEL p hp).ln2⟩) (fun p hp => by obtain rfl := List.mem_singleton.1 hp; exact hC) (by simp only [List.length_cons, List.length_nil]; omega) (fun p hp => by obtain rfl := List.mem_singleton.1 hp; show 2 + C.n + C.m ≤ _; omega) (by omega) (by omega) (fun j x => by
              have h2 : fine (fmap (fun z => (-1 : Rat) * z) [(r.1, co r.1 f)]) := fine_scale (N := 1) ⟨by show ln (am (-1)) ≤ 1; rw [show am (-1) = 1 from rfl, ln_one]; exact Nat.le_refl _, by show ln 1 ≤ 1; rw [ln_one]; exact Nat.le_refl _⟩ (by have h5 := wt_sz (HEx.out.csz r.1); show 1 + (wt (co r.1 f) + 0 + 1) ≤ _; omega)
              have h3 := h2 0 j x; rw [List.drop_zero] at h3; rw [e]; exact h3) (fun j x => by rw [fL, e]; exact HEx.out.sub k r.1 j x)
          rw [e, fL] at h; exact h)
      have GAd := hide' (fun a4 c4 (M : List Mo) a5 c5 (N : List Mo) w' (sM : Sl w' a4 c4 M) (EM : Ents w' M) (fM : fo M = lessF (nfm (f ++ acS f ((tb R).take k))) r.1 (co r.1 f)) (sN : Sl w' a5 c5 N) (EN : Ents w' N) (fN : fo N = nfm (fmap (fun z => co r.1 f * z) r.2.fo)) => show Calls Tryz.prog 90 #[.slice a4 M.length c4, .slice a5 N.length c5] w' (FAns w' (nfm (f ++ acS f ((tb R).take (k + 1))))) from by
          have e1 := entS_sz EM (l := nfm (f ++ acS f ((tb R).take k)) ++ fmap (fun z => -z) [(r.1, co r.1 f)]) fM (fun x => by have h := HEx.out.less k r.1 x; unfold lessF at h; rw [nfm_co] at h; exact h.mono (by omega))
          have e2 := entS_sz EN fN (fun x => by have h := HEx.out.scale hrm r.1 x; rw [nfm_co] at h; exact h.mono (by omega))
          have l1 : M.length ≤ 349527 := by have h := congrArg List.length fM; rw [fo_length] at h; unfold lessF at h; have h2 := nfm_length (nfm (f ++ acS f ((tb R).take k)) ++ fmap (fun z => -z) [(r.1, co r.1 f)]); rw [List.length_append, fmap_length] at h2; have h3 := (ac_fits HEx.out.ok HEx.out.b HEx.out.wB HEx.out.len k).2; simp only [List.length_cons, List.length_nil] at h2; omega
          have l2 : N.length ≤ 149797 := by have h := congrArg List.length fN; rw [fo_length] at h; have h2 := nfm_length (fmap (fun z => co r.1 f * z) r.2.fo); rw [fmap_length] at h2; have h3 : r.2.fo.length = r.2.L.length := fo_length _; omega
          have h := vlAddF_is a4 c4 M a5 c5 N w' sM sN (fun p hp => ⟨(e1 p hp).ent.ok, (e1 p hp).ln1, (e1 p hp).ln2⟩) (fun p hp => ⟨(e2 p hp).ent.ok, (e2 p hp).ln1, (e2 p hp).ln2⟩) (by omega) (fun j x => by rw [fM, fN]; exact HEx.out.add k hrm r.1 j x)
          rw [fM, fN] at h
          have h2 := acS_step f (nfm (f ++ acS f ((tb R).take k))) ((tb R).take k) (r.1, r.2.fo) rfl
          simp only at h2; unfold lessF at h; rw [h2, ← hts] at h; exact h)
      have Hcs := hide' (HEx.out.csz r.1)
      obtain ⟨v, Y⟩ := r
      obtain ⟨Ya, Yc, YL⟩ := Y
      unfold FV.val at d1 GSc
      simp only at d0 d1 GSc GSu GAd Hcs
      obtain ⟨q, hq⟩ : ∃ q, co v f = q := ⟨_, rfl⟩
      have GC2 := hide' (fun w' (hb9 : Below w.heap.size w w') => GC.out v w' hb9)
      rw [hq] at GC2 GSc GSu Hcs
      try rw [hq] at GAd
      clear hq
      have j0 : (0 : Int) ≤ (k : Int) := by omega
      have j1 : (k : Int) < (R.length : Int) := by omega
      clear hcell hr hrm hFr hts hbr hbl hEL sL EL fL
      go_wp2_with fail
      refine (GC2.out _ hBw).mono ?_
      rintro e w2 ⟨p, p', rfl, b2, sp, sq, _, _⟩
      clear GC2
      obtain ⟨C, hC⟩ : ∃ C, RatV.of q.num q.den p p' = C := ⟨_, rfl⟩
      have hCo : C.ok w2 := by subst hC; exact ⟨sp, Nat.le_refl _, by show ln (am q.num) ≤ _; have := Hcs.out.1; omega, sq, Nat.le_refl _, by show ln q.den ≤ _; have := Hcs.out.2; omega⟩
      have hCv : C.val = q ∧ C.n ≤ B + 1 ∧ C.m ≤ B + 1 := by subst hC; exact ⟨val_ofR q p p', Hcs.out.1, Hcs.out.2⟩
      have hCe : ng q.num = C.s ∧ p = C.a ∧ ln (am q.num) = C.n ∧ ln (am q.num) = C.c ∧ p' = C.b ∧ ln q.den = C.m ∧ ln q.den = C.e := by subst hC; exact ⟨rfl, rfl, rfl, rfl, rfl, rfl, rfl⟩
      obtain ⟨e1, e2, e3, e4, e5, e6, e7⟩ := hCe
      have eV : (Value.agg #[.bool (ng q.num), .slice p (ln (am q.num)) (ln (am q.num)), .slice p' (ln q.den) (ln q.den)]) = .agg #[.bool C.s, .slice C.a C.n C.c, .slice C.b C.m C.e] := by subst hC; rfl
      rw [eV]
      clear eV e1 e2 e3 e4 e5 e6 e7 hC sp sq
      replace n1 := below_cell b2 n1
      replace d0 := below_cell b2 d0
      replace d1 := below_cell b2 d1
      have bT : Below wr.heap.size wr w2 := b2
      have bX := below_alloc (w := w2) (.cells #[.bool C.s, .slice C.a C.n C.c, .slice C.b C.m C.e] 74)
      have y0 : (w2.alloc (.cells #[.bool C.s, .slice C.a C.n C.c, .slice C.b C.m C.e] 74)).cell? ⟨w2.heap.size, 0, none⟩ = some (.bool C.s) := by go_simp
      have y1 : (w2.alloc (.cells #[.bool C.s, .slice C.a C.n C.c, .slice C.b C.m C.e] 74)).cell? ⟨w2.heap.size, 1, none⟩ = some (.slice C.a C.n C.c) := by go_simp
      have y2 : (w2.alloc (.cells #[.bool C.s, .slice C.a C.n C.c, .slice C.b C.m C.e] 74)).cell? ⟨w2.heap.size, 2, none⟩ = some (.slice C.b C.m C.e) := by go_simp
      obtain ⟨wX, hwX⟩ : ∃ wX, w2.alloc (.cells #[.bool C.s, .slice C.a C.n C.c, .slice C.b C.m C.e] 74) = wX := ⟨_, rfl⟩
      rw [hwX] at bX y0 y1 y2
      replace n1 := below_cell bX n1
      replace d0 := below_cell bX d0
      replace d1 := below_cell bX d1
      replace hCo := hCo.later bX
      replace bT := bT.trans (bX.mono bT.size)
      clear bX
      go_wp2_with (rw [hwX])
      have hM := mono_at (x := v) (P := C) (new7 wX #[.int .i64 v, .bool C.s, .slice C.a C.n C.c, .slice C.b C.m C.e] 76)
      have bY := below_alloc (w := wX) (.cells #[.int .i64 v, .bool C.s, .slice C.a C.n C.c, .slice C.b C.m C.e] 76)
      obtain ⟨b3, hb3⟩ : ∃ b3, wX.heap.size = b3 := ⟨_, rfl⟩
      rw [hb3] at hM ⊢
      obtain ⟨wY, hwY⟩ : ∃ wY, wX.alloc (.cells #[.int .i64 v, .bool C.s, .slice C.a C.n C.c, .slice C.b C.m C.e] 76) = wY := ⟨_, rfl⟩
      rw [hwY] at hM bY ⊢
      clear hwY hwX hb3
      replace n1 := below_cell bY n1
      replace d0 := below_cell bY d0
      replace d1 := below_cell bY d1
      replace y0 := below_cell bY y0
      replace y1 := below_cell bY y1
      replace y2 := below_cell bY y2
      replace hCo := hCo.later bY
      replace bT := bT.trans (bY.mono bT.size)
      clear bY
      refine (GSu.out b3 C wY bT hM hCo hCv.1 hCv.2.1 hCv.2.2).mono ?_
      rintro e w4 ⟨a4, c4, M, rfl, b4, sM, EM, fM⟩
      clear GSu hM
      replace n1 := below_cell b4 n1
      replace d0 := below_cell b4 d0
      replace d1 := below_cell b4 d1
      replace y0 := below_cell b4 y0
      replace y1 := below_cell b4 y1
      replace y2 := below_cell b4 y2
      replace hCo := hCo.later b4
      replace bT := bT.trans (b4.mono bT.size)
      clear b4
      have EM2 : Ents w4 M := EM
      clear EM
      go_wp2_with fail
      have bD : Below w4.heap.size w4 w4.drew := (Below.refl _ _).drew
      have kn1 := below_cell bD n1
      have kd1 := below_cell bD d1
      have ky0 := below_cell bD y0
      have ky1 := below_cell bD y1
      have ky2 := below_cell bD y2
      replace bT := bT.trans (bD.mono bT.size)
      replace hCo := hCo.later bD
      replace sM := sM.later bD
      replace EM2 := EM2.later bD
      refine wp_region_held_drew (S := fun w' => w'.cell? ⟨w.heap.size, 1, none⟩ = some (.slice (some ⟨bb, off, none⟩) R.length c) ∧ w'.cell? ⟨bb, off + k * 2 + 1, none⟩ = some (.slice Ya YL.length Yc) ∧ w'.cell? ⟨w2.heap.size, 0, none⟩ = some (.bool C.s) ∧ w'.cell? ⟨w2.heap.size, 1, none⟩ = some (.slice C.a C.n C.c) ∧ w'.cell? ⟨w2.heap.size, 2, none⟩ = some (.slice C.b C.m C.e)) (by kernel_rfl) ⟨kn1, kd1, ky0, ky1, ky2⟩ (fun hHeld => ?_)
      clear kn1 kd1 ky0 ky1 ky2
      generalize w4.drew = u4 at bD hCo sM EM2 bT hHeld ⊢
      clear bD n1 d1 y0 y1 y2
      refine tk 0 (v := ?_) rfl (Or.inl ⟨by rfl, ?_⟩) ?_
      rotate_left
      · intro w9 hSw
        go_simp
        first | done | with_reducible rfl
      simp only [pP, pN, pS, pZ, pC]
      refine tk 1 (v := ?_) rfl (Or.inl ⟨by rfl, ?_⟩) ?_
      rotate_left
      · intro w9 hSw
        go_simp
        first | done | with_reducible rfl
      simp only [pP, pN, pS, pZ, pC]
      refine tk 2 (v := ?_) rfl (Or.inl ⟨by rfl, ?_⟩) ?_
      rotate_left
      · intro w9 hSw
        go_simp
        first | done | with_reducible rfl
      simp only [pP, pN, pS, pZ, pC]
      refine tk 3 (v := ?_) rfl (Or.inl ⟨by rfl, ?_⟩) ?_
      rotate_left
      · intro w9 hSw
        go_simp
        first | done | with_reducible rfl
      simp only [pP, pN, pS, pZ, pC]
      refine tk 4 (v := ?_) rfl (Or.inl ⟨by rfl, ?_⟩) ?_
      rotate_left
      · intro w9 hSw
        go_simp
        first | done | with_reducible rfl
      simp only [pP, pN, pS, pZ, pC]
      refine tk 5 (v := ?_) rfl (Or.inl ⟨by rfl, ?_⟩) ?_
      rotate_left
      · intro w9 hSw
        go_simp
        first | done | with_reducible rfl
      simp only [pP, pN, pS, pZ, pC]
      refine tk 6 (v := ?_) rfl (Or.inl ⟨by rfl, ?_⟩) ?_
      rotate_left
      · intro w9 hSw
        go_simp
        first | done | with_reducible rfl
      simp only [pP, pN, pS, pZ, pC]
      refine tk 7 (v := ?_) rfl (Or.inl ⟨by rfl, ?_⟩) ?_
      rotate_left
      · intro w9 hSw
        go_simp
        first | done | with_reducible rfl
      simp only [pP, pN, pS, pZ, pC]
      refine wpAnyH_ready (rs := [8]) (by kernel_rfl) (by simp) ?_
      refine cons' rfl (fun KK hKK => ?_)
      go_simp
      refine (GSc.out C _ bT hCo hCv.1 hCv.2.1 hCv.2.2).mono ?_
      rintro e u5 ⟨a5, c5, N5, rfl, b5, sN, EN, fN⟩
      have bC := b5
      replace bT := bT.trans (bC.mono bT.size)
      replace hCo := hCo.later bC
      replace sM := sM.later bC
      replace EM2 := EM2.later bC
      replace hHeld := (⟨below_cell bC hHeld.1, below_cell bC hHeld.2.1, below_cell bC hHeld.2.2.1, below_cell bC hHeld.2.2.2.1, below_cell bC hHeld.2.2.2.2⟩ : _ ∧ _ ∧ _ ∧ _ ∧ _)
      clear bC
      go_wp2_with fail
      have EN2 : Ents u5 N5 := EN
      clear b5 GSc EN hCo
      refine hKK.out _ _ hHeld ?_
      clear hHeld
      intro hHeld
      clear hKK KK
      try simp only [pP, pN, pS, pZ, pC]
      refine wpAnyH_ready (rs := [9]) (by kernel_rfl) (by simp) ?_
      refine cons' rfl (fun KK hKK => ?_)
      go_simp
      refine (GAd.out a4 c4 M a5 c5 N5 _ sM EM2 fM sN EN2 fN).mono ?_
      rintro e u6 ⟨a6, c6, Q, rfl, b6, sQ, EQ, fQ⟩
      have bC := b6
      replace bT := bT.trans (bC.mono bT.size)
      replace sM := sM.later bC
      replace EM2 := EM2.later bC
      replace sN := sN.later bC
      replace EN2 := EN2.later bC
      replace hHeld := (⟨below_cell bC hHeld.1, below_cell bC hHeld.2.1, below_cell bC hHeld.2.2.1, below_cell bC hHeld.2.2.2.1, below_cell bC hHeld.2.2.2.2⟩ : _ ∧ _ ∧ _ ∧ _ ∧ _)
      clear bC
      go_wp2_with fail
      have EQ2 : Ents u6 Q := EQ
      clear b6 GAd EQ sM EM2 sN EN2 fM fN
      refine hKK.out _ _ hHeld ?_
      clear hHeld
      intro hHeld
      clear hKK KK
      try simp only [pP, pN, pS, pZ, pC]
      refine tk 10 (v := ?_) rfl (Or.inl ⟨by rfl, ?_⟩) ?_
      rotate_left
      · intro w9 hSw
        go_simp
        first | done | with_reducible rfl
      simp only [pP, pN, pS, pZ, pC]
      refine wpAnyH_done (by kernel_rfl) ?_ _
      go_wp2
      go_roundw
      case rel => exact ⟨k + 1, by omega, by go_num, hB.trans (bT.mono hB.size), a6, c6, Q, rfl, sQ, EQ2, fQ⟩
      case measure => simp only [intOf]; omega
    · obtain rfl : k = R.length := by omega
      have j0 : ¬ (R.length : Int) < (R.length : Int) := by omega
      have eT : (tb R).take R.length = tb R := by rw [← tb_length R, List.take_length]
      rw [eT] at fL
      have HX := hide' (show FAns w (nfm (f ++ acS f (tb R))) (.returned (.slice a2 L.length c2)) wr from ⟨a2, c2, L, rfl, hBw, sL, EL, fL⟩)
      rw [hTQ.out] at HX
      clear sL EL fL HEx GC HT
      go_wp2
      first | exact HX.out | (go_ret; exact HX.out)
open Go.ChangeShapes Go.WideShapes Go.ChangeAt Go.RowKit Go.Deep
set_option maxRecDepth 100000 in
theorem open_Int2B {H : Type} {enc : TypeId × Value → H} {W : World} {c0 c1 : Value} {d : DataW H} {p : List MemPlace}
    (h : DataW.Trod enc Tryz.prog W 0 (fun _ => true) true 72 (.agg #[c0, c1]) d p)
    (hsz : (d.weights Tryz.prog 72).all (· ≤ reachBytes) = true) :
    ∃ s a len cap X, c0 = .bool s ∧ c1 = .slice a len cap ∧ Seg W a X len ∧ len ≤ cap ∧ len ≤ 35184372087808 ∧ len + 3 ≤ Rows.uptoBulk d := by
  obtain ⟨fuel, hf⟩ := h
  obtain ⟨y0, y1, n, hx, hl, h0, h1⟩ := trod_struct2 Tryz.underlying72 hf
  simp only [Value.cells, List.drop_zero, cells_bool, cells_nat] at h0 h1
  change DataW.trod enc _ _ _ _ _ n 4 [c0] = _ at h0
  change DataW.trod enc _ _ _ _ _ n 70 [c1] = _ at h1
  obtain ⟨b', hb, hx0⟩ := DataW.trod_bool Tryz.underlying4 h0
  simp only [List.cons.injEq, and_true] at hb
  subst hb hx0
  simp only [Prod.mk.injEq] at hx
  obtain ⟨rfl, rfl⟩ := hx
  have hc1 : ∃ a len cap, c1 = .slice a len cap := by
    rcases open_ints A_under_nat Tryz.underlying123 (by kernel_rfl) h1 with ⟨hcs, _⟩ | ⟨x, l, c, zs, hcs, _⟩
    · simp at hcs; exact ⟨_, _, _, hcs⟩
    · simp at hcs; exact ⟨_, _, _, hcs⟩
  obtain ⟨a, len, cap, rfl⟩ := hc1
  obtain ⟨y1d, y1p⟩ := y1
  obtain ⟨X, hS, hc, hb, hu⟩ := open_nat (len := len) (cap := cap) (a := a) (d := y1d) (p := y1p) A_under_nat ⟨n, h1⟩ (fun elems spare e => by
    have e' : y1d = .slice elems spare := e
    subst e'
    have hu := Tryz.underlying72
    simp only [DataW.weights, hu, DataW.weightsEach, List.map] at hsz
    simp only [List.all_append, Bool.and_eq_true] at hsz
    have h2 := hsz.2.1
    simp only [A_under_nat] at h2
    simp only [List.all_cons, Bool.and_eq_true, decide_eq_true_eq] at h2
    exact h2.1)
  exact ⟨b', a, len, cap, X, rfl, rfl, hS, hc, hb, by simp only [Rows.uptoBulk, Rows.uptoBulkAll] at hu ⊢; omega⟩
set_option maxRecDepth 100000 in
theorem open_Rat3B {H : Type} {enc : TypeId × Value → H} {W : World} {c0 c1 c2 : Value} {d : DataW H} {p : List MemPlace} {fuel : Nat}
    (hf : DataW.trod enc Tryz.prog W 0 (fun _ => true) true fuel 74 [c0, c1, c2] = some (d, p))
    (hsz : (d.weights Tryz.prog 74).all (· ≤ reachBytes) = true) :
    ∃ q : RatV, c0 = .bool q.s ∧ c1 = .slice q.a q.n q.c ∧ c2 = .slice q.b q.m q.e ∧ q.ok W ∧ q.n + q.m + 5 ≤ Rows.uptoBulk d := by
  obtain ⟨y0, y1, n, hx, hl, h0, h1⟩ := trod_struct2 Tryz.underlying74 hf
  simp only [List.drop_zero, cells_Int, cells_nat] at h0 h1
  change DataW.trod enc _ _ _ _ _ n 72 [c0, c1] = _ at h0
  change DataW.trod enc _ _ _ _ _ n 70 [c2] = _ at h1
  simp only [Prod.mk.injEq] at hx
  obtain ⟨rfl, rfl⟩ := hx
  have hc2 : ∃ a len cap, c2 = .slice a len cap := by
    rcases open_ints A_under_nat Tryz.underlying123 (by kernel_rfl) h1 with ⟨hcs, _⟩ | ⟨x, l, c, zs, hcs, _⟩
    · simp at hcs; exact ⟨_, _, _, hcs⟩
    · simp at hcs; exact ⟨_, _, _, hcs⟩
  obtain ⟨b, m, e, rfl⟩ := hc2
  obtain ⟨y0d, y0p⟩ := y0
  obtain ⟨y1d, y1p⟩ := y1
  have hu := Tryz.underlying74
  simp only [DataW.weights, hu, DataW.weightsEach, List.map] at hsz
  simp only [List.all_append, Bool.and_eq_true] at hsz
  obtain ⟨s, a, len, cap, X, rfl, rfl, hS, hc, hb, hu0⟩ := open_Int2B (c0 := c0) (c1 := c1) (d := y0d) (p := y0p) ⟨n, h0⟩ hsz.1
  obtain ⟨Y, hT, hd, hk, hu1⟩ := open_nat (len := m) (cap := e) (a := b) (d := y1d) (p := y1p) A_under_nat ⟨n, h1⟩ (fun elems spare e => by
    have e' : y1d = .slice elems spare := e
    subst e'
    have h2 := hsz.2.1
    simp only [DataW.weights, A_under_nat] at h2
    simp only [List.all_cons, Bool.and_eq_true, decide_eq_true_eq] at h2
    exact h2.1)
  exact ⟨⟨s, a, len, cap, X, b, m, e, Y⟩, rfl, rfl, rfl, ⟨hS, hc, Nat.le_trans hb (by omega), hT, hd, Nat.le_trans hk (by omega)⟩, by simp only [Rows.uptoBulk, Rows.uptoBulkAll] at hu0 hu1 ⊢; omega⟩
set_option maxRecDepth 100000 in
theorem open_Mono4B {H : Type} {enc : TypeId × Value → H} {W : World} {k c0 c1 c2 : Value} {d : DataW H} {p : List MemPlace} {fuel : Nat}
    (hf : DataW.trod enc Tryz.prog W 0 (fun _ => true) true fuel 76 [k, c0, c1, c2] = some (d, p))
    (hsz : (d.weights Tryz.prog 76).all (· ≤ reachBytes) = true) :
    ∃ (v : Int) (q : RatV), k = .int .i64 v ∧ (Lit.int .i64 v).wf = true ∧ c0 = .bool q.s ∧ c1 = .slice q.a q.n q.c ∧ c2 = .slice q.b q.m q.e ∧ q.ok W ∧ q.n + q.m + 7 ≤ Rows.uptoBulk d := by
  obtain ⟨y0, y1, n, hx, hl, h0, h1⟩ := trod_struct2 Tryz.underlying76 hf
  simp only [List.drop_zero, cells_int, cells_Rat] at h0 h1
  change DataW.trod enc _ _ _ _ _ n 3 [k] = _ at h0
  change DataW.trod enc _ _ _ _ _ n 74 [c0, c1, c2] = _ at h1
  simp only [Prod.mk.injEq] at hx
  obtain ⟨rfl, rfl⟩ := hx
  obtain ⟨v, hv, hx0, hw⟩ := DataW.trod_int Tryz.underlying3 h0
  simp only [List.cons.injEq, and_true] at hv
  subst hv
  obtain ⟨y0d, y0p⟩ := y0
  obtain ⟨y1d, y1p⟩ := y1
  simp only [Prod.mk.injEq] at hx0
  obtain ⟨rfl, rfl⟩ := hx0
  have hu := Tryz.underlying76
  simp only [DataW.weights, hu, DataW.weightsEach, List.map] at hsz
  simp only [List.all_append, Bool.and_eq_true] at hsz
  obtain ⟨q, r0, r1, r2, hok, hbk⟩ := open_Rat3B h1 hsz.2.1
  exact ⟨v, q, rfl, hw, r0, r1, r2, hok, by simp only [Rows.uptoBulk, Rows.uptoBulkAll] at hbk ⊢; omega⟩
theorem bul_append : ∀ (L M : List Mo), bul (L ++ M) = bul L + bul M
  | [], M => by simp [bul]
  | p :: L, M => by simp only [List.cons_append, bul, bul_append L M]; omega
theorem bul_mos {H : Type} {D : Nat → DataW H} {v : Nat → Int} {q : Nat → RatV} : ∀ (n : Nat), (∀ i, i < n → (q i).n + (q i).m + 7 ≤ Rows.uptoBulk (D i)) → bul (mos v q n) ≤ Rows.uptoBulkAll ((List.range n).map D)
  | 0, _ => by simp [mos, bul]
  | n + 1, h => by
    have h1 := bul_mos (v := v) n fun i hi => h i (by omega)
    have h2 := h n (by omega)
    unfold mos at h1 ⊢
    rw [List.range_succ, List.map_append, List.map_append, bulkAll_append, bul_append]
    simp only [List.map, bul, Rows.uptoBulkAll]
    omega
set_option maxRecDepth 100000 in
theorem open_FormB {H : Type} {enc : TypeId × Value → H} {W : World} {cs : List Value} {d : DataW H} {p : List MemPlace} {fuel : Nat}
    (hf : DataW.trod enc Tryz.prog W 0 (fun _ => true) true fuel 35 cs = some (d, p))
    (hsz : (d.weights Tryz.prog 35).all (· ≤ reachBytes) = true) :
    ∃ F : FV, cs = [F.val] ∧ F.ok W ∧ wfo F.fo ∧ bul F.L + 1 ≤ Rows.uptoBulk d := by
  rcases open_slice Tryz.underlying35 hf with ⟨rfl, hx⟩ | ⟨a, len, cap, m, n, D, Pl, rfl, hb, hl, hm, hmm, hx, hel⟩
  · simp only [Prod.mk.injEq] at hx
    obtain ⟨rfl, rfl⟩ := hx
    exact ⟨⟨none, 0, []⟩, rfl, ⟨fun h => absurd rfl h, fun p hp => by simp at hp, Nat.le_refl _⟩, fun p hp => by simp [FV.fo, fo] at hp, by simp [bul, Rows.uptoBulk]⟩
  · simp only [Prod.mk.injEq] at hx
    obtain ⟨rfl, rfl⟩ := hx
    have hu := Tryz.underlying35
    simp only [DataW.weights, hu] at hsz
    simp only [List.all_cons, List.all_append, Bool.and_eq_true, decide_eq_true_eq, bytes_Mono, List.length_map, List.length_range] at hsz
    obtain ⟨hs0, hs1, _⟩ := hsz
    simp only [if_true] at hmm
    have each : ∀ i, i < len → ∃ z : Int × RatV, (W.cell? (a.add (i * 4)) = some (.int .i64 z.1) ∧ W.cell? (a.add (i * 4 + 1)) = some (.bool z.2.s) ∧ W.cell? (a.add (i * 4 + 2)) = some (.slice z.2.a z.2.n z.2.c) ∧ W.cell? (a.add (i * 4 + 3)) = some (.slice z.2.b z.2.m z.2.e)) ∧
        ((Lit.int .i64 z.1).wf = true ∧ z.2.ok W) ∧ z.2.n + z.2.m + 7 ≤ Rows.uptoBulk (D i) := by
      intro i hi
      obtain ⟨cs', h1, h2⟩ := hel i (by omega)
      rw [cells_Mono] at h1
      obtain ⟨_, hlen, hcell⟩ := World.cells?_some h1
      match cs', hlen with
      | [k, c0, c1, c2], _ =>
        obtain ⟨v, q, rfl, hw, rfl, rfl, rfl, hok, hbk⟩ := open_Mono4B h2 (weightsAll_mem hs1 (List.mem_map.2 ⟨i, List.mem_range.2 hi, rfl⟩))
        have e0 := hcell 0 (by omega)
        have e1 := hcell 1 (by omega)
        have e2 := hcell 2 (by omega)
        have e3 := hcell 3 (by omega)
        rw [add_add] at e0 e1 e2 e3
        exact ⟨(v, q), ⟨by simpa using e0, by simpa using e1, by simpa using e2, by simpa using e3⟩, ⟨hw, hok⟩, hbk⟩
    obtain ⟨z, hq⟩ := choose_lt each
    have hF : FormAt W (some a) len (fun i => (z i).1) (fun i => (z i).2) := fun hn => by
      obtain ⟨b, off, spot⟩ := a
      have h0 := (hq 0 hn).1.1
      have hspot : spot = none := by simpa [Addr.add] using World.cell?_spot h0
      subst hspot
      have ea : ∀ j, (Addr.mk b off none).add j = ⟨b, off + j, none⟩ := fun j => by unfold Addr.add; split <;> simp_all
      refine ⟨b, off, rfl, ?_, fun i hi => ?_⟩
      · rw [ea] at h0
        obtain ⟨cur, e, fr, hb, _⟩ := Sort.cells_of_cell? h0
        exact (Array.getElem?_eq_some_iff.1 hb).1
      · have := (hq i hi).1
        simp only [ea] at this
        exact ⟨this.1, this.2.1, this.2.2.1, this.2.2.2⟩
    refine ⟨⟨some a, cap, mos (fun i => (z i).1) (fun i => (z i).2) len⟩, by unfold FV.val; simp only [mos_length], ⟨mos_at hF, fun p hp => ?_, by simp only [mos_length]; exact hl⟩, fun p hp => ?_, ?_⟩
    · obtain ⟨i, hi, rfl⟩ := mos_mem hp
      exact (hq i hi).2.1.2
    · unfold FV.fo fo at hp
      obtain ⟨r, hr, rfl⟩ := List.mem_map.1 hp
      obtain ⟨i, hi, rfl⟩ := mos_mem hr
      exact (hq i hi).2.1.1
    · have := bul_mos (D := D) (v := fun i => (z i).1) (q := fun i => (z i).2) len fun i hi => (hq i hi).2.2
      simp only [Rows.uptoBulk]
      omega
theorem cells_Form : Tryz.prog.cellsOf 35 = 1 := by kernel_rfl
theorem cells_Row : Tryz.prog.cellsOf 65 = 2 := by kernel_rfl
theorem bytes_Row : Tryz.prog.bytesOf 65 = 32 := by kernel_rfl
set_option maxRecDepth 100000 in
theorem open_Row2 {H : Type} {enc : TypeId × Value → H} {W : World} {c0 c1 : Value} {d : DataW H} {p : List MemPlace} {fuel : Nat}
    (hf : DataW.trod enc Tryz.prog W 0 (fun _ => true) true fuel 65 [c0, c1] = some (d, p))
    (hsz : (d.weights Tryz.prog 65).all (· ≤ reachBytes) = true) :
    ∃ r : RowV, c0 = .int .i64 r.1 ∧ c1 = r.2.val ∧ wfI r.1 ∧ r.2.ok W ∧ wfo r.2.fo ∧ bul r.2.L + 3 ≤ Rows.uptoBulk d := by
  obtain ⟨y0, y1, n, hx, hl, h0, h1⟩ := trod_struct2 Tryz.underlying65 hf
  simp only [List.drop_zero, cells_int, cells_Form] at h0 h1
  change DataW.trod enc _ _ _ _ _ n 3 [c0] = _ at h0
  change DataW.trod enc _ _ _ _ _ n 35 [c1] = _ at h1
  simp only [Prod.mk.injEq] at hx
  obtain ⟨rfl, rfl⟩ := hx
  obtain ⟨v, hv, hx0, hw⟩ := DataW.trod_int Tryz.underlying3 h0
  simp only [List.cons.injEq, and_true] at hv
  subst hv
  obtain ⟨y0d, y0p⟩ := y0
  obtain ⟨y1d, y1p⟩ := y1
  simp only [Prod.mk.injEq] at hx0
  obtain ⟨rfl, rfl⟩ := hx0
  have hu := Tryz.underlying65
  simp only [DataW.weights, hu, DataW.weightsEach, List.map] at hsz
  simp only [List.all_append, Bool.and_eq_true] at hsz
  obtain ⟨F, hF, hok, hwf, hb⟩ := open_FormB h1 hsz.2.1
  simp only [List.cons.injEq, and_true] at hF
  exact ⟨(v, F), rfl, hF, hw, hok, hwf, by simp only [Rows.uptoBulk, Rows.uptoBulkAll] at hb ⊢; omega⟩
theorem bulT_append : ∀ (R S : List RowV), bulT (R ++ S) = bulT R + bulT S
  | [], S => by simp [bulT]
  | r :: R, S => by simp only [List.cons_append, bulT, bulT_append R S]; omega
theorem bulT_le {H : Type} {D : Nat → DataW H} {z : Nat → RowV} : ∀ (n : Nat), (∀ i, i < n → bul (z i).2.L + 3 ≤ Rows.uptoBulk (D i)) → bulT ((List.range n).map z) ≤ Rows.uptoBulkAll ((List.range n).map D)
  | 0, _ => by simp [bulT]
  | n + 1, h => by
    have h1 := bulT_le n fun i hi => h i (by omega)
    have h2 := h n (by omega)
    rw [List.range_succ, List.map_append, List.map_append, bulkAll_append, bulT_append]
    simp only [List.map, bulT, Rows.uptoBulkAll]
    omega
set_option maxRecDepth 100000 in
theorem open_RowsB {H : Type} {enc : TypeId × Value → H} {W : World} {cs : List Value} {d : DataW H} {p : List MemPlace} {fuel : Nat}
    (hf : DataW.trod enc Tryz.prog W 0 (fun _ => true) true fuel 22 cs = some (d, p))
    (hsz : (d.weights Tryz.prog 22).all (· ≤ reachBytes) = true) :
    ∃ (a : Option Addr) (c : Nat) (R : List RowV), cs = [.slice a R.length c] ∧ TIn W a R ∧ (∀ r ∈ R, wfo r.2.fo) ∧ R.length ≤ c ∧ bulT R + 1 ≤ Rows.uptoBulk d := by
  rcases open_slice Tryz.underlying22 hf with ⟨rfl, hx⟩ | ⟨a, len, cap, m, n, D, Pl, rfl, hb, hl, hm, hmm, hx, hel⟩
  · simp only [Prod.mk.injEq] at hx
    obtain ⟨rfl, rfl⟩ := hx
    exact ⟨none, 0, [], rfl, ⟨fun h => absurd rfl h, fun p hp => by simp at hp, fun p hp => by simp at hp⟩, fun p hp => by simp at hp, Nat.le_refl _, by simp [bulT, Rows.uptoBulk]⟩
  · simp only [Prod.mk.injEq] at hx
    obtain ⟨rfl, rfl⟩ := hx
    have hu := Tryz.underlying22
    simp only [DataW.weights, hu] at hsz
    simp only [List.all_cons, List.all_append, Bool.and_eq_true, decide_eq_true_eq, bytes_Row, List.length_map, List.length_range] at hsz
    obtain ⟨hs0, hs1, _⟩ := hsz
    simp only [if_true] at hmm
    have each : ∀ i, i < len → ∃ z : RowV, (W.cell? (a.add (i * 2)) = some (.int .i64 z.1) ∧ W.cell? (a.add (i * 2 + 1)) = some z.2.val) ∧ (wfI z.1 ∧ z.2.ok W ∧ wfo z.2.fo) ∧ bul z.2.L + 3 ≤ Rows.uptoBulk (D i) := by
      intro i hi
      obtain ⟨cs', h1, h2⟩ := hel i (by omega)
      rw [cells_Row] at h1
      obtain ⟨_, hlen, hcell⟩ := World.cells?_some h1
      match cs', hlen with
      | [c0, c1], _ =>
        obtain ⟨r, rfl, rfl, hw, hok, hwf, hbk⟩ := open_Row2 h2 (weightsAll_mem hs1 (List.mem_map.2 ⟨i, List.mem_range.2 hi, rfl⟩))
        have e0 := hcell 0 (by omega)
        have e1 := hcell 1 (by omega)
        rw [add_add] at e0 e1
        exact ⟨r, ⟨by simpa using e0, by simpa using e1⟩, ⟨hw, hok, hwf⟩, hbk⟩
    obtain ⟨z, hq⟩ := choose_lt each
    have hmem : ∀ r ∈ (List.range len).map z, ∃ i, i < len ∧ r = z i := fun r hr => by
      obtain ⟨i, hi, rfl⟩ := List.mem_map.1 hr
      exact ⟨i, List.mem_range.1 hi, rfl⟩
    refine ⟨some a, cap, (List.range len).map z, by simp, ⟨fun hn => ?_, fun r hr => ?_, fun r hr => ?_⟩, fun r hr => ?_, by simpa using hl, ?_⟩
    · have h0 : 0 < len := by
        rcases Nat.eq_zero_or_pos len with e | e
        · subst e; exact absurd rfl hn
        · exact e
      obtain ⟨b, off, spot⟩ := a
      have hc0 := (hq 0 h0).1.1
      have hspot : spot = none := by simpa [Addr.add] using World.cell?_spot hc0
      subst hspot
      have ea : ∀ j, (Addr.mk b off none).add j = ⟨b, off + j, none⟩ := fun j => by unfold Addr.add; split <;> simp_all
      refine ⟨b, off, rfl, ?_, fun i p hi => ?_⟩
      · rw [ea] at hc0
        obtain ⟨cur, e, fr, hb, _⟩ := Sort.cells_of_cell? hc0
        exact (Array.getElem?_eq_some_iff.1 hb).1
      · rw [List.getElem?_map] at hi
        have hin : i < len := by
          rcases Nat.lt_or_ge i len with h1 | h1
          · exact h1
          · rw [List.getElem?_eq_none (by rw [List.length_range]; exact h1)] at hi; cases hi
        rw [List.getElem?_range hin] at hi
        obtain rfl := Option.some.inj hi
        have := (hq i hin).1
        simp only [ea] at this
        exact this
    · obtain ⟨i, hi, rfl⟩ := hmem r hr
      exact (hq i hi).2.1.2.1
    · obtain ⟨i, hi, rfl⟩ := hmem r hr
      exact (hq i hi).2.1.1
    · obtain ⟨i, hi, rfl⟩ := hmem r hr
      exact (hq i hi).2.1.2.2
    · have := bulT_le (D := D) (z := z) len fun i hi => (hq i hi).2.2
      simp only [Rows.uptoBulk]
      omega
theorem cells_Tab : Tryz.prog.cellsOf 24 = 2 := by kernel_rfl
theorem cells_RowSl : Tryz.prog.cellsOf 22 = 1 := by kernel_rfl
set_option maxRecDepth 100000 in
theorem open_Tab {H : Type} {enc : TypeId × Value → H} {W : World} {r : Reach} {b0 : Nat} {v : Value} {d : DataW H} {p : List MemPlace}
    (hv : Value.okWide Tryz.prog W r b0 24 v) (h : DataW.Trod enc Tryz.prog W 0 (fun _ => true) true 24 v d p)
    (hsz : (d.weights Tryz.prog 24).all (· ≤ reachBytes) = true) :
    ∃ (V : Int) (a : Option Addr) (c : Nat) (R : List RowV), v = .agg #[.int .i64 V, .slice a R.length c] ∧ wfI V ∧ TIn W a R ∧ (∀ r ∈ R, wfo r.2.fo) ∧ R.length ≤ c ∧ bulT R + 3 ≤ Rows.uptoBulk d := by
  obtain ⟨cs, rfl, hcs⟩ := okWide_struct Tryz.underlying24 hv
  obtain ⟨fuel, hf⟩ := h
  rw [cells_Tab] at hcs
  obtain ⟨c0, c1, rfl⟩ : ∃ c0 c1, cs = #[c0, c1] := by
    match cs, hcs with
    | ⟨[c0, c1]⟩, _ => exact ⟨c0, c1, rfl⟩
  obtain ⟨y0, y1, n, hx, hl, h0, h1⟩ := trod_struct2 Tryz.underlying24 hf
  simp only [Value.cells, List.drop_zero, cells_int, cells_RowSl] at h0 h1
  change DataW.trod enc _ _ _ _ _ n 3 [c0] = _ at h0
  change DataW.trod enc _ _ _ _ _ n 22 [c1] = _ at h1
  simp only [Prod.mk.injEq] at hx
  obtain ⟨rfl, rfl⟩ := hx
  obtain ⟨v, hv, hx0, hw⟩ := DataW.trod_int Tryz.underlying3 h0
  simp only [List.cons.injEq, and_true] at hv
  subst hv
  obtain ⟨y0d, y0p⟩ := y0
  obtain ⟨y1d, y1p⟩ := y1
  simp only [Prod.mk.injEq] at hx0
  obtain ⟨rfl, rfl⟩ := hx0
  have hu := Tryz.underlying24
  simp only [DataW.weights, hu, DataW.weightsEach, List.map] at hsz
  simp only [List.all_append, Bool.and_eq_true] at hsz
  obtain ⟨a, c, R, hR, hT, hwf, hc, hb⟩ := open_RowsB h1 hsz.2.1
  simp only [List.cons.injEq, and_true] at hR
  subst hR
  exact ⟨v, a, c, R, rfl, hw, hT, hwf, hc, by simp only [Rows.uptoBulk, Rows.uptoBulkAll] at hb ⊢; omega⟩
def EpA (w : World) (V : Int) (T : Tb) (f : Fo) (e : Ending) (w' : World) : Prop := Below w.heap.size w w' ∧
  ((¬ mayBe V T ∧ e = .returned (.tuple #[.slice none 0 0, .int .i64 70])) ∨ (mayBe V T ∧ ¬ inV V f ∧ e = .returned (.tuple #[.slice none 0 0, .int .i64 61])) ∨
   (mayBe V T ∧ inV V f ∧ ∃ F : FV, e = .returned (.tuple #[F.val, .int .i64 0]) ∧ F.fo = exF T f ∧ F.nk w'))
set_option maxHeartbeats 8000000 in
set_option maxRecDepth 100000 in
theorem pExpressT_is (V : Int) (a : Option Addr) (c : Nat) (R : List RowV) (X : FV) (w : World) (hT : TIn w a R) (hc : R.length ≤ c) (hw : ∀ r ∈ R, wfo r.2.fo) (hX : X.sm w) (hwX : wfo X.fo) (hb : bulT R + bul X.L ≤ 1048576) :
    Calls Tryz.prog 33 #[.agg #[.int .i64 V, .slice a R.length c], X.val] w (EpA w V (tb R) X.fo) := by
  obtain ⟨TQ, hTQ⟩ : ∃ TQ, EpA w V (tb R) X.fo = TQ := ⟨_, rfl⟩
  rw [hTQ]
  replace hTQ := hide' hTQ
  have GR := hide' (fun w' (hb9 : Below w.heap.size w w') => tabRead_is V a c R w' (hT.later hb9) hc (by omega) hw)
  have GX := hide' (fun w' (hb9 : Below w.heap.size w w') b g (hM : MapT w' b R.length g) (hG : RF w' g (tb R)) => pexpress_is V b R.length g (tb R) X w' hM hG (hX.later hb9) hwX (cost_fits (w' := w) hT hX hb w' g hG))
  clear hT hw hX hwX hb
  obtain ⟨f, hf⟩ : ∃ f, X.fo = f := ⟨_, rfl⟩
  rw [hf] at hTQ GX
  clear hf
  obtain ⟨Xv, hXv⟩ : ∃ v, X.val = v := ⟨_, rfl⟩
  rw [hXv] at GX ⊢
  clear hXv
  have b1 := below_alloc (w := w) (.cells #[.int .i64 V, .slice a R.length c] 24)
  have m0 : (w.alloc (.cells #[.int .i64 V, .slice a R.length c] 24)).cell? ⟨w.heap.size, 0, none⟩ = some (.int .i64 V) := by go_simp
  have m1 : (w.alloc (.cells #[.int .i64 V, .slice a R.length c] 24)).cell? ⟨w.heap.size, 1, none⟩ = some (.slice a R.length c) := by go_simp
  have hBw := b1
  clear b1
  go_enter Tryz.func33, Tryz.ntmps33
  go_wp2_with fail
  obtain ⟨wA, hwA⟩ : ∃ wA, (w.alloc (.cells #[.int .i64 V, .slice a R.length c] 24)) = wA := ⟨_, rfl⟩
  rw [hwA] at m0 m1 hBw ⊢
  clear hwA
  refine (GR.out _ hBw).mono ?_
  rintro e w1 ⟨b1, ⟨hmb, rfl⟩ | ⟨hmb, b, g, rfl, hbb, hM, hRF⟩⟩
  · have hB := hBw.trans (b1.mono hBw.size)
    clear GR GX
    have HX := hide' (show EpA w V (tb R) f (.returned (.tuple #[.slice none 0 0, .int .i64 70])) _ from ⟨hB, Or.inl ⟨hmb, rfl⟩⟩)
    rw [hTQ.out] at HX
    go_wp2
    first | exact HX.out | (go_ret; exact HX.out) | (refine bodyPost_ret (v := .tuple #[.slice none 0 0, .int .i64 70]) (by rw [results_tt rfl]; go_simp) rfl ?_; exact HX.out)
  · have hB := hBw.trans (b1.mono hBw.size)
    replace m0 := below_cell b1 m0
    have G2 := hide' (GX.out w1 hB b g hM hRF)
    have HMB := hide' hmb
    clear GR GX hM hRF hmb
    go_wp2_with fail
    refine G2.out.mono ?_
    rintro e w2 ⟨b2, ⟨hin, F, rfl, hfo, hnk⟩ | ⟨hin, rfl⟩⟩
    · have hB2 := hB.trans (b2.mono hB.size)
      have HX := hide' (show EpA w V (tb R) f (.returned (.tuple #[F.val, .int .i64 0])) _ from ⟨hB2, Or.inr (Or.inr ⟨HMB.out, hin, F, rfl, hfo, hnk⟩)⟩)
      rw [hTQ.out] at HX
      go_wp2
      first | exact HX.out | (go_ret; exact HX.out) | (refine bodyPost_ret (v := .tuple #[F.val, .int .i64 0]) (by rw [results_tt rfl]; go_simp) rfl ?_; exact HX.out)
    · have hB2 := hB.trans (b2.mono hB.size)
      have HX := hide' (show EpA w V (tb R) f (.returned (.tuple #[.slice none 0 0, .int .i64 61])) _ from ⟨hB2, Or.inr (Or.inl ⟨HMB.out, hin, rfl⟩)⟩)
      rw [hTQ.out] at HX
      go_wp2
      first | exact HX.out | (go_ret; exact HX.out) | (refine bodyPost_ret (v := .tuple #[.slice none 0 0, .int .i64 61]) (by rw [results_tt rfl]; go_simp) rfl ?_; exact HX.out)
set_option maxHeartbeats 8000000 in
set_option maxRecDepth 100000 in
theorem rExpressT_is (V : Int) (a : Option Addr) (c : Nat) (R : List RowV) (X : FV) (w : World) (hT : TIn w a R) (hc : R.length ≤ c) (hw : ∀ r ∈ R, wfo r.2.fo) (hX : X.sm w) (hwX : wfo X.fo) (hb : bulT R + bul X.L ≤ 1048576) :
    Calls Tryz.prog 34 #[.agg #[.int .i64 V, .slice a R.length c], X.val] w (EpA w V (tb R) X.fo) := by
  obtain ⟨TQ, hTQ⟩ : ∃ TQ, EpA w V (tb R) X.fo = TQ := ⟨_, rfl⟩
  rw [hTQ]
  replace hTQ := hide' hTQ
  have GC := hide' (fun w' (hb9 : Below w.heap.size w w') => rCheck_is V a c R w' ⟨hT.later hb9, by omega⟩ hc)
  have GK := hide' (fun w' (hb9 : Below w.heap.size w w') => rknows_is V a R.length c X w' (hX.later hb9))
  have GX := hide' (fun w' (hb9 : Below w.heap.size w w') => rexpress_is V a c R X w' (hT.later hb9) hc (hX.later hb9) hb)
  clear hT hw hX hwX hb
  obtain ⟨f, hf⟩ : ∃ f, X.fo = f := ⟨_, rfl⟩
  rw [hf] at hTQ GX GK
  clear hf
  obtain ⟨Xv, hXv⟩ : ∃ v, X.val = v := ⟨_, rfl⟩
  rw [hXv] at GX GK ⊢
  clear hXv
  have b1 := below_alloc (w := w) (.cells #[.int .i64 V, .slice a R.length c] 24)
  have m0 : (w.alloc (.cells #[.int .i64 V, .slice a R.length c] 24)).cell? ⟨w.heap.size, 0, none⟩ = some (.int .i64 V) := by go_simp
  have m1 : (w.alloc (.cells #[.int .i64 V, .slice a R.length c] 24)).cell? ⟨w.heap.size, 1, none⟩ = some (.slice a R.length c) := by go_simp
  have hBw := b1
  clear b1
  go_enter Tryz.func34, Tryz.ntmps34
  go_wp2_with fail
  obtain ⟨wA, hwA⟩ : ∃ wA, (w.alloc (.cells #[.int .i64 V, .slice a R.length c] 24)) = wA := ⟨_, rfl⟩
  rw [hwA] at m0 m1 hBw ⊢
  clear hwA
  refine (GC.out _ hBw).mono ?_
  rintro e w1 ⟨b1, ⟨hmb, rfl⟩ | ⟨hmb, rfl⟩⟩
  · have hB := hBw.trans (b1.mono hBw.size)
    replace m0 := below_cell b1 m0
    replace m1 := below_cell b1 m1
    have HMB := hide' hmb
    have HD := hide' (GK.out w1 hB)
    clear GC GK hmb b1 hBw
    cases hd : inVs V (vsN f) with
    | false =>
      have HD2 := HD.out
      rw [hd] at HD2
      replace HD2 := hide' HD2
      have HIn := hide' (show ¬ inV V f from by rw [← inVs_iff, hd]; simp)
      clear hd HD
      go_wp2_with fail
      refine HD2.out.mono ?_
      rintro e w2 ⟨rfl, b2⟩
      have hB2 := hB.trans (b2.mono hB.size)
      have HX := hide' (show EpA w V (tb R) f (.returned (.tuple #[.slice none 0 0, .int .i64 61])) _ from ⟨hB2, Or.inr (Or.inl ⟨HMB.out, HIn.out, rfl⟩)⟩)
      rw [hTQ.out] at HX
      go_wp2
      first | exact HX.out | (go_ret; exact HX.out) | (refine bodyPost_ret (v := .tuple #[.slice none 0 0, .int .i64 61]) (by rw [results_tt rfl]; go_simp) rfl ?_; exact HX.out)
    | true =>
      have HD2 := HD.out
      rw [hd] at HD2
      replace HD2 := hide' HD2
      have HIn := hide' (show inV V f from by exact inVs_iff.1 hd)
      clear hd HD
      go_wp2_with fail
      refine HD2.out.mono ?_
      rintro e w2 ⟨rfl, b2⟩
      have hB2 := hB.trans (b2.mono hB.size)
      replace m0 := below_cell b2 m0
      replace m1 := below_cell b2 m1
      clear b2 HD2
      go_wp2_with fail
      refine (GX.out _ hB2).mono ?_
      rintro e w3 ⟨a3, c3, L3, rfl, b3, s3, E3, f3⟩
      have hB3 := hB2.trans (b3.mono hB2.size)
      have HX := hide' (show EpA w V (tb R) f (.returned (.tuple #[.slice a3 L3.length c3, .int .i64 0])) _ from ⟨hB3, Or.inr (Or.inr ⟨HMB.out, HIn.out, ⟨a3, c3, L3⟩, rfl, by rw [← acS_exF HMB.out.once]; exact f3, s3, E3⟩)⟩)
      rw [hTQ.out] at HX
      go_wp2
      first | exact HX.out | (go_ret; exact HX.out) | (refine bodyPost_ret (v := .tuple #[.slice a3 L3.length c3, .int .i64 0]) (by rw [results_tt rfl]; go_simp) rfl ?_; exact HX.out)
  · have hB := hBw.trans (b1.mono hBw.size)
    clear GC GK GX
    have HX := hide' (show EpA w V (tb R) f (.returned (.tuple #[.slice none 0 0, .int .i64 70])) _ from ⟨hB, Or.inl ⟨hmb, rfl⟩⟩)
    rw [hTQ.out] at HX
    go_wp2
    first | exact HX.out | (go_ret; exact HX.out) | (refine bodyPost_ret (v := .tuple #[.slice none 0 0, .int .i64 70]) (by rw [results_tt rfl]; go_simp) rfl ?_; exact HX.out)
end Go.Proofs.YtlklfkkbdcglbaaGreat
namespace Go.Proofs.YtlklfkkbdcglbaaGreat.tableauExpresses
open Go.ChangeShapes Go.WideShapes Go.ChangeAt Go.RowKit Go.Proofs.YtlklfkkbdcglbaaGreat
set_option linter.unusedVariables false
theorem wfo_sg {S R : List RowV} (h : S.map sgR = R.map sgR) (hw : ∀ r ∈ R, wfo r.2.fo) : ∀ r ∈ S, wfo r.2.fo := fun r hr => by
  obtain ⟨s, hs, _, e⟩ := sgR_mem h hr
  rw [e]
  exact hw s hs
theorem nilF (w : World) : FV.nk w ⟨none, 0, []⟩ := ⟨⟨fun h => absurd rfl h, Nat.le_refl _, fun _ => rfl⟩, fun p hp => absurd hp (by simp)⟩
theorem epA_fix (V : Int) {w0 : World} {R : List RowV} {f : Fo} {B : Nat} (h : Exp w0 f B R) : ∃ (code : Int) (g : Fo), g.length ≤ 349526 ∧ ∀ w e w', EpA w V (tb R) f e w' → ∃ F : FV, e = .returned (.tuple #[F.val, .int .i64 code]) ∧ F.fo = g ∧ F.nk w' ∧ Below w.heap.size w w' := by
  by_cases hm : mayBe V (tb R)
  · by_cases hi : inV V f
    · refine ⟨0, exF (tb R) f, ?_, ?_⟩
      · rw [← acS_exF hm.once]
        have := (ac_fits h.ok h.b h.wB h.len (tb R).length).2
        rwa [List.take_length] at this
      · rintro w e w' ⟨hb, ⟨h1, _⟩ | ⟨_, h1, _⟩ | ⟨_, _, F, rfl, h2, h3⟩⟩
        · exact absurd hm h1
        · exact absurd hi h1
        · exact ⟨F, rfl, h2, h3, hb⟩
    · refine ⟨61, [], by simp, ?_⟩
      rintro w e w' ⟨hb, ⟨h1, _⟩ | ⟨_, _, rfl⟩ | ⟨_, h1, _⟩⟩
      · exact absurd hm h1
      · exact ⟨⟨none, 0, []⟩, rfl, rfl, nilF _, hb⟩
      · exact absurd h1 hi
  · refine ⟨70, [], by simp, ?_⟩
    rintro w e w' ⟨hb, ⟨_, rfl⟩ | ⟨h1, _⟩ | ⟨h1, _⟩⟩
    · exact ⟨⟨none, 0, []⟩, rfl, rfl, nilF _, hb⟩
    · exact absurd h1 hm
    · exact absurd h1 hm
set_option maxHeartbeats 16000000 in
set_option maxRecDepth 100000 in
theorem walkM (V : Int) (a : Option Addr) (c : Nat) (R : List RowV) (X : FV) (w : World) (hT : TIn w a R) (hw : ∀ r ∈ R, wfo r.2.fo) (hc : R.length ≤ c) (hX : X.ok w) (hwX : wfo X.fo) (hb : bulT R + bul X.L ≤ 1048576) :
    Calls Tryz.prog 6 #[.agg #[.int .i64 V, .slice a R.length c], X.val] w fun e w' => e = .returned (.bool true) ∧ Below w.heap.size w w' := by
  have hXs : X.sm w := ⟨hX, by omega⟩
  obtain ⟨code, g, hg, HU⟩ := epA_fix V (show Exp w X.fo (bul X.L) R from ⟨hT.forms, hb, by have h1 := wts_bulk X.L hX.nums; have h2 := bul_bulkL X.L; show wts (fo X.L) ≤ _; omega, by have h1 := bul_len X.L; have h2 : X.fo.length = X.L.length := fo_length _; omega⟩)
  have GT := hide' (fun w' (hb9 : Below w.heap.size w w') => twin_is V a c R w' (hT.later hb9) hc (by omega))
  have GM := hide' (fun w' (hb9 : Below w.heap.size w w') => memForm_is X w' (hX.later hb9) (by have := bul_len X.L; omega))
  have GE := hide' (fun w' a2 c2 (S : List RowV) (Y : FV) (hS : TIn w' a2 S) (hl : S.length ≤ c2) (hs : S.map sgR = R.map sgR) (hY : Y.ok w') (hy : Y.L.map sigM = X.L.map sigM) => show Calls Tryz.prog 33 #[.agg #[.int .i64 V, .slice a2 S.length c2], Y.val] w' (fun e w'' => ∃ F : FV, e = .returned (.tuple #[F.val, .int .i64 code]) ∧ F.fo = g ∧ F.nk w'' ∧ Below w'.heap.size w' w'') from by
      have e1 : Y.fo = X.fo := sig_fo hy
      have e2 := sig_bul hy
      have e3 := sgR_bul hs
      have h := pExpressT_is V a2 c2 S Y w' hS hl (wfo_sg hs hw) ⟨hY, by omega⟩ (by rw [e1]; exact hwX) (by omega)
      rw [sgR_tb hs, e1] at h
      exact h.mono fun e w2 h2 => HU _ _ _ h2)
  have GR := hide' (fun w' (hb9 : Below w.heap.size w w') => show Calls Tryz.prog 34 #[.agg #[.int .i64 V, .slice a R.length c], X.val] w' (fun e w'' => ∃ F : FV, e = .returned (.tuple #[F.val, .int .i64 code]) ∧ F.fo = g ∧ F.nk w'' ∧ Below w'.heap.size w' w'') from (rExpressT_is V a c R X w' (hT.later hb9) hc hw (hXs.later hb9) hwX hb).mono fun e w2 h2 => HU _ _ _ h2)
  have GS := hide' (fun w' (Y Z : FV) (hY : Y.nk w') (hZ : Z.nk w') (h1 : Y.fo = g) (h2 : Z.fo = g) => show Calls Tryz.prog 25 #[Y.val, Z.val] w' fun e w'' => e = .returned (.bool true) ∧ Below w'.heap.size w' w'' from SameForm7_is Y.a Y.c Y.L Z.a Z.c Z.L w' hY.sl.lies hZ.sl.lies hY.en hZ.en hY.sl.len hZ.sl.len (by have h3 := congrArg List.length h1; have h4 : Y.fo.length = Y.L.length := fo_length _; omega) (h1.trans h2.symm))
  have GL := hide' (fun w' => lives_is w')
  clear hT hw hX hwX hb hXs HU
  obtain ⟨Xv, hXv⟩ : ∃ v, X.val = v := ⟨_, rfl⟩
  rw [hXv] at GM GR ⊢
  clear hXv
  have hBw := below_alloc (w := w) (.cells #[.int .i64 V, .slice a R.length c] 24)
  have kX := Bk2.new w V a R.length c 24
  go_enter Tryz.func6, Tryz.ntmps6
  have x0 := kX.cell0
  have x1 := kX.cell1
  go_wp2_with fail
  clear x0 x1
  obtain ⟨wA, hwA⟩ : ∃ wA, w.alloc (.cells #[.int .i64 V, .slice a R.length c] 24) = wA := ⟨_, rfl⟩
  rw [hwA] at hBw kX ⊢
  clear hwA
  refine (GT.out _ hBw).mono ?_
  rintro e u1 ⟨S, a2, c2, rfl, bN, hS, hl, hs⟩
  replace kX := kX.later bN
  replace hBw := hBw.trans (bN.mono hBw.size)
  clear bN
  clear GT
  go_wp2_with fail
  refine (GM.out _ hBw).mono ?_
  rintro e u2 ⟨Y, rfl, hY, _, hy, _, bN⟩
  replace kX := kX.later bN
  replace hS := hS.later bN
  replace hBw := hBw.trans (bN.mono hBw.size)
  clear bN
  clear GM
  have eY : Y.val = .slice Y.a Y.L.length Y.c := rfl
  go_wp2_with fail
  refine (GE.out _ a2 c2 S Y hS hl hs hY hy).mono ?_
  rintro e u3 ⟨F1, rfl, f1, k1, bN⟩
  replace kX := kX.later bN
  replace hBw := hBw.trans (bN.mono hBw.size)
  clear bN
  clear GE hS hl hs hY hy eY
  have x0 := kX.cell0
  have x1 := kX.cell1
  go_wp2_with fail
  clear x0 x1
  refine (GR.out _ hBw).mono ?_
  rintro e u4 ⟨F2, rfl, f2, k2, bN⟩
  replace kX := kX.later bN
  replace k1 := k1.later bN
  replace hBw := hBw.trans (bN.mono hBw.size)
  clear bN
  clear GR
  go_wp2_with fail
  refine (GS.out _ F1 F2 k1 k2 f1 f2).mono ?_
  rintro e u5 ⟨rfl, bN⟩
  replace kX := kX.later bN
  replace hBw := hBw.trans (bN.mono hBw.size)
  clear bN
  clear GS k1 k2 f1 f2
  go_wp2_with fail
  refine (GL.out _).mono ?_
  rintro e u6 ⟨rfl, bN⟩
  replace kX := kX.later bN
  replace hBw := hBw.trans (bN.mono hBw.size)
  clear bN
  clear GL
  go_wp2
  first | exact ⟨rfl, hBw⟩ | (go_ret; exact ⟨rfl, hBw⟩)
theorem walk (V : Int) (a : Option Addr) (c : Nat) (R : List RowV) (fa : Option Addr) (fc : Nat) (fL : List Mo) (w : World) (hV : wfI V) (hT : TIn w a R) (hw : ∀ r ∈ R, wfo r.2.fo) (hc : R.length ≤ c) (hbu : bulT R ≤ 1048576) (hX : FV.ok w ⟨fa, fc, fL⟩) (hwX : wfo (FV.fo ⟨fa, fc, fL⟩)) (hb : bulT R + bul fL ≤ 1048576) :
    Calls Tryz.prog 6 #[.agg #[.int .i64 V, .slice a R.length c], .slice fa fL.length fc] w fun e w' => e = .returned (.bool true) ∧ Below w.heap.size w w' := walkM V a c R ⟨fa, fc, fL⟩ w hT hw hc hX hwX hb
set_option maxRecDepth 100000 in
theorem contract (H : Type) (enc : TypeId × Value → H) (W : World) (base : Nat) (args : Array Value) (ds gs : List (DataW H)) (before : List MemPlace)
    (hval : ∀ (j : Nat) t v, Tryz.f6.params[j]? = some t → args[j]? = some v → Value.okWide Tryz.prog W .any base t v)
    (hW : DataW.Whole enc Tryz.prog Tryz.f6.params.toList Rows.tableauExpressesSpec.vars false W args.toList ds gs before)
    (hsz : (DataW.weightsEach Tryz.prog (Tryz.f6.params.toList ++ Rows.tableauExpressesSpec.plain.varTypes Tryz.prog) (ds ++ gs)).all (· ≤ reachBytes) = true) (hk : Rows.uptoSmall H (ds ++ gs) = true) :
    Calls Tryz.prog 6 args W fun e W' => ∃ v, e = .returned v ∧ Rows.tableauExpressesSpec.post enc Tryz.prog Tryz.f6 false true false false W args v W' := by
  have hW' := hW
  obtain ⟨p, q, hA0, hV, rfl, hfz, hnd⟩ := hW
  have hA : DataW.TrodAll enc Tryz.prog W 0 (fun _ => true) true Tryz.f6.params.toList args.toList ds p := hA0
  rw [Tryz.params6] at hA hval hsz
  obtain ⟨v0, vs0, d0, ds0, p0, q0, hargs, rfl, rfl, h0, r0⟩ := trodAll_cons hA
  obtain ⟨v1, vs1, d1, ds1, p1, q1, rfl, rfl, rfl, h1, r1⟩ := trodAll_cons r0
  obtain ⟨rfl, rfl, rfl⟩ := trodAll_nil r1
  obtain rfl : args = #[v0, v1] := by cases args; simp_all
  obtain ⟨rfl, rfl⟩ := trodVars_none hV
  have lt0 : ∀ x ∈ p0, x.block < W.heap.size := by obtain ⟨m, hm⟩ := h0; exact DataW.trod_lt m _ _ _ hm
  obtain ⟨tv0, ta0, tc0, tR0, rfl, hTv0, hT0, hTw0, hTc0, hTu0⟩ := open_Tab (hval 0 24 v0 rfl rfl) h0 (sized_at 0 hsz rfl rfl)
  have lt1 : ∀ x ∈ p1, x.block < W.heap.size := by obtain ⟨m, hm⟩ := h1; exact DataW.trod_lt m _ _ _ hm
  obtain ⟨xa1, xl1, xc1, rfl⟩ := okWide_slice Tryz.underlying35 (hval 1 35 v1 rfl rfl)
  obtain ⟨fu1, hm1⟩ := id h1
  obtain ⟨⟨fa1, fc1, fL1⟩, hcs1, hF1, hFw1, hFu1⟩ := open_FormB hm1 (sized_at 1 hsz rfl rfl)
  simp [Value.cells, FV.val] at hcs1
  obtain ⟨rfl, rfl, rfl⟩ := hcs1
  replace hFu1 : bul fL1 + 1 ≤ Rows.uptoBulk d1 := hFu1
  clear hA0
  have hbulk := of_decide_eq_true hk
  simp only [List.append_nil, Rows.uptoBulkAll] at hbulk
  simp only [List.append_nil] at hW'
  refine (walk tv0 ta0 tc0 tR0 xa1 xc1 fL1 W hTv0 hT0 hTw0 hTc0 (by omega) hF1 hFw1 (by omega)).mono fun e W' ⟨he, bel⟩ => ?_
  subst he
  exact ⟨_, rfl, _, _, _, [], _, [], hW', trodAll_mk1 (shut_bool Tryz.underlying4 _), (trodAll_cons_mk (Below.trod laidOut (by kernel_rfl) (of_decide_eq_true (by kernel_rfl)) h0 bel lt0) (trodAll_cons_mk (Below.trod laidOut (by kernel_rfl) (of_decide_eq_true (by kernel_rfl)) h1 bel lt1) trodAll_mk0)), rfl, bel.frame _, fun h => by cases h⟩
set_option maxRecDepth 100000 in
theorem lifted (os : Os) (started : os.Started) (H : Type) (enc : TypeId × Value → H) (F : Stop.Interp) :
    ReturnsInHanded {} Tryz.checked os 6 .any ((Rows.OpenSpec.upto Rows.tableauExpressesSpec).pre6 enc Tryz.prog Tryz.f6 Rows.tableauExpressesUptoRow.domain false) (((Rows.OpenSpec.upto Rows.tableauExpressesSpec).at F).post enc Tryz.prog Tryz.f6 false true false false) := by
  refine returnsInHanded_of_cond_sized (C := Tryz.checked) (s := Rows.OpenSpec.upto Rows.tableauExpressesSpec) (k := Rows.uptoSmall) rfl own started (by kernel_rfl) Tryz.func6
    (OpenSpec.witness (enc := enc) (C := Tryz.checked) (s := Rows.OpenSpec.upto Rows.tableauExpressesSpec) (k := Rows.uptoSmall) rfl false ⟨#[], #[.agg #[.int .i64 0, .slice none 0 0], .slice none 0 0], []⟩ 8 (by kernel_rfl) (by kernel_rfl) (by kernel_rfl)
      (x := ([.agg [.lit (.int .i64 0), .nil], .nil], [], [])) (by kernel_rfl) rfl (by kernel_rfl)) ?_
  intro W base args ds gs before hval hW _ hk hsz _
  exact contract H enc W base args ds gs before hval hW hsz hk
theorem over : Rows.tableauExpressesUptoRow.holds Tryz.pinned (Rows.OpenSpec.upto Rows.tableauExpressesSpec) :=
  OpenClaim.holds_of_cond 6 Tryz.f6 rfl rfl rfl rfl rfl rfl rfl ⟨rfl, rfl, rfl, rfl, rfl⟩ rfl rfl rfl rfl rfl (by kernel_rfl) Tryz.func6 (by kernel_rfl)
    (of_decide_eq_true (by kernel_rfl)) (by unfold Func.isWrapper; first | (rw [if_pos (by decide +kernel)]; kernel_rfl) | (rw [if_neg (by decide +kernel)]; exact ⟨rfl, rfl⟩))
    (fun os started H enc _ F => lifted os started H enc F)
end Go.Proofs.YtlklfkkbdcglbaaGreat.tableauExpresses
namespace Go.Proofs.YtlklfkkbdcglbaaGreat
theorem tableauExpresses_holds : Rows.TableauExpressesUptoSaid := tableauExpresses.over
#print axioms tableauExpresses_holds
end Go.Proofs.YtlklfkkbdcglbaaGreat
