/-
  units: look (pure): what it makes of a store that keeps what it must.
-/
import Derived.Test.YtfodejhipnmgnaaUQ6
namespace Go.Proofs.Ytfodejhipnmgnaa
open Go.RowKit
set_option linter.unusedVariables false
set_option linter.unusedSimpArgs false
theorem safe_good {u : US} {n : Nat} (h : safeV u (byU u n 0) (byU u n 1) = true) : Good u n := by
  unfold safeV at h
  simp only [Bool.or_eq_true, Bool.and_eq_true, decide_eq_true_eq] at h
  rcases h with ⟨a, b⟩ | ⟨a, b⟩
  · exact Or.inr (Or.inl ⟨0, by omega, a, b⟩)
  · exact Or.inr (Or.inl ⟨1, by omega, a, b⟩)
theorem neg_mark {u : US} (h : Iv u) {y : Int} (hy : IsL u y) (ht : trv u y < 0) : ∃ j, j < u.mks.length ∧ (mkU u j).l = -y := by
  have h1 := (trv_neg u y).resolve_right hy.1
  have hy2 : IsL u (-y) := ⟨by have := hy.1; omega, by obtain ⟨a, b⟩ := hy.2; constructor <;> omega⟩
  obtain ⟨i, a, b, c⟩ := h.tr.has (-y) hy2 (by omega)
  exact ⟨i, a, c⟩
theorem put_ex {u : US} {x lv : Int} {n : Nat} (h : Iv u) (hn : n < u.cl.length) (hm : x ∈ (clU u n).lits) (ho : ∀ y ∈ (clU u n).lits, y ≠ x → trv u y < 0) : Ex u (putU u x lv n) := by
  refine ⟨by simp [putU], rfl, fun _ => rfl, by rw [put_len]; omega, fun i hi => by rw [put_mk, if_neg (by omega)], fun i a b => ?_⟩
  rw [put_len] at b
  obtain rfl : i = u.mks.length := by omega
  rw [put_mk, if_pos rfl]
  refine ⟨n, rfl, hn, hm, fun y hy hne => ?_⟩
  obtain ⟨j, hj, e⟩ := neg_mark h (h.li n hn y hy) (ho y hy hne)
  exact ⟨j, hj, by rw [put_mk, if_neg (by omega)]; exact e⟩
theorem bu_by (u : US) (n : Nat) (z : Int) (m s : Nat) : byU (bu u n z) m s = byU u m s := by
  unfold byU bu CL.by'
  simp only [getD_set']
  by_cases e : m = n ∧ n < u.cl.length
  · rw [if_pos e, e.1]
  · rw [if_neg e]
theorem bu_at (u : US) (n : Nat) (z : Int) (m s : Nat) : atU (bu u n z) m s = atU u m s := by
  unfold atU bu CL.at'
  simp only [getD_set']
  by_cases e : m = n ∧ n < u.cl.length
  · rw [if_pos e, e.1]
  · rw [if_neg e]
theorem bu_lits (u : US) (n : Nat) (z : Int) (m : Nat) : (clU (bu u n z) m).lits = (clU u m).lits := by
  unfold clU bu
  simp only [getD_set']
  by_cases e : m = n ∧ n < u.cl.length
  · rw [if_pos e, e.1]
  · rw [if_neg e]
theorem bu_nx (u : US) (n : Nat) (z : Int) (m : Nat) : (clU (bu u n z) m).nx = if m = n ∧ n < u.cl.length then z else (clU u m).nx := by
  unfold clU bu
  simp only [getD_set']
  by_cases e : m = n ∧ n < u.cl.length
  · rw [if_pos e, if_pos e]
  · rw [if_neg e, if_neg e]
theorem bu_wo {u : US} (h : Wo u) (n : Nat) (z : Int) : Wo (bu u n z) := by
  have hl : (bu u n z).cl.length = u.cl.length := by simp [bu]
  refine ⟨⟨fun m s h1 h2 h3 h4 => ?_, fun i k y hy => ?_⟩, fun m => ?_, fun m s => ?_, h.ws, by rw [hl]; exact h.cl⟩
  · rw [hl] at h1
    rw [bu_by] at h4 ⊢
    rw [bu_at]
    exact h.wt.f m s h1 h2 h3 h4
  · obtain ⟨m, s, e1, e2, e3, e4, e5, e6, e7⟩ := h.wt.b i k y hy
    exact ⟨m, s, e1, by rw [hl]; exact e2, e3, e4, by rw [bu_by]; exact e5, by rw [bu_by]; exact e6, by rw [bu_at]; exact e7⟩
  · rw [bu_by, bu_by]; exact h.ds m
  · rw [bu_by]; exact h.inr m s
theorem by_side (u : US) (n s : Nat) : byU u n s = byU u n 0 ∨ byU u n s = byU u n 1 := by
  cases s with
  | zero => exact Or.inl rfl
  | succ s => exact Or.inr rfl
theorem look_v {u : US} {n z nx' : Nat} {p : PR} (h : Iv u) (hfr : (n : Int) ∈ u.fr) (hn : n < u.cl.length) (hz : (clU u n).nx = z) (hR : bestR u n z = (p, nx')) :
    Bst u (clU u n).lits p ∧ InR u p.l0 ∧ InR u p.l1 ∧ RelOK (bu u n nx') n 0 (swapV (bu u n nx') n p.l0 p.l1).1 ∧ RelOK (relink (bu u n nx') n 0 (swapV (bu u n nx') n p.l0 p.l1).1) n 1 (swapV (bu u n nx') n p.l0 p.l1).2 ∧
      Iv (watchU (bu u n nx') n p.l0 p.l1) ∧ Lk u (watchU (bu u n nx') n p.l0 p.l1) ∧ (∀ m, (clU (watchU (bu u n nx') n p.l0 p.l1) m).lits = (clU u m).lits) ∧
      ((byU (watchU (bu u n nx') n p.l0 p.l1) n 0 = p.l0 ∧ byU (watchU (bu u n nx') n p.l0 p.l1) n 1 = p.l1) ∨ (byU (watchU (bu u n nx') n p.l0 p.l1) n 0 = p.l1 ∧ byU (watchU (bu u n nx') n p.l0 p.l1) n 1 = p.l0)) := by
  obtain ⟨z', hz', hzl⟩ := h.nx n hn
  obtain rfl : z' = z := by omega
  obtain ⟨B, hnx⟩ := best_ok hzl (h.bm n hn)
  rw [hR] at B hnx
  simp only at B hnx
  have lk1 := bu_lk u n nx'
  have hI : ∀ x, x = 0 ∨ x ∈ (clU u n).lits → InR u x := fun x hx => by
    rcases hx with rfl | hx
    · have := h.rd.n0; exact ⟨by omega, by omega⟩
    · exact (h.li n hn x hx).2
  obtain ⟨r0, r1, w2, rw2, hsw, hby⟩ := watch_ok (bu_wo h.wo n nx') (n := n) (x := p.l0) (y := p.l1) (by rw [lk1.cl]; exact hn) ((hI _ B.m0).lk lk1) ((hI _ B.m1).lk lk1) B.ne
  obtain ⟨v, hv⟩ : ∃ v, watchU (bu u n nx') n p.l0 p.l1 = v := ⟨_, rfl⟩
  rw [hv] at w2 rw2 hby ⊢
  have lk : Lk u v := lk1.trans rw2.lk
  have hl : ∀ m, (clU v m).lits = (clU u m).lits := fun m => (rw2.lits m).trans (bu_lits u n nx' m)
  have byn : (byU v n 0 = p.l0 ∧ byU v n 1 = p.l1) ∨ (byU v n 0 = p.l1 ∧ byU v n 1 = p.l0) := by
    rw [hby n 0 (by omega), hby n 1 (by omega), if_pos rfl, if_pos rfl, if_pos rfl, if_neg (show ¬ (1 = 0) by omega)]
    rcases hsw with e | e <;> rw [e]
    · exact Or.inl ⟨rfl, rfl⟩
    · exact Or.inr ⟨rfl, rfl⟩
  have bym : ∀ m s, m ≠ n → byU v m s = byU u m s := fun m s hne => by
    have key : ∀ s', s' < 2 → byU v m s' = byU u m s' := fun s' h2 => by rw [hby m s' h2, if_neg hne, bu_by]
    cases s with
    | zero => exact key 0 (by omega)
    | succ s => exact key 1 (by omega)
  have IV : Iv v := h.rw lk w2 hl (fun m hm => by
      rw [show (clU v m).nx = (clU (bu u n nx') m).nx from rw2.nx m, bu_nx]
      by_cases e : m = n ∧ n < u.cl.length
      · rw [if_pos e, e.1]; exact ⟨nx', rfl, hnx⟩
      · rw [if_neg e]; exact h.nx m hm) bym (fun s => by
      have hm : ∀ y, y = p.l0 ∨ y = p.l1 → y = 0 ∨ y ∈ (clU u n).lits := fun y hy => by rcases hy with rfl | rfl; exact B.m0; exact B.m1
      refine hm _ ?_
      rcases by_side v n s with e | e <;> rw [e] <;> rcases byn with ⟨a, b⟩ | ⟨a, b⟩ <;> simp [a, b]) hfr
  exact ⟨B, hI _ B.m0, hI _ B.m1, r0, r1, IV, lk, hl, byn⟩
theorem look_ok {u : US} {f : List Int} {n : Nat} (h : Iv u) (hf : u.fr = f ++ [(n : Int)]) (hn : n < u.cl.length) :
    Ex u (lookU u n).1 ∧ (lookU u n).1.fr = u.fr ∧ ((lookU u n).2 = true → Iv { (lookU u n).1 with fr := f }) ∧ ((lookU u n).2 = false → Iv (lookU u n).1 ∧ Lk u (lookU u n).1 ∧ ∀ y ∈ (clU u n).lits, trv (lookU u n).1 y < 0) := by
  unfold lookU
  by_cases hs : safeV u (byU u n 0) (byU u n 1) = true
  · rw [if_pos hs]
    exact ⟨Ex.refl u, rfl, fun _ => h.done hf (safe_good hs), fun e => by cases e⟩
  rw [if_neg hs]
  obtain ⟨z, hz, hzl⟩ := h.nx n hn
  rw [hz, Int.toNat_natCast]
  obtain ⟨⟨p, nx'⟩, hR⟩ : ∃ R, bestR u n z = R := ⟨_, rfl⟩
  rw [hR]
  simp only
  obtain ⟨B, _, _, _, _, IV, lk, hl, byn⟩ := look_v h (by rw [hf]; simp) hn hz hR
  obtain ⟨v, hv⟩ : ∃ v, watchU (bu u n nx') n p.l0 p.l1 = v := ⟨_, rfl⟩
  rw [hv] at IV lk hl byn ⊢
  have hvf : v.fr = f ++ [(n : Int)] := by rw [lk.fr]; exact hf
  have hvn : n < v.cl.length := by rw [lk.cl]; exact hn
  have hle := B.le
  have hF := fun z => falls_nn h.rd z
  have hnev : nev = 9223372036854775807 := rfl
  by_cases c0 : p.f0 ≠ nev
  · rw [if_pos c0]
    refine ⟨Ex.lk lk hl, lk.fr, fun e => (by cases e), fun _ => ⟨IV, lk, fun y hy => ?_⟩⟩
    show trv v y < 0
    rw [trv_lk lk]
    refine (falls_neg h.rd (h.li n hn y hy).1).1 ?_
    have h0 := (hF p.l0).2
    rw [← B.g0] at h0
    rcases B.al with e | e
    · omega
    · rcases e y hy with e | e
      · rw [e, ← B.g0]; exact c0
      · omega
  have c0' : p.f0 = nev := Classical.not_not.1 c0
  rw [if_neg c0]
  have hfo := IV.fo
  have hM := IV.rd.nM
  by_cases c1 : p.f1 = nev
  · rw [if_pos c1]
    refine ⟨Ex.lk lk hl, lk.fr, fun _ => IV.done hvf (Or.inl fun s _ => ?_), fun e => (by cases e)⟩
    have k0 : fallsV v p.l0 = nev := by rw [falls_lk lk, ← B.g0]; exact c0'
    have k1 : fallsV v p.l1 = nev := by rw [falls_lk lk, ← B.g1]; exact c1
    have : fallsV v (byU v n s) = nev := by
      rcases by_side v n s with e | e <;> rw [e] <;> rcases byn with ⟨a, b⟩ | ⟨a, b⟩ <;> simp [a, b, k0, k1]
    omega
  rw [if_neg c1]
  have hl0 : p.l0 ≠ 0 := fun e => by
    have := B.g0
    rw [e, falls_zero] at this
    omega
  have hm0 := B.m0.resolve_left hl0
  have hs0 : IsL u p.l0 := h.li n hn _ hm0
  have t0 : ¬ trv u p.l0 < 0 := fun e => (falls_neg h.rd hl0).2 e (by rw [← B.g0]; exact c0')
  have oth : ∀ y ∈ (clU u n).lits, y ≠ p.l0 → trv u y < 0 := fun y hy hne => by
    refine (falls_neg h.rd (h.li n hn y hy).1).1 ?_
    have h1 := (B.al.resolve_left c1 y hy).resolve_left hne
    have h2 := (hF p.l1).2
    rw [← B.g1] at h2
    omega
  have k1 : fallsV v p.l1 = p.f1 := by rw [falls_lk lk]; exact B.g1.symm
  have z1 : p.l1 = 0 ∨ trv v p.l1 ≠ 0 := by
    by_cases e : p.l1 = 0
    · exact Or.inl e
    · right
      rw [trv_lk lk]
      have := (falls_neg h.rd e).1 (by rw [← B.g1]; exact c1)
      omega
  obtain ⟨x, hx⟩ : ∃ x, (if trv v p.l0 = 0 then putU v p.l0 (lvlV v) n else v) = x := ⟨_, rfl⟩
  rw [hx]
  obtain ⟨IX, EX, xf, xt, x1, xb, xc⟩ : Iv x ∧ Ex u x ∧ x.fr = v.fr ∧ 0 < trv x p.l0 ∧ fallsV x p.l1 = p.f1 ∧ (∀ m s, byU x m s = byU v m s) ∧ n < x.cl.length := by
    subst hx
    by_cases ct : trv v p.l0 = 0
    · rw [if_pos ct]
      have hxl : IsL v p.l0 := (isl_lk lk _).2 hs0
      refine ⟨put_iv IV hxl ct (Or.inl rfl), (Ex.lk lk hl).trans (put_ex IV hvn (by rw [hl]; exact hm0) fun y hy hne => by rw [hl] at hy; rw [trv_lk lk]; exact oth y hy hne), rfl, ?_, ?_, fun _ _ => rfl, hvn⟩
      · rw [put_trv hxl, if_pos rfl]; omega
      · rw [(put_keep hxl ct IV.rd z1).2.2]; exact k1
    · rw [if_neg ct]
      rw [trv_lk lk] at ct
      exact ⟨IV, Ex.lk lk hl, rfl, by rw [trv_lk lk]; omega, k1, fun _ _ => rfl, hvn⟩
  have hxfr : x.fr = f ++ [(n : Int)] := xf.trans hvf
  have hxl : IsL x p.l0 := by
    have := IX.li n xc p.l0 (by rw [EX.lits]; exact hm0)
    exact this
  have xb0 := xb n 0
  have xb1 := xb n 1
  have xn : (byU x n 0 = p.l0 ∧ byU x n 1 = p.l1) ∨ (byU x n 0 = p.l1 ∧ byU x n 1 = p.l0) := by rw [xb0, xb1]; exact byn
  have x0 : fallsV x p.l0 = nev := Classical.byContradiction fun e => by have := (falls_neg IX.rd hl0).1 e; omega
  have hxfo := IX.fo
  have hxM := IX.rd.nM
  by_cases cl : p.f1 ≤ (x.fo : Int) ∧ sinceV x p.l0 > sinceV x p.l1
  · rw [if_pos cl]
    refine ⟨⟨EX.tr, EX.cl, EX.lits, EX.le, EX.pre, EX.snd⟩, xf.trans lk.fr, fun _ => ?_, fun e => (by cases e)⟩
    refine IX.late hxfr xc ?_
    have hsl := (IX.tr.since_le hxl (by omega)).2
    rcases xn with ⟨a, b⟩ | ⟨a, b⟩
    · exact ⟨0, by omega, by rw [a]; exact xt, by rw [show 1 - 0 = 1 from rfl, b, x1]; exact cl.1, by rw [show 1 - 0 = 1 from rfl, a, b]; exact cl.2, by rw [a]; exact hsl⟩
    · exact ⟨1, by omega, by rw [b]; exact xt, by rw [show 1 - 1 = 0 from rfl, a, x1]; exact cl.1, by rw [show 1 - 1 = 0 from rfl, a, b]; exact cl.2, by rw [b]; exact hsl⟩
  · rw [if_neg cl]
    refine ⟨EX, xf.trans lk.fr, fun _ => IX.done hxfr ?_, fun e => (by cases e)⟩
    by_cases c3 : p.f1 ≤ (x.fo : Int)
    · have c4 : sinceV x p.l0 ≤ sinceV x p.l1 := Classical.byContradiction fun a => cl ⟨c3, by omega⟩
      rcases xn with ⟨a, b⟩ | ⟨a, b⟩
      · exact Or.inr (Or.inl ⟨0, by omega, by rw [a]; exact xt, by rw [show 1 - 0 = 1 from rfl, a, b]; exact c4⟩)
      · exact Or.inr (Or.inl ⟨1, by omega, by rw [b]; exact xt, by rw [show 1 - 1 = 0 from rfl, a, b]; exact c4⟩)
    · refine Or.inl fun s _ => ?_
      have : fallsV x (byU x n s) = nev ∨ fallsV x (byU x n s) = p.f1 := by
        rcases by_side x n s with e | e <;> rw [e] <;> rcases xn with ⟨a, b⟩ | ⟨a, b⟩ <;> simp [a, b, x0, x1]
      omega
end Go.Proofs.Ytfodejhipnmgnaa
