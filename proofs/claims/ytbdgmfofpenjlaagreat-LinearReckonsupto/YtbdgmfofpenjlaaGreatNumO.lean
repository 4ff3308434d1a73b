/-
  The order of forms: the sign of the first coefficient of what they differ by.
-/
import Derived.Test.YtbdgmfofpenjlaaGreatWN11
namespace Go.Proofs.YtbdgmfofpenjlaaGreat
set_option linter.unusedVariables false

/-- the sign of the first coefficient -/
def hd : Fo → Int
  | [] => 0
  | p :: _ => sgn p.2.num
/-- it is the sign of the first coefficient that is not 0 -/
def Ld (c : Int → Rat) (s : Int) : Prop := (s = 0 ∧ ∀ x, c x = 0) ∨ (s ≠ 0 ∧ ∃ x, sgn (c x).num = s ∧ ∀ y, y < x → c y = 0)
theorem hd_ld {l : Fo} (h : nrm l) : Ld (fun x => co x l) (hd l) := by
  cases l with
  | nil => exact Or.inl ⟨rfl, fun x => rfl⟩
  | cons p l =>
    have h0 := h.2 p List.mem_cons_self
    refine Or.inr ⟨fun e => h0 ((sgn_num p.2).1 e), p.1, ?_, fun y hy => h.below hy⟩
    show sgn (co p.1 (p :: l)).num = sgn p.2.num
    rw [h.co_head]
theorem Ld.uniq {c : Int → Rat} {s t : Int} (h : Ld c s) (k : Ld c t) : s = t := by
  rcases h with ⟨rfl, h⟩ | ⟨hs, x, hx, h⟩
  · rcases k with ⟨rfl, _⟩ | ⟨ht, y, hy, _⟩
    · rfl
    · rw [h y] at hy; exact hy
  · rcases k with ⟨rfl, k⟩ | ⟨ht, y, hy, k⟩
    · rw [k x] at hx; exact hx.symm
    · rcases Int.lt_trichotomy x y with e | e | e
      · rw [k x e] at hx; exact absurd hx.symm hs
      · rw [← hx, ← hy, e]
      · rw [h y e] at hy; exact absurd hy.symm ht
theorem Ld.congr {c d : Int → Rat} {s : Int} (h : Ld c s) (e : ∀ x, c x = d x) : Ld d s := by
  have : c = d := funext e
  rw [← this]; exact h
theorem sgn_neg_num (r : Rat) : sgn (-r).num = -sgn r.num := by
  rw [Rat.neg_num]
  unfold sgn
  split <;> split <;> (try split) <;> omega
theorem Ld.neg {c : Int → Rat} {s : Int} (h : Ld c s) : Ld (fun x => -c x) (-s) := by
  rcases h with ⟨rfl, h⟩ | ⟨hs, x, hx, h⟩
  · exact Or.inl ⟨rfl, fun x => by show -c x = 0; rw [h x]; grind⟩
  · exact Or.inr ⟨by omega, x, by rw [sgn_neg_num, hx], fun y hy => by show -c y = 0; rw [h y hy]; grind⟩
theorem sgn_bound (z : Int) : -1 ≤ sgn z ∧ sgn z ≤ 1 := by
  unfold sgn
  split
  · omega
  · split <;> omega
theorem hd_range (l : Fo) : -1 ≤ hd l ∧ hd l ≤ 1 := by
  cases l with
  | nil => exact ⟨by show (-1 : Int) ≤ 0; omega, by show (0 : Int) ≤ 1; omega⟩
  | cons p l => exact sgn_bound _
theorem sgn_le {r : Rat} : sgn r.num ≤ 0 ↔ r ≤ 0 := by
  have h1 := Rat.num_nonneg (q := r)
  have h2 := Rat.num_eq_zero (q := r)
  unfold sgn
  split
  · rename_i h
    have : ¬ 0 ≤ r := fun k => by have := h1.2 k; omega
    exact ⟨fun _ => by grind, fun _ => by omega⟩
  · split
    · rename_i h k
      have := h2.1 k
      exact ⟨fun _ => by rw [this]; exact Rat.le_refl, fun _ => by omega⟩
    · rename_i h k
      have a : 0 ≤ r := h1.1 (by omega)
      have b : r ≠ 0 := fun e => k (h2.2 e)
      exact ⟨fun e => by omega, fun e => absurd (show r = 0 by grind) b⟩
/-- two that are not above 0 -/
theorem Ld.add {c d : Int → Rat} {s t u : Int} (h : Ld c s) (k : Ld d t) (j : Ld (fun x => c x + d x) u) (hs : s ≤ 0) (ht : t ≤ 0) : u ≤ 0 := by
  rcases h with ⟨rfl, h⟩ | ⟨hs0, x, hx, h⟩
  · have : u = t := j.uniq (k.congr fun y => by rw [h y, Rat.zero_add])
    omega
  · rcases k with ⟨rfl, k⟩ | ⟨ht0, y, hy, k⟩
    · have : u = s := j.uniq ((show Ld c s from Or.inr ⟨hs0, x, hx, h⟩).congr fun y => by rw [k y, Rat.add_zero])
      omega
    · have cx : c x ≤ 0 := sgn_le.1 (by omega)
      have dy : d y ≤ 0 := sgn_le.1 (by omega)
      have cx0 : c x ≠ 0 := fun e => by rw [e] at hx; exact hs0 hx.symm
      have dy0 : d y ≠ 0 := fun e => by rw [e] at hy; exact ht0 hy.symm
      have mk : ∀ z, (∀ y', y' < z → c y' + d y' = 0) → c z + d z ≤ 0 → c z + d z ≠ 0 → u ≤ 0 := fun z h1 h2 h3 => by
        have e : u = sgn (c z + d z).num := j.uniq (Or.inr ⟨fun e => h3 ((sgn_num _).1 e), z, rfl, h1⟩)
        rw [e]
        exact sgn_le.2 h2
      rcases Int.lt_trichotomy x y with e | e | e
      · refine mk x (fun z hz => by rw [h z hz, k z (by omega)]; exact Rat.add_zero _) (by rw [k x e, Rat.add_zero]; exact cx) (by rw [k x e, Rat.add_zero]; exact cx0)
      · subst e
        exact mk x (fun z hz => by rw [h z hz, k z hz]; exact Rat.add_zero _) (by grind) (by grind)
      · refine mk y (fun z hz => by rw [h z (by omega), k z hz]; exact Rat.add_zero _) (by rw [h y e, Rat.zero_add]; exact dy) (by rw [h y e, Rat.zero_add]; exact dy0)

/-- how two forms compare -/
def cmpF (l m : Fo) : Int := hd (nfm (l ++ fmap (fun r => -r) m))
theorem cmp_ld (l m : Fo) : Ld (fun x => co x l - co x m) (cmpF l m) :=
  (hd_ld (nfm_nrm _)).congr fun x => by rw [nfm_co, co_append, co_neg]; grind
theorem cmp_range (l m : Fo) : -1 ≤ cmpF l m ∧ cmpF l m ≤ 1 := hd_range _
theorem cmp_neg (l m : Fo) : cmpF m l = -cmpF l m := (cmp_ld m l).uniq ((cmp_ld l m).neg.congr fun x => by grind)
theorem cmp_trans (l m n : Fo) (h : cmpF l m ≤ 0) (k : cmpF m n ≤ 0) : cmpF l n ≤ 0 :=
  Ld.add (cmp_ld l m) (cmp_ld m n) ((cmp_ld l n).congr fun x => by grind) h k
theorem cmp_sum (l m n : Fo) : cmpF (nfm (l ++ n)) (nfm (m ++ n)) = cmpF l m :=
  (cmp_ld _ _).uniq ((cmp_ld l m).congr fun x => by rw [nfm_co, nfm_co, co_append, co_append]; grind)
theorem cmp_same (l m : Fo) : cmpF l m = 0 ↔ nfm l = nfm m := by
  constructor
  · intro h
    refine nfm_uniq (nfm_nrm l) fun x => ?_
    rw [nfm_co]
    rcases cmp_ld l m with ⟨_, h1⟩ | ⟨h1, _⟩
    · have := h1 x; grind
    · exact absurd h h1
  · intro h
    refine (cmp_ld l m).uniq (Or.inl ⟨rfl, fun x => ?_⟩)
    show co x l - co x m = 0
    rw [← nfm_co x l, h, nfm_co]
    grind
theorem cmp_units : cmpF [(1, 1)] [(2, 1)] = 1 := by
  refine (cmp_ld _ _).uniq (Or.inr ⟨by omega, 1, ?_, fun y hy => ?_⟩)
  · show sgn ((co 1 [((1 : Int), (1 : Rat))]) - co 1 [((2 : Int), (1 : Rat))]).num = 1
    have e : co 1 [((1 : Int), (1 : Rat))] - co 1 [((2 : Int), (1 : Rat))] = 1 := by
      simp only [co]
      rw [if_pos trivial, if_neg (by omega)]
      grind
    rw [e]
    rfl
  · show co y [((1 : Int), (1 : Rat))] - co y [((2 : Int), (1 : Rat))] = 0
    simp only [co]
    rw [if_neg (by omega), if_neg (by omega)]
    grind
end Go.Proofs.YtbdgmfofpenjlaaGreat
