import Derived.Test.YtebbehlfocpjhaaGreatNum
set_option linter.unusedSimpArgs false
namespace Go.Proofs.YtebbehlfocpjhaaGreat
set_option linter.unusedVariables false
def gcdl : List Int → Nat
  | [] => 0
  | z :: l => Nat.gcd z.natAbs (gcdl l)
theorem gcdl_append : ∀ (l m : List Int), gcdl (l ++ m) = Nat.gcd (gcdl l) (gcdl m)
  | [], m => by simp [gcdl]
  | z :: l, m => by simp only [List.cons_append, gcdl]; rw [gcdl_append l m, Nat.gcd_assoc]
theorem gcdl_mul (c : Int) : ∀ (l : List Int), gcdl (l.map fun z => c * z) = c.natAbs * gcdl l
  | [] => by simp [gcdl]
  | z :: l => by simp only [List.map, gcdl]; rw [gcdl_mul c l, Int.natAbs_mul, Nat.gcd_mul_left]
theorem num_den (q : Rat) : (q.num : Rat) = q * (q.den : Rat) := by
  have h := Rat.num_divInt_den q
  rw [Rat.divInt_eq_div] at h
  have hd : (q.den : Rat) ≠ 0 := by have := q.den_nz; exact_mod_cast this
  have h2 : (((q.den : Nat) : Int) : Rat) = (q.den : Rat) := Rat.intCast_natCast _
  rw [h2] at h
  have h3 : (q.num : Rat) / (q.den : Rat) * (q.den : Rat) = (q.num : Rat) := Rat.div_mul_cancel hd
  rw [h] at h3
  exact h3.symm
def Ct (g : Rat) (l : List Rat) : Prop := g ≠ 0 ∧ ∃ zs : List Int, l = zs.map (fun z : Int => g * (z : Rat)) ∧ gcdl zs = 1
theorem Ct.one {c : Rat} (h : c ≠ 0) : Ct c [c] := ⟨h, [1], by simp, by decide⟩
theorem Ct.some {g : Rat} {l : List Rat} (h : Ct g l) : l ≠ [] := by
  obtain ⟨_, zs, rfl, h1⟩ := h
  intro e
  rw [List.map_eq_nil_iff] at e
  subst e
  simp [gcdl] at h1
theorem Ct.two {g h : Rat} {l m : List Rat} (a : Ct g l) (b : Ct h m) : Ct (g * ((h / g).den : Rat)⁻¹) (l ++ m) := by
  obtain ⟨hg, zs, rfl, h1⟩ := a
  obtain ⟨hh, ys, rfl, h2⟩ := b
  obtain ⟨q, hq⟩ : ∃ q, h / g = q := ⟨_, rfl⟩
  rw [hq]
  have hd : (q.den : Rat) ≠ 0 := by have := q.den_nz; exact_mod_cast this
  have e1 : ∀ z : Int, g * (z : Rat) = g * (q.den : Rat)⁻¹ * (((q.den : Int) * z : Int) : Rat) := fun z => by
    rw [Rat.intCast_mul, Rat.intCast_natCast]
    grind
  have e2 : ∀ z : Int, h * (z : Rat) = g * (q.den : Rat)⁻¹ * ((q.num * z : Int) : Rat) := fun z => by
    have hh' : h = g * q := by rw [← hq]; grind
    have hn := num_den q
    rw [Rat.intCast_mul, hh', hn]
    grind
  refine ⟨?_, zs.map (fun z => (q.den : Int) * z) ++ ys.map (fun z => q.num * z), ?_, ?_⟩
  · intro e
    rcases Rat.mul_eq_zero.1 e with e | e
    · exact hg e
    · exact hd (by rw [← Rat.inv_inv (q.den : Rat), e, Rat.inv_zero])
  · rw [List.map_append, List.map_map, List.map_map]
    congr 1
    · exact List.map_congr_left fun z _ => e1 z
    · exact List.map_congr_left fun z _ => e2 z
  · rw [gcdl_append, gcdl_mul, gcdl_mul, h1, h2, Nat.mul_one, Nat.mul_one, Int.natAbs_natCast, Nat.gcd_comm]
    exact q.reduced
theorem Ct.uniq {g h : Rat} {l : List Rat} (a : Ct g l) (b : Ct h l) : h = g ∨ h = -g := by
  obtain ⟨hg, zs, rfl, h1⟩ := a
  obtain ⟨hh, ys, e, h2⟩ := b
  obtain ⟨q, hq⟩ : ∃ q, h / g = q := ⟨_, rfl⟩
  have hh' : h = g * q := by rw [← hq]; grind
  have hn := num_den q
  have e3 : zs.map (fun z => (q.den : Int) * z) = ys.map (fun z => q.num * z) := by
    have hlen : zs.length = ys.length := by have := congrArg List.length e; simpa using this
    apply List.ext_getElem (by simpa using hlen)
    intro i k1 k2
    have hz : i < zs.length := by simpa using k1
    have hy : i < ys.length := by simpa using k2
    have e5 : g * ((zs[i] : Int) : Rat) = h * ((ys[i] : Int) : Rat) := by
      have h9 := congrArg (fun l => l[i]?) e
      simp only [List.getElem?_map, List.getElem?_eq_getElem hz, List.getElem?_eq_getElem hy, Option.map_some] at h9
      exact Option.some.inj h9
    rw [List.getElem_map, List.getElem_map]
    have e6 : (((q.den : Int) * zs[i] : Int) : Rat) = ((q.num * ys[i] : Int) : Rat) := by
      rw [Rat.intCast_mul, Rat.intCast_mul, Rat.intCast_natCast, hn]
      rw [hh'] at e5
      grind
    exact_mod_cast e6
  have e4 := congrArg gcdl e3
  rw [gcdl_mul, gcdl_mul, h1, h2, Nat.mul_one, Nat.mul_one, Int.natAbs_natCast] at e4
  have e5 := q.reduced
  unfold Nat.Coprime at e5
  rw [← e4, Nat.gcd_self] at e5
  rw [e5] at e4 hn
  rw [hh']
  rcases Int.natAbs_eq q.num with h | h
  · left
    rw [h, ← e4] at hn
    have : q = 1 := by
      have h3 : ((1 : Nat) : Rat) = 1 := rfl
      have h4 : (((1 : Nat) : Int) : Rat) = 1 := rfl
      rw [h3, h4] at hn
      grind
    rw [this]; grind
  · right
    rw [h, ← e4] at hn
    have : q = -1 := by
      have h3 : ((1 : Nat) : Rat) = 1 := rfl
      have h4 : ((-((1 : Nat) : Int) : Int) : Rat) = -1 := rfl
      rw [h3, h4] at hn
      grind
    rw [this]; grind
theorem dvd_gcdl {d : Nat} : ∀ {l : List Int}, (∀ z ∈ l, d ∣ z.natAbs) → d ∣ gcdl l
  | [], _ => Nat.dvd_zero _
  | z :: l, h => Nat.dvd_gcd (h z (List.mem_cons_self ..)) (dvd_gcdl fun y hy => h y (List.mem_cons_of_mem _ hy))
theorem den_dvd_of {r : Rat} {z w : Int} (h : r * (z : Rat) = (w : Rat)) : r.den ∣ z.natAbs := by
  have e : ((r.num * z : Int) : Rat) = ((w * (r.den : Int) : Int) : Rat) := by
    rw [Rat.intCast_mul, Rat.intCast_mul, Rat.intCast_natCast, num_den r, ← h]
    grind
  have e2 : r.num * z = w * (r.den : Int) := by exact_mod_cast e
  have e3 : r.den ∣ r.num.natAbs * z.natAbs := by
    rw [← Int.natAbs_mul, e2, Int.natAbs_mul, Int.natAbs_natCast]
    exact Nat.dvd_mul_left _ _
  exact (Nat.Coprime.symm r.reduced).dvd_of_dvd_mul_left e3
theorem Ct.num_dvd {g : Rat} {l : List Rat} (h : Ct g l) {c : Rat} (hc : c ∈ l) : g.num.natAbs ∣ c.num.natAbs := by
  obtain ⟨hg, zs, rfl, h1⟩ := h
  obtain ⟨z, hz, rfl⟩ := List.mem_map.1 hc
  obtain ⟨c, hc'⟩ : ∃ c, g * (z : Rat) = c := ⟨_, rfl⟩
  rw [hc']
  have e : ((c.num * (g.den : Int) : Int) : Rat) = ((g.num * (z * (c.den : Int)) : Int) : Rat) := by
    rw [Rat.intCast_mul, Rat.intCast_mul, Rat.intCast_mul, Rat.intCast_natCast, Rat.intCast_natCast, num_den c, num_den g, ← hc']
    grind
  have e2 : c.num * (g.den : Int) = g.num * (z * (c.den : Int)) := by exact_mod_cast e
  have e3 : g.num.natAbs ∣ c.num.natAbs * g.den := by
    have h9 := congrArg Int.natAbs e2
    rw [Int.natAbs_mul, Int.natAbs_natCast, Int.natAbs_mul] at h9
    rw [h9]
    exact Nat.dvd_mul_right _ _
  exact (show Nat.Coprime g.num.natAbs g.den from g.reduced).dvd_of_dvd_mul_right e3
theorem Ct.den_dvd {g : Rat} {l : List Rat} (h : Ct g l) {P : Nat} (hP : ∀ c ∈ l, c.den ∣ P) : g.den ∣ P := by
  obtain ⟨hg, zs, rfl, h1⟩ := h
  have hr : (g * (P : Rat)).den = 1 := by
    have h2 : (g * (P : Rat)).den ∣ gcdl zs := dvd_gcdl fun z hz => by
      obtain ⟨k, hk⟩ := hP (g * (z : Rat)) (List.mem_map.2 ⟨z, hz, rfl⟩)
      obtain ⟨c, hc'⟩ : ∃ c, g * (z : Rat) = c := ⟨_, rfl⟩
      rw [hc'] at hk
      refine den_dvd_of (w := c.num * (k : Int)) ?_
      have e1 : g * (P : Rat) * (z : Rat) = c * (P : Rat) := by rw [← hc']; grind
      have e2 : (P : Rat) = (c.den : Rat) * (k : Rat) := by rw [hk]; exact Rat.natCast_mul _ _
      rw [e1, e2, Rat.intCast_mul, Rat.intCast_natCast, num_den c]
      grind
    rw [h1] at h2
    exact Nat.dvd_one.1 h2
  have e3 : g * (((P : Nat) : Int) : Rat) = ((g * (P : Rat)).num : Rat) := by
    rw [Rat.intCast_natCast, num_den (g * (P : Rat)), hr]
    have h3 : ((1 : Nat) : Rat) = 1 := rfl
    rw [h3]
    grind
  have h4 := den_dvd_of e3
  rwa [Int.natAbs_natCast] at h4
end Go.Proofs.YtebbehlfocpjhaaGreat
