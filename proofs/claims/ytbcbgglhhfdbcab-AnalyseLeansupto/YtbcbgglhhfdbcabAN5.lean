/-
  analyse: the queue's tree (pure): a list with no place above what is below it.
-/
import Derived.Test.YtbcbgglhhfdbcabAN1
namespace Go.Proofs.Ytbcbgglhhfdbcab
set_option linter.unusedVariables false
set_option linter.unusedSimpArgs false
theorem gd_set (L : List Int) (i : Nat) (x : Int) (k : Nat) (hk : k < L.length) : (L.set i x).getD k 0 = if i = k then x else L.getD k 0 := by
  simp only [List.getD, List.getElem?_set]
  by_cases e : i = k
  · subst e; simp [hk]
  · simp [e]
theorem gd_app (L : List Int) (x : Int) (k : Nat) (hk : k ≤ L.length) : (L ++ [x]).getD k 0 = if k = L.length then x else L.getD k 0 := by
  simp only [List.getD]
  by_cases e : k = L.length
  · subst e; simp
  · rw [if_neg e, List.getElem?_append_left (by omega)]
def swp (L : List Int) (i j : Nat) : List Int := (L.set i (L.getD j 0)).set j (L.getD i 0)
theorem swp_length (L : List Int) (i j : Nat) : (swp L i j).length = L.length := by simp [swp]
theorem swp_gd (L : List Int) {i j k : Nat} (hi : i < L.length) (hj : j < L.length) (hk : k < L.length) : (swp L i j).getD k 0 = if k = j then L.getD i 0 else if k = i then L.getD j 0 else L.getD k 0 := by
  unfold swp
  rw [gd_set (L.set i (L.getD j 0)) j _ k (by simpa using hk), gd_set L i _ k hk]
  by_cases h1 : j = k
  · subst h1; simp
  · rw [if_neg h1, if_neg (show ¬ k = j from fun e => h1 e.symm)]
    by_cases h2 : i = k
    · subst h2; rw [if_pos rfl]
    · rw [if_neg h2, if_neg (show ¬ k = i from fun e => h2 e.symm)]
theorem gd_mem_iff {L : List Int} {z : Int} : z ∈ L ↔ ∃ k, k < L.length ∧ L.getD k 0 = z := by
  rw [List.mem_iff_getElem]
  constructor
  · rintro ⟨k, hk, e⟩; exact ⟨k, hk, by simp [List.getD, List.getElem?_eq_getElem hk, e]⟩
  · rintro ⟨k, hk, e⟩; exact ⟨k, hk, by simpa [List.getD, List.getElem?_eq_getElem hk] using e⟩
def Nd (L : List Int) : Prop := ∀ a b, a < L.length → b < L.length → L.getD a 0 = L.getD b 0 → a = b
theorem swp_mem {L : List Int} {i j : Nat} (hi : i < L.length) (hj : j < L.length) {z : Int} : z ∈ swp L i j ↔ z ∈ L := by
  rw [gd_mem_iff, gd_mem_iff]
  constructor
  · rintro ⟨k, hk, e⟩
    rw [swp_length] at hk
    rw [swp_gd L hi hj hk] at e
    split at e
    · exact ⟨i, hi, e⟩
    · split at e
      · exact ⟨j, hj, e⟩
      · exact ⟨k, hk, e⟩
  · rintro ⟨k, hk, e⟩
    by_cases h1 : k = i
    · refine ⟨j, by rw [swp_length]; exact hj, ?_⟩
      rw [swp_gd L hi hj hj, if_pos rfl, ← h1, e]
    · by_cases h2 : k = j
      · refine ⟨i, by rw [swp_length]; exact hi, ?_⟩
        rw [swp_gd L hi hj hi]
        split
        · rename_i h3; rw [h3, ← h2, e]
        · rw [if_pos rfl, ← h2, e]
      · refine ⟨k, by rw [swp_length]; exact hk, ?_⟩
        rw [swp_gd L hi hj hk, if_neg h2, if_neg h1, e]
theorem swp_nd {L : List Int} {i j : Nat} (hi : i < L.length) (hj : j < L.length) (h : Nd L) : Nd (swp L i j) := by
  intro a b ha hb e
  rw [swp_length] at ha hb
  rw [swp_gd L hi hj ha, swp_gd L hi hj hb] at e
  split at e <;> split at e <;> (try split at e) <;> (try split at e) <;> (have := h _ _ (by assumption) (by assumption) e; omega)
/-- no place above what is below it -/
def Hp (L : List Int) : Prop := ∀ k, 0 < k → k < L.length → L.getD k 0 ≤ L.getD ((k - 1) / 2) 0
def UpI (L : List Int) (i : Nat) : Prop := (∀ k, 0 < k → k < L.length → k ≠ i → L.getD k 0 ≤ L.getD ((k - 1) / 2) 0) ∧ ∀ k, 0 < k → k < L.length → (k - 1) / 2 = i → 0 < i → L.getD k 0 ≤ L.getD ((i - 1) / 2) 0
def DnI (L : List Int) (i : Nat) : Prop := (∀ k, 0 < k → k < L.length → (k - 1) / 2 ≠ i → L.getD k 0 ≤ L.getD ((k - 1) / 2) 0) ∧ ∀ k, 0 < k → k < L.length → (k - 1) / 2 = i → 0 < i → L.getD k 0 ≤ L.getD ((i - 1) / 2) 0
theorem Hp.top {L : List Int} (h : Hp L) : ∀ {k : Nat}, k < L.length → L.getD k 0 ≤ L.getD 0 0 := by
  intro k
  induction k using Nat.strongRecOn with
  | ind k ih =>
    intro hk
    by_cases e : k = 0
    · subst e; exact Int.le_refl _
    · exact Int.le_trans (h k (by omega) hk) (ih _ (by omega) (by omega))
theorem Hp.snoc {L : List Int} (h : Hp L) (x : Int) : UpI (L ++ [x]) L.length := by
  refine ⟨fun k h0 hk hne => ?_, fun k h0 hk e hi => ?_⟩
  · rw [List.length_append, List.length_singleton] at hk
    rw [gd_app L x k (by omega), gd_app L x _ (by omega), if_neg hne, if_neg (by omega)]
    exact h k h0 (by omega)
  · rw [List.length_append, List.length_singleton] at hk
    omega
theorem UpI.done {L : List Int} {i : Nat} (h : UpI L i) (hd : i = 0 ∨ L.getD i 0 ≤ L.getD ((i - 1) / 2) 0) : Hp L := fun k h0 hk => by
  by_cases e : k = i
  · subst e
    rcases hd with hd | hd
    · omega
    · exact hd
  · exact h.1 k h0 hk e
theorem UpI.step {L : List Int} {i : Nat} (h : UpI L i) (h0 : 0 < i) (hi : i < L.length) (hgt : L.getD ((i - 1) / 2) 0 < L.getD i 0) : UpI (swp L i ((i - 1) / 2)) ((i - 1) / 2) := by
  have hp : (i - 1) / 2 < L.length := by omega
  have hpi : (i - 1) / 2 ≠ i := by omega
  obtain ⟨p, hpe⟩ : ∃ p, (i - 1) / 2 = p := ⟨_, rfl⟩
  rw [hpe] at hgt hp hpi ⊢
  refine ⟨fun k k0 hk hne => ?_, fun k k0 hk e hp0 => ?_⟩
  · rw [swp_length] at hk
    rw [swp_gd L hi hp hk, swp_gd L hi hp (by omega), if_neg hne]
    by_cases e1 : k = i
    · subst e1
      rw [if_pos rfl, hpe, if_pos rfl]; omega
    · rw [if_neg e1]
      by_cases e2 : (k - 1) / 2 = p
      · rw [if_pos e2]
        have := h.1 k k0 hk e1
        rw [e2] at this
        omega
      · rw [if_neg e2]
        by_cases e3 : (k - 1) / 2 = i
        · rw [if_pos e3]
          have := h.2 k k0 hk e3 h0
          rw [hpe] at this
          exact this
        · rw [if_neg e3]
          exact h.1 k k0 hk e1
  · rw [swp_length] at hk
    have hpp := h.1 p hp0 hp (by omega)
    rw [swp_gd L hi hp hk, swp_gd L hi hp (by omega), if_neg (by omega : ¬ (p - 1) / 2 = p), if_neg (by omega : ¬ (p - 1) / 2 = i), if_neg (by omega : ¬ k = p)]
    by_cases e1 : k = i
    · rw [if_pos e1]; exact hpp
    · rw [if_neg e1]
      have := h.1 k k0 hk e1
      rw [e] at this
      omega
/-- the greater of the two below, or the place itself: r of them looked at -/
def blw (L : List Int) (i : Nat) : Nat → Nat
  | 0 => i
  | r + 1 => if 2 * i + 1 + r < L.length ∧ L.getD (blw L i r) 0 < L.getD (2 * i + 1 + r) 0 then 2 * i + 1 + r else blw L i r
theorem blw_cases (L : List Int) (i : Nat) (r : Nat) : blw L i r = i ∨ (2 * i + 1 ≤ blw L i r ∧ blw L i r < 2 * i + 1 + r ∧ blw L i r < L.length) := by
  induction r with
  | zero => exact Or.inl rfl
  | succ r ih =>
    unfold blw
    split
    · rename_i h; exact Or.inr ⟨by omega, by omega, h.1⟩
    · rcases ih with e | e
      · exact Or.inl e
      · exact Or.inr ⟨e.1, by omega, e.2.2⟩
theorem blw_lt {L : List Int} {i : Nat} (hi : i < L.length) (r : Nat) : blw L i r < L.length := by
  rcases blw_cases L i r with e | e
  · rw [e]; exact hi
  · exact e.2.2
theorem blw_ge (L : List Int) (i : Nat) : ∀ r, L.getD i 0 ≤ L.getD (blw L i r) 0 ∧ ∀ k, 2 * i + 1 ≤ k → k < 2 * i + 1 + r → k < L.length → L.getD k 0 ≤ L.getD (blw L i r) 0
  | 0 => ⟨Int.le_refl _, fun k h1 h2 _ => absurd h1 (by omega)⟩
  | r + 1 => by
    obtain ⟨h1, h2⟩ := blw_ge L i r
    unfold blw
    split
    · rename_i h
      refine ⟨by omega, fun k k1 k2 k3 => ?_⟩
      by_cases e : k = 2 * i + 1 + r
      · rw [e]; exact Int.le_refl _
      · have := h2 k k1 (by omega) k3; omega
    · rename_i h
      refine ⟨h1, fun k k1 k2 k3 => ?_⟩
      by_cases e : k = 2 * i + 1 + r
      · subst e
        exact Int.not_lt.1 fun q => h ⟨k3, q⟩
      · exact h2 k k1 (by omega) k3
theorem blw_gt (L : List Int) (i : Nat) : ∀ r, blw L i r = i ∨ L.getD i 0 < L.getD (blw L i r) 0
  | 0 => Or.inl rfl
  | r + 1 => by
    have h1 := (blw_ge L i r).1
    unfold blw
    split
    · rename_i h; exact Or.inr (by omega)
    · exact blw_gt L i r
theorem blw_short {L : List Int} {i r : Nat} (h : L.length ≤ 2 * i + 1 + r) : ∀ k, blw L i (r + k) = blw L i r
  | 0 => rfl
  | k + 1 => by
    rw [← Nat.add_assoc]
    show (if _ then _ else _) = _
    rw [if_neg (by omega)]
    exact blw_short h k
theorem DnI.done {L : List Int} {i : Nat} (h : DnI L i) (hd : blw L i 2 = i) : Hp L := fun k h0 hk => by
  by_cases e : (k - 1) / 2 = i
  · have := (blw_ge L i 2).2 k (by omega) (by omega) hk
    rw [hd] at this
    rw [e]; exact this
  · exact h.1 k h0 hk e
theorem DnI.step {L : List Int} {i : Nat} (h : DnI L i) (hi : i < L.length) (hd : blw L i 2 ≠ i) : DnI (swp L i (blw L i 2)) (blw L i 2) := by
  have hc := (blw_cases L i 2).resolve_left hd
  have hg := (blw_gt L i 2).resolve_left hd
  have hm := (blw_ge L i 2).2
  obtain ⟨d, hde⟩ : ∃ d, blw L i 2 = d := ⟨_, rfl⟩
  rw [hde] at hc hg hm ⊢
  obtain ⟨h1, h2, h3⟩ := hc
  refine ⟨fun k k0 hk hne => ?_, fun k k0 hk e hd0 => ?_⟩
  · rw [swp_length] at hk
    rw [swp_gd L hi h3 hk, swp_gd L hi h3 (by omega), if_neg hne]
    by_cases e1 : k = d
    · subst e1
      rw [if_pos rfl, if_pos (by omega)]; omega
    · rw [if_neg e1]
      by_cases e2 : k = i
      · subst e2
        rw [if_pos rfl, if_neg (by omega)]
        have := h.2 d (by omega) h3 (by omega) k0
        exact this
      · rw [if_neg e2]
        by_cases e3 : (k - 1) / 2 = i
        · rw [if_pos e3]; exact hm k (by omega) (by omega) hk
        · rw [if_neg e3]; exact h.1 k k0 hk e3
  · rw [swp_length] at hk
    have hdi : (d - 1) / 2 = i := by omega
    rw [swp_gd L hi h3 hk, swp_gd L hi h3 (by omega), hdi, if_neg (by omega : ¬ i = d), if_pos rfl, if_neg (by omega : ¬ k = d), if_neg (by omega : ¬ k = i)]
    have := h.1 k k0 hk (by omega)
    rw [e] at this
    exact this
/-- the top goes: the last comes in its place -/
def pop (L : List Int) (n : Nat) : List Int := (swp L 0 n).take n
theorem pop_length {L : List Int} {n : Nat} (h : L.length = n + 1) : (pop L n).length = n := by unfold pop; rw [List.length_take, swp_length]; omega
theorem pop_gd {L : List Int} {n : Nat} (h : L.length = n + 1) {k : Nat} (hk : k < n) : (pop L n).getD k 0 = if k = 0 then L.getD n 0 else L.getD k 0 := by
  unfold pop
  rw [getD_take_lt _ _ hk, swp_gd L (by omega) (by omega) (by omega), if_neg (by omega)]
theorem pop_dn {L : List Int} {n : Nat} (h : L.length = n + 1) (hp : Hp L) : DnI (pop L n) 0 := by
  refine ⟨fun k k0 hk hne => ?_, fun k k0 hk e h0 => absurd h0 (by omega)⟩
  rw [pop_length h] at hk
  rw [pop_gd h hk, pop_gd h (by omega), if_neg (by omega), if_neg hne]
  exact hp k k0 (by omega)
theorem pop_mem {L : List Int} {n : Nat} (h : L.length = n + 1) (hn : Nd L) {z : Int} : z ∈ pop L n ↔ z ∈ L ∧ z ≠ L.getD 0 0 := by
  rw [gd_mem_iff, gd_mem_iff]
  constructor
  · rintro ⟨k, hk, e⟩
    rw [pop_length h] at hk
    rw [pop_gd h hk] at e
    split at e
    · rename_i h0
      refine ⟨⟨n, by omega, e⟩, fun q => ?_⟩
      have := hn n 0 (by omega) (by omega) (e.trans q)
      omega
    · rename_i h0
      refine ⟨⟨k, by omega, e⟩, fun q => h0 (hn k 0 (by omega) (by omega) (e.trans q))⟩
  · rintro ⟨⟨k, hk, e⟩, hne⟩
    have hk0 : k ≠ 0 := fun q => hne (by rw [← e, q])
    by_cases e1 : k = n
    · subst e1
      exact ⟨0, by rw [pop_length h]; omega, by rw [pop_gd h (by omega), if_pos rfl, e]⟩
    · exact ⟨k, by rw [pop_length h]; omega, by rw [pop_gd h (by omega), if_neg hk0, e]⟩
theorem pop_nd {L : List Int} {n : Nat} (h : L.length = n + 1) (hn : Nd L) : Nd (pop L n) := by
  intro a b ha hb e
  rw [pop_length h] at ha hb
  rw [pop_gd h ha, pop_gd h hb] at e
  split at e <;> split at e <;> (have := hn _ _ (by omega) (by omega) e; omega)
theorem nd_snoc {L : List Int} (h : Nd L) {x : Int} (hx : x ∉ L) : Nd (L ++ [x]) := by
  intro a b ha hb e
  rw [List.length_append, List.length_singleton] at ha hb
  rw [gd_app L x a (by omega), gd_app L x b (by omega)] at e
  split at e <;> split at e
  · omega
  · exact absurd (gd_mem_iff.2 ⟨b, by omega, e.symm⟩) hx
  · exact absurd (gd_mem_iff.2 ⟨a, by omega, e⟩) hx
  · exact h a b (by omega) (by omega) e
end Go.Proofs.Ytbcbgglhhfdbcab
