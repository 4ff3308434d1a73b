import Derived.Test.YtnoiiphgpjifgaaGreatDoorWQF
import Derived.Test.YtnoiiphgpjifgaaGreatDoorWPM
import Derived.Test.YtnoiiphgpjifgaaGreatDoorWUA
import Derived.Test.YtnoiiphgpjifgaaGreatDoorNumR
import Derived.Test.YtnoiiphgpjifgaaGreatDoorWPS
import Derived.Test.YtnoiiphgpjifgaaGreatDoorWTD
import Derived.Test.YtnoiiphgpjifgaaGreatDoorWBk
import Derived.Test.YtnoiiphgpjifgaaGreatDoorWI5
import Derived.Test.YtnoiiphgpjifgaaGreatDoorWQ7
import Derived.Test.YtnoiiphgpjifgaaGreatDoorWPT
import Derived.Test.YtnoiiphgpjifgaaGreatDoorWX1
import Derived.Test.YtnoiiphgpjifgaaGreatDoorWQ1
set_option linter.unusedSimpArgs false
namespace Go.Proofs.YtnoiiphgpjifgaaGreatDoor
set_option linter.unusedVariables false
def rnd (A D : Int) : Int := if D < 2 * (A % D) ∨ (2 * (A % D) = D ∧ A / D % 2 = 1) then A / D + 1 else A / D
theorem fl_two {A D Z G m L : Int} (hD : 0 < D) (h : Fl A D Z G) (h1 : 2 * D * m ≤ 2 * A + D) (h2 : 2 * A + D < 2 * D * (m + 1)) : m = if D ≤ 2 * G then Z + 1 else Z := by
  have e := h.eq
  have g0 := h.ge
  have g1 := h.lt
  obtain ⟨t, rfl⟩ : ∃ t, m = Z + t := ⟨m - Z, by omega⟩
  have e1 : 2 * D * (Z + t) = 2 * (Z * D) + 2 * (D * t) := by grind
  have e2 : 2 * D * (Z + t + 1) = 2 * (Z * D) + 2 * (D * t) + 2 * D := by grind
  rw [e1] at h1
  rw [e2] at h2
  have k1 : t < 2 := by
    rcases Int.lt_or_le t 2 with k | k
    · exact k
    · have : D * 2 ≤ D * t := Int.mul_le_mul_of_nonneg_left k (by omega)
      omega
  have k2 : -1 < t := by
    rcases Int.lt_or_le (-1) t with k | k
    · exact k
    · have : D * t ≤ D * (-1) := Int.mul_le_mul_of_nonneg_left k (by omega)
      omega
  have k3 : t = 0 ∨ t = 1 := by omega
  rcases k3 with rfl | rfl
  · rw [if_neg (by omega)]; omega
  · rw [if_pos (by omega)]
theorem fl_is {A D Z G : Int} (hD : 0 < D) (h : Fl A D Z G) : A / D = Z ∧ A % D = G := by
  have h1 := Int.mul_ediv_add_emod A D
  have h2 := Int.emod_nonneg A (show D ≠ 0 by omega)
  have h3 := Int.emod_lt_of_pos A hD
  have e := Fl.same (A := A) (D := D) (Z := Z) (G := G) h hD (A' := A) (D' := D) (Z' := A / D) (G' := A % D) ⟨by rw [Int.mul_comm]; exact h1, h2, h3⟩ hD rfl
  refine ⟨e, ?_⟩
  have := h.eq
  rw [e, Int.mul_comm] at h1
  omega
theorem ref_rnd {A D : Int} {x : Rat} (hD : 0 < D) (hx : x = Rat.divInt A D) {m G : Int} (hf : Fl (x + Rat.divInt 1 2).num ((x + Rat.divInt 1 2).den : Int) m G) :
    (((m : Rat) - x).den = 2 ↔ 2 * (A % D) = D) ∧ m = if D ≤ 2 * (A % D) then A / D + 1 else A / D := by
  obtain ⟨Z, L, hz⟩ := fl_ex A hD
  obtain ⟨e1, e2⟩ := fl_is hD hz
  rw [e1, e2]
  have lo := low_of (A := A * 2 + 1 * D) (D := D * 2) (r := x + Rat.divInt 1 2) (by omega) (by rw [hx, Rat.divInt_add_divInt _ _ (by omega) (by decide)])
  have dp : (0 : Int) < ((x + Rat.divInt 1 2).den : Int) := by have := (x + Rat.divInt 1 2).den_pos; omega
  obtain ⟨M, N, hn⟩ := fl_ex (A * 2 + 1 * D) (D := D * 2) (by omega)
  have em : m = M := Fl.same hn (by omega) hf dp lo.eq
  have q1 := hn.eq
  have q2 := hn.ge
  have q3 := hn.lt
  have hm : m = if D ≤ 2 * L then Z + 1 else Z := by
    refine fl_two (L := 0) hD hz ?_ ?_
    · rw [em, show 2 * D * M = M * (D * 2) by grind]; omega
    · rw [em, show 2 * D * (M + 1) = M * (D * 2) + 2 * D by grind]; omega
  refine ⟨?_, hm⟩
  have ly := low_of (A := m * D - A) (D := D) (r := (m : Rat) - x) (by omega) (by
    rw [hx, show (m : Rat) = Rat.divInt m 1 from (Rat.num_divInt_den (m : Rat)).symm, Rat.divInt_sub_divInt _ _ (by decide) (by omega)]
    congr 1 <;> omega)
  have e3 := hz.eq
  have g0 := hz.ge
  have g1 := hz.lt
  have ye := ly.eq
  have yc := ly.cop
  generalize ((m : Rat) - x).den = V at ye yc ly ⊢
  generalize ((m : Rat) - x).num = Y at ye yc ly
  obtain ⟨t, ht⟩ : ∃ t, m = Z + t := ⟨m - Z, by omega⟩
  have ye' : Y * D = (D * t - L) * V := by rw [ye, ht, ← e3]; congr 1; grind
  constructor
  · rintro rfl
    have e4 : D * (2 * t - Y) = 2 * L := by grind
    have k1 : 2 * t - Y < 2 := by
      rcases Int.lt_or_le (2 * t - Y) 2 with k | k
      · exact k
      · have : D * 2 ≤ D * (2 * t - Y) := Int.mul_le_mul_of_nonneg_left k (by omega)
        omega
    have k2 : -1 < 2 * t - Y := by
      rcases Int.lt_or_le (-1) (2 * t - Y) with k | k
      · exact k
      · have : D * (2 * t - Y) ≤ D * (-1) := Int.mul_le_mul_of_nonneg_left k (by omega)
        omega
    have k3 : 2 * t - Y = 0 ∨ 2 * t - Y = 1 := by omega
    rcases k3 with k | k
    · exfalso
      have : 2 ∣ Nat.gcd (am Y) 2 := Nat.dvd_gcd (by unfold am; omega) (Nat.dvd_refl 2)
      rw [yc] at this
      omega
    · rw [k] at e4; omega
  · intro h
    have hL : 0 < L := by omega
    have e4 : Y * 2 = (2 * t - 1) * V := by
      have : (Y * 2) * L = ((2 * t - 1) * V) * L := by rw [← h] at ye'; grind
      exact Int.eq_of_mul_eq_mul_right (by omega) this
    have vp := ly.pos
    have v2 : V % 2 = 0 := by
      rcases Nat.mod_two_eq_zero_or_one V with k | k
      · exact k
      · exfalso
        obtain ⟨u, hu⟩ : ∃ u : Nat, V = 2 * u + 1 := ⟨V / 2, by omega⟩
        rw [hu] at e4
        have : Y * 2 = 2 * ((2 * t - 1) * u + t) - 1 := by rw [e4]; push_cast; grind
        omega
    obtain ⟨u, rfl⟩ : ∃ u, V = 2 * u := ⟨V / 2, by omega⟩
    have e5 : Y = (2 * t - 1) * u := by
      have : Y * 2 = ((2 * t - 1) * u) * 2 := by rw [e4]; push_cast; grind
      omega
    have : u ∣ Nat.gcd (am Y) (2 * u) := Nat.dvd_gcd (by unfold am; rw [e5, Int.natAbs_mul]; exact Nat.dvd_mul_left _ _) (Nat.dvd_mul_left _ _)
    rw [yc] at this
    have := Nat.le_of_dvd (by omega) this
    omega
theorem rnd_near {A D : Int} (hD : 0 < D) : 2 * (rnd A D * D - A) ≤ D ∧ -D ≤ 2 * (rnd A D * D - A) ∧ (2 * (rnd A D * D - A) = D ∨ 2 * (rnd A D * D - A) = -D → rnd A D % 2 = 0) := by
  have h1 := Int.mul_ediv_add_emod A D
  have h2 := Int.emod_nonneg A (show D ≠ 0 by omega)
  have h3 := Int.emod_lt_of_pos A hD
  unfold rnd
  generalize A % D = L at *
  generalize A / D = Z at *
  have e1 : (Z + 1) * D = D * Z + D := by grind
  have e2 : Z * D = D * Z := by grind
  split
  · rename_i h
    rw [e1]
    refine ⟨by omega, by omega, fun k => ?_⟩
    rcases h with h | h
    · omega
    · omega
  · rename_i h
    rw [e2]
    refine ⟨by omega, by omega, fun k => ?_⟩
    have : ¬ (2 * L = D ∧ Z % 2 = 1) := fun c => h (.inr c)
    omega
def nz (k : Nat) : ByteArray := ⟨(List.replicate k (48 : UInt8)).toArray⟩
theorem nz_size (k : Nat) : (nz k).size = k := by show (List.replicate k (48 : UInt8)).toArray.size = k; simp
theorem nz_byt {k j : Nat} (h : j < k) : byt (nz k) j = 48 := by
  rw [byt_of (by rw [nz_size]; exact h)]
  show ((List.replicate k (48 : UInt8)).toArray[j]'_).toNat = 48
  simp
theorem byt_app {s t : ByteArray} {j : Nat} : byt (s ++ t) j = if j < s.size then byt s j else byt t (j - s.size) := by
  by_cases h : j < s.size
  · rw [if_pos h, byt_of (by rw [ByteArray.size_append]; omega), byt_of h, ByteArray.getElem_append_left h]
  · rw [if_neg h]
    by_cases k : j < s.size + t.size
    · rw [byt_of (by rw [ByteArray.size_append]; omega), byt_of (by omega), ByteArray.getElem_append_right (by omega)]
    · unfold byt; rw [dif_neg (by rw [ByteArray.size_append]; omega), dif_neg (by omega)]
theorem nz_of {z : ByteArray} {k : Nat} (h : z.size = k) (h48 : ∀ j, j < z.size → byt z j = 48) : z = nz k :=
  ba_ext (by rw [nz_size, h]) fun j hj => by rw [h48 j hj, nz_byt (by omega)]
theorem nz_succ (k : Nat) : (⟨#[48]⟩ : ByteArray) ++ nz k = nz (k + 1) :=
  nz_of (by rw [ByteArray.size_append, nz_size]; show 1 + k = k + 1; omega) fun j hj => by
    rw [byt_app]
    split
    · rename_i h
      have : j = 0 := by have : (⟨#[48]⟩ : ByteArray).size = 1 := rfl; omega
      subst this; rfl
    · rename_i h
      have : (⟨#[48]⟩ : ByteArray).size = 1 := rfl
      rw [ByteArray.size_append, nz_size, this] at hj
      exact nz_byt (by omega)
theorem nz_zero (d : ByteArray) : nz 0 ++ d = d := ba_ext (by rw [ByteArray.size_append, nz_size]; omega) fun j hj => by rw [byt_app, nz_size, if_neg (by omega)]; rfl
def padT (p : Nat) (d : ByteArray) : ByteArray := nz (p + 1 - d.size) ++ d
theorem pad_size (p : Nat) (d : ByteArray) : (padT p d).size = max (p + 1) d.size := by unfold padT; rw [ByteArray.size_append, nz_size]; omega
def ptT (p : Nat) (z : ByteArray) : ByteArray := if p = 0 then z else z.extract 0 (z.size - p) ++ ⟨#[46]⟩ ++ z.extract (z.size - p) z.size
def decT (s : Bool) (p : Nat) (d : ByteArray) : ByteArray := if s = true then ⟨#[45]⟩ ++ ptT p (padT p d) else ptT p (padT p d)
theorem val_app_nz (k : Nat) (d : ByteArray) : val 10 (nz k ++ d) = val 10 d := by
  have hs : (nz k ++ d).size = k + d.size := by rw [ByteArray.size_append, nz_size]
  unfold val
  rw [hs, tvr_split]
  have e1 : tvr 10 (fun j => dval (byt (nz k ++ d) j)) 0 k = 0 := by
    rw [tvr_congr (g := fun _ => 0) (j := 0)]
    · clear hs
      induction k with
      | zero => rfl
      | succ k ih => rw [tvr, ih]
    · intro n hn
      show dval (byt (nz k ++ d) (0 + n)) = 0
      rw [Nat.zero_add, byt_app, nz_size, if_pos hn, nz_byt hn]
      rfl
  rw [e1, Nat.zero_mul, Nat.zero_add, Nat.zero_add]
  refine tvr_congr fun n hn => ?_
  show dval (byt (nz k ++ d) (k + n)) = dval (byt d (0 + n))
  rw [byt_app, nz_size, if_neg (by omega), Nat.zero_add, Nat.add_sub_cancel_left]
theorem pad_dig {p M : Nat} {d : ByteArray} (hd : isTx 10 M d) : ∀ j, j < (padT p d).size → dval (byt (padT p d) j) < 10 := fun j hj => by
  unfold padT at hj ⊢
  rw [byt_app, nz_size]
  rw [ByteArray.size_append, nz_size] at hj
  split
  · rename_i h; rw [nz_byt h]; decide
  · exact (hd.isT (by omega) (by omega)).2.2 _ (by omega)
theorem pad_val {p M : Nat} {d : ByteArray} (hd : isTx 10 M d) : val 10 (padT p d) = M := by
  unfold padT
  rw [val_app_nz]
  exact hd.val (by omega) (by omega)
theorem dig_no {c k : Nat} (h : dval c < 10) (hk : k < 48) : c ≠ k := by have := dval10.1 h; omega
theorem pad_head {p M : Nat} {d : ByteArray} (hd : isTx 10 M d) : isT 10 ((padT p d).extract 0 ((padT p d).size - p)) := by
  have hz := pad_size p d
  have he : ((padT p d).extract 0 ((padT p d).size - p)).size = (padT p d).size - p := by rw [ByteArray.size_extract]; omega
  refine ⟨by omega, fun h1 => ?_, fun k hk => ?_⟩
  · have h2 : p + 1 - d.size = 0 := by omega
    rw [byt_extract (by omega) (by omega), Nat.zero_add]
    unfold padT
    rw [h2, nz_zero]
    exact (hd.isT (by omega) (by omega)).2.1 (by omega)
  · rw [byt_extract (by omega) (by omega), Nat.zero_add]
    exact pad_dig hd k (by omega)
theorem pt_size {p : Nat} {z : ByteArray} (h : p < z.size) : (ptT p z).size = if p = 0 then z.size else z.size + 1 := by
  unfold ptT
  split
  · rfl
  · rw [ByteArray.size_append, ByteArray.size_append, ByteArray.size_extract, ByteArray.size_extract]
    show min _ _ - 0 + 1 + _ = _
    omega
theorem rd_dec {p M : Nat} {d : ByteArray} (hd : isTx 10 M d) : Rd (ptT p (padT p d)) (some (M, 10 ^ p)) := by
  have hz := pad_size p d
  have hg := pad_dig (p := p) hd
  have hv := pad_val (p := p) hd
  have hh := pad_head (p := p) hd
  generalize hZ : padT p d = z at *
  by_cases h0 : p = 0
  · subst h0
    unfold ptT
    rw [if_pos rfl, Nat.pow_zero, ← hv]
    refine .whole (fun k hk => dig_no (hg k hk) (by omega)) (fun k hk => dig_no (hg k hk) (by omega)) ?_
    rw [Nat.sub_zero, show z.extract 0 z.size = z by simp] at hh
    exact hh
  · have hL : z.size - p < z.size := by omega
    have s1 : (z.extract 0 (z.size - p)).size = z.size - p := by rw [ByteArray.size_extract]; omega
    have s2 : (z.extract (z.size - p) z.size).size = p := by rw [ByteArray.size_extract]; omega
    have hc := val_cut (b := 10) (s := z) (c := z.size - p) (by omega)
    rw [hv, show z.size - (z.size - p) = p by omega] at hc
    have g1 : ∀ k, k < z.size - p → dval (byt (z.extract 0 (z.size - p)) k) < 10 := fun k hk => by rw [byt_extract (by omega) (by omega), Nat.zero_add]; exact hg k (by omega)
    have g2 : ∀ k, k < p → dval (byt (z.extract (z.size - p) z.size) k) < 10 := fun k hk => by rw [byt_extract (by omega) (by omega)]; exact hg _ (by omega)
    unfold ptT
    rw [if_neg h0]
    generalize z.extract 0 (z.size - p) = u at *
    generalize z.extract (z.size - p) z.size = v at *
    have ts : (u ++ ⟨#[46]⟩ ++ v).size = u.size + 1 + v.size := by rw [ByteArray.size_append, ByteArray.size_append]; rfl
    have us : (u ++ (⟨#[46]⟩ : ByteArray)).size = u.size + 1 := by rw [ByteArray.size_append]; rfl
    have bt : ∀ k, byt (u ++ ⟨#[46]⟩ ++ v) k = if k < u.size then byt u k else if k = u.size then 46 else byt v (k - (u.size + 1)) := fun k => by
      rw [byt_app, us]
      by_cases k1 : k < u.size
      · rw [if_pos (by omega), byt_app, if_pos k1, if_pos k1]
      · rw [if_neg k1]
        by_cases k2 : k = u.size
        · rw [if_pos (by omega), if_pos k2, byt_app, if_neg k1, k2, Nat.sub_self]; rfl
        · rw [if_neg (by omega), if_neg k2]
    have R := Rd.point (t := u ++ ⟨#[46]⟩ ++ v) (i := u.size)
      (fun k hk => by
        rw [bt]
        split
        · exact dig_no (g1 k (by omega)) (by omega)
        · split
          · decide
          · exact dig_no (g2 _ (by omega)) (by omega))
      (by omega) (by rw [bt, if_neg (by omega), if_pos rfl])
      (fun k hk => by rw [bt, if_pos hk]; exact dig_no (g1 k (by omega)) (by omega))
      (by rw [frac_left]; exact hh)
      (by rw [frac_right]; exact ⟨by omega, fun k hk => g2 k (by omega)⟩)
    rw [frac_left, frac_right, show (u ++ ⟨#[46]⟩ ++ v).size - (u.size + 1) = p by omega, ← hc] at R
    exact R
theorem pt_byt0 {p M : Nat} {d : ByteArray} (hd : isTx 10 M d) : byt (ptT p (padT p d)) 0 ≠ 45 := by
  have hz := pad_size p d
  have hg := pad_dig (p := p) hd 0 (by omega)
  generalize padT p d = z at *
  unfold ptT
  split
  · exact dig_no hg (by omega)
  · rw [byt_app, if_pos (by rw [ByteArray.size_append, ByteArray.size_extract]; show 0 < min _ _ - 0 + 1; omega), byt_app, if_pos (by rw [ByteArray.size_extract]; omega), byt_extract (by omega) (by omega)]
    exact dig_no hg (by omega)
theorem dec_neg {s : Bool} {p M : Nat} {d : ByteArray} (hd : isTx 10 M d) : negOf (decT s p d) = s ∧ bodyOf (decT s p d) = ptT p (padT p d) := by
  have e : decT s p d = if s = true then ⟨#[45]⟩ ++ ptT p (padT p d) else ptT p (padT p d) := rfl
  cases s with
  | false =>
    have n : negOf (ptT p (padT p d)) = false := by unfold negOf; exact decide_eq_false fun h => pt_byt0 (p := p) hd h.2
    rw [e, if_neg (by decide)]
    refine ⟨n, ?_⟩
    unfold bodyOf
    rw [n, if_neg (by decide)]
  | true =>
    have n : negOf (⟨#[45]⟩ ++ ptT p (padT p d)) = true := by
      unfold negOf
      refine decide_eq_true ⟨by rw [ByteArray.size_append]; show 0 < 1 + _; omega, ?_⟩
      rw [byt_app, if_pos (by decide)]
      rfl
    rw [e, if_pos rfl]
    refine ⟨n, ?_⟩
    unfold bodyOf
    rw [n, if_pos rfl]
    exact cons_ext _
open Go.RowKit
theorem cell_ltB {w : World} {c o : Nat} {v : Value} (h : w.cell? ⟨c, o, none⟩ = some v) : c < w.heap.size := World.block_lt_of_cell? w _ h
theorem Blk.set2 {c : Nat} {W : World} {u0 u1 : Value} {t : TypeId} (h : Blk W c #[u0, u1] t) (v0 v1 : Value) :
    Ch c W ((W.setCell ⟨c, 0, none⟩ v0).setCell ⟨c, 1, none⟩ v1) ∧ Blk ((W.setCell ⟨c, 0, none⟩ v0).setCell ⟨c, 1, none⟩ v1) c #[v0, v1] t := by
  refine ⟨(Ch.set v0).trans (Ch.set v1), ?_⟩
  simp [Blk, World.setCell, Array.getElem?_modify, show W.heap[c]? = _ from h]
theorem ln_succ {Z : Int} {X n k : Nat} (h : am Z ≤ X + k) (hX : X < BB ^ n) (hk : k < 4294967296) : ln (am Z) ≤ n + 1 := by
  refine ln_le_of_lt ?_
  have h1 : BB ^ (n + 1) = BB ^ n * 4294967296 := by rw [Nat.pow_succ]; rfl
  have h2 := BBp n
  generalize BB ^ n = P at *
  have : P * 4294967296 ≥ P + 4294967295 := by omega
  omega
set_option maxHeartbeats 4000000 in
set_option maxRecDepth 100000 in
theorem nearest_gt (s : Bool) (a : Option Addr) (n c X : Nat) (b : Option Addr) (m d Y : Nat) (Z G R : Int) (w : World) (hc : n ≤ c) (hn : n ≤ 1099511627776) (hS : Seg w a X n) (hd : m ≤ d) (hm : m ≤ 1099511627776) (hT : Seg w b Y m) (hF : Fl (sg s X) (Y : Int) Z G) (hv : (Y : Int) < 2 * G) (hR : Z + 1 = R) :
    Calls Tryz.prog 19 #[.agg #[.bool s, .slice a n c, .bool false, .slice b m d]] w fun e w' => ∃ p, e = .returned (.agg #[.bool (ng R), .slice p (ln (am R)) (ln (am R))]) ∧ Below w.heap.size w w' ∧ Seg w' p (am R) (ln (am R)) := by
  have g0 := hF.ge
  have g1 := hF.lt
  have aZ := hF.am (by omega)
  rw [am_sg] at aZ
  have lZ := ln_succ aZ hS.1 (by omega)
  have lG : ln (am G) ≤ m + 1 := ln_succ (X := Y) (k := 0) (by unfold am; omega) hT.1 (by omega)
  obtain ⟨D2, hD2⟩ : ∃ D, G + G = D := ⟨_, rfl⟩
  have lD : ln (am D2) ≤ m + 1 := by
    refine ln_le_of_lt ?_
    have h1 : BB ^ (m + 1) = BB ^ m * 4294967296 := by rw [Nat.pow_succ]; rfl
    have h2 := hT.1
    have h3 : am D2 ≤ 2 * Y := by unfold am; omega
    generalize BB ^ m = P at *
    omega
  have lR : ln (am R) ≤ n + 1 := ln_succ (X := X) (k := 2) (by unfold am at aZ ⊢; omega) hS.1 (by omega)
  have G1 := hide' (fun w' k1 k2 => wfloor_pos s a n c X b m d Y Z G w' hc (by omega) k1 hd (by omega) k2 hF)
  have G2 := hide' (fun w' p k => wAdd_is (ng G) p (ln (am G)) (ln (am G)) (am G) (ng G) p (ln (am G)) (ln (am G)) (am G) D2 w' (Nat.le_refl _) (by omega) k (Nat.le_refl _) (by omega) k (by rw [sg_na]; exact hD2))
  have hC : sgn (sg (ng D2) (am D2) - sg false Y) = 1 := by
    rw [sg_na, show sg false Y = (Y : Int) from rfl]
    exact sgn_pos (by omega)
  have G3' := fun w' p k1 k2 => wCmp_is (ng D2) p (ln (am D2)) (ln (am D2)) (am D2) false b m d Y w' (Nat.le_refl _) (by omega) k1 hd (by omega) k2
  rw [hC] at G3'
  have G3 := hide' G3'
  clear G3' hC
  obtain ⟨I, hI⟩ : ∃ I : Int, I = 1 := ⟨_, rfl⟩
  have lI : ln (am I) ≤ 1 := by rw [hI, show am 1 = 1 from rfl, ln_one]; omega
  have G5' : ∀ w', Calls Tryz.prog 44 #[.int .i64 1] w' fun e w'' => ∃ p, e = .returned (.agg #[.bool (ng I), .slice p (ln (am I)) (ln (am I))]) ∧ New w' w'' p (am I) (ln (am I)) := fun w' => by subst hI; exact wOf_is 1 w' (by omega) (by omega)
  have G5 := hide' G5'
  clear G5'
  have G6 := hide' (fun w' p q k1 k2 => wAdd_is (ng Z) p (ln (am Z)) (ln (am Z)) (am Z) (ng I) q (ln (am I)) (ln (am I)) (am I) R w' (Nat.le_refl _) (by omega) k1 (Nat.le_refl _) (by omega) k2 (by rw [sg_na, sg_na, hI]; exact hR))
  clear hI lI hR
  clear hF hv hD2 g0 g1 aZ lZ lG lD lR
  have bel : Below w.heap.size w w := Below.refl _ _
  have bb := below_alloc (w := w) (.cells #[.bool s, .slice a n c, .bool false, .slice b m d] 43)
  replace hS := hS.later bb
  replace hT := hT.later bb
  replace bel := bel.trans (bb.mono bel.size)
  clear bb
  have qP := Blk.new w #[.bool s, .slice a n c, .bool false, .slice b m d] 43
  have bb := below_alloc (w := (w.alloc (.cells #[.bool s, .slice a n c, .bool false, .slice b m d] 43))) (.cells #[.bool false, .slice none 0 0] 25)
  replace hS := hS.later bb
  replace hT := hT.later bb
  replace qP := qP.later bb
  replace bel := bel.trans (bb.mono bel.size)
  clear bb
  have qR := Blk.new (w.alloc (.cells #[.bool s, .slice a n c, .bool false, .slice b m d] 43)) #[.bool false, .slice none 0 0] 25
  simp only [World.size_alloc] at qR
  go_enter Tryz.func19, Tryz.ntmps19
  go_wp2_with fail
  obtain ⟨W0, hW⟩ : ∃ W, ((w.alloc (.cells #[.bool s, .slice a n c, .bool false, .slice b m d] 43)).alloc (.cells #[.bool false, .slice none 0 0] 25)) = W := ⟨_, rfl⟩
  rw [hW] at bel hS hT qP qR ⊢
  clear hW
  refine (G1.out _ hS hT).mono ?_
  rintro e w1 ⟨aq, ar, rfl, nq, nr⟩
  have bb := nq.below
  replace hS := hS.later bb
  replace hT := hT.later bb
  replace qP := qP.later bb
  replace qR := qR.later bb
  replace bel := bel.trans (bb.mono bel.size)
  clear bb
  have kq := nq.seg
  have kr := nr.seg
  clear nq nr
  have lq3qP := qP.lt
  have lq3qR := qR.lt
  have bb := below_alloc (w := w1) (.cells #[.bool (ng Z), .slice aq (ln (am Z)) (ln (am Z))] 25)
  replace hS := hS.later bb
  replace hT := hT.later bb
  replace qP := qP.later bb
  replace qR := qR.later bb
  replace kq := kq.later bb
  replace kr := kr.later bb
  replace bel := bel.trans (bb.mono bel.size)
  clear bb
  have q3 := Blk.new w1 #[.bool (ng Z), .slice aq (ln (am Z)) (ln (am Z))] 25
  have lq4qP := qP.lt
  simp only [World.size_alloc] at lq4qP
  have lq4qR := qR.lt
  simp only [World.size_alloc] at lq4qR
  have lq4q3 := q3.lt
  simp only [World.size_alloc] at lq4q3
  have bb := below_alloc (w := (w1.alloc (.cells #[.bool (ng Z), .slice aq (ln (am Z)) (ln (am Z))] 25))) (.cells #[.bool (ng G), .slice ar (ln (am G)) (ln (am G))] 25)
  replace hS := hS.later bb
  replace hT := hT.later bb
  replace qP := qP.later bb
  replace qR := qR.later bb
  replace kq := kq.later bb
  replace kr := kr.later bb
  replace q3 := q3.later bb
  replace bel := bel.trans (bb.mono bel.size)
  clear bb
  have q4 := Blk.new (w1.alloc (.cells #[.bool (ng Z), .slice aq (ln (am Z)) (ln (am Z))] 25)) #[.bool (ng G), .slice ar (ln (am G)) (ln (am G))] 25
  simp only [World.size_alloc] at q4
  go_wp2_with fail
  obtain ⟨W1, hW⟩ : ∃ W, ((w1.alloc (.cells #[.bool (ng Z), .slice aq (ln (am Z)) (ln (am Z))] 25)).alloc (.cells #[.bool (ng G), .slice ar (ln (am G)) (ln (am G))] 25)) = W := ⟨_, rfl⟩
  rw [hW] at bel hS hT qP qR kq kr q3 q4 ⊢
  clear hW
  have q4_0 := q4.cell 0
  have q4_1 := q4.cell 1
  have qP_2 := qP.cell 2
  have qP_3 := qP.cell 3
  simp only [List.getElem?_toArray, List.getElem?_cons_zero, List.getElem?_cons_succ] at q4_0 q4_1 qP_2 qP_3
  have bD : Below W1.heap.size W1 W1.drew := (Below.refl _ _).drew
  have kq4_0 := below_cell bD q4_0
  have kq4_1 := below_cell bD q4_1
  have kqP_2 := below_cell bD qP_2
  have kqP_3 := below_cell bD qP_3
  replace bel := bel.trans (bD.mono bel.size)
  replace hS := hS.later bD
  replace hT := hT.later bD
  replace qP := qP.later bD
  replace qR := qR.later bD
  replace kq := kq.later bD
  replace kr := kr.later bD
  replace q3 := q3.later bD
  replace q4 := q4.later bD
  refine wp_region_held_drew (S := fun w' => w'.cell? ⟨w1.heap.size + 1, 0, none⟩ = some (.bool (ng G)) ∧ w'.cell? ⟨w1.heap.size + 1, 1, none⟩ = some (.slice ar (ln (am G)) (ln (am G))) ∧ w'.cell? ⟨w.heap.size, 2, none⟩ = some (.bool false) ∧ w'.cell? ⟨w.heap.size, 3, none⟩ = some (.slice b m d)) (by kernel_rfl) ⟨kq4_0, kq4_1, kqP_2, kqP_3⟩ (fun hHeld => ?_)
  clear kq4_0 kq4_1 kqP_2 kqP_3
  generalize W1.drew = wF0 at bD hS hT qP qR kq kr q3 q4 bel hHeld ⊢
  clear bD q4_0 q4_1 qP_2 qP_3
  refine tk 0 (v := ?_) rfl (Or.inl ⟨by rfl, ?_⟩) ?_
  rotate_left
  · intro w9 hSw
    go_simp
    first | done | with_reducible rfl
  simp only [pP, pN, pS, pZ, pC]
  refine tk 1 (v := ?_) rfl (Or.inl ⟨by rfl, ?_⟩) ?_
  rotate_left
  · intro w9 hSw
    go_simp
    first | done | with_reducible rfl
  simp only [pP, pN, pS, pZ, pC]
  refine tk 3 (v := ?_) rfl (Or.inl ⟨by rfl, ?_⟩) ?_
  rotate_left
  · intro w9 hSw
    go_simp
    first | done | with_reducible rfl
  simp only [pP, pN, pS, pZ, pC]
  refine tk 4 (v := ?_) rfl (Or.inl ⟨by rfl, ?_⟩) ?_
  rotate_left
  · intro w9 hSw
    go_simp
    first | done | with_reducible rfl
  simp only [pP, pN, pS, pZ, pC]
  refine wpAnyH_ready (rs := [2]) (by kernel_rfl) (by simp) ?_
  refine cons' rfl (fun KK hKK => ?_)
  go_simp
  refine (G2.out _ _ kr).mono ?_
  rintro e w2 ⟨a2, rfl, n2⟩
  have bC := n2.below
  replace bel := bel.trans (bC.mono bel.size)
  replace hS := hS.later bC
  replace hT := hT.later bC
  replace qP := qP.later bC
  replace qR := qR.later bC
  replace kq := kq.later bC
  replace kr := kr.later bC
  replace q3 := q3.later bC
  replace q4 := q4.later bC
  replace hHeld := (⟨below_cell bC hHeld.1, below_cell bC hHeld.2.1, below_cell bC hHeld.2.2.1, below_cell bC hHeld.2.2.2⟩ : _ ∧ _ ∧ _ ∧ _)
  clear bC
  go_wp2_with fail
  have k2 := n2.seg
  clear n2
  refine hKK.out _ _ hHeld ?_
  clear hHeld
  intro hHeld
  clear hKK KK
  try simp only [pP, pN, pS, pZ, pC]
  refine wpAnyH_ready (rs := [5]) (by kernel_rfl) (by simp) ?_
  refine cons' rfl (fun KK hKK => ?_)
  go_simp
  refine (G3.out _ _ k2 hT).mono ?_
  rintro e w3 ⟨rfl, b5⟩
  have bC := b5
  replace bel := bel.trans (bC.mono bel.size)
  replace hS := hS.later bC
  replace hT := hT.later bC
  replace qP := qP.later bC
  replace qR := qR.later bC
  replace kq := kq.later bC
  replace kr := kr.later bC
  replace q3 := q3.later bC
  replace q4 := q4.later bC
  replace k2 := k2.later bC
  replace hHeld := (⟨below_cell bC hHeld.1, below_cell bC hHeld.2.1, below_cell bC hHeld.2.2.1, below_cell bC hHeld.2.2.2⟩ : _ ∧ _ ∧ _ ∧ _)
  clear bC
  go_wp2_with fail
  clear b5
  refine hKK.out _ _ hHeld ?_
  clear hHeld
  intro hHeld
  clear hKK KK
  try simp only [pP, pN, pS, pZ, pC]
  refine tk 6 (v := ?_) rfl (Or.inl ⟨by rfl, ?_⟩) ?_
  rotate_left
  · intro w9 hSw
    go_simp
    first | done | with_reducible rfl
  simp only [pP, pN, pS, pZ, pC]
  refine wpAnyH_done (by kernel_rfl) ?_ _
  skip
  have q3_0 := q3.cell 0
  have q3_1 := q3.cell 1
  simp only [List.getElem?_toArray, List.getElem?_cons_zero, List.getElem?_cons_succ] at q3_0 q3_1
  go_wp2_with fail
  clear q3_0 q3_1
  have q3_0 := q3.cell 0
  have q3_1 := q3.cell 1
  simp only [List.getElem?_toArray, List.getElem?_cons_zero, List.getElem?_cons_succ] at q3_0 q3_1
  have bD : Below w3.heap.size w3 w3.drew := (Below.refl _ _).drew
  have kq3_0 := below_cell bD q3_0
  have kq3_1 := below_cell bD q3_1
  replace bel := bel.trans (bD.mono bel.size)
  replace hS := hS.later bD
  replace hT := hT.later bD
  replace qP := qP.later bD
  replace qR := qR.later bD
  replace kq := kq.later bD
  replace kr := kr.later bD
  replace q3 := q3.later bD
  replace q4 := q4.later bD
  replace k2 := k2.later bD
  refine wp_region_held_drew (S := fun w' => w'.cell? ⟨w1.heap.size, 0, none⟩ = some (.bool (ng Z)) ∧ w'.cell? ⟨w1.heap.size, 1, none⟩ = some (.slice aq (ln (am Z)) (ln (am Z)))) (by kernel_rfl) ⟨kq3_0, kq3_1⟩ (fun hHeld => ?_)
  clear kq3_0 kq3_1
  generalize w3.drew = wG0 at bD hS hT qP qR kq kr q3 q4 k2 bel hHeld ⊢
  clear bD q3_0 q3_1
  refine tk 0 (v := ?_) rfl (Or.inl ⟨by rfl, ?_⟩) ?_
  rotate_left
  · intro w9 hSw
    go_simp
    first | done | with_reducible rfl
  simp only [pP, pN, pS, pZ, pC]
  refine wpAnyH_ready (rs := [1]) (by kernel_rfl) (by simp) ?_
  refine cons' rfl (fun KK hKK => ?_)
  go_simp
  refine (G5.out _).mono ?_
  rintro e w4 ⟨pi, rfl, ni⟩
  have bC := ni.below
  replace bel := bel.trans (bC.mono bel.size)
  replace hS := hS.later bC
  replace hT := hT.later bC
  replace qP := qP.later bC
  replace qR := qR.later bC
  replace kq := kq.later bC
  replace kr := kr.later bC
  replace q3 := q3.later bC
  replace q4 := q4.later bC
  replace k2 := k2.later bC
  replace hHeld := (⟨below_cell bC hHeld.1, below_cell bC hHeld.2⟩ : _ ∧ _)
  clear bC
  go_wp2_with fail
  have ki := ni.seg
  clear ni
  refine hKK.out _ _ hHeld ?_
  clear hHeld
  intro hHeld
  clear hKK KK
  try simp only [pP, pN, pS, pZ, pC]
  refine wpAnyH_ready (rs := [2]) (by kernel_rfl) (by simp) ?_
  refine cons' rfl (fun KK hKK => ?_)
  go_simp
  refine (G6.out _ _ _ kq ki).mono ?_
  rintro e w5 ⟨pr, rfl, nR⟩
  have bC := nR.below
  replace bel := bel.trans (bC.mono bel.size)
  replace hS := hS.later bC
  replace hT := hT.later bC
  replace qP := qP.later bC
  replace qR := qR.later bC
  replace kq := kq.later bC
  replace kr := kr.later bC
  replace q3 := q3.later bC
  replace q4 := q4.later bC
  replace k2 := k2.later bC
  replace ki := ki.later bC
  replace hHeld := (⟨below_cell bC hHeld.1, below_cell bC hHeld.2⟩ : _ ∧ _)
  clear bC
  go_wp2_with fail
  have kR := nR.seg
  clear nR
  refine hKK.out _ _ hHeld ?_
  clear hHeld
  intro hHeld
  clear hKK KK
  try simp only [pP, pN, pS, pZ, pC]
  refine wpAnyH_ready (rs := [3]) (by kernel_rfl) (by simp) ?_
  refine cons' rfl (fun KK hKK => ?_)
  have z0 := qR.cell 0
  have z1 := qR.cell 1
  simp only [List.getElem?_toArray, List.getElem?_cons_zero, List.getElem?_cons_succ] at z0 z1
  have fz := fun o => qR.frozen o
  obtain ⟨c9, q9⟩ := qR.set2 (.bool (ng R)) (.slice pr (ln (am R)) (ln (am R)))
  have hno := qR.no (by simp)
  replace hS := hS.ch c9 hno
  replace hT := hT.ch c9 hno
  replace qP := qP.ch c9 (by omega)
  replace kq := kq.ch c9 hno
  replace kr := kr.ch c9 hno
  replace q3 := q3.ch c9 (by omega)
  replace q4 := q4.ch c9 (by omega)
  replace k2 := k2.ch c9 hno
  replace ki := ki.ch c9 hno
  replace kR := kR.ch c9 hno
  replace bel := bel.trans (c9.below (by omega))
  have hH2 := (⟨(World.cell?_of_block (w := w5) (a := ⟨w1.heap.size, 0, none⟩) (c9.other (w1.heap.size) (by omega))).trans hHeld.1, (World.cell?_of_block (w := w5) (a := ⟨w1.heap.size, 1, none⟩) (c9.other (w1.heap.size) (by omega))).trans hHeld.2⟩ : _ ∧ _)
  go_simp
  clear z0 z1 fz hno c9
  replace qR := q9
  refine hKK.out _ _ hH2 ?_
  clear hHeld
  intro hHeld
  clear hKK KK
  try simp only [pP, pN, pS, pZ, pC]
  clear hH2
  generalize ((w5.setCell ⟨w.heap.size + 1, 0, none⟩ (.bool (ng R))).setCell ⟨w.heap.size + 1, 1, none⟩ (.slice pr (ln (am R)) (ln (am R)))) = w6 at bel hS hT qP qR kq kr q3 q4 k2 ki kR hHeld ⊢
  refine wpAnyH_done (by kernel_rfl) ?_ _
  skip
  have qR_0 := qR.cell 0
  have qR_1 := qR.cell 1
  simp only [List.getElem?_toArray, List.getElem?_cons_zero, List.getElem?_cons_succ] at qR_0 qR_1
  go_wp2
  refine bodyPost_ret (v := .agg #[.bool (ng R), .slice pr (ln (am R)) (ln (am R))]) (by rw [results_cell rfl]; go_simp) rfl ?_
  exact ⟨pr, rfl, bel, kR⟩
set_option maxHeartbeats 4000000 in
set_option maxRecDepth 100000 in
theorem nearest_odd (s : Bool) (a : Option Addr) (n c X : Nat) (b : Option Addr) (m d Y : Nat) (Z G R : Int) (w : World) (hc : n ≤ c) (hn : n ≤ 1099511627776) (hS : Seg w a X n) (hd : m ≤ d) (hm : m ≤ 1099511627776) (hT : Seg w b Y m) (hF : Fl (sg s X) (Y : Int) Z G) (hv : 2 * G = (Y : Int)) (hb : bitB (am Z) 0 = true) (hR : Z + 1 = R) :
    Calls Tryz.prog 19 #[.agg #[.bool s, .slice a n c, .bool false, .slice b m d]] w fun e w' => ∃ p, e = .returned (.agg #[.bool (ng R), .slice p (ln (am R)) (ln (am R))]) ∧ Below w.heap.size w w' ∧ Seg w' p (am R) (ln (am R)) := by
  have g0 := hF.ge
  have g1 := hF.lt
  have aZ := hF.am (by omega)
  rw [am_sg] at aZ
  have lZ := ln_succ aZ hS.1 (by omega)
  have lG : ln (am G) ≤ m + 1 := ln_succ (X := Y) (k := 0) (by unfold am; omega) hT.1 (by omega)
  obtain ⟨D2, hD2⟩ : ∃ D, G + G = D := ⟨_, rfl⟩
  have lD : ln (am D2) ≤ m + 1 := by
    refine ln_le_of_lt ?_
    have h1 : BB ^ (m + 1) = BB ^ m * 4294967296 := by rw [Nat.pow_succ]; rfl
    have h2 := hT.1
    have h3 : am D2 ≤ 2 * Y := by unfold am; omega
    generalize BB ^ m = P at *
    omega
  have lR : ln (am R) ≤ n + 1 := ln_succ (X := X) (k := 2) (by unfold am at aZ ⊢; omega) hS.1 (by omega)
  have G1 := hide' (fun w' k1 k2 => wfloor_pos s a n c X b m d Y Z G w' hc (by omega) k1 hd (by omega) k2 hF)
  have G2 := hide' (fun w' p k => wAdd_is (ng G) p (ln (am G)) (ln (am G)) (am G) (ng G) p (ln (am G)) (ln (am G)) (am G) D2 w' (Nat.le_refl _) (by omega) k (Nat.le_refl _) (by omega) k (by rw [sg_na]; exact hD2))
  have hC : sgn (sg (ng D2) (am D2) - sg false Y) = 0 := by
    rw [sg_na, show sg false Y = (Y : Int) from rfl]
    rw [show D2 - (Y : Int) = 0 by omega]; rfl
  have G3' := fun w' p k1 k2 => wCmp_is (ng D2) p (ln (am D2)) (ln (am D2)) (am D2) false b m d Y w' (Nat.le_refl _) (by omega) k1 hd (by omega) k2
  rw [hC] at G3'
  have G3 := hide' G3'
  clear G3' hC
  have G4' := fun w' p k => Bit_any p (ln (am Z)) (ln (am Z)) (am Z) 0 w' (by omega) (by omega) (by omega) k
  rw [hb] at G4'
  have G4 := hide' G4'
  clear G4' hb
  obtain ⟨I, hI⟩ : ∃ I : Int, I = 1 := ⟨_, rfl⟩
  have lI : ln (am I) ≤ 1 := by rw [hI, show am 1 = 1 from rfl, ln_one]; omega
  have G5' : ∀ w', Calls Tryz.prog 44 #[.int .i64 1] w' fun e w'' => ∃ p, e = .returned (.agg #[.bool (ng I), .slice p (ln (am I)) (ln (am I))]) ∧ New w' w'' p (am I) (ln (am I)) := fun w' => by subst hI; exact wOf_is 1 w' (by omega) (by omega)
  have G5 := hide' G5'
  clear G5'
  have G6 := hide' (fun w' p q k1 k2 => wAdd_is (ng Z) p (ln (am Z)) (ln (am Z)) (am Z) (ng I) q (ln (am I)) (ln (am I)) (am I) R w' (Nat.le_refl _) (by omega) k1 (Nat.le_refl _) (by omega) k2 (by rw [sg_na, sg_na, hI]; exact hR))
  clear hI lI hR
  clear hF hv hD2 g0 g1 aZ lZ lG lD lR
  have bel : Below w.heap.size w w := Below.refl _ _
  have bb := below_alloc (w := w) (.cells #[.bool s, .slice a n c, .bool false, .slice b m d] 43)
  replace hS := hS.later bb
  replace hT := hT.later bb
  replace bel := bel.trans (bb.mono bel.size)
  clear bb
  have qP := Blk.new w #[.bool s, .slice a n c, .bool false, .slice b m d] 43
  have bb := below_alloc (w := (w.alloc (.cells #[.bool s, .slice a n c, .bool false, .slice b m d] 43))) (.cells #[.bool false, .slice none 0 0] 25)
  replace hS := hS.later bb
  replace hT := hT.later bb
  replace qP := qP.later bb
  replace bel := bel.trans (bb.mono bel.size)
  clear bb
  have qR := Blk.new (w.alloc (.cells #[.bool s, .slice a n c, .bool false, .slice b m d] 43)) #[.bool false, .slice none 0 0] 25
  simp only [World.size_alloc] at qR
  go_enter Tryz.func19, Tryz.ntmps19
  go_wp2_with fail
  obtain ⟨W0, hW⟩ : ∃ W, ((w.alloc (.cells #[.bool s, .slice a n c, .bool false, .slice b m d] 43)).alloc (.cells #[.bool false, .slice none 0 0] 25)) = W := ⟨_, rfl⟩
  rw [hW] at bel hS hT qP qR ⊢
  clear hW
  refine (G1.out _ hS hT).mono ?_
  rintro e w1 ⟨aq, ar, rfl, nq, nr⟩
  have bb := nq.below
  replace hS := hS.later bb
  replace hT := hT.later bb
  replace qP := qP.later bb
  replace qR := qR.later bb
  replace bel := bel.trans (bb.mono bel.size)
  clear bb
  have kq := nq.seg
  have kr := nr.seg
  clear nq nr
  have lq3qP := qP.lt
  have lq3qR := qR.lt
  have bb := below_alloc (w := w1) (.cells #[.bool (ng Z), .slice aq (ln (am Z)) (ln (am Z))] 25)
  replace hS := hS.later bb
  replace hT := hT.later bb
  replace qP := qP.later bb
  replace qR := qR.later bb
  replace kq := kq.later bb
  replace kr := kr.later bb
  replace bel := bel.trans (bb.mono bel.size)
  clear bb
  have q3 := Blk.new w1 #[.bool (ng Z), .slice aq (ln (am Z)) (ln (am Z))] 25
  have lq4qP := qP.lt
  simp only [World.size_alloc] at lq4qP
  have lq4qR := qR.lt
  simp only [World.size_alloc] at lq4qR
  have lq4q3 := q3.lt
  simp only [World.size_alloc] at lq4q3
  have bb := below_alloc (w := (w1.alloc (.cells #[.bool (ng Z), .slice aq (ln (am Z)) (ln (am Z))] 25))) (.cells #[.bool (ng G), .slice ar (ln (am G)) (ln (am G))] 25)
  replace hS := hS.later bb
  replace hT := hT.later bb
  replace qP := qP.later bb
  replace qR := qR.later bb
  replace kq := kq.later bb
  replace kr := kr.later bb
  replace q3 := q3.later bb
  replace bel := bel.trans (bb.mono bel.size)
  clear bb
  have q4 := Blk.new (w1.alloc (.cells #[.bool (ng Z), .slice aq (ln (am Z)) (ln (am Z))] 25)) #[.bool (ng G), .slice ar (ln (am G)) (ln (am G))] 25
  simp only [World.size_alloc] at q4
  go_wp2_with fail
  obtain ⟨W1, hW⟩ : ∃ W, ((w1.alloc (.cells #[.bool (ng Z), .slice aq (ln (am Z)) (ln (am Z))] 25)).alloc (.cells #[.bool (ng G), .slice ar (ln (am G)) (ln (am G))] 25)) = W := ⟨_, rfl⟩
  rw [hW] at bel hS hT qP qR kq kr q3 q4 ⊢
  clear hW
  have q4_0 := q4.cell 0
  have q4_1 := q4.cell 1
  have qP_2 := qP.cell 2
  have qP_3 := qP.cell 3
  simp only [List.getElem?_toArray, List.getElem?_cons_zero, List.getElem?_cons_succ] at q4_0 q4_1 qP_2 qP_3
  have bD : Below W1.heap.size W1 W1.drew := (Below.refl _ _).drew
  have kq4_0 := below_cell bD q4_0
  have kq4_1 := below_cell bD q4_1
  have kqP_2 := below_cell bD qP_2
  have kqP_3 := below_cell bD qP_3
  replace bel := bel.trans (bD.mono bel.size)
  replace hS := hS.later bD
  replace hT := hT.later bD
  replace qP := qP.later bD
  replace qR := qR.later bD
  replace kq := kq.later bD
  replace kr := kr.later bD
  replace q3 := q3.later bD
  replace q4 := q4.later bD
  refine wp_region_held_drew (S := fun w' => w'.cell? ⟨w1.heap.size + 1, 0, none⟩ = some (.bool (ng G)) ∧ w'.cell? ⟨w1.heap.size + 1, 1, none⟩ = some (.slice ar (ln (am G)) (ln (am G))) ∧ w'.cell? ⟨w.heap.size, 2, none⟩ = some (.bool false) ∧ w'.cell? ⟨w.heap.size, 3, none⟩ = some (.slice b m d)) (by kernel_rfl) ⟨kq4_0, kq4_1, kqP_2, kqP_3⟩ (fun hHeld => ?_)
  clear kq4_0 kq4_1 kqP_2 kqP_3
  generalize W1.drew = wF0 at bD hS hT qP qR kq kr q3 q4 bel hHeld ⊢
  clear bD q4_0 q4_1 qP_2 qP_3
  refine tk 0 (v := ?_) rfl (Or.inl ⟨by rfl, ?_⟩) ?_
  rotate_left
  · intro w9 hSw
    go_simp
    first | done | with_reducible rfl
  simp only [pP, pN, pS, pZ, pC]
  refine tk 1 (v := ?_) rfl (Or.inl ⟨by rfl, ?_⟩) ?_
  rotate_left
  · intro w9 hSw
    go_simp
    first | done | with_reducible rfl
  simp only [pP, pN, pS, pZ, pC]
  refine tk 3 (v := ?_) rfl (Or.inl ⟨by rfl, ?_⟩) ?_
  rotate_left
  · intro w9 hSw
    go_simp
    first | done | with_reducible rfl
  simp only [pP, pN, pS, pZ, pC]
  refine tk 4 (v := ?_) rfl (Or.inl ⟨by rfl, ?_⟩) ?_
  rotate_left
  · intro w9 hSw
    go_simp
    first | done | with_reducible rfl
  simp only [pP, pN, pS, pZ, pC]
  refine wpAnyH_ready (rs := [2]) (by kernel_rfl) (by simp) ?_
  refine cons' rfl (fun KK hKK => ?_)
  go_simp
  refine (G2.out _ _ kr).mono ?_
  rintro e w2 ⟨a2, rfl, n2⟩
  have bC := n2.below
  replace bel := bel.trans (bC.mono bel.size)
  replace hS := hS.later bC
  replace hT := hT.later bC
  replace qP := qP.later bC
  replace qR := qR.later bC
  replace kq := kq.later bC
  replace kr := kr.later bC
  replace q3 := q3.later bC
  replace q4 := q4.later bC
  replace hHeld := (⟨below_cell bC hHeld.1, below_cell bC hHeld.2.1, below_cell bC hHeld.2.2.1, below_cell bC hHeld.2.2.2⟩ : _ ∧ _ ∧ _ ∧ _)
  clear bC
  go_wp2_with fail
  have k2 := n2.seg
  clear n2
  refine hKK.out _ _ hHeld ?_
  clear hHeld
  intro hHeld
  clear hKK KK
  try simp only [pP, pN, pS, pZ, pC]
  refine wpAnyH_ready (rs := [5]) (by kernel_rfl) (by simp) ?_
  refine cons' rfl (fun KK hKK => ?_)
  go_simp
  refine (G3.out _ _ k2 hT).mono ?_
  rintro e w3 ⟨rfl, b5⟩
  have bC := b5
  replace bel := bel.trans (bC.mono bel.size)
  replace hS := hS.later bC
  replace hT := hT.later bC
  replace qP := qP.later bC
  replace qR := qR.later bC
  replace kq := kq.later bC
  replace kr := kr.later bC
  replace q3 := q3.later bC
  replace q4 := q4.later bC
  replace k2 := k2.later bC
  replace hHeld := (⟨below_cell bC hHeld.1, below_cell bC hHeld.2.1, below_cell bC hHeld.2.2.1, below_cell bC hHeld.2.2.2⟩ : _ ∧ _ ∧ _ ∧ _)
  clear bC
  go_wp2_with fail
  clear b5
  refine hKK.out _ _ hHeld ?_
  clear hHeld
  intro hHeld
  clear hKK KK
  try simp only [pP, pN, pS, pZ, pC]
  refine tk 6 (v := ?_) rfl (Or.inl ⟨by rfl, ?_⟩) ?_
  rotate_left
  · intro w9 hSw
    go_simp
    first | done | with_reducible rfl
  simp only [pP, pN, pS, pZ, pC]
  refine wpAnyH_done (by kernel_rfl) ?_ _
  skip
  have q3_0 := q3.cell 0
  have q3_1 := q3.cell 1
  simp only [List.getElem?_toArray, List.getElem?_cons_zero, List.getElem?_cons_succ] at q3_0 q3_1
  go_wp2_with fail
  refine (G4.out _ _ kq).mono ?_
  rintro e w7 ⟨rfl, rfl⟩
  go_wp2_with fail
  clear q3_0 q3_1
  have q3_0 := q3.cell 0
  have q3_1 := q3.cell 1
  simp only [List.getElem?_toArray, List.getElem?_cons_zero, List.getElem?_cons_succ] at q3_0 q3_1
  have bD : Below w3.heap.size w3 w3.drew := (Below.refl _ _).drew
  have kq3_0 := below_cell bD q3_0
  have kq3_1 := below_cell bD q3_1
  replace bel := bel.trans (bD.mono bel.size)
  replace hS := hS.later bD
  replace hT := hT.later bD
  replace qP := qP.later bD
  replace qR := qR.later bD
  replace kq := kq.later bD
  replace kr := kr.later bD
  replace q3 := q3.later bD
  replace q4 := q4.later bD
  replace k2 := k2.later bD
  refine wp_region_held_drew (S := fun w' => w'.cell? ⟨w1.heap.size, 0, none⟩ = some (.bool (ng Z)) ∧ w'.cell? ⟨w1.heap.size, 1, none⟩ = some (.slice aq (ln (am Z)) (ln (am Z)))) (by kernel_rfl) ⟨kq3_0, kq3_1⟩ (fun hHeld => ?_)
  clear kq3_0 kq3_1
  generalize w3.drew = wG0 at bD hS hT qP qR kq kr q3 q4 k2 bel hHeld ⊢
  clear bD q3_0 q3_1
  refine tk 0 (v := ?_) rfl (Or.inl ⟨by rfl, ?_⟩) ?_
  rotate_left
  · intro w9 hSw
    go_simp
    first | done | with_reducible rfl
  simp only [pP, pN, pS, pZ, pC]
  refine wpAnyH_ready (rs := [1]) (by kernel_rfl) (by simp) ?_
  refine cons' rfl (fun KK hKK => ?_)
  go_simp
  refine (G5.out _).mono ?_
  rintro e w4 ⟨pi, rfl, ni⟩
  have bC := ni.below
  replace bel := bel.trans (bC.mono bel.size)
  replace hS := hS.later bC
  replace hT := hT.later bC
  replace qP := qP.later bC
  replace qR := qR.later bC
  replace kq := kq.later bC
  replace kr := kr.later bC
  replace q3 := q3.later bC
  replace q4 := q4.later bC
  replace k2 := k2.later bC
  replace hHeld := (⟨below_cell bC hHeld.1, below_cell bC hHeld.2⟩ : _ ∧ _)
  clear bC
  go_wp2_with fail
  have ki := ni.seg
  clear ni
  refine hKK.out _ _ hHeld ?_
  clear hHeld
  intro hHeld
  clear hKK KK
  try simp only [pP, pN, pS, pZ, pC]
  refine wpAnyH_ready (rs := [2]) (by kernel_rfl) (by simp) ?_
  refine cons' rfl (fun KK hKK => ?_)
  go_simp
  refine (G6.out _ _ _ kq ki).mono ?_
  rintro e w5 ⟨pr, rfl, nR⟩
  have bC := nR.below
  replace bel := bel.trans (bC.mono bel.size)
  replace hS := hS.later bC
  replace hT := hT.later bC
  replace qP := qP.later bC
  replace qR := qR.later bC
  replace kq := kq.later bC
  replace kr := kr.later bC
  replace q3 := q3.later bC
  replace q4 := q4.later bC
  replace k2 := k2.later bC
  replace ki := ki.later bC
  replace hHeld := (⟨below_cell bC hHeld.1, below_cell bC hHeld.2⟩ : _ ∧ _)
  clear bC
  go_wp2_with fail
  have kR := nR.seg
  clear nR
  refine hKK.out _ _ hHeld ?_
  clear hHeld
  intro hHeld
  clear hKK KK
  try simp only [pP, pN, pS, pZ, pC]
  refine wpAnyH_ready (rs := [3]) (by kernel_rfl) (by simp) ?_
  refine cons' rfl (fun KK hKK => ?_)
  have z0 := qR.cell 0
  have z1 := qR.cell 1
  simp only [List.getElem?_toArray, List.getElem?_cons_zero, List.getElem?_cons_succ] at z0 z1
  have fz := fun o => qR.frozen o
  obtain ⟨c9, q9⟩ := qR.set2 (.bool (ng R)) (.slice pr (ln (am R)) (ln (am R)))
  have hno := qR.no (by simp)
  replace hS := hS.ch c9 hno
  replace hT := hT.ch c9 hno
  replace qP := qP.ch c9 (by omega)
  replace kq := kq.ch c9 hno
  replace kr := kr.ch c9 hno
  replace q3 := q3.ch c9 (by omega)
  replace q4 := q4.ch c9 (by omega)
  replace k2 := k2.ch c9 hno
  replace ki := ki.ch c9 hno
  replace kR := kR.ch c9 hno
  replace bel := bel.trans (c9.below (by omega))
  have hH2 := (⟨(World.cell?_of_block (w := w5) (a := ⟨w1.heap.size, 0, none⟩) (c9.other (w1.heap.size) (by omega))).trans hHeld.1, (World.cell?_of_block (w := w5) (a := ⟨w1.heap.size, 1, none⟩) (c9.other (w1.heap.size) (by omega))).trans hHeld.2⟩ : _ ∧ _)
  go_simp
  clear z0 z1 fz hno c9
  replace qR := q9
  refine hKK.out _ _ hH2 ?_
  clear hHeld
  intro hHeld
  clear hKK KK
  try simp only [pP, pN, pS, pZ, pC]
  clear hH2
  generalize ((w5.setCell ⟨w.heap.size + 1, 0, none⟩ (.bool (ng R))).setCell ⟨w.heap.size + 1, 1, none⟩ (.slice pr (ln (am R)) (ln (am R)))) = w6 at bel hS hT qP qR kq kr q3 q4 k2 ki kR hHeld ⊢
  refine wpAnyH_done (by kernel_rfl) ?_ _
  skip
  have qR_0 := qR.cell 0
  have qR_1 := qR.cell 1
  simp only [List.getElem?_toArray, List.getElem?_cons_zero, List.getElem?_cons_succ] at qR_0 qR_1
  go_wp2
  refine bodyPost_ret (v := .agg #[.bool (ng R), .slice pr (ln (am R)) (ln (am R))]) (by rw [results_cell rfl]; go_simp) rfl ?_
  exact ⟨pr, rfl, bel, kR⟩
set_option maxHeartbeats 4000000 in
set_option maxRecDepth 100000 in
theorem nearest_even (s : Bool) (a : Option Addr) (n c X : Nat) (b : Option Addr) (m d Y : Nat) (Z G R : Int) (w : World) (hc : n ≤ c) (hn : n ≤ 1099511627776) (hS : Seg w a X n) (hd : m ≤ d) (hm : m ≤ 1099511627776) (hT : Seg w b Y m) (hF : Fl (sg s X) (Y : Int) Z G) (hv : 2 * G = (Y : Int)) (hb : bitB (am Z) 0 = false) (hR : Z = R) :
    Calls Tryz.prog 19 #[.agg #[.bool s, .slice a n c, .bool false, .slice b m d]] w fun e w' => ∃ p, e = .returned (.agg #[.bool (ng R), .slice p (ln (am R)) (ln (am R))]) ∧ Below w.heap.size w w' ∧ Seg w' p (am R) (ln (am R)) := by
  have g0 := hF.ge
  have g1 := hF.lt
  have aZ := hF.am (by omega)
  rw [am_sg] at aZ
  have lZ := ln_succ aZ hS.1 (by omega)
  have lG : ln (am G) ≤ m + 1 := ln_succ (X := Y) (k := 0) (by unfold am; omega) hT.1 (by omega)
  obtain ⟨D2, hD2⟩ : ∃ D, G + G = D := ⟨_, rfl⟩
  have lD : ln (am D2) ≤ m + 1 := by
    refine ln_le_of_lt ?_
    have h1 : BB ^ (m + 1) = BB ^ m * 4294967296 := by rw [Nat.pow_succ]; rfl
    have h2 := hT.1
    have h3 : am D2 ≤ 2 * Y := by unfold am; omega
    generalize BB ^ m = P at *
    omega
  have lR : ln (am R) ≤ n + 1 := ln_succ (X := X) (k := 2) (by unfold am at aZ ⊢; omega) hS.1 (by omega)
  have G1 := hide' (fun w' k1 k2 => wfloor_pos s a n c X b m d Y Z G w' hc (by omega) k1 hd (by omega) k2 hF)
  have G2 := hide' (fun w' p k => wAdd_is (ng G) p (ln (am G)) (ln (am G)) (am G) (ng G) p (ln (am G)) (ln (am G)) (am G) D2 w' (Nat.le_refl _) (by omega) k (Nat.le_refl _) (by omega) k (by rw [sg_na]; exact hD2))
  have hC : sgn (sg (ng D2) (am D2) - sg false Y) = 0 := by
    rw [sg_na, show sg false Y = (Y : Int) from rfl]
    rw [show D2 - (Y : Int) = 0 by omega]; rfl
  have G3' := fun w' p k1 k2 => wCmp_is (ng D2) p (ln (am D2)) (ln (am D2)) (am D2) false b m d Y w' (Nat.le_refl _) (by omega) k1 hd (by omega) k2
  rw [hC] at G3'
  have G3 := hide' G3'
  clear G3' hC
  have G4' := fun w' p k => Bit_any p (ln (am Z)) (ln (am Z)) (am Z) 0 w' (by omega) (by omega) (by omega) k
  rw [hb] at G4'
  have G4 := hide' G4'
  clear G4' hb
  subst hR
  clear hF hv hD2 g0 g1 aZ lZ lG lD lR
  have bel : Below w.heap.size w w := Below.refl _ _
  have bb := below_alloc (w := w) (.cells #[.bool s, .slice a n c, .bool false, .slice b m d] 43)
  replace hS := hS.later bb
  replace hT := hT.later bb
  replace bel := bel.trans (bb.mono bel.size)
  clear bb
  have qP := Blk.new w #[.bool s, .slice a n c, .bool false, .slice b m d] 43
  have bb := below_alloc (w := (w.alloc (.cells #[.bool s, .slice a n c, .bool false, .slice b m d] 43))) (.cells #[.bool false, .slice none 0 0] 25)
  replace hS := hS.later bb
  replace hT := hT.later bb
  replace qP := qP.later bb
  replace bel := bel.trans (bb.mono bel.size)
  clear bb
  have qR := Blk.new (w.alloc (.cells #[.bool s, .slice a n c, .bool false, .slice b m d] 43)) #[.bool false, .slice none 0 0] 25
  simp only [World.size_alloc] at qR
  go_enter Tryz.func19, Tryz.ntmps19
  go_wp2_with fail
  obtain ⟨W0, hW⟩ : ∃ W, ((w.alloc (.cells #[.bool s, .slice a n c, .bool false, .slice b m d] 43)).alloc (.cells #[.bool false, .slice none 0 0] 25)) = W := ⟨_, rfl⟩
  rw [hW] at bel hS hT qP qR ⊢
  clear hW
  refine (G1.out _ hS hT).mono ?_
  rintro e w1 ⟨aq, ar, rfl, nq, nr⟩
  have bb := nq.below
  replace hS := hS.later bb
  replace hT := hT.later bb
  replace qP := qP.later bb
  replace qR := qR.later bb
  replace bel := bel.trans (bb.mono bel.size)
  clear bb
  have kq := nq.seg
  have kr := nr.seg
  clear nq nr
  have lq3qP := qP.lt
  have lq3qR := qR.lt
  have bb := below_alloc (w := w1) (.cells #[.bool (ng Z), .slice aq (ln (am Z)) (ln (am Z))] 25)
  replace hS := hS.later bb
  replace hT := hT.later bb
  replace qP := qP.later bb
  replace qR := qR.later bb
  replace kq := kq.later bb
  replace kr := kr.later bb
  replace bel := bel.trans (bb.mono bel.size)
  clear bb
  have q3 := Blk.new w1 #[.bool (ng Z), .slice aq (ln (am Z)) (ln (am Z))] 25
  have lq4qP := qP.lt
  simp only [World.size_alloc] at lq4qP
  have lq4qR := qR.lt
  simp only [World.size_alloc] at lq4qR
  have lq4q3 := q3.lt
  simp only [World.size_alloc] at lq4q3
  have bb := below_alloc (w := (w1.alloc (.cells #[.bool (ng Z), .slice aq (ln (am Z)) (ln (am Z))] 25))) (.cells #[.bool (ng G), .slice ar (ln (am G)) (ln (am G))] 25)
  replace hS := hS.later bb
  replace hT := hT.later bb
  replace qP := qP.later bb
  replace qR := qR.later bb
  replace kq := kq.later bb
  replace kr := kr.later bb
  replace q3 := q3.later bb
  replace bel := bel.trans (bb.mono bel.size)
  clear bb
  have q4 := Blk.new (w1.alloc (.cells #[.bool (ng Z), .slice aq (ln (am Z)) (ln (am Z))] 25)) #[.bool (ng G), .slice ar (ln (am G)) (ln (am G))] 25
  simp only [World.size_alloc] at q4
  go_wp2_with fail
  obtain ⟨W1, hW⟩ : ∃ W, ((w1.alloc (.cells #[.bool (ng Z), .slice aq (ln (am Z)) (ln (am Z))] 25)).alloc (.cells #[.bool (ng G), .slice ar (ln (am G)) (ln (am G))] 25)) = W := ⟨_, rfl⟩
  rw [hW] at bel hS hT qP qR kq kr q3 q4 ⊢
  clear hW
  have q4_0 := q4.cell 0
  have q4_1 := q4.cell 1
  have qP_2 := qP.cell 2
  have qP_3 := qP.cell 3
  simp only [List.getElem?_toArray, List.getElem?_cons_zero, List.getElem?_cons_succ] at q4_0 q4_1 qP_2 qP_3
  have bD : Below W1.heap.size W1 W1.drew := (Below.refl _ _).drew
  have kq4_0 := below_cell bD q4_0
  have kq4_1 := below_cell bD q4_1
  have kqP_2 := below_cell bD qP_2
  have kqP_3 := below_cell bD qP_3
  replace bel := bel.trans (bD.mono bel.size)
  replace hS := hS.later bD
  replace hT := hT.later bD
  replace qP := qP.later bD
  replace qR := qR.later bD
  replace kq := kq.later bD
  replace kr := kr.later bD
  replace q3 := q3.later bD
  replace q4 := q4.later bD
  refine wp_region_held_drew (S := fun w' => w'.cell? ⟨w1.heap.size + 1, 0, none⟩ = some (.bool (ng G)) ∧ w'.cell? ⟨w1.heap.size + 1, 1, none⟩ = some (.slice ar (ln (am G)) (ln (am G))) ∧ w'.cell? ⟨w.heap.size, 2, none⟩ = some (.bool false) ∧ w'.cell? ⟨w.heap.size, 3, none⟩ = some (.slice b m d)) (by kernel_rfl) ⟨kq4_0, kq4_1, kqP_2, kqP_3⟩ (fun hHeld => ?_)
  clear kq4_0 kq4_1 kqP_2 kqP_3
  generalize W1.drew = wF0 at bD hS hT qP qR kq kr q3 q4 bel hHeld ⊢
  clear bD q4_0 q4_1 qP_2 qP_3
  refine tk 0 (v := ?_) rfl (Or.inl ⟨by rfl, ?_⟩) ?_
  rotate_left
  · intro w9 hSw
    go_simp
    first | done | with_reducible rfl
  simp only [pP, pN, pS, pZ, pC]
  refine tk 1 (v := ?_) rfl (Or.inl ⟨by rfl, ?_⟩) ?_
  rotate_left
  · intro w9 hSw
    go_simp
    first | done | with_reducible rfl
  simp only [pP, pN, pS, pZ, pC]
  refine tk 3 (v := ?_) rfl (Or.inl ⟨by rfl, ?_⟩) ?_
  rotate_left
  · intro w9 hSw
    go_simp
    first | done | with_reducible rfl
  simp only [pP, pN, pS, pZ, pC]
  refine tk 4 (v := ?_) rfl (Or.inl ⟨by rfl, ?_⟩) ?_
  rotate_left
  · intro w9 hSw
    go_simp
    first | done | with_reducible rfl
  simp only [pP, pN, pS, pZ, pC]
  refine wpAnyH_ready (rs := [2]) (by kernel_rfl) (by simp) ?_
  refine cons' rfl (fun KK hKK => ?_)
  go_simp
  refine (G2.out _ _ kr).mono ?_
  rintro e w2 ⟨a2, rfl, n2⟩
  have bC := n2.below
  replace bel := bel.trans (bC.mono bel.size)
  replace hS := hS.later bC
  replace hT := hT.later bC
  replace qP := qP.later bC
  replace qR := qR.later bC
  replace kq := kq.later bC
  replace kr := kr.later bC
  replace q3 := q3.later bC
  replace q4 := q4.later bC
  replace hHeld := (⟨below_cell bC hHeld.1, below_cell bC hHeld.2.1, below_cell bC hHeld.2.2.1, below_cell bC hHeld.2.2.2⟩ : _ ∧ _ ∧ _ ∧ _)
  clear bC
  go_wp2_with fail
  have k2 := n2.seg
  clear n2
  refine hKK.out _ _ hHeld ?_
  clear hHeld
  intro hHeld
  clear hKK KK
  try simp only [pP, pN, pS, pZ, pC]
  refine wpAnyH_ready (rs := [5]) (by kernel_rfl) (by simp) ?_
  refine cons' rfl (fun KK hKK => ?_)
  go_simp
  refine (G3.out _ _ k2 hT).mono ?_
  rintro e w3 ⟨rfl, b5⟩
  have bC := b5
  replace bel := bel.trans (bC.mono bel.size)
  replace hS := hS.later bC
  replace hT := hT.later bC
  replace qP := qP.later bC
  replace qR := qR.later bC
  replace kq := kq.later bC
  replace kr := kr.later bC
  replace q3 := q3.later bC
  replace q4 := q4.later bC
  replace k2 := k2.later bC
  replace hHeld := (⟨below_cell bC hHeld.1, below_cell bC hHeld.2.1, below_cell bC hHeld.2.2.1, below_cell bC hHeld.2.2.2⟩ : _ ∧ _ ∧ _ ∧ _)
  clear bC
  go_wp2_with fail
  clear b5
  refine hKK.out _ _ hHeld ?_
  clear hHeld
  intro hHeld
  clear hKK KK
  try simp only [pP, pN, pS, pZ, pC]
  refine tk 6 (v := ?_) rfl (Or.inl ⟨by rfl, ?_⟩) ?_
  rotate_left
  · intro w9 hSw
    go_simp
    first | done | with_reducible rfl
  simp only [pP, pN, pS, pZ, pC]
  refine wpAnyH_done (by kernel_rfl) ?_ _
  skip
  have q3_0 := q3.cell 0
  have q3_1 := q3.cell 1
  simp only [List.getElem?_toArray, List.getElem?_cons_zero, List.getElem?_cons_succ] at q3_0 q3_1
  have qR_0 := qR.cell 0
  have qR_1 := qR.cell 1
  simp only [List.getElem?_toArray, List.getElem?_cons_zero, List.getElem?_cons_succ] at qR_0 qR_1
  have fz := fun o => qR.frozen o
  go_wp2_with fail
  refine (G4.out _ _ kq).mono ?_
  rintro e w7 ⟨rfl, rfl⟩
  go_wp2
  obtain ⟨c9, q9⟩ := qR.set2 (.bool (ng Z)) (.slice aq (ln (am Z)) (ln (am Z)))
  have hno := qR.no (by simp)
  replace hS := hS.ch c9 hno
  replace hT := hT.ch c9 hno
  replace qP := qP.ch c9 (by omega)
  replace kq := kq.ch c9 hno
  replace kr := kr.ch c9 hno
  replace q3 := q3.ch c9 (by omega)
  replace q4 := q4.ch c9 (by omega)
  replace k2 := k2.ch c9 hno
  replace bel := bel.trans (c9.below (by omega))
  clear qR_0 qR_1
  clear fz hno
  replace qR := q9
  have qR_0 := qR.cell 0
  have qR_1 := qR.cell 1
  simp only [List.getElem?_toArray, List.getElem?_cons_zero, List.getElem?_cons_succ] at qR_0 qR_1
  refine bodyPost_ret (v := .agg #[.bool (ng Z), .slice aq (ln (am Z)) (ln (am Z))]) (by rw [results_cell rfl]; go_simp) rfl ?_
  exact ⟨aq, rfl, bel, kq⟩
set_option maxHeartbeats 4000000 in
set_option maxRecDepth 100000 in
theorem nearest_lt (s : Bool) (a : Option Addr) (n c X : Nat) (b : Option Addr) (m d Y : Nat) (Z G R : Int) (w : World) (hc : n ≤ c) (hn : n ≤ 1099511627776) (hS : Seg w a X n) (hd : m ≤ d) (hm : m ≤ 1099511627776) (hT : Seg w b Y m) (hF : Fl (sg s X) (Y : Int) Z G) (hv : 2 * G < (Y : Int)) (hR : Z = R) :
    Calls Tryz.prog 19 #[.agg #[.bool s, .slice a n c, .bool false, .slice b m d]] w fun e w' => ∃ p, e = .returned (.agg #[.bool (ng R), .slice p (ln (am R)) (ln (am R))]) ∧ Below w.heap.size w w' ∧ Seg w' p (am R) (ln (am R)) := by
  have g0 := hF.ge
  have g1 := hF.lt
  have aZ := hF.am (by omega)
  rw [am_sg] at aZ
  have lZ := ln_succ aZ hS.1 (by omega)
  have lG : ln (am G) ≤ m + 1 := ln_succ (X := Y) (k := 0) (by unfold am; omega) hT.1 (by omega)
  obtain ⟨D2, hD2⟩ : ∃ D, G + G = D := ⟨_, rfl⟩
  have lD : ln (am D2) ≤ m + 1 := by
    refine ln_le_of_lt ?_
    have h1 : BB ^ (m + 1) = BB ^ m * 4294967296 := by rw [Nat.pow_succ]; rfl
    have h2 := hT.1
    have h3 : am D2 ≤ 2 * Y := by unfold am; omega
    generalize BB ^ m = P at *
    omega
  have lR : ln (am R) ≤ n + 1 := ln_succ (X := X) (k := 2) (by unfold am at aZ ⊢; omega) hS.1 (by omega)
  have G1 := hide' (fun w' k1 k2 => wfloor_pos s a n c X b m d Y Z G w' hc (by omega) k1 hd (by omega) k2 hF)
  have G2 := hide' (fun w' p k => wAdd_is (ng G) p (ln (am G)) (ln (am G)) (am G) (ng G) p (ln (am G)) (ln (am G)) (am G) D2 w' (Nat.le_refl _) (by omega) k (Nat.le_refl _) (by omega) k (by rw [sg_na]; exact hD2))
  have hC : sgn (sg (ng D2) (am D2) - sg false Y) = -1 := by
    rw [sg_na, show sg false Y = (Y : Int) from rfl]
    exact sgn_neg (by omega)
  have G3' := fun w' p k1 k2 => wCmp_is (ng D2) p (ln (am D2)) (ln (am D2)) (am D2) false b m d Y w' (Nat.le_refl _) (by omega) k1 hd (by omega) k2
  rw [hC] at G3'
  have G3 := hide' G3'
  clear G3' hC
  subst hR
  clear hF hv hD2 g0 g1 aZ lZ lG lD lR
  have bel : Below w.heap.size w w := Below.refl _ _
  have bb := below_alloc (w := w) (.cells #[.bool s, .slice a n c, .bool false, .slice b m d] 43)
  replace hS := hS.later bb
  replace hT := hT.later bb
  replace bel := bel.trans (bb.mono bel.size)
  clear bb
  have qP := Blk.new w #[.bool s, .slice a n c, .bool false, .slice b m d] 43
  have bb := below_alloc (w := (w.alloc (.cells #[.bool s, .slice a n c, .bool false, .slice b m d] 43))) (.cells #[.bool false, .slice none 0 0] 25)
  replace hS := hS.later bb
  replace hT := hT.later bb
  replace qP := qP.later bb
  replace bel := bel.trans (bb.mono bel.size)
  clear bb
  have qR := Blk.new (w.alloc (.cells #[.bool s, .slice a n c, .bool false, .slice b m d] 43)) #[.bool false, .slice none 0 0] 25
  simp only [World.size_alloc] at qR
  go_enter Tryz.func19, Tryz.ntmps19
  go_wp2_with fail
  obtain ⟨W0, hW⟩ : ∃ W, ((w.alloc (.cells #[.bool s, .slice a n c, .bool false, .slice b m d] 43)).alloc (.cells #[.bool false, .slice none 0 0] 25)) = W := ⟨_, rfl⟩
  rw [hW] at bel hS hT qP qR ⊢
  clear hW
  refine (G1.out _ hS hT).mono ?_
  rintro e w1 ⟨aq, ar, rfl, nq, nr⟩
  have bb := nq.below
  replace hS := hS.later bb
  replace hT := hT.later bb
  replace qP := qP.later bb
  replace qR := qR.later bb
  replace bel := bel.trans (bb.mono bel.size)
  clear bb
  have kq := nq.seg
  have kr := nr.seg
  clear nq nr
  have lq3qP := qP.lt
  have lq3qR := qR.lt
  have bb := below_alloc (w := w1) (.cells #[.bool (ng Z), .slice aq (ln (am Z)) (ln (am Z))] 25)
  replace hS := hS.later bb
  replace hT := hT.later bb
  replace qP := qP.later bb
  replace qR := qR.later bb
  replace kq := kq.later bb
  replace kr := kr.later bb
  replace bel := bel.trans (bb.mono bel.size)
  clear bb
  have q3 := Blk.new w1 #[.bool (ng Z), .slice aq (ln (am Z)) (ln (am Z))] 25
  have lq4qP := qP.lt
  simp only [World.size_alloc] at lq4qP
  have lq4qR := qR.lt
  simp only [World.size_alloc] at lq4qR
  have lq4q3 := q3.lt
  simp only [World.size_alloc] at lq4q3
  have bb := below_alloc (w := (w1.alloc (.cells #[.bool (ng Z), .slice aq (ln (am Z)) (ln (am Z))] 25))) (.cells #[.bool (ng G), .slice ar (ln (am G)) (ln (am G))] 25)
  replace hS := hS.later bb
  replace hT := hT.later bb
  replace qP := qP.later bb
  replace qR := qR.later bb
  replace kq := kq.later bb
  replace kr := kr.later bb
  replace q3 := q3.later bb
  replace bel := bel.trans (bb.mono bel.size)
  clear bb
  have q4 := Blk.new (w1.alloc (.cells #[.bool (ng Z), .slice aq (ln (am Z)) (ln (am Z))] 25)) #[.bool (ng G), .slice ar (ln (am G)) (ln (am G))] 25
  simp only [World.size_alloc] at q4
  go_wp2_with fail
  obtain ⟨W1, hW⟩ : ∃ W, ((w1.alloc (.cells #[.bool (ng Z), .slice aq (ln (am Z)) (ln (am Z))] 25)).alloc (.cells #[.bool (ng G), .slice ar (ln (am G)) (ln (am G))] 25)) = W := ⟨_, rfl⟩
  rw [hW] at bel hS hT qP qR kq kr q3 q4 ⊢
  clear hW
  have q4_0 := q4.cell 0
  have q4_1 := q4.cell 1
  have qP_2 := qP.cell 2
  have qP_3 := qP.cell 3
  simp only [List.getElem?_toArray, List.getElem?_cons_zero, List.getElem?_cons_succ] at q4_0 q4_1 qP_2 qP_3
  have bD : Below W1.heap.size W1 W1.drew := (Below.refl _ _).drew
  have kq4_0 := below_cell bD q4_0
  have kq4_1 := below_cell bD q4_1
  have kqP_2 := below_cell bD qP_2
  have kqP_3 := below_cell bD qP_3
  replace bel := bel.trans (bD.mono bel.size)
  replace hS := hS.later bD
  replace hT := hT.later bD
  replace qP := qP.later bD
  replace qR := qR.later bD
  replace kq := kq.later bD
  replace kr := kr.later bD
  replace q3 := q3.later bD
  replace q4 := q4.later bD
  refine wp_region_held_drew (S := fun w' => w'.cell? ⟨w1.heap.size + 1, 0, none⟩ = some (.bool (ng G)) ∧ w'.cell? ⟨w1.heap.size + 1, 1, none⟩ = some (.slice ar (ln (am G)) (ln (am G))) ∧ w'.cell? ⟨w.heap.size, 2, none⟩ = some (.bool false) ∧ w'.cell? ⟨w.heap.size, 3, none⟩ = some (.slice b m d)) (by kernel_rfl) ⟨kq4_0, kq4_1, kqP_2, kqP_3⟩ (fun hHeld => ?_)
  clear kq4_0 kq4_1 kqP_2 kqP_3
  generalize W1.drew = wF0 at bD hS hT qP qR kq kr q3 q4 bel hHeld ⊢
  clear bD q4_0 q4_1 qP_2 qP_3
  refine tk 0 (v := ?_) rfl (Or.inl ⟨by rfl, ?_⟩) ?_
  rotate_left
  · intro w9 hSw
    go_simp
    first | done | with_reducible rfl
  simp only [pP, pN, pS, pZ, pC]
  refine tk 1 (v := ?_) rfl (Or.inl ⟨by rfl, ?_⟩) ?_
  rotate_left
  · intro w9 hSw
    go_simp
    first | done | with_reducible rfl
  simp only [pP, pN, pS, pZ, pC]
  refine tk 3 (v := ?_) rfl (Or.inl ⟨by rfl, ?_⟩) ?_
  rotate_left
  · intro w9 hSw
    go_simp
    first | done | with_reducible rfl
  simp only [pP, pN, pS, pZ, pC]
  refine tk 4 (v := ?_) rfl (Or.inl ⟨by rfl, ?_⟩) ?_
  rotate_left
  · intro w9 hSw
    go_simp
    first | done | with_reducible rfl
  simp only [pP, pN, pS, pZ, pC]
  refine wpAnyH_ready (rs := [2]) (by kernel_rfl) (by simp) ?_
  refine cons' rfl (fun KK hKK => ?_)
  go_simp
  refine (G2.out _ _ kr).mono ?_
  rintro e w2 ⟨a2, rfl, n2⟩
  have bC := n2.below
  replace bel := bel.trans (bC.mono bel.size)
  replace hS := hS.later bC
  replace hT := hT.later bC
  replace qP := qP.later bC
  replace qR := qR.later bC
  replace kq := kq.later bC
  replace kr := kr.later bC
  replace q3 := q3.later bC
  replace q4 := q4.later bC
  replace hHeld := (⟨below_cell bC hHeld.1, below_cell bC hHeld.2.1, below_cell bC hHeld.2.2.1, below_cell bC hHeld.2.2.2⟩ : _ ∧ _ ∧ _ ∧ _)
  clear bC
  go_wp2_with fail
  have k2 := n2.seg
  clear n2
  refine hKK.out _ _ hHeld ?_
  clear hHeld
  intro hHeld
  clear hKK KK
  try simp only [pP, pN, pS, pZ, pC]
  refine wpAnyH_ready (rs := [5]) (by kernel_rfl) (by simp) ?_
  refine cons' rfl (fun KK hKK => ?_)
  go_simp
  refine (G3.out _ _ k2 hT).mono ?_
  rintro e w3 ⟨rfl, b5⟩
  have bC := b5
  replace bel := bel.trans (bC.mono bel.size)
  replace hS := hS.later bC
  replace hT := hT.later bC
  replace qP := qP.later bC
  replace qR := qR.later bC
  replace kq := kq.later bC
  replace kr := kr.later bC
  replace q3 := q3.later bC
  replace q4 := q4.later bC
  replace k2 := k2.later bC
  replace hHeld := (⟨below_cell bC hHeld.1, below_cell bC hHeld.2.1, below_cell bC hHeld.2.2.1, below_cell bC hHeld.2.2.2⟩ : _ ∧ _ ∧ _ ∧ _)
  clear bC
  go_wp2_with fail
  clear b5
  refine hKK.out _ _ hHeld ?_
  clear hHeld
  intro hHeld
  clear hKK KK
  try simp only [pP, pN, pS, pZ, pC]
  refine tk 6 (v := ?_) rfl (Or.inl ⟨by rfl, ?_⟩) ?_
  rotate_left
  · intro w9 hSw
    go_simp
    first | done | with_reducible rfl
  simp only [pP, pN, pS, pZ, pC]
  refine wpAnyH_done (by kernel_rfl) ?_ _
  skip
  have q3_0 := q3.cell 0
  have q3_1 := q3.cell 1
  simp only [List.getElem?_toArray, List.getElem?_cons_zero, List.getElem?_cons_succ] at q3_0 q3_1
  have qR_0 := qR.cell 0
  have qR_1 := qR.cell 1
  simp only [List.getElem?_toArray, List.getElem?_cons_zero, List.getElem?_cons_succ] at qR_0 qR_1
  have fz := fun o => qR.frozen o
  go_wp2
  obtain ⟨c9, q9⟩ := qR.set2 (.bool (ng Z)) (.slice aq (ln (am Z)) (ln (am Z)))
  have hno := qR.no (by simp)
  replace hS := hS.ch c9 hno
  replace hT := hT.ch c9 hno
  replace qP := qP.ch c9 (by omega)
  replace kq := kq.ch c9 hno
  replace kr := kr.ch c9 hno
  replace q3 := q3.ch c9 (by omega)
  replace q4 := q4.ch c9 (by omega)
  replace k2 := k2.ch c9 hno
  replace bel := bel.trans (c9.below (by omega))
  clear qR_0 qR_1
  clear fz hno
  replace qR := q9
  have qR_0 := qR.cell 0
  have qR_1 := qR.cell 1
  simp only [List.getElem?_toArray, List.getElem?_cons_zero, List.getElem?_cons_succ] at qR_0 qR_1
  refine bodyPost_ret (v := .agg #[.bool (ng Z), .slice aq (ln (am Z)) (ln (am Z))]) (by rw [results_cell rfl]; go_simp) rfl ?_
  exact ⟨aq, rfl, bel, kq⟩
theorem rnd_cases {A D Z G : Int} (hD : 0 < D) (h : Fl A D Z G) : (D < 2 * G ∧ rnd A D = Z + 1) ∨ (2 * G = D ∧ bitB (am Z) 0 = true ∧ rnd A D = Z + 1) ∨ (2 * G = D ∧ bitB (am Z) 0 = false ∧ rnd A D = Z) ∨ (2 * G < D ∧ rnd A D = Z) := by
  obtain ⟨e1, e2⟩ := fl_is hD h
  unfold rnd
  rw [e1, e2]
  have hbit : bitB (am Z) 0 = decide (am Z % 2 = 1) := by
    unfold bitB bt
    simp
  rcases Int.lt_trichotomy (2 * G) D with k | k | k
  · exact .inr (.inr (.inr ⟨k, if_neg (by omega)⟩))
  · by_cases hz : Z % 2 = 1
    · exact .inr (.inl ⟨k, by rw [hbit]; exact decide_eq_true (by unfold am; omega), if_pos (.inr ⟨k, hz⟩)⟩)
    · exact .inr (.inr (.inl ⟨k, by rw [hbit]; exact decide_eq_false (by unfold am; omega), if_neg (by omega)⟩))
  · exact .inl ⟨k, if_pos (.inl k)⟩
theorem nearest_is (s : Bool) (a : Option Addr) (n c X : Nat) (b : Option Addr) (m d Y : Nat) (R : Int) (w : World) (hc : n ≤ c) (hn : n ≤ 1099511627776) (hS : Seg w a X n) (hd : m ≤ d) (hm : m ≤ 1099511627776) (hT : Seg w b Y m) (hY : 0 < Y) (hR : rnd (sg s X) (Y : Int) = R) :
    Calls Tryz.prog 19 #[.agg #[.bool s, .slice a n c, .bool false, .slice b m d]] w fun e w' => ∃ p, e = .returned (.agg #[.bool (ng R), .slice p (ln (am R)) (ln (am R))]) ∧ Below w.heap.size w w' ∧ Seg w' p (am R) (ln (am R)) := by
  obtain ⟨Z, G, hF⟩ := fl_ex (sg s X) (D := (Y : Int)) (by omega)
  rcases rnd_cases (by omega) hF with ⟨h1, h2⟩ | ⟨h1, h3, h2⟩ | ⟨h1, h3, h2⟩ | ⟨h1, h2⟩
  · exact nearest_gt s a n c X b m d Y Z G R w hc hn hS hd hm hT hF h1 (h2.symm.trans hR)
  · exact nearest_odd s a n c X b m d Y Z G R w hc hn hS hd hm hT hF h1 h3 (h2.symm.trans hR)
  · exact nearest_even s a n c X b m d Y Z G R w hc hn hS hd hm hT hF h1 h3 (h2.symm.trans hR)
  · exact nearest_lt s a n c X b m d Y Z G R w hc hn hS hd hm hT hF h1 (h2.symm.trans hR)
set_option maxHeartbeats 2000000 in
set_option maxRecDepth 30000 in
theorem pointed_zero (t : ByteArray) (p : Nat) (w : World) (hp : p ≤ 1000) (ht : t.size ≤ 1099511627776) (HR : Noughts) (h0 : p = 0) :
    Calls Tryz.prog 20 #[.string t, .int .i64 0] w fun e w' => e = .returned (.string (ptT p (padT p t))) ∧ Below w.heap.size w w' := by
  obtain ⟨k, hk⟩ : ∃ k, p + 1 - t.size = k := ⟨_, rfl⟩
  have G1 := hide' (HR k (by omega))
  have e1 : max (1 - (t.size : Int)) 0 = (k : Int) := by omega
  have hz := pad_size p t
  have HP := hide' (show nz k ++ t = padT p t by unfold padT; rw [hk])
  have i0 : ((p : Int) == 0) = true := by simp; omega
  have k1 : k ≤ 1001 := by omega
  have k2 : p + 1 ≤ k + t.size := by omega
  have k3 : k + t.size = max (p + 1) t.size := by omega
  replace k3 := hide' k3
  clear HR
  replace h0 := hide' h0
  replace hk := hide' hk
  replace hz := hide' hz
  go_enter Tryz.func20, Tryz.ntmps20
  go_wp2_with fail
  refine (G1.out _).mono ?_
  rintro e w1 ⟨z, rfl, zs, z48, b1⟩
  obtain rfl := nz_of zs z48
  clear zs z48 e1 G1
  have ns := nz_size k
  have x1 : ¬ (9223372036854775807 < k + t.size) := by omega
  have x3 : (nz k).size + t.size ≤ 9223372036854775807 := by omega
  go_wp2
  go_ret
  refine ⟨?_, b1⟩
  rw [HP.out]
  unfold ptT
  rw [if_pos h0.out]
  rfl
set_option maxHeartbeats 2000000 in
set_option maxRecDepth 30000 in
theorem pointed_more (t : ByteArray) (p : Nat) (w : World) (hp : p ≤ 1000) (ht : t.size ≤ 1099511627776) (HR : Noughts) (h0 : 0 < p) :
    Calls Tryz.prog 20 #[.string t, .int .i64 (p : Nat)] w fun e w' => e = .returned (.string (ptT p (padT p t))) ∧ Below w.heap.size w w' := by
  obtain ⟨k, hk⟩ : ∃ k, p + 1 - t.size = k := ⟨_, rfl⟩
  have G1 := hide' (HR k (by omega))
  have e1 : max ((p : Int) + 1 - (t.size : Int)) 0 = (k : Int) := by omega
  have hz := pad_size p t
  have HP := hide' (show nz k ++ t = padT p t by unfold padT; rw [hk])
  have i0 : ((p : Int) == 0) = false := by simp; omega
  have k1 : k ≤ 1001 := by omega
  have k2 : p + 1 ≤ k + t.size := by omega
  have k3 : k + t.size = max (p + 1) t.size := by omega
  replace k3 := hide' k3
  clear HR
  replace hk := hide' hk
  replace hz := hide' hz
  go_enter Tryz.func20, Tryz.ntmps20
  go_wp2_with fail
  refine (G1.out _).mono ?_
  rintro e w1 ⟨z, rfl, zs, z48, b1⟩
  obtain rfl := nz_of zs z48
  clear zs z48 e1 G1
  have ns := nz_size k
  have x1 : ¬ (9223372036854775807 < k + t.size) := by omega
  have x3 : (nz k).size + t.size ≤ 9223372036854775807 := by omega
  obtain ⟨c, hc⟩ : ∃ c : Nat, (k : Int) + t.size - p = (c : Int) := ⟨k + t.size - p, by omega⟩
  have c1 : c ≤ k + t.size := by omega
  have hzs : (nz k ++ t).size = k + t.size := by rw [ByteArray.size_append, ns]
  have hcc := hide' (show (padT p t).size - p = c by rw [hz.out, ← k3.out]; omega)
  go_wp2_with fail
  clear hc
  obtain ⟨y, hy⟩ : ∃ y, nz k ++ t = y := ⟨_, rfl⟩
  rw [hy] at hzs ⊢
  have y1 : (c : Int) ≤ (y.size : Int) := by omega
  have y2 : c ≤ y.size := by omega
  have y3 : ¬ (9223372036854775807 < min c y.size + 1) := by omega
  have y4 : ¬ (9223372036854775807 < min c y.size + 1 + (y.size - c)) := by omega
  go_quiet (fail)
  go_wp2_with fail
  go_wp2
  go_ret
  refine ⟨?_, below_drewN b1⟩
  have h1 := hcc.out
  rw [← HP.out, hy] at h1 ⊢
  unfold ptT
  rw [if_neg (by omega), h1, hzs]
  rfl
theorem pointed_is (t : ByteArray) (p : Nat) (w : World) (hp : p ≤ 1000) (ht : t.size ≤ 1099511627776) (HR : Noughts) :
    Calls Tryz.prog 20 #[.string t, .int .i64 (p : Nat)] w fun e w' => e = .returned (.string (ptT p (padT p t))) ∧ Below w.heap.size w w' := by
  by_cases h : p = 0
  · subst h; exact pointed_zero t 0 w hp ht HR rfl
  · exact pointed_more t p w hp ht HR (by omega)
theorem Blk.lo2 {c : Nat} {W : World} {u0 u1 u2 u3 : Value} {t : TypeId} (h : Blk W c #[u0, u1, u2, u3] t) (v0 v1 : Value) :
    Ch c W ((W.setCell ⟨c, 0, none⟩ v0).setCell ⟨c, 1, none⟩ v1) ∧ Blk ((W.setCell ⟨c, 0, none⟩ v0).setCell ⟨c, 1, none⟩ v1) c #[v0, v1, u2, u3] t := by
  refine ⟨(Ch.set v0).trans (Ch.set v1), ?_⟩
  simp [Blk, World.setCell, Array.getElem?_modify, show W.heap[c]? = _ from h]
theorem ten_lnP {p : Nat} (hp : p ≤ 1000) : ln (10 ^ p) ≤ 126 := by
  have := ten_ln p
  omega
set_option maxHeartbeats 4000000 in
set_option maxRecDepth 100000 in
theorem dec_true (s : Bool) (a : Option Addr) (n c X : Nat) (b : Option Addr) (m d Y : Nat) (p : Nat) (M Q : Int) (u : ByteArray) (w : World) (hc : n ≤ c) (hn : n ≤ 1073741824) (hS : Seg w a X n) (hd : m ≤ d) (hm : m ≤ 1073741824) (hT : Seg w b Y m) (hp : p ≤ 1000) (HD : Digs w) (HN : Noughts) (HP : Pow10) (hQ : rn s X Y * ((10 ^ p : Nat) : Int) = Q) (hM : rnd Q ((rd Y : Nat) : Int) = M) (lM : ln (am M) ≤ 1073741824) (hu : isTx 10 (am M) u) (hg : ng M = true) :
    Calls Tryz.prog 5 #[.agg #[.bool s, .slice a n c, .slice b m d], .int .i64 (p : Nat)] w fun e w' => e = .returned (.tuple #[.string (⟨#[45]⟩ ++ ptT p (padT p u)), .int .i64 0]) ∧ Below w.heap.size w w' := by
  have us := hu.size_le (by omega) (ln_lt (am M))
  have lp := ten_lnP hp
  have lQ : ln (am Q) ≤ n + 126 := by
    rw [← hQ, am_mul]
    have h1 := rn_am s X Y
    have h2 : X < BB ^ n := hS.1
    refine Nat.le_trans (ln_prod (n := n) (m := ln (10 ^ p)) (Nat.lt_of_le_of_lt h1 h2) (by rw [am_nat]; exact ln_lt _)) (by omega)
  have G1 := hide' (fun w' k1 k2 => read_is s a n c X b m d Y 1073741824 w' hc hn k1 hd hm k2 (by omega) (by omega))
  have G2 := hide' (HP p (by omega))
  have G3 := hide' (fun w' (s' : Bool) p1 n1 c1 X1 p2 (h1 : n1 ≤ c1) (h2 : n1 ≤ 1073741824) (h3 : sg s' X1 = rn s X Y) k1 k2 => wMul_is s' p1 n1 c1 X1 false p2 (ln (10 ^ p)) (ln (10 ^ p)) (10 ^ p) Q w' h1 (by omega) k1 (Nat.le_refl _) (by omega) k2 (by rw [h3]; exact hQ))
  have G4' := fun w' p1 p2 m2 c2 (h1 : m2 ≤ c2) (h2 : m2 ≤ 1073741824) k1 k2 => nearest_is (ng Q) p1 (ln (am Q)) (ln (am Q)) (am Q) p2 m2 c2 (rd Y) M w' (Nat.le_refl _) (by omega) k1 h1 (by omega) k2 (rd_pos Y) (by rw [sg_na]; exact hM)
  rw [hg] at G4'
  have G4 := hide' G4'
  have G5 := hide' (fun w' p1 (k : Digs w') k1 => digits_is p1 (ln (am M)) (ln (am M)) (am M) u w' k (Nat.le_refl _) lM k1 hu)
  have G6 := hide' (fun w' => pointed_is u p w' hp (by omega) HN)
  obtain ⟨v, hv⟩ : ∃ v, ptT p (padT p u) = v := ⟨_, rfl⟩
  have vs : v.size ≤ 4398046511104 := by rw [← hv, pt_size (by rw [pad_size]; omega)]; have := pad_size p u; split <;> omega
  rw [hv] at G6 ⊢
  replace HD := hide' HD
  have x1 : ¬ (9223372036854775807 < 1 + v.size) := by omega
  have i1 : ¬ ((p : Int) < 0) := by omega
  have i2 : ¬ ((1000 : Int) < (p : Int)) := by omega
  clear G4' HN HP hQ hM lM hu hg us lp lQ hv vs
  have bel : Below w.heap.size w w := Below.refl _ _
  have bb := below_alloc (w := w) (.cells #[.bool s, .slice a n c, .slice b m d] 27)
  replace hS := hS.later bb
  replace hT := hT.later bb
  replace bel := bel.trans (bb.mono bel.size)
  clear bb
  have qP := Blk.new w #[.bool s, .slice a n c, .slice b m d] 27
  go_enter Tryz.func5, Tryz.ntmps5
  go_wp2_with fail
  obtain ⟨W0, hW⟩ : ∃ W, (w.alloc (.cells #[.bool s, .slice a n c, .slice b m d] 27)) = W := ⟨_, rfl⟩
  rw [hW] at bel hS hT qP ⊢
  clear hW
  refine (G1.out _ hS hT).mono ?_
  rintro e w1 ⟨s', p1, n1, c1, X1, p2, m2, c2, rfl, h1, h2, h3, h4, k1, k2, h5, b1⟩
  have bb := b1
  replace hS := hS.later bb
  replace hT := hT.later bb
  replace qP := qP.later bb
  replace bel := bel.trans (bb.mono bel.size)
  clear bb
  clear b1
  clear hS hT
  have lq6qP := qP.lt
  have bb := below_alloc (w := w1) (.cells #[(.bool s'), .slice p1 n1 c1, .bool false, .slice p2 m2 c2] 43)
  replace qP := qP.later bb
  replace k1 := k1.later bb
  replace k2 := k2.later bb
  replace bel := bel.trans (bb.mono bel.size)
  clear bb
  have q6 := Blk.new w1 #[(.bool s'), .slice p1 n1 c1, .bool false, .slice p2 m2 c2] 43
  go_wp2_with fail
  obtain ⟨W1, hW⟩ : ∃ W, (w1.alloc (.cells #[(.bool s'), .slice p1 n1 c1, .bool false, .slice p2 m2 c2] 43)) = W := ⟨_, rfl⟩
  rw [hW] at bel qP k1 k2 q6 ⊢
  clear hW
  have bD : Below W1.heap.size W1 W1.drew := (Below.refl _ _).drew
  replace bel := bel.trans (bD.mono bel.size)
  replace qP := qP.later bD
  replace k1 := k1.later bD
  replace k2 := k2.later bD
  replace q6 := q6.later bD
  refine wp_region_held_drew (S := fun w' => True) (by kernel_rfl) trivial (fun hHeld => ?_)
  generalize W1.drew = wF0 at bD qP k1 k2 q6 bel hHeld ⊢
  clear bD
  refine tk 0 (v := ?_) rfl (Or.inl ⟨by rfl, ?_⟩) ?_
  rotate_left
  · intro w9 hSw
    go_simp
    first | done | with_reducible rfl
  simp only [pP, pN, pS, pZ, pC]
  refine tk 2 (v := ?_) rfl (Or.inl ⟨by rfl, ?_⟩) ?_
  rotate_left
  · intro w9 hSw
    go_simp
    first | done | with_reducible rfl
  simp only [pP, pN, pS, pZ, pC]
  refine wpAnyH_ready (rs := [1, 3]) (by kernel_rfl) (by simp) ?_
  refine consT rfl (fun KK hKK => ?_) ?_
  · skip
    have z0 := q6.cell 0
    have z1 := q6.cell 1
    simp only [List.getElem?_toArray, List.getElem?_cons_zero, List.getElem?_cons_succ] at z0 z1
    go_simp
    clear z0 z1
    refine hKK.out _ _ hHeld ?_
    clear hHeld
    intro hHeld
    clear hKK KK
    try simp only [pP, pN, pS, pZ, pC]
    refine wpAnyH_ready (rs := [3]) (by kernel_rfl) (by simp) ?_
    refine cons' rfl (fun KK hKK => ?_)
    go_simp
    refine (G2.out _ (HD.out.below bel)).mono ?_
    rintro e w2 ⟨pp, rfl, np⟩
    have bC := np.below
    replace bel := bel.trans (bC.mono bel.size)
    replace qP := qP.later bC
    replace k1 := k1.later bC
    replace k2 := k2.later bC
    replace q6 := q6.later bC
    clear bC
    go_wp2_with fail
    have kp := np.seg
    clear np
    refine hKK.out _ _ hHeld ?_
    clear hHeld
    intro hHeld
    clear hKK KK
    try simp only [pP, pN, pS, pZ, pC]
    refine tk 4 (v := ?_) rfl (Or.inl ⟨by rfl, ?_⟩) ?_
    rotate_left
    · intro w9 hSw
      go_simp
      first | done | with_reducible rfl
    simp only [pP, pN, pS, pZ, pC]
    refine wpAnyH_ready (rs := [5]) (by kernel_rfl) (by simp) ?_
    refine cons' rfl (fun KK hKK => ?_)
    go_simp
    refine (G3.out _ s' p1 n1 c1 X1 pp h1 h2 h5 k1 kp).mono ?_
    rintro e w3 ⟨pq, rfl, nq⟩
    have bC := nq.below
    replace bel := bel.trans (bC.mono bel.size)
    replace qP := qP.later bC
    replace k1 := k1.later bC
    replace k2 := k2.later bC
    replace q6 := q6.later bC
    replace kp := kp.later bC
    clear bC
    go_wp2_with fail
    have kq := nq.seg
    clear nq
    refine hKK.out _ _ hHeld ?_
    clear hHeld
    intro hHeld
    clear hKK KK
    try simp only [pP, pN, pS, pZ, pC]
    refine tk 6 (v := ?_) rfl (Or.inl ⟨by rfl, ?_⟩) ?_
    rotate_left
    · intro w9 hSw
      go_simp
      first | done | with_reducible rfl
    simp only [pP, pN, pS, pZ, pC]
    refine wpAnyH_ready (rs := [7]) (by kernel_rfl) (by simp) ?_
    refine cons' rfl (fun KK hKK => ?_)
    have z0 := q6.cell 0
    have z1 := q6.cell 1
    simp only [List.getElem?_toArray, List.getElem?_cons_zero, List.getElem?_cons_succ] at z0 z1
    have fz := fun o => q6.frozen o
    obtain ⟨c9, q9⟩ := q6.lo2 (.bool (ng Q)) (.slice pq (ln (am Q)) (ln (am Q)))
    have hno := q6.no (by simp)
    replace qP := qP.ch c9 (by omega)
    replace k1 := k1.ch c9 hno
    replace k2 := k2.ch c9 hno
    replace kp := kp.ch c9 hno
    replace kq := kq.ch c9 hno
    replace bel := bel.trans (c9.below (by omega))
    go_simp
    clear z0 z1 fz hno c9
    replace q6 := q9
    refine hKK.out _ _ trivial ?_
    clear hHeld
    intro hHeld
    clear hKK KK
    try simp only [pP, pN, pS, pZ, pC]
    generalize ((w3.setCell ⟨w1.heap.size, 0, none⟩ (.bool (ng Q))).setCell ⟨w1.heap.size, 1, none⟩ (.slice pq (ln (am Q)) (ln (am Q)))) = w4 at bel qP k1 k2 q6 kp kq hHeld ⊢
    refine wpAnyH_done (by kernel_rfl) ?_ _
    have q6_0 := q6.cell 0
    have q6_1 := q6.cell 1
    have q6_2 := q6.cell 2
    have q6_3 := q6.cell 3
    simp only [List.getElem?_toArray, List.getElem?_cons_zero, List.getElem?_cons_succ] at q6_0 q6_1 q6_2 q6_3
    go_wp2_with fail
    clear q6_0 q6_1 q6_2 q6_3
    refine (G4.out _ pq p2 m2 c2 h3 h4 kq k2).mono ?_
    rintro e w5 ⟨pM, rfl, bM, kM⟩
    have bb := bM
    replace qP := qP.later bb
    replace k1 := k1.later bb
    replace k2 := k2.later bb
    replace q6 := q6.later bb
    replace kp := kp.later bb
    replace kq := kq.later bb
    replace bel := bel.trans (bb.mono bel.size)
    clear bb
    clear bM
    have lq7qP := qP.lt
    have lq7q6 := q6.lt
    have bb := below_alloc (w := w5) (.cells #[.bool true, .slice pM (ln (am M)) (ln (am M))] 25)
    replace qP := qP.later bb
    replace k1 := k1.later bb
    replace k2 := k2.later bb
    replace q6 := q6.later bb
    replace kp := kp.later bb
    replace kq := kq.later bb
    replace kM := kM.later bb
    replace bel := bel.trans (bb.mono bel.size)
    clear bb
    have q7 := Blk.new w5 #[.bool true, .slice pM (ln (am M)) (ln (am M))] 25
    go_wp2_with fail
    refine (G5.out _ pM (HD.out.below bel) kM).mono ?_
    rintro e w6 ⟨rfl, b5⟩
    have bb := b5
    replace qP := qP.later bb
    replace k1 := k1.later bb
    replace k2 := k2.later bb
    replace q6 := q6.later bb
    replace kp := kp.later bb
    replace kq := kq.later bb
    replace kM := kM.later bb
    replace q7 := q7.later bb
    replace bel := bel.trans (bb.mono bel.size)
    clear bb
    clear b5
    go_wp2_with fail
    refine (G6.out _).mono ?_
    rintro e w7 ⟨rfl, b6⟩
    have bb := b6
    replace qP := qP.later bb
    replace k1 := k1.later bb
    replace k2 := k2.later bb
    replace q6 := q6.later bb
    replace kp := kp.later bb
    replace kq := kq.later bb
    replace kM := kM.later bb
    replace q7 := q7.later bb
    replace bel := bel.trans (bb.mono bel.size)
    clear bb
    clear b6
    have q7_0 := q7.cell 0
    have q7_1 := q7.cell 1
    simp only [List.getElem?_toArray, List.getElem?_cons_zero, List.getElem?_cons_succ] at q7_0 q7_1
    go_wp2
    go_ret2
    exact ⟨rfl, bel⟩
  refine consT rfl (fun KK hKK => ?_) ?_
  · skip
    go_simp
    refine (G2.out _ (HD.out.below bel)).mono ?_
    rintro e w32 ⟨pp, rfl, np⟩
    have bC := np.below
    replace bel := bel.trans (bC.mono bel.size)
    replace qP := qP.later bC
    replace k1 := k1.later bC
    replace k2 := k2.later bC
    replace q6 := q6.later bC
    clear bC
    go_wp2_with fail
    have kp := np.seg
    clear np
    refine hKK.out _ _ hHeld ?_
    clear hHeld
    intro hHeld
    clear hKK KK
    try simp only [pP, pN, pS, pZ, pC]
    refine tk 4 (v := ?_) rfl (Or.inl ⟨by rfl, ?_⟩) ?_
    rotate_left
    · intro w9 hSw
      go_simp
      first | done | with_reducible rfl
    simp only [pP, pN, pS, pZ, pC]
    refine wpAnyH_ready (rs := [1]) (by kernel_rfl) (by simp) ?_
    refine cons' rfl (fun KK hKK => ?_)
    have z0 := q6.cell 0
    have z1 := q6.cell 1
    simp only [List.getElem?_toArray, List.getElem?_cons_zero, List.getElem?_cons_succ] at z0 z1
    go_simp
    clear z0 z1
    refine hKK.out _ _ hHeld ?_
    clear hHeld
    intro hHeld
    clear hKK KK
    try simp only [pP, pN, pS, pZ, pC]
    refine wpAnyH_ready (rs := [5]) (by kernel_rfl) (by simp) ?_
    refine cons' rfl (fun KK hKK => ?_)
    go_simp
    refine (G3.out _ s' p1 n1 c1 X1 pp h1 h2 h5 k1 kp).mono ?_
    rintro e w33 ⟨pq, rfl, nq⟩
    have bC := nq.below
    replace bel := bel.trans (bC.mono bel.size)
    replace qP := qP.later bC
    replace k1 := k1.later bC
    replace k2 := k2.later bC
    replace q6 := q6.later bC
    replace kp := kp.later bC
    clear bC
    go_wp2_with fail
    have kq := nq.seg
    clear nq
    refine hKK.out _ _ hHeld ?_
    clear hHeld
    intro hHeld
    clear hKK KK
    try simp only [pP, pN, pS, pZ, pC]
    refine tk 6 (v := ?_) rfl (Or.inl ⟨by rfl, ?_⟩) ?_
    rotate_left
    · intro w9 hSw
      go_simp
      first | done | with_reducible rfl
    simp only [pP, pN, pS, pZ, pC]
    refine wpAnyH_ready (rs := [7]) (by kernel_rfl) (by simp) ?_
    refine cons' rfl (fun KK hKK => ?_)
    have z0 := q6.cell 0
    have z1 := q6.cell 1
    simp only [List.getElem?_toArray, List.getElem?_cons_zero, List.getElem?_cons_succ] at z0 z1
    have fz := fun o => q6.frozen o
    obtain ⟨c9, q9⟩ := q6.lo2 (.bool (ng Q)) (.slice pq (ln (am Q)) (ln (am Q)))
    have hno := q6.no (by simp)
    replace qP := qP.ch c9 (by omega)
    replace k1 := k1.ch c9 hno
    replace k2 := k2.ch c9 hno
    replace kp := kp.ch c9 hno
    replace kq := kq.ch c9 hno
    replace bel := bel.trans (c9.below (by omega))
    go_simp
    clear z0 z1 fz hno c9
    replace q6 := q9
    refine hKK.out _ _ trivial ?_
    clear hHeld
    intro hHeld
    clear hKK KK
    try simp only [pP, pN, pS, pZ, pC]
    generalize ((w33.setCell ⟨w1.heap.size, 0, none⟩ (.bool (ng Q))).setCell ⟨w1.heap.size, 1, none⟩ (.slice pq (ln (am Q)) (ln (am Q)))) = w34 at bel qP k1 k2 q6 kp kq hHeld ⊢
    refine wpAnyH_done (by kernel_rfl) ?_ _
    have q6_0 := q6.cell 0
    have q6_1 := q6.cell 1
    have q6_2 := q6.cell 2
    have q6_3 := q6.cell 3
    simp only [List.getElem?_toArray, List.getElem?_cons_zero, List.getElem?_cons_succ] at q6_0 q6_1 q6_2 q6_3
    go_wp2_with fail
    clear q6_0 q6_1 q6_2 q6_3
    refine (G4.out _ pq p2 m2 c2 h3 h4 kq k2).mono ?_
    rintro e w35 ⟨pM, rfl, bM, kM⟩
    have bb := bM
    replace qP := qP.later bb
    replace k1 := k1.later bb
    replace k2 := k2.later bb
    replace q6 := q6.later bb
    replace kp := kp.later bb
    replace kq := kq.later bb
    replace bel := bel.trans (bb.mono bel.size)
    clear bb
    clear bM
    have lq7qP := qP.lt
    have lq7q6 := q6.lt
    have bb := below_alloc (w := w35) (.cells #[.bool true, .slice pM (ln (am M)) (ln (am M))] 25)
    replace qP := qP.later bb
    replace k1 := k1.later bb
    replace k2 := k2.later bb
    replace q6 := q6.later bb
    replace kp := kp.later bb
    replace kq := kq.later bb
    replace kM := kM.later bb
    replace bel := bel.trans (bb.mono bel.size)
    clear bb
    have q7 := Blk.new w35 #[.bool true, .slice pM (ln (am M)) (ln (am M))] 25
    go_wp2_with fail
    refine (G5.out _ pM (HD.out.below bel) kM).mono ?_
    rintro e w36 ⟨rfl, b5⟩
    have bb := b5
    replace qP := qP.later bb
    replace k1 := k1.later bb
    replace k2 := k2.later bb
    replace q6 := q6.later bb
    replace kp := kp.later bb
    replace kq := kq.later bb
    replace kM := kM.later bb
    replace q7 := q7.later bb
    replace bel := bel.trans (bb.mono bel.size)
    clear bb
    clear b5
    go_wp2_with fail
    refine (G6.out _).mono ?_
    rintro e w37 ⟨rfl, b6⟩
    have bb := b6
    replace qP := qP.later bb
    replace k1 := k1.later bb
    replace k2 := k2.later bb
    replace q6 := q6.later bb
    replace kp := kp.later bb
    replace kq := kq.later bb
    replace kM := kM.later bb
    replace q7 := q7.later bb
    replace bel := bel.trans (bb.mono bel.size)
    clear bb
    clear b6
    have q7_0 := q7.cell 0
    have q7_1 := q7.cell 1
    simp only [List.getElem?_toArray, List.getElem?_cons_zero, List.getElem?_cons_succ] at q7_0 q7_1
    go_wp2
    go_ret2
    exact ⟨rfl, bel⟩
  exact AllReadyH.nil
set_option maxHeartbeats 4000000 in
set_option maxRecDepth 100000 in
theorem dec_false (s : Bool) (a : Option Addr) (n c X : Nat) (b : Option Addr) (m d Y : Nat) (p : Nat) (M Q : Int) (u : ByteArray) (w : World) (hc : n ≤ c) (hn : n ≤ 1073741824) (hS : Seg w a X n) (hd : m ≤ d) (hm : m ≤ 1073741824) (hT : Seg w b Y m) (hp : p ≤ 1000) (HD : Digs w) (HN : Noughts) (HP : Pow10) (hQ : rn s X Y * ((10 ^ p : Nat) : Int) = Q) (hM : rnd Q ((rd Y : Nat) : Int) = M) (lM : ln (am M) ≤ 1073741824) (hu : isTx 10 (am M) u) (hg : ng M = false) :
    Calls Tryz.prog 5 #[.agg #[.bool s, .slice a n c, .slice b m d], .int .i64 (p : Nat)] w fun e w' => e = .returned (.tuple #[.string (ptT p (padT p u)), .int .i64 0]) ∧ Below w.heap.size w w' := by
  have us := hu.size_le (by omega) (ln_lt (am M))
  have lp := ten_lnP hp
  have lQ : ln (am Q) ≤ n + 126 := by
    rw [← hQ, am_mul]
    have h1 := rn_am s X Y
    have h2 : X < BB ^ n := hS.1
    refine Nat.le_trans (ln_prod (n := n) (m := ln (10 ^ p)) (Nat.lt_of_le_of_lt h1 h2) (by rw [am_nat]; exact ln_lt _)) (by omega)
  have G1 := hide' (fun w' k1 k2 => read_is s a n c X b m d Y 1073741824 w' hc hn k1 hd hm k2 (by omega) (by omega))
  have G2 := hide' (HP p (by omega))
  have G3 := hide' (fun w' (s' : Bool) p1 n1 c1 X1 p2 (h1 : n1 ≤ c1) (h2 : n1 ≤ 1073741824) (h3 : sg s' X1 = rn s X Y) k1 k2 => wMul_is s' p1 n1 c1 X1 false p2 (ln (10 ^ p)) (ln (10 ^ p)) (10 ^ p) Q w' h1 (by omega) k1 (Nat.le_refl _) (by omega) k2 (by rw [h3]; exact hQ))
  have G4' := fun w' p1 p2 m2 c2 (h1 : m2 ≤ c2) (h2 : m2 ≤ 1073741824) k1 k2 => nearest_is (ng Q) p1 (ln (am Q)) (ln (am Q)) (am Q) p2 m2 c2 (rd Y) M w' (Nat.le_refl _) (by omega) k1 h1 (by omega) k2 (rd_pos Y) (by rw [sg_na]; exact hM)
  rw [hg] at G4'
  have G4 := hide' G4'
  have G5 := hide' (fun w' p1 (k : Digs w') k1 => digits_is p1 (ln (am M)) (ln (am M)) (am M) u w' k (Nat.le_refl _) lM k1 hu)
  have G6 := hide' (fun w' => pointed_is u p w' hp (by omega) HN)
  obtain ⟨v, hv⟩ : ∃ v, ptT p (padT p u) = v := ⟨_, rfl⟩
  have vs : v.size ≤ 4398046511104 := by rw [← hv, pt_size (by rw [pad_size]; omega)]; have := pad_size p u; split <;> omega
  rw [hv] at G6 ⊢
  replace HD := hide' HD
  have x1 : ¬ (9223372036854775807 < 1 + v.size) := by omega
  have i1 : ¬ ((p : Int) < 0) := by omega
  have i2 : ¬ ((1000 : Int) < (p : Int)) := by omega
  clear G4' HN HP hQ hM lM hu hg us lp lQ hv vs
  have bel : Below w.heap.size w w := Below.refl _ _
  have bb := below_alloc (w := w) (.cells #[.bool s, .slice a n c, .slice b m d] 27)
  replace hS := hS.later bb
  replace hT := hT.later bb
  replace bel := bel.trans (bb.mono bel.size)
  clear bb
  have qP := Blk.new w #[.bool s, .slice a n c, .slice b m d] 27
  go_enter Tryz.func5, Tryz.ntmps5
  go_wp2_with fail
  obtain ⟨W0, hW⟩ : ∃ W, (w.alloc (.cells #[.bool s, .slice a n c, .slice b m d] 27)) = W := ⟨_, rfl⟩
  rw [hW] at bel hS hT qP ⊢
  clear hW
  refine (G1.out _ hS hT).mono ?_
  rintro e w1 ⟨s', p1, n1, c1, X1, p2, m2, c2, rfl, h1, h2, h3, h4, k1, k2, h5, b1⟩
  have bb := b1
  replace hS := hS.later bb
  replace hT := hT.later bb
  replace qP := qP.later bb
  replace bel := bel.trans (bb.mono bel.size)
  clear bb
  clear b1
  clear hS hT
  have lq6qP := qP.lt
  have bb := below_alloc (w := w1) (.cells #[(.bool s'), .slice p1 n1 c1, .bool false, .slice p2 m2 c2] 43)
  replace qP := qP.later bb
  replace k1 := k1.later bb
  replace k2 := k2.later bb
  replace bel := bel.trans (bb.mono bel.size)
  clear bb
  have q6 := Blk.new w1 #[(.bool s'), .slice p1 n1 c1, .bool false, .slice p2 m2 c2] 43
  go_wp2_with fail
  obtain ⟨W1, hW⟩ : ∃ W, (w1.alloc (.cells #[(.bool s'), .slice p1 n1 c1, .bool false, .slice p2 m2 c2] 43)) = W := ⟨_, rfl⟩
  rw [hW] at bel qP k1 k2 q6 ⊢
  clear hW
  have bD : Below W1.heap.size W1 W1.drew := (Below.refl _ _).drew
  replace bel := bel.trans (bD.mono bel.size)
  replace qP := qP.later bD
  replace k1 := k1.later bD
  replace k2 := k2.later bD
  replace q6 := q6.later bD
  refine wp_region_held_drew (S := fun w' => True) (by kernel_rfl) trivial (fun hHeld => ?_)
  generalize W1.drew = wF0 at bD qP k1 k2 q6 bel hHeld ⊢
  clear bD
  refine tk 0 (v := ?_) rfl (Or.inl ⟨by rfl, ?_⟩) ?_
  rotate_left
  · intro w9 hSw
    go_simp
    first | done | with_reducible rfl
  simp only [pP, pN, pS, pZ, pC]
  refine tk 2 (v := ?_) rfl (Or.inl ⟨by rfl, ?_⟩) ?_
  rotate_left
  · intro w9 hSw
    go_simp
    first | done | with_reducible rfl
  simp only [pP, pN, pS, pZ, pC]
  refine wpAnyH_ready (rs := [1, 3]) (by kernel_rfl) (by simp) ?_
  refine consT rfl (fun KK hKK => ?_) ?_
  · skip
    have z0 := q6.cell 0
    have z1 := q6.cell 1
    simp only [List.getElem?_toArray, List.getElem?_cons_zero, List.getElem?_cons_succ] at z0 z1
    go_simp
    clear z0 z1
    refine hKK.out _ _ hHeld ?_
    clear hHeld
    intro hHeld
    clear hKK KK
    try simp only [pP, pN, pS, pZ, pC]
    refine wpAnyH_ready (rs := [3]) (by kernel_rfl) (by simp) ?_
    refine cons' rfl (fun KK hKK => ?_)
    go_simp
    refine (G2.out _ (HD.out.below bel)).mono ?_
    rintro e w2 ⟨pp, rfl, np⟩
    have bC := np.below
    replace bel := bel.trans (bC.mono bel.size)
    replace qP := qP.later bC
    replace k1 := k1.later bC
    replace k2 := k2.later bC
    replace q6 := q6.later bC
    clear bC
    go_wp2_with fail
    have kp := np.seg
    clear np
    refine hKK.out _ _ hHeld ?_
    clear hHeld
    intro hHeld
    clear hKK KK
    try simp only [pP, pN, pS, pZ, pC]
    refine tk 4 (v := ?_) rfl (Or.inl ⟨by rfl, ?_⟩) ?_
    rotate_left
    · intro w9 hSw
      go_simp
      first | done | with_reducible rfl
    simp only [pP, pN, pS, pZ, pC]
    refine wpAnyH_ready (rs := [5]) (by kernel_rfl) (by simp) ?_
    refine cons' rfl (fun KK hKK => ?_)
    go_simp
    refine (G3.out _ s' p1 n1 c1 X1 pp h1 h2 h5 k1 kp).mono ?_
    rintro e w3 ⟨pq, rfl, nq⟩
    have bC := nq.below
    replace bel := bel.trans (bC.mono bel.size)
    replace qP := qP.later bC
    replace k1 := k1.later bC
    replace k2 := k2.later bC
    replace q6 := q6.later bC
    replace kp := kp.later bC
    clear bC
    go_wp2_with fail
    have kq := nq.seg
    clear nq
    refine hKK.out _ _ hHeld ?_
    clear hHeld
    intro hHeld
    clear hKK KK
    try simp only [pP, pN, pS, pZ, pC]
    refine tk 6 (v := ?_) rfl (Or.inl ⟨by rfl, ?_⟩) ?_
    rotate_left
    · intro w9 hSw
      go_simp
      first | done | with_reducible rfl
    simp only [pP, pN, pS, pZ, pC]
    refine wpAnyH_ready (rs := [7]) (by kernel_rfl) (by simp) ?_
    refine cons' rfl (fun KK hKK => ?_)
    have z0 := q6.cell 0
    have z1 := q6.cell 1
    simp only [List.getElem?_toArray, List.getElem?_cons_zero, List.getElem?_cons_succ] at z0 z1
    have fz := fun o => q6.frozen o
    obtain ⟨c9, q9⟩ := q6.lo2 (.bool (ng Q)) (.slice pq (ln (am Q)) (ln (am Q)))
    have hno := q6.no (by simp)
    replace qP := qP.ch c9 (by omega)
    replace k1 := k1.ch c9 hno
    replace k2 := k2.ch c9 hno
    replace kp := kp.ch c9 hno
    replace kq := kq.ch c9 hno
    replace bel := bel.trans (c9.below (by omega))
    go_simp
    clear z0 z1 fz hno c9
    replace q6 := q9
    refine hKK.out _ _ trivial ?_
    clear hHeld
    intro hHeld
    clear hKK KK
    try simp only [pP, pN, pS, pZ, pC]
    generalize ((w3.setCell ⟨w1.heap.size, 0, none⟩ (.bool (ng Q))).setCell ⟨w1.heap.size, 1, none⟩ (.slice pq (ln (am Q)) (ln (am Q)))) = w4 at bel qP k1 k2 q6 kp kq hHeld ⊢
    refine wpAnyH_done (by kernel_rfl) ?_ _
    have q6_0 := q6.cell 0
    have q6_1 := q6.cell 1
    have q6_2 := q6.cell 2
    have q6_3 := q6.cell 3
    simp only [List.getElem?_toArray, List.getElem?_cons_zero, List.getElem?_cons_succ] at q6_0 q6_1 q6_2 q6_3
    go_wp2_with fail
    clear q6_0 q6_1 q6_2 q6_3
    refine (G4.out _ pq p2 m2 c2 h3 h4 kq k2).mono ?_
    rintro e w5 ⟨pM, rfl, bM, kM⟩
    have bb := bM
    replace qP := qP.later bb
    replace k1 := k1.later bb
    replace k2 := k2.later bb
    replace q6 := q6.later bb
    replace kp := kp.later bb
    replace kq := kq.later bb
    replace bel := bel.trans (bb.mono bel.size)
    clear bb
    clear bM
    have lq7qP := qP.lt
    have lq7q6 := q6.lt
    have bb := below_alloc (w := w5) (.cells #[.bool false, .slice pM (ln (am M)) (ln (am M))] 25)
    replace qP := qP.later bb
    replace k1 := k1.later bb
    replace k2 := k2.later bb
    replace q6 := q6.later bb
    replace kp := kp.later bb
    replace kq := kq.later bb
    replace kM := kM.later bb
    replace bel := bel.trans (bb.mono bel.size)
    clear bb
    have q7 := Blk.new w5 #[.bool false, .slice pM (ln (am M)) (ln (am M))] 25
    go_wp2_with fail
    refine (G5.out _ pM (HD.out.below bel) kM).mono ?_
    rintro e w6 ⟨rfl, b5⟩
    have bb := b5
    replace qP := qP.later bb
    replace k1 := k1.later bb
    replace k2 := k2.later bb
    replace q6 := q6.later bb
    replace kp := kp.later bb
    replace kq := kq.later bb
    replace kM := kM.later bb
    replace q7 := q7.later bb
    replace bel := bel.trans (bb.mono bel.size)
    clear bb
    clear b5
    go_wp2_with fail
    refine (G6.out _).mono ?_
    rintro e w7 ⟨rfl, b6⟩
    have bb := b6
    replace qP := qP.later bb
    replace k1 := k1.later bb
    replace k2 := k2.later bb
    replace q6 := q6.later bb
    replace kp := kp.later bb
    replace kq := kq.later bb
    replace kM := kM.later bb
    replace q7 := q7.later bb
    replace bel := bel.trans (bb.mono bel.size)
    clear bb
    clear b6
    have q7_0 := q7.cell 0
    have q7_1 := q7.cell 1
    simp only [List.getElem?_toArray, List.getElem?_cons_zero, List.getElem?_cons_succ] at q7_0 q7_1
    go_wp2
    go_ret2
    exact ⟨rfl, bel⟩
  refine consT rfl (fun KK hKK => ?_) ?_
  · skip
    go_simp
    refine (G2.out _ (HD.out.below bel)).mono ?_
    rintro e w32 ⟨pp, rfl, np⟩
    have bC := np.below
    replace bel := bel.trans (bC.mono bel.size)
    replace qP := qP.later bC
    replace k1 := k1.later bC
    replace k2 := k2.later bC
    replace q6 := q6.later bC
    clear bC
    go_wp2_with fail
    have kp := np.seg
    clear np
    refine hKK.out _ _ hHeld ?_
    clear hHeld
    intro hHeld
    clear hKK KK
    try simp only [pP, pN, pS, pZ, pC]
    refine tk 4 (v := ?_) rfl (Or.inl ⟨by rfl, ?_⟩) ?_
    rotate_left
    · intro w9 hSw
      go_simp
      first | done | with_reducible rfl
    simp only [pP, pN, pS, pZ, pC]
    refine wpAnyH_ready (rs := [1]) (by kernel_rfl) (by simp) ?_
    refine cons' rfl (fun KK hKK => ?_)
    have z0 := q6.cell 0
    have z1 := q6.cell 1
    simp only [List.getElem?_toArray, List.getElem?_cons_zero, List.getElem?_cons_succ] at z0 z1
    go_simp
    clear z0 z1
    refine hKK.out _ _ hHeld ?_
    clear hHeld
    intro hHeld
    clear hKK KK
    try simp only [pP, pN, pS, pZ, pC]
    refine wpAnyH_ready (rs := [5]) (by kernel_rfl) (by simp) ?_
    refine cons' rfl (fun KK hKK => ?_)
    go_simp
    refine (G3.out _ s' p1 n1 c1 X1 pp h1 h2 h5 k1 kp).mono ?_
    rintro e w33 ⟨pq, rfl, nq⟩
    have bC := nq.below
    replace bel := bel.trans (bC.mono bel.size)
    replace qP := qP.later bC
    replace k1 := k1.later bC
    replace k2 := k2.later bC
    replace q6 := q6.later bC
    replace kp := kp.later bC
    clear bC
    go_wp2_with fail
    have kq := nq.seg
    clear nq
    refine hKK.out _ _ hHeld ?_
    clear hHeld
    intro hHeld
    clear hKK KK
    try simp only [pP, pN, pS, pZ, pC]
    refine tk 6 (v := ?_) rfl (Or.inl ⟨by rfl, ?_⟩) ?_
    rotate_left
    · intro w9 hSw
      go_simp
      first | done | with_reducible rfl
    simp only [pP, pN, pS, pZ, pC]
    refine wpAnyH_ready (rs := [7]) (by kernel_rfl) (by simp) ?_
    refine cons' rfl (fun KK hKK => ?_)
    have z0 := q6.cell 0
    have z1 := q6.cell 1
    simp only [List.getElem?_toArray, List.getElem?_cons_zero, List.getElem?_cons_succ] at z0 z1
    have fz := fun o => q6.frozen o
    obtain ⟨c9, q9⟩ := q6.lo2 (.bool (ng Q)) (.slice pq (ln (am Q)) (ln (am Q)))
    have hno := q6.no (by simp)
    replace qP := qP.ch c9 (by omega)
    replace k1 := k1.ch c9 hno
    replace k2 := k2.ch c9 hno
    replace kp := kp.ch c9 hno
    replace kq := kq.ch c9 hno
    replace bel := bel.trans (c9.below (by omega))
    go_simp
    clear z0 z1 fz hno c9
    replace q6 := q9
    refine hKK.out _ _ trivial ?_
    clear hHeld
    intro hHeld
    clear hKK KK
    try simp only [pP, pN, pS, pZ, pC]
    generalize ((w33.setCell ⟨w1.heap.size, 0, none⟩ (.bool (ng Q))).setCell ⟨w1.heap.size, 1, none⟩ (.slice pq (ln (am Q)) (ln (am Q)))) = w34 at bel qP k1 k2 q6 kp kq hHeld ⊢
    refine wpAnyH_done (by kernel_rfl) ?_ _
    have q6_0 := q6.cell 0
    have q6_1 := q6.cell 1
    have q6_2 := q6.cell 2
    have q6_3 := q6.cell 3
    simp only [List.getElem?_toArray, List.getElem?_cons_zero, List.getElem?_cons_succ] at q6_0 q6_1 q6_2 q6_3
    go_wp2_with fail
    clear q6_0 q6_1 q6_2 q6_3
    refine (G4.out _ pq p2 m2 c2 h3 h4 kq k2).mono ?_
    rintro e w35 ⟨pM, rfl, bM, kM⟩
    have bb := bM
    replace qP := qP.later bb
    replace k1 := k1.later bb
    replace k2 := k2.later bb
    replace q6 := q6.later bb
    replace kp := kp.later bb
    replace kq := kq.later bb
    replace bel := bel.trans (bb.mono bel.size)
    clear bb
    clear bM
    have lq7qP := qP.lt
    have lq7q6 := q6.lt
    have bb := below_alloc (w := w35) (.cells #[.bool false, .slice pM (ln (am M)) (ln (am M))] 25)
    replace qP := qP.later bb
    replace k1 := k1.later bb
    replace k2 := k2.later bb
    replace q6 := q6.later bb
    replace kp := kp.later bb
    replace kq := kq.later bb
    replace kM := kM.later bb
    replace bel := bel.trans (bb.mono bel.size)
    clear bb
    have q7 := Blk.new w35 #[.bool false, .slice pM (ln (am M)) (ln (am M))] 25
    go_wp2_with fail
    refine (G5.out _ pM (HD.out.below bel) kM).mono ?_
    rintro e w36 ⟨rfl, b5⟩
    have bb := b5
    replace qP := qP.later bb
    replace k1 := k1.later bb
    replace k2 := k2.later bb
    replace q6 := q6.later bb
    replace kp := kp.later bb
    replace kq := kq.later bb
    replace kM := kM.later bb
    replace q7 := q7.later bb
    replace bel := bel.trans (bb.mono bel.size)
    clear bb
    clear b5
    go_wp2_with fail
    refine (G6.out _).mono ?_
    rintro e w37 ⟨rfl, b6⟩
    have bb := b6
    replace qP := qP.later bb
    replace k1 := k1.later bb
    replace k2 := k2.later bb
    replace q6 := q6.later bb
    replace kp := kp.later bb
    replace kq := kq.later bb
    replace kM := kM.later bb
    replace q7 := q7.later bb
    replace bel := bel.trans (bb.mono bel.size)
    clear bb
    clear b6
    have q7_0 := q7.cell 0
    have q7_1 := q7.cell 1
    simp only [List.getElem?_toArray, List.getElem?_cons_zero, List.getElem?_cons_succ] at q7_0 q7_1
    go_wp2
    go_ret2
    exact ⟨rfl, bel⟩
  exact AllReadyH.nil
set_option maxHeartbeats 4000000 in
set_option maxRecDepth 100000 in
theorem dec_no (s : Bool) (a : Option Addr) (n c X : Nat) (b : Option Addr) (m d Y : Nat) (z : Int) (w : World) (h1 : -9223372036854775808 ≤ z) (h2 : z ≤ 9223372036854775807) (hz : z < 0 ∨ 1000 < z) :
    Calls Tryz.prog 5 #[.agg #[.bool s, .slice a n c, .slice b m d], .int .i64 z] w fun e w' => e = .returned (.tuple #[.string ⟨#[]⟩, .int .i64 32]) ∧ Below w.heap.size w w' := by
  have bb := below_alloc (w := w) (.cells #[.bool s, .slice a n c, .slice b m d] 27)
  rcases hz with hz | hz
  · go_enter Tryz.func5, Tryz.ntmps5
    go_wp2
    go_ret2
    exact ⟨rfl, bb⟩
  · have i1 : ¬ (z < 0) := by omega
    go_enter Tryz.func5, Tryz.ntmps5
    go_wp2
    go_ret2
    exact ⟨rfl, bb⟩
theorem dec_is (s : Bool) (a : Option Addr) (n c X : Nat) (b : Option Addr) (m d Y : Nat) (p : Nat) (M Q : Int) (u : ByteArray) (w : World) (hc : n ≤ c) (hn : n ≤ 1073741824) (hS : Seg w a X n) (hd : m ≤ d) (hm : m ≤ 1073741824) (hT : Seg w b Y m) (hp : p ≤ 1000) (HD : Digs w) (HN : Noughts) (HP : Pow10) (hQ : rn s X Y * ((10 ^ p : Nat) : Int) = Q) (hM : rnd Q ((rd Y : Nat) : Int) = M) (lM : ln (am M) ≤ 1073741824) (hu : isTx 10 (am M) u) :
    Calls Tryz.prog 5 #[.agg #[.bool s, .slice a n c, .slice b m d], .int .i64 (p : Nat)] w fun e w' => e = .returned (.tuple #[.string (decT (ng M) p u), .int .i64 0]) ∧ Below w.heap.size w w' := by
  unfold decT
  cases hg : ng M with
  | true => rw [if_pos rfl]; exact dec_true s a n c X b m d Y p M Q u w hc hn hS hd hm hT hp HD HN HP hQ hM lM hu hg
  | false => rw [if_neg (by decide)]; exact dec_false s a n c X b m d Y p M Q u w hc hn hS hd hm hT hp HD HN HP hQ hM lM hu hg
end Go.Proofs.YtnoiiphgpjifgaaGreatDoor
