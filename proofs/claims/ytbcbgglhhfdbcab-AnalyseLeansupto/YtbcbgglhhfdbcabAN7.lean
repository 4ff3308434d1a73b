/-
  analyse: the queue: below, put, next, newFalling.
-/
import Derived.Test.YtbcbgglhhfdbcabAN6
namespace Go.Proofs.Ytbcbgglhhfdbcab
open Go.RowKit
set_option linter.unusedVariables false
set_option linter.unusedSimpArgs false
/-- a queue: nothing above what is below it, each once, places alone -/
structure FaAt (w : World) (ow : Nat → Nat) (t q N : Nat) (L : List Int) : Prop where
  raw : ∃ m s, FaR w ow t q m s N (seenF L) L
  hp : Hp L
  nd : Nd L
  ok : ∀ z ∈ L, 0 ≤ z ∧ z < 1048576
  len : L.length ≤ 4194304
theorem FaAt.later {w w' : World} {ow : Nat → Nat} {t q N : Nat} {L : List Int} (h : FaAt w ow t q N L) (hb : Below w.heap.size w w') : FaAt w' ow t q N L := by
  obtain ⟨m, s, hr⟩ := h.raw
  exact ⟨⟨m, s, hr.later hb⟩, h.hp, h.nd, h.ok, h.len⟩
theorem FaAt.far {w w' : World} {ow ow' : Nat → Nat} {t t' q N : Nat} {L : List Int} (h : FaAt w ow t q N L) (k : App ow ow' t' w w') (hne : t ≠ t') : FaAt w' ow' t q N L := by
  obtain ⟨m, s, hr⟩ := h.raw
  exact ⟨⟨m, s, hr.far k hne⟩, h.hp, h.nd, h.ok, h.len⟩
theorem pairs_swap {w : World} {ow : Nat → Nat} {t q m N : Nat} {s : SlV} {f f' : Int → Option Value} {L : List Int} (h : FaR w ow t q m s N f L) (e : f = f') : FaR w ow t q m s N f' L := by subst e; exact h
set_option maxHeartbeats 2000000 in
set_option maxRecDepth 100000 in
theorem fbelow_is (ow : Nat → Nat) (t q m N : Nat) (s : SlV) (f : Int → Option Value) (L : List Int) (i : Nat) (hi : i < L.length) (hL : L.length ≤ 4194304) (w : World) (h : FaR w ow t q m s N f L)  :
    Calls Try.prog 64 #[.pointer (some ⟨q, 0, none⟩), .int .i64 i] w fun e w' => e = .returned (.int .i64 ((blw L i 2 : Nat) : Int)) ∧ Below w.heap.size w w' := by
  obtain ⟨g, hg⟩ := h.row.got (by omega)
  have c1 := h.c1
  rw [SlV.val_some hg] at c1
  have HC := hide' (fun k (hk : k < L.length) => h.ci hg hk)
  generalize s.c = sc at c1
  obtain ⟨n, hn⟩ : ∃ n, L.length = n := ⟨_, rfl⟩
  rw [hn] at c1 hi hL HC
  replace hn := hide' hn
  clear h hg
  have iM : (0 : Int) ≤ (i : Int) := by omega
  have iN : (i : Int) ≤ 4194304 := by omega
  obtain ⟨d1, hd1⟩ : ∃ d, 2 * i + 1 = d := ⟨_, rfl⟩
  replace hd1 := hide' hd1
  go_enter Try.func64, Try.ntmps64
  go_wp2_with fail
  go_loopw [5, 6] (fun vo vd wr => ∃ r : Nat, r ≤ 2 ∧ (r = 0 ∨ d1 + r ≤ n) ∧ vo = .int .i64 (blw L i r : Nat) ∧ vd = .int .i64 (2 * (i : Int) + 1 + (r : Int)) ∧ Below w.heap.size w wr) (fun _ vd _ => (2 * i + 3 - (intOf vd).toNat))
  case atStart => exact ⟨0, by omega, Or.inl rfl, rfl, by first | go_num | simp, Below.refl _ _⟩
  case round =>
    obtain ⟨r, hr, hrn, rfl, rfl, hB⟩ := hrel
    have cq := below_cell hB c1
    have hbl := blw_lt (L := L) (i := i) (by rw [hn.out]; exact hi) r
    rw [hn.out] at hbl
    have HS := hide' (show blw L i (r + 1) = _ from rfl)
    unfold blw at HS
    by_cases hlt : r < 2 ∧ d1 + r < n
    · obtain ⟨h2, hln⟩ := hlt
      have HSa := hide' (show d1 + r < n → L.getD (blw L i r) 0 < L.getD (d1 + r) 0 → blw L i (r + 1) = d1 + r from fun a b => by have h9 := hd1.out; show (if _ then _ else _) = _; rw [if_pos ⟨by rw [hn.out]; omega, by rw [show 2 * i + 1 + r = d1 + r from by omega]; exact b⟩]; omega)
      have HSb := hide' (show ¬ L.getD (blw L i r) 0 < L.getD (d1 + r) 0 → blw L i (r + 1) = blw L i r from fun b => by have h9 := hd1.out; show (if _ then _ else _) = _; rw [if_neg (fun q => b (by have := q.2; rw [show 2 * i + 1 + r = d1 + r from by omega] at this; exact this))])
      clear HS
      obtain ⟨o, ho⟩ : ∃ o, blw L i r = o := ⟨_, rfl⟩
      rw [ho] at hbl HSa HSb ⊢
      clear ho
      have ca := below_cell hB (HC.out o hbl)
      have cb := below_cell hB (HC.out (d1 + r) hln)
      obtain ⟨x, hx⟩ : ∃ x, L.getD o 0 = x := ⟨_, rfl⟩
      obtain ⟨y, hy⟩ : ∃ y, L.getD (d1 + r) 0 = y := ⟨_, rfl⟩
      rw [hx] at ca HSa HSb
      rw [hy] at cb HSa HSb
      clear hx hy
      obtain ⟨dr, hdr⟩ : ∃ dr : Nat, 2 * (i : Int) + 1 + (r : Int) = (dr : Int) := ⟨2 * i + 1 + r, by omega⟩
      have hdn : d1 + r = dr := by have := hd1.out; omega
      have j1 : (dr : Int) < (n : Int) := by omega
      have j2 : (dr : Int) ≤ 2 * (i : Int) + 2 := by omega
      have j3 : (dr : Int) ≤ 8388610 := by omega
      have o1 : (o : Int) < (n : Int) := by omega
      rw [hdr]
      rw [hdn] at cb HSa hln
      replace hdr := hide' hdr
      replace hdn := hide' hdn
      replace hB := hide' hB
      by_cases hxy : x < y
      · have hN := HSa.out hln hxy
        replace hN := hide' hN
        clear HSa HSb
        go_wp2_with fail
        go_quiet (fail)
        go_wp2
        go_roundw
        case rel => exact ⟨r + 1, by omega, Or.inr (by have := hdn.out; omega), by rw [hN.out], by (have h9 := hdr.out; first | go_num | (simp; omega) | (congr 1; omega)), by first | exact below_drewN hB.out | exact hB.out⟩
        case measure => have h9 := hdr.out; simp only [intOf]; omega
      · have hN := HSb.out hxy
        replace hN := hide' hN
        clear HSa HSb
        go_wp2_with fail
        go_quiet (fail)
        go_wp2
        go_roundw
        case rel => exact ⟨r + 1, by omega, Or.inr (by have := hdn.out; omega), by rw [hN.out], by (have h9 := hdr.out; first | go_num | (simp; omega) | (congr 1; omega)), by first | exact below_drewN hB.out | exact hB.out⟩
        case measure => have h9 := hdr.out; simp only [intOf]; omega
    · have hE : blw L i r = blw L i 2 := by
        have h9 := hd1.out
        have h8 : r = 2 ∨ n ≤ d1 + r := by omega
        rcases h8 with h8 | h8
        · rw [h8]
        · have h7 := blw_short (L := L) (i := i) (r := r) (by rw [hn.out]; omega) (2 - r)
          rw [show r + (2 - r) = 2 from by omega] at h7
          exact h7.symm
      rw [hE] at hbl ⊢
      clear hE HS
      obtain ⟨o, ho⟩ : ∃ o, blw L i 2 = o := ⟨_, rfl⟩
      rw [ho] at hbl ⊢
      have HO := hide' ho
      clear ho
      by_cases hr2 : r = 2
      · subst hr2
        have i9 : ¬ (2 * (i : Int) + 1 + ((2 : Nat) : Int) ≤ 2 * (i : Int) + 2) := by omega
        have i8 : ¬ (2 * (i : Int) + 1 + 2 ≤ 2 * (i : Int) + 2) := by omega
        go_wp2
        go_ret
        exact ⟨(by rw [HO.out]; try rfl), hB⟩
      · obtain ⟨dr, hdr⟩ : ∃ dr : Nat, 2 * (i : Int) + 1 + (r : Int) = (dr : Int) := ⟨2 * i + 1 + r, by omega⟩
        rw [hdr]
        have i9 : (dr : Int) ≤ 2 * (i : Int) + 2 := by omega
        have i8 : ¬ ((dr : Int) < (n : Int)) := by have := hd1.out; omega
        replace hdr := hide' hdr
        go_wp2
        go_ret
        exact ⟨(by rw [HO.out]; try rfl), hB⟩
set_option maxHeartbeats 2000000 in
set_option maxRecDepth 100000 in
theorem fbelow_none (ow : Nat → Nat) (t q m N : Nat) (s : SlV) (f : Int → Option Value) (L : List Int) (hL : L.length = 0) (w : World) (h : FaR w ow t q m s N f L)  :
    Calls Try.prog 64 #[.pointer (some ⟨q, 0, none⟩), .int .i64 0] w fun e w' => e = .returned (.int .i64 0) ∧ Below w.heap.size w w' := by
  have c1 := h.c1
  unfold SlV.val at c1
  rw [hL] at c1
  clear h
  replace hL := hide' hL
  go_enter Try.func64, Try.ntmps64
  go_wp2_with fail
  go_loopw [5, 6] (fun vo vd wr => vo = .int .i64 0 ∧ vd = .int .i64 1 ∧ wr = w) (fun _ vd _ => 0)
  case atStart => exact ⟨rfl, rfl, rfl⟩
  case round =>
    obtain ⟨rfl, rfl, rfl⟩ := hrel
    go_wp2
    go_ret
    exact ⟨rfl, Below.refl _ _⟩
end Go.Proofs.Ytbcbgglhhfdbcab
