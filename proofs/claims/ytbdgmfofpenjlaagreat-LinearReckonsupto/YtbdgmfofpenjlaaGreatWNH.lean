/-
  A form and what is known of it; the program's functions of such forms; both forms of opening.
-/
import Derived.Test.YtbdgmfofpenjlaaGreatOpenL
import Derived.Test.YtbdgmfofpenjlaaGreatWN4
import Derived.Test.YtbdgmfofpenjlaaGreatNumO
import Derived.Test.YtbdgmfofpenjlaaGreatWQN
namespace Go.Proofs.YtbdgmfofpenjlaaGreat
open Go.ChangeShapes Go.WideShapes Go.ChangeAt Go.RowKit Go.Deep
set_option linter.unusedVariables false

set_option maxRecDepth 100000 in
theorem open_RatV {H : Type} {enc : TypeId × Value → H} {W : World} {r : Reach} {b0 : Nat} {v : Value} {d : DataW H} {p : List MemPlace}
    (hv : Value.okWide Tryz.prog W r b0 33 v) (h : DataW.Trod enc Tryz.prog W 0 (fun _ => true) true 33 v d p)
    (hsz : (d.weights Tryz.prog 33).all (· ≤ reachBytes) = true) :
    ∃ q : RatV, v = .agg #[.bool q.s, .slice q.a q.n q.c, .slice q.b q.m q.e] ∧ q.ok W ∧ q.n + q.m + 1 ≤ Rows.uptoBulk d := by
  obtain ⟨cs, rfl, hcs⟩ := okWide_struct Tryz.underlying33 hv
  obtain ⟨fuel, hf⟩ := h
  rw [cells_Rat] at hcs
  obtain ⟨c0, c1, c2, rfl⟩ : ∃ c0 c1 c2, cs = #[c0, c1, c2] := by
    match cs, hcs with
    | ⟨[c0, c1, c2]⟩, _ => exact ⟨c0, c1, c2, rfl⟩
  simp only [Value.cells] at hf
  obtain ⟨q, rfl, rfl, rfl, hok, hb⟩ := open_Rat3 hf hsz
  exact ⟨q, rfl, hok, hb⟩

/-- a form that came in, as a list of parts -/
def mos (v : Nat → Int) (f : Nat → RatV) (n : Nat) : List Mo := (List.range n).map fun i => (v i, f i)
theorem mos_length (v : Nat → Int) (f : Nat → RatV) (n : Nat) : (mos v f n).length = n := by unfold mos; rw [List.length_map, List.length_range]
theorem mos_mem {v : Nat → Int} {f : Nat → RatV} {n : Nat} {p : Mo} (h : p ∈ mos v f n) : ∃ i, i < n ∧ p = (v i, f i) := by
  obtain ⟨i, hi, rfl⟩ := List.mem_map.1 h
  exact ⟨i, List.mem_range.1 hi, rfl⟩
theorem mos_at {w : World} {a : Option Addr} {n : Nat} {v : Nat → Int} {f : Nat → RatV} (h : FormAt w a n v f) : FAt w a (mos v f n) := fun hn => by
  have h0 : 0 < n := by
    rcases Nat.eq_zero_or_pos n with e | e
    · subst e; exact absurd rfl hn
    · exact e
  obtain ⟨b, off, e, hl, hc⟩ := h h0
  refine ⟨b, off, e, hl, fun i p hi => ?_⟩
  unfold mos at hi
  rw [List.getElem?_map] at hi
  have hin : i < n := by
    rcases Nat.lt_or_ge i n with h1 | h1
    · exact h1
    · rw [List.getElem?_eq_none (by rw [List.length_range]; exact h1)] at hi; cases hi
  rw [List.getElem?_range hin] at hi
  obtain rfl := Option.some.inj hi
  exact hc i hin
theorem bulk_at {q : Nat → RatV} : ∀ (n i : Nat), i < n → (q i).n + (q i).m + n ≤ bulkV q n
  | 0, i, h => absurd h (by omega)
  | n + 1, i, h => by
    simp only [bulkV]
    rcases Nat.lt_or_ge i n with h1 | h1
    · have := bulk_at (q := q) n i h1
      omega
    · obtain rfl : i = n := by omega
      have : i ≤ bulkV q i := by
        clear h h1
        induction i with
        | zero => exact Nat.zero_le _
        | succ i ih => simp only [bulkV]; omega
      omega
theorem bulk_n {q : Nat → RatV} : ∀ (n : Nat), n ≤ bulkV q n
  | 0 => Nat.zero_le _
  | n + 1 => by have := bulk_n (q := q) n; simp only [bulkV]; omega
theorem rect {n K : Nat} (h : n + K ≤ 1048576) : n * (2 * K + 5) + 1 ≤ 1099511627776 := by
  have e : (n + K) * (n + K) ≤ 1048576 * 1048576 := Nat.mul_le_mul h h
  have e2 : 4 * (n * K) ≤ (n + K) * (n + K) := by
    have h1 : 0 ≤ ((n : Int) - K) * ((n : Int) - K) := by
      rcases Int.le_total 0 ((n : Int) - K) with h2 | h2
      · exact Int.mul_nonneg h2 h2
      · exact Int.mul_nonneg_of_nonpos_of_nonpos h2 h2
    have h2 : ((n : Int) + K) * ((n : Int) + K) = 4 * ((n : Int) * K) + ((n : Int) - K) * ((n : Int) - K) := by grind
    have h3 : (4 * ((n : Int) * K)) ≤ ((n : Int) + K) * ((n : Int) + K) := by omega
    exact_mod_cast h3
  have e3 : n * (2 * K + 5) = 2 * (n * K) + 5 * n := by grind
  omega
end Go.Proofs.YtbdgmfofpenjlaaGreat

namespace Go.Proofs.YtbdgmfofpenjlaaGreat
open Go.RowKit
set_option linter.unusedVariables false
set_option linter.unusedSimpArgs false

set_option maxHeartbeats 2000000 in
set_option maxRecDepth 100000 in
theorem lCmp_is (a : Option Addr) (ca : Nat) (L : List Mo) (b : Option Addr) (cb : Nat) (M : List Mo) (w : World) (hFL : FAt w a L) (hokL : ∀ p ∈ L, p.2.ok w ∧ p.2.m < 35184372087808) (hcL : L.length ≤ ca) (hmL : L.length ≤ 1048576) (htL : thin (fo L)) (hFM : FAt w b M) (hokM : ∀ p ∈ M, p.2.ok w ∧ p.2.m < 35184372087808) (hcM : M.length ≤ cb) (hmM : M.length ≤ 1048576) (htM : thin (fo M)) (hwM : wts (fo M) + 1 ≤ 1099511627776) (hnM : ∀ p ∈ M, p.2.n ≤ 1099511627776 ∧ p.2.m ≤ 1099511627776) :
    Calls Tryz.prog 17 #[.slice a L.length ca, .slice b M.length cb] w fun e w' => e = .returned (.int .i64 (cmpF (fo L) (fo M))) ∧ Below w.heap.size w w' := by
  have G1 := hide' (lSub_is a ca L b cb M w hFL hokL hcL hmL htL hFM hokM hcM hmM htM hwM hnM)
  unfold cmpF
  obtain ⟨T, hT⟩ : ∃ T, nfm (fo L ++ fmap (fun r => -r) (fo M)) = T := ⟨_, rfl⟩
  rw [hT] at G1 ⊢
  obtain ⟨C, hC⟩ : ∃ C, hd T = C := ⟨_, rfl⟩
  rw [hC]
  replace hC := hide' hC
  clear hFL hokL hcL hmL htL hFM hokM hcM hmM htM hwM hnM hT
  go_enter Tryz.func17, Tryz.ntmps17
  go_wp2_with fail
  refine G1.out.mono ?_
  rintro e w1 ⟨a1, c1, R1, rfl, b1, s1, e1, f1⟩
  cases R1 with
  | nil =>
    obtain rfl : C = 0 := by rw [← hC.out, ← f1]; rfl
    rw [show ([] : List Mo).length = 0 from rfl]
    go_wp2
    go_ret
    exact ⟨rfl, b1⟩
  | cons p R1 =>
    obtain ⟨x, q⟩ := p
    have hq : sgn (rn q.s q.X q.Y) = C := by
      have h1 : hd T = sgn q.val.num := by rw [← f1]; rfl
      have hl := (e1 (x, q) List.mem_cons_self).low
      have h2 := q.val_low
      have hY := hl.pos
      rw [← hC.out, h1]
      have e9 := low_val (show q.low from hl)
      have e8 : rn q.s q.X q.Y = q.val.num := by
        conv => lhs; rw [e9]
        exact rn_nf q.val.den_pos
      rw [e8]
    have ok : q.ok w1 := (e1 (x, q) List.mem_cons_self).ok
    have G2 := hide' (fun w' k1 k2 => qSign_is q.s q.a q.n q.c q.X q.b q.m q.e q.Y C w' ok.2.1 ok.2.2.1 k1 ok.2.2.2.2.1 ok.2.2.2.2.2 k2 hq)
    have k1 := ok.1
    have k2 := ok.2.2.2.1
    obtain ⟨bb, off, rfl, hb, ⟨d0, d1, d2, d3⟩, _⟩ := s1.lies.head
    simp only at d0 d1 d2 d3
    obtain ⟨n, hn⟩ : ∃ n, ((x, q) :: R1 : List Mo).length = n := ⟨_, rfl⟩
    have hn1 : n = R1.length + 1 := by rw [← hn]; rfl
    have i1 : ¬ (n : Int) = 0 := by omega
    have i2 : (0 : Int) < (n : Int) := by omega
    have i3 : ¬ n = 0 := by omega
    have i4 : 0 < n := by omega
    rw [hn]
    clear hn hn1 s1 e1 f1 ok hq hC G1
    go_wp2_with fail
    refine (G2.out _ k1 k2).mono ?_
    rintro e w2 ⟨rfl, b2⟩
    go_wp2
    go_ret
    exact ⟨rfl, b1.trans (b2.mono b1.size)⟩
end Go.Proofs.YtbdgmfofpenjlaaGreat

namespace Go.Proofs.YtbdgmfofpenjlaaGreat
open Go.ChangeShapes Go.WideShapes Go.ChangeAt Go.RowKit Go.Deep
set_option linter.unusedVariables false

/-- a form that came in, and what is known of it -/
structure Hand (w : World) (a : Option Addr) (c : Nat) (L : List Mo) : Prop where
  lies : FAt w a L
  ok : ∀ p ∈ L, p.2.ok w ∧ p.2.m < 35184372087808
  cap : L.length ≤ c
  len : L.length ≤ 1048576
  thin : thin (fo L)
  wt : wts (fo L) + 1 ≤ 1099511627776
  short : ∀ p ∈ L, p.2.n ≤ 1099511627776 ∧ p.2.m ≤ 1099511627776
theorem Hand.later {w w' : World} {a : Option Addr} {c : Nat} {L : List Mo} (h : Hand w a c L) (hb : Below w.heap.size w w') : Hand w' a c L := ⟨h.lies.later hb, fun p hp => ⟨(h.ok p hp).1.later hb, (h.ok p hp).2⟩, h.cap, h.len, h.thin, h.wt, h.short⟩
theorem hand_of {w : World} {a : Option Addr} {c : Nat} {L : List Mo} (hF : FAt w a L) (hok : ∀ p ∈ L, p.2.ok w) (hc : L.length ≤ c) (hl : L.length ≤ 1048576) (hb : bulkL L ≤ 16777216) : Hand w a c L := by
  have h1 := wts_bulk L hok
  exact ⟨hF, fun p hp => ⟨hok p hp, by have := bulkL_at L p hp; omega⟩, hc, hl, thin_of (by omega), by omega, fun p hp => by have := bulkL_at L p hp; omega⟩
/-- a normal form that was made -/
theorem hand_nfm {w : World} {a : Option Addr} {c : Nat} {R : List Mo} {l : Fo} (hs : Sl w a c R) (he : ∀ p ∈ R, Ent w p) (hf : fo R = nfm l) (hl : l.length ≤ 1048576) (hw : wts l ≤ 2097152) : Hand w a c R := by
  have h1 := wts_nfm l
  have h2 := nfm_length l
  have h3 : R.length = (nfm l).length := by rw [← fo_length, hf]
  have h4 := bulkL_low R fun p hp => (he p hp).low
  rw [hf] at h4
  exact hand_of hs.lies (fun p hp => (he p hp).ok) hs.len (by omega) (by omega)
theorem hand_unit {w : World} {a : Option Addr} {c : Nat} {R : List Mo} {x : Int} (hs : Sl w a c R) (he : ∀ p ∈ R, Ent w p) (hf : fo R = [(x, 1)]) : Hand w a c R := by
  have h : nfm [(x, (1 : Rat))] = [(x, 1)] := (nfm_self (nrm.nil.cons (fun q hq => absurd hq (by simp)) (by show (1 : Rat) ≠ 0; decide))).symm
  have hw : wts [(x, (1 : Rat))] ≤ 3 := by
    show wt 1 + 0 ≤ 3
    unfold wt
    show ln (am 1) + ln 1 + 1 + 0 ≤ 3
    rw [show am 1 = 1 from rfl, ln_one]
    omega
  exact hand_nfm hs he (by rw [h]; exact hf) (by simp) (by omega)
theorem hCmp {w : World} {a : Option Addr} {ca : Nat} {L : List Mo} {b : Option Addr} {cb : Nat} {M : List Mo} (h : Hand w a ca L) (k : Hand w b cb M) :
    Calls Tryz.prog 17 #[.slice a L.length ca, .slice b M.length cb] w fun e w' => e = .returned (.int .i64 (cmpF (fo L) (fo M))) ∧ Below w.heap.size w w' :=
  lCmp_is a ca L b cb M w h.lies h.ok h.cap h.len h.thin k.lies k.ok k.cap k.len k.thin k.wt k.short
theorem hAdd {w : World} {a : Option Addr} {ca : Nat} {L : List Mo} {b : Option Addr} {cb : Nat} {M : List Mo} (h : Hand w a ca L) (k : Hand w b cb M) : Calls Tryz.prog 7 #[.slice a L.length ca, .slice b M.length cb] w (FAns w (nfm (fo L ++ fo M))) :=
  lAdd_is a ca L b cb M w h.lies h.ok h.cap h.len h.thin k.lies k.ok k.cap k.len k.thin
theorem hNorm {w : World} {a : Option Addr} {ca : Nat} {L : List Mo} (h : Hand w a ca L) : Calls Tryz.prog 5 #[.slice a L.length ca] w (FAns w (nfm (fo L))) :=
  lNorm_is a ca L w h.lies (fun p hp => (h.ok p hp).1) h.cap h.len (fun p hp => (h.ok p hp).2) h.thin

theorem bulkL_mos (v : Nat → Int) (f : Nat → RatV) : ∀ n, bulkL (mos v f n) = bulkV f n + n
  | 0 => rfl
  | n + 1 => by
    have ih := bulkL_mos v f n
    have e : mos v f (n + 1) = mos v f n ++ [(v n, f n)] := by unfold mos; rw [List.range_succ, List.map_append]; rfl
    have ha : ∀ (A B : List Mo), bulkL (A ++ B) = bulkL A + bulkL B := fun A B => by
      induction A with
      | nil => simp [bulkL]
      | cons p A ih => simp only [List.cons_append, bulkL, ih]; omega
    rw [e, ha, ih]
    simp only [bulkL, bulkV]
    omega
theorem hand_in {w : World} {af : Option Addr} {n capf : Nat} {v : Nat → Int} {f : Nat → RatV} (hF : FormAt w af n v f) (hfo : ∀ i, i < n → (Lit.int .i64 (v i)).wf = true ∧ (f i).ok w) (hcf : n ≤ capf) (hb : bulkV f n ≤ 1048576) : Hand w af capf (mos v f n) := by
  have b1 := bulk_n (q := f) n
  exact hand_of (mos_at hF) (fun p hp => by obtain ⟨i, hi, rfl⟩ := mos_mem hp; exact (hfo i hi).2) (by rw [mos_length]; exact hcf) (by rw [mos_length]; omega) (by rw [bulkL_mos]; omega)
set_option maxRecDepth 100000 in
theorem form_nn {H : Type} {enc : TypeId × Value → H} {W : World} {cs : List Value} {d : DataW H} {p : List MemPlace} {fuel : Nat} {a : Option Addr} {n c : Nat}
    (hf : DataW.trod enc Tryz.prog W 0 (fun _ => true) true fuel 23 cs = some (d, p)) (hcs : cs = [.slice a n c]) : a = none → c = 0 := by
  rcases open_slice Tryz.underlying23 hf with ⟨h, _⟩ | ⟨a2, len, cap, m, n2, D, Pl, h, _⟩
  · rw [hcs] at h
    simp only [List.cons.injEq, Value.slice.injEq, and_true] at h
    intro _
    exact h.2.2
  · rw [hcs] at h
    simp only [List.cons.injEq, Value.slice.injEq, and_true] at h
    intro e
    rw [e] at h
    exact absurd h.1 (by simp)
end Go.Proofs.YtbdgmfofpenjlaaGreat
