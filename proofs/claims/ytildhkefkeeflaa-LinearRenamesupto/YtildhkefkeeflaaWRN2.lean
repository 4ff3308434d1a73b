/-
  Layer 6: the reference's Rename.
-/
import Derived.Test.YtildhkefkeeflaaWN10
import Derived.Test.YtildhkefkeeflaaWL5
import Derived.Test.YtildhkefkeeflaaWO5
namespace Go.Proofs.Ytildhkefkeeflaa
set_option linter.unusedVariables false

theorem wts_part (P : Int × Rat → Bool) : ∀ (l : Fo), wts (l.filter P) + wts (l.filter fun p => !P p) = wts l
  | [] => rfl
  | p :: l => by
    have ih := wts_part P l
    cases h : P p
    · rw [List.filter_cons_of_neg (by rw [h]; simp), List.filter_cons_of_pos (by rw [h]; rfl)]
      simp only [wts]
      omega
    · rw [List.filter_cons_of_pos h, List.filter_cons_of_neg (by rw [h]; simp)]
      simp only [wts]
      omega
theorem co_only (x : Int) : ∀ (l : Fo), co x (l.filter fun p => p.1 == x) = co x l
  | [] => rfl
  | p :: l => by
    have ih := co_only x l
    by_cases h : p.1 = x
    · rw [List.filter_cons_of_pos (by simp [h])]
      simp only [co, ih]
    · rw [List.filter_cons_of_neg (by simp [h])]
      simp only [co, ih]
      rw [if_neg h, Rat.zero_add]
theorem wts_vars : ∀ (X : List Int) (l : Fo), X.Pairwise (· < ·) → (X.map fun x => wts (l.filter fun p => p.1 == x)).sum ≤ wts l
  | [], l, _ => Nat.zero_le _
  | x :: X, l, h => by
    have h1 := (List.pairwise_cons.1 h).1
    have ih := wts_vars X (l.filter fun p => !(p.1 == x)) (List.pairwise_cons.1 h).2
    have hp := wts_part (fun p => p.1 == x) l
    have e : (X.map fun y => wts ((l.filter fun p => !(p.1 == x)).filter fun p => p.1 == y)) = X.map fun y => wts (l.filter fun p => p.1 == y) := by
      refine List.map_congr_left fun y hy => ?_
      have hxy := h1 y hy
      congr 1
      rw [List.filter_filter]
      refine List.filter_congr fun p _ => ?_
      by_cases hpy : p.1 = y
      · have : ¬ y = x := by omega
        simp [hpy, this]
      · simp [hpy]
    rw [e] at ih
    simp only [List.map_cons, List.sum_cons]
    omega
theorem sum_le {α : Type} (f g : α → Nat) : ∀ (l : List α), (∀ p ∈ l, f p ≤ 2 * g p + 3) → (l.map f).sum ≤ 2 * (l.map g).sum + 3 * l.length
  | [], _ => Nat.le_refl _
  | p :: l, h => by
    have h1 := sum_le f g l fun q hq => h q (List.mem_cons_of_mem _ hq)
    have h2 := h p List.mem_cons_self
    simp only [List.map_cons, List.sum_cons, List.length_cons]
    omega
theorem wts_sum : ∀ (l : Fo), wts l = (l.map fun p => wt p.2).sum
  | [] => rfl
  | p :: l => by simp only [wts, List.map_cons, List.sum_cons, wts_sum l]
/-- how long a normal form is -/
theorem wts_nfm (l : Fo) : wts (nfm l) ≤ 2 * wts l + 3 * (nfm l).length := by
  have hn := nfm_nrm l
  have h1 : ∀ p ∈ nfm l, wt p.2 ≤ 2 * wts (l.filter fun q => q.1 == p.1) + 3 := fun p hp => by
    have e := hn.co_mem hp
    rw [nfm_co, ← co_only] at e
    have h := co_sz p.1 (l.filter fun q => q.1 == p.1)
    rw [e] at h
    have h2 := h.1
    have h3 := h.2
    unfold wt
    omega
  have h2 := sum_le (fun p : Int × Rat => wt p.2) (fun p => wts (l.filter fun q => q.1 == p.1)) (nfm l) h1
  have h3 := wts_vars ((nfm l).map (·.1)) l (by rw [List.pairwise_map]; exact hn.1)
  rw [List.map_map] at h3
  rw [wts_sum]
  have e : ((nfm l).map ((fun x => wts (l.filter fun p => p.1 == x)) ∘ fun x => x.1)) = (nfm l).map fun p => wts (l.filter fun q => q.1 == p.1) := rfl
  rw [e] at h3
  omega

end Go.Proofs.Ytildhkefkeeflaa

namespace Go.Proofs.Ytildhkefkeeflaa
open Go.RowKit
set_option linter.unusedVariables false
set_option linter.unusedSimpArgs false

theorem results_ttR {fn : Func} {p u : Tmp} (h : fn.results = #[.tmp p, .tmp u]) (tmps : Array Value) (P : Program) (w : World) :
    (results fn tmps).run P w = .ok (.tuple #[tmps.getD p undef, tmps.getD u undef]) w := by
  simp only [results, h]
  simp
/-- a list of ints lies in W -/
def IntsAt (W : World) (a : Option Addr) (m : Nat) (g : Nat → Int) : Prop :=
  0 < m → ∃ b off, a = some ⟨b, off, none⟩ ∧ b < W.heap.size ∧ ∀ i, i < m → W.cell? ⟨b, off + i, none⟩ = some (.int .i64 (g i))
theorem IntsAt.later {w w' : World} {a : Option Addr} {m : Nat} {g : Nat → Int} (h : IntsAt w a m g) (hb : Below w.heap.size w w') : IntsAt w' a m g := fun hn => by
  obtain ⟨b, off, e, hl, hc⟩ := h hn
  exact ⟨b, off, e, Nat.lt_of_lt_of_le hl hb.size, fun i hi => below_cell hb (hc i hi)⟩
def renp (g : Nat → Int) (p : Mo) : Mo := (g p.1.toNat, p.2)
def renf (g : Nat → Int) (l : Fo) : Fo := l.map fun p => (g p.1.toNat, p.2)
theorem fo_ren (g : Nat → Int) (L : List Mo) : fo (L.map (renp g)) = renf g (fo L) := by
  unfold fo renf renp
  rw [List.map_map, List.map_map]
  rfl
theorem renf_length (g : Nat → Int) (l : Fo) : (renf g l).length = l.length := List.length_map _
theorem wts_ren (g : Nat → Int) : ∀ (l : Fo), wts (renf g l) = wts l
  | [] => rfl
  | p :: l => by
    have := wts_ren g l
    unfold renf at this ⊢
    simp only [List.map, wts, this]
/-- the first k of them renamed -/
def mixL (g : Nat → Int) (k : Nat) (L : List Mo) : List Mo := (L.take k).map (renp g) ++ L.drop k
theorem mixL_length (g : Nat → Int) (k : Nat) (L : List Mo) : (mixL g k L).length = L.length := by
  unfold mixL
  rw [List.length_append, List.length_map, List.length_take, List.length_drop]
  omega
theorem mixL_zero (g : Nat → Int) (L : List Mo) : mixL g 0 L = L := by simp [mixL]
theorem mixL_all (g : Nat → Int) (L : List Mo) : mixL g L.length L = L.map (renp g) := by simp [mixL]
theorem mixL_at (g : Nat → Int) {k : Nat} {L : List Mo} {p : Mo} (h : L[k]? = some p) : (mixL g k L)[k]? = some p := by
  have hk := (List.getElem?_eq_some_iff.1 h).1
  unfold mixL
  rw [List.getElem?_append_right (by rw [List.length_map, List.length_take]; omega), List.length_map, List.length_take, List.getElem?_drop, show k + (k - min k L.length) = k by omega]
  exact h
theorem mixL_succ (g : Nat → Int) {k : Nat} {L : List Mo} {p : Mo} (h : L[k]? = some p) : mixL g (k + 1) L = (mixL g k L).set k (renp g p) := by
  have hk := (List.getElem?_eq_some_iff.1 h).1
  have hl : ((L.take k).map (renp g)).length = k := by rw [List.length_map, List.length_take]; omega
  have hd : L.drop k = p :: L.drop (k + 1) := by
    rw [List.drop_eq_getElem_cons hk]
    congr 1
    exact (List.getElem?_eq_some_iff.1 h).2
  unfold mixL
  rw [List.take_add_one, h, List.map_append, hd, List.set_append_right _ _ (by omega), hl, Nat.sub_self]
  simp
/-- all variables are places -/
def allp (m : Nat) (l : Fo) : Prop := ∀ p ∈ l, 0 ≤ p.1 ∧ p.1 < (m : Int)
theorem Seg.setI {w : World} {p : Option Addr} {X n c o : Nat} {u : Value} {y : Int} (h : Seg w p X n) (hc : w.cell? ⟨c, o, none⟩ = some (.int .i64 y)) : Seg (w.setCell ⟨c, o, none⟩ u) p X n := by
  refine ⟨h.1, fun hn => ?_⟩
  obtain ⟨b, off, rfl, hb, hcell⟩ := h.2 hn
  refine ⟨b, off, rfl, by simpa [World.setCell] using hb, fun i hi => ?_⟩
  have h1 := hcell i hi
  rw [World.cell?_setCell_other _ _ _ _ (fun e => ?_)]
  · exact h1
  · rw [← e, hc] at h1
    simp at h1
theorem RatV.ok.setI {w : World} {q : RatV} {c o : Nat} {u : Value} {y : Int} (h : q.ok w) (hc : w.cell? ⟨c, o, none⟩ = some (.int .i64 y)) : q.ok (w.setCell ⟨c, o, none⟩ u) :=
  ⟨h.1.setI hc, h.2.1, h.2.2.1, h.2.2.2.1.setI hc, h.2.2.2.2.1, h.2.2.2.2.2⟩
theorem FAt.ren {w : World} {b off : Nat} {M : List Mo} {k : Nat} {p : Mo} {y : Int} (h : FAt w (some ⟨b, off, none⟩) M) (hp : M[k]? = some p) :
    FAt (w.setCell ⟨b, off + k * 4, none⟩ (.int .i64 y)) (some ⟨b, off, none⟩) (M.set k (y, p.2)) := fun hn => by
  obtain ⟨b', off', e, hl, hc⟩ := h (fun e => by rw [e] at hp; simp at hp)
  obtain ⟨rfl, rfl⟩ : b = b' ∧ off = off' := by simpa using e
  obtain ⟨q0, q1, q2, q3⟩ := hc k p hp
  refine ⟨b, off, rfl, by rw [World.size_setCell]; exact hl, fun i q hi => ?_⟩
  have far : ∀ {o : Nat} {x : Value}, o ≠ off + k * 4 → w.cell? ⟨b, o, none⟩ = some x → (w.setCell ⟨b, off + k * 4, none⟩ (.int .i64 y)).cell? ⟨b, o, none⟩ = some x := fun ho hx => by
    rw [World.cell?_setCell_other _ _ _ _ (fun e => by injection e with _ h2; exact ho h2.symm)]
    exact hx
  by_cases hik : i = k
  · subst hik
    rw [List.getElem?_set_self (List.getElem?_eq_some_iff.1 hp).1] at hi
    obtain rfl := Option.some.inj hi
    exact ⟨World.cell?_setCell_same _ _ _ q0, far (by omega) q1, far (by omega) q2, far (by omega) q3⟩
  · rw [List.getElem?_set_ne (fun e => hik e.symm)] at hi
    obtain ⟨r0, r1, r2, r3⟩ := hc i q hi
    exact ⟨far (by omega) r0, far (by omega) r1, far (by omega) r2, far (by omega) r3⟩
/-- what Rename tells -/
def RenA (w : World) (m : Nat) (g : Nat → Int) (l : Fo) (e : Ending) (w' : World) : Prop :=
  (allp m l ∧ ∃ a c R, e = .returned (.tuple #[.slice a (R : List Mo).length c, .int .i64 0]) ∧ Below w.heap.size w w' ∧ Sl w' a c R ∧ (∀ p ∈ R, Ent w' p) ∧ fo R = nfm (renf g l)) ∨
  (¬ allp m l ∧ e = .returned (.tuple #[.slice none 0 0, .int .i64 61]) ∧ Below w.heap.size w w')
/-- what the loop keeps -/
structure RnI (w : World) (g : Nat → Int) (m : Nat) (a : Option Addr) (c : Nat) (R : List Mo) (k : Nat) (wr : World) : Prop where
  bel : Below w.heap.size w wr
  sl : Sl wr a c (mixL g k R)
  ent : ∀ p ∈ mixL g k R, Ent wr p
  new : ∀ ad, a = some ad → w.heap.size ≤ ad.block ∧ Row wr ad.block
  ok : ∀ p ∈ R.take k, 0 ≤ p.1 ∧ p.1 < (m : Int)
theorem RnI.later {w : World} {g : Nat → Int} {m : Nat} {a : Option Addr} {c : Nat} {R : List Mo} {k : Nat} {wr w' : World} (h : RnI w g m a c R k wr) (b : Below wr.heap.size wr w') : RnI w g m a c R k w' :=
  ⟨h.bel.trans (b.mono h.bel.size), h.sl.later b, fun p hp => (h.ent p hp).later b, fun ad e => ⟨(h.new ad e).1, below_row b (h.new ad e).2⟩, h.ok⟩
theorem RnI.put {w : World} {g : Nat → Int} {m : Nat} {b off : Nat} {c : Nat} {R : List Mo} {k : Nat} {wr : World} {p : Mo} (h : RnI w g m (some ⟨b, off, none⟩) c R k wr) (hp : R[k]? = some p) (hpl : 0 ≤ p.1 ∧ p.1 < (m : Int)) :
    RnI w g m (some ⟨b, off, none⟩) c R (k + 1) (wr.setCell ⟨b, off + k * 4, none⟩ (.int .i64 (g p.1.toNat))) := by
  have hM := mixL_at g hp
  obtain ⟨b', off', e, hl, hc⟩ := h.sl.lies (fun e => by rw [e] at hM; simp at hM)
  obtain ⟨rfl, rfl⟩ : b = b' ∧ off = off' := by simpa using e
  have q0 := (hc k p hM).1
  refine ⟨h.bel.setCell (show w.heap.size ≤ b from (h.new _ rfl).1) _, ⟨?_, ?_, h.sl.nn⟩, ?_, fun ad e => ⟨(h.new ad e).1, (h.new ad e).2.setCell _ _⟩, ?_⟩
  · rw [mixL_succ g hp]
    exact h.sl.lies.ren hM
  · rw [mixL_length]
    have := h.sl.len
    rwa [mixL_length] at this
  · intro q hq
    rw [mixL_succ g hp] at hq
    rcases List.mem_or_eq_of_mem_set hq with hq | rfl
    · exact ⟨(h.ent q hq).ok.setI q0, (h.ent q hq).low⟩
    · have := h.ent p (List.mem_of_getElem? hM)
      exact ⟨this.ok.setI q0, this.low⟩
  · intro q hq
    rw [List.take_add_one, hp] at hq
    rcases List.mem_append.1 hq with hq | hq
    · exact h.ok q hq
    · simp at hq
      rw [hq]
      exact hpl
set_option maxHeartbeats 8000000 in
set_option maxRecDepth 100000 in
theorem lRename_is (a : Option Addr) (ca : Nat) (L : List Mo) (t : Option Addr) (ct m : Nat) (g : Nat → Int) (w : World) (hF : FAt w a L) (hok : ∀ p ∈ L, p.2.ok w ∧ p.2.m < 35184372087808) (hc : L.length ≤ ca) (hm : L.length ≤ 1048576) (hw : wts (fo L) ≤ 1073741824) (hI : IntsAt w t m g) (hmc : m ≤ ct) (hmm : m ≤ 1048576) :
    Calls Try.prog 4 #[.slice a L.length ca, .slice t m ct] w (RenA w m g (nfm (fo L))) := by
  have G1 := hide' (lNorm_new a ca L w hF (fun p hp => (hok p hp).1) hc hm (fun p hp => (hok p hp).2) (thin_of (by omega)))
  have hlen := nfm_length (fo L)
  rw [fo_length] at hlen
  have hwn := wts_nfm (fo L)
  obtain ⟨l, hl⟩ : ∃ l, nfm (fo L) = l := ⟨_, rfl⟩
  rw [hl] at G1 hlen hwn ⊢
  clear hl hF hok hc
  go_enter Try.func4, Try.ntmps4
  go_wp2_with fail
  refine G1.out.mono ?_
  rintro e w1 ⟨a2, c2, R, rfl, b1, s1, e1, f1, n1⟩
  clear G1
  have hRl : R.length ≤ 1048576 := by rw [← fo_length, f1]; omega
  have H0 : RnI w g m a2 c2 R 0 w1 := ⟨b1, by rw [mixL_zero]; exact s1, by rw [mixL_zero]; exact e1, n1, fun p hp => by simp at hp⟩
  clear b1 s1 e1 n1
  go_wp2_with fail
  go_loopw [13] (fun vi wr => ∃ k : Nat, k ≤ R.length ∧ vi = .int .i64 k ∧ RnI w g m a2 c2 R k wr) (fun vi _ => R.length - (intOf vi).toNat)
  case atStart => exact ⟨0, Nat.zero_le _, rfl, H0⟩
  case round =>
    clear H0
    obtain ⟨k, hk, rfl, hR⟩ := hrel
    by_cases hlt : k < R.length
    · obtain ⟨p, hp⟩ : ∃ p, R[k]? = some p := ⟨R[k], List.getElem?_eq_getElem hlt⟩
      have hM := mixL_at g hp
      obtain ⟨b, off, rfl, hbb, hcell⟩ := hR.sl.lies (fun e => by rw [e] at hM; simp at hM)
      obtain ⟨q0, q1, q2, q3⟩ := hcell k p hM
      clear hcell
      have i1 : (0 : Int) ≤ (k : Int) := by omega
      have i2 : (k : Int) < (R.length : Int) := by omega
      have hcl : R.length ≤ c2 := by have := hR.sl.len; rwa [mixL_length] at this
      obtain ⟨wN, hwN⟩ : ∃ wN, wr.alloc (.cells #[.int .i64 p.1, .bool p.2.s, .slice p.2.a p.2.n p.2.c, .slice p.2.b p.2.m p.2.e] 38) = wN := ⟨_, rfl⟩
      have bN : Below wr.heap.size wr wN := by subst hwN; exact below_alloc _
      have y0 : wN.cell? ⟨wr.heap.size, 0, none⟩ = some (.int .i64 p.1) := by subst hwN; go_simp
      have hRN := hR.later bN
      have q0N := below_cell bN q0
      by_cases hpl : 0 ≤ p.1 ∧ p.1 < (m : Int)
      · have P1 := hide' (fun w' => isPlace_in p.1 m w' hpl.1 hpl.2)
        obtain ⟨u, hu⟩ : ∃ u : Nat, p.1 = (u : Int) := ⟨p.1.toNat, by omega⟩
        have hum : u < m := by omega
        obtain ⟨bt, ot, rfl, _, hct⟩ := (hI.later hRN.bel) (by omega)
        have d0 := hct u hum
        clear hct
        have j1 : (0 : Int) ≤ (u : Int) := by omega
        have j2 : (u : Int) < (m : Int) := by omega
        have fz := fun o => (hRN.new _ rfl).2.frozen o
        have I1 := hide' (hRN.put hp hpl)
        rw [show p.1.toNat = u by omega] at I1
        rw [hu] at q0 y0 P1 hwN q0N
        clear hR hRN hpl
        go_wp2_with fail
        (try rw [hwN])
        refine (P1.out _).mono ?_
        rintro e w3 ⟨rfl, rfl⟩
        clear hwN
        go_wp2
        go_roundw
        case rel => exact ⟨k + 1, by omega, by go_num, I1.out⟩
        case measure => simp [intOf]; omega
      · have P1 := hide' (fun w' => isPlace_out p.1 m w' hpl)
        have hno : ¬ allp m l := fun h => hpl (by have h1 : (p.1, p.2.val) ∈ fo R := List.mem_map.2 ⟨p, List.mem_of_getElem? hp, rfl⟩; rw [f1] at h1; exact h _ h1)
        have hBN := hRN.bel
        clear hR hRN hpl
        go_wp2_with fail
        (try rw [hwN])
        refine (P1.out _).mono ?_
        rintro e w3 ⟨rfl, rfl⟩
        clear hwN
        go_wp2
        refine bodyPost_ret (v := .tuple #[.slice none 0 0, .int .i64 61]) (by rw [results_ttR rfl]; go_simp) rfl ?_
        exact Or.inr ⟨hno, rfl, hBN⟩
    · obtain rfl : k = R.length := by omega
      have i1 : ¬ (R.length : Int) < (R.length : Int) := by omega
      have hall : allp m l := fun q hq => by rw [← f1] at hq; obtain ⟨p, hp, rfl⟩ := List.mem_map.1 hq; exact hR.ok p (by rw [List.take_length]; exact hp)
      have s2 := hR.sl
      have e2 := hR.ent
      rw [mixL_all] at s2 e2
      have hB := hR.bel
      have hfo : fo (R.map (renp g)) = renf g l := by rw [fo_ren, f1]
      have hln : (R.map (renp g)).length = R.length := List.length_map _
      have G2 := hide' (collect_is _ (R.map (renp g)) a2 c2 wr (Nat.le_refl _) s2 e2 (by omega) (by rw [hfo, wts_ren]; omega))
      rw [hfo, hln] at G2
      clear hR s2 e2
      go_wp2_with fail
      refine G2.out.mono ?_
      rintro e w4 ⟨a4, c4, R4, rfl, b4, s4, e4, f4⟩
      go_wp2
      refine bodyPost_ret (v := .tuple #[.slice a4 R4.length c4, .int .i64 0]) (by rw [results_ttR rfl]; go_simp) rfl ?_
      exact Or.inl ⟨hall, a4, c4, R4, rfl, hB.trans (b4.mono hB.size), s4, e4, f4⟩
end Go.Proofs.Ytildhkefkeeflaa

namespace Go.Proofs.Ytildhkefkeeflaa
open Go.RowKit
set_option linter.unusedVariables false
set_option linter.unusedSimpArgs false

/-- what the reference's loop keeps -/
def VnI (w : World) (g : Nat → Int) (m : Nat) (R : List Mo) (k : Nat) (vt : Value) (wr : World) : Prop :=
  wr.ownsRow w.heap.size 38 4 vt k (cellsF ((R.take k).map (renp g))) ∧ Below w.heap.size w wr ∧ ∀ p ∈ R.take k, 0 ≤ p.1 ∧ p.1 < (m : Int)
set_option maxHeartbeats 8000000 in
set_option maxRecDepth 100000 in
theorem vlRename_is (a : Option Addr) (ca : Nat) (L : List Mo) (t : Option Addr) (ct m : Nat) (g : Nat → Int) (w : World) (hF : FAt w a L) (hok : ∀ p ∈ L, p.2.ok w ∧ p.2.n ≤ 1099511627776 ∧ p.2.m ≤ 1099511627776) (hc : L.length ≤ ca) (hm : L.length ≤ 1048576) (hw : wts (fo L) ≤ 1073741824) (hI : IntsAt w t m g) (hmc : m ≤ ct) (hmm : m ≤ 1048576) :
    Calls Try.prog 5 #[.slice a L.length ca, .slice t m ct] w (RenA w m g (nfm (fo L))) := by
  obtain ⟨i0, hi0, hzi0, hzi1, hzi2⟩ := info_parts info_Mono
  have G1 := hide' (vlNorm_is a ca L w hF hok hc hm (by omega))
  have hlen := nfm_length (fo L)
  rw [fo_length] at hlen
  have hwn := wts_nfm (fo L)
  have hszl : ∀ x, sz 1073741825 (co x (fo L)) := fun x => (co_sz x (fo L)).mono (by omega)
  obtain ⟨l0, hl0⟩ : ∃ l0, fo L = l0 := ⟨_, rfl⟩
  rw [hl0] at G1 hlen hwn hszl hw ⊢
  obtain ⟨l, hl⟩ : ∃ l, nfm l0 = l := ⟨_, rfl⟩
  rw [hl] at G1 hlen hwn ⊢
  clear hl0 hF hok hc
  go_enter Try.func5, Try.ntmps5
  go_wp2_with fail
  refine G1.out.mono ?_
  rintro e w1 ⟨a2, c2, R, rfl, b1, s1, e1, f1⟩
  clear G1
  have hns : ∀ p ∈ R, p.2.n ≤ 1073741825 ∧ p.2.m ≤ 1073741825 := fun p hp => by
    have h1 : (p.1, p.2.val) ∈ fo R := List.mem_map.2 ⟨p, hp, rfl⟩
    have h2 : co p.1 (fo R) = p.2.val := (show nrm (fo R) by rw [f1, ← hl]; exact nfm_nrm _).co_mem h1
    rw [f1, ← hl, nfm_co] at h2
    have h3 := hszl p.1
    rw [h2] at h3
    obtain ⟨z1, z2⟩ := low_ns (e1 p hp).low
    exact ⟨by rw [z1]; exact h3.1, by rw [z2]; exact h3.2⟩
  clear hszl
  clear hl
  have hRl : R.length ≤ 1048576 := by rw [← fo_length, f1]; omega
  replace hI := hI.later b1
  go_wp2_with fail
  go_loopw [7, 8] (fun vt vi wr => ∃ k : Nat, k ≤ R.length ∧ vi = .int .i64 k ∧ VnI w1 g m R k vt wr) (fun _ vi _ => R.length - (intOf vi).toNat)
  case atStart => exact ⟨0, Nat.zero_le _, rfl, World.ownsRow_nil _ _ _ _, Below.refl _ _, fun p hp => by simp at hp⟩
  case round =>
    obtain ⟨k, hk, rfl, hT, hBr, hpls⟩ := hrel
    by_cases hlt : k < R.length
    · obtain ⟨p, hp⟩ : ∃ p, R[k]? = some p := ⟨R[k], List.getElem?_eq_getElem hlt⟩
      obtain ⟨b, off, rfl, hbb, hcell⟩ := (s1.lies.later hBr) (fun e => by rw [e] at hp; simp at hp)
      obtain ⟨q0, q1, q2, q3⟩ := hcell k p hp
      clear hcell
      have i1 : (0 : Int) ≤ (k : Int) := by omega
      have i2 : (k : Int) < (R.length : Int) := by omega
      have hcl := s1.len
      obtain ⟨x, q⟩ := p
      simp only at q0 q1 q2 q3
      by_cases hx0 : x < 0
      · have hno : ¬ allp m l := fun h => by have h1 : (x, q.val) ∈ fo R := List.mem_map.2 ⟨(x, q), List.mem_of_getElem? hp, rfl⟩; rw [f1] at h1; have := (h _ h1).1; simp only at this; omega
        have hB9 := b1.trans (hBr.mono b1.size)
        go_wp2
        refine bodyPost_ret (v := .tuple #[.slice none 0 0, .int .i64 61]) (by rw [results_ttR rfl]; go_simp) rfl ?_
        exact Or.inr ⟨hno, rfl, hB9⟩
      · by_cases hxm : x ≥ (m : Int)
        · have hno : ¬ allp m l := fun h => by have h1 : (x, q.val) ∈ fo R := List.mem_map.2 ⟨(x, q), List.mem_of_getElem? hp, rfl⟩; rw [f1] at h1; have := (h _ h1).2; simp only at this; omega
          have hB9 := b1.trans (hBr.mono b1.size)
          go_wp2
          refine bodyPost_ret (v := .tuple #[.slice none 0 0, .int .i64 61]) (by rw [results_ttR rfl]; go_simp) rfl ?_
          exact Or.inr ⟨hno, rfl, hB9⟩
        · obtain ⟨u, rfl⟩ : ∃ u : Nat, x = (u : Int) := ⟨x.toNat, by omega⟩
          have hum : u < m := by omega
          obtain ⟨bt, ot, rfl, hbt, hct⟩ := (hI.later hBr) (by omega)
          have d0 := hct u hum
          clear hct
          have j1 : (0 : Int) ≤ (u : Int) := by omega
          have j2 : (u : Int) < (m : Int) := by omega
          have hsn : (R.take (k + 1)).map (renp g) = (R.take k).map (renp g) ++ [(g u, q)] := by rw [List.take_add_one, hp, List.map_append]; rfl
          have hpl2 : ∀ p ∈ R.take (k + 1), 0 ≤ p.1 ∧ p.1 < (m : Int) := fun p9 h9 => by rw [List.take_add_one, hp] at h9; rcases List.mem_append.1 h9 with h9 | h9; exact hpls p9 h9; (simp at h9; rw [h9]; exact ⟨j1, j2⟩)
          obtain ⟨Q, hQ⟩ : ∃ Q, (R.take k).map (renp g) = Q := ⟨_, rfl⟩
          rw [hQ] at hT hsn
          have hQl : Q.length = k := by rw [← hQ, List.length_map, List.length_take]; omega
          replace hQ := hide' hQ
          have hrowt := fun k9 hk9 => (hT.lt k9 hk9)
          have hsw := hBr.size
          have hbw : b < w1.heap.size ∧ bt < w1.heap.size := by
            obtain ⟨b9, o9, e9, h9, _⟩ := s1.lies (fun e => by rw [e] at hp; simp at hp)
            obtain ⟨b8, o8, e8, h8, _⟩ := hI (by omega)
            simp at e9 e8
            obtain ⟨rfl, rfl⟩ := e9
            obtain ⟨rfl, rfl⟩ := e8
            exact ⟨h9, h8⟩
          clear hpls hp
          go_wp2_with fail
          have bD : Below wr.heap.size wr wr.drew := (Below.refl _ _).drew
          have kq0 := below_cell bD q0
          have kq1 := below_cell bD q1
          have kq2 := below_cell bD q2
          have kq3 := below_cell bD q3
          have kd0 := below_cell bD d0
          replace hT := own_below hT bD
          replace hBr := hBr.trans (bD.mono hBr.size)
          refine wp_region_held_drew (S := fun w' => w'.cell? ⟨b, off + k * 4, none⟩ = some (.int .i64 (u : Int)) ∧ w'.cell? ⟨b, off + k * 4 + 1, none⟩ = some (.bool q.s) ∧ w'.cell? ⟨b, off + k * 4 + 2, none⟩ = some (.slice q.a q.n q.c) ∧ w'.cell? ⟨b, off + k * 4 + 3, none⟩ = some (.slice q.b q.m q.e) ∧ w'.cell? ⟨bt, ot + u, none⟩ = some (.int .i64 (g u))) (by kernel_rfl) ⟨kq0, kq1, kq2, kq3, kd0⟩ (fun hHeld => ?_)
          clear kq0 kq1 kq2 kq3 kd0
          generalize wr.drew = w0 at bD hT hBr hHeld ⊢
          clear q0 q1 q2 q3 d0
          refine take' 0 (v := ?_) rfl (by kernel_rfl) (by kernel_rfl) (by kernel_rfl) (fun _ _ _ h => h) (Or.inl ⟨by rfl, ?_⟩) (by assumption) ?_
          rotate_left
          · intro w9 hSw
            go_simp
            first | done | with_reducible rfl
          simp only [Act.put, List.setIfInBounds_toArray, List.set_cons_zero, List.set_cons_succ]
          refine take' 1 (v := ?_) rfl (by kernel_rfl) (by kernel_rfl) (by kernel_rfl) (fun _ _ _ h => h) (Or.inl ⟨by rfl, ?_⟩) (by assumption) ?_
          rotate_left
          · intro w9 hSw
            go_simp
            first | done | with_reducible rfl
          simp only [Act.put, List.setIfInBounds_toArray, List.set_cons_zero, List.set_cons_succ]
          refine take' 2 (v := ?_) rfl (by kernel_rfl) (by kernel_rfl) (by kernel_rfl) (fun _ _ _ h => h) (Or.inl ⟨by rfl, ?_⟩) (by assumption) ?_
          rotate_left
          · intro w9 hSw
            go_simp
            first | done | with_reducible rfl
          simp only [Act.put, List.setIfInBounds_toArray, List.set_cons_zero, List.set_cons_succ]
          refine take' 3 (v := ?_) rfl (by kernel_rfl) (by kernel_rfl) (by kernel_rfl) (fun _ _ _ h => h) (Or.inl ⟨by rfl, ?_⟩) (by assumption) ?_
          rotate_left
          · intro w9 hSw
            go_simp
            first | done | with_reducible rfl
          simp only [Act.put, List.setIfInBounds_toArray, List.set_cons_zero, List.set_cons_succ]
          refine take' 4 (v := ?_) rfl (by kernel_rfl) (by kernel_rfl) (by kernel_rfl) (fun _ _ _ h => h) (Or.inl ⟨by rfl, ?_⟩) (by assumption) ?_
          rotate_left
          · intro w9 hSw
            go_simp
            first | done | with_reducible rfl
          simp only [Act.put, List.setIfInBounds_toArray, List.set_cons_zero, List.set_cons_succ]
          refine take' 5 (v := ?_) rfl (by kernel_rfl) (by kernel_rfl) (by kernel_rfl) (fun _ _ _ h => h) (Or.inl ⟨by rfl, ?_⟩) (by assumption) ?_
          rotate_left
          · intro w9 hSw
            go_simp
            first | done | with_reducible rfl
          simp only [Act.put, List.setIfInBounds_toArray, List.set_cons_zero, List.set_cons_succ]
          refine take' 6 (v := ?_) rfl (by kernel_rfl) (by kernel_rfl) (by kernel_rfl) (fun _ _ _ h => h) (Or.inl ⟨by rfl, ?_⟩) (by assumption) ?_
          rotate_left
          · intro w9 hSw
            go_simp
            first | done | with_reducible rfl
          simp only [Act.put, List.setIfInBounds_toArray, List.set_cons_zero, List.set_cons_succ]
          refine take' 7 (v := ?_) rfl (by kernel_rfl) (by kernel_rfl) (by kernel_rfl) (fun _ _ _ h => h) (Or.inl ⟨by rfl, ?_⟩) (by assumption) ?_
          rotate_left
          · intro w9 hSw
            go_simp
            first | done | with_reducible rfl
          simp only [Act.put, List.setIfInBounds_toArray, List.set_cons_zero, List.set_cons_succ]
          refine take' 8 (v := ?_) rfl (by kernel_rfl) (by kernel_rfl) (by kernel_rfl) (fun _ _ _ h => h) (Or.inl ⟨by rfl, ?_⟩) (by assumption) ?_
          rotate_left
          · intro w9 hSw
            go_simp
            first | done | with_reducible rfl
          simp only [Act.put, List.setIfInBounds_toArray, List.set_cons_zero, List.set_cons_succ]
          refine take' 9 (v := ?_) rfl (by kernel_rfl) (by kernel_rfl) (by kernel_rfl) (fun _ _ _ h => h) (Or.inl ⟨by rfl, ?_⟩) (by assumption) ?_
          rotate_left
          · intro w9 hSw
            go_simp
            first | done | with_reducible rfl
          simp only [Act.put, List.setIfInBounds_toArray, List.set_cons_zero, List.set_cons_succ]
          refine take' 10 (v := ?_) rfl (by kernel_rfl) (by kernel_rfl) (by kernel_rfl) (fun _ _ _ h => h) (Or.inl ⟨by rfl, ?_⟩) (by assumption) ?_
          rotate_left
          · intro w9 hSw
            go_simp
            first | done | with_reducible rfl
          simp only [Act.put, List.setIfInBounds_toArray, List.set_cons_zero, List.set_cons_succ]
          refine take' 11 (v := ?_) rfl (by kernel_rfl) (by kernel_rfl) (by kernel_rfl) (fun _ _ _ h => h) (Or.inl ⟨by rfl, ?_⟩) (by assumption) ?_
          rotate_left
          · intro w9 hSw
            go_simp
            first | done | with_reducible rfl
          simp only [Act.put, List.setIfInBounds_toArray, List.set_cons_zero, List.set_cons_succ]
          refine take' 12 (v := ?_) rfl (by kernel_rfl) (by kernel_rfl) (by kernel_rfl) (fun _ _ _ h => h) (Or.inl ⟨by rfl, ?_⟩) (by assumption) ?_
          rotate_left
          · intro w9 hSw
            go_simp
            first | done | with_reducible rfl
          simp only [Act.put, List.setIfInBounds_toArray, List.set_cons_zero, List.set_cons_succ]
          refine take' 13 (v := ?_) rfl (by kernel_rfl) (by kernel_rfl) (by kernel_rfl) (fun _ _ _ h => h) (Or.inl ⟨by rfl, ?_⟩) (by assumption) ?_
          rotate_left
          · intro w9 hSw
            go_simp
            first | done | with_reducible rfl
          simp only [Act.put, List.setIfInBounds_toArray, List.set_cons_zero, List.set_cons_succ]
          refine take' 14 (v := ?_) rfl (by kernel_rfl) (by kernel_rfl) (by kernel_rfl) (fun _ _ _ h => h) (Or.inl ⟨by rfl, ?_⟩) (by assumption) ?_
          rotate_left
          · intro w9 hSw
            go_simp
            first | done | with_reducible rfl
          simp only [Act.put, List.setIfInBounds_toArray, List.set_cons_zero, List.set_cons_succ]
          refine wpAnyH_ready (rs := [15]) (by kernel_rfl) (by simp) ?_
          refine cons' rfl (fun KK hKK => ?_)
          go_simp
          have hnew := heap_alloc_new w0 (.cells #[.int .i64 (g u), .bool q.s, .slice q.a q.n q.c, .slice q.b q.m q.e] 38)
          have b3 := below_alloc (w := w0) (.cells #[.int .i64 (g u), .bool q.s, .slice q.a q.n q.c, .slice q.b q.m q.e] 38)
          generalize w0.alloc (.cells #[.int .i64 (g u), .bool q.s, .slice q.a q.n q.c, .slice q.b q.m q.e] 38) = w3 at hnew b3 ⊢
          replace hT := own_below hT b3
          replace hBr := hBr.trans (b3.mono hBr.size)
          replace hHeld := (⟨below_cell b3 hHeld.1, below_cell b3 hHeld.2.1, below_cell b3 hHeld.2.2.1, below_cell b3 hHeld.2.2.2.1, below_cell b3 hHeld.2.2.2.2⟩ : _ ∧ _ ∧ _ ∧ _ ∧ _)
          have s3 := b3.size
          clear b3
          refine hKK.out _ _ hHeld ?_
          clear hHeld
          intro hHeld
          clear hKK KK
          try simp only [Act.put, List.setIfInBounds_toArray, List.set_cons_zero, List.set_cons_succ]
          refine wpAnyH_ready (rs := [16]) (by kernel_rfl) (by simp) ?_
          refine cons' rfl (fun KK hKK => ?_)
          have sBr := hBr.size
          refine step_append_lies _ (by rfl) _ _ _ (by rfl) w1.heap.size 38 i0 _ 4 64 Try.underlying23 hi0 hzi0 hzi1 hzi2 rfl (by omega) u7 k (cellsF Q) (by rfl) hT ⟨w0.heap.size, 0, none⟩ 1 1 (cells4 (g u, q)) (by rfl) (by rfl) (World.news_of_block (cs := #[.int .i64 (g u), .bool q.s, .slice q.a q.n q.c, .slice q.b q.m q.e]) (t := 38) (fr := (0, 0)) hnew) (cells4_one _) (by omega) (by simp only [maxLen]; omega) (by omega) sBr w3.heap.size rfl ?_
          intro gb cap w4 hown4 hgrow hat hlt4
          have far : ∀ c9, c9 < w1.heap.size → some c9 ≠ u7.ownBlock := fun c9 h9 e9 => by have := (hrowt c9 e9.symm).1; omega
          replace hHeld := (⟨hgrow.cell hHeld.1 (far _ hbw.1), hgrow.cell hHeld.2.1 (far _ hbw.1), hgrow.cell hHeld.2.2.1 (far _ hbw.1), hgrow.cell hHeld.2.2.2.1 (far _ hbw.1), hgrow.cell hHeld.2.2.2.2 (far _ hbw.2)⟩ : _ ∧ _ ∧ _ ∧ _ ∧ _)
          have I1 := hide' (show VnI w1 g m R (k + 1) (.slice (some ⟨gb, 0, none⟩) (k + 1) cap) w4 from ⟨by rw [hsn]; have h := hown4; rw [← hQl] at h ⊢; have h2 := own_push h; rwa [List.length_append, show [(g u, q)].length = 1 from rfl] at h2, hBr.trans (below_grown hBr.size (fun k9 hk9 => (hrowt k9 hk9).1) hgrow), hpl2⟩)
          clear hown4 hgrow hat far hT hnew hBr
          refine hKK.out _ _ hHeld ?_
          clear hHeld
          intro hHeld
          clear hKK KK
          try simp only [Act.put, List.setIfInBounds_toArray, List.set_cons_zero, List.set_cons_succ]
          refine take' 17 (v := ?_) rfl (by kernel_rfl) (by kernel_rfl) (by kernel_rfl) (fun _ _ _ h => h) (Or.inl ⟨by rfl, ?_⟩) (by assumption) ?_
          rotate_left
          · intro w9 hSw
            go_simp
            first | done | with_reducible rfl
          simp only [Act.put, List.setIfInBounds_toArray, List.set_cons_zero, List.set_cons_succ]
          refine wpAnyH_done (by kernel_rfl) ?_ _
          go_wp2
          go_roundw
          case rel => exact ⟨k + 1, by omega, by go_num, I1.out⟩
          case measure => simp [intOf]; omega
    · obtain rfl : k = R.length := by omega
      have i1 : ¬ (R.length : Int) < (R.length : Int) := by omega
      rw [List.take_length] at hT hpls
      have hall : allp m l := fun q hq => by rw [← f1] at hq; obtain ⟨p, hp, rfl⟩ := List.mem_map.1 hq; exact hpls p hp
      have hln : (R.map (renp g)).length = R.length := List.length_map _
      rw [← hln] at hT
      obtain ⟨a3, c3, rfl, s3⟩ := Sl.of hT
      clear hT
      have hfo : fo (R.map (renp g)) = renf g l := by rw [fo_ren, f1]
      have G2 := hide' (vlNorm_is a3 c3 (R.map (renp g)) wr s3.lies (fun p hp => by obtain ⟨p0, hp0, rfl⟩ := List.mem_map.1 hp; have h1 := hns p0 hp0; exact ⟨(e1 p0 hp0).ok.later hBr, by show p0.2.n ≤ _; omega, by show p0.2.m ≤ _; omega⟩) s3.len (by omega) (by rw [hfo, wts_ren]; omega))
      rw [hfo, hln] at G2
      have hB := b1.trans (hBr.mono b1.size)
      go_wp2_with fail
      refine G2.out.mono ?_
      rintro e w4 ⟨a4, c4, R4, rfl, b4, s4, e4, f4⟩
      go_wp2
      refine bodyPost_ret (v := .tuple #[.slice a4 R4.length c4, .int .i64 0]) (by rw [results_ttR rfl]; go_simp) rfl ?_
      exact Or.inl ⟨hall, a4, c4, R4, rfl, hB.trans (b4.mono hB.size), s4, e4, f4⟩
end Go.Proofs.Ytildhkefkeeflaa
