/-
  LinearRenames.
-/
import Derived.Test.YtildhkefkeeflaaWRN2
import Derived.Test.YtildhkefkeeflaaWO7
import Derived.Test.YtildhkefkeeflaaOpenR
namespace Go.Proofs.Ytildhkefkeeflaa
open Go.ChangeShapes Go.WideShapes Go.ChangeAt Go.RowKit
set_option maxRecDepth 30000 in
theorem open_IntsL {H : Type} {enc : TypeId × Value → H} {W : World} {a : Option Addr} {len cap : Nat} {d : DataW H} {p : List MemPlace}
    (h : DataW.Trod enc Try.prog W 0 (fun _ => true) true 24 (.slice a len cap) d p) :
    ∃ g, IntsAt W a len g ∧ len ≤ cap ∧ len + 1 ≤ Rows.uptoBulk d := by
  obtain ⟨fuel, hf⟩ := h
  rcases open_ints Try.underlying24 Try.underlying3 (by kernel_rfl) hf with ⟨hcs, hx⟩ | ⟨x, l, c, zs, hcs, _, hl, hm, hz, hx, hcell, hwz⟩
  · simp [Value.cells] at hcs
    obtain ⟨rfl, rfl, rfl⟩ := hcs
    simp only [Prod.mk.injEq] at hx
    obtain ⟨rfl, rfl⟩ := hx
    exact ⟨fun _ => 0, fun h => absurd h (by omega), Nat.le_refl _, by simp [Rows.uptoBulk]⟩
  · simp [Value.cells] at hcs
    obtain ⟨rfl, rfl, rfl⟩ := hcs
    simp only [Prod.mk.injEq] at hx
    obtain ⟨rfl, rfl⟩ := hx
    simp only [if_true] at hz
    have hlen : (zs.take len).length = len := by simp; omega
    have hbulk : ∀ (l : List Int), l.length ≤ Rows.uptoBulkAll (lits (H := H) .i64 l) := by
      intro l
      induction l with
      | nil => simp [lits, Rows.uptoBulkAll]
      | cons z r ih => simp only [lits, List.map_cons, Rows.uptoBulkAll, Rows.uptoBulk, List.length_cons] at ih ⊢; omega
    refine ⟨fun i => zs.getD i 0, fun hn => ?_, hl, ?_⟩
    · obtain ⟨b, off, spot⟩ := x
      have hspot : spot = none := by simpa [Addr.add] using World.cell?_spot (hcell 0 (by omega))
      subst hspot
      have hc : ∀ i, i < len → W.cell? ⟨b, off + i, none⟩ = some (.int .i64 (zs.getD i 0)) := by
        intro i hi
        have h1 := hcell i (by omega)
        have ea : (Addr.mk b off none).add i = ⟨b, off + i, none⟩ := by unfold Addr.add; split <;> simp_all
        rw [ea] at h1
        exact h1
      refine ⟨b, off, rfl, ?_, hc⟩
      have := hc 0 hn
      obtain ⟨cur, e, fr, hb, _⟩ := Sort.cells_of_cell? this
      exact (Array.getElem?_eq_some_iff.1 hb).1
    · have := hbulk (zs.take len)
      simp only [Rows.uptoBulk]
      omega
end Go.Proofs.Ytildhkefkeeflaa
namespace Go.Proofs.Ytildhkefkeeflaa.linearRenames
open Go.ChangeShapes Go.WideShapes Go.ChangeAt Go.RowKit Go.Proofs.Ytildhkefkeeflaa
set_option linter.unusedVariables false
set_option linter.unusedSimpArgs false

set_option maxHeartbeats 4000000 in
set_option maxRecDepth 100000 in
theorem walkM (a : Option Addr) (ca : Nat) (L : List Mo) (t : Option Addr) (ct m : Nat) (g : Nat → Int) (w : World) (hF : FAt w a L) (hok : ∀ p ∈ L, p.2.ok w ∧ p.2.n ≤ 4194304 ∧ p.2.m ≤ 4194304) (hc : L.length ≤ ca) (hm : L.length ≤ 1048576) (hw : wts (fo L) ≤ 1073741824) (hI : IntsAt w t m g) (hmc : m ≤ ct) (hmm : m ≤ 1048576) :
    Calls Try.prog 3 #[.slice a L.length ca, .slice t m ct] w fun e w' => e = .returned (.bool true) ∧ Below w.heap.size w w' := by
  have G1 := hide' (lRename_is a ca L t ct m g w hF (fun p hp => ⟨(hok p hp).1, by have := (hok p hp).2; omega⟩) hc hm hw hI hmc hmm)
  have G2 := hide' (fun w' (hb : Below w.heap.size w w') => vlRename_is a ca L t ct m g w' (hF.later hb) (fun p hp => ⟨(hok p hp).1.later hb, by have := (hok p hp).2; omega⟩) hc hm hw (hI.later hb) hmc hmm)
  have hl1 := nfm_length (renf g (nfm (fo L)))
  have hl2 := nfm_length (fo L)
  rw [renf_length] at hl1
  rw [fo_length] at hl2
  obtain ⟨l, hl⟩ : ∃ l, nfm (fo L) = l := ⟨_, rfl⟩
  rw [hl] at G1 G2 hl1 hl2
  clear hF hok hc hw hI hmc hmm hl
  go_enter Try.func3, Try.ntmps3
  go_wp2_with fail
  refine G1.out.mono ?_
  rintro e w1 (⟨hp, a1, c1, R1, rfl, b1, s1, e1, f1⟩ | ⟨hp, rfl, b1⟩)
  · replace e1 : ∀ p ∈ R1, Ent w1 p := e1
    go_wp2_with fail
    refine (G2.out _ b1).mono ?_
    rintro e w2 (⟨_, a2, c2, R2, rfl, b2, s2, e2, f2⟩ | ⟨hp2, rfl, b2⟩)
    · have G3 := hide' (SameForm_is a1 c1 R1 a2 c2 R2 w2 (s1.lies.later b2) s2.lies (fun p hp => (e1 p hp).later b2) e2 s1.len s2.len (by rw [← fo_length, f1]; omega) (f1.trans f2.symm))
      have hB := b1.trans (b2.mono b1.size)
      clear s1 e1 f1 s2 e2 f2 b1 b2
      go_wp2_with fail
      refine G3.out.mono ?_
      rintro e w3 ⟨rfl, b3⟩
      go_wp2
      go_ret
      exact ⟨rfl, hB.trans (b3.mono hB.size)⟩
    · exact absurd hp hp2
  · go_wp2_with fail
    refine (G2.out _ b1).mono ?_
    rintro e w2 (⟨hp2, a2, c2, R2, rfl, b2, s2, e2, f2⟩ | ⟨_, rfl, b2⟩)
    · exact absurd hp2 hp
    · have G3 := hide' (SameForm_is none 0 [] none 0 [] w2 (FAt.nil _ _) (FAt.nil _ _) (fun p hp => absurd hp (by simp)) (fun p hp => absurd hp (by simp)) (Nat.le_refl _) (Nat.le_refl _) (by simp) rfl)
      rw [show ([] : List Mo).length = 0 from rfl] at G3
      have hB := b1.trans (b2.mono b1.size)
      go_wp2_with fail
      refine G3.out.mono ?_
      rintro e w3 ⟨rfl, b3⟩
      go_wp2
      go_ret
      exact ⟨rfl, hB.trans (b3.mono hB.size)⟩
theorem bulkL_app : ∀ (L M : List Mo), bulkL (L ++ M) = bulkL L + bulkL M
  | [], M => by simp [bulkL]
  | p :: L, M => by simp only [List.cons_append, bulkL, bulkL_app L M]; omega
theorem bulkL_mos (v : Nat → Int) (f : Nat → RatV) : ∀ n, bulkL (mos v f n) = bulkV f n + n
  | 0 => rfl
  | n + 1 => by
    unfold mos
    rw [List.range_succ, List.map_append, bulkL_app]
    have h := bulkL_mos v f n
    unfold mos at h
    rw [h]
    simp only [List.map, bulkL, bulkV]
    omega
theorem walk (af : Option Addr) (n capf : Nat) (v : Nat → Int) (f : Nat → RatV) (t : Option Addr) (m ct : Nat) (g : Nat → Int) (w : World) (hF : FormAt w af n v f) (hfo : ∀ i, i < n → (Lit.int .i64 (v i)).wf = true ∧ (f i).ok w) (hcf : n ≤ capf)
    (hI : IntsAt w t m g) (hmc : m ≤ ct) (hb : bulkV f n + m ≤ 1048576) :
    Calls Try.prog 3 #[.slice af n capf, .slice t m ct] w fun e w' => e = .returned (.bool true) ∧ Below w.heap.size w w' := by
  have b1 := bulk_n (q := f) n
  have hbm := bulkL_mos v f n
  have hk : ∀ p ∈ mos v f n, p.2.ok w ∧ p.2.n ≤ 4194304 ∧ p.2.m ≤ 4194304 := fun p hp => by
    obtain ⟨i, hi, rfl⟩ := mos_mem hp
    have := bulk_at (q := f) n i hi
    exact ⟨(hfo i hi).2, by show (f i).n ≤ _; omega, by show (f i).m ≤ _; omega⟩
  have hws := wts_bulk (mos v f n) (fun p hp => (hk p hp).1)
  have h := walkM af capf (mos v f n) t ct m g w (mos_at hF) hk (by rw [mos_length]; exact hcf) (by rw [mos_length]; omega) (by omega) hI hmc (by omega)
  rw [mos_length] at h
  exact h

set_option maxRecDepth 100000 in
theorem contract (H : Type) (enc : TypeId × Value → H) (W : World) (base : Nat) (args : Array Value) (ds gs : List (DataW H)) (before : List MemPlace)
    (hval : ∀ (j : Nat) t v, Try.f3.params[j]? = some t → args[j]? = some v → Value.okWide Try.prog W .any base t v)
    (hW : DataW.Whole enc Try.prog Try.f3.params.toList Rows.linearRenamesSpec.vars false W args.toList ds gs before)
    (hsz : (DataW.weightsEach Try.prog (Try.f3.params.toList ++ Rows.linearRenamesSpec.plain.varTypes Try.prog) (ds ++ gs)).all (· ≤ reachBytes) = true) (hk : Rows.uptoSmall H (ds ++ gs) = true) :
    Calls Try.prog 3 args W fun e W' => ∃ v, e = .returned v ∧ Rows.linearRenamesSpec.post enc Try.prog Try.f3 false true false false W args v W' := by
  have hW' := hW
  obtain ⟨p, q, hA0, hV, rfl, hfz, hnd⟩ := hW
  have hA : DataW.TrodAll enc Try.prog W 0 (fun _ => true) true Try.f3.params.toList args.toList ds p := hA0
  rw [Try.params3] at hA hval hsz
  obtain ⟨v0, vs0, d0, ds0, p0, q0, hargs, rfl, rfl, h0, r0⟩ := trodAll_cons hA
  obtain ⟨v1, vs1, d1, ds1, p1, q1, rfl, rfl, rfl, h1, r1⟩ := trodAll_cons r0
  obtain ⟨rfl, rfl, rfl⟩ := trodAll_nil r1
  obtain rfl : args = #[v0, v1] := by cases args; simp_all
  obtain ⟨rfl, rfl⟩ := trodVars_none hV
  have lt0 : ∀ x ∈ p0, x.block < W.heap.size := by obtain ⟨m, hm⟩ := h0; exact DataW.trod_lt m _ _ _ hm
  obtain ⟨xa0, xl0, xc0, rfl⟩ := okWide_slice Try.underlying23 (hval 0 23 v0 rfl rfl)
  obtain ⟨fu0, hm0⟩ := id h0
  obtain ⟨fa0, fn0, fc0, fv0, ff0, hcs0, hF0, hfo0, hfc0, hfz0, hfu0⟩ := open_Form hm0 (sized_at 0 hsz rfl rfl)
  simp [Value.cells] at hcs0
  obtain ⟨rfl, rfl, rfl⟩ := hcs0
  have lt1 : ∀ x ∈ p1, x.block < W.heap.size := by obtain ⟨m, hm⟩ := h1; exact DataW.trod_lt m _ _ _ hm
  obtain ⟨ia1, il1, ic1, rfl⟩ := okWide_slice Try.underlying24 (hval 1 24 v1 rfl rfl)
  obtain ⟨ig1, hI1, hIc1, hIu1⟩ := open_IntsL h1
  clear hA0
  have hbulk := of_decide_eq_true hk
  simp only [List.append_nil, Rows.uptoBulkAll] at hbulk
  simp only [List.append_nil] at hW'
  refine (walk xa0 xl0 xc0 fv0 ff0 ia1 il1 ic1 ig1 W hF0 hfo0 hfc0 hI1 hIc1 (by omega)).mono fun e W' ⟨he, bel⟩ => ?_
  subst he
  exact ⟨_, rfl, _, _, _, [], _, [], hW', trodAll_mk1 (shut_bool Try.underlying4 _), (trodAll_cons_mk (Below.trod laidOut (by kernel_rfl) (of_decide_eq_true (by kernel_rfl)) h0 bel lt0) (trodAll_cons_mk (Below.trod laidOut (by kernel_rfl) (of_decide_eq_true (by kernel_rfl)) h1 bel lt1) trodAll_mk0)), rfl, bel.frame _, fun h => by cases h⟩

set_option maxRecDepth 100000 in
theorem lifted (os : Os) (started : os.Started) (H : Type) (enc : TypeId × Value → H) (F : Stop.Interp) :
    ReturnsInHanded {} Try.checked os 3 .any ((Rows.OpenSpec.upto Rows.linearRenamesSpec).pre6 enc Try.prog Try.f3 Rows.linearRenamesUptoRow.domain false) (((Rows.OpenSpec.upto Rows.linearRenamesSpec).at F).post enc Try.prog Try.f3 false true false false) := by
  refine returnsInHanded_of_cond_sized (C := Try.checked) (s := Rows.OpenSpec.upto Rows.linearRenamesSpec) (k := Rows.uptoSmall) rfl own started (by kernel_rfl) Try.func3
    (OpenSpec.witness (enc := enc) (C := Try.checked) (s := Rows.OpenSpec.upto Rows.linearRenamesSpec) (k := Rows.uptoSmall) rfl false ⟨#[], #[.slice none 0 0, .slice none 0 0], []⟩ 8 (by kernel_rfl) (by kernel_rfl) (by kernel_rfl)
      (x := ([.nil, .nil], [], [])) (by kernel_rfl) rfl (by kernel_rfl)) ?_
  intro W base args ds gs before hval hW _ hk hsz _
  exact contract H enc W base args ds gs before hval hW hsz hk

theorem over : Rows.linearRenamesUptoRow.holds Try.pinned (Rows.OpenSpec.upto Rows.linearRenamesSpec) :=
  OpenClaim.holds_of_cond 3 Try.f3 rfl rfl rfl rfl rfl rfl rfl ⟨rfl, rfl, rfl, rfl, rfl⟩ rfl rfl rfl rfl rfl (by kernel_rfl) Try.func3 (by kernel_rfl)
    (of_decide_eq_true (by kernel_rfl)) (by unfold Func.isWrapper; first | (rw [if_pos (by decide +kernel)]; kernel_rfl) | (rw [if_neg (by decide +kernel)]; exact ⟨rfl, rfl⟩))
    (fun os started H enc _ F => lifted os started H enc F)

end Go.Proofs.Ytildhkefkeeflaa.linearRenames
namespace Go.Proofs.Ytildhkefkeeflaa
theorem linearRenames_holds : Rows.LinearRenamesUptoSaid := linearRenames.over
#print axioms linearRenames_holds
end Go.Proofs.Ytildhkefkeeflaa
