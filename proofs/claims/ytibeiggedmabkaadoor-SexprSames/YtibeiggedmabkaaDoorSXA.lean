/-
  The reader's take: tokens, one behind the other.
-/
import Derived.Test.YtibeiggedmabkaaDoorSX9
import Derived.Test.YtibeiggedmabkaaDoorTSB
namespace Go.Proofs.YtibeiggedmabkaaDoor
open Go.RowKit
set_option linter.unusedVariables false
set_option linter.unusedSimpArgs false
theorem buildB_one (s : BS) (T : Tok) : buildB s [T] = stepB s T := by
  simp only [buildB]
  cases stepB s T <;> rfl
theorem buildB_ok {s s2 : BS} {a : List Tok} (h : buildB s a = .ok s2) (T : Tok) : buildB s (a ++ [T]) = stepB s2 T := by
  rw [buildB_app, h]
  exact buildB_one s2 T
theorem buildB_bad {s s2 : BS} {a : List Tok} {c q : Int} (h : buildB s a = .bad s2 c q) (b : List Tok) : buildB s (a ++ b) = .bad s2 c q := by
  rw [buildB_app, h]
theorem take_snoc {ts : List Tok} {k : Nat} (h : k < ts.length) : ts.take (k + 1) = ts.take k ++ [ts[k]] := by
  rw [List.take_add_one, List.getElem?_eq_getElem h]
  rfl
/-- what take answers -/
def TakeE (w0 : World) (base b : Nat) (p : Option Addr) (en : Bool) (er pl : Int) (gl0 : Nat) (lv0 : List Lv) (P0 : Nat → Prop) (B : Nat) (x : BR) (e apl : Int) (r : Ending) (w' : World) : Prop :=
  match x with
  | .ok s2 => r = (if e = 0 then .returned (.tuple #[]) else .panicked (flt e apl)) ∧ RdS w0 base b p en er pl gl0 lv0 P0 B w' s2
  | .bad s2 c q => r = .panicked (flt c q) ∧ RdS w0 base b p en er pl gl0 lv0 P0 B w' s2
theorem run_field2 (v0 v1 v2 v3 v4 v5 : Value) (w : World) : (Instr.field 32 (.agg #[v0, v1, v2, v3, v4, v5]) 2).run Tryd.prog w = .ok v2 w := by kernel_rfl
set_option maxHeartbeats 8000000 in
set_option maxRecDepth 100000 in
theorem rtake {w : World} {base b : Nat} {p : Option Addr} {en : Bool} {er pl : Int} {gl0 c0 : Nat} {lv0 : List Lv} {P0 : Nat → Prop} {B : Nat} {s : BS} (h : RdAt w base b p en er pl gl0 c0 P0 lv0) (hr : RelB lv0 s) (h6 : ∀ x ∈ lv0, x.K.length ≤ B) (v : Value) (ts : List Tok) (base2 : Nat) (hv : w.ownsRow base2 32 6 v ts.length (tokCells ts)) (hvx : ∀ g, v.ownBlock = some g → ¬ RdX b gl0 lv0 g) (hB : B + ts.length ≤ 1000000000) (e apl : Int) (hat : e ≠ 0 → ∃ q : Addr, p = some q ∧ ∀ wr, Kp (RdX b gl0 lv0) w wr → Calls Tryd.prog 43 #[.pointer (some q)] wr fun r w' => ∃ c0 c1 c3 c4 c5, r = .returned (.agg #[c0, c1, .int .i64 apl, c3, c4, c5]) ∧ Below wr.heap.size wr w') :
    Calls Tryd.prog 32 #[.pointer (some ⟨b, 0, none⟩), v, .int .i64 e] w fun r w' => TakeE w base b p en er pl gl0 lv0 P0 (B + ts.length) (buildB s ts) e apl r w' := by
  obtain ⟨a0, cv, ev⟩ := own_sl hv
  subst ev
  have HI : RdS w base b p en er pl gl0 lv0 P0 B w s := ⟨gl0, c0, P0, lv0, h, hr, Kp.refl _ _, fun k hk _ => hk, fun g hg => Or.inl hg, h6⟩
  have HV := hideT hv
  have HVX := hideT hvx
  have HAT := hideT hat
  clear hv hvx hat h hr h6
  have H0 := hideT HI
  clear HI
  go_enter Tryd.func32, Tryd.ntmps32
  go_wp2_with fail
  go_loopw [10] (fun i wr => ∃ (k : Nat) (sk : BS), k ≤ ts.length ∧ i = .int .i64 k ∧ buildB s (ts.take k) = .ok sk ∧ RdS w base b p en er pl gl0 lv0 P0 (B + k) wr sk) (fun i wr => ts.length - (intOf i).toNat)
  case atStart => exact ⟨0, s, Nat.zero_le _, rfl, rfl, H0.out⟩
  case round =>
    clear H0
    obtain ⟨k, sk, hk, rfl, hbk, hs⟩ := hrel
    have HBK := hideT hbk
    clear hbk
    by_cases hlt : k < ts.length
    · have hki : ((k : Int) < (ts.length : Int)) := by omega
      have hvr : wr.ownsRow base2 32 6 (.slice a0 ts.length cv) ts.length (tokCells ts) := by obtain ⟨_, _, _, _, _, _, kk, _⟩ := hs; exact own_kp HV.out kk (fun g hg c => HVX.out g hg c)
      rcases hvr.2 with ⟨_, h0⟩ | ⟨g1, p1, r1, hv1, _⟩
      · omega
      injection hv1 with hv1 _ hc1
      subst hv1
      obtain ⟨t, ht⟩ : ∃ t, ts[k] = t := ⟨_, rfl⟩
      have z0 := own_tok hvr k 0 hlt (by decide)
      have z1 := own_tok hvr k 1 hlt (by decide)
      have z2 := own_tok hvr k 2 hlt (by decide)
      have z3 := own_tok hvr k 3 hlt (by decide)
      have z4 := own_tok hvr k 4 hlt (by decide)
      have z5 := own_tok hvr k 5 hlt (by decide)
      rw [ht] at z0 z1 z2 z3 z4 z5
      simp only [Tok.cells, List.getElem?_toArray, List.getElem?_cons_zero, List.getElem?_cons_succ] at z0 z1 z2 z3 z4 z5
      rw [Nat.add_zero] at z0
      have HT := hideT ht
      have HK := hideT hlt
      clear ht hvr hc1
      have bA := below_alloc (w := wr) (.cells #[.int .i64 t.k, .string t.t, .int .i64 t.b, .int .i64 t.e, .int .i64 t.l, .int .i64 t.c] 32)
      have qA := Blk.new wr #[.int .i64 t.k, .string t.t, .int .i64 t.b, .int .i64 t.e, .int .i64 t.l, .int .i64 t.c] 32
      have hs2 := hs.later bA
      have HS := hideT hs2
      clear hs bA hs2
      go_upto_region 3 with fail
      generalize wr.alloc (.cells #[.int .i64 t.k, .string t.t, .int .i64 t.b, .int .i64 t.e, .int .i64 t.l, .int .i64 t.c] 32) = W at qA HS ⊢
      clear z0 z1 z2 z3 z4 z5
      have x0 := qA.cell 0
      have x1 := qA.cell 1
      have x2 := qA.cell 2
      have x3 := qA.cell 3
      have x4 := qA.cell 4
      have x5 := qA.cell 5
      simp only [Tok.cells, List.getElem?_toArray, List.getElem?_cons_zero, List.getElem?_cons_succ] at x0 x1 x2 x3 x4 x5
      by_cases hk1 : t.k = 1
      · have xk : ((t.k : Int) == 1) = true := by rw [beq_iff_eq]; omega
        have HK1 := hideT hk1
        clear hk1
        have G := hideT (sopen HS.out t HK1.out (by omega))
        go_wp2_with fail
        refine G.out.mono ?_
        rintro r w2 hr
        clear G
        rcases hst : stepB sk t with s2 | ⟨s2, cc, qq⟩
        · rw [hst] at hr
          obtain ⟨rfl, hr2⟩ := hr
          have HR := hideT hr2
          have HST := hideT hst
          clear hr2 hst
          go_wp2
          go_roundw
          case rel => exact ⟨k + 1, s2, HK.out, by go_num, by rw [take_snoc HK.out, HT.out, buildB_ok HBK.out t]; exact HST.out, HR.out⟩
          case measure => simp [intOf]; have := HK.out; omega
        · rw [hst] at hr
          obtain ⟨rfl, hr2⟩ := hr
          have HR := hideT hr2
          have HST := hideT hst
          clear hr2 hst
          go_wp2
          have hb2 : buildB s ts = .bad s2 cc qq := by have e := buildB_ok HBK.out t; rw [HST.out, ← HT.out, ← take_snoc HK.out] at e; have := buildB_bad e (ts.drop (k + 1)); rwa [List.take_append_drop] at this
          refine ⟨rfl, ?_⟩
          rw [hb2]
          exact ⟨rfl, HR.out.mono (by have := HK.out; omega)⟩
      · have xk : ((t.k : Int) == 1) = false := by rw [beq_eq_false_iff_ne]; omega
        by_cases hk2 : t.k = 2
        · have xk2 : ((t.k : Int) == 2) = true := by rw [beq_iff_eq]; omega
          have HK1 := hideT hk2
          clear hk1 hk2
          have G := hideT (sshut HS.out t HK1.out (by omega))
          go_wp2_with fail
          refine G.out.mono ?_
          rintro r w2 hr
          clear G
          rcases hst : stepB sk t with s2 | ⟨s2, cc, qq⟩
          · rw [hst] at hr
            obtain ⟨rfl, hr2⟩ := hr
            have HR := hideT hr2
            have HST := hideT hst
            clear hr2 hst
            go_wp2
            go_roundw
            case rel => exact ⟨k + 1, s2, HK.out, by go_num, by rw [take_snoc HK.out, HT.out, buildB_ok HBK.out t]; exact HST.out, HR.out⟩
            case measure => simp [intOf]; have := HK.out; omega
          · rw [hst] at hr
            obtain ⟨rfl, hr2⟩ := hr
            have HR := hideT hr2
            have HST := hideT hst
            clear hr2 hst
            go_wp2
            have hb2 : buildB s ts = .bad s2 cc qq := by have e := buildB_ok HBK.out t; rw [HST.out, ← HT.out, ← take_snoc HK.out] at e; have := buildB_bad e (ts.drop (k + 1)); rwa [List.take_append_drop] at this
            refine ⟨rfl, ?_⟩
            rw [hb2]
            exact ⟨rfl, HR.out.mono (by have := HK.out; omega)⟩
        · have xk2 : ((t.k : Int) == 2) = false := by rw [beq_eq_false_iff_ne]; omega
          have HK1 := hideT hk1
          have HK2 := hideT hk2
          clear hk1 hk2
          have G := hideT (sput HS.out t HK1.out HK2.out (by omega))
          go_wp2_with fail
          refine G.out.mono ?_
          rintro r w2 hr
          clear G
          rcases hst : stepB sk t with s2 | ⟨s2, cc, qq⟩
          · rw [hst] at hr
            obtain ⟨rfl, hr2⟩ := hr
            have HR := hideT hr2
            have HST := hideT hst
            clear hr2 hst
            go_wp2
            go_roundw
            case rel => exact ⟨k + 1, s2, HK.out, by go_num, by rw [take_snoc HK.out, HT.out, buildB_ok HBK.out t]; exact HST.out, HR.out⟩
            case measure => simp [intOf]; have := HK.out; omega
          · rw [hst] at hr
            obtain ⟨rfl, hr2⟩ := hr
            have HR := hideT hr2
            have HST := hideT hst
            clear hr2 hst
            go_wp2
            have hb2 : buildB s ts = .bad s2 cc qq := by have e := buildB_ok HBK.out t; rw [HST.out, ← HT.out, ← take_snoc HK.out] at e; have := buildB_bad e (ts.drop (k + 1)); rwa [List.take_append_drop] at this
            refine ⟨rfl, ?_⟩
            rw [hb2]
            exact ⟨rfl, HR.out.mono (by have := HK.out; omega)⟩
    · have hki : ¬ ((k : Int) < (ts.length : Int)) := by omega
      have ek : k = ts.length := by omega
      subst ek
      have hbk := HBK.out
      rw [List.take_length] at hbk
      have HB2 := hideT hbk
      clear HBK hbk
      by_cases he : e = 0
      · have xe : (e == 0) = true := by rw [beq_iff_eq]; exact he
        have HS := hideT hs
        have HE := hideT he
        clear hs
        subst he
        go_wp2
        first | go_end0 | skip
        rw [HB2.out]
        exact ⟨by rw [if_pos rfl], HS.out⟩
      · have xe : (e == 0) = false := by rw [beq_eq_false_iff_ne]; exact he
        obtain ⟨q, ep, hq⟩ := HAT.out he
        subst ep
        have y0 : wr.cell? ⟨b, 0, none⟩ = some (.pointer (some q)) := by obtain ⟨_, _, _, _, hh, _⟩ := hs; have y := hh.blk.cell 0; simpa [rdC] using y
        have G := hideT (hq wr (by obtain ⟨_, _, _, _, _, _, kk, _⟩ := hs; exact kk))
        have HS := hideT hs
        have HE := hideT he
        clear hs hq he
        go_wp2_with fail
        refine G.out.mono ?_
        rintro r w2 ⟨d0, d1, d3, d4, d5, rfl, hb⟩
        have HS2 := hideT (HS.out.later hb)
        clear hb
        have hfd := run_field2 d0 d1 (.int .i64 apl) d3 d4 d5
        go_wp2
        refine ⟨rfl, ?_⟩
        rw [HB2.out]
        exact ⟨by rw [if_neg HE.out]; rfl, HS2.out⟩

end Go.Proofs.YtibeiggedmabkaaDoor
