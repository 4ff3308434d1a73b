/-
  End; At of a scanner that failed.
-/
import Derived.Test.YtibeiggedmabkaaDoorTS8
import Derived.Laws.AppendOwnNone
namespace Go.Proofs.YtibeiggedmabkaaDoor
open Go.RowKit
set_option linter.unusedVariables false
set_option linter.unusedSimpArgs false

/-- what End tells, and its error -/
def endP (p : PS) : List Tok × Int :=
  if p.st = 8 ∨ p.st = 21 then ([], 121) else if kindN p.st ≠ 0 then ([p.tok p.rd], 0) else if 4 < p.st then ([], 120) else ([], 0)
/-- a list of one token -/
theorem own_one {w : World} {base : Nat} {t : Tok} (hb : base ≤ w.heap.size) : (w.alloc (.cells t.cells.toArray 32)).ownsRow base 32 6 (.slice (some ⟨w.heap.size, 0, none⟩) 1 1) [t].length (tokCells [t]) := by
  refine ⟨by rw [tokCells_len], Or.inr ⟨w.heap.size, 1, _, rfl, hb, heap_alloc_new w _, Nat.le_refl _, by simp only [maxLen]; omega, rfl, rfl⟩⟩
/-- a list of tokens behind another one -/
theorem wpList_app_toks {w : World} {ops : Array Oper} {rest : List Oper} {o : Oper} {a : Act} {Q : Exit → Act → World → Prop} (hgd : o.guard = none) (sl x : Operand) (ho : o.op = .call { callee := .builtin .append, args := #[sl, x], argTypes := #[69, 69] })
    (base base2 : Nat) (v v2 : Value) (T T2 : List Tok) (hs : a.eval sl = v) (hown : w.ownsRow base 32 6 v T.length (tokCells T)) (hx : a.eval x = v2) (hown2 : w.ownsRow base2 32 6 v2 T2.length (tokCells T2)) (hn2 : T2 = [] → v2 = .slice none 0 0) (hlen : T.length + T2.length ≤ 100000000000) (hbase : base ≤ w.heap.size)
    (h : ∀ v' w', w'.ownsRow base 32 6 v' (T ++ T2).length (tokCells (T ++ T2)) → w.grownBy w' v.ownBlock → (T ++ T2 = [] → v' = v) → wpList Tryd.prog ops Q rest (a.put o.dst v') w') : wpList Tryd.prog ops Q (o :: rest) a w := by
  obtain ⟨i0, hi0, hz0, hz1, hz2⟩ := info_parts info_Tok
  by_cases h2 : T2 = []
  · refine wpList_append_own_none hgd sl x 69 ho base 32 i0 6 Tryd.underlying69 hi0 v T.length (tokCells T) hs hown (by rw [hx]; exact hn2 h2) ?_
    subst h2
    exact h v w (by rw [List.append_nil]; exact hown) ⟨rfl, rfl, rfl, Nat.le_refl _, fun _ _ _ => rfl⟩ (fun _ => rfl)
  · have hl2 : 0 < T2.length := List.length_pos_iff.2 h2
    rcases hown2.2 with ⟨_, h0⟩ | ⟨g, cap, cur, hv, _⟩
    · omega
    · have hc := hown2.cells (g := g) (by rw [hv]; rfl)
      refine wpList_append_lies w hgd sl x 69 ho base 32 i0 _ 6 56 Tryd.underlying69 hi0 hz0 hz1 hz2 rfl (by omega) v T.length (tokCells T) hs hown ⟨g, 0, none⟩ T2.length cap (tokCells T2) (by rw [hx]; exact hv) (tokCells_len T2) hc (fun u hu => ?_) hl2 (by simp only [maxLen]; omega) (by omega) hbase w.heap.size rfl ?_
      · obtain ⟨t, _, hu⟩ := List.mem_flatMap.1 hu
        simp only [Tok.cells, List.mem_cons, List.not_mem_nil, or_false] at hu
        rcases hu with rfl | rfl | rfl | rfl | rfl | rfl <;> simp [Value.oneCell']
      · intro g2 cap2 w' o2 gr _ _
        exact h _ w' (by rw [List.length_append, tokCells_app]; exact o2) gr (fun e => absurd (List.append_eq_nil_iff.1 e).2 h2)

set_option maxHeartbeats 4000000 in
set_option maxRecDepth 100000 in
theorem end_bars (base b : Nat) (S : Scan) (p : PS) (w : World) (h : ScAt w base b S) (hbase : base ≤ w.heap.size) (hR : RelS S p) (hi : Inv p) (hsz : p.rd ≤ 4294967280) (hbuf : p.buf.length ≤ p.rd) (hM : MaxL w) (hp : p.st = 8) : Calls Tryd.prog 37 #[.pointer (some ⟨b, 0, none⟩)] w fun e w' => ∃ v, e = .returned (.tuple #[v, .int .i64 (endP p).2]) ∧ w'.ownsRow w.heap.size 32 6 v (endP p).1.length (tokCells (endP p).1) ∧ Kp (Scan.rows b S.cv) w w' ∧ (∃ S2, ScAt w' base b S2 ∧ ((endP p).2 ≠ 0 → S2.st = 2 ∧ S2.bB = p.bB ∧ S2.bE = p.bB ∧ S2.bL = p.bL ∧ S2.bC = p.bC)) ∧ ((endP p).1 = [] → v = .slice none 0 0) := by
  have hst : 3 ≤ S.st := by rw [hR.st]; have := hi.wt; simp only [waits, List.mem_cons, List.not_mem_nil, or_false] at this; omega
  have h22 : p.st ≤ 22 := by have := hi.wt; simp only [waits, List.mem_cons, List.not_mem_nil, or_false] at this; omega
  have GR := hideT (refusesS base b S w h hst)
  have y0 := h.cell 0
  have y2 := h.cell 2
  have y3 := h.cell 3
  have y4 := h.cell 4
  have y5 := h.cell 5
  have y6 := h.cell 6
  have y7 := h.cell 7
  simp only [Scan.cells, List.getElem?_toArray, List.getElem?_cons_zero, List.getElem?_cons_succ] at y0 y2 y3 y4 y5 y6 y7
  rw [hR.st] at y0
  have he : endP p = ([], 121) := by unfold endP; rw [if_pos (by omega)]
  rw [he]
  have x8 : (((p.st : Nat) : Int) == 8) = true := by rw [beq_iff_eq]; omega
  have GF := hideT (failS base b S w h 121 S.bB S.bE S.bL S.bC)
  have HP := hideT (hR.hi (by omega)).2
  clear he hp
  go_enter Tryd.func37, Tryd.ntmps37
  go_wp2_with fail
  refine GR.out.mono ?_
  rintro e w1 ⟨rfl, rfl⟩
  go_wp2_with fail
  refine GF.out.mono ?_
  rintro e w2 ⟨rfl, s2, k2⟩
  go_wp2
  refine bodyPost_ret (v := .tuple #[.slice none 0 0, .int .i64 121]) (by rw [results_ttB rfl]; rfl) rfl ?_
  exact ⟨_, rfl, World.ownsRow_nil _ _ _ _, k2, ⟨_, s2, fun _ => ⟨rfl, HP.out⟩⟩, fun _ => rfl⟩

set_option maxHeartbeats 4000000 in
set_option maxRecDepth 100000 in
theorem end_str (base b : Nat) (S : Scan) (p : PS) (w : World) (h : ScAt w base b S) (hbase : base ≤ w.heap.size) (hR : RelS S p) (hi : Inv p) (hsz : p.rd ≤ 4294967280) (hbuf : p.buf.length ≤ p.rd) (hM : MaxL w) (hp : p.st = 21) : Calls Tryd.prog 37 #[.pointer (some ⟨b, 0, none⟩)] w fun e w' => ∃ v, e = .returned (.tuple #[v, .int .i64 (endP p).2]) ∧ w'.ownsRow w.heap.size 32 6 v (endP p).1.length (tokCells (endP p).1) ∧ Kp (Scan.rows b S.cv) w w' ∧ (∃ S2, ScAt w' base b S2 ∧ ((endP p).2 ≠ 0 → S2.st = 2 ∧ S2.bB = p.bB ∧ S2.bE = p.bB ∧ S2.bL = p.bL ∧ S2.bC = p.bC)) ∧ ((endP p).1 = [] → v = .slice none 0 0) := by
  have hst : 3 ≤ S.st := by rw [hR.st]; have := hi.wt; simp only [waits, List.mem_cons, List.not_mem_nil, or_false] at this; omega
  have h22 : p.st ≤ 22 := by have := hi.wt; simp only [waits, List.mem_cons, List.not_mem_nil, or_false] at this; omega
  have GR := hideT (refusesS base b S w h hst)
  have y0 := h.cell 0
  have y2 := h.cell 2
  have y3 := h.cell 3
  have y4 := h.cell 4
  have y5 := h.cell 5
  have y6 := h.cell 6
  have y7 := h.cell 7
  simp only [Scan.cells, List.getElem?_toArray, List.getElem?_cons_zero, List.getElem?_cons_succ] at y0 y2 y3 y4 y5 y6 y7
  rw [hR.st] at y0
  have he : endP p = ([], 121) := by unfold endP; rw [if_pos (by omega)]
  rw [he]
  have x8 : (((p.st : Nat) : Int) == 8) = false := by rw [beq_eq_false_iff_ne]; omega
  have x21 : (((p.st : Nat) : Int) == 21) = true := by rw [beq_iff_eq]; omega
  have GF := hideT (failS base b S w h 121 S.bB S.bE S.bL S.bC)
  have HP := hideT (hR.hi (by omega)).2
  clear he hp
  go_enter Tryd.func37, Tryd.ntmps37
  go_wp2_with fail
  refine GR.out.mono ?_
  rintro e w1 ⟨rfl, rfl⟩
  go_wp2_with fail
  refine GF.out.mono ?_
  rintro e w2 ⟨rfl, s2, k2⟩
  go_wp2
  refine bodyPost_ret (v := .tuple #[.slice none 0 0, .int .i64 121]) (by rw [results_ttB rfl]; rfl) rfl ?_
  exact ⟨_, rfl, World.ownsRow_nil _ _ _ _, k2, ⟨_, s2, fun _ => ⟨rfl, HP.out⟩⟩, fun _ => rfl⟩

set_option maxHeartbeats 4000000 in
set_option maxRecDepth 100000 in
theorem end_part (base b : Nat) (S : Scan) (p : PS) (w : World) (h : ScAt w base b S) (hbase : base ≤ w.heap.size) (hR : RelS S p) (hi : Inv p) (hsz : p.rd ≤ 4294967280) (hbuf : p.buf.length ≤ p.rd) (hM : MaxL w) (h8 : p.st ≠ 8) (h21 : p.st ≠ 21) (hk : kindN p.st = 0) (h4 : 4 < p.st) : Calls Tryd.prog 37 #[.pointer (some ⟨b, 0, none⟩)] w fun e w' => ∃ v, e = .returned (.tuple #[v, .int .i64 (endP p).2]) ∧ w'.ownsRow w.heap.size 32 6 v (endP p).1.length (tokCells (endP p).1) ∧ Kp (Scan.rows b S.cv) w w' ∧ (∃ S2, ScAt w' base b S2 ∧ ((endP p).2 ≠ 0 → S2.st = 2 ∧ S2.bB = p.bB ∧ S2.bE = p.bB ∧ S2.bL = p.bL ∧ S2.bC = p.bC)) ∧ ((endP p).1 = [] → v = .slice none 0 0) := by
  have hst : 3 ≤ S.st := by rw [hR.st]; have := hi.wt; simp only [waits, List.mem_cons, List.not_mem_nil, or_false] at this; omega
  have h22 : p.st ≤ 22 := by have := hi.wt; simp only [waits, List.mem_cons, List.not_mem_nil, or_false] at this; omega
  have GR := hideT (refusesS base b S w h hst)
  have y0 := h.cell 0
  have y2 := h.cell 2
  have y3 := h.cell 3
  have y4 := h.cell 4
  have y5 := h.cell 5
  have y6 := h.cell 6
  have y7 := h.cell 7
  simp only [Scan.cells, List.getElem?_toArray, List.getElem?_cons_zero, List.getElem?_cons_succ] at y0 y2 y3 y4 y5 y6 y7
  rw [hR.st] at y0
  have he : endP p = ([], 120) := by unfold endP; rw [if_neg (by omega), if_neg (by omega), if_pos (by omega)]
  rw [he]
  have x8 : (((p.st : Nat) : Int) == 8) = false := by rw [beq_eq_false_iff_ne]; omega
  have x21 : (((p.st : Nat) : Int) == 21) = false := by rw [beq_eq_false_iff_ne]; omega
  have GK := hideT (kind_is p.st (by rw [← hR.st]; exact hst) h22 w)
  rw [hk] at GK
  have GB := hideT (begunS base b S w h true (by rw [hR.st]; simp; omega))
  have GF := hideT (failS base b S w h 120 S.bB S.bE S.bL S.bC)
  have HP := hideT (hR.hi h4).2
  have fz := fun o => h.blk.frozen o
  clear he
  go_enter Tryd.func37, Tryd.ntmps37
  go_wp2_with fail
  refine GR.out.mono ?_
  rintro e w1 ⟨rfl, rfl⟩
  go_wp2_with fail
  refine GK.out.mono ?_
  rintro e w2 ⟨rfl, rfl⟩
  go_wp2_with fail
  refine GB.out.mono ?_
  rintro e w3 ⟨rfl, rfl⟩
  go_wp2_with fail
  refine GF.out.mono ?_
  rintro e w4 ⟨rfl, s2, k2⟩
  go_wp2
  refine bodyPost_ret (v := .tuple #[.slice none 0 0, .int .i64 120]) (by rw [results_ttB rfl]; rfl) rfl ?_
  exact ⟨_, rfl, World.ownsRow_nil _ _ _ _, k2, ⟨_, s2, fun _ => ⟨rfl, HP.out⟩⟩, fun _ => rfl⟩

set_option maxHeartbeats 4000000 in
set_option maxRecDepth 100000 in
theorem end_none (base b : Nat) (S : Scan) (p : PS) (w : World) (h : ScAt w base b S) (hbase : base ≤ w.heap.size) (hR : RelS S p) (hi : Inv p) (hsz : p.rd ≤ 4294967280) (hbuf : p.buf.length ≤ p.rd) (hM : MaxL w) (hk : kindN p.st = 0) (h4 : ¬ 4 < p.st) : Calls Tryd.prog 37 #[.pointer (some ⟨b, 0, none⟩)] w fun e w' => ∃ v, e = .returned (.tuple #[v, .int .i64 (endP p).2]) ∧ w'.ownsRow w.heap.size 32 6 v (endP p).1.length (tokCells (endP p).1) ∧ Kp (Scan.rows b S.cv) w w' ∧ (∃ S2, ScAt w' base b S2 ∧ ((endP p).2 ≠ 0 → S2.st = 2 ∧ S2.bB = p.bB ∧ S2.bE = p.bB ∧ S2.bL = p.bL ∧ S2.bC = p.bC)) ∧ ((endP p).1 = [] → v = .slice none 0 0) := by
  have hst : 3 ≤ S.st := by rw [hR.st]; have := hi.wt; simp only [waits, List.mem_cons, List.not_mem_nil, or_false] at this; omega
  have h22 : p.st ≤ 22 := by have := hi.wt; simp only [waits, List.mem_cons, List.not_mem_nil, or_false] at this; omega
  have GR := hideT (refusesS base b S w h hst)
  have y0 := h.cell 0
  have y2 := h.cell 2
  have y3 := h.cell 3
  have y4 := h.cell 4
  have y5 := h.cell 5
  have y6 := h.cell 6
  have y7 := h.cell 7
  simp only [Scan.cells, List.getElem?_toArray, List.getElem?_cons_zero, List.getElem?_cons_succ] at y0 y2 y3 y4 y5 y6 y7
  rw [hR.st] at y0
  have he : endP p = ([], 0) := by unfold endP; rw [if_neg (by omega), if_neg (by omega), if_neg (by omega)]
  rw [he]
  have x8 : (((p.st : Nat) : Int) == 8) = false := by rw [beq_eq_false_iff_ne]; omega
  have x21 : (((p.st : Nat) : Int) == 21) = false := by rw [beq_eq_false_iff_ne]; omega
  have GK := hideT (kind_is p.st (by rw [← hR.st]; exact hst) h22 w)
  rw [hk] at GK
  have GB := hideT (begunS base b S w h false (by rw [hR.st]; simp; omega))
  have fz := fun o => h.blk.frozen o
  clear he
  go_enter Tryd.func37, Tryd.ntmps37
  go_wp2_with fail
  refine GR.out.mono ?_
  rintro e w1 ⟨rfl, rfl⟩
  go_wp2_with fail
  refine GK.out.mono ?_
  rintro e w2 ⟨rfl, rfl⟩
  go_wp2_with fail
  refine GB.out.mono ?_
  rintro e w3 ⟨rfl, rfl⟩
  go_wp2
  obtain ⟨k2, q2⟩ := h.blk.setSt 1
  refine bodyPost_ret (v := .tuple #[.slice none 0 0, .int .i64 0]) (by rw [results_ttB rfl]; rfl) rfl ?_
  exact ⟨_, rfl, World.ownsRow_nil _ _ _ _, Kp.ch k2 (Or.inl rfl), ⟨_, h.put k2 q2 rfl rfl, fun c => absurd rfl c⟩, fun _ => rfl⟩

set_option maxHeartbeats 4000000 in
set_option maxRecDepth 100000 in
theorem end_tok (base b : Nat) (S : Scan) (p : PS) (w : World) (h : ScAt w base b S) (hbase : base ≤ w.heap.size) (hR : RelS S p) (hi : Inv p) (hsz : p.rd ≤ 4294967280) (hbuf : p.buf.length ≤ p.rd) (hM : MaxL w) (hk : kindN p.st ≠ 0) : Calls Tryd.prog 37 #[.pointer (some ⟨b, 0, none⟩)] w fun e w' => ∃ v, e = .returned (.tuple #[v, .int .i64 (endP p).2]) ∧ w'.ownsRow w.heap.size 32 6 v (endP p).1.length (tokCells (endP p).1) ∧ Kp (Scan.rows b S.cv) w w' ∧ (∃ S2, ScAt w' base b S2 ∧ ((endP p).2 ≠ 0 → S2.st = 2 ∧ S2.bB = p.bB ∧ S2.bE = p.bB ∧ S2.bL = p.bL ∧ S2.bC = p.bC)) ∧ ((endP p).1 = [] → v = .slice none 0 0) := by
  have hst : 3 ≤ S.st := by rw [hR.st]; have := hi.wt; simp only [waits, List.mem_cons, List.not_mem_nil, or_false] at this; omega
  have h22 : p.st ≤ 22 := by have := hi.wt; simp only [waits, List.mem_cons, List.not_mem_nil, or_false] at this; omega
  have GR := hideT (refusesS base b S w h hst)
  have y0 := h.cell 0
  have y2 := h.cell 2
  have y3 := h.cell 3
  have y4 := h.cell 4
  have y5 := h.cell 5
  have y6 := h.cell 6
  have y7 := h.cell 7
  simp only [Scan.cells, List.getElem?_toArray, List.getElem?_cons_zero, List.getElem?_cons_succ] at y0 y2 y3 y4 y5 y6 y7
  rw [hR.st] at y0
  have h4 : 4 < p.st := by have := hi.wt; simp only [waits, List.mem_cons, List.not_mem_nil, or_false] at this; rcases this with e | e | e | e | e | e | e | e | e | e | e | e | e | e | e | e | e <;> first | omega | (rw [e] at hk; exact absurd rfl hk)
  have h8 : p.st ≠ 8 := fun e => by rw [e] at hk; exact absurd rfl hk
  have h21 : p.st ≠ 21 := fun e => by rw [e] at hk; exact absurd rfl hk
  have he : endP p = ([p.tok p.rd], 0) := by unfold endP; rw [if_neg (by omega), if_pos hk]
  rw [he]
  have x8 : (((p.st : Nat) : Int) == 8) = false := by rw [beq_eq_false_iff_ne]; omega
  have x21 : (((p.st : Nat) : Int) == 21) = false := by rw [beq_eq_false_iff_ne]; omega
  obtain ⟨r1, r2, r3, r4, r5⟩ := hR.hi h4
  have hby : S.come ++ (⟨#[]⟩ : ByteArray).data.toList = p.buf := by rw [r1]; simp
  have hp1 := hi.one h4
  have hcl : S.come.length = p.buf.length := by rw [r1]
  have hz : (⟨#[]⟩ : ByteArray).size = 0 := rfl
  have GT := hideT (tell_is base b S ⟨#[]⟩ w h hbase hst (by rw [hR.st]; exact h22) (by omega) (by rw [hby, hR.st]; exact hi.long) (by omega) hM)
  have GK := hideT (kind_is p.st (by rw [← hR.st]; exact hst) h22 w)
  have HH := hideT (And.intro hby (And.intro r2 (And.intro r4 r5)))
  obtain ⟨kk, hkk⟩ : ∃ kk, kindN p.st = kk := ⟨_, rfl⟩
  have xk : ((kk : Int) == 0) = false := by rw [beq_eq_false_iff_ne]; omega
  have HKK := hideT hkk
  rw [hkk] at GK
  clear he hby r1 r2 r3 r4 r5 hp1 hcl hz hk hkk h8 h21
  go_enter Tryd.func37, Tryd.ntmps37
  go_wp2_with fail
  refine GR.out.mono ?_
  rintro e w1 ⟨rfl, rfl⟩
  go_wp2_with fail
  refine GK.out.mono ?_
  rintro e w2 ⟨rfl, rfl⟩
  go_wp2_with fail
  refine GT.out.mono ?_
  rintro e w3 ⟨rfl, s3, k3⟩
  simp only [hR.st, hR.rd, HH.out.1, HH.out.2.1, HH.out.2.2.1, HH.out.2.2.2]
  have ba := below_alloc (w := w3) (.cells #[.int .i64 (kindN p.st : Nat), .string (txt p.st ⟨p.buf.toArray⟩), .int .i64 p.bB, .int .i64 (p.rd : Nat), .int .i64 p.bL, .int .i64 p.bC] 32)
  have s4 := s3.kp (Kp.of (X := fun _ => False) ba) (fun _ _ c => c)
  have k4 := k3.trans (Kp.of (X := Scan.rows b S.cv) ba) (fun _ _ c => c)
  have o4 := own_one (w := w3) (base := w2.heap.size) (t := p.tok p.rd) k3.size
  have y0 := s4.cell 0
  simp only [Scan.cells, List.getElem?_toArray, List.getElem?_cons_zero, List.getElem?_cons_succ] at y0
  have fz := fun o => s4.blk.frozen o
  go_wp2
  obtain ⟨k5, q5⟩ := s4.blk.setSt 1
  have kb := Kp.ch (X := fun i => i = b) k5 rfl
  have hlt := h.blk.lt
  refine bodyPost_ret (v := .tuple #[.slice (some ⟨w3.heap.size, 0, none⟩) 1 1, .int .i64 0]) (by rw [results_ttB rfl]; rfl) rfl ?_
  exact ⟨_, rfl, own_kp o4 kb (fun g hg e => by have := (own_lt o4 hg).1; omega), k4.trans kb (fun i _ e => Or.inl e), ⟨_, s4.put k5 q5 rfl rfl, fun c => absurd rfl c⟩, fun c => absurd c (by simp)⟩

theorem endS (base b : Nat) (S : Scan) (p : PS) (w : World) (h : ScAt w base b S) (hbase : base ≤ w.heap.size) (hR : RelS S p) (hi : Inv p) (hsz : p.rd ≤ 4294967280) (hbuf : p.buf.length ≤ p.rd) (hM : MaxL w) : Calls Tryd.prog 37 #[.pointer (some ⟨b, 0, none⟩)] w fun e w' => ∃ v, e = .returned (.tuple #[v, .int .i64 (endP p).2]) ∧ w'.ownsRow w.heap.size 32 6 v (endP p).1.length (tokCells (endP p).1) ∧ Kp (Scan.rows b S.cv) w w' ∧ (∃ S2, ScAt w' base b S2 ∧ ((endP p).2 ≠ 0 → S2.st = 2 ∧ S2.bB = p.bB ∧ S2.bE = p.bB ∧ S2.bL = p.bL ∧ S2.bC = p.bC)) ∧ ((endP p).1 = [] → v = .slice none 0 0) := by
  by_cases h8 : p.st = 8
  · exact end_bars base b S p w h hbase hR hi hsz hbuf hM h8
  by_cases h21 : p.st = 21
  · exact end_str base b S p w h hbase hR hi hsz hbuf hM h21
  by_cases hk : kindN p.st = 0
  · by_cases h4 : 4 < p.st
    · exact end_part base b S p w h hbase hR hi hsz hbuf hM h8 h21 hk h4
    · exact end_none base b S p w h hbase hR hi hsz hbuf hM hk h4
  · exact end_tok base b S p w h hbase hR hi hsz hbuf hM hk

set_option maxHeartbeats 2000000 in
set_option maxRecDepth 100000 in
theorem at_failed (base b : Nat) (S : Scan) (w : World) (h : ScAt w base b S) (hs : S.st = 2) : Calls Tryd.prog 43 #[.pointer (some ⟨b, 0, none⟩)] w fun e w' => e = .returned (.agg #[.int .i64 0, .string ⟨#[]⟩, .int .i64 S.bB, .int .i64 S.bE, .int .i64 S.bL, .int .i64 S.bC]) ∧ Below w.heap.size w w' := by
  have hB : Below w.heap.size w (w.alloc (.cells #[.int .i64 0, .string ⟨#[]⟩, .int .i64 0, .int .i64 0, .int .i64 0, .int .i64 0] 32)) := below_alloc _
  have qT := Blk.new w #[.int .i64 0, .string ⟨#[]⟩, .int .i64 0, .int .i64 0, .int .i64 0, .int .i64 0] 32
  have h2 := h.kp (Kp.of (X := fun _ => False) hB) (fun _ _ c => c)
  generalize hW : w.alloc (.cells #[.int .i64 0, .string ⟨#[]⟩, .int .i64 0, .int .i64 0, .int .i64 0, .int .i64 0] 32) = W at hB qT h2
  have y0 := h2.cell 0
  have y2 := h2.cell 2
  have y3 := h2.cell 3
  have y4 := h2.cell 4
  have y5 := h2.cell 5
  have y6 := h2.cell 6
  have y7 := h2.cell 7
  simp only [Scan.cells, List.getElem?_toArray, List.getElem?_cons_zero, List.getElem?_cons_succ] at y0 y2 y3 y4 y5 y6 y7
  rw [hs] at y0
  have fz := fun o => qT.frozen o
  have t0 := qT.cell 0
  have t1 := qT.cell 1
  have t2 := qT.cell 2
  have t3 := qT.cell 3
  have t4 := qT.cell 4
  have t5 := qT.cell 5
  simp only [Scan.cells, List.getElem?_toArray, List.getElem?_cons_zero, List.getElem?_cons_succ] at t0 t1 t2 t3 t4 t5
  go_enter Tryd.func43, Tryd.ntmps43
  go_wp2
  clear fz t0 t1 t2 t3 t4 t5
  obtain ⟨k6, q6⟩ := qT.set6 (.int .i64 0) (.string ⟨#[]⟩) (.int .i64 S.bB) (.int .i64 S.bE) (.int .i64 S.bL) (.int .i64 S.bC)
  unfold set6 at k6 q6
  have x0 := q6.cell 0
  have x1 := q6.cell 1
  have x2 := q6.cell 2
  have x3 := q6.cell 3
  have x4 := q6.cell 4
  have x5 := q6.cell 5
  simp only [Scan.cells, List.getElem?_toArray, List.getElem?_cons_zero, List.getElem?_cons_succ] at x0 x1 x2 x3 x4 x5
  replace hB := hB.trans ((k6.below (Nat.le_refl _)).mono (Nat.le_refl _))
  clear k6 q6 qT
  generalize ((((((W.setCell ⟨w.heap.size, 0, none⟩ (.int .i64 0)).setCell ⟨w.heap.size, 1, none⟩ (.string ⟨#[]⟩)).setCell ⟨w.heap.size, 2, none⟩ (.int .i64 S.bB)).setCell ⟨w.heap.size, 3, none⟩ (.int .i64 S.bE)).setCell ⟨w.heap.size, 4, none⟩ (.int .i64 S.bL)).setCell ⟨w.heap.size, 5, none⟩ (.int .i64 S.bC)) = w9 at x0 x1 x2 x3 x4 x5 hB ⊢
  refine bodyPost_ret (v := .agg #[.int .i64 0, .string ⟨#[]⟩, .int .i64 S.bB, .int .i64 S.bE, .int .i64 S.bL, .int .i64 S.bC]) (by rw [results_c rfl]; go_simp) rfl ?_
  exact ⟨rfl, hB⟩

end Go.Proofs.YtibeiggedmabkaaDoor
