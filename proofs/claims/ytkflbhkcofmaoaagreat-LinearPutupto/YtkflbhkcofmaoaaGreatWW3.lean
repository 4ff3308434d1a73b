/-
  A copy of a list of fractions, and one of them stored anew.
-/
import Derived.Test.YtkflbhkcofmaoaaGreatWL4
import Derived.Test.YtkflbhkcofmaoaaGreatWQ0
import Derived.Test.YtkflbhkcofmaoaaGreatNumW
import Derived.Test.YtkflbhkcofmaoaaGreatWL7
namespace Go.Proofs.YtkflbhkcofmaoaaGreat
open Go.RowKit
set_option linter.unusedVariables false
set_option linter.unusedSimpArgs false

theorem info_u32M : (Tryz.prog.info? 80).map (fun i => (i.zero, i.size, i.bytes)) = some (some (.int .u32 0), 1, 4) := by kernel_rfl
/-- the first n limbs of a number, as cells -/
def limbsM (X n : Nat) : List Value := (List.range n).map fun i => .int .u32 (dg X i : Nat)
theorem limbsM_succ (X n : Nat) : limbsM X (n + 1) = limbsM X n ++ [.int .u32 (dg X n : Nat)] := by
  unfold limbsM
  rw [List.range_succ, List.map_append]
  rfl
theorem limbsM_at {X n i : Nat} (h : i < n) : (limbsM X n)[i]? = some (.int .u32 (dg X i : Nat)) := by
  unfold limbsM
  rw [List.getElem?_map, List.getElem?_range h]
  rfl
theorem own_copy {w w' : World} {v : Value} {X n : Nat} (hX : X < BB ^ n) (h : w'.ownsRow w.heap.size 80 1 v n (limbsM X n)) (hB : Below w.heap.size w w') : ∃ p c, v = .slice p n c ∧ n ≤ c ∧ New w w' p X n := by
  rcases h.2 with ⟨rfl, rfl⟩ | ⟨g, cap, cur, rfl, hb, hg, hc, hm, _, _⟩
  · exact ⟨none, 0, rfl, Nat.le_refl _, ⟨hX, fun h => absurd h (by omega)⟩, hB, fun h => absurd h (by omega)⟩
  · have hgl := (Array.getElem?_eq_some_iff.1 hg).1
    refine ⟨_, cap, rfl, hc, ⟨hX, fun hn => ⟨g, 0, rfl, hgl, fun i hi => ?_⟩⟩, hB, fun _ => ⟨g, 0, rfl, hb, cur, _, hg⟩⟩
    have h := h.cellAt i (by omega)
    rw [limbsM_at hi] at h
    rw [Nat.zero_add]
    exact h

set_option maxHeartbeats 2000000 in
set_option maxRecDepth 100000 in
theorem memNat_is (a : Option Addr) (n c X : Nat) (w : World) (hn : n ≤ 35184372087808) (hS : Seg w a X n) :
    Calls Tryz.prog 34 #[.slice a n c] w fun e w' => ∃ p c', e = .returned (.slice p n c') ∧ n ≤ c' ∧ New w w' p X n := by
  obtain ⟨i0, hi0, hz0, hz1, hz2⟩ := info_parts info_u32M
  go_enter Tryz.func34, Tryz.ntmps34
  go_wp2_with fail
  go_loopw [3, 4] (fun vo vi wr => ∃ k : Nat, k ≤ n ∧ vi = .int .i64 k ∧ wr.ownsRow w.heap.size 80 1 vo k (limbsM X k) ∧ Below w.heap.size w wr) (fun _ vi _ => n - (intOf vi).toNat)
  case atStart => exact ⟨0, Nat.zero_le _, rfl, World.ownsRow_nil _ _ _ _, Below.refl _ _⟩
  case round =>
    obtain ⟨k, hk, rfl, hO, hB⟩ := hrel
    by_cases hlt : k < n
    · have hSr := hS.later hB
      obtain ⟨bb, off, rfl, hb, hcell⟩ := hSr.2 (by omega)
      have c0 := hcell k hlt
      have i1 : (0 : Int) ≤ (k : Int) := by omega
      have i2 : (k : Int) < (n : Int) := by omega
      obtain ⟨x, hx⟩ : ∃ x : Int, ((dg X k : Nat) : Int) = x := ⟨_, rfl⟩
      rw [hx] at c0
      obtain ⟨zs, hzs⟩ : ∃ zs, limbsM X k = zs := ⟨_, rfl⟩
      rw [hzs] at hO
      obtain ⟨wB, hwB⟩ : ∃ wB, wr.alloc (.cells #[.int .u32 x] 80) = wB := ⟨_, rfl⟩
      have hnew := heap_alloc_new wr (.cells #[.int .u32 x] 80)
      have b3 := below_alloc (w := wr) (.cells #[.int .u32 x] 80)
      rw [hwB] at hnew b3
      have hO3 := own_below hO b3
      have s3 := b3.size
      have s4 := hB.size
      have hbB : w.heap.size ≤ wB.heap.size := by omega
      have hbl : (k + 1) * 4 ≤ 140737488355328 := by omega
      have hrow := fun k hk => (hO.lt k hk)
      clear hcell
      go_wp2_with (at_builtin; (try rw [hwB]); refine wpList_append_lies _ (by rfl) _ _ _ (by rfl) w.heap.size 80 i0 _ 1 4 A_under_nat hi0 hz0 hz1 hz2 rfl (by omega) u3 k zs (by rfl) hO3 ⟨wr.heap.size, 0, none⟩ 1 1 [.int .u32 x] (by rfl) (by rfl) (World.news_of_block (cs := #[.int .u32 x]) (t := 80) (fr := (0, 0)) hnew) (by simp [Value.oneCell']) (by omega) (by simp only [maxLen]; omega) hbl hbB wB.heap.size rfl ?_)
      intro gb cap w9 hown4 hgrow hat hlt4
      have hB3 := hB.trans (b3.mono hB.size)
      have b9 := below_grown hB3.size (fun k hk => (hrow k hk).1) hgrow
      have I1 : w9.ownsRow w.heap.size 80 1 (.slice (some ⟨gb, 0, none⟩) (k + 1) cap) (k + 1) (limbsM X (k + 1)) ∧ Below w.heap.size w w9 := ⟨by rw [limbsM_succ, hzs, hx]; exact hown4, hB3.trans b9⟩
      replace I1 := hide' I1
      clear hown4 hgrow hat hnew b3 hO3 hB3 b9 hrow s3 hbB hbl hO hB hzs hx
      go_wp2
      go_roundw
      case rel => exact ⟨k + 1, by omega, by go_num, I1.out⟩
      case measure => simp [intOf]; omega
    · obtain rfl : k = n := by omega
      have i1 : ¬ (k : Int) < (k : Int) := by omega
      obtain ⟨p, c1, rfl, hc1, hC⟩ := own_copy hS.1 hO hB
      go_wp2
      go_ret
      exact ⟨p, c1, rfl, hc1, hC⟩

set_option maxHeartbeats 1000000 in
theorem memInt_is (s : Bool) (ao : Option Addr) (n cap X : Nat) (w : World) (hm : n ≤ 35184372087808) (hS : Seg w ao X n) :
    Calls Tryz.prog 33 #[.agg #[.bool s, .slice ao n cap]] w fun e w' => ∃ ao' c', e = .returned (.agg #[.bool s, .slice ao' n c']) ∧ n ≤ c' ∧ New w w' ao' X n := by
  go_enter Tryz.func33, Tryz.ntmps33
  go_wp2_with fail
  obtain ⟨W, hW⟩ : ∃ W, ((w.alloc (.cells #[.bool s, .slice ao n cap] 29)).alloc (.cells #[.bool false, .slice none 0 0] 29)) = W := ⟨_, rfl⟩
  have q00 : W.cell? ⟨w.heap.size, 0, none⟩ = some (.bool s) := by subst hW; go_simp
  have q01 : W.cell? ⟨w.heap.size, 1, none⟩ = some (.slice ao n cap) := by subst hW; go_simp
  have r00 : W.cell? ⟨w.heap.size + 1, 0, none⟩ = some (.bool false) := by subst hW; go_simp
  have r01 : W.cell? ⟨w.heap.size + 1, 1, none⟩ = some (.slice none 0 0) := by subst hW; go_simp
  have hB : Below w.heap.size w W := by subst hW; exact (((Below.refl _ _).alloc (by (try simp only [World.size_alloc]); omega) _).alloc (by (try simp only [World.size_alloc]); omega) _)
  have hR0 : Row W (w.heap.size + 1) := by
    have := row_new ((w.alloc (.cells #[.bool s, .slice ao n cap] 29))) #[.bool false, .slice none 0 0] 29
    try simp only [World.size_alloc] at this
    subst hW; exact this
  have hz : W.heap.size = w.heap.size + 1 + 1 := by subst hW; simp only [World.size_alloc]
  rw [hW]
  clear hW
  have hBW : Below W.heap.size W W := Below.refl _ _
  replace hBW := hBW.drew
  first
    | go_region_held3 (fun w' => w'.cell? ⟨w.heap.size, 0, none⟩ = some (.bool s) ∧ w'.cell? ⟨w.heap.size, 1, none⟩ = some (.slice ao n cap) ∧ Below w.heap.size w w')
        (first | exact ⟨q00, q01, hB.trans (hBW.mono hB.size)⟩ | exact kp2 b1 (by assumption) | exact kp2 (below_alloc _) (by assumption) | exact kp2 (below_alloc _) ⟨q00, q01, hB.trans (hBW.mono hB.size)⟩ | exact kpT2_2 (by assumption) (by omega) (by omega) (by omega))
        (first
          | (go_at_call 34; (fail_if_success clear b1); refine (memNat_is ao n cap X _ hm (sb hS hB hBW)).mono ?_; rintro e w1 ⟨a1, c1, rfl, g1, hn1⟩; have b1 := hn1.below; replace hn1 := hn1.back hBW; replace hBW := hBW.trans (b1.mono hBW.size); replace q00 := below_cell b1 q00; replace q01 := below_cell b1 q01; replace r00 := below_cell b1 r00; replace r01 := below_cell b1 r01; replace hR0 := below_row b1 hR0; have fz := fun o => hR0.frozen o))
    | fail
  have fz0 := fun o => hR0.frozen o
  go_wp2
  all_goals refine bodyPost_ret (v := .agg #[.bool s, .slice a1 n c1]) (by rw [results_cell rfl]; go_simp) rfl ?_
  all_goals exact ⟨a1, c1, rfl, g1, hn1.mid hB ((((Mid.refl _ _ _).set _ _ (by omega) (by omega) _).set _ _ (by omega) (by omega) _))⟩

set_option maxHeartbeats 2000000 in
theorem memRat_is (s0 : Bool) (a0 : Option Addr) (n0 c0 X0 : Nat) (b0 : Option Addr) (m0 d0 Y0 : Nat) (w : World) (hc0 : n0 ≤ c0) (hm0 : n0 ≤ 35184372087808) (hS0 : Seg w a0 X0 n0) (hd0 : m0 ≤ d0) (hk0 : m0 ≤ 35184372087808) (hT0 : Seg w b0 Y0 m0) :
    Calls Tryz.prog 12 #[Value.agg #[Value.bool s0, Value.slice a0 n0 c0, Value.slice b0 m0 d0]] w fun e w' => ∃ p c q d, e = .returned (.agg #[.bool s0, .slice p n0 c, .slice q m0 d]) ∧ n0 ≤ c ∧ m0 ≤ d ∧ New w w' p X0 n0 ∧ New w w' q Y0 m0 := by
  go_enter Tryz.func12, Tryz.ntmps12
  go_wp2_with fail
  obtain ⟨W, hW⟩ : ∃ W, ((w.alloc (.cells #[.bool s0, .slice a0 n0 c0, .slice b0 m0 d0] 31)).alloc (.cells #[.bool false, .slice none 0 0, .slice none 0 0] 31)) = W := ⟨_, rfl⟩
  have q00 : W.cell? ⟨w.heap.size, 0, none⟩ = some (.bool s0) := by subst hW; go_simp
  have q01 : W.cell? ⟨w.heap.size, 1, none⟩ = some (.slice a0 n0 c0) := by subst hW; go_simp
  have q02 : W.cell? ⟨w.heap.size, 2, none⟩ = some (.slice b0 m0 d0) := by subst hW; go_simp
  have r00 : W.cell? ⟨w.heap.size + 1, 0, none⟩ = some (.bool false) := by subst hW; go_simp
  have r01 : W.cell? ⟨w.heap.size + 1, 1, none⟩ = some (.slice none 0 0) := by subst hW; go_simp
  have r02 : W.cell? ⟨w.heap.size + 1, 2, none⟩ = some (.slice none 0 0) := by subst hW; go_simp
  have hB : Below w.heap.size w W := by subst hW; exact (((Below.refl _ _).alloc (by (try simp only [World.size_alloc]); omega) _).alloc (by (try simp only [World.size_alloc]); omega) _)
  have hR0 : Row W (w.heap.size + 1) := by
    have := row_new ((w.alloc (.cells #[.bool s0, .slice a0 n0 c0, .slice b0 m0 d0] 31))) #[.bool false, .slice none 0 0, .slice none 0 0] 31
    try simp only [World.size_alloc] at this
    subst hW; exact this
  have hz : W.heap.size = w.heap.size + 1 + 1 := by subst hW; simp only [World.size_alloc]
  rw [hW]
  clear hW
  have hBW : Below W.heap.size W W := Below.refl _ _
  replace hBW := hBW.drew
  first
    | go_region_held3 (fun w' => w'.cell? ⟨w.heap.size, 0, none⟩ = some (.bool s0) ∧ w'.cell? ⟨w.heap.size, 1, none⟩ = some (.slice a0 n0 c0) ∧ w'.cell? ⟨w.heap.size, 2, none⟩ = some (.slice b0 m0 d0) ∧ Below w.heap.size w w')
        (first | exact ⟨q00, q01, q02, hB.trans (hBW.mono hB.size)⟩ | exact kp3 b41 (by assumption) | exact kp3 b42 (by assumption) | exact kp3 (below_alloc _) (by assumption) | exact kp3 (below_alloc _) ⟨q00, q01, q02, hB.trans (hBW.mono hB.size)⟩ | exact kpT3_3 (by assumption) (by omega) (by omega) (by omega) (by omega))
        (first
          | (go_at_call 33; (fail_if_success clear b41); refine (memInt_is s0 a0 n0 c0 X0 _ hm0 (sb hS0 hB hBW)).mono ?_; rintro e w41 ⟨a41, c41, rfl, g41, hn41⟩; have b41 := hn41.below; replace hn41 := hn41.back hBW; replace hBW := hBW.trans (b41.mono hBW.size); replace q00 := below_cell b41 q00; replace q01 := below_cell b41 q01; replace q02 := below_cell b41 q02; replace r00 := below_cell b41 r00; replace r01 := below_cell b41 r01; replace r02 := below_cell b41 r02; replace hR0 := below_row b41 hR0)
          | (go_at_call 34; (fail_if_success clear b42); refine (memNat_is b0 m0 d0 Y0 _ hk0 (sb hT0 hB hBW)).mono ?_; rintro e w42 ⟨a42, c42, rfl, g42, hn42⟩; have b42 := hn42.below; replace hn42 := hn42.back hBW; replace hBW := hBW.trans (b42.mono hBW.size); replace q00 := below_cell b42 q00; replace q01 := below_cell b42 q01; replace q02 := below_cell b42 q02; replace r00 := below_cell b42 r00; replace r01 := below_cell b42 r01; replace r02 := below_cell b42 r02; replace hR0 := below_row b42 hR0; replace hn41 := hn41.later b42; have fz := fun o => hR0.frozen o))
    | fail
  have fz0 := fun o => hR0.frozen o
  go_wp2
  all_goals refine bodyPost_ret (v := .agg #[.bool s0, .slice a41 n0 c41, .slice a42 m0 c42]) (by rw [results_cell rfl]; go_simp) rfl ?_
  all_goals exact ⟨a41, c41, a42, c42, rfl, g41, g42, hn41.mid hB (((((Mid.refl _ _ _).set _ _ (by omega) (by omega) _).set _ _ (by omega) (by omega) _).set _ _ (by omega) (by omega) _)), hn42.mid hB (((((Mid.refl _ _ _).set _ _ (by omega) (by omega) _).set _ _ (by omega) (by omega) _).set _ _ (by omega) (by omega) _))⟩
end Go.Proofs.YtkflbhkcofmaoaaGreat

namespace Go.Proofs.YtkflbhkcofmaoaaGreat
open Go.RowKit
set_option linter.unusedVariables false
set_option linter.unusedSimpArgs false

theorem byHalvesR_is : ∀ (k len : Nat) (a : Option Addr) (cap : Nat) (q : Nat → RatV) (p p' : Option Addr) (w : World), len ≤ k → len ≤ cap → cap ≤ 9223372036854775807 → RatsAt w a len q → (∀ i, i < len → (q i).ok w) → (∀ i, i < len → (q i).low) →
    (∀ i j, i + j ≤ len → sz 1099511627776 (rs (fun t => q (i + t)) j)) → Seg w p' 1 1 →
    Calls Tryz.prog 20 #[.slice a len cap, .agg #[.bool false, .slice p 0 0, .slice p' 1 1], .func (.func 22) #[] #[]] w (BAns w (rs q len))
  | 0, len, a, cap, q, p, p', w, hk, hc, hm, hA, ho, hlo, hbk, hO => by
    obtain rfl : len = 0 := by omega
    refine (byHalves_none a cap false p 0 0 p' 1 1 _ w).mono ?_
    rintro r w' ⟨rfl, hb⟩
    have e1 : am (rs q 0).num = 0 := rfl
    have e2 : (rs q 0).den = 1 := rfl
    exact ⟨p, p', by rw [e1, e2, ln_zero, ln_one]; rfl, hb, by rw [e1, ln_zero]; exact Seg.nil _ _, by rw [e2, ln_one]; exact hO.later hb⟩
  | k + 1, len, a, cap, q, p, p', w, hk, hc, hm, hA, ho, hlo, hbk, hO => by
    rcases Nat.lt_or_ge len 1 with h0 | h0
    · exact byHalvesR_is k len a cap q p p' w (by omega) hc hm hA ho hlo hbk hO
    obtain ⟨b, off, rfl, hlt, hcell⟩ := hA (by omega)
    rcases Nat.lt_or_ge len 2 with h1 | h1
    · obtain rfl : len = 1 := by omega
      have hq := hlo 0 (by omega)
      have hok := ho 0 (by omega)
      have hl0 := hcell 0 (by omega)
      rw [Nat.zero_mul, Nat.add_zero] at hl0
      have e0 : rs q 1 = (q 0).val := by simp only [rs]; rw [Rat.zero_add]
      have ev := low_val hq
      rw [e0]
      refine (byHalves_one b off cap (q 0) false p 0 0 p' 1 1 _ w hlt hl0).mono ?_
      rintro r w' ⟨rfl, hb⟩
      have s1 := hok.1.later hb
      have s2 := hok.2.2.2.1.later hb
      have f1 : (q 0).X = am (q 0).val.num := congrArg RatV.X ev
      have f2 : (q 0).Y = (q 0).val.den := congrArg RatV.Y ev
      have f3 : (q 0).s = ng (q 0).val.num := congrArg RatV.s ev
      rw [hq.hn, f1] at s1
      rw [hq.hm, f2] at s2
      refine ⟨(q 0).a, (q 0).b, ?_, hb, s1, s2⟩
      rw [hq.hn, hq.hc, hq.hm, hq.he, f1, f2, ← f3]
    · obtain ⟨h, hh⟩ : ∃ h, h = len / 2 := ⟨_, rfl⟩
      obtain ⟨j, hj⟩ : ∃ j, len = h + j := ⟨len - h, by omega⟩
      have hsum : lq q len = lq q h ++ lq (fun i => q (h + i)) j := by rw [hj, lq_add]
      have L1 := rs_low q h
      have L2 := rs_low (fun i => q (h + i)) j
      have hL := rs_low q len
      have B1 := hbk 0 h (by omega)
      have B2 := hbk h j (by omega)
      have e1 : (fun t => q (0 + t)) = q := funext fun t => by rw [Nat.zero_add]
      rw [e1] at B1
      rw [hsum] at hL
      refine byHalves_many b off len cap h p 0 0 p' 1 1 false _ _ _ _ _ _ w h1 hc hm hh B1.1 B1.2 B2.1 B2.2 L1.pos L2.pos (fun w' hb => ?_) (fun w' hb => ?_) (low_halves L1 L2 hL)
      · exact byHalvesR_is k h _ cap q p p' w' (by omega) (by omega) hm (fun _ => ⟨b, off, rfl, Nat.lt_of_lt_of_le hlt hb.size, fun i hi => (hcell i (by omega)).later hb⟩) (fun i hi => (ho i (by omega)).later hb) (fun i hi => hlo i (by omega)) (fun i j' hi => hbk i j' (by omega)) (hO.later hb)
      · rw [show len - h = j by omega]
        refine byHalvesR_is k j _ (cap - h) (fun i => q (h + i)) p p' w' (by omega) (by omega) (by omega) (fun _ => ⟨b, off + h * 3, rfl, Nat.lt_of_lt_of_le hlt hb.size, fun i hi => ?_⟩) (fun i hi => (ho (h + i) (by omega)).later hb) (fun i hi => hlo (h + i) (by omega)) (fun i j' hi => ?_) (hO.later hb)
        · have := (hcell (h + i) (by omega)).later hb
          rw [show off + h * 3 + i * 3 = off + (h + i) * 3 by omega]
          exact this
        · have := hbk (h + i) j' (by omega)
          have e : (fun t => q (h + i + t)) = fun t => q (h + (i + t)) := funext fun t => by rw [Nat.add_assoc]
          rw [e] at this
          exact this

/-- the parts by their places -/
def vOf (L : List Mo) (i : Nat) : Int := (L.getD i default).1
def fOf (L : List Mo) (i : Nat) : RatV := (L.getD i default).2
theorem of_at {L : List Mo} {i : Nat} (h : i < L.length) : L[i]? = some (vOf L i, fOf L i) := by
  unfold vOf fOf
  rw [List.getD_eq_getElem?_getD, List.getElem?_eq_getElem h]
  rfl
theorem of_mem {L : List Mo} {i : Nat} (h : i < L.length) : (vOf L i, fOf L i) ∈ L := List.mem_of_getElem? (of_at h)
theorem FAt.form {w : World} {a : Option Addr} {L : List Mo} (h : FAt w a L) : FormAt w a L.length (vOf L) (fOf L) := fun hn => by
  obtain ⟨b, off, e, hl, hc⟩ := h (fun e => by rw [e] at hn; exact absurd hn (by simp))
  exact ⟨b, off, e, hl, fun i hi => hc i _ (of_at hi)⟩
theorem fo_of (L : List Mo) : (List.range L.length).map (fun i => (vOf L i, (fOf L i).val)) = fo L := by
  apply List.ext_getElem
  · simp [fo]
  · intro i h1 h2
    have hi : i < L.length := by simpa using h1
    have := of_at hi
    rw [List.getElem?_eq_getElem hi] at this
    simp [fo, Option.some.inj this]

set_option maxHeartbeats 2000000 in
set_option maxRecDepth 100000 in
theorem lValueR_is (af : Option Addr) (capf : Nat) (L : List Mo) (av : Option Addr) (m capv : Nat) (g : Nat → RatV) (K : Nat) (w : World) (hcf : L.length ≤ capf) (hcv : m ≤ capv) (hn : L.length ≤ 1048576) (hm : m ≤ 1048576)
    (hF : FAt w af L) (hfo : ∀ p ∈ L, p.2.ok w) (hG : RatsAt w av m g) (hgo : ∀ i, i < m → (g i).ok w) (hK : ∀ p ∈ L, p.2.n + p.2.m ≤ K) (hKg : ∀ t, t < m → (g t).n + (g t).m ≤ K) (hKm : K ≤ 1000000000)
    (hs : ∀ i j, sz 1099511627776 (vl (rho g m) (((fo L).drop i).take j))) :
    Calls Tryz.prog 9 #[.slice af L.length capf, .slice av m capv] w (BAns w (vl (rho g m) (fo L))) := by
  have G1 := hide' (fun w' (hb : Below w.heap.size w w') => products_is af L.length capf (vOf L) (fOf L) av m capv g (K + K) (2 * (K + K) + 5) w' hcf hcv hn hm (hF.later hb).form (fun i hi => (hfo _ (of_mem hi)).later hb) (hG.later hb) (fun i hi => (hgo i hi).later hb) (fun i t hi ht => by have h1 := hK _ (of_mem hi); have h2 := hKg t ht; simp only at h1; omega) (by omega) (Nat.le_refl _))
  have G2' := fun w' => qWhole_is 0 w' (by omega) (by omega)
  have z1 : ng 0 = false := rfl
  have z2 : ln (am 0) = 0 := ln_zero
  rw [z1, z2, ln_one] at G2'
  have G2 := hide' G2'
  clear G2' z1 z2
  have G3 := hide' (fun (w' : World) (j : Nat) (hj : j ≤ L.length) (q : Nat → RatV) (a p p' : Option Addr) (cap : Nat) (hcap : j ≤ cap) (hmx : cap ≤ 9223372036854775807) (hR : RatsAt w' a j q) (hq : ∀ i, i < j → (q i).ok w' ∧ (q i).low ∧ (q i).n + (q i).m + 1 ≤ 2 * (K + K) + 5) (hE : lv q j = prl (vOf L) (fOf L) g m L.length) (h1 : Seg w' p' 1 1) =>
    byHalvesR_is j j a cap q p p' w' (Nat.le_refl _) hcap hmx hR (fun i hi => (hq i hi).1) (fun i hi => (hq i hi).2.1) (fun i k hik => by
      rw [rs_lv, lv_part q j i k hik, hE, prl_pls, fo_of]
      obtain ⟨i', j', e⟩ := pls_part (fo L) g m i k
      rw [e]
      exact hs i' j') h1)
  have G4 := hide' (fun (j : Nat) (q : Nat → RatV) (hE : lv q j = prl (vOf L) (fOf L) g m L.length) => show rs q j = vl (rho g m) (fo L) by rw [rs_lv, hE, prl_pls, fo_of, pls_sum])
  clear hF hfo hG hgo hK hKg hKm hs
  generalize vl (rho g m) (fo L) = VV at G4 ⊢
  go_enter Tryz.func9, Tryz.ntmps9
  go_wp2_with fail
  obtain ⟨W, hW⟩ : ∃ W, (w.alloc (.cells #[.bool false, .slice none 0 0, .slice none 0 0] 31)) = W := ⟨_, rfl⟩
  have r00 : W.cell? ⟨w.heap.size, 0, none⟩ = some (.bool false) := by subst hW; go_simp
  have r01 : W.cell? ⟨w.heap.size, 1, none⟩ = some (.slice none 0 0) := by subst hW; go_simp
  have r02 : W.cell? ⟨w.heap.size, 2, none⟩ = some (.slice none 0 0) := by subst hW; go_simp
  have hB : Below w.heap.size w W := by subst hW; exact ((Below.refl _ _).alloc (by (try simp only [World.size_alloc]); omega) _)
  have hR0 : Row W (w.heap.size) := by
    have := row_new (w) #[.bool false, .slice none 0 0, .slice none 0 0] 31
    try simp only [World.size_alloc] at this
    subst hW; exact this
  have hz : W.heap.size = w.heap.size + 1 := by subst hW; simp only [World.size_alloc]
  rw [hW]
  clear hW
  have hBW : Below W.heap.size W W := Below.refl _ _
  refine (G1.out _ (hB.trans (hBW.mono hB.size))).mono ?_
  rintro e w1 ⟨vo, rfl, kP1⟩
  have b1 := kP1.below
  replace hBW := hBW.trans (b1.mono hBW.size)
  replace r00 := below_cell b1 r00
  replace r01 := below_cell b1 r01
  replace r02 := below_cell b1 r02
  replace hR0 := below_row b1 hR0
  obtain ⟨a, j, cap, rfl⟩ := kP1.slice
  go_wp2_with fail
  refine (G2.out _).mono ?_
  rintro e w2 ⟨p2, p2x, rfl, hp2, hq2⟩
  have b2 := hp2.below
  replace hp2 := hp2.back hBW
  replace hq2 := hq2.back hBW
  replace hBW := hBW.trans (b2.mono hBW.size)
  replace r00 := below_cell b2 r00
  replace r01 := below_cell b2 r01
  replace r02 := below_cell b2 r02
  replace hR0 := below_row b2 hR0
  replace kP1 := kP1.later b2
  go_wp2_with fail
  obtain ⟨q, j1, j2, j3, j4, j5, j6⟩ := kP1.openR
  have hV := G4.out j q j6
  replace hV := hide' hV
  refine (G3.out _ j j1 q a p2 p2x cap j2 j3 j4 j5 j6 hq2.seg).mono ?_
  rintro e w3 ⟨x3, y3, rfl, g3, kx3, ky3⟩
  have b3 := g3
  replace hBW := hBW.trans (b3.mono hBW.size)
  replace r00 := below_cell b3 r00
  replace r01 := below_cell b3 r01
  replace r02 := below_cell b3 r02
  replace hR0 := below_row b3 hR0
  replace kP1 := kP1.later b3
  replace hp2 := hp2.later b3
  replace hq2 := hq2.later b3
  clear G1 G2 G3 G4 j1 j2 j3 j4 j5 j6
  replace hV := hV.out
  rw [hV] at kx3 ky3 ⊢
  clear hV
  have fz0 := fun o => hR0.frozen o
  go_wp2
  all_goals refine bodyPost_ret (v := Value.agg #[Value.bool (ng VV.num), Value.slice x3 (ln (am VV.num)) (ln (am VV.num)), Value.slice y3 (ln VV.den) (ln VV.den)]) (by rw [results_cell rfl]; go_simp) rfl ?_
  all_goals exact ⟨x3, y3, rfl, ((bset (bset (bset (hB.trans (hBW.mono hB.size)) (by omega)) (by omega)) (by omega))), kx3.setR r00 r01 r02, ky3.setR r00 r01 r02⟩
end Go.Proofs.YtkflbhkcofmaoaaGreat

namespace Go.Proofs.YtkflbhkcofmaoaaGreat
open Go.RowKit
set_option linter.unusedVariables false
set_option linter.unusedSimpArgs false

/-- what the loop that copies keeps -/
def CpInv (w : World) (g : Nat → RatV) (k : Nat) (vo : Value) (wr : World) : Prop :=
  ∃ q : Nat → RatV, wr.ownsRow w.heap.size 31 3 vo k (cellsV q k) ∧ Below w.heap.size w wr ∧ ∀ i, i < k → (q i).ok wr ∧ (q i).n = (g i).n ∧ (q i).m = (g i).m ∧ (q i).val = (g i).val ∧ ∀ b, vo.ownBlock = some b → (q i).off b
theorem CpInv.nil (w : World) (g : Nat → RatV) : CpInv w g 0 (.slice none 0 0) w := ⟨fun _ => default, World.ownsRow_nil _ _ _ _, Below.refl _ _, fun i hi => absurd hi (by omega)⟩
theorem CpInv.below {w : World} {g : Nat → RatV} {k : Nat} {vo : Value} {wr : World} (h : CpInv w g k vo wr) : Below w.heap.size w wr := by
  obtain ⟨q, _, hB, _⟩ := h
  exact hB
theorem CpInv.push {w : World} {g : Nat → RatV} {k : Nat} {vo : Value} {wB w1 : World} {q : Nat → RatV} (hB : Below w.heap.size w wB)
    (hq : ∀ i, i < k → (q i).ok wB ∧ (q i).n = (g i).n ∧ (q i).m = (g i).m ∧ (q i).val = (g i).val ∧ ∀ b, vo.ownBlock = some b → (q i).off b) (hrow : ∀ b, vo.ownBlock = some b → w.heap.size ≤ b)
    (r : RatV) (hr : r.ok wB) (hrn : r.n = (g k).n ∧ r.m = (g k).m ∧ r.val = (g k).val) (hro : ∀ b, vo.ownBlock = some b → r.off b) {gb cap : Nat}
    (hown : w1.ownsRow w.heap.size 31 3 (.slice (some ⟨gb, 0, none⟩) (k + 1) cap) (k + 1) (cellsV q k ++ [.bool r.s, .slice r.a r.n r.c, .slice r.b r.m r.e])) (hg : wB.grownBy w1 vo.ownBlock) (hat : vo.ownBlock = some gb ∨ gb = wB.heap.size) :
    CpInv w g (k + 1) (.slice (some ⟨gb, 0, none⟩) (k + 1) cap) w1 := by
  obtain ⟨q', hq'⟩ : ∃ q' : Nat → RatV, q' = fun i => if i < k then q i else r := ⟨_, rfl⟩
  have e1 : ∀ i, i < k → q' i = q i := fun i hi => by rw [hq']; exact if_pos hi
  have e2 : q' k = r := by rw [hq']; exact if_neg (by omega)
  refine ⟨q', ?_, hB.trans (below_grown hB.size hrow hg), fun i hi => ?_⟩
  · simp only [cellsV]
    rw [cellsV_congr k e1, e2]
    exact hown
  · have hoff : ∀ x : RatV, x.ok wB → (∀ b, vo.ownBlock = some b → x.off b) → ∀ b, (Value.slice (some ⟨gb, 0, none⟩) (k + 1) cap).ownBlock = some b → x.off b := by
      intro x hx ho b hb
      have : gb = b := by simpa [Value.ownBlock] using hb
      subst this
      rcases hat with h | h
      · exact ho _ h
      · exact hx.off (by omega)
    rcases Nat.lt_or_ge i k with h1 | h1
    · rw [e1 i h1]
      obtain ⟨a1, a2, a3, a4, a5⟩ := hq i h1
      exact ⟨a1.grown hg a5, a2, a3, a4, hoff _ a1 a5⟩
    · obtain rfl : i = k := by omega
      rw [e2]
      exact ⟨hr.grown hg hro, hrn.1, hrn.2.1, hrn.2.2, hoff _ hr hro⟩
/-- a list of fractions in a row, in new memory -/
theorem CpInv.open {w : World} {g : Nat → RatV} {k : Nat} {vo : Value} {wr : World} (h : CpInv w g k vo wr) (hk : 0 < k) : ∃ gb cap q, vo = .slice (some ⟨gb, 0, none⟩) k cap ∧ w.heap.size ≤ gb ∧ Row wr gb ∧ k ≤ cap ∧ RatsAt wr (some ⟨gb, 0, none⟩) k q ∧ ∀ i, i < k → (q i).ok wr ∧ (q i).n = (g i).n ∧ (q i).m = (g i).m ∧ (q i).val = (g i).val := by
  obtain ⟨q, hO, hB, hq⟩ := h
  obtain ⟨a, cap, e, h1, h2, h3⟩ := own_rats hO
  rcases hO.2 with ⟨e2, e3⟩ | ⟨gb, cap', cur, e2, hb, hg, hc, hm, _, _⟩
  · omega
  · rw [e2] at e
    simp only [Value.slice.injEq] at e
    obtain ⟨e4, _, e5⟩ := e
    subst e4 e5
    exact ⟨gb, cap', q, e2, hb, ⟨cur, _, hg⟩, hc, h3, fun i hi => ⟨(hq i hi).1, (hq i hi).2.1, (hq i hi).2.2.1, (hq i hi).2.2.2.1⟩⟩

/-- three cells stored, at any place -/
def put3 (w : World) (b o : Nat) (u0 u1 u2 : Value) : World := ((w.setCell ⟨b, o, none⟩ u0).setCell ⟨b, o + 1, none⟩ u1).setCell ⟨b, o + 2, none⟩ u2
theorem put3_seg {w : World} {p : Option Addr} {X n b o : Nat} {u0 u1 u2 z0 z1 z2 : Value} (h : Seg w p X n) (h0 : w.cell? ⟨b, o, none⟩ = some z0) (h1 : w.cell? ⟨b, o + 1, none⟩ = some z1) (h2 : w.cell? ⟨b, o + 2, none⟩ = some z2) (k0 : ∀ k i, z0 ≠ .int k i) (k1 : ∀ k i, z1 ≠ .int k i) (k2 : ∀ k i, z2 ≠ .int k i) : Seg (put3 w b o u0 u1 u2) p X n := by
  refine ((h.setB h0 k0).setB (z := z1) ?_ k1).setB (z := z2) ?_ k2
  · rw [World.cell?_setCell_other _ _ _ _ (fun e => by simp at e)]; exact h1
  · rw [World.cell?_setCell_other _ _ _ _ (fun e => by simp at e), World.cell?_setCell_other _ _ _ _ (fun e => by simp at e)]; exact h2
theorem put3_far {w : World} {b o : Nat} {u0 u1 u2 : Value} {c q : Nat} (h : c ≠ b ∨ q < o ∨ o + 2 < q) : (put3 w b o u0 u1 u2).cell? ⟨c, q, none⟩ = w.cell? ⟨c, q, none⟩ := by
  unfold put3
  rw [World.cell?_setCell_other _ _ _ _ (fun e => by simp at e; omega), World.cell?_setCell_other _ _ _ _ (fun e => by simp at e; omega), World.cell?_setCell_other _ _ _ _ (fun e => by simp at e; omega)]
theorem put3_size (w : World) (b o : Nat) (u0 u1 u2 : Value) : (put3 w b o u0 u1 u2).heap.size = w.heap.size := by simp [put3, World.setCell]
theorem put3_at {w : World} {b o : Nat} {u0 u1 u2 z0 z1 z2 : Value} (h0 : w.cell? ⟨b, o, none⟩ = some z0) (h1 : w.cell? ⟨b, o + 1, none⟩ = some z1) (h2 : w.cell? ⟨b, o + 2, none⟩ = some z2) :
    (put3 w b o u0 u1 u2).cell? ⟨b, o, none⟩ = some u0 ∧ (put3 w b o u0 u1 u2).cell? ⟨b, o + 1, none⟩ = some u1 ∧ (put3 w b o u0 u1 u2).cell? ⟨b, o + 2, none⟩ = some u2 := by
  have a1 : (w.setCell ⟨b, o, none⟩ u0).cell? ⟨b, o + 1, none⟩ = some z1 := by rw [World.cell?_setCell_other _ _ _ _ (fun e => by simp at e)]; exact h1
  have a2 : ((w.setCell ⟨b, o, none⟩ u0).setCell ⟨b, o + 1, none⟩ u1).cell? ⟨b, o + 2, none⟩ = some z2 := by rw [World.cell?_setCell_other _ _ _ _ (fun e => by simp at e), World.cell?_setCell_other _ _ _ _ (fun e => by simp at e)]; exact h2
  unfold put3
  refine ⟨?_, ?_, ?_⟩
  · rw [World.cell?_setCell_other _ _ _ _ (fun e => by simp at e), World.cell?_setCell_other _ _ _ _ (fun e => by simp at e)]
    exact World.cell?_setCell_same _ _ _ h0
  · rw [World.cell?_setCell_other _ _ _ _ (fun e => by simp at e)]
    exact World.cell?_setCell_same _ _ _ a1
  · exact World.cell?_setCell_same _ _ _ a2
theorem rats_put {w : World} {gb m t : Nat} {q : Nat → RatV} {r : RatV} (h : RatsAt w (some ⟨gb, 0, none⟩) m q) (hq : ∀ i, i < m → (q i).ok w) (ht : t < m) (hr : r.ok w) :
    RatsAt (put3 w gb (t * 3) (.bool r.s) (.slice r.a r.n r.c) (.slice r.b r.m r.e)) (some ⟨gb, 0, none⟩) m (fun i => if i = t then r else q i) ∧ (∀ i, i < m → (if i = t then r else q i).ok (put3 w gb (t * 3) (.bool r.s) (.slice r.a r.n r.c) (.slice r.b r.m r.e))) ∧
      ∀ p X n, Seg w p X n → Seg (put3 w gb (t * 3) (.bool r.s) (.slice r.a r.n r.c) (.slice r.b r.m r.e)) p X n := by
  obtain ⟨b, off, e, hl, hc⟩ := h (by omega)
  have e := Option.some.inj e
  simp only [Addr.mk.injEq, and_true] at e
  obtain ⟨rfl, rfl⟩ := e
  obtain ⟨c0, c1, c2⟩ := hc t ht
  rw [Nat.zero_add] at c0 c1 c2
  have hS : ∀ p X n, Seg w p X n → Seg (put3 w gb (t * 3) (.bool r.s) (.slice r.a r.n r.c) (.slice r.b r.m r.e)) p X n := fun p X n hs => put3_seg hs c0 c1 c2 (by simp) (by simp) (by simp)
  have hok : ∀ x : RatV, x.ok w → x.ok (put3 w gb (t * 3) (.bool r.s) (.slice r.a r.n r.c) (.slice r.b r.m r.e)) := fun x hx => ⟨hS _ _ _ hx.1, hx.2.1, hx.2.2.1, hS _ _ _ hx.2.2.2.1, hx.2.2.2.2.1, hx.2.2.2.2.2⟩
  refine ⟨fun _ => ⟨gb, 0, rfl, by rw [put3_size]; exact hl, fun i hi => ?_⟩, fun i hi => ?_, hS⟩
  · by_cases he : i = t
    · subst he
      obtain ⟨d0, d1, d2⟩ := put3_at (u0 := .bool r.s) (u1 := .slice r.a r.n r.c) (u2 := .slice r.b r.m r.e) c0 c1 c2
      simp only [if_true]
      rw [Nat.zero_add]
      exact ⟨d0, d1, d2⟩
    · simp only [if_neg he]
      obtain ⟨d0, d1, d2⟩ := hc i hi
      rw [Nat.zero_add] at d0 d1 d2 ⊢
      have hne : i * 3 + 2 < t * 3 ∨ t * 3 + 2 < i * 3 := by omega
      exact ⟨by rw [put3_far (by omega)]; exact d0, by rw [put3_far (by omega)]; exact d1, by rw [put3_far (by omega)]; exact d2⟩
  · by_cases he : i = t
    · rw [if_pos he]; exact hok r hr
    · rw [if_neg he]; exact hok _ (hq i hi)
theorem below_put3 {B : Nat} {w w' : World} {c o : Nat} {u0 u1 u2 : Value} (h : Below B w w') (hc : B ≤ c) : Below B w (put3 w' c o u0 u1 u2) := ((h.setCell hc _).setCell hc _).setCell hc _

/-- a value put in the place of another -/
theorem rho_put {g q : Nat → RatV} {m t : Nat} {r : RatV} (ht : t < m) (hq : ∀ i, i < m → (q i).val = (g i).val) (x : Int) : rho (fun i => if i = t then r else q i) m x = if x = (t : Int) then r.val else rho g m x := by
  unfold rho
  by_cases hx : x = (t : Int)
  · subst hx
    rw [if_pos (by omega), if_pos rfl, Int.toNat_natCast]
    simp only [if_true]
  · rw [if_neg hx]
    split
    · rename_i h
      simp only [if_neg (show ¬ x.toNat = t by omega)]
      rw [hq _ (by omega)]
    · rfl
theorem put_value {g q : Nat → RatV} {m t : Nat} {r : RatV} {L G : List Mo} {D E : Rat} (ht : t < m) (hq : ∀ i, i < m → (q i).val = (g i).val) (hr : r.val = vl (rho g m) (fo G) + E) :
    vl (rho g m) (mrg (nfm (fo (oth (t : Int) L))) (nfm (fmap (fun r9 => co (t : Int) (fo L) * r9) (fo G)))) + (D + co (t : Int) (fo L) * E) = vl (rho (fun i => if i = t then r else q i) m) (fo L) + D := by
  rw [vl_mrg, vl_nfm, vl_nfm, vl_scale, vl_apart (rho (fun i => if i = t then r else q i) m) (t : Int) L, rho_put ht hq, if_pos rfl, hr]
  have e : vl (rho (fun i => if i = t then r else q i) m) (fo (oth (t : Int) L)) = vl (rho g m) (fo (oth (t : Int) L)) := vl_congr fun p hp => by
    obtain ⟨p', hp', rfl⟩ := List.mem_map.1 hp
    have hne : p'.1 ≠ (t : Int) := by have := (List.mem_filter.1 hp').2; simpa using this
    rw [rho_put ht hq, if_neg hne]
  rw [e]
  grind
theorem rlist_put {g q : Nat → RatV} {t : Nat} {r : RatV} : ∀ (m : Nat), (∀ i, i < m → (q i).val = (g i).val) → wts (rlist (fun i => if i = t then r else q i) m) ≤ wts (rlist g m) + wt r.val
  | 0, _ => by simp [rlist, wts]
  | m + 1, h => by
    rw [rlist_succ, rlist_succ, wts_append, wts_append]
    simp only [wts]
    by_cases e : m = t
    · subst e
      rw [if_pos rfl]
      have e2 : rlist (fun i => if i = m then r else q i) m = rlist g m := by
        unfold rlist
        refine List.map_congr_left fun i hi => ?_
        have := List.mem_range.1 hi
        simp only [if_neg (show ¬ i = m by omega)]
        rw [h i (by omega)]
      rw [e2]
      omega
    · have := rlist_put (r := r) (t := t) m fun i hi => h i (by omega)
      rw [if_neg e, h m (by omega)]
      omega
end Go.Proofs.YtkflbhkcofmaoaaGreat
