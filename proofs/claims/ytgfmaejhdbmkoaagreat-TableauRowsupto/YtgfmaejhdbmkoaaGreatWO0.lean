import Derived.Test.YtgfmaejhdbmkoaaGreatWQ5
import Derived.Test.YtgfmaejhdbmkoaaGreatWN4
set_option linter.unusedSimpArgs false
namespace Go.Proofs.YtgfmaejhdbmkoaaGreat
open Go.RowKit
set_option linter.unusedVariables false
theorem seg_setT {w:World} {p:Option Addr} {X n c o:Nat} {u z:Value} (h:Seg w p X n) (hc:w.cell? ⟨c,o,none⟩=some z) (hz:∀ i,z≠.int .u32 i):Seg (w.setCell ⟨c,o,none⟩ u) p X n:=by
 refine ⟨h.1,fun hn=>?_⟩
 obtain ⟨b,off,rfl,hb,hcell⟩:=h.2 hn
 refine ⟨b,off,rfl,by simpa [World.setCell] using hb,fun i hi=>?_⟩
 have h1:=hcell i hi
 rw [World.cell?_setCell_other _ _ _ _ (fun e=>?_)]
 ·exact h1
 ·rw [←e,hc] at h1
  simp only [Option.some.injEq] at h1
  exact hz _ h1
def Thr (w:World) (c:Nat) (u0 u1 u2:Value):Prop :=
 (w.cell? ⟨c,0,none⟩=some u0∧w.cell? ⟨c,1,none⟩=some u1∧w.cell? ⟨c,2,none⟩=some u2)∧Row w c
theorem Thr.later {w w':World} {c:Nat} {u0 u1 u2:Value} (h:Thr w c u0 u1 u2) (hb:Below w.heap.size w w'):Thr w' c u0 u1 u2 :=
 ⟨⟨xQ0 hb h.1.1,xQ0 hb h.1.2.1,xQ0 hb h.1.2.2⟩,xQ3 hb h.2⟩
abbrev set3 (w:World) (c:Nat) (u0 u1 u2:Value):World:=((w.setCell ⟨c,0,none⟩ u0).setCell ⟨c,1,none⟩ u1).setCell ⟨c,2,none⟩ u2
theorem Thr.put {w:World} {c:Nat} {u0 u1 u2 z0 z1 z2:Value} (h:Thr w c z0 z1 z2):Thr (set3 w c u0 u1 u2) c u0 u1 u2 :=
 ⟨set3_same h.1.1 h.1.2.1 h.1.2.2,((h.2.setCell _ _).setCell _ _).setCell _ _⟩
theorem Thr.far {w:World} {c r:Nat} {u0 u1 u2 z0 z1 z2:Value} (h:Thr w r z0 z1 z2) (hne:c≠r):Thr (set3 w c u0 u1 u2) r z0 z1 z2 :=
 ⟨⟨by rw [xJ2 hne];exact h.1.1,by rw [xJ2 hne];exact h.1.2.1,by rw [xJ2 hne];exact h.1.2.2⟩,((h.2.setCell _ _).setCell _ _).setCell _ _⟩
theorem Thr.seg {w:World} {c:Nat} {u0 u1 u2 z0 z1 z2:Value} (h:Thr w c z0 z1 z2) (k0:∀ i,z0≠.int .u32 i) (k1:∀ i,z1≠.int .u32 i) (k2:∀ i,z2≠.int .u32 i) {p:Option Addr} {X n:Nat} (hS:Seg w p X n):Seg (set3 w c u0 u1 u2) p X n:=by
 refine seg_setT (z:=z2) (seg_setT (z:=z1) (seg_setT (z:=z0) hS h.1.1 k0) ?_ k1) ?_ k2
 ·rw [World.cell?_setCell_other _ _ _ _ (fun e=>by simp at e)];exact h.1.2.1
 ·rw [World.cell?_setCell_other _ _ _ _ (fun e=>by simp at e),World.cell?_setCell_other _ _ _ _ (fun e=>by simp at e)];exact h.1.2.2
theorem below_set3 {B:Nat} {w w':World} {c:Nat} {u0 u1 u2:Value} (h:Below B w w') (hc:B≤c):Below B w (set3 w' c u0 u1 u2):=((h.setCell hc _).setCell hc _).setCell hc _
def Ents (w:World) (R:List Mo):Prop:=∀ p∈R,Ent w p
theorem Ents.later {w w':World} {R:List Mo} (h:Ents w R) (hb:Below w.heap.size w w'):Ents w' R:=fun p hp=>(h p hp).later hb
end Go.Proofs.YtgfmaejhdbmkoaaGreat
