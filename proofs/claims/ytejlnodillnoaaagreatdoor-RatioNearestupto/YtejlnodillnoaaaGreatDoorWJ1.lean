import Derived.Test.YtejlnodillnoaaaGreatDoorMem
import Derived.RangeFuncNested
import Derived.RangeFuncBound
import Derived.RangeFuncCalls
import Derived.RangeFuncLeaves
import Derived.Shelf.Abstract
import Derived.Shelf.RegionOpen
import Derived.OwnWalkIn
import Derived.TacticsInMore
import Derived.LoopNIn
import Derived.LoopIn
import Derived.Maps.AppendAt
set_option linter.unusedSimpArgs false
namespace Go.Proofs.YtejlnodillnoaaaGreatDoor
open Go.RowKit Go.Shelf
set_option linter.unusedVariables false
structure Bk (D:Nat) (r:Loop) (W:World):Prop where
 dfr:W.heap[D]?=some (.deferred (some []))
 lp:W.heap[D+1]?=some (.loop r)
theorem Bk.lt {D:Nat} {r:Loop} {W:World} (h:Bk D r W):D+1 < W.heap.size:=(Array.getElem?_eq_some_iff.1 h.lp).1
theorem Bk.below {D:Nat} {r:Loop} {W W':World} (h:Bk D r W) (hb:Below W.heap.size W W'):Bk D r W':=by
 have:=h.lt
 exact ⟨(hb.block D (by omega)).trans h.dfr,(hb.block (D+1) (by omega)).trans h.lp⟩
theorem Bk.put {D:Nat} {r:Loop} {W:World} (h:Bk D r W) (r':Loop):Bk D r' (W.putObj (D+1) (.loop r')) :=
 ⟨(World.putObj_heap_other (by omega)).trans h.dfr,World.putObj_heap_same h.lt⟩
variable {P:Program} {n:Nat}
theorem Seg.putLoop {W:World} {D:Nat} {r:Loop} {ao:Option Addr} {X n:Nat} (h:Seg W ao X n) (hk:Bk D r W) (r':Loop):Seg (W.putObj (D+1) (.loop r')) ao X n:=by
 refine ⟨h.1,fun hn=>?_⟩
 obtain ⟨b,off,e,hl,hc⟩:=h.2 hn
 refine ⟨b,off,e,by simpa using hl,fun i hi=>?_⟩
 have hb:b≠D+1:=fun e=>by
  have:=hc i hi
  simp [World.cell?,e,hk.lp] at this
 rw [World.cell?_of_block (w:=W) (World.putObj_heap_other hb)]
 exact hc i hi
theorem below_putLoop {W w:World} {D B:Nat} {r:Loop} (h:Below B w W) (hk:Bk D r W) (hB:B≤D+1) (r':Obj):Below B w (W.putObj (D+1) r') :=
 h.trans ⟨rfl,rfl,rfl,by simp,fun k hk=>World.putObj_heap_other (by omega)⟩
theorem cells_putLoop {W:World} {D k:Nat} {r:Loop} {cur:Array Value} {t:TypeId} {fz:Nat × Nat} (h:W.heap[k]?=some (.cells cur t fz)) (hk:Bk D r W) (r':Loop):(W.putObj (D+1) (.loop r')).heap[k]?=some (.cells cur t fz):=by
 have hb:k≠D+1:=fun e=>by rw [e,hk.lp] at h;simp at h
 rw [World.putObj_heap_other hb]
 exact h
theorem Seg.putDfr {W:World} {D:Nat} {r:Loop} {ao:Option Addr} {X n:Nat} (h:Seg W ao X n) (hk:Bk D r W) (o:Obj):Seg (W.putObj D o) ao X n:=by
 refine ⟨h.1,fun hn=>?_⟩
 obtain ⟨b,off,e,hl,hc⟩:=h.2 hn
 refine ⟨b,off,e,by simpa using hl,fun i hi=>?_⟩
 have hb:b≠D:=fun e=>by
  have:=hc i hi
  simp [World.cell?,e,hk.dfr] at this
 rw [World.cell?_of_block (w:=W) (World.putObj_heap_other hb)]
 exact hc i hi
theorem below_putDfr {W w:World} {D B:Nat} (h:Below B w W) (hB:B≤D) (o:Obj):Below B w (W.putObj D o) :=
 h.trans ⟨rfl,rfl,rfl,by simp,fun k hk=>World.putObj_heap_other (by omega)⟩
theorem cells_putDfr {W:World} {D k:Nat} {r:Loop} {cur:Array Value} {t:TypeId} {fz:Nat × Nat} (h:W.heap[k]?=some (.cells cur t fz)) (hk:Bk D r W) (o:Obj):(W.putObj D o).heap[k]?=some (.cells cur t fz):=by
 have hb:k≠D:=fun e=>by rw [e,hk.dfr] at h;simp at h
 rw [World.putObj_heap_other hb]
 exact h
end Go.Proofs.YtejlnodillnoaaaGreatDoor
