import Derived.Test.YtfifbnopgpffkaaGreatDoorFlwPl
import Derived.Deep.RegionHeld3
import Derived.Shelf.Strings.BuilderK
import Derived.Deep.MidRow
set_option linter.unusedSimpArgs false
set_option linter.unusedVariables false
namespace Go.Proofs.YtfifbnopgpffkaaGreatDoor.Fw
open Go.RowKit

theorem blk_cell {K i : Nat} {cs : Array Value} {T : TypeId} {w : World} {v : Value} (hk : w.heap[K]? = some (.cells cs T (0, 0))) (hv : cs[i]? = some v) : w.cell? ⟨K, i, none⟩ = some v := by
  simp [World.cell?, hk, hv]
theorem job_info : (Tryz.prog.info? 43).map (·.size) = some 15 := by kernel_rfl
abbrev zeroJ : Array Value := #[.int .i64 0, .int .i64 0, .slice none 0 0, .slice none 0 0, .slice none 0 0, .string ⟨#[]⟩, .string ⟨#[]⟩, .int .i64 0, .int .i64 0, .string ⟨#[]⟩, .string ⟨#[]⟩, .int .i64 0, .int .i64 0, .string ⟨#[]⟩, .int .i64 0]
theorem job_there (wr : World) : (wr.alloc (.cells zeroJ 43)).there wr.heap.size 0 15 := (Box.new wr zeroJ.toList 43 _ rfl).there
theorem below_setCells {B k : Nat} (h : B ≤ k) : ∀ (us : List Value) (o : Nat) (w : World), Below B w (w.setCells k o us)
  | [], o, w => Below.refl _ _
  | u :: us, o, w => ((Below.refl B w).setCell (p := ⟨k, o, none⟩) h u).trans (below_setCells h us (o + 1) _)
theorem size_sets (k : Nat) : ∀ (us : List Value) (o : Nat) (w : World), (w.setCells k o us).heap.size = w.heap.size
  | [], o, w => rfl
  | u :: us, o, w => by rw [World.setCells, size_sets k us (o + 1) _, size_set]
theorem sets_typed {k : Nat} {T : TypeId} : ∀ (us : List Value) (o : Nat) (w : World), (∃ vs, w.heap[k]? = some (.cells vs T (0, 0))) → ∃ vs, (w.setCells k o us).heap[k]? = some (.cells vs T (0, 0))
  | [], o, w, h => h
  | u :: us, o, w, ⟨vs, h⟩ => sets_typed us (o + 1) _ ⟨vs.setIfInBounds o u, by simp [World.setCell, Array.getElem?_modify, h]⟩
theorem job_stored (wr : World) (JL : List Value) (h : JL.length = 15) : ((wr.alloc (.cells zeroJ 43)).setCells wr.heap.size 0 JL).heap[wr.heap.size]? = some (.cells JL.toArray 43 (0, 0)) := by
  obtain ⟨vs, hv⟩ := sets_typed (k := wr.heap.size) (T := 43) JL 0 (wr.alloc (.cells zeroJ 43)) ⟨zeroJ, heap_alloc_new _ _⟩
  obtain ⟨T, hT⟩ := (Box.new wr zeroJ.toList 43 _ rfl).full (us := JL) (by rw [h]; rfl)
  have e := hv.symm.trans hT
  simp only [Option.some.injEq, Obj.cells.injEq] at e
  rw [hv, e.1]
end Go.Proofs.YtfifbnopgpffkaaGreatDoor.Fw
