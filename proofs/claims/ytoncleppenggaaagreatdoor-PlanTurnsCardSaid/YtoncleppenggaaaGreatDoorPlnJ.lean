import Derived.Test.YtoncleppenggaaaGreatDoorFlwPl
import Derived.Deep.RegionHeld3
import Derived.Shelf.Strings.BuilderK
import Derived.Deep.MidRow
import Derived.Test.YtoncleppenggaaaGreatDoorPlnI
set_option linter.unusedSimpArgs false
set_option linter.unusedVariables false
namespace Go.Proofs.YtoncleppenggaaaGreatDoor.Fw
open Go.RowKit

theorem blk_cell {K i : Nat} {cs : Array Value} {T : TypeId} {w : World} {v : Value} (hk : w.heap[K]? = some (.cells cs T (0, 0))) (hv : cs[i]? = some v) : w.cell? ⟨K, i, none⟩ = some v := by
  simp [World.cell?, hk, hv]
theorem job_info : (Tryz.prog.info? 43).map (·.size) = some 15 := by kernel_rfl
abbrev zeroJ : Array Value := #[.int .i64 0, .int .i64 0, .slice none 0 0, .slice none 0 0, .slice none 0 0, .string ⟨#[]⟩, .string ⟨#[]⟩, .int .i64 0, .int .i64 0, .string ⟨#[]⟩, .string ⟨#[]⟩, .int .i64 0, .int .i64 0, .string ⟨#[]⟩, .int .i64 0]
theorem job_there (wr : World) : (wr.alloc (.cells zeroJ 43)).there wr.heap.size 0 15 := (Box.new wr zeroJ.toList 43 _ rfl).there
theorem below_setCells {B k : Nat} (h : B ≤ k) : ∀ (us : List Value) (o : Nat) (w : World), Below B w (w.setCells k o us)
  | [], o, w => Below.refl _ _
  | u :: us, o, w => ((Below.refl B w).setCell (p := ⟨k, o, none⟩) h u).trans (below_setCells h us (o + 1) _)
theorem size_sets (k : Nat) : ∀ (us : List Value) (o : Nat) (w : World), (w.setCells k o us).heap.size = w.heap.size
  | [], o, w => rfl
  | u :: us, o, w => by rw [World.setCells, size_sets k us (o + 1) _, size_set]
theorem sets_typed {k : Nat} {T : TypeId} : ∀ (us : List Value) (o : Nat) (w : World), (∃ vs, w.heap[k]? = some (.cells vs T (0, 0))) → ∃ vs, (w.setCells k o us).heap[k]? = some (.cells vs T (0, 0))
  | [], o, w, h => h
  | u :: us, o, w, ⟨vs, h⟩ => sets_typed us (o + 1) _ ⟨vs.setIfInBounds o u, by simp [World.setCell, Array.getElem?_modify, h]⟩
theorem job_stored (wr : World) (JL : List Value) (h : JL.length = 15) : ((wr.alloc (.cells zeroJ 43)).setCells wr.heap.size 0 JL).heap[wr.heap.size]? = some (.cells JL.toArray 43 (0, 0)) := by
  obtain ⟨vs, hv⟩ := sets_typed (k := wr.heap.size) (T := 43) JL 0 (wr.alloc (.cells zeroJ 43)) ⟨zeroJ, heap_alloc_new _ _⟩
  obtain ⟨T, hT⟩ := (Box.new wr zeroJ.toList 43 _ rfl).full (us := JL) (by rw [h]; rfl)
  have e := hv.symm.trans hT
  simp only [Option.some.injEq, Obj.cells.injEq] at e
  rw [hv, e.1]
end Go.Proofs.YtoncleppenggaaaGreatDoor.Fw

namespace Go.Proofs.YtoncleppenggaaaGreatDoor.Pl
open Go.RowKit
open Fw (By FJob Flw ba strV encL zeroJ)

/-- A flow of which each table is made once, and all that is read, or told, is made. -/
structure Fine (f : Flw) : Prop where
  cols : ∀ i ∈ f.ins, rightColsB (clsOf i.cols) = true
  nodup : (madeL f).Nodup
  reads : ∀ j ∈ f.jobs, ∀ n ∈ j.ins, n ∈ madeL f
  outs : ∀ o ∈ f.outs, o.from_ ∈ madeL f
  told : (f.outs.map (·.name)).Nodup
theorem strV_app (l : List By) (x : By) : strV (l ++ [x]) = strV l ++ [.string (ba x)] := by simp [strV]
theorem encL_below {w w' : World} {B : Nat} {l : List By} {v : Value} (h : encL B l v w) (hb : Below w.heap.size w w') : encL B l v w' := owns_below h hb
theorem one1t (x : ByteArray) : ∀ u ∈ [Value.string x], u.oneCell' = true := by intro u hu; simp at hu; subst hu; rfl
theorem dup_pre {l r : List By} {x : By} {m : List By} (h : l = m ++ x :: r) (hx : x ∈ m) : ¬ l.Nodup := by
  rw [h]
  intro hn
  exact (List.nodup_append.1 hn).2.2 x hx x (by simp) rfl
theorem nodup_snoc {l : List By} {x : By} (h : l.Nodup) (hx : x ∉ l) : (l ++ [x]).Nodup := by
  rw [List.nodup_append]
  exact ⟨h, by simp, fun a ha b hb => by rw [List.mem_singleton.1 hb]; rintro rfl; exact hx ha⟩
/-- What makings comes to. -/
def MakR (f : Flw) (w : World) (e : Ending) (w' : World) : Prop := Below w.heap.size w w' ∧
  ((¬ (madeL f).Nodup ∧ ∃ ev, e = .returned (.tuple #[.slice none 0 0, ev]) ∧ AtV w' ev 9) ∨
   ((madeL f).Nodup ∧ ∃ mv, e = .returned (.tuple #[mv, .nilIface]) ∧ encL w.heap.size (madeL f) mv w'))
theorem made_len {f : Flw} (hf : Fw.FlwOK f) : (madeL f).length ≤ 16016 := by
  unfold madeL
  rw [List.length_append, List.length_map]
  have h1 := hf.il
  have h2 : ∀ l : List FJob, (∀ j ∈ l, j.outs.length ≤ 1000) → (l.flatMap (·.outs)).length ≤ l.length * 1000 := by
    intro l
    induction l with
    | nil => intro _; simp
    | cons a r ih =>
      intro h
      have := ih (fun j hj => h j (by simp [hj]))
      have := h a (by simp)
      rw [List.flatMap_cons, List.length_append, List.length_cons]
      omega
  have h3 := h2 f.jobs (fun j hj => (hf.jobs j hj).ol)
  have h4 := hf.jl
  have : f.jobs.length * 1000 ≤ 16000 := by omega
  omega
theorem pre_len {f : Flw} (hf : Fw.FlwOK f) {m r : List By} (h : madeL f = m ++ r) : m.length ≤ 16016 := by
  have := made_len hf
  rw [h, List.length_append] at this
  omega
/-- The input at a place. -/
theorem in_at {w : World} {f : Flw} {vi vj vo : Value} (h : Fw.FlowRd w f vi vj vo) {k : Nat} (hk : k < f.ins.length) : ∃ b c, vi = .slice (some ⟨b, 0, none⟩) f.ins.length c ∧ f.ins.length ≤ c ∧ b < w.heap.size ∧ ∃ v, w.cell? ⟨b, k * 3, none⟩ = some (.int .i64 (f.ins[k].at_ : Nat)) ∧ w.cell? ⟨b, k * 3 + 1, none⟩ = some (.string (ba f.ins[k].name)) ∧ w.cell? ⟨b, k * 3 + 2, none⟩ = some v ∧ Fw.ColsR w v f.ins[k].cols := by
  rcases h.ins with ⟨-, e⟩ | ⟨b, c, e, hc, hb, hx⟩
  · rw [e] at hk; exact absurd hk (by simp)
  · obtain ⟨a, v, ha, h1, h2, h3, h4⟩ := hx k hk
    obtain ⟨_, ha2⟩ := List.getElem?_eq_some_iff.1 ha
    subst ha2
    exact ⟨b, c, e, hc, hb, v, h1, h2, h3, h4⟩
theorem out_at {w : World} {f : Flw} {vi vj vo : Value} (h : Fw.FlowRd w f vi vj vo) {k : Nat} (hk : k < f.outs.length) : ∃ b c, vo = .slice (some ⟨b, 0, none⟩) f.outs.length c ∧ f.outs.length ≤ c ∧ b < w.heap.size ∧ w.cell? ⟨b, k * 3, none⟩ = some (.int .i64 (f.outs[k].at_ : Nat)) ∧ w.cell? ⟨b, k * 3 + 1, none⟩ = some (.string (ba f.outs[k].name)) ∧ w.cell? ⟨b, k * 3 + 2, none⟩ = some (.string (ba f.outs[k].from_)) := by
  rcases h.outs with ⟨-, e⟩ | ⟨b, c, e, hc, hb, hx⟩
  · rw [e] at hk; exact absurd hk (by simp)
  · obtain ⟨a, ha, h1, h2, h3⟩ := hx k hk
    obtain ⟨_, ha2⟩ := List.getElem?_eq_some_iff.1 ha
    subst ha2
    exact ⟨b, c, e, hc, hb, h1, h2, h3⟩
/-- A job that is copied into a box. -/
theorem job_copy (wr : World) (JL : List Value) (h : JL.length = 15) (ho : JL.toArray.all (·.oneCell') = true) : ∃ w2, w2 = (wr.alloc (.cells zeroJ 43)).setCells wr.heap.size 0 JL ∧ Below wr.heap.size wr w2 ∧ Fw.Box w2 wr.heap.size JL ∧ w2.heap.size = wr.heap.size + 1 ∧ (Tryz.prog.info? 43).map (·.size) = some JL.length ∧ (wr.alloc (.cells zeroJ 43)).there wr.heap.size 0 JL.toArray.size := by
  refine ⟨_, rfl, (below_box _ _).trans (Fw.below_setCells (Nat.le_refl _) _ _ _), ⟨_, Fw.job_stored wr JL h⟩, by rw [Fw.size_sets]; simp, by rw [h]; exact Fw.job_info, ?_⟩
  have h15 : JL.toArray.size = 15 := h
  rw [h15]
  exact Fw.job_there wr
theorem jobV_one {w : World} {j : FJob} {vo vi vc : Value} (h1 : Fw.StrsR w vo j.outs) (h2 : Fw.StrsR w vi j.ins) (h3 : Fw.StrsR w vc j.cols) : (Fw.jobV j vo vi vc).toArray.all (·.oneCell') = true := by
  obtain ⟨a1, c1, rfl⟩ := strs_slice h1
  obtain ⟨a2, c2, rfl⟩ := strs_slice h2
  obtain ⟨a3, c3, rfl⟩ := strs_slice h3
  simp [Fw.jobV, Value.oneCell']
end Go.Proofs.YtoncleppenggaaaGreatDoor.Pl

