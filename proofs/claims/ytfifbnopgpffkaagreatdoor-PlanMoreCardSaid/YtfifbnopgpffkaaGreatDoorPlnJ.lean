import Derived.Test.YtfifbnopgpffkaaGreatDoorPlnI
import Derived.Test.YtfifbnopgpffkaaGreatDoorFlwPm
set_option linter.unusedSimpArgs false
set_option linter.unusedVariables false
namespace Go.Proofs.YtfifbnopgpffkaaGreatDoor.Pl
open Go.RowKit
open Fw (By FJob Flw ba strV encL zeroJ)

/-- A flow of which each table is made once, and all that is read, or told, is made. -/
structure Fine (f : Flw) : Prop where
  cols : ∀ i ∈ f.ins, rightColsB (clsOf i.cols) = true
  nodup : (madeL f).Nodup
  reads : ∀ j ∈ f.jobs, ∀ n ∈ j.ins, n ∈ madeL f
  outs : ∀ o ∈ f.outs, o.from_ ∈ madeL f
  told : (f.outs.map (·.name)).Nodup
theorem strV_app (l : List By) (x : By) : strV (l ++ [x]) = strV l ++ [.string (ba x)] := by simp [strV]
theorem encL_below {w w' : World} {B : Nat} {l : List By} {v : Value} (h : encL B l v w) (hb : Below w.heap.size w w') : encL B l v w' := owns_below h hb
theorem one1t (x : ByteArray) : ∀ u ∈ [Value.string x], u.oneCell' = true := by intro u hu; simp at hu; subst hu; rfl
theorem dup_pre {l r : List By} {x : By} {m : List By} (h : l = m ++ x :: r) (hx : x ∈ m) : ¬ l.Nodup := by
  rw [h]
  intro hn
  exact (List.nodup_append.1 hn).2.2 x hx x (by simp) rfl
theorem nodup_snoc {l : List By} {x : By} (h : l.Nodup) (hx : x ∉ l) : (l ++ [x]).Nodup := by
  rw [List.nodup_append]
  exact ⟨h, by simp, fun a ha b hb => by rw [List.mem_singleton.1 hb]; rintro rfl; exact hx ha⟩
/-- What makings comes to. -/
def MakR (f : Flw) (w : World) (e : Ending) (w' : World) : Prop := Below w.heap.size w w' ∧
  ((¬ (madeL f).Nodup ∧ ∃ ev, e = .returned (.tuple #[.slice none 0 0, ev]) ∧ AtV w' ev 9) ∨
   ((madeL f).Nodup ∧ ∃ mv, e = .returned (.tuple #[mv, .nilIface]) ∧ encL w.heap.size (madeL f) mv w'))
theorem made_len {f : Flw} (hf : Fw.FlwOK f) : (madeL f).length ≤ 16016 := by
  unfold madeL
  rw [List.length_append, List.length_map]
  have h1 := hf.il
  have h2 : ∀ l : List FJob, (∀ j ∈ l, j.outs.length ≤ 1000) → (l.flatMap (·.outs)).length ≤ l.length * 1000 := by
    intro l
    induction l with
    | nil => intro _; simp
    | cons a r ih =>
      intro h
      have := ih (fun j hj => h j (by simp [hj]))
      have := h a (by simp)
      rw [List.flatMap_cons, List.length_append, List.length_cons]
      omega
  have h3 := h2 f.jobs (fun j hj => (hf.jobs j hj).ol)
  have h4 := hf.jl
  have : f.jobs.length * 1000 ≤ 16000 := by omega
  omega
theorem pre_len {f : Flw} (hf : Fw.FlwOK f) {m r : List By} (h : madeL f = m ++ r) : m.length ≤ 16016 := by
  have := made_len hf
  rw [h, List.length_append] at this
  omega
/-- The input at a place. -/
theorem in_at {w : World} {f : Flw} {vi vj vo : Value} (h : Fw.FlowRd w f vi vj vo) {k : Nat} (hk : k < f.ins.length) : ∃ b c, vi = .slice (some ⟨b, 0, none⟩) f.ins.length c ∧ f.ins.length ≤ c ∧ b < w.heap.size ∧ ∃ v, w.cell? ⟨b, k * 3, none⟩ = some (.int .i64 (f.ins[k].at_ : Nat)) ∧ w.cell? ⟨b, k * 3 + 1, none⟩ = some (.string (ba f.ins[k].name)) ∧ w.cell? ⟨b, k * 3 + 2, none⟩ = some v ∧ Fw.ColsR w v f.ins[k].cols := by
  rcases h.ins with ⟨-, e⟩ | ⟨b, c, e, hc, hb, hx⟩
  · rw [e] at hk; exact absurd hk (by simp)
  · obtain ⟨a, v, ha, h1, h2, h3, h4⟩ := hx k hk
    obtain ⟨_, ha2⟩ := List.getElem?_eq_some_iff.1 ha
    subst ha2
    exact ⟨b, c, e, hc, hb, v, h1, h2, h3, h4⟩
theorem out_at {w : World} {f : Flw} {vi vj vo : Value} (h : Fw.FlowRd w f vi vj vo) {k : Nat} (hk : k < f.outs.length) : ∃ b c, vo = .slice (some ⟨b, 0, none⟩) f.outs.length c ∧ f.outs.length ≤ c ∧ b < w.heap.size ∧ w.cell? ⟨b, k * 3, none⟩ = some (.int .i64 (f.outs[k].at_ : Nat)) ∧ w.cell? ⟨b, k * 3 + 1, none⟩ = some (.string (ba f.outs[k].name)) ∧ w.cell? ⟨b, k * 3 + 2, none⟩ = some (.string (ba f.outs[k].from_)) := by
  rcases h.outs with ⟨-, e⟩ | ⟨b, c, e, hc, hb, hx⟩
  · rw [e] at hk; exact absurd hk (by simp)
  · obtain ⟨a, ha, h1, h2, h3⟩ := hx k hk
    obtain ⟨_, ha2⟩ := List.getElem?_eq_some_iff.1 ha
    subst ha2
    exact ⟨b, c, e, hc, hb, h1, h2, h3⟩
/-- A job that is copied into a box. -/
theorem job_copy (wr : World) (JL : List Value) (h : JL.length = 15) (ho : JL.toArray.all (·.oneCell') = true) : ∃ w2, w2 = (wr.alloc (.cells zeroJ 43)).setCells wr.heap.size 0 JL ∧ Below wr.heap.size wr w2 ∧ Fw.Box w2 wr.heap.size JL ∧ w2.heap.size = wr.heap.size + 1 ∧ (Tryz.prog.info? 43).map (·.size) = some JL.length ∧ (wr.alloc (.cells zeroJ 43)).there wr.heap.size 0 JL.toArray.size := by
  refine ⟨_, rfl, (below_box _ _).trans (Fw.below_setCells (Nat.le_refl _) _ _ _), ⟨_, Fw.job_stored wr JL h⟩, by rw [Fw.size_sets]; simp, by rw [h]; exact Fw.job_info, ?_⟩
  have h15 : JL.toArray.size = 15 := h
  rw [h15]
  exact Fw.job_there wr
theorem jobV_one {w : World} {j : FJob} {vo vi vc : Value} (h1 : Fw.StrsR w vo j.outs) (h2 : Fw.StrsR w vi j.ins) (h3 : Fw.StrsR w vc j.cols) : (Fw.jobV j vo vi vc).toArray.all (·.oneCell') = true := by
  obtain ⟨a1, c1, rfl⟩ := strs_slice h1
  obtain ⟨a2, c2, rfl⟩ := strs_slice h2
  obtain ⟨a3, c3, rfl⟩ := strs_slice h3
  simp [Fw.jobV, Value.oneCell']
end Go.Proofs.YtfifbnopgpffkaaGreatDoor.Pl
