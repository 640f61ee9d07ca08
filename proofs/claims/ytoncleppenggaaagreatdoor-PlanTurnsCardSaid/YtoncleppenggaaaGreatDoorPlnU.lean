import Derived.Test.YtoncleppenggaaaGreatDoorPlnT
set_option linter.unusedSimpArgs false
set_option linter.unusedVariables false
namespace Go.Proofs.YtoncleppenggaaaGreatDoor.Pl
open Go.RowKit Go.Maps Go.Shelf
open Fw (By FJob Flw ba strV encL zeroJ)

theorem CheckOK.one {f : Flw} {o o' : List Nat} {m m' : CM} (h : CheckOK f o m) (h' : CheckOK f o' m') : o = o' ∧ m = m' := by
  have e : o = o' := Option.some.inj (h.2.1.symm.trans h'.2.1)
  subst e
  exact ⟨rfl, Option.some.inj (h.2.2.symm.trans h'.2.2)⟩
theorem Fine.turn {f g : Flw} (h : Fine f) (hi : g.ins = f.ins) (hp : g.jobs.Perm f.jobs) (ho : g.outs = f.outs) : Fine g :=
  have hm := made_perm hi hp
  ⟨fun i hi2 => h.cols i (by rw [← hi]; exact hi2), hm.nodup_iff.2 h.nodup, fun j hj n hn => hm.mem_iff.2 (h.reads j (hp.mem_iff.1 hj) n hn), fun o ho2 => hm.mem_iff.2 (h.outs o (by rw [← ho]; exact ho2)), by rw [ho]; exact h.told⟩
/-- With its jobs in another order nothing is found, and the columns are the same. -/
theorem turn_ok {f g : Flw} {o : List Nat} {m : CM} (h : CheckOK f o m) (hi : g.ins = f.ins) (hp : g.jobs.Perm f.jobs) (ho : g.outs = f.outs) : ∃ o' m', CheckOK g o' m' ∧ (∀ n, lookM m n = lookM m' n) ∧ m.length = m'.length := by
  have hg := ordF_good h.2.1
  obtain ⟨hj, ht⟩ := hg.jobs
  obtain ⟨o', ho'⟩ := ordF_total (f := g) (jobsO f o) (fun j => (hj j).trans hp.mem_iff.symm) (by rw [hi]; exact ht)
  obtain ⟨hS, hk⟩ := run_sol h.1.nodup hg h.2.2
  obtain ⟨m', hm', hl, hk'⟩ := sol_run (hS.turn hi hp) (ordF_good ho')
  refine ⟨o', m', ⟨h.1.turn hi hp ho, ho', hm'⟩, fun n => (hl n).symm, ?_⟩
  have e1 := hk.length_eq
  have e2 := hk'.length_eq
  have e3 := (made_perm hi hp).length_eq
  simp only [keysM, List.length_map] at e1 e2
  omega
def rotF (f : Flw) (k : Nat) : Flw := ⟨f.ins, f.jobs.drop k ++ f.jobs.take k, f.outs⟩
theorem rot_perm (f : Flw) (k : Nat) : (rotF f k).jobs.Perm f.jobs := by
  show (f.jobs.drop k ++ f.jobs.take k).Perm f.jobs
  have := List.perm_append_comm (l₁ := f.jobs.drop k) (l₂ := f.jobs.take k)
  rwa [List.take_append_drop] at this
theorem rot_len (f : Flw) (k : Nat) : (rotF f k).jobs.length = f.jobs.length := (rot_perm f k).length_eq
theorem rot_ok {f : Flw} (h : Fw.FlwOK f) (k : Nat) : Fw.FlwOK (rotF f k) := ⟨h.ins, fun a ha => h.jobs a ((rot_perm f k).mem_iff.1 ha), h.outs, h.il, by rw [rot_len]; exact h.jl, h.ol⟩
theorem flat_len15 (F : Nat → List Value) : ∀ (I : List Nat), (∀ x ∈ I, (F x).length = 15) → (I.flatMap F).length = I.length * 15
  | [], _ => rfl
  | a :: r, h => by
    rw [List.flatMap_cons, List.length_append, h a (by simp), flat_len15 F r (fun x hx => h x (by simp [hx])), List.length_cons]
    omega
theorem flat_at15 (F : Nat → List Value) : ∀ (I : List Nat), (∀ x ∈ I, (F x).length = 15) → ∀ (p : Nat) (hp : p < I.length) (r : Nat), r < 15 → (I.flatMap F)[p * 15 + r]? = (F I[p])[r]?
  | [], _, p, hp, _, _ => absurd hp (by simp)
  | a :: l, h, 0, hp, r, hr => by
    rw [List.flatMap_cons, Nat.zero_mul, Nat.zero_add, List.getElem?_append_left (by rw [h a (by simp)]; exact hr)]
    rfl
  | a :: l, h, p + 1, hp, r, hr => by
    have ha := h a (by simp)
    rw [List.flatMap_cons, List.getElem?_append_right (by rw [ha]; omega), ha, show (p + 1) * 15 + r - 15 = p * 15 + r by omega, flat_at15 F l (fun x hx => h x (by simp [hx])) p (by simpa using hp) r hr]
    rfl
/-- A job's cells. -/
structure JC (w : World) (b : Nat) (l : List FJob) (j : Nat) (xs : List Value) : Prop where
  len : xs.length = 15
  one : ∀ u ∈ xs, u.oneCell' = true
  at_ : w.rangeAt b (j * 15) xs
  job : ∃ a vo vi vc, l[j]? = some a ∧ xs = Fw.jobV a vo vi vc ∧ Fw.StrsR w vo a.outs ∧ Fw.StrsR w vi a.ins ∧ Fw.StrsR w vc a.cols
theorem jobs_cells {w : World} {b n : Nat} {l : List FJob} (h : ∀ j, j < n → Fw.JobCellsAt l j w b (j * 15)) : ∃ F : Nat → List Value, ∀ j, j < n → JC w b l j (F j) := by
  have ex : ∀ j, j < n → ∃ xs, JC w b l j xs := fun j hj => by
    obtain ⟨a, vo, vi, vc, h1, h2, h3, h4, h5⟩ := h j hj
    refine ⟨Fw.jobV a vo vi vc, rfl, fun u hu => ?_, fun i u hu => h2 i u hu, a, vo, vi, vc, h1, rfl, h3, h4, h5⟩
    have := jobV_one h3 h4 h5
    rw [Array.all_eq_true] at this
    obtain ⟨i, hi, rfl⟩ := List.mem_iff_getElem.1 hu
    exact this i (by simpa using hi)
  classical
  exact ⟨fun j => if hj : j < n then Classical.choose (ex j hj) else [], fun j hj => by simp only [dif_pos hj]; exact Classical.choose_spec (ex j hj)⟩
theorem part_cells {w : World} {b n s m : Nat} {l : List FJob} {F : Nat → List Value} (h : ∀ j, j < n → JC w b l j (F j)) (hs : s + m ≤ n) : ((List.range' s m).flatMap F).length = m * 15 ∧ w.rangeAt b (s * 15) ((List.range' s m).flatMap F) ∧ ∀ u ∈ (List.range' s m).flatMap F, u.oneCell' = true := by
  have hlen : ∀ x ∈ List.range' s m, (F x).length = 15 := fun x hx => (h x (by have := List.mem_range'_1.1 hx; omega)).len
  have hl := flat_len15 F _ hlen
  rw [List.length_range'] at hl
  refine ⟨hl, fun j v hv => ?_, fun u hu => ?_⟩
  · have hj : j < m * 15 := by rw [← hl]; exact (List.getElem?_eq_some_iff.1 hv).1
    have hp : j / 15 < (List.range' s m).length := by rw [List.length_range']; omega
    have e := flat_at15 F _ hlen (j / 15) hp (j % 15) (Nat.mod_lt _ (by decide))
    rw [show j / 15 * 15 + j % 15 = j by omega, hv] at e
    have e2 : (List.range' s m)[j / 15] = s + j / 15 := by simp
    rw [e2] at e
    have := (h (s + j / 15) (by rw [List.length_range'] at hp; omega)).at_ (j % 15) v e.symm
    rw [show (s + j / 15) * 15 + j % 15 = s * 15 + j by omega] at this
    exact this
  · obtain ⟨x, hx, hu2⟩ := List.mem_flatMap.1 hu
    exact (h x (by have := List.mem_range'_1.1 hx; omega)).one u hu2
theorem rot_at {f : Flw} {k p : Nat} (hk : k ≤ f.jobs.length) (hp : p < f.jobs.length) : ∃ (h : p < (List.range' k (f.jobs.length - k) ++ List.range' 0 k).length), (List.range' k (f.jobs.length - k) ++ List.range' 0 k)[p] < f.jobs.length ∧ (rotF f k).jobs[p]? = f.jobs[(List.range' k (f.jobs.length - k) ++ List.range' 0 k)[p]]? := by
  have hl : p < (List.range' k (f.jobs.length - k) ++ List.range' 0 k).length := by simp; omega
  refine ⟨hl, ?_⟩
  by_cases h : p < f.jobs.length - k
  · have e : (List.range' k (f.jobs.length - k) ++ List.range' 0 k)[p] = k + p := by
      rw [List.getElem_append_left (by simpa using h)]; simp
    rw [e]
    refine ⟨by omega, ?_⟩
    show (f.jobs.drop k ++ f.jobs.take k)[p]? = _
    rw [List.getElem?_append_left (by simpa using h), List.getElem?_drop]
  · have e : (List.range' k (f.jobs.length - k) ++ List.range' 0 k)[p] = p - (f.jobs.length - k) := by
      rw [List.getElem_append_right (by simpa using h)]; simp
    rw [e]
    refine ⟨by omega, ?_⟩
    show (f.jobs.drop k ++ f.jobs.take k)[p]? = _
    rw [List.getElem?_append_right (by simpa using h), List.length_drop, List.getElem?_take, if_pos (by omega)]
/-- The flow with its jobs in another order, in memory. -/
theorem rot_flow {w w' : World} {B b c k : Nat} {f : Flw} {vi vo gv : Value} {F : Nat → List Value} (hF : ∀ j, j < f.jobs.length → JC w b f.jobs j (F j)) (hk : k < f.jobs.length) (hin : Fw.RowR w vi f.ins.length 3 (Fw.InAt f.ins)) (hout : Fw.RowR w vo f.outs.length 3 (Fw.OutAt f.outs)) (hb : Below w.heap.size w w')
    (hg : w'.ownsRow B 43 15 gv f.jobs.length ((List.range' k (f.jobs.length - k)).flatMap F ++ (List.range' 0 k).flatMap F)) : Fw.FlowRd w' (rotF f k) vi gv vo := by
  refine ⟨hin.below hb fun _ _ _ hh hl => hh.below hb hl, ?_, hout.below hb fun _ _ _ hh hl => hh.below hb hl⟩
  rw [rot_len]
  refine Fw.RowR.of hg fun b' hc p hp => ?_
  obtain ⟨hl, h1, h2⟩ := rot_at (Nat.le_of_lt hk) hp
  obtain ⟨a, vo', vi', vc', j1, j2, j3, j4, j5⟩ := (hF _ h1).job
  refine ⟨a, vo', vi', vc', h2.trans j1, fun i u hu => ?_, j3.below hb, j4.below hb, j5.below hb⟩
  have hi : i < 15 := (List.getElem?_eq_some_iff.1 hu).1
  have hlen : ∀ x ∈ List.range' k (f.jobs.length - k) ++ List.range' 0 k, (F x).length = 15 := fun x hx => by
    refine (hF x ?_).len
    rcases List.mem_append.1 hx with hx | hx
    · have := List.mem_range'_1.1 hx; omega
    · have := List.mem_range'_1.1 hx; omega
  have e := flat_at15 F _ hlen p hl i hi
  rw [List.flatMap_append, j2, hu] at e
  exact hc (p * 15 + i) u (by omega) e
end Go.Proofs.YtoncleppenggaaaGreatDoor.Pl

