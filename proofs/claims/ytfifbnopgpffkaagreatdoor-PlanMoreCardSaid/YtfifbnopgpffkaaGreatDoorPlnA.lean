import Derived.Test.YtfifbnopgpffkaaGreatDoorFlwA
set_option linter.unusedSimpArgs false
set_option linter.unusedVariables false
namespace Go.Proofs.YtfifbnopgpffkaaGreatDoor.Pl
open Go.RowKit Fw

/-- Is a table one that must be there? -/
def givB (f : Flw) (n : By) : Bool := f.ins.any fun i => i.name == n
/-- Does this job make it? -/
def mkB (f : Flw) (n : By) (k : Nat) : Bool := match f.jobs[k]? with | some j => j.outs.contains n | none => false
/-- May this job come behind these? -/
def rdyB (f : Flw) (k : Nat) (done : List Nat) : Bool := match f.jobs[k]? with | some j => j.ins.all fun n => givB f n || done.any (mkB f n) | none => false
/-- The order of jobs, from so many on. -/
def ordL (f : Flw) : Nat → List Nat → List Nat → Option (List Nat)
  | 0, _, told => some told
  | g + 1, left, told => match left.findIdx? fun k => rdyB f k told with
    | none => none
    | some i => ordL f g (left.eraseIdx i) (told ++ [left.getD i 0])
def ordF (f : Flw) : Option (List Nat) := ordL f f.jobs.length (List.range f.jobs.length) []
/-- The names of all tables. -/
def madeL (f : Flw) : List By := f.ins.map (·.name) ++ f.jobs.flatMap (·.outs)

theorem givB_iff {f : Flw} {n : By} : givB f n = true ↔ n ∈ f.ins.map (·.name) := by
  simp [givB, List.any_eq_true, beq_iff_eq]
theorem mkB_iff {f : Flw} {n : By} {k : Nat} : mkB f n k = true ↔ ∃ j, f.jobs[k]? = some j ∧ n ∈ j.outs := by
  unfold mkB
  cases h : f.jobs[k]? with
  | none => simp
  | some j => simp
theorem rdyB_iff {f : Flw} {k : Nat} {done : List Nat} : rdyB f k done = true ↔ ∃ j, f.jobs[k]? = some j ∧ ∀ n ∈ j.ins, n ∈ f.ins.map (·.name) ∨ ∃ m ∈ done, ∃ j', f.jobs[m]? = some j' ∧ n ∈ j'.outs := by
  unfold rdyB
  cases h : f.jobs[k]? with
  | none => simp
  | some j =>
    simp only [List.all_eq_true, Bool.or_eq_true, givB_iff, List.any_eq_true, mkB_iff, Option.some.injEq, exists_eq_left']
theorem rdyB_mono {f : Flw} {k : Nat} {d d' : List Nat} (h : rdyB f k d = true) (hd : ∀ x ∈ d, x ∈ d') : rdyB f k d' = true := by
  rw [rdyB_iff] at h ⊢
  obtain ⟨j, h1, h2⟩ := h
  exact ⟨j, h1, fun n hn => (h2 n hn).imp id (fun ⟨m, hm, q⟩ => ⟨m, hd m hm, q⟩)⟩
/-- An order in which each job comes behind all that it reads. -/
structure Good (f : Flw) (o : List Nat) : Prop where
  perm : o.Perm (List.range f.jobs.length)
  ready : ∀ i (h : i < o.length), rdyB f o[i] (o.take i) = true
theorem Good.nodup {f : Flw} {o : List Nat} (h : Good f o) : o.Nodup := h.perm.nodup_iff.2 List.nodup_range
theorem Good.mem {f : Flw} {o : List Nat} (h : Good f o) (k : Nat) : k ∈ o ↔ k < f.jobs.length := h.perm.mem_iff.trans List.mem_range
theorem Good.len {f : Flw} {o : List Nat} (h : Good f o) : o.length = f.jobs.length := by rw [h.perm.length_eq, List.length_range]
theorem erase_perm : ∀ (l : List Nat) (i : Nat) (h : i < l.length), (([l[i]] : List Nat) ++ l.eraseIdx i).Perm l
  | [], i, h => absurd h (by simp)
  | a :: r, 0, h => List.Perm.refl _
  | a :: r, i + 1, h => by
    have := erase_perm r i (by simpa using h)
    simp only [List.getElem_cons_succ, List.eraseIdx_cons_succ, List.singleton_append]
    exact (List.Perm.swap a _ _).trans (this.cons a)
theorem ord_good (f : Flw) : ∀ (g : Nat) (left told o : List Nat), left.length = g → (told ++ left).Perm (List.range f.jobs.length) → (∀ i (h : i < told.length), rdyB f told[i] (told.take i) = true) → ordL f g left told = some o → Good f o
  | 0, left, told, o, hl, hp, hr, h => by
    obtain rfl := Option.some.inj h
    obtain rfl := List.length_eq_zero_iff.1 hl
    exact ⟨by simpa using hp, hr⟩
  | g + 1, left, told, o, hl, hp, hr, h => by
    unfold ordL at h
    cases hi : left.findIdx? fun k => rdyB f k told with
    | none => rw [hi] at h; cases h
    | some i =>
      rw [hi] at h
      obtain ⟨hil, hp1, -⟩ := List.findIdx?_eq_some_iff_getElem.1 hi
      have hg : left.getD i 0 = left[i] := by simp [List.getD_eq_getElem?_getD, List.getElem?_eq_getElem hil]
      refine ord_good f g _ _ o (by rw [List.length_eraseIdx_of_lt hil]; omega) ?_ ?_ h
      · rw [hg, List.append_assoc]
        refine List.Perm.trans (List.Perm.append_left told ?_) hp
        exact erase_perm left i hil
      · intro q hq
        rw [List.length_append] at hq
        by_cases e : q < told.length
        · rw [List.getElem_append_left e, List.take_append_of_le_length (by omega)]
          exact hr q e
        · have hq2 : q = told.length := by simp at hq; omega
          subst hq2
          rw [List.getElem_append_right (Nat.le_refl _)]
          simp only [Nat.sub_self, List.getElem_cons_zero]
          rw [hg, List.take_left' rfl]
          exact hp1
/-- Jobs one behind the other, each behind all that it reads. -/
def Topo (I : List By) (p : List FJob) : Prop := ∀ p1 j p2, p = p1 ++ j :: p2 → ∀ n ∈ j.ins, n ∈ I ∨ ∃ j' ∈ p1, n ∈ j'.outs
theorem first_out {p : List FJob} {told : List FJob} : (∀ j ∈ p, j ∈ told) ∨ ∃ p1 j p2, p = p1 ++ j :: p2 ∧ (∀ x ∈ p1, x ∈ told) ∧ j ∉ told := by
  induction p with
  | nil => exact Or.inl (by simp)
  | cons a r ih =>
    by_cases ha : a ∈ told
    · rcases ih with h | ⟨p1, j, p2, rfl, h1, h2⟩
      · exact Or.inl (by simpa using ⟨ha, h⟩)
      · exact Or.inr ⟨a :: p1, j, p2, rfl, by simpa using ⟨ha, h1⟩, h2⟩
    · exact Or.inr ⟨[], a, r, rfl, by simp, ha⟩
theorem ord_total (f : Flw) (p : List FJob) (hp : ∀ j, j ∈ p ↔ j ∈ f.jobs) (ht : Topo (f.ins.map (·.name)) p) : ∀ (g : Nat) (left told : List Nat), left.length = g → (told ++ left).Perm (List.range f.jobs.length) → (∀ i (h : i < told.length), rdyB f told[i] (told.take i) = true) → ∃ o, ordL f g left told = some o
  | 0, left, told, hl, hq, hr => ⟨told, rfl⟩
  | g + 1, left, told, hl, hq, hr => by
    have hmem : ∀ k, (k ∈ told ∨ k ∈ left) ↔ k < f.jobs.length := fun k => by
      rw [← List.mem_append, hq.mem_iff, List.mem_range]
    have hsome : ∃ k ∈ left, rdyB f k told = true := by
      rcases first_out (p := p) (told := told.filterMap (fun k => f.jobs[k]?)) with h | ⟨p1, j, p2, rfl, h1, h2⟩
      · obtain ⟨k, hk⟩ : ∃ k, k ∈ left := by
          cases left with
          | nil => simp at hl
          | cons a r => exact ⟨a, by simp⟩
        refine ⟨k, hk, ?_⟩
        have hkl := (hmem k).1 (Or.inr hk)
        have hj := h f.jobs[k] ((hp _).2 (List.getElem_mem hkl))
        obtain ⟨m, hm, hmj⟩ := List.mem_filterMap.1 hj
        obtain ⟨i, hi, rfl⟩ := List.mem_iff_getElem.1 hm
        have hri := hr i hi
        rw [rdyB_iff] at hri ⊢
        obtain ⟨j, q1, q2⟩ := hri
        rw [hmj] at q1
        refine ⟨f.jobs[k], List.getElem?_eq_getElem hkl, fun n hn => ?_⟩
        rw [← Option.some.inj q1] at q2
        exact (q2 n hn).imp id (fun ⟨m', hm', z⟩ => ⟨m', List.mem_of_mem_take hm', z⟩)
      · obtain ⟨k, hk, rfl⟩ := List.mem_iff_getElem.1 ((hp j).1 (by simp))
        have hnt : k ∉ told := fun hkt => h2 (List.mem_filterMap.2 ⟨k, hkt, List.getElem?_eq_getElem hk⟩)
        refine ⟨k, ((hmem k).2 hk).resolve_left hnt, ?_⟩
        rw [rdyB_iff]
        refine ⟨f.jobs[k], List.getElem?_eq_getElem hk, fun n hn => ?_⟩
        refine (ht p1 _ p2 rfl n hn).imp id (fun ⟨j', hj', z⟩ => ?_)
        obtain ⟨m, hm, q⟩ := List.mem_filterMap.1 (h1 j' hj')
        exact ⟨m, hm, j', q, z⟩
    unfold ordL
    cases hi : left.findIdx? fun k => rdyB f k told with
    | none =>
      obtain ⟨k, hk, hr2⟩ := hsome
      have := List.findIdx?_eq_none_iff.1 hi k hk
      rw [hr2] at this
      cases this
    | some i =>
      obtain ⟨hil, hp1, -⟩ := List.findIdx?_eq_some_iff_getElem.1 hi
      have hg : left.getD i 0 = left[i] := by simp [List.getD_eq_getElem?_getD, List.getElem?_eq_getElem hil]
      refine ord_total f p hp ht g _ _ (by rw [List.length_eraseIdx_of_lt hil]; omega) ?_ ?_
      · rw [hg, List.append_assoc]
        refine List.Perm.trans (List.Perm.append_left told ?_) hq
        exact erase_perm left i hil
      · intro q hq
        rw [List.length_append] at hq
        by_cases e : q < told.length
        · rw [List.getElem_append_left e, List.take_append_of_le_length (by omega)]
          exact hr q e
        · have hq2 : q = told.length := by simp at hq; omega
          subst hq2
          rw [List.getElem_append_right (Nat.le_refl _)]
          simp only [Nat.sub_self, List.getElem_cons_zero]
          rw [hg, List.take_left' rfl]
          exact hp1
theorem ordF_good {f : Flw} {o : List Nat} (h : ordF f = some o) : Good f o := ord_good f _ _ _ _ (by simp) (by simp) (fun i hi => absurd hi (by simp)) h
theorem ordF_total {f : Flw} (p : List FJob) (hp : ∀ j, j ∈ p ↔ j ∈ f.jobs) (ht : Topo (f.ins.map (·.name)) p) : ∃ o, ordF f = some o := ord_total f p hp ht _ _ _ (by simp) (by simp) (fun i hi => absurd hi (by simp))
/-- The jobs, as they come. -/
def jobsO (f : Flw) (o : List Nat) : List FJob := o.filterMap fun k => f.jobs[k]?
theorem Good.jobs {f : Flw} {o : List Nat} (h : Good f o) : (∀ j, j ∈ jobsO f o ↔ j ∈ f.jobs) ∧ Topo (f.ins.map (·.name)) (jobsO f o) := by
  constructor
  · intro j
    unfold jobsO
    rw [List.mem_filterMap]
    constructor
    · rintro ⟨k, -, hk⟩
      exact List.mem_of_getElem? hk
    · intro hj
      obtain ⟨k, hk, rfl⟩ := List.mem_iff_getElem.1 hj
      exact ⟨k, (h.mem k).2 hk, List.getElem?_eq_getElem hk⟩
  · have key : ∀ i, i ≤ o.length → Topo (f.ins.map (·.name)) (jobsO f (o.take i)) := by
      intro i
      induction i with
      | zero => intro _ p1 j p2 e; simp [jobsO] at e
      | succ i ih =>
        intro hi p1 j p2 e n hn
        have hil : i < o.length := by omega
        have hr := rdyB_iff.1 (h.ready i hil)
        obtain ⟨j0, q1, q2⟩ := hr
        have e2 : jobsO f (o.take (i + 1)) = jobsO f (o.take i) ++ [j0] := by
          unfold jobsO
          rw [List.take_add_one, List.filterMap_append, List.getElem?_eq_getElem hil]
          simp [q1]
        rw [e2] at e
        rcases List.append_eq_append_iff.1 e with ⟨xs, ha1, ha2⟩ | ⟨bs, hb1, hb2⟩
        · cases xs with
          | nil =>
            simp at ha2
            obtain ⟨rfl, -⟩ := ha2
            refine (q2 n hn).imp id (fun ⟨m, hm, j', z1, z2⟩ => ⟨j', ?_, z2⟩)
            rw [ha1, List.append_nil]
            exact List.mem_filterMap.2 ⟨m, hm, z1⟩
          | cons a xs =>
            simp at ha2
        · cases bs with
          | nil =>
            simp at hb2
            obtain ⟨rfl, -⟩ := hb2
            refine (q2 n hn).imp id (fun ⟨m, hm, j', z1, z2⟩ => ⟨j', ?_, z2⟩)
            rw [List.append_nil] at hb1
            rw [← hb1]
            exact List.mem_filterMap.2 ⟨m, hm, z1⟩
          | cons b bs =>
            rw [List.cons_append] at hb2
            injection hb2 with hb2 hb3
            subst hb2
            exact ih (by omega) p1 j bs hb1 n hn
    have := key o.length (Nat.le_refl _)
    rwa [List.take_length] at this
end Go.Proofs.YtfifbnopgpffkaaGreatDoor.Pl
