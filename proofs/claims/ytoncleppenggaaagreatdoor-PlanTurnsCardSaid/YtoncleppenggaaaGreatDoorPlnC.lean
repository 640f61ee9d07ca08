import Derived.Test.YtoncleppenggaaaGreatDoorFlwA
import Derived.Test.YtoncleppenggaaaGreatDoorColA
import Derived.Test.YtoncleppenggaaaGreatDoorFlwPl
set_option linter.unusedSimpArgs false
set_option linter.unusedVariables false
namespace Go.Proofs.YtoncleppenggaaaGreatDoor.Pl
open Go.RowKit Fw

/-- Is a table one that must be there? -/
def givB (f : Flw) (n : By) : Bool := f.ins.any fun i => i.name == n
/-- Does this job make it? -/
def mkB (f : Flw) (n : By) (k : Nat) : Bool := match f.jobs[k]? with | some j => j.outs.contains n | none => false
/-- May this job come behind these? -/
def rdyB (f : Flw) (k : Nat) (done : List Nat) : Bool := match f.jobs[k]? with | some j => j.ins.all fun n => givB f n || done.any (mkB f n) | none => false
/-- The order of jobs, from so many on. -/
def ordL (f : Flw) : Nat → List Nat → List Nat → Option (List Nat)
  | 0, _, told => some told
  | g + 1, left, told => match left.findIdx? fun k => rdyB f k told with
    | none => none
    | some i => ordL f g (left.eraseIdx i) (told ++ [left.getD i 0])
def ordF (f : Flw) : Option (List Nat) := ordL f f.jobs.length (List.range f.jobs.length) []
/-- The names of all tables. -/
def madeL (f : Flw) : List By := f.ins.map (·.name) ++ f.jobs.flatMap (·.outs)

theorem givB_iff {f : Flw} {n : By} : givB f n = true ↔ n ∈ f.ins.map (·.name) := by
  simp [givB, List.any_eq_true, beq_iff_eq]
theorem mkB_iff {f : Flw} {n : By} {k : Nat} : mkB f n k = true ↔ ∃ j, f.jobs[k]? = some j ∧ n ∈ j.outs := by
  unfold mkB
  cases h : f.jobs[k]? with
  | none => simp
  | some j => simp
theorem rdyB_iff {f : Flw} {k : Nat} {done : List Nat} : rdyB f k done = true ↔ ∃ j, f.jobs[k]? = some j ∧ ∀ n ∈ j.ins, n ∈ f.ins.map (·.name) ∨ ∃ m ∈ done, ∃ j', f.jobs[m]? = some j' ∧ n ∈ j'.outs := by
  unfold rdyB
  cases h : f.jobs[k]? with
  | none => simp
  | some j =>
    simp only [List.all_eq_true, Bool.or_eq_true, givB_iff, List.any_eq_true, mkB_iff, Option.some.injEq, exists_eq_left']
theorem rdyB_mono {f : Flw} {k : Nat} {d d' : List Nat} (h : rdyB f k d = true) (hd : ∀ x ∈ d, x ∈ d') : rdyB f k d' = true := by
  rw [rdyB_iff] at h ⊢
  obtain ⟨j, h1, h2⟩ := h
  exact ⟨j, h1, fun n hn => (h2 n hn).imp id (fun ⟨m, hm, q⟩ => ⟨m, hd m hm, q⟩)⟩
/-- An order in which each job comes behind all that it reads. -/
structure Good (f : Flw) (o : List Nat) : Prop where
  perm : o.Perm (List.range f.jobs.length)
  ready : ∀ i (h : i < o.length), rdyB f o[i] (o.take i) = true
theorem Good.nodup {f : Flw} {o : List Nat} (h : Good f o) : o.Nodup := h.perm.nodup_iff.2 List.nodup_range
theorem Good.mem {f : Flw} {o : List Nat} (h : Good f o) (k : Nat) : k ∈ o ↔ k < f.jobs.length := h.perm.mem_iff.trans List.mem_range
theorem Good.len {f : Flw} {o : List Nat} (h : Good f o) : o.length = f.jobs.length := by rw [h.perm.length_eq, List.length_range]
theorem erase_perm : ∀ (l : List Nat) (i : Nat) (h : i < l.length), (([l[i]] : List Nat) ++ l.eraseIdx i).Perm l
  | [], i, h => absurd h (by simp)
  | a :: r, 0, h => List.Perm.refl _
  | a :: r, i + 1, h => by
    have := erase_perm r i (by simpa using h)
    simp only [List.getElem_cons_succ, List.eraseIdx_cons_succ, List.singleton_append]
    exact (List.Perm.swap a _ _).trans (this.cons a)
theorem ord_good (f : Flw) : ∀ (g : Nat) (left told o : List Nat), left.length = g → (told ++ left).Perm (List.range f.jobs.length) → (∀ i (h : i < told.length), rdyB f told[i] (told.take i) = true) → ordL f g left told = some o → Good f o
  | 0, left, told, o, hl, hp, hr, h => by
    obtain rfl := Option.some.inj h
    obtain rfl := List.length_eq_zero_iff.1 hl
    exact ⟨by simpa using hp, hr⟩
  | g + 1, left, told, o, hl, hp, hr, h => by
    unfold ordL at h
    cases hi : left.findIdx? fun k => rdyB f k told with
    | none => rw [hi] at h; cases h
    | some i =>
      rw [hi] at h
      obtain ⟨hil, hp1, -⟩ := List.findIdx?_eq_some_iff_getElem.1 hi
      have hg : left.getD i 0 = left[i] := by simp [List.getD_eq_getElem?_getD, List.getElem?_eq_getElem hil]
      refine ord_good f g _ _ o (by rw [List.length_eraseIdx_of_lt hil]; omega) ?_ ?_ h
      · rw [hg, List.append_assoc]
        refine List.Perm.trans (List.Perm.append_left told ?_) hp
        exact erase_perm left i hil
      · intro q hq
        rw [List.length_append] at hq
        by_cases e : q < told.length
        · rw [List.getElem_append_left e, List.take_append_of_le_length (by omega)]
          exact hr q e
        · have hq2 : q = told.length := by simp at hq; omega
          subst hq2
          rw [List.getElem_append_right (Nat.le_refl _)]
          simp only [Nat.sub_self, List.getElem_cons_zero]
          rw [hg, List.take_left' rfl]
          exact hp1
/-- Jobs one behind the other, each behind all that it reads. -/
def Topo (I : List By) (p : List FJob) : Prop := ∀ p1 j p2, p = p1 ++ j :: p2 → ∀ n ∈ j.ins, n ∈ I ∨ ∃ j' ∈ p1, n ∈ j'.outs
theorem first_out {p : List FJob} {told : List FJob} : (∀ j ∈ p, j ∈ told) ∨ ∃ p1 j p2, p = p1 ++ j :: p2 ∧ (∀ x ∈ p1, x ∈ told) ∧ j ∉ told := by
  induction p with
  | nil => exact Or.inl (by simp)
  | cons a r ih =>
    by_cases ha : a ∈ told
    · rcases ih with h | ⟨p1, j, p2, rfl, h1, h2⟩
      · exact Or.inl (by simpa using ⟨ha, h⟩)
      · exact Or.inr ⟨a :: p1, j, p2, rfl, by simpa using ⟨ha, h1⟩, h2⟩
    · exact Or.inr ⟨[], a, r, rfl, by simp, ha⟩
theorem ord_total (f : Flw) (p : List FJob) (hp : ∀ j, j ∈ p ↔ j ∈ f.jobs) (ht : Topo (f.ins.map (·.name)) p) : ∀ (g : Nat) (left told : List Nat), left.length = g → (told ++ left).Perm (List.range f.jobs.length) → (∀ i (h : i < told.length), rdyB f told[i] (told.take i) = true) → ∃ o, ordL f g left told = some o
  | 0, left, told, hl, hq, hr => ⟨told, rfl⟩
  | g + 1, left, told, hl, hq, hr => by
    have hmem : ∀ k, (k ∈ told ∨ k ∈ left) ↔ k < f.jobs.length := fun k => by
      rw [← List.mem_append, hq.mem_iff, List.mem_range]
    have hsome : ∃ k ∈ left, rdyB f k told = true := by
      rcases first_out (p := p) (told := told.filterMap (fun k => f.jobs[k]?)) with h | ⟨p1, j, p2, rfl, h1, h2⟩
      · obtain ⟨k, hk⟩ : ∃ k, k ∈ left := by
          cases left with
          | nil => simp at hl
          | cons a r => exact ⟨a, by simp⟩
        refine ⟨k, hk, ?_⟩
        have hkl := (hmem k).1 (Or.inr hk)
        have hj := h f.jobs[k] ((hp _).2 (List.getElem_mem hkl))
        obtain ⟨m, hm, hmj⟩ := List.mem_filterMap.1 hj
        obtain ⟨i, hi, rfl⟩ := List.mem_iff_getElem.1 hm
        have hri := hr i hi
        rw [rdyB_iff] at hri ⊢
        obtain ⟨j, q1, q2⟩ := hri
        rw [hmj] at q1
        refine ⟨f.jobs[k], List.getElem?_eq_getElem hkl, fun n hn => ?_⟩
        rw [← Option.some.inj q1] at q2
        exact (q2 n hn).imp id (fun ⟨m', hm', z⟩ => ⟨m', List.mem_of_mem_take hm', z⟩)
      · obtain ⟨k, hk, rfl⟩ := List.mem_iff_getElem.1 ((hp j).1 (by simp))
        have hnt : k ∉ told := fun hkt => h2 (List.mem_filterMap.2 ⟨k, hkt, List.getElem?_eq_getElem hk⟩)
        refine ⟨k, ((hmem k).2 hk).resolve_left hnt, ?_⟩
        rw [rdyB_iff]
        refine ⟨f.jobs[k], List.getElem?_eq_getElem hk, fun n hn => ?_⟩
        refine (ht p1 _ p2 rfl n hn).imp id (fun ⟨j', hj', z⟩ => ?_)
        obtain ⟨m, hm, q⟩ := List.mem_filterMap.1 (h1 j' hj')
        exact ⟨m, hm, j', q, z⟩
    unfold ordL
    cases hi : left.findIdx? fun k => rdyB f k told with
    | none =>
      obtain ⟨k, hk, hr2⟩ := hsome
      have := List.findIdx?_eq_none_iff.1 hi k hk
      rw [hr2] at this
      cases this
    | some i =>
      obtain ⟨hil, hp1, -⟩ := List.findIdx?_eq_some_iff_getElem.1 hi
      have hg : left.getD i 0 = left[i] := by simp [List.getD_eq_getElem?_getD, List.getElem?_eq_getElem hil]
      refine ord_total f p hp ht g _ _ (by rw [List.length_eraseIdx_of_lt hil]; omega) ?_ ?_
      · rw [hg, List.append_assoc]
        refine List.Perm.trans (List.Perm.append_left told ?_) hq
        exact erase_perm left i hil
      · intro q hq
        rw [List.length_append] at hq
        by_cases e : q < told.length
        · rw [List.getElem_append_left e, List.take_append_of_le_length (by omega)]
          exact hr q e
        · have hq2 : q = told.length := by simp at hq; omega
          subst hq2
          rw [List.getElem_append_right (Nat.le_refl _)]
          simp only [Nat.sub_self, List.getElem_cons_zero]
          rw [hg, List.take_left' rfl]
          exact hp1
theorem ordF_good {f : Flw} {o : List Nat} (h : ordF f = some o) : Good f o := ord_good f _ _ _ _ (by simp) (by simp) (fun i hi => absurd hi (by simp)) h
theorem ordF_total {f : Flw} (p : List FJob) (hp : ∀ j, j ∈ p ↔ j ∈ f.jobs) (ht : Topo (f.ins.map (·.name)) p) : ∃ o, ordF f = some o := ord_total f p hp ht _ _ _ (by simp) (by simp) (fun i hi => absurd hi (by simp))
/-- The jobs, as they come. -/
def jobsO (f : Flw) (o : List Nat) : List FJob := o.filterMap fun k => f.jobs[k]?
theorem Good.jobs {f : Flw} {o : List Nat} (h : Good f o) : (∀ j, j ∈ jobsO f o ↔ j ∈ f.jobs) ∧ Topo (f.ins.map (·.name)) (jobsO f o) := by
  constructor
  · intro j
    unfold jobsO
    rw [List.mem_filterMap]
    constructor
    · rintro ⟨k, -, hk⟩
      exact List.mem_of_getElem? hk
    · intro hj
      obtain ⟨k, hk, rfl⟩ := List.mem_iff_getElem.1 hj
      exact ⟨k, (h.mem k).2 hk, List.getElem?_eq_getElem hk⟩
  · have key : ∀ i, i ≤ o.length → Topo (f.ins.map (·.name)) (jobsO f (o.take i)) := by
      intro i
      induction i with
      | zero => intro _ p1 j p2 e; simp [jobsO] at e
      | succ i ih =>
        intro hi p1 j p2 e n hn
        have hil : i < o.length := by omega
        have hr := rdyB_iff.1 (h.ready i hil)
        obtain ⟨j0, q1, q2⟩ := hr
        have e2 : jobsO f (o.take (i + 1)) = jobsO f (o.take i) ++ [j0] := by
          unfold jobsO
          rw [List.take_add_one, List.filterMap_append, List.getElem?_eq_getElem hil]
          simp [q1]
        rw [e2] at e
        rcases List.append_eq_append_iff.1 e with ⟨xs, ha1, ha2⟩ | ⟨bs, hb1, hb2⟩
        · cases xs with
          | nil =>
            simp at ha2
            obtain ⟨rfl, -⟩ := ha2
            refine (q2 n hn).imp id (fun ⟨m, hm, j', z1, z2⟩ => ⟨j', ?_, z2⟩)
            rw [ha1, List.append_nil]
            exact List.mem_filterMap.2 ⟨m, hm, z1⟩
          | cons a xs =>
            simp at ha2
        · cases bs with
          | nil =>
            simp at hb2
            obtain ⟨rfl, -⟩ := hb2
            refine (q2 n hn).imp id (fun ⟨m, hm, j', z1, z2⟩ => ⟨j', ?_, z2⟩)
            rw [List.append_nil] at hb1
            rw [← hb1]
            exact List.mem_filterMap.2 ⟨m, hm, z1⟩
          | cons b bs =>
            rw [List.cons_append] at hb2
            injection hb2 with hb2 hb3
            subst hb2
            exact ih (by omega) p1 j bs hb1 n hn
    have := key o.length (Nat.le_refl _)
    rwa [List.take_length] at this
end Go.Proofs.YtoncleppenggaaaGreatDoor.Pl

namespace Go.Proofs.YtoncleppenggaaaGreatDoor.Pl
open Go.RowKit Fw

/-- Columns; which tables have which. -/
abbrev Cs := List (ByteArray × Int)
abbrev CM := List (By × Cs)
def lookM (m : CM) (n : By) : Option Cs := (m.find? fun x => x.1 == n).map (·.2)
def clsOf (l : List (By × Int)) : Cs := l.map fun c => (ba c.1, c.2)
def insM (f : Flw) : CM := f.ins.map fun i => (i.name, clsOf i.cols)
def inC (m : CM) (j : FJob) : List Cs := j.ins.map fun n => (lookM m n).getD []
abbrev keysM (m : CM) : List By := m.map (·.1)

theorem lookM_none {m : CM} {n : By} (h : n ∉ keysM m) : lookM m n = none := by
  unfold lookM
  rw [List.find?_eq_none.2 (fun x hx => by
    intro q
    exact h (List.mem_map.2 ⟨x, hx, by simpa using q⟩))]
  rfl
theorem lookM_some {m : CM} {n : By} (h : n ∈ keysM m) : ∃ x ∈ m, x.1 = n ∧ lookM m n = some x.2 := by
  unfold lookM
  cases hf : m.find? fun x => x.1 == n with
  | none =>
    obtain ⟨x, hx, e⟩ := List.mem_map.1 h
    exact absurd (by simpa using e) (List.find?_eq_none.1 hf x hx)
  | some x => exact ⟨x, List.mem_of_find?_eq_some hf, by simpa using List.find?_some hf, rfl⟩
theorem lookM_left {m r : CM} {n : By} (h : n ∈ keysM m) : lookM (m ++ r) n = lookM m n := by
  unfold lookM
  rw [List.find?_append]
  cases hf : m.find? fun x => x.1 == n with
  | none =>
    obtain ⟨x, hx, e⟩ := List.mem_map.1 h
    exact absurd (by simpa using e) (List.find?_eq_none.1 hf x hx)
  | some x => rfl
theorem lookM_right {m r : CM} {n : By} (h : n ∉ keysM m) : lookM (m ++ r) n = lookM r n := by
  have := lookM_none h
  unfold lookM at this ⊢
  rw [List.find?_append]
  cases hf : m.find? fun x => x.1 == n with
  | none => rfl
  | some x => rw [hf] at this; cases this
theorem lookM_const {l : List By} {c : Cs} {n : By} (h : n ∈ l) : lookM (l.map fun x => (x, c)) n = some c := by
  obtain ⟨x, hx, -, e2⟩ := lookM_some (m := l.map fun x => (x, c)) (n := n) (by simpa [keysM] using h)
  obtain ⟨y, -, rfl⟩ := List.mem_map.1 hx
  exact e2
theorem filterMap_all {α : Type} : ∀ (l1 l2 : List α), (List.range' l1.length l2.length).filterMap (fun k => (l1 ++ l2)[k]?) = l2
  | l1, [] => rfl
  | l1, a :: r => by
    have e : (l1 ++ a :: r) = (l1 ++ [a]) ++ r := by simp
    rw [List.length_cons, List.range'_succ, List.filterMap_cons]
    have h1 : (l1 ++ a :: r)[l1.length]? = some a := by simp
    rw [h1]
    simp only
    rw [e]
    have := filterMap_all (l1 ++ [a]) r
    rw [List.length_append, List.length_singleton] at this
    rw [this]
theorem Good.perm_jobs {f : Flw} {o : List Nat} (h : Good f o) : (jobsO f o).Perm f.jobs := by
  have h1 := (h.perm.filterMap (fun k => f.jobs[k]?))
  have h2 := filterMap_all ([] : List FJob) f.jobs
  rw [List.range_eq_range'] at h1
  have h3 : List.filterMap (fun k => f.jobs[k]?) (List.range' 0 f.jobs.length) = f.jobs := h2
  rw [h3] at h1
  exact h1
theorem made_perm {f g : Flw} (hi : g.ins = f.ins) (hp : g.jobs.Perm f.jobs) : (madeL g).Perm (madeL f) := by
  unfold madeL
  rw [hi]
  exact List.Perm.append_left _ (hp.flatMap_right _)

section
variable (E : FJob → List Cs → Int) (C : FJob → List Cs → Cs)
def runM : List FJob → CM → Option CM
  | [], m => some m
  | j :: r, m => if E j (inC m j) = 0 then runM r (m ++ j.outs.map fun n => (n, C j (inC m j))) else none
/-- A flow's columns, where its jobs come in this order. -/
def colsO (f : Flw) (o : List Nat) : Option CM := runM E C (jobsO f o) (insM f)
/-- What the columns must be. -/
structure Sol (f : Flw) (M : By → Option Cs) : Prop where
  ins : ∀ i ∈ f.ins, M i.name = some (clsOf i.cols)
  jobs : ∀ j ∈ f.jobs, E j (j.ins.map fun n => (M n).getD []) = 0 ∧ ∀ n ∈ j.outs, M n = some (C j (j.ins.map fun n => (M n).getD []))
  dom : ∀ n, n ∉ madeL f → M n = none
end
section
variable {E : FJob → List Cs → Int} {C : FJob → List Cs → Cs}
theorem runM_keys : ∀ {p : List FJob} {m m' : CM}, runM E C p m = some m' → ∃ r, m' = m ++ r ∧ keysM r = p.flatMap (·.outs)
  | [], m, m', h => ⟨[], by simpa [runM] using h.symm, rfl⟩
  | j :: r, m, m', h => by
    unfold runM at h
    by_cases he : E j (inC m j) = 0
    · rw [if_pos he] at h
      obtain ⟨r', rfl, h2⟩ := runM_keys h
      refine ⟨_, List.append_assoc _ _ _, ?_⟩
      rw [keysM, List.map_append, ← keysM, ← keysM, h2]
      simp [keysM, Function.comp_def]
    · rw [if_neg he] at h; cases h
theorem runM_at : ∀ {p1 : List FJob} {j : FJob} {p2 : List FJob} {m m' : CM}, runM E C (p1 ++ j :: p2) m = some m' → ∃ m1, runM E C p1 m = some m1 ∧ E j (inC m1 j) = 0 ∧ ∃ r, m' = (m1 ++ j.outs.map fun n => (n, C j (inC m1 j))) ++ r
  | [], j, p2, m, m', h => by
    rw [List.nil_append] at h
    unfold runM at h
    by_cases he : E j (inC m j) = 0
    · rw [if_pos he] at h
      obtain ⟨r', hr, -⟩ := runM_keys h
      exact ⟨m, rfl, he, r', hr⟩
    · rw [if_neg he] at h; cases h
  | a :: p1, j, p2, m, m', h => by
    rw [List.cons_append] at h
    unfold runM at h ⊢
    by_cases he : E a (inC m a) = 0
    · rw [if_pos he] at h ⊢
      exact runM_at h
    · rw [if_neg he] at h; cases h
theorem keys_ins (f : Flw) : keysM (insM f) = f.ins.map (·.name) := by simp [keysM, insM, Function.comp_def]
theorem run_sol {f : Flw} {o : List Nat} {m : CM} (hn : (madeL f).Nodup) (ho : Good f o) (h : colsO E C f o = some m) : Sol E C f (lookM m) ∧ (keysM m).Perm (madeL f) := by
  unfold colsO at h
  obtain ⟨hj, ht⟩ := ho.jobs
  obtain ⟨r, hr, hk⟩ := runM_keys h
  have hkm : (keysM m).Perm (madeL f) := by
    rw [hr, keysM, List.map_append, ← keysM, ← keysM, hk, keys_ins]
    exact List.Perm.append_left _ (ho.perm_jobs.flatMap_right _)
  have hnd : (keysM m).Nodup := hkm.nodup_iff.2 hn
  refine ⟨⟨fun i hi => ?_, fun j hjm => ?_, fun n hno => lookM_none (fun q => hno (hkm.mem_iff.1 q))⟩, hkm⟩
  · have hmem : i.name ∈ keysM (insM f) := by rw [keys_ins]; exact List.mem_map.2 ⟨i, hi, rfl⟩
    rw [hr, lookM_left hmem]
    obtain ⟨x, hx, e1, e2⟩ := lookM_some hmem
    rw [e2]
    obtain ⟨i', hi', rfl⟩ := List.mem_map.1 hx
    have hnd2 : (f.ins.map (·.name)).Nodup := (List.nodup_append.1 hn).1
    obtain ⟨a, ha, rfl⟩ := List.mem_iff_getElem.1 hi
    obtain ⟨b, hb, rfl⟩ := List.mem_iff_getElem.1 hi'
    have := (List.getElem_inj (xs := f.ins.map (·.name)) (i := b) (j := a) (h₀ := by simpa using hb) (h₁ := by simpa using ha) hnd2).1 (by simpa using e1)
    subst this
    rfl
  · obtain ⟨p1, p2, hp⟩ := List.append_of_mem ((hj j).2 hjm)
    rw [hp] at h ht
    obtain ⟨m1, h1, h2, r2, h3⟩ := runM_at h
    obtain ⟨r1, hr1, hk1⟩ := runM_keys h1
    have hkm1 : keysM m1 = f.ins.map (·.name) ++ p1.flatMap (·.outs) := by
      rw [hr1, keysM, List.map_append, ← keysM, ← keysM, hk1, keys_ins]
    have hin : ∀ n ∈ j.ins, lookM m n = lookM m1 n := by
      intro n hnj
      have : n ∈ keysM m1 := by
        rw [hkm1, List.mem_append]
        exact (ht p1 j p2 rfl n hnj).imp id (fun ⟨j', a, b⟩ => List.mem_flatMap.2 ⟨j', a, b⟩)
      rw [h3, List.append_assoc, lookM_left this]
    have hinc : (j.ins.map fun n => (lookM m n).getD []) = inC m1 j := List.map_congr_left (fun n hnj => by rw [hin n hnj])
    rw [hinc]
    refine ⟨h2, fun n hno => ?_⟩
    have hnn : n ∉ keysM m1 := by
      intro q
      rw [h3, List.append_assoc, keysM, List.map_append, List.map_append] at hnd
      have hd := (List.nodup_append.1 hnd).2.2
      exact hd n q n (List.mem_append_left _ (by simpa [Function.comp_def] using hno)) rfl
    rw [h3, List.append_assoc, lookM_right hnn, lookM_left (by simpa [keysM, Function.comp_def] using hno), lookM_const hno]
theorem runM_snoc : ∀ (p : List FJob) (j : FJob) (m : CM), runM E C (p ++ [j]) m = (runM E C p m).bind fun m1 => if E j (inC m1 j) = 0 then some (m1 ++ j.outs.map fun n => (n, C j (inC m1 j))) else none
  | [], j, m => by simp [runM]
  | a :: p, j, m => by
    rw [List.cons_append]
    unfold runM
    by_cases he : E a (inC m a) = 0
    · rw [if_pos he, if_pos he]; exact runM_snoc p j _
    · rw [if_neg he, if_neg he]; rfl
theorem sol_run {f : Flw} {o : List Nat} {M : By → Option Cs} (hS : Sol E C f M) (ho : Good f o) : ∃ m, colsO E C f o = some m ∧ (∀ n, lookM m n = M n) ∧ (keysM m).Perm (madeL f) := by
  obtain ⟨hj, ht⟩ := ho.jobs
  have key : ∀ (p2 p1 : List FJob), jobsO f o = p1 ++ p2 → ∀ m1, runM E C p1 (insM f) = some m1 → (∀ n ∈ keysM m1, lookM m1 n = M n) → ∃ m, runM E C (p1 ++ p2) (insM f) = some m ∧ ∀ n ∈ keysM m, lookM m n = M n := by
    intro p2
    induction p2 with
    | nil => intro p1 _ m1 h1 h2; exact ⟨m1, by simpa using h1, h2⟩
    | cons j p2 ih =>
      intro p1 hp m1 h1 h2
      obtain ⟨r1, hr1, hk1⟩ := runM_keys h1
      have hkm1 : keysM m1 = f.ins.map (·.name) ++ p1.flatMap (·.outs) := by
        rw [hr1, keysM, List.map_append, ← keysM, ← keysM, hk1, keys_ins]
      have hinc : inC m1 j = j.ins.map fun n => (M n).getD [] := List.map_congr_left (fun n hnj => by
        have : n ∈ keysM m1 := by
          rw [hkm1, List.mem_append]
          rw [hp] at ht
          exact (ht p1 j p2 rfl n hnj).imp id (fun ⟨j', a, b⟩ => List.mem_flatMap.2 ⟨j', a, b⟩)
        rw [h2 n this])
      have hjm : j ∈ f.jobs := (hj j).1 (by rw [hp]; simp)
      obtain ⟨q1, q2⟩ := hS.jobs j hjm
      have hs : runM E C (p1 ++ [j]) (insM f) = some (m1 ++ j.outs.map fun n => (n, C j (inC m1 j))) := by
        rw [runM_snoc, h1, Option.bind_some, if_pos (by rw [hinc]; exact q1)]
      have := ih (p1 ++ [j]) (by rw [hp]; simp) _ hs (fun n hn => by
        by_cases hm : n ∈ keysM m1
        · rw [lookM_left hm]; exact h2 n hm
        · rw [lookM_right hm]
          have hno : n ∈ j.outs := by
            rw [keysM, List.map_append, List.mem_append] at hn
            exact (hn.resolve_left hm) |> fun q => by simpa [Function.comp_def] using q
          rw [lookM_const hno, hinc, q2 n hno])
      rw [List.append_assoc] at this
      exact this
  obtain ⟨m, h1, h2⟩ := key (jobsO f o) [] rfl (insM f) rfl (fun n hn => by
    obtain ⟨x, hx, e1, e2⟩ := lookM_some hn
    obtain ⟨i, hi, rfl⟩ := List.mem_map.1 hx
    rw [e2, ← e1]
    exact (hS.ins i hi).symm)
  rw [List.nil_append] at h1
  obtain ⟨r, hr, hk⟩ := runM_keys h1
  have hkm : (keysM m).Perm (madeL f) := by
    rw [hr, keysM, List.map_append, ← keysM, ← keysM, hk, keys_ins]
    exact List.Perm.append_left _ (ho.perm_jobs.flatMap_right _)
  refine ⟨m, h1, fun n => ?_, hkm⟩
  by_cases hn : n ∈ keysM m
  · exact h2 n hn
  · rw [lookM_none hn, hS.dom n (fun q => hn (hkm.mem_iff.2 q))]
/-- With its jobs in another order. -/
theorem Sol.turn {f g : Flw} {M : By → Option Cs} (h : Sol E C f M) (hi : g.ins = f.ins) (hp : g.jobs.Perm f.jobs) : Sol E C g M :=
  ⟨fun i hi2 => h.ins i (by rw [← hi]; exact hi2), fun j hj => h.jobs j (hp.mem_iff.1 hj), fun n hn => h.dom n (fun q => hn ((made_perm hi hp).mem_iff.2 q))⟩
/-- With one job more. -/
theorem Sol.more {f g : Flw} {M : By → Option Cs} {nj : FJob} {nm : By} {c : Cs} (h : Sol E C f M) (hi : g.ins = f.ins) (hg : g.jobs = nj :: f.jobs) (hno : nm ∉ madeL f) (hout : nj.outs = [nm]) (hread : ∀ j ∈ f.jobs, ∀ n ∈ j.ins, n ∈ madeL f) (hin : nj.ins.map (fun n => (M n).getD []) = [c]) (hni : nm ∉ nj.ins) (hE : E nj [c] = 0) (hC : C nj [c] = c) :
    Sol E C g fun n => if n = nm then some c else M n := by
  have hof : ∀ j : FJob, nm ∉ j.ins → (j.ins.map fun n => (if n = nm then some c else M n).getD []) = j.ins.map fun n => (M n).getD [] := fun j hj => List.map_congr_left (fun n hn => by
    rw [if_neg (by rintro rfl; exact hj hn)])
  refine ⟨fun i hi2 => ?_, fun j hj => ?_, fun n hn => ?_⟩
  · rw [hi] at hi2
    rw [if_neg (by rintro rfl; exact hno (List.mem_append_left _ (List.mem_map.2 ⟨i, hi2, rfl⟩)))]
    exact h.ins i hi2
  · rw [hg, List.mem_cons] at hj
    rcases hj with rfl | hj
    · rw [hof j hni, hin]
      refine ⟨hE, fun n hn => ?_⟩
      rw [hout, List.mem_singleton] at hn
      rw [if_pos hn, hC]
    · rw [hof j (fun q => hno (hread j hj nm q))]
      obtain ⟨q1, q2⟩ := h.jobs j hj
      refine ⟨q1, fun n hn => ?_⟩
      rw [if_neg (by rintro rfl; exact hno (List.mem_append_right _ (List.mem_flatMap.2 ⟨j, hj, hn⟩)))]
      exact q2 n hn
  · have e : madeL g = f.ins.map (·.name) ++ (nj.outs ++ f.jobs.flatMap (·.outs)) := by simp [madeL, hi, hg]
    rw [e, hout] at hn
    rw [if_neg (by rintro rfl; exact hn (by simp))]
    exact h.dom n (fun q => hn (by
      rcases List.mem_append.1 q with q | q
      · exact List.mem_append_left _ q
      · exact List.mem_append_right _ (List.mem_append_right _ q)))
end
/-- The order with one job more, that nobody asks for. -/
theorem rdy_more {f g : Flw} {nj : FJob} {nm : By} (hi : g.ins = f.ins) (hg : g.jobs = nj :: f.jobs) (hno : nm ∉ madeL f) (hout : nj.outs = [nm]) (hread : ∀ j ∈ f.jobs, ∀ n ∈ j.ins, n ∈ madeL f) (k : Nat) (d : List Nat) : rdyB g (k + 1) (0 :: d.map (· + 1)) = rdyB f k d := by
  have e1 : ∀ n, givB g n = givB f n := fun n => by unfold givB; rw [hi]
  have e2 : ∀ n q, mkB g n (q + 1) = mkB f n q := fun n q => by unfold mkB; rw [hg, List.getElem?_cons_succ]
  unfold rdyB
  rw [hg, List.getElem?_cons_succ]
  cases hj : f.jobs[k]? with
  | none => rfl
  | some j =>
    simp only
    rw [Bool.eq_iff_iff, List.all_eq_true, List.all_eq_true]
    have key : ∀ n ∈ j.ins, (givB g n || (0 :: d.map (· + 1)).any (mkB g n)) = (givB f n || d.any (mkB f n)) := by
      intro n hn
      have hnn : mkB g n 0 = false := by
        unfold mkB
        rw [hg]
        simp only [List.getElem?_cons_zero, hout]
        have : n ≠ nm := by rintro rfl; exact hno (hread j (List.mem_of_getElem? hj) n hn)
        simpa using this
      rw [e1, List.any_cons, hnn, Bool.false_or, List.any_map]
      congr 1
      exact congrArg (fun p => d.any p) (funext fun q => e2 n q)
    exact ⟨fun h n hn => by rw [← key n hn]; exact h n hn, fun h n hn => by rw [key n hn]; exact h n hn⟩
theorem erase_map : ∀ (l : List Nat) (i : Nat), (l.map (· + 1)).eraseIdx i = (l.eraseIdx i).map (· + 1)
  | [], i => by simp
  | a :: r, 0 => rfl
  | a :: r, i + 1 => by simp [erase_map r i]
theorem ord_more {f g : Flw} {nj : FJob} {nm : By} (hi : g.ins = f.ins) (hg : g.jobs = nj :: f.jobs) (hno : nm ∉ madeL f) (hout : nj.outs = [nm]) (hread : ∀ j ∈ f.jobs, ∀ n ∈ j.ins, n ∈ madeL f) : ∀ (q : Nat) (left told : List Nat), left.length = q → ordL g q (left.map (· + 1)) (0 :: told.map (· + 1)) = (ordL f q left told).map fun o => 0 :: o.map (· + 1)
  | 0, left, told, _ => rfl
  | q + 1, left, told, hl => by
    unfold ordL
    rw [List.findIdx?_map]
    have e : ((fun k => rdyB g k (0 :: told.map (· + 1))) ∘ fun x => x + 1) = fun k => rdyB f k told := funext fun k => rdy_more hi hg hno hout hread k told
    rw [e]
    cases hx : left.findIdx? fun k => rdyB f k told with
    | none => rfl
    | some i =>
      obtain ⟨hil, -, -⟩ := List.findIdx?_eq_some_iff_getElem.1 hx
      simp only
      have h1 : (left.map (· + 1)).eraseIdx i = (left.eraseIdx i).map (· + 1) := erase_map left i
      have h2 : (left.map (· + 1)).getD i 0 = left.getD i 0 + 1 := by
        simp [List.getD_eq_getElem?_getD, List.getElem?_eq_getElem hil]
      rw [h1, h2]
      have := ord_more hi hg hno hout hread q (left.eraseIdx i) (told ++ [left.getD i 0]) (by rw [List.length_eraseIdx_of_lt hil]; omega)
      rw [List.map_append] at this
      exact this
theorem ordF_more {f g : Flw} {nj : FJob} {nm : By} (hi : g.ins = f.ins) (hg : g.jobs = nj :: f.jobs) (hno : nm ∉ madeL f) (hout : nj.outs = [nm]) (hread : ∀ j ∈ f.jobs, ∀ n ∈ j.ins, n ∈ madeL f) (hnj : ∀ n ∈ nj.ins, n ∈ f.ins.map (·.name)) : ordF g = (ordF f).map fun o => 0 :: o.map (· + 1) := by
  unfold ordF
  rw [hg, List.length_cons]
  have hr : rdyB g 0 [] = true := by
    rw [rdyB_iff]
    exact ⟨nj, by rw [hg]; rfl, fun n hn => Or.inl (by rw [hi]; exact hnj n hn)⟩
  have h0 : List.range (f.jobs.length + 1) = 0 :: (List.range f.jobs.length).map (· + 1) := List.range_succ_eq_map
  rw [show ordL g (f.jobs.length + 1) (List.range (f.jobs.length + 1)) [] = ordL g f.jobs.length ((List.range f.jobs.length).map (· + 1)) (0 :: ([] : List Nat).map (· + 1)) by
    rw [h0, ordL, List.findIdx?_cons, hr]
    rfl]
  exact ord_more hi hg hno hout hread f.jobs.length (List.range f.jobs.length) [] (by simp)
end Go.Proofs.YtoncleppenggaaaGreatDoor.Pl

namespace Go.Proofs.YtoncleppenggaaaGreatDoor.Pl
open Go.RowKit
open Fw (By FJob Flw ba)

/-- A job as package ops sees it. -/
def jbOf (j : FJob) (vo vi vc : Value) : Jb := ⟨(j.at_ : Nat), j.code, vo, vi, vc, ba j.op, (ba j.left.1, j.left.2.1, j.left.2.2.1, ba j.left.2.2.2), (ba j.right.1, j.right.2.1, j.right.2.2.1, ba j.right.2.2.2), j.retry⟩
theorem jb_cells (j : FJob) (vo vi vc : Value) : (jbOf j vo vi vc).cells = (Fw.jobV j vo vi vc).toArray := rfl
abbrev jb0 (j : FJob) : Jb := jbOf j (.slice none 0 0) (.slice none 0 0) (.slice none 0 0)
/-- What is wrong with a job's columns (0: nothing), and what it makes of them. -/
noncomputable def bodyE (j : FJob) (ins : List Cs) : Int :=
  if j.code = 1 ∨ j.code = 9 then testErr (ins.getD 0 []) (jb0 j)
  else if j.code = 2 then setErr (ins.getD 0 []) (jb0 j) (j.cols.getD 0 [])
  else if j.code = 3 ∨ j.code = 4 then listErr (ins.getD 0 []) (j.cols.map ba)
  else if j.code = 5 then uniErr (ins.getD 0 []) (ins.getD 1 [])
  else if j.code = 7 then joinErr (ins.getD 0 []) (ins.getD 1 []) (ba (j.cols.getD 0 [])) (ba (j.cols.getD 1 []))
  else if j.code = 8 then grpErr (ins.getD 0 []) (ba (j.cols.getD 0 [])) (ba (j.cols.getD 1 []))
  else 0
noncomputable def colsE (j : FJob) (ins : List Cs) : Int := if j.outs.length = (if j.code = 9 then 2 else 1) then bodyE j ins else 1
noncomputable def colsC (j : FJob) (ins : List Cs) : Cs :=
  if j.code = 3 ∨ j.code = 8 then pickC (placesN (ins.getD 0 []) (j.cols.map ba)) (ins.getD 0 [])
  else if j.code = 7 then besL (ins.getD 0 []) (ins.getD 1 []) ((placeN (ins.getD 1 []) (j.cols.getD 1 [])).getD 0)
  else ins.getD 0 []
/-- Columns that may be. -/
def CsOK (c : Cs) : Prop := 1 ≤ c.length ∧ c.length ≤ 6 ∧ ∀ x ∈ c, x.1.size ≤ 1000
/-- Columns in memory. -/
def ColV (w : World) (u : Value) (cs : Cs) : Prop := ∃ b o c, u = .slice (some ⟨b, o, none⟩) cs.length c ∧ cs.length ≤ c ∧ b < w.heap.size ∧ ColsAt w b o cs
theorem ColV.below {w w' : World} {u : Value} {cs : Cs} (h : ColV w u cs) (hb : Below w.heap.size w w') : ColV w' u cs := by
  obtain ⟨b, o, c, h1, h2, h3, h4⟩ := h
  exact ⟨b, o, c, h1, h2, Nat.lt_of_lt_of_le h3 hb.size, h4.below hb h3⟩
theorem ColV.of {w : World} {B : Nat} {u : Value} {cs : Cs} (h : w.ownsRow B 48 2 u cs.length (colCells cs)) (hs : CsOK cs) : ColV w u cs := by
  obtain ⟨a, c, h1, h2, -, h4⟩ := cols_of_own h (fun x hx => Nat.le_trans (hs.2.2 x hx) (by decide))
  rcases h4 with h4 | ⟨b, o, rfl, h5, h6⟩
  · rw [h4] at hs; exact absurd hs.1 (by decide)
  · exact ⟨b, o, c, h1, h2, h5, h6⟩
theorem strsC_of {w : World} {v : Value} {xs : List By} (h : Fw.StrsR w v xs) (hm : xs.length ≤ 1000) : StrsC w v (xs.map ba) := by
  rcases h with ⟨rfl, rfl⟩ | ⟨b, o, c, rfl, h2, h3, h4⟩
  · exact ⟨none, 0, rfl, Nat.le_refl _, by decide, Or.inl rfl⟩
  · refine ⟨some ⟨b, o, none⟩, c, by rw [List.length_map], by rw [List.length_map]; exact h2, by rw [List.length_map]; exact Nat.le_trans hm (by decide), Or.inr ⟨b, o, rfl, h3, fun j hj => ?_⟩⟩
    rw [List.length_map] at hj
    rw [h4 j hj, List.getElem_map]
theorem strs_one {w : World} {v : Value} {a : By} (h : Fw.StrsR w v [a]) : ∃ b o c, v = .slice (some ⟨b, o, none⟩) 1 c ∧ b < w.heap.size ∧ w.cell? ⟨b, o, none⟩ = some (.string (ba a)) := by
  rcases h with ⟨-, h⟩ | ⟨b, o, c, rfl, h2, h3, h4⟩
  · cases h
  · exact ⟨b, o, c, rfl, h3, by simpa using h4 0 (by simp)⟩
theorem strs_two {w : World} {v : Value} {a a' : By} (h : Fw.StrsR w v [a, a']) : ∃ b o c, v = .slice (some ⟨b, o, none⟩) 2 c ∧ b < w.heap.size ∧ w.cell? ⟨b, o, none⟩ = some (.string (ba a)) ∧ w.cell? ⟨b, o + 1, none⟩ = some (.string (ba a')) := by
  rcases h with ⟨-, h⟩ | ⟨b, o, c, rfl, h2, h3, h4⟩
  · cases h
  · exact ⟨b, o, c, rfl, h3, by simpa using h4 0 (by simp), by simpa using h4 1 (by simp)⟩
theorem grp_list {cs : Cs} {x y : ByteArray} (h : grpErr cs x y = 0) : listErr cs [x, y] = 0 := by
  unfold grpErr at h
  split at h
  · rename_i p q hp hq
    have hpq : p ≠ q := by
      intro e
      subst e
      by_cases hk : kindAt cs p ≠ 1
      · rw [if_pos hk] at h; cases h
      · rw [if_neg hk, if_pos rfl] at h; cases h
    have hxy : ¬ x.data.toList = y.data.toList := by
      intro e
      rw [e] at hp
      exact hpq (Option.some.inj (hp.symm.trans hq))
    simp [listErr, lerr, hp, hq, inS, hxy]
    exact fun e => hxy (by rw [e])
  · cases h
theorem pick_ok {cs : Cs} {ss : List ByteArray} (h : listErr cs ss = 0) (hc : CsOK cs) : CsOK (pickC (placesN cs ss) cs) := by
  obtain ⟨l0, l6, hall⟩ := listErr_0 h
  refine ⟨by simp [pickC, placesN]; omega, by simp [pickC, placesN]; omega, fun x hx => ?_⟩
  obtain ⟨k, hk, rfl⟩ := List.mem_map.1 hx
  have := places_lt hall k hk
  rw [List.getElem?_eq_getElem this]
  exact hc.2.2 _ (List.getElem_mem this)
theorem join_ok {cs ds : Cs} {x y : ByteArray} (h : joinErr cs ds x y = 0) (hc : CsOK cs) (hd : CsOK ds) : ∃ q, placeN ds y.data.toList = some q ∧ CsOK (besL cs ds q) := by
  unfold joinErr at h
  split at h
  · rename_i p q hp hq
    refine ⟨q, hq, ?_⟩
    have h6 : (besL cs ds q).length ≤ 6 := by
      by_cases hk : kindAt cs p ≠ kindAt ds q
      · rw [if_pos hk] at h; cases h
      · rw [if_neg hk] at h
        by_cases ht : twiceB (besL cs ds q) = true
        · rw [if_pos ht] at h; cases h
        · rw [if_neg ht] at h
          by_cases h6 : 6 < (besL cs ds q).length
          · rw [if_pos h6] at h; cases h
          · omega
    refine ⟨?_, h6, fun z hz => ?_⟩
    · have := hc.1
      simp [besL]; omega
    · simp only [besL, List.mem_append] at hz
      rcases hz with (hz | hz) | hz
      · exact hc.2.2 z hz
      · exact hd.2.2 z (List.mem_of_mem_take hz)
      · exact hd.2.2 z (List.mem_of_mem_drop hz)
  · cases h
/-- What a job makes of columns that may be may be. -/
theorem colsC_ok {j : FJob} {ins : List Cs} (hj : Fw.JobOK j) (hl : ins.length = j.ins.length) (hi : ∀ c ∈ ins, CsOK c) (h : colsE j ins = 0) : CsOK (colsC j ins) := by
  obtain ⟨f2, f7, f8, fi, fo⟩ := hj.fm
  have hb : bodyE j ins = 0 := by
    unfold colsE at h
    by_cases ho : j.outs.length = (if j.code = 9 then 2 else 1)
    · rwa [if_pos ho] at h
    · rw [if_neg ho] at h; cases h
  have h0 : CsOK (ins.getD 0 []) := by
    have : 0 < ins.length := by
      rw [hl]
      by_cases e5 : j.code = 5
      · obtain ⟨a, b, e⟩ := fi (Or.inl e5); rw [e]; simp
      · by_cases e7 : j.code = 7
        · obtain ⟨a, b, e⟩ := fi (Or.inr e7); rw [e]; simp
        · obtain ⟨a, e⟩ := fo e5 e7; rw [e]; simp
    rw [List.getD_eq_getElem?_getD, List.getElem?_eq_getElem this]
    exact hi _ (List.getElem_mem this)
  unfold bodyE at hb
  unfold colsC
  rcases hj.code with e | e | e | e | e | e | e | e | e
  · simp [e] at hb ⊢; simpa using h0
  · simp [e] at hb ⊢; simpa using h0
  · simp only [e] at hb ⊢
    simp at hb ⊢
    exact pick_ok hb (by simpa using h0)
  · simp [e] at hb ⊢; simpa using h0
  · simp [e] at hb ⊢; simpa using h0
  · simp [e] at hb ⊢; simpa using h0
  · have h1 : CsOK (ins.getD 1 []) := by
      obtain ⟨a, b, e2⟩ := fi (Or.inr e)
      have : 1 < ins.length := by rw [hl, e2]; simp
      rw [List.getD_eq_getElem?_getD, List.getElem?_eq_getElem this]
      exact hi _ (List.getElem_mem this)
    rw [if_neg (by omega), if_neg (by omega), if_neg (by omega), if_neg (by omega), if_pos e] at hb
    rw [if_neg (by omega), if_pos e]
    obtain ⟨q, hq, hok⟩ := join_ok hb h0 h1
    have hq' : placeN (ins.getD 1 []) (j.cols.getD 1 []) = some q := hq
    rw [hq']
    exact hok
  · rw [if_neg (by omega), if_neg (by omega), if_neg (by omega), if_neg (by omega), if_neg (by omega), if_pos e] at hb
    rw [if_pos (Or.inr e)]
    obtain ⟨a, b, e2, -⟩ := f8 e
    rw [e2] at hb ⊢
    exact pick_ok (grp_list hb) h0
  · simp [e] at hb ⊢; simpa using h0
end Go.Proofs.YtoncleppenggaaaGreatDoor.Pl

