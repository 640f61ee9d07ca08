import Derived.Test.YtfifbnopgpffkaaGreatDoorPlnA
set_option linter.unusedSimpArgs false
set_option linter.unusedVariables false
set_option linter.unusedSectionVars false
namespace Go.Proofs.YtfifbnopgpffkaaGreatDoor.Pl
open Go.RowKit Fw

/-- Columns; which tables have which. -/
abbrev Cs := List (ByteArray × Int)
abbrev CM := List (By × Cs)
def lookM (m : CM) (n : By) : Option Cs := (m.find? fun x => x.1 == n).map (·.2)
def clsOf (l : List (By × Int)) : Cs := l.map fun c => (ba c.1, c.2)
def insM (f : Flw) : CM := f.ins.map fun i => (i.name, clsOf i.cols)
def inC (m : CM) (j : FJob) : List Cs := j.ins.map fun n => (lookM m n).getD []
abbrev keysM (m : CM) : List By := m.map (·.1)

theorem lookM_none {m : CM} {n : By} (h : n ∉ keysM m) : lookM m n = none := by
  unfold lookM
  rw [List.find?_eq_none.2 (fun x hx => by
    intro q
    exact h (List.mem_map.2 ⟨x, hx, by simpa using q⟩))]
  rfl
theorem lookM_some {m : CM} {n : By} (h : n ∈ keysM m) : ∃ x ∈ m, x.1 = n ∧ lookM m n = some x.2 := by
  unfold lookM
  cases hf : m.find? fun x => x.1 == n with
  | none =>
    obtain ⟨x, hx, e⟩ := List.mem_map.1 h
    exact absurd (by simpa using e) (List.find?_eq_none.1 hf x hx)
  | some x => exact ⟨x, List.mem_of_find?_eq_some hf, by simpa using List.find?_some hf, rfl⟩
theorem lookM_left {m r : CM} {n : By} (h : n ∈ keysM m) : lookM (m ++ r) n = lookM m n := by
  unfold lookM
  rw [List.find?_append]
  cases hf : m.find? fun x => x.1 == n with
  | none =>
    obtain ⟨x, hx, e⟩ := List.mem_map.1 h
    exact absurd (by simpa using e) (List.find?_eq_none.1 hf x hx)
  | some x => rfl
theorem lookM_right {m r : CM} {n : By} (h : n ∉ keysM m) : lookM (m ++ r) n = lookM r n := by
  have := lookM_none h
  unfold lookM at this ⊢
  rw [List.find?_append]
  cases hf : m.find? fun x => x.1 == n with
  | none => rfl
  | some x => rw [hf] at this; cases this
theorem lookM_const {l : List By} {c : Cs} {n : By} (h : n ∈ l) : lookM (l.map fun x => (x, c)) n = some c := by
  obtain ⟨x, hx, -, e2⟩ := lookM_some (m := l.map fun x => (x, c)) (n := n) (by simpa [keysM] using h)
  obtain ⟨y, -, rfl⟩ := List.mem_map.1 hx
  exact e2
theorem filterMap_all {α : Type} : ∀ (l1 l2 : List α), (List.range' l1.length l2.length).filterMap (fun k => (l1 ++ l2)[k]?) = l2
  | l1, [] => rfl
  | l1, a :: r => by
    have e : (l1 ++ a :: r) = (l1 ++ [a]) ++ r := by simp
    rw [List.length_cons, List.range'_succ, List.filterMap_cons]
    have h1 : (l1 ++ a :: r)[l1.length]? = some a := by simp
    rw [h1]
    simp only
    rw [e]
    have := filterMap_all (l1 ++ [a]) r
    rw [List.length_append, List.length_singleton] at this
    rw [this]
theorem Good.perm_jobs {f : Flw} {o : List Nat} (h : Good f o) : (jobsO f o).Perm f.jobs := by
  have h1 := (h.perm.filterMap (fun k => f.jobs[k]?))
  have h2 := filterMap_all ([] : List FJob) f.jobs
  rw [List.range_eq_range'] at h1
  have h3 : List.filterMap (fun k => f.jobs[k]?) (List.range' 0 f.jobs.length) = f.jobs := h2
  rw [h3] at h1
  exact h1
theorem made_perm {f g : Flw} (hi : g.ins = f.ins) (hp : g.jobs.Perm f.jobs) : (madeL g).Perm (madeL f) := by
  unfold madeL
  rw [hi]
  exact List.Perm.append_left _ (hp.flatMap_right _)

section
variable (E : FJob → List Cs → Int) (C : FJob → List Cs → Cs)
def runM : List FJob → CM → Option CM
  | [], m => some m
  | j :: r, m => if E j (inC m j) = 0 then runM r (m ++ j.outs.map fun n => (n, C j (inC m j))) else none
/-- A flow's columns, where its jobs come in this order. -/
def colsO (f : Flw) (o : List Nat) : Option CM := runM E C (jobsO f o) (insM f)
/-- What the columns must be. -/
structure Sol (f : Flw) (M : By → Option Cs) : Prop where
  ins : ∀ i ∈ f.ins, M i.name = some (clsOf i.cols)
  jobs : ∀ j ∈ f.jobs, E j (j.ins.map fun n => (M n).getD []) = 0 ∧ ∀ n ∈ j.outs, M n = some (C j (j.ins.map fun n => (M n).getD []))
  dom : ∀ n, n ∉ madeL f → M n = none
end
section
variable {E : FJob → List Cs → Int} {C : FJob → List Cs → Cs}
theorem runM_keys : ∀ {p : List FJob} {m m' : CM}, runM E C p m = some m' → ∃ r, m' = m ++ r ∧ keysM r = p.flatMap (·.outs)
  | [], m, m', h => ⟨[], by simpa [runM] using h.symm, rfl⟩
  | j :: r, m, m', h => by
    unfold runM at h
    by_cases he : E j (inC m j) = 0
    · rw [if_pos he] at h
      obtain ⟨r', rfl, h2⟩ := runM_keys h
      refine ⟨_, List.append_assoc _ _ _, ?_⟩
      rw [keysM, List.map_append, ← keysM, ← keysM, h2]
      simp [keysM, Function.comp_def]
    · rw [if_neg he] at h; cases h
theorem runM_at : ∀ {p1 : List FJob} {j : FJob} {p2 : List FJob} {m m' : CM}, runM E C (p1 ++ j :: p2) m = some m' → ∃ m1, runM E C p1 m = some m1 ∧ E j (inC m1 j) = 0 ∧ ∃ r, m' = (m1 ++ j.outs.map fun n => (n, C j (inC m1 j))) ++ r
  | [], j, p2, m, m', h => by
    rw [List.nil_append] at h
    unfold runM at h
    by_cases he : E j (inC m j) = 0
    · rw [if_pos he] at h
      obtain ⟨r', hr, -⟩ := runM_keys h
      exact ⟨m, rfl, he, r', hr⟩
    · rw [if_neg he] at h; cases h
  | a :: p1, j, p2, m, m', h => by
    rw [List.cons_append] at h
    unfold runM at h ⊢
    by_cases he : E a (inC m a) = 0
    · rw [if_pos he] at h ⊢
      exact runM_at h
    · rw [if_neg he] at h; cases h
theorem keys_ins (f : Flw) : keysM (insM f) = f.ins.map (·.name) := by simp [keysM, insM, Function.comp_def]
theorem run_sol {f : Flw} {o : List Nat} {m : CM} (hn : (madeL f).Nodup) (ho : Good f o) (h : colsO E C f o = some m) : Sol E C f (lookM m) ∧ (keysM m).Perm (madeL f) := by
  unfold colsO at h
  obtain ⟨hj, ht⟩ := ho.jobs
  obtain ⟨r, hr, hk⟩ := runM_keys h
  have hkm : (keysM m).Perm (madeL f) := by
    rw [hr, keysM, List.map_append, ← keysM, ← keysM, hk, keys_ins]
    exact List.Perm.append_left _ (ho.perm_jobs.flatMap_right _)
  have hnd : (keysM m).Nodup := hkm.nodup_iff.2 hn
  refine ⟨⟨fun i hi => ?_, fun j hjm => ?_, fun n hno => lookM_none (fun q => hno (hkm.mem_iff.1 q))⟩, hkm⟩
  · have hmem : i.name ∈ keysM (insM f) := by rw [keys_ins]; exact List.mem_map.2 ⟨i, hi, rfl⟩
    rw [hr, lookM_left hmem]
    obtain ⟨x, hx, e1, e2⟩ := lookM_some hmem
    rw [e2]
    obtain ⟨i', hi', rfl⟩ := List.mem_map.1 hx
    have hnd2 : (f.ins.map (·.name)).Nodup := (List.nodup_append.1 hn).1
    obtain ⟨a, ha, rfl⟩ := List.mem_iff_getElem.1 hi
    obtain ⟨b, hb, rfl⟩ := List.mem_iff_getElem.1 hi'
    have := (List.getElem_inj (xs := f.ins.map (·.name)) (i := b) (j := a) (h₀ := by simpa using hb) (h₁ := by simpa using ha) hnd2).1 (by simpa using e1)
    subst this
    rfl
  · obtain ⟨p1, p2, hp⟩ := List.append_of_mem ((hj j).2 hjm)
    rw [hp] at h ht
    obtain ⟨m1, h1, h2, r2, h3⟩ := runM_at h
    obtain ⟨r1, hr1, hk1⟩ := runM_keys h1
    have hkm1 : keysM m1 = f.ins.map (·.name) ++ p1.flatMap (·.outs) := by
      rw [hr1, keysM, List.map_append, ← keysM, ← keysM, hk1, keys_ins]
    have hin : ∀ n ∈ j.ins, lookM m n = lookM m1 n := by
      intro n hnj
      have : n ∈ keysM m1 := by
        rw [hkm1, List.mem_append]
        exact (ht p1 j p2 rfl n hnj).imp id (fun ⟨j', a, b⟩ => List.mem_flatMap.2 ⟨j', a, b⟩)
      rw [h3, List.append_assoc, lookM_left this]
    have hinc : (j.ins.map fun n => (lookM m n).getD []) = inC m1 j := List.map_congr_left (fun n hnj => by rw [hin n hnj])
    rw [hinc]
    refine ⟨h2, fun n hno => ?_⟩
    have hnn : n ∉ keysM m1 := by
      intro q
      rw [h3, List.append_assoc, keysM, List.map_append, List.map_append] at hnd
      have hd := (List.nodup_append.1 hnd).2.2
      exact hd n q n (List.mem_append_left _ (by simpa [Function.comp_def] using hno)) rfl
    rw [h3, List.append_assoc, lookM_right hnn, lookM_left (by simpa [keysM, Function.comp_def] using hno), lookM_const hno]
theorem runM_snoc : ∀ (p : List FJob) (j : FJob) (m : CM), runM E C (p ++ [j]) m = (runM E C p m).bind fun m1 => if E j (inC m1 j) = 0 then some (m1 ++ j.outs.map fun n => (n, C j (inC m1 j))) else none
  | [], j, m => by simp [runM]
  | a :: p, j, m => by
    rw [List.cons_append]
    unfold runM
    by_cases he : E a (inC m a) = 0
    · rw [if_pos he, if_pos he]; exact runM_snoc p j _
    · rw [if_neg he, if_neg he]; rfl
theorem sol_run {f : Flw} {o : List Nat} {M : By → Option Cs} (hS : Sol E C f M) (ho : Good f o) : ∃ m, colsO E C f o = some m ∧ (∀ n, lookM m n = M n) ∧ (keysM m).Perm (madeL f) := by
  obtain ⟨hj, ht⟩ := ho.jobs
  have key : ∀ (p2 p1 : List FJob), jobsO f o = p1 ++ p2 → ∀ m1, runM E C p1 (insM f) = some m1 → (∀ n ∈ keysM m1, lookM m1 n = M n) → ∃ m, runM E C (p1 ++ p2) (insM f) = some m ∧ ∀ n ∈ keysM m, lookM m n = M n := by
    intro p2
    induction p2 with
    | nil => intro p1 _ m1 h1 h2; exact ⟨m1, by simpa using h1, h2⟩
    | cons j p2 ih =>
      intro p1 hp m1 h1 h2
      obtain ⟨r1, hr1, hk1⟩ := runM_keys h1
      have hkm1 : keysM m1 = f.ins.map (·.name) ++ p1.flatMap (·.outs) := by
        rw [hr1, keysM, List.map_append, ← keysM, ← keysM, hk1, keys_ins]
      have hinc : inC m1 j = j.ins.map fun n => (M n).getD [] := List.map_congr_left (fun n hnj => by
        have : n ∈ keysM m1 := by
          rw [hkm1, List.mem_append]
          rw [hp] at ht
          exact (ht p1 j p2 rfl n hnj).imp id (fun ⟨j', a, b⟩ => List.mem_flatMap.2 ⟨j', a, b⟩)
        rw [h2 n this])
      have hjm : j ∈ f.jobs := (hj j).1 (by rw [hp]; simp)
      obtain ⟨q1, q2⟩ := hS.jobs j hjm
      have hs : runM E C (p1 ++ [j]) (insM f) = some (m1 ++ j.outs.map fun n => (n, C j (inC m1 j))) := by
        rw [runM_snoc, h1, Option.bind_some, if_pos (by rw [hinc]; exact q1)]
      have := ih (p1 ++ [j]) (by rw [hp]; simp) _ hs (fun n hn => by
        by_cases hm : n ∈ keysM m1
        · rw [lookM_left hm]; exact h2 n hm
        · rw [lookM_right hm]
          have hno : n ∈ j.outs := by
            rw [keysM, List.map_append, List.mem_append] at hn
            exact (hn.resolve_left hm) |> fun q => by simpa [Function.comp_def] using q
          rw [lookM_const hno, hinc, q2 n hno])
      rw [List.append_assoc] at this
      exact this
  obtain ⟨m, h1, h2⟩ := key (jobsO f o) [] rfl (insM f) rfl (fun n hn => by
    obtain ⟨x, hx, e1, e2⟩ := lookM_some hn
    obtain ⟨i, hi, rfl⟩ := List.mem_map.1 hx
    rw [e2, ← e1]
    exact (hS.ins i hi).symm)
  rw [List.nil_append] at h1
  obtain ⟨r, hr, hk⟩ := runM_keys h1
  have hkm : (keysM m).Perm (madeL f) := by
    rw [hr, keysM, List.map_append, ← keysM, ← keysM, hk, keys_ins]
    exact List.Perm.append_left _ (ho.perm_jobs.flatMap_right _)
  refine ⟨m, h1, fun n => ?_, hkm⟩
  by_cases hn : n ∈ keysM m
  · exact h2 n hn
  · rw [lookM_none hn, hS.dom n (fun q => hn (hkm.mem_iff.2 q))]
/-- With its jobs in another order. -/
theorem Sol.turn {f g : Flw} {M : By → Option Cs} (h : Sol E C f M) (hi : g.ins = f.ins) (hp : g.jobs.Perm f.jobs) : Sol E C g M :=
  ⟨fun i hi2 => h.ins i (by rw [← hi]; exact hi2), fun j hj => h.jobs j (hp.mem_iff.1 hj), fun n hn => h.dom n (fun q => hn ((made_perm hi hp).mem_iff.2 q))⟩
/-- With one job more. -/
theorem Sol.more {f g : Flw} {M : By → Option Cs} {nj : FJob} {nm : By} {c : Cs} (h : Sol E C f M) (hi : g.ins = f.ins) (hg : g.jobs = nj :: f.jobs) (hno : nm ∉ madeL f) (hout : nj.outs = [nm]) (hread : ∀ j ∈ f.jobs, ∀ n ∈ j.ins, n ∈ madeL f) (hin : nj.ins.map (fun n => (M n).getD []) = [c]) (hni : nm ∉ nj.ins) (hE : E nj [c] = 0) (hC : C nj [c] = c) :
    Sol E C g fun n => if n = nm then some c else M n := by
  have hof : ∀ j : FJob, nm ∉ j.ins → (j.ins.map fun n => (if n = nm then some c else M n).getD []) = j.ins.map fun n => (M n).getD [] := fun j hj => List.map_congr_left (fun n hn => by
    rw [if_neg (by rintro rfl; exact hj hn)])
  refine ⟨fun i hi2 => ?_, fun j hj => ?_, fun n hn => ?_⟩
  · rw [hi] at hi2
    rw [if_neg (by rintro rfl; exact hno (List.mem_append_left _ (List.mem_map.2 ⟨i, hi2, rfl⟩)))]
    exact h.ins i hi2
  · rw [hg, List.mem_cons] at hj
    rcases hj with rfl | hj
    · rw [hof j hni, hin]
      refine ⟨hE, fun n hn => ?_⟩
      rw [hout, List.mem_singleton] at hn
      rw [if_pos hn, hC]
    · rw [hof j (fun q => hno (hread j hj nm q))]
      obtain ⟨q1, q2⟩ := h.jobs j hj
      refine ⟨q1, fun n hn => ?_⟩
      rw [if_neg (by rintro rfl; exact hno (List.mem_append_right _ (List.mem_flatMap.2 ⟨j, hj, hn⟩)))]
      exact q2 n hn
  · have e : madeL g = f.ins.map (·.name) ++ (nj.outs ++ f.jobs.flatMap (·.outs)) := by simp [madeL, hi, hg]
    rw [e, hout] at hn
    rw [if_neg (by rintro rfl; exact hn (by simp))]
    exact h.dom n (fun q => hn (by
      rcases List.mem_append.1 q with q | q
      · exact List.mem_append_left _ q
      · exact List.mem_append_right _ (List.mem_append_right _ q)))
end
/-- The order with one job more, that nobody asks for. -/
theorem rdy_more {f g : Flw} {nj : FJob} {nm : By} (hi : g.ins = f.ins) (hg : g.jobs = nj :: f.jobs) (hno : nm ∉ madeL f) (hout : nj.outs = [nm]) (hread : ∀ j ∈ f.jobs, ∀ n ∈ j.ins, n ∈ madeL f) (k : Nat) (d : List Nat) : rdyB g (k + 1) (0 :: d.map (· + 1)) = rdyB f k d := by
  have e1 : ∀ n, givB g n = givB f n := fun n => by unfold givB; rw [hi]
  have e2 : ∀ n q, mkB g n (q + 1) = mkB f n q := fun n q => by unfold mkB; rw [hg, List.getElem?_cons_succ]
  unfold rdyB
  rw [hg, List.getElem?_cons_succ]
  cases hj : f.jobs[k]? with
  | none => rfl
  | some j =>
    simp only
    rw [Bool.eq_iff_iff, List.all_eq_true, List.all_eq_true]
    have key : ∀ n ∈ j.ins, (givB g n || (0 :: d.map (· + 1)).any (mkB g n)) = (givB f n || d.any (mkB f n)) := by
      intro n hn
      have hnn : mkB g n 0 = false := by
        unfold mkB
        rw [hg]
        simp only [List.getElem?_cons_zero, hout]
        have : n ≠ nm := by rintro rfl; exact hno (hread j (List.mem_of_getElem? hj) n hn)
        simpa using this
      rw [e1, List.any_cons, hnn, Bool.false_or, List.any_map]
      congr 1
      exact congrArg (fun p => d.any p) (funext fun q => e2 n q)
    exact ⟨fun h n hn => by rw [← key n hn]; exact h n hn, fun h n hn => by rw [key n hn]; exact h n hn⟩
theorem erase_map : ∀ (l : List Nat) (i : Nat), (l.map (· + 1)).eraseIdx i = (l.eraseIdx i).map (· + 1)
  | [], i => by simp
  | a :: r, 0 => rfl
  | a :: r, i + 1 => by simp [erase_map r i]
theorem ord_more {f g : Flw} {nj : FJob} {nm : By} (hi : g.ins = f.ins) (hg : g.jobs = nj :: f.jobs) (hno : nm ∉ madeL f) (hout : nj.outs = [nm]) (hread : ∀ j ∈ f.jobs, ∀ n ∈ j.ins, n ∈ madeL f) : ∀ (q : Nat) (left told : List Nat), left.length = q → ordL g q (left.map (· + 1)) (0 :: told.map (· + 1)) = (ordL f q left told).map fun o => 0 :: o.map (· + 1)
  | 0, left, told, _ => rfl
  | q + 1, left, told, hl => by
    unfold ordL
    rw [List.findIdx?_map]
    have e : ((fun k => rdyB g k (0 :: told.map (· + 1))) ∘ fun x => x + 1) = fun k => rdyB f k told := funext fun k => rdy_more hi hg hno hout hread k told
    rw [e]
    cases hx : left.findIdx? fun k => rdyB f k told with
    | none => rfl
    | some i =>
      obtain ⟨hil, -, -⟩ := List.findIdx?_eq_some_iff_getElem.1 hx
      simp only
      have h1 : (left.map (· + 1)).eraseIdx i = (left.eraseIdx i).map (· + 1) := erase_map left i
      have h2 : (left.map (· + 1)).getD i 0 = left.getD i 0 + 1 := by
        simp [List.getD_eq_getElem?_getD, List.getElem?_eq_getElem hil]
      rw [h1, h2]
      have := ord_more hi hg hno hout hread q (left.eraseIdx i) (told ++ [left.getD i 0]) (by rw [List.length_eraseIdx_of_lt hil]; omega)
      rw [List.map_append] at this
      exact this
theorem ordF_more {f g : Flw} {nj : FJob} {nm : By} (hi : g.ins = f.ins) (hg : g.jobs = nj :: f.jobs) (hno : nm ∉ madeL f) (hout : nj.outs = [nm]) (hread : ∀ j ∈ f.jobs, ∀ n ∈ j.ins, n ∈ madeL f) (hnj : ∀ n ∈ nj.ins, n ∈ f.ins.map (·.name)) : ordF g = (ordF f).map fun o => 0 :: o.map (· + 1) := by
  unfold ordF
  rw [hg, List.length_cons]
  have hr : rdyB g 0 [] = true := by
    rw [rdyB_iff]
    exact ⟨nj, by rw [hg]; rfl, fun n hn => Or.inl (by rw [hi]; exact hnj n hn)⟩
  have h0 : List.range (f.jobs.length + 1) = 0 :: (List.range f.jobs.length).map (· + 1) := List.range_succ_eq_map
  rw [show ordL g (f.jobs.length + 1) (List.range (f.jobs.length + 1)) [] = ordL g f.jobs.length ((List.range f.jobs.length).map (· + 1)) (0 :: ([] : List Nat).map (· + 1)) by
    rw [h0, ordL, List.findIdx?_cons, hr]
    rfl]
  exact ord_more hi hg hno hout hread f.jobs.length (List.range f.jobs.length) [] (by simp)
end Go.Proofs.YtfifbnopgpffkaaGreatDoor.Pl
