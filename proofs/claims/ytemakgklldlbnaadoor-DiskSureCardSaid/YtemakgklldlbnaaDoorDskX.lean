import Derived.Test.YtemakgklldlbnaaDoorDskW
import Derived.Test.YtemakgklldlbnaaDoorDskK
set_option linter.unusedSimpArgs false
set_option linter.unusedVariables false
namespace Go.Proofs.YtemakgklldlbnaaDoor.Dk
open Go.RowKit Go.Maps

/-- What lies in the map behind the first writes: what each sector reads as. -/
def J1 (d : St) (g : Nat → List ByteArray) : Prop := ∀ k, k < 16 → (g k = [] ∧ tx (d.read k) = tx zeros) ∨ ∃ x, g k = [x] ∧ tx (d.read k) = x
theorem j1_new : J1 (newD 16) (fun _ => []) := by
  intro k hk
  refine Or.inl ⟨rfl, ?_⟩
  show tx (((List.replicate 16 zeros)[k]?).getD []) = _
  rw [List.getElem?_replicate, if_pos hk]
  rfl
theorem j1_step (d : St) (g : Nat → List ByteArray) (k : Nat) (s : ByteArray) (hs : s.size ≤ 64) (h : J1 d g) : J1 (d.wrote k (fullS s).data.toList) (setG g k ([] ++ [fullS s])) := by
  intro j hj
  by_cases e : j = k
  · subst e
    rw [setG_at, read_wrote_same, full_pad s hs, tx_full]
    exact Or.inr ⟨_, rfl, rfl⟩
  · rw [setG_off _ _ e, read_wrote_other d _ e]
    exact h j hj
theorem sync_read (d : St) (k : Nat) (h : k < d.sure.length) : tx ((d.settled allK).read k) = tx (d.read k) := by
  have := congrArg (fun l : List ByteArray => l[k]?) (reads_settled d d.sure.length (Nat.le_refl _))
  simp [readsL, h] at this
  exact this
theorem j1_sync {d : St} {g : Nat → List ByteArray} (h : J1 d g) (h16 : d.sure.length = 16) : J1 (d.settled allK) g := by
  intro k hk
  rw [sync_read d k (by rw [h16]; exact hk)]
  exact h k hk
/-- .. and behind the next ones. -/
def atK (ws : List (Nat × Bs)) (k : Nat) : List ByteArray := (ws.filter fun x => x.1 == k).map fun x => tx x.2
def J2 (sure : List Bs) (g1 : Nat → List ByteArray) (more : List ByteArray) (d : St) (g : Nat → List ByteArray) : Prop := d.sure = sure ∧ (∀ k, k < 16 → g k = g1 k ++ atK d.ws k) ∧ ∀ x ∈ d.ws, x.1 < 16 ∧ ∃ s ∈ more, tx x.2 = fullS s
theorem atK_snoc (ws : List (Nat × Bs)) (x : Nat × Bs) (k : Nat) : atK (ws ++ [x]) k = atK ws k ++ (if x.1 = k then [tx x.2] else []) := by
  unfold atK
  rw [List.filter_append, List.map_append]
  congr 1
  by_cases h : x.1 = k <;> simp [h]
theorem j2_new (d : St) (g : Nat → List ByteArray) (more : List ByteArray) (h : d.ws = []) : J2 d.sure g more d g := ⟨rfl, fun k _ => by rw [h]; simp [atK], by rw [h]; simp⟩
theorem j2_step (sure : List Bs) (g1 : Nat → List ByteArray) (more : List ByteArray) (d : St) (g : Nat → List ByteArray) (k : Nat) (s : ByteArray) (hs : s.size ≤ 64) (hm : s ∈ more) (hk : k < 16) (h : J2 sure g1 more d g) : J2 sure g1 more (d.wrote k (fullS s).data.toList) (setG g k (g k ++ [fullS s])) := by
  obtain ⟨h1, h2, h3⟩ := h
  refine ⟨h1, ?_, ?_⟩
  · intro j hj
    show _ = g1 j ++ atK (d.ws ++ [(k, pad (fullS s).data.toList)]) j
    rw [atK_snoc, full_pad s hs]
    by_cases e : j = k
    · subst e
      rw [setG_at, h2 j hj, if_pos rfl, List.append_assoc]
      rfl
    · rw [setG_off _ _ e, h2 j hj, if_neg (fun q => e q.symm), List.append_nil]
  · intro x hx
    rcases List.mem_append.1 (show x ∈ d.ws ++ [(k, pad (fullS s).data.toList)] from hx) with hx | hx
    · exact h3 x hx
    · rw [List.mem_singleton.1 hx]
      exact ⟨hk, s, hm, by rw [full_pad s hs, tx_full]⟩
theorem settle_at (kept : Nat → Bool) : ∀ (ws : List (Nat × Bs)) (i : Nat) (s : List Bs) (k : Nat), k < s.length → (settleL kept i s ws)[k]? = s[k]? ∨ ∃ x ∈ ws, x.1 = k ∧ (settleL kept i s ws)[k]? = some x.2
  | [], i, s, k, hk => Or.inl rfl
  | x :: r, i, s, k, hk => by
    rw [settleL]
    have ih := settle_at kept r (i + 1) (if kept i then s.set x.1 x.2 else s) k (by split <;> simpa using hk)
    rcases ih with ih | ⟨y, hy, h1, h2⟩
    · rw [ih]
      split
      · by_cases e : x.1 = k
        · exact Or.inr ⟨x, by simp, e, by rw [e]; simp [hk]⟩
        · exact Or.inl (by rw [List.getElem?_set_ne e])
      · exact Or.inl rfl
    · exact Or.inr ⟨y, by simp [hy], h1, h2⟩
theorem mem_atK {ws : List (Nat × Bs)} {x : Nat × Bs} (h : x ∈ ws) : tx x.2 ∈ atK ws x.1 := by
  unfold atK
  exact List.mem_map.2 ⟨x, List.mem_filter.2 ⟨h, by simp⟩, rfl⟩
theorem atK_mem {ws : List (Nat × Bs)} {k : Nat} {t : ByteArray} (h : t ∈ atK ws k) : ∃ x ∈ ws, t = tx x.2 := by
  unfold atK at h
  obtain ⟨x, hx, rfl⟩ := List.mem_map.1 h
  exact ⟨x, (List.mem_filter.1 hx).1, rfl⟩
/-- What a sector is in the end. -/
structure Fin3 (gk more : List ByteArray) (t : ByteArray) : Prop where
  none : gk = [] → t = tx zeros
  some : gk ≠ [] → t ∈ gk ∨ t = tx zeros
  one : ∀ a, gk = [a] → (∀ s ∈ more, fullS s ≠ a) → t = a
theorem fin3 {d2 d3 : St} {g2 g3 : Nat → List ByteArray} {more : List ByteArray} (ks : List Bool) (h1 : J1 d2 g2) (hw : d2.ws = []) (h16 : d2.sure.length = 16) (h3 : J2 d2.sure g2 more d3 g3) (k : Nat) (hk : k < 16) :
    Fin3 (g3 k) more (tx ((⟨(d3.settled (keptL ks)).sure, [], -1⟩ : St).read k)) := by
  obtain ⟨hs, hg, hx⟩ := h3
  have e4 : (⟨(d3.settled (keptL ks)).sure, [], -1⟩ : St).read k = ((settleL (keptL ks) 0 d2.sure d3.ws)[k]?).getD [] := by
    show (none : Option Bs).getD _ = _
    rw [← hs]
    rfl
  have e2 : d2.read k = (d2.sure[k]?).getD [] := by simp [St.read, hw, lastL]
  rw [e4]
  have hgk := hg k hk
  rcases settle_at (keptL ks) d3.ws 0 d2.sure k (by rw [h16]; exact hk) with h | ⟨x, hxm, hxk, h⟩
  · rw [h, ← e2]
    rcases h1 k hk with ⟨q1, q2⟩ | ⟨y, q1, q2⟩
    · rw [q1, List.nil_append] at hgk
      refine ⟨fun _ => q2, fun _ => Or.inr q2, fun a ha hno => ?_⟩
      have : a ∈ atK d3.ws k := by rw [← hgk, ha]; simp
      obtain ⟨x, hxm, rfl⟩ := atK_mem this
      obtain ⟨-, s, hsm, e⟩ := hx x hxm
      exact absurd e.symm (hno s hsm)
    · rw [q1] at hgk
      rw [q2]
      refine ⟨fun e => ?_, fun _ => Or.inl ?_, fun a ha _ => ?_⟩
      · rw [hgk] at e; simp at e
      · rw [hgk]; simp
      · rw [hgk] at ha
        simp at ha
        exact ha.1
  · rw [h]
    show Fin3 (g3 k) more (tx x.2)
    have hm : tx x.2 ∈ g3 k := by
      rw [hgk]
      refine List.mem_append.2 (Or.inr ?_)
      rw [← hxk]
      exact mem_atK hxm
    refine ⟨fun e => ?_, fun _ => Or.inl hm, fun a ha _ => ?_⟩
    · rw [e] at hm; simp at hm
    · rw [ha] at hm; simpa using hm
/-- Where DiskSure begins. -/
theorem start_sure {W w3 w4 : World} {D S : Nat} {va : Value} {ats : List Int} (B3 : Below W.heap.size W w3) (hW3 : W.heap.size < w3.heap.size) (X3 : Blk w3 W.heap.size [va]) (a4 : At w4 D S (.slice none 0 0) (newD 16)) (b4 : Below w3.heap.size w3 w4) (hD : w3.heap.size ≤ D) (hS : w3.heap.size ≤ S) (L2 : Lst W va (it ats)) (hva : ∀ b, va.ownBlock = some b → b < W.heap.size) {WB : World}
    (hWB : WB = (((w4.alloc (.cells #[.pointer (some ⟨D, 0, none⟩)] 28)).alloc (.cells #[.func (.func 10) #[] #[]] 34)).alloc (.map #[] 0)).alloc (.cells #[.map (some (w4.heap.size + 1 + 1))] 35)) :
    Sure WB WB D S (w4.heap.size + 1 + 1) 0 (.slice none 0 0) (newD 16) (fun _ => none) (fun _ => []) ∧ Held WB D S (w4.heap.size + 1 + 1) W.heap.size (w4.heap.size + 1) w4.heap.size (w4.heap.size + 1 + 1 + 1) va ats ∧ Below W.heap.size W WB ∧ W.heap.size ≤ D ∧ W.heap.size ≤ S ∧ W.heap.size ≤ w4.heap.size + 1 + 1 := by
  have hb4 := b4.size
  have hdl := a4.head.lt
  have hsl := a4.body.lt
  have bel : Below w4.heap.size w4 WB := by
    rw [hWB]
    exact ((((Below.refl _ _).alloc (Nat.le_refl _) _).alloc (by simp) _).alloc (by simp; omega) _).alloc (by simp; omega) _
  have hsz : WB.heap.size = w4.heap.size + 1 + 1 + 1 + 1 := by rw [hWB]; simp
  have hA : At WB D S (.slice none 0 0) (newD 16) := a4.below bel
  have hmap : MapIs WB 3 (w4.heap.size + 1 + 1) 0 (fun _ => none) := by
    have h1 := MapIs.made ((w4.alloc (.cells #[.pointer (some ⟨D, 0, none⟩)] 28)).alloc (.cells #[.func (.func 10) #[] #[]] 34)) 3
    have e : ((w4.alloc (.cells #[.pointer (some ⟨D, 0, none⟩)] 28)).alloc (.cells #[.func (.func 10) #[] #[]] 34)).heap.size = w4.heap.size + 1 + 1 := by simp
    rw [e] at h1
    rw [hWB]
    exact h1.block (Below.heap_alloc _ _ _ (by simp))
  have c1 : Blk WB w4.heap.size [.pointer (some ⟨D, 0, none⟩)] := by
    rw [hWB]
    exact (((Blk.new w4 _ _ _ rfl).alloc _).alloc _).alloc _
  have c2 : Blk WB (w4.heap.size + 1) [.func (.func 10) #[] #[]] := by
    rw [hWB]
    exact ((Blk.new _ _ _ _ (by simp)).alloc _).alloc _
  have c3 : Blk WB (w4.heap.size + 1 + 1 + 1) [.map (some (w4.heap.size + 1 + 1))] := by
    rw [hWB]
    exact Blk.new _ _ _ _ (by simp)
  have b34 : Below w3.heap.size w3 WB := b4.trans (bel.mono hb4)
  have bW : Below W.heap.size W WB := B3.trans (b34.mono B3.size)
  refine ⟨⟨hA, ⟨hmap, by simp, fun k _ => World.ownsRow_nil _ _ _ _, by simp [rowAt, Value.ownBlock], by omega⟩, Keep.refl _ _, by simp [Value.ownBlock], by simp [Value.ownBlock], by omega, by omega, by omega, by omega⟩, ⟨X3.below b34, c2, c1, c3, L2.below bW, ?_, ?_, ?_, ?_, ?_⟩, bW, by omega, by omega, by omega⟩
  · simp; omega
  · simp; omega
  · simp; omega
  · simp; omega
  · intro b hb
    have := hva b hb
    simp
    omega
theorem keep_grown {w w' : World} (h : Keep [] w w') (row : Option Nat) : w.grownBy w' row := ⟨h.os, h.tape, h.output, h.size, fun k hk _ => h.block k hk (by simp)⟩
theorem Sure.keep0 {WB w w' : World} {D S M n : Nat} {vw : Value} {d : St} {m : Lit → Option Value} {g : Nat → List ByteArray} (h : Sure WB w D S M n vw d m g) (hb : Keep [] w w') : Sure WB w' D S M n vw d m g :=
  h.below ⟨hb.os, hb.tape, hb.output, hb.size, fun k hk => hb.block k hk (by simp)⟩
/-- A block that is none of its own is turned. -/
theorem Sure.iter {WB w w' : World} {D S M n r : Nat} {vw : Value} {d : St} {m : Lit → Option Value} {g : Nat → List ByteArray} (h : Sure WB w D S M n vw d m g) (hg : w.grownBy w' (some r)) (hr : WB.heap.size ≤ r) (hro : ∀ k b, k < 16 → (rowAt m k).ownBlock = some b → b < r) (hvw : vw.ownBlock = none) : Sure WB w' D S M n vw d m g := by
  have hK : Keep [r] w w' := (Keep.refl [r] w).grown hg (fun x hx => Or.inl (by injection hx with hx; simp [hx]))
  have h1 := h.dl
  have h2 := h.sl
  have h3 := h.may.mb
  refine ⟨h.disk.keep hK ?_, h.may.mv hK (by simp; omega) ?_, h.keep.then hK ?_, h.vn, h.off, h.dl, h.sl, h.md, h.ms⟩
  · intro k hk
    simp [blocks, hvw] at hk
    simp
    omega
  · intro k b hk hb
    have := hro k b hk hb
    simp
    omega
  · intro y hy
    simp at hy
    exact Or.inr (by omega)
theorem sees_held {D : DataW Value} {m : Lit → Option Value} {kl : Lit} {v : Value} (h : Sees D m) (hat : ∀ z, D.atKey kl z = .held v) : m kl = some v := by
  have h2 := (h.2 kl).2
  cases hm : m kl with
  | none =>
    have q1 := (hat (.held (.bool true))).symm.trans (h2 _)
    have q2 := (hat (.held (.bool false))).symm.trans (h2 _)
    rw [hm] at q1 q2
    have := q1.symm.trans q2
    simp at this
  | some u =>
    have q1 := (hat (.held (.bool true))).symm.trans (h2 _)
    rw [hm] at q1
    simp at q1
    rw [q1]
/-- What comes of the map is a list that is not empty: its sector reads as its first. -/
theorem entry_is {WB w : World} {D S M n : Nat} {vw : Value} {d : St} {m : Lit → Option Value} {g : Nat → List ByteArray} {Dm : DataW Value} {kl : Lit} {v : Value} {x : Int} (h : Sure WB w D S M n vw d m g) (hs : Sees Dm m) (hat : ∀ z, Dm.atKey kl z = .held v) (hkey : keyOf Tryd.prog 3 (.int .i64 x) = some kl) (ht : There m g) (hj : J1 d g) :
    ∃ (k : Nat) (a : ByteArray) (gg o c : Nat), k < 16 ∧ x = (k : Int) ∧ v = .slice (some ⟨gg, o, none⟩) 1 c ∧ w.cell? ⟨gg, o, none⟩ = some (.string a) ∧ tx (d.read k) = a := by
  have hm := sees_held hs hat
  obtain ⟨k, hk, rfl⟩ := h.may.dom kl v hm
  obtain ⟨x', e1, e2, -⟩ := keyOf_int_inv Tryd.underlying3 hkey
  have e1' := (Value.int.inj e1).2
  subst e1'
  have hx : x = (k : Int) := (Lit.int.inj e2).2.symm
  have hne := (ht k hk).1 (by rw [hm]; rfl)
  rcases hj k hk with ⟨q, -⟩ | ⟨a, q1, q2⟩
  · exact absurd q hne
  · have hr := h.may.rows k hk
    have hv : rowAt m k = v := by simp [rowAt, hm]
    rw [hv, q1] at hr
    have hr0 := hr
    obtain ⟨-, ⟨hv0, hn0⟩ | ⟨gb, cap, cur, hve, -⟩⟩ := hr
    · simp at hn0
    · refine ⟨k, a, gb, 0, cap, hk, hx, hve, ?_, q2⟩
      subst hve
      have := hr0.cellAt 0 (by simp)
      simpa [st] using this
theorem full_none : fullS ⟨#[]⟩ = tx zeros := by kernel_rfl
end Go.Proofs.YtemakgklldlbnaaDoor.Dk

