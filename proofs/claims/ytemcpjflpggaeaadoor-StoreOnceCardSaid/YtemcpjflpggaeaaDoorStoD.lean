import Derived.Test.YtemcpjflpggaeaaDoorStoC
import Derived.Test.YtemcpjflpggaeaaDoorDskW
import Derived.Deep.RegionHeld3
set_option linter.unusedSimpArgs false
set_option linter.unusedVariables false
namespace Go.Proofs.YtemcpjflpggaeaaDoor.Dk
open Go.RowKit Go.Maps

/-- A store whose map and keys have one more, and its end not yet. -/
structure AddM (w w9 : World) (X D M n B : Nat) (kv kv' : Value) (ts : List Bs) (t : Bs) (e : Nat) (sr : Bool) : Prop where
  head : Blk w9 X [.pointer (some ⟨D, 0, none⟩), .map (some M), kv', .int .i64 (e : Int), .bool sr]
  map : MapIs w9 9 M (n + 1) (mapOf (ts ++ [t]))
  keys : w9.ownsRow B 9 1 kv' (ts.length + 1) (st (keyS ts) ++ [.string (tx (sumL t))])
  box : Blk w9 w.heap.size [.string (tx (sumL t)), .string (tx t)]
  keep : Keep (memB X M kv) w w9
  new : kv'.ownBlock = kv.ownBlock ∨ ∃ g, kv'.ownBlock = some g ∧ w.heap.size ≤ g
  old : Mem w X D M n B kv ts e sr
theorem AddM.below {w w9 w' : World} {X D M n B : Nat} {kv kv' : Value} {ts : List Bs} {t : Bs} {e : Nat} {sr : Bool} (h : AddM w w9 X D M n B kv kv' ts t e sr) (hb : Below w9.heap.size w9 w') : AddM w w' X D M n B kv kv' ts t e sr :=
  ⟨h.head.below hb, h.map.block (hb.block M h.map.lt), own_keep h.keys (Keep.of (X := []) hb) (by simp), h.box.below hb, h.keep.then (Keep.of (X := []) hb) (by simp), h.new, h.old⟩
theorem AddM.done {w w9 : World} {X D M n B : Nat} {kv kv' : Value} {ts : List Bs} {t : Bs} {e : Nat} {sr : Bool} (h : AddM w w9 X D M n B kv kv' ts t e sr) (m : Int) (hm : m = (e : Int) + (nsec t : Int)) (hB : kv'.ownBlock ≠ some X) :
    ∃ kv', Mem (w9.setCell ⟨X, 3, none⟩ (.int .i64 m)) X D M (n + 1) B kv' (ts ++ [t]) (e + nsec t) sr ∧ Keep (memB X M kv) w (w9.setCell ⟨X, 3, none⟩ (.int .i64 m)) ∧ (kv'.ownBlock = kv.ownBlock ∨ ∃ g, kv'.ownBlock = some g ∧ w.heap.size ≤ g) := by
  refine ⟨kv', ⟨?_, ?_, ?_, h.old.xm, h.old.xl, h.old.ml⟩, h.keep.set _ _ _ (Or.inl (by simp [memB])), h.new⟩
  · have := h.head.set 3 (.int .i64 m)
    rw [hm] at this
    have e2 : ((e + nsec t : Nat) : Int) = (e : Int) + (nsec t : Int) := by omega
    rw [e2, hm]
    exact this
  · exact h.map.block (Below.heap_setCell _ _ _ _ (by simpa using h.old.xm.symm))
  · have := own_other h.keys X 3 (.int .i64 m) hB
    rw [List.length_append, List.length_singleton]
    have q : st (keyS (ts ++ [t])) = st (keyS ts) ++ [.string (tx (sumL t))] := by simp [st, keyS]
    rw [q]
    exact this
theorem keys_ne {w : World} {X D M n B : Nat} {kv : Value} {ts : List Bs} {e : Nat} {sr : Bool} (h : Mem w X D M n B kv ts e sr) : kv.ownBlock ≠ some X ∧ kv.ownBlock ≠ some M := by
  constructor
  · intro q
    have := ((lst_own h.keys).2 X q).1
    exact absurd h.xl (Nat.not_lt.2 this)
  · intro q
    have := ((lst_own h.keys).2 M q).1
    exact absurd h.ml (Nat.not_lt.2 this)
theorem add_fin {w w1 w2 w8 : World} {X D M n B : Nat} {kv : Value} {ts : List Bs} {t : Bs} {e : Nat} {sr : Bool} (h : Mem w X D M n B kv ts e sr) (hb1 : Below w.heap.size w w1) (X1 : Blk w1 w.heap.size [.string (tx (sumL t)), .string (tx t)])
    (hm2 : MapIs w2 9 M (n + 1) (mapOf (ts ++ [t]))) (hg2 : w1.drew.grownBy w2 (some M)) (gg cap : Nat)
    (hown : w8.ownsRow B 9 1 (.slice (some ⟨gg, 0, none⟩) (ts.length + 1) cap) (ts.length + 1) (st (keyS ts) ++ [.string (tx (sumL t))]))
    (hgrow : (w2.drew.alloc (.cells #[.string (tx (sumL t))] 9)).grownBy w8 kv.ownBlock) (hat : kv.ownBlock = some gg ∨ gg = w2.heap.size + 1) :
    w8.cell? ⟨X, 2, none⟩ = some kv ∧ w8.frozen? ⟨X, 2, none⟩ = false ∧ (w8.cell? ⟨w.heap.size, 0, none⟩ = some (.string (tx (sumL t))) ∧ w8.cell? ⟨w.heap.size, 1, none⟩ = some (.string (tx t))) ∧ AddM w (w8.setCell ⟨X, 2, none⟩ (.slice (some ⟨gg, 0, none⟩) (ts.length + 1) cap)) X D M n B kv (.slice (some ⟨gg, 0, none⟩) (ts.length + 1) cap) ts t e sr ∧ (Value.slice (some ⟨gg, 0, none⟩) (ts.length + 1) cap).ownBlock ≠ some X := by
  have hxl := h.head.lt
  have hml := h.map.lt
  have k2 : Keep (memB X M kv) w w2 := ((Keep.of (X := memB X M kv) hb1).drew).grown hg2 (fun r hr => Or.inl (by injection hr with hr; subst hr; simp [memB]))
  have b2 := below_da w2 (.cells #[.string (tx (sumL t))] 9)
  have head1 : Blk w1 X _ := h.head.below hb1
  have head2 : Blk w2 X _ := ((show Blk w1.drew X _ from head1)).grown hg2 (by simpa using h.xm)
  have box2 : Blk w2 w.heap.size _ := ((show Blk w1.drew w.heap.size _ from X1)).grown hg2 (by simpa using Nat.ne_of_gt hml)
  have head8 := (head2.below b2).grown hgrow (fun q => (keys_ne h).1 q.symm)
  have k8 : Keep (memB X M kv) w w8 := (k2.then (Keep.of (X := []) b2) (by simp)).grown hgrow (fun r hr => Or.inl (by simp [memB, hr]))
  have box8 := (box2.below b2).grown hgrow (fun q => by
    have := ((lst_own h.keys).2 _ q.symm).2
    exact absurd this (Nat.lt_irrefl _))
  have map8 := (hm2.block (b2.block M hm2.lt)).kept hgrow (fun q => (keys_ne h).2 q.symm)
  have hne : gg ≠ X := by
    rcases hat with q | q
    · intro e; subst e; exact (keys_ne h).1 q
    · have := k2.size; omega
  refine ⟨head8.cell 2 rfl, head8.fz 2, ⟨box8.cell 0 rfl, box8.cell 1 rfl⟩, ⟨head8.set 2 _, map8.block (Below.heap_setCell _ _ _ _ (by simpa using h.xm.symm)), own_other hown X 2 _ (by simpa [Value.ownBlock] using hne), box8.other _ _ (Nat.ne_of_gt hxl), k8.set _ _ _ (Or.inl (by simp [memB])), ?_, h⟩, by simpa [Value.ownBlock] using hne⟩
  rcases hat with q | q
  · left; rw [q]; rfl
  · right; exact ⟨gg, rfl, by have := k2.size; omega⟩
set_option maxRecDepth 100000 in
set_option maxHeartbeats 4000000 in
theorem add_any {X M n : Nat} {kv : Value} {ts : List Bs} {w : World} {D B e : Nat} {sr : Bool} (h : Mem w X D M n B kv ts e sr) (t : Bs) (ht : t.length ≤ 300) (hn : n < 1000) (hl : ts.length ≤ 1000) (he : e ≤ 100000) (hnew : sumL t ∉ ts.map sumL) (hB : B ≤ w.heap.size) :
    Calls Tryd.prog 57 #[.pointer (some ⟨X, 0, none⟩), recV t] w fun e1 w' => e1 = .returned (.tuple #[]) ∧ ∃ kv', Mem w' X D M (n + 1) B kv' (ts ++ [t]) (e + nsec t) sr ∧ Keep (memB X M kv) w w' ∧ (kv'.ownBlock = kv.ownBlock ∨ ∃ g, kv'.ownBlock = some g ∧ w.heap.size ≤ g) := by
  obtain ⟨w1, hw1⟩ : ∃ w1, w.alloc (.cells #[.string (tx (sumL t)), .string (tx t)] 92) = w1 := ⟨_, rfl⟩
  have hb1 : Below w.heap.size w w1 := by rw [← hw1]; exact (Below.refl _ w).alloc (Nat.le_refl _) _
  have X1 : Blk w1 w.heap.size [.string (tx (sumL t)), .string (tx t)] := by rw [← hw1]; exact Blk.new w _ _ _ rfl
  have HX1 := hid X1
  have h1 := h.below hb1
  have c1 := h1.head.cell 1 (v := .map (some M)) rfl
  have x0 := X1.cell 0 rfl
  have x1 := X1.cell 1 rfl
  have H1 := hid h1
  have HSEC := hid (fun (V : World) => sectors_any t V ht)
  have hsz : (tx (sumL t)).size ≤ maxLen := by rw [tx_sz, sumL_len]; decide
  obtain ⟨w2, hrun2, hm2, hg2, hz2⟩ := (h1.map.block (w' := w1.drew) rfl).put (t := 88) (string_keyed Tryd.underlying9) Tryd.underlying88 (Nat.lt_of_lt_of_le hn (by decide)) (str_key Tryd.underlying9 (tx (sumL t)) hsz) (recV t)
  rw [tx_list, ← mapOf_put hnew] at hm2
  have HFIN := hid (fun (w8 : World) (gg cap : Nat) => add_fin (w8 := w8) h hb1 X1 hm2 hg2 gg cap)
  have head2 : Blk w2 X _ := ((show Blk w1.drew X _ from h1.head)).grown hg2 (by simpa using h.xm)
  have k2 : Keep (memB X M kv) w w2 := ((Keep.of (X := memB X M kv) hb1).drew).grown hg2 (fun r hr => Or.inl (by injection hr with hr; subst hr; simp [memB]))
  have a1 : Blk w1.drew X _ := h1.head
  have a2 : Blk w1.drew w.heap.size _ := X1
  have q : w.heap.size ≠ M := Nat.ne_of_gt h.map.lt
  have hx := a1.grown hg2 (by simpa using h.xm)
  have hy := a2.grown hg2 (by simpa using q)
  have G2 : Hid (w2.cell? ⟨X, 1, none⟩ = some (.map (some M)) ∧ w2.cell? ⟨w.heap.size, 0, none⟩ = some (.string (tx (sumL t))) ∧ w2.cell? ⟨w.heap.size, 1, none⟩ = some (.string (tx t))) := hid ⟨hx.cell 1 rfl, hy.cell 0 rfl, hy.cell 1 rfl⟩
  have HC2 : Hid (w2.cell? ⟨X, 2, none⟩ = some kv) := hid (hx.cell 2 rfl)
  have B7 := hid (below_da w2 (.cells #[.string (tx (sumL t))] 9))
  have G7 : Hid ((w2.drew.alloc (.cells #[.string (tx (sumL t))] 9)).cell? ⟨w.heap.size, 0, none⟩ = some (.string (tx (sumL t))) ∧ (w2.drew.alloc (.cells #[.string (tx (sumL t))] 9)).cell? ⟨w.heap.size, 1, none⟩ = some (.string (tx t))) := hid ⟨(hy.below B7.out).cell 0 rfl, (hy.below B7.out).cell 1 rfl⟩
  have HC7 : Hid ((w2.drew.alloc (.cells #[.string (tx (sumL t))] 9)).cell? ⟨X, 2, none⟩ = some kv) := hid ((hx.below B7.out).cell 2 rfl)
  have own2 : w2.ownsRow B 9 1 kv ts.length (st (keyS ts)) := by
    have o1 : w1.drew.ownsRow B 9 1 kv ts.length (st (keyS ts)) := own_keep h1.keys (Keep.refl [] w1).drew (by simp)
    exact own_keep o1 (show Keep [M] w1.drew w2 from (Keep.refl [M] w1.drew).grown hg2 (fun r hr => Or.inl (by injection hr with hr; subst hr; simp))) (by
      intro b hb
      simp
      intro q
      subst q
      exact (keys_ne h).2 hb)
  have OW7 := hid (own_keep own2 (Keep.of (X := []) B7.out) (by simp))
  have HNW : Hid (∀ j u, [Value.string (tx (sumL t))][j]? = some u → (w2.drew.alloc (.cells #[.string (tx (sumL t))] 9)).cell? ((⟨w2.heap.size, 0, none⟩ : Addr).add j) = some u) := hid (news1 w2.drew _ _ _ rfl)
  have HM1 : Hid (ts.length + 1 ≤ maxLen) := hid (len_max (Nat.le_trans hl (by decide)))
  have HM2 : Hid ((ts.length + 1) * 16 ≤ 140737488355328) := hid (len_bytes (Nat.le_trans hl (by decide)))
  have HM3 : Hid (B ≤ (w2.drew.alloc (.cells #[.string (tx (sumL t))] 9)).heap.size) := hid (Nat.le_trans hB (Nat.le_trans k2.size B7.out.size))
  have hlk : (st (keyS ts)).length = ts.length := by rw [st_len, keyS_len]
  obtain ⟨i0, hi0, hz0, hz1, hz2'⟩ := info_parts info_str
  obtain ⟨ka, kc, rfl⟩ := own_sl h.keys
  have HADD : Hid (∀ (m : Int), m = (nsec t : Nat) → (e : Int) + m = (e : Int) + (nsec t : Int)) := hid (fun m hm => by rw [hm])
  have HNS : Hid (nsec t ≤ 1000) := hid (by unfold nsec; omega)
  obtain ⟨ns, hns⟩ : ∃ ns, nsec t = ns := ⟨_, rfl⟩
  rw [hns] at HSEC HNS
  have HNSE := hid hns
  have hns2 := HNS.out
  have hwr : IntKind.i64.wrap ((e : Int) + (ns : Int)) = (e : Int) + (ns : Int) := by
    have q1 : (0 : Int) ≤ e := Int.natCast_nonneg _
    have q2 : (0 : Int) ≤ ns := Int.natCast_nonneg _
    unfold IntKind.wrap
    simp only [IntKind.signed, IntKind.bits]
    simp
    omega
  clear hm2 hg2 hz2 h1 hb1 X1 hnew head2 k2 a1 a2 hx hy own2 q hns
  unfold recV at *
  go_enter Tryd.func57, Tryd.ntmps57
  go_wp2
  go_region_held3 (fun V => V.cell? ⟨X, 1, none⟩ = some (.map (some M)) ∧ V.cell? ⟨w.heap.size, 0, none⟩ = some (.string (tx (sumL t))) ∧ V.cell? ⟨w.heap.size, 1, none⟩ = some (.string (tx t))) (first | exact ⟨c1, x0, x1⟩ | exact G2.out) (fail)
  go_wp2
  refine wp_region_held_drew (S := (fun V => V.cell? ⟨w.heap.size, 0, none⟩ = some (.string (tx (sumL t))) ∧ V.cell? ⟨w.heap.size, 1, none⟩ = some (.string (tx t)))) (by kernel_rfl) G2.out.2 (fun hH => ?_)
  refine wpAnyH_take (i := 0) (v := .pointer (some ⟨X, 0, none⟩)) rfl (by kernel_rfl) (by kernel_rfl) (by kernel_rfl) (fun _ _ _ h => h) (Or.inl ⟨by rfl, ?_⟩) (by assumption) ?_
  · intro V hV
    obtain ⟨hV0, hV1⟩ := hV
    go_simp
  simp only [List.getElem_toArray, List.getElem_cons_zero, List.getElem_cons_succ, Act.put, List.setIfInBounds_toArray, List.set_cons_zero, List.set_cons_succ]
  refine wpAnyH_take (i := 1) (v := .pointer (some ⟨X, 0, none⟩)) rfl (by kernel_rfl) (by kernel_rfl) (by kernel_rfl) (fun _ _ _ h => h) (Or.inl ⟨by rfl, ?_⟩) (by assumption) ?_
  · intro V hV
    obtain ⟨hV0, hV1⟩ := hV
    go_simp
  simp only [List.getElem_toArray, List.getElem_cons_zero, List.getElem_cons_succ, Act.put, List.setIfInBounds_toArray, List.set_cons_zero, List.set_cons_succ]
  refine wpAnyH_take (i := 2) (v := .pointer (some ⟨X, 0, none⟩)) rfl (by kernel_rfl) (by kernel_rfl) (by kernel_rfl) (fun _ _ _ h => h) (Or.inl ⟨by rfl, ?_⟩) (by assumption) ?_
  · intro V hV
    obtain ⟨hV0, hV1⟩ := hV
    go_simp
  simp only [List.getElem_toArray, List.getElem_cons_zero, List.getElem_cons_succ, Act.put, List.setIfInBounds_toArray, List.set_cons_zero, List.set_cons_succ]
  refine wpAnyH_take (i := 3) (v := .pointer (some ⟨X, 2, none⟩)) rfl (by kernel_rfl) (by kernel_rfl) (by kernel_rfl) (fun _ _ _ h => h) (Or.inl ⟨by rfl, ?_⟩) (by assumption) ?_
  · intro V hV
    obtain ⟨hV0, hV1⟩ := hV
    go_simp
  simp only [List.getElem_toArray, List.getElem_cons_zero, List.getElem_cons_succ, Act.put, List.setIfInBounds_toArray, List.set_cons_zero, List.set_cons_succ]
  refine wpAnyH_take (i := 5) (v := .pointer (some ⟨w.heap.size, 0, none⟩)) rfl (by kernel_rfl) (by kernel_rfl) (by kernel_rfl) (fun _ _ _ h => h) (Or.inl ⟨by rfl, ?_⟩) (by assumption) ?_
  · intro V hV
    obtain ⟨hV0, hV1⟩ := hV
    go_simp
  simp only [List.getElem_toArray, List.getElem_cons_zero, List.getElem_cons_succ, Act.put, List.setIfInBounds_toArray, List.set_cons_zero, List.set_cons_succ]
  refine wpAnyH_take (i := 6) (v := .string (tx (sumL t))) rfl (by kernel_rfl) (by kernel_rfl) (by kernel_rfl) (fun _ _ _ h => h) (Or.inl ⟨by rfl, ?_⟩) (by assumption) ?_
  · intro V hV
    obtain ⟨hV0, hV1⟩ := hV
    go_simp
  simp only [List.getElem_toArray, List.getElem_cons_zero, List.getElem_cons_succ, Act.put, List.setIfInBounds_toArray, List.set_cons_zero, List.set_cons_succ]
  refine wpAnyH_ready (rs := [4, 7]) (by kernel_rfl) (by simp) ?_
  refine AllReadyH.cons rfl (fun K hK => ?_) (AllReadyH.cons rfl (fun K hK => ?_) AllReadyH.nil)
  · have c2 : w2.drew.cell? ⟨X, 2, none⟩ = some _ := HC2.out
    go_simp
    refine hK.out _ _ G2.out.2 (fun hH => ?_)
    clear hK K
    try simp only [List.getElem_toArray, List.getElem_cons_zero, List.getElem_cons_succ, Act.put, List.setIfInBounds_toArray, List.set_cons_zero, List.set_cons_succ]
    refine wpAnyH_ready (rs := [7]) (by kernel_rfl) (by simp) ?_
    refine AllReadyH.cons rfl (fun K hK => ?_) AllReadyH.nil
    go_simp
    refine hK.out _ _ G7.out (fun hH => ?_)
    clear hK K
    try simp only [List.getElem_toArray, List.getElem_cons_zero, List.getElem_cons_succ, Act.put, List.setIfInBounds_toArray, List.set_cons_zero, List.set_cons_succ]
    refine wpAnyH_ready (rs := [8]) (by kernel_rfl) (by simp) ?_
    refine AllReadyH.cons rfl (fun K hK => ?_) AllReadyH.nil
    refine step_append_lies _ (by rfl) _ _ _ (by rfl) B 9 i0 _ 1 16 Tryd.underlying22 hi0 hz0 hz1 hz2' rfl (by decide) _ _ _ (by rfl) OW7.out ⟨w2.heap.size, 0, none⟩ 1 1 [.string (tx (sumL t))] (by rfl) (by rfl) HNW.out (one1t _) (by decide) HM1.out HM2.out HM3.out (w2.heap.size + 1) (by simp) ?_
    intro gg cap w8 hown8 hgrow8 hat8 hlt8
    obtain ⟨c8, f8, g8, A9, n9⟩ := HFIN.out w8 gg cap hown8 hgrow8 hat8
    have A9 := hid A9
    have N9 := hid n9
    clear hown8 hgrow8 hat8 hlt8 n9
    refine hK.out _ _ g8 (fun hH => ?_)
    clear hK K
    try simp only [List.getElem_toArray, List.getElem_cons_zero, List.getElem_cons_succ, Act.put, List.setIfInBounds_toArray, List.set_cons_zero, List.set_cons_succ]
    refine wpAnyH_take (i := 9) (v := .pointer (some ⟨X, 0, none⟩)) rfl (by kernel_rfl) (by kernel_rfl) (by kernel_rfl) (fun _ _ _ h => h) (Or.inl ⟨by rfl, ?_⟩) (by assumption) ?_
    · intro V hV
      obtain ⟨hV0, hV1⟩ := hV
      go_simp
    simp only [List.getElem_toArray, List.getElem_cons_zero, List.getElem_cons_succ, Act.put, List.setIfInBounds_toArray, List.set_cons_zero, List.set_cons_succ]
    refine wpAnyH_take (i := 10) (v := .pointer (some ⟨X, 2, none⟩)) rfl (by kernel_rfl) (by kernel_rfl) (by kernel_rfl) (fun _ _ _ h => h) (Or.inl ⟨by rfl, ?_⟩) (by assumption) ?_
    · intro V hV
      obtain ⟨hV0, hV1⟩ := hV
      go_simp
    simp only [List.getElem_toArray, List.getElem_cons_zero, List.getElem_cons_succ, Act.put, List.setIfInBounds_toArray, List.set_cons_zero, List.set_cons_succ]
    refine wpAnyH_ready (rs := [11]) (by kernel_rfl) (by simp) ?_
    refine AllReadyH.cons rfl (fun K hK => ?_) AllReadyH.nil
    obtain ⟨w9, hw9⟩ : ∃ w9, w8.setCell ⟨X, 2, none⟩ (.slice (some ⟨gg, 0, none⟩) (ts.length + 1) cap) = w9 := ⟨_, rfl⟩
    rw [hw9] at A9
    have G9 : Hid (w9.cell? ⟨w.heap.size, 0, none⟩ = some (.string (tx (sumL t))) ∧ w9.cell? ⟨w.heap.size, 1, none⟩ = some (.string (tx t))) := hid ⟨A9.out.box.cell 0 rfl, A9.out.box.cell 1 rfl⟩
    go_simp
    refine hK.out _ _ G9.out (fun hH => ?_)
    clear hK K
    try simp only [List.getElem_toArray, List.getElem_cons_zero, List.getElem_cons_succ, Act.put, List.setIfInBounds_toArray, List.set_cons_zero, List.set_cons_succ]
    refine wpAnyH_done (by kernel_rfl) ?_ _
    clear hw9 c8 f8 g8
    go_wp2
    refine wp_region_held_drew (S := (fun V => V.cell? ⟨w.heap.size, 0, none⟩ = some (.string (tx (sumL t))) ∧ V.cell? ⟨w.heap.size, 1, none⟩ = some (.string (tx t)))) (by kernel_rfl) G9.out (fun hH => ?_)
    refine wpAnyH_take (i := 0) (v := .pointer (some ⟨X, 0, none⟩)) rfl (by kernel_rfl) (by kernel_rfl) (by kernel_rfl) (fun _ _ _ h => h) (Or.inl ⟨by rfl, ?_⟩) (by assumption) ?_
    · intro V hV
      obtain ⟨hV0, hV1⟩ := hV
      go_simp
    simp only [List.getElem_toArray, List.getElem_cons_zero, List.getElem_cons_succ, Act.put, List.setIfInBounds_toArray, List.set_cons_zero, List.set_cons_succ]
    refine wpAnyH_take (i := 1) (v := .pointer (some ⟨X, 0, none⟩)) rfl (by kernel_rfl) (by kernel_rfl) (by kernel_rfl) (fun _ _ _ h => h) (Or.inl ⟨by rfl, ?_⟩) (by assumption) ?_
    · intro V hV
      obtain ⟨hV0, hV1⟩ := hV
      go_simp
    simp only [List.getElem_toArray, List.getElem_cons_zero, List.getElem_cons_succ, Act.put, List.setIfInBounds_toArray, List.set_cons_zero, List.set_cons_succ]
    refine wpAnyH_take (i := 2) (v := .pointer (some ⟨X, 3, none⟩)) rfl (by kernel_rfl) (by kernel_rfl) (by kernel_rfl) (fun _ _ _ h => h) (Or.inl ⟨by rfl, ?_⟩) (by assumption) ?_
    · intro V hV
      obtain ⟨hV0, hV1⟩ := hV
      go_simp
    simp only [List.getElem_toArray, List.getElem_cons_zero, List.getElem_cons_succ, Act.put, List.setIfInBounds_toArray, List.set_cons_zero, List.set_cons_succ]
    refine wpAnyH_take (i := 4) (v := .agg #[.string (tx (sumL t)), .string (tx t)]) rfl (by kernel_rfl) (by kernel_rfl) (by kernel_rfl) (fun _ _ _ h => h) (Or.inl ⟨by rfl, ?_⟩) (by assumption) ?_
    · intro V hV
      obtain ⟨hV0, hV1⟩ := hV
      go_simp
    simp only [List.getElem_toArray, List.getElem_cons_zero, List.getElem_cons_succ, Act.put, List.setIfInBounds_toArray, List.set_cons_zero, List.set_cons_succ]
    have A9d : Hid (AddM w w9.drew X D M n B _ _ ts t e sr) := hid (A9.out.below (Below.refl _ _).drew)
    refine wpAnyH_ready (rs := [3, 5]) (by kernel_rfl) (by simp) ?_
    refine AllReadyH.cons rfl (fun K hK => ?_) (AllReadyH.cons rfl (fun K hK => ?_) AllReadyH.nil)
    · have c9 : w9.drew.cell? ⟨X, 3, none⟩ = some (.int .i64 (e : Int)) := A9.out.head.cell 3 rfl
      go_simp
      refine hK.out _ _ G9.out (fun hH => ?_)
      clear hK K
      try simp only [List.getElem_toArray, List.getElem_cons_zero, List.getElem_cons_succ, Act.put, List.setIfInBounds_toArray, List.set_cons_zero, List.set_cons_succ]
      refine wpAnyH_ready (rs := [5]) (by kernel_rfl) (by simp) ?_
      refine AllReadyH.cons rfl (fun K hK => ?_) AllReadyH.nil
      go_simp
      refine (HSEC.out _).mono ?_
      rintro e1 w10 ⟨rfl, hb10⟩
      have A10 := hid (A9d.out.below hb10)
      have G10 : Hid (w10.cell? ⟨w.heap.size, 0, none⟩ = some (.string (tx (sumL t))) ∧ w10.cell? ⟨w.heap.size, 1, none⟩ = some (.string (tx t))) := hid ⟨A10.out.box.cell 0 rfl, A10.out.box.cell 1 rfl⟩
      have c10 := A10.out.head.cell 3 (v := .int .i64 (e : Int)) rfl
      have f10 := A10.out.head.fz 3
      clear hb10
      go_simp
      refine hK.out _ _ G10.out (fun hH => ?_)
      clear hK K
      try simp only [List.getElem_toArray, List.getElem_cons_zero, List.getElem_cons_succ, Act.put, List.setIfInBounds_toArray, List.set_cons_zero, List.set_cons_succ]
      refine wpAnyH_take (i := 6) (v := .int .i64 ((e : Int) + (ns : Int))) rfl (by kernel_rfl) (by kernel_rfl) (by kernel_rfl) (fun _ _ _ h => h) (Or.inl ⟨by rfl, ?_⟩) (by assumption) ?_
      · intro V hV
        obtain ⟨hV0, hV1⟩ := hV
        go_simp
      simp only [List.getElem_toArray, List.getElem_cons_zero, List.getElem_cons_succ, Act.put, List.setIfInBounds_toArray, List.set_cons_zero, List.set_cons_succ]
      refine wpAnyH_take (i := 7) (v := .pointer (some ⟨X, 0, none⟩)) rfl (by kernel_rfl) (by kernel_rfl) (by kernel_rfl) (fun _ _ _ h => h) (Or.inl ⟨by rfl, ?_⟩) (by assumption) ?_
      · intro V hV
        obtain ⟨hV0, hV1⟩ := hV
        go_simp
      simp only [List.getElem_toArray, List.getElem_cons_zero, List.getElem_cons_succ, Act.put, List.setIfInBounds_toArray, List.set_cons_zero, List.set_cons_succ]
      refine wpAnyH_take (i := 8) (v := .pointer (some ⟨X, 3, none⟩)) rfl (by kernel_rfl) (by kernel_rfl) (by kernel_rfl) (fun _ _ _ h => h) (Or.inl ⟨by rfl, ?_⟩) (by assumption) ?_
      · intro V hV
        obtain ⟨hV0, hV1⟩ := hV
        go_simp
      simp only [List.getElem_toArray, List.getElem_cons_zero, List.getElem_cons_succ, Act.put, List.setIfInBounds_toArray, List.set_cons_zero, List.set_cons_succ]
      refine wpAnyH_ready (rs := [9]) (by kernel_rfl) (by simp) ?_
      refine AllReadyH.cons rfl (fun K hK => ?_) AllReadyH.nil
      go_simp
      refine hK.out _ _ ⟨(A10.out.box.other _ _ (Nat.ne_of_gt h.head.lt)).cell 0 rfl, (A10.out.box.other _ _ (Nat.ne_of_gt h.head.lt)).cell 1 rfl⟩ (fun hH => ?_)
      clear hK K
      try simp only [List.getElem_toArray, List.getElem_cons_zero, List.getElem_cons_succ, Act.put, List.setIfInBounds_toArray, List.set_cons_zero, List.set_cons_succ]
      refine wpAnyH_done (by kernel_rfl) ?_ _
      go_end0
      refine ⟨rfl, ?_⟩
      have := A10.out.done _ (by rw [HNSE.out]) N9.out
      exact this
    · go_simp
      refine (HSEC.out _).mono ?_
      rintro e1 w10 ⟨rfl, hb10⟩
      have A10 := hid (A9d.out.below hb10)
      have G10 : Hid (w10.cell? ⟨w.heap.size, 0, none⟩ = some (.string (tx (sumL t))) ∧ w10.cell? ⟨w.heap.size, 1, none⟩ = some (.string (tx t))) := hid ⟨A10.out.box.cell 0 rfl, A10.out.box.cell 1 rfl⟩
      have c10 := A10.out.head.cell 3 (v := .int .i64 (e : Int)) rfl
      have f10 := A10.out.head.fz 3
      clear hb10
      go_simp
      refine hK.out _ _ G10.out (fun hH => ?_)
      clear hK K
      try simp only [List.getElem_toArray, List.getElem_cons_zero, List.getElem_cons_succ, Act.put, List.setIfInBounds_toArray, List.set_cons_zero, List.set_cons_succ]
      refine wpAnyH_ready (rs := [3]) (by kernel_rfl) (by simp) ?_
      refine AllReadyH.cons rfl (fun K hK => ?_) AllReadyH.nil
      go_simp
      refine hK.out _ _ G10.out (fun hH => ?_)
      clear hK K
      try simp only [List.getElem_toArray, List.getElem_cons_zero, List.getElem_cons_succ, Act.put, List.setIfInBounds_toArray, List.set_cons_zero, List.set_cons_succ]
      refine wpAnyH_take (i := 6) (v := .int .i64 ((e : Int) + (ns : Int))) rfl (by kernel_rfl) (by kernel_rfl) (by kernel_rfl) (fun _ _ _ h => h) (Or.inl ⟨by rfl, ?_⟩) (by assumption) ?_
      · intro V hV
        obtain ⟨hV0, hV1⟩ := hV
        go_simp
      simp only [List.getElem_toArray, List.getElem_cons_zero, List.getElem_cons_succ, Act.put, List.setIfInBounds_toArray, List.set_cons_zero, List.set_cons_succ]
      refine wpAnyH_take (i := 7) (v := .pointer (some ⟨X, 0, none⟩)) rfl (by kernel_rfl) (by kernel_rfl) (by kernel_rfl) (fun _ _ _ h => h) (Or.inl ⟨by rfl, ?_⟩) (by assumption) ?_
      · intro V hV
        obtain ⟨hV0, hV1⟩ := hV
        go_simp
      simp only [List.getElem_toArray, List.getElem_cons_zero, List.getElem_cons_succ, Act.put, List.setIfInBounds_toArray, List.set_cons_zero, List.set_cons_succ]
      refine wpAnyH_take (i := 8) (v := .pointer (some ⟨X, 3, none⟩)) rfl (by kernel_rfl) (by kernel_rfl) (by kernel_rfl) (fun _ _ _ h => h) (Or.inl ⟨by rfl, ?_⟩) (by assumption) ?_
      · intro V hV
        obtain ⟨hV0, hV1⟩ := hV
        go_simp
      simp only [List.getElem_toArray, List.getElem_cons_zero, List.getElem_cons_succ, Act.put, List.setIfInBounds_toArray, List.set_cons_zero, List.set_cons_succ]
      refine wpAnyH_ready (rs := [9]) (by kernel_rfl) (by simp) ?_
      refine AllReadyH.cons rfl (fun K hK => ?_) AllReadyH.nil
      go_simp
      refine hK.out _ _ ⟨(A10.out.box.other _ _ (Nat.ne_of_gt h.head.lt)).cell 0 rfl, (A10.out.box.other _ _ (Nat.ne_of_gt h.head.lt)).cell 1 rfl⟩ (fun hH => ?_)
      clear hK K
      try simp only [List.getElem_toArray, List.getElem_cons_zero, List.getElem_cons_succ, Act.put, List.setIfInBounds_toArray, List.set_cons_zero, List.set_cons_succ]
      refine wpAnyH_done (by kernel_rfl) ?_ _
      go_end0
      refine ⟨rfl, ?_⟩
      have := A10.out.done _ (by rw [HNSE.out]) N9.out
      exact this
  · go_simp
    refine hK.out _ _ G7.out (fun hH => ?_)
    clear hK K
    try simp only [List.getElem_toArray, List.getElem_cons_zero, List.getElem_cons_succ, Act.put, List.setIfInBounds_toArray, List.set_cons_zero, List.set_cons_succ]
    refine wpAnyH_ready (rs := [4]) (by kernel_rfl) (by simp) ?_
    refine AllReadyH.cons rfl (fun K hK => ?_) AllReadyH.nil
    have c2 : ((w2.alloc (.cells #[.string (tx (sumL t))] 9)).drew).cell? ⟨X, 2, none⟩ = some _ := HC7.out
    go_simp
    refine hK.out _ _ G7.out (fun hH => ?_)
    clear hK K
    try simp only [List.getElem_toArray, List.getElem_cons_zero, List.getElem_cons_succ, Act.put, List.setIfInBounds_toArray, List.set_cons_zero, List.set_cons_succ]
    refine wpAnyH_ready (rs := [8]) (by kernel_rfl) (by simp) ?_
    refine AllReadyH.cons rfl (fun K hK => ?_) AllReadyH.nil
    refine step_append_lies _ (by rfl) _ _ _ (by rfl) B 9 i0 _ 1 16 Tryd.underlying22 hi0 hz0 hz1 hz2' rfl (by decide) _ _ _ (by rfl) OW7.out ⟨w2.heap.size, 0, none⟩ 1 1 [.string (tx (sumL t))] (by rfl) (by rfl) HNW.out (one1t _) (by decide) HM1.out HM2.out HM3.out (w2.heap.size + 1) (by simp) ?_
    intro gg cap w8 hown8 hgrow8 hat8 hlt8
    obtain ⟨c8, f8, g8, A9, n9⟩ := HFIN.out w8 gg cap hown8 hgrow8 hat8
    have A9 := hid A9
    have N9 := hid n9
    clear hown8 hgrow8 hat8 hlt8 n9
    refine hK.out _ _ g8 (fun hH => ?_)
    clear hK K
    try simp only [List.getElem_toArray, List.getElem_cons_zero, List.getElem_cons_succ, Act.put, List.setIfInBounds_toArray, List.set_cons_zero, List.set_cons_succ]
    refine wpAnyH_take (i := 9) (v := .pointer (some ⟨X, 0, none⟩)) rfl (by kernel_rfl) (by kernel_rfl) (by kernel_rfl) (fun _ _ _ h => h) (Or.inl ⟨by rfl, ?_⟩) (by assumption) ?_
    · intro V hV
      obtain ⟨hV0, hV1⟩ := hV
      go_simp
    simp only [List.getElem_toArray, List.getElem_cons_zero, List.getElem_cons_succ, Act.put, List.setIfInBounds_toArray, List.set_cons_zero, List.set_cons_succ]
    refine wpAnyH_take (i := 10) (v := .pointer (some ⟨X, 2, none⟩)) rfl (by kernel_rfl) (by kernel_rfl) (by kernel_rfl) (fun _ _ _ h => h) (Or.inl ⟨by rfl, ?_⟩) (by assumption) ?_
    · intro V hV
      obtain ⟨hV0, hV1⟩ := hV
      go_simp
    simp only [List.getElem_toArray, List.getElem_cons_zero, List.getElem_cons_succ, Act.put, List.setIfInBounds_toArray, List.set_cons_zero, List.set_cons_succ]
    refine wpAnyH_ready (rs := [11]) (by kernel_rfl) (by simp) ?_
    refine AllReadyH.cons rfl (fun K hK => ?_) AllReadyH.nil
    obtain ⟨w9, hw9⟩ : ∃ w9, w8.setCell ⟨X, 2, none⟩ (.slice (some ⟨gg, 0, none⟩) (ts.length + 1) cap) = w9 := ⟨_, rfl⟩
    rw [hw9] at A9
    have G9 : Hid (w9.cell? ⟨w.heap.size, 0, none⟩ = some (.string (tx (sumL t))) ∧ w9.cell? ⟨w.heap.size, 1, none⟩ = some (.string (tx t))) := hid ⟨A9.out.box.cell 0 rfl, A9.out.box.cell 1 rfl⟩
    go_simp
    refine hK.out _ _ G9.out (fun hH => ?_)
    clear hK K
    try simp only [List.getElem_toArray, List.getElem_cons_zero, List.getElem_cons_succ, Act.put, List.setIfInBounds_toArray, List.set_cons_zero, List.set_cons_succ]
    refine wpAnyH_done (by kernel_rfl) ?_ _
    clear hw9 c8 f8 g8
    go_wp2
    refine wp_region_held_drew (S := (fun V => V.cell? ⟨w.heap.size, 0, none⟩ = some (.string (tx (sumL t))) ∧ V.cell? ⟨w.heap.size, 1, none⟩ = some (.string (tx t)))) (by kernel_rfl) G9.out (fun hH => ?_)
    refine wpAnyH_take (i := 0) (v := .pointer (some ⟨X, 0, none⟩)) rfl (by kernel_rfl) (by kernel_rfl) (by kernel_rfl) (fun _ _ _ h => h) (Or.inl ⟨by rfl, ?_⟩) (by assumption) ?_
    · intro V hV
      obtain ⟨hV0, hV1⟩ := hV
      go_simp
    simp only [List.getElem_toArray, List.getElem_cons_zero, List.getElem_cons_succ, Act.put, List.setIfInBounds_toArray, List.set_cons_zero, List.set_cons_succ]
    refine wpAnyH_take (i := 1) (v := .pointer (some ⟨X, 0, none⟩)) rfl (by kernel_rfl) (by kernel_rfl) (by kernel_rfl) (fun _ _ _ h => h) (Or.inl ⟨by rfl, ?_⟩) (by assumption) ?_
    · intro V hV
      obtain ⟨hV0, hV1⟩ := hV
      go_simp
    simp only [List.getElem_toArray, List.getElem_cons_zero, List.getElem_cons_succ, Act.put, List.setIfInBounds_toArray, List.set_cons_zero, List.set_cons_succ]
    refine wpAnyH_take (i := 2) (v := .pointer (some ⟨X, 3, none⟩)) rfl (by kernel_rfl) (by kernel_rfl) (by kernel_rfl) (fun _ _ _ h => h) (Or.inl ⟨by rfl, ?_⟩) (by assumption) ?_
    · intro V hV
      obtain ⟨hV0, hV1⟩ := hV
      go_simp
    simp only [List.getElem_toArray, List.getElem_cons_zero, List.getElem_cons_succ, Act.put, List.setIfInBounds_toArray, List.set_cons_zero, List.set_cons_succ]
    refine wpAnyH_take (i := 4) (v := .agg #[.string (tx (sumL t)), .string (tx t)]) rfl (by kernel_rfl) (by kernel_rfl) (by kernel_rfl) (fun _ _ _ h => h) (Or.inl ⟨by rfl, ?_⟩) (by assumption) ?_
    · intro V hV
      obtain ⟨hV0, hV1⟩ := hV
      go_simp
    simp only [List.getElem_toArray, List.getElem_cons_zero, List.getElem_cons_succ, Act.put, List.setIfInBounds_toArray, List.set_cons_zero, List.set_cons_succ]
    have A9d : Hid (AddM w w9.drew X D M n B _ _ ts t e sr) := hid (A9.out.below (Below.refl _ _).drew)
    refine wpAnyH_ready (rs := [3, 5]) (by kernel_rfl) (by simp) ?_
    refine AllReadyH.cons rfl (fun K hK => ?_) (AllReadyH.cons rfl (fun K hK => ?_) AllReadyH.nil)
    · have c9 : w9.drew.cell? ⟨X, 3, none⟩ = some (.int .i64 (e : Int)) := A9.out.head.cell 3 rfl
      go_simp
      refine hK.out _ _ G9.out (fun hH => ?_)
      clear hK K
      try simp only [List.getElem_toArray, List.getElem_cons_zero, List.getElem_cons_succ, Act.put, List.setIfInBounds_toArray, List.set_cons_zero, List.set_cons_succ]
      refine wpAnyH_ready (rs := [5]) (by kernel_rfl) (by simp) ?_
      refine AllReadyH.cons rfl (fun K hK => ?_) AllReadyH.nil
      go_simp
      refine (HSEC.out _).mono ?_
      rintro e1 w10 ⟨rfl, hb10⟩
      have A10 := hid (A9d.out.below hb10)
      have G10 : Hid (w10.cell? ⟨w.heap.size, 0, none⟩ = some (.string (tx (sumL t))) ∧ w10.cell? ⟨w.heap.size, 1, none⟩ = some (.string (tx t))) := hid ⟨A10.out.box.cell 0 rfl, A10.out.box.cell 1 rfl⟩
      have c10 := A10.out.head.cell 3 (v := .int .i64 (e : Int)) rfl
      have f10 := A10.out.head.fz 3
      clear hb10
      go_simp
      refine hK.out _ _ G10.out (fun hH => ?_)
      clear hK K
      try simp only [List.getElem_toArray, List.getElem_cons_zero, List.getElem_cons_succ, Act.put, List.setIfInBounds_toArray, List.set_cons_zero, List.set_cons_succ]
      refine wpAnyH_take (i := 6) (v := .int .i64 ((e : Int) + (ns : Int))) rfl (by kernel_rfl) (by kernel_rfl) (by kernel_rfl) (fun _ _ _ h => h) (Or.inl ⟨by rfl, ?_⟩) (by assumption) ?_
      · intro V hV
        obtain ⟨hV0, hV1⟩ := hV
        go_simp
      simp only [List.getElem_toArray, List.getElem_cons_zero, List.getElem_cons_succ, Act.put, List.setIfInBounds_toArray, List.set_cons_zero, List.set_cons_succ]
      refine wpAnyH_take (i := 7) (v := .pointer (some ⟨X, 0, none⟩)) rfl (by kernel_rfl) (by kernel_rfl) (by kernel_rfl) (fun _ _ _ h => h) (Or.inl ⟨by rfl, ?_⟩) (by assumption) ?_
      · intro V hV
        obtain ⟨hV0, hV1⟩ := hV
        go_simp
      simp only [List.getElem_toArray, List.getElem_cons_zero, List.getElem_cons_succ, Act.put, List.setIfInBounds_toArray, List.set_cons_zero, List.set_cons_succ]
      refine wpAnyH_take (i := 8) (v := .pointer (some ⟨X, 3, none⟩)) rfl (by kernel_rfl) (by kernel_rfl) (by kernel_rfl) (fun _ _ _ h => h) (Or.inl ⟨by rfl, ?_⟩) (by assumption) ?_
      · intro V hV
        obtain ⟨hV0, hV1⟩ := hV
        go_simp
      simp only [List.getElem_toArray, List.getElem_cons_zero, List.getElem_cons_succ, Act.put, List.setIfInBounds_toArray, List.set_cons_zero, List.set_cons_succ]
      refine wpAnyH_ready (rs := [9]) (by kernel_rfl) (by simp) ?_
      refine AllReadyH.cons rfl (fun K hK => ?_) AllReadyH.nil
      go_simp
      refine hK.out _ _ ⟨(A10.out.box.other _ _ (Nat.ne_of_gt h.head.lt)).cell 0 rfl, (A10.out.box.other _ _ (Nat.ne_of_gt h.head.lt)).cell 1 rfl⟩ (fun hH => ?_)
      clear hK K
      try simp only [List.getElem_toArray, List.getElem_cons_zero, List.getElem_cons_succ, Act.put, List.setIfInBounds_toArray, List.set_cons_zero, List.set_cons_succ]
      refine wpAnyH_done (by kernel_rfl) ?_ _
      go_end0
      refine ⟨rfl, ?_⟩
      have := A10.out.done _ (by rw [HNSE.out]) N9.out
      exact this
    · go_simp
      refine (HSEC.out _).mono ?_
      rintro e1 w10 ⟨rfl, hb10⟩
      have A10 := hid (A9d.out.below hb10)
      have G10 : Hid (w10.cell? ⟨w.heap.size, 0, none⟩ = some (.string (tx (sumL t))) ∧ w10.cell? ⟨w.heap.size, 1, none⟩ = some (.string (tx t))) := hid ⟨A10.out.box.cell 0 rfl, A10.out.box.cell 1 rfl⟩
      have c10 := A10.out.head.cell 3 (v := .int .i64 (e : Int)) rfl
      have f10 := A10.out.head.fz 3
      clear hb10
      go_simp
      refine hK.out _ _ G10.out (fun hH => ?_)
      clear hK K
      try simp only [List.getElem_toArray, List.getElem_cons_zero, List.getElem_cons_succ, Act.put, List.setIfInBounds_toArray, List.set_cons_zero, List.set_cons_succ]
      refine wpAnyH_ready (rs := [3]) (by kernel_rfl) (by simp) ?_
      refine AllReadyH.cons rfl (fun K hK => ?_) AllReadyH.nil
      go_simp
      refine hK.out _ _ G10.out (fun hH => ?_)
      clear hK K
      try simp only [List.getElem_toArray, List.getElem_cons_zero, List.getElem_cons_succ, Act.put, List.setIfInBounds_toArray, List.set_cons_zero, List.set_cons_succ]
      refine wpAnyH_take (i := 6) (v := .int .i64 ((e : Int) + (ns : Int))) rfl (by kernel_rfl) (by kernel_rfl) (by kernel_rfl) (fun _ _ _ h => h) (Or.inl ⟨by rfl, ?_⟩) (by assumption) ?_
      · intro V hV
        obtain ⟨hV0, hV1⟩ := hV
        go_simp
      simp only [List.getElem_toArray, List.getElem_cons_zero, List.getElem_cons_succ, Act.put, List.setIfInBounds_toArray, List.set_cons_zero, List.set_cons_succ]
      refine wpAnyH_take (i := 7) (v := .pointer (some ⟨X, 0, none⟩)) rfl (by kernel_rfl) (by kernel_rfl) (by kernel_rfl) (fun _ _ _ h => h) (Or.inl ⟨by rfl, ?_⟩) (by assumption) ?_
      · intro V hV
        obtain ⟨hV0, hV1⟩ := hV
        go_simp
      simp only [List.getElem_toArray, List.getElem_cons_zero, List.getElem_cons_succ, Act.put, List.setIfInBounds_toArray, List.set_cons_zero, List.set_cons_succ]
      refine wpAnyH_take (i := 8) (v := .pointer (some ⟨X, 3, none⟩)) rfl (by kernel_rfl) (by kernel_rfl) (by kernel_rfl) (fun _ _ _ h => h) (Or.inl ⟨by rfl, ?_⟩) (by assumption) ?_
      · intro V hV
        obtain ⟨hV0, hV1⟩ := hV
        go_simp
      simp only [List.getElem_toArray, List.getElem_cons_zero, List.getElem_cons_succ, Act.put, List.setIfInBounds_toArray, List.set_cons_zero, List.set_cons_succ]
      refine wpAnyH_ready (rs := [9]) (by kernel_rfl) (by simp) ?_
      refine AllReadyH.cons rfl (fun K hK => ?_) AllReadyH.nil
      go_simp
      refine hK.out _ _ ⟨(A10.out.box.other _ _ (Nat.ne_of_gt h.head.lt)).cell 0 rfl, (A10.out.box.other _ _ (Nat.ne_of_gt h.head.lt)).cell 1 rfl⟩ (fun hH => ?_)
      clear hK K
      try simp only [List.getElem_toArray, List.getElem_cons_zero, List.getElem_cons_succ, Act.put, List.setIfInBounds_toArray, List.set_cons_zero, List.set_cons_succ]
      refine wpAnyH_done (by kernel_rfl) ?_ _
      go_end0
      refine ⟨rfl, ?_⟩
      have := A10.out.done _ (by rw [HNSE.out]) N9.out
      exact this
end Go.Proofs.YtemcpjflpggaeaaDoor.Dk
