import Derived.Test.YtjceppinfjbegaaGreatDoorOpsA
import Derived.Lib.SliceRun
set_option linter.unusedSimpArgs false
set_option linter.unusedVariables false
namespace Go.Proofs.YtjceppinfjbegaaGreatDoor
open Go.RowKit

/-- A job. -/
structure Jb where
  at_ : Int
  code : Int
  outs : Value
  ins : Value
  cols : Value
  op : ByteArray
  left : Ag
  right : Ag
  retry : Int
def Jb.cells (j : Jb) : Array Value := #[.int .i64 j.at_, .int .i64 j.code, j.outs, j.ins, j.cols, .string j.op, .string j.left.1, .int .i64 j.left.2.1, .int .i64 j.left.2.2.1, .string j.left.2.2.2, .string j.right.1, .int .i64 j.right.2.1, .int .i64 j.right.2.2.1, .string j.right.2.2.2, .int .i64 j.retry]
abbrev aggA (x : Ag) : Value := .agg #[.string x.1, .int .i64 x.2.1, .int .i64 x.2.2.1, .string x.2.2.2]
/-- Does a row stay? -/
def testB (cs : List Cl) (j : Jb) (r : List Vl) : Bool := holdsB j.op.data.toList (lessV (valIn cs r j.left) (valIn cs r j.right)) (lessV (valIn cs r j.right) (valIn cs r j.left))
def okArg (cs : List Cl) (x : Ag) : Prop := x.1.data.toList = [] ∨ ∃ i, placeN cs x.1.data.toList = some i
/-- Where a job lies. -/
def JobAt (w : World) (jb : Nat) (j : Jb) : Prop := ∀ k v, j.cells[k]? = some v → w.cell? ⟨jb, k, none⟩ = some v
theorem JobAt.below {w w' : World} {B jb : Nat} {j : Jb} (h : JobAt w jb j) (hb : Below B w w') (hlt : jb < B) : JobAt w' jb j := fun k v hk => (hb.cell (p := ⟨jb, k, none⟩) hlt).trans (h k v hk)
theorem JobAt.lt {w : World} {jb : Nat} {j : Jb} (h : JobAt w jb j) : jb < w.heap.size := World.block_lt_of_cell? w _ (h 0 _ rfl)

set_option maxRecDepth 100000 in
set_option maxHeartbeats 1600000 in
theorem rowsOf1_any (vr vc : Value) (cs : List Cl) (r : List Vl) (j : Jb) (jb ab : Nat) (w : World) (hj : JobAt w jb j) (hab : w.cell? ⟨ab, 0, none⟩ = some vc) (hc : ColsIs w vc cs) (hr : RowIs w vr r) (h6 : cs.length ≤ 100) (hl : r.length = cs.length) (ho1 : okArg cs j.left) (ho2 : okArg cs j.right) :
    Calls Tryz.prog 82 #[vr, .pointer (some ⟨jb, 0, none⟩), .pointer (some ⟨ab, 0, none⟩)] w fun e w' => e = .returned (.bool (testB cs j r)) ∧ Below w.heap.size w w' := by
  have e5 := cell_regrown (show w.cell? ⟨jb, 5, none⟩ = some (.string j.op) from hj 5 _ rfl)
  have e6 := cell_regrown (show w.cell? ⟨jb, 6, none⟩ = some (.string j.left.1) from hj 6 _ rfl)
  have e7 := cell_regrown (show w.cell? ⟨jb, 7, none⟩ = some (.int .i64 j.left.2.1) from hj 7 _ rfl)
  have e8 := cell_regrown (show w.cell? ⟨jb, 8, none⟩ = some (.int .i64 j.left.2.2.1) from hj 8 _ rfl)
  have e9 := cell_regrown (show w.cell? ⟨jb, 9, none⟩ = some (.string j.left.2.2.2) from hj 9 _ rfl)
  have e10 := cell_regrown (show w.cell? ⟨jb, 10, none⟩ = some (.string j.right.1) from hj 10 _ rfl)
  have e11 := cell_regrown (show w.cell? ⟨jb, 11, none⟩ = some (.int .i64 j.right.2.1) from hj 11 _ rfl)
  have e12 := cell_regrown (show w.cell? ⟨jb, 12, none⟩ = some (.int .i64 j.right.2.2.1) from hj 12 _ rfl)
  have e13 := cell_regrown (show w.cell? ⟨jb, 13, none⟩ = some (.string j.right.2.2.2) from hj 13 _ rfl)
  have ea := cell_regrown hab
  have C1 : ∀ (x : Ag) (hx : x = j.left ∨ x = j.right) d os, _ := fun x hx d os => Calls.regrown_of (valueIn_any vr vc cs r x (Sort.grow (redrawn w d) os) (hc.below (below_regrown _ _ _)) (hr.below (below_regrown _ _ _)) h6 hl (by rcases hx with rfl | rfl; exact ho1; exact ho2))
  have C2 : ∀ (op : ByteArray) (a b : Vl) d os, _ := fun op a b d os => Calls.regrown_of (holds_any op a b (Sort.grow (redrawn w d) os))
  obtain ⟨a, c, rfl, -⟩ := hc
  obtain ⟨a', c', rfl, -⟩ := hr
  unfold testB
  clear hj hab ho1 ho2 hl h6
  go_enter Tryz.func82, Tryz.ntmps82
  go_wp2
  refine wp_region_quiet_below (by kernel_rfl) (by kernel_rfl) ?_
  repeat (any_goals (first | go_big_quiet_step (first | (go_at_call 84; exact C1 _ (by first | exact Or.inl rfl | exact Or.inr rfl) _ _) | (go_at_call 83; exact C2 _ _ _ _ _)) | quiet_step (first | (go_at_call 84; exact C1 _ (by first | exact Or.inl rfl | exact Or.inr rfl) _ _) | (go_at_call 83; exact C2 _ _ _ _ _))))
  refine wpQuiet_nil ?_
  intro _ hw'
  obtain ⟨⟨dq, osq⟩, hw''⟩ := hw'
  subst hw''
  go_wp2
  go_ret
  exact ⟨rfl, below_regrown _ _ _⟩

/-- Rows of values that the call itself has made. -/
def HeldRows (w : World) (B : Nat) (us : List Value) (rs : List (List Vl)) : Prop :=
  us.length = rs.length ∧ ∀ (j : Nat) (h : j < us.length) (h' : j < rs.length), w.ownsRow B 24 3 us[j] rs[j].length (valCells rs[j]) ∧ ∀ x ∈ rs[j], x.2.2.size ≤ maxLen
theorem HeldRows.below {w w' : World} {B : Nat} {us : List Value} {rs : List (List Vl)} (h : HeldRows w B us rs) (hb : Below w.heap.size w w') : HeldRows w' B us rs :=
  ⟨h.1, fun j hj hj' => ⟨owns_below (h.2 j hj hj').1 hb, (h.2 j hj hj').2⟩⟩
theorem HeldRows.mono {w : World} {B B' : Nat} {us : List Value} {rs : List (List Vl)} (h : HeldRows w B us rs) (hB : B' ≤ B) : HeldRows w B' us rs :=
  ⟨h.1, fun j hj hj' => ⟨own_mono hB (h.2 j hj hj').1, (h.2 j hj hj').2⟩⟩
theorem HeldRows.grow {w w' : World} {B B' : Nat} {us : List Value} {rs : List (List Vl)} {v : Value} {n : Nat} {xs : List Value} (h : HeldRows w B us rs) (hv : w.ownsRow B' 62 1 v n xs) (hg : w.grownBy w' v.ownBlock) : HeldRows w' B us rs :=
  ⟨h.1, fun j hj hj' => ⟨(h.2 j hj hj').1.kept hg (own_ne (by decide) (h.2 j hj hj').1 hv), (h.2 j hj hj').2⟩⟩
theorem HeldRows.snoc {w : World} {B : Nat} {us : List Value} {rs : List (List Vl)} {u : Value} {r : List Vl} (h : HeldRows w B us rs) (hu : w.ownsRow B 24 3 u r.length (valCells r)) (hr : ∀ x ∈ r, x.2.2.size ≤ maxLen) : HeldRows w B (us ++ [u]) (rs ++ [r]) := by
  refine ⟨by simp [h.1], fun j hj hj' => ?_⟩
  by_cases hlt : j < us.length
  · have hlt' : j < rs.length := by rw [← h.1]; exact hlt
    simp only [List.getElem_append_left hlt, List.getElem_append_left hlt']
    exact h.2 j hlt hlt'
  · have hje : j = us.length := by rw [List.length_append] at hj; simp at hj; omega
    subst hje
    have e1 : (us ++ [u])[us.length] = u := by simp
    have e2 : (rs ++ [r])[us.length]'(by rw [h.1]; simp) = r := by simp [h.1]
    rw [e1]
    simp only [e2]
    exact ⟨hu, hr⟩
theorem HeldRows.nil (w : World) (B : Nat) : HeldRows w B [] [] := ⟨rfl, fun j hj => absurd hj (by simp)⟩
/-- The rows, as they are told. -/
theorem rows_of_held {w : World} {B B' : Nat} {v : Value} {us : List Value} {rs : List (List Vl)} (h5 : w.ownsRow B 62 1 v rs.length us) (h6 : HeldRows w B' us rs) : RowsIs w v rs := by
  have h0 := h5
  obtain ⟨hxl, ⟨rfl, hn⟩ | ⟨g, cap, cur, rfl, hg, hh, hn, hm, _, _⟩⟩ := h5
  · exact ⟨none, 0, by rw [hn], Or.inl (List.length_eq_zero_iff.1 hn)⟩
  · refine ⟨some ⟨g, 0, none⟩, cap, rfl, Or.inr ⟨g, 0, rfl, (h0.lt g rfl).2, fun j hj => ?_⟩⟩
    have hju : j < us.length := by rw [h6.1]; exact hj
    refine ⟨us[j], ?_, row_of_own (h6.2 j hju hj).1 (h6.2 j hju hj).2⟩
    have e := h0.cellAt j (by omega)
    rw [show 0 + j = j by omega, e, List.getElem?_eq_getElem hju]

theorem valCells_len (vs : List Vl) : (valCells vs).length = vs.length * 3 := by
  induction vs with
  | nil => rfl
  | cons c r ih => simp only [valCells, List.flatMap_cons, List.length_append, List.length_cons, List.length_nil] at ih ⊢; omega
theorem valCells_one (vs : List Vl) : ∀ u ∈ valCells vs, u.oneCell' = true := by
  intro u hu
  rw [valCells, List.mem_flatMap] at hu
  obtain ⟨x, -, hu⟩ := hu
  simp at hu
  rcases hu with rfl | rfl | rfl <;> rfl
theorem vals_news {w : World} {b o : Nat} {vs : List Vl} (h : ValsAt w b o vs) (j : Nat) (u : Value) (hj : (valCells vs)[j]? = some u) : w.cell? ((⟨b, o, none⟩ : Addr).add j) = some u := by
  have hjl : j < (valCells vs).length := (List.getElem?_eq_some_iff.1 hj).1
  rw [valCells_len] at hjl
  have hc := valCells_at vs (j / 3) (by omega)
  have hv := h (j / 3) (by omega)
  rw [Addr.add_mid]
  rcases (show j = j / 3 * 3 ∨ j = j / 3 * 3 + 1 ∨ j = j / 3 * 3 + 2 by omega) with e | e | e
  · rw [e] at hj ⊢
    rw [hc.1] at hj; injection hj with hj; subst hj
    have : (j / 3 * 3) / 3 * 3 = j / 3 * 3 := by omega
    simpa [this] using hv.1
  · rw [e] at hj ⊢
    rw [hc.2.1] at hj; injection hj with hj; subst hj
    have := hv.2.1
    rw [Nat.add_assoc] at this
    exact this
  · rw [e] at hj ⊢
    rw [hc.2.2] at hj; injection hj with hj; subst hj
    have := hv.2.2
    rw [Nat.add_assoc] at this
    exact this

theorem own_empty (w : World) (e : TypeId) (z B : Nat) (hB : B ≤ w.heap.size) : (w.alloc (.cells #[] e)).ownsRow B e z (.slice (some ⟨w.heap.size, 0, none⟩) 0 0) 0 [] :=
  ⟨by simp, Or.inr ⟨w.heap.size, 0, #[], rfl, hB, by show (w.heap.push _)[w.heap.size]? = _; simp, Nat.le_refl _, by unfold maxLen; omega, by simp, by simp⟩⟩

set_option maxRecDepth 100000 in
set_option maxHeartbeats 800000 in
theorem cloneVal_in (b o n c : Nat) (vs : List Vl) (w : World) (hn : vs.length = n) (hn' : n ≤ 100) (hb : b < w.heap.size) (hv : ValsAt w b o vs) :
    Calls Tryz.prog 117 #[.slice (some ⟨b, o, none⟩) n c] w fun e w' => ∃ v, e = .returned v ∧ w'.ownsRow w.heap.size 24 3 v n (valCells vs) ∧ Below w.heap.size w w' := by
  obtain ⟨i0, hi, hz0, hz1, hz2⟩ := info_parts Tryz.infoVal
  have HN := Hid.mk hn
  have HV := Hid.mk hv
  clear hn hv
  have q22 : ∀ (w : World) (a : Option Addr) (n c n' c' : Nat), (binOp .eql 62 (.slice a n c) (.slice none n' c')).run Tryz.prog w = .ok (.bool a.isNone) w := fun w a n c n' c' => Lib.run_eql_slice_nil w _ _ a n c n' c' Tryz.underlying62
  go_enter Tryz.func117, Tryz.ntmps117
  go_wp2_with (at_builtin; refine wpList_append_own _ rfl _ _ 62 rfl w.heap.size 24 i0 (.agg #[.int .i64 0, .int .i64 0, .string ⟨#[]⟩]) 3 32 Tryz.underlying62 hi hz0 hz1 hz2 rfl (by decide) _ _ _ rfl (own_empty w _ _ _ (Nat.le_refl _)) ⟨b, o, none⟩ n c (valCells vs) rfl ?c0 (vals_news (HV.out.below (below_box _ _) hb)) (valCells_one vs) ?c3 ?c4 ?c5 ?_)
  case c0 => rw [valCells_len, HN.out]
  case c3 => unfold maxLen; omega
  case c4 => omega
  case c5 => simp
  intro v' w4 hown' hgrow _
  have hbl : Below w.heap.size w w4 := (below_box w _).grown hgrow (by simp) (fun q hq => by simp [Value.ownBlock] at hq; omega)
  have HO := Hid.mk hown'
  clear hown' hgrow
  go_wp2
  go_ret
  exact ⟨_, rfl, HO.out, hbl⟩

theorem colCells_one (vs : List Cl) : ∀ u ∈ colCells vs, u.oneCell' = true := by
  intro u hu
  rw [colCells, List.mem_flatMap] at hu
  obtain ⟨x, -, hu⟩ := hu
  simp at hu
  rcases hu with rfl | rfl <;> rfl
theorem cols_news {w : World} {b o : Nat} {vs : List Cl} (h : ColsAt w b o vs) (j : Nat) (u : Value) (hj : (colCells vs)[j]? = some u) : w.cell? ((⟨b, o, none⟩ : Addr).add j) = some u := by
  have hjl : j < (colCells vs).length := (List.getElem?_eq_some_iff.1 hj).1
  rw [colCells_len] at hjl
  have hc := colCells_at vs (j / 2) (by omega)
  have hv := h (j / 2) (by omega)
  rw [Addr.add_mid]
  rcases (show j = j / 2 * 2 ∨ j = j / 2 * 2 + 1 by omega) with e | e
  · rw [e] at hj ⊢
    rw [hc.1] at hj; injection hj with hj; subst hj
    have : (j / 2 * 2) / 2 * 2 = j / 2 * 2 := by omega
    simpa [this] using hv.1
  · rw [e] at hj ⊢
    rw [hc.2] at hj; injection hj with hj; subst hj
    have := hv.2
    rw [Nat.add_assoc] at this
    exact this

set_option maxRecDepth 100000 in
set_option maxHeartbeats 800000 in
theorem cloneCol_in (b o n c : Nat) (vs : List Cl) (w : World) (hn : vs.length = n) (hn' : n ≤ 100) (hb : b < w.heap.size) (hv : ColsAt w b o vs) :
    Calls Tryz.prog 72 #[.slice (some ⟨b, o, none⟩) n c] w fun e w' => ∃ v, e = .returned v ∧ w'.ownsRow w.heap.size 60 2 v n (colCells vs) ∧ Below w.heap.size w w' := by
  obtain ⟨i0, hi, hz0, hz1, hz2⟩ := info_parts Tryz.infoCol
  have HN := Hid.mk hn
  have HV := Hid.mk hv
  clear hn hv
  have q22 : ∀ (w : World) (a : Option Addr) (n c n' c' : Nat), (binOp .eql 33 (.slice a n c) (.slice none n' c')).run Tryz.prog w = .ok (.bool a.isNone) w := fun w a n c n' c' => Lib.run_eql_slice_nil w _ _ a n c n' c' Tryz.underlying33
  go_enter Tryz.func72, Tryz.ntmps72
  go_wp2_with (at_builtin; refine wpList_append_own _ rfl _ _ 33 rfl w.heap.size 60 i0 (.agg #[.string ⟨#[]⟩, .int .i64 0]) 2 24 Tryz.underlying33 hi hz0 hz1 hz2 rfl (by decide) _ _ _ rfl (own_empty w _ _ _ (Nat.le_refl _)) ⟨b, o, none⟩ n c (colCells vs) rfl ?c0 (cols_news (HV.out.below (below_box _ _) hb)) (colCells_one vs) ?c3 ?c4 ?c5 ?_)
  case c0 => rw [colCells_len, HN.out]
  case c3 => unfold maxLen; omega
  case c4 => omega
  case c5 => simp
  intro v' w4 hown' hgrow _
  have hbl : Below w.heap.size w w4 := (below_box w _).grown hgrow (by simp) (fun q hq => by simp [Value.ownBlock] at hq; omega)
  have HO := Hid.mk hown'
  clear hown' hgrow
  go_wp2
  go_ret
  exact ⟨_, rfl, HO.out, hbl⟩

/-- Columns, cloned. -/
theorem cloneCol_any (v : Value) (cs : List Cl) (w : World) (h : ColsIs w v cs) (h1 : 1 ≤ cs.length) (h6 : cs.length ≤ 100) :
    Calls Tryz.prog 72 #[v] w fun e w' => ∃ v', e = .returned v' ∧ w'.ownsRow w.heap.size 60 2 v' cs.length (colCells cs) ∧ Below w.heap.size w w' := by
  obtain ⟨a, c, rfl, hc, hs, h⟩ := h
  rcases h with h | ⟨b, o, rfl, hl, hat⟩
  · rw [h] at h1; simp at h1
  · exact cloneCol_in b o cs.length c cs w rfl h6 hl hat
theorem cloneVal_any (v : Value) (vs : List Vl) (w : World) (h : RowIs w v vs) (h1 : 1 ≤ vs.length) (h6 : vs.length ≤ 100) :
    Calls Tryz.prog 117 #[v] w fun e w' => ∃ v', e = .returned v' ∧ w'.ownsRow w.heap.size 24 3 v' vs.length (valCells vs) ∧ Below w.heap.size w w' := by
  obtain ⟨a, c, rfl, hs, h⟩ := h
  rcases h with h | ⟨b, o, rfl, hl, hat⟩
  · rw [h] at h1; simp at h1
  · exact cloneVal_in b o vs.length c vs w rfl h6 hl hat

theorem own_slice {w : World} {B : Nat} {e : TypeId} {z : Nat} {v : Value} {n : Nat} {xs : List Value} (h : w.ownsRow B e z v n xs) : ∃ a c, v = .slice a n c := by
  obtain ⟨-, ⟨rfl, hn⟩ | ⟨g, cp, cur, rfl, -⟩⟩ := h
  · exact ⟨none, 0, by rw [hn]⟩
  · exact ⟨_, _, rfl⟩
theorem news1 (w : World) (v : Value) (t : TypeId) (H : Nat) (hH : w.heap.size = H) : ∀ j u, [v][j]? = some u → (w.alloc (.cells #[v] t)).cell? ((⟨H, 0, none⟩ : Addr).add j) = some u := by
  intro j u hj
  match j, hj with
  | 0, hj => simp at hj; subst hj; subst hH; simp [Addr.add]
theorem one1s (a : Option Addr) (n c : Nat) : ∀ u ∈ [Value.slice a n c], u.oneCell' = true := by intro u hu; simp at hu; subst hu; rfl
theorem rows_at {w : World} {v : Value} {rs : List (List Vl)} (h : RowsIs w v rs) (h0 : 0 < rs.length) : ∃ b o c, v = .slice (some ⟨b, o, none⟩) rs.length c ∧ b < w.heap.size ∧ RowsAt w b o rs := by
  obtain ⟨a, c, rfl, h⟩ := h
  rcases h with h | ⟨b, o, rfl, hl, hat⟩
  · rw [h] at h0; simp at h0
  · exact ⟨b, o, c, rfl, hl, hat⟩
theorem row_slice {w : World} {u : Value} {r : List Vl} (h : RowIs w u r) : ∃ a c, u = .slice a r.length c := by
  obtain ⟨a, c, rfl, -⟩ := h
  exact ⟨a, c, rfl⟩

set_option maxRecDepth 100000 in
set_option maxHeartbeats 1600000 in
theorem copied_any (v : Value) (rs : List (List Vl)) (m : Nat) (w : World) (hr : RowsIs w v rs) (hl : ∀ r ∈ rs, r.length = m) (h1 : 1 ≤ m) (h6 : m ≤ 100) (h60 : rs.length ≤ 100) :
    Calls Tryz.prog 80 #[v] w fun e w' => ∃ v' us, e = .returned v' ∧ w'.ownsRow w.heap.size 62 1 v' rs.length us ∧ HeldRows w' w.heap.size us rs ∧ Below w.heap.size w w' := by
  obtain ⟨i0, hi, hz0, hz1, hz2⟩ := info_parts Tryz.infoRow
  have HR := Hid.mk hr
  have HL := Hid.mk hl
  clear hl
  obtain ⟨va, vcp, rfl, -⟩ := hr
  go_enter Tryz.func80, Tryz.ntmps80
  go_wp2
  go_loopw [3, 8] (fun l i wr => ∃ (k : Nat) (us : List Value), k ≤ rs.length ∧ i = .int .i64 k ∧ wr.ownsRow w.heap.size 62 1 l k us ∧ HeldRows wr w.heap.size us (rs.take k) ∧ Below w.heap.size w wr) (fun _ i _ => rs.length - (intOf i).toNat)
  case atStart => exact ⟨0, [], Nat.zero_le _, rfl, World.ownsRow_nil _ _ _ _, HeldRows.nil _ _, Below.refl _ _⟩
  case round =>
    obtain ⟨k, us, hk, rfl, hown, hheld, hnx⟩ := hrel
    obtain ⟨la, lc, rfl⟩ := own_slice hown
    have HO := Hid.mk (And.intro hown hheld)
    have HX := Hid.mk hnx
    have hws := hnx.size
    by_cases hlt : k < rs.length
    · obtain ⟨b, o, c, hve, hbl, hat⟩ := rows_at HR.out (by omega)
      simp only [Value.slice.injEq, true_and] at hve
      obtain ⟨rfl, rfl⟩ := hve
      obtain ⟨u, hu, hru⟩ := hat k hlt
      have cu := (hnx.cell (p := ⟨b, o + k, none⟩) hbl).trans hu
      have hrw := hru.below hnx
      obtain ⟨ua, uc, rfl⟩ := row_slice hru
      have hrl := HL.out _ (List.getElem_mem hlt)
      have hCL := cloneVal_any _ _ wr hrw (by omega) (by omega)
      have hsz : ∀ x ∈ rs[k], x.2.2.size ≤ maxLen := by obtain ⟨_, _, _, hs, _⟩ := hru; exact hs
      have HC := Hid.mk hCL
      have HS := Hid.mk (And.intro hsz hrl)
      clear hCL hat hu hru hrw hnx hown hheld hsz hrl
      generalize hrk : rs[k] = rk at *
      have HRK := Hid.mk hrk
      clear hrk
      go_wp2_with (first | (go_at_call 117; refine HC.out.mono ?_; rintro e w1 ⟨v1, rfl, ho1, hb1⟩; obtain ⟨v1a, v1c, rfl⟩ := own_slice ho1) | (at_builtin; refine wpList_append_own _ rfl _ _ 34 rfl w.heap.size 62 i0 (.slice none 0 0) 1 24 Tryz.underlying34 hi hz0 hz1 hz2 rfl (by decide) _ _ _ rfl ((owns_below HO.out.1 hb1).alloc _) ⟨w1.heap.size, 0, none⟩ 1 1 [.slice v1a rk.length v1c] rfl rfl (news1 _ _ _ _ rfl) (one1s _ _ _) ?c3 ?c4 ?c5 ?_))
      case c3 => unfold maxLen; omega
      case c4 => omega
      case c5 => have := hb1.size; simp; omega
      intro v' w5 hown' hgrow _
      have hs1 := hb1.size
      have hbl5 : Below w.heap.size w w5 := ((bel_then HX.out hb1).alloc (by omega) _).grown hgrow (by simp; omega) (fun q hq => (HO.out.1.lt q hq).1)
      have hO1 := ((owns_below HO.out.1 hb1).alloc (.cells #[.slice v1a rk.length v1c] 62))
      have hH5 := ((HO.out.2.below hb1).below (below_box w1 (.cells #[.slice v1a rk.length v1c] 62))).grow hO1 hgrow
      have hu5 := (ho1.alloc (.cells #[.slice v1a rk.length v1c] 62)).kept hgrow (own_ne (by decide) (ho1.alloc _) hO1)
      have hH6 := hH5.snoc (own_mono (by omega) hu5) HS.out.1
      rw [show rs.take k ++ [rk] = rs.take (k + 1) by rw [List.take_succ_eq_append_getElem hlt, HRK.out]] at hH6
      have HF := Hid.mk (And.intro hown' (And.intro hH6 hbl5))
      clear hown' hgrow hH6 hbl5 hH5 hu5 hO1
      go_wp2
      go_roundw
      case rel => exact ⟨k + 1, _, by omega, by go_num, HF.out.1, HF.out.2.1, HF.out.2.2⟩
      case measure => simp [intOf]; omega
    · have hke : k = rs.length := by omega
      subst hke
      rw [List.take_of_length_le (Nat.le_refl _)] at hheld
      clear HO
      have HO := Hid.mk (And.intro hown hheld)
      clear hown hheld hnx
      go_wp2
      go_ret
      exact ⟨_, us, rfl, HO.out.1, HO.out.2, HX.out⟩
end Go.Proofs.YtjceppinfjbegaaGreatDoor

