import Derived.Test.YtlpomofaeeaneaaGreatDoorSetD
import Derived.Test.YtlpomofaeeaneaaGreatDoorSetM
import Derived.Test.YtlpomofaeeaneaaGreatDoorSetR
import Derived.Test.YtlpomofaeeaneaaGreatDoorSetW
import Derived.Test.YtlpomofaeeaneaaGreatDoorOpsP
set_option linter.unusedSimpArgs false
set_option linter.unusedVariables false
namespace Go.Proofs.YtlpomofaeeaneaaGreatDoor
open Go.RowKit

/-- What is told of one table by a job that sets a column (0: nothing is wrong). -/
def setNo (t : Tb) (j : Jb) (nm : List UInt8) : Int := if rightB t.1 t.2 = false then 1 else if setErr t.1 j nm ≠ 0 then setErr t.1 j nm else if (∀ r ∈ t.2, inNum (setV t.1 j r)) then 0 else 2

theorem set_cols {t : Tb} {j : Jb} {w : World} (oa : Option Addr) (oc : Nat) (nm : ByteArray) (cb co cc : Nat) (hcode : j.code = 2) (hout : j.outs = .slice oa 1 oc) (hcols : j.cols = .slice (some ⟨cb, co, none⟩) 1 cc) (hnm : w.cell? ⟨cb, co, none⟩ = some (.string nm)) (hcb : cb < w.heap.size) (hop : inS threeOps j.op.data.toList = true) (hx : j.left.2.2.2.size ≤ maxLen) (hx' : j.right.2.2.2.size ≤ maxLen) (hr : rightB t.1 t.2 = true) (he : setErr t.1 j nm.data.toList = 0) :
    ∀ W B g cap us, Below w.heap.size w W → W.ownsRow B 22 1 (.slice (some ⟨g, 0, none⟩) [t].length cap) [t].length us → HeadsIs W us ([t].map (·.1)) → Calls Tryz.prog 46 #[.agg j.cells, .slice (some ⟨g, 0, none⟩) [t].length cap] W fun e w' => ∃ v us, e = .returned (.tuple #[v, .nilIface]) ∧ w'.ownsRow W.heap.size 22 1 v 1 us ∧ HeldCols w' W.heap.size us t.1 ∧ Below W.heap.size W w' := by
  obtain ⟨hr1, hr2, hr3, hr4⟩ := right_len hr
  have hmk : sizesI j.code = (((1 : Nat) : Int), ((1 : Nat) : Int)) := by rw [hcode]; rfl
  intro W B g cap us hW ho hh
  obtain ⟨b, o, c, hc0, hgl, hbl, hat⟩ := head_of ho hh hr1
  refine cols_ok _ oa cap oc j 1 1 t.1 W hout hmk (by decide) (by decide) (fun W' hW' => ?_) (fun W' hW' => columns_same g 0 1 cap b o t.1.length c t.1 j W' (Or.inr (Or.inr (Or.inl hcode))) (by decide) (Nat.lt_of_lt_of_le hgl hW'.size) ((hW'.cell (p := ⟨g, 0, none⟩) hgl).trans hc0) rfl (by omega) (Nat.lt_of_lt_of_le hbl hW'.size) (hat.below hW' hbl))
  have hcbW : cb < W.heap.size := Nat.lt_of_lt_of_le hcb hW.size
  have := wrong_set g 0 1 cap b o t.1.length c cb co cc t.1 nm j W' hcode (by decide) (Nat.lt_of_lt_of_le hgl hW'.size) ((hW'.cell (p := ⟨g, 0, none⟩) hgl).trans hc0) hcols (Nat.lt_of_lt_of_le hcbW hW'.size) ((hW'.cell (p := ⟨cb, co, none⟩) hcbW).trans ((hW.cell (p := ⟨cb, co, none⟩) hcb).trans hnm)) hop rfl (by omega) (Nat.lt_of_lt_of_le hbl hW'.size) (hat.below hW' hbl) hx hx'
  rw [he] at this
  exact this

theorem set_rows {tb to_ tcap : Nat} {t : Tb} {j : Jb} {w : World} (nm : ByteArray) (cb co cc at_ : Nat) (hcode : j.code = 2) (hcols : j.cols = .slice (some ⟨cb, co, none⟩) 1 cc) (hnm : w.cell? ⟨cb, co, none⟩ = some (.string nm)) (hcb : cb < w.heap.size) (hat : placeN t.1 nm.data.toList = some at_) (ht : TabsAt w tb to_ [t]) (htb : tb < w.heap.size) (hr : rightB t.1 t.2 = true) (he : setErr t.1 j nm.data.toList = 0) :
    ∀ W, Below w.heap.size w W → Calls Tryz.prog 47 #[.agg j.cells, .slice (some ⟨tb, to_, none⟩) [t].length tcap] W fun e w' => (((∀ r ∈ t.2, inNum (setV t.1 j r)) ∧ ∃ v1 us1, e = .returned (.tuple #[v1, .slice none 0 0, .nilIface]) ∧ w'.ownsRow W.heap.size 50 1 v1 t.2.length us1 ∧ HeldRows w' W.heap.size us1 (t.2.map (setR t.1 j at_))) ∨ ((∃ r ∈ t.2, ¬ inNum (setV t.1 j r)) ∧ e = .returned (.tuple #[.slice none 0 0, .slice none 0 0, errV 2]))) ∧ Below W.heap.size W w' := by
  obtain ⟨hr1, hr2, hr3, hr4⟩ := right_len hr
  obtain ⟨i, hi, hk0, hk1, hk2⟩ := setErr_0 he
  intro W hW
  obtain ⟨vc, vr, c0, c1, hc, hrs⟩ := ht 0 (by simp)
  exact rowsOf_set tb to_ 1 tcap vc vr t.1 t.2 j W nm cb co cc at_ hcode hcols ((hW.cell (p := ⟨cb, co, none⟩) hcb).trans hnm) (Nat.lt_of_lt_of_le hcb hW.size) hat (fun r hr' => ⟨arg_num hr hk1 r hr', arg_num hr hk2 r hr'⟩) (by decide) (Nat.lt_of_lt_of_le htb hW.size) ((hW.cell (p := ⟨tb, to_, none⟩) htb).trans (by simpa using c0)) ((hW.cell (p := ⟨tb, to_ + 1, none⟩) htb).trans (by simpa using c1)) (hc.below hW) (hrs.below hW) hr1 (by omega) hr4 (by omega) (arg_ok hk1) (arg_ok hk2)

theorem do_set_bad (tb to_ tcap : Nat) (t : Tb) (j : Jb) (oa : Option Addr) (oc : Nat) (nm : ByteArray) (cb co cc : Nat) (w : World) (hcode : j.code = 2) (hout : j.outs = .slice oa 1 oc) (hcols : j.cols = .slice (some ⟨cb, co, none⟩) 1 cc) (hnm : w.cell? ⟨cb, co, none⟩ = some (.string nm)) (hcb : cb < w.heap.size) (hop : inS threeOps j.op.data.toList = true) (hx : j.left.2.2.2.size ≤ maxLen) (hx' : j.right.2.2.2.size ≤ maxLen) (ht : TabsAt w tb to_ [t]) (htb : tb < w.heap.size) (hno : setNo t j nm.data.toList ≠ 0) :
    Calls Tryz.prog 29 #[.agg j.cells, .slice (some ⟨tb, to_, none⟩) 1 tcap] w fun e w' => e = .returned (.tuple #[.slice none 0 0, errV (setNo t j nm.data.toList)]) ∧ Below w.heap.size w w' := by
  have hmk : sizesI j.code = (((1 : Nat) : Int), ((1 : Nat) : Int)) := by rw [hcode]; rfl
  cases hr : rightB t.1 t.2
  · have : setNo t j nm.data.toList = 1 := by unfold setNo; rw [if_pos hr]
    rw [this]
    exact do_arg tb to_ tcap [t] j w ht htb (by simp) ⟨t, by simp, hr⟩
  · obtain ⟨hr1, hr2, hr3, hr4⟩ := right_len hr
    have hgood : ∀ x ∈ [t], rightB x.1 x.2 = true := by intro x hx'; simp at hx'; rw [hx']; exact hr
    by_cases he : setErr t.1 j nm.data.toList = 0
    · have hn : setNo t j nm.data.toList = if (∀ r ∈ t.2, inNum (setV t.1 j r)) then 0 else 2 := by unfold setNo; rw [if_neg (by simp [hr]), if_neg (by simp [he])]
      by_cases hall : ∀ r ∈ t.2, inNum (setV t.1 j r)
      · rw [hn, if_pos hall] at hno; exact absurd rfl hno
      · rw [hn, if_neg hall]
        obtain ⟨i, hi, hk0, hk1, hk2⟩ := setErr_0 he
        refine do_rerr tb to_ tcap [t] j w ht htb (by simp) (by simp) hgood t.1 1 2 (by decide) (set_cols oa oc nm cb co cc hcode hout hcols hnm hcb hop hx hx' hr he) (fun W hW => ?_)
        refine (set_rows (tcap := tcap) nm cb co cc i hcode hcols hnm hcb hi ht htb hr he W hW).mono ?_
        rintro e w' ⟨⟨h1, -⟩ | ⟨-, h2⟩, hb⟩
        · exact absurd h1 hall
        · exact ⟨h2, hb⟩
    · have hn : setNo t j nm.data.toList = setErr t.1 j nm.data.toList := by unfold setNo; rw [if_neg (by simp [hr]), if_pos he]
      rw [hn]
      refine do_bad tb to_ tcap [t] j w ht htb (by simp) (by simp) hgood _ he ?_
      intro W B g cap us hW ho hh
      obtain ⟨b, o, c, hc0, hgl, hbl, hat⟩ := head_of ho hh hr1
      have hcbW : cb < W.heap.size := Nat.lt_of_lt_of_le hcb hW.size
      exact cols_bad _ oa cap oc j 1 1 _ W hout hmk (by decide) he (fun W' hW' => wrong_set g 0 1 cap b o t.1.length c cb co cc t.1 nm j W' hcode (by decide) (Nat.lt_of_lt_of_le hgl hW'.size) ((hW'.cell (p := ⟨g, 0, none⟩) hgl).trans hc0) hcols (Nat.lt_of_lt_of_le hcbW hW'.size) ((hW'.cell (p := ⟨cb, co, none⟩) hcbW).trans ((hW.cell (p := ⟨cb, co, none⟩) hcb).trans hnm)) hop rfl (by omega) (Nat.lt_of_lt_of_le hbl hW'.size) (hat.below hW' hbl) hx hx')

theorem setNo_0 {t : Tb} {j : Jb} {nm : List UInt8} (h : setNo t j nm = 0) : rightB t.1 t.2 = true ∧ setErr t.1 j nm = 0 ∧ ∀ r ∈ t.2, inNum (setV t.1 j r) := by
  unfold setNo at h
  split at h
  · cases h
  · rename_i h1
    split at h
    · rename_i h2; exact absurd h h2
    · rename_i h2
      split at h
      · rename_i h3; exact ⟨by simpa using h1, by simpa using h2, h3⟩
      · cases h

theorem do_set_ok (tb to_ tcap : Nat) (t : Tb) (j : Jb) (oa : Option Addr) (oc : Nat) (nm : ByteArray) (cb co cc at_ : Nat) (w : World) (hcode : j.code = 2) (hout : j.outs = .slice oa 1 oc) (hcols : j.cols = .slice (some ⟨cb, co, none⟩) 1 cc) (hnm : w.cell? ⟨cb, co, none⟩ = some (.string nm)) (hcb : cb < w.heap.size) (hop : inS threeOps j.op.data.toList = true) (hx : j.left.2.2.2.size ≤ maxLen) (hx' : j.right.2.2.2.size ≤ maxLen) (ht : TabsAt w tb to_ [t]) (htb : tb < w.heap.size) (hat : placeN t.1 nm.data.toList = some at_) (hno : setNo t j nm.data.toList = 0) :
    Calls Tryz.prog 29 #[.agg j.cells, .slice (some ⟨tb, to_, none⟩) 1 tcap] w fun e w' => ∃ g c, e = .returned (.tuple #[.slice (some ⟨g, 0, none⟩) 1 c, .nilIface]) ∧ w.heap.size ≤ g ∧ g < w'.heap.size ∧ TabsNew w' w.heap.size g [(t.1, t.2.map (setR t.1 j at_))] ∧ Below w.heap.size w w' := by
  obtain ⟨hr, he, hall⟩ := setNo_0 hno
  obtain ⟨hr1, hr2, hr3, hr4⟩ := right_len hr
  obtain ⟨vc, vr, c0, c1, hc, hrs⟩ := ht 0 (by simp)
  refine do_ok1 tb to_ tcap [t] j w ht htb (by simp) (by simp) (by intro x hx'; simp at hx'; rw [hx']; exact hr) t.1 (t.2.map (setR t.1 j at_)) [] (by simpa using hr3) (cols_size hc) (set_cols oa oc nm cb co cc hcode hout hcols hnm hcb hop hx hx' hr he) (fun W hW => ?_)
  refine (set_rows (tcap := tcap) nm cb co cc at_ hcode hcols hnm hcb hat ht htb hr he W hW).mono ?_
  rintro e w' ⟨⟨-, v1, us1, h1, h2, h3⟩ | ⟨⟨r, hr', hn⟩, -⟩, hb⟩
  · exact ⟨v1, .slice none 0 0, us1, [], h1, by simpa using h2, h3, World.ownsRow_nil _ _ _ _, HeldRows.nil _ _, hb⟩
  · exact absurd (hall r hr') hn

/-- The job of OpsSets. -/
def jset (H : Nat) (op col : ByteArray) (right : Ag) : Jb := ⟨0, 2, .slice none 0 0, .slice none 0 0, .slice (some ⟨H, 0, none⟩) 1 1, op, (col, 0, 0, ⟨#[]⟩), right, 0⟩

theorem five_cell (w : World) (a b c d : Obj) (x y : Value) (t : TypeId) : (((((w.alloc a).alloc b).alloc (.cells #[x, y] t)).alloc c).alloc d).cell? ⟨w.heap.size + 1 + 1, 0, none⟩ = some x ∧ (((((w.alloc a).alloc b).alloc (.cells #[x, y] t)).alloc c).alloc d).cell? ⟨w.heap.size + 1 + 1, 1, none⟩ = some y := by
  have e : ((w.alloc a).alloc b).heap.size = w.heap.size + 1 + 1 := by simp
  have h0 : (((w.alloc a).alloc b).alloc (.cells #[x, y] t)).cell? ⟨w.heap.size + 1 + 1, 0, none⟩ = some x := by rw [World.cell?_alloc_at _ _ _ _ e.symm]; rfl
  have h1 : (((w.alloc a).alloc b).alloc (.cells #[x, y] t)).cell? ⟨w.heap.size + 1 + 1, 1, none⟩ = some y := by rw [World.cell?_alloc_at _ _ _ _ e.symm]; rfl
  have hb := bel_box (below_box (((w.alloc a).alloc b).alloc (.cells #[x, y] t)) c) d
  exact ⟨(hb.cell (p := ⟨w.heap.size + 1 + 1, 0, none⟩) (by simp)).trans h0, (hb.cell (p := ⟨w.heap.size + 1 + 1, 1, none⟩) (by simp)).trans h1⟩
theorem two_cell (W : World) (x : Value) (t : TypeId) (o : Obj) (H : Nat) (hH : W.heap.size = H) : ((W.alloc (.cells #[x] t)).alloc o).cell? ⟨H, 0, none⟩ = some x := by
  subst hH
  simp
theorem three_more {w : World} {ab : Nat} {v : Value} (hab : w.cell? ⟨ab, 0, none⟩ = some v) (habl : ab < w.heap.size) (a b c : Obj) : (((w.alloc a).alloc b).alloc c).cell? ⟨ab, 0, none⟩ = some v := ((bel_box (bel_box (below_box w a) b) c).cell (p := ⟨ab, 0, none⟩) habl).trans hab
theorem four_more {w : World} {ab : Nat} {v : Value} (hab : w.cell? ⟨ab, 0, none⟩ = some v) (habl : ab < w.heap.size) (a b c d : Obj) : ((((w.alloc a).alloc b).alloc c).alloc d).cell? ⟨ab, 0, none⟩ = some v := ((bel_box (bel_box (bel_box (below_box w a) b) c) d).cell (p := ⟨ab, 0, none⟩) habl).trans hab

set_option maxRecDepth 100000 in
set_option maxHeartbeats 1600000 in
/-- OpsSets' closure, where a job fails. -/
theorem set1_bad (op col : ByteArray) (right : Ag) (vc vr : Value) (cs : List Cl) (rs : List (List Vl)) (ab : Nat) (w : World) (hab : w.cell? ⟨ab, 0, none⟩ = some (.string col)) (habl : ab < w.heap.size) (hc : ColsIs w vc cs) (hr : RowsIs w vr rs) (hop : inS threeOps op.data.toList = true) (hx' : right.2.2.2.size ≤ maxLen) (hno : setNo (cs, rs) (jset 0 op col right) col.data.toList ≠ 0) :
    Calls Tryz.prog 15 #[.string op, aggA right, .agg #[vc, vr], .pointer (some ⟨ab, 0, none⟩)] w fun e w' => e = .returned (.tuple #[.agg #[.slice none 0 0, .slice none 0 0], .bool false]) ∧ Below w.heap.size w w' := by
  have hO := fun (W : World) (H : Nat) (hH : W.heap.size = H) (hW : Below w.heap.size w W) =>
    one_bad (H + 1) 0 1 1 (jset H op col right) (setNo (cs, rs) (jset 0 op col right) col.data.toList) ((W.alloc (.cells #[.string col] 9)).alloc (.cells #[vc, vr] 25)) ⟨by show (1 : Int) ≤ 2; decide, by show (2 : Int) ≤ 8; decide⟩ hno (fun W' H' hW' _ => by
      have hs : H + 1 < W'.heap.size := by have := hW'.size; simp at this; omega
      refine do_set_bad (H + 1) 0 1 (cs, rs) ((jset H op col right).withOuts (.slice (some ⟨H', 0, none⟩) 1 2)) (some ⟨H', 0, none⟩) 2 col H 0 1 W' rfl rfl rfl ((hW'.cell (p := ⟨H, 0, none⟩) (by simp; omega)).trans (two_cell W _ _ _ H hH)) (by omega) hop (by show (0 : Nat) ≤ maxLen; exact Nat.zero_le _) hx' ((tabs_new _ _ _ (cs, rs) _ (H + 1) (by simp; omega) (hc.below (bel_box hW _)) (hr.below (bel_box hW _))).below hW' (by simp; omega)) hs hno)
  have HO := Hid.mk hO
  obtain ⟨va, vcp, rfl, -⟩ := hc
  obtain ⟨ra, rcp, rfl, -⟩ := hr
  unfold jset Jb.cells at HO
  have h3 := three_more hab habl
  have h4 := four_more hab habl
  clear hO hno hop
  go_enter Tryz.func15, Tryz.ntmps15
  go_wp2_with (go_at_call 8; refine (HO.out _ _ (by simp) (bel_box (bel_box (below_box _ _) _) _)).mono ?_; rintro e w1 ⟨rfl, hb1⟩; obtain ⟨hc1, hf1⟩ := bcell hb1; have hz1 : w.heap.size + 2 < w1.heap.size := by (have := hb1.size; simp at this; omega))
  have hb01 := bel_then (bel_box (bel_box (bel_box (bel_box (below_box _ _) _) _) _) _) hb1
  have c0 : w1.cell? ⟨w.heap.size + 1 + 1, 0, none⟩ = some (.slice none 0 0) := (hb1.cell (p := ⟨w.heap.size + 1 + 1, 0, none⟩) (by simp)).trans (five_cell w _ _ _ _ _ _ _).1
  have c1 : w1.cell? ⟨w.heap.size + 1 + 1, 1, none⟩ = some (.slice none 0 0) := (hb1.cell (p := ⟨w.heap.size + 1 + 1, 1, none⟩) (by simp)).trans (five_cell w _ _ _ _ _ _ _).2
  clear hc1 hf1 h3 h4
  refine bodyPost_ret (v := .tuple #[.agg #[.slice none 0 0, .slice none 0 0], .bool false]) (by simp [results, Tryz.results15, go_sem, c0, c1]) rfl ⟨rfl, ?_⟩
  exact (hb01.setCell (by show w.heap.size ≤ w.heap.size + 1 + 1; omega) _).setCell (by show w.heap.size ≤ w.heap.size + 1 + 1; omega) _

set_option maxRecDepth 100000 in
set_option maxHeartbeats 1600000 in
/-- OpsSets' closure, where a job makes a table. -/
theorem set1_ok (op col : ByteArray) (right : Ag) (vc vr : Value) (cs : List Cl) (rs : List (List Vl)) (ab : Nat) (w : World) (hab : w.cell? ⟨ab, 0, none⟩ = some (.string col)) (habl : ab < w.heap.size) (hc : ColsIs w vc cs) (hr : RowsIs w vr rs) (hop : inS threeOps op.data.toList = true) (hx' : right.2.2.2.size ≤ maxLen) (at_ : Nat) (hat : placeN cs col.data.toList = some at_) (hno : setNo (cs, rs) (jset 0 op col right) col.data.toList = 0) :
    Calls Tryz.prog 15 #[.string op, aggA right, .agg #[vc, vr], .pointer (some ⟨ab, 0, none⟩)] w fun e w' => ∃ vc' vr', e = .returned (.tuple #[.agg #[vc', vr'], .bool true]) ∧ ColsNew w' w.heap.size vc' cs ∧ RowsNew w' w.heap.size vr' (rs.map (setR cs (jset 0 op col right) at_)) ∧ Below w.heap.size w w' := by
  have hO := fun (W : World) (H : Nat) (hH : W.heap.size = H) (hW : Below w.heap.size w W) =>
    one_ok (H + 1) 0 1 1 (jset H op col right) (cs, rs.map (setR cs (jset 0 op col right) at_)) ((W.alloc (.cells #[.string col] 9)).alloc (.cells #[vc, vr] 25)) ⟨by show (1 : Int) ≤ 2; decide, by show (2 : Int) ≤ 8; decide⟩ (fun W' H' hW' _ => by
      have hs : H + 1 < W'.heap.size := by have := hW'.size; simp at this; omega
      refine do_set_ok (H + 1) 0 1 (cs, rs) ((jset H op col right).withOuts (.slice (some ⟨H', 0, none⟩) 1 2)) (some ⟨H', 0, none⟩) 2 col H 0 1 at_ W' rfl rfl rfl ((hW'.cell (p := ⟨H, 0, none⟩) (by simp; omega)).trans (two_cell W _ _ _ H hH)) (by omega) hop (by show (0 : Nat) ≤ maxLen; exact Nat.zero_le _) hx' ((tabs_new _ _ _ (cs, rs) _ (H + 1) (by simp; omega) (hc.below (bel_box hW _)) (hr.below (bel_box hW _))).below hW' (by simp; omega)) hs hat hno)
  have HO := Hid.mk hO
  obtain ⟨va, vcp, rfl, -⟩ := hc
  obtain ⟨ra, rcp, rfl, -⟩ := hr
  unfold jset Jb.cells at HO
  have h3 := three_more hab habl
  have h4 := four_more hab habl
  clear hO hno hop hat
  go_enter Tryz.func15, Tryz.ntmps15
  go_wp2_with (go_at_call 8; refine (HO.out _ _ (by simp) (bel_box (bel_box (below_box _ _) _) _)).mono ?_; rintro e w1 ⟨c', r', rfl, hcn, hrn, hb1⟩; obtain ⟨c'a, c'c, rfl⟩ := own_slice hcn.1; obtain ⟨r'a, r'c, rfl⟩ := rowsNew_slice hrn; obtain ⟨hc1, hf1⟩ := bcell hb1; have hz1 : w.heap.size + 2 < w1.heap.size := by (have := hb1.size; simp at this; omega))
  have hb01 := bel_then (bel_box (bel_box (bel_box (bel_box (below_box _ _) _) _) _) _) hb1
  have c0 : w1.cell? ⟨w.heap.size + 1 + 1, 0, none⟩ = some (.slice none 0 0) := (hb1.cell (p := ⟨w.heap.size + 1 + 1, 0, none⟩) (by simp)).trans (five_cell w _ _ _ _ _ _ _).1
  have c1 : w1.cell? ⟨w.heap.size + 1 + 1, 1, none⟩ = some (.slice none 0 0) := (hb1.cell (p := ⟨w.heap.size + 1 + 1, 1, none⟩) (by simp)).trans (five_cell w _ _ _ _ _ _ _).2
  clear hc1 hf1 h3 h4
  refine bodyPost_ret (v := .tuple #[.agg #[.slice c'a cs.length c'c, .slice r'a (rs.map (setR cs (jset 0 op col right) at_)).length r'c], .bool true]) (by simp [results, Tryz.results15, go_sem, c0, c1]) rfl ⟨_, _, rfl, (((hcn.set (by simp)).set (by simp)).mono (by simp; omega)), (((hrn.set (by simp)).set (by simp)).mono (by simp; omega)), ?_⟩
  exact (hb01.setCell (by show w.heap.size ≤ w.heap.size + 1 + 1; omega) _).setCell (by show w.heap.size ≤ w.heap.size + 1 + 1; omega) _
end Go.Proofs.YtlpomofaeeaneaaGreatDoor
