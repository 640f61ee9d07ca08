import Derived.Test.YtjceppinfjbegaaGreatDoorOpsF
import Derived.Deep.RegionHeld3
import Derived.Deep.DeepCutAuto
set_option linter.unusedSimpArgs false
set_option linter.unusedVariables false
namespace Go.Proofs.YtjceppinfjbegaaGreatDoor
open Go.RowKit

theorem errV_ne {n : Int} (h : n ≠ 0) : errV n = .iface 40 (.int .i64 n) := by unfold errV; rw [if_neg h]
theorem errV_0 : errV 0 = .nilIface := rfl

set_option maxRecDepth 100000 in
set_option maxHeartbeats 800000 in
/-- Cols: there are too few, or too many. -/
theorem cols_arg (va oa : Option Addr) (nin cin m oc : Nat) (j : Jb) (tk mk : Nat) (w : World) (hj : j.outs = .slice oa m oc) (hs : sizesI j.code = ((tk : Int), (mk : Int))) (hbad : tk = 0 ∨ nin ≠ tk ∨ m ≠ mk) :
    Calls Tryz.prog 11 #[.agg j.cells, .slice va nin cin] w fun e w' => e = .returned (.tuple #[.slice none 0 0, errV 1]) ∧ Below w.heap.size w w' := by
  have hS := fun W => sizes_any j.code W
  rw [hs] at hS
  simp only at hS
  have HS := Hid.mk hS
  unfold Jb.cells
  rw [hj]
  clear hS hs hj
  by_cases h0 : tk = 0
  · subst h0
    clear hbad
    go_enter Tryz.func11, Tryz.ntmps11
    go_wp2_with (go_at_call 9; refine (HS.out _).mono ?_; rintro e w1 ⟨rfl, rfl⟩)
    go_ret2
    exact ⟨rfl, below_box _ _⟩
  · have h0' : ((tk : Int) == 0) = false := by simp; omega
    by_cases h1 : nin = tk
    · have h1' : ((nin : Int) != (tk : Int)) = false := by simp; omega
      have h2' : ((m : Int) != (mk : Int)) = true := by simp; omega
      clear hbad h0 h1
      go_enter Tryz.func11, Tryz.ntmps11
      go_wp2_with (go_at_call 9; refine (HS.out _).mono ?_; rintro e w1 ⟨rfl, rfl⟩)
      go_ret2
      exact ⟨rfl, below_box _ _⟩
    · have h1' : ((nin : Int) != (tk : Int)) = true := by simp; omega
      clear hbad h0 h1
      go_enter Tryz.func11, Tryz.ntmps11
      go_wp2_with (go_at_call 9; refine (HS.out _).mono ?_; rintro e w1 ⟨rfl, rfl⟩)
      go_ret2
      exact ⟨rfl, below_box _ _⟩

set_option maxRecDepth 100000 in
set_option maxHeartbeats 800000 in
/-- Cols: something is wrong. -/
theorem cols_bad (va oa : Option Addr) (cin oc : Nat) (j : Jb) (tk mk : Nat) (n : Int) (w : World) (hj : j.outs = .slice oa mk oc) (hs : sizesI j.code = ((tk : Int), (mk : Int))) (h0 : tk ≠ 0) (hn : n ≠ 0)
    (hW : ∀ W, Below w.heap.size w W → Calls Tryz.prog 35 #[.agg j.cells, .slice va tk cin] W fun e w' => e = .returned (errV n) ∧ Below W.heap.size W w') :
    Calls Tryz.prog 11 #[.agg j.cells, .slice va tk cin] w fun e w' => e = .returned (.tuple #[.slice none 0 0, errV n]) ∧ Below w.heap.size w w' := by
  have hS := fun W => sizes_any j.code W
  rw [hs] at hS
  simp only at hS
  have HS := Hid.mk hS
  rw [errV_ne hn] at hW ⊢
  unfold Jb.cells at hW ⊢
  rw [hj] at hW ⊢
  have HW := Hid.mk hW
  have h0' : ((tk : Int) == 0) = false := by simp; omega
  have h1' : ((tk : Int) != (tk : Int)) = false := by simp
  have h2' : ((mk : Int) != (mk : Int)) = false := by simp
  clear hS hs hj hW h0 hn
  go_enter Tryz.func11, Tryz.ntmps11
  go_wp2_with (first | (go_at_call 9; refine (HS.out _).mono ?_; rintro e w1 ⟨rfl, rfl⟩) | (go_at_call 35; refine (HW.out _ (below_box _ _)).mono ?_; rintro e w2 ⟨rfl, hb2⟩))
  go_ret2
  exact ⟨rfl, bel_then (below_box _ _) hb2⟩

theorem Tryz.infoCols : (Tryz.prog.info? 33).map (fun i => (i.zero, i.size, i.bytes)) = some (some (.slice none 0 0), 1, 24) := by kernel_rfl
/-- Lists of columns that the call itself has made. -/
def HeldCols (w : World) (B : Nat) (us : List Value) (cs : List Cl) : Prop := ∀ u ∈ us, w.ownsRow B 60 2 u cs.length (colCells cs)

set_option maxRecDepth 100000 in
set_option maxHeartbeats 1600000 in
/-- Cols: nothing is wrong. -/
theorem cols_ok (va oa : Option Addr) (cin oc : Nat) (j : Jb) (tk mk : Nat) (cs : List Cl) (w : World) (hj : j.outs = .slice oa mk oc) (hs : sizesI j.code = ((tk : Int), (mk : Int))) (h0 : tk ≠ 0) (hmk : mk ≤ 2)
    (hW : ∀ W, Below w.heap.size w W → Calls Tryz.prog 35 #[.agg j.cells, .slice va tk cin] W fun e w' => e = .returned .nilIface ∧ Below W.heap.size W w')
    (hC : ∀ W, Below w.heap.size w W → Calls Tryz.prog 36 #[.agg j.cells, .slice va tk cin] W fun e w' => ∃ u, e = .returned u ∧ w'.ownsRow W.heap.size 60 2 u cs.length (colCells cs) ∧ Below W.heap.size W w') :
    Calls Tryz.prog 11 #[.agg j.cells, .slice va tk cin] w fun e w' => ∃ v us, e = .returned (.tuple #[v, .nilIface]) ∧ w'.ownsRow w.heap.size 33 1 v mk us ∧ HeldCols w' w.heap.size us cs ∧ Below w.heap.size w w' := by
  obtain ⟨i0, hi, hz0, hz1, hz2⟩ := info_parts Tryz.infoCols
  have hS := fun W => sizes_any j.code W
  rw [hs] at hS
  simp only at hS
  have HS := Hid.mk hS
  unfold Jb.cells at hW hC ⊢
  rw [hj] at hW hC ⊢
  have HW := Hid.mk hW
  have HC := Hid.mk hC
  have h0' : ((tk : Int) == 0) = false := by simp; omega
  have h1' : ((tk : Int) != (tk : Int)) = false := by simp
  have h2' : ((mk : Int) != (mk : Int)) = false := by simp
  clear hS hs hj hW hC h0
  go_enter Tryz.func11, Tryz.ntmps11
  go_wp2_with (first | (go_at_call 9; refine (HS.out _).mono ?_; rintro e w1 ⟨rfl, rfl⟩) | (go_at_call 35; refine (HW.out _ (below_box _ _)).mono ?_; rintro e w2 ⟨rfl, hb2⟩))
  have hjb : JobAt w2 w.heap.size ⟨j.at_, j.code, .slice oa mk oc, j.ins, j.cols, j.op, j.left, j.right, j.retry⟩ := JobAt.below (w := w.alloc (.cells _ 28)) (fun k v hk => by
    rw [World.cell?_alloc_at _ _ _ _ rfl]; exact hk) hb2 (by simp)
  have hb02 := bel_then (below_box _ _) hb2
  have hz2' : w.heap.size < w2.heap.size := by have := hb2.size; simp at this; omega
  have HJ := Hid.mk hjb
  have HB := Hid.mk hb02
  clear HS HW hjb hb02 hb2
  go_loopw [9, 39] (fun l i wr => ∃ (k : Nat) (us : List Value), k ≤ mk ∧ i = .int .i64 k ∧ wr.ownsRow w2.heap.size 33 1 l k us ∧ HeldCols wr w.heap.size us cs ∧ Below w2.heap.size w2 wr) (fun _ i _ => mk - (intOf i).toNat)
  case atStart => exact ⟨0, [], Nat.zero_le _, rfl, World.ownsRow_nil _ _ _ _, fun u hu => absurd hu (by simp), Below.refl _ _⟩
  case round =>
    obtain ⟨k, us, hk, rfl, hown, hheld, hnx⟩ := hrel
    obtain ⟨la, lc, rfl⟩ := own_slice hown
    have hws := hnx.size
    have HO := Hid.mk (And.intro hown (And.intro hheld hnx))
    by_cases hlt : k < mk
    · have hJ := HJ.out.below hnx hz2'
      have j0 : wr.cell? ⟨w.heap.size, 0, none⟩ = some (.int .i64 j.at_) := hJ 0 _ rfl
      have j1 : wr.cell? ⟨w.heap.size, 1, none⟩ = some (.int .i64 j.code) := hJ 1 _ rfl
      have j2 : wr.cell? ⟨w.heap.size, 2, none⟩ = some (.slice oa mk oc) := hJ 2 _ rfl
      have j3 : wr.cell? ⟨w.heap.size, 3, none⟩ = some j.ins := hJ 3 _ rfl
      have j4 : wr.cell? ⟨w.heap.size, 4, none⟩ = some j.cols := hJ 4 _ rfl
      have j5 : wr.cell? ⟨w.heap.size, 5, none⟩ = some (.string j.op) := hJ 5 _ rfl
      have j6 : wr.cell? ⟨w.heap.size, 6, none⟩ = some (.string j.left.1) := hJ 6 _ rfl
      have j7 : wr.cell? ⟨w.heap.size, 7, none⟩ = some (.int .i64 j.left.2.1) := hJ 7 _ rfl
      have j8 : wr.cell? ⟨w.heap.size, 8, none⟩ = some (.int .i64 j.left.2.2.1) := hJ 8 _ rfl
      have j9 : wr.cell? ⟨w.heap.size, 9, none⟩ = some (.string j.left.2.2.2) := hJ 9 _ rfl
      have j10 : wr.cell? ⟨w.heap.size, 10, none⟩ = some (.string j.right.1) := hJ 10 _ rfl
      have j11 : wr.cell? ⟨w.heap.size, 11, none⟩ = some (.int .i64 j.right.2.1) := hJ 11 _ rfl
      have j12 : wr.cell? ⟨w.heap.size, 12, none⟩ = some (.int .i64 j.right.2.2.1) := hJ 12 _ rfl
      have j13 : wr.cell? ⟨w.heap.size, 13, none⟩ = some (.string j.right.2.2.2) := hJ 13 _ rfl
      have j14 : wr.cell? ⟨w.heap.size, 14, none⟩ = some (.int .i64 j.retry) := hJ 14 _ rfl
      clear hJ hown hheld hnx
      go_wp2_with (first | (go_at_call 36; refine (HC.out _ (HB.out.trans (HO.out.2.2.mono HB.out.size))).mono ?_; rintro e w3 ⟨v1, rfl, ho3, hb3⟩; obtain ⟨v1a, v1c, rfl⟩ := own_slice ho3) | (at_builtin; refine wpList_append_own _ rfl _ _ 31 rfl w2.heap.size 33 i0 (.slice none 0 0) 1 24 Tryz.underlying31 hi hz0 hz1 hz2 rfl (by decide) _ _ _ rfl ((owns_below HO.out.1 hb3).alloc _) ⟨w3.heap.size, 0, none⟩ 1 1 [.slice v1a cs.length v1c] rfl rfl (news1 _ _ _ _ rfl) (one1s _ _ _) ?c3 ?c4 ?c5 ?_))
      case c3 => unfold maxLen; omega
      case c4 => omega
      case c5 => have := hb3.size; simp; omega
      intro v' w5 hown' hgrow _
      have hs3 := hb3.size
      obtain ⟨p1, p2, p3⟩ := HO.out
      have q1 := (owns_below p1 hb3).alloc (.cells #[.slice v1a cs.length v1c] 33)
      have hbl5 : Below w2.heap.size w2 w5 := ((bel_then p3 hb3).alloc (by omega) _).grown hgrow (by simp; omega) (fun q hq => (p1.lt q hq).1)
      have hu3 := ho3.alloc (.cells #[.slice v1a cs.length v1c] 33)
      have hH5 : HeldCols w5 w.heap.size (us ++ [.slice v1a cs.length v1c]) cs := fun u hu => by
        rw [List.mem_append] at hu
        rcases hu with hu | hu
        · have h1 := (owns_below (p2 u hu) hb3).alloc (.cells #[.slice v1a cs.length v1c] 33)
          exact h1.kept hgrow (own_ne (by decide) h1 q1)
        · simp at hu
          subst hu
          exact own_mono (by omega) (hu3.kept hgrow (own_ne (by decide) hu3 q1))
      have HF := Hid.mk (And.intro hown' (And.intro hH5 hbl5))
      clear hown' hgrow hH5 hbl5 hu3 q1 p1 p2 p3
      clear j0 j1 j2 j3 j4 j5 j6 j7 j8 j9 j10 j11 j12 j13 j14
      go_wp2
      go_roundw
      case rel => exact ⟨k + 1, _, by omega, by go_num, HF.out.1, HF.out.2.1, HF.out.2.2⟩
      case measure => simp [intOf]; omega
    · have hke : k = mk := by omega
      subst hke
      clear hown hheld hnx
      go_wp2
      go_ret2
      exact ⟨_, us, rfl, own_mono HB.out.size HO.out.1, HO.out.2.1, HB.out.trans (HO.out.2.2.mono HB.out.size)⟩
end Go.Proofs.YtjceppinfjbegaaGreatDoor

namespace Go.Proofs.YtjceppinfjbegaaGreatDoor
open Go.RowKit

set_option maxRecDepth 100000 in
set_option maxHeartbeats 800000 in
/-- wrong, of a job that holds a column against something. -/
theorem wrong_test (hb ho tk cin b o n c : Nat) (cs : List Cl) (j : Jb) (w : World) (hcode : j.code = 1 ∨ j.code = 9) (htk : 0 < tk) (hhb : hb < w.heap.size) (h0 : w.cell? ⟨hb, ho, none⟩ = some (.slice (some ⟨b, o, none⟩) n c)) (hn : cs.length = n) (hn' : n ≤ 100) (hbl : b < w.heap.size) (hc : ColsAt w b o cs) (hx : j.right.2.2.2.size ≤ maxLen) :
    Calls Tryz.prog 35 #[.agg j.cells, .slice (some ⟨hb, ho, none⟩) tk cin] w fun e w' => e = .returned (errV (testErr cs j)) ∧ Below w.heap.size w w' := by
  have hT := fun W (h1 : Below w.heap.size w W) => wrongTest_in b o n c cs j W hn hn' (by have := h1.size; omega) (hc.below h1 hbl) hx
  unfold Jb.cells at hT ⊢
  generalize testErr cs j = r at *
  have HT := Hid.mk hT
  have htk' : (0 : Int) < (tk : Int) := by omega
  clear hT hn hc
  obtain ⟨code, hcd⟩ : ∃ k, j.code = k := ⟨_, rfl⟩
  rw [hcd] at HT hcode ⊢
  clear hcd
  rcases hcode with rfl | rfl
  all_goals
    go_enter Tryz.func35, Tryz.ntmps35
    go_wp2_with (go_at_call 62; refine (HT.out _ (below_box _ _)).mono ?_; rintro e w1 ⟨rfl, hb1⟩)
    go_ret
    exact ⟨rfl, bel_then (below_box _ _) hb1⟩

set_option maxRecDepth 100000 in
set_option maxHeartbeats 800000 in
/-- columnsOf, where they stay as they are. -/
theorem columns_same (hb ho tk cin b o n c : Nat) (cs : List Cl) (j : Jb) (w : World) (hcode : j.code = 1 ∨ j.code = 9 ∨ j.code = 2 ∨ j.code = 4 ∨ j.code = 5 ∨ j.code = 6) (htk : 0 < tk) (hhb : hb < w.heap.size) (h0 : w.cell? ⟨hb, ho, none⟩ = some (.slice (some ⟨b, o, none⟩) n c)) (hn : cs.length = n) (hn' : n ≤ 100) (hbl : b < w.heap.size) (hc : ColsAt w b o cs) :
    Calls Tryz.prog 36 #[.agg j.cells, .slice (some ⟨hb, ho, none⟩) tk cin] w fun e w' => ∃ u, e = .returned u ∧ w'.ownsRow w.heap.size 60 2 u cs.length (colCells cs) ∧ Below w.heap.size w w' := by
  have hT := fun W (h1 : Below w.heap.size w W) => cloneCol_in b o n c cs W hn hn' (by have := h1.size; omega) (hc.below h1 hbl)
  rw [hn]
  unfold Jb.cells
  have HT := Hid.mk hT
  have htk' : (0 : Int) < (tk : Int) := by omega
  clear hT hn hc
  obtain ⟨code, hcd⟩ : ∃ k, j.code = k := ⟨_, rfl⟩
  rw [hcd] at hcode ⊢
  clear hcd
  rcases hcode with rfl | rfl | rfl | rfl | rfl | rfl
  all_goals
    go_enter Tryz.func36, Tryz.ntmps36
    go_wp2_with (go_at_call 72; refine (HT.out _ (below_box _ _)).mono ?_; rintro e w1 ⟨v1, rfl, ho1, hb1⟩)
    go_ret
    exact ⟨_, rfl, own_mono (by simp) ho1, bel_then (below_box _ _) hb1⟩
end Go.Proofs.YtjceppinfjbegaaGreatDoor

namespace Go.Proofs.YtjceppinfjbegaaGreatDoor
open Go.RowKit

theorem HeldRows.set {w : World} {B R o : Nat} {v : Value} {us : List Value} {rs : List (List Vl)} (h : HeldRows w B us rs) (hR : R < B) : HeldRows (w.setCell ⟨R, o, none⟩ v) B us rs :=
  ⟨h.1, fun j hj hj' => ⟨ownsRow_setCell_below (h.2 j hj hj').1 hR _, (h.2 j hj hj').2⟩⟩

set_option maxRecDepth 100000 in
set_option maxHeartbeats 1600000 in
/-- rowsOf, of a job that holds a column against something. -/
theorem rowsOf_test (tb to_ tk tcap : Nat) (vc vr : Value) (cs : List Cl) (rs : List (List Vl)) (j : Jb) (w : World) (hcode : j.code = 1 ∨ j.code = 9) (htk : 0 < tk) (htb : tb < w.heap.size) (t0 : w.cell? ⟨tb, to_, none⟩ = some vc) (t1 : w.cell? ⟨tb, to_ + 1, none⟩ = some vr)
    (hc : ColsIs w vc cs) (hr : RowsIs w vr rs) (h1 : 1 ≤ cs.length) (h6 : cs.length ≤ 100) (hl : ∀ r ∈ rs, r.length = cs.length) (h60 : rs.length ≤ 100) (ho1 : okArg cs j.left) (ho2 : okArg cs j.right) :
    Calls Tryz.prog 49 #[.agg j.cells, .slice (some ⟨tb, to_, none⟩) tk tcap] w fun e w' => ∃ v1 v2 us1 us2, e = .returned (.tuple #[v1, v2, .nilIface]) ∧ w'.ownsRow w.heap.size 62 1 v1 (rs.filter (testB cs j)).length us1 ∧ HeldRows w' w.heap.size us1 (rs.filter (testB cs j)) ∧ w'.ownsRow w.heap.size 62 1 v2 (rs.filter (fun r => !testB cs j r)).length us2 ∧ HeldRows w' w.heap.size us2 (rs.filter (fun r => !testB cs j r)) ∧ Below w.heap.size w w' := by
  have hmf : ∀ (fn : Fn) (first cap : Array Value) (w : World), (Instr.makeFunc fn first cap).run Tryz.prog w = .ok (.func fn first cap) w := fun _ _ _ _ => rfl
  have HCP := Hid.mk (fun W (hW : Below w.heap.size w W) => copied_any vr rs cs.length W (hr.below hW) hl h1 h6 h60)
  have HPT := Hid.mk (fun v us B ab W (hW : Below w.heap.size w W) hv hH hB hj hab habl => parted_any v vc cs rs us j w.heap.size ab B W hv hH hB hj hab habl (hc.below hW) h6 hl h60 ho1 ho2)
  have htk' : (0 : Int) < (tk : Int) := by omega
  clear hl ho1 ho2
  obtain ⟨va, vcp, rfl, -⟩ := hc
  obtain ⟨ra, rcp, rfl, -⟩ := hr
  have hJ0 : JobAt (w.alloc (.cells j.cells 28)) w.heap.size j := fun k v hk => by rw [World.cell?_alloc_at _ _ _ _ rfl]; exact hk
  have HJ0 := Hid.mk hJ0
  clear hJ0
  unfold Jb.cells at HJ0 ⊢
  rcases hcode with hcd | hcd
  all_goals
    rw [hcd] at HJ0 ⊢
    have HCD := Hid.mk hcd
    clear hcd
    go_enter Tryz.func49, Tryz.ntmps49
    go_wp2_with fail
    go_cut [7, 8] (fun p v wx => ∃ (ab : Nat) (us : List Value), p = .pointer (some ⟨ab, 0, none⟩) ∧ wx.cell? ⟨ab, 0, none⟩ = some (.slice va cs.length vcp) ∧ ab < wx.heap.size ∧ wx.ownsRow (w.heap.size + 1) 62 1 v rs.length us ∧ HeldRows wx (w.heap.size + 1) us rs ∧ JobAt wx w.heap.size j ∧ Below w.heap.size w wx)
    case first =>
      go_region_held3 (fun w' => w'.cell? ⟨tb, to_, none⟩ = some (.slice va cs.length vcp) ∧ w'.cell? ⟨tb, to_ + 1, none⟩ = some (.slice ra rs.length rcp))
        (first | (go_keep; done) | exact ⟨(World.cell?_setCell_other _ _ _ _ (by intro e; simp at e; try omega)).trans k0, (World.cell?_setCell_other _ _ _ _ (by intro e; simp at e; try omega)).trans k1⟩)
        (first | (go_at_call 80; refine (HCP.out _ (by first | exact (below_box _ _).drew | exact (bel_box (below_box _ _) _).drew)).mono ?_; rintro e w1 ⟨v1, us, rfl, ho1, hh1, hb1⟩; have hb01 := bel_then (show Below w.heap.size w _ from (by first | exact (below_box _ _).drew | exact (bel_box (below_box _ _) _).drew)) hb1; have k0 := (hb01.cell (p := ⟨tb, to_, none⟩) htb).trans t0; have k1 := (hb01.cell (p := ⟨tb, to_ + 1, none⟩) htb).trans t1; have hz1 : tb < w1.heap.size := Nat.lt_of_lt_of_le htb hb01.size; (try (have kb := (hb1.cell (p := ⟨w.heap.size + 1, 0, none⟩) (by simp)).trans (show _ = some (Value.slice none 0 0) by simp); have kf := (hb1.frozen (p := ⟨w.heap.size + 1, 0, none⟩) (by simp)).trans (show _ = false by simp); have kz : w.heap.size + 1 < w1.heap.size := by (have := hb1.size; simp at this; omega)))))
      all_goals go_wp2_with fail
      all_goals go_meet
      · have hJ1 : JobAt w1 w.heap.size j := fun k v hk => (hb1.cell (p := ⟨w.heap.size, k, none⟩) (by simp)).trans (by simpa using HJ0.out k v hk)
        exact ⟨w1.heap.size, us, rfl, by simp, by simp, (own_mono (by simp) ho1).alloc _, (hh1.mono (by simp)).below (below_box _ _), hJ1.below (below_box _ _) (by have := hb1.size; simp at this; omega), bel_box hb01 _⟩
      · have hJ1 : JobAt w1 w.heap.size j := fun k v hk => (hb1.cell (p := ⟨w.heap.size, k, none⟩) (by simp; omega)).trans (by simpa using HJ0.out k v hk)
        exact ⟨w.heap.size + 1, us, rfl, World.cell?_setCell_same _ _ _ kb, by simpa using kz, own_mono (by simp) (ownsRow_setCell_below ho1 (by simp) _), (HeldRows.set hh1 (by simp)).mono (by simp), fun k v hk => (World.cell?_setCell_other _ _ _ _ (by intro e; simp at e)).trans (hJ1 k v hk), hb01.setCell (by show w.heap.size ≤ w.heap.size + 1; omega) _⟩
    case rest =>
      obtain ⟨ab, us, rfl, hab, habl, hv, hH, hJ, hbx⟩ := hcut
      have hwx := hbx.size
      have HP2 := Hid.mk (HPT.out u8 us (w.heap.size + 1) ab wc hbx hv hH (by have := hJ.lt; omega) hJ hab habl)
      have hj1 := hJ 1 (.int .i64 j.code) rfl
      rw [HCD.out] at hj1
      have HB := Hid.mk hbx
      obtain ⟨xa, xc, rfl⟩ := own_slice hv
      clear hbx hv hH hJ hab HPT HCP HJ0 t0 t1
      go_wp2_with (go_at_call 81; refine HP2.out.mono ?_; rintro e w5 ⟨v1, v2, us1, us2, rfl, o1, o2, o3, o4, hb5⟩)
      go_ret3
      exact ⟨_, _, us1, us2, rfl, own_mono hwx o1, o2.mono (by omega), own_mono hwx o3, o4.mono (by omega), bel_then HB.out hb5⟩
end Go.Proofs.YtjceppinfjbegaaGreatDoor

namespace Go.Proofs.YtjceppinfjbegaaGreatDoor
open Go.RowKit

theorem Tryz.infoTab : (Tryz.prog.info? 36).map (fun i => (i.zero, i.size, i.bytes)) = some (some (.agg #[.slice none 0 0, .slice none 0 0]), 2, 48) := by kernel_rfl
/-- A list of columns that lies anywhere. -/
def HeadsIs (w : World) (us : List Value) (css : List (List Cl)) : Prop := us.length = css.length ∧ ∀ (j : Nat) (h : j < css.length), ∃ u, us[j]? = some u ∧ ColsIs w u css[j]
theorem HeadsIs.below {w w' : World} {us : List Value} {css : List (List Cl)} (h : HeadsIs w us css) (hb : Below w.heap.size w w') : HeadsIs w' us css :=
  ⟨h.1, fun j hj => by obtain ⟨u, h1, h2⟩ := h.2 j hj; exact ⟨u, h1, h2.below hb⟩⟩
theorem HeadsIs.snoc {w : World} {us : List Value} {css : List (List Cl)} {u : Value} {cs : List Cl} (h : HeadsIs w us css) (hu : ColsIs w u cs) : HeadsIs w (us ++ [u]) (css ++ [cs]) := by
  refine ⟨by simp [h.1], fun j hj => ?_⟩
  by_cases hlt : j < css.length
  · obtain ⟨x, h1, h2⟩ := h.2 j hlt
    refine ⟨x, ?_, ?_⟩
    · rw [List.getElem?_append_left (by rw [h.1]; exact hlt)]; exact h1
    · rw [List.getElem_append_left hlt]; exact h2
  · have hje : j = css.length := by rw [List.length_append] at hj; simp at hj; omega
    subst hje
    refine ⟨u, by rw [← h.1]; simp, ?_⟩
    simp only [List.getElem_append_right (Nat.le_refl _), Nat.sub_self, List.getElem_cons_zero]
    exact hu

set_option maxRecDepth 100000 in
set_option maxHeartbeats 1600000 in
/-- Do: a table may not be. -/
theorem do_arg (tb to_ tcap : Nat) (ts : List Tb) (j : Jb) (w : World) (ht : TabsAt w tb to_ ts) (htb : tb < w.heap.size) (hl : ts.length ≤ 100) (hbad : ∃ t ∈ ts, rightB t.1 t.2 = false) :
    Calls Tryz.prog 15 #[.agg j.cells, .slice (some ⟨tb, to_, none⟩) ts.length tcap] w fun e w' => e = .returned (.tuple #[.slice none 0 0, errV 1]) ∧ Below w.heap.size w w' := by
  obtain ⟨i0, hi, hz0, hz1, hz2⟩ := info_parts Tryz.infoCols
  have HB := Hid.mk hbad
  have HT := Hid.mk ht
  clear hbad ht
  unfold Jb.cells
  go_enter Tryz.func15, Tryz.ntmps15
  go_wp2
  go_loopw [6, 16] (fun l i wr => ∃ (k : Nat) (us : List Value), k ≤ ts.length ∧ i = .int .i64 k ∧ wr.ownsRow (w.heap.size + 1) 33 1 l k us ∧ (∀ q (h : q < ts.length), q < k → rightB ts[q].1 ts[q].2 = true) ∧ Below w.heap.size w wr) (fun _ i _ => ts.length - (intOf i).toNat)
  case atStart => exact ⟨0, [], Nat.zero_le _, rfl, World.ownsRow_nil _ _ _ _, fun q _ h => absurd h (by omega), below_box _ _⟩
  case round =>
    obtain ⟨k, us, hk, rfl, hown, hall, hnx⟩ := hrel
    obtain ⟨la, lc, rfl⟩ := own_slice hown
    have hws := hnx.size
    have HO := Hid.mk (And.intro hown (And.intro hall hnx))
    by_cases hlt : k < ts.length
    · obtain ⟨vc, vr, c0, c1, hc, hr⟩ := HT.out k hlt
      have d0 := (hnx.cell (p := ⟨tb, to_ + k * 2, none⟩) htb).trans c0
      have d1 := (hnx.cell (p := ⟨tb, to_ + k * 2 + 1, none⟩) htb).trans c1
      have hRT := fun W (hW : Below wr.heap.size wr W) => right_any vc vr ts[k].1 ts[k].2 W ((hc.below hnx).below hW) ((hr.below hnx).below hW)
      obtain ⟨ca, cc, rfl, -⟩ := hc
      obtain ⟨ra, rc, rfl, -⟩ := hr
      cases g : rightB ts[k].1 ts[k].2
      · simp only [g] at hRT
        have HRT := Hid.mk hRT
        clear hRT c0 c1 hown hall hnx g
        go_wp2_with (go_at_call 48; refine (HRT.out _ (below_box _ _)).mono ?_; rintro e w1 ⟨rfl, hb1⟩)
        go_ret2
        exact ⟨rfl, bel_then (bel_box HO.out.2.2 _) hb1⟩
      · simp only [g] at hRT
        have HRT := Hid.mk hRT
        have HG := Hid.mk g
        clear hRT c0 c1 hown hall hnx g
        generalize hn1 : ts[k].1.length = n1 at *
        generalize hn2 : ts[k].2.length = n2 at *
        clear hn1 hn2
        go_wp2_with (first | (go_at_call 48; refine (HRT.out _ (below_box _ _)).mono ?_; rintro e w1 ⟨rfl, hb1⟩; obtain ⟨hc1, hf1⟩ := bcell hb1; have hzz1 : wr.heap.size < w1.heap.size := by (have := hb1.size; simp at this; omega)) | (at_builtin; refine wpList_append_own _ rfl _ _ 31 rfl (w.heap.size + 1) 33 i0 (.slice none 0 0) 1 24 Tryz.underlying31 hi hz0 hz1 hz2 rfl (by decide) _ _ _ rfl ((owns_below (HO.out.1.alloc _) hb1).alloc _) ⟨w1.heap.size, 0, none⟩ 1 1 [.slice ca n1 cc] rfl rfl (news1 _ _ _ _ rfl) (one1s _ _ _) ?c3 ?c4 ?c5 ?_))
        case c3 => unfold maxLen; omega
        case c4 => omega
        case c5 => have := hb1.size; simp at this ⊢; omega
        intro v' w5 hown' hgrow _
        obtain ⟨p1, p2, p3⟩ := HO.out
        have hbl5 : Below w.heap.size w w5 := ((bel_then (bel_box p3 _) hb1).alloc (by omega) _).grown hgrow (by simp; omega) (fun q hq => by have := (p1.lt q hq).1; omega)
        have HF := Hid.mk (And.intro hown' hbl5)
        clear hown' hgrow hbl5 hc1 hf1 p1 p2 p3
        go_wp2
        go_roundw
        case rel =>
          refine ⟨k + 1, _, by omega, by go_num, HF.out.1, fun q h hq => ?_, HF.out.2⟩
          rcases Nat.lt_or_ge q k with hqk | hqk
          · exact HO.out.2.1 q h hqk
          · obtain rfl : q = k := by omega
            exact HG.out
        case measure => simp [intOf]; omega
    · exfalso
      obtain ⟨t, ht, hf⟩ := HB.out
      obtain ⟨q, hq, rfl⟩ := List.mem_iff_getElem.1 ht
      have := hall q hq (by omega)
      rw [this] at hf
      cases hf
end Go.Proofs.YtjceppinfjbegaaGreatDoor

