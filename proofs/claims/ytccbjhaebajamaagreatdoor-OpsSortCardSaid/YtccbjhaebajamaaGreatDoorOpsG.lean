import Derived.Test.YtccbjhaebajamaaGreatDoorOpsF
set_option linter.unusedSimpArgs false
set_option linter.unusedVariables false
namespace Go.Proofs.YtccbjhaebajamaaGreatDoor
open Go.RowKit

theorem errV_ne {n : Int} (h : n ≠ 0) : errV n = .iface 80 (.int .i64 n) := by unfold errV; rw [if_neg h]
theorem errV_0 : errV 0 = .nilIface := rfl

set_option maxRecDepth 100000 in
set_option maxHeartbeats 800000 in
/-- Cols: there are too few, or too many. -/
theorem cols_arg (va oa : Option Addr) (nin cin m oc : Nat) (j : Jb) (tk mk : Nat) (w : World) (hj : j.outs = .slice oa m oc) (hs : sizesI j.code = ((tk : Int), (mk : Int))) (hbad : tk = 0 ∨ nin ≠ tk ∨ m ≠ mk) :
    Calls Tryz.prog 48 #[.agg j.cells, .slice va nin cin] w fun e w' => e = .returned (.tuple #[.slice none 0 0, errV 1]) ∧ Below w.heap.size w w' := by
  have hS := fun W => sizes_any j.code W
  rw [hs] at hS
  simp only at hS
  have HS := Hid.mk hS
  unfold Jb.cells
  rw [hj]
  clear hS hs hj
  by_cases h0 : tk = 0
  · subst h0
    clear hbad
    go_enter Tryz.func48, Tryz.ntmps48
    go_wp2_with (go_at_call 63; refine (HS.out _).mono ?_; rintro e w1 ⟨rfl, rfl⟩)
    go_ret2
    exact ⟨rfl, below_box _ _⟩
  · have h0' : ((tk : Int) == 0) = false := by simp; omega
    by_cases h1 : nin = tk
    · have h1' : ((nin : Int) != (tk : Int)) = false := by simp; omega
      have h2' : ((m : Int) != (mk : Int)) = true := by simp; omega
      clear hbad h0 h1
      go_enter Tryz.func48, Tryz.ntmps48
      go_wp2_with (go_at_call 63; refine (HS.out _).mono ?_; rintro e w1 ⟨rfl, rfl⟩)
      go_ret2
      exact ⟨rfl, below_box _ _⟩
    · have h1' : ((nin : Int) != (tk : Int)) = true := by simp; omega
      clear hbad h0 h1
      go_enter Tryz.func48, Tryz.ntmps48
      go_wp2_with (go_at_call 63; refine (HS.out _).mono ?_; rintro e w1 ⟨rfl, rfl⟩)
      go_ret2
      exact ⟨rfl, below_box _ _⟩

set_option maxRecDepth 100000 in
set_option maxHeartbeats 800000 in
/-- Cols: something is wrong. -/
theorem cols_bad (va oa : Option Addr) (cin oc : Nat) (j : Jb) (tk mk : Nat) (n : Int) (w : World) (hj : j.outs = .slice oa mk oc) (hs : sizesI j.code = ((tk : Int), (mk : Int))) (h0 : tk ≠ 0) (hn : n ≠ 0)
    (hW : ∀ W, Below w.heap.size w W → Calls Tryz.prog 64 #[.agg j.cells, .slice va tk cin] W fun e w' => e = .returned (errV n) ∧ Below W.heap.size W w') :
    Calls Tryz.prog 48 #[.agg j.cells, .slice va tk cin] w fun e w' => e = .returned (.tuple #[.slice none 0 0, errV n]) ∧ Below w.heap.size w w' := by
  have hS := fun W => sizes_any j.code W
  rw [hs] at hS
  simp only at hS
  have HS := Hid.mk hS
  rw [errV_ne hn] at hW ⊢
  unfold Jb.cells at hW ⊢
  rw [hj] at hW ⊢
  have HW := Hid.mk hW
  have h0' : ((tk : Int) == 0) = false := by simp; omega
  have h1' : ((tk : Int) != (tk : Int)) = false := by simp
  have h2' : ((mk : Int) != (mk : Int)) = false := by simp
  clear hS hs hj hW h0 hn
  go_enter Tryz.func48, Tryz.ntmps48
  go_wp2_with (first | (go_at_call 63; refine (HS.out _).mono ?_; rintro e w1 ⟨rfl, rfl⟩) | (go_at_call 64; refine (HW.out _ (below_box _ _)).mono ?_; rintro e w2 ⟨rfl, hb2⟩))
  go_ret2
  exact ⟨rfl, bel_then (below_box _ _) hb2⟩

theorem Tryz.infoCols : (Tryz.prog.info? 22).map (fun i => (i.zero, i.size, i.bytes)) = some (some (.slice none 0 0), 1, 24) := by kernel_rfl
/-- Lists of columns that the call itself has made. -/
def HeldCols (w : World) (B : Nat) (us : List Value) (cs : List Cl) : Prop := ∀ u ∈ us, w.ownsRow B 38 2 u cs.length (colCells cs)

set_option maxRecDepth 100000 in
set_option maxHeartbeats 1600000 in
/-- Cols: nothing is wrong. -/
theorem cols_ok (va oa : Option Addr) (cin oc : Nat) (j : Jb) (tk mk : Nat) (cs : List Cl) (w : World) (hj : j.outs = .slice oa mk oc) (hs : sizesI j.code = ((tk : Int), (mk : Int))) (h0 : tk ≠ 0) (hmk : mk ≤ 2)
    (hW : ∀ W, Below w.heap.size w W → Calls Tryz.prog 64 #[.agg j.cells, .slice va tk cin] W fun e w' => e = .returned .nilIface ∧ Below W.heap.size W w')
    (hC : ∀ W, Below w.heap.size w W → Calls Tryz.prog 65 #[.agg j.cells, .slice va tk cin] W fun e w' => ∃ u, e = .returned u ∧ w'.ownsRow W.heap.size 38 2 u cs.length (colCells cs) ∧ Below W.heap.size W w') :
    Calls Tryz.prog 48 #[.agg j.cells, .slice va tk cin] w fun e w' => ∃ v us, e = .returned (.tuple #[v, .nilIface]) ∧ w'.ownsRow w.heap.size 22 1 v mk us ∧ HeldCols w' w.heap.size us cs ∧ Below w.heap.size w w' := by
  obtain ⟨i0, hi, hz0, hz1, hz2⟩ := info_parts Tryz.infoCols
  have hS := fun W => sizes_any j.code W
  rw [hs] at hS
  simp only at hS
  have HS := Hid.mk hS
  unfold Jb.cells at hW hC ⊢
  rw [hj] at hW hC ⊢
  have HW := Hid.mk hW
  have HC := Hid.mk hC
  have h0' : ((tk : Int) == 0) = false := by simp; omega
  have h1' : ((tk : Int) != (tk : Int)) = false := by simp
  have h2' : ((mk : Int) != (mk : Int)) = false := by simp
  clear hS hs hj hW hC h0
  go_enter Tryz.func48, Tryz.ntmps48
  go_wp2_with (first | (go_at_call 63; refine (HS.out _).mono ?_; rintro e w1 ⟨rfl, rfl⟩) | (go_at_call 64; refine (HW.out _ (below_box _ _)).mono ?_; rintro e w2 ⟨rfl, hb2⟩))
  have hjb : JobAt w2 w.heap.size ⟨j.at_, j.code, .slice oa mk oc, j.ins, j.cols, j.op, j.left, j.right, j.retry⟩ := JobAt.below (w := w.alloc (.cells _ 36)) (fun k v hk => by
    rw [World.cell?_alloc_at _ _ _ _ rfl]; exact hk) hb2 (by simp)
  have hb02 := bel_then (below_box _ _) hb2
  have hz2' : w.heap.size < w2.heap.size := by have := hb2.size; simp at this; omega
  have HJ := Hid.mk hjb
  have HB := Hid.mk hb02
  clear HS HW hjb hb02 hb2
  go_loopw [9, 39] (fun l i wr => ∃ (k : Nat) (us : List Value), k ≤ mk ∧ i = .int .i64 k ∧ wr.ownsRow w2.heap.size 22 1 l k us ∧ HeldCols wr w.heap.size us cs ∧ Below w2.heap.size w2 wr) (fun _ i _ => mk - (intOf i).toNat)
  case atStart => exact ⟨0, [], Nat.zero_le _, rfl, World.ownsRow_nil _ _ _ _, fun u hu => absurd hu (by simp), Below.refl _ _⟩
  case round =>
    obtain ⟨k, us, hk, rfl, hown, hheld, hnx⟩ := hrel
    obtain ⟨la, lc, rfl⟩ := own_slice hown
    have hws := hnx.size
    have HO := Hid.mk (And.intro hown (And.intro hheld hnx))
    by_cases hlt : k < mk
    · have hJ := HJ.out.below hnx hz2'
      have j0 : wr.cell? ⟨w.heap.size, 0, none⟩ = some (.int .i64 j.at_) := hJ 0 _ rfl
      have j1 : wr.cell? ⟨w.heap.size, 1, none⟩ = some (.int .i64 j.code) := hJ 1 _ rfl
      have j2 : wr.cell? ⟨w.heap.size, 2, none⟩ = some (.slice oa mk oc) := hJ 2 _ rfl
      have j3 : wr.cell? ⟨w.heap.size, 3, none⟩ = some j.ins := hJ 3 _ rfl
      have j4 : wr.cell? ⟨w.heap.size, 4, none⟩ = some j.cols := hJ 4 _ rfl
      have j5 : wr.cell? ⟨w.heap.size, 5, none⟩ = some (.string j.op) := hJ 5 _ rfl
      have j6 : wr.cell? ⟨w.heap.size, 6, none⟩ = some (.string j.left.1) := hJ 6 _ rfl
      have j7 : wr.cell? ⟨w.heap.size, 7, none⟩ = some (.int .i64 j.left.2.1) := hJ 7 _ rfl
      have j8 : wr.cell? ⟨w.heap.size, 8, none⟩ = some (.int .i64 j.left.2.2.1) := hJ 8 _ rfl
      have j9 : wr.cell? ⟨w.heap.size, 9, none⟩ = some (.string j.left.2.2.2) := hJ 9 _ rfl
      have j10 : wr.cell? ⟨w.heap.size, 10, none⟩ = some (.string j.right.1) := hJ 10 _ rfl
      have j11 : wr.cell? ⟨w.heap.size, 11, none⟩ = some (.int .i64 j.right.2.1) := hJ 11 _ rfl
      have j12 : wr.cell? ⟨w.heap.size, 12, none⟩ = some (.int .i64 j.right.2.2.1) := hJ 12 _ rfl
      have j13 : wr.cell? ⟨w.heap.size, 13, none⟩ = some (.string j.right.2.2.2) := hJ 13 _ rfl
      have j14 : wr.cell? ⟨w.heap.size, 14, none⟩ = some (.int .i64 j.retry) := hJ 14 _ rfl
      clear hJ hown hheld hnx
      go_wp2_with (first | (go_at_call 65; refine (HC.out _ (HB.out.trans (HO.out.2.2.mono HB.out.size))).mono ?_; rintro e w3 ⟨v1, rfl, ho3, hb3⟩; obtain ⟨v1a, v1c, rfl⟩ := own_slice ho3) | (at_builtin; refine wpList_append_own _ rfl _ _ 83 rfl w2.heap.size 22 i0 (.slice none 0 0) 1 24 Tryz.underlying83 hi hz0 hz1 hz2 rfl (by decide) _ _ _ rfl ((owns_below HO.out.1 hb3).alloc _) ⟨w3.heap.size, 0, none⟩ 1 1 [.slice v1a cs.length v1c] rfl rfl (news1 _ _ _ _ rfl) (one1s _ _ _) ?c3 ?c4 ?c5 ?_))
      case c3 => unfold maxLen; omega
      case c4 => omega
      case c5 => have := hb3.size; simp; omega
      intro v' w5 hown' hgrow _
      have hs3 := hb3.size
      obtain ⟨p1, p2, p3⟩ := HO.out
      have q1 := (owns_below p1 hb3).alloc (.cells #[.slice v1a cs.length v1c] 22)
      have hbl5 : Below w2.heap.size w2 w5 := ((bel_then p3 hb3).alloc (by omega) _).grown hgrow (by simp; omega) (fun q hq => (p1.lt q hq).1)
      have hu3 := ho3.alloc (.cells #[.slice v1a cs.length v1c] 22)
      have hH5 : HeldCols w5 w.heap.size (us ++ [.slice v1a cs.length v1c]) cs := fun u hu => by
        rw [List.mem_append] at hu
        rcases hu with hu | hu
        · have h1 := (owns_below (p2 u hu) hb3).alloc (.cells #[.slice v1a cs.length v1c] 22)
          exact h1.kept hgrow (own_ne (by decide) h1 q1)
        · simp at hu
          subst hu
          exact own_mono (by omega) (hu3.kept hgrow (own_ne (by decide) hu3 q1))
      have HF := Hid.mk (And.intro hown' (And.intro hH5 hbl5))
      clear hown' hgrow hH5 hbl5 hu3 q1 p1 p2 p3
      clear j0 j1 j2 j3 j4 j5 j6 j7 j8 j9 j10 j11 j12 j13 j14
      go_wp2
      go_roundw
      case rel => exact ⟨k + 1, _, by omega, by go_num, HF.out.1, HF.out.2.1, HF.out.2.2⟩
      case measure => simp [intOf]; omega
    · have hke : k = mk := by omega
      subst hke
      clear hown hheld hnx
      go_wp2
      go_ret2
      exact ⟨_, us, rfl, own_mono HB.out.size HO.out.1, HO.out.2.1, HB.out.trans (HO.out.2.2.mono HB.out.size)⟩
end Go.Proofs.YtccbjhaebajamaaGreatDoor
