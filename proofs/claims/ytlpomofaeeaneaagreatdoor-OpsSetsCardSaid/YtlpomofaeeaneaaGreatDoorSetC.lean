import Derived.Test.YtlpomofaeeaneaaGreatDoorSetB
import Derived.Test.YtlpomofaeeaneaaGreatDoorOpsK
import Derived.Deep.RegionHeld3
import Derived.Deep.DeepCutAuto
set_option linter.unusedSimpArgs false
set_option linter.unusedVariables false
namespace Go.Proofs.YtlpomofaeeaneaaGreatDoor
open Go.RowKit

/-- What a row's value becomes. -/
def setV (cs : List Cl) (j : Jb) (r : List Vl) : Int := reckI j.op.data.toList (valIn cs r j.left).2.1 (valIn cs r j.right).2.1
def setR (cs : List Cl) (j : Jb) (at_ : Nat) (r : List Vl) : List Vl := r.set at_ (1, setV cs j r, ⟨#[]⟩)
/-- Rows, the first k of them set. -/
def setK (cs : List Cl) (j : Jb) (at_ : Nat) (rs : List (List Vl)) (k : Nat) : List (List Vl) := (rs.take k).map (setR cs j at_) ++ rs.drop k
theorem setK_0 (cs : List Cl) (j : Jb) (at_ : Nat) (rs : List (List Vl)) : setK cs j at_ rs 0 = rs := by simp [setK]
theorem setK_all (cs : List Cl) (j : Jb) (at_ : Nat) (rs : List (List Vl)) : setK cs j at_ rs rs.length = rs.map (setR cs j at_) := by simp [setK]
theorem setK_len (cs : List Cl) (j : Jb) (at_ : Nat) (rs : List (List Vl)) (k : Nat) : (setK cs j at_ rs k).length = rs.length := by
  rw [setK, List.length_append, List.length_map, List.length_take, List.length_drop]; omega
theorem setK_at (cs : List Cl) (j : Jb) (at_ : Nat) (rs : List (List Vl)) (k : Nat) (hk : k < rs.length) : (setK cs j at_ rs k)[k]'(by rw [setK_len]; exact hk) = rs[k] := by
  have h : (setK cs j at_ rs k)[k]? = some rs[k] := by
    rw [setK, List.getElem?_append_right (by rw [List.length_map, List.length_take]; omega), List.length_map, List.length_take, show k - min k rs.length = 0 by omega, List.getElem?_drop, Nat.add_zero, List.getElem?_eq_getElem hk]
  rw [List.getElem?_eq_getElem (by rw [setK_len]; exact hk)] at h
  exact Option.some.inj h
theorem setK_next (cs : List Cl) (j : Jb) (at_ : Nat) (rs : List (List Vl)) (k : Nat) (hk : k < rs.length) : (setK cs j at_ rs k).set k (setR cs j at_ rs[k]) = setK cs j at_ rs (k + 1) := by
  have hl : ((rs.take k).map (setR cs j at_)).length = k := by rw [List.length_map, List.length_take]; omega
  rw [setK, List.set_append_right k _ (by omega), hl, Nat.sub_self, List.drop_eq_getElem_cons hk, List.set_cons_zero, setK, List.take_succ_eq_append_getElem hk, List.map_append]
  simp

theorem belB {B : Nat} {w w' w'' : World} (hB : B ≤ w.heap.size) (h : Below B w w') (h' : Below w'.heap.size w' w'') : Below B w w'' := h.trans (h'.mono (Nat.le_trans hB h.size))
/-- Eight cells that are read. -/
theorem keep8 {W W' : World} {N : Nat} {v6 v7 v8 v9 v10 v11 v12 v13 : Value} (hb : Below W.heap.size W W') (h : W.cell? ⟨N, 6, none⟩ = some v6 ∧ W.cell? ⟨N, 7, none⟩ = some v7 ∧ W.cell? ⟨N, 8, none⟩ = some v8 ∧ W.cell? ⟨N, 9, none⟩ = some v9 ∧ W.cell? ⟨N, 10, none⟩ = some v10 ∧ W.cell? ⟨N, 11, none⟩ = some v11 ∧ W.cell? ⟨N, 12, none⟩ = some v12 ∧ W.cell? ⟨N, 13, none⟩ = some v13) :
    W'.cell? ⟨N, 6, none⟩ = some v6 ∧ W'.cell? ⟨N, 7, none⟩ = some v7 ∧ W'.cell? ⟨N, 8, none⟩ = some v8 ∧ W'.cell? ⟨N, 9, none⟩ = some v9 ∧ W'.cell? ⟨N, 10, none⟩ = some v10 ∧ W'.cell? ⟨N, 11, none⟩ = some v11 ∧ W'.cell? ⟨N, 12, none⟩ = some v12 ∧ W'.cell? ⟨N, 13, none⟩ = some v13 := by
  obtain ⟨h6, h7, h8, h9, h10, h11, h12, h13⟩ := h
  have hN : N < W.heap.size := World.block_lt_of_cell? W _ h6
  exact ⟨(hb.cell (p := ⟨N, 6, none⟩) hN).trans h6, (hb.cell (p := ⟨N, 7, none⟩) hN).trans h7, (hb.cell (p := ⟨N, 8, none⟩) hN).trans h8, (hb.cell (p := ⟨N, 9, none⟩) hN).trans h9, (hb.cell (p := ⟨N, 10, none⟩) hN).trans h10, (hb.cell (p := ⟨N, 11, none⟩) hN).trans h11, (hb.cell (p := ⟨N, 12, none⟩) hN).trans h12, (hb.cell (p := ⟨N, 13, none⟩) hN).trans h13⟩

/-- .. behind a store elsewhere. -/
theorem keep8s {W : World} {N b o : Nat} {x v6 v7 v8 v9 v10 v11 v12 v13 : Value} (hb : b ≠ N) (h : W.cell? ⟨N, 6, none⟩ = some v6 ∧ W.cell? ⟨N, 7, none⟩ = some v7 ∧ W.cell? ⟨N, 8, none⟩ = some v8 ∧ W.cell? ⟨N, 9, none⟩ = some v9 ∧ W.cell? ⟨N, 10, none⟩ = some v10 ∧ W.cell? ⟨N, 11, none⟩ = some v11 ∧ W.cell? ⟨N, 12, none⟩ = some v12 ∧ W.cell? ⟨N, 13, none⟩ = some v13) : (W.setCell ⟨b, o, none⟩ x).cell? ⟨N, 6, none⟩ = some v6 ∧ (W.setCell ⟨b, o, none⟩ x).cell? ⟨N, 7, none⟩ = some v7 ∧ (W.setCell ⟨b, o, none⟩ x).cell? ⟨N, 8, none⟩ = some v8 ∧ (W.setCell ⟨b, o, none⟩ x).cell? ⟨N, 9, none⟩ = some v9 ∧ (W.setCell ⟨b, o, none⟩ x).cell? ⟨N, 10, none⟩ = some v10 ∧ (W.setCell ⟨b, o, none⟩ x).cell? ⟨N, 11, none⟩ = some v11 ∧ (W.setCell ⟨b, o, none⟩ x).cell? ⟨N, 12, none⟩ = some v12 ∧ (W.setCell ⟨b, o, none⟩ x).cell? ⟨N, 13, none⟩ = some v13 := by
  obtain ⟨h6, h7, h8, h9, h10, h11, h12, h13⟩ := h
  have hs : ∀ k, (W.setCell ⟨b, o, none⟩ x).cell? ⟨N, k, none⟩ = W.cell? ⟨N, k, none⟩ := fun k => World.cell?_setCell_other _ _ _ _ (by intro e; simp at e; try omega)
  exact ⟨(hs 6).trans h6, (hs 7).trans h7, (hs 8).trans h8, (hs 9).trans h9, (hs 10).trans h10, (hs 11).trans h11, (hs 12).trans h12, (hs 13).trans h13⟩
/-- A value that the region itself has made. -/
def Z3 (w : World) (b : Nat) : Prop := w.cell? ⟨b, 0, none⟩ = some (.int .i64 0) ∧ w.cell? ⟨b, 0 + 1, none⟩ = some (.int .i64 0) ∧ w.cell? ⟨b, 0 + 2, none⟩ = some (.string ⟨#[]⟩) ∧ w.frozen? ⟨b, 0, none⟩ = false ∧ w.frozen? ⟨b, 0 + 1, none⟩ = false ∧ w.frozen? ⟨b, 0 + 2, none⟩ = false ∧ b < w.heap.size
theorem Z3.below {W w1 : World} {b : Nat} (h : Z3 W b) (hb : Below W.heap.size W w1) : Z3 w1 b := by
  obtain ⟨h0, h1, h2, f0, f1, f2, hl⟩ := h
  exact ⟨(hb.cell (p := ⟨b, 0, none⟩) hl).trans h0, (hb.cell (p := ⟨b, 0 + 1, none⟩) hl).trans h1, (hb.cell (p := ⟨b, 0 + 2, none⟩) hl).trans h2, (hb.frozen (p := ⟨b, 0, none⟩) hl).trans f0, (hb.frozen (p := ⟨b, 0 + 1, none⟩) hl).trans f1, (hb.frozen (p := ⟨b, 0 + 2, none⟩) hl).trans f2, Nat.lt_of_lt_of_le hl hb.size⟩
theorem Z3.alloc {W : World} {b : Nat} (h : Z3 W b) (o : Obj) : Z3 (W.alloc o) b := h.below (below_box _ _)
theorem Z3.drew {W : World} {b : Nat} (h : Z3 W b) : Z3 W.drew b := h.below (Below.refl _ _).drew
theorem Z3.new {W : World} {b : Nat} {t : TypeId} (hb : W.heap.size = b) : Z3 (W.alloc (.cells #[.int .i64 0, .int .i64 0, .string ⟨#[]⟩] t)) b := by
  subst hb
  exact ⟨by simp, by simp, by simp, by simp, by simp, by simp, by simp⟩
theorem Z3.new1 {W : World} {o : Obj} {t : TypeId} : Z3 ((W.alloc o).alloc (.cells #[.int .i64 0, .int .i64 0, .string ⟨#[]⟩] t)) (W.heap.size + 1) := Z3.new (by simp)
/-- A value that lies in a place of its own. -/
def VB (w : World) (b : Nat) (x : Vl) : Prop := w.cell? ⟨b, 0, none⟩ = some (.int .i64 x.1) ∧ w.cell? ⟨b, 0 + 1, none⟩ = some (.int .i64 x.2.1) ∧ w.cell? ⟨b, 0 + 2, none⟩ = some (.string x.2.2) ∧ b < w.heap.size
theorem VB.alloc {W : World} {b : Nat} {x : Vl} (h : VB W b x) (o : Obj) : VB (W.alloc o) b x := by
  obtain ⟨h0, h1, h2, hl⟩ := h
  have hb := below_box W o
  exact ⟨(hb.cell (p := ⟨b, 0, none⟩) hl).trans h0, (hb.cell (p := ⟨b, 0 + 1, none⟩) hl).trans h1, (hb.cell (p := ⟨b, 0 + 2, none⟩) hl).trans h2, Nat.lt_of_lt_of_le hl hb.size⟩
theorem VB.new {W : World} {b : Nat} {t : TypeId} {x : Vl} (hb : W.heap.size = b) : VB (W.alloc (.cells #[.int .i64 x.1, .int .i64 x.2.1, .string x.2.2] t)) b x := by
  subst hb
  exact ⟨by simp, by simp, by simp, by simp⟩
theorem VB.other {W : World} {b c : Nat} {x : Vl} {p q r : Value} (h : VB W b x) (hne : c ≠ b) : VB (((W.setCell ⟨c, 0, none⟩ p).setCell ⟨c, 1, none⟩ q).setCell ⟨c, 2, none⟩ r) b x := by
  obtain ⟨h0, h1, h2, hl⟩ := h
  have hs : ∀ (w : World) k o y, (w.setCell ⟨c, o, none⟩ y).cell? ⟨b, k, none⟩ = w.cell? ⟨b, k, none⟩ := fun w k o y => World.cell?_setCell_other _ _ _ _ (by intro e; simp only [Addr.mk.injEq] at e; omega)
  exact ⟨by rw [hs, hs, hs]; exact h0, by rw [hs, hs, hs]; exact h1, by rw [hs, hs, hs]; exact h2, by simpa using hl⟩
theorem Z3.other {W : World} {b c : Nat} {p q r : Value} (h : Z3 W b) (hne : c ≠ b) : Z3 (((W.setCell ⟨c, 0, none⟩ p).setCell ⟨c, 1, none⟩ q).setCell ⟨c, 2, none⟩ r) b := by
  obtain ⟨h0, h1, h2, f0, f1, f2, hl⟩ := h
  have hs : ∀ (w : World) k o y, (w.setCell ⟨c, o, none⟩ y).cell? ⟨b, k, none⟩ = w.cell? ⟨b, k, none⟩ := fun w k o y => World.cell?_setCell_other _ _ _ _ (by intro e; simp only [Addr.mk.injEq] at e; omega)
  exact ⟨by rw [hs, hs, hs]; exact h0, by rw [hs, hs, hs]; exact h1, by rw [hs, hs, hs]; exact h2, by simpa using f0, by simpa using f1, by simpa using f2, by simpa using hl⟩
theorem VB.stored {W : World} {b : Nat} {x : Vl} (h : Z3 W b) : VB (((W.setCell ⟨b, 0, none⟩ (.int .i64 x.1)).setCell ⟨b, 1, none⟩ (.int .i64 x.2.1)).setCell ⟨b, 2, none⟩ (.string x.2.2)) b x := by
  obtain ⟨h0, h1, h2, f0, f1, f2, hl⟩ := h
  refine ⟨?_, ?_, ?_, by simpa using hl⟩
  · rw [World.cell?_setCell_other _ _ _ _ (by intro e; simp at e), World.cell?_setCell_other _ _ _ _ (by intro e; simp at e)]
    exact World.cell?_setCell_same _ _ _ h0
  · rw [World.cell?_setCell_other _ _ _ _ (by intro e; simp at e)]
    exact World.cell?_setCell_same _ _ _ ((World.cell?_setCell_other _ _ _ _ (by intro e; simp at e)).trans h1)
  · exact World.cell?_setCell_same _ _ _ ((World.cell?_setCell_other _ _ _ _ (by intro e; simp at e)).trans ((World.cell?_setCell_other _ _ _ _ (by intro e; simp at e)).trans h2))
theorem held_next {w : World} {B g c k at_ : Nat} {us : List Value} {rs : List (List Vl)} {cs : List Cl} {j : Jb} (h : HeldRows w B us (setK cs j at_ rs k)) (hp : us.Pairwise Apart) (hk : k < rs.length) (hu : us[k]? = some (.slice (some ⟨g, 0, none⟩) rs[k].length c)) (hi : at_ < rs[k].length) :
    HeldRows (((w.setCell ⟨g, at_ * 3, none⟩ (.int .i64 1)).setCell ⟨g, at_ * 3 + 1, none⟩ (.int .i64 (setV cs j rs[k]))).setCell ⟨g, at_ * 3 + 2, none⟩ (.string ⟨#[]⟩)) B us (setK cs j at_ rs (k + 1)) := by
  have hk' : k < (setK cs j at_ rs k).length := by rw [setK_len]; exact hk
  have e := setK_at cs j at_ rs k hk
  have := h.store hp hk' (g := g) (c := c) (by rw [e]; exact hu) at_ (1, setV cs j rs[k], ⟨#[]⟩) (by rw [e]; exact hi) (by show (0 : Nat) ≤ maxLen; exact Nat.zero_le _)
  rw [e] at this
  rw [← setK_next cs j at_ rs k hk]
  exact this
theorem JobAt.elsewhere {w : World} {N b : Nat} {j : Jb} {o : Nat} {x : Value} (h : JobAt w N j) (hne : b ≠ N) : JobAt (w.setCell ⟨b, o, none⟩ x) N j := fun k v hk => (World.cell?_setCell_other _ _ _ _ (by intro e; simp only [Addr.mk.injEq] at e; omega)).trans (h k v hk)
theorem held_setK {w : World} {B k at_ : Nat} {us : List Value} {rs : List (List Vl)} {cs : List Cl} {j : Jb} {u : Value} (h : HeldRows w B us (setK cs j at_ rs k)) (hk : k < rs.length) (hu : us[k]? = some u) : w.ownsRow B 32 3 u rs[k].length (valCells rs[k]) ∧ ∀ x ∈ rs[k], x.2.2.size ≤ maxLen := by
  have hku : k < us.length := (List.getElem?_eq_some_iff.1 hu).1
  have h2 := h.2 k hku (by rw [setK_len]; exact hk)
  rw [List.getElem?_eq_getElem hku] at hu
  injection hu with hu
  rw [hu] at h2
  simp only [setK_at cs j at_ rs k hk] at h2
  exact h2

set_option maxRecDepth 100000 in
set_option maxHeartbeats 1600000 in
/-- reckoned: each row's value set, or the first that is too great told. -/
theorem reckoned_any (v vc : Value) (cs : List Cl) (rs : List (List Vl)) (us : List Value) (j : Jb) (nm : ByteArray) (cb co cc at_ B : Nat) (w : World) (hv : w.ownsRow B 50 1 v rs.length us) (hH : HeldRows w B us rs) (hp : us.Pairwise Apart)
    (hcW : ∀ W, Below B w W → ColsIs W vc cs) (hcols : j.cols = .slice (some ⟨cb, co, none⟩) 1 cc) (hnm : ∀ W, Below B w W → W.cell? ⟨cb, co, none⟩ = some (.string nm)) (hcb : cb < w.heap.size) (hat : placeN cs nm.data.toList = some at_)
    (h1 : 1 ≤ cs.length) (h6 : cs.length ≤ 100) (hl : ∀ r ∈ rs, r.length = cs.length) (h60 : rs.length ≤ 100) (ho1 : okArg cs j.left) (ho2 : okArg cs j.right) (hin : ∀ r ∈ rs, inNum (valIn cs r j.left).2.1 ∧ inNum (valIn cs r j.right).2.1) (hB : B ≤ w.heap.size) :
    Calls Tryz.prog 69 #[.agg j.cells, vc, v] w fun e w' => (((∀ r ∈ rs, inNum (setV cs j r)) ∧ e = .returned (.tuple #[v, .nilIface]) ∧ w'.ownsRow B 50 1 v rs.length us ∧ HeldRows w' B us (rs.map (setR cs j at_))) ∨ ((∃ r ∈ rs, ¬ inNum (setV cs j r)) ∧ e = .returned (.tuple #[.slice none 0 0, errV 2]))) ∧ Below B w w' := by
  have hatl := place_some hat
  have hP := fun W (hW : Below B w W) => place_any vc cs nm W (hcW W hW) h1 h6
  rw [show placeI cs nm.data.toList = (at_ : Int) by rw [placeI, hat]] at hP
  have HP := Hid.mk hP
  have HC := Hid.mk hcW
  have HN := Hid.mk hnm
  have HI := Hid.mk hin
  have HL := Hid.mk hl
  have HO := Hid.mk (And.intro ho1 ho2)
  have HPW := Hid.mk hp
  have hJ0 := job_new w j 36
  have s0 := HN.out w (Below.refl _ _)
  have hv0 := hcW w (Below.refl _ _)
  obtain ⟨va, vcp, rfl, -⟩ := hv0
  obtain ⟨ra, rcp, rfl⟩ := own_slice hv
  have HV := Hid.mk (And.intro hv hH)
  unfold Jb.cells at hJ0 ⊢
  rw [hcols] at hJ0 ⊢
  have HJ0 := Hid.mk hJ0
  have hUW : ∀ (q : Nat) (u : Value), us[q]? = some u → ∀ b : Nat, u.ownBlock = some b → b < w.heap.size := fun q u hq b hb => by
    obtain ⟨hlt, rfl⟩ := List.getElem?_eq_some_iff.1 hq
    exact ((hH.2 q hlt (by rw [← hH.1]; exact hlt)).1.lt b hb).2
  have HUW := Hid.mk hUW
  clear hJ0 hP hat hin hl ho1 ho2 hp hv hH hcW hnm hUW
  go_enter Tryz.func69, Tryz.ntmps69
  go_wp2_with (go_at_call 76; refine (HP.out _ ((below_box _ _).mono hB)).mono ?_; rintro e w1 ⟨rfl, hb1⟩)
  have hb01 : Below B w w1 := belB hB ((below_box w _).mono hB) hb1
  have hJ1 := HJ0.out.below hb1 (by simp)
  have hv1 := owns_below (HV.out.1.alloc _) hb1
  have hH1 := (HV.out.2.below (below_box _ _)).below hb1
  have hz1 : w.heap.size < w1.heap.size := by have := hb1.size; simp at this; omega
  have H1 := Hid.mk (And.intro hJ1 (And.intro hv1 (And.intro hH1 hb01)))
  clear hb1 hb01 hJ1 hv1 hH1 HJ0 HV HP s0
  go_loopw [23] (fun i wr => ∃ k : Nat, k ≤ rs.length ∧ i = .int .i64 k ∧ wr.ownsRow B 50 1 (.slice ra rs.length rcp) rs.length us ∧ HeldRows wr B us (setK cs j at_ rs k) ∧ (∀ q (h : q < rs.length), q < k → inNum (setV cs j rs[q])) ∧ JobAt wr w.heap.size j ∧ Below B w wr) (fun i _ => rs.length - (intOf i).toNat)
  case atStart => exact ⟨0, Nat.zero_le _, rfl, H1.out.2.1, by rw [setK_0]; exact H1.out.2.2.1, fun q _ h => absurd h (by omega), H1.out.1, H1.out.2.2.2⟩
  case round =>
    obtain ⟨k, hk, rfl, hown, hheld, hall, hj, hnx⟩ := hrel
    have HR := Hid.mk (And.intro hown (And.intro hheld (And.intro hall (And.intro hj hnx))))
    by_cases hlt : k < rs.length
    · obtain ⟨g, gc, hve, hgB, hgl, hgc⟩ := tab_cells hown (by omega)
      simp only [Value.slice.injEq, true_and] at hve
      obtain ⟨rfl, rfl⟩ := hve
      have hku : k < us.length := by rw [hheld.1, setK_len]; exact hlt
      obtain ⟨u, hu⟩ : ∃ u, us[k]? = some u := ⟨us[k], List.getElem?_eq_getElem hku⟩
      obtain ⟨hro, hrs⟩ := held_setK hheld hlt hu
      have hrl := HL.out _ (List.getElem_mem hlt)
      obtain ⟨rb, uc, rfl, hrB, hrbl, hrc⟩ := tab_cells hro (by omega)
      have cu := hgc k _ hu
      rw [Nat.zero_add] at cu
      have hrow := row_of_own hro hrs
      have hV := fun (x : Ag) (hx : x = j.left ∨ x = j.right) W (hW : Below wr.heap.size wr W) => valueIn_any _ _ cs rs[k] x W ((HC.out wr hnx).below hW) (hrow.below hW) h6 hrl (by rcases hx with rfl | rfl; exact HO.out.1; exact HO.out.2)
      have hnums := HI.out _ (List.getElem_mem hlt)
      have hjl := hj.lt
      have hsv : setV cs j rs[k] = reckI j.op.data.toList (valIn cs rs[k] j.left).2.1 (valIn cs rs[k] j.right).2.1 := rfl
      have j5 : wr.cell? ⟨w.heap.size, 5, none⟩ = some (Value.string j.op) := hj 5 _ rfl
      have j6 : wr.cell? ⟨w.heap.size, 6, none⟩ = some (Value.string j.left.1) := hj 6 _ rfl
      have j7 : wr.cell? ⟨w.heap.size, 7, none⟩ = some (Value.int .i64 j.left.2.1) := hj 7 _ rfl
      have j8 : wr.cell? ⟨w.heap.size, 8, none⟩ = some (Value.int .i64 j.left.2.2.1) := hj 8 _ rfl
      have j9 : wr.cell? ⟨w.heap.size, 9, none⟩ = some (Value.string j.left.2.2.2) := hj 9 _ rfl
      have j10 : wr.cell? ⟨w.heap.size, 10, none⟩ = some (Value.string j.right.1) := hj 10 _ rfl
      have j11 : wr.cell? ⟨w.heap.size, 11, none⟩ = some (Value.int .i64 j.right.2.1) := hj 11 _ rfl
      have j12 : wr.cell? ⟨w.heap.size, 12, none⟩ = some (Value.int .i64 j.right.2.2.1) := hj 12 _ rfl
      have j13 : wr.cell? ⟨w.heap.size, 13, none⟩ = some (Value.string j.right.2.2.2) := hj 13 _ rfl
      have HVV := Hid.mk hV
      have HU := Hid.mk (And.intro hu (And.intro hro (And.intro hrs (And.intro hrB hrc))))
      have HNM := Hid.mk (And.intro hrl (And.intro hnums hsv))
      have hrl' : (at_ : Int) < (rs[k].length : Int) := by omega
      clear hV hu hro hrs hrow hrB hrc hgc hown hheld hall hj hnx hnums hsv hku hrl
      generalize hrk : rs[k] = rk at *
      have HRK := Hid.mk hrk
      clear hrk
      go_wp2_with fail
      go_cut [11, 12] (fun p q wx => ∃ b1 b2 : Nat, p = .pointer (some ⟨b1, 0, none⟩) ∧ q = .pointer (some ⟨b2, 0, none⟩) ∧ VB wx b1 (valIn cs rk j.left) ∧ VB wx b2 (valIn cs rk j.right) ∧ Below wr.heap.size wr wx)
      case first =>
        go_region_held3 (fun w' => w'.cell? ⟨w.heap.size, 6, none⟩ = some (Value.string j.left.1) ∧ w'.cell? ⟨w.heap.size, 7, none⟩ = some (Value.int .i64 j.left.2.1) ∧ w'.cell? ⟨w.heap.size, 8, none⟩ = some (Value.int .i64 j.left.2.2.1) ∧ w'.cell? ⟨w.heap.size, 9, none⟩ = some (Value.string j.left.2.2.2) ∧ w'.cell? ⟨w.heap.size, 10, none⟩ = some (Value.string j.right.1) ∧ w'.cell? ⟨w.heap.size, 11, none⟩ = some (Value.int .i64 j.right.2.1) ∧ w'.cell? ⟨w.heap.size, 12, none⟩ = some (Value.int .i64 j.right.2.2.1) ∧ w'.cell? ⟨w.heap.size, 13, none⟩ = some (Value.string j.right.2.2.2))
          (exact keep8 (W := wr) (by repeat' (first | with_reducible exact hx2 | with_reducible exact hx1 | with_reducible exact Below.refl _ _ | with_reducible refine Below.drew ?_ | with_reducible refine bel_box ?_ _ | with_reducible refine Below.setCell ?_ ?_ _ | (show wr.heap.size ≤ _; simp; done) | (show wr.heap.size ≤ _; simp; omega))) ⟨j6, j7, j8, j9, j10, j11, j12, j13⟩)
          (first | (go_at_call 68; refine (HVV.out _ (by first | exact Or.inl rfl | exact Or.inr rfl) _ (by repeat' (first | with_reducible exact hx2 | with_reducible exact hx1 | with_reducible exact Below.refl _ _ | with_reducible refine Below.drew ?_ | with_reducible refine bel_box ?_ _ | with_reducible refine Below.setCell ?_ ?_ _ | (show wr.heap.size ≤ _; simp; done) | (show wr.heap.size ≤ _; simp; omega)))).mono ?_; first | (have hx9 := hx1; clear hx9; rintro e w2' ⟨rfl, hb2⟩; have hx2 := bel_then (show Below wr.heap.size wr _ from (by repeat' (first | with_reducible exact hx2 | with_reducible exact hx1 | with_reducible exact Below.refl _ _ | with_reducible refine Below.drew ?_ | with_reducible refine bel_box ?_ _ | with_reducible refine Below.setCell ?_ ?_ _ | (show wr.heap.size ≤ _; simp; done) | (show wr.heap.size ≤ _; simp; omega)))) hb2; have hs2 := hx2.size; (first | (with_reducible have zb0 := Z3.below za0 hb2) | (with_reducible have zb0 := Z3.below (Z3.alloc za0 _) hb2) | skip); (first | (with_reducible have zb1 := Z3.below za1 hb2) | skip); (first | (with_reducible have zb2 := Z3.below (Z3.alloc (Z3.new (W := w1') rfl) _) hb2; with_reducible have zb3 := Z3.below (Z3.new1 (W := w1')) hb2) | (with_reducible have zb2 := Z3.below (Z3.new (W := w1') rfl) hb2) | skip); (try obtain ⟨yzb00, yzb01, yzb02, yzb03, yzb04, yzb05, yzb06⟩ := id zb0); (try obtain ⟨yzb10, yzb11, yzb12, yzb13, yzb14, yzb15, yzb16⟩ := id zb1); (try obtain ⟨yzb20, yzb21, yzb22, yzb23, yzb24, yzb25, yzb26⟩ := id zb2); (try obtain ⟨yzb30, yzb31, yzb32, yzb33, yzb34, yzb35, yzb36⟩ := id zb3)) | (rintro e w1' ⟨rfl, hb1⟩; have hx1 := bel_then (show Below wr.heap.size wr _ from (by repeat' (first | with_reducible exact hx2 | with_reducible exact hx1 | with_reducible exact Below.refl _ _ | with_reducible refine Below.drew ?_ | with_reducible refine bel_box ?_ _ | with_reducible refine Below.setCell ?_ ?_ _ | (show wr.heap.size ≤ _; simp; done) | (show wr.heap.size ≤ _; simp; omega)))) hb1; have hs1 := hx1.size; (first | (with_reducible have za0 := Z3.below (Z3.drew (Z3.alloc (Z3.new (W := wr) rfl) _)) hb1; with_reducible have za1 := Z3.below (Z3.drew (Z3.new1 (W := wr))) hb1) | (with_reducible have za0 := Z3.below (Z3.drew (Z3.new (W := wr) rfl)) hb1) | skip); (try obtain ⟨yza00, yza01, yza02, yza03, yza04, yza05, yza06⟩ := id za0); (try obtain ⟨yza10, yza11, yza12, yza13, yza14, yza15, yza16⟩ := id za1))))
        all_goals go_wp2_with fail
        all_goals go_meet
        all_goals refine ⟨_, _, rfl, rfl, ?_, ?_, (by repeat' (first | with_reducible exact hx2 | with_reducible exact hx1 | with_reducible exact Below.refl _ _ | with_reducible refine Below.drew ?_ | with_reducible refine bel_box ?_ _ | with_reducible refine Below.setCell ?_ ?_ _ | (show wr.heap.size ≤ _; simp; done) | (show wr.heap.size ≤ _; simp; omega)))⟩
        all_goals repeat' (first | with_reducible exact zb0 | with_reducible exact zb1 | with_reducible exact zb2 | with_reducible exact zb3 | with_reducible exact VB.new (by simp) | with_reducible refine VB.stored ?_ | with_reducible refine VB.other ?_ ?_ | with_reducible refine VB.alloc ?_ _ | with_reducible refine Z3.alloc ?_ _ | with_reducible refine Z3.other ?_ ?_ | omega)
      case rest =>
        obtain ⟨b1, b2, rfl, rfl, ⟨-, c1, -, l1⟩, ⟨-, c2, -, l2⟩, hbx⟩ := hcut
        have j5' := (hbx.cell (p := ⟨w.heap.size, 5, none⟩) hjl).trans j5
        have hjl' : w.heap.size < wc.heap.size := Nat.lt_of_lt_of_le hjl hbx.size
        obtain ⟨hrl, ⟨ha, hb⟩, hsv⟩ := HNM.out
        have HRE := Hid.mk (fun W => reckon_any j.op (valIn cs rk j.left).2.1 (valIn cs rk j.right).2.1 W ha hb)
        generalize hres : reckI j.op.data.toList (valIn cs rk j.left).2.1 (valIn cs rk j.right).2.1 = res at *
        have HBX := Hid.mk hbx
        have HSV := Hid.mk (And.intro hrl hsv)
        clear hbx hrl hsv ha hb hres HNM
        by_cases hin : inNum res
        · have HNO := Hid.mk (fun W => number_ok res W hin)
          have HIN := Hid.mk hin
          clear hin
          obtain ⟨hu, hro, hrs, hrB, hrc⟩ := HU.out
          have hat3 : at_ < rk.length := by omega
          obtain ⟨v0, v1, v2⟩ := valCells_at rk at_ hat3
          have e0 := hrc _ _ v0
          have e1 := hrc _ _ v1
          have e2 := hrc _ _ v2
          rw [Nat.zero_add] at e0 e1 e2
          have fz := fun o => hro.frozenAt o
          clear v0 v1 v2 hu hro hrs hrc
          go_wp2_with (first | (go_at_call 101; refine (HRE.out _).mono ?_; rintro e w5 ⟨rfl, rfl⟩) | (go_at_call 100; refine (HNO.out _).mono ?_; rintro e w6 ⟨rfl, hb6⟩; have hy6 := bel_then HBX.out hb6; have d0 := (hy6.cell (p := ⟨rb, at_ * 3, none⟩) hrbl).trans e0; have d1 := (hy6.cell (p := ⟨rb, at_ * 3 + 1, none⟩) hrbl).trans e1; have d2 := (hy6.cell (p := ⟨rb, at_ * 3 + 2, none⟩) hrbl).trans e2; have f0 := (hy6.frozen (p := ⟨rb, at_ * 3, none⟩) hrbl).trans (fz _); have f1 := (hy6.frozen (p := ⟨rb, at_ * 3 + 1, none⟩) hrbl).trans (fz _); have f2 := (hy6.frozen (p := ⟨rb, at_ * 3 + 2, none⟩) hrbl).trans (fz _); have hrb6 := Nat.lt_of_lt_of_le hrbl hy6.size))
          go_roundw
          case rel =>
            obtain ⟨hown, hheld, hall, hj, hnx⟩ := HR.out
            obtain ⟨hu, hro, hrs, hrB, hrc⟩ := HU.out
            have hrkN : rb ≠ w.heap.size := by have := HUW.out _ _ hu rb rfl; omega
            have hsvk := HSV.out.2
            have hrk := HRK.out
            subst hrk
            rw [← hsvk] at HIN ⊢
            refine ⟨k + 1, by omega, by go_num, ?_, ?_, ?_, ?_, ?_⟩
            · exact (put_other (owns_below hown hy6) ((own_ne (by decide) hown hro).resolve_left (by simp [Value.ownBlock]))).alloc _
            · exact (held_next (hheld.below hy6) HPW.out hlt hu hat3).below (below_box _ _)
            · intro q hq hqk
              rcases Nat.lt_or_ge q k with h | h
              · exact hall q hq h
              · obtain rfl : q = k := by omega
                exact HIN.out
            · exact (((((hj.below hy6 hjl).elsewhere hrkN).elsewhere hrkN).elsewhere hrkN)).below (below_box _ _) (by have := hy6.size; simp; omega)
            · exact belB hB ((((belB hB hnx hy6).setCell hrB _).setCell hrB _).setCell hrB _) (below_box _ _)
          case measure => simp [intOf]; omega
        · have hNB := fun W => number_bad res W hin
          rw [errV_ne (by decide)] at hNB
          have HNO := Hid.mk hNB
          have HIN := Hid.mk hin
          clear hin hNB
          go_wp2_with (first | (go_at_call 101; refine (HRE.out _).mono ?_; rintro e w5 ⟨rfl, rfl⟩) | (go_at_call 100; refine (HNO.out _).mono ?_; rintro e w6 ⟨rfl, hb6⟩))
          go_ret2
          have hsvk := HSV.out.2
          have hrk := HRK.out
          subst hrk
          refine ⟨Or.inr ⟨⟨rs[k], List.getElem_mem hlt, ?_⟩, rfl⟩, belB hB (belB hB (belB hB HR.out.2.2.2.2 HBX.out) hb6) (below_box _ _)⟩
          rw [hsvk]
          exact HIN.out
    · have hke : k = rs.length := by omega
      subst hke
      rw [setK_all] at hheld
      have HR2 := Hid.mk (And.intro hown (And.intro hheld hnx))
      have HALL := Hid.mk hall
      clear hown hheld hall hj hnx HR
      go_wp2
      go_ret2
      refine ⟨Or.inl ⟨?_, rfl, HR2.out.1, HR2.out.2.1⟩, HR2.out.2.2⟩
      intro r hr
      obtain ⟨q, hq, rfl⟩ := List.mem_iff_getElem.1 hr
      exact HALL.out q hq hq
end Go.Proofs.YtlpomofaeeaneaaGreatDoor
