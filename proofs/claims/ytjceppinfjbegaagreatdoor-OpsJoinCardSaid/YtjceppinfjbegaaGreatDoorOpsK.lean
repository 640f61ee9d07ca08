import Derived.Test.YtjceppinfjbegaaGreatDoorOpsJ
set_option linter.unusedSimpArgs false
set_option linter.unusedVariables false
namespace Go.Proofs.YtjceppinfjbegaaGreatDoor
open Go.RowKit

theorem any_world {G : World → Prop} (F : World → Prop) (w0 : World) (h : F w0) (k : ∀ w, F w → G w) : G w0 := k w0 h
theorem job_new (w : World) (j : Jb) (t : TypeId) : JobAt (w.alloc (.cells j.cells t)) w.heap.size j := fun k v hk => by rw [World.cell?_alloc_at _ _ _ _ rfl]; exact hk
theorem own_one2 (w : World) (a b : Value) (e : TypeId) (B H : Nat) (hB : B ≤ w.heap.size) (hH : w.heap.size = H) : (w.alloc (.cells #[a, b] e)).ownsRow B e 2 (.slice (some ⟨H, 0, none⟩) 1 1) 1 [a, b] := by
  subst hH
  exact ⟨by simp, Or.inr ⟨w.heap.size, 1, #[a, b], rfl, hB, by show (w.heap.push _)[w.heap.size]? = _; simp, Nat.le_refl _, by unfold maxLen; omega, by simp, by simp⟩⟩
theorem heads_at {w : World} {B : Nat} {v : Value} {us : List Value} {css : List (List Cl)} (hv : w.ownsRow B 33 1 v css.length us) (h0 : 0 < css.length) : ∃ g c, v = .slice (some ⟨g, 0, none⟩) css.length c ∧ B ≤ g := by
  obtain ⟨-, ⟨rfl, hn⟩ | ⟨g, cap, cur, rfl, hg, hh, hn, hm, _, _⟩⟩ := hv
  · omega
  · exact ⟨g, cap, rfl, hg⟩
/-- A table that the call itself has made. -/
def ColsNew (w : World) (B : Nat) (v : Value) (cs : List Cl) : Prop := w.ownsRow B 60 2 v cs.length (colCells cs) ∧ ∀ x ∈ cs, x.1.size ≤ maxLen
def RowsNew (w : World) (B : Nat) (v : Value) (rs : List (List Vl)) : Prop := ∃ us, w.ownsRow B 62 1 v rs.length us ∧ HeldRows w B us rs
theorem ColsNew.is {w : World} {B : Nat} {v : Value} {cs : List Cl} (h : ColsNew w B v cs) : ColsIs w v cs := cols_of_own h.1 h.2
theorem RowsNew.is {w : World} {B : Nat} {v : Value} {rs : List (List Vl)} (h : RowsNew w B v rs) : RowsIs w v rs := by obtain ⟨us, h1, h2⟩ := h; exact rows_of_held h1 h2
theorem ColsNew.below {w w' : World} {B : Nat} {v : Value} {cs : List Cl} (h : ColsNew w B v cs) (hb : Below w.heap.size w w') : ColsNew w' B v cs := ⟨owns_below h.1 hb, h.2⟩
theorem RowsNew.below {w w' : World} {B : Nat} {v : Value} {rs : List (List Vl)} (h : RowsNew w B v rs) (hb : Below w.heap.size w w') : RowsNew w' B v rs := by obtain ⟨us, h1, h2⟩ := h; exact ⟨us, owns_below h1 hb, h2.below hb⟩
theorem ColsNew.set {w : World} {B R o : Nat} {v x : Value} {cs : List Cl} (h : ColsNew w B v cs) (hR : R < B) : ColsNew (w.setCell ⟨R, o, none⟩ x) B v cs := ⟨ownsRow_setCell_below h.1 hR _, h.2⟩
theorem RowsNew.set {w : World} {B R o : Nat} {v x : Value} {rs : List (List Vl)} (h : RowsNew w B v rs) (hR : R < B) : RowsNew (w.setCell ⟨R, o, none⟩ x) B v rs := by obtain ⟨us, h1, h2⟩ := h; exact ⟨us, ownsRow_setCell_below h1 hR _, h2.set hR⟩
theorem ColsNew.mono {w : World} {B B' : Nat} {v : Value} {cs : List Cl} (h : ColsNew w B v cs) (hB : B' ≤ B) : ColsNew w B' v cs := ⟨own_mono hB h.1, h.2⟩
theorem RowsNew.mono {w : World} {B B' : Nat} {v : Value} {rs : List (List Vl)} (h : RowsNew w B v rs) (hB : B' ≤ B) : RowsNew w B' v rs := by obtain ⟨us, h1, h2⟩ := h; exact ⟨us, own_mono hB h1, h2.mono hB⟩
def TabsNew (w : World) (B g : Nat) (ts : List Tb) : Prop := ∀ (j : Nat) (h : j < ts.length), ∃ vc vr, w.cell? ⟨g, 0 + j * 2, none⟩ = some vc ∧ w.cell? ⟨g, 0 + j * 2 + 1, none⟩ = some vr ∧ ColsNew w B vc ts[j].1 ∧ RowsNew w B vr ts[j].2
theorem list_at {w : World} {B n : Nat} {v : Value} {us : List Value} {e : TypeId} (h : w.ownsRow B e 1 v n us) (h0 : 0 < n) : ∃ g y us', v = .slice (some ⟨g, 0, none⟩) n (match v with | .slice _ _ c => c | _ => 0) ∧ us = y :: us' ∧ g < w.heap.size ∧ w.cell? ⟨g, 0, none⟩ = some y := by
  have h' := h
  obtain ⟨hl, ⟨rfl, hn⟩ | ⟨g, cap, cur, rfl, hg, hh, hn, hm, _, _⟩⟩ := h
  · omega
  · cases us with
    | nil => simp at hl; omega
    | cons y r =>
      have e1 := h'.cellAt 0 (by omega)
      exact ⟨g, y, r, rfl, rfl, (h'.lt g rfl).2, by rw [e1]; rfl⟩
theorem list_cell {w : World} {B n g c : Nat} {us : List Value} {e : TypeId} (h : w.ownsRow B e 1 (.slice (some ⟨g, 0, none⟩) n c) n us) (k : Nat) (y : Value) (hk : k < n) (hy : us[k]? = some y) : w.cell? ⟨g, k, none⟩ = some y := by
  have e1 := h.cellAt k (by omega)
  rw [e1, hy]
theorem tab_cells {w : World} {B n z : Nat} {v : Value} {us : List Value} {e : TypeId} (h : w.ownsRow B e z v n us) (h0 : 0 < n) : ∃ g c, v = .slice (some ⟨g, 0, none⟩) n c ∧ B ≤ g ∧ g < w.heap.size ∧ ∀ k y, us[k]? = some y → w.cell? ⟨g, 0 + k, none⟩ = some y := by
  have h' := h
  obtain ⟨hl, ⟨rfl, hn⟩ | ⟨g, cap, cur, rfl, hg, hh, hn, hm, _, _⟩⟩ := h
  · omega
  · refine ⟨g, cap, rfl, hg, (h'.lt g rfl).2, fun k y hk => ?_⟩
    have hkl : k < us.length := (List.getElem?_eq_some_iff.1 hk).1
    have e1 := h'.cellAt k (by omega)
    rw [Nat.zero_add, e1, hk]

set_option maxRecDepth 100000 in
set_option maxHeartbeats 1600000 in
/-- Do: its columns are wrong. -/
theorem do_bad (tb to_ tcap : Nat) (ts : List Tb) (j : Jb) (w : World) (ht : TabsAt w tb to_ ts) (htb : tb < w.heap.size) (hl : ts.length ≤ 100) (hl0 : 0 < ts.length) (hgood : ∀ t ∈ ts, rightB t.1 t.2 = true)
    (n : Int) (hn : n ≠ 0)
    (hCols : ∀ W B g cap us, Below w.heap.size w W → W.ownsRow B 33 1 (.slice (some ⟨g, 0, none⟩) ts.length cap) ts.length us → HeadsIs W us (ts.map (·.1)) → Calls Tryz.prog 11 #[.agg j.cells, .slice (some ⟨g, 0, none⟩) ts.length cap] W fun e w' => e = .returned (.tuple #[.slice none 0 0, errV n]) ∧ Below W.heap.size W w') :
    Calls Tryz.prog 15 #[.agg j.cells, .slice (some ⟨tb, to_, none⟩) ts.length tcap] w fun e w' => e = .returned (.tuple #[.slice none 0 0, errV n]) ∧ Below w.heap.size w w' := by
  obtain ⟨i0, hi, hz0, hz1, hz2⟩ := info_parts Tryz.infoCols
  have HG := Hid.mk hgood
  have HT := Hid.mk ht
  rw [errV_ne hn] at hCols ⊢
  unfold Jb.cells at hCols
  have HCOLS := Hid.mk hCols
  clear hCols
  clear hgood ht
  have hjn := job_new w j 28
  unfold Jb.cells at hjn ⊢
  have HJN := Hid.mk hjn
  clear hjn
  go_enter Tryz.func15, Tryz.ntmps15
  go_wp2
  refine any_world (G := fun w => Code.wp _ _ _ _ w) (fun W0 => JobAt W0 w.heap.size j ∧ Below w.heap.size w W0 ∧ w.heap.size < W0.heap.size) _ ⟨HJN.out, below_box _ _, by simp⟩ ?_
  clear HJN
  intro W0 ⟨hJ, hb0, hs0⟩
  have HJ := Hid.mk (And.intro hJ hb0)
  clear hJ hb0
  go_loopw [6, 16] (fun l i wr => ∃ (k : Nat) (us : List Value), k ≤ ts.length ∧ i = .int .i64 k ∧ wr.ownsRow W0.heap.size 33 1 l k us ∧ HeadsIs w us ((ts.take k).map (·.1)) ∧ Below W0.heap.size W0 wr) (fun _ i _ => ts.length - (intOf i).toNat)
  case atStart => exact ⟨0, [], Nat.zero_le _, rfl, World.ownsRow_nil _ _ _ _, ⟨rfl, fun j hj => absurd hj (by simp)⟩, Below.refl _ _⟩
  case round =>
    obtain ⟨k, us, hk, rfl, hown, hheads, hn0⟩ := hrel
    obtain ⟨la, lc, rfl⟩ := own_slice hown
    have hnx : Below w.heap.size w wr := HJ.out.2.trans (hn0.mono HJ.out.2.size)
    have hws := hn0.size
    have HO := Hid.mk (And.intro hown (And.intro hheads (And.intro hn0 hnx)))
    by_cases hlt : k < ts.length
    · obtain ⟨vc, vr, c0, c1, hc, hr⟩ := HT.out k hlt
      have d0 := (hnx.cell (p := ⟨tb, to_ + k * 2, none⟩) htb).trans c0
      have d1 := (hnx.cell (p := ⟨tb, to_ + k * 2 + 1, none⟩) htb).trans c1
      have hRT := fun W (hW : Below wr.heap.size wr W) => right_any vc vr ts[k].1 ts[k].2 W ((hc.below hnx).below hW) ((hr.below hnx).below hW)
      have HCO := Hid.mk hc
      obtain ⟨ca, cc, rfl, -⟩ := hc
      obtain ⟨ra, rc, rfl, -⟩ := hr
      have g := HG.out _ (List.getElem_mem hlt)
      simp only [g] at hRT
      have HRT := Hid.mk hRT
      clear hRT c0 c1 hown hheads hnx hn0 g
      have hmap : (ts.take (k + 1)).map (·.1) = (ts.take k).map (·.1) ++ [ts[k].1] := by rw [List.take_succ_eq_append_getElem hlt, List.map_append]; rfl
      have HM := Hid.mk hmap
      clear hmap
      generalize hq1 : ts[k].1 = q1 at *
      clear hq1
      generalize hn2 : ts[k].2.length = n2 at *
      clear hn2
      go_wp2_with (first | (go_at_call 48; refine (HRT.out _ (below_box _ _)).mono ?_; rintro e w1 ⟨rfl, hb1⟩; obtain ⟨hc1, hf1⟩ := bcell hb1; have hzz1 : wr.heap.size < w1.heap.size := by (have := hb1.size; simp at this; omega)) | (at_builtin; refine wpList_append_own _ rfl _ _ 31 rfl W0.heap.size 33 i0 (.slice none 0 0) 1 24 Tryz.underlying31 hi hz0 hz1 hz2 rfl (by decide) _ _ _ rfl ((owns_below (HO.out.1.alloc _) hb1).alloc _) ⟨w1.heap.size, 0, none⟩ 1 1 [.slice ca q1.length cc] rfl rfl (news1 _ _ _ _ rfl) (one1s _ _ _) ?c3 ?c4 ?c5 ?_))
      case c3 => unfold maxLen; omega
      case c4 => omega
      case c5 => have := hb1.size; simp at this ⊢; omega
      intro v' w5 hown' hgrow _
      obtain ⟨p1, p2, p3, p4⟩ := HO.out
      have hb05 : Below W0.heap.size W0 w5 := ((bel_then (bel_box p3 _) hb1).alloc (by omega) _).grown hgrow (by simp; omega) (fun q hq => (p1.lt q hq).1)
      have hH5 : HeadsIs w (us ++ [.slice ca q1.length cc]) ((ts.take (k + 1)).map (·.1)) := by
        rw [HM.out]
        exact p2.snoc HCO.out
      have HF := Hid.mk (And.intro hown' (And.intro hH5 hb05))
      clear hown' hgrow hb05 hc1 hf1 p1 p2 p3 p4 hH5
      go_wp2
      go_roundw
      case rel => exact ⟨k + 1, _, by omega, by go_num, HF.out.1, HF.out.2.1, HF.out.2.2⟩
      case measure => simp [intOf]; omega
    · have hke : k = ts.length := by omega
      subst hke
      simp only [List.take_length] at hheads
      obtain ⟨g, cap, hve, hgb⟩ := heads_at (css := ts.map (·.1)) (by simpa using hown) (by simpa using hl0)
      simp only [List.length_map, Value.slice.injEq, true_and] at hve
      obtain ⟨rfl, rfl⟩ := hve
      have HC := Hid.mk (HCOLS.out wr W0.heap.size g lc us hnx hown (hheads.below hnx))
      have hJ := HJ.out.1.below hn0 hs0
      have j0 : wr.cell? ⟨w.heap.size, 0, none⟩ = some (.int .i64 j.at_) := hJ 0 _ rfl
      have j1 : wr.cell? ⟨w.heap.size, 1, none⟩ = some (.int .i64 j.code) := hJ 1 _ rfl
      have j2 : wr.cell? ⟨w.heap.size, 2, none⟩ = some j.outs := hJ 2 _ rfl
      have j3 : wr.cell? ⟨w.heap.size, 3, none⟩ = some j.ins := hJ 3 _ rfl
      have j4 : wr.cell? ⟨w.heap.size, 4, none⟩ = some j.cols := hJ 4 _ rfl
      have j5 : wr.cell? ⟨w.heap.size, 5, none⟩ = some (.string j.op) := hJ 5 _ rfl
      have j6 : wr.cell? ⟨w.heap.size, 6, none⟩ = some (.string j.left.1) := hJ 6 _ rfl
      have j7 : wr.cell? ⟨w.heap.size, 7, none⟩ = some (.int .i64 j.left.2.1) := hJ 7 _ rfl
      have j8 : wr.cell? ⟨w.heap.size, 8, none⟩ = some (.int .i64 j.left.2.2.1) := hJ 8 _ rfl
      have j9 : wr.cell? ⟨w.heap.size, 9, none⟩ = some (.string j.left.2.2.2) := hJ 9 _ rfl
      have j10 : wr.cell? ⟨w.heap.size, 10, none⟩ = some (.string j.right.1) := hJ 10 _ rfl
      have j11 : wr.cell? ⟨w.heap.size, 11, none⟩ = some (.int .i64 j.right.2.1) := hJ 11 _ rfl
      have j12 : wr.cell? ⟨w.heap.size, 12, none⟩ = some (.int .i64 j.right.2.2.1) := hJ 12 _ rfl
      have j13 : wr.cell? ⟨w.heap.size, 13, none⟩ = some (.string j.right.2.2.2) := hJ 13 _ rfl
      have j14 : wr.cell? ⟨w.heap.size, 14, none⟩ = some (.int .i64 j.retry) := hJ 14 _ rfl
      have HJW := Hid.mk hJ
      have hjl := hJ.lt
      clear hJ hown hheads hnx hn0 HCOLS
      go_wp2_with (go_at_call 11; refine HC.out.mono ?_; rintro e w2 ⟨rfl, hb2⟩)
      go_ret2
      exact ⟨rfl, bel_then HO.out.2.2.2 hb2⟩

set_option maxRecDepth 100000 in
set_option maxHeartbeats 1600000 in
/-- Do: there are too many rows. -/
theorem do_full (tb to_ tcap : Nat) (ts : List Tb) (j : Jb) (w : World) (ht : TabsAt w tb to_ ts) (htb : tb < w.heap.size) (hl : ts.length ≤ 100) (hl0 : 0 < ts.length) (hgood : ∀ t ∈ ts, rightB t.1 t.2 = true)
    (cs : List Cl) (mk : Nat) (rs1 rs2 : List (List Vl)) (hfull : 60 < rs1.length)
    (hCols : ∀ W B g cap us, Below w.heap.size w W → W.ownsRow B 33 1 (.slice (some ⟨g, 0, none⟩) ts.length cap) ts.length us → HeadsIs W us (ts.map (·.1)) → Calls Tryz.prog 11 #[.agg j.cells, .slice (some ⟨g, 0, none⟩) ts.length cap] W fun e w' => ∃ v us, e = .returned (.tuple #[v, .nilIface]) ∧ w'.ownsRow W.heap.size 33 1 v mk us ∧ HeldCols w' W.heap.size us cs ∧ Below W.heap.size W w')
    (hRows : ∀ W, Below w.heap.size w W → Calls Tryz.prog 49 #[.agg j.cells, .slice (some ⟨tb, to_, none⟩) ts.length tcap] W fun e w' => ∃ v1 v2 us1 us2, e = .returned (.tuple #[v1, v2, .nilIface]) ∧ w'.ownsRow W.heap.size 62 1 v1 rs1.length us1 ∧ HeldRows w' W.heap.size us1 rs1 ∧ w'.ownsRow W.heap.size 62 1 v2 rs2.length us2 ∧ HeldRows w' W.heap.size us2 rs2 ∧ Below W.heap.size W w') :
    Calls Tryz.prog 15 #[.agg j.cells, .slice (some ⟨tb, to_, none⟩) ts.length tcap] w fun e w' => e = .returned (.tuple #[.slice none 0 0, errV 12]) ∧ Below w.heap.size w w' := by
  obtain ⟨i0, hi, hz0, hz1, hz2⟩ := info_parts Tryz.infoCols
  have HG := Hid.mk hgood
  have HT := Hid.mk ht
  unfold Jb.cells at hCols hRows
  have HCOLS := Hid.mk hCols
  have HROWS := Hid.mk hRows
  clear hCols hRows
  clear hgood ht
  have hjn := job_new w j 28
  unfold Jb.cells at hjn ⊢
  have HJN := Hid.mk hjn
  clear hjn
  go_enter Tryz.func15, Tryz.ntmps15
  go_wp2
  refine any_world (G := fun w => Code.wp _ _ _ _ w) (fun W0 => JobAt W0 w.heap.size j ∧ Below w.heap.size w W0 ∧ w.heap.size < W0.heap.size) _ ⟨HJN.out, below_box _ _, by simp⟩ ?_
  clear HJN
  intro W0 ⟨hJ, hb0, hs0⟩
  have HJ := Hid.mk (And.intro hJ hb0)
  clear hJ hb0
  go_loopw [6, 16] (fun l i wr => ∃ (k : Nat) (us : List Value), k ≤ ts.length ∧ i = .int .i64 k ∧ wr.ownsRow W0.heap.size 33 1 l k us ∧ HeadsIs w us ((ts.take k).map (·.1)) ∧ Below W0.heap.size W0 wr) (fun _ i _ => ts.length - (intOf i).toNat)
  case atStart => exact ⟨0, [], Nat.zero_le _, rfl, World.ownsRow_nil _ _ _ _, ⟨rfl, fun j hj => absurd hj (by simp)⟩, Below.refl _ _⟩
  case round =>
    obtain ⟨k, us, hk, rfl, hown, hheads, hn0⟩ := hrel
    obtain ⟨la, lc, rfl⟩ := own_slice hown
    have hnx : Below w.heap.size w wr := HJ.out.2.trans (hn0.mono HJ.out.2.size)
    have hws := hn0.size
    have HO := Hid.mk (And.intro hown (And.intro hheads (And.intro hn0 hnx)))
    by_cases hlt : k < ts.length
    · obtain ⟨vc, vr, c0, c1, hc, hr⟩ := HT.out k hlt
      have d0 := (hnx.cell (p := ⟨tb, to_ + k * 2, none⟩) htb).trans c0
      have d1 := (hnx.cell (p := ⟨tb, to_ + k * 2 + 1, none⟩) htb).trans c1
      have hRT := fun W (hW : Below wr.heap.size wr W) => right_any vc vr ts[k].1 ts[k].2 W ((hc.below hnx).below hW) ((hr.below hnx).below hW)
      have HCO := Hid.mk hc
      obtain ⟨ca, cc, rfl, -⟩ := hc
      obtain ⟨ra, rc, rfl, -⟩ := hr
      have g := HG.out _ (List.getElem_mem hlt)
      simp only [g] at hRT
      have HRT := Hid.mk hRT
      clear hRT c0 c1 hown hheads hnx hn0 g
      have hmap : (ts.take (k + 1)).map (·.1) = (ts.take k).map (·.1) ++ [ts[k].1] := by rw [List.take_succ_eq_append_getElem hlt, List.map_append]; rfl
      have HM := Hid.mk hmap
      clear hmap
      generalize hq1 : ts[k].1 = q1 at *
      clear hq1
      generalize hn2 : ts[k].2.length = n2 at *
      clear hn2
      go_wp2_with (first | (go_at_call 48; refine (HRT.out _ (below_box _ _)).mono ?_; rintro e w1 ⟨rfl, hb1⟩; obtain ⟨hc1, hf1⟩ := bcell hb1; have hzz1 : wr.heap.size < w1.heap.size := by (have := hb1.size; simp at this; omega)) | (at_builtin; refine wpList_append_own _ rfl _ _ 31 rfl W0.heap.size 33 i0 (.slice none 0 0) 1 24 Tryz.underlying31 hi hz0 hz1 hz2 rfl (by decide) _ _ _ rfl ((owns_below (HO.out.1.alloc _) hb1).alloc _) ⟨w1.heap.size, 0, none⟩ 1 1 [.slice ca q1.length cc] rfl rfl (news1 _ _ _ _ rfl) (one1s _ _ _) ?c3 ?c4 ?c5 ?_))
      case c3 => unfold maxLen; omega
      case c4 => omega
      case c5 => have := hb1.size; simp at this ⊢; omega
      intro v' w5 hown' hgrow _
      obtain ⟨p1, p2, p3, p4⟩ := HO.out
      have hb05 : Below W0.heap.size W0 w5 := ((bel_then (bel_box p3 _) hb1).alloc (by omega) _).grown hgrow (by simp; omega) (fun q hq => (p1.lt q hq).1)
      have hH5 : HeadsIs w (us ++ [.slice ca q1.length cc]) ((ts.take (k + 1)).map (·.1)) := by
        rw [HM.out]
        exact p2.snoc HCO.out
      have HF := Hid.mk (And.intro hown' (And.intro hH5 hb05))
      clear hown' hgrow hb05 hc1 hf1 p1 p2 p3 p4 hH5
      go_wp2
      go_roundw
      case rel => exact ⟨k + 1, _, by omega, by go_num, HF.out.1, HF.out.2.1, HF.out.2.2⟩
      case measure => simp [intOf]; omega
    · have hke : k = ts.length := by omega
      subst hke
      simp only [List.take_length] at hheads
      obtain ⟨g, cap, hve, hgb⟩ := heads_at (css := ts.map (·.1)) (by simpa using hown) (by simpa using hl0)
      simp only [List.length_map, Value.slice.injEq, true_and] at hve
      obtain ⟨rfl, rfl⟩ := hve
      have HC := Hid.mk (HCOLS.out wr W0.heap.size g lc us hnx hown (hheads.below hnx))
      have hJ := HJ.out.1.below hn0 hs0
      have j0 : wr.cell? ⟨w.heap.size, 0, none⟩ = some (.int .i64 j.at_) := hJ 0 _ rfl
      have j1 : wr.cell? ⟨w.heap.size, 1, none⟩ = some (.int .i64 j.code) := hJ 1 _ rfl
      have j2 : wr.cell? ⟨w.heap.size, 2, none⟩ = some j.outs := hJ 2 _ rfl
      have j3 : wr.cell? ⟨w.heap.size, 3, none⟩ = some j.ins := hJ 3 _ rfl
      have j4 : wr.cell? ⟨w.heap.size, 4, none⟩ = some j.cols := hJ 4 _ rfl
      have j5 : wr.cell? ⟨w.heap.size, 5, none⟩ = some (.string j.op) := hJ 5 _ rfl
      have j6 : wr.cell? ⟨w.heap.size, 6, none⟩ = some (.string j.left.1) := hJ 6 _ rfl
      have j7 : wr.cell? ⟨w.heap.size, 7, none⟩ = some (.int .i64 j.left.2.1) := hJ 7 _ rfl
      have j8 : wr.cell? ⟨w.heap.size, 8, none⟩ = some (.int .i64 j.left.2.2.1) := hJ 8 _ rfl
      have j9 : wr.cell? ⟨w.heap.size, 9, none⟩ = some (.string j.left.2.2.2) := hJ 9 _ rfl
      have j10 : wr.cell? ⟨w.heap.size, 10, none⟩ = some (.string j.right.1) := hJ 10 _ rfl
      have j11 : wr.cell? ⟨w.heap.size, 11, none⟩ = some (.int .i64 j.right.2.1) := hJ 11 _ rfl
      have j12 : wr.cell? ⟨w.heap.size, 12, none⟩ = some (.int .i64 j.right.2.2.1) := hJ 12 _ rfl
      have j13 : wr.cell? ⟨w.heap.size, 13, none⟩ = some (.string j.right.2.2.2) := hJ 13 _ rfl
      have j14 : wr.cell? ⟨w.heap.size, 14, none⟩ = some (.int .i64 j.retry) := hJ 14 _ rfl
      have HJW := Hid.mk hJ
      have hjl := hJ.lt
      clear hJ hown hheads hnx hn0 HCOLS
      go_wp2_with (go_at_call 11; refine HC.out.mono ?_; rintro e w2 ⟨vv, uu, rfl, ho2, hh2, hb2⟩; obtain ⟨vva, vvc, rfl⟩ := own_slice ho2; have k0 := ((HJW.out.below hb2 hjl) 0 (.int .i64 j.at_) rfl); have k1 := ((HJW.out.below hb2 hjl) 1 (.int .i64 j.code) rfl); have k2 := ((HJW.out.below hb2 hjl) 2 j.outs rfl); have k3 := ((HJW.out.below hb2 hjl) 3 j.ins rfl); have k4 := ((HJW.out.below hb2 hjl) 4 j.cols rfl); have k5 := ((HJW.out.below hb2 hjl) 5 (.string j.op) rfl); have k6 := ((HJW.out.below hb2 hjl) 6 (.string j.left.1) rfl); have k7 := ((HJW.out.below hb2 hjl) 7 (.int .i64 j.left.2.1) rfl); have k8 := ((HJW.out.below hb2 hjl) 8 (.int .i64 j.left.2.2.1) rfl); have k9 := ((HJW.out.below hb2 hjl) 9 (.string j.left.2.2.2) rfl); have k10 := ((HJW.out.below hb2 hjl) 10 (.string j.right.1) rfl); have k11 := ((HJW.out.below hb2 hjl) 11 (.int .i64 j.right.2.1) rfl); have k12 := ((HJW.out.below hb2 hjl) 12 (.int .i64 j.right.2.2.1) rfl); have k13 := ((HJW.out.below hb2 hjl) 13 (.string j.right.2.2.2) rfl); have k14 := ((HJW.out.below hb2 hjl) 14 (.int .i64 j.retry) rfl))
      have hb02 := bel_then HO.out.2.2.2 hb2
      have HR2 := Hid.mk (HROWS.out w2 hb02)
      refine HR2.out.mono ?_
      rintro e w3 ⟨x1, x2, us1, us2, rfl, o1, o2, o3, o4, hb3⟩
      obtain ⟨x1a, x1c, rfl⟩ := own_slice o1
      obtain ⟨x2a, x2c, rfl⟩ := own_slice o3
      have hb03 := bel_then hb02 hb3
      have HZ := Hid.mk hb03
      clear j0 j1 j2 j3 j4 j5 j6 j7 j8 j9 j10 j11 j12 j13 j14 k0 k1 k2 k3 k4 k5 k6 k7 k8 k9 k10 k11 k12 k13 k14 HR2 HROWS
      have hz4 : (60 : Int) < (rs1.length : Int) := by omega
      go_wp2
      go_ret2
      exact ⟨rfl, HZ.out⟩
end Go.Proofs.YtjceppinfjbegaaGreatDoor

