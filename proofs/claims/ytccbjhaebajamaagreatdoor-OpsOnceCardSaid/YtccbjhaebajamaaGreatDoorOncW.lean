import Derived.Test.YtccbjhaebajamaaGreatDoorOncN
set_option linter.unusedSimpArgs false
set_option linter.unusedVariables false
namespace Go.Proofs.YtccbjhaebajamaaGreatDoor
open Go.RowKit

/-- What stays in place all along. -/
def Sto (w W : World) (vc vr : Value) : Prop := W.cell? ⟨w.heap.size, 0, none⟩ = some vc ∧ W.cell? ⟨w.heap.size, 1, none⟩ = some vr ∧ w.heap.size < W.heap.size ∧ Below w.heap.size w W
theorem Sto.below {w W W' : World} {vc vr : Value} (h : Sto w W vc vr) (hb : Below W.heap.size W W') : Sto w W' vc vr := by
  obtain ⟨c0, c1, z, h3⟩ := h
  have hs := hb.size
  exact ⟨(hb.cell (p := ⟨w.heap.size, 0, none⟩) z).trans c0, (hb.cell (p := ⟨w.heap.size, 1, none⟩) z).trans c1, by omega, bel_then h3 hb⟩
def jDist : Jb := ⟨0, 6, .slice none 0 0, .slice none 0 0, .slice none 0 0, ⟨#[]⟩, (⟨#[]⟩, 0, 0, ⟨#[]⟩), (⟨#[]⟩, 0, 0, ⟨#[]⟩), 0⟩
def nmCells (q : List Cl) : List Value := (q.map (·.1)).map Value.string
theorem names_of {w : World} {B : Nat} {l : Value} {cs : List Cl} (h : w.ownsRow B 9 1 l cs.length (nmCells cs)) (h0 : 0 < cs.length) (h6 : cs.length ≤ 100) : StrsC w l (cs.map (·.1)) := by
  have hown0 := h
  obtain ⟨-, ⟨-, hn0⟩ | ⟨g, cap, cur, hve, hgB, -, hcap, hm, -, -⟩⟩ := h
  · omega
  have hgl := (hown0.lt g (by rw [hve]; rfl)).2
  refine ⟨some ⟨g, 0, none⟩, cap, by rw [hve]; simp, by rw [List.length_map]; exact hcap, by rw [List.length_map]; unfold maxLen; omega, Or.inr ⟨g, 0, rfl, hgl, fun j hj => ?_⟩⟩
  have hj' : j < cs.length := by simpa using hj
  subst hve
  rw [show 0 + j = j by omega, hown0.cellAt j (by omega)]
  unfold nmCells
  rw [List.getElem?_map, List.getElem?_eq_getElem hj]; rfl
theorem dist_0 {cs : List Cl} {rs : List (List Vl)} : distNo (cs, rs) = 0 ↔ rightB cs rs = true := by
  unfold distNo
  cases h : rightB cs rs <;> simp [h]
theorem uni_no {cs : List Cl} {rs : List (List Vl)} (hr : rightB cs rs = true) (h : ¬ uniNo (cs, rs) (cs, rs) = 0) : 60 < rs.length + rs.length := by
  unfold uniNo at h
  rw [if_neg (by simp [hr]), if_neg (by simp)] at h
  by_cases h' : 60 < rs.length + rs.length
  · exact h'
  · rw [if_neg h'] at h; exact absurd rfl h

set_option maxRecDepth 100000 in
set_option maxHeartbeats 6400000 in
theorem once_bad (vc vr : Value) (cs : List Cl) (rs : List (List Vl)) (w : World) (hc : ColsIs w vc cs) (hr : RowsIs w vr rs) (hE : Env w) (hRR : rightB cs rs = false) :
    Calls Tryz.prog 3 #[.agg #[vc, vr]] w fun e w' => e = .returned (.bool true) ∧ Below w.heap.size w w' := by
  have HS1 := Hid.mk (fun W (hW : Below w.heap.size w W) => small_any vc vr cs rs W (hc.below hW) (hr.below hW))
  have HDN := Hid.mk (fun W (hW : Below w.heap.size w W) => done_any W (hE.below hW))
  have HRT := Hid.mk (fun W (hW : Below w.heap.size w W) => right_any vc vr cs rs W (hc.below hW) (hr.below hW))
  have hD' := fun (xc xr : Value) (ds : List Cl) (qs : List (List Vl)) (W : World) (H : Nat) (hW : Below w.heap.size w W) (hH : W.heap.size = H) (h1 : ColsIs W xc ds) (h2 : RowsIs W xr qs) => one_dist jDist xc xr ds qs W H hH h1 h2 rfl (hE.below hW)
  have hP' := fun (cv xc xr : Value) (ds : List Cl) (qs : List (List Vl)) (ss : List ByteArray) (W : World) (H : Nat) (hH : W.heap.size = H) (h1 : ColsIs W xc ds) (h2 : RowsIs W xr qs) (h3 : StrsC W cv ss) => one_proj (jPick cv) ss xc xr ds qs W H hH h1 h2 rfl h3
  have HU := Hid.mk one_uni
  have HCR := Hid.mk (And.intro hc hr)
  have HRR := Hid.mk hRR
  clear hRR
  obtain ⟨va, vcp, rfl, -⟩ := hc
  obtain ⟨ra, rcp, rfl, -⟩ := hr
  unfold jU Jb.cells at HU
  have HD : Hid (∀ (xc xr : Value) (ds : List Cl) (qs : List (List Vl)) (W : World) (H : Nat), Below w.heap.size w W → W.heap.size = H → ColsIs W xc ds → RowsIs W xr qs → Calls Tryz.prog 9 #[.agg #[.int .i64 0, .int .i64 6, .slice none 0 0, .slice none 0 0, .slice none 0 0, .string ⟨#[]⟩, .string ⟨#[]⟩, .int .i64 0, .int .i64 0, .string ⟨#[]⟩, .string ⟨#[]⟩, .int .i64 0, .int .i64 0, .string ⟨#[]⟩, .int .i64 0], .slice (some ⟨H, 0, none⟩) 1 1] (W.alloc (.cells #[xc, xr] 25)) fun e w' => OneRes e w' W.heap.size (distNo (ds, qs) = 0) (ds, (distF qs).2) ∧ Below (W.alloc (.cells #[xc, xr] 25)).heap.size (W.alloc (.cells #[xc, xr] 25)) w') := Hid.mk hD'
  have HPJ : Hid (∀ (cv xc xr : Value) (ds : List Cl) (qs : List (List Vl)) (ss : List ByteArray) (W : World) (H : Nat), W.heap.size = H → ColsIs W xc ds → RowsIs W xr qs → StrsC W cv ss → Calls Tryz.prog 9 #[.agg #[.int .i64 0, .int .i64 3, .slice none 0 0, .slice none 0 0, cv, .string ⟨#[]⟩, .string ⟨#[]⟩, .int .i64 0, .int .i64 0, .string ⟨#[]⟩, .string ⟨#[]⟩, .int .i64 0, .int .i64 0, .string ⟨#[]⟩, .int .i64 0], .slice (some ⟨H, 0, none⟩) 1 1] (W.alloc (.cells #[xc, xr] 25)) fun e w' => OneRes e w' W.heap.size (projNo (ds, qs) ss = 0) (pickC (placesN ds ss) ds, qs.map (pickV (placesN ds ss))) ∧ Below (W.alloc (.cells #[xc, xr] 25)).heap.size (W.alloc (.cells #[xc, xr] 25)) w') := Hid.mk hP'
  clear hD' hP'
  obtain ⟨DRV, hDRV⟩ : ∃ z, (distF rs).2 = z := ⟨_, rfl⟩
  obtain ⟨URV, hURV⟩ : ∃ z, rs ++ rs = z := ⟨_, rfl⟩
  have HDRV := Hid.mk hDRV
  have HURV := Hid.mk hURV
  clear hDRV hURV hE
  go_enter Tryz.func3, Tryz.ntmps3
  go_wp2_with fail
  refine (HS1.out _ (below_box _ _)).mono ?_
  rintro e w1 ⟨rfl, hb1⟩
  have hs1 : Sto w w1 (.slice va cs.length vcp) (.slice ra rs.length rcp) := ⟨(hb1.cell (p := ⟨w.heap.size, 0, none⟩) (by simp)).trans (by rw [World.cell?_alloc_at _ _ _ _ rfl]; rfl), (hb1.cell (p := ⟨w.heap.size, 1, none⟩) (by simp)).trans (by rw [World.cell?_alloc_at _ _ _ _ rfl]; rfl), by have := hb1.size; simp at this; omega, bel_then (below_box _ _) hb1⟩
  have ST1 := Hid.mk hs1
  clear hb1 hs1
  generalize smallB cs rs = g1 at *
  cases g1
  · go_wp2
    go_ret
    exact ⟨rfl, ST1.out.2.2.2⟩
  · go_wp2_with (go_at_call 8; fail)
    refine (HDN.out _ ST1.out.2.2.2).mono ?_
    rintro e w4 ⟨rfl, hb4⟩
    have ST4 := Hid.mk (ST1.out.below hb4)
    have k0 := ST4.out.1
    have k1 := ST4.out.2.1
    clear hb4 HDN HS1 ST1
    go_wp2_with (go_at_call 9; fail)
    clear k0 k1
    refine (HD.out _ _ cs rs w4 _ ST4.out.2.2.2 rfl (HCR.out.1.below ST4.out.2.2.2) (HCR.out.2.below ST4.out.2.2.2)).mono ?_
    rintro e w5 ⟨hres, HB⟩
    have hxo : ∀ o, Below w4.heap.size w4 (w5.alloc o) := fun o => bel_box (bel_then (below_box _ _) HB) o
    have g0 : ∀ o, (w5.alloc o).cell? ⟨w.heap.size, 0, none⟩ = some (.slice va cs.length vcp) := fun o => (ST4.out.below (hxo o)).1
    have g1 : ∀ o, (w5.alloc o).cell? ⟨w.heap.size, 1, none⟩ = some (.slice ra rs.length rcp) := fun o => (ST4.out.below (hxo o)).2.1
    rcases hres with ⟨hok, x5, y5, rfl, hcn, hrn⟩ | ⟨hno, rfl⟩
    · exact absurd (dist_0.1 hok) (by rw [HRR.out]; decide)
    · go_wp2_with (go_at_call 10; fail)
      refine (HRT.out _ (ST4.out.below (hxo _)).2.2.2).mono ?_
      rintro e w6 ⟨rfl, hb6⟩
      rw [HRR.out]
      have HB6 := Hid.mk (bel_then (ST4.out.below (hxo (.cells #[.slice none 0 0, .slice none 0 0] 25))).2.2.2 hb6)
      clear hb6 hxo g0 g1
      go_wp2
      go_ret
      exact ⟨rfl, HB6.out⟩
end Go.Proofs.YtccbjhaebajamaaGreatDoor
