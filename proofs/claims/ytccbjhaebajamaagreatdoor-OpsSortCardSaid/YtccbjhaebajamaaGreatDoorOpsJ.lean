import Derived.Test.YtccbjhaebajamaaGreatDoorOpsI
set_option linter.unusedSimpArgs false
set_option linter.unusedVariables false
namespace Go.Proofs.YtccbjhaebajamaaGreatDoor
open Go.RowKit

theorem Tryz.infoTab : (Tryz.prog.info? 25).map (fun i => (i.zero, i.size, i.bytes)) = some (some (.agg #[.slice none 0 0, .slice none 0 0]), 2, 48) := by kernel_rfl
/-- A list of columns that lies anywhere. -/
def HeadsIs (w : World) (us : List Value) (css : List (List Cl)) : Prop := us.length = css.length ∧ ∀ (j : Nat) (h : j < css.length), ∃ u, us[j]? = some u ∧ ColsIs w u css[j]
theorem HeadsIs.below {w w' : World} {us : List Value} {css : List (List Cl)} (h : HeadsIs w us css) (hb : Below w.heap.size w w') : HeadsIs w' us css :=
  ⟨h.1, fun j hj => by obtain ⟨u, h1, h2⟩ := h.2 j hj; exact ⟨u, h1, h2.below hb⟩⟩
theorem HeadsIs.snoc {w : World} {us : List Value} {css : List (List Cl)} {u : Value} {cs : List Cl} (h : HeadsIs w us css) (hu : ColsIs w u cs) : HeadsIs w (us ++ [u]) (css ++ [cs]) := by
  refine ⟨by simp [h.1], fun j hj => ?_⟩
  by_cases hlt : j < css.length
  · obtain ⟨x, h1, h2⟩ := h.2 j hlt
    refine ⟨x, ?_, ?_⟩
    · rw [List.getElem?_append_left (by rw [h.1]; exact hlt)]; exact h1
    · rw [List.getElem_append_left hlt]; exact h2
  · have hje : j = css.length := by rw [List.length_append] at hj; simp at hj; omega
    subst hje
    refine ⟨u, by rw [← h.1]; simp, ?_⟩
    simp only [List.getElem_append_right (Nat.le_refl _), Nat.sub_self, List.getElem_cons_zero]
    exact hu

set_option maxRecDepth 100000 in
set_option maxHeartbeats 1600000 in
/-- Do: a table may not be. -/
theorem do_arg (tb to_ tcap : Nat) (ts : List Tb) (j : Jb) (w : World) (ht : TabsAt w tb to_ ts) (htb : tb < w.heap.size) (hl : ts.length ≤ 100) (hbad : ∃ t ∈ ts, rightB t.1 t.2 = false) :
    Calls Tryz.prog 32 #[.agg j.cells, .slice (some ⟨tb, to_, none⟩) ts.length tcap] w fun e w' => e = .returned (.tuple #[.slice none 0 0, errV 1]) ∧ Below w.heap.size w w' := by
  obtain ⟨i0, hi, hz0, hz1, hz2⟩ := info_parts Tryz.infoCols
  have HB := Hid.mk hbad
  have HT := Hid.mk ht
  clear hbad ht
  unfold Jb.cells
  go_enter Tryz.func32, Tryz.ntmps32
  go_wp2
  go_loopw [6, 16] (fun l i wr => ∃ (k : Nat) (us : List Value), k ≤ ts.length ∧ i = .int .i64 k ∧ wr.ownsRow (w.heap.size + 1) 22 1 l k us ∧ (∀ q (h : q < ts.length), q < k → rightB ts[q].1 ts[q].2 = true) ∧ Below w.heap.size w wr) (fun _ i _ => ts.length - (intOf i).toNat)
  case atStart => exact ⟨0, [], Nat.zero_le _, rfl, World.ownsRow_nil _ _ _ _, fun q _ h => absurd h (by omega), below_box _ _⟩
  case round =>
    obtain ⟨k, us, hk, rfl, hown, hall, hnx⟩ := hrel
    obtain ⟨la, lc, rfl⟩ := own_slice hown
    have hws := hnx.size
    have HO := Hid.mk (And.intro hown (And.intro hall hnx))
    by_cases hlt : k < ts.length
    · obtain ⟨vc, vr, c0, c1, hc, hr⟩ := HT.out k hlt
      have d0 := (hnx.cell (p := ⟨tb, to_ + k * 2, none⟩) htb).trans c0
      have d1 := (hnx.cell (p := ⟨tb, to_ + k * 2 + 1, none⟩) htb).trans c1
      have hRT := fun W (hW : Below wr.heap.size wr W) => right_any vc vr ts[k].1 ts[k].2 W ((hc.below hnx).below hW) ((hr.below hnx).below hW)
      obtain ⟨ca, cc, rfl, -⟩ := hc
      obtain ⟨ra, rc, rfl, -⟩ := hr
      cases g : rightB ts[k].1 ts[k].2
      · simp only [g] at hRT
        have HRT := Hid.mk hRT
        clear hRT c0 c1 hown hall hnx g
        go_wp2_with (go_at_call 10; refine (HRT.out _ (below_box _ _)).mono ?_; rintro e w1 ⟨rfl, hb1⟩)
        go_ret2
        exact ⟨rfl, bel_then (bel_box HO.out.2.2 _) hb1⟩
      · simp only [g] at hRT
        have HRT := Hid.mk hRT
        have HG := Hid.mk g
        clear hRT c0 c1 hown hall hnx g
        generalize hn1 : ts[k].1.length = n1 at *
        generalize hn2 : ts[k].2.length = n2 at *
        clear hn1 hn2
        go_wp2_with (first | (go_at_call 10; refine (HRT.out _ (below_box _ _)).mono ?_; rintro e w1 ⟨rfl, hb1⟩; obtain ⟨hc1, hf1⟩ := bcell hb1; have hzz1 : wr.heap.size < w1.heap.size := by (have := hb1.size; simp at this; omega)) | (at_builtin; refine wpList_append_own _ rfl _ _ 83 rfl (w.heap.size + 1) 22 i0 (.slice none 0 0) 1 24 Tryz.underlying83 hi hz0 hz1 hz2 rfl (by decide) _ _ _ rfl ((owns_below (HO.out.1.alloc _) hb1).alloc _) ⟨w1.heap.size, 0, none⟩ 1 1 [.slice ca n1 cc] rfl rfl (news1 _ _ _ _ rfl) (one1s _ _ _) ?c3 ?c4 ?c5 ?_))
        case c3 => unfold maxLen; omega
        case c4 => omega
        case c5 => have := hb1.size; simp at this ⊢; omega
        intro v' w5 hown' hgrow _
        obtain ⟨p1, p2, p3⟩ := HO.out
        have hbl5 : Below w.heap.size w w5 := ((bel_then (bel_box p3 _) hb1).alloc (by omega) _).grown hgrow (by simp; omega) (fun q hq => by have := (p1.lt q hq).1; omega)
        have HF := Hid.mk (And.intro hown' hbl5)
        clear hown' hgrow hbl5 hc1 hf1 p1 p2 p3
        go_wp2
        go_roundw
        case rel =>
          refine ⟨k + 1, _, by omega, by go_num, HF.out.1, fun q h hq => ?_, HF.out.2⟩
          rcases Nat.lt_or_ge q k with hqk | hqk
          · exact HO.out.2.1 q h hqk
          · obtain rfl : q = k := by omega
            exact HG.out
        case measure => simp [intOf]; omega
    · exfalso
      obtain ⟨t, ht, hf⟩ := HB.out
      obtain ⟨q, hq, rfl⟩ := List.mem_iff_getElem.1 ht
      have := hall q hq (by omega)
      rw [this] at hf
      cases hf
end Go.Proofs.YtccbjhaebajamaaGreatDoor
