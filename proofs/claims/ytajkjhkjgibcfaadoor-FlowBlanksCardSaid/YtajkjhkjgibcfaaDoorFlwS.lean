import Derived.Test.YtajkjhkjgibcfaaDoorFlwR
set_option linter.unusedSimpArgs false
set_option linter.unusedVariables false
namespace Go.Proofs.YtajkjhkjgibcfaaDoor
open Go.RowKit

/-- Columns that can be read. -/
def ColsR (w : World) (v : Value) (xs : List (By × Int)) : Prop := (v = .slice none 0 0 ∧ xs = []) ∨ ∃ b o c, v = .slice (some ⟨b, o, none⟩) xs.length c ∧ xs.length ≤ c ∧ b < w.heap.size ∧ ∀ (j : Nat) (h : j < xs.length), w.cell? ⟨b, o + j * 2, none⟩ = some (.string (ba xs[j].1)) ∧ w.cell? ⟨b, o + j * 2 + 1, none⟩ = some (.int .i64 xs[j].2)
theorem ColsR.below {w w' : World} {v : Value} {xs : List (By × Int)} (h : ColsR w v xs) (hb : Below w.heap.size w w') : ColsR w' v xs := by
  rcases h with h | ⟨b, o, c, hv, hc, hl, hx⟩
  · exact Or.inl h
  · exact Or.inr ⟨b, o, c, hv, hc, Nat.lt_of_lt_of_le hl hb.size, fun j hj => ⟨(hb.cell (p := ⟨b, o + j * 2, none⟩) hl).trans (hx j hj).1, (hb.cell (p := ⟨b, o + j * 2 + 1, none⟩) hl).trans (hx j hj).2⟩⟩
theorem colV_len (l : List (By × Int)) : (colV l).length = l.length * 2 := by
  induction l with
  | nil => rfl
  | cons a r ih => rw [show colV (a :: r) = [.string (ba a.1), .int .i64 a.2] ++ colV r from rfl, List.length_append, ih, List.length_cons]; simp; omega
theorem colV_at : ∀ (l : List (By × Int)) (j : Nat) (h : j < l.length), (colV l)[j * 2]? = some (.string (ba l[j].1)) ∧ (colV l)[j * 2 + 1]? = some (.int .i64 l[j].2)
  | [], j, h => absurd h (by simp)
  | a :: r, 0, h => ⟨rfl, rfl⟩
  | a :: r, j + 1, h => by
    have ih := colV_at r j (by simpa using h)
    have e : colV (a :: r) = .string (ba a.1) :: .int .i64 a.2 :: colV r := rfl
    rw [e, show (j + 1) * 2 = j * 2 + 1 + 1 by omega, show j * 2 + 1 + 1 + 1 = (j * 2 + 1) + 1 + 1 by omega]
    simpa using ih
theorem ColsR.of {w : World} {B : Nat} {v : Value} {xs : List (By × Int)} (h : encCs B xs v w) : ColsR w v xs := by
  have h0 : w.ownsRow B 83 2 v xs.length (colV xs) := h
  obtain ⟨-, ⟨hv, hn0⟩ | ⟨g, cap, cur, hve, hgB, -, hcap, hm, -, -⟩⟩ := (show w.ownsRow B 83 2 v xs.length (colV xs) from h)
  · exact Or.inl ⟨by rw [hv], List.eq_nil_of_length_eq_zero hn0⟩
  · subst hve
    refine Or.inr ⟨g, 0, cap, rfl, hcap, (h0.lt g rfl).2, fun j hj => ?_⟩
    have hc := colV_at xs j hj
    exact ⟨by rw [Nat.zero_add, h0.cellAt _ (by omega), hc.1], by rw [Nat.zero_add, h0.cellAt _ (by omega), hc.2]⟩
def ColOK (c : By × Int) : Prop := c.1.length ≤ 900 ∧ (c.2 = 1 ∨ c.2 = 2)
theorem kindW_len (k : Int) : (kindW k).length ≤ 4 := by unfold kindW; split <;> decide
theorem colL_len {c : By × Int} (h : ColOK c) : (colL c).length ≤ 1000 := by
  have := kindW_len c.2
  have := h.1
  simp only [colL, List.length_append, List.length_cons, List.length_nil]
  omega
theorem FEnv.kindAt {w : World} (h : FEnv w) {k : Int} (hk : k = 1 ∨ k = 2) : w.cell? ⟨0, k.toNat, none⟩ = some (.string (ba (kindW k))) := by
  rcases hk with rfl | rfl
  · exact h.kd 1 (by decide)
  · exact h.kd 2 (by decide)
set_option maxRecDepth 100000 in
set_option maxHeartbeats 1600000 in
theorem columnsw_any (v : Value) (r : List (By × Int)) (w : World) (h : ColsR w v r) (h6 : r.length ≤ 1000) (hv : ∀ x ∈ r, ColOK x) (hE : FEnv w) :
    Calls Tryd.prog 13 #[v] w fun e w' => e = .returned (.string (ba (colsL r))) ∧ Below w.heap.size w w' := by
  obtain ⟨i0, hi, hz0, hz1, hz2⟩ := info_parts Tryd.infoStr
  obtain ⟨a, c, rfl⟩ : ∃ a c, v = .slice a r.length c := by
    rcases h with ⟨rfl, rfl⟩ | ⟨b, o, c, rfl, -⟩
    · exact ⟨_, _, rfl⟩
    · exact ⟨_, _, rfl⟩
  have HV := Hid.mk (And.intro h (And.intro hv hE))
  clear h hv hE
  go_enter Tryd.func13, Tryd.ntmps13
  go_wp2
  go_loopw [3, 9] (fun l i wr => ∃ k : Nat, k ≤ r.length ∧ i = .int .i64 k ∧ wr.ownsRow w.heap.size 9 1 l k (strV ((r.take k).map colL)) ∧ Below w.heap.size w wr) (fun _ i _ => r.length - (intOf i).toNat)
  case atStart => exact ⟨0, Nat.zero_le _, rfl, World.ownsRow_nil _ _ _ _, Below.refl _ _⟩
  case round =>
    obtain ⟨k, hk, rfl, hown, hnx⟩ := hrel
    obtain ⟨la, lc, rfl⟩ := own_slice hown
    have HX := Hid.mk (And.intro hown hnx)
    have hws := hnx.size
    by_cases hlt : k < r.length
    · obtain ⟨hr, hv, hE⟩ := HV.out
      rcases hr with ⟨-, e0⟩ | ⟨b, o, c', e0, hcap, hb, hcell⟩
      · rw [e0] at hlt; exact absurd hlt (by simp)
      simp only [Value.slice.injEq, true_and] at e0
      obtain ⟨rfl, rfl⟩ := e0
      obtain ⟨e0, e1⟩ := hcell k hlt
      have d0 := (hnx.cell (p := ⟨b, o + k * 2, none⟩) hb).trans e0
      have d1 := (hnx.cell (p := ⟨b, o + k * 2 + 1, none⟩) hb).trans e1
      have hx := hv _ (List.getElem_mem hlt)
      have hxl := hx.1
      have hkd := (hE.belowW hnx).kindAt hx.2
      have hkl := (hE.belowW hnx).size 0 (by decide)
      have hx2 := hx.2
      have HT := Hid.mk (show strV ((r.take k).map colL) ++ [.string (ba (colL r[k]))] = strV ((r.take (k + 1)).map colL) by rw [List.take_succ_eq_append_getElem hlt, List.map_append]; unfold strV; rw [List.map_append]; rfl)
      rw [show ba (colL r[k]) = ba r[k].1 ++ ⟨#[32]⟩ ++ ba (kindW r[k].2) from baX (by simp [colL])] at HT
      have hkw : (ba (kindW r[k].2)).size ≤ 4 := by rw [ba_size]; exact kindW_len _
      rw [← ba_size] at hxl
      generalize ba (kindW r[k].2) = kw at *
      generalize ba r[k].1 = nm at *
      generalize r[k].2 = kd at *
      clear hown hnx hcell hv hE e0 e1 hx
      rcases hx2 with rfl | rfl
      · replace hkd : wr.cell? ⟨0, 1, none⟩ = some (.string kw) := hkd
        go_wp2_with (at_builtin; refine wpList_append_own _ rfl _ _ 55 rfl w.heap.size 9 i0 (.string ⟨#[]⟩) 1 16 Tryd.underlying55 hi hz0 hz1 hz2 rfl (by decide) _ _ _ rfl ((HX.out.1.alloc _).alloc _) ⟨wr.heap.size + 1, 0, none⟩ 1 1 [.string (nm ++ ⟨#[32]⟩ ++ kw)] rfl rfl (news1 _ _ _ _ (by simp)) (one1t _) ?c3 ?c4 ?c5 ?_)
        case c3 => unfold maxLen; omega
        case c4 => omega
        case c5 => simp; omega
        intro v' w5 hown' hgrow _
        have hbl5 : Below w.heap.size w w5 := ((bel_box HX.out.2 _).alloc (by simp; omega) _).grown hgrow (by simp; omega) (fun q hq => (HX.out.1.lt q hq).1)
        rw [← List.map_take, HT.out] at hown'
        have HF := Hid.mk (And.intro hown' hbl5)
        clear hown' hgrow hbl5
        go_wp2
        go_roundw
        case rel => exact ⟨k + 1, by omega, by go_num, HF.out.1, HF.out.2⟩
        case measure => simp [intOf]; omega
      · replace hkd : wr.cell? ⟨0, 2, none⟩ = some (.string kw) := hkd
        go_wp2_with (at_builtin; refine wpList_append_own _ rfl _ _ 55 rfl w.heap.size 9 i0 (.string ⟨#[]⟩) 1 16 Tryd.underlying55 hi hz0 hz1 hz2 rfl (by decide) _ _ _ rfl ((HX.out.1.alloc _).alloc _) ⟨wr.heap.size + 1, 0, none⟩ 1 1 [.string (nm ++ ⟨#[32]⟩ ++ kw)] rfl rfl (news1 _ _ _ _ (by simp)) (one1t _) ?c3 ?c4 ?c5 ?_)
        case c3 => unfold maxLen; omega
        case c4 => omega
        case c5 => simp; omega
        intro v' w5 hown' hgrow _
        have hbl5 : Below w.heap.size w w5 := ((bel_box HX.out.2 _).alloc (by simp; omega) _).grown hgrow (by simp; omega) (fun q hq => (HX.out.1.lt q hq).1)
        rw [← List.map_take, HT.out] at hown'
        have HF := Hid.mk (And.intro hown' hbl5)
        clear hown' hgrow hbl5
        go_wp2
        go_roundw
        case rel => exact ⟨k + 1, by omega, by go_num, HF.out.1, HF.out.2⟩
        case measure => simp [intOf]; omega
    · have hke : k = r.length := by omega
      subst hke
      rw [List.take_of_length_le (Nat.le_refl _)] at hown
      have hS : StrsR wr (.slice la r.length lc) (r.map colL) := StrsR.of (B := w.heap.size) (show wr.ownsRow _ _ _ _ _ _ by rw [List.length_map]; exact hown)
      have HJ := Hid.mk (joinW_any _ _ wr hS (by rw [List.length_map]; exact h6) (by
        intro x hx
        rw [List.mem_map] at hx
        obtain ⟨y, hy, rfl⟩ := hx
        exact colL_len (HV.out.2.1 y hy)))
      clear hown hnx hS
      go_wp2_with (go_at_call 14; refine HJ.out.mono ?_; rintro e w1 ⟨rfl, hb1⟩)
      go_ret
      exact ⟨rfl, bel_then HX.out.2 hb1⟩
end Go.Proofs.YtajkjhkjgibcfaaDoor

