import Derived.Test.YtlpomofaeeaneaaGreatDoorSetA
set_option linter.unusedSimpArgs false
set_option linter.unusedVariables false
namespace Go.Proofs.YtlpomofaeeaneaaGreatDoor
open Go.RowKit

theorem apart_new {w w1 : World} {B B' : Nat} {u v : Value} {e e' : TypeId} {z z' k k' : Nat} {xs ys : List Value} (hu : w.ownsRow B e z u k xs) (hv : w1.ownsRow B' e' z' v k' ys) (hB : w.heap.size ≤ B') : Apart u v := by
  intro b h1 h2
  have := (hu.lt b h1).2
  have := (hv.lt b h2).1
  omega
theorem apart_snoc {w w1 : World} {B B' : Nat} {us : List Value} {rs : List (List Vl)} {u : Value} {e' : TypeId} {z' k' : Nat} {ys : List Value} (h : us.Pairwise Apart) (hH : HeldRows w B us rs) (hv : w1.ownsRow B' e' z' u k' ys) (hB : w.heap.size ≤ B') : (us ++ [u]).Pairwise Apart := by
  rw [List.pairwise_append]
  refine ⟨h, List.pairwise_singleton _ _, fun a ha b hb => ?_⟩
  simp at hb
  subst hb
  obtain ⟨j, hj, rfl⟩ := List.mem_iff_getElem.1 ha
  exact apart_new (hH.2 j hj (by rw [← hH.1]; exact hj)).1 hv hB

set_option maxRecDepth 100000 in
set_option maxHeartbeats 1600000 in
/-- copied: no two rows lie in one place. -/
theorem copied_apart (v : Value) (rs : List (List Vl)) (m : Nat) (w : World) (hr : RowsIs w v rs) (hl : ∀ r ∈ rs, r.length = m) (h1 : 1 ≤ m) (h6 : m ≤ 100) (h60 : rs.length ≤ 100) :
    Calls Tryz.prog 64 #[v] w fun e w' => ∃ v' us, e = .returned v' ∧ w'.ownsRow w.heap.size 50 1 v' rs.length us ∧ HeldRows w' w.heap.size us rs ∧ us.Pairwise Apart ∧ Below w.heap.size w w' := by
  obtain ⟨i0, hi, hz0, hz1, hz2⟩ := info_parts Tryz.infoRow
  have HR := Hid.mk hr
  have HL := Hid.mk hl
  clear hl
  obtain ⟨va, vcp, rfl, -⟩ := hr
  go_enter Tryz.func64, Tryz.ntmps64
  go_wp2
  go_loopw [3, 8] (fun l i wr => ∃ (k : Nat) (us : List Value), k ≤ rs.length ∧ i = .int .i64 k ∧ wr.ownsRow w.heap.size 50 1 l k us ∧ HeldRows wr w.heap.size us (rs.take k) ∧ us.Pairwise Apart ∧ Below w.heap.size w wr) (fun _ i _ => rs.length - (intOf i).toNat)
  case atStart => exact ⟨0, [], Nat.zero_le _, rfl, World.ownsRow_nil _ _ _ _, HeldRows.nil _ _, List.Pairwise.nil, Below.refl _ _⟩
  case round =>
    obtain ⟨k, us, hk, rfl, hown, hheld, hpw, hnx⟩ := hrel
    obtain ⟨la, lc, rfl⟩ := own_slice hown
    have HO := Hid.mk (And.intro hown (And.intro hheld hpw))
    have HX := Hid.mk hnx
    have hws := hnx.size
    by_cases hlt : k < rs.length
    · obtain ⟨b, o, c, hve, hbl, hat⟩ := rows_at HR.out (by omega)
      simp only [Value.slice.injEq, true_and] at hve
      obtain ⟨rfl, rfl⟩ := hve
      obtain ⟨u, hu, hru⟩ := hat k hlt
      have cu := (hnx.cell (p := ⟨b, o + k, none⟩) hbl).trans hu
      have hrw := hru.below hnx
      obtain ⟨ua, uc, rfl⟩ := row_slice hru
      have hrl := HL.out _ (List.getElem_mem hlt)
      have hCL := cloneVal_any _ _ wr hrw (by omega) (by omega)
      have hsz : ∀ x ∈ rs[k], x.2.2.size ≤ maxLen := by obtain ⟨_, _, _, hs, _⟩ := hru; exact hs
      have HC := Hid.mk hCL
      have HS := Hid.mk (And.intro hsz hrl)
      clear hCL hat hu hru hrw hnx hown hheld hsz hrl hpw
      generalize hrk : rs[k] = rk at *
      have HRK := Hid.mk hrk
      clear hrk
      go_wp2_with (first | (go_at_call 98; refine HC.out.mono ?_; rintro e w1 ⟨v1, rfl, ho1, hb1⟩; obtain ⟨v1a, v1c, rfl⟩ := own_slice ho1) | (at_builtin; refine wpList_append_own _ rfl _ _ 23 rfl w.heap.size 50 i0 (.slice none 0 0) 1 24 Tryz.underlying23 hi hz0 hz1 hz2 rfl (by decide) _ _ _ rfl ((owns_below HO.out.1 hb1).alloc _) ⟨w1.heap.size, 0, none⟩ 1 1 [.slice v1a rk.length v1c] rfl rfl (news1 _ _ _ _ rfl) (one1s _ _ _) ?c3 ?c4 ?c5 ?_))
      case c3 => unfold maxLen; omega
      case c4 => omega
      case c5 => have := hb1.size; simp; omega
      intro v' w5 hown' hgrow _
      have hs1 := hb1.size
      have hbl5 : Below w.heap.size w w5 := ((bel_then HX.out hb1).alloc (by omega) _).grown hgrow (by simp; omega) (fun q hq => (HO.out.1.lt q hq).1)
      have hO1 := ((owns_below HO.out.1 hb1).alloc (.cells #[.slice v1a rk.length v1c] 50))
      have hH5 := ((HO.out.2.1.below hb1).below (below_box w1 (.cells #[.slice v1a rk.length v1c] 50))).grow hO1 hgrow
      have hu5 := (ho1.alloc (.cells #[.slice v1a rk.length v1c] 50)).kept hgrow (own_ne (by decide) (ho1.alloc _) hO1)
      have hH6 := hH5.snoc (own_mono (by omega) hu5) HS.out.1
      have hP6 := apart_snoc HO.out.2.2 HO.out.2.1 ho1 (Nat.le_refl _)
      rw [show rs.take k ++ [rk] = rs.take (k + 1) by rw [List.take_succ_eq_append_getElem hlt, HRK.out]] at hH6
      have HF := Hid.mk (And.intro hown' (And.intro hH6 (And.intro hP6 hbl5)))
      clear hown' hgrow hH6 hbl5 hH5 hu5 hO1 hP6
      go_wp2
      go_roundw
      case rel => exact ⟨k + 1, _, by omega, by go_num, HF.out.1, HF.out.2.1, HF.out.2.2.1, HF.out.2.2.2⟩
      case measure => simp [intOf]; omega
    · have hke : k = rs.length := by omega
      subst hke
      rw [List.take_of_length_le (Nat.le_refl _)] at hheld
      clear HO
      have HO := Hid.mk (And.intro hown (And.intro hheld hpw))
      clear hown hheld hnx hpw
      go_wp2
      go_ret
      exact ⟨_, us, rfl, HO.out.1, HO.out.2.1, HO.out.2.2, HX.out⟩

theorem valCells_set (r : List Vl) (i : Nat) (x : Vl) : valCells (r.set i x) = (((valCells r).set (i * 3) (.int .i64 x.1)).set (i * 3 + 1) (.int .i64 x.2.1)).set (i * 3 + 2) (.string x.2.2) ∨ ¬ i < r.length := by
  by_cases h : i < r.length
  · left
    induction r generalizing i with
    | nil => simp at h
    | cons a r ih =>
      cases i with
      | zero => simp [valCells]
      | succ i =>
        have h' : i < r.length := by simpa using h
        have e := ih i h'
        simp only [valCells, List.set_cons_succ, List.flatMap_cons] at e ⊢
        rw [e, show (i + 1) * 3 = i * 3 + 3 by omega]
        simp [List.set_cons_succ]
  · exact Or.inr h

/-- A value of a row, put. -/
theorem own_put {w : World} {B g c : Nat} {r : List Vl} (h : w.ownsRow B 32 3 (.slice (some ⟨g, 0, none⟩) r.length c) r.length (valCells r)) (i : Nat) (x : Vl) (hi : i < r.length) :
    (((w.setCell ⟨g, i * 3, none⟩ (.int .i64 x.1)).setCell ⟨g, i * 3 + 1, none⟩ (.int .i64 x.2.1)).setCell ⟨g, i * 3 + 2, none⟩ (.string x.2.2)).ownsRow B 32 3 (.slice (some ⟨g, 0, none⟩) r.length c) r.length (valCells (r.set i x)) := by
  have e := (valCells_set r i x).resolve_right (fun h => h hi)
  rw [e]
  exact (((h.stored _ _).1.stored _ _).1.stored _ _).1
theorem put_other {w : World} {B g n a b c : Nat} {x y z u : Value} {e : TypeId} {s : Nat} {xs : List Value} (h : w.ownsRow B e s u n xs) (hg : u.ownBlock ≠ some g) : (((w.setCell ⟨g, a, none⟩ x).setCell ⟨g, b, none⟩ y).setCell ⟨g, c, none⟩ z).ownsRow B e s u n xs :=
  ownsRow_setCell_other (ownsRow_setCell_other (ownsRow_setCell_other h hg _) hg _) hg _
/-- A value of one of the rows, put. -/
theorem HeldRows.store {w : World} {B g c k : Nat} {us : List Value} {rs : List (List Vl)} (h : HeldRows w B us rs) (hp : us.Pairwise Apart) (hk : k < rs.length) (hu : us[k]? = some (.slice (some ⟨g, 0, none⟩) rs[k].length c)) (i : Nat) (x : Vl) (hi : i < rs[k].length) (hx : x.2.2.size ≤ maxLen) :
    HeldRows (((w.setCell ⟨g, i * 3, none⟩ (.int .i64 x.1)).setCell ⟨g, i * 3 + 1, none⟩ (.int .i64 x.2.1)).setCell ⟨g, i * 3 + 2, none⟩ (.string x.2.2)) B us (rs.set k (rs[k].set i x)) := by
  have hku : k < us.length := by rw [h.1]; exact hk
  rw [List.getElem?_eq_getElem hku] at hu
  injection hu with hu
  refine ⟨by simp [h.1], fun j hj hj' => ?_⟩
  have hjr : j < rs.length := by simpa using hj'
  by_cases e : k = j
  · subst e
    obtain ⟨p1, p2⟩ := h.2 k hj hjr
    simp only [List.getElem_set_self, List.length_set]
    rw [hu] at p1 ⊢
    refine ⟨own_put p1 i x hi, fun y hy => ?_⟩
    rcases List.mem_or_eq_of_mem_set hy with hy | hy
    · exact p2 y hy
    · rw [hy]; exact hx
  · obtain ⟨p1, p2⟩ := h.2 j hj hjr
    simp only [List.getElem_set_ne e]
    refine ⟨put_other p1 ?_, p2⟩
    intro hb
    have hpw := List.pairwise_iff_getElem.1 hp
    have hbk : us[k].ownBlock = some g := by rw [hu]; rfl
    rcases Nat.lt_or_ge k j with hlt | hge
    · exact hpw k j hku hj hlt g hbk hb
    · exact hpw j k hj hku (by omega) g hb hbk
end Go.Proofs.YtlpomofaeeaneaaGreatDoor
