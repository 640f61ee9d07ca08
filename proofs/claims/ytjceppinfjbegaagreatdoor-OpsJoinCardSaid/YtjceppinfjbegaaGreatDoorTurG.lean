import Derived.Test.YtjceppinfjbegaaGreatDoorTurE
import Derived.Lib.AppendZeros
import Derived.Laws.AppendOwnNone
import Derived.Test.YtjceppinfjbegaaGreatDoorOpsQ
set_option linter.unusedSimpArgs false
set_option linter.unusedVariables false
namespace Go.Proofs.YtjceppinfjbegaaGreatDoor
open Go.RowKit

set_option maxRecDepth 100000 in
set_option maxHeartbeats 800000 in
/-- slices.Grow, of the nil list of rows. -/
theorem grow_nil (n : Nat) (w : World) (hn : n ≤ 1000) :
    Calls Tryz.prog 123 #[.slice none 0 0, .int .i64 n] w fun e w' => ∃ v, e = .returned v ∧ w'.ownsRow w.heap.size 62 1 v 0 [] ∧ Below w.heap.size w w' := by
  obtain ⟨i0, hi, hz0, hz1, hz2⟩ := info_parts Tryz.infoRow
  by_cases h0 : n = 0
  · subst h0
    go_enter Tryz.func123, Tryz.ntmps123
    go_wp2
    go_ret
    exact ⟨_, rfl, World.ownsRow_nil _ _ _ _, Below.refl _ _⟩
  · have hr : ∀ ty, (Builtin.append_ #[34, 3] ty #[.slice none 0 0, .int .i64 n]).run Tryz.prog w = _ := fun ty => Lib.run_append_nil_zeros w 34 3 ty 62 i0 (.slice none 0 0) .i64 .i64 Tryz.underlying34 Tryz.underlying3 hi hz0 n (by omega) (by rw [hz1]; decide) (by omega) (by rw [hz2]; omega)
    have hge := grownCap_ge w n 0 62
    have hle := grownCap_le_maxLen w n 0 62 (by unfold maxLen; omega)
    obtain ⟨G, hG⟩ : ∃ G, G = grownCap w n 0 62 := ⟨_, rfl⟩
    rw [← hG] at hr hge hle
    have hle' : (G : Int) ≤ 9223372036854775807 := by unfold maxLen at hle; omega
    have hn0 : ¬ ((n : Int) < 0) := by omega
    have hn1 : (0 : Int) < (n : Int) := by omega
    have HO := Hid.mk (fun (W : World) (hW : W.heap.size = w.heap.size) => World.ownsRow_made (base := w.heap.size) (e := 62) (size := 1) W (Builtin.zeroCells (Value.slice none 0 0).cells n ++ Builtin.zeroCells (Value.slice none 0 0).cells (G - n)) G (by omega) hle (by rw [Array.size_append, size_zeroCells, size_zeroCells]; simp [Value.cells]; omega))
    clear hG
    go_enter Tryz.func123, Tryz.ntmps123
    go_wp2_with (at_builtin; refine Lib.wpList_append_run _ rfl _ _ _ _ rfl _ _ rfl rfl _ _ (hr _) ?_)
    go_ret
    exact ⟨_, rfl, HO.out w.drew rfl, bel_box (Below.refl _ _).drew _⟩

theorem src_cells {w : World} {B : Nat} {v : Value} {n : Nat} {us : List Value} (h : w.ownsRow B 62 1 v n us) : v = .slice none 0 0 ∧ n = 0 ∧ us = [] ∨ ∃ g c, v = .slice (some ⟨g, 0, none⟩) n c ∧ g < w.heap.size ∧ ∀ j u, us[j]? = some u → w.cell? ((⟨g, 0, none⟩ : Addr).add j) = some u := by
  have h' := h
  obtain ⟨hl, ⟨rfl, hn⟩ | ⟨g, cap, cur, rfl, hg, hh, hn, hm, _, _⟩⟩ := h
  · refine Or.inl ⟨rfl, hn, List.length_eq_zero_iff.1 (by omega)⟩
  · refine Or.inr ⟨g, cap, rfl, (h'.lt g rfl).2, fun j u hj => ?_⟩
    have hjl : j < us.length := (List.getElem?_eq_some_iff.1 hj).1
    have e := h'.cellAt j (by omega)
    rw [Addr.add_mid, Nat.zero_add, e, hj]

set_option maxRecDepth 100000 in
set_option maxHeartbeats 1600000 in
/-- slices.Concat, of two lists of rows. -/
theorem concat_two (lb n1 n2 : Nat) (v1 v2 : Value) (us1 us2 : List Value) (B1 B2 : Nat) (w : World) (hlb : lb < w.heap.size) (c0 : w.cell? ⟨lb, 0, none⟩ = some v1) (c1 : w.cell? ⟨lb, 1, none⟩ = some v2) (h1 : w.ownsRow B1 62 1 v1 n1 us1) (h2 : w.ownsRow B2 62 1 v2 n2 us2) (hn1 : n1 ≤ 100) (hn2 : n2 ≤ 100) (ho : ∀ u ∈ us1 ++ us2, u.oneCell' = true) :
    Calls Tryz.prog 88 #[.slice (some ⟨lb, 0, none⟩) 2 2] w fun e w' => ∃ v, e = .returned v ∧ w'.ownsRow w.heap.size 62 1 v (n1 + n2) (us1 ++ us2) ∧ Below w.heap.size w w' := by
  obtain ⟨i0, hi, hz0, hz1, hz2⟩ := info_parts Tryz.infoRow
  have HG := Hid.mk (grow_nil (n1 + n2) w (by omega))
  have HW := Hid.mk (And.intro h1 (And.intro h2 ho))
  have hl1 : us1.length = n1 := by have := h1.1; omega
  have hl2 : us2.length = n2 := by have := h2.1; omega
  have HL := Hid.mk (And.intro hl1 hl2)
  have hsum : wrap64 ((n1 : Int) + (n2 : Int)) = ((n1 + n2 : Nat) : Int) := by unfold wrap64; omega
  obtain ⟨a1, k1, rfl⟩ := own_slice h1
  obtain ⟨a2, k2, rfl⟩ := own_slice h2
  clear h1 h2 ho hl1 hl2
  go_enter Tryz.func88, Tryz.ntmps88
  go_wp2
  go_loopw [3, 11] (fun s i wr => wr = w ∧ ∃ k : Nat, k ≤ 2 ∧ i = .int .i64 k ∧ s = .int .i64 ((if k = 0 then 0 else if k = 1 then n1 else n1 + n2 : Nat) : Int)) (fun _ i _ => 2 - (intOf i).toNat)
  case atStart => exact ⟨rfl, 0, by omega, rfl, rfl⟩
  case round =>
    obtain ⟨hww, k, hk, rfl, rfl⟩ := hrel
    have hww' := hww.symm
    subst hww'
    clear hww
    have hk3 : k = 0 ∨ k = 1 ∨ k = 2 := by omega
    rcases hk3 with rfl | rfl | rfl
    · have hpos : ¬ ((n1 : Int) < 0) := by omega
      go_wp2
      all_goals go_roundw
      case rel => exact ⟨by first | trivial | rfl, 1, by omega, by go_num, by simp⟩
      case measure => simp [intOf]
    · have hpos : ¬ (((n1 + n2 : Nat) : Int) < 0) := by omega
      go_wp2
      all_goals go_roundw
      case rel => exact ⟨by first | trivial | rfl, 2, by omega, by go_num, by simp⟩
      case measure => simp [intOf]
    · go_wp2_with (go_at_call 123; refine HG.out.mono ?_; rintro e w1 ⟨v, rfl, ho1, hb1⟩)
      have HS := Hid.mk (And.intro ho1 hb1)
      clear ho1 hb1 HG
      go_loopw [6, 27] (fun l i wr => ∃ k : Nat, k ≤ 2 ∧ i = .int .i64 k ∧ wr.ownsRow w.heap.size 62 1 l (if k = 0 then 0 else if k = 1 then n1 else n1 + n2) (if k = 0 then [] else if k = 1 then us1 else us1 ++ us2) ∧ Below w.heap.size w wr) (fun _ i _ => 2 - (intOf i).toNat)
      case atStart => exact ⟨0, by omega, rfl, HS.out.1, HS.out.2⟩
      case round =>
        obtain ⟨k, hk, rfl, hown, hnx⟩ := hrel
        have hk3 : k = 0 ∨ k = 1 ∨ k = 2 := by omega
        have hws := hnx.size
        have d0 := (hnx.cell (p := ⟨lb, 0, none⟩) hlb).trans c0
        have d1 := (hnx.cell (p := ⟨lb, 1, none⟩) hlb).trans c1
        rcases hk3 with rfl | rfl | rfl
        · simp only [if_pos] at hown
          obtain ⟨la, lc, rfl⟩ := own_slice hown
          have hsrc := src_cells (owns_below HW.out.1 hnx)
          have HX := Hid.mk (And.intro hown hnx)
          clear hown hnx
          rcases hsrc with ⟨hv, hz, hu⟩ | ⟨g, gc, hv, hgl, hcells⟩
          · simp only [Value.slice.injEq] at hv
            obtain ⟨rfl, -, rfl⟩ := hv
            have HZ := Hid.mk (And.intro hz hu)
            subst hz
            clear hu
            go_wp2_with (at_builtin; refine wpList_append_own_none rfl _ _ 34 rfl w.heap.size 62 i0 1 Tryz.underlying34 hi _ _ _ rfl HX.out.1 rfl ?_)
            go_roundw
            case rel => exact ⟨.slice la 0 lc, _, .int .i64 1, ⟨1, by omega, by simp, by rw [HZ.out.2]; simpa using HX.out.1, HX.out.2⟩, rfl, rfl, rfl⟩
            case measure => simp [intOf]
          · simp only [Value.slice.injEq, true_and] at hv
            obtain ⟨rfl, rfl⟩ := hv
            have HC := Hid.mk hcells
            clear hcells
            go_wp2_with (at_builtin; refine wpList_append_own _ rfl _ _ 34 rfl w.heap.size 62 i0 (.slice none 0 0) 1 24 Tryz.underlying34 hi hz0 hz1 hz2 rfl (by decide) _ _ _ rfl HX.out.1 ⟨g, 0, none⟩ n1 k1 us1 rfl ?c0 HC.out ?c2 ?c3 ?c4 ?c5 ?_)
            case c0 => have := HL.out.1; omega
            case c2 => exact fun u hu => HW.out.2.2 u (List.mem_append_left _ hu)
            case c3 => unfold maxLen; omega
            case c4 => omega
            case c5 => omega
            intro v' w5 hown' hgrow _
            have hbl5 : Below w.heap.size w w5 := HX.out.2.grown hgrow (by omega) (fun q hq => (HX.out.1.lt q hq).1)
            have HF := Hid.mk (And.intro hown' hbl5)
            clear hown' hgrow hbl5
            go_wp2
            go_roundw
            case rel => exact ⟨1, by omega, by go_num, by simpa using HF.out.1, HF.out.2⟩
            case measure => simp [intOf]
        · simp only [if_neg, if_pos] at hown
          obtain ⟨la, lc, rfl⟩ := own_slice hown
          have hsrc := src_cells (owns_below HW.out.2.1 hnx)
          have HX := Hid.mk (And.intro hown hnx)
          clear hown hnx
          rcases hsrc with ⟨hv, hz, hu⟩ | ⟨g, gc, hv, hgl, hcells⟩
          · simp only [Value.slice.injEq] at hv
            obtain ⟨rfl, -, rfl⟩ := hv
            have HZ := Hid.mk (And.intro hz hu)
            subst hz
            clear hu
            go_wp2_with (at_builtin; refine wpList_append_own_none rfl _ _ 34 rfl w.heap.size 62 i0 1 Tryz.underlying34 hi _ _ _ rfl HX.out.1 rfl ?_)
            go_roundw
            case rel => exact ⟨.slice la n1 lc, _, .int .i64 2, ⟨2, by omega, by simp, by rw [HZ.out.2]; simpa using HX.out.1, HX.out.2⟩, rfl, rfl, rfl⟩
            case measure => simp [intOf]
          · simp only [Value.slice.injEq, true_and] at hv
            obtain ⟨rfl, rfl⟩ := hv
            have HC := Hid.mk hcells
            clear hcells
            go_wp2_with (at_builtin; refine wpList_append_own _ rfl _ _ 34 rfl w.heap.size 62 i0 (.slice none 0 0) 1 24 Tryz.underlying34 hi hz0 hz1 hz2 rfl (by decide) _ _ _ rfl HX.out.1 ⟨g, 0, none⟩ n2 k2 us2 rfl ?c0 HC.out ?c2 ?c3 ?c4 ?c5 ?_)
            case c0 => have := HL.out.2; omega
            case c2 => exact fun u hu => HW.out.2.2 u (List.mem_append_right _ hu)
            case c3 => unfold maxLen; omega
            case c4 => omega
            case c5 => omega
            intro v' w5 hown' hgrow _
            have hbl5 : Below w.heap.size w w5 := HX.out.2.grown hgrow (by omega) (fun q hq => (HX.out.1.lt q hq).1)
            have HF := Hid.mk (And.intro hown' hbl5)
            clear hown' hgrow hbl5
            go_wp2
            go_roundw
            case rel => exact ⟨2, by omega, by go_num, by simpa using HF.out.1, HF.out.2⟩
            case measure => simp [intOf]
        · have HX := Hid.mk (And.intro hown hnx)
          obtain ⟨la, lc, hl⟩ := own_slice hown
          subst hl
          clear hown hnx
          go_wp2
          go_ret
          exact ⟨_, rfl, by simpa using HX.out.1, HX.out.2⟩

theorem ba_ext {a b : ByteArray} (h : a.data.toList = b.data.toList) : a = b := by
  obtain ⟨⟨a⟩⟩ := a
  obtain ⟨⟨b⟩⟩ := b
  simp only at h
  rw [h]

set_option maxHeartbeats 800000 in
/-- slices.Equal, of columns that are not the same. -/
theorem eqC_ne (b o c b' o' c' n n' : Nat) (cs cs' : List Cl) (w : World) (hn : cs.length = n) (hn' : cs'.length = n') (h8 : n ≤ 100) (h8' : n' ≤ 100) (hb : b < w.heap.size) (hb' : b' < w.heap.size) (hc : ColsAt w b o cs) (hc' : ColsAt w b' o' cs') (hne : cs ≠ cs') :
    Calls Tryz.prog 65 #[.slice (some ⟨b, o, none⟩) n c, .slice (some ⟨b', o', none⟩) n' c'] w fun e w' => e = .returned (.bool false) ∧ Below w.heap.size w w' := by
  by_cases hnn : n = n'
  · subst hnn
    have HN := Hid.mk (And.intro hn (And.intro hn' hne))
    clear hn hn' hne
    go_enter Tryz.func65, Tryz.ntmps65
    go_wp2
    go_loopw [13] (fun i wr => ∃ k : Nat, k ≤ n ∧ i = .int .i64 k ∧ (∀ q (h : q < cs.length) (h' : q < cs'.length), q < k → cs[q] = cs'[q]) ∧ Below w.heap.size w wr) (fun i _ => n - (intOf i).toNat)
    case atStart => exact ⟨0, Nat.zero_le _, rfl, fun q _ _ h => absurd h (by omega), Below.refl _ _⟩
    case round =>
      obtain ⟨k, hk, rfl, hal, hnx⟩ := hrel
      have HA := Hid.mk hal
      clear hal
      by_cases hlt : k < n
      · have hk2 : k < cs.length := by have := HN.out.1; omega
        have hk2' : k < cs'.length := by have := HN.out.2.1; omega
        obtain ⟨c1, c2⟩ := hc k hk2
        have d1 := (hnx.cell (p := ⟨b, o + k * 2, none⟩) hb).trans c1
        have d2 := (hnx.cell (p := ⟨b, o + k * 2 + 1, none⟩) hb).trans c2
        obtain ⟨c3, c4⟩ := hc' k hk2'
        have d3 := (hnx.cell (p := ⟨b', o' + k * 2, none⟩) hb').trans c3
        have d4 := (hnx.cell (p := ⟨b', o' + k * 2 + 1, none⟩) hb').trans c4
        clear c1 c2 c3 c4
        obtain ⟨x, hx⟩ : ∃ x, cs[k] = x := ⟨_, rfl⟩
        obtain ⟨y, hy⟩ : ∃ y, cs'[k] = y := ⟨_, rfl⟩
        rw [hx] at d1 d2
        rw [hy] at d3 d4
        have HXY := Hid.mk (And.intro hx hy)
        clear hx hy
        by_cases e1 : x.1.toList = y.1.toList
        · by_cases e2 : x.2 = y.2
          · have hxy : x = y := Prod.ext (ba_ext (by rw [ByteArray.toList_eq, ByteArray.toList_eq] at e1; exact e1)) e2
            have HE := Hid.mk (show cs[k] = cs'[k] by rw [HXY.out.1, HXY.out.2]; exact hxy)
            subst hxy
            clear e1 e2
            go_wp2
            go_quiet (fail)
            go_wp2
            go_roundw
            case rel =>
              refine ⟨k + 1, by omega, by go_num, fun q h h' hq => ?_, below_drewN hnx _⟩
              rcases Nat.lt_or_ge q k with hqk | hqk
              · exact HA.out q h h' hqk
              · obtain rfl : q = k := by omega
                exact HE.out
            case measure => simp [intOf]; omega
          · have e2' : (x.2 == y.2) = false := by simp [e2]
            have e1' : (x.1.toList == y.1.toList) = true := by simp [e1]
            go_wp2
            go_quiet (fail)
            go_wp2
            all_goals go_ret
            all_goals exact ⟨rfl, below_drewN hnx _⟩
        · have e1' : (x.1.toList == y.1.toList) = false := by simp [e1]
          go_wp2
          go_quiet (fail)
          go_wp2
          all_goals go_ret
          all_goals exact ⟨rfl, below_drewN hnx _⟩
      · exfalso
        obtain ⟨h1, h2, h3⟩ := HN.out
        exact h3 (List.ext_getElem (by omega) fun q hq hq' => HA.out q hq hq' (by omega))
  · have hnn' : ((n : Int) != (n' : Int)) = true := by simp; omega
    clear hne hn hn' hc hc'
    go_enter Tryz.func65, Tryz.ntmps65
    go_wp2
    go_ret
    exact ⟨rfl, Below.refl _ _⟩

/-- What is wrong with a job that sets one table behind the other (0: nothing). -/
noncomputable def uniErr (cs cs' : List Cl) : Int := by classical exact if cs = cs' then 0 else 13
set_option maxRecDepth 100000 in
set_option maxHeartbeats 800000 in
theorem wrong_union (hb ho cin b o c b' o' c' : Nat) (cs cs' : List Cl) (j : Jb) (w : World) (hcode : j.code = 5) (hhb : hb < w.heap.size) (h0 : w.cell? ⟨hb, ho, none⟩ = some (.slice (some ⟨b, o, none⟩) cs.length c)) (h1 : w.cell? ⟨hb, ho + 1, none⟩ = some (.slice (some ⟨b', o', none⟩) cs'.length c')) (h8 : cs.length ≤ 60) (h8' : cs'.length ≤ 60) (hbl : b < w.heap.size) (hbl' : b' < w.heap.size) (hc : ColsAt w b o cs) (hc' : ColsAt w b' o' cs') :
    Calls Tryz.prog 35 #[.agg j.cells, .slice (some ⟨hb, ho, none⟩) 2 cin] w fun e w' => e = .returned (errV (uniErr cs cs')) ∧ Below w.heap.size w w' := by
  obtain ⟨code, hcd⟩ : ∃ k, j.code = k := ⟨_, rfl⟩
  unfold Jb.cells
  rw [hcd] at hcode ⊢
  clear hcd
  subst hcode
  by_cases he : cs = cs'
  · subst he
    have hu : uniErr cs cs = 0 := by unfold uniErr; rw [if_pos rfl]
    rw [hu, errV_0]
    have HT := Hid.mk (fun W (h1 : Below w.heap.size w W) => eqC_in b o c b' o' c' cs.length cs W rfl (by omega) (by have := h1.size; omega) (by have := h1.size; omega) (hc.below h1 hbl) (hc'.below h1 hbl'))
    clear hu hc hc'
    go_enter Tryz.func35, Tryz.ntmps35
    go_wp2_with (go_at_call 65; refine (HT.out _ (below_box _ _)).mono ?_; rintro e w1 ⟨rfl, hb1⟩)
    go_ret
    exact ⟨rfl, bel_then (below_box _ _) hb1⟩
  · have hu : uniErr cs cs' = 13 := by unfold uniErr; rw [if_neg he]
    rw [hu, errV_ne (by decide)]
    have HT := Hid.mk (fun W (h1 : Below w.heap.size w W) => eqC_ne b o c b' o' c' cs.length cs'.length cs cs' W rfl rfl (by omega) (by omega) (by have := h1.size; omega) (by have := h1.size; omega) (hc.below h1 hbl) (hc'.below h1 hbl') he)
    clear hu hc hc' he
    go_enter Tryz.func35, Tryz.ntmps35
    go_wp2_with (go_at_call 65; refine (HT.out _ (below_box _ _)).mono ?_; rintro e w1 ⟨rfl, hb1⟩)
    go_ret
    exact ⟨rfl, bel_then (below_box _ _) hb1⟩

end Go.Proofs.YtjceppinfjbegaaGreatDoor

