import Derived.Test.YtjceppinfjbegaaGreatDoorTurK
set_option linter.unusedSimpArgs false
set_option linter.unusedVariables false
namespace Go.Proofs.YtjceppinfjbegaaGreatDoor
open Go.RowKit

set_option maxRecDepth 100000 in
set_option maxHeartbeats 800000 in
/-- slices.Grow, of the nil list. -/
theorem grow_nilV (n : Nat) (w : World) (hn : n ≤ 1000) :
    Calls Tryz.prog 173 #[.slice none 0 0, .int .i64 n] w fun e w' => ∃ v, e = .returned v ∧ w'.ownsRow w.heap.size 24 3 v 0 [] ∧ Below w.heap.size w w' := by
  obtain ⟨i0, hi, hz0, hz1, hz2⟩ := info_parts Tryz.infoVal
  by_cases h0 : n = 0
  · subst h0
    go_enter Tryz.func173, Tryz.ntmps173
    go_wp2
    go_ret
    exact ⟨_, rfl, World.ownsRow_nil _ _ _ _, Below.refl _ _⟩
  · have hr : ∀ ty, (Builtin.append_ #[62, 3] ty #[.slice none 0 0, .int .i64 n]).run Tryz.prog w = _ := fun ty => Lib.run_append_nil_zeros w 62 3 ty 24 i0 (.agg #[.int .i64 0, .int .i64 0, .string ⟨#[]⟩]) .i64 .i64 Tryz.underlying62 Tryz.underlying3 hi hz0 n (by omega) (by rw [hz1]; decide) (by omega) (by rw [hz2]; omega)
    have hge := grownCap_ge w n 0 24
    have hle := grownCap_le_maxLen w n 0 24 (by unfold maxLen; omega)
    obtain ⟨G, hG⟩ : ∃ G, G = grownCap w n 0 24 := ⟨_, rfl⟩
    rw [← hG] at hr hge hle
    have hle' : (G : Int) ≤ 9223372036854775807 := by unfold maxLen at hle; omega
    have hn0 : ¬ ((n : Int) < 0) := by omega
    have hn1 : (0 : Int) < (n : Int) := by omega
    have HO := Hid.mk (fun (W : World) (hW : W.heap.size = w.heap.size) => World.ownsRow_made (base := w.heap.size) (e := 24) (size := 3) W (Builtin.zeroCells (Value.cells (.agg #[.int .i64 0, .int .i64 0, .string ⟨#[]⟩])) n ++ Builtin.zeroCells (Value.cells (.agg #[.int .i64 0, .int .i64 0, .string ⟨#[]⟩])) (G - n)) G (by omega) hle (by rw [Array.size_append, size_zeroCells, size_zeroCells]; simp [Value.cells]; omega))
    clear hG
    go_enter Tryz.func173, Tryz.ntmps173
    go_wp2_with (at_builtin; refine Lib.wpList_append_run _ rfl _ _ _ _ rfl _ _ rfl rfl _ _ (hr _) ?_)
    go_ret
    exact ⟨_, rfl, HO.out w.drew rfl, bel_box (Below.refl _ _).drew _⟩

set_option maxRecDepth 100000 in
set_option maxHeartbeats 1600000 in
/-- slices.Concat, of three lists. -/
theorem concat3V (lb n1 n2 n3 g1 g2 g3 o1 o2 o3 k1 k2 k3 : Nat) (us1 us2 us3 : List Value) (w : World) (hlb : lb < w.heap.size) (c0 : w.cell? ⟨lb, 0, none⟩ = some (.slice (some ⟨g1, o1, none⟩) n1 k1)) (c1 : w.cell? ⟨lb, 1, none⟩ = some (.slice (some ⟨g2, o2, none⟩) n2 k2)) (c2 : w.cell? ⟨lb, 2, none⟩ = some (.slice (some ⟨g3, o3, none⟩) n3 k3)) (hg1 : g1 < w.heap.size) (hl1 : us1.length = n1 * 3) (hc1 : ∀ j u, us1[j]? = some u → w.cell? ((⟨g1, o1, none⟩ : Addr).add j) = some u) (hn1 : n1 ≤ 100) (ho1 : ∀ u ∈ us1, u.oneCell' = true) (hg2 : g2 < w.heap.size) (hl2 : us2.length = n2 * 3) (hc2 : ∀ j u, us2[j]? = some u → w.cell? ((⟨g2, o2, none⟩ : Addr).add j) = some u) (hn2 : n2 ≤ 100) (ho2 : ∀ u ∈ us2, u.oneCell' = true) (hg3 : g3 < w.heap.size) (hl3 : us3.length = n3 * 3) (hc3 : ∀ j u, us3[j]? = some u → w.cell? ((⟨g3, o3, none⟩ : Addr).add j) = some u) (hn3 : n3 ≤ 100) (ho3 : ∀ u ∈ us3, u.oneCell' = true) :
    Calls Tryz.prog 154 #[.slice (some ⟨lb, 0, none⟩) 3 3] w fun e w' => ∃ v, e = .returned v ∧ w'.ownsRow w.heap.size 24 3 v (n1 + n2 + n3) (us1 ++ us2 ++ us3) ∧ Below w.heap.size w w' := by
  obtain ⟨i0, hi, hz0, hz1, hz2⟩ := info_parts Tryz.infoVal
  have HG := Hid.mk (grow_nilV (n1 + n2 + n3) w (by omega))
  have HL := Hid.mk (And.intro hl1 (And.intro hl2 hl3))
  have HC1 := Hid.mk (And.intro hc1 ho1)
  have HC2 := Hid.mk (And.intro hc2 ho2)
  have HC3 := Hid.mk (And.intro hc3 ho3)
  clear hl1 hl2 hl3 hc1 hc2 hc3 ho1 ho2 ho3
  go_enter Tryz.func154, Tryz.ntmps154
  go_wp2
  go_loopw [3, 11] (fun s i wr => wr = w ∧ ∃ k : Nat, k ≤ 3 ∧ i = .int .i64 k ∧ s = .int .i64 (((if k = 0 then 0 else if k = 1 then n1 else if k = 2 then n1 + n2 else n1 + n2 + n3) : Nat) : Int)) (fun _ i _ => 3 - (intOf i).toNat)
  case atStart => exact ⟨rfl, 0, by omega, rfl, rfl⟩
  case round =>
    obtain ⟨hww, k, hk, rfl, rfl⟩ := hrel
    have hww' := hww.symm
    subst hww'
    clear hww
    have hk3 : k = 0 ∨ k = 1 ∨ k = 2 ∨ k = 3 := by omega
    rcases hk3 with rfl | rfl | rfl | rfl
    · have hpos : ¬ (((n1 : Nat) : Int) < 0) := by omega
      go_wp2
      all_goals go_roundw
      case rel => exact ⟨by first | trivial | rfl, 1, by omega, by go_num, by first | (simp; done) | (simp; omega)⟩
      case measure => simp [intOf]
    · have hpos : ¬ (((n1 + n2 : Nat) : Int) < 0) := by omega
      go_wp2
      all_goals go_roundw
      case rel => exact ⟨by first | trivial | rfl, 2, by omega, by go_num, by first | (simp; done) | (simp; omega)⟩
      case measure => simp [intOf]
    · have hpos : ¬ (((n1 + n2 + n3 : Nat) : Int) < 0) := by omega
      go_wp2
      all_goals go_roundw
      case rel => exact ⟨by first | trivial | rfl, 3, by omega, by go_num, by first | (simp; done) | (simp; omega)⟩
      case measure => simp [intOf]
    · go_wp2_with (go_at_call 173; fail)
      try rw [show (n1 : Int) + (n2 : Int) + (n3 : Int) = ((n1 + n2 + n3 : Nat) : Int) by omega]
      refine HG.out.mono ?_
      rintro e w1 ⟨v, rfl, ho1, hb1⟩
      have HS := Hid.mk (And.intro ho1 hb1)
      clear ho1 hb1 HG
      go_wp2
      go_loopw [6, 27] (fun l i wr => ∃ k : Nat, k ≤ 3 ∧ i = .int .i64 k ∧ wr.ownsRow w.heap.size 24 3 l (if k = 0 then 0 else if k = 1 then n1 else if k = 2 then n1 + n2 else n1 + n2 + n3) (if k = 0 then [] else if k = 1 then us1 else if k = 2 then us1 ++ us2 else us1 ++ us2 ++ us3) ∧ Below w.heap.size w wr) (fun _ i _ => 3 - (intOf i).toNat)
      case atStart => exact ⟨0, by omega, rfl, HS.out.1, HS.out.2⟩
      case round =>
        obtain ⟨k, hk, rfl, hown, hnx⟩ := hrel
        have hk3 : k = 0 ∨ k = 1 ∨ k = 2 ∨ k = 3 := by omega
        have hws := hnx.size
        have d0 := (hnx.cell (p := ⟨lb, 0, none⟩) hlb).trans c0
        have d1 := (hnx.cell (p := ⟨lb, 1, none⟩) hlb).trans c1
        have d2 := (hnx.cell (p := ⟨lb, 2, none⟩) hlb).trans c2
        rcases hk3 with rfl | rfl | rfl | rfl
        · simp at hown
          obtain ⟨la, lc, rfl⟩ := own_slice hown
          have HC := Hid.mk (fun (j : Nat) (u : Value) (hj : us1[j]? = some u) => (hnx.cell (p := (⟨g1, o1, none⟩ : Addr).add j) (by rw [Addr.add_mid]; exact hg1)).trans (HC1.out.1 j u hj))
          have HX := Hid.mk (And.intro hown hnx)
          clear hown hnx
          go_wp2_with (at_builtin; refine wpList_append_own _ rfl _ _ 62 rfl w.heap.size 24 i0 (.agg #[.int .i64 0, .int .i64 0, .string ⟨#[]⟩]) 3 32 Tryz.underlying62 hi hz0 hz1 hz2 rfl (by decide) _ _ _ rfl HX.out.1 ⟨g1, o1, none⟩ n1 k1 us1 rfl ?c0 HC.out ?c2 ?c3 ?c4 ?c5 ?_)
          case c0 => have := HL.out; omega
          case c2 => exact HC1.out.2
          case c3 => unfold maxLen; omega
          case c4 => omega
          case c5 => omega
          intro v' w5 hown' hgrow _
          have hbl5 : Below w.heap.size w w5 := HX.out.2.grown hgrow (by omega) (fun q hq => (HX.out.1.lt q hq).1)
          have HF := Hid.mk (And.intro hown' hbl5)
          clear hown' hgrow hbl5
          go_wp2
          go_roundw
          case rel => exact ⟨1, by omega, by go_num, by simpa using HF.out.1, HF.out.2⟩
          case measure => simp [intOf]
        · simp at hown
          obtain ⟨la, lc, rfl⟩ := own_slice hown
          have HC := Hid.mk (fun (j : Nat) (u : Value) (hj : us2[j]? = some u) => (hnx.cell (p := (⟨g2, o2, none⟩ : Addr).add j) (by rw [Addr.add_mid]; exact hg2)).trans (HC2.out.1 j u hj))
          have HX := Hid.mk (And.intro hown hnx)
          clear hown hnx
          go_wp2_with (at_builtin; refine wpList_append_own _ rfl _ _ 62 rfl w.heap.size 24 i0 (.agg #[.int .i64 0, .int .i64 0, .string ⟨#[]⟩]) 3 32 Tryz.underlying62 hi hz0 hz1 hz2 rfl (by decide) _ _ _ rfl HX.out.1 ⟨g2, o2, none⟩ n2 k2 us2 rfl ?c0 HC.out ?c2 ?c3 ?c4 ?c5 ?_)
          case c0 => have := HL.out; omega
          case c2 => exact HC2.out.2
          case c3 => unfold maxLen; omega
          case c4 => omega
          case c5 => omega
          intro v' w5 hown' hgrow _
          have hbl5 : Below w.heap.size w w5 := HX.out.2.grown hgrow (by omega) (fun q hq => (HX.out.1.lt q hq).1)
          have HF := Hid.mk (And.intro hown' hbl5)
          clear hown' hgrow hbl5
          go_wp2
          go_roundw
          case rel => exact ⟨2, by omega, by go_num, by simpa using HF.out.1, HF.out.2⟩
          case measure => simp [intOf]
        · simp at hown
          obtain ⟨la, lc, rfl⟩ := own_slice hown
          have HC := Hid.mk (fun (j : Nat) (u : Value) (hj : us3[j]? = some u) => (hnx.cell (p := (⟨g3, o3, none⟩ : Addr).add j) (by rw [Addr.add_mid]; exact hg3)).trans (HC3.out.1 j u hj))
          have HX := Hid.mk (And.intro hown hnx)
          clear hown hnx
          go_wp2_with (at_builtin; refine wpList_append_own _ rfl _ _ 62 rfl w.heap.size 24 i0 (.agg #[.int .i64 0, .int .i64 0, .string ⟨#[]⟩]) 3 32 Tryz.underlying62 hi hz0 hz1 hz2 rfl (by decide) _ _ _ rfl HX.out.1 ⟨g3, o3, none⟩ n3 k3 us3 rfl ?c0 HC.out ?c2 ?c3 ?c4 ?c5 ?_)
          case c0 => have := HL.out; omega
          case c2 => exact HC3.out.2
          case c3 => unfold maxLen; omega
          case c4 => omega
          case c5 => omega
          intro v' w5 hown' hgrow _
          have hbl5 : Below w.heap.size w w5 := HX.out.2.grown hgrow (by omega) (fun q hq => (HX.out.1.lt q hq).1)
          have HF := Hid.mk (And.intro hown' hbl5)
          clear hown' hgrow hbl5
          go_wp2
          go_roundw
          case rel => exact ⟨3, by omega, by go_num, by simpa using HF.out.1, HF.out.2⟩
          case measure => simp [intOf]
        · have HX := Hid.mk (And.intro hown hnx)
          obtain ⟨la, lc, hl⟩ := own_slice hown
          subst hl
          clear hown hnx
          go_wp2
          go_ret
          exact ⟨_, rfl, by simpa using HX.out.1, HX.out.2⟩

set_option maxRecDepth 100000 in
set_option maxHeartbeats 800000 in
/-- slices.Grow, of the nil list. -/
theorem grow_nilC (n : Nat) (w : World) (hn : n ≤ 1000) :
    Calls Tryz.prog 135 #[.slice none 0 0, .int .i64 n] w fun e w' => ∃ v, e = .returned v ∧ w'.ownsRow w.heap.size 60 2 v 0 [] ∧ Below w.heap.size w w' := by
  obtain ⟨i0, hi, hz0, hz1, hz2⟩ := info_parts Tryz.infoCol
  by_cases h0 : n = 0
  · subst h0
    go_enter Tryz.func135, Tryz.ntmps135
    go_wp2
    go_ret
    exact ⟨_, rfl, World.ownsRow_nil _ _ _ _, Below.refl _ _⟩
  · have hr : ∀ ty, (Builtin.append_ #[33, 3] ty #[.slice none 0 0, .int .i64 n]).run Tryz.prog w = _ := fun ty => Lib.run_append_nil_zeros w 33 3 ty 60 i0 (.agg #[.string ⟨#[]⟩, .int .i64 0]) .i64 .i64 Tryz.underlying33 Tryz.underlying3 hi hz0 n (by omega) (by rw [hz1]; decide) (by omega) (by rw [hz2]; omega)
    have hge := grownCap_ge w n 0 60
    have hle := grownCap_le_maxLen w n 0 60 (by unfold maxLen; omega)
    obtain ⟨G, hG⟩ : ∃ G, G = grownCap w n 0 60 := ⟨_, rfl⟩
    rw [← hG] at hr hge hle
    have hle' : (G : Int) ≤ 9223372036854775807 := by unfold maxLen at hle; omega
    have hn0 : ¬ ((n : Int) < 0) := by omega
    have hn1 : (0 : Int) < (n : Int) := by omega
    have HO := Hid.mk (fun (W : World) (hW : W.heap.size = w.heap.size) => World.ownsRow_made (base := w.heap.size) (e := 60) (size := 2) W (Builtin.zeroCells (Value.cells (.agg #[.string ⟨#[]⟩, .int .i64 0])) n ++ Builtin.zeroCells (Value.cells (.agg #[.string ⟨#[]⟩, .int .i64 0])) (G - n)) G (by omega) hle (by rw [Array.size_append, size_zeroCells, size_zeroCells]; simp [Value.cells]; omega))
    clear hG
    go_enter Tryz.func135, Tryz.ntmps135
    go_wp2_with (at_builtin; refine Lib.wpList_append_run _ rfl _ _ _ _ rfl _ _ rfl rfl _ _ (hr _) ?_)
    go_ret
    exact ⟨_, rfl, HO.out w.drew rfl, bel_box (Below.refl _ _).drew _⟩

set_option maxRecDepth 100000 in
set_option maxHeartbeats 1600000 in
/-- slices.Concat, of three lists. -/
theorem concat3C (lb n1 n2 n3 g1 g2 g3 o1 o2 o3 k1 k2 k3 : Nat) (us1 us2 us3 : List Value) (w : World) (hlb : lb < w.heap.size) (c0 : w.cell? ⟨lb, 0, none⟩ = some (.slice (some ⟨g1, o1, none⟩) n1 k1)) (c1 : w.cell? ⟨lb, 1, none⟩ = some (.slice (some ⟨g2, o2, none⟩) n2 k2)) (c2 : w.cell? ⟨lb, 2, none⟩ = some (.slice (some ⟨g3, o3, none⟩) n3 k3)) (hg1 : g1 < w.heap.size) (hl1 : us1.length = n1 * 2) (hc1 : ∀ j u, us1[j]? = some u → w.cell? ((⟨g1, o1, none⟩ : Addr).add j) = some u) (hn1 : n1 ≤ 100) (ho1 : ∀ u ∈ us1, u.oneCell' = true) (hg2 : g2 < w.heap.size) (hl2 : us2.length = n2 * 2) (hc2 : ∀ j u, us2[j]? = some u → w.cell? ((⟨g2, o2, none⟩ : Addr).add j) = some u) (hn2 : n2 ≤ 100) (ho2 : ∀ u ∈ us2, u.oneCell' = true) (hg3 : g3 < w.heap.size) (hl3 : us3.length = n3 * 2) (hc3 : ∀ j u, us3[j]? = some u → w.cell? ((⟨g3, o3, none⟩ : Addr).add j) = some u) (hn3 : n3 ≤ 100) (ho3 : ∀ u ∈ us3, u.oneCell' = true) :
    Calls Tryz.prog 105 #[.slice (some ⟨lb, 0, none⟩) 3 3] w fun e w' => ∃ v, e = .returned v ∧ w'.ownsRow w.heap.size 60 2 v (n1 + n2 + n3) (us1 ++ us2 ++ us3) ∧ Below w.heap.size w w' := by
  obtain ⟨i0, hi, hz0, hz1, hz2⟩ := info_parts Tryz.infoCol
  have HG := Hid.mk (grow_nilC (n1 + n2 + n3) w (by omega))
  have HL := Hid.mk (And.intro hl1 (And.intro hl2 hl3))
  have HC1 := Hid.mk (And.intro hc1 ho1)
  have HC2 := Hid.mk (And.intro hc2 ho2)
  have HC3 := Hid.mk (And.intro hc3 ho3)
  clear hl1 hl2 hl3 hc1 hc2 hc3 ho1 ho2 ho3
  go_enter Tryz.func105, Tryz.ntmps105
  go_wp2
  go_loopw [3, 11] (fun s i wr => wr = w ∧ ∃ k : Nat, k ≤ 3 ∧ i = .int .i64 k ∧ s = .int .i64 (((if k = 0 then 0 else if k = 1 then n1 else if k = 2 then n1 + n2 else n1 + n2 + n3) : Nat) : Int)) (fun _ i _ => 3 - (intOf i).toNat)
  case atStart => exact ⟨rfl, 0, by omega, rfl, rfl⟩
  case round =>
    obtain ⟨hww, k, hk, rfl, rfl⟩ := hrel
    have hww' := hww.symm
    subst hww'
    clear hww
    have hk3 : k = 0 ∨ k = 1 ∨ k = 2 ∨ k = 3 := by omega
    rcases hk3 with rfl | rfl | rfl | rfl
    · have hpos : ¬ (((n1 : Nat) : Int) < 0) := by omega
      go_wp2
      all_goals go_roundw
      case rel => exact ⟨by first | trivial | rfl, 1, by omega, by go_num, by first | (simp; done) | (simp; omega)⟩
      case measure => simp [intOf]
    · have hpos : ¬ (((n1 + n2 : Nat) : Int) < 0) := by omega
      go_wp2
      all_goals go_roundw
      case rel => exact ⟨by first | trivial | rfl, 2, by omega, by go_num, by first | (simp; done) | (simp; omega)⟩
      case measure => simp [intOf]
    · have hpos : ¬ (((n1 + n2 + n3 : Nat) : Int) < 0) := by omega
      go_wp2
      all_goals go_roundw
      case rel => exact ⟨by first | trivial | rfl, 3, by omega, by go_num, by first | (simp; done) | (simp; omega)⟩
      case measure => simp [intOf]
    · go_wp2_with (go_at_call 135; fail)
      try rw [show (n1 : Int) + (n2 : Int) + (n3 : Int) = ((n1 + n2 + n3 : Nat) : Int) by omega]
      refine HG.out.mono ?_
      rintro e w1 ⟨v, rfl, ho1, hb1⟩
      have HS := Hid.mk (And.intro ho1 hb1)
      clear ho1 hb1 HG
      go_wp2
      go_loopw [6, 27] (fun l i wr => ∃ k : Nat, k ≤ 3 ∧ i = .int .i64 k ∧ wr.ownsRow w.heap.size 60 2 l (if k = 0 then 0 else if k = 1 then n1 else if k = 2 then n1 + n2 else n1 + n2 + n3) (if k = 0 then [] else if k = 1 then us1 else if k = 2 then us1 ++ us2 else us1 ++ us2 ++ us3) ∧ Below w.heap.size w wr) (fun _ i _ => 3 - (intOf i).toNat)
      case atStart => exact ⟨0, by omega, rfl, HS.out.1, HS.out.2⟩
      case round =>
        obtain ⟨k, hk, rfl, hown, hnx⟩ := hrel
        have hk3 : k = 0 ∨ k = 1 ∨ k = 2 ∨ k = 3 := by omega
        have hws := hnx.size
        have d0 := (hnx.cell (p := ⟨lb, 0, none⟩) hlb).trans c0
        have d1 := (hnx.cell (p := ⟨lb, 1, none⟩) hlb).trans c1
        have d2 := (hnx.cell (p := ⟨lb, 2, none⟩) hlb).trans c2
        rcases hk3 with rfl | rfl | rfl | rfl
        · simp at hown
          obtain ⟨la, lc, rfl⟩ := own_slice hown
          have HC := Hid.mk (fun (j : Nat) (u : Value) (hj : us1[j]? = some u) => (hnx.cell (p := (⟨g1, o1, none⟩ : Addr).add j) (by rw [Addr.add_mid]; exact hg1)).trans (HC1.out.1 j u hj))
          have HX := Hid.mk (And.intro hown hnx)
          clear hown hnx
          go_wp2_with (at_builtin; refine wpList_append_own _ rfl _ _ 33 rfl w.heap.size 60 i0 (.agg #[.string ⟨#[]⟩, .int .i64 0]) 2 24 Tryz.underlying33 hi hz0 hz1 hz2 rfl (by decide) _ _ _ rfl HX.out.1 ⟨g1, o1, none⟩ n1 k1 us1 rfl ?c0 HC.out ?c2 ?c3 ?c4 ?c5 ?_)
          case c0 => have := HL.out; omega
          case c2 => exact HC1.out.2
          case c3 => unfold maxLen; omega
          case c4 => omega
          case c5 => omega
          intro v' w5 hown' hgrow _
          have hbl5 : Below w.heap.size w w5 := HX.out.2.grown hgrow (by omega) (fun q hq => (HX.out.1.lt q hq).1)
          have HF := Hid.mk (And.intro hown' hbl5)
          clear hown' hgrow hbl5
          go_wp2
          go_roundw
          case rel => exact ⟨1, by omega, by go_num, by simpa using HF.out.1, HF.out.2⟩
          case measure => simp [intOf]
        · simp at hown
          obtain ⟨la, lc, rfl⟩ := own_slice hown
          have HC := Hid.mk (fun (j : Nat) (u : Value) (hj : us2[j]? = some u) => (hnx.cell (p := (⟨g2, o2, none⟩ : Addr).add j) (by rw [Addr.add_mid]; exact hg2)).trans (HC2.out.1 j u hj))
          have HX := Hid.mk (And.intro hown hnx)
          clear hown hnx
          go_wp2_with (at_builtin; refine wpList_append_own _ rfl _ _ 33 rfl w.heap.size 60 i0 (.agg #[.string ⟨#[]⟩, .int .i64 0]) 2 24 Tryz.underlying33 hi hz0 hz1 hz2 rfl (by decide) _ _ _ rfl HX.out.1 ⟨g2, o2, none⟩ n2 k2 us2 rfl ?c0 HC.out ?c2 ?c3 ?c4 ?c5 ?_)
          case c0 => have := HL.out; omega
          case c2 => exact HC2.out.2
          case c3 => unfold maxLen; omega
          case c4 => omega
          case c5 => omega
          intro v' w5 hown' hgrow _
          have hbl5 : Below w.heap.size w w5 := HX.out.2.grown hgrow (by omega) (fun q hq => (HX.out.1.lt q hq).1)
          have HF := Hid.mk (And.intro hown' hbl5)
          clear hown' hgrow hbl5
          go_wp2
          go_roundw
          case rel => exact ⟨2, by omega, by go_num, by simpa using HF.out.1, HF.out.2⟩
          case measure => simp [intOf]
        · simp at hown
          obtain ⟨la, lc, rfl⟩ := own_slice hown
          have HC := Hid.mk (fun (j : Nat) (u : Value) (hj : us3[j]? = some u) => (hnx.cell (p := (⟨g3, o3, none⟩ : Addr).add j) (by rw [Addr.add_mid]; exact hg3)).trans (HC3.out.1 j u hj))
          have HX := Hid.mk (And.intro hown hnx)
          clear hown hnx
          go_wp2_with (at_builtin; refine wpList_append_own _ rfl _ _ 33 rfl w.heap.size 60 i0 (.agg #[.string ⟨#[]⟩, .int .i64 0]) 2 24 Tryz.underlying33 hi hz0 hz1 hz2 rfl (by decide) _ _ _ rfl HX.out.1 ⟨g3, o3, none⟩ n3 k3 us3 rfl ?c0 HC.out ?c2 ?c3 ?c4 ?c5 ?_)
          case c0 => have := HL.out; omega
          case c2 => exact HC3.out.2
          case c3 => unfold maxLen; omega
          case c4 => omega
          case c5 => omega
          intro v' w5 hown' hgrow _
          have hbl5 : Below w.heap.size w w5 := HX.out.2.grown hgrow (by omega) (fun q hq => (HX.out.1.lt q hq).1)
          have HF := Hid.mk (And.intro hown' hbl5)
          clear hown' hgrow hbl5
          go_wp2
          go_roundw
          case rel => exact ⟨3, by omega, by go_num, by simpa using HF.out.1, HF.out.2⟩
          case measure => simp [intOf]
        · have HX := Hid.mk (And.intro hown hnx)
          obtain ⟨la, lc, hl⟩ := own_slice hown
          subst hl
          clear hown hnx
          go_wp2
          go_ret
          exact ⟨_, rfl, by simpa using HX.out.1, HX.out.2⟩

end Go.Proofs.YtjceppinfjbegaaGreatDoor

