import Derived.Test.YtccbjhaebajamaaGreatDoorTurK
set_option linter.unusedSimpArgs false
set_option linter.unusedVariables false
namespace Go.Proofs.YtccbjhaebajamaaGreatDoor
open Go.RowKit

/-- What a value is written as. -/
def valL (x : Vl) : List UInt8 := valueL x.1 x.2.1 x.2.2.data.toList
/-- What tells rows apart. -/
def textL (r : List Vl) : List UInt8 := Lib.join (r.map valL) [32]
def strCellsV (r : List Vl) : List Value := (r.map fun x => (⟨(valL x).toArray⟩ : ByteArray)).map Value.string
theorem valL_len {x : Vl} (h : rvB x = true) : (valL x).length ≤ 1000 := by
  have h' := right_small (show rightValueB x.1 x.2.1 x.2.2.data.toList = true from h)
  unfold valL valueL
  split
  · exact Nat.le_trans (Lib.itoa_length_le _ (by omega) (by omega)) (by decide)
  · rw [List.length_cons, List.length_append]
    simp only [List.length_cons, List.length_nil]
    omega

theorem Tryz.infoS : (Tryz.prog.info? 9).map (fun i => (i.zero, i.size, i.bytes)) = some (some (.string ⟨#[]⟩), 1, 16) := by kernel_rfl
theorem one1t (s : ByteArray) : ∀ u ∈ [Value.string s], u.oneCell' = true := by intro u hu; simp at hu; subst hu; rfl

set_option maxRecDepth 100000 in
set_option maxHeartbeats 1600000 in
theorem textOf_in (b o c : Nat) (r : List Vl) (w : World) (hb : b < w.heap.size) (hr : ValsAt w b o r) (h0 : 0 < r.length) (h6 : r.length ≤ 100) (hv : ∀ x ∈ r, rvB x = true) (hE : Env w) :
    Calls Tryz.prog 107 #[.slice (some ⟨b, o, none⟩) r.length c] w fun e w' => e = .returned (.string ⟨(textL r).toArray⟩) ∧ Below w.heap.size w w' := by
  obtain ⟨i0, hi, hz0, hz1, hz2⟩ := info_parts Tryz.infoS
  have HV := Hid.mk (And.intro hr (And.intro hv hE))
  clear hr hv hE
  go_enter Tryz.func107, Tryz.ntmps107
  go_wp2
  go_loopw [3, 8] (fun l i wr => ∃ k : Nat, k ≤ r.length ∧ i = .int .i64 k ∧ wr.ownsRow w.heap.size 9 1 l k (strCellsV (r.take k)) ∧ Below w.heap.size w wr) (fun _ i _ => r.length - (intOf i).toNat)
  case atStart => exact ⟨0, Nat.zero_le _, rfl, World.ownsRow_nil _ _ _ _, Below.refl _ _⟩
  case round =>
    obtain ⟨k, hk, rfl, hown, hnx⟩ := hrel
    obtain ⟨la, lc, rfl⟩ := own_slice hown
    have HX := Hid.mk (And.intro hown hnx)
    have hws := hnx.size
    by_cases hlt : k < r.length
    · obtain ⟨hr, hv, hE⟩ := HV.out
      obtain ⟨e0, e1, e2⟩ := hr k hlt
      have d0 := (hnx.cell (p := ⟨b, o + k * 3, none⟩) hb).trans e0
      have d1 := (hnx.cell (p := ⟨b, o + k * 3 + 1, none⟩) hb).trans e1
      have d2 := (hnx.cell (p := ⟨b, o + k * 3 + 2, none⟩) hb).trans e2
      have hx := right_small (show rightValueB r[k].1 r[k].2.1 r[k].2.2.data.toList = true from hv _ (List.getElem_mem hlt))
      have HVA := Hid.mk (fun W (hW : Below wr.heap.size wr W) => value_any r[k].1 r[k].2.1 r[k].2.2 W (by have := hx.1; simp at this; omega) (by omega) (by omega) ((hE.below hnx).below hW))
      have HT := Hid.mk (show strCellsV (r.take k) ++ [.string ⟨(valL r[k]).toArray⟩] = strCellsV (r.take (k + 1)) by rw [List.take_succ_eq_append_getElem hlt]; unfold strCellsV; rw [List.map_append, List.map_append]; rfl)
      rw [show valL r[k] = valueL r[k].1 r[k].2.1 r[k].2.2.data.toList from rfl] at HT
      generalize r[k] = x at *
      clear hown hnx hr hv hE e0 e1 e2 hx
      go_wp2_with (first | (go_at_call 52; refine (HVA.out _ (below_box _ _)).mono ?_; rintro e w1 ⟨rfl, hb1⟩) | (at_builtin; refine wpList_append_own _ rfl _ _ 30 rfl w.heap.size 9 i0 (.string ⟨#[]⟩) 1 16 Tryz.underlying30 hi hz0 hz1 hz2 rfl (by decide) _ _ _ rfl ((owns_below (HX.out.1.alloc _) hb1).alloc _) ⟨w1.heap.size, 0, none⟩ 1 1 [.string ⟨(valueL x.1 x.2.1 x.2.2.data.toList).toArray⟩] rfl rfl (news1 _ _ _ _ rfl) (one1t _) ?c3 ?c4 ?c5 ?_))
      case c3 => unfold maxLen; omega
      case c4 => omega
      case c5 => have := hb1.size; simp at this ⊢; omega
      intro v' w5 hown' hgrow _
      have hs1 := hb1.size
      simp at hs1
      have hbl5 : Below w.heap.size w w5 := ((bel_then (bel_box HX.out.2 _) hb1).alloc (by omega) _).grown hgrow (by simp; omega) (fun q hq => (HX.out.1.lt q hq).1)
      rw [HT.out] at hown'
      have HF := Hid.mk (And.intro hown' hbl5)
      clear hown' hgrow hbl5
      go_wp2
      go_roundw
      case rel => exact ⟨k + 1, by omega, by go_num, HF.out.1, HF.out.2⟩
      case measure => simp [intOf]; omega
    · have hke : k = r.length := by omega
      subst hke
      rw [List.take_of_length_le (Nat.le_refl _)] at hown
      have hown0 := hown
      obtain ⟨-, ⟨-, hn0⟩ | ⟨g, cap, cur, hve, hgB, -, hcap, hm, -, -⟩⟩ := hown
      · omega
      simp only [Value.slice.injEq, true_and] at hve
      obtain ⟨rfl, rfl⟩ := hve
      have hgl := (hown0.lt g rfl).2
      have hlen : (r.map fun x => (⟨(valL x).toArray⟩ : ByteArray)).length = r.length := by simp
      have hml : (r.map fun x => (⟨(valL x).toArray⟩ : ByteArray)).map (·.data.toList) = r.map valL := by rw [List.map_map]; exact List.map_congr_left fun x _ => rfl
      have hjl := join_le (r.map valL) (by simpa using h6) (by
        intro x hx
        rw [List.mem_map] at hx
        obtain ⟨y, hy, rfl⟩ := hx
        exact valL_len (HV.out.2.1 y hy))
      have hJ := Tryz.strings_Join g 0 lc (r.map fun x => (⟨(valL x).toArray⟩ : ByteArray)) ⟨#[32]⟩ wr (fun j x hx => by
        have hj : j < r.length := by have := (List.getElem?_eq_some_iff.1 hx).1; simpa using this
        rw [show 0 + j = j by omega, hown0.cellAt j (by omega)]
        unfold strCellsV
        rw [List.getElem?_map, hx]; rfl) hgl (by rw [hlen]; omega) (by rw [hlen]; exact hcap) (by rw [hml]; simpa using Nat.le_trans hjl (by decide))
      rw [hlen, hml] at hJ
      have HJ := Hid.mk hJ
      clear hJ hown0 hjl hml hlen
      go_wp2_with (go_at_call 81; refine HJ.out.mono ?_; rintro e w1 ⟨rfl, hb1⟩)
      go_ret
      exact ⟨rfl, bel_then HX.out.2 hb1⟩
end Go.Proofs.YtccbjhaebajamaaGreatDoor
