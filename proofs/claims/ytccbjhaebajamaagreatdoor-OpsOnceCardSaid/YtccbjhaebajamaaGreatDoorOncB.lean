import Derived.Test.YtccbjhaebajamaaGreatDoorOncA
import Derived.Maps.Own
import Derived.Maps.OwnOps
import Derived.Maps.Ext
set_option linter.unusedSimpArgs false
set_option linter.unusedVariables false
namespace Go.Proofs.YtccbjhaebajamaaGreatDoor
open Go.RowKit Go.WideMaps Go.Maps

/-- Rows, each once: the texts that were met, the rows that stay. -/
def distStep (acc : List (List UInt8) × List (List Vl)) (r : List Vl) : List (List UInt8) × List (List Vl) := if acc.1.contains (textL r) = true then acc else (acc.1 ++ [textL r], acc.2 ++ [r])
def distF (rs : List (List Vl)) : List (List UInt8) × List (List Vl) := rs.foldl distStep ([], [])
theorem dist_next (rs : List (List Vl)) (k : Nat) (hk : k < rs.length) : distF (rs.take (k + 1)) = distStep (distF (rs.take k)) rs[k] := by
  rw [List.take_succ_eq_append_getElem hk, distF, distF, List.foldl_append]; rfl
theorem dist_len (rs : List (List Vl)) : (distF rs).2.length ≤ rs.length := by
  have h : ∀ (l : List (List Vl)) acc, (l.foldl distStep acc).2.length ≤ acc.2.length + l.length := by
    intro l
    induction l with
    | nil => intro acc; simp
    | cons a l ih =>
      intro acc
      have := ih (distStep acc a)
      have hs : (distStep acc a).2.length ≤ acc.2.length + 1 := by unfold distStep; split <;> simp
      simp only [List.foldl_cons, List.length_cons]
      omega
  simpa [distF] using h rs ([], [])

theorem lawS : Keyed Tryz.prog 9 := string_keyed Tryz.underlying9
theorem zeroI (w : World) : (zeroValue 3).run Tryz.prog w = .ok (.int .i64 0) w := by kernel_rfl
theorem map_below {w w' : World} {b n : Nat} {D : DataW Unit} (h : w.ownsMap Tryz.prog 9 (plainElem Tryz.prog 3) b n D) (hb : Below w.heap.size w w') : w'.ownsMap Tryz.prog 9 (plainElem Tryz.prog 3) b n D := by
  have hl := h.lt
  obtain ⟨es, c, h1, h2⟩ := h
  exact ⟨es, c, (hb.block b hl).trans h1, h2⟩
/-- The map says which texts were met. -/
def Met (D : DataW Unit) (k : Nat) (ts : List (List UInt8)) : Prop := ∀ t : List UInt8, ∃ c : Int, D.atKey (.string t) (.lit (.int .i64 0)) = .lit (.int .i64 c) ∧ 0 ≤ c ∧ c ≤ (k : Int) ∧ (c = 0 ↔ ts.contains t = false)

theorem textOf_any (v : Value) (r : List Vl) (w : World) (hr : RowIs w v r) (h0 : 0 < r.length) (h6 : r.length ≤ 100) (hv : ∀ x ∈ r, rvB x = true) (hE : Env w) :
    Calls Tryz.prog 107 #[v] w fun e w' => e = .returned (.string ⟨(textL r).toArray⟩) ∧ Below w.heap.size w w' := by
  obtain ⟨a, c, rfl, -, h⟩ := hr
  rcases h with h | ⟨b, o, rfl, hl, hat⟩
  · rw [h] at h0; simp at h0
  · exact textOf_in b o c r w hl hat h0 h6 hv hE
theorem textL_len {r : List Vl} (h6 : r.length ≤ 100) (hv : ∀ x ∈ r, rvB x = true) : (textL r).length ≤ 100100 := by
  refine join_le _ (by simpa using h6) fun x hx => ?_
  obtain ⟨y, hy, rfl⟩ := List.mem_map.1 hx
  exact valL_len (hv y hy)
theorem lit_wf {n : Int} (h0 : 0 ≤ n) (h1 : n ≤ 1000) : (Lit.int .i64 n).wf = true := by
  have e : IntKind.i64.min = -9223372036854775808 := by decide
  simp [Lit.wf, IntKind.wrap, IntKind.signed, IntKind.bits]
  rw [e]
  omega
/-- The map, one text more met. -/
theorem met_next {D : DataW Unit} {k : Nat} {ts ts' : List (List UInt8)} {t0 : List UInt8} {c : Int} (hD : IsMap D) (h : Met D k ts) (hc : D.atKey (.string t0) (.lit (.int .i64 0)) = .lit (.int .i64 c)) (hc0 : 0 ≤ c) (hck : c ≤ (k : Int)) (h1 : ts'.contains t0 = true) (h2 : ∀ t, t ≠ t0 → ts'.contains t = ts.contains t) : Met (D.put (.string t0) (.lit (.int .i64 (c + 1)))) (k + 1) ts' := by
  intro t
  by_cases ht : t = t0
  · subst ht
    exact ⟨c + 1, atKey_put_same hD (by trivial) _ _, by omega, by omega, by rw [h1]; constructor <;> intro h <;> first | omega | cases h⟩
  · obtain ⟨d, e1, e2, e3, e4⟩ := h t
    refine ⟨d, ?_, e2, by omega, by rw [h2 t ht]; exact e4⟩
    rw [atKey_put_other (by simpa using ht)]
    exact e1

theorem own_not_map {w : World} {B : Nat} {e : TypeId} {z m : Nat} {u : Value} {xs : List Value} {b n : Nat} {D : DataW Unit} (h : w.ownsRow B e z u m xs) (hm : w.ownsMap Tryz.prog 9 (plainElem Tryz.prog 3) b n D) : u.ownBlock = none ∨ u.ownBlock ≠ some b := by
  cases hu : u.ownBlock with
  | none => exact Or.inl rfl
  | some g =>
    refine Or.inr fun e => ?_
    injection e with e
    subst e
    obtain ⟨es, c, h1, -⟩ := hm
    obtain ⟨-, ⟨rfl, -⟩ | ⟨g', cap, cur, rfl, hg, hh, -⟩⟩ := h
    · simp [Value.ownBlock] at hu
    · simp [Value.ownBlock] at hu
      subst hu
      rw [h1] at hh
      cases hh
theorem HeldRows.keptMap {w w' : World} {B b n : Nat} {D : DataW Unit} {us : List Value} {rs : List (List Vl)} (h : HeldRows w B us rs) (hm : w.ownsMap Tryz.prog 9 (plainElem Tryz.prog 3) b n D) (hg : w.grownBy w' (some b)) : HeldRows w' B us rs :=
  ⟨h.1, fun j hj hj' => ⟨(h.2 j hj hj').1.kept hg (own_not_map (h.2 j hj hj').1 hm), (h.2 j hj hj').2⟩⟩

set_option maxRecDepth 100000 in
set_option maxHeartbeats 1600000 in
theorem distinct_any (v : Value) (rs : List (List Vl)) (us : List Value) (B : Nat) (w : World) (hv : w.ownsRow B 48 1 v rs.length us) (hH : HeldRows w B us rs) (h1 : ∀ r ∈ rs, 0 < r.length ∧ r.length ≤ 100 ∧ ∀ x ∈ r, rvB x = true) (h60 : rs.length ≤ 100) (hE : Env w) :
    Calls Tryz.prog 76 #[v] w fun e w' => ∃ v1 us1, e = .returned v1 ∧ w'.ownsRow w.heap.size 48 1 v1 (distF rs).2.length us1 ∧ HeldRows w' B us1 (distF rs).2 ∧ Below w.heap.size w w' := by
  obtain ⟨i0, hi, hz0, hz1, hz2⟩ := info_parts Tryz.infoRow
  have hmm := @run_makeMap Tryz.prog
  have HV := Hid.mk (And.intro hv (And.intro hH (And.intro h1 hE)))
  obtain ⟨va, vcp, rfl⟩ := own_slice hv
  clear hv hH h1 hE
  go_enter Tryz.func76, Tryz.ntmps76
  go_wp2
  go_loopw [4, 11] (fun l i wr => ∃ (k n : Nat) (D : DataW Unit) (us1 : List Value), k ≤ rs.length ∧ i = .int .i64 k ∧ n ≤ k ∧ wr.ownsMap Tryz.prog 9 (plainElem Tryz.prog 3) w.heap.size n D ∧ Met D k (distF (rs.take k)).1 ∧ wr.ownsRow (w.heap.size + 1) 48 1 l (distF (rs.take k)).2.length us1 ∧ HeldRows wr B us1 (distF (rs.take k)).2 ∧ Below w.heap.size w wr) (fun _ i _ => rs.length - (intOf i).toNat)
  case atStart => exact ⟨0, 0, .map [], [], Nat.zero_le _, rfl, Nat.le_refl _, World.ownsMap_made _ _ _ _, fun t => ⟨0, rfl, by omega, by omega, by simp [distF]⟩, World.ownsRow_nil _ _ _ _, HeldRows.nil _ _, below_box _ _⟩
  case round =>
    obtain ⟨k, n, D, us1, hk, rfl, hnk, hmap, hmet, hown, hheld, hnx⟩ := hrel
    obtain ⟨la, lc, rfl⟩ := own_slice hown
    have hws := hnx.size
    by_cases hlt : k < rs.length
    · obtain ⟨hv, hH, h1, hE⟩ := HV.out
      obtain ⟨g, c, u, hve, hgl, hcu, huo, hus⟩ := held_at hv hH k hlt
      simp only [Value.slice.injEq, true_and] at hve
      obtain ⟨rfl, rfl⟩ := hve
      have cu := (hnx.cell (p := ⟨g, k, none⟩) hgl).trans hcu
      have huo' := owns_below huo hnx
      obtain ⟨hr0, hr100, hrv⟩ := h1 _ (List.getElem_mem hlt)
      have HT := Hid.mk (textOf_any u rs[k] wr (row_of_own huo' hus) hr0 hr100 hrv (hE.below hnx))
      have htl := textL_len hr100 hrv
      have hkey : keyOf Tryz.prog 9 (.string ⟨(textL rs[k]).toArray⟩) = some (.string (textL rs[k])) := keyOf_string_mk Tryz.underlying9 (by show (textL rs[k]).toArray.size ≤ _; rw [List.size_toArray]; unfold maxLen; omega)
      obtain ⟨ct, hat, hc0, hck, hciff⟩ := hmet (textL rs[k])
      have hdn := dist_next rs k hlt
      obtain ⟨ua, uc, rfl⟩ := own_slice huo
      have hdl := dist_len (rs.take k)
      rw [List.length_take] at hdl
      have HX := Hid.mk (And.intro hmap (And.intro hmet (And.intro hown (And.intro hheld hnx))))
      have HU := Hid.mk (And.intro huo' hus)
      have HA := Hid.mk hat
      have hLK := fun W (hW : Below wr.heap.size wr W) => (map_below HX.out.1 hW).lookup_int lawS Tryz.underlying149 Tryz.underlying3 (zeroI W) hkey
      have hD : IsMap D := hmap.isMap
      generalize rs[k] = r at *
      generalize distF (rs.take k) = dk at *
      have hc1k : ∀ (c1 : Int), D.atKey (.string (textL r)) (.lit (.int .i64 0)) = .lit (.int .i64 c1) → c1 = ct := fun c1 h => by rw [HA.out] at h; injection h with h; injection h with _ h; exact h.symm
      have HC1 := Hid.mk hc1k
      have HLK := Hid.mk hLK
      have HDD := Hid.mk hD
      have hk100 : (k : Int) ≤ 100 := by omega
      clear hc1k hLK hD hat hmet hmap hown hheld hnx hv hH h1 hE huo huo' hus hcu htl hr0 hr100 hrv
      cases hs : dk.1.contains (textL r)
      · obtain rfl : ct = 0 := hciff.2 hs
        have HDN := Hid.mk (show distF (rs.take (k + 1)) = (dk.1 ++ [textL r], dk.2 ++ [r]) by rw [hdn, distStep, if_neg (by rw [hs]; decide)])
        have HS := Hid.mk hs
        clear hdn hs hciff
        go_wp2_with (first | (go_at_call 107; refine HT.out.mono ?_; rintro e w1 ⟨rfl, hb1⟩; obtain ⟨c1, hrun1, hat1, -⟩ := HLK.out w1 hb1; obtain rfl := HC1.out c1 hat1; clear hat1) | (at_builtin; refine wpList_append_own _ rfl _ _ 23 rfl (w.heap.size + 1) 48 i0 (.slice none 0 0) 1 24 Tryz.underlying23 hi hz0 hz1 hz2 rfl (by decide) _ _ _ rfl ((owns_below HX.out.2.2.1 hb1).alloc _) ⟨w1.heap.size, 0, none⟩ 1 1 [.slice ua r.length uc] rfl rfl (news1 _ _ _ _ rfl) (one1s _ _ _) ?c3 ?c4 ?c5 ?_))
        case c3 => unfold maxLen; omega
        case c4 => omega
        case c5 => have := hb1.size; simp; omega
        intro v' w5 hown' hgrow _
        have hs1 := hb1.size
        have hO1 := (owns_below HX.out.2.2.1 hb1).alloc (.cells #[.slice ua r.length uc] 48)
        have hm1 := (map_below HX.out.1 hb1).alloc (.cells #[.slice ua r.length uc] 48)
        have hm5 := hm1.kept hgrow (by
          rcases own_not_map hO1 hm1 with h | h
          · rw [h]; simp
          · exact fun e => h e.symm)
        have hbl5 : Below w.heap.size w w5 := ((bel_then HX.out.2.2.2.2 hb1).alloc (by omega) _).grown hgrow (by simp; omega) (fun q hq => by have := (HX.out.2.2.1.lt q hq).1; omega)
        have hH5 := ((HX.out.2.2.2.1.below hb1).below (below_box w1 (.cells #[.slice ua r.length uc] 48))).grow hO1 hgrow
        have hu1 := (owns_below HU.out.1 hb1).alloc (.cells #[.slice ua r.length uc] 48)
        have hH6 := hH5.snoc (hu1.kept hgrow (own_ne (by decide) hu1 hO1)) HU.out.2
        obtain ⟨c5, hrun5, hat5, -⟩ := hm5.lookup_int lawS Tryz.underlying149 Tryz.underlying3 (zeroI w5) hkey
        obtain rfl := HC1.out c5 hat5
        have HM := Hid.mk hm5
        have HF5 := Hid.mk (And.intro hown' (And.intro hH6 hbl5))
        obtain ⟨v'a, v'c, rfl⟩ := own_slice hown'
        clear hown' hgrow hm1 hm5 hbl5 hH5 hu1 hH6 hO1 hat5 hrun1
        go_wp2_with (at_mapUpdate; refine wpList_mapUpdate_own _ rfl _ _ _ 149 rfl 9 3 lawS Tryz.underlying149 _ w.heap.size n D rfl HM.out (by unfold maxLen; omega) _ _ (.string (textL r)) rfl rfl hkey _ [] (plainElem_int Tryz.underlying3 (lit_wf (by omega) (by omega))) ?_)
        intro w2 hown2 hgrow2
        have hbl := HF5.out.2.2.grown hgrow2 (by have := HF5.out.2.2.size; omega) (fun q hq => by cases hq; exact Nat.le_refl _)
        have hl2 := HF5.out.1.kept hgrow2 (own_not_map HF5.out.1 HM.out)
        have hh2 := HF5.out.2.1.keptMap HM.out hgrow2
        have HF := Hid.mk (And.intro hown2 (And.intro hl2 (And.intro hh2 hbl)))
        have HME := Hid.mk (met_next (ts' := dk.1 ++ [textL r]) HDD.out HX.out.2.1 HA.out hc0 hck (by simp) (fun t ht => by simp [ht]))
        clear hown2 hgrow2 hl2 hh2 hbl
        go_wp2
        go_roundw
        case rel => exact ⟨k + 1, n + 1, _, us1 ++ [.slice ua r.length uc], by omega, by go_num, by omega, HF.out.1, by rw [HDN.out]; exact HME.out, by rw [HDN.out]; simpa using HF.out.2.1, by rw [HDN.out]; exact HF.out.2.2.1, HF.out.2.2.2⟩
        case measure => simp [intOf]; omega
      · have hct : (ct == 0) = false := by
          have : ct ≠ 0 := fun h => by rw [hciff.1 h] at hs; cases hs
          simpa using this
        have HDN := Hid.mk (show distF (rs.take (k + 1)) = dk by rw [hdn, distStep, if_pos hs])
        have HS := Hid.mk hs
        clear hdn hs hciff
        go_wp2_with (first | (go_at_call 107; refine HT.out.mono ?_; rintro e w1 ⟨rfl, hb1⟩; obtain ⟨c1, hrun1, hat1, -⟩ := HLK.out w1 hb1; obtain rfl := HC1.out c1 hat1; clear hat1; have HM := Hid.mk (map_below HX.out.1 hb1)) | (at_mapUpdate; refine wpList_mapUpdate_own _ rfl _ _ _ 149 rfl 9 3 lawS Tryz.underlying149 _ w.heap.size n D rfl HM.out (by unfold maxLen; omega) _ _ (.string (textL r)) rfl rfl hkey _ [] (plainElem_int Tryz.underlying3 (lit_wf (by omega) (by omega))) ?_))
        intro w2 hown2 hgrow2
        have hs1 := hb1.size
        have hbl := (bel_then HX.out.2.2.2.2 hb1).grown hgrow2 (by omega) (fun q hq => by cases hq; exact Nat.le_refl _)
        have hl2 := (owns_below HX.out.2.2.1 hb1).kept hgrow2 (own_not_map (owns_below HX.out.2.2.1 hb1) HM.out)
        have hh2 := (HX.out.2.2.2.1.below hb1).keptMap HM.out hgrow2
        have HF := Hid.mk (And.intro hown2 (And.intro hl2 (And.intro hh2 hbl)))
        have HME := Hid.mk (met_next HDD.out HX.out.2.1 HA.out hc0 hck HS.out (fun t _ => rfl))
        clear hown2 hgrow2 hl2 hh2 hbl
        go_wp2
        go_roundw
        case rel => exact ⟨k + 1, n + 1, _, us1, by omega, by go_num, by omega, HF.out.1, by rw [HDN.out]; exact HME.out, by rw [HDN.out]; exact HF.out.2.1, by rw [HDN.out]; exact HF.out.2.2.1, HF.out.2.2.2⟩
        case measure => simp [intOf]; omega
    · have hke : k = rs.length := by omega
      subst hke
      simp only [List.take_length] at hown hheld
      have HX := Hid.mk (And.intro hown (And.intro hheld hnx))
      simp only [List.take_length]
      clear hown hheld hnx hmap hmet
      go_wp2
      go_ret
      exact ⟨_, us1, rfl, own_mono (by omega) HX.out.1, HX.out.2.1, HX.out.2.2⟩
end Go.Proofs.YtccbjhaebajamaaGreatDoor
