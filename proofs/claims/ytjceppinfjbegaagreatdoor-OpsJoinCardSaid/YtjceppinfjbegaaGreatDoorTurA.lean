import Derived.Test.YtjceppinfjbegaaGreatDoorOpsQ
set_option linter.unusedSimpArgs false
set_option linter.unusedVariables false
namespace Go.Proofs.YtjceppinfjbegaaGreatDoor
open Go.RowKit

/-- What is wrong with names of columns, some ahead (0: nothing). -/
def lerr (cs : List Cl) (seen : List ByteArray) : List ByteArray → Int
  | [] => 0
  | s :: r => if placeN cs s.data.toList = none then 7 else if inS seen s.data.toList = true then 9 else lerr cs (seen ++ [s]) r
def listErr (cs : List Cl) (ss : List ByteArray) : Int := if ss.length = 0 ∨ 6 < ss.length then 1 else lerr cs [] ss
theorem lerr_step (cs : List Cl) (ss : List ByteArray) (k : Nat) (hk : k < ss.length) : lerr cs (ss.take k) (ss.drop k) = if placeN cs ss[k].data.toList = none then 7 else if inS (ss.take k) ss[k].data.toList = true then 9 else lerr cs (ss.take (k + 1)) (ss.drop (k + 1)) := by
  rw [List.drop_eq_getElem_cons hk, lerr, List.take_succ_eq_append_getElem hk]
theorem StrsAt.take {w : World} {b o : Nat} {ss : List ByteArray} (h : StrsAt w b o ss) (k : Nat) : StrsAt w b o (ss.take k) := fun j hj => by
  rw [List.getElem_take]
  exact h j (by rw [List.length_take] at hj; omega)

set_option maxHeartbeats 800000 in
theorem wrongList_few (va : Option Addr) (n vcap : Nat) (vc : Value) (w : World) (h : n = 0 ∨ 6 < n) (hn : n ≤ maxLen) :
    Calls Tryz.prog 64 #[.slice va n vcap, vc] w fun e w' => e = .returned (errV 1) ∧ Below w.heap.size w w' := by
  rw [errV_ne (by decide)]
  unfold maxLen at hn
  by_cases h0 : n = 0
  · subst h0
    clear h
    go_enter Tryz.func64, Tryz.ntmps64
    go_wp2
    go_ret
    exact ⟨rfl, Below.refl _ _⟩
  · have h6 : (6 : Int) < (n : Int) := by omega
    have h0' : ((n : Int) == 0) = false := by simp; omega
    clear h
    go_enter Tryz.func64, Tryz.ntmps64
    go_wp2
    go_ret
    exact ⟨rfl, Below.refl _ _⟩

set_option maxRecDepth 100000 in
set_option maxHeartbeats 1600000 in
theorem wrongList_in (nb no nc b o n c m : Nat) (ss : List ByteArray) (cs : List Cl) (w : World) (hm : ss.length = m) (hm0 : 0 < m) (hm6 : m ≤ 6) (hcap : m ≤ nc) (hnb : nb < w.heap.size) (hs : StrsAt w nb no ss) (hn : cs.length = n) (hn' : n ≤ 100) (hb : b < w.heap.size) (hc : ColsAt w b o cs) :
    Calls Tryz.prog 64 #[.slice (some ⟨nb, no, none⟩) m nc, .slice (some ⟨b, o, none⟩) n c] w fun e w' => e = .returned (errV (lerr cs [] ss)) ∧ Below w.heap.size w w' := by
  have HP := Hid.mk (fun W (h1 : Below w.heap.size w W) nm => place_in b o n c cs nm W hn hn' (by have := h1.size; omega) (hc.below h1 hb))
  have HS := Hid.mk hs
  have HM := Hid.mk hm
  have h0' : ((m : Int) == 0) = false := by simp; omega
  have h6' : ¬ ((6 : Int) < (m : Int)) := by omega
  have HH := Hid.mk (And.intro hn hc)
  clear hn hc hs hm
  go_enter Tryz.func64, Tryz.ntmps64
  go_wp2
  go_loopw [18] (fun i wr => ∃ k : Nat, k ≤ m ∧ i = .int .i64 k ∧ lerr cs [] ss = lerr cs (ss.take k) (ss.drop k) ∧ Below w.heap.size w wr) (fun i _ => m - (intOf i).toNat)
  case atStart => exact ⟨0, Nat.zero_le _, rfl, by simp, Below.refl _ _⟩
  case round =>
    obtain ⟨k, hk, rfl, hle, hnx⟩ := hrel
    have HX := Hid.mk (And.intro hle hnx)
    by_cases hlt : k < m
    · have hk2 : k < ss.length := by have := HM.out; omega
      have d1 := (hnx.cell (p := ⟨nb, no + k, none⟩) hnb).trans (HS.out k hk2)
      have hst := lerr_step cs ss k hk2
      have HP1 := Hid.mk (fun nm => HP.out wr hnx nm)
      have HC := Hid.mk (fun W (hW : Below wr.heap.size wr W) x => containsS_any nb no k nc (ss.take k) x W (by rw [List.length_take]; omega) (by omega) ((HS.out.below hnx hnb).take k |>.below hW (by have := hnx.size; omega)))
      have hkm : (k : Int) ≤ (nc : Int) := by omega
      clear hle hnx
      generalize hsk : ss[k] = sk at *
      cases gp : placeN cs sk.data.toList with
      | none =>
        have hP := HP1.out sk
        rw [show placeI cs sk.data.toList = -1 by rw [placeI, gp]] at hP
        rw [gp, if_pos rfl] at hst
        have HPP := Hid.mk hP
        have HST := Hid.mk (HX.out.1.trans hst)
        clear hP gp hst hsk HP1 HC
        go_wp2_with (go_at_call 71; refine HPP.out.mono ?_; rintro e w1 ⟨rfl, hb1⟩)
        go_ret
        refine ⟨?_, bel_then HX.out.2 hb1⟩
        rw [HST.out, errV_ne (by decide)]; rfl
      | some q =>
        have hP := HP1.out sk
        rw [show placeI cs sk.data.toList = (q : Int) by rw [placeI, gp]] at hP
        rw [gp, if_neg (by simp)] at hst
        have HPP := Hid.mk hP
        clear hP gp HP1
        cases gi : inS (ss.take k) sk.data.toList
        · rw [gi, if_neg (by simp)] at hst
          have HST := Hid.mk (HX.out.1.trans hst)
          have HCF := Hid.mk (fun W (hW : Below wr.heap.size wr W) => by have := HC.out W hW sk; rw [gi] at this; exact this)
          clear hst hsk gi HC
          go_wp2_with (first | (go_at_call 71; refine HPP.out.mono ?_; rintro e w1 ⟨rfl, hb1⟩) | (go_at_call 103; refine (HCF.out _ hb1).mono ?_; rintro e w2 ⟨rfl, rfl⟩))
          go_roundw
          case rel => exact ⟨k + 1, by omega, by go_num, HST.out, bel_then HX.out.2 hb1⟩
          case measure => simp [intOf]; omega
        · rw [gi, if_pos rfl] at hst
          have HST := Hid.mk (HX.out.1.trans hst)
          have HCF := Hid.mk (fun W (hW : Below wr.heap.size wr W) => by have := HC.out W hW sk; rw [gi] at this; exact this)
          clear hst hsk gi HC
          go_wp2_with (first | (go_at_call 71; refine HPP.out.mono ?_; rintro e w1 ⟨rfl, hb1⟩) | (go_at_call 103; refine (HCF.out _ hb1).mono ?_; rintro e w2 ⟨rfl, rfl⟩))
          go_ret
          refine ⟨?_, bel_then HX.out.2 hb1⟩
          rw [HST.out, errV_ne (by decide)]; rfl
    · have hke : k = m := by omega
      subst hke
      have HE := Hid.mk (show lerr cs [] ss = 0 by rw [hle, List.drop_of_length_le (by have := HM.out; omega)]; rfl)
      clear hle hnx
      go_wp2
      go_ret
      rw [HE.out, errV_0]
      exact ⟨rfl, HX.out.2⟩

theorem Tryz.infoInt : (Tryz.prog.info? 3).map (fun i => (i.zero, i.size, i.bytes)) = some (some (.int .i64 0), 1, 8) := by kernel_rfl
/-- Numbers in a list. -/
def intCells (ks : List Nat) : List Value := ks.map fun (k : Nat) => .int .i64 (k : Int)
def IntsAt (w : World) (b o : Nat) (ks : List Nat) : Prop := ∀ (j : Nat) (h : j < ks.length), w.cell? ⟨b, o + j, none⟩ = some (.int .i64 (ks[j] : Int))
theorem IntsAt.below {w w' : World} {B b o : Nat} {ks : List Nat} (h : IntsAt w b o ks) (hb : Below B w w') (hlt : b < B) : IntsAt w' b o ks := fun j hj => (hb.cell (p := ⟨b, o + j, none⟩) hlt).trans (h j hj)
theorem ints_of {w : World} {B : Nat} {v : Value} {ks : List Nat} (h : w.ownsRow B 3 1 v ks.length (intCells ks)) (h0 : 0 < ks.length) : ∃ g c, v = .slice (some ⟨g, 0, none⟩) ks.length c ∧ B ≤ g ∧ g < w.heap.size ∧ IntsAt w g 0 ks := by
  obtain ⟨g, c, rfl, hB, hl, hc⟩ := tab_cells h h0
  exact ⟨g, c, rfl, hB, hl, fun j hj => hc j _ (by rw [intCells, List.getElem?_map, List.getElem?_eq_getElem hj]; rfl)⟩
theorem one1i (k : IntKind) (n : Int) : ∀ u ∈ [Value.int k n], u.oneCell' = true := by intro u hu; simp at hu; subst hu; rfl
theorem one3 (a b : Int) (s : ByteArray) : ∀ u ∈ [Value.int .i64 a, .int .i64 b, .string s], u.oneCell' = true := by intro u hu; simp at hu; rcases hu with rfl | rfl | rfl <;> rfl
theorem one2 (b : Int) (s : ByteArray) : ∀ u ∈ [Value.string s, .int .i64 b], u.oneCell' = true := by intro u hu; simp at hu; rcases hu with rfl | rfl <;> rfl
theorem news3 (w : World) (a b c : Value) (t : TypeId) (H : Nat) (hH : w.heap.size = H) : ∀ j u, [a, b, c][j]? = some u → (w.alloc (.cells #[a, b, c] t)).cell? ((⟨H, 0, none⟩ : Addr).add j) = some u := by
  intro j u hj
  subst hH
  match j, hj with
  | 0, hj => simp at hj; subst hj; simp [Addr.add]
  | 1, hj => simp at hj; subst hj; simp [Addr.add]
  | 2, hj => simp at hj; subst hj; simp [Addr.add]
theorem news2 (w : World) (a b : Value) (t : TypeId) (H : Nat) (hH : w.heap.size = H) : ∀ j u, [a, b][j]? = some u → (w.alloc (.cells #[a, b] t)).cell? ((⟨H, 0, none⟩ : Addr).add j) = some u := by
  intro j u hj
  subst hH
  match j, hj with
  | 0, hj => simp at hj; subst hj; simp [Addr.add]
  | 1, hj => simp at hj; subst hj; simp [Addr.add]

set_option maxRecDepth 100000 in
set_option maxHeartbeats 1600000 in
/-- places: where columns stand. -/
theorem places_in (nb no nc b o n c m : Nat) (ss : List ByteArray) (ks : List Nat) (cs : List Cl) (w : World) (hm : ss.length = m) (hm6 : m ≤ 100) (hnb : nb < w.heap.size) (hs : StrsAt w nb no ss) (hn : cs.length = n) (hn' : n ≤ 100) (hb : b < w.heap.size) (hc : ColsAt w b o cs) (hkl : ks.length = m) (hks : ∀ j (h : j < ss.length) (h' : j < ks.length), placeN cs ss[j].data.toList = some ks[j]) :
    Calls Tryz.prog 69 #[.slice (some ⟨b, o, none⟩) n c, .slice (some ⟨nb, no, none⟩) m nc] w fun e w' => ∃ v, e = .returned v ∧ w'.ownsRow w.heap.size 3 1 v ks.length (intCells ks) ∧ Below w.heap.size w w' := by
  obtain ⟨i0, hi, hz0, hz1, hz2⟩ := info_parts Tryz.infoInt
  have HP := Hid.mk (fun W (h1 : Below w.heap.size w W) nm => place_in b o n c cs nm W hn hn' (by have := h1.size; omega) (hc.below h1 hb))
  have HS := Hid.mk hs
  have HM := Hid.mk (And.intro hm (And.intro hkl hks))
  clear hn hc hs hm hkl hks
  go_enter Tryz.func69, Tryz.ntmps69
  go_wp2
  go_loopw [5, 10] (fun l i wr => ∃ k : Nat, k ≤ m ∧ i = .int .i64 k ∧ wr.ownsRow w.heap.size 3 1 l k (intCells (ks.take k)) ∧ Below w.heap.size w wr) (fun _ i _ => m - (intOf i).toNat)
  case atStart => exact ⟨0, Nat.zero_le _, rfl, World.ownsRow_nil _ _ _ _, Below.refl _ _⟩
  case round =>
    obtain ⟨k, hk, rfl, hown, hnx⟩ := hrel
    obtain ⟨la, lc, rfl⟩ := own_slice hown
    have HX := Hid.mk (And.intro hown hnx)
    have hws := hnx.size
    by_cases hlt : k < m
    · have hk2 : k < ss.length := by have := HM.out.1; omega
      have hk3 : k < ks.length := by have := HM.out.2.1; omega
      have d1 := (hnx.cell (p := ⟨nb, no + k, none⟩) hnb).trans (HS.out k hk2)
      have hP := HP.out wr hnx ss[k]
      rw [show placeI cs ss[k].data.toList = ((ks[k] : Nat) : Int) by rw [placeI, HM.out.2.2 k hk2 hk3]] at hP
      have HPP := Hid.mk hP
      have HT := Hid.mk (show intCells (ks.take k) ++ [.int .i64 ((ks[k] : Nat) : Int)] = intCells (ks.take (k + 1)) by rw [List.take_succ_eq_append_getElem hk3, intCells, intCells, List.map_append]; rfl)
      clear hown hnx hP
      generalize ss[k] = sk at *
      generalize ks[k] = kk at *
      go_wp2_with (first | (go_at_call 71; refine HPP.out.mono ?_; rintro e w1 ⟨rfl, hb1⟩) | (at_builtin; refine wpList_append_own _ rfl _ _ 83 rfl w.heap.size 3 i0 (.int .i64 0) 1 8 Tryz.underlying83 hi hz0 hz1 hz2 rfl (by decide) _ _ _ rfl ((owns_below HX.out.1 hb1).alloc _) ⟨w1.heap.size, 0, none⟩ 1 1 [.int .i64 (kk : Int)] rfl rfl (news1 _ _ _ _ rfl) (one1i _ _) ?c3 ?c4 ?c5 ?_))
      case c3 => unfold maxLen; omega
      case c4 => omega
      case c5 => have := hb1.size; simp; omega
      intro v' w5 hown' hgrow _
      have hs1 := hb1.size
      have hbl5 : Below w.heap.size w w5 := ((bel_then HX.out.2 hb1).alloc (by omega) _).grown hgrow (by simp; omega) (fun q hq => (HX.out.1.lt q hq).1)
      rw [HT.out] at hown'
      have HF := Hid.mk (And.intro hown' hbl5)
      clear hown' hgrow hbl5
      go_wp2
      go_roundw
      case rel => exact ⟨k + 1, by omega, by go_num, HF.out.1, HF.out.2⟩
      case measure => simp [intOf]; omega
    · have hke : k = m := by omega
      subst hke
      rw [List.take_of_length_le (by have := HM.out.2.1; omega)] at hown
      have HO := Hid.mk hown
      clear hown hnx
      go_wp2
      go_ret
      refine ⟨_, rfl, ?_, HX.out.2⟩
      rw [HM.out.2.1]
      exact HO.out

/-- What is picked of a row. -/
def pickV (ks : List Nat) (r : List Vl) : List Vl := ks.map fun k => r[k]?.getD (0, 0, ⟨#[]⟩)
def pickC (ks : List Nat) (cs : List Cl) : List Cl := ks.map fun k => cs[k]?.getD (⟨#[]⟩, 0)

set_option maxRecDepth 100000 in
set_option maxHeartbeats 1600000 in
theorem pickedV_in (rb ro rc b o c : Nat) (r : List Vl) (ks : List Nat) (w : World) (hr : ValsAt w rb ro r) (hrb : rb < w.heap.size) (hk : IntsAt w b o ks) (hb : b < w.heap.size) (hlt : ∀ k ∈ ks, k < r.length) (h100 : ks.length ≤ 100) (hr100 : r.length ≤ 100) :
    Calls Tryz.prog 120 #[.slice (some ⟨rb, ro, none⟩) r.length rc, .slice (some ⟨b, o, none⟩) ks.length c] w fun e w' => ∃ v, e = .returned v ∧ w'.ownsRow w.heap.size 24 3 v ks.length (valCells (pickV ks r)) ∧ Below w.heap.size w w' := by
  obtain ⟨i0, hi, hz0, hz1, hz2⟩ := info_parts Tryz.infoVal
  have HS := Hid.mk (And.intro hr (And.intro hk hlt))
  clear hr hk hlt
  go_enter Tryz.func120, Tryz.ntmps120
  go_wp2
  go_loopw [5, 10] (fun l i wr => ∃ k : Nat, k ≤ ks.length ∧ i = .int .i64 k ∧ wr.ownsRow w.heap.size 24 3 l k (valCells (pickV (ks.take k) r)) ∧ Below w.heap.size w wr) (fun _ i _ => ks.length - (intOf i).toNat)
  case atStart => exact ⟨0, Nat.zero_le _, rfl, World.ownsRow_nil _ _ _ _, Below.refl _ _⟩
  case round =>
    obtain ⟨k, hk, rfl, hown, hnx⟩ := hrel
    obtain ⟨la, lc, rfl⟩ := own_slice hown
    have HX := Hid.mk (And.intro hown hnx)
    have hws := hnx.size
    by_cases hlt : k < ks.length
    · obtain ⟨hr, hkk, hl⟩ := HS.out
      have hq := hl _ (List.getElem_mem hlt)
      have d1 := (hnx.cell (p := ⟨b, o + k, none⟩) hb).trans (hkk k hlt)
      obtain ⟨e0, e1, e2⟩ := hr _ hq
      have d2 := (hnx.cell (p := ⟨rb, ro + ks[k] * 3, none⟩) hrb).trans e0
      have d3 := (hnx.cell (p := ⟨rb, ro + ks[k] * 3 + 1, none⟩) hrb).trans e1
      have d4 := (hnx.cell (p := ⟨rb, ro + ks[k] * 3 + 2, none⟩) hrb).trans e2
      have HT := Hid.mk (show valCells (pickV (ks.take k) r) ++ [.int .i64 r[ks[k]].1, .int .i64 r[ks[k]].2.1, .string r[ks[k]].2.2] = valCells (pickV (ks.take (k + 1)) r) by
        rw [List.take_succ_eq_append_getElem hlt, pickV, pickV, List.map_append, valCells_append]
        simp [valCells, List.getElem?_eq_getElem hq])
      have hq' : ((ks[k] : Nat) : Int) < (r.length : Int) := by omega
      generalize r[ks[k]] = x at *
      generalize ks[k] = kk at *
      clear hown hnx hr hkk hl e0 e1 e2 hq
      go_wp2_with (at_builtin; refine wpList_append_own _ rfl _ _ 62 rfl w.heap.size 24 i0 (.agg #[.int .i64 0, .int .i64 0, .string ⟨#[]⟩]) 3 32 Tryz.underlying62 hi hz0 hz1 hz2 rfl (by decide) _ _ _ rfl (HX.out.1.alloc _) ⟨wr.heap.size, 0, none⟩ 1 1 [.int .i64 x.1, .int .i64 x.2.1, .string x.2.2] rfl rfl (news3 _ _ _ _ _ _ rfl) (one3 _ _ _) ?c3 ?c4 ?c5 ?_)
      case c3 => unfold maxLen; omega
      case c4 => omega
      case c5 => simp; omega
      intro v' w5 hown' hgrow _
      have hbl5 : Below w.heap.size w w5 := (HX.out.2.alloc (by omega) _).grown hgrow (by simp; omega) (fun q hq => (HX.out.1.lt q hq).1)
      rw [HT.out] at hown'
      have HF := Hid.mk (And.intro hown' hbl5)
      clear hown' hgrow hbl5
      go_wp2
      go_roundw
      case rel => exact ⟨k + 1, by omega, by go_num, HF.out.1, HF.out.2⟩
      case measure => simp [intOf]; omega
    · have hke : k = ks.length := by omega
      subst hke
      rw [List.take_of_length_le (Nat.le_refl _)] at hown
      have HO := Hid.mk hown
      clear hown hnx
      go_wp2
      go_ret
      exact ⟨_, rfl, HO.out, HX.out.2⟩

set_option maxRecDepth 100000 in
set_option maxHeartbeats 1600000 in
theorem pickedC_in (rb ro rc b o c : Nat) (r : List Cl) (ks : List Nat) (w : World) (hr : ColsAt w rb ro r) (hrb : rb < w.heap.size) (hk : IntsAt w b o ks) (hb : b < w.heap.size) (hlt : ∀ k ∈ ks, k < r.length) (h100 : ks.length ≤ 100) (hr100 : r.length ≤ 100) :
    Calls Tryz.prog 68 #[.slice (some ⟨rb, ro, none⟩) r.length rc, .slice (some ⟨b, o, none⟩) ks.length c] w fun e w' => ∃ v, e = .returned v ∧ w'.ownsRow w.heap.size 60 2 v ks.length (colCells (pickC ks r)) ∧ Below w.heap.size w w' := by
  obtain ⟨i0, hi, hz0, hz1, hz2⟩ := info_parts Tryz.infoCol
  have HS := Hid.mk (And.intro hr (And.intro hk hlt))
  clear hr hk hlt
  go_enter Tryz.func68, Tryz.ntmps68
  go_wp2
  go_loopw [5, 10] (fun l i wr => ∃ k : Nat, k ≤ ks.length ∧ i = .int .i64 k ∧ wr.ownsRow w.heap.size 60 2 l k (colCells (pickC (ks.take k) r)) ∧ Below w.heap.size w wr) (fun _ i _ => ks.length - (intOf i).toNat)
  case atStart => exact ⟨0, Nat.zero_le _, rfl, World.ownsRow_nil _ _ _ _, Below.refl _ _⟩
  case round =>
    obtain ⟨k, hk, rfl, hown, hnx⟩ := hrel
    obtain ⟨la, lc, rfl⟩ := own_slice hown
    have HX := Hid.mk (And.intro hown hnx)
    have hws := hnx.size
    by_cases hlt : k < ks.length
    · obtain ⟨hr, hkk, hl⟩ := HS.out
      have hq := hl _ (List.getElem_mem hlt)
      have d1 := (hnx.cell (p := ⟨b, o + k, none⟩) hb).trans (hkk k hlt)
      obtain ⟨e0, e1⟩ := hr _ hq
      have d2 := (hnx.cell (p := ⟨rb, ro + ks[k] * 2, none⟩) hrb).trans e0
      have d3 := (hnx.cell (p := ⟨rb, ro + ks[k] * 2 + 1, none⟩) hrb).trans e1
      have HT := Hid.mk (show colCells (pickC (ks.take k) r) ++ [.string r[ks[k]].1, .int .i64 r[ks[k]].2] = colCells (pickC (ks.take (k + 1)) r) by
        rw [List.take_succ_eq_append_getElem hlt, pickC, pickC, List.map_append]
        simp [colCells, List.getElem?_eq_getElem hq])
      have hq' : ((ks[k] : Nat) : Int) < (r.length : Int) := by omega
      generalize r[ks[k]] = x at *
      generalize ks[k] = kk at *
      clear hown hnx hr hkk hl e0 e1 hq
      go_wp2_with (at_builtin; refine wpList_append_own _ rfl _ _ 33 rfl w.heap.size 60 i0 (.agg #[.string ⟨#[]⟩, .int .i64 0]) 2 24 Tryz.underlying33 hi hz0 hz1 hz2 rfl (by decide) _ _ _ rfl (HX.out.1.alloc _) ⟨wr.heap.size, 0, none⟩ 1 1 [.string x.1, .int .i64 x.2] rfl rfl (news2 _ _ _ _ _ rfl) (one2 _ _) ?c3 ?c4 ?c5 ?_)
      case c3 => unfold maxLen; omega
      case c4 => omega
      case c5 => simp; omega
      intro v' w5 hown' hgrow _
      have hbl5 : Below w.heap.size w w5 := (HX.out.2.alloc (by omega) _).grown hgrow (by simp; omega) (fun q hq => (HX.out.1.lt q hq).1)
      rw [HT.out] at hown'
      have HF := Hid.mk (And.intro hown' hbl5)
      clear hown' hgrow hbl5
      go_wp2
      go_roundw
      case rel => exact ⟨k + 1, by omega, by go_num, HF.out.1, HF.out.2⟩
      case measure => simp [intOf]; omega
    · have hke : k = ks.length := by omega
      subst hke
      rw [List.take_of_length_le (Nat.le_refl _)] at hown
      have HO := Hid.mk hown
      clear hown hnx
      go_wp2
      go_ret
      exact ⟨_, rfl, HO.out, HX.out.2⟩

theorem pick_len (ks : List Nat) (r : List Vl) : (pickV ks r).length = ks.length := by simp [pickV]
theorem pick_size {ks : List Nat} {r : List Vl} (h : ∀ x ∈ r, x.2.2.size ≤ maxLen) : ∀ x ∈ pickV ks r, x.2.2.size ≤ maxLen := by
  intro x hx
  obtain ⟨k, -, rfl⟩ := List.mem_map.1 hx
  by_cases hk : k < r.length
  · simp only [List.getElem?_eq_getElem hk, Option.getD_some]
    exact h _ (List.getElem_mem hk)
  · rw [List.getElem?_eq_none (by omega)]
    exact Nat.zero_le _
theorem pickedV_any (v : Value) (r : List Vl) (b o c : Nat) (ks : List Nat) (w : World) (hr : RowIs w v r) (hk : IntsAt w b o ks) (hb : b < w.heap.size) (hlt : ∀ k ∈ ks, k < r.length) (hk0 : 0 < ks.length) (h100 : ks.length ≤ 100) (hr100 : r.length ≤ 100) :
    Calls Tryz.prog 120 #[v, .slice (some ⟨b, o, none⟩) ks.length c] w fun e w' => ∃ v, e = .returned v ∧ w'.ownsRow w.heap.size 24 3 v (pickV ks r).length (valCells (pickV ks r)) ∧ Below w.heap.size w w' := by
  obtain ⟨a, c', rfl, -, h⟩ := hr
  rcases h with h | ⟨rb, ro, rfl, hl, hat⟩
  · have := hlt _ (List.getElem_mem hk0)
    rw [h] at this
    simp at this
  · rw [pick_len]
    exact pickedV_in rb ro c' b o c r ks w hat hl hk hb hlt h100 hr100

set_option maxRecDepth 100000 in
set_option maxHeartbeats 1600000 in
theorem projected_any (v : Value) (rs : List (List Vl)) (b o c : Nat) (ks : List Nat) (w : World) (hr : RowsIs w v rs) (hl : ∀ r ∈ rs, (∀ k ∈ ks, k < r.length) ∧ r.length ≤ 100) (hk0 : 0 < ks.length) (hb : b < w.heap.size) (hkk : IntsAt w b o ks) (h6 : ks.length ≤ 100) (h60 : rs.length ≤ 100) :
    Calls Tryz.prog 86 #[v, .slice (some ⟨b, o, none⟩) ks.length c] w fun e w' => ∃ v' us, e = .returned v' ∧ w'.ownsRow w.heap.size 62 1 v' rs.length us ∧ HeldRows w' w.heap.size us (rs.map (pickV ks)) ∧ Below w.heap.size w w' := by
  obtain ⟨i0, hi, hz0, hz1, hz2⟩ := info_parts Tryz.infoRow
  have HR := Hid.mk hr
  have HL := Hid.mk hl
  have HK := Hid.mk hkk
  clear hl hkk
  obtain ⟨va, vcp, rfl, -⟩ := hr
  go_enter Tryz.func86, Tryz.ntmps86
  go_wp2
  go_loopw [5, 10] (fun l i wr => ∃ (k : Nat) (us : List Value), k ≤ rs.length ∧ i = .int .i64 k ∧ wr.ownsRow w.heap.size 62 1 l k us ∧ HeldRows wr w.heap.size us ((rs.take k).map (pickV ks)) ∧ Below w.heap.size w wr) (fun _ i _ => rs.length - (intOf i).toNat)
  case atStart => exact ⟨0, [], Nat.zero_le _, rfl, World.ownsRow_nil _ _ _ _, HeldRows.nil _ _, Below.refl _ _⟩
  case round =>
    obtain ⟨k, us, hk, rfl, hown, hheld, hnx⟩ := hrel
    obtain ⟨la, lc, rfl⟩ := own_slice hown
    have HO := Hid.mk (And.intro hown hheld)
    have HX := Hid.mk hnx
    have hws := hnx.size
    by_cases hlt : k < rs.length
    · obtain ⟨b', o', c', hve, hbl, hat⟩ := rows_at HR.out (by omega)
      simp only [Value.slice.injEq, true_and] at hve
      obtain ⟨rfl, rfl⟩ := hve
      obtain ⟨u, hu, hru⟩ := hat k hlt
      have cu := (hnx.cell (p := ⟨b', o' + k, none⟩) hbl).trans hu
      have hrw := hru.below hnx
      obtain ⟨ua, uc, rfl⟩ := row_slice hru
      have hrl := HL.out _ (List.getElem_mem hlt)
      have hCL := pickedV_any _ _ b o c ks wr hrw (HK.out.below hnx hb) (by omega) hrl.1 hk0 h6 hrl.2
      have hsz : ∀ x ∈ pickV ks rs[k], x.2.2.size ≤ maxLen := pick_size (by obtain ⟨_, _, _, hs, _⟩ := hru; exact hs)
      have HC := Hid.mk hCL
      have HS := Hid.mk (And.intro hsz hrl)
      clear hCL hat hu hru hrw hnx hown hheld hsz hrl
      generalize hrk : rs[k] = rk at *
      have HRK := Hid.mk hrk
      clear hrk
      go_wp2_with (first | (go_at_call 120; refine HC.out.mono ?_; rintro e w1 ⟨v1, rfl, ho1, hb1⟩; obtain ⟨v1a, v1c, rfl⟩ := own_slice ho1) | (at_builtin; refine wpList_append_own _ rfl _ _ 34 rfl w.heap.size 62 i0 (.slice none 0 0) 1 24 Tryz.underlying34 hi hz0 hz1 hz2 rfl (by decide) _ _ _ rfl ((owns_below HO.out.1 hb1).alloc _) ⟨w1.heap.size, 0, none⟩ 1 1 [.slice v1a (pickV ks rk).length v1c] rfl rfl (news1 _ _ _ _ rfl) (one1s _ _ _) ?c3 ?c4 ?c5 ?_))
      case c3 => unfold maxLen; omega
      case c4 => omega
      case c5 => have := hb1.size; simp; omega
      intro v' w5 hown' hgrow _
      have hs1 := hb1.size
      have hbl5 : Below w.heap.size w w5 := ((bel_then HX.out hb1).alloc (by omega) _).grown hgrow (by simp; omega) (fun q hq => (HO.out.1.lt q hq).1)
      have hO1 := ((owns_below HO.out.1 hb1).alloc (.cells #[.slice v1a (pickV ks rk).length v1c] 62))
      have hH5 := ((HO.out.2.below hb1).below (below_box w1 (.cells #[.slice v1a (pickV ks rk).length v1c] 62))).grow hO1 hgrow
      have hu5 := (ho1.alloc (.cells #[.slice v1a (pickV ks rk).length v1c] 62)).kept hgrow (own_ne (by decide) (ho1.alloc _) hO1)
      have hH6 := hH5.snoc (own_mono (by omega) hu5) HS.out.1
      rw [show (rs.take k).map (pickV ks) ++ [pickV ks rk] = (rs.take (k + 1)).map (pickV ks) by rw [List.take_succ_eq_append_getElem hlt, HRK.out, List.map_append]; rfl] at hH6
      have HF := Hid.mk (And.intro hown' (And.intro hH6 hbl5))
      clear hown' hgrow hH6 hbl5 hH5 hu5 hO1
      go_wp2
      go_roundw
      case rel => exact ⟨k + 1, _, by omega, by go_num, HF.out.1, HF.out.2.1, HF.out.2.2⟩
      case measure => simp [intOf]; omega
    · have hke : k = rs.length := by omega
      subst hke
      rw [List.take_of_length_le (Nat.le_refl _)] at hheld
      clear HO
      have HO := Hid.mk (And.intro hown hheld)
      clear hown hheld hnx
      go_wp2
      go_ret
      exact ⟨_, us, rfl, HO.out.1, HO.out.2, HX.out⟩

/-- A list of texts, with its room. -/
def StrsC (w : World) (v : Value) (ss : List ByteArray) : Prop := ∃ a c, v = .slice a ss.length c ∧ ss.length ≤ c ∧ ss.length ≤ maxLen ∧ (ss = [] ∨ ∃ b o, a = some ⟨b, o, none⟩ ∧ b < w.heap.size ∧ StrsAt w b o ss)
theorem StrsC.below {w w' : World} {v : Value} {ss : List ByteArray} (h : StrsC w v ss) (hb : Below w.heap.size w w') : StrsC w' v ss := by
  obtain ⟨a, c, e, hc, hs, h⟩ := h
  refine ⟨a, c, e, hc, hs, ?_⟩
  rcases h with h | ⟨b, o, e2, hl, hat⟩
  · exact Or.inl h
  · exact Or.inr ⟨b, o, e2, Nat.lt_of_lt_of_le hl hb.size, hat.below hb hl⟩
theorem wrongList_any (v vc : Value) (ss : List ByteArray) (b o n c : Nat) (cs : List Cl) (w : World) (hs : StrsC w v ss) (hn : cs.length = n) (hn' : n ≤ 100) (hb : b < w.heap.size) (hc : ColsAt w b o cs) :
    Calls Tryz.prog 64 #[v, .slice (some ⟨b, o, none⟩) n c] w fun e w' => e = .returned (errV (listErr cs ss)) ∧ Below w.heap.size w w' := by
  obtain ⟨a, cap, rfl, hcap, hml, h⟩ := hs
  by_cases hf : ss.length = 0 ∨ 6 < ss.length
  · rw [show listErr cs ss = 1 by unfold listErr; rw [if_pos hf]]
    exact wrongList_few a ss.length cap _ w hf hml
  · rw [show listErr cs ss = lerr cs [] ss by unfold listErr; rw [if_neg hf]]
    rcases h with h | ⟨nb, no, rfl, hl, hat⟩
    · rw [h] at hf; simp at hf
    · exact wrongList_in nb no cap b o n c ss.length ss cs w rfl (by omega) (by omega) hcap hl hat hn hn' hb hc

theorem lerr_0 (cs : List Cl) : ∀ (ss seen : List ByteArray), lerr cs seen ss = 0 → ∀ s ∈ ss, ∃ k, placeN cs s.data.toList = some k
  | [], _, _, s, hs => absurd hs (by simp)
  | a :: r, seen, h, s, hs => by
    rw [lerr] at h
    split at h
    · cases h
    · rename_i h1
      split at h
      · cases h
      · rcases List.mem_cons.1 hs with rfl | hs
        · cases g : placeN cs s.data.toList with
          | none => exact absurd g h1
          | some k => exact ⟨k, rfl⟩
        · exact lerr_0 cs r _ h s hs
/-- Where the columns stand. -/
def placesN (cs : List Cl) (ss : List ByteArray) : List Nat := ss.map fun s => (placeN cs s.data.toList).getD 0
theorem listErr_0 {cs : List Cl} {ss : List ByteArray} (h : listErr cs ss = 0) : 0 < ss.length ∧ ss.length ≤ 6 ∧ (∀ s ∈ ss, ∃ k, placeN cs s.data.toList = some k) := by
  unfold listErr at h
  split at h
  · cases h
  · exact ⟨by omega, by omega, lerr_0 cs ss [] h⟩
theorem places_at {cs : List Cl} {ss : List ByteArray} (h : ∀ s ∈ ss, ∃ k, placeN cs s.data.toList = some k) : ∀ j (h1 : j < ss.length) (h2 : j < (placesN cs ss).length), placeN cs ss[j].data.toList = some (placesN cs ss)[j] := by
  intro j h1 h2
  obtain ⟨k, hk⟩ := h _ (List.getElem_mem h1)
  simp [placesN, hk]
theorem places_lt {cs : List Cl} {ss : List ByteArray} (h : ∀ s ∈ ss, ∃ k, placeN cs s.data.toList = some k) : ∀ k ∈ placesN cs ss, k < cs.length := by
  intro k hk
  obtain ⟨s, hs, rfl⟩ := List.mem_map.1 hk
  obtain ⟨q, hq⟩ := h s hs
  rw [hq]
  exact place_some hq

set_option maxRecDepth 100000 in
set_option maxHeartbeats 800000 in
/-- wrong, of a job that picks columns. -/
theorem wrong_proj (hb ho tk cin b o n c : Nat) (cs : List Cl) (ss : List ByteArray) (j : Jb) (w : World) (hcode : j.code = 3) (htk : 0 < tk) (hhb : hb < w.heap.size) (h0 : w.cell? ⟨hb, ho, none⟩ = some (.slice (some ⟨b, o, none⟩) n c)) (hs : StrsC w j.cols ss)
    (hn : cs.length = n) (hn' : n ≤ 100) (hbl : b < w.heap.size) (hc : ColsAt w b o cs) :
    Calls Tryz.prog 35 #[.agg j.cells, .slice (some ⟨hb, ho, none⟩) tk cin] w fun e w' => e = .returned (errV (listErr cs ss)) ∧ Below w.heap.size w w' := by
  have hT := fun W (h1 : Below w.heap.size w W) => wrongList_any j.cols .nilIface ss b o n c cs W (hs.below h1) hn hn' (by have := h1.size; omega) (hc.below h1 hbl)
  obtain ⟨ca, cc, hj, -⟩ := hs
  unfold Jb.cells
  rw [hj] at hT ⊢
  generalize listErr cs ss = r at *
  obtain ⟨code, hcd⟩ : ∃ k, j.code = k := ⟨_, rfl⟩
  rw [hcd] at hcode ⊢
  clear hcd
  subst hcode
  have HT := Hid.mk hT
  have htk' : (0 : Int) < (tk : Int) := by omega
  clear hT hn hc hj
  go_enter Tryz.func35, Tryz.ntmps35
  go_wp2_with (go_at_call 64; refine (HT.out _ (below_box _ _)).mono ?_; rintro e w1 ⟨rfl, hb1⟩)
  go_ret
  exact ⟨rfl, bel_then (below_box _ _) hb1⟩

set_option maxRecDepth 100000 in
set_option maxHeartbeats 800000 in
/-- columnsOf, of a job that picks columns. -/
theorem columns_proj (hb ho tk cin b o n c : Nat) (cs : List Cl) (ss : List ByteArray) (j : Jb) (w : World) (hcode : j.code = 3) (htk : 0 < tk) (hhb : hb < w.heap.size) (h0 : w.cell? ⟨hb, ho, none⟩ = some (.slice (some ⟨b, o, none⟩) n c)) (hs : StrsC w j.cols ss) (he : listErr cs ss = 0)
    (hn : cs.length = n) (hn' : n ≤ 100) (hbl : b < w.heap.size) (hc : ColsAt w b o cs) :
    Calls Tryz.prog 36 #[.agg j.cells, .slice (some ⟨hb, ho, none⟩) tk cin] w fun e w' => ∃ u, e = .returned u ∧ w'.ownsRow w.heap.size 60 2 u (pickC (placesN cs ss) cs).length (colCells (pickC (placesN cs ss) cs)) ∧ Below w.heap.size w w' := by
  obtain ⟨l0, l6, hall⟩ := listErr_0 he
  obtain ⟨ca, cc, hj, hcap, hml, hat⟩ := hs
  rcases hat with h | ⟨nb, no, rfl, hl, hat⟩
  · rw [h] at l0; simp at l0
  have hkl : (placesN cs ss).length = ss.length := by simp [placesN]
  have hT := fun W (h1 : Below w.heap.size w W) => places_in nb no cc b o n c ss.length ss (placesN cs ss) cs W rfl (by omega) (by have := h1.size; omega) (hat.below h1 hl) hn hn' (by have := h1.size; omega) (hc.below h1 hbl) hkl (places_at hall)
  have hQ := fun W (h1 : Below w.heap.size w W) g gc (hg : g < W.heap.size) (hi : IntsAt W g 0 (placesN cs ss)) => pickedC_in b o c g 0 gc cs (placesN cs ss) W (hc.below h1 hbl) (by have := h1.size; omega) hi hg (places_lt hall) (by omega) (by omega)
  rw [hn] at hQ
  rw [show (pickC (placesN cs ss) cs).length = (placesN cs ss).length by simp [pickC]]
  unfold Jb.cells
  rw [hj]
  obtain ⟨code, hcd⟩ : ∃ k, j.code = k := ⟨_, rfl⟩
  rw [hcd] at hcode ⊢
  clear hcd
  subst hcode
  have hk0 : 0 < (placesN cs ss).length := by omega
  generalize hks : placesN cs ss = ks at *
  have HT := Hid.mk hT
  have HQ := Hid.mk hQ
  have htk' : (0 : Int) < (tk : Int) := by omega
  have HK := Hid.mk hk0
  clear hT hQ hn hc hj hat hall hkl l0 l6 he hks hk0 hml hcap
  go_enter Tryz.func36, Tryz.ntmps36
  go_wp2_with (first | (go_at_call 69; refine (HT.out _ (below_box _ _)).mono ?_; rintro e w1 ⟨v1, rfl, ho1, hb1⟩; obtain ⟨g, gc, rfl, hgB, hgl, hgi⟩ := ints_of ho1 HK.out) | (go_at_call 68; refine (HQ.out _ (bel_then (below_box _ _) hb1) _ _ hgl hgi).mono ?_; rintro e w2 ⟨v2, rfl, ho2, hb2⟩))
  go_ret
  exact ⟨_, rfl, own_mono (by have := hb1.size; simp at this; omega) ho2, bel_then (bel_then (below_box _ _) hb1) hb2⟩

end Go.Proofs.YtjceppinfjbegaaGreatDoor

