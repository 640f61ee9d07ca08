import Derived.Test.YtjceppinfjbegaaGreatDoorWalkQ
import Derived.Lib.QuietBelow
set_option linter.unusedSimpArgs false
set_option linter.unusedVariables false
namespace Go.Proofs.YtjceppinfjbegaaGreatDoor
open Go.RowKit

/-- Where a column stands. -/
def placeN (cs : List Cl) (nm : List UInt8) : Option Nat := cs.findIdx? fun c => c.1.data.toList == nm
def placeI (cs : List Cl) (nm : List UInt8) : Int := match placeN cs nm with
  | some i => (i : Int)
  | none => -1
theorem place_some {cs : List Cl} {nm : List UInt8} {i : Nat} (h : placeN cs nm = some i) : i < cs.length := by
  have := List.findIdx?_eq_some_iff_getElem.1 h
  exact this.1
theorem place_found {cs : List Cl} {nm : List UInt8} {k : Nat} (hk : k < cs.length) (hp : (cs[k].1.data.toList == nm) = true) (hall : ∀ j (h : j < k), (cs[j].1.data.toList == nm) = false) : placeN cs nm = some k := by
  refine List.findIdx?_eq_some_iff_getElem.2 ⟨hk, hp, fun j hj => ?_⟩
  rw [hall j hj]; simp
theorem place_not {cs : List Cl} {nm : List UInt8} (hall : ∀ j (h : j < cs.length), (cs[j].1.data.toList == nm) = false) : placeN cs nm = none := by
  refine List.findIdx?_eq_none_iff.2 fun x hx => ?_
  obtain ⟨j, hj, rfl⟩ := List.mem_iff_getElem.1 hx
  exact hall j hj

set_option maxHeartbeats 400000 in
theorem place1_any (s nm : ByteArray) (k : Int) (ab : Nat) (w : World) (hc : w.cell? ⟨ab, 0, none⟩ = some (.string nm)) (hab : ab < w.heap.size) :
    Calls Tryz.prog 106 #[.agg #[.string s, .int .i64 k], .pointer (some ⟨ab, 0, none⟩)] w fun e w' => e = .returned (.bool (s.data.toList == nm.data.toList)) ∧ Below w.heap.size w w' := by
  go_enter Tryz.func106, Tryz.ntmps106
  go_wp2
  go_ret
  exact ⟨ret_bool (by rw [ByteArray.toList_eq, ByteArray.toList_eq]), below_box _ _⟩

set_option maxHeartbeats 800000 in
theorem indexCol_any (b o n c : Nat) (cs : List Cl) (nm : ByteArray) (ab : Nat) (w : World) (hn : cs.length = n) (hn' : n ≤ 100) (hb : b < w.heap.size) (hc : ColsAt w b o cs) (ha : w.cell? ⟨ab, 0, none⟩ = some (.string nm)) (hab : ab < w.heap.size) :
    Calls Tryz.prog 20 #[.slice (some ⟨b, o, none⟩) n c, .func (.func 106) #[] #[.pointer (some ⟨ab, 0, none⟩)]] w fun e w' => e = .returned (.int .i64 (placeI cs nm.data.toList)) ∧ Below w.heap.size w w' := by
  have HN : Hid (cs.length = n) := hn
  clear hn
  go_enter Tryz.func20, Tryz.ntmps20
  go_wp2
  go_loopw [8] (fun i wr => ∃ k : Nat, k ≤ n ∧ i = .int .i64 k ∧ (∀ j (h : j < cs.length), j < k → (cs[j].1.data.toList == nm.data.toList) = false) ∧ Below w.heap.size w wr) (fun i _ => n - (intOf i).toNat)
  case atStart => exact ⟨0, Nat.zero_le _, rfl, fun j _ h => absurd h (by omega), Below.refl _ _⟩
  case round =>
    obtain ⟨k, hk, rfl, hal, hnx⟩ := hrel
    have HA := Hid.mk hal
    clear hal
    by_cases hlt : k < n
    · have hk2 : k < cs.length := by have := HN.out; omega
      obtain ⟨c1, c2⟩ := hc k hk2
      have d1 := (hnx.cell (p := ⟨b, o + k * 2, none⟩) hb).trans c1
      have d2 := (hnx.cell (p := ⟨b, o + k * 2 + 1, none⟩) hb).trans c2
      clear c1 c2
      have H1 := Hid.mk (place1_any cs[k].1 nm cs[k].2 ab wr ((hnx.cell (p := ⟨ab, 0, none⟩) hab).trans ha) (by have := hnx.size; omega))
      cases hp : (cs[k].1.data.toList == nm.data.toList)
      · rw [hp] at H1
        have HP := Hid.mk hp
        clear hp
        go_wp2_with (go_at_call 106; refine H1.out.mono ?_; rintro e w1 ⟨rfl, hb1⟩)
        go_roundw
        case rel =>
          refine ⟨k + 1, by omega, by go_num, fun j h hj => ?_, bel_then hnx hb1⟩
          rcases Nat.lt_or_ge j k with hjk | hjk
          · exact HA.out j h hjk
          · obtain rfl : j = k := by omega
            exact HP.out
        case measure => simp [intOf]; omega
      · rw [hp] at H1
        have HP := Hid.mk hp
        clear hp
        go_wp2_with (go_at_call 106; refine H1.out.mono ?_; rintro e w1 ⟨rfl, hb1⟩)
        go_ret
        refine ⟨ret_int ?_, bel_then hnx hb1⟩
        rw [placeI, place_found hk2 HP.out (fun j hj => HA.out j (by omega) hj)]
    · go_wp2
      go_ret
      refine ⟨ret_int ?_, hnx⟩
      rw [placeI, place_not (fun j hj => HA.out j hj (by have := HN.out; omega))]

set_option maxHeartbeats 800000 in
theorem place_in (b o n c : Nat) (cs : List Cl) (nm : ByteArray) (w : World) (hn : cs.length = n) (hn' : n ≤ 100) (hb : b < w.heap.size) (hc : ColsAt w b o cs) :
    Calls Tryz.prog 71 #[.slice (some ⟨b, o, none⟩) n c, .string nm] w fun e w' => e = .returned (.int .i64 (placeI cs nm.data.toList)) ∧ Below w.heap.size w w' := by
  have hmf : ∀ (fn : Fn) (first cap : Array Value) (w : World), (Instr.makeFunc fn first cap).run Tryz.prog w = .ok (.func fn first cap) w := fun _ _ _ _ => rfl
  have HI := Hid.mk (fun o' => indexCol_any b o n c cs nm w.heap.size (w.alloc (.cells #[.string nm] o')) hn hn' (by simp; omega) (hc.below (below_box _ _) hb) (by simp) (by simp))
  clear hn hc
  go_enter Tryz.func71, Tryz.ntmps71
  go_wp2_with (go_at_call 20; refine (HI.out _).mono ?_; rintro e w1 ⟨rfl, hb1⟩)
  go_ret
  exact ⟨rfl, bel_then (below_box _ _) hb1⟩

theorem placeI_nil (nm : List UInt8) : placeI [] nm = -1 := rfl
/-- place, of whatever columns. -/
theorem place_any (v : Value) (cs : List Cl) (nm : ByteArray) (w : World) (h : ColsIs w v cs) (h1 : 1 ≤ cs.length) (h6 : cs.length ≤ 100) :
    Calls Tryz.prog 71 #[v, .string nm] w fun e w' => e = .returned (.int .i64 (placeI cs nm.data.toList)) ∧ Below w.heap.size w w' := by
  obtain ⟨a, c, rfl, hc, hs, h⟩ := h
  rcases h with h | ⟨b, o, rfl, hl, hat⟩
  · rw [h] at h1; simp at h1
  · exact place_in b o cs.length c cs nm w rfl h6 hl hat

abbrev Ag := ByteArray × Vl
/-- What a job's argument is in a row. -/
def valIn (cs : List Cl) (r : List Vl) (x : Ag) : Vl := if x.1.data.toList = [] then x.2 else match placeN cs x.1.data.toList with
  | some i => r[i]?.getD (0, 0, ⟨#[]⟩)
  | none => (0, 0, ⟨#[]⟩)
abbrev aggV (x : Vl) : Value := .agg #[.int .i64 x.1, .int .i64 x.2.1, .string x.2.2]

set_option maxHeartbeats 800000 in
theorem valueIn_val (vr vc : Value) (x : Ag) (w : World) (hx : x.1.data.toList = []) :
    Calls Tryz.prog 84 #[vr, vc, .agg #[.string x.1, .int .i64 x.2.1, .int .i64 x.2.2.1, .string x.2.2.2]] w fun e w' => e = .returned (aggV x.2) ∧ Below w.heap.size w w' := by
  have he : x.1.toList.isEmpty = true := by rw [ByteArray.toList_eq, hx]; rfl
  clear hx
  go_enter Tryz.func84, Tryz.ntmps84
  go_wp2
  refine bodyPost_ret (v := aggV x.2) (by simp [results, Tryz.results84, go_sem]) rfl ⟨rfl, ?_⟩
  exact ((Below.refl _ _).alloc (Nat.le_refl _) _).alloc (by simp) _

set_option maxHeartbeats 800000 in
theorem valueIn_col (rb ro rc b o n c : Nat) (cs : List Cl) (r : List Vl) (x : Ag) (i : Nat) (w : World) (hx : x.1.data.toList ≠ []) (hp : placeN cs x.1.data.toList = some i) (hi : i < r.length) (hrl : r.length ≤ 100)
    (hn : cs.length = n) (hn' : n ≤ 100) (hb : b < w.heap.size) (hc : ColsAt w b o cs) (hrb : rb < w.heap.size) (hr : ValsAt w rb ro r) :
    Calls Tryz.prog 84 #[.slice (some ⟨rb, ro, none⟩) r.length rc, .slice (some ⟨b, o, none⟩) n c, .agg #[.string x.1, .int .i64 x.2.1, .int .i64 x.2.2.1, .string x.2.2.2]] w fun e w' => e = .returned (aggV r[i]) ∧ Below w.heap.size w w' := by
  have he : x.1.toList.isEmpty = false := by
    rw [ByteArray.toList_eq]
    cases h : x.1.data.toList with
    | nil => exact absurd h hx
    | cons a q => rfl
  obtain ⟨W, hW⟩ : ∃ W, W = (w.alloc (.cells #[.string x.1, .int .i64 x.2.1, .int .i64 x.2.2.1, .string x.2.2.2] 26)).alloc (.cells #[.int .i64 0, .int .i64 0, .string ⟨#[]⟩] 24) := ⟨_, rfl⟩
  have hbW : Below w.heap.size w W := by rw [hW]; exact ((Below.refl _ _).alloc (Nat.le_refl _) _).alloc (by simp) _
  have hP := place_in b o n c cs x.1 W hn hn' (by have := hbW.size; omega) (hc.below hbW hb)
  rw [show placeI cs x.1.data.toList = (i : Int) by rw [placeI, hp]] at hP
  rw [hW] at hP hbW
  have HP := Hid.mk hP
  have HB := Hid.mk hbW
  have HR := Hid.mk (hr i hi)
  clear hx hp hn hc hr hP hbW hW
  go_enter Tryz.func84, Tryz.ntmps84
  go_wp2_with (go_at_call 71; refine HP.out.mono ?_; rintro e w1 ⟨rfl, hb1⟩; have hb01 := bel_then HB.out hb1; have d0 := (hb01.cell (p := ⟨rb, ro + i * 3, none⟩) hrb).trans HR.out.1; have d1 := (hb01.cell (p := ⟨rb, ro + i * 3 + 1, none⟩) hrb).trans HR.out.2.1; have d2 := (hb01.cell (p := ⟨rb, ro + i * 3 + 2, none⟩) hrb).trans HR.out.2.2; obtain ⟨hc1, hf1⟩ := bcell hb1; have hz1 : w.heap.size + 1 < w1.heap.size := by (have := hb1.size; simp at this; omega))
  have hb01 := bel_then HB.out hb1
  have g0 : w1.cell? ⟨w.heap.size + 1, 0, none⟩ = some (.int .i64 0) := (hb1.cell (p := ⟨w.heap.size + 1, 0, none⟩) (by simp)).trans (by simp)
  have g1 : w1.cell? ⟨w.heap.size + 1, 1, none⟩ = some (.int .i64 0) := (hb1.cell (p := ⟨w.heap.size + 1, 1, none⟩) (by simp)).trans (by simp)
  have g2 : w1.cell? ⟨w.heap.size + 1, 2, none⟩ = some (.string ⟨#[]⟩) := (hb1.cell (p := ⟨w.heap.size + 1, 2, none⟩) (by simp)).trans (by simp)
  refine bodyPost_ret (v := aggV r[i]) (by simp [results, Tryz.results84, go_sem, g0, g1, g2]) rfl ⟨rfl, ?_⟩
  exact ((hb01.setCell (by show w.heap.size ≤ w.heap.size + 1; omega) _).setCell (by show w.heap.size ≤ w.heap.size + 1; omega) _).setCell (by show w.heap.size ≤ w.heap.size + 1; omega) _

/-- valueIn, of whatever row and columns. -/
theorem valueIn_any (vr vc : Value) (cs : List Cl) (r : List Vl) (x : Ag) (w : World) (hc : ColsIs w vc cs) (hr : RowIs w vr r) (h6 : cs.length ≤ 100) (hl : r.length = cs.length) (hok : x.1.data.toList = [] ∨ ∃ i, placeN cs x.1.data.toList = some i) :
    Calls Tryz.prog 84 #[vr, vc, .agg #[.string x.1, .int .i64 x.2.1, .int .i64 x.2.2.1, .string x.2.2.2]] w fun e w' => e = .returned (aggV (valIn cs r x)) ∧ Below w.heap.size w w' := by
  by_cases hx : x.1.data.toList = []
  · rw [valIn, if_pos hx]
    exact valueIn_val vr vc x w hx
  · obtain ⟨i, hi⟩ := hok.resolve_left hx
    have hil := place_some hi
    obtain ⟨a, c, rfl, -, -, h⟩ := hc
    obtain ⟨a', c', rfl, -, h'⟩ := hr
    rcases h with h | ⟨b, o, rfl, hlb, hat⟩
    · rw [h] at hil; simp at hil
    rcases h' with h' | ⟨rb, ro, rfl, hrb, hrat⟩
    · rw [h'] at hl; simp at hl; omega
    have := valueIn_col rb ro c' b o cs.length c cs r x i w hx hi (by omega) (by omega) rfl h6 hlb hat hrb hrat
    have e : valIn cs r x = r[i]'(by omega) := by
      unfold valIn
      rw [if_neg hx, hi]
      show r[i]?.getD _ = _
      rw [List.getElem?_eq_getElem (show i < r.length by omega)]; rfl
    rw [e]
    exact this

def holdsB (op : List UInt8) (less more : Bool) : Bool :=
  if op = [61] then !less && !more else if op = [60, 62] then less || more else if op = [60] then less else if op = [60, 61] then !more else if op = [62] then more else !less
def lessV (a b : Vl) : Bool := lessB a.1 a.2.1 a.2.2.data.toList b.1 b.2.1 b.2.2.data.toList

set_option maxHeartbeats 1600000 in
theorem holds_any (op : ByteArray) (a b : Vl) (w : World) :
    Calls Tryz.prog 83 #[.string op, aggV a, aggV b] w fun e w' => e = .returned (.bool (holdsB op.data.toList (lessV a b) (lessV b a))) ∧ Below w.heap.size w w' := by
  obtain ⟨m1, hm1⟩ : ∃ m, lessV a b = m := ⟨_, rfl⟩
  obtain ⟨m2, hm2⟩ : ∃ m, lessV b a = m := ⟨_, rfl⟩
  rw [hm1, hm2]
  unfold lessV at hm1 hm2
  have HM1 := Hid.mk hm1
  have HM2 := Hid.mk hm2
  clear hm1 hm2
  obtain ⟨W, hW⟩ : ∃ W, W = (w.alloc (.cells #[.int .i64 a.1, .int .i64 a.2.1, .string a.2.2] 24)).alloc (.cells #[.int .i64 b.1, .int .i64 b.2.1, .string b.2.2] 24) := ⟨_, rfl⟩
  have hbW : Below w.heap.size w W := by rw [hW]; exact ((Below.refl _ _).alloc (Nat.le_refl _) _).alloc (by simp) _
  have a0 : W.cell? ⟨w.heap.size, 0, none⟩ = some (.int .i64 a.1) := by rw [hW]; simp
  have a1 : W.cell? ⟨w.heap.size, 1, none⟩ = some (.int .i64 a.2.1) := by rw [hW]; simp
  have a2 : W.cell? ⟨w.heap.size, 2, none⟩ = some (.string a.2.2) := by rw [hW]; simp
  have b0 : W.cell? ⟨w.heap.size + 1, 0, none⟩ = some (.int .i64 b.1) := by rw [hW]; simp
  have b1 : W.cell? ⟨w.heap.size + 1, 1, none⟩ = some (.int .i64 b.2.1) := by rw [hW]; simp
  have b2 : W.cell? ⟨w.heap.size + 1, 2, none⟩ = some (.string b.2.2) := by rw [hW]; simp
  have A0 := cell_regrown a0
  have A1 := cell_regrown a1
  have A2 := cell_regrown a2
  have B0 := cell_regrown b0
  have B1 := cell_regrown b1
  have B2 := cell_regrown b2
  have C1 : ∀ x1 x2 x3 y1 y2 y3 d os, _ := fun x1 x2 x3 y1 y2 y3 d os => Calls.regrown_of (less_any x1 x2 x3 y1 y2 y3 (Sort.grow (redrawn W d) os))
  have HB := Hid.mk hbW
  clear hbW a0 a1 a2 b0 b1 b2
  go_enter Tryz.func83, Tryz.ntmps83
  go_wp2
  rw [← hW]
  clear hW
  refine wp_region_quiet_below (by kernel_rfl) (by kernel_rfl) ?_
  repeat (any_goals (first | go_big_quiet_step (first | exact C1 _ _ _ _ _ _ _ _) | quiet_step (first | exact C1 _ _ _ _ _ _ _ _)))
  refine wpQuiet_nil ?_
  intro _ hw'
  obtain ⟨⟨dq, osq⟩, hw''⟩ := hw'
  subst hw''
  have HBB := Hid.mk (bel_then HB.out (below_regrown W dq osq))
  clear A0 A1 A2 B0 B1 B2 C1 HB
  rw [HM1.out, HM2.out]
  generalize Sort.grow (redrawn W dq) osq = W5 at *
  cases m1 <;> cases m2
  all_goals
    go_wp2
    all_goals go_ret
    all_goals refine ⟨ret_bool ?_, HBB.out⟩
    all_goals simp_all [holdsB, ByteArray.toList_eq]
end Go.Proofs.YtjceppinfjbegaaGreatDoor

