import Derived.Test.YtfifbnopgpffkaaGreatDoorWalkI
import Derived.Lib.ItoaLen
import Derived.Deep.RegionHeld3
import Derived.Deep.AppendLies
import Derived.Lib.QuietBelow
import Derived.Lib.SliceRun
import Derived.Maps.AppendAt
import Derived.Deep.DeepCutAuto
import Derived.Lib.AppendZeros
import Derived.Laws.AppendOwnNone
import Derived.Maps.Own
import Derived.Maps.OwnOps
import Derived.Maps.Ext
import Derived.Shelf.SlSortCmp.Kit1
import Derived.Sort.WalkA
import Derived.Sort.WalkB2
import Derived.Sort.WalkB12
import Derived.Deep.LoopGhost
import Derived.Deep.Cut
set_option linter.unusedSimpArgs false
set_option linter.unusedVariables false
namespace Go.Proofs.YtfifbnopgpffkaaGreatDoor
open Go.RowKit

theorem grown_below {w w' : World} (h : Below w.heap.size w w') (row : Option Nat) : w.grownBy w' row := ⟨h.os, h.tape, h.output, h.size, fun k hk _ => h.block k hk⟩
theorem owns_below {w w' : World} {base : Nat} {e : TypeId} {size : Nat} {v : Value} {n : Nat} {xs : List Value} (h : w.ownsRow base e size v n xs) (hb : Below w.heap.size w w') : w'.ownsRow base e size v n xs :=
  h.kept (grown_below hb none) (by cases v.ownBlock <;> simp)
theorem own_mono {w : World} {base B : Nat} {e : TypeId} {size : Nat} {v : Value} {n : Nat} {xs : List Value} (hB : B ≤ base) (h : w.ownsRow base e size v n xs) : w.ownsRow B e size v n xs := by
  obtain ⟨h1, h | ⟨g, cap, cur, hv, hg, r⟩⟩ := h
  · exact ⟨h1, Or.inl h⟩
  · exact ⟨h1, Or.inr ⟨g, cap, cur, hv, by omega, r⟩⟩
def colCells (cs : List Cl) : List Value := cs.flatMap fun c => [.string c.1, .int .i64 c.2]
theorem colCells_len (cs : List Cl) : (colCells cs).length = cs.length * 2 := by
  induction cs with
  | nil => rfl
  | cons c r ih => simp only [colCells, List.flatMap_cons, List.length_append, List.length_cons, List.length_nil] at ih ⊢; omega
theorem colCells_at : ∀ (cs : List Cl) (j : Nat) (h : j < cs.length), (colCells cs)[j * 2]? = some (.string cs[j].1) ∧ (colCells cs)[j * 2 + 1]? = some (.int .i64 cs[j].2)
  | [], _, h => absurd h (by simp)
  | c :: r, 0, _ => ⟨rfl, rfl⟩
  | c :: r, j + 1, h => by
    have := colCells_at r j (by simpa using h)
    have e : colCells (c :: r) = .string c.1 :: .int .i64 c.2 :: colCells r := by simp [colCells]
    rw [e, show (j + 1) * 2 = j * 2 + 1 + 1 by omega]
    simpa using this
theorem cols_of_own {w : World} {base : Nat} {v : Value} {cs : List Cl} (h : w.ownsRow base 48 2 v cs.length (colCells cs)) (hs : ∀ x ∈ cs, x.1.size ≤ maxLen) : ColsIs w v cs := by
  have h0 := h
  obtain ⟨-, h | ⟨g, cap, cur, rfl, hg, hh, hn, hm, _, _⟩⟩ := h
  · obtain ⟨rfl, hn⟩ := h
    exact ⟨none, 0, by rw [hn], by omega, hs, Or.inl (List.length_eq_zero_iff.1 hn)⟩
  · refine ⟨some ⟨g, 0, none⟩, cap, rfl, hn, hs, Or.inr ⟨g, 0, rfl, (h0.lt g rfl).2, fun j hj => ?_⟩⟩
    have hc := colCells_at cs j hj
    have e1 := h0.cellAt (j * 2) (by omega)
    have e2 := h0.cellAt (j * 2 + 1) (by omega)
    rw [show 0 + j * 2 = j * 2 by omega]
    exact ⟨e1.trans hc.1, e2.trans hc.2⟩
theorem Tryz.infoCol : (Tryz.prog.info? 48).map (fun i => (i.zero, i.size, i.bytes)) = some (some (.agg #[.string ⟨#[]⟩, .int .i64 0]), 2, 24) := by kernel_rfl
theorem bel_then {w w2 w3 : World} (h1 : Below w.heap.size w w2) (h2 : Below w2.heap.size w2 w3) : Below w.heap.size w w3 := h1.trans (h2.mono h1.size)
theorem bel_box {w w2 : World} (h1 : Below w.heap.size w w2) (o : Obj) : Below w.heap.size w (w2.alloc o) := h1.alloc h1.size o
theorem own_ne {w : World} {B B' : Nat} {e e' : TypeId} {z z' : Nat} {u v : Value} {n m : Nat} {xs ys : List Value} (he : e ≠ e') (h : w.ownsRow B e z u n xs) (k : w.ownsRow B' e' z' v m ys) : u.ownBlock = none ∨ u.ownBlock ≠ v.ownBlock := by
  obtain ⟨-, ⟨rfl, -⟩ | ⟨g, cap, cur, rfl, -, hh, -⟩⟩ := h
  · exact Or.inl rfl
  · obtain ⟨-, ⟨rfl, -⟩ | ⟨g', cap', cur', rfl, -, hh', -⟩⟩ := k
    · exact Or.inr (by simp [Value.ownBlock])
    · refine Or.inr (fun e1 => ?_)
      simp only [Value.ownBlock, Option.some.injEq] at e1
      rw [e1, hh'] at hh
      simp only [Option.some.injEq, Obj.cells.injEq] at hh
      exact he hh.2.1.symm
/-- Where a column stands. -/
def placeN (cs : List Cl) (nm : List UInt8) : Option Nat := cs.findIdx? fun c => c.1.data.toList == nm
def placeI (cs : List Cl) (nm : List UInt8) : Int := match placeN cs nm with
  | some i => (i : Int)
  | none => -1
theorem place_some {cs : List Cl} {nm : List UInt8} {i : Nat} (h : placeN cs nm = some i) : i < cs.length := by
  have := List.findIdx?_eq_some_iff_getElem.1 h
  exact this.1
theorem place_found {cs : List Cl} {nm : List UInt8} {k : Nat} (hk : k < cs.length) (hp : (cs[k].1.data.toList == nm) = true) (hall : ∀ j (h : j < k), (cs[j].1.data.toList == nm) = false) : placeN cs nm = some k := by
  refine List.findIdx?_eq_some_iff_getElem.2 ⟨hk, hp, fun j hj => ?_⟩
  rw [hall j hj]; simp
theorem place_not {cs : List Cl} {nm : List UInt8} (hall : ∀ j (h : j < cs.length), (cs[j].1.data.toList == nm) = false) : placeN cs nm = none := by
  refine List.findIdx?_eq_none_iff.2 fun x hx => ?_
  obtain ⟨j, hj, rfl⟩ := List.mem_iff_getElem.1 hx
  exact hall j hj
set_option maxHeartbeats 400000 in
theorem place1_any (s nm : ByteArray) (k : Int) (ab : Nat) (w : World) (hc : w.cell? ⟨ab, 0, none⟩ = some (.string nm)) (hab : ab < w.heap.size) :
    Calls Tryz.prog 110 #[.agg #[.string s, .int .i64 k], .pointer (some ⟨ab, 0, none⟩)] w fun e w' => e = .returned (.bool (s.data.toList == nm.data.toList)) ∧ Below w.heap.size w w' := by
  go_enter Tryz.func110, Tryz.ntmps110
  go_wp2
  go_ret
  exact ⟨ret_bool (by rw [ByteArray.toList_eq, ByteArray.toList_eq]), below_box _ _⟩
set_option maxHeartbeats 800000 in
theorem indexCol_any (b o n c : Nat) (cs : List Cl) (nm : ByteArray) (ab : Nat) (w : World) (hn : cs.length = n) (hn' : n ≤ 100) (hb : b < w.heap.size) (hc : ColsAt w b o cs) (ha : w.cell? ⟨ab, 0, none⟩ = some (.string nm)) (hab : ab < w.heap.size) :
    Calls Tryz.prog 109 #[.slice (some ⟨b, o, none⟩) n c, .func (.func 110) #[] #[.pointer (some ⟨ab, 0, none⟩)]] w fun e w' => e = .returned (.int .i64 (placeI cs nm.data.toList)) ∧ Below w.heap.size w w' := by
  have HN : Hid (cs.length = n) := hn
  clear hn
  go_enter Tryz.func109, Tryz.ntmps109
  go_wp2
  go_loopw [8] (fun i wr => ∃ k : Nat, k ≤ n ∧ i = .int .i64 k ∧ (∀ j (h : j < cs.length), j < k → (cs[j].1.data.toList == nm.data.toList) = false) ∧ Below w.heap.size w wr) (fun i _ => n - (intOf i).toNat)
  case atStart => exact ⟨0, Nat.zero_le _, rfl, fun j _ h => absurd h (by omega), Below.refl _ _⟩
  case round =>
    obtain ⟨k, hk, rfl, hal, hnx⟩ := hrel
    have HA := Hid.mk hal
    clear hal
    by_cases hlt : k < n
    · have hk2 : k < cs.length := by have := HN.out; omega
      obtain ⟨c1, c2⟩ := hc k hk2
      have d1 := (hnx.cell (p := ⟨b, o + k * 2, none⟩) hb).trans c1
      have d2 := (hnx.cell (p := ⟨b, o + k * 2 + 1, none⟩) hb).trans c2
      clear c1 c2
      have H1 := Hid.mk (place1_any cs[k].1 nm cs[k].2 ab wr ((hnx.cell (p := ⟨ab, 0, none⟩) hab).trans ha) (by have := hnx.size; omega))
      cases hp : (cs[k].1.data.toList == nm.data.toList)
      · rw [hp] at H1
        have HP := Hid.mk hp
        clear hp
        go_wp2_with (go_at_call 110; refine H1.out.mono ?_; rintro e w1 ⟨rfl, hb1⟩)
        go_roundw
        case rel =>
          refine ⟨k + 1, by omega, by go_num, fun j h hj => ?_, bel_then hnx hb1⟩
          rcases Nat.lt_or_ge j k with hjk | hjk
          · exact HA.out j h hjk
          · obtain rfl : j = k := by omega
            exact HP.out
        case measure => simp [intOf]; omega
      · rw [hp] at H1
        have HP := Hid.mk hp
        clear hp
        go_wp2_with (go_at_call 110; refine H1.out.mono ?_; rintro e w1 ⟨rfl, hb1⟩)
        go_ret
        refine ⟨ret_int ?_, bel_then hnx hb1⟩
        rw [placeI, place_found hk2 HP.out (fun j hj => HA.out j (by omega) hj)]
    · go_wp2
      go_ret
      refine ⟨ret_int ?_, hnx⟩
      rw [placeI, place_not (fun j hj => HA.out j hj (by have := HN.out; omega))]
set_option maxHeartbeats 800000 in
theorem place_in (b o n c : Nat) (cs : List Cl) (nm : ByteArray) (w : World) (hn : cs.length = n) (hn' : n ≤ 100) (hb : b < w.heap.size) (hc : ColsAt w b o cs) :
    Calls Tryz.prog 98 #[.slice (some ⟨b, o, none⟩) n c, .string nm] w fun e w' => e = .returned (.int .i64 (placeI cs nm.data.toList)) ∧ Below w.heap.size w w' := by
  have hmf : ∀ (fn : Fn) (first cap : Array Value) (w : World), (Instr.makeFunc fn first cap).run Tryz.prog w = .ok (.func fn first cap) w := fun _ _ _ _ => rfl
  have HI := Hid.mk (fun o' => indexCol_any b o n c cs nm w.heap.size (w.alloc (.cells #[.string nm] o')) hn hn' (by simp; omega) (hc.below (below_box _ _) hb) (by simp) (by simp))
  clear hn hc
  go_enter Tryz.func98, Tryz.ntmps98
  go_wp2_with (go_at_call 109; refine (HI.out _).mono ?_; rintro e w1 ⟨rfl, hb1⟩)
  go_ret
  exact ⟨rfl, bel_then (below_box _ _) hb1⟩
abbrev Ag := ByteArray × Vl
/-- A job. -/
structure Jb where
  at_ : Int
  code : Int
  outs : Value
  ins : Value
  cols : Value
  op : ByteArray
  left : Ag
  right : Ag
  retry : Int
def Jb.cells (j : Jb) : Array Value := #[.int .i64 j.at_, .int .i64 j.code, j.outs, j.ins, j.cols, .string j.op, .string j.left.1, .int .i64 j.left.2.1, .int .i64 j.left.2.2.1, .string j.left.2.2.2, .string j.right.1, .int .i64 j.right.2.1, .int .i64 j.right.2.2.1, .string j.right.2.2.2, .int .i64 j.retry]
abbrev aggA (x : Ag) : Value := .agg #[.string x.1, .int .i64 x.2.1, .int .i64 x.2.2.1, .string x.2.2.2]
/-- Where a job lies. -/
def JobAt (w : World) (jb : Nat) (j : Jb) : Prop := ∀ k v, j.cells[k]? = some v → w.cell? ⟨jb, k, none⟩ = some v
theorem JobAt.below {w w' : World} {B jb : Nat} {j : Jb} (h : JobAt w jb j) (hb : Below B w w') (hlt : jb < B) : JobAt w' jb j := fun k v hk => (hb.cell (p := ⟨jb, k, none⟩) hlt).trans (h k v hk)
theorem JobAt.lt {w : World} {jb : Nat} {j : Jb} (h : JobAt w jb j) : jb < w.heap.size := World.block_lt_of_cell? w _ (h 0 _ rfl)
theorem own_empty (w : World) (e : TypeId) (z B : Nat) (hB : B ≤ w.heap.size) : (w.alloc (.cells #[] e)).ownsRow B e z (.slice (some ⟨w.heap.size, 0, none⟩) 0 0) 0 [] :=
  ⟨by simp, Or.inr ⟨w.heap.size, 0, #[], rfl, hB, by show (w.heap.push _)[w.heap.size]? = _; simp, Nat.le_refl _, by unfold maxLen; omega, by simp, by simp⟩⟩
theorem colCells_one (vs : List Cl) : ∀ u ∈ colCells vs, u.oneCell' = true := by
  intro u hu
  rw [colCells, List.mem_flatMap] at hu
  obtain ⟨x, -, hu⟩ := hu
  simp at hu
  rcases hu with rfl | rfl <;> rfl
theorem cols_news {w : World} {b o : Nat} {vs : List Cl} (h : ColsAt w b o vs) (j : Nat) (u : Value) (hj : (colCells vs)[j]? = some u) : w.cell? ((⟨b, o, none⟩ : Addr).add j) = some u := by
  have hjl : j < (colCells vs).length := (List.getElem?_eq_some_iff.1 hj).1
  rw [colCells_len] at hjl
  have hc := colCells_at vs (j / 2) (by omega)
  have hv := h (j / 2) (by omega)
  rw [Addr.add_mid]
  rcases (show j = j / 2 * 2 ∨ j = j / 2 * 2 + 1 by omega) with e | e
  · rw [e] at hj ⊢
    rw [hc.1] at hj; injection hj with hj; subst hj
    have : (j / 2 * 2) / 2 * 2 = j / 2 * 2 := by omega
    simpa [this] using hv.1
  · rw [e] at hj ⊢
    rw [hc.2] at hj; injection hj with hj; subst hj
    have := hv.2
    rw [Nat.add_assoc] at this
    exact this
set_option maxRecDepth 100000 in
set_option maxHeartbeats 800000 in
theorem cloneCol_in (b o n c : Nat) (vs : List Cl) (w : World) (hn : vs.length = n) (hn' : n ≤ 100) (hb : b < w.heap.size) (hv : ColsAt w b o vs) :
    Calls Tryz.prog 44 #[.slice (some ⟨b, o, none⟩) n c] w fun e w' => ∃ v, e = .returned v ∧ w'.ownsRow w.heap.size 48 2 v n (colCells vs) ∧ Below w.heap.size w w' := by
  obtain ⟨i0, hi, hz0, hz1, hz2⟩ := info_parts Tryz.infoCol
  have HN := Hid.mk hn
  have HV := Hid.mk hv
  clear hn hv
  have q22 : ∀ (w : World) (a : Option Addr) (n c n' c' : Nat), (binOp .eql 45 (.slice a n c) (.slice none n' c')).run Tryz.prog w = .ok (.bool a.isNone) w := fun w a n c n' c' => Lib.run_eql_slice_nil w _ _ a n c n' c' Tryz.underlying45
  go_enter Tryz.func44, Tryz.ntmps44
  go_wp2_with (at_builtin; refine wpList_append_own _ rfl _ _ 45 rfl w.heap.size 48 i0 (.agg #[.string ⟨#[]⟩, .int .i64 0]) 2 24 Tryz.underlying45 hi hz0 hz1 hz2 rfl (by decide) _ _ _ rfl (own_empty w _ _ _ (Nat.le_refl _)) ⟨b, o, none⟩ n c (colCells vs) rfl ?c0 (cols_news (HV.out.below (below_box _ _) hb)) (colCells_one vs) ?c3 ?c4 ?c5 ?_)
  case c0 => rw [colCells_len, HN.out]
  case c3 => unfold maxLen; omega
  case c4 => omega
  case c5 => simp
  intro v' w4 hown' hgrow _
  have hbl : Below w.heap.size w w4 := (below_box w _).grown hgrow (by simp) (fun q hq => by simp [Value.ownBlock] at hq; omega)
  have HO := Hid.mk hown'
  clear hown' hgrow
  go_wp2
  go_ret
  exact ⟨_, rfl, HO.out, hbl⟩
theorem own_slice {w : World} {B : Nat} {e : TypeId} {z : Nat} {v : Value} {n : Nat} {xs : List Value} (h : w.ownsRow B e z v n xs) : ∃ a c, v = .slice a n c := by
  obtain ⟨-, ⟨rfl, hn⟩ | ⟨g, cp, cur, rfl, -⟩⟩ := h
  · exact ⟨none, 0, by rw [hn]⟩
  · exact ⟨_, _, rfl⟩
theorem news1 (w : World) (v : Value) (t : TypeId) (H : Nat) (hH : w.heap.size = H) : ∀ j u, [v][j]? = some u → (w.alloc (.cells #[v] t)).cell? ((⟨H, 0, none⟩ : Addr).add j) = some u := by
  intro j u hj
  match j, hj with
  | 0, hj => simp at hj; subst hj; subst hH; simp [Addr.add]
theorem one1s (a : Option Addr) (n c : Nat) : ∀ u ∈ [Value.slice a n c], u.oneCell' = true := by intro u hu; simp at hu; subst hu; rfl
def sizesI (code : Int) : Int × Int := if code = 5 ∨ code = 7 then (2, 1) else if code = 9 then (1, 2) else if 1 ≤ code ∧ code ≤ 8 then (1, 1) else (0, 0)
set_option maxHeartbeats 800000 in
theorem sizes_any (code : Int) (w : World) :
    Calls Tryz.prog 70 #[.int .i64 code] w fun e w' => e = .returned (.tuple #[.int .i64 (sizesI code).1, .int .i64 (sizesI code).2]) ∧ w' = w := by
  by_cases h : 1 ≤ code ∧ code ≤ 9
  · have : code = 1 ∨ code = 2 ∨ code = 3 ∨ code = 4 ∨ code = 5 ∨ code = 6 ∨ code = 7 ∨ code = 8 ∨ code = 9 := by omega
    clear h
    rcases this with h | h | h | h | h | h | h | h | h
    all_goals
      subst h
      go_enter Tryz.func70, Tryz.ntmps70
      go_wp2
      go_ret2
      exact ⟨rfl, rfl⟩
  · have e1 : ¬ (code = 1) := by omega
    have e2 : ¬ (code = 2) := by omega
    have e3 : ¬ (code = 3) := by omega
    have e4 : ¬ (code = 4) := by omega
    have e5 : ¬ (code = 5) := by omega
    have e6 : ¬ (code = 6) := by omega
    have e7 : ¬ (code = 7) := by omega
    have e8 : ¬ (code = 8) := by omega
    have e9 : ¬ (code = 9) := by omega
    have hs : sizesI code = (0, 0) := by
      unfold sizesI
      rw [if_neg (by omega), if_neg e9, if_neg (by omega)]
    rw [hs]
    clear h hs
    go_enter Tryz.func70, Tryz.ntmps70
    go_wp2
    go_ret2
    exact ⟨rfl, rfl⟩
/-- The kind of an argument. -/
def kindA (cs : List Cl) (x : Ag) : Int := if x.1.data.toList = [] then (if rvB x.2 = true then x.2.1 else 0) else match placeN cs x.1.data.toList with
  | some i => if x.2.1 = 0 ∧ x.2.2.1 = 0 ∧ x.2.2.2.data.toList = [] then (cs[i]?.getD (⟨#[]⟩, 0)).2 else 0
  | none => 0
set_option maxRecDepth 100000 in
set_option maxHeartbeats 1600000 in
theorem kindOf_in (b o n c : Nat) (cs : List Cl) (x : Ag) (w : World) (hn : cs.length = n) (hn' : n ≤ 100) (hb : b < w.heap.size) (hc : ColsAt w b o cs) (hx : x.2.2.2.size ≤ maxLen) :
    Calls Tryz.prog 107 #[aggA x, .slice (some ⟨b, o, none⟩) n c] w fun e w' => e = .returned (.int .i64 (kindA cs x)) ∧ Below w.heap.size w w' := by
  by_cases h0 : x.1.data.toList = []
  · have he : x.1.toList.isEmpty = true := by rw [ByteArray.toList_eq, h0]; rfl
    have hk : kindA cs x = if rvB x.2 = true then x.2.1 else 0 := by unfold kindA; rw [if_pos h0]
    have hR := fun W => rightValue_any x.2.1 x.2.2.1 x.2.2.2 W hx
    rw [show rightValueB x.2.1 x.2.2.1 x.2.2.2.data.toList = rvB x.2 from rfl] at hR
    cases g : rvB x.2
    · rw [g] at hR hk
      have HR := Hid.mk hR
      rw [hk]
      clear hR hk g h0 hn hc
      go_enter Tryz.func107, Tryz.ntmps107
      go_wp2_with (go_at_call 115; refine (HR.out _).mono ?_; rintro e w1 ⟨rfl, hb1⟩)
      go_ret
      exact ⟨rfl, bel_then (below_box _ _) hb1⟩
    · rw [g] at hR hk
      have HR := Hid.mk hR
      rw [hk]
      clear hR hk g h0 hn hc
      go_enter Tryz.func107, Tryz.ntmps107
      go_wp2_with (go_at_call 115; refine (HR.out _).mono ?_; rintro e w1 ⟨rfl, hb1⟩; obtain ⟨hc1, hf1⟩ := bcell hb1)
      go_ret
      exact ⟨rfl, bel_then (below_box _ _) hb1⟩
  · have he : x.1.toList.isEmpty = false := by
      rw [ByteArray.toList_eq]
      cases h : x.1.data.toList with
      | nil => exact absurd h h0
      | cons a q => rfl
    have hP := fun W (h1 : Below w.heap.size w W) => place_in b o n c cs x.1 W hn hn' (by have := h1.size; omega) (hc.below h1 hb)
    cases g : placeN cs x.1.data.toList with
    | none =>
      have hk : kindA cs x = 0 := by unfold kindA; rw [if_neg h0, g]
      rw [show placeI cs x.1.data.toList = -1 by rw [placeI, g]] at hP
      have HP := Hid.mk hP
      rw [hk]
      clear hP hk g h0 hn hc
      go_enter Tryz.func107, Tryz.ntmps107
      go_wp2_with (go_at_call 98; refine (HP.out _ (below_box _ _)).mono ?_; rintro e w1 ⟨rfl, hb1⟩; obtain ⟨hc1, hf1⟩ := bcell hb1)
      go_ret
      exact ⟨rfl, bel_then (below_box _ _) hb1⟩
    | some i =>
      have hil := place_some g
      have hk : kindA cs x = if x.2.1 = 0 ∧ x.2.2.1 = 0 ∧ x.2.2.2.data.toList = [] then cs[i].2 else 0 := by
        unfold kindA; rw [if_neg h0, g]
        simp only [List.getElem?_eq_getElem hil, Option.getD_some]
      rw [show placeI cs x.1.data.toList = (i : Int) by rw [placeI, g]] at hP
      have HP := Hid.mk hP
      have d1 := (hc i hil).1
      have d2 := (hc i hil).2
      have hin : (i : Int) < (n : Int) := by omega
      rw [hk]
      clear hP hk g h0 hc
      generalize hcsi : cs[i] = ci at *
      clear hcsi hil hn
      by_cases z1 : x.2.1 = 0
      · by_cases z2 : x.2.2.1 = 0
        · by_cases z3 : x.2.2.2.data.toList = []
          · have z3' : x.2.2.2.toList.isEmpty = true := by rw [ByteArray.toList_eq, z3]; rfl
            rw [if_pos ⟨z1, z2, z3⟩]
            clear z3
            go_enter Tryz.func107, Tryz.ntmps107
            go_wp2_with (go_at_call 98; refine (HP.out _ (below_box _ _)).mono ?_; rintro e w1 ⟨rfl, hb1⟩; obtain ⟨hc1, hf1⟩ := bcell hb1)
            go_ret
            exact ⟨rfl, bel_then (below_box _ _) hb1⟩
          · have z3' : x.2.2.2.toList.isEmpty = false := by
              rw [ByteArray.toList_eq]
              cases h : x.2.2.2.data.toList with
              | nil => exact absurd h z3
              | cons a q => rfl
            rw [if_neg (fun h => z3 h.2.2)]
            clear z3
            go_enter Tryz.func107, Tryz.ntmps107
            go_wp2_with (go_at_call 98; refine (HP.out _ (below_box _ _)).mono ?_; rintro e w1 ⟨rfl, hb1⟩; obtain ⟨hc1, hf1⟩ := bcell hb1)
            go_ret
            exact ⟨rfl, bel_then (below_box _ _) hb1⟩
        · rw [if_neg (fun h => z2 h.2.1)]
          have z2' : (x.2.2.1 == 0) = false := by simp [z2]
          go_enter Tryz.func107, Tryz.ntmps107
          go_wp2_with (go_at_call 98; refine (HP.out _ (below_box _ _)).mono ?_; rintro e w1 ⟨rfl, hb1⟩; obtain ⟨hc1, hf1⟩ := bcell hb1)
          go_ret
          exact ⟨rfl, bel_then (below_box _ _) hb1⟩
      · rw [if_neg (fun h => z1 h.1)]
        have z1' : (x.2.1 == 0) = false := by simp [z1]
        go_enter Tryz.func107, Tryz.ntmps107
        go_wp2_with (go_at_call 98; refine (HP.out _ (below_box _ _)).mono ?_; rintro e w1 ⟨rfl, hb1⟩; obtain ⟨hc1, hf1⟩ := bcell hb1)
        go_ret
        exact ⟨rfl, bel_then (below_box _ _) hb1⟩
def StrsAt (w : World) (b o : Nat) (ss : List ByteArray) : Prop := ∀ (j : Nat) (h : j < ss.length), w.cell? ⟨b, o + j, none⟩ = some (.string ss[j])
theorem StrsAt.below {w w' : World} {B b o : Nat} {ss : List ByteArray} (h : StrsAt w b o ss) (hb : Below B w w') (hlt : b < B) : StrsAt w' b o ss := fun j hj => (hb.cell (p := ⟨b, o + j, none⟩) hlt).trans (h j hj)
def inS (ss : List ByteArray) (x : List UInt8) : Bool := ss.any fun s => s.data.toList == x
set_option maxHeartbeats 800000 in
theorem indexS_any (b o n c : Nat) (ss : List ByteArray) (x : ByteArray) (w : World) (hn : ss.length = n) (hn' : n ≤ 100) (hs : StrsAt w b o ss) :
    Calls Tryz.prog 46 #[.slice (some ⟨b, o, none⟩) n c, .string x] w fun e w' => (∃ i : Int, e = .returned (.int .i64 i) ∧ (0 ≤ i ↔ inS ss x.data.toList = true) ∧ -1 ≤ i) ∧ w' = w := by
  have HN := Hid.mk hn
  clear hn
  go_enter Tryz.func46, Tryz.ntmps46
  go_wp2
  go_loop [8] (fun i => ∃ k : Nat, k ≤ n ∧ i = .int .i64 k ∧ (∀ j (h : j < ss.length), j < k → (ss[j].data.toList == x.data.toList) = false)) (fun i => n - (intOf i).toNat)
  case atStart => exact ⟨0, Nat.zero_le _, rfl, fun j _ h => absurd h (by omega)⟩
  case round =>
    obtain ⟨k, hk, rfl, hal⟩ := hrel
    have HA := Hid.mk hal
    clear hal
    by_cases hlt : k < n
    · have hk2 : k < ss.length := by have := HN.out; omega
      have d1 := hs k hk2
      cases hp : (x.toList == ss[k].toList)
      · go_wp2
        go_round
        case rel =>
          refine ⟨k + 1, by omega, by go_num, fun j h hj => ?_⟩
          rcases Nat.lt_or_ge j k with hjk | hjk
          · exact HA.out j h hjk
          · obtain rfl : j = k := by omega
            rw [ByteArray.toList_eq, ByteArray.toList_eq] at hp
            rw [beq_eq_false_iff_ne] at hp ⊢
            exact fun e => hp e.symm
        case measure => simp [intOf]; omega
      · go_wp2
        go_ret
        refine ⟨⟨(k : Int), rfl, ?_, by omega⟩, rfl⟩
        refine ⟨fun _ => ?_, fun _ => by omega⟩
        rw [ByteArray.toList_eq, ByteArray.toList_eq] at hp
        rw [inS, List.any_eq_true]
        exact ⟨ss[k], List.getElem_mem hk2, by rw [beq_iff_eq] at hp ⊢; exact hp.symm⟩
    · go_wp2
      go_ret
      refine ⟨⟨-1, rfl, ?_, by omega⟩, rfl⟩
      refine ⟨fun h => absurd h (by omega), fun h => ?_⟩
      rw [inS, List.any_eq_true] at h
      obtain ⟨s, hs', he⟩ := h
      obtain ⟨j, hj, rfl⟩ := List.mem_iff_getElem.1 hs'
      have := HA.out j hj (by have := HN.out; omega)
      rw [this] at he
      cases he
set_option maxHeartbeats 800000 in
theorem containsS_any (b o n c : Nat) (ss : List ByteArray) (x : ByteArray) (w : World) (hn : ss.length = n) (hn' : n ≤ 100) (hs : StrsAt w b o ss) :
    Calls Tryz.prog 29 #[.slice (some ⟨b, o, none⟩) n c, .string x] w fun e w' => e = .returned (.bool (inS ss x.data.toList)) ∧ w' = w := by
  have HI := Hid.mk (indexS_any b o n c ss x w hn hn' hs)
  clear hn hs
  go_enter Tryz.func29, Tryz.ntmps29
  go_wp2_with (go_at_call 46; refine HI.out.mono ?_; rintro e w1 ⟨⟨i, rfl, hi1, hi2⟩, rfl⟩)
  all_goals go_ret
  all_goals refine ⟨ret_bool ?_, rfl⟩
  all_goals
    rw [Bool.eq_iff_iff, ← hi1]
    try simp
def sixOps : List ByteArray := [⟨#[61]⟩, ⟨#[60, 62]⟩, ⟨#[60]⟩, ⟨#[60, 61]⟩, ⟨#[62]⟩, ⟨#[62, 61]⟩]
/-- What is wrong with a job that holds a column against something (0: nothing). -/
def testErr (cs : List Cl) (j : Jb) : Int := if inS sixOps j.op.data.toList = false ∨ j.left.1.data.toList = [] then 1 else match placeN cs j.left.1.data.toList with
  | none => 7
  | some i => if kindA cs j.right = (cs[i]?.getD (⟨#[]⟩, 0)).2 then 0 else 13
def errV (n : Int) : Value := if n = 0 then .nilIface else .iface 62 (.int .i64 n)
theorem six_at (w : World) : StrsAt (w.alloc (.cells #[.string ⟨#[61]⟩, .string ⟨#[60, 62]⟩, .string ⟨#[60]⟩, .string ⟨#[60, 61]⟩, .string ⟨#[62]⟩, .string ⟨#[62, 61]⟩] 9)) w.heap.size 0 sixOps := by
  intro j hj
  match j, hj with
  | 0, _ => simp [sixOps]
  | 1, _ => simp [sixOps]
  | 2, _ => simp [sixOps]
  | 3, _ => simp [sixOps]
  | 4, _ => simp [sixOps]
  | 5, _ => simp [sixOps]
  | j + 6, h => exact absurd h (by simp [sixOps])
theorem six_has (x : ByteArray) (W : World) (H : Nat) (hH : W.heap.size = H) :
    Calls Tryz.prog 29 #[.slice (some ⟨H, 0, none⟩) 6 6, .string x] (W.alloc (.cells #[.string ⟨#[61]⟩, .string ⟨#[60, 62]⟩, .string ⟨#[60]⟩, .string ⟨#[60, 61]⟩, .string ⟨#[62]⟩, .string ⟨#[62, 61]⟩] 9)) fun e w' => e = .returned (.bool (inS sixOps x.data.toList)) ∧ w' = W.alloc (.cells #[.string ⟨#[61]⟩, .string ⟨#[60, 62]⟩, .string ⟨#[60]⟩, .string ⟨#[60, 61]⟩, .string ⟨#[62]⟩, .string ⟨#[62, 61]⟩] 9) := by
  subst hH
  exact containsS_any W.heap.size 0 6 6 sixOps x _ rfl (by decide) (six_at W)
set_option maxRecDepth 100000 in
set_option maxHeartbeats 600000 in
theorem wrongTest_in (b o n c : Nat) (cs : List Cl) (j : Jb) (w : World) (hn : cs.length = n) (hn' : n ≤ 100) (hb : b < w.heap.size) (hc : ColsAt w b o cs) (hx : j.right.2.2.2.size ≤ maxLen) :
    Calls Tryz.prog 90 #[.agg j.cells, .slice (some ⟨b, o, none⟩) n c] w fun e w' => e = .returned (errV (testErr cs j)) ∧ Below w.heap.size w w' := by
  have HK := Hid.mk (fun W (h1 : Below w.heap.size w W) => kindOf_in b o n c cs j.right W hn hn' (by have := h1.size; omega) (hc.below h1 hb) hx)
  have HP := Hid.mk (fun W (h1 : Below w.heap.size w W) => place_in b o n c cs j.left.1 W hn hn' (by have := h1.size; omega) (hc.below h1 hb))
  have HS := Hid.mk (six_has j.op)
  unfold Jb.cells
  cases g : inS sixOps j.op.data.toList
  · have ht : testErr cs j = 1 := by unfold testErr; rw [if_pos (Or.inl g)]
    rw [g] at HS
    rw [ht]
    clear ht g hn hc
    go_enter Tryz.func90, Tryz.ntmps90
    go_wp2_with (go_at_call 29; refine (HS.out _ _ (by simp)).mono ?_; rintro e w1 ⟨rfl, rfl⟩)
    go_ret
    exact ⟨rfl, bel_box (below_box _ _) _⟩
  · rw [g] at HS
    by_cases h0 : j.left.1.data.toList = []
    · have he : j.left.1.toList.isEmpty = true := by rw [ByteArray.toList_eq, h0]; rfl
      have ht : testErr cs j = 1 := by unfold testErr; rw [if_pos (Or.inr h0)]
      rw [ht]
      clear ht g hn hc h0
      go_enter Tryz.func90, Tryz.ntmps90
      go_wp2_with (go_at_call 29; refine (HS.out _ _ (by simp)).mono ?_; rintro e w1 ⟨rfl, rfl⟩)
      go_ret
      exact ⟨rfl, bel_box (below_box _ _) _⟩
    · have he : j.left.1.toList.isEmpty = false := by
        rw [ByteArray.toList_eq]
        cases h : j.left.1.data.toList with
        | nil => exact absurd h h0
        | cons a q => rfl
      cases gp : placeN cs j.left.1.data.toList with
      | none =>
        have ht : testErr cs j = 7 := by unfold testErr; rw [if_neg (by simp [g, h0]), gp]
        rw [show placeI cs j.left.1.data.toList = -1 by rw [placeI, gp]] at HP
        rw [ht]
        clear ht g hn hc h0 gp
        go_enter Tryz.func90, Tryz.ntmps90
        go_wp2_with (first | (go_at_call 29; refine (HS.out _ _ (by simp)).mono ?_; rintro e w1 ⟨rfl, rfl⟩) | (go_at_call 98; refine (HP.out _ (bel_box (below_box _ _) _)).mono ?_; rintro e w2 ⟨rfl, hb2⟩))
        go_ret
        exact ⟨rfl, bel_then (bel_box (below_box _ _) _) hb2⟩
      | some i =>
        have hil := place_some gp
        rw [show placeI cs j.left.1.data.toList = (i : Int) by rw [placeI, gp]] at HP
        have hin : (i : Int) < (n : Int) := by omega
        have ht : testErr cs j = if kindA cs j.right = cs[i].2 then 0 else 13 := by
          unfold testErr; rw [if_neg (by simp [g, h0]), gp]
          simp only [List.getElem?_eq_getElem hil, Option.getD_some]
        have hd := (hc i hil).2
        rw [ht]
        clear ht g hn h0 gp
        generalize cs[i] = ci at *
        obtain ⟨kd, hkd⟩ : ∃ k, kindA cs j.right = k := ⟨_, rfl⟩
        rw [hkd] at HK ⊢
        clear hkd
        by_cases hkc : kd = ci.2
        · rw [if_pos hkc]
          have hkc' : (kd != ci.2) = false := by simp [hkc]
          clear hkc
          go_enter Tryz.func90, Tryz.ntmps90
          go_wp2_with (first | (go_at_call 29; refine (HS.out _ _ (by simp)).mono ?_; rintro e w1 ⟨rfl, rfl⟩) | (go_at_call 98; refine (HP.out _ (bel_box (below_box _ _) _)).mono ?_; rintro e w2 ⟨rfl, hb2⟩))
          have hb02 := bel_then (bel_box (below_box _ _) _) hb2
          have e10 := cell_regrown ((hb2.cell (p := ⟨w.heap.size, 10, none⟩) (by simp; omega)).trans (show _ = some (Value.string j.right.1) by simp))
          have e11 := cell_regrown ((hb2.cell (p := ⟨w.heap.size, 11, none⟩) (by simp; omega)).trans (show _ = some (Value.int .i64 j.right.2.1) by simp))
          have e12 := cell_regrown ((hb2.cell (p := ⟨w.heap.size, 12, none⟩) (by simp; omega)).trans (show _ = some (Value.int .i64 j.right.2.2.1) by simp))
          have e13 := cell_regrown ((hb2.cell (p := ⟨w.heap.size, 13, none⟩) (by simp; omega)).trans (show _ = some (Value.string j.right.2.2.2) by simp))
          have ed := cell_regrown ((hb02.cell (p := ⟨b, o + i * 2 + 1, none⟩) hb).trans hd)
          have C1 : ∀ d os, _ := fun d os => Calls.regrown_of (HK.out (Sort.grow (redrawn w2 d) os) (bel_then hb02 (below_regrown _ _ _)))
          have HB := Hid.mk hb02
          clear HS HP HK hb02 hb2
          refine wp_region_quiet_below (by kernel_rfl) (by kernel_rfl) ?_
          repeat (any_goals (first | go_big_quiet_step (exact C1 _ _) | quiet_step (exact C1 _ _)))
          refine wpQuiet_nil ?_
          intro _ hw'
          obtain ⟨⟨dq, osq⟩, hw''⟩ := hw'
          subst hw''
          clear e10 e11 e12 e13 ed C1
          go_wp2
          go_ret
          exact ⟨rfl, bel_then HB.out (below_regrown _ _ _)⟩
        · rw [if_neg hkc]
          have hkc' : (kd != ci.2) = true := by simp [hkc]
          clear hkc
          go_enter Tryz.func90, Tryz.ntmps90
          go_wp2_with (first | (go_at_call 29; refine (HS.out _ _ (by simp)).mono ?_; rintro e w1 ⟨rfl, rfl⟩) | (go_at_call 98; refine (HP.out _ (bel_box (below_box _ _) _)).mono ?_; rintro e w2 ⟨rfl, hb2⟩))
          have hb02 := bel_then (bel_box (below_box _ _) _) hb2
          have e10 := cell_regrown ((hb2.cell (p := ⟨w.heap.size, 10, none⟩) (by simp; omega)).trans (show _ = some (Value.string j.right.1) by simp))
          have e11 := cell_regrown ((hb2.cell (p := ⟨w.heap.size, 11, none⟩) (by simp; omega)).trans (show _ = some (Value.int .i64 j.right.2.1) by simp))
          have e12 := cell_regrown ((hb2.cell (p := ⟨w.heap.size, 12, none⟩) (by simp; omega)).trans (show _ = some (Value.int .i64 j.right.2.2.1) by simp))
          have e13 := cell_regrown ((hb2.cell (p := ⟨w.heap.size, 13, none⟩) (by simp; omega)).trans (show _ = some (Value.string j.right.2.2.2) by simp))
          have ed := cell_regrown ((hb02.cell (p := ⟨b, o + i * 2 + 1, none⟩) hb).trans hd)
          have C1 : ∀ d os, _ := fun d os => Calls.regrown_of (HK.out (Sort.grow (redrawn w2 d) os) (bel_then hb02 (below_regrown _ _ _)))
          have HB := Hid.mk hb02
          clear HS HP HK hb02 hb2
          refine wp_region_quiet_below (by kernel_rfl) (by kernel_rfl) ?_
          repeat (any_goals (first | go_big_quiet_step (exact C1 _ _) | quiet_step (exact C1 _ _)))
          refine wpQuiet_nil ?_
          intro _ hw'
          obtain ⟨⟨dq, osq⟩, hw''⟩ := hw'
          subst hw''
          clear e10 e11 e12 e13 ed C1
          go_wp2
          go_ret
          exact ⟨rfl, bel_then HB.out (below_regrown _ _ _)⟩
theorem errV_ne {n : Int} (h : n ≠ 0) : errV n = .iface 62 (.int .i64 n) := by unfold errV; rw [if_neg h]
theorem errV_0 : errV 0 = .nilIface := rfl
set_option maxRecDepth 100000 in
set_option maxHeartbeats 800000 in
/-- Cols: there are too few, or too many. -/
theorem cols_arg (va oa : Option Addr) (nin cin m oc : Nat) (j : Jb) (tk mk : Nat) (w : World) (hj : j.outs = .slice oa m oc) (hs : sizesI j.code = ((tk : Int), (mk : Int))) (hbad : tk = 0 ∨ nin ≠ tk ∨ m ≠ mk) :
    Calls Tryz.prog 45 #[.agg j.cells, .slice va nin cin] w fun e w' => e = .returned (.tuple #[.slice none 0 0, errV 1]) ∧ Below w.heap.size w w' := by
  have hS := fun W => sizes_any j.code W
  rw [hs] at hS
  simp only at hS
  have HS := Hid.mk hS
  unfold Jb.cells
  rw [hj]
  clear hS hs hj
  by_cases h0 : tk = 0
  · subst h0
    clear hbad
    go_enter Tryz.func45, Tryz.ntmps45
    go_wp2_with (go_at_call 70; refine (HS.out _).mono ?_; rintro e w1 ⟨rfl, rfl⟩)
    go_ret2
    exact ⟨rfl, below_box _ _⟩
  · have h0' : ((tk : Int) == 0) = false := by simp; omega
    by_cases h1 : nin = tk
    · have h1' : ((nin : Int) != (tk : Int)) = false := by simp; omega
      have h2' : ((m : Int) != (mk : Int)) = true := by simp; omega
      clear hbad h0 h1
      go_enter Tryz.func45, Tryz.ntmps45
      go_wp2_with (go_at_call 70; refine (HS.out _).mono ?_; rintro e w1 ⟨rfl, rfl⟩)
      go_ret2
      exact ⟨rfl, below_box _ _⟩
    · have h1' : ((nin : Int) != (tk : Int)) = true := by simp; omega
      clear hbad h0 h1
      go_enter Tryz.func45, Tryz.ntmps45
      go_wp2_with (go_at_call 70; refine (HS.out _).mono ?_; rintro e w1 ⟨rfl, rfl⟩)
      go_ret2
      exact ⟨rfl, below_box _ _⟩
set_option maxRecDepth 100000 in
set_option maxHeartbeats 800000 in
/-- Cols: something is wrong. -/
theorem cols_bad (va oa : Option Addr) (cin oc : Nat) (j : Jb) (tk mk : Nat) (n : Int) (w : World) (hj : j.outs = .slice oa mk oc) (hs : sizesI j.code = ((tk : Int), (mk : Int))) (h0 : tk ≠ 0) (hn : n ≠ 0)
    (hW : ∀ W, Below w.heap.size w W → Calls Tryz.prog 71 #[.agg j.cells, .slice va tk cin] W fun e w' => e = .returned (errV n) ∧ Below W.heap.size W w') :
    Calls Tryz.prog 45 #[.agg j.cells, .slice va tk cin] w fun e w' => e = .returned (.tuple #[.slice none 0 0, errV n]) ∧ Below w.heap.size w w' := by
  have hS := fun W => sizes_any j.code W
  rw [hs] at hS
  simp only at hS
  have HS := Hid.mk hS
  rw [errV_ne hn] at hW ⊢
  unfold Jb.cells at hW ⊢
  rw [hj] at hW ⊢
  have HW := Hid.mk hW
  have h0' : ((tk : Int) == 0) = false := by simp; omega
  have h1' : ((tk : Int) != (tk : Int)) = false := by simp
  have h2' : ((mk : Int) != (mk : Int)) = false := by simp
  clear hS hs hj hW h0 hn
  go_enter Tryz.func45, Tryz.ntmps45
  go_wp2_with (first | (go_at_call 70; refine (HS.out _).mono ?_; rintro e w1 ⟨rfl, rfl⟩) | (go_at_call 71; refine (HW.out _ (below_box _ _)).mono ?_; rintro e w2 ⟨rfl, hb2⟩))
  go_ret2
  exact ⟨rfl, bel_then (below_box _ _) hb2⟩
theorem Tryz.infoCols : (Tryz.prog.info? 45).map (fun i => (i.zero, i.size, i.bytes)) = some (some (.slice none 0 0), 1, 24) := by kernel_rfl
/-- Lists of columns that the call itself has made. -/
def HeldCols (w : World) (B : Nat) (us : List Value) (cs : List Cl) : Prop := ∀ u ∈ us, w.ownsRow B 48 2 u cs.length (colCells cs)
set_option maxRecDepth 100000 in
set_option maxHeartbeats 1600000 in
/-- Cols: nothing is wrong. -/
theorem cols_ok (va oa : Option Addr) (cin oc : Nat) (j : Jb) (tk mk : Nat) (cs : List Cl) (w : World) (hj : j.outs = .slice oa mk oc) (hs : sizesI j.code = ((tk : Int), (mk : Int))) (h0 : tk ≠ 0) (hmk : mk ≤ 2)
    (hW : ∀ W, Below w.heap.size w W → Calls Tryz.prog 71 #[.agg j.cells, .slice va tk cin] W fun e w' => e = .returned .nilIface ∧ Below W.heap.size W w')
    (hC : ∀ W, Below w.heap.size w W → Calls Tryz.prog 72 #[.agg j.cells, .slice va tk cin] W fun e w' => ∃ u, e = .returned u ∧ w'.ownsRow W.heap.size 48 2 u cs.length (colCells cs) ∧ Below W.heap.size W w') :
    Calls Tryz.prog 45 #[.agg j.cells, .slice va tk cin] w fun e w' => ∃ v us, e = .returned (.tuple #[v, .nilIface]) ∧ w'.ownsRow w.heap.size 45 1 v mk us ∧ HeldCols w' w.heap.size us cs ∧ Below w.heap.size w w' := by
  obtain ⟨i0, hi, hz0, hz1, hz2⟩ := info_parts Tryz.infoCols
  have hS := fun W => sizes_any j.code W
  rw [hs] at hS
  simp only at hS
  have HS := Hid.mk hS
  unfold Jb.cells at hW hC ⊢
  rw [hj] at hW hC ⊢
  have HW := Hid.mk hW
  have HC := Hid.mk hC
  have h0' : ((tk : Int) == 0) = false := by simp; omega
  have h1' : ((tk : Int) != (tk : Int)) = false := by simp
  have h2' : ((mk : Int) != (mk : Int)) = false := by simp
  clear hS hs hj hW hC h0
  go_enter Tryz.func45, Tryz.ntmps45
  go_wp2_with (first | (go_at_call 70; refine (HS.out _).mono ?_; rintro e w1 ⟨rfl, rfl⟩) | (go_at_call 71; refine (HW.out _ (below_box _ _)).mono ?_; rintro e w2 ⟨rfl, hb2⟩))
  have hjb : JobAt w2 w.heap.size ⟨j.at_, j.code, .slice oa mk oc, j.ins, j.cols, j.op, j.left, j.right, j.retry⟩ := JobAt.below (w := w.alloc (.cells _ 43)) (fun k v hk => by
    rw [World.cell?_alloc_at _ _ _ _ rfl]; exact hk) hb2 (by simp)
  have hb02 := bel_then (below_box _ _) hb2
  have hz2' : w.heap.size < w2.heap.size := by have := hb2.size; simp at this; omega
  have HJ := Hid.mk hjb
  have HB := Hid.mk hb02
  clear HS HW hjb hb02 hb2
  go_loopw [9, 39] (fun l i wr => ∃ (k : Nat) (us : List Value), k ≤ mk ∧ i = .int .i64 k ∧ wr.ownsRow w2.heap.size 45 1 l k us ∧ HeldCols wr w.heap.size us cs ∧ Below w2.heap.size w2 wr) (fun _ i _ => mk - (intOf i).toNat)
  case atStart => exact ⟨0, [], Nat.zero_le _, rfl, World.ownsRow_nil _ _ _ _, fun u hu => absurd hu (by simp), Below.refl _ _⟩
  case round =>
    obtain ⟨k, us, hk, rfl, hown, hheld, hnx⟩ := hrel
    obtain ⟨la, lc, rfl⟩ := own_slice hown
    have hws := hnx.size
    have HO := Hid.mk (And.intro hown (And.intro hheld hnx))
    by_cases hlt : k < mk
    · have hJ := HJ.out.below hnx hz2'
      have j0 : wr.cell? ⟨w.heap.size, 0, none⟩ = some (.int .i64 j.at_) := hJ 0 _ rfl
      have j1 : wr.cell? ⟨w.heap.size, 1, none⟩ = some (.int .i64 j.code) := hJ 1 _ rfl
      have j2 : wr.cell? ⟨w.heap.size, 2, none⟩ = some (.slice oa mk oc) := hJ 2 _ rfl
      have j3 : wr.cell? ⟨w.heap.size, 3, none⟩ = some j.ins := hJ 3 _ rfl
      have j4 : wr.cell? ⟨w.heap.size, 4, none⟩ = some j.cols := hJ 4 _ rfl
      have j5 : wr.cell? ⟨w.heap.size, 5, none⟩ = some (.string j.op) := hJ 5 _ rfl
      have j6 : wr.cell? ⟨w.heap.size, 6, none⟩ = some (.string j.left.1) := hJ 6 _ rfl
      have j7 : wr.cell? ⟨w.heap.size, 7, none⟩ = some (.int .i64 j.left.2.1) := hJ 7 _ rfl
      have j8 : wr.cell? ⟨w.heap.size, 8, none⟩ = some (.int .i64 j.left.2.2.1) := hJ 8 _ rfl
      have j9 : wr.cell? ⟨w.heap.size, 9, none⟩ = some (.string j.left.2.2.2) := hJ 9 _ rfl
      have j10 : wr.cell? ⟨w.heap.size, 10, none⟩ = some (.string j.right.1) := hJ 10 _ rfl
      have j11 : wr.cell? ⟨w.heap.size, 11, none⟩ = some (.int .i64 j.right.2.1) := hJ 11 _ rfl
      have j12 : wr.cell? ⟨w.heap.size, 12, none⟩ = some (.int .i64 j.right.2.2.1) := hJ 12 _ rfl
      have j13 : wr.cell? ⟨w.heap.size, 13, none⟩ = some (.string j.right.2.2.2) := hJ 13 _ rfl
      have j14 : wr.cell? ⟨w.heap.size, 14, none⟩ = some (.int .i64 j.retry) := hJ 14 _ rfl
      clear hJ hown hheld hnx
      go_wp2_with (first | (go_at_call 72; refine (HC.out _ (HB.out.trans (HO.out.2.2.mono HB.out.size))).mono ?_; rintro e w3 ⟨v1, rfl, ho3, hb3⟩; obtain ⟨v1a, v1c, rfl⟩ := own_slice ho3) | (at_builtin; refine wpList_append_own _ rfl _ _ 96 rfl w2.heap.size 45 i0 (.slice none 0 0) 1 24 Tryz.underlying96 hi hz0 hz1 hz2 rfl (by decide) _ _ _ rfl ((owns_below HO.out.1 hb3).alloc _) ⟨w3.heap.size, 0, none⟩ 1 1 [.slice v1a cs.length v1c] rfl rfl (news1 _ _ _ _ rfl) (one1s _ _ _) ?c3 ?c4 ?c5 ?_))
      case c3 => unfold maxLen; omega
      case c4 => omega
      case c5 => have := hb3.size; simp; omega
      intro v' w5 hown' hgrow _
      have hs3 := hb3.size
      obtain ⟨p1, p2, p3⟩ := HO.out
      have q1 := (owns_below p1 hb3).alloc (.cells #[.slice v1a cs.length v1c] 45)
      have hbl5 : Below w2.heap.size w2 w5 := ((bel_then p3 hb3).alloc (by omega) _).grown hgrow (by simp; omega) (fun q hq => (p1.lt q hq).1)
      have hu3 := ho3.alloc (.cells #[.slice v1a cs.length v1c] 45)
      have hH5 : HeldCols w5 w.heap.size (us ++ [.slice v1a cs.length v1c]) cs := fun u hu => by
        rw [List.mem_append] at hu
        rcases hu with hu | hu
        · have h1 := (owns_below (p2 u hu) hb3).alloc (.cells #[.slice v1a cs.length v1c] 45)
          exact h1.kept hgrow (own_ne (by decide) h1 q1)
        · simp at hu
          subst hu
          exact own_mono (by omega) (hu3.kept hgrow (own_ne (by decide) hu3 q1))
      have HF := Hid.mk (And.intro hown' (And.intro hH5 hbl5))
      clear hown' hgrow hH5 hbl5 hu3 q1 p1 p2 p3
      clear j0 j1 j2 j3 j4 j5 j6 j7 j8 j9 j10 j11 j12 j13 j14
      go_wp2
      go_roundw
      case rel => exact ⟨k + 1, _, by omega, by go_num, HF.out.1, HF.out.2.1, HF.out.2.2⟩
      case measure => simp [intOf]; omega
    · have hke : k = mk := by omega
      subst hke
      clear hown hheld hnx
      go_wp2
      go_ret2
      exact ⟨_, us, rfl, own_mono HB.out.size HO.out.1, HO.out.2.1, HB.out.trans (HO.out.2.2.mono HB.out.size)⟩
set_option maxRecDepth 100000 in
set_option maxHeartbeats 800000 in
/-- wrong, of a job that holds a column against something. -/
theorem wrong_test (hb ho tk cin b o n c : Nat) (cs : List Cl) (j : Jb) (w : World) (hcode : j.code = 1 ∨ j.code = 9) (htk : 0 < tk) (hhb : hb < w.heap.size) (h0 : w.cell? ⟨hb, ho, none⟩ = some (.slice (some ⟨b, o, none⟩) n c)) (hn : cs.length = n) (hn' : n ≤ 100) (hbl : b < w.heap.size) (hc : ColsAt w b o cs) (hx : j.right.2.2.2.size ≤ maxLen) :
    Calls Tryz.prog 71 #[.agg j.cells, .slice (some ⟨hb, ho, none⟩) tk cin] w fun e w' => e = .returned (errV (testErr cs j)) ∧ Below w.heap.size w w' := by
  have hT := fun W (h1 : Below w.heap.size w W) => wrongTest_in b o n c cs j W hn hn' (by have := h1.size; omega) (hc.below h1 hbl) hx
  unfold Jb.cells at hT ⊢
  generalize testErr cs j = r at *
  have HT := Hid.mk hT
  have htk' : (0 : Int) < (tk : Int) := by omega
  clear hT hn hc
  obtain ⟨code, hcd⟩ : ∃ k, j.code = k := ⟨_, rfl⟩
  rw [hcd] at HT hcode ⊢
  clear hcd
  rcases hcode with rfl | rfl
  all_goals
    go_enter Tryz.func71, Tryz.ntmps71
    go_wp2_with (go_at_call 90; refine (HT.out _ (below_box _ _)).mono ?_; rintro e w1 ⟨rfl, hb1⟩)
    go_ret
    exact ⟨rfl, bel_then (below_box _ _) hb1⟩
set_option maxRecDepth 100000 in
set_option maxHeartbeats 800000 in
/-- columnsOf, where they stay as they are. -/
theorem columns_same (hb ho tk cin b o n c : Nat) (cs : List Cl) (j : Jb) (w : World) (hcode : j.code = 1 ∨ j.code = 9 ∨ j.code = 2 ∨ j.code = 4 ∨ j.code = 5 ∨ j.code = 6) (htk : 0 < tk) (hhb : hb < w.heap.size) (h0 : w.cell? ⟨hb, ho, none⟩ = some (.slice (some ⟨b, o, none⟩) n c)) (hn : cs.length = n) (hn' : n ≤ 100) (hbl : b < w.heap.size) (hc : ColsAt w b o cs) :
    Calls Tryz.prog 72 #[.agg j.cells, .slice (some ⟨hb, ho, none⟩) tk cin] w fun e w' => ∃ u, e = .returned u ∧ w'.ownsRow w.heap.size 48 2 u cs.length (colCells cs) ∧ Below w.heap.size w w' := by
  have hT := fun W (h1 : Below w.heap.size w W) => cloneCol_in b o n c cs W hn hn' (by have := h1.size; omega) (hc.below h1 hbl)
  rw [hn]
  unfold Jb.cells
  have HT := Hid.mk hT
  have htk' : (0 : Int) < (tk : Int) := by omega
  clear hT hn hc
  obtain ⟨code, hcd⟩ : ∃ k, j.code = k := ⟨_, rfl⟩
  rw [hcd] at hcode ⊢
  clear hcd
  rcases hcode with rfl | rfl | rfl | rfl | rfl | rfl
  all_goals
    go_enter Tryz.func72, Tryz.ntmps72
    go_wp2_with (go_at_call 44; refine (HT.out _ (below_box _ _)).mono ?_; rintro e w1 ⟨v1, rfl, ho1, hb1⟩)
    go_ret
    exact ⟨_, rfl, own_mono (by simp) ho1, bel_then (below_box _ _) hb1⟩
def threeOps : List ByteArray := [⟨#[43]⟩, ⟨#[45]⟩, ⟨#[42]⟩]
theorem three_at (w : World) : StrsAt (w.alloc (.cells #[.string ⟨#[43]⟩, .string ⟨#[45]⟩, .string ⟨#[42]⟩] 9)) w.heap.size 0 threeOps := by
  intro j hj
  match j, hj with
  | 0, _ => simp [threeOps]
  | 1, _ => simp [threeOps]
  | 2, _ => simp [threeOps]
  | j + 3, h => exact absurd h (by simp [threeOps])
theorem three_has (x : ByteArray) (W : World) (H : Nat) (hH : W.heap.size = H) (hx : inS threeOps x.data.toList = true) :
    Calls Tryz.prog 29 #[.slice (some ⟨H, 0, none⟩) 3 3, .string x] (W.alloc (.cells #[.string ⟨#[43]⟩, .string ⟨#[45]⟩, .string ⟨#[42]⟩] 9)) fun e w' => e = .returned (.bool true) ∧ w' = W.alloc (.cells #[.string ⟨#[43]⟩, .string ⟨#[45]⟩, .string ⟨#[42]⟩] 9) := by
  subst hH
  rw [← hx]
  exact containsS_any W.heap.size 0 3 3 threeOps x _ rfl (by decide) (three_at W)
/-- What is wrong with a job that sets a column, by one of the three operations (0: nothing). -/
def setErr (cs : List Cl) (j : Jb) (nm : List UInt8) : Int := match placeN cs nm with
  | none => 7
  | some i => if (cs[i]?.getD (⟨#[]⟩, 0)).2 = 1 ∧ kindA cs j.left = 1 ∧ kindA cs j.right = 1 then 0 else 13
set_option maxRecDepth 100000 in
set_option maxHeartbeats 800000 in
theorem wrongSet_in (b o n c cb co cc : Nat) (cs : List Cl) (nm : ByteArray) (j : Jb) (w : World) (hj : j.cols = .slice (some ⟨cb, co, none⟩) 1 cc) (hcb : cb < w.heap.size) (s0 : w.cell? ⟨cb, co, none⟩ = some (.string nm)) (hop : inS threeOps j.op.data.toList = true)
    (hn : cs.length = n) (hn' : n ≤ 100) (hb : b < w.heap.size) (hc : ColsAt w b o cs) (hx : j.left.2.2.2.size ≤ maxLen) (hx' : j.right.2.2.2.size ≤ maxLen) :
    Calls Tryz.prog 91 #[.agg j.cells, .slice (some ⟨b, o, none⟩) n c] w fun e w' => e = .returned (errV (setErr cs j nm.data.toList)) ∧ Below w.heap.size w w' := by
  have hKL := fun W (h1 : Below w.heap.size w W) => kindOf_in b o n c cs j.left W hn hn' (by have := h1.size; omega) (hc.below h1 hb) hx
  have hKR := fun W (h1 : Below w.heap.size w W) => kindOf_in b o n c cs j.right W hn hn' (by have := h1.size; omega) (hc.below h1 hb) hx'
  have hP := fun W (h1 : Below w.heap.size w W) => place_in b o n c cs nm W hn hn' (by have := h1.size; omega) (hc.below h1 hb)
  have HS := Hid.mk (fun W H hH => three_has j.op W H hH hop)
  have hJ0 : JobAt (w.alloc (.cells j.cells 43)) w.heap.size j := fun k v hk => by rw [World.cell?_alloc_at _ _ _ _ rfl]; exact hk
  unfold Jb.cells at hJ0 ⊢
  rw [hj] at hJ0 ⊢
  have HJ0 := Hid.mk hJ0
  clear hJ0
  cases gp : placeN cs nm.data.toList with
  | none =>
    have ht : setErr cs j nm.data.toList = 7 := by unfold setErr; rw [gp]
    rw [show placeI cs nm.data.toList = -1 by rw [placeI, gp]] at hP
    have HP := Hid.mk hP
    rw [ht]
    clear ht hn hc gp hP hKL hKR hop HJ0
    go_enter Tryz.func91, Tryz.ntmps91
    go_wp2_with (first | (go_at_call 29; refine (HS.out _ _ (by simp)).mono ?_; rintro e w1 ⟨rfl, rfl⟩) | (go_at_call 98; refine (HP.out _ (bel_box (below_box _ _) _)).mono ?_; rintro e w2 ⟨rfl, hb2⟩))
    go_ret
    exact ⟨rfl, bel_then (bel_box (below_box _ _) _) hb2⟩
  | some i =>
    have hil := place_some gp
    rw [show placeI cs nm.data.toList = (i : Int) by rw [placeI, gp]] at hP
    have hin : (i : Int) < (n : Int) := by omega
    have ht : setErr cs j nm.data.toList = if cs[i].2 = 1 ∧ kindA cs j.left = 1 ∧ kindA cs j.right = 1 then 0 else 13 := by
      unfold setErr; rw [gp]
      simp only [List.getElem?_eq_getElem hil, Option.getD_some]
    have hd := (hc i hil).2
    rw [ht]
    have HP := Hid.mk hP
    clear ht hn gp hP hop
    generalize cs[i] = ci at *
    obtain ⟨kl, hkl⟩ : ∃ k, kindA cs j.left = k := ⟨_, rfl⟩
    obtain ⟨kr, hkr⟩ : ∃ k, kindA cs j.right = k := ⟨_, rfl⟩
    rw [hkl] at hKL ⊢
    rw [hkr] at hKR ⊢
    have HKL := Hid.mk hKL
    have HKR := Hid.mk hKR
    clear hkl hkr hKL hKR
    clear HJ0 hc
    obtain ⟨kc, hkc⟩ : ∃ k, ci.2 = k := ⟨_, rfl⟩
    rw [hkc] at hd ⊢
    clear hkc
    by_cases g1 : kc = 1
    · subst g1
      by_cases g2 : kl = 1
      · subst g2
        by_cases g3 : kr = 1
        · subst g3
          rw [if_pos ⟨rfl, rfl, rfl⟩]
          go_enter Tryz.func91, Tryz.ntmps91
          go_wp2_with (first | (go_at_call 29; refine (HS.out _ _ (by simp)).mono ?_; rintro e w1 ⟨rfl, rfl⟩) | (go_at_call 98; refine (HP.out _ (bel_box (below_box _ _) _)).mono ?_; rintro e w2 ⟨rfl, hb2⟩; have hb02 := bel_then (bel_box (below_box _ _) _) hb2; have hz2 : w.heap.size < w2.heap.size := (by have := hb2.size; simp at this; omega); have d2 := (hb02.cell (p := ⟨b, o + i * 2 + 1, none⟩) hb).trans hd; have q6 := (hb2.cell (p := ⟨w.heap.size, 6, none⟩) (by simp; omega)).trans (show _ = some (Value.string j.left.1) by simp); have q7 := (hb2.cell (p := ⟨w.heap.size, 7, none⟩) (by simp; omega)).trans (show _ = some (Value.int .i64 j.left.2.1) by simp); have q8 := (hb2.cell (p := ⟨w.heap.size, 8, none⟩) (by simp; omega)).trans (show _ = some (Value.int .i64 j.left.2.2.1) by simp); have q9 := (hb2.cell (p := ⟨w.heap.size, 9, none⟩) (by simp; omega)).trans (show _ = some (Value.string j.left.2.2.2) by simp); have q10 := (hb2.cell (p := ⟨w.heap.size, 10, none⟩) (by simp; omega)).trans (show _ = some (Value.string j.right.1) by simp); have q11 := (hb2.cell (p := ⟨w.heap.size, 11, none⟩) (by simp; omega)).trans (show _ = some (Value.int .i64 j.right.2.1) by simp); have q12 := (hb2.cell (p := ⟨w.heap.size, 12, none⟩) (by simp; omega)).trans (show _ = some (Value.int .i64 j.right.2.2.1) by simp); have q13 := (hb2.cell (p := ⟨w.heap.size, 13, none⟩) (by simp; omega)).trans (show _ = some (Value.string j.right.2.2.2) by simp); have HB := Hid.mk (And.intro hb2 hb02); clear hb2 hb02) | (go_at_call 107; fail))
          refine (HKL.out _ HB.out.2).mono ?_
          rintro e w3 ⟨rfl, hb3⟩
          have r10 := (hb3.cell (p := ⟨w.heap.size, 10, none⟩) hz2).trans q10
          have r11 := (hb3.cell (p := ⟨w.heap.size, 11, none⟩) hz2).trans q11
          have r12 := (hb3.cell (p := ⟨w.heap.size, 12, none⟩) hz2).trans q12
          have r13 := (hb3.cell (p := ⟨w.heap.size, 13, none⟩) hz2).trans q13
          have hb03 := bel_then HB.out.2 hb3
          have HB3 := Hid.mk hb03
          clear hb3 hb03
          go_wp2_with (go_at_call 107; refine (HKR.out _ HB3.out).mono ?_; rintro e w4 ⟨rfl, hb4⟩)
          go_ret
          exact ⟨rfl, bel_then HB3.out hb4⟩
        · rw [if_neg (fun h => g3 h.2.2)]
          have g3' : (kr != 1) = true := by simp [g3]
          go_enter Tryz.func91, Tryz.ntmps91
          go_wp2_with (first | (go_at_call 29; refine (HS.out _ _ (by simp)).mono ?_; rintro e w1 ⟨rfl, rfl⟩) | (go_at_call 98; refine (HP.out _ (bel_box (below_box _ _) _)).mono ?_; rintro e w2 ⟨rfl, hb2⟩; have hb02 := bel_then (bel_box (below_box _ _) _) hb2; have hz2 : w.heap.size < w2.heap.size := (by have := hb2.size; simp at this; omega); have d2 := (hb02.cell (p := ⟨b, o + i * 2 + 1, none⟩) hb).trans hd; have q6 := (hb2.cell (p := ⟨w.heap.size, 6, none⟩) (by simp; omega)).trans (show _ = some (Value.string j.left.1) by simp); have q7 := (hb2.cell (p := ⟨w.heap.size, 7, none⟩) (by simp; omega)).trans (show _ = some (Value.int .i64 j.left.2.1) by simp); have q8 := (hb2.cell (p := ⟨w.heap.size, 8, none⟩) (by simp; omega)).trans (show _ = some (Value.int .i64 j.left.2.2.1) by simp); have q9 := (hb2.cell (p := ⟨w.heap.size, 9, none⟩) (by simp; omega)).trans (show _ = some (Value.string j.left.2.2.2) by simp); have q10 := (hb2.cell (p := ⟨w.heap.size, 10, none⟩) (by simp; omega)).trans (show _ = some (Value.string j.right.1) by simp); have q11 := (hb2.cell (p := ⟨w.heap.size, 11, none⟩) (by simp; omega)).trans (show _ = some (Value.int .i64 j.right.2.1) by simp); have q12 := (hb2.cell (p := ⟨w.heap.size, 12, none⟩) (by simp; omega)).trans (show _ = some (Value.int .i64 j.right.2.2.1) by simp); have q13 := (hb2.cell (p := ⟨w.heap.size, 13, none⟩) (by simp; omega)).trans (show _ = some (Value.string j.right.2.2.2) by simp); have HB := Hid.mk (And.intro hb2 hb02); clear hb2 hb02) | (go_at_call 107; fail))
          refine (HKL.out _ HB.out.2).mono ?_
          rintro e w3 ⟨rfl, hb3⟩
          have r10 := (hb3.cell (p := ⟨w.heap.size, 10, none⟩) hz2).trans q10
          have r11 := (hb3.cell (p := ⟨w.heap.size, 11, none⟩) hz2).trans q11
          have r12 := (hb3.cell (p := ⟨w.heap.size, 12, none⟩) hz2).trans q12
          have r13 := (hb3.cell (p := ⟨w.heap.size, 13, none⟩) hz2).trans q13
          have hb03 := bel_then HB.out.2 hb3
          have HB3 := Hid.mk hb03
          clear hb3 hb03
          go_wp2_with (go_at_call 107; refine (HKR.out _ HB3.out).mono ?_; rintro e w4 ⟨rfl, hb4⟩)
          go_ret
          exact ⟨rfl, bel_then HB3.out hb4⟩
      · rw [if_neg (fun h => g2 h.2.1)]
        have g2' : (kl != 1) = true := by simp [g2]
        go_enter Tryz.func91, Tryz.ntmps91
        go_wp2_with (first | (go_at_call 29; refine (HS.out _ _ (by simp)).mono ?_; rintro e w1 ⟨rfl, rfl⟩) | (go_at_call 98; refine (HP.out _ (bel_box (below_box _ _) _)).mono ?_; rintro e w2 ⟨rfl, hb2⟩; have hb02 := bel_then (bel_box (below_box _ _) _) hb2; have hz2 : w.heap.size < w2.heap.size := (by have := hb2.size; simp at this; omega); have d2 := (hb02.cell (p := ⟨b, o + i * 2 + 1, none⟩) hb).trans hd; have q6 := (hb2.cell (p := ⟨w.heap.size, 6, none⟩) (by simp; omega)).trans (show _ = some (Value.string j.left.1) by simp); have q7 := (hb2.cell (p := ⟨w.heap.size, 7, none⟩) (by simp; omega)).trans (show _ = some (Value.int .i64 j.left.2.1) by simp); have q8 := (hb2.cell (p := ⟨w.heap.size, 8, none⟩) (by simp; omega)).trans (show _ = some (Value.int .i64 j.left.2.2.1) by simp); have q9 := (hb2.cell (p := ⟨w.heap.size, 9, none⟩) (by simp; omega)).trans (show _ = some (Value.string j.left.2.2.2) by simp); have q10 := (hb2.cell (p := ⟨w.heap.size, 10, none⟩) (by simp; omega)).trans (show _ = some (Value.string j.right.1) by simp); have q11 := (hb2.cell (p := ⟨w.heap.size, 11, none⟩) (by simp; omega)).trans (show _ = some (Value.int .i64 j.right.2.1) by simp); have q12 := (hb2.cell (p := ⟨w.heap.size, 12, none⟩) (by simp; omega)).trans (show _ = some (Value.int .i64 j.right.2.2.1) by simp); have q13 := (hb2.cell (p := ⟨w.heap.size, 13, none⟩) (by simp; omega)).trans (show _ = some (Value.string j.right.2.2.2) by simp); have HB := Hid.mk (And.intro hb2 hb02); clear hb2 hb02) | (go_at_call 107; fail))
        refine (HKL.out _ HB.out.2).mono ?_
        rintro e w3 ⟨rfl, hb3⟩
        have hb03 := bel_then HB.out.2 hb3
        have HB3 := Hid.mk hb03
        clear hb3 hb03
        go_wp2
        go_ret
        exact ⟨rfl, HB3.out⟩
    · rw [if_neg (fun h => g1 h.1)]
      have g1' : (kc != 1) = true := by simp [g1]
      go_enter Tryz.func91, Tryz.ntmps91
      go_wp2_with (first | (go_at_call 29; refine (HS.out _ _ (by simp)).mono ?_; rintro e w1 ⟨rfl, rfl⟩) | (go_at_call 98; refine (HP.out _ (bel_box (below_box _ _) _)).mono ?_; rintro e w2 ⟨rfl, hb2⟩; have hb02 := bel_then (bel_box (below_box _ _) _) hb2; have hz2 : w.heap.size < w2.heap.size := (by have := hb2.size; simp at this; omega); have d2 := (hb02.cell (p := ⟨b, o + i * 2 + 1, none⟩) hb).trans hd; have q6 := (hb2.cell (p := ⟨w.heap.size, 6, none⟩) (by simp; omega)).trans (show _ = some (Value.string j.left.1) by simp); have q7 := (hb2.cell (p := ⟨w.heap.size, 7, none⟩) (by simp; omega)).trans (show _ = some (Value.int .i64 j.left.2.1) by simp); have q8 := (hb2.cell (p := ⟨w.heap.size, 8, none⟩) (by simp; omega)).trans (show _ = some (Value.int .i64 j.left.2.2.1) by simp); have q9 := (hb2.cell (p := ⟨w.heap.size, 9, none⟩) (by simp; omega)).trans (show _ = some (Value.string j.left.2.2.2) by simp); have q10 := (hb2.cell (p := ⟨w.heap.size, 10, none⟩) (by simp; omega)).trans (show _ = some (Value.string j.right.1) by simp); have q11 := (hb2.cell (p := ⟨w.heap.size, 11, none⟩) (by simp; omega)).trans (show _ = some (Value.int .i64 j.right.2.1) by simp); have q12 := (hb2.cell (p := ⟨w.heap.size, 12, none⟩) (by simp; omega)).trans (show _ = some (Value.int .i64 j.right.2.2.1) by simp); have q13 := (hb2.cell (p := ⟨w.heap.size, 13, none⟩) (by simp; omega)).trans (show _ = some (Value.string j.right.2.2.2) by simp); have HB := Hid.mk (And.intro hb2 hb02); clear hb2 hb02) | (go_at_call 107; fail))
      go_ret
      exact ⟨rfl, HB.out.2⟩
set_option maxRecDepth 100000 in
set_option maxHeartbeats 800000 in
/-- wrong, of a job that sets a column. -/
theorem wrong_set (hb ho tk cin b o n c cb co cc : Nat) (cs : List Cl) (nm : ByteArray) (j : Jb) (w : World) (hcode : j.code = 2) (htk : 0 < tk) (hhb : hb < w.heap.size) (h0 : w.cell? ⟨hb, ho, none⟩ = some (.slice (some ⟨b, o, none⟩) n c)) (hj : j.cols = .slice (some ⟨cb, co, none⟩) 1 cc) (hcb : cb < w.heap.size) (s0 : w.cell? ⟨cb, co, none⟩ = some (.string nm)) (hop : inS threeOps j.op.data.toList = true)
    (hn : cs.length = n) (hn' : n ≤ 100) (hbl : b < w.heap.size) (hc : ColsAt w b o cs) (hx : j.left.2.2.2.size ≤ maxLen) (hx' : j.right.2.2.2.size ≤ maxLen) :
    Calls Tryz.prog 71 #[.agg j.cells, .slice (some ⟨hb, ho, none⟩) tk cin] w fun e w' => e = .returned (errV (setErr cs j nm.data.toList)) ∧ Below w.heap.size w w' := by
  have hT := fun W (h1 : Below w.heap.size w W) => wrongSet_in b o n c cb co cc cs nm j W hj (by have := h1.size; omega) ((h1.cell (p := ⟨cb, co, none⟩) hcb).trans s0) hop hn hn' (by have := h1.size; omega) (hc.below h1 hbl) hx hx'
  unfold Jb.cells at hT ⊢
  generalize setErr cs j nm.data.toList = r at *
  obtain ⟨code, hcd⟩ : ∃ k, j.code = k := ⟨_, rfl⟩
  rw [hcd] at hT hcode ⊢
  clear hcd
  subst hcode
  have HT := Hid.mk hT
  have htk' : (0 : Int) < (tk : Int) := by omega
  clear hT hn hc s0 hj
  go_enter Tryz.func71, Tryz.ntmps71
  go_wp2_with (go_at_call 91; refine (HT.out _ (below_box _ _)).mono ?_; rintro e w1 ⟨rfl, hb1⟩)
  go_ret
  exact ⟨rfl, bel_then (below_box _ _) hb1⟩
theorem job_new (w : World) (j : Jb) (t : TypeId) : JobAt (w.alloc (.cells j.cells t)) w.heap.size j := fun k v hk => by rw [World.cell?_alloc_at _ _ _ _ rfl]; exact hk
theorem tab_cells {w : World} {B n z : Nat} {v : Value} {us : List Value} {e : TypeId} (h : w.ownsRow B e z v n us) (h0 : 0 < n) : ∃ g c, v = .slice (some ⟨g, 0, none⟩) n c ∧ B ≤ g ∧ g < w.heap.size ∧ ∀ k y, us[k]? = some y → w.cell? ⟨g, 0 + k, none⟩ = some y := by
  have h' := h
  obtain ⟨hl, ⟨rfl, hn⟩ | ⟨g, cap, cur, rfl, hg, hh, hn, hm, _, _⟩⟩ := h
  · omega
  · refine ⟨g, cap, rfl, hg, (h'.lt g rfl).2, fun k y hk => ?_⟩
    have hkl : k < us.length := (List.getElem?_eq_some_iff.1 hk).1
    have e1 := h'.cellAt k (by omega)
    rw [Nat.zero_add, e1, hk]
theorem cols_at {w : World} {v : Value} {cs : List Cl} (h : ColsIs w v cs) (h1 : 1 ≤ cs.length) : ∃ b o c, v = .slice (some ⟨b, o, none⟩) cs.length c ∧ b < w.heap.size ∧ ColsAt w b o cs := by
  obtain ⟨a, c, rfl, -, -, h⟩ := h
  rcases h with h | ⟨b, o, rfl, hl, hat⟩
  · rw [h] at h1; simp at h1
  · exact ⟨b, o, c, rfl, hl, hat⟩
set_option maxHeartbeats 800000 in
theorem eqC_in (b o c b' o' c' n : Nat) (cs : List Cl) (w : World) (hn : cs.length = n) (h8 : n ≤ 100) (hb : b < w.heap.size) (hb' : b' < w.heap.size) (hc : ColsAt w b o cs) (hc' : ColsAt w b' o' cs) :
    Calls Tryz.prog 12 #[.slice (some ⟨b, o, none⟩) n c, .slice (some ⟨b', o', none⟩) n c'] w fun e w' => e = .returned (.bool true) ∧ Below w.heap.size w w' := by
  have HN := Hid.mk hn
  clear hn
  go_enter Tryz.func12, Tryz.ntmps12
  go_wp2
  go_loopw [13] (fun i wr => ∃ k : Nat, k ≤ n ∧ i = .int .i64 k ∧ Below w.heap.size w wr) (fun i _ => n - (intOf i).toNat)
  case atStart => exact ⟨0, Nat.zero_le _, rfl, Below.refl _ _⟩
  case round =>
    obtain ⟨k, hk, rfl, hnx⟩ := hrel
    by_cases hlt : k < n
    · have hk2 : k < cs.length := by have := HN.out; omega
      obtain ⟨c1, c2⟩ := hc k hk2
      have d1 := (hnx.cell (p := ⟨b, o + k * 2, none⟩) hb).trans c1
      have d2 := (hnx.cell (p := ⟨b, o + k * 2 + 1, none⟩) hb).trans c2
      obtain ⟨c3, c4⟩ := hc' k hk2
      have d3 := (hnx.cell (p := ⟨b', o' + k * 2, none⟩) hb').trans c3
      have d4 := (hnx.cell (p := ⟨b', o' + k * 2 + 1, none⟩) hb').trans c4
      clear c1 c2 c3 c4
      go_wp2
      go_quiet (fail)
      go_wp2
      go_roundw
      case rel => exact ⟨k + 1, by omega, by go_num, below_drewN hnx _⟩
      case measure => simp [intOf]; omega
    · go_wp2
      go_ret
      exact ⟨rfl, hnx⟩
/-- A list of texts. -/
def StrsIs (w : World) (v : Value) (ss : List ByteArray) : Prop := ∃ a c, v = .slice a ss.length c ∧ (∀ s ∈ ss, s.size ≤ maxLen) ∧ (ss = [] ∨ ∃ b o, a = some ⟨b, o, none⟩ ∧ b < w.heap.size ∧ StrsAt w b o ss)
theorem StrsIs.below {w w' : World} {v : Value} {ss : List ByteArray} (h : StrsIs w v ss) (hb : Below w.heap.size w w') : StrsIs w' v ss := by
  obtain ⟨a, c, e, hs, h⟩ := h
  refine ⟨a, c, e, hs, ?_⟩
  rcases h with h | ⟨b, o, e2, hl, hat⟩
  · exact Or.inl h
  · exact Or.inr ⟨b, o, e2, Nat.lt_of_lt_of_le hl hb.size, hat.below hb hl⟩
/-- What is wrong with names of columns, some ahead (0: nothing). -/
def lerr (cs : List Cl) (seen : List ByteArray) : List ByteArray → Int
  | [] => 0
  | s :: r => if placeN cs s.data.toList = none then 7 else if inS seen s.data.toList = true then 9 else lerr cs (seen ++ [s]) r
def listErr (cs : List Cl) (ss : List ByteArray) : Int := if ss.length = 0 ∨ 6 < ss.length then 1 else lerr cs [] ss
theorem lerr_step (cs : List Cl) (ss : List ByteArray) (k : Nat) (hk : k < ss.length) : lerr cs (ss.take k) (ss.drop k) = if placeN cs ss[k].data.toList = none then 7 else if inS (ss.take k) ss[k].data.toList = true then 9 else lerr cs (ss.take (k + 1)) (ss.drop (k + 1)) := by
  rw [List.drop_eq_getElem_cons hk, lerr, List.take_succ_eq_append_getElem hk]
theorem StrsAt.take {w : World} {b o : Nat} {ss : List ByteArray} (h : StrsAt w b o ss) (k : Nat) : StrsAt w b o (ss.take k) := fun j hj => by
  rw [List.getElem_take]
  exact h j (by rw [List.length_take] at hj; omega)
set_option maxHeartbeats 800000 in
theorem wrongList_few (va : Option Addr) (n vcap : Nat) (vc : Value) (w : World) (h : n = 0 ∨ 6 < n) (hn : n ≤ maxLen) :
    Calls Tryz.prog 92 #[.slice va n vcap, vc] w fun e w' => e = .returned (errV 1) ∧ Below w.heap.size w w' := by
  rw [errV_ne (by decide)]
  unfold maxLen at hn
  by_cases h0 : n = 0
  · subst h0
    clear h
    go_enter Tryz.func92, Tryz.ntmps92
    go_wp2
    go_ret
    exact ⟨rfl, Below.refl _ _⟩
  · have h6 : (6 : Int) < (n : Int) := by omega
    have h0' : ((n : Int) == 0) = false := by simp; omega
    clear h
    go_enter Tryz.func92, Tryz.ntmps92
    go_wp2
    go_ret
    exact ⟨rfl, Below.refl _ _⟩
set_option maxRecDepth 100000 in
set_option maxHeartbeats 1600000 in
theorem wrongList_in (nb no nc b o n c m : Nat) (ss : List ByteArray) (cs : List Cl) (w : World) (hm : ss.length = m) (hm0 : 0 < m) (hm6 : m ≤ 6) (hcap : m ≤ nc) (hnb : nb < w.heap.size) (hs : StrsAt w nb no ss) (hn : cs.length = n) (hn' : n ≤ 100) (hb : b < w.heap.size) (hc : ColsAt w b o cs) :
    Calls Tryz.prog 92 #[.slice (some ⟨nb, no, none⟩) m nc, .slice (some ⟨b, o, none⟩) n c] w fun e w' => e = .returned (errV (lerr cs [] ss)) ∧ Below w.heap.size w w' := by
  have HP := Hid.mk (fun W (h1 : Below w.heap.size w W) nm => place_in b o n c cs nm W hn hn' (by have := h1.size; omega) (hc.below h1 hb))
  have HS := Hid.mk hs
  have HM := Hid.mk hm
  have h0' : ((m : Int) == 0) = false := by simp; omega
  have h6' : ¬ ((6 : Int) < (m : Int)) := by omega
  have HH := Hid.mk (And.intro hn hc)
  clear hn hc hs hm
  go_enter Tryz.func92, Tryz.ntmps92
  go_wp2
  go_loopw [18] (fun i wr => ∃ k : Nat, k ≤ m ∧ i = .int .i64 k ∧ lerr cs [] ss = lerr cs (ss.take k) (ss.drop k) ∧ Below w.heap.size w wr) (fun i _ => m - (intOf i).toNat)
  case atStart => exact ⟨0, Nat.zero_le _, rfl, by simp, Below.refl _ _⟩
  case round =>
    obtain ⟨k, hk, rfl, hle, hnx⟩ := hrel
    have HX := Hid.mk (And.intro hle hnx)
    by_cases hlt : k < m
    · have hk2 : k < ss.length := by have := HM.out; omega
      have d1 := (hnx.cell (p := ⟨nb, no + k, none⟩) hnb).trans (HS.out k hk2)
      have hst := lerr_step cs ss k hk2
      have HP1 := Hid.mk (fun nm => HP.out wr hnx nm)
      have HC := Hid.mk (fun W (hW : Below wr.heap.size wr W) x => containsS_any nb no k nc (ss.take k) x W (by rw [List.length_take]; omega) (by omega) ((HS.out.below hnx hnb).take k |>.below hW (by have := hnx.size; omega)))
      have hkm : (k : Int) ≤ (nc : Int) := by omega
      clear hle hnx
      generalize hsk : ss[k] = sk at *
      cases gp : placeN cs sk.data.toList with
      | none =>
        have hP := HP1.out sk
        rw [show placeI cs sk.data.toList = -1 by rw [placeI, gp]] at hP
        rw [gp, if_pos rfl] at hst
        have HPP := Hid.mk hP
        have HST := Hid.mk (HX.out.1.trans hst)
        clear hP gp hst hsk HP1 HC
        go_wp2_with (go_at_call 98; refine HPP.out.mono ?_; rintro e w1 ⟨rfl, hb1⟩)
        go_ret
        refine ⟨?_, bel_then HX.out.2 hb1⟩
        rw [HST.out, errV_ne (by decide)]; rfl
      | some q =>
        have hP := HP1.out sk
        rw [show placeI cs sk.data.toList = (q : Int) by rw [placeI, gp]] at hP
        rw [gp, if_neg (by simp)] at hst
        have HPP := Hid.mk hP
        clear hP gp HP1
        cases gi : inS (ss.take k) sk.data.toList
        · rw [gi, if_neg (by simp)] at hst
          have HST := Hid.mk (HX.out.1.trans hst)
          have HCF := Hid.mk (fun W (hW : Below wr.heap.size wr W) => by have := HC.out W hW sk; rw [gi] at this; exact this)
          clear hst hsk gi HC
          go_wp2_with (first | (go_at_call 98; refine HPP.out.mono ?_; rintro e w1 ⟨rfl, hb1⟩) | (go_at_call 29; refine (HCF.out _ hb1).mono ?_; rintro e w2 ⟨rfl, rfl⟩))
          go_roundw
          case rel => exact ⟨k + 1, by omega, by go_num, HST.out, bel_then HX.out.2 hb1⟩
          case measure => simp [intOf]; omega
        · rw [gi, if_pos rfl] at hst
          have HST := Hid.mk (HX.out.1.trans hst)
          have HCF := Hid.mk (fun W (hW : Below wr.heap.size wr W) => by have := HC.out W hW sk; rw [gi] at this; exact this)
          clear hst hsk gi HC
          go_wp2_with (first | (go_at_call 98; refine HPP.out.mono ?_; rintro e w1 ⟨rfl, hb1⟩) | (go_at_call 29; refine (HCF.out _ hb1).mono ?_; rintro e w2 ⟨rfl, rfl⟩))
          go_ret
          refine ⟨?_, bel_then HX.out.2 hb1⟩
          rw [HST.out, errV_ne (by decide)]; rfl
    · have hke : k = m := by omega
      subst hke
      have HE := Hid.mk (show lerr cs [] ss = 0 by rw [hle, List.drop_of_length_le (by have := HM.out; omega)]; rfl)
      clear hle hnx
      go_wp2
      go_ret
      rw [HE.out, errV_0]
      exact ⟨rfl, HX.out.2⟩
theorem Tryz.infoInt : (Tryz.prog.info? 3).map (fun i => (i.zero, i.size, i.bytes)) = some (some (.int .i64 0), 1, 8) := by kernel_rfl
/-- Numbers in a list. -/
def intCells (ks : List Nat) : List Value := ks.map fun (k : Nat) => .int .i64 (k : Int)
def IntsAt (w : World) (b o : Nat) (ks : List Nat) : Prop := ∀ (j : Nat) (h : j < ks.length), w.cell? ⟨b, o + j, none⟩ = some (.int .i64 (ks[j] : Int))
theorem IntsAt.below {w w' : World} {B b o : Nat} {ks : List Nat} (h : IntsAt w b o ks) (hb : Below B w w') (hlt : b < B) : IntsAt w' b o ks := fun j hj => (hb.cell (p := ⟨b, o + j, none⟩) hlt).trans (h j hj)
theorem ints_of {w : World} {B : Nat} {v : Value} {ks : List Nat} (h : w.ownsRow B 3 1 v ks.length (intCells ks)) (h0 : 0 < ks.length) : ∃ g c, v = .slice (some ⟨g, 0, none⟩) ks.length c ∧ B ≤ g ∧ g < w.heap.size ∧ IntsAt w g 0 ks := by
  obtain ⟨g, c, rfl, hB, hl, hc⟩ := tab_cells h h0
  exact ⟨g, c, rfl, hB, hl, fun j hj => hc j _ (by rw [intCells, List.getElem?_map, List.getElem?_eq_getElem hj]; rfl)⟩
theorem one1i (k : IntKind) (n : Int) : ∀ u ∈ [Value.int k n], u.oneCell' = true := by intro u hu; simp at hu; subst hu; rfl
theorem one2 (b : Int) (s : ByteArray) : ∀ u ∈ [Value.string s, .int .i64 b], u.oneCell' = true := by intro u hu; simp at hu; rcases hu with rfl | rfl <;> rfl
theorem news2 (w : World) (a b : Value) (t : TypeId) (H : Nat) (hH : w.heap.size = H) : ∀ j u, [a, b][j]? = some u → (w.alloc (.cells #[a, b] t)).cell? ((⟨H, 0, none⟩ : Addr).add j) = some u := by
  intro j u hj
  subst hH
  match j, hj with
  | 0, hj => simp at hj; subst hj; simp [Addr.add]
  | 1, hj => simp at hj; subst hj; simp [Addr.add]
set_option maxRecDepth 100000 in
set_option maxHeartbeats 1600000 in
/-- places: where columns stand. -/
theorem places_in (nb no nc b o n c m : Nat) (ss : List ByteArray) (ks : List Nat) (cs : List Cl) (w : World) (hm : ss.length = m) (hm6 : m ≤ 100) (hnb : nb < w.heap.size) (hs : StrsAt w nb no ss) (hn : cs.length = n) (hn' : n ≤ 100) (hb : b < w.heap.size) (hc : ColsAt w b o cs) (hkl : ks.length = m) (hks : ∀ j (h : j < ss.length) (h' : j < ks.length), placeN cs ss[j].data.toList = some ks[j]) :
    Calls Tryz.prog 96 #[.slice (some ⟨b, o, none⟩) n c, .slice (some ⟨nb, no, none⟩) m nc] w fun e w' => ∃ v, e = .returned v ∧ w'.ownsRow w.heap.size 3 1 v ks.length (intCells ks) ∧ Below w.heap.size w w' := by
  obtain ⟨i0, hi, hz0, hz1, hz2⟩ := info_parts Tryz.infoInt
  have HP := Hid.mk (fun W (h1 : Below w.heap.size w W) nm => place_in b o n c cs nm W hn hn' (by have := h1.size; omega) (hc.below h1 hb))
  have HS := Hid.mk hs
  have HM := Hid.mk (And.intro hm (And.intro hkl hks))
  clear hn hc hs hm hkl hks
  go_enter Tryz.func96, Tryz.ntmps96
  go_wp2
  go_loopw [5, 10] (fun l i wr => ∃ k : Nat, k ≤ m ∧ i = .int .i64 k ∧ wr.ownsRow w.heap.size 3 1 l k (intCells (ks.take k)) ∧ Below w.heap.size w wr) (fun _ i _ => m - (intOf i).toNat)
  case atStart => exact ⟨0, Nat.zero_le _, rfl, World.ownsRow_nil _ _ _ _, Below.refl _ _⟩
  case round =>
    obtain ⟨k, hk, rfl, hown, hnx⟩ := hrel
    obtain ⟨la, lc, rfl⟩ := own_slice hown
    have HX := Hid.mk (And.intro hown hnx)
    have hws := hnx.size
    by_cases hlt : k < m
    · have hk2 : k < ss.length := by have := HM.out.1; omega
      have hk3 : k < ks.length := by have := HM.out.2.1; omega
      have d1 := (hnx.cell (p := ⟨nb, no + k, none⟩) hnb).trans (HS.out k hk2)
      have hP := HP.out wr hnx ss[k]
      rw [show placeI cs ss[k].data.toList = ((ks[k] : Nat) : Int) by rw [placeI, HM.out.2.2 k hk2 hk3]] at hP
      have HPP := Hid.mk hP
      have HT := Hid.mk (show intCells (ks.take k) ++ [.int .i64 ((ks[k] : Nat) : Int)] = intCells (ks.take (k + 1)) by rw [List.take_succ_eq_append_getElem hk3, intCells, intCells, List.map_append]; rfl)
      clear hown hnx hP
      generalize ss[k] = sk at *
      generalize ks[k] = kk at *
      go_wp2_with (first | (go_at_call 98; refine HPP.out.mono ?_; rintro e w1 ⟨rfl, hb1⟩) | (at_builtin; refine wpList_append_own _ rfl _ _ 49 rfl w.heap.size 3 i0 (.int .i64 0) 1 8 Tryz.underlying49 hi hz0 hz1 hz2 rfl (by decide) _ _ _ rfl ((owns_below HX.out.1 hb1).alloc _) ⟨w1.heap.size, 0, none⟩ 1 1 [.int .i64 (kk : Int)] rfl rfl (news1 _ _ _ _ rfl) (one1i _ _) ?c3 ?c4 ?c5 ?_))
      case c3 => unfold maxLen; omega
      case c4 => omega
      case c5 => have := hb1.size; simp; omega
      intro v' w5 hown' hgrow _
      have hs1 := hb1.size
      have hbl5 : Below w.heap.size w w5 := ((bel_then HX.out.2 hb1).alloc (by omega) _).grown hgrow (by simp; omega) (fun q hq => (HX.out.1.lt q hq).1)
      rw [HT.out] at hown'
      have HF := Hid.mk (And.intro hown' hbl5)
      clear hown' hgrow hbl5
      go_wp2
      go_roundw
      case rel => exact ⟨k + 1, by omega, by go_num, HF.out.1, HF.out.2⟩
      case measure => simp [intOf]; omega
    · have hke : k = m := by omega
      subst hke
      rw [List.take_of_length_le (by have := HM.out.2.1; omega)] at hown
      have HO := Hid.mk hown
      clear hown hnx
      go_wp2
      go_ret
      refine ⟨_, rfl, ?_, HX.out.2⟩
      rw [HM.out.2.1]
      exact HO.out
def pickC (ks : List Nat) (cs : List Cl) : List Cl := ks.map fun k => cs[k]?.getD (⟨#[]⟩, 0)
set_option maxRecDepth 100000 in
set_option maxHeartbeats 1600000 in
theorem pickedC_in (rb ro rc b o c : Nat) (r : List Cl) (ks : List Nat) (w : World) (hr : ColsAt w rb ro r) (hrb : rb < w.heap.size) (hk : IntsAt w b o ks) (hb : b < w.heap.size) (hlt : ∀ k ∈ ks, k < r.length) (h100 : ks.length ≤ 100) (hr100 : r.length ≤ 100) :
    Calls Tryz.prog 95 #[.slice (some ⟨rb, ro, none⟩) r.length rc, .slice (some ⟨b, o, none⟩) ks.length c] w fun e w' => ∃ v, e = .returned v ∧ w'.ownsRow w.heap.size 48 2 v ks.length (colCells (pickC ks r)) ∧ Below w.heap.size w w' := by
  obtain ⟨i0, hi, hz0, hz1, hz2⟩ := info_parts Tryz.infoCol
  have HS := Hid.mk (And.intro hr (And.intro hk hlt))
  clear hr hk hlt
  go_enter Tryz.func95, Tryz.ntmps95
  go_wp2
  go_loopw [5, 10] (fun l i wr => ∃ k : Nat, k ≤ ks.length ∧ i = .int .i64 k ∧ wr.ownsRow w.heap.size 48 2 l k (colCells (pickC (ks.take k) r)) ∧ Below w.heap.size w wr) (fun _ i _ => ks.length - (intOf i).toNat)
  case atStart => exact ⟨0, Nat.zero_le _, rfl, World.ownsRow_nil _ _ _ _, Below.refl _ _⟩
  case round =>
    obtain ⟨k, hk, rfl, hown, hnx⟩ := hrel
    obtain ⟨la, lc, rfl⟩ := own_slice hown
    have HX := Hid.mk (And.intro hown hnx)
    have hws := hnx.size
    by_cases hlt : k < ks.length
    · obtain ⟨hr, hkk, hl⟩ := HS.out
      have hq := hl _ (List.getElem_mem hlt)
      have d1 := (hnx.cell (p := ⟨b, o + k, none⟩) hb).trans (hkk k hlt)
      obtain ⟨e0, e1⟩ := hr _ hq
      have d2 := (hnx.cell (p := ⟨rb, ro + ks[k] * 2, none⟩) hrb).trans e0
      have d3 := (hnx.cell (p := ⟨rb, ro + ks[k] * 2 + 1, none⟩) hrb).trans e1
      have HT := Hid.mk (show colCells (pickC (ks.take k) r) ++ [.string r[ks[k]].1, .int .i64 r[ks[k]].2] = colCells (pickC (ks.take (k + 1)) r) by
        rw [List.take_succ_eq_append_getElem hlt, pickC, pickC, List.map_append]
        simp [colCells, List.getElem?_eq_getElem hq])
      have hq' : ((ks[k] : Nat) : Int) < (r.length : Int) := by omega
      generalize r[ks[k]] = x at *
      generalize ks[k] = kk at *
      clear hown hnx hr hkk hl e0 e1 hq
      go_wp2_with (at_builtin; refine wpList_append_own _ rfl _ _ 45 rfl w.heap.size 48 i0 (.agg #[.string ⟨#[]⟩, .int .i64 0]) 2 24 Tryz.underlying45 hi hz0 hz1 hz2 rfl (by decide) _ _ _ rfl (HX.out.1.alloc _) ⟨wr.heap.size, 0, none⟩ 1 1 [.string x.1, .int .i64 x.2] rfl rfl (news2 _ _ _ _ _ rfl) (one2 _ _) ?c3 ?c4 ?c5 ?_)
      case c3 => unfold maxLen; omega
      case c4 => omega
      case c5 => simp; omega
      intro v' w5 hown' hgrow _
      have hbl5 : Below w.heap.size w w5 := (HX.out.2.alloc (by omega) _).grown hgrow (by simp; omega) (fun q hq => (HX.out.1.lt q hq).1)
      rw [HT.out] at hown'
      have HF := Hid.mk (And.intro hown' hbl5)
      clear hown' hgrow hbl5
      go_wp2
      go_roundw
      case rel => exact ⟨k + 1, by omega, by go_num, HF.out.1, HF.out.2⟩
      case measure => simp [intOf]; omega
    · have hke : k = ks.length := by omega
      subst hke
      rw [List.take_of_length_le (Nat.le_refl _)] at hown
      have HO := Hid.mk hown
      clear hown hnx
      go_wp2
      go_ret
      exact ⟨_, rfl, HO.out, HX.out.2⟩
/-- A list of texts, with its room. -/
def StrsC (w : World) (v : Value) (ss : List ByteArray) : Prop := ∃ a c, v = .slice a ss.length c ∧ ss.length ≤ c ∧ ss.length ≤ maxLen ∧ (ss = [] ∨ ∃ b o, a = some ⟨b, o, none⟩ ∧ b < w.heap.size ∧ StrsAt w b o ss)
theorem StrsC.below {w w' : World} {v : Value} {ss : List ByteArray} (h : StrsC w v ss) (hb : Below w.heap.size w w') : StrsC w' v ss := by
  obtain ⟨a, c, e, hc, hs, h⟩ := h
  refine ⟨a, c, e, hc, hs, ?_⟩
  rcases h with h | ⟨b, o, e2, hl, hat⟩
  · exact Or.inl h
  · exact Or.inr ⟨b, o, e2, Nat.lt_of_lt_of_le hl hb.size, hat.below hb hl⟩
theorem wrongList_any (v vc : Value) (ss : List ByteArray) (b o n c : Nat) (cs : List Cl) (w : World) (hs : StrsC w v ss) (hn : cs.length = n) (hn' : n ≤ 100) (hb : b < w.heap.size) (hc : ColsAt w b o cs) :
    Calls Tryz.prog 92 #[v, .slice (some ⟨b, o, none⟩) n c] w fun e w' => e = .returned (errV (listErr cs ss)) ∧ Below w.heap.size w w' := by
  obtain ⟨a, cap, rfl, hcap, hml, h⟩ := hs
  by_cases hf : ss.length = 0 ∨ 6 < ss.length
  · rw [show listErr cs ss = 1 by unfold listErr; rw [if_pos hf]]
    exact wrongList_few a ss.length cap _ w hf hml
  · rw [show listErr cs ss = lerr cs [] ss by unfold listErr; rw [if_neg hf]]
    rcases h with h | ⟨nb, no, rfl, hl, hat⟩
    · rw [h] at hf; simp at hf
    · exact wrongList_in nb no cap b o n c ss.length ss cs w rfl (by omega) (by omega) hcap hl hat hn hn' hb hc
theorem lerr_0 (cs : List Cl) : ∀ (ss seen : List ByteArray), lerr cs seen ss = 0 → ∀ s ∈ ss, ∃ k, placeN cs s.data.toList = some k
  | [], _, _, s, hs => absurd hs (by simp)
  | a :: r, seen, h, s, hs => by
    rw [lerr] at h
    split at h
    · cases h
    · rename_i h1
      split at h
      · cases h
      · rcases List.mem_cons.1 hs with rfl | hs
        · cases g : placeN cs s.data.toList with
          | none => exact absurd g h1
          | some k => exact ⟨k, rfl⟩
        · exact lerr_0 cs r _ h s hs
/-- Where the columns stand. -/
def placesN (cs : List Cl) (ss : List ByteArray) : List Nat := ss.map fun s => (placeN cs s.data.toList).getD 0
theorem listErr_0 {cs : List Cl} {ss : List ByteArray} (h : listErr cs ss = 0) : 0 < ss.length ∧ ss.length ≤ 6 ∧ (∀ s ∈ ss, ∃ k, placeN cs s.data.toList = some k) := by
  unfold listErr at h
  split at h
  · cases h
  · exact ⟨by omega, by omega, lerr_0 cs ss [] h⟩
theorem places_at {cs : List Cl} {ss : List ByteArray} (h : ∀ s ∈ ss, ∃ k, placeN cs s.data.toList = some k) : ∀ j (h1 : j < ss.length) (h2 : j < (placesN cs ss).length), placeN cs ss[j].data.toList = some (placesN cs ss)[j] := by
  intro j h1 h2
  obtain ⟨k, hk⟩ := h _ (List.getElem_mem h1)
  simp [placesN, hk]
theorem places_lt {cs : List Cl} {ss : List ByteArray} (h : ∀ s ∈ ss, ∃ k, placeN cs s.data.toList = some k) : ∀ k ∈ placesN cs ss, k < cs.length := by
  intro k hk
  obtain ⟨s, hs, rfl⟩ := List.mem_map.1 hk
  obtain ⟨q, hq⟩ := h s hs
  rw [hq]
  exact place_some hq
set_option maxRecDepth 100000 in
set_option maxHeartbeats 800000 in
/-- wrong, of a job that picks columns. -/
theorem wrong_proj (hb ho tk cin b o n c : Nat) (cs : List Cl) (ss : List ByteArray) (j : Jb) (w : World) (hcode : j.code = 3) (htk : 0 < tk) (hhb : hb < w.heap.size) (h0 : w.cell? ⟨hb, ho, none⟩ = some (.slice (some ⟨b, o, none⟩) n c)) (hs : StrsC w j.cols ss)
    (hn : cs.length = n) (hn' : n ≤ 100) (hbl : b < w.heap.size) (hc : ColsAt w b o cs) :
    Calls Tryz.prog 71 #[.agg j.cells, .slice (some ⟨hb, ho, none⟩) tk cin] w fun e w' => e = .returned (errV (listErr cs ss)) ∧ Below w.heap.size w w' := by
  have hT := fun W (h1 : Below w.heap.size w W) => wrongList_any j.cols .nilIface ss b o n c cs W (hs.below h1) hn hn' (by have := h1.size; omega) (hc.below h1 hbl)
  obtain ⟨ca, cc, hj, -⟩ := hs
  unfold Jb.cells
  rw [hj] at hT ⊢
  generalize listErr cs ss = r at *
  obtain ⟨code, hcd⟩ : ∃ k, j.code = k := ⟨_, rfl⟩
  rw [hcd] at hcode ⊢
  clear hcd
  subst hcode
  have HT := Hid.mk hT
  have htk' : (0 : Int) < (tk : Int) := by omega
  clear hT hn hc hj
  go_enter Tryz.func71, Tryz.ntmps71
  go_wp2_with (go_at_call 92; refine (HT.out _ (below_box _ _)).mono ?_; rintro e w1 ⟨rfl, hb1⟩)
  go_ret
  exact ⟨rfl, bel_then (below_box _ _) hb1⟩
set_option maxRecDepth 100000 in
set_option maxHeartbeats 800000 in
/-- columnsOf, of a job that picks columns. -/
theorem columns_proj (hb ho tk cin b o n c : Nat) (cs : List Cl) (ss : List ByteArray) (j : Jb) (w : World) (hcode : j.code = 3) (htk : 0 < tk) (hhb : hb < w.heap.size) (h0 : w.cell? ⟨hb, ho, none⟩ = some (.slice (some ⟨b, o, none⟩) n c)) (hs : StrsC w j.cols ss) (he : listErr cs ss = 0)
    (hn : cs.length = n) (hn' : n ≤ 100) (hbl : b < w.heap.size) (hc : ColsAt w b o cs) :
    Calls Tryz.prog 72 #[.agg j.cells, .slice (some ⟨hb, ho, none⟩) tk cin] w fun e w' => ∃ u, e = .returned u ∧ w'.ownsRow w.heap.size 48 2 u (pickC (placesN cs ss) cs).length (colCells (pickC (placesN cs ss) cs)) ∧ Below w.heap.size w w' := by
  obtain ⟨l0, l6, hall⟩ := listErr_0 he
  obtain ⟨ca, cc, hj, hcap, hml, hat⟩ := hs
  rcases hat with h | ⟨nb, no, rfl, hl, hat⟩
  · rw [h] at l0; simp at l0
  have hkl : (placesN cs ss).length = ss.length := by simp [placesN]
  have hT := fun W (h1 : Below w.heap.size w W) => places_in nb no cc b o n c ss.length ss (placesN cs ss) cs W rfl (by omega) (by have := h1.size; omega) (hat.below h1 hl) hn hn' (by have := h1.size; omega) (hc.below h1 hbl) hkl (places_at hall)
  have hQ := fun W (h1 : Below w.heap.size w W) g gc (hg : g < W.heap.size) (hi : IntsAt W g 0 (placesN cs ss)) => pickedC_in b o c g 0 gc cs (placesN cs ss) W (hc.below h1 hbl) (by have := h1.size; omega) hi hg (places_lt hall) (by omega) (by omega)
  rw [hn] at hQ
  rw [show (pickC (placesN cs ss) cs).length = (placesN cs ss).length by simp [pickC]]
  unfold Jb.cells
  rw [hj]
  obtain ⟨code, hcd⟩ : ∃ k, j.code = k := ⟨_, rfl⟩
  rw [hcd] at hcode ⊢
  clear hcd
  subst hcode
  have hk0 : 0 < (placesN cs ss).length := by omega
  generalize hks : placesN cs ss = ks at *
  have HT := Hid.mk hT
  have HQ := Hid.mk hQ
  have htk' : (0 : Int) < (tk : Int) := by omega
  have HK := Hid.mk hk0
  clear hT hQ hn hc hj hat hall hkl l0 l6 he hks hk0 hml hcap
  go_enter Tryz.func72, Tryz.ntmps72
  go_wp2_with (first | (go_at_call 96; refine (HT.out _ (below_box _ _)).mono ?_; rintro e w1 ⟨v1, rfl, ho1, hb1⟩; obtain ⟨g, gc, rfl, hgB, hgl, hgi⟩ := ints_of ho1 HK.out) | (go_at_call 95; refine (HQ.out _ (bel_then (below_box _ _) hb1) _ _ hgl hgi).mono ?_; rintro e w2 ⟨v2, rfl, ho2, hb2⟩))
  go_ret
  exact ⟨_, rfl, own_mono (by have := hb1.size; simp at this; omega) ho2, bel_then (bel_then (below_box _ _) hb1) hb2⟩
theorem ba_ext {a b : ByteArray} (h : a.data.toList = b.data.toList) : a = b := by
  obtain ⟨⟨a⟩⟩ := a
  obtain ⟨⟨b⟩⟩ := b
  simp only at h
  rw [h]
set_option maxHeartbeats 800000 in
/-- slices.Equal, of columns that are not the same. -/
theorem eqC_ne (b o c b' o' c' n n' : Nat) (cs cs' : List Cl) (w : World) (hn : cs.length = n) (hn' : cs'.length = n') (h8 : n ≤ 100) (h8' : n' ≤ 100) (hb : b < w.heap.size) (hb' : b' < w.heap.size) (hc : ColsAt w b o cs) (hc' : ColsAt w b' o' cs') (hne : cs ≠ cs') :
    Calls Tryz.prog 12 #[.slice (some ⟨b, o, none⟩) n c, .slice (some ⟨b', o', none⟩) n' c'] w fun e w' => e = .returned (.bool false) ∧ Below w.heap.size w w' := by
  by_cases hnn : n = n'
  · subst hnn
    have HN := Hid.mk (And.intro hn (And.intro hn' hne))
    clear hn hn' hne
    go_enter Tryz.func12, Tryz.ntmps12
    go_wp2
    go_loopw [13] (fun i wr => ∃ k : Nat, k ≤ n ∧ i = .int .i64 k ∧ (∀ q (h : q < cs.length) (h' : q < cs'.length), q < k → cs[q] = cs'[q]) ∧ Below w.heap.size w wr) (fun i _ => n - (intOf i).toNat)
    case atStart => exact ⟨0, Nat.zero_le _, rfl, fun q _ _ h => absurd h (by omega), Below.refl _ _⟩
    case round =>
      obtain ⟨k, hk, rfl, hal, hnx⟩ := hrel
      have HA := Hid.mk hal
      clear hal
      by_cases hlt : k < n
      · have hk2 : k < cs.length := by have := HN.out.1; omega
        have hk2' : k < cs'.length := by have := HN.out.2.1; omega
        obtain ⟨c1, c2⟩ := hc k hk2
        have d1 := (hnx.cell (p := ⟨b, o + k * 2, none⟩) hb).trans c1
        have d2 := (hnx.cell (p := ⟨b, o + k * 2 + 1, none⟩) hb).trans c2
        obtain ⟨c3, c4⟩ := hc' k hk2'
        have d3 := (hnx.cell (p := ⟨b', o' + k * 2, none⟩) hb').trans c3
        have d4 := (hnx.cell (p := ⟨b', o' + k * 2 + 1, none⟩) hb').trans c4
        clear c1 c2 c3 c4
        obtain ⟨x, hx⟩ : ∃ x, cs[k] = x := ⟨_, rfl⟩
        obtain ⟨y, hy⟩ : ∃ y, cs'[k] = y := ⟨_, rfl⟩
        rw [hx] at d1 d2
        rw [hy] at d3 d4
        have HXY := Hid.mk (And.intro hx hy)
        clear hx hy
        by_cases e1 : x.1.toList = y.1.toList
        · by_cases e2 : x.2 = y.2
          · have hxy : x = y := Prod.ext (ba_ext (by rw [ByteArray.toList_eq, ByteArray.toList_eq] at e1; exact e1)) e2
            have HE := Hid.mk (show cs[k] = cs'[k] by rw [HXY.out.1, HXY.out.2]; exact hxy)
            subst hxy
            clear e1 e2
            go_wp2
            go_quiet (fail)
            go_wp2
            go_roundw
            case rel =>
              refine ⟨k + 1, by omega, by go_num, fun q h h' hq => ?_, below_drewN hnx _⟩
              rcases Nat.lt_or_ge q k with hqk | hqk
              · exact HA.out q h h' hqk
              · obtain rfl : q = k := by omega
                exact HE.out
            case measure => simp [intOf]; omega
          · have e2' : (x.2 == y.2) = false := by simp [e2]
            have e1' : (x.1.toList == y.1.toList) = true := by simp [e1]
            go_wp2
            go_quiet (fail)
            go_wp2
            all_goals go_ret
            all_goals exact ⟨rfl, below_drewN hnx _⟩
        · have e1' : (x.1.toList == y.1.toList) = false := by simp [e1]
          go_wp2
          go_quiet (fail)
          go_wp2
          all_goals go_ret
          all_goals exact ⟨rfl, below_drewN hnx _⟩
      · exfalso
        obtain ⟨h1, h2, h3⟩ := HN.out
        exact h3 (List.ext_getElem (by omega) fun q hq hq' => HA.out q hq hq' (by omega))
  · have hnn' : ((n : Int) != (n' : Int)) = true := by simp; omega
    clear hne hn hn' hc hc'
    go_enter Tryz.func12, Tryz.ntmps12
    go_wp2
    go_ret
    exact ⟨rfl, Below.refl _ _⟩
/-- What is wrong with a job that sets one table behind the other (0: nothing). -/
noncomputable def uniErr (cs cs' : List Cl) : Int := by classical exact if cs = cs' then 0 else 13
set_option maxRecDepth 100000 in
set_option maxHeartbeats 800000 in
theorem wrong_union (hb ho cin b o c b' o' c' : Nat) (cs cs' : List Cl) (j : Jb) (w : World) (hcode : j.code = 5) (hhb : hb < w.heap.size) (h0 : w.cell? ⟨hb, ho, none⟩ = some (.slice (some ⟨b, o, none⟩) cs.length c)) (h1 : w.cell? ⟨hb, ho + 1, none⟩ = some (.slice (some ⟨b', o', none⟩) cs'.length c')) (h8 : cs.length ≤ 60) (h8' : cs'.length ≤ 60) (hbl : b < w.heap.size) (hbl' : b' < w.heap.size) (hc : ColsAt w b o cs) (hc' : ColsAt w b' o' cs') :
    Calls Tryz.prog 71 #[.agg j.cells, .slice (some ⟨hb, ho, none⟩) 2 cin] w fun e w' => e = .returned (errV (uniErr cs cs')) ∧ Below w.heap.size w w' := by
  obtain ⟨code, hcd⟩ : ∃ k, j.code = k := ⟨_, rfl⟩
  unfold Jb.cells
  rw [hcd] at hcode ⊢
  clear hcd
  subst hcode
  by_cases he : cs = cs'
  · subst he
    have hu : uniErr cs cs = 0 := by unfold uniErr; rw [if_pos rfl]
    rw [hu, errV_0]
    have HT := Hid.mk (fun W (h1 : Below w.heap.size w W) => eqC_in b o c b' o' c' cs.length cs W rfl (by omega) (by have := h1.size; omega) (by have := h1.size; omega) (hc.below h1 hbl) (hc'.below h1 hbl'))
    clear hu hc hc'
    go_enter Tryz.func71, Tryz.ntmps71
    go_wp2_with (go_at_call 12; refine (HT.out _ (below_box _ _)).mono ?_; rintro e w1 ⟨rfl, hb1⟩)
    go_ret
    exact ⟨rfl, bel_then (below_box _ _) hb1⟩
  · have hu : uniErr cs cs' = 13 := by unfold uniErr; rw [if_neg he]
    rw [hu, errV_ne (by decide)]
    have HT := Hid.mk (fun W (h1 : Below w.heap.size w W) => eqC_ne b o c b' o' c' cs.length cs'.length cs cs' W rfl rfl (by omega) (by omega) (by have := h1.size; omega) (by have := h1.size; omega) (hc.below h1 hbl) (hc'.below h1 hbl') he)
    clear hu hc hc' he
    go_enter Tryz.func71, Tryz.ntmps71
    go_wp2_with (go_at_call 12; refine (HT.out _ (below_box _ _)).mono ?_; rintro e w1 ⟨rfl, hb1⟩)
    go_ret
    exact ⟨rfl, bel_then (below_box _ _) hb1⟩
set_option maxHeartbeats 800000 in
theorem wrong_dist (va : Option Addr) (hb ho tk cin : Nat) (v0 : Value) (j : Jb) (w : World) (hcode : j.code = 6) (htk : 0 < tk) (hhb : hb < w.heap.size) (h0 : w.cell? ⟨hb, ho, none⟩ = some v0) :
    Calls Tryz.prog 71 #[.agg j.cells, .slice (some ⟨hb, ho, none⟩) tk cin] w fun e w' => e = .returned .nilIface ∧ Below w.heap.size w w' := by
  obtain ⟨code, hcd⟩ : ∃ k, j.code = k := ⟨_, rfl⟩
  unfold Jb.cells
  rw [hcd] at hcode ⊢
  clear hcd
  subst hcode
  have htk' : (0 : Int) < (tk : Int) := by omega
  go_enter Tryz.func71, Tryz.ntmps71
  go_wp2
  go_ret
  exact ⟨rfl, below_box _ _⟩
set_option maxRecDepth 100000 in
set_option maxHeartbeats 800000 in
/-- wrong, of a job that sorts. -/
theorem wrong_sort (hb ho tk cin b o n c : Nat) (cs : List Cl) (ss : List ByteArray) (j : Jb) (w : World) (hcode : j.code = 4) (htk : 0 < tk) (hhb : hb < w.heap.size) (h0 : w.cell? ⟨hb, ho, none⟩ = some (.slice (some ⟨b, o, none⟩) n c)) (hs : StrsC w j.cols ss)
    (hn : cs.length = n) (hn' : n ≤ 100) (hbl : b < w.heap.size) (hc : ColsAt w b o cs) :
    Calls Tryz.prog 71 #[.agg j.cells, .slice (some ⟨hb, ho, none⟩) tk cin] w fun e w' => e = .returned (errV (listErr cs ss)) ∧ Below w.heap.size w w' := by
  have hT := fun W (h1 : Below w.heap.size w W) => wrongList_any j.cols .nilIface ss b o n c cs W (hs.below h1) hn hn' (by have := h1.size; omega) (hc.below h1 hbl)
  obtain ⟨ca, cc, hj, -⟩ := hs
  unfold Jb.cells
  rw [hj] at hT ⊢
  generalize listErr cs ss = r at *
  obtain ⟨code, hcd⟩ : ∃ k, j.code = k := ⟨_, rfl⟩
  rw [hcd] at hcode ⊢
  clear hcd
  subst hcode
  have HT := Hid.mk hT
  have htk' : (0 : Int) < (tk : Int) := by omega
  clear hT hn hc hj
  go_enter Tryz.func71, Tryz.ntmps71
  go_wp2_with (go_at_call 92; refine (HT.out _ (below_box _ _)).mono ?_; rintro e w1 ⟨rfl, hb1⟩)
  go_ret
  exact ⟨rfl, bel_then (below_box _ _) hb1⟩
set_option maxRecDepth 100000 in
set_option maxHeartbeats 800000 in
/-- slices.Grow, of the nil list. -/
theorem grow_nilC (n : Nat) (w : World) (hn : n ≤ 1000) :
    Calls Tryz.prog 116 #[.slice none 0 0, .int .i64 n] w fun e w' => ∃ v, e = .returned v ∧ w'.ownsRow w.heap.size 48 2 v 0 [] ∧ Below w.heap.size w w' := by
  obtain ⟨i0, hi, hz0, hz1, hz2⟩ := info_parts Tryz.infoCol
  by_cases h0 : n = 0
  · subst h0
    go_enter Tryz.func116, Tryz.ntmps116
    go_wp2
    go_ret
    exact ⟨_, rfl, World.ownsRow_nil _ _ _ _, Below.refl _ _⟩
  · have hr : ∀ ty, (Builtin.append_ #[45, 3] ty #[.slice none 0 0, .int .i64 n]).run Tryz.prog w = _ := fun ty => Lib.run_append_nil_zeros w 45 3 ty 48 i0 (.agg #[.string ⟨#[]⟩, .int .i64 0]) .i64 .i64 Tryz.underlying45 Tryz.underlying3 hi hz0 n (by omega) (by rw [hz1]; decide) (by omega) (by rw [hz2]; omega)
    have hge := grownCap_ge w n 0 48
    have hle := grownCap_le_maxLen w n 0 48 (by unfold maxLen; omega)
    obtain ⟨G, hG⟩ : ∃ G, G = grownCap w n 0 48 := ⟨_, rfl⟩
    rw [← hG] at hr hge hle
    have hle' : (G : Int) ≤ 9223372036854775807 := by unfold maxLen at hle; omega
    have hn0 : ¬ ((n : Int) < 0) := by omega
    have hn1 : (0 : Int) < (n : Int) := by omega
    have HO := Hid.mk (fun (W : World) (hW : W.heap.size = w.heap.size) => World.ownsRow_made (base := w.heap.size) (e := 48) (size := 2) W (Builtin.zeroCells (Value.cells (.agg #[.string ⟨#[]⟩, .int .i64 0])) n ++ Builtin.zeroCells (Value.cells (.agg #[.string ⟨#[]⟩, .int .i64 0])) (G - n)) G (by omega) hle (by rw [Array.size_append, size_zeroCells, size_zeroCells]; simp [Value.cells]; omega))
    clear hG
    go_enter Tryz.func116, Tryz.ntmps116
    go_wp2_with (at_builtin; refine Lib.wpList_append_run _ rfl _ _ _ _ rfl _ _ rfl rfl _ _ (hr _) ?_)
    go_ret
    exact ⟨_, rfl, HO.out w.drew rfl, bel_box (Below.refl _ _).drew _⟩
set_option maxRecDepth 100000 in
set_option maxHeartbeats 1600000 in
/-- slices.Concat, of three lists. -/
theorem concat3C (lb n1 n2 n3 g1 g2 g3 o1 o2 o3 k1 k2 k3 : Nat) (us1 us2 us3 : List Value) (w : World) (hlb : lb < w.heap.size) (c0 : w.cell? ⟨lb, 0, none⟩ = some (.slice (some ⟨g1, o1, none⟩) n1 k1)) (c1 : w.cell? ⟨lb, 1, none⟩ = some (.slice (some ⟨g2, o2, none⟩) n2 k2)) (c2 : w.cell? ⟨lb, 2, none⟩ = some (.slice (some ⟨g3, o3, none⟩) n3 k3)) (hg1 : g1 < w.heap.size) (hl1 : us1.length = n1 * 2) (hc1 : ∀ j u, us1[j]? = some u → w.cell? ((⟨g1, o1, none⟩ : Addr).add j) = some u) (hn1 : n1 ≤ 100) (ho1 : ∀ u ∈ us1, u.oneCell' = true) (hg2 : g2 < w.heap.size) (hl2 : us2.length = n2 * 2) (hc2 : ∀ j u, us2[j]? = some u → w.cell? ((⟨g2, o2, none⟩ : Addr).add j) = some u) (hn2 : n2 ≤ 100) (ho2 : ∀ u ∈ us2, u.oneCell' = true) (hg3 : g3 < w.heap.size) (hl3 : us3.length = n3 * 2) (hc3 : ∀ j u, us3[j]? = some u → w.cell? ((⟨g3, o3, none⟩ : Addr).add j) = some u) (hn3 : n3 ≤ 100) (ho3 : ∀ u ∈ us3, u.oneCell' = true) :
    Calls Tryz.prog 108 #[.slice (some ⟨lb, 0, none⟩) 3 3] w fun e w' => ∃ v, e = .returned v ∧ w'.ownsRow w.heap.size 48 2 v (n1 + n2 + n3) (us1 ++ us2 ++ us3) ∧ Below w.heap.size w w' := by
  obtain ⟨i0, hi, hz0, hz1, hz2⟩ := info_parts Tryz.infoCol
  have HG := Hid.mk (grow_nilC (n1 + n2 + n3) w (by omega))
  have HL := Hid.mk (And.intro hl1 (And.intro hl2 hl3))
  have HC1 := Hid.mk (And.intro hc1 ho1)
  have HC2 := Hid.mk (And.intro hc2 ho2)
  have HC3 := Hid.mk (And.intro hc3 ho3)
  clear hl1 hl2 hl3 hc1 hc2 hc3 ho1 ho2 ho3
  go_enter Tryz.func108, Tryz.ntmps108
  go_wp2
  go_loopw [3, 11] (fun s i wr => wr = w ∧ ∃ k : Nat, k ≤ 3 ∧ i = .int .i64 k ∧ s = .int .i64 (((if k = 0 then 0 else if k = 1 then n1 else if k = 2 then n1 + n2 else n1 + n2 + n3) : Nat) : Int)) (fun _ i _ => 3 - (intOf i).toNat)
  case atStart => exact ⟨rfl, 0, by omega, rfl, rfl⟩
  case round =>
    obtain ⟨hww, k, hk, rfl, rfl⟩ := hrel
    have hww' := hww.symm
    subst hww'
    clear hww
    have hk3 : k = 0 ∨ k = 1 ∨ k = 2 ∨ k = 3 := by omega
    rcases hk3 with rfl | rfl | rfl | rfl
    · have hpos : ¬ (((n1 : Nat) : Int) < 0) := by omega
      go_wp2
      all_goals go_roundw
      case rel => exact ⟨by first | trivial | rfl, 1, by omega, by go_num, by first | (simp; done) | (simp; omega)⟩
      case measure => simp [intOf]
    · have hpos : ¬ (((n1 + n2 : Nat) : Int) < 0) := by omega
      go_wp2
      all_goals go_roundw
      case rel => exact ⟨by first | trivial | rfl, 2, by omega, by go_num, by first | (simp; done) | (simp; omega)⟩
      case measure => simp [intOf]
    · have hpos : ¬ (((n1 + n2 + n3 : Nat) : Int) < 0) := by omega
      go_wp2
      all_goals go_roundw
      case rel => exact ⟨by first | trivial | rfl, 3, by omega, by go_num, by first | (simp; done) | (simp; omega)⟩
      case measure => simp [intOf]
    · go_wp2_with (go_at_call 116; fail)
      try rw [show (n1 : Int) + (n2 : Int) + (n3 : Int) = ((n1 + n2 + n3 : Nat) : Int) by omega]
      refine HG.out.mono ?_
      rintro e w1 ⟨v, rfl, ho1, hb1⟩
      have HS := Hid.mk (And.intro ho1 hb1)
      clear ho1 hb1 HG
      go_wp2
      go_loopw [6, 27] (fun l i wr => ∃ k : Nat, k ≤ 3 ∧ i = .int .i64 k ∧ wr.ownsRow w.heap.size 48 2 l (if k = 0 then 0 else if k = 1 then n1 else if k = 2 then n1 + n2 else n1 + n2 + n3) (if k = 0 then [] else if k = 1 then us1 else if k = 2 then us1 ++ us2 else us1 ++ us2 ++ us3) ∧ Below w.heap.size w wr) (fun _ i _ => 3 - (intOf i).toNat)
      case atStart => exact ⟨0, by omega, rfl, HS.out.1, HS.out.2⟩
      case round =>
        obtain ⟨k, hk, rfl, hown, hnx⟩ := hrel
        have hk3 : k = 0 ∨ k = 1 ∨ k = 2 ∨ k = 3 := by omega
        have hws := hnx.size
        have d0 := (hnx.cell (p := ⟨lb, 0, none⟩) hlb).trans c0
        have d1 := (hnx.cell (p := ⟨lb, 1, none⟩) hlb).trans c1
        have d2 := (hnx.cell (p := ⟨lb, 2, none⟩) hlb).trans c2
        rcases hk3 with rfl | rfl | rfl | rfl
        · simp at hown
          obtain ⟨la, lc, rfl⟩ := own_slice hown
          have HC := Hid.mk (fun (j : Nat) (u : Value) (hj : us1[j]? = some u) => (hnx.cell (p := (⟨g1, o1, none⟩ : Addr).add j) (by rw [Addr.add_mid]; exact hg1)).trans (HC1.out.1 j u hj))
          have HX := Hid.mk (And.intro hown hnx)
          clear hown hnx
          go_wp2_with (at_builtin; refine wpList_append_own _ rfl _ _ 45 rfl w.heap.size 48 i0 (.agg #[.string ⟨#[]⟩, .int .i64 0]) 2 24 Tryz.underlying45 hi hz0 hz1 hz2 rfl (by decide) _ _ _ rfl HX.out.1 ⟨g1, o1, none⟩ n1 k1 us1 rfl ?c0 HC.out ?c2 ?c3 ?c4 ?c5 ?_)
          case c0 => have := HL.out; omega
          case c2 => exact HC1.out.2
          case c3 => unfold maxLen; omega
          case c4 => omega
          case c5 => omega
          intro v' w5 hown' hgrow _
          have hbl5 : Below w.heap.size w w5 := HX.out.2.grown hgrow (by omega) (fun q hq => (HX.out.1.lt q hq).1)
          have HF := Hid.mk (And.intro hown' hbl5)
          clear hown' hgrow hbl5
          go_wp2
          go_roundw
          case rel => exact ⟨1, by omega, by go_num, by simpa using HF.out.1, HF.out.2⟩
          case measure => simp [intOf]
        · simp at hown
          obtain ⟨la, lc, rfl⟩ := own_slice hown
          have HC := Hid.mk (fun (j : Nat) (u : Value) (hj : us2[j]? = some u) => (hnx.cell (p := (⟨g2, o2, none⟩ : Addr).add j) (by rw [Addr.add_mid]; exact hg2)).trans (HC2.out.1 j u hj))
          have HX := Hid.mk (And.intro hown hnx)
          clear hown hnx
          go_wp2_with (at_builtin; refine wpList_append_own _ rfl _ _ 45 rfl w.heap.size 48 i0 (.agg #[.string ⟨#[]⟩, .int .i64 0]) 2 24 Tryz.underlying45 hi hz0 hz1 hz2 rfl (by decide) _ _ _ rfl HX.out.1 ⟨g2, o2, none⟩ n2 k2 us2 rfl ?c0 HC.out ?c2 ?c3 ?c4 ?c5 ?_)
          case c0 => have := HL.out; omega
          case c2 => exact HC2.out.2
          case c3 => unfold maxLen; omega
          case c4 => omega
          case c5 => omega
          intro v' w5 hown' hgrow _
          have hbl5 : Below w.heap.size w w5 := HX.out.2.grown hgrow (by omega) (fun q hq => (HX.out.1.lt q hq).1)
          have HF := Hid.mk (And.intro hown' hbl5)
          clear hown' hgrow hbl5
          go_wp2
          go_roundw
          case rel => exact ⟨2, by omega, by go_num, by simpa using HF.out.1, HF.out.2⟩
          case measure => simp [intOf]
        · simp at hown
          obtain ⟨la, lc, rfl⟩ := own_slice hown
          have HC := Hid.mk (fun (j : Nat) (u : Value) (hj : us3[j]? = some u) => (hnx.cell (p := (⟨g3, o3, none⟩ : Addr).add j) (by rw [Addr.add_mid]; exact hg3)).trans (HC3.out.1 j u hj))
          have HX := Hid.mk (And.intro hown hnx)
          clear hown hnx
          go_wp2_with (at_builtin; refine wpList_append_own _ rfl _ _ 45 rfl w.heap.size 48 i0 (.agg #[.string ⟨#[]⟩, .int .i64 0]) 2 24 Tryz.underlying45 hi hz0 hz1 hz2 rfl (by decide) _ _ _ rfl HX.out.1 ⟨g3, o3, none⟩ n3 k3 us3 rfl ?c0 HC.out ?c2 ?c3 ?c4 ?c5 ?_)
          case c0 => have := HL.out; omega
          case c2 => exact HC3.out.2
          case c3 => unfold maxLen; omega
          case c4 => omega
          case c5 => omega
          intro v' w5 hown' hgrow _
          have hbl5 : Below w.heap.size w w5 := HX.out.2.grown hgrow (by omega) (fun q hq => (HX.out.1.lt q hq).1)
          have HF := Hid.mk (And.intro hown' hbl5)
          clear hown' hgrow hbl5
          go_wp2
          go_roundw
          case rel => exact ⟨3, by omega, by go_num, by simpa using HF.out.1, HF.out.2⟩
          case measure => simp [intOf]
        · have HX := Hid.mk (And.intro hown hnx)
          obtain ⟨la, lc, hl⟩ := own_slice hown
          subst hl
          clear hown hnx
          go_wp2
          go_ret
          exact ⟨_, rfl, by simpa using HX.out.1, HX.out.2⟩
/-- A list, then another one without its part at a place. -/
def besL {α : Type} (x y : List α) (k : Nat) : List α := x ++ y.take k ++ y.drop (k + 1)
theorem besL_len {α : Type} (x y : List α) (k : Nat) (h : k < y.length) : (besL x y k).length + 1 = x.length + y.length := by
  unfold besL
  simp only [List.length_append, List.length_take, List.length_drop]
  omega
theorem ValsAt.take {w : World} {b o : Nat} {y : List Vl} (h : ValsAt w b o y) (k : Nat) : ValsAt w b o (y.take k) := fun j hj => by
  have hj' : j < y.length := by rw [List.length_take] at hj; omega
  have := h j hj'
  rw [List.getElem_take]
  exact this
theorem ValsAt.drop {w : World} {b o : Nat} {y : List Vl} (h : ValsAt w b o y) (k : Nat) : ValsAt w b (o + k * 3) (y.drop k) := fun j hj => by
  have hj' : k + j < y.length := by rw [List.length_drop] at hj; omega
  have := h (k + j) hj'
  rw [List.getElem_drop]
  rw [show o + k * 3 + j * 3 = o + (k + j) * 3 by omega]
  exact this
theorem ColsAt.drop {w : World} {b o : Nat} {y : List Cl} (h : ColsAt w b o y) (k : Nat) : ColsAt w b (o + k * 2) (y.drop k) := fun j hj => by
  have hj' : k + j < y.length := by rw [List.length_drop] at hj; omega
  have := h (k + j) hj'
  rw [List.getElem_drop]
  rw [show o + k * 2 + j * 2 = o + (k + j) * 2 by omega]
  exact this
theorem colCells_app (x y : List Cl) : colCells (x ++ y) = colCells x ++ colCells y := by simp [colCells]
theorem colCells_length (vs : List Cl) : (colCells vs).length = vs.length * 2 := by
  induction vs with
  | nil => rfl
  | cons c r ih => simp only [colCells, List.flatMap_cons, List.length_append, List.length_cons, List.length_nil] at ih ⊢; omega
set_option maxRecDepth 100000 in
set_option maxHeartbeats 1600000 in
theorem besideC_in (xb xo xc yb yo yc at_ : Nat) (x y : List Cl) (w : World) (hxb : xb < w.heap.size) (hx : ColsAt w xb xo x) (hyb : yb < w.heap.size) (hy : ColsAt w yb yo y) (hat : at_ < y.length) (hcap : y.length ≤ yc) (hxl : x.length ≤ 50) (hyl : y.length ≤ 50) :
    Calls Tryz.prog 97 #[.slice (some ⟨xb, xo, none⟩) x.length xc, .slice (some ⟨yb, yo, none⟩) y.length yc, .int .i64 at_] w fun e w' => ∃ v, e = .returned v ∧ w'.ownsRow w.heap.size 48 2 v (besL x y at_).length (colCells (besL x y at_)) ∧ Below w.heap.size w w' := by
  have HC := Hid.mk (fun (W : World) (hW : Below w.heap.size w W) (lb : Nat) (p3 : Option Addr) (c3 : Nat) (hlb : lb < W.heap.size) (c0 : W.cell? ⟨lb, 0, none⟩ = some (.slice (some ⟨xb, xo, none⟩) x.length xc)) (c1 : W.cell? ⟨lb, 1, none⟩ = some (.slice (some ⟨yb, yo, none⟩) at_ yc)) (c2 : W.cell? ⟨lb, 2, none⟩ = some (.slice p3 (y.length - (at_ + 1)) c3)) (hp : ∃ o3, p3 = some ⟨yb, o3, none⟩ ∧ (o3 = yo + (at_ + 1) * 2 ∨ y.length = at_ + 1)) =>
    show Calls Tryz.prog 108 #[.slice (some ⟨lb, 0, none⟩) 3 3] W fun e w' => ∃ v, e = .returned v ∧ w'.ownsRow W.heap.size 48 2 v (x.length + at_ + (y.length - (at_ + 1))) (colCells x ++ colCells (y.take at_) ++ colCells (y.drop (at_ + 1))) ∧ Below W.heap.size W w' from by
      obtain ⟨o3, rfl, h3⟩ := hp
      exact concat3C lb x.length at_ (y.length - (at_ + 1)) xb yb yb xo yo o3 xc yc c3 (colCells x) (colCells (y.take at_)) (colCells (y.drop (at_ + 1))) W hlb c0 c1 c2 (by have := hW.size; omega) (colCells_length x) (cols_news (hx.below hW hxb)) (by omega) (colCells_one x) (by have := hW.size; omega) (by rw [colCells_length, List.length_take]; omega) (cols_news ((hy.below hW hyb).take at_)) (by omega) (colCells_one _) (by have := hW.size; omega) (by rw [colCells_length, List.length_drop]) (by
        rcases h3 with h3 | h3
        · rw [h3]; exact cols_news ((hy.below hW hyb).drop (at_ + 1))
        · intro j u hj
          rw [List.drop_eq_nil_of_le (by omega)] at hj
          simp [colCells] at hj) (by omega) (colCells_one _))
  have HP := Hid.mk (show ∃ o3, (if yc = at_ + 1 then some (⟨yb, yo, none⟩ : Addr) else some ⟨yb, yo + (at_ + 1) * 2, none⟩) = some ⟨yb, o3, none⟩ ∧ (o3 = yo + (at_ + 1) * 2 ∨ y.length = at_ + 1) by
    by_cases h : yc = at_ + 1
    · rw [if_pos h]; exact ⟨yo, rfl, Or.inr (by omega)⟩
    · rw [if_neg h]; exact ⟨_, rfl, Or.inl rfl⟩)
  have HE := Hid.mk (show colCells x ++ colCells (y.take at_) ++ colCells (y.drop (at_ + 1)) = colCells (besL x y at_) ∧ x.length + at_ + (y.length - (at_ + 1)) = (besL x y at_).length by
    refine ⟨by unfold besL; rw [colCells_app, colCells_app], ?_⟩
    have := besL_len x y at_ hat
    omega)
  have h1 : (at_ : Int) ≤ (yc : Int) := by omega
  have h2 : (at_ : Int) + 1 ≤ (y.length : Int) := by omega
  have h3 : (y.length : Int) ≤ (yc : Int) := by omega
  have h4 : (0 : Int) ≤ (at_ : Int) := by omega
  have h5 : (0 : Int) ≤ (at_ : Int) + 1 := by omega
  have h6 : IntKind.i64.wrap ((at_ : Int) + 1) = (at_ : Int) + 1 := by rw [IntKind.wrap_i64]; omega
  have h7 : (at_ : Int) + 1 ≤ (yc : Int) := by omega
  have h8 : ((at_ : Int) + 1).toNat = at_ + 1 := by omega
  clear hx hy
  obtain ⟨P3, hP3⟩ : ∃ q, (if yc = at_ + 1 then some (⟨yb, yo, none⟩ : Addr) else some ⟨yb, yo + (at_ + 1) * 2, none⟩) = q := ⟨_, rfl⟩
  rw [hP3] at HP
  go_enter Tryz.func97, Tryz.ntmps97
  go_wp2_with fail
  go_region_held3 (fun _ => True) (trivial) (first | (go_at_call 108; refine (HC.out _ (bel_box (Below.refl _ _) _).drew w.heap.size P3 (yc - (at_ + 1)) (by simp) (by simp) (by simp) (by simp) HP.out).mono ?_; rintro e w1 ⟨v1, rfl, ho1, hb1⟩))
  go_wp2
  go_ret
  exact ⟨_, rfl, by rw [← HE.out.1, ← HE.out.2]; exact own_mono (by simp) ho1, bel_then (bel_box (Below.refl _ _) _).drew hb1⟩
/-- The kind of a column at a place. -/
def kindAt (cs : List Cl) (k : Nat) : Int := (cs[k]?.getD (⟨#[]⟩, 0)).2
/-- What is wrong with a job that groups by one column, and sums another one (0: nothing). -/
def grpErr (cs : List Cl) (x y : ByteArray) : Int :=
  match placeN cs x.data.toList, placeN cs y.data.toList with
  | some p, some q => if kindAt cs q ≠ 1 then 13 else if p = q then 9 else 0
  | _, _ => 7
theorem place_nat {cs : List Cl} {nm : List UInt8} {p : Nat} (h : placeN cs nm = some p) : placeI cs nm = (p : Int) := by rw [placeI, h]
theorem place_neg {cs : List Cl} {nm : List UInt8} (h : placeN cs nm = none) : placeI cs nm = -1 := by rw [placeI, h]
theorem kindAt_of {cs : List Cl} {k : Nat} (h : k < cs.length) : cs[k].2 = kindAt cs k := by unfold kindAt; rw [List.getElem?_eq_getElem h]; rfl
set_option maxRecDepth 100000 in
set_option maxHeartbeats 3200000 in
theorem group_any (b o n c cb co cc : Nat) (cs : List Cl) (x y : ByteArray) (j : Jb) (w : World) (hj : j.cols = .slice (some ⟨cb, co, none⟩) 2 cc) (hop : j.op = ⟨#[115, 117, 109]⟩) (hcb : cb < w.heap.size) (s0 : w.cell? ⟨cb, co, none⟩ = some (.string x)) (s1 : w.cell? ⟨cb, co + 1, none⟩ = some (.string y))
    (hn : cs.length = n) (hn' : n ≤ 100) (hb : b < w.heap.size) (hc : ColsAt w b o cs) :
    Calls Tryz.prog 94 #[.agg j.cells, .slice (some ⟨b, o, none⟩) n c] w fun e w' => e = .returned (errV (grpErr cs x y)) ∧ Below w.heap.size w w' := by
  have hP := fun nm W (h1 : Below w.heap.size w W) => place_in b o n c cs nm W hn hn' (by have := h1.size; omega) (hc.below h1 hb)
  have hJ := job_new w j 43
  have hB0 := below_box w (.cells j.cells 43)
  obtain ⟨W, hW⟩ : ∃ W, W = w.alloc (.cells j.cells 43) := ⟨_, rfl⟩
  rw [← hW] at hJ hB0
  have e4 := cell_regrown (show W.cell? ⟨w.heap.size, 4, none⟩ = some (.slice (some ⟨cb, co, none⟩) 2 cc) from by have := hJ 4 j.cols rfl; rw [hj] at this; exact this)
  have e5 := cell_regrown ((hB0.cell (p := ⟨cb, co, none⟩) hcb).trans s0)
  have e6 := cell_regrown ((hB0.cell (p := ⟨cb, co + 1, none⟩) hcb).trans s1)
  have C1 : ∀ nm d os, _ := fun nm d os => Calls.regrown_of (hP nm (Sort.grow (redrawn W d) os) (bel_then hB0 (below_regrown _ _ _)))
  have HB := Hid.mk hB0
  have HC := Hid.mk (And.intro hn hc)
  obtain ⟨P, hPx⟩ : ∃ P, placeI cs x.data.toList = P := ⟨_, rfl⟩
  obtain ⟨Q, hQy⟩ : ∃ Q, placeI cs y.data.toList = Q := ⟨_, rfl⟩
  have HPQ := Hid.mk (And.intro hPx hQy)
  clear hJ hB0 hn hc hP
  unfold Jb.cells at hW ⊢
  rw [hj, hop] at hW ⊢
  go_enter Tryz.func94, Tryz.ntmps94
  go_wp2
  rw [← hW]
  clear hW
  refine wp_region_quiet_below (by kernel_rfl) (by kernel_rfl) ?_
  repeat (any_goals (first | go_big_quiet_step (exact C1 _ _ _) | quiet_step (exact C1 _ _ _)))
  refine wpQuiet_nil ?_
  intro _ hw'
  obtain ⟨⟨dq, osq⟩, hw''⟩ := hw'
  subst hw''
  have HB5 := Hid.mk (bel_then HB.out (below_regrown W dq osq))
  clear e4 e5 e6 C1 HB
  generalize Sort.grow (redrawn W dq) osq = W5 at *
  try rw [hPx]
  try rw [hQy]
  clear hPx hQy
  cases hpx : placeN cs x.data.toList with
  | none =>
    have hv : grpErr cs x y = 7 := by unfold grpErr; rw [hpx]
    have HV := Hid.mk hv
    have hP0 : P = -1 := by rw [← HPQ.out.1]; exact place_neg hpx
    subst hP0
    clear hpx hv HPQ
    go_wp2
    go_ret
    exact ⟨by rw [HV.out, errV_ne (by decide)]; rfl, HB5.out⟩
  | some p =>
    have hP0 : P = (p : Int) := by rw [← HPQ.out.1]; exact place_nat hpx
    cases hqy : placeN cs y.data.toList with
    | none =>
      have hv : grpErr cs x y = 7 := by unfold grpErr; rw [hpx, hqy]
      have HV := Hid.mk hv
      have hQ0 : Q = -1 := by rw [← HPQ.out.2]; exact place_neg hqy
      subst hQ0 hP0
      have hp0 : ¬ ((p : Int) < 0) := by omega
      clear hpx hqy hv HPQ
      go_wp2
      go_ret
      exact ⟨by rw [HV.out, errV_ne (by decide)]; rfl, HB5.out⟩
    | some q =>
      have hQ0 : Q = (q : Int) := by rw [← HPQ.out.2]; exact place_nat hqy
      have hql := place_some hqy
      have hkd := ((HC.out.2 q hql).2)
      rw [kindAt_of hql] at hkd
      have d5 := (HB5.out.cell (p := ⟨b, o + q * 2 + 1, none⟩) hb).trans hkd
      have hqn : (q : Int) < (n : Int) := by have := HC.out.1; omega
      have hp0 : ¬ ((p : Int) < 0) := by omega
      have hq0 : ¬ ((q : Int) < 0) := by omega
      have hv : grpErr cs x y = if kindAt cs q ≠ 1 then 13 else if p = q then 9 else 0 := by unfold grpErr; rw [hpx, hqy]
      clear hpx hqy hkd
      subst hQ0 hP0
      generalize kindAt cs q = kd at *
      by_cases hk : kd = 1
      · subst hk
        rw [if_neg (by decide)] at hv
        by_cases hpq : p = q
        · subst hpq
          rw [if_pos rfl] at hv
          have HV := Hid.mk hv
          clear hv
          go_wp2
          go_ret
          exact ⟨by rw [HV.out, errV_ne (by decide)]; rfl, HB5.out⟩
        · rw [if_neg hpq] at hv
          have HV := Hid.mk hv
          clear hv
          have hpq' : ¬ ((p : Int) = (q : Int)) := by omega
          go_wp2
          go_ret
          exact ⟨by rw [HV.out, errV_0]; rfl, HB5.out⟩
      · rw [if_pos hk] at hv
        have HV := Hid.mk hv
        clear hv
        go_wp2
        go_ret
        exact ⟨by rw [HV.out, errV_ne (by decide)]; rfl, HB5.out⟩
set_option maxRecDepth 100000 in
set_option maxHeartbeats 3200000 in
theorem group_max (b o n c cb co cc : Nat) (cs : List Cl) (x y : ByteArray) (j : Jb) (w : World) (hj : j.cols = .slice (some ⟨cb, co, none⟩) 2 cc) (hop : j.op = ⟨#[109, 97, 120]⟩) (hcb : cb < w.heap.size) (s0 : w.cell? ⟨cb, co, none⟩ = some (.string x)) (s1 : w.cell? ⟨cb, co + 1, none⟩ = some (.string y))
    (hn : cs.length = n) (hn' : n ≤ 100) (hb : b < w.heap.size) (hc : ColsAt w b o cs) :
    Calls Tryz.prog 94 #[.agg j.cells, .slice (some ⟨b, o, none⟩) n c] w fun e w' => e = .returned (errV (grpErr cs x y)) ∧ Below w.heap.size w w' := by
  have hP := fun nm W (h1 : Below w.heap.size w W) => place_in b o n c cs nm W hn hn' (by have := h1.size; omega) (hc.below h1 hb)
  have hJ := job_new w j 43
  have hB0 := below_box w (.cells j.cells 43)
  obtain ⟨W, hW⟩ : ∃ W, W = w.alloc (.cells j.cells 43) := ⟨_, rfl⟩
  rw [← hW] at hJ hB0
  have e4 := cell_regrown (show W.cell? ⟨w.heap.size, 4, none⟩ = some (.slice (some ⟨cb, co, none⟩) 2 cc) from by have := hJ 4 j.cols rfl; rw [hj] at this; exact this)
  have e5 := cell_regrown ((hB0.cell (p := ⟨cb, co, none⟩) hcb).trans s0)
  have e6 := cell_regrown ((hB0.cell (p := ⟨cb, co + 1, none⟩) hcb).trans s1)
  have C1 : ∀ nm d os, _ := fun nm d os => Calls.regrown_of (hP nm (Sort.grow (redrawn W d) os) (bel_then hB0 (below_regrown _ _ _)))
  have HB := Hid.mk hB0
  have HC := Hid.mk (And.intro hn hc)
  obtain ⟨P, hPx⟩ : ∃ P, placeI cs x.data.toList = P := ⟨_, rfl⟩
  obtain ⟨Q, hQy⟩ : ∃ Q, placeI cs y.data.toList = Q := ⟨_, rfl⟩
  have HPQ := Hid.mk (And.intro hPx hQy)
  clear hJ hB0 hn hc hP
  unfold Jb.cells at hW ⊢
  rw [hj, hop] at hW ⊢
  go_enter Tryz.func94, Tryz.ntmps94
  go_wp2
  rw [← hW]
  clear hW
  refine wp_region_quiet_below (by kernel_rfl) (by kernel_rfl) ?_
  repeat (any_goals (first | go_big_quiet_step (exact C1 _ _ _) | quiet_step (exact C1 _ _ _)))
  refine wpQuiet_nil ?_
  intro _ hw'
  obtain ⟨⟨dq, osq⟩, hw''⟩ := hw'
  subst hw''
  have HB5 := Hid.mk (bel_then HB.out (below_regrown W dq osq))
  clear e4 e5 e6 C1 HB
  generalize Sort.grow (redrawn W dq) osq = W5 at *
  try rw [hPx]
  try rw [hQy]
  clear hPx hQy
  cases hpx : placeN cs x.data.toList with
  | none =>
    have hv : grpErr cs x y = 7 := by unfold grpErr; rw [hpx]
    have HV := Hid.mk hv
    have hP0 : P = -1 := by rw [← HPQ.out.1]; exact place_neg hpx
    subst hP0
    clear hpx hv HPQ
    go_wp2
    go_ret
    exact ⟨by rw [HV.out, errV_ne (by decide)]; rfl, HB5.out⟩
  | some p =>
    have hP0 : P = (p : Int) := by rw [← HPQ.out.1]; exact place_nat hpx
    cases hqy : placeN cs y.data.toList with
    | none =>
      have hv : grpErr cs x y = 7 := by unfold grpErr; rw [hpx, hqy]
      have HV := Hid.mk hv
      have hQ0 : Q = -1 := by rw [← HPQ.out.2]; exact place_neg hqy
      subst hQ0 hP0
      have hp0 : ¬ ((p : Int) < 0) := by omega
      clear hpx hqy hv HPQ
      go_wp2
      go_ret
      exact ⟨by rw [HV.out, errV_ne (by decide)]; rfl, HB5.out⟩
    | some q =>
      have hQ0 : Q = (q : Int) := by rw [← HPQ.out.2]; exact place_nat hqy
      have hql := place_some hqy
      have hkd := ((HC.out.2 q hql).2)
      rw [kindAt_of hql] at hkd
      have d5 := (HB5.out.cell (p := ⟨b, o + q * 2 + 1, none⟩) hb).trans hkd
      have hqn : (q : Int) < (n : Int) := by have := HC.out.1; omega
      have hp0 : ¬ ((p : Int) < 0) := by omega
      have hq0 : ¬ ((q : Int) < 0) := by omega
      have hv : grpErr cs x y = if kindAt cs q ≠ 1 then 13 else if p = q then 9 else 0 := by unfold grpErr; rw [hpx, hqy]
      clear hpx hqy hkd
      subst hQ0 hP0
      generalize kindAt cs q = kd at *
      by_cases hk : kd = 1
      · subst hk
        rw [if_neg (by decide)] at hv
        by_cases hpq : p = q
        · subst hpq
          rw [if_pos rfl] at hv
          have HV := Hid.mk hv
          clear hv
          go_wp2
          go_ret
          exact ⟨by rw [HV.out, errV_ne (by decide)]; rfl, HB5.out⟩
        · rw [if_neg hpq] at hv
          have HV := Hid.mk hv
          clear hv
          have hpq' : ¬ ((p : Int) = (q : Int)) := by omega
          go_wp2
          go_ret
          exact ⟨by rw [HV.out, errV_0]; rfl, HB5.out⟩
      · rw [if_pos hk] at hv
        have HV := Hid.mk hv
        clear hv
        go_wp2
        go_ret
        exact ⟨by rw [HV.out, errV_ne (by decide)]; rfl, HB5.out⟩
/-- A column is called as one ahead of it. -/
def twiceB (l : List Cl) : Bool := (List.range l.length).any fun i => decide (placeI l ((l[i]?.getD (⟨#[]⟩, 0)).1.data.toList) < (i : Int))
/-- What is wrong with a job that joins two tables (0: nothing). -/
def joinErr (cs ds : List Cl) (x y : ByteArray) : Int :=
  match placeN cs x.data.toList, placeN ds y.data.toList with
  | some p, some q => if kindAt cs p ≠ kindAt ds q then 13 else if twiceB (besL cs ds q) = true then 9 else if 6 < (besL cs ds q).length then 4 else 0
  | _, _ => 7
theorem twice_at {l : List Cl} {i : Nat} (h : i < l.length) (hp : placeI l (l[i].1.data.toList) < (i : Int)) : twiceB l = true := by
  unfold twiceB
  rw [List.any_eq_true]
  exact ⟨i, List.mem_range.2 h, by rw [List.getElem?_eq_getElem h]; exact decide_eq_true hp⟩
theorem twice_not {l : List Cl} (h : ∀ i (hi : i < l.length), ¬ placeI l (l[i].1.data.toList) < (i : Int)) : twiceB l = false := by
  unfold twiceB
  rw [List.any_eq_false]
  intro i hi
  have hi' := List.mem_range.1 hi
  rw [List.getElem?_eq_getElem hi']
  simpa using h i hi'
set_option maxRecDepth 100000 in
set_option maxHeartbeats 3200000 in
theorem join_any (b o n c b2 o2 n2 c2 cb co cc : Nat) (cs ds : List Cl) (x y : ByteArray) (j : Jb) (w : World) (hj : j.cols = .slice (some ⟨cb, co, none⟩) 2 cc) (hcb : cb < w.heap.size) (s0 : w.cell? ⟨cb, co, none⟩ = some (.string x)) (s1 : w.cell? ⟨cb, co + 1, none⟩ = some (.string y))
    (hn : cs.length = n) (hn1 : 1 ≤ n) (hn' : n ≤ 40) (hb : b < w.heap.size) (hc : ColsAt w b o cs) (hn2 : ds.length = n2) (hn2' : n2 ≤ 40) (hcap : n2 ≤ c2) (hb2 : b2 < w.heap.size) (hc2 : ColsAt w b2 o2 ds) (hsz : ∀ z ∈ cs ++ ds, z.1.size ≤ maxLen) :
    Calls Tryz.prog 93 #[.agg j.cells, .slice (some ⟨b, o, none⟩) n c, .slice (some ⟨b2, o2, none⟩) n2 c2] w fun e w' => e = .returned (errV (joinErr cs ds x y)) ∧ Below w.heap.size w w' := by
  have hPl : ∀ (v : Value) (nm : ByteArray) (k : Int) (W : World), Below w.heap.size w W → (v = .slice (some ⟨b, o, none⟩) n c ∧ k = placeI cs nm.data.toList ∨ v = .slice (some ⟨b2, o2, none⟩) n2 c2 ∧ k = placeI ds nm.data.toList) → Calls Tryz.prog 98 #[v, .string nm] W fun e w' => e = .returned (.int .i64 k) ∧ Below W.heap.size W w' := by
    rintro v nm k W h1 (⟨rfl, rfl⟩ | ⟨rfl, rfl⟩)
    · exact place_in b o n c cs nm W hn (by omega) (by have := h1.size; omega) (hc.below h1 hb)
    · exact place_in b2 o2 n2 c2 ds nm W hn2 (by omega) (by have := h1.size; omega) (hc2.below h1 hb2)
  have hJ := job_new w j 43
  have hB0 := below_box w (.cells j.cells 43)
  obtain ⟨W, hW⟩ : ∃ W, W = w.alloc (.cells j.cells 43) := ⟨_, rfl⟩
  rw [← hW] at hJ hB0
  have e4 := cell_regrown (show W.cell? ⟨w.heap.size, 4, none⟩ = some (.slice (some ⟨cb, co, none⟩) 2 cc) from by have := hJ 4 j.cols rfl; rw [hj] at this; exact this)
  have e5 := cell_regrown ((hB0.cell (p := ⟨cb, co, none⟩) hcb).trans s0)
  have e6 := cell_regrown ((hB0.cell (p := ⟨cb, co + 1, none⟩) hcb).trans s1)
  have C1 := fun v nm k d os h => Calls.regrown_of (hPl v nm k (Sort.grow (redrawn W d) os) (bel_then hB0 (below_regrown _ _ _)) h)
  have HB := Hid.mk hB0
  have HC := Hid.mk (And.intro hn (And.intro hc (And.intro hn2 (And.intro hc2 hsz))))
  obtain ⟨P, hPx⟩ : ∃ P, placeI cs x.data.toList = P := ⟨_, rfl⟩
  obtain ⟨Q, hQy⟩ : ∃ Q, placeI ds y.data.toList = Q := ⟨_, rfl⟩
  have HPQ := Hid.mk (And.intro hPx hQy)
  clear hJ hB0 hn hc hPl hn2 hc2 hsz
  unfold Jb.cells at hW ⊢
  rw [hj] at hW ⊢
  go_enter Tryz.func93, Tryz.ntmps93
  go_wp2
  rw [← hW]
  clear hW
  refine wp_region_quiet_below (by kernel_rfl) (by kernel_rfl) ?_
  repeat (any_goals (first | go_big_quiet_step (exact C1 _ _ _ _ _ (by first | exact Or.inl ⟨rfl, rfl⟩ | exact Or.inr ⟨rfl, rfl⟩)) | quiet_step (exact C1 _ _ _ _ _ (by first | exact Or.inl ⟨rfl, rfl⟩ | exact Or.inr ⟨rfl, rfl⟩))))
  refine wpQuiet_nil ?_
  intro _ hw'
  obtain ⟨⟨dq, osq⟩, hw''⟩ := hw'
  subst hw''
  have HB5 := Hid.mk (bel_then HB.out (below_regrown W dq osq))
  clear e4 e5 e6 C1 HB
  generalize Sort.grow (redrawn W dq) osq = W5 at *
  try rw [hPx]
  try rw [hQy]
  clear hPx hQy
  cases hpx : placeN cs x.data.toList with
  | none =>
    have HV := Hid.mk (show joinErr cs ds x y = 7 by unfold joinErr; rw [hpx])
    have hP0 : P = -1 := by rw [← HPQ.out.1]; exact place_neg hpx
    subst hP0
    clear hpx HPQ
    go_wp2
    go_ret
    exact ⟨by rw [HV.out, errV_ne (by decide)]; rfl, HB5.out⟩
  | some p =>
    have hP0 : P = (p : Int) := by rw [← HPQ.out.1]; exact place_nat hpx
    cases hqy : placeN ds y.data.toList with
    | none =>
      have HV := Hid.mk (show joinErr cs ds x y = 7 by unfold joinErr; rw [hpx, hqy])
      have hQ0 : Q = -1 := by rw [← HPQ.out.2]; exact place_neg hqy
      subst hQ0 hP0
      have hp0 : ¬ ((p : Int) < 0) := by omega
      clear hpx hqy HPQ
      go_wp2
      go_ret
      exact ⟨by rw [HV.out, errV_ne (by decide)]; rfl, HB5.out⟩
    | some q =>
      have hQ0 : Q = (q : Int) := by rw [← HPQ.out.2]; exact place_nat hqy
      have hpl := place_some hpx
      have hql := place_some hqy
      have hkp := ((HC.out.2.1 p hpl).2)
      have hkq := ((HC.out.2.2.2.1 q hql).2)
      rw [kindAt_of hpl] at hkp
      rw [kindAt_of hql] at hkq
      have d5 := (HB5.out.cell (p := ⟨b, o + p * 2 + 1, none⟩) hb).trans hkp
      have d6 := (HB5.out.cell (p := ⟨b2, o2 + q * 2 + 1, none⟩) hb2).trans hkq
      have hpn : (p : Int) < (n : Int) := by have := HC.out.1; omega
      have hqn : (q : Int) < (n2 : Int) := by have := HC.out.2.2.1; omega
      have hp0 : ¬ ((p : Int) < 0) := by omega
      have hq0 : ¬ ((q : Int) < 0) := by omega
      have hv : joinErr cs ds x y = if kindAt cs p ≠ kindAt ds q then 13 else if twiceB (besL cs ds q) = true then 9 else if 6 < (besL cs ds q).length then 4 else 0 := by unfold joinErr; rw [hpx, hqy]
      have HQL := Hid.mk hql
      clear hpx hqy hkp hkq hpl hql
      subst hQ0 hP0
      generalize kindAt cs p = kp at *
      generalize kindAt ds q = kq at *
      by_cases hk : kp = kq
      · subst hk
        rw [if_neg (by simp)] at hv
        have HV := Hid.mk hv
        clear hv
        have HBS := Hid.mk (fun W' (hW' : Below w.heap.size w W') => besideC_in b o c b2 o2 c2 q cs ds W' (by have := hW'.size; omega) (HC.out.2.1.below hW' hb) (by have := hW'.size; omega) (HC.out.2.2.2.1.below hW' hb2) HQL.out (by rw [HC.out.2.2.1]; exact hcap) (by rw [HC.out.1]; omega) (by rw [HC.out.2.2.1]; omega))
        rw [HC.out.1, HC.out.2.2.1] at HBS
        have HBL := Hid.mk (besL_len cs ds q HQL.out)
        have HBZ : Hid (∀ z ∈ besL cs ds q, z.1.size ≤ maxLen) := Hid.mk (fun z hz => HC.out.2.2.2.2 z (by
          unfold besL at hz
          rw [List.mem_append, List.mem_append] at hz
          rw [List.mem_append]
          rcases hz with (hz | hz) | hz
          · exact Or.inl hz
          · exact Or.inr (List.mem_of_mem_take hz)
          · exact Or.inr (List.mem_of_mem_drop hz)))
        generalize besL cs ds q = L at *
        have hL1 : 1 ≤ L.length := by have h1 := HBL.out; have h2 := HC.out.1; have h3 := HQL.out; omega
        have hL2 : L.length ≤ 80 := by have h1 := HBL.out; have h2 := HC.out.1; have h3 := HC.out.2.2.1; omega
        go_wp2
        go_quiet (fail)
        go_wp2_with (go_at_call 97; fail)
        refine (HBS.out _ (below_drewN HB5.out _)).mono ?_
        rintro e W6 ⟨v6, rfl, ho6, hb6⟩
        have hcI := cols_of_own ho6 HBZ.out
        obtain ⟨lb, lo, lc, rfl, hlb, hlat⟩ := cols_at hcI hL1
        have HB6 := Hid.mk (bel_then (below_drewN HB5.out _) hb6)
        have HLA := Hid.mk hlat
        clear ho6 hb6 hcI hlat HBS d5 d6
        go_wp2
        go_loopg [54] L.length (fun g1 vi wr => ∃ i : Nat, vi = .int .i64 i ∧ i ≤ L.length ∧ L.length - i ≤ g1 ∧ Aside (Below W6.heap.size W6 wr ∧ ∀ k (hk : k < L.length), k < i → ¬ placeI L (L[k].1.data.toList) < (k : Int)))
        case atStart => exact ⟨0, rfl, Nat.zero_le _, by omega, Below.refl _ _, fun k _ h => absurd h (by omega)⟩
        case round =>
          obtain ⟨i, rfl, hil, hg, HI⟩ := hrel
          by_cases hlt : i < L.length
          · have hltz : (i : Int) < (L.length : Int) := by omega
            have hws := HI.out.1.size
            obtain ⟨c0, c1⟩ := (HLA.out.below HI.out.1 hlb) i hlt
            have HPL := Hid.mk (fun W' (hW' : Below wr.heap.size wr W') => place_in lb lo L.length lc L L[i].1 W' rfl (by omega) (by have := hW'.size; omega) ((HLA.out.below HI.out.1 hlb).below hW' (by omega)))
            obtain ⟨R, hR⟩ : ∃ R, placeI L (L[i].1.data.toList) = R := ⟨_, rfl⟩
            have HR := Hid.mk hR
            rw [hR] at HPL
            clear hR
            by_cases hRi : R < (i : Int)
            · have HTW := Hid.mk (twice_at hlt (by rw [HR.out]; exact hRi))
              generalize L[i] = z at *
              go_wp2_with (go_at_call 98; fail)
              refine (HPL.out _ (below_box _ _)).mono ?_
              rintro e W7 ⟨rfl, hb7⟩
              have HB7 := Hid.mk (bel_then (bel_then HB6.out HI.out.1) (bel_then (below_box _ _) hb7))
              clear hb7 c0 c1
              go_wp2
              go_ret
              exact ⟨by rw [HV.out, if_pos HTW.out, errV_ne (by decide)]; rfl, HB7.out⟩
            · have HNT := Hid.mk (show ∀ k (hk : k < L.length), k < i + 1 → ¬ placeI L (L[k].1.data.toList) < (k : Int) from fun k hk hki => by
                rcases Nat.lt_or_ge k i with h | h
                · exact HI.out.2 k hk h
                · obtain rfl : k = i := by omega
                  rw [HR.out]
                  exact hRi)
              generalize L[i] = z at *
              go_wp2_with (go_at_call 98; fail)
              refine (HPL.out _ (below_box _ _)).mono ?_
              rintro e W7 ⟨rfl, hb7⟩
              have HB7 := Hid.mk (bel_then HI.out.1 (bel_then (below_box _ _) hb7))
              clear hb7 c0 c1
              go_wp2
              go_roundg (L.length - (i + 1))
              case measure => omega
              case rel => exact ⟨i + 1, by go_num, by omega, Nat.le_refl _, HB7.out, HNT.out⟩
          · have hltz : ¬ ((i : Int) < (L.length : Int)) := by omega
            have HNT := Hid.mk (twice_not (fun k hk => HI.out.2 k hk (by omega)))
            by_cases h6 : 6 < L.length
            · have h6z : (6 : Int) < (L.length : Int) := by omega
              go_wp2
              go_ret
              exact ⟨by rw [HV.out, if_neg (by rw [HNT.out]; decide), if_pos h6, errV_ne (by decide)]; rfl, bel_then HB6.out HI.out.1⟩
            · have h6z : ¬ ((6 : Int) < (L.length : Int)) := by omega
              go_wp2
              go_ret
              exact ⟨by rw [HV.out, if_neg (by rw [HNT.out]; decide), if_neg h6, errV_0]; rfl, bel_then HB6.out HI.out.1⟩
      · rw [if_pos hk] at hv
        have HV := Hid.mk hv
        clear hv
        have hk' : (kp == kq) = false := by simp [hk]
        go_wp2
        go_quiet (fail)
        go_wp2
        go_ret
        exact ⟨by rw [HV.out, errV_ne (by decide)]; rfl, below_drewN HB5.out _⟩
set_option maxRecDepth 100000 in
set_option maxHeartbeats 1600000 in
/-- wrong, of a job that joins. -/
theorem wrong_join (hb ho cin b o n c b2 o2 n2 c2 : Nat) (j : Jb) (r : Int) (w : World) (hcode : j.code = 7) (hhb : hb < w.heap.size) (h0 : w.cell? ⟨hb, ho, none⟩ = some (.slice (some ⟨b, o, none⟩) n c)) (h1 : w.cell? ⟨hb, ho + 1, none⟩ = some (.slice (some ⟨b2, o2, none⟩) n2 c2))
    (hG : ∀ W, Below w.heap.size w W → Calls Tryz.prog 93 #[.agg j.cells, .slice (some ⟨b, o, none⟩) n c, .slice (some ⟨b2, o2, none⟩) n2 c2] W fun e w' => e = .returned (errV r) ∧ Below W.heap.size W w') :
    Calls Tryz.prog 71 #[.agg j.cells, .slice (some ⟨hb, ho, none⟩) 2 cin] w fun e w' => e = .returned (errV r) ∧ Below w.heap.size w w' := by
  have hJ := job_new w j 43
  have hB0 := below_box w (.cells j.cells 43)
  obtain ⟨W, hW⟩ : ∃ W, W = w.alloc (.cells j.cells 43) := ⟨_, rfl⟩
  rw [← hW] at hJ hB0
  have e0 := cell_regrown (show W.cell? ⟨w.heap.size, 0, none⟩ = some (.int .i64 j.at_) from hJ 0 _ rfl)
  have e1 := cell_regrown (show W.cell? ⟨w.heap.size, 1, none⟩ = some (.int .i64 7) from by have := hJ 1 (.int .i64 j.code) rfl; rw [hcode] at this; exact this)
  have e2 := cell_regrown (show W.cell? ⟨w.heap.size, 2, none⟩ = some j.outs from hJ 2 _ rfl)
  have e3 := cell_regrown (show W.cell? ⟨w.heap.size, 3, none⟩ = some j.ins from hJ 3 _ rfl)
  have e4 := cell_regrown (show W.cell? ⟨w.heap.size, 4, none⟩ = some j.cols from hJ 4 _ rfl)
  have e5 := cell_regrown (show W.cell? ⟨w.heap.size, 5, none⟩ = some (.string j.op) from hJ 5 _ rfl)
  have e6 := cell_regrown (show W.cell? ⟨w.heap.size, 6, none⟩ = some (.string j.left.1) from hJ 6 _ rfl)
  have e7 := cell_regrown (show W.cell? ⟨w.heap.size, 7, none⟩ = some (.int .i64 j.left.2.1) from hJ 7 _ rfl)
  have e8 := cell_regrown (show W.cell? ⟨w.heap.size, 8, none⟩ = some (.int .i64 j.left.2.2.1) from hJ 8 _ rfl)
  have e9 := cell_regrown (show W.cell? ⟨w.heap.size, 9, none⟩ = some (.string j.left.2.2.2) from hJ 9 _ rfl)
  have e10 := cell_regrown (show W.cell? ⟨w.heap.size, 10, none⟩ = some (.string j.right.1) from hJ 10 _ rfl)
  have e11 := cell_regrown (show W.cell? ⟨w.heap.size, 11, none⟩ = some (.int .i64 j.right.2.1) from hJ 11 _ rfl)
  have e12 := cell_regrown (show W.cell? ⟨w.heap.size, 12, none⟩ = some (.int .i64 j.right.2.2.1) from hJ 12 _ rfl)
  have e13 := cell_regrown (show W.cell? ⟨w.heap.size, 13, none⟩ = some (.string j.right.2.2.2) from hJ 13 _ rfl)
  have e14 := cell_regrown (show W.cell? ⟨w.heap.size, 14, none⟩ = some (.int .i64 j.retry) from hJ 14 _ rfl)
  have f1 := cell_regrown ((hB0.cell (p := ⟨hb, ho + 1, none⟩) hhb).trans h1)
  unfold Jb.cells at hG hW ⊢
  rw [hcode] at hG hW ⊢
  generalize errV r = ev at *
  have C1 : ∀ d os, _ := fun d os => Calls.regrown_of (hG (Sort.grow (redrawn W d) os) (bel_then hB0 (below_regrown _ _ _)))
  have HB := Hid.mk hB0
  clear hJ hB0 hG hcode
  go_enter Tryz.func71, Tryz.ntmps71
  go_wp2
  rw [← hW]
  clear hW
  refine wp_region_quiet_below (by kernel_rfl) (by kernel_rfl) ?_
  repeat (any_goals (first | go_big_quiet_step (exact C1 _ _) | quiet_step (exact C1 _ _)))
  refine wpQuiet_nil ?_
  intro _ hw'
  obtain ⟨⟨dq, osq⟩, hw''⟩ := hw'
  subst hw''
  have HB5 := Hid.mk (bel_then HB.out (below_regrown W dq osq))
  clear e0 e1 e2 e3 e4 e5 e6 e7 e8 e9 e10 e11 e12 e13 e14 f1 C1 HB
  generalize Sort.grow (redrawn W dq) osq = W5 at *
  go_wp2
  go_ret
  exact ⟨rfl, HB5.out⟩
set_option maxRecDepth 100000 in
set_option maxHeartbeats 1600000 in
/-- columnsOf, of a job that joins. -/
theorem columns_join (hb ho cin b o c b2 o2 c2 cb co cc q : Nat) (cs ds : List Cl) (y : ByteArray) (j : Jb) (w : World) (hcode : j.code = 7) (hj : j.cols = .slice (some ⟨cb, co, none⟩) 2 cc) (hcb : cb < w.heap.size) (s1 : w.cell? ⟨cb, co + 1, none⟩ = some (.string y)) (hhb : hb < w.heap.size) (h0 : w.cell? ⟨hb, ho, none⟩ = some (.slice (some ⟨b, o, none⟩) cs.length c)) (h1 : w.cell? ⟨hb, ho + 1, none⟩ = some (.slice (some ⟨b2, o2, none⟩) ds.length c2)) (hq : placeN ds y.data.toList = some q)
    (hn : cs.length ≤ 40) (hb1 : b < w.heap.size) (hc : ColsAt w b o cs) (hn2 : ds.length ≤ 40) (hcap : ds.length ≤ c2) (hb2 : b2 < w.heap.size) (hc2 : ColsAt w b2 o2 ds) :
    Calls Tryz.prog 72 #[.agg j.cells, .slice (some ⟨hb, ho, none⟩) 2 cin] w fun e w' => ∃ u, e = .returned u ∧ w'.ownsRow w.heap.size 48 2 u (besL cs ds q).length (colCells (besL cs ds q)) ∧ Below w.heap.size w w' := by
  have HPL := Hid.mk (fun W (hW : Below w.heap.size w W) => place_in b2 o2 ds.length c2 ds y W rfl (by omega) (by have := hW.size; omega) (hc2.below hW hb2))
  rw [place_nat hq] at HPL
  have HBS := Hid.mk (fun W (hW : Below w.heap.size w W) => besideC_in b o c b2 o2 c2 q cs ds W (by have := hW.size; omega) (hc.below hW hb1) (by have := hW.size; omega) (hc2.below hW hb2) (place_some hq) hcap (by omega) (by omega))
  have hJ := job_new w j 43
  have k4 : (w.alloc (.cells j.cells 43)).cell? ⟨w.heap.size, 4, none⟩ = some (.slice (some ⟨cb, co, none⟩) 2 cc) := by have := hJ 4 j.cols rfl; rw [hj] at this; exact this
  have hB0 := below_box w (.cells j.cells 43)
  have KP := Hid.mk (fun W (hW : Below w.heap.size w W) (hJ4 : W.cell? ⟨w.heap.size, 4, none⟩ = some (.slice (some ⟨cb, co, none⟩) 2 cc)) => And.intro ((hW.cell (p := ⟨hb, ho + 1, none⟩) hhb).trans h1) (And.intro hJ4 ((hW.cell (p := ⟨cb, co + 1, none⟩) hcb).trans s1)))
  have HK := Hid.mk k4
  clear hJ hq hc hc2 hB0 k4
  unfold Jb.cells at HK ⊢
  rw [hcode, hj] at HK ⊢
  go_enter Tryz.func72, Tryz.ntmps72
  go_wp2_with fail
  obtain ⟨W, hW⟩ : ∃ W, W = w.alloc (.cells #[.int .i64 j.at_, .int .i64 7, j.outs, j.ins, .slice (some ⟨cb, co, none⟩) 2 cc, .string j.op, .string j.left.1, .int .i64 j.left.2.1, .int .i64 j.left.2.2.1, .string j.left.2.2.2, .string j.right.1, .int .i64 j.right.2.1, .int .i64 j.right.2.2.1, .string j.right.2.2.2, .int .i64 j.retry] 43) := ⟨_, rfl⟩
  rw [← hW] at HK ⊢
  have hB0 : Below w.heap.size w W := by rw [hW]; exact below_box _ _
  have hWs : w.heap.size < W.heap.size := by rw [hW]; simp
  have HB0 := Hid.mk hB0
  obtain ⟨i0, i1, i2⟩ := KP.out W hB0 HK.out
  have KX : Hid (∀ V V' : World, Below w.heap.size w V → V.cell? ⟨w.heap.size, 4, none⟩ = some (.slice (some ⟨cb, co, none⟩) 2 cc) → w.heap.size < V.heap.size → Below V.heap.size V V' → V'.cell? ⟨hb, ho + 1, none⟩ = some (.slice (some ⟨b2, o2, none⟩) ds.length c2) ∧ V'.cell? ⟨w.heap.size, 4, none⟩ = some (.slice (some ⟨cb, co, none⟩) 2 cc) ∧ V'.cell? ⟨cb, co + 1, none⟩ = some (.string y)) := Hid.mk (fun V V' h1 h2 h3 h4 => KP.out V' (bel_then h1 h4) ((h4.cell (p := ⟨w.heap.size, 4, none⟩) h3).trans h2))
  clear hW hB0 h0 h1 s1
  go_region_held3 (fun w' => w'.cell? ⟨hb, ho + 1, none⟩ = some (.slice (some ⟨b2, o2, none⟩) ds.length c2) ∧ w'.cell? ⟨w.heap.size, 4, none⟩ = some (.slice (some ⟨cb, co, none⟩) 2 cc) ∧ w'.cell? ⟨cb, co + 1, none⟩ = some (.string y))
    (first | (go_keep; done) | exact ⟨m0, m1, m2⟩ | exact ⟨k0, k1, k2⟩)
    (first | (go_at_call 98; refine (HPL.out _ HB0.out.drew).mono ?_; rintro e w1 ⟨rfl, hb1'⟩; obtain ⟨k0, k1, k2⟩ := KX.out W.drew w1 HB0.out.drew HK.out hWs hb1'; have HB1 := Hid.mk (bel_then HB0.out.drew hb1'); have hs1 : W.heap.size ≤ w1.heap.size := hb1'.size) | (go_at_call 97; refine (HBS.out _ HB1.out).mono ?_; rintro e w2 ⟨v2, rfl, ho2, hb2'⟩; obtain ⟨m0, m1, m2⟩ := KX.out w1 w2 HB1.out k1 (by omega) hb2'; have HB2 := Hid.mk (bel_then HB1.out hb2')))
  go_wp2
  go_ret
  exact ⟨_, rfl, own_mono (by omega) ho2, HB2.out⟩
set_option maxRecDepth 100000 in
set_option maxHeartbeats 800000 in
/-- wrong, of a job that groups. -/
theorem wrong_grp (hb ho tk cin b o n c : Nat) (j : Jb) (r : Int) (w : World) (hcode : j.code = 8) (htk : 0 < tk) (hhb : hb < w.heap.size) (h0 : w.cell? ⟨hb, ho, none⟩ = some (.slice (some ⟨b, o, none⟩) n c))
    (hG : ∀ W, Below w.heap.size w W → Calls Tryz.prog 94 #[.agg j.cells, .slice (some ⟨b, o, none⟩) n c] W fun e w' => e = .returned (errV r) ∧ Below W.heap.size W w') :
    Calls Tryz.prog 71 #[.agg j.cells, .slice (some ⟨hb, ho, none⟩) tk cin] w fun e w' => e = .returned (errV r) ∧ Below w.heap.size w w' := by
  unfold Jb.cells at hG ⊢
  rw [hcode] at hG ⊢
  generalize errV r = ev at *
  have HT := Hid.mk hG
  have htk' : (0 : Int) < (tk : Int) := by omega
  clear hG hcode
  go_enter Tryz.func71, Tryz.ntmps71
  go_wp2_with (go_at_call 94; refine (HT.out _ (below_box _ _)).mono ?_; rintro e w1 ⟨rfl, hb1⟩)
  go_ret
  exact ⟨rfl, bel_then (below_box _ _) hb1⟩
set_option maxRecDepth 100000 in
set_option maxHeartbeats 800000 in
/-- columnsOf, of a job that groups. -/
theorem columns_group (hb ho tk cin b o n c : Nat) (cs : List Cl) (ss : List ByteArray) (j : Jb) (w : World) (hcode : j.code = 8) (htk : 0 < tk) (hhb : hb < w.heap.size) (h0 : w.cell? ⟨hb, ho, none⟩ = some (.slice (some ⟨b, o, none⟩) n c)) (hs : StrsC w j.cols ss) (he : listErr cs ss = 0)
    (hn : cs.length = n) (hn' : n ≤ 100) (hbl : b < w.heap.size) (hc : ColsAt w b o cs) :
    Calls Tryz.prog 72 #[.agg j.cells, .slice (some ⟨hb, ho, none⟩) tk cin] w fun e w' => ∃ u, e = .returned u ∧ w'.ownsRow w.heap.size 48 2 u (pickC (placesN cs ss) cs).length (colCells (pickC (placesN cs ss) cs)) ∧ Below w.heap.size w w' := by
  obtain ⟨l0, l6, hall⟩ := listErr_0 he
  obtain ⟨ca, cc, hj, hcap, hml, hat⟩ := hs
  rcases hat with h | ⟨nb, no, rfl, hl, hat⟩
  · rw [h] at l0; simp at l0
  have hkl : (placesN cs ss).length = ss.length := by simp [placesN]
  have hT := fun W (h1 : Below w.heap.size w W) => places_in nb no cc b o n c ss.length ss (placesN cs ss) cs W rfl (by omega) (by have := h1.size; omega) (hat.below h1 hl) hn hn' (by have := h1.size; omega) (hc.below h1 hbl) hkl (places_at hall)
  have hQ := fun W (h1 : Below w.heap.size w W) g gc (hg : g < W.heap.size) (hi : IntsAt W g 0 (placesN cs ss)) => pickedC_in b o c g 0 gc cs (placesN cs ss) W (hc.below h1 hbl) (by have := h1.size; omega) hi hg (places_lt hall) (by omega) (by omega)
  rw [hn] at hQ
  rw [show (pickC (placesN cs ss) cs).length = (placesN cs ss).length by simp [pickC]]
  unfold Jb.cells
  rw [hj]
  obtain ⟨code, hcd⟩ : ∃ k, j.code = k := ⟨_, rfl⟩
  rw [hcd] at hcode ⊢
  clear hcd
  subst hcode
  have hk0 : 0 < (placesN cs ss).length := by omega
  generalize hks : placesN cs ss = ks at *
  have HT := Hid.mk hT
  have HQ := Hid.mk hQ
  have htk' : (0 : Int) < (tk : Int) := by omega
  have HK := Hid.mk hk0
  clear hT hQ hn hc hj hat hall hkl l0 l6 he hks hk0 hml hcap
  go_enter Tryz.func72, Tryz.ntmps72
  go_wp2_with (first | (go_at_call 96; refine (HT.out _ (below_box _ _)).mono ?_; rintro e w1 ⟨v1, rfl, ho1, hb1⟩; obtain ⟨g, gc, rfl, hgB, hgl, hgi⟩ := ints_of ho1 HK.out) | (go_at_call 95; refine (HQ.out _ (bel_then (below_box _ _) hb1) _ _ hgl hgi).mono ?_; rintro e w2 ⟨v2, rfl, ho2, hb2⟩))
  go_ret
  exact ⟨_, rfl, own_mono (by have := hb1.size; simp at this; omega) ho2, bel_then (bel_then (below_box _ _) hb1) hb2⟩
end Go.Proofs.YtfifbnopgpffkaaGreatDoor
