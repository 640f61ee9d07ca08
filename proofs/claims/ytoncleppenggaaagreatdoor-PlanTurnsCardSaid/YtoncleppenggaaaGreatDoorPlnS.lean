import Derived.Test.YtoncleppenggaaaGreatDoorPlnR
import Derived.Shelf.SlMaps.Equal
import Derived.Deep.RegionLaw
set_option linter.unusedSimpArgs false
set_option linter.unusedVariables false
namespace Go.Proofs.YtoncleppenggaaaGreatDoor.Pl
open Go.RowKit Go.Maps Go.Shelf
open Fw (By FJob Flw ba strV encL zeroJ)

/-- Two maps held against each other: the library's contract, laid at this program. -/
def eqRen : Go.Shelf.Ren := ⟨fun | 7 => 10 | n => n, fun | 23 => 30 | 29 => 30 | 26 => 9 | 27 => 45 | 31 => 45 | 32 => 46 | 37 => 67 | 3 => 3 | 4 => 4 | 0 => 0 | n => n, fun | n => n⟩
theorem eqLays : SlLaysEq.n7 Tryz.prog eqRen := {
  mixed := by kernel_rfl
  f7 := ⟨Tryz.f10.name, by kernel_rfl, Tryz.func10.trans (congrArg some (by kernel_rfl))⟩
  t0 := Tryz.underlying0
  a0 := Tryz.isAgg0
  z0 := Tryz.sizeOf0
  v0 := Tryz.zeroValue0
  t3 := Tryz.underlying3
  a3 := Tryz.isAgg3
  z3 := Tryz.sizeOf3
  v3 := Tryz.zeroValue3
  t4 := Tryz.underlying4
  a4 := Tryz.isAgg4
  z4 := Tryz.sizeOf4
  v4 := Tryz.zeroValue4
  t23 := Tryz.underlying30
  a23 := Tryz.isAgg30
  z23 := Tryz.sizeOf30
  v23 := Tryz.zeroValue30
  a26 := Tryz.isAgg9
  z26 := Tryz.sizeOf9
  a27 := Tryz.isAgg45
  z27 := Tryz.sizeOf45
  t29 := Tryz.underlying30
  a29 := Tryz.isAgg30
  z29 := Tryz.sizeOf30
  v29 := Tryz.zeroValue30
  a31 := Tryz.isAgg45
  z31 := Tryz.sizeOf45
  t32 := Tryz.underlying46
  a32 := Tryz.isAgg46
  z32 := Tryz.sizeOf46
  v32 := Tryz.zeroValue46
  t37 := Tryz.underlying67
  a37 := Tryz.isAgg67
  z37 := Tryz.sizeOf67 }
theorem pickN (a : Int) (n : Nat) (w : World) (h0 : 0 < n) (h16 : n ≤ 16) :
    Calls Tryz.prog 8 #[.int .i64 a, .int .i64 (n : Nat)] w fun e w' => ∃ k : Nat, e = .returned (.int .i64 (k : Int)) ∧ k < n ∧ w' = w := by
  have hn : ¬ (IntKind.u64.wrap (n : Int)) = 0 := by unfold IntKind.wrap; simp [IntKind.signed, IntKind.bits]; omega
  have hn2 : IntKind.u64.wrap (n : Int) = (n : Int) := by unfold IntKind.wrap; simp [IntKind.signed, IntKind.bits]; omega
  have hnI : ¬ (n : Int) = 0 := by omega
  go_enter Tryz.func8, Tryz.ntmps8
  go_wp2
  go_ret
  have hX : IntKind.u64.wrap a = a % 18446744073709551616 := by unfold IntKind.wrap; simp [IntKind.signed, IntKind.bits]
  have h0 : 0 ≤ IntKind.u64.wrap a := by rw [hX]; omega
  have hm : (IntKind.u64.wrap a).tmod (n : Int) = (IntKind.u64.wrap a) % (n : Int) := Int.tmod_eq_emod_of_nonneg h0
  have hb1 := Int.emod_nonneg (IntKind.u64.wrap a) (show (n : Int) ≠ 0 by omega)
  have hb2 := Int.emod_lt_of_pos (IntKind.u64.wrap a) (show (0 : Int) < (n : Int) by omega)
  have hw : wrap64 ((IntKind.u64.wrap a).tmod (n : Int)) = ((IntKind.u64.wrap a % (n : Int)).toNat : Int) := by rw [hm]; unfold wrap64; omega
  refine ⟨(IntKind.u64.wrap a % (n : Int)).toNat, ?_, by omega, rfl⟩
  show Ending.returned (.int .i64 (wrap64 ((IntKind.u64.wrap a).tmod (n : Int)))) = _
  rw [hw]
/-- An append to a row of the call's own, as a step of a region in any order. -/
theorem step_append_own {P : Program} {ops : Array Oper} {o : Oper} {a : Act} {w : World} {K : Act → World → Prop} {Q : Exit → Act → World → Prop} {E : Prop} (hgd : o.guard = none) (s x : Operand) (t : TypeId)
    (ho : o.op = .call { callee := .builtin .append, args := #[s, x], argTypes := #[t, t] })
    (base : Nat) (e : TypeId) (i : TypeInfo) (z : Value) (size bytes : Nat) (ht : P.underlying t = some (.slice e)) (hi : P.info? e = some i) (hz : i.zero = some z)
    (hsize : i.size = size) (hby : i.bytes = bytes) (hzs : z.cells.size = size) (hsz : 0 < size)
    (v : Value) (n : Nat) (xs : List Value) (hs : a.eval s = v) (hown : w.ownsRow base e size v n xs)
    (ad : Addr) (m c : Nat) (news : List Value) (hx : a.eval x = .slice (some ad) m c) (hl : news.length = m * size) (hnews : ∀ j u, news[j]? = some u → w.cell? (ad.add j) = some u) (h1 : ∀ u ∈ news, u.oneCell' = true)
    (h63 : n + m ≤ maxLen) (hbytes : (n + m) * bytes ≤ 140737488355328) (hbase : base ≤ w.heap.size)
    (h : ∀ v' w', w'.ownsRow base e size v' (n + m) (xs ++ news) → w.grownBy w' v.ownBlock → (v' = .slice none 0 0 ↔ v = .slice none 0 0 ∧ m = 0) → K (a.put o.dst v') w') :
    if Region.wanted o (yielded ops a.tmps) = true then Oper.wp P o a w K Q else E := by
  rw [if_pos (by simp [Region.wanted, hgd])]
  exact wp_append_own w s x t ho base e i z size bytes ht hi hz hsize hby hzs hsz v n xs hs hown ad m c news hx hl hnews h1 h63 hbytes hbase h
set_option maxRecDepth 100000 in
set_option maxHeartbeats 800000 in
theorem cloneJob_in (b o n c : Nat) (xs : List Value) (w : World) (hn : xs.length = n * 15) (hn' : n ≤ 100) (hb : b < w.heap.size) (hv : w.rangeAt b o xs) (h1 : ∀ u ∈ xs, u.oneCell' = true) :
    Calls Tryz.prog 9 #[.slice (some ⟨b, o, none⟩) n c] w fun e w' => ∃ v, e = .returned v ∧ w'.ownsRow w.heap.size 43 15 v n xs ∧ Below w.heap.size w w' := by
  obtain ⟨i0, hi, hz0, hz1, hz2⟩ := info_parts Fw.Tryz.infoJob
  have HN := Hid.mk hn
  have HNW : Hid (∀ (j : Nat) (u : Value), xs[j]? = some u → (w.alloc (.cells #[] 43)).cell? ((⟨b, o, none⟩ : Addr).add j) = some u) := Hid.mk fun j u hu => by
    rw [Addr.add_mid, World.cell?_alloc_lt _ _ ⟨b, o + j, none⟩ hb]
    exact hv j u hu
  clear hn hv
  have q22 : ∀ (w : World) (a : Option Addr) (n c n' c' : Nat), (binOp .eql 24 (.slice a n c) (.slice none n' c')).run Tryz.prog w = .ok (.bool a.isNone) w := fun w a n c n' c' => Lib.run_eql_slice_nil w _ _ a n c n' c' Tryz.underlying24
  go_enter Tryz.func9, Tryz.ntmps9
  go_wp2_with (at_builtin; refine wpList_append_own _ rfl _ _ 24 rfl w.heap.size 43 i0 _ 15 208 Tryz.underlying24 hi hz0 hz1 hz2 rfl (by decide) _ _ _ rfl (own_empty w _ _ _ (Nat.le_refl _)) ⟨b, o, none⟩ n c xs rfl HN.out HNW.out h1 ?c3 ?c4 ?c5 ?_)
  case c3 => unfold maxLen; omega
  case c4 => omega
  case c5 => simp
  intro v' w4 hown' hgrow _
  have hbl : Below w.heap.size w w4 := (below_box w _).grown hgrow (by simp) (fun q hq => by simp [Value.ownBlock] at hq; omega)
  have HO := Hid.mk (show w4.ownsRow w.heap.size 43 15 v' n xs by simpa using hown')
  clear hown' hgrow
  go_wp2
  go_ret
  exact ⟨_, rfl, HO.out, hbl⟩
end Go.Proofs.YtoncleppenggaaaGreatDoor.Pl

