import Derived.Test.YtoncleppenggaaaGreatDoorPlnR
import Derived.Shelf.SlMaps.Equal
import Derived.Deep.RegionLaw
set_option linter.unusedSimpArgs false
set_option linter.unusedVariables false
namespace Go.Proofs.YtoncleppenggaaaGreatDoor.Pl
open Go.RowKit Go.Maps Go.Shelf
open Fw (By FJob Flw ba strV encL zeroJ)

/-- Two maps held against each other: the library's contract, laid at this program. -/
def eqRen : Go.Shelf.Ren := ⟨fun | 7 => 10 | n => n, fun | 23 => 30 | 29 => 30 | 26 => 9 | 27 => 45 | 31 => 45 | 32 => 46 | 37 => 67 | 3 => 3 | 4 => 4 | 0 => 0 | n => n, fun | n => n⟩
theorem eqLays : SlLaysEq.n7 Tryz.prog eqRen := {
  mixed := by kernel_rfl
  f7 := ⟨Tryz.f10.name, by kernel_rfl, Tryz.func10.trans (congrArg some (by kernel_rfl))⟩
  t0 := Tryz.underlying0
  a0 := Tryz.isAgg0
  z0 := Tryz.sizeOf0
  v0 := Tryz.zeroValue0
  t3 := Tryz.underlying3
  a3 := Tryz.isAgg3
  z3 := Tryz.sizeOf3
  v3 := Tryz.zeroValue3
  t4 := Tryz.underlying4
  a4 := Tryz.isAgg4
  z4 := Tryz.sizeOf4
  v4 := Tryz.zeroValue4
  t23 := Tryz.underlying30
  a23 := Tryz.isAgg30
  z23 := Tryz.sizeOf30
  v23 := Tryz.zeroValue30
  a26 := Tryz.isAgg9
  z26 := Tryz.sizeOf9
  a27 := Tryz.isAgg45
  z27 := Tryz.sizeOf45
  t29 := Tryz.underlying30
  a29 := Tryz.isAgg30
  z29 := Tryz.sizeOf30
  v29 := Tryz.zeroValue30
  a31 := Tryz.isAgg45
  z31 := Tryz.sizeOf45
  t32 := Tryz.underlying46
  a32 := Tryz.isAgg46
  z32 := Tryz.sizeOf46
  v32 := Tryz.zeroValue46
  t37 := Tryz.underlying67
  a37 := Tryz.isAgg67
  z37 := Tryz.sizeOf67 }
theorem pickN (a : Int) (n : Nat) (w : World) (h0 : 0 < n) (h16 : n ≤ 16) :
    Calls Tryz.prog 8 #[.int .i64 a, .int .i64 (n : Nat)] w fun e w' => ∃ k : Nat, e = .returned (.int .i64 (k : Int)) ∧ k < n ∧ w' = w := by
  have hn : ¬ (IntKind.u64.wrap (n : Int)) = 0 := by unfold IntKind.wrap; simp [IntKind.signed, IntKind.bits]; omega
  have hn2 : IntKind.u64.wrap (n : Int) = (n : Int) := by unfold IntKind.wrap; simp [IntKind.signed, IntKind.bits]; omega
  have hnI : ¬ (n : Int) = 0 := by omega
  go_enter Tryz.func8, Tryz.ntmps8
  go_wp2
  go_ret
  have hX : IntKind.u64.wrap a = a % 18446744073709551616 := by unfold IntKind.wrap; simp [IntKind.signed, IntKind.bits]
  have h0 : 0 ≤ IntKind.u64.wrap a := by rw [hX]; omega
  have hm : (IntKind.u64.wrap a).tmod (n : Int) = (IntKind.u64.wrap a) % (n : Int) := Int.tmod_eq_emod_of_nonneg h0
  have hb1 := Int.emod_nonneg (IntKind.u64.wrap a) (show (n : Int) ≠ 0 by omega)
  have hb2 := Int.emod_lt_of_pos (IntKind.u64.wrap a) (show (0 : Int) < (n : Int) by omega)
  have hw : wrap64 ((IntKind.u64.wrap a).tmod (n : Int)) = ((IntKind.u64.wrap a % (n : Int)).toNat : Int) := by rw [hm]; unfold wrap64; omega
  refine ⟨(IntKind.u64.wrap a % (n : Int)).toNat, ?_, by omega, rfl⟩
  show Ending.returned (.int .i64 (wrap64 ((IntKind.u64.wrap a).tmod (n : Int)))) = _
  rw [hw]
/-- An append to a row of the call's own, as a step of a region in any order. -/
theorem step_append_own {P : Program} {ops : Array Oper} {o : Oper} {a : Act} {w : World} {K : Act → World → Prop} {Q : Exit → Act → World → Prop} {E : Prop} (hgd : o.guard = none) (s x : Operand) (t : TypeId)
    (ho : o.op = .call { callee := .builtin .append, args := #[s, x], argTypes := #[t, t] })
    (base : Nat) (e : TypeId) (i : TypeInfo) (z : Value) (size bytes : Nat) (ht : P.underlying t = some (.slice e)) (hi : P.info? e = some i) (hz : i.zero = some z)
    (hsize : i.size = size) (hby : i.bytes = bytes) (hzs : z.cells.size = size) (hsz : 0 < size)
    (v : Value) (n : Nat) (xs : List Value) (hs : a.eval s = v) (hown : w.ownsRow base e size v n xs)
    (ad : Addr) (m c : Nat) (news : List Value) (hx : a.eval x = .slice (some ad) m c) (hl : news.length = m * size) (hnews : ∀ j u, news[j]? = some u → w.cell? (ad.add j) = some u) (h1 : ∀ u ∈ news, u.oneCell' = true)
    (h63 : n + m ≤ maxLen) (hbytes : (n + m) * bytes ≤ 140737488355328) (hbase : base ≤ w.heap.size)
    (h : ∀ v' w', w'.ownsRow base e size v' (n + m) (xs ++ news) → w.grownBy w' v.ownBlock → (v' = .slice none 0 0 ↔ v = .slice none 0 0 ∧ m = 0) → K (a.put o.dst v') w') :
    if Region.wanted o (yielded ops a.tmps) = true then Oper.wp P o a w K Q else E := by
  rw [if_pos (by simp [Region.wanted, hgd])]
  exact wp_append_own w s x t ho base e i z size bytes ht hi hz hsize hby hzs hsz v n xs hs hown ad m c news hx hl hnews h1 h63 hbytes hbase h
set_option maxRecDepth 100000 in
set_option maxHeartbeats 800000 in
theorem cloneJob_in (b o n c : Nat) (xs : List Value) (w : World) (hn : xs.length = n * 15) (hn' : n ≤ 100) (hb : b < w.heap.size) (hv : w.rangeAt b o xs) (h1 : ∀ u ∈ xs, u.oneCell' = true) :
    Calls Tryz.prog 9 #[.slice (some ⟨b, o, none⟩) n c] w fun e w' => ∃ v, e = .returned v ∧ w'.ownsRow w.heap.size 43 15 v n xs ∧ Below w.heap.size w w' := by
  obtain ⟨i0, hi, hz0, hz1, hz2⟩ := info_parts Fw.Tryz.infoJob
  have HN := Hid.mk hn
  have HNW : Hid (∀ (j : Nat) (u : Value), xs[j]? = some u → (w.alloc (.cells #[] 43)).cell? ((⟨b, o, none⟩ : Addr).add j) = some u) := Hid.mk fun j u hu => by
    rw [Addr.add_mid, World.cell?_alloc_lt _ _ ⟨b, o + j, none⟩ hb]
    exact hv j u hu
  clear hn hv
  have q22 : ∀ (w : World) (a : Option Addr) (n c n' c' : Nat), (binOp .eql 24 (.slice a n c) (.slice none n' c')).run Tryz.prog w = .ok (.bool a.isNone) w := fun w a n c n' c' => Lib.run_eql_slice_nil w _ _ a n c n' c' Tryz.underlying24
  go_enter Tryz.func9, Tryz.ntmps9
  go_wp2_with (at_builtin; refine wpList_append_own _ rfl _ _ 24 rfl w.heap.size 43 i0 _ 15 208 Tryz.underlying24 hi hz0 hz1 hz2 rfl (by decide) _ _ _ rfl (own_empty w _ _ _ (Nat.le_refl _)) ⟨b, o, none⟩ n c xs rfl HN.out HNW.out h1 ?c3 ?c4 ?c5 ?_)
  case c3 => unfold maxLen; omega
  case c4 => omega
  case c5 => simp
  intro v' w4 hown' hgrow _
  have hbl : Below w.heap.size w w4 := (below_box w _).grown hgrow (by simp) (fun q hq => by simp [Value.ownBlock] at hq; omega)
  have HO := Hid.mk (show w4.ownsRow w.heap.size 43 15 v' n xs by simpa using hown')
  clear hown' hgrow
  go_wp2
  go_ret
  exact ⟨_, rfl, HO.out, hbl⟩
end Go.Proofs.YtoncleppenggaaaGreatDoor.Pl

namespace Go.Proofs.YtoncleppenggaaaGreatDoor.Pl
open Go.RowKit Go.Maps Go.Shelf
open Fw (By FJob Flw ba strV encL zeroJ)

open Classical in
/-- An element that is one of these, as it lies there. -/
noncomputable def Rsel (L : List Value) (v : Value) : Option (DataW Value × List MemPlace) := if v ∈ L then some (.held v, []) else none
theorem Rsel_some {L : List Value} {v : Value} {z : DataW Value × List MemPlace} (h : Rsel L v = some z) : v ∈ L ∧ z = (.held v, []) := by
  unfold Rsel at h
  split at h
  · rename_i hv
    exact ⟨hv, (Option.some.inj h).symm⟩
  · cases h
theorem Rsel_in {L : List Value} {v : Value} (h : v ∈ L) : Rsel L v = some (.held v, []) := by unfold Rsel; rw [if_pos h]
theorem lookA_some {A : AM} {n : By} {v : Value} (h : lookA A n = some v) : n ∈ keysA A ∧ v ∈ A.map (·.2) := by
  unfold lookA at h
  cases hf : A.find? fun x => x.1 == n with
  | none => rw [hf] at h; cases h
  | some x =>
    rw [hf] at h
    have hx := List.mem_of_find?_eq_some hf
    have hk := List.find?_some hf
    simp at hk
    obtain rfl := Option.some.inj h
    exact ⟨List.mem_map.2 ⟨x, hx, hk⟩, List.mem_map.2 ⟨x, hx, rfl⟩⟩
theorem entry_of {D : DataW Value} {A : AM} {es : List (Lit × DataW Value)} (hD : D = .map es) (hap : es.Pairwise (fun p q => p.1 ≠ q.1)) (hkeys : ∀ p ∈ es, WideAt.IsKeyLit p.1) (hs : Dk.Sees D (mvOf A)) {p : Lit × DataW Value} (hp : p ∈ es) : ∃ s v, p.1 = .string s ∧ lookA A s = some v ∧ p.2 = .held v := by
  subst hD
  have e2 := WideAt.atKey_mem (z := .nil) (hkeys p hp) hap hp
  have hh : has (DataW.map es) p.1 = true := List.any_eq_true.2 ⟨p, hp, WideAt.sameKey_self (hkeys p hp)⟩
  obtain ⟨h1, h2⟩ := hs.2 p.1
  rw [hh] at h1
  cases hm : mvOf A p.1 with
  | none => rw [hm] at h1; cases h1
  | some v =>
    have := h2 .nil
    rw [hm] at this
    cases hl : p.1 with
    | string s => exact ⟨s, v, rfl, by rw [hl] at hm; exact hm, by rw [← e2, this]⟩
    | _ => rw [hl] at hm; cases hm
theorem MapC.sel {w : World} {b : Nat} {A : AM} (h : MapC w b A) (L : List Value) (hL : ∀ v ∈ A.map (·.2), v ∈ L) : ∃ D, w.ownsMap Tryz.prog 9 (Rsel L) b A.length D ∧ Dk.Sees D (mvOf A) ∧ Maps.size D = A.length := by
  obtain ⟨D, h1, h2, h3⟩ := h.is
  obtain ⟨es0, hD, hap, hkeys⟩ := h1.entries keyedS
  obtain ⟨es, c, hb, F, hsz, hDe⟩ := h1
  have hmem : ∀ x ∈ es.toList, x.val ∈ L := by
    intro x hx
    obtain ⟨y, hy⟩ := F.reads x hx
    have hy2 : y.2 = .held x.val := by
      unfold WideElems.rd at hy
      simp only [Option.bind_eq_some_iff, Option.map_eq_some_iff] at hy
      obtain ⟨key, -, d, hd, rfl⟩ := hy
      have : Dk.Rv x.val = some (.held x.val, []) := rfl
      rw [this] at hd
      rw [← Option.some.inj hd]
    have hin : y ∈ es0 := by
      have e : es0 = (es.toList.map (WideElems.rg Tryz.prog 9 Dk.Rv)).foldr DataW.insert [] := by
        rw [hD] at hDe
        injection hDe
      rw [e, mem_sorted]
      refine List.mem_map.2 ⟨x, hx, ?_⟩
      unfold WideElems.rg
      rw [hy]; rfl
    obtain ⟨s, v, -, hl, hv⟩ := entry_of hD hap hkeys h2 hin
    rw [hy2] at hv
    injection hv with hv
    rw [hv]
    exact hL v (lookA_some hl).2
  obtain ⟨F', hrg, -⟩ := F.stay (R' := Rsel L) (fun x hx z hz => by
    rw [Rsel_in (hmem x hx)]
    have : Dk.Rv x.val = some (.held x.val, []) := rfl
    rw [this] at hz
    exact hz)
  exact ⟨D, ⟨es, c, hb, F', hsz, by rw [hDe, hrg]⟩, h2, h3⟩
theorem cols_ext {w : World} {b o : Nat} {c d : Cs} (hl : c.length = d.length) (h1 : ColsAt w b o c) (h2 : ColsAt w b o d) : c = d := by
  refine List.ext_getElem hl (fun i hi hj => ?_)
  have a := h1 i hi
  have b' := h2 i hj
  have e1 := Option.some.inj (a.1.symm.trans b'.1)
  have e2 := Option.some.inj (a.2.symm.trans b'.2)
  injection e1 with e1
  injection e2 with _ e2
  exact Prod.ext e1 e2
theorem colV_one {w : World} {u : Value} {c d : Cs} (h1 : ColV w u c) (h2 : ColV w u d) : c = d := by
  obtain ⟨b, o, k, rfl, -, -, h4⟩ := h1
  obtain ⟨b', o', k', e, -, -, h5⟩ := h2
  simp only [Value.slice.injEq, Option.some.injEq, Addr.mk.injEq, and_true] at e
  obtain ⟨⟨rfl, rfl⟩, hl, rfl⟩ := e
  exact cols_ext hl h4 h5
open Classical in
/-- Do these two hold the same columns? -/
noncomputable def eqD (w : World) : DataW Value → DataW Value → Bool
  | .held x, .held y => decide (∃ cs, ColV w x cs ∧ ColV w y cs)
  | _, _ => false
theorem eqD_true {w : World} {x y : Value} (h : ∃ cs, ColV w x cs ∧ ColV w y cs) : eqD w (.held x) (.held y) = true := by
  classical
  unfold eqD
  exact decide_eq_true h
theorem eqD_false {w : World} {x y : Value} (h : ¬ ∃ cs, ColV w x cs ∧ ColV w y cs) : eqD w (.held x) (.held y) = false := by
  classical
  unfold eqD
  exact decide_eq_false h
theorem grown_of {w w' : World} (h : Below w.heap.size w w') : w.grownBy w' none := ⟨h.os, h.tape, h.output, h.size, fun i hi _ => h.block i hi⟩
theorem below_of {w w' : World} (h : w.grownBy w' none) : Below w.heap.size w w' := ⟨h.os, h.tape, h.output, h.size, fun i hi => h.block i hi (by simp)⟩
set_option maxHeartbeats 400000 in
theorem turns1_any (x y : Value) (r : Bool) (w : World) (h : Calls Tryz.prog 12 #[x, y] w fun e w' => e = .returned (.bool r) ∧ Below w.heap.size w w') :
    Calls Tryz.prog 11 #[x, y] w fun e w' => e = .returned (.bool r) ∧ Below w.heap.size w w' := by
  have H := Hid.mk h
  clear h
  go_enter Tryz.func11, Tryz.ntmps11
  go_wp2_with (first | (go_at_call 12; refine H.out.mono ?_; rintro e w2 ⟨rfl, hb2⟩))
  go_ret
  exact ⟨rfl, hb2⟩
set_option maxHeartbeats 400000 in
theorem eq_nil (b o n c : Nat) (w : World) (hn : 0 < n) (h6 : n ≤ 6) : Calls Tryz.prog 12 #[.slice (some ⟨b, o, none⟩) n c, .slice none 0 0] w fun e w' => e = .returned (.bool false) ∧ Below w.heap.size w w' := by
  have h1 : ((n : Int) != 0) = true := by simp; omega
  have h2 : ¬ (n : Int) = 0 := by omega
  go_enter Tryz.func12, Tryz.ntmps12
  go_wp2
  go_ret
  exact ⟨rfl, Below.refl _ _⟩
theorem eq_cols {w W : World} {x y : Value} {c d : Cs} (hW : Below w.heap.size w W) (hx : ColV w x c) (hy : ColV w y d) (hc : CsOK c) (hd : CsOK d) : Calls Tryz.prog 12 #[x, y] W fun e w' => e = .returned (.bool (eqD w (.held x) (.held y))) ∧ Below W.heap.size W w' := by
  obtain ⟨b, o, k, hxe, -, hb, h4⟩ := hx.below hW
  obtain ⟨b', o', k', hye, -, hb', h5⟩ := hy.below hW
  by_cases e : c = d
  · subst e
    have he : eqD w (.held x) (.held y) = true := eqD_true ⟨c, hx, hy⟩
    rw [he, hxe, hye]
    exact eqC_in b o k b' o' k' _ c W rfl (by have := hc.2.1; omega) hb hb' h4 h5
  · have he : eqD w (.held x) (.held y) = false := by
      refine eqD_false ?_
      rintro ⟨cs, q1, q2⟩
      exact e ((colV_one hx q1).trans (colV_one hy q2).symm)
    rw [he, hxe, hye]
    exact eqC_ne b o k b' o' k' _ _ c d W rfl rfl (by have := hc.2.1; omega) (by have := hd.2.1; omega) hb hb' h4 h5 e
theorem Holds2.val {w : World} {A : AM} {m : CM} (h : Holds2 w A m) (hok : ∀ c ∈ m, CsOK c.2) {v : Value} (hv : v ∈ A.map (·.2)) : ∃ cs, ColV w v cs ∧ CsOK cs := by
  induction A generalizing m with
  | nil => cases hv
  | cons a A ih => cases m with
    | nil => exact h.elim
    | cons c m =>
      rcases List.mem_cons.1 hv with rfl | hv
      · exact ⟨c.2, h.1.2, hok c (by simp)⟩
      · exact ih h.2 (fun x hx => hok x (by simp [hx])) hv
set_option maxRecDepth 100000 in
theorem eqMaps {w : World} {b1 b2 : Nat} {A1 A2 : AM} {m1 m2 : CM} (h1 : MapC w b1 A1) (h2 : MapC w b2 A2) (H1 : Holds2 w A1 m1) (H2 : Holds2 w A2 m2) (o1 : ∀ c ∈ m1, CsOK c.2) (o2 : ∀ c ∈ m2, CsOK c.2) (hlook : ∀ n, lookM m1 n = lookM m2 n) (hlen : m1.length = m2.length) :
    Calls Tryz.prog 10 #[.map (some b1), .map (some b2), .func (.func 11) #[] #[]] w fun e w' => e = .returned (.bool true) ∧ Below w.heap.size w w' := by
  obtain ⟨L1, hL1⟩ : ∃ L1 : List Value, L1 = A1.map (·.2) := ⟨_, rfl⟩
  obtain ⟨L2, hL2⟩ : ∃ L2 : List Value, L2 = A2.map (·.2) := ⟨_, rfl⟩
  obtain ⟨D1, p1, p2, p3⟩ := h1.sel L1 (fun v hv => by rw [hL1]; exact hv)
  obtain ⟨D2, q1, q2, q3⟩ := h2.sel (.slice none 0 0 :: L2) (fun v hv => List.mem_cons_of_mem _ (by rw [hL2]; exact hv))
  have hres : Lib.equalFuncD (eqD w) D1 D2 = true := by
    obtain ⟨es, hD, hap, hkeys⟩ := p1.entries keyedS
    unfold Lib.equalFuncD
    have l1 : A1.length = m1.length := by have := congrArg List.length H1.keys; simpa [keysA, keysM] using this
    have l2 : A2.length = m2.length := by have := congrArg List.length H2.keys; simpa [keysA, keysM] using this
    rw [decide_eq_true (show Maps.size D1 = Maps.size D2 by rw [p3, q3, l1, l2, hlen]), Bool.true_and, List.all_eq_true]
    intro p hp
    have hp2 : p ∈ es := by rw [hD] at hp; exact hp
    obtain ⟨s, v, e1, e2, e3⟩ := entry_of hD hap hkeys p2 hp2
    obtain ⟨u, cs, a1, a2, a3, -⟩ := H1.look (n := s) (by rw [← H1.keys]; exact (lookA_some e2).1)
    obtain rfl : v = u := Option.some.inj (e2.symm.trans a1)
    have hs2 : s ∈ keysM m2 := by
      by_cases hn : s ∈ keysM m2
      · exact hn
      · have := lookM_none hn
        rw [← hlook, a2] at this
        cases this
    obtain ⟨u2, cs2, c1, c2, c3, -⟩ := H2.look hs2
    obtain rfl : cs = cs2 := Option.some.inj (by rw [← a2, hlook, c2])
    obtain ⟨d1, d2⟩ := q2.2 (.string s)
    have hm2 : mvOf A2 (.string s) = some u2 := c1
    rw [hm2] at d1 d2
    unfold Lib.goodD
    rw [e1, d1, e3, d2 .nil]
    show (true && eqD w (.held v) (.held u2)) = true
    rw [Bool.true_and]
    exact eqD_true ⟨cs, a3, c3⟩
  have := AnyEq.maps_EqualFunc eqLays keyedS (Rsel L1) (Rsel (.slice none 0 0 :: L2)) (eqD w) 11 #[] b1 b2 A1.length A2.length D1 D2 w (enters_of Tryz.func11 (by kernel_rfl) rfl) p1 q1 (.slice none 0 0) (fun w => by kernel_rfl) (.held (.slice none 0 0)) [] (Rsel_in (by simp)) (fun W x y xd yd xp yp hW hx hy => by
      obtain ⟨hx1, hx2⟩ := Rsel_some hx
      obtain ⟨hy1, hy2⟩ := Rsel_some hy
      injection hx2 with hx2 _
      injection hy2 with hy2 _
      subst hx2 hy2
      obtain ⟨c, hcv, hck⟩ := H1.val o1 (by rw [← hL1]; exact hx1)
      have hbW := below_of hW
      refine (turns1_any x y (eqD w (.held x) (.held y)) W ?_).mono (fun e w' ⟨q, hb⟩ => ⟨q, grown_of hb⟩)
      rcases List.mem_cons.1 hy1 with rfl | hy1
      · have he : eqD w (.held x) (.held (.slice none 0 0)) = false := by
          refine eqD_false ?_
          rintro ⟨cs, -, ⟨b, o, k, q, -⟩⟩
          cases q
        rw [he]
        obtain ⟨b, o, k, rfl, -⟩ := hcv
        exact eq_nil b o _ k W hck.1 hck.2.1
      · obtain ⟨d, hdv, hdk⟩ := H2.val o2 (by rw [← hL2]; exact hy1)
        exact eq_cols hbW hcv hdv hck hdk)
  refine this.mono ?_
  rintro e w' ⟨rfl, hb⟩
  exact ⟨by rw [hres], below_of hb⟩
end Go.Proofs.YtoncleppenggaaaGreatDoor.Pl

namespace Go.Proofs.YtoncleppenggaaaGreatDoor.Pl
open Go.RowKit Go.Maps Go.Shelf
open Fw (By FJob Flw ba strV encL zeroJ)

theorem CheckOK.one {f : Flw} {o o' : List Nat} {m m' : CM} (h : CheckOK f o m) (h' : CheckOK f o' m') : o = o' ∧ m = m' := by
  have e : o = o' := Option.some.inj (h.2.1.symm.trans h'.2.1)
  subst e
  exact ⟨rfl, Option.some.inj (h.2.2.symm.trans h'.2.2)⟩
theorem Fine.turn {f g : Flw} (h : Fine f) (hi : g.ins = f.ins) (hp : g.jobs.Perm f.jobs) (ho : g.outs = f.outs) : Fine g :=
  have hm := made_perm hi hp
  ⟨fun i hi2 => h.cols i (by rw [← hi]; exact hi2), hm.nodup_iff.2 h.nodup, fun j hj n hn => hm.mem_iff.2 (h.reads j (hp.mem_iff.1 hj) n hn), fun o ho2 => hm.mem_iff.2 (h.outs o (by rw [← ho]; exact ho2)), by rw [ho]; exact h.told⟩
/-- With its jobs in another order nothing is found, and the columns are the same. -/
theorem turn_ok {f g : Flw} {o : List Nat} {m : CM} (h : CheckOK f o m) (hi : g.ins = f.ins) (hp : g.jobs.Perm f.jobs) (ho : g.outs = f.outs) : ∃ o' m', CheckOK g o' m' ∧ (∀ n, lookM m n = lookM m' n) ∧ m.length = m'.length := by
  have hg := ordF_good h.2.1
  obtain ⟨hj, ht⟩ := hg.jobs
  obtain ⟨o', ho'⟩ := ordF_total (f := g) (jobsO f o) (fun j => (hj j).trans hp.mem_iff.symm) (by rw [hi]; exact ht)
  obtain ⟨hS, hk⟩ := run_sol h.1.nodup hg h.2.2
  obtain ⟨m', hm', hl, hk'⟩ := sol_run (hS.turn hi hp) (ordF_good ho')
  refine ⟨o', m', ⟨h.1.turn hi hp ho, ho', hm'⟩, fun n => (hl n).symm, ?_⟩
  have e1 := hk.length_eq
  have e2 := hk'.length_eq
  have e3 := (made_perm hi hp).length_eq
  simp only [keysM, List.length_map] at e1 e2
  omega
def rotF (f : Flw) (k : Nat) : Flw := ⟨f.ins, f.jobs.drop k ++ f.jobs.take k, f.outs⟩
theorem rot_perm (f : Flw) (k : Nat) : (rotF f k).jobs.Perm f.jobs := by
  show (f.jobs.drop k ++ f.jobs.take k).Perm f.jobs
  have := List.perm_append_comm (l₁ := f.jobs.drop k) (l₂ := f.jobs.take k)
  rwa [List.take_append_drop] at this
theorem rot_len (f : Flw) (k : Nat) : (rotF f k).jobs.length = f.jobs.length := (rot_perm f k).length_eq
theorem rot_ok {f : Flw} (h : Fw.FlwOK f) (k : Nat) : Fw.FlwOK (rotF f k) := ⟨h.ins, fun a ha => h.jobs a ((rot_perm f k).mem_iff.1 ha), h.outs, h.il, by rw [rot_len]; exact h.jl, h.ol⟩
theorem flat_len15 (F : Nat → List Value) : ∀ (I : List Nat), (∀ x ∈ I, (F x).length = 15) → (I.flatMap F).length = I.length * 15
  | [], _ => rfl
  | a :: r, h => by
    rw [List.flatMap_cons, List.length_append, h a (by simp), flat_len15 F r (fun x hx => h x (by simp [hx])), List.length_cons]
    omega
theorem flat_at15 (F : Nat → List Value) : ∀ (I : List Nat), (∀ x ∈ I, (F x).length = 15) → ∀ (p : Nat) (hp : p < I.length) (r : Nat), r < 15 → (I.flatMap F)[p * 15 + r]? = (F I[p])[r]?
  | [], _, p, hp, _, _ => absurd hp (by simp)
  | a :: l, h, 0, hp, r, hr => by
    rw [List.flatMap_cons, Nat.zero_mul, Nat.zero_add, List.getElem?_append_left (by rw [h a (by simp)]; exact hr)]
    rfl
  | a :: l, h, p + 1, hp, r, hr => by
    have ha := h a (by simp)
    rw [List.flatMap_cons, List.getElem?_append_right (by rw [ha]; omega), ha, show (p + 1) * 15 + r - 15 = p * 15 + r by omega, flat_at15 F l (fun x hx => h x (by simp [hx])) p (by simpa using hp) r hr]
    rfl
/-- A job's cells. -/
structure JC (w : World) (b : Nat) (l : List FJob) (j : Nat) (xs : List Value) : Prop where
  len : xs.length = 15
  one : ∀ u ∈ xs, u.oneCell' = true
  at_ : w.rangeAt b (j * 15) xs
  job : ∃ a vo vi vc, l[j]? = some a ∧ xs = Fw.jobV a vo vi vc ∧ Fw.StrsR w vo a.outs ∧ Fw.StrsR w vi a.ins ∧ Fw.StrsR w vc a.cols
theorem jobs_cells {w : World} {b n : Nat} {l : List FJob} (h : ∀ j, j < n → Fw.JobCellsAt l j w b (j * 15)) : ∃ F : Nat → List Value, ∀ j, j < n → JC w b l j (F j) := by
  have ex : ∀ j, j < n → ∃ xs, JC w b l j xs := fun j hj => by
    obtain ⟨a, vo, vi, vc, h1, h2, h3, h4, h5⟩ := h j hj
    refine ⟨Fw.jobV a vo vi vc, rfl, fun u hu => ?_, fun i u hu => h2 i u hu, a, vo, vi, vc, h1, rfl, h3, h4, h5⟩
    have := jobV_one h3 h4 h5
    rw [Array.all_eq_true] at this
    obtain ⟨i, hi, rfl⟩ := List.mem_iff_getElem.1 hu
    exact this i (by simpa using hi)
  classical
  exact ⟨fun j => if hj : j < n then Classical.choose (ex j hj) else [], fun j hj => by simp only [dif_pos hj]; exact Classical.choose_spec (ex j hj)⟩
theorem part_cells {w : World} {b n s m : Nat} {l : List FJob} {F : Nat → List Value} (h : ∀ j, j < n → JC w b l j (F j)) (hs : s + m ≤ n) : ((List.range' s m).flatMap F).length = m * 15 ∧ w.rangeAt b (s * 15) ((List.range' s m).flatMap F) ∧ ∀ u ∈ (List.range' s m).flatMap F, u.oneCell' = true := by
  have hlen : ∀ x ∈ List.range' s m, (F x).length = 15 := fun x hx => (h x (by have := List.mem_range'_1.1 hx; omega)).len
  have hl := flat_len15 F _ hlen
  rw [List.length_range'] at hl
  refine ⟨hl, fun j v hv => ?_, fun u hu => ?_⟩
  · have hj : j < m * 15 := by rw [← hl]; exact (List.getElem?_eq_some_iff.1 hv).1
    have hp : j / 15 < (List.range' s m).length := by rw [List.length_range']; omega
    have e := flat_at15 F _ hlen (j / 15) hp (j % 15) (Nat.mod_lt _ (by decide))
    rw [show j / 15 * 15 + j % 15 = j by omega, hv] at e
    have e2 : (List.range' s m)[j / 15] = s + j / 15 := by simp
    rw [e2] at e
    have := (h (s + j / 15) (by rw [List.length_range'] at hp; omega)).at_ (j % 15) v e.symm
    rw [show (s + j / 15) * 15 + j % 15 = s * 15 + j by omega] at this
    exact this
  · obtain ⟨x, hx, hu2⟩ := List.mem_flatMap.1 hu
    exact (h x (by have := List.mem_range'_1.1 hx; omega)).one u hu2
theorem rot_at {f : Flw} {k p : Nat} (hk : k ≤ f.jobs.length) (hp : p < f.jobs.length) : ∃ (h : p < (List.range' k (f.jobs.length - k) ++ List.range' 0 k).length), (List.range' k (f.jobs.length - k) ++ List.range' 0 k)[p] < f.jobs.length ∧ (rotF f k).jobs[p]? = f.jobs[(List.range' k (f.jobs.length - k) ++ List.range' 0 k)[p]]? := by
  have hl : p < (List.range' k (f.jobs.length - k) ++ List.range' 0 k).length := by simp; omega
  refine ⟨hl, ?_⟩
  by_cases h : p < f.jobs.length - k
  · have e : (List.range' k (f.jobs.length - k) ++ List.range' 0 k)[p] = k + p := by
      rw [List.getElem_append_left (by simpa using h)]; simp
    rw [e]
    refine ⟨by omega, ?_⟩
    show (f.jobs.drop k ++ f.jobs.take k)[p]? = _
    rw [List.getElem?_append_left (by simpa using h), List.getElem?_drop]
  · have e : (List.range' k (f.jobs.length - k) ++ List.range' 0 k)[p] = p - (f.jobs.length - k) := by
      rw [List.getElem_append_right (by simpa using h)]; simp
    rw [e]
    refine ⟨by omega, ?_⟩
    show (f.jobs.drop k ++ f.jobs.take k)[p]? = _
    rw [List.getElem?_append_right (by simpa using h), List.length_drop, List.getElem?_take, if_pos (by omega)]
/-- The flow with its jobs in another order, in memory. -/
theorem rot_flow {w w' : World} {B b c k : Nat} {f : Flw} {vi vo gv : Value} {F : Nat → List Value} (hF : ∀ j, j < f.jobs.length → JC w b f.jobs j (F j)) (hk : k < f.jobs.length) (hin : Fw.RowR w vi f.ins.length 3 (Fw.InAt f.ins)) (hout : Fw.RowR w vo f.outs.length 3 (Fw.OutAt f.outs)) (hb : Below w.heap.size w w')
    (hg : w'.ownsRow B 43 15 gv f.jobs.length ((List.range' k (f.jobs.length - k)).flatMap F ++ (List.range' 0 k).flatMap F)) : Fw.FlowRd w' (rotF f k) vi gv vo := by
  refine ⟨hin.below hb fun _ _ _ hh hl => hh.below hb hl, ?_, hout.below hb fun _ _ _ hh hl => hh.below hb hl⟩
  rw [rot_len]
  refine Fw.RowR.of hg fun b' hc p hp => ?_
  obtain ⟨hl, h1, h2⟩ := rot_at (Nat.le_of_lt hk) hp
  obtain ⟨a, vo', vi', vc', j1, j2, j3, j4, j5⟩ := (hF _ h1).job
  refine ⟨a, vo', vi', vc', h2.trans j1, fun i u hu => ?_, j3.below hb, j4.below hb, j5.below hb⟩
  have hi : i < 15 := (List.getElem?_eq_some_iff.1 hu).1
  have hlen : ∀ x ∈ List.range' k (f.jobs.length - k) ++ List.range' 0 k, (F x).length = 15 := fun x hx => by
    refine (hF x ?_).len
    rcases List.mem_append.1 hx with hx | hx
    · have := List.mem_range'_1.1 hx; omega
    · have := List.mem_range'_1.1 hx; omega
  have e := flat_at15 F _ hlen p hl i hi
  rw [List.flatMap_append, j2, hu] at e
  exact hc (p * 15 + i) u (by omega) e
end Go.Proofs.YtoncleppenggaaaGreatDoor.Pl

