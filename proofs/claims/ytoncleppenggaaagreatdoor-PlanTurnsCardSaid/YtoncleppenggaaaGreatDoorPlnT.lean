import Derived.Test.YtoncleppenggaaaGreatDoorPlnS
set_option linter.unusedSimpArgs false
set_option linter.unusedVariables false
namespace Go.Proofs.YtoncleppenggaaaGreatDoor.Pl
open Go.RowKit Go.Maps Go.Shelf
open Fw (By FJob Flw ba strV encL zeroJ)

open Classical in
/-- An element that is one of these, as it lies there. -/
noncomputable def Rsel (L : List Value) (v : Value) : Option (DataW Value × List MemPlace) := if v ∈ L then some (.held v, []) else none
theorem Rsel_some {L : List Value} {v : Value} {z : DataW Value × List MemPlace} (h : Rsel L v = some z) : v ∈ L ∧ z = (.held v, []) := by
  unfold Rsel at h
  split at h
  · rename_i hv
    exact ⟨hv, (Option.some.inj h).symm⟩
  · cases h
theorem Rsel_in {L : List Value} {v : Value} (h : v ∈ L) : Rsel L v = some (.held v, []) := by unfold Rsel; rw [if_pos h]
theorem lookA_some {A : AM} {n : By} {v : Value} (h : lookA A n = some v) : n ∈ keysA A ∧ v ∈ A.map (·.2) := by
  unfold lookA at h
  cases hf : A.find? fun x => x.1 == n with
  | none => rw [hf] at h; cases h
  | some x =>
    rw [hf] at h
    have hx := List.mem_of_find?_eq_some hf
    have hk := List.find?_some hf
    simp at hk
    obtain rfl := Option.some.inj h
    exact ⟨List.mem_map.2 ⟨x, hx, hk⟩, List.mem_map.2 ⟨x, hx, rfl⟩⟩
theorem entry_of {D : DataW Value} {A : AM} {es : List (Lit × DataW Value)} (hD : D = .map es) (hap : es.Pairwise (fun p q => p.1 ≠ q.1)) (hkeys : ∀ p ∈ es, WideAt.IsKeyLit p.1) (hs : Dk.Sees D (mvOf A)) {p : Lit × DataW Value} (hp : p ∈ es) : ∃ s v, p.1 = .string s ∧ lookA A s = some v ∧ p.2 = .held v := by
  subst hD
  have e2 := WideAt.atKey_mem (z := .nil) (hkeys p hp) hap hp
  have hh : has (DataW.map es) p.1 = true := List.any_eq_true.2 ⟨p, hp, WideAt.sameKey_self (hkeys p hp)⟩
  obtain ⟨h1, h2⟩ := hs.2 p.1
  rw [hh] at h1
  cases hm : mvOf A p.1 with
  | none => rw [hm] at h1; cases h1
  | some v =>
    have := h2 .nil
    rw [hm] at this
    cases hl : p.1 with
    | string s => exact ⟨s, v, rfl, by rw [hl] at hm; exact hm, by rw [← e2, this]⟩
    | _ => rw [hl] at hm; cases hm
theorem MapC.sel {w : World} {b : Nat} {A : AM} (h : MapC w b A) (L : List Value) (hL : ∀ v ∈ A.map (·.2), v ∈ L) : ∃ D, w.ownsMap Tryz.prog 9 (Rsel L) b A.length D ∧ Dk.Sees D (mvOf A) ∧ Maps.size D = A.length := by
  obtain ⟨D, h1, h2, h3⟩ := h.is
  obtain ⟨es0, hD, hap, hkeys⟩ := h1.entries keyedS
  obtain ⟨es, c, hb, F, hsz, hDe⟩ := h1
  have hmem : ∀ x ∈ es.toList, x.val ∈ L := by
    intro x hx
    obtain ⟨y, hy⟩ := F.reads x hx
    have hy2 : y.2 = .held x.val := by
      unfold WideElems.rd at hy
      simp only [Option.bind_eq_some_iff, Option.map_eq_some_iff] at hy
      obtain ⟨key, -, d, hd, rfl⟩ := hy
      have : Dk.Rv x.val = some (.held x.val, []) := rfl
      rw [this] at hd
      rw [← Option.some.inj hd]
    have hin : y ∈ es0 := by
      have e : es0 = (es.toList.map (WideElems.rg Tryz.prog 9 Dk.Rv)).foldr DataW.insert [] := by
        rw [hD] at hDe
        injection hDe
      rw [e, mem_sorted]
      refine List.mem_map.2 ⟨x, hx, ?_⟩
      unfold WideElems.rg
      rw [hy]; rfl
    obtain ⟨s, v, -, hl, hv⟩ := entry_of hD hap hkeys h2 hin
    rw [hy2] at hv
    injection hv with hv
    rw [hv]
    exact hL v (lookA_some hl).2
  obtain ⟨F', hrg, -⟩ := F.stay (R' := Rsel L) (fun x hx z hz => by
    rw [Rsel_in (hmem x hx)]
    have : Dk.Rv x.val = some (.held x.val, []) := rfl
    rw [this] at hz
    exact hz)
  exact ⟨D, ⟨es, c, hb, F', hsz, by rw [hDe, hrg]⟩, h2, h3⟩
theorem cols_ext {w : World} {b o : Nat} {c d : Cs} (hl : c.length = d.length) (h1 : ColsAt w b o c) (h2 : ColsAt w b o d) : c = d := by
  refine List.ext_getElem hl (fun i hi hj => ?_)
  have a := h1 i hi
  have b' := h2 i hj
  have e1 := Option.some.inj (a.1.symm.trans b'.1)
  have e2 := Option.some.inj (a.2.symm.trans b'.2)
  injection e1 with e1
  injection e2 with _ e2
  exact Prod.ext e1 e2
theorem colV_one {w : World} {u : Value} {c d : Cs} (h1 : ColV w u c) (h2 : ColV w u d) : c = d := by
  obtain ⟨b, o, k, rfl, -, -, h4⟩ := h1
  obtain ⟨b', o', k', e, -, -, h5⟩ := h2
  simp only [Value.slice.injEq, Option.some.injEq, Addr.mk.injEq, and_true] at e
  obtain ⟨⟨rfl, rfl⟩, hl, rfl⟩ := e
  exact cols_ext hl h4 h5
open Classical in
/-- Do these two hold the same columns? -/
noncomputable def eqD (w : World) : DataW Value → DataW Value → Bool
  | .held x, .held y => decide (∃ cs, ColV w x cs ∧ ColV w y cs)
  | _, _ => false
theorem eqD_true {w : World} {x y : Value} (h : ∃ cs, ColV w x cs ∧ ColV w y cs) : eqD w (.held x) (.held y) = true := by
  classical
  unfold eqD
  exact decide_eq_true h
theorem eqD_false {w : World} {x y : Value} (h : ¬ ∃ cs, ColV w x cs ∧ ColV w y cs) : eqD w (.held x) (.held y) = false := by
  classical
  unfold eqD
  exact decide_eq_false h
theorem grown_of {w w' : World} (h : Below w.heap.size w w') : w.grownBy w' none := ⟨h.os, h.tape, h.output, h.size, fun i hi _ => h.block i hi⟩
theorem below_of {w w' : World} (h : w.grownBy w' none) : Below w.heap.size w w' := ⟨h.os, h.tape, h.output, h.size, fun i hi => h.block i hi (by simp)⟩
set_option maxHeartbeats 400000 in
theorem turns1_any (x y : Value) (r : Bool) (w : World) (h : Calls Tryz.prog 12 #[x, y] w fun e w' => e = .returned (.bool r) ∧ Below w.heap.size w w') :
    Calls Tryz.prog 11 #[x, y] w fun e w' => e = .returned (.bool r) ∧ Below w.heap.size w w' := by
  have H := Hid.mk h
  clear h
  go_enter Tryz.func11, Tryz.ntmps11
  go_wp2_with (first | (go_at_call 12; refine H.out.mono ?_; rintro e w2 ⟨rfl, hb2⟩))
  go_ret
  exact ⟨rfl, hb2⟩
set_option maxHeartbeats 400000 in
theorem eq_nil (b o n c : Nat) (w : World) (hn : 0 < n) (h6 : n ≤ 6) : Calls Tryz.prog 12 #[.slice (some ⟨b, o, none⟩) n c, .slice none 0 0] w fun e w' => e = .returned (.bool false) ∧ Below w.heap.size w w' := by
  have h1 : ((n : Int) != 0) = true := by simp; omega
  have h2 : ¬ (n : Int) = 0 := by omega
  go_enter Tryz.func12, Tryz.ntmps12
  go_wp2
  go_ret
  exact ⟨rfl, Below.refl _ _⟩
theorem eq_cols {w W : World} {x y : Value} {c d : Cs} (hW : Below w.heap.size w W) (hx : ColV w x c) (hy : ColV w y d) (hc : CsOK c) (hd : CsOK d) : Calls Tryz.prog 12 #[x, y] W fun e w' => e = .returned (.bool (eqD w (.held x) (.held y))) ∧ Below W.heap.size W w' := by
  obtain ⟨b, o, k, hxe, -, hb, h4⟩ := hx.below hW
  obtain ⟨b', o', k', hye, -, hb', h5⟩ := hy.below hW
  by_cases e : c = d
  · subst e
    have he : eqD w (.held x) (.held y) = true := eqD_true ⟨c, hx, hy⟩
    rw [he, hxe, hye]
    exact eqC_in b o k b' o' k' _ c W rfl (by have := hc.2.1; omega) hb hb' h4 h5
  · have he : eqD w (.held x) (.held y) = false := by
      refine eqD_false ?_
      rintro ⟨cs, q1, q2⟩
      exact e ((colV_one hx q1).trans (colV_one hy q2).symm)
    rw [he, hxe, hye]
    exact eqC_ne b o k b' o' k' _ _ c d W rfl rfl (by have := hc.2.1; omega) (by have := hd.2.1; omega) hb hb' h4 h5 e
theorem Holds2.val {w : World} {A : AM} {m : CM} (h : Holds2 w A m) (hok : ∀ c ∈ m, CsOK c.2) {v : Value} (hv : v ∈ A.map (·.2)) : ∃ cs, ColV w v cs ∧ CsOK cs := by
  induction A generalizing m with
  | nil => cases hv
  | cons a A ih => cases m with
    | nil => exact h.elim
    | cons c m =>
      rcases List.mem_cons.1 hv with rfl | hv
      · exact ⟨c.2, h.1.2, hok c (by simp)⟩
      · exact ih h.2 (fun x hx => hok x (by simp [hx])) hv
set_option maxRecDepth 100000 in
theorem eqMaps {w : World} {b1 b2 : Nat} {A1 A2 : AM} {m1 m2 : CM} (h1 : MapC w b1 A1) (h2 : MapC w b2 A2) (H1 : Holds2 w A1 m1) (H2 : Holds2 w A2 m2) (o1 : ∀ c ∈ m1, CsOK c.2) (o2 : ∀ c ∈ m2, CsOK c.2) (hlook : ∀ n, lookM m1 n = lookM m2 n) (hlen : m1.length = m2.length) :
    Calls Tryz.prog 10 #[.map (some b1), .map (some b2), .func (.func 11) #[] #[]] w fun e w' => e = .returned (.bool true) ∧ Below w.heap.size w w' := by
  obtain ⟨L1, hL1⟩ : ∃ L1 : List Value, L1 = A1.map (·.2) := ⟨_, rfl⟩
  obtain ⟨L2, hL2⟩ : ∃ L2 : List Value, L2 = A2.map (·.2) := ⟨_, rfl⟩
  obtain ⟨D1, p1, p2, p3⟩ := h1.sel L1 (fun v hv => by rw [hL1]; exact hv)
  obtain ⟨D2, q1, q2, q3⟩ := h2.sel (.slice none 0 0 :: L2) (fun v hv => List.mem_cons_of_mem _ (by rw [hL2]; exact hv))
  have hres : Lib.equalFuncD (eqD w) D1 D2 = true := by
    obtain ⟨es, hD, hap, hkeys⟩ := p1.entries keyedS
    unfold Lib.equalFuncD
    have l1 : A1.length = m1.length := by have := congrArg List.length H1.keys; simpa [keysA, keysM] using this
    have l2 : A2.length = m2.length := by have := congrArg List.length H2.keys; simpa [keysA, keysM] using this
    rw [decide_eq_true (show Maps.size D1 = Maps.size D2 by rw [p3, q3, l1, l2, hlen]), Bool.true_and, List.all_eq_true]
    intro p hp
    have hp2 : p ∈ es := by rw [hD] at hp; exact hp
    obtain ⟨s, v, e1, e2, e3⟩ := entry_of hD hap hkeys p2 hp2
    obtain ⟨u, cs, a1, a2, a3, -⟩ := H1.look (n := s) (by rw [← H1.keys]; exact (lookA_some e2).1)
    obtain rfl : v = u := Option.some.inj (e2.symm.trans a1)
    have hs2 : s ∈ keysM m2 := by
      by_cases hn : s ∈ keysM m2
      · exact hn
      · have := lookM_none hn
        rw [← hlook, a2] at this
        cases this
    obtain ⟨u2, cs2, c1, c2, c3, -⟩ := H2.look hs2
    obtain rfl : cs = cs2 := Option.some.inj (by rw [← a2, hlook, c2])
    obtain ⟨d1, d2⟩ := q2.2 (.string s)
    have hm2 : mvOf A2 (.string s) = some u2 := c1
    rw [hm2] at d1 d2
    unfold Lib.goodD
    rw [e1, d1, e3, d2 .nil]
    show (true && eqD w (.held v) (.held u2)) = true
    rw [Bool.true_and]
    exact eqD_true ⟨cs, a3, c3⟩
  have := AnyEq.maps_EqualFunc eqLays keyedS (Rsel L1) (Rsel (.slice none 0 0 :: L2)) (eqD w) 11 #[] b1 b2 A1.length A2.length D1 D2 w (enters_of Tryz.func11 (by kernel_rfl) rfl) p1 q1 (.slice none 0 0) (fun w => by kernel_rfl) (.held (.slice none 0 0)) [] (Rsel_in (by simp)) (fun W x y xd yd xp yp hW hx hy => by
      obtain ⟨hx1, hx2⟩ := Rsel_some hx
      obtain ⟨hy1, hy2⟩ := Rsel_some hy
      injection hx2 with hx2 _
      injection hy2 with hy2 _
      subst hx2 hy2
      obtain ⟨c, hcv, hck⟩ := H1.val o1 (by rw [← hL1]; exact hx1)
      have hbW := below_of hW
      refine (turns1_any x y (eqD w (.held x) (.held y)) W ?_).mono (fun e w' ⟨q, hb⟩ => ⟨q, grown_of hb⟩)
      rcases List.mem_cons.1 hy1 with rfl | hy1
      · have he : eqD w (.held x) (.held (.slice none 0 0)) = false := by
          refine eqD_false ?_
          rintro ⟨cs, -, ⟨b, o, k, q, -⟩⟩
          cases q
        rw [he]
        obtain ⟨b, o, k, rfl, -⟩ := hcv
        exact eq_nil b o _ k W hck.1 hck.2.1
      · obtain ⟨d, hdv, hdk⟩ := H2.val o2 (by rw [← hL2]; exact hy1)
        exact eq_cols hbW hcv hdv hck hdk)
  refine this.mono ?_
  rintro e w' ⟨rfl, hb⟩
  exact ⟨by rw [hres], below_of hb⟩
end Go.Proofs.YtoncleppenggaaaGreatDoor.Pl

