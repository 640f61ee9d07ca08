import Derived.Test.YtedflhiflomoeaaGreatDoorFlwI
import Derived.Deep.MidRow
set_option linter.unusedSimpArgs false
set_option linter.unusedVariables false
namespace Go.Proofs.YtedflhiflomoeaaGreatDoor
open Go.RowKit

def encJ (B : Nat) : FJob → Value → World → Prop := fun j v w' => ∃ vo vi vc, v = .agg (jobV j vo vi vc).toArray ∧ encL B j.outs vo w' ∧ encL B j.ins vi w' ∧ encL B j.cols vc w'
theorem RD.sets {R k : Nat} {ts : List Tk} (hk : R < k) : ∀ (vs : List Value) (o : Nat) (w : World), RD w R ts → RD (w.setCells k o vs) R ts
  | [], _, _, h => h
  | v :: r, o, w, h => RD.sets hk r (o + 1) _ (h.set (i := o) (v := v) hk)
theorem But.puts {R k : Nat} {w : World} (hk : w.heap.size ≤ k) : ∀ (vs : List Value) (o : Nat) (w' : World), But R w w' → But R w (w'.setCells k o vs)
  | [], _, _, h => h
  | v :: r, o, w', h => But.puts hk r (o + 1) _ (h.put (i := o) hk v)
theorem own_sets {base k : Nat} {e : TypeId} {z n : Nat} {v : Value} {xs : List Value} (hk : k < base) : ∀ (vs : List Value) (o : Nat) (w : World), w.ownsRow base e z v n xs → (w.setCells k o vs).ownsRow base e z v n xs
  | [], _, _, h => h
  | u :: r, o, w, h => own_sets hk r (o + 1) _ (ownsRow_setCell_below h (a := ⟨k, o, none⟩) hk u)
def setL : List Value → Nat → List Value → List Value
  | vs, _, [] => vs
  | vs, o, u :: r => setL (vs.set o u) (o + 1) r
theorem Box.sets {k : Nat} : ∀ (us : List Value) (o : Nat) (w : World) (vs : List Value), Box w k vs → Box (w.setCells k o us) k (setL vs o us)
  | [], _, _, _, h => h
  | u :: r, o, w, vs, h => Box.sets r (o + 1) _ _ (h.set o u)
theorem setL_all : ∀ (us vs pre : List Value), vs.length = us.length → setL (pre ++ vs) pre.length us = pre ++ us
  | [], vs, pre, h => by
    have : vs = [] := List.eq_nil_of_length_eq_zero (by simpa using h)
    subst this
    rfl
  | u :: r, [], pre, h => by simp at h
  | u :: r, v :: vs, pre, h => by
    have ih := setL_all r vs (pre ++ [u]) (by simpa using h)
    unfold setL
    rw [List.set_append_right _ _ (Nat.le_refl _)]
    simp only [Nat.sub_self, List.set_cons_zero]
    rw [List.length_append] at ih
    simpa using ih
theorem Box.full {k : Nat} {w : World} {vs us : List Value} (h : Box w k vs) (hl : vs.length = us.length) : Box (w.setCells k 0 us) k us := by
  have h1 := Box.sets us 0 w vs h
  have h2 := setL_all us vs [] hl
  simp only [List.nil_append, List.length_nil] at h2
  rw [h2] at h1
  exact h1
theorem Box.range {w : World} {k : Nat} {vs : List Value} (h : Box w k vs) : w.rangeAt k 0 vs := fun j v hv => by rw [Nat.zero_add]; exact h.cell j hv
theorem Box.there {w : World} {k : Nat} {vs : List Value} (h : Box w k vs) : w.there k 0 vs.length := fun j hj => by
  rw [Nat.zero_add]
  exact ⟨by rw [h.cell j (List.getElem?_eq_getElem hj)]; rfl, h.fz j⟩
theorem results_cell1 {fn : Func} {p : Tmp} {ty : TypeId} (h : fn.results = #[.cell p ty]) (tmps : Array Value) (P : Program) (w : World) {a : Addr} {v : Value} (ha : tmps.getD p undef = .pointer (some a)) (hl : (loadVar ty a).run P w = .ok v w) :
    (results fn tmps).run P w = .ok v w := by
  have e : (results fn tmps).run P w = ((asAddr (tmps.getD p undef)).run P w).andThen fun a w₁ => (loadVar ty a).run P w₁ := by
    simp only [results, h]
    simp [Sem.run_bind, Result.andThen]
  rw [e, ha]
  simp [asAddr, Result.andThen, hl]
theorem body_outs {at_ : Nat} {outs : List By} {retry : Int} {ts ts' : List Tk} {j : FJob} (h : bodyP at_ outs retry ts = .ok (j, ts')) : j.outs = outs := by
  unfold bodyP at h
  simp only [Except.bind] at h
  repeat' split at h
  all_goals first
    | (simp only [Except.ok.injEq, Prod.mk.injEq] at h; rw [← h.1]; done)
    | (cases h; done)
theorem But.of2 {R K : Nat} {w w1 w2 : World} (h : But R w w1) (h2 : But2 R K w1 w2) (hK : w.heap.size ≤ K) : But R w w2 :=
  ⟨h2.os.trans h.os, h2.tape.trans h.tape, h2.output.trans h.output, Nat.le_trans h.size h2.size, fun i hi hne => (h2.block i (Nat.lt_of_lt_of_le hi h.size) (by intro e; exact hne (by rw [e])) (by omega)).trans (h.block i hi hne)⟩
theorem Box.but2 {R K k : Nat} {w w' : World} {vs : List Value} (h : Box w k vs) (hb : But2 R K w w') (h1 : k ≠ R) (h2 : k ≠ K) : Box w' k vs := h.block (hb.block k h.lt h1 h2)
theorem own_but2 {w w' : World} {R K base : Nat} {e : TypeId} {size : Nat} {v : Value} {n : Nat} {xs : List Value} (h : w.ownsRow base e size v n xs) (hb : But2 R K w w') (hR : R < base) (hK : K < base) : w'.ownsRow base e size v n xs := by
  obtain ⟨h1, h | ⟨g, cap, cur, hv, hg, hh, r⟩⟩ := h
  · exact ⟨h1, Or.inl h⟩
  · have hgl : g < w.heap.size := by
      rcases Nat.lt_or_ge g w.heap.size with q | q
      · exact q
      · rw [Array.getElem?_eq_none q] at hh; simp at hh
    exact ⟨h1, Or.inr ⟨g, cap, cur, hv, hg, (hb.block g hgl (by omega) (by omega)).trans hh, r⟩⟩
set_option maxRecDepth 100000 in
set_option maxHeartbeats 6400000 in
theorem rjob_any (R : Nat) (ts : List Tk) (w : World) (h : RD w R ts) : Calls Tryz.prog 39 #[.pointer (some ⟨R, 0, none⟩)] w fun e w' => Rs (jobP ts) (encJ w.heap.size) e w.heap.size w' R ∧ But R w w' := by
  have hR := h.lt
  have H0 := Hid.mk h
  have B0 := Hid.mk (But.refl R w)
  have E0 := Hid.mk (jobP.eq_1 ts)
  clear h
  go_enter Tryz.func39, Tryz.ntmps39
  have H1 := Hid.mk (H0.out.below (below_box _ (.cells #[.int .i64 0, .int .i64 0, .slice none 0 0, .slice none 0 0, .slice none 0 0, .string ⟨#[]⟩, .string ⟨#[]⟩, .int .i64 0, .int .i64 0, .string ⟨#[]⟩, .string ⟨#[]⟩, .int .i64 0, .int .i64 0, .string ⟨#[]⟩, .int .i64 0] 61)))
  have B2 := Hid.mk (B0.out.box (.cells #[.int .i64 0, .int .i64 0, .slice none 0 0, .slice none 0 0, .slice none 0 0, .string ⟨#[]⟩, .string ⟨#[]⟩, .int .i64 0, .int .i64 0, .string ⟨#[]⟩, .string ⟨#[]⟩, .int .i64 0, .int .i64 0, .string ⟨#[]⟩, .int .i64 0] 61))
  have X3 := Hid.mk (Box.new w [.int .i64 0, .int .i64 0, .slice none 0 0, .slice none 0 0, .slice none 0 0, .string ⟨#[]⟩, .string ⟨#[]⟩, .int .i64 0, .int .i64 0, .string ⟨#[]⟩, .string ⟨#[]⟩, .int .i64 0, .int .i64 0, .string ⟨#[]⟩, .int .i64 0] 61 _ rfl)
  clear H0 B0
  go_wp2_with (go_at_call 55; fail)
  refine (must_any wJob R ts _ H1.out (by decide)).mono ?_
  rintro e w1 ⟨⟨a1, ts1, v, hp, rfl, hv, hrd⟩ | ⟨er, hp, hthr⟩, hb1⟩
  rotate_left
  · obtain ⟨b', rfl, t0, t1, tB, tl⟩ := hthr
    have HP := Hid.mk (bind_err E0.out hp)
    clear hp
    go_wp2
    exact ⟨rfl, Or.inr ⟨_, HP.out, b', rfl, t0, t1, Nat.le_trans B2.out.size tB, tl⟩, B2.out.then hb1⟩
  subst hv
  have he := bind_ok E0.out hp
  dsimp only at he
  have E4 := Hid.mk he
  clear he hp
  have H5 := Hid.mk hrd
  have B6 := Hid.mk (B2.out.then hb1)
  have X7 := Hid.mk (X3.out.but hb1 (by omega))
  have q8 := X7.out.lt
  have sz9 := hb1.size
  try simp only [World.size_alloc, size_set] at sz9
  clear H1 B2 X3 E0 hrd hb1
  have H10 := Hid.mk (H5.out.below (below_box _ (.cells #[.int .i64 (a1 : Nat), .int .i64 0, .slice none 0 0, .slice none 0 0, .slice none 0 0, .string ⟨#[]⟩, .string ⟨#[]⟩, .int .i64 0, .int .i64 0, .string ⟨#[]⟩, .string ⟨#[]⟩, .int .i64 0, .int .i64 0, .string ⟨#[]⟩, .int .i64 0] 61)))
  have B11 := Hid.mk (B6.out.box (.cells #[.int .i64 (a1 : Nat), .int .i64 0, .slice none 0 0, .slice none 0 0, .slice none 0 0, .string ⟨#[]⟩, .string ⟨#[]⟩, .int .i64 0, .int .i64 0, .string ⟨#[]⟩, .string ⟨#[]⟩, .int .i64 0, .int .i64 0, .string ⟨#[]⟩, .int .i64 0] 61))
  have X12 := Hid.mk (X7.out.below (below_box _ (.cells #[.int .i64 (a1 : Nat), .int .i64 0, .slice none 0 0, .slice none 0 0, .slice none 0 0, .string ⟨#[]⟩, .string ⟨#[]⟩, .int .i64 0, .int .i64 0, .string ⟨#[]⟩, .string ⟨#[]⟩, .int .i64 0, .int .i64 0, .string ⟨#[]⟩, .int .i64 0] 61)))
  have X13 := Hid.mk (Box.new w1 [.int .i64 (a1 : Nat), .int .i64 0, .slice none 0 0, .slice none 0 0, .slice none 0 0, .string ⟨#[]⟩, .string ⟨#[]⟩, .int .i64 0, .int .i64 0, .string ⟨#[]⟩, .string ⟨#[]⟩, .int .i64 0, .int .i64 0, .string ⟨#[]⟩, .int .i64 0] 61 _ rfl)
  clear H5 B6 X7
  go_wp2_with (go_at_call 59; fail)
  refine (rnames_any R ts1 _ H10.out).mono ?_
  rintro e w2 ⟨⟨a2, ts2, v, hp, rfl, hv, hrd⟩ | ⟨er, hp, hthr⟩, hb2⟩
  rotate_left
  · obtain ⟨b', rfl, t0, t1, tB, tl⟩ := hthr
    have HP := Hid.mk (bind_err E4.out hp)
    clear hp
    go_wp2
    exact ⟨rfl, Or.inr ⟨_, HP.out, b', rfl, t0, t1, Nat.le_trans B11.out.size tB, tl⟩, B11.out.then hb2⟩
  unfold encL at hv
  obtain ⟨oa, oc, hve⟩ := own_slice hv
  subst hve
  simp only [World.size_alloc] at hv
  have OO := Hid.mk hv
  clear hv
  have he := bind_ok E4.out hp
  dsimp only at he
  have E14 := Hid.mk he
  clear he hp
  have H15 := Hid.mk hrd
  have B16 := Hid.mk (B11.out.then hb2)
  have X17 := Hid.mk (X12.out.but hb2 (by omega))
  have q18 := X17.out.lt
  have X19 := Hid.mk (X13.out.but hb2 (by omega))
  have q20 := X19.out.lt
  have sz21 := hb2.size
  try simp only [World.size_alloc, size_set] at sz21
  clear H10 B11 X12 X13 E4 hrd hb2
  have cf22 := X19.out.cell 2 rfl
  have cf23 := X19.out.fz 2
  have cl24 := X19.out.lt
  have H25 := Hid.mk (H15.out.set (k := w1.heap.size) (i := 2) (v := .slice oa a2.length oc) (by omega))
  have B26 := Hid.mk (B16.out.put (k := w1.heap.size) (i := 2) (by omega) (.slice oa a2.length oc))
  have X27 := Hid.mk (X17.out.other (k' := w1.heap.size) 2 (.slice oa a2.length oc) (by omega))
  have X28 : Hid (Box (w2.setCell ⟨w1.heap.size, 2, none⟩ (.slice oa a2.length oc)) w1.heap.size [.int .i64 (a1 : Nat), .int .i64 0, .slice oa a2.length oc, .slice none 0 0, .slice none 0 0, .string ⟨#[]⟩, .string ⟨#[]⟩, .int .i64 0, .int .i64 0, .string ⟨#[]⟩, .string ⟨#[]⟩, .int .i64 0, .int .i64 0, .string ⟨#[]⟩, .int .i64 0]) := Hid.mk (X19.out.set 2 (.slice oa a2.length oc))
  have O29 := Hid.mk (ownsRow_setCell_below OO.out (a := ⟨w1.heap.size, 2, none⟩) (by show w1.heap.size < _; omega) (.slice oa a2.length oc))
  clear H15 B16 X17 X19 OO
  have HMY := Hid.mk (may_any wRetry R ts2 _ H25.out (by decide))
  by_cases hm : textT ts2 = wRetry
  · as_aux_lemma =>
    rw [if_pos hm, show (textT ts2 == wRetry) = true by simp [hm]] at HMY
    have he := E14.out
    rw [retryP, if_pos hm] at he
    have ER := Hid.mk he
    clear hm he E14
    go_wp2_with (go_at_call 58; fail)
    refine HMY.out.mono ?_
    rintro e w3 ⟨rfl, hrd, hb⟩
    have HM := Hid.mk hrd
    have BM := Hid.mk (B26.out.then hb)
    have RM := Hid.mk (X27.out.but hb (by omega))
    have JM := Hid.mk (X28.out.but hb (by omega))
    have OM := Hid.mk (own_but O29.out hb (by omega))
    have qm1 := RM.out.lt
    have qm2 := JM.out.lt
    clear hrd hb H25 B26 X27 X28
    go_wp2_with (go_at_call 60; fail)
    refine (rnum_any 5 R ts2.tail _ HM.out).mono ?_
    rintro e w4 ⟨⟨a4, ts4, v, hp, rfl, hv, hrd⟩ | ⟨er, hp, hthr⟩, hb4⟩
    rotate_left
    · obtain ⟨b', rfl, t0, t1, tB, tl⟩ := hthr
      have HP := Hid.mk (bind_err ER.out hp)
      clear hp
      go_wp2
      exact ⟨rfl, Or.inr ⟨_, HP.out, b', rfl, t0, t1, Nat.le_trans BM.out.size tB, tl⟩, BM.out.then hb4⟩
    unfold encI at hv
    subst hv
    have he := bind_ok ER.out hp
    dsimp only at he
    have E30 := Hid.mk he
    clear he hp
    have H31 := Hid.mk hrd
    have B32 := Hid.mk (BM.out.then hb4)
    have X33 := Hid.mk (RM.out.but hb4 (by omega))
    have q34 := X33.out.lt
    have X35 := Hid.mk (JM.out.but hb4 (by omega))
    have q36 := X35.out.lt
    have O37 := Hid.mk (own_but OM.out hb4 (by omega))
    have sz38 := hb4.size
    try simp only [World.size_alloc, size_set] at sz38
    clear HM BM RM JM OM ER hrd hb4
    have cf39 := X35.out.cell 14 rfl
    have cf40 := X35.out.fz 14
    have cl41 := X35.out.lt
    have H42 := Hid.mk (H31.out.set (k := w1.heap.size) (i := 14) (v := .int .i64 a4) (by omega))
    have B43 := Hid.mk (B32.out.put (k := w1.heap.size) (i := 14) (by omega) (.int .i64 a4))
    have X44 := Hid.mk (X33.out.other (k' := w1.heap.size) 14 (.int .i64 a4) (by omega))
    have X45 : Hid (Box (w4.setCell ⟨w1.heap.size, 14, none⟩ (.int .i64 a4)) w1.heap.size [.int .i64 (a1 : Nat), .int .i64 0, .slice oa a2.length oc, .slice none 0 0, .slice none 0 0, .string ⟨#[]⟩, .string ⟨#[]⟩, .int .i64 0, .int .i64 0, .string ⟨#[]⟩, .string ⟨#[]⟩, .int .i64 0, .int .i64 0, .string ⟨#[]⟩, .int .i64 a4]) := Hid.mk (X35.out.set 14 (.int .i64 a4))
    have O46 := Hid.mk (ownsRow_setCell_below O37.out (a := ⟨w1.heap.size, 14, none⟩) (by show w1.heap.size < _; omega) (.int .i64 a4))
    clear H31 B32 X33 X35 O37
    go_wp2_with (go_at_call 55; fail)
    refine (must_any [61] R ts4 _ H42.out (by decide)).mono ?_
    rintro e w5 ⟨⟨a5, ts5, v, hp, rfl, hv, hrd⟩ | ⟨er, hp, hthr⟩, hb5⟩
    rotate_left
    · obtain ⟨b', rfl, t0, t1, tB, tl⟩ := hthr
      have HP := Hid.mk (bind_err E30.out hp)
      clear hp
      go_wp2
      exact ⟨rfl, Or.inr ⟨_, HP.out, b', rfl, t0, t1, Nat.le_trans B43.out.size tB, tl⟩, B43.out.then hb5⟩
    subst hv
    have he := bind_ok E30.out hp
    dsimp only at he
    have E47 := Hid.mk he
    clear he hp
    have H48 := Hid.mk hrd
    have B49 := Hid.mk (B43.out.then hb5)
    have X50 := Hid.mk (X44.out.but hb5 (by omega))
    have q51 := X50.out.lt
    have X52 := Hid.mk (X45.out.but hb5 (by omega))
    have q53 := X52.out.lt
    have O54 := Hid.mk (own_but O46.out hb5 (by omega))
    have sz55 := hb5.size
    try simp only [World.size_alloc, size_set] at sz55
    clear H42 B43 X44 X45 O46 E30 hrd hb5
    go_wp2_with (go_at_call 61; fail)
    refine (rbody_any a1 a2 a4 (.slice oa a2.length oc) w1.heap.size R ts5 _ H48.out X52.out (by omega)).mono ?_
    rintro e w9 ⟨⟨j, ts9, vi, vc, hp, rfl, hrd, hbx, hoi, hoc⟩ | ⟨er, hp, hthr⟩, hb9⟩
    rotate_left
    · obtain ⟨b', rfl, t0, t1, tB, tl⟩ := hthr
      have HP := Hid.mk (bind_err E47.out hp)
      clear hp
      go_wp2
      exact ⟨rfl, Or.inr ⟨_, HP.out, b', rfl, t0, t1, Nat.le_trans B49.out.size tB, tl⟩, B49.out.of2 hb9 (by omega)⟩
    have HJO := Hid.mk (body_outs hp)
    have he := bind_ok E47.out hp
    dsimp only at he
    have E9 := Hid.mk he
    clear he hp
    have H9 := Hid.mk hrd
    have B9 := Hid.mk (B49.out.of2 hb9 (by omega))
    have R9 := Hid.mk (X50.out.but2 hb9 (by omega) (by omega))
    have J9 := Hid.mk hbx
    have O9 := Hid.mk (own_but2 O54.out hb9 (by omega) (by omega))
    unfold encL at hoi hoc
    have s9 := X52.out.lt
    have OI := Hid.mk (own_mono (B := w1.heap.size + 1) (by omega) hoi)
    have OC := Hid.mk (own_mono (B := w1.heap.size + 1) (by omega) hoc)
    have s9b := R9.out.lt
    obtain ⟨ia, ic, hvi⟩ := own_slice hoi
    obtain ⟨ca, cc, hvc⟩ := own_slice hoc
    subst hvi hvc
    clear hrd hbx hoi hoc hb9 H48 B49 E47 X52 X50 O54
    go_wp2_with (go_at_call 55; fail)
    refine (must_any [59] R ts9 _ H9.out (by decide)).mono ?_
    rintro e w10 ⟨⟨a7, ts10, v, hp, rfl, hv, hrd⟩ | ⟨er, hp, hthr⟩, hb10⟩
    rotate_left
    · obtain ⟨b', rfl, t0, t1, tB, tl⟩ := hthr
      have HP := Hid.mk (bind_err E9.out hp)
      clear hp
      go_wp2
      exact ⟨rfl, Or.inr ⟨_, HP.out, b', rfl, t0, t1, Nat.le_trans B9.out.size tB, tl⟩, B9.out.then hb10⟩
    subst hv
    have he := bind_ok E9.out hp
    dsimp only at he
    have E56 := Hid.mk he
    clear he hp
    have H57 := Hid.mk hrd
    have B58 := Hid.mk (B9.out.then hb10)
    have X59 := Hid.mk (R9.out.but hb10 (by omega))
    have q60 := X59.out.lt
    have X61 := Hid.mk (J9.out.but hb10 (by omega))
    have q62 := X61.out.lt
    have O63 := Hid.mk (own_but O9.out hb10 (by omega))
    have O64 := Hid.mk (own_but OI.out hb10 (by omega))
    have O65 := Hid.mk (own_but OC.out hb10 (by omega))
    have sz66 := hb10.size
    try simp only [World.size_alloc, size_set] at sz66
    clear H9 B9 R9 J9 O9 OI OC E9 hrd hb10
    have HJB : Hid (Box w10 w1.heap.size (jobV j (.slice oa a2.length oc) (.slice ia j.ins.length ic) (.slice ca j.cols.length cc))) := X61
    have HRR := Hid.mk X59.out.there
    have HFU := Hid.mk (X59.out.full (us := (jobV j (.slice oa a2.length oc) (.slice ia j.ins.length ic) (.slice ca j.cols.length cc))) rfl)
    have HRD := Hid.mk (RD.sets (k := w.heap.size) (by omega) (jobV j (.slice oa a2.length oc) (.slice ia j.ins.length ic) (.slice ca j.cols.length cc)) 0 _ H57.out)
    have HBU := Hid.mk (But.puts (k := w.heap.size) (Nat.le_refl _) (jobV j (.slice oa a2.length oc) (.slice ia j.ins.length ic) (.slice ca j.cols.length cc)) 0 _ B58.out)
    have hinf : (Tryz.prog.info? 61).map (·.size) = some 15 := by kernel_rfl
    have HIN := Hid.mk hinf
    clear hinf
    have hone : (jobV j (.slice oa a2.length oc) (.slice ia j.ins.length ic) (.slice ca j.cols.length cc)).toArray.all (·.oneCell') = true := by simp [jobV, Value.oneCell']
    have HON := Hid.mk hone
    clear hone
    generalize hJL : (jobV j (.slice oa a2.length oc) (.slice ia j.ins.length ic) (.slice ca j.cols.length cc)) = JL at *
    have HJL := Hid.mk hJL
    have hJl : JL.length = 15 := by rw [← hJL]; rfl
    have HJl := Hid.mk hJl
    clear hJL hJl
    have hJs : JL.toArray.size = 15 := HJl.out
    have HTH : Hid (w10.there w.heap.size 0 JL.toArray.size) := by
      show World.there _ _ _ _
      rw [hJs]
      exact HRR.out
    have HI2 : Hid ((Tryz.prog.info? 61).map (·.size) = some JL.toArray.size) := by
      show _ = _
      rw [hJs]
      exact HIN.out
    clear hJs
    go_wp2_with (first | (refine wpList_load_mid rfl 61 (.tmp 3) rfl w1.heap.size 0 rfl JL _ HJB.out.range Tryz.underlying61 rfl (by rw [HJl.out]; exact HIN.out) ?_) | (refine wpList_store_mid rfl 61 (.tmp 2) (.tmp 21) rfl w.heap.size 0 JL.toArray rfl rfl HTH.out HI2.out HON.out ?_))
    refine bodyPost_ret (v := .agg JL.toArray) ?_ rfl ?_
    · exact results_cell1 rfl _ _ _ rfl (run_loadVar_mid _ w.heap.size 0 61 JL _ HFU.out.range Tryz.underlying61 rfl (by rw [HJl.out]; exact HIN.out))
    have hj2 := HJL.out
    subst hj2
    exact ⟨Or.inl ⟨_, _, _, E56.out, rfl, ⟨_, _, _, rfl, (show encL w.heap.size j.outs _ _ from by unfold encL; rw [HJO.out]; exact own_mono (by omega) (own_sets (k := w.heap.size) (by omega) _ _ _ O63.out)), (show encL w.heap.size j.ins _ _ from own_mono (by omega) (own_sets (k := w.heap.size) (by omega) _ _ _ O64.out)), (show encL w.heap.size j.cols _ _ from own_mono (by omega) (own_sets (k := w.heap.size) (by omega) _ _ _ O65.out))⟩, HRD.out⟩, HBU.out⟩
  · as_aux_lemma =>
    rw [if_neg hm, show (textT ts2 == wRetry) = false by simp [hm]] at HMY
    have he := E14.out
    rw [retryP, if_neg hm] at he
    have he2 := bind_ok he rfl
    dsimp only at he2
    have ER := Hid.mk he2
    clear hm he he2 E14
    go_wp2_with (go_at_call 58; fail)
    refine HMY.out.mono ?_
    rintro e w3 ⟨rfl, hrd, hb⟩
    have HM := Hid.mk hrd
    have BM := Hid.mk (B26.out.then hb)
    have RM := Hid.mk (X27.out.but hb (by omega))
    have JM := Hid.mk (X28.out.but hb (by omega))
    have OM := Hid.mk (own_but O29.out hb (by omega))
    have qm1 := RM.out.lt
    have qm2 := JM.out.lt
    clear hrd hb H25 B26 X27 X28
    go_wp2_with (go_at_call 55; fail)
    refine (must_any [61] R ts2 _ HM.out (by decide)).mono ?_
    rintro e w4 ⟨⟨a5, ts4, v, hp, rfl, hv, hrd⟩ | ⟨er, hp, hthr⟩, hb4⟩
    rotate_left
    · obtain ⟨b', rfl, t0, t1, tB, tl⟩ := hthr
      have HP := Hid.mk (bind_err ER.out hp)
      clear hp
      go_wp2
      exact ⟨rfl, Or.inr ⟨_, HP.out, b', rfl, t0, t1, Nat.le_trans BM.out.size tB, tl⟩, BM.out.then hb4⟩
    subst hv
    have he := bind_ok ER.out hp
    dsimp only at he
    have E30 := Hid.mk he
    clear he hp
    have H31 := Hid.mk hrd
    have B32 := Hid.mk (BM.out.then hb4)
    have X33 := Hid.mk (RM.out.but hb4 (by omega))
    have q34 := X33.out.lt
    have X35 := Hid.mk (JM.out.but hb4 (by omega))
    have q36 := X35.out.lt
    have O37 := Hid.mk (own_but OM.out hb4 (by omega))
    have sz38 := hb4.size
    try simp only [World.size_alloc, size_set] at sz38
    clear HM BM RM JM OM ER hrd hb4
    go_wp2_with (go_at_call 61; fail)
    refine (rbody_any a1 a2 0 (.slice oa a2.length oc) w1.heap.size R ts4 _ H31.out X35.out (by omega)).mono ?_
    rintro e w9 ⟨⟨j, ts9, vi, vc, hp, rfl, hrd, hbx, hoi, hoc⟩ | ⟨er, hp, hthr⟩, hb9⟩
    rotate_left
    · obtain ⟨b', rfl, t0, t1, tB, tl⟩ := hthr
      have HP := Hid.mk (bind_err E30.out hp)
      clear hp
      go_wp2
      exact ⟨rfl, Or.inr ⟨_, HP.out, b', rfl, t0, t1, Nat.le_trans B32.out.size tB, tl⟩, B32.out.of2 hb9 (by omega)⟩
    have HJO := Hid.mk (body_outs hp)
    have he := bind_ok E30.out hp
    dsimp only at he
    have E9 := Hid.mk he
    clear he hp
    have H9 := Hid.mk hrd
    have B9 := Hid.mk (B32.out.of2 hb9 (by omega))
    have R9 := Hid.mk (X33.out.but2 hb9 (by omega) (by omega))
    have J9 := Hid.mk hbx
    have O9 := Hid.mk (own_but2 O37.out hb9 (by omega) (by omega))
    unfold encL at hoi hoc
    have s9 := X35.out.lt
    have OI := Hid.mk (own_mono (B := w1.heap.size + 1) (by omega) hoi)
    have OC := Hid.mk (own_mono (B := w1.heap.size + 1) (by omega) hoc)
    have s9b := R9.out.lt
    obtain ⟨ia, ic, hvi⟩ := own_slice hoi
    obtain ⟨ca, cc, hvc⟩ := own_slice hoc
    subst hvi hvc
    clear hrd hbx hoi hoc hb9 H31 B32 E30 X35 X33 O37
    go_wp2_with (go_at_call 55; fail)
    refine (must_any [59] R ts9 _ H9.out (by decide)).mono ?_
    rintro e w10 ⟨⟨a7, ts10, v, hp, rfl, hv, hrd⟩ | ⟨er, hp, hthr⟩, hb10⟩
    rotate_left
    · obtain ⟨b', rfl, t0, t1, tB, tl⟩ := hthr
      have HP := Hid.mk (bind_err E9.out hp)
      clear hp
      go_wp2
      exact ⟨rfl, Or.inr ⟨_, HP.out, b', rfl, t0, t1, Nat.le_trans B9.out.size tB, tl⟩, B9.out.then hb10⟩
    subst hv
    have he := bind_ok E9.out hp
    dsimp only at he
    have E39 := Hid.mk he
    clear he hp
    have H40 := Hid.mk hrd
    have B41 := Hid.mk (B9.out.then hb10)
    have X42 := Hid.mk (R9.out.but hb10 (by omega))
    have q43 := X42.out.lt
    have X44 := Hid.mk (J9.out.but hb10 (by omega))
    have q45 := X44.out.lt
    have O46 := Hid.mk (own_but O9.out hb10 (by omega))
    have O47 := Hid.mk (own_but OI.out hb10 (by omega))
    have O48 := Hid.mk (own_but OC.out hb10 (by omega))
    have sz49 := hb10.size
    try simp only [World.size_alloc, size_set] at sz49
    clear H9 B9 R9 J9 O9 OI OC E9 hrd hb10
    have HJB : Hid (Box w10 w1.heap.size (jobV j (.slice oa a2.length oc) (.slice ia j.ins.length ic) (.slice ca j.cols.length cc))) := X44
    have HRR := Hid.mk X42.out.there
    have HFU := Hid.mk (X42.out.full (us := (jobV j (.slice oa a2.length oc) (.slice ia j.ins.length ic) (.slice ca j.cols.length cc))) rfl)
    have HRD := Hid.mk (RD.sets (k := w.heap.size) (by omega) (jobV j (.slice oa a2.length oc) (.slice ia j.ins.length ic) (.slice ca j.cols.length cc)) 0 _ H40.out)
    have HBU := Hid.mk (But.puts (k := w.heap.size) (Nat.le_refl _) (jobV j (.slice oa a2.length oc) (.slice ia j.ins.length ic) (.slice ca j.cols.length cc)) 0 _ B41.out)
    have hinf : (Tryz.prog.info? 61).map (·.size) = some 15 := by kernel_rfl
    have HIN := Hid.mk hinf
    clear hinf
    have hone : (jobV j (.slice oa a2.length oc) (.slice ia j.ins.length ic) (.slice ca j.cols.length cc)).toArray.all (·.oneCell') = true := by simp [jobV, Value.oneCell']
    have HON := Hid.mk hone
    clear hone
    generalize hJL : (jobV j (.slice oa a2.length oc) (.slice ia j.ins.length ic) (.slice ca j.cols.length cc)) = JL at *
    have HJL := Hid.mk hJL
    have hJl : JL.length = 15 := by rw [← hJL]; rfl
    have HJl := Hid.mk hJl
    clear hJL hJl
    have hJs : JL.toArray.size = 15 := HJl.out
    have HTH : Hid (w10.there w.heap.size 0 JL.toArray.size) := by
      show World.there _ _ _ _
      rw [hJs]
      exact HRR.out
    have HI2 : Hid ((Tryz.prog.info? 61).map (·.size) = some JL.toArray.size) := by
      show _ = _
      rw [hJs]
      exact HIN.out
    clear hJs
    go_wp2_with (first | (refine wpList_load_mid rfl 61 (.tmp 3) rfl w1.heap.size 0 rfl JL _ HJB.out.range Tryz.underlying61 rfl (by rw [HJl.out]; exact HIN.out) ?_) | (refine wpList_store_mid rfl 61 (.tmp 2) (.tmp 21) rfl w.heap.size 0 JL.toArray rfl rfl HTH.out HI2.out HON.out ?_))
    refine bodyPost_ret (v := .agg JL.toArray) ?_ rfl ?_
    · exact results_cell1 rfl _ _ _ rfl (run_loadVar_mid _ w.heap.size 0 61 JL _ HFU.out.range Tryz.underlying61 rfl (by rw [HJl.out]; exact HIN.out))
    have hj2 := HJL.out
    subst hj2
    exact ⟨Or.inl ⟨_, _, _, E39.out, rfl, ⟨_, _, _, rfl, (show encL w.heap.size j.outs _ _ from by unfold encL; rw [HJO.out]; exact own_mono (by omega) (own_sets (k := w.heap.size) (by omega) _ _ _ O46.out)), (show encL w.heap.size j.ins _ _ from own_mono (by omega) (own_sets (k := w.heap.size) (by omega) _ _ _ O47.out)), (show encL w.heap.size j.cols _ _ from own_mono (by omega) (own_sets (k := w.heap.size) (by omega) _ _ _ O48.out))⟩, HRD.out⟩, HBU.out⟩
end Go.Proofs.YtedflhiflomoeaaGreatDoor
