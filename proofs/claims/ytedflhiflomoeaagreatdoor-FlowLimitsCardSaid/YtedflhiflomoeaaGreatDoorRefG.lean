import Derived.Test.YtedflhiflomoeaaGreatDoorRefF
set_option linter.unusedSimpArgs false
set_option linter.unusedVariables false
namespace Go.Proofs.YtedflhiflomoeaaGreatDoor
open Go.RowKit

def orB (b : Bool) (c : Int) (ts : List Tk) (bad : Bd) : Bd := if b then bad else bad.or (some (c, hereT ts))
/-- What comes of a number, a text, or anything else, at the tokens ts. -/
def ArgOut (m : Bool) (ts : List Tk) (bad : Bd) (x : Int × Int × By) (bad2 : Bd) : Prop :=
  (kindT ts = 1 ∧ okN (textT ts) ∧ x = (1, (if m then -atoiN (textT ts) else atoiN (textT ts)), []) ∧ bad2 = orB (rightValueB 1 (if m then -atoiN (textT ts) else atoiN (textT ts)) []) 4 ts bad) ∨
  (kindT ts = 1 ∧ ¬ okN (textT ts) ∧ x.1 = 1 ∧ x.2.2 = [] ∧ bad2 = bad.or (some (4, hereT ts))) ∨
  (kindT ts = 2 ∧ m = false ∧ ∃ s, textT ts = 39 :: s ++ [39] ∧ 39 ∉ s ∧ x = (2, 0, s) ∧ bad2 = orB (rightValueB 2 0 s) 4 ts bad) ∨
  (kindT ts ≠ 1 ∧ (kindT ts = 2 → m = true) ∧ x = (0, 0, []) ∧ bad2 = bad.or (some (3, hereT ts)))
theorem atoiN_le (l : By) : atoiN l ≤ 9223372036854775807 := by
  unfold atoiN
  split
  · rename_i n hn
    unfold Lib.atoiAll at hn
    cases l with
    | nil => cases hn
    | cons c r =>
      simp only at hn
      split at hn
      · cases hn
      · cases hn
      · split at hn
        · cases hn
        · split at hn
          · cases hn
          · simp only [Lib.NumEnd.ok.injEq] at hn
            split at hn <;> omega
  · unfold Lib.atoiSat
    split <;> omega
  · omega
theorem neg_in {n : Int} (h0 : 0 ≤ n) (h1 : n ≤ 9223372036854775807) : wrap64 (-n) = -n := by unfold wrap64; omega
theorem range_not {l : By} (hno : ¬ okN l) (hsy : Lib.atoiAll l ≠ Lib.atoiAll []) (hd : (l.head?.map (·.toNat)) ≠ some 45) : atoiN l = 9223372036854775807 := by
  unfold atoiN
  rcases num_end (Lib.atoiAll l) with ⟨n, g⟩ | g | g
  · exact absurd ⟨n, g⟩ hno
  · exact absurd g hsy
  · rw [g]
    unfold Lib.atoiSat
    rw [if_neg hd]
theorem RF.head_tok {w : World} {R : Nat} {ts : List Tk} {bad : Bd} (h : RF w R ts bad) : ∃ t, t ∈ ts ∧ kindT ts = t.1 ∧ textT ts = t.2.1 ∧ TkR t ∧ (t.1 = 1 → (t.2.1.head?.map (·.toNat)) ≠ some 45) ∧ t.2.1.length ≤ 1000000 := by
  obtain ⟨t, r, rfl⟩ := h.good.ne
  have hs := h.good.small t (by simp)
  exact ⟨t, by simp, rfl, rfl, h.end4 t (by simp), hs.2.2.2.2, hs.2.1⟩
set_option maxRecDepth 100000 in
set_option maxHeartbeats 3200000 in
theorem argr_none_t_N2 (R : Nat) (ts ts1 : List Tk) (w : World) (h : RF w R ts none) (hk : kindT ts ≠ 0) (hm : seeB [45] ts none = true) (ht : takeT [45] ts none = ts1) (hk1 : kindT ts1 = 1) (hok : ¬ okN (textT ts1)) : Calls Tryz.prog 49 #[.pointer (some ⟨R, 0, none⟩)] w fun e w' => ∃ x bad2, ArgOut true ts1 none x bad2 ∧ e = .returned (.agg #[.string ⟨#[]⟩, .int .i64 x.1, .int .i64 x.2.1, .string (ba x.2.2)]) ∧ But R w w' ∧ RF w' R (if bad2.isNone then ts1.tail else ts1) bad2 := by
  have hlt := h.lt
  have HO : Hid (∀ V ts bad, RF V R ts bad → Calls Tryz.prog 16 #[.pointer (some ⟨R, 0, none⟩)] V fun e w' => e = .returned (.bool bad.isNone) ∧ Below V.heap.size V w') := Hid.mk fun V ts bad h => okr_any R ts bad V h
  have HF : Hid (∀ V ts bad c, RF V R ts bad → Calls Tryz.prog 11 #[.pointer (some ⟨R, 0, none⟩), .int .i64 c] V fun e w' => e = .returned (.tuple #[]) ∧ But R V w' ∧ RF w' R ts (bad.or (some (c, hereT ts)))) := Hid.mk fun V ts bad c h => failsr_any R ts bad c V h
  have HTK : Hid (∀ V, RF V R ts none → Calls Tryz.prog 28 #[.pointer (some ⟨R, 0, none⟩), .string (ba [45])] V fun e w' => e = .returned (.bool true) ∧ But R V w' ∧ RF w' R ts1 none) := Hid.mk fun V hV => by have := taker_any [45] R ts none V hV (by simp); rw [hm, ht] at this; exact this
  obtain ⟨w1, hw1⟩ : ∃ x, w.alloc (.cells #[.string ⟨#[]⟩, .int .i64 0, .int .i64 0, .string ⟨#[]⟩] 59) = x := ⟨_, rfl⟩
  have hb1 : Below w.heap.size w w1 := by rw [← hw1]; exact below_box _ _
  have hX0 : Box w1 w.heap.size [.string ⟨#[]⟩, .int .i64 0, .int .i64 0, .string ⟨#[]⟩] := by rw [← hw1]; exact Box.new w _ _ _ rfl
  have HC := Hid.mk (h.below hb1)
  have HT := Hid.mk (But.of (R := R) hb1)
  have HX0 := Hid.mk hX0
  have N0 : Hid (w.heap.size ≠ R) := Hid.mk (by omega)
  have hkb : (((kindT ts + 1 : Nat) : Int) == 1) = false := by simp; omega
  generalize hK : ((kindT ts + 1 : Nat) : Int) = K at *
  clear h hb1 hX0 hm ht hk
  have kb2 : (((kindT ts1 + 1 : Nat) : Int) == 2) = true := by rw [hk1]; rfl
  generalize hK1 : ((kindT ts1 + 1 : Nat) : Int) = K1 at *
  generalize hTX : ba (textT ts1) = TX at *
  generalize hHR : ((hereT ts1 : Nat) : Int) = HR at *
  go_enter Tryz.func49, Tryz.ntmps49
  go_wp2_with (first | (go_at_call 16; refine (HO.out _ _ _ HC.out).mono ?_; rintro e w2 ⟨rfl, hbo⟩; have HC := Hid.mk (HC.out.below hbo); have HT := Hid.mk (HT.out.then (But.of hbo)); have HX0 := Hid.mk (HX0.out.below hbo); obtain ⟨b, o, cc, n, hc, hn, hcc, hR, hn1, k0, k1, k2, e1, e2⟩ := HC.out.head; rw [hK] at k0; have hlt2 := HC.out.lt; clear hn k1 k2 e1 e2; clear hbo) | (go_at_call 28; refine (HTK.out _ HC.out).mono ?_; rintro e w3 ⟨rfl, hb3, hr3⟩; have HC := Hid.mk hr3; have HT := Hid.mk (HT.out.then hb3); have HW3 := Hid.mk HT.out.size; have HX0 := Hid.mk (HX0.out.but hb3 N0.out); obtain ⟨b1, o1, cc1, n1, hc', hn', hcc', hR', hn1', j0, j1, j2, e1', e2'⟩ := HC.out.head; rw [hK1] at j0; rw [hTX] at j1; rw [hHR] at j2; have hlt3 := HC.out.lt; clear hb3 hr3 hn' e1' e2'; obtain ⟨w4, hw4⟩ : ∃ x, w3.alloc (.cells #[.int .i64 K1, .string TX, .int .i64 HR] 64) = x := ⟨_, rfl⟩; obtain ⟨v5, hv5⟩ : ∃ x, w4.alloc (.cells #[.int .i64 0, .int .i64 0, .string ⟨#[]⟩] 57) = x := ⟨_, rfl⟩; obtain ⟨w5, hw5⟩ : ∃ x, ((v5.setCell ⟨w3.heap.size + 1, 0, none⟩ (.int .i64 0)).setCell ⟨w3.heap.size + 1, 1, none⟩ (.int .i64 0)).setCell ⟨w3.heap.size + 1, 2, none⟩ (.string ⟨#[]⟩) = x := ⟨_, rfl⟩; have hs4 : w4.heap.size = w3.heap.size + 1 := (by rw [← hw4]; exact World.size_alloc _ _); have hb34 : Below w3.heap.size w3 w4 := (by rw [← hw4]; exact below_box _ _); have hb45 : Below w4.heap.size w4 v5 := (by rw [← hv5]; exact below_box _ _); have hX2' : Box v5 (w3.heap.size + 1) [.int .i64 0, .int .i64 0, .string ⟨#[]⟩] := (by rw [← hv5]; exact Box.new w4 _ _ _ hs4.symm); have p0 := hX2'.cell 0 rfl; have p1 := hX2'.cell 1 rfl; have p2 := hX2'.cell 2 rfl; have pf0 := hX2'.fz 0; have pf1 := hX2'.fz 1; have pf2 := hX2'.fz 2; have hzP := hX2'.lt; have hb5 : Below w4.heap.size w4 w5 := (by rw [← hw5]; exact ((hb45.setCell (p := ⟨w3.heap.size + 1, 0, none⟩) (Nat.le_of_eq hs4) _).setCell (p := ⟨w3.heap.size + 1, 1, none⟩) (Nat.le_of_eq hs4) _).setCell (p := ⟨w3.heap.size + 1, 2, none⟩) (Nat.le_of_eq hs4) _); have hb35 := bel_then hb34 hb5; have HX1 := Hid.mk (show Box w5 w3.heap.size [.int .i64 K1, .string TX, .int .i64 HR] from (show Box w4 w3.heap.size [.int .i64 K1, .string TX, .int .i64 HR] by rw [← hw4]; exact Box.new w3 _ _ _ rfl).below hb5); have HX2 := Hid.mk (show Box w5 (w3.heap.size + 1) [.int .i64 0, .int .i64 0, .string ⟨#[]⟩] by rw [← hw5]; exact ((hX2'.set 0 _).set 1 _).set 2 _); have q0 := (hb5.cell (p := ⟨w3.heap.size, 0, none⟩) (by show w3.heap.size < _; omega)); have HC := Hid.mk (HC.out.below hb35); have HT := Hid.mk (HT.out.then (But.of hb35)); have HX0 := Hid.mk (HX0.out.below hb35); have N1 : Hid (w3.heap.size ≠ R) := Hid.mk (by omega); have N2 : Hid (w3.heap.size + 1 ≠ R) := Hid.mk (by omega); have HSZ := Hid.mk (And.intro hlt3 hlt3); have t0 := HX1.out.cell 0 rfl; have t1 := HX1.out.cell 1 rfl; have v0 := HX2.out.cell 0 rfl; have vf0 := HX2.out.fz 0; have v1 := HX2.out.cell 1 rfl; have vf1 := HX2.out.fz 1; have v2 := HX2.out.cell 2 rfl; have vf2 := HX2.out.fz 2; clear hb34 hb45 hb35 hb5 hX2' q0) | (go_at_call 11; fail) | (go_at_call 31; fail) | (go_at_call 75; fail))
  refine (show Calls Tryz.prog 31 #[.string TX] w5 _ from (by rw [← hTX]; exact atoiR_any (textT ts1) w5 (by obtain ⟨t, -, -, e2, -, -, hl⟩ := HC.out.head_tok; rw [e2]; exact hl) HC.out.env.fl)).mono ?_
  rintro e w6 ⟨q6, rfl, hq6, hb6⟩
  obtain ⟨-, tp, pq, rfl⟩ := hq6.resolve_left (fun hh => hok hh.1)
  have NUM : Hid (0 ≤ atoiN (textT ts1)) := Hid.mk (by obtain ⟨t, -, e1, e2, -, hd, -⟩ := HC.out.head_tok; rw [e2]; exact atoi_pos (hd (by rw [← e1]; exact hk1)))
  have RNG : Hid (atoiN (textT ts1) = 9223372036854775807) := Hid.mk (by obtain ⟨t, -, e1, e2, hT, hd, -⟩ := HC.out.head_tok; rw [e2] at hok ⊢; exact range_not hok (hT.2.1 (by rw [← e1]; exact hk1)) (hd (by rw [← e1]; exact hk1)))
  have NLE := Hid.mk (atoiN_le (textT ts1))
  have hng := neg_in NUM.out NLE.out
  have HC := Hid.mk (HC.out.below hb6)
  have HT := Hid.mk (HT.out.then (But.of hb6))
  have HX0 := Hid.mk (HX0.out.below hb6)
  have HX1 := Hid.mk (HX1.out.below hb6)
  have HX2 := Hid.mk (HX2.out.below hb6)
  have v0 := HX2.out.cell 0 rfl
  have vf0 := HX2.out.fz 0
  have v1 := HX2.out.cell 1 rfl
  have vf1 := HX2.out.fz 1
  have v2 := HX2.out.cell 2 rfl
  have vf2 := HX2.out.fz 2
  have hzV := HX2.out.lt
  clear hb6 hq6
  generalize hAN : atoiN (textT ts1) = AN at *
  go_wp2_with (first | (go_at_call 11; refine (HF.out _ _ _ _ HC.out).mono ?_; rintro e w7 ⟨rfl, hbf, hrf⟩; have HC := Hid.mk hrf; have HT := Hid.mk (HT.out.then hbf); have HX0 := Hid.mk (HX0.out.but hbf N0.out); have HX1 := Hid.mk (HX1.out.but hbf N1.out); have HX2 := Hid.mk (HX2.out.but hbf N2.out); have v0 := HX2.out.cell 0 rfl; have vf0 := HX2.out.fz 0; have v1 := HX2.out.cell 1 rfl; have vf1 := HX2.out.fz 1; have v2 := HX2.out.cell 2 rfl; have vf2 := HX2.out.fz 2; have hzV := HX2.out.lt; clear hbf hrf) | (go_at_call 76; fail))
  obtain ⟨W, hW⟩ : ∃ x, (((w7.setCell ⟨w3.heap.size + 1, 0, none⟩ (.int .i64 1)).setCell ⟨w3.heap.size + 1, 1, none⟩ (.int .i64 (-AN))).setCell ⟨w3.heap.size + 1, 2, none⟩ (.string ⟨#[]⟩)) = x := ⟨_, rfl⟩
  have hRk : R < w3.heap.size + 1 := Nat.lt_succ_of_lt HSZ.out.1
  have hRw : w.heap.size ≤ w3.heap.size := HW3.out
  have HC : Hid (RF W R ts1 _) := Hid.mk (by rw [← hW]; exact RF.set (RF.set (RF.set HC.out hRk) hRk) hRk)
  have HT : Hid (But R w W) := Hid.mk (by rw [← hW]; exact ((HT.out.put (Nat.le_succ_of_le hRw) _).put (Nat.le_succ_of_le hRw) _).put (Nat.le_succ_of_le hRw) _)
  have HX2 : Hid (Box W (w3.heap.size + 1) [.int .i64 1, .int .i64 (-AN), .string ⟨#[]⟩]) := Hid.mk (by rw [← hW]; exact ((HX2.out.set 0 _).set 1 _).set 2 _)
  have HX0 : Hid (Box W w.heap.size [.string ⟨#[]⟩, .int .i64 0, .int .i64 0, .string ⟨#[]⟩]) := Hid.mk (by rw [← hW]; exact ((HX0.out.other _ _ (by omega)).other _ _ (by omega)).other _ _ (by omega))
  rw [hW]
  clear hW
  refine (rrv_any 1 (-AN) ⟨#[]⟩ W (by decide)).mono ?_
  rintro e w8 ⟨rfl, hb8⟩
  have hrt : rightValueB 1 (-AN) (⟨#[]⟩ : ByteArray).data.toList = false := by
    show rightValueB 1 (-AN) [] = false
    have := RNG.out
    unfold rightValueB
    rw [if_pos rfl, Bool.and_eq_false_iff, Bool.and_eq_false_iff]
    simp only [decide_eq_false_iff_not]
    omega
  rw [hrt]
  have HC := Hid.mk (HC.out.below hb8)
  have HT := Hid.mk (HT.out.then (But.of hb8))
  have HX0 := Hid.mk (HX0.out.below hb8)
  have HX2 := Hid.mk (HX2.out.below hb8)
  have v0 := HX2.out.cell 0 rfl
  have vf0 := HX2.out.fz 0
  have v1 := HX2.out.cell 1 rfl
  have vf1 := HX2.out.fz 1
  have v2 := HX2.out.cell 2 rfl
  have vf2 := HX2.out.fz 2
  have a0 := HX0.out.cell 0 rfl
  have af0 := HX0.out.fz 0
  have a1 := HX0.out.cell 1 rfl
  have af1 := HX0.out.fz 1
  have a2 := HX0.out.cell 2 rfl
  have af2 := HX0.out.fz 2
  have a3 := HX0.out.cell 3 rfl
  have af3 := HX0.out.fz 3
  have hzV := HX2.out.lt
  have hzA := HX0.out.lt
  clear hb8
  go_wp2_with (first | (go_at_call 11; refine (HF.out _ _ _ _ HC.out).mono ?_; rintro e w9 ⟨rfl, hbf, hrf⟩; have HC := Hid.mk hrf; have HT := Hid.mk (HT.out.then hbf); have HX0 := Hid.mk (HX0.out.but hbf N0.out); have HX2 := Hid.mk (HX2.out.but hbf N2.out); have v0 := HX2.out.cell 0 rfl; have vf0 := HX2.out.fz 0; have v1 := HX2.out.cell 1 rfl; have vf1 := HX2.out.fz 1; have v2 := HX2.out.cell 2 rfl; have vf2 := HX2.out.fz 2; have a0 := HX0.out.cell 0 rfl; have af0 := HX0.out.fz 0; have a1 := HX0.out.cell 1 rfl; have af1 := HX0.out.fz 1; have a2 := HX0.out.cell 2 rfl; have af2 := HX0.out.fz 2; have a3 := HX0.out.cell 3 rfl; have af3 := HX0.out.fz 3; clear hbf hrf) | (go_at_call 16; refine (HO.out _ _ _ HC.out).mono ?_; rintro e w10 ⟨rfl, hbo⟩; have HC := Hid.mk (HC.out.below hbo); have HT := Hid.mk (HT.out.then (But.of hbo)); have HX0 := Hid.mk (HX0.out.below hbo); have HX2 := Hid.mk (HX2.out.below hbo); have v0 := HX2.out.cell 0 rfl; have vf0 := HX2.out.fz 0; have v1 := HX2.out.cell 1 rfl; have vf1 := HX2.out.fz 1; have v2 := HX2.out.cell 2 rfl; have vf2 := HX2.out.fz 2; have a0 := HX0.out.cell 0 rfl; have af0 := HX0.out.fz 0; have a1 := HX0.out.cell 1 rfl; have af1 := HX0.out.fz 1; have a2 := HX0.out.cell 2 rfl; have af2 := HX0.out.fz 2; have a3 := HX0.out.cell 3 rfl; have af3 := HX0.out.fz 3; have hzV := HX2.out.lt; have hzA := HX0.out.lt; clear hbo))
  skip
  have HBX : Hid (Box ((((w10.setCell ⟨w.heap.size, 0, none⟩ (.string ⟨#[]⟩)).setCell ⟨w.heap.size, 1, none⟩ (.int .i64 1)).setCell ⟨w.heap.size, 2, none⟩ (.int .i64 (-AN))).setCell ⟨w.heap.size, 3, none⟩ (.string ⟨#[]⟩)) w.heap.size [.string ⟨#[]⟩, .int .i64 1, .int .i64 (-AN), .string ⟨#[]⟩]) := Hid.mk (((((HX0.out).set 0 _).set 1 _).set 2 _).set 3 _)
  have z0 := HBX.out.cell 0 rfl
  have z1 := HBX.out.cell 1 rfl
  have z2 := HBX.out.cell 2 rfl
  have z3 := HBX.out.cell 3 rfl
  clear HBX
  refine bodyPost_ret (v := .agg #[.string ⟨#[]⟩, .int .i64 1, .int .i64 (-AN), .string ⟨#[]⟩]) (by simp [results, Tryz.results49, go_sem, z0, z1, z2, z3]) rfl ?_
  refine ⟨(1, (-AN), []), some (4, hereT ts1), Or.inr (Or.inl ⟨hk1, hok, rfl, rfl, rfl⟩), rfl, ?_, ?_⟩
  · exact (((HT.out.put (Nat.le_refl _) _).put (Nat.le_refl _) _).put (Nat.le_refl _) _).put (Nat.le_refl _) _
  · exact RF.set (RF.set (RF.set (RF.set HC.out hlt) hlt) hlt) hlt
set_option maxRecDepth 100000 in
set_option maxHeartbeats 3200000 in
theorem argr_none_t_N1r (R : Nat) (ts ts1 : List Tk) (w : World) (h : RF w R ts none) (hk : kindT ts ≠ 0) (hm : seeB [45] ts none = true) (ht : takeT [45] ts none = ts1) (hk1 : kindT ts1 = 1) (hok : okN (textT ts1)) (hr : rightValueB 1 (-atoiN (textT ts1)) [] = true) : Calls Tryz.prog 49 #[.pointer (some ⟨R, 0, none⟩)] w fun e w' => ∃ x bad2, ArgOut true ts1 none x bad2 ∧ e = .returned (.agg #[.string ⟨#[]⟩, .int .i64 x.1, .int .i64 x.2.1, .string (ba x.2.2)]) ∧ But R w w' ∧ RF w' R (if bad2.isNone then ts1.tail else ts1) bad2 := by
  have hlt := h.lt
  have HO : Hid (∀ V ts bad, RF V R ts bad → Calls Tryz.prog 16 #[.pointer (some ⟨R, 0, none⟩)] V fun e w' => e = .returned (.bool bad.isNone) ∧ Below V.heap.size V w') := Hid.mk fun V ts bad h => okr_any R ts bad V h
  have HF : Hid (∀ V ts bad c, RF V R ts bad → Calls Tryz.prog 11 #[.pointer (some ⟨R, 0, none⟩), .int .i64 c] V fun e w' => e = .returned (.tuple #[]) ∧ But R V w' ∧ RF w' R ts (bad.or (some (c, hereT ts)))) := Hid.mk fun V ts bad c h => failsr_any R ts bad c V h
  have HTK : Hid (∀ V, RF V R ts none → Calls Tryz.prog 28 #[.pointer (some ⟨R, 0, none⟩), .string (ba [45])] V fun e w' => e = .returned (.bool true) ∧ But R V w' ∧ RF w' R ts1 none) := Hid.mk fun V hV => by have := taker_any [45] R ts none V hV (by simp); rw [hm, ht] at this; exact this
  obtain ⟨w1, hw1⟩ : ∃ x, w.alloc (.cells #[.string ⟨#[]⟩, .int .i64 0, .int .i64 0, .string ⟨#[]⟩] 59) = x := ⟨_, rfl⟩
  have hb1 : Below w.heap.size w w1 := by rw [← hw1]; exact below_box _ _
  have hX0 : Box w1 w.heap.size [.string ⟨#[]⟩, .int .i64 0, .int .i64 0, .string ⟨#[]⟩] := by rw [← hw1]; exact Box.new w _ _ _ rfl
  have HC := Hid.mk (h.below hb1)
  have HT := Hid.mk (But.of (R := R) hb1)
  have HX0 := Hid.mk hX0
  have N0 : Hid (w.heap.size ≠ R) := Hid.mk (by omega)
  have hkb : (((kindT ts + 1 : Nat) : Int) == 1) = false := by simp; omega
  generalize hK : ((kindT ts + 1 : Nat) : Int) = K at *
  clear h hb1 hX0 hm ht hk
  have kb2 : (((kindT ts1 + 1 : Nat) : Int) == 2) = true := by rw [hk1]; rfl
  generalize hK1 : ((kindT ts1 + 1 : Nat) : Int) = K1 at *
  generalize hTX : ba (textT ts1) = TX at *
  generalize hHR : ((hereT ts1 : Nat) : Int) = HR at *
  go_enter Tryz.func49, Tryz.ntmps49
  go_wp2_with (first | (go_at_call 16; refine (HO.out _ _ _ HC.out).mono ?_; rintro e w2 ⟨rfl, hbo⟩; have HC := Hid.mk (HC.out.below hbo); have HT := Hid.mk (HT.out.then (But.of hbo)); have HX0 := Hid.mk (HX0.out.below hbo); obtain ⟨b, o, cc, n, hc, hn, hcc, hR, hn1, k0, k1, k2, e1, e2⟩ := HC.out.head; rw [hK] at k0; have hlt2 := HC.out.lt; clear hn k1 k2 e1 e2; clear hbo) | (go_at_call 28; refine (HTK.out _ HC.out).mono ?_; rintro e w3 ⟨rfl, hb3, hr3⟩; have HC := Hid.mk hr3; have HT := Hid.mk (HT.out.then hb3); have HW3 := Hid.mk HT.out.size; have HX0 := Hid.mk (HX0.out.but hb3 N0.out); obtain ⟨b1, o1, cc1, n1, hc', hn', hcc', hR', hn1', j0, j1, j2, e1', e2'⟩ := HC.out.head; rw [hK1] at j0; rw [hTX] at j1; rw [hHR] at j2; have hlt3 := HC.out.lt; clear hb3 hr3 hn' e1' e2'; obtain ⟨w4, hw4⟩ : ∃ x, w3.alloc (.cells #[.int .i64 K1, .string TX, .int .i64 HR] 64) = x := ⟨_, rfl⟩; obtain ⟨v5, hv5⟩ : ∃ x, w4.alloc (.cells #[.int .i64 0, .int .i64 0, .string ⟨#[]⟩] 57) = x := ⟨_, rfl⟩; obtain ⟨w5, hw5⟩ : ∃ x, ((v5.setCell ⟨w3.heap.size + 1, 0, none⟩ (.int .i64 0)).setCell ⟨w3.heap.size + 1, 1, none⟩ (.int .i64 0)).setCell ⟨w3.heap.size + 1, 2, none⟩ (.string ⟨#[]⟩) = x := ⟨_, rfl⟩; have hs4 : w4.heap.size = w3.heap.size + 1 := (by rw [← hw4]; exact World.size_alloc _ _); have hb34 : Below w3.heap.size w3 w4 := (by rw [← hw4]; exact below_box _ _); have hb45 : Below w4.heap.size w4 v5 := (by rw [← hv5]; exact below_box _ _); have hX2' : Box v5 (w3.heap.size + 1) [.int .i64 0, .int .i64 0, .string ⟨#[]⟩] := (by rw [← hv5]; exact Box.new w4 _ _ _ hs4.symm); have p0 := hX2'.cell 0 rfl; have p1 := hX2'.cell 1 rfl; have p2 := hX2'.cell 2 rfl; have pf0 := hX2'.fz 0; have pf1 := hX2'.fz 1; have pf2 := hX2'.fz 2; have hzP := hX2'.lt; have hb5 : Below w4.heap.size w4 w5 := (by rw [← hw5]; exact ((hb45.setCell (p := ⟨w3.heap.size + 1, 0, none⟩) (Nat.le_of_eq hs4) _).setCell (p := ⟨w3.heap.size + 1, 1, none⟩) (Nat.le_of_eq hs4) _).setCell (p := ⟨w3.heap.size + 1, 2, none⟩) (Nat.le_of_eq hs4) _); have hb35 := bel_then hb34 hb5; have HX1 := Hid.mk (show Box w5 w3.heap.size [.int .i64 K1, .string TX, .int .i64 HR] from (show Box w4 w3.heap.size [.int .i64 K1, .string TX, .int .i64 HR] by rw [← hw4]; exact Box.new w3 _ _ _ rfl).below hb5); have HX2 := Hid.mk (show Box w5 (w3.heap.size + 1) [.int .i64 0, .int .i64 0, .string ⟨#[]⟩] by rw [← hw5]; exact ((hX2'.set 0 _).set 1 _).set 2 _); have q0 := (hb5.cell (p := ⟨w3.heap.size, 0, none⟩) (by show w3.heap.size < _; omega)); have HC := Hid.mk (HC.out.below hb35); have HT := Hid.mk (HT.out.then (But.of hb35)); have HX0 := Hid.mk (HX0.out.below hb35); have N1 : Hid (w3.heap.size ≠ R) := Hid.mk (by omega); have N2 : Hid (w3.heap.size + 1 ≠ R) := Hid.mk (by omega); have HSZ := Hid.mk (And.intro hlt3 hlt3); have t0 := HX1.out.cell 0 rfl; have t1 := HX1.out.cell 1 rfl; have v0 := HX2.out.cell 0 rfl; have vf0 := HX2.out.fz 0; have v1 := HX2.out.cell 1 rfl; have vf1 := HX2.out.fz 1; have v2 := HX2.out.cell 2 rfl; have vf2 := HX2.out.fz 2; clear hb34 hb45 hb35 hb5 hX2' q0) | (go_at_call 11; fail) | (go_at_call 31; fail) | (go_at_call 75; fail))
  refine (show Calls Tryz.prog 31 #[.string TX] w5 _ from (by rw [← hTX]; exact atoiR_any (textT ts1) w5 (by obtain ⟨t, -, -, e2, -, -, hl⟩ := HC.out.head_tok; rw [e2]; exact hl) HC.out.env.fl)).mono ?_
  rintro e w6 ⟨q6, rfl, hq6, hb6⟩
  obtain ⟨-, rfl⟩ := hq6.resolve_right (fun hh => hh.1 hok)
  have NUM : Hid (0 ≤ atoiN (textT ts1)) := Hid.mk (by obtain ⟨t, -, e1, e2, -, hd, -⟩ := HC.out.head_tok; rw [e2]; exact atoi_pos (hd (by rw [← e1]; exact hk1)))
  have NLE := Hid.mk (atoiN_le (textT ts1))
  have hng := neg_in NUM.out NLE.out
  have HC := Hid.mk (HC.out.below hb6)
  have HT := Hid.mk (HT.out.then (But.of hb6))
  have HX0 := Hid.mk (HX0.out.below hb6)
  have HX1 := Hid.mk (HX1.out.below hb6)
  have HX2 := Hid.mk (HX2.out.below hb6)
  have v0 := HX2.out.cell 0 rfl
  have vf0 := HX2.out.fz 0
  have v1 := HX2.out.cell 1 rfl
  have vf1 := HX2.out.fz 1
  have v2 := HX2.out.cell 2 rfl
  have vf2 := HX2.out.fz 2
  have hzV := HX2.out.lt
  clear hb6 hq6
  generalize hAN : atoiN (textT ts1) = AN at *
  go_wp2_with (first | (go_at_call 11; refine (HF.out _ _ _ _ HC.out).mono ?_; rintro e w7 ⟨rfl, hbf, hrf⟩; have HC := Hid.mk hrf; have HT := Hid.mk (HT.out.then hbf); have HX0 := Hid.mk (HX0.out.but hbf N0.out); have HX1 := Hid.mk (HX1.out.but hbf N1.out); have HX2 := Hid.mk (HX2.out.but hbf N2.out); have v0 := HX2.out.cell 0 rfl; have vf0 := HX2.out.fz 0; have v1 := HX2.out.cell 1 rfl; have vf1 := HX2.out.fz 1; have v2 := HX2.out.cell 2 rfl; have vf2 := HX2.out.fz 2; have hzV := HX2.out.lt; clear hbf hrf) | (go_at_call 76; fail))
  obtain ⟨W, hW⟩ : ∃ x, (((w6.setCell ⟨w3.heap.size + 1, 0, none⟩ (.int .i64 1)).setCell ⟨w3.heap.size + 1, 1, none⟩ (.int .i64 (-AN))).setCell ⟨w3.heap.size + 1, 2, none⟩ (.string ⟨#[]⟩)) = x := ⟨_, rfl⟩
  have hRk : R < w3.heap.size + 1 := Nat.lt_succ_of_lt HSZ.out.1
  have hRw : w.heap.size ≤ w3.heap.size := HW3.out
  have HC : Hid (RF W R ts1 _) := Hid.mk (by rw [← hW]; exact RF.set (RF.set (RF.set HC.out hRk) hRk) hRk)
  have HT : Hid (But R w W) := Hid.mk (by rw [← hW]; exact ((HT.out.put (Nat.le_succ_of_le hRw) _).put (Nat.le_succ_of_le hRw) _).put (Nat.le_succ_of_le hRw) _)
  have HX2 : Hid (Box W (w3.heap.size + 1) [.int .i64 1, .int .i64 (-AN), .string ⟨#[]⟩]) := Hid.mk (by rw [← hW]; exact ((HX2.out.set 0 _).set 1 _).set 2 _)
  have HX0 : Hid (Box W w.heap.size [.string ⟨#[]⟩, .int .i64 0, .int .i64 0, .string ⟨#[]⟩]) := Hid.mk (by rw [← hW]; exact ((HX0.out.other _ _ (by omega)).other _ _ (by omega)).other _ _ (by omega))
  rw [hW]
  clear hW
  refine (rrv_any 1 (-AN) ⟨#[]⟩ W (by decide)).mono ?_
  rintro e w8 ⟨rfl, hb8⟩
  have hrt : rightValueB 1 (-AN) (⟨#[]⟩ : ByteArray).data.toList = true := by
    show rightValueB 1 (-AN) [] = _
    simpa using hr
  rw [hrt]
  have HC := Hid.mk (HC.out.below hb8)
  have HT := Hid.mk (HT.out.then (But.of hb8))
  have HX0 := Hid.mk (HX0.out.below hb8)
  have HX2 := Hid.mk (HX2.out.below hb8)
  have v0 := HX2.out.cell 0 rfl
  have vf0 := HX2.out.fz 0
  have v1 := HX2.out.cell 1 rfl
  have vf1 := HX2.out.fz 1
  have v2 := HX2.out.cell 2 rfl
  have vf2 := HX2.out.fz 2
  have a0 := HX0.out.cell 0 rfl
  have af0 := HX0.out.fz 0
  have a1 := HX0.out.cell 1 rfl
  have af1 := HX0.out.fz 1
  have a2 := HX0.out.cell 2 rfl
  have af2 := HX0.out.fz 2
  have a3 := HX0.out.cell 3 rfl
  have af3 := HX0.out.fz 3
  have hzV := HX2.out.lt
  have hzA := HX0.out.lt
  clear hb8
  have hne4 : kindT ts1 ≠ 4 := by rw [hk1]; decide
  go_wp2_with (first | (go_at_call 16; refine (HO.out _ _ _ HC.out).mono ?_; rintro e w10 ⟨rfl, hbo⟩; have HC := Hid.mk (HC.out.below hbo); have HT := Hid.mk (HT.out.then (But.of hbo)); have HX0 := Hid.mk (HX0.out.below hbo); have HX2 := Hid.mk (HX2.out.below hbo); have v0 := HX2.out.cell 0 rfl; have vf0 := HX2.out.fz 0; have v1 := HX2.out.cell 1 rfl; have vf1 := HX2.out.fz 1; have v2 := HX2.out.cell 2 rfl; have vf2 := HX2.out.fz 2; have a0 := HX0.out.cell 0 rfl; have af0 := HX0.out.fz 0; have a1 := HX0.out.cell 1 rfl; have af1 := HX0.out.fz 1; have a2 := HX0.out.cell 2 rfl; have af2 := HX0.out.fz 2; have a3 := HX0.out.cell 3 rfl; have af3 := HX0.out.fz 3; have hzV := HX2.out.lt; have hzA := HX0.out.lt; obtain ⟨b2, o2, cc2, n2, hc2, hn2, hcc2, hR2, hn12, -⟩ := HC.out.head; have HTT := Hid.mk (HC.out.taken (Or.inl hne4) hc2); have hf2 := HC.out.fz 0; have hlt10 := HC.out.lt; have hcc1 : ¬ cc2 = 1 := no_one hn2 hcc2 HTT.out; clear hn2; clear hbo))
  skip
  have HBX : Hid (Box (((((w10.setCell ⟨R, 0, none⟩ (.slice (some ⟨b2, o2 + 3, none⟩) n2 (cc2 - 1))).setCell ⟨w.heap.size, 0, none⟩ (.string ⟨#[]⟩)).setCell ⟨w.heap.size, 1, none⟩ (.int .i64 1)).setCell ⟨w.heap.size, 2, none⟩ (.int .i64 (-AN))).setCell ⟨w.heap.size, 3, none⟩ (.string ⟨#[]⟩)) w.heap.size [.string ⟨#[]⟩, .int .i64 1, .int .i64 (-AN), .string ⟨#[]⟩]) := Hid.mk (((((HX0.out.other 0 _ N0.out).set 0 _).set 1 _).set 2 _).set 3 _)
  have z0 := HBX.out.cell 0 rfl
  have z1 := HBX.out.cell 1 rfl
  have z2 := HBX.out.cell 2 rfl
  have z3 := HBX.out.cell 3 rfl
  clear HBX
  refine bodyPost_ret (v := .agg #[.string ⟨#[]⟩, .int .i64 1, .int .i64 (-AN), .string ⟨#[]⟩]) (by simp [results, Tryz.results49, go_sem, z0, z1, z2, z3]) rfl ?_
  refine ⟨(1, (-AN), []), none, Or.inl ⟨hk1, hok, by rw [hAN]; rfl, by rw [hAN, if_pos rfl, hr]; rfl⟩, rfl, ?_, ?_⟩
  · exact ((((HT.out.then (But.set R 0 _ _)).put (Nat.le_refl _) _).put (Nat.le_refl _) _).put (Nat.le_refl _) _).put (Nat.le_refl _) _
  · exact RF.set (RF.set (RF.set (RF.set HTT.out hlt) hlt) hlt) hlt
set_option maxRecDepth 100000 in
set_option maxHeartbeats 3200000 in
theorem argr_none_t_N1n (R : Nat) (ts ts1 : List Tk) (w : World) (h : RF w R ts none) (hk : kindT ts ≠ 0) (hm : seeB [45] ts none = true) (ht : takeT [45] ts none = ts1) (hk1 : kindT ts1 = 1) (hok : okN (textT ts1)) (hr : rightValueB 1 (-atoiN (textT ts1)) [] = false) : Calls Tryz.prog 49 #[.pointer (some ⟨R, 0, none⟩)] w fun e w' => ∃ x bad2, ArgOut true ts1 none x bad2 ∧ e = .returned (.agg #[.string ⟨#[]⟩, .int .i64 x.1, .int .i64 x.2.1, .string (ba x.2.2)]) ∧ But R w w' ∧ RF w' R (if bad2.isNone then ts1.tail else ts1) bad2 := by
  have hlt := h.lt
  have HO : Hid (∀ V ts bad, RF V R ts bad → Calls Tryz.prog 16 #[.pointer (some ⟨R, 0, none⟩)] V fun e w' => e = .returned (.bool bad.isNone) ∧ Below V.heap.size V w') := Hid.mk fun V ts bad h => okr_any R ts bad V h
  have HF : Hid (∀ V ts bad c, RF V R ts bad → Calls Tryz.prog 11 #[.pointer (some ⟨R, 0, none⟩), .int .i64 c] V fun e w' => e = .returned (.tuple #[]) ∧ But R V w' ∧ RF w' R ts (bad.or (some (c, hereT ts)))) := Hid.mk fun V ts bad c h => failsr_any R ts bad c V h
  have HTK : Hid (∀ V, RF V R ts none → Calls Tryz.prog 28 #[.pointer (some ⟨R, 0, none⟩), .string (ba [45])] V fun e w' => e = .returned (.bool true) ∧ But R V w' ∧ RF w' R ts1 none) := Hid.mk fun V hV => by have := taker_any [45] R ts none V hV (by simp); rw [hm, ht] at this; exact this
  obtain ⟨w1, hw1⟩ : ∃ x, w.alloc (.cells #[.string ⟨#[]⟩, .int .i64 0, .int .i64 0, .string ⟨#[]⟩] 59) = x := ⟨_, rfl⟩
  have hb1 : Below w.heap.size w w1 := by rw [← hw1]; exact below_box _ _
  have hX0 : Box w1 w.heap.size [.string ⟨#[]⟩, .int .i64 0, .int .i64 0, .string ⟨#[]⟩] := by rw [← hw1]; exact Box.new w _ _ _ rfl
  have HC := Hid.mk (h.below hb1)
  have HT := Hid.mk (But.of (R := R) hb1)
  have HX0 := Hid.mk hX0
  have N0 : Hid (w.heap.size ≠ R) := Hid.mk (by omega)
  have hkb : (((kindT ts + 1 : Nat) : Int) == 1) = false := by simp; omega
  generalize hK : ((kindT ts + 1 : Nat) : Int) = K at *
  clear h hb1 hX0 hm ht hk
  have kb2 : (((kindT ts1 + 1 : Nat) : Int) == 2) = true := by rw [hk1]; rfl
  generalize hK1 : ((kindT ts1 + 1 : Nat) : Int) = K1 at *
  generalize hTX : ba (textT ts1) = TX at *
  generalize hHR : ((hereT ts1 : Nat) : Int) = HR at *
  go_enter Tryz.func49, Tryz.ntmps49
  go_wp2_with (first | (go_at_call 16; refine (HO.out _ _ _ HC.out).mono ?_; rintro e w2 ⟨rfl, hbo⟩; have HC := Hid.mk (HC.out.below hbo); have HT := Hid.mk (HT.out.then (But.of hbo)); have HX0 := Hid.mk (HX0.out.below hbo); obtain ⟨b, o, cc, n, hc, hn, hcc, hR, hn1, k0, k1, k2, e1, e2⟩ := HC.out.head; rw [hK] at k0; have hlt2 := HC.out.lt; clear hn k1 k2 e1 e2; clear hbo) | (go_at_call 28; refine (HTK.out _ HC.out).mono ?_; rintro e w3 ⟨rfl, hb3, hr3⟩; have HC := Hid.mk hr3; have HT := Hid.mk (HT.out.then hb3); have HW3 := Hid.mk HT.out.size; have HX0 := Hid.mk (HX0.out.but hb3 N0.out); obtain ⟨b1, o1, cc1, n1, hc', hn', hcc', hR', hn1', j0, j1, j2, e1', e2'⟩ := HC.out.head; rw [hK1] at j0; rw [hTX] at j1; rw [hHR] at j2; have hlt3 := HC.out.lt; clear hb3 hr3 hn' e1' e2'; obtain ⟨w4, hw4⟩ : ∃ x, w3.alloc (.cells #[.int .i64 K1, .string TX, .int .i64 HR] 64) = x := ⟨_, rfl⟩; obtain ⟨v5, hv5⟩ : ∃ x, w4.alloc (.cells #[.int .i64 0, .int .i64 0, .string ⟨#[]⟩] 57) = x := ⟨_, rfl⟩; obtain ⟨w5, hw5⟩ : ∃ x, ((v5.setCell ⟨w3.heap.size + 1, 0, none⟩ (.int .i64 0)).setCell ⟨w3.heap.size + 1, 1, none⟩ (.int .i64 0)).setCell ⟨w3.heap.size + 1, 2, none⟩ (.string ⟨#[]⟩) = x := ⟨_, rfl⟩; have hs4 : w4.heap.size = w3.heap.size + 1 := (by rw [← hw4]; exact World.size_alloc _ _); have hb34 : Below w3.heap.size w3 w4 := (by rw [← hw4]; exact below_box _ _); have hb45 : Below w4.heap.size w4 v5 := (by rw [← hv5]; exact below_box _ _); have hX2' : Box v5 (w3.heap.size + 1) [.int .i64 0, .int .i64 0, .string ⟨#[]⟩] := (by rw [← hv5]; exact Box.new w4 _ _ _ hs4.symm); have p0 := hX2'.cell 0 rfl; have p1 := hX2'.cell 1 rfl; have p2 := hX2'.cell 2 rfl; have pf0 := hX2'.fz 0; have pf1 := hX2'.fz 1; have pf2 := hX2'.fz 2; have hzP := hX2'.lt; have hb5 : Below w4.heap.size w4 w5 := (by rw [← hw5]; exact ((hb45.setCell (p := ⟨w3.heap.size + 1, 0, none⟩) (Nat.le_of_eq hs4) _).setCell (p := ⟨w3.heap.size + 1, 1, none⟩) (Nat.le_of_eq hs4) _).setCell (p := ⟨w3.heap.size + 1, 2, none⟩) (Nat.le_of_eq hs4) _); have hb35 := bel_then hb34 hb5; have HX1 := Hid.mk (show Box w5 w3.heap.size [.int .i64 K1, .string TX, .int .i64 HR] from (show Box w4 w3.heap.size [.int .i64 K1, .string TX, .int .i64 HR] by rw [← hw4]; exact Box.new w3 _ _ _ rfl).below hb5); have HX2 := Hid.mk (show Box w5 (w3.heap.size + 1) [.int .i64 0, .int .i64 0, .string ⟨#[]⟩] by rw [← hw5]; exact ((hX2'.set 0 _).set 1 _).set 2 _); have q0 := (hb5.cell (p := ⟨w3.heap.size, 0, none⟩) (by show w3.heap.size < _; omega)); have HC := Hid.mk (HC.out.below hb35); have HT := Hid.mk (HT.out.then (But.of hb35)); have HX0 := Hid.mk (HX0.out.below hb35); have N1 : Hid (w3.heap.size ≠ R) := Hid.mk (by omega); have N2 : Hid (w3.heap.size + 1 ≠ R) := Hid.mk (by omega); have HSZ := Hid.mk (And.intro hlt3 hlt3); have t0 := HX1.out.cell 0 rfl; have t1 := HX1.out.cell 1 rfl; have v0 := HX2.out.cell 0 rfl; have vf0 := HX2.out.fz 0; have v1 := HX2.out.cell 1 rfl; have vf1 := HX2.out.fz 1; have v2 := HX2.out.cell 2 rfl; have vf2 := HX2.out.fz 2; clear hb34 hb45 hb35 hb5 hX2' q0) | (go_at_call 11; fail) | (go_at_call 31; fail) | (go_at_call 75; fail))
  refine (show Calls Tryz.prog 31 #[.string TX] w5 _ from (by rw [← hTX]; exact atoiR_any (textT ts1) w5 (by obtain ⟨t, -, -, e2, -, -, hl⟩ := HC.out.head_tok; rw [e2]; exact hl) HC.out.env.fl)).mono ?_
  rintro e w6 ⟨q6, rfl, hq6, hb6⟩
  obtain ⟨-, rfl⟩ := hq6.resolve_right (fun hh => hh.1 hok)
  have NUM : Hid (0 ≤ atoiN (textT ts1)) := Hid.mk (by obtain ⟨t, -, e1, e2, -, hd, -⟩ := HC.out.head_tok; rw [e2]; exact atoi_pos (hd (by rw [← e1]; exact hk1)))
  have NLE := Hid.mk (atoiN_le (textT ts1))
  have hng := neg_in NUM.out NLE.out
  have HC := Hid.mk (HC.out.below hb6)
  have HT := Hid.mk (HT.out.then (But.of hb6))
  have HX0 := Hid.mk (HX0.out.below hb6)
  have HX1 := Hid.mk (HX1.out.below hb6)
  have HX2 := Hid.mk (HX2.out.below hb6)
  have v0 := HX2.out.cell 0 rfl
  have vf0 := HX2.out.fz 0
  have v1 := HX2.out.cell 1 rfl
  have vf1 := HX2.out.fz 1
  have v2 := HX2.out.cell 2 rfl
  have vf2 := HX2.out.fz 2
  have hzV := HX2.out.lt
  clear hb6 hq6
  generalize hAN : atoiN (textT ts1) = AN at *
  go_wp2_with (first | (go_at_call 11; refine (HF.out _ _ _ _ HC.out).mono ?_; rintro e w7 ⟨rfl, hbf, hrf⟩; have HC := Hid.mk hrf; have HT := Hid.mk (HT.out.then hbf); have HX0 := Hid.mk (HX0.out.but hbf N0.out); have HX1 := Hid.mk (HX1.out.but hbf N1.out); have HX2 := Hid.mk (HX2.out.but hbf N2.out); have v0 := HX2.out.cell 0 rfl; have vf0 := HX2.out.fz 0; have v1 := HX2.out.cell 1 rfl; have vf1 := HX2.out.fz 1; have v2 := HX2.out.cell 2 rfl; have vf2 := HX2.out.fz 2; have hzV := HX2.out.lt; clear hbf hrf) | (go_at_call 76; fail))
  obtain ⟨W, hW⟩ : ∃ x, (((w6.setCell ⟨w3.heap.size + 1, 0, none⟩ (.int .i64 1)).setCell ⟨w3.heap.size + 1, 1, none⟩ (.int .i64 (-AN))).setCell ⟨w3.heap.size + 1, 2, none⟩ (.string ⟨#[]⟩)) = x := ⟨_, rfl⟩
  have hRk : R < w3.heap.size + 1 := Nat.lt_succ_of_lt HSZ.out.1
  have hRw : w.heap.size ≤ w3.heap.size := HW3.out
  have HC : Hid (RF W R ts1 _) := Hid.mk (by rw [← hW]; exact RF.set (RF.set (RF.set HC.out hRk) hRk) hRk)
  have HT : Hid (But R w W) := Hid.mk (by rw [← hW]; exact ((HT.out.put (Nat.le_succ_of_le hRw) _).put (Nat.le_succ_of_le hRw) _).put (Nat.le_succ_of_le hRw) _)
  have HX2 : Hid (Box W (w3.heap.size + 1) [.int .i64 1, .int .i64 (-AN), .string ⟨#[]⟩]) := Hid.mk (by rw [← hW]; exact ((HX2.out.set 0 _).set 1 _).set 2 _)
  have HX0 : Hid (Box W w.heap.size [.string ⟨#[]⟩, .int .i64 0, .int .i64 0, .string ⟨#[]⟩]) := Hid.mk (by rw [← hW]; exact ((HX0.out.other _ _ (by omega)).other _ _ (by omega)).other _ _ (by omega))
  rw [hW]
  clear hW
  refine (rrv_any 1 (-AN) ⟨#[]⟩ W (by decide)).mono ?_
  rintro e w8 ⟨rfl, hb8⟩
  have hrt : rightValueB 1 (-AN) (⟨#[]⟩ : ByteArray).data.toList = false := by
    show rightValueB 1 (-AN) [] = _
    simpa using hr
  rw [hrt]
  have HC := Hid.mk (HC.out.below hb8)
  have HT := Hid.mk (HT.out.then (But.of hb8))
  have HX0 := Hid.mk (HX0.out.below hb8)
  have HX2 := Hid.mk (HX2.out.below hb8)
  have v0 := HX2.out.cell 0 rfl
  have vf0 := HX2.out.fz 0
  have v1 := HX2.out.cell 1 rfl
  have vf1 := HX2.out.fz 1
  have v2 := HX2.out.cell 2 rfl
  have vf2 := HX2.out.fz 2
  have a0 := HX0.out.cell 0 rfl
  have af0 := HX0.out.fz 0
  have a1 := HX0.out.cell 1 rfl
  have af1 := HX0.out.fz 1
  have a2 := HX0.out.cell 2 rfl
  have af2 := HX0.out.fz 2
  have a3 := HX0.out.cell 3 rfl
  have af3 := HX0.out.fz 3
  have hzV := HX2.out.lt
  have hzA := HX0.out.lt
  clear hb8
  go_wp2_with (first | (go_at_call 11; refine (HF.out _ _ _ _ HC.out).mono ?_; rintro e w9 ⟨rfl, hbf, hrf⟩; have HC := Hid.mk hrf; have HT := Hid.mk (HT.out.then hbf); have HX0 := Hid.mk (HX0.out.but hbf N0.out); have HX2 := Hid.mk (HX2.out.but hbf N2.out); have v0 := HX2.out.cell 0 rfl; have vf0 := HX2.out.fz 0; have v1 := HX2.out.cell 1 rfl; have vf1 := HX2.out.fz 1; have v2 := HX2.out.cell 2 rfl; have vf2 := HX2.out.fz 2; have a0 := HX0.out.cell 0 rfl; have af0 := HX0.out.fz 0; have a1 := HX0.out.cell 1 rfl; have af1 := HX0.out.fz 1; have a2 := HX0.out.cell 2 rfl; have af2 := HX0.out.fz 2; have a3 := HX0.out.cell 3 rfl; have af3 := HX0.out.fz 3; clear hbf hrf) | (go_at_call 16; refine (HO.out _ _ _ HC.out).mono ?_; rintro e w10 ⟨rfl, hbo⟩; have HC := Hid.mk (HC.out.below hbo); have HT := Hid.mk (HT.out.then (But.of hbo)); have HX0 := Hid.mk (HX0.out.below hbo); have HX2 := Hid.mk (HX2.out.below hbo); have v0 := HX2.out.cell 0 rfl; have vf0 := HX2.out.fz 0; have v1 := HX2.out.cell 1 rfl; have vf1 := HX2.out.fz 1; have v2 := HX2.out.cell 2 rfl; have vf2 := HX2.out.fz 2; have a0 := HX0.out.cell 0 rfl; have af0 := HX0.out.fz 0; have a1 := HX0.out.cell 1 rfl; have af1 := HX0.out.fz 1; have a2 := HX0.out.cell 2 rfl; have af2 := HX0.out.fz 2; have a3 := HX0.out.cell 3 rfl; have af3 := HX0.out.fz 3; have hzV := HX2.out.lt; have hzA := HX0.out.lt; clear hbo))
  skip
  have HBX : Hid (Box ((((w10.setCell ⟨w.heap.size, 0, none⟩ (.string ⟨#[]⟩)).setCell ⟨w.heap.size, 1, none⟩ (.int .i64 1)).setCell ⟨w.heap.size, 2, none⟩ (.int .i64 (-AN))).setCell ⟨w.heap.size, 3, none⟩ (.string ⟨#[]⟩)) w.heap.size [.string ⟨#[]⟩, .int .i64 1, .int .i64 (-AN), .string ⟨#[]⟩]) := Hid.mk (((((HX0.out).set 0 _).set 1 _).set 2 _).set 3 _)
  have z0 := HBX.out.cell 0 rfl
  have z1 := HBX.out.cell 1 rfl
  have z2 := HBX.out.cell 2 rfl
  have z3 := HBX.out.cell 3 rfl
  clear HBX
  refine bodyPost_ret (v := .agg #[.string ⟨#[]⟩, .int .i64 1, .int .i64 (-AN), .string ⟨#[]⟩]) (by simp [results, Tryz.results49, go_sem, z0, z1, z2, z3]) rfl ?_
  refine ⟨(1, (-AN), []), some (4, hereT ts1), Or.inl ⟨hk1, hok, by rw [hAN]; rfl, by rw [hAN, if_pos rfl, hr]; rfl⟩, rfl, ?_, ?_⟩
  · exact (((HT.out.put (Nat.le_refl _) _).put (Nat.le_refl _) _).put (Nat.le_refl _) _).put (Nat.le_refl _) _
  · exact RF.set (RF.set (RF.set (RF.set HC.out hlt) hlt) hlt) hlt
set_option maxRecDepth 100000 in
set_option maxHeartbeats 3200000 in
theorem argr_none_t_D (R : Nat) (ts ts1 : List Tk) (w : World) (h : RF w R ts none) (hk : kindT ts ≠ 0) (hm : seeB [45] ts none = true) (ht : takeT [45] ts none = ts1) (hk1 : kindT ts1 ≠ 1) (hk2 : kindT ts1 ≠ 2) : Calls Tryz.prog 49 #[.pointer (some ⟨R, 0, none⟩)] w fun e w' => ∃ x bad2, ArgOut true ts1 none x bad2 ∧ e = .returned (.agg #[.string ⟨#[]⟩, .int .i64 x.1, .int .i64 x.2.1, .string (ba x.2.2)]) ∧ But R w w' ∧ RF w' R (if bad2.isNone then ts1.tail else ts1) bad2 := by
  have hlt := h.lt
  have HO : Hid (∀ V ts bad, RF V R ts bad → Calls Tryz.prog 16 #[.pointer (some ⟨R, 0, none⟩)] V fun e w' => e = .returned (.bool bad.isNone) ∧ Below V.heap.size V w') := Hid.mk fun V ts bad h => okr_any R ts bad V h
  have HF : Hid (∀ V ts bad c, RF V R ts bad → Calls Tryz.prog 11 #[.pointer (some ⟨R, 0, none⟩), .int .i64 c] V fun e w' => e = .returned (.tuple #[]) ∧ But R V w' ∧ RF w' R ts (bad.or (some (c, hereT ts)))) := Hid.mk fun V ts bad c h => failsr_any R ts bad c V h
  have HTK : Hid (∀ V, RF V R ts none → Calls Tryz.prog 28 #[.pointer (some ⟨R, 0, none⟩), .string (ba [45])] V fun e w' => e = .returned (.bool true) ∧ But R V w' ∧ RF w' R ts1 none) := Hid.mk fun V hV => by have := taker_any [45] R ts none V hV (by simp); rw [hm, ht] at this; exact this
  obtain ⟨w1, hw1⟩ : ∃ x, w.alloc (.cells #[.string ⟨#[]⟩, .int .i64 0, .int .i64 0, .string ⟨#[]⟩] 59) = x := ⟨_, rfl⟩
  have hb1 : Below w.heap.size w w1 := by rw [← hw1]; exact below_box _ _
  have hX0 : Box w1 w.heap.size [.string ⟨#[]⟩, .int .i64 0, .int .i64 0, .string ⟨#[]⟩] := by rw [← hw1]; exact Box.new w _ _ _ rfl
  have HC := Hid.mk (h.below hb1)
  have HT := Hid.mk (But.of (R := R) hb1)
  have HX0 := Hid.mk hX0
  have N0 : Hid (w.heap.size ≠ R) := Hid.mk (by omega)
  have hkb : (((kindT ts + 1 : Nat) : Int) == 1) = false := by simp; omega
  generalize hK : ((kindT ts + 1 : Nat) : Int) = K at *
  clear h hb1 hX0 hm ht hk
  have kb2 : (((kindT ts1 + 1 : Nat) : Int) == 2) = false := by simp; omega
  have kb3 : (((kindT ts1 + 1 : Nat) : Int) == 3) = false := by simp; omega
  generalize hK1 : ((kindT ts1 + 1 : Nat) : Int) = K1 at *
  generalize hTX : ba (textT ts1) = TX at *
  generalize hHR : ((hereT ts1 : Nat) : Int) = HR at *
  go_enter Tryz.func49, Tryz.ntmps49
  go_wp2_with (first | (go_at_call 16; refine (HO.out _ _ _ HC.out).mono ?_; rintro e w2 ⟨rfl, hbo⟩; have HC := Hid.mk (HC.out.below hbo); have HT := Hid.mk (HT.out.then (But.of hbo)); have HX0 := Hid.mk (HX0.out.below hbo); obtain ⟨b, o, cc, n, hc, hn, hcc, hR, hn1, k0, k1, k2, e1, e2⟩ := HC.out.head; rw [hK] at k0; have hlt2 := HC.out.lt; clear hn k1 k2 e1 e2; clear hbo) | (go_at_call 28; refine (HTK.out _ HC.out).mono ?_; rintro e w3 ⟨rfl, hb3, hr3⟩; have HC := Hid.mk hr3; have HT := Hid.mk (HT.out.then hb3); have HW3 := Hid.mk HT.out.size; have HX0 := Hid.mk (HX0.out.but hb3 N0.out); obtain ⟨b1, o1, cc1, n1, hc', hn', hcc', hR', hn1', j0, j1, j2, e1', e2'⟩ := HC.out.head; rw [hK1] at j0; rw [hTX] at j1; rw [hHR] at j2; have hlt3 := HC.out.lt; clear hb3 hr3 hn' e1' e2'; obtain ⟨w4, hw4⟩ : ∃ x, w3.alloc (.cells #[.int .i64 K1, .string TX, .int .i64 HR] 64) = x := ⟨_, rfl⟩; obtain ⟨v5, hv5⟩ : ∃ x, w4.alloc (.cells #[.int .i64 0, .int .i64 0, .string ⟨#[]⟩] 57) = x := ⟨_, rfl⟩; obtain ⟨w5, hw5⟩ : ∃ x, ((v5.setCell ⟨w3.heap.size + 1, 0, none⟩ (.int .i64 0)).setCell ⟨w3.heap.size + 1, 1, none⟩ (.int .i64 0)).setCell ⟨w3.heap.size + 1, 2, none⟩ (.string ⟨#[]⟩) = x := ⟨_, rfl⟩; have hs4 : w4.heap.size = w3.heap.size + 1 := (by rw [← hw4]; exact World.size_alloc _ _); have hb34 : Below w3.heap.size w3 w4 := (by rw [← hw4]; exact below_box _ _); have hb45 : Below w4.heap.size w4 v5 := (by rw [← hv5]; exact below_box _ _); have hX2' : Box v5 (w3.heap.size + 1) [.int .i64 0, .int .i64 0, .string ⟨#[]⟩] := (by rw [← hv5]; exact Box.new w4 _ _ _ hs4.symm); have p0 := hX2'.cell 0 rfl; have p1 := hX2'.cell 1 rfl; have p2 := hX2'.cell 2 rfl; have pf0 := hX2'.fz 0; have pf1 := hX2'.fz 1; have pf2 := hX2'.fz 2; have hzP := hX2'.lt; have hb5 : Below w4.heap.size w4 w5 := (by rw [← hw5]; exact ((hb45.setCell (p := ⟨w3.heap.size + 1, 0, none⟩) (Nat.le_of_eq hs4) _).setCell (p := ⟨w3.heap.size + 1, 1, none⟩) (Nat.le_of_eq hs4) _).setCell (p := ⟨w3.heap.size + 1, 2, none⟩) (Nat.le_of_eq hs4) _); have hb35 := bel_then hb34 hb5; have HX1 := Hid.mk (show Box w5 w3.heap.size [.int .i64 K1, .string TX, .int .i64 HR] from (show Box w4 w3.heap.size [.int .i64 K1, .string TX, .int .i64 HR] by rw [← hw4]; exact Box.new w3 _ _ _ rfl).below hb5); have HX2 := Hid.mk (show Box w5 (w3.heap.size + 1) [.int .i64 0, .int .i64 0, .string ⟨#[]⟩] by rw [← hw5]; exact ((hX2'.set 0 _).set 1 _).set 2 _); have q0 := (hb5.cell (p := ⟨w3.heap.size, 0, none⟩) (by show w3.heap.size < _; omega)); have HC := Hid.mk (HC.out.below hb35); have HT := Hid.mk (HT.out.then (But.of hb35)); have HX0 := Hid.mk (HX0.out.below hb35); have N1 : Hid (w3.heap.size ≠ R) := Hid.mk (by omega); have N2 : Hid (w3.heap.size + 1 ≠ R) := Hid.mk (by omega); have HSZ := Hid.mk (And.intro hlt3 hlt3); have t0 := HX1.out.cell 0 rfl; have t1 := HX1.out.cell 1 rfl; have v0 := HX2.out.cell 0 rfl; have vf0 := HX2.out.fz 0; have v1 := HX2.out.cell 1 rfl; have vf1 := HX2.out.fz 1; have v2 := HX2.out.cell 2 rfl; have vf2 := HX2.out.fz 2; clear hb34 hb45 hb35 hb5 hX2' q0) | (go_at_call 11; fail) | (go_at_call 31; fail) | (go_at_call 75; fail))
  refine (HF.out _ _ _ _ HC.out).mono ?_
  rintro e w6 ⟨rfl, hbf, hrf⟩
  have HC := Hid.mk hrf
  have HT := Hid.mk (HT.out.then hbf)
  have HX0 := Hid.mk (HX0.out.but hbf N0.out)
  have HX1 := Hid.mk (HX1.out.but hbf N1.out)
  have HX2 := Hid.mk (HX2.out.but hbf N2.out)
  have v0 := HX2.out.cell 0 rfl
  have vf0 := HX2.out.fz 0
  have v1 := HX2.out.cell 1 rfl
  have vf1 := HX2.out.fz 1
  have v2 := HX2.out.cell 2 rfl
  have vf2 := HX2.out.fz 2
  have hzV := HX2.out.lt
  clear hbf hrf
  go_wp2_with (first | (go_at_call 76; fail))
  obtain ⟨W, hW⟩ : ∃ x, x = w6 := ⟨_, rfl⟩
  subst hW
  refine (rrv_any 0 0 ⟨#[]⟩ W (by decide)).mono ?_
  rintro e w8 ⟨rfl, hb8⟩
  rw [show rightValueB 0 0 (⟨#[]⟩ : ByteArray).data.toList = false from rfl]
  have HC := Hid.mk (HC.out.below hb8)
  have HT := Hid.mk (HT.out.then (But.of hb8))
  have HX0 := Hid.mk (HX0.out.below hb8)
  have HX2 := Hid.mk (HX2.out.below hb8)
  have v0 := HX2.out.cell 0 rfl
  have vf0 := HX2.out.fz 0
  have v1 := HX2.out.cell 1 rfl
  have vf1 := HX2.out.fz 1
  have v2 := HX2.out.cell 2 rfl
  have vf2 := HX2.out.fz 2
  have a0 := HX0.out.cell 0 rfl
  have af0 := HX0.out.fz 0
  have a1 := HX0.out.cell 1 rfl
  have af1 := HX0.out.fz 1
  have a2 := HX0.out.cell 2 rfl
  have af2 := HX0.out.fz 2
  have a3 := HX0.out.cell 3 rfl
  have af3 := HX0.out.fz 3
  have hzV := HX2.out.lt
  have hzA := HX0.out.lt
  clear hb8
  go_wp2_with (first | (go_at_call 11; refine (HF.out _ _ _ _ HC.out).mono ?_; rintro e w9 ⟨rfl, hbf, hrf⟩; have HC := Hid.mk hrf; have HT := Hid.mk (HT.out.then hbf); have HX0 := Hid.mk (HX0.out.but hbf N0.out); have HX2 := Hid.mk (HX2.out.but hbf N2.out); have v0 := HX2.out.cell 0 rfl; have vf0 := HX2.out.fz 0; have v1 := HX2.out.cell 1 rfl; have vf1 := HX2.out.fz 1; have v2 := HX2.out.cell 2 rfl; have vf2 := HX2.out.fz 2; have a0 := HX0.out.cell 0 rfl; have af0 := HX0.out.fz 0; have a1 := HX0.out.cell 1 rfl; have af1 := HX0.out.fz 1; have a2 := HX0.out.cell 2 rfl; have af2 := HX0.out.fz 2; have a3 := HX0.out.cell 3 rfl; have af3 := HX0.out.fz 3; clear hbf hrf) | (go_at_call 16; refine (HO.out _ _ _ HC.out).mono ?_; rintro e w10 ⟨rfl, hbo⟩; have HC := Hid.mk (HC.out.below hbo); have HT := Hid.mk (HT.out.then (But.of hbo)); have HX0 := Hid.mk (HX0.out.below hbo); have HX2 := Hid.mk (HX2.out.below hbo); have v0 := HX2.out.cell 0 rfl; have vf0 := HX2.out.fz 0; have v1 := HX2.out.cell 1 rfl; have vf1 := HX2.out.fz 1; have v2 := HX2.out.cell 2 rfl; have vf2 := HX2.out.fz 2; have a0 := HX0.out.cell 0 rfl; have af0 := HX0.out.fz 0; have a1 := HX0.out.cell 1 rfl; have af1 := HX0.out.fz 1; have a2 := HX0.out.cell 2 rfl; have af2 := HX0.out.fz 2; have a3 := HX0.out.cell 3 rfl; have af3 := HX0.out.fz 3; have hzV := HX2.out.lt; have hzA := HX0.out.lt; clear hbo))
  skip
  have HBX : Hid (Box ((((w10.setCell ⟨w.heap.size, 0, none⟩ (.string ⟨#[]⟩)).setCell ⟨w.heap.size, 1, none⟩ (.int .i64 0)).setCell ⟨w.heap.size, 2, none⟩ (.int .i64 0)).setCell ⟨w.heap.size, 3, none⟩ (.string ⟨#[]⟩)) w.heap.size [.string ⟨#[]⟩, .int .i64 0, .int .i64 0, .string ⟨#[]⟩]) := Hid.mk (((((HX0.out).set 0 _).set 1 _).set 2 _).set 3 _)
  have z0 := HBX.out.cell 0 rfl
  have z1 := HBX.out.cell 1 rfl
  have z2 := HBX.out.cell 2 rfl
  have z3 := HBX.out.cell 3 rfl
  clear HBX
  refine bodyPost_ret (v := .agg #[.string ⟨#[]⟩, .int .i64 0, .int .i64 0, .string ⟨#[]⟩]) (by simp [results, Tryz.results49, go_sem, z0, z1, z2, z3]) rfl ?_
  refine ⟨(0, 0, []), some (3, hereT ts1), Or.inr (Or.inr (Or.inr ⟨hk1, fun q => absurd q hk2, rfl, rfl⟩)), rfl, ?_, ?_⟩
  · exact (((HT.out.put (Nat.le_refl _) _).put (Nat.le_refl _) _).put (Nat.le_refl _) _).put (Nat.le_refl _) _
  · exact RF.set (RF.set (RF.set (RF.set HC.out hlt) hlt) hlt) hlt
set_option maxRecDepth 100000 in
set_option maxHeartbeats 3200000 in
theorem argr_none_t_E (R : Nat) (ts ts1 : List Tk) (w : World) (h : RF w R ts none) (hk : kindT ts ≠ 0) (hm : seeB [45] ts none = true) (ht : takeT [45] ts none = ts1) (hk1 : kindT ts1 = 2) : Calls Tryz.prog 49 #[.pointer (some ⟨R, 0, none⟩)] w fun e w' => ∃ x bad2, ArgOut true ts1 none x bad2 ∧ e = .returned (.agg #[.string ⟨#[]⟩, .int .i64 x.1, .int .i64 x.2.1, .string (ba x.2.2)]) ∧ But R w w' ∧ RF w' R (if bad2.isNone then ts1.tail else ts1) bad2 := by
  have hlt := h.lt
  have HO : Hid (∀ V ts bad, RF V R ts bad → Calls Tryz.prog 16 #[.pointer (some ⟨R, 0, none⟩)] V fun e w' => e = .returned (.bool bad.isNone) ∧ Below V.heap.size V w') := Hid.mk fun V ts bad h => okr_any R ts bad V h
  have HF : Hid (∀ V ts bad c, RF V R ts bad → Calls Tryz.prog 11 #[.pointer (some ⟨R, 0, none⟩), .int .i64 c] V fun e w' => e = .returned (.tuple #[]) ∧ But R V w' ∧ RF w' R ts (bad.or (some (c, hereT ts)))) := Hid.mk fun V ts bad c h => failsr_any R ts bad c V h
  have HTK : Hid (∀ V, RF V R ts none → Calls Tryz.prog 28 #[.pointer (some ⟨R, 0, none⟩), .string (ba [45])] V fun e w' => e = .returned (.bool true) ∧ But R V w' ∧ RF w' R ts1 none) := Hid.mk fun V hV => by have := taker_any [45] R ts none V hV (by simp); rw [hm, ht] at this; exact this
  obtain ⟨w1, hw1⟩ : ∃ x, w.alloc (.cells #[.string ⟨#[]⟩, .int .i64 0, .int .i64 0, .string ⟨#[]⟩] 59) = x := ⟨_, rfl⟩
  have hb1 : Below w.heap.size w w1 := by rw [← hw1]; exact below_box _ _
  have hX0 : Box w1 w.heap.size [.string ⟨#[]⟩, .int .i64 0, .int .i64 0, .string ⟨#[]⟩] := by rw [← hw1]; exact Box.new w _ _ _ rfl
  have HC := Hid.mk (h.below hb1)
  have HT := Hid.mk (But.of (R := R) hb1)
  have HX0 := Hid.mk hX0
  have N0 : Hid (w.heap.size ≠ R) := Hid.mk (by omega)
  have hkb : (((kindT ts + 1 : Nat) : Int) == 1) = false := by simp; omega
  generalize hK : ((kindT ts + 1 : Nat) : Int) = K at *
  clear h hb1 hX0 hm ht hk
  have kb2 : (((kindT ts1 + 1 : Nat) : Int) == 2) = false := by simp; omega
  have kb3 : (((kindT ts1 + 1 : Nat) : Int) == 3) = true := by simp; omega
  generalize hK1 : ((kindT ts1 + 1 : Nat) : Int) = K1 at *
  generalize hTX : ba (textT ts1) = TX at *
  generalize hHR : ((hereT ts1 : Nat) : Int) = HR at *
  go_enter Tryz.func49, Tryz.ntmps49
  go_wp2_with (first | (go_at_call 16; refine (HO.out _ _ _ HC.out).mono ?_; rintro e w2 ⟨rfl, hbo⟩; have HC := Hid.mk (HC.out.below hbo); have HT := Hid.mk (HT.out.then (But.of hbo)); have HX0 := Hid.mk (HX0.out.below hbo); obtain ⟨b, o, cc, n, hc, hn, hcc, hR, hn1, k0, k1, k2, e1, e2⟩ := HC.out.head; rw [hK] at k0; have hlt2 := HC.out.lt; clear hn k1 k2 e1 e2; clear hbo) | (go_at_call 28; refine (HTK.out _ HC.out).mono ?_; rintro e w3 ⟨rfl, hb3, hr3⟩; have HC := Hid.mk hr3; have HT := Hid.mk (HT.out.then hb3); have HW3 := Hid.mk HT.out.size; have HX0 := Hid.mk (HX0.out.but hb3 N0.out); obtain ⟨b1, o1, cc1, n1, hc', hn', hcc', hR', hn1', j0, j1, j2, e1', e2'⟩ := HC.out.head; rw [hK1] at j0; rw [hTX] at j1; rw [hHR] at j2; have hlt3 := HC.out.lt; clear hb3 hr3 hn' e1' e2'; obtain ⟨w4, hw4⟩ : ∃ x, w3.alloc (.cells #[.int .i64 K1, .string TX, .int .i64 HR] 64) = x := ⟨_, rfl⟩; obtain ⟨v5, hv5⟩ : ∃ x, w4.alloc (.cells #[.int .i64 0, .int .i64 0, .string ⟨#[]⟩] 57) = x := ⟨_, rfl⟩; obtain ⟨w5, hw5⟩ : ∃ x, ((v5.setCell ⟨w3.heap.size + 1, 0, none⟩ (.int .i64 0)).setCell ⟨w3.heap.size + 1, 1, none⟩ (.int .i64 0)).setCell ⟨w3.heap.size + 1, 2, none⟩ (.string ⟨#[]⟩) = x := ⟨_, rfl⟩; have hs4 : w4.heap.size = w3.heap.size + 1 := (by rw [← hw4]; exact World.size_alloc _ _); have hb34 : Below w3.heap.size w3 w4 := (by rw [← hw4]; exact below_box _ _); have hb45 : Below w4.heap.size w4 v5 := (by rw [← hv5]; exact below_box _ _); have hX2' : Box v5 (w3.heap.size + 1) [.int .i64 0, .int .i64 0, .string ⟨#[]⟩] := (by rw [← hv5]; exact Box.new w4 _ _ _ hs4.symm); have p0 := hX2'.cell 0 rfl; have p1 := hX2'.cell 1 rfl; have p2 := hX2'.cell 2 rfl; have pf0 := hX2'.fz 0; have pf1 := hX2'.fz 1; have pf2 := hX2'.fz 2; have hzP := hX2'.lt; have hb5 : Below w4.heap.size w4 w5 := (by rw [← hw5]; exact ((hb45.setCell (p := ⟨w3.heap.size + 1, 0, none⟩) (Nat.le_of_eq hs4) _).setCell (p := ⟨w3.heap.size + 1, 1, none⟩) (Nat.le_of_eq hs4) _).setCell (p := ⟨w3.heap.size + 1, 2, none⟩) (Nat.le_of_eq hs4) _); have hb35 := bel_then hb34 hb5; have HX1 := Hid.mk (show Box w5 w3.heap.size [.int .i64 K1, .string TX, .int .i64 HR] from (show Box w4 w3.heap.size [.int .i64 K1, .string TX, .int .i64 HR] by rw [← hw4]; exact Box.new w3 _ _ _ rfl).below hb5); have HX2 := Hid.mk (show Box w5 (w3.heap.size + 1) [.int .i64 0, .int .i64 0, .string ⟨#[]⟩] by rw [← hw5]; exact ((hX2'.set 0 _).set 1 _).set 2 _); have q0 := (hb5.cell (p := ⟨w3.heap.size, 0, none⟩) (by show w3.heap.size < _; omega)); have HC := Hid.mk (HC.out.below hb35); have HT := Hid.mk (HT.out.then (But.of hb35)); have HX0 := Hid.mk (HX0.out.below hb35); have N1 : Hid (w3.heap.size ≠ R) := Hid.mk (by omega); have N2 : Hid (w3.heap.size + 1 ≠ R) := Hid.mk (by omega); have HSZ := Hid.mk (And.intro hlt3 hlt3); have t0 := HX1.out.cell 0 rfl; have t1 := HX1.out.cell 1 rfl; have v0 := HX2.out.cell 0 rfl; have vf0 := HX2.out.fz 0; have v1 := HX2.out.cell 1 rfl; have vf1 := HX2.out.fz 1; have v2 := HX2.out.cell 2 rfl; have vf2 := HX2.out.fz 2; clear hb34 hb45 hb35 hb5 hX2' q0) | (go_at_call 11; fail) | (go_at_call 31; fail) | (go_at_call 75; fail))
  refine (HF.out _ _ _ _ HC.out).mono ?_
  rintro e w6 ⟨rfl, hbf, hrf⟩
  have HC := Hid.mk hrf
  have HT := Hid.mk (HT.out.then hbf)
  have HX0 := Hid.mk (HX0.out.but hbf N0.out)
  have HX1 := Hid.mk (HX1.out.but hbf N1.out)
  have HX2 := Hid.mk (HX2.out.but hbf N2.out)
  have v0 := HX2.out.cell 0 rfl
  have vf0 := HX2.out.fz 0
  have v1 := HX2.out.cell 1 rfl
  have vf1 := HX2.out.fz 1
  have v2 := HX2.out.cell 2 rfl
  have vf2 := HX2.out.fz 2
  have hzV := HX2.out.lt
  clear hbf hrf
  go_wp2_with (first | (go_at_call 76; fail))
  obtain ⟨W, hW⟩ : ∃ x, x = w6 := ⟨_, rfl⟩
  subst hW
  refine (rrv_any 0 0 ⟨#[]⟩ W (by decide)).mono ?_
  rintro e w8 ⟨rfl, hb8⟩
  rw [show rightValueB 0 0 (⟨#[]⟩ : ByteArray).data.toList = false from rfl]
  have HC := Hid.mk (HC.out.below hb8)
  have HT := Hid.mk (HT.out.then (But.of hb8))
  have HX0 := Hid.mk (HX0.out.below hb8)
  have HX2 := Hid.mk (HX2.out.below hb8)
  have v0 := HX2.out.cell 0 rfl
  have vf0 := HX2.out.fz 0
  have v1 := HX2.out.cell 1 rfl
  have vf1 := HX2.out.fz 1
  have v2 := HX2.out.cell 2 rfl
  have vf2 := HX2.out.fz 2
  have a0 := HX0.out.cell 0 rfl
  have af0 := HX0.out.fz 0
  have a1 := HX0.out.cell 1 rfl
  have af1 := HX0.out.fz 1
  have a2 := HX0.out.cell 2 rfl
  have af2 := HX0.out.fz 2
  have a3 := HX0.out.cell 3 rfl
  have af3 := HX0.out.fz 3
  have hzV := HX2.out.lt
  have hzA := HX0.out.lt
  clear hb8
  go_wp2_with (first | (go_at_call 11; refine (HF.out _ _ _ _ HC.out).mono ?_; rintro e w9 ⟨rfl, hbf, hrf⟩; have HC := Hid.mk hrf; have HT := Hid.mk (HT.out.then hbf); have HX0 := Hid.mk (HX0.out.but hbf N0.out); have HX2 := Hid.mk (HX2.out.but hbf N2.out); have v0 := HX2.out.cell 0 rfl; have vf0 := HX2.out.fz 0; have v1 := HX2.out.cell 1 rfl; have vf1 := HX2.out.fz 1; have v2 := HX2.out.cell 2 rfl; have vf2 := HX2.out.fz 2; have a0 := HX0.out.cell 0 rfl; have af0 := HX0.out.fz 0; have a1 := HX0.out.cell 1 rfl; have af1 := HX0.out.fz 1; have a2 := HX0.out.cell 2 rfl; have af2 := HX0.out.fz 2; have a3 := HX0.out.cell 3 rfl; have af3 := HX0.out.fz 3; clear hbf hrf) | (go_at_call 16; refine (HO.out _ _ _ HC.out).mono ?_; rintro e w10 ⟨rfl, hbo⟩; have HC := Hid.mk (HC.out.below hbo); have HT := Hid.mk (HT.out.then (But.of hbo)); have HX0 := Hid.mk (HX0.out.below hbo); have HX2 := Hid.mk (HX2.out.below hbo); have v0 := HX2.out.cell 0 rfl; have vf0 := HX2.out.fz 0; have v1 := HX2.out.cell 1 rfl; have vf1 := HX2.out.fz 1; have v2 := HX2.out.cell 2 rfl; have vf2 := HX2.out.fz 2; have a0 := HX0.out.cell 0 rfl; have af0 := HX0.out.fz 0; have a1 := HX0.out.cell 1 rfl; have af1 := HX0.out.fz 1; have a2 := HX0.out.cell 2 rfl; have af2 := HX0.out.fz 2; have a3 := HX0.out.cell 3 rfl; have af3 := HX0.out.fz 3; have hzV := HX2.out.lt; have hzA := HX0.out.lt; clear hbo))
  skip
  have HBX : Hid (Box ((((w10.setCell ⟨w.heap.size, 0, none⟩ (.string ⟨#[]⟩)).setCell ⟨w.heap.size, 1, none⟩ (.int .i64 0)).setCell ⟨w.heap.size, 2, none⟩ (.int .i64 0)).setCell ⟨w.heap.size, 3, none⟩ (.string ⟨#[]⟩)) w.heap.size [.string ⟨#[]⟩, .int .i64 0, .int .i64 0, .string ⟨#[]⟩]) := Hid.mk (((((HX0.out).set 0 _).set 1 _).set 2 _).set 3 _)
  have z0 := HBX.out.cell 0 rfl
  have z1 := HBX.out.cell 1 rfl
  have z2 := HBX.out.cell 2 rfl
  have z3 := HBX.out.cell 3 rfl
  clear HBX
  refine bodyPost_ret (v := .agg #[.string ⟨#[]⟩, .int .i64 0, .int .i64 0, .string ⟨#[]⟩]) (by simp [results, Tryz.results49, go_sem, z0, z1, z2, z3]) rfl ?_
  refine ⟨(0, 0, []), some (3, hereT ts1), Or.inr (Or.inr (Or.inr ⟨by rw [hk1]; decide, fun _ => rfl, rfl, rfl⟩)), rfl, ?_, ?_⟩
  · exact (((HT.out.put (Nat.le_refl _) _).put (Nat.le_refl _) _).put (Nat.le_refl _) _).put (Nat.le_refl _) _
  · exact RF.set (RF.set (RF.set (RF.set HC.out hlt) hlt) hlt) hlt
set_option maxRecDepth 100000 in
set_option maxHeartbeats 3200000 in
theorem argr_none_f_N2 (R : Nat) (ts ts1 : List Tk) (w : World) (h : RF w R ts none) (hk : kindT ts ≠ 0) (hm : seeB [45] ts none = false) (ht : takeT [45] ts none = ts1) (hk1 : kindT ts1 = 1) (hok : ¬ okN (textT ts1)) : Calls Tryz.prog 49 #[.pointer (some ⟨R, 0, none⟩)] w fun e w' => ∃ x bad2, ArgOut false ts1 none x bad2 ∧ e = .returned (.agg #[.string ⟨#[]⟩, .int .i64 x.1, .int .i64 x.2.1, .string (ba x.2.2)]) ∧ But R w w' ∧ RF w' R (if bad2.isNone then ts1.tail else ts1) bad2 := by
  have hlt := h.lt
  have HO : Hid (∀ V ts bad, RF V R ts bad → Calls Tryz.prog 16 #[.pointer (some ⟨R, 0, none⟩)] V fun e w' => e = .returned (.bool bad.isNone) ∧ Below V.heap.size V w') := Hid.mk fun V ts bad h => okr_any R ts bad V h
  have HF : Hid (∀ V ts bad c, RF V R ts bad → Calls Tryz.prog 11 #[.pointer (some ⟨R, 0, none⟩), .int .i64 c] V fun e w' => e = .returned (.tuple #[]) ∧ But R V w' ∧ RF w' R ts (bad.or (some (c, hereT ts)))) := Hid.mk fun V ts bad c h => failsr_any R ts bad c V h
  have HTK : Hid (∀ V, RF V R ts none → Calls Tryz.prog 28 #[.pointer (some ⟨R, 0, none⟩), .string (ba [45])] V fun e w' => e = .returned (.bool false) ∧ But R V w' ∧ RF w' R ts1 none) := Hid.mk fun V hV => by have := taker_any [45] R ts none V hV (by simp); rw [hm, ht] at this; exact this
  obtain ⟨w1, hw1⟩ : ∃ x, w.alloc (.cells #[.string ⟨#[]⟩, .int .i64 0, .int .i64 0, .string ⟨#[]⟩] 59) = x := ⟨_, rfl⟩
  have hb1 : Below w.heap.size w w1 := by rw [← hw1]; exact below_box _ _
  have hX0 : Box w1 w.heap.size [.string ⟨#[]⟩, .int .i64 0, .int .i64 0, .string ⟨#[]⟩] := by rw [← hw1]; exact Box.new w _ _ _ rfl
  have HC := Hid.mk (h.below hb1)
  have HT := Hid.mk (But.of (R := R) hb1)
  have HX0 := Hid.mk hX0
  have N0 : Hid (w.heap.size ≠ R) := Hid.mk (by omega)
  have hkb : (((kindT ts + 1 : Nat) : Int) == 1) = false := by simp; omega
  generalize hK : ((kindT ts + 1 : Nat) : Int) = K at *
  clear h hb1 hX0 hm ht hk
  have kb2 : (((kindT ts1 + 1 : Nat) : Int) == 2) = true := by rw [hk1]; rfl
  generalize hK1 : ((kindT ts1 + 1 : Nat) : Int) = K1 at *
  generalize hTX : ba (textT ts1) = TX at *
  generalize hHR : ((hereT ts1 : Nat) : Int) = HR at *
  go_enter Tryz.func49, Tryz.ntmps49
  go_wp2_with (first | (go_at_call 16; refine (HO.out _ _ _ HC.out).mono ?_; rintro e w2 ⟨rfl, hbo⟩; have HC := Hid.mk (HC.out.below hbo); have HT := Hid.mk (HT.out.then (But.of hbo)); have HX0 := Hid.mk (HX0.out.below hbo); obtain ⟨b, o, cc, n, hc, hn, hcc, hR, hn1, k0, k1, k2, e1, e2⟩ := HC.out.head; rw [hK] at k0; have hlt2 := HC.out.lt; clear hn k1 k2 e1 e2; clear hbo) | (go_at_call 28; refine (HTK.out _ HC.out).mono ?_; rintro e w3 ⟨rfl, hb3, hr3⟩; have HC := Hid.mk hr3; have HT := Hid.mk (HT.out.then hb3); have HW3 := Hid.mk HT.out.size; have HX0 := Hid.mk (HX0.out.but hb3 N0.out); obtain ⟨b1, o1, cc1, n1, hc', hn', hcc', hR', hn1', j0, j1, j2, e1', e2'⟩ := HC.out.head; rw [hK1] at j0; rw [hTX] at j1; rw [hHR] at j2; have hlt3 := HC.out.lt; clear hb3 hr3 hn' e1' e2'; obtain ⟨w4, hw4⟩ : ∃ x, w3.alloc (.cells #[.int .i64 K1, .string TX, .int .i64 HR] 64) = x := ⟨_, rfl⟩; obtain ⟨v5, hv5⟩ : ∃ x, w4.alloc (.cells #[.int .i64 0, .int .i64 0, .string ⟨#[]⟩] 57) = x := ⟨_, rfl⟩; obtain ⟨w5, hw5⟩ : ∃ x, ((v5.setCell ⟨w3.heap.size + 1, 0, none⟩ (.int .i64 0)).setCell ⟨w3.heap.size + 1, 1, none⟩ (.int .i64 0)).setCell ⟨w3.heap.size + 1, 2, none⟩ (.string ⟨#[]⟩) = x := ⟨_, rfl⟩; have hs4 : w4.heap.size = w3.heap.size + 1 := (by rw [← hw4]; exact World.size_alloc _ _); have hb34 : Below w3.heap.size w3 w4 := (by rw [← hw4]; exact below_box _ _); have hb45 : Below w4.heap.size w4 v5 := (by rw [← hv5]; exact below_box _ _); have hX2' : Box v5 (w3.heap.size + 1) [.int .i64 0, .int .i64 0, .string ⟨#[]⟩] := (by rw [← hv5]; exact Box.new w4 _ _ _ hs4.symm); have p0 := hX2'.cell 0 rfl; have p1 := hX2'.cell 1 rfl; have p2 := hX2'.cell 2 rfl; have pf0 := hX2'.fz 0; have pf1 := hX2'.fz 1; have pf2 := hX2'.fz 2; have hzP := hX2'.lt; have hb5 : Below w4.heap.size w4 w5 := (by rw [← hw5]; exact ((hb45.setCell (p := ⟨w3.heap.size + 1, 0, none⟩) (Nat.le_of_eq hs4) _).setCell (p := ⟨w3.heap.size + 1, 1, none⟩) (Nat.le_of_eq hs4) _).setCell (p := ⟨w3.heap.size + 1, 2, none⟩) (Nat.le_of_eq hs4) _); have hb35 := bel_then hb34 hb5; have HX1 := Hid.mk (show Box w5 w3.heap.size [.int .i64 K1, .string TX, .int .i64 HR] from (show Box w4 w3.heap.size [.int .i64 K1, .string TX, .int .i64 HR] by rw [← hw4]; exact Box.new w3 _ _ _ rfl).below hb5); have HX2 := Hid.mk (show Box w5 (w3.heap.size + 1) [.int .i64 0, .int .i64 0, .string ⟨#[]⟩] by rw [← hw5]; exact ((hX2'.set 0 _).set 1 _).set 2 _); have q0 := (hb5.cell (p := ⟨w3.heap.size, 0, none⟩) (by show w3.heap.size < _; omega)); have HC := Hid.mk (HC.out.below hb35); have HT := Hid.mk (HT.out.then (But.of hb35)); have HX0 := Hid.mk (HX0.out.below hb35); have N1 : Hid (w3.heap.size ≠ R) := Hid.mk (by omega); have N2 : Hid (w3.heap.size + 1 ≠ R) := Hid.mk (by omega); have HSZ := Hid.mk (And.intro hlt3 hlt3); have t0 := HX1.out.cell 0 rfl; have t1 := HX1.out.cell 1 rfl; have v0 := HX2.out.cell 0 rfl; have vf0 := HX2.out.fz 0; have v1 := HX2.out.cell 1 rfl; have vf1 := HX2.out.fz 1; have v2 := HX2.out.cell 2 rfl; have vf2 := HX2.out.fz 2; clear hb34 hb45 hb35 hb5 hX2' q0) | (go_at_call 11; fail) | (go_at_call 31; fail) | (go_at_call 75; fail))
  refine (show Calls Tryz.prog 31 #[.string TX] w5 _ from (by rw [← hTX]; exact atoiR_any (textT ts1) w5 (by obtain ⟨t, -, -, e2, -, -, hl⟩ := HC.out.head_tok; rw [e2]; exact hl) HC.out.env.fl)).mono ?_
  rintro e w6 ⟨q6, rfl, hq6, hb6⟩
  obtain ⟨-, tp, pq, rfl⟩ := hq6.resolve_left (fun hh => hok hh.1)
  have NUM : Hid (0 ≤ atoiN (textT ts1)) := Hid.mk (by obtain ⟨t, -, e1, e2, -, hd, -⟩ := HC.out.head_tok; rw [e2]; exact atoi_pos (hd (by rw [← e1]; exact hk1)))
  have RNG : Hid (atoiN (textT ts1) = 9223372036854775807) := Hid.mk (by obtain ⟨t, -, e1, e2, hT, hd, -⟩ := HC.out.head_tok; rw [e2] at hok ⊢; exact range_not hok (hT.2.1 (by rw [← e1]; exact hk1)) (hd (by rw [← e1]; exact hk1)))
  have NLE := Hid.mk (atoiN_le (textT ts1))
  have hng := neg_in NUM.out NLE.out
  have HC := Hid.mk (HC.out.below hb6)
  have HT := Hid.mk (HT.out.then (But.of hb6))
  have HX0 := Hid.mk (HX0.out.below hb6)
  have HX1 := Hid.mk (HX1.out.below hb6)
  have HX2 := Hid.mk (HX2.out.below hb6)
  have v0 := HX2.out.cell 0 rfl
  have vf0 := HX2.out.fz 0
  have v1 := HX2.out.cell 1 rfl
  have vf1 := HX2.out.fz 1
  have v2 := HX2.out.cell 2 rfl
  have vf2 := HX2.out.fz 2
  have hzV := HX2.out.lt
  clear hb6 hq6
  generalize hAN : atoiN (textT ts1) = AN at *
  go_wp2_with (first | (go_at_call 11; refine (HF.out _ _ _ _ HC.out).mono ?_; rintro e w7 ⟨rfl, hbf, hrf⟩; have HC := Hid.mk hrf; have HT := Hid.mk (HT.out.then hbf); have HX0 := Hid.mk (HX0.out.but hbf N0.out); have HX1 := Hid.mk (HX1.out.but hbf N1.out); have HX2 := Hid.mk (HX2.out.but hbf N2.out); have v0 := HX2.out.cell 0 rfl; have vf0 := HX2.out.fz 0; have v1 := HX2.out.cell 1 rfl; have vf1 := HX2.out.fz 1; have v2 := HX2.out.cell 2 rfl; have vf2 := HX2.out.fz 2; have hzV := HX2.out.lt; clear hbf hrf) | (go_at_call 76; fail))
  obtain ⟨W, hW⟩ : ∃ x, (((w7.setCell ⟨w3.heap.size + 1, 0, none⟩ (.int .i64 1)).setCell ⟨w3.heap.size + 1, 1, none⟩ (.int .i64 AN)).setCell ⟨w3.heap.size + 1, 2, none⟩ (.string ⟨#[]⟩)) = x := ⟨_, rfl⟩
  have hRk : R < w3.heap.size + 1 := Nat.lt_succ_of_lt HSZ.out.1
  have hRw : w.heap.size ≤ w3.heap.size := HW3.out
  have HC : Hid (RF W R ts1 _) := Hid.mk (by rw [← hW]; exact RF.set (RF.set (RF.set HC.out hRk) hRk) hRk)
  have HT : Hid (But R w W) := Hid.mk (by rw [← hW]; exact ((HT.out.put (Nat.le_succ_of_le hRw) _).put (Nat.le_succ_of_le hRw) _).put (Nat.le_succ_of_le hRw) _)
  have HX2 : Hid (Box W (w3.heap.size + 1) [.int .i64 1, .int .i64 AN, .string ⟨#[]⟩]) := Hid.mk (by rw [← hW]; exact ((HX2.out.set 0 _).set 1 _).set 2 _)
  have HX0 : Hid (Box W w.heap.size [.string ⟨#[]⟩, .int .i64 0, .int .i64 0, .string ⟨#[]⟩]) := Hid.mk (by rw [← hW]; exact ((HX0.out.other _ _ (by omega)).other _ _ (by omega)).other _ _ (by omega))
  rw [hW]
  clear hW
  refine (rrv_any 1 AN ⟨#[]⟩ W (by decide)).mono ?_
  rintro e w8 ⟨rfl, hb8⟩
  have hrt : rightValueB 1 AN (⟨#[]⟩ : ByteArray).data.toList = false := by
    show rightValueB 1 AN [] = false
    have := RNG.out
    unfold rightValueB
    rw [if_pos rfl, Bool.and_eq_false_iff, Bool.and_eq_false_iff]
    simp only [decide_eq_false_iff_not]
    omega
  rw [hrt]
  have HC := Hid.mk (HC.out.below hb8)
  have HT := Hid.mk (HT.out.then (But.of hb8))
  have HX0 := Hid.mk (HX0.out.below hb8)
  have HX2 := Hid.mk (HX2.out.below hb8)
  have v0 := HX2.out.cell 0 rfl
  have vf0 := HX2.out.fz 0
  have v1 := HX2.out.cell 1 rfl
  have vf1 := HX2.out.fz 1
  have v2 := HX2.out.cell 2 rfl
  have vf2 := HX2.out.fz 2
  have a0 := HX0.out.cell 0 rfl
  have af0 := HX0.out.fz 0
  have a1 := HX0.out.cell 1 rfl
  have af1 := HX0.out.fz 1
  have a2 := HX0.out.cell 2 rfl
  have af2 := HX0.out.fz 2
  have a3 := HX0.out.cell 3 rfl
  have af3 := HX0.out.fz 3
  have hzV := HX2.out.lt
  have hzA := HX0.out.lt
  clear hb8
  go_wp2_with (first | (go_at_call 11; refine (HF.out _ _ _ _ HC.out).mono ?_; rintro e w9 ⟨rfl, hbf, hrf⟩; have HC := Hid.mk hrf; have HT := Hid.mk (HT.out.then hbf); have HX0 := Hid.mk (HX0.out.but hbf N0.out); have HX2 := Hid.mk (HX2.out.but hbf N2.out); have v0 := HX2.out.cell 0 rfl; have vf0 := HX2.out.fz 0; have v1 := HX2.out.cell 1 rfl; have vf1 := HX2.out.fz 1; have v2 := HX2.out.cell 2 rfl; have vf2 := HX2.out.fz 2; have a0 := HX0.out.cell 0 rfl; have af0 := HX0.out.fz 0; have a1 := HX0.out.cell 1 rfl; have af1 := HX0.out.fz 1; have a2 := HX0.out.cell 2 rfl; have af2 := HX0.out.fz 2; have a3 := HX0.out.cell 3 rfl; have af3 := HX0.out.fz 3; clear hbf hrf) | (go_at_call 16; refine (HO.out _ _ _ HC.out).mono ?_; rintro e w10 ⟨rfl, hbo⟩; have HC := Hid.mk (HC.out.below hbo); have HT := Hid.mk (HT.out.then (But.of hbo)); have HX0 := Hid.mk (HX0.out.below hbo); have HX2 := Hid.mk (HX2.out.below hbo); have v0 := HX2.out.cell 0 rfl; have vf0 := HX2.out.fz 0; have v1 := HX2.out.cell 1 rfl; have vf1 := HX2.out.fz 1; have v2 := HX2.out.cell 2 rfl; have vf2 := HX2.out.fz 2; have a0 := HX0.out.cell 0 rfl; have af0 := HX0.out.fz 0; have a1 := HX0.out.cell 1 rfl; have af1 := HX0.out.fz 1; have a2 := HX0.out.cell 2 rfl; have af2 := HX0.out.fz 2; have a3 := HX0.out.cell 3 rfl; have af3 := HX0.out.fz 3; have hzV := HX2.out.lt; have hzA := HX0.out.lt; clear hbo))
  skip
  have HBX : Hid (Box ((((w10.setCell ⟨w.heap.size, 0, none⟩ (.string ⟨#[]⟩)).setCell ⟨w.heap.size, 1, none⟩ (.int .i64 1)).setCell ⟨w.heap.size, 2, none⟩ (.int .i64 AN)).setCell ⟨w.heap.size, 3, none⟩ (.string ⟨#[]⟩)) w.heap.size [.string ⟨#[]⟩, .int .i64 1, .int .i64 AN, .string ⟨#[]⟩]) := Hid.mk (((((HX0.out).set 0 _).set 1 _).set 2 _).set 3 _)
  have z0 := HBX.out.cell 0 rfl
  have z1 := HBX.out.cell 1 rfl
  have z2 := HBX.out.cell 2 rfl
  have z3 := HBX.out.cell 3 rfl
  clear HBX
  refine bodyPost_ret (v := .agg #[.string ⟨#[]⟩, .int .i64 1, .int .i64 AN, .string ⟨#[]⟩]) (by simp [results, Tryz.results49, go_sem, z0, z1, z2, z3]) rfl ?_
  refine ⟨(1, AN, []), some (4, hereT ts1), Or.inr (Or.inl ⟨hk1, hok, rfl, rfl, rfl⟩), rfl, ?_, ?_⟩
  · exact (((HT.out.put (Nat.le_refl _) _).put (Nat.le_refl _) _).put (Nat.le_refl _) _).put (Nat.le_refl _) _
  · exact RF.set (RF.set (RF.set (RF.set HC.out hlt) hlt) hlt) hlt
set_option maxRecDepth 100000 in
set_option maxHeartbeats 3200000 in
theorem argr_none_f_N1r (R : Nat) (ts ts1 : List Tk) (w : World) (h : RF w R ts none) (hk : kindT ts ≠ 0) (hm : seeB [45] ts none = false) (ht : takeT [45] ts none = ts1) (hk1 : kindT ts1 = 1) (hok : okN (textT ts1)) (hr : rightValueB 1 (atoiN (textT ts1)) [] = true) : Calls Tryz.prog 49 #[.pointer (some ⟨R, 0, none⟩)] w fun e w' => ∃ x bad2, ArgOut false ts1 none x bad2 ∧ e = .returned (.agg #[.string ⟨#[]⟩, .int .i64 x.1, .int .i64 x.2.1, .string (ba x.2.2)]) ∧ But R w w' ∧ RF w' R (if bad2.isNone then ts1.tail else ts1) bad2 := by
  have hlt := h.lt
  have HO : Hid (∀ V ts bad, RF V R ts bad → Calls Tryz.prog 16 #[.pointer (some ⟨R, 0, none⟩)] V fun e w' => e = .returned (.bool bad.isNone) ∧ Below V.heap.size V w') := Hid.mk fun V ts bad h => okr_any R ts bad V h
  have HF : Hid (∀ V ts bad c, RF V R ts bad → Calls Tryz.prog 11 #[.pointer (some ⟨R, 0, none⟩), .int .i64 c] V fun e w' => e = .returned (.tuple #[]) ∧ But R V w' ∧ RF w' R ts (bad.or (some (c, hereT ts)))) := Hid.mk fun V ts bad c h => failsr_any R ts bad c V h
  have HTK : Hid (∀ V, RF V R ts none → Calls Tryz.prog 28 #[.pointer (some ⟨R, 0, none⟩), .string (ba [45])] V fun e w' => e = .returned (.bool false) ∧ But R V w' ∧ RF w' R ts1 none) := Hid.mk fun V hV => by have := taker_any [45] R ts none V hV (by simp); rw [hm, ht] at this; exact this
  obtain ⟨w1, hw1⟩ : ∃ x, w.alloc (.cells #[.string ⟨#[]⟩, .int .i64 0, .int .i64 0, .string ⟨#[]⟩] 59) = x := ⟨_, rfl⟩
  have hb1 : Below w.heap.size w w1 := by rw [← hw1]; exact below_box _ _
  have hX0 : Box w1 w.heap.size [.string ⟨#[]⟩, .int .i64 0, .int .i64 0, .string ⟨#[]⟩] := by rw [← hw1]; exact Box.new w _ _ _ rfl
  have HC := Hid.mk (h.below hb1)
  have HT := Hid.mk (But.of (R := R) hb1)
  have HX0 := Hid.mk hX0
  have N0 : Hid (w.heap.size ≠ R) := Hid.mk (by omega)
  have hkb : (((kindT ts + 1 : Nat) : Int) == 1) = false := by simp; omega
  generalize hK : ((kindT ts + 1 : Nat) : Int) = K at *
  clear h hb1 hX0 hm ht hk
  have kb2 : (((kindT ts1 + 1 : Nat) : Int) == 2) = true := by rw [hk1]; rfl
  generalize hK1 : ((kindT ts1 + 1 : Nat) : Int) = K1 at *
  generalize hTX : ba (textT ts1) = TX at *
  generalize hHR : ((hereT ts1 : Nat) : Int) = HR at *
  go_enter Tryz.func49, Tryz.ntmps49
  go_wp2_with (first | (go_at_call 16; refine (HO.out _ _ _ HC.out).mono ?_; rintro e w2 ⟨rfl, hbo⟩; have HC := Hid.mk (HC.out.below hbo); have HT := Hid.mk (HT.out.then (But.of hbo)); have HX0 := Hid.mk (HX0.out.below hbo); obtain ⟨b, o, cc, n, hc, hn, hcc, hR, hn1, k0, k1, k2, e1, e2⟩ := HC.out.head; rw [hK] at k0; have hlt2 := HC.out.lt; clear hn k1 k2 e1 e2; clear hbo) | (go_at_call 28; refine (HTK.out _ HC.out).mono ?_; rintro e w3 ⟨rfl, hb3, hr3⟩; have HC := Hid.mk hr3; have HT := Hid.mk (HT.out.then hb3); have HW3 := Hid.mk HT.out.size; have HX0 := Hid.mk (HX0.out.but hb3 N0.out); obtain ⟨b1, o1, cc1, n1, hc', hn', hcc', hR', hn1', j0, j1, j2, e1', e2'⟩ := HC.out.head; rw [hK1] at j0; rw [hTX] at j1; rw [hHR] at j2; have hlt3 := HC.out.lt; clear hb3 hr3 hn' e1' e2'; obtain ⟨w4, hw4⟩ : ∃ x, w3.alloc (.cells #[.int .i64 K1, .string TX, .int .i64 HR] 64) = x := ⟨_, rfl⟩; obtain ⟨v5, hv5⟩ : ∃ x, w4.alloc (.cells #[.int .i64 0, .int .i64 0, .string ⟨#[]⟩] 57) = x := ⟨_, rfl⟩; obtain ⟨w5, hw5⟩ : ∃ x, ((v5.setCell ⟨w3.heap.size + 1, 0, none⟩ (.int .i64 0)).setCell ⟨w3.heap.size + 1, 1, none⟩ (.int .i64 0)).setCell ⟨w3.heap.size + 1, 2, none⟩ (.string ⟨#[]⟩) = x := ⟨_, rfl⟩; have hs4 : w4.heap.size = w3.heap.size + 1 := (by rw [← hw4]; exact World.size_alloc _ _); have hb34 : Below w3.heap.size w3 w4 := (by rw [← hw4]; exact below_box _ _); have hb45 : Below w4.heap.size w4 v5 := (by rw [← hv5]; exact below_box _ _); have hX2' : Box v5 (w3.heap.size + 1) [.int .i64 0, .int .i64 0, .string ⟨#[]⟩] := (by rw [← hv5]; exact Box.new w4 _ _ _ hs4.symm); have p0 := hX2'.cell 0 rfl; have p1 := hX2'.cell 1 rfl; have p2 := hX2'.cell 2 rfl; have pf0 := hX2'.fz 0; have pf1 := hX2'.fz 1; have pf2 := hX2'.fz 2; have hzP := hX2'.lt; have hb5 : Below w4.heap.size w4 w5 := (by rw [← hw5]; exact ((hb45.setCell (p := ⟨w3.heap.size + 1, 0, none⟩) (Nat.le_of_eq hs4) _).setCell (p := ⟨w3.heap.size + 1, 1, none⟩) (Nat.le_of_eq hs4) _).setCell (p := ⟨w3.heap.size + 1, 2, none⟩) (Nat.le_of_eq hs4) _); have hb35 := bel_then hb34 hb5; have HX1 := Hid.mk (show Box w5 w3.heap.size [.int .i64 K1, .string TX, .int .i64 HR] from (show Box w4 w3.heap.size [.int .i64 K1, .string TX, .int .i64 HR] by rw [← hw4]; exact Box.new w3 _ _ _ rfl).below hb5); have HX2 := Hid.mk (show Box w5 (w3.heap.size + 1) [.int .i64 0, .int .i64 0, .string ⟨#[]⟩] by rw [← hw5]; exact ((hX2'.set 0 _).set 1 _).set 2 _); have q0 := (hb5.cell (p := ⟨w3.heap.size, 0, none⟩) (by show w3.heap.size < _; omega)); have HC := Hid.mk (HC.out.below hb35); have HT := Hid.mk (HT.out.then (But.of hb35)); have HX0 := Hid.mk (HX0.out.below hb35); have N1 : Hid (w3.heap.size ≠ R) := Hid.mk (by omega); have N2 : Hid (w3.heap.size + 1 ≠ R) := Hid.mk (by omega); have HSZ := Hid.mk (And.intro hlt3 hlt3); have t0 := HX1.out.cell 0 rfl; have t1 := HX1.out.cell 1 rfl; have v0 := HX2.out.cell 0 rfl; have vf0 := HX2.out.fz 0; have v1 := HX2.out.cell 1 rfl; have vf1 := HX2.out.fz 1; have v2 := HX2.out.cell 2 rfl; have vf2 := HX2.out.fz 2; clear hb34 hb45 hb35 hb5 hX2' q0) | (go_at_call 11; fail) | (go_at_call 31; fail) | (go_at_call 75; fail))
  refine (show Calls Tryz.prog 31 #[.string TX] w5 _ from (by rw [← hTX]; exact atoiR_any (textT ts1) w5 (by obtain ⟨t, -, -, e2, -, -, hl⟩ := HC.out.head_tok; rw [e2]; exact hl) HC.out.env.fl)).mono ?_
  rintro e w6 ⟨q6, rfl, hq6, hb6⟩
  obtain ⟨-, rfl⟩ := hq6.resolve_right (fun hh => hh.1 hok)
  have NUM : Hid (0 ≤ atoiN (textT ts1)) := Hid.mk (by obtain ⟨t, -, e1, e2, -, hd, -⟩ := HC.out.head_tok; rw [e2]; exact atoi_pos (hd (by rw [← e1]; exact hk1)))
  have NLE := Hid.mk (atoiN_le (textT ts1))
  have hng := neg_in NUM.out NLE.out
  have HC := Hid.mk (HC.out.below hb6)
  have HT := Hid.mk (HT.out.then (But.of hb6))
  have HX0 := Hid.mk (HX0.out.below hb6)
  have HX1 := Hid.mk (HX1.out.below hb6)
  have HX2 := Hid.mk (HX2.out.below hb6)
  have v0 := HX2.out.cell 0 rfl
  have vf0 := HX2.out.fz 0
  have v1 := HX2.out.cell 1 rfl
  have vf1 := HX2.out.fz 1
  have v2 := HX2.out.cell 2 rfl
  have vf2 := HX2.out.fz 2
  have hzV := HX2.out.lt
  clear hb6 hq6
  generalize hAN : atoiN (textT ts1) = AN at *
  go_wp2_with (first | (go_at_call 11; refine (HF.out _ _ _ _ HC.out).mono ?_; rintro e w7 ⟨rfl, hbf, hrf⟩; have HC := Hid.mk hrf; have HT := Hid.mk (HT.out.then hbf); have HX0 := Hid.mk (HX0.out.but hbf N0.out); have HX1 := Hid.mk (HX1.out.but hbf N1.out); have HX2 := Hid.mk (HX2.out.but hbf N2.out); have v0 := HX2.out.cell 0 rfl; have vf0 := HX2.out.fz 0; have v1 := HX2.out.cell 1 rfl; have vf1 := HX2.out.fz 1; have v2 := HX2.out.cell 2 rfl; have vf2 := HX2.out.fz 2; have hzV := HX2.out.lt; clear hbf hrf) | (go_at_call 76; fail))
  obtain ⟨W, hW⟩ : ∃ x, (((w6.setCell ⟨w3.heap.size + 1, 0, none⟩ (.int .i64 1)).setCell ⟨w3.heap.size + 1, 1, none⟩ (.int .i64 AN)).setCell ⟨w3.heap.size + 1, 2, none⟩ (.string ⟨#[]⟩)) = x := ⟨_, rfl⟩
  have hRk : R < w3.heap.size + 1 := Nat.lt_succ_of_lt HSZ.out.1
  have hRw : w.heap.size ≤ w3.heap.size := HW3.out
  have HC : Hid (RF W R ts1 _) := Hid.mk (by rw [← hW]; exact RF.set (RF.set (RF.set HC.out hRk) hRk) hRk)
  have HT : Hid (But R w W) := Hid.mk (by rw [← hW]; exact ((HT.out.put (Nat.le_succ_of_le hRw) _).put (Nat.le_succ_of_le hRw) _).put (Nat.le_succ_of_le hRw) _)
  have HX2 : Hid (Box W (w3.heap.size + 1) [.int .i64 1, .int .i64 AN, .string ⟨#[]⟩]) := Hid.mk (by rw [← hW]; exact ((HX2.out.set 0 _).set 1 _).set 2 _)
  have HX0 : Hid (Box W w.heap.size [.string ⟨#[]⟩, .int .i64 0, .int .i64 0, .string ⟨#[]⟩]) := Hid.mk (by rw [← hW]; exact ((HX0.out.other _ _ (by omega)).other _ _ (by omega)).other _ _ (by omega))
  rw [hW]
  clear hW
  refine (rrv_any 1 AN ⟨#[]⟩ W (by decide)).mono ?_
  rintro e w8 ⟨rfl, hb8⟩
  have hrt : rightValueB 1 AN (⟨#[]⟩ : ByteArray).data.toList = true := by
    show rightValueB 1 AN [] = _
    simpa using hr
  rw [hrt]
  have HC := Hid.mk (HC.out.below hb8)
  have HT := Hid.mk (HT.out.then (But.of hb8))
  have HX0 := Hid.mk (HX0.out.below hb8)
  have HX2 := Hid.mk (HX2.out.below hb8)
  have v0 := HX2.out.cell 0 rfl
  have vf0 := HX2.out.fz 0
  have v1 := HX2.out.cell 1 rfl
  have vf1 := HX2.out.fz 1
  have v2 := HX2.out.cell 2 rfl
  have vf2 := HX2.out.fz 2
  have a0 := HX0.out.cell 0 rfl
  have af0 := HX0.out.fz 0
  have a1 := HX0.out.cell 1 rfl
  have af1 := HX0.out.fz 1
  have a2 := HX0.out.cell 2 rfl
  have af2 := HX0.out.fz 2
  have a3 := HX0.out.cell 3 rfl
  have af3 := HX0.out.fz 3
  have hzV := HX2.out.lt
  have hzA := HX0.out.lt
  clear hb8
  have hne4 : kindT ts1 ≠ 4 := by rw [hk1]; decide
  go_wp2_with (first | (go_at_call 16; refine (HO.out _ _ _ HC.out).mono ?_; rintro e w10 ⟨rfl, hbo⟩; have HC := Hid.mk (HC.out.below hbo); have HT := Hid.mk (HT.out.then (But.of hbo)); have HX0 := Hid.mk (HX0.out.below hbo); have HX2 := Hid.mk (HX2.out.below hbo); have v0 := HX2.out.cell 0 rfl; have vf0 := HX2.out.fz 0; have v1 := HX2.out.cell 1 rfl; have vf1 := HX2.out.fz 1; have v2 := HX2.out.cell 2 rfl; have vf2 := HX2.out.fz 2; have a0 := HX0.out.cell 0 rfl; have af0 := HX0.out.fz 0; have a1 := HX0.out.cell 1 rfl; have af1 := HX0.out.fz 1; have a2 := HX0.out.cell 2 rfl; have af2 := HX0.out.fz 2; have a3 := HX0.out.cell 3 rfl; have af3 := HX0.out.fz 3; have hzV := HX2.out.lt; have hzA := HX0.out.lt; obtain ⟨b2, o2, cc2, n2, hc2, hn2, hcc2, hR2, hn12, -⟩ := HC.out.head; have HTT := Hid.mk (HC.out.taken (Or.inl hne4) hc2); have hf2 := HC.out.fz 0; have hlt10 := HC.out.lt; have hcc1 : ¬ cc2 = 1 := no_one hn2 hcc2 HTT.out; clear hn2; clear hbo))
  skip
  have HBX : Hid (Box (((((w10.setCell ⟨R, 0, none⟩ (.slice (some ⟨b2, o2 + 3, none⟩) n2 (cc2 - 1))).setCell ⟨w.heap.size, 0, none⟩ (.string ⟨#[]⟩)).setCell ⟨w.heap.size, 1, none⟩ (.int .i64 1)).setCell ⟨w.heap.size, 2, none⟩ (.int .i64 AN)).setCell ⟨w.heap.size, 3, none⟩ (.string ⟨#[]⟩)) w.heap.size [.string ⟨#[]⟩, .int .i64 1, .int .i64 AN, .string ⟨#[]⟩]) := Hid.mk (((((HX0.out.other 0 _ N0.out).set 0 _).set 1 _).set 2 _).set 3 _)
  have z0 := HBX.out.cell 0 rfl
  have z1 := HBX.out.cell 1 rfl
  have z2 := HBX.out.cell 2 rfl
  have z3 := HBX.out.cell 3 rfl
  clear HBX
  refine bodyPost_ret (v := .agg #[.string ⟨#[]⟩, .int .i64 1, .int .i64 AN, .string ⟨#[]⟩]) (by simp [results, Tryz.results49, go_sem, z0, z1, z2, z3]) rfl ?_
  refine ⟨(1, AN, []), none, Or.inl ⟨hk1, hok, by rw [hAN]; rfl, by rw [hAN, if_neg (by simp), hr]; rfl⟩, rfl, ?_, ?_⟩
  · exact ((((HT.out.then (But.set R 0 _ _)).put (Nat.le_refl _) _).put (Nat.le_refl _) _).put (Nat.le_refl _) _).put (Nat.le_refl _) _
  · exact RF.set (RF.set (RF.set (RF.set HTT.out hlt) hlt) hlt) hlt
set_option maxRecDepth 100000 in
set_option maxHeartbeats 3200000 in
theorem argr_none_f_N1n (R : Nat) (ts ts1 : List Tk) (w : World) (h : RF w R ts none) (hk : kindT ts ≠ 0) (hm : seeB [45] ts none = false) (ht : takeT [45] ts none = ts1) (hk1 : kindT ts1 = 1) (hok : okN (textT ts1)) (hr : rightValueB 1 (atoiN (textT ts1)) [] = false) : Calls Tryz.prog 49 #[.pointer (some ⟨R, 0, none⟩)] w fun e w' => ∃ x bad2, ArgOut false ts1 none x bad2 ∧ e = .returned (.agg #[.string ⟨#[]⟩, .int .i64 x.1, .int .i64 x.2.1, .string (ba x.2.2)]) ∧ But R w w' ∧ RF w' R (if bad2.isNone then ts1.tail else ts1) bad2 := by
  have hlt := h.lt
  have HO : Hid (∀ V ts bad, RF V R ts bad → Calls Tryz.prog 16 #[.pointer (some ⟨R, 0, none⟩)] V fun e w' => e = .returned (.bool bad.isNone) ∧ Below V.heap.size V w') := Hid.mk fun V ts bad h => okr_any R ts bad V h
  have HF : Hid (∀ V ts bad c, RF V R ts bad → Calls Tryz.prog 11 #[.pointer (some ⟨R, 0, none⟩), .int .i64 c] V fun e w' => e = .returned (.tuple #[]) ∧ But R V w' ∧ RF w' R ts (bad.or (some (c, hereT ts)))) := Hid.mk fun V ts bad c h => failsr_any R ts bad c V h
  have HTK : Hid (∀ V, RF V R ts none → Calls Tryz.prog 28 #[.pointer (some ⟨R, 0, none⟩), .string (ba [45])] V fun e w' => e = .returned (.bool false) ∧ But R V w' ∧ RF w' R ts1 none) := Hid.mk fun V hV => by have := taker_any [45] R ts none V hV (by simp); rw [hm, ht] at this; exact this
  obtain ⟨w1, hw1⟩ : ∃ x, w.alloc (.cells #[.string ⟨#[]⟩, .int .i64 0, .int .i64 0, .string ⟨#[]⟩] 59) = x := ⟨_, rfl⟩
  have hb1 : Below w.heap.size w w1 := by rw [← hw1]; exact below_box _ _
  have hX0 : Box w1 w.heap.size [.string ⟨#[]⟩, .int .i64 0, .int .i64 0, .string ⟨#[]⟩] := by rw [← hw1]; exact Box.new w _ _ _ rfl
  have HC := Hid.mk (h.below hb1)
  have HT := Hid.mk (But.of (R := R) hb1)
  have HX0 := Hid.mk hX0
  have N0 : Hid (w.heap.size ≠ R) := Hid.mk (by omega)
  have hkb : (((kindT ts + 1 : Nat) : Int) == 1) = false := by simp; omega
  generalize hK : ((kindT ts + 1 : Nat) : Int) = K at *
  clear h hb1 hX0 hm ht hk
  have kb2 : (((kindT ts1 + 1 : Nat) : Int) == 2) = true := by rw [hk1]; rfl
  generalize hK1 : ((kindT ts1 + 1 : Nat) : Int) = K1 at *
  generalize hTX : ba (textT ts1) = TX at *
  generalize hHR : ((hereT ts1 : Nat) : Int) = HR at *
  go_enter Tryz.func49, Tryz.ntmps49
  go_wp2_with (first | (go_at_call 16; refine (HO.out _ _ _ HC.out).mono ?_; rintro e w2 ⟨rfl, hbo⟩; have HC := Hid.mk (HC.out.below hbo); have HT := Hid.mk (HT.out.then (But.of hbo)); have HX0 := Hid.mk (HX0.out.below hbo); obtain ⟨b, o, cc, n, hc, hn, hcc, hR, hn1, k0, k1, k2, e1, e2⟩ := HC.out.head; rw [hK] at k0; have hlt2 := HC.out.lt; clear hn k1 k2 e1 e2; clear hbo) | (go_at_call 28; refine (HTK.out _ HC.out).mono ?_; rintro e w3 ⟨rfl, hb3, hr3⟩; have HC := Hid.mk hr3; have HT := Hid.mk (HT.out.then hb3); have HW3 := Hid.mk HT.out.size; have HX0 := Hid.mk (HX0.out.but hb3 N0.out); obtain ⟨b1, o1, cc1, n1, hc', hn', hcc', hR', hn1', j0, j1, j2, e1', e2'⟩ := HC.out.head; rw [hK1] at j0; rw [hTX] at j1; rw [hHR] at j2; have hlt3 := HC.out.lt; clear hb3 hr3 hn' e1' e2'; obtain ⟨w4, hw4⟩ : ∃ x, w3.alloc (.cells #[.int .i64 K1, .string TX, .int .i64 HR] 64) = x := ⟨_, rfl⟩; obtain ⟨v5, hv5⟩ : ∃ x, w4.alloc (.cells #[.int .i64 0, .int .i64 0, .string ⟨#[]⟩] 57) = x := ⟨_, rfl⟩; obtain ⟨w5, hw5⟩ : ∃ x, ((v5.setCell ⟨w3.heap.size + 1, 0, none⟩ (.int .i64 0)).setCell ⟨w3.heap.size + 1, 1, none⟩ (.int .i64 0)).setCell ⟨w3.heap.size + 1, 2, none⟩ (.string ⟨#[]⟩) = x := ⟨_, rfl⟩; have hs4 : w4.heap.size = w3.heap.size + 1 := (by rw [← hw4]; exact World.size_alloc _ _); have hb34 : Below w3.heap.size w3 w4 := (by rw [← hw4]; exact below_box _ _); have hb45 : Below w4.heap.size w4 v5 := (by rw [← hv5]; exact below_box _ _); have hX2' : Box v5 (w3.heap.size + 1) [.int .i64 0, .int .i64 0, .string ⟨#[]⟩] := (by rw [← hv5]; exact Box.new w4 _ _ _ hs4.symm); have p0 := hX2'.cell 0 rfl; have p1 := hX2'.cell 1 rfl; have p2 := hX2'.cell 2 rfl; have pf0 := hX2'.fz 0; have pf1 := hX2'.fz 1; have pf2 := hX2'.fz 2; have hzP := hX2'.lt; have hb5 : Below w4.heap.size w4 w5 := (by rw [← hw5]; exact ((hb45.setCell (p := ⟨w3.heap.size + 1, 0, none⟩) (Nat.le_of_eq hs4) _).setCell (p := ⟨w3.heap.size + 1, 1, none⟩) (Nat.le_of_eq hs4) _).setCell (p := ⟨w3.heap.size + 1, 2, none⟩) (Nat.le_of_eq hs4) _); have hb35 := bel_then hb34 hb5; have HX1 := Hid.mk (show Box w5 w3.heap.size [.int .i64 K1, .string TX, .int .i64 HR] from (show Box w4 w3.heap.size [.int .i64 K1, .string TX, .int .i64 HR] by rw [← hw4]; exact Box.new w3 _ _ _ rfl).below hb5); have HX2 := Hid.mk (show Box w5 (w3.heap.size + 1) [.int .i64 0, .int .i64 0, .string ⟨#[]⟩] by rw [← hw5]; exact ((hX2'.set 0 _).set 1 _).set 2 _); have q0 := (hb5.cell (p := ⟨w3.heap.size, 0, none⟩) (by show w3.heap.size < _; omega)); have HC := Hid.mk (HC.out.below hb35); have HT := Hid.mk (HT.out.then (But.of hb35)); have HX0 := Hid.mk (HX0.out.below hb35); have N1 : Hid (w3.heap.size ≠ R) := Hid.mk (by omega); have N2 : Hid (w3.heap.size + 1 ≠ R) := Hid.mk (by omega); have HSZ := Hid.mk (And.intro hlt3 hlt3); have t0 := HX1.out.cell 0 rfl; have t1 := HX1.out.cell 1 rfl; have v0 := HX2.out.cell 0 rfl; have vf0 := HX2.out.fz 0; have v1 := HX2.out.cell 1 rfl; have vf1 := HX2.out.fz 1; have v2 := HX2.out.cell 2 rfl; have vf2 := HX2.out.fz 2; clear hb34 hb45 hb35 hb5 hX2' q0) | (go_at_call 11; fail) | (go_at_call 31; fail) | (go_at_call 75; fail))
  refine (show Calls Tryz.prog 31 #[.string TX] w5 _ from (by rw [← hTX]; exact atoiR_any (textT ts1) w5 (by obtain ⟨t, -, -, e2, -, -, hl⟩ := HC.out.head_tok; rw [e2]; exact hl) HC.out.env.fl)).mono ?_
  rintro e w6 ⟨q6, rfl, hq6, hb6⟩
  obtain ⟨-, rfl⟩ := hq6.resolve_right (fun hh => hh.1 hok)
  have NUM : Hid (0 ≤ atoiN (textT ts1)) := Hid.mk (by obtain ⟨t, -, e1, e2, -, hd, -⟩ := HC.out.head_tok; rw [e2]; exact atoi_pos (hd (by rw [← e1]; exact hk1)))
  have NLE := Hid.mk (atoiN_le (textT ts1))
  have hng := neg_in NUM.out NLE.out
  have HC := Hid.mk (HC.out.below hb6)
  have HT := Hid.mk (HT.out.then (But.of hb6))
  have HX0 := Hid.mk (HX0.out.below hb6)
  have HX1 := Hid.mk (HX1.out.below hb6)
  have HX2 := Hid.mk (HX2.out.below hb6)
  have v0 := HX2.out.cell 0 rfl
  have vf0 := HX2.out.fz 0
  have v1 := HX2.out.cell 1 rfl
  have vf1 := HX2.out.fz 1
  have v2 := HX2.out.cell 2 rfl
  have vf2 := HX2.out.fz 2
  have hzV := HX2.out.lt
  clear hb6 hq6
  generalize hAN : atoiN (textT ts1) = AN at *
  go_wp2_with (first | (go_at_call 11; refine (HF.out _ _ _ _ HC.out).mono ?_; rintro e w7 ⟨rfl, hbf, hrf⟩; have HC := Hid.mk hrf; have HT := Hid.mk (HT.out.then hbf); have HX0 := Hid.mk (HX0.out.but hbf N0.out); have HX1 := Hid.mk (HX1.out.but hbf N1.out); have HX2 := Hid.mk (HX2.out.but hbf N2.out); have v0 := HX2.out.cell 0 rfl; have vf0 := HX2.out.fz 0; have v1 := HX2.out.cell 1 rfl; have vf1 := HX2.out.fz 1; have v2 := HX2.out.cell 2 rfl; have vf2 := HX2.out.fz 2; have hzV := HX2.out.lt; clear hbf hrf) | (go_at_call 76; fail))
  obtain ⟨W, hW⟩ : ∃ x, (((w6.setCell ⟨w3.heap.size + 1, 0, none⟩ (.int .i64 1)).setCell ⟨w3.heap.size + 1, 1, none⟩ (.int .i64 AN)).setCell ⟨w3.heap.size + 1, 2, none⟩ (.string ⟨#[]⟩)) = x := ⟨_, rfl⟩
  have hRk : R < w3.heap.size + 1 := Nat.lt_succ_of_lt HSZ.out.1
  have hRw : w.heap.size ≤ w3.heap.size := HW3.out
  have HC : Hid (RF W R ts1 _) := Hid.mk (by rw [← hW]; exact RF.set (RF.set (RF.set HC.out hRk) hRk) hRk)
  have HT : Hid (But R w W) := Hid.mk (by rw [← hW]; exact ((HT.out.put (Nat.le_succ_of_le hRw) _).put (Nat.le_succ_of_le hRw) _).put (Nat.le_succ_of_le hRw) _)
  have HX2 : Hid (Box W (w3.heap.size + 1) [.int .i64 1, .int .i64 AN, .string ⟨#[]⟩]) := Hid.mk (by rw [← hW]; exact ((HX2.out.set 0 _).set 1 _).set 2 _)
  have HX0 : Hid (Box W w.heap.size [.string ⟨#[]⟩, .int .i64 0, .int .i64 0, .string ⟨#[]⟩]) := Hid.mk (by rw [← hW]; exact ((HX0.out.other _ _ (by omega)).other _ _ (by omega)).other _ _ (by omega))
  rw [hW]
  clear hW
  refine (rrv_any 1 AN ⟨#[]⟩ W (by decide)).mono ?_
  rintro e w8 ⟨rfl, hb8⟩
  have hrt : rightValueB 1 AN (⟨#[]⟩ : ByteArray).data.toList = false := by
    show rightValueB 1 AN [] = _
    simpa using hr
  rw [hrt]
  have HC := Hid.mk (HC.out.below hb8)
  have HT := Hid.mk (HT.out.then (But.of hb8))
  have HX0 := Hid.mk (HX0.out.below hb8)
  have HX2 := Hid.mk (HX2.out.below hb8)
  have v0 := HX2.out.cell 0 rfl
  have vf0 := HX2.out.fz 0
  have v1 := HX2.out.cell 1 rfl
  have vf1 := HX2.out.fz 1
  have v2 := HX2.out.cell 2 rfl
  have vf2 := HX2.out.fz 2
  have a0 := HX0.out.cell 0 rfl
  have af0 := HX0.out.fz 0
  have a1 := HX0.out.cell 1 rfl
  have af1 := HX0.out.fz 1
  have a2 := HX0.out.cell 2 rfl
  have af2 := HX0.out.fz 2
  have a3 := HX0.out.cell 3 rfl
  have af3 := HX0.out.fz 3
  have hzV := HX2.out.lt
  have hzA := HX0.out.lt
  clear hb8
  go_wp2_with (first | (go_at_call 11; refine (HF.out _ _ _ _ HC.out).mono ?_; rintro e w9 ⟨rfl, hbf, hrf⟩; have HC := Hid.mk hrf; have HT := Hid.mk (HT.out.then hbf); have HX0 := Hid.mk (HX0.out.but hbf N0.out); have HX2 := Hid.mk (HX2.out.but hbf N2.out); have v0 := HX2.out.cell 0 rfl; have vf0 := HX2.out.fz 0; have v1 := HX2.out.cell 1 rfl; have vf1 := HX2.out.fz 1; have v2 := HX2.out.cell 2 rfl; have vf2 := HX2.out.fz 2; have a0 := HX0.out.cell 0 rfl; have af0 := HX0.out.fz 0; have a1 := HX0.out.cell 1 rfl; have af1 := HX0.out.fz 1; have a2 := HX0.out.cell 2 rfl; have af2 := HX0.out.fz 2; have a3 := HX0.out.cell 3 rfl; have af3 := HX0.out.fz 3; clear hbf hrf) | (go_at_call 16; refine (HO.out _ _ _ HC.out).mono ?_; rintro e w10 ⟨rfl, hbo⟩; have HC := Hid.mk (HC.out.below hbo); have HT := Hid.mk (HT.out.then (But.of hbo)); have HX0 := Hid.mk (HX0.out.below hbo); have HX2 := Hid.mk (HX2.out.below hbo); have v0 := HX2.out.cell 0 rfl; have vf0 := HX2.out.fz 0; have v1 := HX2.out.cell 1 rfl; have vf1 := HX2.out.fz 1; have v2 := HX2.out.cell 2 rfl; have vf2 := HX2.out.fz 2; have a0 := HX0.out.cell 0 rfl; have af0 := HX0.out.fz 0; have a1 := HX0.out.cell 1 rfl; have af1 := HX0.out.fz 1; have a2 := HX0.out.cell 2 rfl; have af2 := HX0.out.fz 2; have a3 := HX0.out.cell 3 rfl; have af3 := HX0.out.fz 3; have hzV := HX2.out.lt; have hzA := HX0.out.lt; clear hbo))
  skip
  have HBX : Hid (Box ((((w10.setCell ⟨w.heap.size, 0, none⟩ (.string ⟨#[]⟩)).setCell ⟨w.heap.size, 1, none⟩ (.int .i64 1)).setCell ⟨w.heap.size, 2, none⟩ (.int .i64 AN)).setCell ⟨w.heap.size, 3, none⟩ (.string ⟨#[]⟩)) w.heap.size [.string ⟨#[]⟩, .int .i64 1, .int .i64 AN, .string ⟨#[]⟩]) := Hid.mk (((((HX0.out).set 0 _).set 1 _).set 2 _).set 3 _)
  have z0 := HBX.out.cell 0 rfl
  have z1 := HBX.out.cell 1 rfl
  have z2 := HBX.out.cell 2 rfl
  have z3 := HBX.out.cell 3 rfl
  clear HBX
  refine bodyPost_ret (v := .agg #[.string ⟨#[]⟩, .int .i64 1, .int .i64 AN, .string ⟨#[]⟩]) (by simp [results, Tryz.results49, go_sem, z0, z1, z2, z3]) rfl ?_
  refine ⟨(1, AN, []), some (4, hereT ts1), Or.inl ⟨hk1, hok, by rw [hAN]; rfl, by rw [hAN, if_neg (by simp), hr]; rfl⟩, rfl, ?_, ?_⟩
  · exact (((HT.out.put (Nat.le_refl _) _).put (Nat.le_refl _) _).put (Nat.le_refl _) _).put (Nat.le_refl _) _
  · exact RF.set (RF.set (RF.set (RF.set HC.out hlt) hlt) hlt) hlt
set_option maxRecDepth 100000 in
set_option maxHeartbeats 3200000 in
theorem argr_none_f_Qr (R : Nat) (ts ts1 : List Tk) (w : World) (h : RF w R ts none) (hk : kindT ts ≠ 0) (hm : seeB [45] ts none = false) (ht : takeT [45] ts none = ts1) (s : By) (hk1 : kindT ts1 = 2) (htx : textT ts1 = 39 :: s ++ [39]) (hq : 39 ∉ s) (hr : rightValueB 2 0 s = true) : Calls Tryz.prog 49 #[.pointer (some ⟨R, 0, none⟩)] w fun e w' => ∃ x bad2, ArgOut false ts1 none x bad2 ∧ e = .returned (.agg #[.string ⟨#[]⟩, .int .i64 x.1, .int .i64 x.2.1, .string (ba x.2.2)]) ∧ But R w w' ∧ RF w' R (if bad2.isNone then ts1.tail else ts1) bad2 := by
  have hlt := h.lt
  have HO : Hid (∀ V ts bad, RF V R ts bad → Calls Tryz.prog 16 #[.pointer (some ⟨R, 0, none⟩)] V fun e w' => e = .returned (.bool bad.isNone) ∧ Below V.heap.size V w') := Hid.mk fun V ts bad h => okr_any R ts bad V h
  have HF : Hid (∀ V ts bad c, RF V R ts bad → Calls Tryz.prog 11 #[.pointer (some ⟨R, 0, none⟩), .int .i64 c] V fun e w' => e = .returned (.tuple #[]) ∧ But R V w' ∧ RF w' R ts (bad.or (some (c, hereT ts)))) := Hid.mk fun V ts bad c h => failsr_any R ts bad c V h
  have HTK : Hid (∀ V, RF V R ts none → Calls Tryz.prog 28 #[.pointer (some ⟨R, 0, none⟩), .string (ba [45])] V fun e w' => e = .returned (.bool false) ∧ But R V w' ∧ RF w' R ts1 none) := Hid.mk fun V hV => by have := taker_any [45] R ts none V hV (by simp); rw [hm, ht] at this; exact this
  obtain ⟨w1, hw1⟩ : ∃ x, w.alloc (.cells #[.string ⟨#[]⟩, .int .i64 0, .int .i64 0, .string ⟨#[]⟩] 59) = x := ⟨_, rfl⟩
  have hb1 : Below w.heap.size w w1 := by rw [← hw1]; exact below_box _ _
  have hX0 : Box w1 w.heap.size [.string ⟨#[]⟩, .int .i64 0, .int .i64 0, .string ⟨#[]⟩] := by rw [← hw1]; exact Box.new w _ _ _ rfl
  have HC := Hid.mk (h.below hb1)
  have HT := Hid.mk (But.of (R := R) hb1)
  have HX0 := Hid.mk hX0
  have N0 : Hid (w.heap.size ≠ R) := Hid.mk (by omega)
  have hkb : (((kindT ts + 1 : Nat) : Int) == 1) = false := by simp; omega
  generalize hK : ((kindT ts + 1 : Nat) : Int) = K at *
  clear h hb1 hX0 hm ht hk
  have kb2 : (((kindT ts1 + 1 : Nat) : Int) == 2) = false := by rw [hk1]; rfl
  have kb3 : (((kindT ts1 + 1 : Nat) : Int) == 3) = true := by rw [hk1]; rfl
  generalize hK1 : ((kindT ts1 + 1 : Nat) : Int) = K1 at *
  generalize hTX : ba (textT ts1) = TX at *
  generalize hHR : ((hereT ts1 : Nat) : Int) = HR at *
  go_enter Tryz.func49, Tryz.ntmps49
  go_wp2_with (first | (go_at_call 16; refine (HO.out _ _ _ HC.out).mono ?_; rintro e w2 ⟨rfl, hbo⟩; have HC := Hid.mk (HC.out.below hbo); have HT := Hid.mk (HT.out.then (But.of hbo)); have HX0 := Hid.mk (HX0.out.below hbo); obtain ⟨b, o, cc, n, hc, hn, hcc, hR, hn1, k0, k1, k2, e1, e2⟩ := HC.out.head; rw [hK] at k0; have hlt2 := HC.out.lt; clear hn k1 k2 e1 e2; clear hbo) | (go_at_call 28; refine (HTK.out _ HC.out).mono ?_; rintro e w3 ⟨rfl, hb3, hr3⟩; have HC := Hid.mk hr3; have HT := Hid.mk (HT.out.then hb3); have HW3 := Hid.mk HT.out.size; have HX0 := Hid.mk (HX0.out.but hb3 N0.out); obtain ⟨b1, o1, cc1, n1, hc', hn', hcc', hR', hn1', j0, j1, j2, e1', e2'⟩ := HC.out.head; rw [hK1] at j0; rw [hTX] at j1; rw [hHR] at j2; have hlt3 := HC.out.lt; clear hb3 hr3 hn' e1' e2'; obtain ⟨w4, hw4⟩ : ∃ x, w3.alloc (.cells #[.int .i64 K1, .string TX, .int .i64 HR] 64) = x := ⟨_, rfl⟩; obtain ⟨v5, hv5⟩ : ∃ x, w4.alloc (.cells #[.int .i64 0, .int .i64 0, .string ⟨#[]⟩] 57) = x := ⟨_, rfl⟩; obtain ⟨w5, hw5⟩ : ∃ x, ((v5.setCell ⟨w3.heap.size + 1, 0, none⟩ (.int .i64 0)).setCell ⟨w3.heap.size + 1, 1, none⟩ (.int .i64 0)).setCell ⟨w3.heap.size + 1, 2, none⟩ (.string ⟨#[]⟩) = x := ⟨_, rfl⟩; have hs4 : w4.heap.size = w3.heap.size + 1 := (by rw [← hw4]; exact World.size_alloc _ _); have hb34 : Below w3.heap.size w3 w4 := (by rw [← hw4]; exact below_box _ _); have hb45 : Below w4.heap.size w4 v5 := (by rw [← hv5]; exact below_box _ _); have hX2' : Box v5 (w3.heap.size + 1) [.int .i64 0, .int .i64 0, .string ⟨#[]⟩] := (by rw [← hv5]; exact Box.new w4 _ _ _ hs4.symm); have p0 := hX2'.cell 0 rfl; have p1 := hX2'.cell 1 rfl; have p2 := hX2'.cell 2 rfl; have pf0 := hX2'.fz 0; have pf1 := hX2'.fz 1; have pf2 := hX2'.fz 2; have hzP := hX2'.lt; have hb5 : Below w4.heap.size w4 w5 := (by rw [← hw5]; exact ((hb45.setCell (p := ⟨w3.heap.size + 1, 0, none⟩) (Nat.le_of_eq hs4) _).setCell (p := ⟨w3.heap.size + 1, 1, none⟩) (Nat.le_of_eq hs4) _).setCell (p := ⟨w3.heap.size + 1, 2, none⟩) (Nat.le_of_eq hs4) _); have hb35 := bel_then hb34 hb5; have HX1 := Hid.mk (show Box w5 w3.heap.size [.int .i64 K1, .string TX, .int .i64 HR] from (show Box w4 w3.heap.size [.int .i64 K1, .string TX, .int .i64 HR] by rw [← hw4]; exact Box.new w3 _ _ _ rfl).below hb5); have HX2 := Hid.mk (show Box w5 (w3.heap.size + 1) [.int .i64 0, .int .i64 0, .string ⟨#[]⟩] by rw [← hw5]; exact ((hX2'.set 0 _).set 1 _).set 2 _); have q0 := (hb5.cell (p := ⟨w3.heap.size, 0, none⟩) (by show w3.heap.size < _; omega)); have HC := Hid.mk (HC.out.below hb35); have HT := Hid.mk (HT.out.then (But.of hb35)); have HX0 := Hid.mk (HX0.out.below hb35); have N1 : Hid (w3.heap.size ≠ R) := Hid.mk (by omega); have N2 : Hid (w3.heap.size + 1 ≠ R) := Hid.mk (by omega); have HSZ := Hid.mk (And.intro hlt3 hlt3); have t0 := HX1.out.cell 0 rfl; have t1 := HX1.out.cell 1 rfl; have v0 := HX2.out.cell 0 rfl; have vf0 := HX2.out.fz 0; have v1 := HX2.out.cell 1 rfl; have vf1 := HX2.out.fz 1; have v2 := HX2.out.cell 2 rfl; have vf2 := HX2.out.fz 2; clear hb34 hb45 hb35 hb5 hX2' q0) | (go_at_call 11; fail) | (go_at_call 31; fail) | (go_at_call 75; fail))
  have htx2 : TX = ba (39 :: s ++ [39]) := by rw [← hTX, htx]
  have hsl : s.length ≤ 1000000 := by obtain ⟨t, -, -, e2, -, -, hl⟩ := HC.out.head_tok; rw [← e2, htx] at hl; simp at hl; omega
  refine (show Calls Tryz.prog 75 #[.string TX, .string ⟨#[39]⟩] w5 _ from (by rw [htx2]; exact trimr_any s w5 hq hsl)).mono ?_
  rintro e w6 ⟨rfl, hb6⟩
  have HC := Hid.mk (HC.out.below hb6)
  have HT := Hid.mk (HT.out.then (But.of hb6))
  have HX0 := Hid.mk (HX0.out.below hb6)
  have HX1 := Hid.mk (HX1.out.below hb6)
  have HX2 := Hid.mk (HX2.out.below hb6)
  have v0 := HX2.out.cell 0 rfl
  have vf0 := HX2.out.fz 0
  have v1 := HX2.out.cell 1 rfl
  have vf1 := HX2.out.fz 1
  have v2 := HX2.out.cell 2 rfl
  have vf2 := HX2.out.fz 2
  have hzV := HX2.out.lt
  clear hb6
  generalize hSB : ba s = SB at *
  go_wp2_with (first | (go_at_call 76; fail))
  obtain ⟨W, hW⟩ : ∃ x, (((w6.setCell ⟨w3.heap.size + 1, 0, none⟩ (.int .i64 2)).setCell ⟨w3.heap.size + 1, 1, none⟩ (.int .i64 0)).setCell ⟨w3.heap.size + 1, 2, none⟩ (.string SB)) = x := ⟨_, rfl⟩
  have hRk : R < w3.heap.size + 1 := Nat.lt_succ_of_lt HSZ.out.1
  have hRw : w.heap.size ≤ w3.heap.size := HW3.out
  have HC : Hid (RF W R ts1 _) := Hid.mk (by rw [← hW]; exact RF.set (RF.set (RF.set HC.out hRk) hRk) hRk)
  have HT : Hid (But R w W) := Hid.mk (by rw [← hW]; exact ((HT.out.put (Nat.le_succ_of_le hRw) _).put (Nat.le_succ_of_le hRw) _).put (Nat.le_succ_of_le hRw) _)
  have HX2 : Hid (Box W (w3.heap.size + 1) [.int .i64 2, .int .i64 0, .string SB]) := Hid.mk (by rw [← hW]; exact ((HX2.out.set 0 _).set 1 _).set 2 _)
  have HX0 : Hid (Box W w.heap.size [.string ⟨#[]⟩, .int .i64 0, .int .i64 0, .string ⟨#[]⟩]) := Hid.mk (by rw [← hW]; exact ((HX0.out.other _ _ (by omega)).other _ _ (by omega)).other _ _ (by omega))
  rw [hW]
  clear hW
  refine (rrv_any 2 0 SB W (by rw [← hSB, ba_size]; unfold maxLen; omega)).mono ?_
  rintro e w8 ⟨rfl, hb8⟩
  rw [show rightValueB 2 0 SB.data.toList = true by rw [← hSB, ba_list]; exact hr]
  have HC := Hid.mk (HC.out.below hb8)
  have HT := Hid.mk (HT.out.then (But.of hb8))
  have HX0 := Hid.mk (HX0.out.below hb8)
  have HX2 := Hid.mk (HX2.out.below hb8)
  have v0 := HX2.out.cell 0 rfl
  have vf0 := HX2.out.fz 0
  have v1 := HX2.out.cell 1 rfl
  have vf1 := HX2.out.fz 1
  have v2 := HX2.out.cell 2 rfl
  have vf2 := HX2.out.fz 2
  have a0 := HX0.out.cell 0 rfl
  have af0 := HX0.out.fz 0
  have a1 := HX0.out.cell 1 rfl
  have af1 := HX0.out.fz 1
  have a2 := HX0.out.cell 2 rfl
  have af2 := HX0.out.fz 2
  have a3 := HX0.out.cell 3 rfl
  have af3 := HX0.out.fz 3
  have hzV := HX2.out.lt
  have hzA := HX0.out.lt
  clear hb8
  have hne4 : kindT ts1 ≠ 4 := by rw [hk1]; decide
  go_wp2_with (first | (go_at_call 16; refine (HO.out _ _ _ HC.out).mono ?_; rintro e w10 ⟨rfl, hbo⟩; have HC := Hid.mk (HC.out.below hbo); have HT := Hid.mk (HT.out.then (But.of hbo)); have HX0 := Hid.mk (HX0.out.below hbo); have HX2 := Hid.mk (HX2.out.below hbo); have v0 := HX2.out.cell 0 rfl; have vf0 := HX2.out.fz 0; have v1 := HX2.out.cell 1 rfl; have vf1 := HX2.out.fz 1; have v2 := HX2.out.cell 2 rfl; have vf2 := HX2.out.fz 2; have a0 := HX0.out.cell 0 rfl; have af0 := HX0.out.fz 0; have a1 := HX0.out.cell 1 rfl; have af1 := HX0.out.fz 1; have a2 := HX0.out.cell 2 rfl; have af2 := HX0.out.fz 2; have a3 := HX0.out.cell 3 rfl; have af3 := HX0.out.fz 3; have hzV := HX2.out.lt; have hzA := HX0.out.lt; obtain ⟨b2, o2, cc2, n2, hc2, hn2, hcc2, hR2, hn12, -⟩ := HC.out.head; have HTT := Hid.mk (HC.out.taken (Or.inl hne4) hc2); have hf2 := HC.out.fz 0; have hlt10 := HC.out.lt; have hcc1 : ¬ cc2 = 1 := no_one hn2 hcc2 HTT.out; clear hn2; clear hbo))
  skip
  have HBX : Hid (Box (((((w10.setCell ⟨R, 0, none⟩ (.slice (some ⟨b2, o2 + 3, none⟩) n2 (cc2 - 1))).setCell ⟨w.heap.size, 0, none⟩ (.string ⟨#[]⟩)).setCell ⟨w.heap.size, 1, none⟩ (.int .i64 2)).setCell ⟨w.heap.size, 2, none⟩ (.int .i64 0)).setCell ⟨w.heap.size, 3, none⟩ (.string SB)) w.heap.size [.string ⟨#[]⟩, .int .i64 2, .int .i64 0, .string SB]) := Hid.mk (((((HX0.out.other 0 _ N0.out).set 0 _).set 1 _).set 2 _).set 3 _)
  have z0 := HBX.out.cell 0 rfl
  have z1 := HBX.out.cell 1 rfl
  have z2 := HBX.out.cell 2 rfl
  have z3 := HBX.out.cell 3 rfl
  clear HBX
  refine bodyPost_ret (v := .agg #[.string ⟨#[]⟩, .int .i64 2, .int .i64 0, .string SB]) (by simp [results, Tryz.results49, go_sem, z0, z1, z2, z3]) rfl ?_
  refine ⟨(2, 0, s), none, Or.inr (Or.inr (Or.inl ⟨hk1, rfl, s, htx, hq, rfl, by rw [hr]; rfl⟩)), by rw [hSB], ?_, ?_⟩
  · exact ((((HT.out.then (But.set R 0 _ _)).put (Nat.le_refl _) _).put (Nat.le_refl _) _).put (Nat.le_refl _) _).put (Nat.le_refl _) _
  · exact RF.set (RF.set (RF.set (RF.set HTT.out hlt) hlt) hlt) hlt
set_option maxRecDepth 100000 in
set_option maxHeartbeats 3200000 in
theorem argr_none_f_Qn (R : Nat) (ts ts1 : List Tk) (w : World) (h : RF w R ts none) (hk : kindT ts ≠ 0) (hm : seeB [45] ts none = false) (ht : takeT [45] ts none = ts1) (s : By) (hk1 : kindT ts1 = 2) (htx : textT ts1 = 39 :: s ++ [39]) (hq : 39 ∉ s) (hr : rightValueB 2 0 s = false) : Calls Tryz.prog 49 #[.pointer (some ⟨R, 0, none⟩)] w fun e w' => ∃ x bad2, ArgOut false ts1 none x bad2 ∧ e = .returned (.agg #[.string ⟨#[]⟩, .int .i64 x.1, .int .i64 x.2.1, .string (ba x.2.2)]) ∧ But R w w' ∧ RF w' R (if bad2.isNone then ts1.tail else ts1) bad2 := by
  have hlt := h.lt
  have HO : Hid (∀ V ts bad, RF V R ts bad → Calls Tryz.prog 16 #[.pointer (some ⟨R, 0, none⟩)] V fun e w' => e = .returned (.bool bad.isNone) ∧ Below V.heap.size V w') := Hid.mk fun V ts bad h => okr_any R ts bad V h
  have HF : Hid (∀ V ts bad c, RF V R ts bad → Calls Tryz.prog 11 #[.pointer (some ⟨R, 0, none⟩), .int .i64 c] V fun e w' => e = .returned (.tuple #[]) ∧ But R V w' ∧ RF w' R ts (bad.or (some (c, hereT ts)))) := Hid.mk fun V ts bad c h => failsr_any R ts bad c V h
  have HTK : Hid (∀ V, RF V R ts none → Calls Tryz.prog 28 #[.pointer (some ⟨R, 0, none⟩), .string (ba [45])] V fun e w' => e = .returned (.bool false) ∧ But R V w' ∧ RF w' R ts1 none) := Hid.mk fun V hV => by have := taker_any [45] R ts none V hV (by simp); rw [hm, ht] at this; exact this
  obtain ⟨w1, hw1⟩ : ∃ x, w.alloc (.cells #[.string ⟨#[]⟩, .int .i64 0, .int .i64 0, .string ⟨#[]⟩] 59) = x := ⟨_, rfl⟩
  have hb1 : Below w.heap.size w w1 := by rw [← hw1]; exact below_box _ _
  have hX0 : Box w1 w.heap.size [.string ⟨#[]⟩, .int .i64 0, .int .i64 0, .string ⟨#[]⟩] := by rw [← hw1]; exact Box.new w _ _ _ rfl
  have HC := Hid.mk (h.below hb1)
  have HT := Hid.mk (But.of (R := R) hb1)
  have HX0 := Hid.mk hX0
  have N0 : Hid (w.heap.size ≠ R) := Hid.mk (by omega)
  have hkb : (((kindT ts + 1 : Nat) : Int) == 1) = false := by simp; omega
  generalize hK : ((kindT ts + 1 : Nat) : Int) = K at *
  clear h hb1 hX0 hm ht hk
  have kb2 : (((kindT ts1 + 1 : Nat) : Int) == 2) = false := by rw [hk1]; rfl
  have kb3 : (((kindT ts1 + 1 : Nat) : Int) == 3) = true := by rw [hk1]; rfl
  generalize hK1 : ((kindT ts1 + 1 : Nat) : Int) = K1 at *
  generalize hTX : ba (textT ts1) = TX at *
  generalize hHR : ((hereT ts1 : Nat) : Int) = HR at *
  go_enter Tryz.func49, Tryz.ntmps49
  go_wp2_with (first | (go_at_call 16; refine (HO.out _ _ _ HC.out).mono ?_; rintro e w2 ⟨rfl, hbo⟩; have HC := Hid.mk (HC.out.below hbo); have HT := Hid.mk (HT.out.then (But.of hbo)); have HX0 := Hid.mk (HX0.out.below hbo); obtain ⟨b, o, cc, n, hc, hn, hcc, hR, hn1, k0, k1, k2, e1, e2⟩ := HC.out.head; rw [hK] at k0; have hlt2 := HC.out.lt; clear hn k1 k2 e1 e2; clear hbo) | (go_at_call 28; refine (HTK.out _ HC.out).mono ?_; rintro e w3 ⟨rfl, hb3, hr3⟩; have HC := Hid.mk hr3; have HT := Hid.mk (HT.out.then hb3); have HW3 := Hid.mk HT.out.size; have HX0 := Hid.mk (HX0.out.but hb3 N0.out); obtain ⟨b1, o1, cc1, n1, hc', hn', hcc', hR', hn1', j0, j1, j2, e1', e2'⟩ := HC.out.head; rw [hK1] at j0; rw [hTX] at j1; rw [hHR] at j2; have hlt3 := HC.out.lt; clear hb3 hr3 hn' e1' e2'; obtain ⟨w4, hw4⟩ : ∃ x, w3.alloc (.cells #[.int .i64 K1, .string TX, .int .i64 HR] 64) = x := ⟨_, rfl⟩; obtain ⟨v5, hv5⟩ : ∃ x, w4.alloc (.cells #[.int .i64 0, .int .i64 0, .string ⟨#[]⟩] 57) = x := ⟨_, rfl⟩; obtain ⟨w5, hw5⟩ : ∃ x, ((v5.setCell ⟨w3.heap.size + 1, 0, none⟩ (.int .i64 0)).setCell ⟨w3.heap.size + 1, 1, none⟩ (.int .i64 0)).setCell ⟨w3.heap.size + 1, 2, none⟩ (.string ⟨#[]⟩) = x := ⟨_, rfl⟩; have hs4 : w4.heap.size = w3.heap.size + 1 := (by rw [← hw4]; exact World.size_alloc _ _); have hb34 : Below w3.heap.size w3 w4 := (by rw [← hw4]; exact below_box _ _); have hb45 : Below w4.heap.size w4 v5 := (by rw [← hv5]; exact below_box _ _); have hX2' : Box v5 (w3.heap.size + 1) [.int .i64 0, .int .i64 0, .string ⟨#[]⟩] := (by rw [← hv5]; exact Box.new w4 _ _ _ hs4.symm); have p0 := hX2'.cell 0 rfl; have p1 := hX2'.cell 1 rfl; have p2 := hX2'.cell 2 rfl; have pf0 := hX2'.fz 0; have pf1 := hX2'.fz 1; have pf2 := hX2'.fz 2; have hzP := hX2'.lt; have hb5 : Below w4.heap.size w4 w5 := (by rw [← hw5]; exact ((hb45.setCell (p := ⟨w3.heap.size + 1, 0, none⟩) (Nat.le_of_eq hs4) _).setCell (p := ⟨w3.heap.size + 1, 1, none⟩) (Nat.le_of_eq hs4) _).setCell (p := ⟨w3.heap.size + 1, 2, none⟩) (Nat.le_of_eq hs4) _); have hb35 := bel_then hb34 hb5; have HX1 := Hid.mk (show Box w5 w3.heap.size [.int .i64 K1, .string TX, .int .i64 HR] from (show Box w4 w3.heap.size [.int .i64 K1, .string TX, .int .i64 HR] by rw [← hw4]; exact Box.new w3 _ _ _ rfl).below hb5); have HX2 := Hid.mk (show Box w5 (w3.heap.size + 1) [.int .i64 0, .int .i64 0, .string ⟨#[]⟩] by rw [← hw5]; exact ((hX2'.set 0 _).set 1 _).set 2 _); have q0 := (hb5.cell (p := ⟨w3.heap.size, 0, none⟩) (by show w3.heap.size < _; omega)); have HC := Hid.mk (HC.out.below hb35); have HT := Hid.mk (HT.out.then (But.of hb35)); have HX0 := Hid.mk (HX0.out.below hb35); have N1 : Hid (w3.heap.size ≠ R) := Hid.mk (by omega); have N2 : Hid (w3.heap.size + 1 ≠ R) := Hid.mk (by omega); have HSZ := Hid.mk (And.intro hlt3 hlt3); have t0 := HX1.out.cell 0 rfl; have t1 := HX1.out.cell 1 rfl; have v0 := HX2.out.cell 0 rfl; have vf0 := HX2.out.fz 0; have v1 := HX2.out.cell 1 rfl; have vf1 := HX2.out.fz 1; have v2 := HX2.out.cell 2 rfl; have vf2 := HX2.out.fz 2; clear hb34 hb45 hb35 hb5 hX2' q0) | (go_at_call 11; fail) | (go_at_call 31; fail) | (go_at_call 75; fail))
  have htx2 : TX = ba (39 :: s ++ [39]) := by rw [← hTX, htx]
  have hsl : s.length ≤ 1000000 := by obtain ⟨t, -, -, e2, -, -, hl⟩ := HC.out.head_tok; rw [← e2, htx] at hl; simp at hl; omega
  refine (show Calls Tryz.prog 75 #[.string TX, .string ⟨#[39]⟩] w5 _ from (by rw [htx2]; exact trimr_any s w5 hq hsl)).mono ?_
  rintro e w6 ⟨rfl, hb6⟩
  have HC := Hid.mk (HC.out.below hb6)
  have HT := Hid.mk (HT.out.then (But.of hb6))
  have HX0 := Hid.mk (HX0.out.below hb6)
  have HX1 := Hid.mk (HX1.out.below hb6)
  have HX2 := Hid.mk (HX2.out.below hb6)
  have v0 := HX2.out.cell 0 rfl
  have vf0 := HX2.out.fz 0
  have v1 := HX2.out.cell 1 rfl
  have vf1 := HX2.out.fz 1
  have v2 := HX2.out.cell 2 rfl
  have vf2 := HX2.out.fz 2
  have hzV := HX2.out.lt
  clear hb6
  generalize hSB : ba s = SB at *
  go_wp2_with (first | (go_at_call 76; fail))
  obtain ⟨W, hW⟩ : ∃ x, (((w6.setCell ⟨w3.heap.size + 1, 0, none⟩ (.int .i64 2)).setCell ⟨w3.heap.size + 1, 1, none⟩ (.int .i64 0)).setCell ⟨w3.heap.size + 1, 2, none⟩ (.string SB)) = x := ⟨_, rfl⟩
  have hRk : R < w3.heap.size + 1 := Nat.lt_succ_of_lt HSZ.out.1
  have hRw : w.heap.size ≤ w3.heap.size := HW3.out
  have HC : Hid (RF W R ts1 _) := Hid.mk (by rw [← hW]; exact RF.set (RF.set (RF.set HC.out hRk) hRk) hRk)
  have HT : Hid (But R w W) := Hid.mk (by rw [← hW]; exact ((HT.out.put (Nat.le_succ_of_le hRw) _).put (Nat.le_succ_of_le hRw) _).put (Nat.le_succ_of_le hRw) _)
  have HX2 : Hid (Box W (w3.heap.size + 1) [.int .i64 2, .int .i64 0, .string SB]) := Hid.mk (by rw [← hW]; exact ((HX2.out.set 0 _).set 1 _).set 2 _)
  have HX0 : Hid (Box W w.heap.size [.string ⟨#[]⟩, .int .i64 0, .int .i64 0, .string ⟨#[]⟩]) := Hid.mk (by rw [← hW]; exact ((HX0.out.other _ _ (by omega)).other _ _ (by omega)).other _ _ (by omega))
  rw [hW]
  clear hW
  refine (rrv_any 2 0 SB W (by rw [← hSB, ba_size]; unfold maxLen; omega)).mono ?_
  rintro e w8 ⟨rfl, hb8⟩
  rw [show rightValueB 2 0 SB.data.toList = false by rw [← hSB, ba_list]; exact hr]
  have HC := Hid.mk (HC.out.below hb8)
  have HT := Hid.mk (HT.out.then (But.of hb8))
  have HX0 := Hid.mk (HX0.out.below hb8)
  have HX2 := Hid.mk (HX2.out.below hb8)
  have v0 := HX2.out.cell 0 rfl
  have vf0 := HX2.out.fz 0
  have v1 := HX2.out.cell 1 rfl
  have vf1 := HX2.out.fz 1
  have v2 := HX2.out.cell 2 rfl
  have vf2 := HX2.out.fz 2
  have a0 := HX0.out.cell 0 rfl
  have af0 := HX0.out.fz 0
  have a1 := HX0.out.cell 1 rfl
  have af1 := HX0.out.fz 1
  have a2 := HX0.out.cell 2 rfl
  have af2 := HX0.out.fz 2
  have a3 := HX0.out.cell 3 rfl
  have af3 := HX0.out.fz 3
  have hzV := HX2.out.lt
  have hzA := HX0.out.lt
  clear hb8
  go_wp2_with (first | (go_at_call 11; refine (HF.out _ _ _ _ HC.out).mono ?_; rintro e w9 ⟨rfl, hbf, hrf⟩; have HC := Hid.mk hrf; have HT := Hid.mk (HT.out.then hbf); have HX0 := Hid.mk (HX0.out.but hbf N0.out); have HX2 := Hid.mk (HX2.out.but hbf N2.out); have v0 := HX2.out.cell 0 rfl; have vf0 := HX2.out.fz 0; have v1 := HX2.out.cell 1 rfl; have vf1 := HX2.out.fz 1; have v2 := HX2.out.cell 2 rfl; have vf2 := HX2.out.fz 2; have a0 := HX0.out.cell 0 rfl; have af0 := HX0.out.fz 0; have a1 := HX0.out.cell 1 rfl; have af1 := HX0.out.fz 1; have a2 := HX0.out.cell 2 rfl; have af2 := HX0.out.fz 2; have a3 := HX0.out.cell 3 rfl; have af3 := HX0.out.fz 3; clear hbf hrf) | (go_at_call 16; refine (HO.out _ _ _ HC.out).mono ?_; rintro e w10 ⟨rfl, hbo⟩; have HC := Hid.mk (HC.out.below hbo); have HT := Hid.mk (HT.out.then (But.of hbo)); have HX0 := Hid.mk (HX0.out.below hbo); have HX2 := Hid.mk (HX2.out.below hbo); have v0 := HX2.out.cell 0 rfl; have vf0 := HX2.out.fz 0; have v1 := HX2.out.cell 1 rfl; have vf1 := HX2.out.fz 1; have v2 := HX2.out.cell 2 rfl; have vf2 := HX2.out.fz 2; have a0 := HX0.out.cell 0 rfl; have af0 := HX0.out.fz 0; have a1 := HX0.out.cell 1 rfl; have af1 := HX0.out.fz 1; have a2 := HX0.out.cell 2 rfl; have af2 := HX0.out.fz 2; have a3 := HX0.out.cell 3 rfl; have af3 := HX0.out.fz 3; have hzV := HX2.out.lt; have hzA := HX0.out.lt; clear hbo))
  skip
  have HBX : Hid (Box ((((w10.setCell ⟨w.heap.size, 0, none⟩ (.string ⟨#[]⟩)).setCell ⟨w.heap.size, 1, none⟩ (.int .i64 2)).setCell ⟨w.heap.size, 2, none⟩ (.int .i64 0)).setCell ⟨w.heap.size, 3, none⟩ (.string SB)) w.heap.size [.string ⟨#[]⟩, .int .i64 2, .int .i64 0, .string SB]) := Hid.mk (((((HX0.out).set 0 _).set 1 _).set 2 _).set 3 _)
  have z0 := HBX.out.cell 0 rfl
  have z1 := HBX.out.cell 1 rfl
  have z2 := HBX.out.cell 2 rfl
  have z3 := HBX.out.cell 3 rfl
  clear HBX
  refine bodyPost_ret (v := .agg #[.string ⟨#[]⟩, .int .i64 2, .int .i64 0, .string SB]) (by simp [results, Tryz.results49, go_sem, z0, z1, z2, z3]) rfl ?_
  refine ⟨(2, 0, s), some (4, hereT ts1), Or.inr (Or.inr (Or.inl ⟨hk1, rfl, s, htx, hq, rfl, by rw [hr]; rfl⟩)), by rw [hSB], ?_, ?_⟩
  · exact (((HT.out.put (Nat.le_refl _) _).put (Nat.le_refl _) _).put (Nat.le_refl _) _).put (Nat.le_refl _) _
  · exact RF.set (RF.set (RF.set (RF.set HC.out hlt) hlt) hlt) hlt
set_option maxRecDepth 100000 in
set_option maxHeartbeats 3200000 in
theorem argr_none_f_D (R : Nat) (ts ts1 : List Tk) (w : World) (h : RF w R ts none) (hk : kindT ts ≠ 0) (hm : seeB [45] ts none = false) (ht : takeT [45] ts none = ts1) (hk1 : kindT ts1 ≠ 1) (hk2 : kindT ts1 ≠ 2) : Calls Tryz.prog 49 #[.pointer (some ⟨R, 0, none⟩)] w fun e w' => ∃ x bad2, ArgOut false ts1 none x bad2 ∧ e = .returned (.agg #[.string ⟨#[]⟩, .int .i64 x.1, .int .i64 x.2.1, .string (ba x.2.2)]) ∧ But R w w' ∧ RF w' R (if bad2.isNone then ts1.tail else ts1) bad2 := by
  have hlt := h.lt
  have HO : Hid (∀ V ts bad, RF V R ts bad → Calls Tryz.prog 16 #[.pointer (some ⟨R, 0, none⟩)] V fun e w' => e = .returned (.bool bad.isNone) ∧ Below V.heap.size V w') := Hid.mk fun V ts bad h => okr_any R ts bad V h
  have HF : Hid (∀ V ts bad c, RF V R ts bad → Calls Tryz.prog 11 #[.pointer (some ⟨R, 0, none⟩), .int .i64 c] V fun e w' => e = .returned (.tuple #[]) ∧ But R V w' ∧ RF w' R ts (bad.or (some (c, hereT ts)))) := Hid.mk fun V ts bad c h => failsr_any R ts bad c V h
  have HTK : Hid (∀ V, RF V R ts none → Calls Tryz.prog 28 #[.pointer (some ⟨R, 0, none⟩), .string (ba [45])] V fun e w' => e = .returned (.bool false) ∧ But R V w' ∧ RF w' R ts1 none) := Hid.mk fun V hV => by have := taker_any [45] R ts none V hV (by simp); rw [hm, ht] at this; exact this
  obtain ⟨w1, hw1⟩ : ∃ x, w.alloc (.cells #[.string ⟨#[]⟩, .int .i64 0, .int .i64 0, .string ⟨#[]⟩] 59) = x := ⟨_, rfl⟩
  have hb1 : Below w.heap.size w w1 := by rw [← hw1]; exact below_box _ _
  have hX0 : Box w1 w.heap.size [.string ⟨#[]⟩, .int .i64 0, .int .i64 0, .string ⟨#[]⟩] := by rw [← hw1]; exact Box.new w _ _ _ rfl
  have HC := Hid.mk (h.below hb1)
  have HT := Hid.mk (But.of (R := R) hb1)
  have HX0 := Hid.mk hX0
  have N0 : Hid (w.heap.size ≠ R) := Hid.mk (by omega)
  have hkb : (((kindT ts + 1 : Nat) : Int) == 1) = false := by simp; omega
  generalize hK : ((kindT ts + 1 : Nat) : Int) = K at *
  clear h hb1 hX0 hm ht hk
  have kb2 : (((kindT ts1 + 1 : Nat) : Int) == 2) = false := by simp; omega
  have kb3 : (((kindT ts1 + 1 : Nat) : Int) == 3) = false := by simp; omega
  generalize hK1 : ((kindT ts1 + 1 : Nat) : Int) = K1 at *
  generalize hTX : ba (textT ts1) = TX at *
  generalize hHR : ((hereT ts1 : Nat) : Int) = HR at *
  go_enter Tryz.func49, Tryz.ntmps49
  go_wp2_with (first | (go_at_call 16; refine (HO.out _ _ _ HC.out).mono ?_; rintro e w2 ⟨rfl, hbo⟩; have HC := Hid.mk (HC.out.below hbo); have HT := Hid.mk (HT.out.then (But.of hbo)); have HX0 := Hid.mk (HX0.out.below hbo); obtain ⟨b, o, cc, n, hc, hn, hcc, hR, hn1, k0, k1, k2, e1, e2⟩ := HC.out.head; rw [hK] at k0; have hlt2 := HC.out.lt; clear hn k1 k2 e1 e2; clear hbo) | (go_at_call 28; refine (HTK.out _ HC.out).mono ?_; rintro e w3 ⟨rfl, hb3, hr3⟩; have HC := Hid.mk hr3; have HT := Hid.mk (HT.out.then hb3); have HW3 := Hid.mk HT.out.size; have HX0 := Hid.mk (HX0.out.but hb3 N0.out); obtain ⟨b1, o1, cc1, n1, hc', hn', hcc', hR', hn1', j0, j1, j2, e1', e2'⟩ := HC.out.head; rw [hK1] at j0; rw [hTX] at j1; rw [hHR] at j2; have hlt3 := HC.out.lt; clear hb3 hr3 hn' e1' e2'; obtain ⟨w4, hw4⟩ : ∃ x, w3.alloc (.cells #[.int .i64 K1, .string TX, .int .i64 HR] 64) = x := ⟨_, rfl⟩; obtain ⟨v5, hv5⟩ : ∃ x, w4.alloc (.cells #[.int .i64 0, .int .i64 0, .string ⟨#[]⟩] 57) = x := ⟨_, rfl⟩; obtain ⟨w5, hw5⟩ : ∃ x, ((v5.setCell ⟨w3.heap.size + 1, 0, none⟩ (.int .i64 0)).setCell ⟨w3.heap.size + 1, 1, none⟩ (.int .i64 0)).setCell ⟨w3.heap.size + 1, 2, none⟩ (.string ⟨#[]⟩) = x := ⟨_, rfl⟩; have hs4 : w4.heap.size = w3.heap.size + 1 := (by rw [← hw4]; exact World.size_alloc _ _); have hb34 : Below w3.heap.size w3 w4 := (by rw [← hw4]; exact below_box _ _); have hb45 : Below w4.heap.size w4 v5 := (by rw [← hv5]; exact below_box _ _); have hX2' : Box v5 (w3.heap.size + 1) [.int .i64 0, .int .i64 0, .string ⟨#[]⟩] := (by rw [← hv5]; exact Box.new w4 _ _ _ hs4.symm); have p0 := hX2'.cell 0 rfl; have p1 := hX2'.cell 1 rfl; have p2 := hX2'.cell 2 rfl; have pf0 := hX2'.fz 0; have pf1 := hX2'.fz 1; have pf2 := hX2'.fz 2; have hzP := hX2'.lt; have hb5 : Below w4.heap.size w4 w5 := (by rw [← hw5]; exact ((hb45.setCell (p := ⟨w3.heap.size + 1, 0, none⟩) (Nat.le_of_eq hs4) _).setCell (p := ⟨w3.heap.size + 1, 1, none⟩) (Nat.le_of_eq hs4) _).setCell (p := ⟨w3.heap.size + 1, 2, none⟩) (Nat.le_of_eq hs4) _); have hb35 := bel_then hb34 hb5; have HX1 := Hid.mk (show Box w5 w3.heap.size [.int .i64 K1, .string TX, .int .i64 HR] from (show Box w4 w3.heap.size [.int .i64 K1, .string TX, .int .i64 HR] by rw [← hw4]; exact Box.new w3 _ _ _ rfl).below hb5); have HX2 := Hid.mk (show Box w5 (w3.heap.size + 1) [.int .i64 0, .int .i64 0, .string ⟨#[]⟩] by rw [← hw5]; exact ((hX2'.set 0 _).set 1 _).set 2 _); have q0 := (hb5.cell (p := ⟨w3.heap.size, 0, none⟩) (by show w3.heap.size < _; omega)); have HC := Hid.mk (HC.out.below hb35); have HT := Hid.mk (HT.out.then (But.of hb35)); have HX0 := Hid.mk (HX0.out.below hb35); have N1 : Hid (w3.heap.size ≠ R) := Hid.mk (by omega); have N2 : Hid (w3.heap.size + 1 ≠ R) := Hid.mk (by omega); have HSZ := Hid.mk (And.intro hlt3 hlt3); have t0 := HX1.out.cell 0 rfl; have t1 := HX1.out.cell 1 rfl; have v0 := HX2.out.cell 0 rfl; have vf0 := HX2.out.fz 0; have v1 := HX2.out.cell 1 rfl; have vf1 := HX2.out.fz 1; have v2 := HX2.out.cell 2 rfl; have vf2 := HX2.out.fz 2; clear hb34 hb45 hb35 hb5 hX2' q0) | (go_at_call 11; fail) | (go_at_call 31; fail) | (go_at_call 75; fail))
  refine (HF.out _ _ _ _ HC.out).mono ?_
  rintro e w6 ⟨rfl, hbf, hrf⟩
  have HC := Hid.mk hrf
  have HT := Hid.mk (HT.out.then hbf)
  have HX0 := Hid.mk (HX0.out.but hbf N0.out)
  have HX1 := Hid.mk (HX1.out.but hbf N1.out)
  have HX2 := Hid.mk (HX2.out.but hbf N2.out)
  have v0 := HX2.out.cell 0 rfl
  have vf0 := HX2.out.fz 0
  have v1 := HX2.out.cell 1 rfl
  have vf1 := HX2.out.fz 1
  have v2 := HX2.out.cell 2 rfl
  have vf2 := HX2.out.fz 2
  have hzV := HX2.out.lt
  clear hbf hrf
  go_wp2_with (first | (go_at_call 76; fail))
  obtain ⟨W, hW⟩ : ∃ x, x = w6 := ⟨_, rfl⟩
  subst hW
  refine (rrv_any 0 0 ⟨#[]⟩ W (by decide)).mono ?_
  rintro e w8 ⟨rfl, hb8⟩
  rw [show rightValueB 0 0 (⟨#[]⟩ : ByteArray).data.toList = false from rfl]
  have HC := Hid.mk (HC.out.below hb8)
  have HT := Hid.mk (HT.out.then (But.of hb8))
  have HX0 := Hid.mk (HX0.out.below hb8)
  have HX2 := Hid.mk (HX2.out.below hb8)
  have v0 := HX2.out.cell 0 rfl
  have vf0 := HX2.out.fz 0
  have v1 := HX2.out.cell 1 rfl
  have vf1 := HX2.out.fz 1
  have v2 := HX2.out.cell 2 rfl
  have vf2 := HX2.out.fz 2
  have a0 := HX0.out.cell 0 rfl
  have af0 := HX0.out.fz 0
  have a1 := HX0.out.cell 1 rfl
  have af1 := HX0.out.fz 1
  have a2 := HX0.out.cell 2 rfl
  have af2 := HX0.out.fz 2
  have a3 := HX0.out.cell 3 rfl
  have af3 := HX0.out.fz 3
  have hzV := HX2.out.lt
  have hzA := HX0.out.lt
  clear hb8
  go_wp2_with (first | (go_at_call 11; refine (HF.out _ _ _ _ HC.out).mono ?_; rintro e w9 ⟨rfl, hbf, hrf⟩; have HC := Hid.mk hrf; have HT := Hid.mk (HT.out.then hbf); have HX0 := Hid.mk (HX0.out.but hbf N0.out); have HX2 := Hid.mk (HX2.out.but hbf N2.out); have v0 := HX2.out.cell 0 rfl; have vf0 := HX2.out.fz 0; have v1 := HX2.out.cell 1 rfl; have vf1 := HX2.out.fz 1; have v2 := HX2.out.cell 2 rfl; have vf2 := HX2.out.fz 2; have a0 := HX0.out.cell 0 rfl; have af0 := HX0.out.fz 0; have a1 := HX0.out.cell 1 rfl; have af1 := HX0.out.fz 1; have a2 := HX0.out.cell 2 rfl; have af2 := HX0.out.fz 2; have a3 := HX0.out.cell 3 rfl; have af3 := HX0.out.fz 3; clear hbf hrf) | (go_at_call 16; refine (HO.out _ _ _ HC.out).mono ?_; rintro e w10 ⟨rfl, hbo⟩; have HC := Hid.mk (HC.out.below hbo); have HT := Hid.mk (HT.out.then (But.of hbo)); have HX0 := Hid.mk (HX0.out.below hbo); have HX2 := Hid.mk (HX2.out.below hbo); have v0 := HX2.out.cell 0 rfl; have vf0 := HX2.out.fz 0; have v1 := HX2.out.cell 1 rfl; have vf1 := HX2.out.fz 1; have v2 := HX2.out.cell 2 rfl; have vf2 := HX2.out.fz 2; have a0 := HX0.out.cell 0 rfl; have af0 := HX0.out.fz 0; have a1 := HX0.out.cell 1 rfl; have af1 := HX0.out.fz 1; have a2 := HX0.out.cell 2 rfl; have af2 := HX0.out.fz 2; have a3 := HX0.out.cell 3 rfl; have af3 := HX0.out.fz 3; have hzV := HX2.out.lt; have hzA := HX0.out.lt; clear hbo))
  skip
  have HBX : Hid (Box ((((w10.setCell ⟨w.heap.size, 0, none⟩ (.string ⟨#[]⟩)).setCell ⟨w.heap.size, 1, none⟩ (.int .i64 0)).setCell ⟨w.heap.size, 2, none⟩ (.int .i64 0)).setCell ⟨w.heap.size, 3, none⟩ (.string ⟨#[]⟩)) w.heap.size [.string ⟨#[]⟩, .int .i64 0, .int .i64 0, .string ⟨#[]⟩]) := Hid.mk (((((HX0.out).set 0 _).set 1 _).set 2 _).set 3 _)
  have z0 := HBX.out.cell 0 rfl
  have z1 := HBX.out.cell 1 rfl
  have z2 := HBX.out.cell 2 rfl
  have z3 := HBX.out.cell 3 rfl
  clear HBX
  refine bodyPost_ret (v := .agg #[.string ⟨#[]⟩, .int .i64 0, .int .i64 0, .string ⟨#[]⟩]) (by simp [results, Tryz.results49, go_sem, z0, z1, z2, z3]) rfl ?_
  refine ⟨(0, 0, []), some (3, hereT ts1), Or.inr (Or.inr (Or.inr ⟨hk1, fun q => absurd q hk2, rfl, rfl⟩)), rfl, ?_, ?_⟩
  · exact (((HT.out.put (Nat.le_refl _) _).put (Nat.le_refl _) _).put (Nat.le_refl _) _).put (Nat.le_refl _) _
  · exact RF.set (RF.set (RF.set (RF.set HC.out hlt) hlt) hlt) hlt
set_option maxRecDepth 100000 in
set_option maxHeartbeats 3200000 in
theorem argr_some_f_N2 (R : Nat) (ts ts1 : List Tk) (er : Int × Nat) (w : World) (h : RF w R ts (some er)) (hm : seeB [45] ts (some er) = false) (ht : takeT [45] ts (some er) = ts1) (hk1 : kindT ts1 = 1) (hok : ¬ okN (textT ts1)) : Calls Tryz.prog 49 #[.pointer (some ⟨R, 0, none⟩)] w fun e w' => ∃ x bad2, ArgOut false ts1 (some er) x bad2 ∧ e = .returned (.agg #[.string ⟨#[]⟩, .int .i64 x.1, .int .i64 x.2.1, .string (ba x.2.2)]) ∧ But R w w' ∧ RF w' R (if bad2.isNone then ts1.tail else ts1) bad2 := by
  have hlt := h.lt
  have HO : Hid (∀ V ts bad, RF V R ts bad → Calls Tryz.prog 16 #[.pointer (some ⟨R, 0, none⟩)] V fun e w' => e = .returned (.bool bad.isNone) ∧ Below V.heap.size V w') := Hid.mk fun V ts bad h => okr_any R ts bad V h
  have HF : Hid (∀ V ts bad c, RF V R ts bad → Calls Tryz.prog 11 #[.pointer (some ⟨R, 0, none⟩), .int .i64 c] V fun e w' => e = .returned (.tuple #[]) ∧ But R V w' ∧ RF w' R ts (bad.or (some (c, hereT ts)))) := Hid.mk fun V ts bad c h => failsr_any R ts bad c V h
  have HTK : Hid (∀ V, RF V R ts (some er) → Calls Tryz.prog 28 #[.pointer (some ⟨R, 0, none⟩), .string (ba [45])] V fun e w' => e = .returned (.bool false) ∧ But R V w' ∧ RF w' R ts1 (some er)) := Hid.mk fun V hV => by have := taker_any [45] R ts (some er) V hV (by simp); rw [hm, ht] at this; exact this
  obtain ⟨w1, hw1⟩ : ∃ x, w.alloc (.cells #[.string ⟨#[]⟩, .int .i64 0, .int .i64 0, .string ⟨#[]⟩] 59) = x := ⟨_, rfl⟩
  have hb1 : Below w.heap.size w w1 := by rw [← hw1]; exact below_box _ _
  have hX0 : Box w1 w.heap.size [.string ⟨#[]⟩, .int .i64 0, .int .i64 0, .string ⟨#[]⟩] := by rw [← hw1]; exact Box.new w _ _ _ rfl
  have HC := Hid.mk (h.below hb1)
  have HT := Hid.mk (But.of (R := R) hb1)
  have HX0 := Hid.mk hX0
  have N0 : Hid (w.heap.size ≠ R) := Hid.mk (by omega)
  clear h hb1 hX0 hm ht
  have kb2 : (((kindT ts1 + 1 : Nat) : Int) == 2) = true := by rw [hk1]; rfl
  generalize hK1 : ((kindT ts1 + 1 : Nat) : Int) = K1 at *
  generalize hTX : ba (textT ts1) = TX at *
  generalize hHR : ((hereT ts1 : Nat) : Int) = HR at *
  go_enter Tryz.func49, Tryz.ntmps49
  go_wp2_with (first | (go_at_call 16; refine (HO.out _ _ _ HC.out).mono ?_; rintro e w2 ⟨rfl, hbo⟩; have HC := Hid.mk (HC.out.below hbo); have HT := Hid.mk (HT.out.then (But.of hbo)); have HX0 := Hid.mk (HX0.out.below hbo); have hlt2 := HC.out.lt; clear hbo) | (go_at_call 28; refine (HTK.out _ HC.out).mono ?_; rintro e w3 ⟨rfl, hb3, hr3⟩; have HC := Hid.mk hr3; have HT := Hid.mk (HT.out.then hb3); have HW3 := Hid.mk HT.out.size; have HX0 := Hid.mk (HX0.out.but hb3 N0.out); obtain ⟨b1, o1, cc1, n1, hc', hn', hcc', hR', hn1', j0, j1, j2, e1', e2'⟩ := HC.out.head; rw [hK1] at j0; rw [hTX] at j1; rw [hHR] at j2; have hlt3 := HC.out.lt; clear hb3 hr3 hn' e1' e2'; obtain ⟨w4, hw4⟩ : ∃ x, w3.alloc (.cells #[.int .i64 K1, .string TX, .int .i64 HR] 64) = x := ⟨_, rfl⟩; obtain ⟨v5, hv5⟩ : ∃ x, w4.alloc (.cells #[.int .i64 0, .int .i64 0, .string ⟨#[]⟩] 57) = x := ⟨_, rfl⟩; obtain ⟨w5, hw5⟩ : ∃ x, ((v5.setCell ⟨w3.heap.size + 1, 0, none⟩ (.int .i64 0)).setCell ⟨w3.heap.size + 1, 1, none⟩ (.int .i64 0)).setCell ⟨w3.heap.size + 1, 2, none⟩ (.string ⟨#[]⟩) = x := ⟨_, rfl⟩; have hs4 : w4.heap.size = w3.heap.size + 1 := (by rw [← hw4]; exact World.size_alloc _ _); have hb34 : Below w3.heap.size w3 w4 := (by rw [← hw4]; exact below_box _ _); have hb45 : Below w4.heap.size w4 v5 := (by rw [← hv5]; exact below_box _ _); have hX2' : Box v5 (w3.heap.size + 1) [.int .i64 0, .int .i64 0, .string ⟨#[]⟩] := (by rw [← hv5]; exact Box.new w4 _ _ _ hs4.symm); have p0 := hX2'.cell 0 rfl; have p1 := hX2'.cell 1 rfl; have p2 := hX2'.cell 2 rfl; have pf0 := hX2'.fz 0; have pf1 := hX2'.fz 1; have pf2 := hX2'.fz 2; have hzP := hX2'.lt; have hb5 : Below w4.heap.size w4 w5 := (by rw [← hw5]; exact ((hb45.setCell (p := ⟨w3.heap.size + 1, 0, none⟩) (Nat.le_of_eq hs4) _).setCell (p := ⟨w3.heap.size + 1, 1, none⟩) (Nat.le_of_eq hs4) _).setCell (p := ⟨w3.heap.size + 1, 2, none⟩) (Nat.le_of_eq hs4) _); have hb35 := bel_then hb34 hb5; have HX1 := Hid.mk (show Box w5 w3.heap.size [.int .i64 K1, .string TX, .int .i64 HR] from (show Box w4 w3.heap.size [.int .i64 K1, .string TX, .int .i64 HR] by rw [← hw4]; exact Box.new w3 _ _ _ rfl).below hb5); have HX2 := Hid.mk (show Box w5 (w3.heap.size + 1) [.int .i64 0, .int .i64 0, .string ⟨#[]⟩] by rw [← hw5]; exact ((hX2'.set 0 _).set 1 _).set 2 _); have q0 := (hb5.cell (p := ⟨w3.heap.size, 0, none⟩) (by show w3.heap.size < _; omega)); have HC := Hid.mk (HC.out.below hb35); have HT := Hid.mk (HT.out.then (But.of hb35)); have HX0 := Hid.mk (HX0.out.below hb35); have N1 : Hid (w3.heap.size ≠ R) := Hid.mk (by omega); have N2 : Hid (w3.heap.size + 1 ≠ R) := Hid.mk (by omega); have HSZ := Hid.mk (And.intro hlt3 hlt3); have t0 := HX1.out.cell 0 rfl; have t1 := HX1.out.cell 1 rfl; have v0 := HX2.out.cell 0 rfl; have vf0 := HX2.out.fz 0; have v1 := HX2.out.cell 1 rfl; have vf1 := HX2.out.fz 1; have v2 := HX2.out.cell 2 rfl; have vf2 := HX2.out.fz 2; clear hb34 hb45 hb35 hb5 hX2' q0) | (go_at_call 11; fail) | (go_at_call 31; fail) | (go_at_call 75; fail))
  refine (show Calls Tryz.prog 31 #[.string TX] w5 _ from (by rw [← hTX]; exact atoiR_any (textT ts1) w5 (by obtain ⟨t, -, -, e2, -, -, hl⟩ := HC.out.head_tok; rw [e2]; exact hl) HC.out.env.fl)).mono ?_
  rintro e w6 ⟨q6, rfl, hq6, hb6⟩
  obtain ⟨-, tp, pq, rfl⟩ := hq6.resolve_left (fun hh => hok hh.1)
  have NUM : Hid (0 ≤ atoiN (textT ts1)) := Hid.mk (by obtain ⟨t, -, e1, e2, -, hd, -⟩ := HC.out.head_tok; rw [e2]; exact atoi_pos (hd (by rw [← e1]; exact hk1)))
  have RNG : Hid (atoiN (textT ts1) = 9223372036854775807) := Hid.mk (by obtain ⟨t, -, e1, e2, hT, hd, -⟩ := HC.out.head_tok; rw [e2] at hok ⊢; exact range_not hok (hT.2.1 (by rw [← e1]; exact hk1)) (hd (by rw [← e1]; exact hk1)))
  have NLE := Hid.mk (atoiN_le (textT ts1))
  have hng := neg_in NUM.out NLE.out
  have HC := Hid.mk (HC.out.below hb6)
  have HT := Hid.mk (HT.out.then (But.of hb6))
  have HX0 := Hid.mk (HX0.out.below hb6)
  have HX1 := Hid.mk (HX1.out.below hb6)
  have HX2 := Hid.mk (HX2.out.below hb6)
  have v0 := HX2.out.cell 0 rfl
  have vf0 := HX2.out.fz 0
  have v1 := HX2.out.cell 1 rfl
  have vf1 := HX2.out.fz 1
  have v2 := HX2.out.cell 2 rfl
  have vf2 := HX2.out.fz 2
  have hzV := HX2.out.lt
  clear hb6 hq6
  generalize hAN : atoiN (textT ts1) = AN at *
  go_wp2_with (first | (go_at_call 11; refine (HF.out _ _ _ _ HC.out).mono ?_; rintro e w7 ⟨rfl, hbf, hrf⟩; have HC := Hid.mk hrf; have HT := Hid.mk (HT.out.then hbf); have HX0 := Hid.mk (HX0.out.but hbf N0.out); have HX1 := Hid.mk (HX1.out.but hbf N1.out); have HX2 := Hid.mk (HX2.out.but hbf N2.out); have v0 := HX2.out.cell 0 rfl; have vf0 := HX2.out.fz 0; have v1 := HX2.out.cell 1 rfl; have vf1 := HX2.out.fz 1; have v2 := HX2.out.cell 2 rfl; have vf2 := HX2.out.fz 2; have hzV := HX2.out.lt; clear hbf hrf) | (go_at_call 76; fail))
  obtain ⟨W, hW⟩ : ∃ x, (((w7.setCell ⟨w3.heap.size + 1, 0, none⟩ (.int .i64 1)).setCell ⟨w3.heap.size + 1, 1, none⟩ (.int .i64 AN)).setCell ⟨w3.heap.size + 1, 2, none⟩ (.string ⟨#[]⟩)) = x := ⟨_, rfl⟩
  have hRk : R < w3.heap.size + 1 := Nat.lt_succ_of_lt HSZ.out.1
  have hRw : w.heap.size ≤ w3.heap.size := HW3.out
  have HC : Hid (RF W R ts1 _) := Hid.mk (by rw [← hW]; exact RF.set (RF.set (RF.set HC.out hRk) hRk) hRk)
  have HT : Hid (But R w W) := Hid.mk (by rw [← hW]; exact ((HT.out.put (Nat.le_succ_of_le hRw) _).put (Nat.le_succ_of_le hRw) _).put (Nat.le_succ_of_le hRw) _)
  have HX2 : Hid (Box W (w3.heap.size + 1) [.int .i64 1, .int .i64 AN, .string ⟨#[]⟩]) := Hid.mk (by rw [← hW]; exact ((HX2.out.set 0 _).set 1 _).set 2 _)
  have HX0 : Hid (Box W w.heap.size [.string ⟨#[]⟩, .int .i64 0, .int .i64 0, .string ⟨#[]⟩]) := Hid.mk (by rw [← hW]; exact ((HX0.out.other _ _ (by omega)).other _ _ (by omega)).other _ _ (by omega))
  rw [hW]
  clear hW
  refine (rrv_any 1 AN ⟨#[]⟩ W (by decide)).mono ?_
  rintro e w8 ⟨rfl, hb8⟩
  have hrt : rightValueB 1 AN (⟨#[]⟩ : ByteArray).data.toList = false := by
    show rightValueB 1 AN [] = false
    have := RNG.out
    unfold rightValueB
    rw [if_pos rfl, Bool.and_eq_false_iff, Bool.and_eq_false_iff]
    simp only [decide_eq_false_iff_not]
    omega
  rw [hrt]
  have HC := Hid.mk (HC.out.below hb8)
  have HT := Hid.mk (HT.out.then (But.of hb8))
  have HX0 := Hid.mk (HX0.out.below hb8)
  have HX2 := Hid.mk (HX2.out.below hb8)
  have v0 := HX2.out.cell 0 rfl
  have vf0 := HX2.out.fz 0
  have v1 := HX2.out.cell 1 rfl
  have vf1 := HX2.out.fz 1
  have v2 := HX2.out.cell 2 rfl
  have vf2 := HX2.out.fz 2
  have a0 := HX0.out.cell 0 rfl
  have af0 := HX0.out.fz 0
  have a1 := HX0.out.cell 1 rfl
  have af1 := HX0.out.fz 1
  have a2 := HX0.out.cell 2 rfl
  have af2 := HX0.out.fz 2
  have a3 := HX0.out.cell 3 rfl
  have af3 := HX0.out.fz 3
  have hzV := HX2.out.lt
  have hzA := HX0.out.lt
  clear hb8
  go_wp2_with (first | (go_at_call 11; refine (HF.out _ _ _ _ HC.out).mono ?_; rintro e w9 ⟨rfl, hbf, hrf⟩; have HC := Hid.mk hrf; have HT := Hid.mk (HT.out.then hbf); have HX0 := Hid.mk (HX0.out.but hbf N0.out); have HX2 := Hid.mk (HX2.out.but hbf N2.out); have v0 := HX2.out.cell 0 rfl; have vf0 := HX2.out.fz 0; have v1 := HX2.out.cell 1 rfl; have vf1 := HX2.out.fz 1; have v2 := HX2.out.cell 2 rfl; have vf2 := HX2.out.fz 2; have a0 := HX0.out.cell 0 rfl; have af0 := HX0.out.fz 0; have a1 := HX0.out.cell 1 rfl; have af1 := HX0.out.fz 1; have a2 := HX0.out.cell 2 rfl; have af2 := HX0.out.fz 2; have a3 := HX0.out.cell 3 rfl; have af3 := HX0.out.fz 3; clear hbf hrf) | (go_at_call 16; refine (HO.out _ _ _ HC.out).mono ?_; rintro e w10 ⟨rfl, hbo⟩; have HC := Hid.mk (HC.out.below hbo); have HT := Hid.mk (HT.out.then (But.of hbo)); have HX0 := Hid.mk (HX0.out.below hbo); have HX2 := Hid.mk (HX2.out.below hbo); have v0 := HX2.out.cell 0 rfl; have vf0 := HX2.out.fz 0; have v1 := HX2.out.cell 1 rfl; have vf1 := HX2.out.fz 1; have v2 := HX2.out.cell 2 rfl; have vf2 := HX2.out.fz 2; have a0 := HX0.out.cell 0 rfl; have af0 := HX0.out.fz 0; have a1 := HX0.out.cell 1 rfl; have af1 := HX0.out.fz 1; have a2 := HX0.out.cell 2 rfl; have af2 := HX0.out.fz 2; have a3 := HX0.out.cell 3 rfl; have af3 := HX0.out.fz 3; have hzV := HX2.out.lt; have hzA := HX0.out.lt; clear hbo))
  skip
  have HBX : Hid (Box ((((w10.setCell ⟨w.heap.size, 0, none⟩ (.string ⟨#[]⟩)).setCell ⟨w.heap.size, 1, none⟩ (.int .i64 1)).setCell ⟨w.heap.size, 2, none⟩ (.int .i64 AN)).setCell ⟨w.heap.size, 3, none⟩ (.string ⟨#[]⟩)) w.heap.size [.string ⟨#[]⟩, .int .i64 1, .int .i64 AN, .string ⟨#[]⟩]) := Hid.mk (((((HX0.out).set 0 _).set 1 _).set 2 _).set 3 _)
  have z0 := HBX.out.cell 0 rfl
  have z1 := HBX.out.cell 1 rfl
  have z2 := HBX.out.cell 2 rfl
  have z3 := HBX.out.cell 3 rfl
  clear HBX
  refine bodyPost_ret (v := .agg #[.string ⟨#[]⟩, .int .i64 1, .int .i64 AN, .string ⟨#[]⟩]) (by simp [results, Tryz.results49, go_sem, z0, z1, z2, z3]) rfl ?_
  refine ⟨(1, AN, []), some er, Or.inr (Or.inl ⟨hk1, hok, rfl, rfl, rfl⟩), rfl, ?_, ?_⟩
  · exact (((HT.out.put (Nat.le_refl _) _).put (Nat.le_refl _) _).put (Nat.le_refl _) _).put (Nat.le_refl _) _
  · exact RF.set (RF.set (RF.set (RF.set HC.out hlt) hlt) hlt) hlt
set_option maxRecDepth 100000 in
set_option maxHeartbeats 3200000 in
theorem argr_some_f_N1r (R : Nat) (ts ts1 : List Tk) (er : Int × Nat) (w : World) (h : RF w R ts (some er)) (hm : seeB [45] ts (some er) = false) (ht : takeT [45] ts (some er) = ts1) (hk1 : kindT ts1 = 1) (hok : okN (textT ts1)) (hr : rightValueB 1 (atoiN (textT ts1)) [] = true) : Calls Tryz.prog 49 #[.pointer (some ⟨R, 0, none⟩)] w fun e w' => ∃ x bad2, ArgOut false ts1 (some er) x bad2 ∧ e = .returned (.agg #[.string ⟨#[]⟩, .int .i64 x.1, .int .i64 x.2.1, .string (ba x.2.2)]) ∧ But R w w' ∧ RF w' R (if bad2.isNone then ts1.tail else ts1) bad2 := by
  have hlt := h.lt
  have HO : Hid (∀ V ts bad, RF V R ts bad → Calls Tryz.prog 16 #[.pointer (some ⟨R, 0, none⟩)] V fun e w' => e = .returned (.bool bad.isNone) ∧ Below V.heap.size V w') := Hid.mk fun V ts bad h => okr_any R ts bad V h
  have HF : Hid (∀ V ts bad c, RF V R ts bad → Calls Tryz.prog 11 #[.pointer (some ⟨R, 0, none⟩), .int .i64 c] V fun e w' => e = .returned (.tuple #[]) ∧ But R V w' ∧ RF w' R ts (bad.or (some (c, hereT ts)))) := Hid.mk fun V ts bad c h => failsr_any R ts bad c V h
  have HTK : Hid (∀ V, RF V R ts (some er) → Calls Tryz.prog 28 #[.pointer (some ⟨R, 0, none⟩), .string (ba [45])] V fun e w' => e = .returned (.bool false) ∧ But R V w' ∧ RF w' R ts1 (some er)) := Hid.mk fun V hV => by have := taker_any [45] R ts (some er) V hV (by simp); rw [hm, ht] at this; exact this
  obtain ⟨w1, hw1⟩ : ∃ x, w.alloc (.cells #[.string ⟨#[]⟩, .int .i64 0, .int .i64 0, .string ⟨#[]⟩] 59) = x := ⟨_, rfl⟩
  have hb1 : Below w.heap.size w w1 := by rw [← hw1]; exact below_box _ _
  have hX0 : Box w1 w.heap.size [.string ⟨#[]⟩, .int .i64 0, .int .i64 0, .string ⟨#[]⟩] := by rw [← hw1]; exact Box.new w _ _ _ rfl
  have HC := Hid.mk (h.below hb1)
  have HT := Hid.mk (But.of (R := R) hb1)
  have HX0 := Hid.mk hX0
  have N0 : Hid (w.heap.size ≠ R) := Hid.mk (by omega)
  clear h hb1 hX0 hm ht
  have kb2 : (((kindT ts1 + 1 : Nat) : Int) == 2) = true := by rw [hk1]; rfl
  generalize hK1 : ((kindT ts1 + 1 : Nat) : Int) = K1 at *
  generalize hTX : ba (textT ts1) = TX at *
  generalize hHR : ((hereT ts1 : Nat) : Int) = HR at *
  go_enter Tryz.func49, Tryz.ntmps49
  go_wp2_with (first | (go_at_call 16; refine (HO.out _ _ _ HC.out).mono ?_; rintro e w2 ⟨rfl, hbo⟩; have HC := Hid.mk (HC.out.below hbo); have HT := Hid.mk (HT.out.then (But.of hbo)); have HX0 := Hid.mk (HX0.out.below hbo); have hlt2 := HC.out.lt; clear hbo) | (go_at_call 28; refine (HTK.out _ HC.out).mono ?_; rintro e w3 ⟨rfl, hb3, hr3⟩; have HC := Hid.mk hr3; have HT := Hid.mk (HT.out.then hb3); have HW3 := Hid.mk HT.out.size; have HX0 := Hid.mk (HX0.out.but hb3 N0.out); obtain ⟨b1, o1, cc1, n1, hc', hn', hcc', hR', hn1', j0, j1, j2, e1', e2'⟩ := HC.out.head; rw [hK1] at j0; rw [hTX] at j1; rw [hHR] at j2; have hlt3 := HC.out.lt; clear hb3 hr3 hn' e1' e2'; obtain ⟨w4, hw4⟩ : ∃ x, w3.alloc (.cells #[.int .i64 K1, .string TX, .int .i64 HR] 64) = x := ⟨_, rfl⟩; obtain ⟨v5, hv5⟩ : ∃ x, w4.alloc (.cells #[.int .i64 0, .int .i64 0, .string ⟨#[]⟩] 57) = x := ⟨_, rfl⟩; obtain ⟨w5, hw5⟩ : ∃ x, ((v5.setCell ⟨w3.heap.size + 1, 0, none⟩ (.int .i64 0)).setCell ⟨w3.heap.size + 1, 1, none⟩ (.int .i64 0)).setCell ⟨w3.heap.size + 1, 2, none⟩ (.string ⟨#[]⟩) = x := ⟨_, rfl⟩; have hs4 : w4.heap.size = w3.heap.size + 1 := (by rw [← hw4]; exact World.size_alloc _ _); have hb34 : Below w3.heap.size w3 w4 := (by rw [← hw4]; exact below_box _ _); have hb45 : Below w4.heap.size w4 v5 := (by rw [← hv5]; exact below_box _ _); have hX2' : Box v5 (w3.heap.size + 1) [.int .i64 0, .int .i64 0, .string ⟨#[]⟩] := (by rw [← hv5]; exact Box.new w4 _ _ _ hs4.symm); have p0 := hX2'.cell 0 rfl; have p1 := hX2'.cell 1 rfl; have p2 := hX2'.cell 2 rfl; have pf0 := hX2'.fz 0; have pf1 := hX2'.fz 1; have pf2 := hX2'.fz 2; have hzP := hX2'.lt; have hb5 : Below w4.heap.size w4 w5 := (by rw [← hw5]; exact ((hb45.setCell (p := ⟨w3.heap.size + 1, 0, none⟩) (Nat.le_of_eq hs4) _).setCell (p := ⟨w3.heap.size + 1, 1, none⟩) (Nat.le_of_eq hs4) _).setCell (p := ⟨w3.heap.size + 1, 2, none⟩) (Nat.le_of_eq hs4) _); have hb35 := bel_then hb34 hb5; have HX1 := Hid.mk (show Box w5 w3.heap.size [.int .i64 K1, .string TX, .int .i64 HR] from (show Box w4 w3.heap.size [.int .i64 K1, .string TX, .int .i64 HR] by rw [← hw4]; exact Box.new w3 _ _ _ rfl).below hb5); have HX2 := Hid.mk (show Box w5 (w3.heap.size + 1) [.int .i64 0, .int .i64 0, .string ⟨#[]⟩] by rw [← hw5]; exact ((hX2'.set 0 _).set 1 _).set 2 _); have q0 := (hb5.cell (p := ⟨w3.heap.size, 0, none⟩) (by show w3.heap.size < _; omega)); have HC := Hid.mk (HC.out.below hb35); have HT := Hid.mk (HT.out.then (But.of hb35)); have HX0 := Hid.mk (HX0.out.below hb35); have N1 : Hid (w3.heap.size ≠ R) := Hid.mk (by omega); have N2 : Hid (w3.heap.size + 1 ≠ R) := Hid.mk (by omega); have HSZ := Hid.mk (And.intro hlt3 hlt3); have t0 := HX1.out.cell 0 rfl; have t1 := HX1.out.cell 1 rfl; have v0 := HX2.out.cell 0 rfl; have vf0 := HX2.out.fz 0; have v1 := HX2.out.cell 1 rfl; have vf1 := HX2.out.fz 1; have v2 := HX2.out.cell 2 rfl; have vf2 := HX2.out.fz 2; clear hb34 hb45 hb35 hb5 hX2' q0) | (go_at_call 11; fail) | (go_at_call 31; fail) | (go_at_call 75; fail))
  refine (show Calls Tryz.prog 31 #[.string TX] w5 _ from (by rw [← hTX]; exact atoiR_any (textT ts1) w5 (by obtain ⟨t, -, -, e2, -, -, hl⟩ := HC.out.head_tok; rw [e2]; exact hl) HC.out.env.fl)).mono ?_
  rintro e w6 ⟨q6, rfl, hq6, hb6⟩
  obtain ⟨-, rfl⟩ := hq6.resolve_right (fun hh => hh.1 hok)
  have NUM : Hid (0 ≤ atoiN (textT ts1)) := Hid.mk (by obtain ⟨t, -, e1, e2, -, hd, -⟩ := HC.out.head_tok; rw [e2]; exact atoi_pos (hd (by rw [← e1]; exact hk1)))
  have NLE := Hid.mk (atoiN_le (textT ts1))
  have hng := neg_in NUM.out NLE.out
  have HC := Hid.mk (HC.out.below hb6)
  have HT := Hid.mk (HT.out.then (But.of hb6))
  have HX0 := Hid.mk (HX0.out.below hb6)
  have HX1 := Hid.mk (HX1.out.below hb6)
  have HX2 := Hid.mk (HX2.out.below hb6)
  have v0 := HX2.out.cell 0 rfl
  have vf0 := HX2.out.fz 0
  have v1 := HX2.out.cell 1 rfl
  have vf1 := HX2.out.fz 1
  have v2 := HX2.out.cell 2 rfl
  have vf2 := HX2.out.fz 2
  have hzV := HX2.out.lt
  clear hb6 hq6
  generalize hAN : atoiN (textT ts1) = AN at *
  go_wp2_with (first | (go_at_call 11; refine (HF.out _ _ _ _ HC.out).mono ?_; rintro e w7 ⟨rfl, hbf, hrf⟩; have HC := Hid.mk hrf; have HT := Hid.mk (HT.out.then hbf); have HX0 := Hid.mk (HX0.out.but hbf N0.out); have HX1 := Hid.mk (HX1.out.but hbf N1.out); have HX2 := Hid.mk (HX2.out.but hbf N2.out); have v0 := HX2.out.cell 0 rfl; have vf0 := HX2.out.fz 0; have v1 := HX2.out.cell 1 rfl; have vf1 := HX2.out.fz 1; have v2 := HX2.out.cell 2 rfl; have vf2 := HX2.out.fz 2; have hzV := HX2.out.lt; clear hbf hrf) | (go_at_call 76; fail))
  obtain ⟨W, hW⟩ : ∃ x, (((w6.setCell ⟨w3.heap.size + 1, 0, none⟩ (.int .i64 1)).setCell ⟨w3.heap.size + 1, 1, none⟩ (.int .i64 AN)).setCell ⟨w3.heap.size + 1, 2, none⟩ (.string ⟨#[]⟩)) = x := ⟨_, rfl⟩
  have hRk : R < w3.heap.size + 1 := Nat.lt_succ_of_lt HSZ.out.1
  have hRw : w.heap.size ≤ w3.heap.size := HW3.out
  have HC : Hid (RF W R ts1 _) := Hid.mk (by rw [← hW]; exact RF.set (RF.set (RF.set HC.out hRk) hRk) hRk)
  have HT : Hid (But R w W) := Hid.mk (by rw [← hW]; exact ((HT.out.put (Nat.le_succ_of_le hRw) _).put (Nat.le_succ_of_le hRw) _).put (Nat.le_succ_of_le hRw) _)
  have HX2 : Hid (Box W (w3.heap.size + 1) [.int .i64 1, .int .i64 AN, .string ⟨#[]⟩]) := Hid.mk (by rw [← hW]; exact ((HX2.out.set 0 _).set 1 _).set 2 _)
  have HX0 : Hid (Box W w.heap.size [.string ⟨#[]⟩, .int .i64 0, .int .i64 0, .string ⟨#[]⟩]) := Hid.mk (by rw [← hW]; exact ((HX0.out.other _ _ (by omega)).other _ _ (by omega)).other _ _ (by omega))
  rw [hW]
  clear hW
  refine (rrv_any 1 AN ⟨#[]⟩ W (by decide)).mono ?_
  rintro e w8 ⟨rfl, hb8⟩
  have hrt : rightValueB 1 AN (⟨#[]⟩ : ByteArray).data.toList = true := by
    show rightValueB 1 AN [] = _
    simpa using hr
  rw [hrt]
  have HC := Hid.mk (HC.out.below hb8)
  have HT := Hid.mk (HT.out.then (But.of hb8))
  have HX0 := Hid.mk (HX0.out.below hb8)
  have HX2 := Hid.mk (HX2.out.below hb8)
  have v0 := HX2.out.cell 0 rfl
  have vf0 := HX2.out.fz 0
  have v1 := HX2.out.cell 1 rfl
  have vf1 := HX2.out.fz 1
  have v2 := HX2.out.cell 2 rfl
  have vf2 := HX2.out.fz 2
  have a0 := HX0.out.cell 0 rfl
  have af0 := HX0.out.fz 0
  have a1 := HX0.out.cell 1 rfl
  have af1 := HX0.out.fz 1
  have a2 := HX0.out.cell 2 rfl
  have af2 := HX0.out.fz 2
  have a3 := HX0.out.cell 3 rfl
  have af3 := HX0.out.fz 3
  have hzV := HX2.out.lt
  have hzA := HX0.out.lt
  clear hb8
  go_wp2_with (first | (go_at_call 16; refine (HO.out _ _ _ HC.out).mono ?_; rintro e w10 ⟨rfl, hbo⟩; have HC := Hid.mk (HC.out.below hbo); have HT := Hid.mk (HT.out.then (But.of hbo)); have HX0 := Hid.mk (HX0.out.below hbo); have HX2 := Hid.mk (HX2.out.below hbo); have v0 := HX2.out.cell 0 rfl; have vf0 := HX2.out.fz 0; have v1 := HX2.out.cell 1 rfl; have vf1 := HX2.out.fz 1; have v2 := HX2.out.cell 2 rfl; have vf2 := HX2.out.fz 2; have a0 := HX0.out.cell 0 rfl; have af0 := HX0.out.fz 0; have a1 := HX0.out.cell 1 rfl; have af1 := HX0.out.fz 1; have a2 := HX0.out.cell 2 rfl; have af2 := HX0.out.fz 2; have a3 := HX0.out.cell 3 rfl; have af3 := HX0.out.fz 3; have hzV := HX2.out.lt; have hzA := HX0.out.lt; clear hbo))
  skip
  have HBX : Hid (Box ((((w10.setCell ⟨w.heap.size, 0, none⟩ (.string ⟨#[]⟩)).setCell ⟨w.heap.size, 1, none⟩ (.int .i64 1)).setCell ⟨w.heap.size, 2, none⟩ (.int .i64 AN)).setCell ⟨w.heap.size, 3, none⟩ (.string ⟨#[]⟩)) w.heap.size [.string ⟨#[]⟩, .int .i64 1, .int .i64 AN, .string ⟨#[]⟩]) := Hid.mk (((((HX0.out).set 0 _).set 1 _).set 2 _).set 3 _)
  have z0 := HBX.out.cell 0 rfl
  have z1 := HBX.out.cell 1 rfl
  have z2 := HBX.out.cell 2 rfl
  have z3 := HBX.out.cell 3 rfl
  clear HBX
  refine bodyPost_ret (v := .agg #[.string ⟨#[]⟩, .int .i64 1, .int .i64 AN, .string ⟨#[]⟩]) (by simp [results, Tryz.results49, go_sem, z0, z1, z2, z3]) rfl ?_
  refine ⟨(1, AN, []), some er, Or.inl ⟨hk1, hok, by rw [hAN]; rfl, by rw [hAN, if_neg (by simp), hr]; rfl⟩, rfl, ?_, ?_⟩
  · exact (((HT.out.put (Nat.le_refl _) _).put (Nat.le_refl _) _).put (Nat.le_refl _) _).put (Nat.le_refl _) _
  · exact RF.set (RF.set (RF.set (RF.set HC.out hlt) hlt) hlt) hlt
set_option maxRecDepth 100000 in
set_option maxHeartbeats 3200000 in
theorem argr_some_f_N1n (R : Nat) (ts ts1 : List Tk) (er : Int × Nat) (w : World) (h : RF w R ts (some er)) (hm : seeB [45] ts (some er) = false) (ht : takeT [45] ts (some er) = ts1) (hk1 : kindT ts1 = 1) (hok : okN (textT ts1)) (hr : rightValueB 1 (atoiN (textT ts1)) [] = false) : Calls Tryz.prog 49 #[.pointer (some ⟨R, 0, none⟩)] w fun e w' => ∃ x bad2, ArgOut false ts1 (some er) x bad2 ∧ e = .returned (.agg #[.string ⟨#[]⟩, .int .i64 x.1, .int .i64 x.2.1, .string (ba x.2.2)]) ∧ But R w w' ∧ RF w' R (if bad2.isNone then ts1.tail else ts1) bad2 := by
  have hlt := h.lt
  have HO : Hid (∀ V ts bad, RF V R ts bad → Calls Tryz.prog 16 #[.pointer (some ⟨R, 0, none⟩)] V fun e w' => e = .returned (.bool bad.isNone) ∧ Below V.heap.size V w') := Hid.mk fun V ts bad h => okr_any R ts bad V h
  have HF : Hid (∀ V ts bad c, RF V R ts bad → Calls Tryz.prog 11 #[.pointer (some ⟨R, 0, none⟩), .int .i64 c] V fun e w' => e = .returned (.tuple #[]) ∧ But R V w' ∧ RF w' R ts (bad.or (some (c, hereT ts)))) := Hid.mk fun V ts bad c h => failsr_any R ts bad c V h
  have HTK : Hid (∀ V, RF V R ts (some er) → Calls Tryz.prog 28 #[.pointer (some ⟨R, 0, none⟩), .string (ba [45])] V fun e w' => e = .returned (.bool false) ∧ But R V w' ∧ RF w' R ts1 (some er)) := Hid.mk fun V hV => by have := taker_any [45] R ts (some er) V hV (by simp); rw [hm, ht] at this; exact this
  obtain ⟨w1, hw1⟩ : ∃ x, w.alloc (.cells #[.string ⟨#[]⟩, .int .i64 0, .int .i64 0, .string ⟨#[]⟩] 59) = x := ⟨_, rfl⟩
  have hb1 : Below w.heap.size w w1 := by rw [← hw1]; exact below_box _ _
  have hX0 : Box w1 w.heap.size [.string ⟨#[]⟩, .int .i64 0, .int .i64 0, .string ⟨#[]⟩] := by rw [← hw1]; exact Box.new w _ _ _ rfl
  have HC := Hid.mk (h.below hb1)
  have HT := Hid.mk (But.of (R := R) hb1)
  have HX0 := Hid.mk hX0
  have N0 : Hid (w.heap.size ≠ R) := Hid.mk (by omega)
  clear h hb1 hX0 hm ht
  have kb2 : (((kindT ts1 + 1 : Nat) : Int) == 2) = true := by rw [hk1]; rfl
  generalize hK1 : ((kindT ts1 + 1 : Nat) : Int) = K1 at *
  generalize hTX : ba (textT ts1) = TX at *
  generalize hHR : ((hereT ts1 : Nat) : Int) = HR at *
  go_enter Tryz.func49, Tryz.ntmps49
  go_wp2_with (first | (go_at_call 16; refine (HO.out _ _ _ HC.out).mono ?_; rintro e w2 ⟨rfl, hbo⟩; have HC := Hid.mk (HC.out.below hbo); have HT := Hid.mk (HT.out.then (But.of hbo)); have HX0 := Hid.mk (HX0.out.below hbo); have hlt2 := HC.out.lt; clear hbo) | (go_at_call 28; refine (HTK.out _ HC.out).mono ?_; rintro e w3 ⟨rfl, hb3, hr3⟩; have HC := Hid.mk hr3; have HT := Hid.mk (HT.out.then hb3); have HW3 := Hid.mk HT.out.size; have HX0 := Hid.mk (HX0.out.but hb3 N0.out); obtain ⟨b1, o1, cc1, n1, hc', hn', hcc', hR', hn1', j0, j1, j2, e1', e2'⟩ := HC.out.head; rw [hK1] at j0; rw [hTX] at j1; rw [hHR] at j2; have hlt3 := HC.out.lt; clear hb3 hr3 hn' e1' e2'; obtain ⟨w4, hw4⟩ : ∃ x, w3.alloc (.cells #[.int .i64 K1, .string TX, .int .i64 HR] 64) = x := ⟨_, rfl⟩; obtain ⟨v5, hv5⟩ : ∃ x, w4.alloc (.cells #[.int .i64 0, .int .i64 0, .string ⟨#[]⟩] 57) = x := ⟨_, rfl⟩; obtain ⟨w5, hw5⟩ : ∃ x, ((v5.setCell ⟨w3.heap.size + 1, 0, none⟩ (.int .i64 0)).setCell ⟨w3.heap.size + 1, 1, none⟩ (.int .i64 0)).setCell ⟨w3.heap.size + 1, 2, none⟩ (.string ⟨#[]⟩) = x := ⟨_, rfl⟩; have hs4 : w4.heap.size = w3.heap.size + 1 := (by rw [← hw4]; exact World.size_alloc _ _); have hb34 : Below w3.heap.size w3 w4 := (by rw [← hw4]; exact below_box _ _); have hb45 : Below w4.heap.size w4 v5 := (by rw [← hv5]; exact below_box _ _); have hX2' : Box v5 (w3.heap.size + 1) [.int .i64 0, .int .i64 0, .string ⟨#[]⟩] := (by rw [← hv5]; exact Box.new w4 _ _ _ hs4.symm); have p0 := hX2'.cell 0 rfl; have p1 := hX2'.cell 1 rfl; have p2 := hX2'.cell 2 rfl; have pf0 := hX2'.fz 0; have pf1 := hX2'.fz 1; have pf2 := hX2'.fz 2; have hzP := hX2'.lt; have hb5 : Below w4.heap.size w4 w5 := (by rw [← hw5]; exact ((hb45.setCell (p := ⟨w3.heap.size + 1, 0, none⟩) (Nat.le_of_eq hs4) _).setCell (p := ⟨w3.heap.size + 1, 1, none⟩) (Nat.le_of_eq hs4) _).setCell (p := ⟨w3.heap.size + 1, 2, none⟩) (Nat.le_of_eq hs4) _); have hb35 := bel_then hb34 hb5; have HX1 := Hid.mk (show Box w5 w3.heap.size [.int .i64 K1, .string TX, .int .i64 HR] from (show Box w4 w3.heap.size [.int .i64 K1, .string TX, .int .i64 HR] by rw [← hw4]; exact Box.new w3 _ _ _ rfl).below hb5); have HX2 := Hid.mk (show Box w5 (w3.heap.size + 1) [.int .i64 0, .int .i64 0, .string ⟨#[]⟩] by rw [← hw5]; exact ((hX2'.set 0 _).set 1 _).set 2 _); have q0 := (hb5.cell (p := ⟨w3.heap.size, 0, none⟩) (by show w3.heap.size < _; omega)); have HC := Hid.mk (HC.out.below hb35); have HT := Hid.mk (HT.out.then (But.of hb35)); have HX0 := Hid.mk (HX0.out.below hb35); have N1 : Hid (w3.heap.size ≠ R) := Hid.mk (by omega); have N2 : Hid (w3.heap.size + 1 ≠ R) := Hid.mk (by omega); have HSZ := Hid.mk (And.intro hlt3 hlt3); have t0 := HX1.out.cell 0 rfl; have t1 := HX1.out.cell 1 rfl; have v0 := HX2.out.cell 0 rfl; have vf0 := HX2.out.fz 0; have v1 := HX2.out.cell 1 rfl; have vf1 := HX2.out.fz 1; have v2 := HX2.out.cell 2 rfl; have vf2 := HX2.out.fz 2; clear hb34 hb45 hb35 hb5 hX2' q0) | (go_at_call 11; fail) | (go_at_call 31; fail) | (go_at_call 75; fail))
  refine (show Calls Tryz.prog 31 #[.string TX] w5 _ from (by rw [← hTX]; exact atoiR_any (textT ts1) w5 (by obtain ⟨t, -, -, e2, -, -, hl⟩ := HC.out.head_tok; rw [e2]; exact hl) HC.out.env.fl)).mono ?_
  rintro e w6 ⟨q6, rfl, hq6, hb6⟩
  obtain ⟨-, rfl⟩ := hq6.resolve_right (fun hh => hh.1 hok)
  have NUM : Hid (0 ≤ atoiN (textT ts1)) := Hid.mk (by obtain ⟨t, -, e1, e2, -, hd, -⟩ := HC.out.head_tok; rw [e2]; exact atoi_pos (hd (by rw [← e1]; exact hk1)))
  have NLE := Hid.mk (atoiN_le (textT ts1))
  have hng := neg_in NUM.out NLE.out
  have HC := Hid.mk (HC.out.below hb6)
  have HT := Hid.mk (HT.out.then (But.of hb6))
  have HX0 := Hid.mk (HX0.out.below hb6)
  have HX1 := Hid.mk (HX1.out.below hb6)
  have HX2 := Hid.mk (HX2.out.below hb6)
  have v0 := HX2.out.cell 0 rfl
  have vf0 := HX2.out.fz 0
  have v1 := HX2.out.cell 1 rfl
  have vf1 := HX2.out.fz 1
  have v2 := HX2.out.cell 2 rfl
  have vf2 := HX2.out.fz 2
  have hzV := HX2.out.lt
  clear hb6 hq6
  generalize hAN : atoiN (textT ts1) = AN at *
  go_wp2_with (first | (go_at_call 11; refine (HF.out _ _ _ _ HC.out).mono ?_; rintro e w7 ⟨rfl, hbf, hrf⟩; have HC := Hid.mk hrf; have HT := Hid.mk (HT.out.then hbf); have HX0 := Hid.mk (HX0.out.but hbf N0.out); have HX1 := Hid.mk (HX1.out.but hbf N1.out); have HX2 := Hid.mk (HX2.out.but hbf N2.out); have v0 := HX2.out.cell 0 rfl; have vf0 := HX2.out.fz 0; have v1 := HX2.out.cell 1 rfl; have vf1 := HX2.out.fz 1; have v2 := HX2.out.cell 2 rfl; have vf2 := HX2.out.fz 2; have hzV := HX2.out.lt; clear hbf hrf) | (go_at_call 76; fail))
  obtain ⟨W, hW⟩ : ∃ x, (((w6.setCell ⟨w3.heap.size + 1, 0, none⟩ (.int .i64 1)).setCell ⟨w3.heap.size + 1, 1, none⟩ (.int .i64 AN)).setCell ⟨w3.heap.size + 1, 2, none⟩ (.string ⟨#[]⟩)) = x := ⟨_, rfl⟩
  have hRk : R < w3.heap.size + 1 := Nat.lt_succ_of_lt HSZ.out.1
  have hRw : w.heap.size ≤ w3.heap.size := HW3.out
  have HC : Hid (RF W R ts1 _) := Hid.mk (by rw [← hW]; exact RF.set (RF.set (RF.set HC.out hRk) hRk) hRk)
  have HT : Hid (But R w W) := Hid.mk (by rw [← hW]; exact ((HT.out.put (Nat.le_succ_of_le hRw) _).put (Nat.le_succ_of_le hRw) _).put (Nat.le_succ_of_le hRw) _)
  have HX2 : Hid (Box W (w3.heap.size + 1) [.int .i64 1, .int .i64 AN, .string ⟨#[]⟩]) := Hid.mk (by rw [← hW]; exact ((HX2.out.set 0 _).set 1 _).set 2 _)
  have HX0 : Hid (Box W w.heap.size [.string ⟨#[]⟩, .int .i64 0, .int .i64 0, .string ⟨#[]⟩]) := Hid.mk (by rw [← hW]; exact ((HX0.out.other _ _ (by omega)).other _ _ (by omega)).other _ _ (by omega))
  rw [hW]
  clear hW
  refine (rrv_any 1 AN ⟨#[]⟩ W (by decide)).mono ?_
  rintro e w8 ⟨rfl, hb8⟩
  have hrt : rightValueB 1 AN (⟨#[]⟩ : ByteArray).data.toList = false := by
    show rightValueB 1 AN [] = _
    simpa using hr
  rw [hrt]
  have HC := Hid.mk (HC.out.below hb8)
  have HT := Hid.mk (HT.out.then (But.of hb8))
  have HX0 := Hid.mk (HX0.out.below hb8)
  have HX2 := Hid.mk (HX2.out.below hb8)
  have v0 := HX2.out.cell 0 rfl
  have vf0 := HX2.out.fz 0
  have v1 := HX2.out.cell 1 rfl
  have vf1 := HX2.out.fz 1
  have v2 := HX2.out.cell 2 rfl
  have vf2 := HX2.out.fz 2
  have a0 := HX0.out.cell 0 rfl
  have af0 := HX0.out.fz 0
  have a1 := HX0.out.cell 1 rfl
  have af1 := HX0.out.fz 1
  have a2 := HX0.out.cell 2 rfl
  have af2 := HX0.out.fz 2
  have a3 := HX0.out.cell 3 rfl
  have af3 := HX0.out.fz 3
  have hzV := HX2.out.lt
  have hzA := HX0.out.lt
  clear hb8
  go_wp2_with (first | (go_at_call 11; refine (HF.out _ _ _ _ HC.out).mono ?_; rintro e w9 ⟨rfl, hbf, hrf⟩; have HC := Hid.mk hrf; have HT := Hid.mk (HT.out.then hbf); have HX0 := Hid.mk (HX0.out.but hbf N0.out); have HX2 := Hid.mk (HX2.out.but hbf N2.out); have v0 := HX2.out.cell 0 rfl; have vf0 := HX2.out.fz 0; have v1 := HX2.out.cell 1 rfl; have vf1 := HX2.out.fz 1; have v2 := HX2.out.cell 2 rfl; have vf2 := HX2.out.fz 2; have a0 := HX0.out.cell 0 rfl; have af0 := HX0.out.fz 0; have a1 := HX0.out.cell 1 rfl; have af1 := HX0.out.fz 1; have a2 := HX0.out.cell 2 rfl; have af2 := HX0.out.fz 2; have a3 := HX0.out.cell 3 rfl; have af3 := HX0.out.fz 3; clear hbf hrf) | (go_at_call 16; refine (HO.out _ _ _ HC.out).mono ?_; rintro e w10 ⟨rfl, hbo⟩; have HC := Hid.mk (HC.out.below hbo); have HT := Hid.mk (HT.out.then (But.of hbo)); have HX0 := Hid.mk (HX0.out.below hbo); have HX2 := Hid.mk (HX2.out.below hbo); have v0 := HX2.out.cell 0 rfl; have vf0 := HX2.out.fz 0; have v1 := HX2.out.cell 1 rfl; have vf1 := HX2.out.fz 1; have v2 := HX2.out.cell 2 rfl; have vf2 := HX2.out.fz 2; have a0 := HX0.out.cell 0 rfl; have af0 := HX0.out.fz 0; have a1 := HX0.out.cell 1 rfl; have af1 := HX0.out.fz 1; have a2 := HX0.out.cell 2 rfl; have af2 := HX0.out.fz 2; have a3 := HX0.out.cell 3 rfl; have af3 := HX0.out.fz 3; have hzV := HX2.out.lt; have hzA := HX0.out.lt; clear hbo))
  skip
  have HBX : Hid (Box ((((w10.setCell ⟨w.heap.size, 0, none⟩ (.string ⟨#[]⟩)).setCell ⟨w.heap.size, 1, none⟩ (.int .i64 1)).setCell ⟨w.heap.size, 2, none⟩ (.int .i64 AN)).setCell ⟨w.heap.size, 3, none⟩ (.string ⟨#[]⟩)) w.heap.size [.string ⟨#[]⟩, .int .i64 1, .int .i64 AN, .string ⟨#[]⟩]) := Hid.mk (((((HX0.out).set 0 _).set 1 _).set 2 _).set 3 _)
  have z0 := HBX.out.cell 0 rfl
  have z1 := HBX.out.cell 1 rfl
  have z2 := HBX.out.cell 2 rfl
  have z3 := HBX.out.cell 3 rfl
  clear HBX
  refine bodyPost_ret (v := .agg #[.string ⟨#[]⟩, .int .i64 1, .int .i64 AN, .string ⟨#[]⟩]) (by simp [results, Tryz.results49, go_sem, z0, z1, z2, z3]) rfl ?_
  refine ⟨(1, AN, []), some er, Or.inl ⟨hk1, hok, by rw [hAN]; rfl, by rw [hAN, if_neg (by simp), hr]; rfl⟩, rfl, ?_, ?_⟩
  · exact (((HT.out.put (Nat.le_refl _) _).put (Nat.le_refl _) _).put (Nat.le_refl _) _).put (Nat.le_refl _) _
  · exact RF.set (RF.set (RF.set (RF.set HC.out hlt) hlt) hlt) hlt
set_option maxRecDepth 100000 in
set_option maxHeartbeats 3200000 in
theorem argr_some_f_Qr (R : Nat) (ts ts1 : List Tk) (er : Int × Nat) (w : World) (h : RF w R ts (some er)) (hm : seeB [45] ts (some er) = false) (ht : takeT [45] ts (some er) = ts1) (s : By) (hk1 : kindT ts1 = 2) (htx : textT ts1 = 39 :: s ++ [39]) (hq : 39 ∉ s) (hr : rightValueB 2 0 s = true) : Calls Tryz.prog 49 #[.pointer (some ⟨R, 0, none⟩)] w fun e w' => ∃ x bad2, ArgOut false ts1 (some er) x bad2 ∧ e = .returned (.agg #[.string ⟨#[]⟩, .int .i64 x.1, .int .i64 x.2.1, .string (ba x.2.2)]) ∧ But R w w' ∧ RF w' R (if bad2.isNone then ts1.tail else ts1) bad2 := by
  have hlt := h.lt
  have HO : Hid (∀ V ts bad, RF V R ts bad → Calls Tryz.prog 16 #[.pointer (some ⟨R, 0, none⟩)] V fun e w' => e = .returned (.bool bad.isNone) ∧ Below V.heap.size V w') := Hid.mk fun V ts bad h => okr_any R ts bad V h
  have HF : Hid (∀ V ts bad c, RF V R ts bad → Calls Tryz.prog 11 #[.pointer (some ⟨R, 0, none⟩), .int .i64 c] V fun e w' => e = .returned (.tuple #[]) ∧ But R V w' ∧ RF w' R ts (bad.or (some (c, hereT ts)))) := Hid.mk fun V ts bad c h => failsr_any R ts bad c V h
  have HTK : Hid (∀ V, RF V R ts (some er) → Calls Tryz.prog 28 #[.pointer (some ⟨R, 0, none⟩), .string (ba [45])] V fun e w' => e = .returned (.bool false) ∧ But R V w' ∧ RF w' R ts1 (some er)) := Hid.mk fun V hV => by have := taker_any [45] R ts (some er) V hV (by simp); rw [hm, ht] at this; exact this
  obtain ⟨w1, hw1⟩ : ∃ x, w.alloc (.cells #[.string ⟨#[]⟩, .int .i64 0, .int .i64 0, .string ⟨#[]⟩] 59) = x := ⟨_, rfl⟩
  have hb1 : Below w.heap.size w w1 := by rw [← hw1]; exact below_box _ _
  have hX0 : Box w1 w.heap.size [.string ⟨#[]⟩, .int .i64 0, .int .i64 0, .string ⟨#[]⟩] := by rw [← hw1]; exact Box.new w _ _ _ rfl
  have HC := Hid.mk (h.below hb1)
  have HT := Hid.mk (But.of (R := R) hb1)
  have HX0 := Hid.mk hX0
  have N0 : Hid (w.heap.size ≠ R) := Hid.mk (by omega)
  clear h hb1 hX0 hm ht
  have kb2 : (((kindT ts1 + 1 : Nat) : Int) == 2) = false := by rw [hk1]; rfl
  have kb3 : (((kindT ts1 + 1 : Nat) : Int) == 3) = true := by rw [hk1]; rfl
  generalize hK1 : ((kindT ts1 + 1 : Nat) : Int) = K1 at *
  generalize hTX : ba (textT ts1) = TX at *
  generalize hHR : ((hereT ts1 : Nat) : Int) = HR at *
  go_enter Tryz.func49, Tryz.ntmps49
  go_wp2_with (first | (go_at_call 16; refine (HO.out _ _ _ HC.out).mono ?_; rintro e w2 ⟨rfl, hbo⟩; have HC := Hid.mk (HC.out.below hbo); have HT := Hid.mk (HT.out.then (But.of hbo)); have HX0 := Hid.mk (HX0.out.below hbo); have hlt2 := HC.out.lt; clear hbo) | (go_at_call 28; refine (HTK.out _ HC.out).mono ?_; rintro e w3 ⟨rfl, hb3, hr3⟩; have HC := Hid.mk hr3; have HT := Hid.mk (HT.out.then hb3); have HW3 := Hid.mk HT.out.size; have HX0 := Hid.mk (HX0.out.but hb3 N0.out); obtain ⟨b1, o1, cc1, n1, hc', hn', hcc', hR', hn1', j0, j1, j2, e1', e2'⟩ := HC.out.head; rw [hK1] at j0; rw [hTX] at j1; rw [hHR] at j2; have hlt3 := HC.out.lt; clear hb3 hr3 hn' e1' e2'; obtain ⟨w4, hw4⟩ : ∃ x, w3.alloc (.cells #[.int .i64 K1, .string TX, .int .i64 HR] 64) = x := ⟨_, rfl⟩; obtain ⟨v5, hv5⟩ : ∃ x, w4.alloc (.cells #[.int .i64 0, .int .i64 0, .string ⟨#[]⟩] 57) = x := ⟨_, rfl⟩; obtain ⟨w5, hw5⟩ : ∃ x, ((v5.setCell ⟨w3.heap.size + 1, 0, none⟩ (.int .i64 0)).setCell ⟨w3.heap.size + 1, 1, none⟩ (.int .i64 0)).setCell ⟨w3.heap.size + 1, 2, none⟩ (.string ⟨#[]⟩) = x := ⟨_, rfl⟩; have hs4 : w4.heap.size = w3.heap.size + 1 := (by rw [← hw4]; exact World.size_alloc _ _); have hb34 : Below w3.heap.size w3 w4 := (by rw [← hw4]; exact below_box _ _); have hb45 : Below w4.heap.size w4 v5 := (by rw [← hv5]; exact below_box _ _); have hX2' : Box v5 (w3.heap.size + 1) [.int .i64 0, .int .i64 0, .string ⟨#[]⟩] := (by rw [← hv5]; exact Box.new w4 _ _ _ hs4.symm); have p0 := hX2'.cell 0 rfl; have p1 := hX2'.cell 1 rfl; have p2 := hX2'.cell 2 rfl; have pf0 := hX2'.fz 0; have pf1 := hX2'.fz 1; have pf2 := hX2'.fz 2; have hzP := hX2'.lt; have hb5 : Below w4.heap.size w4 w5 := (by rw [← hw5]; exact ((hb45.setCell (p := ⟨w3.heap.size + 1, 0, none⟩) (Nat.le_of_eq hs4) _).setCell (p := ⟨w3.heap.size + 1, 1, none⟩) (Nat.le_of_eq hs4) _).setCell (p := ⟨w3.heap.size + 1, 2, none⟩) (Nat.le_of_eq hs4) _); have hb35 := bel_then hb34 hb5; have HX1 := Hid.mk (show Box w5 w3.heap.size [.int .i64 K1, .string TX, .int .i64 HR] from (show Box w4 w3.heap.size [.int .i64 K1, .string TX, .int .i64 HR] by rw [← hw4]; exact Box.new w3 _ _ _ rfl).below hb5); have HX2 := Hid.mk (show Box w5 (w3.heap.size + 1) [.int .i64 0, .int .i64 0, .string ⟨#[]⟩] by rw [← hw5]; exact ((hX2'.set 0 _).set 1 _).set 2 _); have q0 := (hb5.cell (p := ⟨w3.heap.size, 0, none⟩) (by show w3.heap.size < _; omega)); have HC := Hid.mk (HC.out.below hb35); have HT := Hid.mk (HT.out.then (But.of hb35)); have HX0 := Hid.mk (HX0.out.below hb35); have N1 : Hid (w3.heap.size ≠ R) := Hid.mk (by omega); have N2 : Hid (w3.heap.size + 1 ≠ R) := Hid.mk (by omega); have HSZ := Hid.mk (And.intro hlt3 hlt3); have t0 := HX1.out.cell 0 rfl; have t1 := HX1.out.cell 1 rfl; have v0 := HX2.out.cell 0 rfl; have vf0 := HX2.out.fz 0; have v1 := HX2.out.cell 1 rfl; have vf1 := HX2.out.fz 1; have v2 := HX2.out.cell 2 rfl; have vf2 := HX2.out.fz 2; clear hb34 hb45 hb35 hb5 hX2' q0) | (go_at_call 11; fail) | (go_at_call 31; fail) | (go_at_call 75; fail))
  have htx2 : TX = ba (39 :: s ++ [39]) := by rw [← hTX, htx]
  have hsl : s.length ≤ 1000000 := by obtain ⟨t, -, -, e2, -, -, hl⟩ := HC.out.head_tok; rw [← e2, htx] at hl; simp at hl; omega
  refine (show Calls Tryz.prog 75 #[.string TX, .string ⟨#[39]⟩] w5 _ from (by rw [htx2]; exact trimr_any s w5 hq hsl)).mono ?_
  rintro e w6 ⟨rfl, hb6⟩
  have HC := Hid.mk (HC.out.below hb6)
  have HT := Hid.mk (HT.out.then (But.of hb6))
  have HX0 := Hid.mk (HX0.out.below hb6)
  have HX1 := Hid.mk (HX1.out.below hb6)
  have HX2 := Hid.mk (HX2.out.below hb6)
  have v0 := HX2.out.cell 0 rfl
  have vf0 := HX2.out.fz 0
  have v1 := HX2.out.cell 1 rfl
  have vf1 := HX2.out.fz 1
  have v2 := HX2.out.cell 2 rfl
  have vf2 := HX2.out.fz 2
  have hzV := HX2.out.lt
  clear hb6
  generalize hSB : ba s = SB at *
  go_wp2_with (first | (go_at_call 76; fail))
  obtain ⟨W, hW⟩ : ∃ x, (((w6.setCell ⟨w3.heap.size + 1, 0, none⟩ (.int .i64 2)).setCell ⟨w3.heap.size + 1, 1, none⟩ (.int .i64 0)).setCell ⟨w3.heap.size + 1, 2, none⟩ (.string SB)) = x := ⟨_, rfl⟩
  have hRk : R < w3.heap.size + 1 := Nat.lt_succ_of_lt HSZ.out.1
  have hRw : w.heap.size ≤ w3.heap.size := HW3.out
  have HC : Hid (RF W R ts1 _) := Hid.mk (by rw [← hW]; exact RF.set (RF.set (RF.set HC.out hRk) hRk) hRk)
  have HT : Hid (But R w W) := Hid.mk (by rw [← hW]; exact ((HT.out.put (Nat.le_succ_of_le hRw) _).put (Nat.le_succ_of_le hRw) _).put (Nat.le_succ_of_le hRw) _)
  have HX2 : Hid (Box W (w3.heap.size + 1) [.int .i64 2, .int .i64 0, .string SB]) := Hid.mk (by rw [← hW]; exact ((HX2.out.set 0 _).set 1 _).set 2 _)
  have HX0 : Hid (Box W w.heap.size [.string ⟨#[]⟩, .int .i64 0, .int .i64 0, .string ⟨#[]⟩]) := Hid.mk (by rw [← hW]; exact ((HX0.out.other _ _ (by omega)).other _ _ (by omega)).other _ _ (by omega))
  rw [hW]
  clear hW
  refine (rrv_any 2 0 SB W (by rw [← hSB, ba_size]; unfold maxLen; omega)).mono ?_
  rintro e w8 ⟨rfl, hb8⟩
  rw [show rightValueB 2 0 SB.data.toList = true by rw [← hSB, ba_list]; exact hr]
  have HC := Hid.mk (HC.out.below hb8)
  have HT := Hid.mk (HT.out.then (But.of hb8))
  have HX0 := Hid.mk (HX0.out.below hb8)
  have HX2 := Hid.mk (HX2.out.below hb8)
  have v0 := HX2.out.cell 0 rfl
  have vf0 := HX2.out.fz 0
  have v1 := HX2.out.cell 1 rfl
  have vf1 := HX2.out.fz 1
  have v2 := HX2.out.cell 2 rfl
  have vf2 := HX2.out.fz 2
  have a0 := HX0.out.cell 0 rfl
  have af0 := HX0.out.fz 0
  have a1 := HX0.out.cell 1 rfl
  have af1 := HX0.out.fz 1
  have a2 := HX0.out.cell 2 rfl
  have af2 := HX0.out.fz 2
  have a3 := HX0.out.cell 3 rfl
  have af3 := HX0.out.fz 3
  have hzV := HX2.out.lt
  have hzA := HX0.out.lt
  clear hb8
  go_wp2_with (first | (go_at_call 16; refine (HO.out _ _ _ HC.out).mono ?_; rintro e w10 ⟨rfl, hbo⟩; have HC := Hid.mk (HC.out.below hbo); have HT := Hid.mk (HT.out.then (But.of hbo)); have HX0 := Hid.mk (HX0.out.below hbo); have HX2 := Hid.mk (HX2.out.below hbo); have v0 := HX2.out.cell 0 rfl; have vf0 := HX2.out.fz 0; have v1 := HX2.out.cell 1 rfl; have vf1 := HX2.out.fz 1; have v2 := HX2.out.cell 2 rfl; have vf2 := HX2.out.fz 2; have a0 := HX0.out.cell 0 rfl; have af0 := HX0.out.fz 0; have a1 := HX0.out.cell 1 rfl; have af1 := HX0.out.fz 1; have a2 := HX0.out.cell 2 rfl; have af2 := HX0.out.fz 2; have a3 := HX0.out.cell 3 rfl; have af3 := HX0.out.fz 3; have hzV := HX2.out.lt; have hzA := HX0.out.lt; clear hbo))
  skip
  have HBX : Hid (Box ((((w10.setCell ⟨w.heap.size, 0, none⟩ (.string ⟨#[]⟩)).setCell ⟨w.heap.size, 1, none⟩ (.int .i64 2)).setCell ⟨w.heap.size, 2, none⟩ (.int .i64 0)).setCell ⟨w.heap.size, 3, none⟩ (.string SB)) w.heap.size [.string ⟨#[]⟩, .int .i64 2, .int .i64 0, .string SB]) := Hid.mk (((((HX0.out).set 0 _).set 1 _).set 2 _).set 3 _)
  have z0 := HBX.out.cell 0 rfl
  have z1 := HBX.out.cell 1 rfl
  have z2 := HBX.out.cell 2 rfl
  have z3 := HBX.out.cell 3 rfl
  clear HBX
  refine bodyPost_ret (v := .agg #[.string ⟨#[]⟩, .int .i64 2, .int .i64 0, .string SB]) (by simp [results, Tryz.results49, go_sem, z0, z1, z2, z3]) rfl ?_
  refine ⟨(2, 0, s), some er, Or.inr (Or.inr (Or.inl ⟨hk1, rfl, s, htx, hq, rfl, by rw [hr]; rfl⟩)), by rw [hSB], ?_, ?_⟩
  · exact (((HT.out.put (Nat.le_refl _) _).put (Nat.le_refl _) _).put (Nat.le_refl _) _).put (Nat.le_refl _) _
  · exact RF.set (RF.set (RF.set (RF.set HC.out hlt) hlt) hlt) hlt
set_option maxRecDepth 100000 in
set_option maxHeartbeats 3200000 in
theorem argr_some_f_Qn (R : Nat) (ts ts1 : List Tk) (er : Int × Nat) (w : World) (h : RF w R ts (some er)) (hm : seeB [45] ts (some er) = false) (ht : takeT [45] ts (some er) = ts1) (s : By) (hk1 : kindT ts1 = 2) (htx : textT ts1 = 39 :: s ++ [39]) (hq : 39 ∉ s) (hr : rightValueB 2 0 s = false) : Calls Tryz.prog 49 #[.pointer (some ⟨R, 0, none⟩)] w fun e w' => ∃ x bad2, ArgOut false ts1 (some er) x bad2 ∧ e = .returned (.agg #[.string ⟨#[]⟩, .int .i64 x.1, .int .i64 x.2.1, .string (ba x.2.2)]) ∧ But R w w' ∧ RF w' R (if bad2.isNone then ts1.tail else ts1) bad2 := by
  have hlt := h.lt
  have HO : Hid (∀ V ts bad, RF V R ts bad → Calls Tryz.prog 16 #[.pointer (some ⟨R, 0, none⟩)] V fun e w' => e = .returned (.bool bad.isNone) ∧ Below V.heap.size V w') := Hid.mk fun V ts bad h => okr_any R ts bad V h
  have HF : Hid (∀ V ts bad c, RF V R ts bad → Calls Tryz.prog 11 #[.pointer (some ⟨R, 0, none⟩), .int .i64 c] V fun e w' => e = .returned (.tuple #[]) ∧ But R V w' ∧ RF w' R ts (bad.or (some (c, hereT ts)))) := Hid.mk fun V ts bad c h => failsr_any R ts bad c V h
  have HTK : Hid (∀ V, RF V R ts (some er) → Calls Tryz.prog 28 #[.pointer (some ⟨R, 0, none⟩), .string (ba [45])] V fun e w' => e = .returned (.bool false) ∧ But R V w' ∧ RF w' R ts1 (some er)) := Hid.mk fun V hV => by have := taker_any [45] R ts (some er) V hV (by simp); rw [hm, ht] at this; exact this
  obtain ⟨w1, hw1⟩ : ∃ x, w.alloc (.cells #[.string ⟨#[]⟩, .int .i64 0, .int .i64 0, .string ⟨#[]⟩] 59) = x := ⟨_, rfl⟩
  have hb1 : Below w.heap.size w w1 := by rw [← hw1]; exact below_box _ _
  have hX0 : Box w1 w.heap.size [.string ⟨#[]⟩, .int .i64 0, .int .i64 0, .string ⟨#[]⟩] := by rw [← hw1]; exact Box.new w _ _ _ rfl
  have HC := Hid.mk (h.below hb1)
  have HT := Hid.mk (But.of (R := R) hb1)
  have HX0 := Hid.mk hX0
  have N0 : Hid (w.heap.size ≠ R) := Hid.mk (by omega)
  clear h hb1 hX0 hm ht
  have kb2 : (((kindT ts1 + 1 : Nat) : Int) == 2) = false := by rw [hk1]; rfl
  have kb3 : (((kindT ts1 + 1 : Nat) : Int) == 3) = true := by rw [hk1]; rfl
  generalize hK1 : ((kindT ts1 + 1 : Nat) : Int) = K1 at *
  generalize hTX : ba (textT ts1) = TX at *
  generalize hHR : ((hereT ts1 : Nat) : Int) = HR at *
  go_enter Tryz.func49, Tryz.ntmps49
  go_wp2_with (first | (go_at_call 16; refine (HO.out _ _ _ HC.out).mono ?_; rintro e w2 ⟨rfl, hbo⟩; have HC := Hid.mk (HC.out.below hbo); have HT := Hid.mk (HT.out.then (But.of hbo)); have HX0 := Hid.mk (HX0.out.below hbo); have hlt2 := HC.out.lt; clear hbo) | (go_at_call 28; refine (HTK.out _ HC.out).mono ?_; rintro e w3 ⟨rfl, hb3, hr3⟩; have HC := Hid.mk hr3; have HT := Hid.mk (HT.out.then hb3); have HW3 := Hid.mk HT.out.size; have HX0 := Hid.mk (HX0.out.but hb3 N0.out); obtain ⟨b1, o1, cc1, n1, hc', hn', hcc', hR', hn1', j0, j1, j2, e1', e2'⟩ := HC.out.head; rw [hK1] at j0; rw [hTX] at j1; rw [hHR] at j2; have hlt3 := HC.out.lt; clear hb3 hr3 hn' e1' e2'; obtain ⟨w4, hw4⟩ : ∃ x, w3.alloc (.cells #[.int .i64 K1, .string TX, .int .i64 HR] 64) = x := ⟨_, rfl⟩; obtain ⟨v5, hv5⟩ : ∃ x, w4.alloc (.cells #[.int .i64 0, .int .i64 0, .string ⟨#[]⟩] 57) = x := ⟨_, rfl⟩; obtain ⟨w5, hw5⟩ : ∃ x, ((v5.setCell ⟨w3.heap.size + 1, 0, none⟩ (.int .i64 0)).setCell ⟨w3.heap.size + 1, 1, none⟩ (.int .i64 0)).setCell ⟨w3.heap.size + 1, 2, none⟩ (.string ⟨#[]⟩) = x := ⟨_, rfl⟩; have hs4 : w4.heap.size = w3.heap.size + 1 := (by rw [← hw4]; exact World.size_alloc _ _); have hb34 : Below w3.heap.size w3 w4 := (by rw [← hw4]; exact below_box _ _); have hb45 : Below w4.heap.size w4 v5 := (by rw [← hv5]; exact below_box _ _); have hX2' : Box v5 (w3.heap.size + 1) [.int .i64 0, .int .i64 0, .string ⟨#[]⟩] := (by rw [← hv5]; exact Box.new w4 _ _ _ hs4.symm); have p0 := hX2'.cell 0 rfl; have p1 := hX2'.cell 1 rfl; have p2 := hX2'.cell 2 rfl; have pf0 := hX2'.fz 0; have pf1 := hX2'.fz 1; have pf2 := hX2'.fz 2; have hzP := hX2'.lt; have hb5 : Below w4.heap.size w4 w5 := (by rw [← hw5]; exact ((hb45.setCell (p := ⟨w3.heap.size + 1, 0, none⟩) (Nat.le_of_eq hs4) _).setCell (p := ⟨w3.heap.size + 1, 1, none⟩) (Nat.le_of_eq hs4) _).setCell (p := ⟨w3.heap.size + 1, 2, none⟩) (Nat.le_of_eq hs4) _); have hb35 := bel_then hb34 hb5; have HX1 := Hid.mk (show Box w5 w3.heap.size [.int .i64 K1, .string TX, .int .i64 HR] from (show Box w4 w3.heap.size [.int .i64 K1, .string TX, .int .i64 HR] by rw [← hw4]; exact Box.new w3 _ _ _ rfl).below hb5); have HX2 := Hid.mk (show Box w5 (w3.heap.size + 1) [.int .i64 0, .int .i64 0, .string ⟨#[]⟩] by rw [← hw5]; exact ((hX2'.set 0 _).set 1 _).set 2 _); have q0 := (hb5.cell (p := ⟨w3.heap.size, 0, none⟩) (by show w3.heap.size < _; omega)); have HC := Hid.mk (HC.out.below hb35); have HT := Hid.mk (HT.out.then (But.of hb35)); have HX0 := Hid.mk (HX0.out.below hb35); have N1 : Hid (w3.heap.size ≠ R) := Hid.mk (by omega); have N2 : Hid (w3.heap.size + 1 ≠ R) := Hid.mk (by omega); have HSZ := Hid.mk (And.intro hlt3 hlt3); have t0 := HX1.out.cell 0 rfl; have t1 := HX1.out.cell 1 rfl; have v0 := HX2.out.cell 0 rfl; have vf0 := HX2.out.fz 0; have v1 := HX2.out.cell 1 rfl; have vf1 := HX2.out.fz 1; have v2 := HX2.out.cell 2 rfl; have vf2 := HX2.out.fz 2; clear hb34 hb45 hb35 hb5 hX2' q0) | (go_at_call 11; fail) | (go_at_call 31; fail) | (go_at_call 75; fail))
  have htx2 : TX = ba (39 :: s ++ [39]) := by rw [← hTX, htx]
  have hsl : s.length ≤ 1000000 := by obtain ⟨t, -, -, e2, -, -, hl⟩ := HC.out.head_tok; rw [← e2, htx] at hl; simp at hl; omega
  refine (show Calls Tryz.prog 75 #[.string TX, .string ⟨#[39]⟩] w5 _ from (by rw [htx2]; exact trimr_any s w5 hq hsl)).mono ?_
  rintro e w6 ⟨rfl, hb6⟩
  have HC := Hid.mk (HC.out.below hb6)
  have HT := Hid.mk (HT.out.then (But.of hb6))
  have HX0 := Hid.mk (HX0.out.below hb6)
  have HX1 := Hid.mk (HX1.out.below hb6)
  have HX2 := Hid.mk (HX2.out.below hb6)
  have v0 := HX2.out.cell 0 rfl
  have vf0 := HX2.out.fz 0
  have v1 := HX2.out.cell 1 rfl
  have vf1 := HX2.out.fz 1
  have v2 := HX2.out.cell 2 rfl
  have vf2 := HX2.out.fz 2
  have hzV := HX2.out.lt
  clear hb6
  generalize hSB : ba s = SB at *
  go_wp2_with (first | (go_at_call 76; fail))
  obtain ⟨W, hW⟩ : ∃ x, (((w6.setCell ⟨w3.heap.size + 1, 0, none⟩ (.int .i64 2)).setCell ⟨w3.heap.size + 1, 1, none⟩ (.int .i64 0)).setCell ⟨w3.heap.size + 1, 2, none⟩ (.string SB)) = x := ⟨_, rfl⟩
  have hRk : R < w3.heap.size + 1 := Nat.lt_succ_of_lt HSZ.out.1
  have hRw : w.heap.size ≤ w3.heap.size := HW3.out
  have HC : Hid (RF W R ts1 _) := Hid.mk (by rw [← hW]; exact RF.set (RF.set (RF.set HC.out hRk) hRk) hRk)
  have HT : Hid (But R w W) := Hid.mk (by rw [← hW]; exact ((HT.out.put (Nat.le_succ_of_le hRw) _).put (Nat.le_succ_of_le hRw) _).put (Nat.le_succ_of_le hRw) _)
  have HX2 : Hid (Box W (w3.heap.size + 1) [.int .i64 2, .int .i64 0, .string SB]) := Hid.mk (by rw [← hW]; exact ((HX2.out.set 0 _).set 1 _).set 2 _)
  have HX0 : Hid (Box W w.heap.size [.string ⟨#[]⟩, .int .i64 0, .int .i64 0, .string ⟨#[]⟩]) := Hid.mk (by rw [← hW]; exact ((HX0.out.other _ _ (by omega)).other _ _ (by omega)).other _ _ (by omega))
  rw [hW]
  clear hW
  refine (rrv_any 2 0 SB W (by rw [← hSB, ba_size]; unfold maxLen; omega)).mono ?_
  rintro e w8 ⟨rfl, hb8⟩
  rw [show rightValueB 2 0 SB.data.toList = false by rw [← hSB, ba_list]; exact hr]
  have HC := Hid.mk (HC.out.below hb8)
  have HT := Hid.mk (HT.out.then (But.of hb8))
  have HX0 := Hid.mk (HX0.out.below hb8)
  have HX2 := Hid.mk (HX2.out.below hb8)
  have v0 := HX2.out.cell 0 rfl
  have vf0 := HX2.out.fz 0
  have v1 := HX2.out.cell 1 rfl
  have vf1 := HX2.out.fz 1
  have v2 := HX2.out.cell 2 rfl
  have vf2 := HX2.out.fz 2
  have a0 := HX0.out.cell 0 rfl
  have af0 := HX0.out.fz 0
  have a1 := HX0.out.cell 1 rfl
  have af1 := HX0.out.fz 1
  have a2 := HX0.out.cell 2 rfl
  have af2 := HX0.out.fz 2
  have a3 := HX0.out.cell 3 rfl
  have af3 := HX0.out.fz 3
  have hzV := HX2.out.lt
  have hzA := HX0.out.lt
  clear hb8
  go_wp2_with (first | (go_at_call 11; refine (HF.out _ _ _ _ HC.out).mono ?_; rintro e w9 ⟨rfl, hbf, hrf⟩; have HC := Hid.mk hrf; have HT := Hid.mk (HT.out.then hbf); have HX0 := Hid.mk (HX0.out.but hbf N0.out); have HX2 := Hid.mk (HX2.out.but hbf N2.out); have v0 := HX2.out.cell 0 rfl; have vf0 := HX2.out.fz 0; have v1 := HX2.out.cell 1 rfl; have vf1 := HX2.out.fz 1; have v2 := HX2.out.cell 2 rfl; have vf2 := HX2.out.fz 2; have a0 := HX0.out.cell 0 rfl; have af0 := HX0.out.fz 0; have a1 := HX0.out.cell 1 rfl; have af1 := HX0.out.fz 1; have a2 := HX0.out.cell 2 rfl; have af2 := HX0.out.fz 2; have a3 := HX0.out.cell 3 rfl; have af3 := HX0.out.fz 3; clear hbf hrf) | (go_at_call 16; refine (HO.out _ _ _ HC.out).mono ?_; rintro e w10 ⟨rfl, hbo⟩; have HC := Hid.mk (HC.out.below hbo); have HT := Hid.mk (HT.out.then (But.of hbo)); have HX0 := Hid.mk (HX0.out.below hbo); have HX2 := Hid.mk (HX2.out.below hbo); have v0 := HX2.out.cell 0 rfl; have vf0 := HX2.out.fz 0; have v1 := HX2.out.cell 1 rfl; have vf1 := HX2.out.fz 1; have v2 := HX2.out.cell 2 rfl; have vf2 := HX2.out.fz 2; have a0 := HX0.out.cell 0 rfl; have af0 := HX0.out.fz 0; have a1 := HX0.out.cell 1 rfl; have af1 := HX0.out.fz 1; have a2 := HX0.out.cell 2 rfl; have af2 := HX0.out.fz 2; have a3 := HX0.out.cell 3 rfl; have af3 := HX0.out.fz 3; have hzV := HX2.out.lt; have hzA := HX0.out.lt; clear hbo))
  skip
  have HBX : Hid (Box ((((w10.setCell ⟨w.heap.size, 0, none⟩ (.string ⟨#[]⟩)).setCell ⟨w.heap.size, 1, none⟩ (.int .i64 2)).setCell ⟨w.heap.size, 2, none⟩ (.int .i64 0)).setCell ⟨w.heap.size, 3, none⟩ (.string SB)) w.heap.size [.string ⟨#[]⟩, .int .i64 2, .int .i64 0, .string SB]) := Hid.mk (((((HX0.out).set 0 _).set 1 _).set 2 _).set 3 _)
  have z0 := HBX.out.cell 0 rfl
  have z1 := HBX.out.cell 1 rfl
  have z2 := HBX.out.cell 2 rfl
  have z3 := HBX.out.cell 3 rfl
  clear HBX
  refine bodyPost_ret (v := .agg #[.string ⟨#[]⟩, .int .i64 2, .int .i64 0, .string SB]) (by simp [results, Tryz.results49, go_sem, z0, z1, z2, z3]) rfl ?_
  refine ⟨(2, 0, s), some er, Or.inr (Or.inr (Or.inl ⟨hk1, rfl, s, htx, hq, rfl, by rw [hr]; rfl⟩)), by rw [hSB], ?_, ?_⟩
  · exact (((HT.out.put (Nat.le_refl _) _).put (Nat.le_refl _) _).put (Nat.le_refl _) _).put (Nat.le_refl _) _
  · exact RF.set (RF.set (RF.set (RF.set HC.out hlt) hlt) hlt) hlt
set_option maxRecDepth 100000 in
set_option maxHeartbeats 3200000 in
theorem argr_some_f_D (R : Nat) (ts ts1 : List Tk) (er : Int × Nat) (w : World) (h : RF w R ts (some er)) (hm : seeB [45] ts (some er) = false) (ht : takeT [45] ts (some er) = ts1) (hk1 : kindT ts1 ≠ 1) (hk2 : kindT ts1 ≠ 2) : Calls Tryz.prog 49 #[.pointer (some ⟨R, 0, none⟩)] w fun e w' => ∃ x bad2, ArgOut false ts1 (some er) x bad2 ∧ e = .returned (.agg #[.string ⟨#[]⟩, .int .i64 x.1, .int .i64 x.2.1, .string (ba x.2.2)]) ∧ But R w w' ∧ RF w' R (if bad2.isNone then ts1.tail else ts1) bad2 := by
  have hlt := h.lt
  have HO : Hid (∀ V ts bad, RF V R ts bad → Calls Tryz.prog 16 #[.pointer (some ⟨R, 0, none⟩)] V fun e w' => e = .returned (.bool bad.isNone) ∧ Below V.heap.size V w') := Hid.mk fun V ts bad h => okr_any R ts bad V h
  have HF : Hid (∀ V ts bad c, RF V R ts bad → Calls Tryz.prog 11 #[.pointer (some ⟨R, 0, none⟩), .int .i64 c] V fun e w' => e = .returned (.tuple #[]) ∧ But R V w' ∧ RF w' R ts (bad.or (some (c, hereT ts)))) := Hid.mk fun V ts bad c h => failsr_any R ts bad c V h
  have HTK : Hid (∀ V, RF V R ts (some er) → Calls Tryz.prog 28 #[.pointer (some ⟨R, 0, none⟩), .string (ba [45])] V fun e w' => e = .returned (.bool false) ∧ But R V w' ∧ RF w' R ts1 (some er)) := Hid.mk fun V hV => by have := taker_any [45] R ts (some er) V hV (by simp); rw [hm, ht] at this; exact this
  obtain ⟨w1, hw1⟩ : ∃ x, w.alloc (.cells #[.string ⟨#[]⟩, .int .i64 0, .int .i64 0, .string ⟨#[]⟩] 59) = x := ⟨_, rfl⟩
  have hb1 : Below w.heap.size w w1 := by rw [← hw1]; exact below_box _ _
  have hX0 : Box w1 w.heap.size [.string ⟨#[]⟩, .int .i64 0, .int .i64 0, .string ⟨#[]⟩] := by rw [← hw1]; exact Box.new w _ _ _ rfl
  have HC := Hid.mk (h.below hb1)
  have HT := Hid.mk (But.of (R := R) hb1)
  have HX0 := Hid.mk hX0
  have N0 : Hid (w.heap.size ≠ R) := Hid.mk (by omega)
  clear h hb1 hX0 hm ht
  have kb2 : (((kindT ts1 + 1 : Nat) : Int) == 2) = false := by simp; omega
  have kb3 : (((kindT ts1 + 1 : Nat) : Int) == 3) = false := by simp; omega
  generalize hK1 : ((kindT ts1 + 1 : Nat) : Int) = K1 at *
  generalize hTX : ba (textT ts1) = TX at *
  generalize hHR : ((hereT ts1 : Nat) : Int) = HR at *
  go_enter Tryz.func49, Tryz.ntmps49
  go_wp2_with (first | (go_at_call 16; refine (HO.out _ _ _ HC.out).mono ?_; rintro e w2 ⟨rfl, hbo⟩; have HC := Hid.mk (HC.out.below hbo); have HT := Hid.mk (HT.out.then (But.of hbo)); have HX0 := Hid.mk (HX0.out.below hbo); have hlt2 := HC.out.lt; clear hbo) | (go_at_call 28; refine (HTK.out _ HC.out).mono ?_; rintro e w3 ⟨rfl, hb3, hr3⟩; have HC := Hid.mk hr3; have HT := Hid.mk (HT.out.then hb3); have HW3 := Hid.mk HT.out.size; have HX0 := Hid.mk (HX0.out.but hb3 N0.out); obtain ⟨b1, o1, cc1, n1, hc', hn', hcc', hR', hn1', j0, j1, j2, e1', e2'⟩ := HC.out.head; rw [hK1] at j0; rw [hTX] at j1; rw [hHR] at j2; have hlt3 := HC.out.lt; clear hb3 hr3 hn' e1' e2'; obtain ⟨w4, hw4⟩ : ∃ x, w3.alloc (.cells #[.int .i64 K1, .string TX, .int .i64 HR] 64) = x := ⟨_, rfl⟩; obtain ⟨v5, hv5⟩ : ∃ x, w4.alloc (.cells #[.int .i64 0, .int .i64 0, .string ⟨#[]⟩] 57) = x := ⟨_, rfl⟩; obtain ⟨w5, hw5⟩ : ∃ x, ((v5.setCell ⟨w3.heap.size + 1, 0, none⟩ (.int .i64 0)).setCell ⟨w3.heap.size + 1, 1, none⟩ (.int .i64 0)).setCell ⟨w3.heap.size + 1, 2, none⟩ (.string ⟨#[]⟩) = x := ⟨_, rfl⟩; have hs4 : w4.heap.size = w3.heap.size + 1 := (by rw [← hw4]; exact World.size_alloc _ _); have hb34 : Below w3.heap.size w3 w4 := (by rw [← hw4]; exact below_box _ _); have hb45 : Below w4.heap.size w4 v5 := (by rw [← hv5]; exact below_box _ _); have hX2' : Box v5 (w3.heap.size + 1) [.int .i64 0, .int .i64 0, .string ⟨#[]⟩] := (by rw [← hv5]; exact Box.new w4 _ _ _ hs4.symm); have p0 := hX2'.cell 0 rfl; have p1 := hX2'.cell 1 rfl; have p2 := hX2'.cell 2 rfl; have pf0 := hX2'.fz 0; have pf1 := hX2'.fz 1; have pf2 := hX2'.fz 2; have hzP := hX2'.lt; have hb5 : Below w4.heap.size w4 w5 := (by rw [← hw5]; exact ((hb45.setCell (p := ⟨w3.heap.size + 1, 0, none⟩) (Nat.le_of_eq hs4) _).setCell (p := ⟨w3.heap.size + 1, 1, none⟩) (Nat.le_of_eq hs4) _).setCell (p := ⟨w3.heap.size + 1, 2, none⟩) (Nat.le_of_eq hs4) _); have hb35 := bel_then hb34 hb5; have HX1 := Hid.mk (show Box w5 w3.heap.size [.int .i64 K1, .string TX, .int .i64 HR] from (show Box w4 w3.heap.size [.int .i64 K1, .string TX, .int .i64 HR] by rw [← hw4]; exact Box.new w3 _ _ _ rfl).below hb5); have HX2 := Hid.mk (show Box w5 (w3.heap.size + 1) [.int .i64 0, .int .i64 0, .string ⟨#[]⟩] by rw [← hw5]; exact ((hX2'.set 0 _).set 1 _).set 2 _); have q0 := (hb5.cell (p := ⟨w3.heap.size, 0, none⟩) (by show w3.heap.size < _; omega)); have HC := Hid.mk (HC.out.below hb35); have HT := Hid.mk (HT.out.then (But.of hb35)); have HX0 := Hid.mk (HX0.out.below hb35); have N1 : Hid (w3.heap.size ≠ R) := Hid.mk (by omega); have N2 : Hid (w3.heap.size + 1 ≠ R) := Hid.mk (by omega); have HSZ := Hid.mk (And.intro hlt3 hlt3); have t0 := HX1.out.cell 0 rfl; have t1 := HX1.out.cell 1 rfl; have v0 := HX2.out.cell 0 rfl; have vf0 := HX2.out.fz 0; have v1 := HX2.out.cell 1 rfl; have vf1 := HX2.out.fz 1; have v2 := HX2.out.cell 2 rfl; have vf2 := HX2.out.fz 2; clear hb34 hb45 hb35 hb5 hX2' q0) | (go_at_call 11; fail) | (go_at_call 31; fail) | (go_at_call 75; fail))
  refine (HF.out _ _ _ _ HC.out).mono ?_
  rintro e w6 ⟨rfl, hbf, hrf⟩
  have HC := Hid.mk hrf
  have HT := Hid.mk (HT.out.then hbf)
  have HX0 := Hid.mk (HX0.out.but hbf N0.out)
  have HX1 := Hid.mk (HX1.out.but hbf N1.out)
  have HX2 := Hid.mk (HX2.out.but hbf N2.out)
  have v0 := HX2.out.cell 0 rfl
  have vf0 := HX2.out.fz 0
  have v1 := HX2.out.cell 1 rfl
  have vf1 := HX2.out.fz 1
  have v2 := HX2.out.cell 2 rfl
  have vf2 := HX2.out.fz 2
  have hzV := HX2.out.lt
  clear hbf hrf
  go_wp2_with (first | (go_at_call 76; fail))
  obtain ⟨W, hW⟩ : ∃ x, x = w6 := ⟨_, rfl⟩
  subst hW
  refine (rrv_any 0 0 ⟨#[]⟩ W (by decide)).mono ?_
  rintro e w8 ⟨rfl, hb8⟩
  rw [show rightValueB 0 0 (⟨#[]⟩ : ByteArray).data.toList = false from rfl]
  have HC := Hid.mk (HC.out.below hb8)
  have HT := Hid.mk (HT.out.then (But.of hb8))
  have HX0 := Hid.mk (HX0.out.below hb8)
  have HX2 := Hid.mk (HX2.out.below hb8)
  have v0 := HX2.out.cell 0 rfl
  have vf0 := HX2.out.fz 0
  have v1 := HX2.out.cell 1 rfl
  have vf1 := HX2.out.fz 1
  have v2 := HX2.out.cell 2 rfl
  have vf2 := HX2.out.fz 2
  have a0 := HX0.out.cell 0 rfl
  have af0 := HX0.out.fz 0
  have a1 := HX0.out.cell 1 rfl
  have af1 := HX0.out.fz 1
  have a2 := HX0.out.cell 2 rfl
  have af2 := HX0.out.fz 2
  have a3 := HX0.out.cell 3 rfl
  have af3 := HX0.out.fz 3
  have hzV := HX2.out.lt
  have hzA := HX0.out.lt
  clear hb8
  go_wp2_with (first | (go_at_call 11; refine (HF.out _ _ _ _ HC.out).mono ?_; rintro e w9 ⟨rfl, hbf, hrf⟩; have HC := Hid.mk hrf; have HT := Hid.mk (HT.out.then hbf); have HX0 := Hid.mk (HX0.out.but hbf N0.out); have HX2 := Hid.mk (HX2.out.but hbf N2.out); have v0 := HX2.out.cell 0 rfl; have vf0 := HX2.out.fz 0; have v1 := HX2.out.cell 1 rfl; have vf1 := HX2.out.fz 1; have v2 := HX2.out.cell 2 rfl; have vf2 := HX2.out.fz 2; have a0 := HX0.out.cell 0 rfl; have af0 := HX0.out.fz 0; have a1 := HX0.out.cell 1 rfl; have af1 := HX0.out.fz 1; have a2 := HX0.out.cell 2 rfl; have af2 := HX0.out.fz 2; have a3 := HX0.out.cell 3 rfl; have af3 := HX0.out.fz 3; clear hbf hrf) | (go_at_call 16; refine (HO.out _ _ _ HC.out).mono ?_; rintro e w10 ⟨rfl, hbo⟩; have HC := Hid.mk (HC.out.below hbo); have HT := Hid.mk (HT.out.then (But.of hbo)); have HX0 := Hid.mk (HX0.out.below hbo); have HX2 := Hid.mk (HX2.out.below hbo); have v0 := HX2.out.cell 0 rfl; have vf0 := HX2.out.fz 0; have v1 := HX2.out.cell 1 rfl; have vf1 := HX2.out.fz 1; have v2 := HX2.out.cell 2 rfl; have vf2 := HX2.out.fz 2; have a0 := HX0.out.cell 0 rfl; have af0 := HX0.out.fz 0; have a1 := HX0.out.cell 1 rfl; have af1 := HX0.out.fz 1; have a2 := HX0.out.cell 2 rfl; have af2 := HX0.out.fz 2; have a3 := HX0.out.cell 3 rfl; have af3 := HX0.out.fz 3; have hzV := HX2.out.lt; have hzA := HX0.out.lt; clear hbo))
  skip
  have HBX : Hid (Box ((((w10.setCell ⟨w.heap.size, 0, none⟩ (.string ⟨#[]⟩)).setCell ⟨w.heap.size, 1, none⟩ (.int .i64 0)).setCell ⟨w.heap.size, 2, none⟩ (.int .i64 0)).setCell ⟨w.heap.size, 3, none⟩ (.string ⟨#[]⟩)) w.heap.size [.string ⟨#[]⟩, .int .i64 0, .int .i64 0, .string ⟨#[]⟩]) := Hid.mk (((((HX0.out).set 0 _).set 1 _).set 2 _).set 3 _)
  have z0 := HBX.out.cell 0 rfl
  have z1 := HBX.out.cell 1 rfl
  have z2 := HBX.out.cell 2 rfl
  have z3 := HBX.out.cell 3 rfl
  clear HBX
  refine bodyPost_ret (v := .agg #[.string ⟨#[]⟩, .int .i64 0, .int .i64 0, .string ⟨#[]⟩]) (by simp [results, Tryz.results49, go_sem, z0, z1, z2, z3]) rfl ?_
  refine ⟨(0, 0, []), some er, Or.inr (Or.inr (Or.inr ⟨hk1, fun q => absurd q hk2, rfl, rfl⟩)), rfl, ?_, ?_⟩
  · exact (((HT.out.put (Nat.le_refl _) _).put (Nat.le_refl _) _).put (Nat.le_refl _) _).put (Nat.le_refl _) _
  · exact RF.set (RF.set (RF.set (RF.set HC.out hlt) hlt) hlt) hlt
end Go.Proofs.YtedflhiflomoeaaGreatDoor
