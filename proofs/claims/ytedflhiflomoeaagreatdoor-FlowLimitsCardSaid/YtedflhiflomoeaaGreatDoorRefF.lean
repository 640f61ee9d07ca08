import Derived.Test.YtedflhiflomoeaaGreatDoorRefE
set_option linter.unusedSimpArgs false
set_option linter.unusedVariables false
namespace Go.Proofs.YtedflhiflomoeaaGreatDoor
open Go.RowKit

def okN (l : By) : Prop := ∃ n, Lib.atoiAll l = .ok n
/-- strconv.Atoi, and whether it told an error. -/
theorem atoiR_any (l : By) (w : World) (hs : l.length ≤ 1000000) (hE : FEnv w) : Calls Tryz.prog 31 #[.string (ba l)] w fun e w' => ∃ q, e = .returned (.tuple #[.int .i64 (atoiN l), q]) ∧ ((okN l ∧ q = .nilIface) ∨ (¬ okN l ∧ ∃ tp p, q = .iface tp p)) ∧ Below w.heap.size w w' := by
  obtain ⟨t1, p1, h1⟩ := hE.es
  obtain ⟨t2, p2, h2⟩ := hE.er
  have hz := ba_size l
  unfold atoiN
  rcases num_end (Lib.atoiAll l) with ⟨n, g⟩ | g | g
  · rw [g]
    have g' : Lib.atoiAll (ba l).data.toList = .ok n := by rw [ba_list]; exact g
    exact (Tryz.strconv_Atoi_ok (ba l) (by omega) n g' w).mono fun _ w' ⟨x, y⟩ => ⟨_, x, Or.inl ⟨⟨n, g⟩, rfl⟩, by
      rcases y with rfl | ⟨t, rfl⟩
      · exact Below.refl _ _
      · exact Lib.bytesWorld_below _ _ _⟩
  · have g' : Lib.atoiAll (ba l).data.toList = Lib.atoiAll [] := by rw [ba_list]; exact g
    have hno : ¬ okN l := fun ⟨n, hn⟩ => by rw [g] at hn; cases hn
    rw [g]
    exact (Tryz.strconv_Atoi_syntax_var (ba l) (by omega) g' t1 p1 w h1).mono fun _ _ ⟨N, x, _, _, y⟩ => ⟨_, x, Or.inr ⟨hno, _, _, rfl⟩, y⟩
  · have g' : Lib.atoiAll (ba l).data.toList = .range := by rw [ba_list]; exact g
    have hno : ¬ okN l := fun ⟨n, hn⟩ => by rw [g] at hn; cases hn
    rw [g]
    exact (Tryz.strconv_Atoi_range_var (ba l) (by omega) g' t2 p2 w h2).mono fun _ _ ⟨N, x, _, _, y⟩ => ⟨_, x.trans (by rw [ba_list]), Or.inr ⟨hno, _, _, rfl⟩, y⟩
theorem trim_quo {s : By} (hs : 39 ∉ s) : Lib.trimB (39 :: s ++ [39]) 39 = s := by
  have hl : ∀ l : By, 39 ∉ l → l.dropWhile (· == 39) = l := fun l h => by
    cases l with
    | nil => rfl
    | cons a l =>
      have : (a == 39) = false := by simp; intro e; exact h (by simp [e])
      rw [List.dropWhile_cons, this]
      rfl
  unfold Lib.trimB Lib.trimRightB Lib.trimLeftB
  have e1 : (39 :: s ++ [39]).reverse = 39 :: (s.reverse ++ [39]) := by simp
  rw [e1, List.dropWhile_cons, if_pos (by decide)]
  cases hr : s.reverse with
  | nil =>
    have : s = [] := by simpa using hr
    subst this
    rfl
  | cons a r =>
    have ha : (a == 39) = false := by
      simp
      intro e
      exact hs (by rw [← List.mem_reverse, hr]; simp [e])
    rw [List.cons_append, List.dropWhile_cons, ha]
    have : (a :: (r ++ [39])).reverse = 39 :: s := by rw [← List.cons_append, ← hr]; simp
    show List.dropWhile _ ((a :: (r ++ [39])).reverse) = s
    rw [this, List.dropWhile_cons, if_pos (by decide)]
    exact hl s hs
theorem trimr_any (s : By) (w : World) (hs : 39 ∉ s) (hl : s.length ≤ 1000000) : Calls Tryz.prog 75 #[.string (ba (39 :: s ++ [39])), .string ⟨#[39]⟩] w fun e w' => e = .returned (.string (ba s)) ∧ Below w.heap.size w w' := by
  refine (Tryz.strings_Trim_one (ba (39 :: s ++ [39])) 39 (by decide) w (by rw [ba_size]; simp; omega)).mono ?_
  rintro e w' ⟨rfl, h⟩
  refine ⟨by rw [ba_list, trim_quo hs], ?_⟩
  rcases h with rfl | rfl
  · exact Below.refl _ _
  · exact (Below.refl _ _).drew
theorem RF.set {w : World} {R k i : Nat} {v : Value} {ts : List Tk} {bad : Bd} (h : RF w R ts bad) (hk : R < k) : RF (w.setCell ⟨k, i, none⟩ v) R ts bad :=
  h.other hk (by simp [World.setCell]) (fun j hj hne => Below.heap_setCell _ _ _ _ hne)
/-- What an argument is, whatever was read. -/
def shpA (v : Value) : Prop := ∃ (a : By) (k n : Int) (b : By), v = .agg #[.string (ba a), .int .i64 k, .int .i64 n, .string (ba b)]
set_option maxRecDepth 100000 in
set_option maxHeartbeats 3200000 in
/-- A word: a column. -/
theorem argr_word (R : Nat) (ts : List Tk) (w : World) (h : RF w R ts none) (hk : kindT ts = 0) : Calls Tryz.prog 49 #[.pointer (some ⟨R, 0, none⟩)] w fun e w' => RC (argP ts) encA shpA R w e w' := by
  have hA : argP ts = (nameP ts).map fun x => ((x.1, 0, 0, []), x.2) := by rw [argP, if_pos hk]
  have HA := Hid.mk hA
  have hlt := h.lt
  obtain ⟨w1, hw1⟩ : ∃ x, w.alloc (.cells #[.string ⟨#[]⟩, .int .i64 0, .int .i64 0, .string ⟨#[]⟩] 59) = x := ⟨_, rfl⟩
  have hb1 : Below w.heap.size w w1 := by rw [← hw1]; exact below_box _ _
  have hX : Box w1 w.heap.size [.string ⟨#[]⟩, .int .i64 0, .int .i64 0, .string ⟨#[]⟩] := by rw [← hw1]; exact Box.new w _ _ _ rfl
  have H1 := Hid.mk (h.below hb1)
  have HB1 := Hid.mk (But.of (R := R) hb1)
  have HX := Hid.mk hX
  have HO := Hid.mk (okr_any R ts none w1 H1.out)
  have hkb : (((kindT ts + 1 : Nat) : Int) == 1) = true := by rw [hk]; rfl
  generalize hK : ((kindT ts + 1 : Nat) : Int) = K at *
  clear h hb1 hX hk hA
  go_enter Tryz.func49, Tryz.ntmps49
  go_wp2_with (first | (go_at_call 16; refine HO.out.mono ?_; rintro e w2 ⟨rfl, hb2⟩; have H2 := Hid.mk (H1.out.below hb2); have HB2 := Hid.mk (HB1.out.then (But.of hb2)); have HX2 := Hid.mk (HX.out.below hb2); obtain ⟨b, o, cc, n, hc, hn, hcc, hR, hn1, k0, k1, k2, e1, e2⟩ := H2.out.head; have hlt2 := H2.out.lt; rw [hK] at k0; clear hb2 hn k1 k2 e1 e2) | (go_at_call 15; fail))
  refine (namer_any R (.ok ts) w2 H2.out).mono ?_
  rintro e w3 ⟨v, rfl, ⟨s3, rfl, hs3l⟩, hb3, henc3, hx3⟩
  have hne : w.heap.size ≠ R := by omega
  have X3 := Hid.mk (HX2.out.but hb3 hne)
  have B3 := Hid.mk (HB2.out.then hb3)
  have HEN : Hid (∀ a t, nameP ts = .ok (a, t) → encT a (.string (ba s3)) w3) := Hid.mk henc3
  have HR3 : Hid (RX w3 R ((nameP ts).map (·.2))) := Hid.mk hx3
  have x0 := X3.out.cell 0 rfl
  have y0 := X3.out.fz 0
  have x1 := X3.out.cell 1 rfl
  have y1 := X3.out.fz 1
  have x2 := X3.out.cell 2 rfl
  have y2 := X3.out.fz 2
  have x3 := X3.out.cell 3 rfl
  have y3 := X3.out.fz 3
  have hzX := X3.out.lt
  have HBU := Hid.mk ((((B3.out.put (Nat.le_refl _) (.string (ba s3)) (i := 0)).put (Nat.le_refl _) (.int .i64 0) (i := 1)).put (Nat.le_refl _) (.int .i64 0) (i := 2)).put (Nat.le_refl _) (.string ⟨#[]⟩) (i := 3))
  have HBX := Hid.mk ((((X3.out.set 0 (.string (ba s3))).set 1 (.int .i64 0)).set 2 (.int .i64 0)).set 3 (.string ⟨#[]⟩))
  have HRR : Hid (∀ q, RX w3 R q → RX ((((w3.setCell ⟨w.heap.size, 0, none⟩ (.string (ba s3))).setCell ⟨w.heap.size, 1, none⟩ (.int .i64 0)).setCell ⟨w.heap.size, 2, none⟩ (.int .i64 0)).setCell ⟨w.heap.size, 3, none⟩ (.string ⟨#[]⟩)) R q) := Hid.mk fun q hq => by
    cases q with
    | ok t => exact RF.set (RF.set (RF.set (RF.set hq hlt) hlt) hlt) hlt
    | error e => obtain ⟨t, hq⟩ := hq; exact ⟨t, RF.set (RF.set (RF.set (RF.set hq hlt) hlt) hlt) hlt⟩
  have z0 := HBX.out.cell 0 rfl
  have z1 := HBX.out.cell 1 rfl
  have z2 := HBX.out.cell 2 rfl
  have z3 := HBX.out.cell 3 rfl
  clear HBX hx3 henc3 hb3
  go_wp2
  refine bodyPost_ret (v := .agg #[.string (ba s3), .int .i64 0, .int .i64 0, .string ⟨#[]⟩]) (by simp [results, Tryz.results49, go_sem, z0, z1, z2, z3]) rfl ?_
  refine ⟨_, rfl, ⟨s3, 0, 0, [], rfl⟩, HBU.out, fun a t he => ?_, ?_⟩
  · rw [HA.out] at he
    cases hp : nameP ts with
    | error e => rw [hp] at he; cases he
    | ok x =>
      rw [hp] at he
      cases he
      have := HEN.out x.1 x.2 hp
      unfold encT at this
      show _ = _
      rw [this]
  · rw [HA.out]
    have := HRR.out _ HR3.out
    cases hp : nameP ts with
    | error e => rw [hp] at this; exact this
    | ok x => rw [hp] at this; exact this
end Go.Proofs.YtedflhiflomoeaaGreatDoor
