import Derived.Test.YtedflhiflomoeaaGreatDoorFlwE
set_option linter.unusedSimpArgs false
set_option linter.unusedVariables false
namespace Go.Proofs.YtedflhiflomoeaaGreatDoor
open Go.RowKit

def encC : By × Int → Value → World → Prop := fun a v _ => v = .agg #[.string (ba a.1), .int .i64 a.2]
theorem RD.kind {w : World} {R : Nat} {ts : List Tk} (h : RD w R ts) (j : Nat) (hj : j < kinds0.length) : w.cell? ⟨3, j, none⟩ = some (.string (ba kinds0[j])) := h.env.kd j hj
theorem RD.verb {w : World} {R : Nat} {ts : List Tk} (h : RD w R ts) (j : Nat) (hj : j < verbs0.length) : w.cell? ⟨7, j, none⟩ = some (.string (ba verbs0[j])) := h.env.vb j hj
set_option maxRecDepth 100000 in
set_option maxHeartbeats 1600000 in
theorem rcolumn_any (R : Nat) (ts : List Tk) (w : World) (h : RD w R ts) : Calls Tryz.prog 57 #[.pointer (some ⟨R, 0, none⟩)] w fun e w' => Rs (columnP ts) encC e w.heap.size w' R ∧ But R w w' := by
  have hR := h.lt
  have H0 := Hid.mk (h.below (below_box w (.cells #[.string ⟨#[]⟩, .int .i64 0] 86)))
  have X0 := Hid.mk (Box.new w [.string ⟨#[]⟩, .int .i64 0] 86 _ rfl)
  have HB0 := Hid.mk (But.of (R := R) (below_box w (.cells #[.string ⟨#[]⟩, .int .i64 0] 86)))
  clear h
  go_enter Tryz.func57, Tryz.ntmps57
  go_wp2_with (go_at_call 56; fail)
  refine (rname_any R ts _ H0.out).mono ?_
  rintro e w1 ⟨⟨a, ts1, v, hp, rfl, hv, hrd⟩ | ⟨er, hp, hthr⟩, hb1⟩
  · unfold encS at hv
    subst hv
    have HC := Hid.mk (show columnP ts = (if textT ts1 = wInt then .ok ((a, 1), ts1.tail) else if textT ts1 = wText then .ok ((a, 2), ts1.tail) else wrongP 3 ts1) by rw [columnP, hp]; rfl)
    have hs1 := (HB0.out.then hb1).size
    have B1 := Hid.mk ((HB0.out.then hb1).box (.cells #[.string (ba a), .int .i64 0] 86))
    have H1 := Hid.mk (hrd.below (below_box w1 (.cells #[.string (ba a), .int .i64 0] 86)))
    have X1 := Hid.mk ((X0.out.but hb1 (by omega)).below (below_box w1 (.cells #[.string (ba a), .int .i64 0] 86)))
    have C1 := Hid.mk (Box.new w1 [.string (ba a), .int .i64 0] 86 _ rfl)
    have hsx : w.heap.size < w1.heap.size := by have := hb1.size; simp at this; omega
    clear hp hrd hb1
    go_wp2_with fail
    generalize hW1 : w1.alloc (.cells #[.string (ba a), .int .i64 0] 86) = W1 at *
    generalize w1.heap.size = cb at *
    clear hW1
    go_loopg [4] 3 (fun g i wr => ∃ k : Nat, 1 ≤ k ∧ k ≤ 3 ∧ i = .int .i64 k ∧ 3 - k ≤ g ∧ Aside (RD wr R ts1 ∧ But R w wr ∧ Box wr w.heap.size [.string ⟨#[]⟩, .int .i64 0] ∧ Box wr cb [.string (ba a), .int .i64 0] ∧ (2 ≤ k → textT ts1 ≠ wInt) ∧ (3 ≤ k → textT ts1 ≠ wText)))
    case atStart => exact ⟨1, by omega, by omega, rfl, by omega, H1.out, B1.out, X1.out, C1.out, fun h => absurd h (by omega), fun h => absurd h (by omega)⟩
    case round =>
      clear H1 B1 X1 C1
      obtain ⟨k, hk1, hk3, rfl, hg, HH⟩ := hrel
      have hk : k = 1 ∨ k = 2 ∨ k = 3 := by omega
      rcases hk with rfl | rfl | rfl
      · have hv := HH.out.1.kind 1 (by decide)
        rw [show kinds0[1] = wInt from rfl] at hv
        have hgl := HH.out.1.env.size 3 (by simp [flowVars])
        have HM := Hid.mk (may_any wInt R ts1 wr HH.out.1 (by simp [wInt]))
        by_cases hm : textT ts1 = wInt
        · rw [if_pos hm, show (textT ts1 == wInt) = true by simp [hm]] at HM
          have HP := Hid.mk (show columnP ts = .ok ((a, 1), ts1.tail) by rw [HC.out, if_pos hm])
          clear hm
          go_wp2_with (go_at_call 58; fail)
          refine HM.out.mono ?_
          rintro e w2 ⟨rfl, hrd2, hb2⟩
          have C2 := Hid.mk (HH.out.2.2.2.1.but hb2 (by omega))
          have c0 := C2.out.cell 0 rfl
          have c1 := C2.out.cell 1 rfl
          have d1 := C2.out.fz 1
          have hcb := C2.out.lt
          have C3 := Hid.mk (C2.out.set 1 (.int .i64 1))
          have X3 := Hid.mk ((HH.out.2.2.1.but hb2 (by omega)).other (k' := cb) 1 (.int .i64 1) (by omega))
          have H3 := Hid.mk (hrd2.set (k := cb) (i := 1) (v := .int .i64 1) (by omega))
          have B3 := Hid.mk ((HH.out.2.1.then hb2).put (k := cb) (i := 1) (by omega) (.int .i64 1))
          have u0 := C3.out.cell 0 rfl
          have u1 := C3.out.cell 1 rfl
          clear hrd2 hb2
          have x0 := X3.out.cell 0 rfl
          have y0 := X3.out.fz 0
          have x1 := X3.out.cell 1 rfl
          have y1 := X3.out.fz 1
          have hzX := X3.out.lt
          have HRD := Hid.mk ((H3.out.set (i := 0) (v := .string (ba a)) hR).set (i := 1) (v := .int .i64 1) hR)
          have HBU := Hid.mk ((B3.out.put (Nat.le_refl _) (.string (ba a)) (i := 0)).put (Nat.le_refl _) (.int .i64 1) (i := 1))
          have HBX := Hid.mk ((X3.out.set 0 (.string (ba a))).set 1 (.int .i64 1))
          have z0 := HBX.out.cell 0 rfl
          have z1 := HBX.out.cell 1 rfl
          clear HBX
          go_wp2
          refine bodyPost_ret (v := .agg #[.string (ba a), .int .i64 1]) (by simp [results, Tryz.results57, go_sem, z0, z1]) rfl ?_
          exact ⟨Or.inl ⟨_, _, _, HP.out, rfl, rfl, HRD.out⟩, HBU.out⟩
        · rw [if_neg hm, show (textT ts1 == wInt) = false by simp [hm]] at HM
          have HNE := Hid.mk hm
          clear hm
          go_wp2_with (go_at_call 58; fail)
          refine HM.out.mono ?_
          rintro e w2 ⟨rfl, hrd2, hb2⟩
          have HF := Hid.mk (And.intro hrd2 (And.intro (HH.out.2.1.then hb2) (And.intro (HH.out.2.2.1.but hb2 (by omega)) (HH.out.2.2.2.1.but hb2 (by omega)))))
          clear hrd2 hb2
          go_wp2
          go_roundg (3 - 2)
          case measure => omega
          case rel => exact ⟨2, by omega, by omega, by go_num, Nat.le_refl _, HF.out.1, HF.out.2.1, HF.out.2.2.1, HF.out.2.2.2, fun _ => HNE.out, fun h => absurd h (by omega)⟩
      · have hv := HH.out.1.kind 2 (by decide)
        rw [show kinds0[2] = wText from rfl] at hv
        have hgl := HH.out.1.env.size 3 (by simp [flowVars])
        have HM := Hid.mk (may_any wText R ts1 wr HH.out.1 (by simp [wText]))
        by_cases hm : textT ts1 = wText
        · rw [if_pos hm, show (textT ts1 == wText) = true by simp [hm]] at HM
          have HP := Hid.mk (show columnP ts = .ok ((a, 2), ts1.tail) by rw [HC.out, if_neg (HH.out.2.2.2.2.1 (by omega)), if_pos hm])
          clear hm
          go_wp2_with (go_at_call 58; fail)
          refine HM.out.mono ?_
          rintro e w2 ⟨rfl, hrd2, hb2⟩
          have C2 := Hid.mk (HH.out.2.2.2.1.but hb2 (by omega))
          have c0 := C2.out.cell 0 rfl
          have c1 := C2.out.cell 1 rfl
          have d1 := C2.out.fz 1
          have hcb := C2.out.lt
          have C3 := Hid.mk (C2.out.set 1 (.int .i64 2))
          have X3 := Hid.mk ((HH.out.2.2.1.but hb2 (by omega)).other (k' := cb) 1 (.int .i64 2) (by omega))
          have H3 := Hid.mk (hrd2.set (k := cb) (i := 1) (v := .int .i64 2) (by omega))
          have B3 := Hid.mk ((HH.out.2.1.then hb2).put (k := cb) (i := 1) (by omega) (.int .i64 2))
          have u0 := C3.out.cell 0 rfl
          have u1 := C3.out.cell 1 rfl
          clear hrd2 hb2
          have x0 := X3.out.cell 0 rfl
          have y0 := X3.out.fz 0
          have x1 := X3.out.cell 1 rfl
          have y1 := X3.out.fz 1
          have hzX := X3.out.lt
          have HRD := Hid.mk ((H3.out.set (i := 0) (v := .string (ba a)) hR).set (i := 1) (v := .int .i64 2) hR)
          have HBU := Hid.mk ((B3.out.put (Nat.le_refl _) (.string (ba a)) (i := 0)).put (Nat.le_refl _) (.int .i64 2) (i := 1))
          have HBX := Hid.mk ((X3.out.set 0 (.string (ba a))).set 1 (.int .i64 2))
          have z0 := HBX.out.cell 0 rfl
          have z1 := HBX.out.cell 1 rfl
          clear HBX
          go_wp2
          refine bodyPost_ret (v := .agg #[.string (ba a), .int .i64 2]) (by simp [results, Tryz.results57, go_sem, z0, z1]) rfl ?_
          exact ⟨Or.inl ⟨_, _, _, HP.out, rfl, rfl, HRD.out⟩, HBU.out⟩
        · rw [if_neg hm, show (textT ts1 == wText) = false by simp [hm]] at HM
          have HNE := Hid.mk hm
          clear hm
          go_wp2_with (go_at_call 58; fail)
          refine HM.out.mono ?_
          rintro e w2 ⟨rfl, hrd2, hb2⟩
          have HF := Hid.mk (And.intro hrd2 (And.intro (HH.out.2.1.then hb2) (And.intro (HH.out.2.2.1.but hb2 (by omega)) (HH.out.2.2.2.1.but hb2 (by omega)))))
          clear hrd2 hb2
          go_wp2
          go_roundg (3 - 3)
          case measure => omega
          case rel => exact ⟨3, by omega, by omega, by go_num, Nat.le_refl _, HF.out.1, HF.out.2.1, HF.out.2.2.1, HF.out.2.2.2, fun _ => HH.out.2.2.2.2.1 (by omega), fun _ => HNE.out⟩
      · have HP := Hid.mk (show columnP ts = .error (3, hereT ts1) by rw [HC.out, if_neg (HH.out.2.2.2.2.1 (by omega)), if_neg (HH.out.2.2.2.2.2 (by omega))]; rfl)
        have hsz := HH.out.2.1.size
        go_wp2_with (go_at_call 41; refine (rwrong_any _ _ _ _ HH.out.1).mono ?_; rintro e w'' ⟨rfl, rfl⟩)
        exact ⟨rfl, Or.inr ⟨_, HP.out, thr_new _ _ _ hsz⟩, HH.out.2.1.box _⟩
  · obtain ⟨b', rfl, t0, t1, tB, tl⟩ := hthr
    have HP := Hid.mk (show columnP ts = .error er by rw [columnP, hp]; rfl)
    go_wp2
    exact ⟨rfl, Or.inr ⟨_, HP.out, b', rfl, t0, t1, by first | omega | (simp at tB; omega), tl⟩, HB0.out.then hb1⟩
theorem verb_at (j : Nat) (hj : j < verbsL.length) : ∃ h : j + 1 < verbs0.length, verbs0[j + 1] = verbsL[j] ∧ verbsL[j] ≠ [] := by
  refine ⟨by simp [verbs0]; omega, by simp [verbs0], ?_⟩
  have : ∀ x ∈ verbsL, x ≠ [] := by decide
  exact this _ (List.getElem_mem hj)
theorem code_at {ts : List Tk} {j : Nat} (hj : j < verbsL.length) (he : textT ts = verbsL[j]) (hn : ∀ (i : Nat) (h : i < verbsL.length), i < j → textT ts ≠ verbsL[i]) : codeP ts = .ok ((j : Int) + 1, ts.tail) := by
  have h : verbsL.findIdx? (· == textT ts) = some j := by
    rw [List.findIdx?_eq_some_iff_getElem]
    exact ⟨hj, by simp [he], fun i hi => by simpa using fun h => hn i (by omega) hi h.symm⟩
  rw [codeP, h]
theorem code_none {ts : List Tk} (hn : ∀ (i : Nat) (h : i < verbsL.length), textT ts ≠ verbsL[i]) : codeP ts = .error (3, hereT ts) := by
  have h : verbsL.findIdx? (· == textT ts) = none := by
    rw [List.findIdx?_eq_none_iff]
    intro y hy
    obtain ⟨j, hj, rfl⟩ := List.getElem_of_mem hy
    simpa using fun h => hn j hj h.symm
  rw [codeP, h]
  rfl
set_option maxRecDepth 100000 in
set_option maxHeartbeats 1600000 in
theorem rcode_any (R : Nat) (ts : List Tk) (w : World) (h : RD w R ts) : Calls Tryz.prog 79 #[.pointer (some ⟨R, 0, none⟩)] w fun e w' => Rs (codeP ts) encI e w.heap.size w' R ∧ But R w w' := by
  have hR := h.lt
  have H := Hid.mk h
  clear h
  go_enter Tryz.func79, Tryz.ntmps79
  go_wp2_with fail
  go_loopg [3] 10 (fun g i wr => ∃ j : Nat, j ≤ 9 ∧ i = .int .i64 ((j : Int) + 1) ∧ 9 - j ≤ g ∧ Aside (RD wr R ts ∧ But R w wr ∧ ∀ (i : Nat) (h : i < verbsL.length), i < j → textT ts ≠ verbsL[i]))
  case atStart => exact ⟨0, by omega, rfl, by omega, H.out, But.refl _ _, fun i _ h => absurd h (by omega)⟩
  case round =>
    obtain ⟨j, hj, rfl, hg, HH⟩ := hrel
    have hw1 : IntKind.i64.wrap ((j : Int) + 1) = (j : Int) + 1 := by rw [IntKind.wrap_i64]; omega
    by_cases hlt : j < 9
    · have hltz : (j : Int) + 1 < 10 := by omega
      obtain ⟨hj1, hve, hne⟩ := verb_at j hlt
      have hv := HH.out.1.verb (j + 1) hj1
      rw [hve] at hv
      have hgl := HH.out.1.env.size 7 (by simp [flowVars])
      obtain ⟨x, hx⟩ : ∃ x, verbsL[j]'hlt = x := ⟨_, rfl⟩
      rw [hx] at hv hne
      have HX := Hid.mk hx
      have HM := Hid.mk (may_any x R ts wr HH.out.1 hne)
      have hnt : ((j : Int) + 1).toNat = j + 1 := by omega
      clear hve hj1 hne hx
      by_cases hm : textT ts = x
      · rw [if_pos hm, show (textT ts == x) = true by simp [hm]] at HM
        have HP := Hid.mk (code_at hlt (by rw [HX.out]; exact hm) HH.out.2.2)
        clear hm
        go_wp2_with (go_at_call 58; fail)
        refine HM.out.mono ?_
        rintro e w2 ⟨rfl, hrd2, hb2⟩
        have HE := Hid.mk (And.intro hrd2 (HH.out.2.1.then hb2))
        clear hrd2 hb2
        go_wp2
        go_ret
        exact ⟨Or.inl ⟨_, _, _, HP.out, rfl, rfl, HE.out.1⟩, HE.out.2⟩
      · rw [if_neg hm, show (textT ts == x) = false by simp [hm]] at HM
        have HN := Hid.mk (show ∀ (i : Nat) (h : i < verbsL.length), i < j + 1 → textT ts ≠ verbsL[i] from fun i h1 h2 => by
          by_cases h3 : i < j
          · exact HH.out.2.2 i h1 h3
          · have : i = j := by omega
            subst this
            have hxx : verbsL[i]'h1 = x := HX.out
            rw [hxx]; exact hm)
        clear hm
        go_wp2_with (go_at_call 58; fail)
        refine HM.out.mono ?_
        rintro e w2 ⟨rfl, hrd2, hb2⟩
        have HE := Hid.mk (And.intro hrd2 (HH.out.2.1.then hb2))
        clear hrd2 hb2
        go_wp2
        go_roundg (9 - (j + 1))
        case measure => omega
        case rel => exact ⟨j + 1, by omega, by go_num, Nat.le_refl _, HE.out.1, HE.out.2, HN.out⟩
    · have hltz : ¬ ((j : Int) + 1 < 10) := by omega
      have HP := Hid.mk (code_none (ts := ts) (fun i h => HH.out.2.2 i h (by have : verbsL.length = 9 := rfl; omega)))
      have hsz := HH.out.2.1.size
      go_wp2_with (go_at_call 41; refine (rwrong_any _ _ _ _ HH.out.1).mono ?_; rintro e w'' ⟨rfl, rfl⟩)
      exact ⟨rfl, Or.inr ⟨_, HP.out, thr_new _ _ _ hsz⟩, HH.out.2.1.box _⟩
def encB : Bool → Value → World → Prop := fun a v _ => v = .bool a
/-- A part of a flow that begins here. -/
def beginsP (x : By) (n : Nat) (ts : List Tk) : PE Bool := if textT ts = x then (if n = 16 then wrongP 4 ts else .ok (true, ts)) else .ok (false, ts)
set_option maxRecDepth 100000 in
set_option maxHeartbeats 1600000 in
theorem rbegins_any (x : By) (n : Nat) (R : Nat) (ts : List Tk) (w : World) (h : RD w R ts) : Calls Tryz.prog 37 #[.pointer (some ⟨R, 0, none⟩), .string (ba x), .int .i64 n] w fun e w' => Rs (beginsP x n ts) encB e w.heap.size w' R ∧ Below w.heap.size w w' := by
  have H := Hid.mk h
  have HI := Hid.mk (is_any x R ts w h)
  clear h
  by_cases hm : textT ts = x
  · rw [show (textT ts == x) = true by simp [hm]] at HI
    by_cases hn : n = 16
    · have HP := Hid.mk (show beginsP x n ts = .error (4, hereT ts) by rw [beginsP, if_pos hm, if_pos hn]; rfl)
      have hnz : ((n : Int) == 16) = true := by simp [hn]
      clear hm hn
      go_enter Tryz.func37, Tryz.ntmps37
      go_wp2_with (first | (go_at_call 54; refine HI.out.mono ?_; rintro e w' ⟨rfl, rfl⟩) | (go_at_call 41; refine (rwrong_any _ _ _ _ H.out).mono ?_; rintro e w'' ⟨rfl, rfl⟩))
      exact ⟨rfl, Or.inr ⟨_, HP.out, thr_new _ _ _ (Nat.le_refl _)⟩, below_box _ _⟩
    · have HP := Hid.mk (show beginsP x n ts = .ok (true, ts) by rw [beginsP, if_pos hm, if_neg hn])
      have hnz : ((n : Int) == 16) = false := by simp; omega
      clear hm hn
      go_enter Tryz.func37, Tryz.ntmps37
      go_wp2_with (go_at_call 54; refine HI.out.mono ?_; rintro e w' ⟨rfl, rfl⟩)
      go_ret
      exact ⟨Or.inl ⟨_, _, _, HP.out, rfl, rfl, H.out⟩, Below.refl _ _⟩
  · rw [show (textT ts == x) = false by simp [hm]] at HI
    have HP := Hid.mk (show beginsP x n ts = .ok (false, ts) by rw [beginsP, if_neg hm])
    clear hm
    go_enter Tryz.func37, Tryz.ntmps37
    go_wp2_with (go_at_call 54; refine HI.out.mono ?_; rintro e w' ⟨rfl, rfl⟩)
    go_ret
    exact ⟨Or.inl ⟨_, _, _, HP.out, rfl, rfl, H.out⟩, Below.refl _ _⟩
end Go.Proofs.YtedflhiflomoeaaGreatDoor
