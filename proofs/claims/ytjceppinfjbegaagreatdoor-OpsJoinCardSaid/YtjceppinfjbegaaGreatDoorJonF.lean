import Derived.Test.YtjceppinfjbegaaGreatDoorJonC
set_option linter.unusedSimpArgs false
set_option linter.unusedVariables false
namespace Go.Proofs.YtjceppinfjbegaaGreatDoor
open Go.RowKit

/-- The kind of a column at a place. -/
def kindAt (cs : List Cl) (k : Nat) : Int := (cs[k]?.getD (⟨#[]⟩, 0)).2
/-- What is wrong with a job that groups by one column, and sums another one (0: nothing). -/
def grpErr (cs : List Cl) (x y : ByteArray) : Int :=
  match placeN cs x.data.toList, placeN cs y.data.toList with
  | some p, some q => if kindAt cs q ≠ 1 then 13 else if p = q then 9 else 0
  | _, _ => 7
theorem place_nat {cs : List Cl} {nm : List UInt8} {p : Nat} (h : placeN cs nm = some p) : placeI cs nm = (p : Int) := by rw [placeI, h]
theorem place_neg {cs : List Cl} {nm : List UInt8} (h : placeN cs nm = none) : placeI cs nm = -1 := by rw [placeI, h]
theorem kindAt_of {cs : List Cl} {k : Nat} (h : k < cs.length) : cs[k].2 = kindAt cs k := by unfold kindAt; rw [List.getElem?_eq_getElem h]; rfl

set_option maxRecDepth 100000 in
set_option maxHeartbeats 3200000 in
theorem group_any (b o n c cb co cc : Nat) (cs : List Cl) (x y : ByteArray) (j : Jb) (w : World) (hj : j.cols = .slice (some ⟨cb, co, none⟩) 2 cc) (hop : j.op = ⟨#[115, 117, 109]⟩) (hcb : cb < w.heap.size) (s0 : w.cell? ⟨cb, co, none⟩ = some (.string x)) (s1 : w.cell? ⟨cb, co + 1, none⟩ = some (.string y))
    (hn : cs.length = n) (hn' : n ≤ 100) (hb : b < w.heap.size) (hc : ColsAt w b o cs) :
    Calls Tryz.prog 67 #[.agg j.cells, .slice (some ⟨b, o, none⟩) n c] w fun e w' => e = .returned (errV (grpErr cs x y)) ∧ Below w.heap.size w w' := by
  have hP := fun nm W (h1 : Below w.heap.size w W) => place_in b o n c cs nm W hn hn' (by have := h1.size; omega) (hc.below h1 hb)
  have hJ := job_new w j 28
  have hB0 := below_box w (.cells j.cells 28)
  obtain ⟨W, hW⟩ : ∃ W, W = w.alloc (.cells j.cells 28) := ⟨_, rfl⟩
  rw [← hW] at hJ hB0
  have e4 := cell_regrown (show W.cell? ⟨w.heap.size, 4, none⟩ = some (.slice (some ⟨cb, co, none⟩) 2 cc) from by have := hJ 4 j.cols rfl; rw [hj] at this; exact this)
  have e5 := cell_regrown ((hB0.cell (p := ⟨cb, co, none⟩) hcb).trans s0)
  have e6 := cell_regrown ((hB0.cell (p := ⟨cb, co + 1, none⟩) hcb).trans s1)
  have C1 : ∀ nm d os, _ := fun nm d os => Calls.regrown_of (hP nm (Sort.grow (redrawn W d) os) (bel_then hB0 (below_regrown _ _ _)))
  have HB := Hid.mk hB0
  have HC := Hid.mk (And.intro hn hc)
  obtain ⟨P, hPx⟩ : ∃ P, placeI cs x.data.toList = P := ⟨_, rfl⟩
  obtain ⟨Q, hQy⟩ : ∃ Q, placeI cs y.data.toList = Q := ⟨_, rfl⟩
  have HPQ := Hid.mk (And.intro hPx hQy)
  clear hJ hB0 hn hc hP
  unfold Jb.cells at hW ⊢
  rw [hj, hop] at hW ⊢
  go_enter Tryz.func67, Tryz.ntmps67
  go_wp2
  rw [← hW]
  clear hW
  refine wp_region_quiet_below (by kernel_rfl) (by kernel_rfl) ?_
  repeat (any_goals (first | go_big_quiet_step (exact C1 _ _ _) | quiet_step (exact C1 _ _ _)))
  refine wpQuiet_nil ?_
  intro _ hw'
  obtain ⟨⟨dq, osq⟩, hw''⟩ := hw'
  subst hw''
  have HB5 := Hid.mk (bel_then HB.out (below_regrown W dq osq))
  clear e4 e5 e6 C1 HB
  generalize Sort.grow (redrawn W dq) osq = W5 at *
  try rw [hPx]
  try rw [hQy]
  clear hPx hQy
  cases hpx : placeN cs x.data.toList with
  | none =>
    have hv : grpErr cs x y = 7 := by unfold grpErr; rw [hpx]
    have HV := Hid.mk hv
    have hP0 : P = -1 := by rw [← HPQ.out.1]; exact place_neg hpx
    subst hP0
    clear hpx hv HPQ
    go_wp2
    go_ret
    exact ⟨by rw [HV.out, errV_ne (by decide)]; rfl, HB5.out⟩
  | some p =>
    have hP0 : P = (p : Int) := by rw [← HPQ.out.1]; exact place_nat hpx
    cases hqy : placeN cs y.data.toList with
    | none =>
      have hv : grpErr cs x y = 7 := by unfold grpErr; rw [hpx, hqy]
      have HV := Hid.mk hv
      have hQ0 : Q = -1 := by rw [← HPQ.out.2]; exact place_neg hqy
      subst hQ0 hP0
      have hp0 : ¬ ((p : Int) < 0) := by omega
      clear hpx hqy hv HPQ
      go_wp2
      go_ret
      exact ⟨by rw [HV.out, errV_ne (by decide)]; rfl, HB5.out⟩
    | some q =>
      have hQ0 : Q = (q : Int) := by rw [← HPQ.out.2]; exact place_nat hqy
      have hql := place_some hqy
      have hkd := ((HC.out.2 q hql).2)
      rw [kindAt_of hql] at hkd
      have d5 := (HB5.out.cell (p := ⟨b, o + q * 2 + 1, none⟩) hb).trans hkd
      have hqn : (q : Int) < (n : Int) := by have := HC.out.1; omega
      have hp0 : ¬ ((p : Int) < 0) := by omega
      have hq0 : ¬ ((q : Int) < 0) := by omega
      have hv : grpErr cs x y = if kindAt cs q ≠ 1 then 13 else if p = q then 9 else 0 := by unfold grpErr; rw [hpx, hqy]
      clear hpx hqy hkd
      subst hQ0 hP0
      generalize kindAt cs q = kd at *
      by_cases hk : kd = 1
      · subst hk
        rw [if_neg (by decide)] at hv
        by_cases hpq : p = q
        · subst hpq
          rw [if_pos rfl] at hv
          have HV := Hid.mk hv
          clear hv
          go_wp2
          go_ret
          exact ⟨by rw [HV.out, errV_ne (by decide)]; rfl, HB5.out⟩
        · rw [if_neg hpq] at hv
          have HV := Hid.mk hv
          clear hv
          have hpq' : ¬ ((p : Int) = (q : Int)) := by omega
          go_wp2
          go_ret
          exact ⟨by rw [HV.out, errV_0]; rfl, HB5.out⟩
      · rw [if_pos hk] at hv
        have HV := Hid.mk hv
        clear hv
        go_wp2
        go_ret
        exact ⟨by rw [HV.out, errV_ne (by decide)]; rfl, HB5.out⟩
end Go.Proofs.YtjceppinfjbegaaGreatDoor

namespace Go.Proofs.YtjceppinfjbegaaGreatDoor
open Go.RowKit

/-- A column is called as one ahead of it. -/
def twiceB (l : List Cl) : Bool := (List.range l.length).any fun i => decide (placeI l ((l[i]?.getD (⟨#[]⟩, 0)).1.data.toList) < (i : Int))
/-- What is wrong with a job that joins two tables (0: nothing). -/
def joinErr (cs ds : List Cl) (x y : ByteArray) : Int :=
  match placeN cs x.data.toList, placeN ds y.data.toList with
  | some p, some q => if kindAt cs p ≠ kindAt ds q then 13 else if twiceB (besL cs ds q) = true then 9 else if 6 < (besL cs ds q).length then 4 else 0
  | _, _ => 7
theorem twice_at {l : List Cl} {i : Nat} (h : i < l.length) (hp : placeI l (l[i].1.data.toList) < (i : Int)) : twiceB l = true := by
  unfold twiceB
  rw [List.any_eq_true]
  exact ⟨i, List.mem_range.2 h, by rw [List.getElem?_eq_getElem h]; exact decide_eq_true hp⟩
theorem twice_not {l : List Cl} (h : ∀ i (hi : i < l.length), ¬ placeI l (l[i].1.data.toList) < (i : Int)) : twiceB l = false := by
  unfold twiceB
  rw [List.any_eq_false]
  intro i hi
  have hi' := List.mem_range.1 hi
  rw [List.getElem?_eq_getElem hi']
  simpa using h i hi'

set_option maxRecDepth 100000 in
set_option maxHeartbeats 3200000 in
theorem join_any (b o n c b2 o2 n2 c2 cb co cc : Nat) (cs ds : List Cl) (x y : ByteArray) (j : Jb) (w : World) (hj : j.cols = .slice (some ⟨cb, co, none⟩) 2 cc) (hcb : cb < w.heap.size) (s0 : w.cell? ⟨cb, co, none⟩ = some (.string x)) (s1 : w.cell? ⟨cb, co + 1, none⟩ = some (.string y))
    (hn : cs.length = n) (hn1 : 1 ≤ n) (hn' : n ≤ 40) (hb : b < w.heap.size) (hc : ColsAt w b o cs) (hn2 : ds.length = n2) (hn2' : n2 ≤ 40) (hcap : n2 ≤ c2) (hb2 : b2 < w.heap.size) (hc2 : ColsAt w b2 o2 ds) (hsz : ∀ z ∈ cs ++ ds, z.1.size ≤ maxLen) :
    Calls Tryz.prog 66 #[.agg j.cells, .slice (some ⟨b, o, none⟩) n c, .slice (some ⟨b2, o2, none⟩) n2 c2] w fun e w' => e = .returned (errV (joinErr cs ds x y)) ∧ Below w.heap.size w w' := by
  have hPl : ∀ (v : Value) (nm : ByteArray) (k : Int) (W : World), Below w.heap.size w W → (v = .slice (some ⟨b, o, none⟩) n c ∧ k = placeI cs nm.data.toList ∨ v = .slice (some ⟨b2, o2, none⟩) n2 c2 ∧ k = placeI ds nm.data.toList) → Calls Tryz.prog 71 #[v, .string nm] W fun e w' => e = .returned (.int .i64 k) ∧ Below W.heap.size W w' := by
    rintro v nm k W h1 (⟨rfl, rfl⟩ | ⟨rfl, rfl⟩)
    · exact place_in b o n c cs nm W hn (by omega) (by have := h1.size; omega) (hc.below h1 hb)
    · exact place_in b2 o2 n2 c2 ds nm W hn2 (by omega) (by have := h1.size; omega) (hc2.below h1 hb2)
  have hJ := job_new w j 28
  have hB0 := below_box w (.cells j.cells 28)
  obtain ⟨W, hW⟩ : ∃ W, W = w.alloc (.cells j.cells 28) := ⟨_, rfl⟩
  rw [← hW] at hJ hB0
  have e4 := cell_regrown (show W.cell? ⟨w.heap.size, 4, none⟩ = some (.slice (some ⟨cb, co, none⟩) 2 cc) from by have := hJ 4 j.cols rfl; rw [hj] at this; exact this)
  have e5 := cell_regrown ((hB0.cell (p := ⟨cb, co, none⟩) hcb).trans s0)
  have e6 := cell_regrown ((hB0.cell (p := ⟨cb, co + 1, none⟩) hcb).trans s1)
  have C1 := fun v nm k d os h => Calls.regrown_of (hPl v nm k (Sort.grow (redrawn W d) os) (bel_then hB0 (below_regrown _ _ _)) h)
  have HB := Hid.mk hB0
  have HC := Hid.mk (And.intro hn (And.intro hc (And.intro hn2 (And.intro hc2 hsz))))
  obtain ⟨P, hPx⟩ : ∃ P, placeI cs x.data.toList = P := ⟨_, rfl⟩
  obtain ⟨Q, hQy⟩ : ∃ Q, placeI ds y.data.toList = Q := ⟨_, rfl⟩
  have HPQ := Hid.mk (And.intro hPx hQy)
  clear hJ hB0 hn hc hPl hn2 hc2 hsz
  unfold Jb.cells at hW ⊢
  rw [hj] at hW ⊢
  go_enter Tryz.func66, Tryz.ntmps66
  go_wp2
  rw [← hW]
  clear hW
  refine wp_region_quiet_below (by kernel_rfl) (by kernel_rfl) ?_
  repeat (any_goals (first | go_big_quiet_step (exact C1 _ _ _ _ _ (by first | exact Or.inl ⟨rfl, rfl⟩ | exact Or.inr ⟨rfl, rfl⟩)) | quiet_step (exact C1 _ _ _ _ _ (by first | exact Or.inl ⟨rfl, rfl⟩ | exact Or.inr ⟨rfl, rfl⟩))))
  refine wpQuiet_nil ?_
  intro _ hw'
  obtain ⟨⟨dq, osq⟩, hw''⟩ := hw'
  subst hw''
  have HB5 := Hid.mk (bel_then HB.out (below_regrown W dq osq))
  clear e4 e5 e6 C1 HB
  generalize Sort.grow (redrawn W dq) osq = W5 at *
  try rw [hPx]
  try rw [hQy]
  clear hPx hQy
  cases hpx : placeN cs x.data.toList with
  | none =>
    have HV := Hid.mk (show joinErr cs ds x y = 7 by unfold joinErr; rw [hpx])
    have hP0 : P = -1 := by rw [← HPQ.out.1]; exact place_neg hpx
    subst hP0
    clear hpx HPQ
    go_wp2
    go_ret
    exact ⟨by rw [HV.out, errV_ne (by decide)]; rfl, HB5.out⟩
  | some p =>
    have hP0 : P = (p : Int) := by rw [← HPQ.out.1]; exact place_nat hpx
    cases hqy : placeN ds y.data.toList with
    | none =>
      have HV := Hid.mk (show joinErr cs ds x y = 7 by unfold joinErr; rw [hpx, hqy])
      have hQ0 : Q = -1 := by rw [← HPQ.out.2]; exact place_neg hqy
      subst hQ0 hP0
      have hp0 : ¬ ((p : Int) < 0) := by omega
      clear hpx hqy HPQ
      go_wp2
      go_ret
      exact ⟨by rw [HV.out, errV_ne (by decide)]; rfl, HB5.out⟩
    | some q =>
      have hQ0 : Q = (q : Int) := by rw [← HPQ.out.2]; exact place_nat hqy
      have hpl := place_some hpx
      have hql := place_some hqy
      have hkp := ((HC.out.2.1 p hpl).2)
      have hkq := ((HC.out.2.2.2.1 q hql).2)
      rw [kindAt_of hpl] at hkp
      rw [kindAt_of hql] at hkq
      have d5 := (HB5.out.cell (p := ⟨b, o + p * 2 + 1, none⟩) hb).trans hkp
      have d6 := (HB5.out.cell (p := ⟨b2, o2 + q * 2 + 1, none⟩) hb2).trans hkq
      have hpn : (p : Int) < (n : Int) := by have := HC.out.1; omega
      have hqn : (q : Int) < (n2 : Int) := by have := HC.out.2.2.1; omega
      have hp0 : ¬ ((p : Int) < 0) := by omega
      have hq0 : ¬ ((q : Int) < 0) := by omega
      have hv : joinErr cs ds x y = if kindAt cs p ≠ kindAt ds q then 13 else if twiceB (besL cs ds q) = true then 9 else if 6 < (besL cs ds q).length then 4 else 0 := by unfold joinErr; rw [hpx, hqy]
      have HQL := Hid.mk hql
      clear hpx hqy hkp hkq hpl hql
      subst hQ0 hP0
      generalize kindAt cs p = kp at *
      generalize kindAt ds q = kq at *
      by_cases hk : kp = kq
      · subst hk
        rw [if_neg (by simp)] at hv
        have HV := Hid.mk hv
        clear hv
        have HBS := Hid.mk (fun W' (hW' : Below w.heap.size w W') => besideC_in b o c b2 o2 c2 q cs ds W' (by have := hW'.size; omega) (HC.out.2.1.below hW' hb) (by have := hW'.size; omega) (HC.out.2.2.2.1.below hW' hb2) HQL.out (by rw [HC.out.2.2.1]; exact hcap) (by rw [HC.out.1]; omega) (by rw [HC.out.2.2.1]; omega))
        rw [HC.out.1, HC.out.2.2.1] at HBS
        have HBL := Hid.mk (besL_len cs ds q HQL.out)
        have HBZ : Hid (∀ z ∈ besL cs ds q, z.1.size ≤ maxLen) := Hid.mk (fun z hz => HC.out.2.2.2.2 z (by
          unfold besL at hz
          rw [List.mem_append, List.mem_append] at hz
          rw [List.mem_append]
          rcases hz with (hz | hz) | hz
          · exact Or.inl hz
          · exact Or.inr (List.mem_of_mem_take hz)
          · exact Or.inr (List.mem_of_mem_drop hz)))
        generalize besL cs ds q = L at *
        have hL1 : 1 ≤ L.length := by have h1 := HBL.out; have h2 := HC.out.1; have h3 := HQL.out; omega
        have hL2 : L.length ≤ 80 := by have h1 := HBL.out; have h2 := HC.out.1; have h3 := HC.out.2.2.1; omega
        go_wp2
        go_quiet (fail)
        go_wp2_with (go_at_call 70; fail)
        refine (HBS.out _ (below_drewN HB5.out _)).mono ?_
        rintro e W6 ⟨v6, rfl, ho6, hb6⟩
        have hcI := cols_of_own ho6 HBZ.out
        obtain ⟨lb, lo, lc, rfl, hlb, hlat⟩ := cols_at hcI hL1
        have HB6 := Hid.mk (bel_then (below_drewN HB5.out _) hb6)
        have HLA := Hid.mk hlat
        clear ho6 hb6 hcI hlat HBS d5 d6
        go_wp2
        go_loopg [54] L.length (fun g1 vi wr => ∃ i : Nat, vi = .int .i64 i ∧ i ≤ L.length ∧ L.length - i ≤ g1 ∧ Aside (Below W6.heap.size W6 wr ∧ ∀ k (hk : k < L.length), k < i → ¬ placeI L (L[k].1.data.toList) < (k : Int)))
        case atStart => exact ⟨0, rfl, Nat.zero_le _, by omega, Below.refl _ _, fun k _ h => absurd h (by omega)⟩
        case round =>
          obtain ⟨i, rfl, hil, hg, HI⟩ := hrel
          by_cases hlt : i < L.length
          · have hltz : (i : Int) < (L.length : Int) := by omega
            have hws := HI.out.1.size
            obtain ⟨c0, c1⟩ := (HLA.out.below HI.out.1 hlb) i hlt
            have HPL := Hid.mk (fun W' (hW' : Below wr.heap.size wr W') => place_in lb lo L.length lc L L[i].1 W' rfl (by omega) (by have := hW'.size; omega) ((HLA.out.below HI.out.1 hlb).below hW' (by omega)))
            obtain ⟨R, hR⟩ : ∃ R, placeI L (L[i].1.data.toList) = R := ⟨_, rfl⟩
            have HR := Hid.mk hR
            rw [hR] at HPL
            clear hR
            by_cases hRi : R < (i : Int)
            · have HTW := Hid.mk (twice_at hlt (by rw [HR.out]; exact hRi))
              generalize L[i] = z at *
              go_wp2_with (go_at_call 71; fail)
              refine (HPL.out _ (below_box _ _)).mono ?_
              rintro e W7 ⟨rfl, hb7⟩
              have HB7 := Hid.mk (bel_then (bel_then HB6.out HI.out.1) (bel_then (below_box _ _) hb7))
              clear hb7 c0 c1
              go_wp2
              go_ret
              exact ⟨by rw [HV.out, if_pos HTW.out, errV_ne (by decide)]; rfl, HB7.out⟩
            · have HNT := Hid.mk (show ∀ k (hk : k < L.length), k < i + 1 → ¬ placeI L (L[k].1.data.toList) < (k : Int) from fun k hk hki => by
                rcases Nat.lt_or_ge k i with h | h
                · exact HI.out.2 k hk h
                · obtain rfl : k = i := by omega
                  rw [HR.out]
                  exact hRi)
              generalize L[i] = z at *
              go_wp2_with (go_at_call 71; fail)
              refine (HPL.out _ (below_box _ _)).mono ?_
              rintro e W7 ⟨rfl, hb7⟩
              have HB7 := Hid.mk (bel_then HI.out.1 (bel_then (below_box _ _) hb7))
              clear hb7 c0 c1
              go_wp2
              go_roundg (L.length - (i + 1))
              case measure => omega
              case rel => exact ⟨i + 1, by go_num, by omega, Nat.le_refl _, HB7.out, HNT.out⟩
          · have hltz : ¬ ((i : Int) < (L.length : Int)) := by omega
            have HNT := Hid.mk (twice_not (fun k hk => HI.out.2 k hk (by omega)))
            by_cases h6 : 6 < L.length
            · have h6z : (6 : Int) < (L.length : Int) := by omega
              go_wp2
              go_ret
              exact ⟨by rw [HV.out, if_neg (by rw [HNT.out]; decide), if_pos h6, errV_ne (by decide)]; rfl, bel_then HB6.out HI.out.1⟩
            · have h6z : ¬ ((6 : Int) < (L.length : Int)) := by omega
              go_wp2
              go_ret
              exact ⟨by rw [HV.out, if_neg (by rw [HNT.out]; decide), if_neg h6, errV_0]; rfl, bel_then HB6.out HI.out.1⟩
      · rw [if_pos hk] at hv
        have HV := Hid.mk hv
        clear hv
        have hk' : (kp == kq) = false := by simp [hk]
        go_wp2
        go_quiet (fail)
        go_wp2
        go_ret
        exact ⟨by rw [HV.out, errV_ne (by decide)]; rfl, below_drewN HB5.out _⟩
end Go.Proofs.YtjceppinfjbegaaGreatDoor

namespace Go.Proofs.YtjceppinfjbegaaGreatDoor
open Go.RowKit

set_option maxRecDepth 100000 in
set_option maxHeartbeats 1600000 in
/-- wrong, of a job that joins. -/
theorem wrong_join (hb ho cin b o n c b2 o2 n2 c2 : Nat) (j : Jb) (r : Int) (w : World) (hcode : j.code = 7) (hhb : hb < w.heap.size) (h0 : w.cell? ⟨hb, ho, none⟩ = some (.slice (some ⟨b, o, none⟩) n c)) (h1 : w.cell? ⟨hb, ho + 1, none⟩ = some (.slice (some ⟨b2, o2, none⟩) n2 c2))
    (hG : ∀ W, Below w.heap.size w W → Calls Tryz.prog 66 #[.agg j.cells, .slice (some ⟨b, o, none⟩) n c, .slice (some ⟨b2, o2, none⟩) n2 c2] W fun e w' => e = .returned (errV r) ∧ Below W.heap.size W w') :
    Calls Tryz.prog 35 #[.agg j.cells, .slice (some ⟨hb, ho, none⟩) 2 cin] w fun e w' => e = .returned (errV r) ∧ Below w.heap.size w w' := by
  have hJ := job_new w j 28
  have hB0 := below_box w (.cells j.cells 28)
  obtain ⟨W, hW⟩ : ∃ W, W = w.alloc (.cells j.cells 28) := ⟨_, rfl⟩
  rw [← hW] at hJ hB0
  have e0 := cell_regrown (show W.cell? ⟨w.heap.size, 0, none⟩ = some (.int .i64 j.at_) from hJ 0 _ rfl)
  have e1 := cell_regrown (show W.cell? ⟨w.heap.size, 1, none⟩ = some (.int .i64 7) from by have := hJ 1 (.int .i64 j.code) rfl; rw [hcode] at this; exact this)
  have e2 := cell_regrown (show W.cell? ⟨w.heap.size, 2, none⟩ = some j.outs from hJ 2 _ rfl)
  have e3 := cell_regrown (show W.cell? ⟨w.heap.size, 3, none⟩ = some j.ins from hJ 3 _ rfl)
  have e4 := cell_regrown (show W.cell? ⟨w.heap.size, 4, none⟩ = some j.cols from hJ 4 _ rfl)
  have e5 := cell_regrown (show W.cell? ⟨w.heap.size, 5, none⟩ = some (.string j.op) from hJ 5 _ rfl)
  have e6 := cell_regrown (show W.cell? ⟨w.heap.size, 6, none⟩ = some (.string j.left.1) from hJ 6 _ rfl)
  have e7 := cell_regrown (show W.cell? ⟨w.heap.size, 7, none⟩ = some (.int .i64 j.left.2.1) from hJ 7 _ rfl)
  have e8 := cell_regrown (show W.cell? ⟨w.heap.size, 8, none⟩ = some (.int .i64 j.left.2.2.1) from hJ 8 _ rfl)
  have e9 := cell_regrown (show W.cell? ⟨w.heap.size, 9, none⟩ = some (.string j.left.2.2.2) from hJ 9 _ rfl)
  have e10 := cell_regrown (show W.cell? ⟨w.heap.size, 10, none⟩ = some (.string j.right.1) from hJ 10 _ rfl)
  have e11 := cell_regrown (show W.cell? ⟨w.heap.size, 11, none⟩ = some (.int .i64 j.right.2.1) from hJ 11 _ rfl)
  have e12 := cell_regrown (show W.cell? ⟨w.heap.size, 12, none⟩ = some (.int .i64 j.right.2.2.1) from hJ 12 _ rfl)
  have e13 := cell_regrown (show W.cell? ⟨w.heap.size, 13, none⟩ = some (.string j.right.2.2.2) from hJ 13 _ rfl)
  have e14 := cell_regrown (show W.cell? ⟨w.heap.size, 14, none⟩ = some (.int .i64 j.retry) from hJ 14 _ rfl)
  have f1 := cell_regrown ((hB0.cell (p := ⟨hb, ho + 1, none⟩) hhb).trans h1)
  unfold Jb.cells at hG hW ⊢
  rw [hcode] at hG hW ⊢
  generalize errV r = ev at *
  have C1 : ∀ d os, _ := fun d os => Calls.regrown_of (hG (Sort.grow (redrawn W d) os) (bel_then hB0 (below_regrown _ _ _)))
  have HB := Hid.mk hB0
  clear hJ hB0 hG hcode
  go_enter Tryz.func35, Tryz.ntmps35
  go_wp2
  rw [← hW]
  clear hW
  refine wp_region_quiet_below (by kernel_rfl) (by kernel_rfl) ?_
  repeat (any_goals (first | go_big_quiet_step (exact C1 _ _) | quiet_step (exact C1 _ _)))
  refine wpQuiet_nil ?_
  intro _ hw'
  obtain ⟨⟨dq, osq⟩, hw''⟩ := hw'
  subst hw''
  have HB5 := Hid.mk (bel_then HB.out (below_regrown W dq osq))
  clear e0 e1 e2 e3 e4 e5 e6 e7 e8 e9 e10 e11 e12 e13 e14 f1 C1 HB
  generalize Sort.grow (redrawn W dq) osq = W5 at *
  go_wp2
  go_ret
  exact ⟨rfl, HB5.out⟩

set_option maxRecDepth 100000 in
set_option maxHeartbeats 1600000 in
/-- columnsOf, of a job that joins. -/
theorem columns_join (hb ho cin b o c b2 o2 c2 cb co cc q : Nat) (cs ds : List Cl) (y : ByteArray) (j : Jb) (w : World) (hcode : j.code = 7) (hj : j.cols = .slice (some ⟨cb, co, none⟩) 2 cc) (hcb : cb < w.heap.size) (s1 : w.cell? ⟨cb, co + 1, none⟩ = some (.string y)) (hhb : hb < w.heap.size) (h0 : w.cell? ⟨hb, ho, none⟩ = some (.slice (some ⟨b, o, none⟩) cs.length c)) (h1 : w.cell? ⟨hb, ho + 1, none⟩ = some (.slice (some ⟨b2, o2, none⟩) ds.length c2)) (hq : placeN ds y.data.toList = some q)
    (hn : cs.length ≤ 40) (hb1 : b < w.heap.size) (hc : ColsAt w b o cs) (hn2 : ds.length ≤ 40) (hcap : ds.length ≤ c2) (hb2 : b2 < w.heap.size) (hc2 : ColsAt w b2 o2 ds) :
    Calls Tryz.prog 36 #[.agg j.cells, .slice (some ⟨hb, ho, none⟩) 2 cin] w fun e w' => ∃ u, e = .returned u ∧ w'.ownsRow w.heap.size 60 2 u (besL cs ds q).length (colCells (besL cs ds q)) ∧ Below w.heap.size w w' := by
  have HPL := Hid.mk (fun W (hW : Below w.heap.size w W) => place_in b2 o2 ds.length c2 ds y W rfl (by omega) (by have := hW.size; omega) (hc2.below hW hb2))
  rw [place_nat hq] at HPL
  have HBS := Hid.mk (fun W (hW : Below w.heap.size w W) => besideC_in b o c b2 o2 c2 q cs ds W (by have := hW.size; omega) (hc.below hW hb1) (by have := hW.size; omega) (hc2.below hW hb2) (place_some hq) hcap (by omega) (by omega))
  have hJ := job_new w j 28
  have k4 : (w.alloc (.cells j.cells 28)).cell? ⟨w.heap.size, 4, none⟩ = some (.slice (some ⟨cb, co, none⟩) 2 cc) := by have := hJ 4 j.cols rfl; rw [hj] at this; exact this
  have hB0 := below_box w (.cells j.cells 28)
  have KP := Hid.mk (fun W (hW : Below w.heap.size w W) (hJ4 : W.cell? ⟨w.heap.size, 4, none⟩ = some (.slice (some ⟨cb, co, none⟩) 2 cc)) => And.intro ((hW.cell (p := ⟨hb, ho + 1, none⟩) hhb).trans h1) (And.intro hJ4 ((hW.cell (p := ⟨cb, co + 1, none⟩) hcb).trans s1)))
  have HK := Hid.mk k4
  clear hJ hq hc hc2 hB0 k4
  unfold Jb.cells at HK ⊢
  rw [hcode, hj] at HK ⊢
  go_enter Tryz.func36, Tryz.ntmps36
  go_wp2_with fail
  obtain ⟨W, hW⟩ : ∃ W, W = w.alloc (.cells #[.int .i64 j.at_, .int .i64 7, j.outs, j.ins, .slice (some ⟨cb, co, none⟩) 2 cc, .string j.op, .string j.left.1, .int .i64 j.left.2.1, .int .i64 j.left.2.2.1, .string j.left.2.2.2, .string j.right.1, .int .i64 j.right.2.1, .int .i64 j.right.2.2.1, .string j.right.2.2.2, .int .i64 j.retry] 28) := ⟨_, rfl⟩
  rw [← hW] at HK ⊢
  have hB0 : Below w.heap.size w W := by rw [hW]; exact below_box _ _
  have hWs : w.heap.size < W.heap.size := by rw [hW]; simp
  have HB0 := Hid.mk hB0
  obtain ⟨i0, i1, i2⟩ := KP.out W hB0 HK.out
  have KX : Hid (∀ V V' : World, Below w.heap.size w V → V.cell? ⟨w.heap.size, 4, none⟩ = some (.slice (some ⟨cb, co, none⟩) 2 cc) → w.heap.size < V.heap.size → Below V.heap.size V V' → V'.cell? ⟨hb, ho + 1, none⟩ = some (.slice (some ⟨b2, o2, none⟩) ds.length c2) ∧ V'.cell? ⟨w.heap.size, 4, none⟩ = some (.slice (some ⟨cb, co, none⟩) 2 cc) ∧ V'.cell? ⟨cb, co + 1, none⟩ = some (.string y)) := Hid.mk (fun V V' h1 h2 h3 h4 => KP.out V' (bel_then h1 h4) ((h4.cell (p := ⟨w.heap.size, 4, none⟩) h3).trans h2))
  clear hW hB0 h0 h1 s1
  go_region_held3 (fun w' => w'.cell? ⟨hb, ho + 1, none⟩ = some (.slice (some ⟨b2, o2, none⟩) ds.length c2) ∧ w'.cell? ⟨w.heap.size, 4, none⟩ = some (.slice (some ⟨cb, co, none⟩) 2 cc) ∧ w'.cell? ⟨cb, co + 1, none⟩ = some (.string y))
    (first | (go_keep; done) | exact ⟨m0, m1, m2⟩ | exact ⟨k0, k1, k2⟩)
    (first | (go_at_call 71; refine (HPL.out _ HB0.out.drew).mono ?_; rintro e w1 ⟨rfl, hb1'⟩; obtain ⟨k0, k1, k2⟩ := KX.out W.drew w1 HB0.out.drew HK.out hWs hb1'; have HB1 := Hid.mk (bel_then HB0.out.drew hb1'); have hs1 : W.heap.size ≤ w1.heap.size := hb1'.size) | (go_at_call 70; refine (HBS.out _ HB1.out).mono ?_; rintro e w2 ⟨v2, rfl, ho2, hb2'⟩; obtain ⟨m0, m1, m2⟩ := KX.out w1 w2 HB1.out k1 (by omega) hb2'; have HB2 := Hid.mk (bel_then HB1.out hb2')))
  go_wp2
  go_ret
  exact ⟨_, rfl, own_mono (by omega) ho2, HB2.out⟩
end Go.Proofs.YtjceppinfjbegaaGreatDoor

