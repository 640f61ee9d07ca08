import Derived.Test.YtccbjhaebajamaaGreatDoorWalkE
set_option linter.unusedSimpArgs false
set_option linter.unusedVariables false
namespace Go.Proofs.YtccbjhaebajamaaGreatDoor
open Go.RowKit

abbrev Vl := Int × Int × ByteArray
abbrev Cl := ByteArray × Int

/-- Where a row of values lies. -/
def ValsAt (w : World) (b o : Nat) (vs : List Vl) : Prop :=
  ∀ (j : Nat) (h : j < vs.length), w.cell? ⟨b, o + j * 3, none⟩ = some (.int .i64 vs[j].1) ∧ w.cell? ⟨b, o + j * 3 + 1, none⟩ = some (.int .i64 vs[j].2.1) ∧ w.cell? ⟨b, o + j * 3 + 2, none⟩ = some (.string vs[j].2.2)

theorem ValsAt.below {w w' : World} {B b o : Nat} {vs : List Vl} (h : ValsAt w b o vs) (hb : Below B w w') (hB : b < B) : ValsAt w' b o vs :=
  fun j hj => ⟨(hb.cell (p := ⟨b, o + j * 3, none⟩) hB).trans (h j hj).1, (hb.cell (p := ⟨b, o + j * 3 + 1, none⟩) hB).trans (h j hj).2.1, (hb.cell (p := ⟨b, o + j * 3 + 2, none⟩) hB).trans (h j hj).2.2⟩

def ColsIs (w : World) (v : Value) (cs : List Cl) : Prop :=
  ∃ a c, v = .slice a cs.length c ∧ cs.length ≤ c ∧ (∀ x ∈ cs, x.1.size ≤ maxLen) ∧ (cs = [] ∨ ∃ b o, a = some ⟨b, o, none⟩ ∧ b < w.heap.size ∧ ColsAt w b o cs)
def RowIs (w : World) (v : Value) (vs : List Vl) : Prop :=
  ∃ a c, v = .slice a vs.length c ∧ (∀ x ∈ vs, x.2.2.size ≤ maxLen) ∧ (vs = [] ∨ ∃ b o, a = some ⟨b, o, none⟩ ∧ b < w.heap.size ∧ ValsAt w b o vs)
def RowsAt (w : World) (b o : Nat) (rs : List (List Vl)) : Prop := ∀ (j : Nat) (h : j < rs.length), ∃ u, w.cell? ⟨b, o + j, none⟩ = some u ∧ RowIs w u rs[j]
def RowsIs (w : World) (v : Value) (rs : List (List Vl)) : Prop :=
  ∃ a c, v = .slice a rs.length c ∧ (rs = [] ∨ ∃ b o, a = some ⟨b, o, none⟩ ∧ b < w.heap.size ∧ RowsAt w b o rs)

theorem ColsIs.below {w w' : World} {v : Value} {cs : List Cl} (h : ColsIs w v cs) (hb : Below w.heap.size w w') : ColsIs w' v cs := by
  obtain ⟨a, c, e, hc, hs, h⟩ := h
  refine ⟨a, c, e, hc, hs, ?_⟩
  rcases h with h | ⟨b, o, e2, hl, hat⟩
  · exact Or.inl h
  · exact Or.inr ⟨b, o, e2, Nat.lt_of_lt_of_le hl hb.size, hat.below hb hl⟩
theorem RowIs.below {w w' : World} {v : Value} {vs : List Vl} (h : RowIs w v vs) (hb : Below w.heap.size w w') : RowIs w' v vs := by
  obtain ⟨a, c, e, hs, h⟩ := h
  refine ⟨a, c, e, hs, ?_⟩
  rcases h with h | ⟨b, o, e2, hl, hat⟩
  · exact Or.inl h
  · exact Or.inr ⟨b, o, e2, Nat.lt_of_lt_of_le hl hb.size, hat.below hb hl⟩
theorem RowsAt.below {w w' : World} {b o : Nat} {rs : List (List Vl)} (h : RowsAt w b o rs) (hb : Below w.heap.size w w') (hl : b < w.heap.size) : RowsAt w' b o rs := fun j hj => by
  obtain ⟨u, h1, h2⟩ := h j hj
  exact ⟨u, (hb.cell (p := ⟨b, o + j, none⟩) hl).trans h1, h2.below hb⟩
theorem RowsIs.below {w w' : World} {v : Value} {rs : List (List Vl)} (h : RowsIs w v rs) (hb : Below w.heap.size w w') : RowsIs w' v rs := by
  obtain ⟨a, c, e, h⟩ := h
  refine ⟨a, c, e, ?_⟩
  rcases h with h | ⟨b, o, e2, hl, hat⟩
  · exact Or.inl h
  · exact Or.inr ⟨b, o, e2, Nat.lt_of_lt_of_le hl hb.size, hat.below hb hl⟩

set_option maxHeartbeats 400000 in
theorem rightCols_any (v : Value) (cs : List Cl) (w : World) (h : ColsIs w v cs) :
    Calls Tryz.prog 34 #[v] w fun e w' => e = .returned (.bool (rightColsB cs)) ∧ Below w.heap.size w w' := by
  obtain ⟨a, c, rfl, hc, hs, h⟩ := h
  by_cases h1 : 1 ≤ cs.length
  · by_cases h6 : cs.length ≤ 6
    · rcases h with h | ⟨b, o, rfl, hl, hat⟩
      · rw [h] at h1; simp at h1
      · exact rightCols_in b o cs.length c cs w rfl h1 h6 hc hl hat hs
    · have hr : rightColsB cs = false := by simp [rightColsB, h6]
      rw [hr]
      clear hr h hs
      generalize cs.length = n at *
      have e0 : ((n : Int) == 0) = false := by simp; omega
      go_enter Tryz.func34, Tryz.ntmps34
      go_wp2
      go_ret
      exact ⟨rfl, Below.refl _ _⟩
  · have hr : rightColsB cs = false := by simp [rightColsB, h1]
    have h0 : cs.length = 0 := by omega
    rw [hr, h0]
    clear hr h hs h0
    go_enter Tryz.func34, Tryz.ntmps34
    go_wp2
    go_ret
    exact ⟨rfl, Below.refl _ _⟩

def rvB (x : Vl) : Bool := rightValueB x.1 x.2.1 x.2.2.data.toList
def rowOK : List Vl → List Cl → Bool
  | [], [] => true
  | v :: r, c :: q => v.1 == c.2 && (rvB v && rowOK r q)
  | _, _ => false

theorem rowOK_lens : ∀ (vs : List Vl) (cs : List Cl), vs.length ≠ cs.length → rowOK vs cs = false
  | [], [], h => absurd rfl h
  | [], _ :: _, _ => rfl
  | _ :: _, [], _ => rfl
  | v :: r, c :: q, h => by
    rw [rowOK, rowOK_lens r q (by simpa using h)]; simp
theorem rowOK_step (vs : List Vl) (cs : List Cl) (k : Nat) (h : k < vs.length) (h' : k < cs.length) : rowOK (vs.drop k) (cs.drop k) = (vs[k].1 == cs[k].2 && (rvB vs[k] && rowOK (vs.drop (k + 1)) (cs.drop (k + 1)))) := by
  rw [List.drop_eq_getElem_cons h, List.drop_eq_getElem_cons h']; rfl

theorem rightValue_vl (x : Vl) (w : World) (hs : x.2.2.size ≤ maxLen) :
    Calls Tryz.prog 57 #[.agg #[.int .i64 x.1, .int .i64 x.2.1, .string x.2.2]] w fun e w' => e = .returned (.bool (rvB x)) ∧ Below w.heap.size w w' := rightValue_any _ _ _ _ hs

set_option maxHeartbeats 400000 in
theorem rightRow_lens (a a' : Option Addr) (n c n' c' : Nat) (w : World) (h : n ≠ n') :
    Calls Tryz.prog 35 #[.slice a n c, .slice a' n' c'] w fun e w' => e = .returned (.bool false) ∧ Below w.heap.size w w' := by
  have e0 : ((n : Int) != (n' : Int)) = true := by simp; omega
  go_enter Tryz.func35, Tryz.ntmps35
  go_wp2
  go_ret
  exact ⟨rfl, Below.refl _ _⟩

set_option maxHeartbeats 1600000 in
theorem rightRow_in (b o c b' o' c' n : Nat) (vs : List Vl) (cs : List Cl) (w : World) (hn : vs.length = n) (hn' : cs.length = n) (h6 : n ≤ 100) (hb : b < w.heap.size) (hb' : b' < w.heap.size) (hv : ValsAt w b o vs) (hc : ColsAt w b' o' cs) (hs : ∀ x ∈ vs, x.2.2.size ≤ maxLen) :
    Calls Tryz.prog 35 #[.slice (some ⟨b, o, none⟩) n c, .slice (some ⟨b', o', none⟩) n c'] w fun e w' => e = .returned (.bool (rowOK vs cs)) ∧ Below w.heap.size w w' := by
  have HN := Hid.mk hn
  have HN' := Hid.mk hn'
  clear hn hn'
  go_enter Tryz.func35, Tryz.ntmps35
  go_wp2
  go_loopw [14] (fun i wr => ∃ k : Nat, k ≤ n ∧ i = .int .i64 k ∧ rowOK vs cs = rowOK (vs.drop k) (cs.drop k) ∧ Below w.heap.size w wr) (fun i _ => n - (intOf i).toNat)
  case atStart => exact ⟨0, Nat.zero_le _, rfl, rfl, Below.refl _ _⟩
  case round =>
    obtain ⟨k, hk, rfl, hal, hnx⟩ := hrel
    have HA := Hid.mk hal
    clear hal
    by_cases hlt : k < n
    · have hk2 : k < vs.length := by have := HN.out; omega
      have hk3 : k < cs.length := by have := HN'.out; omega
      obtain ⟨c1, c2, c3⟩ := hv k hk2
      have d1 := (hnx.cell (p := ⟨b, o + k * 3, none⟩) hb).trans c1
      have d2 := (hnx.cell (p := ⟨b, o + k * 3 + 1, none⟩) hb).trans c2
      have d3 := (hnx.cell (p := ⟨b, o + k * 3 + 2, none⟩) hb).trans c3
      obtain ⟨_, c5⟩ := hc k hk3
      have d5 := (hnx.cell (p := ⟨b', o' + k * 2 + 1, none⟩) hb').trans c5
      clear c1 c2 c3 c5
      have hbr' : b' < wr.heap.size := by have := hnx.size; omega
      have hsk : vs[k].2.2.size ≤ maxLen := hs _ (List.getElem_mem hk2)
      have HS := Hid.mk (rowOK_step vs cs k hk2 hk3)
      have k1 := cell_regrown (w := wr.alloc (.cells #[.int .i64 vs[k].1, .int .i64 vs[k].2.1, .string vs[k].2.2] 32)) (a := ⟨wr.heap.size, 0, none⟩) (v := .int .i64 vs[k].1) (by simp)
      have k2 := cell_regrown (w := wr.alloc (.cells #[.int .i64 vs[k].1, .int .i64 vs[k].2.1, .string vs[k].2.2] 32)) (a := ⟨wr.heap.size, 1, none⟩) (v := .int .i64 vs[k].2.1) (by simp)
      have k3 := cell_regrown (w := wr.alloc (.cells #[.int .i64 vs[k].1, .int .i64 vs[k].2.1, .string vs[k].2.2] 32)) (a := ⟨wr.heap.size, 2, none⟩) (v := .string vs[k].2.2) (by simp)
      have k5 := cell_regrown (w := wr.alloc (.cells #[.int .i64 vs[k].1, .int .i64 vs[k].2.1, .string vs[k].2.2] 32)) (a := ⟨b', o' + k * 2 + 1, none⟩) (v := .int .i64 cs[k].2) (by rw [World.cell?_alloc_past _ _ _ hbr']; exact d5)
      have cV : ∀ d os, _ := fun d os => Calls.regrown_of (rightValue_vl vs[k] (Sort.grow (redrawn (wr.alloc (.cells #[.int .i64 vs[k].1, .int .i64 vs[k].2.1, .string vs[k].2.2] 32)) d) os) hsk)
      cases g1 : (vs[k].1 != cs[k].2)
      · cases g2 : rvB vs[k]
        all_goals simp only [g2] at cV
        all_goals
          go_wp2
          refine wp_region_quiet_below (by kernel_rfl) (by kernel_rfl) ?_
          repeat (any_goals (first | go_big_quiet_step (exact cV _ _) | quiet_step (exact cV _ _)))
          refine wpQuiet_nil ?_
          intro _ hw'
          obtain ⟨⟨dq, osq⟩, hw''⟩ := hw'
          subst hw''
        · go_wp2
          go_ret
          exact ⟨ret_bool (by rw [HA.out, HS.out, g2]; simp), hnx.trans ((below_box _ _).mono hnx.size |>.trans ((below_regrown _ dq osq).mono (by simp; have := hnx.size; omega)))⟩
        · go_wp2
          go_roundw
          case rel => exact ⟨k + 1, by omega, by go_num, by rw [HA.out, HS.out, g2]; simp only [bne_eq_false_iff_eq] at g1; rw [g1]; simp, hnx.trans ((below_box _ _).mono hnx.size |>.trans ((below_regrown _ dq osq).mono (by simp; have := hnx.size; omega)))⟩
          case measure => simp [intOf]; omega
      · go_wp2
        refine wp_region_quiet_below (by kernel_rfl) (by kernel_rfl) ?_
        repeat (any_goals (first | go_big_quiet_step (exact cV _ _) | quiet_step (exact cV _ _)))
        refine wpQuiet_nil ?_
        intro _ hw'
        obtain ⟨⟨dq, osq⟩, hw''⟩ := hw'
        subst hw''
        go_wp2
        go_ret
        exact ⟨ret_bool (by rw [HA.out, HS.out]; simp only [bne_iff_ne] at g1; simp [g1]), hnx.trans ((below_box _ _).mono hnx.size |>.trans ((below_regrown _ dq osq).mono (by simp; have := hnx.size; omega)))⟩
    · go_wp2
      go_ret
      exact ⟨ret_bool (by rw [HA.out, List.drop_eq_nil_of_le (by have := HN.out; omega), List.drop_eq_nil_of_le (by have := HN'.out; omega)]; rfl), hnx⟩
end Go.Proofs.YtccbjhaebajamaaGreatDoor
