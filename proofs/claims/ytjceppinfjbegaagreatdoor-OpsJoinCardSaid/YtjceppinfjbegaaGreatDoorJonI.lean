import Derived.Test.YtjceppinfjbegaaGreatDoorJonH
import Derived.Test.YtjceppinfjbegaaGreatDoorSetA
import Derived.Test.YtjceppinfjbegaaGreatDoorSetR
set_option linter.unusedSimpArgs false
set_option linter.unusedVariables false
namespace Go.Proofs.YtjceppinfjbegaaGreatDoor
open Go.RowKit

abbrev Gr := Vl × Int
def grpCells (gs : List Gr) : List Value := gs.flatMap fun g => [.int .i64 g.1.1, .int .i64 g.1.2.1, .string g.1.2.2, .int .i64 g.2]
theorem Tryz.infoGrp : (Tryz.prog.info? 181).map (fun i => (i.zero, i.size, i.bytes)) = some (some (.agg #[.int .i64 0, .int .i64 0, .string ⟨#[]⟩, .int .i64 0]), 4, 40) := by kernel_rfl
theorem grpCells_len (gs : List Gr) : (grpCells gs).length = gs.length * 4 := by
  induction gs with
  | nil => rfl
  | cons c r ih => simp only [grpCells, List.flatMap_cons, List.length_append, List.length_cons, List.length_nil] at ih ⊢; omega
theorem grpCells_app (a b : List Gr) : grpCells (a ++ b) = grpCells a ++ grpCells b := by simp [grpCells]
/-- One row more. -/
def stepG (p q : Nat) (gs : List Gr) (r : List Vl) : List Gr :=
  match gs.getLast? with
  | none => [(vAt r p, (vAt r q).2.1)]
  | some g => if g.1 = vAt r p then gs.dropLast ++ [(g.1, g.2 + (vAt r q).2.1)] else gs ++ [(vAt r p, (vAt r q).2.1)]
def grpL (p q : Nat) (rs : List (List Vl)) : List Gr := rs.foldl (stepG p q) []
/-- What the groups' rows are. -/
def grpRows (gs : List Gr) : List (List Vl) := gs.map fun g => [g.1, (1, g.2, ⟨#[]⟩)]
theorem stepG_new {p q : Nat} {gs : List Gr} {r : List Vl} (h : ∀ g, gs.getLast? = some g → g.1 ≠ vAt r p) : stepG p q gs r = gs ++ [(vAt r p, (vAt r q).2.1)] := by
  unfold stepG
  cases e : gs.getLast? with
  | none => rw [List.getLast?_eq_none_iff] at e; subst e; rfl
  | some g => simp only []; rw [if_neg (h g e)]
theorem stepG_old {p q : Nat} {gs : List Gr} {g : Gr} {r : List Vl} (h : g.1 = vAt r p) : stepG p q (gs ++ [g]) r = gs ++ [(g.1, g.2 + (vAt r q).2.1)] := by
  unfold stepG
  simp [h]
theorem stepG_len (p q : Nat) (gs : List Gr) (r : List Vl) : (stepG p q gs r).length ≤ gs.length + 1 := by
  unfold stepG
  cases e : gs.getLast? with
  | none => simp
  | some g =>
    simp only []
    split
    · simp
    · simp
theorem grp_at {w : World} {B : Nat} {gs : List Gr} {g : Gr} {c : Nat} {a : Option Addr} (h : w.ownsRow B 181 4 (.slice a (gs.length + 1) c) (gs.length + 1) (grpCells (gs ++ [g]))) : ∃ b, a = some ⟨b, 0, none⟩ ∧ B ≤ b ∧ b < w.heap.size ∧ w.cell? ⟨b, gs.length * 4, none⟩ = some (.int .i64 g.1.1) ∧ w.cell? ⟨b, gs.length * 4 + 1, none⟩ = some (.int .i64 g.1.2.1) ∧ w.cell? ⟨b, gs.length * 4 + 2, none⟩ = some (.string g.1.2.2) ∧ w.cell? ⟨b, gs.length * 4 + 3, none⟩ = some (.int .i64 g.2) ∧ ∀ k, w.frozen? ⟨b, k, none⟩ = false := by
  have hfz : ∀ b', a = some ⟨b', 0, none⟩ → ∀ k, w.frozen? ⟨b', k, none⟩ = false := by
    intro b' hb' k
    obtain ⟨-, ⟨-, h0⟩ | ⟨g', cap', cur', hve, -, hh, -⟩⟩ := h
    · omega
    · rw [hb'] at hve
      simp only [Value.slice.injEq, Option.some.injEq, Addr.mk.injEq] at hve
      obtain ⟨⟨rfl, -⟩, -, -⟩ := hve
      simp [World.frozen?, hh]
  obtain ⟨b, c', e, hB, hl, hc⟩ := tab_cells h (by omega)
  simp only [Value.slice.injEq] at e
  have hk : ∀ k (hk4 : k < 4) y, ([Value.int .i64 g.1.1, .int .i64 g.1.2.1, .string g.1.2.2, .int .i64 g.2])[k]? = some y → w.cell? ⟨b, gs.length * 4 + k, none⟩ = some y := by
    intro k hk4 y hy
    have := hc (gs.length * 4 + k) y (by rw [grpCells_app, List.getElem?_append_right (by rw [grpCells_len]; omega), grpCells_len]; simpa [grpCells] using hy)
    simpa using this
  exact ⟨b, e.1, hB, hl, hk 0 (by omega) _ rfl, hk 1 (by omega) _ rfl, hk 2 (by omega) _ rfl, hk 3 (by omega) _ rfl, hfz b e.1⟩
theorem grp_put {w : World} {B b c : Nat} {gs : List Gr} {g : Gr} (h : w.ownsRow B 181 4 (.slice (some ⟨b, 0, none⟩) (gs.length + 1) c) (gs.length + 1) (grpCells (gs ++ [g]))) (t : Int) : (w.setCell ⟨b, gs.length * 4 + 3, none⟩ (.int .i64 t)).ownsRow B 181 4 (.slice (some ⟨b, 0, none⟩) (gs.length + 1) c) (gs.length + 1) (grpCells (gs ++ [(g.1, t)])) := by
  have e : grpCells (gs ++ [(g.1, t)]) = (grpCells (gs ++ [g])).set (gs.length * 4 + 3) (.int .i64 t) := by
    rw [grpCells_app, grpCells_app, List.set_append_right _ _ (by rw [grpCells_len]; omega), grpCells_len, show gs.length * 4 + 3 - gs.length * 4 = 3 by omega]
    rfl
  rw [e]
  exact (h.stored _ _).1

theorem foldG_step (p q : Nat) (rs : List (List Vl)) (k : Nat) (h : k < rs.length) : grpL p q (rs.take (k + 1)) = stepG p q (grpL p q (rs.take k)) rs[k] := by
  unfold grpL
  rw [List.take_succ_eq_append_getElem h, List.foldl_append]
  rfl
theorem foldG_len (p q : Nat) (rs : List (List Vl)) : (grpL p q rs).length ≤ rs.length := by
  have key : ∀ (l : List (List Vl)) (acc : List Gr), (l.foldl (stepG p q) acc).length ≤ acc.length + l.length := by
    intro l
    induction l with
    | nil => intro acc; simp
    | cons r l ih =>
      intro acc
      have h1 := ih (stepG p q acc r)
      have h2 := stepG_len p q acc r
      simp only [List.foldl_cons, List.length_cons]
      omega
  have h := key rs []
  rw [List.length_nil, Nat.zero_add] at h
  exact h
/-- The sums stay small. -/
theorem foldG_small (p q : Nat) (rs : List (List Vl)) (hq : ∀ r ∈ rs, inNum (vAt r q).2.1) : ∀ g ∈ grpL p q rs, -(1000000000 * (rs.length : Int)) ≤ g.2 ∧ g.2 ≤ 1000000000 * (rs.length : Int) := by
  have key : ∀ (l : List (List Vl)) (acc : List Gr) (N : Int), 0 ≤ N → (∀ r ∈ l, inNum (vAt r q).2.1) → (∀ g ∈ acc, -(1000000000 * N) ≤ g.2 ∧ g.2 ≤ 1000000000 * N) → ∀ g ∈ l.foldl (stepG p q) acc, -(1000000000 * (N + (l.length : Int))) ≤ g.2 ∧ g.2 ≤ 1000000000 * (N + (l.length : Int)) := by
    intro l
    induction l with
    | nil => intro acc N _ _ h g hg; simpa using h g hg
    | cons r l ih =>
      intro acc N hN hr h g hg
      have hr0 := hr r (by simp)
      unfold inNum at hr0
      have h' := ih (stepG p q acc r) (N + 1) (by omega) (fun x hx => hr x (by simp [hx])) (fun g' hg' => by
        unfold stepG at hg'
        cases e : acc.getLast? with
        | none =>
          rw [e] at hg'
          simp at hg'
          rw [hg']
          simp only
          omega
        | some g0 =>
          rw [e] at hg'
          simp only [] at hg'
          have hm0 := h g0 (List.mem_of_getLast? e)
          split at hg'
          · rcases List.mem_append.1 hg' with hg' | hg'
            · have := h g' ((List.dropLast_sublist _).subset hg')
              omega
            · simp at hg'
              rw [hg']
              simp only
              omega
          · rcases List.mem_append.1 hg' with hg' | hg'
            · have := h g' hg'
              omega
            · simp at hg'
              rw [hg']
              simp only
              omega) g (by simpa using hg)
      simp only [List.length_cons]
      push_cast
      omega
  intro g hg
  have := key rs [] 0 (by omega) hq (fun g hg => by simp at hg) g hg
  simpa using this
end Go.Proofs.YtjceppinfjbegaaGreatDoor

