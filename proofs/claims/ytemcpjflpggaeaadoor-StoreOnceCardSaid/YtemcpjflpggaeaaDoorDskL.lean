import Derived.Test.YtemcpjflpggaeaaDoorDskB
import Derived.Test.YtemcpjflpggaeaaDoorRows
import Derived.ProofKit
import Derived.OpenShut
import Derived.Lay
import Derived.LaidLaws
import Derived.LaidHandle
import Derived.Stop.Joined
import Derived.Deep.DeepHandedRow
import Derived.Deep.SlicePairs
import Derived.Deep.Strs
import Derived.Lib.SmallJoins
set_option linter.unusedSimpArgs false
set_option linter.unusedVariables false
namespace Go.Proofs.YtemcpjflpggaeaaDoor.Dk
open Go.ChangeShapes Go.WideShapes Go.ChangeAt Go.RowKit Go.Joins Go.Deep

theorem own : ownKnob Tryd.prog.godebug = none := by kernel_rfl
theorem plain_addr {W : World} {a : Addr} {v : Value} (h : W.cell? (a.add 0) = some v) : ∃ b o, a = ⟨b, o, none⟩ := by
  obtain ⟨b, o, s⟩ := a
  have hs : s = none := by simpa [Addr.add] using World.cell?_spot h
  exact ⟨b, o, by rw [hs]⟩
/-- A list of things of one cell each, opened. -/
theorem open_lst {α : Type} [Inhabited α] {H : Type} {enc : TypeId × Value → H} {W : World} {n : Nat} {v : Value} {x : DataW H × List MemPlace} (tS tE : TypeId) (hu : Tryd.prog.underlying tS = some (.slice tE)) (hc : Tryd.prog.cellsOf tE = 1) (mk : α → Value) (ok : α → Prop)
    (each : ∀ (k : Nat) (u : Value) (y : DataW H × List MemPlace), DataW.trod enc Tryd.prog W 0 (fun _ => true) true k tE [u] = some y → ∃ a, u = mk a ∧ ok a)
    (h : DataW.trod enc Tryd.prog W 0 (fun _ => true) true n tS [v] = some x) : ∃ l : List α, Lst W v (l.map mk) ∧ ∀ a ∈ l, ok a := by
  rcases open_slice1 hu hc h with ⟨h0, -⟩ | ⟨a, len, cap, m, k, V, D, Pl, h0, -, hl, hm, hmm, -, hx⟩
  · exact ⟨[], ⟨none, 0, by simpa using h0, Or.inl rfl⟩, by simp⟩
  · have hmm' : m = cap := by simpa using hmm
    obtain ⟨q, hq⟩ := choose_lt (n := len) (p := fun i r => V i = mk r ∧ ok r) (fun i hi => each _ _ _ (hx i (by omega)).2)
    refine ⟨(List.range len).map q, ⟨some a, cap, by simpa using h0, ?_⟩, ?_⟩
    · by_cases hz : len = 0
      · exact Or.inl (by rw [hz]; rfl)
      · have c0 := (hx 0 (by omega)).1
        obtain ⟨b, o, rfl⟩ := plain_addr c0
        refine Or.inr ⟨b, o, rfl, World.block_lt_of_cell? W _ c0, fun j u hj => ?_⟩
        have hj2 : j < len := by
          have := (List.getElem?_eq_some_iff.1 hj).1
          simpa using this
        have d := (hx j (by omega)).1
        rw [Addr.add_mid] at d
        rw [d]
        simp [hj2] at hj
        rw [← hj, (hq j hj2).1]
    · intro y hy
      rw [List.mem_map] at hy
      obtain ⟨i, hi, rfl⟩ := hy
      exact (hq i (List.mem_range.1 hi)).2
theorem open_strs' {H : Type} {enc : TypeId × Value → H} {W : World} {n : Nat} {v : Value} {x : DataW H × List MemPlace} (h : DataW.trod enc Tryd.prog W 0 (fun _ => true) true n 22 [v] = some x) : ∃ l : List ByteArray, Lst W v (l.map Value.string) ∧ ∀ s ∈ l, s.size ≤ maxLen :=
  open_lst 22 9 Tryd.underlying22 (by kernel_rfl) Value.string (fun s => s.size ≤ maxLen) (fun k u y hy => by
    obtain ⟨s, e, -, w⟩ := DataW.trod_string Tryd.underlying9 hy
    exact ⟨s, by simpa using e, w⟩) h
theorem open_ints' {H : Type} {enc : TypeId × Value → H} {W : World} {n : Nat} {v : Value} {x : DataW H × List MemPlace} (h : DataW.trod enc Tryd.prog W 0 (fun _ => true) true n 23 [v] = some x) : ∃ l : List Int, Lst W v (l.map (Value.int .i64)) ∧ ∀ s ∈ l, -9223372036854775808 ≤ s ∧ s ≤ 9223372036854775807 :=
  open_lst 23 3 Tryd.underlying23 (by kernel_rfl) (Value.int .i64) (fun s => -9223372036854775808 ≤ s ∧ s ≤ 9223372036854775807) (fun k u y hy => by
    obtain ⟨s, e, -, w⟩ := DataW.trod_int Tryd.underlying3 hy
    exact ⟨s, by simpa using e, by simpa [Lit.wf, IntKind.min, IntKind.max, IntKind.signed, IntKind.bits] using w⟩) h
theorem open_bools' {H : Type} {enc : TypeId × Value → H} {W : World} {n : Nat} {v : Value} {x : DataW H × List MemPlace} (h : DataW.trod enc Tryd.prog W 0 (fun _ => true) true n 24 [v] = some x) : ∃ l : List Bool, Lst W v (l.map Value.bool) ∧ ∀ s ∈ l, True :=
  open_lst 24 4 Tryd.underlying24 (by kernel_rfl) Value.bool (fun _ => True) (fun k u y hy => by
    obtain ⟨s, e, -⟩ := DataW.trod_bool Tryd.underlying4 hy
    exact ⟨s, by simpa using e, trivial⟩) h
theorem et : Tryd.prog.globalNamed "errors.errorType" = some 0 := by kernel_rfl
theorem rt : (Tryd.prog.cutTypes.find? (·.1 == "internal/reflectlite.rtype")).map (·.2) = some 139 := by kernel_rfl
theorem tsize : Tryd.prog.types.size = 188 := by kernel_rfl
theorem oneRow : ((List.range 188).filter fun t => Tryd.prog.rowNamed t [101, 114, 114, 111, 114]) = [30] := by kernel_rfl
/-- What the listed variable gives. -/
theorem handle_of {l : List (String × DataW Unit)} {W : World} (hm0 : ("errors.errorType", Rows.laid_errors_errorType) ∈ l) (h : handlesMet Tryd.prog l W) : W.cell? ⟨0, 0, none⟩ = some (.iface 139 (.agg #[.pointer (some ⟨5, 30, none⟩)])) := by
  obtain ⟨name, u, ty, e1, e2, e3, e4, e5⟩ := h _ hm0
  have en : name = [101, 114, 114, 111, 114] := (Option.some.inj e1).symm
  subst en
  obtain rfl := Option.some.inj (rt.symm.trans e2)
  have hm : ty ∈ (List.range 188).filter fun t => Tryd.prog.rowNamed t [101, 114, 114, 111, 114] := List.mem_filter.2 ⟨List.mem_range.2 (by rw [← tsize]; exact e3), e4⟩
  rw [oneRow] at hm
  obtain rfl := List.mem_singleton.1 hm
  have hh : typeHandle Tryd.prog 30 = .pointer (some ⟨5, 30, none⟩) := by kernel_rfl
  rw [hh] at e5
  simpa using World.var?_cell et e5 0
end Go.Proofs.YtemcpjflpggaeaaDoor.Dk
