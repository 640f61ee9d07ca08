import Derived.Test.YtgmngifnilmheaaDoorDskS
import Derived.Test.YtgmngifnilmheaaDoorDskL
set_option linter.unusedSimpArgs false
set_option linter.unusedVariables false
namespace Go.Proofs.YtgmngifnilmheaaDoor.Dk
open Go.ChangeShapes Go.WideShapes Go.ChangeAt Go.RowKit Go.Joins Go.Deep

set_option maxRecDepth 100000 in
/-- A script, opened. -/
theorem open_ops {H : Type} {enc : TypeId × Value → H} {W : World} {n : Nat} {v : Value} {x : DataW H × List MemPlace} (h : DataW.trod enc Tryd.prog W 0 (fun _ => true) true n 22 [v] = some x) : ∃ l, OpsIs W v l := by
  rcases open_slice Tryd.underlying22 h with ⟨h0, -⟩ | ⟨a, len, cap, m, k, D, Pl, h0, -, hl, hm, hmm, -, hx⟩
  · exact ⟨[], none, 0, by simpa using h0, Or.inl rfl, by simp⟩
  · have hmm' : m = cap := by simpa using hmm
    have ce : Tryd.prog.cellsOf 35 = 4 := by kernel_rfl
    have cs1 : Tryd.prog.cellsOf 9 = 1 := by kernel_rfl
    have ci1 : Tryd.prog.cellsOf 3 = 1 := by kernel_rfl
    have cb1 : Tryd.prog.cellsOf 33 = 1 := by kernel_rfl
    rw [ce] at hx
    have each : ∀ i, i < len → ∃ q : Int × Int × ByteArray × Value × List Bool, OpOk W ⟨q.1, q.2.1, q.2.2.1, q.2.2.2.1, q.2.2.2.2⟩ ∧ W.cell? (a.add (i * 4)) = some (.int .i64 q.1) ∧ W.cell? (a.add (i * 4 + 1)) = some (.int .i64 q.2.1) ∧ W.cell? (a.add (i * 4 + 2)) = some (.string q.2.2.1) ∧ W.cell? (a.add (i * 4 + 3)) = some q.2.2.2.1 := by
      intro i hi
      obtain ⟨cs', h1, h2⟩ := hx i (by omega)
      obtain ⟨_, hlen, hcell⟩ := World.cells?_some h1
      obtain ⟨y0, y1, y2, y3, n2, -, -, g0, g1, g2, g3⟩ := trod_struct4 Tryd.underlying35 h2
      match cs', hlen, hcell, g0, g1, g2, g3 with
      | [v0, v1, v2, v3], _, hcell, g0, g1, g2, g3 =>
        simp only [cs1, ci1, cb1] at g0 g1 g2 g3
        obtain ⟨k0, e0, -, -⟩ := DataW.trod_int Tryd.underlying3 g0
        obtain ⟨k1, e1, -, w1⟩ := DataW.trod_int Tryd.underlying3 g1
        obtain ⟨s2, e2, -, w2⟩ := DataW.trod_string Tryd.underlying9 g2
        obtain ⟨ks, hks, -⟩ := open_bools' g3
        simp at e0 e1 e2
        subst e0 e1 e2
        have w1' : -9223372036854775808 ≤ k1 ∧ k1 ≤ 9223372036854775807 := by simpa [Lit.wf, IntKind.min, IntKind.max, IntKind.signed, IntKind.bits] using w1
        have d0 := hcell 0 (by omega)
        have d1 := hcell 1 (by omega)
        have d2 := hcell 2 (by omega)
        have d3 := hcell 3 (by omega)
        rw [add_add] at d0 d1 d2 d3
        exact ⟨(k0, k1, s2, v3, ks), ⟨w2, w1'.1, w1'.2, hks⟩, by simpa using d0, by simpa using d1, by simpa using d2, by simpa using d3⟩
    obtain ⟨q, hq⟩ := choose_lt each
    refine ⟨(List.range len).map fun i => ⟨(q i).1, (q i).2.1, (q i).2.2.1, (q i).2.2.2.1, (q i).2.2.2.2⟩, some a, cap, by simpa using h0, ?_, ?_⟩
    · by_cases hz : len = 0
      · exact Or.inl (by rw [hz]; rfl)
      · have c0 := (hq 0 (by omega)).2.1
        rw [Nat.zero_mul] at c0
        obtain ⟨b, o, rfl⟩ := plain_addr c0
        refine Or.inr ⟨b, o, rfl, World.block_lt_of_cell? W _ c0, fun j hj => ?_⟩
        rw [List.length_map, List.length_range] at hj
        obtain ⟨-, d0, d1, d2, d3⟩ := hq j hj
        rw [Addr.add_mid] at d0 d1 d2 d3
        simp only [List.getElem_map, List.getElem_range]
        intro i u hu
        match i, hu with
        | 0, hu => simp [opc] at hu; rw [← hu]; exact d0
        | 1, hu => simp [opc] at hu; rw [← hu, Nat.add_assoc]; exact d1
        | 2, hu => simp [opc] at hu; rw [← hu, Nat.add_assoc]; exact d2
        | 3, hu => simp [opc] at hu; rw [← hu, Nat.add_assoc]; exact d3
        | i + 4, hu => simp [opc] at hu
    · intro y hy
      rw [List.mem_map] at hy
      obtain ⟨i, hi, rfl⟩ := hy
      exact (hq i (List.mem_range.1 hi)).1
set_option maxHeartbeats 800000 in
theorem keeps_long (n : Int) (v : Value) (l : List Opn) (W : World) (hl : OpsIs W v l) (h40 : 40 < l.length) :
    Calls Tryd.prog 3 #[.int .i64 n, v] W fun e w' => e = .returned (.bool true) ∧ Below W.heap.size W w' := by
  obtain ⟨a, c, rfl, -, -⟩ := hl
  have h40I : decide ((40 : Int) < (l.length : Int)) = true := by simp; omega
  obtain ⟨m, hm⟩ : ∃ m, l.length = m := ⟨_, rfl⟩
  rw [hm] at h40I ⊢
  clear hm h40
  go_enter Tryd.func3, Tryd.ntmps3
  go_wp2
  go_ret
  exact ⟨rfl, Below.refl _ _⟩
theorem keeps_any (n : Int) (v : Value) (l : List Opn) (W : World) (hl : OpsIs W v l) (hg : W.cell? ⟨0, 0, none⟩ = some handleV) :
    Calls Tryd.prog 3 #[.int .i64 n, v] W fun e w' => e = .returned (.bool true) ∧ Below W.heap.size W w' := by
  by_cases h40 : 40 < l.length
  · exact keeps_long n v l W hl h40
  by_cases hn : n < 8 ∨ 16384 < n
  · exact keeps_bad n v l W hl (by omega) hn hg
  · obtain ⟨k, rfl⟩ : ∃ k : Nat, n = k := ⟨n.toNat, by omega⟩
    exact keeps_good k v l W hl (by omega) (by omega) (by omega) hg
end Go.Proofs.YtgmngifnilmheaaDoor.Dk
