import Derived.Test.YtjceppinfjbegaaGreatDoorSrtE
set_option linter.unusedSimpArgs false
set_option linter.unusedVariables false
namespace Go.Proofs.YtjceppinfjbegaaGreatDoor
open Go.RowKit
open Go.Sort (grow putRow putCells Holds)

/-- All that stays, but for a row's own block. -/
def Kept (v : Value) (w w' : World) : Prop := ∀ p : Addr, p.block < w.heap.size → v.ownBlock ≠ some p.block → w'.cell? p = w.cell? p
theorem kept_box (v : Value) (w : World) (o : Obj) : Kept v w (w.alloc o) := fun p hp _ => (below_box w o).cell hp
theorem Kept.below {v : Value} {w w' w2 : World} (h : Kept v w w') (hb : Below w'.heap.size w' w2) (hs : w.heap.size ≤ w'.heap.size) : Kept v w w2 := fun p hp hne => (hb.cell (Nat.lt_of_lt_of_le hp hs)).trans (h p hp hne)
set_option maxHeartbeats 1600000 in
set_option maxRecDepth 100000 in
theorem sorted_keep (v av : Value) (us : List Value) (rs : List (List Vl)) (B B2 m : Nat) (ks : List Nat) (w : World) (hv : w.ownsRow B 62 1 v rs.length us) (hH : HeldRows w B us rs) (hl : ∀ r ∈ rs, r.length = m) (h1 : 1 ≤ m) (h6 : m ≤ 100) (h60 : rs.length ≤ 100) (hko : w.ownsRow B2 3 1 av ks.length (intCells ks)) (hk0 : 0 < ks.length) (hk6 : ks.length ≤ 100) (hkm : ∀ k ∈ ks, k < m) (hBw : B ≤ w.heap.size) :
    Calls Tryz.prog 87 #[v, av] w fun e w' => ∃ us' rs', e = .returned v ∧ Stb.Sorted (ltR ks) rs' ∧ Stb.Same (ltR ks) rs rs' ∧ w'.ownsRow B 62 1 v rs.length us' ∧ HeldRows w' B us' rs' ∧ Below B w w' ∧ Kept v w w' := by
  have hmf : ∀ (fn : Fn) (first cap : Array Value) (w : World), (Instr.makeFunc fn first cap).run Tryz.prog w = .ok (.func fn first cap) w := fun _ _ _ _ => rfl
  obtain ⟨aa, aac, rfl⟩ := own_slice hko
  obtain ⟨av, hav0⟩ : ∃ q, q = Value.slice aa ks.length aac := ⟨_, rfl⟩
  rw [← hav0] at hko ⊢
  have hS : ∃ a c, v = .slice a rs.length c ∧ Calls Tryz.prog 121 #[.slice a rs.length c, .func (.func 122) #[] #[.pointer (some ⟨w.heap.size, 0, none⟩)]] (w.alloc (.cells #[av] 83)) fun e w' => e = .returned (.tuple #[]) ∧ ∃ us' rs', Stb.Sorted (ltR ks) rs' ∧ Stb.Same (ltR ks) rs rs' ∧ w'.ownsRow B 62 1 (.slice a rs.length c) rs.length us' ∧ HeldRows w' B us' rs' ∧ Below B w w' ∧ Kept (.slice a rs.length c) w w' := by
    obtain ⟨hul, ⟨rfl, hn⟩ | ⟨g, cap, cur, rfl, hgB, hgh, hcap, hmx, hcs, hct⟩⟩ := hv
    · refine ⟨none, 0, by rw [hn], ?_⟩
      rw [hn]
      refine (sort_none none 0 _ _).mono ?_
      rintro e w' ⟨rfl, rfl⟩
      have hr0 : rs = [] := List.length_eq_zero_iff.1 hn
      refine ⟨rfl, [], rs, by rw [hr0]; exact List.Pairwise.nil, Stb.Same.refl _ _, World.ownsRow_nil _ _ _ _, by rw [hr0]; exact HeldRows.nil _ _, (Below.refl _ _).alloc hBw _, kept_box _ _ _⟩
    · refine ⟨some ⟨g, 0, none⟩, cap, rfl, ?_⟩
      have hgl : g < w.heap.size := (Array.getElem?_eq_some_iff.1 hgh).1
      rcases Nat.eq_zero_or_pos rs.length with hn | hpos
      · rw [hn]
        refine (sort_none _ cap _ _).mono ?_
        rintro e w' ⟨rfl, rfl⟩
        have hr0 : rs = [] := List.length_eq_zero_iff.1 hn
        have hu0 : us = [] := List.length_eq_zero_iff.1 (by rw [hul, hn])
        have ho : w.ownsRow B 62 1 (.slice (some ⟨g, 0, none⟩) 0 cap) 0 us := ⟨by rw [hul, hn], .inr ⟨g, cap, cur, by rw [← hn], hgB, hgh, by omega, hmx, hcs, by rw [hn] at hct; exact hct⟩⟩
        exact ⟨rfl, us, rs, by rw [hr0]; exact List.Pairwise.nil, Stb.Same.refl _ _, ho.alloc _, hH.below (below_box _ _), (Below.refl _ _).alloc hBw _, kept_box _ _ _⟩
      · obtain ⟨n, hn⟩ : ∃ n, rs.length = n + 1 := ⟨rs.length - 1, by omega⟩
        have hun : us.length = n + 1 := by rw [hul, hn]; omega
        have hW0 : ∀ k, k < w.heap.size → (w.alloc (.cells #[av] 83)).heap[k]? = w.heap[k]? := (below_box w _).block
        let enc : Fin (n + 1) → Value := fun i => us[i.1]'(by rw [hun]; exact i.2)
        let row : Fin (n + 1) → List Vl := fun i => rs[i.1]'(by rw [hn]; exact i.2)
        let cf : Fin (n + 1) → Fin (n + 1) → Int := fun i j => cmpR ks (row i) (row j)
        have hrow : ∀ i : Fin (n + 1), ∃ b c cu, enc i = .slice (some ⟨b, 0, none⟩) (row i).length c ∧ w.heap[b]? = some (.cells cu 24 (0, 0)) ∧ b < w.heap.size ∧ ValsAt w b 0 (row i) ∧ (row i).length = m ∧ b ≠ g := by
          intro i
          have hi : i.1 < rs.length := by rw [hn]; exact i.2
          have hlen : (row i).length = m := hl _ (List.getElem_mem hi)
          obtain ⟨b, c, cu, q1, q2, q3, q4⟩ := held_row (hH.2 i.1 (by rw [hun]; exact i.2) hi).1 (hH.2 i.1 (by rw [hun]; exact i.2) hi).2 (by have : rs[i.1].length = m := hlen; omega)
          refine ⟨b, c, cu, q1, q2, q3, q4, hlen, ?_⟩
          rintro rfl
          rw [hgh] at q2
          simp at q2
        have hfl : (List.finRange (n + 1)).length = rs.length := by rw [List.length_finRange, hn]
        have hfu : (List.finRange (n + 1)).map enc = us := by
          refine List.ext_getElem (by simp [hun]) fun k h1 h2 => ?_
          simp [enc]
        have hfr : (List.finRange (n + 1)).map row = rs := by
          refine List.ext_getElem (by simp [hn]) fun k h1 h2 => ?_
          simp [row]
        have hO : OneCell enc := by
          intro i
          obtain ⟨b, c, cu, q1, -⟩ := hrow i
          rw [q1]; rfl
        have hHd : Holds enc (w.alloc (.cells #[av] 83)) g 0 (List.finRange (n + 1)).toArray := by
          intro j hj
          have hj' : j < rs.length := by rw [← hfl]; simpa using hj
          have hh : (w.alloc (.cells #[av] 83)).heap[g]? = some (.cells cur 62 (0, 0)) := (hW0 g hgl).trans hgh
          refine ⟨?_, by simp [World.frozen?, hh]⟩
          have h1 : (cur.toList.take rs.length)[j]? = us[j]? := by rw [Nat.mul_one] at hct; rw [hct]
          rw [List.getElem?_take_of_lt hj'] at h1
          simp only [World.cell?, hh, Nat.zero_add]
          simp only [Option.isSome_none, Bool.false_eq_true, if_false]
          rw [← Array.getElem?_toList, h1, List.getElem?_eq_getElem (by rw [hun]; omega)]
          simp [enc, getElem!_pos, show j < n + 1 by omega]
        have hR : Row1 enc (w.alloc (.cells #[av] 83)) g 0 (List.finRange (n + 1)).toArray := ⟨hO, hHd, by simp; omega⟩
        obtain ⟨ab, ac, hav, -, habl, hka⟩ := ints_of hko hk0
        have hag : ab ≠ g := by
          obtain ⟨-, ⟨-, h0⟩ | ⟨g', cap', cur', hve, -, hgh', -, -, -, -⟩⟩ := hko
          · omega
          rw [hav] at hve
          simp only [Value.slice.injEq, Option.some.injEq, Addr.mk.injEq] at hve
          obtain ⟨⟨rfl, -⟩, -, -⟩ := hve
          rintro rfl
          rw [hgh] at hgh'
          simp at hgh'
        have hcmp : CmpLays1 Tryz.prog 122 #[.pointer (some ⟨w.heap.size, 0, none⟩)] enc cf g 0 (List.finRange (n + 1)).toArray.size (w.alloc (.cells #[av] 83)) := by
          intro q os dk hdk i j
          obtain ⟨b, c, cu, e1, e2, e3, e4, e5, e6⟩ := hrow i
          obtain ⟨b', c', cu', f1, f2, f3, f4, f5, f6⟩ := hrow j
          have hwc : ∀ a : Addr, a.block ≠ g → a.block < w.heap.size → (sortWorld enc (w.alloc (.cells #[av] 83)) g 0 q dk os).cell? a = w.cell? a := fun a h h' => (sort_world_cell enc _ g q dk os a h (by simp; omega)).trans ((below_box w _).cell h')
          have hsz : w.heap.size + 1 ≤ (sortWorld enc (w.alloc (.cells #[av] 83)) g 0 q dk os).heap.size := by unfold sortWorld; simp
          have hap : (sortWorld enc (w.alloc (.cells #[av] 83)) g 0 q dk os).cell? ⟨w.heap.size, 0, none⟩ = some (.slice (some ⟨ab, 0, none⟩) ks.length ac) := by
            rw [sort_world_cell enc _ g q dk os _ (by show w.heap.size ≠ g; omega) (by simp), ← hav]
            simp
          have hh := sorted1_any b 0 c b' 0 c' ab 0 ac w.heap.size (row i) (row j) ks (sortWorld enc (w.alloc (.cells #[av] 83)) g 0 q dk os) (by omega) (fun k hk => by obtain ⟨z0, z1, z2⟩ := e4 k hk; exact ⟨(hwc _ e6 e3).trans z0, (hwc _ e6 e3).trans z1, (hwc _ e6 e3).trans z2⟩) (by omega) (fun k hk => by obtain ⟨z0, z1, z2⟩ := f4 k hk; exact ⟨(hwc _ f6 f3).trans z0, (hwc _ f6 f3).trans z1, (hwc _ f6 f3).trans z2⟩) (by omega) (fun k hk => (hwc _ hag habl).trans (hka k hk)) (by omega) hap (by rw [e5]; exact hkm) (by rw [f5]; exact hkm) hk6 (by omega) (by omega)
          rw [e1, f1]
          exact hh
        have ho : Stb.Ord (ltOf cf) := ⟨fun a b h => (ordR ks).asymm _ _ h, fun a b c h h' => (ordR ks).ntrans _ _ _ h h'⟩
        refine (Stb.sortStable_any enc cf 122 #[.pointer (some ⟨w.heap.size, 0, none⟩)] g 0 cap rs.length (List.finRange (n + 1)) (w.alloc (.cells #[av] 83)) ?eg hcmp ho hR hfl (by omega)).mono ?_
        case eg => intro args W; first | rfl | kernel_rfl
        rintro e w' ⟨rfl, l, s1, s2, hsw⟩
        refine ⟨rfl, l.map enc, l.map row, Stb.Sorted.map row s1, ?_, ?_, ?_, ?_, ?_⟩
        · have := Stb.Same.map (ordR ks) row s2
          rw [hfr] at this
          exact this
        · obtain ⟨q, os, rfl⟩ := hsw
          have hll : l.length = rs.length := by rw [← s2.len ho, hfl]
          unfold sortWorld
          exact owns_srt hll hgB ((hW0 g hgl).trans hgh) hcap hmx hcs
        · obtain ⟨q, os, rfl⟩ := hsw
          refine ⟨by simp, fun j hj hj' => ?_⟩
          simp only [List.getElem_map]
          have hi : (l[j]'(by simpa using hj)).1 < rs.length := by rw [hn]; exact (l[j]'(by simpa using hj)).2
          have hk := hH.2 (l[j]'(by simpa using hj)).1 (by rw [hun]; exact (l[j]'(by simpa using hj)).2) hi
          obtain ⟨b, c, cu, e1, e2, e3, e4, e5, e6⟩ := hrow (l[j]'(by simpa using hj))
          refine ⟨(hk.1.alloc _).kept (grown_srt (enc := enc) (n := q) (os := os) l.toArray) ?_, hk.2⟩
          refine Or.inr ?_
          show (enc (l[j]'(by simpa using hj))).ownBlock ≠ _
          rw [e1]
          show some b ≠ some g
          intro e
          exact e6 (Option.some.inj e)
        · obtain ⟨q, os, rfl⟩ := hsw
          have hb1 : Below B w (w.alloc (.cells #[av] 83)) := (Below.refl _ _).alloc hBw _
          have hgr := grown_srt (enc := enc) (w := w.alloc (.cells #[av] 83)) (g := g) (n := q) (os := os) l.toArray
          exact hb1.grown hgr (by simp; omega) (fun z hz => by cases hz; exact hgB)
        · obtain ⟨q, os, rfl⟩ := hsw
          intro p hp hne
          have hpg : p.block ≠ g := fun e => hne (by rw [e]; rfl)
          exact (sort_world_cell enc _ g q l.toArray os p hpg (by simp; omega)).trans ((below_box w _).cell hp)
  obtain ⟨a, c, rfl, hS⟩ := hS
  subst hav0
  have HS := Hid.mk hS
  clear hS hv hH hl hkm hko
  go_enter Tryz.func87, Tryz.ntmps87
  go_wp2_with (go_at_call 121; fail)
  refine HS.out.mono ?_
  rintro e w2 ⟨rfl, hq⟩
  have HF := Hid.mk hq
  clear hq
  go_wp2
  go_ret
  obtain ⟨us', rs', q1, q2, q3, q4, q5, q6⟩ := HF.out
  exact ⟨us', rs', rfl, q1, q2, q3, q4, q5, q6⟩
end Go.Proofs.YtjceppinfjbegaaGreatDoor

