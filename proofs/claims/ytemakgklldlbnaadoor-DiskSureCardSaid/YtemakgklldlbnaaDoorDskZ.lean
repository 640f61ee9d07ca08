import Derived.Test.YtemakgklldlbnaaDoorDskX
set_option linter.unusedSimpArgs false
set_option linter.unusedVariables false
namespace Go.Proofs.YtemakgklldlbnaaDoor.Dk
open Go.RowKit Go.Maps

/-- Whether a text, filled up, is this one. -/
def isA (a x : ByteArray) : Bool := (fullS x).toList == a.toList
theorem isA_iff (a x : ByteArray) : isA a x = true ↔ fullS x = a := by
  unfold isA
  rw [beq_iff_eq, ByteArray.toList_eq, ByteArray.toList_eq]
  constructor
  · intro h
    have : ∀ a b : ByteArray, a.data.toList = b.data.toList → a = b := by
      intro a b hab
      cases a; cases b
      simp at hab
      rw [hab]
    exact this _ _ h
  · intro h; rw [h]
set_option maxHeartbeats 800000 in
theorem idx_last (CF CM C : Nat) (tt : ByteArray) (v : Value) (l : List ByteArray) (w : World) (h : Lst w v (st l)) (h8 : l.length ≤ 100) (hs : ∀ x ∈ l, ∀ V, Below w.heap.size w V → Calls Tryd.prog 20 #[.string x, .pointer (some ⟨CF, 0, none⟩), .pointer (some ⟨CM, 0, none⟩), .pointer (some ⟨C, 0, none⟩)] V fun e w' => e = .returned (.bool (isA tt x)) ∧ Below V.heap.size V w') :
    Calls Tryd.prog 33 #[v, .func (.func 20) #[] #[.pointer (some ⟨CF, 0, none⟩), .pointer (some ⟨CM, 0, none⟩), .pointer (some ⟨C, 0, none⟩)]] w fun e w' => ∃ r : Int, e = .returned (.int .i64 r) ∧ foundI r (l.any (isA tt)) ∧ Below w.heap.size w w' := by
  obtain ⟨a, c, rfl, h⟩ := h
  obtain ⟨n, hn⟩ : ∃ n, l.length = n := ⟨_, rfl⟩
  have HN := hid hn
  rw [st_len]
  rw [hn] at h8 ⊢
  clear hn
  go_enter Tryd.func33, Tryd.ntmps33
  go_wp2
  go_loopw [8] (fun i wr => ∃ k : Nat, k ≤ n ∧ i = .int .i64 k ∧ (l.take k).any (isA tt) = false ∧ Below w.heap.size w wr) (fun i _ => n - (intOf i).toNat)
  case atStart => exact ⟨0, Nat.zero_le _, rfl, rfl, Below.refl _ _⟩
  case round =>
    obtain ⟨k, hk, rfl, hal, hnx⟩ := hrel
    have HA := hid hal
    clear hal
    by_cases hlt : k < n
    · have hk2 : k < l.length := by have := HN.out; omega
      have hne : st l ≠ [] := by intro q; have q2 := congrArg List.length q; rw [st_len] at q2; simp at q2; rw [q2] at hk2; simp at hk2
      obtain ⟨b, o, rfl, hb, hr⟩ := h.resolve_left hne
      have d1 := (hnx.cell (p := ⟨b, o + k, none⟩) hb).trans (hr k _ (st_at l k hk2))
      have HQ := hid (fun V hV => hs l[k] (List.getElem_mem hk2) V hV)
      have HNX := hid hnx
      cases hp : isA tt l[k]
      all_goals have HP := hid hp
      all_goals rw [hp] at HQ
      · go_wp2_with (go_at_call 20; refine (HQ.out _ HNX.out).mono ?_; rintro e w2 ⟨rfl, b2⟩; have B2 := hid (HNX.out.trans (b2.mono HNX.out.size)); clear b2)
        go_roundw
        case rel => exact ⟨k + 1, by omega, by go_num, any_step hk2 HA.out HP.out, B2.out⟩
        case measure => simp [intOf]; omega
      · go_wp2_with (go_at_call 20; refine (HQ.out _ HNX.out).mono ?_; rintro e w2 ⟨rfl, b2⟩; have B2 := hid (HNX.out.trans (b2.mono HNX.out.size)); clear b2)
        go_ret
        exact ⟨k, rfl, ⟨by omega, by omega, by rw [any_hit hk2 HP.out]; simp⟩, B2.out⟩
    · go_wp2
      go_ret
      exact ⟨-1, rfl, ⟨by omega, by omega, by have := HA.out; rw [List.take_of_length_le (by have := HN.out; omega)] at this; rw [this]; rfl⟩, hnx⟩
set_option maxHeartbeats 800000 in
theorem has_last (CF CM C : Nat) (tt : ByteArray) (v : Value) (l : List ByteArray) (w : World) (h : Lst w v (st l)) (h8 : l.length ≤ 100) (hs : ∀ x ∈ l, ∀ V, Below w.heap.size w V → Calls Tryd.prog 20 #[.string x, .pointer (some ⟨CF, 0, none⟩), .pointer (some ⟨CM, 0, none⟩), .pointer (some ⟨C, 0, none⟩)] V fun e w' => e = .returned (.bool (isA tt x)) ∧ Below V.heap.size V w') :
    Calls Tryd.prog 7 #[v, .func (.func 20) #[] #[.pointer (some ⟨CF, 0, none⟩), .pointer (some ⟨CM, 0, none⟩), .pointer (some ⟨C, 0, none⟩)]] w fun e w' => e = .returned (.bool (l.any (isA tt))) ∧ Below w.heap.size w w' := by
  have HQ := hid (idx_last CF CM C tt v l w h h8 hs)
  clear h
  go_enter Tryd.func7, Tryd.ntmps7
  go_wp2_with (go_at_call 33; refine HQ.out.mono ?_; rintro e w2 ⟨r, rfl, hf, hb2⟩)
  go_ret
  exact ⟨ret_bool hf.2.2, hb2⟩
set_option maxRecDepth 100000 in
set_option maxHeartbeats 1600000 in
theorem last_any (CF CM C M gb o k c : Nat) (a x : ByteArray) (w : World) (hx : x.size ≤ 64)
    (hf : ∀ V, Below w.heap.size w V → V.cell? ⟨CF, 0, none⟩ = some (.func (.func 10) #[] #[]) ∧ V.cell? ⟨CM, 0, none⟩ = some (.map (some M)) ∧ V.cell? ⟨C, 0, none⟩ = some (.int .i64 (k : Int)) ∧ (Instr.lookup 35 (.map (some M)) (.int .i64 (k : Int)) false).run Tryd.prog V = .ok (.slice (some ⟨gb, o, none⟩) 1 c) V ∧ V.cell? ⟨gb, o, none⟩ = some (.string a)) :
    Calls Tryd.prog 20 #[.string x, .pointer (some ⟨CF, 0, none⟩), .pointer (some ⟨CM, 0, none⟩), .pointer (some ⟨C, 0, none⟩)] w fun e w' => e = .returned (.bool (isA a x)) ∧ Below w.heap.size w w' := by
  have HF := hid hf
  have HFU := hid (fun V => full_any x V hx)
  have h0 := HF.out w.drew ⟨rfl, rfl, rfl, Nat.le_refl _, fun _ _ => rfl⟩
  obtain ⟨f, hfe⟩ : ∃ f, fullS x = f := ⟨_, rfl⟩
  have HIA : Hid ((f.toList == a.toList) = isA a x) := hid (by rw [← hfe]; rfl)
  rw [hfe] at HFU
  clear hf hfe
  go_enter Tryd.func20, Tryd.ntmps20
  go_wp2
  go_region_held3 (fun V => V.cell? ⟨CF, 0, none⟩ = some (.func (.func 10) #[] #[]) ∧ V.cell? ⟨CM, 0, none⟩ = some (.map (some M)) ∧ V.cell? ⟨C, 0, none⟩ = some (.int .i64 (k : Int)) ∧ (Instr.lookup 35 (.map (some M)) (.int .i64 (k : Int)) false).run Tryd.prog V = .ok (.slice (some ⟨gb, o, none⟩) 1 c) V ∧ V.cell? ⟨gb, o, none⟩ = some (.string a)) (first | exact h0 | exact G2.out) (first | (go_at_call 10; refine (HFU.out _).mono ?_; rintro e w2 ⟨rfl, b2⟩; have B2 := hid (below_draw b2); have G2 := hid (HF.out _ B2.out); clear b2))
  all_goals go_wp2
  all_goals go_ret
  all_goals exact ⟨ret_bool HIA.out, B2.out⟩
end Go.Proofs.YtemakgklldlbnaaDoor.Dk

