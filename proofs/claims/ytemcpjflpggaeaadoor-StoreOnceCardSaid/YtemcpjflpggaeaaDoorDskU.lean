import Derived.Test.YtemcpjflpggaeaaDoorDskJ
import Derived.Test.YtemcpjflpggaeaaDoorShelf
set_option linter.unusedSimpArgs false
set_option linter.unusedVariables false
namespace Go.Proofs.YtemcpjflpggaeaaDoor.Dk
open Go.RowKit

set_option maxHeartbeats 400000 in
theorem sure1_any (s : ByteArray) (w : World) (hs : s.size ≤ maxLen) : Calls Tryd.prog 6 #[.string s] w fun e w' => e = .returned (.bool (longS s)) ∧ w' = w := by
  unfold maxLen at hs
  go_enter Tryd.func6, Tryd.ntmps6
  go_wp2
  all_goals go_ret
  all_goals refine ⟨ret_bool ?_, rfl⟩
  all_goals (simp [longS]; omega)
set_option maxHeartbeats 800000 in
theorem idx_sure (v : Value) (l : List ByteArray) (w : World) (h : Lst w v (st l)) (h8 : l.length ≤ 100) (hs : ∀ x ∈ l, x.size ≤ maxLen) :
    Calls Tryd.prog 33 #[v, .func (.func 6) #[] #[]] w fun e w' => ∃ r : Int, e = .returned (.int .i64 r) ∧ foundI r (l.any longS) ∧ Below w.heap.size w w' := by
  obtain ⟨a, c, rfl, h⟩ := h
  obtain ⟨n, hn⟩ : ∃ n, l.length = n := ⟨_, rfl⟩
  have HN := hid hn
  rw [st_len]
  rw [hn] at h8 ⊢
  clear hn
  go_enter Tryd.func33, Tryd.ntmps33
  go_wp2
  go_loopw [8] (fun i wr => ∃ k : Nat, k ≤ n ∧ i = .int .i64 k ∧ (l.take k).any longS = false ∧ Below w.heap.size w wr) (fun i _ => n - (intOf i).toNat)
  case atStart => exact ⟨0, Nat.zero_le _, rfl, rfl, Below.refl _ _⟩
  case round =>
    obtain ⟨k, hk, rfl, hal, hnx⟩ := hrel
    have HA := hid hal
    clear hal
    by_cases hlt : k < n
    · have hk2 : k < l.length := by have := HN.out; omega
      have hne : st l ≠ [] := by intro q; have q2 := congrArg List.length q; rw [st_len] at q2; simp at q2; rw [q2] at hk2; simp at hk2
      obtain ⟨b, o, rfl, hb, hr⟩ := h.resolve_left hne
      have d1 := (hnx.cell (p := ⟨b, o + k, none⟩) hb).trans (hr k _ (st_at l k hk2))
      have HQ := hid (fun ww => sure1_any l[k] ww (hs _ (List.getElem_mem hk2)))
      cases hp : longS l[k]
      all_goals have HP := hid hp
      all_goals rw [hp] at HQ
      · go_wp2_with (go_at_call 6; refine (HQ.out _).mono ?_; rintro e w2 ⟨rfl, rfl⟩)
        go_roundw
        case rel => exact ⟨k + 1, by omega, by go_num, any_step hk2 HA.out HP.out, hnx⟩
        case measure => simp [intOf]; omega
      · go_wp2_with (go_at_call 6; refine (HQ.out _).mono ?_; rintro e w2 ⟨rfl, rfl⟩)
        go_ret
        exact ⟨k, rfl, ⟨by omega, by omega, by rw [any_hit hk2 HP.out]; simp⟩, hnx⟩
    · go_wp2
      go_ret
      exact ⟨-1, rfl, ⟨by omega, by omega, by have := HA.out; rw [List.take_of_length_le (by have := HN.out; omega)] at this; rw [this]; rfl⟩, hnx⟩
set_option maxHeartbeats 800000 in
theorem has_sure (v : Value) (l : List ByteArray) (w : World) (h : Lst w v (st l)) (h8 : l.length ≤ 100) (hs : ∀ x ∈ l, x.size ≤ maxLen) :
    Calls Tryd.prog 7 #[v, .func (.func 6) #[] #[]] w fun e w' => e = .returned (.bool (l.any longS)) ∧ Below w.heap.size w w' := by
  have HQ := hid (idx_sure v l w h h8 hs)
  clear h
  go_enter Tryd.func7, Tryd.ntmps7
  go_wp2_with (go_at_call 33; refine HQ.out.mono ?_; rintro e w2 ⟨r, rfl, hf, hb2⟩)
  go_ret
  exact ⟨ret_bool hf.2.2, hb2⟩

/-- A text, filled up. -/
def fullS (s : ByteArray) : ByteArray := tx (pad s.data.toList)
theorem rep_zero : ∀ n, Lib.repeatL [0] n = List.replicate n 0
  | 0 => rfl
  | n + 1 => by rw [Lib.repeatL, rep_zero n]; rfl
theorem cat_data (a b : ByteArray) : (a ++ b).data.toList = a.data.toList ++ b.data.toList := by simp
theorem full_is (s : ByteArray) (h : s.size ≤ 64) : (s ++ ⟨(Lib.repeatL [0] 64).toArray⟩).extract 0 64 = fullS s := by
  have hl : s.data.toList.length ≤ 64 := by simpa using h
  have e : ((s ++ ⟨(Lib.repeatL [0] 64).toArray⟩).extract 0 64).data.toList = pad s.data.toList := by
    rw [ByteArray.data_extract, Array.toList_extract, cat_data]
    show ((s.data.toList ++ Lib.repeatL [0] 64).extract 0 64) = _
    rw [rep_zero, List.extract_eq_take_drop, List.drop_zero, List.take_append, pad, List.take_of_length_le hl]
    congr 1
    rw [List.take_replicate]
    congr 1
    omega
  have : ∀ a b : ByteArray, a.data.toList = b.data.toList → a = b := by
    intro a b hab
    cases a; cases b
    simp at hab
    rw [hab]
  exact this _ _ e
theorem full_size (s : ByteArray) (h : s.size ≤ 64) : (fullS s).size = 64 := by
  rw [fullS, tx_size, pad_len _ (by simpa using h)]
set_option maxHeartbeats 400000 in
theorem full_any (s : ByteArray) (w : World) (hs : s.size ≤ 64) : Calls Tryd.prog 10 #[.string s] w fun e w' => e = .returned (.string (fullS s)) ∧ Below w.heap.size w w' := by
  have HR := hid (Tryd.strings_Repeat ⟨#[0]⟩ 64 w (by decide) (by decide))
  have HF := hid (full_is s hs)
  have hz : (⟨(Lib.repeatL [0] 64).toArray⟩ : ByteArray).size = 64 := by rw [rep_zero]; rfl
  have hd : (⟨#[0]⟩ : ByteArray).data.toList = [0] := rfl
  rw [hd] at HR
  generalize (⟨(Lib.repeatL [0] 64).toArray⟩ : ByteArray) = Z at *
  go_enter Tryd.func10, Tryd.ntmps10
  go_wp2_with (go_at_call 11; refine HR.out.mono ?_; rintro e w2 ⟨rfl, hb2⟩)
  go_ret
  exact ⟨by rw [HF.out]; rfl, hb2⟩
theorem cont_any (v : Value) (l : List ByteArray) (x : ByteArray) (w : World) (h : Lst w v (st l)) (h8 : l.length ≤ 1000) :
    Calls Tryd.prog 18 #[v, .string x] w fun e w' => (∃ b : Bool, e = .returned (.bool b) ∧ (b = true ↔ x ∈ l)) ∧ w' = w := by
  obtain ⟨a, c, rfl, h⟩ := h
  rw [st_len]
  rcases h with h | ⟨b, o, rfl, hb', hr⟩
  · have hl : l = [] := by have := congrArg List.length h; rw [st_len] at this; exact List.eq_nil_of_length_eq_zero this
    subst hl
    refine (Tryd.slices_Contains_string_empty a c x w).mono ?_
    rintro e w' ⟨rfl, rfl⟩
    exact ⟨⟨false, rfl, by simp⟩, rfl⟩
  · refine (Tryd.slices_Contains_string b o l.length c l x w (Nat.le_refl _) (by omega) (fun j hj => ?_)).mono ?_
    · rw [hr j _ (st_at l j hj)]
      simp [List.getD, hj]
    · rintro e w' ⟨rfl, rfl⟩
      refine ⟨⟨_, rfl, ?_⟩, rfl⟩
      rw [List.take_of_length_le (Nat.le_refl _)]
      exact Lib.containsS_iff l x
theorem trim_any (s : ByteArray) (w : World) (hs : s.size ≤ 64) : Calls Tryd.prog 19 #[.string s, .string ⟨#[0]⟩] w fun e w' => (∃ x, e = .returned (.string x)) ∧ w' = w := by
  refine (Tryd.strings_TrimRight_one s 0 (by decide) w (by omega)).mono ?_
  rintro e w' ⟨rfl, rfl⟩
  exact ⟨⟨_, rfl⟩, rfl⟩
end Go.Proofs.YtemcpjflpggaeaaDoor.Dk
