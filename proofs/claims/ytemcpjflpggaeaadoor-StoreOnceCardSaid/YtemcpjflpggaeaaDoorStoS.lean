import Derived.Test.YtemcpjflpggaeaaDoorStoR
set_option linter.unusedSimpArgs false
set_option linter.unusedVariables false
namespace Go.Proofs.YtemcpjflpggaeaaDoor.Dk
open Go.RowKit Go.Maps

set_option maxHeartbeats 1600000 in
theorem idx_once2 (v : Value) (l : List ByteArray) (s : ByteArray) (C : Nat) (w : World) (h : Lst w v (st l)) (h8 : l.length ≤ 100) (hl : ∀ x ∈ l, x.size ≤ 300) (hs : s.size ≤ 300) (hC : Blk w C [.string s]) (hE : EnvK w) :
    Calls Tryd.prog 33 #[v, .func (.func 29) #[] #[.pointer (some ⟨C, 0, none⟩)]] w fun e w' => ∃ r : Int, e = .returned (.int .i64 r) ∧ foundI r (l.any (sameS s)) ∧ Below w.heap.size w w' := by
  obtain ⟨a, c, rfl, h⟩ := h
  obtain ⟨n, hn⟩ : ∃ n, l.length = n := ⟨_, rfl⟩
  have HN := hid hn
  rw [st_len]
  rw [hn] at h8 ⊢
  clear hn
  have HCE := hid (And.intro hC hE)
  clear hC hE
  go_enter Tryd.func33, Tryd.ntmps33
  go_wp2
  go_loopw [8] (fun i wr => ∃ k : Nat, k ≤ n ∧ i = .int .i64 k ∧ (l.take k).any (sameS s) = false ∧ Below w.heap.size w wr) (fun i _ => n - (intOf i).toNat)
  case atStart => exact ⟨0, Nat.zero_le _, rfl, rfl, Below.refl _ _⟩
  case round =>
    obtain ⟨k, hk, rfl, hal, hnx⟩ := hrel
    have HA := hid hal
    clear hal
    by_cases hlt : k < n
    · have hk2 : k < l.length := by have := HN.out; omega
      have hne : st l ≠ [] := by intro q; have q2 := congrArg List.length q; rw [st_len] at q2; simp at q2; rw [q2] at hk2; simp at hk2
      obtain ⟨b, o, rfl, hb, hr⟩ := h.resolve_left hne
      have d1 := (hnx.cell (p := ⟨b, o + k, none⟩) hb).trans (hr k _ (st_at l k hk2))
      have HQ := hid (once2_any s l[k] C wr (HCE.out.1.below hnx) (HCE.out.2.below hnx) hs (hl _ (List.getElem_mem hk2)))
      have HNX := hid hnx
      clear hnx
      cases hp : sameS s l[k]
      all_goals have HP := hid hp
      all_goals rw [hp] at HQ
      all_goals clear hp
      · go_wp2_with (go_at_call 29; refine HQ.out.mono ?_; rintro e w2 ⟨rfl, hb2⟩; have HB2 := hid (HNX.out.trans (hb2.mono HNX.out.size)); clear hb2)
        go_roundw
        case rel => exact ⟨k + 1, by omega, by go_num, any_step hk2 HA.out HP.out, HB2.out⟩
        case measure => simp [intOf]; omega
      · go_wp2_with (go_at_call 29; refine HQ.out.mono ?_; rintro e w2 ⟨rfl, hb2⟩; have HB2 := hid (HNX.out.trans (hb2.mono HNX.out.size)); clear hb2)
        go_ret
        exact ⟨k, rfl, ⟨by omega, by omega, by rw [any_hit hk2 HP.out]; simp⟩, HB2.out⟩
    · go_wp2
      go_ret
      exact ⟨-1, rfl, ⟨by omega, by omega, by have := HA.out; rw [List.take_of_length_le (by have := HN.out; omega)] at this; rw [this]; rfl⟩, hnx⟩
set_option maxHeartbeats 800000 in
theorem has_once2 (v : Value) (l : List ByteArray) (s : ByteArray) (C : Nat) (w : World) (h : Lst w v (st l)) (h8 : l.length ≤ 100) (hl : ∀ x ∈ l, x.size ≤ 300) (hs : s.size ≤ 300) (hC : Blk w C [.string s]) (hE : EnvK w) :
    Calls Tryd.prog 7 #[v, .func (.func 29) #[] #[.pointer (some ⟨C, 0, none⟩)]] w fun e w' => e = .returned (.bool (l.any (sameS s))) ∧ Below w.heap.size w w' := by
  have HQ := hid (idx_once2 v l s C w h h8 hl hs hC hE)
  clear h
  go_enter Tryd.func7, Tryd.ntmps7
  go_wp2_with (go_at_call 33; refine HQ.out.mono ?_; rintro e w2 ⟨r, rfl, hf, hb2⟩)
  go_ret
  exact ⟨ret_bool hf.2.2, hb2⟩
/-- What is there behind so many Puts: the sums of these texts, and no others. -/
def Has (l : List ByteArray) (i n : Nat) (ts : List Bs) : Prop := (∀ t ∈ ts, ∃ x ∈ l, x.data.toList = t) ∧ ∀ j, j < i → ∀ x, l[j % n]? = some x → sumL x.data.toList ∈ ts.map sumL
theorem Has.next {l : List ByteArray} {i n : Nat} {ts us : List Bs} {x : ByteArray} (h : Has l i n ts) (hx : l[i % n]? = some x) (hu : us = [] ∨ us = [x.data.toList]) (hin : sumL x.data.toList ∈ (ts ++ us).map sumL) : Has l (i + 1) n (ts ++ us) := by
  refine ⟨fun t ht => ?_, fun j hj y hy => ?_⟩
  · rcases List.mem_append.1 ht with ht | ht
    · exact h.1 t ht
    · rcases hu with rfl | rfl
      · cases ht
      · rw [List.mem_singleton.1 ht]
        exact ⟨x, List.mem_of_getElem? hx, rfl⟩
  · by_cases e : j = i
    · subst e
      rw [hx] at hy
      injection hy with hy
      rw [← hy]; exact hin
    · rw [List.map_append]
      exact List.mem_append_left _ (h.2 j (by omega) y hy)
theorem Has.all {l : List ByteArray} {ts : List Bs} {n : Nat} (h : Has l (2 * n) n ts) (hn : l.length = n) (s : ByteArray) : sumL s.data.toList ∈ ts.map sumL ↔ l.any (sameS s) = true := by
  rw [List.any_eq_true]
  constructor
  · intro hm
    obtain ⟨t, ht, q⟩ := List.mem_map.1 hm
    obtain ⟨x, hx, rfl⟩ := h.1 t ht
    exact ⟨x, hx, by simp [sameS, q]⟩
  · rintro ⟨x, hx, q⟩
    obtain ⟨j, hj, rfl⟩ := List.mem_iff_getElem.1 hx
    have := h.2 j (by omega) l[j] (by rw [Nat.mod_eq_of_lt (by omega), List.getElem?_eq_getElem hj])
    have q2 : sumL l[j].data.toList = sumL s.data.toList := by simpa [sameS] using q
    rwa [q2] at this
end Go.Proofs.YtemcpjflpggaeaaDoor.Dk
