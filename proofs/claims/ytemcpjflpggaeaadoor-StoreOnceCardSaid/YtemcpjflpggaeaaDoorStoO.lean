import Derived.Test.YtemcpjflpggaeaaDoorStoN
set_option linter.unusedSimpArgs false
set_option linter.unusedVariables false
namespace Go.Proofs.YtemcpjflpggaeaaDoor.Dk
open Go.RowKit Go.Maps

def long3 (s : ByteArray) : Bool := decide (300 < s.size)
set_option maxHeartbeats 400000 in
theorem holds1_any (s : ByteArray) (w : World) (hs : s.size ≤ maxLen) : Calls Tryd.prog 31 #[.string s] w fun e w' => e = .returned (.bool (long3 s)) ∧ w' = w := by
  unfold maxLen at hs
  go_enter Tryd.func31, Tryd.ntmps31
  go_wp2
  all_goals go_ret
  all_goals refine ⟨ret_bool ?_, rfl⟩
  all_goals (simp [long3]; omega)
set_option maxHeartbeats 800000 in
theorem idx_holds (v : Value) (l : List ByteArray) (w : World) (h : Lst w v (st l)) (h8 : l.length ≤ 100) (hs : ∀ x ∈ l, x.size ≤ maxLen) :
    Calls Tryd.prog 33 #[v, .func (.func 31) #[] #[]] w fun e w' => ∃ r : Int, e = .returned (.int .i64 r) ∧ foundI r (l.any long3) ∧ Below w.heap.size w w' := by
  obtain ⟨a, c, rfl, h⟩ := h
  obtain ⟨n, hn⟩ : ∃ n, l.length = n := ⟨_, rfl⟩
  have HN := hid hn
  rw [st_len]
  rw [hn] at h8 ⊢
  clear hn
  go_enter Tryd.func33, Tryd.ntmps33
  go_wp2
  go_loopw [8] (fun i wr => ∃ k : Nat, k ≤ n ∧ i = .int .i64 k ∧ (l.take k).any long3 = false ∧ Below w.heap.size w wr) (fun i _ => n - (intOf i).toNat)
  case atStart => exact ⟨0, Nat.zero_le _, rfl, rfl, Below.refl _ _⟩
  case round =>
    obtain ⟨k, hk, rfl, hal, hnx⟩ := hrel
    have HA := hid hal
    clear hal
    by_cases hlt : k < n
    · have hk2 : k < l.length := by have := HN.out; omega
      have hne : st l ≠ [] := by intro q; have q2 := congrArg List.length q; rw [st_len] at q2; simp at q2; rw [q2] at hk2; simp at hk2
      obtain ⟨b, o, rfl, hb, hr⟩ := h.resolve_left hne
      have d1 := (hnx.cell (p := ⟨b, o + k, none⟩) hb).trans (hr k _ (st_at l k hk2))
      have HQ := hid (fun ww => holds1_any l[k] ww (hs _ (List.getElem_mem hk2)))
      cases hp : long3 l[k]
      all_goals have HP := hid hp
      all_goals rw [hp] at HQ
      · go_wp2_with (go_at_call 31; refine (HQ.out _).mono ?_; rintro e w2 ⟨rfl, rfl⟩)
        go_roundw
        case rel => exact ⟨k + 1, by omega, by go_num, any_step hk2 HA.out HP.out, hnx⟩
        case measure => simp [intOf]; omega
      · go_wp2_with (go_at_call 31; refine (HQ.out _).mono ?_; rintro e w2 ⟨rfl, rfl⟩)
        go_ret
        exact ⟨k, rfl, ⟨by omega, by omega, by rw [any_hit hk2 HP.out]; simp⟩, hnx⟩
    · go_wp2
      go_ret
      exact ⟨-1, rfl, ⟨by omega, by omega, by have := HA.out; rw [List.take_of_length_le (by have := HN.out; omega)] at this; rw [this]; rfl⟩, hnx⟩
set_option maxHeartbeats 800000 in
theorem has_holds (v : Value) (l : List ByteArray) (w : World) (h : Lst w v (st l)) (h8 : l.length ≤ 100) (hs : ∀ x ∈ l, x.size ≤ maxLen) :
    Calls Tryd.prog 7 #[v, .func (.func 31) #[] #[]] w fun e w' => e = .returned (.bool (l.any long3)) ∧ Below w.heap.size w w' := by
  have HQ := hid (idx_holds v l w h h8 hs)
  clear h
  go_enter Tryd.func7, Tryd.ntmps7
  go_wp2_with (go_at_call 33; refine HQ.out.mono ?_; rintro e w2 ⟨r, rfl, hf, hb2⟩)
  go_ret
  exact ⟨ret_bool hf.2.2, hb2⟩
set_option maxHeartbeats 400000 in
theorem once1_any (s : ByteArray) (w : World) (hs : s.size ≤ maxLen) : Calls Tryd.prog 21 #[.string s] w fun e w' => e = .returned (.bool (long3 s)) ∧ w' = w := by
  unfold maxLen at hs
  go_enter Tryd.func21, Tryd.ntmps21
  go_wp2
  all_goals go_ret
  all_goals refine ⟨ret_bool ?_, rfl⟩
  all_goals (simp [long3]; omega)
set_option maxHeartbeats 800000 in
theorem idx_once (v : Value) (l : List ByteArray) (w : World) (h : Lst w v (st l)) (h8 : l.length ≤ 100) (hs : ∀ x ∈ l, x.size ≤ maxLen) :
    Calls Tryd.prog 33 #[v, .func (.func 21) #[] #[]] w fun e w' => ∃ r : Int, e = .returned (.int .i64 r) ∧ foundI r (l.any long3) ∧ Below w.heap.size w w' := by
  obtain ⟨a, c, rfl, h⟩ := h
  obtain ⟨n, hn⟩ : ∃ n, l.length = n := ⟨_, rfl⟩
  have HN := hid hn
  rw [st_len]
  rw [hn] at h8 ⊢
  clear hn
  go_enter Tryd.func33, Tryd.ntmps33
  go_wp2
  go_loopw [8] (fun i wr => ∃ k : Nat, k ≤ n ∧ i = .int .i64 k ∧ (l.take k).any long3 = false ∧ Below w.heap.size w wr) (fun i _ => n - (intOf i).toNat)
  case atStart => exact ⟨0, Nat.zero_le _, rfl, rfl, Below.refl _ _⟩
  case round =>
    obtain ⟨k, hk, rfl, hal, hnx⟩ := hrel
    have HA := hid hal
    clear hal
    by_cases hlt : k < n
    · have hk2 : k < l.length := by have := HN.out; omega
      have hne : st l ≠ [] := by intro q; have q2 := congrArg List.length q; rw [st_len] at q2; simp at q2; rw [q2] at hk2; simp at hk2
      obtain ⟨b, o, rfl, hb, hr⟩ := h.resolve_left hne
      have d1 := (hnx.cell (p := ⟨b, o + k, none⟩) hb).trans (hr k _ (st_at l k hk2))
      have HQ := hid (fun ww => once1_any l[k] ww (hs _ (List.getElem_mem hk2)))
      cases hp : long3 l[k]
      all_goals have HP := hid hp
      all_goals rw [hp] at HQ
      · go_wp2_with (go_at_call 21; refine (HQ.out _).mono ?_; rintro e w2 ⟨rfl, rfl⟩)
        go_roundw
        case rel => exact ⟨k + 1, by omega, by go_num, any_step hk2 HA.out HP.out, hnx⟩
        case measure => simp [intOf]; omega
      · go_wp2_with (go_at_call 21; refine (HQ.out _).mono ?_; rintro e w2 ⟨rfl, rfl⟩)
        go_ret
        exact ⟨k, rfl, ⟨by omega, by omega, by rw [any_hit hk2 HP.out]; simp⟩, hnx⟩
    · go_wp2
      go_ret
      exact ⟨-1, rfl, ⟨by omega, by omega, by have := HA.out; rw [List.take_of_length_le (by have := HN.out; omega)] at this; rw [this]; rfl⟩, hnx⟩
set_option maxHeartbeats 800000 in
theorem has_once (v : Value) (l : List ByteArray) (w : World) (h : Lst w v (st l)) (h8 : l.length ≤ 100) (hs : ∀ x ∈ l, x.size ≤ maxLen) :
    Calls Tryd.prog 7 #[v, .func (.func 21) #[] #[]] w fun e w' => e = .returned (.bool (l.any long3)) ∧ Below w.heap.size w w' := by
  have HQ := hid (idx_once v l w h h8 hs)
  clear h
  go_enter Tryd.func7, Tryd.ntmps7
  go_wp2_with (go_at_call 33; refine HQ.out.mono ?_; rintro e w2 ⟨r, rfl, hf, hb2⟩)
  go_ret
  exact ⟨ret_bool hf.2.2, hb2⟩
set_option maxHeartbeats 400000 in
theorem pick60 (n : Int) (w : World) :
    Calls Tryd.prog 13 #[.int .i64 n, .int .i64 60] w fun e w' => ∃ k : Nat, e = .returned (.int .i64 (k : Int)) ∧ k < 60 ∧ w' = w := by
  go_enter Tryd.func13, Tryd.ntmps13
  go_wp2
  go_ret
  have hX : IntKind.u64.wrap n = n % 18446744073709551616 := by unfold IntKind.wrap; simp [IntKind.signed, IntKind.bits]
  have h0 : 0 ≤ IntKind.u64.wrap n := by rw [hX]; omega
  have hm : (IntKind.u64.wrap n).tmod 60 = (IntKind.u64.wrap n) % 60 := Int.tmod_eq_emod_of_nonneg h0
  have hw : wrap64 ((IntKind.u64.wrap n).tmod 60) = ((IntKind.u64.wrap n % 60).toNat : Int) := by rw [hm]; unfold wrap64; omega
  refine ⟨(IntKind.u64.wrap n % 60).toNat, ?_, by omega, rfl⟩
  show Ending.returned (.int .i64 (wrap64 ((IntKind.u64.wrap n).tmod 60))) = _
  rw [hw]
/-- What a disk with a store is read as behind a crash, whatever is lost: at least these. -/
def Cr (d : St) (ts : List Bs) : Prop := d.sure.length = 600 ∧ ∀ kept : Nat → Bool, Heads ⟨(d.settled kept).sure, [], -1⟩ ∧ ∃ us e', allL (rdOf ⟨(d.settled kept).sure, [], -1⟩) 600 2 [] = (ts ++ us, e') ∧ us.length ≤ 1 ∧ ∀ t ∈ ts ++ us, t.length ≤ 300
theorem cr_live {d : St} {ts : List Bs} {e : Nat} (h : Inv d ts e) (hl : d.sure.length = 600) : Cr d ts := by
  refine ⟨hl, fun kept => ?_⟩
  have hs : (d.settled kept).sure = d.sure := by
    show settleL kept 0 d.sure d.ws = d.sure
    rw [h.ws]
    rfl
  have hr : rdOf ⟨(d.settled kept).sure, [], -1⟩ = rdOf d := by
    funext k
    simp only [rdOf, St.read, hs, h.ws]
  have hh : Heads ⟨(d.settled kept).sure, [], -1⟩ := fun a q hp => h.heads a q (by rw [← hr]; exact hp)
  refine ⟨hh, [], e, ?_, by simp, by simpa using h.short⟩
  rw [hr, List.append_nil, ← hl]
  exact h.all
theorem cr_dead {d : St} {ts : List Bs} {e : Nat} (h : Inv d ts e) (hl : d.sure.length = 600) (t : Bs) (ht : t.length ≤ 300) (hn : sumL t ∉ ts.map sumL) (j : Nat) (hj : j ≤ nsec t) (hr : e + nsec t ≤ d.sure.length) : Cr (wrN d t e j).burnt ts := by
  refine ⟨by rw [← hl]; exact congrArg List.length (wrN_sure d t e j), fun kept => ?_⟩
  obtain ⟨h1, e', h2⟩ := crash_all h t ht hn j hj hr kept
  rw [hl] at h2
  refine ⟨h1, ?_⟩
  rcases h2 with h2 | h2
  · exact ⟨[], e', by rw [List.append_nil]; exact h2, by simp, by simpa using h.short⟩
  · refine ⟨[t], e', h2, by simp, fun u hu => ?_⟩
    rcases List.mem_append.1 hu with hu | hu
    · exact h.short u hu
    · rw [List.mem_singleton.1 hu]; exact ht
/-- Texts of the call's own beside a store. -/
structure Own (W w : World) (v : Value) (ts : List Bs) (X M D S : Nat) (kv vw : Value) : Prop where
  row : w.ownsRow W.heap.size 9 1 v ts.length (st (keyS ts))
  off : ∀ b, v.ownBlock = some b → b ∉ memB X M kv ++ blocks D S vw
end Go.Proofs.YtemcpjflpggaeaaDoor.Dk
