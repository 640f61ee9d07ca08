import Derived.Test.YtemcpjflpggaeaaDoorDskD
import Derived.Deep.MidRow
set_option linter.unusedSimpArgs false
set_option linter.unusedVariables false
namespace Go.Proofs.YtemcpjflpggaeaaDoor.Dk
open Go.RowKit

set_option maxHeartbeats 800000 in
theorem write_range (D S : Nat) (vw : Value) (d : St) (k : Int) (s : ByteArray) (w : World) (h : At w D S vw d) (hk : k < 0 ∨ d.sure.length ≤ k) :
    Calls Tryd.prog 14 #[.pointer (some ⟨D, 0, none⟩), .int .i64 k, .string s] w fun e w' => e = .returned (.iface 52 (.int .i64 2)) ∧ w' = w := by
  have HH := hid (has_any D S vw d k w h)
  rw [show (decide (0 ≤ k) && decide (k < d.sure.length)) = false by rcases hk with q | q <;> simp <;> omega] at HH
  clear hk
  go_enter Tryd.func14, Tryd.ntmps14
  go_wp2_with (first | (go_at_call 40; refine HH.out.mono ?_; rintro e w0 ⟨rfl, rfl⟩))
  go_ret
  exact ⟨rfl, rfl⟩
set_option maxHeartbeats 800000 in
theorem write_limit (D S : Nat) (vw : Value) (d : St) (k : Nat) (s : ByteArray) (w : World) (h : At w D S vw d) (hk : k < d.sure.length) (hs : 64 < s.size) (hm : s.size ≤ 1000000) :
    Calls Tryd.prog 14 #[.pointer (some ⟨D, 0, none⟩), .int .i64 k, .string s] w fun e w' => e = .returned (.iface 52 (.int .i64 4)) ∧ w' = w := by
  have HH := hid (has_any D S vw d k w h)
  rw [show (decide (0 ≤ (k : Int)) && decide ((k : Int) < d.sure.length)) = true by simp; omega] at HH
  go_enter Tryd.func14, Tryd.ntmps14
  go_wp2_with (first | (go_at_call 40; refine HH.out.mono ?_; rintro e w0 ⟨rfl, rfl⟩))
  go_ret
  exact ⟨rfl, rfl⟩
set_option maxHeartbeats 800000 in
theorem write_dead (D S : Nat) (vw : Value) (d : St) (k : Nat) (s : ByteArray) (w : World) (h : At w D S vw d) (hk : k < d.sure.length) (hs : s.size ≤ 64) (hl : d.live = false) :
    Calls Tryd.prog 14 #[.pointer (some ⟨D, 0, none⟩), .int .i64 k, .string s] w fun e w' => e = .returned (.iface 52 (.int .i64 14)) ∧ At w' D S vw d.burnt ∧ Keep [D] w w' := by
  have HH := hid (has_any D S vw d k w h)
  have HB := hid (burn_any D S vw d w h)
  rw [hl] at HB
  rw [show (decide (0 ≤ (k : Int)) && decide ((k : Int) < d.sure.length)) = true by simp; omega] at HH
  go_enter Tryd.func14, Tryd.ntmps14
  go_wp2_with (first | (go_at_call 40; refine HH.out.mono ?_; rintro e w0 ⟨rfl, rfl⟩) | (go_at_call 41; refine HB.out.mono ?_; rintro e w1 ⟨rfl, h1, k1, -⟩))
  go_ret
  exact ⟨rfl, h1, k1⟩
set_option maxHeartbeats 800000 in
theorem read_range (D S : Nat) (vw : Value) (d : St) (k : Int) (w : World) (h : At w D S vw d) (hk : k < 0 ∨ d.sure.length ≤ k) :
    Calls Tryd.prog 16 #[.pointer (some ⟨D, 0, none⟩), .int .i64 k] w fun e w' => e = .returned (.tuple #[.string ⟨#[]⟩, .iface 52 (.int .i64 2)]) ∧ Below w.heap.size w w' := by
  have HH := hid (fun (W : World) (h : At W D S vw d) => has_any D S vw d k W h)
  rw [show (decide (0 ≤ k) && decide (k < d.sure.length)) = false by rcases hk with q | q <;> simp <;> omega] at HH
  have HA := hid (((h.alloc (.cells #[.int .i64 k] 3)).alloc (.cells #[.string ⟨#[]⟩] 9)).alloc (.cells #[.nilIface] 30))
  clear hk
  go_enter Tryd.func16, Tryd.ntmps16
  go_wp2_with (first | (go_at_call 40; refine (HH.out _ HA.out).mono ?_; rintro e w0 ⟨rfl, rfl⟩))
  refine bodyPost_ret (v := .tuple #[.string ⟨#[]⟩, .iface 52 (.int .i64 2)]) (by simp [results, Tryd.results16, go_sem]) rfl ?_
  exact ⟨rfl, (((Below.refl _ w).alloc (Nat.le_refl _) _).alloc (by simp) _).alloc (by simp; omega) _⟩
/-- Texts. -/
def st (l : List ByteArray) : List Value := l.map Value.string
def it (l : List Int) : List Value := l.map (Value.int .i64)
theorem st_len (l : List ByteArray) : (st l).length = l.length := by simp [st]
theorem it_len (l : List Int) : (it l).length = l.length := by simp [it]
theorem st_at (l : List ByteArray) (k : Nat) (h : k < l.length) : (st l)[k]? = some (.string l[k]) := by simp [st, h]
theorem it_at (l : List Int) (k : Nat) (h : k < l.length) : (it l)[k]? = some (.int .i64 l[k]) := by simp [it, h]
set_option maxHeartbeats 800000 in
theorem equal_any (a b : Value) (l : List ByteArray) (w : World) (ha : Lst w a (st l)) (hb : Lst w b (st l)) (hl : l.length ≤ 1000) :
    Calls Tryd.prog 25 #[a, b] w fun e w' => e = .returned (.bool true) ∧ Below w.heap.size w w' := by
  obtain ⟨a1, c1, rfl, ha⟩ := ha
  obtain ⟨a2, c2, rfl, hb⟩ := hb
  rw [st_len]
  by_cases h0 : l = []
  · subst h0
    go_enter Tryd.func25, Tryd.ntmps25
    go_wp2
    refine wp_loop_rounds 1 ?_
    rw [rounds_succ]
    go_wp2
    go_ret
    exact ⟨rfl, Below.refl _ _⟩
  · have hne : st l ≠ [] := by simpa [st] using h0
    obtain ⟨b1, o1, rfl, hl1, hr1⟩ := ha.resolve_left hne
    obtain ⟨b2, o2, rfl, hl2, hr2⟩ := hb.resolve_left hne
    clear ha hb
    obtain ⟨n, hn⟩ : ∃ n, l.length = n := ⟨_, rfl⟩
    have HN := hid hn
    rw [hn] at hl ⊢
    clear hn
    go_enter Tryd.func25, Tryd.ntmps25
    go_wp2
    go_loopw [13] (fun i wr => ∃ k : Nat, k ≤ n ∧ i = .int .i64 k ∧ Below w.heap.size w wr) (fun i wr => n - (intOf i).toNat)
    case atStart => exact ⟨0, Nat.zero_le _, rfl, Below.refl _ _⟩
    case round =>
      obtain ⟨k, hk, rfl, hbl⟩ := hrel
      by_cases hlt : k < n
      · have hk2 : k < l.length := by have := HN.out; omega
        have e1 := (hbl.cell (p := ⟨b1, o1 + k, none⟩) hl1).trans (hr1 k _ (st_at l k hk2))
        have e2 := (hbl.cell (p := ⟨b2, o2 + k, none⟩) hl2).trans (hr2 k _ (st_at l k hk2))
        have hlI : (k : Int) < (n : Int) := by omega
        go_wp2
        go_quiet (fail)
        go_wp2
        go_roundw
        case rel => exact ⟨k + 1, by omega, by go_num, ⟨hbl.os, hbl.tape, hbl.output, hbl.size, hbl.block⟩⟩
        case measure => simp [intOf]; omega
      · go_wp2
        go_ret
        exact ⟨rfl, hbl⟩
end Go.Proofs.YtemcpjflpggaeaaDoor.Dk
