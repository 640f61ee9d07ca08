import Derived.Test.YtemcpjflpggaeaaDoorStoB
set_option linter.unusedSimpArgs false
set_option linter.unusedVariables false
namespace Go.Proofs.YtemcpjflpggaeaaDoor.Dk
open Go.RowKit Go.Maps

set_option maxHeartbeats 400000 in
theorem sectors_any (t : Bs) (w : World) (ht : t.length ≤ 300) :
    Calls Tryd.prog 54 #[recV t] w fun e w' => e = .returned (.int .i64 (nsec t : Nat)) ∧ Below w.heap.size w w' := by
  have hs := tx_sz t
  have hq : ((34 : Int) + (t.length : Int) + 63 - 1) / 63 = (nsec t : Nat) := by
    unfold nsec
    omega
  have HQ := hid hq
  unfold recV
  generalize tx (sumL t) = a at *
  generalize tx t = b at *
  clear hq
  go_enter Tryd.func54, Tryd.ntmps54
  go_wp2
  go_ret
  exact ⟨congrArg (fun z => Ending.returned (.int .i64 z)) HQ.out, (Below.refl _ w).alloc (Nat.le_refl _) _⟩
theorem look_elem (ts : List Bs) (k : Bs) : ∃ a b, (mapOf ts (.string k)).getD (.agg #[.string ⟨#[]⟩, .string ⟨#[]⟩]) = .agg #[.string a, .string b] ∧ (mapOf ts (.string k)).isSome = decide (k ∈ ts.map sumL) := by
  by_cases h : k ∈ ts.map sumL
  · obtain ⟨t, -, -, e⟩ := mapOf_some h
    exact ⟨_, _, by rw [e]; rfl, by rw [e]; simp [h]⟩
  · exact ⟨_, _, by rw [mapOf_none h]; rfl, by rw [mapOf_none h]; simp [h]⟩
set_option maxHeartbeats 400000 in
theorem has_any2 {X M n : Nat} {kv : Value} {ts : List Bs} {k : Bs} {w : World} {D B e : Nat} {sr : Bool} (h : Mem w X D M n B kv ts e sr) (hk : k.length ≤ 1000) :
    Calls Tryd.prog 53 #[.pointer (some ⟨X, 0, none⟩), .string (tx k)] w fun e w' => e = .returned (.bool (decide (k ∈ ts.map sumL))) ∧ Below w.heap.size w w' := by
  have hsz : (tx k).size ≤ maxLen := by rw [tx_sz]; exact Nat.le_trans hk (by decide)
  have c1 := h.head.cell 1 (v := .map (some M)) rfl
  have hl := h.map.look (t := 88) (string_keyed Tryd.underlying9) Tryd.underlying88 (Tryd.zeroValue92 w) (str_key Tryd.underlying9 (tx k) hsz) true
  obtain ⟨a, b, e1, e2⟩ := look_elem ts k
  rw [tx_list, e1, e2, if_pos rfl] at hl
  clear e1 e2
  generalize decide (k ∈ ts.map sumL) = r at *
  go_enter Tryd.func53, Tryd.ntmps53
  go_wp2
  go_ret
  exact ⟨rfl, (Below.refl _ w).alloc (Nat.le_refl _) _⟩
set_option maxHeartbeats 400000 in
theorem get_none {X M n : Nat} {kv : Value} {ts : List Bs} {k : Bs} {w : World} {D B e : Nat} {sr : Bool} (h : Mem w X D M n B kv ts e sr) (hk : k.length ≤ 1000) (hn : k ∉ ts.map sumL) :
    Calls Tryd.prog 27 #[.pointer (some ⟨X, 0, none⟩), .string (tx k)] w fun e w' => e = .returned (.tuple #[.string ⟨#[]⟩, .iface 52 (.int .i64 7)]) ∧ Below w.heap.size w w' := by
  have HH := hid (has_any2 h hk)
  rw [show decide (k ∈ ts.map sumL) = false by simpa using hn] at HH
  clear hn
  go_enter Tryd.func27, Tryd.ntmps27
  go_wp2_with (first | (go_at_call 53; refine HH.out.mono ?_; rintro e1 w1 ⟨rfl, hb1⟩))
  refine bodyPost_ret (v := .tuple #[.string ⟨#[]⟩, .iface 52 (.int .i64 7)]) (by simp [results, Tryd.results27, go_sem]) rfl ?_
  exact ⟨rfl, hb1⟩
set_option maxRecDepth 100000 in
set_option maxHeartbeats 400000 in
theorem get_some {X M n : Nat} {kv : Value} {ts : List Bs} {k : Bs} {w : World} {D B e : Nat} {sr : Bool} (h : Mem w X D M n B kv ts e sr) (hk : k.length ≤ 1000) (hn : k ∈ ts.map sumL) :
    Calls Tryd.prog 27 #[.pointer (some ⟨X, 0, none⟩), .string (tx k)] w fun e w' => ∃ t ∈ ts, sumL t = k ∧ e = .returned (.tuple #[.string (tx t), .nilIface]) ∧ Below w.heap.size w w' := by
  have HH := hid (has_any2 h hk)
  rw [show decide (k ∈ ts.map sumL) = true by simpa using hn] at HH
  obtain ⟨t, ht1, ht2, ht3⟩ := mapOf_some hn
  have HT := hid (show ∃ t', t' ∈ ts ∧ sumL t' = k ∧ t' = t from ⟨t, ht1, ht2, rfl⟩)
  have hsz : (tx k).size ≤ maxLen := by rw [tx_sz]; exact Nat.le_trans hk (by decide)
  have HL : Hid (∀ w1, Below w.heap.size w w1 → w1.cell? ⟨X, 1, none⟩ = some (.map (some M)) ∧ (Instr.lookup 88 (.map (some M)) (.string (tx k)) false).run Tryd.prog w1 = .ok (.agg #[.string (tx (sumL t)), .string (tx t)]) w1) := hid (fun w1 hb => by
    have h1 := h.below hb
    have hl := h1.map.look (t := 88) (string_keyed Tryd.underlying9) Tryd.underlying88 (Tryd.zeroValue92 w1) (str_key Tryd.underlying9 (tx k) hsz) false
    rw [tx_list, ht3, if_neg (by decide)] at hl
    exact ⟨h1.head.cell 1 rfl, hl⟩)
  clear hn ht1 ht2 ht3
  have hfl : ∀ (w : World), (Instr.field 92 (.agg #[.string (tx (sumL t)), .string (tx t)]) 1).run Tryd.prog w = .ok (.string (tx t)) w := fun _ => by kernel_rfl
  go_enter Tryd.func27, Tryd.ntmps27
  go_wp2_with (first | (go_at_call 53; refine HH.out.mono ?_; rintro e1 w1 ⟨rfl, hb1⟩; have HB1 := hid hb1; obtain ⟨c1, hl1⟩ := HL.out w1 hb1; clear hb1))
  refine bodyPost_ret (v := .tuple #[.string (tx t), .nilIface]) (by simp [results, Tryd.results27, go_sem]) rfl ?_
  obtain ⟨t', q1, q2, rfl⟩ := HT.out
  exact ⟨t', q1, q2, rfl, HB1.out⟩
theorem own_cells {w : World} {B : Nat} {e : TypeId} {n : Nat} {xs : List Value} {g cap : Nat} (h : w.ownsRow B e 1 (.slice (some ⟨g, 0, none⟩) n cap) n xs) : w.rangeAt g 0 xs := by
  have := (lst_own h).1
  by_cases hx : xs = []
  · subst hx; intro j v hv; simp at hv
  · obtain ⟨a, c, e1, e2⟩ := this
    rcases e2 with e2 | ⟨b, o, e3, -, e4⟩
    · exact absurd e2 hx
    · injection e1 with e1 _ _
      rw [e3] at e1
      injection e1 with e1
      injection e1 with q1 q2
      subst q1; subst q2
      exact e4
set_option maxHeartbeats 400000 in
theorem clone_any {w : World} {B : Nat} {v : Value} {l : List ByteArray} (h : w.ownsRow B 9 1 v l.length (st l)) (hl : l.length ≤ 1000) :
    Calls Tryd.prog 58 #[v] w fun e w' => ∃ v', e = .returned v' ∧ w'.ownsRow w.heap.size 9 1 v' l.length (st l) ∧ Below w.heap.size w w' := by
  by_cases hz : l.length = 0
  · obtain ⟨a, c, rfl, -⟩ := own_form h
    have : l = [] := List.length_eq_zero_iff.1 hz
    subst this
    cases a with
    | none =>
      refine (Tryd.slices_Clone_string_nil 0 c w).mono ?_
      rintro e w' ⟨rfl, rfl⟩
      exact ⟨_, rfl, World.ownsRow_nil _ _ _ _, Below.refl _ _⟩
    | some a =>
      refine (Tryd.slices_Clone_string_zero a c w).mono ?_
      rintro e w' ⟨v', rfl, h1, -, h2⟩
      exact ⟨_, rfl, h1, h2⟩
  · obtain ⟨g, cap, rfl, -, hgl⟩ := h.form (by omega)
    have hr := own_cells h
    refine (Tryd.slices_Clone_string g 0 l.length cap l w (Nat.le_refl _) (by omega) (fun j hj => by
      have := hr j (.string (l.getD j ByteArray.empty)) (by simp [st, hj])
      exact this)).mono ?_
    rintro e w' ⟨v', rfl, h1, -, h2⟩
    rw [List.take_of_length_le (Nat.le_refl _)] at h1
    exact ⟨_, rfl, h1, h2⟩
set_option maxHeartbeats 400000 in
theorem keys_any {X M n : Nat} {kv : Value} {ts : List Bs} {w : World} {D B e : Nat} {sr : Bool} (h : Mem w X D M n B kv ts e sr) (hl : ts.length ≤ 1000) :
    Calls Tryd.prog 26 #[.pointer (some ⟨X, 0, none⟩)] w fun e w' => ∃ v', e = .returned v' ∧ w'.ownsRow w.heap.size 9 1 v' ts.length (st (keyS ts)) ∧ Below w.heap.size w w' := by
  have c2 := h.head.cell 2 (v := kv) rfl
  have hk := h.keys
  rw [← keyS_len ts] at hk
  have HC := hid (clone_any hk (by rw [keyS_len]; exact hl))
  rw [keyS_len] at HC
  clear hk
  go_enter Tryd.func26, Tryd.ntmps26
  go_wp2_with (first | (go_at_call 58; refine HC.out.mono ?_; rintro e1 w1 ⟨v', rfl, hv1, hb1⟩; have HV := hid hv1; clear hv1))
  go_ret
  exact ⟨v', rfl, HV.out, hb1⟩
theorem cut_one (s : Bs) (c : UInt8) : (Lib.hasPrefix s [c] = true ∧ ∃ r, s = c :: r ∧ Lib.trimPrefix s [c] = r) ∨ (Lib.hasPrefix s [c] = false ∧ ∀ r, s ≠ c :: r) := by
  cases s with
  | nil => right; simp [Lib.hasPrefix]
  | cons d r =>
    by_cases h : d = c
    · subst h; left; simp [Lib.hasPrefix, Lib.trimPrefix]
    · right
      have h' : ¬ c = d := fun e => h e.symm
      simp [Lib.hasPrefix, List.isPrefixOf, h, h']
/-- What lies in a sector behind a mark. -/
def Told (o : Option Bs) (s : ByteArray) (r : Bool) : Prop := match o with
  | some q => r = true ∧ s = tx q
  | none => r = false
set_option maxHeartbeats 400000 in
theorem piece_any {X M n : Nat} {kv : Value} {ts : List Bs} {w : World} {D B e : Nat} {sr : Bool} (h : Mem w X D M n B kv ts e sr) {S : Nat} {vw : Value} {d : St} (ha : At w D S vw d) (k : Nat) (mk : UInt8) :
    Calls Tryd.prog 97 #[.pointer (some ⟨X, 0, none⟩), .int .i64 k, .string ⟨#[mk]⟩] w fun e w' => ∃ s r, e = .returned (.tuple #[.string s, .bool r]) ∧ Told (pieceL (rdOf d) k mk) s r ∧ Below w.heap.size w w' := by
  have c0 := h.head.cell 0 (v := .pointer (some ⟨D, 0, none⟩)) rfl
  by_cases hk : k < d.sure.length
  · have HR := hid (read_any D S vw d k w ha hk)
    have HC := hid (fun (w : World) => Tryd.strings_CutPrefix (tx (d.read k)) ⟨#[mk]⟩ w)
    rw [tx_list] at HC
    have hrd : rdOf d k = some (d.read k) := by simp [rdOf, hk]
    have HT : Hid (Told (pieceL (rdOf d) k mk) ⟨(Lib.trimPrefix (d.read k) [mk]).toArray⟩ (Lib.hasPrefix (d.read k) [mk])) := hid (by
      unfold pieceL
      rw [hrd]
      rcases cut_one (d.read k) mk with ⟨q1, r, q2, q3⟩ | ⟨q1, q2⟩
      · rw [q1, q3, q2]; simp [Told, tx]
      · rw [q1]
        cases hq : d.read k with
        | nil => simp [Told]
        | cons c r =>
          have : c ≠ mk := fun e => q2 r (by rw [hq, e])
          simp [Told, this])
    clear hrd
    generalize tx (d.read k) = sd at *
    generalize (⟨(Lib.trimPrefix (d.read k) [mk]).toArray⟩ : ByteArray) = s1 at *
    generalize Lib.hasPrefix (d.read k) [mk] = r1 at *
    go_enter Tryd.func97, Tryd.ntmps97
    go_wp2_with (first | (go_at_call 16; refine HR.out.mono ?_; rintro e1 w1 ⟨rfl, hb1⟩; have HB1 := hid hb1; clear hb1) | (go_at_call 99; refine (HC.out _).mono ?_; rintro e2 w2 ⟨rfl, rfl⟩))
    refine bodyPost_ret (v := .tuple #[.string s1, .bool r1]) (by simp [results, Tryd.results97, go_sem]) rfl ?_
    exact ⟨_, _, rfl, HT.out, HB1.out⟩
  · have HR := hid (read_range D S vw d k w ha (Or.inr (by omega)))
    have HT : Hid (Told (pieceL (rdOf d) k mk) ⟨#[]⟩ false) := hid (by
      have hrd : rdOf d k = none := by simp [rdOf, hk]
      unfold pieceL
      rw [hrd]
      simp [Told])
    go_enter Tryd.func97, Tryd.ntmps97
    go_wp2_with (first | (go_at_call 16; refine HR.out.mono ?_; rintro e1 w1 ⟨rfl, hb1⟩; have HB1 := hid hb1; clear hb1))
    refine bodyPost_ret (v := .tuple #[.string ⟨#[]⟩, .bool false]) (by simp [results, Tryd.results97, go_sem]) rfl ?_
    exact ⟨_, _, rfl, HT.out, HB1.out⟩
end Go.Proofs.YtemcpjflpggaeaaDoor.Dk
