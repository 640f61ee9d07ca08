import Derived.Test.YtajkjhkjgibcfaaDoorFlwBm
set_option linter.unusedSimpArgs false
set_option linter.unusedVariables false
namespace Go.Proofs.YtajkjhkjgibcfaaDoor
open Go.RowKit

/-- Numbers that can be read. -/
def IntsR (w : World) (v : Value) (xs : List Int) : Prop := ∃ a c, v = .slice a xs.length c ∧ (xs = [] ∨ ∃ b o, a = some ⟨b, o, none⟩ ∧ b < w.heap.size ∧ ∀ (j : Nat) (h : j < xs.length), w.cell? ⟨b, o + j, none⟩ = some (.int .i64 xs[j]))
theorem rem_smallF (k m : Nat) : (k : Int).tmod (m : Int) = ((k % m : Nat) : Int) := by
  rw [Int.tmod_eq_emod_of_nonneg (by omega)]; omega
theorem arithF {k m j : Nat} (hj : k % m = j) (h1 : 1 ≤ m) (h2 : m ≤ 40) (h3 : k ≤ 30000) : (k : Int).tmod (m : Int) = (j : Int) ∧ wrap64 ((k : Int).tmod (m : Int)) = (j : Int) ∧ wrap64 (j : Int) = (j : Int) ∧ j < m := by
  have hl : j < m := by rw [← hj]; exact Nat.mod_lt _ (by omega)
  have hw : wrap64 (j : Int) = (j : Int) := by unfold wrap64; omega
  exact ⟨by rw [rem_smallF, hj], by rw [rem_smallF, hj, hw], hw, hl⟩
theorem one_byte (y : ByteArray) (k : Nat) (h : k < y.size) : (y.extract k (k + 1)).data.toList = [y[k]] := by
  rw [ByteArray.data_extract, Array.toList_extract]
  have hk : k < y.data.toList.length := by simpa using h
  rw [List.extract_eq_take_drop, show k + 1 - k = 1 by omega, List.drop_eq_getElem_cons hk]
  rfl
/-- The blanks that are put in. -/
def chAt : Nat → By
  | 0 => [32]
  | 1 => [10]
  | 2 => [32, 32, 10]
  | _ => [32, 32, 32]
theorem ch_ok (j : Nat) : Bl (chAt j) ∧ chAt j ≠ [] ∧ (chAt j).length ≤ 3 := by
  match j with
  | 0 => exact ⟨by simp [Bl, chAt, blankB], by simp [chAt], by simp [chAt]⟩
  | 1 => exact ⟨by simp [Bl, chAt, blankB], by simp [chAt], by simp [chAt]⟩
  | 2 => exact ⟨by simp [Bl, chAt, blankB], by simp [chAt], by simp [chAt]⟩
  | n + 3 => exact ⟨by simp [Bl, chAt, blankB], by simp [chAt], by simp [chAt]⟩
/-- Where the loop stands. -/
structure BlkAt (t : By) (k m : Nat) (out : By) (q : Bool) : Prop where
  rf : Rf false (t.take k) out q
  lt : m ≤ k
theorem BlkAt.other {y : ByteArray} {k m : Nat} {out : By} {q : Bool} {c : UInt8} (h : BlkAt y.data.toList k m out q) (hk : k < y.size) (hc : y[k] = c) (hb : (q != (c == 39)) = true ∨ (c ≠ 32 ∧ c ≠ 10)) : BlkAt y.data.toList (k + 1) m (out ++ [c]) (q != (c == 39)) :=
  ⟨by rw [take_snoc y k hk, hc]; exact h.rf.step (.other hb .nil), by have := h.lt; omega⟩
theorem BlkAt.blank {y : ByteArray} {k m : Nat} {out : By} {c : UInt8} (h : BlkAt y.data.toList k m out false) (hk : k < y.size) (hc : y[k] = c) (hb : c = 32 ∨ c = 10) (j : Nat) : BlkAt y.data.toList (k + 1) (m + 1) (out ++ chAt j) false := by
  refine ⟨?_, by have := h.lt; omega⟩
  rw [take_snoc y k hk, hc]
  have hz := ch_ok j
  have := h.rf.step (.blank (z := chAt j) hb hz.1 hz.2.1 hz.2.2 .nil)
  rwa [List.append_nil] at this
theorem pick4_any (n : Int) (w : World) :
    Calls Tryd.prog 8 #[.int .i64 n, .int .i64 4] w fun e w' => ∃ k : Nat, e = .returned (.int .i64 (k : Int)) ∧ k < 4 ∧ w' = w := by
  go_enter Tryd.func8, Tryd.ntmps8
  go_wp2
  go_ret
  have hX : IntKind.u64.wrap n = n % 18446744073709551616 := by unfold IntKind.wrap; simp [IntKind.signed, IntKind.bits]
  have hm : (IntKind.u64.wrap n).tmod 4 = (IntKind.u64.wrap n) % 4 := Int.tmod_eq_emod_of_nonneg (by rw [hX]; omega)
  have hw : wrap64 ((IntKind.u64.wrap n).tmod 4) = (n % 4).toNat := by rw [hm, hX]; unfold wrap64; omega
  refine ⟨(n % 4).toNat, ?_, by omega, rfl⟩
  show Ending.returned (.int .i64 (wrap64 ((IntKind.u64.wrap n).tmod 4))) = _
  rw [hw]
theorem ix0 (W : World) : (Instr.index 35 (.agg #[.string ⟨#[32]⟩, .string ⟨#[10]⟩, .string ⟨#[32, 32, 10]⟩, .string ⟨#[32, 32, 32]⟩]) (.int .i64 0)).run Tryd.prog W = .ok (.string ⟨#[32]⟩) W := by kernel_rfl
theorem ix1 (W : World) : (Instr.index 35 (.agg #[.string ⟨#[32]⟩, .string ⟨#[10]⟩, .string ⟨#[32, 32, 10]⟩, .string ⟨#[32, 32, 32]⟩]) (.int .i64 1)).run Tryd.prog W = .ok (.string ⟨#[10]⟩) W := by kernel_rfl
theorem ix2 (W : World) : (Instr.index 35 (.agg #[.string ⟨#[32]⟩, .string ⟨#[10]⟩, .string ⟨#[32, 32, 10]⟩, .string ⟨#[32, 32, 32]⟩]) (.int .i64 2)).run Tryd.prog W = .ok (.string ⟨#[32, 32, 10]⟩) W := by kernel_rfl
theorem ix3 (W : World) : (Instr.index 35 (.agg #[.string ⟨#[32]⟩, .string ⟨#[10]⟩, .string ⟨#[32, 32, 10]⟩, .string ⟨#[32, 32, 32]⟩]) (.int .i64 3)).run Tryd.prog W = .ok (.string ⟨#[32, 32, 32]⟩) W := by kernel_rfl
theorem four {k : Nat} (h : k < 4) : k = 0 ∨ k = 1 ∨ k = 2 ∨ k = 3 := by omega
theorem is39 (c : UInt8) : ((c.toNat : Int) == 39) = (c == 39) := by
  by_cases h : c = 39
  · subst h; rfl
  · have h1 : (c == 39) = false := by simpa using h
    have h2 : ¬ c.toNat = 39 := fun e => h (UInt8.toNat_inj.1 e)
    rw [h1]
    exact beq_false_of_ne (fun e => h2 (by omega))
theorem is32 (c : UInt8) : ((c.toNat : Int) == 32) = (c == 32) := by
  by_cases h : c = 32
  · subst h; rfl
  · have h1 : (c == 32) = false := by simpa using h
    have h2 : ¬ c.toNat = 32 := fun e => h (UInt8.toNat_inj.1 e)
    rw [h1]
    exact beq_false_of_ne (fun e => h2 (by omega))
theorem is10 (c : UInt8) : ((c.toNat : Int) == 10) = (c == 10) := by
  by_cases h : c = 10
  · subst h; rfl
  · have h1 : (c == 10) = false := by simpa using h
    have h2 : ¬ c.toNat = 10 := fun e => h (UInt8.toNat_inj.1 e)
    rw [h1]
    exact beq_false_of_ne (fun e => h2 (by omega))
set_option maxRecDepth 100000 in
set_option maxHeartbeats 3200000 in
theorem blanks_any (s : ByteArray) (v : Value) (ls : List Int) (w : World) (hv : IntsR w v ls) (hE : FEnv w) (hsl : s.size ≤ maxLen) :
    Calls Tryd.prog 4 #[.string s, v] w fun e w' => e = .returned (.bool true) ∧ Below w.heap.size w w' := by
  obtain ⟨l, rfl⟩ : ∃ l, s = ba l := ⟨s.data.toList, rfl⟩
  obtain ⟨va, vc, rfl, hcells⟩ := hv
  have hsz : (ba l).size = l.length := ba_size l
  have HF := Hid.mk (flowed_any w hE)
  by_cases hl : 1000 < l.length ∨ 40 < ls.length
  · clear hE hcells
    have hb : 1000 < (ba l).size ∨ 40 < ls.length := by rw [hsz]; exact hl
    generalize ba l = x at *
    generalize ls.length = n at *
    clear hl hsz
    go_enter Tryd.func4, Tryd.ntmps4
    by_cases h1 : 1000 < x.size
    · go_wp2
      go_ret
      exact ⟨rfl, Below.refl _ _⟩
    · have h2 : 40 < n := by omega
      go_wp2
      go_ret
      exact ⟨rfl, Below.refl _ _⟩
  · have h1 : ¬ 1000 < (ba l).size := by rw [hsz]; omega
    have h2 : ¬ 40 < ls.length := by omega
    cases hp : parseF l with
    | error er =>
      have HP := Hid.mk (fun V hV => parse_bad hp V (by omega) (hE.belowW hV))
      clear hE hp hcells hl
      generalize ba l = x at *
      generalize ls.length = n at *
      go_enter Tryd.func4, Tryd.ntmps4
      go_wp2_with (first | (go_at_call 5; refine HF.out.mono ?_; rintro e w1 ⟨rfl, hb1⟩; have HB1 := Hid.mk hb1; clear hb1) | (go_at_call 6; refine (HP.out _ HB1.out).mono ?_; rintro e w2 ⟨b, rfl, hb2⟩; have HB2 := Hid.mk (bel_then HB1.out hb2); clear hb2))
      go_ret
      exact ⟨rfl, bel_box HB2.out _⟩
    | ok f =>
      have hlen := print_len (by omega) hp
      have hfok := parse_ok (by omega) hp
      have HP := Hid.mk (fun V hV => parse_good hp V (by omega) (hE.belowW hV))
      have HPR := Hid.mk (fun V hV a1 a2 a3 h => print_any f a1 a2 a3 V h hfok (hE.belowW hV))
      have HBK : Hid (∀ out q, Rf false (printF f) out q → ∃ g, parseF out = .ok g ∧ FlwOK g ∧ printF g = printF f ∧ out.length ≤ 60000) := Hid.mk (fun out q hr => by
        obtain ⟨g, hg, hlk⟩ := blanks_back (by omega) hp hr
        have hol : out.length ≤ 60000 := by have := hr.len; omega
        exact ⟨g, hg, parse_ok (by omega) hg, hlk.1, hol⟩)
      have HE := Hid.mk hE
      have hyl : (ba (printF f)).size ≤ 20000 := by rw [ba_size]; exact hlen
      have HYL : Hid ((ba (printF f)).data.toList = printF f) := Hid.mk rfl
      clear hE hp hfok hlen
      generalize hx : ba l = x at *
      generalize hy : ba (printF f) = y at *
      generalize f.ins.length = ni at *
      generalize f.jobs.length = nj at *
      generalize f.outs.length = no at *
      obtain ⟨n, hn⟩ : ∃ n, ls.length = n := ⟨_, rfl⟩
      have HNN := Hid.mk hn
      rw [hn] at h2 ⊢
      clear hx hy hn hl
      by_cases hz : n = 0
      · clear hcells
        subst hz
        go_enter Tryd.func4, Tryd.ntmps4
        go_wp2_with (first | (go_at_call 5; refine HF.out.mono ?_; rintro e w1 ⟨rfl, hb1⟩; have HB1 := Hid.mk hb1; clear hb1) | (go_at_call 6; refine (HP.out _ HB1.out).mono ?_; rintro e w2 ⟨ia, ic, ja, jc, oa, oc, rfl, hrd, hb2⟩; have HB2 := Hid.mk (bel_then HB1.out hb2); clear hb2))
        go_ret
        exact ⟨rfl, bel_box HB2.out _⟩
      · rcases hcells with e0 | ⟨b, o, rfl, hbl, hcell⟩
        · exact absurd (by rw [← HNN.out, e0]; rfl) hz
        have HCL := Hid.mk hcell
        have hzb : ((n : Int) == 0) = false := by simp; omega
        clear hcell
        go_enter Tryd.func4, Tryd.ntmps4
        go_wp2_with (first | (go_at_call 5; refine HF.out.mono ?_; rintro e w1 ⟨rfl, hb1⟩; have HB1 := Hid.mk hb1; clear hb1) | (go_at_call 6; refine (HP.out _ HB1.out).mono ?_; rintro e w2 ⟨ia, ic, ja, jc, oa, oc, rfl, hrd, hb2⟩; have HB2 := Hid.mk (bel_box (bel_then HB1.out hb2) (.cells #[.slice ia ni ic, .slice ja nj jc, .slice oa no oc] 27)); have HR2 := Hid.mk (hrd.below (below_box w2 (.cells #[.slice ia ni ic, .slice ja nj jc, .slice oa no oc] 27))); clear hrd hb2) | (go_at_call 7; fail))
        refine (HPR.out _ HB2.out _ _ _ HR2.out).mono ?_
        rintro e w3 ⟨rfl, hb3⟩
        have HB3 := Hid.mk (bel_then HB2.out hb3)
        have HCL3 : Hid (∀ (j : Nat) (h : j < ls.length), w3.cell? ⟨b, o + j, none⟩ = some (.int .i64 ls[j])) := Hid.mk fun j h => (HB3.out.cell (p := ⟨b, o + j, none⟩) hbl).trans (HCL.out j h)
        clear hb3 HCL
        go_wp2
        go_loopw [8, 9, 10, 11] (fun ov nv qv iv wr => ∃ (k m : Nat) (out : By) (q : Bool), k ≤ y.size ∧ iv = .int .i64 k ∧ nv = .int .i64 m ∧ qv = .bool q ∧ ov = .string (ba out) ∧ BlkAt y.data.toList k m out q ∧ wr = w3) (fun _ _ _ iv _ => y.size - (intOf iv).toNat)
        case atStart => exact ⟨0, 0, [], false, Nat.zero_le _, rfl, rfl, rfl, rfl, ⟨.nil, Nat.le_refl _⟩, rfl⟩
        case round =>
          obtain ⟨k, m, out, q, hk, rfl, rfl, rfl, rfl, hat, hwr⟩ := hrel
          have hwr' := hwr.symm
          clear hwr
          subst hwr'
          have hos : (ba out).size ≤ 60000 := by
            have := hat.rf.len
            rw [List.length_take] at this
            rw [ba_size]
            omega
          have hmk := hat.lt
          have HO : Hid ((ba out).data.toList = out) := Hid.mk rfl
          generalize ba out = ox at *
          by_cases hlt : k < y.size
          · obtain ⟨c, hc⟩ : ∃ c, y[k] = c := ⟨_, rfl⟩
            have e39 := is39 c
            have e32 := is32 c
            have e10 := is10 c
            have hltz : (k : Int) < (y.size : Int) := Int.ofNat_lt.2 hlt
            by_cases c39 : c = 39
            · have d39 : (c == 39) = true := by rw [c39]; decide
              have d32 : (c == 32) = false := by rw [c39]; decide
              have d10 : (c == 10) = false := by rw [c39]; decide
              rw [d39] at e39
              have p39 := e39
              simp at p39
              rw [d32] at e32
              have p32 := e32
              simp at p32
              rw [d10] at e10
              have p10 := e10
              simp at p10
              cases q
              · have HN := Hid.mk (hat.other hlt hc (Or.inr (by rw [c39]; decide)))
                have hq : (false != (c == 39)) = true := by rw [c39]; decide
                rw [hq] at HN
                clear hat
                go_wp2
                go_roundw
                case rel => exact ⟨k + 1, m, out ++ [c], true, by omega, by go_num, rfl, rfl, congrArg Value.string (baX (by rw [strcat_data, one_byte y k hlt, hc, HO.out])), HN.out, (by first | rfl | trivial)⟩
                case measure => simp [intOf]; omega
              · have HN := Hid.mk (hat.other hlt hc (Or.inr (by rw [c39]; decide)))
                have hq : (true != (c == 39)) = false := by rw [c39]; decide
                rw [hq] at HN
                clear hat
                go_wp2
                go_roundw
                case rel => exact ⟨k + 1, m, out ++ [c], false, by omega, by go_num, rfl, rfl, congrArg Value.string (baX (by rw [strcat_data, one_byte y k hlt, hc, HO.out])), HN.out, (by first | rfl | trivial)⟩
                case measure => simp [intOf]; omega
            · have d39 : (c == 39) = false := by simpa using c39
              rw [d39] at e39
              have p39 := e39
              simp at p39
              cases q
              · by_cases hbk : c = 32 ∨ c = 10
                · have hbb : (c == 32) = true ∨ ((c == 32) = false ∧ (c == 10) = true) := by
                    rcases hbk with rfl | rfl
                    · exact Or.inl (by decide)
                    · exact Or.inr (by decide)
                  obtain ⟨j, hj⟩ : ∃ j, m % n = j := ⟨_, rfl⟩
                  obtain ⟨r1, r2, r3, r4⟩ := arithF hj (Nat.pos_of_ne_zero hz) (Nat.le_of_not_lt h2) (Nat.le_trans hmk (Nat.le_trans hk (Nat.le_trans hyl (by decide))))
                  have hjl : j < ls.length := by rw [HNN.out]; exact r4
                  have hcj := HCL3.out j hjl
                  obtain ⟨x4, hx4⟩ : ∃ x4, ls[j] = x4 := ⟨_, rfl⟩
                  rw [hx4] at hcj
                  have hjz : (j : Int) < (n : Int) := Int.ofNat_lt.2 r4
                  have HPK := Hid.mk (pick4_any x4 w3)
                  have HBL := Hid.mk (fun (i : Nat) => hat.blank hlt hc hbk i)
                  clear hat hx4 hj hjl
                  rcases hbb with hbb | ⟨hb1, hb2⟩
                  · rw [hbb] at e32
                    have p32 := e32
                    simp at p32
                    go_wp2_with (go_at_call 8; fail)
                    refine HPK.out.mono ?_
                    rintro e wp ⟨kk, rfl, hkk, rfl⟩
                    obtain rfl | rfl | rfl | rfl : kk = 0 ∨ kk = 1 ∨ kk = 2 ∨ kk = 3 := four hkk
                    · have hix : ∀ W, (Instr.index 35 (.agg #[.string ⟨#[32]⟩, .string ⟨#[10]⟩, .string ⟨#[32, 32, 10]⟩, .string ⟨#[32, 32, 32]⟩]) (.int .i64 0)).run Tryd.prog W = .ok (.string ⟨#[32]⟩) W := ix0
                      go_wp2
                      go_roundw
                      case rel => exact ⟨k + 1, m + 1, out ++ chAt 0, false, hlt, by go_num, by go_num, rfl, congrArg Value.string (baX (by rw [strcat_data, HO.out]; rfl)), HBL.out 0, (by first | rfl | trivial)⟩
                      case measure => simp [intOf]; omega
                    · have hix : ∀ W, (Instr.index 35 (.agg #[.string ⟨#[32]⟩, .string ⟨#[10]⟩, .string ⟨#[32, 32, 10]⟩, .string ⟨#[32, 32, 32]⟩]) (.int .i64 1)).run Tryd.prog W = .ok (.string ⟨#[10]⟩) W := ix1
                      go_wp2
                      go_roundw
                      case rel => exact ⟨k + 1, m + 1, out ++ chAt 1, false, hlt, by go_num, by go_num, rfl, congrArg Value.string (baX (by rw [strcat_data, HO.out]; rfl)), HBL.out 1, (by first | rfl | trivial)⟩
                      case measure => simp [intOf]; omega
                    · have hix : ∀ W, (Instr.index 35 (.agg #[.string ⟨#[32]⟩, .string ⟨#[10]⟩, .string ⟨#[32, 32, 10]⟩, .string ⟨#[32, 32, 32]⟩]) (.int .i64 2)).run Tryd.prog W = .ok (.string ⟨#[32, 32, 10]⟩) W := ix2
                      go_wp2
                      go_roundw
                      case rel => exact ⟨k + 1, m + 1, out ++ chAt 2, false, hlt, by go_num, by go_num, rfl, congrArg Value.string (baX (by rw [strcat_data, HO.out]; rfl)), HBL.out 2, (by first | rfl | trivial)⟩
                      case measure => simp [intOf]; omega
                    · have hix : ∀ W, (Instr.index 35 (.agg #[.string ⟨#[32]⟩, .string ⟨#[10]⟩, .string ⟨#[32, 32, 10]⟩, .string ⟨#[32, 32, 32]⟩]) (.int .i64 3)).run Tryd.prog W = .ok (.string ⟨#[32, 32, 32]⟩) W := ix3
                      go_wp2
                      go_roundw
                      case rel => exact ⟨k + 1, m + 1, out ++ chAt 3, false, hlt, by go_num, by go_num, rfl, congrArg Value.string (baX (by rw [strcat_data, HO.out]; rfl)), HBL.out 3, (by first | rfl | trivial)⟩
                      case measure => simp [intOf]; omega
                  · rw [hb1] at e32
                    rw [hb2] at e10
                    have p32 := e32
                    simp at p32
                    have p10 := e10
                    simp at p10
                    go_wp2_with (go_at_call 8; fail)
                    refine HPK.out.mono ?_
                    rintro e wp ⟨kk, rfl, hkk, rfl⟩
                    obtain rfl | rfl | rfl | rfl : kk = 0 ∨ kk = 1 ∨ kk = 2 ∨ kk = 3 := four hkk
                    · have hix : ∀ W, (Instr.index 35 (.agg #[.string ⟨#[32]⟩, .string ⟨#[10]⟩, .string ⟨#[32, 32, 10]⟩, .string ⟨#[32, 32, 32]⟩]) (.int .i64 0)).run Tryd.prog W = .ok (.string ⟨#[32]⟩) W := ix0
                      go_wp2
                      go_roundw
                      case rel => exact ⟨k + 1, m + 1, out ++ chAt 0, false, hlt, by go_num, by go_num, rfl, congrArg Value.string (baX (by rw [strcat_data, HO.out]; rfl)), HBL.out 0, (by first | rfl | trivial)⟩
                      case measure => simp [intOf]; omega
                    · have hix : ∀ W, (Instr.index 35 (.agg #[.string ⟨#[32]⟩, .string ⟨#[10]⟩, .string ⟨#[32, 32, 10]⟩, .string ⟨#[32, 32, 32]⟩]) (.int .i64 1)).run Tryd.prog W = .ok (.string ⟨#[10]⟩) W := ix1
                      go_wp2
                      go_roundw
                      case rel => exact ⟨k + 1, m + 1, out ++ chAt 1, false, hlt, by go_num, by go_num, rfl, congrArg Value.string (baX (by rw [strcat_data, HO.out]; rfl)), HBL.out 1, (by first | rfl | trivial)⟩
                      case measure => simp [intOf]; omega
                    · have hix : ∀ W, (Instr.index 35 (.agg #[.string ⟨#[32]⟩, .string ⟨#[10]⟩, .string ⟨#[32, 32, 10]⟩, .string ⟨#[32, 32, 32]⟩]) (.int .i64 2)).run Tryd.prog W = .ok (.string ⟨#[32, 32, 10]⟩) W := ix2
                      go_wp2
                      go_roundw
                      case rel => exact ⟨k + 1, m + 1, out ++ chAt 2, false, hlt, by go_num, by go_num, rfl, congrArg Value.string (baX (by rw [strcat_data, HO.out]; rfl)), HBL.out 2, (by first | rfl | trivial)⟩
                      case measure => simp [intOf]; omega
                    · have hix : ∀ W, (Instr.index 35 (.agg #[.string ⟨#[32]⟩, .string ⟨#[10]⟩, .string ⟨#[32, 32, 10]⟩, .string ⟨#[32, 32, 32]⟩]) (.int .i64 3)).run Tryd.prog W = .ok (.string ⟨#[32, 32, 32]⟩) W := ix3
                      go_wp2
                      go_roundw
                      case rel => exact ⟨k + 1, m + 1, out ++ chAt 3, false, hlt, by go_num, by go_num, rfl, congrArg Value.string (baX (by rw [strcat_data, HO.out]; rfl)), HBL.out 3, (by first | rfl | trivial)⟩
                      case measure => simp [intOf]; omega
                · have d32 : (c == 32) = false := by simp; exact fun e => hbk (Or.inl e)
                  have d10 : (c == 10) = false := by simp; exact fun e => hbk (Or.inr e)
                  rw [d32] at e32
                  have p32 := e32
                  simp at p32
                  rw [d10] at e10
                  have p10 := e10
                  simp at p10
                  have HN := Hid.mk (hat.other hlt hc (Or.inr ⟨fun e => hbk (Or.inl e), fun e => hbk (Or.inr e)⟩))
                  have hq : (false != (c == 39)) = false := by simp [c39]
                  rw [hq] at HN
                  clear hat
                  go_wp2
                  go_roundw
                  case rel => exact ⟨k + 1, m, out ++ [c], false, by omega, by go_num, rfl, rfl, congrArg Value.string (baX (by rw [strcat_data, one_byte y k hlt, hc, HO.out])), HN.out, (by first | rfl | trivial)⟩
                  case measure => simp [intOf]; omega
              · have HN := Hid.mk (hat.other hlt hc (Or.inl (by simp [c39])))
                have hq : (true != (c == 39)) = true := by simp [c39]
                rw [hq] at HN
                clear hat
                go_wp2
                go_roundw
                case rel => exact ⟨k + 1, m, out ++ [c], true, by omega, by go_num, rfl, rfl, congrArg Value.string (baX (by rw [strcat_data, one_byte y k hlt, hc, HO.out])), HN.out, (by first | rfl | trivial)⟩
                case measure => simp [intOf]; omega
          · have hltz : ¬ ((k : Int) < (y.size : Int)) := by omega
            have hrf := hat.rf
            rw [List.take_of_length_le (by simp; omega), HYL.out] at hrf
            obtain ⟨g, hg, hgok, hgp, hol⟩ := HBK.out _ _ hrf
            have HG := Hid.mk (fun V hV => parse_good hg V (by omega) (HE.out.belowW hV))
            have HGR := Hid.mk (fun V hV a1 a2 a3 h => print_any g a1 a2 a3 V h hgok (HE.out.belowW hV))
            rw [hgp] at HGR
            rw [show ba out = ox from (baX HO.out).symm] at HG
            rw [show ba (printF f) = y from (baX HYL.out).symm] at HGR
            generalize g.ins.length = gi at *
            generalize g.jobs.length = gj at *
            generalize g.outs.length = go' at *
            clear hat hrf hg hgok hgp
            go_wp2_with (first | (go_at_call 6; refine (HG.out _ HB3.out).mono ?_; rintro e w4 ⟨ia', ic', ja', jc', oa', oc', rfl, hrd, hb4⟩; have HB4 := Hid.mk (bel_box (bel_then HB3.out hb4) (.cells #[.slice ia' gi ic', .slice ja' gj jc', .slice oa' go' oc'] 27)); have HR4 := Hid.mk (hrd.below (below_box w4 (.cells #[.slice ia' gi ic', .slice ja' gj jc', .slice oa' go' oc'] 27))); clear hrd hb4) | (go_at_call 7; fail))
            refine (HGR.out _ HB4.out _ _ _ HR4.out).mono ?_
            rintro e w5 ⟨rfl, hb5⟩
            have HB5 := Hid.mk (bel_then HB4.out hb5)
            clear hb5
            go_wp2
            go_ret
            exact ⟨rfl, HB5.out⟩
end Go.Proofs.YtajkjhkjgibcfaaDoor

