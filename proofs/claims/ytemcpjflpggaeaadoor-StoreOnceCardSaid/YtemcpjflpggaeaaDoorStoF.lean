import Derived.Test.YtemcpjflpggaeaaDoorStoE
set_option linter.unusedSimpArgs false
set_option linter.unusedVariables false
namespace Go.Proofs.YtemcpjflpggaeaaDoor.Dk
open Go.RowKit Go.Maps

def lnV : Value → Nat
  | .slice _ n _ => n
  | _ => 0
/-- A record as it is told. -/
def ToldR (o : Option Bs) (v : Value) (r : Bool) : Prop := match o with
  | some t => r = true ∧ v = recV t
  | none => r = false ∧ ∃ a b, v = .agg #[.string a, .string b]
theorem piece_len {d : St} (h : d.Ok) {k : Nat} {mk : UInt8} {q : Bs} (hp : pieceL (rdOf d) k mk = some q) : q.length = 63 := by
  unfold pieceL rdOf at hp
  by_cases hk : k < d.sure.length
  · rw [if_pos hk] at hp
    have h64 := read_64 h k hk
    cases hr : d.read k with
    | nil => rw [hr] at hp; simp at hp
    | cons c r =>
      rw [hr] at hp h64
      simp only at hp
      split at hp
      · injection hp with hp
        subst hp
        simpa using h64
      · cases hp
  · rw [if_neg hk] at hp
    simp at hp
theorem ext_take (h : Bs) (n : Nat) : (tx h).extract 0 n = tx (h.take n) := by
  apply ByteArray.ext
  simp [tx, ByteArray.data_extract]
theorem wrap_nat (n : Nat) (h : n < 4611686018427387904) : IntKind.i64.wrap (n : Int) = (n : Int) := by
  unfold IntKind.wrap
  simp [IntKind.signed, IntKind.bits]
  omega
theorem len_bits (a b : UInt8) : bits .or .i64 (IntKind.i64.wrap (IntKind.i64.wrap (a.toNat : Int) * 256)) (IntKind.i64.wrap (b.toNat : Int)) = ((a.toNat * 256 + b.toNat : Nat) : Int) := by
  have h0 := a.toNat_lt
  have h1 := b.toNat_lt
  rw [wrap_nat _ (by omega), wrap_nat _ (by omega), show (a.toNat : Int) * 256 = ((a.toNat * 256 : Nat) : Int) by omega, wrap_nat _ (by omega)]
  rw [(bits_nat .i64 62 (by decide) (fun n h0 h1 => by
    obtain ⟨m, rfl⟩ := Int.eq_ofNat_of_zero_le h0
    exact wrap_nat m (by omega)) _ _ (by omega) (by omega)).2, nat_join 8 _ _ (by omega) (by omega)]
theorem str_ne {x y : ByteArray} (h : ¬ x = y) : (x.toList == y.toList) = false := by
  rw [ByteArray.toList_eq, ByteArray.toList_eq]
  simp only [beq_eq_false_iff_ne]
  intro e
  apply h
  apply ByteArray.ext
  exact Array.toList_inj.1 e
theorem idx_tx (q : Bs) (j : Nat) (hj : j < (tx q).size) : (tx q)[j] = q[j]?.getD 0 := by
  have h : j < q.length := by rw [tx_sz] at hj; exact hj
  rw [List.getElem?_eq_getElem h]
  rfl
set_option maxRecDepth 100000 in
set_option maxHeartbeats 4000000 in
theorem read_any2 {X M n : Nat} {kv : Value} {ts : List Bs} {w : World} {D B e : Nat} {sr : Bool} (h : Mem w X D M n B kv ts e sr) {S : Nat} {vw : Value} {d : St} (ha : At w D S vw d) (hE : EnvK w) (k : Nat) (hk : k ≤ 100000)
    (hlen : ∀ q, pieceL (rdOf d) k 72 = some q → lenH q ≤ 300) :
    Calls Tryd.prog 85 #[.pointer (some ⟨X, 0, none⟩), .int .i64 k] w fun e w' => ∃ v r, e = .returned (.tuple #[v, .bool r]) ∧ ToldR (recL (rdOf d) k) v r ∧ Below w.heap.size w w' := by
  obtain ⟨w1, hw1⟩ : ∃ w1, w.alloc (.cells #[.string ⟨#[]⟩, .string ⟨#[]⟩] 92) = w1 := ⟨_, rfl⟩
  have hb1 : Below w.heap.size w w1 := by rw [← hw1]; exact (Below.refl _ w).alloc (Nat.le_refl _) _
  have X1 : Blk w1 w.heap.size [.string ⟨#[]⟩, .string ⟨#[]⟩] := by rw [← hw1]; exact Blk.new w _ _ _ rfl
  have HP := hid (fun (V : World) (hV : Below w.heap.size w V) (j : Nat) (mk : UInt8) => piece_any (h.below hV) (ha.below hV) j mk)
  have HS := hid (fun (V : World) (hV : Below w.heap.size w V) (s : ByteArray) (hs : s.size ≤ 400) => sum_any s V hs (hE.below hV))
  have HB1 := hid hb1
  have HX1 := hid X1
  have HOK := hid ha.ok
  clear hb1 X1
  go_enter Tryd.func85, Tryd.ntmps85
  go_wp2_with (first | (go_at_call 97; fail))
  refine (HP.out w1 HB1.out k 72).mono ?_
  rintro e2 w2 ⟨s2, r2, rfl, ht2, hb2⟩
  have HB2 := hid (HB1.out.trans (hb2.mono (HB1.out.size)))
  have HX2 := hid (HX1.out.below hb2)
  clear hb2
  cases hp : pieceL (rdOf d) k 72 with
  | none =>
    rw [hp] at ht2
    obtain rfl : r2 = false := ht2
    have q0 := HX2.out.cell 0 rfl
    have q1 := HX2.out.cell 1 rfl
    have f0 := HX2.out.fz 0
    have f1 := HX2.out.fz 1
    go_wp2
    have z9 := (HX2.out.set 0 (.string ⟨#[]⟩)).set 1 (.string ⟨#[]⟩)
    have z0 := z9.cell 0 (v := .string ⟨#[]⟩) rfl
    have z1 := z9.cell 1 (v := .string ⟨#[]⟩) rfl
    refine bodyPost_ret (v := .tuple #[.agg #[.string ⟨#[]⟩, .string ⟨#[]⟩], .bool false]) (by simp [results, Tryd.results85, go_sem, z0, z1]) rfl ?_
    refine ⟨_, _, rfl, ?_, ((Keep.of (X := []) HB2.out).set _ _ _ (Or.inr (Nat.le_refl _))).set _ _ _ (Or.inr (Nat.le_refl _)) |>.below (by simp) (Nat.le_refl _)⟩
    have : recL (rdOf d) k = none := by unfold recL; rw [hp]
    rw [this]
    exact ⟨rfl, _, _, rfl⟩
  | some q =>
    rw [hp] at ht2
    obtain ⟨rfl, rfl⟩ : r2 = true ∧ s2 = tx q := ht2
    have hq := piece_len HOK.out hp
    have hq2 : (tx q).size = 63 := by rw [tx_sz, hq]
    have hln := hlen q hp
    obtain ⟨kx, hkx⟩ : ∃ kx, (tx q).extract 0 32 = kx := ⟨_, rfl⟩
    have HKX : Hid (kx = tx (q.take 32)) := hid (by rw [← hkx, ext_take])
    obtain ⟨a, hqa⟩ : ∃ a, q[32]?.getD 0 = a := ⟨_, rfl⟩
    obtain ⟨b, hqb⟩ : ∃ b, q[33]?.getD 0 = b := ⟨_, rfl⟩
    have hA : ∀ hh : 32 < (tx q).size, (tx q)[32]'hh = a := fun hh => by rw [idx_tx, hqa]
    have hBb : ∀ hh : 33 < (tx q).size, (tx q)[33]'hh = b := fun hh => by rw [idx_tx, hqb]
    have hL : lenH q = a.toNat * 256 + b.toNat := by unfold lenH; rw [hqa, hqb]
    have hbits := len_bits a b
    have ha8 := a.toNat_lt
    have hb8 := b.toNat_lt
    have hwa : IntKind.i64.wrap (a.toNat : Int) = (a.toNat : Int) := wrap_nat _ (by omega)
    have hwb : IntKind.i64.wrap (b.toNat : Int) = (b.toNat : Int) := wrap_nat _ (by omega)
    have hwc : IntKind.i64.wrap ((a.toNat : Int) * 256) = (a.toNat : Int) * 256 := by
      rw [show (a.toNat : Int) * 256 = ((a.toNat * 256 : Nat) : Int) by omega]
      exact wrap_nat _ (by omega)
    rw [hwa, hwb, hwc, ← hL] at hbits
    clear ha8 hb8
    obtain ⟨ln, hlnE⟩ : ∃ ln, lenH q = ln := ⟨_, rfl⟩
    rw [hlnE] at hbits hln
    have HLN := hid hlnE
    have HPP := hid hp
    clear hL hqa hqb hlnE hp
    have HX2d : Hid (Blk w2.drew w.heap.size [.string ⟨#[]⟩, .string ⟨#[]⟩]) := hid HX2.out
    have HB2d : Hid (Below w.heap.size w w2.drew) := hid (HB2.out.drew)
    go_wp2
    go_region_held3 (fun _ => True) (exact trivial) (fail)
    · have hcv := conv_run w2.drew (tx q)
      rw [hq2] at hcv
      obtain ⟨w3, hw3⟩ : ∃ w3, Lib.bytesWorld w2.drew 5 (tx q) = w3 := ⟨_, rfl⟩
      obtain ⟨c3, hc3⟩ : ∃ c3, grownCap w2.drew 63 0 5 = c3 := ⟨_, rfl⟩
      rw [hw3, hc3] at hcv
      have hbx := Bx.conv w2.drew (tx q) (by rw [hq2]; decide)
      rw [hw3, hq2, hc3, tx_list] at hbx
      have HB3 := hid (HB2d.out.trans (hbx.2.mono HB2d.out.size))
      have HX3 := hid (HX2d.out.below hbx.2)
      have HBX3 := hid (hbx.1.up (by show w.heap.size + 1 ≤ w2.heap.size; exact HX2.out.lt))
      clear hbx hw3 hc3 hA hBb
      go_wp2
      clear hcv
      obtain ⟨R, hR⟩ : ∃ R, bodyL (rdOf d) (34 + ln) k q (34 + ln) = R := ⟨_, rfl⟩
      have HR := hid hR
      clear hR
      go_loopw [1, 10] (fun pa pp wr => ∃ (j : Nat) (p : Bs) (f : Nat), pa = .int .i64 j ∧ j ≤ k + p.length ∧ 63 ≤ p.length ∧ p.length ≤ 500 ∧ Bx wr (w.heap.size + 1) pp p ∧ Below w.heap.size w wr ∧ Blk wr w.heap.size [.string ⟨#[]⟩, .string ⟨#[]⟩] ∧ bodyL (rdOf d) f j p (34 + ln) = R ∧ 34 + ln ≤ p.length + f) (fun pa pp wr => 34 + ln - lnV pp)
      case atStart => exact ⟨k, q, 34 + ln, rfl, Nat.le_add_right _ _, Nat.le_of_eq hq.symm, by rw [hq]; decide, HBX3.out, HB3.out, HX3.out, HR.out, Nat.le_add_left _ _⟩
      case round =>
        obtain ⟨j, p, f, rfl, hj, hp63, hpl, hbx, hbl, hx, hf, hff⟩ := hrel
        have HBX := hid hbx
        have HBL := hid hbl
        have HXX := hid hx
        have HFF := hid hff
        have HF := hid hf
        have HP63 := hid hp63
        obtain ⟨g, cap, rfl, hg1, hg2, hg3, hg4, hg5, -⟩ := hbx
        clear hbl hx hff hf
        by_cases hlt : p.length < 34 + ln
        · have hltI : (p.length : Int) < 34 + (ln : Int) := by omega
          have hjj : j ≤ 100500 := by omega
          go_wp2_with (first | (go_at_call 97; fail))
          refine (HP.out wr HBL.out (j + 1) 66).mono ?_
          rintro e4 w4 ⟨s4, r4, rfl, ht4, hb4⟩
          have HB4 := hid (HBL.out.trans (hb4.mono HBL.out.size))
          have HX4 := hid (HXX.out.below hb4)
          have HBX4 := hid (HBX.out.below hb4)
          clear hb4
          cases hp4 : pieceL (rdOf d) (j + 1) 66 with
          | none =>
            rw [hp4] at ht4
            obtain rfl : r4 = false := ht4
            have hRn : R = none := by
              rw [← HF.out]
              cases f with
              | zero => exact absurd HFF.out (by omega)
              | succ f => rw [bodyL, if_pos hlt, hp4]
            have HRN := hid hRn
            clear hRn
            have q0 := HX4.out.cell 0 rfl
            have q1 := HX4.out.cell 1 rfl
            have f0 := HX4.out.fz 0
            have f1 := HX4.out.fz 1
            go_wp2
            have z9 := (HX4.out.set 0 (.string ⟨#[]⟩)).set 1 (.string ⟨#[]⟩)
            have z0 := z9.cell 0 (v := .string ⟨#[]⟩) rfl
            have z1 := z9.cell 1 (v := .string ⟨#[]⟩) rfl
            refine bodyPost_ret (v := .tuple #[.agg #[.string ⟨#[]⟩, .string ⟨#[]⟩], .bool false]) (by simp [results, Tryd.results85, go_sem, z0, z1]) rfl ?_
            refine ⟨_, _, rfl, ?_, ((Keep.of (X := []) HB4.out).set _ _ _ (Or.inr (Nat.le_refl _))).set _ _ _ (Or.inr (Nat.le_refl _)) |>.below (by simp) (Nat.le_refl _)⟩
            have : recL (rdOf d) k = none := by unfold recL; rw [HPP.out]; simp only [HLN.out]; rw [HR.out, HRN.out]
            rw [this]
            exact ⟨rfl, _, _, rfl⟩
          | some q4 =>
            rw [hp4] at ht4
            obtain ⟨rfl, rfl⟩ : r4 = true ∧ s4 = tx q4 := ht4
            have hq4 := piece_len HOK.out hp4
            have HQ4 : Hid ((tx q4).size = 63) := hid (by rw [tx_sz, hq4])
            have HF2 : Hid (∃ f', bodyL (rdOf d) f' (j + 1) (p ++ q4) (34 + ln) = R ∧ 34 + ln ≤ (p ++ q4).length + f') := hid (by
              cases f with
              | zero => exact absurd HFF.out (by omega)
              | succ f =>
                have hf := HF.out
                rw [bodyL, if_pos hlt, hp4] at hf
                exact ⟨f, hf, by rw [List.length_append, hq4]; have := HFF.out; omega⟩)
            have HBS : Hid (w.heap.size + 1 ≤ w4.heap.size) := hid HX4.out.lt
            have HN4 : Hid (p.length + (tx q4).size ≤ 1000000) := hid (by rw [HQ4.out]; omega)
            clear hq4 hp4
            go_wp2_with (at_builtin; refine wpList_append_bx (v := .slice (some ⟨g, 0, none⟩) p.length cap) rfl _ _ rfl rfl HBX4.out _ rfl HN4.out HBS.out ?_; intro v5 w5 hbx5 hg5'; have HBX5 := hid hbx5; have HG5 := hid hg5'; clear hbx5 hg5')
            go_roundw
            case rel =>
              obtain ⟨f', hf1, hf2⟩ := HF2.out
              have hl : (p ++ q4).length = p.length + 63 := by rw [List.length_append, ← tx_sz q4, HQ4.out]
              have hne : w.heap.size ≠ g := by omega
              have hk5 := ((Keep.of (X := []) HB4.out).grown HG5.out (fun r hr => Or.inr (by simp [Value.ownBlock] at hr; omega)))
              refine ⟨j + 1, p ++ q4, f', by go_num, by omega, by omega, by omega, HBX5.out, hk5.below (by simp) (Nat.le_refl _), HX4.out.grown HG5.out (by simp [Value.ownBlock]; exact hne), hf1, hf2⟩
            case measure =>
              obtain ⟨g5, cap5, rfl, -⟩ := HBX5.out
              have hl : (p ++ q4).length = p.length + 63 := by rw [List.length_append, ← tx_sz q4, HQ4.out]
              rw [tx_list, hl]
              simp only [lnV]
              omega
        · have hltI : ¬ (p.length : Int) < 34 + (ln : Int) := by omega
          have hcapI : (34 : Int) + (ln : Int) ≤ (cap : Int) := by omega
          have hcap2 : ¬ cap = 34 := by omega
          obtain ⟨t, htx⟩ : ∃ t, (p.drop 34).take ln = t := ⟨_, rfl⟩
          have htl : ln = t.length := by rw [← htx, List.length_take, List.length_drop]; omega
          have hcv2 := to_text wr g 34 ln t (cap - 34) htl (fun i u hu => by
            have := hg5 (34 + i) u (by
              rw [← htx] at hu
              simp only [bc, List.map_take, List.map_drop, List.getElem?_take, List.getElem?_drop] at hu ⊢
              split at hu
              · exact hu
              · cases hu)
            rwa [Nat.zero_add] at this)
          have HST := hid (fun (V : World) (hV : Below w.heap.size w V) => HS.out V hV (tx t) (by rw [tx_sz, ← htl]; omega))
          rw [tx_list] at HST
          obtain ⟨sx, hsx⟩ : ∃ sx, (⟨(sumL t).toArray⟩ : ByteArray) = sx := ⟨_, rfl⟩
          rw [hsx] at HST
          have HSX := hid hsx
          clear hsx
          have HRS : Hid (R = some p) := hid (by
            rw [← HF.out]
            cases f with
            | zero => rw [bodyL, if_neg hlt]
            | succ f => rw [bodyL, if_neg hlt])
          have HTX := hid htx
          clear htx htl
          go_wp2_with (first | (go_at_call 28; fail))
          refine (HST.out wr HBL.out).mono ?_
          rintro e6 w6 ⟨rfl, hb6⟩
          have HB6 := hid (HBL.out.trans (hb6.mono HBL.out.size))
          have HX6 := hid (HXX.out.below hb6)
          clear hb6 hcv2
          have q0 := HX6.out.cell 0 rfl
          have q1 := HX6.out.cell 1 rfl
          have f0 := HX6.out.fz 0
          have f1 := HX6.out.fz 1
          have HREC : Hid (recL (rdOf d) k = if sumL t = q.take 32 then some t else none) := hid (by unfold recL; rw [HPP.out]; simp only [HLN.out]; rw [HR.out, HRS.out]; simp only [HTX.out])
          by_cases heq : sumL t = q.take 32
          · have hkk : sx = kx := by rw [HKX.out, ← HSX.out, heq]; rfl
            have HEQ := hid heq
            clear heq
            go_wp2
            have z9 := (HX6.out.set 0 (.string kx)).set 1 (.string (tx t))
            have z0 := z9.cell 0 (v := .string kx) rfl
            have z1 := z9.cell 1 (v := .string (tx t)) rfl
            refine bodyPost_ret (v := .tuple #[.agg #[.string kx, .string (tx t)], .bool true]) (by simp [results, Tryd.results85, go_sem, z0, z1]) rfl ?_
            refine ⟨_, _, rfl, ?_, ((Keep.of (X := []) HB6.out).set _ _ _ (Or.inr (Nat.le_refl _))).set _ _ _ (Or.inr (Nat.le_refl _)) |>.below (by simp) (Nat.le_refl _)⟩
            rw [HREC.out, if_pos HEQ.out]
            refine ⟨rfl, ?_⟩
            rw [HKX.out, ← HEQ.out]
            rfl
          · have hkk : ¬ sx = kx := by
              rw [HKX.out, ← HSX.out]
              intro e
              exact heq (congrArg (fun z : ByteArray => z.data.toList) e)
            have HEQ := hid heq
            clear heq
            have hkk2 : (sx.toList == kx.toList) = false := by
              exact str_ne hkk
            go_wp2
            have z9 := (HX6.out.set 0 (.string ⟨#[]⟩)).set 1 (.string ⟨#[]⟩)
            have z0 := z9.cell 0 (v := .string ⟨#[]⟩) rfl
            have z1 := z9.cell 1 (v := .string ⟨#[]⟩) rfl
            refine bodyPost_ret (v := .tuple #[.agg #[.string ⟨#[]⟩, .string ⟨#[]⟩], .bool false]) (by simp [results, Tryd.results85, go_sem, z0, z1]) rfl ?_
            refine ⟨_, _, rfl, ?_, ((Keep.of (X := []) HB6.out).set _ _ _ (Or.inr (Nat.le_refl _))).set _ _ _ (Or.inr (Nat.le_refl _)) |>.below (by simp) (Nat.le_refl _)⟩
            rw [HREC.out, if_neg HEQ.out]
            exact ⟨rfl, _, _, rfl⟩
    · have hcv := conv_run w2.drew (tx q)
      rw [hq2] at hcv
      obtain ⟨w3, hw3⟩ : ∃ w3, Lib.bytesWorld w2.drew 5 (tx q) = w3 := ⟨_, rfl⟩
      obtain ⟨c3, hc3⟩ : ∃ c3, grownCap w2.drew 63 0 5 = c3 := ⟨_, rfl⟩
      rw [hw3, hc3] at hcv
      have hbx := Bx.conv w2.drew (tx q) (by rw [hq2]; decide)
      rw [hw3, hq2, hc3, tx_list] at hbx
      have HB3 := hid (HB2d.out.trans (hbx.2.mono HB2d.out.size))
      have HX3 := hid (HX2d.out.below hbx.2)
      have HBX3 := hid (hbx.1.up (by show w.heap.size + 1 ≤ w2.heap.size; exact HX2.out.lt))
      clear hbx hw3 hc3 hA hBb
      go_wp2
      clear hcv
      obtain ⟨R, hR⟩ : ∃ R, bodyL (rdOf d) (34 + ln) k q (34 + ln) = R := ⟨_, rfl⟩
      have HR := hid hR
      clear hR
      go_loopw [1, 10] (fun pa pp wr => ∃ (j : Nat) (p : Bs) (f : Nat), pa = .int .i64 j ∧ j ≤ k + p.length ∧ 63 ≤ p.length ∧ p.length ≤ 500 ∧ Bx wr (w.heap.size + 1) pp p ∧ Below w.heap.size w wr ∧ Blk wr w.heap.size [.string ⟨#[]⟩, .string ⟨#[]⟩] ∧ bodyL (rdOf d) f j p (34 + ln) = R ∧ 34 + ln ≤ p.length + f) (fun pa pp wr => 34 + ln - lnV pp)
      case atStart => exact ⟨k, q, 34 + ln, rfl, Nat.le_add_right _ _, Nat.le_of_eq hq.symm, by rw [hq]; decide, HBX3.out, HB3.out, HX3.out, HR.out, Nat.le_add_left _ _⟩
      case round =>
        obtain ⟨j, p, f, rfl, hj, hp63, hpl, hbx, hbl, hx, hf, hff⟩ := hrel
        have HBX := hid hbx
        have HBL := hid hbl
        have HXX := hid hx
        have HFF := hid hff
        have HF := hid hf
        have HP63 := hid hp63
        obtain ⟨g, cap, rfl, hg1, hg2, hg3, hg4, hg5, -⟩ := hbx
        clear hbl hx hff hf
        by_cases hlt : p.length < 34 + ln
        · have hltI : (p.length : Int) < 34 + (ln : Int) := by omega
          have hjj : j ≤ 100500 := by omega
          go_wp2_with (first | (go_at_call 97; fail))
          refine (HP.out wr HBL.out (j + 1) 66).mono ?_
          rintro e4 w4 ⟨s4, r4, rfl, ht4, hb4⟩
          have HB4 := hid (HBL.out.trans (hb4.mono HBL.out.size))
          have HX4 := hid (HXX.out.below hb4)
          have HBX4 := hid (HBX.out.below hb4)
          clear hb4
          cases hp4 : pieceL (rdOf d) (j + 1) 66 with
          | none =>
            rw [hp4] at ht4
            obtain rfl : r4 = false := ht4
            have hRn : R = none := by
              rw [← HF.out]
              cases f with
              | zero => exact absurd HFF.out (by omega)
              | succ f => rw [bodyL, if_pos hlt, hp4]
            have HRN := hid hRn
            clear hRn
            have q0 := HX4.out.cell 0 rfl
            have q1 := HX4.out.cell 1 rfl
            have f0 := HX4.out.fz 0
            have f1 := HX4.out.fz 1
            go_wp2
            have z9 := (HX4.out.set 0 (.string ⟨#[]⟩)).set 1 (.string ⟨#[]⟩)
            have z0 := z9.cell 0 (v := .string ⟨#[]⟩) rfl
            have z1 := z9.cell 1 (v := .string ⟨#[]⟩) rfl
            refine bodyPost_ret (v := .tuple #[.agg #[.string ⟨#[]⟩, .string ⟨#[]⟩], .bool false]) (by simp [results, Tryd.results85, go_sem, z0, z1]) rfl ?_
            refine ⟨_, _, rfl, ?_, ((Keep.of (X := []) HB4.out).set _ _ _ (Or.inr (Nat.le_refl _))).set _ _ _ (Or.inr (Nat.le_refl _)) |>.below (by simp) (Nat.le_refl _)⟩
            have : recL (rdOf d) k = none := by unfold recL; rw [HPP.out]; simp only [HLN.out]; rw [HR.out, HRN.out]
            rw [this]
            exact ⟨rfl, _, _, rfl⟩
          | some q4 =>
            rw [hp4] at ht4
            obtain ⟨rfl, rfl⟩ : r4 = true ∧ s4 = tx q4 := ht4
            have hq4 := piece_len HOK.out hp4
            have HQ4 : Hid ((tx q4).size = 63) := hid (by rw [tx_sz, hq4])
            have HF2 : Hid (∃ f', bodyL (rdOf d) f' (j + 1) (p ++ q4) (34 + ln) = R ∧ 34 + ln ≤ (p ++ q4).length + f') := hid (by
              cases f with
              | zero => exact absurd HFF.out (by omega)
              | succ f =>
                have hf := HF.out
                rw [bodyL, if_pos hlt, hp4] at hf
                exact ⟨f, hf, by rw [List.length_append, hq4]; have := HFF.out; omega⟩)
            have HBS : Hid (w.heap.size + 1 ≤ w4.heap.size) := hid HX4.out.lt
            have HN4 : Hid (p.length + (tx q4).size ≤ 1000000) := hid (by rw [HQ4.out]; omega)
            clear hq4 hp4
            go_wp2_with (at_builtin; refine wpList_append_bx (v := .slice (some ⟨g, 0, none⟩) p.length cap) rfl _ _ rfl rfl HBX4.out _ rfl HN4.out HBS.out ?_; intro v5 w5 hbx5 hg5'; have HBX5 := hid hbx5; have HG5 := hid hg5'; clear hbx5 hg5')
            go_roundw
            case rel =>
              obtain ⟨f', hf1, hf2⟩ := HF2.out
              have hl : (p ++ q4).length = p.length + 63 := by rw [List.length_append, ← tx_sz q4, HQ4.out]
              have hne : w.heap.size ≠ g := by omega
              have hk5 := ((Keep.of (X := []) HB4.out).grown HG5.out (fun r hr => Or.inr (by simp [Value.ownBlock] at hr; omega)))
              refine ⟨j + 1, p ++ q4, f', by go_num, by omega, by omega, by omega, HBX5.out, hk5.below (by simp) (Nat.le_refl _), HX4.out.grown HG5.out (by simp [Value.ownBlock]; exact hne), hf1, hf2⟩
            case measure =>
              obtain ⟨g5, cap5, rfl, -⟩ := HBX5.out
              have hl : (p ++ q4).length = p.length + 63 := by rw [List.length_append, ← tx_sz q4, HQ4.out]
              rw [tx_list, hl]
              simp only [lnV]
              omega
        · have hltI : ¬ (p.length : Int) < 34 + (ln : Int) := by omega
          have hcapI : (34 : Int) + (ln : Int) ≤ (cap : Int) := by omega
          have hcap2 : ¬ cap = 34 := by omega
          obtain ⟨t, htx⟩ : ∃ t, (p.drop 34).take ln = t := ⟨_, rfl⟩
          have htl : ln = t.length := by rw [← htx, List.length_take, List.length_drop]; omega
          have hcv2 := to_text wr g 34 ln t (cap - 34) htl (fun i u hu => by
            have := hg5 (34 + i) u (by
              rw [← htx] at hu
              simp only [bc, List.map_take, List.map_drop, List.getElem?_take, List.getElem?_drop] at hu ⊢
              split at hu
              · exact hu
              · cases hu)
            rwa [Nat.zero_add] at this)
          have HST := hid (fun (V : World) (hV : Below w.heap.size w V) => HS.out V hV (tx t) (by rw [tx_sz, ← htl]; omega))
          rw [tx_list] at HST
          obtain ⟨sx, hsx⟩ : ∃ sx, (⟨(sumL t).toArray⟩ : ByteArray) = sx := ⟨_, rfl⟩
          rw [hsx] at HST
          have HSX := hid hsx
          clear hsx
          have HRS : Hid (R = some p) := hid (by
            rw [← HF.out]
            cases f with
            | zero => rw [bodyL, if_neg hlt]
            | succ f => rw [bodyL, if_neg hlt])
          have HTX := hid htx
          clear htx htl
          go_wp2_with (first | (go_at_call 28; fail))
          refine (HST.out wr HBL.out).mono ?_
          rintro e6 w6 ⟨rfl, hb6⟩
          have HB6 := hid (HBL.out.trans (hb6.mono HBL.out.size))
          have HX6 := hid (HXX.out.below hb6)
          clear hb6 hcv2
          have q0 := HX6.out.cell 0 rfl
          have q1 := HX6.out.cell 1 rfl
          have f0 := HX6.out.fz 0
          have f1 := HX6.out.fz 1
          have HREC : Hid (recL (rdOf d) k = if sumL t = q.take 32 then some t else none) := hid (by unfold recL; rw [HPP.out]; simp only [HLN.out]; rw [HR.out, HRS.out]; simp only [HTX.out])
          by_cases heq : sumL t = q.take 32
          · have hkk : sx = kx := by rw [HKX.out, ← HSX.out, heq]; rfl
            have HEQ := hid heq
            clear heq
            go_wp2
            have z9 := (HX6.out.set 0 (.string kx)).set 1 (.string (tx t))
            have z0 := z9.cell 0 (v := .string kx) rfl
            have z1 := z9.cell 1 (v := .string (tx t)) rfl
            refine bodyPost_ret (v := .tuple #[.agg #[.string kx, .string (tx t)], .bool true]) (by simp [results, Tryd.results85, go_sem, z0, z1]) rfl ?_
            refine ⟨_, _, rfl, ?_, ((Keep.of (X := []) HB6.out).set _ _ _ (Or.inr (Nat.le_refl _))).set _ _ _ (Or.inr (Nat.le_refl _)) |>.below (by simp) (Nat.le_refl _)⟩
            rw [HREC.out, if_pos HEQ.out]
            refine ⟨rfl, ?_⟩
            rw [HKX.out, ← HEQ.out]
            rfl
          · have hkk : ¬ sx = kx := by
              rw [HKX.out, ← HSX.out]
              intro e
              exact heq (congrArg (fun z : ByteArray => z.data.toList) e)
            have HEQ := hid heq
            clear heq
            have hkk2 : (sx.toList == kx.toList) = false := by
              exact str_ne hkk
            go_wp2
            have z9 := (HX6.out.set 0 (.string ⟨#[]⟩)).set 1 (.string ⟨#[]⟩)
            have z0 := z9.cell 0 (v := .string ⟨#[]⟩) rfl
            have z1 := z9.cell 1 (v := .string ⟨#[]⟩) rfl
            refine bodyPost_ret (v := .tuple #[.agg #[.string ⟨#[]⟩, .string ⟨#[]⟩], .bool false]) (by simp [results, Tryd.results85, go_sem, z0, z1]) rfl ?_
            refine ⟨_, _, rfl, ?_, ((Keep.of (X := []) HB6.out).set _ _ _ (Or.inr (Nat.le_refl _))).set _ _ _ (Or.inr (Nat.le_refl _)) |>.below (by simp) (Nat.le_refl _)⟩
            rw [HREC.out, if_neg HEQ.out]
            exact ⟨rfl, _, _, rfl⟩
end Go.Proofs.YtemcpjflpggaeaaDoor.Dk
