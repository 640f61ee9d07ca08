import Derived.Test.YtemcpjflpggaeaaDoorStoF
set_option linter.unusedSimpArgs false
set_option linter.unusedVariables false
namespace Go.Proofs.YtemcpjflpggaeaaDoor.Dk
open Go.RowKit Go.Maps

def endOf (w : World) (X : Nat) : Nat := match w.cell? ⟨X, 3, none⟩ with
  | some (.int _ n) => n.toNat
  | _ => 0
/-- No record's head tells of more than 300 bytes. -/
def Heads (d : St) : Prop := ∀ a q, pieceL (rdOf d) a 72 = some q → lenH q ≤ 300
theorem rec_len {d : St} (h : Heads d) {a : Nat} {t : Bs} (hr : recL (rdOf d) a = some t) : t.length ≤ 300 ∧ a < d.sure.length := by
  unfold recL at hr
  cases hp : pieceL (rdOf d) a 72 with
  | none => rw [hp] at hr; cases hr
  | some q =>
    have hl := h a q hp
    rw [hp] at hr
    simp only at hr
    constructor
    · cases hb : bodyL (rdOf d) (34 + lenH q) a q (34 + lenH q) with
      | none => rw [hb] at hr; cases hr
      | some p =>
        rw [hb] at hr
        simp only at hr
        split at hr
        · injection hr with hr
          rw [← hr, List.length_take]
          omega
        · cases hr
    · unfold pieceL rdOf at hp
      split at hp
      · rename_i c r hh
        split at hh
        · assumption
        · cases hh
      · cases hp
theorem mapOf_nil : mapOf [] = fun _ => none := by
  funext kl
  cases kl <;> rfl
theorem nsec_le {t : Bs} (h : t.length ≤ 300) : nsec t ≤ 6 := by unfold nsec; omega
set_option maxRecDepth 100000 in
set_option maxHeartbeats 4000000 in
theorem readAll_any {w : World} {X D S : Nat} {vw mv kv ev : Value} {sr : Bool} {d : St} (hx : Blk w X [.pointer (some ⟨D, 0, none⟩), mv, kv, ev, .bool sr]) (ha : At w D S vw d) (hE : EnvK w) (hh : Heads d) (hs : d.sure.length ≤ 600) (hXD : X ∉ blocks D S vw) (hXG : 1 ≠ X) {ts : List Bs} {e : Nat} (hall : allL (rdOf d) d.sure.length 2 [] = (ts, e)) :
    Calls Tryd.prog 71 #[.pointer (some ⟨X, 0, none⟩)] w fun e1 w' => e1 = .returned (.tuple #[]) ∧ ∃ M n B kv', Mem w' X D M n B kv' ts e sr ∧ At w' D S vw d ∧ Keep [X] w w' ∧ w.heap.size ≤ M ∧ w.heap.size < B ∧ B ≤ w'.heap.size ∧ n ≤ ts.length := by
  have hmk : ∀ V : World, (Instr.makeMap 88 none).run Tryd.prog V = .ok (.map (some V.heap.size)) (V.alloc (.map #[] 0)) := fun V => by kernel_rfl
  obtain ⟨w0, hw0⟩ : ∃ w0, w.alloc (.map #[] 0) = w0 := ⟨_, rfl⟩
  have hx0 := hx.alloc (.map #[] 0)
  rw [hw0] at hx0
  have c1 := hx0.cell 1 (v := mv) rfl
  have c2 := hx0.cell 2 (v := kv) rfl
  have c3 := hx0.cell 3 (v := ev) rfl
  have f1 := hx0.fz 1
  have f2 := hx0.fz 2
  have f3 := hx0.fz 3
  have hxl := hx.lt
  obtain ⟨w1, hw1⟩ : ∃ w1, ((w0.setCell ⟨X, 1, none⟩ (.map (some w.heap.size))).setCell ⟨X, 2, none⟩ (.slice none 0 0)).setCell ⟨X, 3, none⟩ (.int .i64 2) = w1 := ⟨_, rfl⟩
  have k1 : Keep [X] w w1 := by
    rw [← hw1, ← hw0]
    exact ((((Keep.refl [X] w).alloc _).set _ _ _ (Or.inl (by simp))).set _ _ _ (Or.inl (by simp))).set _ _ _ (Or.inl (by simp))
  have M1 : Mem w1 X D w.heap.size 0 (w.heap.size + 1) (.slice none 0 0) [] 2 sr := by
    refine ⟨?_, ?_, World.ownsRow_nil _ _ _ _, Nat.ne_of_lt hxl, Nat.lt_succ_of_lt hxl, Nat.lt_succ_self _⟩
    · rw [← hw1]
      exact ((hx0.set 1 _).set 2 _).set 3 _
    · rw [mapOf_nil]
      have m0 := MapIs.made w 9
      rw [hw0] at m0
      rw [← hw1]
      have q : w.heap.size ≠ X := Nat.ne_of_gt hxl
      exact ((m0.block (Below.heap_setCell _ _ _ _ (by simpa using q))).block (Below.heap_setCell _ _ _ _ (by simpa using q))).block (Below.heap_setCell _ _ _ _ (by simpa using q))
  have A1 : At w1 D S vw d := ha.keep k1 (fun b hb => by simp; intro q; subst q; exact hXD hb)
  have HS1 : Hid (w.heap.size + 1 ≤ w1.heap.size) := hid (by rw [← hw1, ← hw0]; simp)
  have HM1 := hid M1
  have HA1 := hid A1
  have HK1 := hid k1
  have HX := hid (show ∀ b ∈ blocks D S vw, b < w.heap.size from ha.blocks_lt)
  have HE : Hid (∀ V, Keep [X] w V → EnvK V) := hid (fun V hV j hj => by
    rw [World.cell?_of_block (hV.block _ hE.lt (by simpa using hXG))]
    exact hE j hj)
  clear M1 A1 k1 hx hx0
  go_enter Tryd.func71, Tryd.ntmps71
  go_wp2
  go_loopw [] (fun wr => ∃ (f : Nat) (acc : List Bs) (a n B : Nat) (kv' : Value), Mem wr X D w.heap.size n B kv' acc a sr ∧ At wr D S vw d ∧ Keep [X] w wr ∧ w.heap.size < B ∧ B ≤ wr.heap.size ∧ allL (rdOf d) f a acc = (ts, e) ∧ d.sure.length ≤ a + f ∧ a ≤ 610 ∧ n ≤ acc.length ∧ acc.length + 2 ≤ a) (fun wr => 1000 - endOf wr X)
  case atStart => exact ⟨d.sure.length, [], 2, 0, w.heap.size + 1, .slice none 0 0, HM1.out, HA1.out, HK1.out, Nat.lt_succ_self _, HS1.out, hall, Nat.le_add_left _ _, by decide, Nat.le_refl _, Nat.le_refl _⟩
  case round =>
    obtain ⟨f, acc, a, n, B, kv', hm, hat, hk, hB1, hB2, hal, hfu, ha6, hna, hacc⟩ := hrel
    have HM := hid hm
    have HAT := hid hat
    have HK := hid hk
    have d3 := hm.head.cell 3 (v := .int .i64 a) rfl
    have HR := hid (read_any2 hm hat (HE.out wr hk) a (Nat.le_trans ha6 (by decide)) (hh a))
    have HALL := hid hal
    clear hm hat hk hal
    go_wp2_with (first | (go_at_call 85; fail))
    refine HR.out.mono ?_
    rintro e2 w2 ⟨v2, r2, rfl, ht2, hb2⟩
    have HM2 := hid (HM.out.below hb2)
    have HA2 := hid (HAT.out.below hb2)
    have HK2 := hid (HK.out.then (Keep.of (X := []) hb2) (by simp))
    have HZ2 := hid hb2.size
    clear hb2
    cases hr : recL (rdOf d) a with
    | none =>
      rw [hr] at ht2
      obtain ⟨rfl, xa, xb, rfl⟩ := ht2
      have HDONE : Hid (acc = ts ∧ a = e) := hid (by
        have := HALL.out
        cases f with
        | zero => exact Prod.mk.inj this
        | succ f =>
          rw [allL, hr] at this
          exact Prod.mk.inj this)
      go_wp2
      refine bodyPost_ret (results_none rfl _ _ _) rfl ?_
      obtain ⟨rfl, rfl⟩ := HDONE.out
      have hb := (Below.refl w2.heap.size w2).alloc (Nat.le_refl _) (.cells #[.string xa, .string xb] 92)
      exact ⟨rfl, _, _, _, _, HM2.out.below hb, HA2.out.below hb, HK2.out.then (Keep.of (X := []) hb) (by simp), Nat.le_refl _, hB1, Nat.le_trans hB2 (Nat.le_trans HZ2.out hb.size), hna⟩
    | some t =>
      rw [hr] at ht2
      obtain ⟨rfl, rfl⟩ : r2 = true ∧ v2 = recV t := ht2
      obtain ⟨htl, hal⟩ := rec_len hh hr
      obtain ⟨w3, hw3⟩ : ∃ w3, w2.alloc (.cells #[.string (tx (sumL t)), .string (tx t)] 92) = w3 := ⟨_, rfl⟩
      have hb3 : Below w2.heap.size w2 w3 := by rw [← hw3]; exact (Below.refl _ w2).alloc (Nat.le_refl _) _
      have X3 : Blk w3 w2.heap.size [.string (tx (sumL t)), .string (tx t)] := by rw [← hw3]; exact Blk.new w2 _ _ _ rfl
      have x0 := X3.cell 0 rfl
      have HX3 := hid X3
      have HM3 := hid (HM2.out.below hb3)
      have HA3 := hid (HA2.out.below hb3)
      have HK3 := hid (HK2.out.then (Keep.of (X := []) hb3) (by simp))
      have HZ3 := hid (Nat.le_trans HZ2.out hb3.size)
      have HH := hid (has_any2 (k := sumL t) HM3.out (by rw [sumL_len]; decide))
      clear hb3 X3
      unfold recV
      by_cases hin : sumL t ∈ acc.map sumL
      · have HDONE : Hid (acc = ts ∧ a = e) := hid (by
          have := HALL.out
          cases f with
          | zero => exact Prod.mk.inj this
          | succ f =>
            rw [allL, hr] at this
            simp only at this
            rw [if_pos hin] at this
            exact Prod.mk.inj this)
        rw [show decide (sumL t ∈ acc.map sumL) = true by simpa using hin] at HH
        clear hin
        go_wp2_with (first | (go_at_call 53; refine HH.out.mono ?_; rintro e4 w4 ⟨rfl, hb4⟩; have HB4 := hid hb4; clear hb4))
        refine bodyPost_ret (results_none rfl _ _ _) rfl ?_
        obtain ⟨rfl, rfl⟩ := HDONE.out
        exact ⟨rfl, _, _, _, _, HM3.out.below HB4.out, HA3.out.below HB4.out, HK3.out.then (Keep.of (X := []) HB4.out) (by simp), Nat.le_refl _, hB1, Nat.le_trans hB2 (Nat.le_trans HZ3.out HB4.out.size), hna⟩
      · have HNX : Hid (∃ f', allL (rdOf d) f' (a + nsec t) (acc ++ [t]) = (ts, e) ∧ d.sure.length ≤ a + nsec t + f') := hid (by
          have := HALL.out
          cases f with
          | zero => exact absurd hal (Nat.not_lt.2 (by simpa using hfu))
          | succ f =>
            rw [allL, hr] at this
            simp only at this
            rw [if_neg hin] at this
            exact ⟨f, this, by have := nsec_pos t; omega⟩)
        have HIN := hid hin
        rw [show decide (sumL t ∈ acc.map sumL) = false by simpa using hin] at HH
        clear hin
        go_wp2_with (first | (go_at_call 53; refine HH.out.mono ?_; rintro e4 w4 ⟨rfl, hb4⟩; have HB4 := hid hb4; have X4 := HX3.out.below hb4; have y0 := X4.cell 0 rfl; have y1 := X4.cell 1 rfl; clear hb4 X4) | (go_at_call 57; fail))
        have M4 := HM3.out.below HB4.out
        refine (add_any M4 t htl (by omega) (by omega) (by omega) HIN.out (Nat.le_trans hB2 (Nat.le_trans HZ3.out HB4.out.size))).mono ?_
        rintro e5 w5 ⟨rfl, kv5, hm5, hk5, hv5⟩
        have HM5 := hid hm5
        have HK5 := hid hk5
        clear hm5 hk5 hv5
        go_wp2
        go_roundw
        case rel =>
          obtain ⟨f', q1, q2⟩ := HNX.out
          have hns := nsec_le htl
          have hnp := nsec_pos t
          have hkv : ∀ b ∈ memB X w.heap.size kv', b = X ∨ w.heap.size ≤ b := by
            intro b hb
            simp only [memB, List.mem_cons, Option.mem_toList] at hb
            rcases hb with rfl | rfl | hb
            · exact Or.inl rfl
            · exact Or.inr (Nat.le_refl _)
            · exact Or.inr (by have := ((lst_own HM.out.keys).2 b hb).1; omega)
          have hk4 := HK3.out.then (Keep.of (X := []) HB4.out) (by simp)
          refine ⟨f', acc ++ [t], a + nsec t, n + 1, B, kv5, HM5.out, ?_, hk4.then HK5.out (fun y hy => (hkv y hy).imp (fun q => by simp [q]) id), hB1, Nat.le_trans hB2 (Nat.le_trans HZ3.out (Nat.le_trans HB4.out.size HK5.out.size)), q1, q2, by omega, by simp; omega, by simp; omega⟩
          refine (HA3.out.below HB4.out).keep HK5.out (fun b hb hq => ?_)
          rcases hkv b hq with q | q
          · subst q; exact hXD hb
          · have := HX.out b hb; omega
        case measure =>
          have e1 : endOf w5 X = a + nsec t := by unfold endOf; rw [HM5.out.head.cell 3 rfl]; rfl
          have e2 : endOf wr X = a := by unfold endOf; rw [d3]; rfl
          have hnp := nsec_pos t
          rw [e1, e2]
          omega
theorem settled_same {d : St} (h : d.ws = []) : d.settled allK = d := by
  obtain ⟨s, w, f⟩ := d
  simp only at h
  subst h
  rfl
set_option maxHeartbeats 400000 in
theorem settle_sure {X D M n B : Nat} {kv : Value} {ts : List Bs} {w : World} {e : Nat} (h : Mem w X D M n B kv ts e true) :
    Calls Tryd.prog 51 #[.pointer (some ⟨X, 0, none⟩)] w fun e1 w' => e1 = .returned (.tuple #[]) ∧ w' = w := by
  have c4 := h.head.cell 4 (v := .bool true) rfl
  go_enter Tryd.func51, Tryd.ntmps51
  go_wp2
  refine bodyPost_ret (results_none rfl _ _ _) rfl ?_
  exact ⟨rfl, rfl⟩
set_option maxRecDepth 100000 in
set_option maxHeartbeats 1000000 in
theorem settle_new {w : World} {X D S : Nat} {vw mv kv ev : Value} {d : St} (hx : Blk w X [.pointer (some ⟨D, 0, none⟩), mv, kv, ev, .bool false]) (ha : At w D S vw d) (hE : EnvK w) (hws : d.ws = []) (hfu : d.fuse = -1) (hh : Heads d) (hs : d.sure.length ≤ 600) (hXD : X ∉ blocks D S vw) (hXG : 1 ≠ X) (hDG : 1 ≠ D) (hSG : 1 ≠ S) {ts : List Bs} {e : Nat} (hall : allL (rdOf d) d.sure.length 2 [] = (ts, e)) :
    Calls Tryd.prog 51 #[.pointer (some ⟨X, 0, none⟩)] w fun e1 w' => e1 = .returned (.tuple #[]) ∧ ∃ M n B kv', Mem w' X D M n B kv' ts e true ∧ At w' D S (.slice none 0 0) d ∧ Keep [X, D, S] w w' ∧ w.heap.size ≤ M ∧ w.heap.size < B ∧ B ≤ w'.heap.size ∧ n ≤ ts.length := by
  have c4 := hx.cell 4 (v := .bool false) rfl
  have c0 := hx.cell 0 (v := .pointer (some ⟨D, 0, none⟩)) rfl
  have HSY := hid (sfree D S vw d w ha hfu)
  rw [settled_same hws] at HSY
  have HXX := hid hx
  have hne : X ≠ D ∧ X ≠ S := ⟨fun q => hXD (by simp [blocks, q]), fun q => hXD (by simp [blocks, q])⟩
  have HNE := hid hne
  clear hne
  go_enter Tryd.func51, Tryd.ntmps51
  go_wp2_with (first | (go_at_call 15; refine HSY.out.mono ?_; rintro e1 w1 ⟨rfl, a1, k1⟩; have X1 := HXX.out.keep k1 (by simp [HNE.out.1, HNE.out.2]); have HX1 := hid X1; have HA1 := hid a1; have HK1 := hid k1; have d4 := X1.cell 4 (v := .bool false) rfl; have f4 := X1.fz 4; clear X1 a1 k1) | (go_at_call 71; fail))
  obtain ⟨w2, hw2⟩ : ∃ w2, w1.setCell ⟨X, 4, none⟩ (.bool true) = w2 := ⟨_, rfl⟩
  rw [hw2]
  have k2 : Keep [X] w1 w2 := by rw [← hw2]; exact (Keep.refl [X] w1).set _ _ _ (Or.inl (by simp))
  have x2 := HX1.out.set 4 (.bool true)
  rw [hw2] at x2
  have hXD' : X ∉ blocks D S (.slice none 0 0) := by rw [blocks_none]; simp [HNE.out.1, HNE.out.2]
  have a2 := HA1.out.keep k2 (fun b hb => by simp; intro q; subst q; exact hXD' hb)
  have k12 : Keep [X, D, S] w w2 := (HK1.out.sub (Y := [X, D, S]) (by intro y hy; simp at hy ⊢; rcases hy with rfl | rfl <;> simp)).then k2 (by simp)
  have e2 : EnvK w2 := fun j hj => by
    rw [World.cell?_of_block (k12.block _ hE.lt (by simp [hXG, hDG, hSG]))]
    exact hE j hj
  refine (readAll_any x2 a2 e2 hh hs hXD' hXG hall).mono ?_
  rintro e3 w3 ⟨rfl, M, n, B, kv', q1, q2, q3, q4, q5, q6, q7⟩
  have HF := hid (And.intro q1 (And.intro q2 (And.intro (k12.then q3 (by simp)) (And.intro (Nat.le_trans k12.size q4) (And.intro (Nat.lt_of_le_of_lt k12.size q5) (And.intro q6 q7))))))
  clear q1 q2 q3 q4 q5 q6 q7 k12 e2 a2 x2
  go_wp2
  go_end0
  exact ⟨rfl, M, n, B, kv', HF.out⟩
set_option maxRecDepth 100000 in
set_option maxHeartbeats 1000000 in
theorem open_any {w : World} {D S : Nat} {vw : Value} {d : St} (ha : At w D S vw d) (hE : EnvK w) (hws : d.ws = []) (hfu : d.fuse = -1) (hh : Heads d) (hs : d.sure.length ≤ 600) (hDG : 1 ≠ D) (hSG : 1 ≠ S) {ts : List Bs} {e : Nat} (hall : allL (rdOf d) d.sure.length 2 [] = (ts, e)) :
    Calls Tryd.prog 23 #[.pointer (some ⟨D, 0, none⟩)] w fun e1 w' => ∃ X M n B kv', e1 = .returned (.tuple #[.pointer (some ⟨X, 0, none⟩), .nilIface]) ∧ Mem w' X D M n B kv' ts e true ∧ At w' D S (.slice none 0 0) d ∧ Keep [D, S] w w' ∧ w.heap.size ≤ X ∧ w.heap.size ≤ M ∧ w.heap.size < B ∧ B ≤ w'.heap.size ∧ n ≤ ts.length := by
  obtain ⟨w1, hw1⟩ : ∃ w1, w.alloc (.cells #[.pointer (some ⟨D, 0, none⟩), .map none, .slice none 0 0, .int .i64 0, .bool false] 90) = w1 := ⟨_, rfl⟩
  have hb1 : Below w.heap.size w w1 := by rw [← hw1]; exact (Below.refl _ w).alloc (Nat.le_refl _) _
  have X1 : Blk w1 w.heap.size [.pointer (some ⟨D, 0, none⟩), .map none, .slice none 0 0, .int .i64 0, .bool false] := by rw [← hw1]; exact Blk.new w _ _ _ rfl
  have hXD : w.heap.size ∉ blocks D S vw := fun hq => absurd (ha.blocks_lt _ hq) (Nat.lt_irrefl _)
  have HST := hid (settle_new X1 (ha.below hb1) (hE.below hb1) hws hfu hh hs hXD (Nat.ne_of_lt hE.lt) hDG hSG hall)
  have HB1 := hid hb1
  clear hb1 X1
  go_enter Tryd.func23, Tryd.ntmps23
  go_wp2_with (first | (go_at_call 51; refine HST.out.mono ?_; rintro e2 w2 ⟨rfl, M, n, B, kv', hq⟩; have HF := hid hq; clear hq))
  refine bodyPost_ret (v := .tuple #[.pointer (some ⟨w.heap.size, 0, none⟩), .nilIface]) (by simp [results, Tryd.results23, go_sem]) rfl ?_
  obtain ⟨q1, q2, q3, q4, q5, q6, q7⟩ := HF.out
  refine ⟨w.heap.size, M, n, B, kv', rfl, q1, q2, ?_, Nat.le_refl _, Nat.le_trans HB1.out.size q4, Nat.lt_of_le_of_lt HB1.out.size q5, q6, q7⟩
  refine (Keep.of (X := [D, S]) HB1.out).then q3 (fun y hy => ?_)
  simp at hy ⊢
  rcases hy with rfl | rfl | rfl
  · exact Or.inr (Nat.le_refl _)
  · exact Or.inl (Or.inl rfl)
  · exact Or.inl (Or.inr rfl)
end Go.Proofs.YtemcpjflpggaeaaDoor.Dk
