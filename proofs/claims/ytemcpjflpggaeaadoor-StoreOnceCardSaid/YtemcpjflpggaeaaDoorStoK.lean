import Derived.Test.YtemcpjflpggaeaaDoorStoJ
set_option linter.unusedSimpArgs false
set_option linter.unusedVariables false
namespace Go.Proofs.YtemcpjflpggaeaaDoor.Dk
open Go.RowKit Go.Maps Go.Shelf
attribute [local go_sem] Oper.semAt_some

set_option maxHeartbeats 400000 in
theorem chunkf_any (va : Option Addr) (vn vc : Nat) (w : World) : Calls Tryd.prog 73 #[.slice va vn vc, .int .i64 63] w fun e w' => e = .returned (.func (.func 86) #[] #[.pointer (some ⟨w.heap.size, 0, none⟩), .pointer (some ⟨w.heap.size + 1, 0, none⟩)]) ∧ Blk w' w.heap.size [.slice va vn vc] ∧ Blk w' (w.heap.size + 1) [.int .i64 63] ∧ Below w.heap.size w w' := by
  have hmf : ∀ (fn : Fn) (first cap : Array Value) (w : World), (Instr.makeFunc fn first cap).run Tryd.prog w = .ok (.func fn first cap) w := fun _ _ _ _ => rfl
  go_enter Tryd.func73, Tryd.ntmps73
  go_wp2
  go_ret
  exact ⟨rfl, (Blk.new w [.slice va vn vc] _ _ rfl).alloc _, Blk.new (w.alloc _) [.int .i64 63] _ _ (by simp), ((Below.refl _ w).alloc (Nat.le_refl _) _).alloc (by simp) _⟩
/-- A disk behind so many writes of a record. -/
def wrN (d : St) (t : Bs) (e : Nat) : Nat → St
  | 0 => d
  | j + 1 => (wrN d t e j).burnt.wrote (e + j) (markB j :: chunkL t j)
theorem wrN_sure (d : St) (t : Bs) (e : Nat) : ∀ j, (wrN d t e j).sure = d.sure
  | 0 => rfl
  | j + 1 => wrN_sure d t e j
theorem wrN_ws (d : St) (t : Bs) (e : Nat) : ∀ j, (wrN d t e j).ws.length = d.ws.length + j
  | 0 => rfl
  | j + 1 => by
    show ((wrN d t e j).ws ++ [_]).length = _
    rw [List.length_append, wrN_ws d t e j]
    rfl
/-- What a write of a record holds, so many sectors behind it. -/
structure Wi (H : Nat) (W0 W : World) (D S : Nat) (vw : Value) (d : St) (t : Bs) (e r : Nat) : Prop where
  dk : ∃ vw', At W D S vw' (wrN d t e r) ∧ ∀ b ∈ blocks D S vw', b ∈ blocks D S vw ∨ W0.heap.size + 2 ≤ b
  at_ : Blk W (H + 1 + 1 + 1) [.int .i64 ((e + r : Nat) : Int)]
  mrk : Blk W (H + 1 + 1 + 1 + 1) [.string ⟨#[markB r]⟩]
  keep : Keep ((H + 1 + 1 + 1) :: (H + 1 + 1 + 1 + 1) :: blocks D S vw) W0 W
structure Wx (H : Nat) (W0 W : World) (D S : Nat) (vw : Value) (d : St) (t : Bs) (e r : Nat) : Prop where
  dk : ∃ vw', At W D S vw' (wrN d t e r).burnt ∧ ∀ b ∈ blocks D S vw', b ∈ blocks D S vw ∨ W0.heap.size + 2 ≤ b
  err : Blk W (H + 1 + 1) [.iface 52 (.int .i64 14)]
  dd : (wrN d t e r).live = false
  keep : Keep ((H + 1 + 1) :: (H + 1 + 1 + 1) :: (H + 1 + 1 + 1 + 1) :: blocks D S vw) W0 W
theorem Wi.mv {H : Nat} {W0 W W' : World} {D S : Nat} {vw : Value} {d : St} {t : Bs} {e r : Nat} (h : Wi H W0 W D S vw d t e r) {Y : List Nat} (hk : Keep Y W W') (hY : ∀ y ∈ Y, y = W0.heap.size ∨ y = W0.heap.size + 1) (hlt : ∀ b ∈ blocks D S vw, b < W0.heap.size) (hH : H + 1 + 1 + 1 + 1 < W0.heap.size) : Wi H W0 W' D S vw d t e r := by
  obtain ⟨vw', ha, hb⟩ := h.dk
  refine ⟨⟨vw', ha.keep hk (fun b hb' hq => ?_), hb⟩, h.at_.keep hk (fun hq => ?_), h.mrk.keep hk (fun hq => ?_), h.keep.then hk (fun y hy => Or.inr (by have := hY y hy; omega))⟩
  · have := hY b hq
    rcases hb b hb' with q | q
    · have := hlt b q; omega
    · omega
  · have := hY _ hq; omega
  · have := hY _ hq; omega
theorem Wx.mv {H : Nat} {W0 W W' : World} {D S : Nat} {vw : Value} {d : St} {t : Bs} {e r : Nat} (h : Wx H W0 W D S vw d t e r) {Y : List Nat} (hk : Keep Y W W') (hY : ∀ y ∈ Y, y = W0.heap.size ∨ y = W0.heap.size + 1) (hlt : ∀ b ∈ blocks D S vw, b < W0.heap.size) (hH : H + 1 + 1 + 1 + 1 < W0.heap.size) : Wx H W0 W' D S vw d t e r := by
  obtain ⟨vw', ha, hb⟩ := h.dk
  refine ⟨⟨vw', ha.keep hk (fun b hb' hq => ?_), hb⟩, h.err.keep hk (fun hq => ?_), h.dd, h.keep.then hk (fun y hy => Or.inr (by have := hY y hy; omega))⟩
  · have := hY b hq
    rcases hb b hb' with q | q
    · have := hlt b q; omega
    · omega
  · have := hY _ hq; omega
theorem keep_put (W : World) (l : Nat) (o : Obj) : Keep [l] W (W.putObj l o) := by
  have := grownBy_putObj' W l o
  exact ⟨this.os, this.tape, this.output, this.size, fun q hq hne => this.block q hq (by simpa using hne)⟩
theorem nsec_ch (t : Bs) : chN (packL t).length = nsec t := by rw [packL_len]; rfl
theorem ch_len (t : Bs) (r : Nat) (h : r < nsec t) : chM (packL t).length r = (chunkL t r).length := by
  unfold chM chunkL
  rw [List.length_take, List.length_drop]
theorem ch_64 (t : Bs) (r : Nat) : (chunkL t r).length ≤ 63 := by unfold chunkL; rw [List.length_take]; omega
theorem mark_str (r : Nat) (c : Bs) : (⟨#[markB r]⟩ : ByteArray) ++ tx c = tx (markB r :: c) := by
  apply ByteArray.ext
  simp [tx, ByteArray.data_append]
theorem mark_next (r : Nat) : markB (r + 1) = 66 := by simp [markB]
theorem blk_next {D S : Nat} {vw' vw4 : Value} {n : Nat} (v4 : vw4.ownBlock = vw'.ownBlock ∨ ∃ g, vw4.ownBlock = some g ∧ n ≤ g) : ∀ b ∈ blocks D S vw4, b ∈ blocks D S vw' ∨ n ≤ b := by
  intro b hb
  simp only [blocks, List.mem_cons, Option.mem_toList] at hb ⊢
  rcases hb with rfl | rfl | hb
  · exact Or.inl (Or.inl rfl)
  · exact Or.inl (Or.inr (Or.inl rfl))
  · rcases v4 with q | ⟨g, q, hg⟩
    · exact Or.inl (Or.inr (Or.inr (q ▸ hb)))
    · rw [q] at hb
      injection hb with hb
      exact Or.inr (hb ▸ hg)
theorem wi_step {H k : Nat} {W0 W2 W4 : World} {D S : Nat} {vw vw' vw4 : Value} {d : St} {t : Bs} {e r : Nat} {mk : Value} (hI : Wi H W0 W2 D S vw d t e r) (hvb : ∀ b ∈ blocks D S vw', b ∈ blocks D S vw ∨ W0.heap.size + 2 ≤ b) (K4 : Keep (blocks D S vw') W2 W4) (a4 : At W4 D S vw4 (wrN d t e (r + 1)))
    (v4 : vw4.ownBlock = vw'.ownBlock ∨ ∃ g, vw4.ownBlock = some g ∧ W2.heap.size ≤ g) (t3 : Blk W4 (H + 1 + 1 + 1) [.int .i64 (k : Int)]) (t4 : Blk W4 (H + 1 + 1 + 1 + 1) [mk]) (hk : e + r = k) (hl : W0.heap.size + 1 < W2.heap.size) (hbl : ∀ b ∈ blocks D S vw, b < W0.heap.size) (hH : H + 1 + 1 + 1 + 1 < W0.heap.size) (hno : ∀ b, H ≤ b → b ∉ blocks D S vw) :
    (((W4.setCell ⟨H + 1 + 1 + 1, 0, none⟩ (.int .i64 ((k : Int) + 1))).setCell ⟨H + 1 + 1 + 1 + 1, 0, none⟩ (.string ⟨#[66]⟩)).heap[W0.heap.size + 1]? = W2.heap[W0.heap.size + 1]? ∧ ((W4.setCell ⟨H + 1 + 1 + 1, 0, none⟩ (.int .i64 ((k : Int) + 1))).setCell ⟨H + 1 + 1 + 1 + 1, 0, none⟩ (.string ⟨#[66]⟩)).heap[W0.heap.size]? = W2.heap[W0.heap.size]?) ∧ Wi H W0 ((W4.setCell ⟨H + 1 + 1 + 1, 0, none⟩ (.int .i64 ((k : Int) + 1))).setCell ⟨H + 1 + 1 + 1 + 1, 0, none⟩ (.string ⟨#[66]⟩)) D S vw d t e (r + 1) := by
  have k5 : Keep [H + 1 + 1 + 1, H + 1 + 1 + 1 + 1] W4 ((W4.setCell ⟨H + 1 + 1 + 1, 0, none⟩ (.int .i64 ((k : Int) + 1))).setCell ⟨H + 1 + 1 + 1 + 1, 0, none⟩ (.string ⟨#[66]⟩)) := ((Keep.refl _ W4).set _ _ _ (Or.inl (by simp))).set _ _ _ (Or.inl (by simp))
  have hnv : ∀ b, b = W0.heap.size ∨ b = W0.heap.size + 1 → b ∉ blocks D S vw' := fun b hb hq => by
    rcases hvb b hq with q | q
    · have := hbl b q; omega
    · omega
  have hs4 := K4.size
  have hb4 := blk_next (D := D) (S := S) v4
  refine ⟨⟨?_, ?_⟩, ⟨⟨vw4, a4.keep k5 (fun b hb hq => ?_), fun b hb => ?_⟩, ?_, ?_, ?_⟩⟩
  · rw [k5.block _ (by omega) (by simp; omega)]
    exact K4.block _ hl (hnv _ (Or.inr rfl))
  · rw [k5.block _ (by omega) (by simp; omega)]
    exact K4.block _ (by omega) (hnv _ (Or.inl rfl))
  · simp at hq
    rcases hb4 b hb with q | q
    · rcases hvb b q with q | q
      · exact hno b (by omega) q
      · omega
    · omega
  · rcases hb4 b hb with q | q
    · exact hvb b q
    · exact Or.inr (by omega)
  · have := (t3.set 0 (.int .i64 ((k : Int) + 1))).other 0 (.string ⟨#[66]⟩) (show H + 1 + 1 + 1 ≠ H + 1 + 1 + 1 + 1 by omega)
    rw [show ((e + (r + 1) : Nat) : Int) = (k : Int) + 1 by omega]
    exact this
  · rw [mark_next]
    exact (t4.other 0 _ (show H + 1 + 1 + 1 + 1 ≠ H + 1 + 1 + 1 by omega)).set 0 _
  · refine (hI.keep.then K4 (fun y hy => ?_)).then k5 (fun y hy => Or.inl (by simp at hy ⊢; rcases hy with rfl | rfl <;> simp))
    rcases hvb y hy with q | q
    · exact Or.inl (by simp [q])
    · exact Or.inr (by omega)
theorem wx_step {H : Nat} {W0 W2 W4 : World} {D S : Nat} {vw vw' : Value} {d : St} {t : Bs} {e r : Nat} {er : Value} (hI : Wi H W0 W2 D S vw d t e r) (hvb : ∀ b ∈ blocks D S vw', b ∈ blocks D S vw ∨ W0.heap.size + 2 ≤ b) (K4 : Keep (blocks D S vw') W2 W4) (a4 : At W4 D S vw' (wrN d t e r).burnt) (hdd : (wrN d t e r).live = false)
    (t2 : Blk W4 (H + 1 + 1) [er]) (hl : W0.heap.size + 1 < W2.heap.size) (hbl : ∀ b ∈ blocks D S vw, b < W0.heap.size) (hH : H + 1 + 1 + 1 + 1 < W0.heap.size) (hno : ∀ b, H ≤ b → b ∉ blocks D S vw) :
    ((W4.setCell ⟨H + 2, 0, none⟩ (.iface 52 (.int .i64 14))).heap[W0.heap.size + 1]? = W2.heap[W0.heap.size + 1]? ∧ (W4.setCell ⟨H + 2, 0, none⟩ (.iface 52 (.int .i64 14))).heap[W0.heap.size]? = W2.heap[W0.heap.size]?) ∧ Wx H W0 (W4.setCell ⟨H + 2, 0, none⟩ (.iface 52 (.int .i64 14))) D S vw d t e r := by
  have k5 : Keep [H + 2] W4 (W4.setCell ⟨H + 2, 0, none⟩ (.iface 52 (.int .i64 14))) := (Keep.refl _ W4).set _ _ _ (Or.inl (by simp))
  have hnv : ∀ b, b = W0.heap.size ∨ b = W0.heap.size + 1 → b ∉ blocks D S vw' := fun b hb hq => by
    rcases hvb b hq with q | q
    · have := hbl b q; omega
    · omega
  have hs4 := K4.size
  refine ⟨⟨?_, ?_⟩, ⟨⟨vw', a4.keep k5 (fun b hb hq => ?_), hvb⟩, t2.set 0 _, hdd, ?_⟩⟩
  · rw [k5.block _ (by omega) (by simp; omega)]
    exact K4.block _ hl (hnv _ (Or.inr rfl))
  · rw [k5.block _ (by omega) (by simp; omega)]
    exact K4.block _ (by omega) (hnv _ (Or.inl rfl))
  · simp at hq
    rcases hvb b hb with q | q
    · exact hno b (by omega) q
    · omega
  · have h1 : Keep ((H + 1 + 1) :: (H + 1 + 1 + 1) :: (H + 1 + 1 + 1 + 1) :: blocks D S vw) W0 W2 := hI.keep.sub (fun y hy => Or.inl (List.mem_cons_of_mem _ hy))
    refine (h1.then K4 (fun y hy => ?_)).then k5 (fun y hy => Or.inl (by simp at hy; simp [hy]))
    rcases hvb y hy with q | q
    · exact Or.inl (by simp [q])
    · exact Or.inr (by omega)
set_option maxRecDepth 100000 in
set_option maxHeartbeats 8000000 in
theorem write_any2 {X M n : Nat} {kv : Value} {ts : List Bs} {w : World} {D B e : Nat} {sr : Bool} (h : Mem w X D M n B kv ts e sr) {S : Nat} {vw : Value} {d : St} (ha : At w D S vw d) (hXD : X ∉ blocks D S vw) (t : Bs) (ht : t.length ≤ 300) (hroom : e + nsec t ≤ d.sure.length) (hsz : d.sure.length ≤ 600) (hws : d.ws.length ≤ 100) :
    Calls Tryd.prog 56 #[.pointer (some ⟨X, 0, none⟩), recV t] w fun e1 w' => ∃ er vw' d', e1 = .returned er ∧ At w' D S vw' d' ∧ Keep (blocks D S vw) w w' ∧ (∀ b ∈ blocks D S vw', b ∈ blocks D S vw ∨ w.heap.size ≤ b) ∧ ((er = .nilIface ∧ vw' = .slice none 0 0 ∧ d' = (wrN d t e (nsec t)).burnt.settled allK) ∨ (er = .iface 52 (.int .i64 14) ∧ ∃ j, j ≤ nsec t ∧ (wrN d t e j).live = false ∧ d' = (wrN d t e j).burnt)) := by
  obtain ⟨H, hH⟩ : ∃ H, w.heap.size = H := ⟨_, rfl⟩
  obtain ⟨w1, hw1⟩ : ∃ w1, ((((w.alloc (.cells #[.pointer (some ⟨X, 0, none⟩)] 46)).alloc (.cells #[.string (tx (sumL t)), .string (tx t)] 92)).alloc (.cells #[.nilIface] 30)).alloc (.cells #[.int .i64 (e : Int)] 3)).alloc (.cells #[.string ⟨#[72]⟩] 9) = w1 := ⟨_, rfl⟩
  have hb1 : Below w.heap.size w w1 := by
    rw [← hw1]
    exact (((((Below.refl _ w).alloc (Nat.le_refl _) _).alloc (by simp) _).alloc (by simp; omega) _).alloc (by simp; omega) _).alloc (by simp; omega) _
  have z0 : Blk w1 H [.pointer (some ⟨X, 0, none⟩)] := by
    rw [← hw1]
    exact (((((Blk.new w _ _ _ hH.symm).alloc _).alloc _).alloc _).alloc _)
  have z1 : Blk w1 (H + 1) [.string (tx (sumL t)), .string (tx t)] := by
    rw [← hw1]
    exact ((((Blk.new (w.alloc _) _ _ _ (by simp [hH])).alloc _).alloc _).alloc _)
  have z2 : Blk w1 (H + 1 + 1) [.nilIface] := by
    rw [← hw1]
    exact (((Blk.new ((w.alloc _).alloc _) _ _ _ (by simp [hH])).alloc _).alloc _)
  have z3 : Blk w1 (H + 1 + 1 + 1) [.int .i64 (e : Int)] := by
    rw [← hw1]
    exact ((Blk.new (((w.alloc _).alloc _).alloc _) _ _ _ (by simp [hH])).alloc _)
  have z4 : Blk w1 (H + 1 + 1 + 1 + 1) [.string ⟨#[72]⟩] := by
    rw [← hw1]
    exact Blk.new ((((w.alloc _).alloc _).alloc _).alloc _) _ _ _ (by simp [hH])
  have hsz1 : H + 5 ≤ w1.heap.size := z4.lt
  have c0 : ∀ V : World, Below w.heap.size w V → V.cell? ⟨X, 0, none⟩ = some (.pointer (some ⟨D, 0, none⟩)) ∧ V.cell? ⟨X, 3, none⟩ = some (.int .i64 (e : Int)) := fun V hV => ⟨(h.head.below hV).cell 0 rfl, (h.head.below hV).cell 3 rfl⟩
  have HC0 := hid c0
  have HPK := hid (packed_any t w1 ht)
  have HCH := hid chunkf_any
  have HB1 := hid hb1
  have HZ := hid (And.intro z0 (And.intro z1 (And.intro z2 (And.intro z3 z4))))
  have y10 := z1.cell 0 rfl
  have y11 := z1.cell 1 rfl
  obtain ⟨q0, q3⟩ := c0 ((((w.alloc (.cells #[.pointer (some ⟨X, 0, none⟩)] 46)).alloc (.cells #[.string (tx (sumL t)), .string (tx t)] 92)).alloc (.cells #[.nilIface] 30))) ((((Below.refl _ w).alloc (Nat.le_refl _) _).alloc (by simp) _).alloc (by simp; omega) _)
  have HHH := hid hH
  clear c0 hb1 z0 z1 z2 z3 z4
  have hmf : ∀ (fn : Fn) (first cap : Array Value) (w : World), (Instr.makeFunc fn first cap).run Tryd.prog w = .ok (.func fn first cap) w := fun _ _ _ _ => rfl
  unfold recV at *
  refine (callsIn_wide (n := 3)).1 ?_
  refine callsIn_of_wp_marks Tryd.func56 rfl trivial ?_ rfl
  simp only [Tryd.ntmps56, List.size_toArray, List.length_cons, List.length_nil, Nat.reduceAdd, Nat.reduceSub, Array.replicate_succ, Array.replicate_zero, List.push_toArray, List.append_toArray, List.nil_append, List.cons_append]
  gi_wp2_with (first | (refine ⟨trivial, ?_⟩; gi_at_call 74; fail))
  refine ⟨trivial, ?_⟩
  gi_at_call 74
  refine (callsIn_wide.2 HPK.out).mono ?_
  rintro e2 w2 ⟨v2, rfl, hbx2, hb2⟩
  obtain ⟨g, cap, rfl, hg1, hg2, hg3, hg4, hg5, -⟩ := hbx2
  obtain ⟨len, hlen⟩ : ∃ len, (packL t).length = len := ⟨_, rfl⟩
  rw [hlen] at hg3
  rw [hlen]
  have HB2 := hid (HB1.out.trans (hb2.mono HB1.out.size))
  have HZ2 := hid (And.intro (HZ.out.1.below hb2) (And.intro (HZ.out.2.2.1.below hb2) (And.intro (HZ.out.2.2.2.1.below hb2) (HZ.out.2.2.2.2.below hb2))))
  have HS2 := hid hb2.size
  clear hb2
  gi_wp2_with (first | (refine ⟨trivial, ?_⟩; gi_at_call 73; fail))
  refine ⟨trivial, ?_⟩
  gi_at_call 73
  refine (callsIn_wide.2 (HCH.out (some ⟨g, 0, none⟩) len cap w2)).mono ?_
  rintro e3 w3 ⟨rfl, k1, k2, hb3⟩
  have HB3 := hid (HB2.out.trans (hb3.mono HB2.out.size))
  have HZ3 := hid (And.intro (HZ2.out.1.below hb3) (And.intro (HZ2.out.2.1.below hb3) (And.intro (HZ2.out.2.2.1.below hb3) (HZ2.out.2.2.2.below hb3))))
  have HK := hid (And.intro k1 k2)
  have hgr : ∀ j v, (bc (packL t))[j]? = some v → w3.cell? ⟨g, j, none⟩ = some v := fun j v hv => by
    rw [World.cell?_of_block (hb3.block g hg2)]
    have := hg5 j v hv
    rwa [Nat.zero_add] at this
  have HGR := hid hgr
  have HS3 := hid (Nat.le_trans HS2.out hb3.size)
  have HW2 : Hid (w2.heap.size + 1 < w3.heap.size) := hid k2.lt
  clear hb3 k1 k2 hgr hg5
  gi_wp2
  have hN : chN len = nsec t := by rw [← hlen, nsec_ch]
  have HLEN2 : Hid (len = 34 + t.length) := hid (by rw [← hlen, packL_len])
  have hns := nsec_le ht
  have hbl : ∀ b ∈ blocks D S vw, b < w.heap.size := ha.blocks_lt
  have hH3 : H + 1 + 1 + 1 + 1 < w3.heap.size := HZ3.out.2.2.2.lt
  have hw3 : w.heap.size ≤ w3.heap.size := HB3.out.size
  have HBL : Hid (∀ b ∈ blocks D S vw, b < w3.heap.size) := hid (fun b hb => Nat.lt_of_lt_of_le (hbl b hb) hw3)
  have HNO : Hid (∀ b, H ≤ b → b ∉ blocks D S vw) := hid (fun b hb hq => by have := hbl b hq; rw [hH] at this; omega)
  have HXH : Hid (X < H) := hid (by have := h.head.lt; rw [hH] at this; exact this)
  refine range_clo (gf := 86) (cap := #[.pointer (some ⟨w2.heap.size, 0, none⟩), .pointer (some ⟨w2.heap.size + 1, 0, none⟩)]) rfl (enters_of Tryd.func86 (by kernel_rfl) rfl) (chN len) (fun j => chV g len (chN len - (j + 1)))
    (fun j W => Wi H w3 W D S vw d t e (chN len - j)) (fun j W => Wx H w3 W D S vw d t e (chN len - (j + 1))) ?it ?dr ?ia ?ip ?xp ?h0 ?round ?done ?stop
  case it =>
    intro l J Jx W hJI hJd hY hJN
    have hh1 : w1.heap.size ≤ w2.heap.size := HS2.out
    have hh2 := HW2.out
    have := chunk_in 2 l w2.heap.size (w2.heap.size + 1) g cap len J Jx (by have := HLEN2.out; omega) hg3 (fun j W h => by
      have hk := (hJI j W h).keep
      have n1 := HNO.out w2.heap.size (by omega)
      have n2 := HNO.out (w2.heap.size + 1) (by omega)
      exact ⟨(HK.out.1.keep hk (by simp [n1]; omega)).cell 0 rfl, (HK.out.2.keep hk (by simp [n2]; omega)).cell 0 rfl⟩) hJd hY W hJN
    exact this
  case dr => exact fun j W h => h.mv (Keep.refl [] W).drew (by simp) HBL.out hH3
  case ia => exact fun j W o h => h.mv ((Keep.refl [] W).alloc o) (by simp) HBL.out hH3
  case ip => exact fun j W o h => h.mv (keep_put W _ o) (by simp) HBL.out hH3
  case xp => exact fun j W o h => h.mv (keep_put W _ o) (by simp) HBL.out hH3
  case h0 =>
    rw [Nat.sub_self]
    exact ⟨⟨vw, ha.below HB3.out, fun b hb => Or.inl hb⟩, HZ3.out.2.2.1, HZ3.out.2.2.2, Keep.refl _ _⟩
  case round =>
    rintro l j W rfl hlW hj hI
    refine ⟨?_, fun W1 hk => hI.mv hk (by simp) HBL.out hH3⟩
    obtain ⟨r, hr⟩ : ∃ r, chN len - (j + 1) = r := ⟨_, rfl⟩
    have hr1 : chN len - j = r + 1 := by omega
    have hrn : r < nsec t := by rw [← hN]; omega
    rw [hr, hr1]
    rw [hr] at hI
    clear hI
    obtain ⟨ck, hck⟩ : ∃ ck, chunkL t r = ck := ⟨_, rfl⟩
    obtain ⟨m, hm⟩ : ∃ m, ck.length = m := ⟨_, rfl⟩
    have hchV : chV g len r = .slice (some ⟨g, 63 * r, none⟩) m m := by
      unfold chV
      rw [← hlen, ch_len t r hrn, hck, hm]
    have hm63 : m ≤ 63 := by rw [← hm, ← hck]; exact ch_64 t r
    obtain ⟨k, hk⟩ : ∃ k, e + r = k := ⟨_, rfl⟩
    have hkd : k < d.sure.length := by omega
    have HCK := hid hck
    have HKK := hid hk
    have HMM := hid hm
    rw [hchV]
    clear hm hck
    gi_wp2
    refine ⟨Keep.refl _ _, ?_⟩
    intro W2 hI2 hk2
    obtain ⟨vw', hat, hvb⟩ := hI2.dk
    have hnb : ∀ b, b < w3.heap.size → b ∉ blocks D S vw → b ∉ blocks D S vw' := fun b h1 h2 hq => by
      rcases hvb b hq with q | q
      · exact h2 q
      · omega
    have hh1 : w1.heap.size ≤ w2.heap.size := HS2.out
    have hh2 : w2.heap.size + 1 < w3.heap.size := HW2.out
    have hxh : X < H := HXH.out
    have hS : ∀ V : World, Keep (blocks D S vw') W2 V → V.cell? ⟨H, 0, none⟩ = some (.pointer (some ⟨X, 0, none⟩)) ∧ V.cell? ⟨X, 0, none⟩ = some (.pointer (some ⟨D, 0, none⟩)) ∧ V.cell? ⟨H + 1 + 1 + 1, 0, none⟩ = some (.int .i64 (k : Int)) ∧ V.cell? ⟨H + 1 + 1 + 1 + 1, 0, none⟩ = some (.string ⟨#[markB r]⟩) ∧ V.rangeAt g (63 * r) (bc ck) := fun V hV => by
      have n0 := HNO.out H (Nat.le_refl _)
      have n3 := HNO.out (H + 1 + 1 + 1) (by omega)
      have n4 := HNO.out (H + 1 + 1 + 1 + 1) (by omega)
      have ng := HNO.out g (by omega)
      have s0 := (HZ3.out.1.keep hI2.keep (by simp [n0]; omega)).keep hV (hnb _ (by omega) n0)
      have sx := ((h.head.below HB3.out).keep hI2.keep (by simp [hXD]; omega)).keep hV (hnb _ (by omega) hXD)
      have s3 := hI2.at_.keep hV (hnb _ (by omega) n3)
      have s4 := hI2.mrk.keep hV (hnb _ (by omega) n4)
      rw [HKK.out] at s3
      refine ⟨s0.cell 0 rfl, sx.cell 0 rfl, s3.cell 0 rfl, s4.cell 0 rfl, fun i u hu => ?_⟩
      have gb : V.heap[g]? = w3.heap[g]? := by
        rw [hV.block g (Nat.lt_of_lt_of_le (show g < w3.heap.size by omega) hI2.keep.size) (hnb _ (by omega) ng)]
        exact hI2.keep.block g (by omega) (by simp [ng]; omega)
      rw [World.cell?_of_block gb]
      refine HGR.out (63 * r + i) u ?_
      rw [← HCK.out] at hu
      unfold chunkL at hu
      simp only [bc, List.map_take, List.map_drop, List.getElem?_take, List.getElem?_drop] at hu ⊢
      split at hu
      · exact hu
      · cases hu
    have HSS := hid hS
    have HI2 := hid hI2
    have HAT := hid hat
    have HVB := hid hvb
    have HNB := hid hnb
    obtain ⟨p0, p1, p2, p3, p4⟩ := hS W2 (Keep.refl _ _)
    have hcat : (⟨#[markB r]⟩ : ByteArray) ++ tx ck = tx (markB r :: ck) := mark_str r ck
    have hcsz : (tx ck).size = m := by rw [tx_sz]; exact HMM.out
    have hmsz : (⟨#[markB r]⟩ : ByteArray).size = 1 := rfl
    obtain ⟨mk, hmk⟩ : ∃ mk, (⟨#[markB r]⟩ : ByteArray) = mk := ⟨_, rfl⟩
    obtain ⟨sx, hsx⟩ : ∃ sx, tx (markB r :: ck) = sx := ⟨_, rfl⟩
    have HSX := hid hsx
    have hsz64 : sx.size ≤ 64 := by rw [← hsx, tx_sz, List.length_cons, HMM.out]; omega
    have HS64 := hid hsz64
    have hwr : IntKind.i64.wrap ((k : Int) + 1) = (k : Int) + 1 := by
      rw [show (k : Int) + 1 = ((k + 1 : Nat) : Int) by omega]
      exact wrap_nat _ (by omega)
    have hm1 : 1 + m ≤ 9223372036854775807 := by omega
    rw [hsx, hmk] at hcat
    rw [hmk] at hmsz p3 HSS
    have HL2 : Hid (w3.heap.size + 1 < W2.heap.size) := hid (Nat.lt_of_lt_of_le hlW hk2.size)
    clear hS hI2 hat hvb hnb hk2 hsx hmk hsz64
    gi_wp2
    refine region_round (S := fun V => V.cell? ⟨H, 0, none⟩ = some (.pointer (some ⟨X, 0, none⟩)) ∧ V.cell? ⟨X, 0, none⟩ = some (.pointer (some ⟨D, 0, none⟩)) ∧ V.cell? ⟨H + 1 + 1 + 1, 0, none⟩ = some (.int .i64 (k : Int)) ∧ V.cell? ⟨H + 1 + 1 + 1 + 1, 0, none⟩ = some (.string mk) ∧ V.rangeAt g (63 * r) (bc ck)) (by kernel_rfl) (by kernel_rfl) ?lo ⟨p0, p1, p2, p3, p4⟩ (fun hH => ?_)
    case lo =>
      rintro ⟨a, w, hq⟩
      simp only [Exit.then, Exit.inBlock] at hq
      rcases hq with ⟨-, ⟨q, -⟩ | ⟨q, -⟩⟩ <;> cases q
    refine wpAnyH_take (i := 0) (v := .pointer (some ⟨X, 0, none⟩)) rfl (by kernel_rfl) (by kernel_rfl) (by kernel_rfl) (fun _ _ _ h => h) (Or.inl ⟨by rfl, ?_⟩) (by assumption) ?_
    · intro V hV
      obtain ⟨hV0, hV1, hV2, hV3, hV4⟩ := hV
      go_simp
    simp only [List.getElem_toArray, List.getElem_cons_zero, List.getElem_cons_succ, Act.put, List.setIfInBounds_toArray, List.set_cons_zero, List.set_cons_succ]
    refine wpAnyH_take (i := 1) (v := .pointer (some ⟨X, 0, none⟩)) rfl (by kernel_rfl) (by kernel_rfl) (by kernel_rfl) (fun _ _ _ h => h) (Or.inl ⟨by rfl, ?_⟩) (by assumption) ?_
    · intro V hV
      obtain ⟨hV0, hV1, hV2, hV3, hV4⟩ := hV
      go_simp
    simp only [List.getElem_toArray, List.getElem_cons_zero, List.getElem_cons_succ, Act.put, List.setIfInBounds_toArray, List.set_cons_zero, List.set_cons_succ]
    refine wpAnyH_take (i := 2) (v := .pointer (some ⟨X, 0, none⟩)) rfl (by kernel_rfl) (by kernel_rfl) (by kernel_rfl) (fun _ _ _ h => h) (Or.inl ⟨by rfl, ?_⟩) (by assumption) ?_
    · intro V hV
      obtain ⟨hV0, hV1, hV2, hV3, hV4⟩ := hV
      go_simp
    simp only [List.getElem_toArray, List.getElem_cons_zero, List.getElem_cons_succ, Act.put, List.setIfInBounds_toArray, List.set_cons_zero, List.set_cons_succ]
    refine wpAnyH_take (i := 3) (v := .pointer (some ⟨D, 0, none⟩)) rfl (by kernel_rfl) (by kernel_rfl) (by kernel_rfl) (fun _ _ _ h => h) (Or.inl ⟨by rfl, ?_⟩) (by assumption) ?_
    · intro V hV
      obtain ⟨hV0, hV1, hV2, hV3, hV4⟩ := hV
      go_simp
    simp only [List.getElem_toArray, List.getElem_cons_zero, List.getElem_cons_succ, Act.put, List.setIfInBounds_toArray, List.set_cons_zero, List.set_cons_succ]
    refine wpAnyH_take (i := 4) (v := .int .i64 (k : Int)) rfl (by kernel_rfl) (by kernel_rfl) (by kernel_rfl) (fun _ _ _ h => h) (Or.inl ⟨by rfl, ?_⟩) (by assumption) ?_
    · intro V hV
      obtain ⟨hV0, hV1, hV2, hV3, hV4⟩ := hV
      go_simp
    simp only [List.getElem_toArray, List.getElem_cons_zero, List.getElem_cons_succ, Act.put, List.setIfInBounds_toArray, List.set_cons_zero, List.set_cons_succ]
    refine wpAnyH_take (i := 5) (v := .string mk) rfl (by kernel_rfl) (by kernel_rfl) (by kernel_rfl) (fun _ _ _ h => h) (Or.inl ⟨by rfl, ?_⟩) (by assumption) ?_
    · intro V hV
      obtain ⟨hV0, hV1, hV2, hV3, hV4⟩ := hV
      go_simp
    simp only [List.getElem_toArray, List.getElem_cons_zero, List.getElem_cons_succ, Act.put, List.setIfInBounds_toArray, List.set_cons_zero, List.set_cons_succ]
    refine wpAnyH_take (i := 6) (v := .slice (some ⟨g, 63 * r, none⟩) m m) rfl (by kernel_rfl) (by kernel_rfl) (by kernel_rfl) (fun _ _ _ h => h) (Or.inl ⟨by rfl, ?_⟩) (by assumption) ?_
    · intro V hV
      obtain ⟨hV0, hV1, hV2, hV3, hV4⟩ := hV
      go_simp
    simp only [List.getElem_toArray, List.getElem_cons_zero, List.getElem_cons_succ, Act.put, List.setIfInBounds_toArray, List.set_cons_zero, List.set_cons_succ]
    refine wpAnyH_take (i := 7) (v := .string (tx ck)) rfl (by kernel_rfl) (by kernel_rfl) (by kernel_rfl) (fun _ _ _ h => h) (Or.inl ⟨by rfl, ?_⟩) (by assumption) ?_
    · intro V hV
      obtain ⟨hV0, hV1, hV2, hV3, hV4⟩ := hV
      have hcv := to_text V g (63 * r) m ck m HMM.out.symm hV4
      go_simp
    simp only [List.getElem_toArray, List.getElem_cons_zero, List.getElem_cons_succ, Act.put, List.setIfInBounds_toArray, List.set_cons_zero, List.set_cons_succ]
    refine wpAnyH_take (i := 8) (v := .string sx) rfl (by kernel_rfl) (by kernel_rfl) (by kernel_rfl) (fun _ _ _ h => h) (Or.inl ⟨by rfl, ?_⟩) (by assumption) ?_
    · intro V hV
      obtain ⟨hV0, hV1, hV2, hV3, hV4⟩ := hV
      go_simp
    simp only [List.getElem_toArray, List.getElem_cons_zero, List.getElem_cons_succ, Act.put, List.setIfInBounds_toArray, List.set_cons_zero, List.set_cons_succ]
    refine wpAnyH_ready (rs := [9]) (by kernel_rfl) (by simp) ?_
    refine AllReadyH.cons rfl (fun K hK => ?_) AllReadyH.nil
    go_simp
    by_cases hlv : (wrN d t e r).live = true
    · have hd4 : wrN d t e (r + 1) = (wrN d t e r).burnt.wrote k sx.data.toList := by
        show (wrN d t e r).burnt.wrote (e + r) (markB r :: chunkL t r) = _
        rw [HKK.out, HCK.out, ← HSX.out]
        rfl
      have HD4 := hid hd4
      clear hd4
      refine (write_any D S vw' (wrN d t e r) k sx W2.drew HAT.out.drew (by rw [wrN_sure]; exact hkd) HS64.out hlv (by rw [wrN_ws]; omega)).mono ?_
      rintro e4 W4 ⟨vw4, rfl, a4, k4, v4⟩
      rw [← HD4.out] at a4
      have K4 : Keep (blocks D S vw') W2 W4 := ((Keep.refl _ W2).drew).then k4 (fun y hy => Or.inl hy)
      have G4 := hid (HSS.out W4 K4)
      have HA4 := hid a4
      have HV4 := hid v4
      clear a4 k4 v4
      have hn3 := HNB.out (H + 1 + 1 + 1) (by omega) (HNO.out _ (by omega))
      have hn4 := HNB.out (H + 1 + 1 + 1 + 1) (by omega) (HNO.out _ (by omega))
      have hn2 := HNB.out (H + 1 + 1) (by omega) (HNO.out _ (by omega))
      have t3 := HI2.out.at_.keep K4 hn3
      have t4 := HI2.out.mrk.keep K4 hn4
      have t2 := (HZ3.out.2.1.keep HI2.out.keep (by have := HNO.out (H + 1 + 1) (by omega); simp [this])).keep K4 hn2
      rw [HKK.out] at t3
      have HT2 := hid t2
      have HT3 := hid t3
      have HT4 := hid t4
      have u2 := t2.cell 0 rfl
      have f2 := t2.fz 0
      have u3 := t3.cell 0 rfl
      have f3 := t3.fz 0
      have u4 := t4.cell 0 rfl
      have f4 := t4.fz 0
      have HK4 := hid K4
      clear hn2 hn3 hn4 t2 t3 t4 K4
      refine hK.out _ _ G4.out (fun hH => ?_)
      clear hK K
      try simp only [List.getElem_toArray, List.getElem_cons_zero, List.getElem_cons_succ, Act.put, List.setIfInBounds_toArray, List.set_cons_zero, List.set_cons_succ]
      refine wpAnyH_take (i := 10) (v := .nilIface) rfl (by kernel_rfl) (by kernel_rfl) (by kernel_rfl) (fun _ _ _ h => h) (Or.inl ⟨by rfl, ?_⟩) (by assumption) ?_
      · intro V hV
        obtain ⟨hV0, hV1, hV2, hV3, hV4⟩ := hV
        go_simp
      simp only [List.getElem_toArray, List.getElem_cons_zero, List.getElem_cons_succ, Act.put, List.setIfInBounds_toArray, List.set_cons_zero, List.set_cons_succ]
      refine wpAnyH_done (by kernel_rfl) ?_ _
      gi_wp2
      exact wi_step HI2.out HVB.out HK4.out HA4.out HV4.out HT3.out HT4.out HKK.out HL2.out HBL.out hH3 HNO.out
    · have hlv2 : (wrN d t e r).live = false := by simpa using hlv
      have HLV := hid hlv2
      refine (write_dead D S vw' (wrN d t e r) k sx W2.drew HAT.out.drew (by rw [wrN_sure]; exact hkd) HS64.out hlv2).mono ?_
      rintro e4 W4 ⟨rfl, a4, k4⟩
      have K4 : Keep (blocks D S vw') W2 W4 := ((Keep.refl _ W2).drew).then k4 (fun y hy => Or.inl (by simp at hy; simp [blocks, hy]))
      have G4 := hid (HSS.out W4 K4)
      have HA4 := hid a4
      clear a4 k4
      have hn3 := HNB.out (H + 1 + 1 + 1) (by omega) (HNO.out _ (by omega))
      have hn4 := HNB.out (H + 1 + 1 + 1 + 1) (by omega) (HNO.out _ (by omega))
      have hn2 := HNB.out (H + 1 + 1) (by omega) (HNO.out _ (by omega))
      have t3 := HI2.out.at_.keep K4 hn3
      have t4 := HI2.out.mrk.keep K4 hn4
      have t2 := (HZ3.out.2.1.keep HI2.out.keep (by have := HNO.out (H + 1 + 1) (by omega); simp [this])).keep K4 hn2
      rw [HKK.out] at t3
      have HT2 := hid t2
      have HT3 := hid t3
      have HT4 := hid t4
      have u2 := t2.cell 0 rfl
      have f2 := t2.fz 0
      have u3 := t3.cell 0 rfl
      have f3 := t3.fz 0
      have u4 := t4.cell 0 rfl
      have f4 := t4.fz 0
      have HK4 := hid K4
      clear hn2 hn3 hn4 t2 t3 t4 K4
      refine hK.out _ _ G4.out (fun hH => ?_)
      clear hK K
      try simp only [List.getElem_toArray, List.getElem_cons_zero, List.getElem_cons_succ, Act.put, List.setIfInBounds_toArray, List.set_cons_zero, List.set_cons_succ]
      refine wpAnyH_take (i := 10) (v := .iface 52 (.int .i64 14)) rfl (by kernel_rfl) (by kernel_rfl) (by kernel_rfl) (fun _ _ _ h => h) (Or.inl ⟨by rfl, ?_⟩) (by assumption) ?_
      · intro V hV
        obtain ⟨hV0, hV1, hV2, hV3, hV4⟩ := hV
        go_simp
      simp only [List.getElem_toArray, List.getElem_cons_zero, List.getElem_cons_succ, Act.put, List.setIfInBounds_toArray, List.set_cons_zero, List.set_cons_succ]
      refine wpAnyH_done (by kernel_rfl) ?_ _
      gi_wp2
      exact wx_step HI2.out HVB.out HK4.out HA4.out HLV.out HT2.out HL2.out HBL.out hH3 HNO.out
  case done =>
    rintro W hI hK
    rw [Nat.sub_zero, hN] at hI
    obtain ⟨vw', hat, hvb⟩ := hI.dk
    have n0 := HNO.out H (Nat.le_refl _)
    have n2 := HNO.out (H + 1 + 1) (by omega)
    have hxh : X < H := HXH.out
    have s0 := HZ3.out.1.keep hI.keep (by simp [n0]; omega)
    have sx := (h.head.below HB3.out).keep hI.keep (by simp [hXD]; omega)
    have s2 := HZ3.out.2.1.keep hI.keep (by simp [n2])
    have p0 := s0.cell 0 rfl
    have p1 := sx.cell 0 (v := .pointer (some ⟨D, 0, none⟩)) rfl
    have HI := hid hI
    have HAT := hid hat
    have HVB := hid hvb
    have HS2' := hid s2
    clear hI hat hvb s0 sx s2
    have HKN : Hid (w3.heap.size ∉ [D, S]) := hid (fun hq => by
      have : w3.heap.size ∈ blocks D S vw := by simp at hq; rcases hq with q | q <;> simp [blocks, q]
      exact absurd (HBL.out _ this) (Nat.lt_irrefl _))
    have HN2a : Hid (H + 1 + 1 ∉ [D, S]) := hid (fun hq => by
      have : H + 1 + 1 ∈ blocks D S vw := by simp at hq; rcases hq with q | q <;> simp [blocks, q]
      exact n2 this)
    have HVG : Hid (∀ b ∈ blocks D S vw', b ≠ H + 1 + 1 ∧ b ≠ w3.heap.size ∧ (b ∈ blocks D S vw ∨ w.heap.size ≤ b)) := hid (fun b hb => by
      rcases HVB.out b hb with q | q
      · exact ⟨fun e => n2 (e ▸ q), fun e => absurd (HBL.out b q) (by omega), Or.inl q⟩
      · exact ⟨by omega, by omega, Or.inr (by omega)⟩)
    by_cases hlv : (wrN d t e (nsec t)).live = true
    · have HSY := hid (sync_live D S vw' (wrN d t e (nsec t)) W HAT.out hlv)
      gi_wp2_with (first | (refine ⟨trivial, ?_⟩; gi_at_call 15; fail))
      refine ⟨trivial, ?_⟩
      gi_at_call 15
      refine (callsIn_wide.2 HSY.out).mono ?_
      rintro e4 W4 ⟨rfl, a4, k4⟩
      have HA4 := hid a4
      have HK4 := hid k4
      have HT2 := hid (HS2'.out.keep k4 HN2a.out)
      have u2 := HT2.out.cell 0 rfl
      have f2 := HT2.out.fz 0
      have HN2 : Hid (H + 1 + 1 ∉ blocks D S (.slice none 0 0)) := hid (by rw [blocks_none]; exact HN2a.out)
      have HN3 : Hid (w3.heap.size ∉ blocks D S (.slice none 0 0)) := hid (by rw [blocks_none]; exact HKN.out)
      clear a4 k4
      obtain ⟨W5, hW5⟩ : ∃ W5, W4.setCell ⟨H + 1 + 1, 0, none⟩ (.nilIface) = W5 := ⟨_, rfl⟩
      have k5 : Keep [H + 1 + 1] W4 W5 := by rw [← hW5]; exact (Keep.refl _ W4).set _ _ _ (Or.inl (by simp))
      have e5 : Blk W5 (H + 1 + 1) [.nilIface] := by rw [← hW5]; exact HT2.out.set 0 _
      have a5 := HA4.out.keep k5 (fun b hb hq => by
        simp at hq
        have := hq ▸ hb
        exact HN2.out this)
      have k6 := keep_put W5 w3.heap.size (.deferred none)
      have c0 := (e5.keep k6 (by simp; omega)).cell 0 rfl
      have a6 := a5.keep k6 (fun b hb hq => by simp at hq; subst hq; exact HN3.out hb)
      have hK2 : W5.heap[w3.heap.size]? = some (.deferred (some [])) := by
        rw [k5.block _ (Nat.lt_of_lt_of_le (Array.getElem?_eq_some_iff.1 hK).1 HK4.out.size) (by simp; omega), HK4.out.block _ (Array.getElem?_eq_some_iff.1 hK).1 HKN.out]
        exact hK
      have hkk : Keep ((H + 1 + 1) :: (H + 1 + 1 + 1) :: (H + 1 + 1 + 1 + 1) :: blocks D S vw) w3 (W5.putObj w3.heap.size (.deferred none)) := (((HI.out.keep.sub (fun y hy => Or.inl (List.mem_cons_of_mem _ hy))).then HK4.out (fun y hy => Or.inl (by simp at hy; rcases hy with rfl | rfl <;> simp [blocks]))).then k5 (by simp)).then k6 (fun y hy => Or.inr (by simp at hy; omega))
      gi_wp2

      refine ⟨by simp, .inl ⟨_, _, rfl, run_takeDeferred hK2, ?_⟩⟩
      refine ⟨.nilIface, by simp [results, Tryd.results56, go_sem, c0], ?_⟩
      have hkw : Keep (blocks D S vw) w (W5.putObj w3.heap.size (.deferred none)) := (Keep.of (X := blocks D S vw) HB3.out).then hkk (fun y hy => by
        simp only [List.mem_cons] at hy
        rcases hy with rfl | rfl | rfl | hy
        · exact Or.inr (by omega)
        · exact Or.inr (by omega)
        · exact Or.inr (by omega)
        · exact Or.inl hy)
      exact ⟨_, _, _, rfl, a6, hkw, (fun b hb => Or.inl (by rw [blocks_none] at hb; simp at hb; rcases hb with rfl | rfl <;> simp [blocks])), Or.inl ⟨rfl, rfl, rfl⟩⟩
    · have hlv2 : (wrN d t e (nsec t)).live = false := by simpa using hlv
      have HLV2 := hid hlv2
      have HSY := hid (sync_dead D S vw' (wrN d t e (nsec t)) W HAT.out hlv2)
      gi_wp2_with (first | (refine ⟨trivial, ?_⟩; gi_at_call 15; fail))
      refine ⟨trivial, ?_⟩
      gi_at_call 15
      refine (callsIn_wide.2 HSY.out).mono ?_
      rintro e4 W4 ⟨rfl, a4, k4⟩
      have HA4 := hid a4
      have HK4 := hid k4
      have HT2 := hid (HS2'.out.keep k4 HN2a.out)
      have u2 := HT2.out.cell 0 rfl
      have f2 := HT2.out.fz 0
      have HN2 : Hid (H + 1 + 1 ∉ blocks D S vw') := hid (fun hq => (HVG.out _ hq).1 rfl)
      have HN3 : Hid (w3.heap.size ∉ blocks D S vw') := hid (fun hq => (HVG.out _ hq).2.1 rfl)
      clear a4 k4
      obtain ⟨W5, hW5⟩ : ∃ W5, W4.setCell ⟨H + 1 + 1, 0, none⟩ (.iface 52 (.int .i64 14)) = W5 := ⟨_, rfl⟩
      have k5 : Keep [H + 1 + 1] W4 W5 := by rw [← hW5]; exact (Keep.refl _ W4).set _ _ _ (Or.inl (by simp))
      have e5 : Blk W5 (H + 1 + 1) [.iface 52 (.int .i64 14)] := by rw [← hW5]; exact HT2.out.set 0 _
      have a5 := HA4.out.keep k5 (fun b hb hq => by
        simp at hq
        have := hq ▸ hb
        exact HN2.out this)
      have k6 := keep_put W5 w3.heap.size (.deferred none)
      have c0 := (e5.keep k6 (by simp; omega)).cell 0 rfl
      have a6 := a5.keep k6 (fun b hb hq => by simp at hq; subst hq; exact HN3.out hb)
      have hK2 : W5.heap[w3.heap.size]? = some (.deferred (some [])) := by
        rw [k5.block _ (Nat.lt_of_lt_of_le (Array.getElem?_eq_some_iff.1 hK).1 HK4.out.size) (by simp; omega), HK4.out.block _ (Array.getElem?_eq_some_iff.1 hK).1 HKN.out]
        exact hK
      have hkk : Keep ((H + 1 + 1) :: (H + 1 + 1 + 1) :: (H + 1 + 1 + 1 + 1) :: blocks D S vw) w3 (W5.putObj w3.heap.size (.deferred none)) := (((HI.out.keep.sub (fun y hy => Or.inl (List.mem_cons_of_mem _ hy))).then HK4.out (fun y hy => Or.inl (by simp at hy; rcases hy with rfl | rfl <;> simp [blocks]))).then k5 (by simp)).then k6 (fun y hy => Or.inr (by simp at hy; omega))
      gi_wp2

      refine ⟨by simp, .inl ⟨_, _, rfl, run_takeDeferred hK2, ?_⟩⟩
      refine ⟨.iface 52 (.int .i64 14), by simp [results, Tryd.results56, go_sem, c0], ?_⟩
      have hkw : Keep (blocks D S vw) w (W5.putObj w3.heap.size (.deferred none)) := (Keep.of (X := blocks D S vw) HB3.out).then hkk (fun y hy => by
        simp only [List.mem_cons] at hy
        rcases hy with rfl | rfl | rfl | hy
        · exact Or.inr (by omega)
        · exact Or.inr (by omega)
        · exact Or.inr (by omega)
        · exact Or.inl hy)
      exact ⟨_, _, _, rfl, a6, hkw, (fun b hb => (HVG.out b hb).2.2), Or.inr ⟨rfl, nsec t, Nat.le_refl _, HLV2.out, rfl⟩⟩
  case stop =>
    rintro j W hj hI hK2
    have hp := hI.mv (keep_put W w3.heap.size (.deferred none)) (by simp) HBL.out hH3
    have c0 := hp.err.cell 0 rfl
    have HP := hid hp
    clear hI hp
    gi_wp2
    refine ⟨by simp, .inl ⟨_, _, rfl, run_takeDeferred hK2, ?_⟩⟩
    refine ⟨.iface 52 (.int .i64 14), by simp [results, Tryd.results56, go_sem, c0], ?_⟩
    have hkw : Keep (blocks D S vw) w (W.putObj w3.heap.size (.deferred none)) := (Keep.of (X := blocks D S vw) HB3.out).then HP.out.keep (fun y hy => by
      simp only [List.mem_cons] at hy
      rcases hy with rfl | rfl | rfl | hy
      · exact Or.inr (by omega)
      · exact Or.inr (by omega)
      · exact Or.inr (by omega)
      · exact Or.inl hy)
    obtain ⟨vw', hat, hvb⟩ := HP.out.dk
    exact ⟨_, vw', _, rfl, hat, hkw, fun b hb => (hvb b hb).imp id (fun q => by omega), Or.inr ⟨rfl, _, by rw [← hN]; omega, HP.out.dd, rfl⟩⟩
end Go.Proofs.YtemcpjflpggaeaaDoor.Dk
