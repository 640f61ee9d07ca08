import Derived.Test.YtemcpjflpggaeaaDoorStoM
set_option linter.unusedSimpArgs false
set_option linter.unusedVariables false
namespace Go.Proofs.YtemcpjflpggaeaaDoor.Dk
open Go.RowKit Go.Maps

/-- A store and its disk, both of the call's own. -/
structure Live (W w : World) (D S X M n B : Nat) (vw kv : Value) (d : St) (ts : List Bs) (e : Nat) : Prop where
  mem : Mem w X D M n B kv ts e true
  disk : At w D S vw d
  inv : Inv d ts e
  dis : ∀ b ∈ memB X M kv, b ∉ blocks D S vw
  hB : B ≤ w.heap.size
  keep : Keep [] W w
  new : ∀ b ∈ memB X M kv ++ blocks D S vw, W.heap.size ≤ b
  few : n ≤ ts.length
theorem Live.below {W w w' : World} {D S X M n B : Nat} {vw kv : Value} {d : St} {ts : List Bs} {e : Nat} (h : Live W w D S X M n B vw kv d ts e) (hb : Below w.heap.size w w') : Live W w' D S X M n B vw kv d ts e :=
  ⟨h.mem.below hb, h.disk.below hb, h.inv, h.dis, Nat.le_trans h.hB hb.size, h.keep.then (Keep.of (X := []) hb) (by simp), h.new, h.few⟩
theorem env_keep {W w : World} (hE : EnvK W) (hk : Keep [] W w) : EnvK w := fun j hj => by
  rw [World.cell?_of_block (hk.block _ hE.lt (by simp))]
  exact hE j hj
/-- A store that is opened on a disk of the call's own. -/
theorem live_open {W w w' : World} {D S X M n B : Nat} {vw kv : Value} {d : St} {ts : List Bs} {e : Nat} (hw : Mine W w D S vw d) (hm : Mem w' X D M n B kv ts e true) (ha : At w' D S (.slice none 0 0) d) (hi : Inv d ts e) (hk : Keep [D, S] w w') (hX : w.heap.size ≤ X) (hM : w.heap.size ≤ M) (hB : w.heap.size < B) (hB2 : B ≤ w'.heap.size) (hn : n ≤ ts.length) :
    Live W w' D S X M n B (.slice none 0 0) kv d ts e := by
  have hws := hw.keep.size
  have hDS : W.heap.size ≤ D ∧ W.heap.size ≤ S := ⟨hw.new D (by simp [blocks]), hw.new S (by simp [blocks])⟩
  have hlt : D < w.heap.size ∧ S < w.heap.size := ⟨hw.disk.blocks_lt D (by simp [blocks]), hw.disk.blocks_lt S (by simp [blocks])⟩
  have hmem : ∀ b ∈ memB X M kv, w.heap.size ≤ b := by
    intro b hb
    simp only [memB, List.mem_cons, Option.mem_toList] at hb
    rcases hb with rfl | rfl | hb
    · exact hX
    · exact hM
    · have := ((lst_own hm.keys).2 b hb).1; omega
  refine ⟨hm, ha, hi, ?_, hB2, hw.keep.then hk (fun y hy => Or.inr ?_), ?_, hn⟩
  · intro b hb hq
    have := hmem b hb
    rw [blocks_none] at hq
    simp at hq
    rcases hq with rfl | rfl <;> omega
  · simp at hy
    rcases hy with rfl | rfl
    · exact hDS.1
    · exact hDS.2
  · intro b hb
    rcases List.mem_append.1 hb with hb | hb
    · have := hmem b hb; omega
    · rw [blocks_none] at hb
      simp at hb
      rcases hb with rfl | rfl
      · exact hDS.1
      · exact hDS.2
theorem Live.put {W w w' : World} {D S X M n B : Nat} {vw kv kv' : Value} {d : St} {ts : List Bs} {e : Nat} {t : Bs} (h : Live W w D S X M n B vw kv d ts e) (ht : t.length ≤ 300) (hn : sumL t ∉ ts.map sumL) (hr : e + nsec t ≤ d.sure.length) (m : Mem w' X D M (n + 1) B kv' (ts ++ [t]) (e + nsec t) true) (a : At w' D S (.slice none 0 0) ((wrN d t e (nsec t)).burnt.settled allK)) (k : Keep (memB X M kv ++ blocks D S vw) w w') (v : kv'.ownBlock = kv.ownBlock ∨ ∃ g, kv'.ownBlock = some g ∧ w.heap.size ≤ g) :
    Live W w' D S X M (n + 1) B (.slice none 0 0) kv' ((wrN d t e (nsec t)).burnt.settled allK) (ts ++ [t]) (e + nsec t) := by
  have hws := h.keep.size
  have hmk : ∀ b ∈ memB X M kv', b ∈ memB X M kv ∨ w.heap.size ≤ b := by
    intro b hb
    simp only [memB, List.mem_cons, Option.mem_toList] at hb ⊢
    rcases hb with rfl | rfl | hb
    · exact Or.inl (Or.inl rfl)
    · exact Or.inl (Or.inr (Or.inl rfl))
    · rcases v with q | ⟨g, q, hg⟩
      · exact Or.inl (Or.inr (Or.inr (q ▸ hb)))
      · rw [q] at hb
        injection hb with hb
        exact Or.inr (hb ▸ hg)
  have va : ∀ b ∈ blocks D S (.slice none 0 0), b ∈ blocks D S vw ∨ w.heap.size ≤ b := fun b hb => Or.inl (by rw [blocks_none] at hb; simp at hb; rcases hb with rfl | rfl <;> simp [blocks])
  have hml := h.mem.mem_lt
  have hdl := h.disk.blocks_lt
  refine ⟨m, a, h.inv.putted t ht hn hr, ?_, Nat.le_trans h.hB k.size, h.keep.then k (fun y hy => Or.inr (h.new y hy)), ?_, by rw [List.length_append, List.length_singleton]; exact Nat.succ_le_succ h.few⟩
  · intro b hb hq
    rcases hmk b hb with q | q
    · rcases va b hq with q2 | q2
      · exact h.dis b q q2
      · have := hml b q; omega
    · simp only [memB, blocks, List.mem_cons, Option.mem_toList] at hb hq
      have hX := hml X (by simp [memB])
      have hM := hml M (by simp [memB])
      have hD := hdl D (by simp [blocks])
      have hS := hdl S (by simp [blocks])
      rcases hb with rfl | rfl | hb
      · omega
      · omega
      · rcases hq with rfl | rfl | hq
        · omega
        · omega
        · simp [Value.ownBlock] at hq
  · intro b hb
    rcases List.mem_append.1 hb with hb | hb
    · rcases hmk b hb with q | q
      · exact h.new b (List.mem_append_left _ q)
      · omega
    · rcases va b hb with q | q
      · exact h.new b (List.mem_append_right _ q)
      · omega
/-- What a store does with a text. -/
theorem live_call {W w : World} {D S X M n B : Nat} {vw kv : Value} {d : St} {ts : List Bs} {e : Nat} (h : Live W w D S X M n B vw kv d ts e) (hE : EnvK W) (t : Bs) (ht : t.length ≤ 300) (hr : e + nsec t ≤ d.sure.length) (hs : d.sure.length ≤ 600) (hl : ts.length ≤ 500) :
    Calls Tryd.prog 24 #[.pointer (some ⟨X, 0, none⟩), .string (tx t)] w fun e1 w' => ∃ v, e1 = .returned v ∧ PutR w w' X D S M n B vw kv d ts e t v :=
  put_any h.mem h.disk (env_keep hE h.keep) h.dis h.hB t ht hr hs (by rw [h.inv.ws]; decide) (by have := h.few; omega) (by omega)
def hello : Bs := [104, 101, 108, 108, 111]
theorem blocks_mem {D S b : Nat} (h : b ∈ blocks D S (.slice none 0 0)) : b = D ∨ b = S := by rw [blocks_none] at h; simpa using h
theorem fuse_after {d : St} (h : d.fuse = -1) (t : Bs) (e j : Nat) (f : Nat → Bool) : ((wrN d t e j).burnt.settled f).fuse = -1 := by
  show (wrN d t e j).burnt.fuse = -1
  have := wrN_fuse h t e j
  unfold St.burnt
  simp [this]
theorem len_after (d : St) (t : Bs) (e j : Nat) (f : Nat → Bool) : ((wrN d t e j).burnt.settled f).sure.length = d.sure.length := by
  show (settleL f 0 (wrN d t e j).burnt.sure _).length = _
  rw [settle_len]
  exact congrArg List.length (wrN_sure d t e j)
theorem crash_same {d : St} (hw : d.ws = []) (hf : d.fuse = -1) (f : Nat → Bool) : (⟨(d.settled f).sure, [], -1⟩ : St) = d := by
  obtain ⟨s, w, fu⟩ := d
  simp only at hw hf
  subst hw
  subst hf
  rfl
theorem Live.mine {W w : World} {D S X M n B : Nat} {vw kv : Value} {d : St} {ts : List Bs} {e : Nat} (h : Live W w D S X M n B vw kv d ts e) : Mine W w D S vw d := ⟨h.disk, h.keep, fun k hk => h.new k (List.mem_append_right _ hk)⟩
theorem Mine.open {W w : World} {D S : Nat} {vw : Value} {d : St} {ts : List Bs} {e : Nat} (h : Mine W w D S vw d) (hE : EnvK W) (hi : Inv d ts e) (hf : d.fuse = -1) (hs : d.sure.length ≤ 600) :
    Calls Tryd.prog 23 #[.pointer (some ⟨D, 0, none⟩)] w fun e1 w' => ∃ X M n B kv, e1 = .returned (.tuple #[.pointer (some ⟨X, 0, none⟩), .nilIface]) ∧ Live W w' D S X M n B (.slice none 0 0) kv d ts e ∧ Keep [D, S] w w' ∧ w.heap.size ≤ X := by
  have hG := hE.lt
  have hD := h.new D (by simp [blocks])
  have hS := h.new S (by simp [blocks])
  refine (open_any h.disk (env_keep hE h.keep) hi.ws hf hi.heads hs (by omega) (by omega) hi.all).mono ?_
  rintro e2 w2 ⟨X, M, n, B, kv, rfl, q1, q2, q3, q4, q5, q6, q7, q8⟩
  exact ⟨X, M, n, B, kv, rfl, live_open h q1 q2 hi q3 q4 q5 q6 q7 q8, q3, q4⟩
set_option maxRecDepth 100000 in
set_option maxHeartbeats 4000000 in
theorem stored_any (W : World) (hE : EnvK W) : Calls Tryd.prog 22 #[] W fun e w' => e = .returned (.bool true) ∧ Below W.heap.size W w' := by
  have HN := hid (new_any 64 W (by omega) (by omega))
  have HE := hid hE
  have hG := hE.lt
  go_enter Tryd.func22, Tryd.ntmps22
  go_wp2_with (first | (go_at_call 9; refine HN.out.mono ?_; rintro e w1 ⟨D, S, rfl, a1, b1, hD, hS⟩; have M1 := hid (mine_new a1 b1 hD hS); clear a1 b1) | (go_at_call 23; fail))
  have hl64 : (newD 64).sure.length = 64 := by simp [newD]
  have i1 := inv_new 64 (by omega)
  have HO := hid (M1.out.open HE.out i1 rfl (by rw [hl64]; decide))
  refine HO.out.mono ?_
  rintro e2 w2 ⟨X, M, n, B, kv, rfl, l2, -, -⟩
  have L2 := hid l2
  clear l2 HO
  have HP := hid (live_call L2.out HE.out hello (by decide) (by rw [hl64]; decide) (by rw [hl64]; decide) (by decide))
  go_wp2_with (first | (go_at_call 24; fail))
  refine HP.out.mono ?_
  rintro e3 w3 ⟨v3, rfl, hput⟩
  clear HP
  cases hput with
  | there h _ => cases h
  | dead h vw' j hj hd _ _ _ => exact absurd (wrN_live (d := newD 64) rfl hello 2 j) (by rw [hd]; decide)
  | put h kv' m a k v =>
    have hi3 := (L2.out.put (by decide) h (by rw [hl64]; decide) m a k v)
    have hf3 : ((wrN (newD 64) hello 2 (nsec hello)).burnt.settled allK).fuse = -1 := fuse_after rfl _ _ _ _
    have hl3 : ((wrN (newD 64) hello 2 (nsec hello)).burnt.settled allK).sure.length = 64 := by rw [len_after, hl64]
    obtain ⟨d3, hd3⟩ : ∃ d3, (wrN (newD 64) hello 2 (nsec hello)).burnt.settled allK = d3 := ⟨_, rfl⟩
    obtain ⟨e3, he3⟩ : ∃ e3, 2 + nsec hello = e3 := ⟨_, rfl⟩
    rw [hd3] at hi3 hf3 hl3
    rw [he3, List.nil_append] at hi3
    have L3 := hid hi3
    have HF3 := hid hf3
    have HL3 := hid hl3
    clear hi3 hf3 hl3 hd3 he3 m a k v h
    have HSU := hid (sum_any ⟨#[104, 101, 108, 108, 111]⟩ w3 (by decide) (env_keep HE.out L3.out.keep))
    obtain ⟨kx, hkx⟩ : ∃ kx, tx (sumL hello) = kx := ⟨_, rfl⟩
    have hkx2 : (⟨(sumL (⟨#[104, 101, 108, 108, 111]⟩ : ByteArray).data.toList).toArray⟩ : ByteArray) = kx := hkx
    rw [hkx2] at HSU
    rw [hkx]
    have HKX := hid hkx
    clear hkx hkx2
    go_wp2_with (first | (go_at_call 28; refine HSU.out.mono ?_; rintro e4 w4 ⟨rfl, hb4⟩; have L4 := hid (L3.out.below hb4); clear hb4) | (go_at_call 17; fail))
    have hlst : Lst w4 (.slice none 0 0) (bl []) := ⟨none, 0, rfl, Or.inl rfl⟩
    have HCR := hid (crash_any D S _ (.slice none 0 0) d3 [] w4 L4.out.disk hlst (by decide) (Or.inl rfl))
    rw [crash_same L4.out.inv.ws HF3.out] at HCR
    refine HCR.out.mono ?_
    rintro e5 w5 ⟨rfl, a5, k5⟩
    have M5 := hid (L4.out.mine.settle a5 k5)
    clear a5 k5 hlst
    have HO := hid (M5.out.open HE.out L4.out.inv HF3.out (by rw [HL3.out]; decide))
    go_wp2_with (first | (go_at_call 23; refine HO.out.mono ?_; rintro e6 w6 ⟨X6, N6, n6, B6, kv6, rfl, l6, -, -⟩; have L6 := hid l6; clear l6) | (go_at_call 27; fail))
    have HG := hid (get_some (k := sumL hello) L6.out.mem (by rw [sumL_len]; decide) (by simp))
    rw [HKX.out] at HG
    refine HG.out.mono ?_
    rintro e7 w7 ⟨t7, ht7, -, rfl, hb7⟩
    obtain rfl : t7 = hello := by simpa using ht7
    have L7 := hid (L6.out.below hb7)
    have HKY := hid (keys_any L7.out.mem (by decide))
    clear hb7 ht7
    have hhe : tx hello = ⟨#[104, 101, 108, 108, 111]⟩ := rfl
    rw [hhe]
    go_wp2_with (first | (go_at_call 26; refine HKY.out.mono ?_; rintro e8 w8 ⟨v8, rfl, ho8, hb8⟩; obtain ⟨a8, c8, rfl, -⟩ := own_form ho8; have L8 := hid (L7.out.below hb8); clear hb8 ho8))
    go_ret
    exact ⟨rfl, L8.out.keep.below (by simp) (Nat.le_refl _)⟩
end Go.Proofs.YtemcpjflpggaeaaDoor.Dk
