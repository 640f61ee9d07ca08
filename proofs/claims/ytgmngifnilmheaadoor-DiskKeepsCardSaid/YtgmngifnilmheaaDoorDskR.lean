import Derived.Test.YtgmngifnilmheaaDoorDskQ
set_option linter.unusedSimpArgs false
set_option linter.unusedVariables false
namespace Go.Proofs.YtgmngifnilmheaaDoor.Dk
open Go.RowKit

/-- What a Write, a Sync, a Read tells; what is there behind it. -/
def wrE (d : St) (a : Int) (s : ByteArray) : Int := if a < 0 ∨ d.sure.length ≤ a then 2 else if 64 < s.size then 4 else if d.live then 0 else 14
def wrS (d : St) (a : Int) (s : ByteArray) : St := if a < 0 ∨ d.sure.length ≤ a then d else if 64 < s.size then d else if d.live then d.burnt.wrote a.toNat s.data.toList else d.burnt
def syE (d : St) : Int := if d.live then 0 else 14
def syS (d : St) : St := if d.live then d.burnt.settled allK else d.burnt
def inD (d : St) (a : Int) : Bool := decide (0 ≤ a) && decide (a < d.sure.length)
def rdT (d : St) (a : Int) : ByteArray := if inD d a then tx (d.read a.toNat) else ⟨#[]⟩
def rdE (d : St) (a : Int) : Int := if inD d a then 0 else 2
theorem in_nat {d : St} {a : Int} (h : inD d a = true) : ∃ k : Nat, a = k ∧ k < d.sure.length ∧ a.toNat = k := by
  unfold inD at h
  simp at h
  exact ⟨a.toNat, by omega, by omega, rfl⟩
theorem out_nat {d : St} {a : Int} (h : inD d a = false) : a < 0 ∨ d.sure.length ≤ a := by
  unfold inD at h
  simp at h
  omega
theorem blk_sub {D S : Nat} {vw vw' : Value} {w : World} (hv : vw'.ownBlock = vw.ownBlock ∨ ∃ g, vw'.ownBlock = some g ∧ w.heap.size ≤ g) : ∀ k ∈ blocks D S vw', k ∈ blocks D S vw ∨ w.heap.size ≤ k := by
  intro k hk
  simp only [blocks, List.mem_cons, Option.mem_toList] at hk ⊢
  rcases hk with hk | hk | hk
  · exact Or.inl (Or.inl hk)
  · exact Or.inl (Or.inr (Or.inl hk))
  · rcases hv with hv | ⟨g, hv, hg⟩
    · exact Or.inl (Or.inr (Or.inr (hv ▸ hk)))
    · rw [hv] at hk; injection hk with hk; exact Or.inr (by omega)
theorem blk_none {D S : Nat} {vw : Value} {w : World} : ∀ k ∈ blocks D S (.slice none 0 0), k ∈ blocks D S vw ∨ w.heap.size ≤ k := by
  intro k hk
  rw [blocks_none] at hk
  left
  simp at hk
  rcases hk with rfl | rfl <;> simp [blocks]
theorem errV_pos {n : Int} (h : n ≠ 0) : Value.iface 24 (.int .i64 n) = errV n := by rw [errV, if_neg h]
theorem write_at (D S : Nat) (vw : Value) (d : St) (a : Int) (s : ByteArray) (w : World) (h : At w D S vw d) (hs : s.size ≤ 80) (hf : d.ws.length < 1000000) :
    Calls Tryd.prog 9 #[.pointer (some ⟨D, 0, none⟩), .int .i64 a, .string s] w fun e w' => e = .returned (errV (wrE d a s)) ∧ ∃ vw', At w' D S vw' (wrS d a s) ∧ Keep (blocks D S vw) w w' ∧ ∀ k ∈ blocks D S vw', k ∈ blocks D S vw ∨ w.heap.size ≤ k := by
  unfold wrE wrS
  by_cases h1 : a < 0 ∨ d.sure.length ≤ a
  · rw [if_pos h1, if_pos h1]
    refine (write_range D S vw d a s w h h1).mono ?_
    rintro e w' ⟨rfl, rfl⟩
    exact ⟨by rw [errV_pos (by decide)], vw, h, Keep.refl _ _, fun k hk => Or.inl hk⟩
  · rw [if_neg h1, if_neg h1]
    obtain ⟨k, rfl⟩ : ∃ k : Nat, a = k := ⟨a.toNat, by omega⟩
    have hk : k < d.sure.length := by omega
    by_cases h2 : 64 < s.size
    · rw [if_pos h2, if_pos h2]
      refine (write_limit D S vw d k s w h hk h2 (by omega)).mono ?_
      rintro e w' ⟨rfl, rfl⟩
      exact ⟨by rw [errV_pos (by decide)], vw, h, Keep.refl _ _, fun k hk => Or.inl hk⟩
    · rw [if_neg h2, if_neg h2]
      cases h3 : d.live with
      | true =>
        refine (write_any D S vw d k s w h hk (by omega) h3 hf).mono ?_
        rintro e w' ⟨vw', rfl, h4, h5, h6⟩
        exact ⟨rfl, vw', h4, h5, blk_sub h6⟩
      | false =>
        refine (write_dead D S vw d k s w h hk (by omega) h3).mono ?_
        rintro e w' ⟨rfl, h4, h5⟩
        exact ⟨rfl, vw, h4, h5.sub (fun x hx => Or.inl (by simp at hx; simp [hx, blocks])), fun k hk => Or.inl hk⟩
theorem rwrite_at (R : Nat) (vS vA vW : Value) (d : St) (a : Int) (s : ByteArray) (w : World) (h : Ref w R vS vA vW d) (hs : s.size ≤ 80) (hf : d.ws.length < 1000000) :
    Calls Tryd.prog 10 #[.pointer (some ⟨R, 0, none⟩), .int .i64 a, .string s] w fun e w' => e = .returned (.int .i64 (wrE d a s)) ∧ ∃ vA' vW', Ref w' R vS vA' vW' (wrS d a s) ∧ Keep (rblocks R vS vA vW) w w' ∧ ∀ k ∈ rblocks R vS vA' vW', k ∈ rblocks R vS vA vW ∨ w.heap.size ≤ k := by
  unfold wrE wrS
  by_cases h1 : a < 0 ∨ d.sure.length ≤ a
  · rw [if_pos h1, if_pos h1]
    refine (rwrite_range R vS vA vW d a s w h h1).mono ?_
    rintro e w' ⟨rfl, rfl⟩
    exact ⟨rfl, vA, vW, h, Keep.refl _ _, fun k hk => Or.inl hk⟩
  · rw [if_neg h1, if_neg h1]
    obtain ⟨k, rfl⟩ : ∃ k : Nat, a = k := ⟨a.toNat, by omega⟩
    have hk : k < d.sure.length := by omega
    by_cases h2 : 64 < s.size
    · rw [if_pos h2, if_pos h2]
      refine (rwrite_limit R vS vA vW d k s w h hk h2 (by omega)).mono ?_
      rintro e w' ⟨rfl, rfl⟩
      exact ⟨rfl, vA, vW, h, Keep.refl _ _, fun k hk => Or.inl hk⟩
    · rw [if_neg h2, if_neg h2]
      cases h3 : d.live with
      | true =>
        refine (rwrite_any R vS vA vW d k s w h hk (by omega) h3 hf).mono ?_
        rintro e w' ⟨vA', vW', rfl, h4, h5, h6⟩
        exact ⟨rfl, vA', vW', h4, h5, h6⟩
      | false =>
        refine (rwrite_dead R vS vA vW d k s w h hk (by omega) h3).mono ?_
        rintro e w' ⟨rfl, h4, h5⟩
        exact ⟨rfl, vA, vW, h4, h5.sub (fun x hx => Or.inl (by simp at hx; simp [hx, rblocks])), fun k hk => Or.inl hk⟩
theorem keep_ds {X : List Nat} {D S : Nat} {vw : Value} {w w' : World} (h : Keep [D, S] w w') : Keep (blocks D S vw) w w' := h.sub (fun x hx => Or.inl (by simp at hx; rcases hx with rfl | rfl <;> simp [blocks]))
theorem keep_rs {R : Nat} {vS vA vW : Value} {w w' : World} (h : Keep (R :: vS.ownBlock.toList) w w') : Keep (rblocks R vS vA vW) w w' := h.sub (fun x hx => Or.inl (by
  rw [mem_rb]
  simp only [List.mem_cons, Option.mem_toList] at hx
  rcases hx with hx | hx
  · exact Or.inl hx
  · exact Or.inr (Or.inl hx)))
theorem rb_none {R : Nat} {vS vA vW : Value} {w : World} : ∀ k ∈ rblocks R vS (.slice none 0 0) (.slice none 0 0), k ∈ rblocks R vS vA vW ∨ w.heap.size ≤ k := by
  intro k hk
  rw [mem_rb] at hk ⊢
  rcases hk with hk | hk | hk | hk
  · exact Or.inl (Or.inl hk)
  · exact Or.inl (Or.inr (Or.inl hk))
  · simp [Value.ownBlock] at hk
  · simp [Value.ownBlock] at hk
theorem sync_at (D S : Nat) (vw : Value) (d : St) (w : World) (h : At w D S vw d) :
    Calls Tryd.prog 11 #[.pointer (some ⟨D, 0, none⟩)] w fun e w' => e = .returned (errV (syE d)) ∧ ∃ vw', At w' D S vw' (syS d) ∧ Keep (blocks D S vw) w w' ∧ ∀ k ∈ blocks D S vw', k ∈ blocks D S vw ∨ w.heap.size ≤ k := by
  unfold syE syS
  cases h3 : d.live with
  | true =>
    refine (sync_live D S vw d w h h3).mono ?_
    rintro e w' ⟨rfl, h4, h5⟩
    exact ⟨rfl, _, h4, keep_ds (X := []) h5, blk_none⟩
  | false =>
    refine (sync_dead D S vw d w h h3).mono ?_
    rintro e w' ⟨rfl, h4, h5⟩
    exact ⟨rfl, _, h4, keep_ds (X := []) h5, fun k hk => Or.inl hk⟩
theorem rsync_at (R : Nat) (vS vA vW : Value) (d : St) (w : World) (h : Ref w R vS vA vW d) :
    Calls Tryd.prog 12 #[.pointer (some ⟨R, 0, none⟩)] w fun e w' => e = .returned (.int .i64 (syE d)) ∧ ∃ vA' vW', Ref w' R vS vA' vW' (syS d) ∧ Keep (rblocks R vS vA vW) w w' ∧ ∀ k ∈ rblocks R vS vA' vW', k ∈ rblocks R vS vA vW ∨ w.heap.size ≤ k := by
  unfold syE syS
  cases h3 : d.live with
  | true =>
    refine (rsync_live R vS vA vW d w h h3).mono ?_
    rintro e w' ⟨rfl, h4, h5⟩
    exact ⟨rfl, _, _, h4, keep_rs h5, rb_none⟩
  | false =>
    refine (rsync_dead R vS vA vW d w h h3).mono ?_
    rintro e w' ⟨rfl, h4, h5⟩
    exact ⟨rfl, _, _, h4, keep_rs h5, fun k hk => Or.inl hk⟩
theorem read_at (D S : Nat) (vw : Value) (d : St) (a : Int) (w : World) (h : At w D S vw d) :
    Calls Tryd.prog 18 #[.pointer (some ⟨D, 0, none⟩), .int .i64 a] w fun e w' => e = .returned (.tuple #[.string (rdT d a), errV (rdE d a)]) ∧ Below w.heap.size w w' := by
  unfold rdT rdE
  cases hi : inD d a with
  | true =>
    obtain ⟨k, rfl, hk, -⟩ := in_nat hi
    exact read_any D S vw d k w h hk
  | false => exact read_range D S vw d a w h (out_nat hi)
theorem rread_at (R : Nat) (vS vA vW : Value) (d : St) (a : Int) (w : World) (h : Ref w R vS vA vW d) :
    Calls Tryd.prog 17 #[.pointer (some ⟨R, 0, none⟩), .int .i64 a] w fun e w' => e = .returned (.tuple #[.string (rdT d a), .int .i64 (rdE d a)]) ∧ w' = w := by
  unfold rdT rdE
  cases hi : inD d a with
  | true =>
    obtain ⟨k, rfl, hk, -⟩ := in_nat hi
    exact rread_any R vS vA vW d k w h hk
  | false => exact rread_range R vS vA vW d a w h (out_nat hi)
theorem len_wr (d : St) (a : Int) (s : ByteArray) : (wrS d a s).sure.length = d.sure.length ∧ (wrS d a s).ws.length ≤ d.ws.length + 1 := by
  unfold wrS
  split
  · exact ⟨rfl, by omega⟩
  · split
    · exact ⟨rfl, by omega⟩
    · split
      · exact ⟨rfl, by simp [St.wrote, St.burnt]⟩
      · exact ⟨rfl, by simp [St.burnt]⟩
theorem len_sy (d : St) : (syS d).sure.length = d.sure.length ∧ (syS d).ws.length ≤ d.ws.length := by
  unfold syS
  split
  · exact ⟨by simp [St.settled, settle_len, St.burnt], by simp [St.settled]⟩
  · exact ⟨rfl, Nat.le_refl _⟩
/-- Both disks, and a cell block of one's own, elsewhere. -/
structure Two (W w : World) (D S : Nat) (vw : Value) (d : St) (R : Nat) (vS vA vW : Value) (e : St) : Prop where
  disk : At w D S vw d
  ref : Ref w R vS vA vW e
  keep : Keep [] W w
  nx : ∀ k ∈ blocks D S vw, W.heap.size ≤ k
  ny : ∀ k ∈ rblocks R vS vA vW, W.heap.size ≤ k
  dis : ∀ k ∈ blocks D S vw, k ∉ rblocks R vS vA vW
theorem Two.below {W w w' : World} {D S : Nat} {vw : Value} {d : St} {R : Nat} {vS vA vW : Value} {e : St} (h : Two W w D S vw d R vS vA vW e) (hb : Below w.heap.size w w') : Two W w' D S vw d R vS vA vW e :=
  ⟨h.disk.below hb, h.ref.below hb, h.keep.then (Keep.of (X := []) hb) (by simp), h.nx, h.ny, h.dis⟩
theorem Two.drew {W w : World} {D S : Nat} {vw : Value} {d : St} {R : Nat} {vS vA vW : Value} {e : St} (h : Two W w D S vw d R vS vA vW e) : Two W w.drew D S vw d R vS vA vW e :=
  ⟨h.disk.drew, h.ref.drew, h.keep.drew, h.nx, h.ny, h.dis⟩
theorem Two.dstep {W w w' : World} {D S : Nat} {vw vw' : Value} {d d' : St} {R : Nat} {vS vA vW : Value} {e : St} (h : Two W w D S vw d R vS vA vW e) (ha : At w' D S vw' d') (hk : Keep (blocks D S vw) w w') (hf : ∀ k ∈ blocks D S vw', k ∈ blocks D S vw ∨ w.heap.size ≤ k) : Two W w' D S vw' d' R vS vA vW e := by
  have hs := h.keep.size
  refine ⟨ha, h.ref.keep hk (fun k hk1 hk2 => h.dis k hk2 hk1), h.keep.then hk (fun y hy => Or.inr (h.nx y hy)), fun k hk' => ?_, h.ny, fun k hk' hr => ?_⟩
  · rcases hf k hk' with q | q
    · exact h.nx k q
    · omega
  · rcases hf k hk' with q | q
    · exact h.dis k q hr
    · have := h.ref.lt k hr; omega
theorem Two.rstep {W w w' : World} {D S : Nat} {vw : Value} {d : St} {R : Nat} {vS vA vW vA' vW' : Value} {e e' : St} (h : Two W w D S vw d R vS vA vW e) (ha : Ref w' R vS vA' vW' e') (hk : Keep (rblocks R vS vA vW) w w') (hf : ∀ k ∈ rblocks R vS vA' vW', k ∈ rblocks R vS vA vW ∨ w.heap.size ≤ k) : Two W w' D S vw d R vS vA' vW' e' := by
  have hs := h.keep.size
  refine ⟨h.disk.keep hk (fun k hk1 => h.dis k hk1), ha, h.keep.then hk (fun y hy => Or.inr (h.ny y hy)), h.nx, fun k hk' => ?_, fun k hk' hr => ?_⟩
  · rcases hf k hk' with q | q
    · exact h.ny k q
    · omega
  · rcases hf k hr with q | q
    · exact h.dis k hk' q
    · have := h.disk.blocks_lt k hk'; omega
structure Hold (w : World) (X : Nat) (cs : List Value) (D S : Nat) (vw : Value) (R : Nat) (vS vA vW : Value) : Prop where
  blk : Blk w X cs
  nd : X ∉ blocks D S vw
  nr : X ∉ rblocks R vS vA vW
theorem Hold.below {w w' : World} {X : Nat} {cs : List Value} {D S : Nat} {vw : Value} {R : Nat} {vS vA vW : Value} (h : Hold w X cs D S vw R vS vA vW) (hb : Below w.heap.size w w') : Hold w' X cs D S vw R vS vA vW := ⟨h.blk.below hb, h.nd, h.nr⟩
theorem Hold.drew {w : World} {X : Nat} {cs : List Value} {D S : Nat} {vw : Value} {R : Nat} {vS vA vW : Value} (h : Hold w X cs D S vw R vS vA vW) : Hold w.drew X cs D S vw R vS vA vW := ⟨h.blk.block rfl, h.nd, h.nr⟩
theorem Hold.dstep {w w' : World} {X : Nat} {cs : List Value} {D S : Nat} {vw vw' : Value} {R : Nat} {vS vA vW : Value} (h : Hold w X cs D S vw R vS vA vW) (hk : Keep (blocks D S vw) w w') (hf : ∀ k ∈ blocks D S vw', k ∈ blocks D S vw ∨ w.heap.size ≤ k) : Hold w' X cs D S vw' R vS vA vW :=
  ⟨h.blk.keep hk h.nd, fun q => (hf X q).elim h.nd (fun r => by have := h.blk.lt; omega), h.nr⟩
theorem Hold.rstep {w w' : World} {X : Nat} {cs : List Value} {D S : Nat} {vw : Value} {R : Nat} {vS vA vW vA' vW' : Value} (h : Hold w X cs D S vw R vS vA vW) (hk : Keep (rblocks R vS vA vW) w w') (hf : ∀ k ∈ rblocks R vS vA' vW', k ∈ rblocks R vS vA vW ∨ w.heap.size ≤ k) : Hold w' X cs D S vw R vS vA' vW' :=
  ⟨h.blk.keep hk h.nr, h.nd, fun q => (hf X q).elim h.nr (fun r => by have := h.blk.lt; omega)⟩
/-- A step of the script. -/
structure Opn where
  what : Int
  at_ : Int
  s : ByteArray
  kv : Value
  ks : List Bool
def opc (x : Opn) : List Value := [.int .i64 x.what, .int .i64 x.at_, .string x.s, x.kv]
structure OpOk (W : World) (x : Opn) : Prop where
  sz : x.s.size ≤ maxLen
  a0 : -9223372036854775808 ≤ x.at_
  a1 : x.at_ ≤ 9223372036854775807
  lst : Lst W x.kv (bl x.ks)
def OpsIs (W : World) (v : Value) (l : List Opn) : Prop := ∃ a c, v = .slice a l.length c ∧ (l = [] ∨ ∃ b o, a = some ⟨b, o, none⟩ ∧ b < W.heap.size ∧ ∀ j (h : j < l.length), W.rangeAt b (o + j * 4) (opc l[j])) ∧ ∀ x ∈ l, OpOk W x
end Go.Proofs.YtgmngifnilmheaaDoor.Dk
