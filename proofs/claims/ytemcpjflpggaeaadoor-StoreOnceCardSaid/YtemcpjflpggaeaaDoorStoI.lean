import Derived.Test.YtemcpjflpggaeaaDoorStoH
import Derived.Test.YtemcpjflpggaeaaDoorDskD
set_option linter.unusedSimpArgs false
set_option linter.unusedVariables false
namespace Go.Proofs.YtemcpjflpggaeaaDoor.Dk
open Go.RowKit Go.Maps Go.Shelf
attribute [local go_sem] Oper.semAt_some

/-- A range over a func value of its own cells, whose body returns or goes on: so many rounds are left. -/
theorem range_clo {n : Nat} {P : Program} {g : Operand} {p : Tmp} {assign body : Code} {Q : Exit → Act → World → Prop} {a : Act} {w : World} {gf : Nat} {cap : Array Value}
    (hg : a.eval g = .func (.func gf) #[] cap) (eg : ∀ args w, (callFunc gf args).run P w = .ok (.enter gf args) w) (N : Nat) (enc : Nat → Value) (I Ix : Nat → World → Prop)
    (hIt : ∀ (l : Nat) (J Jx : Nat → World → Prop) (W : World), (∀ j W, J j W → I j W) → (∀ j W, J j W → J j W.drew) → (∀ j W, j < N → J (j + 1) W → YieldAt Fence.wide (n - 1 - 1) P l #[enc j] W fun e W' => (e = .returned (.bool true) ∧ J j W') ∨ (e = .returned (.bool false) ∧ Jx j W')) → J N W →
      CallsIn Fence.wide (n - 1) P gf (#[.func (.yield l) #[] #[]] ++ cap) W fun e W' => (∃ v, e = .returned v) ∧ (J 0 W' ∨ ∃ j, j < N ∧ Jx j W'))
    (hId : ∀ j W, I j W → I j W.drew) (hIa : ∀ j W o, I j W → I j (W.alloc o)) (hIp : ∀ j W o, I j W → I j (W.putObj (w.heap.size + 1) o)) (hXp : ∀ j W o, Ix j W → Ix j (W.putObj (w.heap.size + 1) o)) (h0 : I N w)
    (hround : ∀ (l j : Nat) (W : World), l = w.heap.size + 1 → l < W.heap.size → j < N → I (j + 1) W →
      assign.wpIn (Fence.wide.inRound l) (n - 1 - 1) P (Exit.then (fun a₁ W₁ => Keep [] W W₁ ∧ ∀ W₂, I (j + 1) W₂ → Keep [l] W₁ W₂ →
        body.wpIn (Fence.wide.inRound l) (n - 1 - 1) P (fun e _ W₃ => (W₃.heap[l]? = W₂.heap[l]? ∧ W₃.heap[w.heap.size]? = W₂.heap[w.heap.size]?) ∧ ((e = .normal ∧ I j W₃) ∨ (e = .ret ∧ Ix j W₃))) a₁ W₂) (fun _ _ _ => False))
        { tmps := a.tmps.setIfInBounds p (enc j), defers := [] } W ∧ ∀ W₁, Keep [] W W₁ → I (j + 1) W₁)
    (hdone : ∀ W, I 0 W → W.heap[w.heap.size]? = some (.deferred (some [])) → Q .normal { a with defers := { target := .collected w.heap.size, args := #[] } :: a.defers } W)
    (hstop : ∀ j W, j < N → Ix j W → W.heap[w.heap.size]? = some (.deferred (some [])) → Code.ret.wpIn Fence.wide n P Q { a with defers := { target := .collected w.heap.size, args := #[] } :: a.defers } W) :
    (Code.rangeFunc g #[p] assign body).wpIn Fence.wide n P Q a w := by
  refine wpIn_rangeFunc ?_
  intro fn hfn
  obtain ⟨R, hR⟩ : ∃ R : LoopState → Option Code → Loop, R = fun st pe => { state := st, pending := pe, fn, tmps := a.tmps, params := #[p], assign, body, defers := w.heap.size } := ⟨_, rfl⟩
  obtain ⟨W1, hW1⟩ : ∃ W1, (w.alloc (.deferred (some []))).alloc (.loop (R .ready none)) = W1 := ⟨_, rfl⟩
  have hl1 : W1.heap[w.heap.size + 1]? = some (.loop (R .ready none)) := by
    rw [← hW1]
    have := World.alloc_heap_new (w.alloc (.deferred (some []))) (.loop (R .ready none))
    rwa [World.size_alloc] at this
  have hk1 : W1.heap[w.heap.size]? = some (.deferred (some [])) := by
    rw [← hW1]
    exact (Below.heap_alloc _ _ _ (by simp)).trans (World.alloc_heap_new w _)
  refine ⟨w.heap.size + 1, [{ target := .collected w.heap.size, args := #[] }], W1, { target := .fn (.func gf) cap, args := #[.func (.yield (w.heap.size + 1)) #[] #[]] }, W1, gf, #[.func (.yield (w.heap.size + 1)) #[] #[]] ++ cap, W1, ?_, ?_, fun _ _ => trivial, ?_, fun h => (by cases h), ?_⟩
  · rw [← hW1, hR]
    exact run_enterLoop_outer _ _ _ _ _
  · simp only [resolve, hg]
    simp [go_sem]
  · simp [invoke, go_sem, eg]
  refine (hIt (w.heap.size + 1) (fun j W => I j W ∧ W.heap[w.heap.size + 1]? = some (.loop (R .ready none)) ∧ W.heap[w.heap.size]? = some (.deferred (some []))) (fun j W => Ix j W ∧ W.heap[w.heap.size + 1]? = some (.loop (R .done (some .ret))) ∧ W.heap[w.heap.size]? = some (.deferred (some []))) W1 (fun j W h => h.1) (fun j W h => ⟨hId j W h.1, h.2⟩) ?_ ⟨by rw [← hW1]; exact hIa _ _ _ (hIa _ _ _ h0), hl1, hk1⟩).mono ?_
  · rintro j W hj ⟨hi, hl, hk⟩
    have hlt : w.heap.size + 1 < W.heap.size := (Array.getElem?_eq_some_iff.1 hl).1
    have hy := run_yield (P := P) (args := #[enc j]) hl (by rw [hR]; rfl)
    rw [hR] at hy
    have hy' : (Instr.yield (w.heap.size + 1) #[enc j]).run P W = .ok (.round (w.heap.size + 1) fn (a.tmps.setIfInBounds p (enc j)) assign body) W := by simpa using hy
    clear hy
    obtain ⟨hr1, hr2⟩ := hround (w.heap.size + 1) j W rfl hlt hj hi
    refine ⟨fn, _, assign, body, hy', roundIn_of_wpIn hfn ?_⟩
    clear hy'
    refine wpIn_mono hr1 ?_
    intro e a₁ Wa hp
    cases e with
    | normal =>
      obtain ⟨hka, hb⟩ := hp
      have hla := (hka.block _ hlt (by simp)).trans hl
      have hda := (hka.block _ (show w.heap.size < W.heap.size by omega) (by simp)).trans hk
      have hlt2 : w.heap.size + 1 < Wa.heap.size := (Array.getElem?_eq_some_iff.1 hla).1
      refine ⟨_, run_beginRound hla (by rw [hR]), ?_⟩
      have hl2 : (Wa.putObj (w.heap.size + 1) (.loop { R .ready none with state := .busy })).heap[w.heap.size + 1]? = some (.loop { R .ready none with state := .busy }) := World.putObj_heap_same hlt2
      have hk2 : (Wa.putObj (w.heap.size + 1) (.loop { R .ready none with state := .busy })).heap[w.heap.size]? = some (.deferred (some [])) := (World.putObj_heap_other (by omega)).trans hda
      have hkp : Keep [w.heap.size + 1] Wa (Wa.putObj (w.heap.size + 1) (.loop { R .ready none with state := .busy })) := by
        have := grownBy_putObj' Wa (w.heap.size + 1) (.loop { R .ready none with state := .busy })
        exact ⟨this.os, this.tape, this.output, this.size, fun q hq hne => this.block q hq (by simpa using hne)⟩
      refine wpIn_mono (hb _ (hIp _ _ _ (hr2 _ hka)) hkp) ?_
      rintro e a3 W3 ⟨⟨s1, s2⟩, hp⟩
      have hl3 := s1.trans hl2
      have hk3 := s2.trans hk2
      have hlt3 : w.heap.size + 1 < W3.heap.size := (Array.getElem?_eq_some_iff.1 hl3).1
      rcases hp with ⟨rfl, hi3⟩ | ⟨rfl, hx3⟩
      · have := run_endRound (P := P) none hl3
        rw [hR] at this
        refine ⟨_, _, this, Or.inl ⟨rfl, hIp _ _ _ hi3, ?_, (World.putObj_heap_other (by omega)).trans hk3⟩⟩
        rw [World.putObj_heap_same hlt3, hR]
        rfl
      · have := run_endRound (P := P) (some .ret) hl3
        rw [hR] at this
        refine ⟨_, _, this, Or.inr ⟨rfl, hXp _ _ _ hx3, ?_, (World.putObj_heap_other (by omega)).trans hk3⟩⟩
        rw [World.putObj_heap_same hlt3, hR]
        rfl
    | exit id => exact hp.elim
    | goto t => exact hp.elim
    | ret => exact hp.elim
    | panic c => exact hp.elim
    | outgrown => exact hp.elim
  · rintro e W2 ⟨⟨v, rfl⟩, ⟨hi, hl, hk⟩ | ⟨j, hj, hx, hl, hk⟩⟩
    · exact ⟨none, _, by have := run_endLoop (P := P) hl (by rw [hR]; simp); rw [hR] at this; exact this, hdone _ (hIp _ _ _ hi) ((World.putObj_heap_other (by omega)).trans hk)⟩
    · exact ⟨some .ret, _, by have := run_endLoop (P := P) hl (by rw [hR]; simp); rw [hR] at this; exact this, hstop j _ hj (hXp _ _ _ hx) ((World.putObj_heap_other (by omega)).trans hk)⟩
set_option maxRecDepth 100000 in
set_option maxHeartbeats 1000000 in
theorem packed_any (t : Bs) (w : World) (ht : t.length ≤ 300) :
    Calls Tryd.prog 74 #[recV t] w fun e w' => ∃ v, e = .returned v ∧ Bx w' w.heap.size v (packL t) ∧ Below w.heap.size w w' := by
  have hs := tx_sz t
  unfold recV
  obtain ⟨ks, hks⟩ : ∃ ks, tx (sumL t) = ks := ⟨_, rfl⟩
  obtain ⟨tt, htt⟩ : ∃ tt, tx t = tt := ⟨_, rfl⟩
  rw [hks, htt]
  rw [htt] at hs
  have hksz : ks.size = 32 := by rw [← hks, tx_sz, sumL_len]
  obtain ⟨b0, hb0⟩ : ∃ b, UInt8.ofNat (t.length / 256) = b := ⟨_, rfl⟩
  obtain ⟨b1, hb1⟩ : ∃ b, UInt8.ofNat (t.length % 256) = b := ⟨_, rfl⟩
  have e0 : (b0.toNat : Int) = (t.length : Int) / 256 := by rw [← hb0]; simp; omega
  have e1 : (b1.toNat : Int) = (t.length : Int) % 256 := by rw [← hb1]; simp
  obtain ⟨w2, hw2⟩ : ∃ w2, (w.alloc (.cells #[.string ks, .string tt] 92)).alloc (.cells #[.int .u8 ((t.length : Int) / 256), .int .u8 ((t.length : Int) % 256)] 5) = w2 := ⟨_, rfl⟩
  have B2 : Below w.heap.size w w2 := by rw [← hw2]; exact ((Below.refl _ w).alloc (Nat.le_refl _) _).alloc (by simp) _
  have X1 : Blk w2 w.heap.size [.string ks, .string tt] := by rw [← hw2]; exact (Blk.new w _ _ _ rfl).alloc _
  have X2 : Blk w2 (w.heap.size + 1) (bc [b0, b1]) := by
    have := Blk.new (w.alloc (.cells #[.string ks, .string tt] 92)) [.int .u8 ((t.length : Int) / 256), .int .u8 ((t.length : Int) % 256)] 5 (w.heap.size + 1) (by simp)
    rw [← hw2]
    show Blk _ _ [.int .u8 (b0.toNat : Int), .int .u8 (b1.toNat : Int)]
    rw [e0, e1]
    exact this
  have hcv1 := to_text w2 (w.heap.size + 1) 0 2 [b0, b1] 2 rfl (X2.range (fun j v hv => by rwa [Nat.zero_add]))
  have y0 := X1.cell 0 rfl
  have y1 := X1.cell 1 rfl
  obtain ⟨ls, hls⟩ : ∃ ls, tx [b0, b1] = ls := ⟨_, rfl⟩
  rw [hls] at hcv1
  have hlsz : ls.size = 2 := by rw [← hls]; rfl
  obtain ⟨al, hal⟩ : ∃ al, ks ++ ls ++ tt = al := ⟨_, rfl⟩
  have hdat : al.data.toList = packL t := by
    rw [← hal, ← hks, ← htt, ← hls, ← hb0, ← hb1]
    simp [packL, tx, ByteArray.data_append]
  have halz : al.size = 34 + t.length := by
    have := congrArg List.length hdat
    rw [packL_len] at this
    simpa using this
  have hcv2 := conv_run w2 al
  obtain ⟨w3, hw3⟩ : ∃ w3, Lib.bytesWorld w2 5 al = w3 := ⟨_, rfl⟩
  rw [hw3] at hcv2
  have hbx := Bx.conv w2 al (by rw [halz]; unfold maxLen; omega)
  rw [hw3, hdat] at hbx
  have HBX := hid hbx
  have HB2 := hid B2
  clear hbx hdat hb0 hb1 e0 e1 hks htt hls X1 X2 B2 hw3 halz
  go_enter Tryd.func74, Tryd.ntmps74
  go_wp2
  go_ret
  exact ⟨_, rfl, HBX.out.1.up HB2.out.size, HB2.out.trans (HBX.out.2.mono HB2.out.size)⟩
end Go.Proofs.YtemcpjflpggaeaaDoor.Dk
