import Derived.Test.YtemcpjflpggaeaaDoorDskC
import Derived.RangeFuncNested
import Derived.RangeFuncBound
import Derived.RangeFuncCalls
import Derived.RangeFuncLeaves
import Derived.Shelf.Abstract
import Derived.Shelf.RegionOpen
import Derived.OwnWalkIn
import Derived.TacticsInMore
import Derived.LoopNIn
import Derived.LoopIn
import Derived.Laws.BytesString
set_option linter.unusedSimpArgs false
set_option linter.unusedVariables false
namespace Go.Proofs.YtemcpjflpggaeaaDoor.Dk
open Go.RowKit Go.Shelf
attribute [local go_sem] Oper.semAt_some

/-- A whole struct or array read, inside a fence. -/
theorem loadIn {F : Fence} {n : Nat} {P : Program} {ops : Array Oper} {rest : List Oper} {o : Oper} {a : Act} {w : World} {Q : Exit → Act → World → Prop} (hg : o.guard = none) (ty : TypeId) (x : Operand) (ho : o.op = .load ty x)
    (b f : Nat) (hx : a.eval x = .pointer (some ⟨b, f, none⟩)) (cs : List Value) (d : TypeDesc) (hc : w.rangeAt b f cs) (hu : P.underlying ty = some d) (hd : d.isRow = true) (hi : (P.info? ty).map (·.size) = some cs.length)
    (h : wpListIn F n P ops Q rest (a.put o.dst (.agg cs.toArray)) w) : wpListIn F n P ops Q (o :: rest) a w := by
  refine wpListIn_plain hg fun K hK => ?_
  have hr := run_loadAt_mid (P := P) w b f ty cs d hc hu hd hi
  unfold Oper.wpIn
  refine ⟨?_, ?_⟩
  · simp [Oper.about, ho]
  · rw [Oper.semAt_plain F _ _ (by rw [ho]; intro c hc'; cases hc')]
    simp only [execOp, ho, hx, Sem.run_bind, hr, Result.andThen_ok]
    exact hK _ _ h
/-- A whole struct or array written, inside a fence. -/
theorem storeIn {F : Fence} {n : Nat} {P : Program} {ops : Array Oper} {rest : List Oper} {o : Oper} {a : Act} {w : World} {Q : Exit → Act → World → Prop} (hg : o.guard = none) (ty : TypeId) (x y : Operand) (ho : o.op = .store ty x y)
    (b f : Nat) (cells : Array Value) (hx : a.eval x = .pointer (some ⟨b, f, none⟩)) (hy : a.eval y = .agg cells) (ht : w.there b f cells.size) (hi : (P.info? ty).map (·.size) = some cells.size) (h1 : cells.all (·.oneCell') = true)
    (h : wpListIn F n P ops Q rest (a.put o.dst undef) (w.setCells b f cells.toList)) : wpListIn F n P ops Q (o :: rest) a w := by
  refine wpListIn_plain hg fun K hK => ?_
  have hr := run_storeAt_mid (P := P) w b f ty cells ht hi h1
  unfold Oper.wpIn
  refine ⟨?_, ?_⟩
  · simp [Oper.about, ho]
  · rw [Oper.semAt_plain F _ _ (by rw [ho]; intro c hc'; cases hc')]
    simp only [execOp, ho, hx, hy, Sem.run_bind, hr, Result.andThen_ok]
    exact hK _ _ h
set_option maxRecDepth 100000 in
set_option maxHeartbeats 1600000 in
theorem back_in (n : Nat) (l D S : Nat) (vw : Value) (d : St) (J Jx : Nat → World → Prop) (hA : ∀ j W, J j W → At W D S vw d)
    (hY : ∀ j W (hj : j < d.ws.length), J (j + 1) W → YieldAt Fence.wide (n - 1) Tryd.prog l #[.agg (wcell d.ws[j]).toArray] W fun e W' => (e = .returned (.bool true) ∧ J j W') ∨ (e = .returned (.bool false) ∧ Jx j W'))
    (W : World) (h0 : J d.ws.length W) :
    CallsIn Fence.wide n Tryd.prog 44 #[.pointer (some ⟨D, 0, none⟩), .func (.yield l) #[] #[]] W fun e W' => (∃ v, e = .returned v) ∧ (J 0 W' ∨ ∃ j, j < d.ws.length ∧ Jx j W') := by
  have hA0 := hA _ _ h0
  obtain ⟨va, vc, hv, hvc⟩ := own_form hA0.own
  subst hv
  have hf := hA0.ok.few
  have hok := hid hA0.ok
  have c1 := hA0.c1
  refine callsIn_of_wp Tryd.func44 rfl trivial ?_ rfl
  simp only [Tryd.ntmps44, List.size_toArray, List.length_cons, List.length_nil, Nat.reduceAdd, Nat.reduceSub, Array.replicate_succ, Array.replicate_zero, List.push_toArray, List.append_toArray, List.nil_append, List.cons_append]
  gi_wp2
  gi_loopw [4] (fun p wr => ∃ j : Nat, j ≤ d.ws.length ∧ p = .int .i64 ((j : Int) - 1) ∧ J j wr) (fun p wr => (intOf p + 1).toNat)
  case atStart => exact ⟨_, Nat.le_refl _, rfl, h0⟩
  case round =>
    obtain ⟨j, hj, rfl, hJ⟩ := hrel
    have HJ := hid hJ
    have hAr := hid (hA _ _ hJ)
    clear hJ
    cases j with
    | zero =>
      gi_wp2
      go_end0
      exact ⟨⟨_, rfl⟩, Or.inl HJ.out⟩
    | succ j =>
      have e1 : ((j + 1 : Nat) : Int) - 1 = (j : Int) := by omega
      rw [e1]
      have hjl : j < d.ws.length := by omega
      obtain ⟨g, cap, e, -, hgl⟩ := hAr.out.own.form (by omega)
      injection e with e1 e2 e3
      subst e1
      subst e3
      have d1 := hAr.out.c1
      have HR := hid (own_range hAr.out.own (fun x hx => (hAr.out.ok.wok x hx).2) j hjl)
      have HL := hid (wcell_len (hok.out.wok d.ws[j] (List.getElem_mem hjl)).2)
      obtain ⟨fn, tmps, assign, body, hy, hR⟩ := hY j wr hjl HJ.out
      gi_wp2_with (first | (refine loadIn rfl 77 (.tmp 21) rfl g (j * 65) rfl (wcell d.ws[j]) _ HR.out Tryd.underlying77 rfl (by rw [HL.out]; exact info_w) ?_))
      refine ⟨fun h => (by cases h), ?_⟩
      refine hR.mono ?_
      rintro e W3 (⟨rfl, hJ3⟩ | ⟨rfl, hJx3⟩)
      · gi_wp2
        go_roundw
        case rel => exact ⟨j, by omega, by go_num, hJ3⟩
        case measure => simp [intOf]
      · gi_wp2
        refine bodyPost_ret (results_none rfl _ _ _) rfl ?_
        exact ⟨⟨_, rfl⟩, Or.inr ⟨j, hjl, hJx3⟩⟩
/-- A text of bytes. -/
def tx (l : Bs) : ByteArray := ⟨l.toArray⟩
theorem fold_push (l : List UInt8) (s : ByteArray) : ((l.map fun c => ((c.toNat : Nat) : Int)).foldl (fun r n => r.push (UInt8.ofNat n.toNat)) s).data.toList = s.data.toList ++ l := by
  induction l generalizing s with
  | nil => simp
  | cons a r ih => rw [List.map_cons, List.foldl_cons, ih]; simp [ByteArray.push]
theorem to_text (w : World) (b o n : Nat) (l : Bs) (c : Nat) (hn : n = l.length) (h : w.rangeAt b o (bc l)) : (convert 66 9 (.slice (some ⟨b, o, none⟩) n c)).run Tryd.prog w = .ok (.string (tx l)) w := by
  subst hn
  rw [run_convert_bytes_string (P := Tryd.prog) w 66 9 5 _ _ _ Tryd.underlying66 Tryd.underlying5 Tryd.underlying9]
  have hl := run_loadCells_list (P := Tryd.prog) w ⟨b, o, none⟩ (bc l) (fun j v hv => by
    rw [Addr.add_mid]; exact h j v hv)
  have e : bc l = (l.map fun c => ((c.toNat : Nat) : Int)).map (Value.int .u8) := by simp [bc]
  rw [bc_len, e] at hl
  rw [run_bytesToString (P := Tryd.prog) w ⟨b, o, none⟩ l.length c _ hl]
  congr 2
  have e2 := fold_push l ByteArray.empty
  simp only [ByteArray.empty, ByteArray.emptyWithCapacity] at e2
  have : ∀ (x : ByteArray), x.data.toList = l → x = tx l := fun x hx => by rw [tx, ← hx]
  exact this _ (by rw [fold_push]; rfl)
/-- A range over a method value, whose body returns or goes on: rounds come from the last one down. -/
theorem range_bound {n : Nat} {P : Program} {g : Operand} {p : Tmp} {assign body : Code} {Q : Exit → Act → World → Prop} {a : Act} {w : World} {gf : Nat} {rcv : Value}
    (hg : a.eval g = .func (.func gf) #[rcv] #[]) (eg : ∀ args w, (callFunc gf args).run P w = .ok (.enter gf args) w) (N : Nat) (enc : Nat → Value) (I Ix : Nat → World → Prop)
    (hIt : ∀ (l : Nat) (J Jx : Nat → World → Prop) (W : World), (∀ j W, J j W → I j W) → (∀ j W, j < N → J (j + 1) W → YieldAt Fence.wide (n - 1 - 1) P l #[enc j] W fun e W' => (e = .returned (.bool true) ∧ J j W') ∨ (e = .returned (.bool false) ∧ Jx j W')) → J N W →
      CallsIn Fence.wide (n - 1) P gf #[rcv, .func (.yield l) #[] #[]] W fun e W' => (∃ v, e = .returned v) ∧ (J 0 W' ∨ ∃ j, j < N ∧ Jx j W'))
    (hIa : ∀ j W o, I j W → I j (W.alloc o)) (hIp : ∀ j W l o, w.heap.size ≤ l → I j W → I j (W.putObj l o)) (hXp : ∀ j W l o, w.heap.size ≤ l → Ix j W → Ix j (W.putObj l o)) (h0 : I N w)
    (hround : ∀ (l j : Nat) (W : World), w.heap.size < l → l < W.heap.size → j < N → I (j + 1) W →
      assign.wpIn (Fence.wide.inRound l) (n - 1 - 1) P (Exit.then (fun a₁ W₁ => Keep [] W W₁ ∧ ∀ W₂, I (j + 1) W₂ → Keep [l] W₁ W₂ →
        body.wpIn (Fence.wide.inRound l) (n - 1 - 1) P (fun e _ W₃ => (W₃.heap[l]? = W₂.heap[l]? ∧ W₃.heap[w.heap.size]? = W₂.heap[w.heap.size]?) ∧ ((e = .normal ∧ I j W₃) ∨ (e = .ret ∧ Ix j W₃))) a₁ W₂) (fun _ _ _ => False))
        { tmps := a.tmps.setIfInBounds p (enc j), defers := [] } W ∧ ∀ W₁, Keep [] W W₁ → I (j + 1) W₁)
    (hdone : ∀ W, I 0 W → W.heap[w.heap.size]? = some (.deferred (some [])) → Q .normal { a with defers := { target := .collected w.heap.size, args := #[] } :: a.defers } W)
    (hstop : ∀ j W, j < N → Ix j W → W.heap[w.heap.size]? = some (.deferred (some [])) → Code.ret.wpIn Fence.wide n P Q { a with defers := { target := .collected w.heap.size, args := #[] } :: a.defers } W) :
    (Code.rangeFunc g #[p] assign body).wpIn Fence.wide n P Q a w := by
  refine wpIn_rangeFunc ?_
  intro fn hfn
  obtain ⟨R, hR⟩ : ∃ R : LoopState → Option Code → Loop, R = fun st pe => { state := st, pending := pe, fn, tmps := a.tmps, params := #[p], assign, body, defers := w.heap.size } := ⟨_, rfl⟩
  obtain ⟨W1, hW1⟩ : ∃ W1, (w.alloc (.deferred (some []))).alloc (.loop (R .ready none)) = W1 := ⟨_, rfl⟩
  have hl1 : W1.heap[w.heap.size + 1]? = some (.loop (R .ready none)) := by
    rw [← hW1]
    have := World.alloc_heap_new (w.alloc (.deferred (some []))) (.loop (R .ready none))
    rwa [World.size_alloc] at this
  have hk1 : W1.heap[w.heap.size]? = some (.deferred (some [])) := by
    rw [← hW1]
    exact (Below.heap_alloc _ _ _ (by simp)).trans (World.alloc_heap_new w _)
  refine ⟨w.heap.size + 1, [{ target := .collected w.heap.size, args := #[] }], W1, { target := .fn (.func gf) #[], args := #[rcv, .func (.yield (w.heap.size + 1)) #[] #[]] }, W1, gf, #[rcv, .func (.yield (w.heap.size + 1)) #[] #[]], W1, ?_, ?_, fun _ _ => trivial, ?_, fun h => (by cases h), ?_⟩
  · rw [← hW1, hR]
    exact run_enterLoop_outer _ _ _ _ _
  · simp only [resolve, hg]
    simp [go_sem]
  · simp [invoke, go_sem, eg]
  refine (hIt (w.heap.size + 1) (fun j W => I j W ∧ W.heap[w.heap.size + 1]? = some (.loop (R .ready none)) ∧ W.heap[w.heap.size]? = some (.deferred (some []))) (fun j W => Ix j W ∧ W.heap[w.heap.size + 1]? = some (.loop (R .done (some .ret))) ∧ W.heap[w.heap.size]? = some (.deferred (some []))) W1 (fun j W h => h.1) ?_ ⟨by rw [← hW1]; exact hIa _ _ _ (hIa _ _ _ h0), hl1, hk1⟩).mono ?_
  · rintro j W hj ⟨hi, hl, hk⟩
    have hlt : w.heap.size + 1 < W.heap.size := (Array.getElem?_eq_some_iff.1 hl).1
    have hy := run_yield (P := P) (args := #[enc j]) hl (by rw [hR]; rfl)
    rw [hR] at hy
    have hy' : (Instr.yield (w.heap.size + 1) #[enc j]).run P W = .ok (.round (w.heap.size + 1) fn (a.tmps.setIfInBounds p (enc j)) assign body) W := by simpa using hy
    clear hy
    obtain ⟨hr1, hr2⟩ := hround (w.heap.size + 1) j W (by omega) hlt hj hi
    refine ⟨fn, _, assign, body, hy', roundIn_of_wpIn hfn ?_⟩
    clear hy'
    refine wpIn_mono hr1 ?_
    intro e a₁ Wa hp
    cases e with
    | normal =>
      obtain ⟨hka, hb⟩ := hp
      have hla := (hka.block _ hlt (by simp)).trans hl
      have hda := (hka.block _ (show w.heap.size < W.heap.size by omega) (by simp)).trans hk
      have hlt2 : w.heap.size + 1 < Wa.heap.size := (Array.getElem?_eq_some_iff.1 hla).1
      refine ⟨_, run_beginRound hla (by rw [hR]), ?_⟩
      have hl2 : (Wa.putObj (w.heap.size + 1) (.loop { R .ready none with state := .busy })).heap[w.heap.size + 1]? = some (.loop { R .ready none with state := .busy }) := World.putObj_heap_same hlt2
      have hk2 : (Wa.putObj (w.heap.size + 1) (.loop { R .ready none with state := .busy })).heap[w.heap.size]? = some (.deferred (some [])) := (World.putObj_heap_other (by omega)).trans hda
      have hkp : Keep [w.heap.size + 1] Wa (Wa.putObj (w.heap.size + 1) (.loop { R .ready none with state := .busy })) := by
        have := grownBy_putObj' Wa (w.heap.size + 1) (.loop { R .ready none with state := .busy })
        exact ⟨this.os, this.tape, this.output, this.size, fun q hq hne => this.block q hq (by simpa using hne)⟩
      refine wpIn_mono (hb _ (hIp _ _ _ _ (by omega) (hr2 _ hka)) hkp) ?_
      rintro e a3 W3 ⟨⟨s1, s2⟩, hp⟩
      have hl3 := s1.trans hl2
      have hk3 := s2.trans hk2
      have hlt3 : w.heap.size + 1 < W3.heap.size := (Array.getElem?_eq_some_iff.1 hl3).1
      rcases hp with ⟨rfl, hi3⟩ | ⟨rfl, hx3⟩
      · have := run_endRound (P := P) none hl3
        rw [hR] at this
        refine ⟨_, _, this, Or.inl ⟨rfl, hIp _ _ _ _ (by omega) hi3, ?_, (World.putObj_heap_other (by omega)).trans hk3⟩⟩
        rw [World.putObj_heap_same hlt3, hR]
        rfl
      · have := run_endRound (P := P) (some .ret) hl3
        rw [hR] at this
        refine ⟨_, _, this, Or.inr ⟨rfl, hXp _ _ _ _ (by omega) hx3, ?_, (World.putObj_heap_other (by omega)).trans hk3⟩⟩
        rw [World.putObj_heap_same hlt3, hR]
        rfl
    | exit id => exact hp.elim
    | goto t => exact hp.elim
    | ret => exact hp.elim
    | panic c => exact hp.elim
    | outgrown => exact hp.elim
  · rintro e W2 ⟨⟨v, rfl⟩, ⟨hi, hl, hk⟩ | ⟨j, hj, hx, hl, hk⟩⟩
    · exact ⟨none, _, by have := run_endLoop (P := P) hl (by rw [hR]; simp); rw [hR] at this; exact this, hdone _ (hIp _ _ _ _ (by omega) hi) ((World.putObj_heap_other (by omega)).trans hk)⟩
    · exact ⟨some .ret, _, by have := run_endLoop (P := P) hl (by rw [hR]; simp); rw [hR] at this; exact this, hstop j _ hj (hXp _ _ _ _ (by omega) hx) ((World.putObj_heap_other (by omega)).trans hk)⟩
theorem last_none (k : Nat) : ∀ (l : List (Nat × Bs)), (∀ i (h : i < l.length), l[i].1 ≠ k) → lastL k l = none
  | [], _ => rfl
  | x :: r, h => by
    have h0 := h 0 (by simp)
    have ih := last_none k r (fun i hi => by have := h (i + 1) (by simpa using hi); simpa using this)
    simp only [List.getElem_cons_zero] at h0
    rw [lastL, ih, if_neg h0]
    rfl
theorem last_some (k : Nat) : ∀ (l : List (Nat × Bs)) (j : Nat) (x : Nat × Bs), l[j]? = some x → x.1 = k → (∀ i, j < i → (h : i < l.length) → l[i].1 ≠ k) → lastL k l = some x.2
  | [], j, x, h1, _, _ => by simp at h1
  | y :: r, 0, x, h1, h2, h3 => by
    have ih := last_none k r (fun i hi => by have := h3 (i + 1) (by omega) (by simpa using hi); simpa using this)
    simp at h1
    subst h1
    rw [lastL, ih, if_pos h2]
    rfl
  | y :: r, j + 1, x, h1, h2, h3 => by
    have ih := last_some k r j x (by simpa using h1) h2 (fun i hi hil => by have := h3 (i + 1) (by omega) (by simpa using hil); simpa using this)
    rw [lastL, ih]
    rfl
/-- What the result's cells hold in a round. -/
structure Rd (w W : World) (D S : Nat) (vw : Value) (d : St) (k : Nat) (s : ByteArray) : Prop where
  disk : At W D S vw d
  at_ : Blk W w.heap.size [.int .i64 k]
  str : Blk W (w.heap.size + 1) [.string s]
  err : Blk W (w.heap.size + 1 + 1) [.nilIface]
  bel : Below w.heap.size w W
  dl : D < w.heap.size
  sl : S < w.heap.size
  vl : ∀ g, vw.ownBlock = some g → g < w.heap.size
theorem Rd.mv {w W W' : World} {D S : Nat} {vw : Value} {d : St} {k : Nat} {s : ByteArray} (h : Rd w W D S vw d k s) (hb : Keep [] W W') : Rd w W' D S vw d k s :=
  ⟨h.disk.keep hb (by simp), h.at_.keep hb (by simp), h.str.keep hb (by simp), h.err.keep hb (by simp), h.bel.trans (hb.below (by simp) h.bel.size), h.dl, h.sl, h.vl⟩
theorem Rd.put {w W : World} {D S : Nat} {vw : Value} {d : St} {k : Nat} {s : ByteArray} (h : Rd w W D S vw d k s) (l : Nat) (o : Obj) (hl : w.heap.size + 1 + 1 < l) : Rd w (W.putObj l o) D S vw d k s := by
  have hk : Keep [l] W (W.putObj l o) := by
    have := grownBy_putObj' W l o
    exact ⟨this.os, this.tape, this.output, this.size, fun q hq hne => this.block q hq (by simpa using hne)⟩
  refine ⟨h.disk.keep hk ?_, h.at_.keep hk (by simp; omega), h.str.keep hk (by simp; omega), h.err.keep hk (by simp; omega), h.bel.trans (hk.below (by simp; omega) h.bel.size), h.dl, h.sl, h.vl⟩
  intro q hq
  have : q < w.heap.size := by
    simp only [blocks, List.mem_cons, Option.mem_toList] at hq
    rcases hq with rfl | rfl | hq
    · exact h.dl
    · exact h.sl
    · exact h.vl q hq
  simp
  omega
theorem Rd.told {w W : World} {D S : Nat} {vw : Value} {d : St} {k : Nat} {s t : ByteArray} (h : Rd w W D S vw d k s) : Rd w ((W.setCell ⟨w.heap.size + 1, 0, none⟩ (.string t)).setCell ⟨w.heap.size + 1 + 1, 0, none⟩ .nilIface) D S vw d k t := by
  have hb : ∀ q ∈ blocks D S vw, q < w.heap.size := by
    intro q hq
    simp only [blocks, List.mem_cons, Option.mem_toList] at hq
    rcases hq with rfl | rfl | hq
    · exact h.dl
    · exact h.sl
    · exact h.vl q hq
  have hk : Keep [w.heap.size + 1, w.heap.size + 1 + 1] W ((W.setCell ⟨w.heap.size + 1, 0, none⟩ (.string t)).setCell ⟨w.heap.size + 1 + 1, 0, none⟩ .nilIface) := ((Keep.refl _ W).set _ _ _ (Or.inl (by simp))).set _ _ _ (Or.inl (by simp))
  exact ⟨h.disk.keep hk (fun q hq => by have := hb q hq; simp; omega), h.at_.keep hk (by simp; omega), (h.str.set 0 _).other _ _ (by omega), (h.err.other _ _ (by omega)).set 0 _, h.bel.trans (hk.below (by simp; omega) h.bel.size), h.dl, h.sl, h.vl⟩
set_option maxRecDepth 100000 in
set_option maxHeartbeats 1600000 in
theorem read_any (D S : Nat) (vw : Value) (d : St) (k : Nat) (w : World) (h : At w D S vw d) (hk : k < d.sure.length) :
    Calls Tryd.prog 16 #[.pointer (some ⟨D, 0, none⟩), .int .i64 k] w fun e w' => e = .returned (.tuple #[.string (tx (d.read k)), .nilIface]) ∧ Below w.heap.size w w' := by
  have HH := hid (fun (W : World) (h : At W D S vw d) => has_any D S vw d k W h)
  rw [show (decide (0 ≤ (k : Int)) && decide ((k : Int) < d.sure.length)) = true by simp; omega] at HH
  obtain ⟨w0, hw0⟩ : ∃ w0, ((w.alloc (.cells #[.int .i64 k] 3)).alloc (.cells #[.string ⟨#[]⟩] 9)).alloc (.cells #[.nilIface] 30) = w0 := ⟨_, rfl⟩
  have R0 : Rd w w0 D S vw d k ⟨#[]⟩ := by
    rw [← hw0]
    refine ⟨((h.alloc _).alloc _).alloc _, ((Blk.new w [.int .i64 k] 3 _ rfl).alloc _).alloc _, (Blk.new (w.alloc (.cells #[.int .i64 k] 3)) [.string ⟨#[]⟩] 9 _ (by simp)).alloc _, Blk.new ((w.alloc (.cells #[.int .i64 k] 3)).alloc (.cells #[.string ⟨#[]⟩] 9)) [.nilIface] 30 _ (by simp), (((Below.refl _ w).alloc (Nat.le_refl _) _).alloc (by simp) _).alloc (by simp; omega) _, h.head.lt, h.body.lt, fun g hg => own_lt h.own hg⟩
  have hs0 : w0.heap.size = w.heap.size + 3 := by rw [← hw0]; simp
  have HS0 := hid hs0
  clear hs0
  have cA := R0.at_.cell 0 rfl
  have HR0 := hid R0
  have hmf : ∀ (fn : Fn) (first cap : Array Value) (w : World), (Instr.makeFunc fn first cap).run Tryd.prog w = .ok (.func fn first cap) w := fun _ _ _ _ => rfl
  refine (callsIn_wide (n := 3)).1 ?_
  refine callsIn_of_wp_marks Tryd.func16 rfl trivial ?_ rfl
  simp only [Tryd.ntmps16, List.size_toArray, List.length_cons, List.length_nil, Nat.reduceAdd, Nat.reduceSub, Array.replicate_succ, Array.replicate_zero, List.push_toArray, List.append_toArray, List.nil_append, List.cons_append]
  gi_wp2_with (first | (refine ⟨trivial, ?_⟩; gi_at_call 40; refine (callsIn_wide.2 (HH.out w0 HR0.out.disk)).mono ?_; rintro e w1 ⟨rfl, rfl⟩))
  refine range_bound (gf := 44) (rcv := .pointer (some ⟨D, 0, none⟩)) rfl (enters_of Tryd.func44 (by kernel_rfl) rfl) d.ws.length (fun j => .agg (wcell (d.ws[j]?.getD (0, []))).toArray)
    (fun j W => Rd w W D S vw d k ⟨#[]⟩ ∧ ∀ i, j ≤ i → (h : i < d.ws.length) → d.ws[i].1 ≠ k) (fun j W => ∃ x, d.ws[j]? = some x ∧ x.1 = k ∧ (∀ i, j < i → (h : i < d.ws.length) → d.ws[i].1 ≠ k) ∧ Rd w W D S vw d k (tx x.2)) ?it ?ia ?ip ?xp ?h0 ?round ?done ?stop
  case it =>
    intro l J Jx W hJI hY hJN
    refine back_in 2 l D S vw d J Jx (fun j W h => (hJI j W h).1.disk) (fun j W hj h => ?_) W hJN
    have := hY j W hj h
    rw [List.getElem?_eq_getElem hj] at this
    exact this
  case ia => exact fun j W o h => ⟨h.1.mv ((Keep.refl _ _).alloc o), h.2⟩
  case ip => exact fun j W l o hl h => ⟨h.1.put l o (by have := HS0.out; omega), h.2⟩
  case xp =>
    rintro j W l o hl ⟨x, h1, h2, h3, h4⟩
    exact ⟨x, h1, h2, h3, h4.put l o (by have := HS0.out; omega)⟩
  case h0 => exact ⟨HR0.out, fun i h1 h2 => by omega⟩
  case round =>
    rintro l j W hl hlW hj ⟨hr, hno⟩
    refine ⟨?_, fun W1 hk1 => ⟨hr.mv hk1, hno⟩⟩
    obtain ⟨x, hx⟩ : ∃ x, d.ws[j] = x := ⟨_, rfl⟩
    have hxo := hr.disk.ok.wok x (by rw [← hx]; exact List.getElem_mem hj)
    have hxj : d.ws[j]? = some x := by rw [List.getElem?_eq_getElem hj, hx]
    have HX := hid hxj
    have HXE := hid hx
    have HNO := hid hno
    rw [hxj, Option.getD_some]
    clear hxj hx hno
    simp only [List.setIfInBounds_toArray, List.set_cons_zero, List.set_cons_succ]
    obtain ⟨Wa, hWa⟩ : ∃ Wa, World.setCells (W.alloc (.cells Tryd.zeroCells77 77)) W.heap.size 0 (wcell x) = Wa := ⟨_, rfl⟩
    have KA : Keep [] W Wa := by rw [← hWa]; exact Keep.sets _ _ ((Keep.refl [] W).alloc _) (Or.inr (Nat.le_refl _))
    have XA : Blk Wa W.heap.size (wcell x) := by
      have := (blk_zero W).sets (wcell x) 0
      rw [over_all _ _ (by rw [zero_len, wcell_len hxo.2]), hWa] at this
      exact this
    have HT1 : Hid ((W.alloc (.cells Tryd.zeroCells77 77)).there W.heap.size 0 (wcell x).toArray.size) := hid ((blk_zero W).there (by rw [List.size_toArray, wcell_len hxo.2, zero_len]; omega))
    have HT2 : Hid ((Tryd.prog.info? 77).map (·.size) = some (wcell x).toArray.size) := hid (by rw [List.size_toArray, wcell_len hxo.2]; exact info_w)
    gi_wp2_with (first | (refine storeIn rfl 77 (.tmp 6) (.tmp 14) rfl W.heap.size 0 (wcell x).toArray rfl rfl HT1.out HT2.out (all_oneCell_toArray (wcell_one x)) ?_; rw [show (wcell x).toArray.toList = wcell x from rfl, hWa]))
    refine ⟨KA, ?_⟩
    rintro W2 ⟨hr2, -⟩ hk2
    have X2 := XA.keep hk2 (by simp; omega)
    have x0 := X2.cell 0 (v := .int .i64 x.1) rfl
    have a0 := hr2.at_.cell 0 rfl
    have s0 := hr2.str.cell 0 rfl
    have s1 := hr2.str.fz 0
    have e0 := hr2.err.cell 0 rfl
    have e1 := hr2.err.fz 0
    have hcv := to_text W2 W.heap.size 1 64 x.2 64 hxo.2.symm (X2.range (fun j v hv => by rw [Nat.add_comm]; exact hv))
    have HR2 := hid hr2
    have hls : w.heap.size + 3 < l := by have := HS0.out; omega
    have HLS := hid hls
    by_cases hq : x.1 = k
    · have HQ := hid hq
      have hq' : ((x.1 : Int) == (k : Int)) = true := by simp [hq]
      clear hq hls
      gi_wp2
      have hz := HS0.out
      have hz2 := HLS.out
      refine ⟨⟨(Below.heap_setCell _ _ _ _ (by dsimp only; omega)).trans (Below.heap_setCell _ _ _ _ (by dsimp only; omega)), (Below.heap_setCell _ _ _ _ (by dsimp only; omega)).trans (Below.heap_setCell _ _ _ _ (by dsimp only; omega))⟩, HQ.out, fun i hi hil => HNO.out i hi hil, HR2.out.told⟩
    · have HQ := hid hq
      have hq' : ((x.1 : Int) == (k : Int)) = false := by simp; omega
      clear hq hls
      gi_wp2
      intro i hi hil
      rcases Nat.lt_or_ge j i with q | q
      · exact HNO.out i q hil
      · obtain rfl : i = j := by omega
        rw [HXE.out]
        exact HQ.out
  case done =>
    rintro W ⟨hr, hno⟩ hK
    have HRW := hid hr
    have HNO := hid hno
    have d0 := hr.disk.c0
    have a0 := hr.at_.cell 0 rfl
    have s0 := hr.str.cell 0 rfl
    have s1 := hr.str.fz 0
    have e0 := hr.err.cell 0 rfl
    have e1 := hr.err.fz 0
    have hdl := hr.dl
    clear hno hr R0
    gi_wp2
    refine wpIn_wide.2 ?_
    have hkI : (k : Int) < (d.sure.length : Int) := by omega
    obtain ⟨z, hz⟩ : ∃ z, d.sure[k]?.getD [] = z := ⟨_, rfl⟩
    have HZL : Hid (64 = z.length) := hid (by
      rw [← hz, List.getElem?_eq_getElem hk, Option.getD_some]
      exact (HRW.out.disk.ok.s64 _ (List.getElem_mem hk)).symm)
    have hcv : ∀ w' : World, w'.rangeAt S (k * 64) (bc z) → (convert 66 9 (.slice (some ⟨S, k * 64, none⟩) 64 64)).run Tryd.prog w' = .ok (.string (tx z)) w' := fun w' h' => to_text w' S (k * 64) 64 z 64 HZL.out h'
    have HB : Hid (∀ W' : World, Blk W' S (flat d.sure) → W'.rangeAt S (k * 64) (bc z)) := hid (fun W' hb => hb.range (fun j v hv => flat_at _ k j v HRW.out.disk.ok.s64 hk (by rw [hz]; exact hv)))
    have r0 := HB.out W HRW.out.disk.body
    have HZ := hid hz
    clear hz
    have HSL := hid HRW.out.sl
    have HZ1 : Hid ((W.setCell ⟨w.heap.size + 1, 0, none⟩ (.string (tx z))).cell? ⟨D, 0, none⟩ = some (.slice (some ⟨S, 0, none⟩) d.sure.length d.sure.length) ∧ (W.setCell ⟨w.heap.size + 1, 0, none⟩ (.string (tx z))).cell? ⟨w.heap.size, 0, none⟩ = some (.int .i64 k) ∧ (W.setCell ⟨w.heap.size + 1, 0, none⟩ (.string (tx z))).rangeAt S (k * 64) (bc z)) := by
      have hdl' := HRW.out.dl
      have hsl' := HSL.out
      exact hid ⟨(HRW.out.disk.head.other _ _ (by omega)).cell 0 rfl, (HRW.out.at_.other _ _ (by omega)).cell 0 rfl, HB.out _ (HRW.out.disk.body.other _ _ (by omega))⟩
    have HZ2 : Hid (((W.setCell ⟨w.heap.size + 1, 0, none⟩ (.string (tx z))).setCell ⟨w.heap.size + 1 + 1, 0, none⟩ .nilIface).cell? ⟨D, 0, none⟩ = some (.slice (some ⟨S, 0, none⟩) d.sure.length d.sure.length) ∧ ((W.setCell ⟨w.heap.size + 1, 0, none⟩ (.string (tx z))).setCell ⟨w.heap.size + 1 + 1, 0, none⟩ .nilIface).cell? ⟨w.heap.size, 0, none⟩ = some (.int .i64 k) ∧ ((W.setCell ⟨w.heap.size + 1, 0, none⟩ (.string (tx z))).setCell ⟨w.heap.size + 1 + 1, 0, none⟩ .nilIface).rangeAt S (k * 64) (bc z)) :=
      hid ⟨(HRW.out.told (t := tx z)).disk.head.cell 0 rfl, (HRW.out.told (t := tx z)).at_.cell 0 rfl, HB.out _ (HRW.out.told (t := tx z)).disk.body⟩
    go_region_held3 (fun w' => w'.cell? ⟨D, 0, none⟩ = some (.slice (some ⟨S, 0, none⟩) d.sure.length d.sure.length) ∧ w'.cell? ⟨w.heap.size, 0, none⟩ = some (.int .i64 k) ∧ w'.rangeAt S (k * 64) (bc z)) (first | exact ⟨d0, a0, r0⟩ | exact HZ1.out | exact HZ2.out) (fail)
    gi_wp2
    have hz := HS0.out
    have hp0 := (HRW.out.told (t := tx z)).mv (Keep.refl [] _).drew
    have hp := hp0.put w1.heap.size (.deferred none) (by omega)
    have c0 := hp.str.cell 0 rfl
    have c1 := hp.err.cell 0 rfl
    have hK2 : ((W.setCell ⟨w.heap.size + 1, 0, none⟩ (.string (tx z))).setCell ⟨w.heap.size + 1 + 1, 0, none⟩ .nilIface).drew.heap[w1.heap.size]? = some (.deferred (some [])) :=
      ((Below.heap_setCell _ _ _ _ (by dsimp only; omega)).trans (Below.heap_setCell _ _ _ _ (by dsimp only; omega))).trans hK
    refine ⟨by simp, .inl ⟨_, _, rfl, run_takeDeferred hK2, ?_⟩⟩
    refine ⟨.tuple #[.string (tx z), .nilIface], by simp [results, Tryd.results16, go_sem, c0, c1], ?_, hp.bel⟩
    rw [St.read, last_none k d.ws (fun i hi => HNO.out i (Nat.zero_le _) hi), Option.getD_none, HZ.out]
  case stop =>
    rintro j W hj ⟨x, h1, h2, h3, h4⟩ hK
    gi_wp2
    have hz := HS0.out
    have hp := h4.put w1.heap.size (.deferred none) (by omega)
    have c0 := hp.str.cell 0 rfl
    have c1 := hp.err.cell 0 rfl
    refine ⟨by simp, .inl ⟨_, _, rfl, run_takeDeferred hK, ?_⟩⟩
    refine ⟨.tuple #[.string (tx x.2), .nilIface], by simp [results, Tryd.results16, go_sem, c0, c1], ?_, hp.bel⟩
    rw [St.read, last_some _ _ _ _ h1 h2 h3]
    rfl
end Go.Proofs.YtemcpjflpggaeaaDoor.Dk
