import Derived.Test.YtedflhiflomoeaaGreatDoorFlwO
import Derived.Test.YtedflhiflomoeaaGreatDoorFlwM
import Derived.Defers
import Derived.Recover
set_option linter.unusedSimpArgs false
set_option linter.unusedVariables false
namespace Go.Proofs.YtedflhiflomoeaaGreatDoor
open Go.RowKit

theorem first_quo {r : By} {k n : Nat} (h : firstL r = some (k, n)) (hk : k = 2) : 2 ≤ n := by
  subst hk
  cases r with
  | nil => simp [firstL] at h
  | cons c r =>
    simp only [firstL] at h
    split at h
    · simp at h
    · split at h
      · simp at h
      · split at h
        · cases hf : r.findIdx? (· == 39) with
          | none => rw [hf] at h; simp at h
          | some m => rw [hf] at h; simp at h; omega
        · cases hf : marksL.find? fun m => m.isPrefixOf (c :: r) with
          | none => rw [hf] at h; simp at h
          | some m => rw [hf] at h; simp at h
theorem first_num {r : By} {k n : Nat} (h : firstL r = some (k, n)) (hk : k = 1) : ∃ c r', r = c :: r' ∧ digB c = true := by
  subst hk
  cases r with
  | nil => simp [firstL] at h
  | cons c r =>
    simp only [firstL] at h
    split at h
    · simp at h
    · split at h
      · rename_i hd
        exact ⟨c, r, rfl, hd⟩
      · split at h
        · cases hf : r.findIdx? (· == 39) with
          | none => rw [hf] at h; simp at h
          | some m => rw [hf] at h; simp at h
        · cases hf : marksL.find? fun m => m.isPrefixOf (c :: r) with
          | none => rw [hf] at h; simp at h
          | some m => rw [hf] at h; simp at h
theorem toks_good : ∀ (f : Nat) (l : By) (p n : Nat) (ts : List Tk) (L : Nat), toksL f l p n = .ok ts → p + l.length ≤ L → n ≤ 400 → ts.length + n ≤ 400 ∧ ∀ t ∈ ts, t.1 ≤ 3 ∧ t.2.1.length ≤ l.length ∧ t.2.2 ≤ L ∧ (t.1 = 2 → 2 ≤ t.2.1.length) ∧ (t.1 = 1 → (t.2.1.head?.map (·.toNat)) ≠ some 45)
  | 0, l, p, n, ts, L, h, hL, hn => by
    simp only [toksL, Except.ok.injEq] at h
    subst h
    simpa using hn
  | f + 1, l, p, n, ts, L, h, hL, hn => by
    rw [tok_step] at h
    have hr := runL_le blankB l
    split at h
    · simp only [Except.ok.injEq] at h
      subst h
      simpa using hn
    · split at h
      · cases h
      · rename_i k len hf
        split at h
        · cases h
        · rename_i hn4
          split at h
          · cases h
          · rename_i us hu
            simp only [Except.ok.injEq] at h
            subst h
            obtain ⟨f1, f2, f3⟩ := first_len hf
            rw [List.length_drop] at f2
            obtain ⟨i1, i2⟩ := toks_good f _ _ _ us L hu (by simp only [List.length_drop]; omega) (by omega)
            refine ⟨by simp only [List.length_cons]; omega, fun t ht => ?_⟩
            rw [List.mem_cons] at ht
            rcases ht with rfl | ht
            · refine ⟨f3, ?_, (show p + runL blankB l ≤ L from by omega), fun h2 => ?_, fun h1 => ?_⟩
              · simp only [List.length_take, List.length_drop]; omega
              · have := first_quo (k := k) hf h2
                simp only [List.length_take, List.length_drop]; omega
              · obtain ⟨c, r, hr', hd⟩ := first_num (k := k) hf h1
                simp only [hr']
                obtain ⟨m, rfl⟩ : ∃ m, len = m + 1 := ⟨len - 1, by omega⟩
                simp only [List.take_succ_cons, List.head?_cons, Option.map_some, ne_eq, Option.some.injEq]
                unfold digB at hd
                simp at hd
                omega
            · obtain ⟨a, b, c, d, e⟩ := i2 t ht
              simp only [List.length_drop] at b
              exact ⟨a, by omega, c, d, e⟩
theorem assert_nil (w : World) : (Instr.typeAssert .nilIface 20 70 true).run Tryz.prog w = .ok (.tuple #[.pointer none, .bool false]) w := by kernel_rfl
theorem assert_at (a : Option Addr) (w : World) : (Instr.typeAssert (.iface 70 (.pointer a)) 20 70 true).run Tryz.prog w = .ok (.tuple #[.pointer a, .bool true]) w := by kernel_rfl
theorem neq_nil (w : World) : (binOp BinOp.neq 20 .nilIface .nilIface).run Tryz.prog w = .ok (.bool false) w := by kernel_rfl
set_option maxRecDepth 100000 in
set_option maxHeartbeats 800000 in
theorem catch_idle (p : Addr) (w : World) :
    CallsD Tryz.prog 17 #[.pointer (some p)] .returning w fun e u' w' => e = .returned (.tuple #[]) ∧ u' = .returning ∧ w' = w := by
  have h1 := assert_nil
  have h2 := neq_nil
  refine callsD_of_wpS Tryz.func17 rfl fun c₀ cs hu => ?_
  apply wpS_seq
  apply wpS_region
  simp [wpOpsS, go_sem, recoverD, hu, Tryz.ntmps17, Exit.thenS]
  simp only [Array.replicate_succ, Array.replicate_zero, List.push_toArray, List.append_toArray, List.nil_append, List.cons_append, List.setIfInBounds_toArray, List.set_cons_zero, List.set_cons_succ]
  refine wpS_of_wp ?_
  go_wp2
  cases c₀
  simp_all [bodyPostS, results, Tryz.results17, Exit.thenS]
set_option maxRecDepth 100000 in
set_option maxHeartbeats 800000 in
theorem catch_at (p b : Addr) (v0 : Value) (w : World) (hc : w.cell? p = some v0) (hf : w.frozen? p = false) :
    CallsD Tryz.prog 17 #[.pointer (some p)] (.panicking ({ v := .iface 70 (.pointer (some b)), recovered := false } :: [])) w fun e u' w' => e = .returned (.tuple #[]) ∧ u' = .panicking ({ v := .iface 70 (.pointer (some b)), recovered := true } :: []) ∧ w' = w.setCell p (.iface 70 (.pointer (some b))) := by
  have h1 := assert_at
  refine callsD_of_wpS Tryz.func17 rfl fun c₀ cs hu => ?_
  apply wpS_seq
  apply wpS_region
  simp [wpOpsS, go_sem, recoverD, hu, Tryz.ntmps17, Exit.thenS]
  simp only [Array.replicate_succ, Array.replicate_zero, List.push_toArray, List.append_toArray, List.nil_append, List.cons_append, List.setIfInBounds_toArray, List.set_cons_zero, List.set_cons_succ]
  refine wpS_of_wp ?_
  go_wp2
  cases c₀
  simp_all [bodyPostS, results, Tryz.results17, Exit.thenS]
theorem HI.mono {w : World} {B B' : Nat} (hB : B' ≤ B) : ∀ {l : List FIn} {vs : List Value}, HI w B l vs → HI w B' l vs
  | [], [], _ => trivial
  | a :: l, v :: vs, hh => ⟨own_mono hB hh.1, HI.mono hB hh.2⟩
  | [], _ :: _, hh => hh.elim
  | _ :: _, [], hh => hh.elim
theorem HJ.mono {w : World} {B B' : Nat} (hB : B' ≤ B) : ∀ {l : List FJob} {vs : List (Value × Value × Value)}, HJ w B l vs → HJ w B' l vs
  | [], [], _ => trivial
  | a :: l, v :: vs, hh => ⟨⟨own_mono hB hh.1.1, own_mono hB hh.1.2.1, own_mono hB hh.1.2.2⟩, HJ.mono hB hh.2⟩
  | [], _ :: _, hh => hh.elim
  | _ :: _, [], hh => hh.elim
theorem FlowO.mono {w : World} {B B' : Nat} {I : List FIn} {vi : Value} {J : List FJob} {vj : Value} {O : List FOut} {vo : Value} (h : FlowO w B I vi J vj O vo) (hB : B' ≤ B) : FlowO w B' I vi J vj O vo := by
  obtain ⟨⟨vs, h1, h2⟩, ⟨us, h3, h4⟩, h5⟩ := h
  exact ⟨⟨vs, own_mono hB h1, h2.mono hB⟩, ⟨us, own_mono hB h3, h4.mono hB⟩, own_mono hB h5⟩
/-- What Parse comes to. -/
def ParseR (r : Except (Int × Nat) Flw) (e : Ending) (B : Nat) (w' : World) : Prop :=
  (∃ f vi vj vo, r = .ok f ∧ e = .returned (.tuple #[.agg #[vi, vj, vo], .nilIface]) ∧ FlowO w' B f.ins vi f.jobs vj f.outs vo) ∨
  (∃ er b, r = .error er ∧ e = .returned (.tuple #[.agg #[.slice none 0 0, .slice none 0 0, .slice none 0 0], .iface 70 (.pointer (some ⟨b, 0, none⟩))]) ∧ w'.cell? ⟨b, 0, none⟩ = some (.int .i64 er.1) ∧ w'.cell? ⟨b, 1, none⟩ = some (.int .i64 er.2) ∧ B ≤ b ∧ b < w'.heap.size)
theorem tkV_get : ∀ (ts : List Tk) (j : Nat) (h : j < ts.length), (tkV ts)[j * 3]? = some (.int .i64 (ts[j].1 : Nat)) ∧ (tkV ts)[j * 3 + 1]? = some (.string (ba ts[j].2.1)) ∧ (tkV ts)[j * 3 + 2]? = some (.int .i64 (ts[j].2.2 : Nat))
  | [], j, h => by simp at h
  | t :: r, 0, h => by simp [tkV]
  | t :: r, j + 1, h => by
    have ih := tkV_get r j (by simpa using h)
    have e : tkV (t :: r) = [.int .i64 (t.1 : Nat), .string (ba t.2.1), .int .i64 (t.2.2 : Nat)] ++ tkV r := rfl
    rw [e, show (j + 1) * 3 = 3 + j * 3 by omega]
    refine ⟨?_, ?_, ?_⟩
    · rw [List.getElem?_append_right (by simp)]; simpa using ih.1
    · rw [List.getElem?_append_right (by simp; omega)]; simpa [Nat.add_assoc] using ih.2.1
    · rw [List.getElem?_append_right (by simp; omega)]; simpa [Nat.add_assoc] using ih.2.2
theorem rd_new {w : World} {v : Value} {ts : List Tk} {B : Nat} (ho : w.ownsRow B 95 3 v ts.length (tkV ts)) (hg : GoodT ts) (hE : FEnv w) : RD (w.alloc (.cells #[v] 75)) w.heap.size ts := by
  obtain ⟨t0, r0, hne⟩ := hg.ne
  obtain ⟨-, ⟨-, h0⟩ | ⟨g, cap, cur, rfl, hB, hh, hn, hm, hs, ht⟩⟩ := ho
  · rw [hne] at h0; simp at h0
  have hgl : g < w.heap.size := by
    rcases Nat.lt_or_ge g w.heap.size with q | q
    · exact q
    · rw [Array.getElem?_eq_none q] at hh; simp at hh
  have hb := below_box w (.cells #[.slice (some ⟨g, 0, none⟩) ts.length cap] 75)
  have hc : ∀ i x, (tkV ts)[i]? = some x → (w.alloc (.cells #[.slice (some ⟨g, 0, none⟩) ts.length cap] 75)).cell? ⟨g, 0 + i, none⟩ = some x := by
    intro i x hx
    rw [hb.cell (p := ⟨g, 0 + i, none⟩) hgl]
    rw [← ht, List.getElem?_take] at hx
    split at hx
    · simp only [World.cell?, hh, Nat.zero_add]
      simpa using hx
    · cases hx
  refine ⟨⟨g, 0, cap, by simp, hn, hgl, fun j hj => ?_⟩, by simp, by simp, hg, hE.blocks (by simp) (fun q hq => hb.block q (hE.size q hq)), fun q hq => hE.size q hq⟩
  have h3 := tkV_get ts j hj
  exact ⟨hc _ _ h3.1, hc _ _ h3.2.1, hc _ _ h3.2.2⟩
theorem tokens_good {l : By} {ts : List Tk} (hl : l.length ≤ 1000000) (h : tokensL l = .ok ts) : GoodT ts := by
  unfold tokensL at h
  cases hk : toksL (l.length + 1) l 0 0 with
  | error e => rw [hk] at h; cases h
  | ok us =>
    rw [hk] at h
    simp only [Except.ok.injEq] at h
    subst h
    obtain ⟨h1, h2⟩ := toks_good _ l 0 0 us l.length hk (by omega) (by omega)
    refine ⟨⟨us, _, rfl, rfl, rfl⟩, fun t ht => ?_, by simp; omega⟩
    rw [List.mem_append] at ht
    rcases ht with ht | ht
    · obtain ⟨a, b, c, d, e⟩ := h2 t ht
      exact ⟨by omega, by omega, by omega, d, e⟩
    · simp at ht
      subst ht
      exact ⟨by simp, by simp, by simpa using hl, by simp, by simp⟩
set_option maxRecDepth 100000 in
set_option maxHeartbeats 1600000 in
theorem parse_any (l : By) (w : World) (hl : l.length ≤ 1000000) (hE : FEnv w) :
    Calls Tryz.prog 6 #[.string (ba l)] w fun e w' => ParseR (parseF l) e w.heap.size w' ∧ Below w.heap.size w w' := by
  have hmf : ∀ (fn : Fn) (first cap : Array Value) (w : World), (Instr.makeFunc fn first cap).run Tryz.prog w = .ok (.func fn first cap) w := fun _ _ _ _ => rfl
  have HE := Hid.mk hE
  clear hE
  go_enter_defers Tryz.func6, Tryz.ntmps6
  go_wp2_with (go_at_call 18; fail)
  have HB1 := Hid.mk (bel_box (below_box w (.cells #[.slice none 0 0, .slice none 0 0, .slice none 0 0] 31)) (.cells #[.nilIface] 38))
  have X1 := Hid.mk ((Box.new w [.slice none 0 0, .slice none 0 0, .slice none 0 0] 31 _ rfl).below (below_box _ (.cells #[.nilIface] 38)))
  have Y1 := Hid.mk (Box.new (w.alloc (.cells #[.slice none 0 0, .slice none 0 0, .slice none 0 0] 31)) [.nilIface] 38 (w.heap.size + 1) (by simp))
  refine (tokens_any l _ hl (HE.out.blocks HB1.out.size (fun g hg => HB1.out.block g (HE.out.size g hg)))).mono ?_
  rintro e w2 ⟨⟨ts, v, hts, rfl, hrow⟩ | ⟨er, hts, hthr⟩, hb2⟩
  · have hgood := tokens_good hl hts
    obtain ⟨va, vcp, rfl⟩ := own_slice hrow
    have X2 := Hid.mk (X1.out.below hb2)
    have Y2 := Hid.mk (Y1.out.below hb2)
    have B2 := Hid.mk (bel_then HB1.out hb2)
    have HRD := Hid.mk (rd_new hrow hgood (HE.out.blocks B2.out.size (fun g hg => B2.out.block g (HE.out.size g hg))))
    have HPF := Hid.mk (show parseF l = flowP ts by rw [parseF, hts]; rfl)
    have q1 := X2.out.lt
    have q2 := Y2.out.lt
    clear hts hrow hgood hb2 X1 Y1 HB1
    go_wp2_with (go_at_call 19; fail)
    refine (rflow_any w2.heap.size ts _ HRD.out).mono ?_
    rintro e w4 ⟨⟨f, vi, vj, vo, hf, rfl, hfl⟩ | ⟨er, hf, hthr⟩, hb4⟩
    · have HP := Hid.mk (show parseF l = .ok f by rw [HPF.out, hf])
      have X4 := Hid.mk ((X2.out.below (below_box _ (.cells #[.slice va ts.length vcp] 75))).but hb4 (by omega))
      have Y4 := Hid.mk ((Y2.out.below (below_box _ (.cells #[.slice va ts.length vcp] 75))).but hb4 (by omega))
      have B4 := Hid.mk ((bel_box B2.out (.cells #[.slice va ts.length vcp] 75)).trans (hb4.below (B := w.heap.size) (by omega) (by simp; omega)))
      have HFL := Hid.mk hfl
      obtain ⟨a1, c1, e1⟩ : ∃ a c, vi = .slice a f.ins.length c := by obtain ⟨vs, hr, -⟩ := hfl.ins; exact own_slice hr
      obtain ⟨a2, c2, e2⟩ : ∃ a c, vj = .slice a f.jobs.length c := by obtain ⟨vs, hr, -⟩ := hfl.jobs; exact own_slice hr
      obtain ⟨a3, c3, e3⟩ : ∃ a c, vo = .slice a f.outs.length c := own_slice hfl.row
      subst e1 e2 e3
      have x0 := X4.out.cell 0 rfl
      have x1 := X4.out.cell 1 rfl
      have x2 := X4.out.cell 2 rfl
      have x3 := X4.out.fz 0
      have x4 := X4.out.fz 1
      have x5 := X4.out.fz 2
      have y0 := Y4.out.cell 0 rfl
      have y1 := Y4.out.fz 0
      have X5 := Hid.mk (((X4.out.set 0 (.slice a1 f.ins.length c1)).set 1 (.slice a2 f.jobs.length c2)).set 2 (.slice a3 f.outs.length c3))
      have q3 := X4.out.lt
      have q4 := Y4.out.lt
      clear hf hfl hb4
      go_wp2
      refine leaves_cons (f := 17) (args := #[.pointer (some ⟨w.heap.size + 1, 0, none⟩)]) (by simp) (by simp [go_sem]) ?_
      refine (catch_idle ⟨w.heap.size + 1, 0, none⟩ _).mono ?_
      rintro e u' w5 ⟨rfl, rfl, rfl⟩
      have X6 := Hid.mk (X5.out.other (k' := w.heap.size + 1) 0 .nilIface (by omega))
      have Y6 := Hid.mk ((((Y4.out.other (k' := w.heap.size) 0 (.slice a1 f.ins.length c1) (by omega)).other (k' := w.heap.size) 1 (.slice a2 f.jobs.length c2) (by omega)).other (k' := w.heap.size) 2 (.slice a3 f.outs.length c3) (by omega)).set 0 .nilIface)
      have z0 := X6.out.cell 0 rfl
      have z1 := X6.out.cell 1 rfl
      have z2 := X6.out.cell 2 rfl
      have z3 := Y6.out.cell 0 rfl
      have hbig : w.heap.size + 1 < (w2.alloc (.cells #[.slice va ts.length vcp] 75)).heap.size + 2 := by simp; omega
      have FL := ((((HFL.out.imp (fun e z n v xs h => ownsRow_setCell_below h (a := ⟨w.heap.size, 0, none⟩) (by show w.heap.size < _; omega) (.slice a1 f.ins.length c1))).imp (fun e z n v xs h => ownsRow_setCell_below h (a := ⟨w.heap.size, 1, none⟩) (by show w.heap.size < _; omega) (.slice a2 f.jobs.length c2))).imp (fun e z n v xs h => ownsRow_setCell_below h (a := ⟨w.heap.size, 2, none⟩) (by show w.heap.size < _; omega) (.slice a3 f.outs.length c3))).imp (fun e z n v xs h => ownsRow_setCell_below h (a := ⟨w.heap.size + 1, 0, none⟩) hbig .nilIface)).mono (B' := w.heap.size) (by omega)
      refine ⟨.tuple #[.agg #[.slice a1 f.ins.length c1, .slice a2 f.jobs.length c2, .slice a3 f.outs.length c3], .nilIface], by simp [results, Tryz.results6, go_sem, z0, z1, z2, z3], Or.inl ⟨f, _, _, _, HP.out, rfl, FL⟩, (((B4.out.setCell (p := ⟨w.heap.size, 0, none⟩) (Nat.le_refl _) _).setCell (p := ⟨w.heap.size, 1, none⟩) (Nat.le_refl _) _).setCell (p := ⟨w.heap.size, 2, none⟩) (Nat.le_refl _) _).setCell (p := ⟨w.heap.size + 1, 0, none⟩) (by show w.heap.size ≤ w.heap.size + 1; omega) _⟩
    · obtain ⟨b', rfl, t0, t1, tB, tl⟩ := hthr
      have HP := Hid.mk (show parseF l = .error er by rw [HPF.out, hf])
      have X4 := Hid.mk ((X2.out.below (below_box _ (.cells #[.slice va ts.length vcp] 75))).but hb4 (by omega))
      have Y4 := Hid.mk ((Y2.out.below (below_box _ (.cells #[.slice va ts.length vcp] 75))).but hb4 (by omega))
      have B4 := Hid.mk ((bel_box B2.out (.cells #[.slice va ts.length vcp] 75)).trans (hb4.below (B := w.heap.size) (by omega) (by simp; omega)))
      have tB' : w.heap.size + 2 ≤ b' := by simp at tB; omega
      clear hf hb4
      go_wp2
      refine leaves_cons (f := 17) (args := #[.pointer (some ⟨w.heap.size + 1, 0, none⟩)]) (by simp) (by simp [go_sem]) ?_
      refine (catch_at ⟨w.heap.size + 1, 0, none⟩ ⟨b', 0, none⟩ .nilIface w4 (Y4.out.cell 0 rfl) (Y4.out.fz 0)).mono ?_
      rintro e u' w5 ⟨rfl, rfl, rfl⟩
      have X3 := Hid.mk (X4.out.other (k' := w.heap.size + 1) 0 (.iface 70 (.pointer (some ⟨b', 0, none⟩))) (by omega))
      have Y3 := Hid.mk (Y4.out.set 0 (.iface 70 (.pointer (some ⟨b', 0, none⟩))))
      have z0 := X3.out.cell 0 rfl
      have z1 := X3.out.cell 1 rfl
      have z2 := X3.out.cell 2 rfl
      have z3 := Y3.out.cell 0 rfl
      have hne : (⟨w.heap.size + 1, 0, none⟩ : Addr) ≠ ⟨b', 0, none⟩ := by intro e; injection e with e; omega
      have hne1 : (⟨w.heap.size + 1, 0, none⟩ : Addr) ≠ ⟨b', 1, none⟩ := by intro e; injection e with e; omega
      refine ⟨.tuple #[.agg #[.slice none 0 0, .slice none 0 0, .slice none 0 0], .iface 70 (.pointer (some ⟨b', 0, none⟩))], by simp [results, Tryz.results6, go_sem, z0, z1, z2, z3], Or.inr ⟨er, b', HP.out, rfl, (World.cell?_setCell_other _ _ _ _ hne).trans t0, (World.cell?_setCell_other _ _ _ _ hne1).trans t1, by omega, by rw [size_set]; exact tl⟩, B4.out.setCell (by show w.heap.size ≤ w.heap.size + 1; omega) _⟩
  · obtain ⟨b', rfl, t0, t1, tB, tl⟩ := hthr
    have HP := Hid.mk (show parseF l = .error er by rw [parseF, hts]; rfl)
    have X2 := Hid.mk (X1.out.below hb2)
    have Y2 := Hid.mk (Y1.out.below hb2)
    have B2 := Hid.mk (bel_then HB1.out hb2)
    have tB' : w.heap.size + 2 ≤ b' := by simpa using tB
    clear hts hb2 X1 Y1 HB1
    go_wp2
    refine leaves_cons (f := 17) (args := #[.pointer (some ⟨w.heap.size + 1, 0, none⟩)]) (by simp) (by simp [go_sem]) ?_
    refine (catch_at ⟨w.heap.size + 1, 0, none⟩ ⟨b', 0, none⟩ .nilIface w2 (Y2.out.cell 0 rfl) (Y2.out.fz 0)).mono ?_
    rintro e u' w3 ⟨rfl, rfl, rfl⟩
    have X3 := Hid.mk (X2.out.other (k' := w.heap.size + 1) 0 (.iface 70 (.pointer (some ⟨b', 0, none⟩))) (by omega))
    have Y3 := Hid.mk (Y2.out.set 0 (.iface 70 (.pointer (some ⟨b', 0, none⟩))))
    have z0 := X3.out.cell 0 rfl
    have z1 := X3.out.cell 1 rfl
    have z2 := X3.out.cell 2 rfl
    have z3 := Y3.out.cell 0 rfl
    have hne : (⟨w.heap.size + 1, 0, none⟩ : Addr) ≠ ⟨b', 0, none⟩ := by intro e; injection e with e; omega
    have hne1 : (⟨w.heap.size + 1, 0, none⟩ : Addr) ≠ ⟨b', 1, none⟩ := by intro e; injection e with e; omega
    refine ⟨.tuple #[.agg #[.slice none 0 0, .slice none 0 0, .slice none 0 0], .iface 70 (.pointer (some ⟨b', 0, none⟩))], by simp [results, Tryz.results6, go_sem, z0, z1, z2, z3], Or.inr ⟨er, b', HP.out, rfl, (World.cell?_setCell_other _ _ _ _ hne).trans t0, (World.cell?_setCell_other _ _ _ _ hne1).trans t1, by omega, by rw [size_set]; exact tl⟩, B2.out.setCell (by show w.heap.size ≤ w.heap.size + 1; omega) _⟩
end Go.Proofs.YtedflhiflomoeaaGreatDoor
