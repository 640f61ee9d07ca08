import Derived.Test.YtemcpjflpggaeaaDoorSumE
set_option linter.unusedSimpArgs false
set_option linter.unusedVariables false
namespace Go.Proofs.YtemcpjflpggaeaaDoor
open Go.RowKit

/-- What the rounds' numbers read as. -/
def EnvK (w : World) : Prop := ∀ j, j < 64 → w.cell? ⟨1, j, none⟩ = some (.int .u32 (U (kList[j]?.getD 0)))
theorem EnvK.lt {w : World} (h : EnvK w) : 1 < w.heap.size := World.block_lt_of_cell? w _ (h 0 (by omega))
theorem EnvK.below {w w' : World} (h : EnvK w) (hb : Below w.heap.size w w') : EnvK w' := fun j hj =>
  (hb.cell (p := ⟨1, j, none⟩) h.lt).trans (h j hj)
def stA (s : St) : Array Value := #[.int .u32 (U s.a), .int .u32 (U s.b), .int .u32 (U s.c), .int .u32 (U s.d), .int .u32 (U s.e), .int .u32 (U s.f), .int .u32 (U s.g), .int .u32 (U s.h)]
theorem stA_list (s : St) : (stA s).toList = cellsU s.list := rfl
def zero8 : St := ⟨0, 0, 0, 0, 0, 0, 0, 0⟩
def mixAt (s t : St) (k : Nat) : List (BitVec 32) := (plus s t).list.take k ++ s.list.drop k
theorem index_row (t e : TypeId) (n : Nat) (cs : Array Value) (j : Nat) (v : Value) (w : World) {P : Program} (h : P.underlying t = some (.array n e)) (hz : ∀ w, (Go.sizeOf e).run P w = .ok 1 w) (ha : ∀ w, (isAgg e).run P w = .ok false w) (hj : j < n) (hv : cs[j]? = some v) :
    (Instr.index t (.agg cs) (.int .i64 j)).run P w = .ok v w := by
  have hh : (0 : Int) ≤ (j : Int) ∧ (j : Int) < (n : Int) := by omega
  simp [Instr.index, asIntOf, Sem.run_bind, run_underlying h, hh, hz, part, ha, hv, hj, Result.andThen]
theorem stA_get (r : St) (j : Nat) (hj : j < 8) : (stA r)[j]? = some (.int .u32 (U (r.list[j]?.getD 0))) := by
  have : (stA r)[j]? = (cellsU r.list)[j]? := by rw [← stA_list]; simp
  rw [this, cellsU_get, List.getElem?_eq_getElem (show j < r.list.length from hj)]; rfl
theorem mixAt_all (s r : St) : mixAt s r 8 = (plus s r).list := rfl
theorem stA_one (s : St) : (stA s).all (·.oneCell') = true := cellsU_one s.list
theorem mixAt_set (s r : St) : ∀ j, j < 8 → (mixAt s r j).set j ((mixAt s r j)[j]?.getD 0 + r.list[j]?.getD 0) = mixAt s r (j + 1)
  | 0, _ => rfl
  | 1, _ => rfl
  | 2, _ => rfl
  | 3, _ => rfl
  | 4, _ => rfl
  | 5, _ => rfl
  | 6, _ => rfl
  | 7, _ => rfl
  | j + 8, h => absurd h (by omega)
theorem v32 {a b : Int} (h : a = b) : Value.int .u32 a = .int .u32 b := by rw [h]
theorem info8 : (Tryd.prog.info? 97).map (·.size) = some 8 := by kernel_rfl
theorem info64 : (Tryd.prog.info? 135).map (·.size) = some 64 := by kernel_rfl

set_option maxRecDepth 100000 in
set_option maxHeartbeats 3200000 in
theorem mix_any (st : St) (s : ByteArray) (w : World) (hs : s.size = 64) (hE : EnvK w) :
    Calls Tryd.prog 75 #[.agg (stA st), .string s] w fun e w' => e = .returned (.agg (stA (mixB st s.data.toList))) ∧ Below w.heap.size w w' := by
  have HE := Hid.mk hE
  have HS := Hid.mk hs
  have hS : ∀ w, Calls Tryd.prog 87 #[.string s] w fun e w' => e = .returned (.agg (cellsU (sched s.data.toList 64)).toArray) ∧ Below w.heap.size w w' := fun w => schedule_any s w hs
  have HSC := Hid.mk hS
  clear hE hs hS
  obtain ⟨res, hres⟩ : ∃ x, stA (mixB st s.data.toList) = x := ⟨_, rfl⟩
  rw [hres]
  have HRES := Hid.mk hres
  clear hres
  rw [stA]
  go_enter Tryd.func75, Tryd.ntmps75
  go_wp2_with (first
    | (go_at_call 87; refine (HSC.out _).mono ?_; rintro e w3 ⟨rfl, hb3⟩)
    | (refine wpList_store_mid rfl 135 (.tmp 5) (.tmp 22) rfl w3.heap.size 0 (cellsU (sched s.data.toList 64)).toArray rfl rfl ?c1 ?c2 (cellsU_one _) ?_))
  case c1 =>
    have := (Row.new' w3 (cellsU (full [])).toArray 135 _ (cellsU (full [])) rfl rfl).there
    rw [show (cellsU (full [])).length = (cellsU (sched s.data.toList 64)).toArray.size by simp [cellsU, full, sched_length]] at this
    exact this
  case c2 => rw [show (cellsU (sched s.data.toList 64)).toArray.size = 64 by simp [cellsU, sched_length]]; exact info64
  have hb2 : Below w.heap.size w ((w.alloc (.cells (stA st) 97)).alloc (.cells (stA zero8) 97)) := ((Below.refl _ _).alloc (Nat.le_refl _) _).alloc (by simp) _
  have hb23 : Below w.heap.size w w3 := bel_then hb2 hb3
  have hz3 : w.heap.size + 1 < w3.heap.size := by have := hb3.size; simp at this; omega
  have R0 : Row w3 w.heap.size (cellsU st.list) := Row.below ((Row.new' w (stA st) 97 _ _ rfl rfl).alloc (.cells (stA zero8) 97)) hb3 (by simp; omega)
  have R1 : Row w3 (w.heap.size + 1) (cellsU zero8.list) := Row.below (Row.new' (w.alloc (.cells (stA st) 97)) (stA zero8) 97 _ _ (by simp) rfl) hb3 (by simp)
  have HF : Hid (Row w3 w.heap.size (cellsU st.list) ∧ Row w3 (w.heap.size + 1) (cellsU zero8.list) ∧ Below w.heap.size w w3) := ⟨R0, R1, hb23⟩
  clear hb2 hb3 hb23 R0 R1
  refine any_world (G := fun w => Code.wp _ _ _ _ w) (fun w4 => Row w4 w.heap.size (cellsU st.list) ∧ Row w4 (w.heap.size + 1) (cellsU zero8.list) ∧ Row w4 w3.heap.size (cellsU (sched s.data.toList 64)) ∧ Below w.heap.size w w4) _ ⟨(HF.out.1.alloc _).apart _ _ _ (by omega), (HF.out.2.1.alloc _).apart _ _ _ (by omega), (Row.new' w3 (cellsU (full [])).toArray 135 _ (cellsU (full [])) rfl rfl).put (by simp [cellsU, full, sched_length]), Below.setCells (by omega) _ _ (HF.out.2.2.alloc (by omega) _)⟩ ?_
  clear HF
  intro w4 ⟨R0, R1, R4, hb4⟩
  have HE4 := Hid.mk (HE.out.below hb4)
  have c0 := R0.word 0 (show 0 < 8 by decide)
  have c1 := R0.word 1 (show 1 < 8 by decide)
  have c2 := R0.word 2 (show 2 < 8 by decide)
  have c3 := R0.word 3 (show 3 < 8 by decide)
  have c4 := R0.word 4 (show 4 < 8 by decide)
  have c5 := R0.word 5 (show 5 < 8 by decide)
  have c6 := R0.word 6 (show 6 < 8 by decide)
  have c7 := R0.word 7 (show 7 < 8 by decide)
  simp only [St.list, List.getElem?_cons_zero, List.getElem?_cons_succ, Option.getD_some] at c0 c1 c2 c3 c4 c5 c6 c7
  have HR0 := Hid.mk R0
  have HR1 := Hid.mk R1
  have HR4 := Hid.mk R4
  have HB4 := Hid.mk hb4
  clear R0 R1 R4 hb4
  go_wp2
  go_quiet (fail)
  go_wp2
  clear c0 c1 c2 c3 c4 c5 c6 c7
  go_loopw [6, 7, 8, 9, 10, 11, 12, 13, 39] (fun va vb vc vd ve vf vg vh i wr => ∃ k : Nat, ∃ n : Nat, ∃ r : St, k ≤ 64 ∧ i = .int .i64 k ∧ r = rounds (sched s.data.toList 64) st k ∧ va = .int .u32 (U r.a) ∧ vb = .int .u32 (U r.b) ∧ vc = .int .u32 (U r.c) ∧ vd = .int .u32 (U r.d) ∧ ve = .int .u32 (U r.e) ∧ vf = .int .u32 (U r.f) ∧ vg = .int .u32 (U r.g) ∧ vh = .int .u32 (U r.h) ∧ wr = w4.drewN n) (fun _ _ _ _ _ _ _ _ i _ => 64 - (intOf i).toNat)
  case atStart => exact ⟨0, _, st, by omega, rfl, rfl, rfl, rfl, rfl, rfl, rfl, rfl, rfl, rfl, rfl⟩
  case round =>
    obtain ⟨k, n, r, hk, rfl, hr, rfl, rfl, rfl, rfl, rfl, rfl, rfl, rfl, rfl⟩ := hrel
    by_cases hlt : k < 64
    · have ck := HE4.out k hlt
      obtain ⟨kk, hkk⟩ : ∃ x, kList[k]?.getD 0 = x := ⟨_, rfl⟩
      rw [hkk] at ck
      have cw := HR4.out.word k (by rw [sched_length]; exact hlt)
      obtain ⟨ww, hww⟩ : ∃ x, (sched s.data.toList 64)[k]?.getD 0 = x := ⟨_, rfl⟩
      rw [hww] at cw
      have HX := Hid.mk (And.intro hr (And.intro hkk hww))
      clear hr hkk hww
      have hsg : IntKind.u32.signed = false := rfl
      have hmx : IntKind.u32.max = 4294967295 := rfl
      go_wp2_with (go_at_call 88; refine (rotl_any _ _ _ rfl).mono ?_; rintro e w' ⟨rfl, rfl⟩)
      go_quiet (fail)
      go_wp2_with (go_at_call 88; refine (rotl_any _ _ _ rfl).mono ?_; rintro e w' ⟨rfl, rfl⟩)
      go_roundw
      case rel =>
        refine ⟨k + 1, _, step kk ww r, by omega, by go_num, ?_, v32 ?_, rfl, rfl, rfl, v32 ?_, rfl, rfl, rfl, rfl⟩
        · obtain ⟨h1, h2, h3⟩ := HX.out
          rw [rounds, h2, h3, ← h1]
        · simp only [U_xor, U_and, U_not]
          simp only [step, one, two, S1, S0, ch, maj, ← U_add]
          omega
        · simp only [U_xor, U_and, U_not]
          simp only [step, one, two, S1, S0, ch, maj, ← U_add]
          omega
      case measure => simp [intOf]; omega
    · have hke : k = 64 := by omega
      rw [hke] at hr
      clear hke
      have HX := Hid.mk hr
      clear hr
      go_wp2
      go_loopw [114] (fun i wr => ∃ j : Nat, j ≤ 8 ∧ i = .int .i64 j ∧ Row wr w.heap.size (cellsU (mixAt st r j)) ∧ Row wr (w.heap.size + 1) (cellsU zero8.list) ∧ Below w.heap.size w wr) (fun i _ => 8 - (intOf i).toNat)
      case atStart => exact ⟨0, by omega, rfl, HR0.out.drewN _, HR1.out.drewN _, below_drewN HB4.out _⟩
      case round =>
        obtain ⟨j, hj, rfl, R0, R1, hb⟩ := hrel
        obtain ⟨wx, rfl⟩ : ∃ x, x = wr := ⟨_, rfl⟩
        have HQ := Hid.mk R0
        have HQ1 := Hid.mk R1
        by_cases hjt : j < 8
        · have cj := R0.word j (by simp [mixAt, St.list]; omega)
          have fj := R0.free j (by simp [mixAt, St.list]; omega)
          clear R0 R1
          have hix : ∀ w, (Instr.index 97 (.agg #[.int .u32 (U r.a), .int .u32 (U r.b), .int .u32 (U r.c), .int .u32 (U r.d), .int .u32 (U r.e), .int .u32 (U r.f), .int .u32 (U r.g), .int .u32 (U r.h)]) (.int .i64 j)).run Tryd.prog w = .ok (.int .u32 (U (r.list[j]?.getD 0))) w := fun w => index_row 97 96 8 (stA r) j _ w Tryd.underlying97 Tryd.sizeOf96 Tryd.isAgg96 hjt (stA_get r j hjt)
          obtain ⟨y, hy⟩ : ∃ x, (mixAt st r j)[j]?.getD 0 = x := ⟨_, rfl⟩
          obtain ⟨z, hz⟩ : ∃ x, r.list[j]?.getD 0 = x := ⟨_, rfl⟩
          rw [hy] at cj
          rw [hz] at hix
          have HYZ := Hid.mk (And.intro hy hz)
          clear hy hz
          go_wp2
          go_roundw
          case rel =>
            refine ⟨j + 1, by omega, by go_num, (HQ.out.set j _).to ?_, HQ1.out.other _ _ _ (by omega), hb.setCell (Nat.le_refl _) _⟩
            rw [U_add, cellsU_set, ← HYZ.out.1, ← HYZ.out.2, mixAt_set st r j hjt]
          case measure => simp [intOf]; omega
        · have hje : j = 8 := by omega
          rw [hje] at R0
          clear hje
          rw [mixAt_all, show plus st r = mixB st s.data.toList by rw [HX.out, mixB], ← stA_list, HRES.out] at R0
          have hlen : res.toList.length = 8 := by rw [← HRES.out]; rfl
          have hone : res.all (·.oneCell') = true := by rw [← HRES.out]; exact stA_one _
          have hi : (Tryd.prog.info? 97).map (·.size) = some res.toList.length := by rw [hlen]; exact info8
          have hth : wx.there (w.heap.size + 1) 0 res.toList.length := by rw [hlen]; exact R1.there
          have hld := run_loadVar_mid (P := Tryd.prog) (wx.setCells (w.heap.size + 1) 0 res.toList) (w.heap.size + 1) 0 97 res.toList _ (World.rangeAt_setCells_same _ _ _ _ hth) Tryd.underlying97 rfl hi
          have HLD := Hid.mk hld
          have HI := Hid.mk hi
          have HT := Hid.mk hth
          have HR2 := Hid.mk R0
          have HO := Hid.mk hone
          clear hld hi hth R0 R1 hlen hone HQ HQ1
          go_wp2_with (first
            | (refine wpList_load_mid rfl 97 (.tmp 2) rfl w.heap.size 0 rfl res.toList _ HR2.out.range Tryd.underlying97 rfl HI.out ?_)
            | (refine wpList_store_mid rfl 97 (.tmp 4) (.tmp 125) rfl (w.heap.size + 1) 0 res rfl rfl (by simpa using HT.out) (by simpa using HI.out) HO.out ?_))
          (try simp only [Exit.inBlock, Exit.then])
          refine bodyPost_ret (v := .agg res) ?_ rfl ⟨rfl, Below.setCells (Nat.le_succ _) _ _ hb⟩
          exact results_cell1 rfl _ _ _ rfl HLD.out
end Go.Proofs.YtemcpjflpggaeaaDoor
