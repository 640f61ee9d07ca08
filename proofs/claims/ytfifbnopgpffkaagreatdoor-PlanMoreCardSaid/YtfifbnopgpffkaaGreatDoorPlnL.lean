import Derived.Test.YtfifbnopgpffkaaGreatDoorPlnK
set_option linter.unusedSimpArgs false
set_option linter.unusedVariables false
namespace Go.Proofs.YtfifbnopgpffkaaGreatDoor.Pl
open Go.RowKit
open Fw (By FJob Flw ba strV encL zeroJ)

set_option maxHeartbeats 400000 in
theorem wreads1_any (at_ at2 : Int) (x y fr fr2 : ByteArray) (C : Nat) (r : Bool) (w : World) (hC : w.cell? ⟨C, 1, none⟩ = some (.string y)) (hr : (x.toList == y.toList) = r) : Calls Tryz.prog 69 #[.agg #[.int .i64 at_, .string x, .string fr], .pointer (some ⟨C, 0, none⟩)] w fun e w' => e = .returned (.bool r) ∧ Below w.heap.size w w' := by
  have hl := World.block_lt_of_cell? w _ hC
  have hC2 : (w.alloc (.cells #[.int .i64 at_, .string x, .string fr] 115)).cell? ⟨C, 1, none⟩ = some (.string y) := by rw [World.cell?_alloc_lt _ _ ⟨C, 1, none⟩ hl]; exact hC
  clear hC
  go_enter Tryz.func69, Tryz.ntmps69
  go_wp2
  go_ret
  exact ⟨rfl, below_box _ _⟩
set_option maxRecDepth 100000 in
set_option maxHeartbeats 800000 in
theorem idx_outs (b c n : Nat) (l : List Fw.FOut) (nm : By) (C : Nat) (w : World) (hb : b < w.heap.size) (h : ∀ j, j < l.length → Fw.OutAt l j w b (j * 3)) (hn : n ≤ l.length) (h16 : n ≤ 100) (hC : w.cell? ⟨C, 1, none⟩ = some (.string (ba nm))) :
    Calls Tryz.prog 89 #[.slice (some ⟨b, 0, none⟩) n c, .func (.func 69) #[] #[.pointer (some ⟨C, 0, none⟩)]] w fun e w' => ∃ r : Int, e = .returned (.int .i64 r) ∧ foundI r ((l.take n).any fun i => i.name == nm) ∧ Below w.heap.size w w' := by
  have HR := Hid.mk h
  have HC := Hid.mk hC
  have HN := Hid.mk hn
  clear h hC hn
  go_enter Tryz.func89, Tryz.ntmps89
  go_wp2
  go_loopw [8] (fun i wr => ∃ k : Nat, k ≤ n ∧ i = .int .i64 k ∧ ((l.take n).take k).any (fun i => i.name == nm) = false ∧ Below w.heap.size w wr) (fun i _ => n - (intOf i).toNat)
  case atStart => exact ⟨0, Nat.zero_le _, rfl, rfl, Below.refl _ _⟩
  case round =>
    obtain ⟨k, hk, rfl, hal, hnx⟩ := hrel
    have HA := Hid.mk hal
    clear hal
    by_cases hlt : k < n
    · have hk2 : k < l.length := by have := HN.out; omega
      have hk3 : k < (l.take n).length := by rw [List.length_take]; omega
      obtain ⟨a, ha, d0, d1, d2⟩ := HR.out k hk2
      have e0 := (hnx.cell (p := ⟨b, k * 3, none⟩) hb).trans d0
      have e1 := (hnx.cell (p := ⟨b, k * 3 + 1, none⟩) hb).trans d1
      have e2 := (hnx.cell (p := ⟨b, k * 3 + 2, none⟩) hb).trans d2
      obtain ⟨_, ha2⟩ := List.getElem?_eq_some_iff.1 ha
      have hl := World.block_lt_of_cell? w _ HC.out
      have HQ := Hid.mk (wreads1_any (a.at_ : Nat) 0 (ba a.name) (ba nm) (ba a.from_) (ba a.from_) C (a.name == nm) wr ((hnx.cell (p := ⟨C, 1, none⟩) hl).trans HC.out) (ba_eq _ _))
      have HX : Hid (∀ p, (a.name == nm) = p → (fun i : Fw.FOut => i.name == nm) (l.take n)[k] = p) := Hid.mk (fun p hp => by rw [List.getElem_take, ha2]; exact hp)
      generalize ba a.name = x at *
      generalize ba a.from_ = y at *
      have HNX := Hid.mk hnx
      clear hnx d0 d1 d2 ha ha2
      cases hp : (a.name == nm)
      all_goals have HP := Hid.mk (HX.out _ hp)
      all_goals rw [hp] at HQ
      all_goals clear hp HX
      · go_wp2_with (go_at_call 69; refine HQ.out.mono ?_; rintro e w2 ⟨rfl, hb2⟩; have HB2 := Hid.mk (HNX.out.trans (hb2.mono HNX.out.size)); clear hb2)
        go_roundw
        case rel => exact ⟨k + 1, by omega, by go_num, any_step hk3 HA.out HP.out, HB2.out⟩
        case measure => simp [intOf]; omega
      · go_wp2_with (go_at_call 69; refine HQ.out.mono ?_; rintro e w2 ⟨rfl, hb2⟩; have HB2 := Hid.mk (HNX.out.trans (hb2.mono HNX.out.size)); clear hb2)
        go_ret
        exact ⟨k, rfl, ⟨by omega, by omega, by rw [any_hit hk3 HP.out]; simp⟩, HB2.out⟩
    · go_wp2
      go_ret
      exact ⟨-1, rfl, ⟨by omega, by omega, by have := HA.out; rw [List.take_of_length_le (l := l.take n) (by rw [List.length_take]; omega)] at this; rw [this]; rfl⟩, hnx⟩
set_option maxHeartbeats 800000 in
theorem has_outs (b c n : Nat) (l : List Fw.FOut) (nm : By) (C : Nat) (w : World) (hb : b < w.heap.size) (h : ∀ j, j < l.length → Fw.OutAt l j w b (j * 3)) (hn : n ≤ l.length) (h16 : n ≤ 100) (hC : w.cell? ⟨C, 1, none⟩ = some (.string (ba nm))) :
    Calls Tryz.prog 68 #[.slice (some ⟨b, 0, none⟩) n c, .func (.func 69) #[] #[.pointer (some ⟨C, 0, none⟩)]] w fun e w' => e = .returned (.bool ((l.take n).any fun i => i.name == nm)) ∧ Below w.heap.size w w' := by
  have HQ := Hid.mk (idx_outs b c n l nm C w hb h hn h16 hC)
  clear h hC
  go_enter Tryz.func68, Tryz.ntmps68
  go_wp2_with (go_at_call 89; refine HQ.out.mono ?_; rintro e w2 ⟨r, rfl, hf, hb2⟩)
  go_ret
  exact ⟨ret_bool hf.2.2, hb2⟩
/-- All that is read, or told, is there. -/
def Reads (f : Flw) : Prop := (∀ j ∈ f.jobs, ∀ n ∈ j.ins, n ∈ madeL f) ∧ (∀ o ∈ f.outs, o.from_ ∈ madeL f) ∧ (f.outs.map (·.name)).Nodup
def ErrR (ok : Prop) (w : World) (e : Ending) (w' : World) : Prop := Below w.heap.size w w' ∧ ((ok ∧ e = .returned .nilIface) ∨ (¬ ok ∧ ∃ ev n, e = .returned ev ∧ n ≠ 0 ∧ AtV w' ev n ∧ ev ≠ .nilIface))
theorem all_jobs {f : Flw} {q : Nat} (h : q < f.jobs.length) {P : FJob → Prop} (ha : ∀ j ∈ f.jobs.take q, P j) (hp : P f.jobs[q]) : ∀ j ∈ f.jobs.take (q + 1), P j := by
  rw [List.take_succ_eq_append_getElem h]
  intro j hj
  rcases List.mem_append.1 hj with hj | hj
  · exact ha j hj
  · rw [List.mem_singleton.1 hj]; exact hp
theorem all_snoc {α : Type} {l : List α} {q : Nat} (h : q < l.length) {P : α → Prop} (ha : ∀ j ∈ l.take q, P j) (hp : P l[q]) : ∀ j ∈ l.take (q + 1), P j := by
  rw [List.take_succ_eq_append_getElem h]
  intro j hj
  rcases List.mem_append.1 hj with hj | hj
  · exact ha j hj
  · rw [List.mem_singleton.1 hj]; exact hp
set_option maxRecDepth 100000 in
set_option maxHeartbeats 3200000 in
theorem wreads_any (f : Flw) (vi vj vo mv : Value) (w : World) (h : Fw.FlowRd w f vi vj vo) (hf : Fw.FlwOK f) (hm : Fw.StrsR w mv (madeL f)) :
    Calls Tryz.prog 43 #[.agg #[vi, vj, vo], mv] w fun e w' => ErrR (Reads f) w e w' := by
  obtain ⟨ja, jc, rfl⟩ := row_slice h.jobs
  obtain ⟨oa, oc, rfl⟩ := row_slice h.outs
  obtain ⟨J, hJ⟩ : ∃ J, f.jobs.length = J := ⟨_, rfl⟩
  obtain ⟨O, hO⟩ : ∃ O, f.outs.length = O := ⟨_, rfl⟩
  have hJ16 : J ≤ 16 := by rw [← hJ]; exact hf.jl
  have hO16 : O ≤ 16 := by rw [← hO]; exact hf.ol
  rw [hJ, hO] at h ⊢
  obtain ⟨w1, hw1⟩ : ∃ x, w.alloc (.cells #[vi, .slice ja J jc, .slice oa O oc] 27) = x := ⟨_, rfl⟩
  have hB1 : Below w.heap.size w w1 := by rw [← hw1]; exact below_box _ _
  have hF1 : FBox w1 w.heap.size vi (.slice ja J jc) (.slice oa O oc) := by rw [← hw1]; exact FBox.new _ _ _ _ _
  have HB1 := Hid.mk hB1
  have HF1 := Hid.mk hF1
  have HH := Hid.mk (And.intro (h.below hB1) hf)
  have HJ := Hid.mk hJ
  have HO := Hid.mk hO
  have g1 := hF1.2.1
  have HC : Hid (∀ V, Below w1.heap.size w1 V → ∀ x, Calls Tryz.prog 29 #[mv, .string (ba x)] V fun e w' => e = .returned (.bool ((madeL f).contains x)) ∧ w' = V) := Hid.mk fun V hV x => has_strs ((hm.below hB1).below hV) (by have := made_len hf; omega) x
  obtain ⟨ma, mc, rfl⟩ := strs_slice hm
  have HAT : Hid (∀ (n : Int) (pl : Int) V, Calls Tryz.prog 24 #[.int .i64 n, .int .i64 pl] V fun e w' => ∃ p, e = .returned (.iface 82 (.pointer (some ⟨p, 0, none⟩))) ∧ AtV w' (.iface 82 (.pointer (some ⟨p, 0, none⟩))) n ∧ Below V.heap.size V w') := Hid.mk fun n pl V => at_any n pl V
  have hmf : ∀ (fn : Fn) (first cap : Array Value) (w : World), (Instr.makeFunc fn first cap).run Tryz.prog w = .ok (.func fn first cap) w := fun _ _ _ _ => rfl
  clear h hf hJ hO hB1 hF1 hm
  go_enter Tryz.func43, Tryz.ntmps43
  go_wp2
  go_loopw [14] (fun i wr => ∃ q : Nat, q ≤ J ∧ i = .int .i64 q ∧ (∀ j ∈ f.jobs.take q, ∀ n ∈ j.ins, n ∈ madeL f) ∧ Below w1.heap.size w1 wr) (fun i _ => J - (intOf i).toNat)
  case atStart => exact ⟨0, Nat.zero_le _, rfl, by simp, Below.refl _ _⟩
  case round =>
    obtain ⟨q, hq, rfl, hal, hnx⟩ := hrel
    obtain ⟨wb, hwb⟩ : ∃ x, x = wr := ⟨_, rfl⟩
    rw [← hwb] at hnx ⊢
    clear hwb
    have HA := Hid.mk hal
    have HNX := Hid.mk hnx
    clear hal
    by_cases hlt : q < J
    · have hq2 : q < f.jobs.length := by rw [HJ.out]; exact hlt
      obtain ⟨b, c, e0, hcap, hb, ao, ai, ac, hra0, ho, hi3, hc3⟩ := job_at HH.out.1 hq2
      have hra : wb.rangeAt b (q * 15) (Fw.jobV f.jobs[q] ao ai ac) := fun j u hj => (hnx.cell (p := ⟨b, q * 15 + j, none⟩) hb).trans (hra0 j u hj)
      clear hra0
      simp only [Value.slice.injEq] at e0
      obtain ⟨rfl, -, rfl⟩ := e0
      have hone := jobV_one ho hi3 hc3
      have hil := (HH.out.2.jobs _ (List.getElem_mem hq2)).il
      have HI := Hid.mk hi3
      obtain ⟨na, nc, rfl⟩ := strs_slice hi3
      obtain ⟨JL, hJL⟩ : ∃ JL, Fw.jobV f.jobs[q] ao (.slice na f.jobs[q].ins.length nc) ac = JL := ⟨_, rfl⟩
      have hJ3 : JL[3]? = some (.slice na f.jobs[q].ins.length nc) := by rw [← hJL]; rfl
      have hJ0 : JL[0]? = some (.int .i64 (f.jobs[q].at_ : Nat)) := by rw [← hJL]; rfl
      have hJl : JL.length = 15 := by rw [← hJL]; rfl
      rw [hJL] at hra hone
      have HMJ : Hid (∀ ins, f.jobs[q].ins = ins → (∀ n ∈ ins, n ∈ madeL f) → ∀ j ∈ f.jobs.take (q + 1), ∀ n ∈ j.ins, n ∈ madeL f) := Hid.mk (fun ins hins hall => all_jobs hq2 HA.out (by rw [hins]; exact hall))
      have HMN : Hid (∀ ins x, f.jobs[q].ins = ins → x ∈ ins → x ∉ madeL f → ¬ Reads f) := Hid.mk (fun ins x hins hx hno hR => hno (hR.1 _ (List.getElem_mem hq2) x (by rw [hins]; exact hx)))
      obtain ⟨ins, hins⟩ : ∃ ins, f.jobs[q].ins = ins := ⟨_, rfl⟩
      generalize f.jobs[q].at_ = pl at *
      obtain ⟨w3, hw3, hb3, hx3, hs3, hinf, hth⟩ := job_copy wb JL hJl hone
      have HRA := Hid.mk hra
      have HON := Hid.mk hone
      have HIN := Hid.mk hinf
      have HTH := Hid.mk hth
      have HW3 := Hid.mk hw3
      have HX3 := Hid.mk hx3
      have HB3 := Hid.mk hb3
      have hc2 := hx3.cell 3 hJ3
      simp only [hins] at hc2 hil HI hJ3
      have HJ0 := Hid.mk hJ0
      have HMJ2 := Hid.mk (HMJ.out ins hins)
      have HMN2 := Hid.mk (fun x => HMN.out ins x hins)
      clear hra hone hinf hth hw3 hx3 hb3 ho hi3 hc3 hJL hJ3 hJ0 hins HMJ HMN hnx
      go_wp2_with (first | (refine wpList_load_mid rfl 43 (.tmp 16) rfl b (q * 15) rfl JL _ HRA.out Tryz.underlying43 rfl HIN.out ?_) | (refine wpList_store_mid rfl 43 (.tmp 6) (.tmp 17) rfl wb.heap.size 0 JL.toArray rfl rfl HTH.out HIN.out HON.out ?_; rw [show JL.toArray.toList = JL from rfl, ← HW3.out]))
      obtain ⟨n, hn⟩ : ∃ n, ins.length = n := ⟨_, rfl⟩
      have HN := Hid.mk hn
      rw [hn] at hil HI hc2 ⊢
      clear hn
      go_loopw [21] (fun i wr => ∃ r : Nat, r ≤ n ∧ i = .int .i64 r ∧ (∀ x ∈ ins.take r, x ∈ madeL f) ∧ Below w3.heap.size w3 wr) (fun i _ => n - (intOf i).toNat)
      case atStart => exact ⟨0, Nat.zero_le _, rfl, by simp, Below.refl _ _⟩
      case round =>
        obtain ⟨r, hr, rfl, hal2, hnx2⟩ := hrel
        have HA2 := Hid.mk hal2
        have HN2 := Hid.mk (bel_then (bel_then HNX.out HB3.out) hnx2)
        have HX4 := Hid.mk (HX3.out.below hnx2)
        clear hal2
        by_cases hlt3 : r < n
        · have hr2 : r < ins.length := by have := HN.out; omega
          rcases HI.out with ⟨-, e0⟩ | ⟨nb, no, nc', e0, hcap2, hnb, hcell⟩
          · rw [e0] at hr2; exact absurd hr2 (by simp)
          simp only [Value.slice.injEq] at e0
          obtain ⟨rfl, -, rfl⟩ := e0
          have d1 := (HN2.out.cell (p := ⟨nb, no + r, none⟩) hnb).trans (hcell r hr2)
          obtain ⟨x, hx⟩ : ∃ x, ins[r] = x := ⟨_, rfl⟩
          have HXI : Hid (x ∈ ins) := Hid.mk (by rw [← hx]; exact List.getElem_mem hr2)
          have HTK : Hid (x ∈ madeL f → ∀ y ∈ ins.take (r + 1), y ∈ madeL f) := Hid.mk (fun hxm => all_snoc hr2 HA2.out (by rw [hx]; exact hxm))
          rw [hx] at d1
          have HCx := Hid.mk (HC.out wr HN2.out x)
          obtain ⟨bx, hbx⟩ : ∃ bx, ba x = bx := ⟨_, rfl⟩
          rw [hbx] at HCx d1
          have dA := HX4.out.cell 0 HJ0.out
          clear hx hbx hcell
          cases hcx : (madeL f).contains x with
          | true =>
            rw [hcx] at HCx
            have HNI : Hid (∀ y ∈ ins.take (r + 1), y ∈ madeL f) := Hid.mk (HTK.out (by simpa using hcx))
            have HNX2 := Hid.mk hnx2
            clear hcx hnx2
            go_wp2_with (first | (go_at_call 29; refine HCx.out.mono ?_; rintro e2 w2 ⟨rfl, h2⟩; obtain rfl : wr = w2 := h2.symm; clear h2))
            go_roundw
            case rel => exact ⟨r + 1, by omega, by go_num, HNI.out, HNX2.out⟩
            case measure => simp [intOf]; omega
          | false =>
            rw [hcx] at HCx
            have HNO : Hid (¬ Reads f) := Hid.mk (HMN2.out x HXI.out (by simpa using hcx))
            clear hcx hnx2
            go_wp2_with (first | (go_at_call 29; refine HCx.out.mono ?_; rintro e2 w2 ⟨rfl, h2⟩; obtain rfl : wr = w2 := h2.symm; clear h2) | (go_at_call 24; refine (HAT.out _ _ _).mono ?_; rintro e3 w3 ⟨p, rfl, ha3, hb3⟩; have HA3 := Hid.mk ha3; have HB3 := Hid.mk hb3; clear ha3 hb3))
            go_ret
            exact ⟨HB1.out.trans ((bel_then HN2.out HB3.out).mono HB1.out.size), Or.inr ⟨HNO.out, _, 7, rfl, by decide, HA3.out, by simp⟩⟩
        · obtain rfl : r = n := by omega
          have HF := Hid.mk (HMJ2.out (by have := HA2.out; rwa [List.take_of_length_le (by have := HN.out; omega)] at this))
          clear hnx2
          go_wp2
          go_roundw
          case rel => exact ⟨q + 1, by omega, by go_num, HF.out, HN2.out⟩
          case measure => simp [intOf]; omega
    · obtain rfl : q = J := by omega
      have HAJ : Hid (∀ j ∈ f.jobs, ∀ n ∈ j.ins, n ∈ madeL f) := Hid.mk (by have := HA.out; rwa [List.take_of_length_le (by have := HJ.out; omega)] at this)
      have g2 := (HF1.out.below hnx).2.2
      clear hnx HA
      go_wp2
      go_loopw [37] (fun i wr => ∃ q : Nat, q ≤ O ∧ i = .int .i64 q ∧ (∀ o ∈ f.outs.take q, o.from_ ∈ madeL f) ∧ ((f.outs.take q).map (·.name)).Nodup ∧ Below w1.heap.size w1 wr) (fun i _ => O - (intOf i).toNat)
      case atStart => exact ⟨0, Nat.zero_le _, rfl, by simp, by simp, HNX.out⟩
      case round =>
        obtain ⟨r, hr, rfl, hal, hnd, hnx⟩ := hrel
        have HA := Hid.mk (And.intro hal hnd)
        have HN2 := Hid.mk hnx
        clear hal hnd
        by_cases hlt3 : r < O
        · have hr2 : r < f.outs.length := by rw [HO.out]; exact hlt3
          rcases HH.out.1.outs with ⟨-, e0⟩ | ⟨b, c, e0, hcap, hb, hx⟩
          · rw [e0] at hr2; exact absurd hr2 (by simp)
          simp only [Value.slice.injEq] at e0
          obtain ⟨rfl, -, rfl⟩ := e0
          obtain ⟨a, ha, d0', d1', d2'⟩ := hx r hr2
          obtain ⟨_, ha2⟩ := List.getElem?_eq_some_iff.1 ha
          have d0 := (hnx.cell (p := ⟨b, r * 3, none⟩) hb).trans d0'
          have d1 := (hnx.cell (p := ⟨b, r * 3 + 1, none⟩) hb).trans d1'
          have d2 := (hnx.cell (p := ⟨b, r * 3 + 2, none⟩) hb).trans d2'
          obtain ⟨w4, hw4⟩ : ∃ x, wr.alloc (.cells #[.int .i64 (a.at_ : Nat), .string (ba a.name), .string (ba a.from_)] 115) = x := ⟨_, rfl⟩
          have hb4 : Below w1.heap.size w1 w4 := by rw [← hw4]; exact bel_then hnx (below_box _ _)
          have HB4 := Hid.mk hb4
          have HCx := Hid.mk (HC.out w4 hb4 a.from_)
          have hn4 : w4.cell? ⟨wr.heap.size, 1, none⟩ = some (.string (ba a.name)) := by rw [← hw4]; exact World.cell?_alloc_at _ _ _ _ rfl
          have hn40 : w4.cell? ⟨wr.heap.size, 0, none⟩ = some (.int .i64 (a.at_ : Nat)) := by rw [← hw4]; exact World.cell?_alloc_at _ _ _ _ rfl
          have hn42 : w4.cell? ⟨wr.heap.size, 2, none⟩ = some (.string (ba a.from_)) := by rw [← hw4]; exact World.cell?_alloc_at _ _ _ _ rfl
          have hl4 := hb4.size
          have HCF := Hid.mk (has_outs b oc r f.outs a.name wr.heap.size w4 (by omega) (fun j hj => (hx j hj).below hb4 hb) (by omega) (by omega) hn4)
          have g3 := (HF1.out.below hb4).2.2
          have HSN : Hid (a.from_ ∈ madeL f → ((f.outs.take r).any fun i => i.name == a.name) = false → (∀ o ∈ f.outs.take (r + 1), o.from_ ∈ madeL f) ∧ ((f.outs.take (r + 1)).map (·.name)).Nodup) := Hid.mk (fun h1 h2 => by
            refine ⟨all_snoc hr2 HA.out.1 (by rw [ha2]; exact h1), ?_⟩
            rw [List.take_succ_eq_append_getElem hr2, List.map_append, ha2]
            refine nodup_snoc HA.out.2 (fun hm => ?_)
            obtain ⟨o, ho, e⟩ := List.mem_map.1 hm
            have := List.any_eq_false.1 h2 o ho
            rw [e] at this
            simp at this)
          have HN1 : Hid (a.from_ ∉ madeL f → ¬ Reads f) := Hid.mk (fun h1 hR => h1 (by rw [← ha2]; exact hR.2.1 _ (List.getElem_mem hr2)))
          have HN3 : Hid (((f.outs.take r).any fun i => i.name == a.name) = true → ¬ Reads f) := Hid.mk (fun h1 hR => by
            obtain ⟨o, ho, e⟩ := List.any_eq_true.1 h1
            have e2 : f.outs.map (·.name) = (f.outs.take r).map (·.name) ++ a.name :: (f.outs.drop (r + 1)).map (·.name) := by
              conv => lhs; rw [show f.outs = f.outs.take r ++ f.outs[r] :: f.outs.drop (r + 1) by rw [← List.drop_eq_getElem_cons hr2, List.take_append_drop]]
              rw [List.map_append, List.map_cons, ha2]
            exact dup_pre e2 (List.mem_map.2 ⟨o, ho, by simpa using e⟩) hR.2.2)
          have hri : (r : Int) ≤ (oc : Int) := by have := HO.out; omega
          have hri0 : (0 : Int) ≤ (r : Int) := by omega
          generalize ba a.name = nm at *
          generalize ba a.from_ = fr at *
          clear hnx hx d0' d1' d2' ha ha2 hb4
          cases hcx : (madeL f).contains a.from_ with
          | false =>
            rw [hcx] at HCx
            have HNO : Hid (¬ Reads f) := Hid.mk (HN1.out (by simpa using hcx))
            clear hcx
            go_wp2_with (first | (go_at_call 29; refine HCx.out.mono ?_; rintro e2 w2 ⟨rfl, h2⟩; obtain rfl : w4 = w2 := h2.symm; clear h2) | (go_at_call 24; refine (HAT.out _ _ _).mono ?_; rintro e3 w3 ⟨p, rfl, ha3, hb3⟩; have HA3 := Hid.mk ha3; have HB3 := Hid.mk hb3; clear ha3 hb3))
            go_ret
            exact ⟨HB1.out.trans ((bel_then HB4.out HB3.out).mono HB1.out.size), Or.inr ⟨HNO.out, _, 7, rfl, by decide, HA3.out, by simp⟩⟩
          | true =>
            rw [hcx] at HCx
            have HFM : Hid (a.from_ ∈ madeL f) := Hid.mk (by simpa using hcx)
            clear hcx
            cases hny : (f.outs.take r).any fun i => i.name == a.name with
            | true =>
              rw [hny] at HCF
              have HNO : Hid (¬ Reads f) := Hid.mk (HN3.out hny)
              clear hny
              go_wp2_with (first | (go_at_call 29; refine HCx.out.mono ?_; rintro e2 w2 ⟨rfl, h2⟩; obtain rfl : w4 = w2 := h2.symm; clear h2) | (go_at_call 68; refine HCF.out.mono ?_; rintro e5 w5 ⟨rfl, hb5⟩; have HB5 := Hid.mk (bel_then HB4.out hb5); have q0 : w5.cell? ⟨wr.heap.size, 0, none⟩ = some (.int .i64 (a.at_ : Nat)) := cell_below (by rw [← hw4]; exact World.cell?_alloc_at _ _ _ _ rfl) hb5; clear hb5) | (go_at_call 24; refine (HAT.out _ _ _).mono ?_; rintro e3 w3 ⟨p, rfl, ha3, hb3⟩; have HA3 := Hid.mk ha3; have HB3 := Hid.mk hb3; clear ha3 hb3))
              go_ret
              exact ⟨HB1.out.trans ((bel_then HB5.out HB3.out).mono HB1.out.size), Or.inr ⟨HNO.out, _, 9, rfl, by decide, HA3.out, by simp⟩⟩
            | false =>
              rw [hny] at HCF
              have HFF := Hid.mk (HSN.out HFM.out hny)
              clear hny
              go_wp2_with (first | (go_at_call 29; refine HCx.out.mono ?_; rintro e2 w2 ⟨rfl, h2⟩; obtain rfl : w4 = w2 := h2.symm; clear h2) | (go_at_call 68; refine HCF.out.mono ?_; rintro e5 w5 ⟨rfl, hb5⟩; have HB5 := Hid.mk (bel_then HB4.out hb5); clear hb5))
              go_roundw
              case rel => exact ⟨r + 1, by omega, by go_num, HFF.out.1, HFF.out.2, HB5.out⟩
              case measure => simp [intOf]; omega
        · obtain rfl : r = O := by omega
          have HOK : Hid (Reads f) := Hid.mk (by
            have := HA.out
            rw [List.take_of_length_le (by have := HO.out; omega)] at this
            exact ⟨HAJ.out, this.1, this.2⟩)
          go_wp2
          go_ret
          exact ⟨HB1.out.trans (HN2.out.mono HB1.out.size), Or.inl ⟨HOK.out, rfl⟩⟩
end Go.Proofs.YtfifbnopgpffkaaGreatDoor.Pl
