import Derived.Test.YtfifbnopgpffkaaGreatDoorPlnF
set_option linter.unusedSimpArgs false
set_option linter.unusedVariables false
namespace Go.Proofs.YtfifbnopgpffkaaGreatDoor.Pl
open Go.RowKit
open Fw (By FJob Flw ba)

theorem all_step {α : Type} {p : α → Bool} {l : List α} {k : Nat} (h : k < l.length) (ht : (l.take k).all p = true) (hp : p l[k] = true) : (l.take (k + 1)).all p = true := by
  rw [List.take_succ_eq_append_getElem h, List.all_append, ht]; simp [hp]
theorem all_miss {α : Type} {p : α → Bool} {l : List α} {k : Nat} (h : k < l.length) (hp : p l[k] = false) : l.all p = false := by
  rw [List.all_eq_false]; exact ⟨_, List.getElem_mem h, by rw [hp]; decide⟩
set_option maxRecDepth 100000 in
set_option maxHeartbeats 1600000 in
theorem ready_any (f : Flw) (vi vj vo v : Value) (l : List Nat) (k : Nat) (w : World) (h : Fw.FlowRd w f vi vj vo) (hf : Fw.FlwOK f) (hk : k < f.jobs.length) (hl : IntsV w v l) (hlt : ∀ k ∈ l, k < f.jobs.length) (h16 : l.length ≤ 100) :
    Calls Tryz.prog 15 #[.agg #[vi, vj, vo], .int .i64 (k : Nat), v] w fun e w' => e = .returned (.bool (rdyB f k l)) ∧ Below w.heap.size w w' := by
  obtain ⟨b, c, rfl, hcap, hb, ao, ai, ac, hra, ho, hi, hc⟩ := job_at h hk
  have hrd : rdyB f k l = f.jobs[k].ins.all fun n => givB f n || l.any (mkB f n) := by unfold rdyB; rw [List.getElem?_eq_getElem hk]
  have hil := (hf.jobs _ (List.getElem_mem hk)).il
  obtain ⟨w1, hw1⟩ : ∃ x, w.alloc (.cells #[vi, .slice (some ⟨b, 0, none⟩) f.jobs.length c, vo] 27) = x := ⟨_, rfl⟩
  have hB1 : Below w.heap.size w w1 := by rw [← hw1]; exact below_box _ _
  have hF1 : FBox w1 w.heap.size vi (.slice (some ⟨b, 0, none⟩) f.jobs.length c) vo := by rw [← hw1]; exact FBox.new _ _ _ _ _
  have HF := Hid.mk (And.intro hB1 (And.intro (h.below hB1) (And.intro hF1 (hl.below hB1))))
  have HS : Hid (∀ V, Below w1.heap.size w1 V → V.cell? ⟨w.heap.size, 0, none⟩ = some vi ∧ V.cell? ⟨w.heap.size, 1, none⟩ = some (.slice (some ⟨b, 0, none⟩) f.jobs.length c) ∧ V.cell? ⟨w.heap.size, 2, none⟩ = some vo) := Hid.mk fun V hV => hF1.below hV
  have HJ : Hid (∀ V, Calls Tryz.prog 27 #[.agg #[vi, .slice (some ⟨b, 0, none⟩) f.jobs.length c, vo], .int .i64 (k : Nat)] V fun e w' => e = .returned (.bool true) ∧ Below V.heap.size V w') := Hid.mk fun V => isJob_any vi vo _ _ c k V hk
  have HI := Hid.mk (hi.below hB1)
  have hd3 : w.cell? ⟨b, k * 15 + 3, none⟩ = some ai := hra 3 _ rfl
  have HD : Hid (∀ V, Below w1.heap.size w1 V → V.cell? ⟨b, k * 15 + 3, none⟩ = some ai) := Hid.mk fun V hV => cell_below (cell_below hd3 hB1) hV
  obtain ⟨na, nc, rfl⟩ := strs_slice hi
  have HG : Hid (∀ V, Below w1.heap.size w1 V → ∀ nm, Calls Tryz.prog 30 #[.agg #[vi, .slice (some ⟨b, 0, none⟩) f.jobs.length c, vo], .string (ba nm)] V fun e w' => e = .returned (.bool (givB f nm)) ∧ Below V.heap.size V w') := Hid.mk fun V hV nm => given_any f vi _ vo nm V (HF.out.2.1.below hV) hf.il
  have HM : Hid (∀ V, Below w1.heap.size w1 V → ∀ nm N, V.cell? ⟨N, 0, none⟩ = some (.string (ba nm)) → Calls Tryz.prog 31 #[v, .func (.func 28) #[] #[.pointer (some ⟨w.heap.size, 0, none⟩), .pointer (some ⟨N, 0, none⟩)]] V fun e w' => e = .returned (.bool (l.any (mkB f nm))) ∧ Below V.heap.size V w') := Hid.mk fun V hV nm N hN => has_makes f vi _ vo v l w.heap.size N nm V (HF.out.2.1.below hV) hf (HF.out.2.2.1.below hV) hN (HF.out.2.2.2.below hV) hlt h16
  have hmf : ∀ (fn : Fn) (first cap : Array Value) (w : World), (Instr.makeFunc fn first cap).run Tryz.prog w = .ok (.func fn first cap) w := fun _ _ _ _ => rfl
  have HR := Hid.mk hrd
  obtain ⟨va, vc, rfl⟩ := ints_slice hl
  have hkI : (k : Int) < (f.jobs.length : Int) := by omega
  obtain ⟨L, hL⟩ : ∃ L, f.jobs[k].ins = L := ⟨_, rfl⟩
  rw [hL] at HR HI HD hil
  have HLf : Hid (∀ nm, givB f nm = givB f nm) := Hid.mk fun _ => rfl
  clear hrd h hf hl hlt hra ho hi hc hd3 hF1 hL HLf
  obtain ⟨n, hn⟩ : ∃ n, L.length = n := ⟨_, rfl⟩
  have HN := Hid.mk hn
  rw [hn] at hil HI HD
  have g0 := HS.out w1 (Below.refl _ _)
  have g1 := g0.1
  have g2 := g0.2.1
  have g3 := g0.2.2
  clear hn g0
  go_enter Tryz.func15, Tryz.ntmps15
  go_wp2_with (first | (go_at_call 27; refine (HJ.out _).mono ?_; rintro e w2 ⟨rfl, hb2⟩; have HB2 := Hid.mk hb2; have d1 := HD.out w2 hb2; have g4 := HS.out w2 hb2; have g5 := g4.2.1; clear hb2 g4))
  clear g1 g2 g3 d1 g5
  go_loopw [21] (fun i wr => ∃ q : Nat, q ≤ n ∧ i = .int .i64 q ∧ (L.take q).all (fun n => givB f n || l.any (mkB f n)) = true ∧ Below w1.heap.size w1 wr) (fun i _ => n - (intOf i).toNat)
  case atStart => exact ⟨0, Nat.zero_le _, rfl, rfl, HB2.out⟩
  case round =>
    obtain ⟨q, hq, rfl, hal, hnx⟩ := hrel
    have HA := Hid.mk hal
    clear hal
    by_cases hlt : q < n
    · have hq2 : q < L.length := by have := HN.out; omega
      rcases HI.out with ⟨-, e0⟩ | ⟨nb, no, nc', e0, hcap, hnb, hcell⟩
      · rw [e0] at hq2; exact absurd hq2 (by simp)
      simp only [Value.slice.injEq] at e0
      obtain ⟨rfl, -, rfl⟩ := e0
      have e1 := (hnx.cell (p := ⟨nb, no + q, none⟩) hnb).trans (hcell q hq2)
      obtain ⟨nm, hnm⟩ : ∃ nm, L[q] = nm := ⟨_, rfl⟩
      rw [hnm] at e1
      have HX : Hid (∀ r, (givB f nm || l.any (mkB f nm)) = r → (fun n => givB f n || l.any (mkB f n)) L[q] = r) := Hid.mk (fun r hr => by rw [hnm]; exact hr)
      obtain ⟨w3, hw3⟩ : ∃ x, wr.alloc (.cells #[.string (ba nm)] 9) = x := ⟨_, rfl⟩
      have hb3 : Below w1.heap.size w1 w3 := by rw [← hw3]; exact bel_then hnx (below_box _ _)
      have g0 := HS.out w3 hb3
      have g1 := g0.1
      have g2 := g0.2.1
      have g3 := g0.2.2
      have hN3 : w3.cell? ⟨wr.heap.size, 0, none⟩ = some (.string (ba nm)) := by rw [← hw3]; exact World.cell?_alloc_at _ _ _ _ rfl
      have HN3 := Hid.mk hN3
      have HG3 := Hid.mk (HG.out w3 hb3 nm)
      have HB3 := Hid.mk hb3
      have HM3 : Hid (∀ V, Below w3.heap.size w3 V → Calls Tryz.prog 31 #[.slice va l.length vc, .func (.func 28) #[] #[.pointer (some ⟨w.heap.size, 0, none⟩), .pointer (some ⟨wr.heap.size, 0, none⟩)]] V fun e w' => e = .returned (.bool (l.any (mkB f nm))) ∧ Below V.heap.size V w') := Hid.mk fun V hV => HM.out V (bel_then hb3 hV) nm wr.heap.size (cell_below hN3 hV)
      clear g0 hb3 hcell hnx hnm
      generalize ba nm = x at *
      cases hg : givB f nm with
      | true =>
        rw [hg] at HG3 HX
        have HP := Hid.mk (HX.out true rfl)
        clear hg HX HM3
        go_wp2_with (first | (go_at_call 30; refine HG3.out.mono ?_; rintro e w4 ⟨rfl, hb4⟩; have HB4 := Hid.mk (bel_then HB3.out hb4); clear hb4))
        go_roundw
        case rel => exact ⟨q + 1, by omega, by go_num, all_step hq2 HA.out HP.out, HB4.out⟩
        case measure => simp [intOf]; omega
      | false =>
        rw [hg] at HG3 HX
        cases hm : l.any (mkB f nm) with
        | true =>
          rw [hm] at HM3 HX
          have HP := Hid.mk (HX.out true rfl)
          clear hg hm HX
          go_wp2_with (first | (go_at_call 30; refine HG3.out.mono ?_; rintro e w4 ⟨rfl, hb4⟩; have HM4 := Hid.mk (HM3.out w4 hb4); have HB4 := Hid.mk (bel_then HB3.out hb4); clear hb4) | (go_at_call 31; refine HM4.out.mono ?_; rintro e w5 ⟨rfl, hb5⟩; have HB5 := Hid.mk (bel_then HB4.out hb5); clear hb5))
          go_roundw
          case rel => exact ⟨q + 1, by omega, by go_num, all_step hq2 HA.out HP.out, HB5.out⟩
          case measure => simp [intOf]; omega
        | false =>
          rw [hm] at HM3 HX
          have HP := Hid.mk (HX.out false rfl)
          clear hg hm HX
          go_wp2_with (first | (go_at_call 30; refine HG3.out.mono ?_; rintro e w4 ⟨rfl, hb4⟩; have HM4 := Hid.mk (HM3.out w4 hb4); have HB4 := Hid.mk (bel_then HB3.out hb4); clear hb4) | (go_at_call 31; refine HM4.out.mono ?_; rintro e w5 ⟨rfl, hb5⟩; have HB5 := Hid.mk (bel_then HB4.out hb5); clear hb5))
          go_ret
          exact ⟨ret_bool (by rw [HR.out, all_miss hq2 HP.out]), HF.out.1.trans (HB5.out.mono HF.out.1.size)⟩
    · go_wp2
      go_ret
      exact ⟨ret_bool (by have := HA.out; rw [List.take_of_length_le (by have := HN.out; omega)] at this; rw [HR.out, this]), HF.out.1.trans (hnx.mono HF.out.1.size)⟩
end Go.Proofs.YtfifbnopgpffkaaGreatDoor.Pl
