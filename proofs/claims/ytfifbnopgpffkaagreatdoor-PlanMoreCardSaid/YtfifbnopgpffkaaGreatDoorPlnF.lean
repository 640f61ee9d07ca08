import Derived.Test.YtfifbnopgpffkaaGreatDoorPlnE
import Derived.Deep.RegionHeld3
set_option linter.unusedSimpArgs false
set_option linter.unusedVariables false
namespace Go.Proofs.YtfifbnopgpffkaaGreatDoor.Pl
open Go.RowKit
open Fw (By FJob Flw ba)

/-- A flow in a box. -/
def FBox (w : World) (F : Nat) (vi vj vo : Value) : Prop := w.cell? ⟨F, 0, none⟩ = some vi ∧ w.cell? ⟨F, 1, none⟩ = some vj ∧ w.cell? ⟨F, 2, none⟩ = some vo
theorem FBox.lt {w : World} {F : Nat} {vi vj vo : Value} (h : FBox w F vi vj vo) : F < w.heap.size := World.block_lt_of_cell? w _ h.1
theorem FBox.below {w w' : World} {F : Nat} {vi vj vo : Value} (h : FBox w F vi vj vo) (hb : Below w.heap.size w w') : FBox w' F vi vj vo :=
  ⟨(hb.cell (p := ⟨F, 0, none⟩) h.lt).trans h.1, (hb.cell (p := ⟨F, 1, none⟩) h.lt).trans h.2.1, (hb.cell (p := ⟨F, 2, none⟩) h.lt).trans h.2.2⟩
theorem FBox.new (w : World) (vi vj vo : Value) (T : TypeId) : FBox (w.alloc (.cells #[vi, vj, vo] T)) w.heap.size vi vj vo :=
  ⟨World.cell?_alloc_at _ _ _ _ rfl, World.cell?_alloc_at _ _ _ _ rfl, World.cell?_alloc_at _ _ _ _ rfl⟩
theorem cell_below {w w' : World} {p : Addr} {v : Value} (h : w.cell? p = some v) (hb : Below w.heap.size w w') : w'.cell? p = some v := (hb.cell (World.block_lt_of_cell? w _ h)).trans h
set_option maxRecDepth 100000 in
set_option maxHeartbeats 1600000 in
theorem ready1_any (f : Flw) (vi vj vo : Value) (F N k : Nat) (nm : By) (w : World) (h : Fw.FlowRd w f vi vj vo) (hf : Fw.FlwOK f) (hF : FBox w F vi vj vo) (hN : w.cell? ⟨N, 0, none⟩ = some (.string (ba nm))) (hk : k < f.jobs.length) :
    Calls Tryz.prog 28 #[.int .i64 (k : Nat), .pointer (some ⟨F, 0, none⟩), .pointer (some ⟨N, 0, none⟩)] w fun e w' => e = .returned (.bool (mkB f nm k)) ∧ Below w.heap.size w w' := by
  obtain ⟨b, c, rfl, hcap, hb, ao, ai, ac, hra, ho, hi, hc⟩ := job_at h hk
  have hmk : mkB f nm k = f.jobs[k].outs.contains nm := by unfold mkB; rw [List.getElem?_eq_getElem hk]
  have hol := (hf.jobs _ (List.getElem_mem hk)).ol
  have HJ : Hid (∀ V, Below w.heap.size w V → Calls Tryz.prog 27 #[.agg #[vi, .slice (some ⟨b, 0, none⟩) f.jobs.length c, vo], .int .i64 (k : Nat)] V fun e w' => e = .returned (.bool true) ∧ Below V.heap.size V w') := Hid.mk fun V _ => isJob_any vi vo _ _ c k V hk
  have HC : Hid (∀ V, Below w.heap.size w V → Calls Tryz.prog 29 #[ao, .string (ba nm)] V fun e w' => e = .returned (.bool (mkB f nm k)) ∧ w' = V) := Hid.mk fun V hV => by
    rw [hmk]; exact has_strs (ho.below hV) (by omega) nm
  have d2 : w.cell? ⟨b, k * 15 + 2, none⟩ = some ao := hra 2 _ rfl
  have HS : Hid (∀ V, Below w.heap.size w V → FBox V F vi (.slice (some ⟨b, 0, none⟩) f.jobs.length c) vo ∧ V.cell? ⟨N, 0, none⟩ = some (.string (ba nm)) ∧ V.cell? ⟨b, k * 15 + 2, none⟩ = some ao) := Hid.mk fun V hV => ⟨hF.below hV, cell_below hN hV, cell_below d2 hV⟩
  have G0 := Hid.mk (HS.out w.drew (Below.refl _ w).drew)
  have HB0 : Hid (Below w.heap.size w w.drew) := Hid.mk (Below.refl _ w).drew
  have hkI : (k : Int) < (f.jobs.length : Int) := by omega
  clear hmk hra h ho hi hc d2 hF hN hol hf
  generalize f.jobs.length = n at *
  generalize mkB f nm k = r at *
  generalize ba nm = x at *
  go_enter Tryz.func28, Tryz.ntmps28
  go_wp2
  unfold FBox at G0 HS
  go_region_held3 (fun V => (V.cell? ⟨F, 0, none⟩ = some vi ∧ V.cell? ⟨F, 1, none⟩ = some (.slice (some ⟨b, 0, none⟩) n c) ∧ V.cell? ⟨F, 2, none⟩ = some vo) ∧ V.cell? ⟨N, 0, none⟩ = some (.string x) ∧ V.cell? ⟨b, k * 15 + 2, none⟩ = some ao) (first | exact G0.out | exact G1.out) (first | (go_at_call 27; refine (HJ.out _ HB0.out).mono ?_; rintro e1 w1 ⟨rfl, hb1⟩; have HB1 := Hid.mk (HB0.out.trans (hb1.mono HB0.out.size)); have G1 := Hid.mk (HS.out w1 HB1.out); clear hb1) | (go_at_call 29; refine (HC.out _ (by first | exact HB1.out | exact HB0.out)).mono ?_; rintro e2 w2 ⟨rfl, rfl⟩))
  all_goals go_wp2
  all_goals go_ret
  all_goals exact ⟨rfl, HB1.out⟩
/-- Numbers in memory. -/
def IntsV (w : World) (v : Value) (l : List Nat) : Prop := (v = .slice none 0 0 ∧ l = []) ∨ ∃ b o c, v = .slice (some ⟨b, o, none⟩) l.length c ∧ l.length ≤ c ∧ b < w.heap.size ∧ ∀ j (h : j < l.length), w.cell? ⟨b, o + j, none⟩ = some (.int .i64 (l[j] : Nat))
theorem IntsV.below {w w' : World} {v : Value} {l : List Nat} (h : IntsV w v l) (hb : Below w.heap.size w w') : IntsV w' v l := by
  rcases h with h | ⟨b, o, c, h1, h2, h3, h4⟩
  · exact Or.inl h
  · exact Or.inr ⟨b, o, c, h1, h2, Nat.lt_of_lt_of_le h3 hb.size, fun j hj => (hb.cell (p := ⟨b, o + j, none⟩) h3).trans (h4 j hj)⟩
theorem ints_slice {w : World} {v : Value} {l : List Nat} (h : IntsV w v l) : ∃ a c, v = .slice a l.length c := by
  rcases h with ⟨rfl, rfl⟩ | ⟨b, o, c, rfl, -⟩
  · exact ⟨none, 0, rfl⟩
  · exact ⟨_, c, rfl⟩
set_option maxRecDepth 100000 in
set_option maxHeartbeats 1600000 in
theorem idx_makes (f : Flw) (vi vj vo v : Value) (l : List Nat) (F N : Nat) (nm : By) (w : World) (h : Fw.FlowRd w f vi vj vo) (hf : Fw.FlwOK f) (hF : FBox w F vi vj vo) (hN : w.cell? ⟨N, 0, none⟩ = some (.string (ba nm))) (hl : IntsV w v l) (hlt : ∀ k ∈ l, k < f.jobs.length) (h16 : l.length ≤ 100) :
    Calls Tryz.prog 22 #[v, .func (.func 28) #[] #[.pointer (some ⟨F, 0, none⟩), .pointer (some ⟨N, 0, none⟩)]] w fun e w' => ∃ r : Int, e = .returned (.int .i64 r) ∧ foundI r (l.any (mkB f nm)) ∧ Below w.heap.size w w' := by
  obtain ⟨ia, ic, rfl⟩ := ints_slice hl
  obtain ⟨n, hn⟩ : ∃ n, l.length = n := ⟨_, rfl⟩
  have HN := Hid.mk hn
  have HL := Hid.mk hl
  have HQ : Hid (∀ V, Below w.heap.size w V → ∀ k, k < f.jobs.length → Calls Tryz.prog 28 #[.int .i64 (k : Nat), .pointer (some ⟨F, 0, none⟩), .pointer (some ⟨N, 0, none⟩)] V fun e w' => e = .returned (.bool (mkB f nm k)) ∧ Below V.heap.size V w') := Hid.mk fun V hV k hk => ready1_any f vi vj vo F N k nm V (h.below hV) hf (hF.below hV) (cell_below hN hV) hk
  have HLT := Hid.mk hlt
  rw [hn] at h16 ⊢
  clear hn h hF hN hl hf hlt
  go_enter Tryz.func22, Tryz.ntmps22
  go_wp2
  go_loopw [8] (fun i wr => ∃ k : Nat, k ≤ n ∧ i = .int .i64 k ∧ (l.take k).any (mkB f nm) = false ∧ Below w.heap.size w wr) (fun i _ => n - (intOf i).toNat)
  case atStart => exact ⟨0, Nat.zero_le _, rfl, rfl, Below.refl _ _⟩
  case round =>
    obtain ⟨k, hk, rfl, hal, hnx⟩ := hrel
    have HA := Hid.mk hal
    clear hal
    by_cases hlt : k < n
    · have hk2 : k < l.length := by have := HN.out; omega
      rcases HL.out with ⟨-, e0⟩ | ⟨b, o, c', e0, hcap, hb, hcell⟩
      · rw [e0] at hk2; exact absurd hk2 (by simp)
      simp only [Value.slice.injEq] at e0
      obtain ⟨rfl, -, rfl⟩ := e0
      have e1 := (hnx.cell (p := ⟨b, o + k, none⟩) hb).trans (hcell k hk2)
      have HC := Hid.mk (HQ.out wr hnx l[k] (HLT.out _ (List.getElem_mem hk2)))
      have HNX := Hid.mk hnx
      clear hnx hcell
      cases hp : mkB f nm l[k]
      all_goals have HP := Hid.mk hp
      all_goals rw [hp] at HC
      all_goals clear hp
      · go_wp2_with (go_at_call 28; refine HC.out.mono ?_; rintro e w2 ⟨rfl, hb2⟩; have HB2 := Hid.mk (HNX.out.trans (hb2.mono HNX.out.size)); clear hb2)
        go_roundw
        case rel => exact ⟨k + 1, by omega, by go_num, any_step hk2 HA.out HP.out, HB2.out⟩
        case measure => simp [intOf]; omega
      · go_wp2_with (go_at_call 28; refine HC.out.mono ?_; rintro e w2 ⟨rfl, hb2⟩; have HB2 := Hid.mk (HNX.out.trans (hb2.mono HNX.out.size)); clear hb2)
        go_ret
        exact ⟨k, rfl, ⟨by omega, by omega, by rw [any_hit hk2 HP.out]; simp⟩, HB2.out⟩
    · go_wp2
      go_ret
      exact ⟨-1, rfl, ⟨by omega, by omega, by have := HA.out; rw [List.take_of_length_le (by have := HN.out; omega)] at this; rw [this]; rfl⟩, hnx⟩
set_option maxHeartbeats 800000 in
theorem has_makes (f : Flw) (vi vj vo v : Value) (l : List Nat) (F N : Nat) (nm : By) (w : World) (h : Fw.FlowRd w f vi vj vo) (hf : Fw.FlwOK f) (hF : FBox w F vi vj vo) (hN : w.cell? ⟨N, 0, none⟩ = some (.string (ba nm))) (hl : IntsV w v l) (hlt : ∀ k ∈ l, k < f.jobs.length) (h16 : l.length ≤ 100) :
    Calls Tryz.prog 31 #[v, .func (.func 28) #[] #[.pointer (some ⟨F, 0, none⟩), .pointer (some ⟨N, 0, none⟩)]] w fun e w' => e = .returned (.bool (l.any (mkB f nm))) ∧ Below w.heap.size w w' := by
  have HQ := Hid.mk (idx_makes f vi vj vo v l F N nm w h hf hF hN hl hlt h16)
  clear h hN hF hl hlt
  go_enter Tryz.func31, Tryz.ntmps31
  go_wp2_with (go_at_call 22; refine HQ.out.mono ?_; rintro e w2 ⟨r, rfl, hf, hb2⟩)
  go_ret
  exact ⟨ret_bool hf.2.2, hb2⟩
end Go.Proofs.YtfifbnopgpffkaaGreatDoor.Pl
