import Derived.Test.YtoncleppenggaaaGreatDoorPlnD
import Derived.Deep.MidRow
import Derived.Deep.RegionHeld3
set_option linter.unusedSimpArgs false
set_option linter.unusedVariables false
namespace Go.Proofs.YtoncleppenggaaaGreatDoor.Pl
open Go.RowKit
open Fw (By FJob Flw ba)

/-- An error at a place. -/
def AtV (w : World) (v : Value) (n : Int) : Prop := ∃ p pl, v = .iface 82 (.pointer (some ⟨p, 0, none⟩)) ∧ w.cell? ⟨p, 0, none⟩ = some (.int .i64 n) ∧ w.cell? ⟨p, 1, none⟩ = some (.int .i64 pl)
theorem AtV.below {w w' : World} {v : Value} {n : Int} (h : AtV w v n) (hb : Below w.heap.size w w') : AtV w' v n := by
  obtain ⟨p, pl, h1, h2, h3⟩ := h
  exact ⟨p, pl, h1, (hb.cell (p := ⟨p, 0, none⟩) (World.block_lt_of_cell? w _ h2)).trans h2, (hb.cell (p := ⟨p, 1, none⟩) (World.block_lt_of_cell? w _ h3)).trans h3⟩
set_option maxHeartbeats 400000 in
theorem at_any (n pl : Int) (w : World) : Calls Tryz.prog 24 #[.int .i64 n, .int .i64 pl] w fun e w' => ∃ p, e = .returned (.iface 82 (.pointer (some ⟨p, 0, none⟩))) ∧ AtV w' (.iface 82 (.pointer (some ⟨p, 0, none⟩))) n ∧ Below w.heap.size w w' := by
  go_enter Tryz.func24, Tryz.ntmps24
  go_wp2
  go_ret
  exact ⟨_, rfl, ⟨_, pl, rfl, World.cell?_alloc_at _ _ _ _ rfl, World.cell?_alloc_at _ _ _ _ rfl⟩, below_box _ _⟩
theorem ba_eq (a b : By) : ((ba a).toList == (ba b).toList) = (a == b) := by
  rw [ByteArray.toList_eq, ByteArray.toList_eq]
theorem row_slice {w : World} {v : Value} {n z : Nat} {P : Nat → World → Nat → Nat → Prop} (h : Fw.RowR w v n z P) : ∃ a c, v = .slice a n c := by
  rcases h with ⟨rfl, rfl⟩ | ⟨b, c, rfl, -⟩
  · exact ⟨_, _, rfl⟩
  · exact ⟨_, _, rfl⟩
set_option maxHeartbeats 400000 in
theorem isJob_any (vi vo : Value) (ja : Option Addr) (n c k : Nat) (w : World) (hk : k < n) : Calls Tryz.prog 27 #[.agg #[vi, .slice ja n c, vo], .int .i64 (k : Nat)] w fun e w' => e = .returned (.bool true) ∧ Below w.heap.size w w' := by
  have h1 : decide ((0 : Int) ≤ (k : Int)) = true := by simp
  have h2 : decide ((k : Int) < (n : Int)) = true := by simp; omega
  go_enter Tryz.func27, Tryz.ntmps27
  go_wp2
  go_ret
  exact ⟨rfl, below_box _ _⟩
/-- What was found. -/
def foundI (r : Int) (b : Bool) : Prop := -1 ≤ r ∧ r ≤ 1000 ∧ (decide (0 ≤ r)) = b
theorem any_step {α : Type} {p : α → Bool} {l : List α} {k : Nat} (h : k < l.length) (ht : (l.take k).any p = false) (hp : p l[k] = false) : (l.take (k + 1)).any p = false := by
  rw [List.take_succ_eq_append_getElem h, List.any_append, ht]; simp [hp]
theorem any_hit {α : Type} {p : α → Bool} {l : List α} {k : Nat} (h : k < l.length) (hp : p l[k] = true) : l.any p = true := by
  rw [List.any_eq_true]; exact ⟨_, List.getElem_mem h, hp⟩
set_option maxHeartbeats 400000 in
theorem given1_any (at_ : Int) (x y : ByteArray) (vc : Value) (C : Nat) (r : Bool) (w : World) (hC : w.cell? ⟨C, 0, none⟩ = some (.string y)) (hr : (x.toList == y.toList) = r) : Calls Tryz.prog 47 #[.agg #[.int .i64 at_, .string x, vc], .pointer (some ⟨C, 0, none⟩)] w fun e w' => e = .returned (.bool r) ∧ Below w.heap.size w w' := by
  have hl := World.block_lt_of_cell? w _ hC
  have hC2 : (w.alloc (.cells #[.int .i64 at_, .string x, vc] 57)).cell? ⟨C, 0, none⟩ = some (.string y) := by rw [World.cell?_alloc_lt _ _ ⟨C, 0, none⟩ hl]; exact hC
  clear hC
  go_enter Tryz.func47, Tryz.ntmps47
  go_wp2
  go_ret
  exact ⟨rfl, below_box _ _⟩
set_option maxRecDepth 100000 in
set_option maxHeartbeats 800000 in
theorem idx_given (vi : Value) (l : List Fw.FIn) (nm : By) (C : Nat) (w : World) (h : Fw.RowR w vi l.length 3 (Fw.InAt l)) (h16 : l.length ≤ 100) (hC : w.cell? ⟨C, 0, none⟩ = some (.string (ba nm))) :
    Calls Tryz.prog 51 #[vi, .func (.func 47) #[] #[.pointer (some ⟨C, 0, none⟩)]] w fun e w' => ∃ r : Int, e = .returned (.int .i64 r) ∧ foundI r (l.any fun i => i.name == nm) ∧ Below w.heap.size w w' := by
  obtain ⟨ia, ic, rfl⟩ := row_slice h
  obtain ⟨n, hn⟩ : ∃ n, l.length = n := ⟨_, rfl⟩
  have HN := Hid.mk hn
  have HR := Hid.mk h
  have HC := Hid.mk hC
  rw [hn] at h16 ⊢
  clear hn h hC
  go_enter Tryz.func51, Tryz.ntmps51
  go_wp2
  go_loopw [8] (fun i wr => ∃ k : Nat, k ≤ n ∧ i = .int .i64 k ∧ (l.take k).any (fun i => i.name == nm) = false ∧ Below w.heap.size w wr) (fun i _ => n - (intOf i).toNat)
  case atStart => exact ⟨0, Nat.zero_le _, rfl, rfl, Below.refl _ _⟩
  case round =>
    obtain ⟨k, hk, rfl, hal, hnx⟩ := hrel
    have HA := Hid.mk hal
    clear hal
    by_cases hlt : k < n
    · have hk2 : k < l.length := by have := HN.out; omega
      rcases HR.out with ⟨-, e0⟩ | ⟨b, c', e0, hcap, hb, hcell⟩
      · rw [e0] at hk2; exact absurd hk2 (by simp)
      simp only [Value.slice.injEq] at e0
      obtain ⟨rfl, -, rfl⟩ := e0
      obtain ⟨a, v, ha, d0, d1, d2, -⟩ := hcell k hk2
      have e0 := (hnx.cell (p := ⟨b, k * 3, none⟩) hb).trans d0
      have e1 := (hnx.cell (p := ⟨b, k * 3 + 1, none⟩) hb).trans d1
      have e2 := (hnx.cell (p := ⟨b, k * 3 + 2, none⟩) hb).trans d2
      obtain ⟨_, ha2⟩ := List.getElem?_eq_some_iff.1 ha
      have hl := World.block_lt_of_cell? w _ HC.out
      have HQ := Hid.mk (given1_any (a.at_ : Nat) (ba a.name) (ba nm) v C (a.name == nm) wr ((hnx.cell (p := ⟨C, 0, none⟩) hl).trans HC.out) (ba_eq _ _))
      have HX : Hid (∀ p, (a.name == nm) = p → (fun i : Fw.FIn => i.name == nm) l[k] = p) := Hid.mk (fun p hp => by rw [ha2]; exact hp)
      generalize ba a.name = x at *
      have HNX := Hid.mk hnx
      clear hnx hcell d0 d1 d2 ha ha2
      cases hp : (a.name == nm)
      all_goals have HP := Hid.mk (HX.out _ hp)
      all_goals rw [hp] at HQ
      all_goals clear hp HX
      · go_wp2_with (go_at_call 47; refine HQ.out.mono ?_; rintro e w2 ⟨rfl, hb2⟩; have HB2 := Hid.mk (HNX.out.trans (hb2.mono HNX.out.size)); clear hb2)
        go_roundw
        case rel => exact ⟨k + 1, by omega, by go_num, any_step hk2 HA.out HP.out, HB2.out⟩
        case measure => simp [intOf]; omega
      · go_wp2_with (go_at_call 47; refine HQ.out.mono ?_; rintro e w2 ⟨rfl, hb2⟩; have HB2 := Hid.mk (HNX.out.trans (hb2.mono HNX.out.size)); clear hb2)
        go_ret
        exact ⟨k, rfl, ⟨by omega, by omega, by rw [any_hit hk2 HP.out]; simp⟩, HB2.out⟩
    · go_wp2
      go_ret
      exact ⟨-1, rfl, ⟨by omega, by omega, by have := HA.out; rw [List.take_of_length_le (by have := HN.out; omega)] at this; rw [this]; rfl⟩, hnx⟩
set_option maxHeartbeats 800000 in
theorem has_given (vi : Value) (l : List Fw.FIn) (nm : By) (C : Nat) (w : World) (h : Fw.RowR w vi l.length 3 (Fw.InAt l)) (h16 : l.length ≤ 100) (hC : w.cell? ⟨C, 0, none⟩ = some (.string (ba nm))) :
    Calls Tryz.prog 33 #[vi, .func (.func 47) #[] #[.pointer (some ⟨C, 0, none⟩)]] w fun e w' => e = .returned (.bool (l.any fun i => i.name == nm)) ∧ Below w.heap.size w w' := by
  have HQ := Hid.mk (idx_given vi l nm C w h h16 hC)
  clear h hC
  go_enter Tryz.func33, Tryz.ntmps33
  go_wp2_with (go_at_call 51; refine HQ.out.mono ?_; rintro e w2 ⟨r, rfl, hf, hb2⟩)
  go_ret
  exact ⟨ret_bool hf.2.2, hb2⟩
set_option maxHeartbeats 800000 in
theorem given_any (f : Flw) (vi vj vo : Value) (nm : By) (w : World) (h : Fw.FlowRd w f vi vj vo) (h16 : f.ins.length ≤ 16) :
    Calls Tryz.prog 30 #[.agg #[vi, vj, vo], .string (ba nm)] w fun e w' => e = .returned (.bool (givB f nm)) ∧ Below w.heap.size w w' := by
  obtain ⟨w2, hw2⟩ : ∃ x, x = (w.alloc (.cells #[vi, vj, vo] 27)).alloc (.cells #[.string (ba nm)] 9) := ⟨_, rfl⟩
  have hb2 : Below w.heap.size w w2 := by rw [hw2]; exact (below_box _ _).alloc (by simp) _
  have hI := has_given vi f.ins nm (w.heap.size + 1) w2 ((h.below hb2).ins) (by omega) (by rw [hw2]; exact World.cell?_alloc_at _ _ _ _ (by simp))
  have hmf : ∀ (fn : Fn) (first cap : Array Value) (w : World), (Instr.makeFunc fn first cap).run Tryz.prog w = .ok (.func fn first cap) w := fun _ _ _ _ => rfl
  rw [hw2] at hI
  have HI := Hid.mk hI
  rw [hw2] at hb2
  have HB := Hid.mk hb2
  have HG : Hid ((f.ins.any fun i => i.name == nm) = givB f nm) := Hid.mk rfl
  obtain ⟨ia, ic, rfl⟩ := row_slice h.ins
  generalize ba nm = x at *
  clear hI hb2 h hw2
  go_enter Tryz.func30, Tryz.ntmps30
  go_wp2_with (first | (go_at_call 33; refine HI.out.mono ?_; rintro e w3 ⟨rfl, hb3⟩))
  go_ret
  exact ⟨by rw [HG.out]; rfl, bel_then HB.out hb3⟩
/-- A job in a flow. -/
theorem job_at {w : World} {f : Flw} {vi vj vo : Value} (h : Fw.FlowRd w f vi vj vo) {k : Nat} (hk : k < f.jobs.length) : ∃ b c, vj = .slice (some ⟨b, 0, none⟩) f.jobs.length c ∧ f.jobs.length ≤ c ∧ b < w.heap.size ∧ ∃ ao ai ac, w.rangeAt b (k * 15) (Fw.jobV f.jobs[k] ao ai ac) ∧ Fw.StrsR w ao f.jobs[k].outs ∧ Fw.StrsR w ai f.jobs[k].ins ∧ Fw.StrsR w ac f.jobs[k].cols := by
  rcases h.jobs with ⟨-, e⟩ | ⟨b, c, e, hc, hb, hx⟩
  · rw [e] at hk; exact absurd hk (by simp)
  · obtain ⟨a, ao, ai, ac, ha, h1, h2, h3, h4⟩ := hx k hk
    obtain ⟨_, ha2⟩ := List.getElem?_eq_some_iff.1 ha
    subst ha2
    exact ⟨b, c, e, hc, hb, ao, ai, ac, h1, h2, h3, h4⟩
theorem inS_ba (l : List By) (n : By) : inS (l.map ba) n = l.contains n := by
  unfold inS
  rw [List.any_map, List.contains_eq_any_beq]
  congr 1
  funext x
  show ((ba x).data.toList == n) = (n == x)
  rw [Bool.eq_iff_iff, beq_iff_eq, beq_iff_eq]
  exact ⟨fun h => h.symm, fun h => h.symm⟩
set_option maxHeartbeats 800000 in
theorem idx_strs {w : World} {v : Value} {l : List By} (h : Fw.StrsR w v l) (hl : l.length ≤ 100000) (x : ByteArray) :
    Calls Tryz.prog 46 #[v, .string x] w fun e w' => (∃ i : Int, e = .returned (.int .i64 i) ∧ (0 ≤ i ↔ inS (l.map ba) x.data.toList = true) ∧ -1 ≤ i) ∧ w' = w := by
  obtain ⟨va, vc, rfl⟩ := strs_slice h
  obtain ⟨n, hn⟩ : ∃ n, l.length = n := ⟨_, rfl⟩
  have HN := Hid.mk hn
  have HS := Hid.mk h
  rw [hn] at hl ⊢
  clear hn h
  go_enter Tryz.func46, Tryz.ntmps46
  go_wp2
  go_loop [8] (fun i => ∃ k : Nat, k ≤ n ∧ i = .int .i64 k ∧ ((l.map ba).take k).any (fun s => s.data.toList == x.data.toList) = false) (fun i => n - (intOf i).toNat)
  case atStart => exact ⟨0, Nat.zero_le _, rfl, rfl⟩
  case round =>
    obtain ⟨k, hk, rfl, hal⟩ := hrel
    have HA := Hid.mk hal
    clear hal
    by_cases hlt : k < n
    · have hk2 : k < l.length := by have := HN.out; omega
      have hk3 : k < (l.map ba).length := by rw [List.length_map]; exact hk2
      rcases HS.out with ⟨-, e0⟩ | ⟨b, o, c, e0, hcap, hb, hx⟩
      · rw [e0] at hk2; exact absurd hk2 (by simp)
      simp only [Value.slice.injEq] at e0
      obtain ⟨rfl, -, rfl⟩ := e0
      have d1 := hx k hk2
      have HX : Hid (∀ q, (x.toList == (ba l[k]).toList) = q → (fun s : ByteArray => s.data.toList == x.data.toList) (l.map ba)[k] = q) := Hid.mk (fun q hq => by
        rw [List.getElem_map, ← hq, ByteArray.toList_eq, ByteArray.toList_eq, Bool.eq_iff_iff, beq_iff_eq, beq_iff_eq]
        exact ⟨fun z => z.symm, fun z => z.symm⟩)
      obtain ⟨y, hy⟩ : ∃ y, Fw.ba l[k] = y := ⟨_, rfl⟩
      rw [show ba l[k] = y from hy] at HX
      rw [hy] at d1
      clear hy hx
      cases hp : (x.toList == y.toList)
      · have HP := Hid.mk (HX.out _ hp)
        clear HX
        go_wp2
        go_round
        case rel => exact ⟨k + 1, by omega, by go_num, any_step hk3 HA.out HP.out⟩
        case measure => simp [intOf]; omega
      · have HP := Hid.mk (HX.out _ hp)
        clear HX
        go_wp2
        go_ret
        exact ⟨⟨(k : Int), rfl, ⟨fun _ => any_hit hk3 HP.out, fun _ => by omega⟩, by omega⟩, rfl⟩
    · go_wp2
      go_ret
      refine ⟨⟨-1, rfl, ⟨fun h => absurd h (by omega), fun h => ?_⟩, by omega⟩, rfl⟩
      have := HA.out
      rw [List.take_of_length_le (by rw [List.length_map]; have := HN.out; omega)] at this
      exact absurd (this.symm.trans h) (by decide)
set_option maxHeartbeats 800000 in
theorem has_strs {w : World} {v : Value} {l : List By} (h : Fw.StrsR w v l) (hl : l.length ≤ 100000) (n : By) : Calls Tryz.prog 29 #[v, .string (ba n)] w fun e w' => e = .returned (.bool (l.contains n)) ∧ w' = w := by
  have HI := Hid.mk (idx_strs h hl (ba n))
  rw [← inS_ba]
  obtain ⟨r, hr⟩ : ∃ r, inS (l.map ba) n = r := ⟨_, rfl⟩
  rw [show inS (l.map ba) (ba n).data.toList = r from hr] at HI
  rw [hr]
  generalize ba n = x at *
  clear h hr
  go_enter Tryz.func29, Tryz.ntmps29
  go_wp2_with (go_at_call 46; refine HI.out.mono ?_; rintro e w1 ⟨⟨i, rfl, hi1, hi2⟩, rfl⟩)
  all_goals go_ret
  all_goals refine ⟨ret_bool ?_, rfl⟩
  all_goals
    rw [Bool.eq_iff_iff, ← hi1]
    try simp
end Go.Proofs.YtoncleppenggaaaGreatDoor.Pl

namespace Go.Proofs.YtoncleppenggaaaGreatDoor.Pl
open Go.RowKit
open Fw (By FJob Flw ba)

/-- A flow in a box. -/
def FBox (w : World) (F : Nat) (vi vj vo : Value) : Prop := w.cell? ⟨F, 0, none⟩ = some vi ∧ w.cell? ⟨F, 1, none⟩ = some vj ∧ w.cell? ⟨F, 2, none⟩ = some vo
theorem FBox.lt {w : World} {F : Nat} {vi vj vo : Value} (h : FBox w F vi vj vo) : F < w.heap.size := World.block_lt_of_cell? w _ h.1
theorem FBox.below {w w' : World} {F : Nat} {vi vj vo : Value} (h : FBox w F vi vj vo) (hb : Below w.heap.size w w') : FBox w' F vi vj vo :=
  ⟨(hb.cell (p := ⟨F, 0, none⟩) h.lt).trans h.1, (hb.cell (p := ⟨F, 1, none⟩) h.lt).trans h.2.1, (hb.cell (p := ⟨F, 2, none⟩) h.lt).trans h.2.2⟩
theorem FBox.new (w : World) (vi vj vo : Value) (T : TypeId) : FBox (w.alloc (.cells #[vi, vj, vo] T)) w.heap.size vi vj vo :=
  ⟨World.cell?_alloc_at _ _ _ _ rfl, World.cell?_alloc_at _ _ _ _ rfl, World.cell?_alloc_at _ _ _ _ rfl⟩
theorem cell_below {w w' : World} {p : Addr} {v : Value} (h : w.cell? p = some v) (hb : Below w.heap.size w w') : w'.cell? p = some v := (hb.cell (World.block_lt_of_cell? w _ h)).trans h
set_option maxRecDepth 100000 in
set_option maxHeartbeats 1600000 in
theorem ready1_any (f : Flw) (vi vj vo : Value) (F N k : Nat) (nm : By) (w : World) (h : Fw.FlowRd w f vi vj vo) (hf : Fw.FlwOK f) (hF : FBox w F vi vj vo) (hN : w.cell? ⟨N, 0, none⟩ = some (.string (ba nm))) (hk : k < f.jobs.length) :
    Calls Tryz.prog 28 #[.int .i64 (k : Nat), .pointer (some ⟨F, 0, none⟩), .pointer (some ⟨N, 0, none⟩)] w fun e w' => e = .returned (.bool (mkB f nm k)) ∧ Below w.heap.size w w' := by
  obtain ⟨b, c, rfl, hcap, hb, ao, ai, ac, hra, ho, hi, hc⟩ := job_at h hk
  have hmk : mkB f nm k = f.jobs[k].outs.contains nm := by unfold mkB; rw [List.getElem?_eq_getElem hk]
  have hol := (hf.jobs _ (List.getElem_mem hk)).ol
  have HJ : Hid (∀ V, Below w.heap.size w V → Calls Tryz.prog 27 #[.agg #[vi, .slice (some ⟨b, 0, none⟩) f.jobs.length c, vo], .int .i64 (k : Nat)] V fun e w' => e = .returned (.bool true) ∧ Below V.heap.size V w') := Hid.mk fun V _ => isJob_any vi vo _ _ c k V hk
  have HC : Hid (∀ V, Below w.heap.size w V → Calls Tryz.prog 29 #[ao, .string (ba nm)] V fun e w' => e = .returned (.bool (mkB f nm k)) ∧ w' = V) := Hid.mk fun V hV => by
    rw [hmk]; exact has_strs (ho.below hV) (by omega) nm
  have d2 : w.cell? ⟨b, k * 15 + 2, none⟩ = some ao := hra 2 _ rfl
  have HS : Hid (∀ V, Below w.heap.size w V → FBox V F vi (.slice (some ⟨b, 0, none⟩) f.jobs.length c) vo ∧ V.cell? ⟨N, 0, none⟩ = some (.string (ba nm)) ∧ V.cell? ⟨b, k * 15 + 2, none⟩ = some ao) := Hid.mk fun V hV => ⟨hF.below hV, cell_below hN hV, cell_below d2 hV⟩
  have G0 := Hid.mk (HS.out w.drew (Below.refl _ w).drew)
  have HB0 : Hid (Below w.heap.size w w.drew) := Hid.mk (Below.refl _ w).drew
  have hkI : (k : Int) < (f.jobs.length : Int) := by omega
  clear hmk hra h ho hi hc d2 hF hN hol hf
  generalize f.jobs.length = n at *
  generalize mkB f nm k = r at *
  generalize ba nm = x at *
  go_enter Tryz.func28, Tryz.ntmps28
  go_wp2
  unfold FBox at G0 HS
  go_region_held3 (fun V => (V.cell? ⟨F, 0, none⟩ = some vi ∧ V.cell? ⟨F, 1, none⟩ = some (.slice (some ⟨b, 0, none⟩) n c) ∧ V.cell? ⟨F, 2, none⟩ = some vo) ∧ V.cell? ⟨N, 0, none⟩ = some (.string x) ∧ V.cell? ⟨b, k * 15 + 2, none⟩ = some ao) (first | exact G0.out | exact G1.out) (first | (go_at_call 27; refine (HJ.out _ HB0.out).mono ?_; rintro e1 w1 ⟨rfl, hb1⟩; have HB1 := Hid.mk (HB0.out.trans (hb1.mono HB0.out.size)); have G1 := Hid.mk (HS.out w1 HB1.out); clear hb1) | (go_at_call 29; refine (HC.out _ (by first | exact HB1.out | exact HB0.out)).mono ?_; rintro e2 w2 ⟨rfl, rfl⟩))
  all_goals go_wp2
  all_goals go_ret
  all_goals exact ⟨rfl, HB1.out⟩
/-- Numbers in memory. -/
def IntsV (w : World) (v : Value) (l : List Nat) : Prop := (v = .slice none 0 0 ∧ l = []) ∨ ∃ b o c, v = .slice (some ⟨b, o, none⟩) l.length c ∧ l.length ≤ c ∧ b < w.heap.size ∧ ∀ j (h : j < l.length), w.cell? ⟨b, o + j, none⟩ = some (.int .i64 (l[j] : Nat))
theorem IntsV.below {w w' : World} {v : Value} {l : List Nat} (h : IntsV w v l) (hb : Below w.heap.size w w') : IntsV w' v l := by
  rcases h with h | ⟨b, o, c, h1, h2, h3, h4⟩
  · exact Or.inl h
  · exact Or.inr ⟨b, o, c, h1, h2, Nat.lt_of_lt_of_le h3 hb.size, fun j hj => (hb.cell (p := ⟨b, o + j, none⟩) h3).trans (h4 j hj)⟩
theorem ints_slice {w : World} {v : Value} {l : List Nat} (h : IntsV w v l) : ∃ a c, v = .slice a l.length c := by
  rcases h with ⟨rfl, rfl⟩ | ⟨b, o, c, rfl, -⟩
  · exact ⟨none, 0, rfl⟩
  · exact ⟨_, c, rfl⟩
set_option maxRecDepth 100000 in
set_option maxHeartbeats 1600000 in
theorem idx_makes (f : Flw) (vi vj vo v : Value) (l : List Nat) (F N : Nat) (nm : By) (w : World) (h : Fw.FlowRd w f vi vj vo) (hf : Fw.FlwOK f) (hF : FBox w F vi vj vo) (hN : w.cell? ⟨N, 0, none⟩ = some (.string (ba nm))) (hl : IntsV w v l) (hlt : ∀ k ∈ l, k < f.jobs.length) (h16 : l.length ≤ 100) :
    Calls Tryz.prog 22 #[v, .func (.func 28) #[] #[.pointer (some ⟨F, 0, none⟩), .pointer (some ⟨N, 0, none⟩)]] w fun e w' => ∃ r : Int, e = .returned (.int .i64 r) ∧ foundI r (l.any (mkB f nm)) ∧ Below w.heap.size w w' := by
  obtain ⟨ia, ic, rfl⟩ := ints_slice hl
  obtain ⟨n, hn⟩ : ∃ n, l.length = n := ⟨_, rfl⟩
  have HN := Hid.mk hn
  have HL := Hid.mk hl
  have HQ : Hid (∀ V, Below w.heap.size w V → ∀ k, k < f.jobs.length → Calls Tryz.prog 28 #[.int .i64 (k : Nat), .pointer (some ⟨F, 0, none⟩), .pointer (some ⟨N, 0, none⟩)] V fun e w' => e = .returned (.bool (mkB f nm k)) ∧ Below V.heap.size V w') := Hid.mk fun V hV k hk => ready1_any f vi vj vo F N k nm V (h.below hV) hf (hF.below hV) (cell_below hN hV) hk
  have HLT := Hid.mk hlt
  rw [hn] at h16 ⊢
  clear hn h hF hN hl hf hlt
  go_enter Tryz.func22, Tryz.ntmps22
  go_wp2
  go_loopw [8] (fun i wr => ∃ k : Nat, k ≤ n ∧ i = .int .i64 k ∧ (l.take k).any (mkB f nm) = false ∧ Below w.heap.size w wr) (fun i _ => n - (intOf i).toNat)
  case atStart => exact ⟨0, Nat.zero_le _, rfl, rfl, Below.refl _ _⟩
  case round =>
    obtain ⟨k, hk, rfl, hal, hnx⟩ := hrel
    have HA := Hid.mk hal
    clear hal
    by_cases hlt : k < n
    · have hk2 : k < l.length := by have := HN.out; omega
      rcases HL.out with ⟨-, e0⟩ | ⟨b, o, c', e0, hcap, hb, hcell⟩
      · rw [e0] at hk2; exact absurd hk2 (by simp)
      simp only [Value.slice.injEq] at e0
      obtain ⟨rfl, -, rfl⟩ := e0
      have e1 := (hnx.cell (p := ⟨b, o + k, none⟩) hb).trans (hcell k hk2)
      have HC := Hid.mk (HQ.out wr hnx l[k] (HLT.out _ (List.getElem_mem hk2)))
      have HNX := Hid.mk hnx
      clear hnx hcell
      cases hp : mkB f nm l[k]
      all_goals have HP := Hid.mk hp
      all_goals rw [hp] at HC
      all_goals clear hp
      · go_wp2_with (go_at_call 28; refine HC.out.mono ?_; rintro e w2 ⟨rfl, hb2⟩; have HB2 := Hid.mk (HNX.out.trans (hb2.mono HNX.out.size)); clear hb2)
        go_roundw
        case rel => exact ⟨k + 1, by omega, by go_num, any_step hk2 HA.out HP.out, HB2.out⟩
        case measure => simp [intOf]; omega
      · go_wp2_with (go_at_call 28; refine HC.out.mono ?_; rintro e w2 ⟨rfl, hb2⟩; have HB2 := Hid.mk (HNX.out.trans (hb2.mono HNX.out.size)); clear hb2)
        go_ret
        exact ⟨k, rfl, ⟨by omega, by omega, by rw [any_hit hk2 HP.out]; simp⟩, HB2.out⟩
    · go_wp2
      go_ret
      exact ⟨-1, rfl, ⟨by omega, by omega, by have := HA.out; rw [List.take_of_length_le (by have := HN.out; omega)] at this; rw [this]; rfl⟩, hnx⟩
set_option maxHeartbeats 800000 in
theorem has_makes (f : Flw) (vi vj vo v : Value) (l : List Nat) (F N : Nat) (nm : By) (w : World) (h : Fw.FlowRd w f vi vj vo) (hf : Fw.FlwOK f) (hF : FBox w F vi vj vo) (hN : w.cell? ⟨N, 0, none⟩ = some (.string (ba nm))) (hl : IntsV w v l) (hlt : ∀ k ∈ l, k < f.jobs.length) (h16 : l.length ≤ 100) :
    Calls Tryz.prog 31 #[v, .func (.func 28) #[] #[.pointer (some ⟨F, 0, none⟩), .pointer (some ⟨N, 0, none⟩)]] w fun e w' => e = .returned (.bool (l.any (mkB f nm))) ∧ Below w.heap.size w w' := by
  have HQ := Hid.mk (idx_makes f vi vj vo v l F N nm w h hf hF hN hl hlt h16)
  clear h hN hF hl hlt
  go_enter Tryz.func31, Tryz.ntmps31
  go_wp2_with (go_at_call 22; refine HQ.out.mono ?_; rintro e w2 ⟨r, rfl, hf, hb2⟩)
  go_ret
  exact ⟨ret_bool hf.2.2, hb2⟩
end Go.Proofs.YtoncleppenggaaaGreatDoor.Pl

namespace Go.Proofs.YtoncleppenggaaaGreatDoor.Pl
open Go.RowKit
open Fw (By FJob Flw ba)

theorem all_step {α : Type} {p : α → Bool} {l : List α} {k : Nat} (h : k < l.length) (ht : (l.take k).all p = true) (hp : p l[k] = true) : (l.take (k + 1)).all p = true := by
  rw [List.take_succ_eq_append_getElem h, List.all_append, ht]; simp [hp]
theorem all_miss {α : Type} {p : α → Bool} {l : List α} {k : Nat} (h : k < l.length) (hp : p l[k] = false) : l.all p = false := by
  rw [List.all_eq_false]; exact ⟨_, List.getElem_mem h, by rw [hp]; decide⟩
set_option maxRecDepth 100000 in
set_option maxHeartbeats 1600000 in
theorem ready_any (f : Flw) (vi vj vo v : Value) (l : List Nat) (k : Nat) (w : World) (h : Fw.FlowRd w f vi vj vo) (hf : Fw.FlwOK f) (hk : k < f.jobs.length) (hl : IntsV w v l) (hlt : ∀ k ∈ l, k < f.jobs.length) (h16 : l.length ≤ 100) :
    Calls Tryz.prog 15 #[.agg #[vi, vj, vo], .int .i64 (k : Nat), v] w fun e w' => e = .returned (.bool (rdyB f k l)) ∧ Below w.heap.size w w' := by
  obtain ⟨b, c, rfl, hcap, hb, ao, ai, ac, hra, ho, hi, hc⟩ := job_at h hk
  have hrd : rdyB f k l = f.jobs[k].ins.all fun n => givB f n || l.any (mkB f n) := by unfold rdyB; rw [List.getElem?_eq_getElem hk]
  have hil := (hf.jobs _ (List.getElem_mem hk)).il
  obtain ⟨w1, hw1⟩ : ∃ x, w.alloc (.cells #[vi, .slice (some ⟨b, 0, none⟩) f.jobs.length c, vo] 27) = x := ⟨_, rfl⟩
  have hB1 : Below w.heap.size w w1 := by rw [← hw1]; exact below_box _ _
  have hF1 : FBox w1 w.heap.size vi (.slice (some ⟨b, 0, none⟩) f.jobs.length c) vo := by rw [← hw1]; exact FBox.new _ _ _ _ _
  have HF := Hid.mk (And.intro hB1 (And.intro (h.below hB1) (And.intro hF1 (hl.below hB1))))
  have HS : Hid (∀ V, Below w1.heap.size w1 V → V.cell? ⟨w.heap.size, 0, none⟩ = some vi ∧ V.cell? ⟨w.heap.size, 1, none⟩ = some (.slice (some ⟨b, 0, none⟩) f.jobs.length c) ∧ V.cell? ⟨w.heap.size, 2, none⟩ = some vo) := Hid.mk fun V hV => hF1.below hV
  have HJ : Hid (∀ V, Calls Tryz.prog 27 #[.agg #[vi, .slice (some ⟨b, 0, none⟩) f.jobs.length c, vo], .int .i64 (k : Nat)] V fun e w' => e = .returned (.bool true) ∧ Below V.heap.size V w') := Hid.mk fun V => isJob_any vi vo _ _ c k V hk
  have HI := Hid.mk (hi.below hB1)
  have hd3 : w.cell? ⟨b, k * 15 + 3, none⟩ = some ai := hra 3 _ rfl
  have HD : Hid (∀ V, Below w1.heap.size w1 V → V.cell? ⟨b, k * 15 + 3, none⟩ = some ai) := Hid.mk fun V hV => cell_below (cell_below hd3 hB1) hV
  obtain ⟨na, nc, rfl⟩ := strs_slice hi
  have HG : Hid (∀ V, Below w1.heap.size w1 V → ∀ nm, Calls Tryz.prog 30 #[.agg #[vi, .slice (some ⟨b, 0, none⟩) f.jobs.length c, vo], .string (ba nm)] V fun e w' => e = .returned (.bool (givB f nm)) ∧ Below V.heap.size V w') := Hid.mk fun V hV nm => given_any f vi _ vo nm V (HF.out.2.1.below hV) hf.il
  have HM : Hid (∀ V, Below w1.heap.size w1 V → ∀ nm N, V.cell? ⟨N, 0, none⟩ = some (.string (ba nm)) → Calls Tryz.prog 31 #[v, .func (.func 28) #[] #[.pointer (some ⟨w.heap.size, 0, none⟩), .pointer (some ⟨N, 0, none⟩)]] V fun e w' => e = .returned (.bool (l.any (mkB f nm))) ∧ Below V.heap.size V w') := Hid.mk fun V hV nm N hN => has_makes f vi _ vo v l w.heap.size N nm V (HF.out.2.1.below hV) hf (HF.out.2.2.1.below hV) hN (HF.out.2.2.2.below hV) hlt h16
  have hmf : ∀ (fn : Fn) (first cap : Array Value) (w : World), (Instr.makeFunc fn first cap).run Tryz.prog w = .ok (.func fn first cap) w := fun _ _ _ _ => rfl
  have HR := Hid.mk hrd
  obtain ⟨va, vc, rfl⟩ := ints_slice hl
  have hkI : (k : Int) < (f.jobs.length : Int) := by omega
  obtain ⟨L, hL⟩ : ∃ L, f.jobs[k].ins = L := ⟨_, rfl⟩
  rw [hL] at HR HI HD hil
  have HLf : Hid (∀ nm, givB f nm = givB f nm) := Hid.mk fun _ => rfl
  clear hrd h hf hl hlt hra ho hi hc hd3 hF1 hL HLf
  obtain ⟨n, hn⟩ : ∃ n, L.length = n := ⟨_, rfl⟩
  have HN := Hid.mk hn
  rw [hn] at hil HI HD
  have g0 := HS.out w1 (Below.refl _ _)
  have g1 := g0.1
  have g2 := g0.2.1
  have g3 := g0.2.2
  clear hn g0
  go_enter Tryz.func15, Tryz.ntmps15
  go_wp2_with (first | (go_at_call 27; refine (HJ.out _).mono ?_; rintro e w2 ⟨rfl, hb2⟩; have HB2 := Hid.mk hb2; have d1 := HD.out w2 hb2; have g4 := HS.out w2 hb2; have g5 := g4.2.1; clear hb2 g4))
  clear g1 g2 g3 d1 g5
  go_loopw [21] (fun i wr => ∃ q : Nat, q ≤ n ∧ i = .int .i64 q ∧ (L.take q).all (fun n => givB f n || l.any (mkB f n)) = true ∧ Below w1.heap.size w1 wr) (fun i _ => n - (intOf i).toNat)
  case atStart => exact ⟨0, Nat.zero_le _, rfl, rfl, HB2.out⟩
  case round =>
    obtain ⟨q, hq, rfl, hal, hnx⟩ := hrel
    have HA := Hid.mk hal
    clear hal
    by_cases hlt : q < n
    · have hq2 : q < L.length := by have := HN.out; omega
      rcases HI.out with ⟨-, e0⟩ | ⟨nb, no, nc', e0, hcap, hnb, hcell⟩
      · rw [e0] at hq2; exact absurd hq2 (by simp)
      simp only [Value.slice.injEq] at e0
      obtain ⟨rfl, -, rfl⟩ := e0
      have e1 := (hnx.cell (p := ⟨nb, no + q, none⟩) hnb).trans (hcell q hq2)
      obtain ⟨nm, hnm⟩ : ∃ nm, L[q] = nm := ⟨_, rfl⟩
      rw [hnm] at e1
      have HX : Hid (∀ r, (givB f nm || l.any (mkB f nm)) = r → (fun n => givB f n || l.any (mkB f n)) L[q] = r) := Hid.mk (fun r hr => by rw [hnm]; exact hr)
      obtain ⟨w3, hw3⟩ : ∃ x, wr.alloc (.cells #[.string (ba nm)] 9) = x := ⟨_, rfl⟩
      have hb3 : Below w1.heap.size w1 w3 := by rw [← hw3]; exact bel_then hnx (below_box _ _)
      have g0 := HS.out w3 hb3
      have g1 := g0.1
      have g2 := g0.2.1
      have g3 := g0.2.2
      have hN3 : w3.cell? ⟨wr.heap.size, 0, none⟩ = some (.string (ba nm)) := by rw [← hw3]; exact World.cell?_alloc_at _ _ _ _ rfl
      have HN3 := Hid.mk hN3
      have HG3 := Hid.mk (HG.out w3 hb3 nm)
      have HB3 := Hid.mk hb3
      have HM3 : Hid (∀ V, Below w3.heap.size w3 V → Calls Tryz.prog 31 #[.slice va l.length vc, .func (.func 28) #[] #[.pointer (some ⟨w.heap.size, 0, none⟩), .pointer (some ⟨wr.heap.size, 0, none⟩)]] V fun e w' => e = .returned (.bool (l.any (mkB f nm))) ∧ Below V.heap.size V w') := Hid.mk fun V hV => HM.out V (bel_then hb3 hV) nm wr.heap.size (cell_below hN3 hV)
      clear g0 hb3 hcell hnx hnm
      generalize ba nm = x at *
      cases hg : givB f nm with
      | true =>
        rw [hg] at HG3 HX
        have HP := Hid.mk (HX.out true rfl)
        clear hg HX HM3
        go_wp2_with (first | (go_at_call 30; refine HG3.out.mono ?_; rintro e w4 ⟨rfl, hb4⟩; have HB4 := Hid.mk (bel_then HB3.out hb4); clear hb4))
        go_roundw
        case rel => exact ⟨q + 1, by omega, by go_num, all_step hq2 HA.out HP.out, HB4.out⟩
        case measure => simp [intOf]; omega
      | false =>
        rw [hg] at HG3 HX
        cases hm : l.any (mkB f nm) with
        | true =>
          rw [hm] at HM3 HX
          have HP := Hid.mk (HX.out true rfl)
          clear hg hm HX
          go_wp2_with (first | (go_at_call 30; refine HG3.out.mono ?_; rintro e w4 ⟨rfl, hb4⟩; have HM4 := Hid.mk (HM3.out w4 hb4); have HB4 := Hid.mk (bel_then HB3.out hb4); clear hb4) | (go_at_call 31; refine HM4.out.mono ?_; rintro e w5 ⟨rfl, hb5⟩; have HB5 := Hid.mk (bel_then HB4.out hb5); clear hb5))
          go_roundw
          case rel => exact ⟨q + 1, by omega, by go_num, all_step hq2 HA.out HP.out, HB5.out⟩
          case measure => simp [intOf]; omega
        | false =>
          rw [hm] at HM3 HX
          have HP := Hid.mk (HX.out false rfl)
          clear hg hm HX
          go_wp2_with (first | (go_at_call 30; refine HG3.out.mono ?_; rintro e w4 ⟨rfl, hb4⟩; have HM4 := Hid.mk (HM3.out w4 hb4); have HB4 := Hid.mk (bel_then HB3.out hb4); clear hb4) | (go_at_call 31; refine HM4.out.mono ?_; rintro e w5 ⟨rfl, hb5⟩; have HB5 := Hid.mk (bel_then HB4.out hb5); clear hb5))
          go_ret
          exact ⟨ret_bool (by rw [HR.out, all_miss hq2 HP.out]), HF.out.1.trans (HB5.out.mono HF.out.1.size)⟩
    · go_wp2
      go_ret
      exact ⟨ret_bool (by have := HA.out; rw [List.take_of_length_le (by have := HN.out; omega)] at this; rw [HR.out, this]), HF.out.1.trans (hnx.mono HF.out.1.size)⟩
end Go.Proofs.YtoncleppenggaaaGreatDoor.Pl

