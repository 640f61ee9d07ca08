import Derived.Test.YtfifbnopgpffkaaGreatDoorPlnD
import Derived.Deep.MidRow
set_option linter.unusedSimpArgs false
set_option linter.unusedVariables false
namespace Go.Proofs.YtfifbnopgpffkaaGreatDoor.Pl
open Go.RowKit
open Fw (By FJob Flw ba)

/-- An error at a place. -/
def AtV (w : World) (v : Value) (n : Int) : Prop := ∃ p pl, v = .iface 82 (.pointer (some ⟨p, 0, none⟩)) ∧ w.cell? ⟨p, 0, none⟩ = some (.int .i64 n) ∧ w.cell? ⟨p, 1, none⟩ = some (.int .i64 pl)
theorem AtV.below {w w' : World} {v : Value} {n : Int} (h : AtV w v n) (hb : Below w.heap.size w w') : AtV w' v n := by
  obtain ⟨p, pl, h1, h2, h3⟩ := h
  exact ⟨p, pl, h1, (hb.cell (p := ⟨p, 0, none⟩) (World.block_lt_of_cell? w _ h2)).trans h2, (hb.cell (p := ⟨p, 1, none⟩) (World.block_lt_of_cell? w _ h3)).trans h3⟩
set_option maxHeartbeats 400000 in
theorem at_any (n pl : Int) (w : World) : Calls Tryz.prog 24 #[.int .i64 n, .int .i64 pl] w fun e w' => ∃ p, e = .returned (.iface 82 (.pointer (some ⟨p, 0, none⟩))) ∧ AtV w' (.iface 82 (.pointer (some ⟨p, 0, none⟩))) n ∧ Below w.heap.size w w' := by
  go_enter Tryz.func24, Tryz.ntmps24
  go_wp2
  go_ret
  exact ⟨_, rfl, ⟨_, pl, rfl, World.cell?_alloc_at _ _ _ _ rfl, World.cell?_alloc_at _ _ _ _ rfl⟩, below_box _ _⟩
theorem ba_eq (a b : By) : ((ba a).toList == (ba b).toList) = (a == b) := by
  rw [ByteArray.toList_eq, ByteArray.toList_eq]
theorem row_slice {w : World} {v : Value} {n z : Nat} {P : Nat → World → Nat → Nat → Prop} (h : Fw.RowR w v n z P) : ∃ a c, v = .slice a n c := by
  rcases h with ⟨rfl, rfl⟩ | ⟨b, c, rfl, -⟩
  · exact ⟨_, _, rfl⟩
  · exact ⟨_, _, rfl⟩
set_option maxHeartbeats 400000 in
theorem isJob_any (vi vo : Value) (ja : Option Addr) (n c k : Nat) (w : World) (hk : k < n) : Calls Tryz.prog 27 #[.agg #[vi, .slice ja n c, vo], .int .i64 (k : Nat)] w fun e w' => e = .returned (.bool true) ∧ Below w.heap.size w w' := by
  have h1 : decide ((0 : Int) ≤ (k : Int)) = true := by simp
  have h2 : decide ((k : Int) < (n : Int)) = true := by simp; omega
  go_enter Tryz.func27, Tryz.ntmps27
  go_wp2
  go_ret
  exact ⟨rfl, below_box _ _⟩
/-- What was found. -/
def foundI (r : Int) (b : Bool) : Prop := -1 ≤ r ∧ r ≤ 1000 ∧ (decide (0 ≤ r)) = b
theorem any_step {α : Type} {p : α → Bool} {l : List α} {k : Nat} (h : k < l.length) (ht : (l.take k).any p = false) (hp : p l[k] = false) : (l.take (k + 1)).any p = false := by
  rw [List.take_succ_eq_append_getElem h, List.any_append, ht]; simp [hp]
theorem any_hit {α : Type} {p : α → Bool} {l : List α} {k : Nat} (h : k < l.length) (hp : p l[k] = true) : l.any p = true := by
  rw [List.any_eq_true]; exact ⟨_, List.getElem_mem h, hp⟩
set_option maxHeartbeats 400000 in
theorem given1_any (at_ : Int) (x y : ByteArray) (vc : Value) (C : Nat) (r : Bool) (w : World) (hC : w.cell? ⟨C, 0, none⟩ = some (.string y)) (hr : (x.toList == y.toList) = r) : Calls Tryz.prog 47 #[.agg #[.int .i64 at_, .string x, vc], .pointer (some ⟨C, 0, none⟩)] w fun e w' => e = .returned (.bool r) ∧ Below w.heap.size w w' := by
  have hl := World.block_lt_of_cell? w _ hC
  have hC2 : (w.alloc (.cells #[.int .i64 at_, .string x, vc] 57)).cell? ⟨C, 0, none⟩ = some (.string y) := by rw [World.cell?_alloc_lt _ _ ⟨C, 0, none⟩ hl]; exact hC
  clear hC
  go_enter Tryz.func47, Tryz.ntmps47
  go_wp2
  go_ret
  exact ⟨rfl, below_box _ _⟩
set_option maxRecDepth 100000 in
set_option maxHeartbeats 800000 in
theorem idx_given (vi : Value) (l : List Fw.FIn) (nm : By) (C : Nat) (w : World) (h : Fw.RowR w vi l.length 3 (Fw.InAt l)) (h16 : l.length ≤ 100) (hC : w.cell? ⟨C, 0, none⟩ = some (.string (ba nm))) :
    Calls Tryz.prog 51 #[vi, .func (.func 47) #[] #[.pointer (some ⟨C, 0, none⟩)]] w fun e w' => ∃ r : Int, e = .returned (.int .i64 r) ∧ foundI r (l.any fun i => i.name == nm) ∧ Below w.heap.size w w' := by
  obtain ⟨ia, ic, rfl⟩ := row_slice h
  obtain ⟨n, hn⟩ : ∃ n, l.length = n := ⟨_, rfl⟩
  have HN := Hid.mk hn
  have HR := Hid.mk h
  have HC := Hid.mk hC
  rw [hn] at h16 ⊢
  clear hn h hC
  go_enter Tryz.func51, Tryz.ntmps51
  go_wp2
  go_loopw [8] (fun i wr => ∃ k : Nat, k ≤ n ∧ i = .int .i64 k ∧ (l.take k).any (fun i => i.name == nm) = false ∧ Below w.heap.size w wr) (fun i _ => n - (intOf i).toNat)
  case atStart => exact ⟨0, Nat.zero_le _, rfl, rfl, Below.refl _ _⟩
  case round =>
    obtain ⟨k, hk, rfl, hal, hnx⟩ := hrel
    have HA := Hid.mk hal
    clear hal
    by_cases hlt : k < n
    · have hk2 : k < l.length := by have := HN.out; omega
      rcases HR.out with ⟨-, e0⟩ | ⟨b, c', e0, hcap, hb, hcell⟩
      · rw [e0] at hk2; exact absurd hk2 (by simp)
      simp only [Value.slice.injEq] at e0
      obtain ⟨rfl, -, rfl⟩ := e0
      obtain ⟨a, v, ha, d0, d1, d2, -⟩ := hcell k hk2
      have e0 := (hnx.cell (p := ⟨b, k * 3, none⟩) hb).trans d0
      have e1 := (hnx.cell (p := ⟨b, k * 3 + 1, none⟩) hb).trans d1
      have e2 := (hnx.cell (p := ⟨b, k * 3 + 2, none⟩) hb).trans d2
      obtain ⟨_, ha2⟩ := List.getElem?_eq_some_iff.1 ha
      have hl := World.block_lt_of_cell? w _ HC.out
      have HQ := Hid.mk (given1_any (a.at_ : Nat) (ba a.name) (ba nm) v C (a.name == nm) wr ((hnx.cell (p := ⟨C, 0, none⟩) hl).trans HC.out) (ba_eq _ _))
      have HX : Hid (∀ p, (a.name == nm) = p → (fun i : Fw.FIn => i.name == nm) l[k] = p) := Hid.mk (fun p hp => by rw [ha2]; exact hp)
      generalize ba a.name = x at *
      have HNX := Hid.mk hnx
      clear hnx hcell d0 d1 d2 ha ha2
      cases hp : (a.name == nm)
      all_goals have HP := Hid.mk (HX.out _ hp)
      all_goals rw [hp] at HQ
      all_goals clear hp HX
      · go_wp2_with (go_at_call 47; refine HQ.out.mono ?_; rintro e w2 ⟨rfl, hb2⟩; have HB2 := Hid.mk (HNX.out.trans (hb2.mono HNX.out.size)); clear hb2)
        go_roundw
        case rel => exact ⟨k + 1, by omega, by go_num, any_step hk2 HA.out HP.out, HB2.out⟩
        case measure => simp [intOf]; omega
      · go_wp2_with (go_at_call 47; refine HQ.out.mono ?_; rintro e w2 ⟨rfl, hb2⟩; have HB2 := Hid.mk (HNX.out.trans (hb2.mono HNX.out.size)); clear hb2)
        go_ret
        exact ⟨k, rfl, ⟨by omega, by omega, by rw [any_hit hk2 HP.out]; simp⟩, HB2.out⟩
    · go_wp2
      go_ret
      exact ⟨-1, rfl, ⟨by omega, by omega, by have := HA.out; rw [List.take_of_length_le (by have := HN.out; omega)] at this; rw [this]; rfl⟩, hnx⟩
set_option maxHeartbeats 800000 in
theorem has_given (vi : Value) (l : List Fw.FIn) (nm : By) (C : Nat) (w : World) (h : Fw.RowR w vi l.length 3 (Fw.InAt l)) (h16 : l.length ≤ 100) (hC : w.cell? ⟨C, 0, none⟩ = some (.string (ba nm))) :
    Calls Tryz.prog 33 #[vi, .func (.func 47) #[] #[.pointer (some ⟨C, 0, none⟩)]] w fun e w' => e = .returned (.bool (l.any fun i => i.name == nm)) ∧ Below w.heap.size w w' := by
  have HQ := Hid.mk (idx_given vi l nm C w h h16 hC)
  clear h hC
  go_enter Tryz.func33, Tryz.ntmps33
  go_wp2_with (go_at_call 51; refine HQ.out.mono ?_; rintro e w2 ⟨r, rfl, hf, hb2⟩)
  go_ret
  exact ⟨ret_bool hf.2.2, hb2⟩
set_option maxHeartbeats 800000 in
theorem given_any (f : Flw) (vi vj vo : Value) (nm : By) (w : World) (h : Fw.FlowRd w f vi vj vo) (h16 : f.ins.length ≤ 16) :
    Calls Tryz.prog 30 #[.agg #[vi, vj, vo], .string (ba nm)] w fun e w' => e = .returned (.bool (givB f nm)) ∧ Below w.heap.size w w' := by
  obtain ⟨w2, hw2⟩ : ∃ x, x = (w.alloc (.cells #[vi, vj, vo] 27)).alloc (.cells #[.string (ba nm)] 9) := ⟨_, rfl⟩
  have hb2 : Below w.heap.size w w2 := by rw [hw2]; exact (below_box _ _).alloc (by simp) _
  have hI := has_given vi f.ins nm (w.heap.size + 1) w2 ((h.below hb2).ins) (by omega) (by rw [hw2]; exact World.cell?_alloc_at _ _ _ _ (by simp))
  have hmf : ∀ (fn : Fn) (first cap : Array Value) (w : World), (Instr.makeFunc fn first cap).run Tryz.prog w = .ok (.func fn first cap) w := fun _ _ _ _ => rfl
  rw [hw2] at hI
  have HI := Hid.mk hI
  rw [hw2] at hb2
  have HB := Hid.mk hb2
  have HG : Hid ((f.ins.any fun i => i.name == nm) = givB f nm) := Hid.mk rfl
  obtain ⟨ia, ic, rfl⟩ := row_slice h.ins
  generalize ba nm = x at *
  clear hI hb2 h hw2
  go_enter Tryz.func30, Tryz.ntmps30
  go_wp2_with (first | (go_at_call 33; refine HI.out.mono ?_; rintro e w3 ⟨rfl, hb3⟩))
  go_ret
  exact ⟨by rw [HG.out]; rfl, bel_then HB.out hb3⟩
/-- A job in a flow. -/
theorem job_at {w : World} {f : Flw} {vi vj vo : Value} (h : Fw.FlowRd w f vi vj vo) {k : Nat} (hk : k < f.jobs.length) : ∃ b c, vj = .slice (some ⟨b, 0, none⟩) f.jobs.length c ∧ f.jobs.length ≤ c ∧ b < w.heap.size ∧ ∃ ao ai ac, w.rangeAt b (k * 15) (Fw.jobV f.jobs[k] ao ai ac) ∧ Fw.StrsR w ao f.jobs[k].outs ∧ Fw.StrsR w ai f.jobs[k].ins ∧ Fw.StrsR w ac f.jobs[k].cols := by
  rcases h.jobs with ⟨-, e⟩ | ⟨b, c, e, hc, hb, hx⟩
  · rw [e] at hk; exact absurd hk (by simp)
  · obtain ⟨a, ao, ai, ac, ha, h1, h2, h3, h4⟩ := hx k hk
    obtain ⟨_, ha2⟩ := List.getElem?_eq_some_iff.1 ha
    subst ha2
    exact ⟨b, c, e, hc, hb, ao, ai, ac, h1, h2, h3, h4⟩
theorem inS_ba (l : List By) (n : By) : inS (l.map ba) n = l.contains n := by
  unfold inS
  rw [List.any_map, List.contains_eq_any_beq]
  congr 1
  funext x
  show ((ba x).data.toList == n) = (n == x)
  rw [Bool.eq_iff_iff, beq_iff_eq, beq_iff_eq]
  exact ⟨fun h => h.symm, fun h => h.symm⟩
set_option maxHeartbeats 800000 in
theorem idx_strs {w : World} {v : Value} {l : List By} (h : Fw.StrsR w v l) (hl : l.length ≤ 100000) (x : ByteArray) :
    Calls Tryz.prog 46 #[v, .string x] w fun e w' => (∃ i : Int, e = .returned (.int .i64 i) ∧ (0 ≤ i ↔ inS (l.map ba) x.data.toList = true) ∧ -1 ≤ i) ∧ w' = w := by
  obtain ⟨va, vc, rfl⟩ := strs_slice h
  obtain ⟨n, hn⟩ : ∃ n, l.length = n := ⟨_, rfl⟩
  have HN := Hid.mk hn
  have HS := Hid.mk h
  rw [hn] at hl ⊢
  clear hn h
  go_enter Tryz.func46, Tryz.ntmps46
  go_wp2
  go_loop [8] (fun i => ∃ k : Nat, k ≤ n ∧ i = .int .i64 k ∧ ((l.map ba).take k).any (fun s => s.data.toList == x.data.toList) = false) (fun i => n - (intOf i).toNat)
  case atStart => exact ⟨0, Nat.zero_le _, rfl, rfl⟩
  case round =>
    obtain ⟨k, hk, rfl, hal⟩ := hrel
    have HA := Hid.mk hal
    clear hal
    by_cases hlt : k < n
    · have hk2 : k < l.length := by have := HN.out; omega
      have hk3 : k < (l.map ba).length := by rw [List.length_map]; exact hk2
      rcases HS.out with ⟨-, e0⟩ | ⟨b, o, c, e0, hcap, hb, hx⟩
      · rw [e0] at hk2; exact absurd hk2 (by simp)
      simp only [Value.slice.injEq] at e0
      obtain ⟨rfl, -, rfl⟩ := e0
      have d1 := hx k hk2
      have HX : Hid (∀ q, (x.toList == (ba l[k]).toList) = q → (fun s : ByteArray => s.data.toList == x.data.toList) (l.map ba)[k] = q) := Hid.mk (fun q hq => by
        rw [List.getElem_map, ← hq, ByteArray.toList_eq, ByteArray.toList_eq, Bool.eq_iff_iff, beq_iff_eq, beq_iff_eq]
        exact ⟨fun z => z.symm, fun z => z.symm⟩)
      obtain ⟨y, hy⟩ : ∃ y, Fw.ba l[k] = y := ⟨_, rfl⟩
      rw [show ba l[k] = y from hy] at HX
      rw [hy] at d1
      clear hy hx
      cases hp : (x.toList == y.toList)
      · have HP := Hid.mk (HX.out _ hp)
        clear HX
        go_wp2
        go_round
        case rel => exact ⟨k + 1, by omega, by go_num, any_step hk3 HA.out HP.out⟩
        case measure => simp [intOf]; omega
      · have HP := Hid.mk (HX.out _ hp)
        clear HX
        go_wp2
        go_ret
        exact ⟨⟨(k : Int), rfl, ⟨fun _ => any_hit hk3 HP.out, fun _ => by omega⟩, by omega⟩, rfl⟩
    · go_wp2
      go_ret
      refine ⟨⟨-1, rfl, ⟨fun h => absurd h (by omega), fun h => ?_⟩, by omega⟩, rfl⟩
      have := HA.out
      rw [List.take_of_length_le (by rw [List.length_map]; have := HN.out; omega)] at this
      exact absurd (this.symm.trans h) (by decide)
set_option maxHeartbeats 800000 in
theorem has_strs {w : World} {v : Value} {l : List By} (h : Fw.StrsR w v l) (hl : l.length ≤ 100000) (n : By) : Calls Tryz.prog 29 #[v, .string (ba n)] w fun e w' => e = .returned (.bool (l.contains n)) ∧ w' = w := by
  have HI := Hid.mk (idx_strs h hl (ba n))
  rw [← inS_ba]
  obtain ⟨r, hr⟩ : ∃ r, inS (l.map ba) n = r := ⟨_, rfl⟩
  rw [show inS (l.map ba) (ba n).data.toList = r from hr] at HI
  rw [hr]
  generalize ba n = x at *
  clear h hr
  go_enter Tryz.func29, Tryz.ntmps29
  go_wp2_with (go_at_call 46; refine HI.out.mono ?_; rintro e w1 ⟨⟨i, rfl, hi1, hi2⟩, rfl⟩)
  all_goals go_ret
  all_goals refine ⟨ret_bool ?_, rfl⟩
  all_goals
    rw [Bool.eq_iff_iff, ← hi1]
    try simp
end Go.Proofs.YtfifbnopgpffkaaGreatDoor.Pl
