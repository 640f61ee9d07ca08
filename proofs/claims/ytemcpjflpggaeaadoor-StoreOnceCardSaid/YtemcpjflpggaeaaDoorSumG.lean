import Derived.Test.YtemcpjflpggaeaaDoorSumF
set_option linter.unusedSimpArgs false
set_option linter.unusedVariables false
namespace Go.Proofs.YtemcpjflpggaeaaDoor
open Go.RowKit

theorem extract_list (s : ByteArray) (a b : Nat) : (s.extract a b).data.toList = (s.data.toList.drop a).take (b - a) := by
  simp [ByteArray.data_extract, List.extract_eq_take_drop]
theorem Row.eight {w : World} {b : Nat} {s : St} (h : Row w b (cellsU s.list)) :
    (w.cell? ⟨b, 0, none⟩ = some (.int .u32 (U s.a)) ∧ w.cell? ⟨b, 1, none⟩ = some (.int .u32 (U s.b)) ∧ w.cell? ⟨b, 2, none⟩ = some (.int .u32 (U s.c)) ∧ w.cell? ⟨b, 3, none⟩ = some (.int .u32 (U s.d)) ∧ w.cell? ⟨b, 4, none⟩ = some (.int .u32 (U s.e)) ∧ w.cell? ⟨b, 5, none⟩ = some (.int .u32 (U s.f)) ∧ w.cell? ⟨b, 6, none⟩ = some (.int .u32 (U s.g)) ∧ w.cell? ⟨b, 7, none⟩ = some (.int .u32 (U s.h))) ∧
    (w.frozen? ⟨b, 0, none⟩ = false ∧ w.frozen? ⟨b, 1, none⟩ = false ∧ w.frozen? ⟨b, 2, none⟩ = false ∧ w.frozen? ⟨b, 3, none⟩ = false ∧ w.frozen? ⟨b, 4, none⟩ = false ∧ w.frozen? ⟨b, 5, none⟩ = false ∧ w.frozen? ⟨b, 6, none⟩ = false ∧ w.frozen? ⟨b, 7, none⟩ = false) :=
  ⟨⟨(h 0 _ rfl).1, (h 1 _ rfl).1, (h 2 _ rfl).1, (h 3 _ rfl).1, (h 4 _ rfl).1, (h 5 _ rfl).1, (h 6 _ rfl).1, (h 7 _ rfl).1⟩, ⟨(h 0 _ rfl).2, (h 1 _ rfl).2, (h 2 _ rfl).2, (h 3 _ rfl).2, (h 4 _ rfl).2, (h 5 _ rfl).2, (h 6 _ rfl).2, (h 7 _ rfl).2⟩⟩

set_option maxRecDepth 100000 in
set_option maxHeartbeats 1600000 in
theorem mixAll_any (st : St) (s : ByteArray) (n : Nat) (w : World) (hs : s.size = 64 * n) (hn : n ≤ 1000) (hE : EnvK w) :
    Calls Tryd.prog 59 #[.agg (stA st), .string s] w fun e w' => e = .returned (.agg (stA (mixN st s.data.toList n))) ∧ Below w.heap.size w w' := by
  have HE := Hid.mk hE
  have hq : (s.size : Int).tdiv 64 = n := by rw [Int.tdiv_eq_ediv_of_nonneg (by omega)]; omega
  have hz : (s.size : Int) ≤ 64000 := by omega
  have HS := Hid.mk hs
  obtain ⟨res, hres⟩ : ∃ x, stA (mixN st s.data.toList n) = x := ⟨_, rfl⟩
  rw [hres]
  have HRES := Hid.mk hres
  clear hE hs hres
  rw [stA]
  go_enter Tryd.func59, Tryd.ntmps59
  go_wp2
  go_loopw [9] (fun i wr => ∃ k : Nat, k ≤ n ∧ i = .int .i64 k ∧ Row wr w.heap.size (cellsU (mixN st s.data.toList k).list) ∧ Row wr (w.heap.size + 1) (cellsU zero8.list) ∧ Below w.heap.size w wr) (fun i _ => n - (intOf i).toNat)
  case atStart => exact ⟨0, by omega, rfl, (Row.new' _ _ _ _ _ rfl rfl).alloc _, Row.new' _ _ _ _ _ (by simp) rfl, ((Below.refl _ _).alloc (Nat.le_refl _) _).alloc (by simp) _⟩
  case round =>
    obtain ⟨k, hk, rfl, R0, R1, hb⟩ := hrel
    obtain ⟨q, hq⟩ : ∃ x, mixN st s.data.toList k = x := ⟨_, rfl⟩
    rw [hq] at R0
    by_cases hlt : k < n
    · obtain ⟨⟨c0, c1, c2, c3, c4, c5, c6, c7⟩, -⟩ := R0.eight
      have hs := HS.out
      have e1 : (k : Int) * 64 ≤ ((k : Int) + 1) * 64 := by omega
      have e2 : ((k : Int) + 1) * 64 ≤ (s.size : Int) := by omega
      have e3 : 0 ≤ (k : Int) * 64 := by omega
      have e4 : 0 ≤ ((k : Int) + 1) * 64 := by omega
      have n1 : ((k : Int) * 64).toNat = 64 * k := by omega
      have n2 : (((k : Int) + 1) * 64).toNat = 64 * k + 64 := by omega
      have w0 : IntKind.i64.wrap ((k : Int) + 1) = (k : Int) + 1 := by rw [IntKind.wrap_i64]; omega
      have w1 : IntKind.i64.wrap ((k : Int) * 64) = (k : Int) * 64 := by rw [IntKind.wrap_i64]; omega
      have w2 : IntKind.i64.wrap (((k : Int) + 1) * 64) = ((k : Int) + 1) * 64 := by rw [IntKind.wrap_i64]; omega
      have hmx : ∀ w5, Below wr.heap.size wr w5 → Calls Tryd.prog 75 #[.agg #[.int .u32 (U q.a), .int .u32 (U q.b), .int .u32 (U q.c), .int .u32 (U q.d), .int .u32 (U q.e), .int .u32 (U q.f), .int .u32 (U q.g), .int .u32 (U q.h)], .string (s.extract (64 * k) (64 * k + 64))] w5 fun e w' => ∃ q' : St, e = .returned (.agg #[.int .u32 (U q'.a), .int .u32 (U q'.b), .int .u32 (U q'.c), .int .u32 (U q'.d), .int .u32 (U q'.e), .int .u32 (U q'.f), .int .u32 (U q'.g), .int .u32 (U q'.h)]) ∧ q' = mixN st s.data.toList (k + 1) ∧ Below w5.heap.size w5 w' := fun w5 h5 => by
        refine (mix_any q (s.extract (64 * k) (64 * k + 64)) w5 (by simp; omega) ((HE.out.below hb).below h5)).mono ?_
        rintro e w' ⟨rfl, hb'⟩
        refine ⟨_, rfl, ?_, hb'⟩
        rw [mixN, hq, extract_list, Nat.add_sub_cancel_left]
      have HMX := Hid.mk hmx
      have HR := Hid.mk (And.intro R0 R1)
      clear hmx R0 R1 hs
      go_wp2
      go_region_with (go_at_call 75; refine (HMX.out _ ((Below.refl _ _).drew)).mono ?_; rintro e w5 ⟨q', rfl, hq', hb5⟩; obtain ⟨⟨d0, d1, d2, d3, d4, d5, d6, d7⟩, ⟨f0, f1, f2, f3, f4, f5, f6, f7⟩⟩ := (Row.below (HR.out.1.drew) hb5 (HR.out.1.lt (show 0 < 8 by decide))).eight)
      all_goals
        have hbw : Below w.heap.size w w5 := bel_then (hb.drew) hb5
        have RR := Row.below (HR.out.1.drew) hb5 (HR.out.1.lt (show 0 < 8 by decide))
        have RS := Row.below (HR.out.2.drew) hb5 (HR.out.2.lt (show 0 < 8 by decide))
        have HRR := Hid.mk (And.intro RR RS)
        clear RR RS d0 d1 d2 d3 d4 d5 d6 d7 f0 f1 f2 f3 f4 f5 f6 f7 c0 c1 c2 c3 c4 c5 c6 c7 hb5
        go_wp2
        go_roundw
        case rel =>
          refine ⟨k + 1, by omega, by go_num, Row.to ((((((((HRR.out.1.set 0 _).set 1 _).set 2 _).set 3 _).set 4 _).set 5 _).set 6 _).set 7 _) (by rw [← hq']; rfl), ((((((((HRR.out.2.other _ _ _ (by omega)).other _ _ _ (by omega)).other _ _ _ (by omega)).other _ _ _ (by omega)).other _ _ _ (by omega)).other _ _ _ (by omega)).other _ _ _ (by omega)).other _ _ _ (by omega)), ((((((((hbw.setCell (Nat.le_refl _) _).setCell (Nat.le_refl _) _).setCell (Nat.le_refl _) _).setCell (Nat.le_refl _) _).setCell (Nat.le_refl _) _).setCell (Nat.le_refl _) _).setCell (Nat.le_refl _) _).setCell (Nat.le_refl _) _)⟩
        case measure => simp [intOf]; omega
    · have hke : k = n := by omega
      rw [hke] at hq
      clear hke
      rw [← stA_list, ← hq, HRES.out] at R0
      have hlen : res.toList.length = 8 := by rw [← HRES.out]; rfl
      have hone : res.all (·.oneCell') = true := by rw [← HRES.out]; exact stA_one _
      have hi : (Tryd.prog.info? 97).map (·.size) = some res.toList.length := by rw [hlen]; exact info8
      have hth : wr.there (w.heap.size + 1) 0 res.toList.length := by rw [hlen]; exact R1.there
      have hld := run_loadVar_mid (P := Tryd.prog) (wr.setCells (w.heap.size + 1) 0 res.toList) (w.heap.size + 1) 0 97 res.toList _ (World.rangeAt_setCells_same _ _ _ _ hth) Tryd.underlying97 rfl hi
      have HLD := Hid.mk hld
      have HI := Hid.mk hi
      have HT := Hid.mk hth
      have HR2 := Hid.mk R0
      have HO := Hid.mk hone
      clear hld hi hth R0 R1 hlen hone hq
      go_wp2_with (first
        | (refine wpList_load_mid rfl 97 (.tmp 2) rfl w.heap.size 0 rfl res.toList _ HR2.out.range Tryd.underlying97 rfl HI.out ?_)
        | (refine wpList_store_mid rfl 97 (.tmp 4) (.tmp 22) rfl (w.heap.size + 1) 0 res rfl rfl (by simpa using HT.out) (by simpa using HI.out) HO.out ?_))
      (try simp only [Exit.inBlock, Exit.then])
      refine bodyPost_ret (v := .agg res) ?_ rfl ⟨rfl, Below.setCells (Nat.le_succ _) _ _ hb⟩
      exact results_cell1 rfl _ _ _ rfl HLD.out
end Go.Proofs.YtemcpjflpggaeaaDoor
