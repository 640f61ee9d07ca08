import Derived.Test.YtemcpjflpggaeaaDoorStoK
set_option linter.unusedSimpArgs false
set_option linter.unusedVariables false
namespace Go.Proofs.YtemcpjflpggaeaaDoor.Dk
open Go.RowKit Go.Maps

set_option maxHeartbeats 400000 in
theorem sclone_any (s : ByteArray) (w : World) (hs : s.size ≤ 1000000) : Calls Tryd.prog 52 #[.string s] w fun e w' => e = .returned (.string s) ∧ Below w.heap.size w w' := by
  have HC := hid (Tryd.stringslite_Clone s w (by omega))
  go_enter Tryd.func52, Tryd.ntmps52
  go_wp2_with (first | (go_at_call 72; refine HC.out.mono ?_; rintro e1 w1 ⟨rfl, hb1⟩))
  go_ret
  exact ⟨rfl, hb1⟩
/-- What a Put comes to. -/
inductive PutR (w w' : World) (X D S M n B : Nat) (vw kv : Value) (d : St) (ts : List Bs) (e : Nat) (t : Bs) : Value → Prop
  | there (h : sumL t ∈ ts.map sumL) (b : Below w.heap.size w w') : PutR w w' X D S M n B vw kv d ts e t (.tuple #[.string (tx (sumL t)), .nilIface])
  | put (h : sumL t ∉ ts.map sumL) (kv' : Value) (m : Mem w' X D M (n + 1) B kv' (ts ++ [t]) (e + nsec t) true) (a : At w' D S (.slice none 0 0) ((wrN d t e (nsec t)).burnt.settled allK)) (k : Keep (memB X M kv ++ blocks D S vw) w w') (v : kv'.ownBlock = kv.ownBlock ∨ ∃ g, kv'.ownBlock = some g ∧ w.heap.size ≤ g) : PutR w w' X D S M n B vw kv d ts e t (.tuple #[.string (tx (sumL t)), .nilIface])
  | dead (h : sumL t ∉ ts.map sumL) (vw' : Value) (j : Nat) (hj : j ≤ nsec t) (hd : (wrN d t e j).live = false) (a : At w' D S vw' (wrN d t e j).burnt) (k : Keep (blocks D S vw) w w') (v : ∀ b ∈ blocks D S vw', b ∈ blocks D S vw ∨ w.heap.size ≤ b) : PutR w w' X D S M n B vw kv d ts e t (.tuple #[.string ⟨#[]⟩, .iface 52 (.int .i64 14)])
set_option maxRecDepth 100000 in
set_option maxHeartbeats 4000000 in
theorem put_any {X M n : Nat} {kv : Value} {ts : List Bs} {w : World} {D B e : Nat} (h : Mem w X D M n B kv ts e true) {S : Nat} {vw : Value} {d : St} (ha : At w D S vw d) (hE : EnvK w) (hMD : ∀ b ∈ memB X M kv, b ∉ blocks D S vw) (hB : B ≤ w.heap.size) (t : Bs) (ht : t.length ≤ 300) (hroom : e + nsec t ≤ d.sure.length) (hsz : d.sure.length ≤ 600) (hws : d.ws.length ≤ 100) (hn : n < 1000) (hl : ts.length ≤ 1000) :
    Calls Tryd.prog 24 #[.pointer (some ⟨X, 0, none⟩), .string (tx t)] w fun e1 w' => ∃ v, e1 = .returned v ∧ PutR w w' X D S M n B vw kv d ts e t v := by
  have hts := tx_sz t
  have HSU := hid (sum_any (tx t) w (by rw [hts]; omega) hE)
  rw [tx_list] at HSU
  have HCL := hid (fun V => sclone_any (tx t) V (by rw [hts]; omega))
  have HM := hid h
  have HA := hid ha
  obtain ⟨kx, hkx⟩ : ∃ kx, tx (sumL t) = kx := ⟨_, rfl⟩
  obtain ⟨tt, htt⟩ : ∃ tt, tx t = tt := ⟨_, rfl⟩
  have HKX := hid hkx
  have HTT := hid htt
  have hkx2 : (⟨(sumL t).toArray⟩ : ByteArray) = kx := hkx
  rw [htt] at hts HSU HCL ⊢
  rw [hkx2] at HSU
  have hns := nsec_le ht
  obtain ⟨ns, hnse⟩ : ∃ ns, nsec t = ns := ⟨_, rfl⟩
  have HNS := hid hnse
  have hsI : ¬ (t.length : Int) > 8000 := by omega
  have HB0 : Hid (Below w.heap.size w w) := hid (Below.refl _ _)
  clear hkx htt hkx2 hnse
  go_enter Tryd.func24, Tryd.ntmps24
  go_wp2_with (first | (go_at_call 28; refine HSU.out.mono ?_; rintro e1 w1 ⟨rfl, hb1⟩; have HB1 := hid hb1; clear hb1) | (go_at_call 52; refine (HCL.out _).mono ?_; rintro e2 w2 ⟨rfl, hb2⟩; have HB2 := hid (HB1.out.trans (hb2.mono HB1.out.size)); clear hb2) | (go_at_call 51; fail))
  obtain ⟨w3, hw3⟩ : ∃ w3, w2.alloc (.cells #[.string kx, .string tt] 92) = w3 := ⟨_, rfl⟩
  rw [hw3]
  have hb3 : Below w.heap.size w w3 := by rw [← hw3]; exact HB2.out.alloc HB2.out.size _
  have X3 : Blk w3 w2.heap.size [.string kx, .string tt] := by rw [← hw3]; exact Blk.new w2 _ _ _ rfl
  have HB3 := hid hb3
  have HX3 := hid X3
  have M3 := h.below hb3
  have HH := hid (has_any2 (k := sumL t) M3 (by rw [sumL_len]; decide))
  rw [HKX.out] at HH
  have z0 := X3.cell 0 rfl
  have z1 := X3.cell 1 rfl
  refine (settle_sure M3).mono ?_
  rintro e3 w3' ⟨rfl, rfl⟩
  clear hb3 X3 M3
  by_cases hin : sumL t ∈ ts.map sumL
  · rw [show decide (sumL t ∈ ts.map sumL) = true by simpa using hin] at HH
    have HIN := hid hin
    clear hin
    go_wp2_with (first | (go_at_call 53; refine HH.out.mono ?_; rintro e4 w4 ⟨rfl, hb4⟩; have HB4 := hid (HB3.out.trans (hb4.mono HB3.out.size)); have X4 := HX3.out.below hb4; have y0 := X4.cell 0 rfl; clear X4 hb4))
    refine bodyPost_ret (v := .tuple #[.string kx, .nilIface]) (by simp [results, Tryd.results24, go_sem]) rfl ?_
    rw [← HKX.out]
    exact ⟨_, rfl, .there HIN.out HB4.out⟩
  · rw [show decide (sumL t ∈ ts.map sumL) = false by simpa using hin] at HH
    have HIN := hid hin
    clear hin
    go_wp2_with (first | (go_at_call 53; refine HH.out.mono ?_; rintro e4 w4 ⟨rfl, hb4⟩; have HB4 := hid (HB3.out.trans (hb4.mono HB3.out.size)); have HX4 := hid (HX3.out.below hb4); clear hb4))
    have M4 := h.below HB4.out
    have A4 := ha.below HB4.out
    have HM4 := hid M4
    have HA4 := hid A4
    have hsec : ∀ V : World, Calls Tryd.prog 54 #[.agg #[.string kx, .string tt]] V fun e w' => e = .returned (.int .i64 (ns : Nat)) ∧ Below V.heap.size V w' := fun V => by
      have := sectors_any t V ht
      unfold recV at this
      rwa [HKX.out, HTT.out, HNS.out] at this
    have HSEC := hid hsec
    have HSIZ := hid (fun (V : World) (hV : At V D S vw d) => size_any D S vw d V hV)
    have HCE : Hid (∀ V : World, Below w4.heap.size w4 V → V.cell? ⟨X, 3, none⟩ = some (.int .i64 (e : Int)) ∧ V.cell? ⟨X, 0, none⟩ = some (.pointer (some ⟨D, 0, none⟩)) ∧ V.cell? ⟨w2.heap.size, 0, none⟩ = some (.string kx) ∧ V.cell? ⟨w2.heap.size, 1, none⟩ = some (.string tt)) := hid (fun V hV => ⟨(HM4.out.head.below hV).cell 3 rfl, (HM4.out.head.below hV).cell 0 rfl, (HX4.out.below hV).cell 0 rfl, (HX4.out.below hV).cell 1 rfl⟩)
    have G4 := hid (HCE.out w4.drew (Below.refl _ w4).drew)
    have hwr : IntKind.i64.wrap ((e : Int) + (ns : Int)) = (e : Int) + (ns : Int) := by
      rw [show (e : Int) + (ns : Int) = ((e + ns : Nat) : Int) by omega]
      exact wrap_nat _ (by have := HNS.out; omega)
    have hle : ¬ (e : Int) + (ns : Int) > (d.sure.length : Int) := by have := HNS.out; omega
    clear M4 A4 hsec
    go_region_held3 (fun V => V.cell? ⟨X, 3, none⟩ = some (.int .i64 (e : Int)) ∧ V.cell? ⟨X, 0, none⟩ = some (.pointer (some ⟨D, 0, none⟩)) ∧ V.cell? ⟨w2.heap.size, 0, none⟩ = some (.string kx) ∧ V.cell? ⟨w2.heap.size, 1, none⟩ = some (.string tt)) (first | exact G4.out | exact G5.out) (first | (go_at_call 54; refine (HSEC.out _).mono ?_; rintro e5 w5 ⟨rfl, hb5⟩; have HB5 := hid (show Below w4.heap.size w4 w5 from (Below.refl _ w4).drew.trans hb5); have G5 := hid (HCE.out w5 HB5.out); clear hb5) | (go_at_call 55; refine (HSIZ.out _ (HA4.out.below HB5.out)).mono ?_; rintro e6 w6 ⟨rfl, rfl⟩))
    have hle2 : ¬ (d.sure.length : Int) < (e : Int) + (ns : Int) := by omega
    obtain ⟨-, -, y0, y1⟩ := G5.out
    have HB6 := hid (HB4.out.trans (HB5.out.mono HB4.out.size))
    have hXD : X ∉ blocks D S vw := hMD X (by simp [memB])
    have HWR := hid (write_any2 (h.below HB6.out) (ha.below HB6.out) hXD t ht hroom hsz hws)
    unfold recV at HWR
    rw [HKX.out, HTT.out] at HWR
    have hlt : ∀ b ∈ memB X M kv, b < w.heap.size := h.mem_lt
    have HR2 : Hid (w.heap.size ≤ w2.heap.size) := hid HB2.out.size
    have HNR : Hid (w2.heap.size ∉ blocks D S vw) := hid (fun hq => absurd (ha.blocks_lt _ hq) (Nat.not_lt.2 HB2.out.size))
    have HNM : Hid (w2.heap.size ∉ memB X M kv) := hid (fun hq => absurd (hlt _ hq) (Nat.not_lt.2 HB2.out.size))
    have HX6 := hid (HX4.out.below HB5.out)
    clear hlt
    go_wp2_with (first | (go_at_call 56; fail))
    refine HWR.out.mono ?_
    rintro e7 w7 ⟨er, vw', d', rfl, a7, k7, v7, hdis⟩
    have HA7 := hid a7
    have HK7 := hid k7
    have HV7 := hid v7
    have X7 := HX6.out.keep k7 HNR.out
    have x0 := X7.cell 0 rfl
    have x1 := X7.cell 1 rfl
    have HX7 := hid X7
    have HK07 := hid ((Keep.of (X := blocks D S vw) HB6.out).then k7 (fun y hy => Or.inl hy))
    have HV07 : Hid (∀ b ∈ blocks D S vw', b ∈ blocks D S vw ∨ w.heap.size ≤ b) := hid (fun b hb => (v7 b hb).imp id (fun q => Nat.le_trans HB6.out.size q))
    clear a7 k7 v7 X7
    rcases hdis with ⟨rfl, rfl, rfl⟩ | ⟨rfl, j, hj, hjd, rfl⟩
    · have M7 := (h.below HB6.out).mv HK7.out hMD
      have HAD := hid (add_any M7 t ht hn hl (by omega) HIN.out (Nat.le_trans hB HK07.out.size))
      unfold recV at HAD
      rw [HKX.out, HTT.out] at HAD
      clear M7
      go_wp2_with (first | (go_at_call 57; fail))
      refine HAD.out.mono ?_
      rintro e8 w8 ⟨rfl, kv', m8, k8, v8⟩
      have X8 := HX7.out.keep k8 HNM.out
      have u0 := X8.cell 0 rfl
      have HM8 := hid m8
      have HK8 := hid k8
      have HV8 := hid v8
      clear X8 m8 k8 v8
      go_wp2
      refine bodyPost_ret (v := .tuple #[.string kx, .nilIface]) (by simp [results, Tryd.results24, go_sem]) rfl ?_
      rw [← HKX.out]
      refine ⟨_, rfl, .put HIN.out kv' HM8.out ?_ ?_ ?_⟩
      · have a8 := HA7.out.keep HK8.out (fun b hb hq => by
          rcases HV07.out b hb with q | q
          · exact hMD b hq q
          · exact absurd (h.mem_lt b hq) (Nat.not_lt.2 q))
        exact a8
      · exact ((HK07.out.sub (fun y hy => Or.inl (List.mem_append_right _ hy))).then HK8.out (fun y hy => Or.inl (List.mem_append_left _ hy)))
      · exact HV8.out.imp id (fun ⟨g, q1, q2⟩ => ⟨g, q1, Nat.le_trans HK07.out.size q2⟩)
    · have HJD := hid hjd
      clear hjd
      go_wp2
      refine bodyPost_ret (v := .tuple #[.string ⟨#[]⟩, .iface 52 (.int .i64 14)]) (by simp [results, Tryd.results24, go_sem]) rfl ?_
      exact ⟨_, rfl, .dead HIN.out vw' j hj HJD.out HA7.out HK07.out HV07.out⟩
end Go.Proofs.YtemcpjflpggaeaaDoor.Dk
