import Derived.Test.YtedflhiflomoeaaGreatDoorFlwK
set_option linter.unusedSimpArgs false
set_option linter.unusedVariables false
namespace Go.Proofs.YtedflhiflomoeaaGreatDoor
open Go.RowKit

def FirstR (r : By) (a : Nat) (e : Ending) (w' : World) (B : Nat) : Prop :=
  (∃ k n : Nat, firstL r = some (k, n) ∧ e = .returned (.agg #[.int .i64 (k : Nat), .string (ba (r.take n)), .int .i64 (a : Nat)])) ∨ (firstL r = none ∧ Thr e w' B (3, a))
theorem drop_ba (l : By) (a : Nat) (h : a ≤ l.length) : (ba l).extract a l.length = ba (l.drop a) := by
  rw [ext_ba]
  congr 1
  congr 1
  rw [List.take_of_length_le]
  simp
theorem find_byte (c : UInt8) : ∀ l : By, Lib.indexByte l c = match l.findIdx? (· == c) with | some n => (n : Int) | none => -1
  | [] => rfl
  | b :: l => by
    unfold Lib.indexByte
    rw [List.findIdx?_cons, find_byte c l]
    by_cases h : (b == c) = true
    · simp [h]
    · simp only [h, if_false, Bool.false_eq_true]
      cases hf : l.findIdx? (· == c) with
      | none => simp
      | some n =>
        have : ¬ ((n : Int) == -1) = true := by simp
        simp [this]
theorem idx_mark (k : Nat) (hk : k < marksL.length) (w : World) : (Instr.index 111 (.agg #[.string (ba marksL[0]), .string (ba marksL[1]), .string (ba marksL[2]), .string (ba marksL[3]), .string (ba marksL[4]), .string (ba marksL[5]), .string (ba marksL[6]), .string (ba marksL[7]), .string (ba marksL[8]), .string (ba marksL[9]), .string (ba marksL[10]), .string (ba marksL[11]), .string (ba marksL[12])]) (.int .i64 (k : Nat))).run Tryz.prog w = .ok (.string (ba marksL[k])) w := by
  have h13 : marksL.length = 13 := rfl
  have h : k = 0 ∨ k = 1 ∨ k = 2 ∨ k = 3 ∨ k = 4 ∨ k = 5 ∨ k = 6 ∨ k = 7 ∨ k = 8 ∨ k = 9 ∨ k = 10 ∨ k = 11 ∨ k = 12 := by omega
  rcases h with rfl | rfl | rfl | rfl | rfl | rfl | rfl | rfl | rfl | rfl | rfl | rfl | rfl <;> (show _ = _; kernel_rfl)
theorem mark_at (x : By) (k : Nat) (hk : k < marksL.length) (hn : ∀ (j : Nat) (h : j < marksL.length), j < k → marksL[j].isPrefixOf x = false) (hp : marksL[k].isPrefixOf x = true) : (marksL.find? fun m => m.isPrefixOf x) = some marksL[k] := by
  rw [List.find?_eq_some_iff_getElem]
  exact ⟨hp, k, hk, rfl, fun j hj => by simpa using hn j (by omega) hj⟩
theorem mark_none (x : By) (hn : ∀ (j : Nat) (h : j < marksL.length), marksL[j].isPrefixOf x = false) : (marksL.find? fun m => m.isPrefixOf x) = none := by
  rw [List.find?_eq_none]
  intro m hm
  obtain ⟨j, hj, rfl⟩ := List.getElem_of_mem hm
  simp [hn j hj]
theorem pre_take {m x : By} (h : m.isPrefixOf x = true) : x.take m.length = m := by
  rw [List.isPrefixOf_iff_prefix] at h
  exact (List.prefix_iff_eq_take.1 h).symm
theorem take_ba (l : By) (n : Nat) : (ba l).extract 0 n = ba (l.take n) := by rw [ext_ba]; simp
theorem runL_le (p : UInt8 → Bool) (l : By) : runL p l ≤ l.length := by
  unfold runL
  exact (List.takeWhile_sublist p).length_le
theorem thr_pl (w : World) (c : Int) (a : Nat) {B b : Nat} (hB : B ≤ w.heap.size) (hb : b = w.heap.size) : Thr (.panicked [{ v := .iface 70 (.pointer (some ⟨b, 0, none⟩)), recovered := false }]) (w.alloc (.cells #[.int .i64 c, .int .i64 (a : Nat)] 103)) B (c, a) := by
  subst hb
  exact ⟨w.heap.size, rfl, by simp, by simp, hB, by simp⟩
set_option maxRecDepth 100000 in
set_option maxHeartbeats 1600000 in
theorem first_any (l : By) (a : Nat) (w : World) (ha : a < l.length) (hl : l.length ≤ 1000000) (hE : FEnv w) :
    Calls Tryz.prog 35 #[.string (ba l), .int .i64 (a : Nat)] w fun e w' => FirstR (l.drop a) a e w' w.heap.size ∧ Below w.heap.size w w' := by
  have hsz : (ba l).size = l.length := ba_size l
  have haz : (a : Int) ≤ (l.length : Int) := by omega
  have HE := Hid.mk hE
  have hmf : ∀ (fn : Fn) (first cap : Array Value) (w : World), (Instr.makeFunc fn first cap).run Tryz.prog w = .ok (.func fn first cap) w := fun _ _ _ _ => rfl
  clear hE
  obtain ⟨c, r, hcr⟩ : ∃ c r, l.drop a = c :: r := by
    cases h : l.drop a with
    | nil => rw [List.drop_eq_nil_iff] at h; omega
    | cons c r => exact ⟨c, r, rfl⟩
  have HD := Hid.mk (drop_ba l a (by omega))
  have HRL := Hid.mk (show (c :: r).length ≤ 1000000 by rw [← hcr]; simp; omega)
  rw [hcr] at HD ⊢
  clear hcr
  go_enter Tryz.func35, Tryz.ntmps35
  go_wp2_with fail
  rw [HD.out]
  have hsz2 : (ba (c :: r)).size = r.length + 1 := ba_size (c :: r)
  have hrl : r.length + 1 ≤ 1000000 := HRL.out
  have hc0 : (ba (c :: r))[0]'(by omega) = c := rfl
  obtain ⟨W, hW⟩ : ∃ x, x = (((w.alloc (.cells #[.int .i64 0, .string ⟨#[]⟩, .int .i64 0] 95)).alloc (.cells #[.func (.func 50) #[] #[]] 81)).alloc (.cells #[.func (.func 51) #[] #[]] 81)) := ⟨_, rfl⟩
  rw [← hW]
  have XW : Hid (Box W w.heap.size [.int .i64 0, .string ⟨#[]⟩, .int .i64 0] ∧ Box W (w.heap.size + 1) [.func (.func 50) #[] #[]] ∧ Box W (w.heap.size + 1 + 1) [.func (.func 51) #[] #[]] ∧ Below w.heap.size w W) := by
    rw [hW]
    exact ⟨((Box.new w _ _ _ rfl).below (below_box _ _)).below (below_box _ _), (Box.new _ _ _ _ (by simp)).below (below_box _ _), Box.new _ _ _ _ (by simp), bel_box (bel_box (below_box _ _) _) _⟩
  have mixed : Tryz.prog.follows .mixedOrders = true := by kernel_rfl
  clear hW HD
  have q1 := XW.out.2.1.cell 0 rfl
  have q2 := XW.out.2.2.1.cell 0 rfl
  cases hlow : lowB c
  · have HC := Hid.mk (fun W' => fst1_any c W')
    rw [hlow] at HC
    go_quiet ((go_at_call 50; exact Calls.quiet_of_same (HC.out _)))
    have XV : Hid (Box (W.drewN nq) w.heap.size [.int .i64 0, .string ⟨#[]⟩, .int .i64 0] ∧ Box (W.drewN nq) (w.heap.size + 1) [.func (.func 50) #[] #[]] ∧ Box (W.drewN nq) (w.heap.size + 1 + 1) [.func (.func 51) #[] #[]] ∧ Below w.heap.size w (W.drewN nq)) := ⟨XW.out.1, XW.out.2.1, XW.out.2.2.1, below_drewN XW.out.2.2.2 _⟩
    clear q1 q2 HC
    generalize W.drewN nq = V at *
    clear XW
    have q1 := XV.out.2.1.cell 0 rfl
    have q2 := XV.out.2.2.1.cell 0 rfl
    have ql1 := XV.out.2.1.lt
    have ql2 := XV.out.2.2.1.lt
    cases hdig : digB c
    · have HC := Hid.mk (fun W' => fst2_any c W')
      rw [hdig] at HC
      go_wp2_with fail
      go_quiet ((go_at_call 51; exact Calls.quiet_of_same (HC.out _)))
      have XU : Hid (Box (V.drewN nq) w.heap.size [.int .i64 0, .string ⟨#[]⟩, .int .i64 0] ∧ Box (V.drewN nq) (w.heap.size + 1) [.func (.func 50) #[] #[]] ∧ Box (V.drewN nq) (w.heap.size + 1 + 1) [.func (.func 51) #[] #[]] ∧ Below w.heap.size w (V.drewN nq)) := ⟨XV.out.1, XV.out.2.1, XV.out.2.2.1, below_drewN XV.out.2.2.2 _⟩
      clear q1 q2 HC
      generalize V.drewN nq = U at *
      clear XV
      have q1 := XU.out.2.1.cell 0 rfl
      have q2 := XU.out.2.2.1.cell 0 rfl
      have ql1 := XU.out.2.1.lt
      have ql2 := XU.out.2.2.1.lt
      cases hquo : (c == 39)
      · as_aux_lemma =>
          have hcz : ((c.toNat : Int) == 39) = false := by
            have h39 : c ≠ 39 := by simpa using hquo
            have : c.toNat ≠ 39 := fun h => h39 (UInt8.toNat_inj.1 h)
            simp; omega
          have HF := Hid.mk (show firstL (c :: r) = (marksL.find? fun m => m.isPrefixOf (c :: r)).map fun m => (3, m.length) by simp [firstL, hlow, hdig, hquo])
          clear hlow hdig hquo
          have hgl := HE.out.size 1 (by simp [flowVars])
          have m0 := (XU.out.2.2.2.cell (p := ⟨1, 0, none⟩) hgl).trans (HE.out.mr 0 (by decide))
          have m1 := (XU.out.2.2.2.cell (p := ⟨1, 1, none⟩) hgl).trans (HE.out.mr 1 (by decide))
          have m2 := (XU.out.2.2.2.cell (p := ⟨1, 2, none⟩) hgl).trans (HE.out.mr 2 (by decide))
          have m3 := (XU.out.2.2.2.cell (p := ⟨1, 3, none⟩) hgl).trans (HE.out.mr 3 (by decide))
          have m4 := (XU.out.2.2.2.cell (p := ⟨1, 4, none⟩) hgl).trans (HE.out.mr 4 (by decide))
          have m5 := (XU.out.2.2.2.cell (p := ⟨1, 5, none⟩) hgl).trans (HE.out.mr 5 (by decide))
          have m6 := (XU.out.2.2.2.cell (p := ⟨1, 6, none⟩) hgl).trans (HE.out.mr 6 (by decide))
          have m7 := (XU.out.2.2.2.cell (p := ⟨1, 7, none⟩) hgl).trans (HE.out.mr 7 (by decide))
          have m8 := (XU.out.2.2.2.cell (p := ⟨1, 8, none⟩) hgl).trans (HE.out.mr 8 (by decide))
          have m9 := (XU.out.2.2.2.cell (p := ⟨1, 9, none⟩) hgl).trans (HE.out.mr 9 (by decide))
          have m10 := (XU.out.2.2.2.cell (p := ⟨1, 10, none⟩) hgl).trans (HE.out.mr 10 (by decide))
          have m11 := (XU.out.2.2.2.cell (p := ⟨1, 11, none⟩) hgl).trans (HE.out.mr 11 (by decide))
          have m12 := (XU.out.2.2.2.cell (p := ⟨1, 12, none⟩) hgl).trans (HE.out.mr 12 (by decide))
          go_wp2_with fail
          clear m0 m1 m2 m3 m4 m5 m6 m7 m8 m9 m10 m11 m12
          go_loopg [59] 13 (fun g i wr => ∃ k : Nat, k ≤ 13 ∧ i = .int .i64 k ∧ 13 - k ≤ g ∧ Aside (∀ (j : Nat) (h : j < marksL.length), j < k → marksL[j].isPrefixOf (c :: r) = false) ∧ wr = U)
          case atStart => exact ⟨0, by omega, rfl, by omega, fun j _ h => absurd h (by omega), rfl⟩
          case round =>
            obtain ⟨k, hk, rfl, hg, HA, hwr⟩ := hrel
            have hwr' := hwr.symm
            clear hwr
            subst hwr'
            by_cases hlt : k < 13
            · have hltz : (k : Int) < 13 := by omega
              have hix := fun w' => idx_mark k hlt w'
              have HHP := Hid.mk (Tryz.strings_HasPrefix (ba (c :: r)) (ba (marksL[k]'hlt)) U)
              rw [ba_list, ba_list] at HHP
              unfold Lib.hasPrefix at HHP
              cases hp : (marksL[k]'hlt).isPrefixOf (c :: r)
              · have HA2 := Hid.mk (show ∀ (j : Nat) (h : j < marksL.length), j < k + 1 → marksL[j].isPrefixOf (c :: r) = false from fun j h1 h2 => by
                  by_cases h3 : j < k
                  · exact HA.out j h1 h3
                  · have : j = k := by omega
                    subst this
                    exact hp)
                rw [hp] at HHP
                clear hp
                go_wp2_with (go_at_call 27; refine HHP.out.mono ?_; rintro e w' ⟨rfl, rfl⟩)
                go_roundg (13 - (k + 1))
                case measure => omega
                case rel => exact ⟨k + 1, by omega, by go_num, Nat.le_refl _, HA2.out, rfl⟩
              · have HF2 := Hid.mk (show firstL (c :: r) = some (3, (marksL[k]'hlt).length) by rw [HF.out, mark_at (c :: r) k hlt HA.out hp]; rfl)
                have HTK := Hid.mk (pre_take hp)
                rw [hp] at HHP
                clear hp
                generalize marksL[k]'hlt = m at *
                go_wp2_with (go_at_call 27; fail)
                refine HHP.out.mono ?_
                rintro e V2 ⟨rfl, hv2⟩
                have hv2' := hv2.symm
                clear hv2
                subst hv2'
                have XR := Hid.mk XU.out.1
                have x0 := XR.out.cell 0 rfl
                have y0 := XR.out.fz 0
                have x1 := XR.out.cell 1 rfl
                have y1 := XR.out.fz 1
                have x2 := XR.out.cell 2 rfl
                have y2 := XR.out.fz 2
                have hzX := XR.out.lt
                have HBX := Hid.mk (((XR.out.set 0 (.int .i64 3)).set 1 (.string (ba m))).set 2 (.int .i64 (a : Nat)))
                have HBE := Hid.mk (((XU.out.2.2.2.setCell (p := ⟨w.heap.size, 0, none⟩) (Nat.le_refl _) (.int .i64 3)).setCell (p := ⟨w.heap.size, 1, none⟩) (Nat.le_refl _) (.string (ba m))).setCell (p := ⟨w.heap.size, 2, none⟩) (Nat.le_refl _) (.int .i64 (a : Nat)))
                have z0 := HBX.out.cell 0 rfl
                have z1 := HBX.out.cell 1 rfl
                have z2 := HBX.out.cell 2 rfl
                clear HBX
                go_wp2
                refine bodyPost_ret (v := .agg #[.int .i64 3, .string (ba m), .int .i64 (a : Nat)]) (by simp [results, Tryz.results35, go_sem, z0, z1, z2]) rfl ?_
                exact ⟨Or.inl ⟨3, m.length, HF2.out, by rw [HTK.out]; rfl⟩, HBE.out⟩
            · have hltz : ¬ ((k : Int) < 13) := by omega
              have HF2 := Hid.mk (show firstL (c :: r) = none by rw [HF.out, mark_none (c :: r) (fun j h => HA.out j h (by have : marksL.length = 13 := rfl; omega))]; rfl)
              go_wp2_with (go_at_call 36; refine (wrong_any _ _ _).mono ?_; rintro e w'' ⟨rfl, rfl⟩)
              exact ⟨rfl, Or.inr ⟨HF2.out, thr_pl _ _ _ XU.out.2.2.2.size rfl⟩, bel_box XU.out.2.2.2 _⟩
      · as_aux_lemma =>
          have hcz : ((c.toNat : Int) == 39) = true := by rw [beq_iff_eq.1 hquo]; rfl
          have hdr : (ba (c :: r)).extract 1 (r.length + 1) = ba r := by rw [ext_ba]; simp
          have HDR := Hid.mk hdr
          clear hdr
          go_wp2_with (go_at_call 53; fail)
          rw [HDR.out]
          refine (Tryz.strings_IndexByte (ba r) 39 U).mono ?_
          rintro e V2 ⟨rfl, hv2⟩
          have hv2' := hv2.symm
          clear hv2
          subst hv2'
          rw [ba_list, show ((39 : Int).toNat.toUInt8) = (39 : UInt8) from rfl, find_byte]
          cases hf : r.findIdx? (· == 39) with
          | none =>
            have HF := Hid.mk (show firstL (c :: r) = none by simp [firstL, hlow, hdig, beq_iff_eq.1 hquo, hf, show lowB 39 = false from rfl, show digB 39 = false from rfl])
            clear hlow hdig hquo hcz hf
            dsimp only
            go_wp2_with (go_at_call 36; refine (wrong_any _ _ _).mono ?_; rintro e w'' ⟨rfl, rfl⟩)
            exact ⟨rfl, Or.inr ⟨HF.out, thr_pl _ _ _ XU.out.2.2.2.size rfl⟩, bel_box XU.out.2.2.2 _⟩
          | some n =>
            have HF := Hid.mk (show firstL (c :: r) = some (2, n + 2) by simp [firstL, hlow, hdig, beq_iff_eq.1 hquo, hf, show lowB 39 = false from rfl, show digB 39 = false from rfl])
            have hnl : n < r.length := (List.findIdx?_eq_some_iff_getElem.1 hf).1
            have hneg : ¬ ((n : Int) < 0) := by omega
            have hwr : IntKind.i64.wrap ((n : Int) + 2) = ((n + 2 : Nat) : Int) := by rw [IntKind.wrap_i64]; omega
            have hnz : ((n + 2 : Nat) : Int) ≤ ((r.length + 1 : Nat) : Int) := by omega
            clear hlow hdig hquo hcz hf
            dsimp only
            have XR := Hid.mk XU.out.1
            have x0 := XR.out.cell 0 rfl
            have y0 := XR.out.fz 0
            have x1 := XR.out.cell 1 rfl
            have y1 := XR.out.fz 1
            have x2 := XR.out.cell 2 rfl
            have y2 := XR.out.fz 2
            have hzX := XR.out.lt
            have HBX := Hid.mk (((XR.out.set 0 (.int .i64 2)).set 1 (.string ((ba (c :: r)).extract 0 (n + 2)))).set 2 (.int .i64 (a : Nat)))
            have HBE := Hid.mk (((XU.out.2.2.2.setCell (p := ⟨w.heap.size, 0, none⟩) (Nat.le_refl _) (.int .i64 2)).setCell (p := ⟨w.heap.size, 1, none⟩) (Nat.le_refl _) (.string ((ba (c :: r)).extract 0 (n + 2)))).setCell (p := ⟨w.heap.size, 2, none⟩) (Nat.le_refl _) (.int .i64 (a : Nat)))
            have z0 := HBX.out.cell 0 rfl
            have z1 := HBX.out.cell 1 rfl
            have z2 := HBX.out.cell 2 rfl
            clear HBX
            go_wp2
            refine bodyPost_ret (v := .agg #[.int .i64 2, .string ((ba (c :: r)).extract 0 (n + 2)), .int .i64 (a : Nat)]) (by simp [results, Tryz.results35, go_sem, z0, z1, z2]) rfl ?_
            exact ⟨Or.inl ⟨2, (n + 2), HF.out, by rw [take_ba]; rfl⟩, HBE.out⟩
    · as_aux_lemma =>
        have HF := Hid.mk (show firstL (c :: r) = some (1, runL digB (c :: r)) by simp [firstL, hlow, hdig])
        have HC := Hid.mk (fun W' => fst2_any c W')
        rw [hdig] at HC
        go_wp2_with fail
        go_quiet ((go_at_call 51; exact Calls.quiet_of_same (HC.out _)))
        have XU : Hid (Box (V.drewN nq) w.heap.size [.int .i64 0, .string ⟨#[]⟩, .int .i64 0] ∧ Box (V.drewN nq) (w.heap.size + 1) [.func (.func 50) #[] #[]] ∧ Box (V.drewN nq) (w.heap.size + 1 + 1) [.func (.func 51) #[] #[]] ∧ Below w.heap.size w (V.drewN nq)) := ⟨XV.out.1, XV.out.2.1, XV.out.2.2.1, below_drewN XV.out.2.2.2 _⟩
        clear q1 q2 HC
        generalize V.drewN nq = U at *
        clear XV
        have q1 := XU.out.2.1.cell 0 rfl
        have q2 := XU.out.2.2.1.cell 0 rfl
        have ql1 := XU.out.2.1.lt
        have ql2 := XU.out.2.2.1.lt
        clear hlow hdig
        go_wp2_with (go_at_call 34; fail)
        refine (run_dig (c :: r) U HRL.out).mono ?_
        rintro e V2 ⟨rfl, hv2⟩
        have hv2' := hv2.symm
        clear hv2
        subst hv2'
        have hrn := runL_le digB (c :: r)
        generalize runL digB (c :: r) = n at *
        have hrn' : n ≤ r.length + 1 := hrn
        have hrz : (n : Int) ≤ ((r.length + 1 : Nat) : Int) := by omega
        clear hrn
        have XR := Hid.mk XU.out.1
        have x0 := XR.out.cell 0 rfl
        have y0 := XR.out.fz 0
        have x1 := XR.out.cell 1 rfl
        have y1 := XR.out.fz 1
        have x2 := XR.out.cell 2 rfl
        have y2 := XR.out.fz 2
        have hzX := XR.out.lt
        have HBX := Hid.mk (((XR.out.set 0 (.int .i64 1)).set 1 (.string ((ba (c :: r)).extract 0 n))).set 2 (.int .i64 (a : Nat)))
        have HBE := Hid.mk (((XU.out.2.2.2.setCell (p := ⟨w.heap.size, 0, none⟩) (Nat.le_refl _) (.int .i64 1)).setCell (p := ⟨w.heap.size, 1, none⟩) (Nat.le_refl _) (.string ((ba (c :: r)).extract 0 n))).setCell (p := ⟨w.heap.size, 2, none⟩) (Nat.le_refl _) (.int .i64 (a : Nat)))
        have z0 := HBX.out.cell 0 rfl
        have z1 := HBX.out.cell 1 rfl
        have z2 := HBX.out.cell 2 rfl
        clear HBX
        go_wp2
        refine bodyPost_ret (v := .agg #[.int .i64 1, .string ((ba (c :: r)).extract 0 n), .int .i64 (a : Nat)]) (by simp [results, Tryz.results35, go_sem, z0, z1, z2]) rfl ?_
        exact ⟨Or.inl ⟨1, n, HF.out, by rw [take_ba]; rfl⟩, HBE.out⟩
  · as_aux_lemma =>
      have HF := Hid.mk (show firstL (c :: r) = some (0, runL lowdigB (c :: r)) by simp [firstL, hlow])
      have HC := Hid.mk (fun W' => fst1_any c W')
      rw [hlow] at HC
      go_quiet ((go_at_call 50; exact Calls.quiet_of_same (HC.out _)))
      have XV : Hid (Box (W.drewN nq) w.heap.size [.int .i64 0, .string ⟨#[]⟩, .int .i64 0] ∧ Box (W.drewN nq) (w.heap.size + 1) [.func (.func 50) #[] #[]] ∧ Box (W.drewN nq) (w.heap.size + 1 + 1) [.func (.func 51) #[] #[]] ∧ Below w.heap.size w (W.drewN nq)) := ⟨XW.out.1, XW.out.2.1, XW.out.2.2.1, below_drewN XW.out.2.2.2 _⟩
      clear q1 q2 HC
      generalize W.drewN nq = V at *
      clear XW
      have q1 := XV.out.2.1.cell 0 rfl
      have q2 := XV.out.2.2.1.cell 0 rfl
      have ql1 := XV.out.2.1.lt
      have ql2 := XV.out.2.2.1.lt
      clear hlow
      go_wp2_with (go_at_call 34; fail)
      refine (run_low (c :: r) V HRL.out ⟨w.heap.size + 1, 0, none⟩ ⟨w.heap.size + 1 + 1, 0, none⟩ q1 q2).mono ?_
      rintro e V2 ⟨rfl, hv2⟩
      have hv2' := hv2.symm
      clear hv2
      subst hv2'
      have hrn := runL_le lowdigB (c :: r)
      generalize runL lowdigB (c :: r) = n at *
      have hrn' : n ≤ r.length + 1 := hrn
      have hrz : (n : Int) ≤ ((r.length + 1 : Nat) : Int) := by omega
      clear hrn
      have XR := Hid.mk XV.out.1
      have x0 := XR.out.cell 0 rfl
      have y0 := XR.out.fz 0
      have x1 := XR.out.cell 1 rfl
      have y1 := XR.out.fz 1
      have x2 := XR.out.cell 2 rfl
      have y2 := XR.out.fz 2
      have hzX := XR.out.lt
      have HBX := Hid.mk (((XR.out.set 0 (.int .i64 0)).set 1 (.string ((ba (c :: r)).extract 0 n))).set 2 (.int .i64 (a : Nat)))
      have HBE := Hid.mk (((XV.out.2.2.2.setCell (p := ⟨w.heap.size, 0, none⟩) (Nat.le_refl _) (.int .i64 0)).setCell (p := ⟨w.heap.size, 1, none⟩) (Nat.le_refl _) (.string ((ba (c :: r)).extract 0 n))).setCell (p := ⟨w.heap.size, 2, none⟩) (Nat.le_refl _) (.int .i64 (a : Nat)))
      have z0 := HBX.out.cell 0 rfl
      have z1 := HBX.out.cell 1 rfl
      have z2 := HBX.out.cell 2 rfl
      clear HBX
      go_wp2
      refine bodyPost_ret (v := .agg #[.int .i64 0, .string ((ba (c :: r)).extract 0 n), .int .i64 (a : Nat)]) (by simp [results, Tryz.results35, go_sem, z0, z1, z2]) rfl ?_
      exact ⟨Or.inl ⟨0, n, HF.out, by rw [take_ba]; rfl⟩, HBE.out⟩
end Go.Proofs.YtedflhiflomoeaaGreatDoor
