import Derived.Test.YtemcpjflpggaeaaDoorStoP
set_option linter.unusedSimpArgs false
set_option linter.unusedVariables false
namespace Go.Proofs.YtemcpjflpggaeaaDoor.Dk
open Go.RowKit Go.Maps

/-- Has it this sum? -/
noncomputable def sameS (s x : ByteArray) : Bool := decide (sumL x.data.toList = sumL s.data.toList)
theorem tx_inj {a b : Bs} : tx a = tx b ↔ a = b := ⟨fun q => congrArg (fun z : ByteArray => z.data.toList) q, fun q => by rw [q]⟩
set_option maxRecDepth 100000 in
set_option maxHeartbeats 1600000 in
theorem once2_any (s x : ByteArray) (C : Nat) (w : World) (hC : Blk w C [.string s]) (hE : EnvK w) (hs : s.size ≤ 300) (hx : x.size ≤ 300) : Calls Tryd.prog 29 #[.string x, .pointer (some ⟨C, 0, none⟩)] w fun e w' => e = .returned (.bool (sameS s x)) ∧ Below w.heap.size w w' := by
  obtain ⟨sm, hsm⟩ : ∃ sm : ByteArray → ByteArray, ∀ y, tx (sumL y.data.toList) = sm y := ⟨_, fun _ => rfl⟩
  have HSU : Hid (∀ (V : World) (hV : Below w.heap.size w V) (y : ByteArray) (hy : y.size ≤ 300), Calls Tryd.prog 28 #[.string y] V fun e w' => e = .returned (.string (sm y)) ∧ Below V.heap.size V w') := hid (fun V hV y hy => by
    rw [← hsm y]
    exact sum_any y V (by omega) (hE.below hV))
  have HR : Hid (sameS s x = true ↔ sm x = sm s) := hid (by rw [← hsm, ← hsm, tx_inj]; simp [sameS])
  have HC : Hid (∀ V : World, Below w.heap.size w V → V.cell? ⟨C, 0, none⟩ = some (.string s)) := hid (fun V hV => (hC.below hV).cell 0 rfl)
  have G0 := hid (HC.out w.drew (Below.refl _ w).drew)
  have HB0 : Hid (Below w.heap.size w w.drew) := hid (Below.refl _ w).drew
  clear hC hsm
  have heq : ((sm x).toList == (sm s).toList) = sameS s x := by
    cases hr : sameS s x with
    | true => rw [HR.out.1 hr]; simp
    | false => exact str_ne (fun q => by rw [HR.out.2 q] at hr; cases hr)
  go_enter Tryd.func29, Tryd.ntmps29
  go_wp2
  go_region_held3 (fun V => V.cell? ⟨C, 0, none⟩ = some (.string s)) (first | exact G0.out | exact G1.out | exact G2.out) (first | (go_at_call 28; refine (HSU.out _ (by first | exact HB1.out | exact HB0.out) _ (by assumption)).mono ?_; rintro e1 w1 ⟨rfl, hb1⟩; first | (have HB2 := hid (HB1.out.trans (hb1.mono HB1.out.size)); have G2 := hid (HC.out w1 HB2.out); clear hb1) | (have HB1 := hid (HB0.out.trans (hb1.mono HB0.out.size)); have G1 := hid (HC.out w1 HB1.out); clear hb1)))
  all_goals go_wp2
  all_goals go_ret
  all_goals exact ⟨rfl, HB2.out⟩
end Go.Proofs.YtemcpjflpggaeaaDoor.Dk
