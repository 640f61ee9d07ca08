import Derived.Test.YtajkjhkjgibcfaaDoorFlwT
set_option linter.unusedSimpArgs false
set_option linter.unusedVariables false
namespace Go.Proofs.YtajkjhkjgibcfaaDoor
open Go.RowKit
open Go.Sort (grow alloc_eq_grow grow_grow grow_empty)

set_option maxRecDepth 100000 in
set_option maxHeartbeats 1600000 in
theorem text8 (at_ rt l2 l3 r2 r3 : Int) (op l1 l4 r1 r4 vb : ByteArray) (oa ia ca : Option Addr) (on oc ic cc : Nat) (ins cols : List By) (w W : World)
    (hW : w.alloc (.cells [.int .i64 at_, .int .i64 8, .slice oa on oc, .slice ia ins.length ic, .slice ca cols.length cc, .string op, .string l1, .int .i64 l2, .int .i64 l3, .string l4, .string r1, .int .i64 r2, .int .i64 r3, .string r4, .int .i64 rt].toArray 61) = W) (h : TxtIn w W op l1 l4 r1 r4 l3 r3 (.slice ia ins.length ic) (.slice ca cols.length cc) ins cols)
    (hv : W.cell? ⟨1, 8, none⟩ = some (.string vb)) (hvb : vb.size ≤ 100) :
    Calls Tryd.prog 16 #[.agg #[.int .i64 at_, .int .i64 8, .slice oa on oc, .slice ia ins.length ic, .slice ca cols.length cc, .string op, .string l1, .int .i64 l2, .int .i64 l3, .string l4, .string r1, .int .i64 r2, .int .i64 r3, .string r4, .int .i64 rt]] w fun e w' => e = .returned (.string (vb ++ ⟨#[32]⟩ ++ (nthI ins 0) ++ ⟨#[32, 98, 121, 32]⟩ ++ (nthI cols 0) ++ ⟨#[32]⟩ ++ op ++ ⟨#[32]⟩ ++ (nthI cols 1))) ∧ Below w.heap.size w w' := by
  have mixed : Tryd.prog.follows .mixedOrders = true := by kernel_rfl
  have hC := jobCells w W _ _ hW
  have hvl := h.env.size 1 (by decide)
  have vv := cell_grown hvl hv
  have hop := h.op
  have sN0 := nth_size h.is 0
  have sN1 := nth_size h.is 1
  have sC0 := nth_size h.cs 0
  have sC1 := nth_size h.cs 1
  have sL := argB_size (k := l2) h.l
  have sR := argB_size (k := r2) h.r
  have HI := Hid.mk (fun V (hV : Grn W V) v xs (hs : StrsR W v xs) (hl : xs.length ≤ 1000) => nthG (hs.below hV.below) hl)
  have HSI := Hid.mk h.si
  have HSC := Hid.mk h.sc
  have hil := h.il
  have hcl := h.cl
  have HG := Hid.mk h.gr
  replace hW : Hid (w.alloc (.cells #[.int .i64 at_, .int .i64 8, .slice oa on oc, .slice ia ins.length ic, .slice ca cols.length cc, .string op, .string l1, .int .i64 l2, .int .i64 l3, .string l4, .string r1, .int .i64 r2, .int .i64 r3, .string r4, .int .i64 rt] 61) = W) := hW
  replace hC := Hid.mk hC
  clear h hv
  go_enter Tryd.func16, Tryd.ntmps16
  go_wp2_with fail
  rw [hW.out]
  have z1 : ¬ 9223372036854775807 < vb.size + 1 := by omega
  have z2 : ¬ 9223372036854775807 < vb.size + 1 + (nthI ins 0).size := by omega
  have c1 := fun q os => hC.out _ (Grn.mk' W q os) 1 _ rfl
  have c3 := fun q os => hC.out _ (Grn.mk' W q os) 3 _ rfl
  go_quiet_grown (first | (go_at_call 30; refine Calls.grown_of (HI.out _ (Grn.refl _) _ _ (by exact HSI.out) (by exact hil) _ (by decide) _ _)))
  have hG2 : Aside (Grn W (grow (W.drewN nq) osq)) := Grn.mk' W nq osq
  clear c1 c3 vv
  generalize grow (W.drewN nq) osq = W2 at *
  clear nq osq
  have e1 := hC.out _ hG2.out 1 _ rfl
  have e4 := hC.out _ hG2.out 4 _ rfl
  have e3 := hC.out _ hG2.out 3 _ rfl
  have z4 : ¬ 9223372036854775807 < vb.size + 1 + (nthI ins 0).size + 4 := by omega
  have z5 : ¬ 9223372036854775807 < vb.size + 1 + (nthI ins 0).size + 4 + (nthI cols 0).size := by omega
  have z6 : ¬ 9223372036854775807 < vb.size + 1 + (nthI ins 0).size + 4 + (nthI cols 0).size + 1 := by omega
  have z7 : ¬ 9223372036854775807 < vb.size + 1 + (nthI ins 0).size + 4 + (nthI cols 0).size + 1 + op.size := by omega
  have z8 : ¬ 9223372036854775807 < vb.size + 1 + (nthI ins 0).size + 4 + (nthI cols 0).size + 1 + op.size + 1 := by omega
  have z9 : ¬ 9223372036854775807 < vb.size + 1 + (nthI ins 0).size + 4 + (nthI cols 0).size + 1 + op.size + 1 + (nthI cols 1).size := by omega
  have d4 := fun q os => hC.out _ (hG2.out.then (Grn.mk' W2 q os)) 4 _ rfl
  have d5 := fun q os => hC.out _ (hG2.out.then (Grn.mk' W2 q os)) 5 _ rfl
  go_wp2_with fail
  clear e1 e3 e4
  go_quiet_grown (first | (go_at_call 30; refine Calls.grown_of (HI.out _ hG2.out _ _ (by exact HSC.out) (by exact hcl) _ (by decide) _ _)))
  have hG3 : Aside (Grn W (grow (W2.drewN nq) osq)) := hG2.out.then (Grn.mk' W2 nq osq)
  generalize grow (W2.drewN nq) osq = W3 at *
  clear nq osq d4 d5
  go_wp2
  go_ret
  exact ⟨rfl, (HG.out.then hG3.out).below⟩
end Go.Proofs.YtajkjhkjgibcfaaDoor

