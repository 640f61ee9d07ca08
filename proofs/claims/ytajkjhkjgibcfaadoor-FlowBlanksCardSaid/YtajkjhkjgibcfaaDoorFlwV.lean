import Derived.Test.YtajkjhkjgibcfaaDoorFlwU1
import Derived.Test.YtajkjhkjgibcfaaDoorFlwU2
import Derived.Test.YtajkjhkjgibcfaaDoorFlwU3
import Derived.Test.YtajkjhkjgibcfaaDoorFlwU5
import Derived.Test.YtajkjhkjgibcfaaDoorFlwU7
import Derived.Test.YtajkjhkjgibcfaaDoorFlwU8
set_option linter.unusedSimpArgs false
set_option linter.unusedVariables false
namespace Go.Proofs.YtajkjhkjgibcfaaDoor
open Go.RowKit

/-- A job that may be written. -/
structure JobOK (j : FJob) : Prop where
  code : j.code = 1 ∨ j.code = 2 ∨ j.code = 3 ∨ j.code = 4 ∨ j.code = 5 ∨ j.code = 6 ∨ j.code = 7 ∨ j.code = 8 ∨ j.code = 9
  il : j.ins.length ≤ 1000
  cl : j.cols.length ≤ 1000
  ol : j.outs.length ≤ 1000
  is : ∀ x ∈ j.ins, x.length ≤ 1000
  cs : ∀ x ∈ j.cols, x.length ≤ 1000
  os : ∀ x ∈ j.outs, x.length ≤ 1000
  l : AgOK j.left
  r : AgOK j.right
  op : j.op.length ≤ 1000
  rt : 0 ≤ j.retry ∧ j.retry ≤ 1000
theorem AgOK.b {a : Ag} (h : AgOK a) : AgB (ba a.1) a.2.2.1 (ba a.2.2.2) := ⟨by rw [ba_size]; exact h.1, by rw [ba_size]; exact h.2.1, h.2.2⟩
theorem argB_ba (a : Ag) : argB (ba a.1) a.2.1 a.2.2.1 (ba a.2.2.2) = ba (argL a) := rfl
theorem strs_slice {w : World} {v : Value} {xs : List By} (h : StrsR w v xs) : ∃ a c, v = .slice a xs.length c := by
  rcases h with ⟨rfl, rfl⟩ | ⟨b, o, c, rfl, -⟩
  · exact ⟨_, _, rfl⟩
  · exact ⟨_, _, rfl⟩
theorem txt_in {j : FJob} {vi vc : Value} {w : World} {o : Obj} (hJ : JobOK j) (hi : StrsR w vi j.ins) (hc : StrsR w vc j.cols) (hE : FEnv w) : TxtIn w (w.alloc o) (ba j.op) (ba j.left.1) (ba j.left.2.2.2) (ba j.right.1) (ba j.right.2.2.2) j.left.2.2.1 j.right.2.2.1 vi vc j.ins j.cols :=
  ⟨hE.belowW (below_box _ _), Grn.box _ _, hi.below (below_box _ _), hc.below (below_box _ _), hJ.il, hJ.cl, hJ.is, hJ.cs, hJ.l.b, hJ.r.b, by rw [ba_size]; exact hJ.op⟩
theorem ret_ba {x : ByteArray} {l : By} (h : x.data.toList = l) : Ending.returned (.string x) = .returned (.string (ba l)) := by rw [show x = ba l from baX (by rw [h])]
theorem text_any (j : FJob) (vo vi vc : Value) (w : World) (ho : StrsR w vo j.outs) (hi : StrsR w vi j.ins) (hc : StrsR w vc j.cols) (hE : FEnv w) (hJ : JobOK j) :
    Calls Tryd.prog 16 #[.agg (jobV j vo vi vc).toArray] w fun e w' => e = .returned (.string (ba (jobL j))) ∧ Below w.heap.size w w' := by
  obtain ⟨oa, oc, rfl⟩ := strs_slice ho
  obtain ⟨ia, ic, rfl⟩ := strs_slice hi
  obtain ⟨ca, cc, rfl⟩ := strs_slice hc
  have hT := fun o => txt_in (o := o) hJ hi hc hE
  have hvb := fun (k : Nat) (hk : k < verbs0.length) (o : Obj) => (hE.belowW (below_box w o)).vb k hk
  obtain ⟨at_, code, outs, ins, cols, op, left, right, retry⟩ := j
  have hcode := hJ.code
  simp only at hcode hT ⊢
  rcases hcode with rfl | rfl | rfl | rfl | rfl | rfl | rfl | rfl | rfl
  · refine (text1 _ _ _ _ _ _ _ _ _ _ _ (ba verbs0[1]) oa ia ca _ _ _ _ ins cols w _ rfl (hT _) (hvb 1 (by decide) _) (by decide)).mono ?_
    rintro e w' ⟨rfl, hb⟩
    exact ⟨ret_ba (by simp [jobL, argB_ba, nthI, verbW, wWhere]; rfl), hb⟩
  · refine (text2 _ _ _ _ _ _ _ _ _ _ _ (ba verbs0[2]) oa ia ca _ _ _ _ ins cols w _ rfl (hT _) (hvb 2 (by decide) _) (by decide)).mono ?_
    rintro e w' ⟨rfl, hb⟩
    exact ⟨ret_ba (by simp [jobL, argB_ba, nthI, verbW, wWhere]; rfl), hb⟩
  · refine (text3 _ _ _ _ _ _ _ _ _ _ _ (ba verbs0[3]) oa ia ca _ _ _ _ ins cols w _ rfl (hT _) (hvb 3 (by decide) _) (by decide)).mono ?_
    rintro e w' ⟨rfl, hb⟩
    exact ⟨ret_ba (by simp [jobL, argB_ba, nthI, verbW, wBy]; rfl), hb⟩
  · refine (text4 _ _ _ _ _ _ _ _ _ _ _ (ba verbs0[4]) oa ia ca _ _ _ _ ins cols w _ rfl (hT _) (hvb 4 (by decide) _) (by decide)).mono ?_
    rintro e w' ⟨rfl, hb⟩
    exact ⟨ret_ba (by simp [jobL, argB_ba, nthI, verbW, wBy]; rfl), hb⟩
  · refine (text5 _ _ _ _ _ _ _ _ _ _ _ (ba verbs0[5]) oa ia ca _ _ _ _ ins cols w _ rfl (hT _) (hvb 5 (by decide) _) (by decide)).mono ?_
    rintro e w' ⟨rfl, hb⟩
    exact ⟨ret_ba (by simp [jobL, argB_ba, nthI, verbW]; rfl), hb⟩
  · refine (text6 _ _ _ _ _ _ _ _ _ _ _ (ba verbs0[6]) oa ia ca _ _ _ _ ins cols w _ rfl (hT _) (hvb 6 (by decide) _) (by decide)).mono ?_
    rintro e w' ⟨rfl, hb⟩
    exact ⟨ret_ba (by simp [jobL, argB_ba, nthI, verbW]; rfl), hb⟩
  · refine (text7 _ _ _ _ _ _ _ _ _ _ _ (ba verbs0[7]) oa ia ca _ _ _ _ ins cols w _ rfl (hT _) (hvb 7 (by decide) _) (by decide)).mono ?_
    rintro e w' ⟨rfl, hb⟩
    exact ⟨ret_ba (by simp [jobL, argB_ba, nthI, verbW]; rfl), hb⟩
  · refine (text8 _ _ _ _ _ _ _ _ _ _ _ (ba verbs0[8]) oa ia ca _ _ _ _ ins cols w _ rfl (hT _) (hvb 8 (by decide) _) (by decide)).mono ?_
    rintro e w' ⟨rfl, hb⟩
    exact ⟨ret_ba (by simp [jobL, argB_ba, nthI, verbW, wBy]; rfl), hb⟩
  · refine (text9 _ _ _ _ _ _ _ _ _ _ _ (ba verbs0[9]) oa ia ca _ _ _ _ ins cols w _ rfl (hT _) (hvb 9 (by decide) _) (by decide)).mono ?_
    rintro e w' ⟨rfl, hb⟩
    exact ⟨ret_ba (by simp [jobL, argB_ba, nthI, verbW, wWhere]; rfl), hb⟩
end Go.Proofs.YtajkjhkjgibcfaaDoor

