import Derived.Test.YtccbjhaebajamaaGreatDoorOpsO
set_option linter.unusedSimpArgs false
set_option linter.unusedVariables false
namespace Go.Proofs.YtccbjhaebajamaaGreatDoor
open Go.RowKit

def zA : Ag := (⟨#[]⟩, 0, 0, ⟨#[]⟩)
def jG (a b : Nat) : Jb := ⟨0, 8, .slice (some ⟨a, 0, none⟩) 1 1, .slice none 0 0, .slice (some ⟨b, 0, none⟩) 2 2, ⟨#[115, 117, 109]⟩, zA, zA, 0⟩
def jF (a : Nat) : Jb := ⟨0, 1, .slice (some ⟨a, 0, none⟩) 1 1, .slice none 0 0, .slice none 0 0, ⟨#[62]⟩, (⟨#[105, 100]⟩, 0, 0, ⟨#[]⟩), (⟨#[]⟩, 1, 1, ⟨#[]⟩), 0⟩
def tD : Tb := (csD, rsD.map (·.map vl))

theorem doG (a b tb : Nat) (w : World) (htb : tb < w.heap.size) (hb : b < w.heap.size) (ht : TabsAt w tb 0 [tD]) (s0 : w.cell? ⟨b, 0, none⟩ = some (.string ⟨#[105, 100]⟩)) (s1 : w.cell? ⟨b, 0 + 1, none⟩ = some (.string ⟨#[105, 100]⟩)) :
    Calls Tryz.prog 32 #[.agg (jG a b).cells, .slice (some ⟨tb, 0, none⟩) 1 1] w fun e w' => e = .returned (.tuple #[.slice none 0 0, errV 9]) ∧ Below w.heap.size w w' := by
  refine do_bad tb 0 1 [tD] (jG a b) w ht htb (by simp) (by simp) (by intro x hx; simp at hx; rw [hx]; exact rightT) 9 (by decide) ?_
  intro W B g cap us hW ho hh
  obtain ⟨cb, co, cc, hc0, hgl, hbl, hat⟩ := head_of ho hh (show 1 ≤ csD.length by decide)
  refine cols_bad _ (some ⟨a, 0, none⟩) cap 1 (jG a b) 1 1 9 W rfl rfl (by decide) (by decide) (fun W' hW' => ?_)
  refine wrong_group g 0 1 cap cb co 2 cc (jG a b) 9 W' rfl (by decide) (Nat.lt_of_lt_of_le hgl hW'.size) ((hW'.cell (p := ⟨g, 0, none⟩) hgl).trans hc0) (fun W2 hW2 => ?_)
  have h02 : Below w.heap.size w W2 := bel_then (bel_then hW hW') hW2
  have hW02 := bel_then hW' hW2
  exact group_twice cb co 2 cc b 0 2 0 csD ⟨#[105, 100]⟩ (jG a b) W2 rfl rfl (Nat.lt_of_lt_of_le hb h02.size) ((h02.cell (p := ⟨b, 0, none⟩) hb).trans s0) ((h02.cell (p := ⟨b, 0 + 1, none⟩) hb).trans s1) rfl rfl rfl (by decide) (Nat.lt_of_lt_of_le hbl hW02.size) (hat.below hW02 hbl)

theorem testF (a : Nat) : testNo (jF a) 1 tD = 0 := by
  unfold testNo
  rw [if_neg (by rw [show rightB tD.1 tD.2 = true from rightT]; simp), if_neg (by show ¬ ((1 : Int) ≠ 1); simp)]
  rfl
theorem filtF (a : Nat) : tD.2.filter (testB tD.1 (jF a)) = rsE := by
  show tD.2.filter (testB tD.1 (jF 0)) = rsE
  kernel_rfl
theorem doF (a tb : Nat) (w : World) (htb : tb < w.heap.size) (ht : TabsAt w tb 0 [tD]) :
    Calls Tryz.prog 32 #[.agg (jF a).cells, .slice (some ⟨tb, 0, none⟩) 1 1] w fun e w' => ∃ g c, e = .returned (.tuple #[.slice (some ⟨g, 0, none⟩) 1 c, .nilIface]) ∧ w.heap.size ≤ g ∧ g < w'.heap.size ∧ TabsNew w' w.heap.size g [(csD, rsE)] ∧ Below w.heap.size w w' := by
  have := do_filter tb 0 1 tD (jF a) (some ⟨a, 0, none⟩) 1 1 w rfl rfl ht htb (by show (0 : Nat) ≤ maxLen; unfold maxLen; omega) (testF a)
  rw [filtF a] at this
  exact this
theorem tabs_new (w : World) (vc vr : Value) (t : Tb) (ty : TypeId) (H : Nat) (hH : w.heap.size = H) (hc : ColsIs w vc t.1) (hr : RowsIs w vr t.2) : TabsAt (w.alloc (.cells #[vc, vr] ty)) H 0 [t] := by
  subst hH
  intro j hj
  have : j = 0 := by simp at hj; omega
  subst this
  exact ⟨vc, vr, by rw [World.cell?_alloc_at _ _ _ _ rfl]; rfl, by rw [World.cell?_alloc_at _ _ _ _ rfl]; rfl, hc.below (below_box _ _), hr.below (below_box _ _)⟩

set_option maxRecDepth 100000 in
set_option maxHeartbeats 1600000 in
theorem done_any (w : World) (hE : Env w) : Calls Tryz.prog 8 #[] w fun e w' => e = .returned (.bool true) ∧ Below w.heap.size w w' := by
  have hP := parse_any sD w (by decide) hE
  rw [parseD] at hP
  have HP := Hid.mk hP
  have HE := Hid.mk hE
  clear hP hE
  go_enter Tryz.func8, Tryz.ntmps8
  go_wp2_with (first | (go_at_call 31; refine HP.out.mono ?_; rintro e w1 ⟨hb1, vc, vr, rfl, hc, hr⟩; obtain ⟨ca, cc, rfl⟩ := (show ∃ a c, vc = Value.slice a 2 c from (by obtain ⟨a, c, h, -⟩ := hc; exact ⟨a, c, h⟩)); obtain ⟨ra, rc, rfl⟩ := (show ∃ a c, vr = Value.slice a 3 c from (by obtain ⟨a, c, h, -⟩ := hr; exact ⟨a, c, h⟩))))
  have hcT : ColsIs w1 (.slice ca 2 cc) tD.1 := hc
  have hrT : RowsIs w1 (.slice ra 3 rc) tD.2 := hr
  have hG := doG (w1.heap.size + 1) (w1.heap.size + 1 + 1) (w1.heap.size + 1 + 1 + 1) ((((w1.alloc (.cells #[.slice ca 2 cc, .slice ra 3 rc] 25)).alloc (.cells #[.string ⟨#[120]⟩] 9)).alloc (.cells #[.string ⟨#[105, 100]⟩, .string ⟨#[105, 100]⟩] 9)).alloc (.cells #[.slice ca 2 cc, .slice ra 3 rc] 25)) (by simp) (by simp) (tabs_new _ _ _ tD _ _ (by simp) (((hcT.below (below_box _ _)).below (below_box _ _)).below (below_box _ _)) (((hrT.below (below_box _ _)).below (below_box _ _)).below (below_box _ _))) (by rw [World.cell?_alloc_past _ _ _ (by simp), World.cell?_alloc_at _ _ _ _ (by simp)]; rfl) (by rw [World.cell?_alloc_past _ _ _ (by simp), World.cell?_alloc_at _ _ _ _ (by simp)]; rfl)
  rw [errV_ne (by decide)] at hG
  unfold jG zA Jb.cells at hG
  refine hG.mono ?_
  clear hG
  rintro e w2 ⟨rfl, hb2⟩
  have hb02 := bel_then (bel_box (bel_box (bel_box (bel_box hb1 _) _) _) _) hb2
  have hb12 := bel_then (bel_box (bel_box (bel_box (below_box w1 _) _) _) _) hb2
  have hz2 : w1.heap.size < w2.heap.size := by have := hb2.size; simp at this; omega
  have t0 : w2.cell? ⟨w1.heap.size, 0, none⟩ = some (.slice ca 2 cc) := ((bel_then (bel_box (bel_box (below_box (w1.alloc (.cells #[.slice ca 2 cc, .slice ra 3 rc] 25)) _) _) _) hb2).cell (p := ⟨w1.heap.size, 0, none⟩) (by simp)).trans (by rw [World.cell?_alloc_at _ _ _ _ rfl]; rfl)
  have t1 : w2.cell? ⟨w1.heap.size, 1, none⟩ = some (.slice ra 3 rc) := ((bel_then (bel_box (bel_box (below_box (w1.alloc (.cells #[.slice ca 2 cc, .slice ra 3 rc] 25)) _) _) _) hb2).cell (p := ⟨w1.heap.size, 1, none⟩) (by simp)).trans (by rw [World.cell?_alloc_at _ _ _ _ rfl]; rfl)
  have HB := Hid.mk (And.intro hb02 hb12)
  have HC := Hid.mk (And.intro hcT hrT)
  clear hb2 hb02 hb12 hcT hrT hc hr hb1 HP
  go_wp2_with fail
  have hF := doF w2.heap.size (w2.heap.size + 1) ((w2.alloc (.cells #[.string ⟨#[120]⟩] 9)).alloc (.cells #[.slice ca 2 cc, .slice ra 3 rc] 25)) (by simp) (tabs_new _ _ _ tD _ _ (by simp) ((HC.out.1.below HB.out.2).below (below_box _ _)) ((HC.out.2.below HB.out.2).below (below_box _ _)))
  unfold jF Jb.cells at hF
  refine hF.mono ?_
  clear hF
  rintro e w3 ⟨g, c, rfl, -, hg3, ht3, hb3⟩
  have hb03 := bel_then (bel_box (bel_box HB.out.1 _) _) hb3
  obtain ⟨xa, xc, ya, yc, d0, d1, hcn, hrn⟩ := tab_one ht3
  have hPR := print_ok _ _ csD rsE w3 hcn.is hrn.is (HE.out.below hb03) rightE
  rw [printD] at hPR
  have HPR := Hid.mk hPR
  have HB3 := Hid.mk hb03
  clear hPR hb3 hb03 ht3 hcn hrn HB HC t0 t1
  go_wp2_with fail
  refine HPR.out.mono ?_
  rintro e w4 ⟨rfl, hb4⟩
  have hb04 := bel_then HB3.out hb4
  clear HPR hb4
  go_wp2
  go_ret
  exact ⟨ret_bool (by decide), hb04⟩
end Go.Proofs.YtccbjhaebajamaaGreatDoor
