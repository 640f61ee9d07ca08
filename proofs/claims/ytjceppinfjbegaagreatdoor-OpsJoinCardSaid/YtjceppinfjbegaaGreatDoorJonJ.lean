import Derived.Test.YtjceppinfjbegaaGreatDoorJonI
import Derived.Test.YtjceppinfjbegaaGreatDoorJonK
set_option linter.unusedSimpArgs false
set_option linter.unusedVariables false
namespace Go.Proofs.YtjceppinfjbegaaGreatDoor
open Go.RowKit

theorem news4 (w : World) (a b c d : Value) (t : TypeId) : ∀ (j : Nat) (u : Value), [a, b, c, d][j]? = some u → (w.alloc (.cells #[a, b, c, d] t)).cell? ((⟨w.heap.size, 0, none⟩ : Addr).add j) = some u := by
  intro j u hj
  rw [Addr.add_mid, Nat.zero_add, World.cell?_alloc_at _ _ _ _ rfl]
  have hj4 : j < 4 := by have := (List.getElem?_eq_some_iff.1 hj).1; simpa using this
  have h4 : j = 0 ∨ j = 1 ∨ j = 2 ∨ j = 3 := by omega
  rcases h4 with rfl | rfl | rfl | rfl <;> simpa using hj
theorem one4 (a b n : Int) (s : ByteArray) : ∀ u ∈ [Value.int .i64 a, .int .i64 b, .string s, .int .i64 n], u.oneCell' = true := by
  intro u hu
  simp at hu
  rcases hu with rfl | rfl | rfl | rfl <;> rfl

theorem grp_cells {w : World} {B G c : Nat} {a : Option Addr} {gs : List Gr} (h : w.ownsRow B 181 4 (.slice a G c) G (grpCells gs)) (hG : gs.length = G) (k : Nat) (hk : k < gs.length) : ∃ b, a = some ⟨b, 0, none⟩ ∧ b < w.heap.size ∧ w.cell? ⟨b, k * 4, none⟩ = some (.int .i64 gs[k].1.1) ∧ w.cell? ⟨b, k * 4 + 1, none⟩ = some (.int .i64 gs[k].1.2.1) ∧ w.cell? ⟨b, k * 4 + 2, none⟩ = some (.string gs[k].1.2.2) ∧ w.cell? ⟨b, k * 4 + 3, none⟩ = some (.int .i64 gs[k].2) := by
  obtain ⟨b, c', e, hB, hl, hc⟩ := tab_cells h (by omega)
  simp only [Value.slice.injEq] at e
  have hs : gs = gs.take k ++ gs[k] :: gs.drop (k + 1) := by rw [← List.drop_eq_getElem_cons hk, List.take_append_drop]
  have hkk : ∀ i (hi4 : i < 4) y, ([Value.int .i64 gs[k].1.1, .int .i64 gs[k].1.2.1, .string gs[k].1.2.2, .int .i64 gs[k].2])[i]? = some y → w.cell? ⟨b, k * 4 + i, none⟩ = some y := by
    intro i hi4 y hy
    have := hc (k * 4 + i) y (by
      have e2 : grpCells gs = grpCells (gs.take k) ++ ([Value.int .i64 gs[k].1.1, .int .i64 gs[k].1.2.1, .string gs[k].1.2.2, .int .i64 gs[k].2] ++ grpCells (gs.drop (k + 1))) := by
        conv => lhs; rw [hs]
        rw [grpCells_app]; rfl
      rw [e2, List.getElem?_append_right (by rw [grpCells_len, List.length_take]; omega), grpCells_len, List.length_take, List.getElem?_append_left (by simp; omega), ← hy]
      congr 1
      omega)
    simpa using this
  exact ⟨b, e.1, hl, hkk 0 (by omega) _ rfl, hkk 1 (by omega) _ rfl, hkk 2 (by omega) _ rfl, hkk 3 (by omega) _ rfl⟩
theorem key_size {r : List Vl} {p m : Nat} (hp : p < m) (hl : r.length = m) (h : ∀ x ∈ r, x.2.2.size ≤ maxLen) : (vAt r p).2.2.size ≤ maxLen := by
  rw [vAt_of (by omega)]
  exact h _ (List.getElem_mem (by omega))
theorem grp_keys (p q : Nat) (rs : List (List Vl)) (h : ∀ r ∈ rs, (vAt r p).2.2.size ≤ maxLen) : ∀ g ∈ grpL p q rs, g.1.2.2.size ≤ maxLen := by
  have key : ∀ (l : List (List Vl)) (acc : List Gr), (∀ r ∈ l, (vAt r p).2.2.size ≤ maxLen) → (∀ g ∈ acc, g.1.2.2.size ≤ maxLen) → ∀ g ∈ l.foldl (stepG p q) acc, g.1.2.2.size ≤ maxLen := by
    intro l
    induction l with
    | nil => intro acc _ h g hg; exact h g hg
    | cons r l ih =>
      intro acc hr ha g hg
      refine ih (stepG p q acc r) (fun x hx => hr x (by simp [hx])) (fun g' hg' => ?_) g hg
      unfold stepG at hg'
      cases e : acc.getLast? with
      | none =>
        rw [e] at hg'
        simp at hg'
        rw [hg']
        exact hr r (by simp)
      | some g0 =>
        rw [e] at hg'
        simp only [] at hg'
        split at hg'
        · rcases List.mem_append.1 hg' with hg' | hg'
          · exact ha g' ((List.dropLast_sublist _).subset hg')
          · simp at hg'
            rw [hg']
            exact ha g0 (List.mem_of_getLast? e)
        · rcases List.mem_append.1 hg' with hg' | hg'
          · exact ha g' hg'
          · simp at hg'
            rw [hg']
            exact hr r (by simp)
  exact key rs [] h (fun g hg => by simp at hg)
theorem errV_two : errV 2 = .iface 40 (.int .i64 2) := rfl
theorem row_made (W : World) (B : Nat) (a b : Vl) (hB : B ≤ W.heap.size) : (W.alloc (.cells #[.int .i64 a.1, .int .i64 a.2.1, .string a.2.2, .int .i64 b.1, .int .i64 b.2.1, .string b.2.2] 24)).ownsRow B 24 3 (.slice (some ⟨W.heap.size, 0, none⟩) 2 2) 2 (valCells [a, b]) :=
  ⟨by simp [valCells], Or.inr ⟨W.heap.size, 2, _, rfl, hB, by show (W.heap.push _)[W.heap.size]? = _; simp; rfl, by omega, by unfold maxLen; omega, by simp, by simp [valCells]⟩⟩
theorem row_madeH (W : World) (B H : Nat) (a b : Vl) (hB : B ≤ W.heap.size) (hH : W.heap.size = H) : (W.alloc (.cells #[.int .i64 a.1, .int .i64 a.2.1, .string a.2.2, .int .i64 b.1, .int .i64 b.2.1, .string b.2.2] 24)).ownsRow B 24 3 (.slice (some ⟨H, 0, none⟩) 2 2) 2 (valCells [a, b]) := by
  subst hH
  exact row_made W B a b hB
theorem rowsS_at' {w : World} {v : Value} {rs : List (List Vl)} (h : RowsIs w v rs) (h0 : 0 < rs.length) : ∃ b o c, v = .slice (some ⟨b, o, none⟩) rs.length c ∧ b < w.heap.size ∧ RowsAt w b o rs := by
  obtain ⟨a, c, rfl, hor⟩ := h
  rcases hor with h | ⟨b, o, rfl, hl, hat⟩
  · rw [h] at h0; simp at h0
  · exact ⟨b, o, c, rfl, hl, hat⟩
theorem row_at' {w : World} {b o i m : Nat} {rs : List (List Vl)} (h : RowsAt w b o rs) (hi : i < rs.length) (hm : rs[i].length = m) (h1 : 1 ≤ m) : ∃ xb xo xc, w.cell? ⟨b, o + i, none⟩ = some (.slice (some ⟨xb, xo, none⟩) m xc) ∧ xb < w.heap.size ∧ ValsAt w xb xo rs[i] := by
  obtain ⟨u, hu, a, c, rfl, -, hor⟩ := h i hi
  rw [hm] at hu
  rcases hor with h | ⟨xb, xo, rfl, hl, hat⟩
  · rw [h] at hm; simp at hm; omega
  · exact ⟨xb, xo, c, hu, hl, hat⟩

set_option maxRecDepth 100000 in
set_option maxHeartbeats 12800000 in
/-- grouped, by sums. -/
theorem grouped_any (v : Value) (us : List Value) (rs : List (List Vl)) (B m p q : Nat) (w : World) (hv : w.ownsRow B 62 1 v rs.length us) (hH : HeldRows w B us rs) (hl : ∀ r ∈ rs, r.length = m) (h1 : 1 ≤ m) (h6 : m ≤ 100) (h60 : rs.length ≤ 100) (hp : p < m) (hq : q < m) (hnum : ∀ r ∈ rs, inNum (vAt r q).2.1) (hsz : ∀ r ∈ rs, ∀ x ∈ r, x.2.2.size ≤ maxLen) (hBw : B ≤ w.heap.size) :
    Calls Tryz.prog 91 #[v, .int .i64 p, .int .i64 q, .string ⟨#[115, 117, 109]⟩] w fun e w' => Below B w w' ∧ Kept v w w' ∧ (((∀ g ∈ grpL p q (sortR [p] rs), inNum g.2) ∧ ∃ v' us', e = .returned (.tuple #[v', .nilIface]) ∧ w'.ownsRow B 62 1 v' (grpRows (grpL p q (sortR [p] rs))).length us' ∧ HeldRows w' B us' (grpRows (grpL p q (sortR [p] rs)))) ∨ ((¬ ∀ g ∈ grpL p q (sortR [p] rs), inNum g.2) ∧ e = .returned (.tuple #[.slice none 0 0, errV 2]))) := by
  obtain ⟨i0, hi, hz0, hz1, hz2⟩ := info_parts Tryz.infoGrp
  obtain ⟨i1, hi1, hy0, hy1, hy2⟩ := info_parts Tryz.infoRow
  have hav : (w.alloc (.cells #[.int .i64 p] 3)).ownsRow w.heap.size 3 1 (.slice (some ⟨w.heap.size, 0, none⟩) 1 1) 1 (intCells [p]) := ⟨by simp [intCells], Or.inr ⟨w.heap.size, 1, #[.int .i64 p], rfl, Nat.le_refl _, by show (w.heap.push _)[w.heap.size]? = _; simp, by omega, by unfold maxLen; omega, by simp, by simp [intCells]⟩⟩
  have HSO := Hid.mk (sorted_keep v (.slice (some ⟨w.heap.size, 0, none⟩) 1 1) us rs B w.heap.size m [p] (w.alloc (.cells #[.int .i64 p] 3)) (hv.alloc _) (hH.below (below_box _ _)) hl h1 h6 h60 hav (by simp) (by simp) (by simpa using hp) (by simp; omega))
  have HMM := Hid.mk (And.intro hl (And.intro hnum hsz))
  obtain ⟨va, vcp, rfl⟩ := own_slice hv
  clear hav hv hH hl hnum hsz
  go_enter Tryz.func91, Tryz.ntmps91
  go_wp2_with (go_at_call 87; fail)
  refine HSO.out.mono ?_
  rintro e w1 ⟨us1, rs1, rfl, q1, q2, ho1, hh1, hb1, hkp⟩
  have hrs1 : rs1 = sortR [p] rs := Stb.sortL_is (ordR [p]) q1 q2
  have hrl : rs1.length = rs.length := by rw [hrs1, sortR_len]
  have HRS := Hid.mk hrs1
  have hrm : ∀ r ∈ rs1, r ∈ rs := fun r hr => (q2.mem (ordR [p])).2 hr
  have HM1 := Hid.mk (show (∀ r ∈ rs1, r.length = m) ∧ (∀ r ∈ rs1, inNum (vAt r q).2.1) ∧ (∀ r ∈ rs1, ∀ x ∈ r, x.2.2.size ≤ maxLen) from ⟨fun r hr => HMM.out.1 r (hrm r hr), fun r hr => HMM.out.2.1 r (hrm r hr), fun r hr => HMM.out.2.2 r (hrm r hr)⟩)
  have HB1 := Hid.mk (show Below B w w1 from ((Below.refl _ _).alloc hBw _).trans hb1)
  have HRI := Hid.mk (show RowsIs w1 (.slice va rs.length vcp) rs1 from rows_of_held (by rw [hrl]; exact ho1) hh1)
  have HKP := Hid.mk (show Kept (.slice va rs.length vcp) w w1 from fun p hp hne => (hkp p (by simp; omega) hne).trans ((below_box w _).cell hp))
  rw [← hrl] at HRI ⊢
  have h60' : rs1.length ≤ 100 := by omega
  have hBw1 : B ≤ w1.heap.size := Nat.le_trans hBw (by have := HB1.out.size; omega)
  clear hrs1 hrl hrm q1 q2 ho1 hh1 hb1 hkp HSO HMM
  go_wp2
  go_loopg [10, 25] rs1.length (fun g1 l i wr => ∃ (k : Nat) (GS : List Gr) (GLEN : Nat), k ≤ rs1.length ∧ i = .int .i64 k ∧ rs1.length - k ≤ g1 ∧ wr.ownsRow w1.heap.size 181 4 l GLEN (grpCells GS) ∧ Aside (grpL p q (rs1.take k) = GS ∧ Below w1.heap.size w1 wr ∧ GS.length = GLEN))
  case atStart => exact ⟨0, [], 0, Nat.zero_le _, rfl, by omega, World.ownsRow_nil _ _ _ _, rfl, Below.refl _ _, rfl⟩
  case round =>
    obtain ⟨k, GS, GLEN, hk, rfl, hg, hown, HI⟩ := hrel
    obtain ⟨la, lc, rfl⟩ := own_slice hown
    have HO := Hid.mk hown
    have HGS := Hid.mk HI.out.1
    have HGL := Hid.mk HI.out.2.2
    have hws := HI.out.2.1.size
    have hGl : GLEN ≤ 100 := by have h1 := foldG_len p q (rs1.take k); rw [HGS.out, List.length_take] at h1; have := HGL.out; omega
    clear hown
    by_cases hlt : k < rs1.length
    · have hltz : (k : Int) < (rs1.length : Int) := by omega
      obtain ⟨b1, o1, c1, hve, hb1l, hrat⟩ := rowsS_at' HRI.out (by omega)
      simp only [Value.slice.injEq, true_and] at hve
      obtain ⟨rfl, rfl⟩ := hve
      obtain ⟨xb, xo, xc, hxu, hxl, hxat⟩ := row_at' hrat hlt (HM1.out.1 _ (List.getElem_mem hlt)) h1
      have hxu' := (HI.out.2.1.cell (p := ⟨b1, o1 + k, none⟩) hb1l).trans hxu
      obtain ⟨e0, e1, e2⟩ := (hxat.below HI.out.2.1 hxl) p (by rw [HM1.out.1 _ (List.getElem_mem hlt)]; exact hp)
      obtain ⟨-, f1, -⟩ := (hxat.below HI.out.2.1 hxl) q (by rw [HM1.out.1 _ (List.getElem_mem hlt)]; exact hq)
      have HRA' := Hid.mk (vAt_of (r := rs1[k]) (k := p) (by rw [HM1.out.1 _ (List.getElem_mem hlt)]; exact hp))
      have HRN' := Hid.mk (vAt_of (r := rs1[k]) (k := q) (by rw [HM1.out.1 _ (List.getElem_mem hlt)]; exact hq))
      have HNB := Hid.mk (HM1.out.2.1 _ (List.getElem_mem hlt))
      obtain ⟨a, ha⟩ : ∃ a, vAt rs1[k] p = a := ⟨_, rfl⟩
      obtain ⟨num, hnm⟩ : ∃ n, (vAt rs1[k] q).2.1 = n := ⟨_, rfl⟩
      rw [← HRA'.out, ha] at e0 e1 e2
      rw [← HRN'.out, hnm] at f1
      have HRA := Hid.mk ha
      have HRN := Hid.mk hnm
      have hnb : inNum num := by have := HNB.out; rw [hnm] at this; exact this
      unfold inNum at hnb
      obtain ⟨hnb1, hnb2⟩ := hnb
      have hpz : (p : Int) < (m : Int) := by omega
      have hqz : (q : Int) < (m : Int) := by omega
      clear hxu hrat hxat ha hnm HRA' HRN' HNB
      rcases List.eq_nil_or_concat GS with hgs | ⟨GS', g, hgs⟩
      · have hG0 : GLEN = 0 := by rw [← HGL.out, hgs]; rfl
        subst hG0
        have HNIL := Hid.mk hgs
        clear hgs
        have HNW := Hid.mk (show grpL p q (rs1.take (k + 1)) = GS ++ [(a, num)] by rw [foldG_step p q rs1 k hlt, HGS.out, stepG_new (fun g' hg' => by rw [HNIL.out] at hg'; simp at hg'), HRA.out, HRN.out])
        have HCL := Hid.mk (show grpCells (GS ++ [(a, num)]) = grpCells GS ++ [.int .i64 a.1, .int .i64 a.2.1, .string a.2.2, .int .i64 num] by rw [grpCells_app]; rfl)
        go_wp2
        go_quiet (fail)
        go_wp2_with (at_builtin; refine wpList_append_own _ rfl _ _ 179 rfl w1.heap.size 181 i0 (.agg #[.int .i64 0, .int .i64 0, .string ⟨#[]⟩, .int .i64 0]) 4 40 Tryz.underlying179 hi hz0 hz1 hz2 rfl (by decide) _ _ _ rfl ((own_drew HO.out _).alloc _) ⟨wr.heap.size, 0, none⟩ 1 1 [.int .i64 a.1, .int .i64 a.2.1, .string a.2.2, .int .i64 num] rfl rfl (news4 _ _ _ _ _ _) (one4 _ _ _ _) ?c3 ?c4 ?c5 ?_)
        case c3 => unfold maxLen; omega
        case c4 => omega
        case c5 => simp; omega
        intro v' w5 hown' hgrow _
        have hbl5 : Below w1.heap.size w1 w5 := ((below_drewN HI.out.2.1 _).alloc (by show w1.heap.size ≤ wr.heap.size; omega) _).grown hgrow (by simp; omega) (fun z hz => (HO.out.lt z hz).1)
        rw [← HCL.out] at hown'
        have HF := Hid.mk (And.intro hown' hbl5)
        clear hown' hgrow hbl5
        go_wp2
        go_roundg (rs1.length - (k + 1))
        case measure => omega
        case rel => exact ⟨k + 1, GS ++ [(a, num)], 0 + 1, by omega, by go_num, Nat.le_refl _, HF.out.1, HNW.out, HF.out.2, by rw [List.length_append, HGL.out]; rfl⟩
      · rw [List.concat_eq_append] at hgs
        subst hgs
        obtain ⟨G', rfl⟩ : ∃ G', GLEN = G' + 1 := ⟨GS'.length, by have := HGL.out; simp at this; omega⟩
        have hGl' : GS'.length = G' := by have := HGL.out; simp at this; exact this
        have hO := HO.out
        rw [← hGl'] at hO
        obtain ⟨gb, rfl, hgB, hgl, g0, g1, g2, g3, gf⟩ := grp_at hO
        rw [hGl'] at g0 g1 g2 g3
        have hlast : ((G' + 1 : Nat) : Int) - 1 = (G' : Int) := by omega
        have hl0 : ¬ ((G' : Int) < 0) := by omega
        have hld : decide ((G' : Int) < 0) = false := decide_eq_false hl0
        have HGL' := Hid.mk hGl'
        have HSM := Hid.mk (foldG_small p q (rs1.take k) (fun r hr => HM1.out.2.1 r (List.mem_of_mem_take hr)) g (by rw [HGS.out]; simp))
        have htk : ((rs1.take k).length : Int) ≤ 100 := by rw [List.length_take]; omega
        have hgt : -100000000000 ≤ g.2 ∧ g.2 ≤ 100000000000 := by
          have h := HSM.out
          omega
        obtain ⟨hgt1, hgt2⟩ := hgt
        have gf3 := gf (G' * 4 + 3)
        have HPT := Hid.mk (fun (W : World) (hW : W.ownsRow w1.heap.size 181 4 (.slice (some ⟨gb, 0, none⟩) (G' + 1) lc) (G' + 1) (grpCells (GS' ++ [g]))) (t : Int) => show (W.setCell ⟨gb, G' * 4 + 3, none⟩ (.int .i64 t)).ownsRow w1.heap.size 181 4 (.slice (some ⟨gb, 0, none⟩) (G' + 1) lc) (G' + 1) (grpCells (GS' ++ [(g.1, t)])) by rw [← hGl'] at hW ⊢; exact grp_put hW t)
        clear hO hGl' HSM htk gf
        by_cases d0 : g.1.1 = a.1
        · by_cases d1 : g.1.2.1 = a.2.1
          · by_cases d2 : g.1.2.2.toList = a.2.2.toList
            · have hga : g.1 = a := Prod.ext d0 (Prod.ext d1 (ba_toList' d2))
              have HOL := Hid.mk (show grpL p q (rs1.take (k + 1)) = GS' ++ [(a, g.2 + num)] by rw [foldG_step p q rs1 k hlt, HGS.out, stepG_old (by rw [HRA.out]; exact hga), HRN.out, hga])
              have HGA := Hid.mk hga
              have hsum : IntKind.i64.wrap (g.2 + num) = g.2 + num := by rw [IntKind.wrap_i64]; omega
              have d0' : (g.1.1 == a.1) = true := by simp [d0]
              have d1' : (g.1.2.1 == a.2.1) = true := by simp [d1]
              have d2' : (g.1.2.2.toList == a.2.2.toList) = true := by simp [d2]
              clear hga
              go_wp2
              go_quiet (fail)
              go_wp2
              go_roundg (rs1.length - (k + 1))
              case measure => omega
              case rel => exact ⟨k + 1, GS' ++ [(a, g.2 + num)], G' + 1, by omega, by go_num, Nat.le_refl _, by rw [← HGA.out]; exact HPT.out _ (own_drew HO.out _) _, HOL.out, (below_drewN HI.out.2.1 _).setCell (by show w1.heap.size ≤ gb; exact hgB) _, by simp [HGL'.out]⟩
            · have d0' : (g.1.1 == a.1) = true := by simp [d0]
              have d1' : (g.1.2.1 == a.2.1) = true := by simp [d1]
              have d2' : (g.1.2.2.toList == a.2.2.toList) = false := by simp [d2]
              have HNE := Hid.mk (show g.1 ≠ a from fun e => d2 (by rw [e]))
              have HNW := Hid.mk (show grpL p q (rs1.take (k + 1)) = (GS' ++ [g]) ++ [(a, num)] by rw [foldG_step p q rs1 k hlt, HGS.out, stepG_new (fun g' hg' => by rw [HRA.out]; simp at hg'; rw [← hg']; exact HNE.out), HRA.out, HRN.out])
              have HCL := Hid.mk (show grpCells ((GS' ++ [g]) ++ [(a, num)]) = grpCells (GS' ++ [g]) ++ [.int .i64 a.1, .int .i64 a.2.1, .string a.2.2, .int .i64 num] by rw [grpCells_app]; rfl)
              go_wp2
              go_quiet (fail)
              go_wp2_with (at_builtin; refine wpList_append_own _ rfl _ _ 179 rfl w1.heap.size 181 i0 (.agg #[.int .i64 0, .int .i64 0, .string ⟨#[]⟩, .int .i64 0]) 4 40 Tryz.underlying179 hi hz0 hz1 hz2 rfl (by decide) _ _ _ rfl ((own_drew HO.out _).alloc _) ⟨wr.heap.size, 0, none⟩ 1 1 [.int .i64 a.1, .int .i64 a.2.1, .string a.2.2, .int .i64 num] rfl rfl (news4 _ _ _ _ _ _) (one4 _ _ _ _) ?c3 ?c4 ?c5 ?_)
              case c3 => unfold maxLen; omega
              case c4 => omega
              case c5 => simp; omega
              intro v' w5 hown' hgrow _
              have hbl5 : Below w1.heap.size w1 w5 := ((below_drewN HI.out.2.1 _).alloc (by show w1.heap.size ≤ wr.heap.size; omega) _).grown hgrow (by simp; omega) (fun z hz => (HO.out.lt z hz).1)
              rw [← HCL.out] at hown'
              have HF := Hid.mk (And.intro hown' hbl5)
              clear hown' hgrow hbl5
              go_wp2
              go_roundg (rs1.length - (k + 1))
              case measure => omega
              case rel => exact ⟨k + 1, (GS' ++ [g]) ++ [(a, num)], (G' + 1) + 1, by omega, by go_num, Nat.le_refl _, HF.out.1, HNW.out, HF.out.2, by rw [List.length_append, HGL.out]; rfl⟩
          · have d0' : (g.1.1 == a.1) = true := by simp [d0]
            have d1' : (g.1.2.1 == a.2.1) = false := by simp [d1]
            have HNE := Hid.mk (show g.1 ≠ a from fun e => d1 (by rw [e]))
            have HNW := Hid.mk (show grpL p q (rs1.take (k + 1)) = (GS' ++ [g]) ++ [(a, num)] by rw [foldG_step p q rs1 k hlt, HGS.out, stepG_new (fun g' hg' => by rw [HRA.out]; simp at hg'; rw [← hg']; exact HNE.out), HRA.out, HRN.out])
            have HCL := Hid.mk (show grpCells ((GS' ++ [g]) ++ [(a, num)]) = grpCells (GS' ++ [g]) ++ [.int .i64 a.1, .int .i64 a.2.1, .string a.2.2, .int .i64 num] by rw [grpCells_app]; rfl)
            go_wp2
            go_quiet (fail)
            go_wp2_with (at_builtin; refine wpList_append_own _ rfl _ _ 179 rfl w1.heap.size 181 i0 (.agg #[.int .i64 0, .int .i64 0, .string ⟨#[]⟩, .int .i64 0]) 4 40 Tryz.underlying179 hi hz0 hz1 hz2 rfl (by decide) _ _ _ rfl ((own_drew HO.out _).alloc _) ⟨wr.heap.size, 0, none⟩ 1 1 [.int .i64 a.1, .int .i64 a.2.1, .string a.2.2, .int .i64 num] rfl rfl (news4 _ _ _ _ _ _) (one4 _ _ _ _) ?c3 ?c4 ?c5 ?_)
            case c3 => unfold maxLen; omega
            case c4 => omega
            case c5 => simp; omega
            intro v' w5 hown' hgrow _
            have hbl5 : Below w1.heap.size w1 w5 := ((below_drewN HI.out.2.1 _).alloc (by show w1.heap.size ≤ wr.heap.size; omega) _).grown hgrow (by simp; omega) (fun z hz => (HO.out.lt z hz).1)
            rw [← HCL.out] at hown'
            have HF := Hid.mk (And.intro hown' hbl5)
            clear hown' hgrow hbl5
            go_wp2
            go_roundg (rs1.length - (k + 1))
            case measure => omega
            case rel => exact ⟨k + 1, (GS' ++ [g]) ++ [(a, num)], (G' + 1) + 1, by omega, by go_num, Nat.le_refl _, HF.out.1, HNW.out, HF.out.2, by rw [List.length_append, HGL.out]; rfl⟩
        · have d0' : (g.1.1 == a.1) = false := by simp [d0]
          have HNE := Hid.mk (show g.1 ≠ a from fun e => d0 (by rw [e]))
          have HNW := Hid.mk (show grpL p q (rs1.take (k + 1)) = (GS' ++ [g]) ++ [(a, num)] by rw [foldG_step p q rs1 k hlt, HGS.out, stepG_new (fun g' hg' => by rw [HRA.out]; simp at hg'; rw [← hg']; exact HNE.out), HRA.out, HRN.out])
          have HCL := Hid.mk (show grpCells ((GS' ++ [g]) ++ [(a, num)]) = grpCells (GS' ++ [g]) ++ [.int .i64 a.1, .int .i64 a.2.1, .string a.2.2, .int .i64 num] by rw [grpCells_app]; rfl)
          go_wp2
          go_quiet (fail)
          go_wp2_with (at_builtin; refine wpList_append_own _ rfl _ _ 179 rfl w1.heap.size 181 i0 (.agg #[.int .i64 0, .int .i64 0, .string ⟨#[]⟩, .int .i64 0]) 4 40 Tryz.underlying179 hi hz0 hz1 hz2 rfl (by decide) _ _ _ rfl ((own_drew HO.out _).alloc _) ⟨wr.heap.size, 0, none⟩ 1 1 [.int .i64 a.1, .int .i64 a.2.1, .string a.2.2, .int .i64 num] rfl rfl (news4 _ _ _ _ _ _) (one4 _ _ _ _) ?c3 ?c4 ?c5 ?_)
          case c3 => unfold maxLen; omega
          case c4 => omega
          case c5 => simp; omega
          intro v' w5 hown' hgrow _
          have hbl5 : Below w1.heap.size w1 w5 := ((below_drewN HI.out.2.1 _).alloc (by show w1.heap.size ≤ wr.heap.size; omega) _).grown hgrow (by simp; omega) (fun z hz => (HO.out.lt z hz).1)
          rw [← HCL.out] at hown'
          have HF := Hid.mk (And.intro hown' hbl5)
          clear hown' hgrow hbl5
          go_wp2
          go_roundg (rs1.length - (k + 1))
          case measure => omega
          case rel => exact ⟨k + 1, (GS' ++ [g]) ++ [(a, num)], (G' + 1) + 1, by omega, by go_num, Nat.le_refl _, HF.out.1, HNW.out, HF.out.2, by rw [List.length_append, HGL.out]; rfl⟩
    · have hltz : ¬ ((k : Int) < (rs1.length : Int)) := by omega
      have HGE := Hid.mk (show grpL p q rs1 = GS by rw [← HGS.out, List.take_of_length_le (by omega)])
      have HSM := Hid.mk (foldG_small p q rs1 (fun r hr => HM1.out.2.1 r hr))
      have HKZ := Hid.mk (show ∀ g ∈ GS, g.1.2.2.size ≤ maxLen from by rw [← HGE.out]; exact grp_keys p q rs1 (fun r hr => key_size hp (HM1.out.1 r hr) (HM1.out.2.2 r hr)))
      rw [HGE.out] at HSM
      have hGn : GLEN ≤ 100 := hGl
      obtain ⟨wa, hwa⟩ : ∃ wa, wa = wr := ⟨_, rfl⟩
      subst hwa
      have HCA := Hid.mk (fun k (hk : k < GS.length) => grp_cells HO.out HGL.out k hk)
      go_wp2
      go_loopg [15, 87] GLEN (fun g2 l2 i wr2 => ∃ (t : Nat) (us2 : List Value), t ≤ GLEN ∧ i = .int .i64 t ∧ GLEN - t ≤ g2 ∧ wr2.ownsRow wa.heap.size 62 1 l2 t us2 ∧ Aside (HeldRows wr2 wa.heap.size us2 (grpRows (GS.take t)) ∧ Below wa.heap.size wa wr2 ∧ ∀ g ∈ GS.take t, inNum g.2))
      case atStart => exact ⟨0, [], Nat.zero_le _, rfl, by omega, World.ownsRow_nil _ _ _ _, by simpa [grpRows] using HeldRows.nil _ _, Below.refl _ _, by simp⟩
      case round =>
        obtain ⟨t, us2, ht, rfl, hg2, hown2, HI2⟩ := hrel
        obtain ⟨la2, lc2, rfl⟩ := own_slice hown2
        have HO2 := Hid.mk hown2
        clear hown2
        have hws2 := HI2.out.2.1.size
        by_cases htl : t < GLEN
        · have htlz : (t : Int) < (GLEN : Int) := by omega
          have htg : t < GS.length := by have := HGL.out; omega
          obtain ⟨gb, hla, hgl, z0, z1, z2, z3⟩ := HCA.out t htg
          subst hla
          have y0 := (HI2.out.2.1.cell (p := ⟨gb, t * 4, none⟩) hgl).trans z0
          have y1 := (HI2.out.2.1.cell (p := ⟨gb, t * 4 + 1, none⟩) hgl).trans z1
          have y2 := (HI2.out.2.1.cell (p := ⟨gb, t * 4 + 2, none⟩) hgl).trans z2
          have y3 := (HI2.out.2.1.cell (p := ⟨gb, t * 4 + 3, none⟩) hgl).trans z3
          have HGM := Hid.mk (List.getElem_mem htg)
          have HTK := Hid.mk (show GS.take (t + 1) = GS.take t ++ [GS[t]] from List.take_succ_eq_append_getElem htg)
          generalize GS[t] = g at *
          clear z0 z1 z2 z3
          by_cases hin : inNum g.2
          · have HNO := Hid.mk (fun W => number_ok g.2 W hin)
            unfold aggV at HNO
            have HIN := Hid.mk hin
            clear hin
            go_wp2_with (first | (go_at_call 118; refine (HNO.out _).mono ?_; rintro e w6 ⟨rfl, hb6⟩; have k0 := (hb6.cell (p := ⟨wr.heap.size, 0, none⟩) (by simp)).trans (World.cell?_alloc_at _ _ _ _ rfl); have k1 := (hb6.cell (p := ⟨wr.heap.size, 1, none⟩) (by simp)).trans (World.cell?_alloc_at _ _ _ _ rfl); have k2 := (hb6.cell (p := ⟨wr.heap.size, 2, none⟩) (by simp)).trans (World.cell?_alloc_at _ _ _ _ rfl); have hs6' := hb6.size; simp at hs6' k0 k1 k2; have hs6 : wr.heap.size < w6.heap.size := by omega) | (at_builtin; refine wpList_append_own _ rfl _ _ 34 rfl wa.heap.size 62 i1 (.slice none 0 0) 1 24 Tryz.underlying34 hi1 hy0 hy1 hy2 rfl (by decide) _ _ _ rfl ((((owns_below (HO2.out.alloc _) hb6).alloc _).alloc _).alloc _) ⟨w6.heap.size + 1 + 1, 0, none⟩ 1 1 [.slice (some ⟨w6.heap.size + 1, 0, none⟩) 2 2] rfl rfl (news1 _ _ _ _ (by simp)) (one1s _ _ _) ?c3 ?c4 ?c5 ?_))
            case c3 => unfold maxLen; omega
            case c4 => omega
            case c5 => simp; omega
            intro v' w5 hown' hgrow _
            have hO1 := ((((owns_below (HO2.out.alloc (.cells #[.int .i64 g.1.1, .int .i64 g.1.2.1, .string g.1.2.2, .int .i64 g.2] 181)) hb6).alloc (.cells #[.int .i64 1, .int .i64 g.2, .string ⟨#[]⟩] 24)).alloc (.cells #[.int .i64 g.1.1, .int .i64 g.1.2.1, .string g.1.2.2, .int .i64 1, .int .i64 g.2, .string ⟨#[]⟩] 24)).alloc (.cells #[.slice (some ⟨w6.heap.size + 1, 0, none⟩) 2 2] 62))
            have hbl5 : Below wa.heap.size wa w5 := ((bel_then (bel_then (bel_then (bel_then HI2.out.2.1 (below_box _ (.cells #[.int .i64 g.1.1, .int .i64 g.1.2.1, .string g.1.2.2, .int .i64 g.2] 181))) hb6) (below_box _ (.cells #[.int .i64 1, .int .i64 g.2, .string ⟨#[]⟩] 24))) (below_box _ (.cells #[.int .i64 g.1.1, .int .i64 g.1.2.1, .string g.1.2.2, .int .i64 1, .int .i64 g.2, .string ⟨#[]⟩] 24))).alloc (by simp; omega) (.cells #[.slice (some ⟨w6.heap.size + 1, 0, none⟩) 2 2] 62)).grown hgrow (by simp; omega) (fun z hz => (HO2.out.lt z hz).1)
            have hH5 := (((((HI2.out.1.below (below_box _ (.cells #[.int .i64 g.1.1, .int .i64 g.1.2.1, .string g.1.2.2, .int .i64 g.2] 181))).below hb6).below (below_box _ (.cells #[.int .i64 1, .int .i64 g.2, .string ⟨#[]⟩] 24))).below (below_box _ (.cells #[.int .i64 g.1.1, .int .i64 g.1.2.1, .string g.1.2.2, .int .i64 1, .int .i64 g.2, .string ⟨#[]⟩] 24))).below (below_box _ (.cells #[.slice (some ⟨w6.heap.size + 1, 0, none⟩) 2 2] 62))).grow hO1 hgrow
            have hr1 := (row_madeH (w6.alloc (.cells #[.int .i64 1, .int .i64 g.2, .string ⟨#[]⟩] 24)) wa.heap.size (w6.heap.size + 1) g.1 (1, g.2, ⟨#[]⟩) (by simp; omega) (by simp)).alloc (.cells #[.slice (some ⟨w6.heap.size + 1, 0, none⟩) 2 2] 62)
            have hu5 := hr1.kept hgrow (own_ne (by decide) hr1 hO1)
            have hH6 := hH5.snoc (r := [g.1, (1, g.2, ⟨#[]⟩)]) hu5 (fun x hx => by
              simp at hx
              rcases hx with rfl | rfl
              · exact HKZ.out g HGM.out
              · exact Nat.zero_le _)
            have hGR : grpRows (GS.take t) ++ [[g.1, (1, g.2, ⟨#[]⟩)]] = grpRows (GS.take (t + 1)) := by rw [HTK.out]; simp [grpRows]
            rw [hGR] at hH6
            have HF := Hid.mk (And.intro hown' (And.intro hH6 hbl5))
            have HAN := Hid.mk (show ∀ g' ∈ GS.take (t + 1), inNum g'.2 from fun g' hg' => by
              rw [HTK.out] at hg'
              rcases List.mem_append.1 hg' with h | h
              · exact HI2.out.2.2 g' h
              · simp at h
                rw [h]
                exact HIN.out)
            clear hown' hgrow hH6 hbl5 hH5 hu5 hO1 hr1 hGR
            go_wp2
            go_roundg (GLEN - (t + 1))
            case measure => omega
            case rel => exact ⟨t + 1, _, by omega, by go_num, Nat.le_refl _, HF.out.1, HF.out.2.1, HF.out.2.2, HAN.out⟩
          · have HNO := Hid.mk (fun W => number_bad g.2 W hin)
            unfold aggV at HNO
            simp only [errV_two] at HNO
            have HIN := Hid.mk hin
            clear hin
            go_wp2_with (go_at_call 118; refine (HNO.out _).mono ?_; rintro e w6 ⟨rfl, hb6⟩; have k0 := (hb6.cell (p := ⟨wr.heap.size, 0, none⟩) (by simp)).trans (World.cell?_alloc_at _ _ _ _ rfl); have k1 := (hb6.cell (p := ⟨wr.heap.size, 1, none⟩) (by simp)).trans (World.cell?_alloc_at _ _ _ _ rfl); have k2 := (hb6.cell (p := ⟨wr.heap.size, 2, none⟩) (by simp)).trans (World.cell?_alloc_at _ _ _ _ rfl); have hs6' := hb6.size; simp at hs6' k0 k1 k2; have hs6 : wr.heap.size < w6.heap.size := by omega)
            refine bodyPost_ret (by simp [results, Tryz.results91, go_sem]; rfl) rfl ?_
            rw [← HRS.out, HGE.out]
            refine ⟨HB1.out.trans ((bel_then (bel_then (bel_then (bel_then HI.out.2.1 HI2.out.2.1) (below_box _ _)) hb6) (below_box _ _)).mono hBw1), HKP.out.below (bel_then (bel_then (bel_then (bel_then HI.out.2.1 HI2.out.2.1) (below_box _ _)) hb6) (below_box _ _)) HB1.out.size, Or.inr ⟨fun h => HIN.out (h g HGM.out), rfl⟩⟩
        · have htlz : ¬ ((t : Int) < (GLEN : Int)) := by omega
          have HAL := Hid.mk (show GS.take t = GS from List.take_of_length_le (by have := HGL.out; omega))
          have htG : t = GLEN := by omega
          have HLN := Hid.mk (show (grpRows GS).length = t by unfold grpRows; rw [List.length_map, HGL.out, htG])
          go_wp2
          refine bodyPost_ret (by simp [results, Tryz.results91, go_sem]; rfl) rfl ?_
          rw [← HRS.out, HGE.out, HLN.out]
          refine ⟨HB1.out.trans ((bel_then HI.out.2.1 HI2.out.2.1).mono hBw1), HKP.out.below (bel_then HI.out.2.1 HI2.out.2.1) HB1.out.size, Or.inl ⟨fun a b c n hg => HI2.out.2.2 ((a, b, c), n) (by rw [HAL.out]; exact hg), _, rfl, us2, (by have h := HO2.out; rw [htG] at h ⊢; exact own_mono (show B ≤ wa.heap.size by omega) h), ?_⟩⟩
          have h := HI2.out.1
          rw [HAL.out] at h
          exact h.mono (by omega)
end Go.Proofs.YtjceppinfjbegaaGreatDoor

