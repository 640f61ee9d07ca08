import Derived.Test.YtnpjdloagoaanaaDoorSumN
set_option linter.unusedSimpArgs false
set_option linter.unusedVariables false
namespace Go.Proofs.YtnpjdloagoaanaaDoor
open Go.RowKit

def ic (l : List Nat) : List Value := l.map fun (d : Nat) => .int .i64 (d : Int)
theorem ic_snoc (l : List Nat) (d : Nat) : ic (l ++ [d]) = ic l ++ [.int .i64 (d : Int)] := by simp [ic]
theorem info3 : (Tryd.prog.info? 3).map (fun i => (i.zero, i.size, i.bytes)) = some (some (.int .i64 0), 1, 8) := by kernel_rfl
def IsAt (w : World) (b : Nat) (l : List Nat) : Prop := ∀ j (h : j < l.length), w.cell? ⟨b, j, none⟩ = some (.int .i64 (l[j] : Int))
theorem own_formI {w : World} {B : Nat} {a : Option Addr} {c n : Nat} {l : List Nat} (h : w.ownsRow B 3 1 (.slice a n c) l.length (ic l)) (h0 : 0 < l.length) : ∃ b, a = some ⟨b, 0, none⟩ ∧ n = l.length ∧ B ≤ b ∧ b < w.heap.size ∧ IsAt w b l := by
  have h' := h
  obtain ⟨-, ⟨he, hn⟩ | ⟨g, cp, cur, he, hg, hh, -⟩⟩ := h
  · omega
  · cases he
    refine ⟨g, rfl, rfl, hg, ?_, fun j hj => ?_⟩
    · rcases Nat.lt_or_ge g w.heap.size with h | h
      · exact h
      · rw [Array.getElem?_eq_none h] at hh; simp at hh
    · rw [h'.cellAt j (by omega), ic, List.getElem?_map, List.getElem?_eq_getElem hj]; rfl
theorem news1i (w : World) (v : Value) (t : TypeId) (H : Nat) (hH : w.heap.size = H) : ∀ j u, [v][j]? = some u → (w.alloc (.cells #[v] t)).cell? ((⟨H, 0, none⟩ : Addr).add j) = some u := news1 w v t H hH
theorem one1i (x : Int) : ∀ u ∈ [Value.int .i64 x], u.oneCell' = true := by intro u hu; simp at hu; subst hu; rfl
def allP (l : List Nat) (k : Nat) : Bool := l.all fun p => !(k % p == 0)
theorem allP_snoc (l : List Nat) (k j : Nat) (h : j < l.length) : allP (l.take (j + 1)) k = (allP (l.take j) k && !(k % l[j] == 0)) := by
  rw [allP, List.take_succ_eq_append_getElem h, List.all_append]; simp [allP]

set_option maxRecDepth 100000 in
set_option maxHeartbeats 800000 in
theorem primes_any (w : World) :
    Calls Tryd.prog 22 #[.int .i64 64] w fun e w' => ∃ v, e = .returned v ∧ w'.ownsRow w.heap.size 3 1 v pList.length (ic pList) ∧ Below w.heap.size w w' := by
  obtain ⟨i0, hi, hz0, hz1, hz2⟩ := info_parts info3
  go_enter Tryd.func22, Tryd.ntmps22
  go_wp2
  go_loopw [3, 4] (fun l i wr => ∃ k : Nat, ∃ lp : List Nat, 2 ≤ k ∧ k ≤ 312 ∧ lp = prs k ∧ i = .int .i64 k ∧ wr.ownsRow w.heap.size 3 1 l lp.length (ic lp) ∧ Below w.heap.size w wr) (fun _ i _ => 312 - (intOf i).toNat)
  case atStart => exact ⟨2, [], by omega, by omega, rfl, rfl, World.ownsRow_nil _ _ _ _, Below.refl _ _⟩
  case round =>
    obtain ⟨k, lp, hk2, hk3, hlp, rfl, hown, hnx⟩ := hrel
    obtain ⟨la, lc, rfl⟩ := owns_form hown
    have HLP := Hid.mk hlp
    have HOWN := Hid.mk hown
    have HNX := Hid.mk hnx
    have hws := hnx.size
    clear hlp hown hnx
    by_cases hlt : lp.length < 64
    · have hk4 : k < 312 := prs_more hk3 (by rw [← HLP.out]; exact hlt)
      obtain ⟨wa, rfl⟩ : ∃ y, y = wr := ⟨_, rfl⟩
      go_wp2
      go_loopw [5, 16] (fun is i wr => ∃ j : Nat, ∃ bb : Bool, j ≤ lp.length ∧ i = .int .i64 j ∧ is = .bool bb ∧ bb = allP (lp.take j) k ∧ wr = wa) (fun _ i _ => lp.length - (intOf i).toNat)
      case atStart => exact ⟨0, true, by omega, rfl, rfl, rfl, rfl⟩
      case round =>
        obtain ⟨j, bb, hj, rfl, rfl, hbb, rfl⟩ := hrel
        have HBB := Hid.mk hbb
        clear hbb
        by_cases hjt : j < lp.length
        · obtain ⟨b, rfl, -, hb1, hb2, hat⟩ := own_formI HOWN.out (by omega)
          have cj := hat j hjt
          have hpp := prs_pos k lp[j] (by rw [← HLP.out]; exact List.getElem_mem hjt)
          obtain ⟨pp, hp⟩ : ∃ y, lp[j] = y := ⟨_, rfl⟩
          rw [hp] at cj hpp
          obtain ⟨q, hq⟩ : ∃ y, k % pp = y := ⟨_, rfl⟩
          have hmod : (k : Int).tmod (pp : Int) = (q : Int) := by rw [Int.tmod_eq_emod_of_nonneg (by omega), ← hq]; rfl
          have hp0 : ¬ ((pp : Int) = 0) := by omega
          have hp1 : ¬ (pp = 0) := by omega
          have HS := Hid.mk (allP_snoc lp k j hjt)
          have HPQ := Hid.mk (And.intro hp hq)
          clear hat hp hq hpp
          cases bb
          · go_wp2
            go_roundw
            case rel => exact ⟨j + 1, false, by omega, by go_num, rfl, by rw [HS.out, ← HBB.out]; rfl, trivial⟩
            case measure => simp [intOf]; omega
          · by_cases hq0 : q = 0
            · subst hq0
              go_wp2
              go_roundw
              case rel => exact ⟨j + 1, false, by omega, by go_num, rfl, by rw [HS.out, ← HBB.out, HPQ.out.1, HPQ.out.2]; rfl, trivial⟩
              case measure => simp [intOf]; omega
            · have hq1 : ¬ ((q : Int) = 0) := by omega
              go_wp2
              go_roundw
              case rel => exact ⟨j + 1, true, by omega, by go_num, by simp [hq0], by rw [HS.out, ← HBB.out, HPQ.out.1, HPQ.out.2]; simp [hq0], trivial⟩
              case measure => simp [intOf]; omega
        · have hje : j = lp.length := by omega
          have hbb : bb = allP lp k := by have := HBB.out; rw [hje, List.take_length] at this; exact this
          have hst : prs (k + 1) = if bb then lp ++ [k] else lp := by
            rw [prs_succ k hk2, prStep, ← HLP.out, hbb]; rfl
          have HST := Hid.mk hst
          clear hst hbb hje
          cases bb
          · go_wp2
            go_roundw
            case rel => exact ⟨k + 1, lp, by omega, by omega, by rw [HST.out]; rfl, by go_num, HOWN.out, HNX.out⟩
            case measure => simp [intOf]; omega
          · go_wp2_with (at_builtin; refine wpList_append_own _ rfl _ _ 57 rfl w.heap.size 3 i0 (.int .i64 0) 1 8 Tryd.underlying57 hi hz0 hz1 hz2 rfl (by decide) _ _ _ rfl (HOWN.out.alloc _) ⟨wr.heap.size, 0, none⟩ 1 1 [.int .i64 (k : Int)] rfl rfl (news1i _ _ _ _ rfl) (one1i _) (by unfold maxLen; omega) (by omega) (by simp; omega) ?_; intro v' w6 hown' hgrow hnn)
            have hbl : Below w.heap.size w w6 := (HNX.out.alloc hws _).grown hgrow (by simp; omega) (fun q hq => (HOWN.out.lt q hq).1)
            have HO6 := Hid.mk (And.intro hown' hbl)
            clear hown' hgrow hnn hbl
            go_wp2
            go_roundw
            case rel => exact ⟨k + 1, lp ++ [k], by omega, by omega, by rw [HST.out]; rfl, by go_num, by rw [ic_snoc, List.length_append]; exact HO6.out.1, HO6.out.2⟩
            case measure => simp [intOf]; omega
    · have hke : k = 312 := prs_end hk3 (by rw [← HLP.out]; omega)
      have hpl : lp = pList := by rw [HLP.out, hke, prs_312]
      have HR := HOWN.out
      rw [hpl] at HR
      have HR2 := Hid.mk HR
      clear HR hke
      go_wp2
      go_ret
      exact ⟨_, rfl, by rw [hpl]; exact HR2.out, HNX.out⟩
end Go.Proofs.YtnpjdloagoaanaaDoor
