import Derived.Test.YtjceppinfjbegaaGreatDoorOpsB
import Derived.Maps.AppendAt
set_option linter.unusedSimpArgs false
set_option linter.unusedVariables false
namespace Go.Proofs.YtjceppinfjbegaaGreatDoor
open Go.RowKit

theorem held_at {w : World} {B B0 : Nat} {v : Value} {us : List Value} {rs : List (List Vl)} (hv : w.ownsRow B0 62 1 v rs.length us) (hH : HeldRows w B us rs) (k : Nat) (hk : k < rs.length) :
    ∃ g c u, v = .slice (some ⟨g, 0, none⟩) rs.length c ∧ g < w.heap.size ∧ w.cell? ⟨g, k, none⟩ = some u ∧ w.ownsRow B 24 3 u rs[k].length (valCells rs[k]) ∧ ∀ x ∈ rs[k], x.2.2.size ≤ maxLen := by
  have h0 := hv
  obtain ⟨-, ⟨rfl, hn⟩ | ⟨g, cap, cur, rfl, hg, hh, hn, hm, _, _⟩⟩ := hv
  · omega
  · have hu : k < us.length := by rw [hH.1]; exact hk
    refine ⟨g, cap, us[k], rfl, (h0.lt g rfl).2, ?_, hH.2 k hu hk⟩
    have e := h0.cellAt k (by omega)
    rw [e, List.getElem?_eq_getElem hu]
/-- Two lists do not lie in one place. -/
def Apart (u v : Value) : Prop := ∀ b, u.ownBlock = some b → v.ownBlock = some b → False
theorem apart_kept {w w' : World} {B : Nat} {v u : Value} {e : TypeId} {z k : Nat} {ys : List Value} (hu : w.ownsRow B e z u k ys) (ha : Apart u v) (hg : w.grownBy w' v.ownBlock) : w'.ownsRow B e z u k ys := by
  refine hu.kept hg ?_
  cases h : u.ownBlock with
  | none => exact Or.inl rfl
  | some b => exact Or.inr (fun e => ha b h e.symm)
theorem apart_next {w : World} {B : Nat} {v v' u : Value} {e : TypeId} {z k : Nat} {ys : List Value} (hu : w.ownsRow B e z u k ys) (ha : Apart u v) {H : Nat} (hH : w.heap.size = H) (hat : v'.ownBlock = v.ownBlock ∨ v'.ownBlock = some H) : Apart u v' := by
  subst hH
  intro b h1 h2
  rcases hat with h | h
  · exact ha b h1 (by rw [← h]; exact h2)
  · have := (hu.lt b h1).2
    rw [h] at h2
    injection h2 with h2
    omega
theorem Apart.symm {u v : Value} (h : Apart u v) : Apart v u := fun b h1 h2 => h b h2 h1
theorem filter_take {α : Type} (p : α → Bool) (l : List α) (k : Nat) (hk : k < l.length) : (l.take (k + 1)).filter p = (l.take k).filter p ++ (if p l[k] then [l[k]] else []) := by
  rw [List.take_succ_eq_append_getElem hk, List.filter_append]
  simp only [List.filter_cons, List.filter_nil]

set_option maxRecDepth 100000 in
set_option maxHeartbeats 1600000 in
/-- Rows, parted. -/
theorem parted_any (v vc : Value) (cs : List Cl) (rs : List (List Vl)) (us : List Value) (j : Jb) (jb ab B : Nat) (w : World) (hv : w.ownsRow B 62 1 v rs.length us) (hH : HeldRows w B us rs) (hB : B ≤ w.heap.size)
    (hj : JobAt w jb j) (hab : w.cell? ⟨ab, 0, none⟩ = some vc) (habl : ab < w.heap.size) (hc : ColsIs w vc cs) (h6 : cs.length ≤ 100) (hl : ∀ r ∈ rs, r.length = cs.length) (h60 : rs.length ≤ 100) (ho1 : okArg cs j.left) (ho2 : okArg cs j.right) :
    Calls Tryz.prog 81 #[v, .func (.func 82) #[] #[.pointer (some ⟨jb, 0, none⟩), .pointer (some ⟨ab, 0, none⟩)]] w fun e w' => ∃ v1 v2 us1 us2, e = .returned (.tuple #[v1, v2]) ∧ w'.ownsRow w.heap.size 62 1 v1 (rs.filter (testB cs j)).length us1 ∧ HeldRows w' B us1 (rs.filter (testB cs j)) ∧ w'.ownsRow w.heap.size 62 1 v2 (rs.filter (fun r => !testB cs j r)).length us2 ∧ HeldRows w' B us2 (rs.filter (fun r => !testB cs j r)) ∧ Below w.heap.size w w' := by
  obtain ⟨i0, hi, hz0, hz1, hz2⟩ := info_parts Tryz.infoRow
  have HV := Hid.mk (And.intro hv (And.intro hH hl))
  have HJ := Hid.mk (And.intro hj (And.intro hab hc))
  have HOK := Hid.mk (And.intro ho1 ho2)
  have hjb := hj.lt
  obtain ⟨va, vcp, rfl⟩ := own_slice hv
  clear hv hH hl hj hab hc ho1 ho2
  go_enter Tryz.func81, Tryz.ntmps81
  go_wp2
  go_loopw [4, 5, 10] (fun l1 l2 i wr => ∃ (k : Nat) (us1 us2 : List Value), k ≤ rs.length ∧ i = .int .i64 k ∧ wr.ownsRow w.heap.size 62 1 l1 ((rs.take k).filter (testB cs j)).length us1 ∧ HeldRows wr B us1 ((rs.take k).filter (testB cs j)) ∧ wr.ownsRow w.heap.size 62 1 l2 ((rs.take k).filter (fun r => !testB cs j r)).length us2 ∧ HeldRows wr B us2 ((rs.take k).filter (fun r => !testB cs j r)) ∧ Apart l1 l2 ∧ Below w.heap.size w wr) (fun _ _ i _ => rs.length - (intOf i).toNat)
  case atStart => exact ⟨0, [], [], Nat.zero_le _, rfl, World.ownsRow_nil _ _ _ _, HeldRows.nil _ _, World.ownsRow_nil _ _ _ _, HeldRows.nil _ _, fun b h => by simp [Value.ownBlock] at h, Below.refl _ _⟩
  case round =>
    obtain ⟨k, us1, us2, hk, rfl, hw1, hh1, hw2, hh2, hap, hnx⟩ := hrel
    obtain ⟨l1a, l1c, rfl⟩ := own_slice hw1
    obtain ⟨l2a, l2c, rfl⟩ := own_slice hw2
    have hws := hnx.size
    by_cases hlt : k < rs.length
    · obtain ⟨hv, hH, hl⟩ := HV.out
      obtain ⟨g, c, u, hve, hgl, hcu, huo, hus⟩ := held_at hv hH k hlt
      simp only [Value.slice.injEq, true_and] at hve
      obtain ⟨rfl, rfl⟩ := hve
      have cu := (hnx.cell (p := ⟨g, k, none⟩) hgl).trans hcu
      have huo' := owns_below huo hnx
      obtain ⟨hj, hab, hc⟩ := HJ.out
      have hT := rowsOf1_any u vc cs rs[k] j jb ab wr (hj.below hnx hjb) ((hnx.cell (p := ⟨ab, 0, none⟩) habl).trans hab) (hc.below hnx) (row_of_own huo' hus) h6 (hl _ (List.getElem_mem hlt)) HOK.out.1 HOK.out.2
      have hf1 := filter_take (testB cs j) rs k hlt
      have hf2 := filter_take (fun r => !testB cs j r) rs k hlt
      have hfl1 : ((rs.take k).filter (testB cs j)).length ≤ 100 := Nat.le_trans (List.length_filter_le _ _) (by rw [List.length_take]; omega)
      have hfl2 : ((rs.take k).filter (fun r => !testB cs j r)).length ≤ 100 := Nat.le_trans (List.length_filter_le _ _) (by rw [List.length_take]; omega)
      obtain ⟨ua, uc, rfl⟩ := own_slice huo
      have HU := Hid.mk (And.intro huo' hus)
      have HO := Hid.mk (And.intro hw1 (And.intro hh1 (And.intro hw2 (And.intro hh2 (And.intro hap hnx)))))
      clear hw1 hh1 hw2 hh2 hap hv hH hl hj hab hc huo huo' hus hcu hnx
      generalize hrk : rs[k] = rk at *
      clear hrk
      generalize hn1 : (rs.take k).filter (testB cs j) = f1 at *
      generalize hn2 : (rs.take k).filter (fun r => !testB cs j r) = f2 at *
      clear hn1 hn2
      cases ht : testB cs j rk
      · rw [ht] at hT hf1 hf2
        have HT := Hid.mk hT
        have HF := Hid.mk (And.intro hf1 hf2)
        clear hT hf1 hf2 ht
        go_wp2_with (first | (go_at_call 82; refine HT.out.mono ?_; rintro e w1 ⟨rfl, hb1⟩) | (at_builtin; refine wpList_append_own_at _ rfl _ _ 34 rfl w.heap.size 62 i0 (.slice none 0 0) 1 24 Tryz.underlying34 hi hz0 hz1 hz2 rfl (by decide) _ _ _ rfl ((owns_below HO.out.2.2.1 hb1).alloc _) ⟨w1.heap.size, 0, none⟩ 1 1 [.slice ua rk.length uc] rfl rfl (news1 _ _ _ _ rfl) (one1s _ _ _) ?c3 ?c4 ?c5 ?_))
        case c3 => unfold maxLen; omega
        case c4 => omega
        case c5 => have := hb1.size; simp; omega
        intro v' w5 hown' hgrow _ hat'
        have hs1 := hb1.size
        obtain ⟨p1, p2, p3, p4, p5, p6⟩ := HO.out
        have q1 := (owns_below p1 hb1).alloc (.cells #[.slice ua rk.length uc] 62)
        have q3 := (owns_below p3 hb1).alloc (.cells #[.slice ua rk.length uc] 62)
        have hbl5 : Below w.heap.size w w5 := ((bel_then p6 hb1).alloc (by omega) _).grown hgrow (by simp; omega) (fun q hq => (p3.lt q hq).1)
        have r1 := apart_kept q1 p5 hgrow
        have hA := apart_next q1 p5 (by simp) hat'
        have g1 := ((p2.below hb1).below (below_box w1 (.cells #[.slice ua rk.length uc] 62))).grow q3 hgrow
        have g2 := ((p4.below hb1).below (below_box w1 (.cells #[.slice ua rk.length uc] 62))).grow q3 hgrow
        have hu1 := (owns_below HU.out.1 hb1).alloc (.cells #[.slice ua rk.length uc] 62)
        have g3 := g2.snoc (hu1.kept hgrow (own_ne (by decide) hu1 q3)) HU.out.2
        have HZ := Hid.mk (And.intro hown' (And.intro r1 (And.intro hA (And.intro g1 (And.intro g3 hbl5)))))
        clear hown' r1 hA g1 g2 g3 hbl5 hgrow hu1 q1 q3 p1 p2 p3 p4 p5 p6 hat'
        go_wp2
        go_roundw
        case rel =>
          obtain ⟨z1, z2, z3, z4, z5, z6⟩ := HZ.out
          refine ⟨k + 1, us1, us2 ++ [.slice ua rk.length uc], by omega, by go_num, ?_, ?_, ?_, ?_, z3, z6⟩
          · rw [HF.out.1]; simpa using z2
          · rw [HF.out.1]; simpa using z4
          · rw [HF.out.2]; simpa using z1
          · rw [HF.out.2]; simpa using z5
        case measure => simp [intOf]; omega
      · rw [ht] at hT hf1 hf2
        have HT := Hid.mk hT
        have HF := Hid.mk (And.intro hf1 hf2)
        clear hT hf1 hf2 ht
        go_wp2_with (first | (go_at_call 82; refine HT.out.mono ?_; rintro e w1 ⟨rfl, hb1⟩) | (at_builtin; refine wpList_append_own_at _ rfl _ _ 34 rfl w.heap.size 62 i0 (.slice none 0 0) 1 24 Tryz.underlying34 hi hz0 hz1 hz2 rfl (by decide) _ _ _ rfl ((owns_below HO.out.1 hb1).alloc _) ⟨w1.heap.size, 0, none⟩ 1 1 [.slice ua rk.length uc] rfl rfl (news1 _ _ _ _ rfl) (one1s _ _ _) ?c3 ?c4 ?c5 ?_))
        case c3 => unfold maxLen; omega
        case c4 => omega
        case c5 => have := hb1.size; simp; omega
        intro v' w5 hown' hgrow _ hat'
        have hs1 := hb1.size
        obtain ⟨p1, p2, p3, p4, p5, p6⟩ := HO.out
        have q1 := (owns_below p1 hb1).alloc (.cells #[.slice ua rk.length uc] 62)
        have q3 := (owns_below p3 hb1).alloc (.cells #[.slice ua rk.length uc] 62)
        have hbl5 : Below w.heap.size w w5 := ((bel_then p6 hb1).alloc (by omega) _).grown hgrow (by simp; omega) (fun q hq => (p1.lt q hq).1)
        have r1 := apart_kept q3 p5.symm hgrow
        have hA := (apart_next q3 p5.symm (by simp) hat').symm
        have g1 := ((p4.below hb1).below (below_box w1 (.cells #[.slice ua rk.length uc] 62))).grow q1 hgrow
        have g2 := ((p2.below hb1).below (below_box w1 (.cells #[.slice ua rk.length uc] 62))).grow q1 hgrow
        have hu1 := (owns_below HU.out.1 hb1).alloc (.cells #[.slice ua rk.length uc] 62)
        have g3 := g2.snoc (hu1.kept hgrow (own_ne (by decide) hu1 q1)) HU.out.2
        have HZ := Hid.mk (And.intro hown' (And.intro r1 (And.intro hA (And.intro g1 (And.intro g3 hbl5)))))
        clear hown' r1 hA g1 g2 g3 hbl5 hgrow hu1 q1 q3 p1 p2 p3 p4 p5 p6 hat'
        go_wp2
        go_roundw
        case rel =>
          obtain ⟨z1, z2, z3, z4, z5, z6⟩ := HZ.out
          refine ⟨k + 1, us1 ++ [.slice ua rk.length uc], us2, by omega, by go_num, ?_, ?_, ?_, ?_, z3, z6⟩
          · rw [HF.out.1]; simpa using z1
          · rw [HF.out.1]; simpa using z5
          · rw [HF.out.2]; simpa using z2
          · rw [HF.out.2]; simpa using z4
        case measure => simp [intOf]; omega
    · have hke : k = rs.length := by omega
      subst hke
      simp only [List.take_length] at hw1 hh1 hw2 hh2 ⊢
      have HO := Hid.mk (And.intro hw1 (And.intro hh1 (And.intro hw2 (And.intro hh2 hnx))))
      clear hw1 hh1 hw2 hh2 hnx hap
      go_wp2
      go_ret2
      exact ⟨_, _, us1, us2, rfl, HO.out.1, HO.out.2.1, HO.out.2.2.1, HO.out.2.2.2.1, HO.out.2.2.2.2⟩
end Go.Proofs.YtjceppinfjbegaaGreatDoor

namespace Go.Proofs.YtjceppinfjbegaaGreatDoor
open Go.RowKit

/-- Tables in a list. -/
abbrev Tb := List Cl × List (List Vl)
def TabsAt (w : World) (b o : Nat) (ts : List Tb) : Prop := ∀ (j : Nat) (h : j < ts.length), ∃ vc vr, w.cell? ⟨b, o + j * 2, none⟩ = some vc ∧ w.cell? ⟨b, o + j * 2 + 1, none⟩ = some vr ∧ ColsIs w vc ts[j].1 ∧ RowsIs w vr ts[j].2
theorem TabsAt.below {w w' : World} {b o : Nat} {ts : List Tb} (h : TabsAt w b o ts) (hb : Below w.heap.size w w') (hl : b < w.heap.size) : TabsAt w' b o ts := fun j hj => by
  obtain ⟨vc, vr, h1, h2, h3, h4⟩ := h j hj
  exact ⟨vc, vr, (hb.cell (p := ⟨b, o + j * 2, none⟩) hl).trans h1, (hb.cell (p := ⟨b, o + j * 2 + 1, none⟩) hl).trans h2, h3.below hb, h4.below hb⟩

def eI (n : Int) : Value := .iface 40 (.int .i64 n)
def sizesI (code : Int) : Int × Int := if code = 5 ∨ code = 7 then (2, 1) else if code = 9 then (1, 2) else if 1 ≤ code ∧ code ≤ 8 then (1, 1) else (0, 0)

set_option maxHeartbeats 800000 in
theorem sizes_any (code : Int) (w : World) :
    Calls Tryz.prog 9 #[.int .i64 code] w fun e w' => e = .returned (.tuple #[.int .i64 (sizesI code).1, .int .i64 (sizesI code).2]) ∧ w' = w := by
  by_cases h : 1 ≤ code ∧ code ≤ 9
  · have : code = 1 ∨ code = 2 ∨ code = 3 ∨ code = 4 ∨ code = 5 ∨ code = 6 ∨ code = 7 ∨ code = 8 ∨ code = 9 := by omega
    clear h
    rcases this with h | h | h | h | h | h | h | h | h
    all_goals
      subst h
      go_enter Tryz.func9, Tryz.ntmps9
      go_wp2
      go_ret2
      exact ⟨rfl, rfl⟩
  · have e1 : ¬ (code = 1) := by omega
    have e2 : ¬ (code = 2) := by omega
    have e3 : ¬ (code = 3) := by omega
    have e4 : ¬ (code = 4) := by omega
    have e5 : ¬ (code = 5) := by omega
    have e6 : ¬ (code = 6) := by omega
    have e7 : ¬ (code = 7) := by omega
    have e8 : ¬ (code = 8) := by omega
    have e9 : ¬ (code = 9) := by omega
    have hs : sizesI code = (0, 0) := by
      unfold sizesI
      rw [if_neg (by omega), if_neg e9, if_neg (by omega)]
    rw [hs]
    clear h hs
    go_enter Tryz.func9, Tryz.ntmps9
    go_wp2
    go_ret2
    exact ⟨rfl, rfl⟩

/-- The kind of an argument. -/
def kindA (cs : List Cl) (x : Ag) : Int := if x.1.data.toList = [] then (if rvB x.2 = true then x.2.1 else 0) else match placeN cs x.1.data.toList with
  | some i => if x.2.1 = 0 ∧ x.2.2.1 = 0 ∧ x.2.2.2.data.toList = [] then (cs[i]?.getD (⟨#[]⟩, 0)).2 else 0
  | none => 0
end Go.Proofs.YtjceppinfjbegaaGreatDoor

namespace Go.Proofs.YtjceppinfjbegaaGreatDoor
open Go.RowKit

set_option maxRecDepth 100000 in
set_option maxHeartbeats 1600000 in
theorem kindOf_in (b o n c : Nat) (cs : List Cl) (x : Ag) (w : World) (hn : cs.length = n) (hn' : n ≤ 100) (hb : b < w.heap.size) (hc : ColsAt w b o cs) (hx : x.2.2.2.size ≤ maxLen) :
    Calls Tryz.prog 104 #[aggA x, .slice (some ⟨b, o, none⟩) n c] w fun e w' => e = .returned (.int .i64 (kindA cs x)) ∧ Below w.heap.size w w' := by
  by_cases h0 : x.1.data.toList = []
  · have he : x.1.toList.isEmpty = true := by rw [ByteArray.toList_eq, h0]; rfl
    have hk : kindA cs x = if rvB x.2 = true then x.2.1 else 0 := by unfold kindA; rw [if_pos h0]
    have hR := fun W => rightValue_any x.2.1 x.2.2.1 x.2.2.2 W hx
    rw [show rightValueB x.2.1 x.2.2.1 x.2.2.2.data.toList = rvB x.2 from rfl] at hR
    cases g : rvB x.2
    · rw [g] at hR hk
      have HR := Hid.mk hR
      rw [hk]
      clear hR hk g h0 hn hc
      go_enter Tryz.func104, Tryz.ntmps104
      go_wp2_with (go_at_call 116; refine (HR.out _).mono ?_; rintro e w1 ⟨rfl, hb1⟩)
      go_ret
      exact ⟨rfl, bel_then (below_box _ _) hb1⟩
    · rw [g] at hR hk
      have HR := Hid.mk hR
      rw [hk]
      clear hR hk g h0 hn hc
      go_enter Tryz.func104, Tryz.ntmps104
      go_wp2_with (go_at_call 116; refine (HR.out _).mono ?_; rintro e w1 ⟨rfl, hb1⟩; obtain ⟨hc1, hf1⟩ := bcell hb1)
      go_ret
      exact ⟨rfl, bel_then (below_box _ _) hb1⟩
  · have he : x.1.toList.isEmpty = false := by
      rw [ByteArray.toList_eq]
      cases h : x.1.data.toList with
      | nil => exact absurd h h0
      | cons a q => rfl
    have hP := fun W (h1 : Below w.heap.size w W) => place_in b o n c cs x.1 W hn hn' (by have := h1.size; omega) (hc.below h1 hb)
    cases g : placeN cs x.1.data.toList with
    | none =>
      have hk : kindA cs x = 0 := by unfold kindA; rw [if_neg h0, g]
      rw [show placeI cs x.1.data.toList = -1 by rw [placeI, g]] at hP
      have HP := Hid.mk hP
      rw [hk]
      clear hP hk g h0 hn hc
      go_enter Tryz.func104, Tryz.ntmps104
      go_wp2_with (go_at_call 71; refine (HP.out _ (below_box _ _)).mono ?_; rintro e w1 ⟨rfl, hb1⟩; obtain ⟨hc1, hf1⟩ := bcell hb1)
      go_ret
      exact ⟨rfl, bel_then (below_box _ _) hb1⟩
    | some i =>
      have hil := place_some g
      have hk : kindA cs x = if x.2.1 = 0 ∧ x.2.2.1 = 0 ∧ x.2.2.2.data.toList = [] then cs[i].2 else 0 := by
        unfold kindA; rw [if_neg h0, g]
        simp only [List.getElem?_eq_getElem hil, Option.getD_some]
      rw [show placeI cs x.1.data.toList = (i : Int) by rw [placeI, g]] at hP
      have HP := Hid.mk hP
      have d1 := (hc i hil).1
      have d2 := (hc i hil).2
      have hin : (i : Int) < (n : Int) := by omega
      rw [hk]
      clear hP hk g h0 hc
      generalize hcsi : cs[i] = ci at *
      clear hcsi hil hn
      by_cases z1 : x.2.1 = 0
      · by_cases z2 : x.2.2.1 = 0
        · by_cases z3 : x.2.2.2.data.toList = []
          · have z3' : x.2.2.2.toList.isEmpty = true := by rw [ByteArray.toList_eq, z3]; rfl
            rw [if_pos ⟨z1, z2, z3⟩]
            clear z3
            go_enter Tryz.func104, Tryz.ntmps104
            go_wp2_with (go_at_call 71; refine (HP.out _ (below_box _ _)).mono ?_; rintro e w1 ⟨rfl, hb1⟩; obtain ⟨hc1, hf1⟩ := bcell hb1)
            go_ret
            exact ⟨rfl, bel_then (below_box _ _) hb1⟩
          · have z3' : x.2.2.2.toList.isEmpty = false := by
              rw [ByteArray.toList_eq]
              cases h : x.2.2.2.data.toList with
              | nil => exact absurd h z3
              | cons a q => rfl
            rw [if_neg (fun h => z3 h.2.2)]
            clear z3
            go_enter Tryz.func104, Tryz.ntmps104
            go_wp2_with (go_at_call 71; refine (HP.out _ (below_box _ _)).mono ?_; rintro e w1 ⟨rfl, hb1⟩; obtain ⟨hc1, hf1⟩ := bcell hb1)
            go_ret
            exact ⟨rfl, bel_then (below_box _ _) hb1⟩
        · rw [if_neg (fun h => z2 h.2.1)]
          have z2' : (x.2.2.1 == 0) = false := by simp [z2]
          go_enter Tryz.func104, Tryz.ntmps104
          go_wp2_with (go_at_call 71; refine (HP.out _ (below_box _ _)).mono ?_; rintro e w1 ⟨rfl, hb1⟩; obtain ⟨hc1, hf1⟩ := bcell hb1)
          go_ret
          exact ⟨rfl, bel_then (below_box _ _) hb1⟩
      · rw [if_neg (fun h => z1 h.1)]
        have z1' : (x.2.1 == 0) = false := by simp [z1]
        go_enter Tryz.func104, Tryz.ntmps104
        go_wp2_with (go_at_call 71; refine (HP.out _ (below_box _ _)).mono ?_; rintro e w1 ⟨rfl, hb1⟩; obtain ⟨hc1, hf1⟩ := bcell hb1)
        go_ret
        exact ⟨rfl, bel_then (below_box _ _) hb1⟩
end Go.Proofs.YtjceppinfjbegaaGreatDoor

