import Derived.Test.YtjceppinfjbegaaGreatDoorWalkK
set_option linter.unusedSimpArgs false
set_option linter.unusedVariables false
namespace Go.Proofs.YtjceppinfjbegaaGreatDoor
open Go.RowKit

abbrev V3 := Int × Int × List UInt8
def vl (x : V3) : Vl := (x.1, x.2.1, ⟨x.2.2.toArray⟩)

/-- What a row's text is read as. -/
def rowRead : List Cl → List UInt8 → Bool → Option (List V3)
  | [], _, more => if more then none else some []
  | c :: q, rest, _ => match parseV (cutV false rest).1 with
    | none => none
    | some v => if v.1 = c.2 then (rowRead q (cutV false rest).2.1 (cutV false rest).2.2).map (v :: ·) else none

def valCells (vs : List Vl) : List Value := vs.flatMap fun v => [.int .i64 v.1, .int .i64 v.2.1, .string v.2.2]
theorem valCells_append (a b : List Vl) : valCells (a ++ b) = valCells a ++ valCells b := by simp [valCells]
theorem valCells_at : ∀ (vs : List Vl) (j : Nat) (h : j < vs.length), (valCells vs)[j * 3]? = some (.int .i64 vs[j].1) ∧ (valCells vs)[j * 3 + 1]? = some (.int .i64 vs[j].2.1) ∧ (valCells vs)[j * 3 + 2]? = some (.string vs[j].2.2)
  | [], _, h => absurd h (by simp)
  | c :: r, 0, _ => ⟨rfl, rfl, rfl⟩
  | c :: r, j + 1, h => by
    have := valCells_at r j (by simpa using h)
    have e : valCells (c :: r) = .int .i64 c.1 :: .int .i64 c.2.1 :: .string c.2.2 :: valCells r := by simp [valCells]
    rw [e, show (j + 1) * 3 = j * 3 + 1 + 1 + 1 by omega]
    simpa using this
theorem row_of_own {w : World} {base : Nat} {v : Value} {vs : List Vl} (h : w.ownsRow base 24 3 v vs.length (valCells vs)) (hs : ∀ x ∈ vs, x.2.2.size ≤ maxLen) : RowIs w v vs := by
  have h0 := h
  obtain ⟨-, h | ⟨g, cap, cur, rfl, hg, hh, hn, hm, _, _⟩⟩ := h
  · obtain ⟨rfl, hn⟩ := h
    exact ⟨none, 0, by rw [hn], hs, Or.inl (List.length_eq_zero_iff.1 hn)⟩
  · refine ⟨some ⟨g, 0, none⟩, cap, rfl, hs, Or.inr ⟨g, 0, rfl, (h0.lt g rfl).2, fun j hj => ?_⟩⟩
    have hc := valCells_at vs j hj
    have e1 := h0.cellAt (j * 3) (by omega)
    have e2 := h0.cellAt (j * 3 + 1) (by omega)
    have e3 := h0.cellAt (j * 3 + 2) (by omega)
    rw [show 0 + j * 3 = j * 3 by omega]
    exact ⟨e1.trans hc.1, e2.trans hc.2.1, e3.trans hc.2.2⟩

theorem cutV_len : ∀ (l : List UInt8) (q : Bool), (cutV q l).1.length ≤ l.length ∧ (cutV q l).2.1.length ≤ l.length
  | [], _ => ⟨Nat.le_refl _, Nat.le_refl _⟩
  | c :: r, q => by
    have h1 := cutV_len r q
    have h2 := cutV_len r (!q)
    unfold cutV
    split
    · simp; omega
    · split
      · simp
      · simp; omega
theorem parseV_len {l : List UInt8} {v : V3} (h : parseV l = some v) : rightValueB v.1 v.2.1 v.2.2 = true ∧ v.2.2.length ≤ 16 := by
  unfold parseV at h
  split at h
  · rename_i h'
    injection h with h
    subst h
    exact ⟨h'.1, (right_small h'.1).1⟩
  · exact absurd h (by simp)

theorem parseValue_none (s : ByteArray) (w : World) (hs : s.size ≤ 1000000) (hE : Env w) (h : parseV s.data.toList = none) :
    Calls Tryz.prog 130 #[.string s] w fun e w' => e = .returned (.tuple #[.agg #[.int .i64 0, .int .i64 0, .string ⟨#[]⟩], .iface 40 (.int .i64 3)]) ∧ Below w.heap.size w w' := by
  have := parseValue_any s w hs hE
  rw [h] at this; exact this
theorem parseValue_some (s : ByteArray) (w : World) (v : V3) (hs : s.size ≤ 1000000) (hE : Env w) (h : parseV s.data.toList = some v) :
    Calls Tryz.prog 130 #[.string s] w fun e w' => e = .returned (.tuple #[.agg #[.int .i64 v.1, .int .i64 v.2.1, .string ⟨v.2.2.toArray⟩], .nilIface]) ∧ Below w.heap.size w w' := by
  have := parseValue_any s w hs hE
  rw [h] at this; exact this

/-- What is told of a row's line. -/
def rowEnd (e : Ending) (w' : World) (B : Nat) : Option (List V3) → Prop
  | some vs => ∃ v, e = .returned (.tuple #[v, .bool true]) ∧ w'.ownsRow B 24 3 v vs.length (valCells (vs.map vl)) ∧ ∀ x ∈ vs, x.2.2.length ≤ 16
  | none => e = .returned (.tuple #[.slice none 0 0, .bool false])

def rowTo (cs : List Cl) (l : List UInt8) (k : Nat) (rest : List UInt8) (more : Bool) (acc : List V3) : Prop :=
  acc.length = k ∧ (∀ v ∈ acc, v.2.2.length ≤ 16) ∧ rest.length ≤ l.length ∧ rowRead cs l false = (rowRead (cs.drop k) rest more).map (acc ++ ·)

theorem rowTo_zero (cs : List Cl) (l : List UInt8) : rowTo cs l 0 l false [] := ⟨rfl, by simp, Nat.le_refl _, by simp⟩
theorem rowTo_step {cs : List Cl} {l rest : List UInt8} {k : Nat} {more : Bool} {acc : List V3} {v : V3} (h : rowTo cs l k rest more acc) (hk : k < cs.length) (hp : parseV (cutV false rest).1 = some v) (hv : v.1 = cs[k].2) :
    rowTo cs l (k + 1) (cutV false rest).2.1 (cutV false rest).2.2 (acc ++ [v]) := by
  obtain ⟨h1, h2, h3, h4⟩ := h
  refine ⟨by simp [h1], ?_, by have := (cutV_len rest false).2; omega, ?_⟩
  · intro x hx
    rw [List.mem_append] at hx
    rcases hx with hx | hx
    · exact h2 x hx
    · simp at hx; rw [hx]; exact (parseV_len hp).2
  · rw [h4, List.drop_eq_getElem_cons hk]
    simp only [rowRead, hp, hv, if_true, Option.map_map]
    congr 1
    funext x
    simp
theorem rowTo_bad {cs : List Cl} {l rest : List UInt8} {k : Nat} {more : Bool} {acc : List V3} (h : rowTo cs l k rest more acc) (hk : k < cs.length) (hp : parseV (cutV false rest).1 = none ∨ ∃ v, parseV (cutV false rest).1 = some v ∧ v.1 ≠ cs[k].2) : rowRead cs l false = none := by
  rw [h.2.2.2, List.drop_eq_getElem_cons hk]
  rcases hp with hp | ⟨v, hp, hv⟩
  · simp [rowRead, hp]
  · simp [rowRead, hp, hv]
theorem rowTo_end {cs : List Cl} {l rest : List UInt8} {k : Nat} {more : Bool} {acc : List V3} (h : rowTo cs l k rest more acc) (hk : ¬ k < cs.length) : rowRead cs l false = if more then none else some acc := by
  rw [h.2.2.2, List.drop_eq_nil_of_le (by omega)]
  cases more <;> simp [rowRead]

theorem bel_alloc {w wr w2 : World} {o : Obj} (h1 : Below w.heap.size w wr) (h2 : Below (wr.alloc o).heap.size (wr.alloc o) w2) : Below w.heap.size w w2 :=
  (h1.alloc h1.size o).trans (h2.mono (by have := h1.size; simp; omega))
theorem bel_then {w w2 w3 : World} (h1 : Below w.heap.size w w2) (h2 : Below w2.heap.size w2 w3) : Below w.heap.size w w3 := h1.trans (h2.mono h1.size)
theorem bel_box {w w2 : World} (h1 : Below w.heap.size w w2) (o : Obj) : Below w.heap.size w (w2.alloc o) := h1.alloc h1.size o

theorem Tryz.infoVal : (Tryz.prog.info? 24).map (fun i => (i.zero, i.size, i.bytes)) = some (some (.agg #[.int .i64 0, .int .i64 0, .string ⟨#[]⟩]), 3, 32) := by kernel_rfl

set_option maxRecDepth 100000 in
set_option maxHeartbeats 3200000 in
theorem parseRow_in (s : ByteArray) (b o n c : Nat) (cs : List Cl) (w : World) (hs : s.size ≤ 100000) (hE : Env w) (hn : cs.length = n) (h6 : n ≤ 100) (hb : b < w.heap.size) (hc : ColsAt w b o cs) :
    Calls Tryz.prog 97 #[.string s, .slice (some ⟨b, o, none⟩) n c] w fun e w' => Below w.heap.size w w' ∧ rowEnd e w' w.heap.size (rowRead cs s.data.toList false) := by
  obtain ⟨i0, hi, hz0, hz1, hz2⟩ := info_parts Tryz.infoVal
  have HN := Hid.mk hn
  have HE := Hid.mk hE
  clear hn hE
  go_enter Tryz.func97, Tryz.ntmps97
  go_wp2
  go_loopw [6, 7, 8, 17] (fun v r m i wr => ∃ (k : Nat) (rest : List UInt8) (more : Bool) (acc : List V3), k ≤ n ∧ r = .string ⟨rest.toArray⟩ ∧ m = .bool more ∧ i = .int .i64 k ∧ rowTo cs s.data.toList k rest more acc ∧ wr.ownsRow w.heap.size 24 3 v k (valCells (acc.map vl)) ∧ Below w.heap.size w wr) (fun _ _ _ i _ => n - (intOf i).toNat)
  case atStart => exact ⟨0, s.data.toList, false, [], Nat.zero_le _, by simp, rfl, rfl, rowTo_zero _ _, World.ownsRow_nil _ _ _ _, Below.refl _ _⟩
  case round =>
    obtain ⟨k, rest, more, acc, hk, rfl, rfl, rfl, hto, hown, hnx⟩ := hrel
    have HTO := Hid.mk hto
    have hrl : rest.length ≤ 100000 := by have := hto.2.2.1; simp at this; omega
    clear hto
    by_cases hlt : k < n
    · have hk2 : k < cs.length := by have := HN.out; omega
      obtain ⟨c1, c2⟩ := hc k hk2
      have d1 := (hnx.cell (p := ⟨b, o + k * 2, none⟩) hb).trans c1
      have d2 := (hnx.cell (p := ⟨b, o + k * 2 + 1, none⟩) hb).trans c2
      clear c1 c2
      have HEr := Hid.mk (HE.out.below hnx)
      have hCV := cutValue_any ⟨rest.toArray⟩ (wr.alloc (.cells #[.string cs[k].1, .int .i64 cs[k].2] 60)) (by unfold maxLen; simp [ByteArray.size]; omega)
      have HCV : Hid (Calls Tryz.prog 129 #[.string ⟨rest.toArray⟩] (wr.alloc (.cells #[.string cs[k].1, .int .i64 cs[k].2] 60)) fun e w' => e = .returned (.tuple #[.string ⟨(cutV false rest).1.toArray⟩, .string ⟨(cutV false rest).2.1.toArray⟩, .bool (cutV false rest).2.2]) ∧ Below (wr.alloc (.cells #[.string cs[k].1, .int .i64 cs[k].2] 60)).heap.size (wr.alloc (.cells #[.string cs[k].1, .int .i64 cs[k].2] 60)) w') := hCV
      clear hCV
      have hxl := (cutV_len rest false).1
      cases hp : parseV (cutV false rest).1 with
      | none =>
        have HBAD := Hid.mk (rowTo_bad HTO.out hk2 (Or.inl hp))
        have HP := Hid.mk hp
        clear hp
        go_wp2_with (first | (go_at_call 129; refine HCV.out.mono ?_; rintro e w2 ⟨rfl, hb2⟩; obtain ⟨hc2, hf2⟩ := bcell hb2) | (go_at_call 130; refine (parseValue_none _ _ (by simp [ByteArray.size]; omega) ((HEr.out.below (below_box _ _)).below hb2) HP.out).mono ?_; rintro e w3 ⟨rfl, hb3⟩; obtain ⟨hc3, hf3⟩ := bcell hb3))
        go_ret2
        exact ⟨bel_box (bel_then (bel_alloc hnx hb2) hb3) _, by rw [HBAD.out]; rfl⟩
      | some v =>
        have HP := Hid.mk hp
        clear hp
        cases hkd : (v.1 != cs[k].2)
        · have hkd' : v.1 = cs[k].2 := by simpa using hkd
          have HST := Hid.mk (rowTo_step HTO.out hk2 HP.out hkd')
          clear hkd'
          go_wp2_with (first | (go_at_call 129; refine HCV.out.mono ?_; rintro e w2 ⟨rfl, hb2⟩; obtain ⟨hc2, hf2⟩ := bcell hb2; have hz2' : wr.heap.size < w2.heap.size := by (have := hb2.size; simp at this; omega)) | (go_at_call 130; refine (parseValue_some _ _ v (by simp [ByteArray.size]; omega) ((HEr.out.below (below_box _ _)).below hb2) HP.out).mono ?_; rintro e w3 ⟨rfl, hb3⟩; obtain ⟨hc3, hf3⟩ := bcell hb3; have hz3' : wr.heap.size < w3.heap.size := by (have := hb3.size; omega)) | (at_builtin; refine wpList_append_own _ rfl _ _ 62 rfl w.heap.size 24 i0 (.agg #[.int .i64 0, .int .i64 0, .string ⟨#[]⟩]) 3 32 Tryz.underlying62 hi hz0 hz1 hz2 rfl (by decide) _ _ _ rfl (((owns_below (owns_below (hown.alloc _) hb2) hb3).alloc _).alloc _) ⟨w3.heap.size + 1, 0, none⟩ 1 1 [.int .i64 v.1, .int .i64 v.2.1, .string ⟨v.2.2.toArray⟩] rfl rfl ?c1 ?c2 ?c3 ?c4 ?c5 ?_))
          case c1 =>
            intro j u hj
            match j, hj with
            | 0, hj => simp at hj; subst hj; simp [Addr.add]
            | 1, hj => simp at hj; subst hj; simp [Addr.add]
            | 2, hj => simp at hj; subst hj; simp [Addr.add]
          case c2 => intro u hu; simp at hu; rcases hu with rfl | rfl | rfl <;> rfl
          case c3 => unfold maxLen; omega
          case c4 => omega
          case c5 => have := hnx.size; simp; omega
          · intro v' w4 hown' hgrow _
            have hbl : Below w.heap.size w w4 := ((bel_box (bel_box (bel_then (bel_alloc hnx hb2) hb3) _) _)).grown hgrow (by have := hnx.size; simp; omega) (fun q hq => (hown.lt q hq).1)
            clear hc2 hf2 hc3 hf3
            go_wp2
            go_roundw
            case rel => exact ⟨k + 1, (cutV false rest).2.1, (cutV false rest).2.2, acc ++ [v], by omega, rfl, rfl, by go_num, HST.out, by rw [List.map_append, valCells_append]; exact hown', hbl⟩
            case measure => simp [intOf]; omega
        · have hkd' : v.1 ≠ cs[k].2 := by simpa using hkd
          have HBAD := Hid.mk (rowTo_bad HTO.out hk2 (Or.inr ⟨v, HP.out, hkd'⟩))
          clear hkd'
          go_wp2_with (first | (go_at_call 129; refine HCV.out.mono ?_; rintro e w2 ⟨rfl, hb2⟩; obtain ⟨hc2, hf2⟩ := bcell hb2; have hz2' : wr.heap.size < w2.heap.size := by (have := hb2.size; simp at this; omega)) | (go_at_call 130; refine (parseValue_some _ _ v (by simp [ByteArray.size]; omega) ((HEr.out.below (below_box _ _)).below hb2) HP.out).mono ?_; rintro e w3 ⟨rfl, hb3⟩; obtain ⟨hc3, hf3⟩ := bcell hb3; have hz3' : wr.heap.size < w3.heap.size := by (have := hb3.size; omega)))
          go_ret2
          exact ⟨bel_box (bel_then (bel_alloc hnx hb2) hb3) _, by rw [HBAD.out]; rfl⟩
    · have HEND := Hid.mk (rowTo_end HTO.out (by have := HN.out; omega))
      have hacc : acc.length = k := HTO.out.1
      have hsm := HTO.out.2.1
      rw [← hacc] at hown
      have HR := Hid.mk hown
      have HS := Hid.mk hsm
      clear hacc hsm hown
      cases more
      · go_wp2
        go_ret2
        refine ⟨hnx, ?_⟩
        rw [HEND.out]
        exact ⟨_, rfl, HR.out, HS.out⟩
      · go_wp2
        go_ret2
        refine ⟨hnx, ?_⟩
        rw [HEND.out]
        rfl
end Go.Proofs.YtjceppinfjbegaaGreatDoor

