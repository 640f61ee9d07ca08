import Derived.Test.YtnpjdloagoaanaaDoorSumK
import Derived.OwnWalk
set_option linter.unusedSimpArgs false
set_option linter.unusedVariables false
namespace Go.Proofs.YtnpjdloagoaanaaDoor
open Go.RowKit

def uc (l : List Nat) : List Value := l.map fun (d : Nat) => .int .u64 (d : Int)
theorem uc_len (l : List Nat) : (uc l).length = l.length := by simp [uc]
theorem uc_snoc (l : List Nat) (d : Nat) : uc (l ++ [d]) = uc l ++ [.int .u64 (d : Int)] := by simp [uc]
theorem info54 : (Tryd.prog.info? 54).map (fun i => (i.zero, i.size, i.bytes)) = some (some (.int .u64 0), 1, 8) := by kernel_rfl
/-- Numbers in memory. -/
def UsAt (w : World) (b : Nat) (l : List Nat) : Prop := ∀ j (h : j < l.length), w.cell? ⟨b, j, none⟩ = some (.int .u64 (l[j] : Int))
theorem UsAt.below {w w' : World} {B b : Nat} {l : List Nat} (h : UsAt w b l) (hb : Below B w w') (hlt : b < B) : UsAt w' b l := fun j hj => (hb.cell (p := ⟨b, j, none⟩) hlt).trans (h j hj)
theorem own_form {w : World} {B : Nat} {v : Value} {l : List Nat} (h : w.ownsRow B 54 1 v l.length (uc l)) (h0 : 0 < l.length) : ∃ b c, v = .slice (some ⟨b, 0, none⟩) l.length c ∧ B ≤ b ∧ b < w.heap.size ∧ UsAt w b l := by
  have h' := h
  obtain ⟨-, ⟨rfl, hn⟩ | ⟨g, cp, cur, rfl, hg, hh, -⟩⟩ := h
  · omega
  · refine ⟨g, cp, rfl, hg, ?_, fun j hj => ?_⟩
    · rcases Nat.lt_or_ge g w.heap.size with h | h
      · exact h
      · rw [Array.getElem?_eq_none h] at hh; simp at hh
    · rw [h'.cellAt j (by omega), uc, List.getElem?_map, List.getElem?_eq_getElem hj]; rfl
/-- What the multiplication keeps to: so many digits are out, so much is over. -/
def TimesAt (vl : List Nat) (x c : Nat) (o : List Nat) : Prop :=
  val o + 65536 ^ o.length * (val (vl.drop o.length) * x + c) = val vl * x ∧ Digs o ∧ c ≤ x ∧ o.length ≤ vl.length + 3 ∧ (vl.length ≤ o.length → c < 65536 ^ (vl.length + 3 - o.length))
theorem times_zero (vl : List Nat) (x : Nat) : TimesAt vl x 0 [] := ⟨by simp [val], fun d hd => by simp at hd, by omega, by simp, fun h => Nat.pow_pos (by omega)⟩
theorem times_in {vl : List Nat} {x c : Nat} {o : List Nat} (h : TimesAt vl x c o) (hx : x < 65536 ^ 3) (hd : Digs vl) (hi : o.length < vl.length) : TimesAt vl x ((c + vl[o.length] * x) / 65536) (o ++ [(c + vl[o.length] * x) % 65536]) := by
  obtain ⟨h1, h2, h3, h4, h5⟩ := h
  have hdi := hd _ (List.getElem_mem hi)
  generalize hdd : vl[o.length] = d at *
  have hp : d * x ≤ 65535 * x := Nat.mul_le_mul_right x (by omega)
  have hc' : (c + d * x) / 65536 ≤ x := by omega
  refine ⟨?_, h2.snoc (by omega), hc', by simp; omega, fun _ => ?_⟩
  · rw [val_append, List.length_append, List.length_singleton, ← h1]
    have e : val (vl.drop o.length) = d + 65536 * val (vl.drop (o.length + 1)) := by
      rw [List.drop_eq_getElem_cons hi, val, hdd]
    rw [e]
    simp only [val, Nat.mul_zero, Nat.add_zero, Nat.pow_succ]
    have e2 : (c + d * x) = 65536 * ((c + d * x) / 65536) + (c + d * x) % 65536 := by omega
    generalize hq : (c + d * x) / 65536 = q at *
    generalize hr : (c + d * x) % 65536 = r at *
    generalize val (vl.drop (o.length + 1)) = T
    have e3 : (d + 65536 * T) * x + c = 65536 * (T * x + q) + r := by
      rw [Nat.add_mul, Nat.mul_assoc]; omega
    rw [e3]
    generalize 65536 ^ o.length = M
    rw [Nat.mul_add M, Nat.mul_assoc, Nat.mul_add 65536]
    omega
  · rw [List.length_append, List.length_singleton]
    have hle : o.length + 1 ≤ vl.length := hi
    refine Nat.lt_of_le_of_lt hc' (Nat.lt_of_lt_of_le hx (Nat.pow_le_pow_right (by omega) (by omega)))
theorem times_out {vl : List Nat} {x c : Nat} {o : List Nat} (h : TimesAt vl x c o) (hi : vl.length ≤ o.length) (hc : 0 < c) : o.length < vl.length + 3 ∧ TimesAt vl x (c / 65536) (o ++ [c % 65536]) := by
  obtain ⟨h1, h2, h3, h4, h5⟩ := h
  have hlt : o.length < vl.length + 3 := by
    rcases Nat.lt_or_ge o.length (vl.length + 3) with h | h
    · exact h
    · have := h5 hi
      rw [show vl.length + 3 - o.length = 0 by omega] at this
      simp at this; omega
  refine ⟨hlt, ?_, h2.snoc (by omega), by omega, by simp; omega, fun _ => ?_⟩
  · rw [val_append, List.length_append, List.length_singleton, ← h1, List.drop_eq_nil_of_le hi, List.drop_eq_nil_of_le (by omega)]
    simp only [val, Nat.zero_mul, Nat.zero_add, Nat.mul_zero, Nat.add_zero, Nat.pow_succ]
    generalize 65536 ^ o.length = M
    have e2 : c = 65536 * (c / 65536) + c % 65536 := by omega
    generalize hq : c / 65536 = q at *
    generalize hr : c % 65536 = r at *
    rw [e2, Nat.mul_add M, Nat.mul_assoc]
    omega
  · have := h5 hi
    obtain ⟨m, hm⟩ : ∃ m, vl.length + 3 - o.length = m + 1 := ⟨vl.length + 2 - o.length, by omega⟩
    rw [hm, Nat.pow_succ] at this
    rw [List.length_append, List.length_singleton, show vl.length + 3 - (o.length + 1) = m by omega]
    exact Nat.div_lt_of_lt_mul (by rw [Nat.mul_comm]; exact this)
theorem times_end {vl : List Nat} {x : Nat} {o : List Nat} (h : TimesAt vl x 0 o) (hi : vl.length ≤ o.length) : val o = val vl * x ∧ Digs o ∧ o.length ≤ vl.length + 3 ∧ vl.length ≤ o.length := by
  obtain ⟨h1, h2, h3, h4, h5⟩ := h
  rw [List.drop_eq_nil_of_le hi] at h1
  simp [val] at h1
  exact ⟨h1, h2, h4, hi⟩

set_option maxRecDepth 100000 in
set_option maxHeartbeats 800000 in
theorem times_any (vb vc : Nat) (vl : List Nat) (x : Nat) (w : World) (hv : UsAt w vb vl) (hb : vb < w.heap.size) (hl : vl.length ≤ 100) (hd : Digs vl) (hx : x < 4398046511104) :
    Calls Tryd.prog 56 #[.slice (some ⟨vb, 0, none⟩) vl.length vc, .int .u64 (x : Int)] w fun e w' => ∃ v' o, e = .returned v' ∧ w'.ownsRow w.heap.size 54 1 v' o.length (uc o) ∧ (val o = val vl * x ∧ Digs o ∧ o.length ≤ vl.length + 3 ∧ vl.length ≤ o.length) ∧ Below w.heap.size w w' := by
  obtain ⟨i0, hi, hz0, hz1, hz2⟩ := info_parts info54
  have HV := Hid.mk hv
  have HD := Hid.mk hd
  obtain ⟨xI, hxI⟩ : ∃ y : Int, y = (x : Int) := ⟨_, rfl⟩
  rw [← hxI]
  have HX := Hid.mk (And.intro hx hxI)
  clear hv hd hx hxI
  go_enter Tryd.func56, Tryd.ntmps56
  go_wp2
  go_loopw [5, 6, 7] (fun out vc i wr => ∃ o : List Nat, ∃ c : Nat, ∃ cI : Int, cI = (c : Int) ∧ TimesAt vl x c o ∧ i = .int .i64 o.length ∧ vc = .int .u64 cI ∧ wr.ownsRow w.heap.size 54 1 out o.length (uc o) ∧ Below w.heap.size w wr) (fun _ _ i _ => vl.length + 4 - (intOf i).toNat)
  case atStart => exact ⟨[], 0, 0, rfl, times_zero vl x, rfl, rfl, World.ownsRow_nil _ _ _ _, Below.refl _ _⟩
  case round =>
    obtain ⟨o, c, cI, hcI, hT, rfl, rfl, hown, hnx⟩ := hrel
    have HT := Hid.mk hT
    have HOWN := Hid.mk hown
    have HNX := Hid.mk hnx
    have ho3 := hT.2.2.2.1
    obtain ⟨oa, oc, rfl⟩ := owns_form hown
    have hws := hnx.size
    clear hT hown hnx
    by_cases hlt : o.length < vl.length
    · obtain ⟨dI, hdI⟩ : ∃ y : Int, y = (vl[o.length] : Int) := ⟨_, rfl⟩
      have cd := (HNX.out.cell (p := ⟨vb, o.length, none⟩) hb).trans (HV.out o.length hlt)
      rw [← hdI] at cd
      have hdd := HD.out _ (List.getElem_mem hlt)
      obtain ⟨hx, hxI⟩ := HX.out
      have hcx := HT.out.2.2.1
      have hpp : vl[o.length] * x ≤ 65535 * x := Nat.mul_le_mul_right x (by omega)
      obtain ⟨p, hp⟩ : ∃ p, vl[o.length] * x = p := ⟨_, rfl⟩
      obtain ⟨pI, hpI⟩ : ∃ y : Int, y = (p : Int) := ⟨_, rfl⟩
      have f1 : IntKind.u64.wrap (dI * xI) = pI := by
        rw [IntKind.wrap_u64, hdI, hxI, hpI, ← Int.natCast_mul, hp]; omega
      obtain ⟨nI, hnI⟩ : ∃ y : Int, y = ((c + p : Nat) : Int) := ⟨_, rfl⟩
      have f2 : IntKind.u64.wrap (cI + pI) = nI := by rw [IntKind.wrap_u64]; omega
      obtain ⟨rI, hrI⟩ : ∃ y : Int, y = (((c + p) % 65536 : Nat) : Int) := ⟨_, rfl⟩
      obtain ⟨qI, hqI⟩ : ∃ y : Int, y = (((c + p) / 65536 : Nat) : Int) := ⟨_, rfl⟩
      have f3 : nI.tmod 65536 = rI := by rw [Int.tmod_eq_emod_of_nonneg (by omega)]; omega
      have f4 : nI.tdiv 65536 = qI := by rw [Int.tdiv_eq_ediv_of_nonneg (by omega)]; omega
      have f5 : IntKind.u64.wrap qI = qI := by rw [IntKind.wrap_u64]; omega
      have HN := Hid.mk (And.intro hp (And.intro hrI hqI))
      clear hx hxI hcx hpp hp hpI hnI hrI hqI hcI hdI hdd
      go_wp2_with (at_builtin; refine wpList_append_own _ rfl _ _ 101 rfl w.heap.size 54 i0 (.int .u64 0) 1 8 Tryd.underlying101 hi hz0 hz1 hz2 rfl (by decide) _ _ _ rfl (HOWN.out.alloc _) ⟨wr.heap.size, 0, none⟩ 1 1 [.int .u64 rI] rfl rfl ?c1 ?c2 ?c3 ?c4 ?c5 ?_)
      case c1 =>
        intro q u hq
        match q, hq with
        | 0, hq => simp at hq; subst hq; simp [Addr.add]
      case c2 => intro u hu; simp at hu; subst hu; rfl
      case c3 => unfold maxLen; omega
      case c4 => omega
      case c5 => simp; omega
      · intro v' w6 hown' hgrow _
        have hbl : Below w.heap.size w w6 := (HNX.out.alloc hws _).grown hgrow (by simp; omega) (fun q hq => (HOWN.out.lt q hq).1)
        go_wp2
        go_roundw
        case rel =>
          obtain ⟨h1, h2, h3⟩ := HN.out
          have hT' := times_in HT.out (by have := HX.out.1; omega) HD.out hlt
          rw [h1] at hT'
          exact ⟨o ++ [(c + p) % 65536], (c + p) / 65536, qI, h3, hT', by simp, rfl, by rw [uc_snoc, List.length_append, ← h2]; simpa using hown', hbl⟩
        case measure => simp [intOf]; omega
    · by_cases hc0 : 0 < c
      · obtain ⟨rI, hrI⟩ : ∃ y : Int, y = ((c % 65536 : Nat) : Int) := ⟨_, rfl⟩
        obtain ⟨qI, hqI⟩ : ∃ y : Int, y = ((c / 65536 : Nat) : Int) := ⟨_, rfl⟩
        have f3 : cI.tmod 65536 = rI := by rw [Int.tmod_eq_emod_of_nonneg (by omega)]; omega
        have f4 : cI.tdiv 65536 = qI := by rw [Int.tdiv_eq_ediv_of_nonneg (by omega)]; omega
        have f5 : (0 : Int) < cI := by omega
        have f6 : IntKind.u64.wrap qI = qI := by have := HX.out.1; have := HT.out.2.2.1; rw [IntKind.wrap_u64]; omega
        have HN := Hid.mk (And.intro hrI hqI)
        clear hrI hqI hcI
        obtain ⟨hol, hT'⟩ := times_out HT.out (by omega) hc0
        have HT' := Hid.mk hT'
        clear hT'
        go_wp2_with (at_builtin; refine wpList_append_own _ rfl _ _ 101 rfl w.heap.size 54 i0 (.int .u64 0) 1 8 Tryd.underlying101 hi hz0 hz1 hz2 rfl (by decide) _ _ _ rfl (HOWN.out.alloc _) ⟨wr.heap.size, 0, none⟩ 1 1 [.int .u64 rI] rfl rfl ?c1 ?c2 ?c3 ?c4 ?c5 ?_)
        case c1 =>
          intro q u hq
          match q, hq with
          | 0, hq => simp at hq; subst hq; simp [Addr.add]
        case c2 => intro u hu; simp at hu; subst hu; rfl
        case c3 => unfold maxLen; omega
        case c4 => omega
        case c5 => simp; omega
        · intro v' w6 hown' hgrow _
          have hbl : Below w.heap.size w w6 := (HNX.out.alloc hws _).grown hgrow (by simp; omega) (fun q hq => (HOWN.out.lt q hq).1)
          go_wp2
          go_roundw
          case rel =>
            obtain ⟨h2, h3⟩ := HN.out
            exact ⟨o ++ [c % 65536], c / 65536, qI, h3, HT'.out, by simp, rfl, by rw [uc_snoc, List.length_append, ← h2]; simpa using hown', hbl⟩
          case measure => simp [intOf]; omega
      · obtain rfl : c = 0 := by omega
        have hc0' : cI = 0 := by omega
        subst hc0'
        clear hcI
        have HEND := Hid.mk (times_end HT.out (by omega))
        go_wp2
        go_ret
        exact ⟨_, o, rfl, HOWN.out, HEND.out, HNX.out⟩
end Go.Proofs.YtnpjdloagoaanaaDoor
