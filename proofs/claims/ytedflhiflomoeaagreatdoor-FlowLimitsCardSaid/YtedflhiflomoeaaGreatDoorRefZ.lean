import Derived.Test.YtedflhiflomoeaaGreatDoorRefXc
import Derived.Test.YtedflhiflomoeaaGreatDoorRefXd
import Derived.Test.YtedflhiflomoeaaGreatDoorRefXe
import Derived.Test.YtedflhiflomoeaaGreatDoorRefXf
import Derived.Test.YtedflhiflomoeaaGreatDoorRefW
import Derived.Deep.AppendLies
set_option linter.unusedSimpArgs false
set_option linter.unusedVariables false
namespace Go.Proofs.YtedflhiflomoeaaGreatDoor
open Go.RowKit

theorem bodyr_any (at_ : Nat) (outs : List By) (retry : Int) (vo : Value) (K R : Nat) (ts : List Tk) (w : World) (h : RF w R ts none) (hK : Box w K [.int .i64 (at_ : Nat), .int .i64 0, vo, .slice none 0 0, .slice none 0 0, .string ⟨#[]⟩, .string ⟨#[]⟩, .int .i64 0, .int .i64 0, .string ⟨#[]⟩, .string ⟨#[]⟩, .int .i64 0, .int .i64 0, .string ⟨#[]⟩, .int .i64 retry]) (hKR : R < K) :
    Calls Tryz.prog 32 #[.pointer (some ⟨R, 0, none⟩), .pointer (some ⟨K, 0, none⟩)] w fun e w' => e = .returned (.tuple #[]) ∧ BodyQ (bodyP at_ outs retry ts) vo R K w w' := by
  rcases codeU_range (textT ts) with hc | hc | hc | hc | hc | hc | hc | hc | hc | hc
  · exact bodyr_a at_ outs retry vo K R ts w h hK hKR (Or.inl hc)
  · exact bodyr_a at_ outs retry vo K R ts w h hK hKR (Or.inr (Or.inl hc))
  · exact bodyr_b at_ outs retry vo K R ts w h hK hKR (hc)
  · exact bodyr_c at_ outs retry vo K R ts w h hK hKR (Or.inl hc)
  · exact bodyr_c at_ outs retry vo K R ts w h hK hKR (Or.inr (hc))
  · exact bodyr_d at_ outs retry vo K R ts w h hK hKR (hc)
  · exact bodyr_a at_ outs retry vo K R ts w h hK hKR (Or.inr (Or.inr (Or.inr (hc))))
  · exact bodyr_e at_ outs retry vo K R ts w h hK hKR (hc)
  · exact bodyr_f at_ outs retry vo K R ts w h hK hKR (hc)
  · exact bodyr_a at_ outs retry vo K R ts w h hK hKR (Or.inr (Or.inr (Or.inl hc)))
end Go.Proofs.YtedflhiflomoeaaGreatDoor

namespace Go.Proofs.YtedflhiflomoeaaGreatDoor
open Go.RowKit

theorem must_here {α : Type} (x : By) {R : Nat} {ts : List Tk} {w : World} (h : RX w R (.ok ts)) (hx : x ≠ []) {full : PE α} {C : Nat × List Tk → PE α} (E : full = Except.bind (.ok ts : QS) fun t => (mustP x t).bind C) : Calls Tryz.prog 14 #[.pointer (some ⟨R, 0, none⟩), .string (ba x)] w fun e w' => ∃ q', e = .returned (.tuple #[]) ∧ But R w w' ∧ RX w' R q' ∧ full = q'.bind fun t => C (hereT ts, t) := by
  refine (mustr_any x R (.ok ts) w h hx).mono fun e w' ⟨a, b, d⟩ => ⟨_, a, b, d, seq_step E fun a t ha => ?_⟩
  change mustP x ts = .ok (a, t) at ha
  unfold mustP at ha
  split at ha
  · cases ha; rfl
  · cases ha
/-- As name_seq, and what is left. -/
theorem name_seq2 {α : Type} {R : Nat} {q : QS} {w : World} (h : RX w R q) {full : PE α} {C : By × List Tk → PE α} (E : full = q.bind fun t => (nameP t).bind C) : Calls Tryz.prog 15 #[.pointer (some ⟨R, 0, none⟩)] w fun e w' => ∃ (q' : QS) (s : By), e = .returned (.string (ba s)) ∧ But R w w' ∧ RX w' R q' ∧ (full = q'.bind fun t => C (s, t)) ∧ lenQ q' ≤ lenQ q - 1 := by
  refine (namer_any R q w h).mono ?_
  rintro e w' ⟨v, rfl, ⟨s, rfl, hl⟩, hb, henc, hx⟩
  refine ⟨_, s, rfl, hb, hx, seq_step E fun a t ha => ?_, ?_⟩
  · have := henc a t ha
    unfold encT at this
    simpa using this.symm
  · cases q with
    | error e => exact Nat.zero_le _
    | ok t =>
      show lenQ ((nameP t).map _) ≤ t.length - 1
      cases hp : nameP t with
      | error e => exact Nat.zero_le _
      | ok y =>
        obtain ⟨a, t'⟩ := y
        show t'.length ≤ _
        rw [name_tail hp, List.length_tail]
        exact Nat.le_refl _
theorem mark_seq2 {α : Type} (W : By) (L : List By) {R : Nat} {q : QS} {w : World} (h : RX w R q) (hW : W.length ≤ 100) (hL : ∀ x ∈ L, x ≠ [] ∧ x.length ≤ 1000) (h1 : ∀ x ∈ segsL (32 :: W ++ [32]), x ∈ L ∨ x = []) (h2 : ∀ x ∈ L, oneOfB x W = true) {full : PE α} {C : By × List Tk → PE α} (E : full = q.bind fun t => (oneOfP L t).bind C) : Calls Tryz.prog 29 #[.pointer (some ⟨R, 0, none⟩), .string (ba W)] w fun e w' => ∃ (q' : QS) (s : By), e = .returned (.string (ba s)) ∧ But R w w' ∧ RX w' R q' ∧ (full = q'.bind fun t => C (s, t)) ∧ lenQ q' ≤ lenQ q - 1 := by
  refine (markr_any W L R q w h hW hL h1 h2).mono ?_
  rintro e w' ⟨v, rfl, ⟨s, rfl, hl⟩, hb, henc, hx⟩
  refine ⟨_, s, rfl, hb, hx, seq_step E fun a t ha => ?_, ?_⟩
  · have := henc a t ha
    unfold encT at this
    simpa using this.symm
  · cases q with
    | error e => exact Nat.zero_le _
    | ok t =>
      show lenQ ((oneOfP L t).map _) ≤ t.length - 1
      unfold oneOfP
      split
      · show t.tail.length ≤ _
        rw [List.length_tail]
        exact Nat.le_refl _
      · exact Nat.zero_le _
def kindM (m : By) : Int := if m = wInt then 1 else 2
theorem column_eq (t : List Tk) : columnP t = (nameP t).bind fun n => (oneOfP [wInt, wText] n.2).bind fun m => .ok ((n.1, kindM m.1), m.2) := by
  unfold columnP
  congr 1
  funext x
  unfold oneOfP kindM
  by_cases h1 : textT x.2 = wInt
  · simp [h1, Except.bind]
  · by_cases h2 : textT x.2 = wText
    · have hne : ¬ wText = wInt := by decide
      simp [h1, h2, hne, Except.bind]
    · simp [h1, h2, Except.bind, wrongP]
def shpI (v : Value) : Prop := ∃ (n : Nat) (s : By) (a : Option Addr) (k c : Nat), v = .agg #[.int .i64 (n : Nat), .string (ba s), .slice a k c]
def restI (ts : List Tk) (s : By) (l : List (By × Int) × List Tk) : PE FIn := (mustP [59] l.2).bind fun e => .ok (⟨hereT ts, s, l.1⟩, e.2)
theorem int_is (m : By) : (m == [105, 110, 116]) = decide (m = wInt) ∧ (([105, 110, 116] : By) == m) = decide (m = wInt) := by
  by_cases h : m = wInt
  · subst h; exact ⟨rfl, rfl⟩
  · rw [decide_eq_false h]
    have h' : ¬ m = [105, 110, 116] := h
    exact ⟨by simp [h'], by simp [Ne.symm h']⟩
/-- Where input's loop stands: whether there is one more, the columns so far. -/
def InAtL (full : PE FIn) (ts : List Tk) (s : By) (q : QS) (l : List (By × Int)) (b : Bool) : Prop :=
  (b = true → ∃ t g, q = .ok t ∧ t.length ≤ g + 2 ∧ full = (columnP t).bind fun x => (colsP g (l ++ [x.1]) x.2).bind (restI ts s)) ∧ (b = false → full = q.bind fun t => restI ts s (l, t))
theorem in_start {full : PE FIn} {ts : List Tk} {s : By} {q : QS} (E : full = q.bind fun c => (columnP c).bind fun x => (colsP x.2.length [x.1] x.2).bind (restI ts s)) : InAtL full ts s q [] (okQ q) := by
  subst E
  cases q with
  | error e => exact And.intro (fun h => (by cases h)) (fun _ => rfl)
  | ok t =>
    refine ⟨fun _ => ⟨t, t.length - 2, rfl, by omega, ?_⟩, fun h => by cases h⟩
    show (columnP t).bind _ = _
    cases hc : columnP t with
    | error e => rfl
    | ok y =>
      obtain ⟨a, t'⟩ := y
      have := column_len hc
      show (colsP t'.length [a] t').bind _ = (colsP (t.length - 2) ([] ++ [a]) t').bind _
      rw [show t'.length = t.length - 2 by rw [this, List.length_tail, List.length_tail]; omega]
      rfl
theorem in_more {full : PE FIn} {ts : List Tk} {s : By} {q : QS} {l : List (By × Int)} {g : Nat} (E : full = q.bind fun t => (colsP g l t).bind (restI ts s)) (hg : lenQ q ≤ g) (hne : ∀ t, q = .ok t → t ≠ []) : InAtL full ts s (takeQ [44] q) l (seeQ [44] q) := by
  subst E
  cases q with
  | error e => exact And.intro (fun h => (by cases h)) (fun _ => rfl)
  | ok t =>
    have hg : t.length ≤ g := hg
    have hpos : 0 < t.length := List.length_pos_iff.mpr (hne t rfl)
    obtain ⟨g', rfl⟩ : ∃ g', g = g' + 1 := ⟨g - 1, by omega⟩
    by_cases hc : textT t = [44]
    · refine ⟨fun _ => ⟨t.tail, g', ?_, by rw [List.length_tail]; omega, ?_⟩, fun h => ?_⟩
      · show Except.ok (if textT t = [44] then t.tail else t) = _
        rw [if_pos hc]
      · show (colsP (g' + 1) l t).bind _ = _
        rw [colsP, if_pos hc, bind_assoc]
      · have : (textT t == [44]) = false := h
        rw [hc] at this; cases this
    · refine ⟨fun h => ?_, fun _ => ?_⟩
      · have : (textT t == [44]) = true := h
        exact absurd (eq_of_beq this) hc
      · show (colsP (g' + 1) l t).bind _ = (Except.ok (if textT t = [44] then t.tail else t) : QS).bind _
        rw [colsP, if_neg hc, if_neg hc]
        rfl
theorem RX.ne {w : World} {R : Nat} {q : QS} (h : RX w R q) : ∀ t, q = .ok t → t ≠ [] := by
  rintro t rfl rfl
  obtain ⟨u, r, hr⟩ := (show RF w R [] none from h).good.ne
  cases hr
theorem RX.len {w : World} {R : Nat} {q : QS} (h : RX w R q) : lenQ q ≤ 1001 := by
  cases q with
  | error e => exact Nat.zero_le _
  | ok t => have := (show RF w R t none from h).good.len; show t.length ≤ _; omega
theorem lenQ_take (x : By) (q : QS) : lenQ (takeQ x q) ≤ lenQ q := by
  cases q with
  | error e => exact Nat.le_refl _
  | ok t =>
    show (if textT t = x then t.tail else t).length ≤ t.length
    split
    · rw [List.length_tail]; omega
    · exact Nat.le_refl _
theorem lt_meas {a b c d g : Nat} (h1 : b ≤ a - 1) (h2 : c ≤ b - 1) (h3 : d ≤ c) (ha : 0 < a) (hg : a ≤ g) : d < g := by omega
theorem len_round {a b c d n : Nat} (h1 : b ≤ a - 1) (h2 : c ≤ b - 1) (h3 : d ≤ c) (ha : 0 < a) (hg : n + a ≤ 3000) : n + 1 + d ≤ 3000 := by omega
theorem len_fuel {a b c g : Nat} (h1 : b ≤ a - 1) (h2 : c ≤ b - 1) (hg : a ≤ g + 2) : c ≤ g := by omega
theorem grown_set (w : World) (k i : Nat) (v : Value) : w.grownBy (w.setCell ⟨k, i, none⟩ v) (some k) := ⟨rfl, rfl, rfl, by rw [size_set]; exact Nat.le_refl _, fun j hj hne => Below.heap_setCell _ _ _ _ (by show j ≠ k; intro e; exact hne (by rw [e]))⟩
set_option maxRecDepth 100000 in
set_option maxHeartbeats 6400000 in
theorem inputr_any (R : Nat) (ts : List Tk) (w : World) (h : RF w R ts none) : Calls Tryz.prog 12 #[.pointer (some ⟨R, 0, none⟩)] w fun e w' => RC (inputP ts) (encIn w.heap.size) shpI R w e w' := by
  obtain ⟨i0, hi, hz0, hz1, hz2⟩ := info_parts Tryz.infoCol
  have hR := h.lt
  have E : Hid (inputP ts = Except.bind (.ok ts : QS) fun t => (mustP wIn t).bind fun a => (nameP a.2).bind fun n => (mustP [58] n.2).bind fun c => (columnP c.2).bind fun x => (colsP x.2.length [x.1] x.2).bind fun l => (mustP [59] l.2).bind fun e => .ok (⟨a.1, n.1, l.1⟩, e.2)) := Hid.mk rfl
  obtain ⟨b, o, cc, n, hc, hn, hcc, hRb, hn1, k0, k1, k2, e1, e2⟩ := h.head
  have X := Hid.mk ((show RX w R (.ok ts) from h).alloc (.cells #[.int .i64 0, .string ⟨#[]⟩, .slice none 0 0] 54) |>.alloc (.cells #[.int .i64 (hereT ts : Nat), .string ⟨#[]⟩, .slice none 0 0] 54))
  have B := Hid.mk (((But.refl R w).box (.cells #[.int .i64 0, .string ⟨#[]⟩, .slice none 0 0] 54)).box (.cells #[.int .i64 (hereT ts : Nat), .string ⟨#[]⟩, .slice none 0 0] 54))
  have XR := Hid.mk ((Box.new w [.int .i64 0, .string ⟨#[]⟩, .slice none 0 0] 54 _ rfl).below (below_box _ (.cells #[.int .i64 (hereT ts : Nat), .string ⟨#[]⟩, .slice none 0 0] 54)))
  have XX := Hid.mk (Box.new (w.alloc (.cells #[.int .i64 0, .string ⟨#[]⟩, .slice none 0 0] 54)) [.int .i64 (hereT ts : Nat), .string ⟨#[]⟩, .slice none 0 0] 54 (w.heap.size + 1) (World.size_alloc _ _).symm)
  have hbl : b < w.heap.size := by omega
  clear h hn k0 k1 e1 e2
  go_enter Tryz.func12, Tryz.ntmps12
  go_wp2_with (go_at_call 14; fail)
  refine (must_here wIn X.out (by decide) E.out).mono ?_
  rintro e w1 ⟨q1, rfl, hb, hx, he⟩
  dsimp only at he
  replace E := Hid.mk he
  replace X := Hid.mk hx
  replace B := Hid.mk (B.out.then hb)
  replace XR := Hid.mk (XR.out.but hb (by omega))
  replace XX := Hid.mk (XX.out.but hb (by omega))
  clear hb hx he hc hcc hn1 k2
  go_wp2_with (go_at_call 15; fail)
  refine (name_seq X.out E.out).mono ?_
  rintro e w2 ⟨q2, s, rfl, hsl, hb, hx, he⟩
  dsimp only at he
  replace E := Hid.mk he
  replace X := Hid.mk hx
  replace B := Hid.mk (B.out.then hb)
  replace XR := Hid.mk (XR.out.but hb (by omega))
  replace XX := Hid.mk (XX.out.but hb (by omega))
  clear hb hx he hsl
  have c1 := XX.out.cell 1 rfl
  have f1 := XX.out.fz 1
  have l1 := XX.out.lt
  replace X := Hid.mk (X.out.set (k := w.heap.size + 1) (i := 1) (v := .string (ba s)) (by omega))
  replace B := Hid.mk (B.out.put (k := w.heap.size + 1) (i := 1) (by omega) (.string (ba s)))
  replace XR := Hid.mk (XR.out.other (k' := w.heap.size + 1) 1 (.string (ba s)) (by omega))
  replace XX : Hid (Box (w2.setCell ⟨w.heap.size + 1, 1, none⟩ (.string (ba s))) (w.heap.size + 1) [.int .i64 (hereT ts : Nat), .string (ba s), .slice none 0 0]) := Hid.mk (XX.out.set 1 (.string (ba s)))
  go_wp2_with (go_at_call 14; fail)
  clear c1 f1 l1
  refine (must_seq [58] X.out (by decide) E.out (fun _ _ _ => rfl)).mono ?_
  rintro e w3 ⟨q3, rfl, hb, hx, he⟩
  dsimp only at he
  have HL := Hid.mk (in_start (ts := ts) (s := s) (q := q3) he)
  replace X := Hid.mk hx
  replace B := Hid.mk (B.out.then hb)
  replace XR := Hid.mk (XR.out.but hb (by omega))
  replace XX := Hid.mk (XX.out.but hb (by omega))
  clear hb hx he E
  go_wp2_with (go_at_call 16; fail)
  refine (okx_any R q3 w3 X.out).mono ?_
  rintro e w4 ⟨rfl, hb⟩
  replace X := Hid.mk (X.out.below hb)
  replace B := Hid.mk (B.out.then (But.of hb))
  replace XR := Hid.mk (XR.out.below hb)
  replace XX := Hid.mk (XX.out.below hb)
  have HLEN := Hid.mk X.out.len
  clear hb
  generalize okQ q3 = b0 at *
  have HO := Hid.mk (World.ownsRow_nil w4 (w.heap.size + 2) 86 2)
  go_wp2_with fail
  go_loopg [4] (lenQ q3) (fun g m wr => ∃ (q : QS) (l : List (By × Int)) (b : Bool) (n : Nat) (va : Option Addr) (vc : Nat), m = .bool b ∧ lenQ q ≤ g ∧ n + lenQ q ≤ 3000 ∧ Aside (n = l.length ∧ RX wr R q ∧ But R w wr ∧ Box wr w.heap.size [.int .i64 0, .string ⟨#[]⟩, .slice none 0 0] ∧ Box wr (w.heap.size + 1) [.int .i64 (hereT ts : Nat), .string (ba s), .slice va n vc] ∧ wr.ownsRow (w.heap.size + 2) 86 2 (.slice va n vc) n (colV l) ∧ InAtL (inputP ts) ts s q l b))
  case atStart => exact ⟨q3, [], b0, 0, none, 0, rfl, Nat.le_refl _, by have := HLEN.out; omega, rfl, X.out, B.out, XR.out, XX.out, HO.out, HL.out⟩
  case round =>
    clear X B XR XX HO HL HLEN
    obtain ⟨q, l, b, n, va, vc, rfl, hg, hn3, HH⟩ := hrel
    cases b with
    | false =>
      have E : Hid (inputP ts = q.bind fun t => (mustP [59] t).bind fun e => .ok (⟨hereT ts, s, l⟩, e.2)) := Hid.mk (HH.out.2.2.2.2.2.2.2 rfl)
      have X := Hid.mk HH.out.2.1
      have B := Hid.mk HH.out.2.2.1
      have XR := Hid.mk HH.out.2.2.2.1
      have XX := Hid.mk HH.out.2.2.2.2.1
      have O := Hid.mk HH.out.2.2.2.2.2.1
      have HN := Hid.mk HH.out.1
      clear HH hg hn3
      go_wp2_with (go_at_call 14; fail)
      refine (must_seq [59] X.out (by decide) E.out (fun _ _ _ => rfl)).mono ?_
      rintro e w5 ⟨q5, rfl, hb, hx, he⟩
      dsimp only at he
      replace E := Hid.mk he
      replace X := Hid.mk hx
      replace B := Hid.mk (B.out.then hb)
      replace XR := Hid.mk (XR.out.but hb (by omega))
      replace XX := Hid.mk (XX.out.but hb (by omega))
      replace O := Hid.mk (own_but O.out hb (by omega))
      clear hb hx he
      have cf0 := XX.out.cell 0 rfl
      have cf1 := XX.out.cell 1 rfl
      have cf2 := XX.out.cell 2 rfl
      have cl := XX.out.lt
      have x0 := XR.out.cell 0 rfl
      have y0 := XR.out.fz 0
      have x1 := XR.out.cell 1 rfl
      have y1 := XR.out.fz 1
      have x2 := XR.out.cell 2 rfl
      have y2 := XR.out.fz 2
      have hzX := XR.out.lt
      have HRD := Hid.mk (((X.out.set (k := w.heap.size) (i := 0) (v := .int .i64 (hereT ts : Nat)) hR).set (k := w.heap.size) (i := 1) (v := .string (ba s)) hR).set (k := w.heap.size) (i := 2) (v := .slice va n vc) hR)
      have HBU := Hid.mk (((B.out.put (Nat.le_refl _) (.int .i64 (hereT ts : Nat)) (i := 0)).put (Nat.le_refl _) (.string (ba s)) (i := 1)).put (Nat.le_refl _) (.slice va n vc) (i := 2))
      have HBX := Hid.mk (((XR.out.set 0 (.int .i64 (hereT ts : Nat))).set 1 (.string (ba s))).set 2 (.slice va n vc))
      have z0 := HBX.out.cell 0 rfl
      have z1 := HBX.out.cell 1 rfl
      have z2 := HBX.out.cell 2 rfl
      clear HBX
      go_wp2
      refine bodyPost_ret (v := .agg #[.int .i64 (hereT ts : Nat), .string (ba s), .slice va n vc]) (by simp [results, Tryz.results12, go_sem, z0, z1, z2]) rfl ?_
      obtain ⟨g1, g2⟩ := seq_end E.out
      refine ⟨_, rfl, ⟨_, _, _, _, _, rfl⟩, HBU.out, fun a t hp => ?_, by rw [g1]; exact HRD.out⟩
      obtain ⟨rfl, -⟩ := g2 a t hp
      exact ⟨.slice va n vc, rfl, (show encCs w.heap.size l (.slice va n vc) _ from by unfold encCs; rw [← HN.out]; exact own_mono (by omega) (ownsRow_setCell_below (ownsRow_setCell_below (ownsRow_setCell_below O.out (a := ⟨w.heap.size, 0, none⟩) (by show w.heap.size < _; omega) _) (a := ⟨w.heap.size, 1, none⟩) (by show w.heap.size < _; omega) _) (a := ⟨w.heap.size, 2, none⟩) (by show w.heap.size < _; omega) _))⟩
    | true =>
      obtain ⟨t, g', rfl, hgt, he⟩ := HH.out.2.2.2.2.2.2.1 rfl
      have E : Hid (inputP ts = Except.bind (.ok t : QS) fun t => (nameP t).bind fun n => (oneOfP [wInt, wText] n.2).bind fun m => (colsP g' (l ++ [(n.1, kindM m.1)]) m.2).bind (restI ts s)) := Hid.mk (by
        rw [he, column_eq, bind_assoc]
        show _ = (nameP t).bind _
        congr 1
        funext x
        rw [bind_assoc]
        rfl)
      have X := Hid.mk HH.out.2.1
      have B := Hid.mk HH.out.2.2.1
      have XR := Hid.mk HH.out.2.2.2.1
      have XX := Hid.mk HH.out.2.2.2.2.1
      have O := Hid.mk HH.out.2.2.2.2.2.1
      have HN := Hid.mk HH.out.1
      have HG := Hid.mk hgt
      have HLT : Hid (n + t.length ≤ 3000 ∧ 0 < t.length) := Hid.mk ⟨hn3, List.length_pos_iff.mpr (X.out.ne t rfl)⟩
      have HLG := Hid.mk hg
      have hn4 : n ≤ 3000 := by have : n + t.length ≤ 3000 := hn3; omega
      clear HH hg hn3 hgt he
      go_wp2_with (go_at_call 15; fail)
      refine (name_seq2 X.out E.out).mono ?_
      rintro e w5 ⟨q5, s5, rfl, hb, hx, he, hq5⟩
      dsimp only at he
      replace E := Hid.mk he
      have lxx := (XX.out.but hb (by omega)).lt
      replace X := Hid.mk (hx.alloc (.cells #[.string (ba s5), .int .i64 0] 86))
      replace B := Hid.mk ((B.out.then hb).box (.cells #[.string (ba s5), .int .i64 0] 86))
      replace XR := Hid.mk ((XR.out.but hb (by omega)).below (below_box _ (.cells #[.string (ba s5), .int .i64 0] 86)))
      replace XX := Hid.mk ((XX.out.but hb (by omega)).below (below_box _ (.cells #[.string (ba s5), .int .i64 0] 86)))
      have XC := Hid.mk (Box.new w5 [.string (ba s5), .int .i64 0] 86 _ rfl)
      have hOB := (own_but O.out hb (by omega)).lt
      replace O := Hid.mk ((own_but O.out hb (by omega)).alloc (.cells #[.string (ba s5), .int .i64 0] 86))
      have HQ5 := Hid.mk (show lenQ q5 ≤ t.length - 1 from hq5)
      have HOB := Hid.mk (fun k hk => (hOB k hk).2)
      clear hOB
      have sz5 := B.out.size
      have lx5 := XX.out.lt
      simp only [World.size_alloc] at sz5 lx5
      clear hb hx he hq5
      go_wp2_with (go_at_call 29; fail)
      refine (mark_seq2 [105, 110, 116, 32, 116, 101, 120, 116] [wInt, wText] X.out (by decide) (by decide) (by decide) (by decide) E.out).mono ?_
      rintro e w6 ⟨q6, m6, rfl, hb, hx, he, hq6⟩
      dsimp only at he
      replace E := Hid.mk he
      replace X := Hid.mk hx
      replace B := Hid.mk (B.out.then hb)
      replace XR := Hid.mk (XR.out.but hb (by omega))
      replace XX := Hid.mk (XX.out.but hb (by omega))
      replace XC := Hid.mk (XC.out.but hb (by omega))
      replace O := Hid.mk (own_but O.out hb (by omega))
      have HQ6 := Hid.mk hq6
      clear hb hx he hq6
      obtain ⟨hbi, hbj⟩ := int_is m6
      by_cases hm : m6 = wInt
      · have E1 : Hid (kindM m6 = 1) := Hid.mk (if_pos hm)
        rw [decide_eq_true hm] at hbi hbj
        clear hm
        have xk0 := XC.out.cell 0 rfl
        have xk1 := XC.out.cell 1 rfl
        have xf1 := XC.out.fz 1
        have xl := XC.out.lt
        have cv := XX.out.cell 2 rfl
        have lX := XX.out.lt
        have hg6 := grown_set w6 w5.heap.size 1 (.int .i64 1)
        replace X := Hid.mk ((X.out.set (k := w5.heap.size) (i := 1) (v := .int .i64 1) (by omega)).alloc (.cells #[.string (ba s5), .int .i64 1] 86))
        replace B := Hid.mk ((B.out.put (k := w5.heap.size) (i := 1) (by omega) (.int .i64 1)).box (.cells #[.string (ba s5), .int .i64 1] 86))
        replace XR := Hid.mk ((XR.out.other (k' := w5.heap.size) 1 (.int .i64 1) (by omega)).below (below_box _ (.cells #[.string (ba s5), .int .i64 1] 86)))
        replace XX := Hid.mk ((XX.out.other (k' := w5.heap.size) 1 (.int .i64 1) (by omega)).below (below_box _ (.cells #[.string (ba s5), .int .i64 1] 86)))
        replace O := Hid.mk ((O.out.kept hg6 (Or.inr (fun e => by have := HOB.out _ e; omega))).alloc (.cells #[.string (ba s5), .int .i64 1] 86))
        have hsz6 : (w6.setCell ⟨w5.heap.size, 1, none⟩ (.int .i64 1)).heap.size = w6.heap.size := size_set _ _ _
        clear hg6
        go_wp2_with (at_builtin; refine wpList_append_own _ rfl _ _ 52 rfl (w.heap.size + 2) 86 i0 (.agg #[.string ⟨#[]⟩, .int .i64 0]) 2 24 Tryz.underlying52 hi hz0 hz1 hz2 rfl (by decide) _ _ _ rfl O.out ⟨w6.heap.size, 0, none⟩ 1 1 [.string (ba s5), .int .i64 1] rfl rfl (news_blk _ [.string (ba s5), .int .i64 1] _ _ hsz6) (by simp [Value.oneCell']) ?c3 ?c4 ?c5 ?_)
        case c3 => unfold maxLen; omega
        case c4 => omega
        case c5 => simp; omega
        intro v' w7 hown' hgrow _
        have hrow : ∀ k, (Value.slice va n vc).ownBlock = some k → w.heap.size + 2 ≤ k := fun k hk => (O.out.lt k hk).1
        replace X := Hid.mk (X.out.grown hgrow (fun k hk => by have := hrow k hk; omega))
        replace B := Hid.mk (B.out.grown hgrow (fun k hk => by have := hrow k hk; omega))
        replace XR := Hid.mk (XR.out.grown hgrow (fun e => by have := hrow _ e; omega))
        replace XX := Hid.mk (XX.out.grown hgrow (fun e => by have := hrow _ e; omega))
        obtain ⟨va', vc', rfl⟩ := own_slice hown'
        replace O := Hid.mk hown'
        have cx2 := XX.out.cell 2 rfl
        have fx2 := XX.out.fz 2
        have lx2 := XX.out.lt
        replace X := Hid.mk (X.out.set (k := w.heap.size + 1) (i := 2) (v := .slice va' (n + 1) vc') (by omega))
        replace B := Hid.mk (B.out.put (k := w.heap.size + 1) (i := 2) (by omega) (.slice va' (n + 1) vc'))
        replace XR := Hid.mk (XR.out.other (k' := w.heap.size + 1) 2 (.slice va' (n + 1) vc') (by omega))
        replace XX : Hid (Box (w7.setCell ⟨w.heap.size + 1, 2, none⟩ (.slice va' (n + 1) vc')) (w.heap.size + 1) [.int .i64 (hereT ts : Nat), .string (ba s), .slice va' (n + 1) vc']) := Hid.mk (XX.out.set 2 _)
        replace O := Hid.mk (ownsRow_setCell_below O.out (a := ⟨w.heap.size + 1, 2, none⟩) (by show w.heap.size + 1 < _; omega) (.slice va' (n + 1) vc'))
        clear hown' hgrow hrow xk0 xk1 xf1 xl cv lX XC
        go_wp2_with (go_at_call 28; fail)
        clear cx2 fx2 lx2
        refine (takex_any [44] R q6 _ X.out (by decide)).mono ?_
        rintro e w8 ⟨rfl, hb, hx⟩
        have HXN := Hid.mk X.out.ne
        replace X := Hid.mk hx
        replace B := Hid.mk (B.out.then hb)
        replace XR := Hid.mk (XR.out.but hb (by omega))
        replace XX := Hid.mk (XX.out.but hb (by omega))
        replace O := Hid.mk (own_but O.out hb (by omega))
        clear hb hx
        go_wp2
        go_roundg (lenQ (takeQ [44] q6))
        case measure => exact lt_meas HQ5.out HQ6.out (lenQ_take [44] q6) HLT.out.2 HLG.out
        case rel =>
          have hE := E.out
          rw [E1.out] at hE
          refine ⟨takeQ [44] q6, l ++ [(s5, 1)], seeQ [44] q6, n + 1, va', vc', rfl, Nat.le_refl _, len_round HQ5.out HQ6.out (lenQ_take [44] q6) HLT.out.2 HLT.out.1, by rw [HN.out]; simp, X.out, B.out, XR.out, XX.out, by rw [colV_app]; exact O.out, in_more hE (len_fuel HQ5.out HQ6.out HG.out) HXN.out⟩
      · have E1 : Hid (kindM m6 = 2) := Hid.mk (if_neg hm)
        rw [decide_eq_false hm] at hbi hbj
        clear hm
        have xk0 := XC.out.cell 0 rfl
        have xk1 := XC.out.cell 1 rfl
        have xf1 := XC.out.fz 1
        have xl := XC.out.lt
        have cv := XX.out.cell 2 rfl
        have lX := XX.out.lt
        have hg6 := grown_set w6 w5.heap.size 1 (.int .i64 2)
        replace X := Hid.mk ((X.out.set (k := w5.heap.size) (i := 1) (v := .int .i64 2) (by omega)).alloc (.cells #[.string (ba s5), .int .i64 2] 86))
        replace B := Hid.mk ((B.out.put (k := w5.heap.size) (i := 1) (by omega) (.int .i64 2)).box (.cells #[.string (ba s5), .int .i64 2] 86))
        replace XR := Hid.mk ((XR.out.other (k' := w5.heap.size) 1 (.int .i64 2) (by omega)).below (below_box _ (.cells #[.string (ba s5), .int .i64 2] 86)))
        replace XX := Hid.mk ((XX.out.other (k' := w5.heap.size) 1 (.int .i64 2) (by omega)).below (below_box _ (.cells #[.string (ba s5), .int .i64 2] 86)))
        replace O := Hid.mk ((O.out.kept hg6 (Or.inr (fun e => by have := HOB.out _ e; omega))).alloc (.cells #[.string (ba s5), .int .i64 2] 86))
        have hsz6 : (w6.setCell ⟨w5.heap.size, 1, none⟩ (.int .i64 2)).heap.size = w6.heap.size := size_set _ _ _
        clear hg6
        go_wp2_with (at_builtin; refine wpList_append_own _ rfl _ _ 52 rfl (w.heap.size + 2) 86 i0 (.agg #[.string ⟨#[]⟩, .int .i64 0]) 2 24 Tryz.underlying52 hi hz0 hz1 hz2 rfl (by decide) _ _ _ rfl O.out ⟨w6.heap.size, 0, none⟩ 1 1 [.string (ba s5), .int .i64 2] rfl rfl (news_blk _ [.string (ba s5), .int .i64 2] _ _ hsz6) (by simp [Value.oneCell']) ?c3 ?c4 ?c5 ?_)
        case c3 => unfold maxLen; omega
        case c4 => omega
        case c5 => simp; omega
        intro v' w7 hown' hgrow _
        have hrow : ∀ k, (Value.slice va n vc).ownBlock = some k → w.heap.size + 2 ≤ k := fun k hk => (O.out.lt k hk).1
        replace X := Hid.mk (X.out.grown hgrow (fun k hk => by have := hrow k hk; omega))
        replace B := Hid.mk (B.out.grown hgrow (fun k hk => by have := hrow k hk; omega))
        replace XR := Hid.mk (XR.out.grown hgrow (fun e => by have := hrow _ e; omega))
        replace XX := Hid.mk (XX.out.grown hgrow (fun e => by have := hrow _ e; omega))
        obtain ⟨va', vc', rfl⟩ := own_slice hown'
        replace O := Hid.mk hown'
        have cx2 := XX.out.cell 2 rfl
        have fx2 := XX.out.fz 2
        have lx2 := XX.out.lt
        replace X := Hid.mk (X.out.set (k := w.heap.size + 1) (i := 2) (v := .slice va' (n + 1) vc') (by omega))
        replace B := Hid.mk (B.out.put (k := w.heap.size + 1) (i := 2) (by omega) (.slice va' (n + 1) vc'))
        replace XR := Hid.mk (XR.out.other (k' := w.heap.size + 1) 2 (.slice va' (n + 1) vc') (by omega))
        replace XX : Hid (Box (w7.setCell ⟨w.heap.size + 1, 2, none⟩ (.slice va' (n + 1) vc')) (w.heap.size + 1) [.int .i64 (hereT ts : Nat), .string (ba s), .slice va' (n + 1) vc']) := Hid.mk (XX.out.set 2 _)
        replace O := Hid.mk (ownsRow_setCell_below O.out (a := ⟨w.heap.size + 1, 2, none⟩) (by show w.heap.size + 1 < _; omega) (.slice va' (n + 1) vc'))
        clear hown' hgrow hrow xk0 xk1 xf1 xl cv lX XC
        go_wp2_with (go_at_call 28; fail)
        clear cx2 fx2 lx2
        refine (takex_any [44] R q6 _ X.out (by decide)).mono ?_
        rintro e w8 ⟨rfl, hb, hx⟩
        have HXN := Hid.mk X.out.ne
        replace X := Hid.mk hx
        replace B := Hid.mk (B.out.then hb)
        replace XR := Hid.mk (XR.out.but hb (by omega))
        replace XX := Hid.mk (XX.out.but hb (by omega))
        replace O := Hid.mk (own_but O.out hb (by omega))
        clear hb hx
        go_wp2
        go_roundg (lenQ (takeQ [44] q6))
        case measure => exact lt_meas HQ5.out HQ6.out (lenQ_take [44] q6) HLT.out.2 HLG.out
        case rel =>
          have hE := E.out
          rw [E1.out] at hE
          refine ⟨takeQ [44] q6, l ++ [(s5, 2)], seeQ [44] q6, n + 1, va', vc', rfl, Nat.le_refl _, len_round HQ5.out HQ6.out (lenQ_take [44] q6) HLT.out.2 HLT.out.1, by rw [HN.out]; simp, X.out, B.out, XR.out, XX.out, by rw [colV_app]; exact O.out, in_more hE (len_fuel HQ5.out HQ6.out HG.out) HXN.out⟩
end Go.Proofs.YtedflhiflomoeaaGreatDoor

namespace Go.Proofs.YtedflhiflomoeaaGreatDoor
open Go.RowKit

def shpJ (v : Value) : Prop := ∃ (j : FJob) (vo vi vc : Value), v = .agg (jobV j vo vi vc).toArray ∧ SlV vo ∧ SlV vi ∧ SlV vc
theorem ok_of {α : Type} {full : PE α} {q : QS} {F : List Tk → PE α} {x : α × List Tk} (h : full = q.bind F) (hf : full = .ok x) : okQ q = true := by
  cases q with
  | ok t => rfl
  | error e => subst h; cases hf
theorem retry_num {α : Type} {t : List Tk} {C : Int × List Tk → PE α} (h : textT t = wRetry) : Except.bind (.ok t : QS) (fun t => (retryP t).bind C) = (numP 5 t.tail).bind C := by
  show (retryP t).bind C = _
  unfold retryP; rw [if_pos h]
theorem retry_no {α : Type} {t : List Tk} {C : Int × List Tk → PE α} (h : ¬ textT t = wRetry) : Except.bind (.ok t : QS) (fun t => (retryP t).bind C) = Except.bind (.ok t : QS) fun t => C (0, t) := by
  show (retryP t).bind C = _
  unfold retryP; rw [if_neg h]; rfl
theorem RX.sets {R k : Nat} {q : QS} (hk : R < k) : ∀ (vs : List Value) (o : Nat) (w : World), RX w R q → RX (w.setCells k o vs) R q
  | [], _, _, h => h
  | v :: vs, o, w, h => RX.sets hk vs (o + 1) _ (h.set hk)
/-- Where a walk of job stands. -/
structure SJ (w : World) (R : Nat) (w' : World) (q : QS) (vs : List Value) : Prop where
  x : RX w' R q
  b : But R w w'
  r : Box w' w.heap.size [.int .i64 0, .int .i64 0, .slice none 0 0, .slice none 0 0, .slice none 0 0, .string ⟨#[]⟩, .string ⟨#[]⟩, .int .i64 0, .int .i64 0, .string ⟨#[]⟩, .string ⟨#[]⟩, .int .i64 0, .int .i64 0, .string ⟨#[]⟩, .int .i64 0]
  j : Box w' (w.heap.size + 1) vs
theorem SJ.call {w w1 w2 : World} {R : Nat} {q q' : QS} {vs : List Value} (h : SJ w R w1 q vs) (hR : R < w.heap.size) (hb : But R w1 w2) (hx : RX w2 R q') : SJ w R w2 q' vs := ⟨hx, h.b.then hb, h.r.but hb (by omega), h.j.but hb (by omega)⟩
theorem SJ.below {w w1 w2 : World} {R : Nat} {q : QS} {vs : List Value} (h : SJ w R w1 q vs) (hb : Below w1.heap.size w1 w2) : SJ w R w2 q vs := ⟨h.x.below hb, h.b.then (But.of hb), h.r.below hb, h.j.below hb⟩
theorem SJ.store {w w1 : World} {R : Nat} {q : QS} {vs : List Value} (h : SJ w R w1 q vs) (hR : R < w.heap.size) (i : Nat) (v : Value) : SJ w R (w1.setCell ⟨w.heap.size + 1, i, none⟩ v) q (vs.set i v) := ⟨h.x.set (by omega), h.b.put (by omega) v, h.r.other i v (by omega), h.j.set i v⟩
theorem SJ.body {w w1 w2 : World} {R : Nat} {q q' : QS} {vs us : List Value} (h : SJ w R w1 q vs) (hR : R < w.heap.size) (hb : But2 R (w.heap.size + 1) w1 w2) (hx : RX w2 R q') (hj : Box w2 (w.heap.size + 1) us) : SJ w R w2 q' us := ⟨hx, h.b.of2 hb (by omega), h.r.but2 hb (by omega) (by omega), hj⟩
set_option maxRecDepth 100000 in
set_option maxHeartbeats 6400000 in
theorem jobr_any (R : Nat) (ts : List Tk) (w : World) (h : RF w R ts none) : Calls Tryz.prog 13 #[.pointer (some ⟨R, 0, none⟩)] w fun e w' => RC (jobP ts) (encJ w.heap.size) shpJ R w e w' := by
  have hR := h.lt
  have E : Hid (jobP ts = Except.bind (.ok ts : QS) fun t => (mustP wJob t).bind fun a => (namesP a.2).bind fun o => (retryP o.2).bind fun r => (mustP [61] r.2).bind fun q => (bodyP a.1 o.1 r.1 q.2).bind fun j => (mustP [59] j.2).bind fun e => .ok (j.1, e.2)) := Hid.mk rfl
  obtain ⟨b, o, cc, n, hc, hn, hcc, hRb, hn1, k0, k1, k2, e1, e2⟩ := h.head
  have hbl : b < w.heap.size := by omega
  have S : Hid (SJ w R ((w.alloc (.cells #[.int .i64 0, .int .i64 0, .slice none 0 0, .slice none 0 0, .slice none 0 0, .string ⟨#[]⟩, .string ⟨#[]⟩, .int .i64 0, .int .i64 0, .string ⟨#[]⟩, .string ⟨#[]⟩, .int .i64 0, .int .i64 0, .string ⟨#[]⟩, .int .i64 0] 61)).alloc (.cells #[.int .i64 (hereT ts : Nat), .int .i64 0, .slice none 0 0, .slice none 0 0, .slice none 0 0, .string ⟨#[]⟩, .string ⟨#[]⟩, .int .i64 0, .int .i64 0, .string ⟨#[]⟩, .string ⟨#[]⟩, .int .i64 0, .int .i64 0, .string ⟨#[]⟩, .int .i64 0] 61)) (.ok ts) [.int .i64 (hereT ts : Nat), .int .i64 0, .slice none 0 0, .slice none 0 0, .slice none 0 0, .string ⟨#[]⟩, .string ⟨#[]⟩, .int .i64 0, .int .i64 0, .string ⟨#[]⟩, .string ⟨#[]⟩, .int .i64 0, .int .i64 0, .string ⟨#[]⟩, .int .i64 0]) := Hid.mk ⟨((show RX w R (.ok ts) from h).alloc _).alloc _, ((But.refl R w).box _).box _, (Box.new w [.int .i64 0, .int .i64 0, .slice none 0 0, .slice none 0 0, .slice none 0 0, .string ⟨#[]⟩, .string ⟨#[]⟩, .int .i64 0, .int .i64 0, .string ⟨#[]⟩, .string ⟨#[]⟩, .int .i64 0, .int .i64 0, .string ⟨#[]⟩, .int .i64 0] 61 _ rfl).below (below_box _ _), Box.new (w.alloc (.cells #[.int .i64 0, .int .i64 0, .slice none 0 0, .slice none 0 0, .slice none 0 0, .string ⟨#[]⟩, .string ⟨#[]⟩, .int .i64 0, .int .i64 0, .string ⟨#[]⟩, .string ⟨#[]⟩, .int .i64 0, .int .i64 0, .string ⟨#[]⟩, .int .i64 0] 61)) [.int .i64 (hereT ts : Nat), .int .i64 0, .slice none 0 0, .slice none 0 0, .slice none 0 0, .string ⟨#[]⟩, .string ⟨#[]⟩, .int .i64 0, .int .i64 0, .string ⟨#[]⟩, .string ⟨#[]⟩, .int .i64 0, .int .i64 0, .string ⟨#[]⟩, .int .i64 0] 61 (w.heap.size + 1) (World.size_alloc _ _).symm⟩
  clear h hn k0 k1 e1 e2
  go_enter Tryz.func13, Tryz.ntmps13
  go_wp2_with (go_at_call 14; fail)
  refine (must_here wJob S.out.x (by decide) E.out).mono ?_
  rintro e w1 ⟨q1, rfl, hb, hx, he⟩
  dsimp only at he
  replace E := Hid.mk he
  replace S := Hid.mk (S.out.call hR hb hx)
  clear hb hx he hc hcc hn1 k2
  have hs1 := S.out.j.lt
  go_wp2_with (go_at_call 30; fail)
  refine (some_seq S.out.x E.out).mono ?_
  rintro e w2 ⟨q2, outs, oa, on, oc, rfl, hb, hx, he, hen⟩
  dsimp only at he
  replace E := Hid.mk he
  replace S := Hid.mk (S.out.call hR hb hx)
  have HEN : Hid (okQ q2 = true → w2.ownsRow (w.heap.size + 2) 9 1 (.slice oa on oc) outs.length (strV outs)) := Hid.mk (fun ho => own_mono (by omega) (hen ho))
  clear hb hx he hen hs1
  have c2 := S.out.j.cell 2 rfl
  have f2 := S.out.j.fz 2
  have l2 := S.out.j.lt
  replace S : Hid (SJ w R (w2.setCell ⟨w.heap.size + 1, 2, none⟩ (.slice oa on oc)) q2 [.int .i64 (hereT ts : Nat), .int .i64 0, .slice oa on oc, .slice none 0 0, .slice none 0 0, .string ⟨#[]⟩, .string ⟨#[]⟩, .int .i64 0, .int .i64 0, .string ⟨#[]⟩, .string ⟨#[]⟩, .int .i64 0, .int .i64 0, .string ⟨#[]⟩, .int .i64 0]) := Hid.mk (S.out.store hR 2 _)
  replace HEN := Hid.mk (fun ho => ownsRow_setCell_below (HEN.out ho) (a := ⟨w.heap.size + 1, 2, none⟩) (by show w.heap.size + 1 < _; omega) (.slice oa on oc))
  go_wp2_with (go_at_call 28; fail)
  clear c2 f2 l2
  refine (takex_any wRetry R q2 _ S.out.x (by decide)).mono ?_
  rintro e w3 ⟨rfl, hb, hx⟩
  replace S := Hid.mk (S.out.call hR hb hx)
  replace HEN := Hid.mk (fun ho => own_but (HEN.out ho) hb (show R < w.heap.size + 2 by omega))
  clear hb hx
  cases q2 with
  | error er =>
    as_aux_lemma =>
      replace E := Hid.mk (show jobP ts = .error er from E.out)
      replace S : Hid (SJ w R w3 (.error er) _) := S
      rw [show seeQ wRetry (.error er) = false from rfl]
      clear HEN
      go_wp2_with (go_at_call 14; fail)
      refine (must_err [61] S.out.x (by decide)).mono ?_
      rintro e wm2 ⟨rfl, hb, hx⟩
      replace S := Hid.mk (S.out.call hR hb hx)
      clear hb hx
      go_wp2_with (go_at_call 16; fail)
      refine (okx_err S.out.x).mono ?_
      rintro e wo3 ⟨rfl, hb⟩
      replace S := Hid.mk (S.out.below hb)
      clear hb
      go_wp2_with (go_at_call 14; fail)
      refine (must_err [59] S.out.x (by decide)).mono ?_
      rintro e wm4 ⟨rfl, hb, hx⟩
      replace S := Hid.mk (S.out.call hR hb hx)
      clear hb hx
      have HRR := Hid.mk S.out.r.there
      have HFU := Hid.mk (S.out.r.full (us := (jobV ⟨hereT ts, 0, outs, [], [], [], ([], 0, 0, []), ([], 0, 0, []), 0⟩ (.slice oa on oc) (.slice none 0 0) (.slice none 0 0))) rfl)
      have HRD := Hid.mk (RX.sets (k := w.heap.size) hR (jobV ⟨hereT ts, 0, outs, [], [], [], ([], 0, 0, []), ([], 0, 0, []), 0⟩ (.slice oa on oc) (.slice none 0 0) (.slice none 0 0)) 0 _ S.out.x)
      have HBU := Hid.mk (But.puts (k := w.heap.size) (Nat.le_refl _) (jobV ⟨hereT ts, 0, outs, [], [], [], ([], 0, 0, []), ([], 0, 0, []), 0⟩ (.slice oa on oc) (.slice none 0 0) (.slice none 0 0)) 0 _ S.out.b)
      have HJB : Hid (Box wm4 (w.heap.size + 1) (jobV ⟨hereT ts, 0, outs, [], [], [], ([], 0, 0, []), ([], 0, 0, []), 0⟩ (.slice oa on oc) (.slice none 0 0) (.slice none 0 0))) := Hid.mk S.out.j
      have hinf : (Tryz.prog.info? 61).map (·.size) = some 15 := by kernel_rfl
      have HIN := Hid.mk hinf
      clear hinf
      have hone : ((jobV ⟨hereT ts, 0, outs, [], [], [], ([], 0, 0, []), ([], 0, 0, []), 0⟩ (.slice oa on oc) (.slice none 0 0) (.slice none 0 0))).toArray.all (·.oneCell') = true := by simp [jobV, Value.oneCell']
      have HON := Hid.mk hone
      clear hone
      generalize hJL : ((jobV ⟨hereT ts, 0, outs, [], [], [], ([], 0, 0, []), ([], 0, 0, []), 0⟩ (.slice oa on oc) (.slice none 0 0) (.slice none 0 0))) = JL at *
      have HJL := Hid.mk hJL
      have hJl : JL.length = 15 := by rw [← hJL]; rfl
      have HJl := Hid.mk hJl
      clear hJL hJl
      have hJs : JL.toArray.size = 15 := HJl.out
      have HTH : Hid (World.there wm4 w.heap.size 0 JL.toArray.size) := by
        show World.there _ _ _ _
        rw [hJs]
        exact HRR.out
      have HI2 : Hid ((Tryz.prog.info? 61).map (·.size) = some JL.toArray.size) := by
        show _ = _
        rw [hJs]
        exact HIN.out
      clear hJs
      go_wp2_with (first | (refine wpList_load_mid rfl 61 (.tmp 3) rfl (w.heap.size + 1) 0 rfl JL _ HJB.out.range Tryz.underlying61 rfl (by rw [HJl.out]; exact HIN.out) ?_) | (refine wpList_store_mid rfl 61 (.tmp 2) (.tmp 65) rfl w.heap.size 0 JL.toArray rfl rfl HTH.out HI2.out HON.out ?_))
      refine bodyPost_ret (v := .agg JL.toArray) ?_ rfl ?_
      · exact results_cell1 rfl _ _ _ rfl (run_loadVar_mid _ w.heap.size 0 61 JL _ HFU.out.range Tryz.underlying61 rfl (by rw [HJl.out]; exact HIN.out))
      have hj2 := HJL.out
      subst hj2
      refine ⟨_, rfl, ⟨_, _, _, _, rfl, ⟨_, _, _, rfl⟩, ⟨_, _, _, rfl⟩, ⟨_, _, _, rfl⟩⟩, HBU.out, fun a t hp => ?_, ?_⟩
      · rw [E.out] at hp; cases hp
      · rw [E.out]; exact HRD.out
  | ok t =>
    replace HEN := Hid.mk (HEN.out rfl)
    by_cases hret : textT t = wRetry
    · rw [show seeQ wRetry (.ok t) = true from (by show (textT t == wRetry) = true; rw [hret]; rfl)]
      replace S : Hid (SJ w R w3 (.ok t.tail) _) := Hid.mk (by have := S.out; rw [show takeQ wRetry (.ok t) = .ok t.tail by show Except.ok (if textT t = wRetry then t.tail else t) = _; rw [if_pos hret]] at this; exact this)
      have hE := E.out
      rw [retry_num hret] at hE
      replace E := Hid.mk hE
      clear hE hret
      generalize t.tail = u at *
      have HF : Hid (RF w3 R u none) := Hid.mk S.out.x
      obtain ⟨b3, o3, cc3, n3, hc3, hn3, hcc3, hR3, hn13, j0, j1, j2, -, -⟩ := HF.out.head
      obtain ⟨tk, -, ek, et, hTk, hd, hlen⟩ := HF.out.head_tok
      have hbl3 : b3 < w3.heap.size := by have := HF.out.lt; omega
      have hl3 := S.out.j.lt
      have HLN : Hid ((textT u).length ≤ 1000000) := Hid.mk (by rw [et]; exact hlen)
      have NUM : Hid (kindT u = 1 → 0 ≤ atoiN (textT u)) := Hid.mk (fun hk => by rw [et]; exact atoi_pos (hd (by rw [← ek]; exact hk)))
      have RNG : Hid (kindT u = 1 → ¬ okN (textT u) → atoiN (textT u) = 9223372036854775807) := Hid.mk (fun hk hok => by rw [et] at hok ⊢; exact range_not hok (hTk.2.1 (by rw [← ek]; exact hk)) (hd (by rw [← ek]; exact hk)))
      clear ek et hTk hd hlen hn3
      have HAT : Hid (∀ V, FEnv V → Calls Tryz.prog 31 #[.string (ba (textT u))] V fun e w' => ∃ q, e = .returned (.tuple #[.int .i64 (atoiN (textT u)), q]) ∧ ((okN (textT u) ∧ q = .nilIface) ∨ (¬ okN (textT u) ∧ ∃ tp p, q = .iface tp p)) ∧ Below V.heap.size V w') := Hid.mk fun V hV => atoiR_any (textT u) V HLN.out hV
      have hKb : (kindT u = 1 → (((kindT u + 1 : Nat) : Int) != 2) = false) ∧ (kindT u ≠ 1 → (((kindT u + 1 : Nat) : Int) != 2) = true) := ⟨fun h => by rw [h]; rfl, fun h => by simp; omega⟩
      generalize hK1 : ((kindT u + 1 : Nat) : Int) = K1 at *
      generalize hTX : ba (textT u) = TX at *
      generalize hAN : atoiN (textT u) = AN at *
      generalize hHR : ((hereT u : Nat) : Int) = HR at *
      replace S := Hid.mk (S.out.below (below_box _ (.cells #[.int .i64 K1, .string TX, .int .i64 HR] 64)))
      replace HEN := Hid.mk (HEN.out.alloc (.cells #[.int .i64 K1, .string TX, .int .i64 HR] 64))
      have XT := Hid.mk (Box.new w3 [.int .i64 K1, .string TX, .int .i64 HR] 64 _ rfl)
      go_wp2_with (go_at_call 31; fail)
      clear hc3 hcc3 hR3 hn13 j0 j1 j2 hbl3
      refine (HAT.out _ S.out.x.env.fl).mono ?_
      rintro e w4 ⟨er4, rfl, hq4, hb⟩
      replace S := Hid.mk (S.out.below hb)
      replace HEN := Hid.mk (own_but HEN.out (But.of (R := R) hb) (by omega))
      replace XT := Hid.mk (XT.out.below hb)
      have t0 := XT.out.cell 0 rfl
      have lT := XT.out.lt
      have nT : w3.heap.size ≠ R := by omega
      clear hb HAT HLN
      by_cases hk : kindT u = 1
      · have kb := hKb.1 hk
        have hnum := NUM.out hk
        by_cases hok : okN (textT u)
        · obtain ⟨-, rfl⟩ := hq4.resolve_right (fun hh => hh.1 hok)
          by_cases h5 : 5 < AN
          · as_aux_lemma =>
              have hE := E.out
              rw [show numP 5 u = .error (4, hereT u) by unfold numP; rw [if_neg (by simp [hk]), hAN, if_pos h5]; rfl] at hE
              replace E := Hid.mk (show jobP ts = .error (4, hereT u) from hE)
              clear hE hKb NUM RNG hk hok hAN hTX hK1
              go_wp2_with (go_at_call 11; fail)
              clear t0
              refine (failsx_any 4 R (.ok u) _ S.out.x).mono ?_
              rintro e wf ⟨rfl, hb, hx⟩
              replace S : Hid (SJ w R wf (.error (4, hereT u)) _) := Hid.mk (S.out.call hR hb hx)
              clear hb hx HEN XT
              go_wp2_with (go_at_call 14; fail)
              refine (must_err [61] S.out.x (by decide)).mono ?_
              rintro e wm2 ⟨rfl, hb, hx⟩
              replace S := Hid.mk (S.out.call hR hb hx)
              clear hb hx
              go_wp2_with (go_at_call 16; fail)
              refine (okx_err S.out.x).mono ?_
              rintro e wo3 ⟨rfl, hb⟩
              replace S := Hid.mk (S.out.below hb)
              clear hb
              go_wp2_with (go_at_call 14; fail)
              refine (must_err [59] S.out.x (by decide)).mono ?_
              rintro e wm4 ⟨rfl, hb, hx⟩
              replace S := Hid.mk (S.out.call hR hb hx)
              clear hb hx
              have HRR := Hid.mk S.out.r.there
              have HFU := Hid.mk (S.out.r.full (us := (jobV ⟨hereT ts, 0, outs, [], [], [], ([], 0, 0, []), ([], 0, 0, []), 0⟩ (.slice oa on oc) (.slice none 0 0) (.slice none 0 0))) rfl)
              have HRD := Hid.mk (RX.sets (k := w.heap.size) hR (jobV ⟨hereT ts, 0, outs, [], [], [], ([], 0, 0, []), ([], 0, 0, []), 0⟩ (.slice oa on oc) (.slice none 0 0) (.slice none 0 0)) 0 _ S.out.x)
              have HBU := Hid.mk (But.puts (k := w.heap.size) (Nat.le_refl _) (jobV ⟨hereT ts, 0, outs, [], [], [], ([], 0, 0, []), ([], 0, 0, []), 0⟩ (.slice oa on oc) (.slice none 0 0) (.slice none 0 0)) 0 _ S.out.b)
              have HJB : Hid (Box wm4 (w.heap.size + 1) (jobV ⟨hereT ts, 0, outs, [], [], [], ([], 0, 0, []), ([], 0, 0, []), 0⟩ (.slice oa on oc) (.slice none 0 0) (.slice none 0 0))) := Hid.mk S.out.j
              have hinf : (Tryz.prog.info? 61).map (·.size) = some 15 := by kernel_rfl
              have HIN := Hid.mk hinf
              clear hinf
              have hone : ((jobV ⟨hereT ts, 0, outs, [], [], [], ([], 0, 0, []), ([], 0, 0, []), 0⟩ (.slice oa on oc) (.slice none 0 0) (.slice none 0 0))).toArray.all (·.oneCell') = true := by simp [jobV, Value.oneCell']
              have HON := Hid.mk hone
              clear hone
              generalize hJL : ((jobV ⟨hereT ts, 0, outs, [], [], [], ([], 0, 0, []), ([], 0, 0, []), 0⟩ (.slice oa on oc) (.slice none 0 0) (.slice none 0 0))) = JL at *
              have HJL := Hid.mk hJL
              have hJl : JL.length = 15 := by rw [← hJL]; rfl
              have HJl := Hid.mk hJl
              clear hJL hJl
              have hJs : JL.toArray.size = 15 := HJl.out
              have HTH : Hid (World.there wm4 w.heap.size 0 JL.toArray.size) := by
                show World.there _ _ _ _
                rw [hJs]
                exact HRR.out
              have HI2 : Hid ((Tryz.prog.info? 61).map (·.size) = some JL.toArray.size) := by
                show _ = _
                rw [hJs]
                exact HIN.out
              clear hJs
              go_wp2_with (first | (refine wpList_load_mid rfl 61 (.tmp 3) rfl (w.heap.size + 1) 0 rfl JL _ HJB.out.range Tryz.underlying61 rfl (by rw [HJl.out]; exact HIN.out) ?_) | (refine wpList_store_mid rfl 61 (.tmp 2) (.tmp 65) rfl w.heap.size 0 JL.toArray rfl rfl HTH.out HI2.out HON.out ?_))
              refine bodyPost_ret (v := .agg JL.toArray) ?_ rfl ?_
              · exact results_cell1 rfl _ _ _ rfl (run_loadVar_mid _ w.heap.size 0 61 JL _ HFU.out.range Tryz.underlying61 rfl (by rw [HJl.out]; exact HIN.out))
              have hj2 := HJL.out
              subst hj2
              refine ⟨_, rfl, ⟨_, _, _, _, rfl, ⟨_, _, _, rfl⟩, ⟨_, _, _, rfl⟩, ⟨_, _, _, rfl⟩⟩, HBU.out, fun a t hp => ?_, ?_⟩
              · rw [E.out] at hp; cases hp
              · rw [E.out]; exact HRD.out
          · have hE := E.out
            rw [show numP 5 u = .ok (AN, u.tail) by unfold numP; rw [if_neg (by simp [hk]), hAN, if_neg h5]] at hE
            replace E := Hid.mk (show jobP ts = Except.bind (.ok u.tail : QS) fun t => (mustP [61] t).bind fun q => (bodyP (hereT ts) outs AN q.2).bind fun j => (mustP [59] j.2).bind fun e => .ok (j.1, e.2) from hE)
            have hk0 : kindT u ≠ 4 := by rw [hk]; decide
            clear hE hKb NUM RNG hk hok hAN hTX hK1
            have hh := (show RF w4 R u none from S.out.x)
            obtain ⟨b6, o6, cc6, n6, hc6, hn6, hcc6, hR6, hn16, -⟩ := hh.head
            have HTT := Hid.mk (hh.taken (Or.inl hk0) hc6)
            have hc16 : ¬ cc6 = 1 := no_one hn6 hcc6 HTT.out
            have hf0 := hh.fz 0
            have hRl := hh.lt
            have c14 := S.out.j.cell 14 rfl
            have f14 := S.out.j.fz 14
            have l14 := S.out.j.lt
            clear hh hn6
            replace S : Hid (SJ w R ((w4.setCell ⟨w.heap.size + 1, 14, none⟩ (.int .i64 AN)).setCell ⟨R, 0, none⟩ (.slice (some ⟨b6, o6 + 3, none⟩) n6 (cc6 - 1))) (.ok u.tail) [.int .i64 (hereT ts : Nat), .int .i64 0, .slice oa on oc, .slice none 0 0, .slice none 0 0, .string ⟨#[]⟩, .string ⟨#[]⟩, .int .i64 0, .int .i64 0, .string ⟨#[]⟩, .string ⟨#[]⟩, .int .i64 0, .int .i64 0, .string ⟨#[]⟩, .int .i64 AN]) := Hid.mk (by
              have h1 := S.out.store hR 14 (.int .i64 AN)
              have h2 : RF (w4.setCell ⟨w.heap.size + 1, 14, none⟩ (.int .i64 AN)) R u none := h1.x
              have hc7 : (w4.setCell ⟨w.heap.size + 1, 14, none⟩ (.int .i64 AN)).cell? ⟨R, 0, none⟩ = some (.slice (some ⟨b6, o6, none⟩) (n6 + 1) cc6) := by rw [World.cell?_of_block (Below.heap_setCell _ _ _ _ (by show R ≠ w.heap.size + 1; omega))]; exact hc6
              exact h1.call hR (But.set R 0 _ _) (h2.taken (Or.inl hk0) hc7))
            replace HEN := Hid.mk (ownsRow_setCell_below (ownsRow_setCell_below HEN.out (a := ⟨w.heap.size + 1, 14, none⟩) (by show w.heap.size + 1 < _; omega) (.int .i64 AN)) (a := ⟨R, 0, none⟩) (by show R < _; omega) (.slice (some ⟨b6, o6 + 3, none⟩) n6 (cc6 - 1)))
            clear XT HTT
            go_wp2_with (go_at_call 14; fail)
            clear hc6 hcc6 hn16 hc16 hf0 c14 f14 l14 t0
            refine (must_seq [61] S.out.x (by decide) E.out (fun _ _ _ => rfl)).mono ?_
            rintro e w5 ⟨q5, rfl, hb, hx, he⟩
            dsimp only at he
            replace E := Hid.mk he
            replace S := Hid.mk (S.out.call hR hb hx)
            replace HEN := Hid.mk (own_but HEN.out hb (by omega))
            clear hb hx he
            cases q5 with
            | error er =>
              replace E := Hid.mk (show jobP ts = .error er from E.out)
              go_wp2_with (go_at_call 16; fail)
              refine (okx_err S.out.x).mono ?_
              rintro e wo3 ⟨rfl, hb⟩
              replace S := Hid.mk (S.out.below hb)
              clear hb
              go_wp2_with (go_at_call 14; fail)
              refine (must_err [59] S.out.x (by decide)).mono ?_
              rintro e wm4 ⟨rfl, hb, hx⟩
              replace S := Hid.mk (S.out.call hR hb hx)
              clear hb hx
              have HRR := Hid.mk S.out.r.there
              have HFU := Hid.mk (S.out.r.full (us := (jobV ⟨hereT ts, 0, outs, [], [], [], ([], 0, 0, []), ([], 0, 0, []), AN⟩ (.slice oa on oc) (.slice none 0 0) (.slice none 0 0))) rfl)
              have HRD := Hid.mk (RX.sets (k := w.heap.size) hR (jobV ⟨hereT ts, 0, outs, [], [], [], ([], 0, 0, []), ([], 0, 0, []), AN⟩ (.slice oa on oc) (.slice none 0 0) (.slice none 0 0)) 0 _ S.out.x)
              have HBU := Hid.mk (But.puts (k := w.heap.size) (Nat.le_refl _) (jobV ⟨hereT ts, 0, outs, [], [], [], ([], 0, 0, []), ([], 0, 0, []), AN⟩ (.slice oa on oc) (.slice none 0 0) (.slice none 0 0)) 0 _ S.out.b)
              have HJB : Hid (Box wm4 (w.heap.size + 1) (jobV ⟨hereT ts, 0, outs, [], [], [], ([], 0, 0, []), ([], 0, 0, []), AN⟩ (.slice oa on oc) (.slice none 0 0) (.slice none 0 0))) := Hid.mk S.out.j
              have hinf : (Tryz.prog.info? 61).map (·.size) = some 15 := by kernel_rfl
              have HIN := Hid.mk hinf
              clear hinf
              have hone : ((jobV ⟨hereT ts, 0, outs, [], [], [], ([], 0, 0, []), ([], 0, 0, []), AN⟩ (.slice oa on oc) (.slice none 0 0) (.slice none 0 0))).toArray.all (·.oneCell') = true := by simp [jobV, Value.oneCell']
              have HON := Hid.mk hone
              clear hone
              generalize hJL : ((jobV ⟨hereT ts, 0, outs, [], [], [], ([], 0, 0, []), ([], 0, 0, []), AN⟩ (.slice oa on oc) (.slice none 0 0) (.slice none 0 0))) = JL at *
              have HJL := Hid.mk hJL
              have hJl : JL.length = 15 := by rw [← hJL]; rfl
              have HJl := Hid.mk hJl
              clear hJL hJl
              have hJs : JL.toArray.size = 15 := HJl.out
              have HTH : Hid (World.there wm4 w.heap.size 0 JL.toArray.size) := by
                show World.there _ _ _ _
                rw [hJs]
                exact HRR.out
              have HI2 : Hid ((Tryz.prog.info? 61).map (·.size) = some JL.toArray.size) := by
                show _ = _
                rw [hJs]
                exact HIN.out
              clear hJs
              go_wp2_with (first | (refine wpList_load_mid rfl 61 (.tmp 3) rfl (w.heap.size + 1) 0 rfl JL _ HJB.out.range Tryz.underlying61 rfl (by rw [HJl.out]; exact HIN.out) ?_) | (refine wpList_store_mid rfl 61 (.tmp 2) (.tmp 65) rfl w.heap.size 0 JL.toArray rfl rfl HTH.out HI2.out HON.out ?_))
              refine bodyPost_ret (v := .agg JL.toArray) ?_ rfl ?_
              · exact results_cell1 rfl _ _ _ rfl (run_loadVar_mid _ w.heap.size 0 61 JL _ HFU.out.range Tryz.underlying61 rfl (by rw [HJl.out]; exact HIN.out))
              have hj2 := HJL.out
              subst hj2
              refine ⟨_, rfl, ⟨_, _, _, _, rfl, ⟨_, _, _, rfl⟩, ⟨_, _, _, rfl⟩, ⟨_, _, _, rfl⟩⟩, HBU.out, fun a t hp => ?_, ?_⟩
              · rw [E.out] at hp; cases hp
              · rw [E.out]; exact HRD.out
            | ok t5 =>
              go_wp2_with (go_at_call 16; fail)
              refine (okx_ok S.out.x).mono ?_
              rintro e wo6 ⟨rfl, hb⟩
              replace S := Hid.mk (S.out.below hb)
              replace HEN := Hid.mk (own_but HEN.out (But.of (R := R) hb) (by omega))
              clear hb
              go_wp2_with (go_at_call 32; fail)
              refine (bodyr_any (hereT ts) outs AN (.slice oa on oc) (w.heap.size + 1) R t5 _ S.out.x S.out.j (by omega)).mono ?_
              have hs6 := S.out.j.lt
              rintro e w7 ⟨rfl, hx, hb2, j', vi, vc, hbx, ⟨ia, il, ic, rfl⟩, ⟨ca, cl, cd, rfl⟩, hen⟩
              change RX _ R (Except.map (·.2) (Except.bind (.ok t5 : QS) (bodyP (hereT ts) outs AN))) at hx
              have he := seq_step E.out (fun a t ha => (hen a t ha).1)
              dsimp only at he
              replace E := Hid.mk he
              replace S := Hid.mk (S.out.body hR hb2 hx hbx)
              have HOO := Hid.mk (own_but2 HEN.out hb2 (by omega) (by omega))
              have HOI : Hid (okQ (Except.map (·.2) (bodyP (hereT ts) outs AN t5)) = true → j'.outs = outs ∧ w7.ownsRow (w.heap.size + 2) 9 1 (.slice ia il ic) j'.ins.length (strV j'.ins) ∧ w7.ownsRow (w.heap.size + 2) 9 1 (.slice ca cl cd) j'.cols.length (strV j'.cols)) := Hid.mk (by
                intro ho
                cases hp : bodyP (hereT ts) outs AN t5 with
                | error e => rw [hp] at ho; cases ho
                | ok y =>
                  obtain ⟨j, t⟩ := y
                  obtain ⟨rfl, h1, h2⟩ := hen j t hp
                  exact ⟨body_outs hp, own_mono (by omega) h1, own_mono (by omega) h2⟩)
              have EB := Hid.mk E.out
              generalize hq7 : Except.map (·.2) (Except.bind (.ok t5 : QS) (bodyP (hereT ts) outs AN)) = q7 at *
              rw [show Except.map (·.2) (bodyP (hereT ts) outs AN t5) = q7 from hq7] at HOI
              clear hb2 hx hbx hen he HEN hs6 hq7
              go_wp2_with (go_at_call 14; fail)
              refine (must_seq [59] S.out.x (by decide) E.out (fun _ _ _ => rfl)).mono ?_
              rintro e w8 ⟨q8, rfl, hb, hx, he⟩
              dsimp only at he
              replace E := Hid.mk he
              replace S := Hid.mk (S.out.call hR hb hx)
              replace HOO := Hid.mk (own_but HOO.out hb (by omega))
              replace HOI := Hid.mk (fun ho => let ⟨a, b, c⟩ := HOI.out ho; (And.intro a (And.intro (own_but b hb (show R < w.heap.size + 2 by omega)) (own_but c hb (show R < w.heap.size + 2 by omega)))))
              clear hb hx he
              have HRR := Hid.mk S.out.r.there
              have HFU := Hid.mk (S.out.r.full (us := (jobV j' (.slice oa on oc) (.slice ia il ic) (.slice ca cl cd))) rfl)
              have HRD := Hid.mk (RX.sets (k := w.heap.size) hR (jobV j' (.slice oa on oc) (.slice ia il ic) (.slice ca cl cd)) 0 _ S.out.x)
              have HBU := Hid.mk (But.puts (k := w.heap.size) (Nat.le_refl _) (jobV j' (.slice oa on oc) (.slice ia il ic) (.slice ca cl cd)) 0 _ S.out.b)
              have HJB : Hid (Box w8 (w.heap.size + 1) (jobV j' (.slice oa on oc) (.slice ia il ic) (.slice ca cl cd))) := Hid.mk S.out.j
              have hinf : (Tryz.prog.info? 61).map (·.size) = some 15 := by kernel_rfl
              have HIN := Hid.mk hinf
              clear hinf
              have hone : ((jobV j' (.slice oa on oc) (.slice ia il ic) (.slice ca cl cd))).toArray.all (·.oneCell') = true := by simp [jobV, Value.oneCell']
              have HON := Hid.mk hone
              clear hone
              generalize hJL : ((jobV j' (.slice oa on oc) (.slice ia il ic) (.slice ca cl cd))) = JL at *
              have HJL := Hid.mk hJL
              have hJl : JL.length = 15 := by rw [← hJL]; rfl
              have HJl := Hid.mk hJl
              clear hJL hJl
              have hJs : JL.toArray.size = 15 := HJl.out
              have HTH : Hid (World.there w8 w.heap.size 0 JL.toArray.size) := by
                show World.there _ _ _ _
                rw [hJs]
                exact HRR.out
              have HI2 : Hid ((Tryz.prog.info? 61).map (·.size) = some JL.toArray.size) := by
                show _ = _
                rw [hJs]
                exact HIN.out
              clear hJs
              go_wp2_with (first | (refine wpList_load_mid rfl 61 (.tmp 3) rfl (w.heap.size + 1) 0 rfl JL _ HJB.out.range Tryz.underlying61 rfl (by rw [HJl.out]; exact HIN.out) ?_) | (refine wpList_store_mid rfl 61 (.tmp 2) (.tmp 65) rfl w.heap.size 0 JL.toArray rfl rfl HTH.out HI2.out HON.out ?_))
              refine bodyPost_ret (v := .agg JL.toArray) ?_ rfl ?_
              · exact results_cell1 rfl _ _ _ rfl (run_loadVar_mid _ w.heap.size 0 61 JL _ HFU.out.range Tryz.underlying61 rfl (by rw [HJl.out]; exact HIN.out))
              have hj2 := HJL.out
              subst hj2
              obtain ⟨g1, g2⟩ := seq_end E.out
              refine ⟨_, rfl, ⟨_, _, _, _, rfl, ⟨_, _, _, rfl⟩, ⟨_, _, _, rfl⟩, ⟨_, _, _, rfl⟩⟩, HBU.out, fun a t hp => ?_, by rw [g1]; exact HRD.out⟩
              obtain ⟨rfl, -⟩ := g2 a t hp
              obtain ⟨ho, h1, h2⟩ := HOI.out (ok_of EB.out hp)
              exact ⟨_, _, _, rfl, (show encL w.heap.size a.outs _ _ from by unfold encL; rw [ho]; exact own_mono (by omega) (own_sets (k := w.heap.size) (by omega) _ _ _ HOO.out)), (show encL w.heap.size a.ins _ _ from own_mono (by omega) (own_sets (k := w.heap.size) (by omega) _ _ _ h1)), (show encL w.heap.size a.cols _ _ from own_mono (by omega) (own_sets (k := w.heap.size) (by omega) _ _ _ h2))⟩
        · obtain ⟨-, tp, pq, rfl⟩ := hq4.resolve_left (fun hh => hok hh.1)
          have h5 := RNG.out hk hok
          as_aux_lemma =>
              have hE := E.out
              rw [show numP 5 u = .error (4, hereT u) by unfold numP; rw [if_neg (by simp [hk]), hAN, if_pos (by rw [h5]; decide)]; rfl] at hE
              replace E := Hid.mk (show jobP ts = .error (4, hereT u) from hE)
              clear hE hKb NUM RNG hk hok hAN hTX hK1
              go_wp2_with (go_at_call 11; fail)
              clear t0
              refine (failsx_any 4 R (.ok u) _ S.out.x).mono ?_
              rintro e wf ⟨rfl, hb, hx⟩
              replace S : Hid (SJ w R wf (.error (4, hereT u)) _) := Hid.mk (S.out.call hR hb hx)
              clear hb hx HEN XT
              go_wp2_with (go_at_call 14; fail)
              refine (must_err [61] S.out.x (by decide)).mono ?_
              rintro e wm2 ⟨rfl, hb, hx⟩
              replace S := Hid.mk (S.out.call hR hb hx)
              clear hb hx
              go_wp2_with (go_at_call 16; fail)
              refine (okx_err S.out.x).mono ?_
              rintro e wo3 ⟨rfl, hb⟩
              replace S := Hid.mk (S.out.below hb)
              clear hb
              go_wp2_with (go_at_call 14; fail)
              refine (must_err [59] S.out.x (by decide)).mono ?_
              rintro e wm4 ⟨rfl, hb, hx⟩
              replace S := Hid.mk (S.out.call hR hb hx)
              clear hb hx
              have HRR := Hid.mk S.out.r.there
              have HFU := Hid.mk (S.out.r.full (us := (jobV ⟨hereT ts, 0, outs, [], [], [], ([], 0, 0, []), ([], 0, 0, []), 0⟩ (.slice oa on oc) (.slice none 0 0) (.slice none 0 0))) rfl)
              have HRD := Hid.mk (RX.sets (k := w.heap.size) hR (jobV ⟨hereT ts, 0, outs, [], [], [], ([], 0, 0, []), ([], 0, 0, []), 0⟩ (.slice oa on oc) (.slice none 0 0) (.slice none 0 0)) 0 _ S.out.x)
              have HBU := Hid.mk (But.puts (k := w.heap.size) (Nat.le_refl _) (jobV ⟨hereT ts, 0, outs, [], [], [], ([], 0, 0, []), ([], 0, 0, []), 0⟩ (.slice oa on oc) (.slice none 0 0) (.slice none 0 0)) 0 _ S.out.b)
              have HJB : Hid (Box wm4 (w.heap.size + 1) (jobV ⟨hereT ts, 0, outs, [], [], [], ([], 0, 0, []), ([], 0, 0, []), 0⟩ (.slice oa on oc) (.slice none 0 0) (.slice none 0 0))) := Hid.mk S.out.j
              have hinf : (Tryz.prog.info? 61).map (·.size) = some 15 := by kernel_rfl
              have HIN := Hid.mk hinf
              clear hinf
              have hone : ((jobV ⟨hereT ts, 0, outs, [], [], [], ([], 0, 0, []), ([], 0, 0, []), 0⟩ (.slice oa on oc) (.slice none 0 0) (.slice none 0 0))).toArray.all (·.oneCell') = true := by simp [jobV, Value.oneCell']
              have HON := Hid.mk hone
              clear hone
              generalize hJL : ((jobV ⟨hereT ts, 0, outs, [], [], [], ([], 0, 0, []), ([], 0, 0, []), 0⟩ (.slice oa on oc) (.slice none 0 0) (.slice none 0 0))) = JL at *
              have HJL := Hid.mk hJL
              have hJl : JL.length = 15 := by rw [← hJL]; rfl
              have HJl := Hid.mk hJl
              clear hJL hJl
              have hJs : JL.toArray.size = 15 := HJl.out
              have HTH : Hid (World.there wm4 w.heap.size 0 JL.toArray.size) := by
                show World.there _ _ _ _
                rw [hJs]
                exact HRR.out
              have HI2 : Hid ((Tryz.prog.info? 61).map (·.size) = some JL.toArray.size) := by
                show _ = _
                rw [hJs]
                exact HIN.out
              clear hJs
              go_wp2_with (first | (refine wpList_load_mid rfl 61 (.tmp 3) rfl (w.heap.size + 1) 0 rfl JL _ HJB.out.range Tryz.underlying61 rfl (by rw [HJl.out]; exact HIN.out) ?_) | (refine wpList_store_mid rfl 61 (.tmp 2) (.tmp 65) rfl w.heap.size 0 JL.toArray rfl rfl HTH.out HI2.out HON.out ?_))
              refine bodyPost_ret (v := .agg JL.toArray) ?_ rfl ?_
              · exact results_cell1 rfl _ _ _ rfl (run_loadVar_mid _ w.heap.size 0 61 JL _ HFU.out.range Tryz.underlying61 rfl (by rw [HJl.out]; exact HIN.out))
              have hj2 := HJL.out
              subst hj2
              refine ⟨_, rfl, ⟨_, _, _, _, rfl, ⟨_, _, _, rfl⟩, ⟨_, _, _, rfl⟩, ⟨_, _, _, rfl⟩⟩, HBU.out, fun a t hp => ?_, ?_⟩
              · rw [E.out] at hp; cases hp
              · rw [E.out]; exact HRD.out
      · have kb := hKb.2 hk
        as_aux_lemma =>
              have hE := E.out
              rw [show numP 5 u = .error (3, hereT u) by unfold numP; rw [if_pos hk]; rfl] at hE
              replace E := Hid.mk (show jobP ts = .error (3, hereT u) from hE)
              clear hE hKb NUM RNG hk hAN hTX hK1
              go_wp2_with (go_at_call 11; fail)
              clear t0
              refine (failsx_any 3 R (.ok u) _ S.out.x).mono ?_
              rintro e wf ⟨rfl, hb, hx⟩
              replace S : Hid (SJ w R wf (.error (3, hereT u)) _) := Hid.mk (S.out.call hR hb hx)
              clear hb hx HEN XT
              go_wp2_with (go_at_call 14; fail)
              refine (must_err [61] S.out.x (by decide)).mono ?_
              rintro e wm2 ⟨rfl, hb, hx⟩
              replace S := Hid.mk (S.out.call hR hb hx)
              clear hb hx
              go_wp2_with (go_at_call 16; fail)
              refine (okx_err S.out.x).mono ?_
              rintro e wo3 ⟨rfl, hb⟩
              replace S := Hid.mk (S.out.below hb)
              clear hb
              go_wp2_with (go_at_call 14; fail)
              refine (must_err [59] S.out.x (by decide)).mono ?_
              rintro e wm4 ⟨rfl, hb, hx⟩
              replace S := Hid.mk (S.out.call hR hb hx)
              clear hb hx
              have HRR := Hid.mk S.out.r.there
              have HFU := Hid.mk (S.out.r.full (us := (jobV ⟨hereT ts, 0, outs, [], [], [], ([], 0, 0, []), ([], 0, 0, []), 0⟩ (.slice oa on oc) (.slice none 0 0) (.slice none 0 0))) rfl)
              have HRD := Hid.mk (RX.sets (k := w.heap.size) hR (jobV ⟨hereT ts, 0, outs, [], [], [], ([], 0, 0, []), ([], 0, 0, []), 0⟩ (.slice oa on oc) (.slice none 0 0) (.slice none 0 0)) 0 _ S.out.x)
              have HBU := Hid.mk (But.puts (k := w.heap.size) (Nat.le_refl _) (jobV ⟨hereT ts, 0, outs, [], [], [], ([], 0, 0, []), ([], 0, 0, []), 0⟩ (.slice oa on oc) (.slice none 0 0) (.slice none 0 0)) 0 _ S.out.b)
              have HJB : Hid (Box wm4 (w.heap.size + 1) (jobV ⟨hereT ts, 0, outs, [], [], [], ([], 0, 0, []), ([], 0, 0, []), 0⟩ (.slice oa on oc) (.slice none 0 0) (.slice none 0 0))) := Hid.mk S.out.j
              have hinf : (Tryz.prog.info? 61).map (·.size) = some 15 := by kernel_rfl
              have HIN := Hid.mk hinf
              clear hinf
              have hone : ((jobV ⟨hereT ts, 0, outs, [], [], [], ([], 0, 0, []), ([], 0, 0, []), 0⟩ (.slice oa on oc) (.slice none 0 0) (.slice none 0 0))).toArray.all (·.oneCell') = true := by simp [jobV, Value.oneCell']
              have HON := Hid.mk hone
              clear hone
              generalize hJL : ((jobV ⟨hereT ts, 0, outs, [], [], [], ([], 0, 0, []), ([], 0, 0, []), 0⟩ (.slice oa on oc) (.slice none 0 0) (.slice none 0 0))) = JL at *
              have HJL := Hid.mk hJL
              have hJl : JL.length = 15 := by rw [← hJL]; rfl
              have HJl := Hid.mk hJl
              clear hJL hJl
              have hJs : JL.toArray.size = 15 := HJl.out
              have HTH : Hid (World.there wm4 w.heap.size 0 JL.toArray.size) := by
                show World.there _ _ _ _
                rw [hJs]
                exact HRR.out
              have HI2 : Hid ((Tryz.prog.info? 61).map (·.size) = some JL.toArray.size) := by
                show _ = _
                rw [hJs]
                exact HIN.out
              clear hJs
              go_wp2_with (first | (refine wpList_load_mid rfl 61 (.tmp 3) rfl (w.heap.size + 1) 0 rfl JL _ HJB.out.range Tryz.underlying61 rfl (by rw [HJl.out]; exact HIN.out) ?_) | (refine wpList_store_mid rfl 61 (.tmp 2) (.tmp 65) rfl w.heap.size 0 JL.toArray rfl rfl HTH.out HI2.out HON.out ?_))
              refine bodyPost_ret (v := .agg JL.toArray) ?_ rfl ?_
              · exact results_cell1 rfl _ _ _ rfl (run_loadVar_mid _ w.heap.size 0 61 JL _ HFU.out.range Tryz.underlying61 rfl (by rw [HJl.out]; exact HIN.out))
              have hj2 := HJL.out
              subst hj2
              refine ⟨_, rfl, ⟨_, _, _, _, rfl, ⟨_, _, _, rfl⟩, ⟨_, _, _, rfl⟩, ⟨_, _, _, rfl⟩⟩, HBU.out, fun a t hp => ?_, ?_⟩
              · rw [E.out] at hp; cases hp
              · rw [E.out]; exact HRD.out
    · as_aux_lemma =>
        rw [show seeQ wRetry (.ok t) = false from (by show (textT t == wRetry) = false; simp [hret])]
        replace S : Hid (SJ w R w3 (.ok t) _) := Hid.mk (by have := S.out; rw [show takeQ wRetry (.ok t) = .ok t by show Except.ok (if textT t = wRetry then t.tail else t) = _; rw [if_neg hret]] at this; exact this)
        have hE := E.out
        rw [retry_no hret] at hE
        dsimp only at hE
        replace E := Hid.mk hE
        clear hE hret
        go_wp2_with (go_at_call 14; fail)
        refine (must_seq [61] S.out.x (by decide) E.out (fun _ _ _ => rfl)).mono ?_
        rintro e w5 ⟨q5, rfl, hb, hx, he⟩
        dsimp only at he
        replace E := Hid.mk he
        replace S := Hid.mk (S.out.call hR hb hx)
        replace HEN := Hid.mk (own_but HEN.out hb (by omega))
        clear hb hx he
        cases q5 with
        | error er =>
          replace E := Hid.mk (show jobP ts = .error er from E.out)
          go_wp2_with (go_at_call 16; fail)
          refine (okx_err S.out.x).mono ?_
          rintro e wo3 ⟨rfl, hb⟩
          replace S := Hid.mk (S.out.below hb)
          clear hb
          go_wp2_with (go_at_call 14; fail)
          refine (must_err [59] S.out.x (by decide)).mono ?_
          rintro e wm4 ⟨rfl, hb, hx⟩
          replace S := Hid.mk (S.out.call hR hb hx)
          clear hb hx
          have HRR := Hid.mk S.out.r.there
          have HFU := Hid.mk (S.out.r.full (us := (jobV ⟨hereT ts, 0, outs, [], [], [], ([], 0, 0, []), ([], 0, 0, []), 0⟩ (.slice oa on oc) (.slice none 0 0) (.slice none 0 0))) rfl)
          have HRD := Hid.mk (RX.sets (k := w.heap.size) hR (jobV ⟨hereT ts, 0, outs, [], [], [], ([], 0, 0, []), ([], 0, 0, []), 0⟩ (.slice oa on oc) (.slice none 0 0) (.slice none 0 0)) 0 _ S.out.x)
          have HBU := Hid.mk (But.puts (k := w.heap.size) (Nat.le_refl _) (jobV ⟨hereT ts, 0, outs, [], [], [], ([], 0, 0, []), ([], 0, 0, []), 0⟩ (.slice oa on oc) (.slice none 0 0) (.slice none 0 0)) 0 _ S.out.b)
          have HJB : Hid (Box wm4 (w.heap.size + 1) (jobV ⟨hereT ts, 0, outs, [], [], [], ([], 0, 0, []), ([], 0, 0, []), 0⟩ (.slice oa on oc) (.slice none 0 0) (.slice none 0 0))) := Hid.mk S.out.j
          have hinf : (Tryz.prog.info? 61).map (·.size) = some 15 := by kernel_rfl
          have HIN := Hid.mk hinf
          clear hinf
          have hone : ((jobV ⟨hereT ts, 0, outs, [], [], [], ([], 0, 0, []), ([], 0, 0, []), 0⟩ (.slice oa on oc) (.slice none 0 0) (.slice none 0 0))).toArray.all (·.oneCell') = true := by simp [jobV, Value.oneCell']
          have HON := Hid.mk hone
          clear hone
          generalize hJL : ((jobV ⟨hereT ts, 0, outs, [], [], [], ([], 0, 0, []), ([], 0, 0, []), 0⟩ (.slice oa on oc) (.slice none 0 0) (.slice none 0 0))) = JL at *
          have HJL := Hid.mk hJL
          have hJl : JL.length = 15 := by rw [← hJL]; rfl
          have HJl := Hid.mk hJl
          clear hJL hJl
          have hJs : JL.toArray.size = 15 := HJl.out
          have HTH : Hid (World.there wm4 w.heap.size 0 JL.toArray.size) := by
            show World.there _ _ _ _
            rw [hJs]
            exact HRR.out
          have HI2 : Hid ((Tryz.prog.info? 61).map (·.size) = some JL.toArray.size) := by
            show _ = _
            rw [hJs]
            exact HIN.out
          clear hJs
          go_wp2_with (first | (refine wpList_load_mid rfl 61 (.tmp 3) rfl (w.heap.size + 1) 0 rfl JL _ HJB.out.range Tryz.underlying61 rfl (by rw [HJl.out]; exact HIN.out) ?_) | (refine wpList_store_mid rfl 61 (.tmp 2) (.tmp 65) rfl w.heap.size 0 JL.toArray rfl rfl HTH.out HI2.out HON.out ?_))
          refine bodyPost_ret (v := .agg JL.toArray) ?_ rfl ?_
          · exact results_cell1 rfl _ _ _ rfl (run_loadVar_mid _ w.heap.size 0 61 JL _ HFU.out.range Tryz.underlying61 rfl (by rw [HJl.out]; exact HIN.out))
          have hj2 := HJL.out
          subst hj2
          refine ⟨_, rfl, ⟨_, _, _, _, rfl, ⟨_, _, _, rfl⟩, ⟨_, _, _, rfl⟩, ⟨_, _, _, rfl⟩⟩, HBU.out, fun a t hp => ?_, ?_⟩
          · rw [E.out] at hp; cases hp
          · rw [E.out]; exact HRD.out
        | ok t5 =>
          go_wp2_with (go_at_call 16; fail)
          refine (okx_ok S.out.x).mono ?_
          rintro e wo6 ⟨rfl, hb⟩
          replace S := Hid.mk (S.out.below hb)
          replace HEN := Hid.mk (own_but HEN.out (But.of (R := R) hb) (by omega))
          clear hb
          go_wp2_with (go_at_call 32; fail)
          refine (bodyr_any (hereT ts) outs 0 (.slice oa on oc) (w.heap.size + 1) R t5 _ S.out.x S.out.j (by omega)).mono ?_
          have hs6 := S.out.j.lt
          rintro e w7 ⟨rfl, hx, hb2, j', vi, vc, hbx, ⟨ia, il, ic, rfl⟩, ⟨ca, cl, cd, rfl⟩, hen⟩
          change RX _ R (Except.map (·.2) (Except.bind (.ok t5 : QS) (bodyP (hereT ts) outs 0))) at hx
          have he := seq_step E.out (fun a t ha => (hen a t ha).1)
          dsimp only at he
          replace E := Hid.mk he
          replace S := Hid.mk (S.out.body hR hb2 hx hbx)
          have HOO := Hid.mk (own_but2 HEN.out hb2 (by omega) (by omega))
          have HOI : Hid (okQ (Except.map (·.2) (bodyP (hereT ts) outs 0 t5)) = true → j'.outs = outs ∧ w7.ownsRow (w.heap.size + 2) 9 1 (.slice ia il ic) j'.ins.length (strV j'.ins) ∧ w7.ownsRow (w.heap.size + 2) 9 1 (.slice ca cl cd) j'.cols.length (strV j'.cols)) := Hid.mk (by
            intro ho
            cases hp : bodyP (hereT ts) outs 0 t5 with
            | error e => rw [hp] at ho; cases ho
            | ok y =>
              obtain ⟨j, t⟩ := y
              obtain ⟨rfl, h1, h2⟩ := hen j t hp
              exact ⟨body_outs hp, own_mono (by omega) h1, own_mono (by omega) h2⟩)
          have EB := Hid.mk E.out
          generalize hq7 : Except.map (·.2) (Except.bind (.ok t5 : QS) (bodyP (hereT ts) outs 0)) = q7 at *
          rw [show Except.map (·.2) (bodyP (hereT ts) outs 0 t5) = q7 from hq7] at HOI
          clear hb2 hx hbx hen he HEN hs6 hq7
          go_wp2_with (go_at_call 14; fail)
          refine (must_seq [59] S.out.x (by decide) E.out (fun _ _ _ => rfl)).mono ?_
          rintro e w8 ⟨q8, rfl, hb, hx, he⟩
          dsimp only at he
          replace E := Hid.mk he
          replace S := Hid.mk (S.out.call hR hb hx)
          replace HOO := Hid.mk (own_but HOO.out hb (by omega))
          replace HOI := Hid.mk (fun ho => let ⟨a, b, c⟩ := HOI.out ho; (And.intro a (And.intro (own_but b hb (show R < w.heap.size + 2 by omega)) (own_but c hb (show R < w.heap.size + 2 by omega)))))
          clear hb hx he
          have HRR := Hid.mk S.out.r.there
          have HFU := Hid.mk (S.out.r.full (us := (jobV j' (.slice oa on oc) (.slice ia il ic) (.slice ca cl cd))) rfl)
          have HRD := Hid.mk (RX.sets (k := w.heap.size) hR (jobV j' (.slice oa on oc) (.slice ia il ic) (.slice ca cl cd)) 0 _ S.out.x)
          have HBU := Hid.mk (But.puts (k := w.heap.size) (Nat.le_refl _) (jobV j' (.slice oa on oc) (.slice ia il ic) (.slice ca cl cd)) 0 _ S.out.b)
          have HJB : Hid (Box w8 (w.heap.size + 1) (jobV j' (.slice oa on oc) (.slice ia il ic) (.slice ca cl cd))) := Hid.mk S.out.j
          have hinf : (Tryz.prog.info? 61).map (·.size) = some 15 := by kernel_rfl
          have HIN := Hid.mk hinf
          clear hinf
          have hone : ((jobV j' (.slice oa on oc) (.slice ia il ic) (.slice ca cl cd))).toArray.all (·.oneCell') = true := by simp [jobV, Value.oneCell']
          have HON := Hid.mk hone
          clear hone
          generalize hJL : ((jobV j' (.slice oa on oc) (.slice ia il ic) (.slice ca cl cd))) = JL at *
          have HJL := Hid.mk hJL
          have hJl : JL.length = 15 := by rw [← hJL]; rfl
          have HJl := Hid.mk hJl
          clear hJL hJl
          have hJs : JL.toArray.size = 15 := HJl.out
          have HTH : Hid (World.there w8 w.heap.size 0 JL.toArray.size) := by
            show World.there _ _ _ _
            rw [hJs]
            exact HRR.out
          have HI2 : Hid ((Tryz.prog.info? 61).map (·.size) = some JL.toArray.size) := by
            show _ = _
            rw [hJs]
            exact HIN.out
          clear hJs
          go_wp2_with (first | (refine wpList_load_mid rfl 61 (.tmp 3) rfl (w.heap.size + 1) 0 rfl JL _ HJB.out.range Tryz.underlying61 rfl (by rw [HJl.out]; exact HIN.out) ?_) | (refine wpList_store_mid rfl 61 (.tmp 2) (.tmp 65) rfl w.heap.size 0 JL.toArray rfl rfl HTH.out HI2.out HON.out ?_))
          refine bodyPost_ret (v := .agg JL.toArray) ?_ rfl ?_
          · exact results_cell1 rfl _ _ _ rfl (run_loadVar_mid _ w.heap.size 0 61 JL _ HFU.out.range Tryz.underlying61 rfl (by rw [HJl.out]; exact HIN.out))
          have hj2 := HJL.out
          subst hj2
          obtain ⟨g1, g2⟩ := seq_end E.out
          refine ⟨_, rfl, ⟨_, _, _, _, rfl, ⟨_, _, _, rfl⟩, ⟨_, _, _, rfl⟩, ⟨_, _, _, rfl⟩⟩, HBU.out, fun a t hp => ?_, by rw [g1]; exact HRD.out⟩
          obtain ⟨rfl, -⟩ := g2 a t hp
          obtain ⟨ho, h1, h2⟩ := HOI.out (ok_of EB.out hp)
          exact ⟨_, _, _, rfl, (show encL w.heap.size a.outs _ _ from by unfold encL; rw [ho]; exact own_mono (by omega) (own_sets (k := w.heap.size) (by omega) _ _ _ HOO.out)), (show encL w.heap.size a.ins _ _ from own_mono (by omega) (own_sets (k := w.heap.size) (by omega) _ _ _ h1)), (show encL w.heap.size a.cols _ _ from own_mono (by omega) (own_sets (k := w.heap.size) (by omega) _ _ _ h2))⟩
end Go.Proofs.YtedflhiflomoeaaGreatDoor

