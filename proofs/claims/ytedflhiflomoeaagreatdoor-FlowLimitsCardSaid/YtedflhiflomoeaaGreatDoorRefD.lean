import Derived.Test.YtedflhiflomoeaaGreatDoorRefC
set_option linter.unusedSimpArgs false
set_option linter.unusedVariables false
namespace Go.Proofs.YtedflhiflomoeaaGreatDoor
open Go.RowKit

theorem RF.grown {w w' : World} {R : Nat} {ts : List Tk} {bad : Bd} {row : Option Nat} (h : RF w R ts bad) (hg : w.grownBy w' row) (hr : ∀ k, row = some k → R < k) : RF w' R ts bad := by
  have hlt := h.lt
  obtain ⟨b, o, c, hx, hl, hR, ht⟩ := h.box
  have hB : ∀ g, g ≤ R → w'.heap[g]? = w.heap[g]? := fun g hle => hg.block g (by omega) (fun e => by have := hr g e.symm; omega)
  exact ⟨⟨b, o, c, hx.block (hB R (Nat.le_refl _)), hl, hR, ht.cells (fun i => World.cell?_of_block (w := w) (hB b (Nat.le_of_lt hR)))⟩, h.good, h.env.blocks hg.size (fun g hm => hB g (Nat.le_of_lt (h.out g hm))), h.out, h.end4⟩
theorem RX.grown {w w' : World} {R : Nat} {q : QS} {row : Option Nat} (h : RX w R q) (hg : w.grownBy w' row) (hr : ∀ k, row = some k → R < k) : RX w' R q := by
  cases q with
  | ok ts => exact RF.grown h hg hr
  | error e => obtain ⟨ts, h⟩ := h; exact ⟨ts, h.grown hg hr⟩
def lenQ (q : QS) : Nat := match q with | .ok ts => ts.length | .error _ => 0
/-- A list of texts, whatever they are. -/
def shpL (v : Value) : Prop := ∃ a n c, v = .slice a n c ∧ n ≤ 5000
theorem some_start (q : QS) : q.bind namesP = match q.bind nameP with | .ok (a, ts) => moreP ts.length [a] ts | .error e => .error e := by
  cases q with
  | error e => rfl
  | ok ts =>
    show namesP ts = match nameP ts with | .ok (a, ts) => moreP ts.length [a] ts | .error e => .error e
    unfold namesP
    cases nameP ts with
    | error e => rfl
    | ok x => rfl
/-- Where the list of names stands. -/
def SomeAt (q : QS) (q' : QS) (xs : List Value) : Prop := match q' with
  | .error e => q.bind namesP = .error e
  | .ok ts' => ∃ f acc, ts'.length ≤ f ∧ xs = strV acc ∧ q.bind namesP = moreP f acc ts'
set_option maxRecDepth 100000 in
set_option maxHeartbeats 3200000 in
theorem somer_any (R : Nat) (q : QS) (w : World) (h : RX w R q) : Calls Tryz.prog 30 #[.pointer (some ⟨R, 0, none⟩)] w fun e w' => RC (q.bind namesP) (encL w.heap.size) shpL R w e w' := by
  obtain ⟨i0, hi, hz0, hz1, hz2⟩ := info_parts Tryz.infoStr
  have hR := h.lt
  have H := Hid.mk h
  clear h
  go_enter Tryz.func30, Tryz.ntmps30
  go_wp2_with (go_at_call 15; fail)
  refine (namer_any R q w H.out).mono ?_
  rintro e w1 ⟨v, rfl, ⟨s1, rfl, hs1l⟩, hb1, henc1, hx1⟩
  have hs1 := hb1.size
  have HS1 : Hid (SomeAt q ((q.bind nameP).map (·.2)) [.string (ba s1)] ∧ lenQ ((q.bind nameP).map (·.2)) ≤ 1000) := Hid.mk (by
    have hst := some_start q
    cases hq : q.bind nameP with
    | error e => rw [hq] at hst; exact ⟨hst, by show 0 ≤ _; omega⟩
    | ok x =>
      obtain ⟨a, ts1⟩ := x
      rw [hq] at hst hx1
      have := henc1 a ts1 hq
      have hl : ts1.length ≤ 1000 := (show RF w1 R ts1 none from hx1).good.len
      refine ⟨⟨ts1.length, [a], Nat.le_refl _, ?_, hst⟩, hl⟩
      unfold encT at this
      rw [this]; rfl)
  have HX1 := Hid.mk (hx1.below (below_box w1 (.cells #[.string (ba s1)] 9)))
  have HB1 := Hid.mk (hb1.box (.cells #[.string (ba s1)] 9))
  have HO1 := Hid.mk (own_new1 w1 w.heap.size 9 (strV [s1]) 1 _ rfl hs1 rfl)
  generalize (q.bind nameP).map (·.2) = q1 at *
  clear hx1 hb1 henc1
  go_wp2_with fail
  generalize hW1 : w1.alloc (.cells #[.string (ba s1)] 9) = W1 at *
  rw [show (strV [s1]).toArray = #[.string (ba s1)] from rfl, hW1] at HO1
  clear hW1
  go_loopg [3] (lenQ q1) (fun g l wr => ∃ (q' : QS) (xs : List Value) (n : Nat), lenQ q' ≤ g ∧ n + lenQ q' ≤ 2000 ∧ wr.ownsRow w.heap.size 9 1 l n xs ∧ Aside (n = xs.length ∧ RX wr R q' ∧ But R w wr ∧ SomeAt q q' xs))
  case atStart => exact ⟨q1, [.string (ba s1)], 1, Nat.le_refl _, by have := HS1.out.2; omega, HO1.out, rfl, HX1.out, HB1.out, HS1.out.1⟩
  case round =>
    clear HO1 HX1 HB1 HS1
    obtain ⟨q', xs, n, hg, hn2, hown, HH⟩ := hrel
    obtain ⟨la, lc, rfl⟩ := own_slice hown
    have HO := Hid.mk hown
    clear hown
    cases q' with
    | error e =>
      obtain ⟨ts', hrf⟩ := HH.out.2.1
      have HM := Hid.mk (taker_any [44] R ts' (some e) wr hrf (by simp))
      rw [show seeB [44] ts' (some e) = false from rfl] at HM
      clear hrf
      go_wp2_with (go_at_call 28; refine HM.out.mono ?_; rintro e2 w2 ⟨rfl, hb2, hr2⟩; have HC2 := Hid.mk hr2; have HB2 := Hid.mk (HH.out.2.2.1.then hb2); clear hb2 hr2)
      go_ret
      refine ⟨.slice la n lc, rfl, ⟨la, n, lc, rfl, by omega⟩, HB2.out, fun a ts he => ?_, ?_⟩
      · rw [show q.bind namesP = .error e from HH.out.2.2.2] at he; cases he
      · rw [show q.bind namesP = .error e from HH.out.2.2.2]; exact ⟨_, HC2.out⟩
    | ok ts' =>
      have hrf : RF wr R ts' none := HH.out.2.1
      obtain ⟨f, acc, hf, hxs, hnm⟩ := (show ∃ f acc, ts'.length ≤ f ∧ xs = strV acc ∧ q.bind namesP = moreP f acc ts' from HH.out.2.2.2)
      obtain ⟨t, r, hts⟩ := hrf.good.ne
      obtain ⟨f', rfl⟩ : ∃ f', f = f' + 1 := ⟨f - 1, by rw [hts] at hf; simp at hf; omega⟩
      have HM := Hid.mk (taker_any [44] R ts' none wr hrf (by simp))
      by_cases hm : textT ts' = [44]
      · have hsb : seeB [44] ts' none = true := by simp [seeB, hm]
        rw [hsb, show takeT [44] ts' none = ts'.tail by unfold takeT; rw [if_pos hsb]] at HM
        have HNM := Hid.mk (show q.bind namesP = (nameP ts'.tail).bind fun x => moreP f' (acc ++ [x.1]) x.2 by rw [hnm, moreP, if_pos hm])
        have htl : ts'.tail.length + 1 = ts'.length := by rw [hts]; simp
        have HF := Hid.mk (show ts'.length ≤ f' + 1 from hf)
        have HXS := Hid.mk hxs
        have hlq := hg
        change ts'.length ≤ _ at hlq
        have hln : n + ts'.length ≤ 2000 := hn2
        clear hm hf hnm hts hrf hsb hxs hg hn2
        go_wp2_with (go_at_call 28; fail)
        refine HM.out.mono ?_
        rintro e w2 ⟨rfl, hb2, hrd2⟩
        have H2 := Hid.mk hrd2
        have B2 := Hid.mk (HH.out.2.2.1.then hb2)
        have hO2 := own_but HO.out hb2 hR
        clear hrd2 hb2
        go_wp2_with (go_at_call 15; fail)
        refine (namer_any R (.ok ts'.tail) w2 H2.out).mono ?_
        rintro e w3 ⟨v, rfl, ⟨s3, rfl, hs3l⟩, hb3, henc3, hx3⟩
        have hs3 := (B2.out.then hb3).size
        obtain ⟨q3, hq3⟩ : ∃ q3, ((Except.ok ts'.tail : QS).bind nameP).map (·.2) = q3 := ⟨_, rfl⟩
        have HS3 : Hid (SomeAt q q3 (xs ++ [.string (ba s3)]) ∧ lenQ q3 + 1 ≤ ts'.tail.length) := Hid.mk (by
          subst hq3
          have h3 := H2.out.good.ne
          change ∀ a ts, nameP ts'.tail = .ok (a, ts) → _ at henc3
          show SomeAt q ((nameP ts'.tail).map (·.2)) _ ∧ lenQ ((nameP ts'.tail).map (·.2)) + 1 ≤ _
          cases hp : nameP ts'.tail with
          | error e =>
            refine ⟨?_, ?_⟩
            · show q.bind namesP = .error e
              rw [HNM.out, hp]; rfl
            · show 0 + 1 ≤ _
              obtain ⟨t, r, hts⟩ := h3
              rw [hts]; simp
          | ok x =>
            obtain ⟨a3, ts3⟩ := x
            have ht3 := name_tail hp
            have hl : ts3.length + 1 = ts'.tail.length := by
              rw [ht3]
              obtain ⟨t, r, hts⟩ := h3
              rw [hts]; simp
            refine ⟨⟨f', acc ++ [a3], by have := HF.out; show ts3.length ≤ f'; omega, ?_, ?_⟩, by show ts3.length + 1 ≤ _; omega⟩
            · have e := henc3 a3 ts3 hp
              unfold encT at e
              rw [HXS.out, e]; simp [strV]
            · rw [HNM.out, hp]; rfl)
        rw [hq3] at hx3
        have H3 := Hid.mk (hx3.below (below_box w3 (.cells #[.string (ba s3)] 9)))
        have B3 := Hid.mk ((B2.out.then hb3).box (.cells #[.string (ba s3)] 9))
        have O3 := Hid.mk ((own_but hO2 hb3 hR).alloc (.cells #[.string (ba s3)] 9))
        clear hx3 hb3 hO2 henc3 hq3
        go_wp2_with (at_builtin; refine wpList_append_own _ rfl _ _ 26 rfl w.heap.size 9 i0 (.string ⟨#[]⟩) 1 16 Tryz.underlying26 hi hz0 hz1 hz2 rfl (by decide) _ _ _ rfl O3.out ⟨w3.heap.size, 0, none⟩ 1 1 [.string (ba s3)] rfl rfl (news1 _ _ _ _ rfl) (one1t _) ?c3 ?c4 ?c5 ?_)
        case c3 => unfold maxLen; omega
        case c4 => omega
        case c5 => simp; omega
        intro v' w5 hown' hgrow _
        have hrow : ∀ k, (Value.slice la n lc).ownBlock = some k → w.heap.size ≤ k := fun k hk => (O3.out.lt k hk).1
        have H5 := Hid.mk (H3.out.grown hgrow (fun k hk => Nat.lt_of_lt_of_le hR (hrow k hk)))
        have B5 := Hid.mk (B3.out.grown hgrow hrow)
        have O5 := Hid.mk hown'
        have hlen := HS3.out.2
        clear hown' hgrow hrow
        go_wp2
        go_roundg (lenQ q3)
        case measure => omega
        case rel => exact ⟨q3, xs ++ [.string (ba s3)], n + 1, Nat.le_refl _, by omega, O5.out, by simp [HH.out.1], H5.out, B5.out, HS3.out.1⟩
      · have hsb : seeB [44] ts' none = false := by simp [seeB, hm]
        rw [hsb, show takeT [44] ts' none = ts' by unfold takeT; rw [if_neg (by rw [hsb]; simp)]] at HM
        have HE : Hid (q.bind namesP = .ok (acc, ts')) := Hid.mk (by rw [hnm, moreP, if_neg hm])
        have HXS := Hid.mk hxs
        have hln : n ≤ 2000 := by have : n + ts'.length ≤ 2000 := hn2; omega
        clear hm hf hnm hts hrf hsb hxs hg hn2
        go_wp2_with (go_at_call 28; refine HM.out.mono ?_; rintro e2 w2 ⟨rfl, hb2, hr2⟩; have HC2 := Hid.mk hr2; have HB2 := Hid.mk (HH.out.2.2.1.then hb2); have HO2 := Hid.mk (own_but HO.out hb2 hR); clear hb2 hr2)
        go_ret
        refine ⟨.slice la n lc, rfl, ⟨la, n, lc, rfl, by omega⟩, HB2.out, fun a ts he => ?_, ?_⟩
        · rw [HE.out] at he
          cases he
          have hl : n = acc.length := by rw [HH.out.1, HXS.out]; simp [strV]
          have := HO2.out
          rw [HXS.out, hl] at this
          rw [hl]
          exact this
        · rw [HE.out]; exact HC2.out
end Go.Proofs.YtedflhiflomoeaaGreatDoor
