import Derived.Test.YtedflhiflomoeaaGreatDoorFlwD
set_option linter.unusedSimpArgs false
set_option linter.unusedVariables false
namespace Go.Proofs.YtedflhiflomoeaaGreatDoor
open Go.RowKit

theorem Tryz.infoStr : (Tryz.prog.info? 9).map (fun i => (i.zero, i.size, i.bytes)) = some (some (.string ⟨#[]⟩), 1, 16) := by kernel_rfl
theorem info_parts {P : Program} {t : TypeId} {z : Value} {s b : Nat} (h : (P.info? t).map (fun i => (i.zero, i.size, i.bytes)) = some (some z, s, b)) : ∃ i, P.info? t = some i ∧ i.zero = some z ∧ i.size = s ∧ i.bytes = b := by
  cases hi : P.info? t with
  | none => rw [hi] at h; simp at h
  | some i => rw [hi] at h; simp at h; exact ⟨i, rfl, h.1, h.2.1, h.2.2⟩
theorem news1 (w : World) (v : Value) (t : TypeId) (H : Nat) (hH : w.heap.size = H) : ∀ j u, [v][j]? = some u → (w.alloc (.cells #[v] t)).cell? ((⟨H, 0, none⟩ : Addr).add j) = some u := by
  intro j u hj
  match j, hj with
  | 0, hj => simp at hj; subst hj; subst hH; simp [Addr.add]
theorem one1t (s : ByteArray) : ∀ u ∈ [Value.string s], u.oneCell' = true := by intro u hu; simp at hu; subst hu; rfl
theorem own_slice {w : World} {B : Nat} {e : TypeId} {z : Nat} {v : Value} {n : Nat} {xs : List Value} (h : w.ownsRow B e z v n xs) : ∃ a c, v = .slice a n c := by
  obtain ⟨-, ⟨rfl, hn⟩ | ⟨g, cap, cur, rfl, -⟩⟩ := h
  · exact ⟨none, 0, by rw [hn]⟩
  · exact ⟨_, _, rfl⟩
theorem own_mono {w : World} {base B : Nat} {e : TypeId} {size : Nat} {v : Value} {n : Nat} {xs : List Value} (hB : B ≤ base) (h : w.ownsRow base e size v n xs) : w.ownsRow B e size v n xs := by
  obtain ⟨h1, h | ⟨g, cap, cur, hv, hg, r⟩⟩ := h
  · exact ⟨h1, Or.inl h⟩
  · exact ⟨h1, Or.inr ⟨g, cap, cur, hv, by omega, r⟩⟩
/-- A row of the call's own stays while the reader reads. -/
theorem own_but {w w' : World} {R base : Nat} {e : TypeId} {size : Nat} {v : Value} {n : Nat} {xs : List Value} (h : w.ownsRow base e size v n xs) (hb : But R w w') (hR : R < base) : w'.ownsRow base e size v n xs :=
  h.kept hb (by
    cases hk : v.ownBlock with
    | none => exact Or.inl rfl
    | some k =>
      have := h.lt k hk
      exact Or.inr (by intro e; injection e with e; omega))
/-- A row of one element, just made. -/
theorem own_new1 (w : World) (B : Nat) (T : TypeId) (l : List Value) (z H : Nat) (hz : l.length = z) (hB : B ≤ w.heap.size) (hH : H = w.heap.size) : (w.alloc (.cells l.toArray T)).ownsRow B T z (.slice (some ⟨H, 0, none⟩) 1 1) 1 l := by
  subst hH
  refine ⟨by omega, Or.inr ⟨w.heap.size, 1, l.toArray, rfl, hB, ?_, Nat.le_refl _, by unfold maxLen; omega, by simp [hz], by subst hz; simp⟩⟩
  show (w.heap.push _)[w.heap.size]? = _
  simp
theorem But.grown {R : Nat} {w w1 w2 : World} {row : Option Nat} (h : But R w w1) (hg : w1.grownBy w2 row) (hr : ∀ k, row = some k → w.heap.size ≤ k) : But R w w2 :=
  ⟨hg.os.trans h.os, hg.tape.trans h.tape, hg.output.trans h.output, Nat.le_trans h.size hg.size, fun i hi hne => (hg.block i (Nat.lt_of_lt_of_le hi h.size) (fun e => by have := hr i e.symm; omega)).trans (h.block i hi hne)⟩
theorem RD.grown {w w' : World} {R : Nat} {ts : List Tk} {row : Option Nat} (h : RD w R ts) (hg : w.grownBy w' row) (hr : ∀ k, row = some k → R < k) : RD w' R ts := by
  have hlt := h.lt
  have hB : Below (R + 1) w w' := ⟨hg.os, hg.tape, hg.output, hg.size, fun k hk => hg.block k (by omega) (fun e => by have := hr k e.symm; omega)⟩
  obtain ⟨b, o, c, hc, hl, hR, ht⟩ := h.cell
  exact ⟨⟨b, o, c, (hB.cell (p := ⟨R, 0, none⟩) (Nat.lt_succ_self R)).trans hc, hl, hR, fun j hj => ⟨(hB.cell (p := ⟨b, o + j * 3, none⟩) (Nat.lt_succ_of_lt hR)).trans (ht j hj).1, (hB.cell (p := ⟨b, o + j * 3 + 1, none⟩) (Nat.lt_succ_of_lt hR)).trans (ht j hj).2.1, (hB.cell (p := ⟨b, o + j * 3 + 2, none⟩) (Nat.lt_succ_of_lt hR)).trans (ht j hj).2.2⟩⟩, Nat.lt_of_lt_of_le hlt hg.size, (hB.frozen (p := ⟨R, 0, none⟩) (Nat.lt_succ_self R)).trans h.fz, h.good, h.env.blocks hg.size (fun g hg' => hB.block g (by have := h.out g hg'; omega)), h.out⟩
def strV (l : List By) : List Value := l.map fun x => .string (ba x)
/-- A list of texts in a row of its own, from a block on. -/
def encL (B : Nat) : List By → Value → World → Prop := fun l v w' => w'.ownsRow B 9 1 v l.length (strV l)
theorem name_tail {ts ts' : List Tk} {a : By} (h : nameP ts = .ok (a, ts')) : ts' = ts.tail := by
  unfold nameP at h
  split at h
  · cases h
  · split at h
    · cases h
    · simp only [Except.ok.injEq, Prod.mk.injEq] at h
      exact h.2.symm
set_option maxRecDepth 100000 in
set_option maxHeartbeats 1600000 in
theorem rnames_any (R : Nat) (ts : List Tk) (w : World) (h : RD w R ts) : Calls Tryz.prog 59 #[.pointer (some ⟨R, 0, none⟩)] w fun e w' => Rs (namesP ts) (encL w.heap.size) e w.heap.size w' R ∧ But R w w' := by
  obtain ⟨i0, hi, hz0, hz1, hz2⟩ := info_parts Tryz.infoStr
  have hR := h.lt
  have H := Hid.mk h
  clear h
  go_enter Tryz.func59, Tryz.ntmps59
  go_wp2_with (go_at_call 56; fail)
  refine (rname_any R ts w H.out).mono ?_
  rintro e w1 ⟨⟨a, ts1, v, hp, rfl, hv, hrd⟩ | ⟨er, hp, hthr⟩, hb1⟩
  · unfold encS at hv
    subst hv
    have hs1 := hb1.size
    have hl1 := hrd.good.len
    have HN := Hid.mk (show namesP ts = moreP ts1.length [a] ts1 by rw [namesP, hp]; rfl)
    have HR1 := Hid.mk (hrd.below (below_box w1 (.cells #[.string (ba a)] 9)))
    have HB1 := Hid.mk (hb1.box (.cells #[.string (ba a)] 9))
    have HO1 := Hid.mk (own_new1 w1 w.heap.size 9 (strV [a]) 1 _ rfl hs1 rfl)
    clear hp hrd hb1
    go_wp2_with fail
    generalize hW1 : w1.alloc (.cells #[.string (ba a)] 9) = W1 at *
    rw [show (strV [a]).toArray = #[.string (ba a)] from rfl, hW1] at HO1
    clear hW1
    go_loopg [3] ts1.length (fun g l wr => ∃ (acc : List By) (ts' : List Tk) (n : Nat), ts'.length ≤ g ∧ n + ts'.length ≤ 2000 ∧ wr.ownsRow w.heap.size 9 1 l n (strV acc) ∧ Aside (n = acc.length ∧ RD wr R ts' ∧ But R w wr ∧ ∃ f, ts'.length ≤ f ∧ namesP ts = moreP f acc ts'))
    case atStart => exact ⟨[a], ts1, 1, Nat.le_refl _, by omega, HO1.out, rfl, HR1.out, HB1.out, _, Nat.le_refl _, HN.out⟩
    case round =>
      clear HO1 HR1 HB1 HN
      obtain ⟨acc, ts', n, hg, hn2, hown, HH⟩ := hrel
      obtain ⟨la, lc, rfl⟩ := own_slice hown
      have HO := Hid.mk hown
      clear hown
      by_cases hm : textT ts' = [44]
      · have HM := Hid.mk (may_any [44] R ts' wr HH.out.2.1 (by simp))
        rw [if_pos hm, show (textT ts' == [44]) = true by simp [hm]] at HM
        obtain ⟨f, hf, hnm⟩ := HH.out.2.2.2
        obtain ⟨t, r, hts⟩ := HH.out.2.1.good.ne
        obtain ⟨f', rfl⟩ : ∃ f', f = f' + 1 := ⟨f - 1, by rw [hts] at hf; simp at hf; omega⟩
        have HNM := Hid.mk (show namesP ts = (nameP ts'.tail).bind fun x => moreP f' (acc ++ [x.1]) x.2 by rw [hnm, moreP, if_pos hm])
        have htl : ts'.tail.length + 1 = ts'.length := by rw [hts]; simp
        have HF := Hid.mk (show ts'.length ≤ f' + 1 from hf)
        clear hm hf hnm hts
        go_wp2_with (go_at_call 58; fail)
        refine HM.out.mono ?_
        rintro e w2 ⟨rfl, hrd2, hb2⟩
        have H2 := Hid.mk hrd2
        have B2 := Hid.mk (HH.out.2.2.1.then hb2)
        have hO2 := own_but HO.out hb2 hR
        clear hrd2 hb2
        go_wp2_with (go_at_call 56; fail)
        refine (rname_any R ts'.tail w2 H2.out).mono ?_
        rintro e w3 ⟨⟨a3, ts3, v, hp, rfl, hv, hrd⟩ | ⟨er, hp, hthr⟩, hb3⟩
        · unfold encS at hv
          subst hv
          have hs3 := (B2.out.then hb3).size
          have H3 := Hid.mk (hrd.below (below_box w3 (.cells #[.string (ba a3)] 9)))
          have B3 := Hid.mk ((B2.out.then hb3).box (.cells #[.string (ba a3)] 9))
          have O3 := Hid.mk ((own_but hO2 hb3 hR).alloc (.cells #[.string (ba a3)] 9))
          have HNN := Hid.mk (show namesP ts = moreP f' (acc ++ [a3]) ts3 by rw [HNM.out, hp]; rfl)
          have HT3 := Hid.mk (name_tail hp)
          have h3 := H2.out.good.ne
          clear hp hrd hb3 hO2
          go_wp2_with (at_builtin; refine wpList_append_own _ rfl _ _ 26 rfl w.heap.size 9 i0 (.string ⟨#[]⟩) 1 16 Tryz.underlying26 hi hz0 hz1 hz2 rfl (by decide) _ _ _ rfl O3.out ⟨w3.heap.size, 0, none⟩ 1 1 [.string (ba a3)] rfl rfl (news1 _ _ _ _ rfl) (one1t _) ?c3 ?c4 ?c5 ?_)
          case c3 => unfold maxLen; omega
          case c4 => omega
          case c5 => simp; omega
          intro v' w5 hown' hgrow _
          have hrow : ∀ k, (Value.slice la n lc).ownBlock = some k → w.heap.size ≤ k := fun k hk => (O3.out.lt k hk).1
          have H5 := Hid.mk (H3.out.grown hgrow (fun k hk => Nat.lt_of_lt_of_le hR (hrow k hk)))
          have B5 := Hid.mk (B3.out.grown hgrow hrow)
          have O5 := Hid.mk (show w5.ownsRow w.heap.size 9 1 v' (n + 1) (strV (acc ++ [a3])) by rw [show strV (acc ++ [a3]) = strV acc ++ [.string (ba a3)] by simp [strV]]; exact hown')
          have hlen : ts3.length + 1 = ts'.tail.length := by
            rw [HT3.out]
            obtain ⟨t, r, hts⟩ := h3
            rw [hts]; simp
          clear hown' hgrow hrow h3
          go_wp2
          go_roundg ts3.length
          case measure => omega
          case rel => exact ⟨acc ++ [a3], ts3, n + 1, Nat.le_refl _, by omega, O5.out, by simp [HH.out.1], H5.out, B5.out, f', by have := HF.out; omega, HNN.out⟩
        · obtain ⟨b', rfl, t0, t1, tB, tl⟩ := hthr
          have HP := Hid.mk (show namesP ts = .error er by rw [HNM.out, hp]; rfl)
          have hs2 := B2.out.size
          go_wp2
          exact ⟨rfl, Or.inr ⟨_, HP.out, b', rfl, t0, t1, by first | omega | (simp at tB; omega), tl⟩, B2.out.then hb3⟩
      · have HM := Hid.mk (may_any [44] R ts' wr HH.out.2.1 (by simp))
        rw [if_neg hm, show (textT ts' == [44]) = false by simp [hm]] at HM
        obtain ⟨f, hf, hnm⟩ := HH.out.2.2.2
        obtain ⟨t, r, hts⟩ := HH.out.2.1.good.ne
        obtain ⟨f', rfl⟩ : ∃ f', f = f' + 1 := ⟨f - 1, by rw [hts] at hf; simp at hf; omega⟩
        have HP := Hid.mk (show namesP ts = .ok (acc, ts') by rw [hnm, moreP, if_neg hm])
        clear hm hf hnm hts
        go_wp2_with (go_at_call 58; fail)
        refine HM.out.mono ?_
        rintro e w2 ⟨rfl, hrd2, hb2⟩
        have HE := Hid.mk (And.intro hrd2 (And.intro (HH.out.2.2.1.then hb2) (own_but HO.out hb2 hR)))
        clear hrd2 hb2
        go_wp2
        go_ret
        exact ⟨Or.inl ⟨_, _, _, HP.out, rfl, by unfold encL; rw [← HH.out.1]; exact HE.out.2.2, HE.out.1⟩, HE.out.2.1⟩
  · obtain ⟨b', rfl, t0, t1, tB, tl⟩ := hthr
    have HP := Hid.mk (show namesP ts = .error er by rw [namesP, hp]; rfl)
    go_wp2
    exact ⟨rfl, Or.inr ⟨_, HP.out, b', rfl, t0, t1, by first | omega | (simp at tB; omega), tl⟩, hb1⟩
end Go.Proofs.YtedflhiflomoeaaGreatDoor
