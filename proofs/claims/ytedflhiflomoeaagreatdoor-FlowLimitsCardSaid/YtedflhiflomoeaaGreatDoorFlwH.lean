import Derived.Test.YtedflhiflomoeaaGreatDoorFlwG
import Derived.Deep.AppendLies
import Derived.Deep.RegionHeld3
import Derived.Deep.RegionLaw
import Derived.Deep.Cut
import Derived.Deep.DeepCutAuto
set_option linter.unusedSimpArgs false
set_option linter.unusedVariables false
namespace Go.Proofs.YtedflhiflomoeaaGreatDoor
open Go.RowKit

theorem Tryz.infoCol : (Tryz.prog.info? 86).map (fun i => (i.zero, i.size, i.bytes)) = some (some (.agg #[.string ⟨#[]⟩, .int .i64 0]), 2, 24) := by kernel_rfl
theorem Rs.ok {α : Type} {a : α} {ts' : List Tk} {enc : α → Value → World → Prop} {e : Ending} {B : Nat} {w' : World} {R : Nat} (h : Rs (.ok (a, ts')) enc e B w' R) : ∃ v, e = .returned v ∧ enc a v w' ∧ RD w' R ts' := by
  rcases h with ⟨a', ts1, v, hp, he, hv, hr⟩ | ⟨er, hp, -⟩
  · simp only [Except.ok.injEq, Prod.mk.injEq] at hp
    obtain ⟨rfl, rfl⟩ := hp
    exact ⟨v, he, hv, hr⟩
  · cases hp
theorem Rs.err {α : Type} {er : Int × Nat} {enc : α → Value → World → Prop} {e : Ending} {B : Nat} {w' : World} {R : Nat} (h : Rs (.error er : PE α) enc e B w' R) : Thr e w' B er := by
  rcases h with ⟨a', ts1, v, hp, -⟩ | ⟨er', hp, ht⟩
  · cases hp
  · simp only [Except.error.injEq] at hp
    subst hp
    exact ht
theorem Box.grown {w w' : World} {k : Nat} {vs : List Value} {row : Option Nat} (h : Box w k vs) (hg : w.grownBy w' row) (hne : row ≠ some k) : Box w' k vs := h.block (hg.block k h.lt (fun e => hne e.symm))
theorem RD.drew {w : World} {R : Nat} {ts : List Tk} (h : RD w R ts) : RD w.drew R ts := h.below (Below.refl _ _).drew
theorem But.drew {R : Nat} {w w' : World} (h : But R w w') : But R w w'.drew := h.then (But.of (Below.refl _ _).drew)
theorem news_blk (w : World) (l : List Value) (t : TypeId) (H : Nat) (hH : w.heap.size = H) : ∀ j u, l[j]? = some u → (w.alloc (.cells l.toArray t)).cell? ((⟨H, 0, none⟩ : Addr).add j) = some u := by
  intro j u hj
  have hB := Box.new w l t H hH.symm
  have := hB.cell j hj
  rw [show ((⟨H, 0, none⟩ : Addr).add j) = ⟨H, j, none⟩ by simp only [Addr.add, Nat.zero_add]; split <;> simp_all]
  exact this
theorem bind_assoc {ε α β γ : Type} (r : Except ε α) (f : α → Except ε β) (g : β → Except ε γ) : (r.bind f).bind g = r.bind fun x => (f x).bind g := by cases r <;> rfl
theorem column_len {ts tn : List Tk} {c : By × Int} (h : columnP ts = .ok (c, tn)) : tn = ts.tail.tail := by
  unfold columnP at h
  cases hn : nameP ts with
  | error e => rw [hn] at h; cases h
  | ok x =>
    obtain ⟨a, t1⟩ := x
    have ht := name_tail hn
    rw [hn] at h
    simp only [Except.bind] at h
    split at h
    · simp only [Except.ok.injEq, Prod.mk.injEq] at h
      rw [← h.2, ht]
    · split at h
      · simp only [Except.ok.injEq, Prod.mk.injEq] at h
        rw [← h.2, ht]
      · cases h
def colV (l : List (By × Int)) : List Value := l.flatMap fun c => [.string (ba c.1), .int .i64 c.2]
theorem colV_app (l : List (By × Int)) (a : By × Int) : colV (l ++ [a]) = colV l ++ [.string (ba a.1), .int .i64 a.2] := by simp [colV]
/-- Columns in a row of their own. -/
def encCs (B : Nat) (l : List (By × Int)) (v : Value) (w' : World) : Prop := w'.ownsRow B 86 2 v l.length (colV l)
def encIn (B : Nat) : FIn → Value → World → Prop := fun a v w' => ∃ vc, v = .agg #[.int .i64 (a.at_ : Nat), .string (ba a.name), vc] ∧ encCs B a.cols vc w'
set_option maxRecDepth 100000 in
set_option maxHeartbeats 3200000 in
theorem rinput_any (R : Nat) (ts : List Tk) (w : World) (h : RD w R ts) : Calls Tryz.prog 38 #[.pointer (some ⟨R, 0, none⟩)] w fun e w' => Rs (inputP ts) (encIn w.heap.size) e w.heap.size w' R ∧ But R w w' := by
  obtain ⟨i0, hi, hz0, hz1, hz2⟩ := info_parts Tryz.infoCol
  have hR := h.lt
  have H0 := Hid.mk h
  have B0 := Hid.mk (But.refl R w)
  have E0 := Hid.mk (inputP.eq_1 ts)
  clear h
  go_enter Tryz.func38, Tryz.ntmps38
  have H1 := Hid.mk (H0.out.below (below_box _ (.cells #[.int .i64 0, .string ⟨#[]⟩, .slice none 0 0] 54)))
  have B2 := Hid.mk (B0.out.box (.cells #[.int .i64 0, .string ⟨#[]⟩, .slice none 0 0] 54))
  have X3 := Hid.mk (Box.new w [.int .i64 0, .string ⟨#[]⟩, .slice none 0 0] 54 _ rfl)
  clear H0 B0
  go_wp2_with (go_at_call 55; fail)
  refine (must_any wIn R ts _ H1.out (by decide)).mono ?_
  rintro e w1 ⟨⟨a1, ts1, v, hp, rfl, hv, hrd⟩ | ⟨er, hp, hthr⟩, hb1⟩
  rotate_left
  · obtain ⟨b', rfl, t0, t1, tB, tl⟩ := hthr
    have HP := Hid.mk (bind_err E0.out hp)
    clear hp
    go_wp2
    exact ⟨rfl, Or.inr ⟨_, HP.out, b', rfl, t0, t1, Nat.le_trans B2.out.size tB, tl⟩, B2.out.then hb1⟩
  subst hv
  have he := bind_ok E0.out hp
  dsimp only at he
  have E4 := Hid.mk he
  clear he hp
  have H5 := Hid.mk hrd
  have B6 := Hid.mk (B2.out.then hb1)
  have X7 := Hid.mk (X3.out.but hb1 (by omega))
  have q8 := X7.out.lt
  have sz9 := hb1.size
  try simp only [World.size_alloc, size_set] at sz9
  clear H1 B2 X3 E0 hrd hb1
  have H10 := Hid.mk (H5.out.below (below_box _ (.cells #[.int .i64 (a1 : Nat), .string ⟨#[]⟩, .slice none 0 0] 54)))
  have B11 := Hid.mk (B6.out.box (.cells #[.int .i64 (a1 : Nat), .string ⟨#[]⟩, .slice none 0 0] 54))
  have X12 := Hid.mk (X7.out.below (below_box _ (.cells #[.int .i64 (a1 : Nat), .string ⟨#[]⟩, .slice none 0 0] 54)))
  have X13 := Hid.mk (Box.new w1 [.int .i64 (a1 : Nat), .string ⟨#[]⟩, .slice none 0 0] 54 _ rfl)
  clear H5 B6 X7
  go_wp2_with (go_at_call 56; fail)
  refine (rname_any R ts1 _ H10.out).mono ?_
  rintro e w2 ⟨⟨a2, ts2, v, hp, rfl, hv, hrd⟩ | ⟨er, hp, hthr⟩, hb2⟩
  rotate_left
  · obtain ⟨b', rfl, t0, t1, tB, tl⟩ := hthr
    have HP := Hid.mk (bind_err E4.out hp)
    clear hp
    go_wp2
    exact ⟨rfl, Or.inr ⟨_, HP.out, b', rfl, t0, t1, Nat.le_trans B11.out.size tB, tl⟩, B11.out.then hb2⟩
  unfold encS at hv
  subst hv
  have he := bind_ok E4.out hp
  dsimp only at he
  have E14 := Hid.mk he
  clear he hp
  have H15 := Hid.mk hrd
  have B16 := Hid.mk (B11.out.then hb2)
  have X17 := Hid.mk (X12.out.but hb2 (by omega))
  have q18 := X17.out.lt
  have X19 := Hid.mk (X13.out.but hb2 (by omega))
  have q20 := X19.out.lt
  have sz21 := hb2.size
  try simp only [World.size_alloc, size_set] at sz21
  clear H10 B11 X12 X13 E4 hrd hb2
  have cf22 := X19.out.cell 1 rfl
  have cf23 := X19.out.fz 1
  have cl24 := X19.out.lt
  have H25 := Hid.mk (H15.out.set (k := w1.heap.size) (i := 1) (v := .string (ba a2)) (by omega))
  have B26 := Hid.mk (B16.out.put (k := w1.heap.size) (i := 1) (by omega) (.string (ba a2)))
  have X27 := Hid.mk (X17.out.other (k' := w1.heap.size) 1 (.string (ba a2)) (by omega))
  have X28 : Hid (Box (w2.setCell ⟨w1.heap.size, 1, none⟩ (.string (ba a2))) w1.heap.size [.int .i64 (a1 : Nat), .string (ba a2), .slice none 0 0]) := Hid.mk (X19.out.set 1 (.string (ba a2)))
  clear H15 B16 X17 X19
  go_wp2_with (go_at_call 55; fail)
  refine (must_any [58] R ts2 _ H25.out (by decide)).mono ?_
  rintro e w3 ⟨⟨a3, ts3, v, hp, rfl, hv, hrd⟩ | ⟨er, hp, hthr⟩, hb3⟩
  rotate_left
  · obtain ⟨b', rfl, t0, t1, tB, tl⟩ := hthr
    have HP := Hid.mk (bind_err E14.out hp)
    clear hp
    go_wp2
    exact ⟨rfl, Or.inr ⟨_, HP.out, b', rfl, t0, t1, Nat.le_trans B26.out.size tB, tl⟩, B26.out.then hb3⟩
  subst hv
  have he := bind_ok E14.out hp
  dsimp only at he
  have E29 := Hid.mk he
  clear he hp
  have H30 := Hid.mk hrd
  have B31 := Hid.mk (B26.out.then hb3)
  have X32 := Hid.mk (X27.out.but hb3 (by omega))
  have q33 := X32.out.lt
  have X34 := Hid.mk (X28.out.but hb3 (by omega))
  have q35 := X34.out.lt
  have sz36 := hb3.size
  try simp only [World.size_alloc, size_set] at sz36
  clear H25 B26 X27 X28 E14 hrd hb3
  have O0 : Hid (w3.ownsRow (w1.heap.size + 1) 86 2 (.slice none 0 0) 0 []) := Hid.mk (World.ownsRow_nil _ _ _ _)
  have cf37 := X34.out.cell 2 rfl
  have cf38 := X34.out.fz 2
  have cl39 := X34.out.lt
  go_wp2_with fail
  go_cut [3] (fun p wx => p = .pointer (some ⟨w1.heap.size, 0, none⟩) ∧ ∃ (a : By × Int) (tn : List Tk) (vn : Value), columnP ts3 = .ok (a, tn) ∧ RD wx R tn ∧ But R w wx ∧ Box wx w.heap.size [.int .i64 0, .string ⟨#[]⟩, .slice none 0 0] ∧ Box wx w1.heap.size [.int .i64 (a1 : Nat), .string (ba a2), vn] ∧ wx.ownsRow (w1.heap.size + 1) 86 2 vn (0 + 1) (colV [a]))
  case first =>
    cases hcp : columnP ts3 with
    | error er =>
      have HP := Hid.mk (bind_err E29.out hcp)
      have HC := Hid.mk (rcolumn_any R ts3 _ H30.out.drew)
      rw [hcp] at HC
      refine wp_region_held_drew (S := fun V => V.cell? ⟨w1.heap.size, 2, none⟩ = some (.slice none 0 0)) (by kernel_rfl) (X34.out.cell 2 rfl) (fun hHeld => ?_)
      refine wpAnyH_take (i := 0) (v := .pointer (some ⟨w1.heap.size, 2, none⟩)) rfl (by kernel_rfl) (by kernel_rfl) (by kernel_rfl) (fun _ _ _ h => h) (Or.inl ⟨by rfl, ?_⟩) (by assumption) ?_
      · intro V hV
        go_simp
      simp only [List.getElem_toArray, List.getElem_cons_zero, List.getElem_cons_succ, Act.put, List.setIfInBounds_toArray, List.set_cons_zero, List.set_cons_succ]
      refine wpAnyH_take (i := 1) (v := .slice none 0 0) rfl (by kernel_rfl) (by kernel_rfl) (by kernel_rfl) (fun _ _ _ h => h) (Or.inl ⟨by rfl, ?_⟩) (by assumption) ?_
      · intro V hV
        go_simp
      simp only [List.getElem_toArray, List.getElem_cons_zero, List.getElem_cons_succ, Act.put, List.setIfInBounds_toArray, List.set_cons_zero, List.set_cons_succ]
      refine wpAnyH_take (i := 2) (v := .pointer (some ⟨R, 0, none⟩)) rfl (by kernel_rfl) (by kernel_rfl) (by kernel_rfl) (fun _ _ _ h => h) (Or.inl ⟨by rfl, ?_⟩) (by assumption) ?_
      · intro V hV
        go_simp
      simp only [List.getElem_toArray, List.getElem_cons_zero, List.getElem_cons_succ, Act.put, List.setIfInBounds_toArray, List.set_cons_zero, List.set_cons_succ]
      refine wpAnyH_ready (rs := [3]) (by kernel_rfl) (by simp) ?_
      refine AllReadyH.cons rfl (fun K hK => ?_) AllReadyH.nil
      go_simp
      refine HC.out.mono ?_
      rintro e wt ⟨hrs, hbt⟩
      obtain ⟨b', rfl, t0, t1, tB, tl⟩ := hrs.err
      go_wp2
      exact ⟨rfl, Or.inr ⟨_, HP.out, b', rfl, t0, t1, Nat.le_trans B31.out.size tB, tl⟩, B31.out.drew.then hbt⟩
    | ok z =>
      obtain ⟨a, tn⟩ := z
      have HC := Hid.mk (rcolumn_any R ts3 _ H30.out.drew)
      rw [hcp] at HC
      have HCP := Hid.mk hcp
      clear hcp
      go_region_law (first | (go_simp; go_at_call 57; refine HC.out.mono ?_; rintro e w4 ⟨hrs, hb4⟩; obtain ⟨ve, rfl, hve, hrd4⟩ := hrs.ok; unfold encC at hve; subst hve; have X4 := (X34.out.block (w' := w3.drew) rfl).but hb4 (by omega); have c4 := X4.cell 2 rfl; have l4 := X4.lt; have RD4 := Hid.mk hrd4; have BU4 := Hid.mk (B31.out.drew.then hb4); have OW4 := Hid.mk ((own_but (O0.out.drew) hb4 (by omega)).alloc (.cells #[.string (ba a.1), .int .i64 a.2] 86)); have XB4 := Hid.mk X4; have X4r := Hid.mk ((X32.out.block (w' := w3.drew) rfl).but hb4 (by omega)); clear hrs hb4 hrd4 X4) | (refine step_append_lies _ (by rfl) _ _ _ (by rfl) ((w1.heap.size + 1)) 86 i0 _ 2 24 Tryz.underlying52 hi hz0 hz1 hz2 rfl (by omega) (.slice none 0 0) (0) _ (by rfl) OW4.out ⟨w4.heap.size, 0, none⟩ 1 1 [.string (ba a.1), .int .i64 a.2] (by rfl) (by rfl) (news_blk w4 [.string (ba a.1), .int .i64 a.2] 86 _ rfl) (by simp [Value.oneCell']) (by omega) (by unfold maxLen; omega) (by omega) (by simp; omega) (w4.heap.size + 1) (by simp) ?_; intro gg cap w5 hown5 hgrow5 hat5 hlt5; have X5 := Hid.mk ((XB4.out.below (below_box w4 (.cells #[.string (ba a.1), .int .i64 a.2] 86))).grown hgrow5 (by intro e; have := OW4.out.lt _ e; omega)); have c5 := X5.out.cell 2 rfl; have f5 := X5.out.fz 2; have l5 := X5.out.lt; have HG5 := Hid.mk hgrow5; have HO5 := Hid.mk hown5; clear hat5; clear hgrow5 hown5))
      all_goals go_wp2_with fail
      all_goals go_meet
      all_goals (exact ⟨rfl, a, tn, _, HCP.out, (((RD4.out.below (below_box _ _)).grown HG5.out (fun q hq => by have := OW4.out.lt q hq; omega)).set (by omega)), (((BU4.out.box _).grown HG5.out (fun q hq => by have := OW4.out.lt q hq; omega)).put (by omega) _), ((X4r.out.below (below_box _ _)).grown HG5.out (by intro e; have := OW4.out.lt _ e; omega)).other _ _ (by omega), X5.out.set _ _, ownsRow_setCell_below (HO5.out) (a := ⟨w1.heap.size, 2, none⟩) (by show w1.heap.size < _; omega) _⟩)
  case rest =>
    obtain ⟨rfl, a4, ts4, vn4, hcp, hrd, hbu, hxr, hxo, hro⟩ := hcut
    have he := bind_ok E29.out hcp
    dsimp only at he
    have E42 := Hid.mk he
    clear he hcp
    have H40 := Hid.mk hrd
    have B41 := Hid.mk hbu
    have X43 := Hid.mk hxo
    have O44 := Hid.mk hro
    have X45 := Hid.mk hxr
    have hqX45 := X45.out.lt
    have hqX43 := X43.out.lt
    have hsB41 := B41.out.size
    clear hrd hbu hxo hro hxr H30 B31 E29 O0 X32 X34
    have hlen4 := H40.out.good.len
    go_wp2_with fail
    go_loopg [] ts4.length (fun g wr => ∃ (acc : List (By × Int)) (t' : List Tk) (n : Nat) (v : Value), t'.length ≤ g ∧ n + t'.length ≤ 2000 ∧ Aside (n = acc.length ∧ RD wr R t' ∧ But R w wr ∧ Box wr w.heap.size [.int .i64 0, .string ⟨#[]⟩, .slice none 0 0] ∧ Box wr w1.heap.size [.int .i64 (a1 : Nat), .string (ba a2), v] ∧ wr.ownsRow (w1.heap.size + 1) 86 2 v n (colV acc) ∧ ∃ f, t'.length ≤ f ∧ inputP ts = (colsP f acc t').bind fun l => (mustP [59] l.2).bind fun e => .ok (⟨a1, a2, l.1⟩, e.2)))
    case atStart => exact ⟨[a4], ts4, 1, vn4, Nat.le_refl _, by omega, rfl, H40.out, B41.out, X45.out, X43.out, O44.out, _, Nat.le_refl _, E42.out⟩
    case round =>
      obtain ⟨acc, t', n, v, hg, hn2, HH⟩ := hrel
      clear H40 B41 X45 X43 O44 E42
      obtain ⟨va, vcp, hvv⟩ := own_slice HH.out.2.2.2.2.2.1
      subst hvv
      have hqr := HH.out.2.2.2.1.lt
      have hqo := HH.out.2.2.2.2.1.lt
      obtain ⟨f, hf, hnm⟩ := HH.out.2.2.2.2.2.2
      obtain ⟨t, r, hts⟩ := HH.out.2.1.good.ne
      obtain ⟨f', rfl⟩ : ∃ f', f = f' + 1 := ⟨f - 1, by rw [hts] at hf; simp at hf; omega⟩
      have htl : t'.tail.length + 1 = t'.length := by rw [hts]; simp
      have HF := Hid.mk hf
      have HMY := Hid.mk (may_any [44] R t' wr HH.out.2.1 (by simp))
      clear hf hts t r
      by_cases hm : textT t' = [44]
      · rw [if_pos hm, show (textT t' == [44]) = true by simp [hm]] at HMY
        have EL := Hid.mk (show inputP ts = (columnP t'.tail).bind fun x => (colsP f' (acc ++ [x.1]) x.2).bind fun l => (mustP [59] l.2).bind fun e => .ok (⟨a1, a2, l.1⟩, e.2) by rw [hnm, colsP, if_pos hm, bind_assoc])
        clear hm hnm
        go_wp2_with (go_at_call 58; fail)
        refine HMY.out.mono ?_
        rintro e w9 ⟨rfl, hrd, hb⟩
        have HL := Hid.mk hrd
        have BL := Hid.mk (HH.out.2.2.1.then hb)
        have XL := Hid.mk (HH.out.2.2.2.1.but hb (by omega))
        have YL := Hid.mk (HH.out.2.2.2.2.1.but hb (by omega))
        have OL := Hid.mk (own_but HH.out.2.2.2.2.2.1 hb (by omega))
        have qa1 := XL.out.lt
        have qa2 := YL.out.lt
        have hgood := hrd.good.ne
        clear hrd hb
        have cf501 := YL.out.cell 2 rfl
        have cf502 := YL.out.fz 2
        have cl503 := YL.out.lt
        go_wp2_with fail
        cases hcp : columnP t'.tail with
        | error er =>
          have HP := Hid.mk (bind_err EL.out hcp)
          have HC := Hid.mk (rcolumn_any R t'.tail _ HL.out.drew)
          rw [hcp] at HC
          refine wp_region_held_drew (S := fun V => V.cell? ⟨w1.heap.size, 2, none⟩ = some (.slice va n vcp)) (by kernel_rfl) (YL.out.cell 2 rfl) (fun hHeld => ?_)
          refine wpAnyH_take (i := 0) (v := .pointer (some ⟨w1.heap.size, 2, none⟩)) rfl (by kernel_rfl) (by kernel_rfl) (by kernel_rfl) (fun _ _ _ h => h) (Or.inl ⟨by rfl, ?_⟩) (by assumption) ?_
          · intro V hV
            go_simp
          simp only [List.getElem_toArray, List.getElem_cons_zero, List.getElem_cons_succ, Act.put, List.setIfInBounds_toArray, List.set_cons_zero, List.set_cons_succ]
          refine wpAnyH_take (i := 1) (v := .slice va n vcp) rfl (by kernel_rfl) (by kernel_rfl) (by kernel_rfl) (fun _ _ _ h => h) (Or.inl ⟨by rfl, ?_⟩) (by assumption) ?_
          · intro V hV
            go_simp
          simp only [List.getElem_toArray, List.getElem_cons_zero, List.getElem_cons_succ, Act.put, List.setIfInBounds_toArray, List.set_cons_zero, List.set_cons_succ]
          refine wpAnyH_take (i := 2) (v := .pointer (some ⟨R, 0, none⟩)) rfl (by kernel_rfl) (by kernel_rfl) (by kernel_rfl) (fun _ _ _ h => h) (Or.inl ⟨by rfl, ?_⟩) (by assumption) ?_
          · intro V hV
            go_simp
          simp only [List.getElem_toArray, List.getElem_cons_zero, List.getElem_cons_succ, Act.put, List.setIfInBounds_toArray, List.set_cons_zero, List.set_cons_succ]
          refine wpAnyH_ready (rs := [3]) (by kernel_rfl) (by simp) ?_
          refine AllReadyH.cons rfl (fun K hK => ?_) AllReadyH.nil
          go_simp
          refine HC.out.mono ?_
          rintro e wt ⟨hrs, hbt⟩
          obtain ⟨b', rfl, t0, t1, tB, tl⟩ := hrs.err
          go_wp2
          exact ⟨rfl, Or.inr ⟨_, HP.out, b', rfl, t0, t1, Nat.le_trans BL.out.size tB, tl⟩, BL.out.drew.then hbt⟩
        | ok z =>
          obtain ⟨a, tn⟩ := z
          have HC := Hid.mk (rcolumn_any R t'.tail _ HL.out.drew)
          rw [hcp] at HC
          have HCP := Hid.mk hcp
          clear hcp
          have hcl := column_len HCP.out
          have EN := Hid.mk (bind_ok EL.out HCP.out)
          go_region_law (first | (go_simp; go_at_call 57; refine HC.out.mono ?_; rintro e w4 ⟨hrs, hb4⟩; obtain ⟨ve, rfl, hve, hrd4⟩ := hrs.ok; unfold encC at hve; subst hve; have X4 := (YL.out.block (w' := w9.drew) rfl).but hb4 (by omega); have c4 := X4.cell 2 rfl; have l4 := X4.lt; have RD4 := Hid.mk hrd4; have BU4 := Hid.mk (BL.out.drew.then hb4); have OW4 := Hid.mk ((own_but (OL.out.drew) hb4 (by omega)).alloc (.cells #[.string (ba a.1), .int .i64 a.2] 86)); have XB4 := Hid.mk X4; have X4r := Hid.mk ((XL.out.block (w' := w9.drew) rfl).but hb4 (by omega)); clear hrs hb4 hrd4 X4) | (refine step_append_lies _ (by rfl) _ _ _ (by rfl) ((w1.heap.size + 1)) 86 i0 _ 2 24 Tryz.underlying52 hi hz0 hz1 hz2 rfl (by omega) (.slice va n vcp) (n) _ (by rfl) OW4.out ⟨w4.heap.size, 0, none⟩ 1 1 [.string (ba a.1), .int .i64 a.2] (by rfl) (by rfl) (news_blk w4 [.string (ba a.1), .int .i64 a.2] 86 _ rfl) (by simp [Value.oneCell']) (by omega) (by unfold maxLen; omega) (by omega) (by simp; omega) (w4.heap.size + 1) (by simp) ?_; intro gg cap w5 hown5 hgrow5 hat5 hlt5; have X5 := Hid.mk ((XB4.out.below (below_box w4 (.cells #[.string (ba a.1), .int .i64 a.2] 86))).grown hgrow5 (by intro e; have := OW4.out.lt _ e; omega)); have c5 := X5.out.cell 2 rfl; have f5 := X5.out.fz 2; have l5 := X5.out.lt; have HG5 := Hid.mk hgrow5; have HO5 := Hid.mk hown5; clear hat5; clear hgrow5 hown5))
          all_goals
            (go_wp2_with fail
             have hlen : tn.length + 1 ≤ t'.tail.length := by
               rw [hcl]
               obtain ⟨t, r, hts⟩ := hgood
               rw [hts]; simp
             go_roundg tn.length
             case measure => omega
             case rel => exact ⟨acc ++ [a], tn, n + 1, _, Nat.le_refl _, by omega, by simp [HH.out.1], (((RD4.out.below (below_box _ _)).grown HG5.out (fun q hq => by have := OW4.out.lt q hq; omega)).set (by omega)), (((BU4.out.box _).grown HG5.out (fun q hq => by have := OW4.out.lt q hq; omega)).put (by omega) _), (((X4r.out.below (below_box _ _)).grown HG5.out (by intro e; have := OW4.out.lt _ e; omega)).other _ _ (by omega)), (X5.out.set _ _), (ownsRow_setCell_below (by rw [colV_app]; exact HO5.out) (a := ⟨w1.heap.size, 2, none⟩) (by show w1.heap.size < _; omega) _), f', by have := HF.out; omega, EN.out⟩)
      · rw [if_neg hm, show (textT t' == [44]) = false by simp [hm]] at HMY
        have EL := Hid.mk (show inputP ts = (mustP [59] t').bind fun e => .ok (⟨a1, a2, acc⟩, e.2) by rw [hnm, colsP, if_neg hm]; rfl)
        clear hm hnm
        go_wp2_with (go_at_call 58; fail)
        refine HMY.out.mono ?_
        rintro e w9 ⟨rfl, hrd, hb⟩
        have HL := Hid.mk hrd
        have BL := Hid.mk (HH.out.2.2.1.then hb)
        have XL := Hid.mk (HH.out.2.2.2.1.but hb (by omega))
        have YL := Hid.mk (HH.out.2.2.2.2.1.but hb (by omega))
        have OL := Hid.mk (own_but HH.out.2.2.2.2.2.1 hb (by omega))
        have qa1 := XL.out.lt
        have qa2 := YL.out.lt
        have HNA := Hid.mk HH.out.1
        clear hrd hb HH
        go_wp2_with (go_at_call 55; fail)
        refine (must_any [59] R t' _ HL.out (by decide)).mono ?_
        rintro e w1n ⟨⟨a5, ts1n, v, hp, rfl, hv, hrd⟩ | ⟨er, hp, hthr⟩, hb1n⟩
        rotate_left
        · obtain ⟨b', rfl, t0, t1, tB, tl⟩ := hthr
          have HP := Hid.mk (bind_err EL.out hp)
          clear hp
          go_wp2
          exact ⟨rfl, Or.inr ⟨_, HP.out, b', rfl, t0, t1, Nat.le_trans BL.out.size tB, tl⟩, BL.out.then hb1n⟩
        subst hv
        have he := bind_ok EL.out hp
        dsimp only at he
        have E801 := Hid.mk he
        clear he hp
        have H802 := Hid.mk hrd
        have B803 := Hid.mk (BL.out.then hb1n)
        have X804 := Hid.mk (XL.out.but hb1n (by omega))
        have q805 := X804.out.lt
        have X806 := Hid.mk (YL.out.but hb1n (by omega))
        have q807 := X806.out.lt
        have O808 := Hid.mk (own_but OL.out hb1n (by omega))
        have sz809 := hb1n.size
        try simp only [World.size_alloc, size_set] at sz809
        clear HL BL XL YL OL EL hrd hb1n
        have cf810 := X806.out.cell 0 rfl
        have cf811 := X806.out.cell 1 rfl
        have cf812 := X806.out.cell 2 rfl
        have cl813 := X806.out.lt
        have x0 := X804.out.cell 0 rfl
        have y0 := X804.out.fz 0
        have x1 := X804.out.cell 1 rfl
        have y1 := X804.out.fz 1
        have x2 := X804.out.cell 2 rfl
        have y2 := X804.out.fz 2
        have hzX := X804.out.lt
        have HRD := Hid.mk (((H802.out.set (i := 0) (v := .int .i64 (a1 : Nat)) hR).set (i := 1) (v := .string (ba a2)) hR).set (i := 2) (v := .slice va n vcp) hR)
        have HBU := Hid.mk (((B803.out.put (Nat.le_refl _) (.int .i64 (a1 : Nat)) (i := 0)).put (Nat.le_refl _) (.string (ba a2)) (i := 1)).put (Nat.le_refl _) (.slice va n vcp) (i := 2))
        have HBX := Hid.mk (((X804.out.set 0 (.int .i64 (a1 : Nat))).set 1 (.string (ba a2))).set 2 (.slice va n vcp))
        have z0 := HBX.out.cell 0 rfl
        have z1 := HBX.out.cell 1 rfl
        have z2 := HBX.out.cell 2 rfl
        clear HBX
        go_wp2
        refine bodyPost_ret (v := .agg #[.int .i64 (a1 : Nat), .string (ba a2), .slice va n vcp]) (by simp [results, Tryz.results38, go_sem, z0, z1, z2]) rfl ?_
        exact ⟨Or.inl ⟨_, _, _, E801.out, rfl, ⟨.slice va n vcp, rfl, (show encCs w.heap.size acc (.slice va n vcp) _ from by unfold encCs; rw [← HNA.out]; exact own_mono (by omega) (ownsRow_setCell_below (ownsRow_setCell_below (ownsRow_setCell_below O808.out (a := ⟨w.heap.size, 0, none⟩) (by show w.heap.size < _; omega) _) (a := ⟨w.heap.size, 1, none⟩) (by show w.heap.size < _; omega) _) (a := ⟨w.heap.size, 2, none⟩) (by show w.heap.size < _; omega) _))⟩, HRD.out⟩, HBU.out⟩
end Go.Proofs.YtedflhiflomoeaaGreatDoor
