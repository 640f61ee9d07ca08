import Derived.Test.YtedflhiflomoeaaGreatDoorFlwL
import Derived.Test.YtedflhiflomoeaaGreatDoorFlwE
set_option linter.unusedSimpArgs false
set_option linter.unusedVariables false
namespace Go.Proofs.YtedflhiflomoeaaGreatDoor
open Go.RowKit

theorem Tryz.infoTok : (Tryz.prog.info? 95).map (fun i => (i.zero, i.size, i.bytes)) = some (some (.agg #[.int .i64 0, .string ⟨#[]⟩, .int .i64 0]), 3, 32) := by kernel_rfl
def tkV (ts : List Tk) : List Value := ts.flatMap fun t => [.int .i64 (t.1 : Nat), .string (ba t.2.1), .int .i64 (t.2.2 : Nat)]
theorem tkV_app (ts : List Tk) (t : Tk) : tkV (ts ++ [t]) = tkV ts ++ [.int .i64 (t.1 : Nat), .string (ba t.2.1), .int .i64 (t.2.2 : Nat)] := by simp [tkV]
def TokR (r : Except (Int × Nat) (List Tk)) (e : Ending) (w' : World) (B : Nat) : Prop :=
  (∃ ts v, r = .ok ts ∧ e = .returned v ∧ w'.ownsRow B 95 3 v ts.length (tkV ts)) ∨ (∃ er, r = .error er ∧ Thr e w' B er)
theorem find_len (r : By) (n : Nat) (h : r.findIdx? (· == 39) = some n) : n < r.length := (List.findIdx?_eq_some_iff_getElem.1 h).1
theorem first_len {r : By} {k n : Nat} (h : firstL r = some (k, n)) : 1 ≤ n ∧ n ≤ r.length ∧ k ≤ 3 := by
  cases r with
  | nil => simp [firstL] at h
  | cons c r =>
    simp only [firstL] at h
    split at h
    · rename_i hl
      simp only [Option.some.injEq, Prod.mk.injEq] at h
      obtain ⟨rfl, rfl⟩ := h
      refine ⟨?_, runL_le _ _, by omega⟩
      unfold runL
      rw [List.takeWhile_cons_of_pos (by simp [lowdigB, hl])]
      simp
    · split at h
      · rename_i hd
        simp only [Option.some.injEq, Prod.mk.injEq] at h
        obtain ⟨rfl, rfl⟩ := h
        refine ⟨?_, runL_le _ _, by omega⟩
        unfold runL
        rw [List.takeWhile_cons_of_pos hd]
        simp
      · split at h
        · cases hf : r.findIdx? (· == 39) with
          | none => rw [hf] at h; simp at h
          | some m =>
            rw [hf] at h
            simp only [Option.map_some, Option.some.injEq, Prod.mk.injEq] at h
            obtain ⟨rfl, rfl⟩ := h
            have := find_len r m hf
            simp
            omega
        · cases hf : marksL.find? fun m => m.isPrefixOf (c :: r) with
          | none => rw [hf] at h; simp at h
          | some m =>
            rw [hf] at h
            simp only [Option.map_some, Option.some.injEq, Prod.mk.injEq] at h
            obtain ⟨rfl, rfl⟩ := h
            have hp := List.find?_some hf
            have hm := List.mem_of_find?_eq_some hf
            have h1 : ∀ x ∈ marksL, 1 ≤ x.length := by decide
            rw [List.isPrefixOf_iff_prefix] at hp
            exact ⟨h1 m hm, hp.length_le, by omega⟩
theorem tok_step {f : Nat} {l : By} {p n : Nat} : toksL (f + 1) l p n = (if l.drop (runL blankB l) = [] then .ok []
    else match firstL (l.drop (runL blankB l)) with
      | none => .error (3, p + runL blankB l)
      | some (k, len) =>
        if n = 400 then .error (4, p + runL blankB l)
        else match toksL f ((l.drop (runL blankB l)).drop len) (p + runL blankB l + len) (n + 1) with
          | .error e => .error e
          | .ok ts => .ok ((k, (l.drop (runL blankB l)).take len, p + runL blankB l) :: ts)) := rfl
/-- What is left to be cut: the tokens so far, a place, how many steps. -/
def LeftL (l : By) (acc : List Tk) (p f : Nat) : Except (Int × Nat) (List Tk) := match toksL f (l.drop p) p acc.length with | .error e => .error e | .ok ts => .ok (acc ++ ts ++ [(4, [], l.length)])
theorem left_start (l : By) : tokensL l = LeftL l [] 0 (l.length + 1) := by
  unfold tokensL LeftL
  simp only [List.drop_zero, List.length_nil]
  cases toksL (l.length + 1) l 0 0 <;> rfl
theorem left_end {l : By} {acc : List Tk} {p f : Nat} (h : l.length ≤ p + runL blankB (l.drop p)) : LeftL l acc p (f + 1) = .ok (acc ++ [(4, [], l.length)]) := by
  unfold LeftL
  rw [tok_step, if_pos (by rw [List.drop_drop, List.drop_eq_nil_iff]; omega)]
  simp
theorem left_none {l : By} {acc : List Tk} {p f : Nat} (h : p + runL blankB (l.drop p) < l.length) (hf : firstL (l.drop (p + runL blankB (l.drop p))) = none) : LeftL l acc p (f + 1) = .error (3, p + runL blankB (l.drop p)) := by
  unfold LeftL
  rw [tok_step, if_neg (by rw [List.drop_drop, List.drop_eq_nil_iff]; omega), List.drop_drop, hf]
theorem left_full {l : By} {acc : List Tk} {p f k n : Nat} (h : p + runL blankB (l.drop p) < l.length) (hf : firstL (l.drop (p + runL blankB (l.drop p))) = some (k, n)) (ha : acc.length = 400) : LeftL l acc p (f + 1) = .error (4, p + runL blankB (l.drop p)) := by
  unfold LeftL
  rw [tok_step, if_neg (by rw [List.drop_drop, List.drop_eq_nil_iff]; omega), List.drop_drop, hf]
  simp [ha]
theorem left_next {l : By} {acc : List Tk} {p f k n : Nat} (h : p + runL blankB (l.drop p) < l.length) (hf : firstL (l.drop (p + runL blankB (l.drop p))) = some (k, n)) (ha : acc.length ≠ 400) : LeftL l acc p (f + 1) = LeftL l (acc ++ [(k, (l.drop (p + runL blankB (l.drop p))).take n, p + runL blankB (l.drop p))]) (p + runL blankB (l.drop p) + n) f := by
  unfold LeftL
  rw [tok_step, if_neg (by rw [List.drop_drop, List.drop_eq_nil_iff]; omega), List.drop_drop, hf]
  simp only [ha, if_false, List.drop_drop, List.length_append, List.length_cons, List.length_nil, Nat.zero_add]
  cases toksL f (l.drop (p + runL blankB (l.drop p) + n)) (p + runL blankB (l.drop p) + n) (acc.length + 1) with
  | error e => rfl
  | ok ts => simp
theorem news_blkT (w : World) (l : List Value) (t : TypeId) (H : Nat) (hH : w.heap.size = H) : ∀ j u, l[j]? = some u → (w.alloc (.cells l.toArray t)).cell? ((⟨H, 0, none⟩ : Addr).add j) = some u := by
  intro j u hj
  have hB := Box.new w l t H hH.symm
  have := hB.cell j hj
  rw [show ((⟨H, 0, none⟩ : Addr).add j) = ⟨H, j, none⟩ by simp only [Addr.add, Nat.zero_add]; split <;> simp_all]
  exact this
theorem boxT_grown {w w' : World} {k : Nat} {vs : List Value} {row : Option Nat} (h : Box w k vs) (hg : w.grownBy w' row) (hne : row ≠ some k) : Box w' k vs := h.block (hg.block k h.lt (fun e => hne e.symm))
theorem owns_below {w w' : World} {base : Nat} {e : TypeId} {size : Nat} {v : Value} {n : Nat} {xs : List Value} (h : w.ownsRow base e size v n xs) (hb : Below w.heap.size w w') : w'.ownsRow base e size v n xs :=
  h.kept (grown_below hb none) (by cases v.ownBlock <;> simp)
set_option maxRecDepth 100000 in
set_option maxHeartbeats 3200000 in
theorem tokens_any (l : By) (w : World) (hl : l.length ≤ 1000000) (hE : FEnv w) :
    Calls Tryz.prog 18 #[.string (ba l)] w fun e w' => TokR (tokensL l) e w' w.heap.size ∧ Below w.heap.size w w' := by
  obtain ⟨i0, hi, hz0, hz1, hz2⟩ := info_parts Tryz.infoTok
  have hsz : (ba l).size = l.length := ba_size l
  have HE := Hid.mk hE
  have HL := Hid.mk hl
  clear hE
  go_enter Tryz.func18, Tryz.ntmps18
  go_wp2_with (go_at_call 34; fail)
  refine (run_blank l w HL.out).mono ?_
  rintro e w1 ⟨rfl, hw1⟩
  have hw1' := hw1.symm
  clear hw1
  subst hw1'
  have hr0 := runL_le blankB l
  have HS0 := Hid.mk (left_start l)
  go_wp2_with fail
  go_loopg [4, 5] l.length (fun g vl vi wr => ∃ (acc : List Tk) (p q n : Nat), vi = .int .i64 (q : Nat) ∧ q ≤ l.length ∧ p ≤ q ∧ l.length - p ≤ g ∧ n ≤ 400 ∧ wr.ownsRow w.heap.size 95 3 vl n (tkV acc) ∧ Aside (n = acc.length ∧ q = p + runL blankB (l.drop p) ∧ Below w.heap.size w wr ∧ ∃ f, l.length - p ≤ f ∧ tokensL l = LeftL l acc p (f + 1)))
  case atStart => exact ⟨[], 0, runL blankB l, 0, rfl, hr0, by omega, by omega, by omega, World.ownsRow_nil _ _ _ _, rfl, by simp, Below.refl _ _, l.length, by omega, HS0.out⟩
  case round =>
    obtain ⟨acc, p, q, n, rfl, hq, hpq, hg, hn, hown, HH⟩ := hrel
    obtain ⟨la, lc, rfl⟩ := own_slice hown
    have HO := Hid.mk hown
    clear hown
    obtain ⟨f, hf, hnm⟩ := HH.out.2.2.2
    have HNM := Hid.mk hnm
    clear hnm
    by_cases hlt : q < l.length
    · have hltz : (q : Int) < (l.length : Int) := by omega
      have HFA := Hid.mk (first_any l q wr hlt HL.out (HE.out.blocks HH.out.2.2.1.size (fun g hg' => HH.out.2.2.1.block g (HE.out.size g hg'))))
      go_wp2_with (go_at_call 35; fail)
      refine HFA.out.mono ?_
      rintro e w2 ⟨⟨kk, m, hfl, rfl⟩ | ⟨hfl, hthr⟩, hb2⟩
      · obtain ⟨hm1, hm2, hk3⟩ := first_len hfl
        have hm2' : m ≤ l.length - q := by simpa using hm2
        have B2 := Hid.mk (bel_then HH.out.2.2.1 hb2)
        have O2 := Hid.mk (owns_below HO.out hb2)
        have hs2 := hb2.size
        have hsw := HH.out.2.2.1.size
        have htl : ((l.drop q).take m).length = m := by simp; omega
        have HQ := Hid.mk HH.out.2.1
        by_cases ha : n = 400
        · have haz : ((n : Int) == 400) = true := by simp [ha]
          have HP := Hid.mk (show tokensL l = .error (4, q) by
            have h1 := left_full (f := f) (acc := acc) (p := p) (l := l) (k := kk) (n := m) (by rw [← HQ.out]; exact hlt) (by rw [← HQ.out]; exact hfl) (by rw [← HH.out.1]; exact ha)
            rw [HNM.out, h1, ← HQ.out])
          clear hfl ha hb2
          generalize (l.drop q).take m = tx at *
          go_wp2_with (go_at_call 36; refine (wrong_any _ _ _).mono ?_; rintro e w'' ⟨rfl, rfl⟩)
          exact ⟨rfl, Or.inr ⟨_, HP.out, thr_pl _ _ _ (by simp; omega) (by simp)⟩, bel_box (bel_box B2.out _) _⟩
        · have haz : ((n : Int) == 400) = false := by simp; omega
          have HNX := Hid.mk (show tokensL l = LeftL l (acc ++ [(kk, (l.drop q).take m, q)]) (q + m) f by
            have h1 := left_next (f := f) (acc := acc) (p := p) (l := l) (k := kk) (n := m) (by rw [← HQ.out]; exact hlt) (by rw [← HQ.out]; exact hfl) (by rw [← HH.out.1]; exact ha)
            rw [HNM.out, h1, ← HQ.out])
          have hnl : n + 1 ≤ 400 := by omega
          have HTL := Hid.mk htl
          obtain ⟨tx, htx⟩ : ∃ x, (l.drop q).take m = x := ⟨_, rfl⟩
          rw [htx] at HNX htl ⊢
          clear hfl ha hb2 htx HTL
          have hqm : q + m ≤ l.length := by omega
          have hdb : (ba l).extract (q + m) l.length = ba (l.drop (q + m)) := drop_ba l (q + m) hqm
          have HDB := Hid.mk hdb
          clear hdb
          go_wp2_with (at_builtin; refine wpList_append_own _ rfl _ _ 72 rfl w.heap.size 95 i0 (.agg #[.int .i64 0, .string ⟨#[]⟩, .int .i64 0]) 3 32 Tryz.underlying72 hi hz0 hz1 hz2 rfl (by decide) _ _ _ rfl ((O2.out.alloc _).alloc _) ⟨w2.heap.size + 1, 0, none⟩ 1 1 [.int .i64 (kk : Nat), .string (ba tx), .int .i64 (q : Nat)] rfl rfl (news_blkT _ [.int .i64 (kk : Nat), .string (ba tx), .int .i64 (q : Nat)] _ _ (by simp)) (by simp [Value.oneCell']) ?c3 ?c4 ?c5 ?_)
          case c3 => unfold maxLen; omega
          case c4 => omega
          case c5 => simp; omega
          intro v' w5 hown' hgrow _
          have X5 := Hid.mk (boxT_grown ((Box.new w2 [.int .i64 (kk : Nat), .string (ba tx), .int .i64 (q : Nat)] 95 _ rfl).below (below_box _ (.cells #[.int .i64 (kk : Nat), .string (ba tx), .int .i64 (q : Nat)] 95))) hgrow (by intro e; have := O2.out.lt _ e; omega))
          have B5 := Hid.mk ((bel_box (bel_box B2.out (.cells #[.int .i64 (kk : Nat), .string (ba tx), .int .i64 (q : Nat)] 95)) (.cells #[.int .i64 (kk : Nat), .string (ba tx), .int .i64 (q : Nat)] 95)).grown hgrow (by first | omega | (simp; omega)) (fun k hk => (O2.out.lt k hk).1))
          have O5 := Hid.mk (show w5.ownsRow w.heap.size 95 3 v' (n + 1) (tkV (acc ++ [(kk, tx, q)])) by rw [tkV_app]; exact hown')
          have c1 := X5.out.cell 1 rfl
          have hl5 := X5.out.lt
          have HTX := Hid.mk htl
          have htz : (tx.length : Int) = (m : Int) := by omega
          have hwq : IntKind.i64.wrap ((q : Int) + (m : Int)) = ((q + m : Nat) : Int) := by rw [IntKind.wrap_i64]; omega
          have hql : ((q + m : Nat) : Int) ≤ (l.length : Int) := by omega
          clear hown' hgrow htl
          go_wp2_with (go_at_call 34; fail)
          rw [HDB.out]
          have hdl : (l.drop (q + m)).length = l.length - (q + m) := List.length_drop
          refine (run_blank (l.drop (q + m)) w5 (by rw [hdl]; have := HL.out; omega)).mono ?_
          rintro e w6 ⟨rfl, hw6⟩
          have hw6' := hw6.symm
          clear hw6
          subst hw6'
          have hr2 := runL_le blankB (l.drop (q + m))
          rw [hdl] at hr2
          obtain ⟨rn, hrn⟩ : ∃ x, runL blankB (l.drop (q + m)) = x := ⟨_, rfl⟩
          have HRN := Hid.mk hrn
          rw [hrn] at hr2 ⊢
          have hwz : IntKind.i64.wrap ((q : Int) + (m : Int) + (rn : Int)) = (q : Int) + (m : Int) + (rn : Int) := by rw [IntKind.wrap_i64]; omega
          obtain ⟨f', hff⟩ : ∃ f', f = f' + 1 := ⟨f - 1, by omega⟩
          subst hff
          clear hrn hdl
          go_wp2
          go_roundg (l.length - (q + m))
          case measure => omega
          case rel => exact ⟨acc ++ [(kk, tx, q)], q + m, q + m + rn, n + 1, by first | go_num | (congr 1), by omega, by omega, Nat.le_refl _, hnl, O5.out, by simp [HH.out.1], by rw [HRN.out], B5.out, f', by omega, HNX.out⟩
      · obtain ⟨b', rfl, t0, t1, tB, tl⟩ := hthr
        have HP := Hid.mk (show tokensL l = .error (3, q) by
          have h1 := left_none (f := f) (acc := acc) (p := p) (l := l) (by rw [← HH.out.2.1]; exact hlt) (by rw [← HH.out.2.1]; exact hfl)
          rw [HNM.out, h1, ← HH.out.2.1])
        go_wp2
        exact ⟨rfl, Or.inr ⟨_, HP.out, b', rfl, t0, t1, Nat.le_trans HH.out.2.2.1.size tB, tl⟩, bel_then HH.out.2.2.1 hb2⟩
    · have hltz : ¬ ((q : Int) < (l.length : Int)) := by omega
      have HP := Hid.mk (show tokensL l = .ok (acc ++ [(4, [], l.length)]) by rw [HNM.out]; exact left_end (by rw [← HH.out.2.1]; omega))
      have hsw := HH.out.2.2.1.size
      go_wp2_with (at_builtin; refine wpList_append_own _ rfl _ _ 72 rfl w.heap.size 95 i0 (.agg #[.int .i64 0, .string ⟨#[]⟩, .int .i64 0]) 3 32 Tryz.underlying72 hi hz0 hz1 hz2 rfl (by decide) _ _ _ rfl (HO.out.alloc _) ⟨wr.heap.size, 0, none⟩ 1 1 [.int .i64 4, .string ⟨#[]⟩, .int .i64 (l.length : Nat)] rfl rfl (news_blkT _ [.int .i64 4, .string ⟨#[]⟩, .int .i64 (l.length : Nat)] _ _ (by simp)) (by simp [Value.oneCell']) ?c3 ?c4 ?c5 ?_)
      case c3 => unfold maxLen; omega
      case c4 => omega
      case c5 => first | omega | (simp; omega)
      intro v' w5 hown' hgrow _
      have HB5 := Hid.mk ((bel_box HH.out.2.2.1 (.cells #[.int .i64 4, .string ⟨#[]⟩, .int .i64 (l.length : Nat)] 95)).grown hgrow (by first | omega | (simp; omega)) (fun k hk => (HO.out.lt k hk).1))
      have HO5 := Hid.mk (show w5.ownsRow w.heap.size 95 3 v' (acc ++ [(4, [], l.length)]).length (tkV (acc ++ [(4, [], l.length)])) by rw [tkV_app, List.length_append, ← HH.out.1]; exact hown')
      clear hown' hgrow
      go_wp2
      go_ret
      exact ⟨Or.inl ⟨_, _, HP.out, rfl, HO5.out⟩, HB5.out⟩
end Go.Proofs.YtedflhiflomoeaaGreatDoor
