import Derived.Test.YtedflhiflomoeaaGreatDoorFlwB
import Derived.Deep.LoopGhost
set_option linter.unusedSimpArgs false
set_option linter.unusedVariables false
namespace Go.Proofs.YtedflhiflomoeaaGreatDoor
open Go.RowKit

def encS : By → Value → World → Prop := fun a v _ => v = .string (ba a)
def encI : Int → Value → World → Prop := fun a v _ => v = .int .i64 a
theorem fld_text (a b c : Value) (w : World) : (Instr.field 95 (.agg #[a, b, c]) 1).run Tryz.prog w = .ok b w := by kernel_rfl
theorem Thr.grow {e : Ending} {w' : World} {B B' : Nat} {er : Int × Nat} (h : Thr e w' B er) (hB : B' ≤ B) : Thr e w' B' er := by
  obtain ⟨b, h1, h2, h3, h4, h5⟩ := h
  exact ⟨b, h1, h2, h3, by omega, h5⟩
set_option maxRecDepth 100000 in
set_option maxHeartbeats 800000 in
theorem rname_any (R : Nat) (ts : List Tk) (w : World) (h : RD w R ts) : Calls Tryz.prog 56 #[.pointer (some ⟨R, 0, none⟩)] w fun e w' => Rs (nameP ts) encS e w.heap.size w' R ∧ But R w w' := by
  have H := Hid.mk h
  have hfld := fld_text
  clear h
  go_enter Tryz.func56, Tryz.ntmps56
  go_wp2_with (go_at_call 77; fail)
  refine (need_any 0 R ts w H.out).mono ?_
  rintro e w1 ⟨⟨hk, rfl⟩ | ⟨hk, hthr⟩, hb1⟩
  · have H1 := Hid.mk (H.out.below hb1)
    have HB := Hid.mk hb1
    have HK := Hid.mk hk
    clear hb1 hk
    by_cases hl : 10 < (textT ts).length
    · have hlz : (10 : Int) < ((textT ts).length : Int) := by omega
      have HP := Hid.mk (show nameP ts = .error (4, hereT ts) by rw [nameP, if_neg (by simp [HK.out]), if_pos hl]; rfl)
      go_wp2_with (go_at_call 41; refine (rwrong_any _ _ _ _ H1.out).mono ?_; rintro e w'' ⟨rfl, rfl⟩)
      exact ⟨rfl, Or.inr ⟨_, HP.out, thr_new _ _ _ HB.out.size⟩, But.of (bel_box HB.out _)⟩
    · have hlz : ¬ ((10 : Int) < ((textT ts).length : Int)) := by omega
      have HP := Hid.mk (show nameP ts = .ok (textT ts, ts.tail) by rw [nameP, if_neg (by simp [HK.out]), if_neg hl])
      go_wp2_with (go_at_call 78; refine (take_any _ _ _ H1.out (Or.inl (by rw [HK.out]; decide))).mono ?_; rintro e w'' ⟨rfl, h1, h2⟩)
      go_ret
      exact ⟨Or.inl ⟨_, _, _, HP.out, rfl, rfl, h1⟩, (But.of HB.out).then h2⟩
  · obtain ⟨b', rfl, t0, t1, tB, tl⟩ := hthr
    have HP := Hid.mk (show nameP ts = .error (3, hereT ts) by rw [nameP, if_pos hk]; rfl)
    go_wp2
    exact ⟨rfl, Or.inr ⟨_, HP.out, b', rfl, t0, t1, tB, tl⟩, But.of hb1⟩
theorem ba_list (l : By) : (ba l).data.toList = l := by simp
theorem ba_size (l : By) : (ba l).size = l.length := by simp [ByteArray.size]
theorem text_small {ts : List Tk} (h : GoodT ts) : (textT ts).length ≤ 1000000 := by
  obtain ⟨t, r, rfl⟩ := h.ne
  exact (h.small t (by simp)).2.1
theorem atoiN_any (l : By) (w : World) (hs : l.length ≤ 1000000) (hE : FEnv w) : Calls Tryz.prog 31 #[.string (ba l)] w fun e w' => (∃ q, e = .returned (.tuple #[.int .i64 (atoiN l), q])) ∧ Below w.heap.size w w' := by
  obtain ⟨t1, p1, h1⟩ := hE.es
  obtain ⟨t2, p2, h2⟩ := hE.er
  have hz := ba_size l
  unfold atoiN
  rcases num_end (Lib.atoiAll l) with ⟨n, g⟩ | g | g
  · rw [g]
    have g' : Lib.atoiAll (ba l).data.toList = .ok n := by rw [ba_list]; exact g
    exact (atoi_ok (ba l) w n (by omega) g').mono fun _ _ x => ⟨⟨_, x.1⟩, x.2⟩
  · have g' : Lib.atoiAll (ba l).data.toList = Lib.atoiAll [] := by rw [ba_list]; exact g
    rw [g]
    exact (Tryz.strconv_Atoi_syntax_var (ba l) (by omega) g' t1 p1 w h1).mono fun _ _ ⟨N, x, _, _, y⟩ => ⟨⟨_, x⟩, y⟩
  · have g' : Lib.atoiAll (ba l).data.toList = .range := by rw [ba_list]; exact g
    rw [g]
    exact (Tryz.strconv_Atoi_range_var (ba l) (by omega) g' t2 p2 w h2).mono fun _ _ ⟨N, x, _, _, y⟩ => ⟨⟨_, x.trans (by rw [ba_list])⟩, y⟩
set_option maxRecDepth 100000 in
set_option maxHeartbeats 800000 in
theorem rnum_any (most : Int) (R : Nat) (ts : List Tk) (w : World) (h : RD w R ts) : Calls Tryz.prog 60 #[.pointer (some ⟨R, 0, none⟩), .int .i64 most] w fun e w' => Rs (numP most ts) encI e w.heap.size w' R ∧ But R w w' := by
  have H := Hid.mk h
  have hfld := fld_text
  clear h
  go_enter Tryz.func60, Tryz.ntmps60
  go_wp2_with (go_at_call 77; fail)
  refine (need_any 1 R ts w H.out).mono ?_
  rintro e w1 ⟨⟨hk, rfl⟩ | ⟨hk, hthr⟩, hb1⟩
  · have H1 := Hid.mk (H.out.below hb1)
    have HB := Hid.mk hb1
    have HK := Hid.mk hk
    clear hb1 hk
    go_wp2_with (go_at_call 31; fail)
    refine (atoiN_any _ w1 (text_small H1.out.good) H1.out.env).mono ?_
    rintro e w2 ⟨⟨q, rfl⟩, hb2⟩
    have H2 := Hid.mk (H1.out.below hb2)
    have HB2 := Hid.mk (bel_then HB.out hb2)
    clear hb2
    generalize hn : atoiN (textT ts) = n
    have HN := Hid.mk hn
    clear hn
    by_cases hl : most < n
    · have HP := Hid.mk (show numP most ts = .error (4, hereT ts) by rw [numP, if_neg (by simp [HK.out]), if_pos (by rw [HN.out]; exact hl)]; rfl)
      go_wp2_with (go_at_call 41; refine (rwrong_any _ _ _ _ H2.out).mono ?_; rintro e w'' ⟨rfl, rfl⟩)
      exact ⟨rfl, Or.inr ⟨_, HP.out, thr_new _ _ _ HB2.out.size⟩, But.of (bel_box HB2.out _)⟩
    · have HP := Hid.mk (show numP most ts = .ok (n, ts.tail) by rw [numP, if_neg (by simp [HK.out]), if_neg (by rw [HN.out]; exact hl), HN.out])
      go_wp2_with (go_at_call 78; refine (take_any _ _ _ H2.out (Or.inl (by rw [HK.out]; decide))).mono ?_; rintro e w'' ⟨rfl, h1, h2⟩)
      go_ret
      exact ⟨Or.inl ⟨_, _, _, HP.out, rfl, rfl, h1⟩, (But.of HB2.out).then h2⟩
  · obtain ⟨b', rfl, t0, t1, tB, tl⟩ := hthr
    have HP := Hid.mk (show numP most ts = .error (3, hereT ts) by rw [numP, if_pos hk]; rfl)
    go_wp2
    exact ⟨rfl, Or.inr ⟨_, HP.out, b', rfl, t0, t1, tB, tl⟩, But.of hb1⟩
def findI (xs : List By) (x : By) : Int := match xs.findIdx? (· == x) with | some i => (i : Int) | none => -1
/-- Texts that lie there. -/
def TextsAt (w : World) (v : Value) (xs : List By) : Prop := ∃ b o c, v = .slice (some ⟨b, o, none⟩) xs.length c ∧ b < w.heap.size ∧ xs.length ≤ 1000 ∧ ∀ (j : Nat) (h : j < xs.length), w.cell? ⟨b, o + j, none⟩ = some (.string (ba xs[j]))
set_option maxRecDepth 100000 in
set_option maxHeartbeats 800000 in
theorem indexS_any (v : Value) (xs : List By) (x : By) (w : World) (h : TextsAt w v xs) : Calls Tryz.prog 115 #[v, .string (ba x)] w fun e w' => e = .returned (.int .i64 (findI xs x)) ∧ w' = w := by
  obtain ⟨b, o, c, rfl, hb, hl, hat⟩ := h
  have HA := Hid.mk hat
  clear hat
  go_enter Tryz.func115, Tryz.ntmps115
  go_wp2
  go_loopg [8] xs.length (fun g i wr => ∃ k : Nat, k ≤ xs.length ∧ i = .int .i64 k ∧ xs.length - k ≤ g ∧ Aside (∀ (j : Nat) (h : j < xs.length), j < k → (xs[j] == x) = false) ∧ wr = w)
  case atStart => exact ⟨0, Nat.zero_le _, rfl, by omega, fun j _ h => absurd h (by omega), rfl⟩
  case round =>
    obtain ⟨k, hk, rfl, hg, HN, rfl⟩ := hrel
    by_cases hlt : k < xs.length
    · have hltz : (k : Int) < (xs.length : Int) := by omega
      have hc := HA.out k hlt
      generalize hx : xs[k] = y at hc
      have HX := Hid.mk hx
      clear hx
      by_cases he : x = y
      · have HF := Hid.mk (show xs.findIdx? (· == x) = some k from by
          rw [List.findIdx?_eq_some_iff_getElem]
          exact ⟨hlt, by rw [HX.out, he]; simp, fun j hj => by rw [HN.out j (by omega) hj]; simp⟩)
        have hb' : (x == y) = true := by simp [he]
        clear he
        go_wp2
        go_ret
        exact ⟨ret_int (by rw [findI, HF.out]), rfl⟩
      · have hb' : (x == y) = false := by simp [he]
        have HN2 := Hid.mk (show ∀ (j : Nat) (h : j < xs.length), j < k + 1 → (xs[j] == x) = false from fun j h1 h2 => by
          by_cases h3 : j < k
          · exact HN.out j h1 h3
          · have : j = k := by omega
            subst this
            rw [HX.out]; simp; exact fun h => he h.symm)
        clear he
        go_wp2
        go_roundg (xs.length - (k + 1))
        case measure => omega
        case rel => exact ⟨k + 1, by omega, by go_num, Nat.le_refl _, HN2.out, rfl⟩
    · have hltz : ¬ ((k : Int) < (xs.length : Int)) := by omega
      have HF := Hid.mk (show xs.findIdx? (· == x) = none from by
        rw [List.findIdx?_eq_none_iff]
        intro y hy
        obtain ⟨j, hj, rfl⟩ := List.getElem_of_mem hy
        exact HN.out j hj (by omega))
      go_wp2
      go_ret
      exact ⟨ret_int (by rw [findI, HF.out]), rfl⟩
theorem has_find (xs : List By) (x : By) : (x ∈ xs ∧ ∃ i : Nat, xs.findIdx? (· == x) = some i) ∨ (x ∉ xs ∧ xs.findIdx? (· == x) = none) := by
  cases h : xs.findIdx? (· == x) with
  | some i =>
    rw [List.findIdx?_eq_some_iff_getElem] at h
    obtain ⟨hi, he, -⟩ := h
    refine Or.inl ⟨?_, i, rfl⟩
    rw [← beq_iff_eq.1 he]
    exact List.getElem_mem hi
  | none =>
    rw [List.findIdx?_eq_none_iff] at h
    exact Or.inr ⟨fun hx => by have := h x hx; simp at this, rfl⟩
set_option maxRecDepth 100000 in
theorem contS_any (v : Value) (xs : List By) (x : By) (w : World) (h : TextsAt w v xs) : Calls Tryz.prog 103 #[v, .string (ba x)] w fun e w' => e = .returned (.bool (decide (x ∈ xs))) ∧ w' = w := by
  have HI := Hid.mk (indexS_any v xs x w h)
  clear h
  unfold findI at HI
  rcases has_find xs x with ⟨hm, i, hf⟩ | ⟨hm, hf⟩
  · rw [decide_eq_true hm]
    rw [hf] at HI
    go_enter Tryz.func103, Tryz.ntmps103
    go_wp2_with (go_at_call 115; refine HI.out.mono ?_; rintro e w' ⟨rfl, rfl⟩)
    go_ret
    exact ⟨ret_bool (by simp), rfl⟩
  · rw [decide_eq_false hm]
    rw [hf] at HI
    go_enter Tryz.func103, Tryz.ntmps103
    go_wp2_with (go_at_call 115; refine HI.out.mono ?_; rintro e w' ⟨rfl, rfl⟩)
    go_ret
    exact ⟨ret_bool (by simp), rfl⟩
set_option maxRecDepth 100000 in
set_option maxHeartbeats 800000 in
theorem roneOf_any (v : Value) (xs : List By) (R : Nat) (ts : List Tk) (w : World) (h : RD w R ts) (hv : TextsAt w v xs) (hx : [] ∉ xs) : Calls Tryz.prog 80 #[.pointer (some ⟨R, 0, none⟩), v] w fun e w' => Rs (oneOfP xs ts) encS e w.heap.size w' R ∧ But R w w' := by
  obtain ⟨b, o, cc, n, hc, hn', hcc, hb, hR, hn1, k0, k1, k2⟩ := h.head
  have hlt := h.lt
  have H := Hid.mk h
  have HC := Hid.mk (contS_any v xs (textT ts) w hv)
  clear h hn' hv
  by_cases he : textT ts ∈ xs
  · have HP := Hid.mk (show oneOfP xs ts = .ok (textT ts, ts.tail) by rw [oneOfP, if_pos he])
    have hne : textT ts ≠ [] := fun e => hx (e ▸ he)
    rw [decide_eq_true he] at HC
    have HT := Hid.mk (take_any R ts w H.out (Or.inr hne))
    clear he hne
    go_enter Tryz.func80, Tryz.ntmps80
    go_wp2_with (first | (go_at_call 103; refine HC.out.mono ?_; rintro e w' ⟨rfl, rfl⟩) | (go_at_call 78; refine HT.out.mono ?_; rintro e w' ⟨rfl, h1, h2⟩))
    go_ret
    exact ⟨Or.inl ⟨_, _, _, HP.out, rfl, rfl, h1⟩, h2⟩
  · have HP := Hid.mk (show oneOfP xs ts = .error (3, hereT ts) by rw [oneOfP, if_neg he]; rfl)
    rw [decide_eq_false he] at HC
    clear he
    go_enter Tryz.func80, Tryz.ntmps80
    go_wp2_with (first | (go_at_call 103; refine HC.out.mono ?_; rintro e w' ⟨rfl, rfl⟩) | (go_at_call 41; refine (rwrong_any _ _ _ _ H.out).mono ?_; rintro e w'' ⟨rfl, rfl⟩))
    exact ⟨rfl, Or.inr ⟨_, HP.out, thr_new _ _ _ (Nat.le_refl _)⟩, (But.refl _ _).box _⟩
end Go.Proofs.YtedflhiflomoeaaGreatDoor
