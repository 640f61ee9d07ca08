import Derived.Test.YtajkjhkjgibcfaaDoorFlwP
import Derived.Lib.ItoaLen
set_option linter.unusedSimpArgs false
set_option linter.unusedVariables false
namespace Go.Proofs.YtajkjhkjgibcfaaDoor
open Go.RowKit

/-- What a column or value, a job's retry, an input's columns are written as. -/
def argL (a : Ag) : By := if a.1 = [] then valueL a.2.1 a.2.2.1 a.2.2.2 else a.1
def retryL (n : Int) : By := if n = 0 then [] else [32] ++ wRetry ++ [32] ++ Lib.itoa n
def kindW (k : Int) : By := if k = 1 then wInt else wText
def colL (c : By × Int) : By := c.1 ++ [32] ++ kindW c.2
def colsL (l : List (By × Int)) : By := Lib.join (l.map colL) [44, 32]
def verbW (c : Int) : By := (verbs0[c.toNat]?).getD []
def nthL (l : List By) (n : Nat) : By := (l[n]?).getD []
def listL (l : List By) : By := Lib.join l [44, 32]
/-- What a job does, as text. -/
def jobL (j : FJob) : By :=
  verbW j.code ++ [32] ++ nthL j.ins 0 ++
  (if j.code = 1 ∨ j.code = 9 then [32] ++ wWhere ++ [32] ++ argL j.left ++ [32] ++ j.op ++ [32] ++ argL j.right
  else if j.code = 2 then [58, 32] ++ nthL j.cols 0 ++ [32, 61, 32] ++ argL j.left ++ [32] ++ j.op ++ [32] ++ argL j.right
  else if j.code = 3 ∨ j.code = 4 then [32] ++ wBy ++ [32] ++ listL j.cols
  else if j.code = 5 then [44, 32] ++ nthL j.ins 1
  else if j.code = 7 then [46] ++ nthL j.cols 0 ++ [44, 32] ++ nthL j.ins 1 ++ [46] ++ nthL j.cols 1
  else if j.code = 8 then [32] ++ wBy ++ [32] ++ nthL j.cols 0 ++ [32] ++ j.op ++ [32] ++ nthL j.cols 1
  else [])
def inLn (a : FIn) : By := wIn ++ [32] ++ a.name ++ [58, 32] ++ colsL a.cols ++ [59, 10]
def jobLn (j : FJob) : By := wJob ++ [32] ++ listL j.outs ++ retryL j.retry ++ [32, 61, 32] ++ jobL j ++ [59, 10]
def outLn (o : FOut) : By := wOut ++ [32] ++ o.name ++ [32, 61, 32] ++ o.from_ ++ [59, 10]
/-- What a flow is written as. -/
def printF (f : Flw) : By := f.ins.flatMap inLn ++ f.jobs.flatMap jobLn ++ f.outs.flatMap outLn

theorem FEnv.belowW {w w' : World} (h : FEnv w) (hb : Below w.heap.size w w') : FEnv w' := h.blocks hb.size fun g hg => hb.block g (h.size g hg)
/-- Texts that can be read. -/
def StrsR (w : World) (v : Value) (xs : List By) : Prop := (v = .slice none 0 0 ∧ xs = []) ∨ ∃ b o c, v = .slice (some ⟨b, o, none⟩) xs.length c ∧ xs.length ≤ c ∧ b < w.heap.size ∧ ∀ (j : Nat) (h : j < xs.length), w.cell? ⟨b, o + j, none⟩ = some (.string (ba xs[j]))
theorem StrsR.below {w w' : World} {v : Value} {xs : List By} (h : StrsR w v xs) (hb : Below w.heap.size w w') : StrsR w' v xs := by
  rcases h with h | ⟨b, o, c, hv, hc, hl, hx⟩
  · exact Or.inl h
  · exact Or.inr ⟨b, o, c, hv, hc, Nat.lt_of_lt_of_le hl hb.size, fun j hj => (hb.cell (p := ⟨b, o + j, none⟩) hl).trans (hx j hj)⟩
theorem StrsR.of {w : World} {B : Nat} {v : Value} {xs : List By} (h : encL B xs v w) : StrsR w v xs := by
  have h0 : w.ownsRow B 9 1 v xs.length (strV xs) := h
  obtain ⟨-, ⟨hv, hn0⟩ | ⟨g, cap, cur, hve, hgB, -, hcap, hm, -, -⟩⟩ := (show w.ownsRow B 9 1 v xs.length (strV xs) from h)
  · exact Or.inl ⟨by rw [hv], List.eq_nil_of_length_eq_zero hn0⟩
  · subst hve
    refine Or.inr ⟨g, 0, cap, rfl, hcap, (h0.lt g rfl).2, fun j hj => ?_⟩
    rw [Nat.zero_add, h0.cellAt j (by omega)]
    simp [strV, hj]
theorem nthL_at {xs : List By} {n : Nat} (h : n < xs.length) : nthL xs n = xs[n] := by simp [nthL, h]
theorem nthL_no {xs : List By} {n : Nat} (h : ¬ n < xs.length) : nthL xs n = [] := by simp [nthL, List.getElem?_eq_none (Nat.le_of_not_lt h)]

theorem nth_any (v : Value) (xs : List By) (n : Nat) (w : World) (h : StrsR w v xs) (hx : xs.length ≤ 1000) (hn : n ≤ 1000) :
    Calls Tryd.prog 30 #[v, .int .i64 n] w fun e w' => e = .returned (.string (ba (nthL xs n))) ∧ w' = w := by
  rcases h with ⟨rfl, rfl⟩ | ⟨b, o, c, rfl, hc, hl, hcell⟩
  · have HN := Hid.mk (nthL_no (xs := []) (n := n) (by simp))
    go_enter Tryd.func30, Tryd.ntmps30
    go_wp2
    go_ret
    exact ⟨by rw [HN.out]; rfl, rfl⟩
  · by_cases hlt : n < xs.length
    · have HN := Hid.mk (nthL_at hlt)
      have d := hcell n hlt
      generalize xs[n] = x at *
      clear hcell
      go_enter Tryd.func30, Tryd.ntmps30
      go_wp2
      go_ret
      exact ⟨by rw [HN.out]; rfl, rfl⟩
    · have HN := Hid.mk (nthL_no hlt)
      clear hcell
      go_enter Tryd.func30, Tryd.ntmps30
      go_wp2
      go_ret
      exact ⟨by rw [HN.out]; rfl, rfl⟩

set_option maxHeartbeats 400000 in
theorem valueF_any (k n : Int) (s : ByteArray) (w : World) (hs : s.size ≤ 1000) (h0 : -9223372036854775808 ≤ n) (h1 : n ≤ 9223372036854775807) (hE : FEnv w) :
    Calls Tryd.prog 48 #[.agg #[.int .i64 k, .int .i64 n, .string s]] w fun e w' => e = .returned (.string (ba (valueL k n s.data.toList))) ∧ Below w.heap.size w w' := by
  have hI := Tryd.strconv_Itoa n h0 h1 (w.alloc (.cells #[.int .i64 k, .int .i64 n, .string s] 57)) (hE.belowW (below_box _ _)).pw
  have HI := Hid.mk hI
  have HE := Hid.mk hE
  clear hI hE
  cases g : (k == 1)
  · have HV : Hid (valueL k n s.data.toList = 39 :: (s.data.toList ++ [39])) := by show _ = _; simp at g; simp [valueL, g]
    clear HI h0 h1
    go_enter Tryd.func48, Tryd.ntmps48
    go_wp2
    go_ret
    exact ⟨ret_strB (by rw [HV.out]; simp), below_box _ _⟩
  · have HV : Hid (valueL k n s.data.toList = Lib.itoa n) := by show _ = _; simp at g; simp [valueL, g]
    go_enter Tryd.func48, Tryd.ntmps48
    go_wp2_with (go_at_call 29; refine HI.out.mono ?_; rintro e w' ⟨rfl, kq, osq, rfl⟩)
    go_ret
    refine ⟨ret_strB (by rw [HV.out]), (below_box _ _).trans ((below_growN _ _ _).mono (by simp))⟩

/-- What may be written: a name, or a value of a right size. -/
def AgOK (a : Ag) : Prop := a.1.length ≤ 1000 ∧ a.2.2.2.length ≤ 1000 ∧ -9223372036854775808 ≤ a.2.2.1 ∧ a.2.2.1 ≤ 9223372036854775807
theorem ba_ne {x : By} (h : x ≠ []) : (ba x).toList.isEmpty = false := by rw [ByteArray.toList_eq]; cases x with | nil => exact absurd rfl h | cons a b => rfl
set_option maxHeartbeats 400000 in
theorem argw_any (a : Ag) (w : World) (ha : AgOK a) (hE : FEnv w) :
    Calls Tryd.prog 31 #[.agg #[.string (ba a.1), .int .i64 a.2.1, .int .i64 a.2.2.1, .string (ba a.2.2.2)]] w fun e w' => e = .returned (.string (ba (argL a))) ∧ Below w.heap.size w w' := by
  have HV := Hid.mk (valueF_any a.2.1 a.2.2.1 (ba a.2.2.2) (w.alloc (.cells #[.string (ba a.1), .int .i64 a.2.1, .int .i64 a.2.2.1, .string (ba a.2.2.2)] 59)) (by rw [ba_size]; exact ha.2.1) ha.2.2.1 ha.2.2.2 (hE.belowW (below_box _ _)))
  have HE := Hid.mk hE
  clear hE ha
  by_cases hx : a.1 = []
  · have HA : Hid (argL a = valueL a.2.1 a.2.2.1 a.2.2.2) := by show _ = _; rw [argL, if_pos hx]
    rw [ba_list] at HV
    rw [hx] at HV ⊢
    go_enter Tryd.func31, Tryd.ntmps31
    go_wp2_with (go_at_call 48; refine HV.out.mono ?_; rintro e w' ⟨rfl, hb⟩)
    go_ret
    exact ⟨by rw [HA.out]; rfl, (below_box _ _).trans (hb.mono (by simp))⟩
  · have HA : Hid (ba (argL a) = ba a.1) := by show _ = _; rw [argL, if_neg hx]
    have he := ba_ne hx
    clear HV hx
    generalize ba (argL a) = r at *
    generalize ba a.1 = s at *
    go_enter Tryd.func31, Tryd.ntmps31
    go_wp2
    go_ret
    exact ⟨by rw [HA.out]; rfl, below_box _ _⟩

set_option maxHeartbeats 400000 in
theorem retryw_any (n : Int) (w : World) (h0 : -9223372036854775808 ≤ n) (h1 : n ≤ 9223372036854775807) (hE : FEnv w) :
    Calls Tryd.prog 15 #[.int .i64 n] w fun e w' => e = .returned (.string (ba (retryL n))) ∧ Below w.heap.size w w' := by
  have HI := Hid.mk (Tryd.strconv_Itoa n h0 h1 w hE.pw)
  clear hE
  cases g : (n == 0)
  · have HV : Hid (retryL n = [32, 114, 101, 116, 114, 121, 32] ++ Lib.itoa n) := by show _ = _; simp at g; simp [retryL, g, wRetry]
    have hl := Lib.itoa_length_le n (by omega) (by omega)
    go_enter Tryd.func15, Tryd.ntmps15
    go_wp2_with (go_at_call 29; refine HI.out.mono ?_; rintro e w' ⟨rfl, kq, osq, rfl⟩)
    go_ret
    exact ⟨ret_strB (by rw [HV.out]; simp), below_growN _ _ _⟩
  · have HV : Hid (retryL n = []) := by show _ = _; simp at g; simp [retryL, g]
    clear HI
    go_enter Tryd.func15, Tryd.ntmps15
    go_wp2
    go_ret
    exact ⟨by rw [HV.out]; rfl, Below.refl _ _⟩

theorem lens_le : ∀ (xs : List By) (m : Nat), (∀ x ∈ xs, x.length ≤ m) → Lib.lens xs ≤ m * xs.length
  | [], m, _ => by simp [Lib.lens]
  | x :: r, m, h => by
    have h1 := lens_le r m fun y hy => h y (List.mem_cons_of_mem _ hy)
    have h2 := h x List.mem_cons_self
    have h3 : Lib.lens (x :: r) = x.length + Lib.lens r := by simp [Lib.lens]
    rw [h3, List.length_cons, Nat.mul_succ]
    omega
theorem listL_len (xs : List By) (hn : xs.length ≤ 1000) (h : ∀ x ∈ xs, x.length ≤ 1000) : (Lib.join xs [44, 32]).length ≤ 1002000 := by
  cases xs with
  | nil => simp [Lib.join_nil]
  | cons x r =>
    rw [Lib.join_length]
    have := lens_le _ 1000 h
    simp only [List.length_cons, List.length_nil] at this hn ⊢
    omega
theorem joinW_any (v : Value) (xs : List By) (w : World) (h : StrsR w v xs) (hn : xs.length ≤ 1000) (hx : ∀ x ∈ xs, x.length ≤ 1000) :
    Calls Tryd.prog 14 #[v, .string ⟨#[44, 32]⟩] w fun e w' => e = .returned (.string (ba (listL xs))) ∧ Below w.heap.size w w' := by
  rcases h with ⟨rfl, rfl⟩ | ⟨b, o, c, rfl, hc, hl, hcell⟩
  · refine (Tryd.strings_Join_none none 0 ⟨#[44, 32]⟩ w).mono ?_
    rintro e w' ⟨rfl, rfl⟩
    exact ⟨rfl, Below.refl _ _⟩
  · have hm : (xs.map ba).map (·.data.toList) = xs := by rw [List.map_map]; exact (List.map_congr_left fun x _ => rfl).trans (List.map_id _)
    have hJ := Tryd.strings_Join b o c (xs.map ba) ⟨#[44, 32]⟩ w (fun j x hj => by
      have hj' : j < xs.length := by have := (List.getElem?_eq_some_iff.1 hj).1; simpa using this
      rw [hcell j hj']
      rw [List.getElem?_map, List.getElem?_eq_getElem hj'] at hj
      simp only [Option.map_some, Option.some.injEq] at hj
      rw [hj]) hl (by rw [List.length_map]; omega) (by rw [List.length_map]; exact hc) (by rw [hm]; exact Nat.le_trans (listL_len xs hn hx) (by decide))
    rw [List.length_map, hm] at hJ
    exact hJ
end Go.Proofs.YtajkjhkjgibcfaaDoor

