import Derived.Test.YtedflhiflomoeaaGreatDoorRefT
import Derived.Test.YtedflhiflomoeaaGreatDoorRefW
import Derived.Test.YtedflhiflomoeaaGreatDoorFlwO
set_option linter.unusedSimpArgs false
set_option linter.unusedVariables false
namespace Go.Proofs.YtedflhiflomoeaaGreatDoor
open Go.RowKit

theorem pu_digits : ∀ (l : By) (acc : Nat), (∀ c ∈ l, digB c = true) → Lib.parseUint10 acc l ≠ Lib.parseMag []
  | [], acc, _ => by unfold Lib.parseUint10 Lib.parseMag; simp
  | c :: r, acc, h => by
    have hc := h c (by simp)
    unfold digB at hc
    simp only [Bool.and_eq_true, decide_eq_true_eq] at hc
    unfold Lib.parseUint10
    rw [if_pos hc]
    split
    · unfold Lib.parseMag; simp
    · split
      · unfold Lib.parseMag; simp
      · exact pu_digits r _ (fun x hx => h x (by simp [hx]))
theorem digits_num {l : By} (hne : l ≠ []) (h : ∀ c ∈ l, digB c = true) : Lib.atoiAll l ≠ Lib.atoiAll [] := by
  cases l with
  | nil => exact absurd rfl hne
  | cons c r =>
    have hc := h c (by simp)
    unfold digB at hc
    simp only [Bool.and_eq_true, decide_eq_true_eq] at hc
    have hp : Lib.parseMag (c :: r) ≠ Lib.parseMag [] := by
      show (if c :: r = [] then _ else Lib.parseUint10 0 (c :: r)) ≠ _
      rw [if_neg (by simp)]
      exact pu_digits _ 0 h
    have h43 : ¬ (c.toNat = 43 ∨ c.toNat = 45) := by omega
    have h45 : ¬ c.toNat = 45 := by omega
    show (match Lib.parseMag (if c.toNat = 43 ∨ c.toNat = 45 then r else c :: r) with
      | .«syntax» => _
      | .range => _
      | .ok u => _) ≠ Lib.atoiAll []
    rw [if_neg h43]
    cases hm : Lib.parseMag (c :: r) with
    | «syntax» => rw [hm] at hp; exact absurd rfl hp
    | range => exact fun e => by cases e
    | ok u =>
      show (if ¬ c.toNat = 45 ∧ 9223372036854775808 ≤ u then Lib.NumEnd.range else if c.toNat = 45 ∧ 9223372036854775808 < u then Lib.NumEnd.range else Lib.NumEnd.ok (if c.toNat = 45 then -(u : Int) else u)) ≠ _
      split
      · exact fun e => by cases e
      · split
        · exact fun e => by cases e
        · exact fun e => by cases e
theorem tw_all (p : UInt8 → Bool) : ∀ (l : By), ∀ c ∈ l.takeWhile p, p c = true
  | [], c, h => by simp at h
  | a :: l, c, h => by
    rw [List.takeWhile_cons] at h
    split at h
    · rename_i hp
      rcases List.mem_cons.1 h with rfl | h
      · exact hp
      · exact tw_all p l c h
    · cases h
theorem run_take (p : UInt8 → Bool) (l : By) : ∀ c ∈ l.take (runL p l), p c = true := by
  intro c hc
  unfold runL at hc
  rw [← List.prefix_iff_eq_take.1 (List.takeWhile_prefix p)] at hc
  exact tw_all p l c hc
/-- The first token of a text is such. -/
theorem first_tkR {d : By} {k n : Nat} (h : firstL d = some (k, n)) (p : Nat) : TkR (k, d.take n, p) := by
  have hl := first_len h
  refine ⟨fun e => by have e : k = 4 := e; omega, fun e => ?_, fun e => ?_⟩
  · have e : k = 1 := e
    subst e
    cases d with
    | nil => cases h
    | cons c r =>
      have hne : (c :: r).take n ≠ [] := by
        obtain ⟨n', rfl⟩ : ∃ n', n = n' + 1 := ⟨n - 1, by omega⟩
        simp
      refine digits_num hne ?_
      simp only [firstL] at h
      split at h
      · cases h
      · split at h
        · simp only [Option.some.injEq, Prod.mk.injEq, true_and] at h
          subst h
          exact run_take digB (c :: r)
        · split at h
          · cases hf : r.findIdx? (· == 39) with
            | none => rw [hf] at h; cases h
            | some m => rw [hf] at h; simp at h
          · cases hf : marksL.find? fun m => m.isPrefixOf (c :: r) with
            | none => rw [hf] at h; cases h
            | some m => rw [hf] at h; simp at h
  · have e : k = 2 := e
    subst e
    cases d with
    | nil => cases h
    | cons c r =>
      simp only [firstL] at h
      split at h
      · cases h
      · split at h
        · cases h
        · split at h
          · rename_i hc
            cases hf : r.findIdx? (· == 39) with
            | none => rw [hf] at h; cases h
            | some m =>
              rw [hf] at h
              simp only [Option.map_some, Option.some.injEq, Prod.mk.injEq, true_and] at h
              subst h
              have hm := List.findIdx?_eq_some_iff_getElem.1 hf
              obtain ⟨hml, h39, hno⟩ := hm
              have hc : c = 39 := by simpa using hc
              subst hc
              refine ⟨r.take m, ?_, fun hmem => ?_⟩
              · show (39 :: r).take (m + 2) = 39 :: r.take m ++ [39]
                rw [List.take_succ_cons, List.take_succ_eq_append_getElem hml]
                have : r[m] = 39 := by simpa using h39
                rw [this]
                rfl
              · obtain ⟨j, hj, hje⟩ := List.mem_iff_getElem.1 hmem
                rw [List.length_take] at hj
                rw [List.getElem_take] at hje
                exact hno j (by omega) (by simp [hje])
          · cases hf : marksL.find? fun m => m.isPrefixOf (c :: r) with
            | none => rw [hf] at h; cases h
            | some m => rw [hf] at h; simp at h
/-- All tokens of a text are such. -/
theorem toks_tkR : ∀ (g : Nat) (l : By) (p n : Nat) (ts : List Tk), toksL g l p n = .ok ts → ∀ t ∈ ts, TkR t
  | 0, l, p, n, ts, h, t, ht => by cases h; cases ht
  | g + 1, l, p, n, ts, h, t, ht => by
    rw [tok_step] at h
    split at h
    · cases h; cases ht
    · split at h
      · cases h
      · rename_i k len hf
        split at h
        · cases h
        · split at h
          · cases h
          · rename_i ts' hts
            cases h
            rcases List.mem_cons.1 ht with rfl | ht
            · exact first_tkR hf _
            · exact toks_tkR g _ _ _ ts' hts t ht
theorem tokens_tkR {s : By} {ts : List Tk} (h : tokensL s = .ok ts) : ∀ t ∈ ts, TkR t := by
  unfold tokensL at h
  split at h
  · cases h
  · rename_i ts' hts
    cases h
    intro t ht
    rcases List.mem_append.1 ht with ht | ht
    · exact toks_tkR _ _ _ _ _ hts t ht
    · simp at ht
      subst ht
      refine ⟨fun _ => rfl, fun e => ?_, fun e => ?_⟩
      · exact absurd (show (4 : Nat) = 1 from e) (by decide)
      · exact absurd (show (4 : Nat) = 2 from e) (by decide)
end Go.Proofs.YtedflhiflomoeaaGreatDoor

namespace Go.Proofs.YtedflhiflomoeaaGreatDoor
open Go.RowKit

theorem rtkV_get : ∀ (ts : List Tk) (j : Nat) (h : j < ts.length), (rtkV ts)[j * 3]? = some (.int .i64 ((ts[j].1 + 1 : Nat) : Int)) ∧ (rtkV ts)[j * 3 + 1]? = some (.string (ba ts[j].2.1)) ∧ (rtkV ts)[j * 3 + 2]? = some (.int .i64 (ts[j].2.2 : Nat))
  | [], j, h => by simp at h
  | t :: r, 0, _ => ⟨rfl, rfl, rfl⟩
  | t :: r, j + 1, h => by
    have ih := rtkV_get r j (by simpa using h)
    have e : rtkV (t :: r) = [.int .i64 ((t.1 + 1 : Nat) : Int), .string (ba t.2.1), .int .i64 (t.2.2 : Nat)] ++ rtkV r := by simp [rtkV]
    rw [e, show (j + 1) * 3 = j * 3 + 3 by omega, show j * 3 + 3 + 1 = (j * 3 + 1) + 3 by omega, show j * 3 + 3 + 2 = (j * 3 + 2) + 3 by omega]
    simpa using ih
/-- The reader's beginning. -/
theorem rf_new {w : World} {v : Value} {ts : List Tk} {B : Nat} (ho : w.ownsRow B 64 3 v ts.length (rtkV ts)) (hg : GoodT ts) (hE : REnv w) (h4 : ∀ t ∈ ts, TkR t) : RF (w.alloc (.cells #[v, .int .i64 0, .int .i64 (-1)] 49)) w.heap.size ts none := by
  obtain ⟨t0, r0, hne⟩ := hg.ne
  obtain ⟨-, ⟨-, h0⟩ | ⟨g, cap, cur, rfl, hB, hh, hn, hm, hs, ht⟩⟩ := ho
  · rw [hne] at h0; simp at h0
  have hgl : g < w.heap.size := by
    rcases Nat.lt_or_ge g w.heap.size with q | q
    · exact q
    · rw [Array.getElem?_eq_none q] at hh; simp at hh
  have hb := below_box w (.cells #[.slice (some ⟨g, 0, none⟩) ts.length cap, .int .i64 0, .int .i64 (-1)] 49)
  have hc : ∀ i x, (rtkV ts)[i]? = some x → (w.alloc (.cells #[.slice (some ⟨g, 0, none⟩) ts.length cap, .int .i64 0, .int .i64 (-1)] 49)).cell? ⟨g, 0 + i, none⟩ = some x := by
    intro i x hx
    rw [hb.cell (p := ⟨g, 0 + i, none⟩) hgl]
    rw [← ht, List.getElem?_take] at hx
    split at hx
    · simp only [World.cell?, hh, Nat.zero_add]
      simpa using hx
    · cases hx
  refine ⟨⟨g, 0, cap, Box.new w _ _ _ rfl, hn, hgl, fun j hj => ?_⟩, hg, hE.below hb, fun q hq => hE.size q hq, h4⟩
  have h3 := rtkV_get ts j hj
  exact ⟨hc _ _ h3.1, hc _ _ h3.2.1, hc _ _ h3.2.2⟩
theorem see_ok {x : By} {R : Nat} {ts : List Tk} {w : World} (h : RX w R (.ok ts)) (hx : x ≠ []) : Calls Tryz.prog 10 #[.pointer (some ⟨R, 0, none⟩), .string (ba x)] w fun e w' => e = .returned (.bool (textT ts == x)) ∧ Below w.heap.size w w' := seex_any x R _ w h hx
theorem see_err {x : By} {R : Nat} {er : Int × Nat} {w : World} (h : RX w R (.error er)) (hx : x ≠ []) : Calls Tryz.prog 10 #[.pointer (some ⟨R, 0, none⟩), .string (ba x)] w fun e w' => e = .returned (.bool false) ∧ Below w.heap.size w w' := seex_any x R _ w h hx
/-- Where a walk of Parse stands. -/
structure PS (w : World) (R : Nat) (w' : World) (q : QS) (vs : List Value) : Prop where
  x : RX w' R q
  b : Below w.heap.size w w'
  r1 : Box w' w.heap.size [.slice none 0 0, .slice none 0 0, .slice none 0 0]
  r2 : Box w' (w.heap.size + 1) [.int .i64 0, .int .i64 0]
  o : Box w' (R + 1) vs
theorem PS.call {w w1 w2 : World} {R : Nat} {q q' : QS} {vs : List Value} (h : PS w R w1 q vs) (hR : w.heap.size + 2 ≤ R) (hb : But R w1 w2) (hx : RX w2 R q') : PS w R w2 q' vs :=
  ⟨hx, h.b.trans (hb.below (by omega) h.b.size), h.r1.but hb (by omega), h.r2.but hb (by omega), h.o.but hb (by omega)⟩
theorem PS.below {w w1 w2 : World} {R : Nat} {q : QS} {vs : List Value} (h : PS w R w1 q vs) (hb : Below w1.heap.size w1 w2) : PS w R w2 q vs :=
  ⟨h.x.below hb, h.b.trans (hb.mono h.b.size), h.r1.below hb, h.r2.below hb, h.o.below hb⟩
theorem PS.alloc {w w1 : World} {R : Nat} {q : QS} {vs : List Value} (h : PS w R w1 q vs) (o : Obj) : PS w R (w1.alloc o) q vs := h.below (below_box _ _)
theorem PS.drew {w w1 : World} {R : Nat} {q : QS} {vs : List Value} (h : PS w R w1 q vs) : PS w R w1.drew q vs := h.below (Below.refl _ _).drew
theorem PS.store {w w1 : World} {R : Nat} {q : QS} {vs : List Value} (h : PS w R w1 q vs) (hR : w.heap.size + 2 ≤ R) (i : Nat) (v : Value) : PS w R (w1.setCell ⟨R + 1, i, none⟩ v) q (vs.set i v) :=
  ⟨h.x.set (by omega), h.b.setCell (p := ⟨R + 1, i, none⟩) (by show w.heap.size ≤ R + 1; omega) v, h.r1.other i v (by omega), h.r2.other i v (by omega), h.o.set i v⟩
theorem PS.other {w w1 : World} {R : Nat} {q : QS} {vs : List Value} (h : PS w R w1 q vs) (hR : w.heap.size + 2 ≤ R) (k i : Nat) (hk : R + 1 < k) (v : Value) : PS w R (w1.setCell ⟨k, i, none⟩ v) q vs :=
  ⟨h.x.set (by omega), h.b.setCell (p := ⟨k, i, none⟩) (by show w.heap.size ≤ k; omega) v, h.r1.other i v (by omega), h.r2.other i v (by omega), h.o.other i v (by omega)⟩
theorem PS.grown {w w1 w2 : World} {R : Nat} {q : QS} {vs : List Value} {row : Option Nat} (h : PS w R w1 q vs) (hR : w.heap.size + 2 ≤ R) (hg : w1.grownBy w2 row) (hr : ∀ k, row = some k → R + 2 ≤ k) : PS w R w2 q vs :=
  ⟨h.x.grown hg (fun k hk => by have := hr k hk; omega), h.b.trans ⟨hg.os, hg.tape, hg.output, hg.size, fun k hk => hg.block k (by have := h.b.size; omega) (fun e => by have := hr k e.symm; omega)⟩, h.r1.grown hg (fun e => by have := hr _ e; omega), h.r2.grown hg (fun e => by have := hr _ e; omega), h.o.grown hg (fun e => by have := hr _ e; omega)⟩
/-- What is known in the state q: of the tokens that are left, or of what was wrong. -/
def LE (ts : List Tk) (q : QS) (G : List Tk → Prop) : Prop := match q with | .ok t => G t | .error er => flowR ts = .error er
def KO (I : List FIn) (J : List FJob) (o : List FOut × List Tk) : Except (Int × Nat) Flw := lastR ⟨I, J, o.1⟩ o.2
def KJ (I : List FIn) (j : List FJob × List Tk) : Except (Int × Nat) Flw := (partsP wOut publishP j.2.length [] j.2).bind (KO I j.1)
def KI (i : List FIn × List Tk) : Except (Int × Nat) Flw := (partsP wJob jobP i.2.length [] i.2).bind (KJ i.1)
theorem flowR_eq (ts : List Tk) : flowR ts = (partsP wIn inputP ts.length [] ts).bind KI := rfl
/-- One part more. -/
theorem part_step {α : Type} {x : By} {p : List Tk → PE α} {K : List α × List Tk → Except (Int × Nat) Flw} {ts t : List Tk} {acc : List α} {f : Nat} {G : List α → List Tk → Prop} (hfl : flowR ts = (partsP x p (f + 1) acc t).bind K) (hm : textT t = x) (hn : acc.length ≠ 16) (hle : Le (p t) (t.length - 1)) (hne : t ≠ []) (hf : t.length ≤ f + 1) (hG : ∀ a t', p t = .ok (a, t') → G (acc ++ [a]) t') : LE ts ((p t).map (·.2)) fun t' => ∃ acc', acc'.length = acc.length + 1 ∧ G acc' t' ∧ ∃ f, t'.length ≤ f ∧ flowR ts = (partsP x p f acc' t').bind K := by
  rw [parts_yes hm hn] at hfl
  cases hp : p t with
  | error er =>
    rw [hp] at hfl
    exact hfl
  | ok y =>
    obtain ⟨a, t'⟩ := y
    rw [hp] at hfl
    have hl := hle a t' hp
    have hpos : 0 < t.length := List.length_pos_iff.mpr hne
    exact ⟨acc ++ [a], by simp, hG a t' hp, f, (show t'.length ≤ f by omega), hfl⟩
theorem FlowO.keep {w w' : World} {B : Nat} {I : List FIn} {vi : Value} {J : List FJob} {vj : Value} {O : List FOut} {vo : Value} (h : FlowO w B I vi J vj O vo) (hb : Below w.heap.size w w') : FlowO w' B I vi J vj O vo := h.imp (fun e z n v xs h => h.kept (grown_below hb none) (by cases v.ownBlock <;> simp))
theorem keeps_below {w w' : World} {B : Nat} (hb : Below w.heap.size w w') (e : TypeId) (z n : Nat) (v : Value) (xs : List Value) (h : w.ownsRow B e z v n xs) : w'.ownsRow B e z v n xs := h.kept (grown_below hb none) (by cases v.ownBlock <;> simp)
theorem InsAt.keep {w w' : World} {B : Nat} {I : List FIn} {vi : Value} (h : InsAt w B I vi) (hk : ∀ (e : TypeId) (z n : Nat) (v : Value) (xs : List Value), w.ownsRow B e z v n xs → w'.ownsRow B e z v n xs) : InsAt w' B I vi := h.imp (fun e z n v xs _ hh => hk e z n v xs hh)
/-- The world behind both results. -/
def resW (w : World) (H : Nat) (a b c e p : Value) : World := (((((w.setCell ⟨H, 0, none⟩ a).setCell ⟨H, 1, none⟩ b).setCell ⟨H, 2, none⟩ c).setCell ⟨H + 1, 0, none⟩ e).setCell ⟨H + 1, 1, none⟩ p).drew
theorem res_w {w w1 : World} {x0 x1 x2 y0 y1 : Value} (hb : Below w.heap.size w w1) (r1 : Box w1 w.heap.size [x0, x1, x2]) (r2 : Box w1 (w.heap.size + 1) [y0, y1]) (a b c e p : Value) :
    Box (resW w1 w.heap.size a b c e p) w.heap.size [a, b, c] ∧ Box (resW w1 w.heap.size a b c e p) (w.heap.size + 1) [e, p] ∧ Below w.heap.size w (resW w1 w.heap.size a b c e p) ∧ ∀ B, w.heap.size + 2 ≤ B → ∀ (t : TypeId) (z n : Nat) (v : Value) (xs : List Value), w1.ownsRow B t z v n xs → (resW w1 w.heap.size a b c e p).ownsRow B t z v n xs := by
  refine ⟨?_, ?_, ?_, ?_⟩
  · exact (((((r1.set 0 a).set 1 b).set 2 c).other (k' := w.heap.size + 1) 0 e (by omega)).other (k' := w.heap.size + 1) 1 p (by omega)).below (Below.refl _ _).drew
  · exact ((((r2.other (k' := w.heap.size) 0 a (by omega)).other (k' := w.heap.size) 1 b (by omega)).other (k' := w.heap.size) 2 c (by omega)).set 0 e |>.set 1 p).below (Below.refl _ _).drew
  · exact (((((hb.setCell (p := ⟨w.heap.size, 0, none⟩) (Nat.le_refl _) a).setCell (p := ⟨w.heap.size, 1, none⟩) (Nat.le_refl _) b).setCell (p := ⟨w.heap.size, 2, none⟩) (Nat.le_refl _) c).setCell (p := ⟨w.heap.size + 1, 0, none⟩) (by show w.heap.size ≤ w.heap.size + 1; omega) e).setCell (p := ⟨w.heap.size + 1, 1, none⟩) (by show w.heap.size ≤ w.heap.size + 1; omega) p).drew
  · intro B hB t z n v xs h
    exact (ownsRow_setCell_below (ownsRow_setCell_below (ownsRow_setCell_below (ownsRow_setCell_below (ownsRow_setCell_below h (a := ⟨w.heap.size, 0, none⟩) (by show w.heap.size < _; omega) a) (a := ⟨w.heap.size, 1, none⟩) (by show w.heap.size < _; omega) b) (a := ⟨w.heap.size, 2, none⟩) (by show w.heap.size < _; omega) c) (a := ⟨w.heap.size + 1, 0, none⟩) (by show w.heap.size + 1 < _; omega) e) (a := ⟨w.heap.size + 1, 1, none⟩) (by show w.heap.size + 1 < _; omega) p).drew
theorem results_cell2 {fn : Func} {p q : Tmp} {t1 t2 : TypeId} (h : fn.results = #[.cell p t1, .cell q t2]) (tmps : Array Value) (P : Program) (w : World) {a b : Addr} {v u : Value} (ha : tmps.getD p undef = .pointer (some a)) (hb : tmps.getD q undef = .pointer (some b)) (hl : (loadVar t1 a).run P w = .ok v w) (hm : (loadVar t2 b).run P w = .ok u w) :
    (results fn tmps).run P w = .ok (.tuple #[v, u]) w := by
  have e : (results fn tmps).run P w = ((asAddr (tmps.getD p undef)).run P w).andThen fun a w₁ => ((loadVar t1 a).run P w₁).andThen fun v w₂ => ((asAddr (tmps.getD q undef)).run P w₂).andThen fun b w₃ => ((loadVar t2 b).run P w₃).andThen fun u w₄ => .ok (.tuple #[v, u]) w₄ := by
    simp only [results, h]
    simp [Sem.run_bind, Result.andThen]
  rw [e, ha, hb]
  simp [asAddr, Result.andThen, hl, hm]
theorem load_flow {w : World} {H : Nat} {a b c : Value} (h : Box w H [a, b, c]) : (loadVar 31 ⟨H, 0, none⟩).run Tryz.prog w = .ok (.agg #[a, b, c]) w := run_loadVar_mid w H 0 _ [a, b, c] _ h.range Tryz.underlying31 rfl (by kernel_rfl)
theorem load_fault {w : World} {H : Nat} {a b : Value} (h : Box w H [a, b]) : (loadVar 34 ⟨H, 0, none⟩).run Tryz.prog w = .ok (.agg #[a, b]) w := run_loadVar_mid w H 0 _ [a, b] _ h.range Tryz.underlying34 rfl (by kernel_rfl)
/-- What Parse comes to. -/
def PRes (r : Except (Int × Nat) Flw) (e : Ending) (B : Nat) (w' : World) : Prop :=
  (∃ f vi vj vo, r = .ok f ∧ e = .returned (.tuple #[.agg #[vi, vj, vo], .agg #[.int .i64 0, .int .i64 (-1)]]) ∧ FlowO w' B f.ins vi f.jobs vj f.outs vo) ∨
  (∃ er : Int × Nat, r = .error er ∧ e = .returned (.tuple #[.agg #[.slice none 0 0, .slice none 0 0, .slice none 0 0], .agg #[.int .i64 er.1, .int .i64 (er.2 : Nat)]]))
end Go.Proofs.YtedflhiflomoeaaGreatDoor

