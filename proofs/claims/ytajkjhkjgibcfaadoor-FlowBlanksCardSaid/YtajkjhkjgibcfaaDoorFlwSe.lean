import Derived.Test.YtajkjhkjgibcfaaDoorFlwRw
set_option linter.unusedSimpArgs false
set_option linter.unusedVariables false
namespace Go.Proofs.YtajkjhkjgibcfaaDoor
open Go.RowKit

/-- A token with the blanks ahead of it. -/
abbrev Sp := By × Nat × By
def ktS (S : List Sp) : List Kt := S.map (·.2)
def tx (S : List Sp) : By := S.flatMap fun t => t.1 ++ t.2.2
theorem ktS_app (S M : List Sp) : ktS (S ++ M) = ktS S ++ ktS M := by simp [ktS]
theorem tx_app (S M : List Sp) : tx (S ++ M) = tx S ++ tx M := by simp [tx]
theorem tx_cons (t : Sp) (M : List Sp) : tx (t :: M) = t.1 ++ t.2.2 ++ tx M := by simp [tx]
theorem spell_tx : ∀ (S : List Sp) (e : By), spell S e = tx S ++ e
  | [], e => rfl
  | t :: S, e => by rw [spell, spell_tx S e, tx_cons]; simp
/-- Which token may stand right behind which. -/
def Ti (k k' : Nat) : Prop := (k = 0 → k' = 3) ∧ (k = 1 → k' = 3) ∧ (k = 3 → k' = 0 ∨ k' = 1)
def hdS (S : List Sp) (d : By × Nat) : By × Nat := match S with | [] => d | t :: _ => (t.1, t.2.1)
def Fo (k : Nat) (d : By × Nat) : Prop := d.1 ≠ [] ∨ Ti k d.2
def Bl (b : By) : Prop := ∀ c ∈ b, blankB c = true
/-- Tokens that stand well one behind the other. -/
def GS : List Sp → By × Nat → Prop
  | [], _ => True
  | t :: l, d => Bl t.1 ∧ WT t.2.1 t.2.2 ∧ Fo t.2.1 (hdS l d) ∧ GS l d
theorem hdS_app (l m : List Sp) (d : By × Nat) : hdS (l ++ m) d = hdS l (hdS m d) := by cases l <;> rfl
theorem GS.app : ∀ {l m : List Sp} {d : By × Nat}, GS l (hdS m d) → GS m d → GS (l ++ m) d
  | [], m, d, _, h => h
  | t :: l, m, d, ⟨h1, h2, h3, h4⟩, h => ⟨h1, h2, by show Fo _ (hdS (l ++ m) d); rw [hdS_app]; exact h3, h4.app h⟩
theorem bl_byte {c : UInt8} (h : blankB c = true) : lowdigB c = false ∧ digB c = false ∧ c ≠ 61 ∧ c ≠ 62 := by
  simp [blankB] at h
  rcases h with rfl | rfl <;> decide
theorem bl_ends {b r : By} {k : Nat} (h : Bl b) (hb : b ≠ []) : EndsAt k (b ++ r) := by
  cases b with
  | nil => exact absurd rfl hb
  | cons c y =>
    have := bl_byte (h c List.mem_cons_self)
    exact Or.inr ⟨c, y ++ r, rfl, fun _ => this.1, fun _ => this.2.1, fun _ => this.2.2⟩
theorem low_byte {c : UInt8} (h : lowB c = true) : c ≠ 61 ∧ c ≠ 62 := by
  constructor <;> (rintro rfl; simp [lowB] at h)
theorem dig_byte {c : UInt8} (h : digB c = true) : c ≠ 61 ∧ c ≠ 62 := by
  constructor <;> (rintro rfl; simp [digB] at h)
theorem wt_ends {k k' : Nat} {x r : By} (h : Ti k k') (hx : WT k' x) : EndsAt k (x ++ r) := by
  rcases hx with ⟨rfl, c, y, rfl, hc, hy⟩ | ⟨rfl, hne, hd⟩ | ⟨rfl, l, rfl, hl⟩ | ⟨rfl, hm⟩
  · exact Or.inr ⟨c, y ++ r, rfl, fun e => absurd (h.1 e) (by decide), fun e => absurd (h.2.1 e) (by decide), fun _ => low_byte hc⟩
  · cases x with
    | nil => exact absurd rfl hne
    | cons c y => exact Or.inr ⟨c, y ++ r, rfl, fun e => absurd (h.1 e) (by decide), fun e => absurd (h.2.1 e) (by decide), fun _ => dig_byte (hd c List.mem_cons_self)⟩
  · exact Or.inr ⟨39, _, rfl, fun e => absurd (h.1 e) (by decide), fun e => absurd (h.2.1 e) (by decide), fun e => absurd (h.2.2 e) (by decide)⟩
  · have h3 : k = 3 → ∀ c : UInt8, c ≠ 61 ∧ c ≠ 62 := fun e => absurd (h.2.2 e) (by decide)
    simp only [marksL, List.mem_cons, List.not_mem_nil, or_false] at hm
    rcases hm with rfl | rfl | rfl | rfl | rfl | rfl | rfl | rfl | rfl | rfl | rfl | rfl | rfl <;> exact Or.inr ⟨_, _, rfl, fun _ => by decide, fun _ => by decide, fun e => h3 e _⟩
theorem GS.spelt : ∀ {S : List Sp} {e : By}, GS S (e, 9) → Bl e → e ≠ [] → Spelt S e
  | [], e, _, he, _ => he
  | t :: S, e, ⟨h1, h2, h3, h4⟩, he, hn => by
    refine ⟨h1, h2, ?_, h4.spelt he hn⟩
    cases S with
    | nil =>
      have := bl_ends (r := []) (k := t.2.1) he hn
      rwa [List.append_nil] at this
    | cons u S =>
      obtain ⟨k1, k2, -, -⟩ := h4
      by_cases hu : u.1 = []
      · have ht : Ti t.2.1 u.2.1 := by
          rcases h3 with h3 | h3
          · exact absurd hu h3
          · exact h3
        have := wt_ends (r := spell S e) ht k2
        show EndsAt _ (u.1 ++ (u.2.2 ++ spell S e))
        rw [hu]
        exact this
      · exact bl_ends k1 hu
/-- The same tokens behind other blanks. -/
def Blk (S S' : List Sp) : Prop := ktS S = ktS S'
inductive Re : List Sp → List Sp → Prop
  | nil : Re [] []
  | cons {b b' : By} {k : Nat} {x : By} {S S' : List Sp} : Bl b' → (b = [] ↔ b' = []) → Re S S' → Re ((b, k, x) :: S) ((b', k, x) :: S')
theorem Re.kt {S S' : List Sp} (h : Re S S') : ktS S' = ktS S := by
  induction h with
  | nil => rfl
  | cons _ _ _ ih => simp only [ktS, List.map_cons] at ih ⊢; rw [ih]
theorem Re.gs {S S' : List Sp} (h : Re S S') : ∀ {e e' : By} {n : Nat}, GS S (e, n) → (e = [] ↔ e' = []) → GS S' (e', n) := by
  induction h with
  | nil => intros; trivial
  | @cons b b' k x S S' hb he hr ih =>
    rintro e e' n ⟨h1, h2, h3, h4⟩ hee
    refine ⟨hb, h2, ?_, ih h4 hee⟩
    dsimp only at h3 ⊢
    cases hr with
    | nil =>
      rcases h3 with h3 | h3
      · exact Or.inl fun e0 => h3 (hee.2 e0)
      · exact Or.inr h3
    | cons _ g _ =>
      rcases h3 with h3 | h3
      · exact Or.inl fun e0 => h3 (g.2 e0)
      · exact Or.inr h3
/-- Tokens of a text are whole. -/
theorem first_wt {l : By} {k n : Nat} (h : firstL l = some (k, n)) : WT k (l.take n) := by
  have hrun : ∀ (p : UInt8 → Bool) (l : By), l.take (runL p l) = l.takeWhile p := by
    intro p l
    induction l with
    | nil => rfl
    | cons a l ih =>
      unfold runL at ih ⊢
      by_cases ha : p a = true
      · simp [List.takeWhile_cons, ha, ih]
      · simp [List.takeWhile_cons, ha]
  have htw : ∀ (p : UInt8 → Bool) (l : By), ∀ d ∈ l.takeWhile p, p d = true := by
    intro p l
    induction l with
    | nil => simp
    | cons a l ih =>
      intro d hd
      by_cases ha : p a = true
      · simp [List.takeWhile_cons, ha] at hd
        rcases hd with rfl | hd
        · exact ha
        · exact ih d hd
      · simp [List.takeWhile_cons, ha] at hd
  cases l with
  | nil => cases h
  | cons c r =>
    simp only [firstL] at h
    split at h
    · rename_i hc
      injection h with h
      injection h with h1 h2
      subst h1 h2
      rw [hrun]
      refine Or.inl ⟨rfl, c, r.takeWhile lowdigB, ?_, hc, htw _ _⟩
      simp [List.takeWhile_cons, lowdigB, hc]
    · split at h
      · rename_i hc
        injection h with h
        injection h with h1 h2
        subst h1 h2
        rw [hrun]
        exact Or.inr (Or.inl ⟨rfl, by simp [List.takeWhile_cons, hc], htw _ _⟩)
      · split at h
        · rename_i hc
          have hc : c = 39 := by simpa using hc
          subst hc
          cases hf : r.findIdx? (· == 39) with
          | none => rw [hf] at h; cases h
          | some m =>
            rw [hf] at h
            simp only [Option.map_some, Option.some.injEq, Prod.mk.injEq] at h
            obtain ⟨rfl, rfl⟩ := h
            obtain ⟨hm, h1, h2⟩ := List.findIdx?_eq_some_iff_getElem.1 hf
            refine Or.inr (Or.inr (Or.inl ⟨rfl, r.take m, ?_, ?_⟩))
            · rw [show m + 2 = (m + 1) + 1 from rfl, List.take_succ_cons, List.take_add_one, List.getElem?_eq_getElem hm]
              have : r[m] = 39 := by simpa using h1
              simp [this]
            · intro hmem
              obtain ⟨i, hi, he⟩ := List.getElem_of_mem hmem
              simp at hi
              have := h2 i (by omega)
              simp at he this
              exact this he
        · cases hf : marksL.find? (fun m => m.isPrefixOf (c :: r)) with
          | none => rw [hf] at h; cases h
          | some m =>
            rw [hf] at h
            simp only [Option.map_some, Option.some.injEq, Prod.mk.injEq] at h
            obtain ⟨rfl, rfl⟩ := h
            have h1 := List.find?_some hf
            have h2 := List.mem_of_find?_eq_some hf
            obtain ⟨z, hz⟩ := List.isPrefixOf_iff_prefix.1 h1
            rw [← hz, List.take_left]
            exact Or.inr (Or.inr (Or.inr ⟨rfl, h2⟩))
theorem toks_wt : ∀ (f : Nat) (l : By) (p n : Nat) (ts : List Tk), toksL f l p n = .ok ts → ∀ t ∈ ts, WT t.1 t.2.1
  | 0, l, p, n, ts, h => by
    simp only [toksL, Except.ok.injEq] at h
    subst h
    simp
  | f + 1, l, p, n, ts, h => by
    unfold toksL at h
    split at h
    · simp only [Except.ok.injEq] at h
      subst h
      simp
    · split at h
      · cases h
      · rename_i k len hf
        split at h
        · cases h
        · split at h
          · cases h
          · rename_i us hu
            simp only [Except.ok.injEq] at h
            subst h
            intro t ht
            rcases List.mem_cons.1 ht with rfl | ht
            · exact first_wt hf
            · exact toks_wt f _ _ _ us hu t ht
/-- Tokens, the end behind them. -/
def NW (ts : List Tk) : Prop := ∃ us p, ts = us ++ [(4, [], p)] ∧ ∀ u ∈ us, WT u.1 u.2.1
theorem NW.next {ts : List Tk} (h : NW ts) (ht : textT ts ≠ [] ∨ kindT ts ≠ 4) : WT (kindT ts) (textT ts) ∧ NW ts.tail ∧ ts.tail.length + 1 = ts.length := by
  obtain ⟨us, p, rfl, hu⟩ := h
  cases us with
  | nil => rcases ht with ht | ht <;> exact absurd rfl ht
  | cons u us => exact ⟨hu u List.mem_cons_self, ⟨us, p, rfl, fun v hv => hu v (List.mem_cons_of_mem _ hv)⟩, by simp⟩
theorem NW.pos {ts : List Tk} (h : NW ts) : 1 ≤ ts.length := by
  obtain ⟨us, p, rfl, hu⟩ := h
  simp
theorem tokens_nw {l : By} {ts : List Tk} (hl : l.length ≤ 1000000) (h : tokensL l = .ok ts) : NW ts ∧ ts.length ≤ 401 := by
  unfold tokensL at h
  cases hk : toksL (l.length + 1) l 0 0 with
  | error e => rw [hk] at h; cases h
  | ok us =>
    rw [hk] at h
    simp only [Except.ok.injEq] at h
    subst h
    obtain ⟨h2, -⟩ := toks_good _ l 0 0 us l.length hk (by omega) (by omega)
    exact ⟨⟨us, l.length, rfl, toks_wt _ _ _ _ _ hk⟩, by simp; omega⟩
end Go.Proofs.YtajkjhkjgibcfaaDoor

namespace Go.Proofs.YtajkjhkjgibcfaaDoor
open Go.RowKit

def Nm (x : By) : Prop := x.length ≤ 10 ∧ WT 0 x
theorem bl0 : Bl [] := by simp [Bl]
theorem bl32 : Bl [32] := by simp [Bl, blankB]
theorem bl10 : Bl [10] := by simp [Bl, blankB]
theorem ti03 : Ti 0 3 := ⟨fun _ => rfl, fun h => absurd h (by decide), fun h => absurd h (by decide)⟩
theorem ti13 : Ti 1 3 := ⟨fun h => absurd h (by decide), fun _ => rfl, fun h => absurd h (by decide)⟩
theorem ti23 : Ti 2 3 := ⟨fun h => absurd h (by decide), fun h => absurd h (by decide), fun h => absurd h (by decide)⟩
theorem ti30 : Ti 3 0 := ⟨fun h => absurd h (by decide), fun h => absurd h (by decide), fun _ => Or.inl rfl⟩
theorem ti31 : Ti 3 1 := ⟨fun h => absurd h (by decide), fun h => absurd h (by decide), fun _ => Or.inr rfl⟩
theorem wm {x : By} (h : x ∈ marksL) : WT 3 x := Or.inr (Or.inr (Or.inr ⟨rfl, h⟩))
def isW (x : By) : Bool := match x with | c :: r => lowB c && r.all lowdigB | [] => false
theorem ww {x : By} (h : isW x = true) : WT 0 x := by
  cases x with
  | nil => cases h
  | cons c r =>
    simp only [isW, Bool.and_eq_true, List.all_eq_true] at h
    exact Or.inl ⟨rfl, c, r, rfl, h.1, h.2⟩
/-- What follows a name, a value: a blank, or a mark. -/
def Nx (d : By × Nat) : Prop := d.1 ≠ [] ∨ d.2 = 3
theorem Nx.f0 {d : By × Nat} (h : Nx d) : Fo 0 d := h.imp id fun e => by rw [e]; exact ti03
theorem Nx.f1 {d : By × Nat} (h : Nx d) : Fo 1 d := h.imp id fun e => by rw [e]; exact ti13
theorem Nx.f2 {d : By × Nat} (h : Nx d) : Fo 2 d := h.imp id fun e => by rw [e]; exact ti23
def nmS (l : List By) : List Sp := l.flatMap fun y => [([], 3, [44]), ([32], 0, y)]
theorem nmS_cons (x : By) (l : List By) : nmS (x :: l) = ([], 3, [44]) :: ([32], 0, x) :: nmS l := rfl
theorem nmS_kt : ∀ l, ktS (nmS l) = namesK l
  | [] => rfl
  | x :: l => by rw [nmS_cons, namesK, ← nmS_kt l]; rfl
theorem nmS_tx : ∀ (l : List By), tx (nmS l) = Lib.joinTail [44, 32] l
  | [] => rfl
  | x :: l => by rw [nmS_cons, tx_cons, tx_cons, nmS_tx l]; simp [Lib.joinTail]
theorem nmS_list (x : By) (l : List By) : x ++ tx (nmS l) = listL (x :: l) := by rw [nmS_tx, listL, Lib.join_cons]
theorem nmS_len : ∀ l, (nmS l).length = 2 * l.length
  | [] => rfl
  | x :: l => by rw [nmS_cons]; simp only [List.length_cons, nmS_len l]; omega
theorem nmS_nx (l : List By) {d : By × Nat} (h : Nx d) : Nx (hdS (nmS l) d) := by
  cases l with
  | nil => exact h
  | cons x l => exact Or.inr rfl
theorem nmS_gs : ∀ (l : List By) {d : By × Nat}, (∀ x ∈ l, Nm x) → Nx d → GS (nmS l) d
  | [], d, _, _ => trivial
  | x :: l, d, h, hd => ⟨bl0, wm (by decide), Or.inl (List.cons_ne_nil _ _), bl32, (h x List.mem_cons_self).2, (nmS_nx l hd).f0, nmS_gs l (fun y hy => h y (List.mem_cons_of_mem _ hy)) hd⟩
def argS (a : Ag) : List Sp :=
  if a.1 ≠ [] then [([32], 0, a.1)] else if a.2.1 = 1 then (if a.2.2.1 < 0 then [([32], 3, [45]), ([], 1, Lib.decDigits a.2.2.1.natAbs)] else [([32], 1, Lib.decDigits a.2.2.1.toNat)]) else [([32], 2, 39 :: (a.2.2.2 ++ [39]))]
def AgG (a : Ag) : Prop := (a.1 ≠ [] ∧ Nm a.1 ∧ a.2 = (0, 0, [])) ∨ (a.1 = [] ∧ a.2.1 = 2 ∧ a.2.2.1 = 0 ∧ rightValueB 2 0 a.2.2.2 = true ∧ (39 : UInt8) ∉ a.2.2.2) ∨ (a.1 = [] ∧ a.2.1 = 1 ∧ -1000000000 ≤ a.2.2.1 ∧ a.2.2.1 ≤ 1000000000 ∧ a.2.2.2 = [])
theorem AgG.rd {a : Ag} (h : AgG a) : AgRead a := by
  rcases h with ⟨h1, h2, h3⟩ | ⟨h1, h2, h3, h4, -⟩ | h
  · exact Or.inl ⟨h1, h2.1, h3⟩
  · exact Or.inr (Or.inl ⟨h1, h2, h3, h4⟩)
  · exact Or.inr (Or.inr h)
theorem argS_kt (a : Ag) : ktS (argS a) = argK a := by
  unfold argS argK
  split
  · rfl
  · split
    · split <;> rfl
    · rfl
theorem argS_hd (a : Ag) (d : By × Nat) : (hdS (argS a) d).1 = [32] := by
  unfold argS
  split
  · rfl
  · split
    · split <;> rfl
    · rfl
theorem itoa_neg {n : Int} (h : n < 0) : Lib.itoa n = 45 :: Lib.decDigits n.natAbs := by unfold Lib.itoa; rw [if_pos h]
theorem itoa_pos {n : Int} (h : ¬ n < 0) : Lib.itoa n = Lib.decDigits n.toNat := by unfold Lib.itoa; rw [if_neg h]
theorem argS_tx {a : Ag} (h : AgG a) : tx (argS a) = 32 :: argL a := by
  unfold argS argL
  rcases h with ⟨h1, -, -⟩ | ⟨h1, h2, -⟩ | ⟨h1, h2, -⟩
  · rw [if_pos h1, if_neg h1]; simp [tx]
  · rw [if_neg (by simp [h1]), if_pos h1, if_neg (by rw [h2]; decide)]
    simp [tx, valueL, h2]
  · rw [if_neg (by simp [h1]), if_pos h1, if_pos h2]
    split
    · rename_i hn
      simp [tx, valueL, h2, itoa_neg hn]
    · rename_i hn
      simp [tx, valueL, h2, itoa_pos hn]
theorem dec_wt (u : Nat) : WT 1 (Lib.decDigits u) := Or.inr (Or.inl ⟨rfl, dec_ne u, fun d hd => by have := dec_digits u d hd; simp [digB]; omega⟩)
theorem argS_gs {a : Ag} (h : AgG a) {d : By × Nat} (hd : Nx d) : GS (argS a) d := by
  unfold argS
  rcases h with ⟨h1, h2, -⟩ | ⟨h1, h2, -, -, h3⟩ | ⟨h1, h2, -⟩
  · rw [if_pos h1]; exact ⟨bl32, h2.2, hd.f0, trivial⟩
  · rw [if_neg (by simp [h1]), if_neg (by rw [h2]; decide)]
    exact ⟨bl32, Or.inr (Or.inr (Or.inl ⟨rfl, _, rfl, h3⟩)), hd.f2, trivial⟩
  · rw [if_neg (by simp [h1]), if_pos h2]
    split
    · exact ⟨bl32, wm (by decide), Or.inr ti31, bl0, dec_wt _, hd.f1, trivial⟩
    · exact ⟨bl32, dec_wt _, hd.f1, trivial⟩
/-- What a job's body may be, and its tokens, with blanks. -/
inductive BodyG : Int → List By → List By → By → Ag → Ag → List Sp → Prop
  | test {c : Int} {i l op : By} {r : Ag} : (c = 1 ∨ c = 9) → Nm i → Nm l → op ∈ cmpL → AgG r → BodyG c [i] [] op (l, 0, 0, []) r ([([32], 0, verbW c), ([32], 0, i), ([32], 0, wWhere), ([32], 0, l), ([32], 3, op)] ++ argS r)
  | set {i n op : By} {l r : Ag} : Nm i → Nm n → op ∈ ariL → AgG l → AgG r → BodyG 2 [i] [n] op l r ([([32], 0, verbW 2), ([32], 0, i), ([], 3, [58]), ([32], 0, n), ([32], 3, [61])] ++ (argS l ++ ([([32], 3, op)] ++ argS r)))
  | list {c : Int} {i x : By} {l : List By} : (c = 3 ∨ c = 4) → Nm i → Nm x → (∀ y ∈ l, Nm y) → BodyG c [i] (x :: l) [] agg0 agg0 ([([32], 0, verbW c), ([32], 0, i), ([32], 0, wBy), ([32], 0, x)] ++ nmS l)
  | union {i n : By} : Nm i → Nm n → BodyG 5 [i, n] [] [] agg0 agg0 [([32], 0, verbW 5), ([32], 0, i), ([], 3, [44]), ([32], 0, n)]
  | dist {i : By} : Nm i → BodyG 6 [i] [] [] agg0 agg0 [([32], 0, verbW 6), ([32], 0, i)]
  | join {i a j b : By} : Nm i → Nm a → Nm j → Nm b → BodyG 7 [i, j] [a, b] [] agg0 agg0 [([32], 0, verbW 7), ([32], 0, i), ([], 3, [46]), ([], 0, a), ([], 3, [44]), ([32], 0, j), ([], 3, [46]), ([], 0, b)]
  | group {i a op b : By} : Nm i → Nm a → op ∈ [wSum, wMax] → Nm b → BodyG 8 [i] [a, b] op agg0 agg0 [([32], 0, verbW 8), ([32], 0, i), ([32], 0, wBy), ([32], 0, a), ([32], 0, op), ([32], 0, b)]
theorem BodyG.rd {c : Int} {ins cols : List By} {op : By} {l r : Ag} {S : List Sp} (h : BodyG c ins cols op l r S) : ∃ K, BodyRd c ins cols op l r K ∧ K = ktS S := by
  cases h with
  | test hc hi hl hop hr => exact ⟨_, BodyRd.test hc hi.1 hl.1 hop hr.rd, by rw [ktS_app, argS_kt]; rfl⟩
  | set hi hn hop hl hr => exact ⟨_, BodyRd.set hi.1 hn.1 hop hl.rd hr.rd, by rw [ktS_app, ktS_app, ktS_app, argS_kt, argS_kt]; rfl⟩
  | list hc hi hx hl => exact ⟨_, BodyRd.list hc hi.1 hx.1 fun y hy => (hl y hy).1, by rw [ktS_app, nmS_kt]; rfl⟩
  | union hi hn => exact ⟨_, BodyRd.union hi.1 hn.1, rfl⟩
  | dist hi => exact ⟨_, BodyRd.dist hi.1, rfl⟩
  | join hi ha hj hb => exact ⟨_, BodyRd.join hi.1 ha.1 hj.1 hb.1, rfl⟩
  | group hi ha hop hb => exact ⟨_, BodyRd.group hi.1 ha.1 hop hb.1, rfl⟩
theorem cmp_mark {x : By} (h : x ∈ cmpL) : x ∈ marksL := by revert h; revert x; decide
theorem ari_mark {x : By} (h : x ∈ ariL) : x ∈ marksL := by revert h; revert x; decide
theorem verb_wt {c : Int} (h : c = 1 ∨ c = 2 ∨ c = 3 ∨ c = 4 ∨ c = 5 ∨ c = 6 ∨ c = 7 ∨ c = 8 ∨ c = 9) : WT 0 (verbW c) := by
  rcases h with rfl | rfl | rfl | rfl | rfl | rfl | rfl | rfl | rfl <;> exact ww (by decide)
theorem op_wt {x : By} (h : x ∈ [wSum, wMax]) : WT 0 x := by
  simp only [List.mem_cons, List.not_mem_nil, or_false] at h
  rcases h with rfl | rfl <;> exact ww (by decide)
theorem fb {k : Nat} {d : By × Nat} (h : d.1 = [32]) : Fo k d := Or.inl (by rw [h]; exact List.cons_ne_nil _ _)
theorem BodyG.gs {c : Int} {ins cols : List By} {op : By} {l r : Ag} {S : List Sp} (h : BodyG c ins cols op l r S) {d : By × Nat} (hd : Nx d) : GS S d := by
  have b : ∀ {k : Nat} {x : UInt8} {y : By} {n : Nat}, Fo k (x :: y, n) := fun {k x y n} => Or.inl (List.cons_ne_nil _ _)
  cases h with
  | test hc hi hl hop hr =>
    exact GS.app (d := d) ⟨bl32, verb_wt (by rcases hc with rfl | rfl <;> decide), b, bl32, hi.2, b, bl32, ww (by decide), b, bl32, hl.2, b, bl32, wm (cmp_mark hop), fb (argS_hd _ _), trivial⟩ (argS_gs hr hd)
  | set hi hn hop hl hr =>
    exact GS.app (d := d) ⟨bl32, verb_wt (c := 2) (by decide), b, bl32, hi.2, Or.inr ti03, bl0, wm (by decide), b, bl32, hn.2, b, bl32, wm (by decide), fb (by rw [hdS_app]; exact argS_hd _ _), trivial⟩ (GS.app (argS_gs hl (Or.inl (List.cons_ne_nil _ _))) ⟨bl32, wm (ari_mark hop), fb (argS_hd _ _), argS_gs hr hd⟩)
  | list hc hi hx hl =>
    exact GS.app (d := d) ⟨bl32, verb_wt (by rcases hc with rfl | rfl <;> decide), b, bl32, hi.2, b, bl32, ww (by decide), b, bl32, hx.2, (nmS_nx _ hd).f0, trivial⟩ (nmS_gs _ hl hd)
  | union hi hn => exact ⟨bl32, verb_wt (c := 5) (by decide), b, bl32, hi.2, Or.inr ti03, bl0, wm (by decide), b, bl32, hn.2, hd.f0, trivial⟩
  | dist hi => exact ⟨bl32, verb_wt (c := 6) (by decide), b, bl32, hi.2, hd.f0, trivial⟩
  | join hi ha hj hb => exact ⟨bl32, verb_wt (c := 7) (by decide), b, bl32, hi.2, Or.inr ti03, bl0, wm (by decide), Or.inr ti30, bl0, ha.2, Or.inr ti03, bl0, wm (by decide), b, bl32, hj.2, Or.inr ti03, bl0, wm (by decide), Or.inr ti30, bl0, hb.2, hd.f0, trivial⟩
  | group hi ha hop hb => exact ⟨bl32, verb_wt (c := 8) (by decide), b, bl32, hi.2, b, bl32, ww (by decide), b, bl32, ha.2, b, bl32, op_wt hop, b, bl32, hb.2, hd.f0, trivial⟩
theorem BodyG.tx {c : Int} {ins cols : List By} {op : By} {l r : Ag} {S : List Sp} (h : BodyG c ins cols op l r S) (at_ : Nat) (outs : List By) (rt : Int) : Go.Proofs.YtajkjhkjgibcfaaDoor.tx S = 32 :: jobL ⟨at_, c, outs, ins, cols, op, l, r, rt⟩ := by
  cases h with
  | @test c i l op r hc hi hl hop hr =>
    have hl0 : argL (l, 0, 0, []) = l := by
      obtain ⟨c0, y, hy, -⟩ := hl.2.ne
      unfold argL
      rw [if_neg (by rw [hy]; simp)]
    rw [tx_app, argS_tx hr]
    have : jobL ⟨at_, c, outs, [i], [], op, (l, 0, 0, []), r, rt⟩ = verbW c ++ [32] ++ i ++ ([32] ++ wWhere ++ [32] ++ l ++ [32] ++ op ++ [32] ++ argL r) := by
      show verbW c ++ [32] ++ i ++ (if c = 1 ∨ c = 9 then [32] ++ wWhere ++ [32] ++ argL (l, 0, 0, []) ++ [32] ++ op ++ [32] ++ argL r else _) = _
      rw [if_pos hc, hl0]
    rw [this]
    simp [Go.Proofs.YtajkjhkjgibcfaaDoor.tx]
  | @set i n op l r hi hn hop hl hr =>
    rw [tx_app, tx_app, tx_app, argS_tx hl, argS_tx hr]
    simp [Go.Proofs.YtajkjhkjgibcfaaDoor.tx, jobL, nthL]
  | @list c i x l hc hi hx hl =>
    rw [tx_app]
    have : jobL ⟨at_, c, outs, [i], x :: l, [], agg0, agg0, rt⟩ = verbW c ++ [32] ++ i ++ ([32] ++ wBy ++ [32] ++ listL (x :: l)) := by
      rcases hc with rfl | rfl <;> rfl
    rw [this, ← nmS_list]
    simp [tx_cons]
    simp [Go.Proofs.YtajkjhkjgibcfaaDoor.tx]
  | union hi hn => simp [Go.Proofs.YtajkjhkjgibcfaaDoor.tx, jobL, nthL]
  | dist hi => simp [Go.Proofs.YtajkjhkjgibcfaaDoor.tx, jobL, nthL]
  | join hi ha hj hb => simp [Go.Proofs.YtajkjhkjgibcfaaDoor.tx, jobL, nthL]
  | group hi ha hop hb => simp [Go.Proofs.YtajkjhkjgibcfaaDoor.tx, jobL, nthL]
end Go.Proofs.YtajkjhkjgibcfaaDoor

namespace Go.Proofs.YtajkjhkjgibcfaaDoor
open Go.RowKit

theorem name_g {ts : List Tk} {a : By × List Tk} (h : nameP ts = .ok a) (hn : NW ts) : Nm a.1 ∧ NW a.2 ∧ a.2.length + 1 = ts.length := by
  unfold nameP at h
  split at h
  · cases h
  · rename_i hk
    split at h
    · cases h
    · injection h with h
      subst h
      have hk : kindT ts = 0 := by simpa using hk
      have := hn.next (Or.inr (by rw [hk]; decide))
      rw [hk] at this
      exact ⟨⟨by dsimp only; omega, this.1⟩, this.2⟩
theorem must_g {x : By} {ts : List Tk} {a : Nat × List Tk} (hx : x ≠ []) (h : mustP x ts = .ok a) (hn : NW ts) : NW a.2 ∧ a.2.length + 1 = ts.length := by
  unfold mustP at h
  split at h
  · rename_i ht
    injection h with h
    subst h
    exact (hn.next (Or.inl (by rw [ht]; exact hx))).2
  · cases h
theorem oneOf_g {xs : List By} {ts : List Tk} {a : By × List Tk} (hx : [] ∉ xs) (h : oneOfP xs ts = .ok a) (hn : NW ts) : a.1 ∈ xs ∧ NW a.2 ∧ a.2.length + 1 = ts.length := by
  unfold oneOfP at h
  split at h
  · rename_i hm
    injection h with h
    subst h
    exact ⟨hm, (hn.next (Or.inl (by intro e; rw [e] at hm; exact hx hm))).2⟩
  · cases h
theorem num_g {most : Int} {ts : List Tk} {a : Int × List Tk} (h : numP most ts = .ok a) (hn : NW ts) : 0 ≤ a.1 ∧ a.1 ≤ most ∧ NW a.2 ∧ a.2.length + 1 = ts.length := by
  unfold numP at h
  split at h
  · cases h
  · rename_i hk
    split at h
    · cases h
    · injection h with h
      subst h
      have hk : kindT ts = 1 := by simpa using hk
      have := hn.next (Or.inr (by rw [hk]; decide))
      rw [hk] at this
      refine ⟨atoi_pos ?_, by dsimp only; omega, this.2⟩
      rcases this.1 with ⟨e, -⟩ | ⟨-, h1, h2⟩ | ⟨e, -⟩ | ⟨e, -⟩
      · cases e
      · cases ht : textT ts with
        | nil => simp
        | cons c r =>
          rw [ht] at h2
          have := h2 c List.mem_cons_self
          simp [digB] at this ⊢
          omega
      · cases e
      · cases e
theorem quo_g {ts : List Tk} {a : By × List Tk} (h : quoP ts = .ok a) (hn : NW ts) : rightValueB 2 0 a.1 = true ∧ (39 : UInt8) ∉ a.1 ∧ NW a.2 ∧ a.2.length + 1 = ts.length := by
  unfold quoP at h
  split at h
  · cases h
  · rename_i hk
    split at h
    · cases h
    · rename_i hr
      injection h with h
      subst h
      have hk : kindT ts = 2 := by simpa using hk
      have := hn.next (Or.inr (by rw [hk]; decide))
      rw [hk] at this
      refine ⟨by simpa using hr, ?_, this.2⟩
      rcases this.1 with ⟨e, -⟩ | ⟨e, -⟩ | ⟨-, l, h1, h2⟩ | ⟨e, -⟩
      · cases e
      · cases e
      · dsimp only
        rw [h1, show innerL (39 :: (l ++ [39])) = l by simp [innerL]]
        exact h2
      · cases e
theorem arg_g {ts : List Tk} {a : Ag × List Tk} (h : argP ts = .ok a) (hn : NW ts) : AgG a.1 ∧ NW a.2 ∧ (argS a.1).length + a.2.length ≤ ts.length := by
  unfold argP at h
  split at h
  · obtain ⟨x, hx, rfl⟩ := map_ok h
    have := name_g hx hn
    obtain ⟨c, y, hy, -⟩ := this.1.2.ne
    have hne : x.1 ≠ [] := by rw [hy]; exact List.cons_ne_nil _ _
    refine ⟨Or.inl ⟨hne, this.1, rfl⟩, this.2.1, ?_⟩
    have e : argS (x.1, 0, 0, []) = [([32], 0, x.1)] := by unfold argS; rw [if_pos hne]
    show (argS (x.1, 0, 0, [])).length + _ ≤ _
    rw [e]
    have := this.2.2
    simp only [List.length_cons, List.length_nil]
    omega
  · split at h
    · obtain ⟨x, hx, rfl⟩ := map_ok h
      have := quo_g hx hn
      refine ⟨Or.inr (Or.inl ⟨rfl, rfl, rfl, this.1, this.2.1⟩), this.2.2.1, ?_⟩
      have e : argS ([], 2, 0, x.1) = [([32], 2, 39 :: (x.1 ++ [39]))] := rfl
      show (argS ([], 2, 0, x.1)).length + _ ≤ _
      rw [e]
      have := this.2.2.2
      simp only [List.length_cons, List.length_nil]
      omega
    · split at h
      · rename_i ht
        obtain ⟨x, hx, rfl⟩ := map_ok h
        have h0 := hn.next (Or.inl (by rw [ht]; exact List.cons_ne_nil _ _))
        have := num_g hx h0.2.1
        refine ⟨Or.inr (Or.inr ⟨rfl, rfl, by dsimp only; omega, by dsimp only; omega, rfl⟩), this.2.2.1, ?_⟩
        have e : (argS ([], 1, -x.1, [])).length ≤ 2 := by
          show (if (-x.1 : Int) < 0 then _ else _ : List Sp).length ≤ 2
          split <;> simp
        have h1 := this.2.2.2
        have h2 := h0.2.2
        dsimp only at e ⊢
        omega
      · obtain ⟨x, hx, rfl⟩ := map_ok h
        have := num_g hx hn
        refine ⟨Or.inr (Or.inr ⟨rfl, rfl, by dsimp only; omega, by dsimp only; omega, rfl⟩), this.2.2.1, ?_⟩
        have e : (argS ([], 1, x.1, [])).length = 1 := by
          show (if (x.1 : Int) < 0 then _ else _ : List Sp).length = 1
          rw [if_neg (by omega)]
          rfl
        have h1 := this.2.2.2
        dsimp only at e ⊢
        omega
theorem more_g : ∀ (g : Nat) (acc : List By) (ts : List Tk) (a : List By × List Tk), moreP g acc ts = .ok a → NW ts → ∃ l, a.1 = acc ++ l ∧ (∀ x ∈ l, Nm x) ∧ NW a.2 ∧ 2 * l.length + a.2.length ≤ ts.length
  | 0, acc, ts, a, h, hn => by
    unfold moreP at h
    injection h with h
    subst h
    exact ⟨[], by simp, by simp, hn, by simp⟩
  | g + 1, acc, ts, a, h, hn => by
    unfold moreP at h
    split at h
    · rename_i ht
      obtain ⟨x, hx, h⟩ := bnd_ok h
      have h0 := hn.next (Or.inl (by rw [ht]; exact List.cons_ne_nil _ _))
      have h1 := name_g hx h0.2.1
      obtain ⟨l, h2, h3, h4, h5⟩ := more_g g _ _ a h h1.2.1
      refine ⟨x.1 :: l, by rw [h2]; simp, ?_, h4, ?_⟩
      · intro y hy
        rcases List.mem_cons.1 hy with rfl | hy
        · exact h1.1
        · exact h3 y hy
      · have := h0.2.2
        have := h1.2.2
        simp only [List.length_cons]
        omega
    · injection h with h
      subst h
      exact ⟨[], by simp, by simp, hn, by simp⟩
theorem names_g {ts : List Tk} {a : List By × List Tk} (h : namesP ts = .ok a) (hn : NW ts) : ∃ x l, a.1 = x :: l ∧ Nm x ∧ (∀ y ∈ l, Nm y) ∧ NW a.2 ∧ 1 + 2 * l.length + a.2.length ≤ ts.length := by
  obtain ⟨x, hx, h⟩ := bnd_ok h
  have h1 := name_g hx hn
  obtain ⟨l, h2, h3, h4, h5⟩ := more_g _ _ _ a h h1.2.1
  refine ⟨x.1, l, by rw [h2]; rfl, h1.1, h3, h4, ?_⟩
  have := h1.2.2
  omega
def ColG (c : By × Int) : Prop := Nm c.1 ∧ (c.2 = 1 ∨ c.2 = 2)
theorem column_g {ts : List Tk} {a : (By × Int) × List Tk} (h : columnP ts = .ok a) (hn : NW ts) : ColG a.1 ∧ NW a.2 ∧ a.2.length + 2 = ts.length := by
  obtain ⟨x, hx, h⟩ := bnd_ok h
  have h1 := name_g hx hn
  have l1 := h1.2.2
  split at h
  · rename_i ht
    injection h with h
    subst h
    have h2 := h1.2.1.next (Or.inl (by rw [ht]; exact List.cons_ne_nil _ _))
    exact ⟨⟨h1.1, Or.inl rfl⟩, h2.2.1, by have := h2.2.2; dsimp only; omega⟩
  · split at h
    · rename_i ht
      injection h with h
      subst h
      have h2 := h1.2.1.next (Or.inl (by rw [ht]; exact List.cons_ne_nil _ _))
      exact ⟨⟨h1.1, Or.inr rfl⟩, h2.2.1, by have := h2.2.2; dsimp only; omega⟩
    · cases h
theorem cols_g : ∀ (g : Nat) (acc : List (By × Int)) (ts : List Tk) (a : List (By × Int) × List Tk), colsP g acc ts = .ok a → NW ts → ∃ l, a.1 = acc ++ l ∧ (∀ x ∈ l, ColG x) ∧ NW a.2 ∧ 3 * l.length + a.2.length ≤ ts.length
  | 0, acc, ts, a, h, hn => by
    unfold colsP at h
    injection h with h
    subst h
    exact ⟨[], by simp, by simp, hn, by simp⟩
  | g + 1, acc, ts, a, h, hn => by
    unfold colsP at h
    split at h
    · rename_i ht
      obtain ⟨x, hx, h⟩ := bnd_ok h
      have h0 := hn.next (Or.inl (by rw [ht]; exact List.cons_ne_nil _ _))
      have h1 := column_g hx h0.2.1
      obtain ⟨l, h2, h3, h4, h5⟩ := cols_g g _ _ a h h1.2.1
      refine ⟨x.1 :: l, by rw [h2]; simp, ?_, h4, ?_⟩
      · intro y hy
        rcases List.mem_cons.1 hy with rfl | hy
        · exact h1.1
        · exact h3 y hy
      · have := h0.2.2
        have := h1.2.2
        simp only [List.length_cons]
        omega
    · injection h with h
      subst h
      exact ⟨[], by simp, by simp, hn, by simp⟩
theorem code_g {ts : List Tk} {a : Int × List Tk} (h : codeP ts = .ok a) (hn : NW ts) : (a.1 = 1 ∨ a.1 = 2 ∨ a.1 = 3 ∨ a.1 = 4 ∨ a.1 = 5 ∨ a.1 = 6 ∨ a.1 = 7 ∨ a.1 = 8 ∨ a.1 = 9) ∧ NW a.2 ∧ a.2.length + 1 = ts.length := by
  refine ⟨code_range (ts' := a.2) (by rw [h]), ?_⟩
  unfold codeP at h
  split at h
  · rename_i i hi
    injection h with h
    subst h
    refine (hn.next (Or.inl ?_)).2
    intro e
    rw [e] at hi
    revert hi
    decide +revert
  · cases h
theorem retry_g {ts : List Tk} {a : Int × List Tk} (h : retryP ts = .ok a) (hn : NW ts) : 0 ≤ a.1 ∧ a.1 ≤ 5 ∧ NW a.2 ∧ (if a.1 = 0 then 0 else 2) + a.2.length ≤ ts.length := by
  unfold retryP at h
  split at h
  · rename_i ht
    have h0 := hn.next (Or.inl (by rw [ht]; exact List.cons_ne_nil _ _))
    have := num_g h h0.2.1
    refine ⟨this.1, this.2.1, this.2.2.1, ?_⟩
    have h1 := this.2.2.2
    have h2 := h0.2.2
    split <;> omega
  · injection h with h
    subst h
    exact ⟨by dsimp only; omega, by dsimp only; omega, hn, by simp⟩
theorem body_g {at_ : Nat} {outs : List By} {retry : Int} {ts : List Tk} {a : FJob × List Tk} (h : bodyP at_ outs retry ts = .ok a) (hn : NW ts) : ∃ S c ins cols op l r, a.1 = ⟨at_, c, outs, ins, cols, op, l, r, retry⟩ ∧ BodyG c ins cols op l r S ∧ NW a.2 ∧ S.length + a.2.length ≤ ts.length := by
  obtain ⟨c, h1, h⟩ := bnd_ok h
  have k1 := code_g h1 hn
  obtain ⟨i, h2, h⟩ := bnd_ok h
  have k2 := name_g h2 k1.2.1
  have l1 := k1.2.2
  have l2 := k2.2.2
  split at h
  · rename_i hc
    obtain ⟨x3, h3, h⟩ := bnd_ok h
    have k3 := must_g (by decide) h3 k2.2.1
    obtain ⟨x4, h4, h⟩ := bnd_ok h
    have k4 := name_g h4 k3.1
    obtain ⟨x5, h5, h⟩ := bnd_ok h
    have k5 := oneOf_g (by decide) h5 k4.2.1
    obtain ⟨x6, h6, h⟩ := bnd_ok h
    have k6 := arg_g h6 k5.2.1
    injection h with h
    subst h
    refine ⟨_, _, _, _, _, _, _, rfl, BodyG.test hc k2.1 k4.1 k5.1 k6.1, k6.2.1, ?_⟩
    have l3 := k3.2
    have l4 := k4.2.2
    have l5 := k5.2.2
    have l6 := k6.2.2
    simp only [List.length_append, List.length_cons, List.length_nil]
    omega
  · split at h
    · rename_i hc
      obtain ⟨x3, h3, h⟩ := bnd_ok h
      have k3 := must_g (by decide) h3 k2.2.1
      obtain ⟨x4, h4, h⟩ := bnd_ok h
      have k4 := name_g h4 k3.1
      obtain ⟨x5, h5, h⟩ := bnd_ok h
      have k5 := must_g (by decide) h5 k4.2.1
      obtain ⟨x6, h6, h⟩ := bnd_ok h
      have k6 := arg_g h6 k5.1
      obtain ⟨x7, h7, h⟩ := bnd_ok h
      have k7 := oneOf_g (by decide) h7 k6.2.1
      obtain ⟨x8, h8, h⟩ := bnd_ok h
      have k8 := arg_g h8 k7.2.1
      injection h with h
      subst h
      rw [hc]
      refine ⟨_, _, _, _, _, _, _, rfl, BodyG.set k2.1 k4.1 k7.1 k6.1 k8.1, k8.2.1, ?_⟩
      have l3 := k3.2
      have l4 := k4.2.2
      have l5 := k5.2
      have l6 := k6.2.2
      have l7 := k7.2.2
      have l8 := k8.2.2
      simp only [List.length_append, List.length_cons, List.length_nil]
      omega
    · split at h
      · rename_i hc
        obtain ⟨x3, h3, h⟩ := bnd_ok h
        have k3 := must_g (by decide) h3 k2.2.1
        obtain ⟨x4, h4, h⟩ := bnd_ok h
        obtain ⟨x, l, e, k4, k5, k6, l4⟩ := names_g h4 k3.1
        injection h with h
        subst h
        rw [e]
        refine ⟨_, _, _, _, _, _, _, rfl, BodyG.list hc k2.1 k4 k5, k6, ?_⟩
        have l3 := k3.2
        simp only [List.length_append, List.length_cons, List.length_nil, nmS_len]
        omega
      · split at h
        · rename_i hc
          obtain ⟨x3, h3, h⟩ := bnd_ok h
          have k3 := must_g (by decide) h3 k2.2.1
          obtain ⟨x4, h4, h⟩ := bnd_ok h
          have k4 := name_g h4 k3.1
          injection h with h
          subst h
          rw [hc]
          refine ⟨_, _, _, _, _, _, _, rfl, BodyG.union k2.1 k4.1, k4.2.1, ?_⟩
          have l3 := k3.2
          have l4 := k4.2.2
          simp only [List.length_append, List.length_cons, List.length_nil]
          omega
        · split at h
          · rename_i hc
            obtain ⟨x3, h3, h⟩ := bnd_ok h
            have k3 := must_g (by decide) h3 k2.2.1
            obtain ⟨x4, h4, h⟩ := bnd_ok h
            have k4 := name_g h4 k3.1
            obtain ⟨x5, h5, h⟩ := bnd_ok h
            have k5 := must_g (by decide) h5 k4.2.1
            obtain ⟨x6, h6, h⟩ := bnd_ok h
            have k6 := name_g h6 k5.1
            obtain ⟨x7, h7, h⟩ := bnd_ok h
            have k7 := must_g (by decide) h7 k6.2.1
            obtain ⟨x8, h8, h⟩ := bnd_ok h
            have k8 := name_g h8 k7.1
            injection h with h
            subst h
            rw [hc]
            refine ⟨_, _, _, _, _, _, _, rfl, BodyG.join k2.1 k4.1 k6.1 k8.1, k8.2.1, ?_⟩
            have l3 := k3.2
            have l4 := k4.2.2
            have l5 := k5.2
            have l6 := k6.2.2
            have l7 := k7.2
            have l8 := k8.2.2
            simp only [List.length_append, List.length_cons, List.length_nil]
            omega
          · split at h
            · rename_i hc
              obtain ⟨x3, h3, h⟩ := bnd_ok h
              have k3 := must_g (by decide) h3 k2.2.1
              obtain ⟨x4, h4, h⟩ := bnd_ok h
              have k4 := name_g h4 k3.1
              obtain ⟨x5, h5, h⟩ := bnd_ok h
              have k5 := oneOf_g (by decide) h5 k4.2.1
              obtain ⟨x6, h6, h⟩ := bnd_ok h
              have k6 := name_g h6 k5.2.1
              injection h with h
              subst h
              rw [hc]
              refine ⟨_, _, _, _, _, _, _, rfl, BodyG.group k2.1 k4.1 k5.1 k6.1, k6.2.1, ?_⟩
              have l3 := k3.2
              have l4 := k4.2.2
              have l5 := k5.2.2
              have l6 := k6.2.2
              simp only [List.length_append, List.length_cons, List.length_nil]
              omega
            · rename_i n1 n2 n3 n5 n7 n8
              injection h with h
              subst h
              have hc : c.1 = 6 := by omega
              rw [hc]
              refine ⟨_, _, _, _, _, _, _, rfl, BodyG.dist k2.1, k2.2.1, ?_⟩
              simp only [List.length_append, List.length_cons, List.length_nil]
              omega
end Go.Proofs.YtajkjhkjgibcfaaDoor

namespace Go.Proofs.YtajkjhkjgibcfaaDoor
open Go.RowKit

theorem GS.next : ∀ {S : List Sp} {d d' : By × Nat}, GS S d → d'.1 ≠ [] → GS S d'
  | [], _, _, _, _ => trivial
  | t :: S, d, d', ⟨h1, h2, h3, h4⟩, h => by
    refine ⟨h1, h2, ?_, h4.next h⟩
    cases S with
    | nil => exact Or.inl h
    | cons u S => exact h3
/-- A part's tokens: its first word; its line. -/
structure PartG (kw line : By) (S : List Sp) : Prop where
  g : GS S ([10], 9)
  hd : ∃ S', S = ([10], 0, kw) :: S'
  tx : Go.Proofs.YtajkjhkjgibcfaaDoor.tx S ++ [10] = 10 :: line
/-- Columns behind commas. -/
def clS (l : List (By × Int)) : List Sp := l.flatMap fun c => [([], 3, [44]), ([32], 0, c.1), ([32], 0, kindW c.2)]
theorem clS_cons (c : By × Int) (l : List (By × Int)) : clS (c :: l) = ([], 3, [44]) :: ([32], 0, c.1) :: ([32], 0, kindW c.2) :: clS l := rfl
theorem clS_kt : ∀ l, ktS (clS l) = colsK l
  | [] => rfl
  | c :: l => by rw [clS_cons, colsK, ← clS_kt l]; rfl
theorem clS_tx : ∀ (l : List (By × Int)), tx (clS l) = Lib.joinTail [44, 32] (l.map colL)
  | [] => rfl
  | c :: l => by rw [clS_cons, tx_cons, tx_cons, tx_cons, clS_tx l]; simp [Lib.joinTail, colL]
theorem clS_len : ∀ l, (clS l).length = 3 * l.length
  | [] => rfl
  | x :: l => by rw [clS_cons]; simp only [List.length_cons, clS_len l]; omega
theorem clS_nx (l : List (By × Int)) {d : By × Nat} (h : Nx d) : Nx (hdS (clS l) d) := by
  cases l with
  | nil => exact h
  | cons x l => exact Or.inr rfl
theorem kind_wt {k : Int} (h : k = 1 ∨ k = 2) : WT 0 (kindW k) := by
  rcases h with rfl | rfl <;> exact ww (by decide)
theorem clS_gs : ∀ (l : List (By × Int)) {d : By × Nat}, (∀ x ∈ l, ColG x) → Nx d → GS (clS l) d
  | [], d, _, _ => trivial
  | x :: l, d, h, hd => ⟨bl0, wm (by decide), Or.inl (List.cons_ne_nil _ _), bl32, (h x List.mem_cons_self).1.2, Or.inl (List.cons_ne_nil _ _), bl32, kind_wt (h x List.mem_cons_self).2, (clS_nx l hd).f0, clS_gs l (fun y hy => h y (List.mem_cons_of_mem _ hy)) hd⟩
def inS (a : FIn) : List Sp := [([10], 0, wIn), ([32], 0, a.name), ([], 3, [58])] ++ ((match a.cols with | [] => [] | c :: l => [([32], 0, c.1), ([32], 0, kindW c.2)] ++ clS l) ++ [([], 3, [59])])
def InG (a : FIn) (S : List Sp) : Prop := Nm a.name ∧ a.cols ≠ [] ∧ (∀ x ∈ a.cols, ColG x) ∧ S = inS a
theorem InG.reads {a : FIn} {S : List Sp} (h : InG a S) : Reads inputP (ktS S) (fun b => b.name = a.name ∧ b.cols = a.cols) := by
  obtain ⟨h1, h2, h3, rfl⟩ := h
  have := input_reads (a := a) ⟨h1.1, h2, fun x hx => ⟨(h3 x hx).1.1, (h3 x hx).2⟩⟩
  have e : ktS (inS a) = inK a := by
    obtain ⟨at_, nm, cols⟩ := a
    cases cols with
    | nil => exact absurd rfl h2
    | cons c l =>
      show ktS ([([10], 0, wIn), ([32], 0, nm), ([], 3, [58])] ++ (([([32], 0, c.1), ([32], 0, kindW c.2)] ++ clS l) ++ [([], 3, [59])])) = _
      rw [ktS_app, ktS_app, ktS_app, clS_kt]
      simp [inK, colK, ktS]
  rw [e]
  exact this
theorem InG.part {a : FIn} {S : List Sp} (h : InG a S) : PartG wIn (inLn a) S := by
  obtain ⟨h1, h2, h3, rfl⟩ := h
  obtain ⟨at_, nm, cols⟩ := a
  cases cols with
  | nil => exact absurd rfl h2
  | cons c l =>
    have hc := h3 c List.mem_cons_self
    refine ⟨?_, ⟨_, rfl⟩, ?_⟩
    · show GS ([([10], 0, wIn), ([32], 0, nm), ([], 3, [58])] ++ (([([32], 0, c.1), ([32], 0, kindW c.2)] ++ clS l) ++ [([], 3, [59])])) _
      refine GS.app ⟨bl10, ww (by decide), Or.inl (List.cons_ne_nil _ _), bl32, h1.2, Or.inr ti03, bl0, wm (by decide), Or.inl (List.cons_ne_nil _ _), trivial⟩ (GS.app (GS.app ⟨bl32, hc.1.2, Or.inl (List.cons_ne_nil _ _), bl32, kind_wt hc.2, (clS_nx l (Or.inr rfl)).f0, trivial⟩ (clS_gs l (fun y hy => h3 y (List.mem_cons_of_mem _ hy)) (Or.inr rfl))) ⟨bl0, wm (by decide), Or.inl (List.cons_ne_nil _ _), trivial⟩)
    · show tx ([([10], 0, wIn), ([32], 0, nm), ([], 3, [58])] ++ (([([32], 0, c.1), ([32], 0, kindW c.2)] ++ clS l) ++ [([], 3, [59])])) ++ [10] = _
      rw [tx_app, tx_app, tx_app, clS_tx]
      have e : colsL (c :: l) = c.1 ++ [32] ++ kindW c.2 ++ Lib.joinTail [44, 32] (l.map colL) := by
        rw [colsL, List.map_cons, Lib.join_cons]
        rfl
      show _ = 10 :: (wIn ++ [32] ++ nm ++ [58, 32] ++ colsL (c :: l) ++ [59, 10])
      rw [e]
      simp [tx]
theorem input_g {ts : List Tk} {a : FIn × List Tk} (h : inputP ts = .ok a) (hn : NW ts) : ∃ S, InG a.1 S ∧ NW a.2 ∧ S.length + a.2.length ≤ ts.length := by
  obtain ⟨x1, h1, h⟩ := bnd_ok h
  have k1 := must_g (by decide) h1 hn
  obtain ⟨x2, h2, h⟩ := bnd_ok h
  have k2 := name_g h2 k1.1
  obtain ⟨x3, h3, h⟩ := bnd_ok h
  have k3 := must_g (by decide) h3 k2.2.1
  obtain ⟨x4, h4, h⟩ := bnd_ok h
  have k4 := column_g h4 k3.1
  obtain ⟨x5, h5, h⟩ := bnd_ok h
  obtain ⟨l, e5, k5, k6, l5⟩ := cols_g _ _ _ x5 h5 k4.2.1
  obtain ⟨x6, h6, h⟩ := bnd_ok h
  have k7 := must_g (by decide) h6 k6
  injection h with h
  subst h
  have e6 : x5.1 = x4.1 :: l := e5
  rw [e6]
  refine ⟨_, ⟨k2.1, List.cons_ne_nil _ _, ?_, rfl⟩, k7.1, ?_⟩
  · intro y hy
    rcases List.mem_cons.1 hy with rfl | hy
    · exact k4.1
    · exact k5 y hy
  · have := k1.2
    have := k2.2.2
    have := k3.2
    have := k4.2.2
    have := k7.2
    show (List.length ([([10], 0, wIn), ([32], 0, x2.1), ([], 3, [58])] ++ (([([32], 0, x4.1.1), ([32], 0, kindW x4.1.2)] ++ clS l) ++ [([], 3, [59])]) : List Sp)) + _ ≤ _
    simp only [List.length_append, List.length_cons, List.length_nil, clS_len]
    omega
def retryS (n : Int) : List Sp := if n = 0 then [] else [([32], 0, wRetry), ([32], 1, Lib.decDigits n.toNat)]
/-- A job that can be read back, and its tokens, with blanks. -/
inductive JobG : FJob → List Sp → Prop
  | mk {at_ : Nat} {c rt : Int} {x : By} {xs ins cols : List By} {op : By} {l r : Ag} {B : List Sp} : Nm x → (∀ y ∈ xs, Nm y) → 0 ≤ rt → rt ≤ 5 → BodyG c ins cols op l r B →
    JobG ⟨at_, c, x :: xs, ins, cols, op, l, r, rt⟩ ([([10], 0, wJob), ([32], 0, x)] ++ (nmS xs ++ (retryS rt ++ ([([32], 3, [61])] ++ (B ++ [([], 3, [59])])))))
theorem JobG.reads {j : FJob} {S : List Sp} (h : JobG j S) : Reads jobP (ktS S) (fun b => b = { j with at_ := b.at_ }) := by
  cases h with
  | @mk at_ c rt x xs ins cols op l r B hx hxs h0 h5 hb =>
    obtain ⟨K, hK, rfl⟩ := hb.rd
    have := job_reads (JobRd.mk (at_ := at_) hx.1 (fun y hy => (hxs y hy).1) h0 h5 hK)
    have e : ktS ([([10], 0, wJob), ([32], 0, x)] ++ (nmS xs ++ (retryS rt ++ ([([32], 3, [61])] ++ (B ++ [([], 3, [59])]))))) = [(0, wJob)] ++ (((0, x) :: namesK xs) ++ (retryK rt ++ ([(3, [61])] ++ (ktS B ++ [(3, [59])])))) := by
      rw [ktS_app, ktS_app, ktS_app, ktS_app, ktS_app, nmS_kt]
      have : ktS (retryS rt) = retryK rt := by unfold retryS retryK; split <;> rfl
      rw [this]
      rfl
    rw [e]
    exact this
theorem body_hd {c : Int} {ins cols : List By} {op : By} {l r : Ag} {S : List Sp} (h : BodyG c ins cols op l r S) (d : By × Nat) : (hdS S d).1 = [32] := by
  cases h <;> rfl
theorem JobG.part {j : FJob} {S : List Sp} (h : JobG j S) : PartG wJob (jobLn j) S := by
  cases h with
  | @mk at_ c rt x xs ins cols op l r B hx hxs h0 h5 hb =>
    have hq : Fo 3 (hdS (B ++ [([], 3, [59])]) ([10], 9)) := fb (by rw [hdS_app]; exact body_hd hb _)
    have e1 : (hdS (retryS rt ++ ([([32], 3, [61])] ++ (B ++ [([], 3, [59])]))) ([10], 9)).1 ≠ [] := by
      unfold retryS
      split <;> exact List.cons_ne_nil _ _
    refine ⟨?_, ⟨_, rfl⟩, ?_⟩
    · refine GS.app ⟨bl10, ww (by decide), Or.inl (List.cons_ne_nil _ _), bl32, hx.2, ?_, trivial⟩ (GS.app (nmS_gs xs hxs (Or.inl e1)) (GS.app ?_ (GS.app ⟨bl32, wm (by decide), hq, trivial⟩ (GS.app (hb.gs (Or.inr rfl)) ⟨bl0, wm (by decide), Or.inl (List.cons_ne_nil _ _), trivial⟩))))
      · show Fo 0 (hdS (nmS xs ++ _) _)
        rw [hdS_app]
        exact (nmS_nx xs (Or.inl e1)).f0
      · unfold retryS
        split
        · trivial
        · exact ⟨bl32, ww (by decide), Or.inl (List.cons_ne_nil _ _), bl32, dec_wt _, Or.inl (List.cons_ne_nil _ _), trivial⟩
    · rw [tx_app, tx_app, tx_app, tx_app, tx_app, hb.tx at_ (x :: xs) rt]
      have e2 : tx (retryS rt) = retryL rt := by
        unfold retryS retryL
        split
        · rfl
        · simp [tx, itoa_pos (show ¬ rt < 0 by omega)]
      rw [e2]
      show _ = 10 :: (wJob ++ [32] ++ listL (x :: xs) ++ retryL rt ++ [32, 61, 32] ++ jobL _ ++ [59, 10])
      rw [← nmS_list]
      simp [tx]
theorem job_g {ts : List Tk} {a : FJob × List Tk} (h : jobP ts = .ok a) (hn : NW ts) : ∃ S, JobG a.1 S ∧ NW a.2 ∧ S.length + a.2.length ≤ ts.length := by
  obtain ⟨x1, h1, h⟩ := bnd_ok h
  have k1 := must_g (by decide) h1 hn
  obtain ⟨x2, h2, h⟩ := bnd_ok h
  obtain ⟨x, xs, e2, k2, k3, k4, l2⟩ := names_g h2 k1.1
  obtain ⟨x3, h3, h⟩ := bnd_ok h
  obtain ⟨r0, r5, k5, l3⟩ := retry_g h3 k4
  obtain ⟨x4, h4, h⟩ := bnd_ok h
  have k6 := must_g (by decide) h4 k5
  obtain ⟨x5, h5, h⟩ := bnd_ok h
  obtain ⟨B, c, ins, cols, op, l, r, e5, k7, k8, l5⟩ := body_g h5 k6.1
  obtain ⟨x6, h6, h⟩ := bnd_ok h
  have k9 := must_g (by decide) h6 k8
  injection h with h
  subst h
  dsimp only
  rw [e5, e2]
  refine ⟨_, JobG.mk k2 k3 r0 r5 k7, k9.1, ?_⟩
  have := k1.2
  have := k6.2
  have := k9.2
  have l4 : (retryS x3.1).length = if x3.1 = 0 then 0 else 2 := by unfold retryS; split <;> rfl
  simp only [List.length_append, List.length_cons, List.length_nil, nmS_len, l4]
  omega
def OutG (a : FOut) (S : List Sp) : Prop := Nm a.name ∧ Nm a.from_ ∧ S = [([10], 0, wOut), ([32], 0, a.name), ([32], 3, [61]), ([32], 0, a.from_), ([], 3, [59])]
theorem OutG.reads {a : FOut} {S : List Sp} (h : OutG a S) : Reads publishP (ktS S) (fun b => b.name = a.name ∧ b.from_ = a.from_) := by
  obtain ⟨h1, h2, rfl⟩ := h
  exact publish_reads ⟨h1.1, h2.1⟩
theorem OutG.part {a : FOut} {S : List Sp} (h : OutG a S) : PartG wOut (outLn a) S := by
  obtain ⟨h1, h2, rfl⟩ := h
  refine ⟨⟨bl10, ww (by decide), Or.inl (List.cons_ne_nil _ _), bl32, h1.2, Or.inl (List.cons_ne_nil _ _), bl32, wm (by decide), Or.inl (List.cons_ne_nil _ _), bl32, h2.2, Or.inr ti03, bl0, wm (by decide), Or.inl (List.cons_ne_nil _ _), trivial⟩, ⟨_, rfl⟩, ?_⟩
  simp [tx, outLn]
theorem publish_g {ts : List Tk} {a : FOut × List Tk} (h : publishP ts = .ok a) (hn : NW ts) : ∃ S, OutG a.1 S ∧ NW a.2 ∧ S.length + a.2.length ≤ ts.length := by
  obtain ⟨x1, h1, h⟩ := bnd_ok h
  have k1 := must_g (by decide) h1 hn
  obtain ⟨x2, h2, h⟩ := bnd_ok h
  have k2 := name_g h2 k1.1
  obtain ⟨x3, h3, h⟩ := bnd_ok h
  have k3 := must_g (by decide) h3 k2.2.1
  obtain ⟨x4, h4, h⟩ := bnd_ok h
  have k4 := name_g h4 k3.1
  obtain ⟨x5, h5, h⟩ := bnd_ok h
  have k5 := must_g (by decide) h5 k4.2.1
  injection h with h
  subst h
  refine ⟨_, ⟨k2.1, k4.1, rfl⟩, k5.1, ?_⟩
  have := k1.2
  have := k2.2.2
  have := k3.2
  have := k4.2.2
  have := k5.2
  simp only [List.length_cons, List.length_nil]
  omega
end Go.Proofs.YtajkjhkjgibcfaaDoor

namespace Go.Proofs.YtajkjhkjgibcfaaDoor
open Go.RowKit

/-- Parts and their tokens, one behind the other. -/
inductive Pa {α : Type} (C : α → List Sp → Prop) : List α → List Sp → Prop
  | nil : Pa C [] []
  | cons {a : α} {S : List Sp} {l : List α} {M : List Sp} : C a S → Pa C l M → Pa C (a :: l) (S ++ M)
theorem parts_g {α : Type} {x : By} {p : List Tk → PE α} {C : α → List Sp → Prop} (hp : ∀ ts a, p ts = .ok a → NW ts → ∃ S, C a.1 S ∧ NW a.2 ∧ S.length + a.2.length ≤ ts.length) : ∀ (g : Nat) (acc : List α) (ts : List Tk) (a : List α × List Tk), partsP x p g acc ts = .ok a → NW ts → acc.length ≤ 16 → ∃ l M, a.1 = acc ++ l ∧ Pa C l M ∧ a.1.length ≤ 16 ∧ NW a.2 ∧ M.length + a.2.length ≤ ts.length
  | 0, acc, ts, a, h, hn, hl => by
    unfold partsP at h
    injection h with h
    subst h
    exact ⟨[], [], by simp, .nil, hl, hn, by simp⟩
  | g + 1, acc, ts, a, h, hn, hl => by
    unfold partsP at h
    split at h
    · split at h
      · cases h
      · rename_i h16
        obtain ⟨y, hy, h⟩ := bnd_ok h
        obtain ⟨S, h1, h2, h3⟩ := hp _ _ hy hn
        obtain ⟨l, M, k1, k2, k3, k4, k5⟩ := parts_g hp g _ _ a h h2 (by simp; omega)
        refine ⟨y.1 :: l, S ++ M, by rw [k1]; simp, .cons h1 k2, k3, k4, ?_⟩
        rw [List.length_append]
        omega
    · injection h with h
      subst h
      exact ⟨[], [], by simp, .nil, hl, hn, by simp⟩
theorem parts_back {α : Type} {x : By} {p : List Tk → PE α} {C : α → List Sp → Prop} {E : α → α → Prop} (hp : ∀ a S, C a S → Reads p (ktS S) (E a)) (hx : ∀ a S, C a S → ∃ S', S = ([10], 0, x) :: S') {l : List α} {M : List Sp} (h : Pa C l M) : ∀ (g : Nat) (acc : List α), M.length < g + 1 → acc.length + l.length ≤ 16 → ReadsIf (partsP x p g acc) (ktS M) (notText x) (fun b => ∃ m, b = acc ++ m ∧ All2 E l m) := by
  induction h with
  | nil =>
    intro g acc _ _ ts R hk hR
    refine ⟨acc, ts, ?_, ⟨[], by simp, .nil⟩, hk⟩
    cases g with
    | zero => rfl
    | succ g =>
      unfold partsP
      rw [if_neg (by rw [kt_text hk]; exact hR)]
  | @cons a S l M ha hM ih =>
    intro g acc hg h16 ts R hk hR
    obtain ⟨S', rfl⟩ := hx a S ha
    rw [ktS_app, List.append_assoc] at hk
    have ht : textT ts = x := by rw [kt_text hk]; rfl
    cases g with
    | zero => simp at hg
    | succ g =>
      obtain ⟨b, t1, e1, q1, k1⟩ := hp a _ ha ts _ hk
      simp only [List.length_cons, List.length_append] at hg h16
      obtain ⟨c, t2, e2, ⟨m, rfl, hm⟩, k2⟩ := ih g (acc ++ [b]) (by omega) (by simp; omega) t1 R k1 hR
      refine ⟨acc ++ [b] ++ m, t2, ?_, ⟨b :: m, by simp, .cons q1 hm⟩, k2⟩
      unfold partsP
      rw [if_pos ht, if_neg (by omega), e1]
      exact e2
theorem Pa.gs {α : Type} {C : α → List Sp → Prop} {kw : By} {line : α → By} (hC : ∀ a S, C a S → PartG kw (line a) S) {l : List α} {M : List Sp} (h : Pa C l M) : GS M ([10], 9) ∧ tx M ++ [10] = 10 :: l.flatMap line ∧ (M = [] ∨ ∃ S', M = ([10], 0, kw) :: S') := by
  induction h with
  | nil => exact ⟨trivial, rfl, Or.inl rfl⟩
  | @cons a S l M ha hM ih =>
    obtain ⟨h1, h2, h3⟩ := ih
    have hS := hC a S ha
    obtain ⟨S', hS'⟩ := hS.hd
    refine ⟨GS.app (hS.g.next ?_) h1, ?_, Or.inr ⟨S' ++ M, by rw [hS']; rfl⟩⟩
    · rcases h3 with rfl | ⟨S'', rfl⟩ <;> exact List.cons_ne_nil _ _
    · rw [tx_app, List.append_assoc, h2, List.flatMap_cons]
      have := hS.tx
      calc tx S ++ 10 :: l.flatMap line = (tx S ++ [10]) ++ l.flatMap line := by simp
        _ = _ := by rw [this]; rfl
/-- A flow and its tokens. -/
structure FlwG (f : Flw) (M : List Sp) : Prop where
  parts : ∃ Mi Mj Mo, Pa InG f.ins Mi ∧ Pa JobG f.jobs Mj ∧ Pa OutG f.outs Mo ∧ M = Mi ++ (Mj ++ Mo)
  il : f.ins.length ≤ 16
  jl : f.jobs.length ≤ 16
  ol : f.outs.length ≤ 16
  len : M.length ≤ 400
theorem parse_g {s : By} {f : Flw} (hs : s.length ≤ 1000000) (h : parseF s = .ok f) : ∃ M, FlwG f M := by
  obtain ⟨ts, h0, h⟩ := bnd_ok h
  obtain ⟨hn, hl⟩ := tokens_nw hs h0
  obtain ⟨x1, h1, h⟩ := bnd_ok h
  obtain ⟨li, Mi, e1, p1, q1, n1, l1⟩ := parts_g (C := InG) (fun ts a h hn => input_g h hn) _ _ _ x1 h1 hn (by simp)
  obtain ⟨x2, h2, h⟩ := bnd_ok h
  obtain ⟨lj, Mj, e2, p2, q2, n2, l2⟩ := parts_g (C := JobG) (fun ts a h hn => job_g h hn) _ _ _ x2 h2 n1 (by simp)
  obtain ⟨x3, h3, h⟩ := bnd_ok h
  obtain ⟨lo, Mo, e3, p3, q3, n3, l3⟩ := parts_g (C := OutG) (fun ts a h hn => publish_g h hn) _ _ _ x3 h3 n2 (by simp)
  unfold lastP at h
  split at h
  · cases h
  · split at h
    · cases h
    · split at h
      · cases h
      · injection h with h
        subst h
        rw [List.nil_append] at e1 e2 e3
        have := n3.pos
        refine ⟨Mi ++ (Mj ++ Mo), ⟨Mi, Mj, Mo, by rw [e1]; exact p1, by rw [e2]; exact p2, by rw [e3]; exact p3, rfl⟩, q1, q2, q3, ?_⟩
        simp only [List.length_append]
        omega
theorem all2_len {α : Type} {E : α → α → Prop} {l m : List α} (h : All2 E l m) : m.length = l.length := by
  induction h with
  | nil => rfl
  | cons _ _ ih => simp [ih]
theorem all2_flat {α : Type} {E : α → α → Prop} {line : α → By} (hE : ∀ a b, E a b → line b = line a) {l m : List α} (h : All2 E l m) : m.flatMap line = l.flatMap line := by
  induction h with
  | nil => rfl
  | cons h1 _ ih => rw [List.flatMap_cons, List.flatMap_cons, ih, hE _ _ h1]
/-- Two flows that are alike but for places. -/
def Like (f g : Flw) : Prop := printF g = printF f ∧ g.ins.length = f.ins.length ∧ g.jobs.length = f.jobs.length ∧ g.outs.length = f.outs.length
theorem hd_text {α : Type} {C : α → List Sp → Prop} {kw x : By} {line : α → By} (hC : ∀ a S, C a S → PartG kw (line a) S) {l : List α} {M : List Sp} {R : List Kt} (h : Pa C l M) (hx : kw ≠ x) (hR : notText x R) : notText x (ktS M ++ R) := by
  rcases (h.gs hC).2.2 with rfl | ⟨S', rfl⟩
  · exact hR
  · exact hx
theorem FlwG.back {f : Flw} {M : List Sp} (h : FlwG f M) {ts : List Tk} (hk : kt ts = ktS M ++ [(4, [])]) : ∃ g, flowP ts = .ok g ∧ Like f g := by
  obtain ⟨Mi, Mj, Mo, p1, p2, p3, rfl⟩ := h.parts
  rw [ktS_app, ktS_app, List.append_assoc, List.append_assoc] at hk
  have q0 : ∀ x : By, x ≠ [] → notText x [(4, ([] : By))] := fun x hx e => hx e.symm
  have lt := kt_len hk
  simp only [List.length_append, ktS, List.length_map, List.length_cons, List.length_nil] at lt
  obtain ⟨a1, t1, e1, ⟨m1, rfl, r1⟩, k1⟩ := parts_back (fun a S h => h.reads) (fun a S h => h.part.hd) p1 ts.length [] (by omega) (by have := h.il; simpa using this) ts _ hk (hd_text (fun a S h => h.part) p2 (by decide) (hd_text (fun a S h => h.part) p3 (by decide) (q0 _ (by decide))))
  have lt1 := kt_len k1
  simp only [List.length_append, ktS, List.length_map, List.length_cons, List.length_nil] at lt1
  obtain ⟨a2, t2, e2, ⟨m2, rfl, r2⟩, k2⟩ := parts_back (fun a S h => h.reads) (fun a S h => h.part.hd) p2 t1.length [] (by omega) (by have := h.jl; simpa using this) t1 _ k1 (hd_text (fun a S h => h.part) p3 (by decide) (q0 _ (by decide)))
  have lt2 := kt_len k2
  simp only [List.length_append, ktS, List.length_map, List.length_cons, List.length_nil] at lt2
  obtain ⟨a3, t3, e3, ⟨m3, rfl, r3⟩, k3⟩ := parts_back (fun a S h => h.reads) (fun a S h => h.part.hd) p3 t2.length [] (by omega) (by have := h.ol; simpa using this) t2 _ k2 (q0 _ (by decide))
  obtain ⟨z1, z2, z3⟩ := kt_head k3
  refine ⟨⟨a1, a2, a3⟩, ?_, ?_, by simpa using all2_len r1, by simpa using all2_len r2, by simpa using all2_len r3⟩
  · unfold flowP
    rw [e1]
    show (partsP wJob jobP t1.length [] t1).bind _ = _
    rw [e2]
    show (partsP wOut publishP t2.length [] t2).bind _ = _
    rw [e3]
    show lastP _ t3 = _
    unfold lastP
    rw [if_neg (by rw [z2]; exact fun e => absurd e.1 (by decide)), if_neg (by rw [z2]; exact fun e => absurd e.1 (by decide)), if_neg (by rw [z1]; exact fun e => e rfl)]
  · unfold printF
    simp only [List.nil_append]
    rw [all2_flat (line := inLn) (fun a b h => by unfold inLn; rw [h.1, h.2]) r1, all2_flat (line := jobLn) (fun a b h => by rw [h]; rfl) r2, all2_flat (line := outLn) (fun a b h => by unfold outLn; rw [h.1, h.2]) r3]
/-- What a flow is written as, by its tokens. -/
theorem FlwG.text {f : Flw} {M : List Sp} (h : FlwG f M) : GS M ([10], 9) ∧ tx M ++ [10] = 10 :: printF f ∧ (M = [] ∨ ∃ k x S', M = ([10], k, x) :: S') := by
  obtain ⟨Mi, Mj, Mo, p1, p2, p3, rfl⟩ := h.parts
  obtain ⟨g1, t1, d1⟩ := p1.gs fun a S h => h.part
  obtain ⟨g2, t2, d2⟩ := p2.gs fun a S h => h.part
  obtain ⟨g3, t3, d3⟩ := p3.gs fun a S h => h.part
  have n3 : (hdS Mo ([10], 9)).1 ≠ [] := by rcases d3 with rfl | ⟨S, rfl⟩ <;> exact List.cons_ne_nil _ _
  have n2 : (hdS (Mj ++ Mo) ([10], 9)).1 ≠ [] := by
    rw [hdS_app]
    rcases d2 with rfl | ⟨S, rfl⟩
    · exact n3
    · exact List.cons_ne_nil _ _
  refine ⟨GS.app (g1.next n2) (GS.app (g2.next n3) g3), ?_, ?_⟩
  · rw [tx_app, tx_app]
    calc tx Mi ++ (tx Mj ++ tx Mo) ++ [10] = tx Mi ++ (tx Mj ++ (tx Mo ++ [10])) := by simp
      _ = tx Mi ++ (tx Mj ++ [10] ++ f.outs.flatMap outLn) := by rw [t3]; simp
      _ = tx Mi ++ [10] ++ (f.jobs.flatMap jobLn ++ f.outs.flatMap outLn) := by rw [t2]; simp
      _ = _ := by rw [t1]; simp [printF]
  · rcases d1 with rfl | ⟨S, rfl⟩
    · rcases d2 with rfl | ⟨S, rfl⟩
      · rcases d3 with rfl | ⟨S, rfl⟩
        · exact Or.inl rfl
        · exact Or.inr ⟨_, _, _, rfl⟩
      · exact Or.inr ⟨_, _, _, rfl⟩
    · exact Or.inr ⟨_, _, _, rfl⟩
/-- Tokens that are short, with a blank ahead at most. -/
def Sm (S : List Sp) : Prop := ∀ t ∈ S, t.1.length ≤ 1 ∧ t.2.2.length ≤ 40
theorem sm_nil : Sm [] := by simp [Sm]
theorem Sm.app {S M : List Sp} (h : Sm S) (h' : Sm M) : Sm (S ++ M) := fun t ht => (List.mem_append.1 ht).elim (h t) (h' t)
theorem sm_cons {b : By} {k : Nat} {x : By} {S : List Sp} (hb : b.length ≤ 1) (hx : x.length ≤ 40) (h : Sm S) : Sm ((b, k, x) :: S) := by
  intro t ht
  rcases List.mem_cons.1 ht with rfl | ht
  · exact ⟨hb, hx⟩
  · exact h t ht
theorem Nm.sm {x : By} (h : Nm x) : x.length ≤ 40 := Nat.le_trans h.1 (by decide)
theorem verb_sm (c : Int) (h : c = 1 ∨ c = 2 ∨ c = 3 ∨ c = 4 ∨ c = 5 ∨ c = 6 ∨ c = 7 ∨ c = 8 ∨ c = 9) : (verbW c).length ≤ 40 := by
  rcases h with rfl | rfl | rfl | rfl | rfl | rfl | rfl | rfl | rfl <;> decide
theorem dec_sm (u : Nat) (h : u ≤ 1000000000) : (Lib.decDigits u).length ≤ 40 := by
  have := Lib.itoa_length_le (u : Int) (by omega) (by omega)
  rw [itoa_pos (by omega)] at this
  simp only [Int.toNat_natCast] at this
  omega
theorem mem_sm {xs : List By} {x : By} (h : x ∈ xs) (hx : ∀ y ∈ xs, y.length ≤ 40) : x.length ≤ 40 := hx x h
theorem argS_sm {a : Ag} (h : AgG a) : Sm (argS a) := by
  unfold argS
  rcases h with ⟨h1, h2, -⟩ | ⟨h1, h2, -, h3, -⟩ | ⟨h1, h2, h3, h4, -⟩
  · rw [if_pos h1]; exact sm_cons (by decide) h2.sm sm_nil
  · rw [if_neg (by simp [h1]), if_neg (by rw [h2]; decide)]
    refine sm_cons (by decide) ?_ sm_nil
    have := right_small h3
    simp only [List.length_cons, List.length_append, List.length_nil]
    omega
  · rw [if_neg (by simp [h1]), if_pos h2]
    split
    · exact sm_cons (by decide) (by decide) (sm_cons (by decide) (dec_sm _ (by omega)) sm_nil)
    · exact sm_cons (by decide) (dec_sm _ (by omega)) sm_nil
theorem nmS_sm : ∀ (l : List By), (∀ x ∈ l, Nm x) → Sm (nmS l)
  | [], _ => sm_nil
  | x :: l, h => sm_cons (by decide) (by decide) (sm_cons (by decide) (h x List.mem_cons_self).sm (nmS_sm l fun y hy => h y (List.mem_cons_of_mem _ hy)))
theorem kind_sm {k : Int} : (kindW k).length ≤ 40 := Nat.le_trans (kindW_len k) (by decide)
theorem clS_sm : ∀ (l : List (By × Int)), (∀ x ∈ l, ColG x) → Sm (clS l)
  | [], _ => sm_nil
  | x :: l, h => sm_cons (by decide) (by decide) (sm_cons (by decide) (h x List.mem_cons_self).1.sm (sm_cons (by decide) kind_sm (clS_sm l fun y hy => h y (List.mem_cons_of_mem _ hy))))
theorem BodyG.sm {c : Int} {ins cols : List By} {op : By} {l r : Ag} {S : List Sp} (h : BodyG c ins cols op l r S) : Sm S := by
  have b1 : ([32] : By).length ≤ 1 := by decide
  have b0 : ([] : By).length ≤ 1 := by decide
  cases h with
  | test hc hi hl hop hr => exact Sm.app (sm_cons b1 (verb_sm _ (by rcases hc with rfl | rfl <;> decide)) (sm_cons b1 hi.sm (sm_cons b1 (by decide) (sm_cons b1 hl.sm (sm_cons b1 (mem_sm hop (by decide)) sm_nil))))) (argS_sm hr)
  | set hi hn hop hl hr => exact Sm.app (sm_cons b1 (verb_sm _ (by decide)) (sm_cons b1 hi.sm (sm_cons b0 (by decide) (sm_cons b1 hn.sm (sm_cons b1 (by decide) sm_nil))))) (Sm.app (argS_sm hl) (Sm.app (sm_cons b1 (mem_sm hop (by decide)) sm_nil) (argS_sm hr)))
  | list hc hi hx hl => exact Sm.app (sm_cons b1 (verb_sm _ (by rcases hc with rfl | rfl <;> decide)) (sm_cons b1 hi.sm (sm_cons b1 (by decide) (sm_cons b1 hx.sm sm_nil)))) (nmS_sm _ hl)
  | union hi hn => exact sm_cons b1 (verb_sm _ (by decide)) (sm_cons b1 hi.sm (sm_cons b0 (by decide) (sm_cons b1 hn.sm sm_nil)))
  | dist hi => exact sm_cons b1 (verb_sm _ (by decide)) (sm_cons b1 hi.sm sm_nil)
  | join hi ha hj hb => exact sm_cons b1 (verb_sm _ (by decide)) (sm_cons b1 hi.sm (sm_cons b0 (by decide) (sm_cons b0 ha.sm (sm_cons b0 (by decide) (sm_cons b1 hj.sm (sm_cons b0 (by decide) (sm_cons b0 hb.sm sm_nil)))))))
  | group hi ha hop hb => exact sm_cons b1 (verb_sm _ (by decide)) (sm_cons b1 hi.sm (sm_cons b1 (by decide) (sm_cons b1 ha.sm (sm_cons b1 (mem_sm hop (by decide)) (sm_cons b1 hb.sm sm_nil)))))
theorem InG.sm {a : FIn} {S : List Sp} (h : InG a S) : Sm S := by
  obtain ⟨h1, h2, h3, rfl⟩ := h
  obtain ⟨at_, nm, cols⟩ := a
  cases cols with
  | nil => exact absurd rfl h2
  | cons c l => exact Sm.app (sm_cons (by decide) (by decide) (sm_cons (by decide) h1.sm (sm_cons (by decide) (by decide) sm_nil))) (Sm.app (Sm.app (sm_cons (by decide) (h3 c List.mem_cons_self).1.sm (sm_cons (by decide) kind_sm sm_nil)) (clS_sm l fun y hy => h3 y (List.mem_cons_of_mem _ hy))) (sm_cons (by decide) (by decide) sm_nil))
theorem JobG.sm {j : FJob} {S : List Sp} (h : JobG j S) : Sm S := by
  cases h with
  | mk hx hxs h0 h5 hb =>
    refine Sm.app (sm_cons (by decide) (by decide) (sm_cons (by decide) hx.sm sm_nil)) (Sm.app (nmS_sm _ hxs) (Sm.app ?_ (Sm.app (sm_cons (by decide) (by decide) sm_nil) (Sm.app hb.sm (sm_cons (by decide) (by decide) sm_nil)))))
    unfold retryS
    split
    · exact sm_nil
    · exact sm_cons (by decide) (by decide) (sm_cons (by decide) (dec_sm _ (by omega)) sm_nil)
theorem OutG.sm {a : FOut} {S : List Sp} (h : OutG a S) : Sm S := by
  obtain ⟨h1, h2, rfl⟩ := h
  exact sm_cons (by decide) (by decide) (sm_cons (by decide) h1.sm (sm_cons (by decide) (by decide) (sm_cons (by decide) h2.sm (sm_cons (by decide) (by decide) sm_nil))))
theorem Pa.sm {α : Type} {C : α → List Sp → Prop} (hC : ∀ a S, C a S → Sm S) {l : List α} {M : List Sp} (h : Pa C l M) : Sm M := by
  induction h with
  | nil => exact sm_nil
  | cons ha _ ih => exact Sm.app (hC _ _ ha) ih
theorem FlwG.sm {f : Flw} {M : List Sp} (h : FlwG f M) : Sm M := by
  obtain ⟨Mi, Mj, Mo, p1, p2, p3, rfl⟩ := h.parts
  exact Sm.app (p1.sm fun a S h => h.sm) (Sm.app (p2.sm fun a S h => h.sm) (p3.sm fun a S h => h.sm))
theorem tx_sm : ∀ {S : List Sp}, Sm S → (tx S).length ≤ 41 * S.length
  | [], _ => by simp [tx]
  | t :: S, h => by
    have h1 := h t List.mem_cons_self
    have h2 := tx_sm (S := S) fun u hu => h u (List.mem_cons_of_mem _ hu)
    rw [tx_cons, List.length_append, List.length_append, List.length_cons]
    omega
/-- A flow's text, as blanks and tokens: with other blanks it is read as a flow that is alike. -/
theorem print_spell {s : By} {f : Flw} (hs : s.length ≤ 1000000) (h : parseF s = .ok f) : ∃ (S : List Sp) (e : By), printF f = spell S e ∧ GS S (e, 9) ∧ Bl e ∧ (S ≠ [] → e ≠ []) ∧ (Sm S ∧ S.length ≤ 400 ∧ e.length ≤ 1) ∧ ∀ S' e', Re S S' → (e = [] ↔ e' = []) → Bl e' → ∃ g, parseF (spell S' e') = .ok g ∧ Like f g := by
  obtain ⟨M, hM⟩ := parse_g hs h
  obtain ⟨g1, t1, d1⟩ := hM.text
  have fin : ∀ (S : List Sp) (e : By), ktS S = ktS M → GS S (e, 9) → Bl e → (S ≠ [] → e ≠ []) → ∃ g, parseF (spell S e) = .ok g ∧ Like f g := by
    intro S e hk hg he hne
    have hsp : Spelt S e := by
      cases S with
      | nil => exact he
      | cons t S => exact hg.spelt he (hne (List.cons_ne_nil _ _))
    have hlen : S.length ≤ 400 := by
      have := congrArg List.length hk
      simp only [ktS, List.length_map] at this
      have := hM.len
      omega
    obtain ⟨ts, h1, h2⟩ := tokens_spell hsp hlen
    obtain ⟨g, h3, h4⟩ := hM.back (ts := ts ++ [(4, [], (spell S e).length)]) (by
      show List.map _ _ = _
      rw [List.map_append, h2, ← hk]
      rfl)
    exact ⟨g, by rw [parseF, h1]; exact h3, h4⟩
  have hre : ∀ (S : List Sp) (e : By), ktS S = ktS M → GS S (e, 9) → (S ≠ [] → e ≠ []) → ∀ S' e', Re S S' → (e = [] ↔ e' = []) → Bl e' → ∃ g, parseF (spell S' e') = .ok g ∧ Like f g := by
    intro S e hk hg hne S' e' hr hee hb
    refine fin S' e' (by rw [hr.kt, hk]) (hr.gs hg hee) hb ?_
    intro hS' he'
    refine hne ?_ (hee.2 he')
    rintro rfl
    cases hr
    exact hS' rfl
  rcases d1 with rfl | ⟨k, x, S', rfl⟩
  · have hp : printF f = [] := by
      have : [10] = 10 :: printF f := t1
      injection this with _ h2
      exact h2.symm
    exact ⟨[], [], hp, trivial, bl0, fun h => absurd rfl h, ⟨sm_nil, by simp, by simp⟩, hre [] [] rfl trivial (fun h => absurd rfl h)⟩
  · have hg : GS (([], k, x) :: S') ([10], 9) := ⟨bl0, g1.2.1, g1.2.2.1, g1.2.2.2⟩
    have hp : printF f = spell (([], k, x) :: S') [10] := by
      rw [spell_tx, tx_cons]
      rw [tx_cons] at t1
      simp only [List.cons_append, List.nil_append] at t1 ⊢
      injection t1 with _ h2
      exact h2.symm
    have hs0 := hM.sm
    have hs1 : Sm (([], k, x) :: S') := sm_cons (by decide) (hs0 _ List.mem_cons_self).2 (fun u hu => hs0 u (List.mem_cons_of_mem _ hu))
    exact ⟨_, [10], hp, hg, bl10, fun _ => List.cons_ne_nil _ _, ⟨hs1, by have := hM.len; simpa using this, by simp⟩, hre _ [10] rfl hg (fun _ => List.cons_ne_nil _ _)⟩
theorem Re.refl : ∀ {S : List Sp} {d : By × Nat}, GS S d → Re S S
  | [], _, _ => .nil
  | (b, k, x) :: S, d, ⟨h1, _, _, h4⟩ => .cons h1 Iff.rfl (Re.refl h4)
/-- What a flow is written as is that flow. -/
theorem print_back {s : By} {f : Flw} (hs : s.length ≤ 1000000) (h : parseF s = .ok f) : ∃ g, parseF (printF f) = .ok g ∧ Like f g := by
  obtain ⟨S, e, h1, h2, h3, h4, -, h5⟩ := print_spell hs h
  rw [h1]
  exact h5 S e (Re.refl h2) Iff.rfl h3
theorem print_len {s : By} {f : Flw} (hs : s.length ≤ 1000000) (h : parseF s = .ok f) : (printF f).length ≤ 20000 := by
  obtain ⟨S, e, h1, -, -, -, ⟨h2, h3, h4⟩, -⟩ := print_spell hs h
  rw [h1, spell_tx, List.length_append]
  have := tx_sm h2
  omega
end Go.Proofs.YtajkjhkjgibcfaaDoor

