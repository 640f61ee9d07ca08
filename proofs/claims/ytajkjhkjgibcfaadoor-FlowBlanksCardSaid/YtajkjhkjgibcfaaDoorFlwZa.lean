import Derived.Test.YtajkjhkjgibcfaaDoorFlwZ
import Derived.Shelf.Strings.BuilderK
import Derived.Deep.MidRow
set_option linter.unusedSimpArgs false
set_option linter.unusedVariables false
namespace Go.Proofs.YtajkjhkjgibcfaaDoor
open Go.RowKit

theorem row_slice {w : World} {v : Value} {n z : Nat} {P : Nat → World → Nat → Nat → Prop} (h : RowR w v n z P) : ∃ a c, v = .slice a n c := by
  rcases h with ⟨rfl, rfl⟩ | ⟨b, c, rfl, -⟩
  · exact ⟨_, _, rfl⟩
  · exact ⟨_, _, rfl⟩
/-- What Print has written yet. -/
def PrS (w1 wr : World) (l : By) : Prop := Lib.IsBuilderF 48 5 w1.heap.size w1.heap.size (Lib.byteCells l) wr ∧ Below w1.heap.size w1 wr
theorem builderF_below {T e : TypeId} {B b : Nat} {bs : List Value} {w w' : World} (h : Lib.IsBuilderF T e B b bs w) (hb : Below w.heap.size w w') : Lib.IsBuilderF T e B b bs w' := by
  have go : ∀ p, Lib.BuilderAtF T e B b p bs w → Lib.BuilderAtF T e B b p bs w' := by
    intro p hp
    have hl := hp.lt
    obtain ⟨h1, v, h2, h3, h4⟩ := hp
    exact ⟨h1, v, (hb.block b hl).trans h2, h3.kept (grown_below hb none) (by cases v.ownBlock <;> simp), h4⟩
  rcases h with h | h
  · exact Or.inl (go _ h)
  · exact Or.inr (go _ h)
theorem PrS.then {w1 wr w' : World} {l : By} (h : PrS w1 wr l) (hb : Below wr.heap.size wr w') : PrS w1 w' l := ⟨builderF_below h.1 hb, bel_then h.2 hb⟩
theorem PrS.new (w1 : World) : PrS w1 (w1.alloc (.cells #[.pointer none, .slice none 0 0] 48)) [] := ⟨Lib.IsBuilderF.of (builder_new w1), below_box _ _⟩
theorem PrS.lt {w1 wr : World} {l : By} (h : PrS w1 wr l) : w1.heap.size < wr.heap.size := by
  rcases h.1 with h | h <;> exact h.lt
theorem wstr_any (w1 wr : World) (l : By) (s : ByteArray) (h : PrS w1 wr l) (hl : l.length + s.size ≤ 140737488355328) :
    Calls Tryd.prog 12 #[.pointer (some ⟨w1.heap.size, 0, none⟩), .string s] wr fun e w' => e = .returned (.tuple #[.int .i64 s.size, .nilIface]) ∧ PrS w1 w' (l ++ s.data.toList) ∧ Lib.OthersKept 5 (some w1.heap.size) wr w' := by
  refine (Any.Builder_WriteString_k Tryd.lays166 Tryd.Builder_Extra_156 w1.heap.size w1.heap.size (Lib.byteCells l) s wr h.1 (by rw [Lib.byteCells_length]; exact hl) h.2.size).mono ?_
  rintro e w' ⟨rfl, h1, h2, h3⟩
  refine ⟨rfl, ⟨?_, h.2.trans h2⟩, h3⟩
  have e : Lib.byteCells (l ++ s.data.toList) = Lib.byteCells l ++ Lib.strCells s := by simp [Lib.byteCells, Lib.strCells]
  rw [e]
  exact Or.inr h1
theorem bstr_any (w1 wr : World) (l : By) (h : PrS w1 wr l) :
    Calls Tryd.prog 17 #[.pointer (some ⟨w1.heap.size, 0, none⟩)] wr fun e w' => e = .returned (.string (ba l)) ∧ Below w1.heap.size w1 w' := by
  refine (Any.Builder_String_any_k Tryd.lays169 Tryd.Builder_Extra_169 w1.heap.size w1.heap.size l wr h.1 h.2.size).mono ?_
  rintro e w' ⟨rfl, -, h2, -⟩
  exact ⟨rfl, h.2.trans h2⟩
/-- A block that is no row of bytes stays as it is. -/
theorem kept_blk {b K : Nat} {cs : Array Value} {T : TypeId} {wr w' : World} (h : Lib.OthersKept 5 (some b) wr w') (hk : wr.heap[K]? = some (.cells cs T (0, 0))) (hne : K ≠ b) (hT : T ≠ 5) : w'.heap[K]? = some (.cells cs T (0, 0)) :=
  h K _ hk (by intro e; injection e with e; exact hne e) (by intro c fz e; injection e with e1 e2; exact hT e2)
theorem blk_cell {K i : Nat} {cs : Array Value} {T : TypeId} {w : World} {v : Value} (hk : w.heap[K]? = some (.cells cs T (0, 0))) (hv : cs[i]? = some v) : w.cell? ⟨K, i, none⟩ = some v := by
  simp [World.cell?, hk, hv]
theorem take_flat {α : Type} {f : α → By} {l : List α} {k : Nat} {a : α} (h : l[k]? = some a) : (l.take k).flatMap f ++ f a = (l.take (k + 1)).flatMap f := by
  obtain ⟨hk, rfl⟩ := List.getElem?_eq_some_iff.1 h
  rw [List.take_succ_eq_append_getElem hk, List.flatMap_append]
  simp
theorem flat_take_len {α : Type} {f : α → By} {m : Nat} (l : List α) (k : Nat) (h : ∀ x ∈ l, (f x).length ≤ m) (hl : l.length ≤ 16) : ((l.take k).flatMap f).length ≤ m * 16 := by
  have := flat_len (f := f) (l.take k) fun x hx => h x (List.mem_of_mem_take hx)
  have h2 : (l.take k).length ≤ 16 := by rw [List.length_take]; omega
  exact Nat.le_trans this (Nat.mul_le_mul (Nat.le_refl _) h2)
theorem jobL_len {j : FJob} (h : JobOK j) : (jobLn j).length ≤ 3000000 := by
  have ho := listL_len j.outs h.ol h.os
  have hc := listL_len j.cols h.cl h.cs
  have hn : ∀ (l : List By) (n : Nat), (∀ x ∈ l, x.length ≤ 1000) → (nthL l n).length ≤ 1000 := by
    intro l n hx
    unfold nthL
    cases hq : l[n]? with
    | none => simp
    | some y => exact hx y (List.mem_of_getElem? hq)
  have ha : ∀ (a : Ag), AgOK a → (argL a).length ≤ 2000 := by
    intro a ⟨h1, h2, h3, h4⟩
    unfold argL
    split
    · unfold valueL
      split
      · have := Lib.itoa_length_le a.2.2.1 h3 h4; omega
      · simp; omega
    · omega
  have i0 := hn j.ins 0 h.is
  have i1 := hn j.ins 1 h.is
  have c0 := hn j.cols 0 h.cs
  have c1 := hn j.cols 1 h.cs
  have al := ha _ h.l
  have ar := ha _ h.r
  have op := h.op
  have hr : (retryL j.retry).length ≤ 1000 := by
    unfold retryL
    split
    · simp
    · have := Lib.itoa_length_le j.retry (by have := h.rt; omega) (by have := h.rt; omega)
      simp [wRetry]; omega
  have hv : (verbW j.code).length ≤ 10 := by
    rcases h.code with e | e | e | e | e | e | e | e | e <;> rw [e] <;> decide
  have ho' : (listL j.outs).length ≤ 1002000 := ho
  have hc' : (listL j.cols).length ≤ 1002000 := hc
  have hb : (jobL j).length ≤ 1900000 := by
    unfold jobL
    rw [List.length_append, List.length_append, List.length_append]
    repeat' split
    all_goals simp only [List.length_append, List.length_cons, List.length_nil, wWhere, wBy]
    all_goals omega
  simp only [jobLn, List.length_append, List.length_cons, List.length_nil, wJob]
  omega
theorem outLn_len {o : FOut} (h : OutOK o) : (outLn o).length ≤ 1000 := by
  have := h.1
  have := h.2
  simp only [outLn, List.length_append, List.length_cons, List.length_nil, wOut]
  omega
theorem cols_slice {w : World} {v : Value} {xs : List (By × Int)} (h : ColsR w v xs) : ∃ a c, v = .slice a xs.length c := by
  rcases h with ⟨rfl, rfl⟩ | ⟨b, o, c, rfl, -⟩
  · exact ⟨_, _, rfl⟩
  · exact ⟨_, _, rfl⟩
theorem pr_len1 {n : Nat} {nm cm : ByteArray} (h : n ≤ 1003000 * 16) (h1 : nm.size ≤ 10) (h2 : cm.size ≤ 1002000) : n + (⟨#[105, 110, 32]⟩ ++ nm ++ ⟨#[58, 32]⟩ ++ cm ++ ⟨#[59, 10]⟩ : ByteArray).size ≤ 140737488355328 := by
  simp only [ByteArray.size_append]
  show n + (3 + nm.size + 2 + cm.size + 2) ≤ _
  omega
theorem jobLn_parts {j : FJob} (h : JobOK j) : (ba (listL j.outs)).size ≤ 3000000 ∧ (ba (retryL j.retry)).size ≤ 3000000 ∧ (ba (jobL j)).size ≤ 3000000 := by
  have := jobL_len h
  simp only [jobLn, List.length_append, List.length_cons, List.length_nil, wJob] at this
  rw [ba_size, ba_size, ba_size]
  omega
theorem job_info : (Tryd.prog.info? 61).map (·.size) = some 15 := by kernel_rfl
theorem pr_len2 {n : Nat} {a b c : ByteArray} (h : n ≤ 1003000 * 16 + 3000000 * 16) (h1 : a.size ≤ 3000000) (h2 : b.size ≤ 3000000) (h3 : c.size ≤ 3000000) : n + (⟨#[106, 111, 98, 32]⟩ ++ a ++ b ++ ⟨#[32, 61, 32]⟩ ++ c ++ ⟨#[59, 10]⟩ : ByteArray).size ≤ 140737488355328 := by
  simp only [ByteArray.size_append]
  show n + (4 + a.size + b.size + 3 + c.size + 2) ≤ _
  omega
theorem pr_len3 {n : Nat} {a b : ByteArray} (h : n ≤ 1003000 * 16 + 3000000 * 16 + 1000 * 16) (h1 : a.size ≤ 10) (h2 : b.size ≤ 10) : n + (⟨#[111, 117, 116, 32]⟩ ++ a ++ ⟨#[32, 61, 32]⟩ ++ b ++ ⟨#[59, 10]⟩ : ByteArray).size ≤ 140737488355328 := by
  simp only [ByteArray.size_append]
  show n + (4 + a.size + 3 + b.size + 2) ≤ _
  omega
theorem lt_size {a b c : Nat} (h : b ≤ c) (h' : a < b) : a < c := Nat.lt_of_lt_of_le h' h
theorem blk_three {K : Nat} {JL : List Value} {T : TypeId} {V : World} {a b : Value} (hV : V.heap[K]? = some (.cells JL.toArray T (0, 0))) (h2 : JL[2]? = some a) (h14 : JL[14]? = some b) : V.cell? ⟨K, 2, none⟩ = some a ∧ V.cell? ⟨K, 14, none⟩ = some b ∧ V.rangeAt K 0 JL :=
  ⟨blk_cell hV (by simpa using h2), blk_cell hV (by simpa using h14), Box.range ⟨T, hV⟩⟩
abbrev zeroJ : Array Value := #[.int .i64 0, .int .i64 0, .slice none 0 0, .slice none 0 0, .slice none 0 0, .string ⟨#[]⟩, .string ⟨#[]⟩, .int .i64 0, .int .i64 0, .string ⟨#[]⟩, .string ⟨#[]⟩, .int .i64 0, .int .i64 0, .string ⟨#[]⟩, .int .i64 0]
theorem job_there (wr : World) : (wr.alloc (.cells zeroJ 61)).there wr.heap.size 0 15 := (Box.new wr zeroJ.toList 61 _ rfl).there
theorem below_setCells {B k : Nat} (h : B ≤ k) : ∀ (us : List Value) (o : Nat) (w : World), Below B w (w.setCells k o us)
  | [], o, w => Below.refl _ _
  | u :: us, o, w => ((Below.refl B w).setCell (p := ⟨k, o, none⟩) h u).trans (below_setCells h us (o + 1) _)
theorem size_sets (k : Nat) : ∀ (us : List Value) (o : Nat) (w : World), (w.setCells k o us).heap.size = w.heap.size
  | [], o, w => rfl
  | u :: us, o, w => by rw [World.setCells, size_sets k us (o + 1) _, size_set]
theorem sets_typed {k : Nat} {T : TypeId} : ∀ (us : List Value) (o : Nat) (w : World), (∃ vs, w.heap[k]? = some (.cells vs T (0, 0))) → ∃ vs, (w.setCells k o us).heap[k]? = some (.cells vs T (0, 0))
  | [], o, w, h => h
  | u :: us, o, w, ⟨vs, h⟩ => sets_typed us (o + 1) _ ⟨vs.setIfInBounds o u, by simp [World.setCell, Array.getElem?_modify, h]⟩
theorem job_stored (wr : World) (JL : List Value) (h : JL.length = 15) : ((wr.alloc (.cells zeroJ 61)).setCells wr.heap.size 0 JL).heap[wr.heap.size]? = some (.cells JL.toArray 61 (0, 0)) := by
  obtain ⟨vs, hv⟩ := sets_typed (k := wr.heap.size) (T := 61) JL 0 (wr.alloc (.cells zeroJ 61)) ⟨zeroJ, heap_alloc_new _ _⟩
  obtain ⟨T, hT⟩ := (Box.new wr zeroJ.toList 61 _ rfl).full (us := JL) (by rw [h]; rfl)
  have e := hv.symm.trans hT
  simp only [Option.some.injEq, Obj.cells.injEq] at e
  rw [hv, e.1]
end Go.Proofs.YtajkjhkjgibcfaaDoor

