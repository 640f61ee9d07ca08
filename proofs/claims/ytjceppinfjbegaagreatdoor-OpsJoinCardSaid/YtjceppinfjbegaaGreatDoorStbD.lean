import Derived.Test.YtjceppinfjbegaaGreatDoorWalkC
import Derived.Shelf.SlSortCmp.Kit1
import Derived.Sort.WalkA
import Derived.Sort.WalkB2
import Derived.Sort.WalkB12
import Derived.Deep.LoopGhost
set_option linter.unusedSimpArgs false
set_option linter.unusedVariables false
namespace Go.Proofs.YtjceppinfjbegaaGreatDoor
namespace Stb
variable {α : Type}

/-- A strict weak order. -/
structure Ord (lt : α → α → Bool) : Prop where
  asymm : ∀ a b, lt a b = true → lt b a = false
  ntrans : ∀ a b c, lt a b = false → lt b c = false → lt a c = false

theorem Ord.irr {lt : α → α → Bool} (h : Ord lt) (a : α) : lt a a = false := by
  cases e : lt a a with
  | false => rfl
  | true => exact (h.asymm a a e).symm.trans e |>.symm ▸ rfl
/-- What is ahead of what is not behind. -/
theorem Ord.lt_le {lt : α → α → Bool} (h : Ord lt) {a b c : α} (h1 : lt a b = true) (h2 : lt c b = false) : lt a c = true := by
  cases e : lt a c with
  | true => rfl
  | false => exact absurd (h.ntrans a c b e h2) (by rw [h1]; decide)
theorem Ord.le_lt {lt : α → α → Bool} (h : Ord lt) {a b c : α} (h1 : lt b a = false) (h2 : lt b c = true) : lt a c = true := by
  cases e : lt a c with
  | true => rfl
  | false => exact absurd (h.ntrans b a c h1 e) (by rw [h2]; decide)

def eqv (lt : α → α → Bool) (x y : α) : Bool := !lt x y && !lt y x
def Sorted (lt : α → α → Bool) (l : List α) : Prop := l.Pairwise (fun a b => lt b a = false)
/-- Of equals the same ones, in the same order. -/
def Same (lt : α → α → Bool) (l l' : List α) : Prop := ∀ x, l.filter (eqv lt x) = l'.filter (eqv lt x)

theorem Same.refl (lt : α → α → Bool) (l : List α) : Same lt l l := fun _ => rfl
theorem Same.trans {lt : α → α → Bool} {a b c : List α} (h : Same lt a b) (h' : Same lt b c) : Same lt a c := fun x => (h x).trans (h' x)
theorem Same.symm {lt : α → α → Bool} {a b : List α} (h : Same lt a b) : Same lt b a := fun x => (h x).symm
theorem Same.app {lt : α → α → Bool} {a b c d : List α} (h : Same lt a b) (h' : Same lt c d) : Same lt (a ++ c) (b ++ d) := fun x => by rw [List.filter_append, List.filter_append, h x, h' x]
theorem eqv_self {lt : α → α → Bool} (h : Ord lt) (x : α) : eqv lt x x = true := by simp [eqv, h.irr]
theorem Same.mem {lt : α → α → Bool} (ho : Ord lt) {a b : List α} (h : Same lt a b) {x : α} : x ∈ a ↔ x ∈ b := by
  have key : ∀ l : List α, x ∈ l ↔ x ∈ l.filter (eqv lt x) := fun l => by rw [List.mem_filter]; exact ⟨fun h => ⟨h, eqv_self ho x⟩, fun h => h.1⟩
  rw [key a, key b, h x]
/-- Two parts that are apart may be turned. -/
theorem Same.swap {lt : α → α → Bool} (ho : Ord lt) {X Y : List α} (h : ∀ x ∈ X, ∀ y ∈ Y, lt y x = true) : Same lt (X ++ Y) (Y ++ X) := by
  intro z
  rw [List.filter_append, List.filter_append]
  by_cases hx : X.filter (eqv lt z) = []
  · rw [hx]; simp
  · have hy : Y.filter (eqv lt z) = [] := by
      obtain ⟨x, hxm⟩ := List.exists_mem_of_ne_nil _ hx
      rw [List.mem_filter] at hxm
      rw [List.filter_eq_nil_iff]
      intro y hym hyz
      have h1 := h x hxm.1 y hym
      have h2 := hxm.2
      simp only [eqv, Bool.and_eq_true, Bool.not_eq_true'] at h2 hyz
      -- lt y z = false, lt z x = false -> lt y x = false
      exact absurd (ho.ntrans y z x hyz.2 h2.1) (by rw [h1]; decide)
    rw [hy]; simp
theorem Sorted.app {lt : α → α → Bool} {X Y : List α} : Sorted lt (X ++ Y) ↔ Sorted lt X ∧ Sorted lt Y ∧ ∀ x ∈ X, ∀ y ∈ Y, lt y x = false := by
  unfold Sorted; exact List.pairwise_append
/-- What is sorted, and has the same, is one list. -/
theorem sorted_one {lt : α → α → Bool} (ho : Ord lt) : ∀ {a b : List α}, Sorted lt a → Sorted lt b → Same lt a b → a = b
  | [], [], _, _, _ => rfl
  | [], y :: b, _, _, h => absurd ((h.mem ho (x := y)).2 (by simp)) (by simp)
  | x :: a, [], _, _, h => absurd ((h.mem ho (x := x)).1 (by simp)) (by simp)
  | x :: a, y :: b, ha, hb, h => by
    have hxy : eqv lt x y = true := by
      simp only [eqv, Bool.and_eq_true, Bool.not_eq_true']
      constructor
      · have := (h.mem ho (x := x)).1 (by simp)
        rcases List.mem_cons.1 this with e | hm
        · subst e; exact ho.irr _
        · exact (List.pairwise_cons.1 hb).1 x hm
      · have := (h.mem ho (x := y)).2 (by simp)
        rcases List.mem_cons.1 this with e | hm
        · subst e; exact ho.irr _
        · exact (List.pairwise_cons.1 ha).1 y hm
    have h1 := h x
    rw [List.filter_cons_of_pos (eqv_self ho x), List.filter_cons_of_pos hxy] at h1
    obtain ⟨e, h2⟩ := List.cons.inj h1
    subst e
    have : Same lt a b := fun z => by
      have := h z
      by_cases hz : eqv lt z x = true
      · rw [List.filter_cons_of_pos hz, List.filter_cons_of_pos hz] at this
        exact (List.cons.inj this).2
      · rw [List.filter_cons_of_neg hz, List.filter_cons_of_neg hz] at this
        exact this
    rw [sorted_one ho (List.pairwise_cons.1 ha).2 (List.pairwise_cons.1 hb).2 this]
theorem Same.len {lt : α → α → Bool} (ho : Ord lt) : ∀ {a b : List α}, Same lt a b → a.length = b.length
  | [], b, h => by
    cases b with
    | nil => rfl
    | cons y b => exact absurd ((h.mem ho (x := y)).2 (by simp)) (by simp)
  | x :: a, b, h => by
    have hm := (h.mem ho (x := x)).1 (by simp)
    -- the first of b that is alike is x
    have h1 := h x
    rw [List.filter_cons_of_pos (eqv_self ho x)] at h1
    obtain ⟨p, q, hb, hp, h2⟩ : ∃ p q, b = p ++ x :: q ∧ (∀ y ∈ p, ¬ eqv lt x y = true) ∧ a.filter (eqv lt x) = q.filter (eqv lt x) := by
      obtain ⟨p, q, e1, e2, e3, e4⟩ := List.filter_eq_cons_iff.1 h1.symm
      exact ⟨p, q, e1, e2, e4.symm⟩
    subst hb
    have : Same lt a (p ++ q) := fun z => by
      have hz := h z
      by_cases hzx : eqv lt z x = true
      · have hpz : p.filter (eqv lt z) = [] := by
          rw [List.filter_eq_nil_iff]
          intro y hy hzy
          refine hp y hy ?_
          simp only [eqv, Bool.and_eq_true, Bool.not_eq_true'] at hzx hzy ⊢
          exact ⟨ho.ntrans _ _ _ hzx.2 hzy.1, ho.ntrans _ _ _ hzy.2 hzx.1⟩
        rw [List.filter_append, hpz] at hz ⊢
        rw [List.filter_cons_of_pos hzx, List.nil_append, List.filter_cons_of_pos hzx] at hz
        rw [List.nil_append]
        exact (List.cons.inj hz).2
      · rw [List.filter_cons_of_neg hzx, List.filter_append, List.filter_cons_of_neg hzx] at hz
        rw [List.filter_append]; exact hz
    have := Same.len ho this
    simp at this ⊢
    omega
theorem Same.filter {lt : α → α → Bool} {a b : List α} (h : Same lt a b) (p : α → Bool) : Same lt (a.filter p) (b.filter p) := fun x => by
  have := congrArg (List.filter p) (h x)
  rw [List.filter_filter, List.filter_filter] at this
  rw [List.filter_filter, List.filter_filter]
  have e : (fun a => eqv lt x a && p a) = (fun a => p a && eqv lt x a) := by funext a; exact Bool.and_comm _ _
  rw [e]; exact this
theorem Sorted.filter {lt : α → α → Bool} {a : List α} (h : Sorted lt a) (p : α → Bool) : Sorted lt (a.filter p) := List.Pairwise.filter p h
/-- One more, put where it belongs. -/
theorem put_one {lt : α → α → Bool} (ho : Ord lt) {A C : List α} {x : α} (hs : Sorted lt (A ++ C)) (hC : ∀ c ∈ C, lt x c = true) (hA : ∀ a ∈ A, lt x a = false) : Sorted lt (A ++ x :: C) ∧ Same lt (A ++ C ++ [x]) (A ++ x :: C) := by
  obtain ⟨h1, h2, h3⟩ := Sorted.app.1 hs
  refine ⟨Sorted.app.2 ⟨h1, List.pairwise_cons.2 ⟨fun c hc => ho.asymm _ _ (hC c hc), h2⟩, ?_⟩, ?_⟩
  · intro a ha y hy
    rcases List.mem_cons.1 hy with rfl | hy
    · exact hA a ha
    · exact h3 a ha y hy
  · rw [List.append_assoc]
    refine (Same.refl lt A).app ?_
    refine (Same.swap ho (X := C) (Y := [x]) ?_)
    intro c hc y hy
    simp at hy; subst hy; exact hC c hc
/-- Two parts, cut and put together again. -/
theorem sym_cut {lt : α → α → Bool} (ho : Ord lt) {L1 L2 R1 R2 M N : List α} (hL : Sorted lt (L1 ++ L2)) (hR : Sorted lt (R1 ++ R2)) (h1 : ∀ x ∈ L2, ∀ y ∈ R1, lt y x = true) (h2 : ∀ x ∈ L1, ∀ y ∈ R2, lt y x = false)
    (hM : Sorted lt M) (hM' : Same lt (L1 ++ R1) M) (hN : Sorted lt N) (hN' : Same lt (L2 ++ R2) N) : Sorted lt (M ++ N) ∧ Same lt ((L1 ++ L2) ++ (R1 ++ R2)) (M ++ N) := by
  obtain ⟨a1, a2, a3⟩ := Sorted.app.1 hL
  obtain ⟨b1, b2, b3⟩ := Sorted.app.1 hR
  refine ⟨Sorted.app.2 ⟨hM, hN, ?_⟩, ?_⟩
  · intro x hx y hy
    rw [← hM'.mem ho] at hx
    rw [← hN'.mem ho] at hy
    rcases List.mem_append.1 hx with hx | hx <;> rcases List.mem_append.1 hy with hy | hy
    · exact a3 x hx y hy
    · exact h2 x hx y hy
    · exact ho.asymm _ _ (h1 y hy x hx)
    · exact b3 x hx y hy
  · have e : Same lt ((L1 ++ L2) ++ (R1 ++ R2)) ((L1 ++ R1) ++ (L2 ++ R2)) := by
      rw [List.append_assoc, List.append_assoc]
      refine (Same.refl lt L1).app ?_
      rw [← List.append_assoc, ← List.append_assoc]
      exact (Same.swap ho h1).app (Same.refl lt R2)
    exact e.trans (hM'.app hN')
/-- One, ahead of a part, put where it belongs. -/
theorem put_first {lt : α → α → Bool} (ho : Ord lt) {A C : List α} {x : α} (hs : Sorted lt (A ++ C)) (hA : ∀ a ∈ A, lt a x = true) (hC : ∀ c ∈ C, lt c x = false) : Sorted lt (A ++ x :: C) ∧ Same lt (x :: (A ++ C)) (A ++ x :: C) := by
  obtain ⟨h1, h2, h3⟩ := Sorted.app.1 hs
  refine ⟨Sorted.app.2 ⟨h1, List.pairwise_cons.2 ⟨hC, h2⟩, ?_⟩, ?_⟩
  · intro a ha y hy
    rcases List.mem_cons.1 hy with rfl | hy
    · exact ho.asymm _ _ (hA a ha)
    · exact h3 a ha y hy
  · have := (Same.swap ho (X := [x]) (Y := A) (by intro z hz y hy; simp at hz; subst hz; exact hA y hy)).app (Same.refl lt C)
    simpa using this
theorem sorted_head {lt : α → α → Bool} (ho : Ord lt) {x0 : α} {l : List α} (h : Sorted lt (x0 :: l)) : ∀ x ∈ x0 :: l, lt x x0 = false := by
  intro x hx
  rcases List.mem_cons.1 hx with rfl | hx
  · exact ho.irr _
  · exact (List.pairwise_cons.1 h).1 x hx
theorem sorted_last {lt : α → α → Bool} (ho : Ord lt) {y0 : α} {l : List α} (h : Sorted lt (l ++ [y0])) : ∀ y ∈ l ++ [y0], lt y0 y = false := by
  intro y hy
  rcases List.mem_append.1 hy with hy | hy
  · exact (Sorted.app.1 h).2.2 y hy y0 (by simp)
  · simp at hy; subst hy; exact ho.irr _
/-- Where two parts are cut. -/
theorem sym_find {lt : α → α → Bool} (ho : Ord lt) {P L R S : List α} {a m b mid start : Nat} (hP : P.length = a) (hL : L.length = m - a) (hR : R.length = b - m) (ham : a < m) (hmb : m < b) (hmid : mid = (a + b) / 2) (sL : Sorted lt L) (sR : Sorted lt R)
    (hlo : (if mid < m then mid + m - b else a) ≤ start) (hhi : start ≤ if mid < m then mid else m)
    (hA : start = (if mid < m then mid + m - b else a) ∨ ∀ x y, (P ++ (L ++ (R ++ S)))[start - 1]? = some x → (P ++ (L ++ (R ++ S)))[mid + m - start]? = some y → lt y x = false)
    (hB : start = (if mid < m then mid else m) ∨ ∀ x y, (P ++ (L ++ (R ++ S)))[start]? = some x → (P ++ (L ++ (R ++ S)))[mid + m - 1 - start]? = some y → lt y x = true) :
    ∃ L1 L2 R1 R2, L = L1 ++ L2 ∧ R = R1 ++ R2 ∧ L1.length = start - a ∧ R1.length = mid - start ∧ (∀ x ∈ L2, ∀ y ∈ R1, lt y x = true) ∧ ∀ x ∈ L1, ∀ y ∈ R2, lt y x = false := by
  have hsa : a ≤ start := by split at hlo <;> omega
  have hsm : start ≤ m := by split at hhi <;> omega
  have hsd : start ≤ mid := by split at hhi <;> omega
  have hse : mid + m - start ≤ b := by split at hlo <;> omega
  refine ⟨L.take (start - a), L.drop (start - a), R.take (mid - start), R.drop (mid - start), (List.take_append_drop _ _).symm, (List.take_append_drop _ _).symm, by rw [List.length_take]; omega, by rw [List.length_take]; omega, ?_, ?_⟩
  · by_cases hm : start = m
    · intro x hx
      rw [List.drop_eq_nil_of_le (by omega)] at hx
      simp at hx
    by_cases hd : start = mid
    · intro x _ y hy
      rw [hd, Nat.sub_self, List.take_zero] at hy
      simp at hy
    have hB' := hB.resolve_left (by split <;> omega)
    have e1 : (P ++ (L ++ (R ++ S)))[start]? = some (L[start - a]'(by omega)) := by
      rw [List.getElem?_append_right (by omega), List.getElem?_append_left (by omega), hP, List.getElem?_eq_getElem]
    have e2 : (P ++ (L ++ (R ++ S)))[mid + m - 1 - start]? = some (R[mid - start - 1]'(by omega)) := by
      rw [List.getElem?_append_right (by omega), List.getElem?_append_right (by omega), List.getElem?_append_left (by omega), hP, hL, ← List.getElem?_eq_getElem]
      congr 1
      omega
    have h0 := hB' _ _ e1 e2
    have hl2 : L.drop (start - a) = L[start - a]'(by omega) :: L.drop (start - a + 1) := by rw [List.drop_eq_getElem_cons (by omega)]
    have hr1 : R.take (mid - start) = R.take (mid - start - 1) ++ [R[mid - start - 1]'(by omega)] := by
      have := List.take_succ_eq_append_getElem (l := R) (i := mid - start - 1) (by omega)
      rw [show mid - start - 1 + 1 = mid - start by omega] at this
      exact this
    have s1 := (Sorted.app.1 ((List.take_append_drop (start - a) L).symm ▸ sL)).2.1
    have s2 := (Sorted.app.1 ((List.take_append_drop (mid - start) R).symm ▸ sR)).1
    rw [hl2] at s1 ⊢
    rw [hr1] at s2 ⊢
    intro x hx y hy
    have k1 := sorted_head ho s1 x hx
    have k2 := sorted_last ho s2 y hy
    exact ho.lt_le (ho.le_lt k2 h0) k1
  · by_cases hm : start = a
    · intro x hx
      rw [hm, Nat.sub_self, List.take_zero] at hx
      simp at hx
    by_cases hd : mid + m - start = b
    · intro x _ y hy
      rw [List.drop_eq_nil_of_le (by omega)] at hy
      simp at hy
    have hA' := hA.resolve_left (by split <;> omega)
    have e1 : (P ++ (L ++ (R ++ S)))[start - 1]? = some (L[start - a - 1]'(by omega)) := by
      rw [List.getElem?_append_right (by omega), List.getElem?_append_left (by omega), hP, ← List.getElem?_eq_getElem]
      congr 1
      omega
    have e2 : (P ++ (L ++ (R ++ S)))[mid + m - start]? = some (R[mid - start]'(by omega)) := by
      rw [List.getElem?_append_right (by omega), List.getElem?_append_right (by omega), List.getElem?_append_left (by omega), hP, hL, ← List.getElem?_eq_getElem]
      congr 1
      omega
    have h0 := hA' _ _ e1 e2
    have hr2 : R.drop (mid - start) = R[mid - start]'(by omega) :: R.drop (mid - start + 1) := by rw [List.drop_eq_getElem_cons (by omega)]
    have hl1 : L.take (start - a) = L.take (start - a - 1) ++ [L[start - a - 1]'(by omega)] := by
      have := List.take_succ_eq_append_getElem (l := L) (i := start - a - 1) (by omega)
      rw [show start - a - 1 + 1 = start - a by omega] at this
      exact this
    have s1 := (Sorted.app.1 ((List.take_append_drop (start - a) L).symm ▸ sL)).1
    have s2 := (Sorted.app.1 ((List.take_append_drop (mid - start) R).symm ▸ sR)).2.1
    rw [hr2] at s2 ⊢
    rw [hl1] at s1 ⊢
    intro x hx y hy
    have k1 := sorted_last ho s1 x hx
    have k2 := sorted_head ho s2 y hy
    exact ho.ntrans _ _ _ (ho.ntrans _ _ _ k2 h0) k1
theorem cut_two {lt : α → α → Bool} {R : List α} (sR : Sorted lt R) (k : Nat) (hk : k ≤ R.length) (p : α → Bool) (hup : ∀ x y, lt y x = false → p x = false → p y = false) (hdn : ∀ x y, lt y x = false → p y = true → p x = true)
    (hA : k = 0 ∨ ∀ y, R[k - 1]? = some y → p y = true) (hB : k = R.length ∨ ∀ y, R[k]? = some y → p y = false) (ho : Ord lt) :
    ∃ R1 R2, R = R1 ++ R2 ∧ R1.length = k ∧ (∀ y ∈ R1, p y = true) ∧ ∀ y ∈ R2, p y = false := by
  refine ⟨R.take k, R.drop k, (List.take_append_drop _ _).symm, by rw [List.length_take]; omega, ?_, ?_⟩
  · rcases hA with rfl | hA
    · intro y hy; simp at hy
    · intro y hy
      have hk0 : 0 < k := by
        rcases Nat.eq_zero_or_pos k with rfl | h
        · simp at hy
        · exact h
      have h0 := hA _ (List.getElem?_eq_getElem (by omega))
      have hr1 : R.take k = R.take (k - 1) ++ [R[k - 1]'(by omega)] := by
        have := List.take_succ_eq_append_getElem (l := R) (i := k - 1) (by omega)
        rw [show k - 1 + 1 = k by omega] at this
        exact this
      have s2 := (Sorted.app.1 ((List.take_append_drop k R).symm ▸ sR)).1
      rw [hr1] at s2 hy
      exact hdn _ _ (sorted_last ho s2 y hy) h0
  · intro y hy
    have hk1 : k < R.length := by
      rcases Nat.lt_or_ge k R.length with h | h
      · exact h
      · rw [List.drop_eq_nil_of_le h] at hy; simp at hy
    have h0 := hB.resolve_left (by omega) _ (List.getElem?_eq_getElem hk1)
    have s2 := (Sorted.app.1 ((List.take_append_drop k R).symm ▸ sR)).2.1
    rw [List.drop_eq_getElem_cons hk1] at s2 hy
    exact hup _ _ (sorted_head ho s2 y hy) h0
/-- Where one that is ahead of a part belongs. -/
theorem find_first {lt : α → α → Bool} (ho : Ord lt) {P R S : List α} {x : α} {a m b i : Nat} (hP : P.length = a) (ham : m = a + 1) (hR : R.length = b - m) (hmi : m ≤ i) (hib : i ≤ b) (sR : Sorted lt R)
    (hA : i = m ∨ ∀ y, (P ++ ([x] ++ (R ++ S)))[i - 1]? = some y → lt y x = true) (hB : i = b ∨ ∀ y, (P ++ ([x] ++ (R ++ S)))[i]? = some y → lt y x = false) :
    ∃ R1 R2, R = R1 ++ R2 ∧ R1.length = i - m ∧ (∀ y ∈ R1, lt y x = true) ∧ ∀ y ∈ R2, lt y x = false := by
  refine cut_two sR (i - m) (by omega) (fun y => lt y x) (fun u v h1 h2 => ho.ntrans _ _ _ h1 h2) (fun u v h1 h2 => ho.le_lt h1 h2) ?_ ?_ ho
  · rcases hA with h | h
    · left; omega
    · by_cases h0 : i = m
      · left; omega
      · right; intro y hy
        refine h y ?_
        rw [List.getElem?_append_right (by omega), List.getElem?_append_right (by simp; omega), List.getElem?_append_left (by simp; omega), ← hy]
        congr 1
        simp
        omega
  · rcases hB with h | h
    · left; omega
    · by_cases h0 : i = b
      · left; omega
      · right; intro y hy
        refine h y ?_
        rw [List.getElem?_append_right (by omega), List.getElem?_append_right (by simp; omega), List.getElem?_append_left (by simp; omega), ← hy]
        congr 1
        simp
        omega
/-- Where one that is behind a part belongs. -/
theorem find_last {lt : α → α → Bool} (ho : Ord lt) {P L S : List α} {x : α} {a m i : Nat} (hP : P.length = a) (hL : L.length = m - a) (hai : a ≤ i) (him : i ≤ m) (sL : Sorted lt L)
    (hA : i = a ∨ ∀ y, (P ++ (L ++ S))[i - 1]? = some y → lt x y = false) (hB : i = m ∨ ∀ y, (P ++ (L ++ S))[i]? = some y → lt x y = true) :
    ∃ L1 L2, L = L1 ++ L2 ∧ L1.length = i - a ∧ (∀ y ∈ L1, lt x y = false) ∧ ∀ y ∈ L2, lt x y = true := by
  have := cut_two sL (i - a) (by omega) (fun y => !lt x y) (fun u v h1 h2 => ?_) (fun u v h1 h2 => ?_) ?_ ?_ ho
  · simpa using this
  · simp at h2 ⊢; exact ho.lt_le h2 h1
  · simp at h2 ⊢; exact ho.ntrans _ _ _ h2 h1
  · rcases hA with h | h
    · left; omega
    · by_cases h0 : i = a
      · left; omega
      · right; intro y hy
        have := h y (by
          rw [List.getElem?_append_right (by omega), List.getElem?_append_left (by omega), ← hy]
          congr 1
          omega)
        simp [this]
  · rcases hB with h | h
    · left; omega
    · by_cases h0 : i = m
      · left; omega
      · right; intro y hy
        have := h y (by
          rw [List.getElem?_append_right (by omega), List.getElem?_append_left (by omega), ← hy]
          congr 1
          omega)
        simp [this]
end Stb
end Go.Proofs.YtjceppinfjbegaaGreatDoor

namespace Go.Proofs.YtjceppinfjbegaaGreatDoor
namespace Stb
open Go.Shelf Go.RowKit Go.Lib Go.Sort
variable {α : Type} [Inhabited α]
theorem arr_at (A C : List α) (x : α) (k : Nat) (hk : k = A.length) : ((A ++ x :: C).toArray)[k]! = x := by
  subst hk
  simp
theorem swp_list (A B C : List α) (x y : α) (i j : Nat) (hi : i = A.length) (hj : j = A.length + 1 + B.length) : swp (A ++ x :: (B ++ y :: C)).toArray i j = (A ++ y :: (B ++ x :: C)).toArray := by
  have h1 := arr_at A (B ++ y :: C) x i hi
  have h2 : ((A ++ x :: (B ++ y :: C)).toArray)[j]! = y := by
    have := arr_at (A ++ x :: B) C y j (by simp; omega)
    simpa using this
  unfold swp
  rw [h1, h2]
  subst hi
  simp only [List.setIfInBounds_toArray]
  congr 1
  rw [List.set_append_right _ _ (Nat.le_refl _), Nat.sub_self, List.set_cons_zero, List.set_append_right _ _ (by omega), show j - A.length = B.length + 1 by omega, List.set_cons_succ, List.set_append_right _ _ (Nat.le_refl _), Nat.sub_self, List.set_cons_zero]
theorem swp_list' (A B C : List α) (x y : α) (i j : Nat) (hi : i = A.length) (hj : j = A.length + 1 + B.length) : swp (A ++ x :: (B ++ y :: C)).toArray j i = (A ++ y :: (B ++ x :: C)).toArray := by
  have h1 := arr_at A (B ++ y :: C) x i hi
  have h2 : ((A ++ x :: (B ++ y :: C)).toArray)[j]! = y := by
    have := arr_at (A ++ x :: B) C y j (by simp; omega)
    simpa using this
  unfold swp
  rw [h1, h2]
  subst hi
  simp only [List.setIfInBounds_toArray]
  congr 1
  rw [List.set_append_right _ _ (by omega), show j - A.length = B.length + 1 by omega, List.set_cons_succ, List.set_append_right _ _ (Nat.le_refl _), Nat.sub_self, List.set_cons_zero, List.set_append_right _ _ (Nat.le_refl _), Nat.sub_self, List.set_cons_zero]
theorem arr_get (l : List α) (k : Nat) (hk : k < l.length) : l[k]? = some (l.toArray[k]!) := by
  rw [List.getElem?_eq_getElem hk, getElem!_pos _ _ (by simpa using hk)]
  simp

set_option maxHeartbeats 4000000 in
set_option maxRecDepth 1000000 in
/-- Two parts of one length, apart, turned. -/
theorem swapRange_any (enc : α → Value) (cv : Value) (blk off cap a b n N : Nat) (P X M Y S : List α) (d0 : Array α) (w0 w : World) (R : Row1 enc w0 blk off d0) (hN : d0.size = N) (hlen : (P ++ (X ++ (M ++ (Y ++ S)))).length = N) (ha : P.length = a) (hX : X.length = n) (hY : Y.length = n) (hb : b = a + n + M.length) (hsz : N < 4611686018427387904)
    (S0 : SW enc w0 blk off (P ++ (X ++ (M ++ (Y ++ S)))).toArray w) :
    Calls Tryz.prog 207 #[.slice (some ⟨blk, off, none⟩) N cap, .int .i64 a, .int .i64 b, .int .i64 n, cv] w fun e w' => e = .returned (.tuple #[]) ∧ SW enc w0 blk off (P ++ (Y ++ (M ++ (X ++ S)))).toArray w' := by
  have mixed : Tryz.prog.follows .mixedOrders = true := by kernel_rfl
  have hcl0 := R.hO.cells
  simp only [Value.cells] at hcl0
  have hst := R.hO.store Tryz.prog
  have HS : Aside (SW enc w0 blk off (P ++ (X ++ (M ++ (Y ++ S)))).toArray w) := S0
  have hlen' : P.length + (X.length + (M.length + (Y.length + S.length))) = N := by simpa using hlen
  clear S0 hlen
  go_enter Tryz.func207, Tryz.ntmps207
  go_wp2
  go_loopg [10] n (fun g1 vi wr => ∃ (i : Nat) (X1 X2 Y1 Y2 : List α), vi = .int .i64 i ∧ i ≤ n ∧ n - i ≤ g1 ∧ X = X1 ++ X2 ∧ Y = Y1 ++ Y2 ∧ X1.length = i ∧ Y1.length = i ∧ Aside (SW enc w0 blk off (P ++ (Y1 ++ (X2 ++ (M ++ (X1 ++ (Y2 ++ S)))))).toArray wr))
  case atStart => exact ⟨0, [], X, [], Y, rfl, by omega, by omega, rfl, rfl, rfl, rfl, HS⟩
  case round =>
    clear HS
    obtain ⟨i, X1, X2, Y1, Y2, rfl, hi, hg, hX', hY', h1, h2, S1⟩ := hrel
    by_cases hlt : i < n
    · have hltz : (i : Int) < (n : Int) := by omega
      have hxl : X2.length = n - i := by rw [hX', List.length_append] at hX; omega
      have hyl : Y2.length = n - i := by rw [hY', List.length_append] at hY; omega
      obtain ⟨x, X3, rfl⟩ : ∃ x l, X2 = x :: l := by cases X2 with | nil => simp at hxl; omega | cons x l => exact ⟨x, l, rfl⟩
      obtain ⟨y, Y3, rfl⟩ : ∃ x l, Y2 = x :: l := by cases Y2 with | nil => simp at hyl; omega | cons x l => exact ⟨x, l, rfl⟩
      simp only [List.length_cons] at hxl hyl
      obtain ⟨iN, hiN⟩ : ∃ q, q = a + i := ⟨_, rfl⟩
      obtain ⟨jN, hjN⟩ : ∃ q, q = b + i := ⟨_, rfl⟩
      have hsd : (P ++ (Y1 ++ (x :: X3 ++ (M ++ (X1 ++ (y :: Y3 ++ S)))))).toArray.size = N := by simp; omega
      obtain ⟨dk, hdk⟩ : ∃ q, q = (P ++ (Y1 ++ (x :: X3 ++ (M ++ (X1 ++ (y :: Y3 ++ S)))))).toArray := ⟨_, rfl⟩
      have gx : dk[iN]! = x := by rw [hdk]; have := arr_at (P ++ Y1) (X3 ++ (M ++ (X1 ++ (y :: Y3 ++ S)))) x iN (by simp; omega); simpa using this
      have gy : dk[jN]! = y := by rw [hdk]; have := arr_at (P ++ (Y1 ++ (x :: X3 ++ (M ++ X1)))) (Y3 ++ S) y jN (by simp; omega); simpa using this
      have gs : swp dk iN jN = (P ++ ((Y1 ++ [y]) ++ (X3 ++ (M ++ ((X1 ++ [x]) ++ (Y3 ++ S)))))).toArray := by rw [hdk]; have := swp_list (P ++ Y1) (X3 ++ (M ++ X1)) (Y3 ++ S) x y iN jN (by simp; omega) (by simp; omega); simpa using this
      rw [← hdk] at S1 hsd
      have ea : ((a : Int) + (i : Int)).toNat = iN := by omega
      have pa : (0 : Int) ≤ (a : Int) + (i : Int) := by omega
      have ba : (a : Int) + (i : Int) < (N : Int) := by omega
      have ra : IntKind.i64.wrap ((a : Int) + (i : Int)) = (a : Int) + (i : Int) := by rw [IntKind.wrap_i64]; omega
      have ec : ((b : Int) + (i : Int)).toNat = jN := by omega
      have pc : (0 : Int) ≤ (b : Int) + (i : Int) := by omega
      have bc : (b : Int) + (i : Int) < (N : Int) := by omega
      have rc : IntKind.i64.wrap ((b : Int) + (i : Int)) = (b : Int) + (i : Int) := by rw [IntKind.wrap_i64]; omega
      have S3 : Aside (SW enc w0 blk off (swp dk iN jN) ((wr.setCell ⟨blk, off + iN, none⟩ (enc y)).setCell ⟨blk, off + jN, none⟩ (enc x)).drew) := by
        have := S1.out.swapped R iN jN (by omega) (by omega)
        rw [gx, gy] at this
        exact this
      have ca := S1.out.c1 R (by omega) iN (by omega)
      have cb := S1.out.c1 R (by omega) jN (by omega)
      have fa := S1.out.f1 R (by omega) iN (by omega)
      have fb := S1.out.f1 R (by omega) jN (by omega)
      obtain ⟨u, cc⟩ := S1.out.c2 R (by omega) iN jN (by omega) (by omega) (enc y)
      rw [gx] at ca
      rw [gy] at cb
      have GS : Aside (swp dk iN jN = (P ++ ((Y1 ++ [y]) ++ (X3 ++ (M ++ ((X1 ++ [x]) ++ (Y3 ++ S)))))).toArray) := gs
      have HXY : Aside (X = X1 ++ x :: X3 ∧ Y = Y1 ++ y :: Y3 ∧ X1.length = i ∧ Y1.length = i) := ⟨hX', hY', h1, h2⟩
      have HB : Aside (b = a + n + M.length) := hb
      clear S1 gx gy gs hdk hX' hY' h1 h2 hsd hxl hyl hiN hjN hb ha hX hY hlen'
      go_wp2_with fail
      go_big_region_o
      clear ca cb cc fa fb
      generalize ((wr.setCell ⟨blk, off + iN, none⟩ (enc y)).setCell ⟨blk, off + jN, none⟩ (enc x)).drew = w3 at S3 ⊢
      clear ea ec
      go_wp2
      go_roundg (gk - 1)
      case measure => omega
      case rel => exact ⟨i + 1, X1 ++ [x], X3, Y1 ++ [y], Y3, by go_num, by omega, by omega, by rw [HXY.out.1]; simp, by rw [HXY.out.2.1]; simp, by simp [HXY.out.2.2.1], by simp [HXY.out.2.2.2], by have := S3.out; rw [GS.out] at this; exact this⟩
    · have hltz : ¬ ((i : Int) < (n : Int)) := by omega
      have hx2 : X2 = [] := by rw [hX', List.length_append] at hX; exact List.length_eq_zero_iff.1 (by omega)
      have hy2 : Y2 = [] := by rw [hY', List.length_append] at hY; exact List.length_eq_zero_iff.1 (by omega)
      subst hx2 hy2
      simp only [List.append_nil] at hX' hY'
      subst hX' hY'
      go_wp2
      go_end0
      refine ⟨rfl, ?_⟩
      simpa using S1.out
end Stb
end Go.Proofs.YtjceppinfjbegaaGreatDoor

namespace Go.Proofs.YtjceppinfjbegaaGreatDoor
namespace Stb
open Go.Shelf Go.RowKit Go.Lib Go.Sort
variable {α : Type} [Inhabited α]

omit [Inhabited α] in
theorem split_at (l : List α) (k : Nat) (h : k ≤ l.length) : ∃ l1 l2, l = l1 ++ l2 ∧ l1.length = k := ⟨l.take k, l.drop k, (List.take_append_drop _ _).symm, by rw [List.length_take]; omega⟩

set_option maxHeartbeats 4000000 in
set_option maxRecDepth 1000000 in
/-- Two parts, one behind the other, turned. -/
theorem rotate_any (enc : α → Value) (cv : Value) (blk off cap a m b N : Nat) (P X Y S : List α) (d0 : Array α) (w0 w : World) (R : Row1 enc w0 blk off d0) (hN : d0.size = N) (hlen : (P ++ (X ++ (Y ++ S))).length = N) (ha : P.length = a) (hX : X.length + a = m) (hY : Y.length + m = b) (hX0 : 0 < X.length) (hY0 : 0 < Y.length) (hsz : N < 4611686018427387904)
    (S0 : SW enc w0 blk off (P ++ (X ++ (Y ++ S))).toArray w) :
    Calls Tryz.prog 191 #[.slice (some ⟨blk, off, none⟩) N cap, .int .i64 a, .int .i64 m, .int .i64 b, cv] w fun e w' => e = .returned (.tuple #[]) ∧ SW enc w0 blk off (P ++ (Y ++ (X ++ S))).toArray w' := by
  have HS : Aside (SW enc w0 blk off (P ++ (X ++ (Y ++ S))).toArray w) := S0
  have hlen' : P.length + (X.length + (Y.length + S.length)) = N := by simpa using hlen
  have HSR : Aside (∀ (V : World) (p q k : Nat) (A B M C D : List α), (A ++ (B ++ (M ++ (C ++ D)))).length = N → A.length = p → B.length = k → C.length = k → q = p + k + M.length → SW enc w0 blk off (A ++ (B ++ (M ++ (C ++ D)))).toArray V → Calls Tryz.prog 207 #[.slice (some ⟨blk, off, none⟩) N cap, .int .i64 p, .int .i64 q, .int .i64 k, cv] V fun e w' => e = .returned (.tuple #[]) ∧ SW enc w0 blk off (A ++ (C ++ (M ++ (B ++ D)))).toArray w') :=
    fun V p q k A B M C D h1 h2 h3 h4 h5 h6 => swapRange_any enc cv blk off cap p q k N A B M C D d0 w0 V R hN h1 h2 h3 h4 h5 hsz h6
  have hmN : m ≤ N := by omega
  have hbN : b ≤ N := by omega
  have ham : a < m := by omega
  have hmb : m < b := by omega
  obtain ⟨xl, hxl⟩ : ∃ q, q = X.length := ⟨_, rfl⟩
  obtain ⟨yl, hyl⟩ : ∃ q, q = Y.length := ⟨_, rfl⟩
  have hxm : m = a + xl := by omega
  have hym : b = m + yl := by omega
  have HL : Aside (P.length = a ∧ X.length = xl ∧ Y.length = yl ∧ P.length + (X.length + (Y.length + S.length)) = N) := ⟨ha, hxl.symm, hyl.symm, hlen'⟩
  have hx0 : 0 < xl := by omega
  have hy0 : 0 < yl := by omega
  have HXM : Aside (m = a + xl ∧ b = m + yl) := ⟨hxm, hym⟩
  clear S0 hlen hlen' R hN ha hX hY hX0 hY0 hxl hyl
  have e1 : (m : Int) - (a : Int) = (xl : Int) := by omega
  have e2 : (b : Int) - (m : Int) = (yl : Int) := by omega
  clear hxm hym
  go_enter Tryz.func191, Tryz.ntmps191
  go_wp2
  go_loopg [10, 11] (xl + yl) (fun g1 vi vj wr => ∃ (i j : Nat) (P' X' Y' S' : List α), vi = .int .i64 i ∧ vj = .int .i64 j ∧ 0 < i ∧ 0 < j ∧ i ≤ m ∧ m + j ≤ N ∧ i + j ≤ g1 ∧ Aside (X'.length = i ∧ Y'.length = j ∧ P'.length + i = m ∧ (P' ++ (X' ++ (Y' ++ S'))).length = N ∧ P' ++ (Y' ++ (X' ++ S')) = P ++ (Y ++ (X ++ S)) ∧ SW enc w0 blk off (P' ++ (X' ++ (Y' ++ S'))).toArray wr))
  case atStart => exact ⟨xl, yl, P, X, Y, S, by first | rfl | (congr 1), by first | rfl | (congr 1), hx0, hy0, by omega, by have := HXM.out; omega, by omega, ⟨HL.out.2.1, HL.out.2.2.1, by rw [HL.out.1]; have := HXM.out; omega, by simpa using HL.out.2.2.2, rfl, HS.out⟩⟩
  case round =>
    clear HS HL
    obtain ⟨i, j, P', X', Y', S', rfl, rfl, hi0, hj0, him, hjN, hg, H⟩ := hrel
    by_cases hij : i = j
    · subst hij
      go_wp2_with (go_at_call 207; fail)
      rw [show (m : Int) - (i : Int) = ((m - i : Nat) : Int) by omega]
      obtain ⟨h1, h2, h3, h4, h5, h6⟩ := H.out
      refine (HSR.out wr (m - i) m i P' X' [] Y' S' (by simpa using h4) (by omega) h1 h2 (by simp; omega) (by simpa using h6)).mono ?_
      rintro e w' ⟨rfl, hS⟩
      rw [List.nil_append, h5] at hS
      have HF : Aside _ := hS
      clear hS h1 h2 h3 h4 h5 h6 H
      go_wp2
      go_end0
      exact ⟨rfl, HF.out⟩
    · by_cases hgt : j < i
      · have hgt' : (j : Int) < (i : Int) := by omega
        have hne : ¬ ((i : Int) = (j : Int)) := by omega
        go_wp2_with (go_at_call 207; fail)
        rw [show (m : Int) - (i : Int) = ((m - i : Nat) : Int) by omega]
        obtain ⟨h1, h2, h3, h4, h5, h6⟩ := H.out
        obtain ⟨X1, X2, rfl, hx1⟩ := split_at X' j (by omega)
        have hx2 : X2.length = i - j := by rw [List.length_append] at h1; omega
        refine (HSR.out wr (m - i) m j P' X1 X2 Y' S' (by simpa using h4) (by omega) hx1 h2 (by omega) (by simpa using h6)).mono ?_
        rintro e w' ⟨rfl, hS⟩
        have HF : Aside (X2.length = i - j ∧ X1.length = j ∧ (P' ++ Y').length + (i - j) = m ∧ ((P' ++ Y') ++ (X2 ++ (X1 ++ S'))).length = N ∧ (P' ++ Y') ++ (X1 ++ (X2 ++ S')) = P ++ (Y ++ (X ++ S)) ∧ SW enc w0 blk off ((P' ++ Y') ++ (X2 ++ (X1 ++ S'))).toArray w') := ⟨hx2, hx1, by rw [List.length_append]; omega, by simp only [List.length_append] at h4 ⊢; omega, by rw [← h5]; simp, by simpa using hS⟩
        clear hS h1 h2 h3 h4 h5 h6 H hx1 hx2
        go_wp2
        go_roundg (i + j - j)
        case measure => omega
        case rel => exact ⟨i - j, j, P' ++ Y', X2, X1, S', by first | go_num | (congr 1; omega), rfl, by omega, hj0, by omega, hjN, by omega, HF⟩
      · have hgt' : ¬ (j : Int) < (i : Int) := by omega
        have hne : ¬ ((i : Int) = (j : Int)) := by omega
        go_wp2_with (go_at_call 207; fail)
        rw [show (m : Int) - (i : Int) = ((m - i : Nat) : Int) by omega, show (m : Int) + (j : Int) - (i : Int) = ((m + j - i : Nat) : Int) by omega]
        obtain ⟨h1, h2, h3, h4, h5, h6⟩ := H.out
        obtain ⟨Y1, Y2, rfl, hy1⟩ := split_at Y' (j - i) (by omega)
        have hy2 : Y2.length = i := by rw [List.length_append] at h2; omega
        refine (HSR.out wr (m - i) (m + j - i) i P' X' Y1 Y2 S' (by simpa using h4) (by omega) h1 hy2 (by omega) (by simpa using h6)).mono ?_
        rintro e w' ⟨rfl, hS⟩
        have HF : Aside (Y2.length = i ∧ Y1.length = j - i ∧ P'.length + i = m ∧ (P' ++ (Y2 ++ (Y1 ++ (X' ++ S')))).length = N ∧ P' ++ (Y1 ++ (Y2 ++ (X' ++ S'))) = P ++ (Y ++ (X ++ S)) ∧ SW enc w0 blk off (P' ++ (Y2 ++ (Y1 ++ (X' ++ S')))).toArray w') := ⟨hy2, hy1, h3, by simp only [List.length_append] at h4 ⊢; omega, by rw [← h5]; simp, hS⟩
        clear hS h1 h2 h3 h4 h5 h6 H hy1 hy2
        go_wp2
        go_roundg (i + j - i)
        case measure => omega
        case rel => exact ⟨i, j - i, P', Y2, Y1, X' ++ S', rfl, by first | go_num | (congr 1; omega), hi0, by omega, him, by omega, by omega, HF⟩
end Stb
end Go.Proofs.YtjceppinfjbegaaGreatDoor

namespace Go.Proofs.YtjceppinfjbegaaGreatDoor
namespace Stb
open Go.Shelf Go.RowKit Go.Lib Go.Sort
variable {α : Type} [Inhabited α]

omit [Inhabited α] in
theorem sorted_short (lt : α → α → Bool) (l : List α) (h : l.length ≤ 1) : Sorted lt l := by
  match l, h with
  | [], _ => exact List.Pairwise.nil
  | [x], _ => exact List.pairwise_singleton _ _

/-- What a part of the row is. -/
def PartIs (enc : α → Value) (w0 : World) (blk off : Nat) (P M S : List α) (W : World) : Prop := SW enc w0 blk off (P ++ (M ++ S)).toArray W

set_option maxHeartbeats 8000000 in
set_option maxRecDepth 1000000 in
/-- The insertion sort of a part: in a row, equals as they were. -/
theorem insertion_any (enc : α → Value) (cf : α → α → Int) (g : Nat) (cb : Array Value) (blk off cap a b N : Nat) (P M S : List α) (d0 : Array α) (w0 w : World) (eg : ∀ args w, (callFunc g args).run Tryz.prog w = .ok (.enter g args) w) (hcmp : CmpLays1 Tryz.prog g cb enc cf blk off d0.size w0) (ho : Ord (ltOf cf)) (R : Row1 enc w0 blk off d0) (hN : d0.size = N) (hlen : (P ++ (M ++ S)).length = N) (ha : P.length = a) (hb : b = a + M.length) (hsz : N < 4611686018427387904)
    (S0 : SW enc w0 blk off (P ++ (M ++ S)).toArray w) :
    Calls Tryz.prog 171 #[.slice (some ⟨blk, off, none⟩) N cap, .int .i64 a, .int .i64 b, .func (.func g) #[] cb] w fun e w' => e = .returned (.tuple #[]) ∧ ∃ M', Sorted (ltOf cf) M' ∧ Same (ltOf cf) M M' ∧ SW enc w0 blk off (P ++ (M' ++ S)).toArray w' := by
  have mixed : Tryz.prog.follows .mixedOrders = true := by kernel_rfl
  have hcl0 := R.hO.cells
  simp only [Value.cells] at hcl0
  have hst := R.hO.store Tryz.prog
  have HC : Aside _ := hcmp
  have hlen' : P.length + (M.length + S.length) = N := by simpa using hlen
  have hbN : b ≤ N := by omega
  have hab : a ≤ b := by omega
  have HS : Aside (∃ A, Sorted (ltOf cf) A ∧ Same (ltOf cf) (M.take (a + 1 - a)) A ∧ SW enc w0 blk off (P ++ (A ++ (M.drop (a + 1 - a) ++ S))).toArray w) := ⟨M.take (a + 1 - a), sorted_short _ _ (by rw [List.length_take]; omega), Same.refl _ _, by rw [← List.append_assoc (M.take _), List.take_append_drop]; exact S0⟩
  have HL : Aside (P.length = a ∧ b = a + M.length ∧ P.length + (M.length + S.length) = N) := ⟨ha, hb, hlen'⟩
  have HOD : Aside (Ord (ltOf cf)) := ho
  clear S0 hlen hcmp ha hb hlen' ho
  go_enter Tryz.func171, Tryz.ntmps171
  go_wp2
  go_loopg [8] (b - a) (fun g1 vi wr => ∃ (i : Nat), vi = .int .i64 i ∧ a < i ∧ i ≤ b + 1 ∧ b + 1 - i ≤ g1 + 1 ∧ Aside (∃ A, Sorted (ltOf cf) A ∧ Same (ltOf cf) (M.take (i - a)) A ∧ SW enc w0 blk off (P ++ (A ++ (M.drop (i - a) ++ S))).toArray wr))
  case atStart => exact ⟨a + 1, by go_num, by omega, by omega, by omega, HS⟩
  case round =>
    clear HS
    obtain ⟨i, rfl, hai, hib, hg1, H1⟩ := hrel
    by_cases hlt : i < b
    · have hltz : (i : Int) < (b : Int) := by omega
      obtain ⟨A, x, B, HA⟩ : ∃ A x B, Aside (Sorted (ltOf cf) A ∧ Same (ltOf cf) (M.take (i - a)) A ∧ A.length = i - a ∧ M.take (i + 1 - a) = M.take (i - a) ++ [x] ∧ M.drop (i + 1 - a) = B ∧ P.length + (A.length + 1 + B.length + S.length) = N ∧ SW enc w0 blk off (P ++ (A ++ x :: ([] ++ (B ++ S)))).toArray wr) := by
        obtain ⟨A, h1, h2, h3⟩ := H1.out
        obtain ⟨k1, k2, k3⟩ := HL.out
        have hk : i - a < M.length := by omega
        have hal : A.length = i - a := by rw [← h2.len HOD.out, List.length_take]; omega
        refine ⟨A, M[i - a], M.drop (i + 1 - a), h1, h2, hal, ?_, rfl, ?_, ?_⟩
        · rw [show i + 1 - a = i - a + 1 by omega, List.take_succ_eq_append_getElem hk]
        · rw [hal, List.length_drop]; omega
        · rw [List.drop_eq_getElem_cons hk, show i - a + 1 = i + 1 - a by omega] at h3
          simpa using h3
      clear H1
      go_wp2
      go_loopg [9] i (fun g2 vj wr2 => ∃ (j : Nat) (A1 C : List α), vj = .int .i64 j ∧ a ≤ j ∧ j ≤ i ∧ j ≤ g2 ∧ Aside (A = A1 ++ C ∧ A1.length = j - a ∧ (∀ c ∈ C, ltOf cf x c = true) ∧ SW enc w0 blk off (P ++ (A1 ++ x :: (C ++ (B ++ S)))).toArray wr2))
      case atStart => exact ⟨i, A, [], rfl, by omega, Nat.le_refl _, Nat.le_refl _, by simp, HA.out.2.2.1, by simp, HA.out.2.2.2.2.2.2⟩
      case round =>
        obtain ⟨j, A1, C, rfl, haj, hji, hg2, HJ⟩ := hrel
        have OUT : Aside (∀ V : World, (∀ y ∈ A1, ltOf cf x y = false) → SW enc w0 blk off (P ++ (A1 ++ x :: (C ++ (B ++ S)))).toArray V → ∃ A, Sorted (ltOf cf) A ∧ Same (ltOf cf) (M.take (i + 1 - a)) A ∧ SW enc w0 blk off (P ++ (A ++ (M.drop (i + 1 - a) ++ S))).toArray V) := by
          intro V hy hV
          obtain ⟨k1, k2, k3, k4, k5, k6, k7⟩ := HA.out
          obtain ⟨q1, q2, q3, q4⟩ := HJ.out
          obtain ⟨p1, p2⟩ := put_one HOD.out (q1 ▸ k1) q3 hy
          refine ⟨A1 ++ x :: C, p1, ?_, by rw [k5]; simpa using hV⟩
          rw [k4]
          exact ((k2.app (Same.refl _ [x])).trans (by rw [q1]; exact p2))
        by_cases hja : a < j
        · have hjaz : (a : Int) < (j : Int) := by omega
          obtain ⟨jp, hjp⟩ : ∃ q, q + 1 = j := ⟨j - 1, by omega⟩
          have zjp : (j : Int) = (jp : Int) + 1 := by omega
          have hjad : decide ((jp : Int) + 1 > (a : Int)) = true := decide_eq_true (by omega)
          have hjaz' : (a : Int) < (jp : Int) + 1 := by omega
          obtain ⟨A2, y, HY⟩ : ∃ A2 y, Aside (A1 = A2 ++ [y] ∧ A2.length = jp - a) := by
            obtain ⟨q1, q2, q3, q4⟩ := HJ.out
            have hne : A1 ≠ [] := by intro e; rw [e] at q2; simp at q2; omega
            exact ⟨A1.dropLast, A1.getLast hne, (List.dropLast_concat_getLast hne).symm, by rw [List.length_dropLast]; omega⟩
          obtain ⟨dj, hdj⟩ : ∃ q, q = (P ++ (A1 ++ x :: (C ++ (B ++ S)))).toArray := ⟨_, rfl⟩
          have hjN : j < N := by omega
          have hsd : dj.size = N := by
            obtain ⟨q1, q2, q3, q4⟩ := HJ.out
            obtain ⟨k1, k2, k3, k4, k5, k6, k7⟩ := HA.out
            rw [hdj]
            rw [q1, List.length_append] at k6
            simp
            omega
          have gx : dj[j]! = x := by
            rw [hdj]
            have := arr_at (P ++ A1) (C ++ (B ++ S)) x j (by rw [List.length_append, HL.out.1, HJ.out.2.1]; omega)
            simpa using this
          have gy : dj[jp]! = y := by
            rw [hdj, HY.out.1]
            have := arr_at (P ++ A2) (x :: (C ++ (B ++ S))) y jp (by rw [List.length_append, HL.out.1, HY.out.2]; omega)
            simpa using this
          have gs : swp dj j jp = (P ++ (A2 ++ x :: ((y :: C) ++ (B ++ S)))).toArray := by
            rw [hdj, HY.out.1]
            have := swp_list' (P ++ A2) [] (C ++ (B ++ S)) y x jp j (by rw [List.length_append, HL.out.1, HY.out.2]; omega) (by rw [List.length_append, HL.out.1, HY.out.2]; simp; omega)
            simpa using this
          have SJ : Aside (SW enc w0 blk off dj wr) := by rw [hdj]; exact HJ.out.2.2.2
          have GS : Aside (swp dj j jp = (P ++ (A2 ++ x :: ((y :: C) ++ (B ++ S)))).toArray) := gs
          have HDJ : Aside (dj = (P ++ (A1 ++ x :: (C ++ (B ++ S)))).toArray) := hdj
          have HJ2 : Aside (A = A1 ++ C ∧ ∀ c ∈ C, ltOf cf x c = true) := ⟨HJ.out.1, HJ.out.2.2.1⟩
          clear gs hdj HJ
          obtain ⟨iN, hiN⟩ : ∃ q, q = j := ⟨_, rfl⟩
          obtain ⟨jN, hjN'⟩ : ∃ q, q = jp := ⟨_, rfl⟩
          have ea : ((jp : Int) + 1).toNat = iN := by omega
          have pa : (0 : Int) ≤ (jp : Int) + 1 := by omega
          have ba : (jp : Int) + 1 < (N : Int) := by omega
          have ra : IntKind.i64.wrap ((jp : Int) + 1) = (jp : Int) + 1 := by rw [IntKind.wrap_i64]; omega
          have ec : ((jp : Int)).toNat = jN := by omega
          have pc : (0 : Int) ≤ (jp : Int) := by omega
          have bc : (jp : Int) < (N : Int) := by omega
          have rc : IntKind.i64.wrap ((jp : Int)) = (jp : Int) := by rw [IntKind.wrap_i64]; omega
          have la := SJ.out.cl R (by omega) j (by omega)
          have lb := SJ.out.cl R (by omega) jp (by omega)
          rw [gx, ← hiN] at la
          rw [gy, ← hjN'] at lb
          have hc := SJ.out.cmp HC.out (by omega) x y
          cases hlv : ltOf cf x y with
          | true =>
            have hv : cf x y < 0 := of_decide_eq_true hlv
            have hd : decide (cf x y < 0) = true := decide_eq_true hv
            have HLV : Aside (ltOf cf x y = true) := hlv
            have HIN : Aside (iN = j ∧ jN = jp ∧ dj[j]! = x ∧ dj[jp]! = y) := ⟨hiN, hjN', gx, gy⟩
            clear hlv hiN hjN' gx gy
            go_wp2_with fail
            go_quiet_grown (first | (go_at_fn g; refine Calls.grown_of (hc _ _)))
            have S2 : Aside (SW enc w0 blk off dj (grow (wr.drewN nq) osq)) := SJ.out.grown nq osq
            clear la lb hc SJ
            generalize grow (wr.drewN nq) osq = w2 at S2 ⊢
            clear nq osq
            go_wp2_with fail
            have S3 : Aside (SW enc w0 blk off (swp dj j jp) ((w2.setCell ⟨blk, off + iN, none⟩ (enc y)).setCell ⟨blk, off + jN, none⟩ (enc x)).drew) := by
              obtain ⟨z1, z2, z3, z4⟩ := HIN.out
              have := S2.out.swapped R j jp (by omega) (by omega)
              rw [z3, z4] at this
              rw [z1, z2]
              exact this
            have ca : w2.cell? ⟨blk, off + iN, none⟩ = some (enc x) := by have := S2.out.c1 R (by omega) j (by omega); rw [HIN.out.2.2.1, ← HIN.out.1] at this; exact this
            have cb' : w2.cell? ⟨blk, off + jN, none⟩ = some (enc y) := by have := S2.out.c1 R (by omega) jp (by omega); rw [HIN.out.2.2.2, ← HIN.out.2.1] at this; exact this
            have fa : w2.frozen? ⟨blk, off + iN, none⟩ = false := by have := S2.out.f1 R (by omega) j (by omega); rw [← HIN.out.1] at this; exact this
            have fb : w2.frozen? ⟨blk, off + jN, none⟩ = false := by have := S2.out.f1 R (by omega) jp (by omega); rw [← HIN.out.2.1] at this; exact this
            obtain ⟨u, cc⟩ : ∃ u, (w2.setCell ⟨blk, off + iN, none⟩ (enc y)).cell? ⟨blk, off + jN, none⟩ = some u := by have := S2.out.c2 R (by omega) j jp (by omega) (by omega) (enc y); rw [← HIN.out.1, ← HIN.out.2.1] at this; exact this
            clear S2
            go_wp2_with fail
            go_big_region_o
            clear ca cb' cc fa fb
            generalize ((w2.setCell ⟨blk, off + iN, none⟩ (enc y)).setCell ⟨blk, off + jN, none⟩ (enc x)).drew = w3 at S3 ⊢
            clear ea ec
            go_wp2
            go_roundg (j - 1)
            case measure => omega
            case rel => exact ⟨j - 1, A2, y :: C, by first | rfl | go_num | (congr 1; omega), by omega, by omega, Nat.le_refl _, by rw [HJ2.out.1, HY.out.1]; simp, by rw [HY.out.2]; omega, fun c hc => (by rcases List.mem_cons.1 hc with rfl | hc; exact HLV.out; exact HJ2.out.2 c hc), by have := S3.out; rw [GS.out] at this; exact this⟩
          | false =>
            have hv : ¬ cf x y < 0 := of_decide_eq_false hlv
            have hd : decide (cf x y < 0) = false := decide_eq_false hv
            have HLV : Aside (ltOf cf x y = false) := hlv
            clear hlv hiN hjN' gx gy
            go_wp2_with fail
            go_quiet_grown (first | (go_at_fn g; refine Calls.grown_of (hc _ _)))
            have S2 : Aside (SW enc w0 blk off dj (grow (wr.drewN nq) osq)) := SJ.out.grown nq osq
            clear la lb hc SJ
            generalize grow (wr.drewN nq) osq = w2 at S2 ⊢
            clear nq osq ea ec
            go_wp2
            go_roundg (b - (i + 1))
            case measure => omega
            case rel =>
              refine ⟨i + 1, by go_num, by omega, by omega, by omega, OUT.out _ ?_ (by have := S2.out; rw [HDJ.out] at this; exact this)⟩
              intro z hz
              have hs1 : Sorted (ltOf cf) (A2 ++ [y]) := by
                have := HA.out.1
                rw [HJ2.out.1, HY.out.1] at this
                exact (Sorted.app.1 this).1
              rw [HY.out.1] at hz
              exact HOD.out.ntrans _ _ _ HLV.out (sorted_last HOD.out hs1 z hz)
        · have hjaz : decide ((j : Int) > (a : Int)) = false := decide_eq_false (by omega)
          have hjaz' : ¬ (a : Int) < (j : Int) := by omega
          go_wp2_with fail
          go_big_region_o
          have S2 : Aside (SW enc w0 blk off (P ++ (A1 ++ x :: (C ++ (B ++ S)))).toArray wr.drew) := HJ.out.2.2.2.drew
          have HA1 : Aside (A1 = []) := List.length_eq_zero_iff.1 (by rw [HJ.out.2.1]; omega)
          clear HJ
          generalize wr.drew = w2 at S2 ⊢
          go_wp2
          go_roundg (b - (i + 1))
          case measure => omega
          case rel => exact ⟨i + 1, by go_num, by omega, by omega, by omega, OUT.out _ (by rw [HA1.out]; intro y hy; simp at hy) S2.out⟩
    · have hltz : ¬ (i : Int) < (b : Int) := by omega
      go_wp2
      go_end0
      obtain ⟨A, h1, h2, h3⟩ := H1.out
      obtain ⟨k1, k2, k3⟩ := HL.out
      rw [List.drop_eq_nil_of_le (by omega)] at h3
      rw [List.take_of_length_le (by omega)] at h2
      exact ⟨rfl, A, h1, h2, by simpa using h3⟩
end Stb
end Go.Proofs.YtjceppinfjbegaaGreatDoor

