import Derived.Test.YtemcpjflpggaeaaDoorSumC
import Derived.Deep.MidRow
import Derived.BigRegion
import Derived.Laws.ResultCell
import Derived.Lib.QuietBelow
set_option linter.unusedSimpArgs false
set_option linter.unusedVariables false
namespace Go.Proofs.YtemcpjflpggaeaaDoor
open Go.RowKit

/-- A block's cells, all of which may be written. -/
def Row (w : World) (b : Nat) (vs : List Value) : Prop := ∀ j v, vs[j]? = some v → w.cell? ⟨b, j, none⟩ = some v ∧ w.frozen? ⟨b, j, none⟩ = false
theorem Row.range {w : World} {b : Nat} {vs : List Value} (h : Row w b vs) : w.rangeAt b 0 vs := fun j v hv => by
  rw [Nat.zero_add]; exact (h j v hv).1
theorem Row.there {w : World} {b : Nat} {vs : List Value} (h : Row w b vs) : w.there b 0 vs.length := fun j hj => by
  have := h j _ (List.getElem?_eq_getElem hj)
  rw [Nat.zero_add, this.1, this.2]; exact ⟨rfl, rfl⟩
theorem Row.lt {w : World} {b : Nat} {vs : List Value} (h : Row w b vs) (h0 : 0 < vs.length) : b < w.heap.size :=
  World.block_lt_of_cell? w _ (h 0 _ (List.getElem?_eq_getElem h0)).1
theorem Row.new (w : World) (c : Array Value) (t : TypeId) : Row (w.alloc (.cells c t)) w.heap.size c.toList := fun j v hv => by
  have hv' : c[j]? = some v := by simpa using hv
  constructor
  · rw [cell_of_row _ _ j c t (0, 0) (by show (w.heap.push _)[w.heap.size]? = _; simp)]; exact hv'
  · simp
theorem Row.alloc {w : World} {b : Nat} {vs : List Value} (h : Row w b vs) (o : Obj) : Row (w.alloc o) b vs := fun j v hv => by
  have hb := World.block_lt_of_cell? w _ (h j v hv).1
  exact ⟨by rw [World.cell?_alloc_lt _ _ _ hb]; exact (h j v hv).1, by rw [World.frozen?_alloc_past _ _ _ hb]; exact (h j v hv).2⟩
theorem Row.drew {w : World} {b : Nat} {vs : List Value} (h : Row w b vs) : Row w.drew b vs := fun j v hv => by
  have := h j v hv
  simpa using this
theorem Row.drewN {w : World} {b : Nat} {vs : List Value} (h : Row w b vs) (n : Nat) : Row (w.drewN n) b vs := fun j v hv => by
  have := h j v hv
  simpa using this
theorem Row.set {w : World} {b : Nat} {vs : List Value} (h : Row w b vs) (i : Nat) (x : Value) : Row (w.setCell ⟨b, i, none⟩ x) b (vs.set i x) := fun j v hv => by
  rw [List.getElem?_set] at hv
  have hf : (w.setCell ⟨b, i, none⟩ x).frozen? ⟨b, j, none⟩ = w.frozen? ⟨b, j, none⟩ := by simp
  split at hv
  · rename_i e
    subst e
    split at hv
    · rename_i hlt
      simp at hv
      subst hv
      have := h i _ (List.getElem?_eq_getElem hlt)
      exact ⟨by rw [World.cell?_setCell_same _ _ _ this.1], by rw [hf]; exact this.2⟩
    · cases hv
  · rename_i e
    have := h j v hv
    exact ⟨by rw [World.cell?_setCell_other _ _ _ _ (by intro h; simp at h; try omega)]; exact this.1, by rw [hf]; exact this.2⟩
theorem Row.other {w : World} {b : Nat} {vs : List Value} (h : Row w b vs) (b' i : Nat) (x : Value) (hne : b' ≠ b) : Row (w.setCell ⟨b', i, none⟩ x) b vs := fun j v hv => by
  have := h j v hv
  exact ⟨by rw [World.cell?_setCell_other _ _ _ _ (by intro h; simp at h; try omega)]; exact this.1, by simpa using this.2⟩
theorem Row.below {w w' : World} {b B : Nat} {vs : List Value} (h : Row w b vs) (hb : Below B w w') (hlt : b < B) : Row w' b vs := fun j v hv => by
  have := h j v hv
  exact ⟨(hb.cell (p := ⟨b, j, none⟩) hlt).trans this.1, (hb.frozen (p := ⟨b, j, none⟩) hlt).trans this.2⟩

theorem Row.new' (w : World) (c : Array Value) (t : TypeId) (b : Nat) (vs : List Value) (hb : w.heap.size = b) (h : c.toList = vs) : Row (w.alloc (.cells c t)) b vs := by
  subst hb; subst h; exact Row.new w c t
theorem Hid.mk {p : Prop} (h : p) : Hid p := h
theorem below_box (w : World) (o : Obj) : Below w.heap.size w (w.alloc o) := (Below.refl _ _).alloc (Nat.le_refl _) o
theorem ret_bool {a b : Bool} (h : a = b) : Ending.returned (.bool a) = .returned (.bool b) := by rw [h]
theorem ret_str {a b : List UInt8} (h : a = b) : Ending.returned (.string ⟨a.toArray⟩) = .returned (.string ⟨b.toArray⟩) := by rw [h]
theorem str_of {x : ByteArray} {a : List UInt8} (h : x.data.toList = a) : x = ⟨a.toArray⟩ := by rw [← h]
theorem ret_strB {x : ByteArray} {l : List UInt8} (h : x.data.toList = l) : Ending.returned (.string x) = .returned (.string ⟨l.toArray⟩) := by rw [str_of h]
theorem grown_below {w w' : World} (h : Below w.heap.size w w') (row : Option Nat) : w.grownBy w' row := ⟨h.os, h.tape, h.output, h.size, fun k hk _ => h.block k hk⟩
theorem owns_form {w : World} {B : Nat} {e : TypeId} {z : Nat} {v : Value} {n : Nat} {xs : List Value} (h : w.ownsRow B e z v n xs) : ∃ a c, v = .slice a n c := by
  obtain ⟨-, ⟨rfl, hn⟩ | ⟨g, cp, cur, rfl, -⟩⟩ := h
  · exact ⟨none, 0, by rw [hn]⟩
  · exact ⟨_, _, rfl⟩
theorem byte_at (s : ByteArray) (k : Nat) (h : k < s.size) : s.data.toList[k]?.getD 0 = s[k] := by
  rw [List.getElem?_eq_getElem (by simpa using h)]; rfl

/-- Words as cells. -/
def cellsU (l : List (BitVec 32)) : List Value := l.map fun x => .int .u32 (U x)
theorem cellsU_get (l : List (BitVec 32)) (j : Nat) : (cellsU l)[j]? = (l[j]?).map fun x => .int .u32 (U x) := by simp [cellsU]
theorem cellsU_set (l : List (BitVec 32)) (j : Nat) (x : BitVec 32) : (cellsU l).set j (.int .u32 (U x)) = cellsU (l.set j x) := by simp [cellsU]
def full (l : List (BitVec 32)) : List (BitVec 32) := l ++ List.replicate (64 - l.length) 0
theorem full_len {l : List (BitVec 32)} (h : l.length ≤ 64) : (full l).length = 64 := by simp [full]; omega
theorem full_get (l : List (BitVec 32)) (j : Nat) (h : j < l.length) : (full l)[j]? = l[j]? := by
  rw [full, List.getElem?_append_left h]
theorem full_set (l : List (BitVec 32)) (x : BitVec 32) (h : l.length < 64) : (full l).set l.length x = full (l ++ [x]) := by
  rw [full, full, List.set_append_right _ _ (Nat.le_refl _), Nat.sub_self, List.append_assoc]
  obtain ⟨m, hm⟩ : ∃ m, 64 - l.length = m + 1 := ⟨63 - l.length, by omega⟩
  rw [hm, List.replicate_succ, List.set_cons_zero, List.length_append, List.length_singleton, show 64 - (l.length + 1) = m by omega]
  rfl
theorem full_whole (l : List (BitVec 32)) (h : l.length = 64) : full l = l := by simp [full, h]

theorem Row.word {w : World} {b : Nat} {l : List (BitVec 32)} (h : Row w b (cellsU l)) (j : Nat) (hj : j < l.length) : w.cell? ⟨b, j, none⟩ = some (.int .u32 (U (l[j]?.getD 0))) := by
  refine (h j _ ?_).1
  rw [cellsU_get, List.getElem?_eq_getElem hj]; rfl
theorem Row.free {w : World} {b : Nat} {l : List (BitVec 32)} (h : Row w b (cellsU l)) (j : Nat) (hj : j < l.length) : w.frozen? ⟨b, j, none⟩ = false := by
  refine (h j (.int .u32 (U (l[j]?.getD 0))) ?_).2
  rw [cellsU_get, List.getElem?_eq_getElem hj]; rfl

theorem Below.setCells {B b : Nat} (hb : B ≤ b) : ∀ (vs : List Value) (o : Nat) {a w : World}, Below B a w → Below B a (w.setCells b o vs)
  | [], _, _, _, h => h
  | v :: r, o, a, w, h => by rw [World.setCells]; exact Below.setCells hb r (o + 1) (h.setCell (by exact hb) v)
theorem below_drewN {B : Nat} {a w : World} (h : Below B a w) (n : Nat) : Below B a (w.drewN n) := ⟨h.os, h.tape, h.output, h.size, h.block⟩
theorem cellsU_one (l : List (BitVec 32)) : (cellsU l).toArray.all (·.oneCell') = true := all_oneCell_toArray (fun v hv => by
  obtain ⟨x, _, rfl⟩ := List.mem_map.1 hv; rfl)
theorem results_cell1 {fn : Func} {p : Tmp} {ty : TypeId} (h : fn.results = #[.cell p ty]) (tmps : Array Value) (P : Program) (w : World) {a : Addr} {v : Value} (ha : tmps.getD p undef = .pointer (some a)) (hl : (loadVar ty a).run P w = .ok v w) :
    (results fn tmps).run P w = .ok v w := by
  have e : (results fn tmps).run P w = ((asAddr (tmps.getD p undef)).run P w).andThen fun a w₁ => (loadVar ty a).run P w₁ := by
    simp only [results, h]
    simp [Sem.run_bind, Result.andThen]
  rw [e, ha]
  simp [asAddr, Result.andThen, hl]
theorem Row.made {w : World} {b : Nat} {vs : List Value} (h : w.rangeAt b 0 vs) (ht : w.there b 0 vs.length) : Row w b vs := fun j v hv => by
  have hj : j < vs.length := (List.getElem?_eq_some_iff.1 hv).1
  have h1 := h j v hv
  have h2 := (ht j hj).2
  rw [Nat.zero_add] at h1 h2
  exact ⟨h1, h2⟩
theorem Row.put {w : World} {b : Nat} {us vs : List Value} (h : Row w b us) (hl : us.length = vs.length) : Row (w.setCells b 0 vs) b vs := by
  have ht := h.there
  rw [hl] at ht
  exact Row.made (World.rangeAt_setCells_same _ _ _ _ ht) (World.there_setCells ht _ _ _)
theorem Row.apart {w : World} {b : Nat} {vs : List Value} (h : Row w b vs) (b' o : Nat) (us : List Value) (hne : b ≠ b') : Row (w.setCells b' o us) b vs := fun j v hv => by
  have := h j v hv
  exact ⟨by rw [World.cell?_setCells_out b' us o w ⟨b, j, none⟩ (fun hb _ => absurd hb hne)]; exact this.1, by rw [World.frozen?_setCells]; exact this.2⟩
theorem any_world {G : World → Prop} (F : World → Prop) (w0 : World) (h : F w0) (k : ∀ w, F w → G w) : G w0 := k w0 h
theorem bel_then {w w1 w2 : World} (h : Below w.heap.size w w1) (h' : Below w1.heap.size w1 w2) : Below w.heap.size w w2 := h.trans (h'.mono h.size)
theorem Row.to {w : World} {b : Nat} {vs vs' : List Value} (h : Row w b vs) (e : vs = vs') : Row w b vs' := e ▸ h
theorem sched_store {blk : List UInt8} {k : Nat} {x : Int} (hk : k < 64) (h : x = U (next blk (sched blk k) k)) : (cellsU (full (sched blk k))).set k (.int .u32 x) = cellsU (full (sched blk (k + 1))) := by
  subst h
  have := full_set (sched blk k) (next blk (sched blk k) k) (by rw [sched_length]; exact hk)
  rw [sched_length] at this
  rw [cellsU_set, this]; rfl
theorem byte_m (b : UInt8) : (b.toNat : Int) % 4294967296 = b.toNat := by have := b.toNat_lt; omega
theorem byte_m24 (b : UInt8) : (b.toNat : Int) * 16777216 % 4294967296 = b.toNat * 16777216 := by have := b.toNat_lt; omega
theorem byte_m16 (b : UInt8) : (b.toNat : Int) * 65536 % 4294967296 = b.toNat * 65536 := by have := b.toNat_lt; omega
theorem byte_m8 (b : UInt8) : (b.toNat : Int) * 256 % 4294967296 = b.toNat * 256 := by have := b.toNat_lt; omega

theorem Row.early {w : World} {b : Nat} {l : List (BitVec 32)} (h : Row w b (cellsU (full l))) (j : Nat) (hj : j < l.length) (hl : l.length ≤ 64) : ∃ x, l[j]?.getD 0 = x ∧ w.cell? ⟨b, j, none⟩ = some (.int .u32 (U x)) := by
  refine ⟨_, rfl, ?_⟩
  rw [h.word j (by rw [full_len hl]; omega), full_get l j hj]

end Go.Proofs.YtemcpjflpggaeaaDoor
