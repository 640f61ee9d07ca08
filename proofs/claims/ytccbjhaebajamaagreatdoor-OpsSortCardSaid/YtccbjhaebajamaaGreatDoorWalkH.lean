import Derived.Test.YtccbjhaebajamaaGreatDoorWalkG
set_option linter.unusedSimpArgs false
set_option linter.unusedVariables false
namespace Go.Proofs.YtccbjhaebajamaaGreatDoor
open Go.RowKit

/-- What the program's own variables hold, as far as these functions read them. -/
structure Env (w : World) : Prop where
  size : ∀ g, g ∈ [1, 0, 2, 3, 4] → g < w.heap.size
  mx : ∃ m, w.cell? ⟨1, 0, none⟩ = some (.int .i64 m)
  k0 : w.cell? ⟨0, 0, none⟩ = some (.string ⟨#[]⟩)
  k1 : w.cell? ⟨0, 1, none⟩ = some (.string ⟨#[105, 110, 116]⟩)
  k2 : w.cell? ⟨0, 2, none⟩ = some (.string ⟨#[116, 101, 120, 116]⟩)
  es : ∃ tp p, w.var? Tryz.prog "strconv.ErrSyntax" = some #[.iface tp p]
  er : ∃ tp p, w.var? Tryz.prog "strconv.ErrRange" = some #[.iface tp p]
  pw : Lib.TabIs Tryz.prog w "internal/strconv.uint64pow10" .u64 Lib.pow10Tab

theorem Env.below {w w' : World} (h : Env w) (hb : Below w.heap.size w w') : Env w' := by
  have hs := h.size
  refine ⟨fun g hg => Nat.lt_of_lt_of_le (h.size g hg) hb.size, ?_, ?_, ?_, ?_, ?_, ?_, ?_⟩
  · obtain ⟨m, hm⟩ := h.mx
    exact ⟨m, (hb.cell (p := ⟨1, 0, none⟩) (hs _ (by simp))).trans hm⟩
  · exact (hb.cell (p := ⟨0, 0, none⟩) (hs _ (by simp))).trans h.k0
  · exact (hb.cell (p := ⟨0, 1, none⟩) (hs _ (by simp))).trans h.k1
  · exact (hb.cell (p := ⟨0, 2, none⟩) (hs _ (by simp))).trans h.k2
  · obtain ⟨tp, p, hv⟩ := h.es
    exact ⟨tp, p, var?_below (g := 2) hb (by kernel_rfl) (hs _ (by simp)) hv⟩
  · obtain ⟨tp, p, hv⟩ := h.er
    exact ⟨tp, p, var?_below (g := 3) hb (by kernel_rfl) (hs _ (by simp)) hv⟩
  · exact var?_below (g := 4) hb (by kernel_rfl) (hs _ (by simp)) h.pw

theorem below_growN (w : World) (k : Nat) (os : Array Obj) : Below w.heap.size w (Sort.grow (w.drewN k) os) :=
  ⟨rfl, rfl, rfl, by simp [Sort.grow, World.drewN], fun k hk => by simp [Sort.grow, World.drewN, Array.getElem?_append, hk]⟩

theorem ret_strB {x : ByteArray} {l : List UInt8} (h : x.data.toList = l) : Ending.returned (.string x) = .returned (.string ⟨l.toArray⟩) := by rw [str_of h]

/-- What a value is written as. -/
def valueL (k n : Int) (l : List UInt8) : List UInt8 := if k = 1 then Lib.itoa n else 39 :: (l ++ [39])

theorem strcat_data (a b : ByteArray) : (a ++ b).data.toList = a.data.toList ++ b.data.toList := by simp

set_option maxHeartbeats 400000 in
theorem value_any (k n : Int) (s : ByteArray) (w : World) (hs : s.size ≤ 1000) (h0 : -9223372036854775808 ≤ n) (h1 : n ≤ 9223372036854775807) (hE : Env w) :
    Calls Tryz.prog 52 #[.agg #[.int .i64 k, .int .i64 n, .string s]] w fun e w' => e = .returned (.string ⟨(valueL k n s.data.toList).toArray⟩) ∧ Below w.heap.size w w' := by
  have hI := Tryz.strconv_Itoa n h0 h1 (w.alloc (.cells #[.int .i64 k, .int .i64 n, .string s] 32)) (hE.below (below_box _ _)).pw
  have HI := Hid.mk hI
  have HE := Hid.mk hE
  clear hI hE
  cases g : (k == 1)
  · have HV : Hid (valueL k n s.data.toList = 39 :: (s.data.toList ++ [39])) := by show _ = _; simp at g; simp [valueL, g]
    clear HI h0 h1
    go_enter Tryz.func52, Tryz.ntmps52
    go_wp2
    go_ret
    exact ⟨ret_strB (by rw [HV.out]; simp), below_box _ _⟩
  · have HV : Hid (valueL k n s.data.toList = Lib.itoa n) := by show _ = _; simp at g; simp [valueL, g]
    go_enter Tryz.func52, Tryz.ntmps52
    go_wp2_with (go_at_call 82; refine HI.out.mono ?_; rintro e w' ⟨rfl, kq, osq, rfl⟩)
    go_ret
    refine ⟨ret_strB (by rw [HV.out]), (below_box _ _).trans ((below_growN _ _ _).mono (by simp))⟩

theorem em_t {s : ByteArray} (h : s.toList.isEmpty = true) : s.data.toList = [] := by rw [ByteArray.toList_eq, List.isEmpty_iff] at h; exact h
theorem em_f {s : ByteArray} (h : s.toList.isEmpty = false) : s.data.toList ≠ [] := by
  rw [ByteArray.toList_eq] at h; intro e; rw [e] at h; simp at h
theorem eq_t {l : List UInt8} {s : ByteArray} (h : (l == s.toList) = true) : s.data.toList = l := by rw [ByteArray.toList_eq] at h; exact (beq_iff_eq.1 h).symm
theorem eq_f {l : List UInt8} {s : ByteArray} (h : (l == s.toList) = false) : s.data.toList ≠ l := by
  rw [ByteArray.toList_eq] at h; intro e; rw [e] at h; simp at h

def kindOfI (l : List UInt8) : Int := if l = [105, 110, 116] then 1 else if l = [116, 101, 120, 116] then 2 else 0

set_option maxHeartbeats 800000 in
theorem kindOf_any (s : ByteArray) (w : World) (hE : Env w) :
    Calls Tryz.prog 60 #[.string s] w fun e w' => e = .returned (.int .i64 (kindOfI s.data.toList)) ∧ w' = w := by
  have k0 := hE.k0
  have k1 := hE.k1
  have k2 := hE.k2
  clear hE
  go_enter Tryz.func60, Tryz.ntmps60
  go_wp2
  go_loop [4] (fun i => ∃ k : Nat, k ≤ 3 ∧ i = .int .i64 k ∧ (1 ≤ k → s.data.toList ≠ []) ∧ (2 ≤ k → s.data.toList ≠ [105, 110, 116]) ∧ (3 ≤ k → s.data.toList ≠ [116, 101, 120, 116])) (fun i => 3 - (intOf i).toNat)
  case atStart => exact ⟨0, by omega, rfl, by omega, by omega, by omega⟩
  case round =>
    obtain ⟨k, hk, rfl, h1, h2, h3⟩ := hrel
    have H1 := Hid.mk h1
    have H2 := Hid.mk h2
    have H3 := Hid.mk h3
    clear h1 h2 h3
    rcases (show k = 0 ∨ k = 1 ∨ k = 2 ∨ k = 3 by omega) with rfl | rfl | rfl | rfl
    · cases e : s.toList.isEmpty
      · go_wp2
        go_round
        case rel => exact ⟨1, by omega, rfl, fun _ => em_f e, by omega, by omega⟩
        case measure => simp [intOf]
      · go_wp2
        go_ret
        exact ⟨ret_int (by rw [em_t e]; rfl), rfl⟩
    · cases e : ([105, 110, 116] == s.toList)
      · go_wp2
        go_round
        case rel => exact ⟨2, by omega, rfl, fun _ => H1.out (by omega), fun _ => eq_f e, by omega⟩
        case measure => simp [intOf]
      · go_wp2
        go_ret
        exact ⟨ret_int (by rw [eq_t e]; rfl), rfl⟩
    · cases e : ([116, 101, 120, 116] == s.toList)
      · go_wp2
        go_round
        case rel => exact ⟨3, by omega, rfl, fun _ => H1.out (by omega), fun _ => H2.out (by omega), fun _ => eq_f e⟩
        case measure => simp [intOf]
      · go_wp2
        go_ret
        exact ⟨ret_int (by rw [eq_t e]; rfl), rfl⟩
    · go_wp2
      go_ret
      exact ⟨ret_int (by have h2 := H2.out (by omega); have h3 := H3.out (by omega); simp [kindOfI, h2, h3]), rfl⟩
end Go.Proofs.YtccbjhaebajamaaGreatDoor
