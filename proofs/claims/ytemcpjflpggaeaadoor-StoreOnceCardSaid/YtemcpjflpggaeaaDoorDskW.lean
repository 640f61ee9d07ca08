import Derived.Test.YtemcpjflpggaeaaDoorDskV
import Derived.Test.YtemcpjflpggaeaaDoorDskL
set_option linter.unusedSimpArgs false
set_option linter.unusedVariables false
namespace Go.Proofs.YtemcpjflpggaeaaDoor.Dk
open Go.RowKit Go.Maps

theorem lastW_snoc (k : Nat) : ∀ (l : List (Nat × Bs)) (x : Nat × Bs), lastL k (l ++ [x]) = if x.1 = k then some x.2 else lastL k l
  | [], x => by
    simp only [List.nil_append, lastL]
    split <;> rfl
  | y :: r, x => by
    simp only [List.cons_append, lastL, lastW_snoc k r x]
    split
    · rfl
    · rfl
theorem read_wrote_same (d : St) (k : Nat) (l : Bs) : (d.wrote k l).read k = pad l := by
  simp [St.read, St.wrote, lastW_snoc]
theorem read_wrote_other (d : St) {k j : Nat} (l : Bs) (h : j ≠ k) : (d.wrote k l).read j = d.read j := by
  have : k ≠ j := fun e => h e.symm
  simp [St.read, St.wrote, lastW_snoc, this]
theorem pad_full {l : Bs} (h : l.length = 64) : pad l = l := by simp [pad, h]
theorem full_pad (s : ByteArray) (h : s.size ≤ 64) : pad (fullS s).data.toList = (fullS s).data.toList := pad_full (by have := full_size s h; simpa using this)
theorem tx_full (s : ByteArray) : tx (fullS s).data.toList = fullS s := rfl
/-- Which keys are there: those of lists that are not empty. -/
def There (m : Lit → Option Value) (g : Nat → List ByteArray) : Prop := ∀ k, k < 16 → ((m (keyI k)).isSome = true ↔ g k ≠ [])
theorem There.put {m : Lit → Option Value} {g : Nat → List ByteArray} (h : There m g) (k : Nat) (v : Value) {xs : List ByteArray} (hx : xs ≠ []) : There (putM m (keyI k) v) (setG g k xs) := by
  intro j hj
  by_cases e : j = k
  · subst e; rw [putM_at, setG_at]; simpa using hx
  · rw [putM_off m v (fun q => e (keyI_inj q)), setG_off g xs e]; exact h j hj
theorem putM_twice (m : Lit → Option Value) (kl : Lit) (u v : Value) : putM (putM m kl u) kl v = putM m kl v := by
  funext x
  by_cases e : x = kl
  · subst e; rw [putM_at, putM_at]
  · rw [putM_off _ _ e, putM_off _ _ e, putM_off _ _ e]
/-- What the call holds in cells of its own, and what was handed in. -/
structure Held (WB : World) (D S M CA CF CD CM : Nat) (va : Value) (ats : List Int) : Prop where
  a : Blk WB CA [va]
  f : Blk WB CF [.func (.func 10) #[] #[]]
  d : Blk WB CD [.pointer (some ⟨D, 0, none⟩)]
  m : Blk WB CM [.map (some M)]
  l : Lst WB va (it ats)
  na : CA ∉ [D, S, M]
  nf : CF ∉ [D, S, M]
  nd : CD ∉ [D, S, M]
  nm : CM ∉ [D, S, M]
  nl : ∀ b, va.ownBlock = some b → b ∉ [D, S, M]
theorem Held.at {WB w : World} {D S M CA CF CD CM : Nat} {va : Value} {ats : List Int} (h : Held WB D S M CA CF CD CM va ats) (hk : Keep [D, S, M] WB w) : w.cell? ⟨CA, 0, none⟩ = some va ∧ w.cell? ⟨CF, 0, none⟩ = some (.func (.func 10) #[] #[]) ∧ w.cell? ⟨CD, 0, none⟩ = some (.pointer (some ⟨D, 0, none⟩)) ∧ w.cell? ⟨CM, 0, none⟩ = some (.map (some M)) ∧ Lst w va (it ats) :=
  ⟨(h.a.keep hk h.na).cell 0 rfl, (h.f.keep hk h.nf).cell 0 rfl, (h.d.keep hk h.nd).cell 0 rfl, (h.m.keep hk h.nm).cell 0 rfl, h.l.keep hk (fun k hk' => Or.inl (fun e => h.nl k e hk'))⟩
theorem arithS {i m j : Nat} (hj : i % m = j) (h1 : ¬ m = 0) (h2 : ¬ 20 < m) (h3 : i ≤ 100) : (i : Int).tmod (m : Int) = (j : Int) ∧ wrap64 ((i : Int).tmod (m : Int)) = (j : Int) ∧ wrap64 (j : Int) = (j : Int) ∧ ((j : Int) < (m : Int)) ∧ j < m := by
  have hl : j < m := by rw [← hj]; exact Nat.mod_lt _ (by omega)
  have hw : wrap64 (j : Int) = (j : Int) := wrap_small j (by omega)
  exact ⟨by rw [rem_small, hj], by rw [rem_small, hj, hw], hw, by omega, hl⟩
theorem mapT : Tryd.prog.underlying 35 = some (.map 3 22) := Tryd.underlying35
theorem zeroL (w : World) : (zeroValue 22).run Tryd.prog w = .ok (.slice none 0 0) w := by kernel_rfl
theorem keyT (k : Nat) (h : k < 16) : keyOf Tryd.prog 3 (.int .i64 (k : Int)) = some (keyI k) := int_key Tryd.underlying3 k (by omega)
theorem own_sl {w : World} {B : Nat} {e : TypeId} {z n : Nat} {v : Value} {xs : List Value} (h : w.ownsRow B e z v n xs) : ∃ a c, v = .slice a n c := by
  obtain ⟨-, ⟨hv, hn0⟩ | ⟨g, cap, cur, hve, -⟩⟩ := h
  · exact ⟨none, 0, by rw [hv, hn0]⟩
  · exact ⟨_, _, hve⟩
theorem ws_few {a b i N : Nat} (h : a ≤ b + i) (h1 : b ≤ 100) (h2 : i ≤ N) (h3 : N ≤ 20) : a < 1000000 := by omega
theorem n_small {a b i N : Nat} (h : a ≤ b + 2 * i) (h1 : b ≤ 100) (h2 : i ≤ N) (h3 : N ≤ 20) : a < maxLen := by unfold maxLen; omega
theorem grown_self (w : World) (row : Option Nat) : w.grownBy w row := ⟨rfl, rfl, rfl, Nat.le_refl _, fun _ _ _ => rfl⟩
theorem n_small1 {a b i N : Nat} (h : a ≤ b + 2 * i) (h1 : b ≤ 100) (h2 : i ≤ N) (h3 : N ≤ 20) : a + 1 < maxLen := by unfold maxLen; omega
theorem n_step1 {a b i : Nat} (h : a ≤ b + 2 * i) : a + 1 + 1 ≤ b + 2 * (i + 1) := by omega
theorem n_step2 {a b i : Nat} (h : a ≤ b + 2 * i) : a + 1 ≤ b + 2 * (i + 1) := by omega
theorem n_end {a b i N : Nat} (h : a ≤ b + 2 * i) (h2 : i ≤ N) (h3 : N ≤ 20) : a ≤ b + 60 := by omega
theorem len_max {a : Nat} (h : a ≤ 1000000) : a + 1 ≤ maxLen := by unfold maxLen; omega
theorem len_bytes {a : Nat} (h : a ≤ 1000000) : (a + 1) * 16 ≤ 140737488355328 := by omega
theorem below_da (w : World) (o : Obj) : Below w.heap.size w (w.drew.alloc o) := ((Below.refl w.heap.size w).drew).alloc (Nat.le_refl _) o
theorem len_row {i N : Nat} (h : i ≤ N) (h2 : N ≤ 20) : 100 + i ≤ 1000000 := by omega
theorem len_row2 {i N : Nat} (h : i ≤ N) (h2 : N ≤ 20) : 100 + i ≤ 120 := by omega
theorem rows_len {g : Nat → List ByteArray} {i k0 : Nat} {xs : List ByteArray} (h : ∀ k, k < 16 → (g k).length ≤ 100 + i) (hx : xs.length ≤ 100 + (i + 1)) : ∀ k, k < 16 → (setG g k0 xs k).length ≤ 100 + (i + 1) := by
  intro k hk
  by_cases e : k = k0
  · subst e; rw [setG_at]; exact hx
  · rw [setG_off g xs e]; exact Nat.le_trans (h k hk) (Nat.le_succ _)
theorem st_app (a : List ByteArray) (s : ByteArray) : st (a ++ [s]) = st a ++ [.string s] := by simp [st]
theorem below_draw {w w' : World} (h : Below w.drew.heap.size w.drew w') : Below w.heap.size w w' := ⟨h.os, h.tape, h.output, h.size, h.block⟩
set_option maxRecDepth 100000 in
set_option maxHeartbeats 4000000 in
theorem put_first (J : St → (Nat → List ByteArray) → Prop) (WB w : World) (D S M n CA CF CD CM : Nat) (vw va vl : Value) (d : St) (m : Lit → Option Value) (g : Nat → List ByteArray) (ats : List Int) (l : List ByteArray)
    (hJ : ∀ d g k s, s ∈ l → k < 16 → d.sure.length = 16 → J d g → J (d.wrote k (fullS s).data.toList) (setG g k ([] ++ [fullS s])))
    (hH : Held WB D S M CA CF CD CM va ats) (hL : Lst WB vl (st l)) (hnl : l = [] ∨ ∀ b, vl.ownBlock = some b → b ∉ [D, S, M]) (hl : l.length ≤ 20) (hs : ∀ x ∈ l, x.size ≤ 64) (ha0 : ¬ ats.length = 0) (ha1 : ¬ 20 < ats.length) (hai : ∀ x ∈ ats, -9223372036854775808 ≤ x ∧ x ≤ 9223372036854775807)
    (h : Sure WB w D S M n vw d m g) (hn : n ≤ 100) (hfu : d.fuse = -1) (h16 : d.sure.length = 16) (hws : d.ws.length ≤ 100) (hj0 : J d g) (hth : There m g) (hgb : ∀ k, k < 16 → (g k).length ≤ 100) :
    Calls Tryd.prog 12 #[vl, .bool true, .pointer (some ⟨CA, 0, none⟩), .pointer (some ⟨CF, 0, none⟩), .pointer (some ⟨CD, 0, none⟩), .pointer (some ⟨CM, 0, none⟩)] w fun e w' => e = .returned (.tuple #[]) ∧ ∃ n' vw' d' m' g', Sure WB w' D S M n' vw' d' m' g' ∧ n' ≤ n + 60 ∧ d'.fuse = -1 ∧ d'.sure = d.sure ∧ d'.ws.length ≤ d.ws.length + 20 ∧ J d' g' ∧ There m' g' ∧ ∀ k, k < 16 → (g' k).length ≤ 120 := by
  have L0 := hid hL
  obtain ⟨a0, c0, rfl, -⟩ := hL
  have hb0 : (st l).length = l.length := st_len l
  rw [hb0] at L0 hnl ⊢
  obtain ⟨N, hN⟩ : ∃ N, l.length = N := ⟨_, rfl⟩
  have HN := hid hN
  rw [hN] at L0 hnl hl ⊢
  obtain ⟨mm, hmm⟩ : ∃ mm, ats.length = mm := ⟨_, rfl⟩
  have HM := hid hmm
  rw [hmm] at ha0 ha1
  have HH := hid hH
  have HJ := hid hJ
  have HNL := hid hnl
  have HS := hid hs
  have HAI := hid hai
  have H0 := hid (And.intro h (And.intro hj0 (And.intro hth hgb)))
  have h16' := hid h16
  have HE := hid hfu
  clear hJ hH hnl hs hai hN hmm hj0 hth hgb hb0 h h16 hfu
  go_enter Tryd.func12, Tryd.ntmps12
  go_wp2
  go_loopw [8] (fun iv wr => ∃ (i n' : Nat) (vw' : Value) (d' : St) (m' : Lit → Option Value) (g' : Nat → List ByteArray), i ≤ N ∧ iv = .int .i64 i ∧ Sure WB wr D S M n' vw' d' m' g' ∧ n' ≤ n + 2 * i ∧ d'.fuse = -1 ∧ d'.sure = d.sure ∧ d'.ws.length ≤ d.ws.length + i ∧ J d' g' ∧ There m' g' ∧ ∀ k, k < 16 → (g' k).length ≤ 100 + i) (fun iv _ => N - (intOf iv).toNat)
  case atStart => exact ⟨0, n, vw, d, m, g, Nat.zero_le _, rfl, H0.out.1, by omega, HE.out, rfl, by omega, H0.out.2.1, H0.out.2.2.1, fun k hk => Nat.le_trans (H0.out.2.2.2 k hk) (Nat.le_add_right _ _)⟩
  case round =>
    obtain ⟨i, n1, vw1, d1, m1, g1, hi, rfl, hs1, hn1, hf1, hd1, hw1, hj1, ht1, hg1⟩ := hrel
    have S1 := hid hs1
    have F1 := hid (And.intro hf1 (And.intro hd1 (And.intro hj1 (And.intro ht1 hg1))))
    clear hs1 hf1 hd1 hj1 ht1 hg1
    by_cases hlt : i < N
    · have hi2 : i < l.length := by have := HN.out; omega
      have HNL2 := hid (HNL.out.resolve_left (by intro e; rw [e] at hi2; exact absurd hi2 (by simp)))
      obtain ⟨k0, k1, k2, k3, hLa⟩ := HH.out.at S1.out.keep
      have hL0 := L0.out.keep S1.out.keep (fun k hk => Or.inl (fun e => HNL2.out k e hk))
      have hN0 : 0 < N := Nat.lt_of_le_of_lt (Nat.zero_le _) hlt
      have hm0 : 0 < mm := Nat.pos_of_ne_zero ha0
      obtain ⟨-, b0, o0, ha0', hb0, hr0⟩ := hL0.at hN0
      obtain ⟨aa, ac, hva, -⟩ := id hLa
      rw [it_len] at hva
      have hva2 : va = .slice aa mm ac := by rw [hva, HM.out]
      subst hva2
      obtain ⟨-, b1, o1, ha1', hb1, hr1⟩ := hLa.at hm0
      subst ha0'
      subst ha1'
      obtain ⟨s, hsi⟩ : ∃ s, l[i] = s := ⟨_, rfl⟩
      have hsm : s ∈ l := by rw [← hsi]; exact List.getElem_mem hi2
      have hs64 := HS.out s hsm
      obtain ⟨j, hjj⟩ : ∃ j, i % mm = j := ⟨_, rfl⟩
      obtain ⟨r1, r2, r3, r4, r5⟩ := arithS hjj ha0 ha1 (Nat.le_trans hi (Nat.le_trans hl (by decide)))
      have hja : j < ats.length := by rw [HM.out]; exact r5
      obtain ⟨x, hx⟩ : ∃ x, ats[j] = x := ⟨_, rfl⟩
      have hxI := HAI.out x (by rw [← hx]; exact List.getElem_mem hja)
      have f1 := hr1 j _ (it_at ats j hja)
      have f2 := hr0 i _ (st_at l i hi2)
      rw [hx] at f1
      rw [hsi] at f2
      have hiz : (i : Int) < (N : Int) := by omega
      have HFC : Hid (∀ V : World, Keep [D, S, M] WB V → V.cell? ⟨CA, 0, none⟩ = some (.slice (some ⟨b1, o1, none⟩) mm ac) ∧ V.cell? ⟨CF, 0, none⟩ = some (.func (.func 10) #[] #[]) ∧ V.cell? ⟨b1, o1 + j, none⟩ = some (.int .i64 x) ∧ V.cell? ⟨b0, o0 + i, none⟩ = some (.string s)) := hid (fun V hV => by
        obtain ⟨z0, z1, -, -, zl⟩ := HH.out.at hV
        obtain ⟨-, y1, p1, e1, -, q1⟩ := zl.at hm0
        injection e1 with e1
        injection e1 with e1 e2
        subst e1 e2
        have zl0 := L0.out.keep hV (fun k hk => Or.inl (fun e => HNL2.out k e hk))
        obtain ⟨-, y0, p0, e0, -, q0⟩ := zl0.at hN0
        injection e0 with e0
        injection e0 with e0 e3
        subst e0 e3
        refine ⟨z0, z1, ?_, ?_⟩
        · rw [q1 j _ (it_at ats j hja), hx]
        · rw [q0 i _ (st_at l i hi2), hsi])
      have HP := hid pick_any
      have HFU := hid (fun V => full_any s V hs64)
      have hfs := full_size s hs64
      obtain ⟨fs, hfse⟩ : ∃ fs, fullS s = fs := ⟨_, rfl⟩
      have HFS := hid hfse
      rw [hfse] at HFU hfs
      have HWR := hid (fun (V : World) (kk : Nat) (hkk : kk < 16) (hV : Sure WB V D S M n1 vw1 d1 m1 g1) => wfree D S vw1 d1 kk fs V hV.disk (by rw [F1.out.2.1, h16'.out]; exact hkk) (Nat.le_of_eq hfs) F1.out.1 (ws_few hw1 hws hi hl))
      clear hr0 hr1 hsi hx hjj hfse hLa hL0 hva
      go_wp2
      go_region_held3 (fun V => V.cell? ⟨CA, 0, none⟩ = some (.slice (some ⟨b1, o1, none⟩) mm ac) ∧ V.cell? ⟨CF, 0, none⟩ = some (.func (.func 10) #[] #[]) ∧ V.cell? ⟨b1, o1 + j, none⟩ = some (.int .i64 x) ∧ V.cell? ⟨b0, o0 + i, none⟩ = some (.string s)) (first | exact ⟨k0, k1, f1, f2⟩ | exact G4.out) (first | (go_at_call 13; refine (HP.out _ _).mono ?_; rintro e wp ⟨kk, rfl, hkk, -, rfl⟩) | (go_at_call 10; refine (HFU.out _).mono ?_; rintro e w4 ⟨rfl, hb4⟩; have S4 := hid (S1.out.below (w' := w4) (below_draw hb4)); have G4 := hid (HFC.out w4 S4.out.keep); clear hb4))
      have S4k := S4.out.keep
      obtain ⟨-, -, d2, d3, -⟩ := HH.out.at S4k
      go_wp2_with (go_at_call 14; fail)
      refine (HWR.out w4 kk hkk S4.out).mono ?_
      rintro e w5 ⟨vw5, rfl, a5, k5, v5⟩
      have S5 := hid (S4.out.wrote a5 k5 v5)
      clear a5 k5 v5 d2 d3
      obtain ⟨-, -, -, e3, -⟩ := HH.out.at S5.out.keep
      have hmx : n1 < maxLen := n_small hn1 hn hi hl
      obtain ⟨w6, hrun6, hm6, hg6, hz6⟩ := S5.out.may.map.put (int_keyed Tryd.underlying3) mapT hmx (keyT kk hkk) (.slice none 0 0)
      have S6 := hid (S5.out.put (xs := []) hkk (Below.refl _ _) (w2 := w5) (grown_self _ _) (World.ownsRow_nil _ _ _ _) (by simp [Value.ownBlock]) hm6 hg6)
      clear hm6 hg6 hz6
      go_wp2
      obtain ⟨-, -, -, e6, -⟩ := HH.out.at S6.out.keep
      obtain ⟨ra, rc, hrow⟩ := own_sl (S6.out.may.rows kk hkk)
      have hlk := hid (fun (V : World) (hV : MapIs V 3 M (n1 + 1) (putM m1 (keyI kk) (.slice none 0 0))) => hV.look (int_keyed Tryd.underlying3) mapT (zeroL V) (keyT kk hkk) false)
      obtain ⟨gl, hgl⟩ : ∃ gl, (setG g1 kk []) kk = gl := ⟨_, rfl⟩
      rw [hgl] at hrow
      have hglen : gl.length ≤ 1000000 := (by rw [← hgl, setG_at]; exact Nat.zero_le _)
      obtain ⟨i0, hi0, hz0, hz1, hz2⟩ := info_parts info_str
      have B7 := hid (below_da w6 (.cells #[.string fs] 9))
      have HLK : Hid ((Instr.lookup 35 (.map (some M)) (.int .i64 (kk : Int)) false).run Tryd.prog w6.drew = .ok (.slice ra gl.length rc) w6.drew ∧ (Instr.lookup 35 (.map (some M)) (.int .i64 (kk : Int)) false).run Tryd.prog (w6.drew.alloc (.cells #[.string fs] 9)) = .ok (.slice ra gl.length rc) (w6.drew.alloc (.cells #[.string fs] 9))) := hid (by
        refine ⟨(hlk.out w6.drew (S6.out.may.map.block (w' := w6.drew) rfl)).trans ?_, (hlk.out (w6.drew.alloc (.cells #[.string fs] 9)) (S6.out.may.map.block (B7.out.block M S6.out.may.map.lt))).trans ?_⟩
        · show Result.ok (rowAt (putM m1 (keyI kk) (.slice none 0 0)) kk) _ = _
          rw [hrow]
        · show Result.ok (rowAt (putM m1 (keyI kk) (.slice none 0 0)) kk) _ = _
          rw [hrow])
      have hr6 := S6.out.may.rows kk hkk
      rw [hrow, hgl] at hr6
      have OW7 := hid (own_keep hr6 (Keep.of (X := []) B7.out) (by simp))
      have HNW : Hid (∀ j u, [Value.string fs][j]? = some u → (w6.drew.alloc (.cells #[.string fs] 9)).cell? ((⟨w6.heap.size, 0, none⟩ : Addr).add j) = some u) := hid (news1 w6.drew _ _ _ rfl)
      have HM1 : Hid (gl.length + 1 ≤ maxLen) := hid (len_max hglen)
      have HM2 : Hid ((gl.length + 1) * 16 ≤ 140737488355328) := hid (len_bytes hglen)
      have HM3 : Hid (WB.heap.size ≤ (w6.drew.alloc (.cells #[.string fs] 9)).heap.size) := hid (Nat.le_trans S6.out.keep.size B7.out.size)
      have HFIN : Hid (∀ gg cap w8, World.ownsRow w8 WB.heap.size 9 1 (.slice (some ⟨gg, 0, none⟩) (gl.length + 1) cap) (gl.length + 1) (st gl ++ [.string fs]) → (w6.drew.alloc (.cells #[.string fs] 9)).grownBy w8 (Value.slice ra gl.length rc).ownBlock → ((Value.slice ra gl.length rc).ownBlock = some gg ∨ gg = w6.heap.size + 1) → ∃ w9, (Instr.mapUpdate 35 (.map (some M)) (.int .i64 (kk : Int)) (.slice (some ⟨gg, 0, none⟩) (gl.length + 1) cap)).run Tryd.prog w8 = .ok () w9 ∧ Sure WB w9 D S M ((n1 + 1) + 1) vw5 (d1.wrote kk fs.data.toList) (putM (putM m1 (keyI kk) (.slice none 0 0)) (keyI kk) (.slice (some ⟨gg, 0, none⟩) (gl.length + 1) cap)) (setG (setG g1 kk []) kk (gl ++ [fs])) ∧ w8.cell? ⟨CM, 0, none⟩ = some (.map (some M)) ∧ w9.cell? ⟨CM, 0, none⟩ = some (.map (some M))) := hid (by
        intro gg cap w8 hown hgrow hat
        have hrM : some M ≠ (Value.slice ra gl.length rc).ownBlock := by
          intro e
          rw [← hrow] at e
          have h1 := (S6.out.row_ge hkk e.symm).1
          have h2 := S6.out.may.mb
          exact absurd h1 (Nat.not_le.2 h2)
        have hm8 : MapIs w8 3 M (n1 + 1) (putM m1 (keyI kk) (.slice none 0 0)) := (S6.out.may.map.block (B7.out.block M S6.out.may.map.lt)).kept hgrow hrM
        obtain ⟨w9, q1, q2, q3, q4⟩ := hm8.put (int_keyed Tryd.underlying3) mapT (Nat.lt_of_le_of_lt (Nat.le_refl _) (n_small1 hn1 hn hi hl)) (keyT kk hkk) (.slice (some ⟨gg, 0, none⟩) (gl.length + 1) cap)
        have hs9 := S6.out.put (xs := gl ++ [fs]) hkk B7.out (by rw [hrow]; exact hgrow) (by rw [st_app, List.length_append]; exact hown) (by
          intro b hb
          rw [hrow]
          simp only [Value.ownBlock, Option.some.injEq] at hb
          subst hb
          rcases hat with q | q
          · exact Or.inl q
          · exact Or.inr (by rw [q]; exact Nat.le_succ _)) q2 q3
        refine ⟨w9, q1, hs9, ?_, (HH.out.at hs9.keep).2.2.2.1⟩
        have hcm : CM < WB.heap.size := HH.out.m.lt
        have hk8 : Keep [D, S, M] WB w8 := ((S6.out.keep).then (Keep.of (X := []) B7.out) (by simp)).grown hgrow (fun r hr => Or.inr (by rw [← hrow] at hr; exact (S6.out.row_ge hkk hr).1))
        exact (HH.out.at hk8).2.2.2.1)
      have e7 := (HH.out.at ((S6.out.keep).then (Keep.of (X := []) B7.out) (by simp))).2.2.2.1
      have HR : Hid ((d1.wrote kk fs.data.toList).fuse = -1 ∧ (d1.wrote kk fs.data.toList).sure = d.sure ∧ (d1.wrote kk fs.data.toList).ws.length ≤ d.ws.length + (i + 1) ∧ J (d1.wrote kk fs.data.toList) (setG (setG g1 kk []) kk (gl ++ [fs])) ∧ (∀ v, There (putM (putM m1 (keyI kk) (.slice none 0 0)) (keyI kk) v) (setG (setG g1 kk []) kk (gl ++ [fs]))) ∧ ∀ k, k < 16 → (setG (setG g1 kk []) kk (gl ++ [fs]) k).length ≤ 100 + (i + 1)) := hid (by
        refine ⟨F1.out.1, F1.out.2.1, ?_, ?_, ?_, ?_⟩
        · show (d1.ws ++ [_]).length ≤ _
          rw [List.length_append]
          exact Nat.succ_le_succ hw1
        · have := HJ.out d1 g1 kk s hsm hkk (by rw [F1.out.2.1]; exact h16'.out) F1.out.2.2.1
          rw [HFS.out] at this
          rw [← hgl, setG_at, setG_twice]; exact this
        · intro v
          rw [setG_twice, putM_twice]; exact F1.out.2.2.2.1.put kk v (by simp)
        · rw [← hgl, setG_at, setG_twice]; exact rows_len F1.out.2.2.2.2 (Nat.le_trans (show 1 ≤ 100 by decide) (Nat.le_add_right _ _)))
      clear hgl hr6 hlk hglen
      refine wp_region_held_drew (S := fun V => V.cell? ⟨CM, 0, none⟩ = some (.map (some M))) (by kernel_rfl) e6 (fun hH => ?_)
      refine wpAnyH_take (i := 0) (v := .map (some M)) rfl (by kernel_rfl) (by kernel_rfl) (by kernel_rfl) (fun _ _ _ h => h) (Or.inl ⟨by rfl, ?_⟩) (by assumption) ?_
      · intro V hV
        go_simp
      simp only [List.getElem_toArray, List.getElem_cons_zero, List.getElem_cons_succ, Act.put, List.setIfInBounds_toArray, List.set_cons_zero, List.set_cons_succ]
      refine wpAnyH_take (i := 1) (v := .int .i64 (kk : Int)) rfl (by kernel_rfl) (by kernel_rfl) (by kernel_rfl) (fun _ _ _ h => h) (Or.inl ⟨by rfl, ?_⟩) (by assumption) ?_
      · intro V hV
        go_simp
      simp only [List.getElem_toArray, List.getElem_cons_zero, List.getElem_cons_succ, Act.put, List.setIfInBounds_toArray, List.set_cons_zero, List.set_cons_succ]
      refine wpAnyH_take (i := 2) (v := .map (some M)) rfl (by kernel_rfl) (by kernel_rfl) (by kernel_rfl) (fun _ _ _ h => h) (Or.inl ⟨by rfl, ?_⟩) (by assumption) ?_
      · intro V hV
        go_simp
      simp only [List.getElem_toArray, List.getElem_cons_zero, List.getElem_cons_succ, Act.put, List.setIfInBounds_toArray, List.set_cons_zero, List.set_cons_succ]
      refine wpAnyH_take (i := 3) (v := .int .i64 (kk : Int)) rfl (by kernel_rfl) (by kernel_rfl) (by kernel_rfl) (fun _ _ _ h => h) (Or.inl ⟨by rfl, ?_⟩) (by assumption) ?_
      · intro V hV
        go_simp
      simp only [List.getElem_toArray, List.getElem_cons_zero, List.getElem_cons_succ, Act.put, List.setIfInBounds_toArray, List.set_cons_zero, List.set_cons_succ]
      refine wpAnyH_take (i := 5) (v := .string fs) rfl (by kernel_rfl) (by kernel_rfl) (by kernel_rfl) (fun _ _ _ h => h) (Or.inl ⟨by rfl, ?_⟩) (by assumption) ?_
      · intro V hV
        go_simp
      simp only [List.getElem_toArray, List.getElem_cons_zero, List.getElem_cons_succ, Act.put, List.setIfInBounds_toArray, List.set_cons_zero, List.set_cons_succ]
      refine wpAnyH_ready (rs := [4, 6]) (by kernel_rfl) (by simp) ?_
      refine AllReadyH.cons rfl (fun K hK => ?_) (AllReadyH.cons rfl (fun K hK => ?_) AllReadyH.nil)
      · have lk := HLK.out.1
        go_simp
        refine hK.out _ _ e6 (fun hH => ?_)
        clear hK K lk
        try simp only [List.getElem_toArray, List.getElem_cons_zero, List.getElem_cons_succ, Act.put, List.setIfInBounds_toArray, List.set_cons_zero, List.set_cons_succ]
        refine wpAnyH_ready (rs := [6]) (by kernel_rfl) (by simp) ?_
        refine AllReadyH.cons rfl (fun K hK => ?_) AllReadyH.nil
        go_simp
        refine hK.out _ _ e7 (fun hH => ?_)
        clear hK K
        try simp only [List.getElem_toArray, List.getElem_cons_zero, List.getElem_cons_succ, Act.put, List.setIfInBounds_toArray, List.set_cons_zero, List.set_cons_succ]
        refine wpAnyH_ready (rs := [7]) (by kernel_rfl) (by simp) ?_
        refine AllReadyH.cons rfl (fun K hK => ?_) AllReadyH.nil
        refine step_append_lies _ (by rfl) _ _ _ (by rfl) WB.heap.size 9 i0 _ 1 16 Tryd.underlying22 hi0 hz0 hz1 hz2 rfl (by decide) _ _ _ (by rfl) OW7.out ⟨w6.heap.size, 0, none⟩ 1 1 [.string fs] (by rfl) (by rfl) HNW.out (one1t fs) (by decide) HM1.out HM2.out HM3.out (w6.heap.size + 1) (by simp) ?_
        intro gg cap w8 hown8 hgrow8 hat8 hlt8
        obtain ⟨w9, hrun9, s9, c8, c9⟩ := HFIN.out gg cap w8 hown8 hgrow8 hat8
        have S9 := hid s9
        clear hown8 hgrow8 hat8 hlt8 s9
        refine hK.out _ _ c8 (fun hH => ?_)
        clear hK K
        try simp only [List.getElem_toArray, List.getElem_cons_zero, List.getElem_cons_succ, Act.put, List.setIfInBounds_toArray, List.set_cons_zero, List.set_cons_succ]
        refine wpAnyH_ready (rs := [8]) (by kernel_rfl) (by simp) ?_
        refine AllReadyH.cons rfl (fun K hK => ?_) AllReadyH.nil
        go_simp
        refine hK.out _ _ c9 (fun hH => ?_)
        clear hK K
        try simp only [List.getElem_toArray, List.getElem_cons_zero, List.getElem_cons_succ, Act.put, List.setIfInBounds_toArray, List.set_cons_zero, List.set_cons_succ]
        refine wpAnyH_done (by kernel_rfl) ?_ _
        go_wp2
        go_roundw
        case rel => exact ⟨i + 1, _, _, _, _, _, hlt, by go_num, S9.out, n_step1 hn1, HR.out.1, HR.out.2.1, HR.out.2.2.1, HR.out.2.2.2.1, HR.out.2.2.2.2.1 _, HR.out.2.2.2.2.2⟩
        case measure => simp [intOf]; omega
      · go_simp
        refine hK.out _ _ e7 (fun hH => ?_)
        clear hK K
        try simp only [List.getElem_toArray, List.getElem_cons_zero, List.getElem_cons_succ, Act.put, List.setIfInBounds_toArray, List.set_cons_zero, List.set_cons_succ]
        refine wpAnyH_ready (rs := [4]) (by kernel_rfl) (by simp) ?_
        refine AllReadyH.cons rfl (fun K hK => ?_) AllReadyH.nil
        have lk : (Instr.lookup 35 (.map (some M)) (.int .i64 (kk : Int)) false).run Tryd.prog ((w6.alloc (.cells #[.string fs] 9)).drew) = .ok (.slice ra gl.length rc) ((w6.alloc (.cells #[.string fs] 9)).drew) := HLK.out.2
        go_simp
        refine hK.out _ _ e7 (fun hH => ?_)
        clear hK K lk
        try simp only [List.getElem_toArray, List.getElem_cons_zero, List.getElem_cons_succ, Act.put, List.setIfInBounds_toArray, List.set_cons_zero, List.set_cons_succ]
        refine wpAnyH_ready (rs := [7]) (by kernel_rfl) (by simp) ?_
        refine AllReadyH.cons rfl (fun K hK => ?_) AllReadyH.nil
        refine step_append_lies _ (by rfl) _ _ _ (by rfl) WB.heap.size 9 i0 _ 1 16 Tryd.underlying22 hi0 hz0 hz1 hz2 rfl (by decide) _ _ _ (by rfl) OW7.out ⟨w6.heap.size, 0, none⟩ 1 1 [.string fs] (by rfl) (by rfl) HNW.out (one1t fs) (by decide) HM1.out HM2.out HM3.out (w6.heap.size + 1) (by simp) ?_
        intro gg cap w8 hown8 hgrow8 hat8 hlt8
        obtain ⟨w9, hrun9, s9, c8, c9⟩ := HFIN.out gg cap w8 hown8 hgrow8 hat8
        have S9 := hid s9
        clear hown8 hgrow8 hat8 hlt8 s9
        refine hK.out _ _ c8 (fun hH => ?_)
        clear hK K
        try simp only [List.getElem_toArray, List.getElem_cons_zero, List.getElem_cons_succ, Act.put, List.setIfInBounds_toArray, List.set_cons_zero, List.set_cons_succ]
        refine wpAnyH_ready (rs := [8]) (by kernel_rfl) (by simp) ?_
        refine AllReadyH.cons rfl (fun K hK => ?_) AllReadyH.nil
        go_simp
        refine hK.out _ _ c9 (fun hH => ?_)
        clear hK K
        try simp only [List.getElem_toArray, List.getElem_cons_zero, List.getElem_cons_succ, Act.put, List.setIfInBounds_toArray, List.set_cons_zero, List.set_cons_succ]
        refine wpAnyH_done (by kernel_rfl) ?_ _
        go_wp2
        go_roundw
        case rel => exact ⟨i + 1, _, _, _, _, _, hlt, by go_num, S9.out, n_step1 hn1, HR.out.1, HR.out.2.1, HR.out.2.2.1, HR.out.2.2.2.1, HR.out.2.2.2.2.1 _, HR.out.2.2.2.2.2⟩
        case measure => simp [intOf]; omega
    · have hie : i = N := Nat.le_antisymm hi (Nat.le_of_not_lt hlt)
      have S9 := hid (And.intro S1.out (And.intro (n_end hn1 hi hl) (And.intro F1.out.1 (And.intro F1.out.2.1 (And.intro (Nat.le_trans hw1 (Nat.add_le_add_left (Nat.le_trans hi hl) _)) (And.intro F1.out.2.2.1 (And.intro F1.out.2.2.2.1 (fun k hk => Nat.le_trans (F1.out.2.2.2.2 k hk) (len_row2 hi hl)))))))))
      go_wp2
      go_end0
      exact ⟨rfl, _, _, _, _, _, S9.out⟩
set_option maxRecDepth 100000 in
set_option maxHeartbeats 4000000 in
theorem put_more (J : St → (Nat → List ByteArray) → Prop) (WB w : World) (D S M n CA CF CD CM : Nat) (vw va vl : Value) (d : St) (m : Lit → Option Value) (g : Nat → List ByteArray) (ats : List Int) (l : List ByteArray)
    (hJ : ∀ d g k s, s ∈ l → k < 16 → d.sure.length = 16 → J d g → J (d.wrote k (fullS s).data.toList) (setG g k (g k ++ [fullS s])))
    (hH : Held WB D S M CA CF CD CM va ats) (hL : Lst WB vl (st l)) (hnl : l = [] ∨ ∀ b, vl.ownBlock = some b → b ∉ [D, S, M]) (hl : l.length ≤ 20) (hs : ∀ x ∈ l, x.size ≤ 64) (ha0 : ¬ ats.length = 0) (ha1 : ¬ 20 < ats.length) (hai : ∀ x ∈ ats, -9223372036854775808 ≤ x ∧ x ≤ 9223372036854775807)
    (h : Sure WB w D S M n vw d m g) (hn : n ≤ 100) (hfu : d.fuse = -1) (h16 : d.sure.length = 16) (hws : d.ws.length ≤ 100) (hj0 : J d g) (hth : There m g) (hgb : ∀ k, k < 16 → (g k).length ≤ 100) :
    Calls Tryd.prog 12 #[vl, .bool false, .pointer (some ⟨CA, 0, none⟩), .pointer (some ⟨CF, 0, none⟩), .pointer (some ⟨CD, 0, none⟩), .pointer (some ⟨CM, 0, none⟩)] w fun e w' => e = .returned (.tuple #[]) ∧ ∃ n' vw' d' m' g', Sure WB w' D S M n' vw' d' m' g' ∧ n' ≤ n + 60 ∧ d'.fuse = -1 ∧ d'.sure = d.sure ∧ d'.ws.length ≤ d.ws.length + 20 ∧ J d' g' ∧ There m' g' ∧ ∀ k, k < 16 → (g' k).length ≤ 120 := by
  have L0 := hid hL
  obtain ⟨a0, c0, rfl, -⟩ := hL
  have hb0 : (st l).length = l.length := st_len l
  rw [hb0] at L0 hnl ⊢
  obtain ⟨N, hN⟩ : ∃ N, l.length = N := ⟨_, rfl⟩
  have HN := hid hN
  rw [hN] at L0 hnl hl ⊢
  obtain ⟨mm, hmm⟩ : ∃ mm, ats.length = mm := ⟨_, rfl⟩
  have HM := hid hmm
  rw [hmm] at ha0 ha1
  have HH := hid hH
  have HJ := hid hJ
  have HNL := hid hnl
  have HS := hid hs
  have HAI := hid hai
  have H0 := hid (And.intro h (And.intro hj0 (And.intro hth hgb)))
  have h16' := hid h16
  have HE := hid hfu
  clear hJ hH hnl hs hai hN hmm hj0 hth hgb hb0 h h16 hfu
  go_enter Tryd.func12, Tryd.ntmps12
  go_wp2
  go_loopw [8] (fun iv wr => ∃ (i n' : Nat) (vw' : Value) (d' : St) (m' : Lit → Option Value) (g' : Nat → List ByteArray), i ≤ N ∧ iv = .int .i64 i ∧ Sure WB wr D S M n' vw' d' m' g' ∧ n' ≤ n + 2 * i ∧ d'.fuse = -1 ∧ d'.sure = d.sure ∧ d'.ws.length ≤ d.ws.length + i ∧ J d' g' ∧ There m' g' ∧ ∀ k, k < 16 → (g' k).length ≤ 100 + i) (fun iv _ => N - (intOf iv).toNat)
  case atStart => exact ⟨0, n, vw, d, m, g, Nat.zero_le _, rfl, H0.out.1, by omega, HE.out, rfl, by omega, H0.out.2.1, H0.out.2.2.1, fun k hk => Nat.le_trans (H0.out.2.2.2 k hk) (Nat.le_add_right _ _)⟩
  case round =>
    obtain ⟨i, n1, vw1, d1, m1, g1, hi, rfl, hs1, hn1, hf1, hd1, hw1, hj1, ht1, hg1⟩ := hrel
    have S1 := hid hs1
    have F1 := hid (And.intro hf1 (And.intro hd1 (And.intro hj1 (And.intro ht1 hg1))))
    clear hs1 hf1 hd1 hj1 ht1 hg1
    by_cases hlt : i < N
    · have hi2 : i < l.length := by have := HN.out; omega
      have HNL2 := hid (HNL.out.resolve_left (by intro e; rw [e] at hi2; exact absurd hi2 (by simp)))
      obtain ⟨k0, k1, k2, k3, hLa⟩ := HH.out.at S1.out.keep
      have hL0 := L0.out.keep S1.out.keep (fun k hk => Or.inl (fun e => HNL2.out k e hk))
      have hN0 : 0 < N := Nat.lt_of_le_of_lt (Nat.zero_le _) hlt
      have hm0 : 0 < mm := Nat.pos_of_ne_zero ha0
      obtain ⟨-, b0, o0, ha0', hb0, hr0⟩ := hL0.at hN0
      obtain ⟨aa, ac, hva, -⟩ := id hLa
      rw [it_len] at hva
      have hva2 : va = .slice aa mm ac := by rw [hva, HM.out]
      subst hva2
      obtain ⟨-, b1, o1, ha1', hb1, hr1⟩ := hLa.at hm0
      subst ha0'
      subst ha1'
      obtain ⟨s, hsi⟩ : ∃ s, l[i] = s := ⟨_, rfl⟩
      have hsm : s ∈ l := by rw [← hsi]; exact List.getElem_mem hi2
      have hs64 := HS.out s hsm
      obtain ⟨j, hjj⟩ : ∃ j, i % mm = j := ⟨_, rfl⟩
      obtain ⟨r1, r2, r3, r4, r5⟩ := arithS hjj ha0 ha1 (Nat.le_trans hi (Nat.le_trans hl (by decide)))
      have hja : j < ats.length := by rw [HM.out]; exact r5
      obtain ⟨x, hx⟩ : ∃ x, ats[j] = x := ⟨_, rfl⟩
      have hxI := HAI.out x (by rw [← hx]; exact List.getElem_mem hja)
      have f1 := hr1 j _ (it_at ats j hja)
      have f2 := hr0 i _ (st_at l i hi2)
      rw [hx] at f1
      rw [hsi] at f2
      have hiz : (i : Int) < (N : Int) := by omega
      have HFC : Hid (∀ V : World, Keep [D, S, M] WB V → V.cell? ⟨CA, 0, none⟩ = some (.slice (some ⟨b1, o1, none⟩) mm ac) ∧ V.cell? ⟨CF, 0, none⟩ = some (.func (.func 10) #[] #[]) ∧ V.cell? ⟨b1, o1 + j, none⟩ = some (.int .i64 x) ∧ V.cell? ⟨b0, o0 + i, none⟩ = some (.string s)) := hid (fun V hV => by
        obtain ⟨z0, z1, -, -, zl⟩ := HH.out.at hV
        obtain ⟨-, y1, p1, e1, -, q1⟩ := zl.at hm0
        injection e1 with e1
        injection e1 with e1 e2
        subst e1 e2
        have zl0 := L0.out.keep hV (fun k hk => Or.inl (fun e => HNL2.out k e hk))
        obtain ⟨-, y0, p0, e0, -, q0⟩ := zl0.at hN0
        injection e0 with e0
        injection e0 with e0 e3
        subst e0 e3
        refine ⟨z0, z1, ?_, ?_⟩
        · rw [q1 j _ (it_at ats j hja), hx]
        · rw [q0 i _ (st_at l i hi2), hsi])
      have HP := hid pick_any
      have HFU := hid (fun V => full_any s V hs64)
      have hfs := full_size s hs64
      obtain ⟨fs, hfse⟩ : ∃ fs, fullS s = fs := ⟨_, rfl⟩
      have HFS := hid hfse
      rw [hfse] at HFU hfs
      have HWR := hid (fun (V : World) (kk : Nat) (hkk : kk < 16) (hV : Sure WB V D S M n1 vw1 d1 m1 g1) => wfree D S vw1 d1 kk fs V hV.disk (by rw [F1.out.2.1, h16'.out]; exact hkk) (Nat.le_of_eq hfs) F1.out.1 (ws_few hw1 hws hi hl))
      clear hr0 hr1 hsi hx hjj hfse hLa hL0 hva
      go_wp2
      go_region_held3 (fun V => V.cell? ⟨CA, 0, none⟩ = some (.slice (some ⟨b1, o1, none⟩) mm ac) ∧ V.cell? ⟨CF, 0, none⟩ = some (.func (.func 10) #[] #[]) ∧ V.cell? ⟨b1, o1 + j, none⟩ = some (.int .i64 x) ∧ V.cell? ⟨b0, o0 + i, none⟩ = some (.string s)) (first | exact ⟨k0, k1, f1, f2⟩ | exact G4.out) (first | (go_at_call 13; refine (HP.out _ _).mono ?_; rintro e wp ⟨kk, rfl, hkk, -, rfl⟩) | (go_at_call 10; refine (HFU.out _).mono ?_; rintro e w4 ⟨rfl, hb4⟩; have S4 := hid (S1.out.below (w' := w4) (below_draw hb4)); have G4 := hid (HFC.out w4 S4.out.keep); clear hb4))
      have S4k := S4.out.keep
      obtain ⟨-, -, d2, d3, -⟩ := HH.out.at S4k
      go_wp2_with (go_at_call 14; fail)
      refine (HWR.out w4 kk hkk S4.out).mono ?_
      rintro e w5 ⟨vw5, rfl, a5, k5, v5⟩
      have S5 := hid (S4.out.wrote a5 k5 v5)
      clear a5 k5 v5 d2 d3
      obtain ⟨-, -, -, e3, -⟩ := HH.out.at S5.out.keep
      have hmx : n1 < maxLen := n_small hn1 hn hi hl
      obtain ⟨w6, rfl⟩ : ∃ x, x = w5 := ⟨_, rfl⟩
      have S6 := hid S5.out
      go_wp2
      have e6 := e3
      obtain ⟨ra, rc, hrow⟩ := own_sl (S6.out.may.rows kk hkk)
      have hlk := hid (fun (V : World) (hV : MapIs V 3 M n1 m1) => hV.look (int_keyed Tryd.underlying3) mapT (zeroL V) (keyT kk hkk) false)
      obtain ⟨gl, hgl⟩ : ∃ gl, (g1) kk = gl := ⟨_, rfl⟩
      rw [hgl] at hrow
      have hglen : gl.length ≤ 1000000 := (by rw [← hgl]; exact Nat.le_trans (F1.out.2.2.2.2 kk hkk) (len_row hi hl))
      obtain ⟨i0, hi0, hz0, hz1, hz2⟩ := info_parts info_str
      have B7 := hid (below_da w6 (.cells #[.string fs] 9))
      have HLK : Hid ((Instr.lookup 35 (.map (some M)) (.int .i64 (kk : Int)) false).run Tryd.prog w6.drew = .ok (.slice ra gl.length rc) w6.drew ∧ (Instr.lookup 35 (.map (some M)) (.int .i64 (kk : Int)) false).run Tryd.prog (w6.drew.alloc (.cells #[.string fs] 9)) = .ok (.slice ra gl.length rc) (w6.drew.alloc (.cells #[.string fs] 9))) := hid (by
        refine ⟨(hlk.out w6.drew (S6.out.may.map.block (w' := w6.drew) rfl)).trans ?_, (hlk.out (w6.drew.alloc (.cells #[.string fs] 9)) (S6.out.may.map.block (B7.out.block M S6.out.may.map.lt))).trans ?_⟩
        · show Result.ok (rowAt m1 kk) _ = _
          rw [hrow]
        · show Result.ok (rowAt m1 kk) _ = _
          rw [hrow])
      have hr6 := S6.out.may.rows kk hkk
      rw [hrow, hgl] at hr6
      have OW7 := hid (own_keep hr6 (Keep.of (X := []) B7.out) (by simp))
      have HNW : Hid (∀ j u, [Value.string fs][j]? = some u → (w6.drew.alloc (.cells #[.string fs] 9)).cell? ((⟨w6.heap.size, 0, none⟩ : Addr).add j) = some u) := hid (news1 w6.drew _ _ _ rfl)
      have HM1 : Hid (gl.length + 1 ≤ maxLen) := hid (len_max hglen)
      have HM2 : Hid ((gl.length + 1) * 16 ≤ 140737488355328) := hid (len_bytes hglen)
      have HM3 : Hid (WB.heap.size ≤ (w6.drew.alloc (.cells #[.string fs] 9)).heap.size) := hid (Nat.le_trans S6.out.keep.size B7.out.size)
      have HFIN : Hid (∀ gg cap w8, World.ownsRow w8 WB.heap.size 9 1 (.slice (some ⟨gg, 0, none⟩) (gl.length + 1) cap) (gl.length + 1) (st gl ++ [.string fs]) → (w6.drew.alloc (.cells #[.string fs] 9)).grownBy w8 (Value.slice ra gl.length rc).ownBlock → ((Value.slice ra gl.length rc).ownBlock = some gg ∨ gg = w6.heap.size + 1) → ∃ w9, (Instr.mapUpdate 35 (.map (some M)) (.int .i64 (kk : Int)) (.slice (some ⟨gg, 0, none⟩) (gl.length + 1) cap)).run Tryd.prog w8 = .ok () w9 ∧ Sure WB w9 D S M (n1 + 1) vw5 (d1.wrote kk fs.data.toList) (putM m1 (keyI kk) (.slice (some ⟨gg, 0, none⟩) (gl.length + 1) cap)) (setG (g1) kk (gl ++ [fs])) ∧ w8.cell? ⟨CM, 0, none⟩ = some (.map (some M)) ∧ w9.cell? ⟨CM, 0, none⟩ = some (.map (some M))) := hid (by
        intro gg cap w8 hown hgrow hat
        have hrM : some M ≠ (Value.slice ra gl.length rc).ownBlock := by
          intro e
          rw [← hrow] at e
          have h1 := (S6.out.row_ge hkk e.symm).1
          have h2 := S6.out.may.mb
          exact absurd h1 (Nat.not_le.2 h2)
        have hm8 : MapIs w8 3 M n1 m1 := (S6.out.may.map.block (B7.out.block M S6.out.may.map.lt)).kept hgrow hrM
        obtain ⟨w9, q1, q2, q3, q4⟩ := hm8.put (int_keyed Tryd.underlying3) mapT hmx (keyT kk hkk) (.slice (some ⟨gg, 0, none⟩) (gl.length + 1) cap)
        have hs9 := S6.out.put (xs := gl ++ [fs]) hkk B7.out (by rw [hrow]; exact hgrow) (by rw [st_app, List.length_append]; exact hown) (by
          intro b hb
          rw [hrow]
          simp only [Value.ownBlock, Option.some.injEq] at hb
          subst hb
          rcases hat with q | q
          · exact Or.inl q
          · exact Or.inr (by rw [q]; exact Nat.le_succ _)) q2 q3
        refine ⟨w9, q1, hs9, ?_, (HH.out.at hs9.keep).2.2.2.1⟩
        have hcm : CM < WB.heap.size := HH.out.m.lt
        have hk8 : Keep [D, S, M] WB w8 := ((S6.out.keep).then (Keep.of (X := []) B7.out) (by simp)).grown hgrow (fun r hr => Or.inr (by rw [← hrow] at hr; exact (S6.out.row_ge hkk hr).1))
        exact (HH.out.at hk8).2.2.2.1)
      have e7 := (HH.out.at ((S6.out.keep).then (Keep.of (X := []) B7.out) (by simp))).2.2.2.1
      have HR : Hid ((d1.wrote kk fs.data.toList).fuse = -1 ∧ (d1.wrote kk fs.data.toList).sure = d.sure ∧ (d1.wrote kk fs.data.toList).ws.length ≤ d.ws.length + (i + 1) ∧ J (d1.wrote kk fs.data.toList) (setG (g1) kk (gl ++ [fs])) ∧ (∀ v, There (putM m1 (keyI kk) v) (setG (g1) kk (gl ++ [fs]))) ∧ ∀ k, k < 16 → (setG (g1) kk (gl ++ [fs]) k).length ≤ 100 + (i + 1)) := hid (by
        refine ⟨F1.out.1, F1.out.2.1, ?_, ?_, ?_, ?_⟩
        · show (d1.ws ++ [_]).length ≤ _
          rw [List.length_append]
          exact Nat.succ_le_succ hw1
        · have := HJ.out d1 g1 kk s hsm hkk (by rw [F1.out.2.1]; exact h16'.out) F1.out.2.2.1
          rw [HFS.out] at this
          rw [← hgl]; exact this
        · intro v
          exact F1.out.2.2.2.1.put kk v (by simp)
        · rw [← hgl]; exact rows_len F1.out.2.2.2.2 (by rw [List.length_append]; exact Nat.succ_le_succ (F1.out.2.2.2.2 kk hkk)))
      clear hgl hr6 hlk hglen
      refine wp_region_held_drew (S := fun V => V.cell? ⟨CM, 0, none⟩ = some (.map (some M))) (by kernel_rfl) e6 (fun hH => ?_)
      refine wpAnyH_take (i := 0) (v := .map (some M)) rfl (by kernel_rfl) (by kernel_rfl) (by kernel_rfl) (fun _ _ _ h => h) (Or.inl ⟨by rfl, ?_⟩) (by assumption) ?_
      · intro V hV
        go_simp
      simp only [List.getElem_toArray, List.getElem_cons_zero, List.getElem_cons_succ, Act.put, List.setIfInBounds_toArray, List.set_cons_zero, List.set_cons_succ]
      refine wpAnyH_take (i := 1) (v := .int .i64 (kk : Int)) rfl (by kernel_rfl) (by kernel_rfl) (by kernel_rfl) (fun _ _ _ h => h) (Or.inl ⟨by rfl, ?_⟩) (by assumption) ?_
      · intro V hV
        go_simp
      simp only [List.getElem_toArray, List.getElem_cons_zero, List.getElem_cons_succ, Act.put, List.setIfInBounds_toArray, List.set_cons_zero, List.set_cons_succ]
      refine wpAnyH_take (i := 2) (v := .map (some M)) rfl (by kernel_rfl) (by kernel_rfl) (by kernel_rfl) (fun _ _ _ h => h) (Or.inl ⟨by rfl, ?_⟩) (by assumption) ?_
      · intro V hV
        go_simp
      simp only [List.getElem_toArray, List.getElem_cons_zero, List.getElem_cons_succ, Act.put, List.setIfInBounds_toArray, List.set_cons_zero, List.set_cons_succ]
      refine wpAnyH_take (i := 3) (v := .int .i64 (kk : Int)) rfl (by kernel_rfl) (by kernel_rfl) (by kernel_rfl) (fun _ _ _ h => h) (Or.inl ⟨by rfl, ?_⟩) (by assumption) ?_
      · intro V hV
        go_simp
      simp only [List.getElem_toArray, List.getElem_cons_zero, List.getElem_cons_succ, Act.put, List.setIfInBounds_toArray, List.set_cons_zero, List.set_cons_succ]
      refine wpAnyH_take (i := 5) (v := .string fs) rfl (by kernel_rfl) (by kernel_rfl) (by kernel_rfl) (fun _ _ _ h => h) (Or.inl ⟨by rfl, ?_⟩) (by assumption) ?_
      · intro V hV
        go_simp
      simp only [List.getElem_toArray, List.getElem_cons_zero, List.getElem_cons_succ, Act.put, List.setIfInBounds_toArray, List.set_cons_zero, List.set_cons_succ]
      refine wpAnyH_ready (rs := [4, 6]) (by kernel_rfl) (by simp) ?_
      refine AllReadyH.cons rfl (fun K hK => ?_) (AllReadyH.cons rfl (fun K hK => ?_) AllReadyH.nil)
      · have lk := HLK.out.1
        go_simp
        refine hK.out _ _ e6 (fun hH => ?_)
        clear hK K lk
        try simp only [List.getElem_toArray, List.getElem_cons_zero, List.getElem_cons_succ, Act.put, List.setIfInBounds_toArray, List.set_cons_zero, List.set_cons_succ]
        refine wpAnyH_ready (rs := [6]) (by kernel_rfl) (by simp) ?_
        refine AllReadyH.cons rfl (fun K hK => ?_) AllReadyH.nil
        go_simp
        refine hK.out _ _ e7 (fun hH => ?_)
        clear hK K
        try simp only [List.getElem_toArray, List.getElem_cons_zero, List.getElem_cons_succ, Act.put, List.setIfInBounds_toArray, List.set_cons_zero, List.set_cons_succ]
        refine wpAnyH_ready (rs := [7]) (by kernel_rfl) (by simp) ?_
        refine AllReadyH.cons rfl (fun K hK => ?_) AllReadyH.nil
        refine step_append_lies _ (by rfl) _ _ _ (by rfl) WB.heap.size 9 i0 _ 1 16 Tryd.underlying22 hi0 hz0 hz1 hz2 rfl (by decide) _ _ _ (by rfl) OW7.out ⟨w6.heap.size, 0, none⟩ 1 1 [.string fs] (by rfl) (by rfl) HNW.out (one1t fs) (by decide) HM1.out HM2.out HM3.out (w6.heap.size + 1) (by simp) ?_
        intro gg cap w8 hown8 hgrow8 hat8 hlt8
        obtain ⟨w9, hrun9, s9, c8, c9⟩ := HFIN.out gg cap w8 hown8 hgrow8 hat8
        have S9 := hid s9
        clear hown8 hgrow8 hat8 hlt8 s9
        refine hK.out _ _ c8 (fun hH => ?_)
        clear hK K
        try simp only [List.getElem_toArray, List.getElem_cons_zero, List.getElem_cons_succ, Act.put, List.setIfInBounds_toArray, List.set_cons_zero, List.set_cons_succ]
        refine wpAnyH_ready (rs := [8]) (by kernel_rfl) (by simp) ?_
        refine AllReadyH.cons rfl (fun K hK => ?_) AllReadyH.nil
        go_simp
        refine hK.out _ _ c9 (fun hH => ?_)
        clear hK K
        try simp only [List.getElem_toArray, List.getElem_cons_zero, List.getElem_cons_succ, Act.put, List.setIfInBounds_toArray, List.set_cons_zero, List.set_cons_succ]
        refine wpAnyH_done (by kernel_rfl) ?_ _
        go_wp2
        go_roundw
        case rel => exact ⟨i + 1, _, _, _, _, _, hlt, by go_num, S9.out, n_step2 hn1, HR.out.1, HR.out.2.1, HR.out.2.2.1, HR.out.2.2.2.1, HR.out.2.2.2.2.1 _, HR.out.2.2.2.2.2⟩
        case measure => simp [intOf]; omega
      · go_simp
        refine hK.out _ _ e7 (fun hH => ?_)
        clear hK K
        try simp only [List.getElem_toArray, List.getElem_cons_zero, List.getElem_cons_succ, Act.put, List.setIfInBounds_toArray, List.set_cons_zero, List.set_cons_succ]
        refine wpAnyH_ready (rs := [4]) (by kernel_rfl) (by simp) ?_
        refine AllReadyH.cons rfl (fun K hK => ?_) AllReadyH.nil
        have lk : (Instr.lookup 35 (.map (some M)) (.int .i64 (kk : Int)) false).run Tryd.prog ((w6.alloc (.cells #[.string fs] 9)).drew) = .ok (.slice ra gl.length rc) ((w6.alloc (.cells #[.string fs] 9)).drew) := HLK.out.2
        go_simp
        refine hK.out _ _ e7 (fun hH => ?_)
        clear hK K lk
        try simp only [List.getElem_toArray, List.getElem_cons_zero, List.getElem_cons_succ, Act.put, List.setIfInBounds_toArray, List.set_cons_zero, List.set_cons_succ]
        refine wpAnyH_ready (rs := [7]) (by kernel_rfl) (by simp) ?_
        refine AllReadyH.cons rfl (fun K hK => ?_) AllReadyH.nil
        refine step_append_lies _ (by rfl) _ _ _ (by rfl) WB.heap.size 9 i0 _ 1 16 Tryd.underlying22 hi0 hz0 hz1 hz2 rfl (by decide) _ _ _ (by rfl) OW7.out ⟨w6.heap.size, 0, none⟩ 1 1 [.string fs] (by rfl) (by rfl) HNW.out (one1t fs) (by decide) HM1.out HM2.out HM3.out (w6.heap.size + 1) (by simp) ?_
        intro gg cap w8 hown8 hgrow8 hat8 hlt8
        obtain ⟨w9, hrun9, s9, c8, c9⟩ := HFIN.out gg cap w8 hown8 hgrow8 hat8
        have S9 := hid s9
        clear hown8 hgrow8 hat8 hlt8 s9
        refine hK.out _ _ c8 (fun hH => ?_)
        clear hK K
        try simp only [List.getElem_toArray, List.getElem_cons_zero, List.getElem_cons_succ, Act.put, List.setIfInBounds_toArray, List.set_cons_zero, List.set_cons_succ]
        refine wpAnyH_ready (rs := [8]) (by kernel_rfl) (by simp) ?_
        refine AllReadyH.cons rfl (fun K hK => ?_) AllReadyH.nil
        go_simp
        refine hK.out _ _ c9 (fun hH => ?_)
        clear hK K
        try simp only [List.getElem_toArray, List.getElem_cons_zero, List.getElem_cons_succ, Act.put, List.setIfInBounds_toArray, List.set_cons_zero, List.set_cons_succ]
        refine wpAnyH_done (by kernel_rfl) ?_ _
        go_wp2
        go_roundw
        case rel => exact ⟨i + 1, _, _, _, _, _, hlt, by go_num, S9.out, n_step2 hn1, HR.out.1, HR.out.2.1, HR.out.2.2.1, HR.out.2.2.2.1, HR.out.2.2.2.2.1 _, HR.out.2.2.2.2.2⟩
        case measure => simp [intOf]; omega
    · have hie : i = N := Nat.le_antisymm hi (Nat.le_of_not_lt hlt)
      have S9 := hid (And.intro S1.out (And.intro (n_end hn1 hi hl) (And.intro F1.out.1 (And.intro F1.out.2.1 (And.intro (Nat.le_trans hw1 (Nat.add_le_add_left (Nat.le_trans hi hl) _)) (And.intro F1.out.2.2.1 (And.intro F1.out.2.2.2.1 (fun k hk => Nat.le_trans (F1.out.2.2.2.2 k hk) (len_row2 hi hl)))))))))
      go_wp2
      go_end0
      exact ⟨rfl, _, _, _, _, _, S9.out⟩
end Go.Proofs.YtemcpjflpggaeaaDoor.Dk
