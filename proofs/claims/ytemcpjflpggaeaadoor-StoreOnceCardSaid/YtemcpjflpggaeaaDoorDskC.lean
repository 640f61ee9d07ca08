import Derived.Test.YtemcpjflpggaeaaDoorDskB
import Derived.OwnWalk
import Derived.Great.BuildSlice
set_option linter.unusedSimpArgs false
set_option linter.unusedVariables false
namespace Go.Proofs.YtemcpjflpggaeaaDoor.Dk
open Go.RowKit

def z64 : Array Value := Array.replicate 64 (.int .u8 0)
theorem z_at (j : Nat) : z64[j % z64.size]! = .int .u8 0 := by
  have h : j % z64.size < z64.size := Nat.mod_lt _ (by simp [z64])
  rw [getElem!_pos z64 _ h]
  simp [z64]
theorem made_zero (n : Nat) : (madeCells z64 (n * 64)).toList = flat (List.replicate n zeros) := by
  have e1 : (madeCells z64 (n * 64)).toList = List.replicate (n * 64) (.int .u8 0) := by
    simp only [madeCells, Array.toList_map, Array.toList_range]
    rw [List.eq_replicate_iff]
    refine ⟨by simp, fun v hv => ?_⟩
    obtain ⟨j, -, rfl⟩ := List.mem_map.1 hv
    exact z_at j
  have e2 : bc zeros = List.replicate 64 (.int .u8 0) := by simp [bc, zeros]
  rw [e1]
  induction n with
  | zero => rfl
  | succ n ih =>
    have e3 : flat (List.replicate (n + 1) zeros) = bc zeros ++ flat (List.replicate n zeros) := rfl
    rw [e3, ← ih (by
      simp only [madeCells, Array.toList_map, Array.toList_range]
      rw [List.eq_replicate_iff]
      refine ⟨by simp, fun v hv => ?_⟩
      obtain ⟨j, -, rfl⟩ := List.mem_map.1 hv
      exact z_at j), e2, List.replicate_append_replicate, show (n + 1) * 64 = 64 + n * 64 by omega]
theorem info_parts {P : Program} {t : TypeId} {z : Value} {s b : Nat} (h : (P.info? t).map (fun i => (i.zero, i.size, i.bytes)) = some (some z, s, b)) : ∃ i, P.info? t = some i ∧ i.zero = some z ∧ i.size = s ∧ i.bytes = b := by
  cases hq : P.info? t with
  | none => simp [hq] at h
  | some i =>
    simp [hq] at h
    exact ⟨i, rfl, h.1, h.2.1, h.2.2⟩
theorem info_z : (Tryd.prog.info? 75).map (fun i => (i.zero, i.size, i.bytes)) = some (some (.agg z64), 64, 64) := by kernel_rfl
set_option maxRecDepth 100000 in
set_option maxHeartbeats 800000 in
theorem new_any (n : Nat) (w : World) (h8 : 8 ≤ n) (hn : n ≤ 16384) : Calls Tryd.prog 9 #[.int .i64 n] w fun e w' => ∃ D S, e = .returned (.tuple #[.pointer (some ⟨D, 0, none⟩), .nilIface]) ∧ At w' D S (.slice none 0 0) (newD n) ∧ Below w.heap.size w w' ∧ w.heap.size ≤ D ∧ w.heap.size ≤ S := by
  obtain ⟨i0, hi, hz0, hz1, hz2⟩ := info_parts info_z
  go_enter Tryd.func9, Tryd.ntmps9
  go_wp2_with (first | (refine wpList_make_full _ rfl (.tmp 11) (.tmp 11) 57 rfl 0 75 i0 (.agg z64) 64 Tryd.underlying57 hi hz0 hz1 .i64 .i64 n n n rfl rfl rfl rfl (by rw [hz2]; omega) (by unfold maxLen; omega) (Nat.zero_le _) ?_; intro w1 hown hgrow))
  refine bodyPost_ret (v := .tuple #[.pointer (some ⟨w1.heap.size, 0, none⟩), .nilIface]) (by simp [results, Tryd.results9, go_sem]) rfl ?_
  obtain ⟨-, ⟨h1, -⟩ | ⟨g', cap', cur, e, hB, hh, hnn, hm, hs, ht⟩⟩ := hown
  · cases h1
  injection e with e1 e2 e3
  injection e1 with e1
  injection e1 with e1
  subst e1
  subst e3
  have hsz : w.heap.size < w1.heap.size := by
    rcases Nat.lt_or_ge w.heap.size w1.heap.size with q | q
    · exact q
    · rw [Array.getElem?_eq_none q] at hh; simp at hh
  have hcur : cur = (flat (List.replicate n zeros)).toArray := by
    have : cur.toList.take (n * 64) = cur.toList := List.take_of_length_le (by simpa using Nat.le_of_eq hs)
    rw [this, show (Value.agg z64).cells = z64 from rfl, made_zero] at ht
    rw [← ht]
  have hd : (newD n).sure.length = n := by simp [newD]
  refine ⟨w1.heap.size, w.heap.size, rfl, ⟨?_, ?_, ?_, by omega, by simp [Value.ownBlock], by simp [Value.ownBlock], ok_new n h8 hn⟩, ?_, by omega, Nat.le_refl _⟩
  · rw [hd]
    exact Blk.new _ [.slice (some ⟨w.heap.size, 0, none⟩) n n, .slice none 0 0, .int .i64 (-1)] 60 _ rfl
  · refine Blk.alloc ⟨75, ?_⟩ _
    rw [hh, hcur]
    rfl
  · exact ⟨by simp [newD, flatW], Or.inl ⟨rfl, rfl⟩⟩
  · exact Below.alloc ⟨hgrow.os, hgrow.tape, hgrow.output, hgrow.size, fun k hk => hgrow.block k hk (by simp)⟩ (by omega) _
set_option maxHeartbeats 800000 in
theorem new_bad (n : Int) (w : World) (h8 : n < 8 ∨ 16384 < n) : Calls Tryd.prog 9 #[.int .i64 n] w fun e w' => e = .returned (.tuple #[.pointer none, .iface 52 (.int .i64 2)]) ∧ w' = w := by
  rcases h8 with h8 | h8
  · go_enter Tryd.func9, Tryd.ntmps9
    go_wp2
    refine bodyPost_ret (v := .tuple #[.pointer none, .iface 52 (.int .i64 2)]) (by simp [results, Tryd.results9, go_sem]) rfl ?_
    exact ⟨rfl, rfl⟩
  · have h9 : ¬ n < 8 := by omega
    go_enter Tryd.func9, Tryd.ntmps9
    go_wp2
    refine bodyPost_ret (v := .tuple #[.pointer none, .iface 52 (.int .i64 2)]) (by simp [results, Tryd.results9, go_sem]) rfl ?_
    exact ⟨rfl, rfl⟩
theorem z65_is (k : Nat) : (Tryd.zeroCells77.setIfInBounds 0 (.int .i64 (k : Int))).toList = wcell (k, zeros) := by
  have e : Tryd.zeroCells77 = (Value.int .i64 0 :: bc zeros).toArray := by kernel_rfl
  rw [e]
  simp [wcell]
theorem z64_len (k : Nat) : (wcell (k, zeros)).length = 65 := wcell_len (by simp [zeros])
theorem z65_size (k : Nat) : (Tryd.zeroCells77.setIfInBounds 0 (.int .i64 (k : Int))).size = 65 := by rw [← Array.length_toList, z65_is, z64_len]
theorem over_pad (k : Nat) (l : Bs) (h : l.length ≤ 64) : overL (wcell (k, zeros)) 1 (bc l) = wcell (k, pad l) := by
  have := over_app (bc l) [.int .i64 (k : Int)] (bc zeros) (by rw [bc_len, bc_len]; simpa [zeros] using h)
  simp only [List.length_singleton, List.singleton_append] at this
  rw [wcell, wcell, this, pad, bc_app, bc_len]
  simp only [List.cons_append, List.nil_append, List.cons.injEq, true_and, List.append_cancel_left_eq]
  simp only [bc, zeros, List.map_replicate, List.drop_replicate]
theorem info_b : ∀ w, (Go.sizeOf 5).run Tryd.prog w = .ok 1 w := fun w => by kernel_rfl
theorem info_wz : (Tryd.prog.info? 77).map (fun i => (i.zero, i.size, i.bytes)) = some (some (.agg Tryd.zeroCells77), 65, 72) := by kernel_rfl
theorem fold_over : ∀ (us : List Value) (o k : Nat) (A : Array Value), ((us.zipIdx k).foldl (fun acc x => acc.setIfInBounds (o + x.2) x.1) A).toList = overL A.toList (o + k) us
  | [], _, _, _ => rfl
  | u :: r, o, k, A => by
    rw [List.zipIdx_cons, List.foldl_cons, fold_over r o (k + 1), overL]
    simp [Nat.add_assoc]
theorem fill_one (s : Nat) (A : Array Value) (cs : List Value) (h1 : cs.length = s) (h2 : A.size = s) : Instr.fill (fun i => some (i * s, s)) A [(0, .agg cs.toArray)] = some cs.toArray := by
  have hc : (Value.agg cs.toArray).cells = cs.toArray := rfl
  simp only [Instr.fill, hc, List.size_toArray, h1, h2, Nat.zero_mul, Nat.zero_add, ne_eq, not_true_eq_false, decide_false, Bool.false_or, gt_iff_lt, Nat.lt_irrefl, Bool.false_eq_true, if_false]
  have := fold_over cs 0 0 A
  rw [over_all _ _ (by simpa [h1] using h2)] at this
  simp only [Nat.zero_add] at this
  congr 1
  rw [← Array.foldl_toList, Array.toList_zipIdx]
  have e2 := congrArg List.toArray this
  simpa using e2
/-- A slice of one whole struct, as one step of a region in any order. -/
theorem step_bslice {P : Program} {ops : Array Oper} {o : Oper} {a : Act} {w : World} {K : Act → World → Prop} {Q : Exit → Act → World → Prop} {E : Prop} (hgd : o.guard = none) (t e : TypeId) (x : Operand) (ho : o.op = .buildSlice t 1 #[(0, x)])
    (cs : List Value) (hx : a.eval x = .agg cs.toArray) (ie : TypeInfo) (z : Value) (hu : P.underlying t = some (.slice e)) (hie : P.info? e = some ie) (hz : ie.zero = some z) (hs : ie.size = cs.length) (h0 : 0 < cs.length) (h1 : cs.length ≤ 1000)
    (h : K (a.put o.dst (.slice (some ⟨w.heap.size, 0, none⟩) 1 1)) (w.alloc (.cells cs.toArray e))) : if Region.wanted o (yielded ops a.tmps) = true then Oper.wp P o a w K Q else E := by
  rw [if_pos (by simp [Region.wanted, hgd])]
  refine wp_buildSlice t e 1 #[(0, x)] ho cs.toArray ie z hu hie hz (by rw [hs]; omega) (by rw [hs]; omega) ?_ h
  simp only [List.map_toArray, List.map_cons, List.map_nil, hx]
  exact fill_one ie.size _ cs hs.symm (by simp)
/-- A whole struct or array read, as one step of a region in any order. -/
theorem step_load {P : Program} {ops : Array Oper} {o : Oper} {a : Act} {w : World} {K : Act → World → Prop} {Q : Exit → Act → World → Prop} {E : Prop} (hgd : o.guard = none) (ty : TypeId) (x : Operand) (ho : o.op = .load ty x)
    (b f : Nat) (hx : a.eval x = .pointer (some ⟨b, f, none⟩)) (cs : List Value) (d : TypeDesc) (hc : w.rangeAt b f cs) (hu : P.underlying ty = some d) (hd : d.isRow = true) (hi : (P.info? ty).map (·.size) = some cs.length)
    (h : K (a.put o.dst (.agg cs.toArray)) w) : if Region.wanted o (yielded ops a.tmps) = true then Oper.wp P o a w K Q else E := by
  rw [if_pos (by simp [Region.wanted, hgd])]
  exact wp_load_mid ty x ho b f hx cs d hc hu hd hi h
set_option maxRecDepth 100000 in
set_option maxHeartbeats 1600000 in
theorem write_any (D S : Nat) (vw : Value) (d : St) (k : Nat) (s : ByteArray) (w : World) (h : At w D S vw d) (hk : k < d.sure.length) (hs : s.size ≤ 64) (hl : d.live = true) (hf : d.ws.length < 1000000) :
    Calls Tryd.prog 14 #[.pointer (some ⟨D, 0, none⟩), .int .i64 k, .string s] w fun e w' => ∃ vw', e = .returned .nilIface ∧ At w' D S vw' (d.burnt.wrote k s.data.toList) ∧ Keep (blocks D S vw) w w' ∧ (vw'.ownBlock = vw.ownBlock ∨ ∃ g, vw'.ownBlock = some g ∧ w.heap.size ≤ g) := by
  have HB := hid (burn_any D S vw d w h)
  have HH := hid (has_any D S vw d k w h)
  rw [hl] at HB
  rw [show (decide (0 ≤ (k : Int)) && decide ((k : Int) < d.sure.length)) = true by simp; omega] at HH
  obtain ⟨i0, hi, hz0, hz1, hz2⟩ := info_parts info_wz
  go_enter Tryd.func14, Tryd.ntmps14
  go_wp2_with (first | (go_at_call 40; refine HH.out.mono ?_; rintro e w0 ⟨rfl, rfl⟩) | (go_at_call 41; fail))
  refine HB.out.mono ?_
  rintro e w1 ⟨rfl, h1, k1, -⟩
  obtain ⟨w2, hw2⟩ : ∃ w2, World.setCells (w1.alloc (.cells Tryd.zeroCells77 77)) w1.heap.size 0 (wcell (k, zeros)) = w2 := ⟨_, rfl⟩
  have X2 : Blk w2 w1.heap.size (wcell (k, zeros)) := by
    have := (blk_zero w1).sets (wcell (k, zeros)) 0
    rw [over_all _ _ (by rw [zero_len, z64_len]), hw2] at this
    exact this
  have K2 : Keep [] w1 w2 := by rw [← hw2]; exact Keep.sets _ _ ((Keep.refl [] w1).alloc _) (Or.inr (Nat.le_refl _))
  obtain ⟨w3, hw3⟩ : ∃ w3, World.setCells w2 w1.heap.size 1 (bc s.data.toList) = w3 := ⟨_, rfl⟩
  have X3 : Blk w3 w1.heap.size (wcell (k, pad s.data.toList)) := by
    have := X2.sets (bc s.data.toList) 1
    rw [over_pad _ _ (by simpa using hs), hw3] at this
    exact this
  have K3 : Keep [] w1 w3 := by rw [← hw3]; exact Keep.sets _ _ K2 (Or.inr (Nat.le_refl _))
  have hX3 := X3.lt
  have hcp : ∀ ty, (Builtin.copy_ #[66, 9] ty #[.slice (some ⟨w1.heap.size, 1, none⟩) 64 64, .string s]).run Tryd.prog w2 = .ok (goInt s.size) w3 := fun ty => by
    have ht : w2.there w1.heap.size 1 s.size := X2.there (by rw [wcell_len (by simp [zeros])]; omega)
    have := run_copy_string (P := Tryd.prog) w2 66 9 ty 5 w1.heap.size 1 64 64 s Tryd.underlying66 info_b hs (fun j hj => (ht j hj).1) (fun j hj => (ht j hj).2)
    rw [this, ← hw3]
    rfl
  have A3 := h1.keep K3 (by simp)
  have HA3 := hid A3
  have HK3 := hid (k1.then K3 (by simp))
  have HX3 := hid X3
  have d1 := A3.c1
  have f1 := A3.head.fz 1
  have hth : (w1.alloc (.cells Tryd.zeroCells77 77)).there w1.heap.size 0 65 := (blk_zero w1).there (by rw [zero_len]; omega)
  have HT1 : Hid ((w1.alloc (.cells Tryd.zeroCells77 77)).there w1.heap.size 0 (Tryd.zeroCells77.setIfInBounds 0 (.int .i64 (k : Int))).size) := hid (by rw [z65_size]; exact hth)
  have HT2 : Hid ((Tryd.prog.info? 77).map (·.size) = some (Tryd.zeroCells77.setIfInBounds 0 (.int .i64 (k : Int))).size) := hid (by rw [z65_size]; exact info_w)
  have HT3 : Hid ((Tryd.zeroCells77.setIfInBounds 0 (.int .i64 (k : Int))).all (·.oneCell') = true) := hid (by
    have := all_oneCell_toArray (wcell_one (k, zeros))
    rw [← z65_is] at this
    simpa only [Array.toArray_toList] using this)
  clear hw3 K3 K2 X3 A3 k1 X2 hth
  go_wp2_with (first | (refine wpList_store_mid rfl 77 (.tmp 7) (.tmp 22) rfl w1.heap.size 0 (Tryd.zeroCells77.setIfInBounds 0 (.int .i64 k)) rfl rfl HT1.out HT2.out HT3.out ?_; rw [z65_is, hw2]))
  have X3 := HX3.out
  obtain ⟨cs, hcs⟩ : ∃ cs, wcell (k, pad s.data.toList) = cs := ⟨_, rfl⟩
  have hcl : cs.length = 65 := by rw [← hcs]; exact wcell_len (pad_len _ (by simpa using hs))
  have hc1 : ∀ v ∈ cs, v.oneCell' = true := by rw [← hcs]; exact wcell_one _
  rw [hcs] at X3
  have HR3 := hid ((World.rangeAt_drew _ _ _ _).2 (X3.range (o := 0) (us := cs) (fun j v hv => by simpa using hv)))
  have HI3 : Hid ((Tryd.prog.info? 77).map (·.size) = some cs.length) := hid (by rw [hcl]; exact info_w)
  have O3 := hid (HA3.out.own)
  obtain ⟨va, vc, hv, hvc⟩ := own_form HA3.out.own
  subst hv
  have hDl := HA3.out.head.lt
  have HNW : Hid (∀ j u, cs[j]? = some u → (w3.drew.alloc (.cells cs.toArray 77)).cell? ((⟨w3.heap.size, 0, none⟩ : Addr).add j) = some u) := hid (by
    have := World.news_of_block (w := w3.drew.alloc (.cells cs.toArray 77)) (B := w3.heap.size) (cs := cs.toArray) (t := 77) (fr := (0, 0)) (by show (w3.heap.push _)[w3.heap.size]? = _; simp)
    simpa using this)
  have HM1 : Hid (d.burnt.ws.length + 1 ≤ maxLen) := hid (by unfold maxLen; show d.ws.length + 1 ≤ _; omega)
  have HM2 : Hid ((d.burnt.ws.length + 1) * 72 ≤ 140737488355328) := hid (by show (d.ws.length + 1) * 72 ≤ _; omega)
  have HFIN : Hid (∀ gg cap w5, World.ownsRow w5 0 77 65 (.slice (some ⟨gg, 0, none⟩) (d.burnt.ws.length + 1) cap) (d.burnt.ws.length + 1) (flatW d.burnt.ws ++ cs) → (w3.drew.alloc (.cells cs.toArray 77)).grownBy w5 (Value.slice va d.burnt.ws.length vc).ownBlock → ((Value.slice va d.burnt.ws.length vc).ownBlock = some gg ∨ gg = w3.heap.size + 1) → gg < w5.heap.size → (w5.cell? ⟨D, 1, none⟩ = some (.slice va d.burnt.ws.length vc) ∧ w5.frozen? ⟨D, 1, none⟩ = false ∧ At (w5.setCell ⟨D, 1, none⟩ (.slice (some ⟨gg, 0, none⟩) (d.burnt.ws.length + 1) cap)) D S (.slice (some ⟨gg, 0, none⟩) (d.burnt.ws.length + 1) cap) (d.burnt.wrote k s.data.toList) ∧ Keep (blocks D S (.slice va d.burnt.ws.length vc)) w0 (w5.setCell ⟨D, 1, none⟩ (.slice (some ⟨gg, 0, none⟩) (d.burnt.ws.length + 1) cap)) ∧ ((Value.slice (some ⟨gg, 0, none⟩) (d.burnt.ws.length + 1) cap).ownBlock = (Value.slice va d.burnt.ws.length vc).ownBlock ∨ ∃ g, (Value.slice (some ⟨gg, 0, none⟩) (d.burnt.ws.length + 1) cap).ownBlock = some g ∧ w0.heap.size ≤ g))) := hid (by
    intro gg cap w5 hown hgrow hat hlt
    have A4 := (HA3.out.drew).alloc (.cells cs.toArray 77)
    have D4 := A4.head.grown hgrow (fun q => A4.wd q.symm)
    have S4 := A4.body.grown hgrow (fun q => A4.ws q.symm)
    have hs3 := HK3.out.size
    have hgD : gg ≠ D := by rintro rfl; rcases hat with q | q; exact A4.wd q; omega
    have hgS : gg ≠ S := by rintro rfl; rcases hat with q | q; exact A4.ws q; have := HA3.out.body.lt; omega
    refine ⟨D4.cell 1 rfl, D4.fz 1, ⟨?_, ?_, ?_, A4.ds, by simpa [Value.ownBlock] using hgD, by simpa [Value.ownBlock] using hgS, ok_wrote (ok_burnt h.ok) k _ hk (by simpa using hs) hf⟩, ?_, ?_⟩
    · exact D4.set 1 _
    · exact S4.other _ _ A4.ds.symm
    · have := own_other hown D 1 (.slice (some ⟨gg, 0, none⟩) (d.burnt.ws.length + 1) cap) (by simpa [Value.ownBlock] using hgD)
      have e : flatW (d.burnt.wrote k s.data.toList).ws = flatW d.burnt.ws ++ cs := by
        rw [← hcs]
        simp [St.wrote, flatW]
      rw [e]
      simpa [St.wrote] using this
    · refine Keep.set (Keep.grown (Keep.alloc (HK3.out.drew.sub (by intro x hx; simp at hx; simp [hx, blocks])) _) hgrow (fun r hr => Or.inl (by simp [blocks, hr]))) _ _ _ (Or.inl (by simp [blocks]))
    · rcases hat with q | q
      · exact Or.inl q.symm
      · exact Or.inr ⟨gg, rfl, by omega⟩)
  refine wp_region_any (by kernel_rfl) ?_
  change wpAny _ _ _ _ _ _ _ (World.drew _)
  refine wpAny_take (i := 0) (v := .pointer (some ⟨D, 0, none⟩)) rfl (by kernel_rfl) (by kernel_rfl) (by kernel_rfl) (fun _ _ _ h => h) (Or.inl ⟨by rfl, ?_⟩) ?_
  · intro w
    go_simp
  simp only [List.getElem_toArray, List.getElem_cons_zero, List.getElem_cons_succ, Act.put, List.setIfInBounds_toArray, List.set_cons_zero, List.set_cons_succ]
  refine wpAny_take (i := 1) (v := .pointer (some ⟨D, 0, none⟩)) rfl (by kernel_rfl) (by kernel_rfl) (by kernel_rfl) (fun _ _ _ h => h) (Or.inl ⟨by rfl, ?_⟩) ?_
  · intro w
    go_simp
  simp only [List.getElem_toArray, List.getElem_cons_zero, List.getElem_cons_succ, Act.put, List.setIfInBounds_toArray, List.set_cons_zero, List.set_cons_succ]
  refine wpAny_take (i := 2) (v := .pointer (some ⟨D, 0, none⟩)) rfl (by kernel_rfl) (by kernel_rfl) (by kernel_rfl) (fun _ _ _ h => h) (Or.inl ⟨by rfl, ?_⟩) ?_
  · intro w
    go_simp
  simp only [List.getElem_toArray, List.getElem_cons_zero, List.getElem_cons_succ, Act.put, List.setIfInBounds_toArray, List.set_cons_zero, List.set_cons_succ]
  refine wpAny_take (i := 3) (v := .pointer (some ⟨D, 1, none⟩)) rfl (by kernel_rfl) (by kernel_rfl) (by kernel_rfl) (fun _ _ _ h => h) (Or.inl ⟨by rfl, ?_⟩) ?_
  · intro w
    go_simp
  simp only [List.getElem_toArray, List.getElem_cons_zero, List.getElem_cons_succ, Act.put, List.setIfInBounds_toArray, List.set_cons_zero, List.set_cons_succ]
  refine wpAny_ready (rs := [4, 5]) (by kernel_rfl) (by simp) ?_
  refine AllReady.cons rfl (fun K hK => ?_) (AllReady.cons rfl (fun K hK => ?_) AllReady.nil)
  · go_simp
    refine hK _ _ ?_
    clear hK K
    refine wpAny_ready (rs := [5]) (by kernel_rfl) (by simp) ?_
    refine AllReady.cons rfl (fun K hK => ?_) AllReady.nil
    refine step_load (by rfl) 77 (.tmp 7) (by rfl) w1.heap.size 0 (by rfl) cs _ HR3.out Tryd.underlying77 rfl HI3.out ?_
    refine hK _ _ ?_
    clear hK K
    simp only [List.getElem_toArray, List.getElem_cons_zero, List.getElem_cons_succ, Act.put, List.setIfInBounds_toArray, List.set_cons_zero, List.set_cons_succ]
    refine wpAny_ready (rs := [6]) (by kernel_rfl) (by simp) ?_
    refine AllReady.cons rfl (fun K hK => ?_) AllReady.nil
    refine step_bslice (by rfl) 58 77 (.tmp 32) (by rfl) cs (by rfl) i0 _ Tryd.underlying58 hi hz0 (by rw [hcl]; exact hz1) (by omega) (by omega) ?_
    refine hK _ _ ?_
    clear hK K
    simp only [List.getElem_toArray, List.getElem_cons_zero, List.getElem_cons_succ, Act.put, List.setIfInBounds_toArray, List.set_cons_zero, List.set_cons_succ]
    refine wpAny_ready (rs := [7]) (by kernel_rfl) (by simp) ?_
    refine AllReady.cons rfl (fun K hK => ?_) AllReady.nil
    refine step_append_lies _ (by rfl) _ _ _ (by rfl) 0 77 i0 _ 65 72 Tryd.underlying58 hi hz0 hz1 hz2 rfl (by omega) _ _ _ (by rfl) (O3.out.drew.alloc _) ⟨w3.heap.size, 0, none⟩ 1 1 cs (by rfl) (by rw [hcl]) HNW.out hc1 (by omega) HM1.out HM2.out (Nat.zero_le _) (w3.heap.size + 1) (by simp) ?_
    intro gg cap w5 hown5 hgrow5 hat5 hlt5
    refine hK _ _ ?_
    clear hK K
    have HF := HFIN.out _ _ _ hown5 hgrow5 hat5 hlt5
    have c5 := HF.1
    have f5 := HF.2.1
    simp only [List.getElem_toArray, List.getElem_cons_zero, List.getElem_cons_succ, Act.put, List.setIfInBounds_toArray, List.set_cons_zero, List.set_cons_succ]
    refine wpAny_take (i := 8) (v := .pointer (some ⟨D, 0, none⟩)) rfl (by kernel_rfl) (by kernel_rfl) (by kernel_rfl) (fun _ _ _ h => h) (Or.inl ⟨by rfl, ?_⟩) ?_
    · intro w
      go_simp
    simp only [List.getElem_toArray, List.getElem_cons_zero, List.getElem_cons_succ, Act.put, List.setIfInBounds_toArray, List.set_cons_zero, List.set_cons_succ]
    refine wpAny_take (i := 9) (v := .pointer (some ⟨D, 1, none⟩)) rfl (by kernel_rfl) (by kernel_rfl) (by kernel_rfl) (fun _ _ _ h => h) (Or.inl ⟨by rfl, ?_⟩) ?_
    · intro w
      go_simp
    simp only [List.getElem_toArray, List.getElem_cons_zero, List.getElem_cons_succ, Act.put, List.setIfInBounds_toArray, List.set_cons_zero, List.set_cons_succ]
    refine wpAny_ready (rs := [10]) (by kernel_rfl) (by simp) ?_
    refine AllReady.cons rfl (fun K hK => ?_) AllReady.nil
    go_simp
    refine hK _ _ ?_
    clear hK K
    refine wpAny_done (by kernel_rfl) ?_ _
    go_wp2
    go_ret
    exact ⟨_, rfl, HF.2.2⟩
  · refine step_load (by rfl) 77 (.tmp 7) (by rfl) w1.heap.size 0 (by rfl) cs _ HR3.out Tryd.underlying77 rfl HI3.out ?_
    refine hK _ _ ?_
    clear hK K
    simp only [List.getElem_toArray, List.getElem_cons_zero, List.getElem_cons_succ, Act.put, List.setIfInBounds_toArray, List.set_cons_zero, List.set_cons_succ]
    refine wpAny_ready (rs := [4, 6]) (by kernel_rfl) (by simp) ?_
    refine AllReady.cons rfl (fun K hK => ?_) (AllReady.cons rfl (fun K hK => ?_) AllReady.nil)
    · go_simp
      refine hK _ _ ?_
      clear hK K
      refine wpAny_ready (rs := [6]) (by kernel_rfl) (by simp) ?_
      refine AllReady.cons rfl (fun K hK => ?_) AllReady.nil
      refine step_bslice (by rfl) 58 77 (.tmp 32) (by rfl) cs (by rfl) i0 _ Tryd.underlying58 hi hz0 (by rw [hcl]; exact hz1) (by omega) (by omega) ?_
      refine hK _ _ ?_
      clear hK K
      simp only [List.getElem_toArray, List.getElem_cons_zero, List.getElem_cons_succ, Act.put, List.setIfInBounds_toArray, List.set_cons_zero, List.set_cons_succ]
      refine wpAny_ready (rs := [7]) (by kernel_rfl) (by simp) ?_
      refine AllReady.cons rfl (fun K hK => ?_) AllReady.nil
      refine step_append_lies _ (by rfl) _ _ _ (by rfl) 0 77 i0 _ 65 72 Tryd.underlying58 hi hz0 hz1 hz2 rfl (by omega) _ _ _ (by rfl) (O3.out.drew.alloc _) ⟨w3.heap.size, 0, none⟩ 1 1 cs (by rfl) (by rw [hcl]) HNW.out hc1 (by omega) HM1.out HM2.out (Nat.zero_le _) (w3.heap.size + 1) (by simp) ?_
      intro gg cap w5 hown5 hgrow5 hat5 hlt5
      refine hK _ _ ?_
      clear hK K
      have HF := HFIN.out _ _ _ hown5 hgrow5 hat5 hlt5
      have c5 := HF.1
      have f5 := HF.2.1
      simp only [List.getElem_toArray, List.getElem_cons_zero, List.getElem_cons_succ, Act.put, List.setIfInBounds_toArray, List.set_cons_zero, List.set_cons_succ]
      refine wpAny_take (i := 8) (v := .pointer (some ⟨D, 0, none⟩)) rfl (by kernel_rfl) (by kernel_rfl) (by kernel_rfl) (fun _ _ _ h => h) (Or.inl ⟨by rfl, ?_⟩) ?_
      · intro w
        go_simp
      simp only [List.getElem_toArray, List.getElem_cons_zero, List.getElem_cons_succ, Act.put, List.setIfInBounds_toArray, List.set_cons_zero, List.set_cons_succ]
      refine wpAny_take (i := 9) (v := .pointer (some ⟨D, 1, none⟩)) rfl (by kernel_rfl) (by kernel_rfl) (by kernel_rfl) (fun _ _ _ h => h) (Or.inl ⟨by rfl, ?_⟩) ?_
      · intro w
        go_simp
      simp only [List.getElem_toArray, List.getElem_cons_zero, List.getElem_cons_succ, Act.put, List.setIfInBounds_toArray, List.set_cons_zero, List.set_cons_succ]
      refine wpAny_ready (rs := [10]) (by kernel_rfl) (by simp) ?_
      refine AllReady.cons rfl (fun K hK => ?_) AllReady.nil
      go_simp
      refine hK _ _ ?_
      clear hK K
      refine wpAny_done (by kernel_rfl) ?_ _
      go_wp2
      go_ret
      exact ⟨_, rfl, HF.2.2⟩
    · refine step_bslice (by rfl) 58 77 (.tmp 32) (by rfl) cs (by rfl) i0 _ Tryd.underlying58 hi hz0 (by rw [hcl]; exact hz1) (by omega) (by omega) ?_
      refine hK _ _ ?_
      clear hK K
      simp only [List.getElem_toArray, List.getElem_cons_zero, List.getElem_cons_succ, Act.put, List.setIfInBounds_toArray, List.set_cons_zero, List.set_cons_succ]
      refine wpAny_ready (rs := [4]) (by kernel_rfl) (by simp) ?_
      refine AllReady.cons rfl (fun K hK => ?_) AllReady.nil
      go_simp
      refine hK _ _ ?_
      clear hK K
      refine wpAny_ready (rs := [7]) (by kernel_rfl) (by simp) ?_
      refine AllReady.cons rfl (fun K hK => ?_) AllReady.nil
      refine step_append_lies _ (by rfl) _ _ _ (by rfl) 0 77 i0 _ 65 72 Tryd.underlying58 hi hz0 hz1 hz2 rfl (by omega) _ _ _ (by rfl) (O3.out.drew.alloc _) ⟨w3.heap.size, 0, none⟩ 1 1 cs (by rfl) (by rw [hcl]) HNW.out hc1 (by omega) HM1.out HM2.out (Nat.zero_le _) (w3.heap.size + 1) (by simp) ?_
      intro gg cap w5 hown5 hgrow5 hat5 hlt5
      refine hK _ _ ?_
      clear hK K
      have HF := HFIN.out _ _ _ hown5 hgrow5 hat5 hlt5
      have c5 := HF.1
      have f5 := HF.2.1
      simp only [List.getElem_toArray, List.getElem_cons_zero, List.getElem_cons_succ, Act.put, List.setIfInBounds_toArray, List.set_cons_zero, List.set_cons_succ]
      refine wpAny_take (i := 8) (v := .pointer (some ⟨D, 0, none⟩)) rfl (by kernel_rfl) (by kernel_rfl) (by kernel_rfl) (fun _ _ _ h => h) (Or.inl ⟨by rfl, ?_⟩) ?_
      · intro w
        go_simp
      simp only [List.getElem_toArray, List.getElem_cons_zero, List.getElem_cons_succ, Act.put, List.setIfInBounds_toArray, List.set_cons_zero, List.set_cons_succ]
      refine wpAny_take (i := 9) (v := .pointer (some ⟨D, 1, none⟩)) rfl (by kernel_rfl) (by kernel_rfl) (by kernel_rfl) (fun _ _ _ h => h) (Or.inl ⟨by rfl, ?_⟩) ?_
      · intro w
        go_simp
      simp only [List.getElem_toArray, List.getElem_cons_zero, List.getElem_cons_succ, Act.put, List.setIfInBounds_toArray, List.set_cons_zero, List.set_cons_succ]
      refine wpAny_ready (rs := [10]) (by kernel_rfl) (by simp) ?_
      refine AllReady.cons rfl (fun K hK => ?_) AllReady.nil
      go_simp
      refine hK _ _ ?_
      clear hK K
      refine wpAny_done (by kernel_rfl) ?_ _
      go_wp2
      go_ret
      exact ⟨_, rfl, HF.2.2⟩
end Go.Proofs.YtemcpjflpggaeaaDoor.Dk
