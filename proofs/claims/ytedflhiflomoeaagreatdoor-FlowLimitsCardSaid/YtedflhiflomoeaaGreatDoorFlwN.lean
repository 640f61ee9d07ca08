import Derived.Test.YtedflhiflomoeaaGreatDoorFlwJ
set_option linter.unusedSimpArgs false
set_option linter.unusedVariables false
namespace Go.Proofs.YtedflhiflomoeaaGreatDoor
open Go.RowKit

theorem Tryz.infoIn : (Tryz.prog.info? 54).map (fun i => (i.zero, i.size, i.bytes)) = some (some (.agg #[.int .i64 0, .string ⟨#[]⟩, .slice none 0 0]), 3, 48) := by kernel_rfl
theorem Tryz.infoJob : (Tryz.prog.info? 61).map (fun i => (i.zero, i.size, i.bytes)) = some (some (.agg #[.int .i64 0, .int .i64 0, .slice none 0 0, .slice none 0 0, .slice none 0 0, .string ⟨#[]⟩, .string ⟨#[]⟩, .int .i64 0, .int .i64 0, .string ⟨#[]⟩, .string ⟨#[]⟩, .int .i64 0, .int .i64 0, .string ⟨#[]⟩, .int .i64 0]), 15, 208) := by kernel_rfl
theorem Tryz.infoOut : (Tryz.prog.info? 66).map (fun i => (i.zero, i.size, i.bytes)) = some (some (.agg #[.int .i64 0, .string ⟨#[]⟩, .string ⟨#[]⟩]), 3, 40) := by kernel_rfl
/-- Inputs' cells, and what their columns' slices are. -/
def insV : List FIn → List Value → List Value
  | a :: l, v :: vs => [.int .i64 (a.at_ : Nat), .string (ba a.name), v] ++ insV l vs
  | _, _ => []
def HI (w : World) (B : Nat) : List FIn → List Value → Prop
  | [], [] => True
  | a :: l, v :: vs => encCs B a.cols v w ∧ HI w B l vs
  | _, _ => False
theorem HI.imp {w w' : World} {B : Nat} (h : ∀ l v, encCs B l v w → encCs B l v w') : ∀ {l : List FIn} {vs : List Value}, HI w B l vs → HI w' B l vs
  | [], [], _ => trivial
  | a :: l, v :: vs, hh => ⟨h _ _ hh.1, HI.imp h hh.2⟩
  | [], _ :: _, hh => hh.elim
  | _ :: _, [], hh => hh.elim
theorem HI.snoc {w : World} {B : Nat} {a : FIn} {v : Value} (ha : encCs B a.cols v w) : ∀ {l : List FIn} {vs : List Value}, HI w B l vs → HI w B (l ++ [a]) (vs ++ [v]) ∧ insV (l ++ [a]) (vs ++ [v]) = insV l vs ++ [.int .i64 (a.at_ : Nat), .string (ba a.name), v]
  | [], [], _ => ⟨⟨ha, trivial⟩, rfl⟩
  | b :: l, u :: vs, hh => ⟨⟨hh.1, (HI.snoc ha hh.2).1⟩, by show _ ++ insV (l ++ [a]) (vs ++ [v]) = _; rw [(HI.snoc ha hh.2).2]; rfl⟩
  | [], _ :: _, hh => hh.elim
  | _ :: _, [], hh => hh.elim
def jobsV : List FJob → List (Value × Value × Value) → List Value
  | j :: l, v :: vs => jobV j v.1 v.2.1 v.2.2 ++ jobsV l vs
  | _, _ => []
def HJ (w : World) (B : Nat) : List FJob → List (Value × Value × Value) → Prop
  | [], [] => True
  | j :: l, v :: vs => (encL B j.outs v.1 w ∧ encL B j.ins v.2.1 w ∧ encL B j.cols v.2.2 w) ∧ HJ w B l vs
  | _, _ => False
theorem HJ.imp {w w' : World} {B : Nat} (h : ∀ l v, encL B l v w → encL B l v w') : ∀ {l : List FJob} {vs : List (Value × Value × Value)}, HJ w B l vs → HJ w' B l vs
  | [], [], _ => trivial
  | a :: l, v :: vs, hh => ⟨⟨h _ _ hh.1.1, h _ _ hh.1.2.1, h _ _ hh.1.2.2⟩, HJ.imp h hh.2⟩
  | [], _ :: _, hh => hh.elim
  | _ :: _, [], hh => hh.elim
theorem HJ.snoc {w : World} {B : Nat} {j : FJob} {v : Value × Value × Value} (ha : encL B j.outs v.1 w ∧ encL B j.ins v.2.1 w ∧ encL B j.cols v.2.2 w) : ∀ {l : List FJob} {vs : List (Value × Value × Value)}, HJ w B l vs → HJ w B (l ++ [j]) (vs ++ [v]) ∧ jobsV (l ++ [j]) (vs ++ [v]) = jobsV l vs ++ jobV j v.1 v.2.1 v.2.2
  | [], [], _ => ⟨⟨ha, trivial⟩, by simp [jobsV]⟩
  | b :: l, u :: vs, hh => ⟨⟨hh.1, (HJ.snoc ha hh.2).1⟩, by show _ ++ jobsV (l ++ [j]) (vs ++ [v]) = _; rw [(HJ.snoc ha hh.2).2]; simp [jobsV]⟩
  | [], _ :: _, hh => hh.elim
  | _ :: _, [], hh => hh.elim
def outsV (l : List FOut) : List Value := l.flatMap fun o => [.int .i64 (o.at_ : Nat), .string (ba o.name), .string (ba o.from_)]
theorem outsV_app (l : List FOut) (o : FOut) : outsV (l ++ [o]) = outsV l ++ [.int .i64 (o.at_ : Nat), .string (ba o.name), .string (ba o.from_)] := by simp [outsV]
def InsAt (w : World) (B : Nat) (l : List FIn) (v : Value) : Prop := ∃ vs, w.ownsRow B 54 3 v l.length (insV l vs) ∧ HI w B l vs
def JobsAt (w : World) (B : Nat) (l : List FJob) (v : Value) : Prop := ∃ vs, w.ownsRow B 61 15 v l.length (jobsV l vs) ∧ HJ w B l vs
def OutsAt (w : World) (B : Nat) (l : List FOut) (v : Value) : Prop := w.ownsRow B 66 3 v l.length (outsV l)
/-- Rows of other elements lie in other blocks. -/
theorem own_apart {w : World} {B B' : Nat} {e e' : TypeId} {z z' n n' : Nat} {v v' : Value} {xs xs' : List Value} (hne : e ≠ e') (h : w.ownsRow B e z v n xs) (h' : w.ownsRow B' e' z' v' n' xs') : v.ownBlock = none ∨ v.ownBlock ≠ v'.ownBlock := by
  obtain ⟨-, ⟨rfl, -⟩ | ⟨g, cap, cur, rfl, -, hg, -⟩⟩ := h
  · exact Or.inl rfl
  · obtain ⟨-, ⟨rfl, -⟩ | ⟨g', cap', cur', rfl, -, hg', -⟩⟩ := h'
    · exact Or.inr (by simp [Value.ownBlock])
    · refine Or.inr ?_
      simp only [Value.ownBlock]
      intro e2
      injection e2 with e2
      subst e2
      rw [hg] at hg'
      simp at hg'
      exact hne hg'.2
theorem own_kept {w w' : World} {B B' : Nat} {e e' : TypeId} {z z' n n' : Nat} {v v' : Value} {xs xs' : List Value} (hne : e ≠ e') (h : w.ownsRow B e z v n xs) (h' : w.ownsRow B' e' z' v' n' xs') (hg : w.grownBy w' v'.ownBlock) : w'.ownsRow B e z v n xs :=
  h.kept hg (own_apart hne h h')
abbrev Keeps (w w' : World) (B : Nat) : Prop := ∀ (e : TypeId) (z n : Nat) (v : Value) (xs : List Value), w.ownsRow B e z v n xs → w'.ownsRow B e z v n xs
theorem InsAt.imp {w w' : World} {B : Nat} {l : List FIn} {v : Value} (h : InsAt w B l v) (hk : ∀ (e : TypeId) (z n : Nat) (v : Value) (xs : List Value), (e = 54 ∨ e = 86) → w.ownsRow B e z v n xs → w'.ownsRow B e z v n xs) : InsAt w' B l v := by
  obtain ⟨vs, h1, h2⟩ := h
  exact ⟨vs, hk _ _ _ _ _ (Or.inl rfl) h1, h2.imp (fun l v hh => hk _ _ _ _ _ (Or.inr rfl) hh)⟩
theorem JobsAt.imp {w w' : World} {B : Nat} {l : List FJob} {v : Value} (h : JobsAt w B l v) (hk : ∀ (e : TypeId) (z n : Nat) (v : Value) (xs : List Value), (e = 61 ∨ e = 9) → w.ownsRow B e z v n xs → w'.ownsRow B e z v n xs) : JobsAt w' B l v := by
  obtain ⟨vs, h1, h2⟩ := h
  exact ⟨vs, hk _ _ _ _ _ (Or.inl rfl) h1, h2.imp (fun l v hh => hk _ _ _ _ _ (Or.inr rfl) hh)⟩
structure FlowI (w : World) (B : Nat) (I : List FIn) (vs : List Value) (vi : Value) : Prop where
  row : w.ownsRow B 54 3 vi I.length (insV I vs)
  held : HI w B I vs
theorem FlowI.imp {w w' : World} {B : Nat} {I : List FIn} {vs : List Value} {vi : Value} (h : FlowI w B I vs vi) (hk : Keeps w w' B) : FlowI w' B I vs vi := ⟨hk _ _ _ _ _ h.row, h.held.imp (fun l v hh => hk _ _ _ _ _ hh)⟩
theorem FlowI.at {w : World} {B : Nat} {I : List FIn} {vs : List Value} {vi : Value} (h : FlowI w B I vs vi) : InsAt w B I vi := ⟨vs, h.row, h.held⟩
theorem FlowI.step {w w' : World} {B : Nat} {I : List FIn} {vs : List Value} {vi v' vc : Value} {a : FIn} (h : FlowI w B I vs vi) (hc : encCs B a.cols vc w) (hg : w.grownBy w' vi.ownBlock) (ho : w'.ownsRow B 54 3 v' (I.length + 1) (insV I vs ++ [.int .i64 (a.at_ : Nat), .string (ba a.name), vc])) : FlowI w' B (I ++ [a]) (vs ++ [vc]) v' := by
  have hk : ∀ l v, encCs B l v w → encCs B l v w' := fun l v hh => own_kept (by decide) hh h.row hg
  have hs := HI.snoc (hk _ _ hc) (h.held.imp hk)
  exact ⟨by rw [hs.2, List.length_append]; exact ho, hs.1⟩
structure FlowJ (w : World) (B : Nat) (I : List FIn) (vi : Value) (J : List FJob) (vs : List (Value × Value × Value)) (vj : Value) : Prop where
  ins : InsAt w B I vi
  row : w.ownsRow B 61 15 vj J.length (jobsV J vs)
  held : HJ w B J vs
theorem FlowJ.imp {w w' : World} {B : Nat} {I : List FIn} {vi : Value} {J : List FJob} {vs : List (Value × Value × Value)} {vj : Value} (h : FlowJ w B I vi J vs vj) (hk : Keeps w w' B) : FlowJ w' B I vi J vs vj := ⟨h.ins.imp (fun e z n v xs _ hh => hk e z n v xs hh), hk _ _ _ _ _ h.row, h.held.imp (fun l v hh => hk _ _ _ _ _ hh)⟩
theorem FlowJ.step {w w' : World} {B : Nat} {I : List FIn} {vi : Value} {J : List FJob} {vs : List (Value × Value × Value)} {vj v' a1 a2 a3 : Value} {j : FJob} (h : FlowJ w B I vi J vs vj) (hc : encL B j.outs a1 w ∧ encL B j.ins a2 w ∧ encL B j.cols a3 w) (hg : w.grownBy w' vj.ownBlock) (ho : w'.ownsRow B 61 15 v' (J.length + 1) (jobsV J vs ++ jobV j a1 a2 a3)) : FlowJ w' B I vi (J ++ [j]) (vs ++ [(a1, a2, a3)]) v' := by
  have hk : ∀ l v, encL B l v w → encL B l v w' := fun l v hh => own_kept (by decide) hh h.row hg
  have hs := HJ.snoc (v := (a1, a2, a3)) ⟨hk _ _ hc.1, hk _ _ hc.2.1, hk _ _ hc.2.2⟩ (h.held.imp hk)
  exact ⟨h.ins.imp (fun e z n v xs he hh => own_kept (by rcases he with rfl | rfl <;> decide) hh h.row hg), by rw [hs.2, List.length_append]; exact ho, hs.1⟩
structure FlowO (w : World) (B : Nat) (I : List FIn) (vi : Value) (J : List FJob) (vj : Value) (O : List FOut) (vo : Value) : Prop where
  ins : InsAt w B I vi
  jobs : JobsAt w B J vj
  row : w.ownsRow B 66 3 vo O.length (outsV O)
theorem FlowO.imp {w w' : World} {B : Nat} {I : List FIn} {vi : Value} {J : List FJob} {vj : Value} {O : List FOut} {vo : Value} (h : FlowO w B I vi J vj O vo) (hk : Keeps w w' B) : FlowO w' B I vi J vj O vo := ⟨h.ins.imp (fun e z n v xs _ hh => hk e z n v xs hh), h.jobs.imp (fun e z n v xs _ hh => hk e z n v xs hh), hk _ _ _ _ _ h.row⟩
theorem FlowO.step {w w' : World} {B : Nat} {I : List FIn} {vi : Value} {J : List FJob} {vj : Value} {O : List FOut} {vo v' : Value} {o : FOut} (h : FlowO w B I vi J vj O vo) (hg : w.grownBy w' vo.ownBlock) (ho : w'.ownsRow B 66 3 v' (O.length + 1) (outsV O ++ [.int .i64 (o.at_ : Nat), .string (ba o.name), .string (ba o.from_)])) : FlowO w' B I vi J vj (O ++ [o]) v' :=
  ⟨h.ins.imp (fun e z n v xs he hh => own_kept (by rcases he with rfl | rfl <;> decide) hh h.row hg), h.jobs.imp (fun e z n v xs he hh => own_kept (by rcases he with rfl | rfl <;> decide) hh h.row hg), by rw [outsV_app, List.length_append]; exact ho⟩
theorem FlowI.nil (w : World) (B : Nat) : FlowI w B [] [] (.slice none 0 0) := ⟨World.ownsRow_nil _ _ _ _, trivial⟩
theorem FlowJ.nil {w : World} {B : Nat} {I : List FIn} {vi : Value} (h : InsAt w B I vi) : FlowJ w B I vi [] [] (.slice none 0 0) := ⟨h, World.ownsRow_nil _ _ _ _, trivial⟩
theorem FlowO.nil {w : World} {B : Nat} {I : List FIn} {vi : Value} {J : List FJob} {vs : List (Value × Value × Value)} {vj : Value} (h : FlowJ w B I vi J vs vj) : FlowO w B I vi J vj [] (.slice none 0 0) := ⟨h.ins, ⟨vs, h.row, h.held⟩, World.ownsRow_nil _ _ _ _⟩
end Go.Proofs.YtedflhiflomoeaaGreatDoor
