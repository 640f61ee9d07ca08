import Derived.Test.YtedflhiflomoeaaGreatDoorFlwIb
import Derived.Test.YtedflhiflomoeaaGreatDoorFlwIc
import Derived.Test.YtedflhiflomoeaaGreatDoorFlwId
set_option linter.unusedSimpArgs false
set_option linter.unusedVariables false
namespace Go.Proofs.YtedflhiflomoeaaGreatDoor
open Go.RowKit

theorem rbody_any (at_ : Nat) (outs : List By) (retry : Int) (vo : Value) (K R : Nat) (ts : List Tk) (w : World) (h : RD w R ts) (hK : Box w K [.int .i64 (at_ : Nat), .int .i64 0, vo, .slice none 0 0, .slice none 0 0, .string ⟨#[]⟩, .string ⟨#[]⟩, .int .i64 0, .int .i64 0, .string ⟨#[]⟩, .string ⟨#[]⟩, .int .i64 0, .int .i64 0, .string ⟨#[]⟩, .int .i64 retry]) (hKR : R < K) :
    Calls Tryz.prog 61 #[.pointer (some ⟨R, 0, none⟩), .pointer (some ⟨K, 0, none⟩)] w fun e w' => BodyR (bodyP at_ outs retry ts) vo K e w.heap.size w' R ∧ But2 R K w w' := by
  cases hc : codeP ts with
  | error e => exact rbody_c6 at_ outs retry vo K R ts w h hK hKR (fun c t h' => by rw [hc] at h'; cases h')
  | ok x =>
    obtain ⟨c, t⟩ := x
    have hall : ∀ c' t', codeP ts = .ok (c', t') → c' = c := fun c' t' h' => by rw [hc] at h'; simp only [Except.ok.injEq, Prod.mk.injEq] at h'; exact h'.1.symm
    rcases code_range hc with rfl | rfl | rfl | rfl | rfl | rfl | rfl | rfl | rfl
    · exact rbody_c1 at_ outs retry vo K R ts w h hK hKR hall
    · exact rbody_c2 at_ outs retry vo K R ts w h hK hKR hall
    · exact rbody_c3 at_ outs retry vo K R ts w h hK hKR hall
    · exact rbody_c4 at_ outs retry vo K R ts w h hK hKR hall
    · exact rbody_c5 at_ outs retry vo K R ts w h hK hKR hall
    · exact rbody_c6 at_ outs retry vo K R ts w h hK hKR hall
    · exact rbody_c7 at_ outs retry vo K R ts w h hK hKR hall
    · exact rbody_c8 at_ outs retry vo K R ts w h hK hKR hall
    · exact rbody_c9 at_ outs retry vo K R ts w h hK hKR hall
end Go.Proofs.YtedflhiflomoeaaGreatDoor
