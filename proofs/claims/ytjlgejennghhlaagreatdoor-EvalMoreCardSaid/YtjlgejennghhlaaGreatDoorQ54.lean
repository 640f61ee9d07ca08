/- With one job more, of a name that is not taken and that nobody reads, a flow tells the same tables, and the same error at the job that is one further on: foremankeep.EvalMore returns true at every text, map of tables and name, whatever memory and schedule, and its arguments read as they did. Its conditions: the listed package-level variables start as the program's text lays them (the tied card); nothing is narrowed besides. -/
import Derived.Test.YtjlgejennghhlaaGreatDoorCards
import Derived.Test.YtjlgejennghhlaaGreatDoorTie
import Derived.Lib.SmallJoins
import Derived.Deep.SlicePairs
import Derived.Deep.Strs
import Derived.Test.YtjlgejennghhlaaGreatDoorQ01
import Derived.Test.YtjlgejennghhlaaGreatDoorQ53
import Derived.Test.YtjlgejennghhlaaGreatDoorQ52
set_option linter.unusedSimpArgs false
set_option linter.unusedVariables false
set_option linter.unusedSectionVars false
set_option maxRecDepth 1000000
set_option maxHeartbeats 16000000
namespace Go.Proofs.YtjlgejennghhlaaGreatDoor
open Go.ChangeShapes Go.WideShapes Go.ChangeAt Go.RowKit Go.Joins Go.Deep
theorem Qhe (H:Type) (enc:TypeId×Value->H) (W:World) (base:Nat) (args:Array Value) (ds gs:List (DataW H)) (I:List MemPlace)
 (y:∀(j:Nat) t v,Tryz.f4.params[j]? =some t->args[j]? =some v->Value.okWide Tryz.prog W .any base t v)
 (hW:DataW.Whole enc Tryz.prog Tryz.f4.params.toList Rows.evalMoreSpec.vars false W args.toList ds gs I) (hL:laidMetH Tryz.prog Rows.evalMoreRow.laid W) (ag:W.ShapedOpen Tryz.prog):
 Calls Tryz.prog 4 args W fun e W'=>∃v,e=.returned v/\Rows.evalMoreSpec.post enc Tryz.prog Tryz.f4 false true false false W args v W':=by
 have hW':=hW;obtain⟨p,q,K,hV,rfl,aF,aE⟩:=hW;have hA:DataW.TrodAll enc Tryz.prog W 0 (fun _=>true) true Tryz.f4.params.toList args.toList ds p:=K;rw[Tryz.params4] at hA y;obtain⟨v0,v1,v2,d0,d1,d2,p0,p1,p2,rfl,rfl,rfl,h0,h1,h2⟩:=trodAll_three hA;obtain⟨rfl,rfl⟩:=trodVars_none hV;have k0:=y 0 9 v0 rfl rfl;obtain⟨s,rfl⟩:=okWide_string Tryz.underlying9 k0;obtain⟨mo,rfl⟩:=okWide_map Tryz.underlying22 (y 1 22 v1 rfl rfl);obtain⟨F,rfl⟩:=okWide_string Tryz.underlying9 (y 2 9 v2 rfl rfl);obtain⟨n0,N⟩:=h0;obtain⟨n1,O⟩:=h1;obtain⟨n2,M⟩:=h2;obtain⟨s',e1,aD,ab⟩:=DataW.trod_string Tryz.underlying9 N;obtain rfl:s=s':=by simpa [Value.cells] using e1
 obtain⟨Z,e2,aC,az⟩:=DataW.trod_string Tryz.underlying9 M;obtain rfl:F=Z:=by simpa [Value.cells] using e2
 have hL':laidMet Tryz.prog laidG W/\handlesMet Tryz.prog [("errors.errorType",Rows.laid_errors_errorType)] W:=hL;clear K;have J:Fw.ba s.data.toList=s:=by cases s;simp[Fw.ba]
 have U:Fw.ba F.data.toList=F:=by cases F;simp[Fw.ba]
 have D:=Pl.Ev.moreE_any s.data.toList F.data.toList (.map mo) W (Fw.fenv_of (Qo4 hL'.1)) (Fw.handle_of (List.mem_singleton.2 rfl) hL'.2) (Qq5 hL'.1 ag) (by rw[J];exact ab) (Pl.Ev.open_mapT O);rw[J,U] at D;refine D.mono fun e W' ⟨he,hbl⟩=>?_
 subst he;refine⟨_,rfl,_,_,_,[],p0++(p1++p2),[],hW',trodAll_mk1 (shut_bool Tryz.underlying4 _),?_,rfl,hbl.frame _,fun h=>by cases h⟩;have V:laidOutB Tryz.prog=true:=by kernel_rfl
 exact trodAll_mk3 (Below.trod V (by kernel_rfl) (of_decide_eq_true (by kernel_rfl)) ⟨n0,N⟩ hbl (DataW.trod_lt n0 _ _ _ N)) (Below.trod V (by kernel_rfl) (of_decide_eq_true (by kernel_rfl)) ⟨n1,O⟩ hbl (DataW.trod_lt n1 _ _ _ O)) (Below.trod V (by kernel_rfl) (of_decide_eq_true (by kernel_rfl)) ⟨n2,M⟩ hbl (DataW.trod_lt n2 _ _ _ M))
theorem Qi8 (os:Os) (h:os.Started) (H:Type) (enc:TypeId×Value->H) (F:Stop.Interp):
 ReturnsInHanded {} Tryz.checked os 4 .any ((OpenSpec.ofChange Rows.evalMoreSpec).preRow enc Tryz.prog Tryz.f4 Rows.evalMoreRow.domain false Rows.evalMoreRow.laid) (((OpenSpec.ofChange Rows.evalMoreSpec).at F).post enc Tryz.prog Tryz.f4 false true false false):=by
 refine returnsInHanded_of_row (C:=Tryz.checked) (s:=OpenSpec.ofChange Rows.evalMoreSpec) Fw.ownF h (by kernel_rfl) Tryz.func4
  (ChangeSpec.witness_shaped (enc:=enc) (C:=Tryz.checked) (os:=os) (fn:=Tryz.f4) (s:=Rows.evalMoreSpec) (conds:=Rows.evalMoreRow.domain) (apart:=false) (X:=fun w _=>laidMetH Tryz.prog Rows.evalMoreRow.laid w) false
   {World.laidAll Tryz.prog os laidG with heap:=(World.laidAll Tryz.prog os laidG).heap.modify 0 fun
    |.cells _ t frozen=>.cells #[.iface 208 (.agg #[.pointer (some ⟨13,34,none⟩)])] t frozen
    |o=>o} #[.string ⟨#[]⟩,.map none,.string ⟨#[]⟩] 8 (World.laidAll_os _ _ _)
   (World.shaped_of_ZipB (by kernel_rfl) (by kernel_rfl)) (by kernel_rfl) (by kernel_rfl) (by kernel_rfl)
   (laidMetH_of_parts (laidMet_of_run' 8 (by kernel_rfl) (by kernel_rfl)) (by kernel_rfl))) ?_
 intro W base args M K y D J _ _ _ N I _;exact Qhe H enc W base args M K y D J N I
theorem Qnv:Rows.EvalMoreSaid:=
 OpenClaim.holds_of_cond 4 Tryz.f4 rfl rfl rfl rfl rfl rfl rfl ⟨rfl,rfl,rfl,rfl,rfl⟩ rfl rfl rfl rfl rfl (by kernel_rfl) Tryz.func4 (by kernel_rfl)
  (of_decide_eq_true (by kernel_rfl)) (by unfold Func.isWrapper;first|(rw[if_pos (by decide+kernel)];kernel_rfl)|(rw[if_neg (by decide+kernel)];exact⟨rfl,rfl⟩))
  (fun os started H enc _ F=>by rw[OpenClaim.pre_eq_preRow];exact Qi8 os started H enc F)
theorem Qlh (f:FuncId) (fn:Func) (F:Tryz.pinned.checked.prog.funcNamed "foreman/foremankeep.EvalMore"=some f) (D:Tryz.pinned.checked.prog.funcs[f]? =some fn):
 true=Tryz.pinned.checked.prog.looks []/\∀(j:Nat) t,fn.params[j]? =some t->Tryz.pinned.checked.prog.wantsStandIn t=false:=by
 obtain rfl:f=4:=Option.some.inj ((show Tryz.prog.funcNamed "foreman/foremankeep.EvalMore"=some 4 by kernel_rfl).symm.trans F)|>.symm;obtain rfl:fn=Tryz.f4:=(Option.some.inj (Tryz.func4.symm.trans D)).symm;refine⟨by kernel_rfl,fun j t ht=>?_⟩;rw[Tryz.params4] at ht;have y:=Array.mem_of_getElem? ht;simp only[List.mem_toArray,List.mem_cons,List.not_mem_nil,or_false] at y;have y:t=9\/t=22:=by
  rcases y with h|h|h
  ·exact Or.inl h
  ·exact Or.inr h
  ·exact Or.inl h
 rcases y with rfl|rfl
 ·exact(show Tryz.prog.wantsStandIn 9=false by kernel_rfl)
 ·exact(show Tryz.prog.wantsStandIn 22=false by kernel_rfl)
theorem cardEMore:Rows.EvalMoreCardSaid:=
 Claim7.holds_tied_plain_at .later [] _ _ _ _ Qnv (fun _ h=>by cases h) (by kernel_rfl) (fun _ h=>by cases h) evalMore_row_tie rfl ⟨rfl,rfl⟩ (by kernel_rfl) rfl Qlh (by kernel_rfl)
end Go.Proofs.YtjlgejennghhlaaGreatDoor
