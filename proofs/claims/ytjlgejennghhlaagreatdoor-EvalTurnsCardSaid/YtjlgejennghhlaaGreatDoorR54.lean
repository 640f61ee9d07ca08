/- With its jobs in another order, and only the tables that it reads, a flow tells the same tables or fails as before, and what it tells is right and has the columns that were found: foremankeep.EvalTurns returns true at every text, map of tables and number, whatever memory and schedule, and its arguments read as they did. Its conditions: the listed package-level variables start as the program's text lays them (the tied card); nothing is narrowed besides. -/
import Derived.Test.YtjlgejennghhlaaGreatDoorCards
import Derived.Test.YtjlgejennghhlaaGreatDoorTie
import Derived.Lib.SmallJoins
import Derived.Deep.SlicePairs
import Derived.Deep.Strs
import Derived.Test.YtjlgejennghhlaaGreatDoorR01
import Derived.Test.YtjlgejennghhlaaGreatDoorR53
import Derived.Test.YtjlgejennghhlaaGreatDoorR48
set_option linter.unusedSimpArgs false
set_option linter.unusedVariables false
set_option linter.unusedSectionVars false
set_option maxRecDepth 1000000
set_option maxHeartbeats 16000000
namespace Go.Proofs.YtjlgejennghhlaaGreatDoor
open Go.ChangeShapes Go.WideShapes Go.ChangeAt Go.RowKit Go.Joins Go.Deep
theorem Qgj (H:Type) (enc:TypeId×Value->H) (W:World) (base:Nat) (args:Array Value) (ds gs:List (DataW H)) (E:List MemPlace)
 (y:∀(j:Nat) t v,Tryz.f3.params[j]? =some t->args[j]? =some v->Value.okWide Tryz.prog W .any base t v)
 (N:DataW.Whole enc Tryz.prog Tryz.f3.params.toList Rows.evalTurnsSpec.vars false W args.toList ds gs E) (hL:laidMetH Tryz.prog Rows.evalTurnsRow.laid W) (ad:W.ShapedOpen Tryz.prog):
 Calls Tryz.prog 3 args W fun e W'=>∃v,e=.returned v/\Rows.evalTurnsSpec.post enc Tryz.prog Tryz.f3 false true false false W args v W':=by
 have hW':=N;obtain⟨p,q,I,hV,rfl,az,ay⟩:=N;have hA:DataW.TrodAll enc Tryz.prog W 0 (fun _=>true) true Tryz.f3.params.toList args.toList ds p:=I;rw[Tryz.params3] at hA y;obtain⟨v0,v1,v2,d0,d1,d2,p0,p1,p2,rfl,rfl,rfl,h0,h1,h2⟩:=trodAll_three hA;obtain⟨rfl,rfl⟩:=trodVars_none hV;have k0:=y 0 9 v0 rfl rfl;obtain⟨s,rfl⟩:=okWide_string Tryz.underlying9 k0;obtain⟨mo,rfl⟩:=okWide_map Tryz.underlying22 (y 1 22 v1 rfl rfl);obtain⟨Z,rfl⟩:=okWide_int Tryz.underlying3 (y 2 3 v2 rfl rfl);obtain⟨n0,J⟩:=h0;obtain⟨n1,K⟩:=h1;obtain⟨V,O⟩:=h2;obtain⟨s',e1,ax,U⟩:=DataW.trod_string Tryz.underlying9 J;obtain rfl:s=s':=by simpa [Value.cells] using e1
 have hL':laidMet Tryz.prog laidG W/\handlesMet Tryz.prog [("errors.errorType",Rows.laid_errors_errorType)] W:=hL;clear I;have F:Fw.ba s.data.toList=s:=by cases s;simp[Fw.ba]
 have D:=Pl.Ev.turnsE_any s.data.toList Z (.map mo) W (Fw.fenv_of (Qpa hL'.1)) (Fw.handle_of (List.mem_singleton.2 rfl) hL'.2) (Qrd hL'.1 ad) (by rw[F];exact U) (Pl.Ev.open_mapT K);rw[F] at D;refine D.mono fun e W' ⟨he,hbl⟩=>?_
 subst he;refine⟨_,rfl,_,_,_,[],p0++(p1++p2),[],hW',trodAll_mk1 (shut_bool Tryz.underlying4 _),?_,rfl,hbl.frame _,fun h=>by cases h⟩;have M:laidOutB Tryz.prog=true:=by kernel_rfl
 exact trodAll_mk3 (Below.trod M (by kernel_rfl) (of_decide_eq_true (by kernel_rfl)) ⟨n0,J⟩ hbl (DataW.trod_lt n0 _ _ _ J)) (Below.trod M (by kernel_rfl) (of_decide_eq_true (by kernel_rfl)) ⟨n1,K⟩ hbl (DataW.trod_lt n1 _ _ _ K)) (Below.trod M (by kernel_rfl) (of_decide_eq_true (by kernel_rfl)) ⟨V,O⟩ hbl (DataW.trod_lt V _ _ _ O))
theorem QiB (os:Os) (h:os.Started) (H:Type) (enc:TypeId×Value->H) (F:Stop.Interp):
 ReturnsInHanded {} Tryz.checked os 3 .any ((OpenSpec.ofChange Rows.evalTurnsSpec).preRow enc Tryz.prog Tryz.f3 Rows.evalTurnsRow.domain false Rows.evalTurnsRow.laid) (((OpenSpec.ofChange Rows.evalTurnsSpec).at F).post enc Tryz.prog Tryz.f3 false true false false):=by
 refine returnsInHanded_of_row (C:=Tryz.checked) (s:=OpenSpec.ofChange Rows.evalTurnsSpec) Fw.ownF h (by kernel_rfl) Tryz.func3
  (ChangeSpec.witness_shaped (enc:=enc) (C:=Tryz.checked) (os:=os) (fn:=Tryz.f3) (s:=Rows.evalTurnsSpec) (conds:=Rows.evalTurnsRow.domain) (apart:=false) (X:=fun w _=>laidMetH Tryz.prog Rows.evalTurnsRow.laid w) false
   {World.laidAll Tryz.prog os laidG with heap:=(World.laidAll Tryz.prog os laidG).heap.modify 0 fun
    |.cells _ t frozen=>.cells #[.iface 208 (.agg #[.pointer (some ⟨13,34,none⟩)])] t frozen
    |o=>o} #[.string ⟨#[]⟩,.map none,.int .i64 0] 8 (World.laidAll_os _ _ _)
   (World.shaped_of_ZipB (by kernel_rfl) (by kernel_rfl)) (by kernel_rfl) (by kernel_rfl) (by kernel_rfl)
   (laidMetH_of_parts (laidMet_of_run' 8 (by kernel_rfl) (by kernel_rfl)) (by kernel_rfl))) ?_
 intro W base args K J y D I _ _ _ M E _;exact Qgj H enc W base args K J y D I M E
theorem Qlu:Rows.EvalTurnsSaid:=
 OpenClaim.holds_of_cond 3 Tryz.f3 rfl rfl rfl rfl rfl rfl rfl ⟨rfl,rfl,rfl,rfl,rfl⟩ rfl rfl rfl rfl rfl (by kernel_rfl) Tryz.func3 (by kernel_rfl)
  (of_decide_eq_true (by kernel_rfl)) (by unfold Func.isWrapper;first|(rw[if_pos (by decide+kernel)];kernel_rfl)|(rw[if_neg (by decide+kernel)];exact⟨rfl,rfl⟩))
  (fun os started H enc _ F=>by rw[OpenClaim.pre_eq_preRow];exact QiB os started H enc F)
theorem Qjn (f:FuncId) (fn:Func) (D:Tryz.pinned.checked.prog.funcNamed "foreman/foremankeep.EvalTurns"=some f) (y:Tryz.pinned.checked.prog.funcs[f]? =some fn):
 true=Tryz.pinned.checked.prog.looks []/\∀(j:Nat) t,fn.params[j]? =some t->Tryz.pinned.checked.prog.wantsStandIn t=false:=by
 obtain rfl:f=3:=Option.some.inj ((show Tryz.prog.funcNamed "foreman/foremankeep.EvalTurns"=some 3 by kernel_rfl).symm.trans D)|>.symm;obtain rfl:fn=Tryz.f3:=(Option.some.inj (Tryz.func3.symm.trans y)).symm;refine⟨by kernel_rfl,fun j t ht=>?_⟩;rw[Tryz.params3] at ht;have h:=Array.mem_of_getElem? ht;simp only[List.mem_toArray,List.mem_cons,List.not_mem_nil,or_false] at h;rcases h with rfl|rfl|rfl
 ·exact(show Tryz.prog.wantsStandIn 9=false by kernel_rfl)
 ·exact(show Tryz.prog.wantsStandIn 22=false by kernel_rfl)
 ·exact(show Tryz.prog.wantsStandIn 3=false by kernel_rfl)
theorem cardETurns:Rows.EvalTurnsCardSaid:=
 Claim7.holds_tied_plain_at .later [] _ _ _ _ Qlu (fun _ h=>by cases h) (by kernel_rfl) (fun _ h=>by cases h) evalTurns_row_tie rfl ⟨rfl,rfl⟩ (by kernel_rfl) rfl Qjn (by kernel_rfl)
end Go.Proofs.YtjlgejennghhlaaGreatDoor
