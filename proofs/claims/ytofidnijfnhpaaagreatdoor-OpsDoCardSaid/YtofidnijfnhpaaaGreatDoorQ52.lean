import Derived.LaidEql
import Derived.RowKitTokens
import Derived.Stop.Asserts
import Derived.Test.YtofidnijfnhpaaaGreatDoorQ01
import Derived.Test.YtofidnijfnhpaaaGreatDoorQ06
set_option linter.unusedSimpArgs false
set_option linter.unusedVariables false
set_option linter.unusedSectionVars false
set_option maxRecDepth 1000000
set_option maxHeartbeats 16000000
namespace Go.Proofs.YtofidnijfnhpaaaGreatDoor.Dk
open Go.RowKit Go.Extern.Stop Go.Stop Go.Extern
structure Keep (X:List Nat) (w w':World):Prop where
 os:w'.os=w.os
 tape:w'.tape=w.tape
 output:w'.output=w.output
 size:w.heap.size<=w'.heap.size
 block:∀k,k<w.heap.size->k∉X->w'.heap[k]? =w.heap[k]?
theorem Keep.refl (X:List Nat) (w:World):Keep X w w:=⟨rfl,rfl,rfl,Nat.le_refl _,fun _ _ _=>rfl⟩
theorem Keep.of {X:List Nat} {w j:World} (h:Below w.heap.size w j):Keep X w j:=⟨h.os,h.tape,h.output,h.size,fun k hk _=>h.block k hk⟩
theorem Keep.then {X Y:List Nat} {a b c:World} (h:Keep X a b) (k:Keep Y b c) (j:∀y∈Y,y∈X\/a.heap.size<=y):Keep X a c:=
 ⟨k.os.trans h.os,k.tape.trans h.tape,k.output.trans h.output,Nat.le_trans h.size k.size,fun i hi hne=>(k.block i (Nat.lt_of_lt_of_le hi h.size) (fun hy=>(j i hy).elim hne (fun q=>by omega))).trans (h.block i hi hne)⟩
theorem Keep.below {X:List Nat} {B:Nat} {w j:World} (h:Keep X w j) (o:∀x∈X,B<=x) (q:B<=w.heap.size):Below B w j:=
 ⟨h.os,h.tape,h.output,h.size,fun k hk=>h.block k (by omega) (fun hx=>by have:=o k hx;omega)⟩
theorem Keep.set {X:List Nat} {w j:World} (h:Keep X w j) (R o:Nat) (v:Value) (y:R∈X\/w.heap.size<=R):Keep X w (j.setCell ⟨R,o,none⟩ v):=
 ⟨h.os,h.tape,h.output,by have:=h.size;simp[World.setCell];omega,fun k hk hne=>(Below.heap_setCell _ _ _ _ (by rintro rfl;exact y.elim hne (fun q=>by omega))).trans (h.block k hk hne)⟩
theorem Keep.alloc {X:List Nat} {w j:World} (h:Keep X w j) (o:Obj):Keep X w (j.alloc o):=
 ⟨h.os,h.tape,h.output,by have:=h.size;simp;omega,fun k hk hne=>(Below.heap_alloc _ _ _ (by have:=h.size;omega)).trans (h.block k hk hne)⟩
theorem hid {p:Prop} (h:p):Hid p:=h
theorem Qk3 (t:Addr) (w:World):(ReflectliteValue.unpack (.iface 157 (.pointer (some t)))).run Tryz.prog w
 =.ok (.agg #[.pointer (some ⟨5,157,none⟩),.pointer (some ⟨w.heap.size,0,none⟩),.int .u64 150]) (w.alloc (.cells #[.pointer (some t)] 157)):=by kernel_rfl
theorem QmJ (a:Addr) (w:World):(ReflectliteValue.methodAny (ReflectliteValue.valueError "reflectlite.Value.Type" 0) (fun t _ _ _=>ReflectliteType.toType t) #[.agg #[.pointer (some ⟨5,157,none⟩),.pointer (some a),.int .u64 150]]).run Tryz.prog w
 =.ok (.iface 159 (.agg #[.pointer (some ⟨5,157,none⟩)])) w:=by kernel_rfl
theorem QmK (w:World):((ReflectliteType.abiMethod fun t=>(fun a:Nat=>Value.int IntKind.u8 (a:Int))<$>Rtype.kind t) #[.pointer (some ⟨5,157,none⟩)]).run Tryz.prog w=.ok (.int .u8 22) w:=by kernel_rfl
theorem QmL (w:World):((ReflectliteType.abiMethod fun t=>(fun a:Nat=>Value.int IntKind.u8 (a:Int))<$>Rtype.kind t) #[.pointer (some ⟨5,40,none⟩)]).run Tryz.prog w=.ok (.int .u8 2) w:=by kernel_rfl
theorem rlm (z:Sem Value) (f:TypeId->Addr->Nat->Nat->Sem Value) (v:Value):
 ReflectliteValue.method z f #[v]=(do match<-ReflectliteValue.parts v with |none=>z|some (t,a,fl)=>f t a fl (fl%32)):=rfl
theorem Qlq (a:Addr) (w:World):(ReflectliteValue.parts (.agg #[.pointer (some ⟨5,157,none⟩),.pointer (some a),.int .u64 150])).run Tryz.prog w=.ok (some (157,a,150)) w:=by kernel_rfl
theorem Qmm (a p:Addr) (W:World) (h:W.cell? a=some (.pointer (some p))):
 (ReflectliteValue.method (ReflectliteValue.valueError "reflectlite.Value.IsNil" 0) ReflectliteValue.isNil #[.agg #[.pointer (some ⟨5,157,none⟩),.pointer (some a),.int .u64 150]]).run Tryz.prog W=.ok (.bool false) W:=by
 rw[rlm]
 simp only[Sem.run_bind,Qlq,Result.andThen]
 simp[ReflectliteValue.isNil,loadVar,isAgg,underlying,Tryz.underlying157,h,Result.andThen]
theorem QmM (w:World):(ReflectliteType.method ReflectliteType.elem #[.agg #[.pointer (some ⟨5,157,none⟩)]]).run Tryz.prog w=.ok (.iface 159 (.agg #[.pointer (some ⟨5,40,none⟩)])) w:=by kernel_rfl
theorem QmN (w:World):(ReflectliteType.relation "Implements" ReflectliteType.implements_ #[.agg #[.pointer (some ⟨5,40,none⟩)],.iface 159 (.agg #[.pointer (some ⟨5,44,none⟩)])]).run Tryz.prog w=.ok (.bool true) w:=by kernel_rfl
theorem QlX (v:Value) (w:World):(ReflectliteType.typeOf #[.iface 40 v]).run Tryz.prog w=.ok (.iface 159 (.agg #[.pointer (some ⟨5,40,none⟩)])) w:=by kernel_rfl
theorem QlY (w:World):(ReflectliteType.relation "AssignableTo" ReflectliteType.assignableTo #[.agg #[.pointer (some ⟨5,40,none⟩)],.iface 159 (.agg #[.pointer (some ⟨5,40,none⟩)])]).run Tryz.prog w=.ok (.bool true) w:=by kernel_rfl
theorem Qk4 (n:Int) (w:World):(ReflectliteValue.unpack (.iface 40 (.int .i64 n))).run Tryz.prog w
 =.ok (.agg #[.pointer (some ⟨5,40,none⟩),.pointer (some ⟨w.heap.size,0,none⟩),.int .u64 130]) (w.alloc (.cells #[.int .i64 n] 40)):=by kernel_rfl
theorem QlZ (w:World):(Rtype.elem? 157).run Tryz.prog w=.ok (some 40) w:=by kernel_rfl
theorem mkE (p:Addr) (w:World):(ReflectliteValue.mk 40 p ReflectliteValue.flagAddr).run Tryz.prog w=.ok (.agg #[.pointer (some ⟨5,40,none⟩),.pointer (some p),.int .u64 386]) w:=by kernel_rfl
theorem QmO (a p:Addr) (W:World) (h:W.cell? a=some (.pointer (some p))):
 (ReflectliteValue.method (ReflectliteValue.valueError "reflectlite.Value.Elem" 0) ReflectliteValue.elem #[.agg #[.pointer (some ⟨5,157,none⟩),.pointer (some a),.int .u64 150]]).run Tryz.prog W
  =.ok (.agg #[.pointer (some ⟨5,40,none⟩),.pointer (some p),.int .u64 386]) W:=by
 rw[rlm]
 simp only[Sem.run_bind,Qlq,Result.andThen]
 simp[ReflectliteValue.elem,loadVar,isAgg,underlying,Tryz.underlying157,h,Result.andThen,QlZ,mkE]
theorem Qk5 (h:Value) (w:World):(Go.method 343 159 (.agg #[h]) "Kind").run Tryz.prog w=.ok (178,h) w:=by kernel_rfl
theorem Qk6 (h:Value) (w:World):(Go.method 343 159 (.agg #[h]) "Elem").run Tryz.prog w=.ok (187,.agg #[h]) w:=by kernel_rfl
theorem Qk7 (h:Value) (w:World):(Go.method 343 159 (.agg #[h]) "Implements").run Tryz.prog w=.ok (188,.agg #[h]) w:=by kernel_rfl
theorem Qi4 (h:Value) (w:World):(Go.method 343 159 (.agg #[h]) "AssignableTo").run Tryz.prog w=.ok (186,.agg #[h]) w:=by kernel_rfl
theorem rls (v x:Value):ReflectliteValue.set #[v,x]=(do
 let (some (dst,a,fl),some (src,b,_)):=(<-ReflectliteValue.parts v,<-ReflectliteValue.parts x)
  |unsupported (.noEntry "extern/(internal/reflectlite.Value).Set.zeroValue")
 if fl/ReflectliteValue.flagAddr%2==0 then unsupported (.noEntry "extern/(internal/reflectlite.Value).Set.unaddressable")
 let val<-loadVar src b
 if<-Rtype.directlyAssignable dst src then storeVar dst a val
 else if<-Rtype.implements dst src then
  if(<-Rtype.kind src)==20 then
   match val with
   |.nilIface=>unsupported (.noEntry "extern/reflectlite: a nil value of one interface type handed on as a value of another")
   |_=>storeVar dst a val
  else storeVar dst a (.iface src val)
 else panicString ("reflectlite.Set: value of type "++(<-Rtype.spelt src)++ " is not assignable to type "++(<-Rtype.spelt dst))
 pure (.tuple #[])):=rfl
theorem Qmn (a:Addr) (w:World):(ReflectliteValue.parts (.agg #[.pointer (some ⟨5,40,none⟩),.pointer (some a),.int .u64 386])).run Tryz.prog w=.ok (some (40,a,386)) w:=by kernel_rfl
theorem Qmo (a:Addr) (w:World):(ReflectliteValue.parts (.agg #[.pointer (some ⟨5,40,none⟩),.pointer (some a),.int .u64 130])).run Tryz.prog w=.ok (some (40,a,130)) w:=by kernel_rfl
theorem Ql0 (w:World):(Rtype.directlyAssignable 40 40).run Tryz.prog w=.ok true w:=by kernel_rfl
theorem QmS (h b:Addr) (n:Int) (j:Value) (W:World) (q:W.cell? b=some (.int .i64 n)) (y:W.cell? h=some j) (o:W.frozen? h=false):
 (ReflectliteValue.set #[.agg #[.pointer (some ⟨5,40,none⟩),.pointer (some h),.int .u64 386],.agg #[.pointer (some ⟨5,40,none⟩),.pointer (some b),.int .u64 130]]).run Tryz.prog W
  =.ok (.tuple #[]) (W.setCell h (.int .i64 n)):=by
 rw[rls]
 simp only[Sem.run_bind,Qmn,Qmo,Result.andThen]
 simp[ReflectliteValue.flagAddr,loadVar,isAgg,underlying,Tryz.underlying40,q,Result.andThen,Ql0,storeVar,Value.cells,storeCells,Addr.add]
 rw[run_store Tryz.prog W h _ _ (by rfl)]
 simp[y,o]
theorem Qmp (n:Int) (t q:Addr) (o:Value) (w:World) (z:w.cell? q=some (.pointer (some t))) (j:w.cell? t=some o) (A:w.frozen? t=false):
 Calls Tryz.prog 131 #[.iface 40 (.int .i64 n),.iface 157 (.pointer (some t)),.agg #[.pointer (some ⟨5,157,none⟩),.pointer (some q),.int .u64 150],.iface 159 (.agg #[.pointer (some ⟨5,40,none⟩)])] w fun ev w'=>ev=.returned (.bool true)/\w'=((w.alloc (.cells #[.pointer (some ⟨5,157,none⟩),.pointer (some q),.int .u64 150] 131)).alloc (.cells #[.int .i64 n] 40)).setCell t (.int .i64 n):=by
 have K:=@run_callFunc_extern Tryz.prog 82 _ (fun args=>ReflectliteValue.unpack (args.getD 0 (.tuple #[]))) Tryz.func82 (by kernel_rfl) (by kernel_rfl) (by kernel_rfl) (by kernel_rfl)
 have O:=@run_callFunc_extern Tryz.prog 143 _ ReflectliteType.typeOf Tryz.func143 (by kernel_rfl) (by kernel_rfl) (by kernel_rfl) (by kernel_rfl)
 have E:=@run_callFunc_extern Tryz.prog 186 _ (ReflectliteType.relation "AssignableTo" ReflectliteType.assignableTo) Tryz.func186 (by kernel_rfl) (by kernel_rfl) (by kernel_rfl) (by kernel_rfl)
 have N:=@run_callFunc_extern Tryz.prog 144 _ (ReflectliteValue.method (ReflectliteValue.valueError "reflectlite.Value.Elem" 0) ReflectliteValue.elem) Tryz.func144 (by kernel_rfl) (by kernel_rfl) (by kernel_rfl) (by kernel_rfl)
 have D:=@run_callFunc_extern Tryz.prog 145 _ ReflectliteValue.set Tryz.func145 (by kernel_rfl) (by kernel_rfl) (by kernel_rfl) (by kernel_rfl)
 have I:=QlX
 have J:=Qi4
 have T:=QlY
 have M:=Qk4
 have h:t.block<w.heap.size:=World.block_lt_of_cell? w t j
 have y:q.block<w.heap.size:=World.block_lt_of_cell? w q z
 have F:=QmO q t (w.alloc (.cells #[.pointer (some ⟨5,157,none⟩),.pointer (some q),.int .u64 150] 131)) (by rw[World.cell?_alloc_lt _ _ q y];exact z)
 have B:=QmS t ⟨w.heap.size+1,0,none⟩ n o ((w.alloc (.cells #[.pointer (some ⟨5,157,none⟩),.pointer (some q),.int .u64 150] 131)).alloc (.cells #[.int .i64 n] 40))
  (by rw[World.cell?_alloc_at _ _ _ _ (by simp)];rfl)
  (by rw[World.cell?_alloc_lt _ _ t (by simp;omega),World.cell?_alloc_lt _ _ t h];exact j)
  (by rw[World.frozen?_alloc_old _ _ t (by simp;omega),World.frozen?_alloc_old _ _ t (Nat.ne_of_lt h)];exact A)
 go_enter Tryz.func131,Tryz.ntmps131
 go_wp2
 refine wp_loop_rounds 1 ?_
 rw[rounds_succ]
 go_wp2
 go_ret
 exact⟨rfl,rfl⟩
theorem Qmq (n:Int) (t:Addr) (o:Value) (w:World) (y:w.cell? ⟨1,0,none⟩=some (.iface 159 (.agg #[.pointer (some ⟨5,44,none⟩)]))) (h:w.cell? t=some o) (z:w.frozen? t=false):
 Calls Tryz.prog 104 #[.iface 40 (.int .i64 n),.iface 157 (.pointer (some t))] w fun ev w'=>ev=.returned (.bool true)/\w'.cell? t=some (.int .i64 n)/\Keep [t.block] w w':=by
 have h1:=@run_callFunc_extern Tryz.prog 82 _ (fun args=>ReflectliteValue.unpack (args.getD 0 (.tuple #[]))) Tryz.func82 (by kernel_rfl) (by kernel_rfl) (by kernel_rfl) (by kernel_rfl)
 have O:=@run_callFunc_extern Tryz.prog 129 _ (ReflectliteValue.methodAny (ReflectliteValue.valueError "reflectlite.Value.Type" 0) (fun t _ _ _=>ReflectliteType.toType t)) Tryz.func129 (by kernel_rfl) (by kernel_rfl) (by kernel_rfl) (by kernel_rfl)
 have h3:=@run_callFunc_extern Tryz.prog 130 _ (ReflectliteValue.method (ReflectliteValue.valueError "reflectlite.Value.IsNil" 0) ReflectliteValue.isNil) Tryz.func130 (by kernel_rfl) (by kernel_rfl) (by kernel_rfl) (by kernel_rfl)
 have M:=@run_callFunc_extern Tryz.prog 178 _ (ReflectliteType.abiMethod fun t=>do pure (.int .u8 (<-Rtype.kind t))) Tryz.func178 (by kernel_rfl) (by kernel_rfl) (by kernel_rfl) (by kernel_rfl)
 have h5:=@run_callFunc_extern Tryz.prog 187 _ (ReflectliteType.method ReflectliteType.elem) Tryz.func187 (by kernel_rfl) (by kernel_rfl) (by kernel_rfl) (by kernel_rfl)
 have N:=@run_callFunc_extern Tryz.prog 188 _ (ReflectliteType.relation "Implements" ReflectliteType.implements_) Tryz.func188 (by kernel_rfl) (by kernel_rfl) (by kernel_rfl) (by kernel_rfl)
 have vP:=Qk3
 have tP:=QmJ
 have mK:=Qk5
 have mE:=Qk6
 have J:=Qk7
 have V:=QmK
 have I:=QmL
 have Z:=QmM
 have T:=QmN
 have j:t.block<w.heap.size:=World.block_lt_of_cell? w t h
 have B:1<w.heap.size:=World.block_lt_of_cell? w ⟨1,0,none⟩ y
 have U:=Qmm ⟨w.heap.size,0,none⟩ t ((w.alloc (.cells #[.pointer (some t)] 157)).alloc (.cells #[.pointer (some ⟨5,157,none⟩),.pointer (some ⟨w.heap.size,0,none⟩),.int .u64 150] 131)) (by simp)
 have E:((w.alloc (.cells #[.pointer (some t)] 157)).alloc (.cells #[.pointer (some ⟨5,157,none⟩),.pointer (some ⟨w.heap.size,0,none⟩),.int .u64 150] 131)).cell? ⟨1,0,none⟩=some (.iface 159 (.agg #[.pointer (some ⟨5,44,none⟩)])):=by
  rw[World.cell?_alloc_lt _ _ ⟨1,0,none⟩ (by simp;omega),World.cell?_alloc_lt _ _ ⟨1,0,none⟩ B];exact y
 have A:=Qmp n t ⟨w.heap.size,0,none⟩ o ((w.alloc (.cells #[.pointer (some t)] 157)).alloc (.cells #[.pointer (some ⟨5,157,none⟩),.pointer (some ⟨w.heap.size,0,none⟩),.int .u64 150] 131)) (by simp)
  (by rw[World.cell?_alloc_lt _ _ t (by simp;omega),World.cell?_alloc_lt _ _ t j];exact h)
  (by rw[World.frozen?_alloc_old _ _ t (by simp;omega),World.frozen?_alloc_old _ _ t (Nat.ne_of_lt j)];exact z)
 have D:=hid A
 have q:=hid h
 clear A
 go_enter Tryz.func104,Tryz.ntmps104
 go_wp2_with (first|(go_at_call 131;refine D.out.mono ?_;rintro e K ⟨rfl,rfl⟩))
 go_ret
 refine⟨rfl,?_,?_⟩
 ·exact World.cell?_setCell_same _ _ _ (by rw[World.cell?_alloc_lt _ _ t (by simp;omega),World.cell?_alloc_lt _ _ t (by simp;omega),World.cell?_alloc_lt _ _ t (by simp;omega),World.cell?_alloc_lt _ _ t j];exact q.out)
 ·obtain⟨tb,F,ts⟩:=t
  obtain rfl:ts=none:=by simpa using World.cell?_spot q.out
  exact(((((Keep.refl _ w).alloc _).alloc _).alloc _).alloc _).set _ _ _ (Or.inl (by simp))
theorem Qk8 (n:Int) (w:World) (h:w.cell? ⟨1,0,none⟩=some (.iface 159 (.agg #[.pointer (some ⟨5,44,none⟩)]))):
 Calls Tryz.prog 81 #[.iface 40 (.int .i64 n)] w fun ev w'=>ev=.returned (.int .i64 n)/\Below w.heap.size w w':=by
 have j:1<w.heap.size:=World.block_lt_of_cell? w ⟨1,0,none⟩ h
 have o:=hid (Qmq n ⟨w.heap.size,0,none⟩ (.int .i64 0) (w.alloc (.cells #[.int .i64 0] 40)) (by rw[World.cell?_alloc_lt _ _ ⟨1,0,none⟩ j];exact h) (by simp) (by simp))
 go_enter Tryz.func81,Tryz.ntmps81
 go_wp2_with (first|(go_at_call 104;refine o.out.mono ?_;rintro e y ⟨rfl,c2,q⟩))
 go_ret
 exact⟨rfl,(((Keep.refl [] w).alloc _).then q (by simp)).below (by simp) (Nat.le_refl _)⟩
theorem Qk9 (n:Int) (w:World):(Instr.typeAssert (.iface 40 (.int .i64 n)) 44 122 true).run Tryz.prog w=.ok (.tuple #[.pointer none,.bool false]) w:=by kernel_rfl
theorem Qla (n:Int) (w:World):(Instr.typeAssert (.iface 40 (.int .i64 n)) 44 125 true).run Tryz.prog w=.ok (.tuple #[.nilIface,.bool false]) w:=run_typeAssert_lacksB Tryz.underlying125 (by kernel_rfl) (by kernel_rfl) _ _ _
theorem Qlb (w:World):Calls Tryz.prog 81 #[.nilIface] w fun ev w'=>ev=.returned (.int .i64 0)/\w'=w:=by
 go_enter Tryz.func81,Tryz.ntmps81
 go_wp2
 go_ret
 exact⟨rfl,rfl⟩
theorem Qkd (w:World):Calls Tryz.prog 56 #[.nilIface] w fun ev w'=>ev=.returned (.tuple #[.int .i64 0,.int .i64 (-1)])/\Below w.heap.size w w':=by
 have h:=hid (Qlb w)
 go_enter Tryz.func56,Tryz.ntmps56
 go_wp2_with (first|(go_at_call 81;refine h.out.mono ?_;rintro e j ⟨rfl,rfl⟩))
 refine wp_loop_rounds 1 ?_
 rw[rounds_succ]
 go_wp2
 refine bodyPost_ret (v:=.tuple #[.int .i64 0,.int .i64 (-1)]) (by simp[results,Tryz.results56,go_sem]) rfl ?_
 exact⟨rfl,Below.refl _ _⟩
theorem Qke (n:Int) (w:World) (h:w.cell? ⟨1,0,none⟩=some (.iface 159 (.agg #[.pointer (some ⟨5,44,none⟩)]))):Calls Tryz.prog 56 #[.iface 40 (.int .i64 n)] w fun ev w'=>ev=.returned (.tuple #[.int .i64 n,.int .i64 (-1)])/\Below w.heap.size w w':=by
 have j:=hid (Qk8 n w h)
 have q:=Qk9 n
 have o:=Qla n
 go_enter Tryz.func56,Tryz.ntmps56
 go_wp2_with (first|(go_at_call 81;refine j.out.mono ?_;rintro e y ⟨rfl,b2⟩))
 refine wp_loop_rounds 1 ?_
 rw[rounds_succ]
 go_wp2
 refine bodyPost_ret (v:=.tuple #[.int .i64 n,.int .i64 (-1)]) (by simp[results,Tryz.results56,go_sem]) rfl ?_
 exact⟨rfl,b2⟩
theorem place_any (n:Int) (w:World) (j:w.cell? ⟨1,0,none⟩=some (.iface 159 (.agg #[.pointer (some ⟨5,44,none⟩)]))):Calls Tryz.prog 56 #[Qbp n] w fun ev w'=>ev=.returned (.tuple #[.int .i64 n,.int .i64 (-1)])/\Below w.heap.size w w':=by
 by_cases h:n=0
 ·subst h
  exact Qkd w
 ·rw[Qbp,if_neg h]
  exact Qke n w j
theorem Qlc (n:Int) (w:World):Calls Tryz.prog 29 #[.int .i64 n] w fun ev w'=>ev=.returned (.agg #[.int .i64 n,.int .i64 (-1)])/\Below w.heap.size w w':=by
 go_enter Tryz.func29,Tryz.ntmps29
 go_wp2
 refine bodyPost_ret (v:=.agg #[.int .i64 n,.int .i64 (-1)]) (by simp[results,Tryz.results29,go_sem]) rfl ?_
 exact⟨rfl,(Below.refl _ w).alloc (Nat.le_refl _) _⟩
theorem Qmr (n:Int) (w:World) (o:w.cell? ⟨1,0,none⟩=some (.iface 159 (.agg #[.pointer (some ⟨5,44,none⟩)]))):Calls Tryz.prog 28 #[Qbp n,.agg #[.int .i64 n,.int .i64 (-1)]] w fun ev w'=>ev=.returned (.bool true)/\Below w.heap.size w w':=by
 have q:1<w.heap.size:=World.block_lt_of_cell? w ⟨1,0,none⟩ o
 have j:=hid (place_any n (w.alloc (.cells #[.int .i64 n,.int .i64 (-1)] 74)) (by rw[World.cell?_alloc_lt _ _ ⟨1,0,none⟩ q];exact o))
 have h:=(Below.refl w.heap.size w).alloc (Nat.le_refl _) (.cells #[.int .i64 n,.int .i64 (-1)] 74)
 obtain⟨e,he⟩:∃e,Qbp n=e:=⟨_,rfl⟩
 rw[he] at j⊢
 clear he
 go_enter Tryz.func28,Tryz.ntmps28
 go_wp2_with (first|(go_at_call 56;refine j.out.mono ?_;rintro e A ⟨rfl,b2⟩;have y:=(b2.cell (p:=⟨w.heap.size,0,none⟩) (by simp)).trans (show(w.alloc (.cells #[.int .i64 n,.int .i64 (-1)] 74)).cell? ⟨w.heap.size,0,none⟩=some (.int .i64 n) by simp);have z:=(b2.cell (p:=⟨w.heap.size,1,none⟩) (by simp)).trans (show(w.alloc (.cells #[.int .i64 n,.int .i64 (-1)] 74)).cell? ⟨w.heap.size,1,none⟩=some (.int .i64 (-1)) by simp)))
 go_ret
 exact⟨rfl,h.trans (b2.mono (by simp))⟩
theorem bare_any (n:Int) (w:World) (h:w.cell? ⟨1,0,none⟩=some (.iface 159 (.agg #[.pointer (some ⟨5,44,none⟩)]))):Calls Tryz.prog 11 #[Qbp n,.int .i64 n] w fun ev w'=>ev=.returned (.bool true)/\Below w.heap.size w w':=by
 have j:1<w.heap.size:=World.block_lt_of_cell? w ⟨1,0,none⟩ h
 have q:=hid (Qlc n w)
 have o:=hid (fun(W:World) (y:Below w.heap.size w W)=>Qmr n W (cK y j h))
 obtain⟨e,he⟩:∃e,Qbp n=e:=⟨_,rfl⟩
 rw[he] at o⊢
 clear he
 go_enter Tryz.func11,Tryz.ntmps11
 go_wp2_with (first|(go_at_call 29;refine q.out.mono ?_;rintro e A ⟨rfl,b1⟩)|(go_at_call 28;refine(o.out _ b1).mono ?_;rintro e z ⟨rfl,b2⟩))
 go_ret
 exact⟨rfl,b1.trans (b2.mono b1.size)⟩
end Go.Proofs.YtofidnijfnhpaaaGreatDoor.Dk
