import Derived.Test.YtjlgejennghhlaaGreatDoorQ01
import Derived.Test.YtjlgejennghhlaaGreatDoorQ44
set_option linter.unusedSimpArgs false
set_option linter.unusedVariables false
set_option linter.unusedSectionVars false
set_option maxRecDepth 1000000
set_option maxHeartbeats 16000000
namespace Go.Proofs.YtjlgejennghhlaaGreatDoor.Dk
open Go.RowKit Go.Extern.Stop Go.Stop Go.Extern
theorem QoN (h:Value) (w:World):(Go.method 437 208 (.agg #[h]) "Kind").run Tryz.prog w=.ok (240,h) w:=by kernel_rfl
theorem QoO (h:Value) (w:World):(Go.method 437 208 (.agg #[h]) "Elem").run Tryz.prog w=.ok (252,.agg #[h]) w:=by kernel_rfl
theorem QoP (h:Value) (w:World):(Go.method 437 208 (.agg #[h]) "Implements").run Tryz.prog w=.ok (253,.agg #[h]) w:=by kernel_rfl
theorem Qk2 (h:Value) (w:World):(Go.method 437 208 (.agg #[h]) "AssignableTo").run Tryz.prog w=.ok (250,.agg #[h]) w:=by kernel_rfl
theorem rls (v x:Value):ReflectliteValue.set #[v,x]=(do
 let (some (dst,a,fl),some (src,b,_)):=(<-ReflectliteValue.parts v,<-ReflectliteValue.parts x)
  |unsupported (.noEntry "extern/(internal/reflectlite.Value).Set.zeroValue")
 if fl/ReflectliteValue.flagAddr%2==0 then unsupported (.noEntry "extern/(internal/reflectlite.Value).Set.unaddressable")
 let val<-loadVar src b
 if<-Rtype.directlyAssignable dst src then storeVar dst a val
 else if<-Rtype.implements dst src then
  if(<-Rtype.kind src)==20 then
   match val with
   |.nilIface=>unsupported (.noEntry "extern/reflectlite: a nil value of one interface type handed on as a value of another")
   |_=>storeVar dst a val
  else storeVar dst a (.iface src val)
 else panicString ("reflectlite.Set: value of type "++(<-Rtype.spelt src)++ " is not assignable to type "++(<-Rtype.spelt dst))
 pure (.tuple #[])):=rfl
theorem QqC (a:Addr) (w:World):(ReflectliteValue.parts (.agg #[.pointer (some ⟨13,37,none⟩),.pointer (some a),.int .u64 386])).run Tryz.prog w=.ok (some (37,a,386)) w:=by kernel_rfl
theorem QqD (a:Addr) (w:World):(ReflectliteValue.parts (.agg #[.pointer (some ⟨13,37,none⟩),.pointer (some a),.int .u64 130])).run Tryz.prog w=.ok (some (37,a,130)) w:=by kernel_rfl
theorem QpU (w:World):(Rtype.directlyAssignable 37 37).run Tryz.prog w=.ok true w:=by kernel_rfl
theorem QrV (h b:Addr) (n:Int) (y:Value) (W:World) (H:W.cell? b=some (.int .i64 n)) (F:W.cell? h=some y) (D:W.frozen? h=false):
 (ReflectliteValue.set #[.agg #[.pointer (some ⟨13,37,none⟩),.pointer (some h),.int .u64 386],.agg #[.pointer (some ⟨13,37,none⟩),.pointer (some b),.int .u64 130]]).run Tryz.prog W
  =.ok (.tuple #[]) (W.setCell h (.int .i64 n)):=by
 rw[rls];simp only[Sem.run_bind,QqC,QqD,Result.andThen];simp[ReflectliteValue.flagAddr,loadVar,isAgg,underlying,Tryz.underlying37,H,Result.andThen,QpU,storeVar,Value.cells,storeCells,Addr.add];rw[run_store Tryz.prog W h _ _ (by rfl)];simp[F,D]
theorem QqE (n:Int) (t q:Addr) (y:Value) (w:World) (H:w.cell? q=some (.pointer (some t))) (D:w.cell? t=some y) (I:w.frozen? t=false):
 Calls Tryz.prog 101 #[.iface 37 (.int .i64 n),.iface 127 (.pointer (some t)),.agg #[.pointer (some ⟨13,127,none⟩),.pointer (some q),.int .u64 150],.iface 208 (.agg #[.pointer (some ⟨13,37,none⟩)])] w fun ev w'=>ev=.returned (.bool true)/\w'=((w.alloc (.cells #[.pointer (some ⟨13,127,none⟩),.pointer (some q),.int .u64 150] 171)).alloc (.cells #[.int .i64 n] 37)).setCell t (.int .i64 n):=by
 have O:=@run_callFunc_extern Tryz.prog 98 _ (fun args=>ReflectliteValue.unpack (args.getD 0 (.tuple #[]))) Tryz.func98 (by kernel_rfl) (by kernel_rfl) (by kernel_rfl) (by kernel_rfl);have K:=@run_callFunc_extern Tryz.prog 134 _ ReflectliteType.typeOf Tryz.func134 (by kernel_rfl) (by kernel_rfl) (by kernel_rfl) (by kernel_rfl);have Z:=@run_callFunc_extern Tryz.prog 250 _ (ReflectliteType.relation "AssignableTo" ReflectliteType.assignableTo) Tryz.func250 (by kernel_rfl) (by kernel_rfl) (by kernel_rfl) (by kernel_rfl);have N:=@run_callFunc_extern Tryz.prog 135 _ (ReflectliteValue.method (ReflectliteValue.valueError "reflectlite.Value.Elem" 0) ReflectliteValue.elem) Tryz.func135 (by kernel_rfl) (by kernel_rfl) (by kernel_rfl) (by kernel_rfl);have U:=@run_callFunc_extern Tryz.prog 136 _ ReflectliteValue.set Tryz.func136 (by kernel_rfl) (by kernel_rfl) (by kernel_rfl) (by kernel_rfl);have tO:=QpR;have mA:=Qk2;have M:=QpS;have V:=QoM;have h:t.block<w.heap.size:=World.block_lt_of_cell? w t D;have F:q.block<w.heap.size:=World.block_lt_of_cell? w q H;have J:=elemV q t (w.alloc (.cells #[.pointer (some ⟨13,127,none⟩),.pointer (some q),.int .u64 150] 171)) (by rw[World.cell?_alloc_lt _ _ q F];exact H);have st:=QrV t ⟨w.heap.size+1,0,none⟩ n y ((w.alloc (.cells #[.pointer (some ⟨13,127,none⟩),.pointer (some q),.int .u64 150] 171)).alloc (.cells #[.int .i64 n] 37))
  (by rw[World.cell?_alloc_at _ _ _ _ (by simp)];rfl)
  (by rw[World.cell?_alloc_lt _ _ t (by simp<;>omega),World.cell?_alloc_lt _ _ t h];exact D)
  (by rw[World.frozen?_alloc_old _ _ t (by simp<;>omega),World.frozen?_alloc_old _ _ t (Nat.ne_of_lt h)];exact I)
 go_enter Tryz.func101,Tryz.ntmps101;go_wp2;refine wp_loop_rounds 1 ?_;rw[rounds_succ];go_wp2;go_ret;exact⟨rfl,rfl⟩
theorem QqF (n:Int) (t:Addr) (D:Value) (w:World) (I:w.cell? ⟨0,0,none⟩=some (.iface 208 (.agg #[.pointer (some ⟨13,34,none⟩)]))) (y:w.cell? t=some D) (J:w.frozen? t=false):
 Calls Tryz.prog 60 #[.iface 37 (.int .i64 n),.iface 127 (.pointer (some t))] w fun ev w'=>ev=.returned (.bool true)/\w'.cell? t=some (.int .i64 n)/\Keep [t.block] w w':=by
 have h1:=@run_callFunc_extern Tryz.prog 98 _ (fun args=>ReflectliteValue.unpack (args.getD 0 (.tuple #[]))) Tryz.func98 (by kernel_rfl) (by kernel_rfl) (by kernel_rfl) (by kernel_rfl);have V:=@run_callFunc_extern Tryz.prog 99 _ (ReflectliteValue.methodAny (ReflectliteValue.valueError "reflectlite.Value.Type" 0) (fun t _ _ _=>ReflectliteType.toType t)) Tryz.func99 (by kernel_rfl) (by kernel_rfl) (by kernel_rfl) (by kernel_rfl);have h3:=@run_callFunc_extern Tryz.prog 100 _ (ReflectliteValue.method (ReflectliteValue.valueError "reflectlite.Value.IsNil" 0) ReflectliteValue.isNil) Tryz.func100 (by kernel_rfl) (by kernel_rfl) (by kernel_rfl) (by kernel_rfl);have h4:=@run_callFunc_extern Tryz.prog 240 _ (ReflectliteType.abiMethod fun t=>do pure (.int .u8 (<-Rtype.kind t))) Tryz.func240 (by kernel_rfl) (by kernel_rfl) (by kernel_rfl) (by kernel_rfl);have h5:=@run_callFunc_extern Tryz.prog 252 _ (ReflectliteType.method ReflectliteType.elem) Tryz.func252 (by kernel_rfl) (by kernel_rfl) (by kernel_rfl) (by kernel_rfl);have h6:=@run_callFunc_extern Tryz.prog 253 _ (ReflectliteType.relation "Implements" ReflectliteType.implements_) Tryz.func253 (by kernel_rfl) (by kernel_rfl) (by kernel_rfl) (by kernel_rfl);have vP:=QoL;have tP:=Qrj;have mK:=QoN;have Z:=QoO;have U:=QoP;have kP:=Qrk;have kE:=Qrl;have eT:=Qrm;have iE:=Qrn;have h:t.block<w.heap.size:=World.block_lt_of_cell? w t y;have H:0<w.heap.size:=World.block_lt_of_cell? w ⟨0,0,none⟩ I;have n8:=QqB ⟨w.heap.size,0,none⟩ t ((w.alloc (.cells #[.pointer (some t)] 127)).alloc (.cells #[.pointer (some ⟨13,127,none⟩),.pointer (some ⟨w.heap.size,0,none⟩),.int .u64 150] 171)) (by simp);have N:((w.alloc (.cells #[.pointer (some t)] 127)).alloc (.cells #[.pointer (some ⟨13,127,none⟩),.pointer (some ⟨w.heap.size,0,none⟩),.int .u64 150] 171)).cell? ⟨0,0,none⟩=some (.iface 208 (.agg #[.pointer (some ⟨13,34,none⟩)])):=by
  rw[World.cell?_alloc_lt _ _ ⟨0,0,none⟩ (by simp<;>omega),World.cell?_alloc_lt _ _ ⟨0,0,none⟩ H];exact I
 have K:=QqE n t ⟨w.heap.size,0,none⟩ D ((w.alloc (.cells #[.pointer (some t)] 127)).alloc (.cells #[.pointer (some ⟨13,127,none⟩),.pointer (some ⟨w.heap.size,0,none⟩),.int .u64 150] 171)) (by simp)
  (by rw[World.cell?_alloc_lt _ _ t (by simp<;>omega),World.cell?_alloc_lt _ _ t h];exact y)
  (by rw[World.frozen?_alloc_old _ _ t (by simp<;>omega),World.frozen?_alloc_old _ _ t (Nat.ne_of_lt h)];exact J)
 have M:=hid K;have F:=hid y;clear K;go_enter Tryz.func60,Tryz.ntmps60;go_wp2_with (first|(go_at_call 101;refine M.out.mono ?_;rintro e w2 ⟨rfl,rfl⟩));go_ret;refine⟨rfl,?_,?_⟩
 ·exact World.cell?_setCell_same _ _ _ (by rw[World.cell?_alloc_lt _ _ t (by simp<;>omega),World.cell?_alloc_lt _ _ t (by simp<;>omega),World.cell?_alloc_lt _ _ t (by simp<;>omega),World.cell?_alloc_lt _ _ t h];exact F.out)
 ·obtain⟨tb,O,ts⟩:=t;obtain rfl:ts=none:=by simpa using World.cell?_spot F.out
  exact(((((Keep.refl _ w).alloc _).alloc _).alloc _).alloc _).set _ _ _ (Or.inl (by simp))
theorem tell_any (n:Int) (w:World) (h:w.cell? ⟨0,0,none⟩=some (.iface 208 (.agg #[.pointer (some ⟨13,34,none⟩)]))):
 Calls Tryz.prog 23 #[.iface 37 (.int .i64 n)] w fun ev w'=>ev=.returned (.int .i64 n)/\Below w.heap.size w w':=by
 have y:0<w.heap.size:=World.block_lt_of_cell? w ⟨0,0,none⟩ h;have D:=hid (QqF n ⟨w.heap.size,0,none⟩ (.int .i64 0) (w.alloc (.cells #[.int .i64 0] 37)) (by rw[World.cell?_alloc_lt _ _ ⟨0,0,none⟩ y];exact h) (by simp) (by simp));go_enter Tryz.func23,Tryz.ntmps23;go_wp2_with (first|(go_at_call 60;refine D.out.mono ?_;rintro e F ⟨rfl,c2,k2⟩));go_ret;exact⟨rfl,(((Keep.refl [] w).alloc _).then k2 (by simp)).below (by simp) (Nat.le_refl _)⟩
end Go.Proofs.YtjlgejennghhlaaGreatDoor.Dk
