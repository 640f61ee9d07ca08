import Derived.Test.YtjlgejennghhlaaGreatDoorR01
import Derived.Test.YtjlgejennghhlaaGreatDoorR44
set_option linter.unusedSimpArgs false
set_option linter.unusedVariables false
set_option linter.unusedSectionVars false
set_option maxRecDepth 1000000
set_option maxHeartbeats 16000000
namespace Go.Proofs.YtjlgejennghhlaaGreatDoor.Dk
open Go.RowKit Go.Extern.Stop Go.Stop Go.Extern
theorem QoV (h:Value) (w:World):(Go.method 437 208 (.agg #[h]) "Kind").run Tryz.prog w=.ok (240,h) w:=by kernel_rfl
theorem QoW (h:Value) (w:World):(Go.method 437 208 (.agg #[h]) "Elem").run Tryz.prog w=.ok (252,.agg #[h]) w:=by kernel_rfl
theorem QoX (h:Value) (w:World):(Go.method 437 208 (.agg #[h]) "Implements").run Tryz.prog w=.ok (253,.agg #[h]) w:=by kernel_rfl
theorem Qlg (h:Value) (w:World):(Go.method 437 208 (.agg #[h]) "AssignableTo").run Tryz.prog w=.ok (250,.agg #[h]) w:=by kernel_rfl
theorem rls (v x:Value):ReflectliteValue.set #[v,x]=(do
 let (some (dst,a,fl),some (src,b,_)):=(<-ReflectliteValue.parts v,<-ReflectliteValue.parts x)
  |unsupported (.noEntry "extern/(internal/reflectlite.Value).Set.zeroValue")
 if fl/ReflectliteValue.flagAddr%2==0 then unsupported (.noEntry "extern/(internal/reflectlite.Value).Set.unaddressable")
 let val<-loadVar src b
 if<-Rtype.directlyAssignable dst src then storeVar dst a val
 else if<-Rtype.implements dst src then
  if(<-Rtype.kind src)==20 then
   match val with
   |.nilIface=>unsupported (.noEntry "extern/reflectlite: a nil value of one interface type handed on as a value of another")
   |_=>storeVar dst a val
  else storeVar dst a (.iface src val)
 else panicString ("reflectlite.Set: value of type "++(<-Rtype.spelt src)++ " is not assignable to type "++(<-Rtype.spelt dst))
 pure (.tuple #[])):=rfl
theorem QqK (a:Addr) (w:World):(ReflectliteValue.parts (.agg #[.pointer (some ⟨13,37,none⟩),.pointer (some a),.int .u64 386])).run Tryz.prog w=.ok (some (37,a,386)) w:=by kernel_rfl
theorem QqL (a:Addr) (w:World):(ReflectliteValue.parts (.agg #[.pointer (some ⟨13,37,none⟩),.pointer (some a),.int .u64 130])).run Tryz.prog w=.ok (some (37,a,130)) w:=by kernel_rfl
theorem Qp0 (w:World):(Rtype.directlyAssignable 37 37).run Tryz.prog w=.ok true w:=by kernel_rfl
theorem Qr5 (h b:Addr) (n:Int) (y:Value) (W:World) (F:W.cell? b=some (.int .i64 n)) (E:W.cell? h=some y) (D:W.frozen? h=false):
 (ReflectliteValue.set #[.agg #[.pointer (some ⟨13,37,none⟩),.pointer (some h),.int .u64 386],.agg #[.pointer (some ⟨13,37,none⟩),.pointer (some b),.int .u64 130]]).run Tryz.prog W
  =.ok (.tuple #[]) (W.setCell h (.int .i64 n)):=by
 rw[rls];simp only[Sem.run_bind,QqK,QqL,Result.andThen];simp[ReflectliteValue.flagAddr,loadVar,isAgg,underlying,Tryz.underlying37,F,Result.andThen,Qp0,storeVar,Value.cells,storeCells,Addr.add];rw[run_store Tryz.prog W h _ _ (by rfl)];simp[E,D]
theorem QqM (n:Int) (t q:Addr) (y:Value) (w:World) (F:w.cell? q=some (.pointer (some t))) (D:w.cell? t=some y) (H:w.frozen? t=false):
 Calls Tryz.prog 101 #[.iface 37 (.int .i64 n),.iface 127 (.pointer (some t)),.agg #[.pointer (some ⟨13,127,none⟩),.pointer (some q),.int .u64 150],.iface 208 (.agg #[.pointer (some ⟨13,37,none⟩)])] w fun ev w'=>ev=.returned (.bool true)/\w'=((w.alloc (.cells #[.pointer (some ⟨13,127,none⟩),.pointer (some q),.int .u64 150] 171)).alloc (.cells #[.int .i64 n] 37)).setCell t (.int .i64 n):=by
 have N:=@run_callFunc_extern Tryz.prog 98 _ (fun args=>ReflectliteValue.unpack (args.getD 0 (.tuple #[]))) Tryz.func98 (by kernel_rfl) (by kernel_rfl) (by kernel_rfl) (by kernel_rfl);have J:=@run_callFunc_extern Tryz.prog 134 _ ReflectliteType.typeOf Tryz.func134 (by kernel_rfl) (by kernel_rfl) (by kernel_rfl) (by kernel_rfl);have U:=@run_callFunc_extern Tryz.prog 250 _ (ReflectliteType.relation "AssignableTo" ReflectliteType.assignableTo) Tryz.func250 (by kernel_rfl) (by kernel_rfl) (by kernel_rfl) (by kernel_rfl);have M:=@run_callFunc_extern Tryz.prog 135 _ (ReflectliteValue.method (ReflectliteValue.valueError "reflectlite.Value.Elem" 0) ReflectliteValue.elem) Tryz.func135 (by kernel_rfl) (by kernel_rfl) (by kernel_rfl) (by kernel_rfl);have h5:=@run_callFunc_extern Tryz.prog 136 _ ReflectliteValue.set Tryz.func136 (by kernel_rfl) (by kernel_rfl) (by kernel_rfl) (by kernel_rfl);have V:=QpX;have mA:=Qlg;have K:=QpY;have O:=QoU;have h:t.block<w.heap.size:=World.block_lt_of_cell? w t D;have E:q.block<w.heap.size:=World.block_lt_of_cell? w q F;have I:=elemV q t (w.alloc (.cells #[.pointer (some ⟨13,127,none⟩),.pointer (some q),.int .u64 150] 171)) (by rw[World.cell?_alloc_lt _ _ q E];exact F);have Z:=Qr5 t ⟨w.heap.size+1,0,none⟩ n y ((w.alloc (.cells #[.pointer (some ⟨13,127,none⟩),.pointer (some q),.int .u64 150] 171)).alloc (.cells #[.int .i64 n] 37))
  (by rw[World.cell?_alloc_at _ _ _ _ (by simp)];rfl)
  (by rw[World.cell?_alloc_lt _ _ t (by simp<;>omega),World.cell?_alloc_lt _ _ t h];exact D)
  (by rw[World.frozen?_alloc_old _ _ t (by simp<;>omega),World.frozen?_alloc_old _ _ t (Nat.ne_of_lt h)];exact H)
 go_enter Tryz.func101,Tryz.ntmps101;go_wp2;refine wp_loop_rounds 1 ?_;rw[rounds_succ];go_wp2;go_ret;exact⟨rfl,rfl⟩
theorem QqN (n:Int) (t:Addr) (D:Value) (w:World) (H:w.cell? ⟨0,0,none⟩=some (.iface 208 (.agg #[.pointer (some ⟨13,34,none⟩)]))) (y:w.cell? t=some D) (I:w.frozen? t=false):
 Calls Tryz.prog 60 #[.iface 37 (.int .i64 n),.iface 127 (.pointer (some t))] w fun ev w'=>ev=.returned (.bool true)/\w'.cell? t=some (.int .i64 n)/\Keep [t.block] w w':=by
 have h1:=@run_callFunc_extern Tryz.prog 98 _ (fun args=>ReflectliteValue.unpack (args.getD 0 (.tuple #[]))) Tryz.func98 (by kernel_rfl) (by kernel_rfl) (by kernel_rfl) (by kernel_rfl);have U:=@run_callFunc_extern Tryz.prog 99 _ (ReflectliteValue.methodAny (ReflectliteValue.valueError "reflectlite.Value.Type" 0) (fun t _ _ _=>ReflectliteType.toType t)) Tryz.func99 (by kernel_rfl) (by kernel_rfl) (by kernel_rfl) (by kernel_rfl);have h3:=@run_callFunc_extern Tryz.prog 100 _ (ReflectliteValue.method (ReflectliteValue.valueError "reflectlite.Value.IsNil" 0) ReflectliteValue.isNil) Tryz.func100 (by kernel_rfl) (by kernel_rfl) (by kernel_rfl) (by kernel_rfl);have Z:=@run_callFunc_extern Tryz.prog 240 _ (ReflectliteType.abiMethod fun t=>do pure (.int .u8 (<-Rtype.kind t))) Tryz.func240 (by kernel_rfl) (by kernel_rfl) (by kernel_rfl) (by kernel_rfl);have h5:=@run_callFunc_extern Tryz.prog 252 _ (ReflectliteType.method ReflectliteType.elem) Tryz.func252 (by kernel_rfl) (by kernel_rfl) (by kernel_rfl) (by kernel_rfl);have h6:=@run_callFunc_extern Tryz.prog 253 _ (ReflectliteType.relation "Implements" ReflectliteType.implements_) Tryz.func253 (by kernel_rfl) (by kernel_rfl) (by kernel_rfl) (by kernel_rfl);have vP:=QoT;have tP:=Qrt;have mK:=QoV;have V:=QoW;have O:=QoX;have kP:=Qru;have kE:=Qrv;have eT:=Qrw;have iE:=Qrx;have h:t.block<w.heap.size:=World.block_lt_of_cell? w t y;have F:0<w.heap.size:=World.block_lt_of_cell? w ⟨0,0,none⟩ H;have n8:=QqJ ⟨w.heap.size,0,none⟩ t ((w.alloc (.cells #[.pointer (some t)] 127)).alloc (.cells #[.pointer (some ⟨13,127,none⟩),.pointer (some ⟨w.heap.size,0,none⟩),.int .u64 150] 171)) (by simp);have M:((w.alloc (.cells #[.pointer (some t)] 127)).alloc (.cells #[.pointer (some ⟨13,127,none⟩),.pointer (some ⟨w.heap.size,0,none⟩),.int .u64 150] 171)).cell? ⟨0,0,none⟩=some (.iface 208 (.agg #[.pointer (some ⟨13,34,none⟩)])):=by
  rw[World.cell?_alloc_lt _ _ ⟨0,0,none⟩ (by simp<;>omega),World.cell?_alloc_lt _ _ ⟨0,0,none⟩ F];exact H
 have J:=QqM n t ⟨w.heap.size,0,none⟩ D ((w.alloc (.cells #[.pointer (some t)] 127)).alloc (.cells #[.pointer (some ⟨13,127,none⟩),.pointer (some ⟨w.heap.size,0,none⟩),.int .u64 150] 171)) (by simp)
  (by rw[World.cell?_alloc_lt _ _ t (by simp<;>omega),World.cell?_alloc_lt _ _ t h];exact y)
  (by rw[World.frozen?_alloc_old _ _ t (by simp<;>omega),World.frozen?_alloc_old _ _ t (Nat.ne_of_lt h)];exact I)
 have K:=hid J;have E:=hid y;clear J;go_enter Tryz.func60,Tryz.ntmps60;go_wp2_with (first|(go_at_call 101;refine K.out.mono ?_;rintro e w2 ⟨rfl,rfl⟩));go_ret;refine⟨rfl,?_,?_⟩
 ·exact World.cell?_setCell_same _ _ _ (by rw[World.cell?_alloc_lt _ _ t (by simp<;>omega),World.cell?_alloc_lt _ _ t (by simp<;>omega),World.cell?_alloc_lt _ _ t (by simp<;>omega),World.cell?_alloc_lt _ _ t h];exact E.out)
 ·obtain⟨tb,N,ts⟩:=t;obtain rfl:ts=none:=by simpa using World.cell?_spot E.out
  exact(((((Keep.refl _ w).alloc _).alloc _).alloc _).alloc _).set _ _ _ (Or.inl (by simp))
theorem tell_any (n:Int) (w:World) (h:w.cell? ⟨0,0,none⟩=some (.iface 208 (.agg #[.pointer (some ⟨13,34,none⟩)]))):
 Calls Tryz.prog 23 #[.iface 37 (.int .i64 n)] w fun ev w'=>ev=.returned (.int .i64 n)/\Below w.heap.size w w':=by
 have y:0<w.heap.size:=World.block_lt_of_cell? w ⟨0,0,none⟩ h;have D:=hid (QqN n ⟨w.heap.size,0,none⟩ (.int .i64 0) (w.alloc (.cells #[.int .i64 0] 37)) (by rw[World.cell?_alloc_lt _ _ ⟨0,0,none⟩ y];exact h) (by simp) (by simp));go_enter Tryz.func23,Tryz.ntmps23;go_wp2_with (first|(go_at_call 60;refine D.out.mono ?_;rintro e E ⟨rfl,c2,k2⟩));go_ret;exact⟨rfl,(((Keep.refl [] w).alloc _).then k2 (by simp)).below (by simp) (Nat.le_refl _)⟩
end Go.Proofs.YtjlgejennghhlaaGreatDoor.Dk
