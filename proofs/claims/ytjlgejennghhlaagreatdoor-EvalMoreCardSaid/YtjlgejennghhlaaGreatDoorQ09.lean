import Derived.WalkLawsBesides
import Derived.Deep.LoopGhost
import Derived.Test.YtjlgejennghhlaaGreatDoorQ01
import Derived.Test.YtjlgejennghhlaaGreatDoorQ08
set_option linter.unusedSimpArgs false
set_option linter.unusedVariables false
set_option linter.unusedSectionVars false
set_option maxRecDepth 1000000
set_option maxHeartbeats 16000000
namespace Go.Proofs.YtjlgejennghhlaaGreatDoor.Fw
open Go.RowKit
def Qdh:List By:=[]::Qbu
def Qd7:List By:=[[],Qny,Qge]
def Qa5:List Nat:=[1,5,3,6,7,10]
theorem var?_block {P:Program} {g:Nat} {W y:World} {n:String} {cs:Array Value} (D:P.globalNamed n=some g) (F:y.heap[g]? =W.heap[g]?) (h:W.var? P n=some cs):y.var? P n=some cs:=by
 unfold World.var? at h⊢;simp only[D,Option.bind_some] at h⊢;rw[F];exact h
structure FEnv (w:World):Prop where
 size:∀g,g∈Qa5->g<w.heap.size
 mr:∀(j:Nat) (h:j<QaD.length),w.cell? ⟨1,j,none⟩=some (.string (ba QaD[j]))
 vb:∀(j:Nat) (h:j<Qdh.length),w.cell? ⟨5,j,none⟩=some (.string (ba Qdh[j]))
 kd:∀(j:Nat) (h:j<Qd7.length),w.cell? ⟨3,j,none⟩=some (.string (ba Qd7[j]))
 es:∃tp p,w.var? Tryz.prog "strconv.ErrSyntax"=some #[.iface tp p]
 er:∃tp p,w.var? Tryz.prog "strconv.ErrRange"=some #[.iface tp p]
 pw:Lib.TabIs Tryz.prog w "internal/strconv.uint64pow10" .u64 Lib.pow10Tab
theorem FEnv.blocks {w w':World} (h:FEnv w) (I:w.heap.size<=w'.heap.size) (y:∀g,g∈Qa5->w'.heap[g]? =w.heap[g]?):FEnv w':=by
 have H:∀g,g∈Qa5->∀j,w'.cell? ⟨g,j,none⟩=w.cell? ⟨g,j,none⟩:=fun g hg j=>World.cell?_of_block (w:=w) (y g hg)
 refine⟨fun g hg=>Nat.lt_of_lt_of_le (h.size g hg) I,fun j hj=>?_,fun j hj=>?_,fun j hj=>?_,?_,?_,?_⟩
 ·rw[H _ (by simp[Qa5])];exact h.mr j hj
 ·rw[H _ (by simp[Qa5])];exact h.vb j hj
 ·rw[H _ (by simp[Qa5])];exact h.kd j hj
 ·obtain⟨F,p,D⟩:=h.es;exact⟨F,p,var?_block (g:=6) (by kernel_rfl) (y _ (by simp[Qa5])) D⟩
 ·obtain⟨F,p,D⟩:=h.er;exact⟨F,p,var?_block (g:=7) (by kernel_rfl) (y _ (by simp[Qa5])) D⟩
 ·exact var?_block (g:=10) (by kernel_rfl) (y _ (by simp[Qa5])) h.pw
abbrev But (R:Nat) (w w':World):Prop:=w.grownBy w' (some R)
theorem But.refl (R:Nat) (w:World):But R w w:=⟨rfl,rfl,rfl,Nat.le_refl _,fun _ _ _=>rfl⟩
theorem But.of {R:Nat} {w w':World} (h:Below w.heap.size w w'):But R w w':=⟨h.os,h.tape,h.output,h.size,fun k hk _=>h.block k hk⟩
theorem But.then {R:Nat} {a b c:World} (h:But R a b) (k:But R b c):But R a c:=
 ⟨k.os.trans h.os,k.tape.trans h.tape,k.output.trans h.output,Nat.le_trans h.size k.size,fun i hi hne=>(k.block i (Nat.lt_of_lt_of_le hi h.size) hne).trans (h.block i hi hne)⟩
theorem But.cell {R:Nat} {w w':World} (h:But R w w') {p:Addr} (y:p.block<w.heap.size) (D:p.block≠R):w'.cell? p=w.cell? p:=
 World.cell?_of_block (w:=w) (h.block p.block y (by intro e;injection e with e;exact D e))
theorem But.below {R B:Nat} {w w':World} (h:But R w w') (D:B<=R) (y:B<=w.heap.size):Below B w w':=
 ⟨h.os,h.tape,h.output,h.size,fun k hk=>h.block k (by omega) (by intro e;injection e with e;omega)⟩
theorem But.set (R o:Nat) (w:World) (v:Value):But R w (w.setCell ⟨R,o,none⟩ v):=
 ⟨rfl,rfl,rfl,by simp[World.setCell],fun k hk hne=>Below.heap_setCell _ _ _ _ (by intro e;exact hne (by rw[e]))⟩
theorem But.box {R:Nat} {w w':World} (h:But R w w') (o:Obj):But R w (w'.alloc o):=h.then (But.of (Qaa _ _))
def Box (w:World) (k:Nat) (vs:List Value):Prop:=∃T,w.heap[k]? =some (.cells vs.toArray T (0,0))
theorem Box.lt {w:World} {k:Nat} {D:List Value} (h:Box w k D):k<w.heap.size:=by
 obtain⟨T,h⟩:=h;rcases Nat.lt_or_ge k w.heap.size with y|y
 ·exact y
 ·rw[Array.getElem?_eq_none y] at h;simp at h
theorem Box.cell {w:World} {k:Nat} {y:List Value} (h:Box w k y) (i:Nat) {v:Value} (D:y[i]? =some v):w.cell? ⟨k,i,none⟩=some v:=by
 obtain⟨T,h⟩:=h;simp[World.cell?,h,D]
theorem Box.fz {w:World} {k:Nat} {y:List Value} (h:Box w k y) (i:Nat):w.frozen? ⟨k,i,none⟩=false:=by
 obtain⟨T,h⟩:=h;simp[World.frozen?,h]
theorem Box.block {w w':World} {k:Nat} {y:List Value} (h:Box w k y) (D:w'.heap[k]? =w.heap[k]?):Box w' k y:=by
 obtain⟨T,h⟩:=h;exact⟨T,D.trans h⟩
theorem Box.below {w w':World} {k:Nat} {y:List Value} (h:Box w k y) (D:Below w.heap.size w w'):Box w' k y:=h.block (D.block k h.lt)
theorem Box.but {R:Nat} {w w':World} {k:Nat} {y:List Value} (h:Box w k y) (F:But R w w') (D:k≠R):Box w' k y:=h.block (F.block k h.lt (by intro e;injection e with e;exact D e))
theorem Box.new (w:World) (h:List Value) (T:TypeId) (k:Nat) (y:k=w.heap.size):Box (w.alloc (.cells h.toArray T)) k h:=by
 subst y;exact⟨T,by show(w.heap.push _)[w.heap.size]? =_;simp⟩
theorem Box.set {w:World} {k:Nat} {y:List Value} (h:Box w k y) (i:Nat) (v:Value):Box (w.setCell ⟨k,i,none⟩ v) k (y.set i v):=by
 obtain⟨T,h⟩:=h;exact⟨T,by simp[World.setCell,Array.getElem?_modify,h]⟩
theorem Box.other {w:World} {k k':Nat} {y:List Value} (h:Box w k y) (i:Nat) (v:Value) (D:k≠k'):Box (w.setCell ⟨k',i,none⟩ v) k y:=h.block (Below.heap_setCell _ _ _ _ D)
def QfQ (w:World) (b o:Nat) (ts:List Tk):Prop:=
 ∀(j:Nat) (h:j<ts.length),w.cell? ⟨b,o+j*3,none⟩=some (.int .i64 ts[j].1)/\w.cell? ⟨b,o+j*3+1,none⟩=some (.string (ba ts[j].2.1))/\w.cell? ⟨b,o+j*3+2,none⟩=some (.int .i64 ts[j].2.2)
theorem QfQ.but {R:Nat} {w w':World} {b o:Nat} {ts:List Tk} (h:QfQ w b o ts) (F:But R w w') (y:b<w.heap.size) (D:b≠R):QfQ w' b o ts:=
 fun j hj=>⟨(F.cell (p:=⟨b,o+j*3,none⟩) y D).trans (h j hj).1,(F.cell (p:=⟨b,o+j*3+1,none⟩) y D).trans (h j hj).2.1,(F.cell (p:=⟨b,o+j*3+2,none⟩) y D).trans (h j hj).2.2⟩
structure GoodT (ts:List Tk):Prop where
 last:∃l e,ts=l++[e]/\e.1=4/\e.2.1=[]
 small:∀t∈ts,t.1<=4/\t.2.1.length<=1000000/\t.2.2<=1000000/\(t.1=2->2<=t.2.1.length)/\(t.1=1->(t.2.1.head?.map (·.toNat))≠some 45)
 len:ts.length<=1000
theorem GoodT.ne {ts:List Tk} (h:GoodT ts):∃t r,ts=t::r:=by
 obtain⟨l,e,rfl,-⟩:=h.last
 cases l with
 |nil=>exact⟨_,_,rfl⟩
 |cons a l=>exact⟨_,_,rfl⟩
theorem GoodT.tail {t:Tk} {r:List Tk} (h:GoodT (t::r)) (y:t.1≠4\/t.2.1≠[]):GoodT r:=by
 obtain⟨l,e,D,H,F⟩:=h.last
 cases l with
 |nil=>
  simp at D;obtain⟨rfl,rfl⟩:=D;rcases y with y|y
  ·exact absurd H y
  ·exact absurd F y
 |cons a l=>
  simp at D;refine⟨⟨l,e,D.2,H,F⟩,fun x hx=>h.small x (by simp[hx]),?_⟩;have:=h.len;simp at this;omega
structure RD (w:World) (R:Nat) (ts:List Tk):Prop where
 cell:∃b o c,w.cell? ⟨R,0,none⟩=some (.slice (some ⟨b,o,none⟩) ts.length c)/\ts.length<=c/\b<R/\QfQ w b o ts
 lt:R<w.heap.size
 fz:w.frozen? ⟨R,0,none⟩=false
 good:GoodT ts
 env:FEnv w
 out:∀g,g∈Qa5->g<R
theorem RD.below {w w':World} {R:Nat} {ts:List Tk} (h:RD w R ts) (y:Below w.heap.size w w'):RD w' R ts:=by
 obtain⟨b,o,c,I,D,F,H⟩:=h.cell;have J:=h.lt;exact⟨⟨b,o,c,cK y h.lt I,D,F,H.but (R:=R) (But.of y) (by omega) (by omega)⟩,Nat.lt_of_lt_of_le h.lt y.size,(y.frozen (p:=⟨R,0,none⟩) h.lt).trans h.fz,h.good,h.env.blocks y.size (fun g hg=>y.block g (h.env.size g hg)),h.out⟩
theorem RD.set {w:World} {R k i:Nat} {v:Value} {ts:List Tk} (h:RD w R ts) (K:R<k):RD (w.setCell ⟨k,i,none⟩ v) R ts:=by
 obtain⟨b,o,c,J,F,H,I⟩:=h.cell;have D:=h.lt;have y:=But.set k i w v;exact⟨⟨b,o,c,(y.cell (p:=⟨R,0,none⟩) D (by show R≠k;omega)).trans J,F,H,I.but y (by omega) (by omega)⟩,by simp[World.setCell];omega,by rw[World.frozen?_setCell];exact h.fz,h.good,h.env.blocks y.size (fun g hg=>y.block g (h.env.size g hg) (by intro e;injection e with e;have:=h.out g hg;omega)),h.out⟩
theorem But.put {R k i:Nat} {w w':World} (h:But R w w') (y:w.heap.size<=k) (v:Value):But R w (w'.setCell ⟨k,i,none⟩ v):=
 ⟨h.os,h.tape,h.output,by have:=h.size;simp[World.setCell];omega,fun j hj hne=>(Below.heap_setCell _ _ _ _ (by show j≠k;omega)).trans (h.block j hj hne)⟩
def Thr (e:Ending) (w':World) (B:Nat) (er:Int×Nat):Prop:=
 ∃b,e=.panicked [{v:=.iface 100 (.pointer (some ⟨b,0,none⟩)),recovered:=false}]/\w'.cell? ⟨b,0,none⟩=some (.int .i64 er.1)/\w'.cell? ⟨b,1,none⟩=some (.int .i64 er.2)/\B<=b/\b<w'.heap.size
def Rs {α:Type} (r:PE α) (enc:α->Value->World->Prop) (e:Ending) (B:Nat) (w':World) (R:Nat):Prop:=
 (∃a ts' v,r=.ok (a,ts')/\e=.returned v/\enc a v w'/\RD w' R ts')\/(∃er,r=.error er/\Thr e w' B er)
theorem wrong_any (c h:Int) (w:World):Calls Tryz.prog 78 #[.int .i64 c,.int .i64 h] w fun e w'=>e=.returned (.pointer (some ⟨w.heap.size,0,none⟩))/\w'=w.alloc (.cells #[.int .i64 c,.int .i64 h] 155):=by
 go_enter Tryz.func78,Tryz.ntmps78;go_wp2;go_ret;exact⟨rfl,rfl⟩
theorem RD.head {w:World} {R:Nat} {ts:List Tk} (h:RD w R ts):∃(b o c:Nat) (n:Nat),w.cell? ⟨R,0,none⟩=some (.slice (some ⟨b,o,none⟩) (n+1) c)/\n+1=ts.length/\n+1<=c/\b<w.heap.size/\b<R/\n<=1000/\w.cell? ⟨b,o,none⟩=some (.int .i64 (kindT ts))/\w.cell? ⟨b,o+1,none⟩=some (.string (ba (Qar ts)))/\w.cell? ⟨b,o+2,none⟩=some (.int .i64 (Qa4 ts)):=by
 obtain⟨b,o,c,F,D,H,I⟩:=h.cell;have J:b<w.heap.size:=by have:=h.lt;omega
 obtain⟨t,r,rfl⟩:=h.good.ne;have y:=I 0 (by simp);have K:=h.good.len;simp only[List.length_cons] at F D K;refine⟨b,o,c,r.length,F,rfl,D,J,H,by omega,?_,?_,?_⟩
 ·simpa [kindT] using y.1
 ·simpa [Qar] using y.2.1
 ·simpa [Qa4] using y.2.2
theorem Qbb (c:Int) (R:Nat) (ts:List Tk) (w:World) (h:RD w R ts):Calls Tryz.prog 83 #[.pointer (some ⟨R,0,none⟩),.int .i64 c] w fun e w'=>e=.returned (.pointer (some ⟨w.heap.size,0,none⟩))/\w'=w.alloc (.cells #[.int .i64 c,.int .i64 (Qa4 ts)] 155):=by
 obtain⟨b,o,I,n,K,M,y,J,H,F,k0,k1,k2⟩:=h.head;have D:=h.lt;go_enter Tryz.func83,Tryz.ntmps83;go_wp2_with (go_at_call 78;refine(wrong_any _ _ _).mono ?_;rintro e w' ⟨rfl,rfl⟩);go_ret;exact⟨rfl,rfl⟩
theorem Qph (x:By) (R:Nat) (ts:List Tk) (w:World) (h:RD w R ts):Calls Tryz.prog 110 #[.pointer (some ⟨R,0,none⟩),.string (ba x)] w fun e w'=>e=.returned (.bool (Qar ts==x))/\w'=w:=by
 obtain⟨b,o,I,n,K,M,y,J,H,F,k0,k1,k2⟩:=h.head;have D:=h.lt;go_enter Tryz.func110,Tryz.ntmps110;go_wp2;go_ret;exact⟨rfl,rfl⟩
theorem QfQ.tail {w:World} {b o:Nat} {t:Tk} {r:List Tk} (h:QfQ w b o (t::r)):QfQ w b (o+3) r:=by
 intro j y;have:=h (j+1) (by simp;omega);rw[show o+(j+1)*3=o+3+j*3 by omega] at this;simpa using this
theorem RD.taken {w:World} {R b o c:Nat} {ts:List Tk} (h:RD w R ts) (M:kindT ts≠4\/Qar ts≠[]) (F:w.cell? ⟨R,0,none⟩=some (.slice (some ⟨b,o,none⟩) ts.length c)):
 RD (w.setCell ⟨R,0,none⟩ (.slice (some ⟨b,o+3,none⟩) ts.tail.length (c-1))) R ts.tail:=by
 obtain⟨U,V,O,y,I,J,K⟩:=h.cell;have N:=h.lt;rw[F] at y;simp only[Option.some.injEq,Value.slice.injEq,Addr.mk.injEq,true_and,and_true] at y;obtain⟨⟨rfl,rfl⟩,rfl⟩:=y;obtain⟨t,r,rfl⟩:=h.good.ne;simp only[List.tail_cons,List.length_cons] at I⊢;have D:=But.set R 0 w (.slice (some ⟨b,o+3,none⟩) r.length (c-1));have H:(w.setCell ⟨R,0,none⟩ (.slice (some ⟨b,o+3,none⟩) r.length (c-1))).heap.size=w.heap.size:=by simp[World.setCell]
 refine⟨⟨b,o+3,c-1,?_,by omega,J,(K.tail).but D (by omega) (by omega)⟩,by rw[H];exact h.lt,?_,h.good.tail M,h.env.blocks D.size (fun g hg=>D.block g (h.env.size g hg) (by intro e;injection e with e;have:=h.out g hg;omega)),h.out⟩
 ·exact World.cell?_setCell_same _ _ _ F
 ·rw[World.frozen?_setCell];exact h.fz
theorem Qd8 (R:Nat) (ts:List Tk) (w:World) (h:RD w R ts) (K:kindT ts≠4\/Qar ts≠[]):Calls Tryz.prog 153 #[.pointer (some ⟨R,0,none⟩)] w fun e w'=>e=.returned (.tuple #[])/\RD w' R ts.tail/\But R w w':=by
 obtain⟨b,o,H,n,J,D,M,hb,Z,U,k0,k1,k2⟩:=h.head;have F:=Hk (h.taken K (by rw[<-D];exact J));have N:=h.lt;have O:=h.fz;have y:ts.tail.length=n:=by rw[List.length_tail];omega
 rw[y] at F;have V:¬H=1:=by
  obtain⟨t,r,I⟩:=F.out.good.ne;rw[I] at y;simp at y;omega
 clear D y;go_enter Tryz.func153,Tryz.ntmps153;go_wp2
 go_end0
 exact⟨rfl,F.out,But.set _ _ _ _⟩
theorem Qcs (x:By) (R:Nat) (ts:List Tk) (w:World) (h:RD w R ts) (J:x≠[]):Calls Tryz.prog 114 #[.pointer (some ⟨R,0,none⟩),.string (ba x)] w fun e w'=>e=.returned (.bool (Qar ts==x))/\RD w' R (if Qar ts=x then ts.tail else ts)/\But R w w':=by
 have H:=Hk h;have D:=Hk (fun(K:kindT ts≠4\/Qar ts≠[])=>Qd8 R ts w h K);have HI:=Hk (Qph x R ts w h);clear h
 by_cases he:Qar ts=x
 ·have y:(Qar ts==x)=true:=by simp[he]
  rw[y] at HI⊢;rw[if_pos he];have D:=Hk (D.out (Or.inr (by rw[he];exact J)));clear y he;go_enter Tryz.func114,Tryz.ntmps114;go_wp2_with (first|(go_at_call 110;refine HI.out.mono ?_;rintro e w' ⟨rfl,rfl⟩)|(go_at_call 153;refine D.out.mono ?_;rintro e w' ⟨rfl,I,F⟩));go_ret;exact⟨rfl,I,F⟩
 ·have y:(Qar ts==x)=false:=by simp[he]
  rw[y] at HI⊢;rw[if_neg he];clear y he;go_enter Tryz.func114,Tryz.ntmps114;go_wp2_with (first|(go_at_call 110;refine HI.out.mono ?_;rintro e w' ⟨rfl,rfl⟩));go_ret;exact⟨rfl,H.out,But.refl _ _⟩
theorem bel_then {w h D:World} (y:Below w.heap.size w h) (F:Below h.heap.size h D):Below w.heap.size w D:=y.trans (F.mono y.size)
theorem bel_box {w y:World} (h:Below w.heap.size w y) (o:Obj):Below w.heap.size w (y.alloc o):=h.alloc h.size o
theorem grown_below {w w':World} (h:Below w.heap.size w w') (row:Option Nat):w.grownBy w' row:=⟨h.os,h.tape,h.output,h.size,fun k hk _=>h.block k hk⟩
theorem Qqo (w:World) (c:Int) (ts:List Tk) {B b:Nat} (h:B<=w.heap.size) (y:b=w.heap.size):Thr (.panicked [{v:=.iface 100 (.pointer (some ⟨b,0,none⟩)),recovered:=false}]) (w.alloc (.cells #[.int .i64 c,.int .i64 (Qa4 ts)] 155)) B (c,Qa4 ts):=by
 subst y;exact⟨w.heap.size,rfl,by simp,by simp,h,by simp⟩
theorem QcT (w:World) (c:Int) (ts:List Tk) {B:Nat} (h:B<=w.heap.size):Thr (.panicked [{v:=.iface 100 (.pointer (some ⟨w.heap.size,0,none⟩)),recovered:=false}]) (w.alloc (.cells #[.int .i64 c,.int .i64 (Qa4 ts)] 155)) B (c,Qa4 ts):=
 ⟨w.heap.size,rfl,by simp,by simp,h,by simp⟩
theorem QaK (x:By) (R:Nat) (ts:List Tk) (w:World) (h:RD w R ts) (K:x≠[]):Calls Tryz.prog 111 #[.pointer (some ⟨R,0,none⟩),.string (ba x)] w fun e w'=>Rs (QbA x ts) (fun a v _=>v=.int .i64 (a:Nat)) e w.heap.size w' R/\But R w w':=by
 obtain⟨b,o,Z,n,hc,J,M,hb,V,O,k0,k1,k2⟩:=h.head;have N:=h.lt;have H:=Hk h;have D:=Hk (Qcs x R ts w h K);clear h J
 by_cases he:Qar ts=x
 ·have F:=Hk (show QbA x ts=.ok (Qa4 ts,ts.tail) by rw[QbA,if_pos he]);have hb':(Qar ts==x)=true:=by simp[he]
  rw[hb',if_pos he] at D;clear hb' he;go_enter Tryz.func111,Tryz.ntmps111;go_wp2_with (first|(go_at_call 114;refine D.out.mono ?_;rintro e w' ⟨rfl,I,y⟩));go_ret;exact⟨Or.inl ⟨_,_,_,F.out,rfl,rfl,I⟩,y⟩
 ·have F:=Hk (show QbA x ts=.error (3,Qa4 ts) by rw[QbA,if_neg he];rfl);have hb':(Qar ts==x)=false:=by simp[he]
  rw[hb',if_neg he] at D;clear hb' he;go_enter Tryz.func111,Tryz.ntmps111;go_wp2_with (first|(go_at_call 114;refine D.out.mono ?_;rintro e w' ⟨rfl,I,y⟩)|(go_at_call 83;refine(Qbb _ _ _ _ I).mono ?_;rintro e U ⟨rfl,rfl⟩));exact⟨rfl,Or.inr ⟨_,F.out,QcT _ _ _ y.size⟩,y.box _⟩
theorem QgV (k:Nat) (R:Nat) (ts:List Tk) (w:World) (h:RD w R ts):Calls Tryz.prog 152 #[.pointer (some ⟨R,0,none⟩),.int .i64 k] w fun e w'=>((kindT ts=k/\e=.returned (.agg #[.int .i64 (kindT ts),.string (ba (Qar ts)),.int .i64 (Qa4 ts)]))\/(kindT ts≠k/\Thr e w' w.heap.size (3,Qa4 ts)))/\Below w.heap.size w w':=by
 obtain⟨b,o,V,n,Z,D,K,F,U,N,k0,k1,k2⟩:=h.head;have M:=h.lt;have H:=Hk h;have J:=Hk (fun W (F:Below w.heap.size w W)=>Qbb 3 R ts W (h.below F));clear h D
 by_cases he:kindT ts=k
 ·have y:=Hk he;have I:((kindT ts:Int) != (k:Int))=false:=by simp[he]
  clear he;go_enter Tryz.func152,Tryz.ntmps152;go_wp2;refine bodyPost_ret (v:=.agg #[.int .i64 (kindT ts),.string (ba (Qar ts)),.int .i64 (Qa4 ts)]) (by simp[results,Tryz.results152,go_sem]) rfl ?_;exact⟨Or.inl ⟨y.out,rfl⟩,Qaa _ _⟩
 ·have y:=Hk he;have I:((kindT ts:Int) != (k:Int))=true:=by simp;omega
  clear he;go_enter Tryz.func152,Tryz.ntmps152;go_wp2_with (go_at_call 83;refine(J.out _ (Qaa _ _)).mono ?_;rintro e O ⟨rfl,rfl⟩);exact⟨rfl,Or.inr ⟨y.out,Qqo _ _ _ (by simp) (by simp)⟩,bel_box (Qaa _ _) _⟩
def encS:By->Value->World->Prop:=fun a v _=>v=.string (ba a)
def encI:Int->Value->World->Prop:=fun a v _=>v=.int .i64 a
theorem QgW (a b c:Value) (w:World):(Instr.field 143 (.agg #[a,b,c]) 1).run Tryz.prog w=.ok b w:=by kernel_rfl
theorem Thr.grow {e:Ending} {w':World} {B B':Nat} {er:Int×Nat} (h:Thr e w' B er) (J:B'<=B):Thr e w' B' er:=by
 obtain⟨b,D,y,H,I,F⟩:=h;exact⟨b,D,y,H,by omega,F⟩
theorem Qav (R:Nat) (ts:List Tk) (w:World) (h:RD w R ts):Calls Tryz.prog 112 #[.pointer (some ⟨R,0,none⟩)] w fun e w'=>Rs (Qbd ts) encS e w.heap.size w' R/\But R w w':=by
 have H:=Hk h;have ac:=QgW;clear h;go_enter Tryz.func112,Tryz.ntmps112;go_wp2_with (go_at_call 152;fail);refine(QgV 0 R ts w H.out).mono ?_;rintro e w1 ⟨⟨F,rfl⟩|⟨F,I⟩,y⟩
 ·have M:=Hk (H.out.below y);have J:=Hk y;have K:=Hk F;clear y F
  by_cases hl:10<(Qar ts).length
  ·have O:(10:Int)<((Qar ts).length:Int):=by omega
   have D:=Hk (show Qbd ts=.error (4,Qa4 ts) by rw[Qbd,if_neg (by simp[K.out]),if_pos hl];rfl);go_wp2_with (go_at_call 83;refine(Qbb _ _ _ _ M.out).mono ?_;rintro e N ⟨rfl,rfl⟩);exact⟨rfl,Or.inr ⟨_,D.out,QcT _ _ _ J.out.size⟩,But.of (bel_box J.out _)⟩
  ·have O:¬((10:Int)<((Qar ts).length:Int)):=by omega
   have D:=Hk (show Qbd ts=.ok (Qar ts,ts.tail) by rw[Qbd,if_neg (by simp[K.out]),if_neg hl]);go_wp2_with (go_at_call 153;refine(Qd8 _ _ _ M.out (Or.inl (by rw[K.out];decide))).mono ?_;rintro e N ⟨rfl,h1,h2⟩);go_ret;exact⟨Or.inl ⟨_,_,_,D.out,rfl,rfl,h1⟩,(But.of J.out).then h2⟩
 ·obtain⟨b',rfl,t0,V,Z,U⟩:=I;have D:=Hk (show Qbd ts=.error (3,Qa4 ts) by rw[Qbd,if_pos F];rfl);go_wp2;exact⟨rfl,Or.inr ⟨_,D.out,b',rfl,t0,V,Z,U⟩,But.of y⟩
theorem ba_list (l:By):(ba l).data.toList=l:=by simp
theorem Qdi (l:By):(ba l).size=l.length:=by simp[ByteArray.size]
theorem QgB {ts:List Tk} (h:GoodT ts):(Qar ts).length<=1000000:=by
 obtain⟨t,r,rfl⟩:=h.ne;exact(h.small t (by simp)).2.1
theorem Qmn (l:By) (w:World) (M:l.length<=1000000) (h:FEnv w):Calls Tryz.prog 121 #[.string (ba l)] w fun e w'=>(∃q,e=.returned (.tuple #[.int .i64 (QiV l),q]))/\Below w.heap.size w w':=by
 obtain⟨H,F,K⟩:=h.es;obtain⟨D,J,I⟩:=h.er;have O:=Qdi l;unfold QiV;rcases Qlr (Lib.atoiAll l) with ⟨n,g⟩|g|g
 ·rw[g];have g':Lib.atoiAll (ba l).data.toList=.ok n:=by rw[ba_list];exact g
  exact(Qls (ba l) w n (by omega) g').mono fun _ _ x=>⟨⟨_,x.1⟩,x.2⟩
 ·have g':Lib.atoiAll (ba l).data.toList=Lib.atoiAll []:=by rw[ba_list];exact g
  rw[g];exact(Tryz.strconv_Atoi_syntax_var (ba l) (by omega) g' H F w K).mono fun _ _ ⟨N,x,_,_,y⟩=>⟨⟨_,x⟩,y⟩
 ·have g':Lib.atoiAll (ba l).data.toList=.range:=by rw[ba_list];exact g
  rw[g];exact(Tryz.strconv_Atoi_range_var (ba l) (by omega) g' D J w I).mono fun _ _ ⟨N,x,_,_,y⟩=>⟨⟨_,x.trans (by rw[ba_list])⟩,y⟩
theorem QgX (y:Int) (R:Nat) (ts:List Tk) (w:World) (h:RD w R ts):Calls Tryz.prog 116 #[.pointer (some ⟨R,0,none⟩),.int .i64 y] w fun e w'=>Rs (Qhh y ts) encI e w.heap.size w' R/\But R w w':=by
 have H:=Hk h;have ae:=QgW;clear h;go_enter Tryz.func116,Tryz.ntmps116;go_wp2_with (go_at_call 152;fail);refine(QgV 1 R ts w H.out).mono ?_;rintro e w1 ⟨⟨K,rfl⟩|⟨K,M⟩,D⟩
 ·have N:=Hk (H.out.below D);have HB:=Hk D;have U:=Hk K;clear D K;go_wp2_with (go_at_call 121;fail);refine(Qmn _ w1 (QgB N.out.good) N.out.env).mono ?_;rintro e w2 ⟨⟨q,rfl⟩,I⟩;have H2:=Hk (N.out.below I);have F:=Hk (bel_then HB.out I);clear I;generalize Z:QiV (Qar ts)=n;have O:=Hk Z;clear Z
  by_cases hl:y<n
  ·have J:=Hk (show Qhh y ts=.error (4,Qa4 ts) by rw[Qhh,if_neg (by simp[U.out]),if_pos (by rw[O.out];exact hl)];rfl);go_wp2_with (go_at_call 83;refine(Qbb _ _ _ _ H2.out).mono ?_;rintro e V ⟨rfl,rfl⟩);exact⟨rfl,Or.inr ⟨_,J.out,QcT _ _ _ F.out.size⟩,But.of (bel_box F.out _)⟩
  ·have J:=Hk (show Qhh y ts=.ok (n,ts.tail) by rw[Qhh,if_neg (by simp[U.out]),if_neg (by rw[O.out];exact hl),O.out]);go_wp2_with (go_at_call 153;refine(Qd8 _ _ _ H2.out (Or.inl (by rw[U.out];decide))).mono ?_;rintro e V ⟨rfl,h1,h2⟩);go_ret;exact⟨Or.inl ⟨_,_,_,J.out,rfl,rfl,h1⟩,(But.of F.out).then h2⟩
 ·obtain⟨b',rfl,t0,t1,tB,tl⟩:=M;have J:=Hk (show Qhh y ts=.error (3,Qa4 ts) by rw[Qhh,if_pos K];rfl);go_wp2;exact⟨rfl,Or.inr ⟨_,J.out,b',rfl,t0,t1,tB,tl⟩,But.of D⟩
def Qn5 (xs:List By) (x:By):Int:=match xs.findIdx? (·==x) with |some i=>(i:Int)|none=>-1
def Qdj (w:World) (v:Value) (xs:List By):Prop:=∃b o c,v=.slice (some ⟨b,o,none⟩) xs.length c/\b<w.heap.size/\xs.length<=1000/\∀(j:Nat) (h:j<xs.length),w.cell? ⟨b,o+j,none⟩=some (.string (ba xs[j]))
theorem indexS_any (v:Value) (xs:List By) (x:By) (w:World) (h:Qdj w v xs):Calls Tryz.prog 71 #[v,.string (ba x)] w fun e w'=>e=.returned (.int .i64 (Qn5 xs x))/\w'=w:=by
 obtain⟨b,o,c,rfl,hb,hl,D⟩:=h;have U:=Hk D;clear D;go_enter Tryz.func71,Tryz.ntmps71;go_wp2
 go_loopg [8] xs.length (fun g i wr=>∃k:Nat,k<=xs.length/\i=.int .i64 k/\xs.length-k<=g/\Aside (∀(j:Nat) (h:j<xs.length),j<k->(xs[j]==x)=false)/\wr=w)
 case atStart=>exact⟨0,Nat.zero_le _,rfl,by omega,fun j _ h=>absurd h (by omega),rfl⟩
 case round=>
  obtain⟨k,Z,rfl,hg,I,rfl⟩:=hrel
  by_cases hlt:k<xs.length
  ·have F:(k:Int)<(xs.length:Int):=by omega
   have V:=U.out k hlt;generalize N:xs[k]=y at V;have K:=Hk N;clear N
   by_cases he:x=y
   ·have J:=Hk (show xs.findIdx? (·==x)=some k from by
     rw[List.findIdx?_eq_some_iff_getElem];exact⟨hlt,by rw[K.out,he];simp,fun j H=>by rw[I.out j (by omega) H];simp⟩)
    have hb':(x==y)=true:=by simp[he]
    clear he;go_wp2;go_ret;exact⟨Qby (by rw[Qn5,J.out]),rfl⟩
   ·have hb':(x==y)=false:=by simp[he]
    have M:=Hk (show∀(j:Nat) (h:j<xs.length),j<k+1->(xs[j]==x)=false from fun j h1 h2=>by
     by_cases h3:j<k
     ·exact I.out j h1 h3
     ·have:j=k:=by omega
      subst this;rw[K.out];simp;exact fun h=>he h.symm)
    clear he;go_wp2
    go_roundg (xs.length-(k+1))
    case measure=>omega
    case rel=>exact⟨k+1,by omega,by go_num,Nat.le_refl _,M.out,rfl⟩
  ·have F:¬((k:Int)<(xs.length:Int)):=by omega
   have J:=Hk (show xs.findIdx? (·==x)=none from by
    rw[List.findIdx?_eq_none_iff];intro y O;obtain⟨j,H,rfl⟩:=List.getElem_of_mem O;exact I.out j H (by omega))
   go_wp2;go_ret;exact⟨Qby (by rw[Qn5,J.out]),rfl⟩
theorem Qn6 (xs:List By) (x:By):(x∈xs/\∃i:Nat,xs.findIdx? (·==x)=some i)\/(x∉xs/\xs.findIdx? (·==x)=none):=by
 cases h:xs.findIdx? (·==x) with
 |some i=>
  rw[List.findIdx?_eq_some_iff_getElem] at h;obtain⟨y,he,-⟩:=h;refine Or.inl ⟨?_,i,rfl⟩;rw[<-beq_iff_eq.1 he];exact List.getElem_mem y
 |none=>
  rw[List.findIdx?_eq_none_iff] at h;exact Or.inr ⟨fun hx=>by have:=h x hx;simp at this,rfl⟩
theorem Qmo (v:Value) (xs:List By) (x:By) (w:World) (h:Qdj w v xs):Calls Tryz.prog 37 #[v,.string (ba x)] w fun e w'=>e=.returned (.bool (decide (x∈xs)))/\w'=w:=by
 have HI:=Hk (indexS_any v xs x w h);clear h;unfold Qn5 at HI;rcases Qn6 xs x with ⟨y,i,D⟩|⟨y,D⟩
 ·rw[decide_eq_true y];rw[D] at HI;go_enter Tryz.func37,Tryz.ntmps37;go_wp2_with (go_at_call 71;refine HI.out.mono ?_;rintro e w' ⟨rfl,rfl⟩);go_ret;exact⟨ret_bool (by simp),rfl⟩
 ·rw[decide_eq_false y];rw[D] at HI;go_enter Tryz.func37,Tryz.ntmps37;go_wp2_with (go_at_call 71;refine HI.out.mono ?_;rintro e w' ⟨rfl,rfl⟩);go_ret;exact⟨ret_bool (by simp),rfl⟩
theorem Qdq (v:Value) (xs:List By) (R:Nat) (ts:List Tk) (w:World) (h:RD w R ts) (J:Qdj w v xs) (N:[]∉xs):Calls Tryz.prog 155 #[.pointer (some ⟨R,0,none⟩),v] w fun e w'=>Rs (QcZ xs ts) encS e w.heap.size w' R/\But R w w':=by
 obtain⟨b,o,cc,n,hc,I,U,hb,hR,Z,k0,k1,k2⟩:=h.head;have V:=h.lt;have H:=Hk h;have y:=Hk (Qmo v xs (Qar ts) w J);clear h I J
 by_cases he:Qar ts∈xs
 ·have F:=Hk (show QcZ xs ts=.ok (Qar ts,ts.tail) by rw[QcZ,if_pos he]);have D:Qar ts≠[]:=fun e=>N (e▸he)
  rw[decide_eq_true he] at y;have O:=Hk (Qd8 R ts w H.out (Or.inr D));clear he D;go_enter Tryz.func155,Tryz.ntmps155;go_wp2_with (first|(go_at_call 37;refine y.out.mono ?_;rintro e w' ⟨rfl,rfl⟩)|(go_at_call 153;refine O.out.mono ?_;rintro e w' ⟨rfl,M,K⟩));go_ret;exact⟨Or.inl ⟨_,_,_,F.out,rfl,rfl,M⟩,K⟩
 ·have F:=Hk (show QcZ xs ts=.error (3,Qa4 ts) by rw[QcZ,if_neg he];rfl);rw[decide_eq_false he] at y;clear he;go_enter Tryz.func155,Tryz.ntmps155;go_wp2_with (first|(go_at_call 37;refine y.out.mono ?_;rintro e w' ⟨rfl,rfl⟩)|(go_at_call 83;refine(Qbb _ _ _ _ H.out).mono ?_;rintro e aa ⟨rfl,rfl⟩));exact⟨rfl,Or.inr ⟨_,F.out,QcT _ _ _ (Nat.le_refl _)⟩,(But.refl _ _).box _⟩
theorem Qn7 {ts:List Tk} (h:GoodT ts) (y:kindT ts=2):2<=(Qar ts).length:=by
 obtain⟨t,r,rfl⟩:=h.ne;exact(h.small t (by simp)).2.2.2.1 y
theorem baX {x y:ByteArray} (h:x.data.toList=y.data.toList):x=y:=by
 cases x
 cases y
 simp at h;simp[h]
theorem QjA (l:By) (a b:Nat):(ba l).extract a b=ba ((l.drop a).take (b-a)):=by
 apply baX;rw[ba_list];simp[List.extract_eq_take_drop]
def QrF:By->Value->World->Prop:=fun a v _=>v=.agg #[.int .i64 2,.int .i64 0,.string (ba a)]
theorem Qn8 (R:Nat) (ts:List Tk) (w:World) (h:RD w R ts):Calls Tryz.prog 180 #[.pointer (some ⟨R,0,none⟩)] w fun e w'=>Rs (QkI ts) QrF e w.heap.size w' R/\But R w w':=by
 have H:=Hk h;have am:=QgW;clear h;go_enter Tryz.func180,Tryz.ntmps180;go_wp2_with (go_at_call 152;fail);refine(QgV 2 R ts _ (H.out.below (Qaa _ _))).mono ?_;rintro e w1 ⟨⟨I,rfl⟩|⟨I,V⟩,F⟩
 ·have Z:=Hk (bel_then (Qaa _ _) F);have H1:=Hk (H.out.below Z.out);have X1:=Hk ((Box.new w [.int .i64 0,.int .i64 0,.string ⟨#[]⟩] 46 _ rfl).below F);have HK:=Hk I;have au:=Qn7 H.out.good I;have aD:=QgB H.out.good;clear F I;go_wp2_with (go_at_call 65;fail);rw[QjA,show((Qar ts).drop 1).take ((Qar ts).length-1-1)=QdB (Qar ts) from by rw[QdB];congr 1];have HI:=Hk (show(QdB (Qar ts)).length<=1000000 by unfold QdB;rw[List.length_take];omega);have HQ:=Hk (show QkI ts=(if Qao 2 0 (QdB (Qar ts))=false then wrongP 4 ts else .ok (QdB (Qar ts),ts.tail)) by rw[QkI,if_neg (by simp[HK.out])]);generalize QdB (Qar ts)=q at*;refine(Qba 2 0 (ba q) (w1.alloc (.cells #[.int .i64 2,.int .i64 0,.string (ba q)] 46)) (by rw[Qdi];have:=HI.out;unfold maxLen;omega)).mono ?_;rintro e w2 ⟨rfl,U⟩;rw[ba_list];have D:=Hk (bel_then (Qaa _ _) U);have H2:=Hk (H1.out.below D.out);have X2:=Hk (X1.out.below D.out);have J:=Hk ((Box.new w1 [.int .i64 2,.int .i64 0,.string (ba q)] 46 _ rfl).below U);have hq:=J.out.lt;have aB:=X1.out.lt;have aC:=X2.out.lt;have q0:=J.out.cell 0 rfl;have q1:=J.out.cell 1 rfl;have q2:=J.out.cell 2 rfl
  cases hg:Qao 2 0 q
  ·have M:=Hk (show QkI ts=.error (4,Qa4 ts) by rw[HQ.out,if_pos hg];rfl);clear hg;go_wp2_with (go_at_call 83;refine(Qbb _ _ _ _ H2.out).mono ?_;rintro e aF ⟨rfl,rfl⟩);exact⟨rfl,Or.inr ⟨_,M.out,QcT _ _ _ (by omega)⟩,But.of (bel_box (bel_then Z.out D.out) _)⟩
  ·have M:=Hk (show QkI ts=.ok (q,ts.tail) by rw[HQ.out,if_neg (by rw[hg];simp)]);clear hg;go_wp2_with (go_at_call 153;fail);refine(Qd8 _ _ _ H2.out (Or.inl (by rw[HK.out];decide))).mono ?_;rintro e w3 ⟨rfl,h1,N⟩;have hR:=H.out.lt;have y:=Hk (X2.out.but N (by omega));have O:=Hk (J.out.but N (by omega));have q0:=O.out.cell 0 rfl;have q1:=O.out.cell 1 rfl;have q2:=O.out.cell 2 rfl;have x0:=y.out.cell 0 rfl;have x1:=y.out.cell 1 rfl;have x2:=y.out.cell 2 rfl;have y0:=y.out.fz 0;have y1:=y.out.fz 1;have y2:=y.out.fz 2;have aG:=O.out.lt;have aE:=y.out.lt;have ae:=Hk (((h1.set (i:=0) (v:=.int .i64 2) hR).set (i:=1) (v:=.int .i64 0) hR).set (i:=2) (v:=.string (ba q)) hR);have ag:=Hk (((((But.of (bel_then Z.out D.out)).then N).put (Nat.le_refl _) (.int .i64 2) (i:=0)).put (Nat.le_refl _) (.int .i64 0) (i:=1)).put (Nat.le_refl _) (.string (ba q)) (i:=2));have K:=Hk (((y.out.set 0 (.int .i64 2)).set 1 (.int .i64 0)).set 2 (.string (ba q)));have z0:=K.out.cell 0 rfl;have z1:=K.out.cell 1 rfl;have z2:=K.out.cell 2 rfl;clear h1 N;go_wp2;refine bodyPost_ret (v:=.agg #[.int .i64 2,.int .i64 0,.string (ba q)]) (by simp[results,Tryz.results180,go_sem,z0,z1,z2]) rfl ?_;exact⟨Or.inl ⟨_,_,_,M.out,rfl,rfl,ae.out⟩,ag.out⟩
 ·obtain⟨b',rfl,t0,t1,tB,tl⟩:=V;have M:=Hk (show QkI ts=.error (3,Qa4 ts) by rw[QkI,if_pos I];rfl);go_wp2;exact⟨rfl,Or.inr ⟨_,M.out,b',rfl,t0,t1,by first|omega|(simp at tB;omega),tl⟩,But.of (bel_then (Qaa _ _) F)⟩
def Qqp:Ag->Value->World->Prop:=fun a v _=>v=.agg #[.string (ba a.1),.int .i64 a.2.1,.int .i64 a.2.2.1,.string (ba a.2.2.2)]
theorem QjB {l:By} (h:(l.head?.map (·.toNat))≠some 45):0<=QiV l:=by
 unfold QiV
 cases l with
 |nil=>simp[Lib.atoiAll]
 |cons c r=>
  have D:¬c.toNat=45:=fun e=>h (by simp[e])
  split
  ·rename_i n y
   unfold Lib.atoiAll at y;simp only[D,or_false,false_and,if_false,not_false_eq_true,true_and] at y;split at y
   ·cases y
   ·cases y
   ·split at y
    ·cases y
    ·simp only[Lib.NumEnd.ok.injEq] at y;omega
  ·unfold Lib.atoiSat;rw[if_neg h];omega
  ·omega
theorem Qpx {y:Int} {ts:List Tk} {n:Int} {ts':List Tk} (D:GoodT ts) (h:Qhh y ts=.ok (n,ts')):n<=y/\0<=n:=by
 unfold Qhh at h;split at h
 ·cases h
 ·rename_i F
  split at h
  ·cases h
  ·rename_i H
   simp only[Except.ok.injEq,Prod.mk.injEq] at h;obtain⟨rfl,-⟩:=h;refine⟨by omega,QjB ?_⟩;obtain⟨t,r,rfl⟩:=D.ne;exact(D.small t (by simp)).2.2.2.2 (by simpa [kindT] using F)
theorem Qe6 (R:Nat) (ts:List Tk) (w:World) (h:RD w R ts):Calls Tryz.prog 156 #[.pointer (some ⟨R,0,none⟩)] w fun e w'=>Rs (Qe5 ts) Qqp e w.heap.size w' R/\But R w w':=by
 have J:=h.lt;have H0:=Hk (h.below (Qaa w (.cells #[.string ⟨#[]⟩,.int .i64 0,.int .i64 0,.string ⟨#[]⟩] 48)));obtain⟨b,o,cc,n,hc,aK,aO,hb,aP,aN,k0,k1,k2⟩:=h.head;have X0:=Hk (Box.new w [.string ⟨#[]⟩,.int .i64 0,.int .i64 0,.string ⟨#[]⟩] 48 _ rfl);have ab:=Hk (But.of (R:=R) (Qaa w (.cells #[.string ⟨#[]⟩,.int .i64 0,.int .i64 0,.string ⟨#[]⟩] 48)));clear h aK
 by_cases hk0:kindT ts=0
 ·have U:=Hk (show Qe5 ts=(Qbd ts).map fun x=>((x.1,0,0,[]),x.2) by rw[Qe5,if_pos hk0]);have aH:((kindT ts:Int)==0)=true:=by simp[hk0]
  clear hk0;go_enter Tryz.func156,Tryz.ntmps156;go_wp2_with (go_at_call 112;fail);refine(Qav R ts _ H0.out).mono ?_;rintro e w3 ⟨⟨a,ts',v,H,rfl,hv,I⟩|⟨er,H,K⟩,F⟩
  ·unfold encS at hv;subst hv;have M:=Hk (show Qe5 ts=.ok ((a,0,0,[]),ts') by rw[U.out,H];rfl);have y:=Hk (X0.out.but F (by omega));have H3:=Hk I;have B3:=Hk (ab.out.then F);clear H I F;have x0:=y.out.cell 0 rfl;have y0:=y.out.fz 0;have x1:=y.out.cell 1 rfl;have y1:=y.out.fz 1;have x2:=y.out.cell 2 rfl;have y2:=y.out.fz 2;have x3:=y.out.cell 3 rfl;have y3:=y.out.fz 3;have aq:=y.out.lt;have V:=Hk ((((H3.out.set (i:=0) (v:=.string (ba a)) J).set (i:=1) (v:=.int .i64 0) J).set (i:=2) (v:=.int .i64 0) J).set (i:=3) (v:=.string ⟨#[]⟩) J);have Z:=Hk ((((B3.out.put (Nat.le_refl _) (.string (ba a)) (i:=0)).put (Nat.le_refl _) (.int .i64 0) (i:=1)).put (Nat.le_refl _) (.int .i64 0) (i:=2)).put (Nat.le_refl _) (.string ⟨#[]⟩) (i:=3));have D:=Hk ((((y.out.set 0 (.string (ba a))).set 1 (.int .i64 0)).set 2 (.int .i64 0)).set 3 (.string ⟨#[]⟩));have z0:=D.out.cell 0 rfl;have z1:=D.out.cell 1 rfl;have z2:=D.out.cell 2 rfl;have z3:=D.out.cell 3 rfl;clear D;go_wp2;refine bodyPost_ret (v:=.agg #[.string (ba a),.int .i64 0,.int .i64 0,.string ⟨#[]⟩]) (by simp[results,Tryz.results156,go_sem,z0,z1,z2,z3]) rfl ?_;exact⟨Or.inl ⟨_,_,_,M.out,rfl,rfl,V.out⟩,Z.out⟩
  ·obtain⟨b',rfl,t0,t1,tB,tl⟩:=K;have M:=Hk (show Qe5 ts=.error er by rw[U.out,H];rfl);go_wp2;exact⟨rfl,Or.inr ⟨_,M.out,b',rfl,t0,t1,by first|omega|(simp at tB;omega),tl⟩,ab.out.then F⟩
 ·have aH:((kindT ts:Int)==0)=false:=by simp;omega
  by_cases hk2:kindT ts=2
  ·have U:=Hk (show Qe5 ts=(QkI ts).map fun x=>(([],2,0,x.1),x.2) by rw[Qe5,if_neg hk0,if_pos hk2]);have aJ:((kindT ts:Int)==2)=true:=by simp[hk2]
   clear hk0 hk2;go_enter Tryz.func156,Tryz.ntmps156;go_wp2_with (go_at_call 180;fail);refine(Qn8 R ts _ H0.out).mono ?_;rintro e w3 ⟨⟨a,ts',v,H,rfl,hv,I⟩|⟨er,H,K⟩,F⟩
   ·unfold QrF at hv;subst hv;have M:=Hk (show Qe5 ts=.ok (([],2,0,a),ts') by rw[U.out,H];rfl);have y:=Hk (X0.out.but F (by omega));have H3:=Hk I;have B3:=Hk (ab.out.then F);clear H I F;have x0:=y.out.cell 0 rfl;have y0:=y.out.fz 0;have x1:=y.out.cell 1 rfl;have y1:=y.out.fz 1;have x2:=y.out.cell 2 rfl;have y2:=y.out.fz 2;have x3:=y.out.cell 3 rfl;have y3:=y.out.fz 3;have aq:=y.out.lt;have V:=Hk ((((H3.out.set (i:=0) (v:=.string ⟨#[]⟩) J).set (i:=1) (v:=.int .i64 2) J).set (i:=2) (v:=.int .i64 0) J).set (i:=3) (v:=.string (ba a)) J);have Z:=Hk ((((B3.out.put (Nat.le_refl _) (.string ⟨#[]⟩) (i:=0)).put (Nat.le_refl _) (.int .i64 2) (i:=1)).put (Nat.le_refl _) (.int .i64 0) (i:=2)).put (Nat.le_refl _) (.string (ba a)) (i:=3));have D:=Hk ((((y.out.set 0 (.string ⟨#[]⟩)).set 1 (.int .i64 2)).set 2 (.int .i64 0)).set 3 (.string (ba a)));have z0:=D.out.cell 0 rfl;have z1:=D.out.cell 1 rfl;have z2:=D.out.cell 2 rfl;have z3:=D.out.cell 3 rfl;clear D;go_wp2;refine bodyPost_ret (v:=.agg #[.string ⟨#[]⟩,.int .i64 2,.int .i64 0,.string (ba a)]) (by simp[results,Tryz.results156,go_sem,z0,z1,z2,z3]) rfl ?_;exact⟨Or.inl ⟨_,_,_,M.out,rfl,rfl,V.out⟩,Z.out⟩
   ·obtain⟨b',rfl,t0,t1,tB,tl⟩:=K;have M:=Hk (show Qe5 ts=.error er by rw[U.out,H];rfl);go_wp2;exact⟨rfl,Or.inr ⟨_,M.out,b',rfl,t0,t1,by first|omega|(simp at tB;omega),tl⟩,ab.out.then F⟩
  ·have aJ:((kindT ts:Int)==2)=false:=by simp;omega
   by_cases hm:Qar ts=[45]
   ·have U:=Hk (show Qe5 ts=(Qhh 1000000000 ts.tail).map fun x=>(([],1,-x.1,[]),x.2) by rw[Qe5,if_neg hk0,if_neg hk2,if_pos hm]);have HM:=Hk (Qcs [45] R ts _ H0.out (by simp));rw[if_pos hm,show(Qar ts==[45])=true by simp[hm]] at HM;clear hk0 hk2 hm;go_enter Tryz.func156,Tryz.ntmps156;go_wp2_with (go_at_call 114;fail);refine HM.out.mono ?_;rintro e w2 ⟨rfl,O,N⟩;have H2:=Hk O;have B2:=Hk (ab.out.then N);have X2:=Hk (X0.out.but N (by omega));have ap:=N.size;simp only[World.size_alloc] at ap;clear O N;go_wp2_with (go_at_call 116;fail);refine(QgX 1000000000 R ts.tail _ H2.out).mono ?_;rintro e w3 ⟨⟨a,ts',v,H,rfl,hv,I⟩|⟨er,H,K⟩,F⟩
    ·unfold encI at hv;subst hv;have aI:=Qpx H2.out.good H;have aM:IntKind.i64.wrap (-a)= -a:=by rw[IntKind.wrap_i64];omega
     have M:=Hk (show Qe5 ts=.ok (([],1,-a,[]),ts') by rw[U.out,H];rfl);have y:=Hk (X2.out.but F (by omega));have H3:=Hk I;have B3:=Hk (B2.out.then F);clear H I F aI;have x0:=y.out.cell 0 rfl;have y0:=y.out.fz 0;have x1:=y.out.cell 1 rfl;have y1:=y.out.fz 1;have x2:=y.out.cell 2 rfl;have y2:=y.out.fz 2;have x3:=y.out.cell 3 rfl;have y3:=y.out.fz 3;have aq:=y.out.lt;have V:=Hk ((((H3.out.set (i:=0) (v:=.string ⟨#[]⟩) J).set (i:=1) (v:=.int .i64 1) J).set (i:=2) (v:=.int .i64 (-a)) J).set (i:=3) (v:=.string ⟨#[]⟩) J);have Z:=Hk ((((B3.out.put (Nat.le_refl _) (.string ⟨#[]⟩) (i:=0)).put (Nat.le_refl _) (.int .i64 1) (i:=1)).put (Nat.le_refl _) (.int .i64 (-a)) (i:=2)).put (Nat.le_refl _) (.string ⟨#[]⟩) (i:=3));have D:=Hk ((((y.out.set 0 (.string ⟨#[]⟩)).set 1 (.int .i64 1)).set 2 (.int .i64 (-a))).set 3 (.string ⟨#[]⟩));have z0:=D.out.cell 0 rfl;have z1:=D.out.cell 1 rfl;have z2:=D.out.cell 2 rfl;have z3:=D.out.cell 3 rfl;clear D;go_wp2;refine bodyPost_ret (v:=.agg #[.string ⟨#[]⟩,.int .i64 1,.int .i64 (-a),.string ⟨#[]⟩]) (by simp[results,Tryz.results156,go_sem,z0,z1,z2,z3]) rfl ?_;exact⟨Or.inl ⟨_,_,_,M.out,rfl,rfl,V.out⟩,Z.out⟩
    ·obtain⟨b',rfl,t0,t1,tB,tl⟩:=K;have M:=Hk (show Qe5 ts=.error er by rw[U.out,H];rfl);go_wp2;exact⟨rfl,Or.inr ⟨_,M.out,b',rfl,t0,t1,by first|omega|(simp at tB;omega),tl⟩,B2.out.then F⟩
   ·have U:=Hk (show Qe5 ts=(Qhh 1000000000 ts).map fun x=>(([],1,x.1,[]),x.2) by rw[Qe5,if_neg hk0,if_neg hk2,if_neg hm]);have HM:=Hk (Qcs [45] R ts _ H0.out (by simp));rw[if_neg hm,show(Qar ts==[45])=false by simp[hm]] at HM;clear hk0 hk2 hm;go_enter Tryz.func156,Tryz.ntmps156;go_wp2_with (go_at_call 114;fail);refine HM.out.mono ?_;rintro e w2 ⟨rfl,O,N⟩;have H2:=Hk O;have B2:=Hk (ab.out.then N);have X2:=Hk (X0.out.but N (by omega));have ap:=N.size;simp only[World.size_alloc] at ap;clear O N;go_wp2_with (go_at_call 116;fail);refine(QgX 1000000000 R ts _ H2.out).mono ?_;rintro e w3 ⟨⟨a,ts',v,H,rfl,hv,I⟩|⟨er,H,K⟩,F⟩
    ·unfold encI at hv;subst hv;have M:=Hk (show Qe5 ts=.ok (([],1,a,[]),ts') by rw[U.out,H];rfl);have y:=Hk (X2.out.but F (by omega));have H3:=Hk I;have B3:=Hk (B2.out.then F);clear H I F;have x0:=y.out.cell 0 rfl;have y0:=y.out.fz 0;have x1:=y.out.cell 1 rfl;have y1:=y.out.fz 1;have x2:=y.out.cell 2 rfl;have y2:=y.out.fz 2;have x3:=y.out.cell 3 rfl;have y3:=y.out.fz 3;have aq:=y.out.lt;have V:=Hk ((((H3.out.set (i:=0) (v:=.string ⟨#[]⟩) J).set (i:=1) (v:=.int .i64 1) J).set (i:=2) (v:=.int .i64 a) J).set (i:=3) (v:=.string ⟨#[]⟩) J);have Z:=Hk ((((B3.out.put (Nat.le_refl _) (.string ⟨#[]⟩) (i:=0)).put (Nat.le_refl _) (.int .i64 1) (i:=1)).put (Nat.le_refl _) (.int .i64 a) (i:=2)).put (Nat.le_refl _) (.string ⟨#[]⟩) (i:=3));have D:=Hk ((((y.out.set 0 (.string ⟨#[]⟩)).set 1 (.int .i64 1)).set 2 (.int .i64 a)).set 3 (.string ⟨#[]⟩));have z0:=D.out.cell 0 rfl;have z1:=D.out.cell 1 rfl;have z2:=D.out.cell 2 rfl;have z3:=D.out.cell 3 rfl;clear D;go_wp2;refine bodyPost_ret (v:=.agg #[.string ⟨#[]⟩,.int .i64 1,.int .i64 a,.string ⟨#[]⟩]) (by simp[results,Tryz.results156,go_sem,z0,z1,z2,z3]) rfl ?_;exact⟨Or.inl ⟨_,_,_,M.out,rfl,rfl,V.out⟩,Z.out⟩
    ·obtain⟨b',rfl,t0,t1,tB,tl⟩:=K;have M:=Hk (show Qe5 ts=.error er by rw[U.out,H];rfl);go_wp2;exact⟨rfl,Or.inr ⟨_,M.out,b',rfl,t0,t1,by first|omega|(simp at tB;omega),tl⟩,B2.out.then F⟩
end Go.Proofs.YtjlgejennghhlaaGreatDoor.Fw
