import Derived.Shelf.GgSortFunc.Small
import Derived.Test.YtofidnijfnhpaaaGreatDoorQ01
import Derived.Test.YtofidnijfnhpaaaGreatDoorQ29
import Derived.Test.YtofidnijfnhpaaaGreatDoorQ16
set_option linter.unusedSimpArgs false
set_option linter.unusedVariables false
set_option linter.unusedSectionVars false
set_option maxRecDepth 1000000
set_option maxHeartbeats 16000000
namespace Go.Proofs.YtofidnijfnhpaaaGreatDoor
namespace Ssf
open Go.Shelf Go.RowKit Go.Lib Go.Sort Stb
variable {α:Type} [Inhabited α]
theorem infoR:(Tryz.prog.info? 34).map (fun i=>i.desc)=some (.slice 57):=by kernel_rfl
theorem infoV:(Tryz.prog.info? 57).map (fun i=>(i.size,i.hasPointers,i.bytes))=some (1,true,24):=by kernel_rfl
theorem kindV (w:World):(Extern.Rtype.kind 57).run Tryz.prog w=.ok 23 w:=by kernel_rfl
theorem aggV0 (w:World):(isAgg 57).run Tryz.prog w=.ok false w:=by kernel_rfl
theorem find1:Tryz.prog.funcs.findIdx? (·.name== "internal/reflectlite"++ ".Swapper$"++toString 1)=some 105:=by kernel_rfl
theorem find2:Tryz.prog.funcs.findIdx? (·.name== "internal/reflectlite"++ ".Swapper$"++toString 2)=some 106:=by kernel_rfl
theorem find9:Tryz.prog.funcs.findIdx? (·.name== "internal/reflectlite"++ ".Swapper$"++toString 9)=some 113:=by kernel_rfl
theorem slice_of (i h:TypeInfo) (o:Tryz.prog.info? 34=some i) (y:i.desc=.slice 57) (z:Tryz.prog.info? 57=some h)
 (p:Option Addr) (n c:Nat) (f:Nat) (M:Tryz.prog.funcs.findIdx? (·.name== "internal/reflectlite"++ ".Swapper$"++toString (swapperK n h 23))=some f) (I:Fn) (E A:Array Value) (w:World) (R:World->Prop)
 (q:Calls Tryz.prog 84 #[.agg #[.func I E A,.func (.func f) #[] (sliceBound Tryz.prog 57 h 23 p n c)],.int .i64 n] ((w.alloc (.cells #[.slice p n c] 34)).alloc (.cells #[.pointer (some ⟨Tryz.prog.globals.size,34,none⟩),.pointer (some ⟨w.heap.size,0,none⟩),.int .u64 151] 131)) fun e j=>e=.returned (.tuple #[])/\R j):
 Calls Tryz.prog 57 #[.iface 34 (.slice p n c),.func I E A] w fun e j=>e=.returned (.tuple #[])/\R j:=by
 have J:Tryz.prog.packed 34=false:=by kernel_rfl
 have K:=run_valueOf_slice (P:=Tryz.prog) 34 57 i o y p n c w
 have D:=fun w=>run_swapper_slice (P:=Tryz.prog) 34 57 i h o y z 23 kindV p n c f M w
 have F:=fun a w ha=>run_valueLen_slice (P:=Tryz.prog) 34 57 i o y J a p n c w ha
 unfold sliceBound at q
 generalize (if swapperK n h 23<=2 then(#[]:Array Value) else#[.slice p n c,typeHandle Tryz.prog 57])=B at D q
 simp only[typeHandle] at K F
 generalize Tryz.prog.globals.size=GZ at*
 go_enter Tryz.func57,Tryz.ntmps57
 go_wp2
 rw[run_callFunc_extern Tryz.func82 (by kernel_rfl) (by kernel_rfl) (by kernel_rfl) (e:=fun args=>Extern.ReflectliteValue.unpack (args.getD 0 (.tuple #[]))) (by kernel_rfl),
  show Sem.run Tryz.prog ((fun args:Array Value=>Extern.ReflectliteValue.unpack (args.getD 0 (.tuple #[]))) #[.iface 34 (.slice p n c)]) w=_ from K]
 simp only[Result.andThen]
 rw[Oper.upon_value]
 go_wp2
 rw[run_callFunc_extern Tryz.func83 (by kernel_rfl) (by kernel_rfl) (by kernel_rfl) (e:=Extern.ReflectliteSwapper.swapper "internal/reflectlite" (Extern.ReflectliteValue.valueError "Swapper")) (by kernel_rfl),D]
 simp only[Result.andThen]
 rw[Oper.upon_value]
 go_wp2
 rw[run_callFunc_extern Tryz.func85 (by kernel_rfl) (by kernel_rfl) (by kernel_rfl) (e:=Extern.ReflectliteValue.method (Extern.ReflectliteValue.valueError "reflectlite.Value.Len" 0) Extern.ReflectliteValue.len) (by kernel_rfl),
  F _ _ (by simp)]
 simp only[Result.andThen]
 rw[Oper.upon_value]
 go_wp2_with (go_at_call 84;refine q.mono ?_;rintro e j ⟨rfl,N⟩)
 go_end0
 exact⟨rfl,N⟩
theorem holds_any (enc:α->Value) (w:World) (blk j n:Nat) (d0 o:Array α) (os:Array Obj) (hblk:blk<w.heap.size) (q:Holds enc w blk j d0) (h:o.size=d0.size):Holds enc (sortWorld enc w blk j n o os) blk j o:=SW.holds ⟨n,os,rfl⟩ hblk q h
theorem sliceStable_any (enc:α->Value) (h1:∀x,(enc x).oneCell'=true) (lt:α->α->Bool) (ord:Ord lt) (g:Nat) (A:Array Value) (eg:∀args w,(callFunc g args).run Tryz.prog w=.ok (.enter g args) w) (blk o c N:Nat) (z:List α) (w:World)
 (E:LessLays Tryz.prog g A enc lt blk o N w) (Z:Holds enc w blk o z.toArray) (hN:z.length=N) (hsz:N<=1000) (hblk:blk<w.heap.size):
 Calls Tryz.prog 57 #[.iface 34 (.slice (some ⟨blk,o,none⟩) N c),.func (.func g) #[] A] w fun e y=>e=.returned (.tuple #[])/\∃l,Sorted lt l/\Same lt z l/\SX enc w blk o w l.toArray y:=by
 obtain⟨i,I,hd⟩:=Option.map_eq_some_iff.1 infoR
 obtain⟨q,F,he⟩:=Option.map_eq_some_iff.1 infoV
 simp only[Prod.mk.injEq] at he
 obtain⟨z1,z2,z3⟩:=he
 have V:∀args W,(callFunc 113 args).run Tryz.prog W=((Extern.ReflectliteSwapper.swap false args).run Tryz.prog W).andThen fun v y=>.ok (.value v) y:=
  run_callFunc_extern Tryz.func113 (by kernel_rfl) (by kernel_rfl) (by kernel_rfl) (e:=Extern.ReflectliteSwapper.swap false) (by kernel_rfl)
 have B:∀f,Tryz.prog.funcs.findIdx? (·.name== "internal/reflectlite"++ ".Swapper$"++toString (swapperK N q 23))=some f->SwapNe Tryz.prog f (sliceBound Tryz.prog 57 q 23 (some ⟨blk,o,none⟩) N c) enc blk o N->
  Calls Tryz.prog 57 #[.iface 34 (.slice (some ⟨blk,o,none⟩) N c),.func (.func g) #[] A] w fun e y=>e=.returned (.tuple #[])/\∃l,Sorted lt l/\Same lt z l/\SX enc w blk o w l.toArray y:=by
  intro f hf K
  refine slice_of i q I hd F _ N c f hf (.func g) #[] A w _ ?_
  have D:Dat enc lt g A f (sliceBound Tryz.prog 57 q 23 (some ⟨blk,o,none⟩) N c) blk o N w:=⟨eg,E,K,⟨z.toArray,by simpa using hN,Z⟩,hblk,ord,by omega⟩
  refine(stable_f D z _ hN (((SW.start Z).alloc _).alloc _)).mono ?_
  rintro e y ⟨rfl,l,s1,s2,M⟩
  exact⟨rfl,l,s1,s2,M.1,((Kp.alloc _ _ _).trans (Kp.alloc _ _ _)).trans M.2⟩
 rcases Nat.lt_or_ge N 2 with h|h
 ·have U:∀f,SwapNe Tryz.prog f (sliceBound Tryz.prog 57 q 23 (some ⟨blk,o,none⟩) N c) enc blk o N:=fun f W O _ _ i j I hj hij=>by omega
  rcases Nat.eq_zero_or_pos N with J|J
  ·subst J
   exact B _ find1 (U _)
  ·obtain rfl:N=1:=by omega
   exact B _ find2 (U _)
 ·have T:swapperK N q 23=9:=by
   unfold swapperK
   rw[z2,z3]
   have a:(N==0)=false:=by simp;omega
   have b:(N==1)=false:=by simp;omega
   rw[a,b]
   rfl
  refine B 113 (by rw[T];exact find9) ?_
  have hB:sliceBound Tryz.prog 57 q 23 (some ⟨blk,o,none⟩) N c=#[.slice (some ⟨blk,o,none⟩) N c,typeHandle Tryz.prog 57]:=by
   unfold sliceBound;rw[T];rfl
  rw[hB]
  intro W O hW ab a b ha hb _
  exact swapSwaps_of_literal (P:=Tryz.prog) false 113 V 57 q F z1 aggV0 enc h1 blk o N c W O hW ab a b ha hb
end Ssf
end Go.Proofs.YtofidnijfnhpaaaGreatDoor
namespace Go.Proofs.YtofidnijfnhpaaaGreatDoor
open Go.RowKit
open Go.Sort (grow putRow putCells Holds)
theorem QjD (u v:Value) (w:World):Calls Tryz.prog 114 #[.agg #[u,v],.int .i64 0,.int .i64 0] w fun e w'=>e=.returned (.tuple #[])/\Below w.heap.size w w':=by
 have h:=Hk (Qab w (.cells #[u,v] 137))
 go_enter Tryz.func114,Tryz.ntmps114
 go_wp2
 go_loopg [6] 0 (fun g1 vi wr=>vi=.int .i64 1/\wr=w.alloc (.cells #[u,v] 137))
 case atStart=>exact⟨rfl,rfl⟩
 case round=>
  obtain⟨rfl,rfl⟩:=hrel
  go_wp2
  go_end0
  exact⟨rfl,h.out⟩
theorem QgI (u v:Value) (w:World):Calls Tryz.prog 84 #[.agg #[u,v],.int .i64 0] w fun e w'=>e=.returned (.tuple #[])/\Below w.heap.size w w':=by
 have o:=Hk (Qab w (.cells #[u,v] 137))
 go_enter Tryz.func84,Tryz.ntmps84
 go_wp2
 go_loopg [5,6] 0 (fun g1 va vb wr=>va=.int .i64 0/\vb=.int .i64 20/\wr=w.alloc (.cells #[u,v] 137))
 case atStart=>exact⟨rfl,rfl,rfl⟩
 case round=>
  obtain⟨rfl,rfl,rfl⟩:=hrel
  go_wp2_with (go_at_call 114;refine(QjD _ _ _).mono ?_;rintro e j ⟨rfl,h⟩)
  go_loopg [4] 0 (fun g1 va wr'=>va=.int .i64 20/\wr'=j)
  case atStart=>exact⟨rfl,rfl⟩
  case round=>
   obtain⟨rfl,rfl⟩:=hrel
   go_wp2
   go_end0
   exact⟨rfl,Qaa o.out h⟩
theorem QeK (p:Option Addr) (c:Nat) (q:Fn) (y o:Array Value) (w:World):Calls Tryz.prog 57 #[.iface 34 (.slice p 0 c),.func q y o] w fun e h=>e=.returned (.tuple #[])/\Below w.heap.size w h:=by
 obtain⟨i,z,D⟩:=Option.map_eq_some_iff.1 Ssf.infoR
 obtain⟨B,j,he⟩:=Option.map_eq_some_iff.1 Ssf.infoV
 refine Ssf.slice_of i B z D j p 0 c 105 Ssf.find1 q y o w (fun h=>Below w.heap.size w h) ?_
 refine(QgI _ _ _).mono ?_
 rintro e h ⟨rfl,A⟩
 exact⟨rfl,Qaa (((Below.refl _ _).alloc (Nat.le_refl _) _).alloc (by simp) _) A⟩
theorem QgJ {w:World} {u:Value} {r:List Vl} (h:Qbk w u r) (j:0<r.length):∃b o c,u=.slice (some ⟨b,o,none⟩) r.length c/\b<w.heap.size/\QaK w b o r/\∀x∈r,x.2.2.size<=maxLen:=by
 obtain⟨a,c,rfl,y,h⟩:=h
 rcases h with h|⟨b,o,rfl,z,q⟩
 ·rw[h] at j;simp at j
 ·exact⟨b,o,c,rfl,z,q,y⟩
def QiH (w:World) (v:Value) (rs:List (List Vl)) (B:Nat) (us:List Value):Prop:=∃a c,v=.slice a rs.length c/\(rs=[]\/∃g,a=some ⟨g,0,none⟩/\B<=g/\g<w.heap.size/\∀(j:Nat) (h:j<rs.length),∃u,w.cell? ⟨g,0+j,none⟩=some u/\u∈us/\Qbk w u rs[j])
theorem QiH.is {w:World} {v:Value} {rs:List (List Vl)} {B:Nat} {us:List Value} (h:QiH w v rs B us):QaC w v rs:=by
 obtain⟨a,c,e,h⟩:=h
 refine⟨a,c,e,?_⟩
 rcases h with h|⟨g,y,D,q,z⟩
 ·exact Or.inl h
 ·exact Or.inr ⟨g,0,y,q,fun j hj=>by obtain⟨u,o,-,A⟩:=z j hj;exact⟨u,o,A⟩⟩
theorem QiI (g A n ab ao ac I F m:Nat) (us:List Value) (rs:List (List Vl)) (z:List Nat) (B:Nat) (w:World) (M:rs.length=n+1) (ba:rs.length<=100) (aG:w.ownsRow B 57 1 (.slice (some ⟨g,0,none⟩) rs.length A) rs.length us)
 (aM:us.length=rs.length) (aB:∀(j:Nat) (h:j<us.length) (T:j<rs.length),Qbk w us[j] rs[j]/\∀b o k c,us[j]=.slice (some ⟨b,o,none⟩) k c->b≠g) (hl:∀r∈rs,r.length=m) (h1:1<=m) (h6:m<=100)
 (aY:I<w.heap.size) (aN:I≠g) (hp:w.cell? ⟨I,0,none⟩=some (.slice (some ⟨ab,ao,none⟩) z.length ac)) (aO:ab<w.heap.size) (aS:ab≠g) (D:QbJ w ab ao z) (aI:z.length<=100) (am:∀k∈z,k<m)
 (ar:F<w.heap.size) (aq:F≠g) (ho:w.cell? ⟨F,0,none⟩=some (.slice (some ⟨g,0,none⟩) rs.length A))
 (aJ:∀r∈rs,∀r'∈rs,∀k∈z,(vAt r k).1=(vAt r' k).1):
 Calls Tryz.prog 57 #[.iface 34 (.slice (some ⟨g,0,none⟩) rs.length A),.func (.func 58) #[] #[.pointer (some ⟨I,0,none⟩),.pointer (some ⟨F,0,none⟩)]] w fun e w'=>e=.returned (.tuple #[])/\QiH w' (.slice (some ⟨g,0,none⟩) rs.length A) (QaR z rs) g us/\w'.cell? ⟨F,0,none⟩=some (.slice (some ⟨g,0,none⟩) rs.length A)/\w.grownBy w' (some g):=by
 obtain⟨-,⟨aZ,-⟩|⟨g',a5,aH,au,bm,ad,bl,bk,bj,ap⟩⟩:=aG
 ·simp at aZ
 simp only[Value.slice.injEq,Option.some.injEq,Addr.mk.injEq] at au
 obtain⟨⟨rfl,-⟩,-,rfl⟩:=au
 have af:g<w.heap.size:=(Array.getElem?_eq_some_iff.1 ad).1
 have V:us.length=n+1:=by rw[aM,M]
 let enc:Fin (n+1)->Value:=fun i=>us[i.1]'(by rw[V];exact i.2)
 let row:Fin (n+1)->List Vl:=fun i=>rs[i.1]'(by rw[M];exact i.2)
 let lt:Fin (n+1)->Fin (n+1)->Bool:=fun i j=>decide (Qb2 z (row i) (row j)<0)
 have O:∀i:Fin (n+1),∃b o c,enc i=.slice (some ⟨b,o,none⟩) (row i).length c/\b<w.heap.size/\QaK w b o (row i)/\(row i).length=m/\b≠g/\∀x∈row i,x.2.2.size<=maxLen:=by
  intro i
  have hi:i.1<rs.length:=by rw[M];exact i.2
  have ae:(row i).length=m:=hl _ (List.getElem_mem hi)
  obtain⟨q1,q2⟩:=aB i.1 (by rw[V];exact i.2) hi
  obtain⟨b,o,c,e,aX,hv,hs⟩:=QgJ q1 (by have:rs[i.1].length=m:=ae;omega)
  exact⟨b,o,c,e,aX,hv,ae,q2 b o _ c e,hs⟩
 have U:(List.finRange (n+1)).length=rs.length:=by rw[List.length_finRange,M]
 have aU:(List.finRange (n+1)).map row=rs:=by
  refine List.ext_getElem (by simp[M]) fun k h1 h2=>?_
  simp[row]
 have hO:∀i,(enc i).oneCell'=true:=by
  intro i
  obtain⟨b,o,c,q1,-⟩:=O i
  rw[q1];rfl
 have ag:Holds enc w g 0 (List.finRange (n+1)).toArray:=by
  intro j Z
  have hj':j<rs.length:=by rw[<-U];simpa using Z
  refine⟨?_,by simp[World.frozen?,ad]⟩
  have h1:(aH.toList.take rs.length)[j]? =us[j]?:=by rw[Nat.mul_one] at ap;rw[ap]
  rw[List.getElem?_take_of_lt hj'] at h1
  simp only[World.cell?,ad,Nat.zero_add]
  simp only[Option.isSome_none,Bool.false_eq_true,if_false]
  rw[<-Array.getElem?_toList,h1,List.getElem?_eq_getElem (by rw[V];omega)]
  simp[enc,getElem!_pos,show j<n+1 by omega]
 have ho':Stb.Ord lt:=⟨fun a b h=>(Qgo z).asymm _ _ h,fun a b c h T=>(Qgo z).ntrans _ _ _ h T⟩
 have ah:Ssf.LessLays Tryz.prog 58 #[.pointer (some ⟨I,0,none⟩),.pointer (some ⟨F,0,none⟩)] enc lt g 0 rs.length w:=by
  intro q os E aQ i j hi Z
  have y:∀a:Addr,a.block≠g->a.block<w.heap.size->(sortWorld enc w g 0 q E os).cell? a=w.cell? a:=fun a h T=>QaU enc _ g q E os a h T
  have hsz:w.heap.size<=(sortWorld enc w g 0 q E os).heap.size:=by unfold sortWorld;simp
  have N:Holds enc (sortWorld enc w g 0 q E os) g 0 E:=Ssf.holds_any enc w g 0 q _ E os af ag (by simp[aQ,M])
  obtain⟨b,o,c,e1,J,e4,e5,K,e7⟩:=O E[i]!
  obtain⟨b',o',c',f1,f3,f4,f5,f6,f7⟩:=O E[j]!
  have ci:=(N i (by omega)).1
  have cj:=(N j (by omega)).1
  rw[e1] at ci
  rw[f1] at cj
  exact Qhq g 0 rs.length A i j b o c b' o' c' ab ao ac I F (row E[i]!) (row E[j]!) z (sortWorld enc w g 0 q E os) (by omega) (by omega) ((y _ aq ar).trans ho) hi Z (by omega) ci cj (by omega) (fun k D=>by obtain⟨z0,z1,z2⟩:=e4 k D;exact⟨(y _ K J).trans z0,(y _ K J).trans z1,(y _ K J).trans z2⟩) (by omega) (fun k D=>by obtain⟨z0,z1,z2⟩:=f4 k D;exact⟨(y _ f6 f3).trans z0,(y _ f6 f3).trans z1,(y _ f6 f3).trans z2⟩) (by omega) (fun k hk'=>(y _ aS aO).trans (D k hk')) (by omega) ((y _ aN aY).trans hp) (fun k D=>by rw[e5];exact am k D) (fun k D=>by rw[f5];exact am k D) aI (by omega) (by omega) (fun k=>by
   by_cases hkk:k∈z
   ·exact Or.inl (aJ _ (List.getElem_mem _) _ (List.getElem_mem _) k hkk)
   ·exact Or.inr hkk) e7 f7
 refine(Ssf.sliceStable_any enc hO lt ho' 58 #[.pointer (some ⟨I,0,none⟩),.pointer (some ⟨F,0,none⟩)] ?eg g 0 A rs.length (List.finRange (n+1)) w ah ag U (by omega) af).mono ?_
 case eg=>intro args W;first|rfl|kernel_rfl
 rintro e w' ⟨rfl,l,s1,s2,aW⟩
 have aA:l.map row=QaR z rs:=by
  refine Stb.sortL_is (Qgo z) (Stb.Sorted.map row s1) ?_
  have:=Stb.Same.map (Qgo z) row s2
  rw[aU] at this
  exact this
 have al:l.length=rs.length:=by rw[<-s2.len ho',U]
 obtain⟨⟨q,os,rfl⟩,bn⟩:=aW
 have aK:w.grownBy (sortWorld enc w g 0 q l.toArray os) (some g):=grown_srt (enc:=enc) (w:=w) (g:=g) (n:=q) (os:=os) l.toArray
 have N:Holds enc (sortWorld enc w g 0 q l.toArray os) g 0 l.toArray:=Ssf.holds_any enc w g 0 q _ l.toArray os af ag (by simp[al,M])
 refine⟨rfl,?_,?_,aK⟩
 ·rw[<-aA]
  refine⟨some ⟨g,0,none⟩,A,by rw[List.length_map,al],Or.inr ⟨g,rfl,Nat.le_refl _,by unfold sortWorld;simp;omega,?_⟩⟩
  intro j Z
  have av:j<l.length:=by simpa using Z
  refine⟨enc l[j],?_,List.getElem_mem _,?_⟩
  ·have:=(N j (by simpa using av)).1
   rw[getElem!_pos _ _ (by simpa using av)] at this
   simpa using this
  ·rw[List.getElem_map]
   obtain⟨b,o,c,e1,J,e4,e5,K,e7⟩:=O l[j]
   refine⟨some ⟨b,o,none⟩,c,e1,e7,Or.inr ⟨b,o,rfl,by unfold sortWorld;simp;omega,?_⟩⟩
   have y:∀a:Addr,a.block≠g->a.block<w.heap.size->(sortWorld enc w g 0 q l.toArray os).cell? a=w.cell? a:=fun a h T=>QaU enc _ g q l.toArray os a h T
   intro k D
   obtain⟨z0,z1,z2⟩:=e4 k D
   exact⟨(y _ K J).trans z0,(y _ K J).trans z1,(y _ K J).trans z2⟩
 ·exact(QaU enc _ g q l.toArray os ⟨F,0,none⟩ aq ar).trans ho
end Go.Proofs.YtofidnijfnhpaaaGreatDoor
namespace Go.Proofs.YtofidnijfnhpaaaGreatDoor
open Go.RowKit
def QfN (v:Value):Prop:=∀n c,v=.slice none n c->n=0/\c=0
theorem QjE {w:World} {b o:Nat} {rs:List (List Vl)} (h:Qdm w b o rs):∃us:List Value,us.length=rs.length/\(∀j u,us[j]? =some u->w.cell? ((⟨b,o,none⟩:Addr).add j)=some u)/\(∀(j:Nat) (y:j<us.length) (z:j<rs.length),Qbk w us[j] rs[j])/\∀u∈us,u.oneCell'=true:=by
 refine⟨List.ofFn fun i:Fin rs.length=>(h i.1 i.2).choose,by simp,?_,?_,?_⟩
 ·intro j u q
  have y:j<rs.length:=by have:=(List.getElem?_eq_some_iff.1 q).1;simpa using this
  rw[List.getElem?_eq_getElem (by simpa using y),List.getElem_ofFn] at q
  injection q with q
  have:=(h j y).choose_spec.1
  rw[<-q,Addr.add_lit]
  exact this
 ·intro j y z
  rw[List.getElem_ofFn]
  exact(h j z).choose_spec.2
 ·intro u q
  rw[List.mem_ofFn] at q
  obtain⟨i,rfl⟩:=q
  obtain⟨a,c,e,-⟩:=(h i.1 i.2).choose_spec.2
  rw[e];rfl
theorem QeL (v:Value) (rs:List (List Vl)) (E T ac m:Nat) (D:List Nat) (w0 w:World) (hr:QaC w0 v rs) (ag:Below w0.heap.size w0 w) (M:QfN v) (hl:∀r∈rs,r.length=m) (h1:1<=m) (h6:m<=100) (aV:rs.length<=100)
 (aP:E<w.heap.size) (hk:QbJ w E T D) (aN:D.length<=100) (ak:∀k∈D,k<m) (aj:∀r∈rs,∀r'∈rs,∀k∈D,(vAt r k).1=(vAt r' k).1):
 Calls Tryz.prog 32 #[v,.slice (some ⟨E,T,none⟩) D.length ac] w fun e w'=>∃v' us,e=.returned v'/\QiH w' v' (QaR D rs) w.heap.size us/\(∀u∈us,∃r,Qbk w0 u r)/\Below w.heap.size w w':=by
 have bg:=mkF
 obtain⟨i0,hi,az,av,aw⟩:=info_parts Tryz.infoRow
 obtain⟨a,c,rfl,ap⟩:=hr
 rcases Nat.eq_zero_or_pos rs.length with h0|h0
 ·have aW:rs=[]:=List.length_eq_zero_iff.1 h0
  subst aW
  have HF:Hid (∀(W:World) (a:Option Addr) (c:Nat),QiH W (.slice a 0 c) (QaR D []) w.heap.size []):=Hk fun W a c=>⟨a,c,rfl,Or.inl rfl⟩
  have J:=Hk (QcN (w.alloc (.cells #[.slice (some ⟨E,T,none⟩) D.length ac] 76)) 57 1 w.heap.size (by simp))
  rw[show(w.alloc (.cells #[.slice (some ⟨E,T,none⟩) D.length ac] 76)).heap.size=w.heap.size+1 by simp] at J
  clear hl ak aj hk ap
  show Calls _ _ #[.slice a 0 c,_] _ _
  cases a with
  |none=>
   obtain⟨-,rfl⟩:=M _ _ rfl
   clear M
   go_enter Tryz.func32,Tryz.ntmps32
   go_wp2_with (first|(at_builtin;refine wpList_append_own_none rfl _ _ 34 rfl w.heap.size 57 i0 1 Tryz.underlying34 hi _ _ _ rfl J.out rfl ?_)|(go_at_call 57;refine(QeK _ _ _ _ _ _).mono ?_;rintro e w2 ⟨rfl,V⟩;obtain⟨aY,aM⟩:=QbM V))
   go_ret
   refine⟨_,_,rfl,HF.out _ _ _,fun u K=>absurd K (by simp),?_⟩
   exact Qaa ((((Below.refl _ _).alloc (Nat.le_refl _) _).alloc (by simp) _).alloc (by simp;omega) _) V
  |some p=>
   clear M
   go_enter Tryz.func32,Tryz.ntmps32
   go_wp2_with (at_builtin;refine wpList_append_own _ rfl _ _ 34 rfl w.heap.size 57 i0 (.slice none 0 0) 1 24 Tryz.underlying34 hi az av aw rfl (by decide) _ _ _ rfl J.out p 0 c [] rfl rfl (fun j u h=>by simp at h) (fun u h=>by simp at h) ?c3 ?c4 ?c5 ?_)
   case c3=>unfold maxLen;omega
   case c4=>omega
   case c5=>simp;omega
   intro v' Z z A _
   have ai:Below w.heap.size w Z:=(((Below.refl _ _).alloc (Nat.le_refl _) _).alloc (by simp) _).grown A (by simp;omega) (fun q hq=>by simp[Value.ownBlock] at hq;omega)
   obtain⟨a',c',rfl⟩:=Qae z
   have ah:=Hk ai
   clear z A ai
   go_wp2_with (go_at_call 57;refine(QeK _ _ _ _ _ _).mono ?_;rintro e w2 ⟨rfl,V⟩;obtain⟨aY,aM⟩:=QbM V)
   go_ret
   refine⟨_,_,rfl,HF.out _ _ _,fun u K=>absurd K (by simp),?_⟩
   exact Qaa (Qad ah.out _) V
 ·obtain⟨b,o,rfl,ae,aq⟩:∃b o,a=some ⟨b,o,none⟩/\b<w0.heap.size/\Qdm w0 b o rs:=by
   rcases ap with h|h
   ·rw[h] at h0;simp at h0
   ·exact h
  have ai:b<w.heap.size:=Nat.lt_of_lt_of_le ae ag.size
  obtain⟨us,ax,U,ad,ar⟩:=QjE aq
  have af:∀j u,us[j]? =some u->w.cell? ((⟨b,o,none⟩:Addr).add j)=some u:=fun j u K=>by
   have:=U j u K
   rw[Addr.add_lit] at this⊢
   exact cK ag ae this
  have aA:∀(j:Nat) (O:j<us.length) (F:j<rs.length),Qbk w us[j] rs[j]:=fun j O F=>(ad j O F).below ag
  have aQ:=Hk (show∀u∈us,∃r,Qbk w0 u r from fun u K=>by
   obtain⟨j,O,rfl⟩:=List.getElem_of_mem K
   exact⟨_,ad j O (by omega)⟩)
  clear aq U ad ae ag
  obtain⟨n,hn⟩:∃n,rs.length=n+1:=⟨rs.length-1,by omega⟩
  have J:=Hk (QcN (w.alloc (.cells #[.slice (some ⟨E,T,none⟩) D.length ac] 76)) 57 1 (w.heap.size+1) (by simp))
  rw[show(w.alloc (.cells #[.slice (some ⟨E,T,none⟩) D.length ac] 76)).heap.size=w.heap.size+1 by simp] at J
  have aX:=Hk (fun W (h:Below w.heap.size w W) j u (K:us[j]? =some u)=>show W.cell? ((⟨b,o,none⟩:Addr).add j)=some u by
   have:=af j u K
   rw[Addr.add_lit] at this⊢
   exact cK h ai this)
  have H3:=Hk (show∀o1 o2,Below w.heap.size w ((w.alloc o1).alloc o2) from fun o1 o2=>((Below.refl _ _).alloc (Nat.le_refl _) _).alloc (by simp) _)
  have y:=Hk (Ai ax (Ai aA (Ai hl (Ai hk (Ai ak (Ai aj hn))))))
  have aD:=Hk ar
  clear ap M af ax aA ar hl hk ak aj hn
  obtain⟨N,hN⟩:∃N,N=rs.length:=⟨_,rfl⟩
  have HN:=Hk hN
  rw[<-hN] at aV h0⊢
  clear hN
  go_enter Tryz.func32,Tryz.ntmps32
  go_wp2_with (at_builtin;refine wpList_append_own _ rfl _ _ 34 rfl (w.heap.size+1) 57 i0 (.slice none 0 0) 1 24 Tryz.underlying34 hi az av aw rfl (by decide) _ _ _ rfl J.out ⟨b,o,none⟩ N c us rfl ?c0 (aX.out _ (H3.out _ _)) aD.out ?c3 ?c4 ?c5 ?_)
  case c0=>rw[y.out.1,HN.out];simp
  case c3=>unfold maxLen;omega
  case c4=>omega
  case c5=>simp
  intro v' Z z A _
  have B:Below w.heap.size w Z:=(H3.out _ _).grown A (by simp;omega) (fun q hq=>by simp[Value.ownBlock] at hq;omega)
  obtain⟨g,I,rfl,ay,aR⟩:∃g I,v'=.slice (some ⟨g,0,none⟩) N I/\w.heap.size+1<=g/\g<Z.heap.size:=by
   have aU:=fun q hq=>z.lt q hq
   obtain⟨-,⟨-,bf⟩|⟨g,I,be,rfl,ay,-⟩⟩:=z
   ·omega
   ·exact⟨g,I,rfl,ay,(aU g rfl).2⟩
  have c0:Z.cell? ⟨w.heap.size,0,none⟩=some (.slice (some ⟨E,T,none⟩) D.length ac):=A.cell (a:=⟨w.heap.size,0,none⟩) (by simp) (by simp[Value.ownBlock])
  have aJ:w.heap.size≠g:=by omega
  have bd:=B.size
  have hC:=QiI g I n E T ac w.heap.size Z.heap.size m us rs D (w.heap.size+1) (Z.alloc (.cells #[.slice (some ⟨g,0,none⟩) N I] 34)) y.out.2.2.2.2.2.2 (by rw[<-HN.out];omega) (by rw[<-HN.out];exact z.alloc _) y.out.1 (fun j O F=>⟨(y.out.2.1 j O F).below (Qad B _),fun b' o' k' c' e=>by
   have aS:=y.out.2.1 j O F
   obtain⟨b2,o2,c2,e2,bh,-,-⟩:=QgJ aS (by have:=y.out.2.2.1 _ (List.getElem_mem F);omega)
   rw[e2] at e
   simp only[Value.slice.injEq,Option.some.injEq,Addr.mk.injEq] at e
   omega⟩) y.out.2.2.1 h1 h6 (by simp;have:=B.size;omega) aJ (by rw[World.cell?_alloc_past _ _ _ (by exact Nat.lt_of_lt_of_le (Nat.lt_succ_self _) (by have:=aR;omega))];exact c0) (by simp;have:=B.size;omega) (by omega) (fun j O=>((Qad B _).cell (p:=⟨E,T+j,none⟩) aP).trans (y.out.2.2.2.1 j O)) aN y.out.2.2.2.2.1 (by simp) (by omega) (by simp[HN.out]) y.out.2.2.2.2.2.1
  rw[<-HN.out] at hC
  have HC:=Hk hC
  have ah:=Hk B
  clear hC A z B
  go_wp2_with (go_at_call 57;refine HC.out.mono ?_;rintro e w5 ⟨rfl,aT,a6,aO⟩)
  go_ret
  refine⟨_,_,rfl,?_,aQ.out,?_⟩
  ·obtain⟨a,c,e,h⟩:=aT
   refine⟨a,c,e,h.imp id fun⟨g',h1,h2,h3⟩=>⟨g',h1,by omega,h3⟩⟩
  exact(Qad ah.out _).grown aO (by simp;have:=ah.out.size;omega) (fun q hq=>by cases hq;omega)
theorem QfO (v:Value) (cs:List Cl) (j:ByteArray) (w:World) (h:Qav w v cs) (z:cs.length<=100):
 Calls Tryz.prog 19 #[v,.string j] w fun e w'=>e=.returned (.int .i64 (Qaq cs j.data.toList))/\Below w.heap.size w w':=by
 obtain⟨a,c,rfl,-,-,h⟩:=h
 rcases h with h|⟨b,o,rfl,y,q⟩
 ·subst h
  show Calls _ _ #[.slice a 0 c,_] _ _
  go_enter Tryz.func19,Tryz.ntmps19
  go_wp2
  go_loopw [9] (fun i wr=>i=.int .i64 0/\wr=w) (fun _ _=>0)
  case atStart=>exact⟨rfl,rfl⟩
  case round=>
   obtain⟨rfl,rfl⟩:=hrel
   go_wp2
   go_ret
   exact⟨rfl,Below.refl _ _⟩
 ·exact Qdw b o cs.length c cs j w rfl z y q
theorem Qhr {cs:List Cl} {j:List UInt8} {k:Nat} (h:Qak cs j=some k):(cs[k]?.getD (⟨#[]⟩,0)).1.data.toList=j:=by
 have o:=Qaj h
 rw[List.getElem?_eq_getElem o]
 unfold Qak at h
 rw[List.findIdx?_eq_some_iff_getElem] at h
 obtain⟨y,q,-⟩:=h
 simpa using q
theorem QiJ (c:Cl) (r:List Cl) (j:List UInt8):Qak (c::r) j=none↔(c.1.data.toList==j)=false/\Qak r j=none:=by
 unfold Qak
 rw[List.findIdx?_cons]
 cases h:(c.1.data.toList==j)<;>simp[h]
theorem QgK {cs:List Cl} (j:List UInt8):∀(l:List ByteArray),(∀s∈l,∃k,Qak cs s.data.toList=some k)->(Qak (QaT (Qag cs l) cs) j=none↔inS l j=false)
 |[],_=>by simp[Qag,QaT,Qak,inS]
 |s::l,h=>by
  obtain⟨k,o⟩:=h s (by simp)
  have q:=QgK j l (fun x hx=>h x (by simp[hx]))
  show Qak ((cs[(Qak cs s.data.toList).getD 0]?.getD (⟨#[]⟩,0))::QaT (Qag cs l) cs) j=none↔_
  rw[QiJ,q,o]
  show((cs[k]?.getD (⟨#[]⟩,0)).1.data.toList==j)=false/\_↔_
  rw[Qhr o]
  unfold inS
  rw[List.any_cons,Bool.or_eq_false_iff]
theorem QgL (cs:List Cl) (l:List ByteArray) (s:ByteArray) (k:Nat) (h:Qak cs s.data.toList=some k):Qag cs (l++[s])=Qag cs l++[k]:=by
 simp[Qag,h]
theorem QfP (cs:List Cl) (j:List Nat) (k:Nat) (h:k<cs.length):Qap (QaT j cs)++[.string cs[k].1,.int .i64 cs[k].2]=Qap (QaT (j++[k]) cs):=by
 unfold QaT Qap
 rw[List.map_append,List.flatMap_append]
 simp[List.getElem?_eq_getElem h]
theorem QeM (h:List Nat) (cs:List Cl):(QaT h cs).length=h.length:=by simp[QaT]
def Qdh (code:Int) (cs:List Cl) (ss:List ByteArray):List Cl:=if code=4 then cs else QaT (Qag cs ss) cs
def QcF (e:Ending) (w':World) (B:Nat) (no:Int) (cs:List Cl):Prop:=(no≠0/\e=.returned (.tuple #[.slice none 0 0,.int .i64 no]))\/(no=0/\∃g u,e=.returned (.tuple #[.slice (some ⟨g,0,none⟩) 1 1,.int .i64 0])/\B<=g/\g<w'.heap.size/\w'.cell? ⟨g,0,none⟩=some u/\Qav w' u cs)
theorem Qfl (b o n c:Nat) (cs:List Cl) (ss:List ByteArray) (j:Jb) (w:World) (N:j.code=3\/j.code=4) (aW:QaX w j.cols ss) (hn:cs.length=n) (aS:n<=100) (bj:n<=c) (hb:b<w.heap.size) (hc:Qas w b o cs) (hsz:∀x∈cs,x.1.size<=maxLen) (aP:ss.length<=100):
 Calls Tryz.prog 23 #[.agg j.cells,.slice (some ⟨b,o,none⟩) n c] w fun e w'=>QcF e w' w.heap.size (QaB cs ss) (Qdh j.code cs ss)/\Below w.heap.size w w':=by
 obtain⟨i0,hi,aY,aH,aK⟩:=info_parts Tryz.infoCol
 obtain⟨sa,sc,ah,-,-,aj⟩:=aW
 have HI:=Hk (fun W=>Qcq (ss.length:Int) 1 6 W)
 by_cases hlen:ss.length=0\/6<ss.length
 ·have HE:=Hk (show QaB cs ss=1 by unfold QaB;rw[if_pos hlen])
  rw[show(decide (1<=(ss.length:Int))&&decide ((ss.length:Int)<=6))=false by
   rw[Bool.and_eq_false_iff]
   rcases hlen with h|h
   ·left;exact decide_eq_false (by omega)
   ·right;exact decide_eq_false (by omega)] at HI
  generalize ss.length=m at*
  clear hlen aj hn hc hsz
  unfold Jb.cells
  rw[ah]
  go_enter Tryz.func23,Tryz.ntmps23
  go_wp2_with (go_at_call 17;refine(HI.out _).mono ?_;rintro e O ⟨rfl,A⟩;subst A)
  go_ret2
  exact⟨Or.inl ⟨by rw[HE.out];decide,by rw[HE.out];rfl⟩,Qab _ _⟩
 ·have HE:=Hk (show QaB cs ss=Qf7 cs [] ss by unfold QaB;rw[if_neg hlen])
  rw[show(decide (1<=(ss.length:Int))&&decide ((ss.length:Int)<=6))=true by
   rw[decide_eq_true (by omega),decide_eq_true (by omega)];rfl] at HI
  obtain⟨V,no,rfl,aN,ay⟩:∃V no,sa=some ⟨V,no,none⟩/\V<w.heap.size/\QbO w V no ss:=by
   rcases aj with h|h
   ·rw[h] at hlen;simp at hlen
   ·exact h
  obtain⟨m,hm⟩:∃m,ss.length=m:=⟨_,rfl⟩
  rw[hm] at HI hlen aP
  have bc:1<=m:=by omega
  have HM:=Hk hm
  have K:=Hk (Ai hn (Ai hc (Ai hsz (Ai ay N))))
  have aw:=Hk (fun W (h:Below w.heap.size w W) nm=>Qdw b o n c cs nm W hn aS (by have:=h.size;omega) (hc.below h hb))
  have hjc':j.cols=.slice (some ⟨V,no,none⟩) m sc:=by rw[ah,hm]
  have ao:∀q,(w.alloc (.cells j.cells 28)).cell? ⟨w.heap.size,q,none⟩=j.cells[q]?:=fun q=>by simp
  unfold Jb.cells
  rw[hjc']
  clear hn hc hsz ay ah hjc' aj hlen ao
  obtain⟨cd,ag⟩:∃q,j.code=q:=⟨_,rfl⟩
  have bh:=Hk ag
  rw[ag] at N⊢
  clear ag
  go_enter Tryz.func23,Tryz.ntmps23
  go_wp2_with (go_at_call 17;refine(HI.out _).mono ?_;rintro e O ⟨rfl,A⟩;subst A)
  obtain⟨O,A⟩:∃q,q=w.alloc (.cells #[.int .i64 j.at_,.int .i64 cd,j.outs,j.ins,.slice (some ⟨V,no,none⟩) m sc,.string j.op,.string j.left.1,.int .i64 j.left.2.1,.int .i64 j.left.2.2.1,.string j.left.2.2.2,.string j.right.1,.int .i64 j.right.2.1,.int .i64 j.right.2.2.1,.string j.right.2.2.2,.int .i64 j.retry] 28):=⟨_,rfl⟩
  rw[<-A]
  have aI:=Hk (show Below w.heap.size w O by rw[A];exact Qab _ _)
  have hz1':O.heap.size=w.heap.size+1:=by rw[A];simp
  have ao:=Hk (show O.cell? ⟨w.heap.size,1,none⟩=some (.int .i64 cd) by rw[A];simp)
  clear A
  go_loopw [6,17] (fun l i wr=>∃k:Nat,k<=m/\i=.int .i64 k/\wr.ownsRow (w.heap.size+1) 56 2 l k (Qap (QaT (Qag cs (ss.take k)) cs))/\Qf7 cs [] ss=Qf7 cs (ss.take k) (ss.drop k)/\(∀s∈ss.take k,∃q,Qak cs s.data.toList=some q)/\Below O.heap.size O wr) (fun _ i _=>m-(intOf i).toNat)
  case atStart=>exact⟨0,Nat.zero_le _,rfl,World.ownsRow_nil _ _ _ _,rfl,by simp,Below.refl _ _⟩
  case round=>
   obtain⟨k,hk,rfl,z,B,F,D⟩:=hrel
   obtain⟨la,lc,rfl⟩:=Qae z
   have E:=Hk (Qaa aI.out D)
   have bi:=D.size
   have t1:=cK D (by omega) ao.out
   have HO:=Hk (Ai z (Ai B (Ai F D)))
   by_cases hlt:k<m
   ·have af:k<ss.length:=by have:=HM.out;omega
    have d0:=(E.out.cell (p:=⟨V,no+k,none⟩) aN).trans (K.out.2.2.2.1 k af)
    have ai:=Hk (Qgj cs ss k af)
    have aB:=Hk (List.take_succ_eq_append_getElem af)
    have ac:=Hk (QgK (cs:=cs) ss[k].data.toList (ss.take k) F)
    generalize ss[k]=s at*
    cases g1:Qak cs s.data.toList with
    |none=>
     have J:=Hk (show QaB cs ss=7 by rw[HE.out,B,ai.out,if_pos g1])
     have U:=Hk (show∀W,Below w.heap.size w W->_ from fun W h=>aw.out W h s)
     rw[QaM g1] at U
     clear z B F D g1
     go_wp2_with (go_at_call 19;refine(U.out _ E.out).mono ?_;rintro e w2 ⟨rfl,y⟩)
     go_ret2
     exact⟨Or.inl ⟨by rw[J.out];decide,by rw[J.out];rfl⟩,Qaa E.out y⟩
    |some q=>
     have ap:=Qaj g1
     have U:=Hk (show∀W,Below w.heap.size w W->_ from fun W h=>aw.out W h s)
     rw[Qaw g1] at U
     have aa:=Hk (fun W (h:Below wr.heap.size wr W)=>QfO (.slice la k lc) (QaT (Qag cs (ss.take k)) cs) s W (Qbx (by
      have Z:(QaT (Qag cs (ss.take k)) cs).length=k:=by rw[QeM];simp[Qag];have:=HM.out;omega
      rw[Z]
      exact Qaf HO.out.1 h) (QdM K.out.2.2.1)) (by rw[QeM];simp[Qag];omega))
     have bf:(0:Int)<=(q:Int):=by omega
     have bg:(q:Int)<(n:Int):=by have:=K.out.1;omega
     cases g2:inS (ss.take k) s.data.toList with
     |true=>
      obtain⟨q2,ax⟩:∃q2,Qak (QaT (Qag cs (ss.take k)) cs) s.data.toList=some q2:=by
       cases e:Qak (QaT (Qag cs (ss.take k)) cs) s.data.toList with
       |none=>have:=ac.out.1 e;rw[g2] at this;cases this
       |some q2=>exact⟨q2,rfl⟩
      rw[Qaw ax] at aa
      have J:=Hk (show QaB cs ss=9 by rw[HE.out,B,ai.out,if_neg (by rw[g1];simp),if_pos g2])
      clear z B F D g1 g2 ax ac
      go_wp2_with (go_at_call 19;fail)
      refine(U.out _ E.out).mono ?_
      rintro e w2 ⟨rfl,y⟩
      go_wp2_with (go_at_call 19;fail)
      refine(aa.out _ y).mono ?_
      rintro e w3 ⟨rfl,I⟩
      go_wp2
      go_ret2
      exact⟨Or.inl ⟨by rw[J.out];decide,by rw[J.out];rfl⟩,Qaa (Qaa E.out y) I⟩
     |false=>
      rw[QaM (ac.out.2 g2)] at aa
      have HG:=Hk (show Qf7 cs [] ss=Qf7 cs (ss.take (k+1)) (ss.drop (k+1)) by rw[B,ai.out,if_neg (by rw[g1];simp),if_neg (by rw[g2];decide)])
      have aX:=Hk (show∀x∈ss.take (k+1),∃q,Qak cs x.data.toList=some q by
       rw[aB.out]
       intro x hx
       rcases List.mem_append.1 hx with hx|hx
       ·exact F x hx
       ·simp at hx;subst hx;exact⟨q,g1⟩)
      have HT:=Hk (show Qap (QaT (Qag cs (ss.take k)) cs)++[.string cs[q].1,.int .i64 cs[q].2]=Qap (QaT (Qag cs (ss.take (k+1))) cs) by
       rw[aB.out,QgL cs _ s q g1,QfP cs _ q ap])
      have aZ:=Hk (show∀W,Below w.heap.size w W->W.cell? ⟨b,o+q*2,none⟩=some (.string cs[q].1)/\W.cell? ⟨b,o+q*2+1,none⟩=some (.int .i64 cs[q].2) from fun W h=>⟨(h.cell (p:=⟨b,o+q*2,none⟩) hb).trans (K.out.2.1 q ap).1,(h.cell (p:=⟨b,o+q*2+1,none⟩) hb).trans (K.out.2.1 q ap).2⟩)
      generalize cs[q]=x at*
      clear z B F D g1 g2 ac
      go_wp2_with (go_at_call 19;fail)
      refine(U.out _ E.out).mono ?_
      rintro e w2 ⟨rfl,y⟩
      go_wp2_with (go_at_call 19;fail)
      refine(aa.out _ y).mono ?_
      rintro e w3 ⟨rfl,I⟩
      have az:=Hk (Qaa (Qaa E.out y) I)
      go_wp2_with (go_at_call 19;fail)
      refine(U.out _ az.out).mono ?_
      rintro e w4 ⟨rfl,T⟩
      have aQ:=Hk (Qaa az.out T)
      obtain⟨x0,x1⟩:=aZ.out _ aQ.out
      have aC:=Qaf (Qaf (Qaf HO.out.1 y) I) T
      have aO:=Hk (Qaa (Qaa (Qaa HO.out.2.2.2 y) I) T)
      have be:=y.size
      have bk:=I.size
      have bd:=T.size
      have aA:=Hk aC
      clear y I T aC
      go_wp2_with (at_builtin;refine wpList_append_own _ rfl _ _ 33 rfl (w.heap.size+1) 56 i0 (.agg #[.string ⟨#[]⟩,.int .i64 0]) 2 24 Tryz.underlying33 hi aY aH aK rfl (by decide) _ _ _ rfl (aA.out.alloc _) ⟨w4.heap.size,0,none⟩ 1 1 [.string x.1,.int .i64 x.2] rfl rfl (Qjg _ _ _ _ _ rfl) (QmE _ _) ?c3 ?c4 ?c5 ?_)
      case c3=>unfold maxLen;omega
      case c4=>omega
      case c5=>simp;omega
      intro v' w5 M ab _
      have al:Below O.heap.size O w5:=(aO.out.alloc (by omega) _).grown ab (by simp;omega) (fun q hq=>by have:=(aA.out.lt q hq).1;omega)
      rw[HT.out] at M
      have J:=Hk (Ai M al)
      clear M ab al
      go_wp2
      go_roundw
      case rel=>exact⟨k+1,by omega,by go_num,J.out.1,HG.out,aX.out,J.out.2⟩
      case measure=>simp[intOf];omega
   ·have aM:k=m:=by omega
    subst aM
    have J:=Hk (show QaB cs ss=0 by rw[HE.out,B,List.drop_eq_nil_of_le (by have:=HM.out;omega)];rfl)
    have Z:(QaT (Qag cs ss) cs).length=k:=by rw[QeM];simp[Qag];exact HM.out
    rw[List.take_of_length_le (by have:=HM.out;omega)] at z
    have aR:=Hk (Qbx (by rw[Z];exact z) (QdM K.out.2.2.1))
    have aV:=Hk (show Qav wr (.slice (some ⟨b,o,none⟩) n c) cs from⟨some ⟨b,o,none⟩,c,by rw[K.out.1],by have:=K.out.1;omega,K.out.2.2.1,Or.inr ⟨b,o,rfl,by have:=E.out.size;omega,K.out.2.1.below E.out hb⟩⟩)
    clear z B F D Z
    rcases N with rfl|rfl
    ·go_wp2
     go_ret2
     exact⟨Or.inr ⟨J.out,wr.heap.size,.slice la k lc,rfl,by omega,by simp,by simp,by rw[Qdh,if_neg (by decide)];exact aR.out.below (Qab _ _)⟩,Qad E.out _⟩
    ·go_wp2
     go_ret2
     exact⟨Or.inr ⟨J.out,wr.heap.size,.slice (some ⟨b,o,none⟩) n c,rfl,by omega,by simp,by simp,by rw[Qdh,if_pos rfl];exact aV.out.below (Qab _ _)⟩,Qad E.out _⟩
end Go.Proofs.YtofidnijfnhpaaaGreatDoor
