/- Which columns any job makes of any tables, and what it makes of them, is the document's: foremanlaw.OpsDo returns true at every job and every list of tables, whatever memory and schedule, and its arguments read as they did. Its conditions: the listed package-level variables hold what the program's text lays; all others hold whatever their types allow. -/
import Derived.Deep.SlicePairs
import Derived.Deep.Strs
import Derived.Lib.SmallJoins
import Derived.Test.YtofidnijfnhpaaaGreatDoorCards
import Derived.Test.YtofidnijfnhpaaaGreatDoorTie
import Derived.Test.YtofidnijfnhpaaaGreatDoorRows
import Derived.Shelf.Vars
import Derived.ProofKit
import Derived.OpenShut
import Derived.Lib.LaidTab
import Derived.Lib.LaidU8
import Derived.Lay
import Derived.LaidLaws
import Derived.LaidHandle
import Derived.Stop.Joined
import Derived.Deep.DeepHandedRow
import Derived.Test.YtofidnijfnhpaaaGreatDoorQ01
import Derived.Test.YtofidnijfnhpaaaGreatDoorQ53
set_option linter.unusedSimpArgs false
set_option linter.unusedVariables false
set_option linter.unusedSectionVars false
set_option maxRecDepth 1000000
set_option maxHeartbeats 16000000
namespace Go.Proofs.YtofidnijfnhpaaaGreatDoor
open Go.ChangeShapes Go.WideShapes Go.ChangeAt Go.RowKit Go.Joins Go.Deep
theorem Qcv {W:World} {a:Addr} {v:Value} (h:W.cell? (a.add 0)=some v):∃b o,a=⟨b,o,none⟩:=by
 obtain⟨b,o,s⟩:=a
 have j:s=none:=by simpa [Addr.add] using World.cell?_spot h
 exact⟨b,o,by rw[j]⟩
theorem Qkh {H:Type} {enc:TypeId×Value->H} {W:World} {n:Nat} {v:Value} {x:DataW H×List MemPlace} (h:DataW.trod enc Tryz.prog W 0 (fun _=>true) true n 33 [v]=some x):∃cs,Qav W v cs:=by
 rcases open_slice_pairs Tryz.underlying33 Tryz.underlying56 (by kernel_rfl) rfl rfl (by kernel_rfl) (by kernel_rfl) h with ⟨B,-⟩|⟨a,len,z,m,k,V,M,D0,Z,P0,P1,B,-,T,hm,F,-,A⟩
 ·exact⟨[],none,0,by simpa using B,Nat.le_refl _,by simp,Or.inl rfl⟩
 ·have hmm':m=z:=by simpa using F
  have E:∀i,i<len->∃q:ByteArray×Int,V i=.string q.1/\M i=.int .i64 q.2/\q.1.size<=maxLen:=by
   intro i J
   obtain⟨-,-,O,U⟩:=A i (by omega)
   obtain⟨s,K,-,w0⟩:=DataW.trod_string Tryz.underlying9 O
   obtain⟨k,N,-,w1⟩:=DataW.trod_int Tryz.underlying3 U
   exact⟨(s,k),by simpa using K,by simpa using N,w0⟩
  obtain⟨q,D⟩:=choose_lt E
  refine⟨(List.range len).map q,some a,z,by simpa using B,by simpa using T,?_,?_⟩
  ·intro y I
   rw[List.mem_map] at I
   obtain⟨i,J,rfl⟩:=I
   exact(D i (List.mem_range.1 J)).2.2
  ·by_cases hz:len=0
   ·exact Or.inl (by rw[hz];rfl)
   ·have c0:=(A 0 (by omega)).1
    rw[Nat.zero_mul] at c0
    obtain⟨b,o,rfl⟩:=Qcv c0
    refine Or.inr ⟨b,o,rfl,World.block_lt_of_cell? W _ c0,fun j hj=>?_⟩
    rw[List.length_map,List.length_range] at hj
    obtain⟨d0,d1,-,-⟩:=A j (by omega)
    rw[add_plain] at d0 d1
    simp only[List.getElem_map,List.getElem_range]
    exact⟨by rw[d0,(D j hj).1],by rw[Nat.add_assoc,d1,(D j hj).2.1]⟩
theorem Qki {H:Type} {enc:TypeId×Value->H} {W:World} {n:Nat} {v:Value} {x:DataW H×List MemPlace} (h:DataW.trod enc Tryz.prog W 0 (fun _=>true) true n 57 [v]=some x):∃vs,Qlg W v vs:=by
 rcases open_slice Tryz.underlying57 h with ⟨J,-⟩|⟨a,len,F,m,k,D,Pl,J,-,hl,hm,T,-,N⟩
 ·exact⟨[],none,0,by simpa using J,Nat.le_refl _,by simp,Or.inl rfl⟩
 ·have hmm':m=F:=by simpa using T
  have ce:Tryz.prog.cellsOf 24=3:=by kernel_rfl
  have ac:Tryz.prog.cellsOf 9=1:=by kernel_rfl
  have V:Tryz.prog.cellsOf 3=1:=by kernel_rfl
  rw[ce] at N
  have M:∀i,i<len->∃q:Int×Int×ByteArray,W.cell? (a.add (i*3))=some (.int .i64 q.1)/\W.cell? (a.add (i*3+1))=some (.int .i64 q.2.1)/\W.cell? (a.add (i*3+2))=some (.string q.2.2)/\q.2.2.size<=maxLen:=by
   intro i hi
   obtain⟨Z,h1,h2⟩:=N i (by omega)
   obtain⟨_,I,z⟩:=World.cells?_some h1
   obtain⟨y0,y1,y2,n2,-,-,A,B,E⟩:=trod_struct3 Tryz.underlying24 h2
   match Z,I,z,A,B,E with
   |[v0,v1,v2],_,z,A,B,E=>
    simp only[ac,V] at A B E
    obtain⟨k0,O,-,-⟩:=DataW.trod_int Tryz.underlying3 A
    obtain⟨k1,e1,-,-⟩:=DataW.trod_int Tryz.underlying3 B
    obtain⟨s2,e2,-,w2⟩:=DataW.trod_string Tryz.underlying9 E
    simp at O e1 e2
    subst O e1 e2
    have d0:=z 0 (by omega)
    have d1:=z 1 (by omega)
    have d2:=z 2 (by omega)
    rw[add_add] at d0 d1 d2
    exact⟨(k0,k1,s2),by simpa using d0,by simpa using d1,by simpa using d2,w2⟩
  obtain⟨q,K⟩:=choose_lt M
  refine⟨(List.range len).map q,some a,F,by simpa using J,by simpa using hl,?_,?_⟩
  ·intro y U
   rw[List.mem_map] at U
   obtain⟨i,hi,rfl⟩:=U
   exact(K i (List.mem_range.1 hi)).2.2.2
  ·by_cases hz:len=0
   ·exact Or.inl (by rw[hz];rfl)
   ·have c0:=(K 0 (by omega)).1
    rw[Nat.zero_mul] at c0
    obtain⟨b,o,rfl⟩:=Qcv c0
    refine Or.inr ⟨b,o,rfl,World.block_lt_of_cell? W _ c0,fun j hj=>?_⟩
    rw[List.length_map,List.length_range] at hj
    obtain⟨d0,d1,d2,-⟩:=K j hj
    rw[add_plain] at d0 d1 d2
    simp only[List.getElem_map,List.getElem_range]
    exact⟨d0,by rw[Nat.add_assoc,d1],by rw[Nat.add_assoc,d2]⟩
theorem Qi5 {H:Type} {enc:TypeId×Value->H} {W:World} {n:Nat} {v:Value} {x:DataW H×List MemPlace} (h:DataW.trod enc Tryz.prog W 0 (fun _=>true) true n 34 [v]=some x):∃rs,QcS W v rs/\QfN v:=by
 rcases open_slice1 Tryz.underlying34 (by kernel_rfl) h with ⟨y,-⟩|⟨a,len,z,m,k,V,D,F,y,-,I,J,B,-,A⟩
 ·exact⟨[],⟨none,0,by simpa using y,Or.inl rfl⟩,fun n c e=>by simp at y;rw[y] at e;simp at e;exact⟨e.1.symm,e.2.symm⟩⟩
 ·have hmm':m=z:=by simpa using B
  obtain⟨q,E⟩:=choose_lt (n:=len) (p:=fun i r=>Qlg W (V i) r) (fun i hi=>Qki (A i (by omega)).2)
  refine⟨(List.range len).map q,⟨some a,z,by simpa using y,?_⟩,fun n c e=>by simp at y;rw[y] at e;simp at e⟩
  by_cases hz:len=0
  ·exact Or.inl (by rw[hz];rfl)
  ·have c0:=(A 0 (by omega)).1
   obtain⟨b,o,rfl⟩:=Qcv c0
   refine Or.inr ⟨b,o,rfl,World.block_lt_of_cell? W _ c0,fun j hj=>?_⟩
   rw[List.length_map,List.length_range] at hj
   have d:=(A j (by omega)).1
   rw[add_plain] at d
   simp only[List.getElem_map,List.getElem_range]
   exact⟨V j,d,E j hj⟩
theorem QeY {H:Type} {enc:TypeId×Value->H} {W:World} {n:Nat} {v:Value} {x:DataW H×List MemPlace} (h:DataW.trod enc Tryz.prog W 0 (fun _=>true) true n 22 [v]=some x):∃ss,QaX W v ss/\∀s∈ss,s.size<=maxLen:=by
 rcases open_strs Tryz.underlying22 Tryz.underlying9 (by kernel_rfl) h with ⟨A,-⟩|⟨a,len,q,m,F,A,-,I,J,B,-,z⟩
 ·exact⟨[],⟨none,0,by simpa using A,Nat.le_refl _,Nat.zero_le _,Or.inl rfl⟩,by simp⟩
 ·have hmm':m=q:=by simpa using B
  refine⟨(List.range len).map F,⟨some a,q,by simpa using A,by simpa using I,by simp;omega,?_⟩,?_⟩
  ·by_cases hz:len=0
   ·exact Or.inl (by rw[hz];rfl)
   ·have c0:=(z 0 (by omega)).1
    obtain⟨b,o,rfl⟩:=Qcv c0
    refine Or.inr ⟨b,o,rfl,World.block_lt_of_cell? W _ c0,fun j hj=>?_⟩
    rw[List.length_map,List.length_range] at hj
    have d0:=(z j (by omega)).1
    rw[add_plain] at d0
    simp only[List.getElem_map,List.getElem_range]
    exact d0
  ·intro y D
   rw[List.mem_map] at D
   obtain⟨i,E,rfl⟩:=D
   exact(z i (by have:=List.mem_range.1 E;omega)).2
theorem Qg1 {H:Type} {enc:TypeId×Value->H} {W:World} {n:Nat} {v:Value} {x:DataW H×List MemPlace} (h:DataW.trod enc Tryz.prog W 0 (fun _=>true) true n 22 [v]=some x):∃a l c,v=.slice a l c:=by
 obtain⟨ss,⟨a,c,e,-⟩,-⟩:=QeY h
 exact⟨a,_,c,e⟩
theorem Qkj:Tryz.prog.cellsOf 9=1:=by kernel_rfl
theorem Qlr:Tryz.prog.cellsOf 3=1:=by kernel_rfl
theorem Qmt:Tryz.prog.cellsOf 22=1:=by kernel_rfl
theorem Qmu:Tryz.prog.cellsOf 24=3:=by kernel_rfl
theorem Qmv:Tryz.prog.cellsOf 26=4:=by kernel_rfl
theorem Qii {H:Type} {enc:TypeId×Value->H} {W:World} {n:Nat} {a b c d:Value} {x:DataW H×List MemPlace} (h:DataW.trod enc Tryz.prog W 0 (fun _=>true) true n 26 [a,b,c,d]=some x):
 ∃q:Ag,a=.string q.1/\b=.int .i64 q.2.1/\c=.int .i64 q.2.2.1/\d=.string q.2.2.2/\q.1.size<=maxLen/\q.2.2.2.size<=maxLen:=by
 obtain⟨N,K,M,-,-,A,E⟩:=trod_struct2 Tryz.underlying26 h
 simp only[Qkj,Qmu] at A E
 obtain⟨s,y,-,w0⟩:=DataW.trod_string Tryz.underlying9 A
 obtain⟨z0,z1,z2,O,-,-,z,D,B⟩:=trod_struct3 Tryz.underlying24 E
 simp only[Qkj,Qlr] at z D B
 obtain⟨I,F,-,-⟩:=DataW.trod_int Tryz.underlying3 z
 obtain⟨i1,o,-,-⟩:=DataW.trod_int Tryz.underlying3 D
 obtain⟨s2,j,-,J⟩:=DataW.trod_string Tryz.underlying9 B
 simp at y F o j
 exact⟨(s,I,i1,s2),y,F,o,j,w0,J⟩
theorem Ql1 {α:Type} {cs:Array α} (h:cs.size=15):∃c0 c1 c2 c3 c4 c5 c6 c7 c8 c9 c10 c11 c12 c13 c14,cs=#[c0,c1,c2,c3,c4,c5,c6,c7,c8,c9,c10,c11,c12,c13,c14]:=by
 obtain⟨l⟩:=cs
 match l,h with
 |[c0,c1,c2,c3,c4,c5,c6,c7,c8,c9,c10,c11,c12,c13,c14],_=>exact⟨c0,c1,c2,c3,c4,c5,c6,c7,c8,c9,c10,c11,c12,c13,c14,rfl⟩
theorem Qkk {H:Type} {enc:TypeId×Value->H} {W:World} {b0:Nat} {v:Value} {d:DataW H} {p:List MemPlace} (hv:Value.okWide Tryz.prog W .any b0 28 v) (h:DataW.Trod enc Tryz.prog W 0 (fun _=>true) true 28 v d p):
 ∃(j:Jb) (ss:List ByteArray),v=.agg j.cells/\QaX W j.cols ss/\(∀s∈ss,s.size<=maxLen)/\j.sized/\(∃a l c,j.outs=.slice a l c)/\∃a l c,j.ins=.slice a l c:=by
 obtain⟨cs,rfl,hsz⟩:=okWide_struct Tryz.underlying28 hv
 obtain⟨c0,c1,c2,c3,c4,c5,c6,c7,c8,c9,ac,A,aa,M,J,rfl⟩:=Ql1 (hsz.trans (by kernel_rfl))
 obtain⟨ak,hf⟩:=h
 obtain⟨xs,n,-,-,-,q,o⟩:=DataW.trod_struct Tryz.underlying28 hf
 match xs,q,o with
 |[x0,x1,x2,x3,x4,x5,x6,x7,x8],_,o=>
  have I:=o 0 _ rfl
  have h1:=o 1 _ rfl
  have E:=o 2 _ rfl
  have U:=o 3 _ rfl
  have B:=o 4 _ rfl
  have T:=o 5 _ rfl
  have D:=o 6 _ rfl
  have F:=o 7 _ rfl
  have V:=o 8 _ rfl
  simp only[Qkj,Qlr,Qmt,Qmv,Value.cells] at I h1 E U B T D F V
  obtain⟨i0,z,-,-⟩:=DataW.trod_int Tryz.underlying3 (show DataW.trod enc Tryz.prog W 0 _ true n 3 [c0]=some x0 from I)
  obtain⟨i1,N,-,-⟩:=DataW.trod_int Tryz.underlying3 (show DataW.trod enc Tryz.prog W 0 _ true n 3 [c1]=some x1 from h1)
  have l2:=Qg1 (show DataW.trod enc Tryz.prog W 0 _ true n 22 [c2]=some x2 from E)
  have l3:=Qg1 (show DataW.trod enc Tryz.prog W 0 _ true n 22 [c3]=some x3 from U)
  obtain⟨ss,O,K⟩:=QeY (show DataW.trod enc Tryz.prog W 0 _ true n 22 [c4]=some x4 from B)
  obtain⟨s5,y,-,w5⟩:=DataW.trod_string Tryz.underlying9 (show DataW.trod enc Tryz.prog W 0 _ true n 9 [c5]=some x5 from T)
  obtain⟨q6,a6,a7,a8,a9,v6,v9⟩:=Qii (show DataW.trod enc Tryz.prog W 0 _ true n 26 [c6,c7,c8,c9]=some x6 from D)
  obtain⟨q7,b6,b7,b8,b9,u6,u9⟩:=Qii (show DataW.trod enc Tryz.prog W 0 _ true n 26 [ac,A,aa,M]=some x7 from F)
  obtain⟨i8,Z,-,-⟩:=DataW.trod_int Tryz.underlying3 (show DataW.trod enc Tryz.prog W 0 _ true n 3 [J]=some x8 from V)
  simp at z N y Z
  subst z N y Z a6 a7 a8 a9 b6 b7 b8 b9
  exact⟨⟨i0,i1,c2,c3,c4,s5,q6,q7,i8⟩,ss,rfl,O,K,⟨w5,v6,u6,v9,u9⟩,l2,l3⟩
theorem Qkl {H:Type} {enc:TypeId×Value->H} {W:World} {n:Nat} {v:Value} {x:DataW H×List MemPlace} (h:DataW.trod enc Tryz.prog W 0 (fun _=>true) true n 29 [v]=some x):
 ∃va ts c,v=.slice va (List.length ts) c/\ts.length<=maxLen/\(ts=[]\/∃tb to_,va=some ⟨tb,to_,none⟩/\tb<W.heap.size/\Qf2 W tb to_ ts):=by
 rcases open_slice Tryz.underlying29 h with ⟨J,-⟩|⟨a,len,F,m,k,D,Pl,J,-,hl,hm,U,-,T⟩
 ·exact⟨none,[],0,by simpa using J,Nat.zero_le _,Or.inl rfl⟩
 ·have hmm':m=F:=by simpa using U
  have ce:Tryz.prog.cellsOf 36=2:=by kernel_rfl
  have cc:Tryz.prog.cellsOf 33=1:=by kernel_rfl
  have cr:Tryz.prog.cellsOf 34=1:=by kernel_rfl
  rw[ce] at T
  have N:∀i,i<len->∃q:Tb,∃A z,W.cell? (a.add (i*2))=some A/\W.cell? (a.add (i*2+1))=some z/\Qav W A q.1/\QcS W z q.2/\QfN z:=by
   intro i hi
   obtain⟨V,h1,h2⟩:=T i (by omega)
   obtain⟨_,I,y⟩:=World.cells?_some h1
   obtain⟨y0,y1,n2,-,-,B,E⟩:=trod_struct2 Tryz.underlying36 h2
   match V,I,y,B,E with
   |[v0,v1],_,y,B,E=>
    simp only[cc,cr] at B E
    obtain⟨cs,M⟩:=Qkh (show DataW.trod enc Tryz.prog W 0 _ true n2 33 [v0]=some y0 from B)
    obtain⟨rs,O,K⟩:=Qi5 (show DataW.trod enc Tryz.prog W 0 _ true n2 34 [v1]=some y1 from E)
    have d0:=y 0 (by omega)
    have d1:=y 1 (by omega)
    rw[add_add] at d0 d1
    exact⟨(cs,rs),v0,v1,by simpa using d0,by simpa using d1,M,O,K⟩
  obtain⟨q,Z⟩:=choose_lt N
  refine⟨some a,(List.range len).map q,F,by simpa using J,by simp;omega,?_⟩
  by_cases hz:len=0
  ·exact Or.inl (by rw[hz];rfl)
  ·obtain⟨A,z,c0,-⟩:=Z 0 (by omega)
   rw[Nat.zero_mul] at c0
   obtain⟨b,o,rfl⟩:=Qcv c0
   refine Or.inr ⟨b,o,rfl,World.block_lt_of_cell? W _ c0,fun j hj=>?_⟩
   rw[List.length_map,List.length_range] at hj
   obtain⟨A,z,d0,d1,M,O,K⟩:=Z j hj
   rw[add_plain] at d0 d1
   simp only[List.getElem_map,List.getElem_range]
   exact⟨A,z,d0,by rw[Nat.add_assoc];exact d1,M,O,K⟩
end Go.Proofs.YtofidnijfnhpaaaGreatDoor
namespace Go.Proofs.YtofidnijfnhpaaaGreatDoor
open Go.ChangeShapes Go.WideShapes Go.ChangeAt Go.RowKit Go.Joins Go.Deep
abbrev laidF:List (String×DataW Unit):=[("math/bits.deBruijn32tab",Rows.laid_math_bits_deBruijn32tab),("math/bits.deBruijn64tab",Rows.laid_math_bits_deBruijn64tab),("internal/strconv.uint64pow10",Rows.laid_internal_strconv_uint64pow10)]
theorem QmT:ownKnob Tryz.prog.godebug=none:=by kernel_rfl
theorem Qmw:Tryz.prog.globalNamed "internal/strconv.uint64pow10"=some 2:=by kernel_rfl
theorem QmP:(Tryz.prog.globals[2]?).map (·.type)=some 209:=by kernel_rfl
theorem Qmx {W:World} (A:laidMet Tryz.prog laidF W) (z:W.ShapedOpen Tryz.prog):Env W:=by
 have o:∃m,W.cell? ⟨0,0,none⟩=some (.int .i64 m):=
  Go.Proofs.cell_of_shapedOpen_int (zero:=#[.int .i64 0]) (t:=3) z (of_decide_eq_true (by kernel_rfl)) (by kernel_rfl) rfl (by kernel_rfl) (by kernel_rfl) Tryz.underlying3
 have q:Lib.TabIs Tryz.prog W "internal/strconv.uint64pow10" .u64 Lib.pow10Tab:=by
  obtain⟨g,t,cs,E,p,j,D,B,y⟩:=Lib.laidMet.reads A (n:= "internal/strconv.uint64pow10") (d:=Rows.laid_internal_strconv_uint64pow10) (.tail _ (.tail _ (.head _)))
  obtain rfl:=Option.some.inj (Qmw.symm.trans j)
  obtain rfl:=Option.some.inj (QmP.symm.trans D)
  have e:(Rows.laid_internal_strconv_uint64pow10:DataW Unit)=Lib.tabData .u64 Lib.pow10Tab:=rfl
  rw[e] at y
  have:=Lib.cells_of_tab Tryz.underlying209 Tryz.underlying202 (by kernel_rfl) (by kernel_rfl) y
  unfold Lib.TabIs
  rw[B,<-this]
 refine⟨?_,o,q⟩
 intro g j
 have lt:∀(g i:Nat) (v:Value),W.cell? ⟨g,i,none⟩=some v->g<W.heap.size:=fun g i v h=>World.block_lt_of_cell? W ⟨g,i,none⟩ h
 simp only[List.mem_cons,List.not_mem_nil,or_false] at j
 rcases j with rfl|rfl
 ·obtain⟨m,o⟩:=o;exact lt _ _ _ o
 ·exact lt _ 0 _ ((World.var?_cell Qmw q 0).trans rfl)
theorem et:Tryz.prog.globalNamed "errors.errorType"=some 1:=by kernel_rfl
theorem rt:(Tryz.prog.cutTypes.find? (·.1== "internal/reflectlite.rtype")).map (·.2)=some 159:=by kernel_rfl
theorem QmQ:Tryz.prog.types.size=243:=by kernel_rfl
theorem Qmy:((List.range 243).filter fun t=>Tryz.prog.rowNamed t [101,114,114,111,114])=[44]:=by kernel_rfl
theorem Qkm {l:List (String×DataW Unit)} {W:World} (y:("errors.errorType",Rows.laid_errors_errorType)∈l) (h:handlesMet Tryz.prog l W):W.cell? ⟨1,0,none⟩=some (.iface 159 (.agg #[.pointer (some ⟨5,44,none⟩)])):=by
 obtain⟨j,u,F,E,B,D,z,o⟩:=h _ y
 have I:j=[101,114,114,111,114]:=(Option.some.inj E).symm
 subst I
 obtain rfl:=Option.some.inj (rt.symm.trans B)
 have q:F∈(List.range 243).filter fun t=>Tryz.prog.rowNamed t [101,114,114,111,114]:=List.mem_filter.2 ⟨List.mem_range.2 (by rw[<-QmQ];exact D),z⟩
 rw[Qmy] at q
 obtain rfl:=List.mem_singleton.1 q
 have A:typeHandle Tryz.prog 44=.pointer (some ⟨5,44,none⟩):=by kernel_rfl
 rw[A] at o
 simpa using World.var?_cell et o 0
theorem Qi6 (H:Type) (enc:TypeId×Value->H) (W:World) (base:Nat) (args:Array Value) (O gs:List (DataW H)) (y:List MemPlace)
 (o:∀(j:Nat) t v,Tryz.f3.params[j]? =some t->args[j]? =some v->Value.okWide Tryz.prog W .any base t v)
 (D:DataW.Whole enc Tryz.prog Tryz.f3.params.toList Rows.opsDoSpec.vars false W args.toList O gs y) (hL:laidMetH Tryz.prog Rows.opsDoRow.laid W) (E:W.ShapedOpen Tryz.prog):
 Calls Tryz.prog 3 args W fun e W'=>∃v,e=.returned v/\Rows.opsDoSpec.post enc Tryz.prog Tryz.f3 false true false false W args v W':=by
 have hW':=D
 obtain⟨p,q,A,hV,rfl,av,aw⟩:=D
 have J:DataW.TrodAll enc Tryz.prog W 0 (fun _=>true) true Tryz.f3.params.toList args.toList O p:=A
 rw[Tryz.params3] at J o
 obtain⟨V,Z,d0,d1,p0,U,rfl,rfl,rfl,F,h1⟩:=trodAll_two J
 obtain⟨rfl,rfl⟩:=trodVars_none hV
 obtain⟨j,ss,rfl,hs,I,hsz,⟨oa,mo,oc,ho⟩,ia,mi,ic,hi⟩:=Qkk (o 0 28 V rfl rfl) F
 obtain⟨s1,l1,r1,rfl⟩:=okWide_slice Tryz.underlying29 (o 1 29 Z rfl rfl)
 obtain⟨T,N⟩:=F
 obtain⟨B,z⟩:=h1
 obtain⟨va,ts,tcap,M,hn,ht⟩:=Qkl (show DataW.trod enc Tryz.prog W 0 _ true B 29 [.slice s1 l1 r1]=some (d1,U) from z)
 rw[M] at hW' z⊢
 have hL':laidMet Tryz.prog laidF W/\handlesMet Tryz.prog [("errors.errorType",Rows.laid_errors_errorType)] W:=hL
 clear A
 refine(Qkg j ss oa ia va mo mi oc ic tcap ts W ho hi hs hsz I (Qmx hL'.1 E) (Qkm (List.mem_singleton.2 rfl) hL'.2) ht hn).mono fun e W' ⟨he,hbl⟩=>?_
 subst he
 refine⟨_,rfl,_,_,_,[],p0++U,[],hW',trodAll_mk1 (shut_bool Tryz.underlying4 _),?_,rfl,hbl.frame _,fun h=>by cases h⟩
 have K:laidOutB Tryz.prog=true:=by kernel_rfl
 exact trodAll_mk2 (Below.trod K (by kernel_rfl) (of_decide_eq_true (by kernel_rfl)) ⟨T,N⟩ hbl (DataW.trod_lt T _ _ _ N)) (Below.trod K (by kernel_rfl) (of_decide_eq_true (by kernel_rfl)) ⟨B,z⟩ hbl (DataW.trod_lt B _ _ _ z))
theorem Qld (os:Os) (h:os.Started) (H:Type) (enc:TypeId×Value->H) (F:Stop.Interp):
 ReturnsInHanded {} Tryz.checked os 3 .any ((OpenSpec.ofChange Rows.opsDoSpec).preRow enc Tryz.prog Tryz.f3 Rows.opsDoRow.domain false Rows.opsDoRow.laid) (((OpenSpec.ofChange Rows.opsDoSpec).at F).post enc Tryz.prog Tryz.f3 false true false false):=by
 refine returnsInHanded_of_row (C:=Tryz.checked) (s:=OpenSpec.ofChange Rows.opsDoSpec) QmT h (by kernel_rfl) Tryz.func3
  (ChangeSpec.witness_shaped (enc:=enc) (C:=Tryz.checked) (os:=os) (fn:=Tryz.f3) (s:=Rows.opsDoSpec) (conds:=Rows.opsDoRow.domain) (apart:=false) (X:=fun w _=>laidMetH Tryz.prog Rows.opsDoRow.laid w) false
   {World.laidAll Tryz.prog os laidF with heap:=(World.laidAll Tryz.prog os laidF).heap.modify 1 fun
    |.cells _ t frozen=>.cells #[.iface 159 (.agg #[.pointer (some ⟨5,44,none⟩)])] t frozen
    |o=>o} #[.agg #[.int .i64 0,.int .i64 0,.slice none 0 0,.slice none 0 0,.slice none 0 0,.string ⟨#[]⟩,.string ⟨#[]⟩,.int .i64 0,.int .i64 0,.string ⟨#[]⟩,.string ⟨#[]⟩,.int .i64 0,.int .i64 0,.string ⟨#[]⟩,.int .i64 0],.slice none 0 0] 8 (World.laidAll_os _ _ _)
   (World.shaped_of_ZipB (by kernel_rfl) (by kernel_rfl)) (by kernel_rfl) (by kernel_rfl) (by kernel_rfl)
   (laidMetH_of_parts (laidMet_of_run' 8 (by kernel_rfl) (by kernel_rfl)) (by kernel_rfl))) ?_
 intro W base args B gs j q z _ _ _ A y _
 exact Qi6 H enc W base args B gs j q z A y
theorem Qmz:Rows.OpsDoSaid:=
 OpenClaim.holds_of_cond 3 Tryz.f3 rfl rfl rfl rfl rfl rfl rfl ⟨rfl,rfl,rfl,rfl,rfl⟩ rfl rfl rfl rfl rfl (by kernel_rfl) Tryz.func3 (by kernel_rfl)
  (of_decide_eq_true (by kernel_rfl)) (by unfold Func.isWrapper;first|(rw[if_pos (by decide+kernel)];kernel_rfl)|(rw[if_neg (by decide+kernel)];exact⟨rfl,rfl⟩))
  (fun os started H enc _ F=>by rw[OpenClaim.pre_eq_preRow];exact Qld os started H enc F)
theorem Ql2 (f:FuncId) (fn:Func) (q:Tryz.pinned.checked.prog.funcNamed "foreman/foremanlaw.OpsDo"=some f) (h:Tryz.pinned.checked.prog.funcs[f]? =some fn):
 true=Tryz.pinned.checked.prog.looks []/\∀(j:Nat) t,fn.params[j]? =some t->Tryz.pinned.checked.prog.wantsStandIn t=false:=by
 obtain rfl:f=3:=Option.some.inj ((show Tryz.prog.funcNamed "foreman/foremanlaw.OpsDo"=some 3 by kernel_rfl).symm.trans q)|>.symm
 obtain rfl:fn=Tryz.f3:=(Option.some.inj (Tryz.func3.symm.trans h)).symm
 refine⟨by kernel_rfl,fun j t ht=>?_⟩
 rw[Tryz.params3] at ht
 have o:=Array.mem_of_getElem? ht
 simp only[List.mem_toArray,List.mem_cons,List.not_mem_nil,or_false] at o
 rcases o with rfl|rfl
 ·exact(show Tryz.prog.wantsStandIn 28=false by kernel_rfl)
 ·exact(show Tryz.prog.wantsStandIn 29=false by kernel_rfl)
theorem cardDo:Rows.OpsDoCardSaid:=
 Claim7.holds_tied_plain_at .later [] _ _ _ _ Qmz (fun _ h=>by cases h) (by kernel_rfl) (fun _ h=>by cases h) opsDo_row_tie rfl ⟨rfl,rfl⟩ (by kernel_rfl) rfl Ql2 (by kernel_rfl)
end Go.Proofs.YtofidnijfnhpaaaGreatDoor
