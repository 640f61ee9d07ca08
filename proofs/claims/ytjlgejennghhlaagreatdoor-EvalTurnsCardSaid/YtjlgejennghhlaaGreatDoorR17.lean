import Derived.Test.YtjlgejennghhlaaGreatDoorR01
import Derived.Test.YtjlgejennghhlaaGreatDoorR15
import Derived.Test.YtjlgejennghhlaaGreatDoorR16
set_option linter.unusedSimpArgs false
set_option linter.unusedVariables false
set_option linter.unusedSectionVars false
set_option maxRecDepth 1000000
set_option maxHeartbeats 16000000
namespace Go.Proofs.YtjlgejennghhlaaGreatDoor
open Go.RowKit
def QnE (w:World) (v:Value) (vs:List Vl):Prop:=∃a c,v=.slice a vs.length c/\vs.length<=c/\(∀x∈vs,x.2.2.size<=maxLen)/\(vs=[]\/∃b o,a=some ⟨b,o,none⟩/\b<w.heap.size/\QaS w b o vs)
def Qch (w:World) (v:Value) (rs:List (List Vl)):Prop:=∃a c,v=.slice a rs.length c/\(rs=[]\/∃b o,a=some ⟨b,o,none⟩/\b<w.heap.size/\∀(j:Nat) (h:j<rs.length),∃u,w.cell? ⟨b,o+j,none⟩=some u/\QnE w u rs[j])
theorem QnE.below {w w':World} {v:Value} {y:List Vl} (h:QnE w v y) (E:Below w.heap.size w w'):QnE w' v y:=by
 obtain⟨a,c,e,I,H,h⟩:=h;refine⟨a,c,e,I,H,?_⟩;rcases h with h|⟨b,o,J,D,F⟩
 ·exact Or.inl h
 ·exact Or.inr ⟨b,o,J,Nat.lt_of_lt_of_le D E.size,F.below E D⟩
theorem Qch.below {w w':World} {v:Value} {rs:List (List Vl)} (h:Qch w v rs) (y:Below w.heap.size w w'):Qch w' v rs:=by
 obtain⟨a,c,e,h⟩:=h;refine⟨a,c,e,?_⟩;rcases h with h|⟨b,o,I,D,E⟩
 ·exact Or.inl h
 ·refine Or.inr ⟨b,o,I,Nat.lt_of_lt_of_le D y.size,fun j hj=>?_⟩;obtain⟨u,H,F⟩:=E j hj;exact⟨u,cK y D H,F.below y⟩
theorem QnE.is {w:World} {v:Value} {y:List Vl} (h:QnE w v y):QcA w v y:=by
 obtain⟨a,c,e,-,D,h⟩:=h;exact⟨a,c,e,D,h⟩
theorem Qch.is {w:World} {v:Value} {rs:List (List Vl)} (h:Qch w v rs):QaG w v rs:=by
 obtain⟨a,c,e,h⟩:=h;refine⟨a,c,e,?_⟩;rcases h with h|⟨b,o,H,D,y⟩
 ·exact Or.inl h
 ·exact Or.inr ⟨b,o,H,D,fun j hj=>by obtain⟨u,F,E⟩:=y j hj;exact⟨u,F,E.is⟩⟩
theorem QjB {w:World} {v:Value} {rs:List (List Vl)} {j m:Nat} (h:Qch w v rs) (F:j<rs.length) (D:rs[j].length=m) (Z:1<=m):∃b o c yb yo yc,v=.slice (some ⟨b,o,none⟩) rs.length c/\b<w.heap.size/\w.cell? ⟨b,o+j,none⟩=some (.slice (some ⟨yb,yo,none⟩) m yc)/\m<=yc/\yb<w.heap.size/\QaS w yb yo rs[j]:=by
 obtain⟨a,c,rfl,h⟩:=h;rcases h with h|⟨b,o,rfl,M,K⟩
 ·rw[h] at F;simp at F
 obtain⟨u,J,V,N,rfl,y,-,E⟩:=K j F;rw[D] at J y;rcases E with E|⟨O,U,rfl,I,H⟩
 ·rw[E] at D;simp at D;omega
 ·exact⟨b,o,c,O,U,N,rfl,M,J,y,I,H⟩
def QcR (x:List Vl) (qb:List (List Vl)) (p q:Nat):List (List Vl):=(qb.filter fun y=>decide (vAt x p=vAt y q)).map fun y=>Qb9 x y q
def joinL (qa qb:List (List Vl)) (p q:Nat):List (List Vl):=qa.flatMap fun x=>QcR x qb p q
theorem QkJ (x:List Vl) (y:List (List Vl)) (p q k:Nat) (h:k<y.length):QcR x (y.take (k+1)) p q=QcR x (y.take k) p q++if vAt x p=vAt y[k] q then[Qb9 x y[k] q] else[]:=by
 unfold QcR;rw[List.take_succ_eq_append_getElem h,List.filter_append,List.map_append]
 by_cases e:vAt x p=vAt y[k] q
 ·rw[if_pos e,List.filter_cons_of_pos (by simpa using e)];rfl
 ·rw[if_neg e,List.filter_cons_of_neg (by simpa using e)];rfl
theorem QkK (y D:List (List Vl)) (p q k:Nat) (h:k<y.length):joinL (y.take (k+1)) D p q=joinL (y.take k) D p q++QcR y[k] D p q:=by
 unfold joinL;rw[List.take_succ_eq_append_getElem h,List.flatMap_append];simp
theorem QhR (x:List Vl) (h:List (List Vl)) (p q:Nat):(QcR x h p q).length<=h.length:=by
 unfold QcR;rw[List.length_map];exact List.length_filter_le _ _
theorem Ql8 (h y:List (List Vl)) (p q:Nat):(joinL h y p q).length<=h.length*y.length:=by
 unfold joinL
 induction h with
 |nil=>simp
 |cons x h ih=>
  rw[List.flatMap_cons,List.length_append,List.length_cons,Nat.add_mul];have:=QhR x y p q;omega
theorem Ql9 {x y:List Vl} {k:Nat} (E:∀z∈x,z.2.2.size<=maxLen) (D:∀z∈y,z.2.2.size<=maxLen):∀z∈Qb9 x y k,z.2.2.size<=maxLen:=by
 intro z h;unfold Qb9 at h;rw[List.mem_append,List.mem_append] at h;rcases h with (h|h)|h
 ·exact E z h
 ·exact D z (List.mem_of_mem_take h)
 ·exact D z (List.mem_of_mem_drop h)
theorem Qes {x y:ByteArray} (h:x.toList=y.toList):x=y:=Qpf (by rw[ByteArray.toList_eq,ByteArray.toList_eq] at h;exact h)
theorem Qa5 {w:World} {B:Nat} {e:TypeId} {z n:Nat} {v:Value} {xs:List Value} (h:w.ownsRow B e z v n xs) (q:Nat):(w.drewN q).ownsRow B e z v n xs:=h
theorem Qd5 {w:World} {B:Nat} {us:List Value} {rs:List (List Vl)} (h:Qab w B us rs) (q:Nat):Qab (w.drewN q) B us rs:=h
theorem QkL (v v2:Value) (E D:List (List Vl)) (n m p q:Nat) (w:World) (ha:Qch w v E) (hb:Qch w v2 D) (aP:∀r∈E,r.length=n) (aT:∀r∈D,r.length=m) (a4:1<=n) (b3:n<=50) (bk:1<=m) (bY:m<=50) (hp:p<n) (hq:q<m) (bR:E.length<=100) (aX:D.length<=100):
 Calls Tryz.prog 147 #[v,v2,.int .i64 p,.int .i64 q] w fun e w'=>∃v' us,e=.returned v'/\w'.ownsRow w.heap.size 84 1 v' (joinL E D p q).length us/\Qab w' w.heap.size us (joinL E D p q)/\Below w.heap.size w w':=by
 obtain⟨i0,hi,a7,bj,be⟩:=info_parts Tryz.infoRow;have HA:=Hk (Ai ha aP);have HB:=Hk (Ai hb aT);clear aP aT;obtain⟨va,bT,rfl,-⟩:=ha;obtain⟨vb,bO,rfl,-⟩:=hb;go_enter Tryz.func147,Tryz.ntmps147;go_wp2
 go_loopg [9,16] E.length (fun g1 l i wr=>∃(k n0:Nat) (us:List Value),k<=E.length/\i=.int .i64 k/\E.length-k<=g1/\wr.ownsRow w.heap.size 84 1 l n0 us/\Aside (Qab wr w.heap.size us (joinL (E.take k) D p q)/\Below w.heap.size w wr/\n0=(joinL (E.take k) D p q).length))
 case atStart=>exact⟨0,0,[],Nat.zero_le _,rfl,by omega,World.ownsRow_nil _ _ _ _,by simpa [joinL] using Qab.nil _ _,Below.refl _ _,by simp[joinL]⟩
 case round=>
  obtain⟨k,n0,us,hk,rfl,hg,F,HH⟩:=hrel;obtain⟨la,lc,rfl⟩:=own_slice F;have N:=Hk F;clear F
  by_cases hlt:k<E.length
  ·have aZ:(k:Int)<(E.length:Int):=by omega
   have bW:=HH.out.2.1.size;obtain⟨b1,o1,c1,xb,xo,xc,ac,aU,aJ,b7,aM,ae⟩:=QjB HA.out.1 hlt (HA.out.2 _ (List.getElem_mem hlt)) a4;simp only[Value.slice.injEq,true_and] at ac;obtain⟨rfl,rfl⟩:=ac;have hxu':=cK HH.out.2.1 aU aJ;have U:=Hk (HA.out.2 _ (List.getElem_mem hlt));clear aJ;obtain⟨x,af⟩:∃x,E[k]=x:=⟨_,rfl⟩;rw[af] at ae U;have bg:Hid (∀z∈x,z.2.2.size<=maxLen):=by
    obtain⟨_,_,_,h⟩:=HA.out.1;rcases h with h|⟨_,_,_,_,az⟩
    ·rw[h] at hlt;simp at hlt
    ·obtain⟨_,_,_,_,_,_,hs,_⟩:=az k hlt;rw[af] at hs;exact Hk hs
   have bo:=Hk (show joinL (E.take (k+1)) D p q=joinL (E.take k) D p q++QcR x D p q by rw[QkK E D p q k hlt,af]);have bi:=Hk (Ql8 (E.take k) D p q);generalize joinL (E.take k) D p q=J at*;have HX:=Hk ae;have HV:=Hk (show vAt x p=x[p]'(by rw[U.out];exact hp) from Qdh _);clear ae af;have bU:J.length<=10000:=by
    have h1:=bi.out;rw[List.length_take] at h1;have h2:min k E.length*D.length<=100*100:=Nat.mul_le_mul (by omega) aX;omega
   go_wp2
   go_loopg [9,22] D.length (fun g2 l i wr2=>∃(t O:Nat) (us:List Value),t<=D.length/\i=.int .i64 t/\D.length-t<=g2/\wr2.ownsRow w.heap.size 84 1 l O us/\Aside (Qab wr2 w.heap.size us (J++QcR x (D.take t) p q)/\Below w.heap.size w wr2/\O=(J++QcR x (D.take t) p q).length))
   case atStart=>exact⟨0,n0,us,Nat.zero_le _,rfl,by omega,N.out,by simpa [QcR] using HH.out.1,HH.out.2.1,by rw[HH.out.2.2];simp[QcR]⟩
   case round=>
    clear N;obtain⟨t,O,ah,ht,rfl,b5,F,HI⟩:=hrel;obtain⟨b6,bQ,rfl⟩:=own_slice F;have N:=Hk F;clear F;have bw:=HI.out.2.1.size;have bP:=Hk HI.out.2.1
    by_cases htl:t<D.length
    ·have aY:(t:Int)<(D.length:Int):=by omega
     obtain⟨b2,o2,c2,yb,yo,yc,ac,aV,aO,bm,aS,Z⟩:=QjB HB.out.1 htl (HB.out.2 _ (List.getElem_mem htl)) bk;simp only[Value.slice.injEq,true_and] at ac;obtain⟨rfl,rfl⟩:=ac;have hyu':=cK HI.out.2.1 aV aO;have I:=Hk (HB.out.2 _ (List.getElem_mem htl));clear aO;have ao:=Hk (QkJ x D p q t htl);obtain⟨y,aD⟩:∃y,D[t]=y:=⟨_,rfl⟩;rw[aD] at Z I ao;have bn:Hid (∀z∈y,z.2.2.size<=maxLen):=by
      obtain⟨_,_,_,h⟩:=HB.out.1;rcases h with h|⟨_,_,_,_,az⟩
      ·rw[h] at htl;simp at htl
      ·obtain⟨_,_,_,_,_,_,hs,_⟩:=az t htl;rw[aD] at hs;exact Hk hs
     have a6:=Hk (show vAt y q=y[q]'(by rw[I.out];exact hq) from Qdh _);have a8:=Hk (QhR x (D.take t) p q);have bX:(QcR x (D.take t) p q).length<=100:=by have:=a8.out;rw[List.length_take] at this;omega
     obtain⟨e0,e1,e2⟩:=(HX.out.below HI.out.2.1 aM) p (by rw[U.out];exact hp);obtain⟨f0,f1,f2⟩:=(Z.below HI.out.2.1 aS) q (by rw[I.out];exact hq);have a5:=Hk Z;obtain⟨a,au⟩:∃a,x[p]'(by rw[U.out];exact hp)=a:=⟨_,rfl⟩;obtain⟨b,aq⟩:∃b,y[q]'(by rw[I.out];exact hq)=b:=⟨_,rfl⟩;rw[au] at e0 e1 e2;rw[aq] at f0 f1 f2;have aK:=Hk (show(vAt x p=vAt y q↔a=b) by rw[HV.out,a6.out,au,aq]);generalize QcR x (D.take t) p q=K at*;clear Z aD au aq;have bZ:(p:Int)<(n:Int):=by omega
     have bN:(q:Int)<(m:Int):=by omega
     have aa:Aside (a≠b->QcR x (D.take (t+1)) p q=K):=fun hne=>by rw[ao.out,if_neg (fun h=>hne (aK.out.1 h))];simp
     by_cases d0:a.1=b.1
     ·by_cases d1:a.2.1=b.2.1
      ·by_cases d2:a.2.2.toList=b.2.2.toList
       ·have aR:a=b:=Prod.ext d0 (Prod.ext d1 (Qes d2));have aL:=Hk (show QcR x (D.take (t+1)) p q=K++[Qb9 x y q] by rw[ao.out,if_pos (aK.out.2 aR)]);subst aR;clear d0 d1 d2 aa;have aC:=Hk (fun W (hW:Below w.heap.size w W)=>QkG xb xo xc yb yo yc q x y W (by have:=hW.size;omega) (HX.out.below hW aM) (by have:=hW.size;omega) (a5.out.below hW aS) (by rw[I.out];exact hq) (by rw[I.out];exact bm) (by rw[U.out];omega) (by rw[I.out];omega));rw[U.out,I.out] at aC;have a9:=Hk (Ql9 (k:=q) bg.out bn.out);have bV:O<=20000:=by have:=HI.out.2.2;rw[List.length_append] at this;omega
        obtain⟨bl,av⟩:∃z,(Qb9 x y q).length=z:=⟨_,rfl⟩;have aN:=Hk av;rw[av] at aC;clear av;go_wp2;go_quiet (fail);go_wp2_with (first|(go_at_call 178;refine(aC.out _ (below_drewN HI.out.2.1 _)).mono ?_;rintro e w1 ⟨v1,rfl,ax,V⟩;obtain⟨ai,ag,rfl⟩:=own_slice ax)|(at_builtin;refine wpList_append_own _ rfl _ _ 52 rfl w.heap.size 84 i0 (.slice none 0 0) 1 24 Tryz.underlying52 hi a7 bj be rfl (by decide) _ _ _ rfl ((owns_below (Qa5 N.out _) V).alloc _) ⟨w1.heap.size,0,none⟩ 1 1 [.slice ai bl ag] rfl rfl (news1 _ _ _ _ rfl) (Qc4 _ _ _) ?c3 ?c4 ?c5 ?_))
        case c3=>unfold maxLen;omega
        case c4=>omega
        case c5=>have h1:=V.size;have h2:wr.heap.size<=w1.heap.size:=h1;simp;omega
        intro v' w5 aj M _;have b4:wr.heap.size<=w1.heap.size:=V.size;have bb:Below w.heap.size w w1:=bel_then (below_drewN HI.out.2.1 _) V;have aw:=((owns_below (Qa5 N.out _) V).alloc (.cells #[.slice ai bl ag] 84));have am:Below w.heap.size w w5:=(bb.alloc (by omega) _).grown M (by simp;omega) (fun q hq=>(N.out.lt q hq).1);have aQ:=(((Qd5 HI.out.1 _).below V).below (Qaa w1 (.cells #[.slice ai bl ag] 84))).grow aw M;have aA:=(ax.alloc (.cells #[.slice ai bl ag] 84)).kept M (Qb4 (by decide) (ax.alloc _) aw);rw[<-aN.out] at aA;have aB:=aQ.snoc (own_mono (show w.heap.size<=wr.heap.size by omega) aA) a9.out;rw[List.append_assoc,<-aL.out] at aB;have HF:=Hk (Ai aj (Ai aB am));have bd:=Hk (show O+1=(J++QcR x (D.take (t+1)) p q).length by rw[HI.out.2.2,aL.out];simp only[List.length_append,List.length_cons,List.length_nil];omega);clear aj M aB am aQ aA aw;go_wp2
        go_roundg (D.length-(t+1))
        case measure=>omega
        case rel=>exact⟨t+1,O+1,_,by omega,by go_num,Nat.le_refl _,HF.out.1,by have h:=HF.out.2.1;rw[aN.out] at h;exact h,HF.out.2.2,bd.out⟩
       ·have d0':(a.1==b.1)=true:=by simp[d0]
        have d1':(a.2.1==b.2.1)=true:=by simp[d1]
        have d2':(a.2.2.toList==b.2.2.toList)=false:=by simp[d2]
        have H:=Hk (aa.out (by rintro rfl;exact d2 rfl));go_wp2;go_quiet (fail);go_wp2
        go_roundg (D.length-(t+1))
        case measure=>omega
        case rel=>exact⟨t+1,O,ah,by omega,by go_num,Nat.le_refl _,Qa5 N.out _,by rw[H.out];exact Qd5 HI.out.1 _,below_drewN HI.out.2.1 _,by rw[H.out];exact HI.out.2.2⟩
      ·have d0':(a.1==b.1)=true:=by simp[d0]
       have d1':(a.2.1==b.2.1)=false:=by simp[d1]
       have H:=Hk (aa.out (by rintro rfl;exact d1 rfl));go_wp2;go_quiet (fail);go_wp2
       go_roundg (D.length-(t+1))
       case measure=>omega
       case rel=>exact⟨t+1,O,ah,by omega,by go_num,Nat.le_refl _,Qa5 N.out _,by rw[H.out];exact Qd5 HI.out.1 _,below_drewN HI.out.2.1 _,by rw[H.out];exact HI.out.2.2⟩
     ·have d0':(a.1==b.1)=false:=by simp[d0]
      have H:=Hk (aa.out (by rintro rfl;exact d0 rfl));go_wp2;go_quiet (fail);go_wp2
      go_roundg (D.length-(t+1))
      case measure=>omega
      case rel=>exact⟨t+1,O,ah,by omega,by go_num,Nat.le_refl _,Qa5 N.out _,by rw[H.out];exact Qd5 HI.out.1 _,below_drewN HI.out.2.1 _,by rw[H.out];exact HI.out.2.2⟩
    ·have b0:t=D.length:=by omega
     have aY:¬((t:Int)<(D.length:Int)):=by omega
     have ab:=Hk (show J++QcR x (D.take t) p q=joinL (E.take (k+1)) D p q by rw[bo.out,List.take_of_length_le (by omega)]);go_wp2
     go_roundg (E.length-(k+1))
     case measure=>omega
     case rel=>exact⟨k+1,O,ah,by omega,by go_num,Nat.le_refl _,N.out,by rw[<-ab.out];exact HI.out.1,HI.out.2.1,by rw[<-ab.out];exact HI.out.2.2⟩
  ·have bS:k=E.length:=by omega
   have aZ:¬((k:Int)<(E.length:Int)):=by omega
   have ab:=Hk (show joinL (E.take k) D p q=joinL E D p q by rw[List.take_of_length_le (by omega)]);go_wp2;go_ret;exact⟨_,rfl,us,by rw[<-ab.out,<-HH.out.2.2];exact N.out,by rw[<-ab.out];exact HH.out.1,HH.out.2.1⟩
def QbO (cs:List Cl) (k:Nat):Int:=(cs[k]?.getD (⟨#[]⟩,0)).2
def QaM (cs:List Cl) (x y:ByteArray):Int:=
 match Qaq cs x.data.toList,Qaq cs y.data.toList with
 |some p,some q=>if QbO cs q≠1 then 13 else if p=q then 9 else 0
 |_,_=>7
theorem QaN {cs:List Cl} {nm:List UInt8} {p:Nat} (h:Qaq cs nm=some p):QaB cs nm=(p:Int):=by rw[QaB,h]
theorem QcI {cs:List Cl} {nm:List UInt8} (h:Qaq cs nm=none):QaB cs nm= -1:=by rw[QaB,h]
theorem Qd6 {cs:List Cl} {k:Nat} (h:k<cs.length):cs[k].2=QbO cs k:=by unfold QbO;rw[List.getElem?_eq_getElem h];rfl
theorem group_any (b o n c I K cc:Nat) (cs:List Cl) (x y:ByteArray) (j:Jb) (w:World) (hj:j.cols=.slice (some ⟨I,K,none⟩) 2 cc) (al:j.op=⟨#[115,117,109]⟩) (Z:I<w.heap.size) (s0:w.cell? ⟨I,K,none⟩=some (.string x)) (s1:w.cell? ⟨I,K+1,none⟩=some (.string y))
 (hn:cs.length=n) (aq:n<=100) (hb:b<w.heap.size) (hc:Qau w b o cs):
 Calls Tryz.prog 129 #[.agg j.cells,.slice (some ⟨b,o,none⟩) n c] w fun e w'=>e=.returned (QbN (QaM cs x y))/\Below w.heap.size w w':=by
 have hP:=fun nm W (h1:Below w.heap.size w W)=>QaH b o n c cs nm W hn aq (by have:=h1.size;omega) (hc.below h1 hb)
 have hJ:=Qcf w j 50;have E:=Qaa w (.cells j.cells 50);obtain⟨W,N⟩:∃W,W=w.alloc (.cells j.cells 50):=⟨_,rfl⟩;rw[<-N] at hJ E;have e4:=cell_regrown (show W.cell? ⟨w.heap.size,4,none⟩=some (.slice (some ⟨I,K,none⟩) 2 cc) from by have:=hJ 4 j.cols rfl;rw[hj] at this;exact this);have e5:=cell_regrown (cK E Z s0);have e6:=cell_regrown (cK E Z s1);have C1:∀nm d os,_:=fun nm d os=>Calls.regrown_of (hP nm (Sort.grow (redrawn W d) os) (bel_then E (below_regrown _ _ _)))
 have HB:=Hk E;have HC:=Hk (Ai hn hc);obtain⟨P,V⟩:∃P,QaB cs x.data.toList=P:=⟨_,rfl⟩;obtain⟨Q,O⟩:∃Q,QaB cs y.data.toList=Q:=⟨_,rfl⟩;have F:=Hk (Ai V O);clear hJ E hn hc hP;unfold Jb.cells at N⊢;rw[hj,al] at N⊢;go_enter Tryz.func129,Tryz.ntmps129;go_wp2;rw[<-N];clear N;refine wp_region_quiet_below (by kernel_rfl) (by kernel_rfl) ?_
 repeat(any_goals(first|go_big_quiet_step (exact C1 _ _ _)|quiet_step (exact C1 _ _ _)))
 refine wpQuiet_nil ?_;intro _ ai;obtain⟨⟨dq,ab⟩,ad⟩:=ai;subst ad;have D:=Hk (bel_then HB.out (below_regrown W dq ab));clear e4 e5 e6 C1 HB;generalize Sort.grow (redrawn W dq) ab=W5 at*
 try rw[V]
 try rw[O]
 clear V O
 cases hpx:Qaq cs x.data.toList with
 |none=>
  have h:QaM cs x y=7:=by unfold QaM;rw[hpx]
  have H:=Hk h;have J:P= -1:=by rw[<-F.out.1];exact QcI hpx
  subst J;clear hpx h F;go_wp2;go_ret;exact⟨by rw[H.out,QaT (by decide)];rfl,D.out⟩
 |some p=>
  have J:P=(p:Int):=by rw[<-F.out.1];exact QaN hpx
  cases hqy:Qaq cs y.data.toList with
  |none=>
   have h:QaM cs x y=7:=by unfold QaM;rw[hpx,hqy]
   have H:=Hk h;have M:Q= -1:=by rw[<-F.out.2];exact QcI hqy
   subst M J;have ar:¬((p:Int)<0):=by omega
   clear hpx hqy h F;go_wp2;go_ret;exact⟨by rw[H.out,QaT (by decide)];rfl,D.out⟩
  |some q=>
   have M:Q=(q:Int):=by rw[<-F.out.2];exact QaN hqy
   have ac:=Qap hqy;have U:=((HC.out.2 q ac).2);rw[Qd6 ac] at U;have d5:=cK D.out hb U;have aC:(q:Int)<(n:Int):=by have:=HC.out.1;omega
   have ar:¬((p:Int)<0):=by omega
   have aD:¬((q:Int)<0):=by omega
   have h:QaM cs x y=if QbO cs q≠1 then 13 else if p=q then 9 else 0:=by unfold QaM;rw[hpx,hqy]
   clear hpx hqy U;subst M J;generalize QbO cs q=kd at*
   by_cases hk:kd=1
   ·subst hk;rw[if_neg (by decide)] at h
    by_cases aa:p=q
    ·subst aa;rw[if_pos rfl] at h;have H:=Hk h;clear h;go_wp2;go_ret;exact⟨by rw[H.out,QaT (by decide)];rfl,D.out⟩
    ·rw[if_neg aa] at h;have H:=Hk h;clear h;have hpq':¬((p:Int)=(q:Int)):=by omega
     go_wp2;go_ret;exact⟨by rw[H.out,QeK];rfl,D.out⟩
   ·rw[if_pos hk] at h;have H:=Hk h;clear h;go_wp2;go_ret;exact⟨by rw[H.out,QaT (by decide)];rfl,D.out⟩
def Qd7 (l:List Cl):Bool:=(List.range l.length).any fun i=>decide (QaB l ((l[i]?.getD (⟨#[]⟩,0)).1.data.toList)<(i:Int))
def QaY (cs ds:List Cl) (x y:ByteArray):Int:=
 match Qaq cs x.data.toList,Qaq ds y.data.toList with
 |some p,some q=>if QbO cs p≠QbO ds q then 13 else if Qd7 (Qb9 cs ds q)=true then 9 else if 6<(Qb9 cs ds q).length then 4 else 0
 |_,_=>7
theorem QjC {l:List Cl} {i:Nat} (h:i<l.length) (y:QaB l (l[i].1.data.toList)<(i:Int)):Qd7 l=true:=by
 unfold Qd7;rw[List.any_eq_true];exact⟨i,List.mem_range.2 h,by rw[List.getElem?_eq_getElem h];exact decide_eq_true y⟩
theorem Qma {l:List Cl} (h:∀i (y:i<l.length),¬QaB l (l[i].1.data.toList)<(i:Int)):Qd7 l=false:=by
 unfold Qd7;rw[List.any_eq_false];intro i y;have hi':=List.mem_range.1 y;rw[List.getElem?_eq_getElem hi'];simpa using h i hi'
theorem QjD (b o n c Z o2 U c2 V co cc:Nat) (cs D:List Cl) (x y:ByteArray) (j:Jb) (w:World) (hj:j.cols=.slice (some ⟨V,co,none⟩) 2 cc) (aI:V<w.heap.size) (s0:w.cell? ⟨V,co,none⟩=some (.string x)) (s1:w.cell? ⟨V,co+1,none⟩=some (.string y))
 (hn:cs.length=n) (bm:1<=n) (bo:n<=40) (hb:b<w.heap.size) (hc:Qau w b o cs) (ay:D.length=U) (bk:U<=40) (aL:U<=c2) (ap:Z<w.heap.size) (ao:Qau w Z o2 D) (aB:∀z∈cs++D,z.1.size<=maxLen):
 Calls Tryz.prog 128 #[.agg j.cells,.slice (some ⟨b,o,none⟩) n c,.slice (some ⟨Z,o2,none⟩) U c2] w fun e w'=>e=.returned (QbN (QaY cs D x y))/\Below w.heap.size w w':=by
 have aA:∀(v:Value) (nm:ByteArray) (k:Int) (W:World),Below w.heap.size w W->(v=.slice (some ⟨b,o,none⟩) n c/\k=QaB cs nm.data.toList\/v=.slice (some ⟨Z,o2,none⟩) U c2/\k=QaB D nm.data.toList)->Calls Tryz.prog 133 #[v,.string nm] W fun e w'=>e=.returned (.int .i64 k)/\Below W.heap.size W w':=by
  rintro v nm k W h1 (⟨rfl,rfl⟩|⟨rfl,rfl⟩)
  ·exact QaH b o n c cs nm W hn (by omega) (by have:=h1.size;omega) (hc.below h1 hb)
  ·exact QaH Z o2 U c2 D nm W ay (by omega) (by have:=h1.size;omega) (ao.below h1 ap)
 have hJ:=Qcf w j 50;have J:=Qaa w (.cells j.cells 50);obtain⟨W,hW⟩:∃W,W=w.alloc (.cells j.cells 50):=⟨_,rfl⟩;rw[<-hW] at hJ J;have e4:=cell_regrown (show W.cell? ⟨w.heap.size,4,none⟩=some (.slice (some ⟨V,co,none⟩) 2 cc) from by have:=hJ 4 j.cols rfl;rw[hj] at this;exact this);have e5:=cell_regrown (cK J aI s0);have e6:=cell_regrown (cK J aI s1);have C1:=fun v nm k d os h=>Calls.regrown_of (aA v nm k (Sort.grow (redrawn W d) os) (bel_then J (below_regrown _ _ _)) h)
 have HB:=Hk J;have E:=Hk (Ai hn (Ai hc (Ai ay (Ai ao aB))));obtain⟨P,al⟩:∃P,QaB cs x.data.toList=P:=⟨_,rfl⟩;obtain⟨Q,ar⟩:∃Q,QaB D y.data.toList=Q:=⟨_,rfl⟩;have I:=Hk (Ai al ar);clear hJ J hn hc aA ay ao aB;unfold Jb.cells at hW⊢;rw[hj] at hW⊢;go_enter Tryz.func128,Tryz.ntmps128;go_wp2;rw[<-hW];clear hW;refine wp_region_quiet_below (by kernel_rfl) (by kernel_rfl) ?_
 repeat(any_goals(first|go_big_quiet_step (exact C1 _ _ _ _ _ (by first|exact Or.inl ⟨rfl,rfl⟩|exact Or.inr ⟨rfl,rfl⟩))|quiet_step (exact C1 _ _ _ _ _ (by first|exact Or.inl ⟨rfl,rfl⟩|exact Or.inr ⟨rfl,rfl⟩))))
 refine wpQuiet_nil ?_;intro _ aU;obtain⟨⟨dq,aF⟩,aO⟩:=aU;subst aO;have H:=Hk (bel_then HB.out (below_regrown W dq aF));clear e4 e5 e6 C1 HB;generalize Sort.grow (redrawn W dq) aF=W5 at*
 try rw[al]
 try rw[ar]
 clear al ar
 cases hpx:Qaq cs x.data.toList with
 |none=>
  have N:=Hk (show QaY cs D x y=7 by unfold QaY;rw[hpx]);have ab:P= -1:=by rw[<-I.out.1];exact QcI hpx
  subst ab;clear hpx I;go_wp2;go_ret;exact⟨by rw[N.out,QaT (by decide)];rfl,H.out⟩
 |some p=>
  have ab:P=(p:Int):=by rw[<-I.out.1];exact QaN hpx
  cases hqy:Qaq D y.data.toList with
  |none=>
   have N:=Hk (show QaY cs D x y=7 by unfold QaY;rw[hpx,hqy]);have aw:Q= -1:=by rw[<-I.out.2];exact QcI hqy
   subst aw ab;have a3:¬((p:Int)<0):=by omega
   clear hpx hqy I;go_wp2;go_ret;exact⟨by rw[N.out,QaT (by decide)];rfl,H.out⟩
  |some q=>
   have aw:Q=(q:Int):=by rw[<-I.out.2];exact QaN hqy
   have aq:=Qap hpx;have ac:=Qap hqy;have ai:=((E.out.2.1 p aq).2);have av:=((E.out.2.2.2.1 q ac).2);rw[Qd6 aq] at ai;rw[Qd6 ac] at av;have d5:=cK H.out hb ai;have d6:=cK H.out ap av;have bt:(p:Int)<(n:Int):=by have:=E.out.1;omega
   have br:(q:Int)<(U:Int):=by have:=E.out.2.2.1;omega
   have a3:¬((p:Int)<0):=by omega
   have bn:¬((q:Int)<0):=by omega
   have hv:QaY cs D x y=if QbO cs p≠QbO D q then 13 else if Qd7 (Qb9 cs D q)=true then 9 else if 6<(Qb9 cs D q).length then 4 else 0:=by unfold QaY;rw[hpx,hqy]
   have ah:=Hk ac;clear hpx hqy ai av aq ac;subst aw ab;generalize QbO cs p=kp at*;generalize QbO D q=kq at*
   by_cases M:kp=kq
   ·subst M;rw[if_neg (by simp)] at hv;have N:=Hk hv;clear hv;have az:=Hk (fun W' (F:Below w.heap.size w W')=>Qgy b o c Z o2 c2 q cs D W' (by have:=F.size;omega) (E.out.2.1.below F hb) (by have:=F.size;omega) (E.out.2.2.2.1.below F ap) ah.out (by rw[E.out.2.2.1];exact aL) (by rw[E.out.1];omega) (by rw[E.out.2.2.1];omega));rw[E.out.1,E.out.2.2.1] at az;have aC:=Hk (QgW cs D q ah.out);have aZ:Hid (∀z∈Qb9 cs D q,z.1.size<=maxLen):=Hk (fun z K=>E.out.2.2.2.2 z (by
     unfold Qb9 at K;rw[List.mem_append,List.mem_append] at K;rw[List.mem_append];rcases K with (K|K)|K
     ·exact Or.inl K
     ·exact Or.inr (List.mem_of_mem_take K)
     ·exact Or.inr (List.mem_of_mem_drop K)))
    generalize Qb9 cs D q=L at*;have aX:1<=L.length:=by have h1:=aC.out;have h2:=E.out.1;have h3:=ah.out;omega
    have bp:L.length<=80:=by have h1:=aC.out;have h2:=E.out.1;have h3:=E.out.2.2.1;omega
    go_wp2;go_quiet (fail);go_wp2_with (go_at_call 132;fail);refine(az.out _ (below_drewN H.out _)).mono ?_;rintro e W6 ⟨v6,rfl,aD,aG⟩;have aE:=Qbm aD aZ.out;obtain⟨lb,lo,lc,rfl,aJ,aj⟩:=QbI aE aX;have ak:=Hk (bel_then (below_drewN H.out _) aG);have aH:=Hk aj;clear aD aG aE aj az d5 d6;go_wp2
    go_loopg [54] L.length (fun g1 vi wr=>∃i:Nat,vi=.int .i64 i/\i<=L.length/\L.length-i<=g1/\Aside (Below W6.heap.size W6 wr/\∀k (M:k<L.length),k<i->¬QaB L (L[k].1.data.toList)<(k:Int)))
    case atStart=>exact⟨0,rfl,Nat.zero_le _,by omega,Below.refl _ _,fun k _ h=>absurd h (by omega)⟩
    case round=>
     obtain⟨i,rfl,bs,hg,HI⟩:=hrel
     by_cases hlt:i<L.length
     ·have aP:(i:Int)<(L.length:Int):=by omega
      have bq:=HI.out.1.size;obtain⟨c0,c1⟩:=(aH.out.below HI.out.1 aJ) i hlt;have am:=Hk (fun W' (F:Below wr.heap.size wr W')=>QaH lb lo L.length lc L L[i].1 W' rfl (by omega) (by have:=F.size;omega) ((aH.out.below HI.out.1 aJ).below F (by omega)));obtain⟨R,hR⟩:∃R,QaB L (L[i].1.data.toList)=R:=⟨_,rfl⟩;have HR:=Hk hR;rw[hR] at am;clear hR
      by_cases hRi:R<(i:Int)
      ·have aV:=Hk (QjC hlt (by rw[HR.out];exact hRi));generalize L[i]=z at*;go_wp2_with (go_at_call 133;fail);refine(am.out _ (Qaa _ _)).mono ?_;rintro e W7 ⟨rfl,O⟩;have au:=Hk (bel_then (bel_then ak.out HI.out.1) (bel_then (Qaa _ _) O));clear O c0 c1;go_wp2;go_ret;exact⟨by rw[N.out,if_pos aV.out,QaT (by decide)];rfl,au.out⟩
      ·have aa:=Hk (show∀k (M:k<L.length),k<i+1->¬QaB L (L[k].1.data.toList)<(k:Int) from fun k M hki=>by
        rcases Nat.lt_or_ge k i with h|h
        ·exact HI.out.2 k M h
        ·obtain rfl:k=i:=by omega
         rw[HR.out];exact hRi)
       generalize L[i]=z at*;go_wp2_with (go_at_call 133;fail);refine(am.out _ (Qaa _ _)).mono ?_;rintro e W7 ⟨rfl,O⟩;have au:=Hk (bel_then HI.out.1 (bel_then (Qaa _ _) O));clear O c0 c1;go_wp2
       go_roundg (L.length-(i+1))
       case measure=>omega
       case rel=>exact⟨i+1,by go_num,by omega,Nat.le_refl _,au.out,aa.out⟩
     ·have aP:¬((i:Int)<(L.length:Int)):=by omega
      have aa:=Hk (Qma (fun k M=>HI.out.2 k M (by omega)))
      by_cases h6:6<L.length
      ·have a4:(6:Int)<(L.length:Int):=by omega
       go_wp2;go_ret;exact⟨by rw[N.out,if_neg (by rw[aa.out];decide),if_pos h6,QaT (by decide)];rfl,bel_then ak.out HI.out.1⟩
      ·have a4:¬((6:Int)<(L.length:Int)):=by omega
       go_wp2;go_ret;exact⟨by rw[N.out,if_neg (by rw[aa.out];decide),if_neg h6,QeK];rfl,bel_then ak.out HI.out.1⟩
   ·rw[if_pos M] at hv;have N:=Hk hv;clear hv;have hk':(kp==kq)=false:=by simp[M]
    go_wp2;go_quiet (fail);go_wp2;go_ret;exact⟨by rw[N.out,QaT (by decide)];rfl,below_drewN H.out _⟩
end Go.Proofs.YtjlgejennghhlaaGreatDoor
