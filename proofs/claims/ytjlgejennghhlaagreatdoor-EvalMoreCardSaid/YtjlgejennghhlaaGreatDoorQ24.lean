import Derived.Test.YtjlgejennghhlaaGreatDoorQ01
import Derived.Test.YtjlgejennghhlaaGreatDoorQ22
import Derived.Test.YtjlgejennghhlaaGreatDoorQ23
set_option linter.unusedSimpArgs false
set_option linter.unusedVariables false
set_option linter.unusedSectionVars false
set_option maxRecDepth 1000000
set_option maxHeartbeats 16000000
namespace Go.Proofs.YtjlgejennghhlaaGreatDoor
open Go.RowKit
def Qnw (w:World) (v:Value) (vs:List Vl):Prop:=∃a c,v=.slice a vs.length c/\vs.length<=c/\(∀x∈vs,x.2.2.size<=maxLen)/\(vs=[]\/∃b o,a=some ⟨b,o,none⟩/\b<w.heap.size/\QaR w b o vs)
def Qcg (w:World) (v:Value) (rs:List (List Vl)):Prop:=∃a c,v=.slice a rs.length c/\(rs=[]\/∃b o,a=some ⟨b,o,none⟩/\b<w.heap.size/\∀(j:Nat) (h:j<rs.length),∃u,w.cell? ⟨b,o+j,none⟩=some u/\Qnw w u rs[j])
theorem Qnw.below {w w':World} {v:Value} {y:List Vl} (h:Qnw w v y) (F:Below w.heap.size w w'):Qnw w' v y:=by
 obtain⟨a,c,e,J,I,h⟩:=h;refine⟨a,c,e,J,I,?_⟩;rcases h with h|⟨b,o,K,D,H⟩
 ·exact Or.inl h
 ·exact Or.inr ⟨b,o,K,Nat.lt_of_lt_of_le D F.size,H.below F D⟩
theorem Qcg.below {w w':World} {v:Value} {rs:List (List Vl)} (h:Qcg w v rs) (y:Below w.heap.size w w'):Qcg w' v rs:=by
 obtain⟨a,c,e,h⟩:=h;refine⟨a,c,e,?_⟩;rcases h with h|⟨b,o,J,D,F⟩
 ·exact Or.inl h
 ·refine Or.inr ⟨b,o,J,Nat.lt_of_lt_of_le D y.size,fun j hj=>?_⟩;obtain⟨u,I,H⟩:=F j hj;exact⟨u,cK y D I,H.below y⟩
theorem Qnw.is {w:World} {v:Value} {y:List Vl} (h:Qnw w v y):Qcw w v y:=by
 obtain⟨a,c,e,-,D,h⟩:=h;exact⟨a,c,e,D,h⟩
theorem Qcg.is {w:World} {v:Value} {rs:List (List Vl)} (h:Qcg w v rs):QaG w v rs:=by
 obtain⟨a,c,e,h⟩:=h;refine⟨a,c,e,?_⟩;rcases h with h|⟨b,o,I,D,y⟩
 ·exact Or.inl h
 ·exact Or.inr ⟨b,o,I,D,fun j hj=>by obtain⟨u,H,F⟩:=y j hj;exact⟨u,H,F.is⟩⟩
theorem Qjn {w:World} {v:Value} {rs:List (List Vl)} {j m:Nat} (h:Qcg w v rs) (H:j<rs.length) (D:rs[j].length=m) (h1:1<=m):∃b o c yb yo yc,v=.slice (some ⟨b,o,none⟩) rs.length c/\b<w.heap.size/\w.cell? ⟨b,o+j,none⟩=some (.slice (some ⟨yb,yo,none⟩) m yc)/\m<=yc/\yb<w.heap.size/\QaR w yb yo rs[j]:=by
 obtain⟨a,c,rfl,h⟩:=h;rcases h with h|⟨b,o,rfl,N,M⟩
 ·rw[h] at H;simp at H
 obtain⟨u,K,Z,O,rfl,y,-,F⟩:=M j H;rw[D] at K y;rcases F with F|⟨U,V,rfl,J,I⟩
 ·rw[F] at D;simp at D;omega
 ·exact⟨b,o,c,U,V,O,rfl,N,K,y,J,I⟩
def QcO (x:List Vl) (qb:List (List Vl)) (p q:Nat):List (List Vl):=(qb.filter fun y=>decide (vAt x p=vAt y q)).map fun y=>Qb7 x y q
def joinL (qa qb:List (List Vl)) (p q:Nat):List (List Vl):=qa.flatMap fun x=>QcO x qb p q
theorem Qkx (x:List Vl) (y:List (List Vl)) (p q k:Nat) (h:k<y.length):QcO x (y.take (k+1)) p q=QcO x (y.take k) p q++if vAt x p=vAt y[k] q then[Qb7 x y[k] q] else[]:=by
 unfold QcO;rw[List.take_succ_eq_append_getElem h,List.filter_append,List.map_append]
 by_cases e:vAt x p=vAt y[k] q
 ·rw[if_pos e,List.filter_cons_of_pos (by simpa using e)];rfl
 ·rw[if_neg e,List.filter_cons_of_neg (by simpa using e)];rfl
theorem Qky (y D:List (List Vl)) (p q k:Nat) (h:k<y.length):joinL (y.take (k+1)) D p q=joinL (y.take k) D p q++QcO y[k] D p q:=by
 unfold joinL;rw[List.take_succ_eq_append_getElem h,List.flatMap_append];simp
theorem QhL (x:List Vl) (h:List (List Vl)) (p q:Nat):(QcO x h p q).length<=h.length:=by
 unfold QcO;rw[List.length_map];exact List.length_filter_le _ _
theorem QlU (h y:List (List Vl)) (p q:Nat):(joinL h y p q).length<=h.length*y.length:=by
 unfold joinL
 induction h with
 |nil=>simp
 |cons x h ih=>
  rw[List.flatMap_cons,List.length_append,List.length_cons,Nat.add_mul];have:=QhL x y p q;omega
theorem QlV {x y:List Vl} {k:Nat} (F:∀z∈x,z.2.2.size<=maxLen) (D:∀z∈y,z.2.2.size<=maxLen):∀z∈Qb7 x y k,z.2.2.size<=maxLen:=by
 intro z h;unfold Qb7 at h;rw[List.mem_append,List.mem_append] at h;rcases h with (h|h)|h
 ·exact F z h
 ·exact D z (List.mem_of_mem_take h)
 ·exact D z (List.mem_of_mem_drop h)
theorem Qen {x y:ByteArray} (h:x.toList=y.toList):x=y:=Qo9 (by rw[ByteArray.toList_eq,ByteArray.toList_eq] at h;exact h)
theorem Qa3 {w:World} {B:Nat} {e:TypeId} {z n:Nat} {v:Value} {xs:List Value} (h:w.ownsRow B e z v n xs) (q:Nat):(w.drewN q).ownsRow B e z v n xs:=h
theorem QdZ {w:World} {B:Nat} {us:List Value} {rs:List (List Vl)} (h:Qab w B us rs) (q:Nat):Qab (w.drewN q) B us rs:=h
theorem Qkz (v v2:Value) (F D:List (List Vl)) (n m p q:Nat) (w:World) (ha:Qcg w v F) (hb:Qcg w v2 D) (aQ:∀r∈F,r.length=n) (aU:∀r∈D,r.length=m) (a5:1<=n) (b4:n<=50) (bm:1<=m) (bZ:m<=50) (hp:p<n) (hq:q<m) (bS:F.length<=100) (aY:D.length<=100):
 Calls Tryz.prog 147 #[v,v2,.int .i64 p,.int .i64 q] w fun e w'=>∃v' us,e=.returned v'/\w'.ownsRow w.heap.size 84 1 v' (joinL F D p q).length us/\Qab w' w.heap.size us (joinL F D p q)/\Below w.heap.size w w':=by
 obtain⟨i0,hi,a8,bk,bf⟩:=info_parts Tryz.infoRow;have HA:=Hk (Ai ha aQ);have HB:=Hk (Ai hb aU);clear aQ aU;obtain⟨va,bU,rfl,-⟩:=ha;obtain⟨vb,bP,rfl,-⟩:=hb;go_enter Tryz.func147,Tryz.ntmps147;go_wp2
 go_loopg [9,16] F.length (fun g1 l i wr=>∃(k n0:Nat) (us:List Value),k<=F.length/\i=.int .i64 k/\F.length-k<=g1/\wr.ownsRow w.heap.size 84 1 l n0 us/\Aside (Qab wr w.heap.size us (joinL (F.take k) D p q)/\Below w.heap.size w wr/\n0=(joinL (F.take k) D p q).length))
 case atStart=>exact⟨0,0,[],Nat.zero_le _,rfl,by omega,World.ownsRow_nil _ _ _ _,by simpa [joinL] using Qab.nil _ _,Below.refl _ _,by simp[joinL]⟩
 case round=>
  obtain⟨k,n0,us,hk,rfl,hg,H,HH⟩:=hrel;obtain⟨la,lc,rfl⟩:=own_slice H;have O:=Hk H;clear H
  by_cases hlt:k<F.length
  ·have a0:(k:Int)<(F.length:Int):=by omega
   have bX:=HH.out.2.1.size;obtain⟨b1,o1,c1,xb,xo,xc,ad,aV,aK,b8,aN,af⟩:=Qjn HA.out.1 hlt (HA.out.2 _ (List.getElem_mem hlt)) a5;simp only[Value.slice.injEq,true_and] at ad;obtain⟨rfl,rfl⟩:=ad;have hxu':=cK HH.out.2.1 aV aK;have V:=Hk (HA.out.2 _ (List.getElem_mem hlt));clear aK;obtain⟨x,ag⟩:∃x,F[k]=x:=⟨_,rfl⟩;rw[ag] at af V;have bh:Hid (∀z∈x,z.2.2.size<=maxLen):=by
    obtain⟨_,_,_,h⟩:=HA.out.1;rcases h with h|⟨_,_,_,_,aA⟩
    ·rw[h] at hlt;simp at hlt
    ·obtain⟨_,_,_,_,_,_,hs,_⟩:=aA k hlt;rw[ag] at hs;exact Hk hs
   have bp:=Hk (show joinL (F.take (k+1)) D p q=joinL (F.take k) D p q++QcO x D p q by rw[Qky F D p q k hlt,ag]);have bj:=Hk (QlU (F.take k) D p q);generalize joinL (F.take k) D p q=J at*;have HX:=Hk af;have HV:=Hk (show vAt x p=x[p]'(by rw[V.out];exact hp) from Qdf _);clear af ag;have bV:J.length<=10000:=by
    have h1:=bj.out;rw[List.length_take] at h1;have h2:min k F.length*D.length<=100*100:=Nat.mul_le_mul (by omega) aY;omega
   go_wp2
   go_loopg [9,22] D.length (fun g2 l i wr2=>∃(t U:Nat) (us:List Value),t<=D.length/\i=.int .i64 t/\D.length-t<=g2/\wr2.ownsRow w.heap.size 84 1 l U us/\Aside (Qab wr2 w.heap.size us (J++QcO x (D.take t) p q)/\Below w.heap.size w wr2/\U=(J++QcO x (D.take t) p q).length))
   case atStart=>exact⟨0,n0,us,Nat.zero_le _,rfl,by omega,O.out,by simpa [QcO] using HH.out.1,HH.out.2.1,by rw[HH.out.2.2];simp[QcO]⟩
   case round=>
    clear O;obtain⟨t,U,ai,ht,rfl,b6,H,HI⟩:=hrel;obtain⟨b7,bR,rfl⟩:=own_slice H;have O:=Hk H;clear H;have bx:=HI.out.2.1.size;have bQ:=Hk HI.out.2.1
    by_cases htl:t<D.length
    ·have aZ:(t:Int)<(D.length:Int):=by omega
     obtain⟨b2,o2,c2,yb,yo,yc,ad,aW,aP,bn,aT,aa⟩:=Qjn HB.out.1 htl (HB.out.2 _ (List.getElem_mem htl)) bm;simp only[Value.slice.injEq,true_and] at ad;obtain⟨rfl,rfl⟩:=ad;have hyu':=cK HI.out.2.1 aW aP;have M:=Hk (HB.out.2 _ (List.getElem_mem htl));clear aP;have ap:=Hk (Qkx x D p q t htl);obtain⟨y,aE⟩:∃y,D[t]=y:=⟨_,rfl⟩;rw[aE] at aa M ap;have bo:Hid (∀z∈y,z.2.2.size<=maxLen):=by
      obtain⟨_,_,_,h⟩:=HB.out.1;rcases h with h|⟨_,_,_,_,aA⟩
      ·rw[h] at htl;simp at htl
      ·obtain⟨_,_,_,_,_,_,hs,_⟩:=aA t htl;rw[aE] at hs;exact Hk hs
     have a7:=Hk (show vAt y q=y[q]'(by rw[M.out];exact hq) from Qdf _);have a9:=Hk (QhL x (D.take t) p q);have bY:(QcO x (D.take t) p q).length<=100:=by have:=a9.out;rw[List.length_take] at this;omega
     obtain⟨e0,e1,e2⟩:=(HX.out.below HI.out.2.1 aN) p (by rw[V.out];exact hp);obtain⟨f0,f1,f2⟩:=(aa.below HI.out.2.1 aT) q (by rw[M.out];exact hq);have a6:=Hk aa;obtain⟨a,av⟩:∃a,x[p]'(by rw[V.out];exact hp)=a:=⟨_,rfl⟩;obtain⟨b,ar⟩:∃b,y[q]'(by rw[M.out];exact hq)=b:=⟨_,rfl⟩;rw[av] at e0 e1 e2;rw[ar] at f0 f1 f2;have aL:=Hk (show(vAt x p=vAt y q↔a=b) by rw[HV.out,a7.out,av,ar]);generalize QcO x (D.take t) p q=K at*;clear aa aE av ar;have b0:(p:Int)<(n:Int):=by omega
     have bO:(q:Int)<(m:Int):=by omega
     have ab:Aside (a≠b->QcO x (D.take (t+1)) p q=K):=fun hne=>by rw[ap.out,if_neg (fun h=>hne (aL.out.1 h))];simp
     by_cases d0:a.1=b.1
     ·by_cases d1:a.2.1=b.2.1
      ·by_cases d2:a.2.2.toList=b.2.2.toList
       ·have aS:a=b:=Prod.ext d0 (Prod.ext d1 (Qen d2));have aM:=Hk (show QcO x (D.take (t+1)) p q=K++[Qb7 x y q] by rw[ap.out,if_pos (aL.out.2 aS)]);subst aS;clear d0 d1 d2 ab;have aD:=Hk (fun W (hW:Below w.heap.size w W)=>Qku xb xo xc yb yo yc q x y W (by have:=hW.size;omega) (HX.out.below hW aN) (by have:=hW.size;omega) (a6.out.below hW aT) (by rw[M.out];exact hq) (by rw[M.out];exact bn) (by rw[V.out];omega) (by rw[M.out];omega));rw[V.out,M.out] at aD;have bb:=Hk (QlV (k:=q) bh.out bo.out);have bW:U<=20000:=by have:=HI.out.2.2;rw[List.length_append] at this;omega
        obtain⟨bl,aw⟩:∃z,(Qb7 x y q).length=z:=⟨_,rfl⟩;have aO:=Hk aw;rw[aw] at aD;clear aw;go_wp2;go_quiet (fail);go_wp2_with (first|(go_at_call 178;refine(aD.out _ (below_drewN HI.out.2.1 _)).mono ?_;rintro e w1 ⟨v1,rfl,ay,Z⟩;obtain⟨aj,ah,rfl⟩:=own_slice ay)|(at_builtin;refine wpList_append_own _ rfl _ _ 52 rfl w.heap.size 84 i0 (.slice none 0 0) 1 24 Tryz.underlying52 hi a8 bk bf rfl (by decide) _ _ _ rfl ((owns_below (Qa3 O.out _) Z).alloc _) ⟨w1.heap.size,0,none⟩ 1 1 [.slice aj bl ah] rfl rfl (news1 _ _ _ _ rfl) (Qc2 _ _ _) ?c3 ?c4 ?c5 ?_))
        case c3=>unfold maxLen;omega
        case c4=>omega
        case c5=>have h1:=Z.size;have h2:wr.heap.size<=w1.heap.size:=h1;simp;omega
        intro v' w5 ak N _;have b5:wr.heap.size<=w1.heap.size:=Z.size;have bd:Below w.heap.size w w1:=bel_then (below_drewN HI.out.2.1 _) Z;have ax:=((owns_below (Qa3 O.out _) Z).alloc (.cells #[.slice aj bl ah] 84));have ao:Below w.heap.size w w5:=(bd.alloc (by omega) _).grown N (by simp;omega) (fun q hq=>(O.out.lt q hq).1);have aR:=(((QdZ HI.out.1 _).below Z).below (Qaa w1 (.cells #[.slice aj bl ah] 84))).grow ax N;have aB:=(ay.alloc (.cells #[.slice aj bl ah] 84)).kept N (Qb2 (by decide) (ay.alloc _) ax);rw[<-aO.out] at aB;have aC:=aR.snoc (own_mono (show w.heap.size<=wr.heap.size by omega) aB) bb.out;rw[List.append_assoc,<-aM.out] at aC;have HF:=Hk (Ai ak (Ai aC ao));have be:=Hk (show U+1=(J++QcO x (D.take (t+1)) p q).length by rw[HI.out.2.2,aM.out];simp only[List.length_append,List.length_cons,List.length_nil];omega);clear ak N aC ao aR aB ax;go_wp2
        go_roundg (D.length-(t+1))
        case measure=>omega
        case rel=>exact⟨t+1,U+1,_,by omega,by go_num,Nat.le_refl _,HF.out.1,by have h:=HF.out.2.1;rw[aO.out] at h;exact h,HF.out.2.2,be.out⟩
       ·have d0':(a.1==b.1)=true:=by simp[d0]
        have d1':(a.2.1==b.2.1)=true:=by simp[d1]
        have d2':(a.2.2.toList==b.2.2.toList)=false:=by simp[d2]
        have I:=Hk (ab.out (by rintro rfl;exact d2 rfl));go_wp2;go_quiet (fail);go_wp2
        go_roundg (D.length-(t+1))
        case measure=>omega
        case rel=>exact⟨t+1,U,ai,by omega,by go_num,Nat.le_refl _,Qa3 O.out _,by rw[I.out];exact QdZ HI.out.1 _,below_drewN HI.out.2.1 _,by rw[I.out];exact HI.out.2.2⟩
      ·have d0':(a.1==b.1)=true:=by simp[d0]
       have d1':(a.2.1==b.2.1)=false:=by simp[d1]
       have I:=Hk (ab.out (by rintro rfl;exact d1 rfl));go_wp2;go_quiet (fail);go_wp2
       go_roundg (D.length-(t+1))
       case measure=>omega
       case rel=>exact⟨t+1,U,ai,by omega,by go_num,Nat.le_refl _,Qa3 O.out _,by rw[I.out];exact QdZ HI.out.1 _,below_drewN HI.out.2.1 _,by rw[I.out];exact HI.out.2.2⟩
     ·have d0':(a.1==b.1)=false:=by simp[d0]
      have I:=Hk (ab.out (by rintro rfl;exact d0 rfl));go_wp2;go_quiet (fail);go_wp2
      go_roundg (D.length-(t+1))
      case measure=>omega
      case rel=>exact⟨t+1,U,ai,by omega,by go_num,Nat.le_refl _,Qa3 O.out _,by rw[I.out];exact QdZ HI.out.1 _,below_drewN HI.out.2.1 _,by rw[I.out];exact HI.out.2.2⟩
    ·have b3:t=D.length:=by omega
     have aZ:¬((t:Int)<(D.length:Int)):=by omega
     have ac:=Hk (show J++QcO x (D.take t) p q=joinL (F.take (k+1)) D p q by rw[bp.out,List.take_of_length_le (by omega)]);go_wp2
     go_roundg (F.length-(k+1))
     case measure=>omega
     case rel=>exact⟨k+1,U,ai,by omega,by go_num,Nat.le_refl _,O.out,by rw[<-ac.out];exact HI.out.1,HI.out.2.1,by rw[<-ac.out];exact HI.out.2.2⟩
  ·have bT:k=F.length:=by omega
   have a0:¬((k:Int)<(F.length:Int)):=by omega
   have ac:=Hk (show joinL (F.take k) D p q=joinL F D p q by rw[List.take_of_length_le (by omega)]);go_wp2;go_ret;exact⟨_,rfl,us,by rw[<-ac.out,<-HH.out.2.2];exact O.out,by rw[<-ac.out];exact HH.out.1,HH.out.2.1⟩
def QbM (cs:List Cl) (k:Nat):Int:=(cs[k]?.getD (⟨#[]⟩,0)).2
def QaM (cs:List Cl) (x y:ByteArray):Int:=
 match Qaq cs x.data.toList,Qaq cs y.data.toList with
 |some p,some q=>if QbM cs q≠1 then 13 else if p=q then 9 else 0
 |_,_=>7
theorem QaN {cs:List Cl} {nm:List UInt8} {p:Nat} (h:Qaq cs nm=some p):QaB cs nm=(p:Int):=by rw[QaB,h]
theorem QcE {cs:List Cl} {nm:List UInt8} (h:Qaq cs nm=none):QaB cs nm= -1:=by rw[QaB,h]
theorem Qd0 {cs:List Cl} {k:Nat} (h:k<cs.length):cs[k].2=QbM cs k:=by unfold QbM;rw[List.getElem?_eq_getElem h];rfl
theorem group_any (b o n c J M cc:Nat) (cs:List Cl) (x y:ByteArray) (j:Jb) (w:World) (hj:j.cols=.slice (some ⟨J,M,none⟩) 2 cc) (am:j.op=⟨#[115,117,109]⟩) (aa:J<w.heap.size) (s0:w.cell? ⟨J,M,none⟩=some (.string x)) (s1:w.cell? ⟨J,M+1,none⟩=some (.string y))
 (hn:cs.length=n) (ar:n<=100) (hb:b<w.heap.size) (hc:Qau w b o cs):
 Calls Tryz.prog 129 #[.agg j.cells,.slice (some ⟨b,o,none⟩) n c] w fun e w'=>e=.returned (QbK (QaM cs x y))/\Below w.heap.size w w':=by
 have hP:=fun nm W (h1:Below w.heap.size w W)=>QaH b o n c cs nm W hn ar (by have:=h1.size;omega) (hc.below h1 hb)
 have hJ:=Qce w j 50;have F:=Qaa w (.cells j.cells 50);obtain⟨W,O⟩:∃W,W=w.alloc (.cells j.cells 50):=⟨_,rfl⟩;rw[<-O] at hJ F;have e4:=cell_regrown (show W.cell? ⟨w.heap.size,4,none⟩=some (.slice (some ⟨J,M,none⟩) 2 cc) from by have:=hJ 4 j.cols rfl;rw[hj] at this;exact this);have e5:=cell_regrown (cK F aa s0);have e6:=cell_regrown (cK F aa s1);have C1:∀nm d os,_:=fun nm d os=>Calls.regrown_of (hP nm (Sort.grow (redrawn W d) os) (bel_then F (below_regrown _ _ _)))
 have HB:=Hk F;have HC:=Hk (Ai hn hc);obtain⟨P,Z⟩:∃P,QaB cs x.data.toList=P:=⟨_,rfl⟩;obtain⟨Q,U⟩:∃Q,QaB cs y.data.toList=Q:=⟨_,rfl⟩;have H:=Hk (Ai Z U);clear hJ F hn hc hP;unfold Jb.cells at O⊢;rw[hj,am] at O⊢;go_enter Tryz.func129,Tryz.ntmps129;go_wp2;rw[<-O];clear O;refine wp_region_quiet_below (by kernel_rfl) (by kernel_rfl) ?_
 repeat(any_goals(first|go_big_quiet_step (exact C1 _ _ _)|quiet_step (exact C1 _ _ _)))
 refine wpQuiet_nil ?_;intro _ aj;obtain⟨⟨dq,ac⟩,ae⟩:=aj;subst ae;have D:=Hk (bel_then HB.out (below_regrown W dq ac));clear e4 e5 e6 C1 HB;generalize Sort.grow (redrawn W dq) ac=W5 at*
 try rw[Z]
 try rw[U]
 clear Z U
 cases hpx:Qaq cs x.data.toList with
 |none=>
  have h:QaM cs x y=7:=by unfold QaM;rw[hpx]
  have I:=Hk h;have K:P= -1:=by rw[<-H.out.1];exact QcE hpx
  subst K;clear hpx h H;go_wp2;go_ret;exact⟨by rw[I.out,QaS (by decide)];rfl,D.out⟩
 |some p=>
  have K:P=(p:Int):=by rw[<-H.out.1];exact QaN hpx
  cases hqy:Qaq cs y.data.toList with
  |none=>
   have h:QaM cs x y=7:=by unfold QaM;rw[hpx,hqy]
   have I:=Hk h;have N:Q= -1:=by rw[<-H.out.2];exact QcE hqy
   subst N K;have au:¬((p:Int)<0):=by omega
   clear hpx hqy h H;go_wp2;go_ret;exact⟨by rw[I.out,QaS (by decide)];rfl,D.out⟩
  |some q=>
   have N:Q=(q:Int):=by rw[<-H.out.2];exact QaN hqy
   have ad:=Qap hqy;have V:=((HC.out.2 q ad).2);rw[Qd0 ad] at V;have d5:=cK D.out hb V;have aD:(q:Int)<(n:Int):=by have:=HC.out.1;omega
   have au:¬((p:Int)<0):=by omega
   have aE:¬((q:Int)<0):=by omega
   have h:QaM cs x y=if QbM cs q≠1 then 13 else if p=q then 9 else 0:=by unfold QaM;rw[hpx,hqy]
   clear hpx hqy V;subst N K;generalize QbM cs q=kd at*
   by_cases hk:kd=1
   ·subst hk;rw[if_neg (by decide)] at h
    by_cases ab:p=q
    ·subst ab;rw[if_pos rfl] at h;have I:=Hk h;clear h;go_wp2;go_ret;exact⟨by rw[I.out,QaS (by decide)];rfl,D.out⟩
    ·rw[if_neg ab] at h;have I:=Hk h;clear h;have hpq':¬((p:Int)=(q:Int)):=by omega
     go_wp2;go_ret;exact⟨by rw[I.out,QeH];rfl,D.out⟩
   ·rw[if_pos hk] at h;have I:=Hk h;clear h;go_wp2;go_ret;exact⟨by rw[I.out,QaS (by decide)];rfl,D.out⟩
def Qd1 (l:List Cl):Bool:=(List.range l.length).any fun i=>decide (QaB l ((l[i]?.getD (⟨#[]⟩,0)).1.data.toList)<(i:Int))
def QaW (cs ds:List Cl) (x y:ByteArray):Int:=
 match Qaq cs x.data.toList,Qaq ds y.data.toList with
 |some p,some q=>if QbM cs p≠QbM ds q then 13 else if Qd1 (Qb7 cs ds q)=true then 9 else if 6<(Qb7 cs ds q).length then 4 else 0
 |_,_=>7
theorem Qjo {l:List Cl} {i:Nat} (h:i<l.length) (y:QaB l (l[i].1.data.toList)<(i:Int)):Qd1 l=true:=by
 unfold Qd1;rw[List.any_eq_true];exact⟨i,List.mem_range.2 h,by rw[List.getElem?_eq_getElem h];exact decide_eq_true y⟩
theorem QlW {l:List Cl} (h:∀i (y:i<l.length),¬QaB l (l[i].1.data.toList)<(i:Int)):Qd1 l=false:=by
 unfold Qd1;rw[List.any_eq_false];intro i y;have hi':=List.mem_range.1 y;rw[List.getElem?_eq_getElem hi'];simpa using h i hi'
theorem Qjp (b o n c b2 o2 V c2 Z co cc:Nat) (cs D:List Cl) (x y:ByteArray) (j:Jb) (w:World) (hj:j.cols=.slice (some ⟨Z,co,none⟩) 2 cc) (aJ:Z<w.heap.size) (s0:w.cell? ⟨Z,co,none⟩=some (.string x)) (s1:w.cell? ⟨Z,co+1,none⟩=some (.string y))
 (hn:cs.length=n) (bn:1<=n) (bp:n<=40) (hb:b<w.heap.size) (hc:Qau w b o cs) (az:D.length=V) (bm:V<=40) (aM:V<=c2) (aq:b2<w.heap.size) (ap:Qau w b2 o2 D) (aC:∀z∈cs++D,z.1.size<=maxLen):
 Calls Tryz.prog 128 #[.agg j.cells,.slice (some ⟨b,o,none⟩) n c,.slice (some ⟨b2,o2,none⟩) V c2] w fun e w'=>e=.returned (QbK (QaW cs D x y))/\Below w.heap.size w w':=by
 have aB:∀(v:Value) (nm:ByteArray) (k:Int) (W:World),Below w.heap.size w W->(v=.slice (some ⟨b,o,none⟩) n c/\k=QaB cs nm.data.toList\/v=.slice (some ⟨b2,o2,none⟩) V c2/\k=QaB D nm.data.toList)->Calls Tryz.prog 133 #[v,.string nm] W fun e w'=>e=.returned (.int .i64 k)/\Below W.heap.size W w':=by
  rintro v nm k W h1 (⟨rfl,rfl⟩|⟨rfl,rfl⟩)
  ·exact QaH b o n c cs nm W hn (by omega) (by have:=h1.size;omega) (hc.below h1 hb)
  ·exact QaH b2 o2 V c2 D nm W az (by omega) (by have:=h1.size;omega) (ap.below h1 aq)
 have hJ:=Qce w j 50;have K:=Qaa w (.cells j.cells 50);obtain⟨W,hW⟩:∃W,W=w.alloc (.cells j.cells 50):=⟨_,rfl⟩;rw[<-hW] at hJ K;have e4:=cell_regrown (show W.cell? ⟨w.heap.size,4,none⟩=some (.slice (some ⟨Z,co,none⟩) 2 cc) from by have:=hJ 4 j.cols rfl;rw[hj] at this;exact this);have e5:=cell_regrown (cK K aJ s0);have e6:=cell_regrown (cK K aJ s1);have C1:=fun v nm k d os h=>Calls.regrown_of (aB v nm k (Sort.grow (redrawn W d) os) (bel_then K (below_regrown _ _ _)) h)
 have HB:=Hk K;have F:=Hk (Ai hn (Ai hc (Ai az (Ai ap aC))));obtain⟨P,am⟩:∃P,QaB cs x.data.toList=P:=⟨_,rfl⟩;obtain⟨Q,au⟩:∃Q,QaB D y.data.toList=Q:=⟨_,rfl⟩;have J:=Hk (Ai am au);clear hJ K hn hc aB az ap aC;unfold Jb.cells at hW⊢;rw[hj] at hW⊢;go_enter Tryz.func128,Tryz.ntmps128;go_wp2;rw[<-hW];clear hW;refine wp_region_quiet_below (by kernel_rfl) (by kernel_rfl) ?_
 repeat(any_goals(first|go_big_quiet_step (exact C1 _ _ _ _ _ (by first|exact Or.inl ⟨rfl,rfl⟩|exact Or.inr ⟨rfl,rfl⟩))|quiet_step (exact C1 _ _ _ _ _ (by first|exact Or.inl ⟨rfl,rfl⟩|exact Or.inr ⟨rfl,rfl⟩))))
 refine wpQuiet_nil ?_;intro _ aV;obtain⟨⟨dq,aG⟩,aP⟩:=aV;subst aP;have I:=Hk (bel_then HB.out (below_regrown W dq aG));clear e4 e5 e6 C1 HB;generalize Sort.grow (redrawn W dq) aG=W5 at*
 try rw[am]
 try rw[au]
 clear am au
 cases hpx:Qaq cs x.data.toList with
 |none=>
  have O:=Hk (show QaW cs D x y=7 by unfold QaW;rw[hpx]);have ac:P= -1:=by rw[<-J.out.1];exact QcE hpx
  subst ac;clear hpx J;go_wp2;go_ret;exact⟨by rw[O.out,QaS (by decide)];rfl,I.out⟩
 |some p=>
  have ac:P=(p:Int):=by rw[<-J.out.1];exact QaN hpx
  cases hqy:Qaq D y.data.toList with
  |none=>
   have O:=Hk (show QaW cs D x y=7 by unfold QaW;rw[hpx,hqy]);have ax:Q= -1:=by rw[<-J.out.2];exact QcE hqy
   subst ax ac;have a4:¬((p:Int)<0):=by omega
   clear hpx hqy J;go_wp2;go_ret;exact⟨by rw[O.out,QaS (by decide)];rfl,I.out⟩
  |some q=>
   have ax:Q=(q:Int):=by rw[<-J.out.2];exact QaN hqy
   have ar:=Qap hpx;have ad:=Qap hqy;have aj:=((F.out.2.1 p ar).2);have aw:=((F.out.2.2.2.1 q ad).2);rw[Qd0 ar] at aj;rw[Qd0 ad] at aw;have d5:=cK I.out hb aj;have d6:=cK I.out aq aw;have bu:(p:Int)<(n:Int):=by have:=F.out.1;omega
   have bs:(q:Int)<(V:Int):=by have:=F.out.2.2.1;omega
   have a4:¬((p:Int)<0):=by omega
   have bo:¬((q:Int)<0):=by omega
   have hv:QaW cs D x y=if QbM cs p≠QbM D q then 13 else if Qd1 (Qb7 cs D q)=true then 9 else if 6<(Qb7 cs D q).length then 4 else 0:=by unfold QaW;rw[hpx,hqy]
   have ai:=Hk ad;clear hpx hqy aj aw ar ad;subst ax ac;generalize QbM cs p=kp at*;generalize QbM D q=kq at*
   by_cases N:kp=kq
   ·subst N;rw[if_neg (by simp)] at hv;have O:=Hk hv;clear hv;have aA:=Hk (fun W' (H:Below w.heap.size w W')=>Qgv b o c b2 o2 c2 q cs D W' (by have:=H.size;omega) (F.out.2.1.below H hb) (by have:=H.size;omega) (F.out.2.2.2.1.below H aq) ai.out (by rw[F.out.2.2.1];exact aM) (by rw[F.out.1];omega) (by rw[F.out.2.2.1];omega));rw[F.out.1,F.out.2.2.1] at aA;have aD:=Hk (QgR cs D q ai.out);have a0:Hid (∀z∈Qb7 cs D q,z.1.size<=maxLen):=Hk (fun z M=>F.out.2.2.2.2 z (by
     unfold Qb7 at M;rw[List.mem_append,List.mem_append] at M;rw[List.mem_append];rcases M with (M|M)|M
     ·exact Or.inl M
     ·exact Or.inr (List.mem_of_mem_take M)
     ·exact Or.inr (List.mem_of_mem_drop M)))
    generalize Qb7 cs D q=L at*;have aY:1<=L.length:=by have h1:=aD.out;have h2:=F.out.1;have h3:=ai.out;omega
    have bq:L.length<=80:=by have h1:=aD.out;have h2:=F.out.1;have h3:=F.out.2.2.1;omega
    go_wp2;go_quiet (fail);go_wp2_with (go_at_call 132;fail);refine(aA.out _ (below_drewN I.out _)).mono ?_;rintro e W6 ⟨v6,rfl,aE,aH⟩;have aF:=Qbl aE a0.out;obtain⟨lb,lo,lc,rfl,aK,ak⟩:=QbF aF aY;have al:=Hk (bel_then (below_drewN I.out _) aH);have aI:=Hk ak;clear aE aH aF ak aA d5 d6;go_wp2
    go_loopg [54] L.length (fun g1 vi wr=>∃i:Nat,vi=.int .i64 i/\i<=L.length/\L.length-i<=g1/\Aside (Below W6.heap.size W6 wr/\∀k (N:k<L.length),k<i->¬QaB L (L[k].1.data.toList)<(k:Int)))
    case atStart=>exact⟨0,rfl,Nat.zero_le _,by omega,Below.refl _ _,fun k _ h=>absurd h (by omega)⟩
    case round=>
     obtain⟨i,rfl,bt,hg,HI⟩:=hrel
     by_cases hlt:i<L.length
     ·have aQ:(i:Int)<(L.length:Int):=by omega
      have br:=HI.out.1.size;obtain⟨c0,c1⟩:=(aI.out.below HI.out.1 aK) i hlt;have ao:=Hk (fun W' (H:Below wr.heap.size wr W')=>QaH lb lo L.length lc L L[i].1 W' rfl (by omega) (by have:=H.size;omega) ((aI.out.below HI.out.1 aK).below H (by omega)));obtain⟨R,hR⟩:∃R,QaB L (L[i].1.data.toList)=R:=⟨_,rfl⟩;have HR:=Hk hR;rw[hR] at ao;clear hR
      by_cases hRi:R<(i:Int)
      ·have aW:=Hk (Qjo hlt (by rw[HR.out];exact hRi));generalize L[i]=z at*;go_wp2_with (go_at_call 133;fail);refine(ao.out _ (Qaa _ _)).mono ?_;rintro e W7 ⟨rfl,U⟩;have av:=Hk (bel_then (bel_then al.out HI.out.1) (bel_then (Qaa _ _) U));clear U c0 c1;go_wp2;go_ret;exact⟨by rw[O.out,if_pos aW.out,QaS (by decide)];rfl,av.out⟩
      ·have ab:=Hk (show∀k (N:k<L.length),k<i+1->¬QaB L (L[k].1.data.toList)<(k:Int) from fun k N hki=>by
        rcases Nat.lt_or_ge k i with h|h
        ·exact HI.out.2 k N h
        ·obtain rfl:k=i:=by omega
         rw[HR.out];exact hRi)
       generalize L[i]=z at*;go_wp2_with (go_at_call 133;fail);refine(ao.out _ (Qaa _ _)).mono ?_;rintro e W7 ⟨rfl,U⟩;have av:=Hk (bel_then HI.out.1 (bel_then (Qaa _ _) U));clear U c0 c1;go_wp2
       go_roundg (L.length-(i+1))
       case measure=>omega
       case rel=>exact⟨i+1,by go_num,by omega,Nat.le_refl _,av.out,ab.out⟩
     ·have aQ:¬((i:Int)<(L.length:Int)):=by omega
      have ab:=Hk (QlW (fun k N=>HI.out.2 k N (by omega)))
      by_cases h6:6<L.length
      ·have a5:(6:Int)<(L.length:Int):=by omega
       go_wp2;go_ret;exact⟨by rw[O.out,if_neg (by rw[ab.out];decide),if_pos h6,QaS (by decide)];rfl,bel_then al.out HI.out.1⟩
      ·have a5:¬((6:Int)<(L.length:Int)):=by omega
       go_wp2;go_ret;exact⟨by rw[O.out,if_neg (by rw[ab.out];decide),if_neg h6,QeH];rfl,bel_then al.out HI.out.1⟩
   ·rw[if_pos N] at hv;have O:=Hk hv;clear hv;have hk':(kp==kq)=false:=by simp[N]
    go_wp2;go_quiet (fail);go_wp2;go_ret;exact⟨by rw[O.out,QaS (by decide)];rfl,below_drewN I.out _⟩
end Go.Proofs.YtjlgejennghhlaaGreatDoor
