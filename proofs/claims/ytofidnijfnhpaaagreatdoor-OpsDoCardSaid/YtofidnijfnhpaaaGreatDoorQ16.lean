import Derived.Test.YtofidnijfnhpaaaGreatDoorQ01
import Derived.Test.YtofidnijfnhpaaaGreatDoorQ11
import Derived.Test.YtofidnijfnhpaaaGreatDoorQ15
set_option linter.unusedSimpArgs false
set_option linter.unusedVariables false
set_option linter.unusedSectionVars false
set_option maxRecDepth 1000000
set_option maxHeartbeats 16000000
namespace Go.Proofs.YtofidnijfnhpaaaGreatDoor
open Go.RowKit
def Qlg (w:World) (v:Value) (vs:List Vl):Prop:=∃a c,v=.slice a vs.length c/\vs.length<=c/\(∀x∈vs,x.2.2.size<=maxLen)/\(vs=[]\/∃b o,a=some ⟨b,o,none⟩/\b<w.heap.size/\QaK w b o vs)
def QcS (w:World) (v:Value) (rs:List (List Vl)):Prop:=∃a c,v=.slice a rs.length c/\(rs=[]\/∃b o,a=some ⟨b,o,none⟩/\b<w.heap.size/\∀(j:Nat) (h:j<rs.length),∃u,w.cell? ⟨b,o+j,none⟩=some u/\Qlg w u rs[j])
theorem Qlg.below {w z:World} {v:Value} {j:List Vl} (h:Qlg w v j) (q:Below w.heap.size w z):Qlg z v j:=by
 obtain⟨a,c,e,E,B,h⟩:=h
 refine⟨a,c,e,E,B,?_⟩
 rcases h with h|⟨b,o,D,y,A⟩
 ·exact Or.inl h
 ·exact Or.inr ⟨b,o,D,Nat.lt_of_lt_of_le y q.size,A.below q y⟩
theorem QcS.below {w z:World} {v:Value} {rs:List (List Vl)} (h:QcS w v rs) (q:Below w.heap.size w z):QcS z v rs:=by
 obtain⟨a,c,e,h⟩:=h
 refine⟨a,c,e,?_⟩
 rcases h with h|⟨b,o,D,y,A⟩
 ·exact Or.inl h
 ·refine Or.inr ⟨b,o,D,Nat.lt_of_lt_of_le y q.size,fun j hj=>?_⟩
  obtain⟨u,B,E⟩:=A j hj
  exact⟨u,cK q y B,E.below q⟩
theorem Qlg.is {w:World} {v:Value} {j:List Vl} (h:Qlg w v j):Qbk w v j:=by
 obtain⟨a,c,e,-,o,h⟩:=h
 exact⟨a,c,e,o,h⟩
theorem QcS.is {w:World} {v:Value} {rs:List (List Vl)} (h:QcS w v rs):QaC w v rs:=by
 obtain⟨a,c,e,h⟩:=h
 refine⟨a,c,e,?_⟩
 rcases h with h|⟨b,o,A,z,q⟩
 ·exact Or.inl h
 ·exact Or.inr ⟨b,o,A,z,fun j hj=>by obtain⟨u,y,B⟩:=q j hj;exact⟨u,y,B.is⟩⟩
theorem QfH {w:World} {v:Value} {rs:List (List Vl)} {j m:Nat} (h:QcS w v rs) (y:j<rs.length) (A:rs[j].length=m) (O:1<=m):∃b o c yb yo yc,v=.slice (some ⟨b,o,none⟩) rs.length c/\b<w.heap.size/\w.cell? ⟨b,o+j,none⟩=some (.slice (some ⟨yb,yo,none⟩) m yc)/\m<=yc/\yb<w.heap.size/\QaK w yb yo rs[j]:=by
 obtain⟨a,c,rfl,h⟩:=h
 rcases h with h|⟨b,o,rfl,K,F⟩
 ·rw[h] at y;simp at y
 obtain⟨u,D,N,J,rfl,q,-,B⟩:=F j y
 rw[A] at D q
 rcases B with B|⟨M,I,rfl,E,z⟩
 ·rw[B] at A;simp at A;omega
 ·exact⟨b,o,c,M,I,J,rfl,K,D,q,E,z⟩
def Qb4 (x:List Vl) (qb:List (List Vl)) (p q:Nat):List (List Vl):=(qb.filter fun y=>decide (vAt x p=vAt y q)).map fun y=>Qb0 x y q
def Qbr (qa qb:List (List Vl)) (p q:Nat):List (List Vl):=qa.flatMap fun x=>Qb4 x qb p q
theorem Qfe (x:List Vl) (j:List (List Vl)) (p q k:Nat) (h:k<j.length):Qb4 x (j.take (k+1)) p q=Qb4 x (j.take k) p q++if vAt x p=vAt j[k] q then[Qb0 x j[k] q] else[]:=by
 unfold Qb4
 rw[List.take_succ_eq_append_getElem h,List.filter_append,List.map_append]
 by_cases e:vAt x p=vAt j[k] q
 ·rw[if_pos e,List.filter_cons_of_pos (by simpa using e)];rfl
 ·rw[if_neg e,List.filter_cons_of_neg (by simpa using e)];rfl
theorem Qff (j o:List (List Vl)) (p q k:Nat) (h:k<j.length):Qbr (j.take (k+1)) o p q=Qbr (j.take k) o p q++Qb4 j[k] o p q:=by
 unfold Qbr
 rw[List.take_succ_eq_append_getElem h,List.flatMap_append]
 simp
theorem QeB (x:List Vl) (h:List (List Vl)) (p q:Nat):(Qb4 x h p q).length<=h.length:=by
 unfold Qb4
 rw[List.length_map]
 exact List.length_filter_le _ _
theorem QeC (h j:List (List Vl)) (p q:Nat):(Qbr h j p q).length<=h.length*j.length:=by
 unfold Qbr
 induction h with
 |nil=>simp
 |cons x h ih=>
  rw[List.flatMap_cons,List.length_append,List.length_cons,Nat.add_mul]
  have:=QeB x j p q
  omega
theorem Qgp {x y:List Vl} {k:Nat} (o:∀z∈x,z.2.2.size<=maxLen) (j:∀z∈y,z.2.2.size<=maxLen):∀z∈Qb0 x y k,z.2.2.size<=maxLen:=by
 intro z h
 unfold Qb0 at h
 rw[List.mem_append,List.mem_append] at h
 rcases h with (h|h)|h
 ·exact o z h
 ·exact j z (List.mem_of_mem_take h)
 ·exact j z (List.mem_of_mem_drop h)
theorem QbS {x y:ByteArray} (h:x.toList=y.toList):x=y:=Qji (by rw[ByteArray.toList_eq,ByteArray.toList_eq] at h;exact h)
theorem Qbe {w:World} {B:Nat} {e:TypeId} {z n:Nat} {v:Value} {j:List Value} (h:w.ownsRow B e z v n j) (q:Nat):(w.drewN q).ownsRow B e z v n j:=h
theorem Qdt {w:World} {B:Nat} {us:List Value} {rs:List (List Vl)} (h:Qac w B us rs) (q:Nat):Qac (w.drewN q) B us rs:=h
theorem Qiw (v v2:Value) (o j:List (List Vl)) (n m p q:Nat) (w:World) (ha:QcS w v o) (hb:QcS w v2 j) (aE:∀r∈o,r.length=n) (aM:∀r∈j,r.length=m) (a4:1<=n) (bL:n<=50) (aZ:1<=m) (bQ:m<=50) (hp:p<n) (hq:q<m) (bY:o.length<=100) (aT:j.length<=100):
 Calls Tryz.prog 73 #[v,v2,.int .i64 p,.int .i64 q] w fun e w'=>∃v' us,e=.returned v'/\w'.ownsRow w.heap.size 57 1 v' (Qbr o j p q).length us/\Qac w' w.heap.size us (Qbr o j p q)/\Below w.heap.size w w':=by
 obtain⟨i0,hi,bk,a5,a7⟩:=info_parts Tryz.infoRow
 have HA:=Hk (Ai ha aE)
 have HB:=Hk (Ai hb aM)
 clear aE aM
 obtain⟨va,bP,rfl,-⟩:=ha
 obtain⟨vb,bM,rfl,-⟩:=hb
 go_enter Tryz.func73,Tryz.ntmps73
 go_wp2
 go_loopg [9,16] o.length (fun g1 l i wr=>∃(k n0:Nat) (us:List Value),k<=o.length/\i=.int .i64 k/\o.length-k<=g1/\wr.ownsRow w.heap.size 57 1 l n0 us/\Aside (Qac wr w.heap.size us (Qbr (o.take k) j p q)/\Below w.heap.size w wr/\n0=(Qbr (o.take k) j p q).length))
 case atStart=>exact⟨0,0,[],Nat.zero_le _,rfl,by omega,World.ownsRow_nil _ _ _ _,by simpa [Qbr] using Qac.nil _ _,Below.refl _ _,by simp[Qbr]⟩
 case round=>
  obtain⟨k,n0,us,hk,rfl,hg,B,V⟩:=hrel
  obtain⟨la,lc,rfl⟩:=Qae B
  have I:=Hk B
  clear B
  by_cases hlt:k<o.length
  ·have aQ:(k:Int)<(o.length:Int):=by omega
   have bR:=V.out.2.1.size
   obtain⟨b1,o1,c1,xb,xo,xc,aa,aU,aK,bX,aG,ab⟩:=QfH HA.out.1 hlt (HA.out.2 _ (List.getElem_mem hlt)) a4
   simp only[Value.slice.injEq,true_and] at aa
   obtain⟨rfl,rfl⟩:=aa
   have hxu':=cK V.out.2.1 aU aK
   have O:=Hk (HA.out.2 _ (List.getElem_mem hlt))
   clear aK
   obtain⟨x,ag⟩:∃x,o[k]=x:=⟨_,rfl⟩
   rw[ag] at ab O
   have bg:Hid (∀z∈x,z.2.2.size<=maxLen):=by
    obtain⟨_,_,_,h⟩:=HA.out.1
    rcases h with h|⟨_,_,_,_,ao⟩
    ·rw[h] at hlt;simp at hlt
    ·obtain⟨_,_,_,_,_,_,hs,_⟩:=ao k hlt
     rw[ag] at hs
     exact Hk hs
   have a8:=Hk (show Qbr (o.take (k+1)) j p q=Qbr (o.take k) j p q++Qb4 x j p q by rw[Qff o j p q k hlt,ag])
   have bn:=Hk (QeC (o.take k) j p q)
   generalize Qbr (o.take k) j p q=J at*
   have HX:=Hk ab
   have HV:=Hk (show vAt x p=x[p]'(by rw[O.out];exact hp) from QbB _)
   clear ab ag
   have bW:J.length<=10000:=by
    have h1:=bn.out
    rw[List.length_take] at h1
    have h2:min k o.length*j.length<=100*100:=Nat.mul_le_mul (by omega) aT
    omega
   go_wp2
   go_loopg [9,22] j.length (fun g2 l i wr2=>∃(t M:Nat) (us:List Value),t<=j.length/\i=.int .i64 t/\j.length-t<=g2/\wr2.ownsRow w.heap.size 57 1 l M us/\Aside (Qac wr2 w.heap.size us (J++Qb4 x (j.take t) p q)/\Below w.heap.size w wr2/\M=(J++Qb4 x (j.take t) p q).length))
   case atStart=>exact⟨0,n0,us,Nat.zero_le _,rfl,by omega,I.out,by simpa [Qb4] using V.out.1,V.out.2.1,by rw[V.out.2.2];simp[Qb4]⟩
   case round=>
    clear I
    obtain⟨t,M,ae,ht,rfl,bZ,B,A⟩:=hrel
    obtain⟨bT,bV,rfl⟩:=Qae B
    have I:=Hk B
    clear B
    have bo:=A.out.2.1.size
    have bU:=Hk A.out.2.1
    by_cases htl:t<j.length
    ·have aS:(t:Int)<(j.length:Int):=by omega
     obtain⟨b2,o2,c2,yb,yo,yc,aa,aR,aH,ba,aP,U⟩:=QfH HB.out.1 htl (HB.out.2 _ (List.getElem_mem htl)) aZ
     simp only[Value.slice.injEq,true_and] at aa
     obtain⟨rfl,rfl⟩:=aa
     have hyu':=cK A.out.2.1 aR aH
     have E:=Hk (HB.out.2 _ (List.getElem_mem htl))
     clear aH
     have aj:=Hk (Qfe x j p q t htl)
     obtain⟨y,av⟩:∃y,j[t]=y:=⟨_,rfl⟩
     rw[av] at U E aj
     have bh:Hid (∀z∈y,z.2.2.size<=maxLen):=by
      obtain⟨_,_,_,h⟩:=HB.out.1
      rcases h with h|⟨_,_,_,_,ao⟩
      ·rw[h] at htl;simp at htl
      ·obtain⟨_,_,_,_,_,_,hs,_⟩:=ao t htl
       rw[av] at hs
       exact Hk hs
     have bd:=Hk (show vAt y q=y[q]'(by rw[E.out];exact hq) from QbB _)
     have be:=Hk (QeB x (j.take t) p q)
     have b4:(Qb4 x (j.take t) p q).length<=100:=by have:=be.out;rw[List.length_take] at this;omega
     obtain⟨e0,e1,e2⟩:=(HX.out.below A.out.2.1 aG) p (by rw[O.out];exact hp)
     obtain⟨f0,f1,f2⟩:=(U.below A.out.2.1 aP) q (by rw[E.out];exact hq)
     have bj:=Hk U
     obtain⟨a,al⟩:∃a,x[p]'(by rw[O.out];exact hp)=a:=⟨_,rfl⟩
     obtain⟨b,aq⟩:∃b,y[q]'(by rw[E.out];exact hq)=b:=⟨_,rfl⟩
     rw[al] at e0 e1 e2
     rw[aq] at f0 f1 f2
     have aN:=Hk (show(vAt x p=vAt y q↔a=b) by rw[HV.out,bd.out,al,aq])
     generalize Qb4 x (j.take t) p q=K at*
     clear U av al aq
     have bJ:(p:Int)<(n:Int):=by omega
     have bS:(q:Int)<(m:Int):=by omega
     have T:Aside (a≠b->Qb4 x (j.take (t+1)) p q=K):=fun hne=>by rw[aj.out,if_neg (fun h=>hne (aN.out.1 h))];simp
     by_cases d0:a.1=b.1
     ·by_cases d1:a.2.1=b.2.1
      ·by_cases d2:a.2.2.toList=b.2.2.toList
       ·have aJ:a=b:=Prod.ext d0 (Prod.ext d1 (QbS d2))
        have aO:=Hk (show Qb4 x (j.take (t+1)) p q=K++[Qb0 x y q] by rw[aj.out,if_pos (aN.out.2 aJ)])
        subst aJ
        clear d0 d1 d2 T
        have am:=Hk (fun W (hW:Below w.heap.size w W)=>Qit xb xo xc yb yo yc q x y W (by have:=hW.size;omega) (HX.out.below hW aG) (by have:=hW.size;omega) (bj.out.below hW aP) (by rw[E.out];exact hq) (by rw[E.out];exact ba) (by rw[O.out];omega) (by rw[E.out];omega))
        rw[O.out,E.out] at am
        have a9:=Hk (Qgp (k:=q) bg.out bh.out)
        have b5:M<=20000:=by have:=A.out.2.2;rw[List.length_append] at this;omega
        obtain⟨bl,ay⟩:∃z,(Qb0 x y q).length=z:=⟨_,rfl⟩
        have aL:=Hk ay
        rw[ay] at am
        clear ay
        go_wp2
        go_quiet (fail)
        go_wp2_with (first|(go_at_call 100;refine(am.out _ (below_drewN A.out.2.1 _)).mono ?_;rintro e w1 ⟨v1,rfl,ak,N⟩;obtain⟨af,ad,rfl⟩:=Qae ak)|(at_builtin;refine wpList_append_own _ rfl _ _ 34 rfl w.heap.size 57 i0 (.slice none 0 0) 1 24 Tryz.underlying34 hi bk a5 a7 rfl (by decide) _ _ _ rfl ((Qaf (Qbe I.out _) N).alloc _) ⟨w1.heap.size,0,none⟩ 1 1 [.slice af bl ad] rfl rfl (QbG _ _ _ _ rfl) (QbZ _ _ _) ?c3 ?c4 ?c5 ?_))
        case c3=>unfold maxLen;omega
        case c4=>omega
        case c5=>have h1:=N.size;have h2:wr.heap.size<=w1.heap.size:=h1;simp;omega
        intro v' w5 ac F _
        have bK:wr.heap.size<=w1.heap.size:=N.size
        have bb:Below w.heap.size w w1:=Qaa (below_drewN A.out.2.1 _) N
        have ar:=((Qaf (Qbe I.out _) N).alloc (.cells #[.slice af bl ad] 57))
        have aw:Below w.heap.size w w5:=(bb.alloc (by omega) _).grown F (by simp;omega) (fun q hq=>(I.out.lt q hq).1)
        have aI:=(((Qdt A.out.1 _).below N).below (Qab w1 (.cells #[.slice af bl ad] 57))).grow ar F
        have au:=(ak.alloc (.cells #[.slice af bl ad] 57)).kept F (Qch (by decide) (ak.alloc _) ar)
        rw[<-aL.out] at au
        have ai:=aI.snoc (Qam (show w.heap.size<=wr.heap.size by omega) au) a9.out
        rw[List.append_assoc,<-aO.out] at ai
        have HF:=Hk (Ai ac (Ai ai aw))
        have bi:=Hk (show M+1=(J++Qb4 x (j.take (t+1)) p q).length by rw[A.out.2.2,aO.out];simp only[List.length_append,List.length_cons,List.length_nil];omega)
        clear ac F ai aw aI au ar
        go_wp2
        go_roundg (j.length-(t+1))
        case measure=>omega
        case rel=>exact⟨t+1,M+1,_,by omega,by go_num,Nat.le_refl _,HF.out.1,by have h:=HF.out.2.1;rw[aL.out] at h;exact h,HF.out.2.2,bi.out⟩
       ·have d0':(a.1==b.1)=true:=by simp[d0]
        have d1':(a.2.1==b.2.1)=true:=by simp[d1]
        have d2':(a.2.2.toList==b.2.2.toList)=false:=by simp[d2]
        have D:=Hk (T.out (by rintro rfl;exact d2 rfl))
        go_wp2
        go_quiet (fail)
        go_wp2
        go_roundg (j.length-(t+1))
        case measure=>omega
        case rel=>exact⟨t+1,M,ae,by omega,by go_num,Nat.le_refl _,Qbe I.out _,by rw[D.out];exact Qdt A.out.1 _,below_drewN A.out.2.1 _,by rw[D.out];exact A.out.2.2⟩
      ·have d0':(a.1==b.1)=true:=by simp[d0]
       have d1':(a.2.1==b.2.1)=false:=by simp[d1]
       have D:=Hk (T.out (by rintro rfl;exact d1 rfl))
       go_wp2
       go_quiet (fail)
       go_wp2
       go_roundg (j.length-(t+1))
       case measure=>omega
       case rel=>exact⟨t+1,M,ae,by omega,by go_num,Nat.le_refl _,Qbe I.out _,by rw[D.out];exact Qdt A.out.1 _,below_drewN A.out.2.1 _,by rw[D.out];exact A.out.2.2⟩
     ·have d0':(a.1==b.1)=false:=by simp[d0]
      have D:=Hk (T.out (by rintro rfl;exact d0 rfl))
      go_wp2
      go_quiet (fail)
      go_wp2
      go_roundg (j.length-(t+1))
      case measure=>omega
      case rel=>exact⟨t+1,M,ae,by omega,by go_num,Nat.le_refl _,Qbe I.out _,by rw[D.out];exact Qdt A.out.1 _,below_drewN A.out.2.1 _,by rw[D.out];exact A.out.2.2⟩
    ·have bO:t=j.length:=by omega
     have aS:¬((t:Int)<(j.length:Int)):=by omega
     have Z:=Hk (show J++Qb4 x (j.take t) p q=Qbr (o.take (k+1)) j p q by rw[a8.out,List.take_of_length_le (by omega)])
     go_wp2
     go_roundg (o.length-(k+1))
     case measure=>omega
     case rel=>exact⟨k+1,M,ae,by omega,by go_num,Nat.le_refl _,I.out,by rw[<-Z.out];exact A.out.1,A.out.2.1,by rw[<-Z.out];exact A.out.2.2⟩
  ·have bN:k=o.length:=by omega
   have aQ:¬((k:Int)<(o.length:Int)):=by omega
   have Z:=Hk (show Qbr (o.take k) j p q=Qbr o j p q by rw[List.take_of_length_le (by omega)])
   go_wp2
   go_ret
   exact⟨_,rfl,us,by rw[<-Z.out,<-V.out.2.2];exact I.out,by rw[<-Z.out];exact V.out.1,V.out.2.1⟩
def QbC (cs:List Cl) (k:Nat):Int:=(cs[k]?.getD (⟨#[]⟩,0)).2
def QaG (cs:List Cl) (x y:ByteArray):Int:=
 match Qak cs x.data.toList,Qak cs y.data.toList with
 |some p,some q=>if QbC cs q≠1 then 13 else if p=q then 9 else 0
 |_,_=>7
theorem Qaw {cs:List Cl} {j:List UInt8} {p:Nat} (h:Qak cs j=some p):Qaq cs j=(p:Int):=by rw[Qaq,h]
theorem QaM {cs:List Cl} {j:List UInt8} (h:Qak cs j=none):Qaq cs j= -1:=by rw[Qaq,h]
theorem Qcd {cs:List Cl} {k:Nat} (h:k<cs.length):cs[k].2=QbC cs k:=by unfold QbC;rw[List.getElem?_eq_getElem h];rfl
theorem group_any (b o n c E I cc:Nat) (cs:List Cl) (x y:ByteArray) (j:Jb) (w:World) (hj:j.cols=.slice (some ⟨E,I,none⟩) 2 cc) (ai:j.op=⟨#[115,117,109]⟩) (Z:E<w.heap.size) (s0:w.cell? ⟨E,I,none⟩=some (.string x)) (s1:w.cell? ⟨E,I+1,none⟩=some (.string y))
 (hn:cs.length=n) (am:n<=100) (hb:b<w.heap.size) (hc:Qas w b o cs):
 Calls Tryz.prog 50 #[.agg j.cells,.slice (some ⟨b,o,none⟩) n c] w fun e w'=>e=.returned (Qbp (QaG cs x y))/\Below w.heap.size w w':=by
 have hP:=fun nm W (h1:Below w.heap.size w W)=>QaL b o n c cs nm W hn am (by have:=h1.size;omega) (hc.below h1 hb)
 have hJ:=Qbd w j 28
 have A:=Qab w (.cells j.cells 28)
 obtain⟨W,J⟩:∃W,W=w.alloc (.cells j.cells 28):=⟨_,rfl⟩
 rw[<-J] at hJ A
 have e4:=cell_regrown (show W.cell? ⟨w.heap.size,4,none⟩=some (.slice (some ⟨E,I,none⟩) 2 cc) from by have:=hJ 4 j.cols rfl;rw[hj] at this;exact this)
 have e5:=cell_regrown (cK A Z s0)
 have e6:=cell_regrown (cK A Z s1)
 have C1:∀nm d os,_:=fun nm d os=>Calls.regrown_of (hP nm (Sort.grow (redrawn W d) os) (Qaa A (below_regrown _ _ _)))
 have HB:=Hk A
 have HC:=Hk (Ai hn hc)
 obtain⟨P,M⟩:∃P,Qaq cs x.data.toList=P:=⟨_,rfl⟩
 obtain⟨Q,K⟩:∃Q,Qaq cs y.data.toList=Q:=⟨_,rfl⟩
 have B:=Hk (Ai M K)
 clear hJ A hn hc hP
 unfold Jb.cells at J⊢
 rw[hj,ai] at J⊢
 go_enter Tryz.func50,Tryz.ntmps50
 go_wp2
 rw[<-J]
 clear J
 refine wp_region_quiet_below (by kernel_rfl) (by kernel_rfl) ?_
 repeat(any_goals(first|go_big_quiet_step (exact C1 _ _ _)|quiet_step (exact C1 _ _ _)))
 refine wpQuiet_nil ?_
 intro _ ag
 obtain⟨⟨dq,V⟩,ae⟩:=ag
 subst ae
 have z:=Hk (Qaa HB.out (below_regrown W dq V))
 clear e4 e5 e6 C1 HB
 generalize Sort.grow (redrawn W dq) V=W5 at*
 try rw[M]
 try rw[K]
 clear M K
 cases hpx:Qak cs x.data.toList with
 |none=>
  have h:QaG cs x y=7:=by unfold QaG;rw[hpx]
  have D:=Hk h
  have F:P= -1:=by rw[<-B.out.1];exact QaM hpx
  subst F
  clear hpx h B
  go_wp2
  go_ret
  exact⟨by rw[D.out,Qa1 (by decide)];rfl,z.out⟩
 |some p=>
  have F:P=(p:Int):=by rw[<-B.out.1];exact Qaw hpx
  cases hqy:Qak cs y.data.toList with
  |none=>
   have h:QaG cs x y=7:=by unfold QaG;rw[hpx,hqy]
   have D:=Hk h
   have N:Q= -1:=by rw[<-B.out.2];exact QaM hqy
   subst N F
   have ak:¬((p:Int)<0):=by omega
   clear hpx hqy h B
   go_wp2
   go_ret
   exact⟨by rw[D.out,Qa1 (by decide)];rfl,z.out⟩
  |some q=>
   have N:Q=(q:Int):=by rw[<-B.out.2];exact Qaw hqy
   have U:=Qaj hqy
   have O:=((HC.out.2 q U).2)
   rw[Qcd U] at O
   have d5:=cK z.out hb O
   have az:(q:Int)<(n:Int):=by have:=HC.out.1;omega
   have ak:¬((p:Int)<0):=by omega
   have ay:¬((q:Int)<0):=by omega
   have h:QaG cs x y=if QbC cs q≠1 then 13 else if p=q then 9 else 0:=by unfold QaG;rw[hpx,hqy]
   clear hpx hqy O
   subst N F
   generalize QbC cs q=kd at*
   by_cases hk:kd=1
   ·subst hk
    rw[if_neg (by decide)] at h
    by_cases T:p=q
    ·subst T
     rw[if_pos rfl] at h
     have D:=Hk h
     clear h
     go_wp2
     go_ret
     exact⟨by rw[D.out,Qa1 (by decide)];rfl,z.out⟩
    ·rw[if_neg T] at h
     have D:=Hk h
     clear h
     have hpq':¬((p:Int)=(q:Int)):=by omega
     go_wp2
     go_ret
     exact⟨by rw[D.out,Qdp];rfl,z.out⟩
   ·rw[if_pos hk] at h
    have D:=Hk h
    clear h
    go_wp2
    go_ret
    exact⟨by rw[D.out,Qa1 (by decide)];rfl,z.out⟩
def QcH (l:List Cl):Bool:=(List.range l.length).any fun i=>decide (Qaq l ((l[i]?.getD (⟨#[]⟩,0)).1.data.toList)<(i:Int))
def QaQ (cs ds:List Cl) (x y:ByteArray):Int:=
 match Qak cs x.data.toList,Qak ds y.data.toList with
 |some p,some q=>if QbC cs p≠QbC ds q then 13 else if QcH (Qb0 cs ds q)=true then 9 else if 6<(Qb0 cs ds q).length then 4 else 0
 |_,_=>7
theorem Qh0 {l:List Cl} {i:Nat} (h:i<l.length) (j:Qaq l (l[i].1.data.toList)<(i:Int)):QcH l=true:=by
 unfold QcH
 rw[List.any_eq_true]
 exact⟨i,List.mem_range.2 h,by rw[List.getElem?_eq_getElem h];exact decide_eq_true j⟩
theorem QeD {l:List Cl} (h:∀i (j:i<l.length),¬Qaq l (l[i].1.data.toList)<(i:Int)):QcH l=false:=by
 unfold QcH
 rw[List.any_eq_false]
 intro i j
 have hi':=List.mem_range.1 j
 rw[List.getElem?_eq_getElem hi']
 simpa using h i hi'
theorem QkA (b o n c b2 o2 U c2 V co cc:Nat) (cs A:List Cl) (x y:ByteArray) (j:Jb) (w:World) (hj:j.cols=.slice (some ⟨V,co,none⟩) 2 cc) (aI:V<w.heap.size) (s0:w.cell? ⟨V,co,none⟩=some (.string x)) (s1:w.cell? ⟨V,co+1,none⟩=some (.string y))
 (hn:cs.length=n) (bl:1<=n) (bp:n<=40) (hb:b<w.heap.size) (hc:Qas w b o cs) (ag:A.length=U) (bj:U<=40) (aP:U<=c2) (ap:b2<w.heap.size) (ay:Qas w b2 o2 A) (hsz:∀z∈cs++A,z.1.size<=maxLen):
 Calls Tryz.prog 49 #[.agg j.cells,.slice (some ⟨b,o,none⟩) n c,.slice (some ⟨b2,o2,none⟩) U c2] w fun e w'=>e=.returned (Qbp (QaQ cs A x y))/\Below w.heap.size w w':=by
 have az:∀(v:Value) (T:ByteArray) (k:Int) (W:World),Below w.heap.size w W->(v=.slice (some ⟨b,o,none⟩) n c/\k=Qaq cs T.data.toList\/v=.slice (some ⟨b2,o2,none⟩) U c2/\k=Qaq A T.data.toList)->Calls Tryz.prog 54 #[v,.string T] W fun e w'=>e=.returned (.int .i64 k)/\Below W.heap.size W w':=by
  rintro v T k W h1 (⟨rfl,rfl⟩|⟨rfl,rfl⟩)
  ·exact QaL b o n c cs T W hn (by omega) (by have:=h1.size;omega) (hc.below h1 hb)
  ·exact QaL b2 o2 U c2 A T W ag (by omega) (by have:=h1.size;omega) (ay.below h1 ap)
 have hJ:=Qbd w j 28
 have I:=Qab w (.cells j.cells 28)
 obtain⟨W,hW⟩:∃W,W=w.alloc (.cells j.cells 28):=⟨_,rfl⟩
 rw[<-hW] at hJ I
 have e4:=cell_regrown (show W.cell? ⟨w.heap.size,4,none⟩=some (.slice (some ⟨V,co,none⟩) 2 cc) from by have:=hJ 4 j.cols rfl;rw[hj] at this;exact this)
 have e5:=cell_regrown (cK I aI s0)
 have e6:=cell_regrown (cK I aI s1)
 have C1:=fun v T k d os h=>Calls.regrown_of (az v T k (Sort.grow (redrawn W d) os) (Qaa I (below_regrown _ _ _)) h)
 have HB:=Hk I
 have B:=Hk (Ai hn (Ai hc (Ai ag (Ai ay hsz))))
 obtain⟨P,ai⟩:∃P,Qaq cs x.data.toList=P:=⟨_,rfl⟩
 obtain⟨Q,aq⟩:∃Q,Qaq A y.data.toList=Q:=⟨_,rfl⟩
 have F:=Hk (Ai ai aq)
 clear hJ I hn hc az ag ay hsz
 unfold Jb.cells at hW⊢
 rw[hj] at hW⊢
 go_enter Tryz.func49,Tryz.ntmps49
 go_wp2
 rw[<-hW]
 clear hW
 refine wp_region_quiet_below (by kernel_rfl) (by kernel_rfl) ?_
 repeat(any_goals(first|go_big_quiet_step (exact C1 _ _ _ _ _ (by first|exact Or.inl ⟨rfl,rfl⟩|exact Or.inr ⟨rfl,rfl⟩))|quiet_step (exact C1 _ _ _ _ _ (by first|exact Or.inl ⟨rfl,rfl⟩|exact Or.inr ⟨rfl,rfl⟩))))
 refine wpQuiet_nil ?_
 intro _ aS
 obtain⟨⟨dq,aD⟩,aL⟩:=aS
 subst aL
 have D:=Hk (Qaa HB.out (below_regrown W dq aD))
 clear e4 e5 e6 C1 HB
 generalize Sort.grow (redrawn W dq) aD=W5 at*
 try rw[ai]
 try rw[aq]
 clear ai aq
 cases hpx:Qak cs x.data.toList with
 |none=>
  have M:=Hk (show QaQ cs A x y=7 by unfold QaQ;rw[hpx])
  have ab:P= -1:=by rw[<-F.out.1];exact QaM hpx
  subst ab
  clear hpx F
  go_wp2
  go_ret
  exact⟨by rw[M.out,Qa1 (by decide)];rfl,D.out⟩
 |some p=>
  have ab:P=(p:Int):=by rw[<-F.out.1];exact Qaw hpx
  cases hqy:Qak A y.data.toList with
  |none=>
   have M:=Hk (show QaQ cs A x y=7 by unfold QaQ;rw[hpx,hqy])
   have av:Q= -1:=by rw[<-F.out.2];exact QaM hqy
   subst av ab
   have aU:¬((p:Int)<0):=by omega
   clear hpx hqy F
   go_wp2
   go_ret
   exact⟨by rw[M.out,Qa1 (by decide)];rfl,D.out⟩
  |some q=>
   have av:Q=(q:Int):=by rw[<-F.out.2];exact Qaw hqy
   have ar:=Qaj hpx
   have Z:=Qaj hqy
   have aw:=((B.out.2.1 p ar).2)
   have al:=((B.out.2.2.2.1 q Z).2)
   rw[Qcd ar] at aw
   rw[Qcd Z] at al
   have d5:=cK D.out hb aw
   have d6:=cK D.out ap al
   have bs:(p:Int)<(n:Int):=by have:=B.out.1;omega
   have bn:(q:Int)<(U:Int):=by have:=B.out.2.2.1;omega
   have aU:¬((p:Int)<0):=by omega
   have bm:¬((q:Int)<0):=by omega
   have hv:QaQ cs A x y=if QbC cs p≠QbC A q then 13 else if QcH (Qb0 cs A q)=true then 9 else if 6<(Qb0 cs A q).length then 4 else 0:=by unfold QaQ;rw[hpx,hqy]
   have ah:=Hk Z
   clear hpx hqy aw al ar Z
   subst av ab
   generalize QbC cs p=kp at*
   generalize QbC A q=kq at*
   by_cases K:kp=kq
   ·subst K
    rw[if_neg (by simp)] at hv
    have M:=Hk hv
    clear hv
    have am:=Hk (fun W' (E:Below w.heap.size w W')=>Qfc b o c b2 o2 c2 q cs A W' (by have:=E.size;omega) (B.out.2.1.below E hb) (by have:=E.size;omega) (B.out.2.2.2.1.below E ap) ah.out (by rw[B.out.2.2.1];exact aP) (by rw[B.out.1];omega) (by rw[B.out.2.2.1];omega))
    rw[B.out.1,B.out.2.2.1] at am
    have aE:=Hk (Qec cs A q ah.out)
    have a7:Hid (∀z∈Qb0 cs A q,z.1.size<=maxLen):=Hk (fun z J=>B.out.2.2.2.2 z (by
     unfold Qb0 at J
     rw[List.mem_append,List.mem_append] at J
     rw[List.mem_append]
     rcases J with (J|J)|J
     ·exact Or.inl J
     ·exact Or.inr (List.mem_of_mem_take J)
     ·exact Or.inr (List.mem_of_mem_drop J)))
    generalize Qb0 cs A q=L at*
    have aV:1<=L.length:=by have h1:=aE.out;have h2:=B.out.1;have h3:=ah.out;omega
    have bo:L.length<=80:=by have h1:=aE.out;have h2:=B.out.1;have h3:=B.out.2.2.1;omega
    go_wp2
    go_quiet (fail)
    go_wp2_with (go_at_call 53;fail)
    refine(am.out _ (below_drewN D.out _)).mono ?_
    rintro e W6 ⟨v6,rfl,aC,aG⟩
    have aB:=Qbx aC a7.out
    obtain⟨lb,lo,lc,rfl,aH,ao⟩:=Qcp aB aV
    have ax:=Hk (Qaa (below_drewN D.out _) aG)
    have aA:=Hk ao
    clear aC aG aB ao am d5 d6
    go_wp2
    go_loopg [54] L.length (fun g1 vi wr=>∃i:Nat,vi=.int .i64 i/\i<=L.length/\L.length-i<=g1/\Aside (Below W6.heap.size W6 wr/\∀k (K:k<L.length),k<i->¬Qaq L (L[k].1.data.toList)<(k:Int)))
    case atStart=>exact⟨0,rfl,Nat.zero_le _,by omega,Below.refl _ _,fun k _ h=>absurd h (by omega)⟩
    case round=>
     obtain⟨i,rfl,br,hg,N⟩:=hrel
     by_cases hlt:i<L.length
     ·have aN:(i:Int)<(L.length:Int):=by omega
      have bq:=N.out.1.size
      obtain⟨c0,c1⟩:=(aA.out.below N.out.1 aH) i hlt
      have au:=Hk (fun W' (E:Below wr.heap.size wr W')=>QaL lb lo L.length lc L L[i].1 W' rfl (by omega) (by have:=E.size;omega) ((aA.out.below N.out.1 aH).below E (by omega)))
      obtain⟨R,hR⟩:∃R,Qaq L (L[i].1.data.toList)=R:=⟨_,rfl⟩
      have HR:=Hk hR
      rw[hR] at au
      clear hR
      by_cases hRi:R<(i:Int)
      ·have a5:=Hk (Qh0 hlt (by rw[HR.out];exact hRi))
       generalize L[i]=z at*
       go_wp2_with (go_at_call 54;fail)
       refine(au.out _ (Qab _ _)).mono ?_
       rintro e W7 ⟨rfl,O⟩
       have aj:=Hk (Qaa (Qaa ax.out N.out.1) (Qaa (Qab _ _) O))
       clear O c0 c1
       go_wp2
       go_ret
       exact⟨by rw[M.out,if_pos a5.out,Qa1 (by decide)];rfl,aj.out⟩
      ·have aa:=Hk (show∀k (K:k<L.length),k<i+1->¬Qaq L (L[k].1.data.toList)<(k:Int) from fun k K hki=>by
        rcases Nat.lt_or_ge k i with h|h
        ·exact N.out.2 k K h
        ·obtain rfl:k=i:=by omega
         rw[HR.out]
         exact hRi)
       generalize L[i]=z at*
       go_wp2_with (go_at_call 54;fail)
       refine(au.out _ (Qab _ _)).mono ?_
       rintro e W7 ⟨rfl,O⟩
       have aj:=Hk (Qaa N.out.1 (Qaa (Qab _ _) O))
       clear O c0 c1
       go_wp2
       go_roundg (L.length-(i+1))
       case measure=>omega
       case rel=>exact⟨i+1,by go_num,by omega,Nat.le_refl _,aj.out,aa.out⟩
     ·have aN:¬((i:Int)<(L.length:Int)):=by omega
      have aa:=Hk (QeD (fun k K=>N.out.2 k K (by omega)))
      by_cases h6:6<L.length
      ·have a4:(6:Int)<(L.length:Int):=by omega
       go_wp2
       go_ret
       exact⟨by rw[M.out,if_neg (by rw[aa.out];decide),if_pos h6,Qa1 (by decide)];rfl,Qaa ax.out N.out.1⟩
      ·have a4:¬((6:Int)<(L.length:Int)):=by omega
       go_wp2
       go_ret
       exact⟨by rw[M.out,if_neg (by rw[aa.out];decide),if_neg h6,Qdp];rfl,Qaa ax.out N.out.1⟩
   ·rw[if_pos K] at hv
    have M:=Hk hv
    clear hv
    have hk':(kp==kq)=false:=by simp[K]
    go_wp2
    go_quiet (fail)
    go_wp2
    go_ret
    exact⟨by rw[M.out,Qa1 (by decide)];rfl,below_drewN D.out _⟩
theorem Qfg (A D J b o n c b2 K n2 c2:Nat) (j:Jb) (r:Int) (w:World) (q:j.code=7) (ad:A<w.heap.size) (h0:w.cell? ⟨A,D,none⟩=some (.slice (some ⟨b,o,none⟩) n c)) (h1:w.cell? ⟨A,D+1,none⟩=some (.slice (some ⟨b2,K,none⟩) n2 c2))
 (B:∀W,Below w.heap.size w W->Calls Tryz.prog 49 #[.agg j.cells,.slice (some ⟨b,o,none⟩) n c,.slice (some ⟨b2,K,none⟩) n2 c2] W fun e w'=>e=.returned (Qbp r)/\Below W.heap.size W w'):
 Calls Tryz.prog 26 #[.agg j.cells,.slice (some ⟨A,D,none⟩) 2 J] w fun e w'=>e=.returned (Qbp r)/\Below w.heap.size w w':=by
 have h:=Qbd w j 28
 have y:=Qab w (.cells j.cells 28)
 obtain⟨W,z⟩:∃W,W=w.alloc (.cells j.cells 28):=⟨_,rfl⟩
 rw[<-z] at h y
 have e0:=cell_regrown (show W.cell? ⟨w.heap.size,0,none⟩=some (.int .i64 j.at_) from h 0 _ rfl)
 have e1:=cell_regrown (show W.cell? ⟨w.heap.size,1,none⟩=some (.int .i64 7) from by have:=h 1 (.int .i64 j.code) rfl;rw[q] at this;exact this)
 have e2:=cell_regrown (show W.cell? ⟨w.heap.size,2,none⟩=some j.outs from h 2 _ rfl)
 have e3:=cell_regrown (show W.cell? ⟨w.heap.size,3,none⟩=some j.ins from h 3 _ rfl)
 have e4:=cell_regrown (show W.cell? ⟨w.heap.size,4,none⟩=some j.cols from h 4 _ rfl)
 have e5:=cell_regrown (show W.cell? ⟨w.heap.size,5,none⟩=some (.string j.op) from h 5 _ rfl)
 have e6:=cell_regrown (show W.cell? ⟨w.heap.size,6,none⟩=some (.string j.left.1) from h 6 _ rfl)
 have e7:=cell_regrown (show W.cell? ⟨w.heap.size,7,none⟩=some (.int .i64 j.left.2.1) from h 7 _ rfl)
 have e8:=cell_regrown (show W.cell? ⟨w.heap.size,8,none⟩=some (.int .i64 j.left.2.2.1) from h 8 _ rfl)
 have e9:=cell_regrown (show W.cell? ⟨w.heap.size,9,none⟩=some (.string j.left.2.2.2) from h 9 _ rfl)
 have ac:=cell_regrown (show W.cell? ⟨w.heap.size,10,none⟩=some (.string j.right.1) from h 10 _ rfl)
 have V:=cell_regrown (show W.cell? ⟨w.heap.size,11,none⟩=some (.int .i64 j.right.2.1) from h 11 _ rfl)
 have N:=cell_regrown (show W.cell? ⟨w.heap.size,12,none⟩=some (.int .i64 j.right.2.2.1) from h 12 _ rfl)
 have T:=cell_regrown (show W.cell? ⟨w.heap.size,13,none⟩=some (.string j.right.2.2.2) from h 13 _ rfl)
 have Z:=cell_regrown (show W.cell? ⟨w.heap.size,14,none⟩=some (.int .i64 j.retry) from h 14 _ rfl)
 have f1:=cell_regrown (cK y ad h1)
 unfold Jb.cells at B z⊢
 rw[q] at B z⊢
 generalize Qbp r=ev at*
 have F:∀d os,_:=fun d os=>Calls.regrown_of (B (Sort.grow (redrawn W d) os) (Qaa y (below_regrown _ _ _)))
 have U:=Hk y
 clear h y B q
 go_enter Tryz.func26,Tryz.ntmps26
 go_wp2
 rw[<-z]
 clear z
 refine wp_region_quiet_below (by kernel_rfl) (by kernel_rfl) ?_
 repeat(any_goals(first|go_big_quiet_step (exact F _ _)|quiet_step (exact F _ _)))
 refine wpQuiet_nil ?_
 intro _ O
 obtain⟨⟨dq,E⟩,I⟩:=O
 subst I
 have M:=Hk (Qaa U.out (below_regrown W dq E))
 clear e0 e1 e2 e3 e4 e5 e6 e7 e8 e9 ac V N T Z f1 F U
 generalize Sort.grow (redrawn W dq) E=W5 at*
 go_wp2
 go_ret
 exact⟨rfl,M.out⟩
theorem Qgq (E K ag b o c b2 J c2 z B I q:Nat) (cs A:List Cl) (y:ByteArray) (j:Jb) (w:World) (Z:j.code=7) (hj:j.cols=.slice (some ⟨z,B,none⟩) 2 I) (ao:z<w.heap.size) (s1:w.cell? ⟨z,B+1,none⟩=some (.string y)) (ay:E<w.heap.size) (h0:w.cell? ⟨E,K,none⟩=some (.slice (some ⟨b,o,none⟩) cs.length c)) (h1:w.cell? ⟨E,K+1,none⟩=some (.slice (some ⟨b2,J,none⟩) A.length c2)) (hq:Qak A y.data.toList=some q)
 (hn:cs.length<=40) (av:b<w.heap.size) (hc:Qas w b o cs) (aG:A.length<=40) (ae:A.length<=c2) (ac:b2<w.heap.size) (T:Qas w b2 J A):
 Calls Tryz.prog 27 #[.agg j.cells,.slice (some ⟨E,K,none⟩) 2 ag] w fun e w'=>∃u,e=.returned u/\w'.ownsRow w.heap.size 56 2 u (Qb0 cs A q).length (Qap (Qb0 cs A q))/\Below w.heap.size w w':=by
 have ab:=Hk (fun W (h:Below w.heap.size w W)=>QaL b2 J A.length c2 A y W rfl (by omega) (by have:=h.size;omega) (T.below h ac))
 rw[Qaw hq] at ab
 have ak:=Hk (fun W (h:Below w.heap.size w W)=>Qfc b o c b2 J c2 q cs A W (by have:=h.size;omega) (hc.below h av) (by have:=h.size;omega) (T.below h ac) (Qaj hq) ae (by omega) (by omega))
 have hJ:=Qbd w j 28
 have k4:(w.alloc (.cells j.cells 28)).cell? ⟨w.heap.size,4,none⟩=some (.slice (some ⟨z,B,none⟩) 2 I):=by have:=hJ 4 j.cols rfl;rw[hj] at this;exact this
 have D:=Qab w (.cells j.cells 28)
 have KP:=Hk (fun W (h:Below w.heap.size w W) (ah:W.cell? ⟨w.heap.size,4,none⟩=some (.slice (some ⟨z,B,none⟩) 2 I))=>Ai (cK h ay h1) (Ai ah (cK h ao s1)))
 have U:=Hk k4
 clear hJ hq hc T D k4
 unfold Jb.cells at U⊢
 rw[Z,hj] at U⊢
 go_enter Tryz.func27,Tryz.ntmps27
 go_wp2_with fail
 obtain⟨W,h⟩:∃W,W=w.alloc (.cells #[.int .i64 j.at_,.int .i64 7,j.outs,j.ins,.slice (some ⟨z,B,none⟩) 2 I,.string j.op,.string j.left.1,.int .i64 j.left.2.1,.int .i64 j.left.2.2.1,.string j.left.2.2.2,.string j.right.1,.int .i64 j.right.2.1,.int .i64 j.right.2.2.1,.string j.right.2.2.2,.int .i64 j.retry] 28):=⟨_,rfl⟩
 rw[<-h] at U⊢
 have D:Below w.heap.size w W:=by rw[h];exact Qab _ _
 have au:w.heap.size<W.heap.size:=by rw[h];simp
 have M:=Hk D
 obtain⟨i0,i1,i2⟩:=KP.out W D U.out
 have KX:Hid (∀V V':World,Below w.heap.size w V->V.cell? ⟨w.heap.size,4,none⟩=some (.slice (some ⟨z,B,none⟩) 2 I)->w.heap.size<V.heap.size->Below V.heap.size V V'->V'.cell? ⟨E,K+1,none⟩=some (.slice (some ⟨b2,J,none⟩) A.length c2)/\V'.cell? ⟨w.heap.size,4,none⟩=some (.slice (some ⟨z,B,none⟩) 2 I)/\V'.cell? ⟨z,B+1,none⟩=some (.string y)):=Hk (fun V V' h1 h2 h3 h4=>KP.out V' (Qaa h1 h4) (cK h4 h3 h2))
 clear h D h0 h1 s1
 go_region_held3 (fun w'=>w'.cell? ⟨E,K+1,none⟩=some (.slice (some ⟨b2,J,none⟩) A.length c2)/\w'.cell? ⟨w.heap.size,4,none⟩=some (.slice (some ⟨z,B,none⟩) 2 I)/\w'.cell? ⟨z,B+1,none⟩=some (.string y))
  (first|(go_keep;done)|exact⟨m0,m1,m2⟩|exact⟨k0,k1,k2⟩)
  (first|(go_at_call 54;refine(ab.out _ M.out.drew).mono ?_;rintro e w1 ⟨rfl,F⟩;obtain⟨k0,k1,k2⟩:=KX.out W.drew w1 M.out.drew U.out au F;have O:=Hk (Qaa M.out.drew F);have aH:W.heap.size<=w1.heap.size:=F.size)|(go_at_call 53;refine(ak.out _ O.out).mono ?_;rintro e w2 ⟨v2,rfl,ar,N⟩;obtain⟨m0,m1,m2⟩:=KX.out w1 w2 O.out k1 (by omega) N;have ax:=Hk (Qaa O.out N)))
 go_wp2
 go_ret
 exact⟨_,rfl,Qam (by omega) ar,ax.out⟩
theorem QfI {w:World} {B O:Nat} {v:Value} {us:List Value} {rs:List (List Vl)} (A:w.ownsRow B 57 1 v rs.length us) (o:Qac w O us rs):QcS w v rs:=by
 have y:=A
 obtain⟨U,⟨rfl,q⟩|⟨g,E,T,rfl,V,Z,q,hm,_,_⟩⟩:=A
 ·exact⟨none,0,by rw[q],Or.inl (List.length_eq_zero_iff.1 q)⟩
 ·refine⟨some ⟨g,0,none⟩,E,rfl,Or.inr ⟨g,0,rfl,(y.lt g rfl).2,fun j hj=>?_⟩⟩
  have h:j<us.length:=by rw[o.1];exact hj
  refine⟨us[j],?_,?_⟩
  ·have e:=y.cellAt j (by omega)
   rw[show 0+j=j by omega,e,List.getElem?_eq_getElem h]
  ·have I:=Qb7 (o.2 j h hj).1 (o.2 j h hj).2
   obtain⟨a,c,e,M,F⟩:=I
   refine⟨a,c,e,?_,M,F⟩
   obtain⟨-,⟨D,z⟩|⟨g',K,N,D,-,-,J,-⟩⟩:=(o.2 j h hj).1
   ·rw[z];exact Nat.zero_le _
   ·rw[D] at e
    simp only[Value.slice.injEq] at e
    omega
def Qc5 (w:World) (v:Value) (x y:ByteArray):Prop:=∃nb no cc,v=.slice (some ⟨nb,no,none⟩) 2 cc/\nb<w.heap.size/\w.cell? ⟨nb,no,none⟩=some (.string x)/\w.cell? ⟨nb,no+1,none⟩=some (.string y)
theorem Qc5.below {w z:World} {v:Value} {x y:ByteArray} (h:Qc5 w v x y) (j:Below w.heap.size w z):Qc5 z v x y:=by
 obtain⟨o,no,D,e,q,A,B⟩:=h
 exact⟨o,no,D,e,Nat.lt_of_lt_of_le q j.size,cK j q A,cK j q B⟩
def pOf (cs:List Cl) (x:ByteArray):Nat:=(Qak cs x.data.toList).getD 0
theorem QeE {cs j:List Cl} {x y:ByteArray} (h:QaQ cs j x y=0):Qak cs x.data.toList=some (pOf cs x)/\Qak j y.data.toList=some (pOf j y):=by
 unfold QaQ at h
 unfold pOf
 split at h
 ·rename_i p q o z
  rw[o,z]
  exact⟨rfl,rfl⟩
 ·cases h
end Go.Proofs.YtofidnijfnhpaaaGreatDoor
