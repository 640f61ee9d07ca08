import Derived.Deep.Cut
import Derived.Deep.DeepCutAuto
import Derived.Test.YtjlgejennghhlaaGreatDoorR01
import Derived.Test.YtjlgejennghhlaaGreatDoorR02
set_option linter.unusedSimpArgs false
set_option linter.unusedVariables false
set_option linter.unusedSectionVars false
set_option maxRecDepth 1000000
set_option maxHeartbeats 16000000
namespace Go.Proofs.YtjlgejennghhlaaGreatDoor
namespace Stb
open Go.Shelf Go.RowKit Go.Lib Go.Sort
variable {α:Type} [Inhabited α]
theorem sym_gt (enc:α->Value) (F:α->α->Int) (g:Nat) (cb:Array Value) (blk E aD a m b N:Nat) (P L R' S:List α) (d0:Array α) (I w:World) (eg:∀args w,(callFunc g args).run Tryz.prog w=.ok (.enter g args) w) (aO:CmpLays1 Tryz.prog g cb enc F blk E d0.size I) (ho:Ord (ltOf F)) (R:Row1 enc I blk E d0) (hN:d0.size=N) (bv:N<4611686018427387904) (am:(P++(L++(R'++S))).length=N) (ha:P.length=a) (hm:m=a+L.length) (hb:b=m+R'.length) (h2:2<=L.length) (h3:2<=R'.length) (sL:Sorted (ltOf F) L) (sR:Sorted (ltOf F) R') (mid:Nat) (aK:mid=(a+b)/2) (ai:mid<m)
 (IH:∀(a' m' b':Nat) (P' L' Q' S':List α) (W:World),P'.length=a'->m'=a'+L'.length->b'=m'+Q'.length->0<L'.length->0<Q'.length->L'.length+Q'.length<L.length+R'.length->(P'++(L'++(Q'++S'))).length=N->Sorted (ltOf F) L'->Sorted (ltOf F) Q'->SW enc I blk E (P'++(L'++(Q'++S'))).toArray W->Calls Tryz.prog 202 #[.slice (some ⟨blk,E,none⟩) N aD,.int .i64 a',.int .i64 m',.int .i64 b',.func (.func g) #[] cb] W fun e w'=>e=.returned (.tuple #[])/\∃M,Sorted (ltOf F) M/\Same (ltOf F) (L'++Q') M/\SW enc I blk E (P'++(M++S')).toArray w')
 (S0:SW enc I blk E (P++(L++(R'++S))).toArray w):
 Calls Tryz.prog 202 #[.slice (some ⟨blk,E,none⟩) N aD,.int .i64 a,.int .i64 m,.int .i64 b,.func (.func g) #[] cb] w fun e w'=>e=.returned (.tuple #[])/\∃M,Sorted (ltOf F) M/\Same (ltOf F) (L++R') M/\SW enc I blk E (P++(M++S)).toArray w':=by
 have bW:Tryz.prog.follows .mixedOrders=true:=by kernel_rfl
 have bq:=R.hO.cells;simp only[Value.cells] at bq;have ck:=R.hO.store Tryz.prog;have HC:Aside _:=aO;have aR:Aside (Ord (ltOf F)):=ho;have bd:Aside _:=IH;have bF:Aside (∀(a' m' b':Nat) (P' X Y S':List α) (W:World),(P'++(X++(Y++S'))).length=N->P'.length=a'->X.length+a'=m'->Y.length+m'=b'->0<X.length->0<Y.length->SW enc I blk E (P'++(X++(Y++S'))).toArray W->Calls Tryz.prog 213 #[.slice (some ⟨blk,E,none⟩) N aD,.int .i64 a',.int .i64 m',.int .i64 b',.func (.func g) #[] cb] W fun e w'=>e=.returned (.tuple #[])/\SW enc I blk E (P'++(Y++(X++S'))).toArray w'):=
  fun a' m' b' P' X Y S' W h1 h2 h3 h4 h5 h6 h7=>rotate_any enc _ blk E aD a' m' b' N P' X Y S' d0 I W R hN h1 h2 h3 h4 h5 h6 bv h7
 obtain⟨l,hl⟩:∃q,q=P++(L++(R'++S)):=⟨_,rfl⟩;have cw:l.toArray.size=N:=by rw[hl];simpa using am
 have HG:Aside (∀k,k<N->l[k]? =some (l.toArray[k]!)):=fun k hk=>arr_get l k (by simpa using (show k<l.toArray.size by omega))
 have cr:b<=N:=by
  have:P.length+(L.length+(R'.length+S.length))=N:=by simpa [Nat.add_comm,Nat.add_left_comm,Nat.add_assoc] using am
  omega
 have cj:a+2<=m:=by omega
 have cB:m+2<=b:=by omega
 have e1:¬((m:Int)-(a:Int)=1):=by omega
 have e2:¬((b:Int)-(m:Int)=1):=by omega
 have co:((m:Int)-(a:Int)==1)=false:=by simp[e1]
 have ct:((b:Int)-(m:Int)==1)=false:=by simp[e2]
 have cz:2*mid<=a+b:=by omega
 have cn:a+b<=2*mid+1:=by omega
 have em:((a:Int)+(b:Int))/2=(mid:Int):=by omega
 obtain⟨pp,cx⟩:∃q,q+1=mid+m:=⟨mid+m-1,by omega⟩;have ep:(mid:Int)+(m:Int)-1=(pp:Int):=by omega
 have cC:((a:Int)+(b:Int))/2<(m:Int):=by omega
 have hmz':(mid:Int)<(m:Int):=by omega
 obtain⟨lo,ci⟩:∃q,q+b=mid+m:=⟨mid+m-b,by omega⟩;have HS:Aside (SW enc I blk E l.toArray w):=by rw[hl];exact S0
 have HL:Aside (l=P++(L++(R'++S))/\P.length=a/\m=a+L.length/\b=m+R'.length/\(P++(L++(R'++S))).length=N/\Sorted (ltOf F) L/\Sorted (ltOf F) R'/\mid=(a+b)/2):=⟨hl,ha,hm,hb,am,sL,sR,aK⟩;clear S0 aO ho hl ha hm hb am sL sR h2 h3 IH aK;go_enter Tryz.func202,Tryz.ntmps202;go_wp2
 try simp only[em,ep]
 go_loopg [20,21] (b-a) (fun g1 vs vr wr=>∃D r:Nat,vs=.int .i64 D/\vr=.int .i64 r/\lo<=D/\D<=r/\r<=mid/\r-D<=g1/\Aside (SW enc I blk E l.toArray wr/\(D=lo\/∀x y,l[D-1]? =some x->l[mid+m-D]? =some y->ltOf F y x=false)/\(r=mid\/∀x y,l[r]? =some x->l[mid+m-1-r]? =some y->ltOf F y x=true)))
 case atStart=>exact⟨lo,mid,by first|rfl|go_num|(congr 1;omega),by first|rfl|go_num|(congr 1;omega),Nat.le_refl _,by omega,Nat.le_refl _,by omega,⟨HS.out,Or.inl rfl,Or.inl rfl⟩⟩
 case round=>
  clear HS;obtain⟨D,r,rfl,rfl,bP,cm,bz,hg,H⟩:=hrel
  by_cases hlt:D<r
  ·as_aux_lemma=>
    have bo:(D:Int)<(r:Int):=by omega
    obtain⟨c,hh⟩:∃q,q=(D+r)/2:=⟨_,rfl⟩;have bR:D<=c:=by omega
    have cy:c<r:=by omega
    have bf:((D:Int)+(r:Int))/2=(c:Int):=by omega
    obtain⟨pq,hq⟩:∃q,q+(c+1)=mid+m:=⟨mid+m-(c+1),by omega⟩;have cD:(pp:Int)-(c:Int)=(pq:Int):=by omega
    have ce:IntKind.i64.wrap ((pp:Int)-(c:Int))=(pq:Int):=by rw[IntKind.wrap_i64];omega
    obtain⟨x,gy⟩:∃y,l.toArray[c]! =y:=⟨_,rfl⟩;obtain⟨y,gx⟩:∃y,l.toArray[pq]! =y:=⟨_,rfl⟩;have GC:Aside (l[c]? =some x):=by have:=HG.out c (by omega);rw[gy] at this;exact this
    have GQ:Aside (l[pq]? =some y):=by have:=HG.out pq (by omega);rw[gx] at this;exact this
    have SJ:Aside (SW enc I blk E l.toArray wr):=H.out.1;have mid':Aside ((D=lo\/∀x y,l[D-1]? =some x->l[mid+m-D]? =some y->ltOf F y x=false)/\(r=mid\/∀x y,l[r]? =some x->l[mid+m-1-r]? =some y->ltOf F y x=true)):=H.out.2;clear H hh;obtain⟨iN,bg⟩:∃q,q=pq:=⟨_,rfl⟩;obtain⟨jN,bi⟩:∃q,q=c:=⟨_,rfl⟩;have ea:((pq:Int)).toNat=iN:=by omega
    have pa:(0:Int)<=(pq:Int):=by omega
    have ba:(pq:Int)<(N:Int):=by omega
    have ra:IntKind.i64.wrap ((pq:Int))=(pq:Int):=by rw[IntKind.wrap_i64];omega
    have ec:((c:Int)).toNat=jN:=by omega
    have pc:(0:Int)<=(c:Int):=by omega
    have bc:(c:Int)<(N:Int):=by omega
    have rc:IntKind.i64.wrap ((c:Int))=(c:Int):=by rw[IntKind.wrap_i64];omega
    have la:=SJ.out.cl R (by omega) pq (by omega);have lb:=SJ.out.cl R (by omega) c (by omega);rw[gx,<-bg] at la;rw[gy,<-bi] at lb;have hc:=SJ.out.cmp HC.out (by omega) y x;clear bg bi
    cases hlv:ltOf F y x with
    |true=>
     have hv:F y x<0:=of_decide_eq_true hlv;have hd:decide (F y x<0)=true:=decide_eq_true hv;have aM:Aside (ltOf F y x=true):=hlv;clear hlv;go_wp2_with fail
     try simp only[em,ep,bf]
     go_quiet_grown (first|(go_at_fn g;refine Calls.grown_of (hc _ _)))
     have S2:Aside (SW enc I blk E l.toArray (grow (wr.drewN nq) osq)):=SJ.out.grown nq osq;clear la lb hc SJ;generalize grow (wr.drewN nq) osq=w2 at S2⊢;clear nq osq;clear ea ec;go_wp2
     go_roundg (c-D)
     case measure=>omega
     case rel=>exact⟨D,c,rfl,by first|rfl|go_num|(congr 1;omega),bP,bR,by omega,Nat.le_refl _,⟨S2.out,mid'.out.1,Or.inr (fun x' y' hx hy=>by rw[GC.out] at hx;rw[show mid+m-1-c=pq by omega,GQ.out] at hy;cases hx;cases hy;exact aM.out)⟩⟩
    |false=>
     have hv:¬F y x<0:=of_decide_eq_false hlv;have hd:decide (F y x<0)=false:=decide_eq_false hv;have aM:Aside (ltOf F y x=false):=hlv;clear hlv;go_wp2_with fail
     try simp only[em,ep,bf]
     go_quiet_grown (first|(go_at_fn g;refine Calls.grown_of (hc _ _)))
     have S2:Aside (SW enc I blk E l.toArray (grow (wr.drewN nq) osq)):=SJ.out.grown nq osq;clear la lb hc SJ;generalize grow (wr.drewN nq) osq=w2 at S2⊢;clear nq osq;clear ea ec;go_wp2
     go_roundg (r-(c+1))
     case measure=>omega
     case rel=>exact⟨c+1,r,by first|go_num|(congr 1;omega),rfl,by omega,by omega,bz,Nat.le_refl _,⟨S2.out,Or.inr (fun x' y' hx hy=>by rw[Nat.add_sub_cancel,GC.out] at hx;rw[show mid+m-(c+1)=pq by omega,GQ.out] at hy;cases hx;cases hy;exact aM.out),mid'.out.2⟩⟩
  ·have hij':D=r:=by omega
   subst hij';have bo:¬(D:Int)<(D:Int):=by omega
   have cv:a<=D:=by omega
   have ch:D<=m:=by omega
   have cp:D<=mid:=by omega
   obtain⟨Z,cA⟩:∃q,q+D=mid+m:=⟨mid+m-D,by omega⟩;have cg:m<=Z:=by omega
   have cq:Z<=b:=by omega
   have cu:mid<=Z:=by omega
   have aW:(mid:Int)+(m:Int)-(D:Int)=(Z:Int):=by omega
   obtain⟨L1,O,R1,U,J⟩:∃L1 O R1 U,Aside (L=L1++O/\R'=R1++U/\L1.length=D-a/\R1.length=mid-D/\(∀x∈O,∀y∈R1,ltOf F y x=true)/\∀x∈L1,∀y∈U,ltOf F y x=false):=by
    obtain⟨k1,k2,k3,k4,k5,k6,k7,k8⟩:=HL.out;obtain⟨q1,q2,q3⟩:=H.out;rw[k1] at q2 q3;refine sym_find (P:=P) (L:=L) (R:=R') (S:=S) (a:=a) (m:=m) (b:=b) (mid:=mid) (start:=D) aR.out k2 (by omega) (by omega) (by omega) (by omega) k8 k6 k7 ?_ ?_ ?_ ?_
    ·rw[if_pos ai];omega
    ·rw[if_pos ai];omega
    ·rw[if_pos ai];exact q2.imp (fun h=>by omega) id
    ·rw[if_pos ai];exact q3.imp (fun h=>by omega) id
   have K:Aside (O.length=m-D/\U.length=b-Z/\(P++(L1++(O++(R1++(U++S))))).length=N/\P.length+(L1.length+(O.length+(R1.length+(U.length+S.length))))=N):=by
    obtain⟨k1,k2,k3,k4,k5,k6,k7,k8⟩:=HL.out;obtain⟨r1,r2,r3,r4,r5,r6⟩:=J.out;rw[r1,List.length_append] at k3;rw[r2,List.length_append] at k4;rw[r1,r2] at k5;exact⟨by omega,by omega,by simpa using k5,by simpa [Nat.add_assoc] using k5⟩
   have sj:SW enc I blk E (P++(L1++(O++(R1++(U++S))))).toArray wr:=by have:=H.out.1;rw[HL.out.1,J.out.1,J.out.2.1] at this;simpa using this
   have SJ:Aside (SW enc I blk E (P++(L1++(O++(R1++(U++S))))).toArray wr):=sj;clear sj;clear H;obtain⟨bt,bb⟩:∃q:Bool,q=decide (D<m/\m<Z):=⟨_,rfl⟩;have al:Aside (bt=decide (D<m/\m<Z)):=bb;clear bb
   go_upto_region 39 with fail
   go_cut [185] (fun v wx=>v=.bool bt/\wx=wr)
   case first=>
    as_aux_lemma=>
     by_cases hz1:D<m
     ·have z1:(D:Int)<(m:Int):=by omega
      by_cases hz2:m<Z
      ·have z2:(m:Int)<(Z:Int):=by omega
       have aS:(m:Int)<(mid:Int)+(m:Int)-(D:Int):=by omega
       have hb':bt=true:=by rw[al.out];exact decide_eq_true ⟨hz1,hz2⟩
       subst hb';go_wp2;go_meet;exact⟨rfl,rfl⟩
      ·have z2:¬(m:Int)<(Z:Int):=by omega
       have aS:¬(m:Int)<(mid:Int)+(m:Int)-(D:Int):=by omega
       have hb':bt=false:=by rw[al.out];exact decide_eq_false (fun h=>hz2 h.2)
       subst hb';go_wp2;go_meet;exact⟨rfl,rfl⟩
     ·have z1:¬(D:Int)<(m:Int):=by omega
      have hb':bt=false:=by rw[al.out];exact decide_eq_false (fun h=>hz1 h.1)
      subst hb';go_wp2;go_meet;exact⟨rfl,rfl⟩
   case rest=>
   obtain⟨rfl,rfl⟩:=hcut;go_upto_if 185 with fail
   go_cut [] (fun wx=>Aside (SW enc I blk E (P++(L1++(R1++(O++(U++S))))).toArray wx))
   case first=>
    as_aux_lemma=>
     cases bt
     ·have hn:O=[]\/R1=[]:=by
       have h:=of_decide_eq_false al.out.symm
       by_cases h1:D<m
       ·exact Or.inr (List.length_eq_zero_iff.1 (by rw[J.out.2.2.2.1];have:¬m<Z:=fun h2=>h ⟨h1,h2⟩;omega))
       ·exact Or.inl (List.length_eq_zero_iff.1 (by rw[K.out.1];omega))
      go_wp2;go_meet;have:=SJ.out
      show SW enc I blk E _ _
      rcases hn with hn|hn
      ·rw[hn] at this⊢;simpa using this
      ·rw[hn] at this⊢;simpa using this
     ·have hz:=of_decide_eq_true al.out.symm;go_wp2_with (go_at_call 213;fail)
      try simp only[em,aW]
      refine(bF.out D m Z (P++L1) O R1 (U++S) wc (by simpa using K.out.2.2.1) (by rw[List.length_append,HL.out.2.1,J.out.2.2.1];omega) (by rw[K.out.1];omega) (by rw[J.out.2.2.2.1];omega) (by rw[K.out.1];omega) (by rw[J.out.2.2.2.1];omega) (by simpa using SJ.out)).mono ?_;rintro e w2 ⟨rfl,hS⟩;have HF:Aside _:=hS;clear hS SJ;go_wp2;go_meet;have:=HF.out;simp only[List.append_assoc] at this;exact this
   case rest=>
    have SK:Aside (SW enc I blk E (P++(L1++(R1++(O++(U++S))))).toArray wc):=hcut;clear hcut SJ;have af:Aside (Sorted (ltOf F) L1/\Sorted (ltOf F) O/\Sorted (ltOf F) R1/\Sorted (ltOf F) U):=by
     obtain⟨k1,k2,k3,k4,k5,k6,k7,k8⟩:=HL.out;rw[J.out.1] at k6;rw[J.out.2.1] at k7;exact⟨(Sorted.app.1 k6).1,(Sorted.app.1 k6).2.1,(Sorted.app.1 k7).1,(Sorted.app.1 k7).2.1⟩
    clear al;obtain⟨bu,bh⟩:∃q:Bool,q=decide (a<D/\D<mid):=⟨_,rfl⟩;have au:Aside (bu=decide (a<D/\D<mid)):=bh;clear bh;obtain⟨wk,be⟩:∃q,q=wc:=⟨_,rfl⟩;rw[<-be] at SK⊢;clear be
    go_upto_region 41 with fail
    go_cut [199] (fun v wx=>v=.bool bu/\wx=wk)
    case first=>
     as_aux_lemma=>
      by_cases hz1:a<D
      ·have z1:(a:Int)<(D:Int):=by omega
       by_cases hz2:D<mid
       ·have z2:(D:Int)<(mid:Int):=by omega
        have hb':bu=true:=by rw[au.out];exact decide_eq_true ⟨hz1,hz2⟩
        subst hb';go_wp2;go_meet;exact⟨rfl,rfl⟩
       ·have z2:¬(D:Int)<(mid:Int):=by omega
        have hb':bu=false:=by rw[au.out];exact decide_eq_false (fun h=>hz2 h.2)
        subst hb';go_wp2;go_meet;exact⟨rfl,rfl⟩
      ·have z1:¬(a:Int)<(D:Int):=by omega
       have hb':bu=false:=by rw[au.out];exact decide_eq_false (fun h=>hz1 h.1)
       subst hb';go_wp2;go_meet;exact⟨rfl,rfl⟩
    case rest=>
    obtain⟨rfl,rfl⟩:=hcut;go_upto_if 199 with fail
    go_cut [] (fun wx=>Aside (∃M1,Sorted (ltOf F) M1/\Same (ltOf F) (L1++R1) M1/\SW enc I blk E (P++(M1++(O++(U++S)))).toArray wx))
    case first=>
     as_aux_lemma=>
      cases bu
      ·have hn:L1=[]\/R1=[]:=by
        have h:=of_decide_eq_false au.out.symm
        by_cases h1:a<D
        ·exact Or.inr (List.length_eq_zero_iff.1 (by rw[J.out.2.2.2.1];have:¬D<mid:=fun h2=>h ⟨h1,h2⟩;omega))
        ·exact Or.inl (List.length_eq_zero_iff.1 (by rw[J.out.2.2.1];omega))
       go_wp2;go_meet;have:=SK.out;rcases hn with hn|hn
       ·exact⟨R1,af.out.2.2.1,by rw[hn];simpa using Same.refl _ _,by rw[hn] at this;simpa using this⟩
       ·exact⟨L1,af.out.1,by rw[hn];simpa using Same.refl _ _,by rw[hn] at this;simpa using this⟩
      ·have hz:=of_decide_eq_true au.out.symm;go_wp2_with (go_at_call 202;fail)
       try simp only[em,aW]
       refine(bd.out a D mid P L1 R1 (O++(U++S)) wc HL.out.2.1 (by rw[J.out.2.2.1];omega) (by rw[J.out.2.2.2.1];omega) (by rw[J.out.2.2.1];omega) (by rw[J.out.2.2.2.1];omega) ?_ ?_ af.out.1 af.out.2.2.1 SK.out).mono ?_
       ·have h1:=HL.out.2.2.1;have h2:=HL.out.2.2.2.1;rw[J.out.2.2.1,J.out.2.2.2.1];omega
       ·have:=K.out.2.2.2;simp only[List.length_append];omega
       rintro e w2 ⟨rfl,hS⟩;have HF:Aside _:=hS;clear hS SK;go_wp2;go_meet;exact HF
    case rest=>
     as_aux_lemma=>
      obtain⟨M1,HM⟩:∃M1,Aside (Sorted (ltOf F) M1/\Same (ltOf F) (L1++R1) M1/\M1.length=mid-a/\SW enc I blk E (P++(M1++(O++(U++S)))).toArray wc):=by
       obtain⟨M1,q1,q2,q3⟩:=(show Aside _ from hcut).out
       exact⟨M1,q1,q2,by rw[<-q2.len aR.out,List.length_append,J.out.2.2.1,J.out.2.2.2.1];omega,q3⟩
      clear hcut SK;have aP:Aside (∀(M2:List α) (V:World),Sorted (ltOf F) M2->Same (ltOf F) (O++U) M2->SW enc I blk E (P++(M1++(M2++S))).toArray V->∃M,Sorted (ltOf F) M/\Same (ltOf F) (L++R') M/\SW enc I blk E (P++(M++S)).toArray V):=by
       intro M2 V h1 h2 h3;obtain⟨k1,k2,k3,k4,k5,k6,k7,k8⟩:=HL.out;obtain⟨r1,r2,r3,r4,r5,r6⟩:=J.out;obtain⟨m1,m2,m3,m4⟩:=HM.out;obtain⟨p1,p2⟩:=sym_cut aR.out (r1▸k6) (r2▸k7) r5 r6 m1 m2 h1 h2;exact⟨M1++M2,p1,by rw[r1,r2];exact p2,by simpa using h3⟩
      have SL:Aside (SW enc I blk E (P++(M1++(O++(U++S)))).toArray wc):=HM.out.2.2.2
      by_cases hz1:mid<Z
      ·have z1:(mid:Int)<(Z:Int):=by omega
       have bI:(mid:Int)<(mid:Int)+(m:Int)-(D:Int):=by omega
       have bB:((a:Int)+(b:Int))/2<((a:Int)+(b:Int))/2+(m:Int)-(D:Int):=by omega
       by_cases hz2:Z<b
       ·have z2:(Z:Int)<(b:Int):=by omega
        have aS:(mid:Int)+(m:Int)-(D:Int)<(b:Int):=by omega
        have bV:((a:Int)+(b:Int))/2+(m:Int)-(D:Int)<(b:Int):=by omega
        go_wp2_with (go_at_call 202;fail)
        try simp only[em,aW]
        refine(bd.out mid Z b (P++M1) O U S wc (by rw[List.length_append,HL.out.2.1,HM.out.2.2.1];omega) (by rw[K.out.1];omega) (by rw[K.out.2.1];omega) (by rw[K.out.1];omega) (by rw[K.out.2.1];omega) ?_ ?_ af.out.2.1 af.out.2.2.2 (by simpa using SL.out)).mono ?_
        ·have h1:=HL.out.2.2.1;have h2:=HL.out.2.2.2.1;rw[K.out.1,K.out.2.1];omega
        ·have:=K.out.2.2.2;have h3:=HM.out.2.2.1;have h4:=J.out.2.2.1;have h5:=J.out.2.2.2.1;simp only[List.length_append];omega
        rintro e w2 ⟨rfl,hS⟩;have HF:Aside _:=hS;clear hS SL;go_wp2
        go_end0
        obtain⟨M2,q1,q2,q3⟩:=HF.out;exact⟨rfl,aP.out M2 _ q1 q2 (by simpa using q3)⟩
       ·have z2:¬(Z:Int)<(b:Int):=by omega
        have aS:¬(mid:Int)+(m:Int)-(D:Int)<(b:Int):=by omega
        have bV:¬((a:Int)+(b:Int))/2+(m:Int)-(D:Int)<(b:Int):=by omega
        have hn:U=[]:=List.length_eq_zero_iff.1 (by rw[K.out.2.1];omega);go_wp2
        go_end0
        exact⟨rfl,aP.out O _ af.out.2.1 (by rw[hn];simpa using Same.refl _ _) (by have:=SL.out;rw[hn] at this;simpa using this)⟩
      ·have z1:¬(mid:Int)<(Z:Int):=by omega
       have bI:¬(mid:Int)<(mid:Int)+(m:Int)-(D:Int):=by omega
       have bB:¬((a:Int)+(b:Int))/2<((a:Int)+(b:Int))/2+(m:Int)-(D:Int):=by omega
       have hn:O=[]:=List.length_eq_zero_iff.1 (by rw[K.out.1];omega);go_wp2
       go_end0
       exact⟨rfl,aP.out U _ af.out.2.2.2 (by rw[hn];simpa using Same.refl _ _) (by have:=SL.out;rw[hn] at this;simpa using this)⟩
end Stb
end Go.Proofs.YtjlgejennghhlaaGreatDoor
namespace Go.Proofs.YtjlgejennghhlaaGreatDoor
namespace Stb
open Go.Shelf Go.RowKit Go.Lib Go.Sort
variable {α:Type} [Inhabited α]
theorem sym_le (enc:α->Value) (F:α->α->Int) (g:Nat) (cb:Array Value) (blk E aD a m b N:Nat) (P L R' S:List α) (d0:Array α) (I w:World) (eg:∀args w,(callFunc g args).run Tryz.prog w=.ok (.enter g args) w) (aO:CmpLays1 Tryz.prog g cb enc F blk E d0.size I) (ho:Ord (ltOf F)) (R:Row1 enc I blk E d0) (hN:d0.size=N) (bs:N<4611686018427387904) (ao:(P++(L++(R'++S))).length=N) (ha:P.length=a) (hm:m=a+L.length) (hb:b=m+R'.length) (h2:2<=L.length) (h3:2<=R'.length) (sL:Sorted (ltOf F) L) (sR:Sorted (ltOf F) R') (mid:Nat) (aK:mid=(a+b)/2) (aj:¬mid<m)
 (IH:∀(a' m' b':Nat) (P' L' Q' S':List α) (W:World),P'.length=a'->m'=a'+L'.length->b'=m'+Q'.length->0<L'.length->0<Q'.length->L'.length+Q'.length<L.length+R'.length->(P'++(L'++(Q'++S'))).length=N->Sorted (ltOf F) L'->Sorted (ltOf F) Q'->SW enc I blk E (P'++(L'++(Q'++S'))).toArray W->Calls Tryz.prog 202 #[.slice (some ⟨blk,E,none⟩) N aD,.int .i64 a',.int .i64 m',.int .i64 b',.func (.func g) #[] cb] W fun e w'=>e=.returned (.tuple #[])/\∃M,Sorted (ltOf F) M/\Same (ltOf F) (L'++Q') M/\SW enc I blk E (P'++(M++S')).toArray w')
 (S0:SW enc I blk E (P++(L++(R'++S))).toArray w):
 Calls Tryz.prog 202 #[.slice (some ⟨blk,E,none⟩) N aD,.int .i64 a,.int .i64 m,.int .i64 b,.func (.func g) #[] cb] w fun e w'=>e=.returned (.tuple #[])/\∃M,Sorted (ltOf F) M/\Same (ltOf F) (L++R') M/\SW enc I blk E (P++(M++S)).toArray w':=by
 have bV:Tryz.prog.follows .mixedOrders=true:=by kernel_rfl
 have bp:=R.hO.cells;simp only[Value.cells] at bp;have ci:=R.hO.store Tryz.prog;have HC:Aside _:=aO;have aR:Aside (Ord (ltOf F)):=ho;have bb:Aside _:=IH;have bE:Aside (∀(a' m' b':Nat) (P' X Y S':List α) (W:World),(P'++(X++(Y++S'))).length=N->P'.length=a'->X.length+a'=m'->Y.length+m'=b'->0<X.length->0<Y.length->SW enc I blk E (P'++(X++(Y++S'))).toArray W->Calls Tryz.prog 213 #[.slice (some ⟨blk,E,none⟩) N aD,.int .i64 a',.int .i64 m',.int .i64 b',.func (.func g) #[] cb] W fun e w'=>e=.returned (.tuple #[])/\SW enc I blk E (P'++(Y++(X++S'))).toArray w'):=
  fun a' m' b' P' X Y S' W h1 h2 h3 h4 h5 h6 h7=>rotate_any enc _ blk E aD a' m' b' N P' X Y S' d0 I W R hN h1 h2 h3 h4 h5 h6 bs h7
 obtain⟨l,hl⟩:∃q,q=P++(L++(R'++S)):=⟨_,rfl⟩;have cu:l.toArray.size=N:=by rw[hl];simpa using ao
 have HG:Aside (∀k,k<N->l[k]? =some (l.toArray[k]!)):=fun k hk=>arr_get l k (by simpa using (show k<l.toArray.size by omega))
 have cp:b<=N:=by
  have:P.length+(L.length+(R'.length+S.length))=N:=by simpa [Nat.add_comm,Nat.add_left_comm,Nat.add_assoc] using ao
  omega
 have ch:a+2<=m:=by omega
 have cz:m+2<=b:=by omega
 have e1:¬((m:Int)-(a:Int)=1):=by omega
 have e2:¬((b:Int)-(m:Int)=1):=by omega
 have cm:((m:Int)-(a:Int)==1)=false:=by simp[e1]
 have cq:((b:Int)-(m:Int)==1)=false:=by simp[e2]
 have cx:2*mid<=a+b:=by omega
 have ck:a+b<=2*mid+1:=by omega
 have em:((a:Int)+(b:Int))/2=(mid:Int):=by omega
 obtain⟨pp,cv⟩:∃q,q+1=mid+m:=⟨mid+m-1,by omega⟩;have ep:(mid:Int)+(m:Int)-1=(pp:Int):=by omega
 have cA:¬(((a:Int)+(b:Int))/2<(m:Int)):=by omega
 have hmz':¬((mid:Int)<(m:Int)):=by omega
 have HS:Aside (SW enc I blk E l.toArray w):=by rw[hl];exact S0
 have HL:Aside (l=P++(L++(R'++S))/\P.length=a/\m=a+L.length/\b=m+R'.length/\(P++(L++(R'++S))).length=N/\Sorted (ltOf F) L/\Sorted (ltOf F) R'/\mid=(a+b)/2):=⟨hl,ha,hm,hb,ao,sL,sR,aK⟩;clear S0 aO ho hl ha hm hb ao sL sR h2 h3 IH aK;go_enter Tryz.func202,Tryz.ntmps202;go_wp2
 try simp only[em,ep]
 go_loopg [20,21] (b-a) (fun g1 vs vr wr=>∃D r:Nat,vs=.int .i64 D/\vr=.int .i64 r/\a<=D/\D<=r/\r<=m/\r-D<=g1/\Aside (SW enc I blk E l.toArray wr/\(D=a\/∀x y,l[D-1]? =some x->l[mid+m-D]? =some y->ltOf F y x=false)/\(r=m\/∀x y,l[r]? =some x->l[mid+m-1-r]? =some y->ltOf F y x=true)))
 case atStart=>exact⟨a,m,by first|rfl|go_num|(congr 1;omega),by first|rfl|go_num|(congr 1;omega),Nat.le_refl _,by omega,Nat.le_refl _,by omega,⟨HS.out,Or.inl rfl,Or.inl rfl⟩⟩
 case round=>
  clear HS;obtain⟨D,r,rfl,rfl,bO,cj,bx,hg,H⟩:=hrel
  by_cases hlt:D<r
  ·as_aux_lemma=>
    have bn:(D:Int)<(r:Int):=by omega
    obtain⟨c,hh⟩:∃q,q=(D+r)/2:=⟨_,rfl⟩;have bQ:D<=c:=by omega
    have cw:c<r:=by omega
    have be:((D:Int)+(r:Int))/2=(c:Int):=by omega
    obtain⟨pq,hq⟩:∃q,q+(c+1)=mid+m:=⟨mid+m-(c+1),by omega⟩;have cB:(pp:Int)-(c:Int)=(pq:Int):=by omega
    have cd:IntKind.i64.wrap ((pp:Int)-(c:Int))=(pq:Int):=by rw[IntKind.wrap_i64];omega
    obtain⟨x,gy⟩:∃y,l.toArray[c]! =y:=⟨_,rfl⟩;obtain⟨y,gx⟩:∃y,l.toArray[pq]! =y:=⟨_,rfl⟩;have GC:Aside (l[c]? =some x):=by have:=HG.out c (by omega);rw[gy] at this;exact this
    have GQ:Aside (l[pq]? =some y):=by have:=HG.out pq (by omega);rw[gx] at this;exact this
    have SJ:Aside (SW enc I blk E l.toArray wr):=H.out.1;have m':Aside ((D=a\/∀x y,l[D-1]? =some x->l[mid+m-D]? =some y->ltOf F y x=false)/\(r=m\/∀x y,l[r]? =some x->l[mid+m-1-r]? =some y->ltOf F y x=true)):=H.out.2;clear H hh;obtain⟨iN,bf⟩:∃q,q=pq:=⟨_,rfl⟩;obtain⟨jN,bh⟩:∃q,q=c:=⟨_,rfl⟩;have ea:((pq:Int)).toNat=iN:=by omega
    have pa:(0:Int)<=(pq:Int):=by omega
    have ba:(pq:Int)<(N:Int):=by omega
    have ra:IntKind.i64.wrap ((pq:Int))=(pq:Int):=by rw[IntKind.wrap_i64];omega
    have ec:((c:Int)).toNat=jN:=by omega
    have pc:(0:Int)<=(c:Int):=by omega
    have bc:(c:Int)<(N:Int):=by omega
    have rc:IntKind.i64.wrap ((c:Int))=(c:Int):=by rw[IntKind.wrap_i64];omega
    have la:=SJ.out.cl R (by omega) pq (by omega);have lb:=SJ.out.cl R (by omega) c (by omega);rw[gx,<-bf] at la;rw[gy,<-bh] at lb;have hc:=SJ.out.cmp HC.out (by omega) y x;clear bf bh
    cases hlv:ltOf F y x with
    |true=>
     have hv:F y x<0:=of_decide_eq_true hlv;have hd:decide (F y x<0)=true:=decide_eq_true hv;have aM:Aside (ltOf F y x=true):=hlv;clear hlv;go_wp2_with fail
     try simp only[em,ep,be]
     go_quiet_grown (first|(go_at_fn g;refine Calls.grown_of (hc _ _)))
     have S2:Aside (SW enc I blk E l.toArray (grow (wr.drewN nq) osq)):=SJ.out.grown nq osq;clear la lb hc SJ;generalize grow (wr.drewN nq) osq=w2 at S2⊢;clear nq osq;clear ea ec;go_wp2
     go_roundg (c-D)
     case measure=>omega
     case rel=>exact⟨D,c,rfl,by first|rfl|go_num|(congr 1;omega),bO,bQ,by omega,Nat.le_refl _,⟨S2.out,m'.out.1,Or.inr (fun x' y' hx hy=>by rw[GC.out] at hx;rw[show mid+m-1-c=pq by omega,GQ.out] at hy;cases hx;cases hy;exact aM.out)⟩⟩
    |false=>
     have hv:¬F y x<0:=of_decide_eq_false hlv;have hd:decide (F y x<0)=false:=decide_eq_false hv;have aM:Aside (ltOf F y x=false):=hlv;clear hlv;go_wp2_with fail
     try simp only[em,ep,be]
     go_quiet_grown (first|(go_at_fn g;refine Calls.grown_of (hc _ _)))
     have S2:Aside (SW enc I blk E l.toArray (grow (wr.drewN nq) osq)):=SJ.out.grown nq osq;clear la lb hc SJ;generalize grow (wr.drewN nq) osq=w2 at S2⊢;clear nq osq;clear ea ec;go_wp2
     go_roundg (r-(c+1))
     case measure=>omega
     case rel=>exact⟨c+1,r,by first|go_num|(congr 1;omega),rfl,by omega,by omega,bx,Nat.le_refl _,⟨S2.out,Or.inr (fun x' y' hx hy=>by rw[Nat.add_sub_cancel,GC.out] at hx;rw[show mid+m-(c+1)=pq by omega,GQ.out] at hy;cases hx;cases hy;exact aM.out),m'.out.2⟩⟩
  ·have hij':D=r:=by omega
   subst hij';have bn:¬(D:Int)<(D:Int):=by omega
   have ct:a<=D:=by omega
   have cg:D<=m:=by omega
   have cn:D<=mid:=by omega
   obtain⟨Z,cy⟩:∃q,q+D=mid+m:=⟨mid+m-D,by omega⟩;have ce:m<=Z:=by omega
   have co:Z<=b:=by omega
   have cr:mid<=Z:=by omega
   have aW:(mid:Int)+(m:Int)-(D:Int)=(Z:Int):=by omega
   obtain⟨L1,O,R1,U,J⟩:∃L1 O R1 U,Aside (L=L1++O/\R'=R1++U/\L1.length=D-a/\R1.length=mid-D/\(∀x∈O,∀y∈R1,ltOf F y x=true)/\∀x∈L1,∀y∈U,ltOf F y x=false):=by
    obtain⟨k1,k2,k3,k4,k5,k6,k7,k8⟩:=HL.out;obtain⟨q1,q2,q3⟩:=H.out;rw[k1] at q2 q3;refine sym_find (P:=P) (L:=L) (R:=R') (S:=S) (a:=a) (m:=m) (b:=b) (mid:=mid) (start:=D) aR.out k2 (by omega) (by omega) (by omega) (by omega) k8 k6 k7 ?_ ?_ ?_ ?_
    ·rw[if_neg aj];omega
    ·rw[if_neg aj];omega
    ·rw[if_neg aj];exact q2.imp (fun h=>by omega) id
    ·rw[if_neg aj];exact q3.imp (fun h=>by omega) id
   have K:Aside (O.length=m-D/\U.length=b-Z/\(P++(L1++(O++(R1++(U++S))))).length=N/\P.length+(L1.length+(O.length+(R1.length+(U.length+S.length))))=N):=by
    obtain⟨k1,k2,k3,k4,k5,k6,k7,k8⟩:=HL.out;obtain⟨r1,r2,r3,r4,r5,r6⟩:=J.out;rw[r1,List.length_append] at k3;rw[r2,List.length_append] at k4;rw[r1,r2] at k5;exact⟨by omega,by omega,by simpa using k5,by simpa [Nat.add_assoc] using k5⟩
   have sj:SW enc I blk E (P++(L1++(O++(R1++(U++S))))).toArray wr:=by have:=H.out.1;rw[HL.out.1,J.out.1,J.out.2.1] at this;simpa using this
   have SJ:Aside (SW enc I blk E (P++(L1++(O++(R1++(U++S))))).toArray wr):=sj;clear sj;clear H;obtain⟨bt,a9⟩:∃q:Bool,q=decide (D<m/\m<Z):=⟨_,rfl⟩;have am:Aside (bt=decide (D<m/\m<Z)):=a9;clear a9
   go_upto_region 39 with fail
   go_cut [185] (fun v wx=>v=.bool bt/\wx=wr)
   case first=>
    as_aux_lemma=>
     by_cases hz1:D<m
     ·have z1:(D:Int)<(m:Int):=by omega
      by_cases hz2:m<Z
      ·have z2:(m:Int)<(Z:Int):=by omega
       have aS:(m:Int)<(mid:Int)+(m:Int)-(D:Int):=by omega
       have hb':bt=true:=by rw[am.out];exact decide_eq_true ⟨hz1,hz2⟩
       subst hb';go_wp2;go_meet;exact⟨rfl,rfl⟩
      ·have z2:¬(m:Int)<(Z:Int):=by omega
       have aS:¬(m:Int)<(mid:Int)+(m:Int)-(D:Int):=by omega
       have hb':bt=false:=by rw[am.out];exact decide_eq_false (fun h=>hz2 h.2)
       subst hb';go_wp2;go_meet;exact⟨rfl,rfl⟩
     ·have z1:¬(D:Int)<(m:Int):=by omega
      have hb':bt=false:=by rw[am.out];exact decide_eq_false (fun h=>hz1 h.1)
      subst hb';go_wp2;go_meet;exact⟨rfl,rfl⟩
   case rest=>
   obtain⟨rfl,rfl⟩:=hcut;go_upto_if 185 with fail
   go_cut [] (fun wx=>Aside (SW enc I blk E (P++(L1++(R1++(O++(U++S))))).toArray wx))
   case first=>
    as_aux_lemma=>
     cases bt
     ·have hn:O=[]\/R1=[]:=by
       have h:=of_decide_eq_false am.out.symm
       by_cases h1:D<m
       ·exact Or.inr (List.length_eq_zero_iff.1 (by rw[J.out.2.2.2.1];have:¬m<Z:=fun h2=>h ⟨h1,h2⟩;omega))
       ·exact Or.inl (List.length_eq_zero_iff.1 (by rw[K.out.1];omega))
      go_wp2;go_meet;have:=SJ.out
      show SW enc I blk E _ _
      rcases hn with hn|hn
      ·rw[hn] at this⊢;simpa using this
      ·rw[hn] at this⊢;simpa using this
     ·have hz:=of_decide_eq_true am.out.symm;go_wp2_with (go_at_call 213;fail)
      try simp only[em,aW]
      refine(bE.out D m Z (P++L1) O R1 (U++S) wc (by simpa using K.out.2.2.1) (by rw[List.length_append,HL.out.2.1,J.out.2.2.1];omega) (by rw[K.out.1];omega) (by rw[J.out.2.2.2.1];omega) (by rw[K.out.1];omega) (by rw[J.out.2.2.2.1];omega) (by simpa using SJ.out)).mono ?_;rintro e w2 ⟨rfl,hS⟩;have HF:Aside _:=hS;clear hS SJ;go_wp2;go_meet;have:=HF.out;simp only[List.append_assoc] at this;exact this
   case rest=>
    have SK:Aside (SW enc I blk E (P++(L1++(R1++(O++(U++S))))).toArray wc):=hcut;clear hcut SJ;have af:Aside (Sorted (ltOf F) L1/\Sorted (ltOf F) O/\Sorted (ltOf F) R1/\Sorted (ltOf F) U):=by
     obtain⟨k1,k2,k3,k4,k5,k6,k7,k8⟩:=HL.out;rw[J.out.1] at k6;rw[J.out.2.1] at k7;exact⟨(Sorted.app.1 k6).1,(Sorted.app.1 k6).2.1,(Sorted.app.1 k7).1,(Sorted.app.1 k7).2.1⟩
    clear am;obtain⟨bu,bg⟩:∃q:Bool,q=decide (a<D/\D<mid):=⟨_,rfl⟩;have au:Aside (bu=decide (a<D/\D<mid)):=bg;clear bg;obtain⟨wk,bd⟩:∃q,q=wc:=⟨_,rfl⟩;rw[<-bd] at SK⊢;clear bd
    go_upto_region 41 with fail
    go_cut [199] (fun v wx=>v=.bool bu/\wx=wk)
    case first=>
     as_aux_lemma=>
      by_cases hz1:a<D
      ·have z1:(a:Int)<(D:Int):=by omega
       by_cases hz2:D<mid
       ·have z2:(D:Int)<(mid:Int):=by omega
        have hb':bu=true:=by rw[au.out];exact decide_eq_true ⟨hz1,hz2⟩
        subst hb';go_wp2;go_meet;exact⟨rfl,rfl⟩
       ·have z2:¬(D:Int)<(mid:Int):=by omega
        have hb':bu=false:=by rw[au.out];exact decide_eq_false (fun h=>hz2 h.2)
        subst hb';go_wp2;go_meet;exact⟨rfl,rfl⟩
      ·have z1:¬(a:Int)<(D:Int):=by omega
       have hb':bu=false:=by rw[au.out];exact decide_eq_false (fun h=>hz1 h.1)
       subst hb';go_wp2;go_meet;exact⟨rfl,rfl⟩
    case rest=>
    obtain⟨rfl,rfl⟩:=hcut;go_upto_if 199 with fail
    go_cut [] (fun wx=>Aside (∃M1,Sorted (ltOf F) M1/\Same (ltOf F) (L1++R1) M1/\SW enc I blk E (P++(M1++(O++(U++S)))).toArray wx))
    case first=>
     as_aux_lemma=>
      cases bu
      ·have hn:L1=[]\/R1=[]:=by
        have h:=of_decide_eq_false au.out.symm
        by_cases h1:a<D
        ·exact Or.inr (List.length_eq_zero_iff.1 (by rw[J.out.2.2.2.1];have:¬D<mid:=fun h2=>h ⟨h1,h2⟩;omega))
        ·exact Or.inl (List.length_eq_zero_iff.1 (by rw[J.out.2.2.1];omega))
       go_wp2;go_meet;have:=SK.out;rcases hn with hn|hn
       ·exact⟨R1,af.out.2.2.1,by rw[hn];simpa using Same.refl _ _,by rw[hn] at this;simpa using this⟩
       ·exact⟨L1,af.out.1,by rw[hn];simpa using Same.refl _ _,by rw[hn] at this;simpa using this⟩
      ·have hz:=of_decide_eq_true au.out.symm;go_wp2_with (go_at_call 202;fail)
       try simp only[em,aW]
       refine(bb.out a D mid P L1 R1 (O++(U++S)) wc HL.out.2.1 (by rw[J.out.2.2.1];omega) (by rw[J.out.2.2.2.1];omega) (by rw[J.out.2.2.1];omega) (by rw[J.out.2.2.2.1];omega) ?_ ?_ af.out.1 af.out.2.2.1 SK.out).mono ?_
       ·have h1:=HL.out.2.2.1;have h2:=HL.out.2.2.2.1;rw[J.out.2.2.1,J.out.2.2.2.1];omega
       ·have:=K.out.2.2.2;simp only[List.length_append];omega
       rintro e w2 ⟨rfl,hS⟩;have HF:Aside _:=hS;clear hS SK;go_wp2;go_meet;exact HF
    case rest=>
     as_aux_lemma=>
      obtain⟨M1,HM⟩:∃M1,Aside (Sorted (ltOf F) M1/\Same (ltOf F) (L1++R1) M1/\M1.length=mid-a/\SW enc I blk E (P++(M1++(O++(U++S)))).toArray wc):=by
       obtain⟨M1,q1,q2,q3⟩:=(show Aside _ from hcut).out
       exact⟨M1,q1,q2,by rw[<-q2.len aR.out,List.length_append,J.out.2.2.1,J.out.2.2.2.1];omega,q3⟩
      clear hcut SK;have aP:Aside (∀(M2:List α) (V:World),Sorted (ltOf F) M2->Same (ltOf F) (O++U) M2->SW enc I blk E (P++(M1++(M2++S))).toArray V->∃M,Sorted (ltOf F) M/\Same (ltOf F) (L++R') M/\SW enc I blk E (P++(M++S)).toArray V):=by
       intro M2 V h1 h2 h3;obtain⟨k1,k2,k3,k4,k5,k6,k7,k8⟩:=HL.out;obtain⟨r1,r2,r3,r4,r5,r6⟩:=J.out;obtain⟨m1,m2,m3,m4⟩:=HM.out;obtain⟨p1,p2⟩:=sym_cut aR.out (r1▸k6) (r2▸k7) r5 r6 m1 m2 h1 h2;exact⟨M1++M2,p1,by rw[r1,r2];exact p2,by simpa using h3⟩
      have SL:Aside (SW enc I blk E (P++(M1++(O++(U++S)))).toArray wc):=HM.out.2.2.2
      by_cases hz1:mid<Z
      ·have z1:(mid:Int)<(Z:Int):=by omega
       have bH:(mid:Int)<(mid:Int)+(m:Int)-(D:Int):=by omega
       have bA:((a:Int)+(b:Int))/2<((a:Int)+(b:Int))/2+(m:Int)-(D:Int):=by omega
       by_cases hz2:Z<b
       ·have z2:(Z:Int)<(b:Int):=by omega
        have aS:(mid:Int)+(m:Int)-(D:Int)<(b:Int):=by omega
        have bU:((a:Int)+(b:Int))/2+(m:Int)-(D:Int)<(b:Int):=by omega
        go_wp2_with (go_at_call 202;fail)
        try simp only[em,aW]
        refine(bb.out mid Z b (P++M1) O U S wc (by rw[List.length_append,HL.out.2.1,HM.out.2.2.1];omega) (by rw[K.out.1];omega) (by rw[K.out.2.1];omega) (by rw[K.out.1];omega) (by rw[K.out.2.1];omega) ?_ ?_ af.out.2.1 af.out.2.2.2 (by simpa using SL.out)).mono ?_
        ·have h1:=HL.out.2.2.1;have h2:=HL.out.2.2.2.1;rw[K.out.1,K.out.2.1];omega
        ·have:=K.out.2.2.2;have h3:=HM.out.2.2.1;have h4:=J.out.2.2.1;have h5:=J.out.2.2.2.1;simp only[List.length_append];omega
        rintro e w2 ⟨rfl,hS⟩;have HF:Aside _:=hS;clear hS SL;go_wp2
        go_end0
        obtain⟨M2,q1,q2,q3⟩:=HF.out;exact⟨rfl,aP.out M2 _ q1 q2 (by simpa using q3)⟩
       ·have z2:¬(Z:Int)<(b:Int):=by omega
        have aS:¬(mid:Int)+(m:Int)-(D:Int)<(b:Int):=by omega
        have bU:¬((a:Int)+(b:Int))/2+(m:Int)-(D:Int)<(b:Int):=by omega
        have hn:U=[]:=List.length_eq_zero_iff.1 (by rw[K.out.2.1];omega);go_wp2
        go_end0
        exact⟨rfl,aP.out O _ af.out.2.1 (by rw[hn];simpa using Same.refl _ _) (by have:=SL.out;rw[hn] at this;simpa using this)⟩
      ·have z1:¬(mid:Int)<(Z:Int):=by omega
       have bH:¬(mid:Int)<(mid:Int)+(m:Int)-(D:Int):=by omega
       have bA:¬((a:Int)+(b:Int))/2<((a:Int)+(b:Int))/2+(m:Int)-(D:Int):=by omega
       have hn:O=[]:=List.length_eq_zero_iff.1 (by rw[K.out.1];omega);go_wp2
       go_end0
       exact⟨rfl,aP.out U _ af.out.2.2.2 (by rw[hn];simpa using Same.refl _ _) (by have:=SL.out;rw[hn] at this;simpa using this)⟩
end Stb
end Go.Proofs.YtjlgejennghhlaaGreatDoor
