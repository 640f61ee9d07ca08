import Derived.Deep.Cut
import Derived.Deep.DeepCutAuto
import Derived.Test.YtofidnijfnhpaaaGreatDoorQ01
import Derived.Test.YtofidnijfnhpaaaGreatDoorQ12
import Derived.Test.YtofidnijfnhpaaaGreatDoorQ13
set_option linter.unusedSimpArgs false
set_option linter.unusedVariables false
set_option linter.unusedSectionVars false
set_option maxRecDepth 1000000
set_option maxHeartbeats 16000000
namespace Go.Proofs.YtofidnijfnhpaaaGreatDoor
namespace Stb
open Go.Shelf Go.RowKit Go.Lib Go.Sort
variable {α:Type} [Inhabited α]
theorem sym_le (enc:α->Value) (z:α->α->Int) (g:Nat) (cb:Array Value) (blk o ax a m b N:Nat) (P L O S:List α) (d0:Array α) (w0 w:World) (eg:∀args w,(callFunc g args).run Tryz.prog w=.ok (.enter g args) w) (aH:CmpLays1 Tryz.prog g cb enc z blk o d0.size w0) (ho:Ord (ltOf z)) (R:Row1 enc w0 blk o d0) (hN:d0.size=N) (hsz:N<4611686018427387904) (ai:(P++(L++(O++S))).length=N) (ha:P.length=a) (hm:m=a+L.length) (hb:b=m+O.length) (h2:2<=L.length) (h3:2<=O.length) (sL:Sorted (ltOf z) L) (sR:Sorted (ltOf z) O) (mid:Nat) (aK:mid=(a+b)/2) (ad:¬mid<m)
 (IH:∀(a' m' b':Nat) (P' L' Q' S':List α) (W:World),P'.length=a'->m'=a'+L'.length->b'=m'+Q'.length->0<L'.length->0<Q'.length->L'.length+Q'.length<L.length+O.length->(P'++(L'++(Q'++S'))).length=N->Sorted (ltOf z) L'->Sorted (ltOf z) Q'->SW enc w0 blk o (P'++(L'++(Q'++S'))).toArray W->Calls Tryz.prog 136 #[.slice (some ⟨blk,o,none⟩) N ax,.int .i64 a',.int .i64 m',.int .i64 b',.func (.func g) #[] cb] W fun e w'=>e=.returned (.tuple #[])/\∃M,Sorted (ltOf z) M/\Same (ltOf z) (L'++Q') M/\SW enc w0 blk o (P'++(M++S')).toArray w')
 (S0:SW enc w0 blk o (P++(L++(O++S))).toArray w):
 Calls Tryz.prog 136 #[.slice (some ⟨blk,o,none⟩) N ax,.int .i64 a,.int .i64 m,.int .i64 b,.func (.func g) #[] cb] w fun e w'=>e=.returned (.tuple #[])/\∃M,Sorted (ltOf z) M/\Same (ltOf z) (L++O) M/\SW enc w0 blk o (P++(M++S)).toArray w':=by
 have bS:Tryz.prog.follows .mixedOrders=true:=by kernel_rfl
 have bj:=R.hO.cells
 simp only[Value.cells] at bj
 have cr:=R.hO.store Tryz.prog
 have HC:Aside _:=aH
 have aE:Aside (Ord (ltOf z)):=ho
 have a7:Aside _:=IH
 have bp:Aside (∀(a' m' b':Nat) (P' X Y S':List α) (W:World),(P'++(X++(Y++S'))).length=N->P'.length=a'->X.length+a'=m'->Y.length+m'=b'->0<X.length->0<Y.length->SW enc w0 blk o (P'++(X++(Y++S'))).toArray W->Calls Tryz.prog 151 #[.slice (some ⟨blk,o,none⟩) N ax,.int .i64 a',.int .i64 m',.int .i64 b',.func (.func g) #[] cb] W fun e w'=>e=.returned (.tuple #[])/\SW enc w0 blk o (P'++(Y++(X++S'))).toArray w'):=
  fun a' m' b' P' X Y S' W h1 h2 h3 h4 h5 h6 h7=>rotate_any enc _ blk o ax a' m' b' N P' X Y S' d0 w0 W R hN h1 h2 h3 h4 h5 h6 hsz h7
 obtain⟨l,hl⟩:∃q,q=P++(L++(O++S)):=⟨_,rfl⟩
 have ci:l.toArray.size=N:=by rw[hl];simpa using ai
 have HG:Aside (∀k,k<N->l[k]? =some (l.toArray[k]!)):=fun k hk=>arr_get l k (by simpa using (show k<l.toArray.size by omega))
 have ct:b<=N:=by
  have:P.length+(L.length+(O.length+S.length))=N:=by simpa [Nat.add_comm,Nat.add_left_comm,Nat.add_assoc] using ai
  omega
 have ch:a+2<=m:=by omega
 have cg:m+2<=b:=by omega
 have e1:¬((m:Int)-(a:Int)=1):=by omega
 have e2:¬((b:Int)-(m:Int)=1):=by omega
 have cA:((m:Int)-(a:Int)==1)=false:=by simp[e1]
 have cp:((b:Int)-(m:Int)==1)=false:=by simp[e2]
 have ce:2*mid<=a+b:=by omega
 have cm:a+b<=2*mid+1:=by omega
 have em:((a:Int)+(b:Int))/2=(mid:Int):=by omega
 obtain⟨pp,cu⟩:∃q,q+1=mid+m:=⟨mid+m-1,by omega⟩
 have ep:(mid:Int)+(m:Int)-1=(pp:Int):=by omega
 have cy:¬(((a:Int)+(b:Int))/2<(m:Int)):=by omega
 have hmz':¬((mid:Int)<(m:Int)):=by omega
 have HS:Aside (SW enc w0 blk o l.toArray w):=by rw[hl];exact S0
 have HL:Aside (l=P++(L++(O++S))/\P.length=a/\m=a+L.length/\b=m+O.length/\(P++(L++(O++S))).length=N/\Sorted (ltOf z) L/\Sorted (ltOf z) O/\mid=(a+b)/2):=⟨hl,ha,hm,hb,ai,sL,sR,aK⟩
 clear S0 aH ho hl ha hm hb ai sL sR h2 h3 IH aK
 go_enter Tryz.func136,Tryz.ntmps136
 go_wp2
 try simp only[em,ep]
 go_loopg [20,21] (b-a) (fun g1 vs vr wr=>∃j r:Nat,vs=.int .i64 j/\vr=.int .i64 r/\a<=j/\j<=r/\r<=m/\r-j<=g1/\Aside (SW enc w0 blk o l.toArray wr/\(j=a\/∀x y,l[j-1]? =some x->l[mid+m-j]? =some y->ltOf z y x=false)/\(r=m\/∀x y,l[r]? =some x->l[mid+m-1-r]? =some y->ltOf z y x=true)))
 case atStart=>exact⟨a,m,by first|rfl|go_num|(congr 1;omega),by first|rfl|go_num|(congr 1;omega),Nat.le_refl _,by omega,Nat.le_refl _,by omega,⟨HS.out,Or.inl rfl,Or.inl rfl⟩⟩
 case round=>
  clear HS
  obtain⟨j,r,rfl,rfl,bI,cn,bn,hg,H⟩:=hrel
  by_cases hlt:j<r
  ·as_aux_lemma=>
    have bi:(j:Int)<(r:Int):=by omega
    obtain⟨c,hh⟩:∃q,q=(j+r)/2:=⟨_,rfl⟩
    have bF:j<=c:=by omega
    have ck:c<r:=by omega
    have bb:((j:Int)+(r:Int))/2=(c:Int):=by omega
    obtain⟨U,hq⟩:∃q,q+(c+1)=mid+m:=⟨mid+m-(c+1),by omega⟩
    have cw:(pp:Int)-(c:Int)=(U:Int):=by omega
    have cq:IntKind.i64.wrap ((pp:Int)-(c:Int))=(U:Int):=by rw[IntKind.wrap_i64];omega
    obtain⟨x,gy⟩:∃y,l.toArray[c]! =y:=⟨_,rfl⟩
    obtain⟨y,gx⟩:∃y,l.toArray[U]! =y:=⟨_,rfl⟩
    have GC:Aside (l[c]? =some x):=by have:=HG.out c (by omega);rw[gy] at this;exact this
    have GQ:Aside (l[U]? =some y):=by have:=HG.out U (by omega);rw[gx] at this;exact this
    have SJ:Aside (SW enc w0 blk o l.toArray wr):=H.out.1
    have m':Aside ((j=a\/∀x y,l[j-1]? =some x->l[mid+m-j]? =some y->ltOf z y x=false)/\(r=m\/∀x y,l[r]? =some x->l[mid+m-1-r]? =some y->ltOf z y x=true)):=H.out.2
    clear H hh
    obtain⟨iN,be⟩:∃q,q=U:=⟨_,rfl⟩
    obtain⟨jN,a8⟩:∃q,q=c:=⟨_,rfl⟩
    have ea:((U:Int)).toNat=iN:=by omega
    have pa:(0:Int)<=(U:Int):=by omega
    have ba:(U:Int)<(N:Int):=by omega
    have ra:IntKind.i64.wrap ((U:Int))=(U:Int):=by rw[IntKind.wrap_i64];omega
    have ec:((c:Int)).toNat=jN:=by omega
    have pc:(0:Int)<=(c:Int):=by omega
    have bc:(c:Int)<(N:Int):=by omega
    have rc:IntKind.i64.wrap ((c:Int))=(c:Int):=by rw[IntKind.wrap_i64];omega
    have la:=SJ.out.cl R (by omega) U (by omega)
    have lb:=SJ.out.cl R (by omega) c (by omega)
    rw[gx,<-be] at la
    rw[gy,<-a8] at lb
    have hc:=SJ.out.cmp HC.out (by omega) y x
    clear be a8
    cases hlv:ltOf z y x with
    |true=>
     have hv:z y x<0:=of_decide_eq_true hlv
     have hd:decide (z y x<0)=true:=decide_eq_true hv
     have aJ:Aside (ltOf z y x=true):=hlv
     clear hlv
     go_wp2_with fail
     try simp only[em,ep,bb]
     go_quiet_grown (first|(go_at_fn g;refine Calls.grown_of (hc _ _)))
     have S2:Aside (SW enc w0 blk o l.toArray (grow (wr.drewN nq) osq)):=SJ.out.grown nq osq
     clear la lb hc SJ
     generalize grow (wr.drewN nq) osq=w2 at S2⊢
     clear nq osq
     clear ea ec
     go_wp2
     go_roundg (c-j)
     case measure=>omega
     case rel=>exact⟨j,c,rfl,by first|rfl|go_num|(congr 1;omega),bI,bF,by omega,Nat.le_refl _,⟨S2.out,m'.out.1,Or.inr (fun x' y' hx hy=>by rw[GC.out] at hx;rw[show mid+m-1-c=U by omega,GQ.out] at hy;cases hx;cases hy;exact aJ.out)⟩⟩
    |false=>
     have hv:¬z y x<0:=of_decide_eq_false hlv
     have hd:decide (z y x<0)=false:=decide_eq_false hv
     have aJ:Aside (ltOf z y x=false):=hlv
     clear hlv
     go_wp2_with fail
     try simp only[em,ep,bb]
     go_quiet_grown (first|(go_at_fn g;refine Calls.grown_of (hc _ _)))
     have S2:Aside (SW enc w0 blk o l.toArray (grow (wr.drewN nq) osq)):=SJ.out.grown nq osq
     clear la lb hc SJ
     generalize grow (wr.drewN nq) osq=w2 at S2⊢
     clear nq osq
     clear ea ec
     go_wp2
     go_roundg (r-(c+1))
     case measure=>omega
     case rel=>exact⟨c+1,r,by first|go_num|(congr 1;omega),rfl,by omega,by omega,bn,Nat.le_refl _,⟨S2.out,Or.inr (fun x' y' hx hy=>by rw[Nat.add_sub_cancel,GC.out] at hx;rw[show mid+m-(c+1)=U by omega,GQ.out] at hy;cases hx;cases hy;exact aJ.out),m'.out.2⟩⟩
  ·have hij':j=r:=by omega
   subst hij'
   have bi:¬(j:Int)<(j:Int):=by omega
   have cB:a<=j:=by omega
   have cz:j<=m:=by omega
   have co:j<=mid:=by omega
   obtain⟨F,cv⟩:∃q,q+j=mid+m:=⟨mid+m-j,by omega⟩
   have cC:m<=F:=by omega
   have cj:F<=b:=by omega
   have cx:mid<=F:=by omega
   have aO:(mid:Int)+(m:Int)-(j:Int)=(F:Int):=by omega
   obtain⟨K,D,J,E,A⟩:∃K D J E,Aside (L=K++D/\O=J++E/\K.length=j-a/\J.length=mid-j/\(∀x∈D,∀y∈J,ltOf z y x=true)/\∀x∈K,∀y∈E,ltOf z y x=false):=by
    obtain⟨k1,k2,k3,k4,k5,k6,k7,k8⟩:=HL.out
    obtain⟨q1,q2,q3⟩:=H.out
    rw[k1] at q2 q3
    refine sym_find (P:=P) (L:=L) (R:=O) (S:=S) (a:=a) (m:=m) (b:=b) (mid:=mid) (start:=j) aE.out k2 (by omega) (by omega) (by omega) (by omega) k8 k6 k7 ?_ ?_ ?_ ?_
    ·rw[if_neg ad];omega
    ·rw[if_neg ad];omega
    ·rw[if_neg ad];exact q2.imp (fun h=>by omega) id
    ·rw[if_neg ad];exact q3.imp (fun h=>by omega) id
   have B:Aside (D.length=m-j/\E.length=b-F/\(P++(K++(D++(J++(E++S))))).length=N/\P.length+(K.length+(D.length+(J.length+(E.length+S.length))))=N):=by
    obtain⟨k1,k2,k3,k4,k5,k6,k7,k8⟩:=HL.out
    obtain⟨r1,r2,r3,r4,r5,r6⟩:=A.out
    rw[r1,List.length_append] at k3
    rw[r2,List.length_append] at k4
    rw[r1,r2] at k5
    exact⟨by omega,by omega,by simpa using k5,by simpa [Nat.add_assoc] using k5⟩
   have sj:SW enc w0 blk o (P++(K++(D++(J++(E++S))))).toArray wr:=by have:=H.out.1;rw[HL.out.1,A.out.1,A.out.2.1] at this;simpa using this
   have SJ:Aside (SW enc w0 blk o (P++(K++(D++(J++(E++S))))).toArray wr):=sj
   clear sj
   clear H
   obtain⟨bt,bd⟩:∃q:Bool,q=decide (j<m/\m<F):=⟨_,rfl⟩
   have ag:Aside (bt=decide (j<m/\m<F)):=bd
   clear bd
   go_upto_region 39 with fail
   go_cut [185] (fun v wx=>v=.bool bt/\wx=wr)
   case first=>
    as_aux_lemma=>
     by_cases hz1:j<m
     ·have z1:(j:Int)<(m:Int):=by omega
      by_cases hz2:m<F
      ·have z2:(m:Int)<(F:Int):=by omega
       have aM:(m:Int)<(mid:Int)+(m:Int)-(j:Int):=by omega
       have hb':bt=true:=by rw[ag.out];exact decide_eq_true ⟨hz1,hz2⟩
       subst hb'
       go_wp2
       go_meet
       exact⟨rfl,rfl⟩
      ·have z2:¬(m:Int)<(F:Int):=by omega
       have aM:¬(m:Int)<(mid:Int)+(m:Int)-(j:Int):=by omega
       have hb':bt=false:=by rw[ag.out];exact decide_eq_false (fun h=>hz2 h.2)
       subst hb'
       go_wp2
       go_meet
       exact⟨rfl,rfl⟩
     ·have z1:¬(j:Int)<(m:Int):=by omega
      have hb':bt=false:=by rw[ag.out];exact decide_eq_false (fun h=>hz1 h.1)
      subst hb'
      go_wp2
      go_meet
      exact⟨rfl,rfl⟩
   case rest=>
   obtain⟨rfl,rfl⟩:=hcut
   go_upto_if 185 with fail
   go_cut [] (fun wx=>Aside (SW enc w0 blk o (P++(K++(J++(D++(E++S))))).toArray wx))
   case first=>
    as_aux_lemma=>
     cases bt
     ·have I:D=[]\/J=[]:=by
       have h:=of_decide_eq_false ag.out.symm
       by_cases h1:j<m
       ·exact Or.inr (List.length_eq_zero_iff.1 (by rw[A.out.2.2.2.1];have:¬m<F:=fun h2=>h ⟨h1,h2⟩;omega))
       ·exact Or.inl (List.length_eq_zero_iff.1 (by rw[B.out.1];omega))
      go_wp2
      go_meet
      have:=SJ.out
      show SW enc w0 blk o _ _
      rcases I with I|I
      ·rw[I] at this⊢
       simpa using this
      ·rw[I] at this⊢
       simpa using this
     ·have hz:=of_decide_eq_true ag.out.symm
      go_wp2_with (go_at_call 151;fail)
      try simp only[em,aO]
      refine(bp.out j m F (P++K) D J (E++S) wc (by simpa using B.out.2.2.1) (by rw[List.length_append,HL.out.2.1,A.out.2.2.1];omega) (by rw[B.out.1];omega) (by rw[A.out.2.2.2.1];omega) (by rw[B.out.1];omega) (by rw[A.out.2.2.2.1];omega) (by simpa using SJ.out)).mono ?_
      rintro e w2 ⟨rfl,hS⟩
      have HF:Aside _:=hS
      clear hS SJ
      go_wp2
      go_meet
      have:=HF.out
      simp only[List.append_assoc] at this
      exact this
   case rest=>
    have SK:Aside (SW enc w0 blk o (P++(K++(J++(D++(E++S))))).toArray wc):=hcut
    clear hcut SJ
    have Z:Aside (Sorted (ltOf z) K/\Sorted (ltOf z) D/\Sorted (ltOf z) J/\Sorted (ltOf z) E):=by
     obtain⟨k1,k2,k3,k4,k5,k6,k7,k8⟩:=HL.out
     rw[A.out.1] at k6
     rw[A.out.2.1] at k7
     exact⟨(Sorted.app.1 k6).1,(Sorted.app.1 k6).2.1,(Sorted.app.1 k7).1,(Sorted.app.1 k7).2.1⟩
    clear ag
    obtain⟨bu,a9⟩:∃q:Bool,q=decide (a<j/\j<mid):=⟨_,rfl⟩
    have ap:Aside (bu=decide (a<j/\j<mid)):=a9
    clear a9
    obtain⟨wk,bf⟩:∃q,q=wc:=⟨_,rfl⟩
    rw[<-bf] at SK⊢
    clear bf
    go_upto_region 41 with fail
    go_cut [199] (fun v wx=>v=.bool bu/\wx=wk)
    case first=>
     as_aux_lemma=>
      by_cases hz1:a<j
      ·have z1:(a:Int)<(j:Int):=by omega
       by_cases hz2:j<mid
       ·have z2:(j:Int)<(mid:Int):=by omega
        have hb':bu=true:=by rw[ap.out];exact decide_eq_true ⟨hz1,hz2⟩
        subst hb'
        go_wp2
        go_meet
        exact⟨rfl,rfl⟩
       ·have z2:¬(j:Int)<(mid:Int):=by omega
        have hb':bu=false:=by rw[ap.out];exact decide_eq_false (fun h=>hz2 h.2)
        subst hb'
        go_wp2
        go_meet
        exact⟨rfl,rfl⟩
      ·have z1:¬(a:Int)<(j:Int):=by omega
       have hb':bu=false:=by rw[ap.out];exact decide_eq_false (fun h=>hz1 h.1)
       subst hb'
       go_wp2
       go_meet
       exact⟨rfl,rfl⟩
    case rest=>
    obtain⟨rfl,rfl⟩:=hcut
    go_upto_if 199 with fail
    go_cut [] (fun wx=>Aside (∃T,Sorted (ltOf z) T/\Same (ltOf z) (K++J) T/\SW enc w0 blk o (P++(T++(D++(E++S)))).toArray wx))
    case first=>
     as_aux_lemma=>
      cases bu
      ·have I:K=[]\/J=[]:=by
        have h:=of_decide_eq_false ap.out.symm
        by_cases h1:a<j
        ·exact Or.inr (List.length_eq_zero_iff.1 (by rw[A.out.2.2.2.1];have:¬j<mid:=fun h2=>h ⟨h1,h2⟩;omega))
        ·exact Or.inl (List.length_eq_zero_iff.1 (by rw[A.out.2.2.1];omega))
       go_wp2
       go_meet
       have:=SK.out
       rcases I with I|I
       ·exact⟨J,Z.out.2.2.1,by rw[I];simpa using Same.refl _ _,by rw[I] at this;simpa using this⟩
       ·exact⟨K,Z.out.1,by rw[I];simpa using Same.refl _ _,by rw[I] at this;simpa using this⟩
      ·have hz:=of_decide_eq_true ap.out.symm
       go_wp2_with (go_at_call 136;fail)
       try simp only[em,aO]
       refine(a7.out a j mid P K J (D++(E++S)) wc HL.out.2.1 (by rw[A.out.2.2.1];omega) (by rw[A.out.2.2.2.1];omega) (by rw[A.out.2.2.1];omega) (by rw[A.out.2.2.2.1];omega) ?_ ?_ Z.out.1 Z.out.2.2.1 SK.out).mono ?_
       ·have h1:=HL.out.2.2.1
        have h2:=HL.out.2.2.2.1
        rw[A.out.2.2.1,A.out.2.2.2.1]
        omega
       ·have:=B.out.2.2.2
        simp only[List.length_append]
        omega
       rintro e w2 ⟨rfl,hS⟩
       have HF:Aside _:=hS
       clear hS SK
       go_wp2
       go_meet
       exact HF
    case rest=>
     as_aux_lemma=>
      obtain⟨T,HM⟩:∃T,Aside (Sorted (ltOf z) T/\Same (ltOf z) (K++J) T/\T.length=mid-a/\SW enc w0 blk o (P++(T++(D++(E++S)))).toArray wc):=by
       obtain⟨T,q1,q2,q3⟩:=(show Aside _ from hcut).out
       exact⟨T,q1,q2,by rw[<-q2.len aE.out,List.length_append,A.out.2.2.1,A.out.2.2.2.1];omega,q3⟩
      clear hcut SK
      have aG:Aside (∀(M2:List α) (V:World),Sorted (ltOf z) M2->Same (ltOf z) (D++E) M2->SW enc w0 blk o (P++(T++(M2++S))).toArray V->∃M,Sorted (ltOf z) M/\Same (ltOf z) (L++O) M/\SW enc w0 blk o (P++(M++S)).toArray V):=by
       intro M2 V h1 h2 h3
       obtain⟨k1,k2,k3,k4,k5,k6,k7,k8⟩:=HL.out
       obtain⟨r1,r2,r3,r4,r5,r6⟩:=A.out
       obtain⟨m1,m2,m3,m4⟩:=HM.out
       obtain⟨p1,p2⟩:=sym_cut aE.out (r1▸k6) (r2▸k7) r5 r6 m1 m2 h1 h2
       exact⟨T++M2,p1,by rw[r1,r2];exact p2,by simpa using h3⟩
      have SL:Aside (SW enc w0 blk o (P++(T++(D++(E++S)))).toArray wc):=HM.out.2.2.2
      by_cases hz1:mid<F
      ·have z1:(mid:Int)<(F:Int):=by omega
       have bP:(mid:Int)<(mid:Int)+(m:Int)-(j:Int):=by omega
       have bM:((a:Int)+(b:Int))/2<((a:Int)+(b:Int))/2+(m:Int)-(j:Int):=by omega
       by_cases hz2:F<b
       ·have z2:(F:Int)<(b:Int):=by omega
        have aM:(mid:Int)+(m:Int)-(j:Int)<(b:Int):=by omega
        have bL:((a:Int)+(b:Int))/2+(m:Int)-(j:Int)<(b:Int):=by omega
        go_wp2_with (go_at_call 136;fail)
        try simp only[em,aO]
        refine(a7.out mid F b (P++T) D E S wc (by rw[List.length_append,HL.out.2.1,HM.out.2.2.1];omega) (by rw[B.out.1];omega) (by rw[B.out.2.1];omega) (by rw[B.out.1];omega) (by rw[B.out.2.1];omega) ?_ ?_ Z.out.2.1 Z.out.2.2.2 (by simpa using SL.out)).mono ?_
        ·have h1:=HL.out.2.2.1
         have h2:=HL.out.2.2.2.1
         rw[B.out.1,B.out.2.1]
         omega
        ·have:=B.out.2.2.2
         have h3:=HM.out.2.2.1
         have h4:=A.out.2.2.1
         have h5:=A.out.2.2.2.1
         simp only[List.length_append]
         omega
        rintro e w2 ⟨rfl,hS⟩
        have HF:Aside _:=hS
        clear hS SL
        go_wp2
        go_end0
        obtain⟨M2,q1,q2,q3⟩:=HF.out
        exact⟨rfl,aG.out M2 _ q1 q2 (by simpa using q3)⟩
       ·have z2:¬(F:Int)<(b:Int):=by omega
        have aM:¬(mid:Int)+(m:Int)-(j:Int)<(b:Int):=by omega
        have bL:¬((a:Int)+(b:Int))/2+(m:Int)-(j:Int)<(b:Int):=by omega
        have I:E=[]:=List.length_eq_zero_iff.1 (by rw[B.out.2.1];omega)
        go_wp2
        go_end0
        exact⟨rfl,aG.out D _ Z.out.2.1 (by rw[I];simpa using Same.refl _ _) (by have:=SL.out;rw[I] at this;simpa using this)⟩
      ·have z1:¬(mid:Int)<(F:Int):=by omega
       have bP:¬(mid:Int)<(mid:Int)+(m:Int)-(j:Int):=by omega
       have bM:¬((a:Int)+(b:Int))/2<((a:Int)+(b:Int))/2+(m:Int)-(j:Int):=by omega
       have I:D=[]:=List.length_eq_zero_iff.1 (by rw[B.out.1];omega)
       go_wp2
       go_end0
       exact⟨rfl,aG.out E _ Z.out.2.2.2 (by rw[I];simpa using Same.refl _ _) (by have:=SL.out;rw[I] at this;simpa using this)⟩
end Stb
end Go.Proofs.YtofidnijfnhpaaaGreatDoor
namespace Go.Proofs.YtofidnijfnhpaaaGreatDoor
namespace Stb
open Go.Shelf Go.RowKit Go.Lib Go.Sort
variable {α:Type} [Inhabited α]
theorem sym_any (enc:α->Value) (o:α->α->Int) (g:Nat) (B:Array Value) (blk j y N:Nat) (d0:Array α) (w0:World) (eg:∀args w,(callFunc g args).run Tryz.prog w=.ok (.enter g args) w) (q:CmpLays1 Tryz.prog g B enc o blk j d0.size w0) (D:Ord (ltOf o)) (R:Row1 enc w0 blk j d0) (E:d0.size=N) (hsz:N<4611686018427387904):
 ∀(k a m b:Nat) (P L Q S:List α) (w:World),P.length=a->m=a+L.length->b=m+Q.length->0<L.length->0<Q.length->L.length+Q.length<=k->(P++(L++(Q++S))).length=N->Sorted (ltOf o) L->Sorted (ltOf o) Q->SW enc w0 blk j (P++(L++(Q++S))).toArray w->
 Calls Tryz.prog 136 #[.slice (some ⟨blk,j,none⟩) N y,.int .i64 a,.int .i64 m,.int .i64 b,.func (.func g) #[] B] w fun e w'=>e=.returned (.tuple #[])/\∃M,Sorted (ltOf o) M/\Same (ltOf o) (L++Q) M/\SW enc w0 blk j (P++(M++S)).toArray w'
 |0,_,_,_,_,_,_,_,_,_,_,_,h,_,hk,_,_,_,_=>by omega
 |k+1,a,m,b,P,L,Q,S,w,ha,hm,hb,hL,hQ,hk,hlen,sL,sQ,S0=>by
  by_cases h1:L.length=1
  ·obtain⟨x,rfl⟩:=List.length_eq_one_iff.1 h1
   exact sym_left enc o g B blk j y a m b N x P Q S d0 w0 w eg q D R E hsz hlen ha (by simpa using hm) hb sQ S0
  ·by_cases h2:Q.length=1
   ·obtain⟨x,rfl⟩:=List.length_eq_one_iff.1 h2
    exact sym_right enc o g B blk j y a m b N x P L S d0 w0 w eg q D R E hsz hlen ha hm (by simpa using hb) (by omega) sL S0
   ·have T:=fun(I K U:Nat) (F A z J:List α) (W:World) (q1:F.length=I) (q2:K=I+A.length) (q3:U=K+z.length) (q4:0<A.length) (Z:0<z.length) (q6:A.length+z.length<L.length+Q.length) (q7:(F++(A++(z++J))).length=N) (q8:Sorted (ltOf o) A) (V:Sorted (ltOf o) z) (O:SW enc w0 blk j (F++(A++(z++J))).toArray W)=>sym_any enc o g B blk j y N d0 w0 eg q D R E hsz k I K U F A z J W q1 q2 q3 q4 Z (by omega) q7 q8 V O
    by_cases hc:(a+b)/2<m
    ·exact sym_gt enc o g B blk j y a m b N P L Q S d0 w0 w eg q D R E hsz hlen ha hm hb (by omega) (by omega) sL sQ ((a+b)/2) rfl hc T S0
    ·exact sym_le enc o g B blk j y a m b N P L Q S d0 w0 w eg q D R E hsz hlen ha hm hb (by omega) (by omega) sL sQ ((a+b)/2) rfl hc T S0
omit [Inhabited α] in
inductive Blk (lt:α->α->Bool) (s:Nat):List α->Prop
 |last (M:List α):M.length<=s->Sorted lt M->Blk lt s M
 |cons (M D:List α):M.length=s->Sorted lt M->Blk lt s D->Blk lt s (M++D)
inductive Full (lt:α->α->Bool) (s:Nat):List α->Prop
 |nil:Full lt s []
 |snoc (D M:List α):Full lt s D->M.length=s->Sorted lt M->Full lt s (D++M)
omit [Inhabited α] in
theorem Full.blk {lt:α->α->Bool} {s:Nat} {D:List α} (h:Full lt s D):∀{E:List α},Blk lt s E->Blk lt s (D++E):=by
 induction h with
 |nil=>intro E j;simpa using j
 |snoc D M _ h1 h2 ih=>intro E j;rw[List.append_assoc];exact ih (Blk.cons M E h1 h2 j)
omit [Inhabited α] in
theorem Blk.whole {lt:α->α->Bool} {s:Nat} {E:List α} (h:Blk lt s E) (j:E.length<=s):Sorted lt E:=by
 cases h with
 |last _ _ h2=>exact h2
 |cons M D h1 h2 h3=>
  have:D=[]:=List.length_eq_zero_iff.1 (by rw[List.length_append] at j;omega)
  subst this
  simpa using h2
omit [Inhabited α] in
theorem Blk.two {lt:α->α->Bool} {s:Nat} {E:List α} (h:Blk lt s E) (o:0<s) (j:2*s<=E.length):∃L Q E',E=L++(Q++E')/\L.length=s/\Q.length=s/\Sorted lt L/\Sorted lt Q/\Blk lt s E':=by
 cases h with
 |last _ h1 h2=>omega
 |cons M D h1 h2 h3=>
  rw[List.length_append] at j
  cases h3 with
  |last _ k1 k2=>exact⟨M,D,[],by simp,h1,by omega,h2,k2,Blk.last _ (by simp) (sorted_short _ _ (by simp))⟩
  |cons Q E' k1 k2 k3=>exact⟨M,Q,E',rfl,h1,k1,h2,k2,k3⟩
omit [Inhabited α] in
theorem Blk.tail {lt:α->α->Bool} {s:Nat} {E:List α} (h:Blk lt s E) (o:s<E.length) (j:E.length<2*s):∃L Q,E=L++Q/\L.length=s/\0<Q.length/\Sorted lt L/\Sorted lt Q:=by
 cases h with
 |last _ h1 h2=>omega
 |cons M D h1 h2 h3=>
  rw[List.length_append] at o j
  exact⟨M,D,rfl,h1,by omega,h2,h3.whole (by omega)⟩
end Stb
end Go.Proofs.YtofidnijfnhpaaaGreatDoor
namespace Go.Proofs.YtofidnijfnhpaaaGreatDoor
namespace Stb
open Go.Shelf Go.RowKit Go.Lib Go.Sort
variable {α:Type} [Inhabited α]
theorem stable_any (enc:α->Value) (j:α->α->Int) (g:Nat) (cb:Array Value) (blk o ac N:Nat) (z:List α) (w0:World) (eg:∀args w,(callFunc g args).run Tryz.prog w=.ok (.enter g args) w) (ad:CmpLays1 Tryz.prog g cb enc j blk o z.toArray.size w0) (ho:Ord (ltOf j)) (R:Row1 enc w0 blk o z.toArray) (hN:z.length=N) (hsz:N<1152921504606846976):
 Calls Tryz.prog 121 #[.slice (some ⟨blk,o,none⟩) N ac,.int .i64 N,.func (.func g) #[] cb] w0 fun e w'=>e=.returned (.tuple #[])/\∃l,Sorted (ltOf j) l/\Same (ltOf j) z l/\SW enc w0 blk o l.toArray w':=by
 have hN':z.toArray.size=N:=by simpa using hN
 have ah:Aside (∀(a b:Nat) (P M S:List α) (W:World),(P++(M++S)).length=N->P.length=a->b=a+M.length->SW enc w0 blk o (P++(M++S)).toArray W->Calls Tryz.prog 135 #[.slice (some ⟨blk,o,none⟩) N ac,.int .i64 a,.int .i64 b,.func (.func g) #[] cb] W fun e w'=>e=.returned (.tuple #[])/\∃J,Sorted (ltOf j) J/\Same (ltOf j) M J/\SW enc w0 blk o (P++(J++S)).toArray w'):=
  fun a b P M S W h1 h2 h3 B=>insertion_any enc j g cb blk o ac a b N P M S z.toArray w0 W eg ad ho R hN' h1 h2 h3 (by omega) B
 have ai:Aside (∀(a m b:Nat) (P L Q S:List α) (W:World),P.length=a->m=a+L.length->b=m+Q.length->0<L.length->0<Q.length->(P++(L++(Q++S))).length=N->Sorted (ltOf j) L->Sorted (ltOf j) Q->SW enc w0 blk o (P++(L++(Q++S))).toArray W->Calls Tryz.prog 136 #[.slice (some ⟨blk,o,none⟩) N ac,.int .i64 a,.int .i64 m,.int .i64 b,.func (.func g) #[] cb] W fun e w'=>e=.returned (.tuple #[])/\∃M,Sorted (ltOf j) M/\Same (ltOf j) (L++Q) M/\SW enc w0 blk o (P++(M++S)).toArray w'):=
  fun a m b P L Q S W h1 h2 h3 B h5 h6 h7 h8 h9=>sym_any enc j g cb blk o ac N z.toArray w0 eg ad ho R hN' (by omega) _ a m b P L Q S W h1 h2 h3 B h5 (Nat.le_refl _) h6 h7 h8 h9
 have HS:Aside (SW enc w0 blk o z.toArray w0/\z.length=N):=⟨SW.start R.hH,hN⟩
 have ae:Aside (Ord (ltOf j)):=ho
 clear ad ho R hN hN'
 go_enter Tryz.func121,Tryz.ntmps121
 go_wp2
 go_loopg [7,8] N (fun g1 va vb wr=>∃(a:Nat) (D E:List α),va=.int .i64 a/\vb=.int .i64 ((a:Int)+20)/\a<=N/\N-a<=g1/\Aside (Full (ltOf j) 20 D/\D.length=a/\Same (ltOf j) z (D++E)/\(D++E).length=N/\SW enc w0 blk o (D++E).toArray wr))
 case atStart=>exact⟨0,[],z,rfl,by first|rfl|go_num,Nat.zero_le _,by omega,Full.nil,rfl,Same.refl _ _,HS.out.2,by simpa using HS.out.1⟩
 case round=>
  clear HS
  obtain⟨a,D,E,rfl,rfl,av,hg,H⟩:=hrel
  by_cases hlt:a+20<=N
  ·have ab:(a:Int)+20<=(N:Int):=by omega
   obtain⟨M,y,q⟩:∃M y,Aside (E=M++y/\M.length=20):=split_at E 20 (by have:=H.out.2.1;have B:=H.out.2.2.2.1;rw[List.length_append] at B;omega)
   go_wp2_with (go_at_call 135;fail)
   rw[show(a:Int)+20=((a+20:Nat):Int) by omega]
   refine(ah.out a (a+20) D M y wr (by have:=H.out.2.2.2.1;rw[q.out.1] at this;exact this) H.out.2.1 (by rw[q.out.2]) (by have:=H.out.2.2.2.2;rw[q.out.1] at this;exact this)).mono ?_
   rintro e w2 ⟨rfl,J,T,F,V⟩
   have HF:Aside (Full (ltOf j) 20 (D++J)/\(D++J).length=a+20/\Same (ltOf j) z ((D++J)++y)/\((D++J)++y).length=N/\SW enc w0 blk o ((D++J)++y).toArray w2):=by
    obtain⟨I,Z,O,A,U⟩:=H.out
    have K:J.length=20:=by rw[<-F.len ae.out];exact q.out.2
    rw[q.out.1] at O A
    refine⟨Full.snoc D J I K T,by rw[List.length_append,Z,K],?_,?_,by simpa using V⟩
    ·rw[List.append_assoc]
     exact O.trans ((Same.refl _ D).app (F.app (Same.refl _ y)))
    ·simp only[List.length_append] at A⊢
     rw[K,<-q.out.2]
     omega
   clear T F V H
   go_wp2
   go_roundg (N-(a+20))
   case measure=>omega
   case rel=>exact⟨a+20,D++J,y,by first|go_num|(congr 1;omega),by first|go_num|(congr 1;omega),by omega,Nat.le_refl _,HF⟩
  ·have ab:¬((a:Int)+20<=(N:Int)):=by omega
   go_wp2_with (go_at_call 135;fail)
   refine(ah.out a N D E [] wr (by simpa using H.out.2.2.2.1) H.out.2.1 (by have B:=H.out.2.2.2.1;rw[List.length_append,H.out.2.1] at B;omega) (by simpa using H.out.2.2.2.2)).mono ?_
   rintro e w2 ⟨rfl,y,T,F,V⟩
   have HF:Aside (∃l,Blk (ltOf j) 20 l/\Same (ltOf j) z l/\l.length=N/\SW enc w0 blk o l.toArray w2):=by
    obtain⟨I,Z,O,A,U⟩:=H.out
    have aE:y.length=E.length:=(F.len ae.out).symm
    refine⟨D++y,I.blk (Blk.last y (by rw[List.length_append] at A;omega) T),O.trans ((Same.refl _ D).app F),by rw[List.length_append] at A⊢;omega,by simpa using V⟩
   clear T F V H ab hlt
   go_wp2
   go_loopg [6] N (fun g2 vb wr=>∃(h:Nat),vb=.int .i64 h/\0<h/\h<=2*N+20/\N-h<=g2/\Aside (∃l,Blk (ltOf j) h l/\Same (ltOf j) z l/\l.length=N/\SW enc w0 blk o l.toArray wr))
   case atStart=>exact⟨20,rfl,by omega,by omega,by omega,HF⟩
   case round=>
    clear HF
    obtain⟨h,rfl,af,aD,aC,H⟩:=hrel
    by_cases hlt:h<N
    ·have ab:(h:Int)<(N:Int):=by omega
     have al:Aside (∃E,Full (ltOf j) (2*h) []/\([]:List α).length=0/\Blk (ltOf j) h E/\Same (ltOf j) z ([]++E)/\([]++E).length=N/\SW enc w0 blk o ([]++E).toArray wr):=by
      obtain⟨l,I,Z,O,A⟩:=H.out
      exact⟨l,Full.nil,rfl,I,Z,O,by simpa using A⟩
     clear H
     go_wp2
     go_loopg [7,8] N (fun g3 va vb wr=>∃(a:Nat) (D E:List α),va=.int .i64 a/\vb=.int .i64 ((a:Int)+2*(h:Int))/\a<=N/\N-a<=g3/\Aside (Full (ltOf j) (2*h) D/\D.length=a/\Blk (ltOf j) h E/\Same (ltOf j) z (D++E)/\(D++E).length=N/\SW enc w0 blk o (D++E).toArray wr))
     case atStart=>
      obtain⟨E,q⟩:=al.out
      exact⟨0,[],E,rfl,by first|rfl|go_num|(congr 1;omega),Nat.zero_le _,by omega,q⟩
     case round=>
      clear al
      obtain⟨a,D,E,rfl,rfl,av,aG,H⟩:=hrel
      by_cases hle:a+2*h<=N
      ·have ar:(a:Int)+2*(h:Int)<=(N:Int):=by omega
       obtain⟨L,Q,y,q⟩:∃L Q y,Aside (E=L++(Q++y)/\L.length=h/\Q.length=h/\Sorted (ltOf j) L/\Sorted (ltOf j) Q/\Blk (ltOf j) h y):=H.out.2.2.1.two af (by have B:=H.out.2.2.2.2.1;rw[List.length_append,H.out.2.1] at B;omega)
       go_wp2_with (go_at_call 136;fail)
       rw[show(a:Int)+(h:Int)=((a+h:Nat):Int) by omega,show(a:Int)+2*(h:Int)=((a+2*h:Nat):Int) by omega]
       refine(ai.out a (a+h) (a+2*h) D L Q y wr H.out.2.1 (by rw[q.out.2.1]) (by rw[q.out.2.2.1];omega) (by rw[q.out.2.1];exact af) (by rw[q.out.2.2.1];exact af) (by have:=H.out.2.2.2.2.1;rw[q.out.1] at this;exact this) q.out.2.2.2.1 q.out.2.2.2.2.1 (by have:=H.out.2.2.2.2.2;rw[q.out.1] at this;exact this)).mono ?_
       rintro e w3 ⟨rfl,M,T,F,V⟩
       have HF:Aside (Full (ltOf j) (2*h) (D++M)/\(D++M).length=a+2*h/\Blk (ltOf j) h y/\Same (ltOf j) z ((D++M)++y)/\((D++M)++y).length=N/\SW enc w0 blk o ((D++M)++y).toArray w3):=by
        obtain⟨I,Z,O,A,U,k6⟩:=H.out
        obtain⟨r1,r2,r3,r4,r5,r6⟩:=q.out
        have K:M.length=2*h:=by rw[<-F.len ae.out,List.length_append];omega
        rw[r1] at A U
        refine⟨Full.snoc D M I K T,by rw[List.length_append,Z,K],r6,?_,?_,by simpa using V⟩
        ·rw[List.append_assoc]
         refine A.trans ((Same.refl _ D).app ?_)
         rw[<-List.append_assoc]
         exact F.app (Same.refl _ y)
        ·simp only[List.length_append] at U⊢
         omega
       clear T F V H
       go_wp2
       go_roundg (N-(a+2*h))
       case measure=>omega
       case rel=>exact⟨a+2*h,D++M,y,by first|go_num|(congr 1;omega),by first|go_num|(congr 1;omega),by omega,Nat.le_refl _,HF⟩
      ·have ar:¬((a:Int)+2*(h:Int)<=(N:Int)):=by omega
       by_cases hmn:a+h<N
       ·have aw:(a:Int)+(h:Int)<(N:Int):=by omega
        obtain⟨L,Q,q⟩:∃L Q,Aside (E=L++Q/\L.length=h/\0<Q.length/\Sorted (ltOf j) L/\Sorted (ltOf j) Q):=H.out.2.2.1.tail (by have B:=H.out.2.2.2.2.1;rw[List.length_append,H.out.2.1] at B;omega) (by have B:=H.out.2.2.2.2.1;rw[List.length_append,H.out.2.1] at B;omega)
        go_wp2_with (go_at_call 136;fail)
        rw[show(a:Int)+(h:Int)=((a+h:Nat):Int) by omega]
        refine(ai.out a (a+h) N D L Q [] wr H.out.2.1 (by rw[q.out.2.1]) (by have B:=H.out.2.2.2.2.1;rw[q.out.1,List.length_append,List.length_append,H.out.2.1,q.out.2.1] at B;omega) (by rw[q.out.2.1];exact af) q.out.2.2.1 (by have:=H.out.2.2.2.2.1;rw[q.out.1] at this;simpa using this) q.out.2.2.2.1 q.out.2.2.2.2 (by have:=H.out.2.2.2.2.2;rw[q.out.1] at this;simpa using this)).mono ?_
        rintro e w3 ⟨rfl,M,T,F,V⟩
        have HF:Aside (∃l,Blk (ltOf j) (2*h) l/\Same (ltOf j) z l/\l.length=N/\SW enc w0 blk o l.toArray w3):=by
         obtain⟨I,Z,O,A,U,k6⟩:=H.out
         obtain⟨r1,r2,r3,r4,r5⟩:=q.out
         have K:M.length=E.length:=by rw[r1,<-F.len ae.out]
         rw[r1] at A
         refine⟨D++M,I.blk (Blk.last M (by rw[List.length_append] at U;omega) T),A.trans ((Same.refl _ D).app F),by rw[List.length_append] at U⊢;omega,by simpa using V⟩
        clear T F V H
        go_wp2
        go_roundg (N-2*h)
        case measure=>omega
        case rel=>exact⟨2*h,by first|go_num|(congr 1;omega),by omega,by omega,Nat.le_refl _,HF⟩
       ·have aw:¬((a:Int)+(h:Int)<(N:Int)):=by omega
        have HF:Aside (∃l,Blk (ltOf j) (2*h) l/\Same (ltOf j) z l/\l.length=N/\SW enc w0 blk o l.toArray wr):=by
         obtain⟨I,Z,O,A,U,k6⟩:=H.out
         exact⟨D++E,I.blk (Blk.last E (by rw[List.length_append] at U;omega) (O.whole (by rw[List.length_append] at U;omega))),A,U,k6⟩
        clear H
        go_wp2
        go_roundg (N-2*h)
        case measure=>omega
        case rel=>exact⟨2*h,by first|go_num|(congr 1;omega),by omega,by omega,Nat.le_refl _,HF⟩
    ·have ab:¬((h:Int)<(N:Int)):=by omega
     go_wp2
     go_end0
     obtain⟨l,I,Z,O,A⟩:=H.out
     exact⟨rfl,l,I.whole (by omega),Z,A⟩
theorem sortStable_any (enc:α->Value) (j:α->α->Int) (g:Nat) (z:Array Value) (blk h q N:Nat) (o:List α) (w0:World) (eg:∀args w,(callFunc g args).run Tryz.prog w=.ok (.enter g args) w) (y:CmpLays1 Tryz.prog g z enc j blk h o.toArray.size w0) (A:Ord (ltOf j)) (R:Row1 enc w0 blk h o.toArray) (B:o.length=N) (hsz:N<1152921504606846976):
 Calls Tryz.prog 96 #[.slice (some ⟨blk,h,none⟩) N q,.func (.func g) #[] z] w0 fun e w'=>e=.returned (.tuple #[])/\∃l,Sorted (ltOf j) l/\Same (ltOf j) o l/\SW enc w0 blk h l.toArray w':=by
 have D:Aside (Calls Tryz.prog 121 #[.slice (some ⟨blk,h,none⟩) N q,.int .i64 N,.func (.func g) #[] z] w0 fun e w'=>e=.returned (.tuple #[])/\∃l,Sorted (ltOf j) l/\Same (ltOf j) o l/\SW enc w0 blk h l.toArray w'):=stable_any enc j g z blk h q N o w0 eg y A R B hsz
 clear y A R B
 go_enter Tryz.func96,Tryz.ntmps96
 go_wp2_with (go_at_call 121;fail)
 refine D.out.mono ?_
 rintro e I ⟨rfl,E⟩
 have F:Aside (∃l,Sorted (ltOf j) l/\Same (ltOf j) o l/\SW enc w0 blk h l.toArray I):=E
 clear E
 go_wp2
 go_end0
 exact⟨rfl,F.out⟩
end Stb
end Go.Proofs.YtofidnijfnhpaaaGreatDoor
