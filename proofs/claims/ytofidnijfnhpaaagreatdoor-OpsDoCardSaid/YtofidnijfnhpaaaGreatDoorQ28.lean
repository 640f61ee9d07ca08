import Derived.Deep.Cut
import Derived.Deep.DeepCutAuto
import Derived.Test.YtofidnijfnhpaaaGreatDoorQ01
import Derived.Test.YtofidnijfnhpaaaGreatDoorQ26
set_option linter.unusedSimpArgs false
set_option linter.unusedVariables false
set_option linter.unusedSectionVars false
set_option maxRecDepth 1000000
set_option maxHeartbeats 16000000
namespace Go.Proofs.YtofidnijfnhpaaaGreatDoor
namespace Ssf
open Go.Shelf Go.RowKit Go.Lib Go.Sort Stb
variable {α:Type} [Inhabited α] {enc:α->Value} {lt:α->α->Bool} {g:Nat} {lb:Array Value} {sf:Nat} {sb:Array Value} {blk off N:Nat} {w0 w W W' wB:World} {dk:Array α}
theorem sym_le_f {enc:α->Value} {lt:α->α->Bool} {g:Nat} {lb:Array Value} {sf:Nat} {sb:Array Value} {blk o N:Nat} {w0:World} (D:Dat enc lt g lb sf sb blk o N w0) (a m b:Nat) (P L J S:List α) (w:World) (av:(P++(L++(J++S))).length=N) (ha:P.length=a) (hm:m=a+L.length) (hb:b=m+J.length) (h2:2<=L.length) (h3:2<=J.length) (sL:Sorted lt L) (sR:Sorted lt J) (mid:Nat) (aX:mid=(a+b)/2) (aj:¬mid<m)
 (IH:∀(a' T b':Nat) (O L' Q' S':List α) (W:World),O.length=a'->T=a'+L'.length->b'=T+Q'.length->0<L'.length->0<Q'.length->L'.length+Q'.length<L.length+J.length->(O++(L'++(Q'++S'))).length=N->Sorted lt L'->Sorted lt Q'->SW enc w0 blk o (O++(L'++(Q'++S'))).toArray W->Calls Tryz.prog 115 #[.agg #[.func (.func g) #[] lb,.func (.func sf) #[] sb],.int .i64 a',.int .i64 T,.int .i64 b'] W fun e w'=>e=.returned (.tuple #[])/\∃M,Sorted lt M/\Same lt (L'++Q') M/\SX enc w0 blk o W (O++(M++S')).toArray w')
 (S0:SW enc w0 blk o (P++(L++(J++S))).toArray w):
 Calls Tryz.prog 115 #[.agg #[.func (.func g) #[] lb,.func (.func sf) #[] sb],.int .i64 a,.int .i64 m,.int .i64 b] w fun e w'=>e=.returned (.tuple #[])/\∃M,Sorted lt M/\Same lt (L++J) M/\SX enc w0 blk o w (P++(M++S)).toArray w':=by
 have aW:=SX.start S0 (.cells #[.func (.func g) #[] lb,.func (.func sf) #[] sb] 137)
 have aB:Aside (BoxAt g lb sf sb blk w.heap.size (w.alloc (.cells #[.func (.func g) #[] lb,.func (.func sf) #[] sb] 137))):=box_new D S0
 have KW:Aside (Kp blk w (w.alloc (.cells #[.func (.func g) #[] lb,.func (.func sf) #[] sb] 137))):=Kp.alloc _ _ _
 have eg:=D.eg
 have hsz:=D.hsz
 have HD:Aside (Dat enc lt g lb sf sb blk o N w0):=D
 obtain⟨E,aY⟩:∃q,q=w.alloc (.cells #[.func (.func g) #[] lb,.func (.func sf) #[] sb] 137):=⟨_,rfl⟩
 rw[<-aY] at aW aB KW
 have ho:=D.ord
 have aR:Aside (Ord lt):=ho
 have be:Aside (∀(a' T b':Nat) (O L' Q' S':List α) (W:World),O.length=a'->T=a'+L'.length->b'=T+Q'.length->0<L'.length->0<Q'.length->L'.length+Q'.length<L.length+J.length->(O++(L'++(Q'++S'))).length=N->Sorted lt L'->Sorted lt Q'->SX enc w0 blk o E (O++(L'++(Q'++S'))).toArray W->Calls Tryz.prog 115 #[.agg #[.func (.func g) #[] lb,.func (.func sf) #[] sb],.int .i64 a',.int .i64 T,.int .i64 b'] W fun e w'=>e=.returned (.tuple #[])/\∃M,Sorted lt M/\Same lt (L'++Q') M/\SX enc w0 blk o E (O++(M++S')).toArray w'):=
  fun a' T b' O L' Q' S' W h1 h2 h3 h4 h5 h6 h7 h8 h9 h10=>(IH a' T b' O L' Q' S' W h1 h2 h3 h4 h5 h6 h7 h8 h9 h10.1).mono fun e w' ⟨he,M,k1,k2,k3⟩=>⟨he,M,k1,k2,k3.1,h10.2.trans k3.2⟩
 have br:Aside (∀(a' T b':Nat) (O X Y S':List α) (W:World),(O++(X++(Y++S'))).length=N->O.length=a'->X.length+a'=T->Y.length+T=b'->0<X.length->0<Y.length->SX enc w0 blk o E (O++(X++(Y++S'))).toArray W->Calls Tryz.prog 132 #[.agg #[.func (.func g) #[] lb,.func (.func sf) #[] sb],.int .i64 a',.int .i64 T,.int .i64 b'] W fun e w'=>e=.returned (.tuple #[])/\SX enc w0 blk o E (O++(Y++(X++S'))).toArray w'):=
  fun a' T b' O X Y S' W h1 h2 h3 h4 h5 h6 h7=>(rotate_f D a' T b' O X Y S' W h1 h2 h3 h4 h5 h6 h7.1).mono fun e w' ⟨he,h8⟩=>⟨he,h8.1,h7.2.trans h8.2⟩
 obtain⟨l,hl⟩:∃q,q=P++(L++(J++S)):=⟨_,rfl⟩
 have b9:l.toArray.size=N:=by rw[hl];simpa using av
 have HG:Aside (∀k,k<N->l[k]? =some (l.toArray[k]!)):=fun k hk=>arr_get l k (by simpa using (show k<l.toArray.size by omega))
 have ch:b<=N:=by
  have:P.length+(L.length+(J.length+S.length))=N:=by simpa [Nat.add_comm,Nat.add_left_comm,Nat.add_assoc] using av
  omega
 have b8:a+2<=m:=by omega
 have b7:m+2<=b:=by omega
 have e1:¬((m:Int)-(a:Int)=1):=by omega
 have e2:¬((b:Int)-(m:Int)=1):=by omega
 have cn:((m:Int)-(a:Int)==1)=false:=by simp[e1]
 have cf:((b:Int)-(m:Int)==1)=false:=by simp[e2]
 have b6:2*mid<=a+b:=by omega
 have cc:a+b<=2*mid+1:=by omega
 have em:((a:Int)+(b:Int))/2=(mid:Int):=by omega
 obtain⟨pp,ci⟩:∃q,q+1=mid+m:=⟨mid+m-1,by omega⟩
 have ep:(mid:Int)+(m:Int)-1=(pp:Int):=by omega
 have cl:¬(((a:Int)+(b:Int))/2<(m:Int)):=by omega
 have hmz':¬((mid:Int)<(m:Int)):=by omega
 have HS:Aside (SX enc w0 blk o E l.toArray E):=by rw[hl];exact aW
 have HL:Aside (l=P++(L++(J++S))/\P.length=a/\m=a+L.length/\b=m+J.length/\(P++(L++(J++S))).length=N/\Sorted lt L/\Sorted lt J/\mid=(a+b)/2):=⟨hl,ha,hm,hb,av,sL,sR,aX⟩
 clear S0 aW D ho hl ha hm hb av sL sR h2 h3 IH aX
 go_enter Tryz.func115,Tryz.ntmps115
 go_wp2
 rw[<-aY]
 clear aY
 try simp only[em,ep]
 go_loopg [18,19] (b-a) (fun g1 vs vr wr=>∃j r:Nat,vs=.int .i64 j/\vr=.int .i64 r/\a<=j/\j<=r/\r<=m/\r-j<=g1/\Aside (SX enc w0 blk o E l.toArray wr/\(j=a\/∀x y,l[j-1]? =some x->l[mid+m-j]? =some y->lt y x=false)/\(r=m\/∀x y,l[r]? =some x->l[mid+m-1-r]? =some y->lt y x=true)))
 case atStart=>exact⟨a,m,by first|rfl|go_num|(congr 1;omega),by first|rfl|go_num|(congr 1;omega),Nat.le_refl _,by omega,Nat.le_refl _,by omega,⟨HS.out,Or.inl rfl,Or.inl rfl⟩⟩
 case round=>
  clear HS
  obtain⟨j,r,rfl,rfl,bG,cd,bp,hg,H⟩:=hrel
  by_cases hlt:j<r
  ·as_aux_lemma=>
    have bl:(j:Int)<(r:Int):=by omega
    obtain⟨c,hh⟩:∃q,q=(j+r)/2:=⟨_,rfl⟩
    have bE:j<=c:=by omega
    have cb:c<r:=by omega
    have bg:((j:Int)+(r:Int))/2=(c:Int):=by omega
    obtain⟨pq,hq⟩:∃q,q+(c+1)=mid+m:=⟨mid+m-(c+1),by omega⟩
    have bj:(pp:Int)-(c:Int)=(pq:Int):=by omega
    have cg:IntKind.i64.wrap ((pp:Int)-(c:Int))=(pq:Int):=by rw[IntKind.wrap_i64];omega
    obtain⟨x,gy⟩:∃y,l.toArray[c]! =y:=⟨_,rfl⟩
    obtain⟨y,gx⟩:∃y,l.toArray[pq]! =y:=⟨_,rfl⟩
    have GC:Aside (l[c]? =some x):=by have:=HG.out c (by omega);rw[gy] at this;exact this
    have GQ:Aside (l[pq]? =some y):=by have:=HG.out pq (by omega);rw[gx] at this;exact this
    have SJ:Aside (SX enc w0 blk o E l.toArray wr):=H.out.1
    have T:Aside ((j=a\/∀x y,l[j-1]? =some x->l[mid+m-j]? =some y->lt y x=false)/\(r=m\/∀x y,l[r]? =some x->l[mid+m-1-r]? =some y->lt y x=true)):=H.out.2
    clear H hh
    obtain⟨b0,b1⟩:=SJ.out.box aB.out
    have hc:=HD.out.lessAt SJ.out (by omega) pq c (pq:Int) (c:Int) (by omega) (by omega) rfl rfl gx gy
    cases hlv:lt y x with
    |true=>
     rw[hlv] at hc
     have aV:Aside (lt y x=true):=hlv
     clear hlv
     go_wp2_with (go_at_fn g;fail)
     try simp only[em,ep,bg,bj]
     refine hc.mono ?_
     rintro e w2 ⟨rfl,aA⟩
     have S2:Aside (SX enc w0 blk o E l.toArray w2):=aA
     clear aA hc SJ b0 b1
     go_wp2
     go_roundg (c-j)
     case measure=>omega
     case rel=>exact⟨j,c,rfl,by first|rfl|go_num|(congr 1;omega),bG,bE,by omega,Nat.le_refl _,⟨S2.out,T.out.1,Or.inr (fun x' y' hx hy=>by rw[GC.out] at hx;rw[show mid+m-1-c=pq by omega,GQ.out] at hy;cases hx;cases hy;exact aV.out)⟩⟩
    |false=>
     rw[hlv] at hc
     have aV:Aside (lt y x=false):=hlv
     clear hlv
     go_wp2_with (go_at_fn g;fail)
     try simp only[em,ep,bg,bj]
     refine hc.mono ?_
     rintro e w2 ⟨rfl,aA⟩
     have S2:Aside (SX enc w0 blk o E l.toArray w2):=aA
     clear aA hc SJ b0 b1
     go_wp2
     go_roundg (r-(c+1))
     case measure=>omega
     case rel=>exact⟨c+1,r,by first|go_num|(congr 1;omega),rfl,by omega,by omega,bp,Nat.le_refl _,⟨S2.out,Or.inr (fun x' y' hx hy=>by rw[Nat.add_sub_cancel,GC.out] at hx;rw[show mid+m-(c+1)=pq by omega,GQ.out] at hy;cases hx;cases hy;exact aV.out),T.out.2⟩⟩
  ·have hij':j=r:=by omega
   subst hij'
   have bl:¬(j:Int)<(j:Int):=by omega
   have co:a<=j:=by omega
   have cm:j<=m:=by omega
   have ce:j<=mid:=by omega
   obtain⟨I,cj⟩:∃q,q+j=mid+m:=⟨mid+m-j,by omega⟩
   have cp:m<=I:=by omega
   have ca:I<=b:=by omega
   have ck:mid<=I:=by omega
   have a4:(mid:Int)+(m:Int)-(j:Int)=(I:Int):=by omega
   obtain⟨Z,B,U,F,z⟩:∃Z B U F,Aside (L=Z++B/\J=U++F/\Z.length=j-a/\U.length=mid-j/\(∀x∈B,∀y∈U,lt y x=true)/\∀x∈Z,∀y∈F,lt y x=false):=by
    obtain⟨k1,k2,k3,k4,k5,k6,k7,k8⟩:=HL.out
    obtain⟨q1,q2,q3⟩:=H.out
    rw[k1] at q2 q3
    refine sym_find (P:=P) (L:=L) (R:=J) (S:=S) (a:=a) (m:=m) (b:=b) (mid:=mid) (start:=j) aR.out k2 (by omega) (by omega) (by omega) (by omega) k8 k6 k7 ?_ ?_ ?_ ?_
    ·rw[if_neg aj];omega
    ·rw[if_neg aj];omega
    ·rw[if_neg aj];exact q2.imp (fun h=>by omega) id
    ·rw[if_neg aj];exact q3.imp (fun h=>by omega) id
   have A:Aside (B.length=m-j/\F.length=b-I/\(P++(Z++(B++(U++(F++S))))).length=N/\P.length+(Z.length+(B.length+(U.length+(F.length+S.length))))=N):=by
    obtain⟨k1,k2,k3,k4,k5,k6,k7,k8⟩:=HL.out
    obtain⟨r1,r2,r3,r4,r5,r6⟩:=z.out
    rw[r1,List.length_append] at k3
    rw[r2,List.length_append] at k4
    rw[r1,r2] at k5
    exact⟨by omega,by omega,by simpa using k5,by simpa [Nat.add_assoc] using k5⟩
   have sj:SX enc w0 blk o E (P++(Z++(B++(U++(F++S))))).toArray wr:=by have:=H.out.1;rw[HL.out.1,z.out.1,z.out.2.1] at this;simpa using this
   have SJ:Aside (SX enc w0 blk o E (P++(Z++(B++(U++(F++S))))).toArray wr):=sj
   clear sj
   clear H
   obtain⟨bt,bh⟩:∃q:Bool,q=decide (j<m/\m<I):=⟨_,rfl⟩
   have ar:Aside (bt=decide (j<m/\m<I)):=bh
   clear bh
   go_upto_region 40 with fail
   go_cut [145] (fun v wx=>v=.bool bt/\wx=wr)
   case first=>
    as_aux_lemma=>
     by_cases hz1:j<m
     ·have z1:(j:Int)<(m:Int):=by omega
      by_cases hz2:m<I
      ·have z2:(m:Int)<(I:Int):=by omega
       have aZ:(m:Int)<(mid:Int)+(m:Int)-(j:Int):=by omega
       have hb':bt=true:=by rw[ar.out];exact decide_eq_true ⟨hz1,hz2⟩
       subst hb'
       go_wp2
       go_meet
       exact⟨rfl,rfl⟩
      ·have z2:¬(m:Int)<(I:Int):=by omega
       have aZ:¬(m:Int)<(mid:Int)+(m:Int)-(j:Int):=by omega
       have hb':bt=false:=by rw[ar.out];exact decide_eq_false (fun h=>hz2 h.2)
       subst hb'
       go_wp2
       go_meet
       exact⟨rfl,rfl⟩
     ·have z1:¬(j:Int)<(m:Int):=by omega
      have hb':bt=false:=by rw[ar.out];exact decide_eq_false (fun h=>hz1 h.1)
      subst hb'
      go_wp2
      go_meet
      exact⟨rfl,rfl⟩
   case rest=>
   obtain⟨rfl,rfl⟩:=hcut
   go_upto_if 145 with fail
   go_cut [] (fun wx=>Aside (SX enc w0 blk o E (P++(Z++(U++(B++(F++S))))).toArray wx))
   case first=>
    as_aux_lemma=>
     cases bt
     ·have K:B=[]\/U=[]:=by
       have h:=of_decide_eq_false ar.out.symm
       by_cases h1:j<m
       ·exact Or.inr (List.length_eq_zero_iff.1 (by rw[z.out.2.2.2.1];have:¬m<I:=fun h2=>h ⟨h1,h2⟩;omega))
       ·exact Or.inl (List.length_eq_zero_iff.1 (by rw[A.out.1];omega))
      go_wp2
      go_meet
      have:=SJ.out
      show SX enc w0 blk o E _ _
      rcases K with K|K
      ·rw[K] at this⊢
       simpa using this
      ·rw[K] at this⊢
       simpa using this
     ·have hz:=of_decide_eq_true ar.out.symm
      obtain⟨b0,b1⟩:=SJ.out.box aB.out
      go_wp2_with (go_at_call 132;fail)
      try simp only[em,a4]
      refine(br.out j m I (P++Z) B U (F++S) wc (by simpa using A.out.2.2.1) (by rw[List.length_append,HL.out.2.1,z.out.2.2.1];omega) (by rw[A.out.1];omega) (by rw[z.out.2.2.2.1];omega) (by rw[A.out.1];omega) (by rw[z.out.2.2.2.1];omega) (by simpa using SJ.out)).mono ?_
      rintro e w2 ⟨rfl,hS⟩
      have HF:Aside _:=hS
      clear hS SJ
      go_wp2
      go_meet
      have:=HF.out
      simp only[List.append_assoc] at this
      exact this
   case rest=>
    have SK:Aside (SX enc w0 blk o E (P++(Z++(U++(B++(F++S))))).toArray wc):=hcut
    clear hcut SJ
    have ag:Aside (Sorted lt Z/\Sorted lt B/\Sorted lt U/\Sorted lt F):=by
     obtain⟨k1,k2,k3,k4,k5,k6,k7,k8⟩:=HL.out
     rw[z.out.1] at k6
     rw[z.out.2.1] at k7
     exact⟨(Sorted.app.1 k6).1,(Sorted.app.1 k6).2.1,(Sorted.app.1 k7).1,(Sorted.app.1 k7).2.1⟩
    clear ar
    obtain⟨bu,bf⟩:∃q:Bool,q=decide (a<j/\j<mid):=⟨_,rfl⟩
    have aC:Aside (bu=decide (a<j/\j<mid)):=bf
    clear bf
    obtain⟨wk,bi⟩:∃q,q=wc:=⟨_,rfl⟩
    rw[<-bi] at SK⊢
    clear bi
    go_upto_region 42 with fail
    go_cut [158] (fun v wx=>v=.bool bu/\wx=wk)
    case first=>
     as_aux_lemma=>
      by_cases hz1:a<j
      ·have z1:(a:Int)<(j:Int):=by omega
       by_cases hz2:j<mid
       ·have z2:(j:Int)<(mid:Int):=by omega
        have hb':bu=true:=by rw[aC.out];exact decide_eq_true ⟨hz1,hz2⟩
        subst hb'
        go_wp2
        go_meet
        exact⟨rfl,rfl⟩
       ·have z2:¬(j:Int)<(mid:Int):=by omega
        have hb':bu=false:=by rw[aC.out];exact decide_eq_false (fun h=>hz2 h.2)
        subst hb'
        go_wp2
        go_meet
        exact⟨rfl,rfl⟩
      ·have z1:¬(a:Int)<(j:Int):=by omega
       have hb':bu=false:=by rw[aC.out];exact decide_eq_false (fun h=>hz1 h.1)
       subst hb'
       go_wp2
       go_meet
       exact⟨rfl,rfl⟩
    case rest=>
    obtain⟨rfl,rfl⟩:=hcut
    go_upto_if 158 with fail
    go_cut [] (fun wx=>Aside (∃M1,Sorted lt M1/\Same lt (Z++U) M1/\SX enc w0 blk o E (P++(M1++(B++(F++S)))).toArray wx))
    case first=>
     as_aux_lemma=>
      cases bu
      ·have K:Z=[]\/U=[]:=by
        have h:=of_decide_eq_false aC.out.symm
        by_cases h1:a<j
        ·exact Or.inr (List.length_eq_zero_iff.1 (by rw[z.out.2.2.2.1];have:¬j<mid:=fun h2=>h ⟨h1,h2⟩;omega))
        ·exact Or.inl (List.length_eq_zero_iff.1 (by rw[z.out.2.2.1];omega))
       go_wp2
       go_meet
       have:=SK.out
       rcases K with K|K
       ·exact⟨U,ag.out.2.2.1,by rw[K];simpa using Same.refl _ _,by rw[K] at this;simpa using this⟩
       ·exact⟨Z,ag.out.1,by rw[K];simpa using Same.refl _ _,by rw[K] at this;simpa using this⟩
      ·have hz:=of_decide_eq_true aC.out.symm
       obtain⟨b0,b1⟩:=SK.out.box aB.out
       go_wp2_with (go_at_call 115;fail)
       try simp only[em,a4]
       refine(be.out a j mid P Z U (B++(F++S)) wc HL.out.2.1 (by rw[z.out.2.2.1];omega) (by rw[z.out.2.2.2.1];omega) (by rw[z.out.2.2.1];omega) (by rw[z.out.2.2.2.1];omega) ?_ ?_ ag.out.1 ag.out.2.2.1 SK.out).mono ?_
       ·have h1:=HL.out.2.2.1
        have h2:=HL.out.2.2.2.1
        rw[z.out.2.2.1,z.out.2.2.2.1]
        omega
       ·have:=A.out.2.2.2
        simp only[List.length_append]
        omega
       rintro e w2 ⟨rfl,hS⟩
       have HF:Aside _:=hS
       clear hS SK
       go_wp2
       go_meet
       exact HF
    case rest=>
     as_aux_lemma=>
      obtain⟨M1,HM⟩:∃M1,Aside (Sorted lt M1/\Same lt (Z++U) M1/\M1.length=mid-a/\SX enc w0 blk o E (P++(M1++(B++(F++S)))).toArray wc):=by
       obtain⟨M1,q1,q2,q3⟩:=(show Aside _ from hcut).out
       exact⟨M1,q1,q2,by rw[<-q2.len aR.out,List.length_append,z.out.2.2.1,z.out.2.2.2.1];omega,q3⟩
      clear hcut SK
      have aS:Aside (∀(M2:List α) (V:World),Sorted lt M2->Same lt (B++F) M2->SX enc w0 blk o E (P++(M1++(M2++S))).toArray V->∃M,Sorted lt M/\Same lt (L++J) M/\SX enc w0 blk o E (P++(M++S)).toArray V):=by
       intro M2 V h1 h2 h3
       obtain⟨k1,k2,k3,k4,k5,k6,k7,k8⟩:=HL.out
       obtain⟨r1,r2,r3,r4,r5,r6⟩:=z.out
       obtain⟨m1,m2,m3,m4⟩:=HM.out
       obtain⟨p1,p2⟩:=sym_cut aR.out (r1▸k6) (r2▸k7) r5 r6 m1 m2 h1 h2
       exact⟨M1++M2,p1,by rw[r1,r2];exact p2,by simpa using h3⟩
      have aI:Aside (∀(V:World),(∃M,Sorted lt M/\Same lt (L++J) M/\SX enc w0 blk o E (P++(M++S)).toArray V)->∃M,Sorted lt M/\Same lt (L++J) M/\SX enc w0 blk o w (P++(M++S)).toArray V):=fun V ⟨M,k1,k2,k3⟩=>⟨M,k1,k2,k3.1,KW.out.trans k3.2⟩
      have SL:Aside (SX enc w0 blk o E (P++(M1++(B++(F++S)))).toArray wc):=HM.out.2.2.2
      by_cases hz1:mid<I
      ·have z1:(mid:Int)<(I:Int):=by omega
       have bO:(mid:Int)<(mid:Int)+(m:Int)-(j:Int):=by omega
       have bL:((a:Int)+(b:Int))/2<((a:Int)+(b:Int))/2+(m:Int)-(j:Int):=by omega
       by_cases hz2:I<b
       ·have z2:(I:Int)<(b:Int):=by omega
        have aZ:(mid:Int)+(m:Int)-(j:Int)<(b:Int):=by omega
        have bK:((a:Int)+(b:Int))/2+(m:Int)-(j:Int)<(b:Int):=by omega
        obtain⟨b0,b1⟩:=SL.out.box aB.out
        go_wp2_with (go_at_call 115;fail)
        try simp only[em,a4]
        refine(be.out mid I b (P++M1) B F S wc (by rw[List.length_append,HL.out.2.1,HM.out.2.2.1];omega) (by rw[A.out.1];omega) (by rw[A.out.2.1];omega) (by rw[A.out.1];omega) (by rw[A.out.2.1];omega) ?_ ?_ ag.out.2.1 ag.out.2.2.2 (by simpa using SL.out)).mono ?_
        ·have h1:=HL.out.2.2.1
         have h2:=HL.out.2.2.2.1
         rw[A.out.1,A.out.2.1]
         omega
        ·have:=A.out.2.2.2
         have h3:=HM.out.2.2.1
         have h4:=z.out.2.2.1
         have h5:=z.out.2.2.2.1
         simp only[List.length_append]
         omega
        rintro e w2 ⟨rfl,hS⟩
        have HF:Aside _:=hS
        clear hS SL
        go_wp2
        go_end0
        obtain⟨M2,q1,q2,q3⟩:=HF.out
        exact⟨rfl,aI.out _ (aS.out M2 _ q1 q2 (by simpa using q3))⟩
       ·have z2:¬(I:Int)<(b:Int):=by omega
        have aZ:¬(mid:Int)+(m:Int)-(j:Int)<(b:Int):=by omega
        have bK:¬((a:Int)+(b:Int))/2+(m:Int)-(j:Int)<(b:Int):=by omega
        have K:F=[]:=List.length_eq_zero_iff.1 (by rw[A.out.2.1];omega)
        go_wp2
        go_end0
        exact⟨rfl,aI.out _ (aS.out B _ ag.out.2.1 (by rw[K];simpa using Same.refl _ _) (by have:=SL.out;rw[K] at this;simpa using this))⟩
      ·have z1:¬(mid:Int)<(I:Int):=by omega
       have bO:¬(mid:Int)<(mid:Int)+(m:Int)-(j:Int):=by omega
       have bL:¬((a:Int)+(b:Int))/2<((a:Int)+(b:Int))/2+(m:Int)-(j:Int):=by omega
       have K:B=[]:=List.length_eq_zero_iff.1 (by rw[A.out.1];omega)
       go_wp2
       go_end0
       exact⟨rfl,aI.out _ (aS.out F _ ag.out.2.2.2 (by rw[K];simpa using Same.refl _ _) (by have:=SL.out;rw[K] at this;simpa using this))⟩
end Ssf
end Go.Proofs.YtofidnijfnhpaaaGreatDoor
