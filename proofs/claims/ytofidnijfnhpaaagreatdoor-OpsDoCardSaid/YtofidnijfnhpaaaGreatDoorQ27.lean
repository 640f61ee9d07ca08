import Derived.Deep.Cut
import Derived.Deep.DeepCutAuto
import Derived.Test.YtofidnijfnhpaaaGreatDoorQ01
import Derived.Test.YtofidnijfnhpaaaGreatDoorQ26
set_option linter.unusedSimpArgs false
set_option linter.unusedVariables false
set_option linter.unusedSectionVars false
set_option maxRecDepth 1000000
set_option maxHeartbeats 16000000
namespace Go.Proofs.YtofidnijfnhpaaaGreatDoor
namespace Ssf
open Go.Shelf Go.RowKit Go.Lib Go.Sort Stb
variable {α:Type} [Inhabited α] {enc:α->Value} {lt:α->α->Bool} {g:Nat} {lb:Array Value} {sf:Nat} {sb:Array Value} {blk off N:Nat} {w0 w W W' wB:World} {dk:Array α}
theorem sym_left_f {enc:α->Value} {lt:α->α->Bool} {g:Nat} {V:Array Value} {Z:Nat} {sb:Array Value} {blk o N:Nat} {w0:World} (D:Dat enc lt g V Z sb blk o N w0) (a m b:Nat) (x:α) (P B S:List α) (w:World) (K:(P++([x]++(B++S))).length=N) (ha:P.length=a) (hm:m=a+1) (hb:b=m+B.length) (sR:Sorted lt B)
 (S0:SW enc w0 blk o (P++([x]++(B++S))).toArray w):
 Calls Tryz.prog 115 #[.agg #[.func (.func g) #[] V,.func (.func Z) #[] sb],.int .i64 a,.int .i64 m,.int .i64 b] w fun e w'=>e=.returned (.tuple #[])/\∃M,Sorted lt M/\Same lt ([x]++B) M/\SX enc w0 blk o w (P++(M++S)).toArray w':=by
 have am:=SX.start S0 (.cells #[.func (.func g) #[] V,.func (.func Z) #[] sb] 137)
 have al:Aside (BoxAt g V Z sb blk w.heap.size (w.alloc (.cells #[.func (.func g) #[] V,.func (.func Z) #[] sb] 137))):=box_new D S0
 have KW:Aside (Kp blk w (w.alloc (.cells #[.func (.func g) #[] V,.func (.func Z) #[] sb] 137))):=Kp.alloc _ _ _
 have eg:=D.eg
 have hsz:=D.hsz
 have HD:Aside (Dat enc lt g V Z sb blk o N w0):=D
 obtain⟨I,ao⟩:∃q,q=w.alloc (.cells #[.func (.func g) #[] V,.func (.func Z) #[] sb] 137):=⟨_,rfl⟩
 rw[<-ao] at am al KW
 have ho:=D.ord
 have av:Aside (Ord lt):=ho
 obtain⟨l,hl⟩:∃q,q=P++([x]++(B++S)):=⟨_,rfl⟩
 have bj:l.toArray.size=N:=by rw[hl];simpa using K
 have aZ:l.toArray[a]! =x:=by rw[hl];exact arr_at P (B++S) x a ha.symm
 have HG:Aside (∀k,k<N->l[k]? =some (l.toArray[k]!)):=fun k hk=>arr_get l k (by simpa using (show k<l.toArray.size by omega))
 have bq:b<=N:=by
  have:P.length+(1+(B.length+S.length))=N:=by simpa [Nat.add_comm,Nat.add_left_comm,Nat.add_assoc] using K
  omega
 have aL:m<=b:=by omega
 have bi:a<m:=by omega
 have e1:(m:Int)-(a:Int)=1:=by omega
 have HS:Aside (SX enc w0 blk o I l.toArray I/\(m=m\/∀y,l[m-1]? =some y->lt y x=true)/\(b=b\/∀y,l[b]? =some y->lt y x=false)):=⟨by rw[hl];exact am,Or.inl rfl,Or.inl rfl⟩
 have HL:Aside (l=P++([x]++(B++S))/\P.length=a/\m=a+1/\b=m+B.length/\(P++([x]++(B++S))).length=N/\Sorted lt B):=⟨hl,ha,hm,hb,K,sR⟩
 clear S0 am D ho hl ha hm hb K sR
 go_enter Tryz.func115,Tryz.ntmps115
 go_wp2
 rw[<-ao]
 clear ao
 go_loopg [8,9] (b-m) (fun g1 vi vj wr=>∃i j:Nat,vi=.int .i64 i/\vj=.int .i64 j/\m<=i/\i<=j/\j<=b/\j-i<=g1/\Aside (SX enc w0 blk o I l.toArray wr/\(i=m\/∀y,l[i-1]? =some y->lt y x=true)/\(j=b\/∀y,l[j]? =some y->lt y x=false)))
 case atStart=>exact⟨m,b,rfl,rfl,Nat.le_refl _,aL,Nat.le_refl _,by omega,⟨HS.out.1,Or.inl rfl,Or.inl rfl⟩⟩
 case round=>
  clear HS
  obtain⟨i,j,rfl,rfl,az,bm,ax,hg,H⟩:=hrel
  by_cases hlt:i<j
  ·have aE:(i:Int)<(j:Int):=by omega
   obtain⟨h,hh⟩:∃q,q=(i+j)/2:=⟨_,rfl⟩
   have aR:i<=h:=by omega
   have bk:h<j:=by omega
   have eh:((i:Int)+(j:Int))/2=(h:Int):=by omega
   obtain⟨y,gx⟩:∃y,l.toArray[h]! =y:=⟨_,rfl⟩
   have GH:Aside (l[h]? =some y):=by have:=HG.out h (by omega);rw[gx] at this;exact this
   have SJ:Aside (SX enc w0 blk o I l.toArray wr):=H.out.1
   have HI:Aside ((i=m\/∀y,l[i-1]? =some y->lt y x=true)/\(j=b\/∀y,l[j]? =some y->lt y x=false)):=H.out.2
   have gy:=aZ
   clear H hh
   obtain⟨b0,b1⟩:=SJ.out.box al.out
   have hc:=HD.out.lessAt SJ.out (by omega) h a (h:Int) (a:Int) (by omega) (by omega) rfl rfl gx gy
   cases hlv:lt y x with
   |true=>
    rw[hlv] at hc
    have ak:Aside (lt y x=true):=hlv
    clear hlv
    go_wp2_with (go_at_fn g;fail)
    try simp only[eh]
    refine hc.mono ?_
    rintro e w2 ⟨rfl,T⟩
    have S2:Aside (SX enc w0 blk o I l.toArray w2):=T
    clear T hc SJ b0 b1
    go_wp2
    go_roundg (j-(h+1))
    case measure=>omega
    case rel=>exact⟨h+1,j,by first|go_num|(congr 1;omega),rfl,by omega,by omega,ax,Nat.le_refl _,⟨S2.out,Or.inr (fun z hz=>by rw[Nat.add_sub_cancel,GH.out] at hz;cases hz;exact ak.out),HI.out.2⟩⟩
   |false=>
    rw[hlv] at hc
    have ak:Aside (lt y x=false):=hlv
    clear hlv
    go_wp2_with (go_at_fn g;fail)
    try simp only[eh]
    refine hc.mono ?_
    rintro e w2 ⟨rfl,T⟩
    have S2:Aside (SX enc w0 blk o I l.toArray w2):=T
    clear T hc SJ b0 b1
    go_wp2
    go_roundg (h-i)
    case measure=>omega
    case rel=>exact⟨i,h,rfl,by first|rfl|go_num|(congr 1;omega),az,aR,by omega,Nat.le_refl _,⟨S2.out,HI.out.1,Or.inr (fun z hz=>by rw[GH.out] at hz;cases hz;exact ak.out)⟩⟩
  ·have hij':i=j:=by omega
   subst hij'
   have aE:¬(i:Int)<(i:Int):=by omega
   obtain⟨F,E,HR⟩:∃F E,Aside (B=F++E/\F.length=i-m/\(∀y∈F,lt y x=true)/\∀y∈E,lt y x=false):=by
    obtain⟨k1,k2,k3,k4,k5,k6⟩:=HL.out
    obtain⟨q1,q2,q3⟩:=H.out
    rw[k1] at q2 q3
    exact find_first av.out k2 k3 (by omega) az ax k6 q2 q3
   have au:Aside (F=[]++F/\([]:List α).length=a-a/\SX enc w0 blk o I (P++([]++x::(F++(E++S)))).toArray wr):=⟨rfl,by simp,by have:=H.out.1;rw[HL.out.1,HR.out.1] at this;simpa using this⟩
   clear H
   go_wp2
   go_loopg [11] (i-a) (fun g2 vk wr=>∃(k:Nat) (A O:List α),vk=.int .i64 k/\a<=k/\k+1<=i/\i-k<=g2/\Aside (F=A++O/\A.length=k-a/\SX enc w0 blk o I (P++(A++x::(O++(E++S)))).toArray wr))
   case atStart=>exact⟨a,[],F,rfl,Nat.le_refl _,by omega,by omega,au⟩
   case round=>
    clear au
    obtain⟨k,A,O,rfl,bo,bl,bp,HJ⟩:=hrel
    by_cases hlk:k+1<i
    ·have aJ:(k:Int)<(i:Int)-1:=by omega
     obtain⟨y,R5,HY⟩:∃y R5,Aside (O=y::R5):=by
      obtain⟨q1,q2,q3⟩:=HJ.out
      have:=HR.out.2.1
      rw[q1,List.length_append] at this
      have hm:=HL.out.2.2.1
      cases O with
      |nil=>simp at this;omega
      |cons y l=>exact⟨y,l,rfl⟩
     obtain⟨dj,J⟩:∃q,q=(P++(A++x::(O++(E++S)))).toArray:=⟨_,rfl⟩
     have U:k=(P++A).length:=by rw[List.length_append,HL.out.2.1,HJ.out.2.1];omega
     have bn:dj.size=N:=by
      have:=HL.out.2.2.2.2.1
      rw[HR.out.1,HJ.out.1] at this
      rw[J,<-this]
      simp
      omega
     have gx:dj[k]! =x:=by
      rw[J]
      have:=arr_at (P++A) (O++(E++S)) x k U
      simpa using this
     have gy:dj[k+1]! =y:=by
      rw[J,HY.out]
      have:=arr_at (P++(A++[x])) (R5++(E++S)) y (k+1) (by rw[U];simp;omega)
      simpa using this
     have gs:swp dj k (k+1)=(P++((A++[y])++x::(R5++(E++S)))).toArray:=by
      rw[J,HY.out]
      have:=swp_list (P++A) [] (R5++(E++S)) x y k (k+1) U (by rw[U];simp)
      simpa using this
     have SJ:Aside (SX enc w0 blk o I dj wr):=by rw[J];exact HJ.out.2.2
     have ay:Aside (F=A++O/\A.length=k-a):=⟨HJ.out.1,HJ.out.2.1⟩
     clear J HJ U
     obtain⟨b0,b1⟩:=SJ.out.box al.out
     obtain⟨w3,hs,aw⟩:=HD.out.swapAt SJ.out (by omega) k (k+1) (k:Int) ((k:Int)+1) (by omega) (by omega) (by omega) rfl (by omega)
     have S3:Aside (SX enc w0 blk o I (swp dj k (k+1)) w3):=aw
     clear aw
     have GS:Aside (swp dj k (k+1)=(P++((A++[y])++x::(R5++(E++S)))).toArray):=gs
     clear SJ gx gy gs
     go_wp2
     go_roundg (i-(k+1))
     case measure=>omega
     case rel=>exact⟨k+1,A++[y],R5,by go_num,by omega,by omega,by omega,by rw[ay.out.1,HY.out];simp,by rw[List.length_append,ay.out.2];simp;omega,by have:=S3.out;rw[GS.out] at this;exact this⟩
    ·have aJ:¬(k:Int)<(i:Int)-1:=by omega
     go_wp2
     try simp only[Exit.inBlock,Exit.then]
     refine bodyPost_ret (results_none rfl _ _ _) rfl ?_
     obtain⟨q1,q2,q3⟩:=HJ.out
     obtain⟨k1,k2,k3,k4,k5,k6⟩:=HL.out
     obtain⟨r1,r2,r3,r4⟩:=HR.out
     have h4:O=[]:=List.length_eq_zero_iff.1 (by rw[q1,List.length_append] at r2;omega)
     rw[h4,List.append_nil] at q1
     rw[h4,<-q1] at q3
     obtain⟨p1,p2⟩:=put_first av.out (r1▸k6) r3 r4
     exact⟨rfl,F++x::E,p1,by rw[r1];simpa using p2,by simpa using q3.1,KW.out.trans q3.2⟩
theorem sym_right_f {enc:α->Value} {lt:α->α->Bool} {g:Nat} {Z:Array Value} {sf:Nat} {sb:Array Value} {blk o N:Nat} {w0:World} (D:Dat enc lt g Z sf sb blk o N w0) (a m b:Nat) (x:α) (P L S:List α) (w:World) (T:(P++(L++([x]++S))).length=N) (ha:P.length=a) (hm:m=a+L.length) (hb:b=m+1) (h2:2<=L.length) (sL:Sorted lt L)
 (S0:SW enc w0 blk o (P++(L++([x]++S))).toArray w):
 Calls Tryz.prog 115 #[.agg #[.func (.func g) #[] Z,.func (.func sf) #[] sb],.int .i64 a,.int .i64 m,.int .i64 b] w fun e w'=>e=.returned (.tuple #[])/\∃M,Sorted lt M/\Same lt (L++[x]) M/\SX enc w0 blk o w (P++(M++S)).toArray w':=by
 have aq:=SX.start S0 (.cells #[.func (.func g) #[] Z,.func (.func sf) #[] sb] 137)
 have ao:Aside (BoxAt g Z sf sb blk w.heap.size (w.alloc (.cells #[.func (.func g) #[] Z,.func (.func sf) #[] sb] 137))):=box_new D S0
 have KW:Aside (Kp blk w (w.alloc (.cells #[.func (.func g) #[] Z,.func (.func sf) #[] sb] 137))):=Kp.alloc _ _ _
 have eg:=D.eg
 have hsz:=D.hsz
 have HD:Aside (Dat enc lt g Z sf sb blk o N w0):=D
 obtain⟨K,ar⟩:∃q,q=w.alloc (.cells #[.func (.func g) #[] Z,.func (.func sf) #[] sb] 137):=⟨_,rfl⟩
 rw[<-ar] at aq ao KW
 have ho:=D.ord
 have ax:Aside (Ord lt):=ho
 obtain⟨l,hl⟩:∃q,q=P++(L++([x]++S)):=⟨_,rfl⟩
 have bk:l.toArray.size=N:=by rw[hl];simpa using T
 have aY:l.toArray[m]! =x:=by rw[hl];have:=arr_at (P++L) S x m (by rw[List.length_append];omega);simpa using this
 have HG:Aside (∀k,k<N->l[k]? =some (l.toArray[k]!)):=fun k hk=>arr_get l k (by simpa using (show k<l.toArray.size by omega))
 have bs:b<=N:=by
  have:P.length+(L.length+(1+S.length))=N:=by simpa [Nat.add_comm,Nat.add_left_comm,Nat.add_assoc] using T
  omega
 have bj:a<m:=by omega
 have bi:m<b:=by omega
 have e1:¬((m:Int)-(a:Int)=1):=by omega
 have e2:(b:Int)-(m:Int)=1:=by omega
 have HS:Aside (SX enc w0 blk o K l.toArray K/\(a=a\/∀y,l[a-1]? =some y->lt x y=false)/\(m=m\/∀y,l[m]? =some y->lt x y=true)):=⟨by rw[hl];exact aq,Or.inl rfl,Or.inl rfl⟩
 have HL:Aside (l=P++(L++([x]++S))/\P.length=a/\m=a+L.length/\(P++(L++([x]++S))).length=N/\Sorted lt L):=⟨hl,ha,hm,T,sL⟩
 clear S0 aq D ho hl ha hm hb T sL h2
 go_enter Tryz.func115,Tryz.ntmps115
 go_wp2
 rw[<-ar]
 clear ar
 go_loopg [12,13] (m-a) (fun g1 vi vj wr=>∃i j:Nat,vi=.int .i64 i/\vj=.int .i64 j/\a<=i/\i<=j/\j<=m/\j-i<=g1/\Aside (SX enc w0 blk o K l.toArray wr/\(i=a\/∀y,l[i-1]? =some y->lt x y=false)/\(j=m\/∀y,l[j]? =some y->lt x y=true)))
 case atStart=>exact⟨a,m,rfl,rfl,Nat.le_refl _,by omega,Nat.le_refl _,by omega,⟨HS.out.1,Or.inl rfl,Or.inl rfl⟩⟩
 case round=>
  clear HS
  obtain⟨i,j,rfl,rfl,az,bn,ap,hg,H⟩:=hrel
  by_cases hlt:i<j
  ·have aD:(i:Int)<(j:Int):=by omega
   obtain⟨h,hh⟩:∃q,q=(i+j)/2:=⟨_,rfl⟩
   have aS:i<=h:=by omega
   have bl:h<j:=by omega
   have eh:((i:Int)+(j:Int))/2=(h:Int):=by omega
   obtain⟨y,gy⟩:∃y,l.toArray[h]! =y:=⟨_,rfl⟩
   have GH:Aside (l[h]? =some y):=by have:=HG.out h (by omega);rw[gy] at this;exact this
   have SJ:Aside (SX enc w0 blk o K l.toArray wr):=H.out.1
   have HI:Aside ((i=a\/∀y,l[i-1]? =some y->lt x y=false)/\(j=m\/∀y,l[j]? =some y->lt x y=true)):=H.out.2
   have gx:=aY
   clear H hh
   obtain⟨b0,b1⟩:=SJ.out.box ao.out
   have hc:=HD.out.lessAt SJ.out (by omega) m h (m:Int) (h:Int) (by omega) (by omega) rfl rfl gx gy
   cases hlv:lt x y with
   |true=>
    rw[hlv] at hc
    have am:Aside (lt x y=true):=hlv
    clear hlv
    go_wp2_with (go_at_fn g;fail)
    try simp only[eh]
    refine hc.mono ?_
    rintro e w2 ⟨rfl,U⟩
    have S2:Aside (SX enc w0 blk o K l.toArray w2):=U
    clear U hc SJ b0 b1
    go_wp2
    go_roundg (h-i)
    case measure=>omega
    case rel=>exact⟨i,h,rfl,by first|rfl|go_num|(congr 1;omega),az,aS,by omega,Nat.le_refl _,⟨S2.out,HI.out.1,Or.inr (fun z hz=>by rw[GH.out] at hz;cases hz;exact am.out)⟩⟩
   |false=>
    rw[hlv] at hc
    have am:Aside (lt x y=false):=hlv
    clear hlv
    go_wp2_with (go_at_fn g;fail)
    try simp only[eh]
    refine hc.mono ?_
    rintro e w2 ⟨rfl,U⟩
    have S2:Aside (SX enc w0 blk o K l.toArray w2):=U
    clear U hc SJ b0 b1
    go_wp2
    go_roundg (j-(h+1))
    case measure=>omega
    case rel=>exact⟨h+1,j,by first|go_num|(congr 1;omega),rfl,by omega,by omega,ap,Nat.le_refl _,⟨S2.out,Or.inr (fun z hz=>by rw[Nat.add_sub_cancel,GH.out] at hz;cases hz;exact am.out),HI.out.2⟩⟩
  ·have hij':i=j:=by omega
   subst hij'
   have aD:¬(i:Int)<(i:Int):=by omega
   obtain⟨B,E,HR⟩:∃B E,Aside (L=B++E/\B.length=i-a/\(∀y∈B,lt x y=false)/\∀y∈E,lt x y=true):=by
    obtain⟨k1,k2,k3,k4,k5⟩:=HL.out
    obtain⟨q1,q2,q3⟩:=H.out
    rw[k1] at q2 q3
    exact find_last ax.out k2 (by omega) az ap k5 q2 q3
   have aw:Aside (E=E++[]/\E.length=m-i/\SX enc w0 blk o K (P++(B++(E++x::([]++S)))).toArray wr):=⟨by simp,by have:=HL.out.2.2.1;rw[HR.out.1,List.length_append,HR.out.2.1] at this;omega,by have:=H.out.1;rw[HL.out.1,HR.out.1] at this;simpa using this⟩
   clear H
   go_wp2
   go_loopg [15] (m-i) (fun g2 vk wr=>∃(k:Nat) (I F:List α),vk=.int .i64 k/\i<=k/\k<=m/\k-i<=g2/\Aside (E=I++F/\I.length=k-i/\SX enc w0 blk o K (P++(B++(I++x::(F++S)))).toArray wr))
   case atStart=>exact⟨m,E,[],rfl,ap,Nat.le_refl _,Nat.le_refl _,aw⟩
   case round=>
    clear aw
    obtain⟨k,I,F,rfl,bp,bm,br,HJ⟩:=hrel
    by_cases hlk:i<k
    ·have aI:(i:Int)<(k:Int):=by omega
     obtain⟨A,aB⟩:∃q,q+1=k:=⟨k-1,by omega⟩
     have bq:(k:Int)=(A:Int)+1:=by omega
     have hlkz':(i:Int)<(A:Int)+1:=by omega
     obtain⟨J,y,HY⟩:∃J y,Aside (I=J++[y]/\J.length=A-i):=by
      obtain⟨q1,q2,q3⟩:=HJ.out
      have aA:I≠[]:=by intro e;rw[e] at q2;simp at q2;omega
      exact⟨I.dropLast,I.getLast aA,(List.dropLast_concat_getLast aA).symm,by rw[List.length_dropLast];omega⟩
     obtain⟨dj,O⟩:∃q,q=(P++(B++(I++x::(F++S)))).toArray:=⟨_,rfl⟩
     have V:A=(P++(B++J)).length:=by rw[List.length_append,List.length_append,HL.out.2.1,HR.out.2.1,HY.out.2];omega
     have bo:dj.size=N:=by
      have:=HL.out.2.2.2.1
      rw[HR.out.1,HJ.out.1] at this
      rw[O,<-this]
      simp
      omega
     have gx:dj[k]! =x:=by
      rw[O,HY.out.1]
      have:=arr_at (P++(B++(J++[y]))) (F++S) x k (by rw[<-aB,V];simp;omega)
      simpa using this
     have gy:dj[A]! =y:=by
      rw[O,HY.out.1]
      have:=arr_at (P++(B++J)) (x::(F++S)) y A V
      simpa using this
     have gs:swp dj k A=(P++(B++(J++x::((y::F)++S)))).toArray:=by
      rw[O,HY.out.1]
      have:=swp_list' (P++(B++J)) [] (F++S) y x A k V (by rw[<-aB,V];simp)
      simpa using this
     have SJ:Aside (SX enc w0 blk o K dj wr):=by rw[O];exact HJ.out.2.2
     have aU:Aside (E=I++F):=HJ.out.1
     clear O HJ V
     obtain⟨b0,b1⟩:=SJ.out.box ao.out
     obtain⟨w3,hs,ay⟩:=HD.out.swapAt SJ.out (by omega) k A ((A:Int)+1) (A:Int) (by omega) (by omega) (by omega) (by omega) rfl
     have S3:Aside (SX enc w0 blk o K (swp dj k A) w3):=ay
     clear ay
     have GS:Aside (swp dj k A=(P++(B++(J++x::((y::F)++S)))).toArray):=gs
     clear SJ gx gy gs
     go_wp2
     go_roundg (A-i)
     case measure=>omega
     case rel=>exact⟨A,J,y::F,by first|rfl|go_num|(congr 1;omega),by omega,by omega,by omega,by rw[aU.out,HY.out.1];simp,HY.out.2,by have:=S3.out;rw[GS.out] at this;exact this⟩
    ·have aI:¬(i:Int)<(k:Int):=by omega
     go_wp2
     try simp only[Exit.inBlock,Exit.then]
     refine bodyPost_ret (results_none rfl _ _ _) rfl ?_
     obtain⟨q1,q2,q3⟩:=HJ.out
     obtain⟨k1,k2,k3,k4,k5⟩:=HL.out
     obtain⟨r1,r2,r3,r4⟩:=HR.out
     have h4:I=[]:=List.length_eq_zero_iff.1 (by omega)
     rw[h4,List.nil_append] at q1
     rw[h4,<-q1] at q3
     obtain⟨p1,p2⟩:=put_one ax.out (r1▸k5) r4 r3
     exact⟨rfl,B++x::E,p1,by rw[r1];exact p2,by simpa using q3.1,KW.out.trans q3.2⟩
end Ssf
end Go.Proofs.YtofidnijfnhpaaaGreatDoor
namespace Go.Proofs.YtofidnijfnhpaaaGreatDoor
namespace Ssf
open Go.Shelf Go.RowKit Go.Lib Go.Sort Stb
variable {α:Type} [Inhabited α] {enc:α->Value} {lt:α->α->Bool} {g:Nat} {lb:Array Value} {sf:Nat} {sb:Array Value} {blk off N:Nat} {w0 w W W' wB:World} {dk:Array α}
theorem sym_gt_f {enc:α->Value} {lt:α->α->Bool} {g:Nat} {lb:Array Value} {sf:Nat} {sb:Array Value} {blk o N:Nat} {w0:World} (D:Dat enc lt g lb sf sb blk o N w0) (a m b:Nat) (P L J S:List α) (w:World) (av:(P++(L++(J++S))).length=N) (ha:P.length=a) (hm:m=a+L.length) (hb:b=m+J.length) (h2:2<=L.length) (h3:2<=J.length) (sL:Sorted lt L) (sR:Sorted lt J) (mid:Nat) (aX:mid=(a+b)/2) (aj:mid<m)
 (IH:∀(a' m' b':Nat) (O Z Q' S':List α) (W:World),O.length=a'->m'=a'+Z.length->b'=m'+Q'.length->0<Z.length->0<Q'.length->Z.length+Q'.length<L.length+J.length->(O++(Z++(Q'++S'))).length=N->Sorted lt Z->Sorted lt Q'->SW enc w0 blk o (O++(Z++(Q'++S'))).toArray W->Calls Tryz.prog 115 #[.agg #[.func (.func g) #[] lb,.func (.func sf) #[] sb],.int .i64 a',.int .i64 m',.int .i64 b'] W fun e w'=>e=.returned (.tuple #[])/\∃M,Sorted lt M/\Same lt (Z++Q') M/\SX enc w0 blk o W (O++(M++S')).toArray w')
 (S0:SW enc w0 blk o (P++(L++(J++S))).toArray w):
 Calls Tryz.prog 115 #[.agg #[.func (.func g) #[] lb,.func (.func sf) #[] sb],.int .i64 a,.int .i64 m,.int .i64 b] w fun e w'=>e=.returned (.tuple #[])/\∃M,Sorted lt M/\Same lt (L++J) M/\SX enc w0 blk o w (P++(M++S)).toArray w':=by
 have aW:=SX.start S0 (.cells #[.func (.func g) #[] lb,.func (.func sf) #[] sb] 137)
 have aB:Aside (BoxAt g lb sf sb blk w.heap.size (w.alloc (.cells #[.func (.func g) #[] lb,.func (.func sf) #[] sb] 137))):=box_new D S0
 have KW:Aside (Kp blk w (w.alloc (.cells #[.func (.func g) #[] lb,.func (.func sf) #[] sb] 137))):=Kp.alloc _ _ _
 have eg:=D.eg
 have hsz:=D.hsz
 have HD:Aside (Dat enc lt g lb sf sb blk o N w0):=D
 obtain⟨E,aY⟩:∃q,q=w.alloc (.cells #[.func (.func g) #[] lb,.func (.func sf) #[] sb] 137):=⟨_,rfl⟩
 rw[<-aY] at aW aB KW
 have ho:=D.ord
 have aR:Aside (Ord lt):=ho
 have bf:Aside (∀(a' m' b':Nat) (O Z Q' S':List α) (W:World),O.length=a'->m'=a'+Z.length->b'=m'+Q'.length->0<Z.length->0<Q'.length->Z.length+Q'.length<L.length+J.length->(O++(Z++(Q'++S'))).length=N->Sorted lt Z->Sorted lt Q'->SX enc w0 blk o E (O++(Z++(Q'++S'))).toArray W->Calls Tryz.prog 115 #[.agg #[.func (.func g) #[] lb,.func (.func sf) #[] sb],.int .i64 a',.int .i64 m',.int .i64 b'] W fun e w'=>e=.returned (.tuple #[])/\∃M,Sorted lt M/\Same lt (Z++Q') M/\SX enc w0 blk o E (O++(M++S')).toArray w'):=
  fun a' m' b' O Z Q' S' W h1 h2 h3 h4 h5 h6 h7 h8 h9 h10=>(IH a' m' b' O Z Q' S' W h1 h2 h3 h4 h5 h6 h7 h8 h9 h10.1).mono fun e w' ⟨he,M,k1,k2,k3⟩=>⟨he,M,k1,k2,k3.1,h10.2.trans k3.2⟩
 have bs:Aside (∀(a' m' b':Nat) (O X Y S':List α) (W:World),(O++(X++(Y++S'))).length=N->O.length=a'->X.length+a'=m'->Y.length+m'=b'->0<X.length->0<Y.length->SX enc w0 blk o E (O++(X++(Y++S'))).toArray W->Calls Tryz.prog 132 #[.agg #[.func (.func g) #[] lb,.func (.func sf) #[] sb],.int .i64 a',.int .i64 m',.int .i64 b'] W fun e w'=>e=.returned (.tuple #[])/\SX enc w0 blk o E (O++(Y++(X++S'))).toArray w'):=
  fun a' m' b' O X Y S' W h1 h2 h3 h4 h5 h6 h7=>(rotate_f D a' m' b' O X Y S' W h1 h2 h3 h4 h5 h6 h7.1).mono fun e w' ⟨he,h8⟩=>⟨he,h8.1,h7.2.trans h8.2⟩
 obtain⟨l,hl⟩:∃q,q=P++(L++(J++S)):=⟨_,rfl⟩
 have ca:l.toArray.size=N:=by rw[hl];simpa using av
 have HG:Aside (∀k,k<N->l[k]? =some (l.toArray[k]!)):=fun k hk=>arr_get l k (by simpa using (show k<l.toArray.size by omega))
 have cj:b<=N:=by
  have:P.length+(L.length+(J.length+S.length))=N:=by simpa [Nat.add_comm,Nat.add_left_comm,Nat.add_assoc] using av
  omega
 have b9:a+2<=m:=by omega
 have b8:m+2<=b:=by omega
 have e1:¬((m:Int)-(a:Int)=1):=by omega
 have e2:¬((b:Int)-(m:Int)=1):=by omega
 have cp:((m:Int)-(a:Int)==1)=false:=by simp[e1]
 have ch:((b:Int)-(m:Int)==1)=false:=by simp[e2]
 have b7:2*mid<=a+b:=by omega
 have ce:a+b<=2*mid+1:=by omega
 have em:((a:Int)+(b:Int))/2=(mid:Int):=by omega
 obtain⟨pp,ck⟩:∃q,q+1=mid+m:=⟨mid+m-1,by omega⟩
 have ep:(mid:Int)+(m:Int)-1=(pp:Int):=by omega
 have cn:((a:Int)+(b:Int))/2<(m:Int):=by omega
 have hmz':(mid:Int)<(m:Int):=by omega
 obtain⟨lo,cd⟩:∃q,q+b=mid+m:=⟨mid+m-b,by omega⟩
 have HS:Aside (SX enc w0 blk o E l.toArray E):=by rw[hl];exact aW
 have HL:Aside (l=P++(L++(J++S))/\P.length=a/\m=a+L.length/\b=m+J.length/\(P++(L++(J++S))).length=N/\Sorted lt L/\Sorted lt J/\mid=(a+b)/2):=⟨hl,ha,hm,hb,av,sL,sR,aX⟩
 clear S0 aW D ho hl ha hm hb av sL sR h2 h3 IH aX
 go_enter Tryz.func115,Tryz.ntmps115
 go_wp2
 rw[<-aY]
 clear aY
 try simp only[em,ep]
 go_loopg [18,19] (b-a) (fun g1 vs vr wr=>∃j r:Nat,vs=.int .i64 j/\vr=.int .i64 r/\lo<=j/\j<=r/\r<=mid/\r-j<=g1/\Aside (SX enc w0 blk o E l.toArray wr/\(j=lo\/∀x y,l[j-1]? =some x->l[mid+m-j]? =some y->lt y x=false)/\(r=mid\/∀x y,l[r]? =some x->l[mid+m-1-r]? =some y->lt y x=true)))
 case atStart=>exact⟨lo,mid,by first|rfl|go_num|(congr 1;omega),by first|rfl|go_num|(congr 1;omega),Nat.le_refl _,by omega,Nat.le_refl _,by omega,⟨HS.out,Or.inl rfl,Or.inl rfl⟩⟩
 case round=>
  clear HS
  obtain⟨j,r,rfl,rfl,bH,cf,bq,hg,H⟩:=hrel
  by_cases hlt:j<r
  ·as_aux_lemma=>
    have bm:(j:Int)<(r:Int):=by omega
    obtain⟨c,hh⟩:∃q,q=(j+r)/2:=⟨_,rfl⟩
    have bF:j<=c:=by omega
    have cc:c<r:=by omega
    have bh:((j:Int)+(r:Int))/2=(c:Int):=by omega
    obtain⟨pq,hq⟩:∃q,q+(c+1)=mid+m:=⟨mid+m-(c+1),by omega⟩
    have bk:(pp:Int)-(c:Int)=(pq:Int):=by omega
    have ci:IntKind.i64.wrap ((pp:Int)-(c:Int))=(pq:Int):=by rw[IntKind.wrap_i64];omega
    obtain⟨x,gy⟩:∃y,l.toArray[c]! =y:=⟨_,rfl⟩
    obtain⟨y,gx⟩:∃y,l.toArray[pq]! =y:=⟨_,rfl⟩
    have GC:Aside (l[c]? =some x):=by have:=HG.out c (by omega);rw[gy] at this;exact this
    have GQ:Aside (l[pq]? =some y):=by have:=HG.out pq (by omega);rw[gx] at this;exact this
    have SJ:Aside (SX enc w0 blk o E l.toArray wr):=H.out.1
    have mid':Aside ((j=lo\/∀x y,l[j-1]? =some x->l[mid+m-j]? =some y->lt y x=false)/\(r=mid\/∀x y,l[r]? =some x->l[mid+m-1-r]? =some y->lt y x=true)):=H.out.2
    clear H hh
    obtain⟨b0,b1⟩:=SJ.out.box aB.out
    have hc:=HD.out.lessAt SJ.out (by omega) pq c (pq:Int) (c:Int) (by omega) (by omega) rfl rfl gx gy
    cases hlv:lt y x with
    |true=>
     rw[hlv] at hc
     have aV:Aside (lt y x=true):=hlv
     clear hlv
     go_wp2_with (go_at_fn g;fail)
     try simp only[em,ep,bh,bk]
     refine hc.mono ?_
     rintro e w2 ⟨rfl,aA⟩
     have S2:Aside (SX enc w0 blk o E l.toArray w2):=aA
     clear aA hc SJ b0 b1
     go_wp2
     go_roundg (c-j)
     case measure=>omega
     case rel=>exact⟨j,c,rfl,by first|rfl|go_num|(congr 1;omega),bH,bF,by omega,Nat.le_refl _,⟨S2.out,mid'.out.1,Or.inr (fun x' y' hx hy=>by rw[GC.out] at hx;rw[show mid+m-1-c=pq by omega,GQ.out] at hy;cases hx;cases hy;exact aV.out)⟩⟩
    |false=>
     rw[hlv] at hc
     have aV:Aside (lt y x=false):=hlv
     clear hlv
     go_wp2_with (go_at_fn g;fail)
     try simp only[em,ep,bh,bk]
     refine hc.mono ?_
     rintro e w2 ⟨rfl,aA⟩
     have S2:Aside (SX enc w0 blk o E l.toArray w2):=aA
     clear aA hc SJ b0 b1
     go_wp2
     go_roundg (r-(c+1))
     case measure=>omega
     case rel=>exact⟨c+1,r,by first|go_num|(congr 1;omega),rfl,by omega,by omega,bq,Nat.le_refl _,⟨S2.out,Or.inr (fun x' y' hx hy=>by rw[Nat.add_sub_cancel,GC.out] at hx;rw[show mid+m-(c+1)=pq by omega,GQ.out] at hy;cases hx;cases hy;exact aV.out),mid'.out.2⟩⟩
  ·have hij':j=r:=by omega
   subst hij'
   have bm:¬(j:Int)<(j:Int):=by omega
   have cq:a<=j:=by omega
   have co:j<=m:=by omega
   have cg:j<=mid:=by omega
   obtain⟨I,cl⟩:∃q,q+j=mid+m:=⟨mid+m-j,by omega⟩
   have cr:m<=I:=by omega
   have cb:I<=b:=by omega
   have cm:mid<=I:=by omega
   have a4:(mid:Int)+(m:Int)-(j:Int)=(I:Int):=by omega
   obtain⟨U,B,T,F,z⟩:∃U B T F,Aside (L=U++B/\J=T++F/\U.length=j-a/\T.length=mid-j/\(∀x∈B,∀y∈T,lt y x=true)/\∀x∈U,∀y∈F,lt y x=false):=by
    obtain⟨k1,k2,k3,k4,k5,k6,k7,k8⟩:=HL.out
    obtain⟨q1,q2,q3⟩:=H.out
    rw[k1] at q2 q3
    refine sym_find (P:=P) (L:=L) (R:=J) (S:=S) (a:=a) (m:=m) (b:=b) (mid:=mid) (start:=j) aR.out k2 (by omega) (by omega) (by omega) (by omega) k8 k6 k7 ?_ ?_ ?_ ?_
    ·rw[if_pos aj];omega
    ·rw[if_pos aj];omega
    ·rw[if_pos aj];exact q2.imp (fun h=>by omega) id
    ·rw[if_pos aj];exact q3.imp (fun h=>by omega) id
   have A:Aside (B.length=m-j/\F.length=b-I/\(P++(U++(B++(T++(F++S))))).length=N/\P.length+(U.length+(B.length+(T.length+(F.length+S.length))))=N):=by
    obtain⟨k1,k2,k3,k4,k5,k6,k7,k8⟩:=HL.out
    obtain⟨r1,r2,r3,r4,r5,r6⟩:=z.out
    rw[r1,List.length_append] at k3
    rw[r2,List.length_append] at k4
    rw[r1,r2] at k5
    exact⟨by omega,by omega,by simpa using k5,by simpa [Nat.add_assoc] using k5⟩
   have sj:SX enc w0 blk o E (P++(U++(B++(T++(F++S))))).toArray wr:=by have:=H.out.1;rw[HL.out.1,z.out.1,z.out.2.1] at this;simpa using this
   have SJ:Aside (SX enc w0 blk o E (P++(U++(B++(T++(F++S))))).toArray wr):=sj
   clear sj
   clear H
   obtain⟨bt,bi⟩:∃q:Bool,q=decide (j<m/\m<I):=⟨_,rfl⟩
   have ar:Aside (bt=decide (j<m/\m<I)):=bi
   clear bi
   go_upto_region 40 with fail
   go_cut [145] (fun v wx=>v=.bool bt/\wx=wr)
   case first=>
    as_aux_lemma=>
     by_cases hz1:j<m
     ·have z1:(j:Int)<(m:Int):=by omega
      by_cases hz2:m<I
      ·have z2:(m:Int)<(I:Int):=by omega
       have aZ:(m:Int)<(mid:Int)+(m:Int)-(j:Int):=by omega
       have hb':bt=true:=by rw[ar.out];exact decide_eq_true ⟨hz1,hz2⟩
       subst hb'
       go_wp2
       go_meet
       exact⟨rfl,rfl⟩
      ·have z2:¬(m:Int)<(I:Int):=by omega
       have aZ:¬(m:Int)<(mid:Int)+(m:Int)-(j:Int):=by omega
       have hb':bt=false:=by rw[ar.out];exact decide_eq_false (fun h=>hz2 h.2)
       subst hb'
       go_wp2
       go_meet
       exact⟨rfl,rfl⟩
     ·have z1:¬(j:Int)<(m:Int):=by omega
      have hb':bt=false:=by rw[ar.out];exact decide_eq_false (fun h=>hz1 h.1)
      subst hb'
      go_wp2
      go_meet
      exact⟨rfl,rfl⟩
   case rest=>
   obtain⟨rfl,rfl⟩:=hcut
   go_upto_if 145 with fail
   go_cut [] (fun wx=>Aside (SX enc w0 blk o E (P++(U++(T++(B++(F++S))))).toArray wx))
   case first=>
    as_aux_lemma=>
     cases bt
     ·have K:B=[]\/T=[]:=by
       have h:=of_decide_eq_false ar.out.symm
       by_cases h1:j<m
       ·exact Or.inr (List.length_eq_zero_iff.1 (by rw[z.out.2.2.2.1];have:¬m<I:=fun h2=>h ⟨h1,h2⟩;omega))
       ·exact Or.inl (List.length_eq_zero_iff.1 (by rw[A.out.1];omega))
      go_wp2
      go_meet
      have:=SJ.out
      show SX enc w0 blk o E _ _
      rcases K with K|K
      ·rw[K] at this⊢
       simpa using this
      ·rw[K] at this⊢
       simpa using this
     ·have hz:=of_decide_eq_true ar.out.symm
      obtain⟨b0,b1⟩:=SJ.out.box aB.out
      go_wp2_with (go_at_call 132;fail)
      try simp only[em,a4]
      refine(bs.out j m I (P++U) B T (F++S) wc (by simpa using A.out.2.2.1) (by rw[List.length_append,HL.out.2.1,z.out.2.2.1];omega) (by rw[A.out.1];omega) (by rw[z.out.2.2.2.1];omega) (by rw[A.out.1];omega) (by rw[z.out.2.2.2.1];omega) (by simpa using SJ.out)).mono ?_
      rintro e w2 ⟨rfl,hS⟩
      have HF:Aside _:=hS
      clear hS SJ
      go_wp2
      go_meet
      have:=HF.out
      simp only[List.append_assoc] at this
      exact this
   case rest=>
    have SK:Aside (SX enc w0 blk o E (P++(U++(T++(B++(F++S))))).toArray wc):=hcut
    clear hcut SJ
    have ag:Aside (Sorted lt U/\Sorted lt B/\Sorted lt T/\Sorted lt F):=by
     obtain⟨k1,k2,k3,k4,k5,k6,k7,k8⟩:=HL.out
     rw[z.out.1] at k6
     rw[z.out.2.1] at k7
     exact⟨(Sorted.app.1 k6).1,(Sorted.app.1 k6).2.1,(Sorted.app.1 k7).1,(Sorted.app.1 k7).2.1⟩
    clear ar
    obtain⟨bu,bg⟩:∃q:Bool,q=decide (a<j/\j<mid):=⟨_,rfl⟩
    have aC:Aside (bu=decide (a<j/\j<mid)):=bg
    clear bg
    obtain⟨wk,bj⟩:∃q,q=wc:=⟨_,rfl⟩
    rw[<-bj] at SK⊢
    clear bj
    go_upto_region 42 with fail
    go_cut [158] (fun v wx=>v=.bool bu/\wx=wk)
    case first=>
     as_aux_lemma=>
      by_cases hz1:a<j
      ·have z1:(a:Int)<(j:Int):=by omega
       by_cases hz2:j<mid
       ·have z2:(j:Int)<(mid:Int):=by omega
        have hb':bu=true:=by rw[aC.out];exact decide_eq_true ⟨hz1,hz2⟩
        subst hb'
        go_wp2
        go_meet
        exact⟨rfl,rfl⟩
       ·have z2:¬(j:Int)<(mid:Int):=by omega
        have hb':bu=false:=by rw[aC.out];exact decide_eq_false (fun h=>hz2 h.2)
        subst hb'
        go_wp2
        go_meet
        exact⟨rfl,rfl⟩
      ·have z1:¬(a:Int)<(j:Int):=by omega
       have hb':bu=false:=by rw[aC.out];exact decide_eq_false (fun h=>hz1 h.1)
       subst hb'
       go_wp2
       go_meet
       exact⟨rfl,rfl⟩
    case rest=>
    obtain⟨rfl,rfl⟩:=hcut
    go_upto_if 158 with fail
    go_cut [] (fun wx=>Aside (∃M1,Sorted lt M1/\Same lt (U++T) M1/\SX enc w0 blk o E (P++(M1++(B++(F++S)))).toArray wx))
    case first=>
     as_aux_lemma=>
      cases bu
      ·have K:U=[]\/T=[]:=by
        have h:=of_decide_eq_false aC.out.symm
        by_cases h1:a<j
        ·exact Or.inr (List.length_eq_zero_iff.1 (by rw[z.out.2.2.2.1];have:¬j<mid:=fun h2=>h ⟨h1,h2⟩;omega))
        ·exact Or.inl (List.length_eq_zero_iff.1 (by rw[z.out.2.2.1];omega))
       go_wp2
       go_meet
       have:=SK.out
       rcases K with K|K
       ·exact⟨T,ag.out.2.2.1,by rw[K];simpa using Same.refl _ _,by rw[K] at this;simpa using this⟩
       ·exact⟨U,ag.out.1,by rw[K];simpa using Same.refl _ _,by rw[K] at this;simpa using this⟩
      ·have hz:=of_decide_eq_true aC.out.symm
       obtain⟨b0,b1⟩:=SK.out.box aB.out
       go_wp2_with (go_at_call 115;fail)
       try simp only[em,a4]
       refine(bf.out a j mid P U T (B++(F++S)) wc HL.out.2.1 (by rw[z.out.2.2.1];omega) (by rw[z.out.2.2.2.1];omega) (by rw[z.out.2.2.1];omega) (by rw[z.out.2.2.2.1];omega) ?_ ?_ ag.out.1 ag.out.2.2.1 SK.out).mono ?_
       ·have h1:=HL.out.2.2.1
        have h2:=HL.out.2.2.2.1
        rw[z.out.2.2.1,z.out.2.2.2.1]
        omega
       ·have:=A.out.2.2.2
        simp only[List.length_append]
        omega
       rintro e w2 ⟨rfl,hS⟩
       have HF:Aside _:=hS
       clear hS SK
       go_wp2
       go_meet
       exact HF
    case rest=>
     as_aux_lemma=>
      obtain⟨M1,HM⟩:∃M1,Aside (Sorted lt M1/\Same lt (U++T) M1/\M1.length=mid-a/\SX enc w0 blk o E (P++(M1++(B++(F++S)))).toArray wc):=by
       obtain⟨M1,q1,q2,q3⟩:=(show Aside _ from hcut).out
       exact⟨M1,q1,q2,by rw[<-q2.len aR.out,List.length_append,z.out.2.2.1,z.out.2.2.2.1];omega,q3⟩
      clear hcut SK
      have aS:Aside (∀(M2:List α) (V:World),Sorted lt M2->Same lt (B++F) M2->SX enc w0 blk o E (P++(M1++(M2++S))).toArray V->∃M,Sorted lt M/\Same lt (L++J) M/\SX enc w0 blk o E (P++(M++S)).toArray V):=by
       intro M2 V h1 h2 h3
       obtain⟨k1,k2,k3,k4,k5,k6,k7,k8⟩:=HL.out
       obtain⟨r1,r2,r3,r4,r5,r6⟩:=z.out
       obtain⟨m1,m2,m3,m4⟩:=HM.out
       obtain⟨p1,p2⟩:=sym_cut aR.out (r1▸k6) (r2▸k7) r5 r6 m1 m2 h1 h2
       exact⟨M1++M2,p1,by rw[r1,r2];exact p2,by simpa using h3⟩
      have aI:Aside (∀(V:World),(∃M,Sorted lt M/\Same lt (L++J) M/\SX enc w0 blk o E (P++(M++S)).toArray V)->∃M,Sorted lt M/\Same lt (L++J) M/\SX enc w0 blk o w (P++(M++S)).toArray V):=fun V ⟨M,k1,k2,k3⟩=>⟨M,k1,k2,k3.1,KW.out.trans k3.2⟩
      have SL:Aside (SX enc w0 blk o E (P++(M1++(B++(F++S)))).toArray wc):=HM.out.2.2.2
      by_cases hz1:mid<I
      ·have z1:(mid:Int)<(I:Int):=by omega
       have bP:(mid:Int)<(mid:Int)+(m:Int)-(j:Int):=by omega
       have bM:((a:Int)+(b:Int))/2<((a:Int)+(b:Int))/2+(m:Int)-(j:Int):=by omega
       by_cases hz2:I<b
       ·have z2:(I:Int)<(b:Int):=by omega
        have aZ:(mid:Int)+(m:Int)-(j:Int)<(b:Int):=by omega
        have bL:((a:Int)+(b:Int))/2+(m:Int)-(j:Int)<(b:Int):=by omega
        obtain⟨b0,b1⟩:=SL.out.box aB.out
        go_wp2_with (go_at_call 115;fail)
        try simp only[em,a4]
        refine(bf.out mid I b (P++M1) B F S wc (by rw[List.length_append,HL.out.2.1,HM.out.2.2.1];omega) (by rw[A.out.1];omega) (by rw[A.out.2.1];omega) (by rw[A.out.1];omega) (by rw[A.out.2.1];omega) ?_ ?_ ag.out.2.1 ag.out.2.2.2 (by simpa using SL.out)).mono ?_
        ·have h1:=HL.out.2.2.1
         have h2:=HL.out.2.2.2.1
         rw[A.out.1,A.out.2.1]
         omega
        ·have:=A.out.2.2.2
         have h3:=HM.out.2.2.1
         have h4:=z.out.2.2.1
         have h5:=z.out.2.2.2.1
         simp only[List.length_append]
         omega
        rintro e w2 ⟨rfl,hS⟩
        have HF:Aside _:=hS
        clear hS SL
        go_wp2
        go_end0
        obtain⟨M2,q1,q2,q3⟩:=HF.out
        exact⟨rfl,aI.out _ (aS.out M2 _ q1 q2 (by simpa using q3))⟩
       ·have z2:¬(I:Int)<(b:Int):=by omega
        have aZ:¬(mid:Int)+(m:Int)-(j:Int)<(b:Int):=by omega
        have bL:¬((a:Int)+(b:Int))/2+(m:Int)-(j:Int)<(b:Int):=by omega
        have K:F=[]:=List.length_eq_zero_iff.1 (by rw[A.out.2.1];omega)
        go_wp2
        go_end0
        exact⟨rfl,aI.out _ (aS.out B _ ag.out.2.1 (by rw[K];simpa using Same.refl _ _) (by have:=SL.out;rw[K] at this;simpa using this))⟩
      ·have z1:¬(mid:Int)<(I:Int):=by omega
       have bP:¬(mid:Int)<(mid:Int)+(m:Int)-(j:Int):=by omega
       have bM:¬((a:Int)+(b:Int))/2<((a:Int)+(b:Int))/2+(m:Int)-(j:Int):=by omega
       have K:B=[]:=List.length_eq_zero_iff.1 (by rw[A.out.1];omega)
       go_wp2
       go_end0
       exact⟨rfl,aI.out _ (aS.out F _ ag.out.2.2.2 (by rw[K];simpa using Same.refl _ _) (by have:=SL.out;rw[K] at this;simpa using this))⟩
end Ssf
end Go.Proofs.YtofidnijfnhpaaaGreatDoor
