import Derived.Test.YtofidnijfnhpaaaGreatDoorQ01
import Derived.Test.YtofidnijfnhpaaaGreatDoorQ27
import Derived.Test.YtofidnijfnhpaaaGreatDoorQ28
import Derived.Test.YtofidnijfnhpaaaGreatDoorQ25
set_option linter.unusedSimpArgs false
set_option linter.unusedVariables false
set_option linter.unusedSectionVars false
set_option maxRecDepth 1000000
set_option maxHeartbeats 16000000
namespace Go.Proofs.YtofidnijfnhpaaaGreatDoor
namespace Ssf
open Go.Shelf Go.RowKit Go.Lib Go.Sort Stb
variable {α:Type} [Inhabited α] {enc:α->Value} {lt:α->α->Bool} {g:Nat} {lb:Array Value} {sf:Nat} {sb:Array Value} {blk off N:Nat} {w0 w W W' wB:World} {dk:Array α}
theorem sym_f {enc:α->Value} {lt:α->α->Bool} {g:Nat} {F:Array Value} {I:Nat} {K:Array Value} {blk q N:Nat} {w0:World} (D:Dat enc lt g F I K blk q N w0):
 ∀(k a m b:Nat) (P L Q S:List α) (w:World),P.length=a->m=a+L.length->b=m+Q.length->0<L.length->0<Q.length->L.length+Q.length<=k->(P++(L++(Q++S))).length=N->Sorted lt L->Sorted lt Q->SW enc w0 blk q (P++(L++(Q++S))).toArray w->
 Calls Tryz.prog 115 #[.agg #[.func (.func g) #[] F,.func (.func I) #[] K],.int .i64 a,.int .i64 m,.int .i64 b] w fun e w'=>e=.returned (.tuple #[])/\∃M,Sorted lt M/\Same lt (L++Q) M/\SX enc w0 blk q w (P++(M++S)).toArray w'
 |0,_,_,_,_,_,_,_,_,_,_,_,h,_,hk,_,_,_,_=>by omega
 |k+1,a,m,b,P,L,Q,S,w,ha,hm,hb,hL,hQ,hk,hlen,sL,sQ,S0=>by
  by_cases h1:L.length=1
  ·obtain⟨x,rfl⟩:=List.length_eq_one_iff.1 h1
   exact sym_left_f D a m b x P Q S w hlen ha (by simpa using hm) hb sQ S0
  ·by_cases h2:Q.length=1
   ·obtain⟨x,rfl⟩:=List.length_eq_one_iff.1 h2
    exact sym_right_f D a m b x P L S w hlen ha hm (by simpa using hb) (by omega) sL S0
   ·have J:=fun(z B O:Nat) (y o j A:List α) (W:World) (Z:y.length=z) (V:B=z+o.length) (q3:O=B+j.length) (q4:0<o.length) (q5:0<j.length) (q6:o.length+j.length<L.length+Q.length) (U:(y++(o++(j++A))).length=N) (q8:Sorted lt o) (T:Sorted lt j) (E:SW enc w0 blk q (y++(o++(j++A))).toArray W)=>sym_f D k z B O y o j A W Z V q3 q4 q5 (by omega) U q8 T E
    by_cases hc:(a+b)/2<m
    ·exact sym_gt_f D a m b P L Q S w hlen ha hm hb (by omega) (by omega) sL sQ ((a+b)/2) rfl hc J S0
    ·exact sym_le_f D a m b P L Q S w hlen ha hm hb (by omega) (by omega) sL sQ ((a+b)/2) rfl hc J S0
theorem stable_f {enc:α->Value} {lt:α->α->Bool} {g:Nat} {lb:Array Value} {sf:Nat} {sb:Array Value} {blk o N:Nat} {w0:World} (D:Dat enc lt g lb sf sb blk o N w0) (K:List α) (w:World) (hN:K.length=N)
 (S0:SW enc w0 blk o K.toArray w):
 Calls Tryz.prog 84 #[.agg #[.func (.func g) #[] lb,.func (.func sf) #[] sb],.int .i64 N] w fun e w'=>e=.returned (.tuple #[])/\∃l,Sorted lt l/\Same lt K l/\SX enc w0 blk o w l.toArray w':=by
 have aj:=SX.start S0 (.cells #[.func (.func g) #[] lb,.func (.func sf) #[] sb] 137)
 have ak:Aside (BoxAt g lb sf sb blk w.heap.size (w.alloc (.cells #[.func (.func g) #[] lb,.func (.func sf) #[] sb] 137))):=box_new D S0
 have KW:Aside (Kp blk w (w.alloc (.cells #[.func (.func g) #[] lb,.func (.func sf) #[] sb] 137))):=Kp.alloc _ _ _
 have eg:=D.eg
 have hsz:=D.hsz
 have HD:Aside (Dat enc lt g lb sf sb blk o N w0):=D
 obtain⟨J,am⟩:∃q,q=w.alloc (.cells #[.func (.func g) #[] lb,.func (.func sf) #[] sb] 137):=⟨_,rfl⟩
 rw[<-am] at aj ak KW
 have ho:=D.ord
 have ai:Aside (∀(a b:Nat) (P M S:List α) (W:World),(P++(M++S)).length=N->P.length=a->b=a+M.length->SX enc w0 blk o J (P++(M++S)).toArray W->Calls Tryz.prog 114 #[.agg #[.func (.func g) #[] lb,.func (.func sf) #[] sb],.int .i64 a,.int .i64 b] W fun e w'=>e=.returned (.tuple #[])/\∃O,Sorted lt O/\Same lt M O/\SX enc w0 blk o J (P++(O++S)).toArray w'):=
  fun a b P M S W h1 h2 h3 F=>(insertion_f D a b P M S W h1 h2 h3 F.1).mono fun e w' ⟨he,O,A,T,B⟩=>⟨he,O,A,T,B.1,F.2.trans B.2⟩
 have al:Aside (∀(a m b:Nat) (P L Q S:List α) (W:World),P.length=a->m=a+L.length->b=m+Q.length->0<L.length->0<Q.length->(P++(L++(Q++S))).length=N->Sorted lt L->Sorted lt Q->SX enc w0 blk o J (P++(L++(Q++S))).toArray W->Calls Tryz.prog 115 #[.agg #[.func (.func g) #[] lb,.func (.func sf) #[] sb],.int .i64 a,.int .i64 m,.int .i64 b] W fun e w'=>e=.returned (.tuple #[])/\∃M,Sorted lt M/\Same lt (L++Q) M/\SX enc w0 blk o J (P++(M++S)).toArray w'):=
  fun a m b P L Q S W h1 h2 h3 F h5 h6 h7 h8 h9=>(sym_f D _ a m b P L Q S W h1 h2 h3 F h5 (Nat.le_refl _) h6 h7 h8 h9.1).mono fun e w' ⟨he,M,A,T,B⟩=>⟨he,M,A,T,B.1,h9.2.trans B.2⟩
 have HS:Aside (SX enc w0 blk o J K.toArray J/\K.length=N):=⟨aj,hN⟩
 have ag:Aside (Ord lt):=ho
 clear S0 aj D ho hN
 go_enter Tryz.func84,Tryz.ntmps84
 go_wp2
 rw[<-am]
 clear am
 go_loopg [5,6] N (fun g1 va vb wr=>∃(a:Nat) (D E:List α),va=.int .i64 a/\vb=.int .i64 ((a:Int)+20)/\a<=N/\N-a<=g1/\Aside (Full lt 20 D/\D.length=a/\Same lt K (D++E)/\(D++E).length=N/\SX enc w0 blk o J (D++E).toArray wr))
 case atStart=>exact⟨0,[],K,rfl,by first|rfl|go_num,Nat.zero_le _,by omega,Full.nil,rfl,Same.refl _ _,HS.out.2,by simpa using HS.out.1⟩
 case round=>
  clear HS
  obtain⟨a,D,E,rfl,rfl,ay,hg,H⟩:=hrel
  obtain⟨b0,b1⟩:=H.out.2.2.2.2.box ak.out
  by_cases hlt:a+20<=N
  ·have af:(a:Int)+20<=(N:Int):=by omega
   obtain⟨M,y,j⟩:∃M y,Aside (E=M++y/\M.length=20):=split_at E 20 (by have:=H.out.2.1;have F:=H.out.2.2.2.1;rw[List.length_append] at F;omega)
   go_wp2_with (go_at_call 114;fail)
   rw[show(a:Int)+20=((a+20:Nat):Int) by omega]
   refine(ai.out a (a+20) D M y wr (by have:=H.out.2.2.2.1;rw[j.out.1] at this;exact this) H.out.2.1 (by rw[j.out.2]) (by have:=H.out.2.2.2.2;rw[j.out.1] at this;exact this)).mono ?_
   rintro e w2 ⟨rfl,O,V,I,q3⟩
   have HF:Aside (Full lt 20 (D++O)/\(D++O).length=a+20/\Same lt K ((D++O)++y)/\((D++O)++y).length=N/\SX enc w0 blk o J ((D++O)++y).toArray w2):=by
    obtain⟨A,T,B,z,Z⟩:=H.out
    have U:O.length=20:=by rw[<-I.len ag.out];exact j.out.2
    rw[j.out.1] at B z
    refine⟨Full.snoc D O A U V,by rw[List.length_append,T,U],?_,?_,by simpa using q3⟩
    ·rw[List.append_assoc]
     exact B.trans ((Same.refl _ D).app (I.app (Same.refl _ y)))
    ·simp only[List.length_append] at z⊢
     rw[U,<-j.out.2]
     omega
   clear V I q3 H
   go_wp2
   go_roundg (N-(a+20))
   case measure=>omega
   case rel=>exact⟨a+20,D++O,y,by first|go_num|(congr 1;omega),by first|go_num|(congr 1;omega),by omega,Nat.le_refl _,HF⟩
  ·have af:¬((a:Int)+20<=(N:Int)):=by omega
   go_wp2_with (go_at_call 114;fail)
   refine(ai.out a N D E [] wr (by simpa using H.out.2.2.2.1) H.out.2.1 (by have F:=H.out.2.2.2.1;rw[List.length_append,H.out.2.1] at F;omega) (by simpa using H.out.2.2.2.2)).mono ?_
   rintro e w2 ⟨rfl,y,V,I,q3⟩
   have HF:Aside (∃l,Blk lt 20 l/\Same lt K l/\l.length=N/\SX enc w0 blk o J l.toArray w2):=by
    obtain⟨A,T,B,z,Z⟩:=H.out
    have aL:y.length=E.length:=(I.len ag.out).symm
    refine⟨D++y,A.blk (Blk.last y (by rw[List.length_append] at z;omega) V),B.trans ((Same.refl _ D).app I),by rw[List.length_append] at z⊢;omega,by simpa using q3⟩
   clear V I q3 H af hlt
   go_wp2
   go_loopg [4] N (fun g2 vb wr=>∃(h:Nat),vb=.int .i64 h/\0<h/\h<=2*N+20/\N-h<=g2/\Aside (∃l,Blk lt h l/\Same lt K l/\l.length=N/\SX enc w0 blk o J l.toArray wr))
   case atStart=>exact⟨20,rfl,by omega,by omega,by omega,HF⟩
   case round=>
    clear HF
    obtain⟨h,rfl,ah,aK,aJ,H⟩:=hrel
    by_cases hlt:h<N
    ·have af:(h:Int)<(N:Int):=by omega
     have ap:Aside (∃E,Full lt (2*h) []/\([]:List α).length=0/\Blk lt h E/\Same lt K ([]++E)/\([]++E).length=N/\SX enc w0 blk o J ([]++E).toArray wr):=by
      obtain⟨l,A,T,B,z⟩:=H.out
      exact⟨l,Full.nil,rfl,A,T,B,by simpa using z⟩
     clear H
     go_wp2
     go_loopg [5,6] N (fun g3 va vb wr=>∃(a:Nat) (D E:List α),va=.int .i64 a/\vb=.int .i64 ((a:Int)+2*(h:Int))/\a<=N/\N-a<=g3/\Aside (Full lt (2*h) D/\D.length=a/\Blk lt h E/\Same lt K (D++E)/\(D++E).length=N/\SX enc w0 blk o J (D++E).toArray wr))
     case atStart=>
      obtain⟨E,j⟩:=ap.out
      exact⟨0,[],E,rfl,by first|rfl|go_num|(congr 1;omega),Nat.zero_le _,by omega,j⟩
     case round=>
      clear ap
      obtain⟨a,D,E,rfl,rfl,ay,aM,H⟩:=hrel
      obtain⟨b0,b1⟩:=H.out.2.2.2.2.2.box ak.out
      by_cases hle:a+2*h<=N
      ·have aw:(a:Int)+2*(h:Int)<=(N:Int):=by omega
       obtain⟨L,Q,y,j⟩:∃L Q y,Aside (E=L++(Q++y)/\L.length=h/\Q.length=h/\Sorted lt L/\Sorted lt Q/\Blk lt h y):=H.out.2.2.1.two ah (by have F:=H.out.2.2.2.2.1;rw[List.length_append,H.out.2.1] at F;omega)
       go_wp2_with (go_at_call 115;fail)
       rw[show(a:Int)+(h:Int)=((a+h:Nat):Int) by omega,show(a:Int)+2*(h:Int)=((a+2*h:Nat):Int) by omega]
       refine(al.out a (a+h) (a+2*h) D L Q y wr H.out.2.1 (by rw[j.out.2.1]) (by rw[j.out.2.2.1];omega) (by rw[j.out.2.1];exact ah) (by rw[j.out.2.2.1];exact ah) (by have:=H.out.2.2.2.2.1;rw[j.out.1] at this;exact this) j.out.2.2.2.1 j.out.2.2.2.2.1 (by have:=H.out.2.2.2.2.2;rw[j.out.1] at this;exact this)).mono ?_
       rintro e w3 ⟨rfl,M,V,I,q3⟩
       have HF:Aside (Full lt (2*h) (D++M)/\(D++M).length=a+2*h/\Blk lt h y/\Same lt K ((D++M)++y)/\((D++M)++y).length=N/\SX enc w0 blk o J ((D++M)++y).toArray w3):=by
        obtain⟨A,T,B,z,Z,k6⟩:=H.out
        obtain⟨r1,r2,r3,r4,r5,r6⟩:=j.out
        have U:M.length=2*h:=by rw[<-I.len ag.out,List.length_append];omega
        rw[r1] at z Z
        refine⟨Full.snoc D M A U V,by rw[List.length_append,T,U],r6,?_,?_,by simpa using q3⟩
        ·rw[List.append_assoc]
         refine z.trans ((Same.refl _ D).app ?_)
         rw[<-List.append_assoc]
         exact I.app (Same.refl _ y)
        ·simp only[List.length_append] at Z⊢
         omega
       clear V I q3 H
       go_wp2
       go_roundg (N-(a+2*h))
       case measure=>omega
       case rel=>exact⟨a+2*h,D++M,y,by first|go_num|(congr 1;omega),by first|go_num|(congr 1;omega),by omega,Nat.le_refl _,HF⟩
      ·have aw:¬((a:Int)+2*(h:Int)<=(N:Int)):=by omega
       by_cases hmn:a+h<N
       ·have aA:(a:Int)+(h:Int)<(N:Int):=by omega
        obtain⟨L,Q,j⟩:∃L Q,Aside (E=L++Q/\L.length=h/\0<Q.length/\Sorted lt L/\Sorted lt Q):=H.out.2.2.1.tail (by have F:=H.out.2.2.2.2.1;rw[List.length_append,H.out.2.1] at F;omega) (by have F:=H.out.2.2.2.2.1;rw[List.length_append,H.out.2.1] at F;omega)
        go_wp2_with (go_at_call 115;fail)
        rw[show(a:Int)+(h:Int)=((a+h:Nat):Int) by omega]
        refine(al.out a (a+h) N D L Q [] wr H.out.2.1 (by rw[j.out.2.1]) (by have F:=H.out.2.2.2.2.1;rw[j.out.1,List.length_append,List.length_append,H.out.2.1,j.out.2.1] at F;omega) (by rw[j.out.2.1];exact ah) j.out.2.2.1 (by have:=H.out.2.2.2.2.1;rw[j.out.1] at this;simpa using this) j.out.2.2.2.1 j.out.2.2.2.2 (by have:=H.out.2.2.2.2.2;rw[j.out.1] at this;simpa using this)).mono ?_
        rintro e w3 ⟨rfl,M,V,I,q3⟩
        have HF:Aside (∃l,Blk lt (2*h) l/\Same lt K l/\l.length=N/\SX enc w0 blk o J l.toArray w3):=by
         obtain⟨A,T,B,z,Z,k6⟩:=H.out
         obtain⟨r1,r2,r3,r4,r5⟩:=j.out
         have U:M.length=E.length:=by rw[r1,<-I.len ag.out]
         rw[r1] at z
         refine⟨D++M,A.blk (Blk.last M (by rw[List.length_append] at Z;omega) V),z.trans ((Same.refl _ D).app I),by rw[List.length_append] at Z⊢;omega,by simpa using q3⟩
        clear V I q3 H
        go_wp2
        go_roundg (N-2*h)
        case measure=>omega
        case rel=>exact⟨2*h,by first|go_num|(congr 1;omega),by omega,by omega,Nat.le_refl _,HF⟩
       ·have aA:¬((a:Int)+(h:Int)<(N:Int)):=by omega
        have HF:Aside (∃l,Blk lt (2*h) l/\Same lt K l/\l.length=N/\SX enc w0 blk o J l.toArray wr):=by
         obtain⟨A,T,B,z,Z,k6⟩:=H.out
         exact⟨D++E,A.blk (Blk.last E (by rw[List.length_append] at Z;omega) (B.whole (by rw[List.length_append] at Z;omega))),z,Z,k6⟩
        clear H
        go_wp2
        go_roundg (N-2*h)
        case measure=>omega
        case rel=>exact⟨2*h,by first|go_num|(congr 1;omega),by omega,by omega,Nat.le_refl _,HF⟩
    ·have af:¬((h:Int)<(N:Int)):=by omega
     go_wp2
     go_end0
     obtain⟨l,A,T,B,z⟩:=H.out
     exact⟨rfl,l,A.whole (by omega),T,z.1,KW.out.trans z.2⟩
end Ssf
end Go.Proofs.YtofidnijfnhpaaaGreatDoor
namespace Go.Proofs.YtofidnijfnhpaaaGreatDoor
open Go.RowKit Go.Sort
open Go.Sort (grow)
theorem QiG (k n:Int) (s:ByteArray) (B:Int) (y:ByteArray) (w:World) (Z:s.size<=maxLen) (O:y.size<=maxLen):
 Calls Tryz.prog 59 #[.agg #[.int .i64 k,.int .i64 n,.string s],.agg #[.int .i64 k,.int .i64 B,.string y]] w fun e w'=>e=.returned (.bool (QcJ k n s.data.toList k B y.data.toList))/\∃q os',w'=grow (w.drewN q) os':=by
 unfold maxLen at Z O
 have N:∀(o A:Obj) (d:Nat),∃q os',((w.alloc o).alloc A).drewN d=grow (w.drewN q) os':=fun o A d=>⟨d,#[o]++#[A],by rw[alloc_eq_grow,alloc_eq_grow,grow_grow];rfl⟩
 have I:∀(o A:Obj),∃q os',(w.alloc o).alloc A=grow (w.drewN q) os':=fun o A=>⟨0,#[o]++#[A],by rw[alloc_eq_grow,alloc_eq_grow,grow_grow];rfl⟩
 have F:=Hk (Ai N I)
 clear N I
 by_cases hk:k=1
 ·subst hk
  have D:=Hk (show QcJ 1 n s.data.toList 1 B y.data.toList=decide (n<B) by simp[QcJ])
  go_enter Tryz.func59,Tryz.ntmps59
  go_wp2
  go_ret
  exact⟨Qal (by rw[D.out]),F.out.2 _ _⟩
 have aa:(k==1)=false:=by simp[hk]
 have D:=Hk (show QcJ k n s.data.toList k B y.data.toList=Op.bytesLess s.data.toList y.data.toList by simp[QcJ,hk])
 clear hk
 go_enter Tryz.func59,Tryz.ntmps59
 go_wp2
 go_loopw [5] (fun i wr=>∃j:Nat,j<=s.size/\j<=y.size/\i=.int .i64 j/\Op.bytesLess s.data.toList y.data.toList=Op.bytesLess (s.data.toList.drop j) (y.data.toList.drop j)/\∃d,wr=((w.alloc (.cells #[.int .i64 k,.int .i64 n,.string s] 24)).alloc (.cells #[.int .i64 k,.int .i64 B,.string y] 24)).drewN d) (fun i _=>s.size-(intOf i).toNat)
 case atStart=>exact⟨0,Nat.zero_le _,Nat.zero_le _,rfl,rfl,0,rfl⟩
 case round=>
  obtain⟨j,hj,ab,rfl,J,d,rfl⟩:=hrel
  have E:=Hk J
  clear J
  by_cases h1:j<s.size
  ·by_cases h1':j<y.size
   ·have K:=Hk (Qdv s j h1)
    have M:=Hk (Qdv y j h1')
    obtain⟨a,U⟩:∃a:UInt8,s[j]=a:=⟨_,rfl⟩
    obtain⟨b,V⟩:∃b:UInt8,y[j]=b:=⟨_,rfl⟩
    rw[U] at K
    rw[V] at M
    by_cases hab:a=b
    ·have T:((a.toNat:Int) != (b.toNat:Int))=false:=by rw[hab];simp
     have z:=Hk (show Op.bytesLess s.data.toList y.data.toList=Op.bytesLess (s.data.toList.drop (j+1)) (y.data.toList.drop (j+1)) by rw[E.out,K.out,M.out,hab,Qh4])
     clear hab
     go_wp2
     go_quiet (fail)
     go_wp2
     go_roundw
     case rel=>exact⟨j+1,by omega,by omega,by go_num,z.out,_,rfl⟩
     case measure=>simp[intOf];omega
    ·have T:((a.toNat:Int) != (b.toNat:Int))=true:=by
      have:a.toNat≠b.toNat:=fun h=>hab (UInt8.toNat_inj.1 h)
      simp;omega
     have z:=Hk (show Op.bytesLess s.data.toList y.data.toList=decide ((a.toNat:Int)<(b.toNat:Int)) by rw[E.out,K.out,M.out,Qma _ _ hab])
     clear hab
     go_wp2
     go_quiet (fail)
     go_wp2
     go_quiet (fail)
     go_wp2
     go_ret
     exact⟨Qal (by rw[D.out,z.out,Qfj]),by rw[World.drewN_drewN,World.drewN_drewN];exact F.out.1 _ _ _⟩
   ·have z:=Hk (show Op.bytesLess s.data.toList y.data.toList=decide ((s.size:Int)<(y.size:Int)) by
     rw[E.out,Qh5 (Or.inr (List.drop_eq_nil_of_le (by simp;omega))),decide_eq_false (by simp;omega),decide_eq_false (by omega)])
    go_wp2
    go_ret
    exact⟨Qal (by rw[D.out,z.out,Qfj]),F.out.1 _ _ _⟩
  ·have z:=Hk (show Op.bytesLess s.data.toList y.data.toList=decide ((s.size:Int)<(y.size:Int)) by
    rw[E.out,Qh5 (Or.inl (List.drop_eq_nil_of_le (by simp;omega)))]
    by_cases h:(s.size:Int)<(y.size:Int)
    ·rw[decide_eq_true h,decide_eq_true (by simp;omega)]
    ·rw[decide_eq_false h,decide_eq_false (by simp;omega)])
   go_wp2
   go_ret
   exact⟨Qal (by rw[D.out,z.out,Qfj]),F.out.1 _ _ _⟩
theorem QcE (a b:Vl) (w:World) (o:a.1=b.1) (j:a.2.2.size<=maxLen) (h:b.2.2.size<=maxLen):
 Calls Tryz.prog 59 #[.agg #[.int .i64 a.1,.int .i64 a.2.1,.string a.2.2],.agg #[.int .i64 b.1,.int .i64 b.2.1,.string b.2.2]] w fun e w'=>e=.returned (.bool (Qa7 a b))/\∃q os',w'=grow (w.drewN q) os':=by
 have:=QiG a.1 a.2.1 a.2.2 b.2.1 b.2.2 w j h
 unfold Qa7
 rw[<-o]
 exact this
theorem Qhq (g go N gc i j B xo xc A yo yc ab ao ac pb Z:Nat) (x y:List Vl) (o:List Nat) (w:World) (hg:g<w.heap.size) (a4:Z<w.heap.size) (ho:w.cell? ⟨Z,0,none⟩=some (.slice (some ⟨g,go,none⟩) N gc)) (hi:i<N) (hj:j<N) (hN:N<=1000) (aN:w.cell? ⟨g,go+i,none⟩=some (.slice (some ⟨B,xo,none⟩) x.length xc)) (aO:w.cell? ⟨g,go+j,none⟩=some (.slice (some ⟨A,yo,none⟩) y.length yc))
 (aE:B<w.heap.size) (hx:QaK w B xo x) (aG:A<w.heap.size) (hy:QaK w A yo y) (aY:ab<w.heap.size) (hk:QbJ w ab ao o) (bt:pb<w.heap.size) (hp:w.cell? ⟨pb,0,none⟩=some (.slice (some ⟨ab,ao,none⟩) o.length ac)) (F:∀k∈o,k<x.length) (M:∀k∈o,k<y.length) (bn:o.length<=100) (bq:x.length<=100) (bm:y.length<=100)
 (aL:∀k,(vAt x k).1=(vAt y k).1\/k∉o) (aQ:∀v∈x,v.2.2.size<=maxLen) (aM:∀v∈y,v.2.2.size<=maxLen):
 Calls Tryz.prog 58 #[.int .i64 i,.int .i64 j,.pointer (some ⟨pb,0,none⟩),.pointer (some ⟨Z,0,none⟩)] w fun e w'=>e=.returned (.bool (decide (Qb2 o x y<0)))/\∃q os',w'=grow (w.drewN q) os':=by
 have bc:Tryz.prog.follows .mixedOrders=true:=by kernel_rfl
 have HX:Aside (QaK w B xo x/\QaK w A yo y/\QbJ w ab ao o/\(∀k∈o,k<x.length)/\(∀k∈o,k<y.length)):=⟨hx,hy,hk,F,M⟩
 have aV:Aside ((∀k,(vAt x k).1=(vAt y k).1\/k∉o)/\(∀v∈x,v.2.2.size<=maxLen)/\∀v∈y,v.2.2.size<=maxLen):=⟨aL,aQ,aM⟩
 have au:Aside (w.cell? ⟨Z,0,none⟩=some (.slice (some ⟨g,go,none⟩) N gc)/\w.cell? ⟨g,go+i,none⟩=some (.slice (some ⟨B,xo,none⟩) x.length xc)/\w.cell? ⟨g,go+j,none⟩=some (.slice (some ⟨A,yo,none⟩) y.length yc)):=⟨ho,aN,aO⟩
 have H0:Aside (∃q os,w=grow (w.drewN q) os):=⟨0,#[],by rw[Go.Sort.grow_empty];rfl⟩
 clear hx hy hk F M aL aQ aM ho aN aO
 go_enter Tryz.func58,Tryz.ntmps58
 go_wp2
 go_loopg [11] o.length (fun g1 vi wr=>∃(k:Nat),vi=.int .i64 k/\k<=o.length/\o.length-k<=g1/\Aside (∃q os,wr=grow (w.drewN q) os)/\Aside (Qb2 o x y=Qb2 (o.drop k) x y))
 case atStart=>exact⟨0,rfl,Nat.zero_le _,by omega,H0,(show Qb2 o x y=Qb2 (o.drop 0) x y by rw[List.drop_zero])⟩
 case round=>
  clear H0
  obtain⟨k,rfl,bp,bs,HW,HC⟩:=hrel
  have br:w.heap.size<=wr.heap.size:=by obtain⟨q,os,e⟩:=HW.out;rw[e,Qc4];omega
  have D:Aside (∀(a:Addr) (v:Value),a.block<w.heap.size->w.cell? a=some v->wr.cell? a=some v):=by
   intro a v h1 h2
   obtain⟨q,os,e⟩:=HW.out
   rw[e]
   exact cell_grown h1 h2 q os
  by_cases hlt:k<o.length
  ·obtain⟨p,E⟩:∃p,o[k]=p:=⟨_,rfl⟩
   obtain⟨hx,hy,aP,F,M⟩:=HX.out
   have O:p<x.length:=E▸F _ (List.getElem_mem hlt)
   have U:p<y.length:=E▸M _ (List.getElem_mem hlt)
   have c0:wr.cell? ⟨ab,ao+k,none⟩=some (.int .i64 p):=D.out _ _ aY (by have:=aP k hlt;rw[E] at this;exact this)
   obtain⟨e0,e1,e2⟩:=hx p O
   obtain⟨f0,f1,f2⟩:=hy p U
   have HR:Aside (Qb2 (o.drop k) x y=if Qa7 x[p] y[p]=true then-1 else if Qa7 y[p] x[p]=true then 1 else Qb2 (o.drop (k+1)) x y):=(show Qb2 (o.drop k) x y=_ by rw[List.drop_eq_getElem_cons hlt,Qb2,E,QbB O,QbB U])
   have z:Aside (x[p].1=y[p].1/\x[p].2.2.size<=maxLen/\y[p].2.2.size<=maxLen):=by
    obtain⟨q1,q2,q3⟩:=aV.out
    refine⟨?_,q2 _ (List.getElem_mem O),q3 _ (List.getElem_mem U)⟩
    have:=(q1 p).resolve_right (fun h=>h (E▸List.getElem_mem hlt))
    rw[QbB O,QbB U] at this
    exact this
   generalize x[p]=a at*
   generalize y[p]=b at*
   have x0:=D.out _ _ (by exact aE) e0
   have x1:=D.out _ _ (by exact aE) e1
   have x2:=D.out _ _ (by exact aE) e2
   have y0:=D.out _ _ (by exact aG) f0
   have y1:=D.out _ _ (by exact aG) f1
   have y2:=D.out _ _ (by exact aG) f2
   have o0:=D.out _ _ (by exact a4) au.out.1
   have o1:=D.out _ _ (by exact hg) au.out.2.1
   have o2:=D.out _ _ (by exact hg) au.out.2.2
   have V:=cell_grown (by show Z<_;omega) o0
   have O1:=cell_grown (by show g<_;omega) o1
   have O2:=cell_grown (by show g<_;omega) o2
   clear o0 o1 o2
   have X0:=cell_grown (by show B<_;omega) x0
   have X1:=cell_grown (by show B<_;omega) x1
   have X2:=cell_grown (by show B<_;omega) x2
   have Y0:=cell_grown (by show A<_;omega) y0
   have Y1:=cell_grown (by show A<_;omega) y1
   have Y2:=cell_grown (by show A<_;omega) y2
   clear hx hy aP F M e0 e1 e2 f0 f1 f2 x0 x1 x2 y0 y1 y2 E
   cases hl1:Qa7 a b with
   |true=>
    have HV:Aside (Qb2 o x y= -1):=(show Qb2 o x y= -1 by rw[HC.out,HR.out,if_pos hl1])
    have J:Aside (∀W:World,Calls Tryz.prog 59 #[.agg #[.int .i64 a.1,.int .i64 a.2.1,.string a.2.2],.agg #[.int .i64 b.1,.int .i64 b.2.1,.string b.2.2]] W fun e w'=>e=.returned (.bool true)/\∃q os',w'=grow (W.drewN q) os'):=fun W=>by have:=QcE a b W z.out.1 z.out.2.1 z.out.2.2;rw[hl1] at this;exact this
    clear hl1 HR HC
    go_wp2_with fail
    go_quiet_grown (first|(go_at_call 59;refine Calls.grown_of (J.out _)))
    have K:Aside (∃q os,grow (wr.drewN nq) osq=grow (w.drewN q) os):=by
     obtain⟨q,os,e⟩:=HW.out
     rw[e]
     exact⟨q+nq,os++osq,by show grow (grow ((w.drewN q).drewN nq) os) osq=_;rw[Go.Sort.grow_grow,World.drewN_drewN]⟩
    clear V O1 O2 X0 X1 X2 Y0 Y1 Y2 c0
    generalize grow (wr.drewN nq) osq=w2 at K⊢
    go_wp2
    go_ret
    exact⟨by rw[HV.out];rfl,K.out⟩
   |false=>
    have J:Aside (∀W:World,Calls Tryz.prog 59 #[.agg #[.int .i64 a.1,.int .i64 a.2.1,.string a.2.2],.agg #[.int .i64 b.1,.int .i64 b.2.1,.string b.2.2]] W fun e w'=>e=.returned (.bool false)/\∃q os',w'=grow (W.drewN q) os'):=fun W=>by have:=QcE a b W z.out.1 z.out.2.1 z.out.2.2;rw[hl1] at this;exact this
    have T:Aside (Qb2 o x y=if Qa7 b a=true then 1 else Qb2 (o.drop (k+1)) x y):=(show Qb2 o x y=_ by rw[HC.out,HR.out,if_neg (by rw[hl1];decide)])
    clear hl1 HR HC
    go_wp2_with fail
    go_quiet_grown (first|(go_at_call 59;refine Calls.grown_of (J.out _)))
    have K:Aside (∃q os,grow (wr.drewN nq) osq=grow (w.drewN q) os):=by
     obtain⟨q,os,e⟩:=HW.out
     rw[e]
     exact⟨q+nq,os++osq,by show grow (grow ((w.drewN q).drewN nq) os) osq=_;rw[Go.Sort.grow_grow,World.drewN_drewN]⟩
    have bd:w.heap.size<=(grow (wr.drewN nq) osq).heap.size:=by rw[Qc4];omega
    have o0:=V nq osq
    have o1:=O1 nq osq
    have o2:=O2 nq osq
    have x0:=X0 nq osq
    have x1:=X1 nq osq
    have x2:=X2 nq osq
    have y0:=Y0 nq osq
    have y1:=Y1 nq osq
    have y2:=Y2 nq osq
    clear V O1 O2 X0 X1 X2 Y0 Y1 Y2 c0 J
    generalize grow (wr.drewN nq) osq=w2 at*
    have V:=cell_grown (by show Z<_;omega) o0
    have O1:=cell_grown (by show g<_;omega) o1
    have O2:=cell_grown (by show g<_;omega) o2
    have X0:=cell_grown (by show B<_;omega) x0
    have X1:=cell_grown (by show B<_;omega) x1
    have X2:=cell_grown (by show B<_;omega) x2
    have Y0:=cell_grown (by show A<_;omega) y0
    have Y1:=cell_grown (by show A<_;omega) y1
    have Y2:=cell_grown (by show A<_;omega) y2
    clear o0 o1 o2 x0 x1 x2 y0 y1 y2 nq osq
    cases hl2:Qa7 b a with
    |true=>
     have HV:Aside (Qb2 o x y=1):=(show Qb2 o x y=1 by rw[T.out,if_pos hl2])
     have J:Aside (∀W:World,Calls Tryz.prog 59 #[.agg #[.int .i64 b.1,.int .i64 b.2.1,.string b.2.2],.agg #[.int .i64 a.1,.int .i64 a.2.1,.string a.2.2]] W fun e w'=>e=.returned (.bool true)/\∃q os',w'=grow (W.drewN q) os'):=fun W=>by have:=QcE b a W z.out.1.symm z.out.2.2 z.out.2.1;rw[hl2] at this;exact this
     clear hl2 T
     go_wp2_with fail
     go_quiet_grown (first|(go_at_call 59;refine Calls.grown_of (J.out _)))
     have I:Aside (∃q os,grow (w2.drewN nq) osq=grow (w.drewN q) os):=by
      obtain⟨q,os,e⟩:=K.out
      rw[e]
      exact⟨q+nq,os++osq,by show grow (grow ((w.drewN q).drewN nq) os) osq=_;rw[Go.Sort.grow_grow,World.drewN_drewN]⟩
     clear V O1 O2 X0 X1 X2 Y0 Y1 Y2
     generalize grow (w2.drewN nq) osq=w3 at I⊢
     go_wp2
     go_ret
     exact⟨by rw[HV.out];rfl,I.out⟩
    |false=>
     have HV:Aside (Qb2 o x y=Qb2 (o.drop (k+1)) x y):=(show Qb2 o x y=_ by rw[T.out,if_neg (by rw[hl2];decide)])
     have J:Aside (∀W:World,Calls Tryz.prog 59 #[.agg #[.int .i64 b.1,.int .i64 b.2.1,.string b.2.2],.agg #[.int .i64 a.1,.int .i64 a.2.1,.string a.2.2]] W fun e w'=>e=.returned (.bool false)/\∃q os',w'=grow (W.drewN q) os'):=fun W=>by have:=QcE b a W z.out.1.symm z.out.2.2 z.out.2.1;rw[hl2] at this;exact this
     clear hl2 T
     go_wp2_with fail
     go_quiet_grown (first|(go_at_call 59;refine Calls.grown_of (J.out _)))
     have I:Aside (∃q os,grow (w2.drewN nq) osq=grow (w.drewN q) os):=by
      obtain⟨q,os,e⟩:=K.out
      rw[e]
      exact⟨q+nq,os++osq,by show grow (grow ((w.drewN q).drewN nq) os) osq=_;rw[Go.Sort.grow_grow,World.drewN_drewN]⟩
     clear V O1 O2 X0 X1 X2 Y0 Y1 Y2
     generalize grow (w2.drewN nq) osq=w3 at I⊢
     go_wp2
     go_roundg (o.length-(k+1))
     case measure=>omega
     case rel=>exact⟨k+1,by go_num,by omega,Nat.le_refl _,I,HV⟩
  ·have bo:k=o.length:=by omega
   have bi:¬(k:Int)<(o.length:Int):=by omega
   go_wp2
   go_ret
   refine⟨?_,HW.out⟩
   rw[HC.out,List.drop_eq_nil_of_le (by omega)]
   rfl
end Go.Proofs.YtofidnijfnhpaaaGreatDoor
