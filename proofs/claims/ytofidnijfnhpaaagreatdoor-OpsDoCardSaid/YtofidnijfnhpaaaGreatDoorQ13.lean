import Derived.Deep.Cut
import Derived.Deep.DeepCutAuto
import Derived.Test.YtofidnijfnhpaaaGreatDoorQ01
import Derived.Test.YtofidnijfnhpaaaGreatDoorQ12
set_option linter.unusedSimpArgs false
set_option linter.unusedVariables false
set_option linter.unusedSectionVars false
set_option maxRecDepth 1000000
set_option maxHeartbeats 16000000
namespace Go.Proofs.YtofidnijfnhpaaaGreatDoor
namespace Stb
open Go.Shelf Go.RowKit Go.Lib Go.Sort
variable {α:Type} [Inhabited α]
theorem sym_left (enc:α->Value) (A:α->α->Int) (g:Nat) (cb:Array Value) (blk o aQ a m b N:Nat) (x:α) (P E S:List α) (d0:Array α) (w0 w:World) (eg:∀args w,(callFunc g args).run Tryz.prog w=.ok (.enter g args) w) (aj:CmpLays1 Tryz.prog g cb enc A blk o d0.size w0) (ho:Ord (ltOf A)) (R:Row1 enc w0 blk o d0) (hN:d0.size=N) (hsz:N<4611686018427387904) (T:(P++([x]++(E++S))).length=N) (ha:P.length=a) (hm:m=a+1) (hb:b=m+E.length) (sR:Sorted (ltOf A) E)
 (S0:SW enc w0 blk o (P++([x]++(E++S))).toArray w):
 Calls Tryz.prog 136 #[.slice (some ⟨blk,o,none⟩) N aQ,.int .i64 a,.int .i64 m,.int .i64 b,.func (.func g) #[] cb] w fun e w'=>e=.returned (.tuple #[])/\∃M,Sorted (ltOf A) M/\Same (ltOf A) ([x]++E) M/\SW enc w0 blk o (P++(M++S)).toArray w':=by
 have a8:Tryz.prog.follows .mixedOrders=true:=by kernel_rfl
 have aH:=R.hO.cells
 simp only[Value.cells] at aH
 have bF:=R.hO.store Tryz.prog
 have HC:Aside _:=aj
 have aw:Aside (Ord (ltOf A)):=ho
 obtain⟨l,hl⟩:∃q,q=P++([x]++(E++S)):=⟨_,rfl⟩
 have bz:l.toArray.size=N:=by rw[hl];simpa using T
 have a5:l.toArray[a]! =x:=by rw[hl];exact arr_at P (E++S) x a ha.symm
 have HG:Aside (∀k,k<N->l[k]? =some (l.toArray[k]!)):=fun k hk=>arr_get l k (by simpa using (show k<l.toArray.size by omega))
 have bH:b<=N:=by
  have:P.length+(1+(E.length+S.length))=N:=by simpa [Nat.add_comm,Nat.add_left_comm,Nat.add_assoc] using T
  omega
 have aL:m<=b:=by omega
 have bx:a<m:=by omega
 have e1:(m:Int)-(a:Int)=1:=by omega
 have HS:Aside (SW enc w0 blk o l.toArray w/\(m=m\/∀y,l[m-1]? =some y->ltOf A y x=true)/\(b=b\/∀y,l[b]? =some y->ltOf A y x=false)):=⟨by rw[hl];exact S0,Or.inl rfl,Or.inl rfl⟩
 have HL:Aside (l=P++([x]++(E++S))/\P.length=a/\m=a+1/\b=m+E.length/\(P++([x]++(E++S))).length=N/\Sorted (ltOf A) E):=⟨hl,ha,hm,hb,T,sR⟩
 clear S0 aj ho hl ha hm hb T sR
 go_enter Tryz.func136,Tryz.ntmps136
 go_wp2
 go_loopg [10,11] (b-m) (fun g1 vi vj wr=>∃i j:Nat,vi=.int .i64 i/\vj=.int .i64 j/\m<=i/\i<=j/\j<=b/\j-i<=g1/\Aside (SW enc w0 blk o l.toArray wr/\(i=m\/∀y,l[i-1]? =some y->ltOf A y x=true)/\(j=b\/∀y,l[j]? =some y->ltOf A y x=false)))
 case atStart=>exact⟨m,b,rfl,rfl,Nat.le_refl _,aL,Nat.le_refl _,by omega,⟨HS.out.1,Or.inl rfl,Or.inl rfl⟩⟩
 case round=>
  clear HS
  obtain⟨i,j,rfl,rfl,az,bC,ax,hg,H⟩:=hrel
  by_cases hlt:i<j
  ·have aG:(i:Int)<(j:Int):=by omega
   obtain⟨h,hh⟩:∃q,q=(i+j)/2:=⟨_,rfl⟩
   have aS:i<=h:=by omega
   have bA:h<j:=by omega
   have eh:((i:Int)+(j:Int))/2=(h:Int):=by omega
   obtain⟨y,gx⟩:∃y,l.toArray[h]! =y:=⟨_,rfl⟩
   have GH:Aside (l[h]? =some y):=by have:=HG.out h (by omega);rw[gx] at this;exact this
   have B:Aside (SW enc w0 blk o l.toArray wr):=H.out.1
   have HI:Aside ((i=m\/∀y,l[i-1]? =some y->ltOf A y x=true)/\(j=b\/∀y,l[j]? =some y->ltOf A y x=false)):=H.out.2
   have gy:=a5
   clear H hh
   obtain⟨Z,I⟩:∃q,q=h:=⟨_,rfl⟩
   obtain⟨V,F⟩:∃q,q=a:=⟨_,rfl⟩
   have ea:((h:Int)).toNat=Z:=by omega
   have pa:(0:Int)<=(h:Int):=by omega
   have ba:(h:Int)<(N:Int):=by omega
   have ra:IntKind.i64.wrap ((h:Int))=(h:Int):=by rw[IntKind.wrap_i64];omega
   have ec:((a:Int)).toNat=V:=by omega
   have pc:(0:Int)<=(a:Int):=by omega
   have bc:(a:Int)<(N:Int):=by omega
   have rc:IntKind.i64.wrap ((a:Int))=(a:Int):=by rw[IntKind.wrap_i64];omega
   have la:=B.out.cl R (by omega) h (by omega)
   have lb:=B.out.cl R (by omega) a (by omega)
   rw[gx,<-I] at la
   rw[gy,<-F] at lb
   have hc:=B.out.cmp HC.out (by omega) y x
   clear I F
   cases hlv:ltOf A y x with
   |true=>
    have hv:A y x<0:=of_decide_eq_true hlv
    have hd:decide (A y x<0)=true:=decide_eq_true hv
    have ak:Aside (ltOf A y x=true):=hlv
    clear hlv
    go_wp2_with fail
    try simp only[eh]
    go_quiet_grown (first|(go_at_fn g;refine Calls.grown_of (hc _ _)))
    have S2:Aside (SW enc w0 blk o l.toArray (grow (wr.drewN nq) osq)):=B.out.grown nq osq
    clear la lb hc B
    generalize grow (wr.drewN nq) osq=w2 at S2⊢
    clear nq osq
    clear ea ec
    go_wp2
    go_roundg (j-(h+1))
    case measure=>omega
    case rel=>exact⟨h+1,j,by first|go_num|(congr 1;omega),rfl,by omega,by omega,ax,Nat.le_refl _,⟨S2.out,Or.inr (fun z hz=>by rw[Nat.add_sub_cancel,GH.out] at hz;cases hz;exact ak.out),HI.out.2⟩⟩
   |false=>
    have hv:¬A y x<0:=of_decide_eq_false hlv
    have hd:decide (A y x<0)=false:=decide_eq_false hv
    have ak:Aside (ltOf A y x=false):=hlv
    clear hlv
    go_wp2_with fail
    try simp only[eh]
    go_quiet_grown (first|(go_at_fn g;refine Calls.grown_of (hc _ _)))
    have S2:Aside (SW enc w0 blk o l.toArray (grow (wr.drewN nq) osq)):=B.out.grown nq osq
    clear la lb hc B
    generalize grow (wr.drewN nq) osq=w2 at S2⊢
    clear nq osq
    clear ea ec
    go_wp2
    go_roundg (h-i)
    case measure=>omega
    case rel=>exact⟨i,h,rfl,by first|rfl|go_num|(congr 1;omega),az,aS,by omega,Nat.le_refl _,⟨S2.out,HI.out.1,Or.inr (fun z hz=>by rw[GH.out] at hz;cases hz;exact ak.out)⟩⟩
  ·have hij':i=j:=by omega
   subst hij'
   have aG:¬(i:Int)<(i:Int):=by omega
   obtain⟨K,J,HR⟩:∃K J,Aside (E=K++J/\K.length=i-m/\(∀y∈K,ltOf A y x=true)/\∀y∈J,ltOf A y x=false):=by
    obtain⟨k1,k2,k3,k4,k5,k6⟩:=HL.out
    obtain⟨q1,q2,q3⟩:=H.out
    rw[k1] at q2 q3
    exact find_first aw.out k2 k3 (by omega) az ax k6 q2 q3
   have av:Aside (K=[]++K/\([]:List α).length=a-a/\SW enc w0 blk o (P++([]++x::(K++(J++S)))).toArray wr):=⟨rfl,by simp,by have:=H.out.1;rw[HL.out.1,HR.out.1] at this;simpa using this⟩
   clear H
   go_wp2
   go_loopg [13] (i-a) (fun g2 vk wr=>∃(k:Nat) (D U:List α),vk=.int .i64 k/\a<=k/\k+1<=i/\i-k<=g2/\Aside (K=D++U/\D.length=k-a/\SW enc w0 blk o (P++(D++x::(U++(J++S)))).toArray wr))
   case atStart=>exact⟨a,[],K,rfl,Nat.le_refl _,by omega,by omega,av⟩
   case round=>
    clear av
    obtain⟨k,D,U,rfl,bE,bB,bG,HJ⟩:=hrel
    by_cases hlk:k+1<i
    ·have aK:(k:Int)<(i:Int)-1:=by omega
     obtain⟨y,R5,HY⟩:∃y R5,Aside (U=y::R5):=by
      obtain⟨q1,q2,q3⟩:=HJ.out
      have:=HR.out.2.1
      rw[q1,List.length_append] at this
      have hm:=HL.out.2.2.1
      cases U with
      |nil=>simp at this;omega
      |cons y l=>exact⟨y,l,rfl⟩
     obtain⟨dj,O⟩:∃q,q=(P++(D++x::(U++(J++S)))).toArray:=⟨_,rfl⟩
     have aa:k=(P++D).length:=by rw[List.length_append,HL.out.2.1,HJ.out.2.1];omega
     have bD:dj.size=N:=by
      have:=HL.out.2.2.2.2.1
      rw[HR.out.1,HJ.out.1] at this
      rw[O,<-this]
      simp
      omega
     have gx:dj[k]! =x:=by
      rw[O]
      have:=arr_at (P++D) (U++(J++S)) x k aa
      simpa using this
     have gy:dj[k+1]! =y:=by
      rw[O,HY.out]
      have:=arr_at (P++(D++[x])) (R5++(J++S)) y (k+1) (by rw[aa];simp;omega)
      simpa using this
     have gs:swp dj k (k+1)=(P++((D++[y])++x::(R5++(J++S)))).toArray:=by
      rw[O,HY.out]
      have:=swp_list (P++D) [] (R5++(J++S)) x y k (k+1) aa (by rw[aa];simp)
      simpa using this
     have B:Aside (SW enc w0 blk o dj wr):=by rw[O];exact HJ.out.2.2
     have ay:Aside (K=D++U/\D.length=k-a):=⟨HJ.out.1,HJ.out.2.1⟩
     clear O HJ aa
     obtain⟨Z,I⟩:∃q,q=k:=⟨_,rfl⟩
     obtain⟨V,F⟩:∃q,q=(k+1):=⟨_,rfl⟩
     have ea:((k:Int)).toNat=Z:=by omega
     have pa:(0:Int)<=(k:Int):=by omega
     have ba:(k:Int)<(N:Int):=by omega
     have ra:IntKind.i64.wrap ((k:Int))=(k:Int):=by rw[IntKind.wrap_i64];omega
     have ec:(((k:Int)+1)).toNat=V:=by omega
     have pc:(0:Int)<=((k:Int)+1):=by omega
     have bc:((k:Int)+1)<(N:Int):=by omega
     have rc:IntKind.i64.wrap (((k:Int)+1))=((k:Int)+1):=by rw[IntKind.wrap_i64];omega
     have S3:Aside (SW enc w0 blk o (swp dj k (k+1)) ((wr.setCell ⟨blk,o+Z,none⟩ (enc y)).setCell ⟨blk,o+V,none⟩ (enc x)).drew):=by
      have:=B.out.swapped R k (k+1) (by omega) (by omega)
      rw[gx,gy] at this
      rw[I,F]
      exact this
     have ca:wr.cell? ⟨blk,o+Z,none⟩=some (enc x):=by rw[I];have:=B.out.c1 R (by omega) k (by omega);rw[gx] at this;exact this
     have cb':wr.cell? ⟨blk,o+V,none⟩=some (enc y):=by rw[F];have:=B.out.c1 R (by omega) (k+1) (by omega);rw[gy] at this;exact this
     have fa:wr.frozen? ⟨blk,o+Z,none⟩=false:=by rw[I];exact B.out.f1 R (by omega) k (by omega)
     have fb:wr.frozen? ⟨blk,o+V,none⟩=false:=by rw[F];exact B.out.f1 R (by omega) (k+1) (by omega)
     obtain⟨u,cc⟩:∃u,(wr.setCell ⟨blk,o+Z,none⟩ (enc y)).cell? ⟨blk,o+V,none⟩=some u:=by rw[I,F];exact B.out.c2 R (by omega) k (k+1) (by omega) (by omega) (enc y)
     have GS:Aside (swp dj k (k+1)=(P++((D++[y])++x::(R5++(J++S)))).toArray):=gs
     clear B gx gy gs I F
     go_wp2_with fail
     go_big_region_o
     clear ca cb' cc fa fb
     generalize ((wr.setCell ⟨blk,o+Z,none⟩ (enc y)).setCell ⟨blk,o+V,none⟩ (enc x)).drew=w3 at S3⊢
     clear ea ec
     go_wp2
     go_roundg (i-(k+1))
     case measure=>omega
     case rel=>exact⟨k+1,D++[y],R5,by go_num,by omega,by omega,by omega,by rw[ay.out.1,HY.out];simp,by rw[List.length_append,ay.out.2];simp;omega,by have:=S3.out;rw[GS.out] at this;exact this⟩
    ·have aK:¬(k:Int)<(i:Int)-1:=by omega
     go_wp2
     try simp only[Exit.inBlock,Exit.then]
     refine bodyPost_ret (results_none rfl _ _ _) rfl ?_
     obtain⟨q1,q2,q3⟩:=HJ.out
     obtain⟨k1,k2,k3,k4,k5,k6⟩:=HL.out
     obtain⟨r1,r2,r3,r4⟩:=HR.out
     have h4:U=[]:=List.length_eq_zero_iff.1 (by rw[q1,List.length_append] at r2;omega)
     rw[h4,List.append_nil] at q1
     rw[h4,<-q1] at q3
     obtain⟨p1,p2⟩:=put_first aw.out (r1▸k6) r3 r4
     exact⟨rfl,K++x::J,p1,by rw[r1];simpa using p2,by simpa using q3⟩
end Stb
end Go.Proofs.YtofidnijfnhpaaaGreatDoor
namespace Go.Proofs.YtofidnijfnhpaaaGreatDoor
namespace Stb
open Go.Shelf Go.RowKit Go.Lib Go.Sort
variable {α:Type} [Inhabited α]
theorem sym_right (enc:α->Value) (B:α->α->Int) (g:Nat) (cb:Array Value) (blk o aR a m b N:Nat) (x:α) (P L S:List α) (d0:Array α) (w0 w:World) (eg:∀args w,(callFunc g args).run Tryz.prog w=.ok (.enter g args) w) (al:CmpLays1 Tryz.prog g cb enc B blk o d0.size w0) (ho:Ord (ltOf B)) (R:Row1 enc w0 blk o d0) (hN:d0.size=N) (hsz:N<4611686018427387904) (V:(P++(L++([x]++S))).length=N) (ha:P.length=a) (hm:m=a+L.length) (hb:b=m+1) (h2:2<=L.length) (sL:Sorted (ltOf B) L)
 (S0:SW enc w0 blk o (P++(L++([x]++S))).toArray w):
 Calls Tryz.prog 136 #[.slice (some ⟨blk,o,none⟩) N aR,.int .i64 a,.int .i64 m,.int .i64 b,.func (.func g) #[] cb] w fun e w'=>e=.returned (.tuple #[])/\∃M,Sorted (ltOf B) M/\Same (ltOf B) (L++[x]) M/\SW enc w0 blk o (P++(M++S)).toArray w':=by
 have a7:Tryz.prog.follows .mixedOrders=true:=by kernel_rfl
 have aG:=R.hO.cells
 simp only[Value.cells] at aG
 have bH:=R.hO.store Tryz.prog
 have HC:Aside _:=al
 have ay:Aside (Ord (ltOf B)):=ho
 obtain⟨l,hl⟩:∃q,q=P++(L++([x]++S)):=⟨_,rfl⟩
 have bA:l.toArray.size=N:=by rw[hl];simpa using V
 have aZ:l.toArray[m]! =x:=by rw[hl];have:=arr_at (P++L) S x m (by rw[List.length_append];omega);simpa using this
 have HG:Aside (∀k,k<N->l[k]? =some (l.toArray[k]!)):=fun k hk=>arr_get l k (by simpa using (show k<l.toArray.size by omega))
 have bJ:b<=N:=by
  have:P.length+(L.length+(1+S.length))=N:=by simpa [Nat.add_comm,Nat.add_left_comm,Nat.add_assoc] using V
  omega
 have bz:a<m:=by omega
 have bx:m<b:=by omega
 have e1:¬((m:Int)-(a:Int)=1):=by omega
 have e2:(b:Int)-(m:Int)=1:=by omega
 have HS:Aside (SW enc w0 blk o l.toArray w/\(a=a\/∀y,l[a-1]? =some y->ltOf B x y=false)/\(m=m\/∀y,l[m]? =some y->ltOf B x y=true)):=⟨by rw[hl];exact S0,Or.inl rfl,Or.inl rfl⟩
 have HL:Aside (l=P++(L++([x]++S))/\P.length=a/\m=a+L.length/\(P++(L++([x]++S))).length=N/\Sorted (ltOf B) L):=⟨hl,ha,hm,V,sL⟩
 clear S0 al ho hl ha hm hb V sL h2
 go_enter Tryz.func136,Tryz.ntmps136
 go_wp2
 go_loopg [14,15] (m-a) (fun g1 vi vj wr=>∃i j:Nat,vi=.int .i64 i/\vj=.int .i64 j/\a<=i/\i<=j/\j<=m/\j-i<=g1/\Aside (SW enc w0 blk o l.toArray wr/\(i=a\/∀y,l[i-1]? =some y->ltOf B x y=false)/\(j=m\/∀y,l[j]? =some y->ltOf B x y=true)))
 case atStart=>exact⟨a,m,rfl,rfl,Nat.le_refl _,by omega,Nat.le_refl _,by omega,⟨HS.out.1,Or.inl rfl,Or.inl rfl⟩⟩
 case round=>
  clear HS
  obtain⟨i,j,rfl,rfl,az,bD,ao,hg,H⟩:=hrel
  by_cases hlt:i<j
  ·have aE:(i:Int)<(j:Int):=by omega
   obtain⟨h,hh⟩:∃q,q=(i+j)/2:=⟨_,rfl⟩
   have aT:i<=h:=by omega
   have bB:h<j:=by omega
   have eh:((i:Int)+(j:Int))/2=(h:Int):=by omega
   obtain⟨y,gy⟩:∃y,l.toArray[h]! =y:=⟨_,rfl⟩
   have GH:Aside (l[h]? =some y):=by have:=HG.out h (by omega);rw[gy] at this;exact this
   have D:Aside (SW enc w0 blk o l.toArray wr):=H.out.1
   have HI:Aside ((i=a\/∀y,l[i-1]? =some y->ltOf B x y=false)/\(j=m\/∀y,l[j]? =some y->ltOf B x y=true)):=H.out.2
   have gx:=aZ
   clear H hh
   obtain⟨iN,I⟩:∃q,q=m:=⟨_,rfl⟩
   obtain⟨Z,F⟩:∃q,q=h:=⟨_,rfl⟩
   have ea:((m:Int)).toNat=iN:=by omega
   have pa:(0:Int)<=(m:Int):=by omega
   have ba:(m:Int)<(N:Int):=by omega
   have ra:IntKind.i64.wrap ((m:Int))=(m:Int):=by rw[IntKind.wrap_i64];omega
   have ec:((h:Int)).toNat=Z:=by omega
   have pc:(0:Int)<=(h:Int):=by omega
   have bc:(h:Int)<(N:Int):=by omega
   have rc:IntKind.i64.wrap ((h:Int))=(h:Int):=by rw[IntKind.wrap_i64];omega
   have la:=D.out.cl R (by omega) m (by omega)
   have lb:=D.out.cl R (by omega) h (by omega)
   rw[gx,<-I] at la
   rw[gy,<-F] at lb
   have hc:=D.out.cmp HC.out (by omega) x y
   clear I F
   cases hlv:ltOf B x y with
   |true=>
    have hv:B x y<0:=of_decide_eq_true hlv
    have hd:decide (B x y<0)=true:=decide_eq_true hv
    have am:Aside (ltOf B x y=true):=hlv
    clear hlv
    go_wp2_with fail
    try simp only[eh]
    go_quiet_grown (first|(go_at_fn g;refine Calls.grown_of (hc _ _)))
    have S2:Aside (SW enc w0 blk o l.toArray (grow (wr.drewN nq) osq)):=D.out.grown nq osq
    clear la lb hc D
    generalize grow (wr.drewN nq) osq=w2 at S2⊢
    clear nq osq
    clear ea ec
    go_wp2
    go_roundg (h-i)
    case measure=>omega
    case rel=>exact⟨i,h,rfl,by first|rfl|go_num|(congr 1;omega),az,aT,by omega,Nat.le_refl _,⟨S2.out,HI.out.1,Or.inr (fun z hz=>by rw[GH.out] at hz;cases hz;exact am.out)⟩⟩
   |false=>
    have hv:¬B x y<0:=of_decide_eq_false hlv
    have hd:decide (B x y<0)=false:=decide_eq_false hv
    have am:Aside (ltOf B x y=false):=hlv
    clear hlv
    go_wp2_with fail
    try simp only[eh]
    go_quiet_grown (first|(go_at_fn g;refine Calls.grown_of (hc _ _)))
    have S2:Aside (SW enc w0 blk o l.toArray (grow (wr.drewN nq) osq)):=D.out.grown nq osq
    clear la lb hc D
    generalize grow (wr.drewN nq) osq=w2 at S2⊢
    clear nq osq
    clear ea ec
    go_wp2
    go_roundg (j-(h+1))
    case measure=>omega
    case rel=>exact⟨h+1,j,by first|go_num|(congr 1;omega),rfl,by omega,by omega,ao,Nat.le_refl _,⟨S2.out,Or.inr (fun z hz=>by rw[Nat.add_sub_cancel,GH.out] at hz;cases hz;exact am.out),HI.out.2⟩⟩
  ·have hij':i=j:=by omega
   subst hij'
   have aE:¬(i:Int)<(i:Int):=by omega
   obtain⟨E,J,HR⟩:∃E J,Aside (L=E++J/\E.length=i-a/\(∀y∈E,ltOf B x y=false)/\∀y∈J,ltOf B x y=true):=by
    obtain⟨k1,k2,k3,k4,k5⟩:=HL.out
    obtain⟨q1,q2,q3⟩:=H.out
    rw[k1] at q2 q3
    exact find_last ay.out k2 (by omega) az ao k5 q2 q3
   have ax:Aside (J=J++[]/\J.length=m-i/\SW enc w0 blk o (P++(E++(J++x::([]++S)))).toArray wr):=⟨by simp,by have:=HL.out.2.2.1;rw[HR.out.1,List.length_append,HR.out.2.1] at this;omega,by have:=H.out.1;rw[HL.out.1,HR.out.1] at this;simpa using this⟩
   clear H
   go_wp2
   go_loopg [17] (m-i) (fun g2 vk wr=>∃(k:Nat) (O K:List α),vk=.int .i64 k/\i<=k/\k<=m/\k-i<=g2/\Aside (J=O++K/\O.length=k-i/\SW enc w0 blk o (P++(E++(O++x::(K++S)))).toArray wr))
   case atStart=>exact⟨m,J,[],rfl,ao,Nat.le_refl _,Nat.le_refl _,ax⟩
   case round=>
    clear ax
    obtain⟨k,O,K,rfl,bF,bC,bI,HJ⟩:=hrel
    by_cases hlk:i<k
    ·have aJ:(i:Int)<(k:Int):=by omega
     obtain⟨A,aB⟩:∃q,q+1=k:=⟨k-1,by omega⟩
     have bG:(k:Int)=(A:Int)+1:=by omega
     have hlkz':(i:Int)<(A:Int)+1:=by omega
     obtain⟨T,y,HY⟩:∃T y,Aside (O=T++[y]/\T.length=A-i):=by
      obtain⟨q1,q2,q3⟩:=HJ.out
      have aA:O≠[]:=by intro e;rw[e] at q2;simp at q2;omega
      exact⟨O.dropLast,O.getLast aA,(List.dropLast_concat_getLast aA).symm,by rw[List.length_dropLast];omega⟩
     obtain⟨dj,U⟩:∃q,q=(P++(E++(O++x::(K++S)))).toArray:=⟨_,rfl⟩
     have ab:A=(P++(E++T)).length:=by rw[List.length_append,List.length_append,HL.out.2.1,HR.out.2.1,HY.out.2];omega
     have bE:dj.size=N:=by
      have:=HL.out.2.2.2.1
      rw[HR.out.1,HJ.out.1] at this
      rw[U,<-this]
      simp
      omega
     have gx:dj[k]! =x:=by
      rw[U,HY.out.1]
      have:=arr_at (P++(E++(T++[y]))) (K++S) x k (by rw[<-aB,ab];simp;omega)
      simpa using this
     have gy:dj[A]! =y:=by
      rw[U,HY.out.1]
      have:=arr_at (P++(E++T)) (x::(K++S)) y A ab
      simpa using this
     have gs:swp dj k A=(P++(E++(T++x::((y::K)++S)))).toArray:=by
      rw[U,HY.out.1]
      have:=swp_list' (P++(E++T)) [] (K++S) y x A k ab (by rw[<-aB,ab];simp)
      simpa using this
     have D:Aside (SW enc w0 blk o dj wr):=by rw[U];exact HJ.out.2.2
     have aU:Aside (J=O++K):=HJ.out.1
     clear U HJ ab
     obtain⟨iN,I⟩:∃q,q=k:=⟨_,rfl⟩
     obtain⟨Z,F⟩:∃q,q=A:=⟨_,rfl⟩
     have ea:(((A:Int)+1)).toNat=iN:=by omega
     have pa:(0:Int)<=((A:Int)+1):=by omega
     have ba:((A:Int)+1)<(N:Int):=by omega
     have ra:IntKind.i64.wrap (((A:Int)+1))=((A:Int)+1):=by rw[IntKind.wrap_i64];omega
     have ec:((A:Int)).toNat=Z:=by omega
     have pc:(0:Int)<=(A:Int):=by omega
     have bc:(A:Int)<(N:Int):=by omega
     have rc:IntKind.i64.wrap ((A:Int))=(A:Int):=by rw[IntKind.wrap_i64];omega
     have S3:Aside (SW enc w0 blk o (swp dj k A) ((wr.setCell ⟨blk,o+iN,none⟩ (enc y)).setCell ⟨blk,o+Z,none⟩ (enc x)).drew):=by
      have:=D.out.swapped R k A (by omega) (by omega)
      rw[gx,gy] at this
      rw[I,F]
      exact this
     have ca:wr.cell? ⟨blk,o+iN,none⟩=some (enc x):=by rw[I];have:=D.out.c1 R (by omega) k (by omega);rw[gx] at this;exact this
     have cb':wr.cell? ⟨blk,o+Z,none⟩=some (enc y):=by rw[F];have:=D.out.c1 R (by omega) A (by omega);rw[gy] at this;exact this
     have fa:wr.frozen? ⟨blk,o+iN,none⟩=false:=by rw[I];exact D.out.f1 R (by omega) k (by omega)
     have fb:wr.frozen? ⟨blk,o+Z,none⟩=false:=by rw[F];exact D.out.f1 R (by omega) A (by omega)
     obtain⟨u,cc⟩:∃u,(wr.setCell ⟨blk,o+iN,none⟩ (enc y)).cell? ⟨blk,o+Z,none⟩=some u:=by rw[I,F];exact D.out.c2 R (by omega) k A (by omega) (by omega) (enc y)
     have GS:Aside (swp dj k A=(P++(E++(T++x::((y::K)++S)))).toArray):=gs
     clear D gx gy gs I F
     go_wp2_with fail
     go_big_region_o
     clear ca cb' cc fa fb
     generalize ((wr.setCell ⟨blk,o+iN,none⟩ (enc y)).setCell ⟨blk,o+Z,none⟩ (enc x)).drew=w3 at S3⊢
     clear ea ec
     go_wp2
     go_roundg (A-i)
     case measure=>omega
     case rel=>exact⟨A,T,y::K,by first|rfl|go_num|(congr 1;omega),by omega,by omega,by omega,by rw[aU.out,HY.out.1];simp,HY.out.2,by have:=S3.out;rw[GS.out] at this;exact this⟩
    ·have aJ:¬(i:Int)<(k:Int):=by omega
     go_wp2
     try simp only[Exit.inBlock,Exit.then]
     refine bodyPost_ret (results_none rfl _ _ _) rfl ?_
     obtain⟨q1,q2,q3⟩:=HJ.out
     obtain⟨k1,k2,k3,k4,k5⟩:=HL.out
     obtain⟨r1,r2,r3,r4⟩:=HR.out
     have h4:O=[]:=List.length_eq_zero_iff.1 (by omega)
     rw[h4,List.nil_append] at q1
     rw[h4,<-q1] at q3
     obtain⟨p1,p2⟩:=put_one ay.out (r1▸k5) r4 r3
     exact⟨rfl,E++x::J,p1,by rw[r1];exact p2,by simpa using q3⟩
end Stb
end Go.Proofs.YtofidnijfnhpaaaGreatDoor
namespace Go.Proofs.YtofidnijfnhpaaaGreatDoor
namespace Stb
open Go.Shelf Go.RowKit Go.Lib Go.Sort
variable {α:Type} [Inhabited α]
theorem sym_gt (enc:α->Value) (z:α->α->Int) (g:Nat) (cb:Array Value) (blk o ax a m b N:Nat) (P L O S:List α) (d0:Array α) (w0 w:World) (eg:∀args w,(callFunc g args).run Tryz.prog w=.ok (.enter g args) w) (aH:CmpLays1 Tryz.prog g cb enc z blk o d0.size w0) (ho:Ord (ltOf z)) (R:Row1 enc w0 blk o d0) (hN:d0.size=N) (hsz:N<4611686018427387904) (ah:(P++(L++(O++S))).length=N) (ha:P.length=a) (hm:m=a+L.length) (hb:b=m+O.length) (h2:2<=L.length) (h3:2<=O.length) (sL:Sorted (ltOf z) L) (sR:Sorted (ltOf z) O) (mid:Nat) (aK:mid=(a+b)/2) (ac:mid<m)
 (IH:∀(a' m' b':Nat) (P' L' Q' S':List α) (W:World),P'.length=a'->m'=a'+L'.length->b'=m'+Q'.length->0<L'.length->0<Q'.length->L'.length+Q'.length<L.length+O.length->(P'++(L'++(Q'++S'))).length=N->Sorted (ltOf z) L'->Sorted (ltOf z) Q'->SW enc w0 blk o (P'++(L'++(Q'++S'))).toArray W->Calls Tryz.prog 136 #[.slice (some ⟨blk,o,none⟩) N ax,.int .i64 a',.int .i64 m',.int .i64 b',.func (.func g) #[] cb] W fun e w'=>e=.returned (.tuple #[])/\∃M,Sorted (ltOf z) M/\Same (ltOf z) (L'++Q') M/\SW enc w0 blk o (P'++(M++S')).toArray w')
 (S0:SW enc w0 blk o (P++(L++(O++S))).toArray w):
 Calls Tryz.prog 136 #[.slice (some ⟨blk,o,none⟩) N ax,.int .i64 a,.int .i64 m,.int .i64 b,.func (.func g) #[] cb] w fun e w'=>e=.returned (.tuple #[])/\∃M,Sorted (ltOf z) M/\Same (ltOf z) (L++O) M/\SW enc w0 blk o (P++(M++S)).toArray w':=by
 have bT:Tryz.prog.follows .mixedOrders=true:=by kernel_rfl
 have bk:=R.hO.cells
 simp only[Value.cells] at bk
 have cu:=R.hO.store Tryz.prog
 have HC:Aside _:=aH
 have aE:Aside (Ord (ltOf z)):=ho
 have a8:Aside _:=IH
 have bq:Aside (∀(a' m' b':Nat) (P' X Y S':List α) (W:World),(P'++(X++(Y++S'))).length=N->P'.length=a'->X.length+a'=m'->Y.length+m'=b'->0<X.length->0<Y.length->SW enc w0 blk o (P'++(X++(Y++S'))).toArray W->Calls Tryz.prog 151 #[.slice (some ⟨blk,o,none⟩) N ax,.int .i64 a',.int .i64 m',.int .i64 b',.func (.func g) #[] cb] W fun e w'=>e=.returned (.tuple #[])/\SW enc w0 blk o (P'++(Y++(X++S'))).toArray w'):=
  fun a' m' b' P' X Y S' W h1 h2 h3 h4 h5 h6 h7=>rotate_any enc _ blk o ax a' m' b' N P' X Y S' d0 w0 W R hN h1 h2 h3 h4 h5 h6 hsz h7
 obtain⟨l,hl⟩:∃q,q=P++(L++(O++S)):=⟨_,rfl⟩
 have cj:l.toArray.size=N:=by rw[hl];simpa using ah
 have HG:Aside (∀k,k<N->l[k]? =some (l.toArray[k]!)):=fun k hk=>arr_get l k (by simpa using (show k<l.toArray.size by omega))
 have cv:b<=N:=by
  have:P.length+(L.length+(O.length+S.length))=N:=by simpa [Nat.add_comm,Nat.add_left_comm,Nat.add_assoc] using ah
  omega
 have ci:a+2<=m:=by omega
 have ch:m+2<=b:=by omega
 have e1:¬((m:Int)-(a:Int)=1):=by omega
 have e2:¬((b:Int)-(m:Int)=1):=by omega
 have cC:((m:Int)-(a:Int)==1)=false:=by simp[e1]
 have cr:((b:Int)-(m:Int)==1)=false:=by simp[e2]
 have cg:2*mid<=a+b:=by omega
 have co:a+b<=2*mid+1:=by omega
 have em:((a:Int)+(b:Int))/2=(mid:Int):=by omega
 obtain⟨pp,cw⟩:∃q,q+1=mid+m:=⟨mid+m-1,by omega⟩
 have ep:(mid:Int)+(m:Int)-1=(pp:Int):=by omega
 have cA:((a:Int)+(b:Int))/2<(m:Int):=by omega
 have hmz':(mid:Int)<(m:Int):=by omega
 obtain⟨lo,cn⟩:∃q,q+b=mid+m:=⟨mid+m-b,by omega⟩
 have HS:Aside (SW enc w0 blk o l.toArray w):=by rw[hl];exact S0
 have HL:Aside (l=P++(L++(O++S))/\P.length=a/\m=a+L.length/\b=m+O.length/\(P++(L++(O++S))).length=N/\Sorted (ltOf z) L/\Sorted (ltOf z) O/\mid=(a+b)/2):=⟨hl,ha,hm,hb,ah,sL,sR,aK⟩
 clear S0 aH ho hl ha hm hb ah sL sR h2 h3 IH aK
 go_enter Tryz.func136,Tryz.ntmps136
 go_wp2
 try simp only[em,ep]
 go_loopg [20,21] (b-a) (fun g1 vs vr wr=>∃j r:Nat,vs=.int .i64 j/\vr=.int .i64 r/\lo<=j/\j<=r/\r<=mid/\r-j<=g1/\Aside (SW enc w0 blk o l.toArray wr/\(j=lo\/∀x y,l[j-1]? =some x->l[mid+m-j]? =some y->ltOf z y x=false)/\(r=mid\/∀x y,l[r]? =some x->l[mid+m-1-r]? =some y->ltOf z y x=true)))
 case atStart=>exact⟨lo,mid,by first|rfl|go_num|(congr 1;omega),by first|rfl|go_num|(congr 1;omega),Nat.le_refl _,by omega,Nat.le_refl _,by omega,⟨HS.out,Or.inl rfl,Or.inl rfl⟩⟩
 case round=>
  clear HS
  obtain⟨j,r,rfl,rfl,bJ,cp,bo,hg,H⟩:=hrel
  by_cases hlt:j<r
  ·as_aux_lemma=>
    have bj:(j:Int)<(r:Int):=by omega
    obtain⟨c,hh⟩:∃q,q=(j+r)/2:=⟨_,rfl⟩
    have bG:j<=c:=by omega
    have cm:c<r:=by omega
    have bd:((j:Int)+(r:Int))/2=(c:Int):=by omega
    obtain⟨U,hq⟩:∃q,q+(c+1)=mid+m:=⟨mid+m-(c+1),by omega⟩
    have cy:(pp:Int)-(c:Int)=(U:Int):=by omega
    have ct:IntKind.i64.wrap ((pp:Int)-(c:Int))=(U:Int):=by rw[IntKind.wrap_i64];omega
    obtain⟨x,gy⟩:∃y,l.toArray[c]! =y:=⟨_,rfl⟩
    obtain⟨y,gx⟩:∃y,l.toArray[U]! =y:=⟨_,rfl⟩
    have GC:Aside (l[c]? =some x):=by have:=HG.out c (by omega);rw[gy] at this;exact this
    have GQ:Aside (l[U]? =some y):=by have:=HG.out U (by omega);rw[gx] at this;exact this
    have SJ:Aside (SW enc w0 blk o l.toArray wr):=H.out.1
    have mid':Aside ((j=lo\/∀x y,l[j-1]? =some x->l[mid+m-j]? =some y->ltOf z y x=false)/\(r=mid\/∀x y,l[r]? =some x->l[mid+m-1-r]? =some y->ltOf z y x=true)):=H.out.2
    clear H hh
    obtain⟨iN,bf⟩:∃q,q=U:=⟨_,rfl⟩
    obtain⟨jN,a9⟩:∃q,q=c:=⟨_,rfl⟩
    have ea:((U:Int)).toNat=iN:=by omega
    have pa:(0:Int)<=(U:Int):=by omega
    have ba:(U:Int)<(N:Int):=by omega
    have ra:IntKind.i64.wrap ((U:Int))=(U:Int):=by rw[IntKind.wrap_i64];omega
    have ec:((c:Int)).toNat=jN:=by omega
    have pc:(0:Int)<=(c:Int):=by omega
    have bc:(c:Int)<(N:Int):=by omega
    have rc:IntKind.i64.wrap ((c:Int))=(c:Int):=by rw[IntKind.wrap_i64];omega
    have la:=SJ.out.cl R (by omega) U (by omega)
    have lb:=SJ.out.cl R (by omega) c (by omega)
    rw[gx,<-bf] at la
    rw[gy,<-a9] at lb
    have hc:=SJ.out.cmp HC.out (by omega) y x
    clear bf a9
    cases hlv:ltOf z y x with
    |true=>
     have hv:z y x<0:=of_decide_eq_true hlv
     have hd:decide (z y x<0)=true:=decide_eq_true hv
     have aJ:Aside (ltOf z y x=true):=hlv
     clear hlv
     go_wp2_with fail
     try simp only[em,ep,bd]
     go_quiet_grown (first|(go_at_fn g;refine Calls.grown_of (hc _ _)))
     have S2:Aside (SW enc w0 blk o l.toArray (grow (wr.drewN nq) osq)):=SJ.out.grown nq osq
     clear la lb hc SJ
     generalize grow (wr.drewN nq) osq=w2 at S2⊢
     clear nq osq
     clear ea ec
     go_wp2
     go_roundg (c-j)
     case measure=>omega
     case rel=>exact⟨j,c,rfl,by first|rfl|go_num|(congr 1;omega),bJ,bG,by omega,Nat.le_refl _,⟨S2.out,mid'.out.1,Or.inr (fun x' y' hx hy=>by rw[GC.out] at hx;rw[show mid+m-1-c=U by omega,GQ.out] at hy;cases hx;cases hy;exact aJ.out)⟩⟩
    |false=>
     have hv:¬z y x<0:=of_decide_eq_false hlv
     have hd:decide (z y x<0)=false:=decide_eq_false hv
     have aJ:Aside (ltOf z y x=false):=hlv
     clear hlv
     go_wp2_with fail
     try simp only[em,ep,bd]
     go_quiet_grown (first|(go_at_fn g;refine Calls.grown_of (hc _ _)))
     have S2:Aside (SW enc w0 blk o l.toArray (grow (wr.drewN nq) osq)):=SJ.out.grown nq osq
     clear la lb hc SJ
     generalize grow (wr.drewN nq) osq=w2 at S2⊢
     clear nq osq
     clear ea ec
     go_wp2
     go_roundg (r-(c+1))
     case measure=>omega
     case rel=>exact⟨c+1,r,by first|go_num|(congr 1;omega),rfl,by omega,by omega,bo,Nat.le_refl _,⟨S2.out,Or.inr (fun x' y' hx hy=>by rw[Nat.add_sub_cancel,GC.out] at hx;rw[show mid+m-(c+1)=U by omega,GQ.out] at hy;cases hx;cases hy;exact aJ.out),mid'.out.2⟩⟩
  ·have hij':j=r:=by omega
   subst hij'
   have bj:¬(j:Int)<(j:Int):=by omega
   have cD:a<=j:=by omega
   have cB:j<=m:=by omega
   have cq:j<=mid:=by omega
   obtain⟨F,cx⟩:∃q,q+j=mid+m:=⟨mid+m-j,by omega⟩
   have cE:m<=F:=by omega
   have ck:F<=b:=by omega
   have cz:mid<=F:=by omega
   have aO:(mid:Int)+(m:Int)-(j:Int)=(F:Int):=by omega
   obtain⟨K,D,J,E,A⟩:∃K D J E,Aside (L=K++D/\O=J++E/\K.length=j-a/\J.length=mid-j/\(∀x∈D,∀y∈J,ltOf z y x=true)/\∀x∈K,∀y∈E,ltOf z y x=false):=by
    obtain⟨k1,k2,k3,k4,k5,k6,k7,k8⟩:=HL.out
    obtain⟨q1,q2,q3⟩:=H.out
    rw[k1] at q2 q3
    refine sym_find (P:=P) (L:=L) (R:=O) (S:=S) (a:=a) (m:=m) (b:=b) (mid:=mid) (start:=j) aE.out k2 (by omega) (by omega) (by omega) (by omega) k8 k6 k7 ?_ ?_ ?_ ?_
    ·rw[if_pos ac];omega
    ·rw[if_pos ac];omega
    ·rw[if_pos ac];exact q2.imp (fun h=>by omega) id
    ·rw[if_pos ac];exact q3.imp (fun h=>by omega) id
   have B:Aside (D.length=m-j/\E.length=b-F/\(P++(K++(D++(J++(E++S))))).length=N/\P.length+(K.length+(D.length+(J.length+(E.length+S.length))))=N):=by
    obtain⟨k1,k2,k3,k4,k5,k6,k7,k8⟩:=HL.out
    obtain⟨r1,r2,r3,r4,r5,r6⟩:=A.out
    rw[r1,List.length_append] at k3
    rw[r2,List.length_append] at k4
    rw[r1,r2] at k5
    exact⟨by omega,by omega,by simpa using k5,by simpa [Nat.add_assoc] using k5⟩
   have sj:SW enc w0 blk o (P++(K++(D++(J++(E++S))))).toArray wr:=by have:=H.out.1;rw[HL.out.1,A.out.1,A.out.2.1] at this;simpa using this
   have SJ:Aside (SW enc w0 blk o (P++(K++(D++(J++(E++S))))).toArray wr):=sj
   clear sj
   clear H
   obtain⟨bt,be⟩:∃q:Bool,q=decide (j<m/\m<F):=⟨_,rfl⟩
   have af:Aside (bt=decide (j<m/\m<F)):=be
   clear be
   go_upto_region 39 with fail
   go_cut [185] (fun v wx=>v=.bool bt/\wx=wr)
   case first=>
    as_aux_lemma=>
     by_cases hz1:j<m
     ·have z1:(j:Int)<(m:Int):=by omega
      by_cases hz2:m<F
      ·have z2:(m:Int)<(F:Int):=by omega
       have aM:(m:Int)<(mid:Int)+(m:Int)-(j:Int):=by omega
       have hb':bt=true:=by rw[af.out];exact decide_eq_true ⟨hz1,hz2⟩
       subst hb'
       go_wp2
       go_meet
       exact⟨rfl,rfl⟩
      ·have z2:¬(m:Int)<(F:Int):=by omega
       have aM:¬(m:Int)<(mid:Int)+(m:Int)-(j:Int):=by omega
       have hb':bt=false:=by rw[af.out];exact decide_eq_false (fun h=>hz2 h.2)
       subst hb'
       go_wp2
       go_meet
       exact⟨rfl,rfl⟩
     ·have z1:¬(j:Int)<(m:Int):=by omega
      have hb':bt=false:=by rw[af.out];exact decide_eq_false (fun h=>hz1 h.1)
      subst hb'
      go_wp2
      go_meet
      exact⟨rfl,rfl⟩
   case rest=>
   obtain⟨rfl,rfl⟩:=hcut
   go_upto_if 185 with fail
   go_cut [] (fun wx=>Aside (SW enc w0 blk o (P++(K++(J++(D++(E++S))))).toArray wx))
   case first=>
    as_aux_lemma=>
     cases bt
     ·have I:D=[]\/J=[]:=by
       have h:=of_decide_eq_false af.out.symm
       by_cases h1:j<m
       ·exact Or.inr (List.length_eq_zero_iff.1 (by rw[A.out.2.2.2.1];have:¬m<F:=fun h2=>h ⟨h1,h2⟩;omega))
       ·exact Or.inl (List.length_eq_zero_iff.1 (by rw[B.out.1];omega))
      go_wp2
      go_meet
      have:=SJ.out
      show SW enc w0 blk o _ _
      rcases I with I|I
      ·rw[I] at this⊢
       simpa using this
      ·rw[I] at this⊢
       simpa using this
     ·have hz:=of_decide_eq_true af.out.symm
      go_wp2_with (go_at_call 151;fail)
      try simp only[em,aO]
      refine(bq.out j m F (P++K) D J (E++S) wc (by simpa using B.out.2.2.1) (by rw[List.length_append,HL.out.2.1,A.out.2.2.1];omega) (by rw[B.out.1];omega) (by rw[A.out.2.2.2.1];omega) (by rw[B.out.1];omega) (by rw[A.out.2.2.2.1];omega) (by simpa using SJ.out)).mono ?_
      rintro e w2 ⟨rfl,hS⟩
      have HF:Aside _:=hS
      clear hS SJ
      go_wp2
      go_meet
      have:=HF.out
      simp only[List.append_assoc] at this
      exact this
   case rest=>
    have SK:Aside (SW enc w0 blk o (P++(K++(J++(D++(E++S))))).toArray wc):=hcut
    clear hcut SJ
    have Z:Aside (Sorted (ltOf z) K/\Sorted (ltOf z) D/\Sorted (ltOf z) J/\Sorted (ltOf z) E):=by
     obtain⟨k1,k2,k3,k4,k5,k6,k7,k8⟩:=HL.out
     rw[A.out.1] at k6
     rw[A.out.2.1] at k7
     exact⟨(Sorted.app.1 k6).1,(Sorted.app.1 k6).2.1,(Sorted.app.1 k7).1,(Sorted.app.1 k7).2.1⟩
    clear af
    obtain⟨bu,bb⟩:∃q:Bool,q=decide (a<j/\j<mid):=⟨_,rfl⟩
    have ap:Aside (bu=decide (a<j/\j<mid)):=bb
    clear bb
    obtain⟨wk,bg⟩:∃q,q=wc:=⟨_,rfl⟩
    rw[<-bg] at SK⊢
    clear bg
    go_upto_region 41 with fail
    go_cut [199] (fun v wx=>v=.bool bu/\wx=wk)
    case first=>
     as_aux_lemma=>
      by_cases hz1:a<j
      ·have z1:(a:Int)<(j:Int):=by omega
       by_cases hz2:j<mid
       ·have z2:(j:Int)<(mid:Int):=by omega
        have hb':bu=true:=by rw[ap.out];exact decide_eq_true ⟨hz1,hz2⟩
        subst hb'
        go_wp2
        go_meet
        exact⟨rfl,rfl⟩
       ·have z2:¬(j:Int)<(mid:Int):=by omega
        have hb':bu=false:=by rw[ap.out];exact decide_eq_false (fun h=>hz2 h.2)
        subst hb'
        go_wp2
        go_meet
        exact⟨rfl,rfl⟩
      ·have z1:¬(a:Int)<(j:Int):=by omega
       have hb':bu=false:=by rw[ap.out];exact decide_eq_false (fun h=>hz1 h.1)
       subst hb'
       go_wp2
       go_meet
       exact⟨rfl,rfl⟩
    case rest=>
    obtain⟨rfl,rfl⟩:=hcut
    go_upto_if 199 with fail
    go_cut [] (fun wx=>Aside (∃T,Sorted (ltOf z) T/\Same (ltOf z) (K++J) T/\SW enc w0 blk o (P++(T++(D++(E++S)))).toArray wx))
    case first=>
     as_aux_lemma=>
      cases bu
      ·have I:K=[]\/J=[]:=by
        have h:=of_decide_eq_false ap.out.symm
        by_cases h1:a<j
        ·exact Or.inr (List.length_eq_zero_iff.1 (by rw[A.out.2.2.2.1];have:¬j<mid:=fun h2=>h ⟨h1,h2⟩;omega))
        ·exact Or.inl (List.length_eq_zero_iff.1 (by rw[A.out.2.2.1];omega))
       go_wp2
       go_meet
       have:=SK.out
       rcases I with I|I
       ·exact⟨J,Z.out.2.2.1,by rw[I];simpa using Same.refl _ _,by rw[I] at this;simpa using this⟩
       ·exact⟨K,Z.out.1,by rw[I];simpa using Same.refl _ _,by rw[I] at this;simpa using this⟩
      ·have hz:=of_decide_eq_true ap.out.symm
       go_wp2_with (go_at_call 136;fail)
       try simp only[em,aO]
       refine(a8.out a j mid P K J (D++(E++S)) wc HL.out.2.1 (by rw[A.out.2.2.1];omega) (by rw[A.out.2.2.2.1];omega) (by rw[A.out.2.2.1];omega) (by rw[A.out.2.2.2.1];omega) ?_ ?_ Z.out.1 Z.out.2.2.1 SK.out).mono ?_
       ·have h1:=HL.out.2.2.1
        have h2:=HL.out.2.2.2.1
        rw[A.out.2.2.1,A.out.2.2.2.1]
        omega
       ·have:=B.out.2.2.2
        simp only[List.length_append]
        omega
       rintro e w2 ⟨rfl,hS⟩
       have HF:Aside _:=hS
       clear hS SK
       go_wp2
       go_meet
       exact HF
    case rest=>
     as_aux_lemma=>
      obtain⟨T,HM⟩:∃T,Aside (Sorted (ltOf z) T/\Same (ltOf z) (K++J) T/\T.length=mid-a/\SW enc w0 blk o (P++(T++(D++(E++S)))).toArray wc):=by
       obtain⟨T,q1,q2,q3⟩:=(show Aside _ from hcut).out
       exact⟨T,q1,q2,by rw[<-q2.len aE.out,List.length_append,A.out.2.2.1,A.out.2.2.2.1];omega,q3⟩
      clear hcut SK
      have aG:Aside (∀(M2:List α) (V:World),Sorted (ltOf z) M2->Same (ltOf z) (D++E) M2->SW enc w0 blk o (P++(T++(M2++S))).toArray V->∃M,Sorted (ltOf z) M/\Same (ltOf z) (L++O) M/\SW enc w0 blk o (P++(M++S)).toArray V):=by
       intro M2 V h1 h2 h3
       obtain⟨k1,k2,k3,k4,k5,k6,k7,k8⟩:=HL.out
       obtain⟨r1,r2,r3,r4,r5,r6⟩:=A.out
       obtain⟨m1,m2,m3,m4⟩:=HM.out
       obtain⟨p1,p2⟩:=sym_cut aE.out (r1▸k6) (r2▸k7) r5 r6 m1 m2 h1 h2
       exact⟨T++M2,p1,by rw[r1,r2];exact p2,by simpa using h3⟩
      have SL:Aside (SW enc w0 blk o (P++(T++(D++(E++S)))).toArray wc):=HM.out.2.2.2
      by_cases hz1:mid<F
      ·have z1:(mid:Int)<(F:Int):=by omega
       have bQ:(mid:Int)<(mid:Int)+(m:Int)-(j:Int):=by omega
       have bN:((a:Int)+(b:Int))/2<((a:Int)+(b:Int))/2+(m:Int)-(j:Int):=by omega
       by_cases hz2:F<b
       ·have z2:(F:Int)<(b:Int):=by omega
        have aM:(mid:Int)+(m:Int)-(j:Int)<(b:Int):=by omega
        have bM:((a:Int)+(b:Int))/2+(m:Int)-(j:Int)<(b:Int):=by omega
        go_wp2_with (go_at_call 136;fail)
        try simp only[em,aO]
        refine(a8.out mid F b (P++T) D E S wc (by rw[List.length_append,HL.out.2.1,HM.out.2.2.1];omega) (by rw[B.out.1];omega) (by rw[B.out.2.1];omega) (by rw[B.out.1];omega) (by rw[B.out.2.1];omega) ?_ ?_ Z.out.2.1 Z.out.2.2.2 (by simpa using SL.out)).mono ?_
        ·have h1:=HL.out.2.2.1
         have h2:=HL.out.2.2.2.1
         rw[B.out.1,B.out.2.1]
         omega
        ·have:=B.out.2.2.2
         have h3:=HM.out.2.2.1
         have h4:=A.out.2.2.1
         have h5:=A.out.2.2.2.1
         simp only[List.length_append]
         omega
        rintro e w2 ⟨rfl,hS⟩
        have HF:Aside _:=hS
        clear hS SL
        go_wp2
        go_end0
        obtain⟨M2,q1,q2,q3⟩:=HF.out
        exact⟨rfl,aG.out M2 _ q1 q2 (by simpa using q3)⟩
       ·have z2:¬(F:Int)<(b:Int):=by omega
        have aM:¬(mid:Int)+(m:Int)-(j:Int)<(b:Int):=by omega
        have bM:¬((a:Int)+(b:Int))/2+(m:Int)-(j:Int)<(b:Int):=by omega
        have I:E=[]:=List.length_eq_zero_iff.1 (by rw[B.out.2.1];omega)
        go_wp2
        go_end0
        exact⟨rfl,aG.out D _ Z.out.2.1 (by rw[I];simpa using Same.refl _ _) (by have:=SL.out;rw[I] at this;simpa using this)⟩
      ·have z1:¬(mid:Int)<(F:Int):=by omega
       have bQ:¬(mid:Int)<(mid:Int)+(m:Int)-(j:Int):=by omega
       have bN:¬((a:Int)+(b:Int))/2<((a:Int)+(b:Int))/2+(m:Int)-(j:Int):=by omega
       have I:D=[]:=List.length_eq_zero_iff.1 (by rw[B.out.1];omega)
       go_wp2
       go_end0
       exact⟨rfl,aG.out E _ Z.out.2.2.2 (by rw[I];simpa using Same.refl _ _) (by have:=SL.out;rw[I] at this;simpa using this)⟩
end Stb
end Go.Proofs.YtofidnijfnhpaaaGreatDoor
