import Derived.Test.YtofidnijfnhpaaaGreatDoorQ01
import Derived.Test.YtofidnijfnhpaaaGreatDoorQ14
set_option linter.unusedSimpArgs false
set_option linter.unusedVariables false
set_option linter.unusedSectionVars false
set_option maxRecDepth 1000000
set_option maxHeartbeats 16000000
namespace Go.Proofs.YtofidnijfnhpaaaGreatDoor
namespace Ssf
open Go.Shelf Go.RowKit Go.Lib Go.Sort Stb
variable {α:Type} [Inhabited α] {enc:α->Value} {lt:α->α->Bool} {g:Nat} {lb:Array Value} {sf:Nat} {sb:Array Value} {blk off N:Nat} {w0 w W W' wB:World} {dk:Array α}
def Kp (blk:Nat) (w w':World):Prop:=w.heap.size<=w'.heap.size/\∀b o,b≠blk->b<w.heap.size->w'.cell? ⟨b,o,none⟩=w.cell? ⟨b,o,none⟩
omit [Inhabited α] in
theorem Kp.refl (blk:Nat) (w:World):Kp blk w w:=⟨Nat.le_refl _,fun _ _ _ _=>rfl⟩
theorem Kp.trans {blk:Nat} {a b c:World} (h:Kp blk a b) (j:Kp blk b c):Kp blk a c:=⟨Nat.le_trans h.1 j.1,fun x o hx hl=>(j.2 x o hx (Nat.lt_of_lt_of_le hl h.1)).trans (h.2 x o hx hl)⟩
theorem Kp.grown (blk:Nat) (w:World) (n:Nat) (os:Array Obj):Kp blk w (grow (w.drewN n) os):=⟨by rw[size_grow];show w.heap.size<=w.heap.size+_;omega,fun b o _ hl=>by rw[cell?_grow _ _ _ (by exact hl)];rfl⟩
theorem Kp.alloc (blk:Nat) (w:World) (o:Obj):Kp blk w (w.alloc o):=⟨by simp,fun b p _ hl=>World.cell?_alloc_past _ _ _ hl⟩
theorem Kp.set2 (blk:Nat) (w:World) (i j:Nat) (u v:Value):Kp blk w ((w.setCell ⟨blk,i,none⟩ u).setCell ⟨blk,j,none⟩ v):=⟨by simp,fun b o hb _=>by
 rw[World.cell?_setCell_other _ _ _ _ (by intro e;simp only[Addr.mk.injEq] at e;exact hb e.1.symm),World.cell?_setCell_other _ _ _ _ (by intro e;simp only[Addr.mk.injEq] at e;exact hb e.1.symm)]⟩
def LessLays (P:Program) (g:Nat) (lb:Array Value) (enc:α->Value) (lt:α->α->Bool) (blk off size:Nat) (w:World):Prop:=
 ∀(m:Nat) (os:Array Obj) (dk:Array α),dk.size=size->∀i j:Nat,i<size->j<size->
  Calls P g (#[.int .i64 i,.int .i64 j]++lb) (sortWorld enc w blk off m dk os) fun e w'=>e=.returned (.bool (lt dk[i]! dk[j]!))/\∃q os',w'=grow ((sortWorld enc w blk off m dk os).drewN q) os'
def SwapNe (P:Program) (sf:Nat) (sb:Array Value) (enc:α->Value) (blk off size:Nat):Prop:=
 ∀(W:World) (dk:Array α),Holds enc W blk off dk->dk.size=size->∀i j:Nat,i<size->j<size->i≠j->
  (callFunc sf (#[.int .i64 i,.int .i64 j]++sb)).run P W=.ok (.value (.tuple #[])) ((W.setCell ⟨blk,off+i,none⟩ (enc dk[j]!)).setCell ⟨blk,off+j,none⟩ (enc dk[i]!))
structure Dat (enc:α->Value) (lt:α->α->Bool) (g:Nat) (lb:Array Value) (sf:Nat) (sb:Array Value) (blk off N:Nat) (w0:World):Prop where
 eg:∀args w,(callFunc g args).run Tryz.prog w=.ok (.enter g args) w
 less:LessLays Tryz.prog g lb enc lt blk off N w0
 swap:SwapNe Tryz.prog sf sb enc blk off N
 holds:∃d0:Array α,d0.size=N/\Holds enc w0 blk off d0
 hblk:blk<w0.heap.size
 ord:Ord lt
 hsz:N<1152921504606846976
def SX (enc:α->Value) (w0:World) (blk off:Nat) (wB:World) (dk:Array α) (W:World):Prop:=SW enc w0 blk off dk W/\Kp blk wB W
structure BoxAt (g:Nat) (lb:Array Value) (sf:Nat) (sb:Array Value) (blk H:Nat) (wB:World):Prop where
 c0:wB.cell? ⟨H,0,none⟩=some (.func (.func g) #[] lb)
 c1:wB.cell? ⟨H,1,none⟩=some (.func (.func sf) #[] sb)
 lt:H<wB.heap.size
 ne:H≠blk
theorem SX.start (h:SW enc w0 blk off dk w) (o:Obj):SX enc w0 blk off (w.alloc o) dk (w.alloc o):=⟨h.alloc o,Kp.refl _ _⟩
theorem SX.on (h:SX enc w0 blk off wB dk W) (j:SX enc w0 blk off W dk W'):SX enc w0 blk off wB dk W':=⟨j.1,h.2.trans j.2⟩
theorem box_new (D:Dat enc lt g lb sf sb blk off N w0) (h:SW enc w0 blk off dk w):BoxAt g lb sf sb blk w.heap.size (w.alloc (.cells #[.func (.func g) #[] lb,.func (.func sf) #[] sb] 137)):=⟨by simp,by simp,by simp,by have:=h.le;have:=D.hblk;omega⟩
theorem SX.box {H:Nat} (h:SX enc w0 blk off wB dk W) (j:BoxAt g lb sf sb blk H wB):W.cell? ⟨H,0,none⟩=some (.func (.func g) #[] lb)/\W.cell? ⟨H,1,none⟩=some (.func (.func sf) #[] sb):=
 ⟨(h.2.2 H 0 j.ne j.lt).trans j.c0,(h.2.2 H 1 j.ne j.lt).trans j.c1⟩
theorem Dat.lessAt (D:Dat enc lt g lb sf sb blk off N w0) (h:SX enc w0 blk off wB dk W) (M:dk.size=N) (i j:Nat) (A o:Int) (J:i<N) (K:j<N) (B:A=(i:Int)) (z:o=(j:Int)) {x y:α} (I:dk[i]! =x) (O:dk[j]! =y):
 Calls Tryz.prog g (#[.int .i64 A,.int .i64 o]++lb) W fun e E=>e=.returned (.bool (lt x y))/\SX enc w0 blk off wB dk E:=by
 obtain⟨⟨n,os,rfl⟩,T⟩:=h
 subst B z I O
 refine(D.less n os dk M i j J K).mono ?_
 rintro e E ⟨rfl,q,F,rfl⟩
 exact⟨rfl,SW.grown ⟨n,os,rfl⟩ q F,T.trans (Kp.grown _ _ _ _)⟩
theorem Dat.swapAt (D:Dat enc lt g lb sf sb blk off N w0) (h:SX enc w0 blk off wB dk W) (q:dk.size=N) (i j:Nat) (y o:Int) (I:i<N) (J:j<N) (z:i≠j) (B:y=(i:Int)) (A:o=(j:Int)):
 ∃W',(callFunc sf (#[.int .i64 y,.int .i64 o]++sb)).run Tryz.prog W=.ok (.value (.tuple #[])) W'/\SX enc w0 blk off wB (swp dk i j) W':=by
 obtain⟨d0,E,F⟩:=D.holds
 subst B A
 exact⟨_,D.swap W dk (h.1.holds D.hblk F (q.trans E.symm)) q i j I J z,h.1.swap D.hblk i j (by omega) (by omega),h.2.trans (Kp.set2 _ _ _ _ _ _)⟩
theorem swapRange_f {enc:α->Value} {lt:α->α->Bool} {g:Nat} {F:Array Value} {I:Nat} {J:Array Value} {blk o N:Nat} {w0:World} (D:Dat enc lt g F I J blk o N w0) (a b n:Nat) (P X M Y S:List α) (w:World) (ac:(P++(X++(M++(Y++S)))).length=N) (ha:P.length=a) (hX:X.length=n) (hY:Y.length=n) (hb:b=a+n+M.length)
 (S0:SW enc w0 blk o (P++(X++(M++(Y++S)))).toArray w):
 Calls Tryz.prog 146 #[.agg #[.func (.func g) #[] F,.func (.func I) #[] J],.int .i64 a,.int .i64 b,.int .i64 n] w fun e w'=>e=.returned (.tuple #[])/\SX enc w0 blk o w (P++(Y++(M++(X++S)))).toArray w':=by
 have aa:=SX.start S0 (.cells #[.func (.func g) #[] F,.func (.func I) #[] J] 137)
 have ai:Aside (BoxAt g F I J blk w.heap.size (w.alloc (.cells #[.func (.func g) #[] F,.func (.func I) #[] J] 137))):=box_new D S0
 have KW:Aside (Kp blk w (w.alloc (.cells #[.func (.func g) #[] F,.func (.func I) #[] J] 137))):=Kp.alloc _ _ _
 have eg:=D.eg
 have hsz:=D.hsz
 have HD:Aside (Dat enc lt g F I J blk o N w0):=D
 obtain⟨wB,ag⟩:∃q,q=w.alloc (.cells #[.func (.func g) #[] F,.func (.func I) #[] J] 137):=⟨_,rfl⟩
 rw[<-ag] at aa ai KW
 have HS:Aside (SX enc w0 blk o wB (P++(X++(M++(Y++S)))).toArray wB):=aa
 have hlen':P.length+(X.length+(M.length+(Y.length+S.length)))=N:=by simpa using ac
 clear S0 aa ac D
 go_enter Tryz.func146,Tryz.ntmps146
 go_wp2
 rw[<-ag]
 clear ag
 go_loopg [8] n (fun g1 vi wr=>∃(i:Nat) (j V h O:List α),vi=.int .i64 i/\i<=n/\n-i<=g1/\X=j++V/\Y=h++O/\j.length=i/\h.length=i/\Aside (SX enc w0 blk o wB (P++(h++(V++(M++(j++(O++S)))))).toArray wr))
 case atStart=>exact⟨0,[],X,[],Y,rfl,by omega,by omega,rfl,rfl,rfl,rfl,HS⟩
 case round=>
  clear HS
  obtain⟨i,j,V,h,O,rfl,hi,hg,A,z,h1,h2,S1⟩:=hrel
  by_cases hlt:i<n
  ·have al:(i:Int)<(n:Int):=by omega
   have af:V.length=n-i:=by rw[A,List.length_append] at hX;omega
   have ad:O.length=n-i:=by rw[z,List.length_append] at hY;omega
   obtain⟨x,E,rfl⟩:∃x l,V=x::l:=by cases V with |nil=>simp at af;omega|cons x l=>exact⟨x,l,rfl⟩
   obtain⟨y,B,rfl⟩:∃x l,O=x::l:=by cases O with |nil=>simp at ad;omega|cons x l=>exact⟨x,l,rfl⟩
   simp only[List.length_cons] at af ad
   obtain⟨U,aq⟩:∃q,q=a+i:=⟨_,rfl⟩
   obtain⟨T,ax⟩:∃q,q=b+i:=⟨_,rfl⟩
   have ak:(P++(h++(x::E++(M++(j++(y::B++S)))))).toArray.size=N:=by simp;omega
   obtain⟨dk,K⟩:∃q,q=(P++(h++(x::E++(M++(j++(y::B++S)))))).toArray:=⟨_,rfl⟩
   have gx:dk[U]! =x:=by rw[K];have:=arr_at (P++h) (E++(M++(j++(y::B++S)))) x U (by simp;omega);simpa using this
   have gy:dk[T]! =y:=by rw[K];have:=arr_at (P++(h++(x::E++(M++j)))) (B++S) y T (by simp;omega);simpa using this
   have gs:swp dk U T=(P++((h++[y])++(E++(M++((j++[x])++(B++S)))))).toArray:=by rw[K];have:=swp_list (P++h) (E++(M++j)) (B++S) x y U T (by simp;omega) (by simp;omega);simpa using this
   rw[<-K] at S1 ak
   have pa:(0:Int)<=(a:Int)+(i:Int):=by omega
   have ba:(a:Int)+(i:Int)<(N:Int):=by omega
   have pc:(0:Int)<=(b:Int)+(i:Int):=by omega
   have bc:(b:Int)+(i:Int)<(N:Int):=by omega
   obtain⟨b0,b1⟩:=S1.out.box ai.out
   obtain⟨w3,hs,aj⟩:=HD.out.swapAt S1.out (by omega) U T ((a:Int)+(i:Int)) ((b:Int)+(i:Int)) (by omega) (by omega) (by omega) (by omega) (by omega)
   have S3:Aside (SX enc w0 blk o wB (swp dk U T) w3):=aj
   clear aj
   have GS:Aside (swp dk U T=(P++((h++[y])++(E++(M++((j++[x])++(B++S)))))).toArray):=gs
   have Z:Aside (X=j++x::E/\Y=h++y::B/\j.length=i/\h.length=i):=⟨A,z,h1,h2⟩
   have HB:Aside (b=a+n+M.length):=hb
   clear S1 gx gy gs K A z h1 h2 ak af ad aq ax hb ha hX hY hlen'
   go_wp2
   go_roundg (gk-1)
   case measure=>omega
   case rel=>exact⟨i+1,j++[x],E,h++[y],B,by go_num,by omega,by omega,by rw[Z.out.1];simp,by rw[Z.out.2.1];simp,by simp[Z.out.2.2.1],by simp[Z.out.2.2.2],by have:=S3.out;rw[GS.out] at this;exact this⟩
  ·have al:¬((i:Int)<(n:Int)):=by omega
   have aA:V=[]:=by rw[A,List.length_append] at hX;exact List.length_eq_zero_iff.1 (by omega)
   have ay:O=[]:=by rw[z,List.length_append] at hY;exact List.length_eq_zero_iff.1 (by omega)
   subst aA ay
   simp only[List.append_nil] at A z
   subst A z
   go_wp2
   go_end0
   refine⟨rfl,?_⟩
   have:=S1.out
   exact⟨by simpa using this.1,KW.out.trans this.2⟩
theorem rotate_f {enc:α->Value} {lt:α->α->Bool} {g:Nat} {Z:Array Value} {sf:Nat} {sb:Array Value} {blk o N:Nat} {w0:World} (D:Dat enc lt g Z sf sb blk o N w0) (a m b:Nat) (P X Y S:List α) (w:World) (ap:(P++(X++(Y++S))).length=N) (ha:P.length=a) (hX:X.length+a=m) (hY:Y.length+m=b) (aR:0<X.length) (aO:0<Y.length)
 (S0:SW enc w0 blk o (P++(X++(Y++S))).toArray w):
 Calls Tryz.prog 132 #[.agg #[.func (.func g) #[] Z,.func (.func sf) #[] sb],.int .i64 a,.int .i64 m,.int .i64 b] w fun e U=>e=.returned (.tuple #[])/\SX enc w0 blk o w (P++(Y++(X++S))).toArray U:=by
 have am:=SX.start S0 (.cells #[.func (.func g) #[] Z,.func (.func sf) #[] sb] 137)
 have aA:Aside (BoxAt g Z sf sb blk w.heap.size (w.alloc (.cells #[.func (.func g) #[] Z,.func (.func sf) #[] sb] 137))):=box_new D S0
 have KW:Aside (Kp blk w (w.alloc (.cells #[.func (.func g) #[] Z,.func (.func sf) #[] sb] 137))):=Kp.alloc _ _ _
 have eg:=D.eg
 have hsz:=D.hsz
 have HD:Aside (Dat enc lt g Z sf sb blk o N w0):=D
 obtain⟨wB,av⟩:∃q,q=w.alloc (.cells #[.func (.func g) #[] Z,.func (.func sf) #[] sb] 137):=⟨_,rfl⟩
 rw[<-av] at am aA KW
 have HS:Aside (SX enc w0 blk o wB (P++(X++(Y++S))).toArray wB):=am
 have hlen':P.length+(X.length+(Y.length+S.length))=N:=by simpa using ap
 have aq:Aside (∀(V:World) (p q k:Nat) (A B M C E:List α),(A++(B++(M++(C++E)))).length=N->A.length=p->B.length=k->C.length=k->q=p+k+M.length->SX enc w0 blk o wB (A++(B++(M++(C++E)))).toArray V->Calls Tryz.prog 146 #[.agg #[.func (.func g) #[] Z,.func (.func sf) #[] sb],.int .i64 p,.int .i64 q,.int .i64 k] V fun e U=>e=.returned (.tuple #[])/\SX enc w0 blk o wB (A++(C++(M++(B++E)))).toArray U):=
  fun V p q k A B M C E T K h3 F O J=>(swapRange_f D p q k A B M C E V T K h3 F O J.1).mono fun e U ⟨he,h7⟩=>⟨he,h7.1,J.2.trans h7.2⟩
 have aY:m<=N:=by omega
 have aU:b<=N:=by omega
 have aX:a<m:=by omega
 have aW:m<b:=by omega
 obtain⟨xl,aB⟩:∃q,q=X.length:=⟨_,rfl⟩
 obtain⟨yl,az⟩:∃q,q=Y.length:=⟨_,rfl⟩
 have aw:m=a+xl:=by omega
 have ax:b=m+yl:=by omega
 have HL:Aside (P.length=a/\X.length=xl/\Y.length=yl/\P.length+(X.length+(Y.length+S.length))=N):=⟨ha,aB.symm,az.symm,hlen'⟩
 have aG:0<xl:=by omega
 have aM:0<yl:=by omega
 have ay:Aside (m=a+xl/\b=m+yl):=⟨aw,ax⟩
 clear S0 am D ap hlen' ha hX hY aR aO aB az
 have e1:(m:Int)-(a:Int)=(xl:Int):=by omega
 have e2:(b:Int)-(m:Int)=(yl:Int):=by omega
 clear aw ax
 go_enter Tryz.func132,Tryz.ntmps132
 go_wp2
 rw[<-av]
 clear av
 go_loopg [8,9] (xl+yl) (fun g1 vi vj wr=>∃(i j:Nat) (h I z y:List α),vi=.int .i64 i/\vj=.int .i64 j/\0<i/\0<j/\i<=m/\m+j<=N/\i+j<=g1/\Aside (I.length=i/\z.length=j/\h.length+i=m/\(h++(I++(z++y))).length=N/\h++(z++(I++y))=P++(Y++(X++S))/\SX enc w0 blk o wB (h++(I++(z++y))).toArray wr))
 case atStart=>exact⟨xl,yl,P,X,Y,S,by first|rfl|(congr 1),by first|rfl|(congr 1),aG,aM,by omega,by have:=ay.out;omega,by omega,⟨HL.out.2.1,HL.out.2.2.1,by rw[HL.out.1];have:=ay.out;omega,by simpa using HL.out.2.2.2,rfl,HS.out⟩⟩
 case round=>
  clear HS HL
  obtain⟨i,j,h,I,z,y,rfl,rfl,aQ,aH,aK,aP,hg,H⟩:=hrel
  obtain⟨b0,b1⟩:=H.out.2.2.2.2.2.box aA.out
  by_cases hij:i=j
  ·subst hij
   go_wp2_with (go_at_call 146;fail)
   rw[show(m:Int)-(i:Int)=((m-i:Nat):Int) by omega]
   obtain⟨T,K,h3,F,O,J⟩:=H.out
   refine(aq.out wr (m-i) m i h I [] z y (by simpa using F) (by omega) T K (by simp;omega) (by simpa using J)).mono ?_
   rintro e U ⟨rfl,hS⟩
   rw[List.nil_append,O] at hS
   have HF:Aside _:=hS
   clear hS T K h3 F O J H
   go_wp2
   go_end0
   exact⟨rfl,HF.out.1,KW.out.trans HF.out.2⟩
  ·by_cases aV:j<i
   ·have hgt':(j:Int)<(i:Int):=by omega
    have aN:¬((i:Int)=(j:Int)):=by omega
    go_wp2_with (go_at_call 146;fail)
    rw[show(m:Int)-(i:Int)=((m-i:Nat):Int) by omega]
    obtain⟨T,K,h3,F,O,J⟩:=H.out
    obtain⟨X1,X2,rfl,ar⟩:=split_at I j (by omega)
    have aD:X2.length=i-j:=by rw[List.length_append] at T;omega
    refine(aq.out wr (m-i) m j h X1 X2 z y (by simpa using F) (by omega) ar K (by omega) (by simpa using J)).mono ?_
    rintro e U ⟨rfl,hS⟩
    have HF:Aside (X2.length=i-j/\X1.length=j/\(h++z).length+(i-j)=m/\((h++z)++(X2++(X1++y))).length=N/\(h++z)++(X1++(X2++y))=P++(Y++(X++S))/\SX enc w0 blk o wB ((h++z)++(X2++(X1++y))).toArray U):=⟨aD,ar,by rw[List.length_append];omega,by simp only[List.length_append] at F⊢;omega,by rw[<-O];simp,by simpa using hS⟩
    clear hS T K h3 F O J H ar aD
    go_wp2
    go_roundg (i+j-j)
    case measure=>omega
    case rel=>exact⟨i-j,j,h++z,X2,X1,y,by first|go_num|(congr 1;omega),rfl,by omega,aH,by omega,aP,by omega,HF⟩
   ·have hgt':¬(j:Int)<(i:Int):=by omega
    have aN:¬((i:Int)=(j:Int)):=by omega
    go_wp2_with (go_at_call 146;fail)
    rw[show(m:Int)-(i:Int)=((m-i:Nat):Int) by omega,show(m:Int)+(j:Int)-(i:Int)=((m+j-i:Nat):Int) by omega]
    obtain⟨T,K,h3,F,O,J⟩:=H.out
    obtain⟨Y1,Y2,rfl,aC⟩:=split_at z (j-i) (by omega)
    have au:Y2.length=i:=by rw[List.length_append] at K;omega
    refine(aq.out wr (m-i) (m+j-i) i h I Y1 Y2 y (by simpa using F) (by omega) T au (by omega) (by simpa using J)).mono ?_
    rintro e U ⟨rfl,hS⟩
    have HF:Aside (Y2.length=i/\Y1.length=j-i/\h.length+i=m/\(h++(Y2++(Y1++(I++y)))).length=N/\h++(Y1++(Y2++(I++y)))=P++(Y++(X++S))/\SX enc w0 blk o wB (h++(Y2++(Y1++(I++y)))).toArray U):=⟨au,aC,h3,by simp only[List.length_append] at F⊢;omega,by rw[<-O];simp,hS⟩
    clear hS T K h3 F O J H aC au
    go_wp2
    go_roundg (i+j-i)
    case measure=>omega
    case rel=>exact⟨i,j-i,h,Y2,Y1,I++y,rfl,by first|go_num|(congr 1;omega),aQ,by omega,aK,by omega,by omega,HF⟩
end Ssf
end Go.Proofs.YtofidnijfnhpaaaGreatDoor
namespace Go.Proofs.YtofidnijfnhpaaaGreatDoor
namespace Ssf
open Go.Shelf Go.RowKit Go.Lib Go.Sort Stb
variable {α:Type} [Inhabited α] {enc:α->Value} {lt:α->α->Bool} {g:Nat} {lb:Array Value} {sf:Nat} {sb:Array Value} {blk off N:Nat} {w0 w W W' wB:World} {dk:Array α}
theorem insertion_f {enc:α->Value} {lt:α->α->Bool} {g:Nat} {lb:Array Value} {sf:Nat} {sb:Array Value} {blk h N:Nat} {w0:World} (D:Dat enc lt g lb sf sb blk h N w0) (a b:Nat) (P M S:List α) (w:World) (ao:(P++(M++S)).length=N) (ha:P.length=a) (hb:b=a+M.length)
 (S0:SW enc w0 blk h (P++(M++S)).toArray w):
 Calls Tryz.prog 114 #[.agg #[.func (.func g) #[] lb,.func (.func sf) #[] sb],.int .i64 a,.int .i64 b] w fun e w'=>e=.returned (.tuple #[])/\∃M',Sorted lt M'/\Same lt M M'/\SX enc w0 blk h w (P++(M'++S)).toArray w':=by
 have al:=SX.start S0 (.cells #[.func (.func g) #[] lb,.func (.func sf) #[] sb] 137)
 have ak:Aside (BoxAt g lb sf sb blk w.heap.size (w.alloc (.cells #[.func (.func g) #[] lb,.func (.func sf) #[] sb] 137))):=box_new D S0
 have KW:Aside (Kp blk w (w.alloc (.cells #[.func (.func g) #[] lb,.func (.func sf) #[] sb] 137))):=Kp.alloc _ _ _
 have eg:=D.eg
 have hsz:=D.hsz
 have HD:Aside (Dat enc lt g lb sf sb blk h N w0):=D
 obtain⟨F,aq⟩:∃q,q=w.alloc (.cells #[.func (.func g) #[] lb,.func (.func sf) #[] sb] 137):=⟨_,rfl⟩
 rw[<-aq] at al ak KW
 have ho:=D.ord
 have hlen':P.length+(M.length+S.length)=N:=by simpa using ao
 have bm:b<=N:=by omega
 have bg:a<=b:=by omega
 have HS:Aside (∃A,Sorted lt A/\Same lt (M.take (a+1-a)) A/\SX enc w0 blk h F (P++(A++(M.drop (a+1-a)++S))).toArray F):=⟨M.take (a+1-a),sorted_short _ _ (by rw[List.length_take];omega),Same.refl _ _,by rw[<-List.append_assoc (M.take _),List.take_append_drop];exact al⟩
 have HL:Aside (P.length=a/\b=a+M.length/\P.length+(M.length+S.length)=N):=⟨ha,hb,hlen'⟩
 have ad:Aside (Ord lt):=ho
 clear S0 al D ao ha hb hlen' ho
 go_enter Tryz.func114,Tryz.ntmps114
 go_wp2
 rw[<-aq]
 clear aq
 go_loopg [6] (b-a) (fun g1 vi wr=>∃(i:Nat),vi=.int .i64 i/\a<i/\i<=b+1/\b+1-i<=g1+1/\Aside (∃A,Sorted lt A/\Same lt (M.take (i-a)) A/\SX enc w0 blk h F (P++(A++(M.drop (i-a)++S))).toArray wr))
 case atStart=>exact⟨a+1,by go_num,by omega,by omega,by omega,HS⟩
 case round=>
  clear HS
  obtain⟨i,rfl,bq,bf,bj,H1⟩:=hrel
  by_cases hlt:i<b
  ·have aE:(i:Int)<(b:Int):=by omega
   obtain⟨A,x,B,HA⟩:∃A x B,Aside (Sorted lt A/\Same lt (M.take (i-a)) A/\A.length=i-a/\M.take (i+1-a)=M.take (i-a)++[x]/\M.drop (i+1-a)=B/\P.length+(A.length+1+B.length+S.length)=N/\SX enc w0 blk h F (P++(A++x::([]++(B++S)))).toArray wr):=by
    obtain⟨A,h1,h2,h3⟩:=H1.out
    obtain⟨k1,k2,k3⟩:=HL.out
    have hk:i-a<M.length:=by omega
    have aA:A.length=i-a:=by rw[<-h2.len ad.out,List.length_take];omega
    refine⟨A,M[i-a],M.drop (i+1-a),h1,h2,aA,?_,rfl,?_,?_⟩
    ·rw[show i+1-a=i-a+1 by omega,List.take_succ_eq_append_getElem hk]
    ·rw[aA,List.length_drop];omega
    ·rw[List.drop_eq_getElem_cons hk,show i-a+1=i+1-a by omega] at h3
     simpa using h3
   clear H1
   go_wp2
   go_loopg [7] i (fun g2 vj wr2=>∃(j:Nat) (o C:List α),vj=.int .i64 j/\a<=j/\j<=i/\j<=g2/\Aside (A=o++C/\o.length=j-a/\(∀c∈C,lt x c=true)/\SX enc w0 blk h F (P++(o++x::(C++(B++S)))).toArray wr2))
   case atStart=>exact⟨i,A,[],rfl,by omega,Nat.le_refl _,Nat.le_refl _,by simp,HA.out.2.2.1,by simp,HA.out.2.2.2.2.2.2⟩
   case round=>
    obtain⟨j,o,C,rfl,bo,bk,bl,I⟩:=hrel
    have ay:Aside (∀V:World,(∀y∈o,lt x y=false)->SX enc w0 blk h F (P++(o++x::(C++(B++S)))).toArray V->∃A,Sorted lt A/\Same lt (M.take (i+1-a)) A/\SX enc w0 blk h F (P++(A++(M.drop (i+1-a)++S))).toArray V):=by
     intro V hy hV
     obtain⟨k1,k2,k3,k4,k5,k6,k7⟩:=HA.out
     obtain⟨q1,q2,q3,q4⟩:=I.out
     obtain⟨p1,p2⟩:=put_one ad.out (q1▸k1) q3 hy
     refine⟨o++x::C,p1,?_,by rw[k5];simpa using hV⟩
     rw[k4]
     exact((k2.app (Same.refl _ [x])).trans (by rw[q1];exact p2))
    by_cases hja:a<j
    ·have aC:(a:Int)<(j:Int):=by omega
     obtain⟨E,bp⟩:∃q,q+1=j:=⟨j-1,by omega⟩
     have bn:(j:Int)=(E:Int)+1:=by omega
     have ba:decide ((E:Int)+1>(a:Int))=true:=decide_eq_true (by omega)
     have hjaz':(a:Int)<(E:Int)+1:=by omega
     obtain⟨U,y,Z⟩:∃U y,Aside (o=U++[y]/\U.length=E-a):=by
      obtain⟨q1,q2,q3,q4⟩:=I.out
      have az:o≠[]:=by intro e;rw[e] at q2;simp at q2;omega
      exact⟨o.dropLast,o.getLast az,(List.dropLast_concat_getLast az).symm,by rw[List.length_dropLast];omega⟩
     obtain⟨O,J⟩:∃q,q=(P++(o++x::(C++(B++S)))).toArray:=⟨_,rfl⟩
     have bh:j<N:=by omega
     have bi:O.size=N:=by
      obtain⟨q1,q2,q3,q4⟩:=I.out
      obtain⟨k1,k2,k3,k4,k5,k6,k7⟩:=HA.out
      rw[J]
      rw[q1,List.length_append] at k6
      simp
      omega
     have gx:O[j]! =x:=by
      rw[J]
      have:=arr_at (P++o) (C++(B++S)) x j (by rw[List.length_append,HL.out.1,I.out.2.1];omega)
      simpa using this
     have gy:O[E]! =y:=by
      rw[J,Z.out.1]
      have:=arr_at (P++U) (x::(C++(B++S))) y E (by rw[List.length_append,HL.out.1,Z.out.2];omega)
      simpa using this
     have gs:swp O j E=(P++(U++x::((y::C)++(B++S)))).toArray:=by
      rw[J,Z.out.1]
      have:=swp_list' (P++U) [] (C++(B++S)) y x E j (by rw[List.length_append,HL.out.1,Z.out.2];omega) (by rw[List.length_append,HL.out.1,Z.out.2];simp;omega)
      simpa using this
     have SJ:Aside (SX enc w0 blk h F O wr):=by rw[J];exact I.out.2.2.2
     have GS:Aside (swp O j E=(P++(U++x::((y::C)++(B++S)))).toArray):=gs
     have a6:Aside (O=(P++(o++x::(C++(B++S)))).toArray):=J
     have ap:Aside (A=o++C/\∀c∈C,lt x c=true):=⟨I.out.1,I.out.2.2.1⟩
     clear gs J I
     obtain⟨b0,b1⟩:=SJ.out.box ak.out
     have K:=HD.out.lessAt SJ.out (by omega) j E ((E:Int)+1) ((E:Int)) (by omega) (by omega) (by omega) rfl gx gy
     cases hlv:lt x y with
     |true=>
      rw[hlv] at K
      have aj:Aside (lt x y=true):=hlv
      clear hlv gx gy
      go_wp2_with (go_at_fn g;refine K.mono ?_;rintro e w2 ⟨rfl,T⟩;have S2:Aside (SX enc w0 blk h F O w2):=T;obtain⟨b2,b3⟩:=T.box ak.out;clear T)
      obtain⟨w3,hs,ax⟩:=HD.out.swapAt S2.out (by omega) j E ((E:Int)+1) ((E:Int)) (by omega) (by omega) (by omega) (by omega) rfl
      have S3:Aside (SX enc w0 blk h F (swp O j E) w3):=ax
      clear ax S2 SJ K b0 b1
      rw[hs,Oper.upon_value]
      clear hs b2 b3
      go_wp2
      go_roundg (j-1)
      case measure=>omega
      case rel=>exact⟨j-1,U,y::C,by first|rfl|go_num|(congr 1;omega),by omega,by omega,Nat.le_refl _,by rw[ap.out.1,Z.out.1];simp,by rw[Z.out.2];omega,fun c K=>(by rcases List.mem_cons.1 K with rfl|K;exact aj.out;exact ap.out.2 c K),by have:=S3.out;rw[GS.out] at this;exact this⟩
     |false=>
      rw[hlv] at K
      have aj:Aside (lt x y=false):=hlv
      clear hlv gx gy
      go_wp2_with (go_at_fn g;refine K.mono ?_;rintro e w2 ⟨rfl,T⟩;have S2:Aside (SX enc w0 blk h F O w2):=T;clear T)
      clear K SJ b0 b1
      go_roundg (b-(i+1))
      case measure=>omega
      case rel=>
       refine⟨i+1,by go_num,by omega,by omega,by omega,ay.out _ ?_ (by have:=S2.out;rw[a6.out] at this;exact this)⟩
       intro z hz
       have aR:Sorted lt (U++[y]):=by
        have:=HA.out.1
        rw[ap.out.1,Z.out.1] at this
        exact(Sorted.app.1 this).1
       rw[Z.out.1] at hz
       exact ad.out.ntrans _ _ _ aj.out (sorted_last ad.out aR z hz)
    ·have aC:decide ((j:Int)>(a:Int))=false:=decide_eq_false (by omega)
     have hjaz':¬(a:Int)<(j:Int):=by omega
     have S2:Aside (SX enc w0 blk h F (P++(o++x::(C++(B++S)))).toArray wr):=I.out.2.2.2
     have aV:Aside (o=[]):=List.length_eq_zero_iff.1 (by rw[I.out.2.1];omega)
     clear I
     go_wp2
     go_roundg (b-(i+1))
     case measure=>omega
     case rel=>exact⟨i+1,by go_num,by omega,by omega,by omega,ay.out _ (by rw[aV.out];intro y hy;simp at hy) S2.out⟩
  ·have aE:¬(i:Int)<(b:Int):=by omega
   go_wp2
   go_end0
   obtain⟨A,h1,h2,h3⟩:=H1.out
   obtain⟨k1,k2,k3⟩:=HL.out
   rw[List.drop_eq_nil_of_le (by omega)] at h3
   rw[List.take_of_length_le (by omega)] at h2
   exact⟨rfl,A,h1,h2,by simpa using h3.1,KW.out.trans h3.2⟩
end Ssf
end Go.Proofs.YtofidnijfnhpaaaGreatDoor
