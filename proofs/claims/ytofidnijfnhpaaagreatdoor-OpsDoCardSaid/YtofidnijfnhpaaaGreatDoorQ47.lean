import Derived.Test.YtofidnijfnhpaaaGreatDoorQ01
import Derived.Test.YtofidnijfnhpaaaGreatDoorQ25
import Derived.Test.YtofidnijfnhpaaaGreatDoorQ44
import Derived.Test.YtofidnijfnhpaaaGreatDoorQ21
import Derived.Test.YtofidnijfnhpaaaGreatDoorQ45
import Derived.Test.YtofidnijfnhpaaaGreatDoorQ16
set_option linter.unusedSimpArgs false
set_option linter.unusedVariables false
set_option linter.unusedSectionVars false
set_option maxRecDepth 1000000
set_option maxHeartbeats 16000000
namespace Go.Proofs.YtofidnijfnhpaaaGreatDoor
open Go.RowKit Go.WideMaps Go.Maps
theorem QkU {R B:Nat} {wx z:World} (A:B<=wx.heap.size) (h:∀M W1,B=W1.heap.size->Keep2 R M W1 wx->Keep2 R M W1 z):∀k,k<B->k≠R->z.heap[k]? =wx.heap[k]?:=by
 intro k o q
 have j:({wx with heap:=wx.heap.extract 0 B}:World).heap.size=B:=by
  show(wx.heap.extract 0 B).size=B
  simp
  omega
 have y:Keep2 R R ({wx with heap:=wx.heap.extract 0 B}:World) wx:=⟨rfl,rfl,rfl,by rw[j];exact A,fun k o _ _=>by
  rw[j] at o
  show wx.heap[k]? =(wx.heap.extract 0 B)[k]?
  rw[Array.getElem?_extract]
  simp
  omega⟩
 have D:=h R _ j.symm y
 exact(D.block k (by rw[j];exact o) q q).trans (y.block k (by rw[j];exact o) q q).symm
theorem Qmg {w0 wx:World} (q R B:Nat) (rs:List (List Vl)) (v u:Value) (us:List Value) (r:List Vl) (D:wx.cell? ⟨q,0,none⟩=some (.slice (some ⟨R,0,none⟩) 1 1)) (h:OutH w0 B R 0 rs v us wx) (F:Qbk w0 u r) (j:rs.length<=100000) (z:B<=wx.heap.size) (A:q<B) (o:R<B) (y:q≠R):
 Calls Tryz.prog 31 #[.int .i64 0,u,.pointer (some ⟨q,0,none⟩)] wx fun e w'=>e=.returned (.tuple #[])/\∃v',OutH w0 B R 0 (rs++[r]) v' (us++[u]) w'/\(∀M W1,B=W1.heap.size->Keep2 R M W1 wx->Keep2 R M W1 w')/\∀k,k<B->k≠R->w'.heap[k]? =wx.heap[k]?:=by
 have E:=QiQ (w0:=w0) (wx:=wx) q R 1 0 B rs v u us r D (by decide) (by decide) h F j z A o y
 exact E.mono (fun e w' ⟨a,v',b,_,d⟩=>⟨a,v',b,d,QkU z d⟩)
theorem Qj2 {W:World} {o:Nat} (h:W.heap[o]? =some (.map #[] 0)):W.ownsMap Tryz.prog 9 (plainElem Tryz.prog 3) o 0 (.map []:DataW Unit):=by
 obtain⟨A,c,j,z,q,y⟩:=World.ownsMap_made (H:=Unit) W Tryz.prog 9 (plainElem Tryz.prog 3)
 have e:(W.alloc (.map #[] 0)).heap[W.heap.size]? =some (.map #[] 0):=by
  show(W.heap.push _)[W.heap.size]? =_
  simp
 rw[e] at j
 injection j with j
 injection j with j h1'
 subst j
 subst h1'
 exact⟨#[],0,h,z,q,y⟩
theorem Qj3 {W o:World} {j n:Nat} {D:DataW Unit} (h:W.ownsMap Tryz.prog 9 (plainElem Tryz.prog 3) j n D) (q:o.heap[j]? =W.heap[j]?):o.ownsMap Tryz.prog 9 (plainElem Tryz.prog 3) j n D:=by
 obtain⟨A,c,y,z⟩:=h
 exact⟨A,c,q.trans y,z⟩
theorem OutH.keptMap {w0 wr z:World} {B R i q n:Nat} {rs:List (List Vl)} {v:Value} {us:List Value} {D:DataW Unit} (h:OutH w0 B R i rs v us wr) (A:wr.ownsMap Tryz.prog 9 (plainElem Tryz.prog 3) q n D) (o:wr.grownBy z (some q)) (y:R<wr.heap.size) (j:R≠q):OutH w0 B R i rs v us z:=
 ⟨o.cell h.cell (fun e=>j (by injection e)),(o.frozen_far ⟨R,i,none⟩ y (fun e=>j (by injection e))).trans h.frz,h.own.kept o (Qce h.own A),h.us⟩
theorem Qj4 {rs:List (List Vl)} {k N:Nat} (h:rs.length<=N):(Qbs (rs.take k)).2.length<=N:=by
 have:=QfK (rs.take k)
 rw[List.length_take] at this
 omega
theorem QlT {w:World} {j:Jb} {ss:List ByteArray} (c:List Cl) {tA tB:Tb} {vcA vcB vrB:Value} (aq:j.code=6) {rs:List (List Vl)} (hM:rs.length<=100) (hE:Env w) (I:∀r∈rs,0<r.length/\r.length<=100/\∀x∈r,rvB x=true):Qco w j ss [c] tA tB vcA vcB vrB (rs) (fun e w'=>Qbf e w' w.heap.size (Qbl 6 [(Qbs rs).2]) [(c,(Qbs rs).2)]/\Below w.heap.size w w'):=by
 iterate 317 intro _
 intro jb gc cc A Bx q R mp vw v1 W E
 have e1:=E.jb0
 have e2:=E.jgc
 have e3:=E.gA
 have e4:=E.AR
 have e6:=E.BR
 have e5:R<q/\q<mp/\mp<W.heap.size:=by have h1:=E.mR;have h2:=E.qR;have h3:=E.WR;omega
 obtain⟨e5,e7,e8⟩:=e5
 have e9:=E.bel.size
 have k1:W.cell? ⟨jb,1,none⟩=some (.int .i64 6):=(E.job 1 (.int .i64 j.code) rfl).trans (by rw[aq])
 have a1:=E.a1
 obtain⟨sa,bC,rfl,-⟩:=E.src
 have HL:=Hk E
 obtain⟨r0,rf⟩:=E.rows 0 (by simp)
 have ar:=Qj2 E.map
 clear E
 obtain⟨M,ay⟩:∃M,rs.length=M:=⟨_,rfl⟩
 have aA:=Hk ay
 rw[ay] at a1 hM
 have bj:=Hk (show∀x∈[(Qbs rs).2],x.length<=100000 from fun x hx=>by simp at hx;rw[hx];have:=QfK rs;omega)
 have bb:=Hk (Ai hE I)
 clear ay hE I
 have bm:=Hk ar
 clear ar
 conv=>arg 2;whnf
 go_wp2
 go_loopw [111] (fun i wr=>∃(k n:Nat) (D:DataW Unit) (v:Value) (us:List Value),k<=M/\i=.int .i64 k/\n<=k/\wr.ownsMap Tryz.prog 9 (plainElem Tryz.prog 3) mp n D/\Met D k (Qbs (rs.take k)).1/\OutH w W.heap.size R 0 (Qbs (rs.take k)).2 v us wr/\Keep2 R mp W wr) (fun i _=>M-(intOf i).toNat)
 case atStart=>exact⟨0,0,.map [],.slice none 0 0,[],Nat.zero_le _,rfl,Nat.le_refl _,bm.out,fun t=>⟨0,rfl,by omega,by omega,by simp[Qbs]⟩,⟨r0,rf,World.ownsRow_nil _ _ _ _,QeZ.nil _⟩,Keep2.refl _ _ _⟩
 case round=>
  obtain⟨k,n,D,v,us,hk,rfl,bA,ae,ah,hO,hK⟩:=hrel
  have au:=(HL.out.keep hK).1
  have k1':wr.cell? ⟨jb,1,none⟩=some (.int .i64 6):=((HL.out.keep hK).2.1 1 (.int .i64 j.code) rfl).trans (by rw[aq])
  have q0':=(HL.out.keep hK).2.2.2.2.2.1
  have hsz:=hK.size
  by_cases hlt:k<M
  ·have bs:(k:Int)<(M:Int):=by omega
   have aC:k<rs.length:=by have:=aA.out;omega
   obtain⟨hE,I⟩:=bb.out
   obtain⟨aY,ad,aJ⟩:=I rs[k] (List.getElem_mem aC)
   obtain⟨b,o,u,rfl,x0,aG⟩:=HL.out.row hK k aC
   have ba:=Hk aG
   obtain⟨rb,ro,rc,rfl,bd,aR,a8⟩:=QeS aG aY
   have HT:=Hk (fun(V:World) (J:Below w.heap.size w V)=>Qhp rb ro rs[k].length rc rs[k] V rfl (by have:=J.size;omega) (aR.below J bd) ad aJ (hE.below J))
   have bi:=QgA ad aJ
   have ab:keyOf Tryz.prog 9 (.string ⟨(Qbb rs[k]).toArray⟩)=some (.string (Qbb rs[k])):=keyOf_string_mk Tryz.underlying9 (by show(Qbb rs[k]).toArray.size<=_;rw[List.size_toArray];unfold maxLen;omega)
   obtain⟨ct,aI,aU,aP,O⟩:=ah (Qbb rs[k])
   have aw:=Qgz rs k aC
   have bl:=Hk (Qj4 (k:=k) (show rs.length<=100000 by have:=aA.out;omega))
   have U:=Hk (Ai ae (Ai ah (Ai hO (Ai hK q0'))))
   have HA:=Hk aI
   have aQ:=fun V (J:Below wr.heap.size wr V)=>(Qbn U.out.1 J).lookup_int Qi7 Tryz.underlying58 Tryz.underlying3 (Qhm V) ab
   have hD:IsMap D:=ae.isMap
   have aX:=Hk au
   generalize rs[k]=r at*
   generalize Qbs (rs.take k)=dk at*
   have aW:=Hk (show∀(c1:Int),D.atKey (.string (Qbb r)) (.lit (.int .i64 0))=.lit (.int .i64 c1)->c1=ct from fun c1 h=>by rw[HA.out] at h;injection h with h;injection h with _ h;exact h.symm)
   have aZ:=Hk aQ
   have ap:=Hk hD
   have bn:(k:Int)<=100:=by omega
   have bD:R<wr.heap.size:=by omega
   clear aQ hD aI ah ae hO hK hE I aG aR a8 bi aY ad aJ au q0'
   cases hs:dk.1.contains (Qbb r)
   ·obtain rfl:ct=0:=O.2 hs
    have aj:=Hk (show Qbs (rs.take (k+1))=(dk.1++[Qbb r],dk.2++[r]) by rw[aw,QbV,if_neg (by rw[hs];decide)])
    have HS:=Hk hs
    clear aw hs O
    go_wp2_with (first|(go_at_call 36;refine(HT.out _ aX.out).mono ?_;rintro e w1 ⟨rfl,z⟩;obtain⟨c1,aO,Z,-⟩:=aZ.out w1 z;obtain rfl:=aW.out c1 Z;clear Z;have HM:=Hk (Qbn U.out.1 z))|(at_mapUpdate;refine wpList_mapUpdate_own _ rfl _ _ _ 58 rfl 9 3 Qi7 Tryz.underlying58 _ mp n D rfl HM.out (by unfold maxLen;omega) _ _ (.string (Qbb r)) rfl rfl ab _ [] (plainElem_int Tryz.underlying3 (QgB (by omega) (by omega))) ?_))
    intro N B y
    have bc:=z.size
    have a9:=y.size
    have ak:=U.out.2.2.1.below z
    have ai:=ak.keptMap HM.out y (by omega) (by omega)
    have aa:=(U.out.2.2.2.1.below z).grown y (fun k hk=>by injection hk with hk;omega)
    have q2:N.cell? ⟨q,0,none⟩=some (.slice (some ⟨R,0,none⟩) 1 1):=y.cell (cK z (by omega) U.out.2.2.2.2) (fun e=>by injection e with e;have e:q=mp:=e;omega)
    have az:=Hk (show Below w.heap.size w N from(HL.out.keep aa).1)
    have am:=Hk (fun V (J:Below N.heap.size N V)=>(Qbn B J).lookup_int Qi7 Tryz.underlying58 Tryz.underlying3 (Qhm V) ab)
    have aB:=Hk (fun(c1:Int) (h:(D.put (.string (Qbb r)) (.lit (.int .i64 (0+1)))).atKey (.string (Qbb r)) (.lit (.int .i64 0))=.lit (.int .i64 c1))=>show c1=0+1 from by rw[atKey_put_same ap.out (by trivial)] at h;injection h with h;injection h with _ h;exact h.symm)
    clear ak
    have ao:=Hk (Qdu (o:=dk.1++[Qbb r]) ap.out U.out.2.1 HA.out aU aP (by simp) (fun t ht=>by simp[ht]))
    have av:=Hk (fun(V:World) (J:Below N.heap.size N V)=>Qmg (w0:=w) (wx:=V) q R W.heap.size dk.2 v _ us r (cK J (by omega) q2) (ai.below J) ba.out bl.out (by have:=J.size;omega) (by omega) (by omega) (by omega))
    have K:=Hk (Ai aa B)
    generalize r.length=un at*
    clear B y aa ai q2
    go_wp2_with (first|(go_at_call 36;refine(HT.out _ az.out).mono ?_;rintro e w3 ⟨rfl,F⟩;obtain⟨c3,aN,T,-⟩:=am.out w3 F;obtain rfl:=aB.out c3 T;clear T)|(go_at_call 31;refine(av.out _ F).mono ?_;rintro e w4 ⟨rfl,v',aV,aS,aE⟩)|(go_at_fn 31;refine(av.out _ F).mono ?_;rintro e w4 ⟨rfl,v',aV,aS,aE⟩))
    go_roundw
    case rel=>exact⟨k+1,n+1,_,v',us++[_],by omega,by go_num,by omega,Qj3 (Qbn K.out.2 F) (aE mp (by omega) (by omega)),by rw[aj.out];exact ao.out,by rw[aj.out];exact aV,aS mp W rfl (K.out.1.below F)⟩
    case measure=>simp[intOf];omega
   ·have bo:ct≠0:=fun h=>by rw[O.1 h] at hs;cases hs
    have bB:(ct+1==1)=false:=by
     have:ct+1≠1:=by omega
     simpa using this
    have aj:=Hk (show Qbs (rs.take (k+1))=dk by rw[aw,QbV,if_pos hs])
    have HS:=Hk hs
    clear aw hs O
    go_wp2_with (first|(go_at_call 36;refine(HT.out _ aX.out).mono ?_;rintro e w1 ⟨rfl,z⟩;obtain⟨c1,aO,Z,-⟩:=aZ.out w1 z;obtain rfl:ct=c1:=(aW.out c1 Z).symm;clear Z;have HM:=Hk (Qbn U.out.1 z))|(at_mapUpdate;refine wpList_mapUpdate_own _ rfl _ _ _ 58 rfl 9 3 Qi7 Tryz.underlying58 _ mp n D rfl HM.out (by unfold maxLen;omega) _ _ (.string (Qbb r)) rfl rfl ab _ [] (plainElem_int Tryz.underlying3 (QgB (by omega) (by omega))) ?_))
    intro N B y
    have bc:=z.size
    have a9:=y.size
    have ak:=U.out.2.2.1.below z
    have ai:=ak.keptMap HM.out y (by omega) (by omega)
    have aa:=(U.out.2.2.2.1.below z).grown y (fun k hk=>by injection hk with hk;omega)
    have q2:N.cell? ⟨q,0,none⟩=some (.slice (some ⟨R,0,none⟩) 1 1):=y.cell (cK z (by omega) U.out.2.2.2.2) (fun e=>by injection e with e;have e:q=mp:=e;omega)
    have az:=Hk (show Below w.heap.size w N from(HL.out.keep aa).1)
    have am:=Hk (fun V (J:Below N.heap.size N V)=>(Qbn B J).lookup_int Qi7 Tryz.underlying58 Tryz.underlying3 (Qhm V) ab)
    have aB:=Hk (fun(c1:Int) (h:(D.put (.string (Qbb r)) (.lit (.int .i64 (ct+1)))).atKey (.string (Qbb r)) (.lit (.int .i64 0))=.lit (.int .i64 c1))=>show c1=ct+1 from by rw[atKey_put_same ap.out (by trivial)] at h;injection h with h;injection h with _ h;exact h.symm)
    clear ak
    have ao:=Hk (Qdu ap.out U.out.2.1 HA.out aU aP HS.out (fun t _=>rfl))
    have K:=Hk (Ai aa (Ai B ai))
    clear B y aa ai q2
    go_wp2_with (go_at_call 36;refine(HT.out _ az.out).mono ?_;rintro e w3 ⟨rfl,F⟩;obtain⟨c3,aN,T,-⟩:=am.out w3 F;obtain rfl:ct+1=c3:=(aB.out c3 T).symm;clear T)
    go_roundw
    case rel=>exact⟨k+1,n+1,_,v,us,by omega,by go_num,by omega,Qbn K.out.2.1 F,by rw[aj.out];exact ao.out,by rw[aj.out];exact K.out.2.2.below F,K.out.1.below F⟩
    case measure=>simp[intOf];omega
  ·obtain rfl:M=k:=by omega
   rw[<-aA.out,List.take_length] at hO
   clear ae ah
   go_upto_region 69 with fail
   rename_i K2 aT
   have bf:=Hk aT
   clear aT
   go_wp2
   refine bf.out _ _ ?_
   refine Qcn jb gc cc q R 1 6 [c] [(Qbs rs).2] wr (fun e w'=>Qbf e w' w.heap.size (Qbl 6 [(Qbs rs).2]) [(c,(Qbs rs).2)]/\Below w.heap.size w w') ?_ ?_ ?_ ?_ ?_ ?_ ?_ ?_ ?_ ?_ ?_ ?_
   ·rfl
   ·rfl
   ·decide
   ·decide
   ·exact(by decide)
   ·exact k1'
   ·exact q0'
   ·exact(HL.out.keep hK).2.2.2.2.2.2.1
   ·exact(HL.out.keep hK).2.2.2.2.2.2.2
   ·exact(QfW hO au)
   ·exact bj.out
   ·exact(Qbf.fin au)
theorem LpAt.wh1 {w W:World} {j:Jb} {ss:List ByteArray} {css:List (List Cl)} {tA tB:Tb} {K N A M q R o:Nat} {z vcA I vcB vrB:Value} {rs:List (List Vl)} (h:LpAt w j ss css tA tB K N A M q R o z vcA I vcB vrB rs W) {x y:ByteArray} (E:ss=[x,y]) {p:Nat} (J:Qak tA.1 x.data.toList=some p):∃g c,z=.slice (some ⟨g,0,none⟩) 2 c/\g<W.heap.size/\g≠R/\g≠o/\W.cell? ⟨g,0,none⟩=some (.int .i64 p):=by
 subst E
 obtain⟨B,hA,hB,O,T⟩:=h.wher
 obtain⟨g,c,rfl,Z,U,F⟩:=QaY O (by simp)
 have V:=T g rfl
 have h6:=h.mR
 have D:W.cell? ⟨g,0+0,none⟩=some (.int .i64 (Qaq tA.1 x.data.toList)):=F 0 _ rfl
 rw[Qaw J] at D
 exact⟨g,c,rfl,U,by omega,by omega,by simpa using D⟩
theorem Qj5 (x y:List Vl) (k:Nat):([]++Qai x)++Qai (y.take k)++Qai (y.drop (k+1))=Qai (Qb0 x y k):=by
 unfold Qb0;rw[Qck,Qck];simp
theorem QlU {w:World} {j:Jb} {ss:List ByteArray} (c:List Cl) {tA tB:Tb} {vcA vcB vrB:Value} (aE:j.code=7) {rs:List (List Vl)} (hM:rs.length<=100) (a4:tB.2.length<=100) (x y:ByteArray) (bD:ss=[x,y]) (hN:Qc5 w j.cols x y) (p B:Nat) (hx:Qak tA.1 x.data.toList=some p) (hy:Qak tB.1 y.data.toList=some B) (cC:tA.1.length<=50) (co:tB.1.length<=50) (aN:∀r∈rs,r.length=tA.1.length) (aY:∀r∈tB.2,r.length=tB.1.length) (bh:QcS w vrB tB.2):Qco w j ss [c] tA tB vcA vcB vrB (rs) (fun e w'=>Qbf e w' w.heap.size (Qbl 7 [(Qbr rs tB.2 p B)]) [(c,(Qbr rs tB.2 p B))]/\Below w.heap.size w w'):=by
 iterate 317 intro _
 intro jb gc cc A Bx q R mp vw v1 W F
 have e1:=F.jb0
 have e2:=F.jgc
 have e3:=F.gA
 have e4:=F.AR
 have e6:=F.BR
 have e5:R<q/\q<mp/\mp<W.heap.size:=by have h1:=F.mR;have h2:=F.qR;have h3:=F.WR;omega
 obtain⟨e5,e7,e8⟩:=e5
 have e9:=F.bel.size
 have k1:W.cell? ⟨jb,1,none⟩=some (.int .i64 7):=(F.job 1 (.int .i64 j.code) rfl).trans (by rw[aE])
 have a1:=F.a1
 obtain⟨sa,c9,rfl,-⟩:=F.src
 have N:=Hk F
 obtain⟨i0,az,ba,aO,aS⟩:=info_parts Tryz.infoVal
 have av:=Qaj hx
 have ao:=Qaj hy
 obtain⟨r0,rf⟩:=F.rows 0 (by simp)
 obtain⟨g,wc,rfl,cv,b8,cf,cj⟩:=F.wh1 bD hx
 have k4:W.cell? ⟨jb,4,none⟩=some j.cols:=F.job 4 _ rfl
 obtain⟨nb,no,nc,bk,bU,-,s1⟩:=hN
 rw[bk] at k4
 have aX:=fun V (I:Below w.heap.size w V)=>QfO vcB tB.1 y V (F.colsB.below I) (by omega)
 rw[show Qaq tB.1 y.data.toList=(B:Int) from Qaw hy] at aX
 have bx:=Hk bh
 obtain⟨ab,cb,rfl,-⟩:=bh
 clear F bk
 obtain⟨M,aL⟩:∃M,rs.length=M:=⟨_,rfl⟩
 have bm:=Hk aL
 rw[aL] at a1 hM
 have cu:=Hk (show∀x∈[Qbr rs tB.2 p B],x.length<=100000 from fun x hx=>by
  simp at hx
  rw[hx]
  have h1:=QeC rs tB.2 p B
  have h2:rs.length*tB.2.length<=100*100:=Nat.mul_le_mul (by omega) a4
  omega)
 obtain⟨n1,bf⟩:∃z,tA.1.length=z:=⟨_,rfl⟩
 obtain⟨n2,bj⟩:∃z,tB.1.length=z:=⟨_,rfl⟩
 rw[bf] at cC aN av
 rw[bj] at co aY ao
 obtain⟨N2,aQ⟩:∃z,tB.2.length=z:=⟨_,rfl⟩
 have aD:=Hk aQ
 rw[aQ] at a4
 have HT:=Hk (Ai aX (Ai aN (Ai aY s1)))
 have cZ:1<=n1:=by omega
 have bM:1<=n2:=by omega
 clear aL aX aN aY s1 hx hy bf bj aQ bD
 conv=>arg 2;whnf
 go_wp2
 go_loopw [111] (fun i wr=>∃(k:Nat) (v:Value) (us:List Value),k<=M/\i=.int .i64 k/\OutO W.heap.size R 0 (Qbr (rs.take k) tB.2 p B) v us wr/\Keep2 R mp W wr) (fun i _=>M-(intOf i).toNat)
 case atStart=>exact⟨0,.slice none 0 0,[],Nat.zero_le _,rfl,⟨r0,rf,World.ownsRow_nil _ _ _ _,Qac.nil _ _⟩,Keep2.refl _ _ _⟩
 case round=>
  obtain⟨k,v,us,hk,rfl,hO,D⟩:=hrel
  have E:=(N.out.keep D).1
  have k1':wr.cell? ⟨jb,1,none⟩=some (.int .i64 7):=((N.out.keep D).2.1 1 (.int .i64 j.code) rfl).trans (by rw[aE])
  have U:=(N.out.keep D).2.2.2.2.2.1
  have hsz:=D.size
  by_cases hlt:k<M
  ·have cH:(k:Int)<(M:Int):=by omega
   have aT:k<rs.length:=by have:=bm.out;omega
   have bB:=HT.out.2.1 rs[k] (List.getElem_mem aT)
   obtain⟨b,o,u,rfl,x0,bt⟩:=N.out.row D k aT
   obtain⟨rb,ro,rc,rfl,bW,aC,a9⟩:=QeS bt (by omega)
   have b4:=Hk (Qff rs tB.2 p B k aT)
   have bv:=Hk (QeC (rs.take k) tB.2 p B)
   have bg:(rs.take k).length<=100:=by rw[List.length_take];omega
   generalize rs[k]=r at*
   generalize rs.take k=rsk at*
   have de:(Qbr rsk tB.2 p B).length<=10000:=by
    have h1:=bv.out
    have h2:rsk.length*tB.2.length<=100*100:=Nat.mul_le_mul bg (by rw[aD.out];exact a4)
    omega
   generalize Qbr rsk tB.2 p B=J at*
   rw[bB] at x0
   have HR:=Hk (Ai bB (Ai aC (Ai a9 bW)))
   have b0':=cell_regrown (N.out.keep D).2.2.2.1
   have aH:=(N.out.keep D).2.2.2.2.1
   have k4':=cell_regrown ((D.cell (p:=⟨jb,4,none⟩) (show jb<_ by omega) (show jb≠R by omega) (show jb≠mp by omega)).trans k4)
   have s1':=cell_regrown (cK E bU HT.out.2.2.2)
   have C1:∀d os,_:=fun d os=>Calls.regrown_of (HT.out.1 (Sort.grow (redrawn wr d) os) (Qaa E (below_regrown _ _ _)))
   have HO:=Hk (Ai hO (Ai D (Ai E (Ai U aH))))
   have df:=D.size
   clear hO D bt aC a9 E U bv bg aH hsz
   go_wp2
   refine wp_region_quiet_below (by kernel_rfl) (by kernel_rfl) ?_
   repeat(any_goals(first|go_big_quiet_step (exact C1 _ _)|quiet_step (exact C1 _ _)))
   refine wpQuiet_nil ?_
   intro _ bQ
   obtain⟨⟨dq,bq⟩,bF⟩:=bQ
   subst bF
   have aR:=below_regrown wr dq bq
   obtain⟨hO,D,E,U,aH⟩:=HO.out
   have bo:=hO.below aR
   have aM:=D.below aR
   have b5:=(N.out.keep aM).2.2.2.2.1
   rw[aD.out] at b5
   have H5:=Hk (Ai bo aM)
   clear b0' aH k4' s1' C1 HO hO D E U aR bo aM x0 k1'
   generalize Sort.grow (redrawn wr dq) bq=W5 at*
   go_wp2
   go_loopw [211] (fun i wr2=>∃(t:Nat) (v:Value) (us:List Value),t<=N2/\i=.int .i64 t/\OutO W.heap.size R 0 (J++Qb4 r (tB.2.take t) p B) v us wr2/\Keep2 R mp W wr2) (fun i _=>N2-(intOf i).toNat)
   case atStart=>exact⟨0,v,us,Nat.zero_le _,rfl,by simpa [Qb4] using H5.out.1,H5.out.2⟩
   case round=>
    obtain⟨t,v2,aw,ht,rfl,hO,D⟩:=hrel
    have E:=(N.out.keep D).1
    have cV:=D.size
    have U:=(N.out.keep D).2.2.2.2.2.1
    by_cases ct:t<N2
    ·have cI:(t:Int)<(N2:Int):=by omega
     have htl':t<tB.2.length:=by rw[aD.out];exact ct
     obtain⟨b2,o2,c2,yb,yo,yc,bu,bI,bl,da,bC,aA⟩:=QfH bx.out htl' (HT.out.2.2.1 _ (List.getElem_mem htl')) bM
     simp only[Value.slice.injEq] at bu
     obtain⟨rfl,-,rfl⟩:=bu
     have hyu':=cK E bI bl
     have T:=Hk (HT.out.2.2.1 _ (List.getElem_mem htl'))
     have bi:=Hk (Qfe r tB.2 p B t htl')
     have cz:Hid (∀z∈tB.2[t],z.2.2.size<=maxLen):=by
      obtain⟨_,_,_,h⟩:=bx.out
      rcases h with h|⟨_,_,_,_,aC⟩
      ·rw[h] at htl';simp at htl'
      ·obtain⟨_,_,_,_,_,_,hs,_⟩:=aC t htl'
       exact Hk hs
     have cm:=Hk (QeB r (tB.2.take t) p B)
     have dg:(Qb4 r (tB.2.take t) p B).length<=100:=by have:=cm.out;rw[List.length_take] at this;omega
     generalize tB.2[t]=ys at*
     obtain⟨e0,bz,bs⟩:=(HR.out.2.1.below E HR.out.2.2.2) p (by rw[HR.out.1];exact av)
     obtain⟨f0,f1,f2⟩:=(aA.below E bC) B (by rw[T.out];exact ao)
     have cp:wr.cell? ⟨g,0,none⟩=some (.int .i64 p):=(D.cell (p:=⟨g,0,none⟩) cv b8 cf).trans cj
     have HV:=Hk (show vAt r p=r[p]'(by rw[HR.out.1];exact av) from QbB _)
     have br:=Hk (show vAt ys B=ys[B]'(by rw[T.out];exact ao) from QbB _)
     have HY:=Hk (Ai aA bC)
     obtain⟨a,aP⟩:∃a,r[p]'(by rw[HR.out.1];exact av)=a:=⟨_,rfl⟩
     obtain⟨Z,aV⟩:∃b,ys[B]'(by rw[T.out];exact ao)=b:=⟨_,rfl⟩
     rw[aP] at e0 bz bs
     rw[aV] at f0 f1 f2
     have bw:=Hk (show(vAt r p=vAt ys B↔a=Z) by rw[HV.out,br.out,aP,aV])
     have HO:=Hk (Ai hO (Ai D (Ai E U)))
     have am:Aside (a≠Z->Qb4 r (tB.2.take (t+1)) p B=Qb4 r (tB.2.take t) p B):=fun hne=>by rw[bi.out,if_neg (fun h=>hne (bw.out.1 h))];simp
     have db:=Hk av
     have cW:(p:Int)<(n1:Int):=by omega
     have dd:(B:Int)<(n2:Int):=by omega
     generalize b6:Qb4 r (tB.2.take t) p B=Kj at*
     clear aA aP aV hO D E U HV br b6 bl
     by_cases d0:a.1=Z.1
     ·by_cases d1:a.2.1=Z.2.1
      ·by_cases d2:a.2.2.toList=Z.2.2.toList
       ·have bp:a=Z:=Prod.ext d0 (Prod.ext d1 (QbS d2))
        have cy:=Hk (show Qb4 r (tB.2.take (t+1)) p B=Kj++[Qb0 r ys B] by rw[bi.out,if_pos (bw.out.2 bp)])
        subst bp
        clear d0 d1 d2 am
        go_wp2
        go_quiet (fail)
        have bA:=HO.out.1.below (below_drewN (Below.refl _ _) nq)
        have al:=HO.out.2.1.below (below_drewN (Below.refl wr.heap.size wr) nq)
        generalize wr.drewN nq=wd at*
        have cd:=al.size
        have HD:=Hk (Ai bA al)
        have cw:=Hk (fun V (I:Below wd.heap.size wd V)=>QbX (HR.out.2.1.below (Qaa (N.out.keep al).1 I) HR.out.2.2.2))
        have cA:=Hk (fun V (I:Below wd.heap.size wd V)=>QbX ((HY.out.1.below (Qaa (N.out.keep al).1 I) HY.out.2).take B))
        have bn:=Hk (show∃o3,(if yc=B+1 then some (⟨yb,yo,none⟩:Addr) else some ⟨yb,yo+(B+1)*3,none⟩)=some ⟨yb,o3,none⟩/\(o3=yo+(B+1)*3\/ys.length=B+1) by
         by_cases h:yc=B+1
         ·rw[if_pos h];exact⟨yo,rfl,Or.inr (by have:=T.out;omega)⟩
         ·rw[if_neg h];exact⟨_,rfl,Or.inl rfl⟩)
        have bV:=Hk (fun V (I:Below wd.heap.size wd V)=>QbX ((HY.out.1.below (Qaa (N.out.keep al).1 I) HY.out.2).drop (B+1)))
        have g1:(B:Int)<=(yc:Int):=by omega
        have g2:(B:Int)+1<=(n2:Int):=by omega
        have g3:(n2:Int)<=(yc:Int):=by omega
        have g4:(0:Int)<=(B:Int):=by omega
        have g5:(0:Int)<=(B:Int)+1:=by omega
        have g6:IntKind.i64.wrap ((B:Int)+1)=(B:Int)+1:=by rw[IntKind.wrap_i64];omega
        have g7:(B:Int)+1<=(yc:Int):=by omega
        have g8:((B:Int)+1).toNat=B+1:=by omega
        obtain⟨P3,cB⟩:∃z,(if yc=B+1 then some (⟨yb,yo,none⟩:Addr) else some ⟨yb,yo+(B+1)*3,none⟩)=z:=⟨_,rfl⟩
        rw[cB] at bn
        clear bA al e0 bz bs f0 f1 f2 cp hyu'
        go_upto_region 62 with fail
        rename_i K2 ar
        have aW:=Hk ar
        clear ar
        refine wp_region_held_drew (S:=fun _=>True) (by kernel_rfl) trivial (fun hH=>?_)
        refine wpAnyH_take (i:=0) (v:=.func (.func 31) #[] #[.pointer (some ⟨q,0,none⟩)]) rfl (by kernel_rfl) (by kernel_rfl) (by kernel_rfl) (fun _ _ _ h=>h) (Or.inl ⟨by rfl,?_⟩) (by assumption) ?_
        ·intro V I
         go_simp
        simp only[List.getElem_toArray,List.getElem_cons_zero,List.getElem_cons_succ,Act.put,List.setIfInBounds_toArray,List.set_cons_zero,List.set_cons_succ]
        refine wpAnyH_take (i:=2) (v:=.slice (some ⟨rb,ro,none⟩) n1 rc) rfl (by kernel_rfl) (by kernel_rfl) (by kernel_rfl) (fun _ _ _ h=>h) (Or.inl ⟨by rfl,?_⟩) (by assumption) ?_
        ·intro V I
         go_simp
        simp only[List.getElem_toArray,List.getElem_cons_zero,List.getElem_cons_succ,Act.put,List.setIfInBounds_toArray,List.set_cons_zero,List.set_cons_succ]
        refine wpAnyH_take (i:=4) (v:=.slice (some ⟨yb,yo,none⟩) n2 yc) rfl (by kernel_rfl) (by kernel_rfl) (by kernel_rfl) (fun _ _ _ h=>h) (Or.inl ⟨by rfl,?_⟩) (by assumption) ?_
        ·intro V I
         go_simp
        simp only[List.getElem_toArray,List.getElem_cons_zero,List.getElem_cons_succ,Act.put,List.setIfInBounds_toArray,List.set_cons_zero,List.set_cons_succ]
        refine wpAnyH_take (i:=5) (v:=.int .i64 B) rfl (by kernel_rfl) (by kernel_rfl) (by kernel_rfl) (fun _ _ _ h=>h) (Or.inl ⟨by rfl,?_⟩) (by assumption) ?_
        ·intro V I
         go_simp
        simp only[List.getElem_toArray,List.getElem_cons_zero,List.getElem_cons_succ,Act.put,List.setIfInBounds_toArray,List.set_cons_zero,List.set_cons_succ]
        refine wpAnyH_take (i:=6) (v:=.slice (some ⟨yb,yo,none⟩) B yc) rfl (by kernel_rfl) (by kernel_rfl) (by kernel_rfl) (fun _ _ _ h=>h) (Or.inl ⟨by rfl,?_⟩) (by assumption) ?_
        ·intro V I
         go_simp
        simp only[List.getElem_toArray,List.getElem_cons_zero,List.getElem_cons_succ,Act.put,List.setIfInBounds_toArray,List.set_cons_zero,List.set_cons_succ]
        refine wpAnyH_take (i:=8) (v:=.slice (some ⟨yb,yo,none⟩) n2 yc) rfl (by kernel_rfl) (by kernel_rfl) (by kernel_rfl) (fun _ _ _ h=>h) (Or.inl ⟨by rfl,?_⟩) (by assumption) ?_
        ·intro V I
         go_simp
        simp only[List.getElem_toArray,List.getElem_cons_zero,List.getElem_cons_succ,Act.put,List.setIfInBounds_toArray,List.set_cons_zero,List.set_cons_succ]
        refine wpAnyH_take (i:=9) (v:=.int .i64 B) rfl (by kernel_rfl) (by kernel_rfl) (by kernel_rfl) (fun _ _ _ h=>h) (Or.inl ⟨by rfl,?_⟩) (by assumption) ?_
        ·intro V I
         go_simp
        simp only[List.getElem_toArray,List.getElem_cons_zero,List.getElem_cons_succ,Act.put,List.setIfInBounds_toArray,List.set_cons_zero,List.set_cons_succ]
        refine wpAnyH_take (i:=10) (v:=.int .i64 ((B:Int)+1)) rfl (by kernel_rfl) (by kernel_rfl) (by kernel_rfl) (fun _ _ _ h=>h) (Or.inl ⟨by rfl,?_⟩) (by assumption) ?_
        ·intro V I
         go_simp
        simp only[List.getElem_toArray,List.getElem_cons_zero,List.getElem_cons_succ,Act.put,List.setIfInBounds_toArray,List.set_cons_zero,List.set_cons_succ]
        refine wpAnyH_take (i:=11) (v:=.slice P3 (n2-(B+1)) (yc-(B+1))) rfl (by kernel_rfl) (by kernel_rfl) (by kernel_rfl) (fun _ _ _ h=>h) (Or.inl ⟨by rfl,?_⟩) (by assumption) ?_
        ·intro V I
         go_simp
        simp only[List.getElem_toArray,List.getElem_cons_zero,List.getElem_cons_succ,Act.put,List.setIfInBounds_toArray,List.set_cons_zero,List.set_cons_succ]
        refine wpAnyH_ready (rs:=[1]) (by kernel_rfl) (by simp) ?_
        refine AllReadyH.cons rfl (fun K D=>?_) AllReadyH.nil
        go_simp
        refine D.out _ _ trivial (fun hH=>?_)
        clear D K
        try simp only[List.getElem_toArray,List.getElem_cons_zero,List.getElem_cons_succ,Act.put,List.setIfInBounds_toArray,List.set_cons_zero,List.set_cons_succ]
        refine wpAnyH_ready (rs:=[3]) (by kernel_rfl) (by simp) ?_
        refine AllReadyH.cons rfl (fun K D=>?_) AllReadyH.nil
        refine QbL (by rfl) _ _ _ (by rfl) wd.heap.size 24 i0 _ 3 32 Tryz.underlying57 az ba aO aS rfl (by decide) _ 0 [] (by rfl) (QcY wd.drew 24 3 wd.heap.size wd.heap.size rfl (Nat.le_refl _)) ⟨rb,ro,none⟩ n1 rc (Qai r) (by rfl) ?a0 (cw.out _ (Qad ((Below.refl _ _).drew) _)) (Qbc _) ?a1 ?a2 ?a3 ?_
        case a0=>rw[QaZ,HR.out.1]
        case a1=>unfold maxLen;omega
        case a2=>omega
        case a3=>simp
        intro v6 w6 ad ay _
        have aG:Below wd.heap.size wd w6:=(Qad ((Below.refl _ _).drew) _).grown ay (by simp) (fun z hz=>by simp[Value.ownBlock] at hz;omega)
        obtain⟨a6,c6,rfl⟩:=Qae ad
        have cY:=aG.size
        refine D.out _ _ trivial (fun hH=>?_)
        clear D K
        try simp only[List.getElem_toArray,List.getElem_cons_zero,List.getElem_cons_succ,Act.put,List.setIfInBounds_toArray,List.set_cons_zero,List.set_cons_succ]
        refine wpAnyH_ready (rs:=[7]) (by kernel_rfl) (by simp) ?_
        refine AllReadyH.cons rfl (fun K D=>?_) AllReadyH.nil
        refine QbL (by rfl) _ _ _ (by rfl) wd.heap.size 24 i0 _ 3 32 Tryz.underlying57 az ba aO aS rfl (by decide) _ _ _ (by rfl) ad ⟨yb,yo,none⟩ B yc (Qai (ys.take B)) (by rfl) ?d0 (cA.out _ aG) (Qbc _) ?d1 ?d2 ?d3 ?_
        case d0=>rw[QaZ,List.length_take,T.out];omega
        case d1=>unfold maxLen;omega
        case d2=>omega
        case d3=>omega
        intro v7 w7 ae au _
        have aB:Below wd.heap.size wd w7:=aG.grown au (by omega) (fun z hz=>(ad.lt z hz).1)
        obtain⟨a7,c7,rfl⟩:=Qae ae
        have cX:=aB.size
        refine D.out _ _ trivial (fun hH=>?_)
        clear D K
        try simp only[List.getElem_toArray,List.getElem_cons_zero,List.getElem_cons_succ,Act.put,List.setIfInBounds_toArray,List.set_cons_zero,List.set_cons_succ]
        obtain⟨o3,bN,h3⟩:=bn.out
        subst bN
        refine wpAnyH_ready (rs:=[12]) (by kernel_rfl) (by simp) ?_
        refine AllReadyH.cons rfl (fun K D=>?_) AllReadyH.nil
        refine QbL (by rfl) _ _ _ (by rfl) wd.heap.size 24 i0 _ 3 32 Tryz.underlying57 az ba aO aS rfl (by decide) _ _ _ (by rfl) ae ⟨yb,o3,none⟩ (n2-(B+1)) (yc-(B+1)) (Qai (ys.drop (B+1))) (by rfl) ?z0 ?zz (Qbc _) ?z1 ?z2 ?z3 ?_
        case z0=>rw[QaZ,List.length_drop,T.out]
        case zz=>
         rcases h3 with h3|h3
         ·rw[h3];exact bV.out _ aB
         ·intro j u hj
          rw[List.drop_eq_nil_of_le (by omega)] at hj
          simp[Qai] at hj
        case z1=>unfold maxLen;omega
        case z2=>omega
        case z3=>omega
        intro v8 w8 O ax _
        have aq:Below wd.heap.size wd w8:=aB.grown ax (by omega) (fun z hz=>(ae.lt z hz).1)
        obtain⟨a8,c8,rfl⟩:=Qae O
        have dc:=aq.size
        rw[Qj5] at O
        simp only[Nat.zero_add] at O
        have b7:=Hk (show(Qb0 r ys B).length=n1+B+(n2-(B+1)) by
         have h1:=Qec r ys B (by rw[T.out];exact ao)
         have h2:=HR.out.1
         have h4:=T.out
         omega)
        have bO:=Hk (show Calls Tryz.prog 31 #[.int .i64 0,.slice a8 (n1+B+(n2-(B+1))) c8,.pointer (some ⟨q,0,none⟩)] w8 _ from QlN (wx:=w8) q R 1 0 W.heap.size (J++Kj) v2 _ aw (Qb0 r ys B) ((aq.cell (p:=⟨q,0,none⟩) (show q<_ by omega)).trans (N.out.keep HD.out.2).2.2.2.2.2.1) (by decide) (by decide) (HD.out.1.below aq) (Qam cd (by rw[b7.out];exact O)) (Qgp HR.out.2.2.1 cz.out) (by rw[List.length_append];omega) (by omega) (by omega) (by omega) (by omega))
        have bT:=Hk (HD.out.2.below aq)
        clear ad ae O ay au ax aG aB aq
        refine D.out _ _ trivial (fun hH=>?_)
        clear D K
        try simp only[List.getElem_toArray,List.getElem_cons_zero,List.getElem_cons_succ,Act.put,List.setIfInBounds_toArray,List.set_cons_zero,List.set_cons_succ]
        refine wpAnyH_ready (rs:=[13]) (by kernel_rfl) (by simp) ?_
        refine AllReadyH.cons rfl (fun K D=>?_) AllReadyH.nil
        go_simp
        refine bO.out.mono ?_
        rintro e w5 ⟨rfl,v',ck,bX⟩
        refine D.out _ _ trivial (fun hH=>?_)
        clear D K
        try simp only[List.getElem_toArray,List.getElem_cons_zero,List.getElem_cons_succ,Act.put,List.setIfInBounds_toArray,List.set_cons_zero,List.set_cons_succ]
        refine wpAnyH_done (by kernel_rfl) ?_ _
        go_wp2
        refine aW.out _ _ ?_
        go_wp2
        go_roundw
        case rel=>exact⟨t+1,v',_,by omega,by go_num,by rw[cy.out,<-List.append_assoc];exact ck,bX mp W rfl bT.out⟩
        case measure=>simp[intOf];omega
       ·have d0':(a.1==Z.1)=true:=by simp[d0]
        have d1':(a.2.1==Z.2.1)=true:=by simp[d1]
        have d2':(a.2.2.toList==Z.2.2.toList)=false:=by simp[d2]
        have ag:=Hk (am.out (by rintro rfl;exact d2 rfl))
        go_wp2
        go_quiet (fail)
        go_wp2
        go_roundw
        case rel=>exact⟨t+1,v2,aw,by omega,by go_num,by rw[ag.out];exact HO.out.1.below (below_drewN (Below.refl _ _) _),HO.out.2.1.below (below_drewN (Below.refl _ _) _)⟩
        case measure=>simp[intOf];omega
      ·have d0':(a.1==Z.1)=true:=by simp[d0]
       have d1':(a.2.1==Z.2.1)=false:=by simp[d1]
       have ag:=Hk (am.out (by rintro rfl;exact d1 rfl))
       go_wp2
       go_quiet (fail)
       go_wp2
       go_roundw
       case rel=>exact⟨t+1,v2,aw,by omega,by go_num,by rw[ag.out];exact HO.out.1.below (below_drewN (Below.refl _ _) _),HO.out.2.1.below (below_drewN (Below.refl _ _) _)⟩
       case measure=>simp[intOf];omega
     ·have d0':(a.1==Z.1)=false:=by simp[d0]
      have ag:=Hk (am.out (by rintro rfl;exact d0 rfl))
      go_wp2
      go_quiet (fail)
      go_wp2
      go_roundw
      case rel=>exact⟨t+1,v2,aw,by omega,by go_num,by rw[ag.out];exact HO.out.1.below (below_drewN (Below.refl _ _) _),HO.out.2.1.below (below_drewN (Below.refl _ _) _)⟩
      case measure=>simp[intOf];omega
    ·have bZ:t=N2:=by omega
     subst bZ
     rw[List.take_of_length_le (by rw[aD.out];omega),<-b4.out] at hO
     go_wp2
     go_roundw
     case rel=>exact⟨k+1,v2,aw,by omega,by go_num,hO,D⟩
     case measure=>simp[intOf];omega
  ·obtain rfl:M=k:=by omega
   rw[<-bm.out,List.take_length] at hO
   go_upto_region 69 with fail
   rename_i K2 ar
   have aW:=Hk ar
   clear ar
   go_wp2
   refine aW.out _ _ ?_
   refine Qcn jb gc cc q R 1 7 [c] [Qbr rs tB.2 p B] wr (fun e w'=>Qbf e w' w.heap.size (Qbl 7 [Qbr rs tB.2 p B]) [(c,Qbr rs tB.2 p B)]/\Below w.heap.size w w') ?_ ?_ ?_ ?_ ?_ ?_ ?_ ?_ ?_ ?_ ?_ ?_
   ·rfl
   ·rfl
   ·decide
   ·decide
   ·exact(by decide)
   ·exact k1'
   ·exact U
   ·exact(N.out.keep D).2.2.2.2.2.2.1
   ·exact(N.out.keep D).2.2.2.2.2.2.2
   ·exact(Qeg hO)
   ·exact cu.out
   ·exact(Qbf.fin E)
end Go.Proofs.YtofidnijfnhpaaaGreatDoor
