import Derived.Test.YtofidnijfnhpaaaGreatDoorQ01
import Derived.Test.YtofidnijfnhpaaaGreatDoorQ43
set_option linter.unusedSimpArgs false
set_option linter.unusedVariables false
set_option linter.unusedSectionVars false
set_option maxRecDepth 1000000
set_option maxHeartbeats 16000000
namespace Go.Proofs.YtofidnijfnhpaaaGreatDoor
open Go.RowKit
theorem LpAt.keep {w W wr:World} {j:Jb} {ss:List ByteArray} {css:List (List Cl)} {tA tB:Tb} {B D A o q R z:Nat} {I vcA E vcB vrB:Value} {rs:List (List Vl)} (h:LpAt w j ss css tA tB B D A o q R z I vcA E vcB vrB rs W) (y:Keep2 R z W wr):Below w.heap.size w wr/\Qaz wr B j/\wr.cell? ⟨A,0,none⟩=some vcA/\wr.cell? ⟨o,0,none⟩=some vcB/\wr.cell? ⟨o,1,none⟩=some vrB/\wr.cell? ⟨q,0,none⟩=some (.slice (some ⟨R,0,none⟩) css.length css.length)/\Qbz wr D 0 css/\D<wr.heap.size:=by
 have Z:=h.jb0
 have e2:=h.jgc
 have e3:=h.gA
 have U:=h.AR
 have O:=h.mR
 have e6:=h.BR
 have N:=h.qR
 have e8:=h.WR
 have hs:=y.size
 have M:=h.bel.size
 obtain⟨V,J,K,F,T,g5,g6⟩:=h.heads
 refine⟨h.bel.trans (y.bel (by omega) (by omega) (by omega)),fun k v hk=>(y.cell (p:=⟨B,k,none⟩) (show B<_ by omega) (show B≠R by omega) (show B≠z by omega)).trans (h.job k v hk),(y.cell (p:=⟨A,0,none⟩) (show A<_ by omega) (show A≠R by omega) (show A≠z by omega)).trans h.a0,(y.cell (p:=⟨o,0,none⟩) (show o<_ by omega) (show o≠R by omega) (show o≠z by omega)).trans h.b0,(y.cell (p:=⟨o,1,none⟩) (show o<_ by omega) (show o≠R by omega) (show o≠z by omega)).trans h.b1,(y.cell (p:=⟨q,0,none⟩) (show q<_ by omega) (show q≠R by omega) (show q≠z by omega)).trans h.qc,J.below (K.trans (y.bel (by omega) (by omega) (by omega))) F,by omega⟩
theorem LpAt.row {w W wr:World} {j:Jb} {ss:List ByteArray} {css:List (List Cl)} {tA tB:Tb} {D J A N q R y:Nat} {F vcA vcB vrB:Value} {rs:List (List Vl)} {a:Option Addr} {M c:Nat} (h:LpAt w j ss css tA tB D J A N q R y F vcA (.slice a M c) vcB vrB rs W) (z:Keep2 R y W wr) (k:Nat) (K:k<rs.length):∃b o u,a=some ⟨b,o,none⟩/\wr.cell? ⟨b,o+k,none⟩=some u/\Qbk w u rs[k]:=by
 obtain⟨Z,c',e,I⟩:=h.src
 simp only[Value.slice.injEq] at e
 obtain⟨rfl,-,-⟩:=e
 obtain⟨b,o,u,O,V,E,T,B,U⟩:=I k K
 exact⟨b,o,u,O,(z.cell (p:=⟨b,o+k,none⟩) V E T).trans B,U⟩
theorem QfW {w0 wr:World} {B R:Nat} {rs:List (List Vl)} {v:Value} {us:List Value} (h:OutH w0 B R 0 rs v us wr) (o:Below w0.heap.size w0 wr):∀(i:Nat) (j:i<[rs].length),∃v,wr.cell? ⟨R,i,none⟩=some v/\QaC wr v [rs][i]:=by
 intro i j
 simp only[List.length_singleton] at j
 obtain rfl:i=0:=by omega
 exact⟨v,h.cell,QhI h.own (h.us.below o)⟩
theorem Qeg {wr:World} {B R:Nat} {rs:List (List Vl)} {v:Value} {us:List Value} (h:OutO B R 0 rs v us wr):∀(i:Nat) (j:i<[rs].length),∃v,wr.cell? ⟨R,i,none⟩=some v/\QaC wr v [rs][i]:=by
 intro i j
 simp only[List.length_singleton] at j
 obtain rfl:i=0:=by omega
 exact⟨v,h.cell,QbA h.own h.held⟩
theorem Qc1 {α:Type} {l:List α} {k:Nat} (h:k<l.length):l.take (k+1)=l.take k++[l[k]]:=List.take_succ_eq_append_getElem h
theorem Qbf.fin {w wr:World} {no:Int} {ts:List Tb} (h:Below w.heap.size w wr):∀e w',Below wr.heap.size wr w'->Qbf e w' wr.heap.size no ts->Qbf e w' w.heap.size no ts/\Below w.heap.size w w':=fun e w' h1 h2=>⟨h2.lower h.size,Qaa h h1⟩
theorem QlP {w:World} {j:Jb} {ss:List ByteArray} (c:List Cl) {tA tB:Tb} {vcA vcB vrB:Value} (B:j.code=4) {rs:List (List Vl)} (hM:rs.length<=100):Qco w j ss [c] tA tB vcA vcB vrB (rs) (fun e w'=>Qbf e w' w.heap.size (Qbl 4 [rs]) [(c,rs)]/\Below w.heap.size w w'):=by
 iterate 317 intro _
 intro Z gc cc A Bx q R I vw v1 W h
 have e1:=h.jb0
 have e2:=h.jgc
 have e3:=h.gA
 have e4:=h.AR
 have e6:=h.BR
 have e5:R<q/\q<I/\I<W.heap.size:=by have h1:=h.mR;have h2:=h.qR;have h3:=h.WR;omega
 obtain⟨e5,e7,e8⟩:=e5
 have e9:=h.bel.size
 have k1:W.cell? ⟨Z,1,none⟩=some (.int .i64 4):=(h.job 1 (.int .i64 j.code) rfl).trans (by rw[B])
 have a1:=h.a1
 obtain⟨sa,am,rfl,-⟩:=h.src
 have D:=Hk h
 obtain⟨r0,rf⟩:=h.rows 0 (by simp)
 clear h
 have HM:=Hk (show rs.length=rs.length from rfl)
 obtain⟨M,z⟩:∃M,rs.length=M:=⟨_,rfl⟩
 have V:=Hk z
 rw[z] at a1 hM
 have ab:=Hk (show∀x∈[rs],x.length<=100000 from fun x hx=>by simp at hx;rw[hx,z];omega)
 clear z
 conv=>arg 2;whnf
 go_wp2
 go_loopw [111] (fun i wr=>∃(k:Nat) (v:Value) (us:List Value),k<=M/\i=.int .i64 k/\OutH w W.heap.size R 0 (rs.take k) v us wr/\Keep2 R I W wr) (fun i _=>M-(intOf i).toNat)
 case atStart=>exact⟨0,.slice none 0 0,[],Nat.zero_le _,rfl,⟨r0,rf,World.ownsRow_nil _ _ _ _,QeZ.nil _⟩,Keep2.refl _ _ _⟩
 case round=>
  obtain⟨k,v,us,hk,rfl,F,y⟩:=hrel
  have J:=(D.out.keep y).1
  have k1':wr.cell? ⟨Z,1,none⟩=some (.int .i64 4):=((D.out.keep y).2.1 1 (.int .i64 j.code) rfl).trans (by rw[B])
  have q0':=(D.out.keep y).2.2.2.2.2.1
  have hsz:=y.size
  by_cases hlt:k<M
  ·have af:(k:Int)<(M:Int):=by omega
   have O:k<rs.length:=by have:=V.out;omega
   obtain⟨b,o,u,rfl,x0,U⟩:=D.out.row y k O
   have E:=Hk (show Calls Tryz.prog 31 #[.int .i64 0,u,.pointer (some ⟨q,0,none⟩)] wr _ from QiQ (w0:=w) (wx:=wr) q R 1 0 W.heap.size (rs.take k) v u us rs[k] q0' (by decide) (by decide) F U (by simp;omega) hsz (by omega) (by omega) (by omega))
   obtain⟨ua,uc,rfl,-⟩:=U
   have ad:=Hk y
   generalize rs[k].length=un at*
   clear F y
   go_wp2_with (first|(go_at_call 31;refine E.out.mono ?_;rintro e w5 ⟨rfl,v',K,-,N⟩)|(go_at_fn 31;refine E.out.mono ?_;rintro e w5 ⟨rfl,v',K,-,N⟩))
   go_roundw
   case rel=>exact⟨k+1,v',_,by omega,by go_num,by rw[Qc1 O];exact K,N I W rfl ad.out⟩
   case measure=>simp[intOf];omega
  ·obtain rfl:M=k:=by omega
   rw[<-V.out,List.take_length] at F
   go_upto_region 69 with fail
   rename_i K2 T
   have ae:=Hk T
   clear T
   go_wp2
   refine ae.out _ _ ?_
   refine Qcn Z gc cc q R 1 4 [c] [rs] wr (fun e w'=>Qbf e w' w.heap.size (Qbl 4 [rs]) [(c,rs)]/\Below w.heap.size w w') ?_ ?_ ?_ ?_ ?_ ?_ ?_ ?_ ?_ ?_ ?_ ?_
   ·rfl
   ·rfl
   ·decide
   ·decide
   ·exact(by decide)
   ·exact k1'
   ·exact q0'
   ·exact(D.out.keep y).2.2.2.2.2.2.1
   ·exact(D.out.keep y).2.2.2.2.2.2.2
   ·exact(QfW F J)
   ·exact ab.out
   ·exact(Qbf.fin J)
theorem Qie {α β:Type} {l:List α} {f:α->β} {k:Nat} (h:k<l.length):(l.take (k+1)).map f=(l.take k).map f++[f l[k]]:=by
 rw[Qc1 h,List.map_append];rfl
theorem Qj0 {α β:Type} {l:List α} {f:α->β} {k N:Nat} (h:l.length<=N):((l.take k).map f).length<=N:=by
 rw[List.length_map,List.length_take];omega
theorem QiS {o:List Nat} {r:List Vl} (h:∀x∈r,x.2.2.size<=maxLen):∀x∈Qa2 o r,x.2.2.size<=maxLen:=by
 intro x j
 simp only[Qa2,List.mem_map] at j
 obtain⟨k,-,rfl⟩:=j
 cases e:r[k]? with
 |none=>exact Nat.zero_le _
 |some y=>exact h y (List.mem_of_getElem? e)
theorem QeS {w:World} {u:Value} {r:List Vl} (h:Qbk w u r) (z:0<r.length):∃rb ro rc,u=.slice (some ⟨rb,ro,none⟩) r.length rc/\rb<w.heap.size/\QaK w rb ro r/\∀x∈r,x.2.2.size<=maxLen:=by
 obtain⟨a,c,rfl,y,h|⟨b,o,rfl,q,j⟩⟩:=h
 ·subst h;simp at z
 ·exact⟨b,o,c,rfl,q,j,y⟩
theorem LpAt.wh {w W:World} {j:Jb} {ss:List ByteArray} {css:List (List Cl)} {tA tB:Tb} {F I A M q R z:Nat} {y vcA D vcB vrB:Value} {rs:List (List Vl)} (h:LpAt w j ss css tA tB F I A M q R z y vcA D vcB vrB rs W) (E:0<ss.length) (o:∀s∈ss,∃k,Qak tA.1 s.data.toList=some k):∃g c,y=.slice (some ⟨g,0,none⟩) ss.length c/\g<W.heap.size/\g≠R/\g≠z/\QbJ W g 0 (Qag tA.1 ss):=by
 obtain⟨B,hA,Z,J,K⟩:=h.wher
 obtain⟨g,c,rfl,V,O,U,N⟩:=QfV J E o
 have T:=K g rfl
 have h6:=h.mR
 exact⟨g,c,rfl,O,by omega,by omega,N⟩
theorem QlQ {w:World} {j:Jb} {ss:List ByteArray} (c:List Cl) {tA tB:Tb} {vcA vcB vrB:Value} (ac:j.code=3) {rs:List (List Vl)} (hM:rs.length<=100) (h0:0<ss.length) (aW:ss.length<=100) (U:∀s∈ss,∃k,Qak tA.1 s.data.toList=some k) (bo:tA.1.length<=100) (T:∀r∈rs,r.length=tA.1.length):Qco w j ss [c] tA tB vcA vcB vrB (rs) (fun e w'=>Qbf e w' w.heap.size (Qbl 3 [(rs.map (Qa2 (Qag tA.1 ss)))]) [(c,(rs.map (Qa2 (Qag tA.1 ss))))]/\Below w.heap.size w w'):=by
 iterate 317 intro _
 intro jb gc cc A Bx q R mp vw v1 W B
 have e1:=B.jb0
 have e2:=B.jgc
 have e3:=B.gA
 have e4:=B.AR
 have e6:=B.BR
 have e5:R<q/\q<mp/\mp<W.heap.size:=by have h1:=B.mR;have h2:=B.qR;have h3:=B.WR;omega
 obtain⟨e5,e7,e8⟩:=e5
 have e9:=B.bel.size
 have k1:W.cell? ⟨jb,1,none⟩=some (.int .i64 3):=(B.job 1 (.int .i64 j.code) rfl).trans (by rw[ac])
 have a1:=B.a1
 obtain⟨sa,bp,rfl,-⟩:=B.src
 have HL:=Hk B
 obtain⟨r0,rf⟩:=B.rows 0 (by simp)
 obtain⟨g,wc,rfl,a6,aY,aZ,N⟩:=B.wh h0 U
 clear B
 obtain⟨i0,aE,a9,aN,aS⟩:=info_parts Tryz.infoVal
 have F:=Qbu U
 have V:(Qag tA.1 ss).length=ss.length:=by simp[Qag]
 obtain⟨y,ax⟩:∃x,Qag tA.1 ss=x:=⟨_,rfl⟩
 rw[ax] at N F V⊢
 rw[<-V] at aW h0 HL⊢
 clear ax V U
 obtain⟨M,ab⟩:∃M,rs.length=M:=⟨_,rfl⟩
 have ah:=Hk ab
 rw[ab] at a1 hM
 have a5:=Hk (show∀x∈[rs.map (Qa2 y)],x.length<=100000 from fun x hx=>by simp at hx;rw[hx,List.length_map,ab];omega)
 have HT:=Hk (Ai N (Ai F T))
 clear ab N F T
 conv=>arg 2;whnf
 go_wp2
 go_loopw [111] (fun i wr=>∃(k:Nat) (v:Value) (us:List Value),k<=M/\i=.int .i64 k/\OutO W.heap.size R 0 ((rs.take k).map (Qa2 y)) v us wr/\Keep2 R mp W wr) (fun i _=>M-(intOf i).toNat)
 case atStart=>exact⟨0,.slice none 0 0,[],Nat.zero_le _,rfl,⟨r0,rf,World.ownsRow_nil _ _ _ _,Qac.nil _ _⟩,Keep2.refl _ _ _⟩
 case round=>
  obtain⟨k,v,us,hk,rfl,hO,K⟩:=hrel
  have af:=(HL.out.keep K).1
  have k1':wr.cell? ⟨jb,1,none⟩=some (.int .i64 3):=((HL.out.keep K).2.1 1 (.int .i64 j.code) rfl).trans (by rw[ac])
  have q0':=(HL.out.keep K).2.2.2.2.2.1
  have hsz:=K.size
  by_cases hlt:k<M
  ·have bf:(k:Int)<(M:Int):=by omega
   have ai:k<rs.length:=by have:=ah.out;omega
   obtain⟨N,F,T⟩:=HT.out
   have aD:=T rs[k] (List.getElem_mem ai)
   obtain⟨b,o,u,rfl,x0,aA⟩:=HL.out.row K k ai
   have aB:0<rs[k].length:=by
    have:=F y[0] (List.getElem_mem h0)
    omega
   obtain⟨rb,ro,rc,rfl,aV,au,al⟩:=QeS aA aB
   have aT:=Hk (Qie (f:=Qa2 y) ai)
   have aO:=Hk (Qj0 (f:=Qa2 y) (k:=k) (show rs.length<=100000 by have:=ah.out;omega))
   have ad:=Hk (Ai K (Ai hO (Ai q0' al)))
   have I:∀(m:Nat) (h:m<y.length),wr.cell? ⟨g,m,none⟩=some (.int .i64 y[m]):=fun m h=>(K.cell (p:=⟨g,m,none⟩) a6 aY aZ).trans (by simpa using N m h)
   have E:=au.below af aV
   have Z:rb<wr.heap.size:=by have:=af.size;omega
   have J:∀m∈y,m<rs[k].length:=fun m hm=>by rw[aD];exact F m hm
   generalize rs[k]=r at*
   have bc:r.length<=100:=by omega
   have aG:=Hk (Ai I (Ai E J))
   obtain⟨wo,aP⟩:∃x,x=wr:=⟨_,rfl⟩
   subst aP
   clear hO K N F T aD aA au I E J al aB q0' af
   go_wp2
   go_loopw [24,163] (fun l i wr=>∃m:Nat,m<=y.length/\i=.int .i64 m/\wr.ownsRow wo.heap.size 24 3 l m (Qai (Qa2 (y.take m) r))/\Below wo.heap.size wo wr) (fun _ i _=>y.length-(intOf i).toNat)
   case atStart=>exact⟨0,Nat.zero_le _,rfl,World.ownsRow_nil _ _ _ _,Below.refl _ _⟩
   case round=>
    obtain⟨m,hm,rfl,D,z⟩:=hrel
    obtain⟨la,lc,rfl⟩:=Qae D
    have HX:=Hk (Ai D z)
    have bq:=z.size
    by_cases hltm:m<y.length
    ·obtain⟨I,E,J⟩:=aG.out
     have aj:=J _ (List.getElem_mem hltm)
     have d1:=(z.cell (p:=⟨g,m,none⟩) (show g<_ by omega)).trans (I m hltm)
     obtain⟨ar,aC,az⟩:=E _ aj
     have d2:=cK z Z ar
     have d3:=cK z Z aC
     have d4:=cK z Z az
     have a7:=Hk (show Qai (Qa2 (y.take m) r)++[.int .i64 r[y[m]].1,.int .i64 r[y[m]].2.1,.string r[y[m]].2.2]=Qai (Qa2 (y.take (m+1)) r) by
      rw[List.take_succ_eq_append_getElem hltm,Qa2,Qa2,List.map_append,QcM]
      simp[Qai,List.getElem?_eq_getElem aj])
     have hq':((y[m]:Nat):Int)<(r.length:Int):=by omega
     generalize r[y[m]]=x at*
     generalize y[m]=kk at*
     have bn:(m:Int)<(y.length:Int):=by omega
     clear D z I E J ar aC az aj
     go_wp2_with (at_builtin;refine wpList_append_own _ rfl _ _ 57 rfl wo.heap.size 24 i0 (.agg #[.int .i64 0,.int .i64 0,.string ⟨#[]⟩]) 3 32 Tryz.underlying57 aE a9 aN aS rfl (by decide) _ _ _ rfl (HX.out.1.alloc _) ⟨wr.heap.size,0,none⟩ 1 1 [.int .i64 x.1,.int .i64 x.2.1,.string x.2.2] rfl rfl (Ql8 _ _ _ _ _ _ rfl) (QmR _ _ _) ?c3 ?c4 ?c5 ?_)
     case c3=>unfold maxLen;omega
     case c4=>omega
     case c5=>simp;omega
     intro v' w5 O ae _
     have ak:Below wo.heap.size wo w5:=(HX.out.2.alloc (by omega) _).grown ae (by simp;omega) (fun q hq=>(HX.out.1.lt q hq).1)
     rw[a7.out] at O
     have HF:=Hk (Ai O ak)
     clear O ae ak
     go_wp2
     go_roundw
     case rel=>exact⟨m+1,by omega,by go_num,HF.out.1,HF.out.2⟩
     case measure=>simp[intOf];omega
    ·have aU:m=y.length:=by omega
     subst aU
     rw[List.take_of_length_le (Nat.le_refl _)] at D
     have ba:wr.cell? ⟨q,0,none⟩=_:=cK z (by omega) ad.out.2.2.1
     have am:=Hk (show Calls Tryz.prog 31 #[.int .i64 0,.slice la y.length lc,.pointer (some ⟨q,0,none⟩)] wr _ from QlN (wx:=wr) q R 1 0 W.heap.size ((rs.take k).map (Qa2 y)) v _ us (Qa2 y r) ba (by decide) (by decide) (ad.out.2.1.below z) (Qam (by omega) (by rw[show(Qa2 y r).length=y.length by simp[Qa2]];exact D)) (QiS ad.out.2.2.2) aO.out (by omega) (by omega) (by omega) (by omega))
     have aQ:=Hk (ad.out.1.below z)
     clear D z
     go_wp2_with (first|(go_at_call 31;refine am.out.mono ?_;rintro e w5 ⟨rfl,v',ay,av⟩)|(go_at_fn 31;refine am.out.mono ?_;rintro e w5 ⟨rfl,v',ay,av⟩))
     go_roundw
     case rel=>exact⟨k+1,v',_,by omega,by go_num,by rw[aT.out];exact ay,av mp W rfl aQ.out⟩
     case measure=>simp[intOf];omega
  ·obtain rfl:M=k:=by omega
   rw[<-ah.out,List.take_length] at hO
   go_upto_region 69 with fail
   rename_i K2 aw
   have aX:=Hk aw
   clear aw
   go_wp2
   refine aX.out _ _ ?_
   refine Qcn jb gc cc q R 1 3 [c] [rs.map (Qa2 y)] wr (fun e w'=>Qbf e w' w.heap.size (Qbl 3 [rs.map (Qa2 y)]) [(c,rs.map (Qa2 y))]/\Below w.heap.size w w') ?_ ?_ ?_ ?_ ?_ ?_ ?_ ?_ ?_ ?_ ?_ ?_
   ·rfl
   ·rfl
   ·decide
   ·decide
   ·exact(by decide)
   ·exact k1'
   ·exact q0'
   ·exact(HL.out.keep K).2.2.2.2.2.2.1
   ·exact(HL.out.keep K).2.2.2.2.2.2.2
   ·exact(Qeg hO)
   ·exact a5.out
   ·exact(Qbf.fin af)
structure SetOK (cs:List Cl) (j:Jb) (at_:Nat) (r:List Vl):Prop where
 len:r.length=cs.length
 num:∃q,r[at_]? =some (1,q,⟨#[]⟩)
 i1:Qau (QaJ cs r j.left).2.1
 i2:Qau (QaJ cs r j.right).2.1
theorem QkS {cs:List Cl} {j:Jb} {at_:Nat} {r:List Vl} (h:∀x∈r,x.2.2.size<=maxLen):∀x∈Qdk cs j at_ r,x.2.2.size<=maxLen:=by
 intro x o
 rcases List.mem_or_eq_of_mem_set o with q|rfl
 ·exact h x q
 ·exact Nat.zero_le _
theorem QdV {w:World} {v:Value} {cs:List Cl} (h:Qav w v cs) (q:0<cs.length):∃b o c,v=.slice (some ⟨b,o,none⟩) cs.length c/\cs.length<=c/\b<w.heap.size/\Qas w b o cs/\∀x∈cs,x.1.size<=maxLen:=by
 obtain⟨a,c,rfl,A,z,h|⟨b,o,rfl,y,j⟩⟩:=h
 ·subst h;simp at q
 ·exact⟨b,o,c,rfl,A,y,j,z⟩
theorem Qlm {w:World} {j:Jb} {ss:List ByteArray} (c:List Cl) {tA tB:Tb} {vcA vcB vrB:Value} (N:j.code=2) {rs:List (List Vl)} (hM:rs.length<=100) (x:ByteArray) (U:ss=[x]) (at_:Nat) (O:Qak tA.1 x.data.toList=some at_) (aj:inS QaF j.op.data.toList=true) (aX:tA.1.length<=40) (aa:Qb3 tA.1 j.left) (ag:Qb3 tA.1 j.right) (F:∀r∈rs,SetOK tA.1 j at_ r) {al:Ending->World->Prop} (aq:∀e w',Qbf e w' w.heap.size (if rs.all (fun r=>decide (Qau (QdA tA.1 j r)))=true then Qbl 2 [(rs.map (Qdk tA.1 j at_))] else 2) [(c,(rs.map (Qdk tA.1 j at_)))]/\Below w.heap.size w w'->al e w'):Qco w j ss [c] tA tB vcA vcB vrB (rs) al:=by
 iterate 317 intro _
 intro y gc cc A Bx q R mp vw v1 W D
 have e1:=D.jb0
 have e2:=D.jgc
 have e3:=D.gA
 have e4:=D.AR
 have e6:=D.BR
 have e5:R<q/\q<mp/\mp<W.heap.size:=by have h1:=D.mR;have h2:=D.qR;have h3:=D.WR;omega
 obtain⟨e5,e7,e8⟩:=e5
 have e9:=D.bel.size
 have k1:W.cell? ⟨y,1,none⟩=some (.int .i64 2):=(D.job 1 (.int .i64 j.code) rfl).trans (by rw[N])
 have a1:=D.a1
 obtain⟨sa,bE,rfl,-⟩:=D.src
 have HL:=Hk D
 have HP:=Hk aq
 clear aq
 obtain⟨r0,rf⟩:=D.rows 0 (by simp)
 have aP:=Qaj O
 obtain⟨g,wc,rfl,bk,a9,bb,aD⟩:=D.wh (by rw[U];simp) (by rw[U];intro s hs;simp at hs;rw[hs];exact⟨_,O⟩)
 have w0':W.cell? ⟨g,0,none⟩=some (.int .i64 at_):=by
  have:=aD 0 (by rw[U];simp[Qag])
  simp only[U,Qag,List.map_cons,List.map_nil,List.getElem_cons_zero,O,Option.getD_some] at this
  exact this
 rw[show ss.length=1 by rw[U];rfl] at*
 obtain⟨cb,co,T,rfl,aQ,bm,ah,ac⟩:=QdV D.colsA (by omega)
 clear D aD U
 obtain⟨M,ao⟩:∃M,rs.length=M:=⟨_,rfl⟩
 have ay:=Hk ao
 rw[ao] at a1 hM
 have bj:=Hk (show∀x∈[rs.map (Qdk tA.1 j at_)],x.length<=100000 from fun x hx=>by simp at hx;rw[hx,List.length_map,ao];omega)
 have HT:=Hk (Ai ah (Ai ac (Ai aj (Ai aa (Ai ag F)))))
 clear ao ah ac aj aa ag F O
 conv=>arg 2;whnf
 go_wp2
 go_loopw [111] (fun i wr=>∃(k:Nat) (v:Value) (us:List Value),k<=M/\i=.int .i64 k/\OutO W.heap.size R 0 ((rs.take k).map (Qdk tA.1 j at_)) v us wr/\(∀r∈rs.take k,Qau (QdA tA.1 j r))/\Keep2 R mp W wr) (fun i _=>M-(intOf i).toNat)
 case atStart=>exact⟨0,.slice none 0 0,[],Nat.zero_le _,rfl,⟨r0,rf,World.ownsRow_nil _ _ _ _,Qac.nil _ _⟩,fun r hr=>by simp at hr,Keep2.refl _ _ _⟩
 case round=>
  obtain⟨k,v,us,hk,rfl,hO,ab,J⟩:=hrel
  have av:=(HL.out.keep J).1
  have k1':wr.cell? ⟨y,1,none⟩=some (.int .i64 2):=((HL.out.keep J).2.1 1 (.int .i64 j.code) rfl).trans (by rw[N])
  have q0':=(HL.out.keep J).2.2.2.2.2.1
  have hsz:=J.size
  by_cases hlt:k<M
  ·have bs:(k:Int)<(M:Int):=by omega
   have ad:k<rs.length:=by have:=ay.out;omega
   obtain⟨ah,ac,aj,aa,ag,F⟩:=HT.out
   have ak:=F rs[k] (List.getElem_mem ad)
   obtain⟨b,o,u,rfl,x0,aI⟩:=HL.out.row J k ad
   have K:=ak.len
   obtain⟨rb,ro,rc,rfl,aY,O,am⟩:=QeS aI (by omega)
   have aW:=Hk (Qie (f:=Qdk tA.1 j at_) ad)
   have aS:=Hk (Qj0 (f:=Qdk tA.1 j at_) (k:=k) (show rs.length<=100000 by have:=ay.out;omega))
   have aR:=Hk (Qc1 ad)
   have aO:=Hk (show rs[k]∈rs from List.getElem_mem ad)
   generalize rs[k]=r at*
   rw[K] at x0
   have ae:=Hk (Ai J (Ai hO (Ai q0' (Ai am ab))))
   have ap:=Hk (show∀V,Below wr.heap.size wr V->Calls Tryz.prog 35 #[.agg #[.int .i64 j.at_,.int .i64 2,j.outs,j.ins,j.cols,.string j.op,.string j.left.1,.int .i64 j.left.2.1,.int .i64 j.left.2.2.1,.string j.left.2.2.2,.string j.right.1,.int .i64 j.right.2.1,.int .i64 j.right.2.2.1,.string j.right.2.2.2,.int .i64 j.retry],.slice (some ⟨cb,co,none⟩) tA.1.length T,.slice (some ⟨rb,ro,none⟩) tA.1.length rc,.int .i64 at_] V fun e w'=>∃v,e=.returned (.tuple #[v,.bool (decide (Qau (QdA tA.1 j r)))])/\w'.ownsRow V.heap.size 24 3 v tA.1.length (Qai (Qdk tA.1 j at_ r))/\Below V.heap.size V w' from fun V hV=>by
    have au:=Qaa av hV
    obtain⟨q9,aK⟩:=ak.num
    have:=QhH cb co tA.1.length T rb ro rc tA.1 r j at_ q9 V aj rfl aX aQ (by have:=au.size;omega) (ah.below au bm) ac (by have:=au.size;omega) (O.below au aY) am K aP (by have:=List.getElem?_eq_getElem (l:=r) (i:=at_) (by omega);rw[this] at aK;simpa using aK) aa ag ak.i1 ak.i2
    unfold Jb.cells at this
    rw[N] at this
    exact this)
   have aJ:wr.cell? ⟨g,0,none⟩=some (.int .i64 at_):=(J.cell (p:=⟨g,0,none⟩) bk a9 bb).trans w0'
   have aL:wr.cell? ⟨A,0,none⟩=some (.slice (some ⟨cb,co,none⟩) tA.1.length T):=(HL.out.keep J).2.2.1
   have aG:=(HL.out.keep J).2.1
   have aV:g<wr.heap.size:=by omega
   have a7:A<wr.heap.size:=by omega
   have bi:y<wr.heap.size:=by omega
   have KG:=Hk (show∀V,Below wr.heap.size wr V->(V.cell? ⟨y,0,none⟩=some (.int .i64 j.at_)/\V.cell? ⟨y,1,none⟩=some (.int .i64 2)/\V.cell? ⟨y,2,none⟩=some (j.outs)/\V.cell? ⟨y,3,none⟩=some (j.ins)/\V.cell? ⟨y,4,none⟩=some (j.cols)/\V.cell? ⟨y,5,none⟩=some (.string j.op)/\V.cell? ⟨y,6,none⟩=some (.string j.left.1)/\V.cell? ⟨y,7,none⟩=some (.int .i64 j.left.2.1)/\V.cell? ⟨y,8,none⟩=some (.int .i64 j.left.2.2.1)/\V.cell? ⟨y,9,none⟩=some (.string j.left.2.2.2)/\V.cell? ⟨y,10,none⟩=some (.string j.right.1)/\V.cell? ⟨y,11,none⟩=some (.int .i64 j.right.2.1)/\V.cell? ⟨y,12,none⟩=some (.int .i64 j.right.2.2.1)/\V.cell? ⟨y,13,none⟩=some (.string j.right.2.2.2)/\V.cell? ⟨y,14,none⟩=some (.int .i64 j.retry))/\V.cell? ⟨g,0,none⟩=some (.int .i64 at_)/\V.cell? ⟨A,0,none⟩=some (.slice (some ⟨cb,co,none⟩) tA.1.length T) from fun V h=>by
    have z:=aG.below h bi
    have e1:V.cell? ⟨y,1,none⟩=some (.int .i64 j.code):=z 1 _ rfl
    rw[N] at e1
    exact⟨⟨z 0 _ rfl,e1,z 2 _ rfl,z 3 _ rfl,z 4 _ rfl,z 5 _ rfl,z 6 _ rfl,z 7 _ rfl,z 8 _ rfl,z 9 _ rfl,z 10 _ rfl,z 11 _ rfl,z 12 _ rfl,z 13 _ rfl,z 14 _ rfl⟩,cK h aV aJ,cK h a7 aL⟩)
   have HB:=Hk av
   clear hO J ab ah ac aj aa ag F ak aI O am aG av q0' aJ aL
   have bf:=Hk K
   clear K
   generalize tA.1.length=NN at*
   by_cases hiv:Qau (QdA tA.1 j r)
   ·rw[show decide (Qau (QdA tA.1 j r))=true from decide_eq_true hiv] at ap
    have ar:=Hk hiv
    clear hiv
    go_upto_region 37 with fail
    rename_i K2 I
    have af:=Hk I
    clear I
    go_region_held3 (fun V=>(V.cell? ⟨y,0,none⟩=some (.int .i64 j.at_)/\V.cell? ⟨y,1,none⟩=some (.int .i64 2)/\V.cell? ⟨y,2,none⟩=some (j.outs)/\V.cell? ⟨y,3,none⟩=some (j.ins)/\V.cell? ⟨y,4,none⟩=some (j.cols)/\V.cell? ⟨y,5,none⟩=some (.string j.op)/\V.cell? ⟨y,6,none⟩=some (.string j.left.1)/\V.cell? ⟨y,7,none⟩=some (.int .i64 j.left.2.1)/\V.cell? ⟨y,8,none⟩=some (.int .i64 j.left.2.2.1)/\V.cell? ⟨y,9,none⟩=some (.string j.left.2.2.2)/\V.cell? ⟨y,10,none⟩=some (.string j.right.1)/\V.cell? ⟨y,11,none⟩=some (.int .i64 j.right.2.1)/\V.cell? ⟨y,12,none⟩=some (.int .i64 j.right.2.2.1)/\V.cell? ⟨y,13,none⟩=some (.string j.right.2.2.2)/\V.cell? ⟨y,14,none⟩=some (.int .i64 j.retry))/\V.cell? ⟨g,0,none⟩=some (.int .i64 at_)/\V.cell? ⟨A,0,none⟩=some (.slice (some ⟨cb,co,none⟩) NN T)) (exact KG.out _ (by first|exact B|exact B.drew|exact(Below.refl _ _).drew|exact Below.refl _ _)) (first|(go_at_call 35;refine(ap.out _ (by first|exact(Below.refl _ _).drew|exact Below.refl _ _)).mono ?_;rintro e w7 ⟨v7,rfl,E,Z⟩;have B:=Qaa (show Below wr.heap.size wr _ from(by first|exact(Below.refl _ _).drew|exact Below.refl _ _)) Z;clear Z))
    refine af.out _ _ ?_
    obtain⟨aZ,a6,rfl⟩:=Qae E
    have bo:w7.cell? ⟨q,0,none⟩=_:=cK B (by omega) ae.out.2.2.1
    have bD:=B.size
    have az:=Hk (show Calls Tryz.prog 31 #[.int .i64 0,.slice aZ NN a6,.pointer (some ⟨q,0,none⟩)] w7 _ from QlN (wx:=w7) q R 1 0 W.heap.size ((rs.take k).map (Qdk tA.1 j at_)) v _ us (Qdk tA.1 j at_ r) bo (by decide) (by decide) (ae.out.2.1.below B) (Qam (by first|omega|(simp;omega)) (by rw[show(Qdk tA.1 j at_ r).length=NN by simp[Qdk];exact bf.out];exact E)) (QkS ae.out.2.2.2.1) aS.out (by omega) (by omega) (by omega) (by omega))
    have aT:=Hk (ae.out.1.below B)
    clear E B
    go_wp2_with (first|(go_at_call 31;refine az.out.mono ?_;rintro e w5 ⟨rfl,v',aH,aE⟩)|(go_at_fn 31;refine az.out.mono ?_;rintro e w5 ⟨rfl,v',aH,aE⟩))
    go_roundw
    case rel=>exact⟨k+1,v',_,by omega,by go_num,by rw[aW.out];exact aH,(by
     rw[aR.out]
     intro r' be
     rcases List.mem_append.1 be with h|h
     ·exact ae.out.2.2.2.2 r' h
     ·simp at h;rw[h];exact ar.out),aE mp W rfl aT.out⟩
    case measure=>simp[intOf];omega
   ·rw[show decide (Qau (QdA tA.1 j r))=false from decide_eq_false hiv] at ap
    have ar:=Hk (show(if rs.all (fun r=>decide (Qau (QdA tA.1 j r)))=true then Qbl 2 [(rs.map (Qdk tA.1 j at_))] else 2)=2 from if_neg (fun h=>hiv (of_decide_eq_true (List.all_eq_true.1 h r aO.out))))
    clear hiv
    go_upto_region 37 with fail
    rename_i K2 I
    have af:=Hk I
    clear I
    go_region_held3 (fun V=>(V.cell? ⟨y,0,none⟩=some (.int .i64 j.at_)/\V.cell? ⟨y,1,none⟩=some (.int .i64 2)/\V.cell? ⟨y,2,none⟩=some (j.outs)/\V.cell? ⟨y,3,none⟩=some (j.ins)/\V.cell? ⟨y,4,none⟩=some (j.cols)/\V.cell? ⟨y,5,none⟩=some (.string j.op)/\V.cell? ⟨y,6,none⟩=some (.string j.left.1)/\V.cell? ⟨y,7,none⟩=some (.int .i64 j.left.2.1)/\V.cell? ⟨y,8,none⟩=some (.int .i64 j.left.2.2.1)/\V.cell? ⟨y,9,none⟩=some (.string j.left.2.2.2)/\V.cell? ⟨y,10,none⟩=some (.string j.right.1)/\V.cell? ⟨y,11,none⟩=some (.int .i64 j.right.2.1)/\V.cell? ⟨y,12,none⟩=some (.int .i64 j.right.2.2.1)/\V.cell? ⟨y,13,none⟩=some (.string j.right.2.2.2)/\V.cell? ⟨y,14,none⟩=some (.int .i64 j.retry))/\V.cell? ⟨g,0,none⟩=some (.int .i64 at_)/\V.cell? ⟨A,0,none⟩=some (.slice (some ⟨cb,co,none⟩) NN T)) (exact KG.out _ (by first|exact B|exact B.drew|exact(Below.refl _ _).drew|exact Below.refl _ _)) (first|(go_at_call 35;refine(ap.out _ (by first|exact(Below.refl _ _).drew|exact Below.refl _ _)).mono ?_;rintro e w7 ⟨v7,rfl,E,Z⟩;have B:=Qaa (show Below wr.heap.size wr _ from(by first|exact(Below.refl _ _).drew|exact Below.refl _ _)) Z;clear Z))
    refine af.out _ _ ?_
    clear E
    go_wp2
    exact HP.out _ _ ⟨Or.inl ⟨by rw[ar.out];decide,by rw[ar.out];rfl⟩,Qaa HB.out B⟩
  ·obtain rfl:M=k:=by omega
   rw[<-ay.out,List.take_length] at hO ab
   have aM:=Hk (show(if rs.all (fun r=>decide (Qau (QdA tA.1 j r)))=true then Qbl 2 [(rs.map (Qdk tA.1 j at_))] else 2)=Qbl 2 [rs.map (Qdk tA.1 j at_)] from if_pos (List.all_eq_true.2 fun r hr=>decide_eq_true (ab r hr)))
   clear ab
   go_upto_region 69 with fail
   rename_i K2 I
   have af:=Hk I
   clear I
   go_wp2
   refine af.out _ _ ?_
   refine Qcn y gc cc q R 1 2 [c] [rs.map (Qdk tA.1 j at_)] wr al ?_ ?_ ?_ ?_ ?_ ?_ ?_ ?_ ?_ ?_ ?_ ?_
   ·rfl
   ·rfl
   ·decide
   ·decide
   ·exact(by decide)
   ·exact k1'
   ·exact q0'
   ·exact(HL.out.keep J).2.2.2.2.2.2.1
   ·exact(HL.out.keep J).2.2.2.2.2.2.2
   ·exact(Qeg hO)
   ·exact bj.out
   ·exact(fun e w' h1 h2=>HP.out _ _ (by rw[aM.out];exact Qbf.fin av e w' h1 h2))
end Go.Proofs.YtofidnijfnhpaaaGreatDoor
