import Derived.Test.YtofidnijfnhpaaaGreatDoorQ01
import Derived.Test.YtofidnijfnhpaaaGreatDoorQ07
set_option linter.unusedSimpArgs false
set_option linter.unusedVariables false
set_option linter.unusedSectionVars false
set_option maxRecDepth 1000000
set_option maxHeartbeats 16000000
namespace Go.Proofs.YtofidnijfnhpaaaGreatDoor
open Go.RowKit
theorem Qex (tb U tcap:Nat) (ts:List Tb) (j:Jb) (w:World) (ht:Qa0 w tb U ts) (aB:tb<w.heap.size) (hl:ts.length<=100) (bf:0<ts.length) (V:∀t∈ts,Qan t.1 t.2=true)
 (cs:List Cl) (M aq:List (List Vl)) (bt:M.length<=60) (hsz:∀x∈cs,x.1.size<=maxLen)
 (O:∀W B g ak us,Below w.heap.size w W->W.ownsRow B 33 1 (.slice (some ⟨g,0,none⟩) ts.length ak) ts.length us->QaA W us (ts.map (·.1))->Calls Tryz.prog 10 #[.agg j.cells,.slice (some ⟨g,0,none⟩) ts.length ak] W fun e w'=>∃v us,e=.returned (.tuple #[v,.nilIface])/\w'.ownsRow W.heap.size 33 1 v 1 us/\Qbi w' W.heap.size us cs/\Below W.heap.size W w')
 (N:∀W,Below w.heap.size w W->Calls Tryz.prog 40 #[.agg j.cells,.slice (some ⟨tb,U,none⟩) ts.length tcap] W fun e w'=>∃v1 v2 ae ad,e=.returned (.tuple #[v1,v2,.nilIface])/\w'.ownsRow W.heap.size 57 1 v1 M.length ae/\Qac w' W.heap.size ae M/\w'.ownsRow W.heap.size 57 1 v2 aq.length ad/\Qac w' W.heap.size ad aq/\Below W.heap.size W w'):
 Calls Tryz.prog 14 #[.agg j.cells,.slice (some ⟨tb,U,none⟩) ts.length tcap] w fun e w'=>∃g c,e=.returned (.tuple #[.slice (some ⟨g,0,none⟩) 1 c,.nilIface])/\w.heap.size<=g/\g<w'.heap.size/\QbR w' w.heap.size g [(cs,M)]/\Below w.heap.size w w':=by
 obtain⟨i0,hi,br,aS,aW⟩:=info_parts Tryz.infoCols
 have HG:=Hk V
 have HT:=Hk ht
 unfold Jb.cells at O N
 have aa:=Hk O
 have af:=Hk N
 clear O N
 clear V ht
 have am:=Qbd w j 28
 unfold Jb.cells at am⊢
 have aG:=Hk am
 clear am
 go_enter Tryz.func14,Tryz.ntmps14
 go_wp2
 refine QbH (G:=fun w=>Code.wp _ _ _ _ w) (fun J=>Qaz J w.heap.size j/\Below w.heap.size w J/\w.heap.size<J.heap.size) _ ⟨aG.out,Qab _ _,by simp⟩ ?_
 clear aG
 intro J ⟨A,ay,aY⟩
 have HJ:=Hk (Ai A ay)
 clear A ay
 go_loopw [6,16] (fun l i wr=>∃(k:Nat) (us:List Value),k<=ts.length/\i=.int .i64 k/\wr.ownsRow J.heap.size 33 1 l k us/\QaA w us ((ts.take k).map (·.1))/\Below J.heap.size J wr) (fun _ i _=>ts.length-(intOf i).toNat)
 case atStart=>exact⟨0,[],Nat.zero_le _,rfl,World.ownsRow_nil _ _ _ _,⟨rfl,fun j hj=>absurd hj (by simp)⟩,Below.refl _ _⟩
 case round=>
  obtain⟨k,us,hk,rfl,I,D,K⟩:=hrel
  obtain⟨la,lc,rfl⟩:=Qae I
  have E:Below w.heap.size w wr:=HJ.out.2.trans (K.mono HJ.out.2.size)
  have ce:=K.size
  have HO:=Hk (Ai I (Ai D (Ai K E)))
  by_cases hlt:k<ts.length
  ·obtain⟨vc,vr,c0,c1,hc,hr⟩:=HT.out k hlt
   have d0:=cK E aB c0
   have d1:=cK E aB c1
   have ah:=fun W (hW:Below wr.heap.size wr W)=>Qcr vc vr ts[k].1 ts[k].2 W ((hc.below E).below hW) ((hr.below E).below hW)
   have a8:=Hk hc
   obtain⟨ca,cc,rfl,-⟩:=hc
   obtain⟨ra,rc,rfl,-⟩:=hr
   have g:=HG.out _ (List.getElem_mem hlt)
   simp only[g] at ah
   have aU:=Hk ah
   clear ah c0 c1 I D E K g
   have al:(ts.take (k+1)).map (·.1)=(ts.take k).map (·.1)++[ts[k].1]:=by rw[List.take_succ_eq_append_getElem hlt,List.map_append];rfl
   have HM:=Hk al
   clear al
   generalize a5:ts[k].1=q1 at*
   clear a5
   generalize aR:ts[k].2.length=n2 at*
   clear aR
   go_wp2_with (first|(go_at_call 39;refine(aU.out _ (Qab _ _)).mono ?_;rintro e w1 ⟨rfl,T⟩;obtain⟨bd,a4⟩:=QbM T;have bU:wr.heap.size<w1.heap.size:=by(have:=T.size;simp at this;omega))|(at_builtin;refine wpList_append_own _ rfl _ _ 31 rfl J.heap.size 33 i0 (.slice none 0 0) 1 24 Tryz.underlying31 hi br aS aW rfl (by decide) _ _ _ rfl ((Qaf (HO.out.1.alloc _) T).alloc _) ⟨w1.heap.size,0,none⟩ 1 1 [.slice ca q1.length cc] rfl rfl (QbG _ _ _ _ rfl) (QbZ _ _ _) ?c3 ?c4 ?c5 ?_))
   case c3=>unfold maxLen;omega
   case c4=>omega
   case c5=>have:=T.size;simp at this⊢;omega
   intro v' w5 Z ab _
   obtain⟨p1,p2,p3,p4⟩:=HO.out
   have ai:Below J.heap.size J w5:=((Qaa (Qad p3 _) T).alloc (by omega) _).grown ab (by simp;omega) (fun q hq=>(p1.lt q hq).1)
   have az:QaA w (us++[.slice ca q1.length cc]) ((ts.take (k+1)).map (·.1)):=by
    rw[HM.out]
    exact p2.snoc a8.out
   have HF:=Hk (Ai Z (Ai az ai))
   clear Z ab ai bd a4 p1 p2 p3 p4 az
   go_wp2
   go_roundw
   case rel=>exact⟨k+1,_,by omega,by go_num,HF.out.1,HF.out.2.1,HF.out.2.2⟩
   case measure=>simp[intOf];omega
  ·have aX:k=ts.length:=by omega
   subst aX
   simp only[List.take_length] at D
   obtain⟨g,ak,aE,b6⟩:=Qci (css:=ts.map (·.1)) (by simpa using I) (by simpa using bf)
   simp only[List.length_map,Value.slice.injEq,true_and] at aE
   obtain⟨rfl,rfl⟩:=aE
   have HC:=Hk (aa.out wr J.heap.size g lc us E I (D.below E))
   have A:=HJ.out.1.below K aY
   have j0:wr.cell? ⟨w.heap.size,0,none⟩=some (.int .i64 j.at_):=A 0 _ rfl
   have j1:wr.cell? ⟨w.heap.size,1,none⟩=some (.int .i64 j.code):=A 1 _ rfl
   have j2:wr.cell? ⟨w.heap.size,2,none⟩=some j.outs:=A 2 _ rfl
   have j3:wr.cell? ⟨w.heap.size,3,none⟩=some j.ins:=A 3 _ rfl
   have j4:wr.cell? ⟨w.heap.size,4,none⟩=some j.cols:=A 4 _ rfl
   have j5:wr.cell? ⟨w.heap.size,5,none⟩=some (.string j.op):=A 5 _ rfl
   have j6:wr.cell? ⟨w.heap.size,6,none⟩=some (.string j.left.1):=A 6 _ rfl
   have j7:wr.cell? ⟨w.heap.size,7,none⟩=some (.int .i64 j.left.2.1):=A 7 _ rfl
   have j8:wr.cell? ⟨w.heap.size,8,none⟩=some (.int .i64 j.left.2.2.1):=A 8 _ rfl
   have j9:wr.cell? ⟨w.heap.size,9,none⟩=some (.string j.left.2.2.2):=A 9 _ rfl
   have bb:wr.cell? ⟨w.heap.size,10,none⟩=some (.string j.right.1):=A 10 _ rfl
   have aP:wr.cell? ⟨w.heap.size,11,none⟩=some (.int .i64 j.right.2.1):=A 11 _ rfl
   have bj:wr.cell? ⟨w.heap.size,12,none⟩=some (.int .i64 j.right.2.2.1):=A 12 _ rfl
   have ba:wr.cell? ⟨w.heap.size,13,none⟩=some (.string j.right.2.2.2):=A 13 _ rfl
   have a7:wr.cell? ⟨w.heap.size,14,none⟩=some (.int .i64 j.retry):=A 14 _ rfl
   have o:=Hk A
   have z:=A.lt
   clear A I D E K aa
   go_wp2_with (go_at_call 10;refine HC.out.mono ?_;rintro e w2 ⟨vv,uu,rfl,ao,aA,h⟩;obtain⟨b9,ch,rfl⟩:=Qae ao;have k0:=((o.out.below h z) 0 (.int .i64 j.at_) rfl);have k1:=((o.out.below h z) 1 (.int .i64 j.code) rfl);have k2:=((o.out.below h z) 2 j.outs rfl);have k3:=((o.out.below h z) 3 j.ins rfl);have k4:=((o.out.below h z) 4 j.cols rfl);have k5:=((o.out.below h z) 5 (.string j.op) rfl);have k6:=((o.out.below h z) 6 (.string j.left.1) rfl);have k7:=((o.out.below h z) 7 (.int .i64 j.left.2.1) rfl);have k8:=((o.out.below h z) 8 (.int .i64 j.left.2.2.1) rfl);have k9:=((o.out.below h z) 9 (.string j.left.2.2.2) rfl);have bl:=((o.out.below h z) 10 (.string j.right.1) rfl);have a9:=((o.out.below h z) 11 (.int .i64 j.right.2.1) rfl);have a6:=((o.out.below h z) 12 (.int .i64 j.right.2.2.1) rfl);have bp:=((o.out.below h z) 13 (.string j.right.2.2.2) rfl);have aQ:=((o.out.below h z) 14 (.int .i64 j.retry) rfl))
   have F:=Qaa HO.out.2.2.2 h
   have aC:=Hk (af.out w2 F)
   refine aC.out.mono ?_
   rintro e w3 ⟨x1,x2,ae,ad,rfl,o1,o2,o3,o4,ac⟩
   obtain⟨ci,cb,rfl⟩:=Qae o1
   obtain⟨cf,b7,rfl⟩:=Qae o3
   have ap:=Qaa F ac
   have aH:Qbq w3 w.heap.size _ M:=⟨ae,Qam F.size o1,o2.mono F.size⟩
   have ax:Qbq w3 w.heap.size _ aq:=⟨ad,Qam F.size o3,o4.mono F.size⟩
   obtain⟨g2,y,cg,ar,bh,aK,aD⟩:=Qjd ao (by decide)
   simp only[Value.slice.injEq,true_and] at ar
   obtain⟨rfl,-⟩:=ar
   have aj:Qby w3 w.heap.size y cs:=⟨Qam HO.out.2.2.2.size (Qaf (aA y (by rw[bh];simp)) ac),hsz⟩
   have d0:=cK ac aK aD
   obtain⟨ya,yc,rfl⟩:=Qae aj.1
   have b8:g2<w3.heap.size:=by have:=ac.size;omega
   have cd:¬((60:Int)<(M.length:Int)):=by omega
   have HZ:=Hk (Ai ap (Ai aH (Ai ax aj)))
   clear j0 j1 j2 j3 j4 j5 j6 j7 j8 j9 bb aP bj ba a7 k0 k1 k2 k3 k4 k5 k6 k7 k8 k9 bl a9 a6 bp aQ aC af ap aH ax aj o1 o2 o3 o4 aD ao aA
   go_wp2
   go_ret2
   refine⟨_,_,rfl,HZ.out.1.size,by simp,?_,Qad HZ.out.1 _⟩
   intro q hq
   have aV:q=0:=by simp at hq;omega
   subst aV
   exact⟨_,_,by simp,by simp,HZ.out.2.2.2.below (Qab _ _),HZ.out.2.1.below (Qab _ _)⟩
theorem Ql6 (tb af tcap:Nat) (ts:List Tb) (j:Jb) (w:World) (ht:Qa0 w tb af ts) (aN:tb<w.heap.size) (hl:ts.length<=100) (bw:0<ts.length) (ai:∀t∈ts,Qan t.1 t.2=true)
 (cs:List Cl) (Z ag:List (List Vl)) (bO:Z.length<=60) (hsz:∀x∈cs,x.1.size<=maxLen)
 (ac:∀W B g az us,Below w.heap.size w W->W.ownsRow B 33 1 (.slice (some ⟨g,0,none⟩) ts.length az) ts.length us->QaA W us (ts.map (·.1))->Calls Tryz.prog 10 #[.agg j.cells,.slice (some ⟨g,0,none⟩) ts.length az] W fun e w'=>∃v us,e=.returned (.tuple #[v,.nilIface])/\w'.ownsRow W.heap.size 33 1 v 2 us/\Qbi w' W.heap.size us cs/\Below W.heap.size W w')
 (aa:∀W,Below w.heap.size w W->Calls Tryz.prog 40 #[.agg j.cells,.slice (some ⟨tb,af,none⟩) ts.length tcap] W fun e w'=>∃v1 v2 am ak,e=.returned (.tuple #[v1,v2,.nilIface])/\w'.ownsRow W.heap.size 57 1 v1 Z.length am/\Qac w' W.heap.size am Z/\w'.ownsRow W.heap.size 57 1 v2 ag.length ak/\Qac w' W.heap.size ak ag/\Below W.heap.size W w'):
 Calls Tryz.prog 14 #[.agg j.cells,.slice (some ⟨tb,af,none⟩) ts.length tcap] w fun e w'=>∃g c,e=.returned (.tuple #[.slice (some ⟨g,0,none⟩) 2 c,.nilIface])/\w.heap.size<=g/\g<w'.heap.size/\QbR w' w.heap.size g [(cs,Z),(cs,ag)]/\Below w.heap.size w w':=by
 obtain⟨i0,hi,bL,a9,bc⟩:=info_parts Tryz.infoCols
 have HG:=Hk ai
 have HT:=Hk ht
 unfold Jb.cells at ac aa
 have aj:=Hk ac
 have ao:=Hk aa
 clear ac aa
 clear ai ht
 have aB:=Qbd w j 28
 unfold Jb.cells at aB⊢
 have aS:=Hk aB
 clear aB
 go_enter Tryz.func14,Tryz.ntmps14
 go_wp2
 refine QbH (G:=fun w=>Code.wp _ _ _ _ w) (fun O=>Qaz O w.heap.size j/\Below w.heap.size w O/\w.heap.size<O.heap.size) _ ⟨aS.out,Qab _ _,by simp⟩ ?_
 clear aS
 intro O ⟨A,aL,bf⟩
 have HJ:=Hk (Ai A aL)
 clear A aL
 go_loopw [6,16] (fun l i wr=>∃(k:Nat) (us:List Value),k<=ts.length/\i=.int .i64 k/\wr.ownsRow O.heap.size 33 1 l k us/\QaA w us ((ts.take k).map (·.1))/\Below O.heap.size O wr) (fun _ i _=>ts.length-(intOf i).toNat)
 case atStart=>exact⟨0,[],Nat.zero_le _,rfl,World.ownsRow_nil _ _ _ _,⟨rfl,fun j hj=>absurd hj (by simp)⟩,Below.refl _ _⟩
 case round=>
  obtain⟨k,us,hk,rfl,N,D,U⟩:=hrel
  obtain⟨la,lc,rfl⟩:=Qae N
  have K:Below w.heap.size w wr:=HJ.out.2.trans (U.mono HJ.out.2.size)
  have cB:=U.size
  have HO:=Hk (Ai N (Ai D (Ai U K)))
  by_cases hlt:k<ts.length
  ·obtain⟨vc,vr,c0,c1,hc,hr⟩:=HT.out k hlt
   have d0:=cK K aN c0
   have d1:=cK K aN c1
   have aq:=fun W (hW:Below wr.heap.size wr W)=>Qcr vc vr ts[k].1 ts[k].2 W ((hc.below K).below hW) ((hr.below K).below hW)
   have bo:=Hk hc
   obtain⟨ca,cc,rfl,-⟩:=hc
   obtain⟨ra,rc,rfl,-⟩:=hr
   have g:=HG.out _ (List.getElem_mem hlt)
   simp only[g] at aq
   have bb:=Hk aq
   clear aq c0 c1 N D K U g
   have aA:(ts.take (k+1)).map (·.1)=(ts.take k).map (·.1)++[ts[k].1]:=by rw[List.take_succ_eq_append_getElem hlt,List.map_append];rfl
   have HM:=Hk aA
   clear aA
   generalize bl:ts[k].1=q1 at*
   clear bl
   generalize a8:ts[k].2.length=n2 at*
   clear a8
   go_wp2_with (first|(go_at_call 39;refine(bb.out _ (Qab _ _)).mono ?_;rintro e w1 ⟨rfl,ad⟩;obtain⟨bu,bk⟩:=QbM ad;have cm:wr.heap.size<w1.heap.size:=by(have:=ad.size;simp at this;omega))|(at_builtin;refine wpList_append_own _ rfl _ _ 31 rfl O.heap.size 33 i0 (.slice none 0 0) 1 24 Tryz.underlying31 hi bL a9 bc rfl (by decide) _ _ _ rfl ((Qaf (HO.out.1.alloc _) ad).alloc _) ⟨w1.heap.size,0,none⟩ 1 1 [.slice ca q1.length cc] rfl rfl (QbG _ _ _ _ rfl) (QbZ _ _ _) ?c3 ?c4 ?c5 ?_))
   case c3=>unfold maxLen;omega
   case c4=>omega
   case c5=>have:=ad.size;simp at this⊢;omega
   intro v' w5 I J _
   obtain⟨p1,p2,p3,p4⟩:=HO.out
   have ar:Below O.heap.size O w5:=((Qaa (Qad p3 _) ad).alloc (by omega) _).grown J (by simp;omega) (fun q hq=>(p1.lt q hq).1)
   have aM:QaA w (us++[.slice ca q1.length cc]) ((ts.take (k+1)).map (·.1)):=by
    rw[HM.out]
    exact p2.snoc bo.out
   have HF:=Hk (Ai I (Ai aM ar))
   clear I J ar bu bk p1 p2 p3 p4 aM
   go_wp2
   go_roundw
   case rel=>exact⟨k+1,_,by omega,by go_num,HF.out.1,HF.out.2.1,HF.out.2.2⟩
   case measure=>simp[intOf];omega
  ·have bd:k=ts.length:=by omega
   subst bd
   simp only[List.take_length] at D
   obtain⟨g,az,aR,cw⟩:=Qci (css:=ts.map (·.1)) (by simpa using N) (by simpa using bw)
   simp only[List.length_map,Value.slice.injEq,true_and] at aR
   obtain⟨rfl,rfl⟩:=aR
   have HC:=Hk (aj.out wr O.heap.size g lc us K N (D.below K))
   have A:=HJ.out.1.below U bf
   have j0:wr.cell? ⟨w.heap.size,0,none⟩=some (.int .i64 j.at_):=A 0 _ rfl
   have j1:wr.cell? ⟨w.heap.size,1,none⟩=some (.int .i64 j.code):=A 1 _ rfl
   have j2:wr.cell? ⟨w.heap.size,2,none⟩=some j.outs:=A 2 _ rfl
   have j3:wr.cell? ⟨w.heap.size,3,none⟩=some j.ins:=A 3 _ rfl
   have j4:wr.cell? ⟨w.heap.size,4,none⟩=some j.cols:=A 4 _ rfl
   have j5:wr.cell? ⟨w.heap.size,5,none⟩=some (.string j.op):=A 5 _ rfl
   have j6:wr.cell? ⟨w.heap.size,6,none⟩=some (.string j.left.1):=A 6 _ rfl
   have j7:wr.cell? ⟨w.heap.size,7,none⟩=some (.int .i64 j.left.2.1):=A 7 _ rfl
   have j8:wr.cell? ⟨w.heap.size,8,none⟩=some (.int .i64 j.left.2.2.1):=A 8 _ rfl
   have j9:wr.cell? ⟨w.heap.size,9,none⟩=some (.string j.left.2.2.2):=A 9 _ rfl
   have bs:wr.cell? ⟨w.heap.size,10,none⟩=some (.string j.right.1):=A 10 _ rfl
   have a5:wr.cell? ⟨w.heap.size,11,none⟩=some (.int .i64 j.right.2.1):=A 11 _ rfl
   have bC:wr.cell? ⟨w.heap.size,12,none⟩=some (.int .i64 j.right.2.2.1):=A 12 _ rfl
   have br:wr.cell? ⟨w.heap.size,13,none⟩=some (.string j.right.2.2.2):=A 13 _ rfl
   have bn:wr.cell? ⟨w.heap.size,14,none⟩=some (.int .i64 j.retry):=A 14 _ rfl
   have o:=Hk A
   have z:=A.lt
   clear A N D K U aj
   go_wp2_with (go_at_call 10;refine HC.out.mono ?_;rintro e w2 ⟨vv,uu,rfl,ae,av,h⟩;obtain⟨cy,cC,rfl⟩:=Qae ae;have k0:=((o.out.below h z) 0 (.int .i64 j.at_) rfl);have k1:=((o.out.below h z) 1 (.int .i64 j.code) rfl);have k2:=((o.out.below h z) 2 j.outs rfl);have k3:=((o.out.below h z) 3 j.ins rfl);have k4:=((o.out.below h z) 4 j.cols rfl);have k5:=((o.out.below h z) 5 (.string j.op) rfl);have k6:=((o.out.below h z) 6 (.string j.left.1) rfl);have k7:=((o.out.below h z) 7 (.int .i64 j.left.2.1) rfl);have k8:=((o.out.below h z) 8 (.int .i64 j.left.2.2.1) rfl);have k9:=((o.out.below h z) 9 (.string j.left.2.2.2) rfl);have bE:=((o.out.below h z) 10 (.string j.right.1) rfl);have bq:=((o.out.below h z) 11 (.int .i64 j.right.2.1) rfl);have bm:=((o.out.below h z) 12 (.int .i64 j.right.2.2.1) rfl);have bJ:=((o.out.below h z) 13 (.string j.right.2.2.2) rfl);have a6:=((o.out.below h z) 14 (.int .i64 j.retry) rfl))
   have M:=Qaa HO.out.2.2.2 h
   have aO:=Hk (ao.out w2 M)
   refine aO.out.mono ?_
   rintro e T ⟨x1,x2,am,ak,rfl,o1,o2,o3,o4,V⟩
   obtain⟨cD,cz,rfl⟩:=Qae o1
   obtain⟨bA,bi,rfl⟩:=Qae o3
   have aG:=Qaa M V
   have aT:Qbq T w.heap.size _ Z:=⟨am,Qam M.size o1,o2.mono M.size⟩
   have aK:Qbq T w.heap.size _ ag:=⟨ak,Qam M.size o3,o4.mono M.size⟩
   obtain⟨g2,y,aP,aD,al,ax,aQ⟩:=Qjd ae (by decide)
   simp only[Value.slice.injEq,true_and] at aD
   obtain⟨rfl,-⟩:=aD
   have ay:Qby T w.heap.size y cs:=⟨Qam HO.out.2.2.2.size (Qaf (av y (by rw[al];simp)) V),hsz⟩
   have d0:=cK V ax aQ
   obtain⟨y',aJ,aE⟩:∃y' aJ,aP=y'::aJ:=by
    have:=ae.1
    rw[al] at this
    cases aP with
    |nil=>simp at this
    |cons a b=>exact⟨a,b,rfl⟩
   have hy3':Qby T w.heap.size y' cs:=⟨Qam HO.out.2.2.2.size (Qaf (av y' (by rw[al,aE];simp)) V),hsz⟩
   have d1:=(V.cell (p:=⟨g2,1,none⟩) ax).trans (Qew ae 1 y' (by decide) (by rw[al,aE];rfl))
   obtain⟨a7,bp,rfl⟩:=Qae hy3'.1
   have HY:=Hk hy3'
   clear hy3'
   obtain⟨ya,yc,rfl⟩:=Qae ay.1
   have cx:g2<T.heap.size:=by have:=V.size;omega
   have cA:¬((60:Int)<(Z.length:Int)):=by omega
   have HZ:=Hk (Ai aG (Ai aT (Ai aK ay)))
   clear j0 j1 j2 j3 j4 j5 j6 j7 j8 j9 bs a5 bC br bn k0 k1 k2 k3 k4 k5 k6 k7 k8 k9 bE bq bm bJ a6 aO ao aG aT aK ay o1 o2 o3 o4 aQ ae av
   obtain⟨i1,gi,bK,bj,bz⟩:=info_parts Tryz.infoTab
   go_wp2_with (at_builtin;refine wpList_append_own _ rfl _ _ 29 rfl w.heap.size 36 i1 (.agg #[.slice none 0 0,.slice none 0 0]) 2 48 Tryz.underlying29 gi bK bj bz rfl (by decide) _ _ _ rfl ((Qks T _ _ _ w.heap.size T.heap.size (by have:=HZ.out.1.size;omega) rfl).alloc _) ⟨T.heap.size+1,0,none⟩ 1 1 [.slice a7 cs.length bp,.slice bA ag.length bi] rfl rfl ?c1 ?c2 ?c3 ?c4 ?c5 ?_)
   case c1=>
    intro j u hj
    match j,hj with
    |0,hj=>simp at hj;subst hj;simp[Addr.add]
    |1,hj=>simp at hj;subst hj;simp[Addr.add]
   case c2=>intro u hu;simp at hu;rcases hu with rfl|rfl<;>rfl
   case c3=>unfold maxLen;omega
   case c4=>omega
   case c5=>have:=HZ.out.1.size;simp;omega
   intro v' w5 I J _
   have cE:=HZ.out.1.size
   have E:Below T.heap.size T w5:=(Qad (Qab T _) _).grown J (by simp;omega) (fun q hq=>by simp[Value.ownBlock] at hq;omega)
   obtain⟨g5,bV,bH,aC,aI,F⟩:=QaY I (by decide)
   subst bH
   have bN:=Hk (Ai E (Ai F (Ai aI aC)))
   clear I J E F
   go_wp2
   go_ret2
   obtain⟨E,F,aI,aC⟩:=bN.out
   refine⟨_,_,rfl,aC,aI,?_,Qaa HZ.out.1 E⟩
   intro q hq
   have be:q=0\/q=1:=by simp at hq;omega
   rcases be with rfl|rfl
   ·exact⟨_,_,F 0 _ rfl,F 1 _ rfl,HZ.out.2.2.2.below E,HZ.out.2.1.below E⟩
   ·exact⟨_,_,F 2 _ rfl,F 3 _ rfl,HY.out.below E,HZ.out.2.2.1.below E⟩
theorem Qd3:∀(j:List Vl) (cs:List Cl),Qbm j cs=true->j.length=cs.length:=fun j cs h=>by
 by_cases hl:j.length=cs.length
 ·exact hl
 ·rw[Qc2 j cs hl] at h;cases h
theorem Qar {cs:List Cl} {rs:List (List Vl)} (h:Qan cs rs=true):1<=cs.length/\cs.length<=6/\rs.length<=60/\∀r∈rs,r.length=cs.length:=by
 obtain⟨o,y,q⟩:=Qbh h
 have j:=Qcw o
 exact⟨j.1,j.2,y,fun r hr=>Qd3 r cs (q r hr)⟩
theorem QbI {w:World} {v:Value} {cs:List Cl} (h:Qav w v cs):∀x∈cs,x.1.size<=maxLen:=by
 obtain⟨_,_,_,_,j,_⟩:=h;exact j
theorem Qcp {w:World} {v:Value} {cs:List Cl} (h:Qav w v cs) (j:1<=cs.length):∃b o c,v=.slice (some ⟨b,o,none⟩) cs.length c/\b<w.heap.size/\Qas w b o cs:=by
 obtain⟨a,c,rfl,-,-,h⟩:=h
 rcases h with h|⟨b,o,rfl,y,q⟩
 ·rw[h] at j;simp at j
 ·exact⟨b,o,c,rfl,y,q⟩
theorem Qe6 {cs:List Cl} {j:Jb} (h:Qax cs j=0):Qb3 cs j.left/\(QaI cs j.right≠0->Qb3 cs j.right):=by
 unfold Qax at h
 split at h
 ·cases h
 ·constructor
  ·cases g:Qak cs j.left.1.data.toList with
   |none=>rw[g] at h;cases h
   |some i=>exact Or.inr ⟨i,g⟩
  ·intro o
   unfold QaI at o
   split at o
   ·rename_i he;exact Or.inl he
   ·cases g:Qak cs j.right.1.data.toList with
    |none=>rw[g] at o;exact absurd rfl o
    |some i=>exact Or.inr ⟨i,g⟩
theorem Qe7 {cs:List Cl} {j:Jb} (q:∀c∈cs,c.2≠0) (h:Qax cs j=0):QaI cs j.right≠0:=by
 unfold Qax at h
 split at h
 ·cases h
 ·cases g:Qak cs j.left.1.data.toList with
  |none=>rw[g] at h;cases h
  |some i=>
   rw[g] at h
   have o:=Qaj g
   simp only[List.getElem?_eq_getElem o,Option.getD_some] at h
   split at h
   ·rename_i e;rw[e];exact q _ (List.getElem_mem o)
   ·cases h
def Qe8 (j:Jb) (m:Nat) (t:Tb):Int:=if Qan t.1 t.2=false then 1 else if(m:Int)≠(QaP j.code).2 then 1 else Qax t.1 j
theorem QhV {cs:List Cl} (h:Qah cs=true):∀c∈cs,c.2≠0:=by
 intro c j
 have o:=(Qep cs [] (by simp[Qah] at h;exact h.2.2) c j).2
 simp[Qfz] at o
 omega
theorem Qcy {W:World} {B g h:Nat} {us:List Value} {cs:List Cl} (j:W.ownsRow B 33 1 (.slice (some ⟨g,0,none⟩) 1 h) 1 us) (D:QaA W us [cs]) (A:1<=cs.length):
 ∃b o c,W.cell? ⟨g,0,none⟩=some (.slice (some ⟨b,o,none⟩) cs.length c)/\g<W.heap.size/\b<W.heap.size/\Qas W b o cs:=by
 obtain⟨u,z,E⟩:=D.2 0 (by simp)
 obtain⟨b,o,c,rfl,q,y⟩:=Qcp E A
 exact⟨b,o,c,Qew j 0 _ (by decide) z,(j.lt g rfl).2,q,y⟩
theorem Qd4 {t:Tb} {j:Jb} {w:World} (J:Option Addr) (D K:Nat) (y:j.code=1\/j.code=9) (I:j.outs=.slice J D K) (M:QaP j.code=(((1:Nat):Int),(D:Int))) (U:D<=2) (O:j.right.2.2.2.size<=maxLen) (Z:Qan t.1 t.2=true) (he:Qax t.1 j=0):
 ∀W B g q us,Below w.heap.size w W->W.ownsRow B 33 1 (.slice (some ⟨g,0,none⟩) [t].length q) [t].length us->QaA W us ([t].map (·.1))->Calls Tryz.prog 10 #[.agg j.cells,.slice (some ⟨g,0,none⟩) [t].length q] W fun e w'=>∃v us,e=.returned (.tuple #[v,.nilIface])/\w'.ownsRow W.heap.size 33 1 v D us/\Qbi w' W.heap.size us t.1/\Below W.heap.size W w':=by
 obtain⟨N,aa,ab,ac⟩:=Qar Z
 intro W B g q us hW V T
 obtain⟨b,o,c,F,z,A,E⟩:=Qcy V T N
 refine Qde _ J q K j 1 D t.1 W I M (by decide) U (fun W' hW'=>?_) (fun W' hW'=>Qa4 g 0 1 q b o t.1.length c t.1 j W' (by rcases y with h|h;exact Or.inl h;exact Or.inr (Or.inl h)) (by decide) (Nat.lt_of_lt_of_le z hW'.size) (cK hW' z F) rfl (by omega) (Nat.lt_of_lt_of_le A hW'.size) (E.below hW' A))
 have:=QdL g 0 1 q b o t.1.length c t.1 j W' y (by decide) (Nat.lt_of_lt_of_le z hW'.size) (cK hW' z F) rfl (by omega) (Nat.lt_of_lt_of_le A hW'.size) (E.below hW' A) O
 rw[he] at this
 exact this
theorem Qd5 {o h tcap:Nat} {t:Tb} {j:Jb} {w:World} (z:j.code=1\/j.code=9) (K:Qa0 w o h [t]) (y:o<w.heap.size) (F:Qan t.1 t.2=true) (he:Qax t.1 j=0):
 ∀W,Below w.heap.size w W->Calls Tryz.prog 40 #[.agg j.cells,.slice (some ⟨o,h,none⟩) [t].length tcap] W fun e w'=>∃v1 v2 us1 us2,e=.returned (.tuple #[v1,v2,.nilIface])/\w'.ownsRow W.heap.size 57 1 v1 (t.2.filter (QaH t.1 j)).length us1/\Qac w' W.heap.size us1 (t.2.filter (QaH t.1 j))/\w'.ownsRow W.heap.size 57 1 v2 (t.2.filter (fun r=> !QaH t.1 j r)).length us2/\Qac w' W.heap.size us2 (t.2.filter (fun r=> !QaH t.1 j r))/\Below W.heap.size W w':=by
 obtain⟨E,O,T,I⟩:=Qar F
 obtain⟨D,B⟩:=Qe6 he
 have ok2':=B (Qe7 (QhV (Qbh F).1) he)
 intro W q
 obtain⟨M,J,c0,c1,N,A⟩:=K 0 (by simp)
 exact Qhe o h 1 tcap M J t.1 t.2 j W z (by decide) (Nat.lt_of_lt_of_le y q.size) ((q.cell (p:=⟨o,h,none⟩) y).trans (by simpa using c0)) ((q.cell (p:=⟨o,h+1,none⟩) y).trans (by simpa using c1)) (N.below q) (A.below q) E (by omega) I (by omega) D ok2'
theorem QhW {j:Jb} {m o:Nat} {t:Tb} (q:QaP j.code=(((1:Nat):Int),(o:Int))) (h:Qe8 j m t=0):Qan t.1 t.2=true/\m=o/\Qax t.1 j=0:=by
 unfold Qe8 at h
 split at h
 ·cases h
 ·split at h
  ·cases h
  ·rename_i z y
   refine⟨by simpa using z,?_,h⟩
   rw[q] at y
   have A:¬¬((m:Int)=(o:Int)):=y
   omega
theorem Qje (q o tcap:Nat) (t:Tb) (j:Jb) (F:Option Addr) (m I:Nat) (w:World) (h:j.code=1) (D:j.outs=.slice F m I) (E:Qa0 w q o [t]) (A:q<w.heap.size) (M:j.right.2.2.2.size<=maxLen) (K:Qe8 j m t=0):
 Calls Tryz.prog 14 #[.agg j.cells,.slice (some ⟨q,o,none⟩) 1 tcap] w fun e w'=>∃g c,e=.returned (.tuple #[.slice (some ⟨g,0,none⟩) 1 c,.nilIface])/\w.heap.size<=g/\g<w'.heap.size/\QbR w' w.heap.size g [(t.1,t.2.filter (QaH t.1 j))]/\Below w.heap.size w w':=by
 have B:QaP j.code=(((1:Nat):Int),((1:Nat):Int)):=by rw[h];rfl
 obtain⟨y,rfl,he⟩:=QhW B K
 obtain⟨V,O,J,T⟩:=Qar y
 obtain⟨vc,Z,c0,c1,N,U⟩:=E 0 (by simp)
 exact Qex q o tcap [t] j w E A (by simp) (by simp) (by intro x z;simp at z;rw[z];exact y) t.1 _ _ (Nat.le_trans (List.length_filter_le _ _) J) (QbI N) (Qd4 F 1 I (Or.inl h) D B (by decide) M y he) (Qd5 (Or.inl h) E A y he)
theorem Qkt (q o tcap:Nat) (t:Tb) (j:Jb) (F:Option Addr) (m I:Nat) (w:World) (h:j.code=9) (D:j.outs=.slice F m I) (E:Qa0 w q o [t]) (A:q<w.heap.size) (M:j.right.2.2.2.size<=maxLen) (K:Qe8 j m t=0):
 Calls Tryz.prog 14 #[.agg j.cells,.slice (some ⟨q,o,none⟩) 1 tcap] w fun e w'=>∃g c,e=.returned (.tuple #[.slice (some ⟨g,0,none⟩) 2 c,.nilIface])/\w.heap.size<=g/\g<w'.heap.size/\QbR w' w.heap.size g [(t.1,t.2.filter (QaH t.1 j)),(t.1,t.2.filter (fun r=> !QaH t.1 j r))]/\Below w.heap.size w w':=by
 have B:QaP j.code=(((1:Nat):Int),((2:Nat):Int)):=by rw[h];rfl
 obtain⟨y,rfl,he⟩:=QhW B K
 obtain⟨V,O,J,T⟩:=Qar y
 obtain⟨vc,Z,c0,c1,N,U⟩:=E 0 (by simp)
 exact Ql6 q o tcap [t] j w E A (by simp) (by simp) (by intro x z;simp at z;rw[z];exact y) t.1 _ _ (Nat.le_trans (List.length_filter_le _ _) J) (QbI N) (Qd4 F 2 I (Or.inr h) D B (by decide) M y he) (Qd5 (Or.inr h) E A y he)
theorem Ql7 (b o c j q F n:Nat) (cs:List Cl) (w:World) (D:cs.length=n) (M:n<=100) (A:b<w.heap.size) (z:j<w.heap.size) (I:Qas w b o cs) (B:Qas w j q cs):
 Calls Tryz.prog 48 #[.slice (some ⟨b,o,none⟩) n c,.slice (some ⟨j,q,none⟩) n F] w fun e w'=>e=.returned (.bool true)/\Below w.heap.size w w':=by
 have E:=Hk D
 clear D
 go_enter Tryz.func48,Tryz.ntmps48
 go_wp2
 go_loopw [13] (fun i wr=>∃k:Nat,k<=n/\i=.int .i64 k/\Below w.heap.size w wr) (fun i _=>n-(intOf i).toNat)
 case atStart=>exact⟨0,Nat.zero_le _,rfl,Below.refl _ _⟩
 case round=>
  obtain⟨k,J,rfl,h⟩:=hrel
  by_cases hlt:k<n
  ·have y:k<cs.length:=by have:=E.out;omega
   obtain⟨c1,c2⟩:=I k y
   have d1:=cK h A c1
   have d2:=cK h A c2
   obtain⟨c3,c4⟩:=B k y
   have d3:=cK h z c3
   have K:=cK h z c4
   clear c1 c2 c3 c4
   go_wp2
   go_quiet (fail)
   go_wp2
   go_roundw
   case rel=>exact⟨k+1,by omega,by go_num,below_drewN h _⟩
   case measure=>simp[intOf];omega
  ·go_wp2
   go_ret
   exact⟨rfl,h⟩
def Qjf (w:World) (v:Value) (ss:List ByteArray):Prop:=∃a c,v=.slice a ss.length c/\(∀s∈ss,s.size<=maxLen)/\(ss=[]\/∃b o,a=some ⟨b,o,none⟩/\b<w.heap.size/\QbO w b o ss)
theorem Qjf.below {w y:World} {v:Value} {ss:List ByteArray} (h:Qjf w v ss) (j:Below w.heap.size w y):Qjf y v ss:=by
 obtain⟨a,c,e,A,h⟩:=h
 refine⟨a,c,e,A,?_⟩
 rcases h with h|⟨b,o,B,q,z⟩
 ·exact Or.inl h
 ·exact Or.inr ⟨b,o,B,Nat.lt_of_lt_of_le q j.size,z.below j q⟩
def Jb.sized (j:Jb):Prop:=j.op.size<=maxLen/\j.left.1.size<=maxLen/\j.right.1.size<=maxLen/\j.left.2.2.2.size<=maxLen/\j.right.2.2.2.size<=maxLen
end Go.Proofs.YtofidnijfnhpaaaGreatDoor
