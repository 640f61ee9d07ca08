import Derived.Test.YtjlgejennghhlaaGreatDoorR01
import Derived.Test.YtjlgejennghhlaaGreatDoorR10
import Derived.Test.YtjlgejennghhlaaGreatDoorR20
set_option linter.unusedSimpArgs false
set_option linter.unusedVariables false
set_option linter.unusedSectionVars false
set_option maxRecDepth 1000000
set_option maxHeartbeats 16000000
namespace Go.Proofs.YtjlgejennghhlaaGreatDoor
open Go.RowKit
theorem Qi4 (tb O tcap:Nat) (ts:List Tb) (j:Jb) (w:World) (ht:QaZ w tb O ts) (ak:tb<w.heap.size) (hl:ts.length<=100) (ax:0<ts.length) (V:∀t∈ts,Qae t.1 t.2=true)
 (cs:List Cl) (mk:Nat) (n:Int) (hn:n≠0)
 (N:∀W B g ah us,Below w.heap.size w W->W.ownsRow B 51 1 (.slice (some ⟨g,0,none⟩) ts.length ah) ts.length us->QaE W us (ts.map (·.1))->Calls Tryz.prog 59 #[.agg j.cells,.slice (some ⟨g,0,none⟩) ts.length ah] W fun e w'=>∃v us,e=.returned (.tuple #[v,.nilIface])/\w'.ownsRow W.heap.size 51 1 v mk us/\Qbk w' W.heap.size us cs/\Below W.heap.size W w')
 (J:∀W,Below w.heap.size w W->Calls Tryz.prog 102 #[.agg j.cells,.slice (some ⟨tb,O,none⟩) ts.length tcap] W fun e w'=>e=.returned (.tuple #[.slice none 0 0,.slice none 0 0,QbN n])/\Below W.heap.size W w'):
 Calls Tryz.prog 61 #[.agg j.cells,.slice (some ⟨tb,O,none⟩) ts.length tcap] w fun e w'=>e=.returned (.tuple #[.slice none 0 0,QbN n])/\Below w.heap.size w w':=by
 obtain⟨i0,hi,aB,aV,aN⟩:=info_parts Tryz.infoCols;have HG:=Hk V;have HT:=Hk ht;rw[QaT hn] at J⊢;unfold Jb.cells at N J;have aa:=Hk N;have ab:=Hk J;clear N J;clear V ht;have ad:=Qcf w j 50;unfold Jb.cells at ad⊢;have aj:=Hk ad;clear ad;go_enter Tryz.func61,Tryz.ntmps61;go_wp2;refine Qde (G:=fun w=>Code.wp _ _ _ _ w) (fun K=>QaC K w.heap.size j/\Below w.heap.size w K/\w.heap.size<K.heap.size) _ ⟨aj.out,Qaa _ _,by simp⟩ ?_;clear aj;intro K ⟨E,ao,aF⟩;have HJ:=Hk (Ai E ao);clear E ao;go_loopw [6,16] (fun l i wr=>∃(k:Nat) (us:List Value),k<=ts.length/\i=.int .i64 k/\wr.ownsRow K.heap.size 51 1 l k us/\QaE w us ((ts.take k).map (·.1))/\Below K.heap.size K wr) (fun _ i _=>ts.length-(intOf i).toNat)
 case atStart=>exact⟨0,[],Nat.zero_le _,rfl,World.ownsRow_nil _ _ _ _,⟨rfl,fun j hj=>absurd hj (by simp)⟩,Below.refl _ _⟩
 case round=>
  obtain⟨k,us,hk,rfl,I,F,M⟩:=hrel;obtain⟨la,lc,rfl⟩:=own_slice I;have H:Below w.heap.size w wr:=HJ.out.2.trans (M.mono HJ.out.2.size);have bG:=M.size;have HO:=Hk (Ai I (Ai F (Ai M H)))
  by_cases hlt:k<ts.length
  ·obtain⟨vc,vr,c0,c1,hc,hr⟩:=HT.out k hlt;have d0:=cK H ak c0;have d1:=cK H ak c1;have ae:=fun W (hW:Below wr.heap.size wr W)=>right_any vc vr ts[k].1 ts[k].2 W ((hc.below H).below hW) ((hr.below H).below hW)
   have aP:=Hk hc;obtain⟨ca,cc,rfl,-⟩:=hc;obtain⟨ra,rc,rfl,-⟩:=hr;have g:=HG.out _ (List.getElem_mem hlt);simp only[g] at ae;have aC:=Hk ae;clear ae c0 c1 I F H M g;have ag:(ts.take (k+1)).map (·.1)=(ts.take k).map (·.1)++[ts[k].1]:=by rw[List.take_succ_eq_append_getElem hlt,List.map_append];rfl
   have HM:=Hk ag;clear ag;generalize aT:ts[k].1=q1 at*;clear aT;generalize aY:ts[k].2.length=n2 at*;clear aY;go_wp2_with (first|(go_at_call 13;refine(aC.out _ (Qaa _ _)).mono ?_;rintro e w1 ⟨rfl,U⟩;obtain⟨a2,a1⟩:=QaQ U;have bx:wr.heap.size<w1.heap.size:=by(have:=U.size;simp at this;omega))|(at_builtin;refine wpList_append_own _ rfl _ _ 123 rfl K.heap.size 51 i0 (.slice none 0 0) 1 24 Tryz.underlying123 hi aB aV aN rfl (by decide) _ _ _ rfl ((owns_below (HO.out.1.alloc _) U).alloc _) ⟨w1.heap.size,0,none⟩ 1 1 [.slice ca q1.length cc] rfl rfl (news1 _ _ _ _ rfl) (Qc4 _ _ _) ?c3 ?c4 ?c5 ?_))
   case c3=>unfold maxLen;omega
   case c4=>omega
   case c5=>have:=U.size;simp at this⊢;omega
   intro v' w5 ac Z _;obtain⟨p1,p2,p3,p4⟩:=HO.out;have ai:Below K.heap.size K w5:=((bel_then (bel_box p3 _) U).alloc (by omega) _).grown Z (by simp;omega) (fun q hq=>(p1.lt q hq).1);have ap:QaE w (us++[.slice ca q1.length cc]) ((ts.take (k+1)).map (·.1)):=by
    rw[HM.out];exact p2.snoc aP.out
   have HF:=Hk (Ai ac (Ai ap ai));clear ac Z ai a2 a1 p1 p2 p3 p4 ap;go_wp2;go_roundw
   case rel=>exact⟨k+1,_,by omega,by go_num,HF.out.1,HF.out.2.1,HF.out.2.2⟩
   case measure=>simp[intOf];omega
  ·have aH:k=ts.length:=by omega
   subst aH;simp only[List.take_length] at F;obtain⟨g,ah,al,bI⟩:=QdZ (css:=ts.map (·.1)) (by simpa using I) (by simpa using ax);simp only[List.length_map,Value.slice.injEq,true_and] at al;obtain⟨rfl,rfl⟩:=al;have HC:=Hk (aa.out wr K.heap.size g lc us H I (F.below H));have E:=HJ.out.1.below M aF;have j0:wr.cell? ⟨w.heap.size,0,none⟩=some (.int .i64 j.at_):=E 0 _ rfl;have j1:wr.cell? ⟨w.heap.size,1,none⟩=some (.int .i64 j.code):=E 1 _ rfl;have j2:wr.cell? ⟨w.heap.size,2,none⟩=some j.outs:=E 2 _ rfl;have j3:wr.cell? ⟨w.heap.size,3,none⟩=some j.ins:=E 3 _ rfl;have j4:wr.cell? ⟨w.heap.size,4,none⟩=some j.cols:=E 4 _ rfl;have j5:wr.cell? ⟨w.heap.size,5,none⟩=some (.string j.op):=E 5 _ rfl;have j6:wr.cell? ⟨w.heap.size,6,none⟩=some (.string j.left.1):=E 6 _ rfl;have j7:wr.cell? ⟨w.heap.size,7,none⟩=some (.int .i64 j.left.2.1):=E 7 _ rfl;have j8:wr.cell? ⟨w.heap.size,8,none⟩=some (.int .i64 j.left.2.2.1):=E 8 _ rfl;have j9:wr.cell? ⟨w.heap.size,9,none⟩=some (.string j.left.2.2.2):=E 9 _ rfl;have aE:wr.cell? ⟨w.heap.size,10,none⟩=some (.string j.right.1):=E 10 _ rfl;have aR:wr.cell? ⟨w.heap.size,11,none⟩=some (.int .i64 j.right.2.1):=E 11 _ rfl;have aI:wr.cell? ⟨w.heap.size,12,none⟩=some (.int .i64 j.right.2.2.1):=E 12 _ rfl;have aZ:wr.cell? ⟨w.heap.size,13,none⟩=some (.string j.right.2.2.2):=E 13 _ rfl;have aJ:wr.cell? ⟨w.heap.size,14,none⟩=some (.int .i64 j.retry):=E 14 _ rfl;have D:=Hk E;have y:=E.lt;clear E I F H M aa;go_wp2_with (go_at_call 59;refine HC.out.mono ?_;rintro e w2 ⟨vv,uu,rfl,aK,bH,h⟩;obtain⟨bF,bE,rfl⟩:=own_slice aK;have k0:=((D.out.below h y) 0 (.int .i64 j.at_) rfl);have k1:=((D.out.below h y) 1 (.int .i64 j.code) rfl);have k2:=((D.out.below h y) 2 j.outs rfl);have k3:=((D.out.below h y) 3 j.ins rfl);have k4:=((D.out.below h y) 4 j.cols rfl);have k5:=((D.out.below h y) 5 (.string j.op) rfl);have k6:=((D.out.below h y) 6 (.string j.left.1) rfl);have k7:=((D.out.below h y) 7 (.int .i64 j.left.2.1) rfl);have k8:=((D.out.below h y) 8 (.int .i64 j.left.2.2.1) rfl);have k9:=((D.out.below h y) 9 (.string j.left.2.2.2) rfl);have aM:=((D.out.below h y) 10 (.string j.right.1) rfl);have aO:=((D.out.below h y) 11 (.int .i64 j.right.2.1) rfl);have a0:=((D.out.below h y) 12 (.int .i64 j.right.2.2.1) rfl);have aQ:=((D.out.below h y) 13 (.string j.right.2.2.2) rfl);have aD:=((D.out.below h y) 14 (.int .i64 j.retry) rfl));have af:=bel_then HO.out.2.2.2 h;have am:=Hk (ab.out w2 af);refine am.out.mono ?_;rintro e w3 ⟨rfl,aL⟩;have aq:=bel_then af aL;have HZ:=Hk aq;clear j0 j1 j2 j3 j4 j5 j6 j7 j8 j9 aE aR aI aZ aJ k0 k1 k2 k3 k4 k5 k6 k7 k8 k9 aM aO a0 aQ aD am ab;go_wp2
   go_ret2
   exact⟨rfl,HZ.out⟩
end Go.Proofs.YtjlgejennghhlaaGreatDoor
namespace Go.Proofs.YtjlgejennghhlaaGreatDoor.Fw
open Go.RowKit
def Qro:By×Int->Value->World->Prop:=fun a v _=>v=.agg #[.string (ba a.1),.int .i64 a.2]
theorem RD.kind {w:World} {R:Nat} {ts:List Tk} (h:RD w R ts) (j:Nat) (y:j<Qed.length):w.cell? ⟨3,j,none⟩=some (.string (ba Qed[j])):=h.env.kd j y
theorem RD.verb {w:World} {R:Nat} {ts:List Tk} (h:RD w R ts) (j:Nat) (y:j<Qdj.length):w.cell? ⟨5,j,none⟩=some (.string (ba Qdj[j])):=h.env.vb j y
theorem QcX (R:Nat) (ts:List Tk) (w:World) (h:RD w R ts):Calls Tryz.prog 113 #[.pointer (some ⟨R,0,none⟩)] w fun e w'=>Rs (Qbf ts) Qro e w.heap.size w' R/\But R w w':=by
 have hR:=h.lt;have H0:=Hk (h.below (Qaa w (.cells #[.string ⟨#[]⟩,.int .i64 0] 64)));have X0:=Hk (Box.new w [.string ⟨#[]⟩,.int .i64 0] 64 _ rfl);have Z:=Hk (But.of (R:=R) (Qaa w (.cells #[.string ⟨#[]⟩,.int .i64 0] 64)));clear h;go_enter Tryz.func113,Tryz.ntmps113;go_wp2_with (go_at_call 112;fail);refine(Qav R ts _ H0.out).mono ?_;rintro e U ⟨⟨a,y,v,hp,rfl,V,ag⟩|⟨er,hp,ah⟩,K⟩
 ·unfold encS at V;subst V;have HC:=Hk (show Qbf ts=(if Qar y=QnG then .ok ((a,1),y.tail) else if Qar y=Qgg then .ok ((a,2),y.tail) else wrongP 3 y) by rw[Qbf,hp];rfl);have aO:=(Z.out.then K).size;have B1:=Hk ((Z.out.then K).box (.cells #[.string (ba a),.int .i64 0] 64));have H1:=Hk (ag.below (Qaa U (.cells #[.string (ba a),.int .i64 0] 64)));have X1:=Hk ((X0.out.but K (by omega)).below (Qaa U (.cells #[.string (ba a),.int .i64 0] 64)));have C1:=Hk (Box.new U [.string (ba a),.int .i64 0] 64 _ rfl);have aR:w.heap.size<U.heap.size:=by have:=K.size;simp at this;omega
  clear hp ag K;go_wp2_with fail;generalize aq:U.alloc (.cells #[.string (ba a),.int .i64 0] 64)=W1 at*;generalize U.heap.size=cb at*;clear aq
  go_loopg [4] 3 (fun g i wr=>∃k:Nat,1<=k/\k<=3/\i=.int .i64 k/\3-k<=g/\Aside (RD wr R y/\But R w wr/\Box wr w.heap.size [.string ⟨#[]⟩,.int .i64 0]/\Box wr cb [.string (ba a),.int .i64 0]/\(2<=k->Qar y≠QnG)/\(3<=k->Qar y≠Qgg)))
  case atStart=>exact⟨1,by omega,by omega,rfl,by omega,H1.out,B1.out,X1.out,C1.out,fun h=>absurd h (by omega),fun h=>absurd h (by omega)⟩
  case round=>
   clear H1 B1 X1 C1;obtain⟨k,aN,aQ,rfl,hg,E⟩:=hrel;have hk:k=1\/k=2\/k=3:=by omega
   rcases hk with rfl|rfl|rfl
   ·have V:=E.out.1.kind 1 (by decide);rw[show Qed[1]=QnG from rfl] at V;have ay:=E.out.1.env.size 3 (by simp[Qa7]);have M:=Hk (Qcu QnG R y wr E.out.1 (by simp[QnG]))
    by_cases hm:Qar y=QnG
    ·rw[if_pos hm,show(Qar y==QnG)=true by simp[hm]] at M;have O:=Hk (show Qbf ts=.ok ((a,1),y.tail) by rw[HC.out,if_pos hm]);clear hm;go_wp2_with (go_at_call 114;fail);refine M.out.mono ?_;rintro e w2 ⟨rfl,F,D⟩;have I:=Hk (E.out.2.2.2.1.but D (by omega));have c0:=I.out.cell 0 rfl;have c1:=I.out.cell 1 rfl;have d1:=I.out.fz 1;have ap:=I.out.lt;have C3:=Hk (I.out.set 1 (.int .i64 1));have H:=Hk ((E.out.2.2.1.but D (by omega)).other (k':=cb) 1 (.int .i64 1) (by omega));have H3:=Hk (F.set (k:=cb) (i:=1) (v:=.int .i64 1) (by omega));have B3:=Hk ((E.out.2.1.then D).put (k:=cb) (i:=1) (by omega) (.int .i64 1));have u0:=C3.out.cell 0 rfl;have u1:=C3.out.cell 1 rfl;clear F D;have x0:=H.out.cell 0 rfl;have y0:=H.out.fz 0;have x1:=H.out.cell 1 rfl;have y1:=H.out.fz 1;have ax:=H.out.lt;have aa:=Hk ((H3.out.set (i:=0) (v:=.string (ba a)) hR).set (i:=1) (v:=.int .i64 1) hR);have ad:=Hk ((B3.out.put (Nat.le_refl _) (.string (ba a)) (i:=0)).put (Nat.le_refl _) (.int .i64 1) (i:=1));have J:=Hk ((H.out.set 0 (.string (ba a))).set 1 (.int .i64 1));have z0:=J.out.cell 0 rfl;have z1:=J.out.cell 1 rfl;clear J;go_wp2;refine bodyPost_ret (v:=.agg #[.string (ba a),.int .i64 1]) (by simp[results,Tryz.results113,go_sem,z0,z1]) rfl ?_;exact⟨Or.inl ⟨_,_,_,O.out,rfl,rfl,aa.out⟩,ad.out⟩
    ·rw[if_neg hm,show(Qar y==QnG)=false by simp[hm]] at M;have ab:=Hk hm;clear hm;go_wp2_with (go_at_call 114;fail);refine M.out.mono ?_;rintro e w2 ⟨rfl,F,D⟩;have N:=Hk (Ai F (Ai (E.out.2.1.then D) (Ai (E.out.2.2.1.but D (by omega)) (E.out.2.2.2.1.but D (by omega)))));clear F D;go_wp2
     go_roundg (3-2)
     case measure=>omega
     case rel=>exact⟨2,by omega,by omega,by go_num,Nat.le_refl _,N.out.1,N.out.2.1,N.out.2.2.1,N.out.2.2.2,fun _=>ab.out,fun h=>absurd h (by omega)⟩
   ·have V:=E.out.1.kind 2 (by decide);rw[show Qed[2]=Qgg from rfl] at V;have ay:=E.out.1.env.size 3 (by simp[Qa7]);have M:=Hk (Qcu Qgg R y wr E.out.1 (by simp[Qgg]))
    by_cases hm:Qar y=Qgg
    ·rw[if_pos hm,show(Qar y==Qgg)=true by simp[hm]] at M;have O:=Hk (show Qbf ts=.ok ((a,2),y.tail) by rw[HC.out,if_neg (E.out.2.2.2.2.1 (by omega)),if_pos hm]);clear hm;go_wp2_with (go_at_call 114;fail);refine M.out.mono ?_;rintro e w2 ⟨rfl,F,D⟩;have I:=Hk (E.out.2.2.2.1.but D (by omega));have c0:=I.out.cell 0 rfl;have c1:=I.out.cell 1 rfl;have d1:=I.out.fz 1;have ap:=I.out.lt;have C3:=Hk (I.out.set 1 (.int .i64 2));have H:=Hk ((E.out.2.2.1.but D (by omega)).other (k':=cb) 1 (.int .i64 2) (by omega));have H3:=Hk (F.set (k:=cb) (i:=1) (v:=.int .i64 2) (by omega));have B3:=Hk ((E.out.2.1.then D).put (k:=cb) (i:=1) (by omega) (.int .i64 2));have u0:=C3.out.cell 0 rfl;have u1:=C3.out.cell 1 rfl;clear F D;have x0:=H.out.cell 0 rfl;have y0:=H.out.fz 0;have x1:=H.out.cell 1 rfl;have y1:=H.out.fz 1;have ax:=H.out.lt;have aa:=Hk ((H3.out.set (i:=0) (v:=.string (ba a)) hR).set (i:=1) (v:=.int .i64 2) hR);have ad:=Hk ((B3.out.put (Nat.le_refl _) (.string (ba a)) (i:=0)).put (Nat.le_refl _) (.int .i64 2) (i:=1));have J:=Hk ((H.out.set 0 (.string (ba a))).set 1 (.int .i64 2));have z0:=J.out.cell 0 rfl;have z1:=J.out.cell 1 rfl;clear J;go_wp2;refine bodyPost_ret (v:=.agg #[.string (ba a),.int .i64 2]) (by simp[results,Tryz.results113,go_sem,z0,z1]) rfl ?_;exact⟨Or.inl ⟨_,_,_,O.out,rfl,rfl,aa.out⟩,ad.out⟩
    ·rw[if_neg hm,show(Qar y==Qgg)=false by simp[hm]] at M;have ab:=Hk hm;clear hm;go_wp2_with (go_at_call 114;fail);refine M.out.mono ?_;rintro e w2 ⟨rfl,F,D⟩;have N:=Hk (Ai F (Ai (E.out.2.1.then D) (Ai (E.out.2.2.1.but D (by omega)) (E.out.2.2.2.1.but D (by omega)))));clear F D;go_wp2
     go_roundg (3-3)
     case measure=>omega
     case rel=>exact⟨3,by omega,by omega,by go_num,Nat.le_refl _,N.out.1,N.out.2.1,N.out.2.2.1,N.out.2.2.2,fun _=>E.out.2.2.2.2.1 (by omega),fun _=>ab.out⟩
   ·have O:=Hk (show Qbf ts=.error (3,Qa6 y) by rw[HC.out,if_neg (E.out.2.2.2.2.1 (by omega)),if_neg (E.out.2.2.2.2.2 (by omega))];rfl);have ar:=E.out.2.1.size;go_wp2_with (go_at_call 83;refine(Qbc _ _ _ _ E.out.1).mono ?_;rintro e aP ⟨rfl,rfl⟩);exact⟨rfl,Or.inr ⟨_,O.out,QcW _ _ _ ar⟩,E.out.2.1.box _⟩
 ·obtain⟨b',rfl,t0,t1,tB,tl⟩:=ah;have O:=Hk (show Qbf ts=.error er by rw[Qbf,hp];rfl);go_wp2;exact⟨rfl,Or.inr ⟨_,O.out,b',rfl,t0,t1,by first|omega|(simp at tB;omega),tl⟩,Z.out.then K⟩
theorem QpF (j:Nat) (y:j<Qbw.length):∃h:j+1<Qdj.length,Qdj[j+1]=Qbw[j]/\Qbw[j]≠[]:=by
 refine⟨by simp[Qdj];omega,by simp[Qdj],?_⟩;have:∀x∈Qbw,x≠[]:=by decide
 exact this _ (List.getElem_mem y)
theorem QpG {ts:List Tk} {j:Nat} (y:j<Qbw.length) (he:Qar ts=Qbw[j]) (D:∀(i:Nat) (h:i<Qbw.length),i<j->Qar ts≠Qbw[i]):Qci ts=.ok ((j:Int)+1,ts.tail):=by
 have h:Qbw.findIdx? (·==Qar ts)=some j:=by
  rw[List.findIdx?_eq_some_iff_getElem];exact⟨y,by simp[he],fun i hi=>by simpa using fun h=>D i (by omega) hi h.symm⟩
 rw[Qci,h]
theorem QmD {ts:List Tk} (F:∀(i:Nat) (h:i<Qbw.length),Qar ts≠Qbw[i]):Qci ts=.error (3,Qa6 ts):=by
 have h:Qbw.findIdx? (·==Qar ts)=none:=by
  rw[List.findIdx?_eq_none_iff];intro y E;obtain⟨j,D,rfl⟩:=List.getElem_of_mem E;simpa using fun h=>F j D h.symm
 rw[Qci,h];rfl
theorem QbL (R:Nat) (ts:List Tk) (w:World) (h:RD w R ts):Calls Tryz.prog 154 #[.pointer (some ⟨R,0,none⟩)] w fun e w'=>Rs (Qci ts) encI e w.heap.size w' R/\But R w w':=by
 have hR:=h.lt;have H:=Hk h;clear h;go_enter Tryz.func154,Tryz.ntmps154;go_wp2_with fail
 go_loopg [3] 10 (fun g i wr=>∃j:Nat,j<=9/\i=.int .i64 ((j:Int)+1)/\9-j<=g/\Aside (RD wr R ts/\But R w wr/\∀(i:Nat) (h:i<Qbw.length),i<j->Qar ts≠Qbw[i]))
 case atStart=>exact⟨0,by omega,rfl,by omega,H.out,But.refl _ _,fun i _ h=>absurd h (by omega)⟩
 case round=>
  obtain⟨j,hj,rfl,hg,D⟩:=hrel;have af:IntKind.i64.wrap ((j:Int)+1)=(j:Int)+1:=by rw[IntKind.wrap_i64];omega
  by_cases hlt:j<9
  ·have N:(j:Int)+1<10:=by omega
   obtain⟨M,K,F⟩:=QpF j hlt;have hv:=D.out.1.verb (j+1) M;rw[K] at hv;have ah:=D.out.1.env.size 5 (by simp[Qa7]);obtain⟨x,O⟩:∃x,Qbw[j]'hlt=x:=⟨_,rfl⟩;rw[O] at hv F;have HX:=Hk O;have J:=Hk (Qcu x R ts wr D.out.1 F);have ae:((j:Int)+1).toNat=j+1:=by omega
   clear K M F O
   by_cases hm:Qar ts=x
   ·rw[if_pos hm,show(Qar ts==x)=true by simp[hm]] at J;have U:=Hk (QpG hlt (by rw[HX.out];exact hm) D.out.2.2);clear hm;go_wp2_with (go_at_call 114;fail);refine J.out.mono ?_;rintro e w2 ⟨rfl,y,E⟩;have I:=Hk (Ai y (D.out.2.1.then E));clear y E;go_wp2;go_ret;exact⟨Or.inl ⟨_,_,_,U.out,rfl,rfl,I.out.1⟩,I.out.2⟩
   ·rw[if_neg hm,show(Qar ts==x)=false by simp[hm]] at J;have HN:=Hk (show∀(i:Nat) (h:i<Qbw.length),i<j+1->Qar ts≠Qbw[i] from fun i h1 h2=>by
     by_cases h3:i<j
     ·exact D.out.2.2 i h1 h3
     ·have:i=j:=by omega
      subst this;have Z:Qbw[i]'h1=x:=HX.out;rw[Z];exact hm)
    clear hm;go_wp2_with (go_at_call 114;fail);refine J.out.mono ?_;rintro e w2 ⟨rfl,y,E⟩;have I:=Hk (Ai y (D.out.2.1.then E));clear y E;go_wp2
    go_roundg (9-(j+1))
    case measure=>omega
    case rel=>exact⟨j+1,by omega,by go_num,Nat.le_refl _,I.out.1,I.out.2,HN.out⟩
  ·have N:¬((j:Int)+1<10):=by omega
   have U:=Hk (QmD (ts:=ts) (fun i h=>D.out.2.2 i h (by have:Qbw.length=9:=rfl;omega)));have V:=D.out.2.1.size;go_wp2_with (go_at_call 83;refine(Qbc _ _ _ _ D.out.1).mono ?_;rintro e ag ⟨rfl,rfl⟩);exact⟨rfl,Or.inr ⟨_,U.out,QcW _ _ _ V⟩,D.out.2.1.box _⟩
def Qoi:Bool->Value->World->Prop:=fun a v _=>v=.bool a
def QaF (x:By) (n:Nat) (ts:List Tk):PE Bool:=if Qar ts=x then(if n=16 then wrongP 4 ts else .ok (true,ts)) else .ok (false,ts)
theorem Qcj (x:By) (n:Nat) (R:Nat) (ts:List Tk) (w:World) (h:RD w R ts):Calls Tryz.prog 79 #[.pointer (some ⟨R,0,none⟩),.string (ba x),.int .i64 n] w fun e w'=>Rs (QaF x n ts) Qoi e w.heap.size w' R/\Below w.heap.size w w':=by
 have H:=Hk h;have HI:=Hk (Qpn x R ts w h);clear h
 by_cases hm:Qar ts=x
 ·rw[show(Qar ts==x)=true by simp[hm]] at HI
  by_cases hn:n=16
  ·have y:=Hk (show QaF x n ts=.error (4,Qa6 ts) by rw[QaF,if_pos hm,if_pos hn];rfl);have D:((n:Int)==16)=true:=by simp[hn]
   clear hm hn;go_enter Tryz.func79,Tryz.ntmps79;go_wp2_with (first|(go_at_call 110;refine HI.out.mono ?_;rintro e w' ⟨rfl,rfl⟩)|(go_at_call 83;refine(Qbc _ _ _ _ H.out).mono ?_;rintro e E ⟨rfl,rfl⟩));exact⟨rfl,Or.inr ⟨_,y.out,QcW _ _ _ (Nat.le_refl _)⟩,Qaa _ _⟩
  ·have y:=Hk (show QaF x n ts=.ok (true,ts) by rw[QaF,if_pos hm,if_neg hn]);have D:((n:Int)==16)=false:=by simp;omega
   clear hm hn;go_enter Tryz.func79,Tryz.ntmps79;go_wp2_with (go_at_call 110;refine HI.out.mono ?_;rintro e w' ⟨rfl,rfl⟩);go_ret;exact⟨Or.inl ⟨_,_,_,y.out,rfl,rfl,H.out⟩,Below.refl _ _⟩
 ·rw[show(Qar ts==x)=false by simp[hm]] at HI;have y:=Hk (show QaF x n ts=.ok (false,ts) by rw[QaF,if_neg hm]);clear hm;go_enter Tryz.func79,Tryz.ntmps79;go_wp2_with (go_at_call 110;refine HI.out.mono ?_;rintro e w' ⟨rfl,rfl⟩);go_ret;exact⟨Or.inl ⟨_,_,_,y.out,rfl,rfl,H.out⟩,Below.refl _ _⟩
theorem bind_ok {ε α β:Type} {p:Except ε β} {r:Except ε α} {K:α->Except ε β} {x:α} (h:p=r.bind K) (y:r=.ok x):p=K x:=by rw[h,y];rfl
theorem Qaf {ε α β:Type} {p:Except ε β} {r:Except ε α} {K:α->Except ε β} {x:ε} (h:p=r.bind K) (y:r=.error x):p=.error x:=by rw[h,y];rfl
theorem Qac (w:World) (a:Addr) (v:Value):(w.setCell a v).heap.size=w.heap.size:=by simp[World.setCell]
def QrR:FOut->Value->World->Prop:=fun a v _=>v=.agg #[.int .i64 (a.at_:Nat),.string (ba a.name),.string (ba a.from_)]
theorem QeR (R:Nat) (ts:List Tk) (w:World) (h:RD w R ts):Calls Tryz.prog 82 #[.pointer (some ⟨R,0,none⟩)] w fun e w'=>Rs (Qbt ts) QrR e w.heap.size w' R/\But R w w':=by
 have hR:=h.lt;have H0:=Hk h;have B0:=Hk (But.refl R w);have E0:=Hk (Qbt.eq_1 ts);clear h;go_enter Tryz.func82,Tryz.ntmps82;have H1:=Hk (H0.out.below (Qaa _ (.cells #[.int .i64 0,.string ⟨#[]⟩,.string ⟨#[]⟩] 60)));have B2:=Hk (B0.out.box (.cells #[.int .i64 0,.string ⟨#[]⟩,.string ⟨#[]⟩] 60));have X3:=Hk (Box.new w [.int .i64 0,.string ⟨#[]⟩,.string ⟨#[]⟩] 60 _ rfl);clear H0 B0;go_wp2_with (go_at_call 111;fail);refine(QaK QjM R ts _ H1.out (by decide)).mono ?_;rintro e J ⟨⟨K,bg,v,y,rfl,H,D⟩|⟨er,y,E⟩,ai⟩
 rotate_left
 ·obtain⟨b',rfl,t0,t1,tB,tl⟩:=E;have HP:=Hk (Qaf E0.out y);clear y;go_wp2;exact⟨rfl,Or.inr ⟨_,HP.out,b',rfl,t0,t1,Nat.le_trans B2.out.size tB,tl⟩,B2.out.then ai⟩
 subst H;have he:=bind_ok E0.out y
 dsimp only at he
 have E4:=Hk he;clear he y;have H5:=Hk D;have B6:=Hk (B2.out.then ai);have X7:=Hk (X3.out.but ai (by omega));have q8:=X7.out.lt;have a9:=ai.size
 try simp only[World.size_alloc,Qac] at a9
 clear H1 B2 X3 E0 D ai;have aI:=Hk (H5.out.below (Qaa _ (.cells #[.int .i64 (K:Nat),.string ⟨#[]⟩,.string ⟨#[]⟩] 60)));have ao:=Hk (B6.out.box (.cells #[.int .i64 (K:Nat),.string ⟨#[]⟩,.string ⟨#[]⟩] 60));have aE:=Hk (X7.out.below (Qaa _ (.cells #[.int .i64 (K:Nat),.string ⟨#[]⟩,.string ⟨#[]⟩] 60)));have aD:=Hk (Box.new J [.int .i64 (K:Nat),.string ⟨#[]⟩,.string ⟨#[]⟩] 60 _ rfl);clear H5 B6 X7;go_wp2_with (go_at_call 112;fail);refine(Qav R bg _ aI.out).mono ?_;rintro e w2 ⟨⟨I,bh,v,y,rfl,H,D⟩|⟨er,y,E⟩,O⟩
 rotate_left
 ·obtain⟨b',rfl,t0,t1,tB,tl⟩:=E;have HP:=Hk (Qaf E4.out y);clear y;go_wp2;exact⟨rfl,Or.inr ⟨_,HP.out,b',rfl,t0,t1,Nat.le_trans ao.out.size tB,tl⟩,ao.out.then O⟩
 unfold encS at H;subst H;have he:=bind_ok E4.out y
 dsimp only at he
 have ap:=Hk he;clear he y;have aB:=Hk D;have aJ:=Hk (ao.out.then O);have aq:=Hk (aE.out.but O (by omega));have bF:=aq.out.lt;have N:=Hk (aD.out.but O (by omega));have bz:=N.out.lt;have aO:=O.size
 try simp only[World.size_alloc,Qac] at aO
 clear aI ao aE aD E4 D O;have bi:=N.out.cell 1 rfl;have br:=N.out.fz 1;have bk:=N.out.lt;have aG:=Hk (aB.out.set (k:=J.heap.size) (i:=1) (v:=.string (ba I)) (by omega));have am:=Hk (aJ.out.put (k:=J.heap.size) (i:=1) (by omega) (.string (ba I)));have aC:=Hk (aq.out.other (k':=J.heap.size) 1 (.string (ba I)) (by omega));have az:Hid (Box (w2.setCell ⟨J.heap.size,1,none⟩ (.string (ba I))) J.heap.size [.int .i64 (K:Nat),.string (ba I),.string ⟨#[]⟩]):=Hk (N.out.set 1 (.string (ba I)));clear aB aJ aq N;go_wp2_with (go_at_call 111;fail);refine(QaK [61] R bh _ aG.out (by decide)).mono ?_;rintro e w3 ⟨⟨a3,a0,v,y,rfl,H,D⟩|⟨er,y,E⟩,U⟩
 rotate_left
 ·obtain⟨b',rfl,t0,t1,tB,tl⟩:=E;have HP:=Hk (Qaf ap.out y);clear y;go_wp2;exact⟨rfl,Or.inr ⟨_,HP.out,b',rfl,t0,t1,Nat.le_trans am.out.size tB,tl⟩,am.out.then U⟩
 subst H;have he:=bind_ok ap.out y
 dsimp only at he
 have av:=Hk he;clear he y;have aM:=Hk D;have aj:=Hk (am.out.then U);have aw:=Hk (aC.out.but U (by omega));have bI:=aw.out.lt;have au:=Hk (az.out.but U (by omega));have bA:=au.out.lt;have aT:=U.size
 try simp only[World.size_alloc,Qac] at aT
 clear aG am aC az ap D U;go_wp2_with (go_at_call 112;fail);refine(Qav R a0 _ aM.out).mono ?_;rintro e w4 ⟨⟨M,bb,v,y,rfl,H,D⟩|⟨er,y,E⟩,aa⟩
 rotate_left
 ·obtain⟨b',rfl,t0,t1,tB,tl⟩:=E;have HP:=Hk (Qaf av.out y);clear y;go_wp2;exact⟨rfl,Or.inr ⟨_,HP.out,b',rfl,t0,t1,Nat.le_trans aj.out.size tB,tl⟩,aj.out.then aa⟩
 unfold encS at H;subst H;have he:=bind_ok av.out y
 dsimp only at he
 have ax:=Hk he;clear he y;have aK:=Hk D;have aL:=Hk (aj.out.then aa);have ar:=Hk (aw.out.but aa (by omega));have bC:=ar.out.lt;have V:=Hk (au.out.but aa (by omega));have bE:=V.out.lt;have aQ:=aa.size
 try simp only[World.size_alloc,Qac] at aQ
 clear aM aj aw au av D aa;have bv:=V.out.cell 2 rfl;have bx:=V.out.fz 2;have bn:=V.out.lt;have aF:=Hk (aK.out.set (k:=J.heap.size) (i:=2) (v:=.string (ba M)) (by omega));have ak:=Hk (aL.out.put (k:=J.heap.size) (i:=2) (by omega) (.string (ba M)));have aA:=Hk (ar.out.other (k':=J.heap.size) 2 (.string (ba M)) (by omega));have aH:Hid (Box (w4.setCell ⟨J.heap.size,2,none⟩ (.string (ba M))) J.heap.size [.int .i64 (K:Nat),.string (ba I),.string (ba M)]):=Hk (V.out.set 2 (.string (ba M)));clear aK aL ar V;go_wp2_with (go_at_call 111;fail);refine(QaK [59] R bb _ aF.out (by decide)).mono ?_;rintro e w5 ⟨⟨a5,bD,v,y,rfl,H,D⟩|⟨er,y,E⟩,Z⟩
 rotate_left
 ·obtain⟨b',rfl,t0,t1,tB,tl⟩:=E;have HP:=Hk (Qaf ax.out y);clear y;go_wp2;exact⟨rfl,Or.inr ⟨_,HP.out,b',rfl,t0,t1,Nat.le_trans ak.out.size tB,tl⟩,ak.out.then Z⟩
 subst H;have he:=bind_ok ax.out y
 dsimp only at he
 have a8:=Hk he;clear he y;have bd:=Hk D;have a7:=Hk (ak.out.then Z);have F:=Hk (aA.out.but Z (by omega));have bH:=F.out.lt;have ah:=Hk (aH.out.but Z (by omega));have bB:=ah.out.lt;have aP:=Z.size
 try simp only[World.size_alloc,Qac] at aP
 clear aF ak aA aH ax D Z;have bq:=ah.out.cell 0 rfl;have bo:=ah.out.cell 1 rfl;have bt:=ah.out.cell 2 rfl;have bm:=ah.out.lt;have x0:=F.out.cell 0 rfl;have y0:=F.out.fz 0;have x1:=F.out.cell 1 rfl;have y1:=F.out.fz 1;have x2:=F.out.cell 2 rfl;have y2:=F.out.fz 2;have bG:=F.out.lt;have a6:=Hk (((bd.out.set (i:=0) (v:=.int .i64 (K:Nat)) hR).set (i:=1) (v:=.string (ba I)) hR).set (i:=2) (v:=.string (ba M)) hR);have aY:=Hk (((a7.out.put (Nat.le_refl _) (.int .i64 (K:Nat)) (i:=0)).put (Nat.le_refl _) (.string (ba I)) (i:=1)).put (Nat.le_refl _) (.string (ba M)) (i:=2));have al:=Hk (((F.out.set 0 (.int .i64 (K:Nat))).set 1 (.string (ba I))).set 2 (.string (ba M)));have z0:=al.out.cell 0 rfl;have z1:=al.out.cell 1 rfl;have z2:=al.out.cell 2 rfl;clear al;go_wp2;refine bodyPost_ret (v:=.agg #[.int .i64 (K:Nat),.string (ba I),.string (ba M)]) (by simp[results,Tryz.results82,go_sem,z0,z1,z2]) rfl ?_;exact⟨Or.inl ⟨_,_,_,a8.out,rfl,rfl,a6.out⟩,aY.out⟩
end Go.Proofs.YtjlgejennghhlaaGreatDoor.Fw
