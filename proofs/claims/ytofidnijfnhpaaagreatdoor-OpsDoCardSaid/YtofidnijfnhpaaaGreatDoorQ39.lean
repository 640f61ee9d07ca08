import Derived.Test.YtofidnijfnhpaaaGreatDoorQ01
import Derived.Test.YtofidnijfnhpaaaGreatDoorQ24
import Derived.Test.YtofidnijfnhpaaaGreatDoorQ31
import Derived.Test.YtofidnijfnhpaaaGreatDoorQ33
import Derived.Test.YtofidnijfnhpaaaGreatDoorQ08
import Derived.Test.YtofidnijfnhpaaaGreatDoorQ09
set_option linter.unusedSimpArgs false
set_option linter.unusedVariables false
set_option linter.unusedSectionVars false
set_option maxRecDepth 1000000
set_option maxHeartbeats 16000000
namespace Go.Proofs.YtofidnijfnhpaaaGreatDoor
open Go.RowKit
noncomputable def Qib:Code:=Tryz.f13.body.getD .skip
def Qbf (e:Ending) (w':World) (B:Nat) (no:Int) (ts:List Tb):Prop:=(no≠0/\e=.returned (.tuple #[.slice none 0 0,.int .i64 no]))\/(no=0/\∃g c,e=.returned (.tuple #[.slice (some ⟨g,0,none⟩) ts.length c,.int .i64 0])/\B<=g/\g<w'.heap.size/\Qa0 w' g 0 ts)
def Qe2 (r:List Vl):Bool:=match r[1]? with
 |some x=>Qat x.1 x.2.1 x.2.2.data.toList
 |none=>true
def Qbl (cd:Int) (rss:List (List (List Vl))):Int:=if cd=8/\rss.any (fun rs=>rs.any fun r=> !Qe2 r)=true then 2 else if rss.any (fun rs=>decide (60<rs.length))=true then 12 else 0
def QhF (w:World) (us:List Value) (ts:List Tb):Prop:=us.length=2*ts.length/\∀(i:Nat) (h:i<ts.length),∃vc vr,us[i*2]? =some vc/\us[i*2+1]? =some vr/\Qav w vc ts[i].1/\QaC w vr ts[i].2
theorem QhF.nil (w:World):QhF w [] []:=⟨rfl,fun i h=>absurd h (by simp)⟩
theorem QhF.snoc {w:World} {us:List Value} {ts:List Tb} {a b:Value} {t:Tb} (h:QhF w us ts) (D:Qav w a t.1) (A:QaC w b t.2):QhF w (us++[a,b]) (ts++[t]):=by
 refine⟨by simp[h.1];omega,fun i hi=>?_⟩
 simp only[List.length_append,List.length_cons,List.length_nil] at hi
 have E:=h.1
 by_cases hlt:i<ts.length
 ·obtain⟨q,j,y,B,o,z⟩:=h.2 i hlt
  refine⟨q,j,?_,?_,?_,?_⟩
  ·rw[List.getElem?_append_left (by omega)];exact y
  ·rw[List.getElem?_append_left (by omega)];exact B
  ·rw[List.getElem_append_left hlt];exact o
  ·rw[List.getElem_append_left hlt];exact z
 ·obtain rfl:i=ts.length:=by omega
  refine⟨a,b,?_,?_,?_,?_⟩
  ·rw[List.getElem?_append_right (by omega),show ts.length*2-us.length=0 by omega];rfl
  ·rw[List.getElem?_append_right (by omega),show ts.length*2+1-us.length=1 by omega];rfl
  ·rw[List.getElem_append_right (by omega)];simpa using D
  ·rw[List.getElem_append_right (by omega)];simpa using A
theorem QhF.tabs {w o:World} {us:List Value} {ts:List Tb} {g:Nat} (h:QhF w us ts) (q:Below w.heap.size w o) (j:∀k y,us[k]? =some y->o.cell? ⟨g,0+k,none⟩=some y):Qa0 o g 0 ts:=by
 intro i A
 obtain⟨D,z,E,I,B,F⟩:=h.2 i A
 exact⟨D,z,j _ _ E,j _ _ I,B.below q,F.below q⟩
theorem Qic {css:List (List Cl)} {h:List (List (List Vl))} {k:Nat} (j:k<css.length) (o:k<h.length):(css.zip h).take (k+1)=(css.zip h).take k++[(css[k],h[k])]:=by
 rw[List.take_succ_eq_append_getElem (by simp;omega),List.getElem_zip]
theorem QjN {α:Type} {l:List α} {f:α->Bool} {k:Nat} (h:k<l.length) (j:f l[k]=true):l.any f=true:=List.any_eq_true.2 ⟨_,List.getElem_mem h,j⟩
theorem QfR {α:Type} {l:List α} {f:α->Bool} (h:∀(k:Nat) (o:k<l.length),f l[k]=false):l.any f=false:=by
 rw[Bool.eq_false_iff]
 intro y
 obtain⟨x,q,j⟩:=List.any_eq_true.1 y
 obtain⟨k,o,rfl⟩:=List.getElem_of_mem q
 rw[h k o] at j
 cases j
theorem Qid {l:List (List (List Vl))} {k:Nat} (h:∀(i:Nat) (j:i<l.length),i<k->l[i].length<=60) (o:l.length<=k):l.any (fun rs=>decide (60<rs.length))=false:=QfR fun i j=>decide_eq_false (by have:=h i j (by omega);omega)
theorem Qcn {y0 y1 y3 y4 y5 y6 y7 y8 gr fz eJ gM gR fP eI fc f6 gS fi gw fN e9 fg gn fB fu fA f7 gE gJ eY ft fj fe fZ eO gm gI fk e7 fa ga gf e8 eS f5 eU fm e0 gu gk fD fW fq gv f8 fV fy fs eR fE fo gG gl f4 eQ gz gD ff eL f9 fr gF e5 fO gd gp f1 gh gP gH fS e4 eT f2 fw eX fh gL gK gT fv fM fR eK gq bM d4 bd dA ey a5 aD eq cQ ay dm cx b9 cp eH em bf bV cw cO dL cG cE c9 aN bB b7 eb dF db aY bl aQ ea bm cW ef az bv d9 cR aV d8 aU bJ ej a4 aW ep aP dr c8 da bq eh dX es dt a9 aT ed aE aH eF bi cl ew bg di ee d6 dO bZ d5 eo dn ce dv b8 cV dJ dI cU cg dl bP bX cY dK bz bW cF bI dH aO bR aG dU ci dW cD b6 dE aZ cJ bj aA bh eu dw aL eA dR aw dB ek aM aK bN df cZ cm bE be dT c6 bL bp bA dZ bT cj ax dh dd bU cq a6 dY bc dQ ck bY de bb dV cr bH bx cz cM dy ec dP bn bw d7 bS a8 ez cP eG cL dk eB b5 co b4 dp bF cu ds bC ex aX bG eD dx bk dc dj cB cb dD c7 cI aS eE aC bo aI av aB cA cT ct bD du ei bs dM dg aR cQ0 cN en eC cX aJ cH ch br dN dS cv a7 dC cC dG er cy bO bu cf bt:Value} (jb gc cc q R n:Nat) (V:Int) (css:List (List Cl)) (j:List (List (List Vl))) (W:World) (aa:Ending->World->Prop) (hn:css.length=n) (aj:j.length=n) (h0:0<n) (ht:n<=2) (h8:V≠8)
 (hj:W.cell? ⟨jb,1,none⟩=some (.int .i64 V)) (hq:W.cell? ⟨q,0,none⟩=some (.slice (some ⟨R,0,none⟩) n n)) (hh:Qbz W gc 0 css) (eW:gc<W.heap.size)
 (hR:∀(i:Nat) (h:i<j.length),∃v,W.cell? ⟨R,i,none⟩=some v/\QaC W v j[i]) (hsz:∀rs∈j,rs.length<=100000)
 (J:∀e w',Below W.heap.size W w'->Qbf e w' W.heap.size (Qbl V j) (css.zip j)->aa e w'):
 Code.wp Tryz.prog (Ql3 15 Qib) (bodyPost Tryz.prog Tryz.f13 fun e w'=>aa e w') ⟨#[y0,y1,.pointer (some ⟨jb,0,none⟩),y3,y4,y5,y6,y7,y8,.slice (some ⟨gc,0,none⟩) n cc,gr,fz,eJ,gM,gR,fP,.pointer (some ⟨q,0,none⟩),eI,fc,f6,gS,fi,gw,fN,e9,fg,gn,fB,fu,fA,.slice none 0 0,f7,gE,gJ,eY,ft,fj,fe,fZ,eO,gm,gI,fk,e7,fa,ga,gf,e8,eS,f5,eU,fm,e0,gu,gk,fD,fW,fq,gv,f8,fV,fy,fs,eR,fE,fo,gG,gl,f4,eQ,gz,gD,ff,eL,f9,fr,gF,e5,fO,gd,gp,f1,gh,gP,gH,fS,e4,eT,f2,fw,eX,fh,gL,gK,gT,fv,fM,fR,eK,gq,bM,d4,bd,dA,ey,a5,aD,eq,cQ,ay,dm,cx,b9,cp,eH,em,bf,bV,cw,cO,dL,cG,cE,c9,aN,bB,b7,eb,dF,db,aY,bl,aQ,ea,bm,cW,ef,az,bv,d9,cR,aV,d8,aU,bJ,ej,a4,aW,ep,aP,dr,c8,da,bq,eh,dX,es,dt,a9,aT,ed,aE,aH,eF,bi,cl,ew,bg,di,ee,d6,dO,bZ,d5,eo,dn,ce,dv,b8,cV,dJ,dI,cU,cg,dl,bP,bX,cY,dK,bz,bW,cF,bI,dH,aO,bR,aG,dU,ci,dW,cD,b6,dE,aZ,cJ,bj,aA,bh,eu,dw,aL,eA,dR,aw,dB,ek,aM,aK,bN,df,cZ,cm,bE,be,dT,c6,bL,bp,bA,dZ,bT,cj,ax,dh,dd,bU,cq,a6,dY,bc,dQ,ck,bY,de,bb,dV,cr,bH,bx,cz,cM,dy,ec,dP,bn,bw,d7,bS,a8,ez,cP,eG,cL,dk,eB,b5,co,b4,dp,bF,cu,ds,bC,ex,aX,bG,eD,dx,bk,dc,dj,cB,cb,dD,c7,cI,aS,eE,aC,bo,aI,av,aB,cA,cT,ct,bD,du,ei,bs,dM,dg,aR,cQ0,cN,en,eC,cX,aJ,cH,ch,br,dN,dS,cv,a7,dC,cC,dG,er,cy,bO,bu,cf,bt],[]⟩ W:=by
 obtain⟨i1,gi,fb,eP,gb⟩:=info_parts Tryz.infoTab
 have HP:=Hk J
 have HH:=Hk hh
 have HR:=Hk hR
 have A:=Hk (Ai hn (Ai aj hsz))
 have e3:=World.block_lt_of_cell? W _ hj
 have fd:=World.block_lt_of_cell? W _ hq
 have fQ:R<W.heap.size:=by
  obtain⟨v,hv,-⟩:=hR 0 (by omega)
  exact World.block_lt_of_cell? W _ hv
 have E:(V==8)=false:=by simp[h8]
 have HE:Hid (Qbl V j=if j.any (fun rs=>decide (60<rs.length))=true then 12 else 0):=Hk (by unfold Qbl;rw[if_neg (by intro h;exact h8 h.1)])
 clear J hh hR hn aj hsz
 conv=>arg 2;whnf
 go_wp2
 go_loopw [30,277] (fun l i wr=>∃(k:Nat) (us:List Value),k<=n/\i=.int .i64 k/\wr.ownsRow W.heap.size 36 2 l k us/\QhF W us ((css.zip j).take k)/\Below W.heap.size W wr) (fun _ i _=>n-(intOf i).toNat)
 case atStart=>exact⟨0,[],Nat.zero_le _,rfl,World.ownsRow_nil _ _ _ _,QhF.nil _,Below.refl _ _⟩
 case round=>
  obtain⟨k,us,hk,rfl,B,hU,y⟩:=hrel
  obtain⟨la,lc,rfl⟩:=Qae B
  have HO:=Hk (Ai B (Ai hU y))
  have ae:=y.size
  by_cases hlt:k<n
  ·have hf:(k:Int)<(n:Int):=by omega
   have I:k<j.length:=by have:=A.out.2.1;omega
   have ad:k<css.length:=by have:=A.out.1;omega
   obtain⟨v,r0,ah⟩:=HR.out k I
   obtain⟨u,c0,al⟩:=HH.out k ad
   have x0:=cK y fd hq
   have x1:=cK y fQ r0
   have x2:=cK y eW c0
   rw[Nat.zero_add] at x2
   have x3:=cK y e3 hj
   have HT:=Hk (show QhF W (us++[u,v]) ((css.zip j).take (k+1)) by rw[Qic ad I];exact hU.snoc al ah)
   have gx:=ah.below y
   obtain⟨va,gC,rfl,aq⟩:=gx
   obtain⟨ua,uc,rfl,-⟩:=al
   have f0:=Hk (A.out.2.2 _ (List.getElem_mem I))
   generalize eZ:j[k]=rs at*
   generalize eM:css[k].length=cn at*
   generalize hM:rs.length=M at*
   have hy:M<=100000:=f0.out
   clear eZ eM B hU y r0 c0 I ad
   obtain⟨F,rfl⟩:∃x,x=wr:=⟨_,rfl⟩
   go_wp2
   go_loopw [285] (fun i wq=>∃m:Nat,m<=M/\i=.int .i64 m/\wq=F) (fun i _=>M-(intOf i).toNat)
   case atStart=>exact⟨0,Nat.zero_le _,rfl,rfl⟩
   case round=>
    obtain⟨m,hm,rfl,fI⟩:=hrel
    obtain rfl:F=wr:=fI.symm
    by_cases hmt:m<M
    ·have gQ:(m:Int)<(M:Int):=by omega
     rcases aq with h|⟨b,o,rfl,hw,D⟩
     ·subst h;simp at hM;omega
     obtain⟨z,c1,hz⟩:=D m (by omega)
     clear hz D
     go_wp2
     go_roundw
     case rel=>exact⟨m+1,by omega,by go_num,trivial⟩
     case measure=>simp[intOf];omega
    ·obtain rfl:M=m:=by omega
     clear aq
     go_upto_region 79 with fail
     have r0:=cell_regrown x0
     have r1:=cell_regrown x1
     have r2:=cell_regrown x2
     clear x0 x1 x2 x3
     refine wp_region_tail 9 (by kernel_rfl) (by kernel_rfl) rfl (Or.inl ⟨rfl,fun _=>rfl⟩) (fun _ _ _ h=>h) ?_
     simp only[List.drop_succ_cons,List.drop_zero,List.take_succ_cons,List.take_zero]
     repeat(any_goals(first|go_big_quiet_step (fail)|quiet_step (fail)))
     refine wpQuiet_nil ?_
     intro w8 ai
     obtain⟨⟨dq,ap⟩,rfl⟩:=ai
     have E:=below_regrown F dq ap
     have ak:=Hk (Qaf HO.out.1 E)
     have fL:=Hk (HO.out.2.2.trans (E.mono ae))
     clear r0 r1 r2
     generalize Sort.grow (redrawn F dq) ap=W8 at*
     have ai:=E.size
     go_wp2_with (at_builtin;refine wpList_append_own _ rfl _ _ 29 rfl W.heap.size 36 i1 (.agg #[.slice none 0 0,.slice none 0 0]) 2 48 Tryz.underlying29 gi fb eP gb rfl (by decide) _ _ _ rfl (ak.out.alloc _) ⟨W8.heap.size,0,none⟩ 1 1 [.slice ua cn uc,.slice va M gC] rfl rfl (Qjg _ _ _ _ _ rfl) ?c2 ?c3 ?c4 ?c5 ?_)
     case c2=>first|exact⟨rfl,rfl⟩|(intro u hu;simp at hu;rcases hu with rfl|rfl<;>rfl)
     case c3=>unfold maxLen;omega
     case c4=>omega
     case c5=>first|omega|(simp;omega)
     intro v' w5 O K _
     have am:Below W.heap.size W w5:=(fL.out.alloc (by omega) _).grown K (by simp;omega) (fun z hz=>(ak.out.lt z hz).1)
     have HF:=Hk (Ai O am)
     clear O K am E
     go_wp2
     go_roundw
     case rel=>exact⟨k+1,_,by omega,by go_num,HF.out.1,HT.out,HF.out.2⟩
     case measure=>simp[intOf];omega
  ·obtain rfl:n=k:=by omega
   have hU':QhF W us (css.zip j):=by
    have:=hU
    rwa[List.take_of_length_le (by simp[A.out.1,A.out.2.1])] at this
   obtain⟨g,c,au,fC,T,D⟩:=QaY B h0
   simp only[Value.slice.injEq,true_and] at au
   obtain⟨rfl,rfl⟩:=au
   have ar:=Hk (hU'.tabs y D)
   have hA:=Hk hU'
   have hB:=Hk D
   clear hU hU' D B
   obtain⟨F,rfl⟩:∃x,x=wr:=⟨_,rfl⟩
   go_wp2
   go_loopw [315] (fun i wq=>∃m:Nat,m<=n/\i=.int .i64 m/\(∀(x:Nat) (hx:x<j.length),x<m->j[x].length<=60)/\Below F.heap.size F wq) (fun i _=>n-(intOf i).toNat)
   case atStart=>exact⟨0,Nat.zero_le _,rfl,fun x _ h=>absurd h (by omega),Below.refl _ _⟩
   case round=>
    obtain⟨m,hm,rfl,Z,N⟩:=hrel
    have U:=Hk (Ai Z N)
    by_cases hmt:m<n
    ·have gQ:(m:Int)<(n:Int):=by omega
     have ao:m<j.length:=by have:=A.out.2.1;omega
     obtain⟨vc,vr,t1,t2,t3,t4⟩:=ar.out m (by simp[A.out.1,A.out.2.1];omega)
     simp only[List.getElem_zip] at t3 t4
     have e1:=cK N T t1
     have e2:=cK N T t2
     rw[Nat.zero_add] at e1 e2
     obtain⟨ra,rc,rfl,-⟩:=t4
     obtain⟨ca,hC,rfl,-⟩:=t3
     have hs:=Hk (show j[m].length=j[m].length from rfl)
     have gt:=A.out.2.2 _ (List.getElem_mem ao)
     obtain⟨L,hL⟩:∃L,j[m].length=L:=⟨_,rfl⟩
     have HL:=Hk hL
     rw[hL] at e2 gt
     clear hL t1 t2 Z N
     by_cases h60:L<=60
     ·have ev:¬((60:Int)<(L:Int)):=by omega
      go_wp2
      go_roundw
      case rel=>
       refine⟨m+1,by omega,by go_num,fun x hx h=>?_,?_⟩
       ·rcases Nat.lt_or_ge x m with h'|h'
        ·exact U.out.1 x hx h'
        ·obtain rfl:x=m:=by omega
         rw[HL.out];exact h60
       ·first|exact Qad U.out.2 _|exact(Qad U.out.2 _).drew
      case measure=>simp[intOf];omega
     ·have ev:(60:Int)<(L:Int):=by omega
      have HB:=Hk y
      clear y
      go_wp2
      refine HP.out _ _ (HB.out.trans ((Qad U.out.2 _).mono ae)) (Or.inl ⟨?_,?_⟩)
      all_goals rw[HE.out,if_pos (QjN ao (decide_eq_true (by rw[HL.out];omega)))]
      all_goals first|rfl|decide
    ·obtain rfl:n=m:=by omega
     have HB:=Hk y
     clear y
     go_wp2
     have ab:=U.out.2
     have fU:Qbl V j=0:=by rw[HE.out,Qid U.out.1 (by have:=A.out.2.1;omega)];rfl
     refine HP.out _ _ (HB.out.trans (ab.mono ae)) (Or.inr ⟨fU,g,lc,?_,fC,Nat.lt_of_lt_of_le T ab.size,ar.out.below ab T⟩)
     rw[show(css.zip j).length=n by simp[A.out.1,A.out.2.1]]
     try rfl
theorem QjO {y0 y1 y3 y4 y5 y6 y7 y8 gR f2 fe ha hg gf fd fJ gx hi fO gV gd fF fM gO f4 fX f3 gy g1 g7 fv fW fP fK gp fk gN g6 fQ fB fG gD gH fC fp gw fr fR fx gT gL f6 gm fT gU gz gl f1 fV fo f7 fS g3 gM gv fm gY g0 fL fg gC fU g2 fz ge gF gP gr gJ hd g4 gh fy fq gt fZ fu fN g9 g8 hl fY gb gg ff gQ ci ey bE d6 e0 bv a7 eT dn aY dQ cY cF cR fc eO bG cu cX dl ei dd db dC bh b5 cD eF eb dF bs bM bk eE bN dv eJ aZ bW eD dp bp eC bo cf eM bu bq eS bj dT dB dD bR eK ev eV dV bA bn eH a8 ba fa bJ cO eY bH dM eI eA el cz ez eR dR cH dX cE du ef ee dt cJ dP cl cx dx eh bZ cw dc ce ed bi cm a9 er cL eu da cC ea bt dg bK a4 bI eW dY bf e4 eo aW d7 eN bg be cj dJ dy cP b8 bF eq dz ch bQ b4 ex cq cM aX dL dH cr cS bw ew bD en cN cy dI bC es cT cd bY c6 dj d4 eG em bO bX eB cp bz e3 dm fb di dO e5 cB cQ cA dS b9 cV dU b6 eZ br cb e8 dZ bL dG dN c8 cG d9 dA df bm e9 a6 bP bb aV a5 c7 ds cU b7 dW eL bT ej dK bl dh dk eP e6 dw bc de cQ0 bS ek ep cW bx d8 c9 ec eU cZ ck bV cI bU:Value} (jb gc cc q R n:Nat) (css:List (List Cl)) (j:List (List (List Vl))) (W:World) (ag:Ending->World->Prop) (hn:css.length=n) (aI:j.length=n) (h0:0<n) (h4:n<=2)
 (hj:W.cell? ⟨jb,1,none⟩=some (.int .i64 8)) (hq:W.cell? ⟨q,0,none⟩=some (.slice (some ⟨R,0,none⟩) n n)) (hh:Qbz W gc 0 css) (ft:gc<W.heap.size)
 (hR:∀(i:Nat) (h:i<j.length),∃v,W.cell? ⟨R,i,none⟩=some v/\QaC W v j[i]) (hsz:∀rs∈j,rs.length<=100000)
 (h2:∀rs∈j,∀r∈rs,r.length=2)
 (U:∀e w',Below W.heap.size W w'->Qbf e w' W.heap.size (Qbl 8 j) (css.zip j)->ag e w'):
 Code.wp Tryz.prog (Ql3 15 Qib) (bodyPost Tryz.prog Tryz.f13 fun e w'=>ag e w') ⟨#[y0,y1,.pointer (some ⟨jb,0,none⟩),y3,y4,y5,y6,y7,y8,.slice (some ⟨gc,0,none⟩) n cc,gR,f2,fe,ha,hg,gf,.pointer (some ⟨q,0,none⟩),fd,fJ,gx,hi,fO,gV,gd,fF,fM,gO,f4,fX,f3,.slice none 0 0,gy,g1,g7,fv,fW,fP,fK,gp,fk,gN,g6,fQ,fB,fG,gD,gH,fC,fp,gw,fr,fR,fx,gT,gL,f6,gm,fT,gU,gz,gl,f1,fV,fo,f7,fS,g3,gM,gv,fm,gY,g0,fL,fg,gC,fU,g2,fz,ge,gF,gP,gr,gJ,hd,g4,gh,fy,fq,gt,fZ,fu,fN,g9,g8,hl,fY,gb,gg,ff,gQ,ci,ey,bE,d6,e0,bv,a7,eT,dn,aY,dQ,cY,cF,cR,fc,eO,bG,cu,cX,dl,ei,dd,db,dC,bh,b5,cD,eF,eb,dF,bs,bM,bk,eE,bN,dv,eJ,aZ,bW,eD,dp,bp,eC,bo,cf,eM,bu,bq,eS,bj,dT,dB,dD,bR,eK,ev,eV,dV,bA,bn,eH,a8,ba,fa,bJ,cO,eY,bH,dM,eI,eA,el,cz,ez,eR,dR,cH,dX,cE,du,ef,ee,dt,cJ,dP,cl,cx,dx,eh,bZ,cw,dc,ce,ed,bi,cm,a9,er,cL,eu,da,cC,ea,bt,dg,bK,a4,bI,eW,dY,bf,e4,eo,aW,d7,eN,bg,be,cj,dJ,dy,cP,b8,bF,eq,dz,ch,bQ,b4,ex,cq,cM,aX,dL,dH,cr,cS,bw,ew,bD,en,cN,cy,dI,bC,es,cT,cd,bY,c6,dj,d4,eG,em,bO,bX,eB,cp,bz,e3,dm,fb,di,dO,e5,cB,cQ,cA,dS,b9,cV,dU,b6,eZ,br,cb,e8,dZ,bL,dG,dN,c8,cG,d9,dA,df,bm,e9,a6,bP,bb,aV,a5,c7,ds,cU,b7,dW,eL,bT,ej,dK,bl,dh,dk,eP,e6,dw,bc,de,cQ0,bS,ek,ep,cW,bx,d8,c9,ec,eU,cZ,ck,bV,cI,bU],[]⟩ W:=by
 obtain⟨i1,gi,fH,fl,gE⟩:=info_parts Tryz.infoTab
 have HP:=Hk U
 have HH:=Hk hh
 have HR:=Hk hR
 have E:=Hk (Ai hn (Ai aI hsz))
 have aC:=World.block_lt_of_cell? W _ hj
 have aG:=World.block_lt_of_cell? W _ hq
 have aL:R<W.heap.size:=by
  obtain⟨v,hv,-⟩:=hR 0 (by omega)
  exact World.block_lt_of_cell? W _ hv
 have H2:=Hk h2
 clear h2
 clear U hh hR hn aI hsz
 conv=>arg 2;whnf
 go_wp2
 go_loopw [30,277] (fun l i wr=>∃(k:Nat) (us:List Value),k<=n/\i=.int .i64 k/\wr.ownsRow W.heap.size 36 2 l k us/\QhF W us ((css.zip j).take k)/\Below W.heap.size W wr/\∀(x:Nat) (D:x<j.length),x<k->j[x].any (fun r=> !Qe2 r)=false) (fun _ i _=>n-(intOf i).toNat)
 case atStart=>exact⟨0,[],Nat.zero_le _,rfl,World.ownsRow_nil _ _ _ _,QhF.nil _,Below.refl _ _,fun x _ h=>absurd h (by omega)⟩
 case round=>
  obtain⟨k,us,hk,rfl,F,hU,A,aa⟩:=hrel
  have aT:=Hk aa
  clear aa
  obtain⟨la,lc,rfl⟩:=Qae F
  have HO:=Hk (Ai F (Ai hU A))
  have I:=A.size
  by_cases hlt:k<n
  ·have hS:(k:Int)<(n:Int):=by omega
   have J:k<j.length:=by have:=E.out.2.1;omega
   have au:k<css.length:=by have:=E.out.1;omega
   obtain⟨v,r0,aD⟩:=HR.out k J
   obtain⟨u,c0,aM⟩:=HH.out k au
   have x0:=cK A aG hq
   have x1:=cK A aL r0
   have x2:=cK A ft c0
   rw[Nat.zero_add] at x2
   have x3:=cK A aC hj
   have HT:=Hk (show QhF W (us++[u,v]) ((css.zip j).take (k+1)) by rw[Qic au J];exact hU.snoc aM aD)
   have gW:=aD.below A
   obtain⟨va,gZ,rfl,aR⟩:=gW
   obtain⟨ua,uc,rfl,-⟩:=aM
   have gq:=Hk (E.out.2.2 _ (List.getElem_mem J))
   have fh:=Hk (H2.out _ (List.getElem_mem J))
   have aO:=Hk (show j[k]? =some j[k] from List.getElem?_eq_getElem J)
   generalize fw:j[k]=rs at*
   generalize fi:css[k].length=cn at*
   generalize hM:rs.length=M at*
   have h5:M<=100000:=gq.out
   clear fw fi F hU A r0 c0 J au
   obtain⟨O,rfl⟩:∃x,x=wr:=⟨_,rfl⟩
   go_wp2
   go_loopw [285] (fun i wq=>∃m:Nat,m<=M/\i=.int .i64 m/\Below O.heap.size O wq/\∀(x:Nat) (D:x<rs.length),x<m->(!Qe2 rs[x])=false) (fun i _=>M-(intOf i).toNat)
   case atStart=>exact⟨0,Nat.zero_le _,rfl,Below.refl _ _,fun x _ h=>absurd h (by omega)⟩
   case round=>
    obtain⟨m,hm,rfl,y,aq⟩:=hrel
    have HQ:=Hk (Ai y aq)
    have h8:=y.size
    have x3':=cK y (Nat.lt_of_lt_of_le aC I) x3
    by_cases hmt:m<M
    ·have hf:(m:Int)<(M:Int):=by omega
     rcases aR with h|⟨b,o,rfl,fE,K⟩
     ·subst h;simp at hM;omega
     have al:m<rs.length:=by omega
     obtain⟨z,c1,hz⟩:=K m al
     have c1':=cK y fE c1
     have am:=fh.out _ (List.getElem_mem al)
     obtain⟨za,zc,rfl,aH,aK⟩:=hz
     obtain⟨b2,o2,rfl,ak,aU⟩:∃b o,za=some ⟨b,o,none⟩/\b<O.heap.size/\QaK O b o rs[m]:=by
      rcases aK with h|h
      ·rw[h] at am;simp at am
      ·exact h
     rw[am] at c1'
     obtain⟨d0,d1,d2⟩:=aU 1 (by omega)
     have d0':=cK y ak d0
     have d1':=cK y ak d1
     have d2':=cK y ak d2
     have ao:=aH _ (List.getElem_mem (show 1<rs[m].length by omega))
     have aw:=Hk (show Qe2 rs[m]=Qat (rs[m]'al)[1].1 (rs[m]'al)[1].2.1 (rs[m]'al)[1].2.2.data.toList by unfold Qe2;rw[List.getElem?_eq_getElem (show 1<rs[m].length by omega)])
     generalize (rs[m]'al)[1]'(by omega)=x1v at*
     obtain⟨ka,kb,kc⟩:=x1v
     simp only at d0' d1' d2' ao aw
     simp only[Nat.one_mul] at d0' d1' d2'
     clear d0 d1 d2 aU aK aH c1 K y aq
     cases B:Qat ka kb kc.data.toList
     ·have av:=Hk (fun w=>(QfL ka kb kc w ao).mono (fun e w' ⟨h1,h2⟩=>Ai (h1.trans (by rw[B])) h2))
      have hb:=Hk HO.out.2.2
      have ar:=Hk B
      clear B x0 x1 x2
      go_wp2_with (go_at_call 38;refine(av.out _).mono ?_;rintro e w3 ⟨rfl,ai⟩)
      have cv:Qbl 8 j=2:=by
       unfold Qbl
       rw[if_pos]
       refine⟨rfl,List.any_eq_true.2 ⟨_,List.mem_of_getElem? aO.out,List.any_eq_true.2 ⟨_,List.getElem_mem al,?_⟩⟩⟩
       rw[aw.out,ar.out]
       rfl
      refine HP.out _ _ (hb.out.trans ((Qaa HQ.out.1 ai).mono I)) (Or.inl ⟨?_,?_⟩)
      all_goals rw[cv]
      all_goals first|rfl|decide
     ·have av:=Hk (fun w=>(QfL ka kb kc w ao).mono (fun e w' ⟨h1,h2⟩=>Ai (h1.trans (by rw[B])) h2))
      have ar:=Hk B
      clear B x0 x1 x2
      go_wp2_with (go_at_call 38;refine(av.out _).mono ?_;rintro e w3 ⟨rfl,ai⟩)
      go_roundw
      case rel=>
       refine⟨m+1,by omega,by go_num,Qaa HQ.out.1 ai,fun x D h=>?_⟩
       rcases Nat.lt_or_ge x m with N|N
       ·exact HQ.out.2 x D N
       ·obtain rfl:x=m:=by omega
        rw[aw.out,ar.out]
        rfl
      case measure=>simp[intOf];omega
    ·obtain rfl:M=m:=by omega
     clear aR
     have hgl':gc<O.heap.size:=by omega
     have x0':=cK y (Nat.lt_of_lt_of_le aG I) x0
     have x1':=cK y (Nat.lt_of_lt_of_le aL I) x1
     have x2':=cK y hgl' x2
     have g5:=Hk (show rs.any (fun r=> !Qe2 r)=false from QfR fun x D=>HQ.out.2 x D (by omega))
     clear x0 x1 x2 y aq
     go_upto_region 79 with fail
     have r0:=cell_regrown x0'
     have r1:=cell_regrown x1'
     have r2:=cell_regrown x2'
     clear x0' x1' x2' x3 x3'
     refine wp_region_tail 9 (by kernel_rfl) (by kernel_rfl) rfl (Or.inl ⟨rfl,fun _=>rfl⟩) (fun _ _ _ h=>h) ?_
     simp only[List.drop_succ_cons,List.drop_zero,List.take_succ_cons,List.take_zero]
     repeat(any_goals(first|go_big_quiet_step (fail)|quiet_step (fail)))
     refine wpQuiet_nil ?_
     intro w8 aE
     obtain⟨⟨dq,aQ⟩,rfl⟩:=aE
     have T:=Qaa HQ.out.1 (below_regrown wr dq aQ)
     have aJ:=Hk (Qaf HO.out.1 T)
     have ga:=Hk (HO.out.2.2.trans (T.mono I))
     clear r0 r1 r2
     generalize Sort.grow (redrawn wr dq) aQ=W8 at*
     have aE:=T.size
     go_wp2_with (at_builtin;refine wpList_append_own _ rfl _ _ 29 rfl W.heap.size 36 i1 (.agg #[.slice none 0 0,.slice none 0 0]) 2 48 Tryz.underlying29 gi fH fl gE rfl (by decide) _ _ _ rfl (aJ.out.alloc _) ⟨W8.heap.size,0,none⟩ 1 1 [.slice ua cn uc,.slice va M gZ] rfl rfl (Qjg _ _ _ _ _ rfl) ?c2 ?c3 ?c4 ?c5 ?_)
     case c2=>first|exact⟨rfl,rfl⟩|(intro u hu;simp at hu;rcases hu with rfl|rfl<;>rfl)
     case c3=>unfold maxLen;omega
     case c4=>omega
     case c5=>first|omega|(simp;omega)
     intro v' w5 Z V _
     have aN:Below W.heap.size W w5:=(ga.out.alloc (by omega) _).grown V (by simp;omega) (fun z hz=>(aJ.out.lt z hz).1)
     have HF:=Hk (Ai Z aN)
     clear Z V aN T
     go_wp2
     go_roundw
     case rel=>
      refine⟨k+1,_,by omega,by go_num,HF.out.1,HT.out,HF.out.2,fun x D h=>?_⟩
      rcases Nat.lt_or_ge x k with N|N
      ·exact aT.out x D N
      ·obtain rfl:x=k:=by omega
       have:=aO.out
       rw[List.getElem?_eq_getElem D] at this
       rw[Option.some.inj this]
       exact g5.out
     case measure=>simp[intOf];omega
  ·obtain rfl:n=k:=by omega
   have hU':QhF W us (css.zip j):=by
    have:=hU
    rwa[List.take_of_length_le (by simp[E.out.1,E.out.2.1])] at this
   obtain⟨g,c,B,f5,ab,K⟩:=QaY F h0
   simp only[Value.slice.injEq,true_and] at B
   obtain⟨rfl,rfl⟩:=B
   have aS:=Hk (hU'.tabs A K)
   have h6:=Hk hU'
   have h7:=Hk K
   have fI:Hid (¬((8:Int)=8/\j.any (fun rs=>rs.any fun r=> !Qe2 r)=true)):=Hk (by rw[QfR fun x D=>aT.out x D (by have:=E.out.2.1;omega)];simp)
   have HE:Hid (Qbl 8 j=if j.any (fun rs=>decide (60<rs.length))=true then 12 else 0):=Hk (by unfold Qbl;rw[if_neg fI.out])
   clear hU hU' K F
   obtain⟨O,rfl⟩:∃x,x=wr:=⟨_,rfl⟩
   go_wp2
   go_loopw [315] (fun i wq=>∃m:Nat,m<=n/\i=.int .i64 m/\(∀(x:Nat) (D:x<j.length),x<m->j[x].length<=60)/\Below O.heap.size O wq) (fun i _=>n-(intOf i).toNat)
   case atStart=>exact⟨0,Nat.zero_le _,rfl,fun x _ h=>absurd h (by omega),Below.refl _ _⟩
   case round=>
    obtain⟨m,hm,rfl,af,y⟩:=hrel
    have HA:=Hk (Ai af y)
    by_cases hmt:m<n
    ·have hf:(m:Int)<(n:Int):=by omega
     have aP:m<j.length:=by have:=E.out.2.1;omega
     obtain⟨vc,vr,t1,t2,t3,t4⟩:=aS.out m (by simp[E.out.1,E.out.2.1];omega)
     simp only[List.getElem_zip] at t3 t4
     have e1:=cK y ab t1
     have e2:=cK y ab t2
     rw[Nat.zero_add] at e1 e2
     obtain⟨ra,rc,rfl,-⟩:=t4
     obtain⟨ca,h9,rfl,-⟩:=t3
     have h3:=Hk (show j[m].length=j[m].length from rfl)
     have gS:=E.out.2.2 _ (List.getElem_mem aP)
     obtain⟨L,hL⟩:∃L,j[m].length=L:=⟨_,rfl⟩
     have HL:=Hk hL
     rw[hL] at e2 gS
     clear hL t1 t2 af y
     by_cases h60:L<=60
     ·have eX:¬((60:Int)<(L:Int)):=by omega
      go_wp2
      go_roundw
      case rel=>
       refine⟨m+1,by omega,by go_num,fun x D h=>?_,?_⟩
       ·rcases Nat.lt_or_ge x m with N|N
        ·exact HA.out.1 x D N
        ·obtain rfl:x=m:=by omega
         rw[HL.out];exact h60
       ·first|exact Qad HA.out.2 _|exact(Qad HA.out.2 _).drew
      case measure=>simp[intOf];omega
     ·have eX:(60:Int)<(L:Int):=by omega
      have HB:=Hk A
      clear A
      go_wp2
      refine HP.out _ _ (HB.out.trans ((Qad HA.out.2 _).mono I)) (Or.inl ⟨?_,?_⟩)
      all_goals rw[HE.out,if_pos (QjN aP (decide_eq_true (by rw[HL.out];omega)))]
      all_goals first|rfl|decide
    ·obtain rfl:n=m:=by omega
     have HB:=Hk A
     clear A
     go_wp2
     have aj:=HA.out.2
     have gk:Qbl 8 j=0:=by rw[HE.out,Qid HA.out.1 (by have:=E.out.2.1;omega)];rfl
     refine HP.out _ _ (HB.out.trans (aj.mono I)) (Or.inr ⟨gk,g,lc,?_,f5,Nat.lt_of_lt_of_le ab aj.size,aS.out.below aj ab⟩)
     rw[show(css.zip j).length=n by simp[E.out.1,E.out.2.1]]
     try rfl
end Go.Proofs.YtofidnijfnhpaaaGreatDoor
