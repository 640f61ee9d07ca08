import Derived.Deep.Cut
import Derived.Deep.DeepCutAuto
import Derived.Deep.RegionLaw
import Derived.Test.YtjlgejennghhlaaGreatDoorR01
import Derived.Test.YtjlgejennghhlaaGreatDoorR52
set_option linter.unusedSimpArgs false
set_option linter.unusedVariables false
set_option linter.unusedSectionVars false
set_option maxRecDepth 1000000
set_option maxHeartbeats 16000000
namespace Go.Proofs.YtjlgejennghhlaaGreatDoor.Pl.Ev
open Go.RowKit Go.Maps
open Fw (By FJob Flw ba)
theorem Qqc {w:World} {u:Value} {cs:Cs} (h:Qgc w u cs) (D:Qep cs):Qax w u cs:=by
 obtain⟨b,o,c,e,F,y,E⟩:=h;exact⟨_,c,e,F,fun x hx=>Nat.le_trans (D.2.2 x hx) (by decide),Or.inr ⟨b,o,rfl,y,E⟩⟩
theorem turnsE_any (s:By) (cw:Int) (mv:Value) (w:World) (hE:Fw.FEnv w) (a8:GErr w) (cQ:Env w) (hs:(ba s).size<=maxLen) (hm:Qo2 w mv):
 Calls Tryz.prog 3 #[.string (ba s),mv,.int .i64 cw] w fun e w'=>e=.returned (.bool true)/\Below w.heap.size w w':=by
 obtain⟨i0,hi,ep,d4,ed⟩:=info_parts Fw.Tryz.infoJob;have el:=Hk (given_any hm);obtain⟨bo,rfl⟩:=Qo7 hm;have dU:Hid (∀V,Below w.heap.size w V->Calls Tryz.prog 6 #[] V fun e w'=>e=.returned (.bool true)/\Below V.heap.size V w'):=Hk fun V U=>Qhi V (QeI hE U) (cell_below a8 U) (cQ.below U)
 have b8:Hid (∀V,Below w.heap.size w V->Calls Tryz.prog 7 #[.string (ba s)] V fun e w'=>Qps s V e w'):=Hk fun V U=>right_any s V (QeI hE U) (cell_below a8 U) hs
 have cS:Hid (∀(f:Flw) (o:List Nat) (m0:CM) vi vj vo mw (G:By->Option (Value×Tb)) V,Below w.heap.size w V->Fw.FlowRd V f vi vj vo->Fw.FlwOK f->QaU f o m0->GivM V mw G->(∀n u t,G n=some (u,t)->t.1.length<=60)->Calls Tryz.prog 9 #[.agg #[vi,vj,vo],mw] V fun e w'=>QrA f o (fun n=>(G n).map (·.2)) V e w'):=
  Hk fun f o m0 vi vj vo mw G V U h hf hck hG bO=>Qno f o m0 vi vj vo mw G V h hf (cell_below a8 U) hck (cQ.below U) hG bO
 have eo:Hid (∀(f:Flw) vi vj vo V,Below w.heap.size w V->Fw.FlowRd V f vi vj vo->Fw.FlwOK f->Calls Tryz.prog 8 #[.agg #[vi,vj,vo]] V fun e w'=>Qpq f V e w'):=Hk fun f vi vj vo V U h hf=>Qf5 f vi vj vo V h hf (cell_below a8 U)
 generalize ba s=x at*;clear hE a8 cQ hs hm;go_enter Tryz.func3,Tryz.ntmps3;go_wp2_with (first|(go_at_call 5;fail));refine el.out.mono ?_;rintro e1 w1 ⟨r,rfl,aT,hg⟩;have bY:=Hk aT
 cases r with
 |false=>
  clear aT hg;go_wp2;go_ret;exact⟨rfl,bY.out⟩
 |true=>
 obtain⟨G,hG,bO⟩:=hg rfl;have HG:=Hk (Ai (hG.below aT) bO);have ev:=Hk (fun V (U:Below w1.heap.size w1 V)=>b8.out V (bel_then aT U));have dS:=Hk (dU.out w1 aT);clear aT hg hG bO;go_wp2_with (first|(go_at_call 6;refine dS.out.mono ?_;rintro e1 w2 ⟨rfl,dn⟩;have dm:=Hk dn;have bQ:=Hk (ev.out w2 dn);clear dn)|(go_at_call 7;fail));refine bQ.out.mono ?_;rintro e2 w3 ⟨bR,⟨f,o,m,vi,vj,vo,fR,dN,rfl,bn,aN⟩|⟨a1,n1,c1,a2,n2,c2,a3,n3,c3,rfl⟩⟩
 rotate_left
 ·have gf:=Hk (bel_then bY.out (bel_then dm.out bR));clear bR;go_wp2;go_ret;exact⟨rfl,bel_then gf.out (Qaa _ _)⟩
 obtain⟨ia,ic,rfl⟩:=row_slice bn.ins;obtain⟨ja,jc,rfl⟩:=row_slice bn.jobs;obtain⟨oa,oc,rfl⟩:=row_slice bn.outs;obtain⟨I,hI⟩:∃I,f.ins.length=I:=⟨_,rfl⟩;obtain⟨J,hJ⟩:∃J,f.jobs.length=J:=⟨_,rfl⟩;obtain⟨O,hO⟩:∃O,f.outs.length=O:=⟨_,rfl⟩;have dp:J<=16:=by rw[<-hJ];exact aN.jl
 have aA:=Hk (Ai hI (Ai hJ hO));have dj:Hid (I<=16/\O<=16):=Hk ⟨by rw[<-hI];exact aN.il,by rw[<-hO];exact aN.ol⟩;obtain⟨w4,bV⟩:∃x,w3.alloc (.cells #[.slice ia f.ins.length ic,.slice ja f.jobs.length jc,.slice oa f.outs.length oc] 29)=x:=⟨_,rfl⟩;have bH:Below w3.heap.size w3 w4:=by rw[<-bV];exact Qaa _ _
 have a5:Qcx w4 w3.heap.size (.slice ia f.ins.length ic) (.slice ja f.jobs.length jc) (.slice oa f.outs.length oc):=by rw[<-bV];exact Qcx.new _ _ _ _ _
 have da:=Hk a5;have b7:=Hk (bn.below bH);have ad:=Hk (Ai aN dN);have aw:=Hk (bel_then dm.out (bel_then bR bH));have cG:=Hk (bel_then bY.out aw.out);have g1:=a5.1;have g2:=a5.2.1;have g3:=a5.2.2;clear bn aN dN fR bR bH a5;simp only[hI,hJ,hO] at bV da b7 g1 g2 g3⊢;clear hI hJ hO;have dM:=Hk (eo.out f _ _ _ w4 cG.out b7.out ad.out.1);go_wp2_with (first|(go_at_call 8;fail));refine dM.out.mono ?_;rintro e5 w5 ⟨bi,⟨o1,m1,A5,b5,dz,rfl,-,dW,dZ,ea⟩|⟨fP,-⟩⟩
 case inr=>exact absurd ⟨o,m,ad.out.2⟩ fP
 obtain⟨rfl,rfl⟩:=ad.out.2.one dz;have a4:=Hk (Ai dW (Ai dZ ea));have ds:=Hk (bel_then cG.out bi);have be:=Hk (da.out.below bi);have bu:=Hk (b7.out.below bi);have cq:=Hk (HG.out.1.below (bel_then aw.out bi));have cT:=Hk (cS.out f o m _ _ _ (.map bo) G w5 ds.out bu.out ad.out.1 ad.out.2 cq.out HG.out.2);have q1:=be.out.1;have q2:=be.out.2.1;have q3:=be.out.2.2;obtain⟨GT,cv⟩:∃GT:By->Option Tb,(fun n=>(G n).map (·.2))=GT:=⟨_,rfl⟩;have dQ:Hid (∀n,GT n=(G n).map (·.2)):=Hk fun n=>by rw[<-cv]
 rw[cv] at cT;clear bi dz dW dZ ea g1 g2 g3 cv dM da b7 bV el ev bQ dS bY dm;go_wp2_with (first|(go_at_call 9;fail));refine cT.out.mono ?_;rintro e6 w6 h6;obtain⟨aB,hh,n1,k1,rfl,aE⟩:=QqT h6;obtain⟨w7,bU⟩:∃x,w6.alloc (.cells #[.int .i64 n1,.int .i64 k1] 39)=x:=⟨_,rfl⟩;have bA:Below w6.heap.size w6 w7:=by rw[<-bU];exact Qaa _ _
 have ec:Fw.Box w7 w6.heap.size [.int .i64 n1,.int .i64 k1]:=by rw[<-bU];exact Fw.Box.new w6 _ _ _ rfl
 have aj:=bel_then aB bA;have ez:=Hk ec;have eD:=Hk (aE.below bA);have ef:=Hk (bel_then ds.out aj);have ap:=Hk (be.out.below aj);have ak:=Hk (bu.out.below aj);have cu:=Hk (cq.out.below aj);have bd:=Hk (Ai (a4.out.1.below aj) (Ai (a4.out.2.1.imp a4.out.2.2 (fun u cs _ hv=>hv.below aj)) a4.out.2.2));obtain⟨R3,fl⟩:∃R,w3.heap.size=R:=⟨_,rfl⟩;have q1:=ap.out.1;have q2:=ap.out.2.1;have q3:=ap.out.2.2;clear h6 aB aE bA aj ec be bu cq a4 cT ds cG aw;obtain⟨w8,cZ⟩:∃x,w7.alloc (.cells #[.slice ia I ic,.slice ja J jc,.slice oa O oc] 29)=x:=⟨_,rfl⟩;have bG:Below w7.heap.size w7 w8:=by rw[<-cZ];exact Qaa _ _
 have eh:Fw.Box w8 w7.heap.size [.slice ia I ic,.slice ja J jc,.slice oa O oc]:=by rw[<-cZ];exact Fw.Box.new w7 _ _ _ rfl
 have bp:=Hk eh;have a0:=Hk bG;have k2:=cell_below q2 bG;clear eh bG;rw[fl] at q1 q2 q3 ap k2⊢;go_upto_if 54 with fail
 go_cut [] (fun wx=>∃(k:Nat) (ga:Option Addr) (gc:Nat),Fw.FlowRd wx (Qlz f k) (.slice ia I ic) (.slice ga J gc) (.slice oa O oc)/\Qcx wx w7.heap.size (.slice ia I ic) (.slice ga J gc) (.slice oa O oc)/\Below w7.heap.size w7 wx)
 case first=>
  by_cases h0:J=0
  ·have fJ:¬(0:Int)<(J:Int):=by omega
   go_wp2;go_meet;exact⟨0,ja,jc,by rw[Qo9];exact ak.out.below a0.out,⟨bp.out.cell 0 rfl,bp.out.cell 1 rfl,bp.out.cell 2 rfl⟩,a0.out⟩
  ·have fJ:(0:Int)<(J:Int):=by omega
   have f5:Hid (∀V,Calls Tryz.prog 10 #[.int .i64 cw,.int .i64 (J:Nat)] V fun e w'=>∃k:Nat,e=.returned (.int .i64 (k:Int))/\k<J/\w'=V):=Hk fun V=>QrB cw J V (by omega) dp
   go_wp2_with (first|(go_at_call 10;refine(f5.out _).mono ?_;rintro e9 w9 ⟨k,rfl,hk,h9⟩;obtain rfl:w8=w9:=h9.symm;clear h9));rcases ak.out.jobs with ⟨-,e0⟩|⟨b,c',e0,bJ,hb,aI⟩
   ·have:=aA.out.2.1;omega
   rw[aA.out.2.1] at e0 bJ aI;simp only[Value.slice.injEq,true_and] at e0;obtain⟨rfl,rfl⟩:=e0;obtain⟨F,hF⟩:=Qlm aI;have fx:=Hk hF;obtain⟨l1,r1,u1⟩:=QgO (s:=k) (m:=J-k) hF (by omega);obtain⟨l2,r2,u2⟩:=QgO (s:=0) (m:=k) hF (by omega);have cO:Fw.Box w8.drew w7.heap.size [.slice ia I ic,.slice (some ⟨b,0,none⟩) J jc,.slice oa O oc]:=bp.out.block rfl;have aK:Below w7.heap.size w7 w8.drew:=a0.out.drew;have d1:=cell_below ap.out.2.1 aK;have gb:=Hk d1;have bC:=Hk cO;have e8:=Hk aK;have fW:=Hk (Qjm b (k*15) (J-k) (jc-k) _ w8.drew l1 (by omega) (by have:=aK.size;omega) (fun j u hu=>(aK.cell (p:=⟨b,k*15+j,none⟩) hb).trans (r1 j u hu)) u1);have bQ:Hid (∀V,Below w7.heap.size w7 V->V.rangeAt b 0 ((List.range' 0 k).flatMap F)):=Hk fun V U j u hu=>(U.cell (p:=⟨b,0+j,none⟩) hb).trans (by have:=r2 j u hu;rwa[Nat.zero_mul] at this)
   have fU:=Hk l2;have fE:=Hk u2;have s1:(k:Int)<=(J:Int):=by omega
   have s2:(J:Int)<=(jc:Int):=by omega
   have s3:(0:Int)<=(k:Int):=by omega
   have s4:¬jc=k:=by omega
   have s5:(k:Int)<=(jc:Int):=by omega
   have s6:(J:Int)-(k:Int)=((J-k:Nat):Int):=by omega
   have s7:(jc:Int)-(k:Int)=((jc-k:Nat):Int):=by omega
   clear hF l1 r1 u1 l2 r2 u2 cO aK aI q1 q2 q3 k2 bU;go_region_law (first|(go_simp;go_at_call 11;refine fW.out.mono ?_;rintro e6 fO ⟨v6,rfl,cD,aB⟩;have d6:=cell_below gb.out aB;have fF:=Hk (bC.out.below aB);have eH:=Hk aB.size;have dP:=Hk (bel_then e8.out aB);have dx:=Hk cD;obtain⟨a6,c6,rfl⟩:=own_slice cD;clear cD aB)|(refine Qf9 (by rfl) _ _ _ (by rfl) w8.drew.heap.size 50 i0 _ 15 208 Tryz.underlying26 hi ep d4 ed rfl (by decide) (.slice a6 (J-k) c6) (J-k) _ (by rfl) dx.out ⟨b,0,none⟩ k jc _ (by rfl) fU.out (fun j u hu=>by rw[Addr.add_mid];exact bQ.out fO dP.out j u hu) fE.out (by unfold maxLen;omega) (by omega) eH.out ?_;intro v7 w9 cg dw _;rw[show J-k+k=J by omega] at cg;obtain⟨a7,n7,rfl⟩:=own_slice cg;have fD:=Hk cg;have gk:=Hk dw;have cb:=fF.out.grown dw (fun e=>by have:=(dx.out.lt _ e).1;have:=bC.out.lt;omega);have c7:=cb.cell 1 (v:=.slice (some ⟨b,0,none⟩) J jc) rfl;have f7:=cb.fz 1;have fu:=Hk cb;clear cg dw cb))
   all_goals
    obtain⟨fp,ft,fZ⟩:=QrL (f:=f) (k:=k) (h5:=bC.out.lt) dP.out dx.out gk.out (by rw[aA.out.2.1];exact fD.out) fu.out (by rw[aA.out.2.1];exact fx.out) (by rw[aA.out.2.1];exact hk) ak.out.ins ak.out.outs;go_wp2_with fail;go_meet;exact⟨k,a7,n7,fp,ft,fZ⟩
 case rest=>
  obtain⟨k,ga,gc,d3,en,cN⟩:=hcut;obtain⟨o',m',cJ,-,-⟩:=Qp9 (g:=Qlz f k) ad.out.2 rfl (Qfe f k) rfl;have bb:=Hk (Ai cJ (QqR ad.out.1 k));have bT:=Hk (Ai d3 (Ai en cN));obtain⟨w9,fk⟩:∃y,wc.alloc (.map #[] 0)=y:=⟨_,rfl⟩;have cr:TabS wc w9 wc.heap.size [] []:=by
   rw[<-fk];exact⟨Qaa _ _,MapC.made wc,trivial⟩
  have fL:=Hk cr;have g1:=(ap.out.below (bel_then cN cr.low)).1;have cx:Hid (f.ins.map (·.name)).Nodup:=Hk (by
   have bj:=ad.out.2.1.nodup;unfold Qaw at bj;exact(List.nodup_append.1 bj).1)
  clear cJ d3 en cN cr q1 q2 q3 k2 bU cZ bp a0 hi ep d4 ed dp;have fa:=dj.out.1;have g7:∀V:World,(Instr.makeMap 22 none).run Tryz.prog V=.ok (.map (some V.heap.size)) (V.alloc (.map #[] 0)):=fun V=>by kernel_rfl
  go_wp2;go_loopw [16] (fun i wr=>∃r:Nat,r<=I/\i=.int .i64 r/\∃A,TabS wc wr wc.heap.size A (Qcw G (f.ins.take r))) (fun i _=>I-(intOf i).toNat)
  case atStart=>exact⟨0,Nat.zero_le _,rfl,[],fL.out⟩
  case round=>
   obtain⟨r,hr,rfl,A,hS⟩:=hrel;have HS:=Hk hS;have aq:Below w7.heap.size w7 wr:=bel_then bT.out.2.2 hS.low;have eG:=Hk aq;have cB:=(ap.out.below aq).1
   by_cases hlt:r<I
   ·have bW:r<f.ins.length:=by rw[aA.out.1];exact hlt
    obtain⟨b,c,e0,bJ,hb,v,d0,d1,d2,ej⟩:=Qng (ak.out.below aq) bW;simp only[Value.slice.injEq] at e0;obtain⟨rfl,-,rfl⟩:=e0;have dt:=ad.out.1.ins _ (List.getElem_mem bW);have b3:f.ins[r].name.length<=1000:=by have:=dt.1;omega
    have ab:=cu.out.look wr aq _ b3 true;have d8:Hid (f.ins.take (r+1)=f.ins.take r++[f.ins[r]]):=Hk (List.take_succ_eq_append_getElem bW)
    cases hgn:G f.ins[r].name with
    |none=>
     rw[hgn] at ab;simp only[Option.map_none,Option.getD_none,Option.isSome_none,if_true] at ab;have bS:Hid (Qcw G (f.ins.take (r+1))=Qcw G (f.ins.take r)):=Hk (by rw[d8.out,Qnz hgn]);obtain⟨bx,aD⟩:∃bx,ba f.ins[r].name=bx:=⟨_,rfl⟩;rw[aD] at d1 ab;clear ej dt b3 hgn aD hS aq d0 d2;go_wp2;go_roundw
     case rel=>exact⟨r+1,by omega,by go_num,A,by rw[bS.out];exact HS.out.below (Qaa _ _)⟩
     case measure=>simp[intOf];omega
    |some ut=>
     obtain⟨u,t⟩:=ut;rw[hgn] at ab;have de:=(cu.out.tab _ u t hgn).below aq;obtain⟨vc,vr,rfl,am,aC⟩:=de;simp only[Option.map_some,Option.getD_some,Option.isSome_some,if_true] at ab;obtain⟨bh,cU⟩:∃y,wr.alloc (.cells #[vc,vr] 54)=y:=⟨_,rfl⟩;have dc:Below wr.heap.size wr bh:=by rw[<-cU];exact Qaa _ _
     have dy:Fw.Box bh wr.heap.size [vc,vr]:=by rw[<-cU];exact Fw.Box.new wr _ _ _ rfl
     have ac:Below wr.heap.size wr bh.drew:=dc.drew;have az:Fw.Box bh.drew wr.heap.size [vc,vr]:=dy.block rfl;have bZ:=hS.below ac;have d7:f.ins[r].name∉keysA A:=by
      rw[hS.mem.keys];intro hq;have:=Qiz hq;have e:f.ins.map (·.name)=(f.ins.take r).map (·.name)++f.ins[r].name::(f.ins.drop (r+1)).map (·.name):=by
       rw[<-List.map_cons (f:=fun(x:Fw.FIn)=>x.name),<-Qdo bW,<-List.map_append,List.take_append_drop]
      exact Qdn cx.out e this
     have f1:A.length<=16:=by
      rw[hS.len];have:=Qo8 G (f.ins.take r);have:=List.length_take_le r f.ins;have:=dj.out.1;omega
     have ex:Qgi bh.drew (.agg #[vc,vr]) t:=⟨vc,vr,rfl,am.below ac,aC.below ac⟩;obtain⟨ho,cy,cC,bL,-⟩:=Qen bZ.map d7 (by omega) b3 (.agg #[vc,vr]);have b0:=Hk (Stay.put bZ.map.obj bL);have HF:=Hk (TabS.put (n:=f.ins[r].name) (t:=t) bZ (Nat.le_refl _) ex cC bL);have bS:Hid (Qcw G (f.ins.take (r+1))=Qcw G (f.ins.take r)++[(f.ins[r].name,t)]):=Hk (by rw[d8.out,Qny hgn]);have x0:=cell_below cB ac;have x1:=cell_below d1 ac;have x2:=az.cell 0 (v:=vc) rfl;have x3:=az.cell 1 (v:=vr) rfl;obtain⟨nm,dO⟩:∃nm,f.ins[r].name=nm:=⟨_,rfl⟩;rw[dO] at d1 ab cy HF bS x1;obtain⟨bx,aD⟩:∃bx,ba nm=bx:=⟨_,rfl⟩;rw[aD] at d1 ab cy x1;obtain⟨ca,cc,rfl,-⟩:=am;obtain⟨ra,rc,rfl,-⟩:=aC;clear ej dt b3 hgn aD hS aq d0 d2 dy dc az d7 f1 ex cC bL bZ dO;generalize t.1.length=tn at*;generalize t.2.length=tm at*;go_wp2_with fail;have hj:(r:Int)<(I:Int):=by omega
     refine wp_region_held_drew (S:=fun V=>V.cell? ⟨R3,0,none⟩=some (.slice (some ⟨b,0,none⟩) I ic)/\V.cell? ⟨b,r*3+1,none⟩=some (.string bx)/\V.cell? ⟨wr.heap.size,0,none⟩=some (.slice ca tn cc)/\V.cell? ⟨wr.heap.size,1,none⟩=some (.slice ra tm rc)) (by kernel_rfl) ⟨x0,x1,x2,x3⟩ (fun hH=>?_);have X0:=Hk x0;have X1:=Hk x1;have X2:=Hk x2;have X3:=Hk x3;clear x0 x1 x2 x3 cB d1;refine wpAnyH_take (i:=0) (v:=.map (some wc.heap.size)) rfl (by kernel_rfl) (by kernel_rfl) (by kernel_rfl) (fun _ _ _ h=>h) (Or.inl ⟨by rfl,?_⟩) (by assumption) ?_
     ·rintro V ⟨y0,y1,y2,y3⟩;go_simp
     simp only[List.getElem_toArray,List.getElem_cons_zero,List.getElem_cons_succ,Act.put,List.setIfInBounds_toArray,List.set_cons_zero,List.set_cons_succ];refine wpAnyH_take (i:=1) (v:=.pointer (some ⟨R3,0,none⟩)) rfl (by kernel_rfl) (by kernel_rfl) (by kernel_rfl) (fun _ _ _ h=>h) (Or.inl ⟨by rfl,?_⟩) (by assumption) ?_
     ·rintro V ⟨y0,y1,y2,y3⟩;go_simp
     simp only[List.getElem_toArray,List.getElem_cons_zero,List.getElem_cons_succ,Act.put,List.setIfInBounds_toArray,List.set_cons_zero,List.set_cons_succ];refine wpAnyH_take (i:=2) (v:=.slice (some ⟨b,0,none⟩) I ic) rfl (by kernel_rfl) (by kernel_rfl) (by kernel_rfl) (fun _ _ _ h=>h) (Or.inl ⟨by rfl,?_⟩) (by assumption) ?_
     ·rintro V ⟨y0,y1,y2,y3⟩;go_simp
     simp only[List.getElem_toArray,List.getElem_cons_zero,List.getElem_cons_succ,Act.put,List.setIfInBounds_toArray,List.set_cons_zero,List.set_cons_succ];refine wpAnyH_take (i:=3) (v:=.int .i64 r) rfl (by kernel_rfl) (by kernel_rfl) (by kernel_rfl) (fun _ _ _ h=>h) (Or.inl ⟨by rfl,?_⟩) (by assumption) ?_
     ·rintro V ⟨y0,y1,y2,y3⟩;go_simp
     simp only[List.getElem_toArray,List.getElem_cons_zero,List.getElem_cons_succ,Act.put,List.setIfInBounds_toArray,List.set_cons_zero,List.set_cons_succ];refine wpAnyH_take (i:=4) (v:=.pointer (some ⟨b,r*3,none⟩)) rfl (by kernel_rfl) (by kernel_rfl) (by kernel_rfl) (fun _ _ _ h=>h) (Or.inl ⟨by rfl,?_⟩) (by assumption) ?_
     ·rintro V ⟨y0,y1,y2,y3⟩;go_simp
     simp only[List.getElem_toArray,List.getElem_cons_zero,List.getElem_cons_succ,Act.put,List.setIfInBounds_toArray,List.set_cons_zero,List.set_cons_succ];refine wpAnyH_take (i:=5) (v:=.pointer (some ⟨b,r*3+1,none⟩)) rfl (by kernel_rfl) (by kernel_rfl) (by kernel_rfl) (fun _ _ _ h=>h) (Or.inl ⟨by rfl,?_⟩) (by assumption) ?_
     ·rintro V ⟨y0,y1,y2,y3⟩;go_simp
     simp only[List.getElem_toArray,List.getElem_cons_zero,List.getElem_cons_succ,Act.put,List.setIfInBounds_toArray,List.set_cons_zero,List.set_cons_succ];refine wpAnyH_take (i:=6) (v:=.string bx) rfl (by kernel_rfl) (by kernel_rfl) (by kernel_rfl) (fun _ _ _ h=>h) (Or.inl ⟨by rfl,?_⟩) (by assumption) ?_
     ·rintro V ⟨y0,y1,y2,y3⟩;go_simp
     simp only[List.getElem_toArray,List.getElem_cons_zero,List.getElem_cons_succ,Act.put,List.setIfInBounds_toArray,List.set_cons_zero,List.set_cons_succ];refine wpAnyH_take (i:=7) (v:=.agg #[.slice ca tn cc,.slice ra tm rc]) rfl (by kernel_rfl) (by kernel_rfl) (by kernel_rfl) (fun _ _ _ h=>h) (Or.inl ⟨by rfl,?_⟩) (by assumption) ?_
     ·rintro V ⟨y0,y1,y2,y3⟩;go_simp
     simp only[List.getElem_toArray,List.getElem_cons_zero,List.getElem_cons_succ,Act.put,List.setIfInBounds_toArray,List.set_cons_zero,List.set_cons_succ];refine wpAnyH_ready (rs:=[8]) (by kernel_rfl) (by simp) ?_;refine AllReadyH.cons rfl (fun K hK=>?_) AllReadyH.nil;go_simp;refine hK.out _ _ ⟨b0.out.cell _ _ X0.out,b0.out.cell _ _ X1.out,b0.out.cell _ _ X2.out,b0.out.cell _ _ X3.out⟩ (fun hH=>?_);clear hK K
     try simp only[List.getElem_toArray,List.getElem_cons_zero,List.getElem_cons_succ,Act.put,List.setIfInBounds_toArray,List.set_cons_zero,List.set_cons_succ]
     refine wpAnyH_done (by kernel_rfl) ?_ _;go_wp2;go_roundw
     case rel=>exact⟨r+1,by omega,by go_num,_,by rw[bS.out];exact HF.out⟩
     case measure=>simp[intOf];omega
   ·obtain rfl:r=I:=by omega
    have ci:f.ins.take r=f.ins:=List.take_of_length_le (by rw[aA.out.1];omega);rw[ci] at hS;have ce:=GivM.of hS.map hS.mem;have cF:∀n u t,Qle A (Qcw G f.ins) n=some (u,t)->t.1.length<=60:=fun n u t e=>by
     have h2:=ce.2 n;rw[e] at h2;exact Qlt HG.out.2 n t h2.symm
    have ah:=Hk (bel_then ef.out aq);have aS:=Hk (cS.out (Qlz f k) o' m' _ _ _ (.map (some wc.heap.size)) _ wr ah.out (bT.out.1.below hS.low) bb.out.2 bb.out.1 ce.1 cF);rw[show(fun n=>(Qle A (Qcw G f.ins) n).map (·.2))=QaP (Qcw G f.ins) from funext ce.2] at aS;have p0:=bT.out.2.1.below hS.low;have p1:=p0.1;have p2:=p0.2.1;have p3:=p0.2.2;clear hS ce cF p0 ci aq;go_wp2_with (first|(go_at_call 9;fail));refine aS.out.mono ?_;rintro hp bq ew;obtain⟨c9,hc,n2,k2,rfl,al⟩:=QqT ew;obtain⟨E,dr⟩:∃x,bq.alloc (.cells #[.int .i64 n2,.int .i64 k2] 39)=x:=⟨_,rfl⟩;have aL:Below bq.heap.size bq E:=by rw[<-dr];exact Qaa _ _
    have bI:Fw.Box E bq.heap.size [.int .i64 n2,.int .i64 k2]:=by rw[<-dr];exact Fw.Box.new bq _ _ _ rfl
    have bN:=bel_then c9 aL;have af:=bel_then eG.out bN;have dg:=Hk (bel_then ah.out bN);have hv:=Qq2 ad.out.2 ad.out.1 bb.out.1 bb.out.2 (show(Qlz f k).ins=f.ins from rfl) (Qfe f k) rfl (fun i hi=>by rw[QiA cx.out i hi,dQ.out]) (eD.out.below af) (al.below aL);have hX7':=ez.out.below af;have c0:=hX7'.cell 0 (v:=.int .i64 n1) rfl;have c1:=hX7'.cell 1 (v:=.int .i64 k1) rfl;have d0:=bI.cell 0 (v:=.int .i64 n2) rfl;have d1:=bI.cell 1 (v:=.int .i64 k2) rfl;have eU:=Hk (ap.out.below af);have dD:=Hk (ak.out.below af);have br:=Hk (Ai (bd.out.1.below af) (Ai (bd.out.2.1.imp bd.out.2.2 (fun u cs _ hv=>hv.below af)) bd.out.2.2));have gt:=Hk hX7';have z3:=eU.out.2.2;have gX:=dj.out.2;have df:=Hk (Ai ad.out.2.1 ad.out.1);clear ew c9 al aL bN af hX7' bI cB p1 p2 p3 aS bT bb HS eG ah eD HG dU b8 cS eo dQ ap ak cu bd ef cx ez fa hr hlt;rcases hv with ⟨rfl,rfl,f9,fy,hk⟩|⟨rfl,rfl,rfl,rfl,M,hT,rfl,b9⟩
    ·have gV:∀ty (V:World),(Builtin.len_ #[22] ty #[.map none]).run Tryz.prog V=.ok (.int .i64 0) V:=fun ty V=>Maps.len_nil Tryz.underlying22 ty
     have bk:=run_range_nilMap (P:=Tryz.prog) E 22 9 54 Tryz.underlying22;have ao:∀ty,(Instr.next (.pointer (some ⟨E.heap.size,0,none⟩)) false ty).run Tryz.prog (E.alloc (.mapIter none 0 #[] 0))=_:=fun ty=>run_next_nilMap E ty 0 0 #[]
     have z4:=cell_below z3 (Qaa E (.mapIter none 0 #[] 0));have c4:=cell_below c0 (Qaa E (.mapIter none 0 #[] 0));have b1:(n1==0)=false:=by simpa using f9
     have b2:(n2==0)=false:=by simpa using fy
     by_cases hO:(0:Int)<(O:Int)
     all_goals
      rcases hk with ⟨rfl,rfl⟩|⟨j,J',rfl,rfl⟩
      all_goals
       try have s1:¬(j:Int)<0:=by omega
       try have s2:¬(J':Int)<0:=by omega
       go_wp2;refine wp_loop_rounds 1 ?_;rw[rounds_succ];go_wp2;refine wp_loop_rounds 1 ?_;rw[rounds_succ];go_wp2;go_ret;exact⟨rfl,bel_then dg.out (Qaa _ _)⟩
    ·obtain⟨b1,b2,A1,A2,rfl,rfl,cd,cA,cM,cX,em,bj⟩:=hT;have gs:∀ty,(Builtin.len_ #[22] ty #[.map (some b1)]).run Tryz.prog E=.ok (.int .i64 (A1.length:Nat)) E:=fun ty=>Qfc cd ty
     have gq:∀ty,(Builtin.len_ #[22] ty #[.map (some b2)]).run Tryz.prog E=.ok (.int .i64 (A1.length:Nat)) E:=fun ty=>by
      have:=Qfc cM ty;rwa[cX.len,<-cA.len] at this
     obtain⟨D,cH,dh,e3⟩:=cd.is;have e7:=Hk dh;have HH:=Hk (Ai cA (Ai cM (Ai cX cd)));have bP:=Hk (Ai em (Ai bj b9));clear cd cM cA cX dh e3 em bj b9;generalize A1.length=N at*;go_wp2_with (first|(at_range;refine wpList_range_own _ rfl _ 22 rfl 9 54 QbP Tryz.underlying22 Dk.Rv b1 N D rfl cH ?_;intro gh b4 av ff));have aS:=Hk b4;have aw:=Hk (show Below E.heap.size E gh from⟨av.os,av.tape,av.output,av.size,fun k hk=>av.block k hk (by simp)⟩);clear cH av ff b4
     try go_frame
     go_loopw [] (fun wr=>∃left dq,wr.ranges Tryz.prog 9 Dk.Rv b1 E.heap.size N D left dq/\Below E.heap.size E wr) (fun wr=>wr.rangeLeft b1 E.heap.size)
     case atStart=>exact⟨_,_,aS.out,aw.out⟩
     case round=>
      obtain⟨left,dq,bk,bX⟩:=hrel;have ah:=Hk bX;have RG:=Hk bk;have z4:=cell_below z3 bX;have c4:=cell_below c0 bX;clear aS aw bX;go_wp2_with (first|(at_next;refine wpList_next_ranges _ rfl _ rfl 9 QbP Dk.Rv Value.string (fun v:Value=>v) (fun key kl h=>by obtain⟨x,rfl,_⟩:=Qf7 h;exact⟨x,rfl⟩) (fun v y _=>⟨v,rfl⟩) b1 E.heap.size N D left dq rfl bk ?_ ?_)|go_in)
      ·intro fr fY;clear fr fY bk;go_wp2;obtain⟨wb,f4⟩:∃y,y=wr:=⟨_,rfl⟩;subst f4;clear z4 c4;go_loopw [23] (fun i wr=>∃q:Nat,q<=O/\i=.int .i64 q/\Below E.heap.size E wr) (fun i _=>O-(intOf i).toNat)
       case atStart=>exact⟨0,Nat.zero_le _,rfl,ah.out⟩
       case round=>
        obtain⟨q,hq,rfl,ao⟩:=hrel;have fT:=Hk ao;have z5:=cell_below z3 ao;have c5:=cell_below c0 ao
        by_cases hlq:q<O
        ·have ch:q<f.outs.length:=by rw[aA.out.2.2];exact hlq
         obtain⟨ob,ha,e0,bJ,hl,y0,y1,y2⟩:=Qpo (dD.out.below ao) ch;simp only[Value.slice.injEq] at e0;obtain⟨rfl,-,rfl⟩:=e0;have bz:=df.out.2.outs _ (List.getElem_mem ch);have aU:f.outs[q].from_∈keysT M:=bP.out.2.2.mem_iff.2 (df.out.1.outs _ (List.getElem_mem ch));have aX:(f.outs[q].name,(QaP M f.outs[q].from_).getD ([],[]))∈QbU f M:=List.mem_map.2 ⟨_,List.getElem_mem ch,rfl⟩;obtain⟨u,t,ei,dL,dR,eb⟩:=HH.out.1.look (n:=f.outs[q].name) (List.mem_map.2 ⟨_,aX,rfl⟩);have eA:=Qiv bP.out.2.1 aX;obtain⟨x',-,-,dY⟩:=QbT aU;have eB:QaP M f.outs[q].from_=some t:=by
          have e:=Option.some.inj (dL.symm.trans eA);rw[e,dY];rfl
         have dT:Qae t.1 t.2=true:=bP.out.1 _ eb;obtain⟨u5,fG,aE,al,ey,eq⟩:=br.out.2.1.look (n:=f.outs[q].from_) (by rw[Qeo];exact aU);have f6:fG=t.1:=by
          rw[Qit,eB] at al;exact(Option.some.inj al).symm
         have aV:=br.out.2.2 _ eq;subst f6;obtain⟨vc,vr,rfl,am,aC⟩:=dR.below ao;have ab:=Qdm (HH.out.2.2.2.below ao) f.outs[q].name (by have:=bz.1;omega) false;rw[ei] at ab;simp only[Option.getD_some,Bool.false_eq_true,if_false] at ab;obtain⟨Z,cL⟩:∃y,wr.alloc (.cells #[vc,vr] 54)=y:=⟨_,rfl⟩;have ax:Below wr.heap.size wr Z:=by rw[<-cL];exact Qaa _ _
         have bD:Fw.Box Z wr.heap.size [vc,vr]:=by rw[<-cL];exact Fw.Box.new wr _ _ _ rfl
         have gE:=Hk bD;have gK:=Hk ax;have ac:Below wr.heap.size wr Z.drew:=ax.drew;have dl:=Hk (bel_then ao ac);have az:Fw.Box Z.drew wr.heap.size [vc,vr]:=bD.block rfl;have gg:=Hk az;have b8:Hid (∀V,Below Z.drew.heap.size Z.drew V->Calls Tryz.prog 13 #[.agg #[vc,vr]] V fun e w'=>e=.returned (.bool true)/\Below V.heap.size V w'):=Hk (fun V U=>by
          have:=Go.Proofs.YtjlgejennghhlaaGreatDoor.right_any vc vr t.1 t.2 V ((am.below ac).below U) ((aC.is.below ac).below U);rwa[dT] at this)
         have dX:Hid (∀V,Below E.heap.size E V->(Instr.lookup 32 (.map (some b5)) (.string (ba f.outs[q].from_)) false).run Tryz.prog V=.ok u5 V):=Hk fun V U=>by
          have:=(br.out.1.below U).look f.outs[q].from_ (by have:=bz.2;omega) false;rw[aE] at this;exact this
         have fS:Hid (∀V,Below Z.drew.heap.size Z.drew V->Calls Tryz.prog 14 #[vc,u5] V fun e w'=>e=.returned (.bool true)/\Below V.heap.size V w'):=Hk (fun V U=>by
          refine Calls.mono (Qnn vc u5 t.1 t.1 V ((am.below ac).below U) (Qqc ((ey.below dl.out).below U) aV) (Nat.le_trans aV.2.1 (by decide)) (Nat.le_trans aV.2.1 (by decide))) ?_;rintro e w' ⟨rfl,hb⟩;exact⟨by simp,hb⟩)
         have HZ:Hid (∀V,Below Z.drew.heap.size Z.drew V->V.cell? ⟨R3,2,none⟩=some (.slice (some ⟨ob,0,none⟩) O oc)/\V.cell? ⟨ob,q*3+2,none⟩=some (.string (ba f.outs[q].from_))):=Hk fun V U=>⟨cell_below (cell_below z5 ac) U,cell_below (cell_below y2 ac) U⟩
         obtain⟨bx,aD⟩:∃bx,ba f.outs[q].name=bx:=⟨_,rfl⟩;obtain⟨bf,d9⟩:∃bf,ba f.outs[q].from_=bf:=⟨_,rfl⟩;rw[aD] at y1 ab;rw[d9] at y2 dX HZ;obtain⟨ca,cc,rfl,-⟩:=am;obtain⟨ra,rc,rfl,-⟩:=aC;obtain⟨ub,uo,uc,rfl,-⟩:=ey;have e0:=az.cell 0 (v:=.slice ca t.1.length cc) rfl;have e1:=az.cell 1 (v:=.slice ra t.2.length rc) rfl;have g8:(q:Int)<(O:Int):=by omega
         clear bz aU aX ei dL dR eb eA dY eB dT aE al eq aV bD ax ac az ao y0 y2 aD d9;generalize t.1.length=tn at*;generalize t.2.length=tm at*;go_wp2_with fail;go_region_law (first|(go_simp;go_at_call 13;refine(b8.out _ (Below.refl _ _)).mono ?_;rintro g6 aF ⟨rfl,H⟩;have bt:=Hk H;obtain⟨t0,t1⟩:=HZ.out aF H;have t2:=dX.out aF (bel_then dl.out H);have bB:=gg.out.below H;have t3:=bB.cell 0 (v:=.slice ca tn cc) rfl;have t4:=bB.cell 1 (v:=.slice ra tm rc) rfl;have eL:=Hk (fS.out aF H);clear H bB)|(go_simp;go_at_call 14;refine eL.out.mono ?_;rintro gp fK ⟨rfl,c8⟩;have bM:=Hk (bel_then dl.out (bel_then bt.out c8));clear c8))
         all_goals
          go_wp2;go_roundw
          case rel=>exact⟨q+1,by omega,by go_num,bM.out⟩
          case measure=>simp[intOf];omega
        ·obtain rfl:q=O:=by omega
         have s1:¬(q:Int)<(q:Int):=Int.lt_irrefl _;go_wp2;go_ret;exact⟨rfl,bel_then dg.out fT.out⟩
      ·intro kx v kl ya yb Z gr cE ab hv eE b6 cf ay eO ht;obtain⟨hd,ek,dV,fv⟩:=Qf7 cE;injection ek with ek;subst ek fv;have hy:ya=.held v:=(congrArg Prod.fst (Option.some.inj hv)).symm;subst hy;have di:=Qkd e7.out eE;have ax:Below E.heap.size E Z:=⟨ay.os.trans ah.out.os,ay.tape.trans ah.out.tape,ay.output.trans ah.out.output,Nat.le_trans ah.out.size ay.size,fun k hk=>(ay.block k (Nat.lt_of_lt_of_le hk ah.out.size) (by intro q;injection q with q;omega)).trans (ah.out.block k hk)⟩;have bs:kx.data.toList∈keysT (QbU f M):=by
        rw[<-HH.out.1.keys];exact List.mem_map.2 ⟨_,QeH di,rfl⟩
       obtain⟨v',t,aE,d5,de,ee⟩:=HH.out.1.look bs;obtain rfl:v=v':=Option.some.inj (di.symm.trans aE);obtain⟨v2,t2,al,eu,eQ,-⟩:=HH.out.2.2.1.look bs;obtain rfl:t=t2:=Option.some.inj (d5.symm.trans eu);obtain⟨vc,vr,rfl,am,aC⟩:=de;obtain⟨fB,fH,rfl,cI,dk⟩:=eQ;obtain⟨aF,bE⟩:∃y,Z.alloc (.cells #[vc,vr] 54)=y:=⟨_,rfl⟩;have H:Below Z.heap.size Z aF:=by rw[<-bE];exact Qaa _ _
       have aa:=bel_then ax H;obtain⟨l1,l2,l3⟩:=Qls (bP.out.1 _ ee);have gd:=Hk (Qn2 fB fH vc vr t.1 t.2 aF (cI.below aa) (dk.is.below aa) (am.below aa) (aC.is.below aa) l1 l2 l3);have lk:=Qlr (HH.out.2.1.below aa) kx dV;rw[al] at lk;simp only[Option.getD_some] at lk;have t0:aF.cell? ⟨Z.heap.size,0,none⟩=some vc:=by rw[<-bE];exact World.cell?_alloc_at _ _ _ _ rfl
       have t1:aF.cell? ⟨Z.heap.size,1,none⟩=some vr:=by rw[<-bE];exact World.cell?_alloc_at _ _ _ _ rfl
       have bt:=Hk aa;have eK:=Hk (b6.kept (row:=none) ⟨H.os,H.tape,H.output,H.size,fun k hk _=>H.block k hk⟩ (by simp) (by simp));have f2:=Hk cf;obtain⟨ca,cc,rfl,-⟩:=am;obtain⟨ra,rc,rfl,-⟩:=aC;obtain⟨hx,g9,rfl,-⟩:=cI;obtain⟨hw,hn,rfl,-⟩:=dk;clear bk cE ab hv eE b6 cf ay eO di ax H aa aE d5 eu al ee dV bs l1 l2 l3 z4 c4;generalize t.1.length=tn at*;generalize t.2.length=tm at*;go_wp2_with (go_at_call 12;refine gd.out.mono ?_;rintro gp fK ⟨rfl,aM⟩;have bM:=Hk (bel_then bt.out aM);have eC:=Hk (eK.out.kept (row:=none) ⟨aM.os,aM.tape,aM.output,aM.size,fun k hk _=>aM.block k hk⟩ (by simp) (by simp));clear aM);go_roundw
       case rel=>exact⟨_,_,eC.out,bM.out⟩
       case measure=>rw[eC.out.left_eq,RG.out.left_eq];exact f2.out
end Go.Proofs.YtjlgejennghhlaaGreatDoor.Pl.Ev
