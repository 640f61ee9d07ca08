import Derived.Test.YtjlgejennghhlaaGreatDoorQ01
import Derived.Test.YtjlgejennghhlaaGreatDoorQ47
set_option linter.unusedSimpArgs false
set_option linter.unusedVariables false
set_option linter.unusedSectionVars false
set_option maxRecDepth 1000000
set_option maxHeartbeats 16000000
namespace Go.Proofs.YtjlgejennghhlaaGreatDoor.Pl.Ev
open Go.RowKit Go.Maps
open Fw (By FJob Flw ba)
theorem Qp0 (a D:Option Addr) (n y c F:Nat) (w:World) (h:n≠y):
 Calls Tryz.prog 14 #[.slice a n c,.slice D y F] w fun e w'=>e=.returned (.bool false)/\Below w.heap.size w w':=by
 have I:((n:Int) != (y:Int))=true:=by simp;omega
 have H:¬(n:Int)=(y:Int):=by omega
 go_enter Tryz.func14,Tryz.ntmps14;go_wp2;go_ret;exact⟨rfl,Below.refl _ _⟩
open Classical in
theorem Qp1 (u v:Value) (cs h:List Cl) (w:World) (I:Qax w u cs) (F:Qax w v h) (N:cs.length<=60) (Z:h.length<=60):
 Calls Tryz.prog 14 #[u,v] w fun e w'=>e=.returned (.bool (decide (cs=h)))/\Below w.heap.size w w':=by
 by_cases e:cs=h
 ·subst e;rw[decide_eq_true rfl];exact Qo7 u v cs w I F N
 ·rw[decide_eq_false e];obtain⟨a,c,rfl,-,-,K⟩:=I;obtain⟨a',M,rfl,-,-,H⟩:=F
  by_cases hl:cs.length=h.length
  ·rcases K with rfl|⟨b,o,rfl,U,J⟩
   ·exact absurd (List.length_eq_zero_iff.1 hl.symm).symm e
   ·rcases H with rfl|⟨O,V,rfl,D,y⟩
    ·exact absurd (List.length_eq_zero_iff.1 hl) e
    ·exact Qpa b o c O V M _ _ cs h w rfl rfl (by omega) (by omega) U D J y e
  ·exact Qp0 _ _ _ _ _ _ w hl
open Classical in
noncomputable def QcL (G:By->Option Tb):List Fw.FIn->TM->Except Int TM
 |[],m=>.ok m
 |i::r,m=>match G i.name with
  |none=>.error 7
  |some t=>if t.1=QaY i.cols/\Qae t.1 t.2=true then QcL G r (m++[(i.name,t)]) else .error 13
def QrW (f:Flw) (G:By->Option Tb) (w:World) (e:Ending) (w':World):Prop:=Below w.heap.size w w'/\
 ((∃n,QcL G f.ins []=.error n/\n≠0/\e=.returned (.tuple #[.map none,.iface 37 (.int .i64 n)]))\/
  (∃I A b,QcL G f.ins []=.ok I/\e=.returned (.tuple #[.map (some b),.nilIface])/\w.heap.size<=b/\MapC w' b A/\QaT w' A I))
theorem Qf3 {G:By->Option Tb}:∀{l:List Fw.FIn} {m I:TM},QcL G l m=.ok I->∃r,I=m++r/\keysT r=l.map (·.name)/\(∀x∈r,G x.1=some x.2/\Qae x.2.1 x.2.2=true)/\r.map (·.2.1)=l.map (fun i=>QaY i.cols)
 |[],m,I,h=>by
  unfold QcL at h;injection h with h;exact⟨[],by simp[h],rfl,by simp,rfl⟩
 |i::l,m,I,h=>by
  unfold QcL at h
  cases hg:G i.name with
  |none=>rw[hg] at h;cases h
  |some t=>
   rw[hg] at h;simp only at h;split at h
   ·rename_i D
    obtain⟨r,F,K,H,J⟩:=Qf3 h;refine⟨(i.name,t)::r,by rw[F];simp,by simp only[keysT,List.map_cons];rw[<-keysT,K],fun x y=>?_,by simp only[List.map_cons];rw[J,D.1]⟩;rcases List.mem_cons.1 y with rfl|y
    ·exact⟨hg,D.2⟩
    ·exact H x y
   ·cases h
theorem Qei {α:Type} {l:List α} {k:Nat} (h:k<l.length):l.drop k=l[k]::l.drop (k+1):=List.drop_eq_getElem_cons h
theorem Qk5 (f:Flw) (vi vj vo mv:Value) (G:By->Option (Value×Tb)) (w:World) (h:Fw.FlowRd w f vi vj vo) (hf:Fw.FlwOK f) (hF:Fine f) (hG:GivM w mv G) (be:∀n u t,G n=some (u,t)->t.1.length<=60):
 Calls Tryz.prog 24 #[.agg #[vi,vj,vo],mv] w fun e w'=>QrW f (fun n=>(G n).map (·.2)) w e w':=by
 obtain⟨ia,ic,rfl⟩:=row_slice h.ins;obtain⟨ja,jc,rfl⟩:=row_slice h.jobs;obtain⟨oa,oc,rfl⟩:=row_slice h.outs;obtain⟨I,hI⟩:∃I,f.ins.length=I:=⟨_,rfl⟩;have b1:I<=16:=by rw[<-hI];exact hf.il
 generalize f.jobs.length=J at*;generalize f.outs.length=O at*;rw[hI] at h⊢;obtain⟨w1,bd⟩:∃x,w.alloc (.cells #[.slice ia I ic,.slice ja J jc,.slice oa O oc] 29)=x:=⟨_,rfl⟩;have aI:Below w.heap.size w w1:=by rw[<-bd];exact Qaa _ _
 have bk:Qcc w1 w.heap.size (.slice ia I ic) (.slice ja J jc) (.slice oa O oc):=by rw[<-bd];exact Qcc.new _ _ _ _ _
 obtain⟨w2,bE⟩:∃x,w1.alloc (.map #[] 0)=x:=⟨_,rfl⟩;have a3:TabS w1 w2 w1.heap.size [] []:=by
  rw[<-bE];exact⟨Qaa _ _,MapC.made w1,trivial⟩
 obtain⟨U,aQ⟩:∃U:By->Option Tb,(fun n=>(G n).map (·.2))=U:=⟨_,rfl⟩;rw[aQ];have bN:Hid (∀n,U n=(G n).map (·.2)):=Hk fun n=>by rw[<-aQ]
 have K:=Hk aI;have HH:=Hk (Ai (h.below aI) hf);have bm:=Hk hF;have HI:=Hk hI;have bM:=Hk a3;have HG:=Hk (hG.below aI);have bC:=Hk be;have g1:=(bk.below a3.low).1;clear h hf hI aI bk hF hG be a3 aQ;have b3:∀V:World,(Instr.makeMap 22 none).run Tryz.prog V=.ok (.map (some V.heap.size)) (V.alloc (.map #[] 0)):=fun V=>by kernel_rfl
 go_enter Tryz.func24,Tryz.ntmps24;go_wp2;go_loopw [15] (fun i wr=>∃k:Nat,k<=I/\i=.int .i64 k/\∃A m,TabS w1 wr w1.heap.size A m/\QcL U (f.ins.drop k) m=QcL U f.ins []/\keysT m=(f.ins.take k).map (·.name)) (fun i _=>I-(intOf i).toNat)
 case atStart=>exact⟨0,Nat.zero_le _,rfl,[],[],bM.out,rfl,rfl⟩
 case round=>
  obtain⟨k,hk,rfl,A,m,hS,ae,F⟩:=hrel;have HS:=Hk hS;have bp:=Hk (Ai ae F)
  by_cases hlt:k<I
  ·have ak:k<f.ins.length:=by rw[HI.out];exact hlt
   obtain⟨b,c,e0,bY,hb,v,d0,d1,d2,aN⟩:=QoE (HH.out.1.below hS.low) ak;simp only[Value.slice.injEq] at e0;obtain⟨rfl,-,rfl⟩:=e0;have az:=HH.out.2.ins _ (List.getElem_mem ak);have aE:=QeT (bm.out.cols _ (List.getElem_mem ak)) (fun x hx=>(az.2.2 x hx).1);have aG:Qax wr v (QaY f.ins[k].cols):=Qid aN (fun x hx=>Nat.le_trans (az.2.2 x hx).1 (by decide));obtain⟨va,aK,rfl⟩:=QdN aN;have a5:f.ins[k].name∉keysA A:=by
    rw[hS.mem.keys,F];have bq:=bm.out.nodup;unfold Qaw at bq;have:=(List.nodup_append.1 bq).1;have e:f.ins.map (·.name)=(f.ins.take k).map (·.name)++f.ins[k].name::(f.ins.drop (k+1)).map (·.name):=by
     rw[<-List.map_cons (f:=fun(x:Fw.FIn)=>x.name),<-Qei ak,<-List.map_append,List.take_append_drop]
    exact Qeh this e
   have aT:A.length<=16:=by
    rw[hS.len,show m.length=(keysT m).length by simp[keysT],F];simp;omega
   have aJ:f.ins[k].name.length<=1000:=by have:=az.1;omega
   have M:Hid (QcL U (f.ins[k]::f.ins.drop (k+1)) m=QcL U f.ins []):=Hk (by rw[<-Qei ak];exact ae);have aR:Hid ((f.ins.take (k+1)).map (·.name)=(f.ins.take k).map (·.name)++[f.ins[k].name]):=Hk (by rw[List.take_succ_eq_append_getElem ak,List.map_append];rfl);have aC:=Hk aE;obtain⟨w3,ax⟩:∃x,wr.alloc (.cells #[.int .i64 (f.ins[k].at_:Nat),.string (ba f.ins[k].name),.slice va f.ins[k].cols.length aK] 57)=x:=⟨_,rfl⟩;have aL:Below wr.heap.size wr w3:=by rw[<-ax];exact Qaa _ _
   have aB:Fw.Box w3 wr.heap.size [.int .i64 (f.ins[k].at_:Nat),.string (ba f.ins[k].name),.slice va f.ins[k].cols.length aK]:=by rw[<-ax];exact Fw.Box.new wr _ _ _ rfl
   have H:=(HG.out.look w3 (bel_then hS.low aL) _ aJ true);have aH:Hid (Qax w3 (.slice va f.ins[k].cols.length aK) (QaY f.ins[k].cols)):=Hk (aG.below aL);have bh:=Hk (hS.below aL);have a2:=Hk aB;have ac:=Hk (Ai a5 (Ai aT aJ));have ah:=bN.out f.ins[k].name
   cases hgn:G f.ins[k].name with
   |none=>
    rw[hgn] at H ah;have br:Hid (QcL U f.ins []=.error 7):=Hk (by
     rw[<-M.out];unfold QcL;rw[ah];rfl)
    simp only[Option.map_none,Option.getD_none,Option.isSome_none,if_true] at H;have k1:=aB.cell 1 (v:=.string (ba f.ins[k].name)) rfl;obtain⟨bx,am⟩:∃bx,ba f.ins[k].name=bx:=⟨_,rfl⟩;rw[am] at d1 H k1 ax;clear aN az aE aG hS a5 aT aJ aB ah hgn F ae am M aR aC ac a2 aH;generalize f.ins[k].at_=pl at*;generalize f.ins[k].cols.length=cn at*;go_wp2;refine bodyPost_ret (v:=.tuple #[.map none,.iface 37 (.int .i64 7)]) (by simp[results,Tryz.results24,go_sem]) rfl ?_;exact⟨K.out.trans ((bel_then bh.out.low (Qaa _ _)).mono K.out.size),Or.inl ⟨7,br.out,by decide,rfl⟩⟩
   |some ut=>
    obtain⟨u,t⟩:=ut;rw[hgn] at H ah;have bn:=bC.out _ u t hgn;have bo:=(HG.out.tab _ u t hgn).below (bel_then hS.low aL);have bw:=Hk bo;obtain⟨vc,vr,rfl,a1,a9⟩:=bo;simp only[Option.map_some,Option.getD_some,Option.isSome_some,if_true] at H;obtain⟨w4,av⟩:∃x,w3.alloc (.cells #[vc,vr] 54)=x:=⟨_,rfl⟩;have ai:Below w3.heap.size w3 w4:=by rw[<-av];exact Qaa _ _
    have a0:Fw.Box w4 w3.heap.size [vc,vr]:=by rw[<-av];exact Fw.Box.new w3 _ _ _ rfl
    have ap:=Hk a0;have ar:=Hk (a2.out.below ai);have ab:=Hk (fun V (N:Below w4.heap.size w4 V)=>Qp1 vc _ t.1 (QaY f.ins[k].cols) V ((a1.below ai).below N) ((aH.out.below ai).below N) bn (by have:=aC.out.2.1;omega));have aa:=Hk (fun V (N:Below w4.heap.size w4 V)=>Go.Proofs.YtjlgejennghhlaaGreatDoor.right_any vc vr t.1 t.2 V ((a1.below ai).below N) ((a9.is.below ai).below N));have aX:=Hk (bw.out.below ai);have aM:=Hk (bh.out.below ai);have k1:=aB.cell 1 (v:=.string (ba f.ins[k].name)) rfl;have q0:=a0.cell 0 (v:=vc) rfl;have k2:=ar.out.cell 2 (v:=.slice va f.ins[k].cols.length aK) rfl;have ao:Hid (t.1=QaY f.ins[k].cols->Qae t.1 t.2=true->QcL U (f.ins.drop (k+1)) (m++[(f.ins[k].name,t)])=QcL U f.ins []):=Hk (fun h1 h2=>by
     rw[<-M.out]
     conv=>rhs;unfold QcL
     rw[ah];simp only[Option.map_some];rw[if_pos ⟨h1,h2⟩])
    have al:Hid (¬(t.1=QaY f.ins[k].cols/\Qae t.1 t.2=true)->QcL U f.ins []=.error 13):=Hk (fun h1=>by
     rw[<-M.out];unfold QcL;rw[ah];simp only[Option.map_some];rw[if_neg h1])
    have bf:=Hk av;obtain⟨ca,cc,rfl,-⟩:=a1;obtain⟨ra,rc,rfl,-⟩:=a9;obtain⟨nm,bg⟩:∃nm,f.ins[k].name=nm:=⟨_,rfl⟩;obtain⟨cs,bi⟩:∃cs,QaY f.ins[k].cols=cs:=⟨_,rfl⟩;rw[bg] at d1 H k1 ax ac aR ao ar;rw[bi] at ab ao al;obtain⟨bx,am⟩:∃bx,ba nm=bx:=⟨_,rfl⟩;rw[am] at d1 H k1 ax ar;have bS:=Hk am;clear aN az aE aG hS a5 aT aJ aB ah hgn F ae bg bi am M aC a2 aH a0 bn;generalize f.ins[k].at_=pl at*;generalize f.ins[k].cols.length=cn at*;obtain⟨tn,bF⟩:∃tn,t.1.length=tn:=⟨_,rfl⟩;obtain⟨tm,bT⟩:∃tm,t.2.length=tm:=⟨_,rfl⟩;rw[bF] at H q0 bf ap ab aa aX av;rw[bT] at H bf ap aa aX av
    by_cases hec:t.1=cs
    ·have ad:=fun V N=>by have:=ab.out V N;rw[decide_eq_true hec] at this;exact this
     cases hrb:Qae t.1 t.2 with
     |true=>
      have aw:=fun V N=>by have:=aa.out V N;rw[hrb] at this;exact this
      have aA:=Hk ad;have aY:=Hk aw;have af:=Hk (ao.out hec hrb);clear ad aw ab aa ao al hec hrb;go_wp2_with (first|(go_at_call 14;refine(aA.out _ (Below.refl _ _)).mono ?_;rintro e w5 ⟨rfl,D⟩;have ag:=Hk D;have y:=ap.out.below D;have q0:=y.cell 0 (v:=.slice ca tn cc) rfl;have q1:=y.cell 1 (v:=.slice ra tm rc) rfl;clear D y)|(go_at_call 13;refine(aY.out _ ag.out).mono ?_;rintro e w6 ⟨rfl,ay⟩;have Z:=Hk (bel_then ag.out ay);clear ay;have k1:=(ar.out.below Z.out).cell 1 (v:=.string bx) rfl;have aS:=ap.out.below Z.out;have q0:=aS.cell 0 (v:=.slice ca tn cc) rfl;have q1:=aS.cell 1 (v:=.slice ra tm rc) rfl;obtain⟨w7,bJ,bb,bj,-⟩:=Qfb (aM.out.below Z.out).map ac.out.1 (by have:=ac.out.2.1;omega) ac.out.2.2 (.agg #[.slice ca tn cc,.slice ra tm rc]);rw[bS.out] at bJ;have HF:=Hk (TabS.put (n:=nm) (t:=t) (aM.out.below Z.out) (Nat.le_refl _) (aX.out.below Z.out) bb bj);clear aS bb bj));go_roundw
      case rel=>exact⟨k+1,by omega,by go_num,_,_,HF.out,af.out,by rw[keysT,List.map_append,<-keysT,bp.out.2,aR.out];rfl⟩
      case measure=>simp[intOf];omega
     |false=>
      have aw:=fun V N=>by have:=aa.out V N;rw[hrb] at this;exact this
      have aA:=Hk ad;have aY:=Hk aw;have af:=Hk (al.out (by rw[hrb];simp));clear ad aw ab aa ao al hec hrb;go_wp2_with (first|(go_at_call 14;refine(aA.out _ (Below.refl _ _)).mono ?_;rintro e w5 ⟨rfl,D⟩;have ag:=Hk D;have y:=ap.out.below D;have q0:=y.cell 0 (v:=.slice ca tn cc) rfl;have q1:=y.cell 1 (v:=.slice ra tm rc) rfl;clear D y)|(go_at_call 13;refine(aY.out _ ag.out).mono ?_;rintro e w6 ⟨rfl,ay⟩;have Z:=Hk (bel_then ag.out ay);clear ay));refine bodyPost_ret (v:=.tuple #[.map none,.iface 37 (.int .i64 13)]) (by simp[results,Tryz.results24,go_sem]) rfl ?_;exact⟨K.out.trans ((bel_then aM.out.low Z.out).mono K.out.size),Or.inl ⟨13,af.out,by decide,rfl⟩⟩
    ·have ad:=fun V N=>by have:=ab.out V N;rw[decide_eq_false hec] at this;exact this
     have aA:=Hk ad;have af:=Hk (al.out (fun q=>hec q.1));clear ad ab aa ao al hec;go_wp2_with (first|(go_at_call 14;refine(aA.out _ (Below.refl _ _)).mono ?_;rintro e w5 ⟨rfl,D⟩;have ag:=Hk D;have y:=ap.out.below D;have q0:=y.cell 0 (v:=.slice ca tn cc) rfl;have q1:=y.cell 1 (v:=.slice ra tm rc) rfl;clear D y));refine bodyPost_ret (v:=.tuple #[.map none,.iface 37 (.int .i64 13)]) (by simp[results,Tryz.results24,go_sem]) rfl ?_;exact⟨K.out.trans ((bel_then aM.out.low ag.out).mono K.out.size),Or.inl ⟨13,af.out,by decide,rfl⟩⟩
  ·obtain rfl:k=I:=by omega
   have bz:Hid (QcL U f.ins []=.ok m):=Hk (by
    have:=bp.out.1;rw[List.drop_of_length_le (by rw[HI.out];exact Nat.le_refl _)] at this;exact this.symm)
   clear hS ae F;go_wp2;refine bodyPost_ret (v:=.tuple #[.map (some w1.heap.size),.nilIface]) (by simp[results,Tryz.results24,go_sem]) rfl ?_;exact⟨K.out.trans (HS.out.low.mono K.out.size),Or.inr ⟨m,A,_,bz.out,rfl,K.out.size,HS.out.map,HS.out.mem⟩⟩
end Go.Proofs.YtjlgejennghhlaaGreatDoor.Pl.Ev
