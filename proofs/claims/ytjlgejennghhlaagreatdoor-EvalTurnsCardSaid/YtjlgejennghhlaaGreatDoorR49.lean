import Derived.Deep.SlicePairs
import Derived.Deep.Strs
import Derived.Lib.SmallJoins
import Derived.Maps.OwnSet
import Derived.Maps.Range
import Derived.Test.YtjlgejennghhlaaGreatDoorR01
import Derived.Test.YtjlgejennghhlaaGreatDoorR47
import Derived.Test.YtjlgejennghhlaaGreatDoorR48
set_option linter.unusedSimpArgs false
set_option linter.unusedVariables false
set_option linter.unusedSectionVars false
set_option maxRecDepth 1000000
set_option maxHeartbeats 16000000
namespace Go.Proofs.YtjlgejennghhlaaGreatDoor.Pl.Ev
open Go.RowKit Go.Maps
open Fw (By FJob Flw ba)
def QbU (f:Flw) (m:TM):TM:=f.outs.map fun o=>(o.name,(QaP m o.from_).getD ([],[]))
def Qr7 (f:Flw) (m:TM) (w:World) (e:Ending) (w':World):Prop:=Below w.heap.size w w'/\∃A b,e=.returned (.map (some b))/\w.heap.size<=b/\MapC w' b A/\QaV w' A (QbU f m)
theorem Qjj (f:Flw) (vi vj vo:Value) (m:TM) (A:AM) (b:Nat) (w:World) (h:Fw.FlowRd w f vi vj vo) (hf:Fw.FlwOK f) (hF:Fine f) (hM:MapC w b A) (hH:QaV w A m) (hk:∀n∈Qaw f,n∈keysT m) (Z:∀x∈m,Qae x.2.1 x.2.2=true):
 Calls Tryz.prog 26 #[.agg #[vi,vj,vo],.map (some b)] w fun e w'=>Qr7 f m w e w':=by
 obtain⟨ia,ic,rfl⟩:=row_slice h.ins;obtain⟨ja,jc,rfl⟩:=row_slice h.jobs;obtain⟨oa,oc,rfl⟩:=row_slice h.outs;obtain⟨O,hO⟩:∃O,f.outs.length=O:=⟨_,rfl⟩;have bH:O<=16:=by rw[<-hO];exact hf.ol
 generalize f.jobs.length=J at*;generalize f.ins.length=I at*;rw[hO] at h⊢;obtain⟨y,aE⟩:∃x,w.alloc (.cells #[.slice ia I ic,.slice ja J jc,.slice oa O oc] 29)=x:=⟨_,rfl⟩;have U:Below w.heap.size w y:=by rw[<-aE];exact Qaa _ _
 have aR:Qcx y w.heap.size (.slice ia I ic) (.slice ja J jc) (.slice oa O oc):=by rw[<-aE];exact Qcx.new _ _ _ _ _
 obtain⟨w2,a8⟩:∃x,y.alloc (.map #[] 0)=x:=⟨_,rfl⟩;have au:TabS y w2 y.heap.size [] []:=by
  rw[<-a8];exact⟨Qaa _ _,MapC.made y,trivial⟩
 have aw:=Hk U;have HH:=Hk (Ai (h.below U) hf);have aS:=Hk hF;have HO:=Hk hO;have bj:=Hk au;have HM:=Hk (Ai (hM.below U) (hH.stay (Stay.of U)));have HK:=Hk (Ai hk Z);have g1:=(aR.below au.low).2.2;clear h hf hO U aR hF au hM hH hk Z;have bJ:∀V:World,(Instr.makeMap 22 none).run Tryz.prog V=.ok (.map (some V.heap.size)) (V.alloc (.map #[] 0)):=fun V=>by kernel_rfl
 go_enter Tryz.func26,Tryz.ntmps26;go_wp2;go_loopw [12] (fun i wr=>∃k:Nat,k<=O/\i=.int .i64 k/\∃A',TabS y wr y.heap.size A' ((QbU f m).take k)) (fun i _=>O-(intOf i).toNat)
 case atStart=>exact⟨0,Nat.zero_le _,rfl,[],bj.out⟩
 case round=>
  obtain⟨k,hk,rfl,A',E⟩:=hrel;have HS:=Hk E
  by_cases hlt:k<O
  ·have ae:k<f.outs.length:=by rw[HO.out];exact hlt
   obtain⟨ob,bK,e0,bF,hb,d0,d1,d2⟩:=Qpo (HH.out.1.below E.low) ae;simp only[Value.slice.injEq] at e0;obtain⟨rfl,-,rfl⟩:=e0;have ab:=HH.out.2.outs _ (List.getElem_mem ae);obtain⟨u,t,aU,aB,aN,aO⟩:=(HM.out.2.stay (Stay.of E.low)).look (HK.out.1 _ (aS.out.outs _ (List.getElem_mem ae)));have aF:=HK.out.2 _ aO;have bz:(QbU f m).length=O:=by simp[QbU,HO.out]
   have aQ:(QbU f m)[k]'(by omega)=(f.outs[k].name,t):=by simp[QbU,aB]
   have aV:f.outs[k].name∉keysA A':=by
    rw[E.mem.keys];have e:f.outs.map (·.name)=(f.outs.take k).map (·.name)++f.outs[k].name::(f.outs.drop (k+1)).map (·.name):=by
     rw[<-List.map_cons (f:=fun(x:Fw.FOut)=>x.name),<-Qdo ae,<-List.map_append,List.take_append_drop]
    have:=Qdn aS.out.told e;rwa[show keysT ((QbU f m).take k)=(f.outs.take k).map (·.name) by simp[keysT,QbU,List.map_take,Function.comp_def]]
   have aH:A'.length<=16:=by rw[E.len,List.length_take];omega
   have aC:Hid ((QbU f m).take (k+1)=(QbU f m).take k++[(f.outs[k].name,t)]):=Hk (by rw[List.take_succ_eq_append_getElem (by omega),aQ]);obtain⟨w3,F⟩:∃x,wr.alloc (.cells #[.int .i64 (f.outs[k].at_:Nat),.string (ba f.outs[k].name),.string (ba f.outs[k].from_)] 60)=x:=⟨_,rfl⟩;have aL:Below wr.heap.size wr w3:=by rw[<-F];exact Qaa _ _
   have aW:Fw.Box w3 wr.heap.size [.int .i64 (f.outs[k].at_:Nat),.string (ba f.outs[k].name),.string (ba f.outs[k].from_)]:=by rw[<-F];exact Fw.Box.new wr _ _ _ rfl
   have ad:Below wr.heap.size wr w3.drew:=aL.drew;have aP:Fw.Box w3.drew wr.heap.size [.int .i64 (f.outs[k].at_:Nat),.string (ba f.outs[k].name),.string (ba f.outs[k].from_)]:=aW.block rfl;have bA:=aN.below ad;obtain⟨vc,vr,rfl,aK,az⟩:=bA;have ah:=Hk ((HM.out.1.below E.low).below ad);have ar:Hid (∀V,MapC V b A->(Instr.lookup 22 (.map (some b)) (.string (ba f.outs[k].from_)) false).run Tryz.prog V=.ok (.agg #[vc,vr]) V):=Hk fun V N=>by
    have:=Qdm N f.outs[k].from_ (by have:=ab.2;omega) false;rw[aU] at this;exact this
   have bo:=Hk (Qlf vc vr t w3.drew aK az.is aF);have bw:=Hk (E.below ad);have D:=Hk aP;have M:=Hk (Ai aV (Ai aH (show f.outs[k].name.length<=1000 by have:=ab.1;omega)));have bb:Hid (b≠y.heap.size):=Hk (by have:=HM.out.1.lt;omega);obtain⟨nm,aG⟩:∃nm,f.outs[k].name=nm:=⟨_,rfl⟩;obtain⟨fr,aT⟩:∃fr,f.outs[k].from_=fr:=⟨_,rfl⟩;rw[aG] at d1 D M aC F;rw[aT] at d2 D ar F;obtain⟨bx,al⟩:∃bx,ba nm=bx:=⟨_,rfl⟩;obtain⟨bf,aJ⟩:∃bf,ba fr=bf:=⟨_,rfl⟩;rw[al] at d1 D F;rw[aJ] at d2 D ar F;have bv:=Hk al;clear E ab aU aB aN aO aF bz aQ aV aH aL aW aP aK az aG aT al aJ ad;generalize f.outs[k].at_=pl at*;go_wp2_with fail;have s1:=D.out.cell 1 (v:=.string bx) rfl;have s2:=D.out.cell 2 (v:=.string bf) rfl;refine wp_region_held_drew (S:=fun V=>V.cell? ⟨wr.heap.size,1,none⟩=some (.string bx)/\V.cell? ⟨wr.heap.size,2,none⟩=some (.string bf)/\MapC V b A) (by kernel_rfl) ⟨s1,s2,ah.out⟩ (fun hH=>?_);clear s1 s2;refine wpAnyH_take (i:=0) (v:=.map (some y.heap.size)) rfl (by kernel_rfl) (by kernel_rfl) (by kernel_rfl) (fun _ _ _ h=>h) (Or.inl ⟨by rfl,?_⟩) (by assumption) ?_
   ·intro V N;go_simp
   simp only[List.getElem_toArray,List.getElem_cons_zero,List.getElem_cons_succ,Act.put,List.setIfInBounds_toArray,List.set_cons_zero,List.set_cons_succ];refine wpAnyH_take (i:=1) (v:=.pointer (some ⟨wr.heap.size,1,none⟩)) rfl (by kernel_rfl) (by kernel_rfl) (by kernel_rfl) (fun _ _ _ h=>h) (Or.inl ⟨by rfl,?_⟩) (by assumption) ?_
   ·intro V N;go_simp
   simp only[List.getElem_toArray,List.getElem_cons_zero,List.getElem_cons_succ,Act.put,List.setIfInBounds_toArray,List.set_cons_zero,List.set_cons_succ];refine wpAnyH_take (i:=2) (v:=.string bx) rfl (by kernel_rfl) (by kernel_rfl) (by kernel_rfl) (fun _ _ _ h=>h) (Or.inl ⟨by rfl,?_⟩) (by assumption) ?_
   ·rintro V ⟨N,-,-⟩;go_simp
   simp only[List.getElem_toArray,List.getElem_cons_zero,List.getElem_cons_succ,Act.put,List.setIfInBounds_toArray,List.set_cons_zero,List.set_cons_succ];refine wpAnyH_take (i:=3) (v:=.map (some b)) rfl (by kernel_rfl) (by kernel_rfl) (by kernel_rfl) (fun _ _ _ h=>h) (Or.inl ⟨by rfl,?_⟩) (by assumption) ?_
   ·intro V N;go_simp
   simp only[List.getElem_toArray,List.getElem_cons_zero,List.getElem_cons_succ,Act.put,List.setIfInBounds_toArray,List.set_cons_zero,List.set_cons_succ];refine wpAnyH_take (i:=4) (v:=.pointer (some ⟨wr.heap.size,2,none⟩)) rfl (by kernel_rfl) (by kernel_rfl) (by kernel_rfl) (fun _ _ _ h=>h) (Or.inl ⟨by rfl,?_⟩) (by assumption) ?_
   ·intro V N;go_simp
   simp only[List.getElem_toArray,List.getElem_cons_zero,List.getElem_cons_succ,Act.put,List.setIfInBounds_toArray,List.set_cons_zero,List.set_cons_succ];refine wpAnyH_take (i:=5) (v:=.string bf) rfl (by kernel_rfl) (by kernel_rfl) (by kernel_rfl) (fun _ _ _ h=>h) (Or.inl ⟨by rfl,?_⟩) (by assumption) ?_
   ·rintro V ⟨-,N,-⟩;go_simp
   simp only[List.getElem_toArray,List.getElem_cons_zero,List.getElem_cons_succ,Act.put,List.setIfInBounds_toArray,List.set_cons_zero,List.set_cons_succ];refine wpAnyH_take (i:=6) (v:=.agg #[vc,vr]) rfl (by kernel_rfl) (by kernel_rfl) (by kernel_rfl) (fun _ _ _ h=>h) (Or.inl ⟨by rfl,?_⟩) (by assumption) ?_
   ·rintro V ⟨-,-,N⟩;have hl:=ar.out V N;go_simp
   simp only[List.getElem_toArray,List.getElem_cons_zero,List.getElem_cons_succ,Act.put,List.setIfInBounds_toArray,List.set_cons_zero,List.set_cons_succ];refine wpAnyH_ready (rs:=[7]) (by kernel_rfl) (by simp) ?_;refine AllReadyH.cons rfl (fun K hK=>?_) AllReadyH.nil;go_simp;refine bo.out.mono ?_;rintro e w4 ⟨av,am,rfl,aA,a6,H⟩;have X4:=D.out.below H;refine hK.out _ _ ⟨X4.cell 1 (v:=.string bx) rfl,X4.cell 2 (v:=.string bf) rfl,ah.out.below H⟩ (fun hH=>?_);clear hK K
   try simp only[List.getElem_toArray,List.getElem_cons_zero,List.getElem_cons_succ,Act.put,List.setIfInBounds_toArray,List.set_cons_zero,List.set_cons_succ]
   obtain⟨us,ho,hh⟩:=a6;have aq:Qgi w4 (.agg #[av,am]) t:=⟨av,am,rfl,aA.is,rowsC_of ho hh⟩;have af:=bw.out.below H;obtain⟨w7,aI,aD,ag,-⟩:=Qen af.map M.out.1 (by have:=M.out.2.1;omega) M.out.2.2 (.agg #[av,am]);have HF:=Hk (TabS.put (n:=nm) (t:=t) af (Nat.le_refl _) aq aD ag);have ap:Stay w4 w7:=Stay.put af.map.obj ag;have aM:MapC w7 b A:=(ah.out.below H).block (ag.block b (ah.out.below H).lt (by intro e;injection e with e;exact bb.out e));rw[bv.out] at aI;refine wpAnyH_ready (rs:=[8]) (by kernel_rfl) (by simp) ?_;refine AllReadyH.cons rfl (fun K hK=>?_) AllReadyH.nil;go_simp;refine hK.out _ _ ⟨ap.cell _ _ (X4.cell 1 (v:=.string bx) rfl),ap.cell _ _ (X4.cell 2 (v:=.string bf) rfl),aM⟩ (fun hH=>?_);clear hK K
   try simp only[List.getElem_toArray,List.getElem_cons_zero,List.getElem_cons_succ,Act.put,List.setIfInBounds_toArray,List.set_cons_zero,List.set_cons_succ]
   refine wpAnyH_done (by kernel_rfl) ?_ _;clear X4 ap aM af aD ag aq aA ho hh H aI;go_wp2;go_roundw
   case rel=>exact⟨k+1,by omega,by go_num,_,by rw[aC.out];exact HF.out⟩
   case measure=>simp[intOf];omega
  ·obtain rfl:k=O:=by omega
   have HF:Hid (TabS y wr y.heap.size A' (QbU f m)):=Hk (by
    have:=E;rwa[List.take_of_length_le (by simp[QbU,HO.out])] at this)
   clear E;go_wp2;refine bodyPost_ret (v:=.map (some y.heap.size)) (by simp[results,Tryz.results26,go_sem]) rfl ?_;exact⟨aw.out.trans (HS.out.low.mono aw.out.size),A',_,rfl,aw.out.size,HF.out.map,HF.out.mem⟩
end Go.Proofs.YtjlgejennghhlaaGreatDoor.Pl.Ev
namespace Go.Proofs.YtjlgejennghhlaaGreatDoor.Pl.Ev
open Go.RowKit Go.Maps
open Fw (By FJob Flw ba)
theorem Qjk {w:World} {F k:Nat} {a b:Int} {v:Value} (h:Fw.Box w F [.int .i64 a,.int .i64 b]) (y:w.cell? ⟨F,k,none⟩=some v):∃n,v=.int .i64 n:=by
 obtain⟨T,h⟩:=h
 match k with
 |0=>simp[World.cell?,h] at y;exact⟨_,y.symm⟩
 |1=>simp[World.cell?,h] at y;exact⟨_,y.symm⟩
 |k+2=>simp[World.cell?,h] at y
theorem QdB {w:World} {F i b o:Nat} {x v:Value} (y:b≠F) (h:w.cell? ⟨b,o,none⟩=some v):(w.setCell ⟨F,i,none⟩ x).cell? ⟨b,o,none⟩=some v:=
 (World.cell?_setCell_other _ _ _ _ (fun e=>y (congrArg Addr.block e).symm)).trans h
theorem Qo0 {w:World} {F i:Nat} {a b:Int} {x u:Value} {t:Tb} (h:Qgi w u t) (O:Fw.Box w F [.int .i64 a,.int .i64 b]):Qgi (w.setCell ⟨F,i,none⟩ x) u t:=by
 have H:(w.setCell ⟨F,i,none⟩ x).heap.size=w.heap.size:=by simp
 obtain⟨vc,vr,e,⟨ca,cc,e1,c2,c3,c4⟩,⟨ra,rc,e2,V⟩⟩:=h;refine⟨vc,vr,e,⟨ca,cc,e1,c2,c3,?_⟩,⟨ra,rc,e2,?_⟩⟩
 ·rcases c4 with c4|⟨b,o,M,J,D⟩
  ·exact Or.inl c4
  ·by_cases h0:t.1=[]
   ·exact Or.inl h0
   ·have y:b≠F:=by
     rintro rfl;obtain⟨n,E⟩:=Qjk O (D 0 (List.length_pos_iff.2 h0)).1
     cases E
    exact Or.inr ⟨b,o,M,by rw[H];exact J,fun j hj=>⟨QdB y (D j hj).1,QdB y (D j hj).2⟩⟩
 ·rcases V with V|⟨b,o,M,J,D⟩
  ·exact Or.inl V
  ·by_cases h0:t.2=[]
   ·exact Or.inl h0
   ·have y:b≠F:=by
     rintro rfl;obtain⟨u,U,a',Z,N,-⟩:=D 0 (List.length_pos_iff.2 h0);obtain⟨n,E⟩:=Qjk O U;rw[N] at E;cases E
    refine Or.inr ⟨b,o,M,by rw[H];exact J,fun j hj=>?_⟩;obtain⟨u,U,a',Z,N,k1,k2,K⟩:=D j hj;refine⟨u,QdB y U,a',Z,N,k1,k2,?_⟩;rcases K with K|⟨b',o',q1,q2,I⟩
    ·exact Or.inl K
    ·by_cases h00:t.2[j]=[]
     ·exact Or.inl h00
     ·have hne':b'≠F:=by
       rintro rfl;obtain⟨n,E⟩:=Qjk O (I 0 (List.length_pos_iff.2 h00)).2.2
       cases E
      exact Or.inr ⟨b',o',q1,by rw[H];exact q2,fun q hq=>⟨QdB hne' (I q hq).1,QdB hne' (I q hq).2.1,QdB hne' (I q hq).2.2⟩⟩
theorem Qf6 {w:World} {F i:Nat} {a b:Int} {x:Value} (y:Fw.Box w F [.int .i64 a,.int .i64 b]):∀{A:AM} {m:TM},QaV w A m->QaV (w.setCell ⟨F,i,none⟩ x) A m
 |[],[],_=>trivial
 |[],_::_,h=>h.elim
 |_::_,[],h=>h.elim
 |_::A,_::m,h=>⟨⟨h.1.1,Qo0 h.1.2 y⟩,Qf6 y h.2⟩
theorem Qkb {w:World} {F i b:Nat} {A:AM} {a c:Int} {x:Value} (y:Fw.Box w F [.int .i64 a,.int .i64 c]) (h:MapC w b A):MapC (w.setCell ⟨F,i,none⟩ x) b A:=by
 have D:b≠F:=by
  rintro rfl;obtain⟨T,y⟩:=y;obtain⟨es,c,E⟩:=h.obj;rw[y] at E;cases E
 exact h.block (Below.heap_setCell _ _ _ _ D)
theorem Qjl (f:Flw) (o:List Nat) (m0:CM) (vi vj vo:Value) (w:World) (h:Fw.FlowRd w f vi vj vo) (hf:Fw.FlwOK f) (ab:GErr w) (Z:QaU f o m0):
 Calls Tryz.prog 22 #[.agg #[vi,vj,vo]] w fun e w'=>∃tv,e=.returned (.tuple #[tv,.nilIface])/\w'.ownsRow w.heap.size 3 1 tv o.length (intCells o)/\Below w.heap.size w w':=by
 obtain⟨ia,ic,rfl⟩:=row_slice h.ins;obtain⟨ja,jc,rfl⟩:=row_slice h.jobs;obtain⟨oa,oc,rfl⟩:=row_slice h.outs;generalize f.ins.length=I at*;generalize f.jobs.length=J at*;generalize f.outs.length=O at*;obtain⟨w1,N⟩:∃x,w.alloc (.cells #[.slice ia I ic,.slice ja J jc,.slice oa O oc] 29)=x:=⟨_,rfl⟩;have y:Below w.heap.size w w1:=by rw[<-N];exact Qaa _ _
 have D:Qcx w1 w.heap.size (.slice ia I ic) (.slice ja J jc) (.slice oa O oc):=by rw[<-N];exact Qcx.new _ _ _ _ _
 have M:=Hk y;have au:=Hk D;have HH:=Hk (Ai (h.below y) hf);have HC:=Hk (Qf5 f _ _ _ w1 (h.below y) hf (cell_below ab y));have K:=Hk Z;have g1:=D.1;have g2:=D.2.1;have g3:=D.2.2;clear h hf ab y D Z;go_enter Tryz.func22,Tryz.ntmps22;go_wp2_with (first|(go_at_call 8;fail));refine HC.out.mono ?_;rintro e2 w2 ⟨F,⟨o2,m2,A,b,ap,rfl,-,-,-,-⟩|⟨E,-⟩⟩
 ·have V:=Hk F;have af:=Hk (Qij f _ _ _ w2 (HH.out.1.below F) HH.out.2);have k0:=au.out.below F;have k1:=k0.1;have k2:=k0.2.1;have k3:=k0.2.2;clear ap F k0;go_wp2_with (first|(go_at_call 20;fail));refine af.out.mono ?_;rintro e3 w3 ⟨aa,⟨E,-⟩|⟨o3,tv,U,rfl,H⟩⟩
  ·rw[K.out.2.1] at E;cases E
  ·obtain rfl:o=o3:=Option.some.inj (K.out.2.1.symm.trans U);have HT:=Hk (Ai H aa);obtain⟨ta,tc,rfl⟩:=own_slice H;clear U aa H;go_wp2;refine bodyPost_ret (v:=.tuple #[.slice ta o.length tc,.nilIface]) (by simp[results,Tryz.results22,go_sem]) rfl ?_;exact⟨_,rfl,own_mono (Nat.le_trans M.out.size V.out.size) HT.out.1,M.out.trans ((bel_then V.out HT.out.2).mono M.out.size)⟩
 ·exact absurd ⟨o,m0,K.out⟩ E
noncomputable def Qhr (f:Flw) (o:List Nat) (G:By->Option Tb):Except (Int×Int) TM:=match Qcr G f.ins [] with
 |.error n=>.error (n,-1)
 |.ok I=>match runN doE doN f o I with
  |.error (n,k)=>.error (n,(k:Int))
  |.ok m=>.ok m
def colsOf (m:TM):CM:=m.map fun x=>(x.1,x.2.1)
theorem Qit (m:TM) (n:By):QbH (colsOf m) n=(QaP m n).map (·.1):=by
 unfold QbH QaP colsOf;rw[List.find?_map]
 cases h:m.find? ((fun x=>x.1==n)∘fun x=>(x.1,x.2.1)) with
 |none=>
  have:m.find? (fun x=>x.1==n)=none:=h;rw[this];rfl
 |some x=>
  have:m.find? (fun x=>x.1==n)=some x:=h;rw[this];rfl
theorem Qeo (m:TM):keysM (colsOf m)=keysT m:=by simp[keysM,keysT,colsOf,Function.comp_def]
theorem Qo1 {m:TM} {j:FJob} (h:∀n∈j.ins,n∈keysT m):inC (colsOf m) j=(inT m j).map (·.1):=by
 unfold inC inT;rw[List.map_map];refine List.map_congr_left fun n hn=>?_
 obtain⟨x,-,-,e⟩:=QbT (h n hn);simp[Qit,e]
theorem Qiu {G:By->Option Tb}:∀{l:List Fw.FIn} {m I:TM},Qcr G l m=.ok I->∃r,I=m++r/\colsOf r=l.map fun i=>(i.name,Qa0 i.cols)
 |[],m,I,h=>by
  unfold Qcr at h;injection h with h;exact⟨[],by simp[h],rfl⟩
 |i::l,m,I,h=>by
  unfold Qcr at h
  cases hg:G i.name with
  |none=>rw[hg] at h;cases h
  |some t=>
   rw[hg] at h;simp only at h;split at h
   ·rename_i D
    obtain⟨r,E,y⟩:=Qiu h;refine⟨(i.name,t)::r,by rw[E];simp,?_⟩;simp only[colsOf,List.map_cons] at y⊢;rw[y,D.1]
   ·cases h
structure RunI (f:Flw) (o:List Nat) (I:TM) (k:Nat) (m:TM):Prop where
 run:runN doE doN f (o.drop k) m=runN doE doN f o I
 right:∀x∈m,Qae x.2.1 x.2.2=true
 cols:runM Qbi Qba (Qbh f (o.take k)) (Qe1 f)=some (colsOf m)
theorem RunI.first {f:Flw} {o:List Nat} {G:By->Option Tb} {I:TM} (h:Qcr G f.ins []=.ok I):RunI f o I 0 I:=by
 obtain⟨r,D,-,E,-⟩:=QeF h;obtain⟨H,y,F⟩:=Qiu h;rw[List.nil_append] at D y;subst D;subst y;exact⟨rfl,fun x hx=>(E x hx).2,by rw[F];rfl⟩
theorem RunI.next {f:Flw} {o:List Nat} {I m:TM} {q:Nat} {m0:CM} (h:RunI f o I q m) (hF:Fine f) (hf:Fw.FlwOK f) (hg:Good f o) (hq:q<o.length) (V:o[q]<f.jobs.length) (hc:colsO Qbi Qba f o=some m0):
 (∀n∈f.jobs[o[q]].ins,n∈keysT m)/\Qbi f.jobs[o[q]] ((inT m f.jobs[o[q]]).map (·.1))=0/\(∀r (hr:r<f.jobs[o[q]].outs.length),f.jobs[o[q]].outs[r]∉keysT m++f.jobs[o[q]].outs.take r)/\m.length+f.jobs[o[q]].outs.length<=16016/\
 (doE f.jobs[o[q]] (inT m f.jobs[o[q]])≠0->runN doE doN f o I=.error (doE f.jobs[o[q]] (inT m f.jobs[o[q]]),o[q]))/\
 (doE f.jobs[o[q]] (inT m f.jobs[o[q]])=0->RunI f o I (q+1) (m++f.jobs[o[q]].outs.map fun n=>(n,doN f.jobs[o[q]] (inT m f.jobs[o[q]]) n))):=by
 have M:=QqO hF hf hg hq V h.cols;have y:∀n∈f.jobs[o[q]].ins,n∈keysT m:=fun n D=>by rw[<-Qeo];exact M.read n D
 have ac:=Qo1 y;have N:Qbi f.jobs[o[q]] (inC (colsOf m) f.jobs[o[q]])=0:=by
  apply Classical.byContradiction;intro H;have:=M.fail H;rw[hc] at this;cases this
 have F:=M.step N;rw[ac] at N F;have ae:=hf.jobs _ (List.getElem_mem V);have af:∀t∈inT m f.jobs[o[q]],Qae t.1 t.2=true:=by
  intro t ht;obtain⟨n,D,rfl⟩:=List.mem_map.1 ht;obtain⟨x,E,-,e⟩:=QbT (y n D);rw[e];exact h.right x E
 have O:runN doE doN f (o.drop q) m=if doE f.jobs[o[q]] (inT m f.jobs[o[q]])=0 then runN doE doN f (o.drop (q+1)) (m++f.jobs[o[q]].outs.map fun n=>(n,doN f.jobs[o[q]] (inT m f.jobs[o[q]]) n)) else .error (doE f.jobs[o[q]] (inT m f.jobs[o[q]]),o[q]):=by
  rw[Qdo hq]
  conv=>lhs;unfold runN
  rw[List.getElem?_eq_getElem V]
 refine⟨y,N,fun r hr=>by rw[<-Qeo];exact M.fresh r hr,by have:=M.len;simpa [colsOf] using this,fun H=>?_,fun H=>?_⟩
 ·rw[<-h.run,O,if_neg H]
 ·obtain⟨U,K⟩:=Qj9 ae (by simp[inT]) af N H;have J:∀n∈f.jobs[o[q]].outs,doN f.jobs[o[q]] (inT m f.jobs[o[q]]) n∈doC f.jobs[o[q]] (inT m f.jobs[o[q]]):=fun n D=>by
   have Z:f.jobs[o[q]].outs.idxOf n<(doC f.jobs[o[q]] (inT m f.jobs[o[q]])).length:=by rw[U];exact List.idxOf_lt_length_iff.2 D
   unfold doN;rw[List.getElem?_eq_getElem Z,Option.getD_some];exact List.getElem_mem _
  refine⟨by rw[<-h.run,O,if_pos H],fun x E=>?_,?_⟩
  ·rcases List.mem_append.1 E with E|E
   ·exact h.right x E
   ·obtain⟨n,D,rfl⟩:=List.mem_map.1 E;exact(K _ (J n D)).1
  ·rw[F]
   congr 1
   unfold colsOf;rw[List.map_append,List.map_map]
   congr 1
   refine List.map_congr_left fun n D=>?_
   show(n,_)=(n,_)
   rw[(K _ (J n D)).2]
end Go.Proofs.YtjlgejennghhlaaGreatDoor.Pl.Ev
namespace Go.Proofs.YtjlgejennghhlaaGreatDoor.Pl.Ev
open Go.RowKit Go.Maps
open Fw (By FJob Flw ba)
theorem QqQ {w w':World} (h:Env w) (y:Below w.heap.size w w'):Env w':=h.below y
def QrA (f:Flw) (o:List Nat) (G:By->Option Tb) (w:World) (e:Ending) (w':World):Prop:=Below w.heap.size w w'/\
 ((∃n k,Qhr f o G=.error (n,k)/\n≠0/\e=.returned (.tuple #[.map none,.agg #[.int .i64 n,.int .i64 k]]))\/
  (∃m A b,Qhr f o G=.ok m/\e=.returned (.tuple #[.map (some b),.agg #[.int .i64 0,.int .i64 (-1)]])/\w.heap.size<=b/\MapC w' b A/\QaV w' A (QbU f m)/\(∀x∈m,Qae x.2.1 x.2.2=true)/\colsO Qbi Qba f o=some (colsOf m)/\(keysT m).Perm (Qaw f)))
theorem Qno (f:Flw) (o:List Nat) (m0:CM) (vi vj vo mv:Value) (G:By->Option (Value×Tb)) (w:World) (h:Fw.FlowRd w f vi vj vo) (hf:Fw.FlwOK f) (aS:GErr w) (aD:QaU f o m0) (bd:Env w) (hG:GivM w mv G) (bg:∀n u t,G n=some (u,t)->t.1.length<=60):
 Calls Tryz.prog 9 #[.agg #[vi,vj,vo],mv] w fun e w'=>QrA f o (fun n=>(G n).map (·.2)) w e w':=by
 obtain⟨ia,ic,rfl⟩:=row_slice h.ins;obtain⟨ja,jc,rfl⟩:=row_slice h.jobs;obtain⟨oa,oc,rfl⟩:=row_slice h.outs;obtain⟨I,hI⟩:∃I,f.ins.length=I:=⟨_,rfl⟩;obtain⟨J,hJ⟩:∃J,f.jobs.length=J:=⟨_,rfl⟩;obtain⟨O,hO⟩:∃O,f.outs.length=O:=⟨_,rfl⟩;have cA:J<=16:=by rw[<-hJ];exact hf.jl
 have aI:=QbA aD.2.1;have bj:o.length=J:=by rw[<-hJ];exact aI.len
 rw[hI,hJ,hO] at h⊢;obtain⟨GT,aK⟩:∃GT:By->Option Tb,(fun n=>(G n).map (·.2))=GT:=⟨_,rfl⟩;obtain⟨y,bf⟩:∃x,w.alloc (.cells #[.slice ia I ic,.slice ja J jc,.slice oa O oc] 29)=x:=⟨_,rfl⟩;have aJ:Below w.heap.size w y:=by rw[<-bf];exact Qaa _ _
 have bs:Qcx y w.heap.size (.slice ia I ic) (.slice ja J jc) (.slice oa O oc):=by rw[<-bf];exact Qcx.new _ _ _ _ _
 obtain⟨U,bb⟩:∃x,y.alloc (.cells #[.int .i64 0,.int .i64 0] 39)=x:=⟨_,rfl⟩;have ay:Below y.heap.size y U:=by rw[<-bb];exact Qaa _ _
 have aU:Fw.Box U y.heap.size [.int .i64 0,.int .i64 0]:=by rw[<-bb];exact Fw.Box.new y _ _ _ rfl
 have ag:=bs.below ay;have F:=bel_then aJ ay;have br:y.heap.size<U.heap.size:=aU.lt;have M:=Hk F;have bD:=Hk ag;have a6:=Hk aU;have HH:=Hk (Ai (h.below F) hf);have bU:Hid (∀V,Below U.heap.size U V->GErr V):=Hk fun V hV=>cell_below (cell_below aS F) hV
 have E:=Hk (Ai aD aI);have cq:=Hk (bd.below F);have HG:=Hk (hG.below F);have bQ:=Hk bg;have HL:Hid (w.heap.size<=y.heap.size/\y.heap.size<U.heap.size):=Hk ⟨aJ.size,br⟩;have HJ:=Hk (Ai hJ bj);have HN:=Hk (Ai hI hO);have g1:=ag.1;have g2:=ag.2.1;have g3:=ag.2.2;have HC:=Hk (Qjl f o m0 _ _ _ U (h.below F) hf (cell_below aS F) aD);have bv:Hid (∀(n:Int) V,Below U.heap.size U V->Calls Tryz.prog 23 #[.iface 37 (.int .i64 n)] V fun ev w'=>ev=.returned (.int .i64 n)/\Below V.heap.size V w'):=Hk fun n V hV=>Dk.tell_any n V (bU.out V hV)
 rw[aK];have bk:=Hk aK;clear h hf aS aD bd hG bg aJ bs ay aU ag F br aI hI hJ hO bj aK;go_enter Tryz.func9,Tryz.ntmps9;go_wp2_with (first|(go_at_call 22;fail));refine HC.out.mono ?_;rintro e3 w3 ⟨tv,rfl,aF,ak⟩;have aE:=Hk ak;have aY:=Hk (Qlj f _ _ _ mv G w3 (HH.out.1.below ak) HH.out.2 E.out.1.1 (HG.out.below ak) bQ.out);have bM:Hid (Qc8 w3 tv o):=Hk (Qc8.of aF);rw[HJ.out.2] at aF;obtain⟨ta,tc,rfl⟩:=own_slice aF;have k0:=bD.out.below ak;have k1:=k0.1;have k2:=k0.2.1;have k3:=k0.2.2;clear aF ak k0;go_wp2_with (first|(go_at_call 24;fail));refine aY.out.mono ?_;rintro e4 w4 ⟨ar,⟨n,K,bn,rfl⟩|⟨It,A0,b,K,rfl,be,bC,bi⟩⟩
 ·have a3:=Hk (bel_then aE.out ar);have H:Hid (Qhr f o GT=.error (n,-1)/\n≠0):=Hk ⟨by
   have h2:=K;rw[bk.out] at h2;unfold Qhr;rw[h2],bn⟩
  clear ar K bn;go_wp2_with (first|(go_at_call 23;refine(bv.out n _ a3.out).mono ?_;rintro e5 w5 ⟨rfl,bz⟩;have bx:=Hk (bel_then a3.out bz);have aa:=a6.out.below bx.out;have f0:=aa.fz 0;have f1:=aa.fz 1;have c0:=aa.cell 0 (v:=.int .i64 0) rfl;have c1:=aa.cell 1 (v:=.int .i64 0) rfl;have cc:=Hk aa;clear bz aa));have X6:=(cc.out.set 0 (.int .i64 n)).set 1 (.int .i64 (-1));have z0:=X6.cell 0 (v:=.int .i64 n) rfl;have z1:=X6.cell 1 (v:=.int .i64 (-1)) rfl;refine bodyPost_ret (v:=.tuple #[.map none,.agg #[.int .i64 n,.int .i64 (-1)]]) (by simp[results,Tryz.results9,go_sem,z0,z1]) rfl ?_;have ch:Below w.heap.size w w5:=M.out.trans (bx.out.mono M.out.size);exact⟨(ch.setCell (p:=⟨y.heap.size,0,none⟩) HL.out.1 _).setCell (p:=⟨y.heap.size,1,none⟩) HL.out.1 _,Or.inl ⟨n,-1,H.out.1,H.out.2,rfl⟩⟩
 ·have aw:Hid (Qcr GT f.ins []=.ok It):=Hk (by rw[<-bk.out];exact K);have a3:=Hk (bel_then aE.out ar);have cn:Hid (w3.heap.size<=b):=Hk be;have bp:Hid (TabS w3 w4 b A0 It):=Hk ⟨ar,bC,bi⟩;have bh:=Hk (RunI.first (o:=o) aw.out);clear ar K be bC bi;go_wp2;go_loopw [35] (fun i wr=>∃q:Nat,q<=J/\i=.int .i64 q/\∃A m,TabS w3 wr b A m/\RunI f o It q m) (fun i _=>J-(intOf i).toNat)
  case atStart=>exact⟨0,Nat.zero_le _,rfl,A0,It,bp.out,bh.out⟩
  case round=>
   clear bp bh;obtain⟨q,hq,rfl,A,m,hS,D⟩:=hrel;have HS:=Hk (Ai hS D);have N:Below U.heap.size U wr:=bel_then aE.out hS.low;have bE:=Hk N;have k0:=bD.out.below N
   by_cases hlt:q<J
   ·have aq:q<o.length:=by rw[HJ.out.2];exact hlt
    have aN:o[q]<f.jobs.length:=by rw[<-E.out.2.mem];exact List.getElem_mem aq
    rcases(bM.out.below hS.low) with ⟨-,e0⟩|⟨ob,oo,cJ,e0,cu,cH,ap⟩
    ·rw[e0] at aq;exact absurd aq (by simp)
    simp only[Value.slice.injEq] at e0;obtain⟨rfl,-,rfl⟩:=e0;have dO:=ap q aq;obtain⟨bu,bI,bw,bo,a2,aC⟩:=D.next E.out.1.1 HH.out.2 E.out.2 aq aN E.out.1.2.2;obtain⟨b',c',e0,cx,cI,ao,ai,ac,az,aL,a8,aT⟩:=Qf2 (HH.out.1.below N) aN;simp only[Value.slice.injEq] at e0;obtain⟨rfl,-,rfl⟩:=e0;have bL:=Qdz aL a8 aT;have a1:=HH.out.2.jobs _ (List.getElem_mem aN);have bm:=Hk (QqP f.jobs[o[q]] ao ai ac m A b w3 wr a1 aL a8 aT hS cn.out bu D.right bI bw bo (QqQ cq.out N));have bq:=Hk (Ai a2 aC);have g2:=k0.2.1;have bW:((o[q]:Nat):Int)<(J:Int):=by have:=HJ.out.1;omega
    obtain⟨JL,aM⟩:∃JL,Fw.jobV f.jobs[o[q]] ao ai ac=JL:=⟨_,rfl⟩;have ca:JL.length=15:=by rw[<-aM];rfl
    rw[aM] at az bm;have bH:=Hk az;have aY:Hid ((Tryz.prog.info? 50).map (·.size)=some JL.length):=Hk (by rw[ca];exact Fw.job_info);obtain⟨jn,ax⟩:∃jn,o[q]=jn:=⟨_,rfl⟩;have b0:=Hk ax;rw[ax] at dO bW bH;clear hS D N k0 ap bu bI bw bo a2 aC az aL a8 aT bL a1 aM ax k1 k2 k3;go_wp2_with (first|(refine wpList_load_mid rfl 50 (.tmp 42) rfl b' (jn*15) rfl JL _ bH.out Tryz.underlying50 rfl aY.out ?_)|(go_at_call 25;fail));refine bm.out.mono ?_;rintro e6 w6 (⟨hE,rfl,am⟩|⟨hE,rfl,A6,bB⟩)
    ·have H:=Hk (bq.out.1 hE);have ah:=Hk (bel_then aE.out am);obtain⟨en,bA⟩:∃en,doE f.jobs[o[q]] (inT m f.jobs[o[q]])=en:=⟨_,rfl⟩;rw[bA] at hE H⊢;have ci:=Hk hE;have aO:QbN en=.iface 37 (.int .i64 en):=by unfold QbN;rw[if_neg hE]
     rw[aO];clear am bA hE aO;go_wp2_with (first|(go_at_call 23;refine(bv.out en _ ah.out).mono ?_;rintro e7 w7 ⟨rfl,bG⟩;have bt:=Hk (bel_then ah.out bG);have ab:=a6.out.below bt.out;have f0:=ab.fz 0;have f1:=ab.fz 1;have c0:=ab.cell 0 (v:=.int .i64 0) rfl;have c1:=ab.cell 1 (v:=.int .i64 0) rfl;have cj:=Hk ab;clear bG ab));have X8:=(cj.out.set 0 (.int .i64 en)).set 1 (.int .i64 (jn:Int));have z0:=X8.cell 0 (v:=.int .i64 en) rfl;have z1:=X8.cell 1 (v:=.int .i64 (jn:Int)) rfl;refine bodyPost_ret (v:=.tuple #[.map none,.agg #[.int .i64 en,.int .i64 (jn:Int)]]) (by simp[results,Tryz.results9,go_sem,z0,z1]) rfl ?_;have co:Below w.heap.size w w7:=M.out.trans (bt.out.mono M.out.size);refine⟨(co.setCell (p:=⟨y.heap.size,0,none⟩) HL.out.1 _).setCell (p:=⟨y.heap.size,1,none⟩) HL.out.1 _,Or.inl ⟨en,(jn:Int),?_,ci.out,rfl⟩⟩;unfold Qhr;rw[aw.out];simp only;rw[H.out,b0.out]
    ·have HF:=Hk (Ai bB (bq.out.2 hE));clear hE bB;go_wp2;go_roundw
     case rel=>exact⟨q+1,by omega,by go_num,A6,_,HF.out.1,HF.out.2⟩
     case measure=>simp[intOf];omega
   ·obtain rfl:q=J:=by omega
    have a0:runN doE doN f o It=.ok m:=by
     have:=D.run;rw[List.drop_of_length_le (by rw[HJ.out.2];exact Nat.le_refl _)] at this;exact this.symm
    have ae:colsO Qbi Qba f o=some (colsOf m):=by
     have:=D.cols;rw[List.take_of_length_le (by rw[HJ.out.2];exact Nat.le_refl _)] at this;exact this
    have ad:(keysT m).Perm (Qaw f):=by rw[<-Qeo];exact(run_sol E.out.1.1.nodup E.out.2 ae).2
    have bP:Hid (Qhr f o GT=.ok m):=Hk (by unfold Qhr;rw[aw.out];simp only;rw[a0]);have aV:=Hk (Ai ae (Ai ad D.right));have bX:=Hk (Qjj f _ _ _ m A b wr (HH.out.1.below N) HH.out.2 E.out.1.1 hS.map hS.mem (fun n hn=>ad.mem_iff.2 hn) D.right);have c1:=k0.1;have c2:=k0.2.1;have c3:=k0.2.2;clear hS D N k0 a0 ae ad k1 k2 k3;go_wp2_with (first|(go_at_call 26;fail));refine bX.out.mono ?_;rintro e6 w6 ⟨am,A6,b6,rfl,a5,bJ,bF⟩;have ah:=Hk (bel_then bE.out am);have Z:=a6.out.below ah.out;have f0:=Z.fz 0;have f1:=Z.fz 1;have d0:=Z.cell 0 (v:=.int .i64 0) rfl;have d1:=Z.cell 1 (v:=.int .i64 0) rfl;have al:=Hk Z;have aZ:=Hk (Ai bJ (Ai bF a5));clear am a5 bJ bF Z;go_wp2;have X8:=(al.out.set 0 (.int .i64 0)).set 1 (.int .i64 (-1));have z0:=X8.cell 0 (v:=.int .i64 0) rfl;have z1:=X8.cell 1 (v:=.int .i64 (-1)) rfl;refine bodyPost_ret (v:=.tuple #[.map (some b6),.agg #[.int .i64 0,.int .i64 (-1)]]) (by simp[results,Tryz.results9,go_sem,z0,z1]) rfl ?_;have cd:Below w.heap.size w w6:=M.out.trans (ah.out.mono M.out.size);refine⟨(cd.setCell (p:=⟨y.heap.size,0,none⟩) HL.out.1 _).setCell (p:=⟨y.heap.size,1,none⟩) HL.out.1 _,Or.inr ⟨m,A6,b6,bP.out,rfl,?_,Qkb (al.out.set 0 (.int .i64 0)) (Qkb al.out aZ.out.1),Qf6 (al.out.set 0 (.int .i64 0)) (Qf6 al.out aZ.out.2.1),aV.out.2.2,aV.out.1,aV.out.2.1⟩⟩;exact Nat.le_trans M.out.size (Nat.le_trans bE.out.size aZ.out.2.2)
end Go.Proofs.YtjlgejennghhlaaGreatDoor.Pl.Ev
namespace Go.Proofs.YtjlgejennghhlaaGreatDoor
open Go.ChangeShapes Go.WideShapes Go.ChangeAt Go.RowKit Go.Joins Go.Deep
theorem Qnq {H:Type} {enc:TypeId×Value->H} {W:World} {n:Nat} {v:Value} {x:DataW H×List MemPlace} (h:DataW.trod enc Tryz.prog W 0 (fun _=>true) true n 84 [v]=some x):∃vs,QnE W v vs:=by
 rcases open_slice Tryz.underlying84 h with ⟨U,-⟩|⟨a,len,O,m,k,D,Pl,U,-,hl,hm,ac,-,hx⟩
 ·exact⟨[],none,0,by simpa using U,Nat.le_refl _,by simp,Or.inl rfl⟩
 ·have hmm':m=O:=by simpa using ac
  have ce:Tryz.prog.cellsOf 46=3:=by kernel_rfl
  have ah:Tryz.prog.cellsOf 9=1:=by kernel_rfl
  have ad:Tryz.prog.cellsOf 3=1:=by kernel_rfl
  rw[ce] at hx;have aa:∀i,i<len->∃q:Int×Int×ByteArray,W.cell? (a.add (i*3))=some (.int .i64 q.1)/\W.cell? (a.add (i*3+1))=some (.int .i64 q.2.1)/\W.cell? (a.add (i*3+2))=some (.string q.2.2)/\q.2.2.size<=maxLen:=by
   intro i hi;obtain⟨af,h1,h2⟩:=hx i (by omega);obtain⟨_,Z,E⟩:=World.cells?_some h1;obtain⟨y0,y1,y2,n2,-,-,M,N,K⟩:=trod_struct3 Tryz.underlying46 h2
   match af,Z,E,M,N,K with
   |[v0,v1,v2],_,E,M,N,K=>
    simp only[ah,ad] at M N K;obtain⟨k0,e0,-,-⟩:=DataW.trod_int Tryz.underlying3 M;obtain⟨k1,e1,-,-⟩:=DataW.trod_int Tryz.underlying3 N;obtain⟨s2,e2,-,w2⟩:=DataW.trod_string Tryz.underlying9 K;simp at e0 e1 e2;subst e0 e1 e2;have J:=E 0 (by omega);have I:=E 1 (by omega);have F:=E 2 (by omega);rw[add_add] at J I F;exact⟨(k0,k1,s2),by simpa using J,by simpa using I,by simpa using F,w2⟩
  obtain⟨q,V⟩:=choose_lt aa;refine⟨(List.range len).map q,some a,O,by simpa using U,by simpa using hl,?_,?_⟩
  ·intro y hy;rw[List.mem_map] at hy;obtain⟨i,hi,rfl⟩:=hy;exact(V i (List.mem_range.1 hi)).2.2.2
  ·by_cases hz:len=0
   ·exact Or.inl (by rw[hz];rfl)
   ·have c0:=(V 0 (by omega)).1;rw[Nat.zero_mul] at c0;obtain⟨b,o,rfl⟩:=QeG c0;refine Or.inr ⟨b,o,rfl,World.block_lt_of_cell? W _ c0,fun j hj=>?_⟩;rw[List.length_map,List.length_range] at hj;obtain⟨J,I,F,-⟩:=V j hj;rw[add_plain] at J I F;simp only[List.getElem_map,List.getElem_range];exact⟨J,by rw[Nat.add_assoc,I],by rw[Nat.add_assoc,F]⟩
theorem Qlk {H:Type} {enc:TypeId×Value->H} {W:World} {n:Nat} {v:Value} {x:DataW H×List MemPlace} (h:DataW.trod enc Tryz.prog W 0 (fun _=>true) true n 52 [v]=some x):∃rs,Qch W v rs:=by
 rcases open_slice1 Tryz.underlying52 (by kernel_rfl) h with ⟨E,-⟩|⟨a,len,y,m,k,V,D,N,E,-,M,K,I,-,F⟩
 ·exact⟨[],none,0,by simpa using E,Or.inl rfl⟩
 ·have hmm':m=y:=by simpa using I
  obtain⟨q,J⟩:=choose_lt (n:=len) (p:=fun i r=>QnE W (V i) r) (fun i hi=>Qnq (F i (by omega)).2);refine⟨(List.range len).map q,some a,y,by simpa using E,?_⟩
  by_cases hz:len=0
  ·exact Or.inl (by rw[hz];rfl)
  ·have c0:=(F 0 (by omega)).1;obtain⟨b,o,rfl⟩:=QeG c0;refine Or.inr ⟨b,o,rfl,World.block_lt_of_cell? W _ c0,fun j hj=>?_⟩;rw[List.length_map,List.length_range] at hj;have d:=(F j (by omega)).1;rw[add_plain] at d;simp only[List.getElem_map,List.getElem_range];exact⟨V j,d,J j hj⟩
end Go.Proofs.YtjlgejennghhlaaGreatDoor
namespace Go.Proofs.YtjlgejennghhlaaGreatDoor.Pl.Ev
open Go.ChangeShapes Go.WideShapes Go.ChangeAt Go.RowKit Go.Joins Go.Deep Go.Maps Go.WideElems
open Fw (By FJob Flw ba)
theorem Qll {H:Type} {enc:TypeId×Value->H} {W:World} {n:Nat} {v:Value} {z:DataW H×List MemPlace} (h:elemAt enc Tryz.prog W 0 (fun _=>true) true n 54 v=some z):∃t:Tb,Qgi W v t:=by
 unfold elemAt at h;split at h
 ·rename_i y
  obtain⟨U,Z,m,rfl,V,E,D⟩:=trod_struct2 Tryz.underlying54 h
  cases v<;>simp[Value.formed,Tryz.underlying54] at y
  rename_i cs
  have J:Tryz.prog.cellsOf 54=2:=by kernel_rfl
  have c0:Tryz.prog.cellsOf 51=1:=by kernel_rfl
  have c1:Tryz.prog.cellsOf 52=1:=by kernel_rfl
  obtain⟨F,M,rfl⟩:=array2 (y.trans J);simp[Value.cells,c0,c1] at E D;obtain⟨I,N⟩:=Qnp E;obtain⟨O,K⟩:=Qlk D;exact⟨(I,O),F,M,rfl,N,K⟩
 ·cases h
theorem Qf7 {y:Value} {E:Lit} (h:keyOf Tryz.prog 9 y=some E):∃x:ByteArray,y=.string x/\x.size<=maxLen/\E=.string x.data.toList:=by
 obtain⟨s,rfl,F⟩:∃s,y=.string s/\True:=by
  have D:=Tryz.underlying9
  cases y<;>simp[keyOf,D,mapKey] at h
  exact⟨_,rfl,trivial⟩
 refine⟨s,rfl,?_⟩;have D:=Tryz.underlying9;simp[keyOf,D,mapKey] at h;exact⟨h.1,h.2.symm⟩
def Qp7 (k:Value):By:=match k with |.string s=>s.data.toList|_=>[]
def Qnr (es:Array MapEntry):AM:=es.toList.map fun x=>(Qp7 x.key,x.val)
theorem QeH {A:AM} {n:By} {v:Value} (h:Qbv A n=some v):(n,v)∈A:=by
 unfold Qbv at h
 cases hf:A.find? fun x=>x.1==n with
 |none=>rw[hf] at h;cases h
 |some x=>
  rw[hf] at h;have D:x.2=v:=Option.some.inj h;have y:x.1=n:=by simpa using List.find?_some hf
  have:=List.mem_of_find?_eq_some hf;rw[<-y,<-D];exact this
theorem Qp8 {w:World} {b:Nat} {es:Array MapEntry} {D:Nat} (hb:w.heap[b]? =some (.map es D)) (F:Fit Tryz.prog 9 (Dk.Rv) es D):MapC w b (Qnr es):=by
 have H:∀x∈es.toList,∃s:ByteArray,x.key=.string s/\rg Tryz.prog 9 Dk.Rv x=(.string (Qp7 x.key),.held x.val):=fun x h=>by
  obtain⟨l,hl⟩:=F.keys x h;obtain⟨s,K,Z,e3⟩:=Qf7 hl;refine⟨s,K,?_⟩;have:rd Tryz.prog 9 Dk.Rv x=some (l,.held x.val):=by
   obtain⟨k,v,bo⟩:=x;exact rd_mk (R:=Dk.Rv) (yv:=(.held v,[])) hl rfl
  rw[rg_of this,e3,K];rfl
 have M:=fit_apart QbP F;have J:(Qnr es).length=es.size:=by simp[Qnr]
 have V:(keysA (Qnr es)).Nodup:=by
  unfold keysA Qnr;rw[List.map_map,List.nodup_iff_pairwise_ne,List.pairwise_map];rw[List.pairwise_map] at M;refine M.imp_of_mem fun{x y} h hy hne e=>?_
  obtain⟨_,_,E⟩:=H x h;obtain⟨_,_,r2⟩:=H y hy;rw[E,r2] at hne;exact hne (congrArg Lit.string e)
 refine⟨⟨_,⟨es,D,hb,F,by rw[J];exact Nat.le_refl _,rfl⟩,⟨⟨_,rfl⟩,fun kl=>?_⟩,?_⟩,V⟩
 ·have U:=fit_rising QbP F;have aa:∀n,kl=.string n->has (DataW.map ((es.toList.map (rg Tryz.prog 9 Dk.Rv)).foldr DataW.insert [])) kl=(Qlx (Qnr es) kl).isSome/\∀z,(DataW.map ((es.toList.map (rg Tryz.prog 9 Dk.Rv)).foldr DataW.insert [])).atKey kl z=(match Qlx (Qnr es) kl with |some v=>.held v|none=>z):=by
   rintro n rfl;have N:=atKey_sorted (es.toList.map (rg Tryz.prog 9 Dk.Rv)) U (.string n) trivial;rw[show Qlx (Qnr es) (.string n)=Qbv (Qnr es) n from rfl]
   cases hlk:Qbv (Qnr es) n with
   |none=>
    have I:=N.1 (fun p O e=>by
     obtain⟨x,h,rfl⟩:=List.mem_map.1 O;obtain⟨_,_,E⟩:=H x h;rw[E] at e;have e:Qp7 x.key=n:=Lit.string.inj e;unfold Qbv at hlk;have hn:=Option.map_eq_none_iff.1 hlk;have:=List.find?_eq_none.1 hn (Qp7 x.key,x.val) (List.mem_map.2 ⟨x,h,rfl⟩);simp[e] at this)
    exact⟨has_false_of_atKey I,I⟩
   |some v=>
    obtain⟨x,h,e⟩:=List.mem_map.1 (QeH hlk);have K:Qp7 x.key=n:=congrArg Prod.fst e;have Z:x.val=v:=congrArg Prod.snd e;obtain⟨_,_,E⟩:=H x h;have I:=N.2 (rg Tryz.prog 9 Dk.Rv x) (List.mem_map.2 ⟨x,h,rfl⟩) (by rw[E,K]);rw[E,Z] at I;exact⟨has_true_of_atKey I,I⟩
  have nf:(∀n,kl≠.string n)->has (DataW.map ((es.toList.map (rg Tryz.prog 9 Dk.Rv)).foldr DataW.insert [])) kl=false:=fun hk=>by
   rw[has_eq,List.any_eq_false];intro p O;obtain⟨x,h,rfl⟩:=List.mem_map.1 (mem_sorted.1 O);obtain⟨_,_,E⟩:=H x h;rw[E]
   cases kl with
   |string n=>exact absurd rfl (hk n)
   |_=>simp[Lit.sameKey]
  cases kl with
  |string n=>exact aa n rfl
  |_=>
   have hf:=nf (fun n=>by simp);exact⟨hf,fun z=>atKey_of_not_has hf z⟩
 ·show((es.toList.map (rg Tryz.prog 9 Dk.Rv)).foldr DataW.insert []).length=_
  rw[length_sorted,J];simp
theorem holds_of {w:World}:∀(l:List MapEntry),(∀x∈l,∃t:Tb,Qgi w x.val t)->∃m,QaV w (l.map fun x=>(Qp7 x.key,x.val)) m
 |[],_=>⟨[],trivial⟩
 |x::l,h=>by
  obtain⟨t,E⟩:=h x (by simp);obtain⟨m,D⟩:=holds_of l (fun y hy=>h y (by simp[hy]));exact⟨(Qp7 x.key,t)::m,⟨rfl,E⟩,D⟩
def Qo2 (w:World) (mv:Value):Prop:=mv=.map none\/∃b A m,mv=.map (some b)/\MapC w b A/\QaV w A m
theorem open_mapT {H:Type} {enc:TypeId×Value->H} {W:World} {n:Nat} {v:Value} {x:DataW H×List MemPlace} (h:DataW.trod enc Tryz.prog W 0 (fun _=>true) true n 22 [v]=some x):Qo2 W v:=by
 rcases open_map Tryz.underlying22 h with ⟨D,-⟩|⟨b,es,E,m,-,D,N,-,F,-⟩
 ·exact Or.inl (by simpa using D)
 ·have D:v=.map (some b):=by simpa using D
  have F':Fit Tryz.prog 9 (Dk.Rv) es E:=⟨F.size,F.stamped,fun x hx=>by
   obtain⟨l,J⟩:=F.keys x hx;obtain⟨k,v,O⟩:=x;exact⟨_,rd_mk (R:=Dk.Rv) (yv:=(.held v,[])) J rfl⟩⟩
  obtain⟨m,I⟩:=holds_of (w:=W) es.toList (fun x hx=>by
   obtain⟨y,K⟩:=F.reads x hx;obtain⟨z,M,-⟩:=rd_val K;exact Qll M)
  exact Or.inr ⟨b,Qnr es,m,D,Qp8 N F',I⟩
end Go.Proofs.YtjlgejennghhlaaGreatDoor.Pl.Ev
