import Derived.Deep.SlicePairs
import Derived.Deep.Strs
import Derived.Lib.SmallJoins
import Derived.Maps.OwnSet
import Derived.Maps.Range
import Derived.Maps.RangeWalk
import Derived.Laws.IdiomRangeMap
import Derived.Test.YtjlgejennghhlaaGreatDoorQ01
import Derived.Test.YtjlgejennghhlaaGreatDoorQ48
import Derived.Test.YtjlgejennghhlaaGreatDoorQ49
import Derived.Test.YtjlgejennghhlaaGreatDoorQ29
import Derived.Test.YtjlgejennghhlaaGreatDoorQ20
set_option linter.unusedSimpArgs false
set_option linter.unusedVariables false
set_option linter.unusedSectionVars false
set_option maxRecDepth 1000000
set_option maxHeartbeats 16000000
namespace Go.Proofs.YtjlgejennghhlaaGreatDoor.Pl.Ev
open Go.RowKit Go.Maps
open Fw (By FJob Flw ba)
def Qb0 (f:Flw) (m:TM):TM:=f.outs.map fun o=>(o.name,(Qbh m o.from_).getD ([],[]))
def QrX (f:Flw) (m:TM) (w:World) (e:Ending) (w':World):Prop:=Below w.heap.size w w'/\∃A b,e=.returned (.map (some b))/\w.heap.size<=b/\MapC w' b A/\QaT w' A (Qb0 f m)
theorem Qi5 (f:Flw) (vi vj vo:Value) (m:TM) (A:AM) (b:Nat) (w:World) (h:Fw.FlowRd w f vi vj vo) (hf:Fw.FlwOK f) (hF:Fine f) (hM:MapC w b A) (hH:QaT w A m) (hk:∀n∈Qaw f,n∈keysT m) (aa:∀x∈m,Qae x.2.1 x.2.2=true):
 Calls Tryz.prog 26 #[.agg #[vi,vj,vo],.map (some b)] w fun e w'=>QrX f m w e w':=by
 obtain⟨ia,ic,rfl⟩:=row_slice h.ins;obtain⟨ja,jc,rfl⟩:=row_slice h.jobs;obtain⟨oa,oc,rfl⟩:=row_slice h.outs;obtain⟨O,hO⟩:∃O,f.outs.length=O:=⟨_,rfl⟩;have bI:O<=16:=by rw[<-hO];exact hf.ol
 generalize f.jobs.length=J at*;generalize f.ins.length=I at*;rw[hO] at h⊢;obtain⟨y,aF⟩:∃x,w.alloc (.cells #[.slice ia I ic,.slice ja J jc,.slice oa O oc] 29)=x:=⟨_,rfl⟩;have Z:Below w.heap.size w y:=by rw[<-aF];exact Qaa _ _
 have aS:Qcc y w.heap.size (.slice ia I ic) (.slice ja J jc) (.slice oa O oc):=by rw[<-aF];exact Qcc.new _ _ _ _ _
 obtain⟨w2,a9⟩:∃x,y.alloc (.map #[] 0)=x:=⟨_,rfl⟩;have av:TabS y w2 y.heap.size [] []:=by
  rw[<-a9];exact⟨Qaa _ _,MapC.made y,trivial⟩
 have ax:=Hk Z;have HH:=Hk (Ai (h.below Z) hf);have aT:=Hk hF;have HO:=Hk hO;have bk:=Hk av;have HM:=Hk (Ai (hM.below Z) (hH.stay (Stay.of Z)));have HK:=Hk (Ai hk aa);have g1:=(aS.below av.low).2.2;clear h hf hO Z aS hF av hM hH hk aa;have bK:∀V:World,(Instr.makeMap 22 none).run Tryz.prog V=.ok (.map (some V.heap.size)) (V.alloc (.map #[] 0)):=fun V=>by kernel_rfl
 go_enter Tryz.func26,Tryz.ntmps26;go_wp2;go_loopw [12] (fun i wr=>∃k:Nat,k<=O/\i=.int .i64 k/\∃A',TabS y wr y.heap.size A' ((Qb0 f m).take k)) (fun i _=>O-(intOf i).toNat)
 case atStart=>exact⟨0,Nat.zero_le _,rfl,[],bk.out⟩
 case round=>
  obtain⟨k,hk,rfl,A',F⟩:=hrel;have HS:=Hk F
  by_cases hlt:k<O
  ·have af:k<f.outs.length:=by rw[HO.out];exact hlt
   obtain⟨ob,bL,e0,bG,hb,d0,d1,d2⟩:=Qqy (HH.out.1.below F.low) af;simp only[Value.slice.injEq] at e0;obtain⟨rfl,-,rfl⟩:=e0;have ac:=HH.out.2.outs _ (List.getElem_mem af);obtain⟨u,t,aV,aC,aO,aP⟩:=(HM.out.2.stay (Stay.of F.low)).look (HK.out.1 _ (aT.out.outs _ (List.getElem_mem af)));have aG:=HK.out.2 _ aP;have bA:(Qb0 f m).length=O:=by simp[Qb0,HO.out]
   have aR:(Qb0 f m)[k]'(by omega)=(f.outs[k].name,t):=by simp[Qb0,aC]
   have aW:f.outs[k].name∉keysA A':=by
    rw[F.mem.keys];have e:f.outs.map (·.name)=(f.outs.take k).map (·.name)++f.outs[k].name::(f.outs.drop (k+1)).map (·.name):=by
     rw[<-List.map_cons (f:=fun(x:Fw.FOut)=>x.name),<-Qei af,<-List.map_append,List.take_append_drop]
    have:=Qeh aT.out.told e;rwa[show keysT ((Qb0 f m).take k)=(f.outs.take k).map (·.name) by simp[keysT,Qb0,List.map_take,Function.comp_def]]
   have aI:A'.length<=16:=by rw[F.len,List.length_take];omega
   have aD:Hid ((Qb0 f m).take (k+1)=(Qb0 f m).take k++[(f.outs[k].name,t)]):=Hk (by rw[List.take_succ_eq_append_getElem (by omega),aR]);obtain⟨w3,H⟩:∃x,wr.alloc (.cells #[.int .i64 (f.outs[k].at_:Nat),.string (ba f.outs[k].name),.string (ba f.outs[k].from_)] 60)=x:=⟨_,rfl⟩;have aM:Below wr.heap.size wr w3:=by rw[<-H];exact Qaa _ _
   have aX:Fw.Box w3 wr.heap.size [.int .i64 (f.outs[k].at_:Nat),.string (ba f.outs[k].name),.string (ba f.outs[k].from_)]:=by rw[<-H];exact Fw.Box.new wr _ _ _ rfl
   have ae:Below wr.heap.size wr w3.drew:=aM.drew;have aQ:Fw.Box w3.drew wr.heap.size [.int .i64 (f.outs[k].at_:Nat),.string (ba f.outs[k].name),.string (ba f.outs[k].from_)]:=aX.block rfl;have bB:=aO.below ae;obtain⟨vc,vr,rfl,aL,aA⟩:=bB;have ai:=Hk ((HM.out.1.below F.low).below ae);have au:Hid (∀V,MapC V b A->(Instr.lookup 22 (.map (some b)) (.string (ba f.outs[k].from_)) false).run Tryz.prog V=.ok (.agg #[vc,vr]) V):=Hk fun V U=>by
    have:=Qeg U f.outs[k].from_ (by have:=ac.2;omega) false;rw[aV] at this;exact this
   have bp:=Hk (Qk1 vc vr t w3.drew aL aA.is aG);have bz:=Hk (F.below ae);have D:=Hk aQ;have N:=Hk (Ai aW (Ai aI (show f.outs[k].name.length<=1000 by have:=ac.1;omega)));have bd:Hid (b≠y.heap.size):=Hk (by have:=HM.out.1.lt;omega);obtain⟨nm,aH⟩:∃nm,f.outs[k].name=nm:=⟨_,rfl⟩;obtain⟨fr,aU⟩:∃fr,f.outs[k].from_=fr:=⟨_,rfl⟩;rw[aH] at d1 D N aD H;rw[aU] at d2 D au H;obtain⟨bx,am⟩:∃bx,ba nm=bx:=⟨_,rfl⟩;obtain⟨bf,aK⟩:∃bf,ba fr=bf:=⟨_,rfl⟩;rw[am] at d1 D H;rw[aK] at d2 D au H;have bw:=Hk am;clear F ac aV aC aO aP aG bA aR aW aI aM aX aQ aL aA aH aU am aK ae;generalize f.outs[k].at_=pl at*;go_wp2_with fail;have s1:=D.out.cell 1 (v:=.string bx) rfl;have s2:=D.out.cell 2 (v:=.string bf) rfl;refine wp_region_held_drew (S:=fun V=>V.cell? ⟨wr.heap.size,1,none⟩=some (.string bx)/\V.cell? ⟨wr.heap.size,2,none⟩=some (.string bf)/\MapC V b A) (by kernel_rfl) ⟨s1,s2,ai.out⟩ (fun hH=>?_);clear s1 s2;refine wpAnyH_take (i:=0) (v:=.map (some y.heap.size)) rfl (by kernel_rfl) (by kernel_rfl) (by kernel_rfl) (fun _ _ _ h=>h) (Or.inl ⟨by rfl,?_⟩) (by assumption) ?_
   ·intro V U;go_simp
   simp only[List.getElem_toArray,List.getElem_cons_zero,List.getElem_cons_succ,Act.put,List.setIfInBounds_toArray,List.set_cons_zero,List.set_cons_succ];refine wpAnyH_take (i:=1) (v:=.pointer (some ⟨wr.heap.size,1,none⟩)) rfl (by kernel_rfl) (by kernel_rfl) (by kernel_rfl) (fun _ _ _ h=>h) (Or.inl ⟨by rfl,?_⟩) (by assumption) ?_
   ·intro V U;go_simp
   simp only[List.getElem_toArray,List.getElem_cons_zero,List.getElem_cons_succ,Act.put,List.setIfInBounds_toArray,List.set_cons_zero,List.set_cons_succ];refine wpAnyH_take (i:=2) (v:=.string bx) rfl (by kernel_rfl) (by kernel_rfl) (by kernel_rfl) (fun _ _ _ h=>h) (Or.inl ⟨by rfl,?_⟩) (by assumption) ?_
   ·rintro V ⟨U,-,-⟩;go_simp
   simp only[List.getElem_toArray,List.getElem_cons_zero,List.getElem_cons_succ,Act.put,List.setIfInBounds_toArray,List.set_cons_zero,List.set_cons_succ];refine wpAnyH_take (i:=3) (v:=.map (some b)) rfl (by kernel_rfl) (by kernel_rfl) (by kernel_rfl) (fun _ _ _ h=>h) (Or.inl ⟨by rfl,?_⟩) (by assumption) ?_
   ·intro V U;go_simp
   simp only[List.getElem_toArray,List.getElem_cons_zero,List.getElem_cons_succ,Act.put,List.setIfInBounds_toArray,List.set_cons_zero,List.set_cons_succ];refine wpAnyH_take (i:=4) (v:=.pointer (some ⟨wr.heap.size,2,none⟩)) rfl (by kernel_rfl) (by kernel_rfl) (by kernel_rfl) (fun _ _ _ h=>h) (Or.inl ⟨by rfl,?_⟩) (by assumption) ?_
   ·intro V U;go_simp
   simp only[List.getElem_toArray,List.getElem_cons_zero,List.getElem_cons_succ,Act.put,List.setIfInBounds_toArray,List.set_cons_zero,List.set_cons_succ];refine wpAnyH_take (i:=5) (v:=.string bf) rfl (by kernel_rfl) (by kernel_rfl) (by kernel_rfl) (fun _ _ _ h=>h) (Or.inl ⟨by rfl,?_⟩) (by assumption) ?_
   ·rintro V ⟨-,U,-⟩;go_simp
   simp only[List.getElem_toArray,List.getElem_cons_zero,List.getElem_cons_succ,Act.put,List.setIfInBounds_toArray,List.set_cons_zero,List.set_cons_succ];refine wpAnyH_take (i:=6) (v:=.agg #[vc,vr]) rfl (by kernel_rfl) (by kernel_rfl) (by kernel_rfl) (fun _ _ _ h=>h) (Or.inl ⟨by rfl,?_⟩) (by assumption) ?_
   ·rintro V ⟨-,-,U⟩;have hl:=au.out V U;go_simp
   simp only[List.getElem_toArray,List.getElem_cons_zero,List.getElem_cons_succ,Act.put,List.setIfInBounds_toArray,List.set_cons_zero,List.set_cons_succ];refine wpAnyH_ready (rs:=[7]) (by kernel_rfl) (by simp) ?_;refine AllReadyH.cons rfl (fun K hK=>?_) AllReadyH.nil;go_simp;refine bp.out.mono ?_;rintro e w4 ⟨aw,ao,rfl,aB,a7,M⟩;have X4:=D.out.below M;refine hK.out _ _ ⟨X4.cell 1 (v:=.string bx) rfl,X4.cell 2 (v:=.string bf) rfl,ai.out.below M⟩ (fun hH=>?_);clear hK K
   try simp only[List.getElem_toArray,List.getElem_cons_zero,List.getElem_cons_succ,Act.put,List.setIfInBounds_toArray,List.set_cons_zero,List.set_cons_succ]
   obtain⟨us,ho,hh⟩:=a7;have ar:QgI w4 (.agg #[aw,ao]) t:=⟨aw,ao,rfl,aB.is,rowsC_of ho hh⟩;have ag:=bz.out.below M;obtain⟨w7,aJ,aE,ah,-⟩:=Qfb ag.map N.out.1 (by have:=N.out.2.1;omega) N.out.2.2 (.agg #[aw,ao]);have HF:=Hk (TabS.put (n:=nm) (t:=t) ag (Nat.le_refl _) ar aE ah);have aq:Stay w4 w7:=Stay.put ag.map.obj ah;have aN:MapC w7 b A:=(ai.out.below M).block (ah.block b (ai.out.below M).lt (by intro e;injection e with e;exact bd.out e));rw[bw.out] at aJ;refine wpAnyH_ready (rs:=[8]) (by kernel_rfl) (by simp) ?_;refine AllReadyH.cons rfl (fun K hK=>?_) AllReadyH.nil;go_simp;refine hK.out _ _ ⟨aq.cell _ _ (X4.cell 1 (v:=.string bx) rfl),aq.cell _ _ (X4.cell 2 (v:=.string bf) rfl),aN⟩ (fun hH=>?_);clear hK K
   try simp only[List.getElem_toArray,List.getElem_cons_zero,List.getElem_cons_succ,Act.put,List.setIfInBounds_toArray,List.set_cons_zero,List.set_cons_succ]
   refine wpAnyH_done (by kernel_rfl) ?_ _;clear X4 aq aN ag aE ah ar aB ho hh M aJ;go_wp2;go_roundw
   case rel=>exact⟨k+1,by omega,by go_num,_,by rw[aD.out];exact HF.out⟩
   case measure=>simp[intOf];omega
  ·obtain rfl:k=O:=by omega
   have HF:Hid (TabS y wr y.heap.size A' (Qb0 f m)):=Hk (by
    have:=F;rwa[List.take_of_length_le (by simp[Qb0,HO.out])] at this)
   clear F;go_wp2;refine bodyPost_ret (v:=.map (some y.heap.size)) (by simp[results,Tryz.results26,go_sem]) rfl ?_;exact⟨ax.out.trans (HS.out.low.mono ax.out.size),A',_,rfl,ax.out.size,HF.out.map,HF.out.mem⟩
end Go.Proofs.YtjlgejennghhlaaGreatDoor.Pl.Ev
namespace Go.Proofs.YtjlgejennghhlaaGreatDoor.Pl.Ev
open Go.RowKit Go.Maps
open Fw (By FJob Flw ba)
theorem Qi6 {w:World} {F k:Nat} {a b:Int} {v:Value} (h:Fw.Box w F [.int .i64 a,.int .i64 b]) (y:w.cell? ⟨F,k,none⟩=some v):∃n,v=.int .i64 n:=by
 obtain⟨T,h⟩:=h
 match k with
 |0=>simp[World.cell?,h] at y;exact⟨_,y.symm⟩
 |1=>simp[World.cell?,h] at y;exact⟨_,y.symm⟩
 |k+2=>simp[World.cell?,h] at y
theorem Qdv {w:World} {F i b o:Nat} {x v:Value} (y:b≠F) (h:w.cell? ⟨b,o,none⟩=some v):(w.setCell ⟨F,i,none⟩ x).cell? ⟨b,o,none⟩=some v:=
 (World.cell?_setCell_other _ _ _ _ (fun e=>y (congrArg Addr.block e).symm)).trans h
theorem QoS {w:World} {F i:Nat} {a b:Int} {x u:Value} {t:Tb} (h:QgI w u t) (U:Fw.Box w F [.int .i64 a,.int .i64 b]):QgI (w.setCell ⟨F,i,none⟩ x) u t:=by
 have I:(w.setCell ⟨F,i,none⟩ x).heap.size=w.heap.size:=by simp
 obtain⟨vc,vr,e,⟨ca,cc,e1,c2,c3,c4⟩,⟨ra,rc,e2,Z⟩⟩:=h;refine⟨vc,vr,e,⟨ca,cc,e1,c2,c3,?_⟩,⟨ra,rc,e2,?_⟩⟩
 ·rcases c4 with c4|⟨b,o,N,K,D⟩
  ·exact Or.inl c4
  ·by_cases h0:t.1=[]
   ·exact Or.inl h0
   ·have y:b≠F:=by
     rintro rfl;obtain⟨n,H⟩:=Qi6 U (D 0 (List.length_pos_iff.2 h0)).1
     cases H
    exact Or.inr ⟨b,o,N,by rw[I];exact K,fun j hj=>⟨Qdv y (D j hj).1,Qdv y (D j hj).2⟩⟩
 ·rcases Z with Z|⟨b,o,N,K,D⟩
  ·exact Or.inl Z
  ·by_cases h0:t.2=[]
   ·exact Or.inl h0
   ·have y:b≠F:=by
     rintro rfl;obtain⟨u,V,a',c',O,-⟩:=D 0 (List.length_pos_iff.2 h0);obtain⟨n,H⟩:=Qi6 U V;rw[O] at H;cases H
    refine Or.inr ⟨b,o,N,by rw[I];exact K,fun j hj=>?_⟩;obtain⟨u,V,a',c',O,k1,k2,M⟩:=D j hj;refine⟨u,Qdv y V,a',c',O,k1,k2,?_⟩;rcases M with M|⟨b',o',q1,q2,J⟩
    ·exact Or.inl M
    ·by_cases h00:t.2[j]=[]
     ·exact Or.inl h00
     ·have hne':b'≠F:=by
       rintro rfl;obtain⟨n,H⟩:=Qi6 U (J 0 (List.length_pos_iff.2 h00)).2.2
       cases H
      exact Or.inr ⟨b',o',q1,by rw[I];exact q2,fun q hq=>⟨Qdv hne' (J q hq).1,Qdv hne' (J q hq).2.1,Qdv hne' (J q hq).2.2⟩⟩
theorem Qf4 {w:World} {F i:Nat} {a b:Int} {x:Value} (y:Fw.Box w F [.int .i64 a,.int .i64 b]):∀{A:AM} {m:TM},QaT w A m->QaT (w.setCell ⟨F,i,none⟩ x) A m
 |[],[],_=>trivial
 |[],_::_,h=>h.elim
 |_::_,[],h=>h.elim
 |_::A,_::m,h=>⟨⟨h.1.1,QoS h.1.2 y⟩,Qf4 y h.2⟩
theorem QjZ {w:World} {F i b:Nat} {A:AM} {a c:Int} {x:Value} (y:Fw.Box w F [.int .i64 a,.int .i64 c]) (h:MapC w b A):MapC (w.setCell ⟨F,i,none⟩ x) b A:=by
 have D:b≠F:=by
  rintro rfl;obtain⟨T,y⟩:=y;obtain⟨es,c,H⟩:=h.obj;rw[y] at H;cases H
 exact h.block (Below.heap_setCell _ _ _ _ D)
theorem Qi7 (f:Flw) (o:List Nat) (m0:CM) (vi vj vo:Value) (w:World) (h:Fw.FlowRd w f vi vj vo) (hf:Fw.FlwOK f) (ac:GErr w) (aa:Qa7 f o m0):
 Calls Tryz.prog 22 #[.agg #[vi,vj,vo]] w fun e w'=>∃tv,e=.returned (.tuple #[tv,.nilIface])/\w'.ownsRow w.heap.size 3 1 tv o.length (intCells o)/\Below w.heap.size w w':=by
 obtain⟨ia,ic,rfl⟩:=row_slice h.ins;obtain⟨ja,jc,rfl⟩:=row_slice h.jobs;obtain⟨oa,oc,rfl⟩:=row_slice h.outs;generalize f.ins.length=I at*;generalize f.jobs.length=J at*;generalize f.outs.length=O at*;obtain⟨w1,U⟩:∃x,w.alloc (.cells #[.slice ia I ic,.slice ja J jc,.slice oa O oc] 29)=x:=⟨_,rfl⟩;have y:Below w.heap.size w w1:=by rw[<-U];exact Qaa _ _
 have D:Qcc w1 w.heap.size (.slice ia I ic) (.slice ja J jc) (.slice oa O oc):=by rw[<-U];exact Qcc.new _ _ _ _ _
 have N:=Hk y;have av:=Hk D;have HH:=Hk (Ai (h.below y) hf);have HC:=Hk (Qij f _ _ _ w1 (h.below y) hf (cell_below ac y));have M:=Hk aa;have g1:=D.1;have g2:=D.2.1;have g3:=D.2.2;clear h hf ac y D aa;go_enter Tryz.func22,Tryz.ntmps22;go_wp2_with (first|(go_at_call 8;fail));refine HC.out.mono ?_;rintro e2 w2 ⟨H,⟨o2,m2,A,b,aq,rfl,-,-,-,-⟩|⟨F,-⟩⟩
 ·have Z:=Hk H;have ag:=Hk (Qic f _ _ _ w2 (HH.out.1.below H) HH.out.2);have k0:=av.out.below H;have k1:=k0.1;have k2:=k0.2.1;have k3:=k0.2.2;clear aq H k0;go_wp2_with (first|(go_at_call 20;fail));refine ag.out.mono ?_;rintro e3 w3 ⟨ab,⟨F,-⟩|⟨o3,tv,V,rfl,K⟩⟩
  ·rw[M.out.2.1] at F;cases F
  ·obtain rfl:o=o3:=Option.some.inj (M.out.2.1.symm.trans V);have HT:=Hk (Ai K ab);obtain⟨ta,tc,rfl⟩:=own_slice K;clear V ab K;go_wp2;refine bodyPost_ret (v:=.tuple #[.slice ta o.length tc,.nilIface]) (by simp[results,Tryz.results22,go_sem]) rfl ?_;exact⟨_,rfl,own_mono (Nat.le_trans N.out.size Z.out.size) HT.out.1,N.out.trans ((bel_then Z.out HT.out.2).mono N.out.size)⟩
 ·exact absurd ⟨o,m0,M.out⟩ F
noncomputable def Qik (f:Flw) (o:List Nat) (G:By->Option Tb):Except (Int×Int) TM:=match QcL G f.ins [] with
 |.error n=>.error (n,-1)
 |.ok I=>match runN doE doN f o I with
  |.error (n,k)=>.error (n,(k:Int))
  |.ok m=>.ok m
def colsOf (m:TM):CM:=m.map fun x=>(x.1,x.2.1)
theorem Qm8 (m:TM) (n:By):QbL (colsOf m) n=(Qbh m n).map (·.1):=by
 unfold QbL Qbh colsOf;rw[List.find?_map]
 cases h:m.find? ((fun x=>x.1==n)∘fun x=>(x.1,x.2.1)) with
 |none=>
  have:m.find? (fun x=>x.1==n)=none:=h;rw[this];rfl
 |some x=>
  have:m.find? (fun x=>x.1==n)=some x:=h;rw[this];rfl
theorem Qf5 (m:TM):keysM (colsOf m)=keysT m:=by simp[keysM,keysT,colsOf,Function.comp_def]
theorem QoT {m:TM} {j:FJob} (h:∀n∈j.ins,n∈keysT m):inC (colsOf m) j=(inT m j).map (·.1):=by
 unfold inC inT;rw[List.map_map];refine List.map_congr_left fun n hn=>?_
 obtain⟨x,-,-,e⟩:=Qdu (h n hn);simp[Qm8,e]
theorem Qil {G:By->Option Tb}:∀{l:List Fw.FIn} {m I:TM},QcL G l m=.ok I->∃r,I=m++r/\colsOf r=l.map fun i=>(i.name,QaY i.cols)
 |[],m,I,h=>by
  unfold QcL at h;injection h with h;exact⟨[],by simp[h],rfl⟩
 |i::l,m,I,h=>by
  unfold QcL at h
  cases hg:G i.name with
  |none=>rw[hg] at h;cases h
  |some t=>
   rw[hg] at h;simp only at h;split at h
   ·rename_i D
    obtain⟨r,F,y⟩:=Qil h;refine⟨(i.name,t)::r,by rw[F];simp,?_⟩;simp only[colsOf,List.map_cons] at y⊢;rw[y,D.1]
   ·cases h
structure RunI (f:Flw) (o:List Nat) (I:TM) (k:Nat) (m:TM):Prop where
 run:runN doE doN f (o.drop k) m=runN doE doN f o I
 right:∀x∈m,Qae x.2.1 x.2.2=true
 cols:runM Qbg Qa9 (QbE f (o.take k)) (QeY f)=some (colsOf m)
theorem RunI.first {f:Flw} {o:List Nat} {G:By->Option Tb} {I:TM} (h:QcL G f.ins []=.ok I):RunI f o I 0 I:=by
 obtain⟨r,D,-,F,-⟩:=Qf3 h;obtain⟨J,y,H⟩:=Qil h;rw[List.nil_append] at D y;subst D;subst y;exact⟨rfl,fun x hx=>(F x hx).2,by rw[H];rfl⟩
theorem RunI.next {f:Flw} {o:List Nat} {I m:TM} {q:Nat} {m0:CM} (h:RunI f o I q m) (hF:Fine f) (hf:Fw.FlwOK f) (hg:Good f o) (hq:q<o.length) (Z:o[q]<f.jobs.length) (hc:colsO Qbg Qa9 f o=some m0):
 (∀n∈f.jobs[o[q]].ins,n∈keysT m)/\Qbg f.jobs[o[q]] ((inT m f.jobs[o[q]]).map (·.1))=0/\(∀r (hr:r<f.jobs[o[q]].outs.length),f.jobs[o[q]].outs[r]∉keysT m++f.jobs[o[q]].outs.take r)/\m.length+f.jobs[o[q]].outs.length<=16016/\
 (doE f.jobs[o[q]] (inT m f.jobs[o[q]])≠0->runN doE doN f o I=.error (doE f.jobs[o[q]] (inT m f.jobs[o[q]]),o[q]))/\
 (doE f.jobs[o[q]] (inT m f.jobs[o[q]])=0->RunI f o I (q+1) (m++f.jobs[o[q]].outs.map fun n=>(n,doN f.jobs[o[q]] (inT m f.jobs[o[q]]) n))):=by
 have N:=QqG hF hf hg hq Z h.cols;have y:∀n∈f.jobs[o[q]].ins,n∈keysT m:=fun n D=>by rw[<-Qf5];exact N.read n D
 have ad:=QoT y;have O:Qbg f.jobs[o[q]] (inC (colsOf m) f.jobs[o[q]])=0:=by
  apply Classical.byContradiction;intro J;have:=N.fail J;rw[hc] at this;cases this
 have H:=N.step O;rw[ad] at O H;have af:=hf.jobs _ (List.getElem_mem Z);have ag:∀t∈inT m f.jobs[o[q]],Qae t.1 t.2=true:=by
  intro t ht;obtain⟨n,D,rfl⟩:=List.mem_map.1 ht;obtain⟨x,F,-,e⟩:=Qdu (y n D);rw[e];exact h.right x F
 have U:runN doE doN f (o.drop q) m=if doE f.jobs[o[q]] (inT m f.jobs[o[q]])=0 then runN doE doN f (o.drop (q+1)) (m++f.jobs[o[q]].outs.map fun n=>(n,doN f.jobs[o[q]] (inT m f.jobs[o[q]]) n)) else .error (doE f.jobs[o[q]] (inT m f.jobs[o[q]]),o[q]):=by
  rw[Qei hq]
  conv=>lhs;unfold runN
  rw[List.getElem?_eq_getElem Z]
 refine⟨y,O,fun r hr=>by rw[<-Qf5];exact N.fresh r hr,by have:=N.len;simpa [colsOf] using this,fun J=>?_,fun J=>?_⟩
 ·rw[<-h.run,U,if_neg J]
 ·obtain⟨V,M⟩:=QjX af (by simp[inT]) ag O J;have K:∀n∈f.jobs[o[q]].outs,doN f.jobs[o[q]] (inT m f.jobs[o[q]]) n∈doC f.jobs[o[q]] (inT m f.jobs[o[q]]):=fun n D=>by
   have aa:f.jobs[o[q]].outs.idxOf n<(doC f.jobs[o[q]] (inT m f.jobs[o[q]])).length:=by rw[V];exact List.idxOf_lt_length_iff.2 D
   unfold doN;rw[List.getElem?_eq_getElem aa,Option.getD_some];exact List.getElem_mem _
  refine⟨by rw[<-h.run,U,if_pos J],fun x F=>?_,?_⟩
  ·rcases List.mem_append.1 F with F|F
   ·exact h.right x F
   ·obtain⟨n,D,rfl⟩:=List.mem_map.1 F;exact(M _ (K n D)).1
  ·rw[H]
   congr 1
   unfold colsOf;rw[List.map_append,List.map_map]
   congr 1
   refine List.map_congr_left fun n D=>?_
   show(n,_)=(n,_)
   rw[(M _ (K n D)).2]
end Go.Proofs.YtjlgejennghhlaaGreatDoor.Pl.Ev
namespace Go.Proofs.YtjlgejennghhlaaGreatDoor.Pl.Ev
open Go.RowKit Go.Maps
open Fw (By FJob Flw ba)
theorem QqJ {w w':World} (h:Env w) (y:Below w.heap.size w w'):Env w':=h.below y
def Qrq (f:Flw) (o:List Nat) (G:By->Option Tb) (w:World) (e:Ending) (w':World):Prop:=Below w.heap.size w w'/\
 ((∃n k,Qik f o G=.error (n,k)/\n≠0/\e=.returned (.tuple #[.map none,.agg #[.int .i64 n,.int .i64 k]]))\/
  (∃m A b,Qik f o G=.ok m/\e=.returned (.tuple #[.map (some b),.agg #[.int .i64 0,.int .i64 (-1)]])/\w.heap.size<=b/\MapC w' b A/\QaT w' A (Qb0 f m)/\(∀x∈m,Qae x.2.1 x.2.2=true)/\colsO Qbg Qa9 f o=some (colsOf m)/\(keysT m).Perm (Qaw f)))
theorem Qm9 (f:Flw) (o:List Nat) (m0:CM) (vi vj vo mv:Value) (G:By->Option (Value×Tb)) (w:World) (h:Fw.FlowRd w f vi vj vo) (hf:Fw.FlwOK f) (aT:GErr w) (aE:Qa7 f o m0) (be:Env w) (hG:GivM w mv G) (bh:∀n u t,G n=some (u,t)->t.1.length<=60):
 Calls Tryz.prog 9 #[.agg #[vi,vj,vo],mv] w fun e w'=>Qrq f o (fun n=>(G n).map (·.2)) w e w':=by
 obtain⟨ia,ic,rfl⟩:=row_slice h.ins;obtain⟨ja,jc,rfl⟩:=row_slice h.jobs;obtain⟨oa,oc,rfl⟩:=row_slice h.outs;obtain⟨I,hI⟩:∃I,f.ins.length=I:=⟨_,rfl⟩;obtain⟨J,hJ⟩:∃J,f.jobs.length=J:=⟨_,rfl⟩;obtain⟨O,hO⟩:∃O,f.outs.length=O:=⟨_,rfl⟩;have cB:J<=16:=by rw[<-hJ];exact hf.jl
 have aJ:=QcH aE.2.1;have bk:o.length=J:=by rw[<-hJ];exact aJ.len
 rw[hI,hJ,hO] at h⊢;obtain⟨GT,aL⟩:∃GT:By->Option Tb,(fun n=>(G n).map (·.2))=GT:=⟨_,rfl⟩;obtain⟨y,bg⟩:∃x,w.alloc (.cells #[.slice ia I ic,.slice ja J jc,.slice oa O oc] 29)=x:=⟨_,rfl⟩;have aK:Below w.heap.size w y:=by rw[<-bg];exact Qaa _ _
 have bt:Qcc y w.heap.size (.slice ia I ic) (.slice ja J jc) (.slice oa O oc):=by rw[<-bg];exact Qcc.new _ _ _ _ _
 obtain⟨Z,bd⟩:∃x,y.alloc (.cells #[.int .i64 0,.int .i64 0] 39)=x:=⟨_,rfl⟩;have az:Below y.heap.size y Z:=by rw[<-bd];exact Qaa _ _
 have aV:Fw.Box Z y.heap.size [.int .i64 0,.int .i64 0]:=by rw[<-bd];exact Fw.Box.new y _ _ _ rfl
 have ah:=bt.below az;have H:=bel_then aK az;have bs:y.heap.size<Z.heap.size:=aV.lt;have N:=Hk H;have bE:=Hk ah;have a7:=Hk aV;have HH:=Hk (Ai (h.below H) hf);have bV:Hid (∀V,Below Z.heap.size Z V->GErr V):=Hk fun V hV=>cell_below (cell_below aT H) hV
 have F:=Hk (Ai aE aJ);have cr:=Hk (be.below H);have HG:=Hk (hG.below H);have bR:=Hk bh;have HL:Hid (w.heap.size<=y.heap.size/\y.heap.size<Z.heap.size):=Hk ⟨aK.size,bs⟩;have HJ:=Hk (Ai hJ bk);have HN:=Hk (Ai hI hO);have g1:=ah.1;have g2:=ah.2.1;have g3:=ah.2.2;have HC:=Hk (Qi7 f o m0 _ _ _ Z (h.below H) hf (cell_below aT H) aE);have bw:Hid (∀(n:Int) V,Below Z.heap.size Z V->Calls Tryz.prog 23 #[.iface 37 (.int .i64 n)] V fun ev w'=>ev=.returned (.int .i64 n)/\Below V.heap.size V w'):=Hk fun n V hV=>Dk.tell_any n V (bV.out V hV)
 rw[aL];have bm:=Hk aL;clear h hf aT aE be hG bh aK bt az aV ah H bs aJ hI hJ hO bk aL;go_enter Tryz.func9,Tryz.ntmps9;go_wp2_with (first|(go_at_call 22;fail));refine HC.out.mono ?_;rintro e3 w3 ⟨tv,rfl,aG,al⟩;have aF:=Hk al;have aZ:=Hk (Qk5 f _ _ _ mv G w3 (HH.out.1.below al) HH.out.2 F.out.1.1 (HG.out.below al) bR.out);have bN:Hid (Qc6 w3 tv o):=Hk (Qc6.of aG);rw[HJ.out.2] at aG;obtain⟨ta,tc,rfl⟩:=own_slice aG;have k0:=bE.out.below al;have k1:=k0.1;have k2:=k0.2.1;have k3:=k0.2.2;clear aG al k0;go_wp2_with (first|(go_at_call 24;fail));refine aZ.out.mono ?_;rintro e4 w4 ⟨au,⟨n,M,bo,rfl⟩|⟨It,A0,b,M,rfl,bf,bD,bj⟩⟩
 ·have a4:=Hk (bel_then aF.out au);have K:Hid (Qik f o GT=.error (n,-1)/\n≠0):=Hk ⟨by
   have h2:=M;rw[bm.out] at h2;unfold Qik;rw[h2],bo⟩
  clear au M bo;go_wp2_with (first|(go_at_call 23;refine(bw.out n _ a4.out).mono ?_;rintro e5 w5 ⟨rfl,bA⟩;have bz:=Hk (bel_then a4.out bA);have ab:=a7.out.below bz.out;have f0:=ab.fz 0;have f1:=ab.fz 1;have c0:=ab.cell 0 (v:=.int .i64 0) rfl;have c1:=ab.cell 1 (v:=.int .i64 0) rfl;have cd:=Hk ab;clear bA ab));have X6:=(cd.out.set 0 (.int .i64 n)).set 1 (.int .i64 (-1));have z0:=X6.cell 0 (v:=.int .i64 n) rfl;have z1:=X6.cell 1 (v:=.int .i64 (-1)) rfl;refine bodyPost_ret (v:=.tuple #[.map none,.agg #[.int .i64 n,.int .i64 (-1)]]) (by simp[results,Tryz.results9,go_sem,z0,z1]) rfl ?_;have ci:Below w.heap.size w w5:=N.out.trans (bz.out.mono N.out.size);exact⟨(ci.setCell (p:=⟨y.heap.size,0,none⟩) HL.out.1 _).setCell (p:=⟨y.heap.size,1,none⟩) HL.out.1 _,Or.inl ⟨n,-1,K.out.1,K.out.2,rfl⟩⟩
 ·have ax:Hid (QcL GT f.ins []=.ok It):=Hk (by rw[<-bm.out];exact M);have a4:=Hk (bel_then aF.out au);have co:Hid (w3.heap.size<=b):=Hk bf;have bq:Hid (TabS w3 w4 b A0 It):=Hk ⟨au,bD,bj⟩;have bi:=Hk (RunI.first (o:=o) ax.out);clear au M bf bD bj;go_wp2;go_loopw [35] (fun i wr=>∃q:Nat,q<=J/\i=.int .i64 q/\∃A m,TabS w3 wr b A m/\RunI f o It q m) (fun i _=>J-(intOf i).toNat)
  case atStart=>exact⟨0,Nat.zero_le _,rfl,A0,It,bq.out,bi.out⟩
  case round=>
   clear bq bi;obtain⟨q,hq,rfl,A,m,hS,D⟩:=hrel;have HS:=Hk (Ai hS D);have U:Below Z.heap.size Z wr:=bel_then aF.out hS.low;have bF:=Hk U;have k0:=bE.out.below U
   by_cases hlt:q<J
   ·have ar:q<o.length:=by rw[HJ.out.2];exact hlt
    have aO:o[q]<f.jobs.length:=by rw[<-F.out.2.mem];exact List.getElem_mem ar
    rcases(bN.out.below hS.low) with ⟨-,e0⟩|⟨ob,oo,cL,e0,cv,cI,aq⟩
    ·rw[e0] at ar;exact absurd ar (by simp)
    simp only[Value.slice.injEq] at e0;obtain⟨rfl,-,rfl⟩:=e0;have dO:=aq q ar;obtain⟨bv,bJ,bx,bp,a3,aD⟩:=D.next F.out.1.1 HH.out.2 F.out.2 ar aO F.out.1.2.2;obtain⟨b',c',e0,cy,cJ,ao,ai,ac,aA,aM,a9,aU⟩:=QeP (HH.out.1.below U) aO;simp only[Value.slice.injEq] at e0;obtain⟨rfl,-,rfl⟩:=e0;have bM:=QcX aM a9 aU;have a2:=HH.out.2.jobs _ (List.getElem_mem aO);have bn:=Hk (QqH f.jobs[o[q]] ao ai ac m A b w3 wr a2 aM a9 aU hS co.out bv D.right bJ bx bp (QqJ cr.out U));have br:=Hk (Ai a3 aD);have g2:=k0.2.1;have bX:((o[q]:Nat):Int)<(J:Int):=by have:=HJ.out.1;omega
    obtain⟨JL,aN⟩:∃JL,Fw.jobV f.jobs[o[q]] ao ai ac=JL:=⟨_,rfl⟩;have cb:JL.length=15:=by rw[<-aN];rfl
    rw[aN] at aA bn;have bI:=Hk aA;have aZ:Hid ((Tryz.prog.info? 50).map (·.size)=some JL.length):=Hk (by rw[cb];exact Fw.job_info);obtain⟨jn,ay⟩:∃jn,o[q]=jn:=⟨_,rfl⟩;have b1:=Hk ay;rw[ay] at dO bX bI;clear hS D U k0 aq bv bJ bx bp a3 aD aA aM a9 aU bM a2 aN ay k1 k2 k3;go_wp2_with (first|(refine wpList_load_mid rfl 50 (.tmp 42) rfl b' (jn*15) rfl JL _ bI.out Tryz.underlying50 rfl aZ.out ?_)|(go_at_call 25;fail));refine bn.out.mono ?_;rintro e6 w6 (⟨hE,rfl,ap⟩|⟨hE,rfl,A6,bC⟩)
    ·have K:=Hk (br.out.1 hE);have aj:=Hk (bel_then aF.out ap);obtain⟨en,bB⟩:∃en,doE f.jobs[o[q]] (inT m f.jobs[o[q]])=en:=⟨_,rfl⟩;rw[bB] at hE K⊢;have cj:=Hk hE;have aP:QbK en=.iface 37 (.int .i64 en):=by unfold QbK;rw[if_neg hE]
     rw[aP];clear ap bB hE aP;go_wp2_with (first|(go_at_call 23;refine(bw.out en _ aj.out).mono ?_;rintro e7 w7 ⟨rfl,bH⟩;have bu:=Hk (bel_then aj.out bH);have ad:=a7.out.below bu.out;have f0:=ad.fz 0;have f1:=ad.fz 1;have c0:=ad.cell 0 (v:=.int .i64 0) rfl;have c1:=ad.cell 1 (v:=.int .i64 0) rfl;have ck:=Hk ad;clear bH ad));have X8:=(ck.out.set 0 (.int .i64 en)).set 1 (.int .i64 (jn:Int));have z0:=X8.cell 0 (v:=.int .i64 en) rfl;have z1:=X8.cell 1 (v:=.int .i64 (jn:Int)) rfl;refine bodyPost_ret (v:=.tuple #[.map none,.agg #[.int .i64 en,.int .i64 (jn:Int)]]) (by simp[results,Tryz.results9,go_sem,z0,z1]) rfl ?_;have cp:Below w.heap.size w w7:=N.out.trans (bu.out.mono N.out.size);refine⟨(cp.setCell (p:=⟨y.heap.size,0,none⟩) HL.out.1 _).setCell (p:=⟨y.heap.size,1,none⟩) HL.out.1 _,Or.inl ⟨en,(jn:Int),?_,cj.out,rfl⟩⟩;unfold Qik;rw[ax.out];simp only;rw[K.out,b1.out]
    ·have HF:=Hk (Ai bC (br.out.2 hE));clear hE bC;go_wp2;go_roundw
     case rel=>exact⟨q+1,by omega,by go_num,A6,_,HF.out.1,HF.out.2⟩
     case measure=>simp[intOf];omega
   ·obtain rfl:q=J:=by omega
    have a1:runN doE doN f o It=.ok m:=by
     have:=D.run;rw[List.drop_of_length_le (by rw[HJ.out.2];exact Nat.le_refl _)] at this;exact this.symm
    have af:colsO Qbg Qa9 f o=some (colsOf m):=by
     have:=D.cols;rw[List.take_of_length_le (by rw[HJ.out.2];exact Nat.le_refl _)] at this;exact this
    have ae:(keysT m).Perm (Qaw f):=by rw[<-Qf5];exact(run_sol F.out.1.1.nodup F.out.2 af).2
    have bQ:Hid (Qik f o GT=.ok m):=Hk (by unfold Qik;rw[ax.out];simp only;rw[a1]);have aW:=Hk (Ai af (Ai ae D.right));have bY:=Hk (Qi5 f _ _ _ m A b wr (HH.out.1.below U) HH.out.2 F.out.1.1 hS.map hS.mem (fun n hn=>ae.mem_iff.2 hn) D.right);have c1:=k0.1;have c2:=k0.2.1;have c3:=k0.2.2;clear hS D U k0 a1 af ae k1 k2 k3;go_wp2_with (first|(go_at_call 26;fail));refine bY.out.mono ?_;rintro e6 w6 ⟨ap,A6,b6,rfl,a6,bK,bG⟩;have aj:=Hk (bel_then bF.out ap);have aa:=a7.out.below aj.out;have f0:=aa.fz 0;have f1:=aa.fz 1;have d0:=aa.cell 0 (v:=.int .i64 0) rfl;have d1:=aa.cell 1 (v:=.int .i64 0) rfl;have am:=Hk aa;have a0:=Hk (Ai bK (Ai bG a6));clear ap a6 bK bG aa;go_wp2;have X8:=(am.out.set 0 (.int .i64 0)).set 1 (.int .i64 (-1));have z0:=X8.cell 0 (v:=.int .i64 0) rfl;have z1:=X8.cell 1 (v:=.int .i64 (-1)) rfl;refine bodyPost_ret (v:=.tuple #[.map (some b6),.agg #[.int .i64 0,.int .i64 (-1)]]) (by simp[results,Tryz.results9,go_sem,z0,z1]) rfl ?_;have ce:Below w.heap.size w w6:=N.out.trans (aj.out.mono N.out.size);refine⟨(ce.setCell (p:=⟨y.heap.size,0,none⟩) HL.out.1 _).setCell (p:=⟨y.heap.size,1,none⟩) HL.out.1 _,Or.inr ⟨m,A6,b6,bQ.out,rfl,?_,QjZ (am.out.set 0 (.int .i64 0)) (QjZ am.out a0.out.1),Qf4 (am.out.set 0 (.int .i64 0)) (Qf4 am.out a0.out.2.1),aW.out.2.2,aW.out.1,aW.out.2.1⟩⟩;exact Nat.le_trans N.out.size (Nat.le_trans bF.out.size a0.out.2.2)
end Go.Proofs.YtjlgejennghhlaaGreatDoor.Pl.Ev
namespace Go.Proofs.YtjlgejennghhlaaGreatDoor
open Go.ChangeShapes Go.WideShapes Go.ChangeAt Go.RowKit Go.Joins Go.Deep
theorem Qnb {H:Type} {enc:TypeId×Value->H} {W:World} {n:Nat} {v:Value} {x:DataW H×List MemPlace} (h:DataW.trod enc Tryz.prog W 0 (fun _=>true) true n 84 [v]=some x):∃vs,Qnw W v vs:=by
 rcases open_slice Tryz.underlying84 h with ⟨V,-⟩|⟨a,len,U,m,k,D,Pl,V,-,hl,hm,ad,-,hx⟩
 ·exact⟨[],none,0,by simpa using V,Nat.le_refl _,by simp,Or.inl rfl⟩
 ·have hmm':m=U:=by simpa using ad
  have ce:Tryz.prog.cellsOf 46=3:=by kernel_rfl
  have ai:Tryz.prog.cellsOf 9=1:=by kernel_rfl
  have ae:Tryz.prog.cellsOf 3=1:=by kernel_rfl
  rw[ce] at hx;have ab:∀i,i<len->∃q:Int×Int×ByteArray,W.cell? (a.add (i*3))=some (.int .i64 q.1)/\W.cell? (a.add (i*3+1))=some (.int .i64 q.2.1)/\W.cell? (a.add (i*3+2))=some (.string q.2.2)/\q.2.2.size<=maxLen:=by
   intro i hi;obtain⟨ag,h1,h2⟩:=hx i (by omega);obtain⟨_,aa,F⟩:=World.cells?_some h1;obtain⟨y0,y1,y2,n2,-,-,N,O,M⟩:=trod_struct3 Tryz.underlying46 h2
   match ag,aa,F,N,O,M with
   |[v0,v1,v2],_,F,N,O,M=>
    simp only[ai,ae] at N O M;obtain⟨k0,e0,-,-⟩:=DataW.trod_int Tryz.underlying3 N;obtain⟨k1,e1,-,-⟩:=DataW.trod_int Tryz.underlying3 O;obtain⟨s2,e2,-,w2⟩:=DataW.trod_string Tryz.underlying9 M;simp at e0 e1 e2;subst e0 e1 e2;have K:=F 0 (by omega);have J:=F 1 (by omega);have I:=F 2 (by omega);rw[add_add] at K J I;exact⟨(k0,k1,s2),by simpa using K,by simpa using J,by simpa using I,w2⟩
  obtain⟨q,Z⟩:=choose_lt ab;refine⟨(List.range len).map q,some a,U,by simpa using V,by simpa using hl,?_,?_⟩
  ·intro y hy;rw[List.mem_map] at hy;obtain⟨i,hi,rfl⟩:=hy;exact(Z i (List.mem_range.1 hi)).2.2.2
  ·by_cases hz:len=0
   ·exact Or.inl (by rw[hz];rfl)
   ·have c0:=(Z 0 (by omega)).1;rw[Nat.zero_mul] at c0;obtain⟨b,o,rfl⟩:=QeD c0;refine Or.inr ⟨b,o,rfl,World.block_lt_of_cell? W _ c0,fun j hj=>?_⟩;rw[List.length_map,List.length_range] at hj;obtain⟨K,J,I,-⟩:=Z j hj;rw[add_plain] at K J I;simp only[List.getElem_map,List.getElem_range];exact⟨K,by rw[Nat.add_assoc,J],by rw[Nat.add_assoc,I]⟩
theorem Qk6 {H:Type} {enc:TypeId×Value->H} {W:World} {n:Nat} {v:Value} {x:DataW H×List MemPlace} (h:DataW.trod enc Tryz.prog W 0 (fun _=>true) true n 52 [v]=some x):∃rs,Qcg W v rs:=by
 rcases open_slice1 Tryz.underlying52 (by kernel_rfl) h with ⟨F,-⟩|⟨a,len,y,m,k,V,D,O,F,-,N,M,J,-,I⟩
 ·exact⟨[],none,0,by simpa using F,Or.inl rfl⟩
 ·have hmm':m=y:=by simpa using J
  obtain⟨q,K⟩:=choose_lt (n:=len) (p:=fun i r=>Qnw W (V i) r) (fun i hi=>Qnb (I i (by omega)).2);refine⟨(List.range len).map q,some a,y,by simpa using F,?_⟩
  by_cases hz:len=0
  ·exact Or.inl (by rw[hz];rfl)
  ·have c0:=(I 0 (by omega)).1;obtain⟨b,o,rfl⟩:=QeD c0;refine Or.inr ⟨b,o,rfl,World.block_lt_of_cell? W _ c0,fun j hj=>?_⟩;rw[List.length_map,List.length_range] at hj;have d:=(I j (by omega)).1;rw[add_plain] at d;simp only[List.getElem_map,List.getElem_range];exact⟨V j,d,K j hj⟩
end Go.Proofs.YtjlgejennghhlaaGreatDoor
namespace Go.Proofs.YtjlgejennghhlaaGreatDoor.Pl.Ev
open Go.ChangeShapes Go.WideShapes Go.ChangeAt Go.RowKit Go.Joins Go.Deep Go.Maps Go.WideElems
open Fw (By FJob Flw ba)
theorem Qk7 {H:Type} {enc:TypeId×Value->H} {W:World} {n:Nat} {v:Value} {z:DataW H×List MemPlace} (h:elemAt enc Tryz.prog W 0 (fun _=>true) true n 54 v=some z):∃t:Tb,QgI W v t:=by
 unfold elemAt at h;split at h
 ·rename_i y
  obtain⟨V,y1,m,rfl,Z,F,D⟩:=trod_struct2 Tryz.underlying54 h
  cases v<;>simp[Value.formed,Tryz.underlying54] at y
  rename_i cs
  have K:Tryz.prog.cellsOf 54=2:=by kernel_rfl
  have c0:Tryz.prog.cellsOf 51=1:=by kernel_rfl
  have c1:Tryz.prog.cellsOf 52=1:=by kernel_rfl
  obtain⟨I,N,rfl⟩:=array2 (y.trans K);simp[Value.cells,c0,c1] at F D;obtain⟨J,O⟩:=Qna F;obtain⟨U,M⟩:=Qk6 D;exact⟨(J,U),I,N,rfl,O,M⟩
 ·cases h
theorem Qf6 {y:Value} {F:Lit} (h:keyOf Tryz.prog 9 y=some F):∃x:ByteArray,y=.string x/\x.size<=maxLen/\F=.string x.data.toList:=by
 obtain⟨s,rfl,H⟩:∃s,y=.string s/\True:=by
  have D:=Tryz.underlying9
  cases y<;>simp[keyOf,D,mapKey] at h
  exact⟨_,rfl,trivial⟩
 refine⟨s,rfl,?_⟩;have D:=Tryz.underlying9;simp[keyOf,D,mapKey] at h;exact⟨h.1,h.2.symm⟩
def Qp2 (k:Value):By:=match k with |.string s=>s.data.toList|_=>[]
def Qnc (es:Array MapEntry):AM:=es.toList.map fun x=>(Qp2 x.key,x.val)
theorem QeE {A:AM} {n:By} {v:Value} (h:Qbt A n=some v):(n,v)∈A:=by
 unfold Qbt at h
 cases hf:A.find? fun x=>x.1==n with
 |none=>rw[hf] at h;cases h
 |some x=>
  rw[hf] at h;have D:x.2=v:=Option.some.inj h;have y:x.1=n:=by simpa using List.find?_some hf
  have:=List.mem_of_find?_eq_some hf;rw[<-y,<-D];exact this
theorem Qp3 {w:World} {b:Nat} {es:Array MapEntry} {D:Nat} (hb:w.heap[b]? =some (.map es D)) (F:Fit Tryz.prog 9 (Dk.Rv) es D):MapC w b (Qnc es):=by
 have I:∀x∈es.toList,∃s:ByteArray,x.key=.string s/\rg Tryz.prog 9 Dk.Rv x=(.string (Qp2 x.key),.held x.val):=fun x h=>by
  obtain⟨l,hl⟩:=F.keys x h;obtain⟨s,M,e2,e3⟩:=Qf6 hl;refine⟨s,M,?_⟩;have:rd Tryz.prog 9 Dk.Rv x=some (l,.held x.val):=by
   obtain⟨k,v,bo⟩:=x;exact rd_mk (R:=Dk.Rv) (yv:=(.held v,[])) hl rfl
  rw[rg_of this,e3,M];rfl
 have N:=fit_apart QbN F;have K:(Qnc es).length=es.size:=by simp[Qnc]
 have Z:(keysA (Qnc es)).Nodup:=by
  unfold keysA Qnc;rw[List.map_map,List.nodup_iff_pairwise_ne,List.pairwise_map];rw[List.pairwise_map] at N;refine N.imp_of_mem fun{x y} h hy hne e=>?_
  obtain⟨_,_,H⟩:=I x h;obtain⟨_,_,r2⟩:=I y hy;rw[H,r2] at hne;exact hne (congrArg Lit.string e)
 refine⟨⟨_,⟨es,D,hb,F,by rw[K];exact Nat.le_refl _,rfl⟩,⟨⟨_,rfl⟩,fun kl=>?_⟩,?_⟩,Z⟩
 ·have V:=fit_rising QbN F;have ab:∀n,kl=.string n->has (DataW.map ((es.toList.map (rg Tryz.prog 9 Dk.Rv)).foldr DataW.insert [])) kl=(Qlk (Qnc es) kl).isSome/\∀z,(DataW.map ((es.toList.map (rg Tryz.prog 9 Dk.Rv)).foldr DataW.insert [])).atKey kl z=(match Qlk (Qnc es) kl with |some v=>.held v|none=>z):=by
   rintro n rfl;have O:=atKey_sorted (es.toList.map (rg Tryz.prog 9 Dk.Rv)) V (.string n) trivial;rw[show Qlk (Qnc es) (.string n)=Qbt (Qnc es) n from rfl]
   cases hlk:Qbt (Qnc es) n with
   |none=>
    have J:=O.1 (fun p U e=>by
     obtain⟨x,h,rfl⟩:=List.mem_map.1 U;obtain⟨_,_,H⟩:=I x h;rw[H] at e;have e:Qp2 x.key=n:=Lit.string.inj e;unfold Qbt at hlk;have hn:=Option.map_eq_none_iff.1 hlk;have:=List.find?_eq_none.1 hn (Qp2 x.key,x.val) (List.mem_map.2 ⟨x,h,rfl⟩);simp[e] at this)
    exact⟨has_false_of_atKey J,J⟩
   |some v=>
    obtain⟨x,h,e⟩:=List.mem_map.1 (QeE hlk);have M:Qp2 x.key=n:=congrArg Prod.fst e;have e2:x.val=v:=congrArg Prod.snd e;obtain⟨_,_,H⟩:=I x h;have J:=O.2 (rg Tryz.prog 9 Dk.Rv x) (List.mem_map.2 ⟨x,h,rfl⟩) (by rw[H,M]);rw[H,e2] at J;exact⟨has_true_of_atKey J,J⟩
  have nf:(∀n,kl≠.string n)->has (DataW.map ((es.toList.map (rg Tryz.prog 9 Dk.Rv)).foldr DataW.insert [])) kl=false:=fun hk=>by
   rw[has_eq,List.any_eq_false];intro p U;obtain⟨x,h,rfl⟩:=List.mem_map.1 (mem_sorted.1 U);obtain⟨_,_,H⟩:=I x h;rw[H]
   cases kl with
   |string n=>exact absurd rfl (hk n)
   |_=>simp[Lit.sameKey]
  cases kl with
  |string n=>exact ab n rfl
  |_=>
   have hf:=nf (fun n=>by simp);exact⟨hf,fun z=>atKey_of_not_has hf z⟩
 ·show((es.toList.map (rg Tryz.prog 9 Dk.Rv)).foldr DataW.insert []).length=_
  rw[length_sorted,K];simp
theorem holds_of {w:World}:∀(l:List MapEntry),(∀x∈l,∃t:Tb,QgI w x.val t)->∃m,QaT w (l.map fun x=>(Qp2 x.key,x.val)) m
 |[],_=>⟨[],trivial⟩
 |x::l,h=>by
  obtain⟨t,F⟩:=h x (by simp);obtain⟨m,D⟩:=holds_of l (fun y hy=>h y (by simp[hy]));exact⟨(Qp2 x.key,t)::m,⟨rfl,F⟩,D⟩
def QoU (w:World) (mv:Value):Prop:=mv=.map none\/∃b A m,mv=.map (some b)/\MapC w b A/\QaT w A m
theorem open_mapT {H:Type} {enc:TypeId×Value->H} {W:World} {n:Nat} {v:Value} {x:DataW H×List MemPlace} (h:DataW.trod enc Tryz.prog W 0 (fun _=>true) true n 22 [v]=some x):QoU W v:=by
 rcases open_map Tryz.underlying22 h with ⟨D,-⟩|⟨b,es,I,m,-,D,O,-,F,-⟩
 ·exact Or.inl (by simpa using D)
 ·have D:v=.map (some b):=by simpa using D
  have F':Fit Tryz.prog 9 (Dk.Rv) es I:=⟨F.size,F.stamped,fun x hx=>by
   obtain⟨l,K⟩:=F.keys x hx;obtain⟨k,v,U⟩:=x;exact⟨_,rd_mk (R:=Dk.Rv) (yv:=(.held v,[])) K rfl⟩⟩
  obtain⟨m,J⟩:=holds_of (w:=W) es.toList (fun x hx=>by
   obtain⟨y,M⟩:=F.reads x hx;obtain⟨z,N,-⟩:=rd_val M;exact Qk7 N)
  exact Or.inr ⟨b,Qnc es,m,D,Qp3 O F',J⟩
end Go.Proofs.YtjlgejennghhlaaGreatDoor.Pl.Ev
namespace Go.Proofs.YtjlgejennghhlaaGreatDoor.Pl.Ev
open Go.RowKit Go.Maps
open Fw (By FJob Flw ba)
def Qpj (m:TM):Prop:=∀x∈m,Qb3 x.2.1 x.2.2=true
theorem Qj1 {D:DataW Value} {A:AM} {n:By} {v:Value} (h:Dk.Sees D (Qlk A)) (y:∀zd,D.atKey (.string n) zd=.held v):Qbt A n=some v:=by
 have H:=(h.2 (.string n)).2
 show Qlk A (.string n)=some v
 cases hm:Qlk A (.string n) with
 |none=>
  have F:=(y (.held (.bool true))).symm.trans (H _);have I:=(y (.held (.bool false))).symm.trans (H _);rw[hm] at F I;have:=F.symm.trans I;simp at this
 |some v'=>
  have F:=(y .nil).symm.trans (H _);rw[hm] at F;exact congrArg some (DataW.held.inj F).symm
theorem Qnd {m:TM} {x:By×Tb} (D:(keysT m).Nodup) (h:x∈m):Qbh m x.1=some x.2:=by
 induction m with
 |nil=>cases h
 |cons y r ih=>
  simp only[keysT,List.map_cons,List.nodup_cons] at D;unfold Qbh;rcases List.mem_cons.1 h with rfl|h
  ·simp
  ·have F:y.1≠x.1:=fun e=>D.1 (by rw[e];exact List.mem_map.2 ⟨x,h,rfl⟩)
   rw[List.find?_cons_of_neg (by simpa using F)];exact ih D.2 h
theorem QoV {x:By} {h:Lit}:(Lit.string x).sameKey h=true↔h=.string x:=by
 cases h with
 |string y=>simp[Lit.sameKey];exact eq_comm
 |_=>simp[Lit.sameKey]
theorem Qne (w:World):Calls Tryz.prog 5 #[.map none] w fun e w'=>e=.returned (.bool true)/\Below w.heap.size w w':=by
 have h:∀ty,(Builtin.len_ #[22] ty #[.map none]).run Tryz.prog w=.ok (.int .i64 0) w:=fun ty=>Maps.len_nil Tryz.underlying22 ty
 have D:=run_range_nilMap (P:=Tryz.prog) w 22 9 54 Tryz.underlying22;have y:∀ty,(Instr.next (.pointer (some ⟨w.heap.size,0,none⟩)) false ty).run Tryz.prog (w.alloc (.mapIter none 0 #[] 0))=_:=fun ty=>run_next_nilMap w ty 0 0 #[]
 go_enter Tryz.func5,Tryz.ntmps5;go_wp2;refine wp_loop_rounds 1 ?_;rw[rounds_succ];go_wp2;go_ret;exact⟨rfl,Qaa _ _⟩
theorem Qnf (b:Nat) (A:AM) (m:TM) (w:World) (hM:MapC w b A) (hH:QaT w A m):Calls Tryz.prog 5 #[.map (some b)] w fun e w'=>∃r,e=.returned (.bool r)/\(r=true->Qpj m)/\Below w.heap.size w w':=by
 have a6:∀ty,(Builtin.len_ #[22] ty #[.map (some b)]).run Tryz.prog w=.ok (.int .i64 (A.length:Nat)) w:=fun ty=>Qfc hM ty
 by_cases h6:6<A.length
 ·have a3:(6:Int)<(A.length:Int):=by omega
  go_enter Tryz.func5,Tryz.ntmps5;go_wp2;go_ret;exact⟨false,rfl,(fun h=>by cases h),Below.refl _ _⟩
 ·have a3:¬(6:Int)<(A.length:Int):=by omega
  obtain⟨D,ar,ak,aL⟩:=hM.is;have am:=Hk (Ai ak hM);have HH:=Hk hH;have aW:Hid (keysT m).Nodup:=Hk (by rw[<-hH.keys];exact hM.nd);clear hM hH h6 ak aL;generalize A.length=N at*;go_enter Tryz.func5,Tryz.ntmps5;go_wp2_with (first|(at_range;refine wpList_range_own _ rfl _ 22 rfl 9 54 QbN Tryz.underlying22 Dk.Rv b N D rfl ar ?_;intro aZ ag J aP));have aK:=Hk ag;have av:=Hk (show Below w.heap.size w aZ from⟨J.os,J.tape,J.output,J.size,fun k hk=>J.block k hk (by simp)⟩);clear ar J aP ag
  try go_frame
  go_loopw [] (fun wr=>∃left aq,wr.ranges Tryz.prog 9 Dk.Rv b w.heap.size N D left aq/\Below w.heap.size w wr/\∀x∈m,left (.string x.1)=false->Qb3 x.2.1 x.2.2=true) (fun wr=>wr.rangeLeft b w.heap.size)
  case atStart=>
   refine⟨_,_,aK.out,av.out,fun x hx h0=>?_⟩;have h1:=(am.out.1.2 (.string x.1)).1;rw[h0] at h1;obtain⟨u,t,hu,-⟩:=HH.out.look (n:=x.1) (List.mem_map.2 ⟨x,hx,rfl⟩);have h1:false=(Qbt A x.1).isSome:=h1;rw[hu] at h1;cases h1
  case round=>
   obtain⟨left,aq,Z,aH,aE⟩:=hrel;have K:=Hk aH;have RG:=Hk Z;have aC:=Hk aE;clear aK av aH aE;go_wp2_with (first|(at_next;refine wpList_next_ranges _ rfl _ rfl 9 QbN Dk.Rv Value.string (fun v:Value=>v) (fun key kl h=>by obtain⟨x,rfl,_⟩:=Qf6 h;exact⟨x,rfl⟩) (fun v y _=>⟨v,rfl⟩) b w.heap.size N D left aq rfl Z ?_ ?_)|go_in)
   ·intro a0 aB;have aO:Hid (Qpj m):=Hk fun x hx=>aC.out x hx (aB _)
    clear a0 aB Z;go_wp2;go_ret;exact⟨true,rfl,fun _=>aO.out,K.out⟩
   ·intro kx v kl ya yb M a5 ab aF hv aw V U I au bf;obtain⟨bg,ek,aD,a4⟩:=Qf6 ab;injection ek with ek;subst ek a4;have hy:ya=.held v:=(congrArg Prod.fst (Option.some.inj hv)).symm;subst hy;have af:=Qj1 am.out.1 aw;have O:Below w.heap.size w M:=⟨I.os.trans K.out.os,I.tape.trans K.out.tape,I.output.trans K.out.output,Nat.le_trans K.out.size I.size,fun k hk=>(I.block k (Nat.lt_of_lt_of_le hk K.out.size) (by intro q;injection q with q;omega)).trans (K.out.block k hk)⟩;have aa:kx.data.toList∈keysT m:=by
     rw[<-HH.out.keys];exact List.mem_map.2 ⟨_,QeE af,rfl⟩
    obtain⟨v',t,al,ay,ax,aJ⟩:=HH.out.look aa;obtain rfl:v=v':=Option.some.inj (af.symm.trans al);have ax:=ax.below O;obtain⟨vc,vr,rfl,aI,aA⟩:=ax;obtain⟨ai,ad⟩:∃x,M.alloc (.cells #[vc,vr] 54)=x:=⟨_,rfl⟩;have F:Below M.heap.size M ai:=by rw[<-ad];exact Qaa _ _
    have ah:=Hk (QlE vc vr t.1 t.2 ai (aI.below F) (aA.is.below F));have d0:ai.cell? ⟨M.heap.size,0,none⟩=some vc:=by rw[<-ad];exact World.cell?_alloc_at _ _ _ _ rfl
    have d1:ai.cell? ⟨M.heap.size,1,none⟩=some vr:=by rw[<-ad];exact World.cell?_alloc_at _ _ _ _ rfl
    have aj:=Hk (bel_then O F);have aN:=Hk (V.kept (row:=none) ⟨F.os,F.tape,F.output,F.size,fun k hk _=>F.block k hk⟩ (by simp) (by simp));have aX:=Hk U;have ap:Hid (Qb3 t.1 t.2=true->∀x∈m,(left (.string x.1)&& !(Lit.string x.1).sameKey (.string kx.data.toList))=false->Qb3 x.2.1 x.2.2=true):=Hk fun hs x hx h0=>by
     cases hq:left (.string x.1) with
     |false=>exact aC.out x hx hq
     |true=>
      rw[hq,Bool.true_and] at h0;have h1:(Lit.string x.1).sameKey (.string kx.data.toList)=true:=by simpa using h0
      have e:kx.data.toList=x.1:=Lit.string.inj (QoV.1 h1);have h2:=Qnd aW.out hx;rw[<-e,ay] at h2;rw[<-Option.some.inj h2];exact hs
    obtain⟨ca,cc,rfl,-⟩:=aI;obtain⟨ra,rc,rfl,-⟩:=aA
    cases hsb:Qb3 t.1 t.2 with
    |true=>
     have aY:=Hk (ap.out hsb);rw[hsb] at ah;clear Z ab aF hv aw V U I au af O F al ay aJ aD aa ap hsb;generalize t.1.length=tn at*;generalize t.2.length=tm at*;go_wp2_with (go_at_call 16;refine ah.out.mono ?_;rintro aV a2 ⟨rfl,H⟩;have ac:=Hk (bel_then aj.out H);have aG:=Hk (aN.out.kept (row:=none) ⟨H.os,H.tape,H.output,H.size,fun k hk _=>H.block k hk⟩ (by simp) (by simp));clear H);go_roundw
     case rel=>exact⟨_,_,aG.out,ac.out,aY.out⟩
     case measure=>rw[aG.out.left_eq,RG.out.left_eq];exact aX.out
    |false=>
     rw[hsb] at ah;clear Z ab aF hv aw V U I au af O F al ay aJ aD aa ap hsb;generalize t.1.length=tn at*;generalize t.2.length=tm at*;go_wp2_with (go_at_call 16;refine ah.out.mono ?_;rintro aV a2 ⟨rfl,H⟩;have ac:=Hk (bel_then aj.out H);clear H);go_ret;exact⟨false,rfl,(fun h=>by cases h),ac.out⟩
end Go.Proofs.YtjlgejennghhlaaGreatDoor.Pl.Ev
