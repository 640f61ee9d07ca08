import Derived.Stop.Asserts
import Derived.Shelf.SlMaps.Equal
import Derived.Deep.RegionLaw
import Derived.Test.YtjlgejennghhlaaGreatDoorQ01
import Derived.Test.YtjlgejennghhlaaGreatDoorQ46
import Derived.Test.YtjlgejennghhlaaGreatDoorQ45
set_option linter.unusedSimpArgs false
set_option linter.unusedVariables false
set_option linter.unusedSectionVars false
set_option maxRecDepth 1000000
set_option maxHeartbeats 16000000
namespace Go.Proofs.YtjlgejennghhlaaGreatDoor.Pl
open Go.RowKit Go.Maps
open Fw (By FJob Flw ba Qck QbH zeroJ)
def Qa7 (f:Flw) (o:List Nat) (m:CM):Prop:=Fine f/\QjQ f=some o/\colsO Qbg Qa9 f o=some m
def QqI (f:Flw) (w:World) (e:Ending) (w':World):Prop:=Below w.heap.size w w'/\
 ((∃o m A b,Qa7 f o m/\e=.returned (.tuple #[.map (some b),.nilIface])/\w.heap.size<=b/\MapC w' b A/\QbJ w' A m/\∀c∈m,QeA c.2)\/
  ((¬∃o m,Qa7 f o m)/\∃ev n,e=.returned (.tuple #[.map none,ev])/\n≠0/\AtV w' ev n/\(Fine f->QjQ f=none->n=11)))
abbrev GErr (w:World):Prop:=w.cell? ⟨0,0,none⟩=some (.iface 208 (.agg #[.pointer (some ⟨13,34,none⟩)]))
theorem Qij (f:Flw) (vi vj vo:Value) (w:World) (h:Fw.FlowRd w f vi vj vo) (hf:Fw.FlwOK f) (ar:GErr w):
 Calls Tryz.prog 8 #[.agg #[vi,vj,vo]] w fun e w'=>QqI f w e w':=by
 obtain⟨ia,ic,rfl⟩:=row_slice h.ins;obtain⟨ja,jc,rfl⟩:=row_slice h.jobs;obtain⟨oa,oc,rfl⟩:=row_slice h.outs;generalize f.ins.length=I at*;generalize f.jobs.length=J at*;generalize f.outs.length=O at*;obtain⟨w1,ao⟩:∃x,w.alloc (.cells #[.slice ia I ic,.slice ja J jc,.slice oa O oc] 29)=x:=⟨_,rfl⟩;have U:Below w.heap.size w w1:=by rw[<-ao];exact Qaa _ _
 have Z:Qcc w1 w.heap.size (.slice ia I ic) (.slice ja J jc) (.slice oa O oc):=by rw[<-ao];exact Qcc.new _ _ _ _ _
 have D:=Hk U;have ap:=Hk Z;have HH:=Hk (Ai (h.below U) (Ai hf (cell_below ar U)));have HW:=Hk (wrong_any f _ _ _ w1 (h.below U) hf);have g1:=Z.1;have g2:=Z.2.1;have g3:=Z.2.2;clear h hf ar U Z;go_enter Tryz.func8,Tryz.ntmps8;go_wp2_with (first|(go_at_call 19;fail));refine HW.out.mono ?_;rintro e2 w2 ⟨M,⟨aa,rfl⟩|⟨y,ev,n,rfl,ab,H,-⟩⟩
 ·have am:=Hk aa;have ad:=Hk M;have ay:=Hk (Qic f _ _ _ w2 (HH.out.1.below M) HH.out.2.1);have k0:=ap.out.below M;have k1:=k0.1;have k2:=k0.2.1;have k3:=k0.2.2;clear aa M k0;go_wp2_with (first|(go_at_call 20;fail));refine ay.out.mono ?_;rintro e3 w3 ⟨af,⟨y,ev,rfl,H⟩|⟨o,tv,ac,rfl,ag⟩⟩
  ·have F:Hid ((¬∃o m,Qa7 f o m)/\QjQ f=none):=Hk ⟨fun⟨o,m,hc⟩=>(by rw[hc.2.1] at y;cases y),y⟩;have HA:=Hk H;have V:=Hk (bel_then ad.out af);obtain⟨p,pl,rfl,-,-⟩:=H;clear y af;go_wp2;refine bodyPost_ret (v:=.tuple #[.map none,.iface 100 (.pointer (some ⟨p,0,none⟩))]) (by simp[results,Tryz.results8,go_sem]) rfl ?_;exact⟨D.out.trans (V.out.mono D.out.size),Or.inr ⟨F.out.1,_,11,rfl,by decide,HA.out,fun _ _=>rfl⟩⟩
  ·have HG:=Hk (Ai (QcH ac) ac);have K:=bel_then ad.out af;have V:=Hk K;have aH:=Hk (Qi4 f o _ _ _ tv w3 (HH.out.1.below K) HH.out.2.1 am.out (QcH ac) (Qc6.of ag) (cell_below HH.out.2.2 K));have k0:=ap.out.below K;have k4:=k0.1;have k5:=k0.2.1;have k6:=k0.2.2;obtain⟨ta,tc,rfl⟩:=own_slice ag;clear ac af K ag k0;go_wp2_with (first|(go_at_call 21;fail));refine aH.out.mono ?_;rintro e4 w4 ⟨ae,⟨y,ev,n,rfl,ab,H⟩|⟨m,A,b,hm,rfl,ak,al,aq,aa⟩⟩
   ·have F:Hid ((¬∃o m,Qa7 f o m)/\n≠0):=Hk ⟨fun⟨o',m,hc⟩=>(by
     obtain rfl:o=o':=Option.some.inj (HG.out.2.symm.trans hc.2.1);rw[hc.2.2] at y;cases y),ab⟩
    have HA:=Hk H;have ai:=Hk (bel_then V.out ae);obtain⟨p,pl,rfl,-,-⟩:=H;clear y ae ab;go_wp2;refine bodyPost_ret (v:=.tuple #[.map none,.iface 100 (.pointer (some ⟨p,0,none⟩))]) (by simp[results,Tryz.results8,go_sem]) rfl ?_;exact⟨D.out.trans (ai.out.mono D.out.size),Or.inr ⟨F.out.1,_,n,rfl,F.out.2,HA.out,fun _ q=>by rw[HG.out.2] at q;cases q⟩⟩
   ·have N:Hid (Qa7 f o m/\w3.heap.size<=b/\MapC w4 b A/\QbJ w4 A m/\∀c∈m,QeA c.2):=Hk ⟨⟨am.out,HG.out.2,hm⟩,ak,al,aq,aa⟩;have ai:=Hk (bel_then V.out ae);clear hm ak al aq aa ae;go_wp2;refine bodyPost_ret (v:=.tuple #[.map (some b),.nilIface]) (by simp[results,Tryz.results8,go_sem]) rfl ?_;exact⟨D.out.trans (ai.out.mono D.out.size),Or.inl ⟨o,m,A,b,N.out.1,rfl,Nat.le_trans (Nat.le_trans D.out.size V.out.size) N.out.2.1,N.out.2.2.1,N.out.2.2.2.1,N.out.2.2.2.2⟩⟩
 ·have F:Hid ((¬∃o m,Qa7 f o m)/\n≠0/\¬Fine f):=Hk ⟨fun⟨o,m,hc⟩=>y hc.1,ab,y⟩;have HA:=Hk H;have ad:=Hk M;obtain⟨p,pl,rfl,-,-⟩:=H;clear y M ab;go_wp2;refine bodyPost_ret (v:=.tuple #[.map none,.iface 100 (.pointer (some ⟨p,0,none⟩))]) (by simp[results,Tryz.results8,go_sem]) rfl ?_;exact⟨D.out.trans (ad.out.mono D.out.size),Or.inr ⟨F.out.1,_,n,rfl,F.out.2.1,HA.out,fun q _=>absurd q F.out.2.2⟩⟩
end Go.Proofs.YtjlgejennghhlaaGreatDoor.Pl
namespace Go.Proofs.YtjlgejennghhlaaGreatDoor.Pl
open Go.RowKit Go.Maps
open Fw (By FJob Flw ba Qck QbH zeroJ)
theorem QeF {w w':World} (h:Fw.FEnv w) (y:Below w.heap.size w w'):Fw.FEnv w':=h.blocks y.size fun g hg=>y.block g (h.size g hg)
theorem Qf7 {w w':World} {B:Nat} {f:Flw} {D y F:Value} (h:Fw.FlowO w B f.ins D f.jobs y f.outs F) (H:Below w.heap.size w w'):Fw.FlowO w' B f.ins D f.jobs y f.outs F:=h.imp (fun e z n v xs ho=>owns_below ho H)
def Qpk (s:By) (w:World) (e:Ending) (w':World):Prop:=Below w.heap.size w w'/\
 ((∃f o m vi vj vo,Fw.parseF s=.ok f/\Qa7 f o m/\e=.returned (.tuple #[.agg #[vi,vj,vo],.bool true])/\Fw.FlowRd w' f vi vj vo/\Fw.FlwOK f)\/
  (∃a1 n1 c1 a2 n2 c2 a3 n3 c3,e=.returned (.tuple #[.agg #[.slice a1 n1 c1,.slice a2 n2 c2,.slice a3 n3 c3],.bool false])))
theorem right_any (s:By) (w:World) (hE:Fw.FEnv w) (aB:GErr w) (hs:(ba s).size<=maxLen):
 Calls Tryz.prog 7 #[.string (ba s)] w fun e w'=>Qpk s w e w':=by
 have aL:(ba s).size=s.length:=rfl;obtain⟨w1,aA⟩:∃x,w.alloc (.cells #[.slice none 0 0,.slice none 0 0,.slice none 0 0] 29)=x:=⟨_,rfl⟩;have ay:Below w.heap.size w w1:=by rw[<-aA];exact Qaa _ _
 have Z:Fw.Box w1 w.heap.size [.slice none 0 0,.slice none 0 0,.slice none 0 0]:=by rw[<-aA];exact Fw.Box.new w _ _ _ rfl
 have aF:w1.heap.size=w.heap.size+1:=by rw[<-aA];simp
 have ac:=Hk ay;have af:=Hk Z;have az:=Hk aF;have HE:=Hk (Ai hE aB);have bm:=Z.cell 0 (v:=.slice none 0 0) rfl;have br:=Z.cell 1 (v:=.slice none 0 0) rfl;have bi:=Z.cell 2 (v:=.slice none 0 0) rfl;have bj:=Z.fz 0;have bs:=Z.fz 1;have bp:=Z.fz 2;unfold maxLen at hs
 by_cases hl:1000<s.length
 ·have hb:(1000:Int)<((ba s).size:Int):=by rw[aL];omega
  clear hE aB ay Z aF;generalize ba s=x at*;go_enter Tryz.func7,Tryz.ntmps7;go_wp2;have V:=((af.out.set 0 (.slice none 0 0)).set 1 (.slice none 0 0)).set 2 (.slice none 0 0);have z0:=V.cell 0 (v:=.slice none 0 0) rfl;have z1:=V.cell 1 (v:=.slice none 0 0) rfl;have z2:=V.cell 2 (v:=.slice none 0 0) rfl;have B2:Below w.heap.size w (((w1.setCell ⟨w.heap.size,0,none⟩ (.slice none 0 0)).setCell ⟨w.heap.size,1,none⟩ (.slice none 0 0)).setCell ⟨w.heap.size,2,none⟩ (.slice none 0 0)):=((ac.out.setCell (p:=⟨w.heap.size,0,none⟩) (Nat.le_refl _) _).setCell (p:=⟨w.heap.size,1,none⟩) (Nat.le_refl _) _).setCell (p:=⟨w.heap.size,2,none⟩) (Nat.le_refl _) _;refine bodyPost_ret (v:=.tuple #[.agg #[.slice none 0 0,.slice none 0 0,.slice none 0 0],.bool false]) (by simp[results,Tryz.results7,go_sem,z0,z1,z2]) rfl ?_;exact⟨B2,Or.inr ⟨_,_,_,_,_,_,_,_,_,rfl⟩⟩
 ·have hb:¬(1000:Int)<((ba s).size:Int):=by rw[aL];omega
  have HP:=Hk (Fw.parse_any s w1 (by omega) (QeF hE ay));clear hE aB ay Z aF;generalize aV:ba s=x at*;clear aV;go_enter Tryz.func7,Tryz.ntmps7;go_wp2_with (first|(go_at_call 17;fail));refine HP.out.mono ?_;rintro e2 O ⟨⟨f,vi,vj,vo,ak,rfl,am⟩|⟨er,b,ak,rfl,-⟩,ad⟩
  ·have aU:=Hk am;have aY:=Hk ak;obtain⟨K,J,rfl⟩:=row_slice (Fw.FlowRd.of am).ins;obtain⟨I,H,rfl⟩:=row_slice (Fw.FlowRd.of am).jobs;obtain⟨N,F,rfl⟩:=row_slice (Fw.FlowRd.of am).outs;have aw:=Fw.parse_ok (by omega) ak;obtain⟨w3,ao⟩:∃x,O.alloc (.cells #[.slice K f.ins.length J,.slice I f.jobs.length H,.slice N f.outs.length F] 29)=x:=⟨_,rfl⟩;have U:Below O.heap.size O w3:=by rw[<-ao];exact Qaa _ _
   have ap:Qcc w3 O.heap.size (.slice K f.ins.length J) (.slice I f.jobs.length H) (.slice N f.outs.length F):=by rw[<-ao];exact Qcc.new _ _ _ _ _
   have ax:Below w1.heap.size w1 w3:=bel_then ad U;have aC:=Hk (Qf7 aU.out U);have aS:=Hk (Qij f _ _ _ w3 (Fw.FlowRd.of aC.out) aw (cell_below (cell_below HE.out.2 ac.out) ax));have ag:=Hk ax;have aO:=Hk ap;have g1:=ap.1;have g2:=ap.2.1;have g3:=ap.2.2;have aP:=Hk aw;generalize bq:f.ins.length=ni at*;generalize bt:f.jobs.length=nj at*;generalize aN:f.outs.length=no at*;clear am ak ad U ap ax aw;go_wp2_with (first|(go_at_call 8;fail));refine aS.out.mono ?_;rintro e4 M ⟨ab,⟨o,m,A,b,aM,rfl,-,-,-,-⟩|⟨aN,ev,n,rfl,bo,a0,-⟩⟩
   ·have aW:=Hk aM;have aa:=(aO.out.below ab).below ((Below.refl _ M).drew);have q1:=aa.1;have q2:=aa.2.1;have q3:=aa.2.2;have y:Fw.Box M.drew w.heap.size [.slice none 0 0,.slice none 0 0,.slice none 0 0]:=((af.out.below ag.out).below ab).block rfl;have c0:=y.cell 0 (v:=.slice none 0 0) rfl;have c1:=y.cell 1 (v:=.slice none 0 0) rfl;have c2:=y.cell 2 (v:=.slice none 0 0) rfl;have f0:=y.fz 0;have f1:=y.fz 1;have f2:=y.fz 2;have D:Fw.Box M w.heap.size [.slice none 0 0,.slice none 0 0,.slice none 0 0]:=y.block rfl;have d0:=D.cell 0 (v:=.slice none 0 0) rfl;have d1:=D.cell 1 (v:=.slice none 0 0) rfl;have d2:=D.cell 2 (v:=.slice none 0 0) rfl;have e0:=D.fz 0;have e1:=D.fz 1;have e2:=D.fz 2;have aq:=Hk y;have ar:Hid (Below w.heap.size w M.drew):=Hk (ac.out.trans ((bel_then ag.out ab).drew.mono ac.out.size));have aQ:=Hk ((Qf7 aC.out ab).imp (w':=M.drew) (fun e z n v xs ho=>owns_below ho ((Below.refl _ M).drew)));clear aM ab aa y;go_wp2_with fail;go_region_law (fail)
    all_goals go_wp2
    all_goals
     have V:=((aq.out.set 0 (.slice K ni J)).set 1 (.slice I nj H)).set 2 (.slice N no F);have z0:=V.cell 0 (v:=.slice K ni J) rfl;have z1:=V.cell 1 (v:=.slice I nj H) rfl;have z2:=V.cell 2 (v:=.slice N no F) rfl;have y0:(((M.setCell ⟨w.heap.size,0,none⟩ (.slice K ni J)).setCell ⟨w.heap.size,1,none⟩ (.slice I nj H)).setCell ⟨w.heap.size,2,none⟩ (.slice N no F)).drew.cell? ⟨w.heap.size,0,none⟩=some (.slice K ni J):=z0;have y1:(((M.setCell ⟨w.heap.size,0,none⟩ (.slice K ni J)).setCell ⟨w.heap.size,1,none⟩ (.slice I nj H)).setCell ⟨w.heap.size,2,none⟩ (.slice N no F)).drew.cell? ⟨w.heap.size,1,none⟩=some (.slice I nj H):=z1;have y2:(((M.setCell ⟨w.heap.size,0,none⟩ (.slice K ni J)).setCell ⟨w.heap.size,1,none⟩ (.slice I nj H)).setCell ⟨w.heap.size,2,none⟩ (.slice N no F)).drew.cell? ⟨w.heap.size,2,none⟩=some (.slice N no F):=z2;have aR:=((aQ.out.imp (fun e z n v xs h=>ownsRow_setCell_below h (a:=⟨w.heap.size,0,none⟩) (by show w.heap.size<_;have:=az.out;omega) (.slice K ni J))).imp (fun e z n v xs h=>ownsRow_setCell_below h (a:=⟨w.heap.size,1,none⟩) (by show w.heap.size<_;have:=az.out;omega) (.slice I nj H))).imp (fun e z n v xs h=>ownsRow_setCell_below h (a:=⟨w.heap.size,2,none⟩) (by show w.heap.size<_;have:=az.out;omega) (.slice N no F));have B2:=((ar.out.setCell (p:=⟨w.heap.size,0,none⟩) (Nat.le_refl _) (.slice K ni J)).setCell (p:=⟨w.heap.size,1,none⟩) (Nat.le_refl _) (.slice I nj H)).setCell (p:=⟨w.heap.size,2,none⟩) (Nat.le_refl _) (.slice N no F);refine bodyPost_ret (v:=.tuple #[.agg #[.slice K ni J,.slice I nj H,.slice N no F],.bool true]) (by simp[results,Tryz.results7,go_sem,z0,z1,z2,y0,y1,y2]) rfl ?_;exact⟨B2,Or.inl ⟨f,o,m,_,_,_,aY.out,aW.out,rfl,Fw.FlowRd.of aR,aP.out⟩⟩
   ·have aa:=(aO.out.below ab).below ((Below.refl _ M).drew);have q1:=aa.1;have q2:=aa.2.1;have q3:=aa.2.2;have y:Fw.Box M.drew w.heap.size [.slice none 0 0,.slice none 0 0,.slice none 0 0]:=((af.out.below ag.out).below ab).block rfl;have c0:=y.cell 0 (v:=.slice none 0 0) rfl;have c1:=y.cell 1 (v:=.slice none 0 0) rfl;have c2:=y.cell 2 (v:=.slice none 0 0) rfl;have f0:=y.fz 0;have f1:=y.fz 1;have f2:=y.fz 2;have D:Fw.Box M w.heap.size [.slice none 0 0,.slice none 0 0,.slice none 0 0]:=y.block rfl;have d0:=D.cell 0 (v:=.slice none 0 0) rfl;have d1:=D.cell 1 (v:=.slice none 0 0) rfl;have d2:=D.cell 2 (v:=.slice none 0 0) rfl;have e0:=D.fz 0;have e1:=D.fz 1;have e2:=D.fz 2;have aq:=Hk y;have ar:Hid (Below w.heap.size w M.drew):=Hk (ac.out.trans ((bel_then ag.out ab).drew.mono ac.out.size));obtain⟨p,pl,rfl,-,-⟩:=a0;clear aN ab aa y;go_wp2_with fail;go_region_law (fail)
    all_goals go_wp2
    all_goals
     have V:=((aq.out.set 0 (.slice K ni J)).set 1 (.slice I nj H)).set 2 (.slice N no F);have z0:=V.cell 0 (v:=.slice K ni J) rfl;have z1:=V.cell 1 (v:=.slice I nj H) rfl;have z2:=V.cell 2 (v:=.slice N no F) rfl;have y0:(((M.setCell ⟨w.heap.size,0,none⟩ (.slice K ni J)).setCell ⟨w.heap.size,1,none⟩ (.slice I nj H)).setCell ⟨w.heap.size,2,none⟩ (.slice N no F)).drew.cell? ⟨w.heap.size,0,none⟩=some (.slice K ni J):=z0;have y1:(((M.setCell ⟨w.heap.size,0,none⟩ (.slice K ni J)).setCell ⟨w.heap.size,1,none⟩ (.slice I nj H)).setCell ⟨w.heap.size,2,none⟩ (.slice N no F)).drew.cell? ⟨w.heap.size,1,none⟩=some (.slice I nj H):=z1;have y2:(((M.setCell ⟨w.heap.size,0,none⟩ (.slice K ni J)).setCell ⟨w.heap.size,1,none⟩ (.slice I nj H)).setCell ⟨w.heap.size,2,none⟩ (.slice N no F)).drew.cell? ⟨w.heap.size,2,none⟩=some (.slice N no F):=z2;have B2:=((ar.out.setCell (p:=⟨w.heap.size,0,none⟩) (Nat.le_refl _) (.slice K ni J)).setCell (p:=⟨w.heap.size,1,none⟩) (Nat.le_refl _) (.slice I nj H)).setCell (p:=⟨w.heap.size,2,none⟩) (Nat.le_refl _) (.slice N no F);refine bodyPost_ret (v:=.tuple #[.agg #[.slice K ni J,.slice I nj H,.slice N no F],.bool false]) (by simp[results,Tryz.results7,go_sem,z0,z1,z2,y0,y1,y2]) rfl ?_;exact⟨B2,Or.inr ⟨_,_,_,_,_,_,_,_,_,rfl⟩⟩
  ·obtain⟨w3,ao⟩:∃x,O.alloc (.cells #[.slice none 0 0,.slice none 0 0,.slice none 0 0] 29)=x:=⟨_,rfl⟩;have U:Below O.heap.size O w3:=by rw[<-ao];exact Qaa _ _
   have ae:Fw.Box w3 O.heap.size [.slice none 0 0,.slice none 0 0,.slice none 0 0]:=by rw[<-ao];exact Fw.Box.new O _ _ _ rfl
   have y0:=ae.cell 0 (v:=.slice none 0 0) rfl;have y1:=ae.cell 1 (v:=.slice none 0 0) rfl;have y2:=ae.cell 2 (v:=.slice none 0 0) rfl;have bn:=ae.fz 0;have bh:=ae.fz 1;have bk:=ae.fz 2;obtain⟨M,aK⟩:∃x,((w3.setCell ⟨O.heap.size,0,none⟩ (.slice none 0 0)).setCell ⟨O.heap.size,1,none⟩ (.slice none 0 0)).setCell ⟨O.heap.size,2,none⟩ (.slice none 0 0)=x:=⟨_,rfl⟩;have aE:w.heap.size≠O.heap.size:=by have:=af.out.below ad|>.lt;omega
   have y:Fw.Box M w.heap.size [.slice none 0 0,.slice none 0 0,.slice none 0 0]:=by
    rw[<-aK];exact((((af.out.below ad).below U).other _ _ aE).other _ _ aE).other _ _ aE
   have c0:=y.cell 0 (v:=.slice none 0 0) rfl;have c1:=y.cell 1 (v:=.slice none 0 0) rfl;have c2:=y.cell 2 (v:=.slice none 0 0) rfl;have f0:=y.fz 0;have f1:=y.fz 1;have f2:=y.fz 2;have aq:=Hk y;have ar:Hid (Below w.heap.size w M):=Hk (by
    have h3:=ac.out.trans ((bel_then ad U).mono ac.out.size);have aD:w.heap.size<=O.heap.size:=by have:=(af.out.below ad).lt;omega
    rw[<-aK];exact((h3.setCell (p:=⟨O.heap.size,0,none⟩) aD _).setCell (p:=⟨O.heap.size,1,none⟩) aD _).setCell (p:=⟨O.heap.size,2,none⟩) aD _)
   clear ad U y ak ae;go_wp2;have V:=((aq.out.set 0 (.slice none 0 0)).set 1 (.slice none 0 0)).set 2 (.slice none 0 0);have z0:=V.cell 0 (v:=.slice none 0 0) rfl;have z1:=V.cell 1 (v:=.slice none 0 0) rfl;have z2:=V.cell 2 (v:=.slice none 0 0) rfl;have B2:=((ar.out.setCell (p:=⟨w.heap.size,0,none⟩) (Nat.le_refl _) (.slice none 0 0)).setCell (p:=⟨w.heap.size,1,none⟩) (Nat.le_refl _) (.slice none 0 0)).setCell (p:=⟨w.heap.size,2,none⟩) (Nat.le_refl _) (.slice none 0 0);refine bodyPost_ret (v:=.tuple #[.agg #[.slice none 0 0,.slice none 0 0,.slice none 0 0],.bool false]) (by simp[results,Tryz.results7,go_sem,z0,z1,z2]) rfl ?_;exact⟨B2,Or.inr ⟨_,_,_,_,_,_,_,_,_,rfl⟩⟩
end Go.Proofs.YtjlgejennghhlaaGreatDoor.Pl
namespace Go.Proofs.YtjlgejennghhlaaGreatDoor.Pl
open Go.RowKit Go.Maps Go.Shelf
open Fw (By FJob Flw ba Qck QbH zeroJ)
theorem Qf8 {P:Program} {Z:Array Oper} {o:Oper} {a:Act} {w:World} {K:Act->World->Prop} {Q:Exit->Act->World->Prop} {E:Prop} (O:o.guard=none) (s x:Operand) (t:TypeId)
 (ho:o.op=.call {callee:=.builtin .append,args:=#[s,x],argTypes:=#[t,t]})
 (base:Nat) (e:TypeId) (i:TypeInfo) (z:Value) (size D:Nat) (ht:P.underlying t=some (.slice e)) (hi:P.info? e=some i) (hz:i.zero=some z)
 (H:i.size=size) (aa:i.bytes=D) (ab:z.cells.size=size) (V:0<size)
 (v:Value) (n:Nat) (xs:List Value) (hs:a.eval s=v) (M:w.ownsRow base e size v n xs)
 (N:Addr) (m c:Nat) (y:List Value) (hx:a.eval x=.slice (some N) m c) (hl:y.length=m*size) (J:∀j u,y[j]? =some u->w.cell? (N.add j)=some u) (h1:∀u∈y,u.oneCell'=true)
 (U:n+m<=maxLen) (F:(n+m)*D<=140737488355328) (I:base<=w.heap.size)
 (h:∀v' w',w'.ownsRow base e size v' (n+m) (xs++y)->w.grownBy w' v.ownBlock->(v'=.slice none 0 0↔v=.slice none 0 0/\m=0)->K (a.put o.dst v') w'):
 if Region.wanted o (yielded Z a.tmps)=true then Oper.wp P o a w K Q else E:=by
 rw[if_pos (by simp[Region.wanted,O])];exact wp_append_own w s x t ho base e i z size D ht hi hz H aa ab V v n xs hs M N m c y hx hl J h1 U F I h
end Go.Proofs.YtjlgejennghhlaaGreatDoor.Pl
namespace Go.Proofs.YtjlgejennghhlaaGreatDoor.Pl
open Go.RowKit Go.Maps Go.Shelf
open Fw (By FJob Flw ba Qck QbH zeroJ)
theorem grown_of {w w':World} (h:Below w.heap.size w w'):w.grownBy w' none:=⟨h.os,h.tape,h.output,h.size,fun i hi _=>h.block i hi⟩
theorem QbJ.val {w:World} {A:AM} {m:CM} (h:QbJ w A m) (D:∀c∈m,QeA c.2) {v:Value} (y:v∈A.map (·.2)):∃cs,Qgg w v cs/\QeA cs:=by
 induction A generalizing m with
 |nil=>cases y
 |cons a A ih=>cases m with
  |nil=>exact h.elim
  |cons c m=>
   rcases List.mem_cons.1 y with rfl|y
   ·exact⟨c.2,h.1.2,D c (by simp)⟩
   ·exact ih h.2 (fun x hx=>D x (by simp[hx])) y
end Go.Proofs.YtjlgejennghhlaaGreatDoor.Pl
namespace Go.Proofs.YtjlgejennghhlaaGreatDoor.Pl
open Go.RowKit Go.Maps Go.Shelf
open Fw (By FJob Flw ba Qck QbH zeroJ)
theorem Qa7.one {f:Flw} {o y:List Nat} {m D:CM} (h:Qa7 f o m) (F:Qa7 f y D):o=y/\m=D:=by
 have e:o=y:=Option.some.inj (h.2.1.symm.trans F.2.1);subst e;exact⟨rfl,Option.some.inj (h.2.2.symm.trans F.2.2)⟩
theorem QgJ (F:Nat->List Value):∀(I:List Nat),(∀x∈I,(F x).length=15)->(I.flatMap F).length=I.length*15
 |[],_=>rfl
 |a::r,h=>by
  rw[List.flatMap_cons,List.length_append,h a (by simp),QgJ F r (fun x hx=>h x (by simp[hx])),List.length_cons];omega
theorem Qf9 (F:Nat->List Value):∀(I:List Nat),(∀x∈I,(F x).length=15)->∀(p:Nat) (y:p<I.length) (r:Nat),r<15->(I.flatMap F)[p*15+r]? =(F I[p])[r]?
 |[],_,p,y,_,_=>absurd y (by simp)
 |a::l,h,0,y,r,hr=>by
  rw[List.flatMap_cons,Nat.zero_mul,Nat.zero_add,List.getElem?_append_left (by rw[h a (by simp)];exact hr)];rfl
 |a::l,h,p+1,y,r,hr=>by
  have D:=h a (by simp);rw[List.flatMap_cons,List.getElem?_append_right (by rw[D];omega),D,show(p+1)*15+r-15=p*15+r by omega,Qf9 F l (fun x hx=>h x (by simp[hx])) p (by simpa using y) r hr];rfl
structure JC (w:World) (b:Nat) (l:List FJob) (j:Nat) (xs:List Value):Prop where
 len:xs.length=15
 one:∀u∈xs,u.oneCell'=true
 at_:w.rangeAt b (j*15) xs
 job:∃a vo vi vc,l[j]? =some a/\xs=Fw.jobV a vo vi vc/\Fw.StrsR w vo a.outs/\Fw.StrsR w vi a.ins/\Fw.StrsR w vc a.cols
theorem Qk8 {w:World} {b n:Nat} {l:List FJob} (h:∀j,j<n->Fw.JobCellsAt l j w b (j*15)):∃F:Nat->List Value,∀j,j<n->JC w b l j (F j):=by
 have y:∀j,j<n->∃xs,JC w b l j xs:=fun j hj=>by
  obtain⟨a,J,I,D,O,N,M,H,K⟩:=h j hj;refine⟨Fw.jobV a J I D,rfl,fun u hu=>?_,fun i u hu=>N i u hu,a,J,I,D,O,rfl,M,H,K⟩;have:=QcX M H K;rw[Array.all_eq_true] at this;obtain⟨i,U,rfl⟩:=List.mem_iff_getElem.1 hu;exact this i (by simpa using U)
 classical
 exact⟨fun j=>if hj:j<n then Classical.choose (y j hj) else[],fun j hj=>by simp only[dif_pos hj];exact Classical.choose_spec (y j hj)⟩
theorem Qk9 {w:World} {b n s m:Nat} {l:List FJob} {F:Nat->List Value} (h:∀j,j<n->JC w b l j (F j)) (N:s+m<=n):((List.range' s m).flatMap F).length=m*15/\w.rangeAt b (s*15) ((List.range' s m).flatMap F)/\∀u∈(List.range' s m).flatMap F,u.oneCell'=true:=by
 have y:∀x∈List.range' s m,(F x).length=15:=fun x H=>(h x (by have:=List.mem_range'_1.1 H;omega)).len
 have D:=QgJ F _ y;rw[List.length_range'] at D;refine⟨D,fun j v hv=>?_,fun u hu=>?_⟩
 ·have M:j<m*15:=by rw[<-D];exact(List.getElem?_eq_some_iff.1 hv).1
  have I:j/15<(List.range' s m).length:=by rw[List.length_range'];omega
  have e:=Qf9 F _ y (j/15) I (j%15) (Nat.mod_lt _ (by decide));rw[show j/15*15+j%15=j by omega,hv] at e;have K:(List.range' s m)[j/15]=s+j/15:=by simp
  rw[K] at e;have:=(h (s+j/15) (by rw[List.length_range'] at I;omega)).at_ (j%15) v e.symm;rw[show(s+j/15)*15+j%15=s*15+j by omega] at this;exact this
 ·obtain⟨x,H,J⟩:=List.mem_flatMap.1 hu;exact(h x (by have:=List.mem_range'_1.1 H;omega)).one u J
end Go.Proofs.YtjlgejennghhlaaGreatDoor.Pl
namespace Go.Proofs.YtjlgejennghhlaaGreatDoor.Pl
open Go.RowKit Go.Maps Go.Shelf
open Fw (By FJob Flw ba Qck QbH zeroJ)
theorem Qng (at_:Int) (x y:ByteArray) (D:Value) (C:Nat) (r:Bool) (w:World) (h:w.cell? ⟨C,0,none⟩=some (.string y)) (I:(x.toList==y.toList)=r):Calls Tryz.prog 34 #[.agg #[.int .i64 at_,.string x,D],.pointer (some ⟨C,0,none⟩)] w fun e w'=>e=.returned (.bool r)/\Below w.heap.size w w':=by
 have F:=World.block_lt_of_cell? w _ h;have H:(w.alloc (.cells #[.int .i64 at_,.string x,D] 57)).cell? ⟨C,0,none⟩=some (.string y):=by rw[World.cell?_alloc_lt _ _ ⟨C,0,none⟩ F];exact h
 clear h;go_enter Tryz.func34,Tryz.ntmps34;go_wp2;go_ret;exact⟨rfl,Qaa _ _⟩
theorem Qnh (vi:Value) (l:List Fw.FIn) (nm:By) (C:Nat) (w:World) (h:Fw.RowR w vi l.length 3 (Fw.InAt l)) (ae:l.length<=100) (hC:w.cell? ⟨C,0,none⟩=some (.string (ba nm))):
 Calls Tryz.prog 69 #[vi,.func (.func 34) #[] #[.pointer (some ⟨C,0,none⟩)]] w fun e w'=>∃r:Int,e=.returned (.int .i64 r)/\foundI r (l.any fun i=>i.name==nm)/\Below w.heap.size w w':=by
 obtain⟨ia,ic,rfl⟩:=row_slice h;obtain⟨n,V⟩:∃n,l.length=n:=⟨_,rfl⟩;have HN:=Hk V;have HR:=Hk h;have HC:=Hk hC;rw[V] at ae⊢;clear V h hC;go_enter Tryz.func69,Tryz.ntmps69;go_wp2;go_loopw [8] (fun i wr=>∃k:Nat,k<=n/\i=.int .i64 k/\(l.take k).any (fun i=>i.name==nm)=false/\Below w.heap.size w wr) (fun i _=>n-(intOf i).toNat)
 case atStart=>exact⟨0,Nat.zero_le _,rfl,rfl,Below.refl _ _⟩
 case round=>
  obtain⟨k,hk,rfl,N,y⟩:=hrel;have HA:=Hk N;clear N
  by_cases hlt:k<n
  ·have D:k<l.length:=by have:=HN.out;omega
   rcases HR.out with ⟨-,J⟩|⟨b,c',J,al,O,I⟩
   ·rw[J] at D;exact absurd D (by simp)
   simp only[Value.slice.injEq] at J;obtain⟨rfl,-,rfl⟩:=J;obtain⟨a,v,ha,d0,d1,Z,-⟩:=I k D;have J:=cK y O d0;have e1:=cK y O d1;have e2:=cK y O Z;obtain⟨_,M⟩:=List.getElem?_eq_some_iff.1 ha;have hl:=World.block_lt_of_cell? w _ HC.out;have U:=Hk (Qng (a.at_:Nat) (ba a.name) (ba nm) v C (a.name==nm) wr (cK y hl HC.out) (QpN _ _));have HX:Hid (∀p,(a.name==nm)=p->(fun i:Fw.FIn=>i.name==nm) l[k]=p):=Hk (fun p hp=>by rw[M];exact hp);generalize ba a.name=x at*;have H:=Hk y;clear y I d0 d1 Z ha M
   cases hp:(a.name==nm)
   all_goals have HP:=Hk (HX.out _ hp)
   all_goals rw[hp] at U
   all_goals clear hp HX
   ·go_wp2_with (go_at_call 34;refine U.out.mono ?_;rintro e w2 ⟨rfl,F⟩;have K:=Hk (H.out.trans (F.mono H.out.size));clear F);go_roundw
    case rel=>exact⟨k+1,by omega,by go_num,any_step D HA.out HP.out,K.out⟩
    case measure=>simp[intOf];omega
   ·go_wp2_with (go_at_call 34;refine U.out.mono ?_;rintro e w2 ⟨rfl,F⟩;have K:=Hk (H.out.trans (F.mono H.out.size));clear F);go_ret;exact⟨k,rfl,⟨by omega,by omega,by rw[any_hit D HP.out];simp⟩,K.out⟩
  ·go_wp2;go_ret;exact⟨-1,rfl,⟨by omega,by omega,by have:=HA.out;rw[List.take_of_length_le (by have:=HN.out;omega)] at this;rw[this];rfl⟩,y⟩
theorem Qni (y:Value) (l:List Fw.FIn) (nm:By) (C:Nat) (w:World) (h:Fw.RowR w y l.length 3 (Fw.InAt l)) (H:l.length<=100) (D:w.cell? ⟨C,0,none⟩=some (.string (ba nm))):
 Calls Tryz.prog 33 #[y,.func (.func 34) #[] #[.pointer (some ⟨C,0,none⟩)]] w fun e w'=>e=.returned (.bool (l.any fun i=>i.name==nm))/\Below w.heap.size w w':=by
 have J:=Hk (Qnh y l nm C w h H D);clear h D;go_enter Tryz.func33,Tryz.ntmps33;go_wp2_with (go_at_call 69;refine J.out.mono ?_;rintro e K ⟨r,rfl,I,F⟩);go_ret;exact⟨ret_bool I.2.2,F⟩
theorem Qnj (y:List Value) (J:Option Addr) (N:Nat) (outs:List By) (nm:By) (C:Nat) (w:World) (D:y[2]? =some (.slice J outs.length N)) (I:y.length=15) (K:Fw.StrsR w (.slice J outs.length N) outs) (O:outs.length<=100000) (M:w.cell? ⟨C,0,none⟩=some (.string (ba nm))):
 Calls Tryz.prog 36 #[.agg y.toArray,.pointer (some ⟨C,0,none⟩)] w fun e w'=>e=.returned (.bool (outs.contains nm))/\Below w.heap.size w w':=by
 obtain⟨H,F⟩:∃x,w.alloc (.cells y.toArray 50)=x:=⟨_,rfl⟩;have h:Below w.heap.size w H:=by rw[<-F];exact Qaa _ _
 have U:Fw.Box H w.heap.size y:=by rw[<-F];exact Fw.Box.new w _ _ _ rfl
 have c1:=U.cell 2 D;have c2:=cell_below M h;have HQ:=Hk (Qe8 (K.below h) O nm);have V:=Hk h;have ab:y.toArray.size=15:=by simpa using I
 generalize outs.length=n at*;generalize ba nm=x at*;generalize outs.contains nm=r at*;clear M h U K D;go_enter Tryz.func36,Tryz.ntmps36;go_wp2_with (go_at_call 37;refine HQ.out.mono ?_;rintro e Z ⟨rfl,D⟩;obtain rfl:H=Z:=D.symm;clear D);go_ret;exact⟨rfl,V.out⟩
theorem Qnk (f:Flw) (vi vj vo:Value) (nm:By) (C:Nat) (w:World) (h:Fw.FlowRd w f vi vj vo) (hf:Fw.FlwOK f) (hC:w.cell? ⟨C,0,none⟩=some (.string (ba nm))):
 Calls Tryz.prog 70 #[vj,.func (.func 36) #[] #[.pointer (some ⟨C,0,none⟩)]] w fun e w'=>∃r:Int,e=.returned (.int .i64 r)/\foundI r (f.jobs.any fun j=>j.outs.contains nm)/\Below w.heap.size w w':=by
 obtain⟨ja,jc,rfl⟩:=row_slice h.jobs;obtain⟨n,Z⟩:∃n,f.jobs.length=n:=⟨_,rfl⟩;have HN:=Hk Z;have aN:n<=16:=by rw[<-Z];exact hf.jl
 rw[Z] at h⊢;have HH:=Hk (Ai h hf);have HC:=Hk hC;clear Z h hf hC;go_enter Tryz.func70,Tryz.ntmps70;go_wp2;go_loopw [8] (fun i wr=>∃k:Nat,k<=n/\i=.int .i64 k/\(f.jobs.take k).any (fun j=>j.outs.contains nm)=false/\Below w.heap.size w wr) (fun i _=>n-(intOf i).toNat)
 case atStart=>exact⟨0,Nat.zero_le _,rfl,rfl,Below.refl _ _⟩
 case round=>
  obtain⟨k,hk,rfl,ag,y⟩:=hrel;have HA:=Hk ag;clear ag
  by_cases hlt:k<n
  ·have I:k<f.jobs.length:=by have:=HN.out;omega
   obtain⟨b,c,e0,aH,hb,ao,ai,ac,M,V,af,ah⟩:=QeP HH.out.1 I;have N:wr.rangeAt b (k*15) (Fw.jobV f.jobs[k] ao ai ac):=fun j u hj=>(y.cell (p:=⟨b,k*15+j,none⟩) hb).trans (M j u hj)
   clear M;simp only[Value.slice.injEq] at e0;obtain⟨rfl,-,rfl⟩:=e0;have H:=QcX V af ah;have aM:=(HH.out.2.jobs _ (List.getElem_mem I)).ol;obtain⟨na,nc,rfl⟩:=strs_slice V;obtain⟨D,K⟩:∃D,Fw.jobV f.jobs[k] (.slice na f.jobs[k].outs.length nc) ai ac=D:=⟨_,rfl⟩;have aa:D[2]? =some (.slice na f.jobs[k].outs.length nc):=by rw[<-K];rfl
   have ad:D.length=15:=by rw[<-K];rfl
   rw[K] at N H;have HQ:=Hk (Qnj D na nc f.jobs[k].outs nm C wr aa ad (V.below y) (by omega) (cell_below HC.out y));obtain⟨w3,av,aD,aq,au,O,ax⟩:=Qe9 wr D ad H;have ae:=Hk N;have ab:=Hk O;have J:=Hk y;clear N H O ax av aq aD V af ah K aa au y
   cases hp:f.jobs[k].outs.contains nm
   all_goals have HP:=Hk hp
   all_goals rw[hp] at HQ
   all_goals clear hp
   ·go_wp2_with (first|(refine wpList_load_mid rfl 50 _ rfl b (k*15) rfl D _ ae.out Tryz.underlying50 rfl ab.out ?_)|(go_at_call 36;refine HQ.out.mono ?_;rintro e w2 ⟨rfl,F⟩;have U:=Hk (J.out.trans (F.mono J.out.size));clear F));go_roundw
    case rel=>exact⟨k+1,by omega,by go_num,any_step I HA.out HP.out,U.out⟩
    case measure=>simp[intOf];omega
   ·go_wp2_with (first|(refine wpList_load_mid rfl 50 _ rfl b (k*15) rfl D _ ae.out Tryz.underlying50 rfl ab.out ?_)|(go_at_call 36;refine HQ.out.mono ?_;rintro e w2 ⟨rfl,F⟩;have U:=Hk (J.out.trans (F.mono J.out.size));clear F));go_ret;exact⟨k,rfl,⟨by omega,by omega,by rw[any_hit I HP.out];simp⟩,U.out⟩
  ·go_wp2;go_ret;exact⟨-1,rfl,⟨by omega,by omega,by have:=HA.out;rw[List.take_of_length_le (by have:=HN.out;omega)] at this;rw[this];rfl⟩,y⟩
theorem Qnl (f:Flw) (I D J:Value) (nm:By) (C:Nat) (w:World) (h:Fw.FlowRd w f I D J) (y:Fw.FlwOK f) (H:w.cell? ⟨C,0,none⟩=some (.string (ba nm))):
 Calls Tryz.prog 35 #[D,.func (.func 36) #[] #[.pointer (some ⟨C,0,none⟩)]] w fun e w'=>e=.returned (.bool (f.jobs.any fun j=>j.outs.contains nm))/\Below w.heap.size w w':=by
 have K:=Hk (Qnk f I D J nm C w h y H);clear h H;go_enter Tryz.func35,Tryz.ntmps35;go_wp2_with (go_at_call 70;refine K.out.mono ?_;rintro e M ⟨r,rfl,y,F⟩);go_ret;exact⟨ret_bool y.2.2,F⟩
end Go.Proofs.YtjlgejennghhlaaGreatDoor.Pl
namespace Go.Proofs.YtjlgejennghhlaaGreatDoor.Pl
open Go.RowKit Go.Maps Go.Shelf
open Fw (By FJob Flw ba Qck QbH zeroJ)
def QdC (a nm:By):FJob:=⟨0,6,[nm],[a],[],[],([],0,0,[]),([],0,0,[]),0⟩
def QbW (f:Flw) (a nm:By):Flw:=⟨f.ins,QdC a nm::f.jobs,f.outs⟩
theorem Qim (f:Flw) (a nm:By):(Qaw (QbW f a nm)).Perm (nm::Qaw f):=by
 show(f.ins.map (·.name)++nm::f.jobs.flatMap (·.outs)).Perm _
 exact List.perm_middle
theorem Fine.more {f:Flw} {y:Fw.FIn} {nm:By} (h:Fine f) (I:y∈f.ins) (H:nm∉Qaw f):Fine (QbW f y.name nm):=by
 have D:=Qim f y.name nm;refine⟨h.cols,D.nodup_iff.2 (List.nodup_cons.2 ⟨H,h.nodup⟩),fun j F n hn=>D.mem_iff.2 ?_,fun o ho=>D.mem_iff.2 (List.mem_cons_of_mem _ (h.outs o ho)),h.told⟩;rcases List.mem_cons.1 F with rfl|F
 ·obtain rfl:n=y.name:=by simpa [QdC] using hn
  exact List.mem_cons_of_mem _ (List.mem_append_left _ (List.mem_map.2 ⟨y,I,rfl⟩))
 ·exact List.mem_cons_of_mem _ (h.reads j F n hn)
theorem more_ok {f:Flw} {y:Fw.FIn} {nm:By} {o:List Nat} {m:CM} (h:Qa7 f o m) (I:y∈f.ins) (D:nm∉Qaw f):∃F,Qa7 (QbW f y.name nm) (0::o.map (·+1)) F/\QbL F nm=some (QaY y.cols)/\(∀n∈keysM m,QbL F n=QbL m n)/\F.length=m.length+1:=by
 have hg:=QcH h.2.1;obtain⟨U,J⟩:=run_sol h.1.nodup hg h.2.2;have H:y.name∈f.ins.map (·.name):=List.mem_map.2 ⟨y,I,rfl⟩;have N:nm≠y.name:=by rintro rfl;exact D (List.mem_append_left _ H)
 have V:∀n∈(QdC y.name nm).ins,n∈f.ins.map (·.name):=fun n hn=>by
  obtain rfl:n=y.name:=by simpa [QdC] using hn
  exact H
 have ho':=QmP (f:=f) (g:=QbW f y.name nm) (nj:=QdC y.name nm) (nm:=nm) rfl rfl D rfl h.1.reads V;rw[h.2.1] at ho';have hS':=U.more (g:=QbW f y.name nm) (nj:=QdC y.name nm) (nm:=nm) (c:=QaY y.cols) rfl rfl D rfl h.1.reads (by show[(QbL m y.name).getD []]=_;rw[U.ins y I];rfl) (by simpa [QdC] using N) (by unfold Qbg Qef;simp[QdC]) (by unfold Qa9;simp[QdC]);obtain⟨F,M,O,K⟩:=sol_run hS' (QcH ho');refine⟨F,⟨h.1.more I D,ho',M⟩,by rw[O,if_pos rfl],fun n hn=>by rw[O,if_neg];rintro rfl;exact D (J.mem_iff.1 hn),?_⟩;have Z:=J.length_eq;have e2:=K.length_eq;have e3:=(Qim f y.name nm).length_eq;simp only[keysM,List.length_map,List.length_cons] at Z e2 e3;omega
theorem QoW {f:Flw} (h:Fw.FlwOK f) {a nm:By} (H:f.jobs.length<16) (F:a.length<=1000) (D:nm.length<=1000):Fw.FlwOK (QbW f a nm):=by
 refine⟨h.ins,fun j y=>?_,h.outs,h.il,?_,h.ol⟩
 ·rcases List.mem_cons.1 y with rfl|y
  ·refine⟨by simp[QdC],by simp[QdC],by simp[QdC],by simp[QdC],by simpa [QdC] using F,by simp[QdC],by simpa [QdC] using D,by simp[QdC,Fw.AgOK],by simp[QdC,Fw.AgOK],by simp[QdC],by simp[QdC],by simp[QdC,Fw.JobFm]⟩
  ·exact h.jobs j y
 ·show f.jobs.length+1<=16
  omega
theorem Qnm {w w':World} {B b:Nat} {f:Flw} {a nm:By} {vi Z gv y D:Value} {F:Nat->List Value} (O:∀j,j<f.jobs.length->JC w b f.jobs j (F j)) (V:Fw.RowR w vi f.ins.length 3 (Fw.InAt f.ins)) (K:Fw.RowR w Z f.outs.length 3 (Fw.OutAt f.outs)) (h:Below w.heap.size w w')
 (M:Fw.StrsR w' y [nm]) (ab:Fw.StrsR w' D [a]) (hg:w'.ownsRow B 50 15 gv (f.jobs.length+1) (Fw.jobV (QdC a nm) y D (.slice none 0 0)++(List.range' 0 f.jobs.length).flatMap F)):Fw.FlowRd w' (QbW f a nm) vi gv Z:=by
 refine⟨V.below h fun _ _ _ hh hl=>hh.below h hl,?_,K.below h fun _ _ _ hh hl=>hh.below h hl⟩
 show Fw.RowR w' gv (f.jobs.length+1) 15 (Fw.JobCellsAt (QdC a nm::f.jobs))
 refine Fw.RowR.of hg fun b' hc p hp=>?_
 cases p with
 |zero=>
  refine⟨QdC a nm,y,D,.slice none 0 0,rfl,fun i u hu=>?_,M,ab,Or.inl ⟨rfl,rfl⟩⟩;have J:i<15:=(List.getElem?_eq_some_iff.1 hu).1;refine hc (0*15+i) u (by omega) ?_;rw[Nat.zero_mul,Nat.zero_add,List.getElem?_append_left (by exact J)];exact hu
 |succ p=>
  have H:p<f.jobs.length:=by omega
  obtain⟨j,U,N,aa,j1,j2,j3,j4,j5⟩:=(O p H).job;refine⟨j,U,N,aa,by rw[List.getElem?_cons_succ];exact j1,fun i u hu=>?_,j3.below h,j4.below h,j5.below h⟩;have J:i<15:=(List.getElem?_eq_some_iff.1 hu).1;have I:∀x∈List.range' 0 f.jobs.length,(F x).length=15:=fun x hx=>(O x (by have:=List.mem_range'_1.1 hx;omega)).len
  have e:=Qf9 F _ I p (by rw[List.length_range'];exact H) i J;rw[List.getElem_range',show 0+1*p=p by omega,j2,hu] at e;refine hc ((p+1)*15+i) u (by omega) ?_;rw[List.getElem?_append_right (by show 15<=_;omega),show(p+1)*15+i-(Fw.jobV (QdC a nm) y D (.slice none 0 0)).length=p*15+i by show(p+1)*15+i-15=_;omega];exact e
end Go.Proofs.YtjlgejennghhlaaGreatDoor.Pl
