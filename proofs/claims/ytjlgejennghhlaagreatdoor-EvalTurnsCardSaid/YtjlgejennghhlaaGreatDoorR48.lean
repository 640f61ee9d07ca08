import Derived.Stop.Asserts
import Derived.Deep.SlicePairs
import Derived.Deep.Strs
import Derived.Lib.SmallJoins
import Derived.Shelf.SlMaps.Equal
import Derived.Deep.RegionLaw
import Derived.LaidSub
import Derived.Test.YtjlgejennghhlaaGreatDoorR01
import Derived.Test.YtjlgejennghhlaaGreatDoorR46
import Derived.Test.YtjlgejennghhlaaGreatDoorR45
import Derived.Test.YtjlgejennghhlaaGreatDoorR39
import Derived.Test.YtjlgejennghhlaaGreatDoorR02
set_option linter.unusedSimpArgs false
set_option linter.unusedVariables false
set_option linter.unusedSectionVars false
set_option maxRecDepth 1000000
set_option maxHeartbeats 16000000
namespace Go.Proofs.YtjlgejennghhlaaGreatDoor.Pl
open Go.RowKit Go.Maps
open Fw (By FJob Flw ba Qcl QbK zeroJ)
def QaU (f:Flw) (o:List Nat) (m:CM):Prop:=Fine f/\Qjb f=some o/\colsO Qbi Qba f o=some m
def Qpq (f:Flw) (w:World) (e:Ending) (w':World):Prop:=Below w.heap.size w w'/\
 ((∃o m A b,QaU f o m/\e=.returned (.tuple #[.map (some b),.nilIface])/\w.heap.size<=b/\MapC w' b A/\QbM w' A m/\∀c∈m,Qep c.2)\/
  ((¬∃o m,QaU f o m)/\∃ev n,e=.returned (.tuple #[.map none,ev])/\n≠0/\AtV w' ev n/\(Fine f->Qjb f=none->n=11)))
abbrev GErr (w:World):Prop:=w.cell? ⟨0,0,none⟩=some (.iface 208 (.agg #[.pointer (some ⟨13,34,none⟩)]))
theorem Qf5 (f:Flw) (vi vj vo:Value) (w:World) (h:Fw.FlowRd w f vi vj vo) (hf:Fw.FlwOK f) (aq:GErr w):
 Calls Tryz.prog 8 #[.agg #[vi,vj,vo]] w fun e w'=>Qpq f w e w':=by
 obtain⟨ia,ic,rfl⟩:=row_slice h.ins;obtain⟨ja,jc,rfl⟩:=row_slice h.jobs;obtain⟨oa,oc,rfl⟩:=row_slice h.outs;generalize f.ins.length=I at*;generalize f.jobs.length=J at*;generalize f.outs.length=O at*;obtain⟨w1,am⟩:∃x,w.alloc (.cells #[.slice ia I ic,.slice ja J jc,.slice oa O oc] 29)=x:=⟨_,rfl⟩;have N:Below w.heap.size w w1:=by rw[<-am];exact Qaa _ _
 have V:Qcx w1 w.heap.size (.slice ia I ic) (.slice ja J jc) (.slice oa O oc):=by rw[<-am];exact Qcx.new _ _ _ _ _
 have D:=Hk N;have ao:=Hk V;have HH:=Hk (Ai (h.below N) (Ai hf (cell_below aq N)));have HW:=Hk (wrong_any f _ _ _ w1 (h.below N) hf);have g1:=V.1;have g2:=V.2.1;have g3:=V.2.2;clear h hf aq N V;go_enter Tryz.func8,Tryz.ntmps8;go_wp2_with (first|(go_at_call 19;fail));refine HW.out.mono ?_;rintro e2 w2 ⟨K,⟨Z,rfl⟩|⟨y,ev,n,rfl,aa,F,-⟩⟩
 ·have al:=Hk Z;have ac:=Hk K;have ax:=Hk (Qij f _ _ _ w2 (HH.out.1.below K) HH.out.2.1);have k0:=ao.out.below K;have k1:=k0.1;have k2:=k0.2.1;have k3:=k0.2.2;clear Z K k0;go_wp2_with (first|(go_at_call 20;fail));refine ax.out.mono ?_;rintro e3 w3 ⟨ae,⟨y,ev,rfl,F⟩|⟨o,tv,ab,rfl,af⟩⟩
  ·have E:Hid ((¬∃o m,QaU f o m)/\Qjb f=none):=Hk ⟨fun⟨o,m,hc⟩=>(by rw[hc.2.1] at y;cases y),y⟩;have HA:=Hk F;have U:=Hk (bel_then ac.out ae);obtain⟨p,pl,rfl,-,-⟩:=F;clear y ae;go_wp2;refine bodyPost_ret (v:=.tuple #[.map none,.iface 100 (.pointer (some ⟨p,0,none⟩))]) (by simp[results,Tryz.results8,go_sem]) rfl ?_;exact⟨D.out.trans (U.out.mono D.out.size),Or.inr ⟨E.out.1,_,11,rfl,by decide,HA.out,fun _ _=>rfl⟩⟩
  ·have HG:=Hk (Ai (QbA ab) ab);have H:=bel_then ac.out ae;have U:=Hk H;have aG:=Hk (Qji f o _ _ _ tv w3 (HH.out.1.below H) HH.out.2.1 al.out (QbA ab) (Qc8.of af) (cell_below HH.out.2.2 H));have k0:=ao.out.below H;have k4:=k0.1;have k5:=k0.2.1;have k6:=k0.2.2;obtain⟨ta,tc,rfl⟩:=own_slice af;clear ab ae H af k0;go_wp2_with (first|(go_at_call 21;fail));refine aG.out.mono ?_;rintro e4 w4 ⟨ad,⟨y,ev,n,rfl,aa,F⟩|⟨m,A,b,hm,rfl,aj,ak,ap,Z⟩⟩
   ·have E:Hid ((¬∃o m,QaU f o m)/\n≠0):=Hk ⟨fun⟨o',m,hc⟩=>(by
     obtain rfl:o=o':=Option.some.inj (HG.out.2.symm.trans hc.2.1);rw[hc.2.2] at y;cases y),aa⟩
    have HA:=Hk F;have ah:=Hk (bel_then U.out ad);obtain⟨p,pl,rfl,-,-⟩:=F;clear y ad aa;go_wp2;refine bodyPost_ret (v:=.tuple #[.map none,.iface 100 (.pointer (some ⟨p,0,none⟩))]) (by simp[results,Tryz.results8,go_sem]) rfl ?_;exact⟨D.out.trans (ah.out.mono D.out.size),Or.inr ⟨E.out.1,_,n,rfl,E.out.2,HA.out,fun _ q=>by rw[HG.out.2] at q;cases q⟩⟩
   ·have M:Hid (QaU f o m/\w3.heap.size<=b/\MapC w4 b A/\QbM w4 A m/\∀c∈m,Qep c.2):=Hk ⟨⟨al.out,HG.out.2,hm⟩,aj,ak,ap,Z⟩;have ah:=Hk (bel_then U.out ad);clear hm aj ak ap Z ad;go_wp2;refine bodyPost_ret (v:=.tuple #[.map (some b),.nilIface]) (by simp[results,Tryz.results8,go_sem]) rfl ?_;exact⟨D.out.trans (ah.out.mono D.out.size),Or.inl ⟨o,m,A,b,M.out.1,rfl,Nat.le_trans (Nat.le_trans D.out.size U.out.size) M.out.2.1,M.out.2.2.1,M.out.2.2.2.1,M.out.2.2.2.2⟩⟩
 ·have E:Hid ((¬∃o m,QaU f o m)/\n≠0/\¬Fine f):=Hk ⟨fun⟨o,m,hc⟩=>y hc.1,aa,y⟩;have HA:=Hk F;have ac:=Hk K;obtain⟨p,pl,rfl,-,-⟩:=F;clear y K aa;go_wp2;refine bodyPost_ret (v:=.tuple #[.map none,.iface 100 (.pointer (some ⟨p,0,none⟩))]) (by simp[results,Tryz.results8,go_sem]) rfl ?_;exact⟨D.out.trans (ac.out.mono D.out.size),Or.inr ⟨E.out.1,_,n,rfl,E.out.2.1,HA.out,fun q _=>absurd q E.out.2.2⟩⟩
end Go.Proofs.YtjlgejennghhlaaGreatDoor.Pl
namespace Go.Proofs.YtjlgejennghhlaaGreatDoor
open Go.ChangeShapes Go.WideShapes Go.ChangeAt Go.RowKit Go.Joins Go.Deep Go.Deep Go.Deep
theorem QeG {W:World} {a:Addr} {v:Value} (h:W.cell? (a.add 0)=some v):∃b o,a=⟨b,o,none⟩:=by
 obtain⟨b,o,s⟩:=a;have y:s=none:=by simpa [Addr.add] using World.cell?_spot h
 exact⟨b,o,by rw[y]⟩
theorem Qnp {H:Type} {enc:TypeId×Value->H} {W:World} {n:Nat} {v:Value} {x:DataW H×List MemPlace} (h:DataW.trod enc Tryz.prog W 0 (fun _=>true) true n 51 [v]=some x):∃cs,Qax W v cs:=by
 rcases open_slice_pairs Tryz.underlying51 Tryz.underlying64 (by kernel_rfl) rfl rfl (by kernel_rfl) (by kernel_rfl) h with ⟨E,-⟩|⟨a,len,D,m,k,Z,V1,D0,D1,P0,P1,E,-,hl,hm,K,-,J⟩
 ·exact⟨[],none,0,by simpa using E,Nat.le_refl _,by simp,Or.inl rfl⟩
 ·have hmm':m=D:=by simpa using K
  have I:∀i,i<len->∃q:ByteArray×Int,Z i=.string q.1/\V1 i=.int .i64 q.2/\q.1.size<=maxLen:=by
   intro i U;obtain⟨-,-,g0,g1⟩:=J i (by omega);obtain⟨s,V,-,w0⟩:=DataW.trod_string Tryz.underlying9 g0;obtain⟨k,e1,-,w1⟩:=DataW.trod_int Tryz.underlying3 g1;exact⟨(s,k),by simpa using V,by simpa using e1,w0⟩
  obtain⟨q,F⟩:=choose_lt I;refine⟨(List.range len).map q,some a,D,by simpa using E,by simpa using hl,?_,?_⟩
  ·intro y O;rw[List.mem_map] at O;obtain⟨i,U,rfl⟩:=O;exact(F i (List.mem_range.1 U)).2.2
  ·by_cases hz:len=0
   ·exact Or.inl (by rw[hz];rfl)
   ·have c0:=(J 0 (by omega)).1;rw[Nat.zero_mul] at c0;obtain⟨b,o,rfl⟩:=QeG c0;refine Or.inr ⟨b,o,rfl,World.block_lt_of_cell? W _ c0,fun j hj=>?_⟩;rw[List.length_map,List.length_range] at hj;obtain⟨N,M,-,-⟩:=J j (by omega);rw[add_plain] at N M;simp only[List.getElem_map,List.getElem_range];exact⟨by rw[N,(F j hj).1],by rw[Nat.add_assoc,M,(F j hj).2.1]⟩
end Go.Proofs.YtjlgejennghhlaaGreatDoor
namespace Go.Proofs.YtjlgejennghhlaaGreatDoor.Pl
open Go.RowKit Go.Maps
open Fw (By FJob Flw ba Qcl QbK zeroJ)
theorem QeI {w w':World} (h:Fw.FEnv w) (y:Below w.heap.size w w'):Fw.FEnv w':=h.blocks y.size fun g hg=>y.block g (h.size g hg)
theorem Qf8 {w w':World} {B:Nat} {f:Flw} {D y E:Value} (h:Fw.FlowO w B f.ins D f.jobs y f.outs E) (F:Below w.heap.size w w'):Fw.FlowO w' B f.ins D f.jobs y f.outs E:=h.imp (fun e z n v xs ho=>owns_below ho F)
def Qps (s:By) (w:World) (e:Ending) (w':World):Prop:=Below w.heap.size w w'/\
 ((∃f o m vi vj vo,Fw.parseF s=.ok f/\QaU f o m/\e=.returned (.tuple #[.agg #[vi,vj,vo],.bool true])/\Fw.FlowRd w' f vi vj vo/\Fw.FlwOK f)\/
  (∃a1 n1 c1 a2 n2 c2 a3 n3 c3,e=.returned (.tuple #[.agg #[.slice a1 n1 c1,.slice a2 n2 c2,.slice a3 n3 c3],.bool false])))
theorem right_any (s:By) (w:World) (hE:Fw.FEnv w) (aA:GErr w) (hs:(ba s).size<=maxLen):
 Calls Tryz.prog 7 #[.string (ba s)] w fun e w'=>Qps s w e w':=by
 have aK:(ba s).size=s.length:=rfl;obtain⟨w1,az⟩:∃x,w.alloc (.cells #[.slice none 0 0,.slice none 0 0,.slice none 0 0] 29)=x:=⟨_,rfl⟩;have ax:Below w.heap.size w w1:=by rw[<-az];exact Qaa _ _
 have V:Fw.Box w1 w.heap.size [.slice none 0 0,.slice none 0 0,.slice none 0 0]:=by rw[<-az];exact Fw.Box.new w _ _ _ rfl
 have aE:w1.heap.size=w.heap.size+1:=by rw[<-az];simp
 have ab:=Hk ax;have ae:=Hk V;have ay:=Hk aE;have HE:=Hk (Ai hE aA);have bk:=V.cell 0 (v:=.slice none 0 0) rfl;have bq:=V.cell 1 (v:=.slice none 0 0) rfl;have bh:=V.cell 2 (v:=.slice none 0 0) rfl;have bi:=V.fz 0;have br:=V.fz 1;have bo:=V.fz 2;unfold maxLen at hs
 by_cases hl:1000<s.length
 ·have hb:(1000:Int)<((ba s).size:Int):=by rw[aK];omega
  clear hE aA ax V aE;generalize ba s=x at*;go_enter Tryz.func7,Tryz.ntmps7;go_wp2;have U:=((ae.out.set 0 (.slice none 0 0)).set 1 (.slice none 0 0)).set 2 (.slice none 0 0);have z0:=U.cell 0 (v:=.slice none 0 0) rfl;have z1:=U.cell 1 (v:=.slice none 0 0) rfl;have z2:=U.cell 2 (v:=.slice none 0 0) rfl;have B2:Below w.heap.size w (((w1.setCell ⟨w.heap.size,0,none⟩ (.slice none 0 0)).setCell ⟨w.heap.size,1,none⟩ (.slice none 0 0)).setCell ⟨w.heap.size,2,none⟩ (.slice none 0 0)):=((ab.out.setCell (p:=⟨w.heap.size,0,none⟩) (Nat.le_refl _) _).setCell (p:=⟨w.heap.size,1,none⟩) (Nat.le_refl _) _).setCell (p:=⟨w.heap.size,2,none⟩) (Nat.le_refl _) _;refine bodyPost_ret (v:=.tuple #[.agg #[.slice none 0 0,.slice none 0 0,.slice none 0 0],.bool false]) (by simp[results,Tryz.results7,go_sem,z0,z1,z2]) rfl ?_;exact⟨B2,Or.inr ⟨_,_,_,_,_,_,_,_,_,rfl⟩⟩
 ·have hb:¬(1000:Int)<((ba s).size:Int):=by rw[aK];omega
  have HP:=Hk (Fw.parse_any s w1 (by omega) (QeI hE ax));clear hE aA ax V aE;generalize aU:ba s=x at*;clear aU;go_enter Tryz.func7,Tryz.ntmps7;go_wp2_with (first|(go_at_call 17;fail));refine HP.out.mono ?_;rintro e2 N ⟨⟨f,vi,vj,vo,aj,rfl,al⟩|⟨er,b,aj,rfl,-⟩,ac⟩
  ·have aT:=Hk al;have aX:=Hk aj;obtain⟨J,I,rfl⟩:=row_slice (Fw.FlowRd.of al).ins;obtain⟨H,F,rfl⟩:=row_slice (Fw.FlowRd.of al).jobs;obtain⟨M,E,rfl⟩:=row_slice (Fw.FlowRd.of al).outs;have av:=Fw.parse_ok (by omega) aj;obtain⟨w3,am⟩:∃x,N.alloc (.cells #[.slice J f.ins.length I,.slice H f.jobs.length F,.slice M f.outs.length E] 29)=x:=⟨_,rfl⟩;have O:Below N.heap.size N w3:=by rw[<-am];exact Qaa _ _
   have ao:Qcx w3 N.heap.size (.slice J f.ins.length I) (.slice H f.jobs.length F) (.slice M f.outs.length E):=by rw[<-am];exact Qcx.new _ _ _ _ _
   have aw:Below w1.heap.size w1 w3:=bel_then ac O;have aB:=Hk (Qf8 aT.out O);have aR:=Hk (Qf5 f _ _ _ w3 (Fw.FlowRd.of aB.out) av (cell_below (cell_below HE.out.2 ab.out) aw));have af:=Hk aw;have aN:=Hk ao;have g1:=ao.1;have g2:=ao.2.1;have g3:=ao.2.2;have aO:=Hk av;generalize bp:f.ins.length=ni at*;generalize bs:f.jobs.length=nj at*;generalize aM:f.outs.length=no at*;clear al aj ac O ao aw av;go_wp2_with (first|(go_at_call 8;fail));refine aR.out.mono ?_;rintro e4 K ⟨aa,⟨o,m,A,b,aL,rfl,-,-,-,-⟩|⟨aM,ev,n,rfl,bn,aZ,-⟩⟩
   ·have aV:=Hk aL;have Z:=(aN.out.below aa).below ((Below.refl _ K).drew);have q1:=Z.1;have q2:=Z.2.1;have q3:=Z.2.2;have y:Fw.Box K.drew w.heap.size [.slice none 0 0,.slice none 0 0,.slice none 0 0]:=((ae.out.below af.out).below aa).block rfl;have c0:=y.cell 0 (v:=.slice none 0 0) rfl;have c1:=y.cell 1 (v:=.slice none 0 0) rfl;have c2:=y.cell 2 (v:=.slice none 0 0) rfl;have f0:=y.fz 0;have f1:=y.fz 1;have f2:=y.fz 2;have D:Fw.Box K w.heap.size [.slice none 0 0,.slice none 0 0,.slice none 0 0]:=y.block rfl;have d0:=D.cell 0 (v:=.slice none 0 0) rfl;have d1:=D.cell 1 (v:=.slice none 0 0) rfl;have d2:=D.cell 2 (v:=.slice none 0 0) rfl;have e0:=D.fz 0;have e1:=D.fz 1;have e2:=D.fz 2;have ap:=Hk y;have aq:Hid (Below w.heap.size w K.drew):=Hk (ab.out.trans ((bel_then af.out aa).drew.mono ab.out.size));have aP:=Hk ((Qf8 aB.out aa).imp (w':=K.drew) (fun e z n v xs ho=>owns_below ho ((Below.refl _ K).drew)));clear aL aa Z y;go_wp2_with fail;go_region_law (fail)
    all_goals go_wp2
    all_goals
     have U:=((ap.out.set 0 (.slice J ni I)).set 1 (.slice H nj F)).set 2 (.slice M no E);have z0:=U.cell 0 (v:=.slice J ni I) rfl;have z1:=U.cell 1 (v:=.slice H nj F) rfl;have z2:=U.cell 2 (v:=.slice M no E) rfl;have y0:(((K.setCell ⟨w.heap.size,0,none⟩ (.slice J ni I)).setCell ⟨w.heap.size,1,none⟩ (.slice H nj F)).setCell ⟨w.heap.size,2,none⟩ (.slice M no E)).drew.cell? ⟨w.heap.size,0,none⟩=some (.slice J ni I):=z0;have y1:(((K.setCell ⟨w.heap.size,0,none⟩ (.slice J ni I)).setCell ⟨w.heap.size,1,none⟩ (.slice H nj F)).setCell ⟨w.heap.size,2,none⟩ (.slice M no E)).drew.cell? ⟨w.heap.size,1,none⟩=some (.slice H nj F):=z1;have y2:(((K.setCell ⟨w.heap.size,0,none⟩ (.slice J ni I)).setCell ⟨w.heap.size,1,none⟩ (.slice H nj F)).setCell ⟨w.heap.size,2,none⟩ (.slice M no E)).drew.cell? ⟨w.heap.size,2,none⟩=some (.slice M no E):=z2;have aQ:=((aP.out.imp (fun e z n v xs h=>ownsRow_setCell_below h (a:=⟨w.heap.size,0,none⟩) (by show w.heap.size<_;have:=ay.out;omega) (.slice J ni I))).imp (fun e z n v xs h=>ownsRow_setCell_below h (a:=⟨w.heap.size,1,none⟩) (by show w.heap.size<_;have:=ay.out;omega) (.slice H nj F))).imp (fun e z n v xs h=>ownsRow_setCell_below h (a:=⟨w.heap.size,2,none⟩) (by show w.heap.size<_;have:=ay.out;omega) (.slice M no E));have B2:=((aq.out.setCell (p:=⟨w.heap.size,0,none⟩) (Nat.le_refl _) (.slice J ni I)).setCell (p:=⟨w.heap.size,1,none⟩) (Nat.le_refl _) (.slice H nj F)).setCell (p:=⟨w.heap.size,2,none⟩) (Nat.le_refl _) (.slice M no E);refine bodyPost_ret (v:=.tuple #[.agg #[.slice J ni I,.slice H nj F,.slice M no E],.bool true]) (by simp[results,Tryz.results7,go_sem,z0,z1,z2,y0,y1,y2]) rfl ?_;exact⟨B2,Or.inl ⟨f,o,m,_,_,_,aX.out,aV.out,rfl,Fw.FlowRd.of aQ,aO.out⟩⟩
   ·have Z:=(aN.out.below aa).below ((Below.refl _ K).drew);have q1:=Z.1;have q2:=Z.2.1;have q3:=Z.2.2;have y:Fw.Box K.drew w.heap.size [.slice none 0 0,.slice none 0 0,.slice none 0 0]:=((ae.out.below af.out).below aa).block rfl;have c0:=y.cell 0 (v:=.slice none 0 0) rfl;have c1:=y.cell 1 (v:=.slice none 0 0) rfl;have c2:=y.cell 2 (v:=.slice none 0 0) rfl;have f0:=y.fz 0;have f1:=y.fz 1;have f2:=y.fz 2;have D:Fw.Box K w.heap.size [.slice none 0 0,.slice none 0 0,.slice none 0 0]:=y.block rfl;have d0:=D.cell 0 (v:=.slice none 0 0) rfl;have d1:=D.cell 1 (v:=.slice none 0 0) rfl;have d2:=D.cell 2 (v:=.slice none 0 0) rfl;have e0:=D.fz 0;have e1:=D.fz 1;have e2:=D.fz 2;have ap:=Hk y;have aq:Hid (Below w.heap.size w K.drew):=Hk (ab.out.trans ((bel_then af.out aa).drew.mono ab.out.size));obtain⟨p,pl,rfl,-,-⟩:=aZ;clear aM aa Z y;go_wp2_with fail;go_region_law (fail)
    all_goals go_wp2
    all_goals
     have U:=((ap.out.set 0 (.slice J ni I)).set 1 (.slice H nj F)).set 2 (.slice M no E);have z0:=U.cell 0 (v:=.slice J ni I) rfl;have z1:=U.cell 1 (v:=.slice H nj F) rfl;have z2:=U.cell 2 (v:=.slice M no E) rfl;have y0:(((K.setCell ⟨w.heap.size,0,none⟩ (.slice J ni I)).setCell ⟨w.heap.size,1,none⟩ (.slice H nj F)).setCell ⟨w.heap.size,2,none⟩ (.slice M no E)).drew.cell? ⟨w.heap.size,0,none⟩=some (.slice J ni I):=z0;have y1:(((K.setCell ⟨w.heap.size,0,none⟩ (.slice J ni I)).setCell ⟨w.heap.size,1,none⟩ (.slice H nj F)).setCell ⟨w.heap.size,2,none⟩ (.slice M no E)).drew.cell? ⟨w.heap.size,1,none⟩=some (.slice H nj F):=z1;have y2:(((K.setCell ⟨w.heap.size,0,none⟩ (.slice J ni I)).setCell ⟨w.heap.size,1,none⟩ (.slice H nj F)).setCell ⟨w.heap.size,2,none⟩ (.slice M no E)).drew.cell? ⟨w.heap.size,2,none⟩=some (.slice M no E):=z2;have B2:=((aq.out.setCell (p:=⟨w.heap.size,0,none⟩) (Nat.le_refl _) (.slice J ni I)).setCell (p:=⟨w.heap.size,1,none⟩) (Nat.le_refl _) (.slice H nj F)).setCell (p:=⟨w.heap.size,2,none⟩) (Nat.le_refl _) (.slice M no E);refine bodyPost_ret (v:=.tuple #[.agg #[.slice J ni I,.slice H nj F,.slice M no E],.bool false]) (by simp[results,Tryz.results7,go_sem,z0,z1,z2,y0,y1,y2]) rfl ?_;exact⟨B2,Or.inr ⟨_,_,_,_,_,_,_,_,_,rfl⟩⟩
  ·obtain⟨w3,am⟩:∃x,N.alloc (.cells #[.slice none 0 0,.slice none 0 0,.slice none 0 0] 29)=x:=⟨_,rfl⟩;have O:Below N.heap.size N w3:=by rw[<-am];exact Qaa _ _
   have ad:Fw.Box w3 N.heap.size [.slice none 0 0,.slice none 0 0,.slice none 0 0]:=by rw[<-am];exact Fw.Box.new N _ _ _ rfl
   have y0:=ad.cell 0 (v:=.slice none 0 0) rfl;have y1:=ad.cell 1 (v:=.slice none 0 0) rfl;have y2:=ad.cell 2 (v:=.slice none 0 0) rfl;have bm:=ad.fz 0;have bg:=ad.fz 1;have bj:=ad.fz 2;obtain⟨K,aJ⟩:∃x,((w3.setCell ⟨N.heap.size,0,none⟩ (.slice none 0 0)).setCell ⟨N.heap.size,1,none⟩ (.slice none 0 0)).setCell ⟨N.heap.size,2,none⟩ (.slice none 0 0)=x:=⟨_,rfl⟩;have aD:w.heap.size≠N.heap.size:=by have:=ae.out.below ac|>.lt;omega
   have y:Fw.Box K w.heap.size [.slice none 0 0,.slice none 0 0,.slice none 0 0]:=by
    rw[<-aJ];exact((((ae.out.below ac).below O).other _ _ aD).other _ _ aD).other _ _ aD
   have c0:=y.cell 0 (v:=.slice none 0 0) rfl;have c1:=y.cell 1 (v:=.slice none 0 0) rfl;have c2:=y.cell 2 (v:=.slice none 0 0) rfl;have f0:=y.fz 0;have f1:=y.fz 1;have f2:=y.fz 2;have ap:=Hk y;have aq:Hid (Below w.heap.size w K):=Hk (by
    have h3:=ab.out.trans ((bel_then ac O).mono ab.out.size);have aC:w.heap.size<=N.heap.size:=by have:=(ae.out.below ac).lt;omega
    rw[<-aJ];exact((h3.setCell (p:=⟨N.heap.size,0,none⟩) aC _).setCell (p:=⟨N.heap.size,1,none⟩) aC _).setCell (p:=⟨N.heap.size,2,none⟩) aC _)
   clear ac O y aj ad;go_wp2;have U:=((ap.out.set 0 (.slice none 0 0)).set 1 (.slice none 0 0)).set 2 (.slice none 0 0);have z0:=U.cell 0 (v:=.slice none 0 0) rfl;have z1:=U.cell 1 (v:=.slice none 0 0) rfl;have z2:=U.cell 2 (v:=.slice none 0 0) rfl;have B2:=((aq.out.setCell (p:=⟨w.heap.size,0,none⟩) (Nat.le_refl _) (.slice none 0 0)).setCell (p:=⟨w.heap.size,1,none⟩) (Nat.le_refl _) (.slice none 0 0)).setCell (p:=⟨w.heap.size,2,none⟩) (Nat.le_refl _) (.slice none 0 0);refine bodyPost_ret (v:=.tuple #[.agg #[.slice none 0 0,.slice none 0 0,.slice none 0 0],.bool false]) (by simp[results,Tryz.results7,go_sem,z0,z1,z2]) rfl ?_;exact⟨B2,Or.inr ⟨_,_,_,_,_,_,_,_,_,rfl⟩⟩
end Go.Proofs.YtjlgejennghhlaaGreatDoor.Pl
namespace Go.Proofs.YtjlgejennghhlaaGreatDoor.Pl
open Go.RowKit Go.Maps Go.Shelf
open Fw (By FJob Flw ba Qcl QbK zeroJ)
theorem QrB (a:Int) (n:Nat) (w:World) (h:0<n) (K:n<=16):
 Calls Tryz.prog 10 #[.int .i64 a,.int .i64 (n:Nat)] w fun e w'=>∃k:Nat,e=.returned (.int .i64 (k:Int))/\k<n/\w'=w:=by
 have M:¬(IntKind.u64.wrap (n:Int))=0:=by unfold IntKind.wrap;simp[IntKind.signed,IntKind.bits];omega
 have J:IntKind.u64.wrap (n:Int)=(n:Int):=by unfold IntKind.wrap;simp[IntKind.signed,IntKind.bits];omega
 have H:¬(n:Int)=0:=by omega
 go_enter Tryz.func10,Tryz.ntmps10;go_wp2;go_ret;have E:IntKind.u64.wrap a=a%18446744073709551616:=by unfold IntKind.wrap;simp[IntKind.signed,IntKind.bits]
 have h:0<=IntKind.u64.wrap a:=by rw[E];omega
 have D:(IntKind.u64.wrap a).tmod (n:Int)=(IntKind.u64.wrap a)%(n:Int):=Int.tmod_eq_emod_of_nonneg h;have F:=Int.emod_nonneg (IntKind.u64.wrap a) (show(n:Int)≠0 by omega);have I:=Int.emod_lt_of_pos (IntKind.u64.wrap a) (show(0:Int)<(n:Int) by omega);have y:wrap64 ((IntKind.u64.wrap a).tmod (n:Int))=((IntKind.u64.wrap a%(n:Int)).toNat:Int):=by rw[D];unfold wrap64;omega
 refine⟨(IntKind.u64.wrap a%(n:Int)).toNat,?_,by omega,rfl⟩
 show Ending.returned (.int .i64 (wrap64 ((IntKind.u64.wrap a).tmod (n:Int))))=_
 rw[y]
theorem Qf9 {P:Program} {Z:Array Oper} {o:Oper} {a:Act} {w:World} {K:Act->World->Prop} {Q:Exit->Act->World->Prop} {E:Prop} (O:o.guard=none) (s x:Operand) (t:TypeId)
 (ho:o.op=.call {callee:=.builtin .append,args:=#[s,x],argTypes:=#[t,t]})
 (base:Nat) (e:TypeId) (i:TypeInfo) (z:Value) (size D:Nat) (ht:P.underlying t=some (.slice e)) (hi:P.info? e=some i) (hz:i.zero=some z)
 (H:i.size=size) (aa:i.bytes=D) (ab:z.cells.size=size) (V:0<size)
 (v:Value) (n:Nat) (xs:List Value) (hs:a.eval s=v) (M:w.ownsRow base e size v n xs)
 (N:Addr) (m c:Nat) (y:List Value) (hx:a.eval x=.slice (some N) m c) (hl:y.length=m*size) (J:∀j u,y[j]? =some u->w.cell? (N.add j)=some u) (h1:∀u∈y,u.oneCell'=true)
 (U:n+m<=maxLen) (F:(n+m)*D<=140737488355328) (I:base<=w.heap.size)
 (h:∀v' w',w'.ownsRow base e size v' (n+m) (xs++y)->w.grownBy w' v.ownBlock->(v'=.slice none 0 0↔v=.slice none 0 0/\m=0)->K (a.put o.dst v') w'):
 if Region.wanted o (yielded Z a.tmps)=true then Oper.wp P o a w K Q else E:=by
 rw[if_pos (by simp[Region.wanted,O])];exact wp_append_own w s x t ho base e i z size D ht hi hz H aa ab V v n xs hs M N m c y hx hl J h1 U F I h
theorem Qjm (b o n c:Nat) (xs:List Value) (w:World) (N:xs.length=n*15) (af:n<=100) (V:b<w.heap.size) (O:w.rangeAt b o xs) (Z:∀u∈xs,u.oneCell'=true):
 Calls Tryz.prog 11 #[.slice (some ⟨b,o,none⟩) n c] w fun e w'=>∃v,e=.returned v/\w'.ownsRow w.heap.size 50 15 v n xs/\Below w.heap.size w w':=by
 obtain⟨i0,hi,I,K,M⟩:=info_parts Fw.Tryz.infoJob;have HN:=Hk N;have J:Hid (∀(j:Nat) (u:Value),xs[j]? =some u->(w.alloc (.cells #[] 50)).cell? ((⟨b,o,none⟩:Addr).add j)=some u):=Hk fun j u hu=>by
  rw[Addr.add_mid,World.cell?_alloc_lt _ _ ⟨b,o+j,none⟩ V];exact O j u hu
 clear N O;have ae:∀(w:World) (a:Option Addr) (n c D E:Nat),(binOp .eql 26 (.slice a n c) (.slice none D E)).run Tryz.prog w=.ok (.bool a.isNone) w:=fun w a n c D E=>Lib.run_eql_slice_nil w _ _ a n c D E Tryz.underlying26
 go_enter Tryz.func11,Tryz.ntmps11;go_wp2_with (at_builtin;refine wpList_append_own _ rfl _ _ 26 rfl w.heap.size 50 i0 _ 15 208 Tryz.underlying26 hi I K M rfl (by decide) _ _ _ rfl (Qfx w _ _ _ (Nat.le_refl _)) ⟨b,o,none⟩ n c xs rfl HN.out J.out Z ?c3 ?c4 ?c5 ?_)
 case c3=>unfold maxLen;omega
 case c4=>omega
 case c5=>simp
 intro U F h y _;have H:Below w.heap.size w F:=(Qaa w _).grown y (by simp) (fun q hq=>by simp[Value.ownBlock] at hq;omega);have HO:=Hk (show F.ownsRow w.heap.size 50 15 U n xs by simpa using h);clear h y;go_wp2;go_ret;exact⟨_,rfl,HO.out,H⟩
end Go.Proofs.YtjlgejennghhlaaGreatDoor.Pl
namespace Go.Proofs.YtjlgejennghhlaaGreatDoor.Pl
open Go.RowKit Go.Maps Go.Shelf
open Fw (By FJob Flw ba Qcl QbK zeroJ)
theorem grown_of {w w':World} (h:Below w.heap.size w w'):w.grownBy w' none:=⟨h.os,h.tape,h.output,h.size,fun i hi _=>h.block i hi⟩
theorem QbM.val {w:World} {A:AM} {m:CM} (h:QbM w A m) (D:∀c∈m,Qep c.2) {v:Value} (y:v∈A.map (·.2)):∃cs,Qgc w v cs/\Qep cs:=by
 induction A generalizing m with
 |nil=>cases y
 |cons a A ih=>cases m with
  |nil=>exact h.elim
  |cons c m=>
   rcases List.mem_cons.1 y with rfl|y
   ·exact⟨c.2,h.1.2,D c (by simp)⟩
   ·exact ih h.2 (fun x hx=>D x (by simp[hx])) y
end Go.Proofs.YtjlgejennghhlaaGreatDoor.Pl
namespace Go.Proofs.YtjlgejennghhlaaGreatDoor
open Go.ChangeShapes Go.WideShapes Go.ChangeAt Go.RowKit
abbrev laidG:List (String×DataW Unit):=[("math/bits.deBruijn32tab",Rows.laid_math_bits_deBruijn32tab),("math/bits.deBruijn64tab",Rows.laid_math_bits_deBruijn64tab),("internal/strconv.uint64pow10",Rows.laid_internal_strconv_uint64pow10),("unicode/utf8.acceptRanges",Rows.laid_unicode_utf8_acceptRanges),("strconv.ErrRange",Rows.laid_strconv_ErrRange),("strconv.ErrSyntax",Rows.laid_strconv_ErrSyntax),("foreman/table.kindWords",Rows.laid_foreman_table_kindWords),("foreman/flow.verbs",Rows.laid_foreman_flow_verbs),("foreman/flow.kinds",Rows.laid_foreman_flow_kinds),("foreman/flow.marks",Rows.laid_foreman_flow_marks),("unicode/utf8.first",Rows.laid_unicode_utf8_first)]
theorem Qpa {W:World} (h:laidMet Tryz.prog laidG W):laidMet Tryz.prog Fw.laidF W:=
 Go.laidMet.filter (fun x=> !(x.1== "unicode/utf8.acceptRanges"||x.1== "foreman/table.kindWords"||x.1== "unicode/utf8.first")) h
theorem Qra:Tryz.prog.globalNamed "foreman/table.kindWords"=some 2:=by kernel_rfl
theorem Qrb:(Tryz.prog.globals[2]?).map (·.type)=some 194:=by kernel_rfl
theorem QrV:Tryz.prog.globalNamed "internal/strconv.uint64pow10"=some 10:=by kernel_rfl
theorem Qsf:(Tryz.prog.globals[10]?).map (·.type)=some 303:=by kernel_rfl
theorem Qrc: "*"++ "errors.errorString"= "*errors.errorString":=by decide
theorem QrW (u:TypeId) (h:Tryz.prog.typeName? 3 u=some "*errors.errorString"):u=294:=
 typeName_ptr_named (nm:= "errors.errorString") (by rw[Qrc];kernel_rfl) (by kernel_rfl) (by decide) u (by rw[Qrc];exact h)
theorem Qpb:Tryz.prog.cellsOf 9=1:=by kernel_rfl
theorem Qrd {W:World} (N:laidMet Tryz.prog laidG W) (al:W.ShapedOpen Tryz.prog):Env W:=by
 have O:∃m,W.cell? ⟨4,0,none⟩=some (.int .i64 m):=
  Go.Proofs.cell_of_shapedOpen_int (zero:=#[.int .i64 0]) (t:=3) al (of_decide_eq_true (by kernel_rfl)) (by kernel_rfl) rfl (by kernel_rfl) (by kernel_rfl) Tryz.underlying3
 have hp:Lib.TabIs Tryz.prog W "internal/strconv.uint64pow10" .u64 Lib.pow10Tab:=by
  obtain⟨g,t,cs,ah,p,y,ht,F,H⟩:=Lib.laidMet.reads N (n:= "internal/strconv.uint64pow10") (d:=Rows.laid_internal_strconv_uint64pow10) (.tail _ (.tail _ (.head _)));obtain rfl:=Option.some.inj (QrV.symm.trans y);obtain rfl:=Option.some.inj (Qsf.symm.trans ht);have e:(Rows.laid_internal_strconv_uint64pow10:DataW Unit)=Lib.tabData .u64 Lib.pow10Tab:=rfl;rw[e] at H;have:=Lib.cells_of_tab Tryz.underlying303 Tryz.underlying273 (by kernel_rfl) (by kernel_rfl) H;unfold Lib.TabIs;rw[F,<-this]
 have K:W.cell? ⟨2,0,none⟩=some (.string ⟨#[]⟩)/\W.cell? ⟨2,1,none⟩=some (.string ⟨#[105,110,116]⟩)/\W.cell? ⟨2,2,none⟩=some (.string ⟨#[116,101,120,116]⟩):=by
  obtain⟨g,t,cs,ah,p,y,ht,F,H⟩:=Lib.laidMet.reads N (n:= "foreman/table.kindWords") (d:=Rows.laid_foreman_table_kindWords) (.tail _ (.tail _ (.tail _ (.tail _ (.tail _ (.tail _ (.head _)))))));obtain rfl:=Option.some.inj (Qra.symm.trans y);obtain rfl:=Option.some.inj (Qrb.symm.trans ht);have c0:=World.var?_cell y F 0;have c1:=World.var?_cell y F 1;have c2:=World.var?_cell y F 2;obtain⟨xs,m1,rfl,D,ae,aj,E⟩:=DataW.trod_array Tryz.underlying194 H;have J:=E 0 (by decide);have M:=E 1 (by decide);have I:=E 2 (by decide);simp only[Prod.mk.injEq,Rows.laid_foreman_table_kindWords,DataW.agg.injEq] at D
  match xs,aj,D,J,M,I with
  |[x0,x1,x2],_,D,J,M,I=>
   simp only[List.map_cons,List.map_nil,List.cons.injEq,and_true] at D;obtain⟨⟨e0,e1,e2⟩,-⟩:=D;rw[Qpb] at J M I;obtain⟨s0,U,b0,-⟩:=DataW.trod_string Tryz.underlying9 (show DataW.trod _ Tryz.prog W 0 _ false m1 9 _=some x0 from J);obtain⟨s1,V,b1,-⟩:=DataW.trod_string Tryz.underlying9 (show DataW.trod _ Tryz.prog W 0 _ false m1 9 _=some x1 from M);obtain⟨s2,Z,b2,-⟩:=DataW.trod_string Tryz.underlying9 (show DataW.trod _ Tryz.prog W 0 _ false m1 9 _=some x2 from I);rw[b0] at e0;rw[b1] at e1;rw[b2] at e2;simp only[DataW.lit.injEq,Lit.string.injEq] at e0 e1 e2;obtain⟨l⟩:=cs
   match l,ae,U,V,Z with
   |[y0,y1,y2],_,U,V,Z=>
    simp at U V Z;subst U V Z;simp at c0 c1 c2;exact⟨by rw[c0,Qgl e0.symm],by rw[c1,Qgl e1.symm],by rw[c2,Qgl e2.symm]⟩
 obtain⟨aR,tR,ab,aq,-,-⟩:=laid_sentinel (g:=7) N.tail.tail.tail.tail (by kernel_rfl) (by kernel_rfl) Tryz.underlying34 QrW Tryz.underlying294 Tryz.underlying296 rfl rfl Tryz.underlying9 (by kernel_rfl) (by kernel_rfl);obtain⟨aS,tS,aa,ar,-,-⟩:=laid_sentinel (g:=6) N.tail.tail.tail.tail.tail (by kernel_rfl) (by kernel_rfl) Tryz.underlying34 QrW Tryz.underlying294 Tryz.underlying296 rfl rfl Tryz.underlying9 (by kernel_rfl) (by kernel_rfl);refine⟨?_,O,K.1,K.2.1,K.2.2,⟨_,_,aa⟩,⟨_,_,ab⟩,hp⟩;intro g y;have lt:∀(g i:Nat) (v:Value),W.cell? ⟨g,i,none⟩=some v->g<W.heap.size:=fun g i v h=>World.block_lt_of_cell? W ⟨g,i,none⟩ h
 simp only[List.mem_cons,List.not_mem_nil,or_false] at y;rcases y with rfl|rfl|rfl|rfl|rfl
 ·obtain⟨m,O⟩:=O;exact lt _ _ _ O
 ·exact lt _ _ _ K.1
 ·exact lt _ 0 _ ((World.var?_cell (by kernel_rfl) aa 0).trans rfl)
 ·exact lt _ 0 _ ((World.var?_cell (by kernel_rfl) ab 0).trans rfl)
 ·exact lt _ 0 _ ((World.var?_cell QrV hp 0).trans rfl)
end Go.Proofs.YtjlgejennghhlaaGreatDoor
