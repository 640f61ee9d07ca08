import Derived.Test.YtjlgejennghhlaaGreatDoorProg
import Derived.WalkKit
import Derived.WalkSpells
import Derived.WalkLawsBesides
import Derived.Deep.QuietTactic
import Derived.BigQuiet
import Derived.Deep.RegionWith
import Derived.Deep.DeepFit
import Derived.Deep.MidRow
import Derived.Deep.AppendLies
import Derived.Deep.LoopGhost
import Derived.Deep.Cut
import Derived.Deep.DeepCutAuto
import Derived.Deep.RegionLaw
import Derived.Deep.RegionHeld3
import Derived.Lib.QuietBelow
import Derived.Lib.LazyBuf
import Derived.Laws.ResultCell
import Derived.Test.YtjlgejennghhlaaGreatDoorR01
import Derived.Test.YtjlgejennghhlaaGreatDoorR19
set_option linter.unusedSimpArgs false
set_option linter.unusedVariables false
set_option linter.unusedSectionVars false
set_option maxRecDepth 1000000
set_option maxHeartbeats 16000000
namespace Go.Proofs.YtjlgejennghhlaaGreatDoor.Fw
open Go.RowKit
theorem Qog {ts:List Tk} (h:GoodT ts) (y:kindT ts=2):2<=(Qar ts).length:=by
 obtain⟨t,r,rfl⟩:=h.ne;exact(h.small t (by simp)).2.2.2.1 y
theorem baX {x y:ByteArray} (h:x.data.toList=y.data.toList):x=y:=by
 cases x
 cases y
 simp at h;simp[h]
theorem QjO (l:By) (a b:Nat):(ba l).extract a b=ba ((l.drop a).take (b-a)):=by
 apply baX;rw[ba_list];simp[List.extract_eq_take_drop]
def QrQ:By->Value->World->Prop:=fun a v _=>v=.agg #[.int .i64 2,.int .i64 0,.string (ba a)]
theorem Qoh (R:Nat) (ts:List Tk) (w:World) (h:RD w R ts):Calls Tryz.prog 180 #[.pointer (some ⟨R,0,none⟩)] w fun e w'=>Rs (QkU ts) QrQ e w.heap.size w' R/\But R w w':=by
 have H:=Hk h;have al:=Qg1;clear h;go_enter Tryz.func180,Tryz.ntmps180;go_wp2_with (go_at_call 152;fail);refine(Qg0 2 R ts _ (H.out.below (Qaa _ _))).mono ?_;rintro e w1 ⟨⟨F,rfl⟩|⟨F,U⟩,E⟩
 ·have V:=Hk (bel_then (Qaa _ _) E);have H1:=Hk (H.out.below V.out);have X1:=Hk ((Box.new w [.int .i64 0,.int .i64 0,.string ⟨#[]⟩] 46 _ rfl).below E);have HK:=Hk F;have ar:=Qog H.out.good F;have aC:=QgE H.out.good;clear E F;go_wp2_with (go_at_call 65;fail);rw[QjO,show((Qar ts).drop 1).take ((Qar ts).length-1-1)=QdH (Qar ts) from by rw[QdH];congr 1];have HI:=Hk (show(QdH (Qar ts)).length<=1000000 by unfold QdH;rw[List.length_take];omega);have HQ:=Hk (show QkU ts=(if Qao 2 0 (QdH (Qar ts))=false then wrongP 4 ts else .ok (QdH (Qar ts),ts.tail)) by rw[QkU,if_neg (by simp[HK.out])]);generalize QdH (Qar ts)=q at*;refine(Qbb 2 0 (ba q) (w1.alloc (.cells #[.int .i64 2,.int .i64 0,.string (ba q)] 46)) (by rw[Qdk];have:=HI.out;unfold maxLen;omega)).mono ?_;rintro e w2 ⟨rfl,O⟩;rw[ba_list];have D:=Hk (bel_then (Qaa _ _) O);have H2:=Hk (H1.out.below D.out);have X2:=Hk (X1.out.below D.out);have I:=Hk ((Box.new w1 [.int .i64 2,.int .i64 0,.string (ba q)] 46 _ rfl).below O);have hq:=I.out.lt;have aA:=X1.out.lt;have aB:=X2.out.lt;have q0:=I.out.cell 0 rfl;have q1:=I.out.cell 1 rfl;have q2:=I.out.cell 2 rfl
  cases hg:Qao 2 0 q
  ·have K:=Hk (show QkU ts=.error (4,Qa6 ts) by rw[HQ.out,if_pos hg];rfl);clear hg;go_wp2_with (go_at_call 83;refine(Qbc _ _ _ _ H2.out).mono ?_;rintro e aE ⟨rfl,rfl⟩);exact⟨rfl,Or.inr ⟨_,K.out,QcW _ _ _ (by omega)⟩,But.of (bel_box (bel_then V.out D.out) _)⟩
  ·have K:=Hk (show QkU ts=.ok (q,ts.tail) by rw[HQ.out,if_neg (by rw[hg];simp)]);clear hg;go_wp2_with (go_at_call 153;fail);refine(Qee _ _ _ H2.out (Or.inl (by rw[HK.out];decide))).mono ?_;rintro e w3 ⟨rfl,h1,M⟩;have Z:=H.out.lt;have y:=Hk (X2.out.but M (by omega));have N:=Hk (I.out.but M (by omega));have q0:=N.out.cell 0 rfl;have q1:=N.out.cell 1 rfl;have q2:=N.out.cell 2 rfl;have x0:=y.out.cell 0 rfl;have x1:=y.out.cell 1 rfl;have x2:=y.out.cell 2 rfl;have y0:=y.out.fz 0;have y1:=y.out.fz 1;have y2:=y.out.fz 2;have aF:=N.out.lt;have aD:=y.out.lt;have ad:=Hk (((h1.set (i:=0) (v:=.int .i64 2) Z).set (i:=1) (v:=.int .i64 0) Z).set (i:=2) (v:=.string (ba q)) Z);have af:=Hk (((((But.of (bel_then V.out D.out)).then M).put (Nat.le_refl _) (.int .i64 2) (i:=0)).put (Nat.le_refl _) (.int .i64 0) (i:=1)).put (Nat.le_refl _) (.string (ba q)) (i:=2));have J:=Hk (((y.out.set 0 (.int .i64 2)).set 1 (.int .i64 0)).set 2 (.string (ba q)));have z0:=J.out.cell 0 rfl;have z1:=J.out.cell 1 rfl;have z2:=J.out.cell 2 rfl;clear h1 M;go_wp2;refine bodyPost_ret (v:=.agg #[.int .i64 2,.int .i64 0,.string (ba q)]) (by simp[results,Tryz.results180,go_sem,z0,z1,z2]) rfl ?_;exact⟨Or.inl ⟨_,_,_,K.out,rfl,rfl,ad.out⟩,af.out⟩
 ·obtain⟨b',rfl,t0,t1,tB,tl⟩:=U;have K:=Hk (show QkU ts=.error (3,Qa6 ts) by rw[QkU,if_pos F];rfl);go_wp2;exact⟨rfl,Or.inr ⟨_,K.out,b',rfl,t0,t1,by first|omega|(simp at tB;omega),tl⟩,But.of (bel_then (Qaa _ _) E)⟩
def Qqx:Ag->Value->World->Prop:=fun a v _=>v=.agg #[.string (ba a.1),.int .i64 a.2.1,.int .i64 a.2.2.1,.string (ba a.2.2.2)]
theorem QjP {l:By} (h:(l.head?.map (·.toNat))≠some 45):0<=Qi8 l:=by
 unfold Qi8
 cases l with
 |nil=>simp[Lib.atoiAll]
 |cons c r=>
  have D:¬c.toNat=45:=fun e=>h (by simp[e])
  split
  ·rename_i n y
   unfold Lib.atoiAll at y;simp only[D,or_false,false_and,if_false,not_false_eq_true,true_and] at y;split at y
   ·cases y
   ·cases y
   ·split at y
    ·cases y
    ·simp only[Lib.NumEnd.ok.injEq] at y;omega
  ·unfold Lib.atoiSat;rw[if_neg h];omega
  ·omega
theorem QpE {y:Int} {ts:List Tk} {n:Int} {ts':List Tk} (D:GoodT ts) (h:Qho y ts=.ok (n,ts')):n<=y/\0<=n:=by
 unfold Qho at h;split at h
 ·cases h
 ·rename_i E
  split at h
  ·cases h
  ·rename_i F
   simp only[Except.ok.injEq,Prod.mk.injEq] at h;obtain⟨rfl,-⟩:=h;refine⟨by omega,QjP ?_⟩;obtain⟨t,r,rfl⟩:=D.ne;exact(D.small t (by simp)).2.2.2.2 (by simpa [kindT] using E)
theorem Qe8 (R:Nat) (ts:List Tk) (w:World) (h:RD w R ts):Calls Tryz.prog 156 #[.pointer (some ⟨R,0,none⟩)] w fun e w'=>Rs (Qe7 ts) Qqx e w.heap.size w' R/\But R w w':=by
 have I:=h.lt;have H0:=Hk (h.below (Qaa w (.cells #[.string ⟨#[]⟩,.int .i64 0,.int .i64 0,.string ⟨#[]⟩] 48)));obtain⟨b,o,cc,n,hc,aJ,aN,hb,aO,aM,k0,k1,k2⟩:=h.head;have X0:=Hk (Box.new w [.string ⟨#[]⟩,.int .i64 0,.int .i64 0,.string ⟨#[]⟩] 48 _ rfl);have aa:=Hk (But.of (R:=R) (Qaa w (.cells #[.string ⟨#[]⟩,.int .i64 0,.int .i64 0,.string ⟨#[]⟩] 48)));clear h aJ
 by_cases hk0:kindT ts=0
 ·have O:=Hk (show Qe7 ts=(Qbe ts).map fun x=>((x.1,0,0,[]),x.2) by rw[Qe7,if_pos hk0]);have aG:((kindT ts:Int)==0)=true:=by simp[hk0]
  clear hk0;go_enter Tryz.func156,Tryz.ntmps156;go_wp2_with (go_at_call 112;fail);refine(Qav R ts _ H0.out).mono ?_;rintro e w3 ⟨⟨a,ts',v,F,rfl,Z,H⟩|⟨er,F,J⟩,E⟩
  ·unfold encS at Z;subst Z;have K:=Hk (show Qe7 ts=.ok ((a,0,0,[]),ts') by rw[O.out,F];rfl);have y:=Hk (X0.out.but E (by omega));have H3:=Hk H;have B3:=Hk (aa.out.then E);clear F H E;have x0:=y.out.cell 0 rfl;have y0:=y.out.fz 0;have x1:=y.out.cell 1 rfl;have y1:=y.out.fz 1;have x2:=y.out.cell 2 rfl;have y2:=y.out.fz 2;have x3:=y.out.cell 3 rfl;have y3:=y.out.fz 3;have ap:=y.out.lt;have U:=Hk ((((H3.out.set (i:=0) (v:=.string (ba a)) I).set (i:=1) (v:=.int .i64 0) I).set (i:=2) (v:=.int .i64 0) I).set (i:=3) (v:=.string ⟨#[]⟩) I);have V:=Hk ((((B3.out.put (Nat.le_refl _) (.string (ba a)) (i:=0)).put (Nat.le_refl _) (.int .i64 0) (i:=1)).put (Nat.le_refl _) (.int .i64 0) (i:=2)).put (Nat.le_refl _) (.string ⟨#[]⟩) (i:=3));have D:=Hk ((((y.out.set 0 (.string (ba a))).set 1 (.int .i64 0)).set 2 (.int .i64 0)).set 3 (.string ⟨#[]⟩));have z0:=D.out.cell 0 rfl;have z1:=D.out.cell 1 rfl;have z2:=D.out.cell 2 rfl;have z3:=D.out.cell 3 rfl;clear D;go_wp2;refine bodyPost_ret (v:=.agg #[.string (ba a),.int .i64 0,.int .i64 0,.string ⟨#[]⟩]) (by simp[results,Tryz.results156,go_sem,z0,z1,z2,z3]) rfl ?_;exact⟨Or.inl ⟨_,_,_,K.out,rfl,rfl,U.out⟩,V.out⟩
  ·obtain⟨b',rfl,t0,t1,tB,tl⟩:=J;have K:=Hk (show Qe7 ts=.error er by rw[O.out,F];rfl);go_wp2;exact⟨rfl,Or.inr ⟨_,K.out,b',rfl,t0,t1,by first|omega|(simp at tB;omega),tl⟩,aa.out.then E⟩
 ·have aG:((kindT ts:Int)==0)=false:=by simp;omega
  by_cases hk2:kindT ts=2
  ·have O:=Hk (show Qe7 ts=(QkU ts).map fun x=>(([],2,0,x.1),x.2) by rw[Qe7,if_neg hk0,if_pos hk2]);have aI:((kindT ts:Int)==2)=true:=by simp[hk2]
   clear hk0 hk2;go_enter Tryz.func156,Tryz.ntmps156;go_wp2_with (go_at_call 180;fail);refine(Qoh R ts _ H0.out).mono ?_;rintro e w3 ⟨⟨a,ts',v,F,rfl,Z,H⟩|⟨er,F,J⟩,E⟩
   ·unfold QrQ at Z;subst Z;have K:=Hk (show Qe7 ts=.ok (([],2,0,a),ts') by rw[O.out,F];rfl);have y:=Hk (X0.out.but E (by omega));have H3:=Hk H;have B3:=Hk (aa.out.then E);clear F H E;have x0:=y.out.cell 0 rfl;have y0:=y.out.fz 0;have x1:=y.out.cell 1 rfl;have y1:=y.out.fz 1;have x2:=y.out.cell 2 rfl;have y2:=y.out.fz 2;have x3:=y.out.cell 3 rfl;have y3:=y.out.fz 3;have ap:=y.out.lt;have U:=Hk ((((H3.out.set (i:=0) (v:=.string ⟨#[]⟩) I).set (i:=1) (v:=.int .i64 2) I).set (i:=2) (v:=.int .i64 0) I).set (i:=3) (v:=.string (ba a)) I);have V:=Hk ((((B3.out.put (Nat.le_refl _) (.string ⟨#[]⟩) (i:=0)).put (Nat.le_refl _) (.int .i64 2) (i:=1)).put (Nat.le_refl _) (.int .i64 0) (i:=2)).put (Nat.le_refl _) (.string (ba a)) (i:=3));have D:=Hk ((((y.out.set 0 (.string ⟨#[]⟩)).set 1 (.int .i64 2)).set 2 (.int .i64 0)).set 3 (.string (ba a)));have z0:=D.out.cell 0 rfl;have z1:=D.out.cell 1 rfl;have z2:=D.out.cell 2 rfl;have z3:=D.out.cell 3 rfl;clear D;go_wp2;refine bodyPost_ret (v:=.agg #[.string ⟨#[]⟩,.int .i64 2,.int .i64 0,.string (ba a)]) (by simp[results,Tryz.results156,go_sem,z0,z1,z2,z3]) rfl ?_;exact⟨Or.inl ⟨_,_,_,K.out,rfl,rfl,U.out⟩,V.out⟩
   ·obtain⟨b',rfl,t0,t1,tB,tl⟩:=J;have K:=Hk (show Qe7 ts=.error er by rw[O.out,F];rfl);go_wp2;exact⟨rfl,Or.inr ⟨_,K.out,b',rfl,t0,t1,by first|omega|(simp at tB;omega),tl⟩,aa.out.then E⟩
  ·have aI:((kindT ts:Int)==2)=false:=by simp;omega
   by_cases hm:Qar ts=[45]
   ·have O:=Hk (show Qe7 ts=(Qho 1000000000 ts.tail).map fun x=>(([],1,-x.1,[]),x.2) by rw[Qe7,if_neg hk0,if_neg hk2,if_pos hm]);have HM:=Hk (Qcu [45] R ts _ H0.out (by simp));rw[if_pos hm,show(Qar ts==[45])=true by simp[hm]] at HM;clear hk0 hk2 hm;go_enter Tryz.func156,Tryz.ntmps156;go_wp2_with (go_at_call 114;fail);refine HM.out.mono ?_;rintro e w2 ⟨rfl,N,M⟩;have H2:=Hk N;have B2:=Hk (aa.out.then M);have X2:=Hk (X0.out.but M (by omega));have ao:=M.size;simp only[World.size_alloc] at ao;clear N M;go_wp2_with (go_at_call 116;fail);refine(Qg2 1000000000 R ts.tail _ H2.out).mono ?_;rintro e w3 ⟨⟨a,ts',v,F,rfl,Z,H⟩|⟨er,F,J⟩,E⟩
    ·unfold encI at Z;subst Z;have aH:=QpE H2.out.good F;have aL:IntKind.i64.wrap (-a)= -a:=by rw[IntKind.wrap_i64];omega
     have K:=Hk (show Qe7 ts=.ok (([],1,-a,[]),ts') by rw[O.out,F];rfl);have y:=Hk (X2.out.but E (by omega));have H3:=Hk H;have B3:=Hk (B2.out.then E);clear F H E aH;have x0:=y.out.cell 0 rfl;have y0:=y.out.fz 0;have x1:=y.out.cell 1 rfl;have y1:=y.out.fz 1;have x2:=y.out.cell 2 rfl;have y2:=y.out.fz 2;have x3:=y.out.cell 3 rfl;have y3:=y.out.fz 3;have ap:=y.out.lt;have U:=Hk ((((H3.out.set (i:=0) (v:=.string ⟨#[]⟩) I).set (i:=1) (v:=.int .i64 1) I).set (i:=2) (v:=.int .i64 (-a)) I).set (i:=3) (v:=.string ⟨#[]⟩) I);have V:=Hk ((((B3.out.put (Nat.le_refl _) (.string ⟨#[]⟩) (i:=0)).put (Nat.le_refl _) (.int .i64 1) (i:=1)).put (Nat.le_refl _) (.int .i64 (-a)) (i:=2)).put (Nat.le_refl _) (.string ⟨#[]⟩) (i:=3));have D:=Hk ((((y.out.set 0 (.string ⟨#[]⟩)).set 1 (.int .i64 1)).set 2 (.int .i64 (-a))).set 3 (.string ⟨#[]⟩));have z0:=D.out.cell 0 rfl;have z1:=D.out.cell 1 rfl;have z2:=D.out.cell 2 rfl;have z3:=D.out.cell 3 rfl;clear D;go_wp2;refine bodyPost_ret (v:=.agg #[.string ⟨#[]⟩,.int .i64 1,.int .i64 (-a),.string ⟨#[]⟩]) (by simp[results,Tryz.results156,go_sem,z0,z1,z2,z3]) rfl ?_;exact⟨Or.inl ⟨_,_,_,K.out,rfl,rfl,U.out⟩,V.out⟩
    ·obtain⟨b',rfl,t0,t1,tB,tl⟩:=J;have K:=Hk (show Qe7 ts=.error er by rw[O.out,F];rfl);go_wp2;exact⟨rfl,Or.inr ⟨_,K.out,b',rfl,t0,t1,by first|omega|(simp at tB;omega),tl⟩,B2.out.then E⟩
   ·have O:=Hk (show Qe7 ts=(Qho 1000000000 ts).map fun x=>(([],1,x.1,[]),x.2) by rw[Qe7,if_neg hk0,if_neg hk2,if_neg hm]);have HM:=Hk (Qcu [45] R ts _ H0.out (by simp));rw[if_neg hm,show(Qar ts==[45])=false by simp[hm]] at HM;clear hk0 hk2 hm;go_enter Tryz.func156,Tryz.ntmps156;go_wp2_with (go_at_call 114;fail);refine HM.out.mono ?_;rintro e w2 ⟨rfl,N,M⟩;have H2:=Hk N;have B2:=Hk (aa.out.then M);have X2:=Hk (X0.out.but M (by omega));have ao:=M.size;simp only[World.size_alloc] at ao;clear N M;go_wp2_with (go_at_call 116;fail);refine(Qg2 1000000000 R ts _ H2.out).mono ?_;rintro e w3 ⟨⟨a,ts',v,F,rfl,Z,H⟩|⟨er,F,J⟩,E⟩
    ·unfold encI at Z;subst Z;have K:=Hk (show Qe7 ts=.ok (([],1,a,[]),ts') by rw[O.out,F];rfl);have y:=Hk (X2.out.but E (by omega));have H3:=Hk H;have B3:=Hk (B2.out.then E);clear F H E;have x0:=y.out.cell 0 rfl;have y0:=y.out.fz 0;have x1:=y.out.cell 1 rfl;have y1:=y.out.fz 1;have x2:=y.out.cell 2 rfl;have y2:=y.out.fz 2;have x3:=y.out.cell 3 rfl;have y3:=y.out.fz 3;have ap:=y.out.lt;have U:=Hk ((((H3.out.set (i:=0) (v:=.string ⟨#[]⟩) I).set (i:=1) (v:=.int .i64 1) I).set (i:=2) (v:=.int .i64 a) I).set (i:=3) (v:=.string ⟨#[]⟩) I);have V:=Hk ((((B3.out.put (Nat.le_refl _) (.string ⟨#[]⟩) (i:=0)).put (Nat.le_refl _) (.int .i64 1) (i:=1)).put (Nat.le_refl _) (.int .i64 a) (i:=2)).put (Nat.le_refl _) (.string ⟨#[]⟩) (i:=3));have D:=Hk ((((y.out.set 0 (.string ⟨#[]⟩)).set 1 (.int .i64 1)).set 2 (.int .i64 a)).set 3 (.string ⟨#[]⟩));have z0:=D.out.cell 0 rfl;have z1:=D.out.cell 1 rfl;have z2:=D.out.cell 2 rfl;have z3:=D.out.cell 3 rfl;clear D;go_wp2;refine bodyPost_ret (v:=.agg #[.string ⟨#[]⟩,.int .i64 1,.int .i64 a,.string ⟨#[]⟩]) (by simp[results,Tryz.results156,go_sem,z0,z1,z2,z3]) rfl ?_;exact⟨Or.inl ⟨_,_,_,K.out,rfl,rfl,U.out⟩,V.out⟩
    ·obtain⟨b',rfl,t0,t1,tB,tl⟩:=J;have K:=Hk (show Qe7 ts=.error er by rw[O.out,F];rfl);go_wp2;exact⟨rfl,Or.inr ⟨_,K.out,b',rfl,t0,t1,by first|omega|(simp at tB;omega),tl⟩,B2.out.then E⟩
theorem Tryz.infoStr:(Tryz.prog.info? 9).map (fun i=>(i.zero,i.size,i.bytes))=some (some (.string ⟨#[]⟩),1,16):=by kernel_rfl
theorem info_parts {P:Program} {t:TypeId} {z:Value} {s b:Nat} (h:(P.info? t).map (fun i=>(i.zero,i.size,i.bytes))=some (some z,s,b)):∃i,P.info? t=some i/\i.zero=some z/\i.size=s/\i.bytes=b:=by
 cases hi:P.info? t with
 |none=>rw[hi] at h;simp at h
 |some i=>rw[hi] at h;simp at h;exact⟨i,rfl,h.1,h.2.1,h.2.2⟩
theorem news1 (w:World) (v:Value) (t:TypeId) (H:Nat) (y:w.heap.size=H):∀j u,[v][j]? =some u->(w.alloc (.cells #[v] t)).cell? ((⟨H,0,none⟩:Addr).add j)=some u:=by
 intro j u h
 match j,h with
 |0,h=>simp at h;subst h;subst y;simp[Addr.add]
theorem one1t (s:ByteArray):∀u∈[Value.string s],u.oneCell'=true:=by intro u h;simp at h;subst h;rfl
theorem own_slice {w:World} {B:Nat} {e:TypeId} {z:Nat} {v:Value} {n:Nat} {xs:List Value} (h:w.ownsRow B e z v n xs):∃a c,v=.slice a n c:=by
 obtain⟨-,⟨rfl,y⟩|⟨g,E,D,rfl,-⟩⟩:=h
 ·exact⟨none,0,by rw[y]⟩
 ·exact⟨_,_,rfl⟩
theorem own_mono {w:World} {base B:Nat} {e:TypeId} {size:Nat} {v:Value} {n:Nat} {xs:List Value} (H:B<=base) (h:w.ownsRow base e size v n xs):w.ownsRow B e size v n xs:=by
 obtain⟨D,h|⟨g,E,y,F,I,r⟩⟩:=h
 ·exact⟨D,Or.inl h⟩
 ·exact⟨D,Or.inr ⟨g,E,y,F,by omega,r⟩⟩
theorem Qam {w w':World} {R base:Nat} {e:TypeId} {size:Nat} {v:Value} {n:Nat} {xs:List Value} (h:w.ownsRow base e size v n xs) (y:But R w w') (D:R<base):w'.ownsRow base e size v n xs:=
 h.kept y (by
  cases hk:v.ownBlock with
  |none=>exact Or.inl rfl
  |some k=>
   have:=h.lt k hk;exact Or.inr (by intro e;injection e with e;omega))
theorem Qbu (w:World) (B:Nat) (T:TypeId) (l:List Value) (z H:Nat) (h:l.length=z) (y:B<=w.heap.size) (D:H=w.heap.size):(w.alloc (.cells l.toArray T)).ownsRow B T z (.slice (some ⟨H,0,none⟩) 1 1) 1 l:=by
 subst D;refine⟨by omega,Or.inr ⟨w.heap.size,1,l.toArray,rfl,y,?_,Nat.le_refl _,by unfold maxLen;omega,by simp[h],by subst h;simp⟩⟩
 show(w.heap.push _)[w.heap.size]? =_
 simp
theorem But.grown {R:Nat} {w D E:World} {row:Option Nat} (h:But R w D) (y:D.grownBy E row) (F:∀k,row=some k->w.heap.size<=k):But R w E:=
 ⟨y.os.trans h.os,y.tape.trans h.tape,y.output.trans h.output,Nat.le_trans h.size y.size,fun i hi hne=>(y.block i (Nat.lt_of_lt_of_le hi h.size) (fun e=>by have:=F i e.symm;omega)).trans (h.block i hi hne)⟩
theorem RD.grown {w w':World} {R:Nat} {ts:List Tk} {row:Option Nat} (h:RD w R ts) (y:w.grownBy w' row) (J:∀k,row=some k->R<k):RD w' R ts:=by
 have H:=h.lt;have D:Below (R+1) w w':=⟨y.os,y.tape,y.output,y.size,fun k hk=>y.block k (by omega) (fun e=>by have:=J k e.symm;omega)⟩;obtain⟨b,o,c,K,I,E,F⟩:=h.cell;exact⟨⟨b,o,c,cK D (Nat.lt_succ_self R) K,I,E,fun j hj=>⟨(D.cell (p:=⟨b,o+j*3,none⟩) (Nat.lt_succ_of_lt E)).trans (F j hj).1,(D.cell (p:=⟨b,o+j*3+1,none⟩) (Nat.lt_succ_of_lt E)).trans (F j hj).2.1,(D.cell (p:=⟨b,o+j*3+2,none⟩) (Nat.lt_succ_of_lt E)).trans (F j hj).2.2⟩⟩,Nat.lt_of_lt_of_le H y.size,(D.frozen (p:=⟨R,0,none⟩) (Nat.lt_succ_self R)).trans h.fz,h.good,h.env.blocks y.size (fun g hg'=>D.block g (by have:=h.out g hg';omega)),h.out⟩
def Qcl (l:List By):List Value:=l.map fun x=>.string (ba x)
def QbK (B:Nat):List By->Value->World->Prop:=fun l v w'=>w'.ownsRow B 9 1 v l.length (Qcl l)
theorem Qh5 {ts ts':List Tk} {a:By} (h:Qbe ts=.ok (a,ts')):ts'=ts.tail:=by
 unfold Qbe at h;split at h
 ·cases h
 ·split at h
  ·cases h
  ·simp only[Except.ok.injEq,Prod.mk.injEq] at h;exact h.2.symm
theorem Qex (R:Nat) (ts:List Tk) (w:World) (h:RD w R ts):Calls Tryz.prog 115 #[.pointer (some ⟨R,0,none⟩)] w fun e w'=>Rs (Qcq ts) (QbK w.heap.size) e w.heap.size w' R/\But R w w':=by
 obtain⟨i0,hi,aD,aE,aF⟩:=info_parts Tryz.infoStr;have hR:=h.lt;have H:=Hk h;clear h;go_enter Tryz.func115,Tryz.ntmps115;go_wp2_with (go_at_call 112;fail);refine(Qav R ts w H.out).mono ?_;rintro e w1 ⟨⟨a,ad,v,F,rfl,hv,J⟩|⟨er,F,aa⟩,af⟩
 ·unfold encS at hv;subst hv;have aG:=af.size;have a6:=J.good.len;have HN:=Hk (show Qcq ts=Qew ad.length [a] ad by rw[Qcq,F];rfl);have ap:=Hk (J.below (Qaa w1 (.cells #[.string (ba a)] 9)));have aq:=Hk (af.box (.cells #[.string (ba a)] 9));have ah:=Hk (Qbu w1 w.heap.size 9 (Qcl [a]) 1 _ rfl aG rfl);clear F J af;go_wp2_with fail;generalize am:w1.alloc (.cells #[.string (ba a)] 9)=W1 at*;rw[show(Qcl [a]).toArray=#[.string (ba a)] from rfl,am] at ah;clear am
  go_loopg [3] ad.length (fun g l wr=>∃(acc:List By) (ts':List Tk) (n:Nat),ts'.length<=g/\n+ts'.length<=2000/\wr.ownsRow w.heap.size 9 1 l n (Qcl acc)/\Aside (n=acc.length/\RD wr R ts'/\But R w wr/\∃f,ts'.length<=f/\Qcq ts=Qew f acc ts'))
  case atStart=>exact⟨[a],ad,1,Nat.le_refl _,by omega,ah.out,rfl,ap.out,aq.out,_,Nat.le_refl _,HN.out⟩
  case round=>
   clear ah ap aq HN;obtain⟨acc,ts',n,hg,a5,Z,I⟩:=hrel;obtain⟨la,lc,rfl⟩:=own_slice Z;have HO:=Hk Z;clear Z
   by_cases hm:Qar ts'=[44]
   ·have HM:=Hk (Qcu [44] R ts' wr I.out.2.1 (by simp));rw[if_pos hm,show(Qar ts'==[44])=true by simp[hm]] at HM;obtain⟨f,O,U⟩:=I.out.2.2.2;obtain⟨t,r,y⟩:=I.out.2.1.good.ne;obtain⟨N,rfl⟩:∃N,f=N+1:=⟨f-1,by rw[y] at O;simp at O;omega⟩;have ao:=Hk (show Qcq ts=(Qbe ts'.tail).bind fun x=>Qew N (acc++[x.1]) x.2 by rw[U,Qew,if_pos hm]);have a2:ts'.tail.length+1=ts'.length:=by rw[y];simp
    have HF:=Hk (show ts'.length<=N+1 from O);clear hm O U y;go_wp2_with (go_at_call 114;fail);refine HM.out.mono ?_;rintro e w2 ⟨rfl,D,E⟩;have H2:=Hk D;have B2:=Hk (I.out.2.2.1.then E);have ar:=Qam HO.out E hR;clear D E;go_wp2_with (go_at_call 112;fail);refine(Qav R ts'.tail w2 H2.out).mono ?_;rintro e w3 ⟨⟨K,ac,v,F,rfl,hv,J⟩|⟨er,F,aa⟩,V⟩
    ·unfold encS at hv;subst hv;have a1:=(B2.out.then V).size;have H3:=Hk (J.below (Qaa w3 (.cells #[.string (ba K)] 9)));have B3:=Hk ((B2.out.then V).box (.cells #[.string (ba K)] 9));have O3:=Hk ((Qam ar V hR).alloc (.cells #[.string (ba K)] 9));have aL:=Hk (show Qcq ts=Qew N (acc++[K]) ac by rw[ao.out,F];rfl);have aN:=Hk (Qh5 F);have h3:=H2.out.good.ne;clear F J V ar;go_wp2_with (at_builtin;refine wpList_append_own _ rfl _ _ 44 rfl w.heap.size 9 i0 (.string ⟨#[]⟩) 1 16 Tryz.underlying44 hi aD aE aF rfl (by decide) _ _ _ rfl O3.out ⟨w3.heap.size,0,none⟩ 1 1 [.string (ba K)] rfl rfl (news1 _ _ _ _ rfl) (one1t _) ?c3 ?c4 ?c5 ?_)
     case c3=>unfold maxLen;omega
     case c4=>omega
     case c5=>simp;omega
     intro v' w5 ae M _;have ab:∀k,(Value.slice la n lc).ownBlock=some k->w.heap.size<=k:=fun k hk=>(O3.out.lt k hk).1
     have H5:=Hk (H3.out.grown M (fun k hk=>Nat.lt_of_lt_of_le hR (ab k hk)));have B5:=Hk (B3.out.grown M ab);have O5:=Hk (show w5.ownsRow w.heap.size 9 1 v' (n+1) (Qcl (acc++[K])) by rw[show Qcl (acc++[K])=Qcl acc++[.string (ba K)] by simp[Qcl]];exact ae);have aU:ac.length+1=ts'.tail.length:=by
      rw[aN.out];obtain⟨t,r,y⟩:=h3;rw[y];simp
     clear ae M ab h3;go_wp2
     go_roundg ac.length
     case measure=>omega
     case rel=>exact⟨acc++[K],ac,n+1,Nat.le_refl _,by omega,O5.out,by simp[I.out.1],H5.out,B5.out,N,by have:=HF.out;omega,aL.out⟩
    ·obtain⟨b',rfl,t0,t1,tB,tl⟩:=aa;have HP:=Hk (show Qcq ts=.error er by rw[ao.out,F];rfl);have a4:=B2.out.size;go_wp2;exact⟨rfl,Or.inr ⟨_,HP.out,b',rfl,t0,t1,by first|omega|(simp at tB;omega),tl⟩,B2.out.then V⟩
   ·have HM:=Hk (Qcu [44] R ts' wr I.out.2.1 (by simp));rw[if_neg hm,show(Qar ts'==[44])=false by simp[hm]] at HM;obtain⟨f,O,U⟩:=I.out.2.2.2;obtain⟨t,r,y⟩:=I.out.2.1.good.ne;obtain⟨N,rfl⟩:∃N,f=N+1:=⟨f-1,by rw[y] at O;simp at O;omega⟩;have HP:=Hk (show Qcq ts=.ok (acc,ts') by rw[U,Qew,if_neg hm]);clear hm O U y;go_wp2_with (go_at_call 114;fail);refine HM.out.mono ?_;rintro e w2 ⟨rfl,D,E⟩;have HE:=Hk (Ai D (Ai (I.out.2.2.1.then E) (Qam HO.out E hR)));clear D E;go_wp2;go_ret;exact⟨Or.inl ⟨_,_,_,HP.out,rfl,by unfold QbK;rw[<-I.out.1];exact HE.out.2.2,HE.out.1⟩,HE.out.2.1⟩
 ·obtain⟨b',rfl,t0,t1,tB,tl⟩:=aa;have HP:=Hk (show Qcq ts=.error er by rw[Qcq,F];rfl);go_wp2;exact⟨rfl,Or.inr ⟨_,HP.out,b',rfl,t0,t1,by first|omega|(simp at tB;omega),tl⟩,af⟩
def Le {α:Type} (r:PE α) (n:Nat):Prop:=∀a t,r=.ok (a,t)->t.length<=n
theorem Le.ok {α:Type} {a:α} {t:List Tk} {n:Nat} (h:t.length<=n):Le (.ok (a,t):PE α) n:=by
 intro D y e;simp only[Except.ok.injEq,Prod.mk.injEq] at e;rw[<-e.2];exact h
theorem Le.err {α:Type} {e:Int×Nat} {n:Nat}:Le (.error e:PE α) n:=by intro a t h;cases h
theorem Le.wrong {α:Type} {c:Int} {ts:List Tk} {n:Nat}:Le (wrongP c ts:PE α) n:=Le.err
theorem Le.bind {α β:Type} {r:PE α} {K:α×List Tk->PE β} {n m:Nat} (h:Le r m) (y:∀a t,t.length<=m->Le (K (a,t)) n):Le (r.bind K) n:=by
 cases r with
 |error e=>exact Le.err
 |ok x=>exact y x.1 x.2 (h x.1 x.2 rfl)
theorem Le.map {α β:Type} {r:PE α} {f:α->β} {n:Nat} (h:Le r n):Le (r.map fun x=>(f x.1,x.2)) n:=by
 cases r with
 |error e=>exact Le.err
 |ok x=>exact Le.ok (h x.1 x.2 rfl)
theorem Le.mono {α:Type} {r:PE α} {n m:Nat} (h:Le r n) (y:n<=m):Le r m:=fun a t e=>Nat.le_trans (h a t e) y
theorem Qck {ts:List Tk} {n:Nat} (h:ts.length<=n):ts.tail.length<=n:=by rw[List.length_tail];omega
theorem Qg4 (x:By) (ts:List Tk):Le (QbD x ts) (ts.length-1):=by
 unfold QbD;split
 ·exact Le.ok (by rw[List.length_tail];omega)
 ·exact Le.wrong
theorem Qa8 (x:By) {ts:List Tk} {n:Nat} (h:ts.length<=n):Le (QbD x ts) n:=(Qg4 x ts).mono (by omega)
theorem Qby {ts:List Tk} {n:Nat} (h:ts.length<=n):Le (Qbe ts) n:=by
 unfold Qbe;split
 ·exact Le.wrong
 ·split
  ·exact Le.wrong
  ·exact Le.ok (Qck h)
theorem QmG (m:Int) {ts:List Tk} {n:Nat} (h:ts.length<=n):Le (Qho m ts) n:=by
 unfold Qho;split
 ·exact Le.wrong
 ·split
  ·exact Le.wrong
  ·exact Le.ok (Qck h)
theorem Qqy {ts:List Tk} {n:Nat} (h:ts.length<=n):Le (QkU ts) n:=by
 unfold QkU;split
 ·exact Le.wrong
 ·split
  ·exact Le.wrong
  ·exact Le.ok (Qck h)
theorem QmH (xs:List By) {ts:List Tk} {n:Nat} (h:ts.length<=n):Le (Qc1 xs ts) n:=by
 unfold Qc1;split
 ·exact Le.ok (Qck h)
 ·exact Le.wrong
theorem QmI {ts:List Tk} {n:Nat} (h:ts.length<=n):Le (Qe7 ts) n:=by
 unfold Qe7;split
 ·exact Le.map (f:=fun x=>(x,0,0,[])) (Qby h)
 ·split
  ·exact Le.map (f:=fun x=>([],2,0,x)) (Qqy h)
  ·split
   ·exact Le.map (f:=fun x=>([],1,-x,[])) (QmG _ (Qck h))
   ·exact Le.map (f:=fun x=>([],1,x,[])) (QmG _ h)
theorem QmJ:∀(g:Nat) (acc:List By) (ts:List Tk) (n:Nat),ts.length<=n->Le (Qew g acc ts) n
 |0,acc,ts,n,h=>Le.ok h
 |g+1,acc,ts,n,h=>by
  unfold Qew;split
  ·exact Le.bind (Qby (Qck h)) (fun a t ht=>QmJ g _ t n ht)
  ·exact Le.ok h
theorem QjU {ts:List Tk} {n:Nat} (h:ts.length<=n):Le (Qcq ts) n:=Le.bind (Qby h) (fun a t ht=>QmJ _ _ t n ht)
theorem Qh8 {ts:List Tk} {n:Nat} (h:ts.length<=n):Le (Qbf ts) n:=Le.bind (Qby h) (fun a t ht=>by
 dsimp only
 split
 ·exact Le.ok (Qck ht)
 ·split
  ·exact Le.ok (Qck ht)
  ·exact Le.wrong)
theorem QmK:∀(g:Nat) (acc:List (By×Int)) (ts:List Tk) (n:Nat),ts.length<=n->Le (QfR g acc ts) n
 |0,acc,ts,n,h=>Le.ok h
 |g+1,acc,ts,n,h=>by
  unfold QfR;split
  ·exact Le.bind (Qh8 (Qck h)) (fun a t ht=>QmK g _ t n ht)
  ·exact Le.ok h
theorem Qos (ts:List Tk):Le (Qc2 ts) (ts.length-1):=
 Le.bind (Qg4 _ ts) fun _ _ h1=>Le.bind (Qby h1) fun _ _ h2=>Le.bind (Qa8 _ h2) fun _ _ h3=>Le.bind (Qh8 h3) fun _ _ h4=>Le.bind (QmK _ _ _ _ h4) fun _ _ h5=>Le.bind (Qa8 _ h5) fun _ _ h6=>Le.ok h6
theorem QkX (ts:List Tk):Le (Qbt ts) (ts.length-1):=
 Le.bind (Qg4 _ ts) fun _ _ h1=>Le.bind (Qby h1) fun _ _ h2=>Le.bind (Qa8 _ h2) fun _ _ h3=>Le.bind (Qby h3) fun _ _ h4=>Le.bind (Qa8 _ h4) fun _ _ h5=>Le.ok h5
theorem QpH {ts:List Tk} {n:Nat} (h:ts.length<=n):Le (Qci ts) n:=by
 unfold Qci;split
 ·exact Le.ok (Qck h)
 ·exact Le.wrong
theorem QpI (at_:Nat) (outs:List By) (retry:Int) {ts:List Tk} {n:Nat} (h:ts.length<=n):Le (Qca at_ outs retry ts) n:=
 Le.bind (QpH h) fun _ _ h1=>Le.bind (Qby h1) fun _ _ h2=>by
  dsimp only
  split
  ·exact Le.bind (Qa8 _ h2) fun _ _ h3=>Le.bind (Qby h3) fun _ _ h4=>Le.bind (QmH _ h4) fun _ _ h5=>Le.bind (QmI h5) fun _ _ h6=>Le.ok h6
  ·split
   ·exact Le.bind (Qa8 _ h2) fun _ _ h3=>Le.bind (Qby h3) fun _ _ h4=>Le.bind (Qa8 _ h4) fun _ _ h5=>Le.bind (QmI h5) fun _ _ h6=>Le.bind (QmH _ h6) fun _ _ h7=>Le.bind (QmI h7) fun _ _ h8=>Le.ok h8
   ·split
    ·exact Le.bind (Qa8 _ h2) fun _ _ h3=>Le.bind (QjU h3) fun _ _ h4=>Le.ok h4
    ·split
     ·exact Le.bind (Qa8 _ h2) fun _ _ h3=>Le.bind (Qby h3) fun _ _ h4=>Le.ok h4
     ·split
      ·exact Le.bind (Qa8 _ h2) fun _ _ h3=>Le.bind (Qby h3) fun _ _ h4=>Le.bind (Qa8 _ h4) fun _ _ h5=>Le.bind (Qby h5) fun _ _ h6=>Le.bind (Qa8 _ h6) fun _ _ h7=>Le.bind (Qby h7) fun _ _ h8=>Le.ok h8
      ·split
       ·exact Le.bind (Qa8 _ h2) fun _ _ h3=>Le.bind (Qby h3) fun _ _ h4=>Le.bind (QmH _ h4) fun _ _ h5=>Le.bind (Qby h5) fun _ _ h6=>Le.ok h6
       ·exact Le.ok h2
theorem Qot {ts:List Tk} {n:Nat} (h:ts.length<=n):Le (QfS ts) n:=by
 unfold QfS;split
 ·exact QmG _ (Qck h)
 ·exact Le.ok h
theorem Qqz (ts:List Tk):Le (QmA ts) (ts.length-1):=
 Le.bind (Qg4 _ ts) fun _ _ h1=>Le.bind (QjU h1) fun _ _ h2=>Le.bind (Qot h2) fun _ _ h3=>Le.bind (Qa8 _ h3) fun _ _ h4=>Le.bind (QpI _ _ _ h4) fun _ _ h5=>Le.bind (Qa8 _ h5) fun _ _ h6=>Le.ok h6
end Go.Proofs.YtjlgejennghhlaaGreatDoor.Fw
namespace Go.Proofs.YtjlgejennghhlaaGreatDoor.Dk
open Go.RowKit
abbrev Bs:=List UInt8
def bc (l:Bs):List Value:=l.map fun x=>Value.int .u8 (x.toNat:Int)
structure St where
 sure:List Bs
 ws:List (Nat×Bs)
 fuse:Int
def QqI (k:Nat):List (Nat×Bs)->Option Bs
 |[]=>none
 |x::r=>(QqI k r).or (if x.1=k then some x.2 else none)
def St.read (d:St) (k:Nat):Bs:=(QqI k d.ws).getD (d.sure[k]?.getD [])
structure Keep (X:List Nat) (w w':World):Prop where
 os:w'.os=w.os
 tape:w'.tape=w.tape
 output:w'.output=w.output
 size:w.heap.size<=w'.heap.size
 block:∀k,k<w.heap.size->k∉X->w'.heap[k]? =w.heap[k]?
theorem Keep.refl (X:List Nat) (w:World):Keep X w w:=⟨rfl,rfl,rfl,Nat.le_refl _,fun _ _ _=>rfl⟩
theorem Keep.of {X:List Nat} {w w':World} (h:Below w.heap.size w w'):Keep X w w':=⟨h.os,h.tape,h.output,h.size,fun k hk _=>h.block k hk⟩
theorem Keep.then {X Y:List Nat} {a b c:World} (h:Keep X a b) (k:Keep Y b c) (D:∀y∈Y,y∈X\/a.heap.size<=y):Keep X a c:=
 ⟨k.os.trans h.os,k.tape.trans h.tape,k.output.trans h.output,Nat.le_trans h.size k.size,fun i hi hne=>(k.block i (Nat.lt_of_lt_of_le hi h.size) (fun hy=>(D i hy).elim hne (fun q=>by omega))).trans (h.block i hi hne)⟩
theorem Keep.below {X:List Nat} {B:Nat} {w w':World} (h:Keep X w w') (y:∀x∈X,B<=x) (D:B<=w.heap.size):Below B w w':=
 ⟨h.os,h.tape,h.output,h.size,fun k hk=>h.block k (by omega) (fun hx=>by have:=y k hx;omega)⟩
theorem Keep.drew {X:List Nat} {w w':World} (h:Keep X w w'):Keep X w w'.drew:=⟨h.os,h.tape,h.output,h.size,h.block⟩
theorem Keep.set {X:List Nat} {w w':World} (h:Keep X w w') (R o:Nat) (v:Value) (y:R∈X\/w.heap.size<=R):Keep X w (w'.setCell ⟨R,o,none⟩ v):=
 ⟨h.os,h.tape,h.output,by have:=h.size;simp[World.setCell];omega,fun k hk hne=>(Below.heap_setCell _ _ _ _ (by rintro rfl;exact y.elim hne (fun q=>by omega))).trans (h.block k hk hne)⟩
theorem Keep.sets {X:List Nat} {R:Nat}:∀(y:List Value) (o:Nat) {w w':World},Keep X w w'->(R∈X\/w.heap.size<=R)->Keep X w (w'.setCells R o y)
 |[],_,_,_,h,_=>h
 |v::r,o,w,w',h,hR=>by rw[World.setCells];exact Keep.sets r (o+1) (h.set R o v hR) hR
theorem Keep.alloc {X:List Nat} {w w':World} (h:Keep X w w') (o:Obj):Keep X w (w'.alloc o):=
 ⟨h.os,h.tape,h.output,by have:=h.size;simp;omega,fun k hk hne=>(Below.heap_alloc _ _ _ (by have:=h.size;omega)).trans (h.block k hk hne)⟩
theorem Keep.grown {X:List Nat} {w w' D:World} {row:Option Nat} (h:Keep X w w') (y:w'.grownBy D row) (E:∀r,row=some r->r∈X\/w.heap.size<=r):Keep X w D:=
 ⟨y.os.trans h.os,y.tape.trans h.tape,y.output.trans h.output,Nat.le_trans h.size y.size,fun k hk hne=>(y.block k (Nat.lt_of_lt_of_le hk h.size) (fun e=>(E k e.symm).elim hne (fun q=>by omega))).trans (h.block k hk hne)⟩
def Blk (w:World) (k:Nat) (vs:List Value):Prop:=∃T,w.heap[k]? =some (.cells vs.toArray T (0,0))
theorem Blk.lt {w:World} {k:Nat} {D:List Value} (h:Blk w k D):k<w.heap.size:=by
 obtain⟨T,h⟩:=h;rcases Nat.lt_or_ge k w.heap.size with y|y
 ·exact y
 ·rw[Array.getElem?_eq_none y] at h;simp at h
theorem Blk.cell {w:World} {k:Nat} {y:List Value} (h:Blk w k y) (i:Nat) {v:Value} (D:y[i]? =some v):w.cell? ⟨k,i,none⟩=some v:=by
 obtain⟨T,h⟩:=h;simp[World.cell?,h,D]
theorem Blk.fz {w:World} {k:Nat} {y:List Value} (h:Blk w k y) (i:Nat):w.frozen? ⟨k,i,none⟩=false:=by
 obtain⟨T,h⟩:=h;simp[World.frozen?,h]
theorem Blk.range {w:World} {k o:Nat} {y us:List Value} (h:Blk w k y) (D:∀j v,us[j]? =some v->y[o+j]? =some v):w.rangeAt k o us:=fun j v hv=>h.cell _ (D j v hv)
theorem Blk.there {w:World} {k o n:Nat} {y:List Value} (h:Blk w k y) (D:o+n<=y.length):w.there k o n:=fun j hj=>by
 rw[h.cell (o+j) (List.getElem?_eq_getElem (by omega)),h.fz];exact⟨rfl,rfl⟩
theorem Blk.block {w w':World} {k:Nat} {y:List Value} (h:Blk w k y) (D:w'.heap[k]? =w.heap[k]?):Blk w' k y:=by
 obtain⟨T,h⟩:=h;exact⟨T,D.trans h⟩
theorem Blk.below {w w':World} {k:Nat} {y:List Value} (h:Blk w k y) (D:Below w.heap.size w w'):Blk w' k y:=h.block (D.block k h.lt)
theorem Blk.grown {w w':World} {row:Option Nat} {k:Nat} {y:List Value} (h:Blk w k y) (E:w.grownBy w' row) (D:some k≠row):Blk w' k y:=h.block (E.block k h.lt D)
theorem Blk.new (w:World) (h:List Value) (T:TypeId) (k:Nat) (y:k=w.heap.size):Blk (w.alloc (.cells h.toArray T)) k h:=by
 subst y;exact⟨T,by show(w.heap.push _)[w.heap.size]? =_;simp⟩
theorem Blk.alloc {w:World} {k:Nat} {y:List Value} (h:Blk w k y) (o:Obj):Blk (w.alloc o) k y:=h.block (Below.heap_alloc _ _ _ h.lt)
theorem Blk.set {w:World} {k:Nat} {y:List Value} (h:Blk w k y) (i:Nat) (v:Value):Blk (w.setCell ⟨k,i,none⟩ v) k (y.set i v):=by
 obtain⟨T,h⟩:=h;exact⟨T,by simp[World.setCell,Array.getElem?_modify,h]⟩
theorem Blk.other {w:World} {k k':Nat} {y:List Value} (h:Blk w k y) (i:Nat) (v:Value) (D:k≠k'):Blk (w.setCell ⟨k',i,none⟩ v) k y:=h.block (Below.heap_setCell _ _ _ _ D)
def QpW (vs:List Value):Nat->List Value->List Value
 |_,[]=>vs
 |o,u::r=>QpW (vs.set o u) (o+1) r
theorem Blk.sets {k:Nat}:∀(us:List Value) (o:Nat) {w:World} {y:List Value},Blk w k y->Blk (w.setCells k o us) k (QpW y o us)
 |[],_,_,_,h=>h
 |u::r,o,w,y,h=>by rw[World.setCells,QpW];exact Blk.sets r (o+1) (h.set o u)
def blocks (D S:Nat) (vw:Value):List Nat:=D::S::vw.ownBlock.toList
theorem hid {p:Prop} (h:p):Hid p:=h
theorem ret_bool {a b:Bool} (h:a=b):Ending.returned (.bool a)=.returned (.bool b):=by rw[h]
end Go.Proofs.YtjlgejennghhlaaGreatDoor.Dk
