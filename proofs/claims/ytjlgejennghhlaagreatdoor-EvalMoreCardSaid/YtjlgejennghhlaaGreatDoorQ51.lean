import Derived.Deep.RegionHeldLaw
import Derived.Laws.AppendOwnNone
import Derived.Test.YtjlgejennghhlaaGreatDoorQ01
import Derived.Test.YtjlgejennghhlaaGreatDoorQ49
set_option linter.unusedSimpArgs false
set_option linter.unusedVariables false
set_option linter.unusedSectionVars false
set_option maxRecDepth 1000000
set_option maxHeartbeats 16000000
namespace Go.Proofs.YtjlgejennghhlaaGreatDoor.Pl
open Go.RowKit Go.Maps Go.Shelf
open Fw (By FJob Flw ba Qck QbH zeroJ)
def QqK (f:Flw) (nm:By) (w:World) (e:Ending) (w':World):Prop:=Below w.heap.size w w'/\
 ((∃i0 vi gv vo,f.ins[0]? =some i0/\f.jobs.length<16/\nm∉Qaw f/\e=.returned (.tuple #[.agg #[vi,gv,vo],.bool true])/\Fw.FlowRd w' (QbW f i0.name nm) vi gv vo)\/
  ∃a1 n1 c1 a2 n2 c2 a3 n3 c3,e=.returned (.tuple #[.agg #[.slice a1 n1 c1,.slice a2 n2 c2,.slice a3 n3 c3],.bool false]))
theorem QoX (f:Flw) (nm:By):((f.ins.any fun i=>i.name==nm)||(f.jobs.any fun j=>j.outs.contains nm))=true↔nm∈Qaw f:=by
 unfold Qaw;rw[Bool.or_eq_true,List.mem_append,List.any_eq_true,List.any_eq_true,List.mem_map,List.mem_flatMap];refine or_congr ?_ ?_
 ·refine exists_congr fun i=>and_congr Iff.rfl ?_
  exact beq_iff_eq
 ·refine exists_congr fun j=>and_congr Iff.rfl ?_
  exact List.contains_iff_mem
theorem Qej {V:World} {R B:Nat} {a b c:Value} (h:Fw.Box V R [.slice none 0 0,.slice none 0 0,.slice none 0 0]) {w:World} (D:Below B w V) (y:B<=R):Qcc (((V.setCell ⟨R,0,none⟩ a).setCell ⟨R,1,none⟩ b).setCell ⟨R,2,none⟩ c) R a b c/\Below B w (((V.setCell ⟨R,0,none⟩ a).setCell ⟨R,1,none⟩ b).setCell ⟨R,2,none⟩ c):=by
 have X:=((h.set 0 a).set 1 b).set 2 c;exact⟨⟨X.cell 0 rfl,X.cell 1 rfl,X.cell 2 rfl⟩,((D.setCell (p:=⟨R,0,none⟩) y _).setCell (p:=⟨R,1,none⟩) y _).setCell (p:=⟨R,2,none⟩) y _⟩
theorem Qdk {w:World} {k q i:Nat} {D:List Value} {u:Value} (h:Fw.Box w k D) (y:q≠k):Fw.Box (w.setCell ⟨q,i,none⟩ u) k D:=by
 refine h.block ?_;simp[World.setCell,Array.getElem?_modify,y]
theorem Qrr {F M y K W J:World} {R h:Nat} {vi vj Z gv:Value} (hR:R=F.heap.size) (H:Below F.heap.size F M) (D:Below M.heap.size M K) (I:Below K.heap.size K W) (ai:y.heap.size<K.heap.size) (ag:M.heap.size<=y.heap.size) (ae:Fw.Box K y.heap.size [vi,vj,Z]) (O:Fw.Box M R [.slice none 0 0,.slice none 0 0,.slice none 0 0]) (U:W.grownBy J (some h)) (hh:K.heap.size<=h):
 Qcc (J.setCell ⟨y.heap.size,1,none⟩ gv) y.heap.size vi gv Z/\Fw.Box (J.setCell ⟨y.heap.size,1,none⟩ gv) R [.slice none 0 0,.slice none 0 0,.slice none 0 0]/\Below F.heap.size F (J.setCell ⟨y.heap.size,1,none⟩ gv):=by
 have ah:=O.lt;have af:Fw.Box J y.heap.size [vi,vj,Z]:=(ae.below I).grown U (by intro e;injection e with e;omega);have V:Fw.Box J R [.slice none 0 0,.slice none 0 0,.slice none 0 0]:=((O.below D).below I).grown U (by intro e;injection e with e;have:=D.size;omega);have N:=bel_then H (bel_then D I);have aa:Below F.heap.size F J:=N.grown U N.size (fun q hq=>by injection hq with hq;have:=D.size;have:=H.size;omega);have hx:=af.set 1 gv;exact⟨⟨hx.cell 0 rfl,hx.cell 1 rfl,hx.cell 2 rfl⟩,Qdk V (by omega),aa.setCell (p:=⟨y.heap.size,1,none⟩) (by show F.heap.size<=y.heap.size;have:=H.size;omega) gv⟩
theorem QeZ {P:Program} {ac:Array Oper} {o:Oper} {a:Act} {w:World} {K:Act->World->Prop} {Q:Exit->Act->World->Prop} {E:Prop} (O:o.guard=none) (s x:Operand) (t:TypeId)
 (ho:o.op=.call {callee:=.builtin .append,args:=#[s,x],argTypes:=#[t,t]})
 (base:Nat) (e:TypeId) (i:TypeInfo) (z:Value) (size D:Nat) (Z:P.underlying t=some (.slice e)) (hi:P.info? e=some i) (hz:i.zero=some z)
 (I:i.size=size) (af:i.bytes=D) (ak:z.cells.size=size) (ab:0<size)
 (v:Value) (n:Nat) (xs:List Value) (hs:a.eval s=v) (F:w.ownsRow base e size v n xs)
 (U:Option Addr) (m c:Nat) (y:List Value) (hx:a.eval x=.slice U m c) (hl:y.length=m*size) (hj:(∃M,U=some M/\∀j u,y[j]? =some u->w.cell? (M.add j)=some u)\/(U=none/\m=0/\c=0)) (h1:∀u∈y,u.oneCell'=true)
 (aa:n+m<=maxLen) (H:(n+m)*D<=140737488355328) (J:base<=w.heap.size)
 (h:∀v' w',w'.ownsRow base e size v' (n+m) (xs++y)->w.grownBy w' v.ownBlock->K (a.put o.dst v') w'):
 if Region.wanted o (yielded ac a.tmps)=true then Oper.wp P o a w K Q else E:=by
 rcases hj with ⟨M,rfl,N⟩|⟨rfl,rfl,rfl⟩
 ·exact Qf8 O s x t ho base e i z size D Z hi hz I af ak ab v n xs hs F M m c y hx hl N h1 aa H J (fun v' w' a b _=>h v' w' a b)
 ·obtain rfl:y=[]:=List.eq_nil_of_length_eq_zero (by rw[hl];omega);rw[if_pos (by simp[Region.wanted,O])];have V:=run_append_owned_none (P:=P) (w:=w) base t o.type e i size Z hi v n xs F;have hk:=h v w (by rw[List.append_nil];exact F) ⟨rfl,rfl,rfl,Nat.le_refl _,fun _ _ _=>rfl⟩;unfold Oper.wp;simp[execOp,ho,resolve,invoke,builtin,hs,hx,V,Result.andThen];exact hk
theorem Qj2 {w:World} {g:Nat} {n:By} (h:Fw.Box w g [.string (ba n)]):Fw.StrsR w (.slice (some ⟨g,0,none⟩) 1 1) [n]:=by
 refine Or.inr ⟨g,0,1,rfl,Nat.le_refl _,h.lt,fun j hj=>?_⟩;have:j=0:=by simp at hj;omega
 subst this;exact h.cell 0 rfl
theorem Qpl {K M D y W J:World} {R h b ob sb:Nat} {I vj H gv:Value} {f:Flw} {a nm:By} {F:Nat->List Value} (hR:R=K.heap.size) (ac:Below K.heap.size K M) (N:Below M.heap.size M y) (ad:Below y.heap.size y W) (aa:D.heap.size<y.heap.size) (af:M.heap.size<=D.heap.size) (ak:Fw.Box y D.heap.size [I,vj,H]) (V:Fw.Box M R [.slice none 0 0,.slice none 0 0,.slice none 0 0]) (hg:W.grownBy J (some h)) (hh:h=y.heap.size+1+1)
 (U:y.heap.size<=ob/\ob<=y.heap.size+1) (ab:y.heap.size<=sb/\sb<=y.heap.size+1) (ai:Fw.Box W ob [.string (ba nm)]) (am:Fw.Box W sb [.string (ba a)])
 (ho:J.ownsRow y.heap.size 50 15 gv (f.jobs.length+1) (Fw.jobV (QdC a nm) (.slice (some ⟨ob,0,none⟩) 1 1) (.slice (some ⟨sb,0,none⟩) 1 1) (.slice none 0 0)++(List.range' 0 f.jobs.length).flatMap F))
 (hF:∀j,j<f.jobs.length->JC K b f.jobs j (F j)) (al:Fw.RowR K I f.ins.length 3 (Fw.InAt f.ins)) (ae:Fw.RowR K H f.outs.length 3 (Fw.OutAt f.outs)):
 (Qcc (J.setCell ⟨D.heap.size,1,none⟩ gv) D.heap.size I gv H/\Fw.Box (J.setCell ⟨D.heap.size,1,none⟩ gv) R [.slice none 0 0,.slice none 0 0,.slice none 0 0])/\
 Qcc ((((J.setCell ⟨D.heap.size,1,none⟩ gv).setCell ⟨R,0,none⟩ I).setCell ⟨R,1,none⟩ gv).setCell ⟨R,2,none⟩ H) R I gv H/\Below K.heap.size K ((((J.setCell ⟨D.heap.size,1,none⟩ gv).setCell ⟨R,0,none⟩ I).setCell ⟨R,1,none⟩ gv).setCell ⟨R,2,none⟩ H)/\
 Fw.FlowRd ((((J.setCell ⟨D.heap.size,1,none⟩ gv).setCell ⟨R,0,none⟩ I).setCell ⟨R,1,none⟩ gv).setCell ⟨R,2,none⟩ H) (QbW f a nm) I gv H:=by
 have aw:=V.lt;obtain⟨ag,Z,aj⟩:=Qrr (gv:=gv) hR ac N ad aa af ak V hg (by omega);obtain⟨hz,O⟩:=Qej (a:=I) (b:=gv) (c:=H) Z aj (Nat.le_of_eq hR.symm);have hs:=N.size;have keep:∀k vs,y.heap.size<=k->k<=y.heap.size+1->Fw.Box W k vs->Fw.Box ((((J.setCell ⟨D.heap.size,1,none⟩ gv).setCell ⟨R,0,none⟩ I).setCell ⟨R,1,none⟩ gv).setCell ⟨R,2,none⟩ H) k vs:=fun k vs h1 h2 hk=>by
  have h8:Fw.Box J k vs:=hk.grown hg (by intro e;injection e with e;omega);exact Qdk (Qdk (Qdk (Qdk h8 (by omega)) (by omega)) (by omega)) (by omega)
 refine⟨⟨ag,Z⟩,hz,O,Qnm (B:=y.heap.size) hF al ae O (Qj2 (keep _ _ U.1 U.2 ai)) (Qj2 (keep _ _ ab.1 ab.2 am)) ?_⟩;exact ownsRow_setCell_below (ownsRow_setCell_below (ownsRow_setCell_below (ownsRow_setCell_below ho (a:=⟨D.heap.size,1,none⟩) aa gv) (a:=⟨R,0,none⟩) (by show R<_;omega) I) (a:=⟨R,1,none⟩) (by show R<_;omega) gv) (a:=⟨R,2,none⟩) (by show R<_;omega) H
theorem QoY {w:World} {p:Addr} {v:Value} (h:w.drew.cell? p=some v):(∀o,(w.alloc o).drew.cell? p=some v)/\(∀o o',((w.alloc o).alloc o').drew.cell? p=some v)/\∀o o' o'',(((w.alloc o).alloc o').alloc o'').drew.cell? p=some v:=by
 have D:w.cell? p=some v:=h;have y:∀(V:World) o,V.cell? p=some v->(V.alloc o).cell? p=some v:=fun V o hV=>cell_below hV (Qaa _ _)
 exact⟨fun o=>y _ o D,fun o o'=>y _ o' (y _ o D),fun o o' o''=>y _ o'' (y _ o' (y _ o D))⟩
theorem QoZ (f:Flw) (vi vj vo:Value) (nm:By) (w:World) (h:Fw.FlowRd w f vi vj vo) (hf:Fw.FlwOK f) (hn:nm.length<=40):
 Calls Tryz.prog 15 #[.agg #[vi,vj,vo],.string (ba nm)] w fun e w'=>QqK f nm w e w':=by
 obtain⟨i0,hi,ca,ct,ck⟩:=info_parts Fw.Tryz.infoJob;obtain⟨ia,ic,rfl⟩:=row_slice h.ins;obtain⟨N,U,rfl⟩:=row_slice h.jobs;obtain⟨oa,oc,rfl⟩:=row_slice h.outs;obtain⟨J,hJ⟩:∃J,f.jobs.length=J:=⟨_,rfl⟩;obtain⟨I,hI⟩:∃I,f.ins.length=I:=⟨_,rfl⟩;have cH:J<=16:=by rw[<-hJ];exact hf.jl
 have cL:I<=16:=by rw[<-hI];exact hf.il
 have HJ:=Hk hJ;have HI:=Hk hI;rw[hJ,hI] at h⊢;have b4:(ba nm).size<=maxLen:=by show nm.toArray.size<=_;unfold maxLen;simp;omega
 have az:Hid (∀V,Calls Tryz.prog 32 #[.string (ba nm)] V fun e w'=>e=.returned (.bool (Qek nm))/\Below V.heap.size V w'):=Hk fun V=>by
  have:=Qi9 (ba nm) V b4;rwa[show(ba nm).data.toList=nm by simp[ba]] at this
 obtain⟨w1,bz⟩:∃x,w.alloc (.cells #[.slice ia I ic,.slice N J U,.slice oa f.outs.length oc] 29)=x:=⟨_,rfl⟩;have au:Below w.heap.size w w1:=by rw[<-bz];exact Qaa _ _
 have bI:Qcc w1 w.heap.size (.slice ia I ic) (.slice N J U) (.slice oa f.outs.length oc):=by rw[<-bz];exact Qcc.new _ _ _ _ _
 obtain⟨w2,bw⟩:∃x,w1.alloc (.cells #[.string (ba nm)] 9)=x:=⟨_,rfl⟩;have ay:Below w1.heap.size w1 w2:=by rw[<-bw];exact Qaa _ _
 have bA:w2.cell? ⟨w1.heap.size,0,none⟩=some (.string (ba nm)):=by rw[<-bw];exact(Fw.Box.new w1 [.string (ba nm)] _ _ rfl).cell 0 rfl
 obtain⟨w3,bG⟩:∃x,w2.alloc (.cells #[.slice none 0 0,.slice none 0 0,.slice none 0 0] 29)=x:=⟨_,rfl⟩;have aM:Below w2.heap.size w2 w3:=by rw[<-bG];exact Qaa _ _
 have ah:Fw.Box w3 w2.heap.size [.slice none 0 0,.slice none 0 0,.slice none 0 0]:=by rw[<-bG];exact Fw.Box.new w2 _ _ _ rfl
 have aK:=bel_then ay aM;have aG:=bel_then au aK;have hR:w.heap.size<=w2.heap.size:=(bel_then au ay).size;have HR:=Hk hR;have HB:=Hk aG;have HX:=Hk ah;have HF:=Hk (bI.below aK);have aw:=Hk (cell_below bA aM);have HH:=Hk (Ai (h.below aG) hf);have aD:=Hk (h.below (bel_then au ay));have aH:=Hk aM;have a6:=Hk (bel_then au ay);have g1:=HF.out.1;have g2:=HF.out.2.1;have g3:=HF.out.2.2;have g4:=aw.out;have k0:=ah.cell 0 (v:=.slice none 0 0) rfl;have k1:=ah.cell 1 (v:=.slice none 0 0) rfl;have k2:=ah.cell 2 (v:=.slice none 0 0) rfl;have l0:=ah.fz 0;have l1:=ah.fz 1;have l2:=ah.fz 2;generalize f.outs.length=O at*;generalize hx:ba nm=x at*;clear h hf hJ hI au bI ay bA aM ah aK aG hR
 by_cases h0:I=0
 ·have cu:(I:Int)=0:=by omega
  clear h0;go_enter Tryz.func15,Tryz.ntmps15;go_wp2;obtain⟨z,B2⟩:=Qej (a:=.slice ia I ic) (b:=.slice N J U) (c:=.slice oa O oc) HX.out HB.out HR.out;have z0:=z.1;have z1:=z.2.1;have z2:=z.2.2;refine bodyPost_ret (v:=.tuple #[.agg #[.slice ia I ic,.slice N J U,.slice oa O oc],.bool false]) (by simp[results,Tryz.results15,go_sem,z0,z1,z2]) rfl ?_;exact⟨B2,Or.inr ⟨_,_,_,_,_,_,_,_,_,rfl⟩⟩
 have cu:¬(I:Int)=0:=by omega
 by_cases h16:16<=J
 ·have bT:(16:Int)<=(J:Int):=by omega
  go_enter Tryz.func15,Tryz.ntmps15;go_wp2;obtain⟨z,B2⟩:=Qej (a:=.slice ia I ic) (b:=.slice N J U) (c:=.slice oa O oc) HX.out HB.out HR.out;have z0:=z.1;have z1:=z.2.1;have z2:=z.2.2;refine bodyPost_ret (v:=.tuple #[.agg #[.slice ia I ic,.slice N J U,.slice oa O oc],.bool false]) (by simp[results,Tryz.results15,go_sem,z0,z1,z2]) rfl ?_;exact⟨B2,Or.inr ⟨_,_,_,_,_,_,_,_,_,rfl⟩⟩
 have bT:¬(16:Int)<=(J:Int):=by omega
 cases hnb:Qek nm
 ·rw[hnb] at az;clear hnb;go_enter Tryz.func15,Tryz.ntmps15;go_wp2_with (first|(go_at_call 32;refine(az.out _).mono ?_;rintro e4 w4 ⟨rfl,M⟩;have ak:=Hk (bel_then HB.out M);have al:=Hk (HX.out.below M);have D:=HF.out.below M;have q1:=D.1;have q2:=D.2.1;have q3:=D.2.2;have c0:=al.out.cell 0 (v:=.slice none 0 0) rfl;have c1:=al.out.cell 1 (v:=.slice none 0 0) rfl;have c2:=al.out.cell 2 (v:=.slice none 0 0) rfl;have d0:=al.out.fz 0;have d1:=al.out.fz 1;have d2:=al.out.fz 2;clear M D));obtain⟨z,B2⟩:=Qej (a:=.slice ia I ic) (b:=.slice N J U) (c:=.slice oa O oc) al.out ak.out HR.out;have z0:=z.1;have z1:=z.2.1;have z2:=z.2.2;refine bodyPost_ret (v:=.tuple #[.agg #[.slice ia I ic,.slice N J U,.slice oa O oc],.bool false]) (by simp[results,Tryz.results15,go_sem,z0,z1,z2]) rfl ?_;exact⟨B2,Or.inr ⟨_,_,_,_,_,_,_,_,_,rfl⟩⟩
 ·rw[hnb] at az;clear hnb;obtain⟨b1,bg⟩:∃b,(f.ins.any fun i=>i.name==nm)=b:=⟨_,rfl⟩;obtain⟨b2,a2⟩:∃b,(f.jobs.any fun j=>j.outs.contains nm)=b:=⟨_,rfl⟩;have bO:Hid (∀V,Below w3.heap.size w3 V->Calls Tryz.prog 33 #[.slice ia I ic,.func (.func 34) #[] #[.pointer (some ⟨w1.heap.size,0,none⟩)]] V fun e w'=>e=.returned (.bool b1)/\Below V.heap.size V w'):=Hk fun V hV=>by
   rw[<-bg];exact Qni _ f.ins nm _ V (HH.out.1.below hV).ins (by rw[HI.out];omega) (by rw[hx];exact cell_below aw.out hV)
  have cq:Hid (∀V,Below w3.heap.size w3 V->Calls Tryz.prog 35 #[.slice N J U,.func (.func 36) #[] #[.pointer (some ⟨w1.heap.size,0,none⟩)]] V fun e w'=>e=.returned (.bool b2)/\Below V.heap.size V w'):=Hk fun V hV=>by
   rw[<-a2];exact Qnl f _ _ _ nm _ V (HH.out.1.below hV) HH.out.2 (by rw[hx];exact cell_below aw.out hV)
  have cv:Hid ((b1||b2)=true↔nm∈Qaw f):=Hk (by rw[<-bg,<-a2];exact QoX f nm);have cV:=mkF;have aW:0<f.ins.length:=by rw[HI.out];omega
  obtain⟨i1,a0⟩:∃i1,f.ins[0]? =some i1:=⟨_,List.getElem?_eq_getElem aW⟩;have b7:=Hk a0;rcases HH.out.1.ins with ⟨-,e0⟩|⟨ib,cU,e0,bm,bH,aF⟩
  ·rw[HI.out] at e0;exact absurd e0 h0
  rw[HI.out] at e0;simp only[Value.slice.injEq,true_and] at e0;obtain⟨rfl,rfl⟩:=e0;obtain⟨ce,cF,bd,-,a3,-⟩:=aF 0 aW;obtain rfl:i1=ce:=Option.some.inj (a0.symm.trans bd);have cj:=Hk a3;have bB:=Hk bH;clear bg a2 a0 bd a3 aF bm bH aW
  cases b1
  case' false=>
   go_enter Tryz.func15,Tryz.ntmps15;go_wp2_with (first|(go_at_call 32;refine(az.out _).mono ?_;rintro e4 w4 ⟨rfl,M⟩;have ak:=Hk M;have D:=HF.out.below M;have q1:=D.1;have q2:=D.2.1;have q3:=D.2.2;clear M D)|(go_at_call 33;refine(bO.out _ ak.out).mono ?_;rintro e5 w5 ⟨rfl,bL⟩;have bf:=Hk (bel_then ak.out bL);have aP:=HF.out.below bf.out;have r1:=aP.1;have r2:=aP.2.1;have r3:=aP.2.2;clear bL aP)|(go_at_call 35;fail));refine(cq.out _ bf.out).mono ?_;rintro e6 Z ⟨rfl,aA⟩;have K:=bel_then bf.out aA;clear aA
  case' true=>
   go_enter Tryz.func15,Tryz.ntmps15;go_wp2_with (first|(go_at_call 32;refine(az.out _).mono ?_;rintro e4 w4 ⟨rfl,M⟩;have ak:=Hk M;have D:=HF.out.below M;have q1:=D.1;have q2:=D.2.1;have q3:=D.2.2;clear M D)|(go_at_call 33;fail));refine(bO.out _ ak.out).mono ?_;rintro e6 Z ⟨rfl,aA⟩;have K:=bel_then ak.out aA;clear aA
  all_goals
   have aN:=HF.out.below K;have p1:=aN.1;have p2:=aN.2.1;have p3:=aN.2.2;obtain⟨H,bM⟩:∃y,Z.alloc (.cells #[.slice (some ⟨ib,0,none⟩) I ic,.slice N J U,.slice oa O oc] 29)=y:=⟨_,rfl⟩;have aI:Below Z.heap.size Z H:=by rw[<-bM];exact Qaa _ _
   have a7:Fw.Box H Z.heap.size [.slice (some ⟨ib,0,none⟩) I ic,.slice N J U,.slice oa O oc]:=by rw[<-bM];exact Fw.Box.new Z _ _ _ rfl
   have b0:Fw.Box H.drew Z.heap.size [.slice (some ⟨ib,0,none⟩) I ic,.slice N J U,.slice oa O oc]:=a7.block rfl;have ap:Below w3.heap.size w3 H.drew:=bel_then K aI.drew;have aX:=HF.out.below ap;have t1:=aX.1;have t2:=aX.2.1;have t4:=cell_below aw.out ap;have t5:H.drew.cell? ⟨ib,1,none⟩=some (.string (ba i1.name)):=cK ap bB.out cj.out;have b9:Hid (w.heap.size<Z.heap.size/\w1.heap.size<Z.heap.size/\ib<Z.heap.size):=Hk ⟨Nat.lt_of_lt_of_le HF.out.lt K.size,Nat.lt_of_lt_of_le (World.block_lt_of_cell? _ _ aw.out) K.size,Nat.lt_of_lt_of_le bB.out K.size⟩;have aO:=Hk a7;have a5:=Hk K;have a9:=Hk (show Below w3.heap.size w3 H from bel_then K aI);generalize hy:ba i1.name=y at*;clear K aN aI a7 b0 ap aX g1 g2 g3 g4 k0 k1 k2 l0 l1 l2;obtain⟨F,hF,hu⟩:∃F:Nat->List Value,(∃b,∀j,j<J->JC w2 b f.jobs j (F j))/\((List.range' 0 J).flatMap F).length=J*15/\(∀u∈(List.range' 0 J).flatMap F,u.oneCell'=true)/\∀V,Below w3.heap.size w3 V->(∃ad,N=some ad/\∀j u,((List.range' 0 J).flatMap F)[j]? =some u->V.cell? (ad.add j)=some u)\/(N=none/\J=0/\U=0):=by
    rcases aD.out.jobs with ⟨e1,e0⟩|⟨jb,cT,e0,bs,ci,av⟩
    ·rw[HJ.out] at e0;simp only[Value.slice.injEq] at e1;obtain⟨rfl,-,rfl⟩:=e1;subst e0;exact⟨fun _=>[],⟨0,fun j hj=>absurd hj (by omega)⟩,rfl,by simp,fun V hV=>Or.inr ⟨rfl,rfl,rfl⟩⟩
    ·rw[HJ.out] at e0 bs av;simp only[Value.slice.injEq,true_and] at e0;obtain⟨rfl,rfl⟩:=e0;obtain⟨F,hF⟩:=Qk8 av;obtain⟨u1,u2,u3⟩:=Qk9 (s:=0) (m:=J) hF (by omega);refine⟨F,⟨jb,hF⟩,u1,u3,fun V hV=>Or.inl ⟨_,rfl,fun j u hu=>?_⟩⟩;rw[Addr.add_mid];exact((bel_then aH.out hV).cell (p:=⟨jb,0+j,none⟩) ci).trans (by have:=u2 j u hu;rwa[Nat.zero_mul] at this)
   ·obtain⟨fb,hF⟩:=hF;obtain⟨u1,u3,u2⟩:=hu;have bQ:=Hk hF;have b8:=Hk u1;have cd:=Hk u2;have cg:=Hk u3;clear hF u1 u2 u3;have s0:0<I:=by omega
    obtain⟨bv,bC,aV⟩:=QoY t1;obtain⟨bK,bF,aY⟩:=QoY t2;obtain⟨bJ,bP,a1⟩:=QoY t4;obtain⟨bN,bE,a4⟩:=QoY t5;go_wp2;have L1:w.heap.size<H.heap.size:=World.block_lt_of_cell? H ⟨w.heap.size,0,none⟩ t1;have L2:w1.heap.size<H.heap.size:=World.block_lt_of_cell? H ⟨w1.heap.size,0,none⟩ t4;have L3:ib<H.heap.size:=World.block_lt_of_cell? H ⟨ib,1,none⟩ t5;have L0:=aO.out.lt;have S9:Hid (∀V:World,(V.cell? ⟨w.heap.size,0,none⟩=some (.slice (some ⟨ib,0,none⟩) I ic)/\V.cell? ⟨w.heap.size,1,none⟩=some (.slice N J U)/\V.cell? ⟨w1.heap.size,0,none⟩=some (.string x)/\V.cell? ⟨ib,1,none⟩=some (.string y))->∀u,(V.setCell ⟨Z.heap.size,1,none⟩ u).cell? ⟨w.heap.size,0,none⟩=some (.slice (some ⟨ib,0,none⟩) I ic)/\(V.setCell ⟨Z.heap.size,1,none⟩ u).cell? ⟨w.heap.size,1,none⟩=some (.slice N J U)/\(V.setCell ⟨Z.heap.size,1,none⟩ u).cell? ⟨w1.heap.size,0,none⟩=some (.string x)/\(V.setCell ⟨Z.heap.size,1,none⟩ u).cell? ⟨ib,1,none⟩=some (.string y)):=Hk fun V h u=>by
     have hs:=b9.out;have hb:=(Below.refl Z.heap.size V).setCell (p:=⟨Z.heap.size,1,none⟩) (Nat.le_refl _) u;exact⟨cK hb hs.1 h.1,cK hb hs.1 h.2.1,cK hb hs.2.1 h.2.2.1,cK hb hs.2.2 h.2.2.2⟩
    go_region_held_law (fun w'=>w'.cell? ⟨w.heap.size,0,none⟩=some (.slice (some ⟨ib,0,none⟩) I ic)/\w'.cell? ⟨w.heap.size,1,none⟩=some (.slice N J U)/\w'.cell? ⟨w1.heap.size,0,none⟩=some (.string x)/\w'.cell? ⟨ib,1,none⟩=some (.string y)) (first|exact⟨t1,t2,t4,t5⟩|exact⟨bv _,bK _,bJ _,bN _⟩|exact⟨bC _ _,bF _ _,bP _ _,bE _ _⟩|exact⟨aV _ _ _,aY _ _ _,a1 _ _ _,a4 _ _ _⟩|exact S8.out|exact S9.out _ S8.out _) (first|(refine QeZ (by rfl) _ _ _ (by rfl) H.drew.heap.size 50 i0 _ 15 208 Tryz.underlying26 hi ca ct ck rfl (by decide) _ 1 _ (by rfl) (Fw.own_new1 _ _ _ _ 15 _ rfl (by simp;omega) (by simp)) N J U _ (by rfl) b8.out (cd.out _ (by repeat' (first|exact a9.out|refine Below.drew ?_|refine bel_box ?_ _))) cg.out (by unfold maxLen;omega) (by omega) (by simp;omega) ?_;intro v8 w8 aT am;obtain⟨a8,n8,rfl⟩:=own_slice aT;have aU:=Hk aT;have aZ:=Hk am;have aQ:=(aO.out.below (by repeat' (first|exact Below.refl _ _|refine Below.drew ?_|refine bel_box ?_ _))).grown am (by simp[Value.ownBlock];omega);have c8:=aQ.cell 1 rfl;have f8:=aQ.fz 1;have cf:=Hk aQ;have S8:=Hk (Ai (am.cell (aV _ _ _) (by simp[Value.ownBlock];omega)) (Ai (am.cell (aY _ _ _) (by simp[Value.ownBlock];omega)) (Ai (am.cell (a1 _ _ _) (by simp[Value.ownBlock];omega)) (am.cell (a4 _ _ _) (by simp[Value.ownBlock];omega)))));clear aT am aQ))
    all_goals
     obtain⟨⟨aL,aj⟩,hz,bx,bD⟩:=(show _ from by
      first
      |exact Qpl (f:=f) (a:=i1.name) (nm:=nm) (ob:=H.heap.size) (sb:=H.heap.size+1) (gv:=.slice a8 (1+J) n8) rfl aH.out a9.out (by repeat' (first|exact Below.refl _ _|refine Below.drew ?_|refine bel_box ?_ _)) L0 a5.out.size aO.out HX.out aZ.out rfl ⟨Nat.le_refl _,by omega⟩ ⟨by omega,by omega⟩ (by rw[hx];exact(Fw.Box.new H _ 9 _ rfl).below (by repeat' (first|exact Below.refl _ _|refine Below.drew ?_|refine bel_box ?_ _))) (by rw[hy];exact(Fw.Box.new (H.alloc _) _ 9 _ (by simp)).below (by repeat' (first|exact Below.refl _ _|refine Below.drew ?_|refine bel_box ?_ _))) (by rw[HJ.out,Nat.add_comm J 1];exact aU.out) (by rw[HJ.out];exact bQ.out) aD.out.ins aD.out.outs
      |exact Qpl (f:=f) (a:=i1.name) (nm:=nm) (ob:=H.heap.size+1) (sb:=H.heap.size) (gv:=.slice a8 (1+J) n8) rfl aH.out a9.out (by repeat' (first|exact Below.refl _ _|refine Below.drew ?_|refine bel_box ?_ _)) L0 a5.out.size aO.out HX.out aZ.out rfl ⟨by omega,by omega⟩ ⟨Nat.le_refl _,by omega⟩ (by rw[hx];exact(Fw.Box.new (H.alloc _) _ 9 _ (by simp)).below (by repeat' (first|exact Below.refl _ _|refine Below.drew ?_|refine bel_box ?_ _))) (by rw[hy];exact(Fw.Box.new H _ 9 _ rfl).below (by repeat' (first|exact Below.refl _ _|refine Below.drew ?_|refine bel_box ?_ _))) (by rw[HJ.out,Nat.add_comm J 1];exact aU.out) (by rw[HJ.out];exact bQ.out) aD.out.ins aD.out.outs)
     clear c8 f8 S8 S9 cf aU aZ bv bC aV bK bF aY bJ bP a1 bN bE a4 t1 t2 t4 t5;generalize w8.setCell ⟨Z.heap.size,1,none⟩ (.slice a8 (1+J) n8)=w9 at*;have y0:=aL.1;have y1:=aL.2.1;have y2:=aL.2.2;have e0:=aj.cell 0 rfl;have e1:=aj.cell 1 rfl;have e2:=aj.cell 2 rfl;have d0:=aj.fz 0;have d1:=aj.fz 1;have d2:=aj.fz 2;have HZ:=Hk (Ai hz (Ai bx bD));clear aL aj hz bx bD
     cases b2
     all_goals
      go_wp2;have z0:=HZ.out.1.1;have z1:=HZ.out.1.2.1;have z2:=HZ.out.1.2.2
      first
      |(refine bodyPost_ret (v:=.tuple #[.agg #[.slice (some ⟨ib,0,none⟩) I ic,.slice a8 (1+J) n8,.slice oa O oc],.bool false]) ?_ rfl ?_;(focus (simp[results,Tryz.results15,go_sem,z0,z1,z2];done));exact⟨bel_then a6.out HZ.out.2.1,Or.inr ⟨_,_,_,_,_,_,_,_,_,rfl⟩⟩)
      |(refine bodyPost_ret (v:=.tuple #[.agg #[.slice (some ⟨ib,0,none⟩) I ic,.slice a8 (1+J) n8,.slice oa O oc],.bool true]) ?_ rfl ?_;(focus (simp[results,Tryz.results15,go_sem,z0,z1,z2];done));exact⟨bel_then a6.out HZ.out.2.1,Or.inl ⟨i1,_,_,_,b7.out,by rw[HJ.out];omega,fun hm=>by have:=cv.out.2 hm;simp at this,rfl,HZ.out.2.2⟩⟩)
end Go.Proofs.YtjlgejennghhlaaGreatDoor.Pl
