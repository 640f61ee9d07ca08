import Derived.Test.YtjlgejennghhlaaGreatDoorQ01
import Derived.Test.YtjlgejennghhlaaGreatDoorQ42
import Derived.Test.YtjlgejennghhlaaGreatDoorQ45
set_option linter.unusedSimpArgs false
set_option linter.unusedVariables false
set_option linter.unusedSectionVars false
set_option maxRecDepth 1000000
set_option maxHeartbeats 16000000
namespace Go.Proofs.YtjlgejennghhlaaGreatDoor.Pl
open Go.RowKit Go.Maps
open Fw (By FJob Flw ba Qck QbH zeroJ)
structure ColS (w1 wr:World) (b:Nat) (A:AM) (m:CM):Prop where
 low:Below w1.heap.size w1 wr
 map:MapC wr b A
 mem:QbJ wr A m
 ok:∀c∈m,QeA c.2
theorem ColS.below {D wr w':World} {b:Nat} {A:AM} {m:CM} (h:ColS D wr b A m) (y:Below wr.heap.size wr w'):ColS D w' b A m:=
 ⟨bel_then h.low y,h.map.below y,h.mem.imp h.ok (fun u cs _ hv=>hv.below y),h.ok⟩
theorem ColS.put {y wr w':World} {b:Nat} {A:AM} {m:CM} {n:By} {u:Value} {cs:Cs} (h:ColS y wr b A m) (J:y.heap.size<=b) (I:Qgg wr u cs) (F:QeA cs) (H:MapC w' b (A++[(n,u)])) (D:wr.grownBy w' (some b)):ColS y w' b (A++[(n,u)]) (m++[(n,cs)]):=
 ⟨h.low.grown D h.low.size (fun q hq=>by injection hq with hq;omega),H,(h.mem.imp h.ok (fun u cs hk hv=>hv.put hk h.map.obj D)).snoc (I.put F h.map.obj D),fun c hc2=>by
  rcases List.mem_append.1 hc2 with q|q
  ·exact h.ok c q
  ·rw[List.mem_singleton.1 q];exact F⟩
theorem ColS.len {y wr:World} {b:Nat} {A:AM} {m:CM} (h:ColS y wr b A m):A.length=m.length:=by
 have:=congrArg List.length h.mem.keys;simpa [keysA,keysM] using this
theorem QeT {l:List (By×Int)} (h:Qai (QaY l)=true) (I:∀x∈l,x.1.length<=900):QeA (QaY l):=by
 obtain⟨D,F⟩:=Qbq h;refine⟨D,F,fun x hx=>?_⟩;obtain⟨y,H,rfl⟩:=List.mem_map.1 hx;exact Nat.le_trans (I y H) (by decide)
theorem QpV {w:World} {v:Value} {l:List (By×Int)} (h:Fw.ColsR w v l) (I:QeA (QaY l)):Qgg w v (QaY l):=by
 rcases h with ⟨rfl,rfl⟩|⟨b,o,c,rfl,D,H,F⟩
 ·exact absurd I.1 (by decide)
 ·refine⟨b,o,c,by simp[QaY],by simpa [QaY] using D,H,fun j hj=>?_⟩;have y:j<l.length:=by simpa [QaY] using hj
  simpa [QaY] using F j y
def nmO (f:Flw) (o:List Nat):List By:=f.ins.map (·.name)++(QbE f o).flatMap (·.outs)
theorem Qii {f:Flw} {o:List Nat} (h:Fine f) (y:Good f o):(nmO f o).Nodup:=(show(nmO f o).Perm (Qaw f) from List.Perm.append_left _ (y.perm_jobs.flatMap_right _)).nodup_iff.2 h.nodup
theorem QpW {f:Flw} {o:List Nat} (h:Fw.FlwOK f) (y:Good f o):(nmO f o).length<=16016:=by
 rw[(show(nmO f o).Perm (Qaw f) from List.Perm.append_left _ (y.perm_jobs.flatMap_right _)).length_eq];exact Qg7 h
theorem Qeh {l r:List By} {x:By} {m:List By} (y:l.Nodup) (h:l=m++x::r):x∉m:=fun hx=>Qg6 h hx y
theorem QoQ {f:Flw} {o:List Nat} {k:Nat} (h:k<f.ins.length):∃r,nmO f o=(f.ins.take k).map (·.name)++f.ins[k].name::r:=by
 refine⟨(f.ins.drop (k+1)).map (·.name)++(QbE f o).flatMap (·.outs),?_⟩;unfold nmO;have e:f.ins=f.ins.take k++f.ins[k]::f.ins.drop (k+1):=by rw[<-List.drop_eq_getElem_cons h,List.take_append_drop]
 conv=>lhs;rw[e]
 simp only[List.map_append,List.map_cons,List.append_assoc,List.cons_append]
theorem Qfd {f:Flw} {o:List Nat} {q:Nat} (h:q<o.length) (y:o[q]<f.jobs.length):QbE f o=QbE f (o.take q)++f.jobs[o[q]]::QbE f (o.drop (q+1)):=by
 have e:o=o.take q++o[q]::o.drop (q+1):=by rw[<-List.drop_eq_getElem_cons h,List.take_append_drop]
 conv=>lhs;rw[e]
 unfold QbE;rw[List.filterMap_append,List.filterMap_cons,List.getElem?_eq_getElem y]
theorem Qk3 {f:Flw} {o:List Nat} {q:Nat} (h:q<o.length) (y:o[q]<f.jobs.length):QbE f (o.take (q+1))=QbE f (o.take q)++[f.jobs[o[q]]]:=by
 unfold QbE;rw[List.take_succ_eq_append_getElem h,List.filterMap_append];simp[List.getElem?_eq_getElem y]
theorem QoR {f:Flw} {o:List Nat} {q r:Nat} (h:q<o.length) (y:o[q]<f.jobs.length) (F:r<f.jobs[o[q]].outs.length):∃s,nmO f o=(f.ins.map (·.name)++(QbE f (o.take q)).flatMap (·.outs)++f.jobs[o[q]].outs.take r)++f.jobs[o[q]].outs[r]::s:=by
 refine⟨f.jobs[o[q]].outs.drop (r+1)++(QbE f (o.drop (q+1))).flatMap (·.outs),?_⟩;unfold nmO;rw[Qfd h y,List.flatMap_append,List.flatMap_cons];have D:f.jobs[o[q]].outs=f.jobs[o[q]].outs.take r++f.jobs[o[q]].outs[r]::f.jobs[o[q]].outs.drop (r+1):=by rw[<-List.drop_eq_getElem_cons F,List.take_append_drop]
 conv=>lhs;rw[D]
 simp only[List.append_assoc,List.cons_append]
theorem QjY (E:FJob->List Cs->Int) (C:FJob->List Cs->Cs):∀(y h:List FJob) (m:CM),runM E C (y++h) m=(runM E C y m).bind (runM E C h)
 |[],h,m=>rfl
 |a::y,h,m=>by
  rw[List.cons_append];unfold runM
  by_cases he:E a (inC m a)=0
  ·rw[if_pos he,if_pos he];exact QjY E C y h _
  ·rw[if_neg he,if_neg he];rfl
structure NextJ (f:Flw) (o:List Nat) (q:Nat) (m:CM) (j:FJob):Prop where
 read:∀n∈j.ins,n∈keysM m
 fresh:∀r (hr:r<j.outs.length),j.outs[r]∉keysM m++j.outs.take r
 step:Qbg j (inC m j)=0->runM Qbg Qa9 (QbE f (o.take (q+1))) (QeY f)=some (m++j.outs.map fun n=>(n,Qa9 j (inC m j)))
 fail:Qbg j (inC m j)≠0->colsO Qbg Qa9 f o=none
 len:m.length+j.outs.length<=16016
theorem QqG {f:Flw} {o:List Nat} {q:Nat} {m:CM} (U:Fine f) (N:Fw.FlwOK f) (I:Good f o) (y:q<o.length) (D:o[q]<f.jobs.length) (h:runM Qbg Qa9 (QbE f (o.take q)) (QeY f)=some m):NextJ f o q m f.jobs[o[q]]:=by
 obtain⟨r,H,M⟩:=runM_keys h;have F:keysM m=f.ins.map (·.name)++(QbE f (o.take q)).flatMap (·.outs):=by
  rw[H,keysM,List.map_append,<-keysM,<-keysM,M,keys_ins]
 obtain⟨-,K⟩:=I.jobs;rw[Qfd y D] at K;refine⟨fun n hn=>?_,fun r H=>?_,fun h0=>?_,fun h0=>?_,?_⟩
 ·rw[F,List.mem_append];exact(K _ _ _ rfl n hn).imp id (fun⟨j',a,b⟩=>List.mem_flatMap.2 ⟨j',a,b⟩)
 ·obtain⟨s,O⟩:=QoR y D H;rw[F];exact Qeh (Qii U I) O
 ·rw[Qk3 y D,runM_snoc,h,Option.bind_some,if_pos h0]
 ·unfold colsO;rw[Qfd y D,QjY,h,Option.bind_some];unfold runM;rw[if_neg h0]
 ·have J:=QpW N I;unfold nmO at J;rw[Qfd y D,List.flatMap_append,List.flatMap_cons,<-List.append_assoc,<-F,List.length_append,List.length_append] at J;have:(keysM m).length=m.length:=by simp[keysM]
  omega
def QpX (A:AM) (l:List By):List Value:=l.map fun n=>(Qbt A n).getD (.slice none 0 0)
theorem heads_of {H:World} {B y:Nat} {K:Value} {A:AM} {m:CM} {l:List By} (h:H.ownsRow B 51 1 K y (QpX A l)) (hl:l.length=y) (V:0<y) (N:QbJ H A m) (D:∀n∈l,n∈keysM m):∃g gc,K=.slice (some ⟨g,0,none⟩) y gc/\QfY H g 0 (l.map fun n=>(QbL m n).getD []):=by
 have J:=h;obtain⟨-,⟨-,hn⟩|⟨g,I,Z,rfl,-,-,-,-,-,-⟩⟩:=h
 ·omega
 ·refine⟨g,I,rfl,(J.lt g rfl).2,fun i hi=>?_⟩;have F:i<l.length:=by simpa using hi
  obtain⟨u,cs,O,M,U,-⟩:=N.look (D l[i] (List.getElem_mem F));refine⟨u,?_,?_⟩
  ·rw[Nat.zero_add,J.cellAt i (by omega),QpX,List.getElem?_map,List.getElem?_eq_getElem F,Option.map_some,O];rfl
  ·rw[List.getElem_map,M];exact U
theorem Qpi {I:World} {A:AM} {m:CM} {j:FJob} (H:QbJ I A m) (y:∀c∈m,QeA c.2) (h:∀n∈j.ins,n∈keysM m):∀c∈inC m j,QeA c:=by
 intro c J;obtain⟨n,K,rfl⟩:=List.mem_map.1 J;obtain⟨u,cs,-,D,-,F⟩:=H.look (h n K);rw[D];exact y _ F
theorem Qk4 {w:World} {B b n z:Nat} {e:TypeId} {v:Value} {xs:List Value} (h:w.ownsRow B e z v n xs) (D:∃es c,w.heap[b]? =some (.map es c)):v.ownBlock≠some b:=by
 intro he;obtain⟨-,⟨rfl,-⟩|⟨g,I,H,rfl,-,F,-⟩⟩:=h
 ·cases he
 ·simp only[Value.ownBlock,Option.some.injEq] at he;subst he;obtain⟨es,c,y⟩:=D;rw[F] at y
  cases y
def QpY (f:Flw) (o:List Nat) (w:World) (e:Ending) (w':World):Prop:=Below w.heap.size w w'/\
 ((colsO Qbg Qa9 f o=none/\∃ev n,e=.returned (.tuple #[.map none,ev])/\n≠0/\AtV w' ev n)\/
  (∃m A b,colsO Qbg Qa9 f o=some m/\e=.returned (.tuple #[.map (some b),.nilIface])/\w.heap.size<=b/\MapC w' b A/\QbJ w' A m/\∀c∈m,QeA c.2))
theorem Qi4 (f:Flw) (o:List Nat) (vi vj vo ov:Value) (w:World) (h:Fw.FlowRd w f vi vj vo) (hf:Fw.FlwOK f) (hF:Fine f) (hg:Good f o) (ho:Qc6 w ov o)
 (b7:w.cell? ⟨0,0,none⟩=some (.iface 208 (.agg #[.pointer (some ⟨13,34,none⟩)]))):
 Calls Tryz.prog 21 #[.agg #[vi,vj,vo],ov] w fun e w'=>QpY f o w e w':=by
 obtain⟨i0,hi,c9,dE,du⟩:=info_parts Tryz.infoCols;obtain⟨ia,ic,rfl⟩:=row_slice h.ins;obtain⟨ja,jc,rfl⟩:=row_slice h.jobs;obtain⟨I,hI⟩:∃I,f.ins.length=I:=⟨_,rfl⟩;obtain⟨J,hJ⟩:∃J,f.jobs.length=J:=⟨_,rfl⟩;have d7:I<=16:=by rw[<-hI];exact hf.il
 have d4:J<=16:=by rw[<-hJ];exact hf.jl
 have a1:o.length=J:=by rw[<-hJ];exact hg.len
 rw[hI,hJ] at h⊢;obtain⟨F,bZ⟩:∃x,w.alloc (.cells #[.slice ia I ic,.slice ja J jc,vo] 29)=x:=⟨_,rfl⟩;have aE:Below w.heap.size w F:=by rw[<-bZ];exact Qaa _ _
 have bt:Qcc F w.heap.size (.slice ia I ic) (.slice ja J jc) vo:=by rw[<-bZ];exact Qcc.new _ _ _ _ _
 obtain⟨w2,cN⟩:∃x,F.alloc (.map #[] 0)=x:=⟨_,rfl⟩;have bv:ColS F w2 F.heap.size [] []:=by
  rw[<-cN];exact⟨Qaa _ _,MapC.made F,trivial,by simp⟩
 have aO:=Hk aE;have b5:=Hk bt;have HH:=Hk (Ai (h.below aE) hf);have aw:=Hk (Ai hF hg);have HO:=Hk (ho.below aE);have bS:=Hk a1;have HI:=Hk hI;have HJ:=Hk hJ;have dc:=Hk bv;have cS:Hid (∀V,Below F.heap.size F V->V.cell? ⟨0,0,none⟩=some (.iface 208 (.agg #[.pointer (some ⟨13,34,none⟩)]))):=Hk fun V hV=>cell_below (cell_below b7 aE) hV
 have g1:=(bt.below bv.low).1;have da:Hid (∀(n:Int) (pl:Int) V,Calls Tryz.prog 51 #[.int .i64 n,.int .i64 pl] V fun e w'=>∃p,e=.returned (.iface 100 (.pointer (some ⟨p,0,none⟩)))/\AtV w' (.iface 100 (.pointer (some ⟨p,0,none⟩))) n/\Below V.heap.size V w'):=Hk fun n pl V=>Qia n pl V
 obtain⟨va,vc,rfl⟩:=QcJ ho;rw[a1] at HO⊢;clear h hf hI hJ aE bt hF hg ho b7 bv a1;have em:∀V:World,(Instr.makeMap 32 none).run Tryz.prog V=.ok (.map (some V.heap.size)) (V.alloc (.map #[] 0)):=fun V=>by kernel_rfl
 go_enter Tryz.func21,Tryz.ntmps21;go_wp2;go_loopw [23] (fun i wr=>∃k:Nat,k<=I/\i=.int .i64 k/\∃A,ColS F wr F.heap.size A ((QeY f).take k)) (fun i _=>I-(intOf i).toNat)
 case atStart=>exact⟨0,Nat.zero_le _,rfl,[],dc.out⟩
 case round=>
  obtain⟨k,hk,rfl,A,O⟩:=hrel;have HS:=Hk O
  by_cases hlt:k<I
  ·have aG:k<f.ins.length:=by rw[HI.out];exact hlt
   obtain⟨b,c,y,cz,hb,v,d0,d1,d2,cv⟩:=QoE (HH.out.1.below O.low) aG;simp only[Value.slice.injEq] at y;obtain⟨rfl,-,rfl⟩:=y;have bG:=HH.out.2.ins _ (List.getElem_mem aG);have aB:=QeT (aw.out.1.cols _ (List.getElem_mem aG)) (fun x hx=>(bG.2.2 x hx).1);obtain⟨vb,a2,az,c6,eq,dC,ci⟩:=QpV cv aB;subst c6;have ah:Hid ((QeY f).take (k+1)=(QeY f).take k++[(f.ins[k].name,QaY f.ins[k].cols)]):=Hk (by
    rw[List.take_succ_eq_append_getElem (by simpa [QeY] using aG)];simp[QeY])
   have b9:Hid (f.ins[k].name∉keysA A):=Hk (by
    rw[O.mem.keys];obtain⟨r,hr⟩:=QoQ (o:=o) aG;have:=Qeh (Qii aw.out.1 aw.out.2) hr;rwa[show keysM ((QeY f).take k)=(f.ins.take k).map (·.name) by simp[keysM,QeY,List.map_take,Function.comp_def]])
   have bj:A.length<=16:=by rw[O.len];simp[QeY];omega
   have ch:Hid (f.ins[k].name.length<=1000):=Hk (by have:=bG.1;omega);have aQ:=Hk aB;obtain⟨N,U⟩:∃x,wr.alloc (.cells #[.int .i64 (f.ins[k].at_:Nat),.string (ba f.ins[k].name),.slice (some ⟨vb,a2,none⟩) (QaY f.ins[k].cols).length az] 57)=x:=⟨_,rfl⟩;have av:Below wr.heap.size wr N:=by rw[<-U];exact Qaa _ _
   have ct:Hid (∀V,Below N.heap.size N V->Calls Tryz.prog 58 #[.slice (some ⟨vb,a2,none⟩) (QaY f.ins[k].cols).length az] V fun e w'=>∃v,e=.returned v/\w'.ownsRow V.heap.size 64 2 v (QaY f.ins[k].cols).length (Qak (QaY f.ins[k].cols))/\Below V.heap.size V w'):=Hk fun V hV=>by
    have b3:=bel_then av hV;exact QdF vb a2 _ az (QaY f.ins[k].cols) V rfl (by have:=aB.2.1;omega) (by have:=b3.size;omega) (ci.below b3 dC)
   have q1:N.drew.cell? ⟨wr.heap.size,1,none⟩=some (.string (ba f.ins[k].name)):=by rw[<-U];exact World.cell?_alloc_at _ _ _ _ rfl
   have q2:N.drew.cell? ⟨wr.heap.size,2,none⟩=some (.slice (some ⟨vb,a2,none⟩) (QaY f.ins[k].cols).length az):=by rw[<-U];exact World.cell?_alloc_at _ _ _ _ rfl
   have eu:wr.heap.size<N.drew.heap.size:=by show wr.heap.size<N.heap.size;rw[<-U];simp
   have bp:=Hk ((HS.out.below av).below ((Below.refl _ N).drew));have bi:=Hk q1;obtain⟨nm,b6⟩:∃nm,f.ins[k].name=nm:=⟨_,rfl⟩;obtain⟨cs,aK⟩:∃cs,QaY f.ins[k].cols=cs:=⟨_,rfl⟩;rw[aK] at ah aQ ct q2 U d2;rw[b6] at ah b9 ch q1 bi d1 U;generalize f.ins[k].at_=pl at*;obtain⟨bx,aa⟩:∃bx,ba nm=bx:=⟨_,rfl⟩;rw[aa] at q1 bi d1 U;have dx:=Hk aa;clear cv bG aB ci O av b6 aK aa;generalize bU:cs.length=cn at*;have b8:=Hk bU;clear bU;go_wp2_with fail;go_region_law (first|(go_simp;go_at_call 58;refine(ct.out _ ((Below.refl _ N).drew)).mono ?_;rintro e4 w4 ⟨v4,rfl,bE,bL⟩;have cd:=Hk bE;have ei:=cell_below bi.out bL;have D:=Hk (bp.out.below bL);obtain⟨w5,dq,b0,cw,ej⟩:=D.out.map.put b9.out (by omega) ch.out v4;rw[dx.out] at dq;have bf:=Hk (Ai b0 cw);obtain⟨a4,c4,rfl⟩:=own_slice bE;clear bE bL b0 cw))
   all_goals have aJ:=Hk (D.out.put (Nat.le_refl _) (Qgg.of (by have:=cd.out;rw[<-b8.out] at this;exact this) aQ.out) aQ.out (by have:=bf.out.1;rw[<-b8.out] at this;exact this) (bf.out.2))
   all_goals rw[<-ah.out] at aJ
   all_goals clear bf cd D
   all_goals go_wp2
   all_goals go_roundw
   all_goals first
    |exact⟨k+1,by omega,by go_num,_,aJ.out⟩
    |(simp[intOf];omega)
  ·obtain rfl:k=I:=by omega
   have hA:(QeY f).take k=QeY f:=List.take_of_length_le (by simp[QeY];have:=HI.out;omega);rw[hA] at HS O;have g2:=(b5.out.below O.low).2.1;have bW:Hid (runM Qbg Qa9 (QbE f (o.take 0)) (QeY f)=some (QeY f)):=Hk (by simp[QbE,runM]);clear O hA;go_wp2;go_loopw [36] (fun i wr=>∃q:Nat,q<=J/\i=.int .i64 q/\∃A m,ColS F wr F.heap.size A m/\runM Qbg Qa9 (QbE f (o.take q)) (QeY f)=some m) (fun i _=>J-(intOf i).toNat)
   case atStart=>exact⟨0,Nat.zero_le _,rfl,A,_,HS.out,bW.out⟩
   case round=>
    clear HS bW g2;obtain⟨q,hq,rfl,A,m,O,am⟩:=hrel;obtain⟨wb,cb⟩:∃x,x=wr:=⟨_,rfl⟩;rw[<-cb] at O⊢;clear cb;have HS:=Hk O;have ef:=Hk am
    by_cases hlt2:q<J
    ·have aM:q<o.length:=by rw[bS.out];exact hlt2
     have aX:o[q]<f.jobs.length:=(aw.out.2.mem _).1 (List.getElem_mem aM);have Z:=Hk (QqG aw.out.1 HH.out.2 aw.out.2 aM aX am);rcases HO.out with ⟨-,y⟩|⟨ob,oo,oc,y,dQ,dd,aN⟩
     ·rw[y] at aM;exact absurd aM (by simp)
     simp only[Value.slice.injEq] at y;obtain⟨rfl,-,rfl⟩:=y;have dO:=(O.low.cell (p:=⟨ob,oo+q,none⟩) dd).trans (aN q aM);obtain⟨b,c,y,cz,hb,ao,ai,ac,bB,bg,bH,bk⟩:=QeP HH.out.1 aX;simp only[Value.slice.injEq] at y;obtain⟨rfl,-,rfl⟩:=y;have aF:wb.rangeAt b (o[q]*15) (Fw.jobV f.jobs[o[q]] ao ai ac):=fun j u hj=>(O.low.cell (p:=⟨b,o[q]*15+j,none⟩) hb).trans (bB j u hj)
     have ak:=QcX bg bH bk;have H:=Hk (HH.out.2.jobs _ (List.getElem_mem aX));have g2:=(b5.out.below O.low).2.1;have cT:((o[q]:Nat):Int)<(J:Int):=by have:=HJ.out;omega
     obtain⟨jn,br⟩:∃jn,o[q]=jn:=⟨_,rfl⟩;obtain⟨j,hj⟩:∃j,f.jobs[o[q]]=j:=⟨_,rfl⟩;rw[hj] at aF ak H Z;have bq:Hid (Fw.StrsR F ao j.outs):=Hk (by rw[<-hj];exact bg);have b2:Hid (Fw.StrsR F ai j.ins):=Hk (by rw[<-hj];exact bH);have cW:Hid (Fw.StrsR F ac j.cols):=Hk (by rw[<-hj];exact bk);rw[br] at dO aF cT;clear bg bH bk bB aN hj br am aX;obtain⟨oa,bJ,dw⟩:=strs_slice bq.out;obtain⟨na,nc,cV⟩:=strs_slice b2.out;subst dw;subst cV;obtain⟨JL,aj⟩:∃JL,Fw.jobV j (.slice oa j.outs.length bJ) (.slice na j.ins.length nc) ac=JL:=⟨_,rfl⟩;have ca:JL[2]? =some (.slice oa j.outs.length bJ):=by rw[<-aj];rfl
     have cr:JL[3]? =some (.slice na j.ins.length nc):=by rw[<-aj];rfl
     have bY:JL[0]? =some (.int .i64 (j.at_:Nat)):=by rw[<-aj];rfl
     have dk:JL.length=15:=by rw[<-aj];rfl
     have dv:=Hk aj;rw[aj] at aF ak;obtain⟨N,U,av,bm,bT,bs,co⟩:=Qe9 wb JL dk ak;have dL:=Hk aF;have cQ:=Hk ak;have bu:=Hk bs;have dF:=Hk co;have dt:=Hk U;have dr:=Hk bm;have dp:=bm.cell 3 cr;have bp:=Hk (HS.out.below av);have cR:=Hk bY;have de:=Hk ca;have dM:Hid (0<j.ins.length):=Hk (by have:=(QfZ H.out).2;omega);obtain⟨ni,a7⟩:∃ni,j.ins.length=ni:=⟨_,rfl⟩;have aP:=Hk a7;have ex:ni<=1000:=by rw[<-a7];exact H.out.il
     rw[a7] at dp;have dX:=Hk bT;clear O aF ak bs co U bm av aj ca cr bY HS bT;go_wp2_with (first|(refine wpList_load_mid rfl 50 (.tmp 43) rfl b (jn*15) rfl JL _ dL.out Tryz.underlying50 rfl bu.out ?_)|(refine wpList_store_mid rfl 50 (.tmp 11) (.tmp 44) rfl wb.heap.size 0 JL.toArray rfl rfl dF.out bu.out cQ.out ?_;rw[show JL.toArray.toList=JL from rfl,<-dt.out]));clear a7;go_loopw [12,48] (fun iv i wr=>∃r:Nat,r<=ni/\i=.int .i64 r/\wr.ownsRow N.heap.size 51 1 iv r (QpX A (j.ins.take r))/\Below N.heap.size N wr) (fun _ i _=>ni-(intOf i).toNat)
     case atStart=>exact⟨0,Nat.zero_le _,rfl,World.ownsRow_nil _ _ _ _,Below.refl _ _⟩
     case round=>
      obtain⟨r,hr,rfl,ae,ar⟩:=hrel;obtain⟨la,lc,rfl⟩:=own_slice ae;have HX:=Hk (Ai ae ar);have ep:=ar.size;have D:=Hk (bp.out.below ar)
      by_cases hlt3:r<ni
      ·have ap:r<j.ins.length:=by have:=aP.out;omega
       rcases b2.out with ⟨-,y⟩|⟨nb,no,ek,y,dR,dn,ab⟩
       ·rw[y] at ap;exact absurd ap (by simp)
       simp only[Value.slice.injEq] at y;obtain⟨rfl,-,rfl⟩:=y;have d1:=(D.out.low.cell (p:=⟨nb,no+r,none⟩) dn).trans (ab r ap);obtain⟨x,hx⟩:∃x,j.ins[r]=x:=⟨_,rfl⟩;have aL:x∈j.ins:=by rw[<-hx];exact List.getElem_mem ap
       rw[hx] at d1;obtain⟨u,cs,bC,-,ds,-⟩:=D.out.mem.look (Z.out.read x aL);have aY:=D.out.map.look x (H.out.is x aL) false;rw[bC] at aY;obtain⟨ub,uo,uc,rfl,-,-,-⟩:=ds;have ah:Hid (QpX A (j.ins.take r)++[.slice (some ⟨ub,uo,none⟩) cs.length uc]=QpX A (j.ins.take (r+1))):=Hk (by
        rw[List.take_succ_eq_append_getElem ap,QpX,QpX,List.map_append,hx];simp[bC])
       obtain⟨bx,aa⟩:∃bx,ba x=bx:=⟨_,rfl⟩;rw[aa] at d1 aY;simp only[Option.getD_some,Bool.false_eq_true,if_false] at aY;generalize cs.length=cn at*;clear ae ar ab hx aa aL bC;go_wp2_with (first|(at_builtin;refine wpList_append_own _ rfl _ _ 123 rfl N.heap.size 51 i0 (.slice none 0 0) 1 24 Tryz.underlying123 hi c9 dE du rfl (by decide) _ _ _ rfl (HX.out.1.alloc _) ⟨wr.heap.size,0,none⟩ 1 1 [.slice (some ⟨ub,uo,none⟩) cn uc] rfl rfl (news1 _ _ _ _ rfl) (Qc2 _ _ _) ?c3 ?c4 ?c5 ?_))
       case c3=>unfold maxLen;omega
       case c4=>omega
       case c5=>simp;omega
       intro v' w5 aC a5 _;have bo:Below N.heap.size N w5:=(HX.out.2.alloc (by omega) _).grown a5 (by simp;omega) (fun q hq=>(HX.out.1.lt q hq).1);rw[ah.out] at aC;have HF:=Hk (Ai aC bo);clear aC a5 bo aY;go_wp2;go_roundw
       case rel=>exact⟨r+1,by omega,by go_num,HF.out.1,HF.out.2⟩
       case measure=>simp[intOf];omega
      ·obtain rfl:r=ni:=by omega
       have a9:j.ins.take r=j.ins:=List.take_of_length_le (by have:=aP.out;omega);rw[a9] at ae;obtain⟨g,gc,y,ck⟩:=heads_of ae aP.out (by have:=aP.out;have:=dM.out;omega) D.out.mem Z.out.read;simp only[Value.slice.injEq,true_and] at y;obtain⟨rfl,rfl⟩:=y;have aS:=D.out.low;have bF:=Hk (Qox j (.slice oa j.outs.length bJ) (.slice na j.ins.length nc) ac (inC m j) g 0 lc wr H.out (bq.out.below aS) (cW.out.below aS) ck (Qpi D.out.mem D.out.ok Z.out.read) (by simp[inC]));rw[dv.out,show(inC m j).length=r by simp[inC];exact aP.out] at bF;have bA:=Hk (dr.out.below ar);have bw:=bA.out.range;have dA:=Hk bw;clear ae ar a9 ck aS bw;go_wp2_with (first|(refine wpList_load_mid rfl 50 (.tmp 11) rfl wb.heap.size 0 rfl JL _ dA.out Tryz.underlying50 rfl bu.out ?_)|(go_at_call 59;fail));refine bF.out.mono ?_;rintro e5 w5 ⟨ax,⟨hE,rfl⟩|⟨hE,v5,ay,rfl,a3,bD⟩⟩
       ·have aq:=Hk (Ai (Z.out.fail hE) hE);have dm:=Hk (bA.out.below ax);have cp:=Hk (bel_then D.out.low ax);obtain⟨en,cq⟩:∃en,Qbg j (inC m j)=en:=⟨_,rfl⟩;rw[cq] at aq⊢;have aV:Hid (∀V,Below w5.heap.size w5 V->V.cell? ⟨wb.heap.size,0,none⟩=some (.int .i64 (j.at_:Nat))):=Hk fun V hV=>(dm.out.below hV).cell 0 cR.out
        have G0:=Hk (aV.out w5.drew (Below.refl _ w5).drew);have bI:Hid (Below w5.heap.size w5 w5.drew):=Hk (Below.refl _ w5).drew;have dz:Hid (∀V,Below w5.heap.size w5 V->Calls Tryz.prog 23 #[.iface 37 (.int .i64 en)] V fun ev w'=>ev=.returned (.int .i64 en)/\Below V.heap.size V w'):=Hk fun V hV=>Dk.tell_any en V (cS.out V (bel_then cp.out hV))
        clear ax hE cq;go_wp2_with fail
        go_region_held3 (fun V=>V.cell? ⟨wb.heap.size,0,none⟩=some (.int .i64 (j.at_:Nat))) (first|exact G0.out|exact G1.out|exact G2.out) (first|(go_at_call 23;refine(dz.out _ bI.out).mono ?_;rintro e6 w6 ⟨rfl,cg⟩;have bn:=Hk (bI.out.trans (cg.mono bI.out.size));have G1:=Hk (aV.out w6 bn.out);clear cg)|(go_at_call 51;refine(da.out _ _ _).mono ?_;rintro e7 w7 ⟨p,rfl,cc,cu⟩;have dJ:=Hk cc;have cj:=Hk (bn.out.trans (cu.mono bn.out.size));have G2:=Hk (aV.out w7 cj.out);clear cc cu))
        all_goals go_wp2
        all_goals refine bodyPost_ret (v:=.tuple #[.map none,.iface 100 (.pointer (some ⟨p,0,none⟩))]) (by simp[results,Tryz.results21,go_sem]) rfl ?_
        all_goals exact⟨aO.out.trans ((bel_then cp.out cj.out).mono aO.out.size),Or.inl ⟨aq.out.1,_,en,rfl,aq.out.2,dJ.out⟩⟩
       ·have aA:=Hk (Qov H.out (by simp[inC]) (Qpi D.out.mem D.out.ok Z.out.read) hE);have cx:=Hk (Z.out.step hE);have aJ:=Hk (D.out.below ax);have cf:=bA.out.below ax;have dj:=cf.cell 2 de.out;obtain⟨cs,aK⟩:∃cs,Qa9 j (inC m j)=cs:=⟨_,rfl⟩;rw[aK] at aA cx bD;have b4:Hid (∀u∈ay,Qgg w5 u cs):=Hk (fun u hu=>Qgg.of (bD u hu) aA.out);have bz:=Hk (own_mono (Nat.zero_le _) a3);obtain⟨no,a0⟩:∃no,j.outs.length=no:=⟨_,rfl⟩;have aq:=Hk a0;have a1:no<=1000:=by rw[<-a0];exact H.out.ol
        obtain⟨sa,sc,rfl⟩:=own_slice a3;rw[a0] at dj bz a3⊢;clear ax hE aK bD cf a3 a0;go_wp2;go_loopw [75] (fun i wy=>∃r:Nat,r<=no/\i=.int .i64 r/\∃A',ColS F wy F.heap.size A' (m++(j.outs.take r).map fun n=>(n,cs))/\wy.ownsRow 0 51 1 (.slice sa no sc) no ay/\∀u∈ay,Qgg wy u cs) (fun i _=>no-(intOf i).toNat)
        case atStart=>exact⟨0,Nat.zero_le _,rfl,A,by simpa using aJ.out,bz.out,b4.out⟩
        case round=>
         clear aJ bz b4;obtain⟨M,ap,rfl,A',K,aZ,a8⟩:=hrel;have el:=Hk K
         by_cases hlt4:M<no
         ·have au:M<j.outs.length:=by have:=aq.out;omega
          rcases bq.out with ⟨-,y⟩|⟨tb,dG,ew,y,dP,cY,ab⟩
          ·rw[y] at au;exact absurd au (by simp)
          simp only[Value.slice.injEq] at y;obtain⟨rfl,-,rfl⟩:=y;have d1:=(K.low.cell (p:=⟨tb,dG+M,none⟩) cY).trans (ab M au);obtain⟨x,hx⟩:∃x,j.outs[M]=x:=⟨_,rfl⟩;have aL:x∈j.outs:=by rw[<-hx];exact List.getElem_mem au
          rw[hx] at d1;have b1:=Hk aZ;have h0:=aZ;obtain⟨c7,⟨-,eo⟩|⟨g2,ec,d9,e1,-⟩⟩:=aZ
          ·omega
          simp only[Value.slice.injEq,true_and] at e1;obtain⟨rfl,rfl⟩:=e1;have bV:M<ay.length:=by omega
          have c1:wr.cell? ⟨g2,M,none⟩=some ay[M]:=by
           rw[h0.cellAt M (by omega),List.getElem?_eq_getElem bV]
          obtain⟨u,hu⟩:∃u,ay[M]=u:=⟨_,rfl⟩;have ce:=a8 u (by rw[<-hu];exact List.getElem_mem bV);rw[hu] at c1;have cm:x∉keysA A':=by
           rw[K.mem.keys,show keysM (m++(j.outs.take M).map fun n=>(n,cs))=keysM m++j.outs.take M by simp[keysM,Function.comp_def],<-hx];exact Z.out.fresh M au
          have bj:A'.length<1000000:=by
           rw[K.len,List.length_append,List.length_map,List.length_take];have:=Z.out.len;omega
          obtain⟨w7,cZ,bX,a6,dy⟩:=K.map.put cm bj (H.out.os x aL) u;have ah:Hid (m++(j.outs.take (M+1)).map (fun n=>(n,cs))=(m++(j.outs.take M).map fun n=>(n,cs))++[(x,cs)]):=Hk (by
           rw[List.take_succ_eq_append_getElem au,List.map_append,hx,List.append_assoc];rfl)
          have HF:=Hk (Ai (K.put (Nat.le_refl _) ce aA.out bX a6) (Ai (b1.out.kept a6 (Or.inr (Qk4 b1.out K.map.obj))) (fun u hu=>(a8 u hu).put aA.out K.map.obj a6)));obtain⟨ub,uo,uc,rfl,-,-,-⟩:=ce;obtain⟨bx,aa⟩:∃bx,ba x=bx:=⟨_,rfl⟩;rw[aa] at d1 cZ;generalize cs.length=cn at*;clear K a8 h0 ab hx hu cm bj bX a6 aa c7 dy;go_wp2;go_roundw
          case rel=>exact⟨M+1,by omega,by go_num,_,by rw[ah.out];exact HF.out.1,HF.out.2.1,HF.out.2.2⟩
          case measure=>simp[intOf];omega
         ·obtain rfl:M=no:=by omega
          have HF:Hid (ColS F wr F.heap.size A' (m++j.outs.map fun n=>(n,cs))):=Hk (by
           have:=K;rwa[List.take_of_length_le (by have:=aq.out;omega)] at this)
          clear K aZ a8;go_wp2;go_roundw
          case rel=>exact⟨q+1,by omega,by go_num,A',_,HF.out,cx.out⟩
          case measure=>simp[intOf];omega
    ·obtain rfl:q=J:=by omega
     have cI:Hid (colsO Qbg Qa9 f o=some m):=Hk (by
      unfold colsO;have:=am;rwa[List.take_of_length_le (by rw[bS.out];exact Nat.le_refl _)] at this)
     clear O am;go_wp2;refine bodyPost_ret (v:=.tuple #[.map (some F.heap.size),.nilIface]) (by simp[results,Tryz.results21,go_sem]) rfl ?_;exact⟨aO.out.trans (HS.out.low.mono aO.out.size),Or.inr ⟨m,A,_,cI.out,rfl,aO.out.size,HS.out.map,HS.out.mem,HS.out.ok⟩⟩
end Go.Proofs.YtjlgejennghhlaaGreatDoor.Pl
