import Derived.Test.YtjlgejennghhlaaGreatDoorR01
import Derived.Test.YtjlgejennghhlaaGreatDoorR42
import Derived.Test.YtjlgejennghhlaaGreatDoorR45
set_option linter.unusedSimpArgs false
set_option linter.unusedVariables false
set_option linter.unusedSectionVars false
set_option maxRecDepth 1000000
set_option maxHeartbeats 16000000
namespace Go.Proofs.YtjlgejennghhlaaGreatDoor.Pl
open Go.RowKit Go.Maps
open Fw (By FJob Flw ba Qcl QbK zeroJ)
structure ColS (w1 wr:World) (b:Nat) (A:AM) (m:CM):Prop where
 low:Below w1.heap.size w1 wr
 map:MapC wr b A
 mem:QbM wr A m
 ok:∀c∈m,Qep c.2
theorem ColS.below {D wr w':World} {b:Nat} {A:AM} {m:CM} (h:ColS D wr b A m) (y:Below wr.heap.size wr w'):ColS D w' b A m:=
 ⟨bel_then h.low y,h.map.below y,h.mem.imp h.ok (fun u cs _ hv=>hv.below y),h.ok⟩
theorem ColS.put {y wr w':World} {b:Nat} {A:AM} {m:CM} {n:By} {u:Value} {cs:Cs} (h:ColS y wr b A m) (I:y.heap.size<=b) (H:Qgc wr u cs) (E:Qep cs) (F:MapC w' b (A++[(n,u)])) (D:wr.grownBy w' (some b)):ColS y w' b (A++[(n,u)]) (m++[(n,cs)]):=
 ⟨h.low.grown D h.low.size (fun q hq=>by injection hq with hq;omega),F,(h.mem.imp h.ok (fun u cs hk hv=>hv.put hk h.map.obj D)).snoc (H.put E h.map.obj D),fun c hc2=>by
  rcases List.mem_append.1 hc2 with q|q
  ·exact h.ok c q
  ·rw[List.mem_singleton.1 q];exact E⟩
theorem ColS.len {y wr:World} {b:Nat} {A:AM} {m:CM} (h:ColS y wr b A m):A.length=m.length:=by
 have:=congrArg List.length h.mem.keys;simpa [keysA,keysM] using this
theorem QeW {l:List (By×Int)} (h:Qaj (Qa0 l)=true) (H:∀x∈l,x.1.length<=900):Qep (Qa0 l):=by
 obtain⟨D,E⟩:=Qbr h;refine⟨D,E,fun x hx=>?_⟩;obtain⟨y,F,rfl⟩:=List.mem_map.1 hx;exact Nat.le_trans (H y F) (by decide)
theorem Qp1 {w:World} {v:Value} {l:List (By×Int)} (h:Fw.ColsR w v l) (H:Qep (Qa0 l)):Qgc w v (Qa0 l):=by
 rcases h with ⟨rfl,rfl⟩|⟨b,o,c,rfl,D,F,E⟩
 ·exact absurd H.1 (by decide)
 ·refine⟨b,o,c,by simp[Qa0],by simpa [Qa0] using D,F,fun j hj=>?_⟩;have y:j<l.length:=by simpa [Qa0] using hj
  simpa [Qa0] using E j y
def nmO (f:Flw) (o:List Nat):List By:=f.ins.map (·.name)++(Qbh f o).flatMap (·.outs)
theorem Qis {f:Flw} {o:List Nat} (h:Fine f) (y:Good f o):(nmO f o).Nodup:=(show(nmO f o).Perm (Qaw f) from List.Perm.append_left _ (y.perm_jobs.flatMap_right _)).nodup_iff.2 h.nodup
theorem Qp2 {f:Flw} {o:List Nat} (h:Fw.FlwOK f) (y:Good f o):(nmO f o).length<=16016:=by
 rw[(show(nmO f o).Perm (Qaw f) from List.Perm.append_left _ (y.perm_jobs.flatMap_right _)).length_eq];exact Qhd h
theorem Qdn {l r:List By} {x:By} {m:List By} (y:l.Nodup) (h:l=m++x::r):x∉m:=fun hx=>Qhc h hx y
theorem QoY {f:Flw} {o:List Nat} {k:Nat} (h:k<f.ins.length):∃r,nmO f o=(f.ins.take k).map (·.name)++f.ins[k].name::r:=by
 refine⟨(f.ins.drop (k+1)).map (·.name)++(Qbh f o).flatMap (·.outs),?_⟩;unfold nmO;have e:f.ins=f.ins.take k++f.ins[k]::f.ins.drop (k+1):=by rw[<-List.drop_eq_getElem_cons h,List.take_append_drop]
 conv=>lhs;rw[e]
 simp only[List.map_append,List.map_cons,List.append_assoc,List.cons_append]
theorem Qfd {f:Flw} {o:List Nat} {q:Nat} (h:q<o.length) (y:o[q]<f.jobs.length):Qbh f o=Qbh f (o.take q)++f.jobs[o[q]]::Qbh f (o.drop (q+1)):=by
 have e:o=o.take q++o[q]::o.drop (q+1):=by rw[<-List.drop_eq_getElem_cons h,List.take_append_drop]
 conv=>lhs;rw[e]
 unfold Qbh;rw[List.filterMap_append,List.filterMap_cons,List.getElem?_eq_getElem y]
theorem Qlh {f:Flw} {o:List Nat} {q:Nat} (h:q<o.length) (y:o[q]<f.jobs.length):Qbh f (o.take (q+1))=Qbh f (o.take q)++[f.jobs[o[q]]]:=by
 unfold Qbh;rw[List.take_succ_eq_append_getElem h,List.filterMap_append];simp[List.getElem?_eq_getElem y]
theorem QoZ {f:Flw} {o:List Nat} {q r:Nat} (h:q<o.length) (y:o[q]<f.jobs.length) (E:r<f.jobs[o[q]].outs.length):∃s,nmO f o=(f.ins.map (·.name)++(Qbh f (o.take q)).flatMap (·.outs)++f.jobs[o[q]].outs.take r)++f.jobs[o[q]].outs[r]::s:=by
 refine⟨f.jobs[o[q]].outs.drop (r+1)++(Qbh f (o.drop (q+1))).flatMap (·.outs),?_⟩;unfold nmO;rw[Qfd h y,List.flatMap_append,List.flatMap_cons];have D:f.jobs[o[q]].outs=f.jobs[o[q]].outs.take r++f.jobs[o[q]].outs[r]::f.jobs[o[q]].outs.drop (r+1):=by rw[<-List.drop_eq_getElem_cons E,List.take_append_drop]
 conv=>lhs;rw[D]
 simp only[List.append_assoc,List.cons_append]
theorem Qka (E:FJob->List Cs->Int) (C:FJob->List Cs->Cs):∀(y h:List FJob) (m:CM),runM E C (y++h) m=(runM E C y m).bind (runM E C h)
 |[],h,m=>rfl
 |a::y,h,m=>by
  rw[List.cons_append];unfold runM
  by_cases he:E a (inC m a)=0
  ·rw[if_pos he,if_pos he];exact Qka E C y h _
  ·rw[if_neg he,if_neg he];rfl
structure NextJ (f:Flw) (o:List Nat) (q:Nat) (m:CM) (j:FJob):Prop where
 read:∀n∈j.ins,n∈keysM m
 fresh:∀r (hr:r<j.outs.length),j.outs[r]∉keysM m++j.outs.take r
 step:Qbi j (inC m j)=0->runM Qbi Qba (Qbh f (o.take (q+1))) (Qe1 f)=some (m++j.outs.map fun n=>(n,Qba j (inC m j)))
 fail:Qbi j (inC m j)≠0->colsO Qbi Qba f o=none
 len:m.length+j.outs.length<=16016
theorem QqO {f:Flw} {o:List Nat} {q:Nat} {m:CM} (O:Fine f) (M:Fw.FlwOK f) (H:Good f o) (y:q<o.length) (D:o[q]<f.jobs.length) (h:runM Qbi Qba (Qbh f (o.take q)) (Qe1 f)=some m):NextJ f o q m f.jobs[o[q]]:=by
 obtain⟨r,F,K⟩:=runM_keys h;have E:keysM m=f.ins.map (·.name)++(Qbh f (o.take q)).flatMap (·.outs):=by
  rw[F,keysM,List.map_append,<-keysM,<-keysM,K,keys_ins]
 obtain⟨-,J⟩:=H.jobs;rw[Qfd y D] at J;refine⟨fun n hn=>?_,fun r F=>?_,fun h0=>?_,fun h0=>?_,?_⟩
 ·rw[E,List.mem_append];exact(J _ _ _ rfl n hn).imp id (fun⟨j',a,b⟩=>List.mem_flatMap.2 ⟨j',a,b⟩)
 ·obtain⟨s,N⟩:=QoZ y D F;rw[E];exact Qdn (Qis O H) N
 ·rw[Qlh y D,runM_snoc,h,Option.bind_some,if_pos h0]
 ·unfold colsO;rw[Qfd y D,Qka,h,Option.bind_some];unfold runM;rw[if_neg h0]
 ·have I:=Qp2 M H;unfold nmO at I;rw[Qfd y D,List.flatMap_append,List.flatMap_cons,<-List.append_assoc,<-E,List.length_append,List.length_append] at I;have:(keysM m).length=m.length:=by simp[keysM]
  omega
def Qp3 (A:AM) (l:List By):List Value:=l.map fun n=>(Qbv A n).getD (.slice none 0 0)
theorem heads_of {F:World} {B y:Nat} {J:Value} {A:AM} {m:CM} {l:List By} (h:F.ownsRow B 51 1 J y (Qp3 A l)) (Z:l.length=y) (U:0<y) (M:QbM F A m) (D:∀n∈l,n∈keysM m):∃g gc,J=.slice (some ⟨g,0,none⟩) y gc/\Qf0 F g 0 (l.map fun n=>(QbH m n).getD []):=by
 have I:=h;obtain⟨-,⟨-,hn⟩|⟨g,H,V,rfl,-,-,-,-,-,-⟩⟩:=h
 ·omega
 ·refine⟨g,H,rfl,(I.lt g rfl).2,fun i hi=>?_⟩;have E:i<l.length:=by simpa using hi
  obtain⟨u,cs,N,K,O,-⟩:=M.look (D l[i] (List.getElem_mem E));refine⟨u,?_,?_⟩
  ·rw[Nat.zero_add,I.cellAt i (by omega),Qp3,List.getElem?_map,List.getElem?_eq_getElem E,Option.map_some,N];rfl
  ·rw[List.getElem_map,K];exact O
theorem Qpp {H:World} {A:AM} {m:CM} {j:FJob} (F:QbM H A m) (y:∀c∈m,Qep c.2) (h:∀n∈j.ins,n∈keysM m):∀c∈inC m j,Qep c:=by
 intro c I;obtain⟨n,J,rfl⟩:=List.mem_map.1 I;obtain⟨u,cs,-,D,-,E⟩:=F.look (h n J);rw[D];exact y _ E
theorem Qli {w:World} {B b n z:Nat} {e:TypeId} {v:Value} {xs:List Value} (h:w.ownsRow B e z v n xs) (D:∃es c,w.heap[b]? =some (.map es c)):v.ownBlock≠some b:=by
 intro he;obtain⟨-,⟨rfl,-⟩|⟨g,H,F,rfl,-,E,-⟩⟩:=h
 ·cases he
 ·simp only[Value.ownBlock,Option.some.injEq] at he;subst he;obtain⟨es,c,y⟩:=D;rw[E] at y
  cases y
def Qp4 (f:Flw) (o:List Nat) (w:World) (e:Ending) (w':World):Prop:=Below w.heap.size w w'/\
 ((colsO Qbi Qba f o=none/\∃ev n,e=.returned (.tuple #[.map none,ev])/\n≠0/\AtV w' ev n)\/
  (∃m A b,colsO Qbi Qba f o=some m/\e=.returned (.tuple #[.map (some b),.nilIface])/\w.heap.size<=b/\MapC w' b A/\QbM w' A m/\∀c∈m,Qep c.2))
theorem Qji (f:Flw) (o:List Nat) (vi vj vo ov:Value) (w:World) (h:Fw.FlowRd w f vi vj vo) (hf:Fw.FlwOK f) (hF:Fine f) (hg:Good f o) (ho:Qc8 w ov o)
 (b6:w.cell? ⟨0,0,none⟩=some (.iface 208 (.agg #[.pointer (some ⟨13,34,none⟩)]))):
 Calls Tryz.prog 21 #[.agg #[vi,vj,vo],ov] w fun e w'=>Qp4 f o w e w':=by
 obtain⟨i0,hi,c8,dD,dt⟩:=info_parts Tryz.infoCols;obtain⟨ia,ic,rfl⟩:=row_slice h.ins;obtain⟨ja,jc,rfl⟩:=row_slice h.jobs;obtain⟨I,hI⟩:∃I,f.ins.length=I:=⟨_,rfl⟩;obtain⟨J,hJ⟩:∃J,f.jobs.length=J:=⟨_,rfl⟩;have d7:I<=16:=by rw[<-hI];exact hf.il
 have d4:J<=16:=by rw[<-hJ];exact hf.jl
 have a0:o.length=J:=by rw[<-hJ];exact hg.len
 rw[hI,hJ] at h⊢;obtain⟨E,bY⟩:∃x,w.alloc (.cells #[.slice ia I ic,.slice ja J jc,vo] 29)=x:=⟨_,rfl⟩;have aD:Below w.heap.size w E:=by rw[<-bY];exact Qaa _ _
 have bs:Qcx E w.heap.size (.slice ia I ic) (.slice ja J jc) vo:=by rw[<-bY];exact Qcx.new _ _ _ _ _
 obtain⟨w2,cM⟩:∃x,E.alloc (.map #[] 0)=x:=⟨_,rfl⟩;have bu:ColS E w2 E.heap.size [] []:=by
  rw[<-cM];exact⟨Qaa _ _,MapC.made E,trivial,by simp⟩
 have aN:=Hk aD;have b4:=Hk bs;have HH:=Hk (Ai (h.below aD) hf);have av:=Hk (Ai hF hg);have HO:=Hk (ho.below aD);have bR:=Hk a0;have HI:=Hk hI;have HJ:=Hk hJ;have db:=Hk bu;have cR:Hid (∀V,Below E.heap.size E V->V.cell? ⟨0,0,none⟩=some (.iface 208 (.agg #[.pointer (some ⟨13,34,none⟩)]))):=Hk fun V hV=>cell_below (cell_below b6 aD) hV
 have g1:=(bs.below bu.low).1;have c9:Hid (∀(n:Int) (pl:Int) V,Calls Tryz.prog 51 #[.int .i64 n,.int .i64 pl] V fun e w'=>∃p,e=.returned (.iface 100 (.pointer (some ⟨p,0,none⟩)))/\AtV w' (.iface 100 (.pointer (some ⟨p,0,none⟩))) n/\Below V.heap.size V w'):=Hk fun n pl V=>Qih n pl V
 obtain⟨va,vc,rfl⟩:=QcM ho;rw[a0] at HO⊢;clear h hf hI hJ aD bs hF hg ho b6 bu a0;have em:∀V:World,(Instr.makeMap 32 none).run Tryz.prog V=.ok (.map (some V.heap.size)) (V.alloc (.map #[] 0)):=fun V=>by kernel_rfl
 go_enter Tryz.func21,Tryz.ntmps21;go_wp2;go_loopw [23] (fun i wr=>∃k:Nat,k<=I/\i=.int .i64 k/\∃A,ColS E wr E.heap.size A ((Qe1 f).take k)) (fun i _=>I-(intOf i).toNat)
 case atStart=>exact⟨0,Nat.zero_le _,rfl,[],db.out⟩
 case round=>
  obtain⟨k,hk,rfl,A,N⟩:=hrel;have HS:=Hk N
  by_cases hlt:k<I
  ·have aF:k<f.ins.length:=by rw[HI.out];exact hlt
   obtain⟨b,c,y,cy,hb,v,d0,d1,d2,cu⟩:=Qng (HH.out.1.below N.low) aF;simp only[Value.slice.injEq] at y;obtain⟨rfl,-,rfl⟩:=y;have bF:=HH.out.2.ins _ (List.getElem_mem aF);have aA:=QeW (av.out.1.cols _ (List.getElem_mem aF)) (fun x hx=>(bF.2.2 x hx).1);obtain⟨vb,a1,ay,cZ,eq,dB,ch⟩:=Qp1 cu aA;subst cZ;have ag:Hid ((Qe1 f).take (k+1)=(Qe1 f).take k++[(f.ins[k].name,Qa0 f.ins[k].cols)]):=Hk (by
    rw[List.take_succ_eq_append_getElem (by simpa [Qe1] using aF)];simp[Qe1])
   have b8:Hid (f.ins[k].name∉keysA A):=Hk (by
    rw[N.mem.keys];obtain⟨r,hr⟩:=QoY (o:=o) aF;have:=Qdn (Qis av.out.1 av.out.2) hr;rwa[show keysM ((Qe1 f).take k)=(f.ins.take k).map (·.name) by simp[keysM,Qe1,List.map_take,Function.comp_def]])
   have bi:A.length<=16:=by rw[N.len];simp[Qe1];omega
   have cg:Hid (f.ins[k].name.length<=1000):=Hk (by have:=bF.1;omega);have aP:=Hk aA;obtain⟨M,O⟩:∃x,wr.alloc (.cells #[.int .i64 (f.ins[k].at_:Nat),.string (ba f.ins[k].name),.slice (some ⟨vb,a1,none⟩) (Qa0 f.ins[k].cols).length ay] 57)=x:=⟨_,rfl⟩;have au:Below wr.heap.size wr M:=by rw[<-O];exact Qaa _ _
   have cr:Hid (∀V,Below M.heap.size M V->Calls Tryz.prog 58 #[.slice (some ⟨vb,a1,none⟩) (Qa0 f.ins[k].cols).length ay] V fun e w'=>∃v,e=.returned v/\w'.ownsRow V.heap.size 64 2 v (Qa0 f.ins[k].cols).length (Qal (Qa0 f.ins[k].cols))/\Below V.heap.size V w'):=Hk fun V hV=>by
    have b2:=bel_then au hV;exact QdK vb a1 _ ay (Qa0 f.ins[k].cols) V rfl (by have:=aA.2.1;omega) (by have:=b2.size;omega) (ch.below b2 dB)
   have q1:M.drew.cell? ⟨wr.heap.size,1,none⟩=some (.string (ba f.ins[k].name)):=by rw[<-O];exact World.cell?_alloc_at _ _ _ _ rfl
   have q2:M.drew.cell? ⟨wr.heap.size,2,none⟩=some (.slice (some ⟨vb,a1,none⟩) (Qa0 f.ins[k].cols).length ay):=by rw[<-O];exact World.cell?_alloc_at _ _ _ _ rfl
   have eu:wr.heap.size<M.drew.heap.size:=by show wr.heap.size<M.heap.size;rw[<-O];simp
   have bo:=Hk ((HS.out.below au).below ((Below.refl _ M).drew));have bh:=Hk q1;obtain⟨nm,b5⟩:∃nm,f.ins[k].name=nm:=⟨_,rfl⟩;obtain⟨cs,aJ⟩:∃cs,Qa0 f.ins[k].cols=cs:=⟨_,rfl⟩;rw[aJ] at ag aP cr q2 O d2;rw[b5] at ag b8 cg q1 bh d1 O;generalize f.ins[k].at_=pl at*;obtain⟨bx,Z⟩:∃bx,ba nm=bx:=⟨_,rfl⟩;rw[Z] at q1 bh d1 O;have dw:=Hk Z;clear cu bF aA ch N au b5 aJ Z;generalize bT:cs.length=cn at*;have b7:=Hk bT;clear bT;go_wp2_with fail;go_region_law (first|(go_simp;go_at_call 58;refine(cr.out _ ((Below.refl _ M).drew)).mono ?_;rintro e4 w4 ⟨v4,rfl,bD,bK⟩;have cc:=Hk bD;have ei:=cell_below bh.out bK;have D:=Hk (bo.out.below bK);obtain⟨w5,dp,bZ,cv,ej⟩:=D.out.map.put b8.out (by omega) cg.out v4;rw[dw.out] at dp;have be:=Hk (Ai bZ cv);obtain⟨a4,c4,rfl⟩:=own_slice bD;clear bD bK bZ cv))
   all_goals have aI:=Hk (D.out.put (Nat.le_refl _) (Qgc.of (by have:=cc.out;rw[<-b7.out] at this;exact this) aP.out) aP.out (by have:=be.out.1;rw[<-b7.out] at this;exact this) (be.out.2))
   all_goals rw[<-ag.out] at aI
   all_goals clear be cc D
   all_goals go_wp2
   all_goals go_roundw
   all_goals first
    |exact⟨k+1,by omega,by go_num,_,aI.out⟩
    |(simp[intOf];omega)
  ·obtain rfl:k=I:=by omega
   have hA:(Qe1 f).take k=Qe1 f:=List.take_of_length_le (by simp[Qe1];have:=HI.out;omega);rw[hA] at HS N;have g2:=(b4.out.below N.low).2.1;have bV:Hid (runM Qbi Qba (Qbh f (o.take 0)) (Qe1 f)=some (Qe1 f)):=Hk (by simp[Qbh,runM]);clear N hA;go_wp2;go_loopw [36] (fun i wr=>∃q:Nat,q<=J/\i=.int .i64 q/\∃A m,ColS E wr E.heap.size A m/\runM Qbi Qba (Qbh f (o.take q)) (Qe1 f)=some m) (fun i _=>J-(intOf i).toNat)
   case atStart=>exact⟨0,Nat.zero_le _,rfl,A,_,HS.out,bV.out⟩
   case round=>
    clear HS bV g2;obtain⟨q,hq,rfl,A,m,N,al⟩:=hrel;obtain⟨wb,ca⟩:∃x,x=wr:=⟨_,rfl⟩;rw[<-ca] at N⊢;clear ca;have HS:=Hk N;have ef:=Hk al
    by_cases hlt2:q<J
    ·have aL:q<o.length:=by rw[bR.out];exact hlt2
     have aW:o[q]<f.jobs.length:=(av.out.2.mem _).1 (List.getElem_mem aL);have U:=Hk (QqO av.out.1 HH.out.2 av.out.2 aL aW al);rcases HO.out with ⟨-,y⟩|⟨ob,oo,oc,y,dP,dc,aM⟩
     ·rw[y] at aL;exact absurd aL (by simp)
     simp only[Value.slice.injEq] at y;obtain⟨rfl,-,rfl⟩:=y;have dO:=(N.low.cell (p:=⟨ob,oo+q,none⟩) dc).trans (aM q aL);obtain⟨b,c,y,cy,hb,ao,ai,ac,bA,bf,bG,bj⟩:=Qf2 HH.out.1 aW;simp only[Value.slice.injEq] at y;obtain⟨rfl,-,rfl⟩:=y;have aE:wb.rangeAt b (o[q]*15) (Fw.jobV f.jobs[o[q]] ao ai ac):=fun j u hj=>(N.low.cell (p:=⟨b,o[q]*15+j,none⟩) hb).trans (bA j u hj)
     have aj:=Qdz bf bG bj;have F:=Hk (HH.out.2.jobs _ (List.getElem_mem aW));have g2:=(b4.out.below N.low).2.1;have cS:((o[q]:Nat):Int)<(J:Int):=by have:=HJ.out;omega
     obtain⟨jn,bq⟩:∃jn,o[q]=jn:=⟨_,rfl⟩;obtain⟨j,hj⟩:∃j,f.jobs[o[q]]=j:=⟨_,rfl⟩;rw[hj] at aE aj F U;have bp:Hid (Fw.StrsR E ao j.outs):=Hk (by rw[<-hj];exact bf);have b1:Hid (Fw.StrsR E ai j.ins):=Hk (by rw[<-hj];exact bG);have cV:Hid (Fw.StrsR E ac j.cols):=Hk (by rw[<-hj];exact bj);rw[bq] at dO aE cS;clear bf bG bj bA aM hj bq al aW;obtain⟨oa,bI,dv⟩:=strs_slice bp.out;obtain⟨na,nc,cU⟩:=strs_slice b1.out;subst dv;subst cU;obtain⟨JL,ah⟩:∃JL,Fw.jobV j (.slice oa j.outs.length bI) (.slice na j.ins.length nc) ac=JL:=⟨_,rfl⟩;have b9:JL[2]? =some (.slice oa j.outs.length bI):=by rw[<-ah];rfl
     have cq:JL[3]? =some (.slice na j.ins.length nc):=by rw[<-ah];rfl
     have bX:JL[0]? =some (.int .i64 (j.at_:Nat)):=by rw[<-ah];rfl
     have dj:JL.length=15:=by rw[<-ah];rfl
     have du:=Hk ah;rw[ah] at aE aj;obtain⟨M,O,au,bk,bS,br,cm⟩:=Qhe wb JL dj aj;have dK:=Hk aE;have cP:=Hk aj;have bt:=Hk br;have dE:=Hk cm;have ds:=Hk O;have dq:=Hk bk;have dn:=bk.cell 3 cq;have bo:=Hk (HS.out.below au);have cQ:=Hk bX;have dd:=Hk b9;have dL:Hid (0<j.ins.length):=Hk (by have:=(Qf1 F.out).2;omega);obtain⟨ni,a6⟩:∃ni,j.ins.length=ni:=⟨_,rfl⟩;have aO:=Hk a6;have ex:ni<=1000:=by rw[<-a6];exact F.out.il
     rw[a6] at dn;have dX:=Hk bS;clear N aE aj br cm O bk au ah b9 cq bX HS bS;go_wp2_with (first|(refine wpList_load_mid rfl 50 (.tmp 43) rfl b (jn*15) rfl JL _ dK.out Tryz.underlying50 rfl bt.out ?_)|(refine wpList_store_mid rfl 50 (.tmp 11) (.tmp 44) rfl wb.heap.size 0 JL.toArray rfl rfl dE.out bt.out cP.out ?_;rw[show JL.toArray.toList=JL from rfl,<-ds.out]));clear a6;go_loopw [12,48] (fun iv i wr=>∃r:Nat,r<=ni/\i=.int .i64 r/\wr.ownsRow M.heap.size 51 1 iv r (Qp3 A (j.ins.take r))/\Below M.heap.size M wr) (fun _ i _=>ni-(intOf i).toNat)
     case atStart=>exact⟨0,Nat.zero_le _,rfl,World.ownsRow_nil _ _ _ _,Below.refl _ _⟩
     case round=>
      obtain⟨r,hr,rfl,ad,aq⟩:=hrel;obtain⟨la,lc,rfl⟩:=own_slice ad;have HX:=Hk (Ai ad aq);have ep:=aq.size;have D:=Hk (bo.out.below aq)
      by_cases hlt3:r<ni
      ·have am:r<j.ins.length:=by have:=aO.out;omega
       rcases b1.out with ⟨-,y⟩|⟨nb,no,ek,y,dQ,dm,aa⟩
       ·rw[y] at am;exact absurd am (by simp)
       simp only[Value.slice.injEq] at y;obtain⟨rfl,-,rfl⟩:=y;have d1:=(D.out.low.cell (p:=⟨nb,no+r,none⟩) dm).trans (aa r am);obtain⟨x,hx⟩:∃x,j.ins[r]=x:=⟨_,rfl⟩;have aK:x∈j.ins:=by rw[<-hx];exact List.getElem_mem am
       rw[hx] at d1;obtain⟨u,cs,bB,-,dr,-⟩:=D.out.mem.look (U.out.read x aK);have aX:=D.out.map.look x (F.out.is x aK) false;rw[bB] at aX;obtain⟨ub,uo,uc,rfl,-,-,-⟩:=dr;have ag:Hid (Qp3 A (j.ins.take r)++[.slice (some ⟨ub,uo,none⟩) cs.length uc]=Qp3 A (j.ins.take (r+1))):=Hk (by
        rw[List.take_succ_eq_append_getElem am,Qp3,Qp3,List.map_append,hx];simp[bB])
       obtain⟨bx,Z⟩:∃bx,ba x=bx:=⟨_,rfl⟩;rw[Z] at d1 aX;simp only[Option.getD_some,Bool.false_eq_true,if_false] at aX;generalize cs.length=cn at*;clear ad aq aa hx Z aK bB;go_wp2_with (first|(at_builtin;refine wpList_append_own _ rfl _ _ 123 rfl M.heap.size 51 i0 (.slice none 0 0) 1 24 Tryz.underlying123 hi c8 dD dt rfl (by decide) _ _ _ rfl (HX.out.1.alloc _) ⟨wr.heap.size,0,none⟩ 1 1 [.slice (some ⟨ub,uo,none⟩) cn uc] rfl rfl (news1 _ _ _ _ rfl) (Qc4 _ _ _) ?c3 ?c4 ?c5 ?_))
       case c3=>unfold maxLen;omega
       case c4=>omega
       case c5=>simp;omega
       intro v' w5 aB a3 _;have bn:Below M.heap.size M w5:=(HX.out.2.alloc (by omega) _).grown a3 (by simp;omega) (fun q hq=>(HX.out.1.lt q hq).1);rw[ag.out] at aB;have HF:=Hk (Ai aB bn);clear aB a3 bn aX;go_wp2;go_roundw
       case rel=>exact⟨r+1,by omega,by go_num,HF.out.1,HF.out.2⟩
       case measure=>simp[intOf];omega
      ·obtain rfl:r=ni:=by omega
       have a8:j.ins.take r=j.ins:=List.take_of_length_le (by have:=aO.out;omega);rw[a8] at ad;obtain⟨g,gc,y,cj⟩:=heads_of ad aO.out (by have:=aO.out;have:=dL.out;omega) D.out.mem U.out.read;simp only[Value.slice.injEq,true_and] at y;obtain⟨rfl,rfl⟩:=y;have aR:=D.out.low;have bE:=Hk (QoG j (.slice oa j.outs.length bI) (.slice na j.ins.length nc) ac (inC m j) g 0 lc wr F.out (bp.out.below aR) (cV.out.below aR) cj (Qpp D.out.mem D.out.ok U.out.read) (by simp[inC]));rw[du.out,show(inC m j).length=r by simp[inC];exact aO.out] at bE;have bz:=Hk (dq.out.below aq);have bv:=bz.out.range;have dz:=Hk bv;clear ad aq a8 cj aR bv;go_wp2_with (first|(refine wpList_load_mid rfl 50 (.tmp 11) rfl wb.heap.size 0 rfl JL _ dz.out Tryz.underlying50 rfl bt.out ?_)|(go_at_call 59;fail));refine bE.out.mono ?_;rintro e5 w5 ⟨aw,⟨hE,rfl⟩|⟨hE,v5,ax,rfl,a2,bC⟩⟩
       ·have ap:=Hk (Ai (U.out.fail hE) hE);have dl:=Hk (bz.out.below aw);have co:=Hk (bel_then D.out.low aw);obtain⟨en,cp⟩:∃en,Qbi j (inC m j)=en:=⟨_,rfl⟩;rw[cp] at ap⊢;have aU:Hid (∀V,Below w5.heap.size w5 V->V.cell? ⟨wb.heap.size,0,none⟩=some (.int .i64 (j.at_:Nat))):=Hk fun V hV=>(dl.out.below hV).cell 0 cQ.out
        have G0:=Hk (aU.out w5.drew (Below.refl _ w5).drew);have bH:Hid (Below w5.heap.size w5 w5.drew):=Hk (Below.refl _ w5).drew;have dy:Hid (∀V,Below w5.heap.size w5 V->Calls Tryz.prog 23 #[.iface 37 (.int .i64 en)] V fun ev w'=>ev=.returned (.int .i64 en)/\Below V.heap.size V w'):=Hk fun V hV=>Dk.tell_any en V (cR.out V (bel_then co.out hV))
        clear aw hE cp;go_wp2_with fail
        go_region_held3 (fun V=>V.cell? ⟨wb.heap.size,0,none⟩=some (.int .i64 (j.at_:Nat))) (first|exact G0.out|exact G1.out|exact G2.out) (first|(go_at_call 23;refine(dy.out _ bH.out).mono ?_;rintro e6 w6 ⟨rfl,cf⟩;have bm:=Hk (bH.out.trans (cf.mono bH.out.size));have G1:=Hk (aU.out w6 bm.out);clear cf)|(go_at_call 51;refine(c9.out _ _ _).mono ?_;rintro e7 w7 ⟨p,rfl,cb,ct⟩;have dI:=Hk cb;have ci:=Hk (bm.out.trans (ct.mono bm.out.size));have G2:=Hk (aU.out w7 ci.out);clear cb ct))
        all_goals go_wp2
        all_goals refine bodyPost_ret (v:=.tuple #[.map none,.iface 100 (.pointer (some ⟨p,0,none⟩))]) (by simp[results,Tryz.results21,go_sem]) rfl ?_
        all_goals exact⟨aN.out.trans ((bel_then co.out ci.out).mono aN.out.size),Or.inl ⟨ap.out.1,_,en,rfl,ap.out.2,dI.out⟩⟩
       ·have az:=Hk (QoE F.out (by simp[inC]) (Qpp D.out.mem D.out.ok U.out.read) hE);have cw:=Hk (U.out.step hE);have aI:=Hk (D.out.below aw);have ce:=bz.out.below aw;have di:=ce.cell 2 dd.out;obtain⟨cs,aJ⟩:∃cs,Qba j (inC m j)=cs:=⟨_,rfl⟩;rw[aJ] at az cw bC;have b3:Hid (∀u∈ax,Qgc w5 u cs):=Hk (fun u hu=>Qgc.of (bC u hu) az.out);have bw:=Hk (own_mono (Nat.zero_le _) a2);obtain⟨no,aZ⟩:∃no,j.outs.length=no:=⟨_,rfl⟩;have ap:=Hk aZ;have a0:no<=1000:=by rw[<-aZ];exact F.out.ol
        obtain⟨sa,sc,rfl⟩:=own_slice a2;rw[aZ] at di bw a2⊢;clear aw hE aJ bC ce a2 aZ;go_wp2;go_loopw [75] (fun i wy=>∃r:Nat,r<=no/\i=.int .i64 r/\∃A',ColS E wy E.heap.size A' (m++(j.outs.take r).map fun n=>(n,cs))/\wy.ownsRow 0 51 1 (.slice sa no sc) no ax/\∀u∈ax,Qgc wy u cs) (fun i _=>no-(intOf i).toNat)
        case atStart=>exact⟨0,Nat.zero_le _,rfl,A,by simpa using aI.out,bw.out,b3.out⟩
        case round=>
         clear aI bw b3;obtain⟨K,am,rfl,A',H,aY,a7⟩:=hrel;have el:=Hk H
         by_cases hlt4:K<no
         ·have ar:K<j.outs.length:=by have:=ap.out;omega
          rcases bp.out with ⟨-,y⟩|⟨tb,dF,ew,y,dN,cX,aa⟩
          ·rw[y] at ar;exact absurd ar (by simp)
          simp only[Value.slice.injEq] at y;obtain⟨rfl,-,rfl⟩:=y;have d1:=(H.low.cell (p:=⟨tb,dF+K,none⟩) cX).trans (aa K ar);obtain⟨x,hx⟩:∃x,j.outs[K]=x:=⟨_,rfl⟩;have aK:x∈j.outs:=by rw[<-hx];exact List.getElem_mem ar
          rw[hx] at d1;have b0:=Hk aY;have h0:=aY;obtain⟨c6,⟨-,eo⟩|⟨g2,ec,d9,e1,-⟩⟩:=aY
          ·omega
          simp only[Value.slice.injEq,true_and] at e1;obtain⟨rfl,rfl⟩:=e1;have bU:K<ax.length:=by omega
          have c1:wr.cell? ⟨g2,K,none⟩=some ax[K]:=by
           rw[h0.cellAt K (by omega),List.getElem?_eq_getElem bU]
          obtain⟨u,hu⟩:∃u,ax[K]=u:=⟨_,rfl⟩;have cd:=a7 u (by rw[<-hu];exact List.getElem_mem bU);rw[hu] at c1;have ck:x∉keysA A':=by
           rw[H.mem.keys,show keysM (m++(j.outs.take K).map fun n=>(n,cs))=keysM m++j.outs.take K by simp[keysM,Function.comp_def],<-hx];exact U.out.fresh K ar
          have bi:A'.length<1000000:=by
           rw[H.len,List.length_append,List.length_map,List.length_take];have:=U.out.len;omega
          obtain⟨w7,cY,bW,a5,dx⟩:=H.map.put ck bi (F.out.os x aK) u;have ag:Hid (m++(j.outs.take (K+1)).map (fun n=>(n,cs))=(m++(j.outs.take K).map fun n=>(n,cs))++[(x,cs)]):=Hk (by
           rw[List.take_succ_eq_append_getElem ar,List.map_append,hx,List.append_assoc];rfl)
          have HF:=Hk (Ai (H.put (Nat.le_refl _) cd az.out bW a5) (Ai (b0.out.kept a5 (Or.inr (Qli b0.out H.map.obj))) (fun u hu=>(a7 u hu).put az.out H.map.obj a5)));obtain⟨ub,uo,uc,rfl,-,-,-⟩:=cd;obtain⟨bx,Z⟩:∃bx,ba x=bx:=⟨_,rfl⟩;rw[Z] at d1 cY;generalize cs.length=cn at*;clear H a7 h0 aa hx hu ck bi bW a5 Z c6 dx;go_wp2;go_roundw
          case rel=>exact⟨K+1,by omega,by go_num,_,by rw[ag.out];exact HF.out.1,HF.out.2.1,HF.out.2.2⟩
          case measure=>simp[intOf];omega
         ·obtain rfl:K=no:=by omega
          have HF:Hid (ColS E wr E.heap.size A' (m++j.outs.map fun n=>(n,cs))):=Hk (by
           have:=H;rwa[List.take_of_length_le (by have:=ap.out;omega)] at this)
          clear H aY a7;go_wp2;go_roundw
          case rel=>exact⟨q+1,by omega,by go_num,A',_,HF.out,cw.out⟩
          case measure=>simp[intOf];omega
    ·obtain rfl:q=J:=by omega
     have cH:Hid (colsO Qbi Qba f o=some m):=Hk (by
      unfold colsO;have:=al;rwa[List.take_of_length_le (by rw[bR.out];exact Nat.le_refl _)] at this)
     clear N al;go_wp2;refine bodyPost_ret (v:=.tuple #[.map (some E.heap.size),.nilIface]) (by simp[results,Tryz.results21,go_sem]) rfl ?_;exact⟨aN.out.trans (HS.out.low.mono aN.out.size),Or.inr ⟨m,A,_,cH.out,rfl,aN.out.size,HS.out.map,HS.out.mem,HS.out.ok⟩⟩
end Go.Proofs.YtjlgejennghhlaaGreatDoor.Pl
