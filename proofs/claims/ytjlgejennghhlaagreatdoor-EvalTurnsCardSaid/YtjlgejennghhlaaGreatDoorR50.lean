import Derived.Maps.RangeWalk
import Derived.Laws.IdiomRangeMap
import Derived.Deep.RegionHeldLaw
import Derived.Laws.AppendOwnNone
import Derived.Test.YtjlgejennghhlaaGreatDoorR01
import Derived.Test.YtjlgejennghhlaaGreatDoorR49
import Derived.Test.YtjlgejennghhlaaGreatDoorR13
import Derived.Test.YtjlgejennghhlaaGreatDoorR48
set_option linter.unusedSimpArgs false
set_option linter.unusedVariables false
set_option linter.unusedSectionVars false
set_option maxRecDepth 1000000
set_option maxHeartbeats 16000000
namespace Go.Proofs.YtjlgejennghhlaaGreatDoor.Pl.Ev
open Go.RowKit Go.Maps
open Fw (By FJob Flw ba)
def Qpr (m:TM):Prop:=∀x∈m,Qb5 x.2.1 x.2.2=true
theorem Qkd {D:DataW Value} {A:AM} {n:By} {v:Value} (h:Dk.Sees D (Qlx A)) (y:∀zd,D.atKey (.string n) zd=.held v):Qbv A n=some v:=by
 have F:=(h.2 (.string n)).2
 show Qlx A (.string n)=some v
 cases hm:Qlx A (.string n) with
 |none=>
  have E:=(y (.held (.bool true))).symm.trans (F _);have H:=(y (.held (.bool false))).symm.trans (F _);rw[hm] at E H;have:=E.symm.trans H;simp at this
 |some v'=>
  have E:=(y .nil).symm.trans (F _);rw[hm] at E;exact congrArg some (DataW.held.inj E).symm
theorem Qiv {m:TM} {x:By×Tb} (D:(keysT m).Nodup) (h:x∈m):QaP m x.1=some x.2:=by
 induction m with
 |nil=>cases h
 |cons y r ih=>
  simp only[keysT,List.map_cons,List.nodup_cons] at D;unfold QaP;rcases List.mem_cons.1 h with rfl|h
  ·simp
  ·have E:y.1≠x.1:=fun e=>D.1 (by rw[e];exact List.mem_map.2 ⟨x,h,rfl⟩)
   rw[List.find?_cons_of_neg (by simpa using E)];exact ih D.2 h
theorem Qo3 {x:By} {h:Lit}:(Lit.string x).sameKey h=true↔h=.string x:=by
 cases h with
 |string y=>simp[Lit.sameKey];exact eq_comm
 |_=>simp[Lit.sameKey]
theorem Qns (w:World):Calls Tryz.prog 5 #[.map none] w fun e w'=>e=.returned (.bool true)/\Below w.heap.size w w':=by
 have h:∀ty,(Builtin.len_ #[22] ty #[.map none]).run Tryz.prog w=.ok (.int .i64 0) w:=fun ty=>Maps.len_nil Tryz.underlying22 ty
 have D:=run_range_nilMap (P:=Tryz.prog) w 22 9 54 Tryz.underlying22;have y:∀ty,(Instr.next (.pointer (some ⟨w.heap.size,0,none⟩)) false ty).run Tryz.prog (w.alloc (.mapIter none 0 #[] 0))=_:=fun ty=>run_next_nilMap w ty 0 0 #[]
 go_enter Tryz.func5,Tryz.ntmps5;go_wp2;refine wp_loop_rounds 1 ?_;rw[rounds_succ];go_wp2;go_ret;exact⟨rfl,Qaa _ _⟩
theorem Qnt (b:Nat) (A:AM) (m:TM) (w:World) (hM:MapC w b A) (hH:QaV w A m):Calls Tryz.prog 5 #[.map (some b)] w fun e w'=>∃r,e=.returned (.bool r)/\(r=true->Qpr m)/\Below w.heap.size w w':=by
 have a5:∀ty,(Builtin.len_ #[22] ty #[.map (some b)]).run Tryz.prog w=.ok (.int .i64 (A.length:Nat)) w:=fun ty=>Qfc hM ty
 by_cases h6:6<A.length
 ·have a2:(6:Int)<(A.length:Int):=by omega
  go_enter Tryz.func5,Tryz.ntmps5;go_wp2;go_ret;exact⟨false,rfl,(fun h=>by cases h),Below.refl _ _⟩
 ·have a2:¬(6:Int)<(A.length:Int):=by omega
  obtain⟨D,aq,aj,aK⟩:=hM.is;have al:=Hk (Ai aj hM);have HH:=Hk hH;have aV:Hid (keysT m).Nodup:=Hk (by rw[<-hH.keys];exact hM.nd);clear hM hH h6 aj aK;generalize A.length=N at*;go_enter Tryz.func5,Tryz.ntmps5;go_wp2_with (first|(at_range;refine wpList_range_own _ rfl _ 22 rfl 9 54 QbP Tryz.underlying22 Dk.Rv b N D rfl aq ?_;intro aY af I aO));have aJ:=Hk af;have au:=Hk (show Below w.heap.size w aY from⟨I.os,I.tape,I.output,I.size,fun k hk=>I.block k hk (by simp)⟩);clear aq I aO af
  try go_frame
  go_loopw [] (fun wr=>∃left ap,wr.ranges Tryz.prog 9 Dk.Rv b w.heap.size N D left ap/\Below w.heap.size w wr/\∀x∈m,left (.string x.1)=false->Qb5 x.2.1 x.2.2=true) (fun wr=>wr.rangeLeft b w.heap.size)
  case atStart=>
   refine⟨_,_,aJ.out,au.out,fun x hx h0=>?_⟩;have h1:=(al.out.1.2 (.string x.1)).1;rw[h0] at h1;obtain⟨u,t,hu,-⟩:=HH.out.look (n:=x.1) (List.mem_map.2 ⟨x,hx,rfl⟩);have h1:false=(Qbv A x.1).isSome:=h1;rw[hu] at h1;cases h1
  case round=>
   obtain⟨left,ap,V,aG,aD⟩:=hrel;have J:=Hk aG;have RG:=Hk V;have aB:=Hk aD;clear aJ au aG aD;go_wp2_with (first|(at_next;refine wpList_next_ranges _ rfl _ rfl 9 QbP Dk.Rv Value.string (fun v:Value=>v) (fun key kl h=>by obtain⟨x,rfl,_⟩:=Qf7 h;exact⟨x,rfl⟩) (fun v y _=>⟨v,rfl⟩) b w.heap.size N D left ap rfl V ?_ ?_)|go_in)
   ·intro aZ aA;have aN:Hid (Qpr m):=Hk fun x hx=>aB.out x hx (aA _)
    clear aZ aA V;go_wp2;go_ret;exact⟨true,rfl,fun _=>aN.out,J.out⟩
   ·intro kx v kl ya yb K a4 aa aE hv av U O H ar be;obtain⟨bf,ek,aC,a3⟩:=Qf7 aa;injection ek with ek;subst ek a3;have hy:ya=.held v:=(congrArg Prod.fst (Option.some.inj hv)).symm;subst hy;have ae:=Qkd al.out.1 av;have M:Below w.heap.size w K:=⟨H.os.trans J.out.os,H.tape.trans J.out.tape,H.output.trans J.out.output,Nat.le_trans J.out.size H.size,fun k hk=>(H.block k (Nat.lt_of_lt_of_le hk J.out.size) (by intro q;injection q with q;omega)).trans (J.out.block k hk)⟩;have Z:kx.data.toList∈keysT m:=by
     rw[<-HH.out.keys];exact List.mem_map.2 ⟨_,QeH ae,rfl⟩
    obtain⟨v',t,ak,ax,aw,aI⟩:=HH.out.look Z;obtain rfl:v=v':=Option.some.inj (ae.symm.trans ak);have aw:=aw.below M;obtain⟨vc,vr,rfl,aH,az⟩:=aw;obtain⟨ah,ac⟩:∃x,K.alloc (.cells #[vc,vr] 54)=x:=⟨_,rfl⟩;have E:Below K.heap.size K ah:=by rw[<-ac];exact Qaa _ _
    have ag:=Hk (QlS vc vr t.1 t.2 ah (aH.below E) (az.is.below E));have d0:ah.cell? ⟨K.heap.size,0,none⟩=some vc:=by rw[<-ac];exact World.cell?_alloc_at _ _ _ _ rfl
    have d1:ah.cell? ⟨K.heap.size,1,none⟩=some vr:=by rw[<-ac];exact World.cell?_alloc_at _ _ _ _ rfl
    have ai:=Hk (bel_then M E);have aM:=Hk (U.kept (row:=none) ⟨E.os,E.tape,E.output,E.size,fun k hk _=>E.block k hk⟩ (by simp) (by simp));have aW:=Hk O;have ao:Hid (Qb5 t.1 t.2=true->∀x∈m,(left (.string x.1)&& !(Lit.string x.1).sameKey (.string kx.data.toList))=false->Qb5 x.2.1 x.2.2=true):=Hk fun hs x hx h0=>by
     cases hq:left (.string x.1) with
     |false=>exact aB.out x hx hq
     |true=>
      rw[hq,Bool.true_and] at h0;have h1:(Lit.string x.1).sameKey (.string kx.data.toList)=true:=by simpa using h0
      have e:kx.data.toList=x.1:=Lit.string.inj (Qo3.1 h1);have h2:=Qiv aV.out hx;rw[<-e,ax] at h2;rw[<-Option.some.inj h2];exact hs
    obtain⟨ca,cc,rfl,-⟩:=aH;obtain⟨ra,rc,rfl,-⟩:=az
    cases hsb:Qb5 t.1 t.2 with
    |true=>
     have aX:=Hk (ao.out hsb);rw[hsb] at ag;clear V aa aE hv av U O H ar ae M E ak ax aI aC Z ao hsb;generalize t.1.length=tn at*;generalize t.2.length=tm at*;go_wp2_with (go_at_call 16;refine ag.out.mono ?_;rintro aU a1 ⟨rfl,F⟩;have ab:=Hk (bel_then ai.out F);have aF:=Hk (aM.out.kept (row:=none) ⟨F.os,F.tape,F.output,F.size,fun k hk _=>F.block k hk⟩ (by simp) (by simp));clear F);go_roundw
     case rel=>exact⟨_,_,aF.out,ab.out,aX.out⟩
     case measure=>rw[aF.out.left_eq,RG.out.left_eq];exact aW.out
    |false=>
     rw[hsb] at ag;clear V aa aE hv av U O H ar ae M E ak ax aI aC Z ao hsb;generalize t.1.length=tn at*;generalize t.2.length=tm at*;go_wp2_with (go_at_call 16;refine ag.out.mono ?_;rintro aU a1 ⟨rfl,F⟩;have ab:=Hk (bel_then ai.out F);clear F);go_ret;exact⟨false,rfl,(fun h=>by cases h),ab.out⟩
end Go.Proofs.YtjlgejennghhlaaGreatDoor.Pl.Ev
namespace Go.Proofs.YtjlgejennghhlaaGreatDoor.Pl
open Go.RowKit Go.Maps Go.Shelf
open Fw (By FJob Flw ba Qcl QbK zeroJ)
theorem QaU.one {f:Flw} {o y:List Nat} {m D:CM} (h:QaU f o m) (E:QaU f y D):o=y/\m=D:=by
 have e:o=y:=Option.some.inj (h.2.1.symm.trans E.2.1);subst e;exact⟨rfl,Option.some.inj (h.2.2.symm.trans E.2.2)⟩
theorem Fine.turn {f g:Flw} (h:Fine f) (E:g.ins=f.ins) (D:g.jobs.Perm f.jobs) (F:g.outs=f.outs):Fine g:=
 have y:=Qel E D
 ⟨fun i hi2=>h.cols i (by rw[<-E];exact hi2),y.nodup_iff.2 h.nodup,fun j hj n hn=>y.mem_iff.2 (h.reads j (D.mem_iff.1 hj) n hn),fun o ho2=>y.mem_iff.2 (h.outs o (by rw[<-F];exact ho2)),by rw[F];exact h.told⟩
theorem Qp9 {f g:Flw} {o:List Nat} {m:CM} (h:QaU f o m) (E:g.ins=f.ins) (D:g.jobs.Perm f.jobs) (N:g.outs=f.outs):∃H y,QaU g H y/\(∀n,QbH m n=QbH y n)/\m.length=y.length:=by
 have K:=QbA h.2.1;obtain⟨V,ht⟩:=K.jobs;obtain⟨H,F⟩:=Qk4 (f:=g) (Qbh f o) (fun j=>(V j).trans D.mem_iff.symm) (by rw[E];exact ht);obtain⟨Z,M⟩:=run_sol h.1.nodup K h.2.2;obtain⟨y,J,U,I⟩:=sol_run (Z.turn E D) (QbA F);refine⟨H,y,⟨h.1.turn E D N,F,J⟩,fun n=>(U n).symm,?_⟩;have O:=M.length_eq;have e2:=I.length_eq;have e3:=(Qel E D).length_eq;simp only[keysM,List.length_map] at O e2;omega
def Qlz (f:Flw) (k:Nat):Flw:=⟨f.ins,f.jobs.drop k++f.jobs.take k,f.outs⟩
theorem Qfe (f:Flw) (k:Nat):(Qlz f k).jobs.Perm f.jobs:=by
 show(f.jobs.drop k++f.jobs.take k).Perm f.jobs
 have:=List.perm_append_comm (l₁:=f.jobs.drop k) (l₂:=f.jobs.take k);rwa[List.take_append_drop] at this
theorem Qnu (f:Flw) (k:Nat):(Qlz f k).jobs.length=f.jobs.length:=(Qfe f k).length_eq
theorem QqR {f:Flw} (h:Fw.FlwOK f) (k:Nat):Fw.FlwOK (Qlz f k):=⟨h.ins,fun a ha=>h.jobs a ((Qfe f k).mem_iff.1 ha),h.outs,h.il,by rw[Qnu];exact h.jl,h.ol⟩
theorem QgN (F:Nat->List Value):∀(I:List Nat),(∀x∈I,(F x).length=15)->(I.flatMap F).length=I.length*15
 |[],_=>rfl
 |a::r,h=>by
  rw[List.flatMap_cons,List.length_append,h a (by simp),QgN F r (fun x hx=>h x (by simp[hx])),List.length_cons];omega
theorem Qga (F:Nat->List Value):∀(I:List Nat),(∀x∈I,(F x).length=15)->∀(p:Nat) (y:p<I.length) (r:Nat),r<15->(I.flatMap F)[p*15+r]? =(F I[p])[r]?
 |[],_,p,y,_,_=>absurd y (by simp)
 |a::l,h,0,y,r,hr=>by
  rw[List.flatMap_cons,Nat.zero_mul,Nat.zero_add,List.getElem?_append_left (by rw[h a (by simp)];exact hr)];rfl
 |a::l,h,p+1,y,r,hr=>by
  have D:=h a (by simp);rw[List.flatMap_cons,List.getElem?_append_right (by rw[D];omega),D,show(p+1)*15+r-15=p*15+r by omega,Qga F l (fun x hx=>h x (by simp[hx])) p (by simpa using y) r hr];rfl
structure JC (w:World) (b:Nat) (l:List FJob) (j:Nat) (xs:List Value):Prop where
 len:xs.length=15
 one:∀u∈xs,u.oneCell'=true
 at_:w.rangeAt b (j*15) xs
 job:∃a vo vi vc,l[j]? =some a/\xs=Fw.jobV a vo vi vc/\Fw.StrsR w vo a.outs/\Fw.StrsR w vi a.ins/\Fw.StrsR w vc a.cols
theorem Qlm {w:World} {b n:Nat} {l:List FJob} (h:∀j,j<n->Fw.JobCellsAt l j w b (j*15)):∃F:Nat->List Value,∀j,j<n->JC w b l j (F j):=by
 have y:∀j,j<n->∃xs,JC w b l j xs:=fun j hj=>by
  obtain⟨a,I,H,D,M,K,J,E,h5⟩:=h j hj;refine⟨Fw.jobV a I H D,rfl,fun u hu=>?_,fun i u hu=>K i u hu,a,I,H,D,M,rfl,J,E,h5⟩;have:=Qdz J E h5;rw[Array.all_eq_true] at this;obtain⟨i,N,rfl⟩:=List.mem_iff_getElem.1 hu;exact this i (by simpa using N)
 classical
 exact⟨fun j=>if hj:j<n then Classical.choose (y j hj) else[],fun j hj=>by simp only[dif_pos hj];exact Classical.choose_spec (y j hj)⟩
theorem QgO {w:World} {b n s m:Nat} {l:List FJob} {F:Nat->List Value} (h:∀j,j<n->JC w b l j (F j)) (M:s+m<=n):((List.range' s m).flatMap F).length=m*15/\w.rangeAt b (s*15) ((List.range' s m).flatMap F)/\∀u∈(List.range' s m).flatMap F,u.oneCell'=true:=by
 have y:∀x∈List.range' s m,(F x).length=15:=fun x E=>(h x (by have:=List.mem_range'_1.1 E;omega)).len
 have D:=QgN F _ y;rw[List.length_range'] at D;refine⟨D,fun j v hv=>?_,fun u hu=>?_⟩
 ·have K:j<m*15:=by rw[<-D];exact(List.getElem?_eq_some_iff.1 hv).1
  have H:j/15<(List.range' s m).length:=by rw[List.length_range'];omega
  have e:=Qga F _ y (j/15) H (j%15) (Nat.mod_lt _ (by decide));rw[show j/15*15+j%15=j by omega,hv] at e;have J:(List.range' s m)[j/15]=s+j/15:=by simp
  rw[J] at e;have:=(h (s+j/15) (by rw[List.length_range'] at H;omega)).at_ (j%15) v e.symm;rw[show(s+j/15)*15+j%15=s*15+j by omega] at this;exact this
 ·obtain⟨x,E,I⟩:=List.mem_flatMap.1 hu;exact(h x (by have:=List.mem_range'_1.1 E;omega)).one u I
theorem QqS {f:Flw} {k p:Nat} (E:k<=f.jobs.length) (D:p<f.jobs.length):∃(h:p<(List.range' k (f.jobs.length-k)++List.range' 0 k).length),(List.range' k (f.jobs.length-k)++List.range' 0 k)[p]<f.jobs.length/\(Qlz f k).jobs[p]? =f.jobs[(List.range' k (f.jobs.length-k)++List.range' 0 k)[p]]?:=by
 have y:p<(List.range' k (f.jobs.length-k)++List.range' 0 k).length:=by simp;omega
 refine⟨y,?_⟩
 by_cases h:p<f.jobs.length-k
 ·have e:(List.range' k (f.jobs.length-k)++List.range' 0 k)[p]=k+p:=by
   rw[List.getElem_append_left (by simpa using h)];simp
  rw[e];refine⟨by omega,?_⟩
  show(f.jobs.drop k++f.jobs.take k)[p]? =_
  rw[List.getElem?_append_left (by simpa using h),List.getElem?_drop]
 ·have e:(List.range' k (f.jobs.length-k)++List.range' 0 k)[p]=p-(f.jobs.length-k):=by
   rw[List.getElem_append_right (by simpa using h)];simp
  rw[e];refine⟨by omega,?_⟩
  show(f.jobs.drop k++f.jobs.take k)[p]? =_
  rw[List.getElem?_append_right (by simpa using h),List.length_drop,List.getElem?_take,if_pos (by omega)]
theorem Qo4 {w w':World} {B b c k:Nat} {f:Flw} {V O I:Value} {F:Nat->List Value} (K:∀j,j<f.jobs.length->JC w b f.jobs j (F j)) (hk:k<f.jobs.length) (N:Fw.RowR w V f.ins.length 3 (Fw.InAt f.ins)) (H:Fw.RowR w O f.outs.length 3 (Fw.OutAt f.outs)) (h:Below w.heap.size w w')
 (hg:w'.ownsRow B 50 15 I f.jobs.length ((List.range' k (f.jobs.length-k)).flatMap F++(List.range' 0 k).flatMap F)):Fw.FlowRd w' (Qlz f k) V I O:=by
 refine⟨N.below h fun _ _ _ hh y=>hh.below h y,?_,H.below h fun _ _ _ hh y=>hh.below h y⟩;rw[Qnu];refine Fw.RowR.of hg fun b' hc p hp=>?_
 obtain⟨y,h1,h2⟩:=QqS (Nat.le_of_lt hk) hp;obtain⟨a,M,J,U,j1,j2,j3,j4,Z⟩:=(K _ h1).job;refine⟨a,M,J,U,h2.trans j1,fun i u hu=>?_,j3.below h,j4.below h,Z.below h⟩;have hi:i<15:=(List.getElem?_eq_some_iff.1 hu).1;have E:∀x∈List.range' k (f.jobs.length-k)++List.range' 0 k,(F x).length=15:=fun x D=>by
  refine(K x ?_).len;rcases List.mem_append.1 D with D|D
  ·have:=List.mem_range'_1.1 D;omega
  ·have:=List.mem_range'_1.1 D;omega
 have e:=Qga F _ E p y i hi;rw[List.flatMap_append,j2,hu] at e;exact hc (p*15+i) u (by omega) e
end Go.Proofs.YtjlgejennghhlaaGreatDoor.Pl
namespace Go.Proofs.YtjlgejennghhlaaGreatDoor.Pl
open Go.RowKit Go.Maps Go.Shelf
open Fw (By FJob Flw ba Qcl QbK zeroJ)
def Qo5 (a nm:By):FJob:=⟨0,6,[nm],[a],[],[],([],0,0,[]),([],0,0,[]),0⟩
def Qnv (f:Flw) (a nm:By):Flw:=⟨f.ins,Qo5 a nm::f.jobs,f.outs⟩
theorem Qiw (f:Flw) (a nm:By):(Qaw (Qnv f a nm)).Perm (nm::Qaw f):=by
 show(f.ins.map (·.name)++nm::f.jobs.flatMap (·.outs)).Perm _
 exact List.perm_middle
theorem Fine.more {f:Flw} {y:Fw.FIn} {nm:By} (h:Fine f) (H:y∈f.ins) (F:nm∉Qaw f):Fine (Qnv f y.name nm):=by
 have D:=Qiw f y.name nm;refine⟨h.cols,D.nodup_iff.2 (List.nodup_cons.2 ⟨F,h.nodup⟩),fun j E n hn=>D.mem_iff.2 ?_,fun o ho=>D.mem_iff.2 (List.mem_cons_of_mem _ (h.outs o ho)),h.told⟩;rcases List.mem_cons.1 E with rfl|E
 ·obtain rfl:n=y.name:=by simpa [Qo5] using hn
  exact List.mem_cons_of_mem _ (List.mem_append_left _ (List.mem_map.2 ⟨y,H,rfl⟩))
 ·exact List.mem_cons_of_mem _ (h.reads j E n hn)
theorem more_ok {f:Flw} {y:Fw.FIn} {nm:By} {o:List Nat} {m:CM} (h:QaU f o m) (H:y∈f.ins) (D:nm∉Qaw f):∃E,QaU (Qnv f y.name nm) (0::o.map (·+1)) E/\QbH E nm=some (Qa0 y.cols)/\(∀n∈keysM m,QbH E n=QbH m n)/\E.length=m.length+1:=by
 have hg:=QbA h.2.1;obtain⟨O,I⟩:=run_sol h.1.nodup hg h.2.2;have F:y.name∈f.ins.map (·.name):=List.mem_map.2 ⟨y,H,rfl⟩;have M:nm≠y.name:=by rintro rfl;exact D (List.mem_append_left _ F)
 have U:∀n∈(Qo5 y.name nm).ins,n∈f.ins.map (·.name):=fun n hn=>by
  obtain rfl:n=y.name:=by simpa [Qo5] using hn
  exact F
 have ho':=Qm4 (f:=f) (g:=Qnv f y.name nm) (nj:=Qo5 y.name nm) (nm:=nm) rfl rfl D rfl h.1.reads U;rw[h.2.1] at ho';have hS':=O.more (g:=Qnv f y.name nm) (nj:=Qo5 y.name nm) (nm:=nm) (c:=Qa0 y.cols) rfl rfl D rfl h.1.reads (by show[(QbH m y.name).getD []]=_;rw[O.ins y H];rfl) (by simpa [Qo5] using M) (by unfold Qbi Qem;simp[Qo5]) (by unfold Qba;simp[Qo5]);obtain⟨E,K,N,J⟩:=sol_run hS' (QbA ho');refine⟨E,⟨h.1.more H D,ho',K⟩,by rw[N,if_pos rfl],fun n hn=>by rw[N,if_neg];rintro rfl;exact D (I.mem_iff.1 hn),?_⟩;have V:=I.length_eq;have e2:=J.length_eq;have Z:=(Qiw f y.name nm).length_eq;simp only[keysM,List.length_map,List.length_cons] at V e2 Z;omega
end Go.Proofs.YtjlgejennghhlaaGreatDoor.Pl
namespace Go.Proofs.YtjlgejennghhlaaGreatDoor.Pl.Ev
open Go.RowKit Go.Maps
open Fw (By FJob Flw ba)
theorem Qnw {cs:List Cl} {rs:List (List Vl)} (h:Qb5 cs rs=true):cs.length<=8:=by
 unfold Qb5 at h;simp at h;omega
theorem Qke {m:TM} {n:By} {t:Tb} (h:QaP m n=some t):(n,t)∈m:=by
 unfold QaP at h;obtain⟨x,y,e⟩:=Option.map_eq_some_iff.1 h;have D:=List.find?_some y;have E:x.1=n:=by simpa using D
 rw[<-E,<-e];exact List.mem_of_find?_eq_some y
def Qr8 (w:World) (mv:Value) (e:Ending) (w':World):Prop:=∃r,e=.returned (.bool r)/\Below w.heap.size w w'/\(r=true->∃G:By->Option (Value×Tb),GivM w mv G/\∀n u t,G n=some (u,t)->t.1.length<=60)
theorem given_any {w:World} {mv:Value} (h:Qo2 w mv):Calls Tryz.prog 5 #[mv] w fun e w'=>Qr8 w mv e w':=by
 rcases h with rfl|⟨b,A,m,rfl,E,D⟩
 ·refine(Qns w).mono ?_;rintro e w' ⟨rfl,F⟩;refine⟨true,rfl,F,fun _=>⟨fun _=>none,⟨fun V _ n hn c=>?_,fun n u t e=>by cases e⟩,fun n u t e=>by cases e⟩⟩;have y:keyOf Tryz.prog 9 (.string (ba n))=some (.string (ba n).data.toList):=Dk.str_key Tryz.underlying9 (ba n) (by show n.toArray.size<=maxLen;unfold maxLen;simp;omega);have:=Maps.look_nil c QbP Tryz.underlying22 (z:=zeroT) (w:=V) (by kernel_rfl) y
  cases c<;>simpa using this
 ·refine(Qnt b A m w E D).mono ?_;rintro e w' ⟨r,rfl,I,F⟩;refine⟨r,rfl,F,fun hr=>⟨Qle A m,(GivM.of E D).1,fun n u t e=>?_⟩⟩;have H:=(GivM.of E D).2 n;rw[e] at H;have:=Qnw (I hr _ (Qke H.symm));exact Nat.le_trans this (by decide)
def Qqi (f:Flw) (o:List Nat) (G:By->Option Tb) (w:World) (mo:Option Nat) (n k:Int):Prop:=
 (Qhr f o G=.error (n,k)/\n≠0/\mo=none)\/
 (∃m A b,Qhr f o G=.ok m/\n=0/\k= -1/\mo=some b/\MapC w b A/\QaV w A (QbU f m)/\(∀x∈m,Qae x.2.1 x.2.2=true)/\colsO Qbi Qba f o=some (colsOf m)/\(keysT m).Perm (Qaw f))
theorem Qqi.below {f:Flw} {o:List Nat} {G:By->Option Tb} {w w':World} {y:Option Nat} {n k:Int} (h:Qqi f o G w y n k) (D:Below w.heap.size w w'):Qqi f o G w' y n k:=by
 rcases h with h|⟨m,A,b,I,F,K,H,h5,E,J⟩
 ·exact Or.inl h
 ·exact Or.inr ⟨m,A,b,I,F,K,H,h5.below D,E.stay (Stay.of D),J⟩
theorem QqT {f:Flw} {o:List Nat} {G:By->Option Tb} {w w':World} {e:Ending} (h:QrA f o G w e w'):Below w.heap.size w w'/\∃mo n k,e=.returned (.tuple #[.map mo,.agg #[.int .i64 n,.int .i64 k]])/\Qqi f o G w' mo n k:=by
 obtain⟨F,⟨n,k,y,D,E⟩|⟨m,A,b,y,D,-,E⟩⟩:=h
 ·exact⟨F,_,n,k,E,Or.inl ⟨y,D,rfl⟩⟩
 ·exact⟨F,_,0,-1,D,Or.inr ⟨m,A,b,y,rfl,rfl,rfl,E⟩⟩
theorem Qln {f g:Flw} {m y:TM} (D:g.outs=f.outs) (h:∀o∈f.outs,QaP y o.from_=QaP m o.from_):QbU g y=QbU f m:=by
 unfold QbU;rw[D];exact List.map_congr_left fun o hom=>by rw[h o hom]
theorem Qlo {f:Flw} {m:TM} (I:Fine f) (h:(keysT m).Perm (Qaw f)) (F:∀x∈m,Qae x.2.1 x.2.2=true):∀x∈QbU f m,Qae x.2.1 x.2.2=true:=by
 intro x H;obtain⟨o,D,rfl⟩:=List.mem_map.1 H;obtain⟨y,E,-,e⟩:=QbT (m:=m) (n:=o.from_) (h.mem_iff.2 (I.outs o D));rw[e];exact F y E
theorem Qlp {f:Flw} {m:TM} (h:Fine f):(keysT (QbU f m)).Nodup:=by
 have:keysT (QbU f m)=f.outs.map (·.name):=by simp[keysT,QbU,Function.comp_def]
 rw[this];exact h.told
theorem Qo6 {f g:Flw} {o H:List Nat} {m0 Z:CM} {G J:By->Option Tb} (D:QaU f o m0) (y:QaU g H Z) (F:g.ins=f.ins) (N:g.jobs.Perm f.jobs) (ho:g.outs=f.outs) (hG:∀i∈f.ins,J i.name=G i.name):
 (∃n k n' k',Qhr f o G=.error (n,k)/\Qhr g H J=.error (n',k')/\(k<0↔k'<0))\/∃m E,Qhr f o G=.ok m/\Qhr g H J=.ok E/\QbU g E=QbU f m:=by
 unfold Qhr;rw[F,QgM f.ins [] hG]
 cases hI:Qcr G f.ins [] with
 |error n=>exact Or.inl ⟨n,-1,n,-1,rfl,rfl,Iff.rfl⟩
 |ok It=>
  have O:keysT It=f.ins.map (·.name):=by
   obtain⟨r,e,I,-⟩:=QeF hI;rw[e];simpa using I
  simp only;have V:=QbA D.2.1;have U:=QbA y.2.1
  cases hq:runN doE doN f o It with
  |ok m=>
   obtain⟨E,K,I⟩:=run_turn D.1.nodup V U F N O hq;rw[K];exact Or.inr ⟨m,E,rfl,rfl,Qln ho fun o hom=>I _ (D.1.outs o hom)⟩
  |error e=>
   cases hq':runN doE doN g H It with
   |ok E=>
    obtain⟨m,K,-⟩:=run_turn y.1.nodup U V F.symm N.symm (by rw[O,F]) hq';rw[K] at hq;cases hq
   |error M=>
    obtain⟨e,k⟩:=e;obtain⟨M,k'⟩:=M;exact Or.inl ⟨e,k,M,k',rfl,rfl,by constructor<;>intro h<;>omega⟩
end Go.Proofs.YtjlgejennghhlaaGreatDoor.Pl.Ev
