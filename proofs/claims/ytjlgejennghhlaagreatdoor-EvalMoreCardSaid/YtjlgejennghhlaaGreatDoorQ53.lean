import Derived.Test.YtjlgejennghhlaaGreatDoorQ01
import Derived.Test.YtjlgejennghhlaaGreatDoorQ50
import Derived.Test.YtjlgejennghhlaaGreatDoorQ51
import Derived.Test.YtjlgejennghhlaaGreatDoorQ52
set_option linter.unusedSimpArgs false
set_option linter.unusedVariables false
set_option linter.unusedSectionVars false
set_option maxRecDepth 1000000
set_option maxHeartbeats 16000000
namespace Go.Proofs.YtjlgejennghhlaaGreatDoor.Pl.Ev
open Go.RowKit Go.Maps
open Fw (By FJob Flw ba)
theorem Qnn {cs:List Cl} {rs:List (List Vl)} (h:Qb3 cs rs=true):cs.length<=8:=by
 unfold Qb3 at h;simp at h;omega
theorem Qo0 {m:TM} {n:By} {t:Tb} (h:Qbh m n=some t):(n,t)∈m:=by
 unfold Qbh at h;obtain⟨x,y,e⟩:=Option.map_eq_some_iff.1 h;have D:=List.find?_some y;have F:x.1=n:=by simpa using D
 rw[<-F,<-e];exact List.mem_of_find?_eq_some y
def QrY (w:World) (mv:Value) (e:Ending) (w':World):Prop:=∃r,e=.returned (.bool r)/\Below w.heap.size w w'/\(r=true->∃G:By->Option (Value×Tb),GivM w mv G/\∀n u t,G n=some (u,t)->t.1.length<=60)
theorem given_any {w:World} {mv:Value} (h:QoU w mv):Calls Tryz.prog 5 #[mv] w fun e w'=>QrY w mv e w':=by
 rcases h with rfl|⟨b,A,m,rfl,F,D⟩
 ·refine(Qne w).mono ?_;rintro e w' ⟨rfl,H⟩;refine⟨true,rfl,H,fun _=>⟨fun _=>none,⟨fun V _ n hn c=>?_,fun n u t e=>by cases e⟩,fun n u t e=>by cases e⟩⟩;have y:keyOf Tryz.prog 9 (.string (ba n))=some (.string (ba n).data.toList):=Dk.str_key Tryz.underlying9 (ba n) (by show n.toArray.size<=maxLen;unfold maxLen;simp;omega);have:=Maps.look_nil c QbN Tryz.underlying22 (z:=zeroT) (w:=V) (by kernel_rfl) y
  cases c<;>simpa using this
 ·refine(Qnf b A m w F D).mono ?_;rintro e w' ⟨r,rfl,J,H⟩;refine⟨r,rfl,H,fun hr=>⟨Qm5 A m,(GivM.of F D).1,fun n u t e=>?_⟩⟩;have I:=(GivM.of F D).2 n;rw[e] at I;have:=Qnn (J hr _ (Qo0 I.symm));exact Nat.le_trans this (by decide)
def Qqa (f:Flw) (o:List Nat) (G:By->Option Tb) (w:World) (mo:Option Nat) (n k:Int):Prop:=
 (Qik f o G=.error (n,k)/\n≠0/\mo=none)\/
 (∃m A b,Qik f o G=.ok m/\n=0/\k= -1/\mo=some b/\MapC w b A/\QaT w A (Qb0 f m)/\(∀x∈m,Qae x.2.1 x.2.2=true)/\colsO Qbg Qa9 f o=some (colsOf m)/\(keysT m).Perm (Qaw f))
theorem Qqa.below {f:Flw} {o:List Nat} {G:By->Option Tb} {w w':World} {y:Option Nat} {n k:Int} (h:Qqa f o G w y n k) (D:Below w.heap.size w w'):Qqa f o G w' y n k:=by
 rcases h with h|⟨m,A,b,J,H,N,I,M,F,K⟩
 ·exact Or.inl h
 ·exact Or.inr ⟨m,A,b,J,H,N,I,M.below D,F.stay (Stay.of D),K⟩
theorem QqL {f:Flw} {o:List Nat} {G:By->Option Tb} {w w':World} {e:Ending} (h:Qrq f o G w e w'):Below w.heap.size w w'/\∃mo n k,e=.returned (.tuple #[.map mo,.agg #[.int .i64 n,.int .i64 k]])/\Qqa f o G w' mo n k:=by
 obtain⟨H,⟨n,k,y,D,F⟩|⟨m,A,b,y,D,-,F⟩⟩:=h
 ·exact⟨H,_,n,k,F,Or.inl ⟨y,D,rfl⟩⟩
 ·exact⟨H,_,0,-1,D,Or.inr ⟨m,A,b,y,rfl,rfl,rfl,F⟩⟩
theorem Qla {f g:Flw} {m y:TM} (D:g.outs=f.outs) (h:∀o∈f.outs,Qbh y o.from_=Qbh m o.from_):Qb0 g y=Qb0 f m:=by
 unfold Qb0;rw[D];exact List.map_congr_left fun o hom=>by rw[h o hom]
theorem Qlb {f:Flw} {m:TM} (J:Fine f) (h:(keysT m).Perm (Qaw f)) (H:∀x∈m,Qae x.2.1 x.2.2=true):∀x∈Qb0 f m,Qae x.2.1 x.2.2=true:=by
 intro x I;obtain⟨o,D,rfl⟩:=List.mem_map.1 I;obtain⟨y,F,-,e⟩:=Qdu (m:=m) (n:=o.from_) (h.mem_iff.2 (J.outs o D));rw[e];exact H y F
theorem Qlc {f:Flw} {m:TM} (h:Fine f):(keysT (Qb0 f m)).Nodup:=by
 have:keysT (Qb0 f m)=f.outs.map (·.name):=by simp[keysT,Qb0,Function.comp_def]
 rw[this];exact h.told
theorem Qo1 {f:Flw} {o:List Nat} {K:CM} {G:By->Option Tb} {a nm:By} (D:Qa7 f o K) (y:nm∉Qaw f):
 match Qik f o G with
 |.error (n,k)=>Qik (QbW f a nm) (0::o.map (·+1)) G=.error (n,if k<0 then k else k+1)
 |.ok m=>∃m2,Qik (QbW f a nm) (0::o.map (·+1)) G=.ok m2/\Qb0 (QbW f a nm) m2=Qb0 f m:=by
 unfold Qik;have F:(QbW f a nm).ins=f.ins:=rfl;rw[F]
 cases hI:QcL G f.ins [] with
 |error n=>simp
 |ok It=>
  simp only;have N:runN doE doN (QbW f a nm) (0::o.map (·+1)) It=runN doE doN (QbW f a nm) (o.map (·+1)) (It++[(nm,doN (QdC a nm) (inT It (QdC a nm)) nm)]):=by
   conv=>lhs;unfold runN
   have U:(QbW f a nm).jobs[0]? =some (QdC a nm):=rfl;rw[U];simp only;rw[if_pos (by rfl)];rfl
  have H:∀k∈o,∀j,f.jobs[k]? =some j->nm∉j.ins:=fun k _ j hj hn=>y (D.1.reads j (List.mem_of_getElem? hj) nm hn)
  have I:∀n,n≠nm->Qbh (It++[(nm,doN (QdC a nm) (inT It (QdC a nm)) nm)]) n=Qbh It n:=fun n hn=>by
   rw[Qf0,QeC (m:=[(nm,_)]) (by simpa [keysT] using hn)]
   cases Qbh It n<;>rfl
  have h:=run_more (E:=doE) (C:=doN) (f:=f) (g:=QbW f a nm) (nm:=nm) (nj:=QdC a nm) rfl o It _ H I;rw[N]
  cases hq:runN doE doN f o It with
  |error e=>
   obtain⟨e,k⟩:=e;rw[hq] at h;simp only at h⊢;rw[h];simp only[Except.error.injEq,Prod.mk.injEq,true_and];rw[if_neg (by omega)];push_cast;rfl
  |ok r=>
   rw[hq] at h;obtain⟨J,O,M⟩:=h;simp only;rw[O];exact⟨J,rfl,Qla rfl fun o hom=>M _ (by rintro e;exact y (e▸D.1.outs o hom))⟩
end Go.Proofs.YtjlgejennghhlaaGreatDoor.Pl.Ev
namespace Go.Proofs.YtjlgejennghhlaaGreatDoor.Pl.Ev
open Go.RowKit Go.Maps
open Fw (By FJob Flw ba)
theorem Qhc {E:FJob->List Tb->Int} {C:FJob->List Tb->By->Tb} {f:Flw}:∀{o:List Nat} {m:TM} {e:Int} {k:Nat},runN E C f o m=.error (e,k)->k∈o
 |[],m,e,k,h=>by cases h
 |a::r,m,e,k,h=>by
  unfold runN at h
  cases hj:f.jobs[a]? with
  |none=>rw[hj] at h;exact List.mem_cons_of_mem _ (Qhc h)
  |some j=>
   rw[hj] at h;simp only at h;split at h
   ·exact List.mem_cons_of_mem _ (Qhc h)
   ·simp only[Except.error.injEq,Prod.mk.injEq] at h;rw[<-h.2];simp
theorem Qo2 {f:Flw} {o:List Nat} {F:CM} {G:By->Option Tb} {n k:Int} (y:Qa7 f o F) (H:Fw.FlwOK f) (h:Qik f o G=.error (n,k)):k= -1\/∃j:Nat,k=(j:Int)/\j<=16:=by
 unfold Qik at h
 cases hI:QcL G f.ins [] with
 |error e=>rw[hI] at h;simp only[Except.error.injEq,Prod.mk.injEq] at h;exact Or.inl h.2.symm
 |ok It=>
  rw[hI] at h;simp only at h
  cases hq:runN doE doN f o It with
  |ok m=>rw[hq] at h;cases h
  |error e=>
   obtain⟨e,j⟩:=e;rw[hq] at h;simp only[Except.error.injEq,Prod.mk.injEq] at h;have D:=QcH y.2.1;have:=(D.mem j).1 (Qhc hq);have:=H.jl;exact Or.inr ⟨j,h.2.symm,by omega⟩
def Qr4 (w w':World) (mo mo':Option Nat) (T:TM):Prop:=∃b b' A A',mo=some b/\mo'=some b'/\MapC w b A/\QaT w A T/\MapC w' b' A'/\QaT w' A' T/\(∀x∈T,Qae x.2.1 x.2.2=true)/\(keysT T).Nodup
theorem QqU {f:Flw} {o:List Nat} {m0:CM} {G:By->Option Tb} {a nm:By} {w w':World} {N H:Option Nat} {n k M k':Int} (F:Qa7 f o m0) (hf:Fw.FlwOK f) (Z:nm∉Qaw f) (h:Qqa f o G w N n k) (h':Qqa (QbW f a nm) (0::o.map (·+1)) G w' H M k'):
 (N=none/\H=none/\M=n/\n≠0/\((k= -1/\k'= -1)\/∃j J:Nat,j+1=J/\j<=16/\k=(j:Int)/\k'=(J:Int)))\/(n=0/\M=0/\k= -1/\k'= -1/\∃T,Qr4 w w' N H T):=by
 have y:=Qo1 (G:=G) (a:=a) F Z;rcases h with ⟨I,O,U⟩|⟨m,A,b,I,O,U,h4,h5,h6,h7,h8,h9⟩
 ·rw[I] at y;simp only at y;rcases h' with ⟨D,V,K⟩|⟨m',A',b',D,-⟩
  ·rw[D] at y;simp only[Except.error.injEq,Prod.mk.injEq] at y;refine Or.inl ⟨U,K,y.1,O,?_⟩;rcases Qo2 F hf I with rfl|⟨j,rfl,hj⟩
   ·exact Or.inl ⟨rfl,by rw[y.2];rfl⟩
   ·refine Or.inr ⟨j,j+1,rfl,hj,rfl,?_⟩;rw[y.2,if_neg (by omega)];push_cast;rfl
  ·rw[D] at y;cases y
 ·rw[I] at y;obtain⟨m2,y,ht⟩:=y;rcases h' with ⟨D,V,K⟩|⟨m',A',b',D,V,K,q4,q5,q6,-⟩
  ·rw[D] at y;cases y
  ·obtain rfl:m'=m2:=Except.ok.inj (D.symm.trans y);rw[ht] at q6;exact Or.inr ⟨O,V,U,K,Qb0 f m,b,b',A,A',h4,q4,h5,h6,q5,q6,Qlb F.1 h9 h7,Qlc F.1⟩
theorem Qle {w:World} {b:Nat} {A:AM} (h:MapC w b A) (x:ByteArray) (D:x.size<=maxLen):(Instr.lookup 22 (.map (some b)) (.string x) false).run Tryz.prog w=.ok ((Qbt A x.data.toList).getD zeroT) w:=by
 have y:keyOf Tryz.prog 9 (.string x)=some (.string x.data.toList):=Dk.str_key Tryz.underlying9 x D;exact h.mapIs.look QbN Tryz.underlying22 (z:=zeroT) (by kernel_rfl) y false
theorem Qlf {cs:List Cl} {rs:List (List Vl)} (h:Qae cs rs=true):cs.length<=60/\rs.length<=65/\∀r∈rs,r.length<=60:=by
 unfold Qae at h;simp only[Bool.and_eq_true,decide_eq_true_eq,List.all_eq_true] at h;have D:=Qbq h.1;refine⟨by omega,by omega,fun r hr=>?_⟩;have y:r.length=cs.length:=by
  by_cases e:r.length=cs.length
  ·exact e
  ·have:=Qdl r cs e;rw[h.2.2 r hr] at this;cases this
 omega
end Go.Proofs.YtjlgejennghhlaaGreatDoor.Pl.Ev
namespace Go.Proofs.YtjlgejennghhlaaGreatDoor.Pl.Ev
open Go.RowKit Go.Maps
open Fw (By FJob Flw ba)
theorem Qo3 {w:World} {mv:Value} (h:QoU w mv):∃bo,mv=.map bo:=by
 rcases h with rfl|⟨b,A,m,rfl,-⟩
 ·exact⟨none,rfl⟩
 ·exact⟨some b,rfl⟩
theorem Qnp {n k:Nat} (h:n<=20000) (e:n+1=k):wrap64 ((n:Int)+1)=(k:Int):=by unfold wrap64;omega
theorem Qnq {n k:Nat} (e:n+1=k):(n:Int)+1=(k:Int):=by omega
theorem wrap_small {k:Nat} (h:k<=20000):wrap64 (k:Int)=(k:Int):=by unfold wrap64;omega
theorem moreE_any (s nm:By) (mv:Value) (w:World) (hE:Fw.FEnv w) (K:GErr w) (aX:Env w) (hs:(ba s).size<=maxLen) (hm:QoU w mv):
 Calls Tryz.prog 4 #[.string (ba s),mv,.string (ba nm)] w fun e w'=>e=.returned (.bool true)/\Below w.heap.size w w':=by
 have bL:(ba nm).size=nm.length:=by show nm.toArray.size=_;simp
 have bK:=Hk (given_any hm);obtain⟨bo,rfl⟩:=Qo3 hm;have cf:Hid (∀V,Below w.heap.size w V->Calls Tryz.prog 6 #[] V fun e w'=>e=.returned (.bool true)/\Below V.heap.size V w'):=Hk fun V hV=>Qhb V (QeF hE hV) (cell_below K hV) (aX.below hV)
 have bZ:Hid (∀V,Below w.heap.size w V->Calls Tryz.prog 7 #[.string (ba s)] V fun e w'=>Qpk s V e w'):=Hk fun V hV=>right_any s V (QeF hE hV) (cell_below K hV) hs
 have a7:Hid (∀(f:Flw) (o:List Nat) (m0:CM) vi vj vo (G:By->Option (Value×Tb)) V,Below w.heap.size w V->Fw.FlowRd V f vi vj vo->Fw.FlwOK f->Qa7 f o m0->GivM V (.map bo) G->(∀n u t,G n=some (u,t)->t.1.length<=60)->Calls Tryz.prog 9 #[.agg #[vi,vj,vo],.map bo] V fun e w'=>Qrq f o (fun n=>(G n).map (·.2)) V e w'):=
  Hk fun f o m0 vi vj vo G V hV h hf hck hG aM=>Qm9 f o m0 vi vj vo (.map bo) G V h hf (cell_below K hV) hck (aX.below hV) hG aM
 have bR:Hid (nm.length<=40->∀(f:Flw) vi vj vo V,Fw.FlowRd V f vi vj vo->Fw.FlwOK f->Calls Tryz.prog 15 #[.agg #[vi,vj,vo],.string (ba nm)] V fun e w'=>QqK f nm V e w'):=Hk fun h40 f vi vj vo V h hf=>QoZ f vi vj vo nm V h hf h40
 have bt:Hid ((ba nm).size=nm.length):=Hk bL;generalize ba s=x at*;generalize ba nm=y at*;clear hE K aX hs hm bL;go_enter Tryz.func4,Tryz.ntmps4;go_wp2_with (first|(go_at_call 5;fail));refine bK.out.mono ?_;rintro e1 w1 ⟨r,rfl,aw,hg⟩;have aE:=Hk aw
 cases r with
 |false=>
  clear aw hg;go_wp2;go_ret;exact⟨rfl,aE.out⟩
 |true=>
 obtain⟨G,hG,aM⟩:=hg rfl;have HG:=Hk (Ai (hG.below aw) aM);have bV:=Hk (fun V (hV:Below w1.heap.size w1 V)=>bZ.out V (bel_then aw hV));have b7:=Hk (cf.out w1 aw);clear aw hg hG aM
 by_cases h40:40<nm.length
 ·have hb:(40:Int)<(y.size:Int):=by rw[bt.out];omega
  clear h40;go_wp2;go_ret;exact⟨rfl,aE.out⟩
 have hb:¬(40:Int)<(y.size:Int):=by rw[bt.out];omega
 have bm:Hid (nm.length<=40):=Hk (by omega);clear h40;go_wp2_with (first|(go_at_call 6;refine b7.out.mono ?_;rintro e1 w2 ⟨rfl,bd⟩;have bb:=Hk bd;have bS:=Hk (bV.out w2 bd);clear bd)|(go_at_call 7;fail));refine bS.out.mono ?_;rintro e2 w3 ⟨aP,⟨f,o,m,vi,vj,vo,cR,bN,rfl,au,aK⟩|⟨a1,n1,c1,a2,n2,c2,a3,n3,c3,rfl⟩⟩
 rotate_left
 ·have c9:=Hk (bel_then aE.out (bel_then bb.out aP));clear aP;go_wp2;go_ret;exact⟨rfl,bel_then c9.out (Qaa _ _)⟩
 obtain⟨ia,ic,rfl⟩:=row_slice au.ins;obtain⟨ja,jc,rfl⟩:=row_slice au.jobs;obtain⟨oa,oc,rfl⟩:=row_slice au.outs;obtain⟨w4,aU⟩:∃x,w3.alloc (.cells #[.slice ia f.ins.length ic,.slice ja f.jobs.length jc,.slice oa f.outs.length oc] 29)=x:=⟨_,rfl⟩;have ay:Below w3.heap.size w3 w4:=by rw[<-aU];exact Qaa _ _
 have az:Qcc w4 w3.heap.size (.slice ia f.ins.length ic) (.slice ja f.jobs.length jc) (.slice oa f.outs.length oc):=by rw[<-aU];exact Qcc.new _ _ _ _ _
 have b3:=Hk az;have Z:=Hk (Ai (au.below ay) (Ai aK bN));have ac:=Hk (bel_then bb.out (bel_then aP ay));have bv:=Hk (bel_then aE.out ac.out);have b0:=Hk (bR.out bm.out f _ _ _ w4 (au.below ay) aK);have g1:=az.1;have g2:=az.2.1;have g3:=az.2.2;clear au aK bN cR aP ay az;generalize f.ins.length=I at*;generalize f.jobs.length=J at*;generalize f.outs.length=O at*;go_wp2_with (first|(go_at_call 15;fail));refine b0.out.mono ?_;rintro e5 w5 ⟨aS,⟨i0,ui,gv,uo,b8,bg,a4,rfl,K⟩|⟨a1,n1,c1,a2,n2,c2,a3,n3,c3,rfl⟩⟩
 rotate_left
 ·have dg:=Hk (bel_then bv.out aS);clear aS;go_wp2;go_ret;exact⟨rfl,bel_then dg.out (Qaa _ _)⟩
 have M:i0∈f.ins:=List.mem_of_getElem? b8;obtain⟨m',bA,-,-,-⟩:=more_ok Z.out.2.2 M a4;have bC:Fw.FlwOK (QbW f i0.name nm):=QoW Z.out.2.1 bg (by have:=(Z.out.2.1.ins _ M).1;omega) (by have:=bm.out;omega);obtain⟨gi,b9,rfl⟩:=row_slice K.ins;obtain⟨gj,bY,rfl⟩:=row_slice K.jobs;obtain⟨go,b5,rfl⟩:=row_slice K.outs;obtain⟨w6,aL⟩:∃x,w5.alloc (.cells #[.slice gi (QbW f i0.name nm).ins.length b9,.slice gj (QbW f i0.name nm).jobs.length bY,.slice go (QbW f i0.name nm).outs.length b5] 29)=x:=⟨_,rfl⟩;have aH:Below w5.heap.size w5 w6:=by rw[<-aL];exact Qaa _ _
 have ch:Qcc w6 w5.heap.size (.slice gi (QbW f i0.name nm).ins.length b9) (.slice gj (QbW f i0.name nm).jobs.length bY) (.slice go (QbW f i0.name nm).outs.length b5):=by rw[<-aL];exact Qcc.new _ _ _ _ _
 have ad:=bel_then aS aH;have aB:=Hk (Ai bA (Ai bC a4));have ar:=Hk (Ai ch (Ai (K.below aH) (bel_then bv.out ad)));have a8:=Hk (a7.out f o m _ _ _ G w6 ar.out.2.2 (Z.out.1.below ad) Z.out.2.1 Z.out.2.2 (HG.out.1.below (bel_then ac.out ad)) HG.out.2);have bI:=Hk (HG.out.1.below (bel_then ac.out ad));have aQ:=b3.out.below ad;have q1:=aQ.1;have q2:=aQ.2.1;have q3:=aQ.2.2;clear K bC bA M b8 a4 aH ad aS ch aQ g1 g2 g3;obtain⟨g,bu⟩:∃g,QbW f i0.name nm=g:=⟨_,rfl⟩;rw[bu] at aL aB ar⊢;generalize g.ins.length=gI at*;generalize g.jobs.length=gJ at*;generalize g.outs.length=gO at*;obtain⟨GT,aV⟩:∃GT:By->Option Tb,(fun n=>(G n).map (·.2))=GT:=⟨_,rfl⟩;rw[aV] at a8;go_wp2_with (first|(go_at_call 9;fail));refine a8.out.mono ?_;rintro e7 w7 h7;obtain⟨cg,dK,n1,k1,rfl,aA⟩:=QqL h7;obtain⟨w8,bk⟩:∃x,w7.alloc (.cells #[.int .i64 n1,.int .i64 k1] 39)=x:=⟨_,rfl⟩;have aJ:Below w7.heap.size w7 w8:=by rw[<-bk];exact Qaa _ _
 have b6:Fw.Box w8 w7.heap.size [.int .i64 n1,.int .i64 k1]:=by rw[<-bk];exact Fw.Box.new w7 _ _ _ rfl
 have ah:=bel_then cg aJ;have bW:=Hk b6;have cb:=Hk (aA.below aJ);have bp:=Hk (bel_then ar.out.2.2 ah);have av:=Hk (a7.out g _ m' _ _ _ G w8 bp.out (ar.out.2.1.below ah) aB.out.2.1 aB.out.1 (bI.out.below ah) HG.out.2);rw[aV] at av;have aN:=ar.out.1.below ah;have q1:=aN.1;have q2:=aN.2.1;have q3:=aN.2.2;clear h7 cg aA aJ ah b6 aN;go_wp2_with (first|(go_at_call 9;fail));refine av.out.mono ?_;rintro e9 w9 h9;obtain⟨bQ,dT,n2,k2,rfl,aC⟩:=QqL h9;obtain⟨F,be⟩:∃x,w9.alloc (.cells #[.int .i64 n2,.int .i64 k2] 39)=x:=⟨_,rfl⟩;have ax:Below w9.heap.size w9 F:=by rw[<-be];exact Qaa _ _
 have aG:Fw.Box F w9.heap.size [.int .i64 n2,.int .i64 k2]:=by rw[<-be];exact Fw.Box.new w9 _ _ _ rfl
 have ae:=bel_then bQ ax;have aI:=Hk (bel_then bp.out ae);have hv:=QqU (f:=f) (a:=i0.name) (nm:=nm) Z.out.2.2 Z.out.2.1 aB.out.2.2 (cb.out.below ae) (by rw[bu];exact aC.below ax);have hX8':=bW.out.below ae;have c0:=hX8'.cell 0 (v:=.int .i64 n1) rfl;have c1:=hX8'.cell 1 (v:=.int .i64 k1) rfl;have d0:=aG.cell 0 (v:=.int .i64 n2) rfl;have d1:=aG.cell 1 (v:=.int .i64 k2) rfl;clear h9 bQ aC ax ae hX8' aG q1 q2 q3 bK cf bZ a7 bR bV bS b7 HG bI a8 av cb bW ar aB Z b3 b0 bt bm hb bu aV bg aU aL bk aE bb ac bv bp;rcases hv with ⟨rfl,rfl,rfl,dR,hk⟩|⟨rfl,rfl,rfl,rfl,T,hT⟩
 ·as_aux_lemma=>
  have dr:∀ty (V:World),(Builtin.len_ #[22] ty #[.map none]).run Tryz.prog V=.ok (.int .i64 0) V:=fun ty V=>Maps.len_nil Tryz.underlying22 ty
  have aF:=run_range_nilMap (P:=Tryz.prog) F 22 9 54 Tryz.underlying22;have dN:∀ty,(Instr.next (.pointer (some ⟨F.heap.size,0,none⟩)) false ty).run Tryz.prog (F.alloc (.mapIter none 0 #[] 0))=_:=fun ty=>run_next_nilMap F ty 0 0 #[]
  rcases hk with ⟨rfl,rfl⟩|⟨j,J,hJ,hj,rfl,rfl⟩
  ·go_wp2;refine wp_loop_rounds 1 ?_;rw[rounds_succ];go_wp2;go_ret;exact⟨rfl,bel_then aI.out (Qaa _ _)⟩
  ·have s1:¬(j:Int)<0:=by omega
   have s2:(0:Int)<=(j:Int):=by omega
   have s3:=Qnp (n:=j) (Nat.le_trans hj (by decide)) hJ;have s4:=Qnq hJ;have s5:=wrap_small (k:=J) (by omega);clear hJ hj;go_wp2;refine wp_loop_rounds 1 ?_;rw[rounds_succ];go_wp2;go_ret;exact⟨rfl,bel_then aI.out (Qaa _ _)⟩
 ·obtain⟨b1,b2,A1,A2,rfl,rfl,aZ,a9,bB,bi,bO,dj⟩:=hT
  as_aux_lemma=>
  have dn:∀ty,(Builtin.len_ #[22] ty #[.map (some b1)]).run Tryz.prog F=.ok (.int .i64 (A1.length:Nat)) F:=fun ty=>Qfc aZ ty
  have dq:∀ty,(Builtin.len_ #[22] ty #[.map (some b2)]).run Tryz.prog F=.ok (.int .i64 (A1.length:Nat)) F:=fun ty=>by
   have:=Qfc bB ty;rwa[bi.len,<-a9.len] at this
  obtain⟨D,bw,aY,ck⟩:=aZ.is;have cp:=Hk aY;have HH:=Hk (Ai a9 (Ai bB bi));have cU:=Hk bO;clear aZ bB a9 bi aY ck bO dj;generalize A1.length=N at*;go_wp2_with (first|(at_range;refine wpList_range_own _ rfl _ 22 rfl 9 54 QbN Tryz.underlying22 Dk.Rv b1 N D rfl bw ?_;intro c6 aO ab cx));have av:=Hk aO;have bx:=Hk (show Below F.heap.size F c6 from⟨ab.os,ab.tape,ab.output,ab.size,fun k hk=>ab.block k hk (by simp)⟩);clear bw ab cx aO
  try go_frame
  go_loopw [] (fun wr=>∃left bs,wr.ranges Tryz.prog 9 Dk.Rv b1 F.heap.size N D left bs/\Below F.heap.size F wr) (fun wr=>wr.rangeLeft b1 F.heap.size)
  case atStart=>exact⟨_,_,av.out,bx.out⟩
  case round=>
   obtain⟨left,bs,aF,bU⟩:=hrel;have ak:=Hk bU;have RG:=Hk aF;clear av bx bU;go_wp2_with (first|(at_next;refine wpList_next_ranges _ rfl _ rfl 9 QbN Dk.Rv Value.string (fun v:Value=>v) (fun key kl h=>by obtain⟨x,rfl,_⟩:=Qf6 h;exact⟨x,rfl⟩) (fun v y _=>⟨v,rfl⟩) b1 F.heap.size N D left bs rfl aF ?_ ?_)|go_in)
   ·intro c7 cF;clear c7 cF aF;go_wp2;go_ret;exact⟨rfl,bel_then aI.out ak.out⟩
   ·intro kx v kl ya yb aj dp br cM hv cd aT aR aa cC dU;obtain⟨dV,ek,bM,dc⟩:=Qf6 br;injection ek with ek;subst ek dc;have hy:ya=.held v:=(congrArg Prod.fst (Option.some.inj hv)).symm;subst hy;have a0:=Qj1 cp.out cd;have bn:Below F.heap.size F aj:=⟨aa.os.trans ak.out.os,aa.tape.trans ak.out.tape,aa.output.trans ak.out.output,Nat.le_trans ak.out.size aa.size,fun k hk=>(aa.block k (Nat.lt_of_lt_of_le hk ak.out.size) (by intro q;injection q with q;omega)).trans (ak.out.block k hk)⟩;have M:kx.data.toList∈keysT T:=by
     rw[<-HH.out.1.keys];exact List.mem_map.2 ⟨_,QeE a0,rfl⟩
    obtain⟨v',t,aA,ce,de,b4⟩:=HH.out.1.look M;obtain rfl:v=v':=Option.some.inj (a0.symm.trans aA);obtain⟨v2,t2,aC,bT,cw,-⟩:=HH.out.2.2.look M;obtain rfl:t=t2:=Option.some.inj (ce.symm.trans bT);obtain⟨aD,ai⟩:∃x,aj.alloc (.cells #[(match v with |.agg a=>a[0]!|u=>u),(match v with |.agg a=>a[1]!|u=>u)] 54)=x:=⟨_,rfl⟩;obtain⟨vc,vr,rfl,bX,bJ⟩:=de;obtain⟨cT,dd,rfl,bz,a5⟩:=cw;have ai:aj.alloc (.cells #[vc,vr] 54)=aD:=ai;have U:Below aj.heap.size aj aD:=by rw[<-ai];exact Qaa _ _
    have H:=bel_then bn U;obtain⟨l1,l2,l3⟩:=Qlf (cU.out _ b4);have cZ:=Hk (QnT cT dd vc vr t.1 t.2 aD (bz.below H) (a5.is.below H) (bX.below H) (bJ.is.below H) l1 l2 l3);have lk:=Qle (HH.out.2.1.below H) kx bM;rw[aC] at lk;simp only[Option.getD_some] at lk;have z0:aD.cell? ⟨aj.heap.size,0,none⟩=some vc:=by rw[<-ai];exact World.cell?_alloc_at _ _ _ _ rfl
    have z1:aD.cell? ⟨aj.heap.size,1,none⟩=some vr:=by rw[<-ai];exact World.cell?_alloc_at _ _ _ _ rfl
    have ci:=Hk H;have cu:=Hk (aT.kept (row:=none) ⟨U.os,U.tape,U.output,U.size,fun k hk _=>U.block k hk⟩ (by simp) (by simp));have cP:=Hk aR;obtain⟨ca,cc,rfl,-⟩:=bX;obtain⟨ra,rc,rfl,-⟩:=bJ;obtain⟨dP,dQ,rfl,-⟩:=bz;obtain⟨dO,dM,rfl,-⟩:=a5;clear aF br cM hv cd aT aR aa cC a0 bn U H aA ce bT aC b4 bM M l1 l2 l3;generalize t.1.length=tn at*;generalize t.2.length=tm at*;go_wp2_with (go_at_call 12;refine cZ.out.mono ?_;rintro dL dS ⟨rfl,af⟩;have ac:=Hk (bel_then ci.out af);have bP:=Hk (cu.out.kept (row:=none) ⟨af.os,af.tape,af.output,af.size,fun k hk _=>af.block k hk⟩ (by simp) (by simp));clear af);go_roundw
    case rel=>exact⟨_,_,bP.out,ac.out⟩
    case measure=>rw[bP.out.left_eq,RG.out.left_eq];exact cP.out
end Go.Proofs.YtjlgejennghhlaaGreatDoor.Pl.Ev
