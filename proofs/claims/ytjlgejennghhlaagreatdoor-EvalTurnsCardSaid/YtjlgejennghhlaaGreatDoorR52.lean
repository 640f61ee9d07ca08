import Derived.Test.YtjlgejennghhlaaGreatDoorR01
import Derived.Test.YtjlgejennghhlaaGreatDoorR51
import Derived.Test.YtjlgejennghhlaaGreatDoorR12
import Derived.Test.YtjlgejennghhlaaGreatDoorR48
import Derived.Test.YtjlgejennghhlaaGreatDoorR50
set_option linter.unusedSimpArgs false
set_option linter.unusedVariables false
set_option linter.unusedSectionVars false
set_option maxRecDepth 1000000
set_option maxHeartbeats 16000000
namespace Go.Proofs.YtjlgejennghhlaaGreatDoor.Pl.Ev
open Go.RowKit Go.Maps
open Fw (By FJob Flw ba)
def es1:By:=[105,110,32,112,58,32,105,100,32,105,110,116,59,32,106,111,98,32,97,32,61,32,102,105,108,116,101,114,32,112,32,119,104,101,114,101,32,105,100,32,62,32,49,59,32,111,117,116,32,114,32,61,32,97,59]
def ej1:FJob:=⟨14,1,[[97]],[[112]],[],[62],([105,100],0,0,[]),([],1,1,[]),0⟩
def ef1:Flw:=⟨[⟨0,[112],[([105,100],1)]⟩],[ej1],[⟨45,[114],[97]⟩]⟩
theorem Qnx:Fw.parseF es1=.ok ef1:=by kernel_rfl
def esT:ByteArray:=⟨#[105,100,58,105,110,116,10,49,10,50,10,51,10]⟩
def ecs:List Cl:=[(⟨#[105,100]⟩,1)]
def QrC:List (List V3):=[[(1,1,[])],[(1,2,[])],[(1,3,[])]]
def eT:Tb:=(ecs,QrC.map (·.map vl))
theorem QqU:Lib.itoa 3=[51]:=by
 unfold Lib.itoa;rw[if_neg (by decide)];exact Lib.decDigits_one (i:=3) (by decide)
theorem QrD:Qbj [51]=some (1,3,[]):=by
 have h:Qda [51]=(1,3,[]):=by kernel_rfl
 rw[Qgm h];simp only[Qb3,if_true,QqU];decide
theorem QrE:QaW ecs [49] false=some [(1,1,[])]:=by
 have h:cutV false [49]=([49],[],false):=by decide
 simp[ecs,QaW,h,Qrj]
theorem QrF:QaW ecs [50] false=some [(1,2,[])]:=by
 have h:cutV false [50]=([50],[],false):=by decide
 simp[ecs,QaW,h,Qrk]
theorem QrG:QaW ecs [51] false=some [(1,3,[])]:=by
 have h:cutV false [51]=([51],[],false):=by decide
 simp[ecs,QaW,h,QrD]
theorem QrH:Lib.cut esT.data.toList [10]=([105,100,58,105,110,116],[49,10,50,10,51,10],true):=by decide+kernel
theorem QqV:Lib.cut [49,10,50,10,51,10] [10]=([49],[50,10,51,10],true):=by decide+kernel
theorem QqW:Lib.cut [50,10,51,10] [10]=([50],[51,10],true):=by decide+kernel
theorem QqX:Lib.cut [51,10] [10]=([51],[],true):=by decide+kernel
theorem QrI:Go.Proofs.YtjlgejennghhlaaGreatDoor.colsOf ⟨[105,100,58,105,110,116].toArray⟩=ecs:=by kernel_rfl
theorem QqY:Qaj ecs=true:=by kernel_rfl
theorem Qqa:QhC esT.data.toList=.ok (ecs,QrC):=by
 rw[Qfu QrH,QrI,if_pos QqY];rw[show esT.data.toList.length+1=14 from rfl];rw[QcB (f:=13) (by simp) (by rw[QqV];exact QrE) (by simp),QqV];rw[QcB (f:=12) (by simp) (by rw[QqW];exact QrF) (by simp),QqW];rw[QcB (f:=11) (by simp) (by rw[QqX];exact QrG) (by simp),QqX];rw[Qfv];rfl
theorem Qqb:Qae eT.1 eT.2=true:=by kernel_rfl
theorem QrJ:Fine ef1:=by
 refine⟨fun i hi=>?_,by simp[Qaw,ef1,ej1],?_,by simp[ef1,Qaw,ej1],by simp[ef1]⟩
 ·simp[ef1] at hi;subst hi
  kernel_rfl
 ·intro j h n y;simp[ef1] at h;subst h;simp[ej1] at y;subst y;simp[Qaw,ef1]
theorem Qr9:Qjb ef1=some [0]:=by kernel_rfl
theorem QqZ:Qbi ej1 [ecs]=0:=by kernel_rfl
theorem Qq0:colsO Qbi Qba ef1 [0]=some ([([112],ecs)]++[([97],Qba ej1 [ecs])]):=by
 show runM Qbi Qba [ej1] [([112],ecs)]=_
 unfold runM;rw[show inC [([112],ecs)] ej1=[ecs] from rfl,if_pos QqZ];rfl
theorem Qq1:QaU ef1 [0] ([([112],ecs)]++[([97],Qba ej1 [ecs])]):=⟨QrJ,Qr9,Qq0⟩
def eM:TM:=[([112],eT)]
def eF:Tb:=(ecs,eT.2.filter (Qbn ecs (jb0 ej1)))
theorem Qsa:Qcr (QaP eM) ef1.ins []=.ok eM:=by
 show Qcr (QaP eM) [⟨0,[112],[([105,100],1)]⟩] []=_
 unfold Qcr;rw[show QaP eM [112]=some eT from rfl];simp only;rw[if_pos ⟨rfl,Qqb⟩];rfl
theorem Qsb:doE ej1 [eT]=0:=by simp[doE,ej1]
theorem Qsc:doN ej1 [eT] [97]=eF:=by
 have h:doC ej1 [eT]=[eF]:=by simp[doC,ej1,eF,eT]
 unfold doN;rw[h];rfl
theorem QrU:Qhr ef1 [0] (QaP eM)=.ok (eM++[([97],eF)]):=by
 unfold Qhr;rw[Qsa];simp only;unfold runN;rw[show ef1.jobs[0]? =some ej1 from rfl];simp only;rw[show inT eM ej1=[eT] from rfl,if_pos Qsb];rw[show(ej1.outs.map fun n=>(n,doN ej1 [eT] n))=[([97],doN ej1 [eT] [97])] from rfl,Qsc];rfl
theorem QrK:QbU ef1 (eM++[([97],eF)])=[([114],eF)]:=by rfl
theorem Qsd:eF.2.length=2:=by kernel_rfl
theorem Qhi (w:World) (hE:Fw.FEnv w) (aI:GErr w) (aE:Env w):
 Calls Tryz.prog 6 #[] w fun e w'=>e=.returned (.bool true)/\Below w.heap.size w w':=by
 have HP:=Hk (Fw.parse_any es1 w (by decide) hE);have a8:(ba es1)=⟨#[105,110,32,112,58,32,105,100,32,105,110,116,59,32,106,111,98,32,97,32,61,32,102,105,108,116,101,114,32,112,32,119,104,101,114,101,32,105,100,32,62,32,49,59,32,111,117,116,32,114,32,61,32,97,59]⟩:=rfl;have HE:=Hk (Ai hE (Ai aI aE));rw[a8] at HP;clear hE aI aE;go_enter Tryz.func6,Tryz.ntmps6;go_wp2_with (first|(go_at_call 17;fail));refine HP.out.mono ?_;rintro e1 w1 ⟨⟨f,vi,vj,vo,F,rfl,J⟩|⟨er,b,F,rfl,-⟩,aY⟩
 ·rw[Qnx] at F;obtain rfl:ef1=f:=by injection F
  have aH:=Hk (Fw.FlowRd.of J);obtain⟨ia,ic,rfl⟩:=row_slice (Fw.FlowRd.of J).ins;obtain⟨ja,jc,rfl⟩:=row_slice (Fw.FlowRd.of J).jobs;obtain⟨oa,oc,rfl⟩:=row_slice (Fw.FlowRd.of J).outs;have aw:=Fw.parse_ok (l:=es1) (by decide) Qnx;have a0:=Hk aw;obtain⟨w2,ah⟩:∃x,w1.alloc (.cells #[.slice ia ef1.ins.length ic,.slice ja ef1.jobs.length jc,.slice oa ef1.outs.length oc] 29)=x:=⟨_,rfl⟩;have M:Below w1.heap.size w1 w2:=by rw[<-ah];exact Qaa _ _
  have aJ:Fw.Box w2 w1.heap.size [.slice ia ef1.ins.length ic,.slice ja ef1.jobs.length jc,.slice oa ef1.outs.length oc]:=by rw[<-ah];exact Fw.Box.new w1 _ _ _ rfl
  have aW:=Hk aJ;have aP:=Hk (bel_then aY M);have ai:=Hk (aH.out.below M);have am:=Hk (Qlq esT w2 (by decide) (HE.out.2.2.below aP.out));rw[Qqa] at am;have aL:esT=⟨#[105,100,58,105,110,116,10,49,10,50,10,51,10]⟩:=rfl;rw[aL] at am;obtain⟨n1,af⟩:∃n,ef1.ins.length=n:=⟨_,rfl⟩;obtain⟨n2,ax⟩:∃n,ef1.jobs.length=n:=⟨_,rfl⟩;obtain⟨n3,ak⟩:∃n,ef1.outs.length=n:=⟨_,rfl⟩;rw[af,ax,ak] at ah aW ai aH;rw[af,ax,ak];clear J F aY M aJ aw aL af ax ak;go_wp2_with (first|(go_at_call 18;fail));refine am.out.mono ?_;rintro e3 w3 ⟨aR,D,y,rfl,hc,hr⟩;have aM:Hid (Qgi w3 (.agg #[D,y]) eT):=Hk ⟨D,y,rfl,hc,hr⟩;obtain⟨h,aC⟩:∃x,w3.alloc (.cells #[D,y] 54)=x:=⟨_,rfl⟩;have O:Below w3.heap.size w3 h:=by rw[<-aC];exact Qaa _ _
  have aO:Fw.Box h w3.heap.size [D,y]:=by rw[<-aC];exact Fw.Box.new w3 _ _ _ rfl
  have I:Below w2.heap.size w2 h:=bel_then aR O;obtain⟨w5,aQ⟩:∃x,h.alloc (.map #[] 0)=x:=⟨_,rfl⟩;have E:Below h.heap.size h w5:=by rw[<-aQ];exact Qaa _ _
  have al:MapC w5 h.heap.size []:=by rw[<-aQ];exact MapC.made h
  obtain⟨K,aN,aa,aq,-⟩:=Qen al (n:=[112]) (by simp) (by decide) (by decide) (.agg #[D,y]);have aN:(Instr.mapUpdate 22 (.map (some h.heap.size)) (.string ⟨#[112]⟩) (.agg #[D,y])).run Tryz.prog w5=.ok () K:=aN;have aK:Stay w5 K:=Stay.put al.obj aq;have U:Below h.heap.size h K:=E.grown aq E.size (fun q hq=>by injection hq with hq;omega);have Z:=Hk (bel_then aP.out (bel_then I U));have H:=(aW.out.below I);have g0:=H.cell 0 (v:=.slice ia n1 ic) rfl;have g1:=H.cell 1 (v:=.slice ja n2 jc) rfl;have g2:=H.cell 2 (v:=.slice oa n3 oc) rfl;have ao:=aO.below E;have q0:=ao.cell 0 (v:=D) rfl;have q1:=ao.cell 1 (v:=y) rfl;have au:Qgi K (.agg #[D,y]) eT:=((aM.out.below O).below E).stay aK;have aa:MapC K h.heap.size [([112],.agg #[D,y])]:=aa;obtain⟨aF,ag⟩:=GivM.of (m:=eM) aa (show QaV K [([112],.agg #[D,y])] eM from⟨⟨rfl,au⟩,trivial⟩);have ay:=Hk (Qno ef1 [0] _ _ _ _ (.map (some h.heap.size)) _ K (ai.out.below (bel_then I U)) a0.out (cell_below HE.out.2.1 Z.out) Qq1 (HE.out.2.2.below Z.out) aF (fun n u t e=>by
   have h2:=ag n;rw[e] at h2
   by_cases hn:n∈keysT eM
   ·obtain⟨x,hx,-,e2⟩:=QbT hn;simp[eM] at hx;subst hx;rw[e2] at h2;have:t=eT:=Option.some.inj h2;rw[this];decide
   ·rw[QdA hn] at h2;cases h2))
  rw[show(fun n=>(Qle [([112],.agg #[D,y])] eM n).map (·.2))=QaP eM from funext ag] at ay;have bv:∀V:World,(Instr.makeMap 22 none).run Tryz.prog V=.ok (.map (some V.heap.size)) (V.alloc (.map #[] 0)):=fun V=>by kernel_rfl
  obtain⟨ca,cc,rfl,-⟩:=hc;obtain⟨ra,rc,rfl,-⟩:=hr;clear aR O aO I E al aa aq aK U H ao au aF ag aM;generalize ecs.length=tn at*;generalize (QrC.map (·.map vl)).length=tm at*;have bp:∀(u v:Value) (V:World),(Instr.field 54 (.agg #[u,v]) 1).run Tryz.prog V=.ok v V:=fun u v V=>by kernel_rfl
  go_wp2_with (first|(go_at_call 9;fail));refine ay.out.mono ?_;rintro e7 w7 ⟨aX,⟨n,k,ar,-⟩|⟨m,A,b,aG,rfl,bb,aT,ab,-⟩⟩
  ·rw[QrU] at ar;cases ar
  ·obtain rfl:=Except.ok.inj (QrU.symm.trans aG);rw[QrK] at ab;have aU:A.length=1:=by rw[ab.len];rfl
   obtain⟨w8,aS⟩:∃x,w7.alloc (.cells #[.int .i64 0,.int .i64 (-1)] 39)=x:=⟨_,rfl⟩;have N:Below w7.heap.size w7 w8:=by rw[<-aS];exact Qaa _ _
   have aj:=aT.below N;have bo:∀ty,(Builtin.len_ #[22] ty #[.map (some b)]).run Tryz.prog w8=.ok (.int .i64 1) w8:=fun ty=>by
    have:=Qfc aj ty;rwa[aU] at this
   obtain⟨u,t,aV,aD,⟨bj,bk,rfl,bh,bg⟩,-⟩:=ab.look (n:=[114]) (by simp[keysT]);have ae:=Qdm aj [114] (by decide) false;rw[aV] at ae;have bd:(Instr.lookup 22 (.map (some b)) (.string ⟨#[114]⟩) false).run Tryz.prog w8=.ok (.agg #[bj,bk]) w8:=ae;clear ae;have ht:t=eF:=(Option.some.inj aD).symm;obtain⟨bw,bu,rfl,-⟩:=bg;rw[ht,Qsd] at bd;have z0:w8.cell? ⟨w7.heap.size,0,none⟩=some (.int .i64 0):=by rw[<-aS];exact World.cell?_alloc_at _ _ _ _ rfl
   have bi:=Hk (Z.out.trans ((bel_then aX N).mono Z.out.size));clear aX aG bb aT ab aU N aj aV aD bh ht;go_wp2;go_ret;exact⟨rfl,bi.out⟩
 ·rw[Qnx] at F;cases F
end Go.Proofs.YtjlgejennghhlaaGreatDoor.Pl.Ev
namespace Go.Proofs.YtjlgejennghhlaaGreatDoor.Pl.Ev
open Go.RowKit Go.Maps
open Fw (By FJob Flw ba)
theorem Qhj {E:FJob->List Tb->Int} {C:FJob->List Tb->By->Tb} {f:Flw}:∀{o:List Nat} {m:TM} {e:Int} {k:Nat},runN E C f o m=.error (e,k)->k∈o
 |[],m,e,k,h=>by cases h
 |a::r,m,e,k,h=>by
  unfold runN at h
  cases hj:f.jobs[a]? with
  |none=>rw[hj] at h;exact List.mem_cons_of_mem _ (Qhj h)
  |some j=>
   rw[hj] at h;simp only at h;split at h
   ·exact List.mem_cons_of_mem _ (Qhj h)
   ·simp only[Except.error.injEq,Prod.mk.injEq] at h;rw[<-h.2];simp
theorem Qhk {f:Flw} {o:List Nat} {E:CM} {G:By->Option Tb} {n k:Int} (y:QaU f o E) (F:Fw.FlwOK f) (h:Qhr f o G=.error (n,k)):k= -1\/∃j:Nat,k=(j:Int)/\j<=16:=by
 unfold Qhr at h
 cases hI:Qcr G f.ins [] with
 |error e=>rw[hI] at h;simp only[Except.error.injEq,Prod.mk.injEq] at h;exact Or.inl h.2.symm
 |ok It=>
  rw[hI] at h;simp only at h
  cases hq:runN doE doN f o It with
  |ok m=>rw[hq] at h;cases h
  |error e=>
   obtain⟨e,j⟩:=e;rw[hq] at h;simp only[Except.error.injEq,Prod.mk.injEq] at h;have D:=QbA y.2.1;have:=(D.mem j).1 (Qhj hq);have:=F.jl;exact Or.inr ⟨j,h.2.symm,by omega⟩
def Qse (w w':World) (mo mo':Option Nat) (T:TM):Prop:=∃b b' A A',mo=some b/\mo'=some b'/\MapC w b A/\QaV w A T/\MapC w' b' A'/\QaV w' A' T/\(∀x∈T,Qae x.2.1 x.2.2=true)/\(keysT T).Nodup
theorem Qlr {w:World} {b:Nat} {A:AM} (h:MapC w b A) (x:ByteArray) (D:x.size<=maxLen):(Instr.lookup 22 (.map (some b)) (.string x) false).run Tryz.prog w=.ok ((Qbv A x.data.toList).getD zeroT) w:=by
 have y:keyOf Tryz.prog 9 (.string x)=some (.string x.data.toList):=Dk.str_key Tryz.underlying9 x D;exact h.mapIs.look QbP Tryz.underlying22 (z:=zeroT) (by kernel_rfl) y false
theorem Qls {cs:List Cl} {rs:List (List Vl)} (h:Qae cs rs=true):cs.length<=60/\rs.length<=65/\∀r∈rs,r.length<=60:=by
 unfold Qae at h;simp only[Bool.and_eq_true,decide_eq_true_eq,List.all_eq_true] at h;have D:=Qbr h.1;refine⟨by omega,by omega,fun r hr=>?_⟩;have y:r.length=cs.length:=by
  by_cases e:r.length=cs.length
  ·exact e
  ·have:=Qdp r cs e;rw[h.2.2 r hr] at this;cases this
 omega
end Go.Proofs.YtjlgejennghhlaaGreatDoor.Pl.Ev
namespace Go.Proofs.YtjlgejennghhlaaGreatDoor.Pl.Ev
open Go.RowKit Go.Maps
open Fw (By FJob Flw ba)
theorem Qo7 {w:World} {mv:Value} (h:Qo2 w mv):∃bo,mv=.map bo:=by
 rcases h with rfl|⟨b,A,m,rfl,-⟩
 ·exact⟨none,rfl⟩
 ·exact⟨some b,rfl⟩
end Go.Proofs.YtjlgejennghhlaaGreatDoor.Pl.Ev
namespace Go.Proofs.YtjlgejennghhlaaGreatDoor.Pl.Ev
open Go.RowKit Go.Maps
open Fw (By FJob Flw ba)
def Qcw (G:By->Option (Value×Tb)) (l:List Fw.FIn):TM:=l.filterMap fun i=>(G i.name).map fun p=>(i.name,p.2)
theorem Qny {G:By->Option (Value×Tb)} {l:List Fw.FIn} {i:Fw.FIn} {u:Value} {t:Tb} (h:G i.name=some (u,t)):Qcw G (l++[i])=Qcw G l++[(i.name,t)]:=by
 unfold Qcw;rw[List.filterMap_append];simp[h]
theorem Qnz {G:By->Option (Value×Tb)} {l:List Fw.FIn} {i:Fw.FIn} (h:G i.name=none):Qcw G (l++[i])=Qcw G l:=by
 unfold Qcw;rw[List.filterMap_append];simp[h]
theorem Qiz {G:By->Option (Value×Tb)} {l:List Fw.FIn} {n:By} (h:n∈keysT (Qcw G l)):n∈l.map (·.name):=by
 obtain⟨x,D,rfl⟩:=List.mem_map.1 h;obtain⟨i,y,e⟩:=List.mem_filterMap.1 D;obtain⟨p,-,rfl⟩:=Option.map_eq_some_iff.1 e;exact List.mem_map.2 ⟨i,y,rfl⟩
theorem Qo8 (G:By->Option (Value×Tb)) (l:List Fw.FIn):(Qcw G l).length<=l.length:=List.length_filterMap_le _ _
theorem QiA {G:By->Option (Value×Tb)}:∀{l:List Fw.FIn},(l.map (·.name)).Nodup->∀i∈l,QaP (Qcw G l) i.name=(G i.name).map (·.2)
 |[],_,i,y=>by cases y
 |a::l,hn,i,y=>by
  rw[List.map_cons,List.nodup_cons] at hn;have e:Qcw G (a::l)=(match G a.name with |some p=>[(a.name,p.2)]|none=>[])++Qcw G l:=by
   unfold Qcw;rw[List.filterMap_cons]
   cases G a.name<;>rfl
  rw[e];rcases List.mem_cons.1 y with rfl|y
  ·cases hg:G i.name with
   |none=>
    simp only[List.nil_append,Option.map_none];exact QdA fun h=>hn.1 (Qiz h)
   |some p=>
    simp only[Option.map_some];rw[QcO (by simp[keysT])];simp[QaP]
  ·have D:a.name≠i.name:=fun q=>hn.1 (by rw[q];exact List.mem_map.2 ⟨i,y,rfl⟩)
   rw[QdT (by cases G a.name<;>simp[keysT];exact fun q=>D q.symm)];exact QiA hn.2 i y
theorem Qlt {G:By->Option (Value×Tb)} {l:List Fw.FIn} (D:∀n u t,G n=some (u,t)->t.1.length<=60):∀n t,QaP (Qcw G l) n=some t->t.1.length<=60:=by
 intro n t h;obtain⟨i,H,e⟩:=List.mem_filterMap.1 (Qke h);obtain⟨⟨u,y⟩,E,e⟩:=Option.map_eq_some_iff.1 e;have F:y=t:=congrArg (fun x:By×Tb=>x.2) e;rw[<-F];exact D _ u y E
theorem Qq2 {f g:Flw} {o o':List Nat} {m0 ah:CM} {G G':By->Option Tb} {w w':World} {Z K:Option Nat} {n k V k':Int} (E:QaU f o m0) (hf:Fw.FlwOK f) (F:QaU g o' ah) (hg:Fw.FlwOK g) (hi:g.ins=f.ins) (hp:g.jobs.Perm f.jobs) (ho:g.outs=f.outs) (hG:∀i∈f.ins,G' i.name=G i.name) (h:Qqi f o G w Z n k) (h':Qqi g o' G' w' K V k'):
 (Z=none/\K=none/\n≠0/\V≠0/\((k= -1/\k'= -1)\/∃j J:Nat,k=(j:Int)/\k'=(J:Int)))\/(n=0/\V=0/\k= -1/\k'= -1/\∃m,Qse w w' Z K (QbU f m)/\m0=colsOf m/\(keysT m).Perm (Qaw f)):=by
 have U:=Qo6 E F hi hp ho hG;rcases h with ⟨H,h2,h3⟩|⟨m,A,b,H,h2,h3,h4,h5,h6,h7,h8,h9⟩
 ·rcases U with ⟨a,b,c,d,D,I,N⟩|⟨m,m',D,-⟩
  ·rcases h' with ⟨y,O,M⟩|⟨m',A',b',y,-⟩
   ·refine Or.inl ⟨h3,M,h2,O,?_⟩;have r1:=D.symm.trans H;have r2:=I.symm.trans y;simp only[Except.error.injEq,Prod.mk.injEq] at r1 r2;rw[r1.2,r2.2] at N;rcases Qhk E hf H with rfl|⟨j,rfl,-⟩
    ·rcases Qhk F hg y with rfl|⟨J,rfl,-⟩
     ·exact Or.inl ⟨rfl,rfl⟩
     ·have:=N.1 (by decide);omega
    ·rcases Qhk F hg y with rfl|⟨J,rfl,-⟩
     ·have:=N.2 (by decide);omega
     ·exact Or.inr ⟨j,J,rfl,rfl⟩
   ·rw[I] at y;cases y
  ·rw[H] at D;cases D
 ·rcases U with ⟨a,b,c,d,D,I,N⟩|⟨m1,m2,D,I,ht⟩
  ·rw[H] at D;cases D
  ·obtain rfl:m=m1:=Except.ok.inj (H.symm.trans D);rcases h' with ⟨y,O,M⟩|⟨m',A',b',y,O,M,q4,q5,q6,-⟩
   ·rw[I] at y;cases y
   ·obtain rfl:m'=m2:=Except.ok.inj (y.symm.trans I);rw[ht] at q6;refine Or.inr ⟨h2,O,h3,M,m,⟨b,b',A,A',h4,q4,h5,h6,q5,q6,Qlo E.1 h9 h7,Qlp E.1⟩,?_,h9⟩;exact Option.some.inj (E.2.2.symm.trans h8)
theorem Qo9 (f:Flw):Qlz f 0=f:=by
 cases f
 simp[Qlz]
theorem QrL {h N K D:World} {f:Flw} {k b n6:Nat} {H E gj y u6:Value} {xs:List Value} {F:Nat->List Value} (h5:h.heap.size<N.heap.size) (J:Below h.heap.size h K) (U:K.ownsRow N.heap.size 50 15 u6 n6 xs) (hg:K.grownBy D u6.ownBlock)
 (Z:D.ownsRow N.heap.size 50 15 y f.jobs.length ((List.range' k (f.jobs.length-k)).flatMap F++(List.range' 0 k).flatMap F)) (V:Fw.Box D h.heap.size [H,gj,E])
 (hF:∀j,j<f.jobs.length->JC h b f.jobs j (F j)) (hk:k<f.jobs.length) (aa:Fw.RowR h H f.ins.length 3 (Fw.InAt f.ins)) (O:Fw.RowR h E f.outs.length 3 (Fw.OutAt f.outs)):
 Fw.FlowRd (D.setCell ⟨h.heap.size,1,none⟩ y) (Qlz f k) H y E/\Qcx (D.setCell ⟨h.heap.size,1,none⟩ y) h.heap.size H y E/\Below h.heap.size h (D.setCell ⟨h.heap.size,1,none⟩ y):=by
 have ab:Below h.heap.size h D:=J.grown hg J.size (fun q hq=>by have:=(U.lt q hq).1;omega);have I:=ab.setCell (p:=⟨h.heap.size,1,none⟩) (Nat.le_refl _) y;have M:=V.set 1 y;exact⟨Qo4 (c:=0) hF hk aa O I (ownsRow_setCell_below Z (a:=⟨h.heap.size,1,none⟩) h5 y),⟨M.cell 0 rfl,M.cell 1 rfl,M.cell 2 rfl⟩,I⟩
end Go.Proofs.YtjlgejennghhlaaGreatDoor.Pl.Ev
