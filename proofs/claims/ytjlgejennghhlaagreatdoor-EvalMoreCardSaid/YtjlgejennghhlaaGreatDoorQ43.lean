import Derived.Test.YtjlgejennghhlaaGreatDoorRows
import Derived.ProofKit
import Derived.OpenShut
import Derived.Stop.LaidErr
import Derived.Lib.LaidTab
import Derived.Lib.LaidU8
import Derived.Lay
import Derived.LaidLaws
import Derived.LaidHandle
import Derived.Stop.Joined
import Derived.Deep.DeepHandedRow
import Derived.Test.YtjlgejennghhlaaGreatDoorQ01
import Derived.Test.YtjlgejennghhlaaGreatDoorQ29
import Derived.Test.YtjlgejennghhlaaGreatDoorQ41
import Derived.Test.YtjlgejennghhlaaGreatDoorQ09
set_option linter.unusedSimpArgs false
set_option linter.unusedVariables false
set_option linter.unusedSectionVars false
set_option maxRecDepth 1000000
set_option maxHeartbeats 16000000
namespace Go.Proofs.YtjlgejennghhlaaGreatDoor.Pl.Ev
open Go.RowKit
open Fw (By FJob Flw ba)
theorem Qif {m:Int} (F:Qaz m):∀(r:List Vl) (cs:List Cl),QaO r cs=true->∀(i:Nat) (D:i<cs.length),cs[i].2=1->QaO (r.set i (1,m,⟨#[]⟩)) cs=true
 |[],[],_,i,D,_=>absurd D (by simp)
 |[],c::q,h,_,_,_=>by simp[QaO] at h
 |v::r,[],h,_,_,_=>by simp[QaO] at h
 |v::r,c::q,h,0,D,y=>by
  simp only[QaO,Bool.and_eq_true,beq_iff_eq] at h;have y:c.2=1:=y;simp only[List.set_cons_zero,QaO,Bool.and_eq_true,beq_iff_eq];refine⟨y.symm,?_,h.2.2⟩
  show Qao 1 m []=true
  unfold Qao;rw[if_pos rfl];simp[F.1,F.2]
 |v::r,c::q,h,i+1,D,y=>by
  simp only[QaO,Bool.and_eq_true,beq_iff_eq] at h;simp only[List.set_cons_succ,QaO,Bool.and_eq_true,beq_iff_eq];exact⟨h.1,h.2.1,Qif F r q h.2.2 i (by simpa using D) (by simpa using y)⟩
theorem Qf1:∀{a:List Vl} {cs:List Cl} {b:List Vl} {y:List Cl},QaO a cs=true->QaO b y=true->QaO (a++b) (cs++y)=true
 |[],[],_,_,_,h=>h
 |[],_::_,_,_,h,_=>by simp[QaO] at h
 |_::_,[],_,_,h,_=>by simp[QaO] at h
 |v::a,c::cs,b,y,h,h'=>by
  simp only[QaO,Bool.and_eq_true,beq_iff_eq] at h;simp only[List.cons_append,QaO,Bool.and_eq_true,beq_iff_eq];exact⟨h.1,h.2.1,Qf1 h.2.2 h'⟩
theorem QgG:∀{a:List Vl} {cs:List Cl} (k:Nat),QaO a cs=true->QaO (a.take k) (cs.take k)=true
 |_,_,0,_=>by simp[QaO]
 |[],[],_+1,_=>rfl
 |[],_::_,_+1,h=>by simp[QaO] at h
 |_::_,[],_+1,h=>by simp[QaO] at h
 |v::a,c::cs,k+1,h=>by
  simp only[QaO,Bool.and_eq_true,beq_iff_eq] at h;simp only[List.take_succ_cons,QaO,Bool.and_eq_true,beq_iff_eq];exact⟨h.1,h.2.1,QgG k h.2.2⟩
theorem QgH:∀{a:List Vl} {cs:List Cl} (k:Nat),QaO a cs=true->QaO (a.drop k) (cs.drop k)=true
 |_,_,0,h=>h
 |[],[],_+1,_=>rfl
 |[],_::_,_+1,h=>by simp[QaO] at h
 |_::_,[],_+1,h=>by simp[QaO] at h
 |v::a,c::cs,k+1,h=>by
  simp only[QaO,Bool.and_eq_true,beq_iff_eq] at h;exact QgH k h.2.2
theorem Qfa {cs:List Cl} {rs:List (List Vl)} (h:Qai cs=true) (y:rs.length<=60) (D:∀r∈rs,QaO r cs=true):Qae cs rs=true:=by
 unfold Qae;rw[h];simp only[Bool.true_and,Bool.and_eq_true,decide_eq_true_eq,List.all_eq_true];exact⟨y,D⟩
noncomputable def doE (j:FJob) (ts:List Tb):Int:=
 if j.code=2 then Qd6 (ts.getD 0 ([],[])) (jb0 j) (j.cols.getD 0 [])
 else if j.code=5 then QdI (ts.getD 0 ([],[])) (ts.getD 1 ([],[]))
 else if j.code=7 then Qb4 (ts.getD 0 ([],[])) (ts.getD 1 ([],[])) (ba (j.cols.getD 0 [])) (ba (j.cols.getD 1 []))
 else if j.code=8 then(if j.op=Fw.wSum then grpNo (ts.getD 0 ([],[])) (ba (j.cols.getD 0 [])) (ba (j.cols.getD 1 [])) else Mx.grpNo (ts.getD 0 ([],[])) (ba (j.cols.getD 0 [])) (ba (j.cols.getD 1 [])))
 else 0
noncomputable def doC (j:FJob) (ts:List Tb):List Tb:=
 if j.code=1 then[((ts.getD 0 ([],[])).1,(ts.getD 0 ([],[])).2.filter (Qbm (ts.getD 0 ([],[])).1 (jb0 j)))]
 else if j.code=9 then[((ts.getD 0 ([],[])).1,(ts.getD 0 ([],[])).2.filter (Qbm (ts.getD 0 ([],[])).1 (jb0 j))),((ts.getD 0 ([],[])).1,(ts.getD 0 ([],[])).2.filter fun r=> !Qbm (ts.getD 0 ([],[])).1 (jb0 j) r)]
 else if j.code=2 then[((ts.getD 0 ([],[])).1,(ts.getD 0 ([],[])).2.map (Qmc (ts.getD 0 ([],[])).1 (jb0 j) ((Qaq (ts.getD 0 ([],[])).1 (j.cols.getD 0 [])).getD 0)))]
 else if j.code=3 then[(Qbc (Qaj (ts.getD 0 ([],[])).1 (j.cols.map ba)) (ts.getD 0 ([],[])).1,(ts.getD 0 ([],[])).2.map (QbQ (Qaj (ts.getD 0 ([],[])).1 (j.cols.map ba))))]
 else if j.code=4 then[((ts.getD 0 ([],[])).1,Qa8 (Qaj (ts.getD 0 ([],[])).1 (j.cols.map ba)) (ts.getD 0 ([],[])).2)]
 else if j.code=5 then[((ts.getD 0 ([],[])).1,(ts.getD 0 ([],[])).2++(ts.getD 1 ([],[])).2)]
 else if j.code=6 then[((ts.getD 0 ([],[])).1,(Qcr (ts.getD 0 ([],[])).2).2)]
 else if j.code=7 then[(Qb7 (ts.getD 0 ([],[])).1 (ts.getD 1 ([],[])).1 (pOf (ts.getD 1 ([],[])).1 (ba (j.cols.getD 1 []))),joinL (ts.getD 0 ([],[])).2 (ts.getD 1 ([],[])).2 (pOf (ts.getD 0 ([],[])).1 (ba (j.cols.getD 0 []))) (pOf (ts.getD 1 ([],[])).1 (ba (j.cols.getD 1 []))))]
 else if j.op=Fw.wSum then[grpT (ts.getD 0 ([],[])) (ba (j.cols.getD 0 [])) (ba (j.cols.getD 1 []))]
 else[Mx.grpT (ts.getD 0 ([],[])) (ba (j.cols.getD 0 [])) (ba (j.cols.getD 1 []))]
theorem Qig {j:FJob} {ts:List Tb} (D:Fw.JobOK j) (y:ts.length=j.ins.length):((j.code=5\/j.code=7)/\∃t u,ts=[t,u])\/(j.code≠5/\j.code≠7/\∃t,ts=[t]):=by
 obtain⟨-,-,-,F,H⟩:=D.fm
 by_cases h:j.code=5\/j.code=7
 ·obtain⟨a,b,e⟩:=F h;rw[e] at y
  match ts,y with
  |[t,u],_=>exact Or.inl ⟨h,t,u,rfl⟩
 ·obtain⟨a,e⟩:=H (fun q=>h (Or.inl q)) (fun q=>h (Or.inr q));rw[e] at y
  match ts,y with
  |[t],_=>exact Or.inr ⟨fun q=>h (Or.inl q),fun q=>h (Or.inr q),t,rfl⟩
theorem Qm2 {j:FJob} {ins:List Cs} (h:Qbg j ins=0):Qef j ins=0/\j.outs.length=(if j.code=9 then 2 else 1):=by
 unfold Qbg at h
 by_cases hm:j.outs.length=(if j.code=9 then 2 else 1)
 ·rw[if_pos hm] at h;exact⟨h,hm⟩
 ·rw[if_neg hm] at h;cases h
theorem Qih:∀(l y:List Cl),(∀c∈l,Qek c.1.data.toList=true/\Qhr c.2=true)->(∀i (h:i<l.length),Qbk (y++l.take i) l[i].1.data.toList=false)->Qcv y l=true
 |[],_,_,_=>rfl
 |c::r,y,h1,h2=>by
  have D:=h2 0 (by simp);simp only[Qcv,Bool.and_eq_true];refine⟨(h1 c (by simp)).1,(h1 c (by simp)).2,by simpa using D,Qih r _ (fun d hd=>h1 d (by simp[hd])) (fun i hi=>?_)⟩;have:=h2 (i+1) (by simpa using hi);simpa using this
theorem Qm3 {l:List Cl} (h:Qd1 l=false) (i:Nat) (H:i<l.length):Qbk (l.take i) l[i].1.data.toList=false:=by
 cases e:Qbk (l.take i) l[i].1.data.toList with
 |false=>rfl
 |true=>
  unfold Qbk at e;obtain⟨x,I,y⟩:=List.any_eq_true.1 e;obtain⟨k,F,rfl⟩:=List.mem_iff_getElem.1 I;simp only[List.length_take] at F;rw[List.getElem_take] at y;have y:l[k].1.data.toList=l[i].1.data.toList:=by simpa using y
  have:QaB l l[i].1.data.toList<(i:Int):=by
   unfold QaB
   cases g:Qaq l l[i].1.data.toList with
   |none=>
    unfold Qaq at g;rw[List.findIdx?_eq_none_iff] at g;have:=g l[k] (List.getElem_mem _);simp[y] at this
   |some p=>
    show(p:Int)<i
    unfold Qaq at g;rw[List.findIdx?_eq_some_iff_getElem] at g;obtain⟨M,K,J⟩:=g;rcases Nat.lt_or_ge k p with D|D
    ·have:=J k D;simp[y] at this
    ·omega
  have:=Qjo H this;rw[h] at this
  cases this
theorem Qi1 {cs h:List Cl} {x y:ByteArray} (he:QaW cs h x y=0) (H:Qai cs=true) (k1:Qai h=true):Qai (Qb7 cs h (pOf h y))=true:=by
 obtain⟨I,J⟩:=Qd2 he;unfold QaW at he;rw[I,J] at he;simp only at he;split at he
 ·cases he
 split at he
 ·cases he
 split at he
 ·cases he
 rename_i F K
 have F:Qd1 (Qb7 cs h (pOf h y))=false:=by simpa using F
 simp only[Qai,Bool.and_eq_true,decide_eq_true_eq] at H k1⊢;refine⟨?_,by omega,Qih _ _ (fun c D=>?_) (fun i hi=>by simpa using Qm3 F i hi)⟩
 ·simp only[Qb7,List.length_append];omega
 ·simp only[Qb7,List.mem_append] at D;rcases D with (D|D)|D
  ·exact QbO cs [] H.2.2 c D
  ·exact QbO h [] k1.2.2 c (List.mem_of_mem_take D)
  ·exact QbO h [] k1.2.2 c (List.mem_of_mem_drop D)
theorem QoJ (p q:Nat) (rs:List (List Vl)):∀g∈Qep p q rs,∃r∈rs,g.1=vAt r p:=by
 have I:∀(l:List (List Vl)) (H:List Gr),∀g∈l.foldl (stepG p q) H,(∃F∈H,g.1=F.1)\/∃r∈l,g.1=vAt r p:=by
  intro l
  induction l with
  |nil=>exact fun H g D=>Or.inl ⟨g,D,rfl⟩
  |cons r l ih=>
   intro H g D;rcases ih _ g D with ⟨F,y,e⟩|⟨K,J,e⟩
   ·unfold stepG at y;split at y
    ·simp at y;exact Or.inr ⟨r,by simp,by rw[e,y]⟩
    ·rename_i N M
     split at y
     ·rcases List.mem_append.1 y with h|h
      ·exact Or.inl ⟨F,List.dropLast_subset _ h,e⟩
      ·simp at h;exact Or.inl ⟨N,List.mem_of_getLast? M,by rw[e,h]⟩
     ·rcases List.mem_append.1 y with h|h
      ·exact Or.inl ⟨F,h,e⟩
      ·simp at h;exact Or.inr ⟨r,by simp,by rw[e,h]⟩
   ·exact Or.inr ⟨K,by simp[J],e⟩
 intro g D;rcases I rs [] g D with ⟨F,h,-⟩|h
 ·cases h
 ·exact h
theorem QoK (p q:Nat) (rs:List (List Vl)):∀g∈Qeq p q rs,∃r∈rs,g.1=vAt r p:=by
 have I:∀(l:List (List Vl)) (H:List Gr),∀g∈l.foldl (Qc4 p q) H,(∃F∈H,g.1=F.1)\/∃r∈l,g.1=vAt r p:=by
  intro l
  induction l with
  |nil=>exact fun H g D=>Or.inl ⟨g,D,rfl⟩
  |cons r l ih=>
   intro H g D;rcases ih _ g D with ⟨F,y,e⟩|⟨K,J,e⟩
   ·unfold Qc4 at y;split at y
    ·simp at y;exact Or.inr ⟨r,by simp,by rw[e,y]⟩
    ·rename_i N M
     split at y
     ·rcases List.mem_append.1 y with h|h
      ·exact Or.inl ⟨F,List.dropLast_subset _ h,e⟩
      ·simp at h;exact Or.inl ⟨N,List.mem_of_getLast? M,by rw[e,h]⟩
     ·rcases List.mem_append.1 y with h|h
      ·exact Or.inl ⟨F,h,e⟩
      ·simp at h;exact Or.inr ⟨r,by simp,by rw[e,h]⟩
   ·exact Or.inr ⟨K,by simp[J],e⟩
 intro g D;rcases I rs [] g D with ⟨F,h,-⟩|h
 ·cases h
 ·exact h
theorem QeS {t:Tb} {x y:ByteArray} {H:List Gr} (J:Qae t.1 t.2=true) (he:QaM t.1 x y=0) (hl:H.length<=60) (V:∀g∈H,∃r∈t.2,g.1=vAt r (pOf t.1 x)) (hn:∀g∈H,Qaz g.2):Qae (Qbc [pOf t.1 x,pOf t.1 y] t.1) (QaA H)=true:=by
 obtain⟨hp,Z,M,af⟩:=QcR he;have h:=Qap hp;have F:=Qap Z;obtain⟨h1,h2,h3⟩:=QaI J;have I:=(QaI (Qgu J (grp_list he))).1;rw[QkC] at I;refine Qfa I (by simpa [QaA] using hl) (fun r hm=>?_);obtain⟨g,N,rfl⟩:=List.mem_map.1 hm;obtain⟨r,D,e⟩:=V g N;obtain⟨-,-,-,O⟩:=Qam J;have U:=Qpf (h3 r D) (pOf t.1 x) (by rw[O r D];exact h) h;rw[Qdf (by rw[O r D];exact h)] at e;have hv:rvB (1,g.2,(⟨#[]⟩:ByteArray))=true:=by
  show Qao 1 g.2 []=true
  unfold Qao;rw[if_pos rfl];have:=hn g N;simp[this.1,this.2]
 have K:(t.1[pOf t.1 y]'F).2=1:=by
  have:=M;unfold QbM at this;rw[List.getElem?_eq_getElem F] at this;exact this
 simp only[Qbc,List.map_cons,List.map_nil,QaO,Bool.and_true,Bool.and_eq_true,beq_iff_eq];rw[List.getElem?_eq_getElem h,List.getElem?_eq_getElem F,e];exact⟨U.1,U.2,K.symm,hv⟩
theorem QkZ {t u:Tb} {x y:ByteArray} (h:Qb4 t u x y=0):Qae (Qb7 t.1 u.1 (pOf u.1 y)) (joinL t.2 u.2 (pOf t.1 x) (pOf u.1 y))=true:=by
 obtain⟨J,H,he,M⟩:=Qjq h;obtain⟨hp,N⟩:=Qd2 he;have Z:=Qap N;obtain⟨U,h2,V⟩:=QaI J;obtain⟨k1,k2,I⟩:=QaI H;obtain⟨-,-,-,l4⟩:=Qam J;obtain⟨-,-,-,m4⟩:=Qam H;have K:Qai (Qb7 t.1 u.1 (pOf u.1 y))=true:=Qi1 he U k1;refine Qfa K M (fun r D=>?_);unfold joinL QcO at D;obtain⟨a,O,D⟩:=List.mem_flatMap.1 D;obtain⟨b,F,rfl⟩:=List.mem_map.1 D;have F:=(List.mem_filter.1 F).1;unfold Qb7;exact Qf1 (Qf1 (V a O) (QgG _ (I b F))) (QgH _ (I b F))
theorem QjX {j:FJob} {ts:List Tb} (hj:Fw.JobOK j) (hl:ts.length=j.ins.length) (hr:∀t∈ts,Qae t.1 t.2=true) (hc:Qbg j (ts.map (·.1))=0) (he:doE j ts=0):(doC j ts).length=j.outs.length/\∀t∈doC j ts,Qae t.1 t.2=true/\t.1=Qa9 j (ts.map (·.1)):=by
 obtain⟨O,F⟩:=Qm2 hc;rw[F];obtain⟨f2,f7,f8,-,-⟩:=hj.fm;rcases Qig hj hl with ⟨ae,t,u,rfl⟩|⟨n5,n7,t,rfl⟩
 ·have h:=hr t (by simp);have h2:=hr u (by simp);rcases ae with e|e
  ·unfold doE at he;simp[e] at he;obtain⟨-,-,ag,ad⟩:=QlM he;have hu:Qae t.1 u.2=true:=by rw[ag];exact h2
   simp only[doC,Qa9,e];simp;exact QhJ h hu ad
  ·unfold doE at he;simp[e] at he;have:=QkZ he;simp only[doC,Qa9,e];simp;exact⟨this,rfl⟩
 ·have h:=hr t (by simp);unfold Qef at O;rcases hj.code with e|e|e|e|e|e|e|e|e
  ·simp only[doC,Qa9,e];simp;exact Qde h _
  ·obtain⟨n,H,-⟩:=f2 e;unfold doE at he;simp[e,H] at he;obtain⟨-,af,D⟩:=Qmi he;obtain⟨i,hi,k0,-,-⟩:=Qe4 af;obtain⟨U,q2,Z⟩:=QaI h;simp only[doC,Qa9,e];simp[H,hi];refine Qfa U (by simpa using q2) (fun r F=>?_);obtain⟨r,N,rfl⟩:=List.mem_map.1 F;exact Qif (D r N) r t.1 (Z r N) i (Qap hi) k0
  ·simp[e] at O;simp only[doC,Qa9,e];simp;exact Qgu h O
  ·simp only[doC,Qa9,e];simp;obtain⟨U,q2,Z⟩:=QaI h;exact Qfa U (by rw[QbG];exact q2) (fun r F=>Z r ((Stb.sortL_mem (Qjl _)).1 F))
  ·exact absurd e n5
  ·simp only[doC,Qa9,e];simp;exact QkY h
  ·exact absurd e n7
  ·obtain⟨x,y,H,eo⟩:=f8 e;obtain⟨-,-,M,-⟩:=Qam h;have K:∀r∈Qa8 [pOf t.1 (ba x)] t.2,r∈t.2:=fun r F=>(Stb.sortL_mem (Qjl _)).1 F
   unfold doE at he;simp[e,H] at he;simp only[doC,Qa9,e]
   by_cases ho:j.op=Fw.wSum
   ·simp[ho] at he;obtain⟨-,I,D⟩:=grpNo_0 he;simp[ho,H];refine⟨QeS h I (Nat.le_trans (QfD _ _ _) (by rw[QbG];exact M)) (fun g hg=>?_) D,rfl⟩;obtain⟨r,J,V⟩:=QoJ _ _ _ g hg;exact⟨r,K r J,V⟩
   ·simp[ho] at he;obtain⟨-,I,D⟩:=Mx.grpNo_0 he;simp[ho,H];refine⟨QeS h I (Nat.le_trans (QfH _ _ _) (by rw[QbG];exact M)) (fun g hg=>?_) D,rfl⟩;obtain⟨r,J,V⟩:=QoK _ _ _ g hg;exact⟨r,K r J,V⟩
  ·simp only[doC,Qa9,e];simp;exact⟨Qde h _,Qde h _⟩
def DoR (j:FJob) (ts:List Tb) (w:World) (e:Ending) (w':World):Prop:=Below w.heap.size w w'/\
 ((doE j ts≠0/\e=.returned (.tuple #[.slice none 0 0,QbK (doE j ts)]))\/
  (doE j ts=0/\∃g c,e=.returned (.tuple #[.slice (some ⟨g,0,none⟩) (doC j ts).length c,.nilIface])/\w.heap.size<=g/\g<w'.heap.size/\QbP w' w.heap.size g (doC j ts)))
theorem Qqz (j:FJob) (M N O:Value) (ts:List Tb) (tb tcap:Nat) (w:World) (hj:Fw.JobOK j) (aT:Fw.StrsR w M j.outs) (hc:Fw.StrsR w O j.cols) (ht:QaX w tb 0 ts) (K:tb<w.heap.size) (h3:∀vr,w.cell? ⟨tb,3,none⟩=some vr->∀t∈ts[1]?,Qcg w vr t.2) (hl:ts.length=j.ins.length) (hr:∀t∈ts,Qae t.1 t.2=true) (hE:Qbg j (ts.map (·.1))=0) (aR:Env w):
 Calls Tryz.prog 61 #[.agg (Fw.jobV j M N O).toArray,.slice (some ⟨tb,0,none⟩) ts.length tcap] w fun e w'=>DoR j ts w e w':=by
 rw[<-QjU];obtain⟨oa,oc,F⟩:=Pl.strs_slice aT;obtain⟨hb,hm⟩:=Qm2 hE;obtain⟨f2,f7,f8,-,-⟩:=hj.fm;have sz:∀{x:By},x.length<=1000->(ba x).size<=maxLen:=fun{x} h=>Nat.le_trans h (by decide)
 have av:=sz hj.r.2.1;have aK:=sz hj.l.2.1;rcases Qig hj hl with ⟨aO,t,u,rfl⟩|⟨n5,n7,t,rfl⟩
 ·have ai:=hr t (by simp);have be:=hr u (by simp);obtain⟨bf,ak,c2,c3,-,-⟩:=ht 1 (by simp);rcases aO with e|e
  ·rw[if_neg (by omega)] at hm;rw[hm] at F;have H:doE j [t,u]=QdI t u:=by simp[doE,e]
   have D:doC j [t,u]=[(t.1,t.2++u.2)]:=by simp[doC,e]
   by_cases h0:QdI t u=0
   ·refine(QlN tb tcap t u (Qcb j M N O) oa oc w e F ht K h0).mono ?_;rintro e' w' ⟨g,c,I,J,U,q4,Z⟩;exact⟨Z,Or.inr ⟨by rw[H];exact h0,g,c,by rw[D];exact I,J,U,by rw[D];exact q4⟩⟩
   ·refine(Qks tb tcap t u (Qcb j M N O) oa oc w e F ht K h0).mono ?_;rintro e' w' ⟨I,J⟩;exact⟨J,Or.inl ⟨by rw[H];exact h0,by rw[H];exact I⟩⟩
  ·obtain⟨x,y,ec⟩:=f7 e;rw[if_neg (by omega)] at hm;rw[hm] at F;rw[ec] at hc;obtain⟨cb,co,cc,rfl,au,s0,s1⟩:=Pl.strs_two hc;have hN:QbR w (Qcb j M N (.slice (some ⟨cb,co,none⟩) 2 cc)).cols (ba x) (ba y):=⟨cb,co,cc,rfl,au,s0,s1⟩;have H:doE j [t,u]=Qb4 t u (ba x) (ba y):=by simp[doE,e,ec]
   have D:doC j [t,u]=[(Qb7 t.1 u.1 (pOf u.1 (ba y)),joinL t.2 u.2 (pOf t.1 (ba x)) (pOf u.1 (ba y)))]:=by simp[doC,e,ec]
   have ar:w.cell? ⟨tb,3,none⟩=some ak:=by simpa using c3
   by_cases h0:Qb4 t u (ba x) (ba y)=0
   ·refine(QkA tb tcap t u (ba x) (ba y) ak (Qcb j M N _) oa oc w e F hN ht K ar (h3 ak ar u rfl) h0).mono ?_;rintro e' w' ⟨g,c,I,J,U,q4,Z⟩;exact⟨Z,Or.inr ⟨by rw[H];exact h0,g,c,by rw[D];exact I,J,U,by rw[D];exact q4⟩⟩
   ·refine(QiP tb tcap t u (ba x) (ba y) ak (Qcb j M N _) oa oc w e F hN ht K ar (h3 ak ar u rfl) h0).mono ?_;rintro e' w' ⟨I,J⟩;exact⟨J,Or.inl ⟨by rw[H];exact h0,by rw[H];exact I⟩⟩
 ·have ai:=hr t (by simp);obtain⟨aJ,bg,aM,aP⟩:=Qam ai;unfold Qef at hb;rcases hj.code with e|e|e|e|e|e|e|e|e
  ·simp[e] at hb;rw[if_neg (by omega)] at hm;have D:doC j [t]=[(t.1,t.2.filter (Qbm t.1 (jb0 j)))]:=by simp[doC,e]
   have ay:QaV t.1 (Qcb j M N O)=0:=hb;refine(QlD tb 0 tcap t (Qcb j M N O) oa j.outs.length oc w e F ht K av (by unfold Qgq;rw[if_neg (by rw[ai];decide),if_neg (by rw[hm,show(Qcb j M N O).code=1 from e];decide)];exact ay)).mono ?_;rintro e' w' ⟨g,c,I,J,U,q4,Z⟩;exact⟨Z,Or.inr ⟨by simp[doE,e],g,c,by rw[D];exact I,J,U,by rw[D];exact q4⟩⟩
  ·obtain⟨n,ec,eo⟩:=f2 e;rw[if_neg (by omega)] at hm;rw[hm] at F;rw[ec] at hc;simp[e,ec] at hb;obtain⟨cb,co,cc,rfl,au,s0⟩:=Pl.strs_one hc;obtain⟨i,hi,-,-,-⟩:=Qe4 hb;have H:doE j [t]=Qd6 t (jb0 j) n:=by simp[doE,e,ec]
   have D:doC j [t]=[(t.1,t.2.map (Qmc t.1 (jb0 j) i))]:=by simp[doC,e,ec,hi]
   by_cases h0:Qd6 t (jb0 j) n=0
   ·refine(Qmj tb 0 tcap t (Qcb j M N _) oa oc (ba n) cb co cc i w e F rfl s0 au (QmS eo) aK av ht K hi h0).mono ?_;rintro e' w' ⟨g,c,I,J,U,q4,Z⟩;exact⟨Z,Or.inr ⟨by rw[H];exact h0,g,c,by rw[D];exact I,J,U,by rw[D];exact q4⟩⟩
   ·refine(QkH tb 0 tcap t (Qcb j M N _) oa oc (ba n) cb co cc w e F rfl s0 au (QmS eo) aK av ht K h0).mono ?_;rintro e' w' ⟨I,J⟩;exact⟨J,Or.inl ⟨by rw[H];exact h0,by rw[H];exact I⟩⟩
  ·simp[e] at hb;rw[if_neg (by omega)] at hm;rw[hm] at F;have D:doC j [t]=[(Qbc (Qaj t.1 (j.cols.map ba)) t.1,t.2.map (QbQ (Qaj t.1 (j.cols.map ba))))]:=by simp[doC,e]
   refine(Qkq tb 0 tcap t (Qcb j M N O) oa oc (j.cols.map ba) w e F (QcW hc hj.cl) ht K (by unfold Qgt;rw[if_neg (by rw[ai];decide)];exact hb)).mono ?_;rintro e' w' ⟨g,c,I,J,U,q4,Z⟩;exact⟨Z,Or.inr ⟨by simp[doE,e],g,c,by rw[D];exact I,J,U,by rw[D];exact q4⟩⟩
  ·simp[e] at hb;rw[if_neg (by omega)] at hm;rw[hm] at F;have D:doC j [t]=[(t.1,Qa8 (Qaj t.1 (j.cols.map ba)) t.2)]:=by simp[doC,e]
   refine(Qkw tb 0 tcap t (Qcb j M N O) oa oc (j.cols.map ba) w e F (QcW hc hj.cl) ht K (by unfold Qgt;rw[if_neg (by rw[ai];decide)];exact hb)).mono ?_;rintro e' w' ⟨g,c,I,J,U,q4,Z⟩;exact⟨Z,Or.inr ⟨by simp[doE,e],g,c,by rw[D];exact I,J,U,by rw[D];exact q4⟩⟩
  ·exact absurd e n5
  ·rw[if_neg (by omega)] at hm;rw[hm] at F;have D:doC j [t]=[(t.1,(Qcr t.2).2)]:=by simp[doC,e]
   obtain⟨aV,aS,c0,c1,aI,aL⟩:=ht 0 (by simp);have aW:Qa1 (Qcb j M N O).code=(((1:Nat):Int),((1:Nat):Int)):=by rw[show(Qcb j M N O).code=6 from e];rfl
   refine(QdU tb 0 tcap [t] (Qcb j M N O) w ht K (by simp) (by simp) (by intro x aF;simp at aF;rw[aF];exact ai) t.1 (Qcr t.2).2 [] (Nat.le_trans (QgU t.2) aM) (Qbo aI) ?_ (fun V hV=>?_)).mono ?_
   ·intro V B g az us hV ho hh;obtain⟨b,o,c,aH,aw,aG,aQ⟩:=Qcq ho hh aJ;exact cols_ok _ oa az oc _ 1 1 t.1 V F aW (by decide) (by decide) (fun V' hV'=>QgA none g 0 1 az _ _ V' e (by decide) (Nat.lt_of_lt_of_le aw hV'.size) (cK hV' aw aH)) (fun V' hV'=>QbC g 0 1 az b o t.1.length c t.1 _ V' (Or.inr (Or.inr (Or.inr (Or.inr (Or.inr e))))) (by decide) (Nat.lt_of_lt_of_le aw hV'.size) (cK hV' aw aH) rfl (by omega) (Nat.lt_of_lt_of_le aG hV'.size) (aQ.below hV' aG))
   ·refine(QiT tb 0 1 tcap aV aS t.1 t.2 (Qcb j M N O) V e (QkE ai) (aR.below hV) (by decide) (Nat.lt_of_lt_of_le K hV.size) ((hV.cell (p:=⟨tb,0,none⟩) K).trans (by simpa using c0)) ((hV.cell (p:=⟨tb,0+1,none⟩) K).trans (by simpa using c1)) (aI.below hV) (aL.below hV) aJ (by omega) aP (by omega)).mono ?_;rintro e w' ⟨v1,aY,h1,h2,h3,hb⟩;exact⟨v1,.slice none 0 0,aY,[],h1,h2,h3,World.ownsRow_nil _ _ _ _,Qab.nil _ _,hb⟩
   ·rintro e' w' ⟨g,c,I,J,U,q4,Z⟩;exact⟨Z,Or.inr ⟨by simp[doE,e],g,c,by rw[D];exact I,J,U,by rw[D];exact q4⟩⟩
  ·exact absurd e n7
  ·obtain⟨x,y,ec,eo⟩:=f8 e;rw[if_neg (by omega)] at hm;rw[hm] at F;have am:=QcW hc hj.cl;rw[ec] at am
   by_cases ho:j.op=Fw.wSum
   ·have H:doE j [t]=grpNo t (ba x) (ba y):=by simp[doE,e,ec,ho]
    have D:doC j [t]=[grpT t (ba x) (ba y)]:=by simp[doC,e,ec,ho]
    have aj:(Qcb j M N O).op=⟨#[115,117,109]⟩:=by show ba j.op=_;rw[ho];rfl
    by_cases h0:grpNo t (ba x) (ba y)=0
    ·refine(do_grp_ok tb 0 tcap t (ba x) (ba y) (Qcb j M N O) oa oc w e aj F am ht K h0).mono ?_;rintro e' w' ⟨g,c,I,J,U,q4,Z⟩;exact⟨Z,Or.inr ⟨by rw[H];exact h0,g,c,by rw[D];exact I,J,U,by rw[D];exact q4⟩⟩
    ·refine(do_grp_bad tb 0 tcap t (ba x) (ba y) (Qcb j M N O) oa oc w e aj F am ht K h0).mono ?_;rintro e' w' ⟨I,J⟩;exact⟨J,Or.inl ⟨by rw[H];exact h0,by rw[H];exact I⟩⟩
   ·have H:doE j [t]=Mx.grpNo t (ba x) (ba y):=by simp[doE,e,ec,ho]
    have D:doC j [t]=[Mx.grpT t (ba x) (ba y)]:=by simp[doC,e,ec,ho]
    have aj:(Qcb j M N O).op=⟨#[109,97,120]⟩:=by show ba j.op=_;rw[eo.resolve_left ho];rfl
    by_cases h0:Mx.grpNo t (ba x) (ba y)=0
    ·refine(Mx.do_grp_ok tb 0 tcap t (ba x) (ba y) (Qcb j M N O) oa oc w e aj F am ht K h0).mono ?_;rintro e' w' ⟨g,c,I,J,U,q4,Z⟩;exact⟨Z,Or.inr ⟨by rw[H];exact h0,g,c,by rw[D];exact I,J,U,by rw[D];exact q4⟩⟩
    ·refine(Mx.do_grp_bad tb 0 tcap t (ba x) (ba y) (Qcb j M N O) oa oc w e aj F am ht K h0).mono ?_;rintro e' w' ⟨I,J⟩;exact⟨J,Or.inl ⟨by rw[H];exact h0,by rw[H];exact I⟩⟩
  ·simp[e] at hb;rw[if_pos e] at hm;have D:doC j [t]=[(t.1,t.2.filter (Qbm t.1 (jb0 j))),(t.1,t.2.filter fun r=> !Qbm t.1 (jb0 j) r)]:=by simp[doC,e]
   have ay:QaV t.1 (Qcb j M N O)=0:=hb;refine(QnJ tb 0 tcap t (Qcb j M N O) oa j.outs.length oc w e F ht K av (by unfold Qgq;rw[if_neg (by rw[ai];decide),if_neg (by rw[hm,show(Qcb j M N O).code=9 from e];decide)];exact ay)).mono ?_;rintro e' w' ⟨g,c,I,J,U,q4,Z⟩;exact⟨Z,Or.inr ⟨by simp[doE,e],g,c,by rw[D];exact I,J,U,by rw[D];exact q4⟩⟩
end Go.Proofs.YtjlgejennghhlaaGreatDoor.Pl.Ev
namespace Go.Proofs.YtjlgejennghhlaaGreatDoor.Fw
open Go.ChangeShapes Go.WideShapes Go.ChangeAt Go.RowKit
abbrev laidF:List (String×DataW Unit):=[("math/bits.deBruijn32tab",Rows.laid_math_bits_deBruijn32tab),("math/bits.deBruijn64tab",Rows.laid_math_bits_deBruijn64tab),("internal/strconv.uint64pow10",Rows.laid_internal_strconv_uint64pow10),("strconv.ErrRange",Rows.laid_strconv_ErrRange),("strconv.ErrSyntax",Rows.laid_strconv_ErrSyntax),("foreman/flow.verbs",Rows.laid_foreman_flow_verbs),("foreman/flow.kinds",Rows.laid_foreman_flow_kinds),("foreman/flow.marks",Rows.laid_foreman_flow_marks)]
theorem ownF:ownKnob Tryz.prog.godebug=none:=by kernel_rfl
theorem Qpm: "*"++ "errors.errorString"= "*errors.errorString":=by decide
theorem QqV (u:TypeId) (h:Tryz.prog.typeName? 3 u=some "*errors.errorString"):u=294:=
 typeName_ptr_named (nm:= "errors.errorString") (by rw[Qpm];kernel_rfl) (by kernel_rfl) (by decide) u (by rw[Qpm];exact h)
theorem Qnr:Tryz.prog.cellsOf 9=1:=by kernel_rfl
theorem Qga {W:World} {base:Nat} {M:Nat->Bool} {held:Bool} {y n:Nat} {t:TypeId} {cs:List Value} {L:List By} {p:List MemPlace} {H:Type} {enc:TypeId×Value->H}
 (O:Tryz.prog.underlying t=some (.array n 9)) (K:Tryz.prog.cellsOf t=n)
 (h:DataW.trod enc Tryz.prog W base M held y t cs=some (.agg (L.map fun b=>.lit (.string b)),p)):cs=L.map fun b=>.string (ba b):=by
 obtain⟨xs,m,rfl,I,F,Z,J⟩:=DataW.trod_array O h;simp only[Prod.mk.injEq,DataW.agg.injEq] at I;have V:L.length=n:=by
  have:=congrArg List.length I.1;simp only[List.length_map] at this;omega
 rw[K] at F;refine List.ext_getElem (by rw[List.length_map];omega) fun i h1 h2=>?_
 have U:i<n:=by omega
 have:=J i U;rw[Qnr,Nat.mul_one,List.getElem?_eq_getElem (by omega)] at this;obtain⟨s,a,b,-⟩:=DataW.trod_string Tryz.underlying9 this;have N:cs[i]=.string s:=by
  have q:((cs.drop i).take 1)[0]? =some (.string s):=by rw[a];rfl
  rw[List.getElem?_take,if_pos (by decide),List.getElem?_drop,Nat.add_zero,List.getElem?_eq_getElem h1] at q;exact Option.some.inj q
 have D:(L.map fun b=>(DataW.lit (.string b):DataW H))[i]? =some (.lit (.string s.data.toList)):=by
  rw[I.1,List.getElem?_map,List.getElem?_eq_getElem (by omega),b];rfl
 rw[List.getElem?_map,List.getElem?_eq_getElem (by omega)] at D;simp only[Option.map_some,Option.some.injEq,DataW.lit.injEq,Lit.string.injEq] at D;rw[N,List.getElem_map,D]
theorem Qhd {W:World} {g:Nat} {nm:String} {cs:Array Value} {L:List By} (D:Tryz.prog.globalNamed nm=some g) (y:W.var? Tryz.prog nm=some cs) (h:cs.toList=L.map fun b=>.string (ba b)) (j:Nat) (F:j<L.length):W.cell? ⟨g,j,none⟩=some (.string (ba L[j])):=by
 have:=World.var?_cell D y j;rw[this,<-Array.getElem?_toList,h,List.getElem?_map,List.getElem?_eq_getElem F];rfl
theorem QqW:Tryz.prog.globalNamed "foreman/flow.marks"=some 1:=by kernel_rfl
theorem QqX:(Tryz.prog.globals[1]?).map (·.type)=some 184:=by kernel_rfl
theorem QqY:Tryz.prog.globalNamed "foreman/flow.verbs"=some 5:=by kernel_rfl
theorem QqZ:(Tryz.prog.globals[5]?).map (·.type)=some 255:=by kernel_rfl
theorem Qp6:Tryz.prog.globalNamed "foreman/flow.kinds"=some 3:=by kernel_rfl
theorem Qp7:(Tryz.prog.globals[3]?).map (·.type)=some 194:=by kernel_rfl
theorem Qq0:Tryz.prog.globalNamed "internal/strconv.uint64pow10"=some 10:=by kernel_rfl
theorem QrB:(Tryz.prog.globals[10]?).map (·.type)=some 303:=by kernel_rfl
theorem Qns:(Rows.laid_foreman_flow_marks:DataW Unit)=.agg (QaD.map fun b=>.lit (.string b)):=rfl
theorem Qnt:(Rows.laid_foreman_flow_verbs:DataW Unit)=.agg (Qdh.map fun b=>.lit (.string b)):=rfl
theorem Qnu:(Rows.laid_foreman_flow_kinds:DataW Unit)=.agg (Qd7.map fun b=>.lit (.string b)):=rfl
theorem fenv_of {W:World} (J:laidMet Tryz.prog laidF W):FEnv W:=by
 have N:Lib.TabIs Tryz.prog W "internal/strconv.uint64pow10" .u64 Lib.pow10Tab:=by
  obtain⟨g,t,cs,H,p,y,I,F,D⟩:=Lib.laidMet.reads J (n:= "internal/strconv.uint64pow10") (d:=Rows.laid_internal_strconv_uint64pow10) (.tail _ (.tail _ (.head _)));obtain rfl:=Option.some.inj (Qq0.symm.trans y);obtain rfl:=Option.some.inj (QrB.symm.trans I);have e:(Rows.laid_internal_strconv_uint64pow10:DataW Unit)=Lib.tabData .u64 Lib.pow10Tab:=rfl;rw[e] at D;have:=Lib.cells_of_tab Tryz.underlying303 Tryz.underlying273 (by kernel_rfl) (by kernel_rfl) D;unfold Lib.TabIs;rw[F,<-this]
 have F:∀(j:Nat) (h:j<Qdh.length),W.cell? ⟨5,j,none⟩=some (.string (ba Qdh[j])):=by
  obtain⟨g,t,cs,H,p,y,I,F,D⟩:=Lib.laidMet.reads J (n:= "foreman/flow.verbs") (d:=Rows.laid_foreman_flow_verbs) (.tail _ (.tail _ (.tail _ (.tail _ (.tail _ (.head _))))));obtain rfl:=Option.some.inj (QqY.symm.trans y);obtain rfl:=Option.some.inj (QqZ.symm.trans I);rw[Qnt] at D;exact Qhd y F (Qga Tryz.underlying255 (by kernel_rfl) D)
 have U:∀(j:Nat) (h:j<Qd7.length),W.cell? ⟨3,j,none⟩=some (.string (ba Qd7[j])):=by
  obtain⟨g,t,cs,H,p,y,I,F,D⟩:=Lib.laidMet.reads J (n:= "foreman/flow.kinds") (d:=Rows.laid_foreman_flow_kinds) (.tail _ (.tail _ (.tail _ (.tail _ (.tail _ (.tail _ (.head _)))))));obtain rfl:=Option.some.inj (Qp6.symm.trans y);obtain rfl:=Option.some.inj (Qp7.symm.trans I);rw[Qnu] at D;exact Qhd y F (Qga Tryz.underlying194 (by kernel_rfl) D)
 have O:∀(j:Nat) (h:j<QaD.length),W.cell? ⟨1,j,none⟩=some (.string (ba QaD[j])):=by
  obtain⟨g,t,cs,H,p,y,I,F,D⟩:=Lib.laidMet.reads J (n:= "foreman/flow.marks") (d:=Rows.laid_foreman_flow_marks) (.tail _ (.tail _ (.tail _ (.tail _ (.tail _ (.tail _ (.tail _ (.head _))))))));obtain rfl:=Option.some.inj (QqW.symm.trans y);obtain rfl:=Option.some.inj (QqX.symm.trans I);rw[Qns] at D;exact Qhd y F (Qga Tryz.underlying184 (by kernel_rfl) D)
 obtain⟨aR,tR,M,V,-,-⟩:=laid_sentinel (g:=7) J.tail.tail.tail (by kernel_rfl) (by kernel_rfl) Tryz.underlying34 QqV Tryz.underlying294 Tryz.underlying296 rfl rfl Tryz.underlying9 (by kernel_rfl) (by kernel_rfl);obtain⟨aS,tS,K,Z,-,-⟩:=laid_sentinel (g:=6) J.tail.tail.tail.tail (by kernel_rfl) (by kernel_rfl) Tryz.underlying34 QqV Tryz.underlying294 Tryz.underlying296 rfl rfl Tryz.underlying9 (by kernel_rfl) (by kernel_rfl);refine⟨?_,O,F,U,⟨_,_,K⟩,⟨_,_,M⟩,N⟩;intro g y;have lt:∀(g i:Nat) (v:Value),W.cell? ⟨g,i,none⟩=some v->g<W.heap.size:=fun g i v h=>World.block_lt_of_cell? W ⟨g,i,none⟩ h
 simp only[Qa5,List.mem_cons,List.not_mem_nil,or_false] at y;rcases y with rfl|rfl|rfl|rfl|rfl|rfl
 ·exact lt _ _ _ (O 0 (by decide))
 ·exact lt _ _ _ (F 0 (by decide))
 ·exact lt _ _ _ (U 0 (by decide))
 ·exact lt _ 0 _ ((World.var?_cell (by kernel_rfl) K 0).trans rfl)
 ·exact lt _ 0 _ ((World.var?_cell (by kernel_rfl) M 0).trans rfl)
 ·exact lt _ 0 _ ((World.var?_cell Qq0 N 0).trans rfl)
theorem et:Tryz.prog.globalNamed "errors.errorType"=some 0:=by kernel_rfl
theorem rt:(Tryz.prog.cutTypes.find? (·.1== "internal/reflectlite.rtype")).map (·.2)=some 208:=by kernel_rfl
theorem QrC:Tryz.prog.types.size=337:=by kernel_rfl
theorem Qq1:((List.range 337).filter fun t=>Tryz.prog.rowNamed t [101,114,114,111,114])=[34]:=by kernel_rfl
theorem handle_of {l:List (String×DataW Unit)} {W:World} (F:("errors.errorType",Rows.laid_errors_errorType)∈l) (h:handlesMet Tryz.prog l W):W.cell? ⟨0,0,none⟩=some (.iface 208 (.agg #[.pointer (some ⟨13,34,none⟩)])):=by
 obtain⟨name,u,N,H,O,I,K,D⟩:=h _ F;have M:name=[101,114,114,111,114]:=(Option.some.inj H).symm;subst M;obtain rfl:=Option.some.inj (rt.symm.trans O);have y:N∈(List.range 337).filter fun t=>Tryz.prog.rowNamed t [101,114,114,111,114]:=List.mem_filter.2 ⟨List.mem_range.2 (by rw[<-QrC];exact I),K⟩
 rw[Qq1] at y;obtain rfl:=List.mem_singleton.1 y;have J:typeHandle Tryz.prog 34=.pointer (some ⟨13,34,none⟩):=by kernel_rfl
 rw[J] at D;simpa using World.var?_cell et D 0
end Go.Proofs.YtjlgejennghhlaaGreatDoor.Fw
