import Derived.Test.YtjlgejennghhlaaGreatDoorR01
import Derived.Test.YtjlgejennghhlaaGreatDoorR42
import Derived.Test.YtjlgejennghhlaaGreatDoorR40
set_option linter.unusedSimpArgs false
set_option linter.unusedVariables false
set_option linter.unusedSectionVars false
set_option maxRecDepth 1000000
set_option maxHeartbeats 16000000
namespace Go.Proofs.YtjlgejennghhlaaGreatDoor.Pl.Ev
open Go.RowKit
open Fw (By FJob Flw ba)
theorem Qip {m:Int} (E:Qaz m):∀(r:List Vl) (cs:List Cl),QaO r cs=true->∀(i:Nat) (D:i<cs.length),cs[i].2=1->QaO (r.set i (1,m,⟨#[]⟩)) cs=true
 |[],[],_,i,D,_=>absurd D (by simp)
 |[],c::q,h,_,_,_=>by simp[QaO] at h
 |v::r,[],h,_,_,_=>by simp[QaO] at h
 |v::r,c::q,h,0,D,y=>by
  simp only[QaO,Bool.and_eq_true,beq_iff_eq] at h;have y:c.2=1:=y;simp only[List.set_cons_zero,QaO,Bool.and_eq_true,beq_iff_eq];refine⟨y.symm,?_,h.2.2⟩
  show Qao 1 m []=true
  unfold Qao;rw[if_pos rfl];simp[E.1,E.2]
 |v::r,c::q,h,i+1,D,y=>by
  simp only[QaO,Bool.and_eq_true,beq_iff_eq] at h;simp only[List.set_cons_succ,QaO,Bool.and_eq_true,beq_iff_eq];exact⟨h.1,h.2.1,Qip E r q h.2.2 i (by simpa using D) (by simpa using y)⟩
theorem Qf3:∀{a:List Vl} {cs:List Cl} {b:List Vl} {y:List Cl},QaO a cs=true->QaO b y=true->QaO (a++b) (cs++y)=true
 |[],[],_,_,_,h=>h
 |[],_::_,_,_,h,_=>by simp[QaO] at h
 |_::_,[],_,_,h,_=>by simp[QaO] at h
 |v::a,c::cs,b,y,h,h'=>by
  simp only[QaO,Bool.and_eq_true,beq_iff_eq] at h;simp only[List.cons_append,QaO,Bool.and_eq_true,beq_iff_eq];exact⟨h.1,h.2.1,Qf3 h.2.2 h'⟩
theorem QgK:∀{a:List Vl} {cs:List Cl} (k:Nat),QaO a cs=true->QaO (a.take k) (cs.take k)=true
 |_,_,0,_=>by simp[QaO]
 |[],[],_+1,_=>rfl
 |[],_::_,_+1,h=>by simp[QaO] at h
 |_::_,[],_+1,h=>by simp[QaO] at h
 |v::a,c::cs,k+1,h=>by
  simp only[QaO,Bool.and_eq_true,beq_iff_eq] at h;simp only[List.take_succ_cons,QaO,Bool.and_eq_true,beq_iff_eq];exact⟨h.1,h.2.1,QgK k h.2.2⟩
theorem QgL:∀{a:List Vl} {cs:List Cl} (k:Nat),QaO a cs=true->QaO (a.drop k) (cs.drop k)=true
 |_,_,0,h=>h
 |[],[],_+1,_=>rfl
 |[],_::_,_+1,h=>by simp[QaO] at h
 |_::_,[],_+1,h=>by simp[QaO] at h
 |v::a,c::cs,k+1,h=>by
  simp only[QaO,Bool.and_eq_true,beq_iff_eq] at h;exact QgL k h.2.2
theorem Qfb {cs:List Cl} {rs:List (List Vl)} (h:Qaj cs=true) (y:rs.length<=60) (D:∀r∈rs,QaO r cs=true):Qae cs rs=true:=by
 unfold Qae;rw[h];simp only[Bool.true_and,Bool.and_eq_true,decide_eq_true_eq,List.all_eq_true];exact⟨y,D⟩
noncomputable def doE (j:FJob) (ts:List Tb):Int:=
 if j.code=2 then Qec (ts.getD 0 ([],[])) (jb0 j) (j.cols.getD 0 [])
 else if j.code=5 then QdN (ts.getD 0 ([],[])) (ts.getD 1 ([],[]))
 else if j.code=7 then Qb6 (ts.getD 0 ([],[])) (ts.getD 1 ([],[])) (ba (j.cols.getD 0 [])) (ba (j.cols.getD 1 []))
 else if j.code=8 then(if j.op=Fw.wSum then grpNo (ts.getD 0 ([],[])) (ba (j.cols.getD 0 [])) (ba (j.cols.getD 1 [])) else Mx.grpNo (ts.getD 0 ([],[])) (ba (j.cols.getD 0 [])) (ba (j.cols.getD 1 [])))
 else 0
noncomputable def doC (j:FJob) (ts:List Tb):List Tb:=
 if j.code=1 then[((ts.getD 0 ([],[])).1,(ts.getD 0 ([],[])).2.filter (Qbn (ts.getD 0 ([],[])).1 (jb0 j)))]
 else if j.code=9 then[((ts.getD 0 ([],[])).1,(ts.getD 0 ([],[])).2.filter (Qbn (ts.getD 0 ([],[])).1 (jb0 j))),((ts.getD 0 ([],[])).1,(ts.getD 0 ([],[])).2.filter fun r=> !Qbn (ts.getD 0 ([],[])).1 (jb0 j) r)]
 else if j.code=2 then[((ts.getD 0 ([],[])).1,(ts.getD 0 ([],[])).2.map (Qmq (ts.getD 0 ([],[])).1 (jb0 j) ((Qaq (ts.getD 0 ([],[])).1 (j.cols.getD 0 [])).getD 0)))]
 else if j.code=3 then[(Qbd (Qak (ts.getD 0 ([],[])).1 (j.cols.map ba)) (ts.getD 0 ([],[])).1,(ts.getD 0 ([],[])).2.map (QbS (Qak (ts.getD 0 ([],[])).1 (j.cols.map ba))))]
 else if j.code=4 then[((ts.getD 0 ([],[])).1,Qa9 (Qak (ts.getD 0 ([],[])).1 (j.cols.map ba)) (ts.getD 0 ([],[])).2)]
 else if j.code=5 then[((ts.getD 0 ([],[])).1,(ts.getD 0 ([],[])).2++(ts.getD 1 ([],[])).2)]
 else if j.code=6 then[((ts.getD 0 ([],[])).1,(Qct (ts.getD 0 ([],[])).2).2)]
 else if j.code=7 then[(Qb9 (ts.getD 0 ([],[])).1 (ts.getD 1 ([],[])).1 (pOf (ts.getD 1 ([],[])).1 (ba (j.cols.getD 1 []))),joinL (ts.getD 0 ([],[])).2 (ts.getD 1 ([],[])).2 (pOf (ts.getD 0 ([],[])).1 (ba (j.cols.getD 0 []))) (pOf (ts.getD 1 ([],[])).1 (ba (j.cols.getD 1 []))))]
 else if j.op=Fw.wSum then[grpT (ts.getD 0 ([],[])) (ba (j.cols.getD 0 [])) (ba (j.cols.getD 1 []))]
 else[Mx.grpT (ts.getD 0 ([],[])) (ba (j.cols.getD 0 [])) (ba (j.cols.getD 1 []))]
theorem Qiq {j:FJob} {ts:List Tb} (D:Fw.JobOK j) (y:ts.length=j.ins.length):((j.code=5\/j.code=7)/\∃t u,ts=[t,u])\/(j.code≠5/\j.code≠7/\∃t,ts=[t]):=by
 obtain⟨-,-,-,E,F⟩:=D.fm
 by_cases h:j.code=5\/j.code=7
 ·obtain⟨a,b,e⟩:=E h;rw[e] at y
  match ts,y with
  |[t,u],_=>exact Or.inl ⟨h,t,u,rfl⟩
 ·obtain⟨a,e⟩:=F (fun q=>h (Or.inl q)) (fun q=>h (Or.inr q));rw[e] at y
  match ts,y with
  |[t],_=>exact Or.inr ⟨fun q=>h (Or.inl q),fun q=>h (Or.inr q),t,rfl⟩
theorem Qni {j:FJob} {ins:List Cs} (h:Qbi j ins=0):Qem j ins=0/\j.outs.length=(if j.code=9 then 2 else 1):=by
 unfold Qbi at h
 by_cases hm:j.outs.length=(if j.code=9 then 2 else 1)
 ·rw[if_pos hm] at h;exact⟨h,hm⟩
 ·rw[if_neg hm] at h;cases h
theorem Qir:∀(l y:List Cl),(∀c∈l,Qfh c.1.data.toList=true/\Qhy c.2=true)->(∀i (h:i<l.length),Qbl (y++l.take i) l[i].1.data.toList=false)->Qcz y l=true
 |[],_,_,_=>rfl
 |c::r,y,h1,h2=>by
  have D:=h2 0 (by simp);simp only[Qcz,Bool.and_eq_true];refine⟨(h1 c (by simp)).1,(h1 c (by simp)).2,by simpa using D,Qir r _ (fun d hd=>h1 d (by simp[hd])) (fun i hi=>?_)⟩;have:=h2 (i+1) (by simpa using hi);simpa using this
theorem Qnj {l:List Cl} (h:Qd7 l=false) (i:Nat) (F:i<l.length):Qbl (l.take i) l[i].1.data.toList=false:=by
 cases e:Qbl (l.take i) l[i].1.data.toList with
 |false=>rfl
 |true=>
  unfold Qbl at e;obtain⟨x,H,y⟩:=List.any_eq_true.1 e;obtain⟨k,E,rfl⟩:=List.mem_iff_getElem.1 H;simp only[List.length_take] at E;rw[List.getElem_take] at y;have y:l[k].1.data.toList=l[i].1.data.toList:=by simpa using y
  have:QaB l l[i].1.data.toList<(i:Int):=by
   unfold QaB
   cases g:Qaq l l[i].1.data.toList with
   |none=>
    unfold Qaq at g;rw[List.findIdx?_eq_none_iff] at g;have:=g l[k] (List.getElem_mem _);simp[y] at this
   |some p=>
    show(p:Int)<i
    unfold Qaq at g;rw[List.findIdx?_eq_some_iff_getElem] at g;obtain⟨K,J,I⟩:=g;rcases Nat.lt_or_ge k p with D|D
    ·have:=I k D;simp[y] at this
    ·omega
  have:=QjC F this;rw[h] at this
  cases this
theorem Qjf {cs h:List Cl} {x y:ByteArray} (he:QaY cs h x y=0) (F:Qaj cs=true) (k1:Qaj h=true):Qaj (Qb9 cs h (pOf h y))=true:=by
 obtain⟨H,I⟩:=Qd8 he;unfold QaY at he;rw[H,I] at he;simp only at he;split at he
 ·cases he
 split at he
 ·cases he
 split at he
 ·cases he
 rename_i E J
 have E:Qd7 (Qb9 cs h (pOf h y))=false:=by simpa using E
 simp only[Qaj,Bool.and_eq_true,decide_eq_true_eq] at F k1⊢;refine⟨?_,by omega,Qir _ _ (fun c D=>?_) (fun i hi=>by simpa using Qnj E i hi)⟩
 ·simp only[Qb9,List.length_append];omega
 ·simp only[Qb9,List.mem_append] at D;rcases D with (D|D)|D
  ·exact QbQ cs [] F.2.2 c D
  ·exact QbQ h [] k1.2.2 c (List.mem_of_mem_take D)
  ·exact QbQ h [] k1.2.2 c (List.mem_of_mem_drop D)
theorem QoR (p q:Nat) (rs:List (List Vl)):∀g∈Qeu p q rs,∃r∈rs,g.1=vAt r p:=by
 have H:∀(l:List (List Vl)) (F:List Gr),∀g∈l.foldl (stepG p q) F,(∃E∈F,g.1=E.1)\/∃r∈l,g.1=vAt r p:=by
  intro l
  induction l with
  |nil=>exact fun F g D=>Or.inl ⟨g,D,rfl⟩
  |cons r l ih=>
   intro F g D;rcases ih _ g D with ⟨E,y,e⟩|⟨J,I,e⟩
   ·unfold stepG at y;split at y
    ·simp at y;exact Or.inr ⟨r,by simp,by rw[e,y]⟩
    ·rename_i M K
     split at y
     ·rcases List.mem_append.1 y with h|h
      ·exact Or.inl ⟨E,List.dropLast_subset _ h,e⟩
      ·simp at h;exact Or.inl ⟨M,List.mem_of_getLast? K,by rw[e,h]⟩
     ·rcases List.mem_append.1 y with h|h
      ·exact Or.inl ⟨E,h,e⟩
      ·simp at h;exact Or.inr ⟨r,by simp,by rw[e,h]⟩
   ·exact Or.inr ⟨J,by simp[I],e⟩
 intro g D;rcases H rs [] g D with ⟨E,h,-⟩|h
 ·cases h
 ·exact h
theorem QoS (p q:Nat) (rs:List (List Vl)):∀g∈Qev p q rs,∃r∈rs,g.1=vAt r p:=by
 have H:∀(l:List (List Vl)) (F:List Gr),∀g∈l.foldl (Qc6 p q) F,(∃E∈F,g.1=E.1)\/∃r∈l,g.1=vAt r p:=by
  intro l
  induction l with
  |nil=>exact fun F g D=>Or.inl ⟨g,D,rfl⟩
  |cons r l ih=>
   intro F g D;rcases ih _ g D with ⟨E,y,e⟩|⟨J,I,e⟩
   ·unfold Qc6 at y;split at y
    ·simp at y;exact Or.inr ⟨r,by simp,by rw[e,y]⟩
    ·rename_i M K
     split at y
     ·rcases List.mem_append.1 y with h|h
      ·exact Or.inl ⟨E,List.dropLast_subset _ h,e⟩
      ·simp at h;exact Or.inl ⟨M,List.mem_of_getLast? K,by rw[e,h]⟩
     ·rcases List.mem_append.1 y with h|h
      ·exact Or.inl ⟨E,h,e⟩
      ·simp at h;exact Or.inr ⟨r,by simp,by rw[e,h]⟩
   ·exact Or.inr ⟨J,by simp[I],e⟩
 intro g D;rcases H rs [] g D with ⟨E,h,-⟩|h
 ·cases h
 ·exact h
theorem QeV {t:Tb} {x y:ByteArray} {F:List Gr} (I:Qae t.1 t.2=true) (he:QaM t.1 x y=0) (hl:F.length<=60) (U:∀g∈F,∃r∈t.2,g.1=vAt r (pOf t.1 x)) (hn:∀g∈F,Qaz g.2):Qae (Qbd [pOf t.1 x,pOf t.1 y] t.1) (QaA F)=true:=by
 obtain⟨Z,V,K,ae⟩:=QcU he;have h:=Qap Z;have E:=Qap V;obtain⟨h1,h2,h3⟩:=QaI I;have H:=(QaI (Qgx I (grp_list he))).1;rw[QkO] at H;refine Qfb H (by simpa [QaA] using hl) (fun r hm=>?_);obtain⟨g,M,rfl⟩:=List.mem_map.1 hm;obtain⟨r,D,e⟩:=U g M;obtain⟨-,-,-,N⟩:=Qan I;have O:=Qpl (h3 r D) (pOf t.1 x) (by rw[N r D];exact h) h;rw[Qdh (by rw[N r D];exact h)] at e;have hv:rvB (1,g.2,(⟨#[]⟩:ByteArray))=true:=by
  show Qao 1 g.2 []=true
  unfold Qao;rw[if_pos rfl];have:=hn g M;simp[this.1,this.2]
 have J:(t.1[pOf t.1 y]'E).2=1:=by
  have:=K;unfold QbO at this;rw[List.getElem?_eq_getElem E] at this;exact this
 simp only[Qbd,List.map_cons,List.map_nil,QaO,Bool.and_true,Bool.and_eq_true,beq_iff_eq];rw[List.getElem?_eq_getElem h,List.getElem?_eq_getElem E,e];exact⟨O.1,O.2,J.symm,hv⟩
theorem Qlc {t u:Tb} {x y:ByteArray} (h:Qb6 t u x y=0):Qae (Qb9 t.1 u.1 (pOf u.1 y)) (joinL t.2 u.2 (pOf t.1 x) (pOf u.1 y))=true:=by
 obtain⟨I,F,he,K⟩:=QjE h;obtain⟨Z,M⟩:=Qd8 he;have V:=Qap M;obtain⟨O,h2,U⟩:=QaI I;obtain⟨k1,k2,H⟩:=QaI F;obtain⟨-,-,-,l4⟩:=Qan I;obtain⟨-,-,-,m4⟩:=Qan F;have J:Qaj (Qb9 t.1 u.1 (pOf u.1 y))=true:=Qjf he O k1;refine Qfb J K (fun r D=>?_);unfold joinL QcR at D;obtain⟨a,N,D⟩:=List.mem_flatMap.1 D;obtain⟨b,E,rfl⟩:=List.mem_map.1 D;have E:=(List.mem_filter.1 E).1;unfold Qb9;exact Qf3 (Qf3 (U a N) (QgK _ (H b E))) (QgL _ (H b E))
theorem Qj9 {j:FJob} {ts:List Tb} (hj:Fw.JobOK j) (hl:ts.length=j.ins.length) (Z:∀t∈ts,Qae t.1 t.2=true) (hc:Qbi j (ts.map (·.1))=0) (he:doE j ts=0):(doC j ts).length=j.outs.length/\∀t∈doC j ts,Qae t.1 t.2=true/\t.1=Qba j (ts.map (·.1)):=by
 obtain⟨N,E⟩:=Qni hc;rw[E];obtain⟨f2,f7,f8,-,-⟩:=hj.fm;rcases Qiq hj hl with ⟨ad,t,u,rfl⟩|⟨n5,n7,t,rfl⟩
 ·have h:=Z t (by simp);have h2:=Z u (by simp);rcases ad with e|e
  ·unfold doE at he;simp[e] at he;obtain⟨-,-,af,ac⟩:=Ql0 he;have hu:Qae t.1 u.2=true:=by rw[af];exact h2
   simp only[doC,Qba,e];simp;exact QhP h hu ac
  ·unfold doE at he;simp[e] at he;have:=Qlc he;simp only[doC,Qba,e];simp;exact⟨this,rfl⟩
 ·have h:=Z t (by simp);unfold Qem at N;rcases hj.code with e|e|e|e|e|e|e|e|e
  ·simp only[doC,Qba,e];simp;exact Qdg h _
  ·obtain⟨n,F,-⟩:=f2 e;unfold doE at he;simp[e,F] at he;obtain⟨-,ae,D⟩:=Qmw he;obtain⟨i,hi,k0,-,-⟩:=Qe6 ae;obtain⟨O,q2,V⟩:=QaI h;simp only[doC,Qba,e];simp[F,hi];refine Qfb O (by simpa using q2) (fun r E=>?_);obtain⟨r,M,rfl⟩:=List.mem_map.1 E;exact Qip (D r M) r t.1 (V r M) i (Qap hi) k0
  ·simp[e] at N;simp only[doC,Qba,e];simp;exact Qgx h N
  ·simp only[doC,Qba,e];simp;obtain⟨O,q2,V⟩:=QaI h;exact Qfb O (by rw[QbJ];exact q2) (fun r E=>V r ((Stb.sortL_mem (Qjz _)).1 E))
  ·exact absurd e n5
  ·simp only[doC,Qba,e];simp;exact Qlb h
  ·exact absurd e n7
  ·obtain⟨x,y,F,eo⟩:=f8 e;obtain⟨-,-,K,-⟩:=Qan h;have J:∀r∈Qa9 [pOf t.1 (ba x)] t.2,r∈t.2:=fun r E=>(Stb.sortL_mem (Qjz _)).1 E
   unfold doE at he;simp[e,F] at he;simp only[doC,Qba,e]
   by_cases ho:j.op=Fw.wSum
   ·simp[ho] at he;obtain⟨-,H,D⟩:=grpNo_0 he;simp[ho,F];refine⟨QeV h H (Nat.le_trans (QfG _ _ _) (by rw[QbJ];exact K)) (fun g hg=>?_) D,rfl⟩;obtain⟨r,I,U⟩:=QoR _ _ _ g hg;exact⟨r,J r I,U⟩
   ·simp[ho] at he;obtain⟨-,H,D⟩:=Mx.grpNo_0 he;simp[ho,F];refine⟨QeV h H (Nat.le_trans (QfK _ _ _) (by rw[QbJ];exact K)) (fun g hg=>?_) D,rfl⟩;obtain⟨r,I,U⟩:=QoS _ _ _ g hg;exact⟨r,J r I,U⟩
  ·simp only[doC,Qba,e];simp;exact⟨Qdg h _,Qdg h _⟩
def DoR (j:FJob) (ts:List Tb) (w:World) (e:Ending) (w':World):Prop:=Below w.heap.size w w'/\
 ((doE j ts≠0/\e=.returned (.tuple #[.slice none 0 0,QbN (doE j ts)]))\/
  (doE j ts=0/\∃g c,e=.returned (.tuple #[.slice (some ⟨g,0,none⟩) (doC j ts).length c,.nilIface])/\w.heap.size<=g/\g<w'.heap.size/\QbR w' w.heap.size g (doC j ts)))
theorem QqH (j:FJob) (K M N:Value) (ts:List Tb) (tb tcap:Nat) (w:World) (hj:Fw.JobOK j) (aS:Fw.StrsR w K j.outs) (hc:Fw.StrsR w N j.cols) (ht:QaZ w tb 0 ts) (J:tb<w.heap.size) (h3:∀vr,w.cell? ⟨tb,3,none⟩=some vr->∀t∈ts[1]?,Qch w vr t.2) (hl:ts.length=j.ins.length) (hr:∀t∈ts,Qae t.1 t.2=true) (hE:Qbi j (ts.map (·.1))=0) (aQ:Env w):
 Calls Tryz.prog 61 #[.agg (Fw.jobV j K M N).toArray,.slice (some ⟨tb,0,none⟩) ts.length tcap] w fun e w'=>DoR j ts w e w':=by
 rw[<-Qj6];obtain⟨oa,oc,E⟩:=Pl.strs_slice aS;obtain⟨hb,hm⟩:=Qni hE;obtain⟨f2,f7,f8,-,-⟩:=hj.fm;have sz:∀{x:By},x.length<=1000->(ba x).size<=maxLen:=fun{x} h=>Nat.le_trans h (by decide)
 have au:=sz hj.r.2.1;have aJ:=sz hj.l.2.1;rcases Qiq hj hl with ⟨aN,t,u,rfl⟩|⟨n5,n7,t,rfl⟩
 ·have ah:=hr t (by simp);have bd:=hr u (by simp);obtain⟨be,aj,c2,c3,-,-⟩:=ht 1 (by simp);rcases aN with e|e
  ·rw[if_neg (by omega)] at hm;rw[hm] at E;have F:doE j [t,u]=QdN t u:=by simp[doE,e]
   have D:doC j [t,u]=[(t.1,t.2++u.2)]:=by simp[doC,e]
   by_cases h0:QdN t u=0
   ·refine(Ql1 tb tcap t u (Qcd j K M N) oa oc w e E ht J h0).mono ?_;rintro e' w' ⟨g,c,H,I,O,Z,U⟩;exact⟨U,Or.inr ⟨by rw[F];exact h0,g,c,by rw[D];exact H,I,O,by rw[D];exact Z⟩⟩
   ·refine(QkE tb tcap t u (Qcd j K M N) oa oc w e E ht J h0).mono ?_;rintro e' w' ⟨H,I⟩;exact⟨I,Or.inl ⟨by rw[F];exact h0,by rw[F];exact H⟩⟩
  ·obtain⟨x,y,ec⟩:=f7 e;rw[if_neg (by omega)] at hm;rw[hm] at E;rw[ec] at hc;obtain⟨cb,co,cc,rfl,ar,s0,s1⟩:=Pl.strs_two hc;have hN:QbV w (Qcd j K M (.slice (some ⟨cb,co,none⟩) 2 cc)).cols (ba x) (ba y):=⟨cb,co,cc,rfl,ar,s0,s1⟩;have F:doE j [t,u]=Qb6 t u (ba x) (ba y):=by simp[doE,e,ec]
   have D:doC j [t,u]=[(Qb9 t.1 u.1 (pOf u.1 (ba y)),joinL t.2 u.2 (pOf t.1 (ba x)) (pOf u.1 (ba y)))]:=by simp[doC,e,ec]
   have aq:w.cell? ⟨tb,3,none⟩=some aj:=by simpa using c3
   by_cases h0:Qb6 t u (ba x) (ba y)=0
   ·refine(QkM tb tcap t u (ba x) (ba y) aj (Qcd j K M _) oa oc w e E hN ht J aq (h3 aj aq u rfl) h0).mono ?_;rintro e' w' ⟨g,c,H,I,O,Z,U⟩;exact⟨U,Or.inr ⟨by rw[F];exact h0,g,c,by rw[D];exact H,I,O,by rw[D];exact Z⟩⟩
   ·refine(Qi2 tb tcap t u (ba x) (ba y) aj (Qcd j K M _) oa oc w e E hN ht J aq (h3 aj aq u rfl) h0).mono ?_;rintro e' w' ⟨H,I⟩;exact⟨I,Or.inl ⟨by rw[F];exact h0,by rw[F];exact H⟩⟩
 ·have ah:=hr t (by simp);obtain⟨aI,bf,aL,aO⟩:=Qan ah;unfold Qem at hb;rcases hj.code with e|e|e|e|e|e|e|e|e
  ·simp[e] at hb;rw[if_neg (by omega)] at hm;have D:doC j [t]=[(t.1,t.2.filter (Qbn t.1 (jb0 j)))]:=by simp[doC,e]
   have ax:QaX t.1 (Qcd j K M N)=0:=hb;refine(QlR tb 0 tcap t (Qcd j K M N) oa j.outs.length oc w e E ht J au (by unfold Qgt;rw[if_neg (by rw[ah];decide),if_neg (by rw[hm,show(Qcd j K M N).code=1 from e];decide)];exact ax)).mono ?_;rintro e' w' ⟨g,c,H,I,O,Z,U⟩;exact⟨U,Or.inr ⟨by simp[doE,e],g,c,by rw[D];exact H,I,O,by rw[D];exact Z⟩⟩
  ·obtain⟨n,ec,eo⟩:=f2 e;rw[if_neg (by omega)] at hm;rw[hm] at E;rw[ec] at hc;simp[e,ec] at hb;obtain⟨cb,co,cc,rfl,ar,s0⟩:=Pl.strs_one hc;obtain⟨i,hi,-,-,-⟩:=Qe6 hb;have F:doE j [t]=Qec t (jb0 j) n:=by simp[doE,e,ec]
   have D:doC j [t]=[(t.1,t.2.map (Qmq t.1 (jb0 j) i))]:=by simp[doC,e,ec,hi]
   by_cases h0:Qec t (jb0 j) n=0
   ·refine(Qmx tb 0 tcap t (Qcd j K M _) oa oc (ba n) cb co cc i w e E rfl s0 ar (Qm7 eo) aJ au ht J hi h0).mono ?_;rintro e' w' ⟨g,c,H,I,O,Z,U⟩;exact⟨U,Or.inr ⟨by rw[F];exact h0,g,c,by rw[D];exact H,I,O,by rw[D];exact Z⟩⟩
   ·refine(QkT tb 0 tcap t (Qcd j K M _) oa oc (ba n) cb co cc w e E rfl s0 ar (Qm7 eo) aJ au ht J h0).mono ?_;rintro e' w' ⟨H,I⟩;exact⟨I,Or.inl ⟨by rw[F];exact h0,by rw[F];exact H⟩⟩
  ·simp[e] at hb;rw[if_neg (by omega)] at hm;rw[hm] at E;have D:doC j [t]=[(Qbd (Qak t.1 (j.cols.map ba)) t.1,t.2.map (QbS (Qak t.1 (j.cols.map ba))))]:=by simp[doC,e]
   refine(QkC tb 0 tcap t (Qcd j K M N) oa oc (j.cols.map ba) w e E (QcZ hc hj.cl) ht J (by unfold Qgw;rw[if_neg (by rw[ah];decide)];exact hb)).mono ?_;rintro e' w' ⟨g,c,H,I,O,Z,U⟩;exact⟨U,Or.inr ⟨by simp[doE,e],g,c,by rw[D];exact H,I,O,by rw[D];exact Z⟩⟩
  ·simp[e] at hb;rw[if_neg (by omega)] at hm;rw[hm] at E;have D:doC j [t]=[(t.1,Qa9 (Qak t.1 (j.cols.map ba)) t.2)]:=by simp[doC,e]
   refine(QkI tb 0 tcap t (Qcd j K M N) oa oc (j.cols.map ba) w e E (QcZ hc hj.cl) ht J (by unfold Qgw;rw[if_neg (by rw[ah];decide)];exact hb)).mono ?_;rintro e' w' ⟨g,c,H,I,O,Z,U⟩;exact⟨U,Or.inr ⟨by simp[doE,e],g,c,by rw[D];exact H,I,O,by rw[D];exact Z⟩⟩
  ·exact absurd e n5
  ·rw[if_neg (by omega)] at hm;rw[hm] at E;have D:doC j [t]=[(t.1,(Qct t.2).2)]:=by simp[doC,e]
   obtain⟨aU,aR,c0,c1,aH,aK⟩:=ht 0 (by simp);have aV:Qa3 (Qcd j K M N).code=(((1:Nat):Int),((1:Nat):Int)):=by rw[show(Qcd j K M N).code=6 from e];rfl
   refine(Qd0 tb 0 tcap [t] (Qcd j K M N) w ht J (by simp) (by simp) (by intro x aE;simp at aE;rw[aE];exact ah) t.1 (Qct t.2).2 [] (Nat.le_trans (QgZ t.2) aL) (Qbp aH) ?_ (fun V hV=>?_)).mono ?_
   ·intro V B g ay us hV ho hh;obtain⟨b,o,c,aG,av,aF,aP⟩:=Qcs ho hh aI;exact cols_ok _ oa ay oc _ 1 1 t.1 V E aV (by decide) (by decide) (fun V' hV'=>QgD none g 0 1 ay _ _ V' e (by decide) (Nat.lt_of_lt_of_le av hV'.size) (cK hV' av aG)) (fun V' hV'=>QbF g 0 1 ay b o t.1.length c t.1 _ V' (Or.inr (Or.inr (Or.inr (Or.inr (Or.inr e))))) (by decide) (Nat.lt_of_lt_of_le av hV'.size) (cK hV' av aG) rfl (by omega) (Nat.lt_of_lt_of_le aF hV'.size) (aP.below hV' aF))
   ·refine(Qi6 tb 0 1 tcap aU aR t.1 t.2 (Qcd j K M N) V e (QkQ ah) (aQ.below hV) (by decide) (Nat.lt_of_lt_of_le J hV.size) ((hV.cell (p:=⟨tb,0,none⟩) J).trans (by simpa using c0)) ((hV.cell (p:=⟨tb,0+1,none⟩) J).trans (by simpa using c1)) (aH.below hV) (aK.below hV) aI (by omega) aO (by omega)).mono ?_;rintro e w' ⟨v1,aX,h1,h2,h3,hb⟩;exact⟨v1,.slice none 0 0,aX,[],h1,h2,h3,World.ownsRow_nil _ _ _ _,Qab.nil _ _,hb⟩
   ·rintro e' w' ⟨g,c,H,I,O,Z,U⟩;exact⟨U,Or.inr ⟨by simp[doE,e],g,c,by rw[D];exact H,I,O,by rw[D];exact Z⟩⟩
  ·exact absurd e n7
  ·obtain⟨x,y,ec,eo⟩:=f8 e;rw[if_neg (by omega)] at hm;rw[hm] at E;have al:=QcZ hc hj.cl;rw[ec] at al
   by_cases ho:j.op=Fw.wSum
   ·have F:doE j [t]=grpNo t (ba x) (ba y):=by simp[doE,e,ec,ho]
    have D:doC j [t]=[grpT t (ba x) (ba y)]:=by simp[doC,e,ec,ho]
    have ai:(Qcd j K M N).op=⟨#[115,117,109]⟩:=by show ba j.op=_;rw[ho];rfl
    by_cases h0:grpNo t (ba x) (ba y)=0
    ·refine(do_grp_ok tb 0 tcap t (ba x) (ba y) (Qcd j K M N) oa oc w e ai E al ht J h0).mono ?_;rintro e' w' ⟨g,c,H,I,O,Z,U⟩;exact⟨U,Or.inr ⟨by rw[F];exact h0,g,c,by rw[D];exact H,I,O,by rw[D];exact Z⟩⟩
    ·refine(do_grp_bad tb 0 tcap t (ba x) (ba y) (Qcd j K M N) oa oc w e ai E al ht J h0).mono ?_;rintro e' w' ⟨H,I⟩;exact⟨I,Or.inl ⟨by rw[F];exact h0,by rw[F];exact H⟩⟩
   ·have F:doE j [t]=Mx.grpNo t (ba x) (ba y):=by simp[doE,e,ec,ho]
    have D:doC j [t]=[Mx.grpT t (ba x) (ba y)]:=by simp[doC,e,ec,ho]
    have ai:(Qcd j K M N).op=⟨#[109,97,120]⟩:=by show ba j.op=_;rw[eo.resolve_left ho];rfl
    by_cases h0:Mx.grpNo t (ba x) (ba y)=0
    ·refine(Mx.do_grp_ok tb 0 tcap t (ba x) (ba y) (Qcd j K M N) oa oc w e ai E al ht J h0).mono ?_;rintro e' w' ⟨g,c,H,I,O,Z,U⟩;exact⟨U,Or.inr ⟨by rw[F];exact h0,g,c,by rw[D];exact H,I,O,by rw[D];exact Z⟩⟩
    ·refine(Mx.do_grp_bad tb 0 tcap t (ba x) (ba y) (Qcd j K M N) oa oc w e ai E al ht J h0).mono ?_;rintro e' w' ⟨H,I⟩;exact⟨I,Or.inl ⟨by rw[F];exact h0,by rw[F];exact H⟩⟩
  ·simp[e] at hb;rw[if_pos e] at hm;have D:doC j [t]=[(t.1,t.2.filter (Qbn t.1 (jb0 j))),(t.1,t.2.filter fun r=> !Qbn t.1 (jb0 j) r)]:=by simp[doC,e]
   have ax:QaX t.1 (Qcd j K M N)=0:=hb;refine(QnS tb 0 tcap t (Qcd j K M N) oa j.outs.length oc w e E ht J au (by unfold Qgt;rw[if_neg (by rw[ah];decide),if_neg (by rw[hm,show(Qcd j K M N).code=9 from e];decide)];exact ax)).mono ?_;rintro e' w' ⟨g,c,H,I,O,Z,U⟩;exact⟨U,Or.inr ⟨by simp[doE,e],g,c,by rw[D];exact H,I,O,by rw[D];exact Z⟩⟩
end Go.Proofs.YtjlgejennghhlaaGreatDoor.Pl.Ev
namespace Go.Proofs.YtjlgejennghhlaaGreatDoor.Pl.Ev
open Go.RowKit Go.Maps
open Fw (By FJob Flw ba)
structure Stay (w w':World):Prop where
 size:w.heap.size<=w'.heap.size
 cell:∀a v,w.cell? a=some v->w'.cell? a=some v
theorem Stay.refl (w:World):Stay w w:=⟨Nat.le_refl _,fun _ _ h=>h⟩
theorem Stay.trans {w w' y:World} (h:Stay w w') (D:Stay w' y):Stay w y:=⟨Nat.le_trans h.size D.size,fun a v e=>D.cell a v (h.cell a v e)⟩
theorem Stay.of {w w':World} (h:Below w.heap.size w w'):Stay w w':=⟨h.size,fun a v e=>(h.cell (World.block_lt_of_cell? w a e)).trans e⟩
theorem Stay.put {w w':World} {b:Nat} (F:∃es c,w.heap[b]? =some (.map es c)) (D:w.grownBy w' (some b)):Stay w w':=by
 refine⟨D.size,fun a v e=>?_⟩;have h:a.block≠b:=by
  intro q;obtain⟨es,cl,E⟩:=F;simp[World.cell?,q,E] at e
 have y:=D.block a.block (World.block_lt_of_cell? w a e) (by intro q;injection q with q;exact h q);exact(World.cell?_of_block y).trans e
def Qgi (w:World) (u:Value) (t:Tb):Prop:=∃vc vr,u=.agg #[vc,vr]/\Qax w vc t.1/\Qch w vr t.2
theorem Qjg {w w':World} {b o:Nat} {D:List Vl} (h:QaS w b o D) (y:Stay w w'):QaS w' b o D:=
 fun j hj=>⟨y.cell _ _ (h j hj).1,y.cell _ _ (h j hj).2.1,y.cell _ _ (h j hj).2.2⟩
theorem Qjh {w w':World} {v:Value} {cs:List Cl} (h:Qax w v cs) (D:Stay w w'):Qax w' v cs:=by
 obtain⟨a,c,e,F,I,h⟩:=h;refine⟨a,c,e,F,I,?_⟩;rcases h with h|⟨b,o,H,E,y⟩
 ·exact Or.inl h
 ·exact Or.inr ⟨b,o,H,Nat.lt_of_lt_of_le E D.size,fun j hj=>⟨D.cell _ _ (y j hj).1,D.cell _ _ (y j hj).2⟩⟩
theorem Qnk {w w':World} {v:Value} {y:List Vl} (h:QnE w v y) (D:Stay w w'):QnE w' v y:=by
 obtain⟨a,c,e,H,J,h⟩:=h;refine⟨a,c,e,H,J,?_⟩;rcases h with h|⟨b,o,I,F,E⟩
 ·exact Or.inl h
 ·exact Or.inr ⟨b,o,I,Nat.lt_of_lt_of_le F D.size,Qjg E D⟩
theorem Qld {w w':World} {v:Value} {rs:List (List Vl)} (h:Qch w v rs) (y:Stay w w'):Qch w' v rs:=by
 obtain⟨a,c,e,h⟩:=h;refine⟨a,c,e,?_⟩;rcases h with h|⟨b,o,I,E,D⟩
 ·exact Or.inl h
 ·refine Or.inr ⟨b,o,I,Nat.lt_of_lt_of_le E y.size,fun j hj=>?_⟩;obtain⟨u,H,F⟩:=D j hj;exact⟨u,y.cell _ _ H,Qnk F y⟩
theorem Qgi.stay {w w':World} {u:Value} {t:Tb} (h:Qgi w u t) (y:Stay w w'):Qgi w' u t:=by
 obtain⟨D,H,e,F,E⟩:=h;exact⟨D,H,e,Qjh F y,Qld E y⟩
theorem Qgi.below {w w':World} {u:Value} {t:Tb} (h:Qgi w u t) (y:Below w.heap.size w w'):Qgi w' u t:=h.stay (Stay.of y)
theorem rowsC_of {w:World} {B:Nat} {v:Value} {us:List Value} {rs:List (List Vl)} (h:w.ownsRow B 84 1 v rs.length us) (K:Qab w B us rs):Qch w v rs:=by
 have F:=h;obtain⟨aa,⟨rfl,E⟩|⟨g,J,ab,rfl,hg,hb,E,hm,-,-⟩⟩:=h
 ·exact⟨none,0,by rw[E],Or.inl (List.length_eq_zero_iff.1 E)⟩
 ·refine⟨some ⟨g,0,none⟩,J,rfl,Or.inr ⟨g,0,rfl,(F.lt g rfl).2,fun j hj=>?_⟩⟩;have y:j<us.length:=by rw[K.1];exact hj
  refine⟨us[j],by rw[Nat.zero_add,F.cellAt j (by omega),List.getElem?_eq_getElem y],?_⟩;obtain⟨I,N⟩:=K.2 j y hj;have V:=QbE I N;obtain⟨a,c,e,Z,H⟩:=V;refine⟨a,c,e,?_,Z,H⟩;rcases I with ⟨-,⟨D,M⟩|⟨g2,O,U,D,-,-,M,-⟩⟩
  ·omega
  ·rw[e] at D;simp only[Value.slice.injEq] at D;omega
def QaV (w:World):AM->TM->Prop
 |[],[]=>True
 |a::A,c::m=>(a.1=c.1/\Qgi w a.2 c.2)/\QaV w A m
 |_,_=>False
theorem QaV.stay {w w':World} {A:AM} {m:TM} (h:QaV w A m) (y:Stay w w'):QaV w' A m:=by
 induction A generalizing m with
 |nil=>cases m with
  |nil=>trivial
  |cons c m=>exact h.elim
 |cons a A ih=>cases m with
  |nil=>exact h.elim
  |cons c m=>exact⟨⟨h.1.1,h.1.2.stay y⟩,ih h.2⟩
theorem QaV.keys {w:World} {A:AM} {m:TM} (h:QaV w A m):keysA A=keysT m:=by
 induction A generalizing m with
 |nil=>cases m with
  |nil=>rfl
  |cons c m=>exact h.elim
 |cons a A ih=>cases m with
  |nil=>exact h.elim
  |cons c m=>simp only[keysA,keysT,List.map_cons];rw[h.1.1];congr 1;exact ih h.2
theorem QaV.snoc {w:World} {A:AM} {m:TM} {n:By} {u:Value} {t:Tb} (h:QaV w A m) (y:Qgi w u t):QaV w (A++[(n,u)]) (m++[(n,t)]):=by
 induction A generalizing m with
 |nil=>cases m with
  |nil=>exact⟨⟨rfl,y⟩,trivial⟩
  |cons c m=>exact h.elim
 |cons a A ih=>cases m with
  |nil=>exact h.elim
  |cons c m=>exact⟨h.1,ih h.2⟩
theorem QaV.look {w:World} {A:AM} {m:TM} (h:QaV w A m) {n:By} (y:n∈keysT m):∃u t,Qbv A n=some u/\QaP m n=some t/\Qgi w u t/\(n,t)∈m:=by
 induction A generalizing m with
 |nil=>cases m with
  |nil=>cases y
  |cons c m=>exact h.elim
 |cons a A ih=>cases m with
  |nil=>exact h.elim
  |cons c m=>
   unfold Qbv QaP
   by_cases e:c.1=n
   ·refine⟨a.2,c.2,by simp[h.1.1,e],by simp[e],h.1.2,by rw[<-e];simp⟩
   ·obtain⟨u,t,F,D,H,E⟩:=ih h.2 ((List.mem_cons.1 y).resolve_left (fun q=>e q.symm));refine⟨u,t,?_,?_,H,by simp[E]⟩
    ·rw[List.find?_cons_of_neg (by simp[h.1.1,e])];exact F
    ·rw[List.find?_cons_of_neg (by simp[e])];exact D
theorem QaV.len {w:World} {A:AM} {m:TM} (h:QaV w A m):A.length=m.length:=by
 have:=congrArg List.length h.keys;simpa [keysA,keysT] using this
theorem Qen {w:World} {b:Nat} {A:AM} {n:By} (h:MapC w b A) (I:n∉keysA A) (J:A.length<1000000) (Z:n.length<=1000) (v:Value):
 ∃w',(Instr.mapUpdate 22 (.map (some b)) (.string (ba n)) v).run Tryz.prog w=.ok () w'/\MapC w' b (A++[(n,v)])/\w.grownBy w' (some b)/\w'.heap.size=w.heap.size:=by
 obtain⟨D,H,F,V⟩:=h.is;have y:keyOf Tryz.prog 9 (.string (ba n))=some (.string n):=Dk.str_key Tryz.underlying9 (ba n) (Nat.le_trans Z (by decide));obtain⟨O,E,-,N,M⟩:=(show Dk.MapIs w 9 b A.length (Qlx A) from⟨D,H,F⟩).put QbP Tryz.underlying22 (Nat.lt_of_lt_of_le J (by decide)) y v
 obtain⟨w',U,q2,q3⟩:=H.update (val:=v) QbP Tryz.underlying22 (Nat.lt_of_lt_of_le J (by decide)) y (show Dk.Rv v=some (.held v,[]) from rfl);have e:=(Result.ok.inj (E.symm.trans U)).2;subst e;refine⟨O,E,⟨⟨D.put (.string n) (.held v),?_,?_,?_⟩,?_⟩,N,M⟩
 ·rw[List.length_append];exact q2
 ·rw[<-Qil I];exact F.put (QbP.key y) v
 ·obtain⟨es,rfl,K,-⟩:=H.entries QbP;rw[size_put ⟨es,rfl,K⟩,List.length_append,List.length_singleton];have:has (DataW.map es) (.string n)=false:=by
   rw[(F.2 (.string n)).1]
   show(Qbv A n).isSome=false
   rw[QcN I];rfl
  rw[this,V];rfl
 ·rw[keysA,List.map_append];exact Qdy h.nd I
abbrev zeroT:Value:=.agg #[.slice none 0 0,.slice none 0 0]
theorem Qdm {w:World} {b:Nat} {A:AM} (h:MapC w b A) (n:By) (D:n.length<=1000) (c:Bool):
 (Instr.lookup 22 (.map (some b)) (.string (ba n)) c).run Tryz.prog w=.ok (if c then .tuple #[(Qbv A n).getD zeroT,.bool (Qbv A n).isSome] else(Qbv A n).getD zeroT) w:=by
 have y:keyOf Tryz.prog 9 (.string (ba n))=some (.string n):=Dk.str_key Tryz.underlying9 (ba n) (Nat.le_trans D (by decide));exact h.mapIs.look QbP Tryz.underlying22 (z:=zeroT) (by kernel_rfl) y c
theorem Qfc {w:World} {b:Nat} {A:AM} (h:MapC w b A) (y:TypeId):(Builtin.len_ #[22] y #[.map (some b)]).run Tryz.prog w=.ok (.int .i64 (A.length:Nat)) w:=by
 obtain⟨D,E,H,F⟩:=h.is;rw[<-F];exact E.len Tryz.underlying22 y
structure TabS (w1 wr:World) (b:Nat) (A:AM) (m:TM):Prop where
 low:Below w1.heap.size w1 wr
 map:MapC wr b A
 mem:QaV wr A m
theorem TabS.below {D wr w':World} {b:Nat} {A:AM} {m:TM} (h:TabS D wr b A m) (y:Below wr.heap.size wr w'):TabS D w' b A m:=
 ⟨bel_then h.low y,h.map.below y,h.mem.stay (Stay.of y)⟩
theorem TabS.put {y wr w':World} {b:Nat} {A:AM} {m:TM} {n:By} {u:Value} {t:Tb} (h:TabS y wr b A m) (H:y.heap.size<=b) (F:Qgi wr u t) (E:MapC w' b (A++[(n,u)])) (D:wr.grownBy w' (some b)):TabS y w' b (A++[(n,u)]) (m++[(n,t)]):=
 ⟨h.low.grown D h.low.size (fun q hq=>by injection hq with hq;omega),E,(h.mem.stay (Stay.put h.map.obj D)).snoc (F.stay (Stay.put h.map.obj D))⟩
theorem TabS.len {y wr:World} {b:Nat} {A:AM} {m:TM} (h:TabS y wr b A m):A.length=m.length:=h.mem.len
structure GivM (w:World) (mv:Value) (G:By->Option (Value×Tb)):Prop where
 look:∀V,Below w.heap.size w V->∀n:By,n.length<=1000->∀c:Bool,(Instr.lookup 22 mv (.string (ba n)) c).run Tryz.prog V=.ok (if c then .tuple #[((G n).map (·.1)).getD zeroT,.bool (G n).isSome] else((G n).map (·.1)).getD zeroT) V
 tab:∀n u t,G n=some (u,t)->Qgi w u t
theorem GivM.below {w w':World} {mv:Value} {G:By->Option (Value×Tb)} (h:GivM w mv G) (y:Below w.heap.size w w'):GivM w' mv G:=
 ⟨fun V hV n hn c=>h.look V (bel_then y hV) n hn c,fun n u t e=>(h.tab n u t e).below y⟩
def Qle (A:AM) (m:TM) (n:By):Option (Value×Tb):=match Qbv A n,QaP m n with
 |some u,some t=>some (u,t)
 |_,_=>none
theorem GivM.of {w:World} {b:Nat} {A:AM} {m:TM} (h:MapC w b A) (F:QaV w A m):GivM w (.map (some b)) (Qle A m)/\∀n,(Qle A m n).map (·.2)=QaP m n:=by
 have D:∀n,((Qle A m n).map (·.1))=Qbv A n/\(Qle A m n).isSome=(Qbv A n).isSome/\(Qle A m n).map (·.2)=QaP m n:=by
  intro n
  by_cases hn:n∈keysT m
  ·obtain⟨u,t,y,E,-,-⟩:=F.look hn;simp[Qle,y,E]
  ·have E:=QdA hn;have y:=QcN (A:=A) (n:=n) (by rw[F.keys];exact hn);simp[Qle,y,E]
 refine⟨⟨fun V hV n hn c=>?_,fun n u t e=>?_⟩,fun n=>(D n).2.2⟩
 ·rw[(D n).1,(D n).2.1];exact Qdm (h.below hV) n hn c
 ·by_cases hn:n∈keysT m
  ·obtain⟨J,I,y,E,H,-⟩:=F.look hn;simp[Qle,y,E] at e;obtain⟨rfl,rfl⟩:=e;exact H
  ·have y:=QcN (A:=A) (n:=n) (by rw[F.keys];exact hn);simp[Qle,y] at e
end Go.Proofs.YtjlgejennghhlaaGreatDoor.Pl.Ev
namespace Go.Proofs.YtjlgejennghhlaaGreatDoor.Pl.Ev
open Go.RowKit Go.Maps
open Fw (By FJob Flw ba)
theorem Qlf (vc vr:Value) (t:Tb) (w:World) (hc:Qax w vc t.1) (hr:QaG w vr t.2) (hR:Qae t.1 t.2=true):
 Calls Tryz.prog 62 #[.agg #[vc,vr]] w fun e w'=>∃vc' vr',e=.returned (.agg #[vc',vr'])/\Qbx w' w.heap.size vc' t.1/\Qbo w' w.heap.size vr' t.2/\Below w.heap.size w w':=by
 obtain⟨i0,hi,aT,a7,a2⟩:=info_parts Tryz.infoRow;obtain⟨cs,rs⟩:=t;obtain⟨h1,h6,aS,hl⟩:=Qan hR;simp only at hc hr h1 h6 aS hl;obtain⟨h,aa⟩:∃x,w.alloc (.cells #[vc,vr] 54)=x:=⟨_,rfl⟩;obtain⟨D,ag⟩:∃x,h.alloc (.cells #[.slice none 0 0,.slice none 0 0] 54)=x:=⟨_,rfl⟩;have y:Below w.heap.size w h:=by rw[<-aa];exact Qaa _ _
 have aj:h.heap.size=w.heap.size+1:=by rw[<-aa];simp
 have av:D.heap.size=h.heap.size+1:=by rw[<-ag];simp
 have U:Below h.heap.size h D:=by rw[<-ag];exact Qaa _ _
 have a0:h.cell? ⟨w.heap.size,0,none⟩=some vc:=by rw[<-aa];exact World.cell?_alloc_at _ _ _ _ rfl
 have a1:h.cell? ⟨w.heap.size,1,none⟩=some vr:=by rw[<-aa];exact World.cell?_alloc_at _ _ _ _ rfl
 have ay:Fw.Box D h.heap.size [.slice none 0 0,.slice none 0 0]:=by rw[<-ag];exact Fw.Box.new h _ _ _ rfl
 have HA:Hid (∀V,Below D.heap.size D V->V.cell? ⟨w.heap.size,0,none⟩=some vc/\V.cell? ⟨w.heap.size,1,none⟩=some vr):=Hk fun V hV=>by
  have aw:=bel_then U hV;exact⟨cK aw (by omega) a0,cK aw (by omega) a1⟩
 have ad:=bel_then y U;have aA:=Hk ad;have a5:=Hk ay;have HR:=Hk (hr.below ad);have HC:=Hk (hc.below ad);have HL:=Hk hl;have ac:=Hk (Ai h1 h6);have k1:=(HA.out D (Below.refl _ _)).2;have HS:=Hk (Ai aj av);have aE:w.heap.size<D.heap.size:=by omega
 have bn:=Hk aE;obtain⟨va,bq,rfl,-⟩:=hr;obtain⟨ca,bp,rfl,-⟩:=hc;clear hl ay y U ad a0 a1 aE aj av;go_enter Tryz.func62,Tryz.ntmps62;go_wp2;go_loopw [3,9] (fun l i wr=>∃(k:Nat) (us:List Value),k<=rs.length/\i=.int .i64 k/\wr.ownsRow D.heap.size 84 1 l k us/\Qab wr D.heap.size us (rs.take k)/\Below D.heap.size D wr) (fun _ i _=>rs.length-(intOf i).toNat)
 case atStart=>exact⟨0,[],Nat.zero_le _,rfl,World.ownsRow_nil _ _ _ _,Qab.nil _ _,Below.refl _ _⟩
 case round=>
  obtain⟨k,us,hk,rfl,M,E,H⟩:=hrel;obtain⟨la,lc,rfl⟩:=own_slice M;have O:=Hk (Ai M E);have HX:=Hk H;have aX:=H.size
  by_cases hlt:k<rs.length
  ·obtain⟨b,o,c,ax,aY,aF⟩:=QgS HR.out (by omega);simp only[Value.slice.injEq,true_and] at ax;obtain⟨rfl,rfl⟩:=ax;obtain⟨u,hu,ae⟩:=aF k hlt;have cu:=cK H aY hu;have aC:=ae.below H;obtain⟨ua,uc,rfl⟩:=Go.Proofs.YtjlgejennghhlaaGreatDoor.row_slice ae;have az:=HL.out _ (List.getElem_mem hlt);have ar:=Qdd _ _ wr aC (by have:=ac.out;omega) (by have:=ac.out;omega);have Z:∀x∈rs[k],x.2.2.size<=maxLen:=by obtain⟨_,_,_,hs,_⟩:=ae;exact hs
   have HC:=Hk ar;have HS:=Hk (Ai Z az);clear ar aF hu ae aC H M E Z az k1;generalize au:rs[k]=rk at*;have a8:=Hk au;clear au;go_wp2_with (first|(go_at_call 103;refine HC.out.mono ?_;rintro e w3 ⟨v1,rfl,K,y⟩;obtain⟨I,F,rfl⟩:=own_slice K)|(at_builtin;refine wpList_append_own _ rfl _ _ 52 rfl D.heap.size 84 i0 (.slice none 0 0) 1 24 Tryz.underlying52 hi aT a7 a2 rfl (by decide) _ _ _ rfl ((owns_below O.out.1 y).alloc _) ⟨w3.heap.size,0,none⟩ 1 1 [.slice I rk.length F] rfl rfl (news1 _ _ _ _ rfl) (Qc4 _ _ _) ?c3 ?c4 ?c5 ?_))
   case c3=>unfold maxLen;omega
   case c4=>omega
   case c5=>have:=y.size;simp;omega
   intro v' w5 af J _;have aj:=y.size;have ah:Below D.heap.size D w5:=((bel_then HX.out y).alloc (by omega) _).grown J (by simp;omega) (fun q hq=>(O.out.1.lt q hq).1);have ai:=((owns_below O.out.1 y).alloc (.cells #[.slice I rk.length F] 84));have aD:=((O.out.2.below y).below (Qaa w3 (.cells #[.slice I rk.length F] 84))).grow ai J;have aG:=(K.alloc (.cells #[.slice I rk.length F] 84)).kept J (Qb4 (by decide) (K.alloc _) ai);have al:=aD.snoc (own_mono (by omega) aG) HS.out.1;rw[show rs.take k++[rk]=rs.take (k+1) by rw[List.take_succ_eq_append_getElem hlt,a8.out]] at al;have HF:=Hk (Ai af (Ai al ah));clear af J al ah aD aG ai;go_wp2;go_roundw
   case rel=>exact⟨k+1,_,by omega,by go_num,HF.out.1,HF.out.2.1,HF.out.2.2⟩
   case measure=>simp[intOf];omega
  ·have aU:k=rs.length:=by omega
   subst aU;rw[List.take_of_length_le (Nat.le_refl _)] at E;clear O;have O:=Hk (Ai M E);have q0:=(HA.out wr H).1;have a9:=Hk (QhG _ cs wr (HC.out.below H) ac.out.1 (by have:=ac.out;omega));clear M E H k1 aX hlt;generalize aO:cs.length=cn at*;go_wp2_with (first|(go_at_call 58;refine a9.out.mono ?_;rintro e w3 ⟨v1,rfl,K,y⟩;obtain⟨I,F,rfl⟩:=own_slice K;have ab:=Hk (Ai K y);have N:=(a5.out.below HX.out).below y;have f0:=N.fz 0;have f1:=N.fz 1;have c0:=N.cell 0 (v:=.slice none 0 0) rfl;have c1:=N.cell 1 (v:=.slice none 0 0) rfl;have aZ:=Hk N;clear K y N));have X4:=(aZ.out.set 0 (.slice I cn F)).set 1 (.slice la rs.length lc);have z0:=X4.cell 0 (v:=.slice I cn F) rfl;have z1:=X4.cell 1 (v:=.slice la rs.length lc) rfl;refine bodyPost_ret (v:=.agg #[.slice I cn F,.slice la rs.length lc]) (by simp[results,Tryz.results62,go_sem,z0,z1]) rfl ?_;have hs:=HS.out;have aB:w.heap.size<=h.heap.size:=by omega
   have bo:=HX.out.size;have aR:Below w.heap.size w w3:=aA.out.trans ((bel_then HX.out ab.out.2).mono aA.out.size);refine⟨_,_,rfl,⟨?_,fun x hx=>?_⟩,⟨us,?_,?_⟩,(aR.setCell (p:=⟨h.heap.size,0,none⟩) aB _).setCell (p:=⟨h.heap.size,1,none⟩) aB _⟩
   ·have h5:=ab.out.1;rw[<-aO] at h5⊢;exact own_mono (by omega) (ownsRow_setCell_below (ownsRow_setCell_below h5 (a:=⟨h.heap.size,0,none⟩) (by show h.heap.size<wr.heap.size;omega) _) (a:=⟨h.heap.size,1,none⟩) (by show h.heap.size<wr.heap.size;omega) _)
   ·obtain⟨-,-,-,-,Z,-⟩:=HC.out;exact Z x hx
   ·exact own_mono (by omega) (ownsRow_setCell_below (ownsRow_setCell_below (owns_below O.out.1 ab.out.2) (a:=⟨h.heap.size,0,none⟩) (by show h.heap.size<D.heap.size;omega) _) (a:=⟨h.heap.size,1,none⟩) (by show h.heap.size<D.heap.size;omega) _)
   ·exact(((O.out.2.below ab.out.2).set (R:=h.heap.size) (by omega)).set (R:=h.heap.size) (by omega)).mono (by omega)
end Go.Proofs.YtjlgejennghhlaaGreatDoor.Pl.Ev
