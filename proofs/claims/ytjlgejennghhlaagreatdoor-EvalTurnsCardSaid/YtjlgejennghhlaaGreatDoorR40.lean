import Derived.Deep.MidRow
import Derived.Deep.RegionHeld3
import Derived.Test.YtjlgejennghhlaaGreatDoorR01
import Derived.Test.YtjlgejennghhlaaGreatDoorR22
import Derived.Test.YtjlgejennghhlaaGreatDoorR38
import Derived.Test.YtjlgejennghhlaaGreatDoorR39
import Derived.Test.YtjlgejennghhlaaGreatDoorR12
import Derived.Test.YtjlgejennghhlaaGreatDoorR13
import Derived.Test.YtjlgejennghhlaaGreatDoorR14
import Derived.Test.YtjlgejennghhlaaGreatDoorR37
import Derived.Test.YtjlgejennghhlaaGreatDoorR31
set_option linter.unusedSimpArgs false
set_option linter.unusedVariables false
set_option linter.unusedSectionVars false
set_option maxRecDepth 1000000
set_option maxHeartbeats 16000000
namespace Go.Proofs.YtjlgejennghhlaaGreatDoor
open Go.RowKit
theorem Qmy (b o n c h D H:Nat) (cs:List Cl) (x y:ByteArray) (j:Jb) (w:World) (J:j.cols=.slice (some ⟨h,D,none⟩) 2 H) (I:j.op=⟨#[109,97,120]⟩) (E:h<w.heap.size) (K:w.cell? ⟨h,D,none⟩=some (.string x)) (M:w.cell? ⟨h,D+1,none⟩=some (.string y))
 (U:cs.length=n) (F:n<=100) (N:b<w.heap.size) (O:Qau w b o cs):
 Calls Tryz.prog 129 #[.agg j.cells,.slice (some ⟨b,o,none⟩) n c] w fun e w'=>e=.returned (QbN (QaM cs x y))/\Below w.heap.size w w':=Mx.group_any b o n c h D H cs x y j w J I E K M U F N O
end Go.Proofs.YtjlgejennghhlaaGreatDoor
namespace Go.Proofs.YtjlgejennghhlaaGreatDoor.Pl
open Go.RowKit
open Fw (By FJob Flw ba)
def Qcd (j:FJob) (vo vi vc:Value):Jb:=⟨(j.at_:Nat),j.code,vo,vi,vc,ba j.op,(ba j.left.1,j.left.2.1,j.left.2.2.1,ba j.left.2.2.2),(ba j.right.1,j.right.2.1,j.right.2.2.1,ba j.right.2.2.2),j.retry⟩
theorem Qj6 (j:FJob) (D h y:Value):(Qcd j D h y).cells=(Fw.jobV j D h y).toArray:=rfl
abbrev jb0 (j:FJob):Jb:=Qcd j (.slice none 0 0) (.slice none 0 0) (.slice none 0 0)
noncomputable def Qem (j:FJob) (ins:List Cs):Int:=
 if j.code=1\/j.code=9 then QaX (ins.getD 0 []) (jb0 j)
 else if j.code=2 then QbZ (ins.getD 0 []) (jb0 j) (j.cols.getD 0 [])
 else if j.code=3\/j.code=4 then QaR (ins.getD 0 []) (j.cols.map ba)
 else if j.code=5 then QdF (ins.getD 0 []) (ins.getD 1 [])
 else if j.code=7 then QaY (ins.getD 0 []) (ins.getD 1 []) (ba (j.cols.getD 0 [])) (ba (j.cols.getD 1 []))
 else if j.code=8 then QaM (ins.getD 0 []) (ba (j.cols.getD 0 [])) (ba (j.cols.getD 1 []))
 else 0
noncomputable def Qbi (j:FJob) (ins:List Cs):Int:=if j.outs.length=(if j.code=9 then 2 else 1) then Qem j ins else 1
noncomputable def Qba (j:FJob) (ins:List Cs):Cs:=
 if j.code=3\/j.code=8 then Qbd (Qak (ins.getD 0 []) (j.cols.map ba)) (ins.getD 0 [])
 else if j.code=7 then Qb9 (ins.getD 0 []) (ins.getD 1 []) ((Qaq (ins.getD 1 []) (j.cols.getD 1 [])).getD 0)
 else ins.getD 0 []
def Qep (c:Cs):Prop:=1<=c.length/\c.length<=6/\∀x∈c,x.1.size<=1000
def Qgc (w:World) (u:Value) (cs:Cs):Prop:=∃b o c,u=.slice (some ⟨b,o,none⟩) cs.length c/\cs.length<=c/\b<w.heap.size/\Qau w b o cs
theorem Qgc.below {w w':World} {u:Value} {cs:Cs} (h:Qgc w u cs) (D:Below w.heap.size w w'):Qgc w' u cs:=by
 obtain⟨b,o,c,H,E,y,F⟩:=h;exact⟨b,o,c,H,E,Nat.lt_of_lt_of_le y D.size,F.below D y⟩
theorem Qgc.of {w:World} {B:Nat} {u:Value} {cs:Cs} (h:w.ownsRow B 64 2 u cs.length (Qal cs)) (D:Qep cs):Qgc w u cs:=by
 obtain⟨a,c,H,F,-,y⟩:=Qbm h (fun x hx=>Nat.le_trans (D.2.2 x hx) (by decide));rcases y with y|⟨b,o,rfl,h5,E⟩
 ·rw[y] at D;exact absurd D.1 (by decide)
 ·exact⟨b,o,c,H,F,h5,E⟩
theorem QcZ {w:World} {v:Value} {xs:List By} (h:Fw.StrsR w v xs) (y:xs.length<=1000):Qcm w v (xs.map ba):=by
 rcases h with ⟨rfl,rfl⟩|⟨b,o,c,rfl,D,F,E⟩
 ·exact⟨none,0,rfl,Nat.le_refl _,by decide,Or.inl rfl⟩
 ·refine⟨some ⟨b,o,none⟩,c,by rw[List.length_map],by rw[List.length_map];exact D,by rw[List.length_map];exact Nat.le_trans y (by decide),Or.inr ⟨b,o,rfl,F,fun j hj=>?_⟩⟩;rw[List.length_map] at hj;rw[E j hj,List.getElem_map]
theorem strs_one {w:World} {v:Value} {a:By} (h:Fw.StrsR w v [a]):∃b o c,v=.slice (some ⟨b,o,none⟩) 1 c/\b<w.heap.size/\w.cell? ⟨b,o,none⟩=some (.string (ba a)):=by
 rcases h with ⟨-,h⟩|⟨b,o,c,rfl,E,D,y⟩
 ·cases h
 ·exact⟨b,o,c,rfl,D,by simpa using y 0 (by simp)⟩
theorem strs_two {w:World} {v:Value} {a D:By} (h:Fw.StrsR w v [a,D]):∃b o c,v=.slice (some ⟨b,o,none⟩) 2 c/\b<w.heap.size/\w.cell? ⟨b,o,none⟩=some (.string (ba a))/\w.cell? ⟨b,o+1,none⟩=some (.string (ba D)):=by
 rcases h with ⟨-,h⟩|⟨b,o,c,rfl,F,E,y⟩
 ·cases h
 ·exact⟨b,o,c,rfl,E,by simpa using y 0 (by simp),by simpa using y 1 (by simp)⟩
theorem grp_list {cs:Cs} {x y:ByteArray} (h:QaM cs x y=0):QaR cs [x,y]=0:=by
 unfold QaM at h;split at h
 ·rename_i p q E H
  have F:p≠q:=by
   intro e;subst e
   by_cases hk:QbO cs p≠1
   ·rw[if_pos hk] at h;cases h
   ·rw[if_neg hk,if_pos rfl] at h;cases h
  have D:¬x.data.toList=y.data.toList:=by
   intro e;rw[e] at E;exact F (Option.some.inj (E.symm.trans H))
  simp[QaR,QhL,E,H,inS,D];exact fun e=>D (by rw[e])
 ·cases h
theorem Qm5 {cs:Cs} {D:List ByteArray} (h:QaR cs D=0) (F:Qep cs):Qep (Qbd (Qak cs D) cs):=by
 obtain⟨H,I,y⟩:=QcF h;refine⟨by simp[Qbd,Qak];omega,by simp[Qbd,Qak];omega,fun x hx=>?_⟩;obtain⟨k,E,rfl⟩:=List.mem_map.1 hx;have:=QcG y k E;rw[List.getElem?_eq_getElem this];exact F.2.2 _ (List.getElem_mem this)
theorem Qm6 {cs D:Cs} {x y:ByteArray} (h:QaY cs D x y=0) (I:Qep cs) (H:Qep D):∃q,Qaq D y.data.toList=some q/\Qep (Qb9 cs D q):=by
 unfold QaY at h;split at h
 ·rename_i p q K J
  refine⟨q,J,?_⟩;have F:(Qb9 cs D q).length<=6:=by
   by_cases hk:QbO cs p≠QbO D q
   ·rw[if_pos hk] at h;cases h
   ·rw[if_neg hk] at h
    by_cases ht:Qd7 (Qb9 cs D q)=true
    ·rw[if_pos ht] at h;cases h
    ·rw[if_neg ht] at h
     by_cases F:6<(Qb9 cs D q).length
     ·rw[if_pos F] at h;cases h
     ·omega
  refine⟨?_,F,fun z E=>?_⟩
  ·have:=I.1;simp[Qb9];omega
  ·simp only[Qb9,List.mem_append] at E;rcases E with (E|E)|E
   ·exact I.2.2 z E
   ·exact H.2.2 z (List.mem_of_mem_take E)
   ·exact H.2.2 z (List.mem_of_mem_drop E)
 ·cases h
theorem QoE {j:FJob} {ins:List Cs} (I:Fw.JobOK j) (J:ins.length=j.ins.length) (K:∀c∈ins,Qep c) (h:Qbi j ins=0):Qep (Qba j ins):=by
 obtain⟨V,Z,O,F,M⟩:=I.fm;have y:Qem j ins=0:=by
  unfold Qbi at h
  by_cases ho:j.outs.length=(if j.code=9 then 2 else 1)
  ·rwa[if_pos ho] at h
  ·rw[if_neg ho] at h;cases h
 have D:Qep (ins.getD 0 []):=by
  have:0<ins.length:=by
   rw[J]
   by_cases e5:j.code=5
   ·obtain⟨a,b,e⟩:=F (Or.inl e5);rw[e];simp
   ·by_cases e7:j.code=7
    ·obtain⟨a,b,e⟩:=F (Or.inr e7);rw[e];simp
    ·obtain⟨a,e⟩:=M e5 e7;rw[e];simp
  rw[List.getD_eq_getElem?_getD,List.getElem?_eq_getElem this];exact K _ (List.getElem_mem this)
 unfold Qem at y;unfold Qba;rcases I.code with e|e|e|e|e|e|e|e|e
 ·simp[e] at y⊢;simpa using D
 ·simp[e] at y⊢;simpa using D
 ·simp only[e] at y⊢;simp at y⊢;exact Qm5 y (by simpa using D)
 ·simp[e] at y⊢;simpa using D
 ·simp[e] at y⊢;simpa using D
 ·simp[e] at y⊢;simpa using D
 ·have U:Qep (ins.getD 1 []):=by
   obtain⟨a,b,E⟩:=F (Or.inr e);have:1<ins.length:=by rw[J,E];simp
   rw[List.getD_eq_getElem?_getD,List.getElem?_eq_getElem this];exact K _ (List.getElem_mem this)
  rw[if_neg (by omega),if_neg (by omega),if_neg (by omega),if_neg (by omega),if_pos e] at y;rw[if_neg (by omega),if_pos e];obtain⟨q,N,H⟩:=Qm6 y D U;have hq':Qaq (ins.getD 1 []) (j.cols.getD 1 [])=some q:=N;rw[hq'];exact H
 ·rw[if_neg (by omega),if_neg (by omega),if_neg (by omega),if_neg (by omega),if_neg (by omega),if_pos e] at y;rw[if_pos (Or.inr e)];obtain⟨a,b,E,-⟩:=O e;rw[E] at y⊢;exact Qm5 (grp_list y) D
 ·simp[e] at y⊢;simpa using D
end Go.Proofs.YtjlgejennghhlaaGreatDoor.Pl
namespace Go.Proofs.YtjlgejennghhlaaGreatDoor.Pl
open Go.RowKit
open Fw (By FJob Flw ba)
def Qf0 (w:World) (hb ho:Nat) (ins:List Cs):Prop:=hb<w.heap.size/\∀i (h:i<ins.length),∃u,w.cell? ⟨hb,ho+i,none⟩=some u/\Qgc w u ins[i]
theorem Qf0.below {w w':World} {E D:Nat} {ins:List Cs} (h:Qf0 w E D ins) (y:Below w.heap.size w w'):Qf0 w' E D ins:=
 ⟨Nat.lt_of_lt_of_le h.1 y.size,fun i hi=>by
  obtain⟨u,H,F⟩:=h.2 i hi;exact⟨u,cK y h.1 H,F.below y⟩⟩
theorem QcL {ins:List Cs} (h:0<ins.length):ins.getD 0 []=ins[0]:=by rw[List.getD_eq_getElem?_getD,List.getElem?_eq_getElem h];rfl
theorem QoF {ins:List Cs} (h:1<ins.length):ins.getD 1 []=ins[1]:=by rw[List.getD_eq_getElem?_getD,List.getElem?_eq_getElem h];rfl
theorem ba_list (l:By):(ba l).data.toList=l:=rfl
theorem Qm7 {x:By} (h:x∈Fw.ariL):inS Qbs x=true:=by
 simp[Fw.ariL] at h;rcases h with rfl|rfl|rfl<;>rfl
theorem Qig (j:FJob) (J K vc:Value) (ins:List Cs) (V ho E:Nat) (w:World) (hj:Fw.JobOK j) (hc:Fw.StrsR w vc j.cols) (N:Qf0 w V ho ins) (al:∀c∈ins,Qep c) (hl:ins.length=j.ins.length):
 Calls Tryz.prog 96 #[.agg (Qcd j J K vc).cells,.slice (some ⟨V,ho,none⟩) ins.length E] w fun e w'=>e=.returned (QbN (Qem j ins))/\Below w.heap.size w w':=by
 obtain⟨f2,f7,f8,fi,fo⟩:=hj.fm;have D:0<ins.length:=by
  rw[hl]
  by_cases e5:j.code=5
  ·obtain⟨a,b,e⟩:=fi (Or.inl e5);rw[e];simp
  ·by_cases e7:j.code=7
   ·obtain⟨a,b,e⟩:=fi (Or.inr e7);rw[e];simp
   ·obtain⟨a,e⟩:=fo e5 e7;rw[e];simp
 obtain⟨u0,h0,Z,o0,c0,rfl,aD,I,H⟩:=N.2 0 D;have k0:=al _ (List.getElem_mem D);have hr:=hj.r;have aC:=hj.l;have sz:∀{x:By},x.length<=1000->(ba x).size<=maxLen:=fun{x} h=>Nat.le_trans h (by decide)
 rw[Nat.add_zero] at h0;unfold Qem;rcases hj.code with e|e|e|e|e|e|e|e|e
 ·rw[if_pos (Or.inl e),QcL D];exact Qer V ho ins.length E Z o0 _ c0 ins[0] (Qcd j J K vc) w (Or.inl e) D N.1 h0 rfl (by have:=k0.2.1;omega) I H (sz hr.2.1)
 ·rw[if_neg (by omega),if_pos e,QcL D];obtain⟨n,e1,e2⟩:=f2 e;rw[e1] at hc⊢;obtain⟨M,O,cc,rfl,F,s0⟩:=strs_one hc;exact QfP V ho ins.length E Z o0 _ c0 M O cc ins[0] (ba n) (Qcd j J K _) w e D N.1 h0 rfl F s0 (Qm7 e2) rfl (by have:=k0.2.1;omega) I H (sz aC.2.1) (sz hr.2.1)
 ·rw[if_neg (by omega),if_neg (by omega),if_pos (Or.inl e),QcL D];exact Qgv V ho ins.length E Z o0 _ c0 ins[0] (j.cols.map ba) (Qcd j J K vc) w e D N.1 h0 (QcZ hc hj.cl) rfl (by have:=k0.2.1;omega) I H
 ·rw[if_neg (by omega),if_neg (by omega),if_pos (Or.inr e),QcL D];exact QgA V ho ins.length E Z o0 _ c0 ins[0] (j.cols.map ba) (Qcd j J K vc) w e D N.1 h0 (QcZ hc hj.cl) rfl (by have:=k0.2.1;omega) I H
 ·obtain⟨a,b,ei⟩:=fi (Or.inl e);have h2:ins.length=2:=by rw[hl,ei];rfl
  have U:1<ins.length:=by omega
  obtain⟨u1,h1,b1,o1,c1,rfl,af,am,ao⟩:=N.2 1 U;have k1:=al _ (List.getElem_mem U);rw[if_neg (by omega),if_neg (by omega),if_neg (by omega),if_pos e,QcL D,QoF U,h2];exact QdM V ho E Z o0 c0 b1 o1 c1 ins[0] ins[1] (Qcd j J K vc) w e N.1 h0 h1 (by have:=k0.2.1;omega) (by have:=k1.2.1;omega) I am H ao
 ·rw[if_neg (by omega),if_neg (by omega),if_neg (by omega),if_neg (by omega),if_neg (by omega),if_neg (by omega),QeK];exact QgD none V ho ins.length E _ (Qcd j J K vc) w e D N.1 h0
 ·obtain⟨a,b,ei⟩:=fi (Or.inr e);have h2:ins.length=2:=by rw[hl,ei];rfl
  have U:1<ins.length:=by omega
  obtain⟨u1,h1,b1,o1,c1,rfl,af,am,ao⟩:=N.2 1 U;have k1:=al _ (List.getElem_mem U);obtain⟨x,y,ec⟩:=f7 e;rw[ec] at hc⊢;obtain⟨M,O,cc,rfl,F,s0,s1⟩:=strs_two hc;rw[if_neg (by omega),if_neg (by omega),if_neg (by omega),if_neg (by omega),if_pos e,QcL D,QoF U,h2];refine QgB V ho E Z o0 _ c0 b1 o1 _ c1 (Qcd j J K _) _ w e N.1 h0 h1 (fun W hW=>?_);exact QjD Z o0 _ c0 b1 o1 _ c1 M O cc ins[0] ins[1] (ba x) (ba y) (Qcd j J K _) W rfl (by have:=hW.size;omega) (cK hW F s0) (cK hW F s1) rfl k0.1 (by have:=k0.2.1;omega) (by have:=hW.size;omega) (H.below hW I) rfl (by have:=k1.2.1;omega) af (by have:=hW.size;omega) (ao.below hW am) (fun z hz=>by
   rcases List.mem_append.1 hz with hz|hz
   ·exact Nat.le_trans (k0.2.2 z hz) (by decide)
   ·exact Nat.le_trans (k1.2.2 z hz) (by decide))
 ·obtain⟨x,y,ec,eo⟩:=f8 e;rw[ec] at hc⊢;obtain⟨M,O,cc,rfl,F,s0,s1⟩:=strs_two hc;rw[if_neg (by omega),if_neg (by omega),if_neg (by omega),if_neg (by omega),if_neg (by omega),if_pos e,QcL D];refine QfN V ho ins.length E Z o0 _ c0 (Qcd j J K _) _ w e D N.1 h0 (fun W hW=>?_);rcases eo with eo|eo
  ·exact group_any Z o0 _ c0 M O cc ins[0] (ba x) (ba y) (Qcd j J K _) W rfl (show ba j.op=_ by rw[eo];rfl) (by have:=hW.size;omega) (cK hW F s0) (cK hW F s1) rfl (by have:=k0.2.1;omega) (by have:=hW.size;omega) (H.below hW I)
  ·exact Qmy Z o0 _ c0 M O cc ins[0] (ba x) (ba y) (Qcd j J K _) W rfl (show ba j.op=_ by rw[eo];rfl) (by have:=hW.size;omega) (cK hW F s0) (cK hW F s1) rfl (by have:=k0.2.1;omega) (by have:=hW.size;omega) (H.below hW I)
 ·rw[if_pos (Or.inr e),QcL D];exact Qer V ho ins.length E Z o0 _ c0 ins[0] (Qcd j J K vc) w (Or.inr e) D N.1 h0 rfl (by have:=k0.2.1;omega) I H (sz hr.2.1)
theorem Qjc (j:FJob) (O V U:Value) (ins:List Cs) (J K E:Nat) (w:World) (hj:Fw.JobOK j) (hc:Fw.StrsR w U j.cols) (M:Qf0 w J K ins) (af:∀c∈ins,Qep c) (hl:ins.length=j.ins.length) (he:Qem j ins=0):
 Calls Tryz.prog 97 #[.agg (Qcd j O V U).cells,.slice (some ⟨J,K,none⟩) ins.length E] w fun e w'=>∃u,e=.returned u/\w'.ownsRow w.heap.size 64 2 u (Qba j ins).length (Qal (Qba j ins))/\Below w.heap.size w w':=by
 obtain⟨f2,f7,f8,fi,fo⟩:=hj.fm;have h:0<ins.length:=by
  rw[hl]
  by_cases e5:j.code=5
  ·obtain⟨a,b,e⟩:=fi (Or.inl e5);rw[e];simp
  ·by_cases e7:j.code=7
   ·obtain⟨a,b,e⟩:=fi (Or.inr e7);rw[e];simp
   ·obtain⟨a,e⟩:=fo e5 e7;rw[e];simp
 obtain⟨u0,N,b0,o0,c0,rfl,am,I,H⟩:=M.2 0 h;have k0:=af _ (List.getElem_mem h);rw[Nat.add_zero] at N;unfold Qem at he;unfold Qba;have D:∀hcode,_:=fun hcode=>QbF J K ins.length E b0 o0 _ c0 ins[0] (Qcd j O V U) w hcode h M.1 N rfl (by have:=k0.2.1;omega) I H
 rcases hj.code with e|e|e|e|e|e|e|e|e
 ·rw[if_neg (by omega),if_neg (by omega),QcL h];exact D (Or.inl e)
 ·rw[if_neg (by omega),if_neg (by omega),QcL h];exact D (Or.inr (Or.inr (Or.inl e)))
 ·rw[if_neg (by omega),if_neg (by omega),if_pos (Or.inl e),QcL h] at he;rw[if_pos (Or.inl e),QcL h];exact QeN J K ins.length E b0 o0 _ c0 ins[0] (j.cols.map ba) (Qcd j O V U) w e h M.1 N (QcZ hc hj.cl) he rfl (by have:=k0.2.1;omega) I H
 ·rw[if_neg (by omega),if_neg (by omega),QcL h];exact D (Or.inr (Or.inr (Or.inr (Or.inl e))))
 ·rw[if_neg (by omega),if_neg (by omega),QcL h];exact D (Or.inr (Or.inr (Or.inr (Or.inr (Or.inl e)))))
 ·rw[if_neg (by omega),if_neg (by omega),QcL h];exact D (Or.inr (Or.inr (Or.inr (Or.inr (Or.inr e)))))
 ·obtain⟨a,b,ei⟩:=fi (Or.inr e);have h2:ins.length=2:=by rw[hl,ei];rfl
  have F:1<ins.length:=by omega
  obtain⟨u1,h1,b1,o1,c1,rfl,ab,ak,al⟩:=M.2 1 F;have k1:=af _ (List.getElem_mem F);obtain⟨x,y,Z⟩:=f7 e;rw[Z] at hc he⊢;obtain⟨cb,co,cc,rfl,ah,s0,s1⟩:=strs_two hc;rw[if_neg (by omega),if_neg (by omega),if_neg (by omega),if_neg (by omega),if_pos e,QcL h,QoF F] at he;rw[if_neg (by omega),if_pos e,QcL h,QoF F,h2];obtain⟨q,hq,-⟩:=Qm6 he k0 k1;have hq':Qaq ins[1] ([x,y].getD 1 [])=some q:=hq;rw[hq'];exact QeQ J K E b0 o0 c0 b1 o1 c1 cb co cc q ins[0] ins[1] (ba y) (Qcd j O V _) w e rfl ah s1 M.1 N h1 hq (by have:=k0.2.1;omega) I H (by have:=k1.2.1;omega) ab ak al
 ·obtain⟨x,y,Z,eo⟩:=f8 e;rw[Z] at he;rw[if_neg (by omega),if_neg (by omega),if_neg (by omega),if_neg (by omega),if_neg (by omega),if_pos e,QcL h] at he;rw[if_pos (Or.inr e),QcL h];exact QcT J K ins.length E b0 o0 _ c0 ins[0] (j.cols.map ba) (Qcd j O V U) w e h M.1 N (QcZ hc hj.cl) (by rw[Z];exact grp_list he) rfl (by have:=k0.2.1;omega) I H
 ·rw[if_neg (by omega),if_neg (by omega),QcL h];exact D (Or.inr (Or.inl e))
theorem strs_slice {w:World} {v:Value} {xs:List By} (h:Fw.StrsR w v xs):∃a c,v=.slice a xs.length c:=by
 rcases h with ⟨rfl,rfl⟩|⟨b,o,c,rfl,-⟩
 ·exact⟨none,0,rfl⟩
 ·exact⟨_,c,rfl⟩
theorem Qf1 {j:FJob} (y:Fw.JobOK j):Qa3 j.code=((j.ins.length:Int),((if j.code=9 then 2 else 1:Nat):Int))/\j.ins.length≠0:=by
 obtain⟨F,H,I,E,D⟩:=y.fm;unfold Qa3;rcases y.code with e|e|e|e|e|e|e|e|e
 all_goals first
  |(obtain⟨a,b,h⟩:=E (by omega);rw[h,e];exact⟨rfl,by simp⟩)
  |(obtain⟨a,h⟩:=D (by omega) (by omega);rw[h,e];exact⟨rfl,by simp⟩)
def ColsR (j:FJob) (ins:List Cs) (w:World) (e:Ending) (w':World):Prop:=Below w.heap.size w w'/\
 ((Qbi j ins≠0/\e=.returned (.tuple #[.slice none 0 0,.iface 37 (.int .i64 (Qbi j ins))]))\/
  (Qbi j ins=0/\∃v us,e=.returned (.tuple #[v,.nilIface])/\w'.ownsRow w.heap.size 51 1 v j.outs.length us/\Qbk w' w.heap.size us (Qba j ins)))
theorem QoG (j:FJob) (E H F:Value) (ins:List Cs) (y D h:Nat) (w:World) (U:Fw.JobOK j) (ac:Fw.StrsR w E j.outs) (hc:Fw.StrsR w F j.cols) (Z:Qf0 w y D ins) (M:∀c∈ins,Qep c) (N:ins.length=j.ins.length):
 Calls Tryz.prog 59 #[.agg (Fw.jobV j E H F).toArray,.slice (some ⟨y,D,none⟩) ins.length h] w fun e w'=>ColsR j ins w e w':=by
 rw[<-Qj6];obtain⟨oa,V,J⟩:=strs_slice ac;obtain⟨O,af⟩:=Qf1 U
 by_cases hm:j.outs.length=(if j.code=9 then 2 else 1)
 ·have I:Qbi j ins=Qem j ins:=by unfold Qbi;rw[if_pos hm]
  rw[<-hm,<-N] at O
  by_cases h0:Qem j ins=0
  ·refine(cols_ok (some ⟨y,D,none⟩) oa h V (Qcd j E H F) ins.length j.outs.length (Qba j ins) w J O (by omega) (by rw[hm];split<;>omega) (fun W hW=>?_) (fun W hW=>?_)).mono ?_
   ·have:=Qig j E H F ins y D h W U (hc.below hW) (Z.below hW) M N;rw[h0,QeK] at this;exact this
   ·exact Qjc j E H F ins y D h W U (hc.below hW) (Z.below hW) M N h0
   ·rintro e w' ⟨v,us,rfl,h1,h2,K⟩;exact⟨K,Or.inr ⟨by rw[I];exact h0,v,us,rfl,h1,h2⟩⟩
  ·refine(Qdq (some ⟨y,D,none⟩) oa h V (Qcd j E H F) ins.length j.outs.length (Qem j ins) w J O (by omega) h0 (fun W hW=>Qig j E H F ins y D h W U (hc.below hW) (Z.below hW) M N)).mono ?_;rintro e w' ⟨rfl,K⟩;exact⟨K,Or.inl ⟨by rw[I];exact h0,by rw[I,QaT h0]⟩⟩
 ·have I:Qbi j ins=1:=by unfold Qbi;rw[if_neg hm]
  refine(QnP (some ⟨y,D,none⟩) oa ins.length h j.outs.length V (Qcd j E H F) j.ins.length _ w J O (Or.inr (Or.inr hm))).mono ?_;rintro e w' ⟨rfl,K⟩;exact⟨K,Or.inl ⟨by rw[I];decide,by rw[I,QaT (by decide)]⟩⟩
end Go.Proofs.YtjlgejennghhlaaGreatDoor.Pl
namespace Go.Proofs.YtjlgejennghhlaaGreatDoor.Pl
open Go.RowKit
open Fw (By FJob Flw ba)
def AtV (w:World) (v:Value) (n:Int):Prop:=∃p pl,v=.iface 100 (.pointer (some ⟨p,0,none⟩))/\w.cell? ⟨p,0,none⟩=some (.int .i64 n)/\w.cell? ⟨p,1,none⟩=some (.int .i64 pl)
theorem AtV.below {w w':World} {v:Value} {n:Int} (h:AtV w v n) (E:Below w.heap.size w w'):AtV w' v n:=by
 obtain⟨p,F,H,y,D⟩:=h;exact⟨p,F,H,cK E (World.block_lt_of_cell? w _ y) y,cK E (World.block_lt_of_cell? w _ D) D⟩
theorem Qih (n h:Int) (w:World):Calls Tryz.prog 51 #[.int .i64 n,.int .i64 h] w fun e w'=>∃p,e=.returned (.iface 100 (.pointer (some ⟨p,0,none⟩)))/\AtV w' (.iface 100 (.pointer (some ⟨p,0,none⟩))) n/\Below w.heap.size w w':=by
 go_enter Tryz.func51,Tryz.ntmps51;go_wp2;go_ret;exact⟨_,rfl,⟨_,h,rfl,World.cell?_alloc_at _ _ _ _ rfl,World.cell?_alloc_at _ _ _ _ rfl⟩,Qaa _ _⟩
theorem QqF (a b:By):((ba a).toList==(ba b).toList)=(a==b):=by
 rw[ByteArray.toList_eq,ByteArray.toList_eq]
theorem row_slice {w:World} {v:Value} {n z:Nat} {P:Nat->World->Nat->Nat->Prop} (h:Fw.RowR w v n z P):∃a c,v=.slice a n c:=by
 rcases h with ⟨rfl,rfl⟩|⟨b,c,rfl,-⟩
 ·exact⟨_,_,rfl⟩
 ·exact⟨_,_,rfl⟩
theorem Qii (y D:Value) (h:Option Addr) (n c k:Nat) (w:World) (E:k<n):Calls Tryz.prog 91 #[.agg #[y,.slice h n c,D],.int .i64 (k:Nat)] w fun e w'=>e=.returned (.bool true)/\Below w.heap.size w w':=by
 have H:decide ((0:Int)<=(k:Int))=true:=by simp
 have F:decide ((k:Int)<(n:Int))=true:=by simp;omega
 go_enter Tryz.func91,Tryz.ntmps91;go_wp2;go_ret;exact⟨rfl,Qaa _ _⟩
def foundI (r:Int) (b:Bool):Prop:=-1<=r/\r<=1000/\(decide (0<=r))=b
theorem any_step {α:Type} {p:α->Bool} {l:List α} {k:Nat} (h:k<l.length) (D:(l.take k).any p=false) (y:p l[k]=false):(l.take (k+1)).any p=false:=by
 rw[List.take_succ_eq_append_getElem h,List.any_append,D];simp[y]
theorem any_hit {α:Type} {p:α->Bool} {l:List α} {k:Nat} (h:k<l.length) (y:p l[k]=true):l.any p=true:=by
 rw[List.any_eq_true];exact⟨_,List.getElem_mem h,y⟩
theorem Qk5 (at_:Int) (x y:ByteArray) (D:Value) (C:Nat) (r:Bool) (w:World) (h:w.cell? ⟨C,0,none⟩=some (.string y)) (H:(x.toList==y.toList)=r):Calls Tryz.prog 124 #[.agg #[.int .i64 at_,.string x,D],.pointer (some ⟨C,0,none⟩)] w fun e w'=>e=.returned (.bool r)/\Below w.heap.size w w':=by
 have E:=World.block_lt_of_cell? w _ h;have F:(w.alloc (.cells #[.int .i64 at_,.string x,D] 57)).cell? ⟨C,0,none⟩=some (.string y):=by rw[World.cell?_alloc_lt _ _ ⟨C,0,none⟩ E];exact h
 clear h;go_enter Tryz.func124,Tryz.ntmps124;go_wp2;go_ret;exact⟨rfl,Qaa _ _⟩
theorem Qm8 (vi:Value) (l:List Fw.FIn) (nm:By) (C:Nat) (w:World) (h:Fw.RowR w vi l.length 3 (Fw.InAt l)) (ad:l.length<=100) (Z:w.cell? ⟨C,0,none⟩=some (.string (ba nm))):
 Calls Tryz.prog 69 #[vi,.func (.func 124) #[] #[.pointer (some ⟨C,0,none⟩)]] w fun e w'=>∃r:Int,e=.returned (.int .i64 r)/\foundI r (l.any fun i=>i.name==nm)/\Below w.heap.size w w':=by
 obtain⟨ia,ic,rfl⟩:=row_slice h;obtain⟨n,U⟩:∃n,l.length=n:=⟨_,rfl⟩;have HN:=Hk U;have HR:=Hk h;have HC:=Hk Z;rw[U] at ad⊢;clear U h Z;go_enter Tryz.func69,Tryz.ntmps69;go_wp2;go_loopw [8] (fun i wr=>∃k:Nat,k<=n/\i=.int .i64 k/\(l.take k).any (fun i=>i.name==nm)=false/\Below w.heap.size w wr) (fun i _=>n-(intOf i).toNat)
 case atStart=>exact⟨0,Nat.zero_le _,rfl,rfl,Below.refl _ _⟩
 case round=>
  obtain⟨k,hk,rfl,M,y⟩:=hrel;have HA:=Hk M;clear M
  by_cases hlt:k<n
  ·have D:k<l.length:=by have:=HN.out;omega
   rcases HR.out with ⟨-,I⟩|⟨b,c',I,ak,N,H⟩
   ·rw[I] at D;exact absurd D (by simp)
   simp only[Value.slice.injEq] at I;obtain⟨rfl,-,rfl⟩:=I;obtain⟨a,v,ha,d0,d1,V,-⟩:=H k D;have I:=cK y N d0;have e1:=cK y N d1;have e2:=cK y N V;obtain⟨_,K⟩:=List.getElem?_eq_some_iff.1 ha;have hl:=World.block_lt_of_cell? w _ HC.out;have O:=Hk (Qk5 (a.at_:Nat) (ba a.name) (ba nm) v C (a.name==nm) wr (cK y hl HC.out) (QqF _ _));have HX:Hid (∀p,(a.name==nm)=p->(fun i:Fw.FIn=>i.name==nm) l[k]=p):=Hk (fun p hp=>by rw[K];exact hp);generalize ba a.name=x at*;have F:=Hk y;clear y H d0 d1 V ha K
   cases hp:(a.name==nm)
   all_goals have HP:=Hk (HX.out _ hp)
   all_goals rw[hp] at O
   all_goals clear hp HX
   ·go_wp2_with (go_at_call 124;refine O.out.mono ?_;rintro e w2 ⟨rfl,E⟩;have J:=Hk (F.out.trans (E.mono F.out.size));clear E);go_roundw
    case rel=>exact⟨k+1,by omega,by go_num,any_step D HA.out HP.out,J.out⟩
    case measure=>simp[intOf];omega
   ·go_wp2_with (go_at_call 124;refine O.out.mono ?_;rintro e w2 ⟨rfl,E⟩;have J:=Hk (F.out.trans (E.mono F.out.size));clear E);go_ret;exact⟨k,rfl,⟨by omega,by omega,by rw[any_hit D HP.out];simp⟩,J.out⟩
  ·go_wp2;go_ret;exact⟨-1,rfl,⟨by omega,by omega,by have:=HA.out;rw[List.take_of_length_le (by have:=HN.out;omega)] at this;rw[this];rfl⟩,y⟩
theorem Qm9 (y:Value) (l:List Fw.FIn) (nm:By) (C:Nat) (w:World) (h:Fw.RowR w y l.length 3 (Fw.InAt l)) (F:l.length<=100) (D:w.cell? ⟨C,0,none⟩=some (.string (ba nm))):
 Calls Tryz.prog 33 #[y,.func (.func 124) #[] #[.pointer (some ⟨C,0,none⟩)]] w fun e w'=>e=.returned (.bool (l.any fun i=>i.name==nm))/\Below w.heap.size w w':=by
 have I:=Hk (Qm8 y l nm C w h F D);clear h D;go_enter Tryz.func33,Tryz.ntmps33;go_wp2_with (go_at_call 69;refine I.out.mono ?_;rintro e J ⟨r,rfl,H,E⟩);go_ret;exact⟨ret_bool H.2.2,E⟩
theorem given_any (f:Flw) (E I H:Value) (nm:By) (w:World) (h:Fw.FlowRd w f E I H) (U:f.ins.length<=16):
 Calls Tryz.prog 93 #[.agg #[E,I,H],.string (ba nm)] w fun e w'=>e=.returned (.bool (Qhq f nm))/\Below w.heap.size w w':=by
 obtain⟨J,y⟩:∃x,x=(w.alloc (.cells #[E,I,H] 29)).alloc (.cells #[.string (ba nm)] 9):=⟨_,rfl⟩;have D:Below w.heap.size w J:=by rw[y];exact(Qaa _ _).alloc (by simp) _
 have F:=Qm9 E f.ins nm (w.heap.size+1) J ((h.below D).ins) (by omega) (by rw[y];exact World.cell?_alloc_at _ _ _ _ (by simp));have O:=mkF;rw[y] at F;have HI:=Hk F;rw[y] at D;have N:=Hk D;have M:Hid ((f.ins.any fun i=>i.name==nm)=Qhq f nm):=Hk rfl;obtain⟨ia,Z,rfl⟩:=row_slice h.ins;generalize ba nm=x at*;clear F D h y;go_enter Tryz.func93,Tryz.ntmps93;go_wp2_with (first|(go_at_call 33;refine HI.out.mono ?_;rintro e V ⟨rfl,K⟩));go_ret;exact⟨by rw[M.out];rfl,bel_then N.out K⟩
theorem Qf2 {w:World} {f:Flw} {U I O:Value} (h:Fw.FlowRd w f U I O) {k:Nat} (F:k<f.jobs.length):∃b c,I=.slice (some ⟨b,0,none⟩) f.jobs.length c/\f.jobs.length<=c/\b<w.heap.size/\∃y E D,w.rangeAt b (k*15) (Fw.jobV f.jobs[k] y E D)/\Fw.StrsR w y f.jobs[k].outs/\Fw.StrsR w E f.jobs[k].ins/\Fw.StrsR w D f.jobs[k].cols:=by
 rcases h.jobs with ⟨-,e⟩|⟨b,c,e,hc,Z,hx⟩
 ·rw[e] at F;exact absurd F (by simp)
 ·obtain⟨a,y,E,D,J,N,K,V,M⟩:=hx k F;obtain⟨_,H⟩:=List.getElem?_eq_some_iff.1 J;subst H;exact⟨b,c,e,hc,Z,y,E,D,N,K,V,M⟩
theorem QqG (l:List By) (n:By):inS (l.map ba) n=l.contains n:=by
 unfold inS;rw[List.any_map,List.contains_eq_any_beq]
 congr 1
 funext x
 show((ba x).data.toList==n)=(n==x)
 rw[Bool.eq_iff_iff,beq_iff_eq,beq_iff_eq];exact⟨fun h=>h.symm,fun h=>h.symm⟩
theorem QoH {w:World} {v:Value} {l:List By} (h:Fw.StrsR w v l) (hl:l.length<=100000) (x:ByteArray):
 Calls Tryz.prog 71 #[v,.string x] w fun e w'=>(∃i:Int,e=.returned (.int .i64 i)/\(0<=i↔inS (l.map ba) x.data.toList=true)/\-1<=i)/\w'=w:=by
 obtain⟨va,vc,rfl⟩:=strs_slice h;obtain⟨n,K⟩:∃n,l.length=n:=⟨_,rfl⟩;have O:=Hk K;have HS:=Hk h;rw[K] at hl⊢;clear K h;go_enter Tryz.func71,Tryz.ntmps71;go_wp2
 go_loop [8] (fun i=>∃k:Nat,k<=n/\i=.int .i64 k/\((l.map ba).take k).any (fun s=>s.data.toList==x.data.toList)=false) (fun i=>n-(intOf i).toNat)
 case atStart=>exact⟨0,Nat.zero_le _,rfl,rfl⟩
 case round=>
  obtain⟨k,hk,rfl,I⟩:=hrel;have N:=Hk I;clear I
  by_cases hlt:k<n
  ·have D:k<l.length:=by have:=O.out;omega
   have H:k<(l.map ba).length:=by rw[List.length_map];exact D
   rcases HS.out with ⟨-,F⟩|⟨b,o,c,F,Z,hb,U⟩
   ·rw[F] at D;exact absurd D (by simp)
   simp only[Value.slice.injEq] at F;obtain⟨rfl,-,rfl⟩:=F;have V:=U k D;have E:Hid (∀q,(x.toList==(ba l[k]).toList)=q->(fun s:ByteArray=>s.data.toList==x.data.toList) (l.map ba)[k]=q):=Hk (fun q hq=>by
    rw[List.getElem_map,<-hq,ByteArray.toList_eq,ByteArray.toList_eq,Bool.eq_iff_iff,beq_iff_eq,beq_iff_eq];exact⟨fun z=>z.symm,fun z=>z.symm⟩)
   obtain⟨y,J⟩:∃y,Fw.ba l[k]=y:=⟨_,rfl⟩;rw[show ba l[k]=y from J] at E;rw[J] at V;clear J U
   cases hp:(x.toList==y.toList)
   ·have M:=Hk (E.out _ hp);clear E;go_wp2
    go_round
    case rel=>exact⟨k+1,by omega,by go_num,any_step H N.out M.out⟩
    case measure=>simp[intOf];omega
   ·have M:=Hk (E.out _ hp);clear E;go_wp2;go_ret;exact⟨⟨(k:Int),rfl,⟨fun _=>any_hit H M.out,fun _=>by omega⟩,by omega⟩,rfl⟩
  ·go_wp2;go_ret;refine⟨⟨-1,rfl,⟨fun h=>absurd h (by omega),fun h=>?_⟩,by omega⟩,rfl⟩;have:=N.out;rw[List.take_of_length_le (by rw[List.length_map];have:=O.out;omega)] at this;exact absurd (this.symm.trans h) (by decide)
theorem Qhb {w:World} {v:Value} {l:List By} (h:Fw.StrsR w v l) (E:l.length<=100000) (n:By):Calls Tryz.prog 37 #[v,.string (ba n)] w fun e w'=>e=.returned (.bool (l.contains n))/\w'=w:=by
 have HI:=Hk (QoH h E (ba n));rw[<-QqG];obtain⟨r,y⟩:∃r,inS (l.map ba) n=r:=⟨_,rfl⟩;rw[show inS (l.map ba) (ba n).data.toList=r from y] at HI;rw[y];generalize ba n=x at*;clear h y;go_enter Tryz.func37,Tryz.ntmps37;go_wp2_with (go_at_call 71;refine HI.out.mono ?_;rintro e H ⟨⟨i,rfl,D,F⟩,rfl⟩)
 all_goals go_ret
 all_goals refine⟨ret_bool ?_,rfl⟩
 all_goals
  rw[Bool.eq_iff_iff,<-D]
  try simp
end Go.Proofs.YtjlgejennghhlaaGreatDoor.Pl
namespace Go.Proofs.YtjlgejennghhlaaGreatDoor.Pl
open Go.RowKit
open Fw (By FJob Flw ba)
def Qcx (w:World) (F:Nat) (vi vj vo:Value):Prop:=w.cell? ⟨F,0,none⟩=some vi/\w.cell? ⟨F,1,none⟩=some vj/\w.cell? ⟨F,2,none⟩=some vo
theorem Qcx.lt {w:World} {F:Nat} {D y E:Value} (h:Qcx w F D y E):F<w.heap.size:=World.block_lt_of_cell? w _ h.1
theorem Qcx.below {w w':World} {F:Nat} {E D H:Value} (h:Qcx w F E D H) (y:Below w.heap.size w w'):Qcx w' F E D H:=
 ⟨cK y h.lt h.1,cK y h.lt h.2.1,cK y h.lt h.2.2⟩
theorem Qcx.new (w:World) (y h D:Value) (T:TypeId):Qcx (w.alloc (.cells #[y,h,D] T)) w.heap.size y h D:=
 ⟨World.cell?_alloc_at _ _ _ _ rfl,World.cell?_alloc_at _ _ _ _ rfl,World.cell?_alloc_at _ _ _ _ rfl⟩
theorem cell_below {w w':World} {p:Addr} {v:Value} (h:w.cell? p=some v) (y:Below w.heap.size w w'):w'.cell? p=some v:=(y.cell (World.block_lt_of_cell? w _ h)).trans h
theorem Qk6 (f:Flw) (E vj D:Value) (F N k:Nat) (nm:By) (w:World) (h:Fw.FlowRd w f E vj D) (hf:Fw.FlwOK f) (hF:Qcx w F E vj D) (hN:w.cell? ⟨N,0,none⟩=some (.string (ba nm))) (I:k<f.jobs.length):
 Calls Tryz.prog 92 #[.int .i64 (k:Nat),.pointer (some ⟨F,0,none⟩),.pointer (some ⟨N,0,none⟩)] w fun e w'=>e=.returned (.bool (mkB f nm k))/\Below w.heap.size w w':=by
 obtain⟨b,c,rfl,ak,hb,J,ai,ac,K,ho,hi,hc⟩:=Qf2 h I;have M:mkB f nm k=f.jobs[k].outs.contains nm:=by unfold mkB;rw[List.getElem?_eq_getElem I]
 have aa:=(hf.jobs _ (List.getElem_mem I)).ol;have HJ:Hid (∀V,Below w.heap.size w V->Calls Tryz.prog 91 #[.agg #[E,.slice (some ⟨b,0,none⟩) f.jobs.length c,D],.int .i64 (k:Nat)] V fun e w'=>e=.returned (.bool true)/\Below V.heap.size V w'):=Hk fun V _=>Qii E D _ _ c k V I
 have HC:Hid (∀V,Below w.heap.size w V->Calls Tryz.prog 37 #[J,.string (ba nm)] V fun e w'=>e=.returned (.bool (mkB f nm k))/\w'=V):=Hk fun V hV=>by
  rw[M];exact Qhb (ho.below hV) (by omega) nm
 have Z:w.cell? ⟨b,k*15+2,none⟩=some J:=K 2 _ rfl;have U:Hid (∀V,Below w.heap.size w V->Qcx V F E (.slice (some ⟨b,0,none⟩) f.jobs.length c) D/\V.cell? ⟨N,0,none⟩=some (.string (ba nm))/\V.cell? ⟨b,k*15+2,none⟩=some J):=Hk fun V hV=>⟨hF.below hV,cell_below hN hV,cell_below Z hV⟩
 have G0:=Hk (U.out w.drew (Below.refl _ w).drew);have y:Hid (Below w.heap.size w w.drew):=Hk (Below.refl _ w).drew;have ar:(k:Int)<(f.jobs.length:Int):=by omega
 clear M K h ho hi hc Z hF hN aa hf;generalize f.jobs.length=n at*;generalize mkB f nm k=r at*;generalize ba nm=x at*;go_enter Tryz.func92,Tryz.ntmps92;go_wp2;unfold Qcx at G0 U
 go_region_held3 (fun V=>(V.cell? ⟨F,0,none⟩=some E/\V.cell? ⟨F,1,none⟩=some (.slice (some ⟨b,0,none⟩) n c)/\V.cell? ⟨F,2,none⟩=some D)/\V.cell? ⟨N,0,none⟩=some (.string x)/\V.cell? ⟨b,k*15+2,none⟩=some J) (first|exact G0.out|exact G1.out) (first|(go_at_call 91;refine(HJ.out _ y.out).mono ?_;rintro e1 w1 ⟨rfl,O⟩;have H:=Hk (y.out.trans (O.mono y.out.size));have G1:=Hk (U.out w1 H.out);clear O)|(go_at_call 37;refine(HC.out _ (by first|exact H.out|exact y.out)).mono ?_;rintro e2 w2 ⟨rfl,rfl⟩))
 all_goals go_wp2
 all_goals go_ret
 all_goals exact⟨rfl,H.out⟩
def Qc8 (w:World) (v:Value) (l:List Nat):Prop:=(v=.slice none 0 0/\l=[])\/∃b o c,v=.slice (some ⟨b,o,none⟩) l.length c/\l.length<=c/\b<w.heap.size/\∀j (h:j<l.length),w.cell? ⟨b,o+j,none⟩=some (.int .i64 (l[j]:Nat))
theorem Qc8.below {w w':World} {v:Value} {l:List Nat} (h:Qc8 w v l) (D:Below w.heap.size w w'):Qc8 w' v l:=by
 rcases h with h|⟨b,o,c,H,E,y,F⟩
 ·exact Or.inl h
 ·exact Or.inr ⟨b,o,c,H,E,Nat.lt_of_lt_of_le y D.size,fun j hj=>(D.cell (p:=⟨b,o+j,none⟩) y).trans (F j hj)⟩
theorem QcM {w:World} {v:Value} {l:List Nat} (h:Qc8 w v l):∃a c,v=.slice a l.length c:=by
 rcases h with ⟨rfl,rfl⟩|⟨b,o,c,rfl,-⟩
 ·exact⟨none,0,rfl⟩
 ·exact⟨_,c,rfl⟩
theorem Qna (f:Flw) (vi U vo v:Value) (l:List Nat) (F N:Nat) (nm:By) (w:World) (h:Fw.FlowRd w f vi U vo) (hf:Fw.FlwOK f) (hF:Qcx w F vi U vo) (hN:w.cell? ⟨N,0,none⟩=some (.string (ba nm))) (hl:Qc8 w v l) (J:∀k∈l,k<f.jobs.length) (ah:l.length<=100):
 Calls Tryz.prog 54 #[v,.func (.func 92) #[] #[.pointer (some ⟨F,0,none⟩),.pointer (some ⟨N,0,none⟩)]] w fun e w'=>∃r:Int,e=.returned (.int .i64 r)/\foundI r (l.any (mkB f nm))/\Below w.heap.size w w':=by
 obtain⟨ia,ic,rfl⟩:=QcM hl;obtain⟨n,hn⟩:∃n,l.length=n:=⟨_,rfl⟩;have HN:=Hk hn;have HL:=Hk hl;have HQ:Hid (∀V,Below w.heap.size w V->∀k,k<f.jobs.length->Calls Tryz.prog 92 #[.int .i64 (k:Nat),.pointer (some ⟨F,0,none⟩),.pointer (some ⟨N,0,none⟩)] V fun e w'=>e=.returned (.bool (mkB f nm k))/\Below V.heap.size V w'):=Hk fun V hV k hk=>Qk6 f vi U vo F N k nm V (h.below hV) hf (hF.below hV) (cell_below hN hV) hk
 have ae:=Hk J;rw[hn] at ah⊢;clear hn h hF hN hl hf J;go_enter Tryz.func54,Tryz.ntmps54;go_wp2;go_loopw [8] (fun i wr=>∃k:Nat,k<=n/\i=.int .i64 k/\(l.take k).any (mkB f nm)=false/\Below w.heap.size w wr) (fun i _=>n-(intOf i).toNat)
 case atStart=>exact⟨0,Nat.zero_le _,rfl,rfl,Below.refl _ _⟩
 case round=>
  obtain⟨k,hk,rfl,O,D⟩:=hrel;have HA:=Hk O;clear O
  by_cases J:k<n
  ·have y:k<l.length:=by have:=HN.out;omega
   rcases HL.out with ⟨-,M⟩|⟨b,o,c',M,aq,hb,I⟩
   ·rw[M] at y;exact absurd y (by simp)
   simp only[Value.slice.injEq] at M;obtain⟨rfl,-,rfl⟩:=M;have e1:=(D.cell (p:=⟨b,o+k,none⟩) hb).trans (I k y);have Z:=Hk (HQ.out wr D l[k] (ae.out _ (List.getElem_mem y)));have H:=Hk D;clear D I
   cases hp:mkB f nm l[k]
   all_goals have HP:=Hk hp
   all_goals rw[hp] at Z
   all_goals clear hp
   ·go_wp2_with (go_at_call 92;refine Z.out.mono ?_;rintro e w2 ⟨rfl,E⟩;have K:=Hk (H.out.trans (E.mono H.out.size));clear E);go_roundw
    case rel=>exact⟨k+1,by omega,by go_num,any_step y HA.out HP.out,K.out⟩
    case measure=>simp[intOf];omega
   ·go_wp2_with (go_at_call 92;refine Z.out.mono ?_;rintro e w2 ⟨rfl,E⟩;have K:=Hk (H.out.trans (E.mono H.out.size));clear E);go_ret;exact⟨k,rfl,⟨by omega,by omega,by rw[any_hit y HP.out];simp⟩,K.out⟩
  ·go_wp2;go_ret;exact⟨-1,rfl,⟨by omega,by omega,by have:=HA.out;rw[List.take_of_length_le (by have:=HN.out;omega)] at this;rw[this];rfl⟩,D⟩
theorem Qnb (f:Flw) (H I E v:Value) (l:List Nat) (F N:Nat) (nm:By) (w:World) (h:Fw.FlowRd w f H I E) (D:Fw.FlwOK f) (M:Qcx w F H I E) (O:w.cell? ⟨N,0,none⟩=some (.string (ba nm))) (K:Qc8 w v l) (y:∀k∈l,k<f.jobs.length) (U:l.length<=100):
 Calls Tryz.prog 94 #[v,.func (.func 92) #[] #[.pointer (some ⟨F,0,none⟩),.pointer (some ⟨N,0,none⟩)]] w fun e w'=>e=.returned (.bool (l.any (mkB f nm)))/\Below w.heap.size w w':=by
 have V:=Hk (Qna f H I E v l F N nm w h D M O K y U);clear h O M K y;go_enter Tryz.func94,Tryz.ntmps94;go_wp2_with (go_at_call 54;refine V.out.mono ?_;rintro e Z ⟨r,rfl,D,J⟩);go_ret;exact⟨ret_bool D.2.2,J⟩
end Go.Proofs.YtjlgejennghhlaaGreatDoor.Pl
namespace Go.Proofs.YtjlgejennghhlaaGreatDoor
open Go.RowKit
theorem Qj8:∀(l:List (List Vl)) (acc:List (List UInt8)×List (List Vl)),∀r∈(l.foldl QbW acc).2,r∈acc.2\/r∈l
 |[],_,r,h=>Or.inl h
 |a::l,acc,r,h=>by
  rw[List.foldl_cons] at h;rcases Qj8 l _ r h with h|h
  ·unfold QbW at h;split at h
   ·exact Or.inl h
   ·rcases List.mem_append.1 h with h|h
    ·exact Or.inl h
    ·simp at h;exact Or.inr (by simp[h])
  ·exact Or.inr (by simp[h])
theorem Qlb {cs:List Cl} {rs:List (List Vl)} (F:Qae cs rs=true):Qae cs (Qct rs).2=true:=by
 obtain⟨y,D,E⟩:=QaI F;unfold Qae;rw[y];simp only[Bool.true_and,Bool.and_eq_true,decide_eq_true_eq,List.all_eq_true];refine⟨Nat.le_trans (QgZ rs) D,fun r hm=>?_⟩;rcases Qj8 rs ([],[]) r hm with h|h
 ·simp at h
 ·exact E r h
end Go.Proofs.YtjlgejennghhlaaGreatDoor
